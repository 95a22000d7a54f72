/- Joined: Gx11, Gx12, Sd6, Sdc. -/
import Derived.Test.YtogknhogphkddaaGreatJ21
import Derived.Test.YtogknhogphkddaaGreatJ22
import Derived.Test.YtogknhogphkddaaGreatJ08
import Derived.Tactics
import Derived.Tactics2
import Derived.Recover
import Derived.Laws.EntriesVeiled
/- A grove's cut in memory: words, keepAll: contracts. -/
namespace Go.Proofs.YtogknhogphkddaaGreat
open Go.RowKit W Kp Stl

section
variable {c : Cp} {own own' : Nat → Nat} {vt vt' : Value} {n1 n2 n1' n2' : Nat} {hm hm' : Int → Option Addr × Nat} {st : Cst} {w w' : World} {is : List Bool}

def awd (T : List Tw1) (A : List Bool) (i : Nat) : Int := if A.getD i false = true then 1 + (T.getD i t0).2.1.length else 0

set_option maxRecDepth 100000 in
set_option maxHeartbeats 4000000 in
theorem wordsX_any (hg : Cg c) (h : Cm c own vt n1 n2 hm st w) (hlen : st.A.length = c.s.T.length) :
    Calls Tryz.prog 70 #[.pointer (some ⟨c.cp, 0, none⟩)] w fun e w' => e = .returned (.int .i64 (cwn c.s.T st.A c.s.T.length)) ∧ Below w.heap.size w w' := by
  rw [cwn_sm]
  have e0 : (fun i => if st.A.getD i false = true then 1 + ((c.s.T.getD i t0).2.1.length : Int) else 0) = awd c.s.T st.A := rfl
  rw [e0]
  obtain ⟨_, c1, _, _, _, lc⟩ := h.cells
  have tT := hg.t
  obtain ⟨w1, cnt, hrun, hR, gr, sz⟩ := h.am.range (t := 47) (e := 76) Tryz.underlying47
  have ab : ∀ i, 0 ≤ awd c.s.T st.A i ∧ awd c.s.T st.A i ≤ 13 := fun i => by
    have := hg.iv.tl i
    unfold awd
    split
    · omega
    · omega
  have z : sm_ (upl (fun x => (alF c.s.T c.l.fm st.A x).isSome) (awd c.s.T st.A)) c.s.T.length = 0 := by
    rw [← sm_zero c.s.T.length]
    refine sm_congr _ (fun i hi => ?_)
    have ea : (alF c.s.T c.l.fm st.A (i : Int)).isSome = st.A.getD i false := by rw [alF_some (by omega), isd, Int.toNat_natCast]
    unfold upl awd
    cases hb : st.A.getD i false
    · exact (if_neg (by dsimp only; rw [ea, hb]; decide)).trans (if_neg (by decide))
    · exact if_pos (by dsimp only; rw [ea, hb])
  have HB : Hid ((∀ i, 0 ≤ awd c.s.T st.A i ∧ awd c.s.T st.A i ≤ 13) ∧ (∀ i, (c.s.T.getD i t0).2.1.length ≤ 12) ∧ st.A.length = c.s.T.length) := ⟨ab, hg.iv.tl, hlen⟩
  have HS : Hid (Below w.heap.size w w1 ∧ Rgm w1 c.ab w.heap.size n1 (alF c.s.T c.l.fm st.A) (fun x => (alF c.s.T c.l.fm st.A x).isSome) cnt ∧ sm_ (upl (fun x => (alF c.s.T c.l.fm st.A x).isSome) (awd c.s.T st.A)) c.s.T.length = 0) := ⟨(Below.refl _ _).grown gr (Nat.le_refl _) (fun j hj => by cases hj), hR, z⟩
  clear h hg hlen hR gr ab z e0
  go_enter Tryz.func70, Tryz.ntmps70
  go_wp2_with fail
  go_loopw [3] (fun y wr => ∃ (left : Int → Bool) (k : Nat), y = .int .i64 (sm_ (upl left (awd c.s.T st.A)) c.s.T.length) ∧ Rgm wr c.ab w.heap.size n1 (alF c.s.T c.l.fm st.A) left k ∧ Below w.heap.size w wr) (fun _ wr => wr.rangeLeft c.ab w.heap.size)
  case atStart =>
    obtain ⟨b, r, z1⟩ := HS.out
    exact ⟨_, cnt, by rw [z1], r, b⟩
  case round =>
    clear HS hrun
    obtain ⟨left, k, rfl, hR, hb⟩ := hrel
    have mb := upl_bd left HB.out.1 c.s.T.length
    rcases hR.next 0 with ⟨h0, hl, hrun⟩ | ⟨x, v, w2, k2, hlx, hfx, hrun, hR2, hlt, gr2, sz2, hen⟩
    · have e1 : sm_ (upl left (awd c.s.T st.A)) c.s.T.length = sm_ (awd c.s.T st.A) c.s.T.length := sm_congr _ (fun i _ => by unfold upl; rw [hl, if_neg (by decide)])
      rw [e1]
      have HF : Hid (Below w.heap.size w wr) := hb
      clear hb hR hl
      go_wp2_with fail
      go_ret
      exact ⟨rfl, HF.out⟩
    · have hxa : 0 ≤ x ∧ st.A.getD x.toNat false = true := by
        unfold alF at hfx
        split at hfx
        · assumption
        · cases hfx
      obtain ⟨i, rfl⟩ := Int.eq_ofNat_of_zero_le hxa.1
      have hia : st.A.getD i false = true := by simpa using hxa.2
      have hil : i < c.s.T.length := by rw [← HB.out.2.2]; exact Ls_.lt hia
      have hv : v = thV c.s.T c.l.fm i := by
        unfold alF at hfx
        rw [if_pos hxa] at hfx
        exact (Option.some.inj hfx).symm
      dsimp only [thV, fsV] at hv
      subst hv
      have s1 := upl_step left (awd c.s.T st.A) i c.s.T.length hil hlx
      have mb2 := upl_bd (fun y => left y && !(y == (i : Int))) HB.out.1 c.s.T.length
      have l12 := HB.out.2.1 i
      have b2 : Below w.heap.size w w2 := hb.grown gr2 hb.size (fun j hj => by cases hj; exact Nat.le_refl _)
      have b3 := b2.alloc b2.size (.cells #[.int .i64 (c.s.T.getD i t0).1, .slice (c.l.fm i).1 (c.s.T.getD i t0).2.1.length (c.l.fm i).2] 76)
      have HE : Hid (∀ w3, Below (w2.alloc (.cells #[.int .i64 (c.s.T.getD i t0).1, .slice (c.l.fm i).1 (c.s.T.getD i t0).2.1.length (c.l.fm i).2] 76)).heap.size (w2.alloc (.cells #[.int .i64 (c.s.T.getD i t0).1, .slice (c.l.fm i).1 (c.s.T.getD i t0).2.1.length (c.l.fm i).2] 76)) w3 → Rgm w3 c.ab w.heap.size n1 (alF c.s.T c.l.fm st.A) (fun y => left y && !(y == (i : Int))) k2 ∧ Below w.heap.size w w3 ∧ k2 < k) := fun w3 hb3 => by
        have l1 := hR2.mh.lt
        have l2 := hR2.lt
        exact ⟨hR2.same ((hb3.block _ (by simp; omega)).trans (Below.heap_alloc _ _ _ l1)) ((hb3.block _ (by simp; omega)).trans (Below.heap_alloc _ _ _ l2)), b3.trans (hb3.mono b3.size), hlt⟩
      have HL : Hid (wr.rangeLeft c.ab w.heap.size = k) := hR.left_eq
      have P2 := wordsG_any (c.s.T.getD i t0).1 (c.l.fm i).1 (c.s.T.getD i t0).2.1.length (c.l.fm i).2 (by omega) (w2.alloc (.cells #[.int .i64 (c.s.T.getD i t0).1, .slice (c.l.fm i).1 (c.s.T.getD i t0).2.1.length (c.l.fm i).2] 76))
      rw [show awd c.s.T st.A i = 1 + ((c.s.T.getD i t0).2.1.length : Int) from by unfold awd; rw [if_pos hia]] at s1
      have S1 : Hid (_ = _) := s1
      clear hR hb hlx hfx hR2 gr2 hxa b2 b3 hia s1
      generalize sm_ (upl left (awd c.s.T st.A)) c.s.T.length = Y at *
      generalize (c.s.T.getD i t0).2.1.length = n at *
      generalize (c.s.T.getD i t0).1 = kd at *
      generalize (c.l.fm i).1 = ad at *
      generalize (c.l.fm i).2 = cp at *
      go_wp2_with fail
      refine P2.mono ?_
      clear P2
      rintro e w4 ⟨rfl, hb4⟩
      have HF : Hid (_ ∧ _) := HE.out w4 hb4
      clear hb4 HE
      go_wp2_with fail
      go_roundw
      case rel => exact ⟨_, k2, by rw [S1.out], HF.out.1, HF.out.2.1⟩
      case measure => rw [HF.out.1.left_eq, HL.out]; exact HF.out.2.2

theorem Mo.mark {T : List Tw1} {wt : List En} {s : Cst} (h : Mo T wt is s) (hW : Wiv T wt) (v : Int × Int) (hv : v.1 = 3 → 0 ≤ v.2 ∧ Alv T v.2.toNat) (hJ : v.1 = 3 → Ls_ is v.2.toNat) : Mo T wt is (mk1 s v) :=
  ⟨h.mi.mark hW v hv (fun h3 X _ hb => hb _ (hJ h3)), by rw [(mk1_hd s v).1, (mk1_hd s v).2]; exact h.hl, by rw [mk1_mm s v (fun h3 => by rw [h.mi.len]; exact (hv h3).2.1), (mk1_hd s v).2]; exact h.mm⟩
theorem Mo.marks {T : List Tw1} {wt : List En} (hW : Wiv T wt) : ∀ (l : List (Int × Int)) (s : Cst), Mo T wt is s → (∀ v ∈ l, v.1 = 3 → 0 ≤ v.2 ∧ Alv T v.2.toNat) → (∀ v ∈ l, v.1 = 3 → Ls_ is v.2.toNat) → Mo T wt is (mks s l)
  | [], _, h, _, _ => h
  | v :: l, s, h, hv, hJ => Mo.marks hW l (mk1 s v) (h.mark hW v (hv v (by simp)) (hJ v (by simp))) (fun u hu => hv u (List.mem_cons_of_mem _ hu)) (fun u hu => hJ u (List.mem_cons_of_mem _ hu))
end

end Go.Proofs.YtogknhogphkddaaGreat

/- A grove's cut in memory: keepAll: a contract. -/
namespace Go.Proofs.YtogknhogphkddaaGreat
open Go.RowKit W Kp Stl

structure Stay (c : Cp) (f : Nat) (b d : Array Value) (sb : Int → Bool) : Prop where
  ent : Ent f
  ca : ∀ (x : Int) (w : World), (∀ k, k < c.w0.heap.size → w.heap[k]? = c.w0.heap[k]?) → Calls Tryz.prog f (b.push (.int .i64 x) ++ d) w fun e w' => e = .returned (.bool (sb x)) ∧ Below w.heap.size w w'
structure Isk (c : Cp) (sb : Int → Bool) (is : List Bool) : Prop where
  st : ∀ i : Nat, Alv c.s.T i → sb i = true → Ls_ is i
  rt : ∀ v ∈ c.s.rs, v.1 = 3 → Ls_ is v.2.toNat
  up : ∀ i : Nat, Ls_ is i → (Alv c.s.T i ∧ sb i = true) ∨ ∃ v ∈ c.s.rs, v.1 = 3 ∧ v.2.toNat = i
  rv : ∀ v ∈ c.s.rs, v.1 = 3 → 0 ≤ v.2 ∧ Alv c.s.T v.2.toNat

section
variable {c : Cp} {own own' : Nat → Nat} {vt vt' : Value} {n1 n2 n1' n2' : Nat} {hm hm' : Int → Option Addr × Nat} {st : Cst} {w w' : World} {is : List Bool} {sb : Int → Bool}

theorem ev_pairs {w : World} {b : Nat} {l : List (Int × Int)} (h : w.heap[b]? = some (.cells (ev l).toArray 54 (0, 0))) : Lp w (some ⟨b, 0, none⟩) l := fun _ => by
  refine ⟨b, 0, rfl, lt_of_some h, fun i hi => ?_⟩
  obtain ⟨e1, e2⟩ := ev_get l i hi
  rw [Nat.zero_add]
  constructor
  · simp [World.cell?, h]
    simpa using e1
  · simp [World.cell?, h]
    simpa using e2
set_option maxRecDepth 100000 in
set_option maxHeartbeats 4000000 in
theorem keepAllX_any (hg : Cg c) (h : Cm c own vt n1 n2 hm st w) (mo : Mo c.s.T c.s.wt is st) {f : Nat} {b d : Array Value} (hs : Stay c f b d sb) (hi : Isk c sb is) :
    Calls Tryz.prog 68 #[.pointer (some ⟨c.cp, 0, none⟩), .func (.func f) b d] w fun e w' => ∃ own' vt' n1' n2' hm' st', e = .returned (.tuple #[]) ∧ Cm c own' vt' n1' n2' hm' st' w' ∧ Tk own w own' w' ∧ Mo c.s.T c.s.wt is st' ∧ st'.td = [] ∧ ∀ k, Ls_ is k → Ls_ st'.A k := by
  have hent := hs.ent
  unfold Ent at hent
  obtain ⟨c0, _, _, _, _, lc⟩ := h.cells
  have gv := h.gv hg.g
  obtain ⟨_, _, g2, _, _, _, _, _, lg⟩ := gv.cells
  obtain ⟨w1, cn, hrun, hR, gr, sz⟩ := gv.g2.mp.range (t := 47) (e := 76) Tryz.underlying47
  have bb : Below w.heap.size w w1 := (Below.refl _ _).grown gr (Nat.le_refl _) (fun j hj => by cases hj)
  have HG : Hid (Cg c ∧ Stay c f b d sb ∧ Isk c sb is) := ⟨hg, hs, hi⟩
  have HS : Hid (Rgm w1 c.l.mb w.heap.size c.l.n (gvF c.s.T c.l.fm) (fun x => (gvF c.s.T c.l.fm x).isSome) cn ∧ Below w.heap.size w w1 ∧ Cm c own vt n1 n2 hm st w1 ∧ Mo c.s.T c.s.wt is st) := ⟨hR, bb, h.below bb, mo⟩
  have HL : Hid (c.l.mb < c.w0.heap.size ∧ own w.heap.size = 0 ∧ c.w0.heap.size ≤ w.heap.size) := ⟨hg.g.g2.mp.lt, by
    cases e : own w.heap.size
    · rfl
    · exact absurd (h.lt w.heap.size (by rw [e]; omega)).2 (by omega), h.sz⟩
  clear hg hs hi h mo gv hR gr
  go_enter Tryz.func68, Tryz.ntmps68
  go_wp2_with fail
  go_loopw [4] (fun _ wr => ∃ (left : Int → Bool) (k : Nat) (own' : Nat → Nat) (vt' : Value) (n1' : Nat) (st' : Cst), Hid (Rgm wr c.l.mb w.heap.size c.l.n (gvF c.s.T c.l.fm) left k ∧ Cm c own' vt' n1' n2 hm st' wr ∧ Tk own w own' wr ∧ own' w.heap.size = 0 ∧ Mo c.s.T c.s.wt is st' ∧ ∀ i : Nat, Alv c.s.T i → left i = false → sb i = true → Ls_ st'.A i)) (fun _ wr => wr.rangeLeft c.l.mb w.heap.size)
  case atStart =>
    obtain ⟨r, _, g, mo⟩ := HS.out
    exact ⟨_, cn, own, vt, n1, st, r, g, Tk.of HS.out.2.1, HL.out.2.1, mo, fun i hi h0 _ => by
      rw [gvF_yes ⟨by omega, by simpa using hi⟩] at h0
      cases h0⟩
  case round =>
    clear hrun
    obtain ⟨left, k, own', vt', n1', st', HI⟩ := hrel
    obtain ⟨hR, g, t, ho, mo, hd⟩ := HI.out
    obtain ⟨hg, hs, hi⟩ := HG.out
    rcases hR.next 0 with ⟨h0, hl, hrun⟩ | ⟨x, v, w2, k2, hlx, hfx, hrun, hR2, hlt, gr2, sz2, hen⟩
    · -- roots
      have gv := g.gv hg.g
      obtain ⟨d0, _, _, _, _, _⟩ := g.cells
      obtain ⟨_, _, _, _, _, _, g6, _, _⟩ := gv.cells
      have rl := gv.g4.rl
      have P := markX_any hg.g hg.t mo.mi.len g (some ⟨c.l.rb, 0, none⟩) 12 c.s.rs ⟨ev_pairs gv.g4.rt, fun _ z e d => by
        cases e
        have h1 := hg.g.lt c.l.rb (by rw [hg.g.g4.ro]; decide)
        have h2 := (g.lt c.l.rb (by dsimp only at d; omega)).1
        omega⟩ hi.rv (by omega)
      rw [rl] at P
      have HM : Hid (∀ own2 vt2 n12 w2, Cm c own2 vt2 n12 n2 hm (mks st' c.s.rs) w2 → Tm own' wr own2 w2 → Calls Tryz.prog 84 #[.pointer (some ⟨c.cp, 0, none⟩)] w2 fun e w' => ∃ own' vt' n1' n2' hm' st', e = .returned (.tuple #[]) ∧ Cm c own' vt' n1' n2' hm' st' w' ∧ Tk own w own' w' ∧ Mo c.s.T c.s.wt is st' ∧ st'.td = [] ∧ ∀ k, Ls_ is k → Ls_ st'.A k) := fun own2 vt2 n12 w2 g2 t2 => by
        have mo2 := mo.marks (s := st') hg.iv c.s.rs hi.rv hi.rt
        refine (spreadX_any hg g2 mo2).mono ?_
        rintro e w' ⟨own3, vt3, n13, n23, hm3, st3, rfl, g3, t3, sp⟩
        refine ⟨own3, vt3, n13, n23, hm3, st3, rfl, g3, (t.trans t2.tk).trans t3, sp.mo, sp.td, fun i hk => sp.up i ?_⟩
        rcases hi.up i hk with ⟨h1, h2⟩ | ⟨v, hv, h3, e⟩
        · exact mks_up _ _ (hd i h1 (hl _) h2)
        · rw [← e]
          exact mks_in st' c.s.rs (fun v hv h3 => by rw [mo.mi.len]; exact (hi.rv v hv h3).2.1) v hv h3
      clear hR g t mo hd hg hs hi gv hl HI HG HL HS rl ho
      go_wp2_with fail
      refine P.mono ?_
      clear P
      rintro e w2 ⟨own2, vt2, n12, rfl, g2, t2⟩
      have P := HM.out own2 vt2 n12 w2 g2 t2
      clear HM g2 t2 d0 g6
      go_wp2_with fail
      refine P.mono ?_
      clear P
      rintro e w3 ⟨own3, vt3, n13, n23, hm3, st3, rfl, q⟩
      have HF : Hid (_) := q
      clear q
      go_wp2_with fail
      go_end0
      exact ⟨own3, vt3, n13, n23, hm3, st3, rfl, HF.out⟩
    · have hxa : 0 ≤ x ∧ Alv c.s.T x.toNat := by
        by_cases e : 0 ≤ x ∧ Alv c.s.T x.toNat
        · exact e
        · rw [gvF_no e] at hfx
          cases hfx
      obtain ⟨i, rfl⟩ := Int.eq_ofNat_of_zero_le hxa.1
      have hia : Alv c.s.T i := by simpa using hxa.2
      have hz := HL.out.2.2
      have f2 : Fr (fun b => b = w.heap.size) wr w2 := (Fr.refl _ wr).grown gr2 (fun j e => Or.inl (by cases e; rfl))
      have g2' : Cm c own' vt' n1' n2 hm st' w2 := g.keep f2.size (fun b hb => f2.block b (hb.elim (fun e => Nat.lt_of_lt_of_le e g.sz) (fun e => (g.lt b e).2)) (fun e => by
        subst e
        rcases hb with e | e
        · omega
        · exact e ho))
      have t2' : Tk own w own' w2 := ⟨t.fr.trans f2 (fun b e => Or.inr (by rw [e]; exact Nat.le_refl _)), t.nw⟩
      have P := hs.ca i w2 (fun k hk => g2'.ol k hk)
      have HR : Hid (wr.rangeLeft c.l.mb w.heap.size = k ∧ k2 < k) := ⟨hR.left_eq, hlt⟩
      have HN : Hid (∀ w3, Below w2.heap.size w2 w3 → sb i = false → Rgm w3 c.l.mb w.heap.size c.l.n (gvF c.s.T c.l.fm) (fun y => left y && !(y == (i : Int))) k2 ∧ Cm c own' vt' n1' n2 hm st' w3 ∧ Tk own w own' w3 ∧ own' w.heap.size = 0 ∧ Mo c.s.T c.s.wt is st' ∧ ∀ j : Nat, Alv c.s.T j → (left j && !((j : Int) == (i : Int))) = false → sb j = true → Ls_ st'.A j) := fun w3 hb3 hsb => by
        refine ⟨hR2.same (hb3.block _ hR2.mh.lt) (hb3.block _ hR2.lt), g2'.below hb3, t2'.trans (Tk.of hb3), ho, mo, fun j hj h0 hsj => ?_⟩
        by_cases e : j = i
        · subst e
          rw [hsb] at hsj
          cases hsj
        · refine hd j hj ?_ hsj
          rwa [show ((j : Int) == (i : Int)) = false from by simp; omega, Bool.not_false, Bool.and_true] at h0
      have HY : Hid (∀ w3, Below w2.heap.size w2 w3 → sb i = true → Calls Tryz.prog 83 #[.pointer (some ⟨c.cp, 0, none⟩), .slice (some ⟨w3.heap.size, 0, none⟩) 1 1] (w3.alloc (.cells #[.int .i64 3, .int .i64 i] 54)) fun e w' => ∃ own2 vt2 n12, e = .returned (.tuple #[]) ∧
          Rgm w' c.l.mb w.heap.size c.l.n (gvF c.s.T c.l.fm) (fun y => left y && !(y == (i : Int))) k2 ∧ Cm c own2 vt2 n12 n2 hm (mk1 st' (3, i)) w' ∧ Tk own w own2 w' ∧ own2 w.heap.size = 0 ∧ Mo c.s.T c.s.wt is (mk1 st' (3, i)) ∧ ∀ j : Nat, Alv c.s.T j → (left j && !((j : Int) == (i : Int))) = false → sb j = true → Ls_ (mk1 st' (3, i)).A j) := fun w3 hb3 hsb => by
        have hb4 := hb3.alloc hb3.size (.cells #[.int .i64 3, .int .i64 i] 54)
        refine (markX_any hg.g hg.t mo.mi.len (g2'.below hb4) (some ⟨w3.heap.size, 0, none⟩) 1 [(3, (i : Int))] (Rdl.one (g2'.below hb3) (3, (i : Int))) (fun u hu _ => by simp at hu; rw [hu]; exact hxa) (by simp)).mono ?_
        rintro e w' ⟨own2, vt2, n12, rfl, g5, t5⟩
        have hz2 : w.heap.size < w2.heap.size := hR2.lt
        have hz4 := hb4.size
        refine ⟨own2, vt2, n12, rfl, hR2.same ((t5.fr.block _ (Nat.lt_of_lt_of_le hR2.mh.lt hz4) (fun d => ?_)).trans (hb4.block _ hR2.mh.lt)) ((t5.fr.block _ (Nat.lt_of_lt_of_le hR2.lt hz4) (fun d => ?_)).trans (hb4.block _ hR2.lt)), g5, (t2'.trans (Tk.of hb4)).trans t5.tk, ?_, mo.mark hg.iv (3, (i : Int)) (fun _ => hxa) (fun _ => by simpa using hi.st i hia hsb), fun j hj h0 hsj => ?_⟩
        · have h1 := (g2'.lt c.l.mb (by omega)).1
          have h2 := HL.out.1
          omega
        · rw [ho] at d
          omega
        · rw [t5.old _ (Nat.lt_of_lt_of_le hz2 hz4)]
          exact ho
        · by_cases e : j = i
          · subst e
            exact mk1_in st' (3, (j : Int)) rfl (by rw [mo.mi.len]; simpa using hia.1)
          · refine mk1_up _ _ (hd j hj ?_ hsj)
            rwa [show ((j : Int) == (i : Int)) = false from by simp; omega, Bool.not_false, Bool.and_true] at h0
      obtain ⟨vk, va, vn, vc, hvv⟩ : ∃ vk va vn vc, v = .agg #[.int .i64 vk, .slice va vn vc] := by
        rw [gvF_yes hxa] at hfx
        exact ⟨_, _, _, _, (Option.some.inj hfx).symm⟩
      subst hvv
      clear hR g t mo hd hg hs hi hlx hfx hR2 hlt gr2 hxa hia hz f2 g2' t2' ho HI HG HS
      cases hsb : sb i
      · rw [hsb] at P
        have HN2 := HN
        go_wp2_with fail
        refine P.mono ?_
        clear P
        rintro e w3 ⟨rfl, hb3⟩
        have HF : Hid (_) := HN.out w3 hb3 hsb
        clear hb3 HN HY HN2
        go_wp2_with fail
        go_roundw
        case rel => exact ⟨_, k2, own', vt', n1', st', HF⟩
        case measure => rw [HF.out.1.left_eq, HR.out.1]; exact HR.out.2
      · rw [hsb] at P
        go_wp2_with fail
        refine P.mono ?_
        clear P
        rintro e w3 ⟨rfl, hb3⟩
        go_wp2_with fail
        refine (refValue_any i w3).mono ?_
        rintro e w4 ⟨rfl, hb4⟩
        have P := HY.out w4 (hb3.trans (hb4.mono hb3.size)) hsb
        clear hb3 hb4 HN HY
        go_wp2_with fail
        refine P.mono ?_
        clear P
        rintro e w5 ⟨own5, vt5, n15, rfl, q⟩
        have HF : Hid (_) := q
        clear q
        go_wp2_with fail
        go_roundw
        case rel => exact ⟨_, k2, own5, vt5, n15, _, HF⟩
        case measure => rw [HF.out.1.left_eq, HR.out.1]; exact HR.out.2
end

end Go.Proofs.YtogknhogphkddaaGreat

/- wholly, Settle: contracts, over whatever looks that do not panic. -/
namespace Go.Proofs.YtogknhogphkddaaGreat
open Go.RowKit W Kp Stl

theorem idle_any (a b c : Addr) (w : World) :
    CallsD Tryz.prog 110 #[.pointer (some a), .pointer (some b), .pointer (some c)] .returning w fun e u' w' => e = .returned (.tuple #[]) ∧ u' = .returning ∧ w' = w := by
  refine callsD_of_wpS Tryz.func110 rfl fun c₀ cs hu => ?_
  apply wpS_seq
  apply wpS_region
  simp [wpOpsS, go_sem, recoverD, hu, Tryz.ntmps110, Exit.thenS]
  refine wpS_cond (t := false) (by simp [Act.eval, Array.replicate]) ?_
  simp only [Bool.false_eq_true, if_false]
  refine wpS_of_wp (wp_skip ?_)
  cases c₀
  simp_all [bodyPostS, results, Tryz.results110]

set_option maxRecDepth 100000 in
set_option maxHeartbeats 400000 in
theorem wholly_any (f : Nat) (b c : Array Value) (hf : Ent f) (w : World) (p : Nat) (a0 a1 : Option Addr) (n0 k0 n1 k1 : Nat) (c0 : w.cell? ⟨p, 0, none⟩ = some (.slice a0 n0 k0)) (c1 : w.cell? ⟨p, 1, none⟩ = some (.slice a1 n1 k1)) (R : Bool → World → Prop)
    (h : ∀ w1, w1 = ((w.alloc (.cells #[.pointer (some ⟨p, 0, none⟩)] 48)).alloc (.cells #[.bool false] 4)).alloc (.cells #[.slice a0 n0 k0, .slice a1 n1 k1] 51) → Calls Tryz.prog f (b ++ c) w1 fun r w2 => ∃ bv, r = .returned (.bool bv) ∧ R bv w2 ∧ w2.heap[w.heap.size + 1]? = some (.cells #[.bool false] 4 (0, 0))) :
    Calls Tryz.prog 101 #[.pointer (some ⟨p, 0, none⟩), .func (.func f) b c] w fun e w' => ∃ bv w2, e = .returned (.bool bv) ∧ R bv w2 ∧ w2.heap[w.heap.size + 1]? = some (.cells #[.bool false] 4 (0, 0)) ∧ w' = w2.setCell ⟨w.heap.size + 1, 0, none⟩ (.bool bv) := by
  have hlt := World.block_lt_of_cell? w _ c0
  have H : Hid (∀ w1, w1 = ((w.alloc (.cells #[.pointer (some ⟨p, 0, none⟩)] 48)).alloc (.cells #[.bool false] 4)).alloc (.cells #[.slice a0 n0 k0, .slice a1 n1 k1] 51) → Calls Tryz.prog f (b ++ c) w1 fun r w2 => ∃ bv, r = .returned (.bool bv) ∧ R bv w2 ∧ w2.heap[w.heap.size + 1]? = some (.cells #[.bool false] 4 (0, 0))) := h
  clear h
  have hcf : ∀ (args : Array Value) (w : World), (callFunc f args).run Tryz.prog w = .ok (.enter f args) w := hf
  clear hf
  have hmf : ∀ (fn : Fn) (first cap : Array Value) (w : World), (Instr.makeFunc fn first cap).run Tryz.prog w = .ok (.func fn first cap) w := fun _ _ _ _ => rfl
  go_enter_defers Tryz.func101, Tryz.ntmps101
  go_wp2_with fail
  refine (H.out _ rfl).mono ?_
  rintro e w2 ⟨bv, rfl, hR, hk⟩
  have d0 : w2.cell? ⟨w.heap.size + 1, 0, none⟩ = some (.bool false) := by simp [World.cell?, hk]
  have d1 : w2.frozen? ⟨w.heap.size + 1, 0, none⟩ = false := by simp [World.frozen?, hk]
  go_wp2_with fail
  refine leaves_cons (f := 110) (args := #[.pointer (some ⟨w.heap.size + 1 + 1, 0, none⟩), .pointer (some ⟨w.heap.size, 0, none⟩), .pointer (some ⟨w.heap.size + 1, 0, none⟩)]) (by simp) (by simp [go_sem]) ?_
  refine (idle_any _ _ _ _).mono ?_
  rintro e u' w'' ⟨rfl, rfl, rfl⟩
  have d2 : (w2.setCell ⟨w.heap.size + 1, 0, none⟩ (.bool bv)).cell? ⟨w.heap.size + 1, 0, none⟩ = some (.bool bv) := World.cell?_setCell_same _ _ _ d0
  simp [Leaves, settle, results, Tryz.results101, go_sem, d2]
  cases bv
  · exact Or.inl ⟨rfl, w2, hR, hk, rfl⟩
  · exact Or.inr ⟨rfl, w2, hR, hk, rfl⟩

theorem ent_settle3 : Ent 102 := ent_of Tryz.func102 (by kernel_rfl) rfl

set_option maxRecDepth 100000 in
set_option maxHeartbeats 400000 in
theorem settle_more {σ : Type} (o : SdOb σ) (D : Int → Prop) (fa fk fn : Fv) (is : σ → Int → Bool) (kp : σ → Int → Int × σ) (nw : σ → Int → Int) (hL : Lks o D fa fk fn is kp nw) (r : List En) (adr : Option Addr) (cr : Nat) (hvr : o.vr = .slice adr r.length cr) (hr : r.length ≤ 90000) (hD : ∀ e ∈ r, D e.1 ∧ D e.2)
    (F : Nat → Prop) (s : σ) (w : World) (hwS : ∀ e ∈ o.wt (stS o is kp s r), D e.1 ∧ D e.2) (hqr : (o.wt s).length + r.length ≤ 90000) (hJ : o.J F s w) (hlp : Lp w adr r) :
    Calls Tryz.prog 86 #[.pointer (some ⟨o.p, 0, none⟩), .agg #[fa.v, fk.v, fn.v]] w fun e w' => ∃ a1 c1 a2 c2 F1 wm, e = .returned (.tuple #[]) ∧ o.J F1 (stS o is kp s r) wm ∧ (∀ k, F1 k → k ≠ o.p → w'.heap[k]? = wm.heap[k]?) ∧ wm.heap.size ≤ w'.heap.size ∧
      w'.heap[o.p]? = some (.cells #[.slice a1 (stR o is kp nw s r).length c1, .slice a2 (stQ o is kp nw s r).length c2] 51 (0, 0)) ∧ w'.ownsRow w.heap.size 100 2 (.slice a1 (stR o is kp nw s r).length c1) (stR o is kp nw s r).length (ev (stR o is kp nw s r)) ∧
      w'.ownsRow w.heap.size 100 2 (.slice a2 (stQ o is kp nw s r).length c2) (stQ o is kp nw s r).length (ev (stQ o is kp nw s r)) ∧ Fr F w w' ∧ (∀ k, F1 k → F k ∨ w.heap.size ≤ k) ∧ (∀ k, some k = (Value.slice a1 (stR o is kp nw s r).length c1).ownBlock → ¬ F1 k) ∧ (∀ k, some k = (Value.slice a2 (stQ o is kp nw s r).length c2).ownBlock → ¬ F1 k) ∧ (∀ k, some k = (Value.slice a1 (stR o is kp nw s r).length c1).ownBlock → some k ≠ (Value.slice a2 (stQ o is kp nw s r).length c2).ownBlock) := by
  obtain ⟨ad0, cap0, hp, _, hFp, _⟩ := o.side hJ
  rw [hvr] at hp
  have c0 : w.cell? ⟨o.p, 0, none⟩ = some (.slice adr r.length cr) := by simp [World.cell?, hp]
  have c1 : w.cell? ⟨o.p, 1, none⟩ = some (.slice ad0 (o.wt s).length cap0) := by simp [World.cell?, hp]
  have lp : o.p < w.heap.size := lt_of_some hp
  have HH : Hid (∀ w1, Below w.heap.size w w1 → Bxs w1 o.p (w.heap.size + 1) (w.heap.size + 2) w.heap.size fa fk fn → w1.heap[w.heap.size + 3]? = some (.cells #[comesV (w.heap.size + 2) (w.heap.size + 1) w.heap.size] 99 (0, 0)) → Calls Tryz.prog 102 #[.pointer (some ⟨w.heap.size, 0, none⟩), .pointer (some ⟨w.heap.size + 1, 0, none⟩), .pointer (some ⟨w.heap.size + 3, 0, none⟩), .pointer (some ⟨w.heap.size + 2, 0, none⟩)] w1 fun e w' => ∃ a1 c1 a2 c2 F1 wm, e = .returned (.bool true) ∧ o.J F1 (stS o is kp s r) wm ∧ Fr (fun k => k = o.p) wm w' ∧
      w'.heap[o.p]? = some (.cells #[.slice a1 (stR o is kp nw s r).length c1, .slice a2 (stQ o is kp nw s r).length c2] 51 (0, 0)) ∧ w'.ownsRow w1.heap.size 100 2 (.slice a1 (stR o is kp nw s r).length c1) (stR o is kp nw s r).length (ev (stR o is kp nw s r)) ∧
      w'.ownsRow w1.heap.size 100 2 (.slice a2 (stQ o is kp nw s r).length c2) (stQ o is kp nw s r).length (ev (stQ o is kp nw s r)) ∧ Fr F w1 w' ∧ (∀ k, F1 k → F k ∨ w1.heap.size ≤ k) ∧ (∀ k, some k = (Value.slice a1 (stR o is kp nw s r).length c1).ownBlock → ¬ F1 k) ∧ (∀ k, some k = (Value.slice a2 (stQ o is kp nw s r).length c2).ownBlock → ¬ F1 k) ∧ (∀ k, some k = (Value.slice a1 (stR o is kp nw s r).length c1).ownBlock → some k ≠ (Value.slice a2 (stQ o is kp nw s r).length c2).ownBlock)) := by
    intro w1 hb hB hc
    have q : ∀ k, w.heap.size ≤ k → ¬ F k := fun k hk h => by have := o.lt hJ k h; omega
    exact settle3_any o D fa fk fn is kp nw hL r adr cr hvr hr hD F s w1 hwS hqr _ _ _ _ (o.below hJ hb) hB hc (q _ (by omega)) (q _ (by omega)) (q _ (by omega)) (q _ (by omega)) ⟨by omega, by omega, by omega⟩ (hlp.below hb)
  have HJ : Hid (o.J F s w) := hJ
  clear hL hJ hp hvr hlp hFp
  go_enter Tryz.func86, Tryz.ntmps86
  go_wp2_with fail
  have hW : ∃ W4, W4 = (((w.alloc (.cells #[.pointer (some ⟨o.p, 0, none⟩)] 48)).alloc (.cells #[fa.v, fk.v, fn.v] 158)).alloc (.cells #[.func (.func 99) #[] #[.pointer (some ⟨w.heap.size + 1, 0, none⟩)]] 99)).alloc (.cells #[comesV (w.heap.size + 1 + 1) (w.heap.size + 1) w.heap.size] 99) := ⟨_, rfl⟩
  obtain ⟨W4, hW⟩ := hW
  have sz : W4.heap.size = w.heap.size + 4 := by rw [hW]; simp
  have hb4 : Below w.heap.size w W4 := by rw [hW]; exact ((((Below.refl _ w).alloc (Nat.le_refl _) _).alloc (by simp) _).alloc (by simp; omega) _).alloc (by simp; omega) _
  have g0 : W4.heap[w.heap.size]? = some (.cells #[.pointer (some ⟨o.p, 0, none⟩)] 48 (0, 0)) := by
    rw [hW, Below.heap_alloc _ _ _ (by simp; omega), Below.heap_alloc _ _ _ (by simp; omega), Below.heap_alloc _ _ _ (by simp)]
    exact heap_alloc_new _ _
  have g1 : W4.heap[w.heap.size + 1]? = some (.cells #[fa.v, fk.v, fn.v] 158 (0, 0)) := by
    rw [hW, Below.heap_alloc _ _ _ (by simp), Below.heap_alloc _ _ _ (by simp)]
    simpa using heap_alloc_new (w.alloc (.cells #[.pointer (some ⟨o.p, 0, none⟩)] 48)) (.cells #[fa.v, fk.v, fn.v] 158)
  have g2 : W4.heap[w.heap.size + 2]? = some (.cells #[.func (.func 99) #[] #[.pointer (some ⟨w.heap.size + 1, 0, none⟩)]] 99 (0, 0)) := by
    rw [hW, Below.heap_alloc _ _ _ (by simp)]
    simpa using heap_alloc_new ((w.alloc (.cells #[.pointer (some ⟨o.p, 0, none⟩)] 48)).alloc (.cells #[fa.v, fk.v, fn.v] 158)) (.cells #[.func (.func 99) #[] #[.pointer (some ⟨w.heap.size + 1, 0, none⟩)]] 99)
  have g3 : W4.heap[w.heap.size + 3]? = some (.cells #[comesV (w.heap.size + 1 + 1) (w.heap.size + 1) w.heap.size] 99 (0, 0)) := by
    rw [hW]
    simpa using heap_alloc_new (((w.alloc (.cells #[.pointer (some ⟨o.p, 0, none⟩)] 48)).alloc (.cells #[fa.v, fk.v, fn.v] 158)).alloc (.cells #[.func (.func 99) #[] #[.pointer (some ⟨w.heap.size + 1, 0, none⟩)]] 99)) (.cells #[comesV (w.heap.size + 1 + 1) (w.heap.size + 1) w.heap.size] 99)
  rw [← hW]
  have P := wholly_any 102 #[] #[.pointer (some ⟨w.heap.size, 0, none⟩), .pointer (some ⟨w.heap.size + 1, 0, none⟩), .pointer (some ⟨w.heap.size + 1 + 1 + 1, 0, none⟩), .pointer (some ⟨w.heap.size + 1 + 1, 0, none⟩)] ent_settle3 W4 o.p adr ad0 r.length cr (o.wt s).length cap0 ((hb4.cell (p := ⟨o.p, 0, none⟩) lp).trans c0) ((hb4.cell (p := ⟨o.p, 1, none⟩) lp).trans c1)
    (fun _ w2 => ∃ a1 c1 a2 c2 F1 wm, o.J F1 (stS o is kp s r) wm ∧ Fr (fun k => k = o.p) wm w2 ∧
      w2.heap[o.p]? = some (.cells #[.slice a1 (stR o is kp nw s r).length c1, .slice a2 (stQ o is kp nw s r).length c2] 51 (0, 0)) ∧ w2.ownsRow (w.heap.size + 7) 100 2 (.slice a1 (stR o is kp nw s r).length c1) (stR o is kp nw s r).length (ev (stR o is kp nw s r)) ∧
      w2.ownsRow (w.heap.size + 7) 100 2 (.slice a2 (stQ o is kp nw s r).length c2) (stQ o is kp nw s r).length (ev (stQ o is kp nw s r)) ∧ Fr F w w2 ∧ (∀ k, F1 k → F k ∨ w.heap.size + 7 ≤ k) ∧ (∀ k, some k = (Value.slice a1 (stR o is kp nw s r).length c1).ownBlock → ¬ F1 k) ∧ (∀ k, some k = (Value.slice a2 (stQ o is kp nw s r).length c2).ownBlock → ¬ F1 k) ∧ (∀ k, some k = (Value.slice a1 (stR o is kp nw s r).length c1).ownBlock → some k ≠ (Value.slice a2 (stQ o is kp nw s r).length c2).ownBlock))
    (by
      intro w1 hw1
      have s1 : w1.heap.size = w.heap.size + 7 := by rw [hw1]; simp; omega
      have b1 : Below W4.heap.size W4 w1 := by rw [hw1]; exact (((Below.refl _ W4).alloc (Nat.le_refl _) _).alloc (by simp) _).alloc (by simp; omega) _
      have hk : w1.heap[W4.heap.size + 1]? = some (.cells #[.bool false] 4 (0, 0)) := by
        rw [hw1, Below.heap_alloc _ _ _ (by simp)]
        simpa using heap_alloc_new (W4.alloc (.cells #[.pointer (some ⟨o.p, 0, none⟩)] 48)) (.cells #[.bool false] 4)
      have b2 : Below w.heap.size w w1 := hb4.trans (b1.mono (by omega))
      refine (HH.out w1 b2 ⟨(b1.block _ (by omega)).trans g1, (b1.block _ (by omega)).trans g2, (b1.block _ (by omega)).trans g0⟩ ((b1.block _ (by omega)).trans g3)).mono ?_
      rintro e w2 ⟨a1, c1, a2, c2, F1, wm, rfl, q1, q2, q3, q4, q5, q6, q7, q8, q9, q10⟩
      rw [s1] at q4 q5 q7
      refine ⟨true, rfl, ⟨a1, c1, a2, c2, F1, wm, q1, q2, q3, q4, q5, (Fr.of (X := F) b2).trans q6 (fun _ c => Or.inl c), q7, q8, q9, q10⟩, (q6.block _ (by omega) (fun h => ?_)).trans hk⟩
      have := o.lt HJ.out _ h
      omega)
  refine P.mono ?_
  clear P
  rintro e w3 ⟨bv, w2, rfl, ⟨a1, d1, a2, d2, F1, wm, q1, q2, q3, q4, q5, q6, q7, q8, q9, q10⟩, hk, rfl⟩
  obtain ⟨m, hm⟩ : ∃ m, m = W4.heap.size + 1 := ⟨_, rfl⟩
  rw [← hm]
  have Hm : Hid (m = w.heap.size + 5) := by show m = _; omega
  clear hm hk hb4 g0 g1 g2 g3 sz hW
  go_wp2_with fail
  go_end0
  have hm := Hm.out
  have kp9 : ∀ k, k ≠ m → (w2.setCell ⟨m, 0, none⟩ (.bool bv)).heap[k]? = w2.heap[k]? := fun k hk => Below.heap_setCell _ _ _ _ hk
  refine ⟨a1, d1, a2, d2, F1, wm, rfl, q1, fun k h1 h2 => ?_, ?_, (kp9 _ (by omega)).trans q3, ?_, ?_, q6.trans ((Fr.refl (fun k => k = m) w2).set _ 0 _ rfl) (fun i c => Or.inr (by omega)), fun k h => (q7 k h).imp id (fun h => by omega), q8, q9, q10⟩
  · refine (kp9 k ?_).trans (q2.block k (o.lt q1 k h1) h2)
    rcases q7 k h1 with h | h
    · have := o.lt HJ.out k h
      omega
    · omega
  · have := q2.size
    simpa [World.setCell] using this
  · exact row_base (row_keep q4 (fun k e => kp9 k (by have := (row_lt q4 k e).1; omega))) (fun k e => by have := (row_lt q4 k e).1; omega)
  · exact row_base (row_keep q5 (fun k e => kp9 k (by have := (row_lt q5 k e).1; omega))) (fun k e => by have := (row_lt q5 k e).1; omega)

end Go.Proofs.YtogknhogphkddaaGreat

/- A Side beside whatever its looks have of their own. -/
namespace Go.Proofs.YtogknhogphkddaaGreat
open Go.RowKit W Kp Stl

def mkSd {α : Type} (o : Ob α) (p : Nat) (vr : Value) : SdOb (α × List En) where
  J F s w := ∃ F0 ad cap, o.J F0 s.1 w ∧ w.heap[p]? = some (.cells #[vr, .slice ad s.2.length cap] 51 (0, 0)) ∧ w.ownsRow 0 100 2 (.slice ad s.2.length cap) s.2.length (ev s.2) ∧ (∀ k, F0 k → F k) ∧ F p ∧ ¬ F0 p ∧ (∀ k, some k = (Value.slice ad s.2.length cap).ownBlock → F k ∧ ¬ F0 k) ∧ (∀ k, F k → k < w.heap.size)
  lt := by
    rintro F t w ⟨F0, ad, cap, h1, h2, h3, h4, h5, h6, h7, h8⟩ k hk
    exact h8 k hk
  keep := by
    rintro F t w w' ⟨F0, ad, cap, h1, h2, h3, h4, h5, h6, h7, h8⟩ hs hk
    exact ⟨F0, ad, cap, o.keep h1 hs (fun k h => hk k (h4 k h)), (hk p h5).trans h2, row_keep h3 (fun k e => hk k (h7 k e).1), h4, h5, h6, h7, fun k h => Nat.lt_of_lt_of_le (h8 k h) hs⟩
  p := p
  vr := vr
  wt s := s.2
  put s q := (s.1, q)
  side := by
    rintro F s w ⟨F0, ad, cap, h1, h2, h3, h4, h5, h6, h7, h8⟩
    refine ⟨ad, cap, h2, ⟨row_pairs h3, ?_, ?_⟩, h5, fun hp z e => (h7 z.block (by rw [e]; rfl)).1⟩
    · rcases h3.2 with ⟨hv, h0⟩ | ⟨g, cap', cur, hv, _, _, hc, _⟩
      · omega
      · simp at hv; omega
    · intro e0
      rcases h3.2 with ⟨hv, h0⟩ | ⟨g, cap', cur, hv, _⟩
      · simp at hv; exact ⟨h0, hv.2.2⟩
      · rw [e0] at hv; simp at hv
  set := by
    rintro F s w ⟨F0, ad, cap, h1, h2, h3, h4, h5, h6, h7, h8⟩ w1 q b1 cap1 hb hown
    have lp := lt_of_some h2
    have hb1 := row_lt hown b1 rfl
    have kk : ∀ k, k ≠ p → (w1.setCell ⟨p, 1, none⟩ (.slice (some ⟨b1, 0, none⟩) q.length cap1)).heap[k]? = w1.heap[k]? := fun k hk => Below.heap_setCell _ _ _ _ hk
    have hs : (w1.setCell ⟨p, 1, none⟩ (.slice (some ⟨b1, 0, none⟩) q.length cap1)).heap.size = w1.heap.size := by simp [World.setCell]
    have hbs := hb.size
    refine ⟨F0, some ⟨b1, 0, none⟩, cap1, o.keep (o.below h1 hb) (by rw [hs]; exact Nat.le_refl _) (fun k h => kk k (fun e => h6 (by rw [← e]; exact h))), ?_, row_base (row_keep hown (fun k e => kk k (by simp [Value.ownBlock] at e; omega))) (fun _ _ => Nat.zero_le _), fun k h => Or.inl (h4 k h), Or.inl h5, h6, fun k e => ?_, fun k h => ?_⟩
    · have h2' := (hb.block p lp).trans h2
      simp only [World.setCell, Array.getElem?_modify, if_true, h2', Option.map_some]
      simp
    · simp [Value.ownBlock] at e
      exact ⟨Or.inr e, fun h => by have := h8 k (h4 k h); omega⟩
    · rw [hs]
      rcases h with h | h
      · have := h8 k h; omega
      · omega
  wt_put := fun _ _ => rfl

theorem lks_mk {α : Type} (o : Ob α) (p : Nat) (vr : Value) (D : Int → Prop) (fa fk fn : Fv) (is : α → Int → Bool) (kp : α → Int → Int × α) (nw : α → Int → Int) (ea : Ent fa.f) (ek : Ent fk.f) (en : Ent fn.f) (ha : Alives o D fa.f fa.b fa.c is) (hk : Keeps o D fk.f fk.b fk.c kp) (ht : Tells o D fn.f fn.b fn.c nw) :
    Lks (mkSd o p vr) D fa fk fn (fun s x => is s.1 x) (fun s x => ((kp s.1 x).1, ((kp s.1 x).2, s.2))) (fun s x => nw s.1 x) where
  ea := ea
  ek := ek
  en := en
  ha := by
    rintro F s w x hD ⟨F0, ad, cap, h1, _⟩
    exact ha F0 s.1 w x hD h1
  hk := by
    rintro F s w x hD _ ⟨F0, ad, cap, h1, h2, h3, h4, h5, h6, h7, h8⟩
    refine (hk F0 s.1 w x hD h1).mono ?_
    rintro r w' ⟨F1, rfl, hJ, hfr, hF1⟩
    have lp := lt_of_some h2
    refine ⟨fun k => F k ∨ F1 k, rfl, ⟨F1, ad, cap, hJ, (hfr.block p lp h6).trans h2, row_keep h3 (fun k e => hfr.block k (row_lt h3 k e).2 (h7 k e).2), fun k h => Or.inr h, Or.inl h5, fun h => (hF1 p h).elim h6 (fun h => by omega), fun k e => ⟨Or.inl (h7 k e).1, fun h => (hF1 k h).elim (h7 k e).2 (fun h => by have := (row_lt h3 k e).2; omega)⟩, fun k h => ?_⟩, hfr.mono h4, fun k h => ?_⟩
    · rcases h with h | h
      · exact Nat.lt_of_lt_of_le (h8 k h) hfr.size
      · exact o.lt hJ k h
    · rcases h with h | h
      · exact Or.inl h
      · exact (hF1 k h).imp (h4 k) id
  ht := by
    rintro F s w x hD ⟨F0, ad, cap, h1, _⟩
    exact ht F0 s.1 w x hD h1
  hl := fun _ _ => rfl

end Go.Proofs.YtogknhogphkddaaGreat
