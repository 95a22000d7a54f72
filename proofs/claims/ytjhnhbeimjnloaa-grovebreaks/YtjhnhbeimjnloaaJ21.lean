/- Joined: Gx11, Gx12, Gx13, Sdb, Gx14. -/
import Derived.Test.YtjhnhbeimjnloaaJ19
import Derived.Test.YtjhnhbeimjnloaaJ20
import Derived.Test.YtjhnhbeimjnloaaJ05
import Derived.Test.YtjhnhbeimjnloaaJ11
import Derived.Test.YtjhnhbeimjnloaaJ06
import Derived.Test.YtjhnhbeimjnloaaJ03
/- A grove's cut in memory: words, keepAll: contracts. -/
namespace Go.Proofs.Ytjhnhbeimjnloaa
open Go.RowKit W Kp Stl

section
variable {c : Cp} {own own' : Nat → Nat} {vt vt' : Value} {n1 n2 n1' n2' : Nat} {hm hm' : Int → Option Addr × Nat} {st : Cst} {w w' : World} {is : List Bool}

def awd (T : List Tw1) (A : List Bool) (i : Nat) : Int := if A.getD i false = true then 1 + (T.getD i t0).2.1.length else 0

set_option maxRecDepth 100000 in
set_option maxHeartbeats 4000000 in
theorem wordsX_any (hg : Cg c) (h : Cm c own vt n1 n2 hm st w) (hlen : st.A.length = c.s.T.length) :
    Calls Try.prog 65 #[.pointer (some ⟨c.cp, 0, none⟩)] w fun e w' => e = .returned (.int .i64 (cwn c.s.T st.A c.s.T.length)) ∧ Below w.heap.size w w' := by
  rw [cwn_sm]
  have e0 : (fun i => if st.A.getD i false = true then 1 + ((c.s.T.getD i t0).2.1.length : Int) else 0) = awd c.s.T st.A := rfl
  rw [e0]
  obtain ⟨_, c1, _, _, _, lc⟩ := h.cells
  have tT := hg.t
  obtain ⟨w1, cnt, hrun, hR, gr, sz⟩ := h.am.range (t := 59) (e := 80) Try.underlying59
  have ab : ∀ i, 0 ≤ awd c.s.T st.A i ∧ awd c.s.T st.A i ≤ 13 := fun i => by
    have := hg.iv.tl i
    unfold awd
    split
    · omega
    · omega
  have z : sm_ (upl (fun x => (alF c.s.T c.l.fm st.A x).isSome) (awd c.s.T st.A)) c.s.T.length = 0 := by
    rw [← sm_zero c.s.T.length]
    refine sm_congr _ (fun i hi => ?_)
    have ea : (alF c.s.T c.l.fm st.A (i : Int)).isSome = st.A.getD i false := by rw [alF_some (by omega), isd, Int.toNat_natCast]
    unfold upl awd
    cases hb : st.A.getD i false
    · exact (if_neg (by dsimp only; rw [ea, hb]; decide)).trans (if_neg (by decide))
    · exact if_pos (by dsimp only; rw [ea, hb])
  have HB : Hid ((∀ i, 0 ≤ awd c.s.T st.A i ∧ awd c.s.T st.A i ≤ 13) ∧ (∀ i, (c.s.T.getD i t0).2.1.length ≤ 12) ∧ st.A.length = c.s.T.length) := ⟨ab, hg.iv.tl, hlen⟩
  have HS : Hid (Below w.heap.size w w1 ∧ Rgm w1 c.ab w.heap.size n1 (alF c.s.T c.l.fm st.A) (fun x => (alF c.s.T c.l.fm st.A x).isSome) cnt ∧ sm_ (upl (fun x => (alF c.s.T c.l.fm st.A x).isSome) (awd c.s.T st.A)) c.s.T.length = 0) := ⟨(Below.refl _ _).grown gr (Nat.le_refl _) (fun j hj => by cases hj), hR, z⟩
  clear h hg hlen hR gr ab z e0
  go_enter Try.func65, Try.ntmps65
  go_wp2_with fail
  go_loopw [3] (fun y wr => ∃ (left : Int → Bool) (k : Nat), y = .int .i64 (sm_ (upl left (awd c.s.T st.A)) c.s.T.length) ∧ Rgm wr c.ab w.heap.size n1 (alF c.s.T c.l.fm st.A) left k ∧ Below w.heap.size w wr) (fun _ wr => wr.rangeLeft c.ab w.heap.size)
  case atStart =>
    obtain ⟨b, r, z1⟩ := HS.out
    exact ⟨_, cnt, by rw [z1], r, b⟩
  case round =>
    clear HS hrun
    obtain ⟨left, k, rfl, hR, hb⟩ := hrel
    have mb := upl_bd left HB.out.1 c.s.T.length
    rcases hR.next 0 with ⟨h0, hl, hrun⟩ | ⟨x, v, w2, k2, hlx, hfx, hrun, hR2, hlt, gr2, sz2, hen⟩
    · have e1 : sm_ (upl left (awd c.s.T st.A)) c.s.T.length = sm_ (awd c.s.T st.A) c.s.T.length := sm_congr _ (fun i _ => by unfold upl; rw [hl, if_neg (by decide)])
      rw [e1]
      have HF : Hid (Below w.heap.size w wr) := hb
      clear hb hR hl
      go_wp2_with fail
      go_ret
      exact ⟨rfl, HF.out⟩
    · have hxa : 0 ≤ x ∧ st.A.getD x.toNat false = true := by
        unfold alF at hfx
        split at hfx
        · assumption
        · cases hfx
      obtain ⟨i, rfl⟩ := Int.eq_ofNat_of_zero_le hxa.1
      have hia : st.A.getD i false = true := by simpa using hxa.2
      have hil : i < c.s.T.length := by rw [← HB.out.2.2]; exact Ls_.lt hia
      have hv : v = thV c.s.T c.l.fm i := by
        unfold alF at hfx
        rw [if_pos hxa] at hfx
        exact (Option.some.inj hfx).symm
      dsimp only [thV, fsV] at hv
      subst hv
      have s1 := upl_step left (awd c.s.T st.A) i c.s.T.length hil hlx
      have mb2 := upl_bd (fun y => left y && !(y == (i : Int))) HB.out.1 c.s.T.length
      have l12 := HB.out.2.1 i
      have b2 : Below w.heap.size w w2 := hb.grown gr2 hb.size (fun j hj => by cases hj; exact Nat.le_refl _)
      have b3 := b2.alloc b2.size (.cells #[.int .i64 (c.s.T.getD i t0).1, .slice (c.l.fm i).1 (c.s.T.getD i t0).2.1.length (c.l.fm i).2] 80)
      have HE : Hid (∀ w3, Below (w2.alloc (.cells #[.int .i64 (c.s.T.getD i t0).1, .slice (c.l.fm i).1 (c.s.T.getD i t0).2.1.length (c.l.fm i).2] 80)).heap.size (w2.alloc (.cells #[.int .i64 (c.s.T.getD i t0).1, .slice (c.l.fm i).1 (c.s.T.getD i t0).2.1.length (c.l.fm i).2] 80)) w3 → Rgm w3 c.ab w.heap.size n1 (alF c.s.T c.l.fm st.A) (fun y => left y && !(y == (i : Int))) k2 ∧ Below w.heap.size w w3 ∧ k2 < k) := fun w3 hb3 => by
        have l1 := hR2.mh.lt
        have l2 := hR2.lt
        exact ⟨hR2.same ((hb3.block _ (by simp; omega)).trans (Below.heap_alloc _ _ _ l1)) ((hb3.block _ (by simp; omega)).trans (Below.heap_alloc _ _ _ l2)), b3.trans (hb3.mono b3.size), hlt⟩
      have HL : Hid (wr.rangeLeft c.ab w.heap.size = k) := hR.left_eq
      have P2 := wordsG_any (c.s.T.getD i t0).1 (c.l.fm i).1 (c.s.T.getD i t0).2.1.length (c.l.fm i).2 (by omega) (w2.alloc (.cells #[.int .i64 (c.s.T.getD i t0).1, .slice (c.l.fm i).1 (c.s.T.getD i t0).2.1.length (c.l.fm i).2] 80))
      rw [show awd c.s.T st.A i = 1 + ((c.s.T.getD i t0).2.1.length : Int) from by unfold awd; rw [if_pos hia]] at s1
      have S1 : Hid (_ = _) := s1
      clear hR hb hlx hfx hR2 gr2 hxa b2 b3 hia s1
      generalize sm_ (upl left (awd c.s.T st.A)) c.s.T.length = Y at *
      generalize (c.s.T.getD i t0).2.1.length = n at *
      generalize (c.s.T.getD i t0).1 = kd at *
      generalize (c.l.fm i).1 = ad at *
      generalize (c.l.fm i).2 = cp at *
      go_wp2_with fail
      refine P2.mono ?_
      clear P2
      rintro e w4 ⟨rfl, hb4⟩
      have HF : Hid (_ ∧ _) := HE.out w4 hb4
      clear hb4 HE
      go_wp2_with fail
      go_roundw
      case rel => exact ⟨_, k2, by rw [S1.out], HF.out.1, HF.out.2.1⟩
      case measure => rw [HF.out.1.left_eq, HL.out]; exact HF.out.2.2

theorem Mo.mark {T : List Tw1} {wt : List En} {s : Cst} (h : Mo T wt is s) (hW : Wiv T wt) (v : Int × Int) (hv : v.1 = 3 → 0 ≤ v.2 ∧ Alv T v.2.toNat) (hJ : v.1 = 3 → Ls_ is v.2.toNat) : Mo T wt is (mk1 s v) :=
  ⟨h.mi.mark hW v hv (fun h3 X _ hb => hb _ (hJ h3)), by rw [(mk1_hd s v).1, (mk1_hd s v).2]; exact h.hl, by rw [mk1_mm s v (fun h3 => by rw [h.mi.len]; exact (hv h3).2.1), (mk1_hd s v).2]; exact h.mm⟩
theorem Mo.marks {T : List Tw1} {wt : List En} (hW : Wiv T wt) : ∀ (l : List (Int × Int)) (s : Cst), Mo T wt is s → (∀ v ∈ l, v.1 = 3 → 0 ≤ v.2 ∧ Alv T v.2.toNat) → (∀ v ∈ l, v.1 = 3 → Ls_ is v.2.toNat) → Mo T wt is (mks s l)
  | [], _, h, _, _ => h
  | v :: l, s, h, hv, hJ => Mo.marks hW l (mk1 s v) (h.mark hW v (hv v (by simp)) (hJ v (by simp))) (fun u hu => hv u (List.mem_cons_of_mem _ hu)) (fun u hu => hJ u (List.mem_cons_of_mem _ hu))
end

end Go.Proofs.Ytjhnhbeimjnloaa

/- A grove's cut in memory: keepAll: a contract. -/
namespace Go.Proofs.Ytjhnhbeimjnloaa
open Go.RowKit W Kp Stl

structure Stay (c : Cp) (f : Nat) (b d : Array Value) (sb : Int → Bool) : Prop where
  ent : Ent f
  ca : ∀ (x : Int) (w : World), (∀ k, k < c.w0.heap.size → w.heap[k]? = c.w0.heap[k]?) → Calls Try.prog f (b.push (.int .i64 x) ++ d) w fun e w' => e = .returned (.bool (sb x)) ∧ Below w.heap.size w w'
structure Isk (c : Cp) (sb : Int → Bool) (is : List Bool) : Prop where
  st : ∀ i : Nat, Alv c.s.T i → sb i = true → Ls_ is i
  rt : ∀ v ∈ c.s.rs, v.1 = 3 → Ls_ is v.2.toNat
  up : ∀ i : Nat, Ls_ is i → (Alv c.s.T i ∧ sb i = true) ∨ ∃ v ∈ c.s.rs, v.1 = 3 ∧ v.2.toNat = i
  rv : ∀ v ∈ c.s.rs, v.1 = 3 → 0 ≤ v.2 ∧ Alv c.s.T v.2.toNat

section
variable {c : Cp} {own own' : Nat → Nat} {vt vt' : Value} {n1 n2 n1' n2' : Nat} {hm hm' : Int → Option Addr × Nat} {st : Cst} {w w' : World} {is : List Bool} {sb : Int → Bool}

theorem ev_pairs {w : World} {b : Nat} {l : List (Int × Int)} (h : w.heap[b]? = some (.cells (ev l).toArray 41 (0, 0))) : Lp w (some ⟨b, 0, none⟩) l := fun _ => by
  refine ⟨b, 0, rfl, lt_of_some h, fun i hi => ?_⟩
  obtain ⟨e1, e2⟩ := ev_get l i hi
  rw [Nat.zero_add]
  constructor
  · simp [World.cell?, h]
    simpa using e1
  · simp [World.cell?, h]
    simpa using e2
set_option maxRecDepth 100000 in
set_option maxHeartbeats 4000000 in
theorem keepAllX_any (hg : Cg c) (h : Cm c own vt n1 n2 hm st w) (mo : Mo c.s.T c.s.wt is st) {f : Nat} {b d : Array Value} (hs : Stay c f b d sb) (hi : Isk c sb is) :
    Calls Try.prog 63 #[.pointer (some ⟨c.cp, 0, none⟩), .func (.func f) b d] w fun e w' => ∃ own' vt' n1' n2' hm' st', e = .returned (.tuple #[]) ∧ Cm c own' vt' n1' n2' hm' st' w' ∧ Tk own w own' w' ∧ Mo c.s.T c.s.wt is st' ∧ st'.td = [] ∧ ∀ k, Ls_ is k → Ls_ st'.A k := by
  have hent := hs.ent
  unfold Ent at hent
  obtain ⟨c0, _, _, _, _, lc⟩ := h.cells
  have gv := h.gv hg.g
  obtain ⟨_, _, g2, _, _, _, _, _, lg⟩ := gv.cells
  obtain ⟨w1, cn, hrun, hR, gr, sz⟩ := gv.g2.mp.range (t := 59) (e := 80) Try.underlying59
  have bb : Below w.heap.size w w1 := (Below.refl _ _).grown gr (Nat.le_refl _) (fun j hj => by cases hj)
  have HG : Hid (Cg c ∧ Stay c f b d sb ∧ Isk c sb is) := ⟨hg, hs, hi⟩
  have HS : Hid (Rgm w1 c.l.mb w.heap.size c.l.n (gvF c.s.T c.l.fm) (fun x => (gvF c.s.T c.l.fm x).isSome) cn ∧ Below w.heap.size w w1 ∧ Cm c own vt n1 n2 hm st w1 ∧ Mo c.s.T c.s.wt is st) := ⟨hR, bb, h.below bb, mo⟩
  have HL : Hid (c.l.mb < c.w0.heap.size ∧ own w.heap.size = 0 ∧ c.w0.heap.size ≤ w.heap.size) := ⟨hg.g.g2.mp.lt, by
    cases e : own w.heap.size
    · rfl
    · exact absurd (h.lt w.heap.size (by rw [e]; omega)).2 (by omega), h.sz⟩
  clear hg hs hi h mo gv hR gr
  go_enter Try.func63, Try.ntmps63
  go_wp2_with fail
  go_loopw [4] (fun _ wr => ∃ (left : Int → Bool) (k : Nat) (own' : Nat → Nat) (vt' : Value) (n1' : Nat) (st' : Cst), Hid (Rgm wr c.l.mb w.heap.size c.l.n (gvF c.s.T c.l.fm) left k ∧ Cm c own' vt' n1' n2 hm st' wr ∧ Tk own w own' wr ∧ own' w.heap.size = 0 ∧ Mo c.s.T c.s.wt is st' ∧ ∀ i : Nat, Alv c.s.T i → left i = false → sb i = true → Ls_ st'.A i)) (fun _ wr => wr.rangeLeft c.l.mb w.heap.size)
  case atStart =>
    obtain ⟨r, _, g, mo⟩ := HS.out
    exact ⟨_, cn, own, vt, n1, st, r, g, Tk.of HS.out.2.1, HL.out.2.1, mo, fun i hi h0 _ => by
      rw [gvF_yes ⟨by omega, by simpa using hi⟩] at h0
      cases h0⟩
  case round =>
    clear hrun
    obtain ⟨left, k, own', vt', n1', st', HI⟩ := hrel
    obtain ⟨hR, g, t, ho, mo, hd⟩ := HI.out
    obtain ⟨hg, hs, hi⟩ := HG.out
    rcases hR.next 0 with ⟨h0, hl, hrun⟩ | ⟨x, v, w2, k2, hlx, hfx, hrun, hR2, hlt, gr2, sz2, hen⟩
    · -- roots
      have gv := g.gv hg.g
      obtain ⟨d0, _, _, _, _, _⟩ := g.cells
      obtain ⟨_, _, _, _, _, _, g6, _, _⟩ := gv.cells
      have rl := gv.g4.rl
      have P := markX_any hg.g hg.t mo.mi.len g (some ⟨c.l.rb, 0, none⟩) 12 c.s.rs ⟨ev_pairs gv.g4.rt, fun _ z e d => by
        cases e
        have h1 := hg.g.lt c.l.rb (by rw [hg.g.g4.ro]; decide)
        have h2 := (g.lt c.l.rb (by dsimp only at d; omega)).1
        omega⟩ hi.rv (by omega)
      rw [rl] at P
      have HM : Hid (∀ own2 vt2 n12 w2, Cm c own2 vt2 n12 n2 hm (mks st' c.s.rs) w2 → Tm own' wr own2 w2 → Calls Try.prog 78 #[.pointer (some ⟨c.cp, 0, none⟩)] w2 fun e w' => ∃ own' vt' n1' n2' hm' st', e = .returned (.tuple #[]) ∧ Cm c own' vt' n1' n2' hm' st' w' ∧ Tk own w own' w' ∧ Mo c.s.T c.s.wt is st' ∧ st'.td = [] ∧ ∀ k, Ls_ is k → Ls_ st'.A k) := fun own2 vt2 n12 w2 g2 t2 => by
        have mo2 := mo.marks (s := st') hg.iv c.s.rs hi.rv hi.rt
        refine (spreadX_any hg g2 mo2).mono ?_
        rintro e w' ⟨own3, vt3, n13, n23, hm3, st3, rfl, g3, t3, sp⟩
        refine ⟨own3, vt3, n13, n23, hm3, st3, rfl, g3, (t.trans t2.tk).trans t3, sp.mo, sp.td, fun i hk => sp.up i ?_⟩
        rcases hi.up i hk with ⟨h1, h2⟩ | ⟨v, hv, h3, e⟩
        · exact mks_up _ _ (hd i h1 (hl _) h2)
        · rw [← e]
          exact mks_in st' c.s.rs (fun v hv h3 => by rw [mo.mi.len]; exact (hi.rv v hv h3).2.1) v hv h3
      clear hR g t mo hd hg hs hi gv hl HI HG HL HS rl ho
      go_wp2_with fail
      refine P.mono ?_
      clear P
      rintro e w2 ⟨own2, vt2, n12, rfl, g2, t2⟩
      have P := HM.out own2 vt2 n12 w2 g2 t2
      clear HM g2 t2 d0 g6
      go_wp2_with fail
      refine P.mono ?_
      clear P
      rintro e w3 ⟨own3, vt3, n13, n23, hm3, st3, rfl, q⟩
      have HF : Hid (_) := q
      clear q
      go_wp2_with fail
      go_end0
      exact ⟨own3, vt3, n13, n23, hm3, st3, rfl, HF.out⟩
    · have hxa : 0 ≤ x ∧ Alv c.s.T x.toNat := by
        by_cases e : 0 ≤ x ∧ Alv c.s.T x.toNat
        · exact e
        · rw [gvF_no e] at hfx
          cases hfx
      obtain ⟨i, rfl⟩ := Int.eq_ofNat_of_zero_le hxa.1
      have hia : Alv c.s.T i := by simpa using hxa.2
      have hz := HL.out.2.2
      have f2 : Fr (fun b => b = w.heap.size) wr w2 := (Fr.refl _ wr).grown gr2 (fun j e => Or.inl (by cases e; rfl))
      have g2' : Cm c own' vt' n1' n2 hm st' w2 := g.keep f2.size (fun b hb => f2.block b (hb.elim (fun e => Nat.lt_of_lt_of_le e g.sz) (fun e => (g.lt b e).2)) (fun e => by
        subst e
        rcases hb with e | e
        · omega
        · exact e ho))
      have t2' : Tk own w own' w2 := ⟨t.fr.trans f2 (fun b e => Or.inr (by rw [e]; exact Nat.le_refl _)), t.nw⟩
      have P := hs.ca i w2 (fun k hk => g2'.ol k hk)
      have HR : Hid (wr.rangeLeft c.l.mb w.heap.size = k ∧ k2 < k) := ⟨hR.left_eq, hlt⟩
      have HN : Hid (∀ w3, Below w2.heap.size w2 w3 → sb i = false → Rgm w3 c.l.mb w.heap.size c.l.n (gvF c.s.T c.l.fm) (fun y => left y && !(y == (i : Int))) k2 ∧ Cm c own' vt' n1' n2 hm st' w3 ∧ Tk own w own' w3 ∧ own' w.heap.size = 0 ∧ Mo c.s.T c.s.wt is st' ∧ ∀ j : Nat, Alv c.s.T j → (left j && !((j : Int) == (i : Int))) = false → sb j = true → Ls_ st'.A j) := fun w3 hb3 hsb => by
        refine ⟨hR2.same (hb3.block _ hR2.mh.lt) (hb3.block _ hR2.lt), g2'.below hb3, t2'.trans (Tk.of hb3), ho, mo, fun j hj h0 hsj => ?_⟩
        by_cases e : j = i
        · subst e
          rw [hsb] at hsj
          cases hsj
        · refine hd j hj ?_ hsj
          rwa [show ((j : Int) == (i : Int)) = false from by simp; omega, Bool.not_false, Bool.and_true] at h0
      have HY : Hid (∀ w3, Below w2.heap.size w2 w3 → sb i = true → Calls Try.prog 77 #[.pointer (some ⟨c.cp, 0, none⟩), .slice (some ⟨w3.heap.size, 0, none⟩) 1 1] (w3.alloc (.cells #[.int .i64 3, .int .i64 i] 41)) fun e w' => ∃ own2 vt2 n12, e = .returned (.tuple #[]) ∧
          Rgm w' c.l.mb w.heap.size c.l.n (gvF c.s.T c.l.fm) (fun y => left y && !(y == (i : Int))) k2 ∧ Cm c own2 vt2 n12 n2 hm (mk1 st' (3, i)) w' ∧ Tk own w own2 w' ∧ own2 w.heap.size = 0 ∧ Mo c.s.T c.s.wt is (mk1 st' (3, i)) ∧ ∀ j : Nat, Alv c.s.T j → (left j && !((j : Int) == (i : Int))) = false → sb j = true → Ls_ (mk1 st' (3, i)).A j) := fun w3 hb3 hsb => by
        have hb4 := hb3.alloc hb3.size (.cells #[.int .i64 3, .int .i64 i] 41)
        refine (markX_any hg.g hg.t mo.mi.len (g2'.below hb4) (some ⟨w3.heap.size, 0, none⟩) 1 [(3, (i : Int))] (Rdl.one (g2'.below hb3) (3, (i : Int))) (fun u hu _ => by simp at hu; rw [hu]; exact hxa) (by simp)).mono ?_
        rintro e w' ⟨own2, vt2, n12, rfl, g5, t5⟩
        have hz2 : w.heap.size < w2.heap.size := hR2.lt
        have hz4 := hb4.size
        refine ⟨own2, vt2, n12, rfl, hR2.same ((t5.fr.block _ (Nat.lt_of_lt_of_le hR2.mh.lt hz4) (fun d => ?_)).trans (hb4.block _ hR2.mh.lt)) ((t5.fr.block _ (Nat.lt_of_lt_of_le hR2.lt hz4) (fun d => ?_)).trans (hb4.block _ hR2.lt)), g5, (t2'.trans (Tk.of hb4)).trans t5.tk, ?_, mo.mark hg.iv (3, (i : Int)) (fun _ => hxa) (fun _ => by simpa using hi.st i hia hsb), fun j hj h0 hsj => ?_⟩
        · have h1 := (g2'.lt c.l.mb (by omega)).1
          have h2 := HL.out.1
          omega
        · rw [ho] at d
          omega
        · rw [t5.old _ (Nat.lt_of_lt_of_le hz2 hz4)]
          exact ho
        · by_cases e : j = i
          · subst e
            exact mk1_in st' (3, (j : Int)) rfl (by rw [mo.mi.len]; simpa using hia.1)
          · refine mk1_up _ _ (hd j hj ?_ hsj)
            rwa [show ((j : Int) == (i : Int)) = false from by simp; omega, Bool.not_false, Bool.and_true] at h0
      obtain ⟨vk, va, vn, vc, hvv⟩ : ∃ vk va vn vc, v = .agg #[.int .i64 vk, .slice va vn vc] := by
        rw [gvF_yes hxa] at hfx
        exact ⟨_, _, _, _, (Option.some.inj hfx).symm⟩
      subst hvv
      clear hR g t mo hd hg hs hi hlx hfx hR2 hlt gr2 hxa hia hz f2 g2' t2' ho HI HG HS
      cases hsb : sb i
      · rw [hsb] at P
        have HN2 := HN
        go_wp2_with fail
        refine P.mono ?_
        clear P
        rintro e w3 ⟨rfl, hb3⟩
        have HF : Hid (_) := HN.out w3 hb3 hsb
        clear hb3 HN HY HN2
        go_wp2_with fail
        go_roundw
        case rel => exact ⟨_, k2, own', vt', n1', st', HF⟩
        case measure => rw [HF.out.1.left_eq, HR.out.1]; exact HR.out.2
      · rw [hsb] at P
        go_wp2_with fail
        refine P.mono ?_
        clear P
        rintro e w3 ⟨rfl, hb3⟩
        go_wp2_with fail
        refine (refValue_any i w3).mono ?_
        rintro e w4 ⟨rfl, hb4⟩
        have P := HY.out w4 (hb3.trans (hb4.mono hb3.size)) hsb
        clear hb3 hb4 HN HY
        go_wp2_with fail
        refine P.mono ?_
        clear P
        rintro e w5 ⟨own5, vt5, n15, rfl, q⟩
        have HF : Hid (_) := q
        clear q
        go_wp2_with fail
        go_roundw
        case rel => exact ⟨_, k2, own5, vt5, n15, _, HF⟩
        case measure => rw [HF.out.1.left_eq, HR.out.1]; exact HR.out.2
end

end Go.Proofs.Ytjhnhbeimjnloaa

/- A grove's cut in memory: what Settle asks: contracts. -/
namespace Go.Proofs.Ytjhnhbeimjnloaa
open Go.RowKit W Kp Stl

def gaO (c : Cp) (bx : Nat) : Ob (List Bool) where
  J F A w := ∃ F0 st, (ctO c).J F0 st w ∧ st.A = A ∧ st.td = [] ∧ Mo c.s.T c.s.wt A st ∧ w.heap[bx]? = some (.cells #[.pointer (some ⟨c.cp, 0, none⟩)] 126 (0, 0)) ∧ ¬ F0 bx ∧ ∀ k, F k ↔ F0 k ∨ k = bx
  lt := by
    rintro F A w ⟨F0, st, h, _, _, _, hb, _, hF⟩ k hk
    rcases (hF k).1 hk with e | e
    · exact (ctO c).lt h k e
    · rw [e]
      exact lt_of_some hb
  keep := by
    rintro F A w w' ⟨F0, st, h, e1, e2, mo, hb, hn, hF⟩ hs hk
    exact ⟨F0, st, (ctO c).keep h hs (fun k d => hk k ((hF k).2 (Or.inl d))), e1, e2, mo, (hk bx ((hF bx).2 (Or.inr rfl))).trans hb, hn, hF⟩
def Dx (c : Cp) (x : Int) : Prop := 0 ≤ x ∧ Alv c.s.T x.toNat
theorem ent_alive : Ent 81 := ent_of Try.func81 (by kernel_rfl) rfl
theorem ent_keepX : Ent 82 := ent_of Try.func82 (by kernel_rfl) rfl
theorem ent_nowX : Ent 83 := ent_of Try.func83 (by kernel_rfl) rfl

section
variable {c : Cp} {own own' : Nat → Nat} {vt vt' : Value} {n1 n2 n1' n2' : Nat} {hm hm' : Int → Option Addr × Nat} {st : Cst} {w w' : World} {is : List Bool} {bx : Nat} {g : List Bool → List Bool}

theorem alivesX (hg : Cg c) : Alives (gaO c bx) (Dx c) 81 #[.pointer (some ⟨c.cp, 0, none⟩)] #[] isd := by
  rintro F A w x ⟨x0, xa⟩ ⟨F0, st, ⟨own, vt, n1, n2, hm, h, _⟩, rfl, _⟩
  exact isAliveX_any h x x0 (by have := xa.1; have := hg.t; omega)
set_option maxRecDepth 100000 in
set_option maxHeartbeats 2000000 in
theorem tellsX : Tells (gaO c bx) (Dx c) 83 #[] #[] (fun _ x => x) := by
  rintro F A w x _ _
  show Calls Try.prog 83 #[.int .i64 x] w _
  go_enter Try.func83, Try.ntmps83
  go_wp2_with fail
  go_ret
  exact ⟨rfl, Below.refl _ _⟩
theorem keep_set (hG : Gok c.s.T c.s.wt g) {A : List Bool} {st st2 : Cst} (h1 : Mo c.s.T c.s.wt A st) (e1 : st.A = A) {x : Int} (hx : Dx c x) (sp : Spr c.s.T c.s.wt (A.set x.toNat true) (mk1 st (3, x)) st2) : st2.A = kpg g A x ∧ Mo c.s.T c.s.wt (kpg g A x) st2 := by
  have hl : A.length = c.s.T.length := by rw [← e1]; exact h1.mi.len
  have hi : ∀ k, Ls_ (A.set x.toNat true) k ↔ x.toNat = k ∨ Ls_ A k := fun k => by
    unfold Ls_
    rw [getD_setB _ _ _ (by rw [hl]; exact hx.2.1)]
    split
    · exact ⟨fun _ => Or.inl ‹_›, fun _ => rfl⟩
    · exact ⟨Or.inr, fun c => c.resolve_left ‹_›⟩
  have hd := sp.mo.mi.done sp.td (by rw [List.length_set]; exact hl) (fun k hk => sp.up k (by
    rcases (hi k).1 hk with e | e
    · rw [← e]
      exact mk1_in st (3, x) rfl (by rw [h1.mi.len]; exact hx.2.1)
    · exact mk1_up _ _ (by rw [e1]; exact e)))
  have hu := hG (A.set x.toNat true) (by rw [List.length_set]; exact hl) (fun k hk => by
    rcases (hi k).1 hk with e | e
    · rw [← e]
      exact hx.2
    · exact h1.mi.al k (by rw [e1]; exact e))
  have e2 : st2.A = kpg g A x := hd.uniq hu
  exact ⟨e2, ⟨sp.mo.mi.base (fun k hk => by rw [← e2]; exact hk), sp.mo.hl, sp.mo.mm⟩⟩

set_option maxRecDepth 100000 in
set_option maxHeartbeats 4000000 in
theorem keepsX (hg : Cg c) (hG : Gok c.s.T c.s.wt g) : Keeps (gaO c bx) (Dx c) 82 #[] #[.pointer (some ⟨bx, 0, none⟩)] (fun A x => (x, kpg g A x)) := by
  rintro F A w x hx ⟨F0, st, ⟨own, vt, n1, n2, hm, h, hF0⟩, e1, e2, mo, hb, hn, hF⟩
  show Calls Try.prog 82 #[.int .i64 x, .pointer (some ⟨bx, 0, none⟩)] w _
  dsimp only
  have ob : own bx = 0 := by
    cases e : own bx
    · rfl
    · exact absurd ((hF0 bx).2 (Or.inr (by rw [e]; omega))) hn
  have lb := lt_of_some hb
  have bxw : ¬ bx < c.w0.heap.size := fun d => hn ((hF0 bx).2 (Or.inl d))
  have b0 : w.cell? ⟨bx, 0, none⟩ = some (.pointer (some ⟨c.cp, 0, none⟩)) := by simp [World.cell?, hb]
  have mo2 : Mo c.s.T c.s.wt (A.set x.toNat true) (mk1 st (3, x)) := by
    have hl : A.length = c.s.T.length := by rw [← e1]; exact mo.mi.len
    refine Mo.mark ⟨mo.mi.base (fun k hk => set_in (by rw [← e1]; exact hk)), mo.hl, mo.mm⟩ hg.iv (3, x) (fun _ => hx) (fun _ => ?_)
    unfold Ls_
    rw [getD_setB _ _ _ (by rw [hl]; exact hx.2.1), if_pos rfl]
  have HM : Hid (∀ w1, Below w.heap.size w w1 → Calls Try.prog 77 #[.pointer (some ⟨c.cp, 0, none⟩), .slice (some ⟨w1.heap.size, 0, none⟩) 1 1] (w1.alloc (.cells #[.int .i64 3, .int .i64 x] 41)) fun e w' => e = .returned (.tuple #[]) ∧ w'.cell? ⟨bx, 0, none⟩ = some (.pointer (some ⟨c.cp, 0, none⟩)) ∧
      Hid (Calls Try.prog 78 #[.pointer (some ⟨c.cp, 0, none⟩)] w' fun e w'' => e = .returned (.tuple #[]) ∧ ∃ F', (gaO c bx).J F' (kpg g A x) w'' ∧ Fr F w w'' ∧ ∀ k, F' k → F k ∨ w.heap.size ≤ k)) := fun w1 hb1 => by
    have hb2 := hb1.alloc hb1.size (.cells #[.int .i64 3, .int .i64 x] 41)
    refine (markX_any hg.g hg.t mo.mi.len (h.below hb2) (some ⟨w1.heap.size, 0, none⟩) 1 [(3, x)] (Rdl.one (h.below hb1) (3, x)) (fun u hu _ => by simp at hu; rw [hu]; exact hx) (by simp)).mono ?_
    rintro e w' ⟨own2, vt2, n12, rfl, g5, t5⟩
    have t2 : Tm own w own2 w' := (Tm.of hb2 (fun b hb => (h.lt b hb).2)).trans t5
    have hbx : w'.heap[bx]? = w.heap[bx]? := t2.fr.block bx lb (fun d => by omega)
    refine ⟨rfl, (World.cell?_of_block (a := ⟨bx, 0, none⟩) hbx).trans b0, ?_⟩
    refine (spreadX_any hg g5 mo2).mono ?_
    rintro e w'' ⟨own3, vt3, n13, n23, hm3, st3, rfl, g3, t3, sp⟩
    obtain ⟨q1, q2⟩ := keep_set hG mo e1 hx sp
    have tk := t2.tk.trans t3
    obtain ⟨F1, j1, tn1⟩ := tn_ct (F := F0) g3 hF0 tk.fr tk.nw
    have hb3 : w''.heap[bx]? = w.heap[bx]? := tk.fr.block bx lb (fun d => d ob)
    have n3 : ¬ F1 bx := fun d => (tn1.sub bx d).elim hn (fun d => by omega)
    exact ⟨rfl, fun k => F1 k ∨ k = bx, ⟨F1, st3, j1, q1, sp.td, q2, hb3.trans hb, n3, fun _ => Iff.rfl⟩, tn1.fr.mono (fun k d => (hF k).2 (Or.inl d)), fun k d => d.elim (fun d => (tn1.sub k d).imp (fun d => (hF k).2 (Or.inl d)) id) (fun d => Or.inl ((hF k).2 (Or.inr d)))⟩
  clear hg hG hx h hF0 e1 e2 mo hb hn hF ob bxw mo2
  go_enter Try.func82, Try.ntmps82
  go_wp2_with fail
  go_region_held3 (fun w' => w'.cell? ⟨bx, 0, none⟩ = some (.pointer (some ⟨c.cp, 0, none⟩))) (go_keep)
    (first
      | (go_at_call 69; refine (refValue_any x _).mono ?_; rintro e w1 ⟨rfl, hb1⟩; have b1 := (hb1.cell (p := ⟨bx, 0, none⟩) lb).trans b0; have HB : Hid (Below w.heap.size w w1) := (Below.refl _ w).drew.trans (hb1.mono (Nat.le_refl _)); clear hb1)
      | (go_at_call 77; refine (HM.out w1 HB.out).mono ?_; clear HM; rintro e w2 ⟨rfl, b2, HS⟩))
  all_goals
    have P := HS.out
    clear HS b0 b1 HB
    go_wp2_with fail
    refine P.mono ?_
    clear P
    rintro e w3 ⟨rfl, q⟩
    have HF : Hid (_) := q
    clear q b2
    go_wp2_with fail
    go_ret
    obtain ⟨F', q1, q2, q3⟩ := HF.out
    exact ⟨F', rfl, q1, q2, q3⟩
end

end Go.Proofs.Ytjhnhbeimjnloaa

/- At, Copy of a Side: contracts. -/
namespace Go.Proofs.Ytjhnhbeimjnloaa
open Go.RowKit W Kp Stl

set_option maxRecDepth 100000 in
set_option maxHeartbeats 1000000 in
theorem copyS_any (w : World) (p : Nat) (a0 a1 : Option Addr) (k0 k1 : Nat) (r q : List En) (h : Sds w p a0 k0 a1 k1 r q) (h0 : r.length ≤ 90000) (h1 : q.length ≤ 90000) :
    Calls Try.prog 79 #[.pointer (some ⟨p, 0, none⟩)] w fun e w' => ∃ p' b0 c0 b1 c1, e = .returned (.pointer (some ⟨p', 0, none⟩)) ∧ w.heap.size ≤ p' ∧ Sds w' p' b0 c0 b1 c1 r q ∧ (∀ z, b0 = some z → w.heap.size ≤ z.block) ∧ (∀ z, b1 = some z → w.heap.size ≤ z.block) ∧ (∀ k, some k = (Value.slice b0 r.length c0).ownBlock → some k ≠ (Value.slice b1 q.length c1).ownBlock) ∧ Below w.heap.size w w' := by
  obtain ⟨c0, c1, f0, f1, lp⟩ := h.cells
  have HR : Hid (Li w a0 r k0) := row_li h.r0
  have HQ : Hid (Li w a1 q k1) := row_li h.q0
  clear h f0 f1
  go_enter Try.func79, Try.ntmps79
  go_wp2_with fail
  have hd := (Below.refl w.heap.size w).drew
  go_region_held3 (fun w' => w'.cell? ⟨p, 0, none⟩ = some (.slice a0 r.length k0) ∧ w'.cell? ⟨p, 1, none⟩ = some (.slice a1 q.length k1)) (first | exact ⟨c0, c1⟩ | exact ⟨u0, u1⟩ | exact ⟨v0, v1⟩ | go_keep)
    (first | (have hb8 := hb3; go_at_call 92; refine (cloneE_any _ a1 q k1 (HQ.out.below hb3) (by omega)).mono ?_; rintro e w5 ⟨d1, e1, rfl, hQ5, hb5⟩; have l5 := hb5.size; have v0 := (hb5.cell (p := ⟨p, 0, none⟩) (Nat.lt_of_lt_of_le lp l3)).trans u0; have v1 := (hb5.cell (p := ⟨p, 1, none⟩) (Nat.lt_of_lt_of_le lp l3)).trans u1)
           | (go_at_call 92; refine (cloneE_any _ a0 r k0 (HR.out.below hd) (by omega)).mono ?_; rintro e w3 ⟨d0, e0, rfl, hR3, hb3'⟩; have hb3 : Below w.heap.size w w3 := hd.trans hb3'; have l3 := hb3.size; have u0 := (hb3.cell (p := ⟨p, 0, none⟩) lp).trans c0; have u1 := (hb3.cell (p := ⟨p, 1, none⟩) lp).trans c1))
  go_wp2_with fail
  go_ret
  refine ⟨w5.heap.size, d0, e0, d1, e1, rfl, Nat.le_trans l3 l5, ⟨heap_alloc_new _ _, row_base (row_alloc (row_keep hR3 (fun k e => hb5.block k (row_lt hR3 k e).2)) _) (fun _ _ => Nat.zero_le _), row_base (row_alloc hQ5 _) (fun _ _ => Nat.zero_le _)⟩, fun z e => (row_lt hR3 z.block (by rw [e]; rfl)).1, fun z e => Nat.le_trans l3 (row_lt hQ5 z.block (by rw [e]; rfl)).1, fun k e e' => ?_, (hb3.trans (hb5.mono l3)).alloc (Nat.le_trans l3 l5) _⟩
  have q1 := (row_lt hR3 k e).2
  have q2 := (row_lt hQ5 k e').1
  omega

end Go.Proofs.Ytjhnhbeimjnloaa

/- A grove's cut in memory: settled: a contract. -/
namespace Go.Proofs.Ytjhnhbeimjnloaa
open Go.RowKit W Kp Stl

section
variable {c : Cp} {bx p : Nat} {vr : Value} {g : List Bool → List Bool} {A : List Bool} {q r : List En}

abbrev gIs (s : List Bool × List En) (x : Int) : Bool := isd s.1 x
abbrev gKp (g : List Bool → List Bool) (s : List Bool × List En) (x : Int) : Int × (List Bool × List En) := (x, (kpg g s.1 x, s.2))
abbrev gNw (_ : List Bool × List En) (x : Int) : Int := x
def gT (g : List Bool → List Bool) (A : List Bool) (r : List En) : List Bool × List En × List En := turns isd (kpg g) (r.length + 1) (r.filter (fun e => !isd A e.2)) A []

theorem sim_g (q : List En) : Sim (cm (mkSd (gaO c bx) p vr) gIs (gKp g)) g id r (fun t L C => t = (L, q ++ C)) where
  no := by
    rintro t L C e rfl _ h
    exact cm_no h
  yes := by
    rintro t L C e rfl _ h
    have e1 := cm_yes (o := mkSd (gaO c bx) p vr) (is := gIs) (kp := gKp g) (s := (L, q ++ C)) (e := e) h
    refine ⟨by rw [id, e1], ?_⟩
    rw [id, e1]
    show (kpg g L e.2, (q ++ C) ++ [(e.1, e.2)]) = _
    rw [List.append_assoc]
theorem st_g : stS (mkSd (gaO c bx) p vr) gIs (gKp g) (A, q) r = ((gT g A r).1, q ++ (gT g A r).2.1) := by
  have h := ((sim_g (c := c) (bx := bx) (p := p) (vr := vr) (g := g) (r := r) q).turns (r.length + 1) (r.filter (fun e => !isd A e.2)) (A, q) A [] (fun e he => (List.mem_filter.1 he).1) (by rw [List.append_nil])).1
  rw [List.map_id] at h
  refine Eq.trans ?_ h
  show (trn (cm (mkSd (gaO c bx) p vr) gIs (gKp g)) ((r.filter (fun e => !isd A e.2)).length + 1) (A, q) (r.filter (fun e => !isd A e.2))).1 = _
  have hl := List.length_filter_le (fun e : En => !isd A e.2) r
  rw [trn_more (cm (mkSd (gaO c bx) p vr) gIs (gKp g)) _ (r.length + 1) _ _ (Nat.lt_succ_self _) (by omega)]
theorem st_gR : stR (mkSd (gaO c bx) p vr) gIs (gKp g) gNw (A, q) r = r.filter (fun e => isd A e.2 && isd (gT g A r).1 e.1) := by
  unfold stR
  rw [st_g, List.filter_filter, List.map_id'']
  · congr 1
    funext e
    rw [Bool.and_comm]
  · exact fun _ => rfl
theorem st_gQ : stQ (mkSd (gaO c bx) p vr) gIs (gKp g) gNw (A, q) r = (q ++ (gT g A r).2.1).filter (fun e => isd (gT g A r).1 e.1) := by
  unfold stQ
  rw [st_g]
  show List.map (fun e : En => (e.1, e.2)) _ = _
  rw [List.map_id'' (fun _ => rfl)]
  rfl
theorem came_sub (e : En) (h : e ∈ (gT g A r).2.1) : e ∈ r := by
  have h1 := turns_count (is := isd) (kp := kpg g) e (r.length + 1) (r.filter (fun e => !isd A e.2)) A []
  have h2 : 0 < (gT g A r).2.1.count e := List.count_pos_iff.2 h
  unfold gT at h2
  rw [List.count_nil] at h1
  have h3 : 0 < (r.filter (fun e => !isd A e.2)).count e := by omega
  exact (List.mem_filter.1 (List.count_pos_iff.1 h3)).1
end

section
variable {c : Cp} {own own' : Nat → Nat} {vt vt' : Value} {n1 n2 n1' n2' : Nat} {hm hm' : Int → Option Addr × Nat} {st : Cst} {w w' : World} {is : List Bool} {g : List Bool → List Bool}

set_option maxRecDepth 100000 in
set_option maxHeartbeats 4000000 in
theorem settledX_any (hg : Cg c) (hG : Gok c.s.T c.s.wt g) (hv : Wcv c.s) (h : Cm c own vt n1 n2 hm st w) (mo : Mo c.s.T c.s.wt st.A st) (e0 : st.td = []) :
    Calls Try.prog 64 #[.pointer (some ⟨c.cp, 0, none⟩)] w fun e w' => ∃ own' vt' n1' n2' hm' st' p a1 k1 a2 k2, e = .returned (.pointer (some ⟨p, 0, none⟩)) ∧ Cm c own' vt' n1' n2' hm' st' w' ∧ st'.A = (gT g st.A c.s.rg).1 ∧ st'.td = [] ∧ Mo c.s.T c.s.wt st'.A st' ∧ Tk own w own' w' ∧
      Sds w' p a1 k1 a2 k2 (c.s.rg.filter (fun e => isd st.A e.2 && isd (gT g st.A c.s.rg).1 e.1)) ((c.s.wt ++ (gT g st.A c.s.rg).2.1).filter (fun e => isd (gT g st.A c.s.rg).1 e.1)) ∧
      (w.heap.size ≤ p ∧ own' p = 0) ∧ (∀ k, some k = (Value.slice a1 (c.s.rg.filter (fun e => isd st.A e.2 && isd (gT g st.A c.s.rg).1 e.1)).length k1).ownBlock → w.heap.size ≤ k ∧ own' k = 0 ∧ some k ≠ (Value.slice a2 ((c.s.wt ++ (gT g st.A c.s.rg).2.1).filter (fun e => isd (gT g st.A c.s.rg).1 e.1)).length k2).ownBlock) ∧
      (∀ k, some k = (Value.slice a2 ((c.s.wt ++ (gT g st.A c.s.rg).2.1).filter (fun e => isd (gT g st.A c.s.rg).1 e.1)).length k2).ownBlock → w.heap.size ≤ k ∧ own' k = 0) := by
  have b1 := (Below.refl w.heap.size w).alloc (Nat.le_refl _) (.cells #[.pointer (some ⟨c.cp, 0, none⟩)] 126)
  obtain ⟨c0, _, _, _, _, lc⟩ := h.cells
  have gv := h.gv hg.g
  obtain ⟨_, _, _, _, _, g5, _, _, lg⟩ := gv.cells
  have P := copyS_any _ c.l.bp c.l.a0 c.l.a1 c.l.k0 c.l.k1 c.s.rg c.s.wt ((h.below b1).gv hg.g).g3.sd (Nat.le_trans hv.gl (by decide)) (Nat.le_trans hv.wl (by decide))
  have ow : own w.heap.size = 0 := by
    cases e : own w.heap.size
    · rfl
    · exact absurd (h.lt w.heap.size (by rw [e]; omega)).2 (by omega)
  have HP : Hid (∀ w1 p b0 k0 b1 k1, Below w.heap.size w w1 → w1.heap[w.heap.size]? = some (.cells #[.pointer (some ⟨c.cp, 0, none⟩)] 126 (0, 0)) → w.heap.size + 1 ≤ p → Sds w1 p b0 k0 b1 k1 c.s.rg c.s.wt → (∀ z, b0 = some z → w.heap.size + 1 ≤ z.block) → (∀ z, b1 = some z → w.heap.size + 1 ≤ z.block) → (∀ k, some k = (Value.slice b0 c.s.rg.length k0).ownBlock → some k ≠ (Value.slice b1 c.s.wt.length k1).ownBlock) →
      Calls Try.prog 80 #[.pointer (some ⟨p, 0, none⟩), .agg #[.func (.func 81) #[.pointer (some ⟨c.cp, 0, none⟩)] #[], .func (.func 82) #[] #[.pointer (some ⟨w.heap.size, 0, none⟩)], .func (.func 83) #[] #[]]] w1 fun e w' => ∃ own' vt' n1' n2' hm' st' a1 k1 a2 k2, e = .returned (.tuple #[]) ∧ Cm c own' vt' n1' n2' hm' st' w' ∧ st'.A = (gT g st.A c.s.rg).1 ∧ st'.td = [] ∧ Mo c.s.T c.s.wt st'.A st' ∧ Tk own w own' w' ∧
        Sds w' p a1 k1 a2 k2 (c.s.rg.filter (fun e => isd st.A e.2 && isd (gT g st.A c.s.rg).1 e.1)) ((c.s.wt ++ (gT g st.A c.s.rg).2.1).filter (fun e => isd (gT g st.A c.s.rg).1 e.1)) ∧
        (w.heap.size ≤ p ∧ own' p = 0) ∧ (∀ k, some k = (Value.slice a1 (c.s.rg.filter (fun e => isd st.A e.2 && isd (gT g st.A c.s.rg).1 e.1)).length k1).ownBlock → w.heap.size ≤ k ∧ own' k = 0 ∧ some k ≠ (Value.slice a2 ((c.s.wt ++ (gT g st.A c.s.rg).2.1).filter (fun e => isd (gT g st.A c.s.rg).1 e.1)).length k2).ownBlock) ∧
        (∀ k, some k = (Value.slice a2 ((c.s.wt ++ (gT g st.A c.s.rg).2.1).filter (fun e => isd (gT g st.A c.s.rg).1 e.1)).length k2).ownBlock → w.heap.size ≤ k ∧ own' k = 0)) := by
    intro w1 p d0 k0 d1 k1 hb hbx hp hS hd0 hd1 hdn
    have hF0 : ∀ k, ((k < c.w0.heap.size ∨ own k ≠ 0) ∨ k = w.heap.size) → k < w.heap.size + 1 := fun k hk => by
      have hz := h.sz
      rcases hk with (d | d) | d
      · omega
      · have := (h.lt k d).2
        omega
      · omega
    have nq : ∀ k, some k = (Value.slice d1 c.s.wt.length k1).ownBlock → w.heap.size + 1 ≤ k := fun k e => by
      cases d1 with
      | none => cases e
      | some z => cases e; exact hd1 z rfl
    have JG : (gaO c w.heap.size).J (fun k => (k < c.w0.heap.size ∨ own k ≠ 0) ∨ k = w.heap.size) st.A w1 := ⟨fun k => k < c.w0.heap.size ∨ own k ≠ 0, st, ⟨own, vt, n1, n2, hm, h.below hb, fun _ => Iff.rfl⟩, rfl, e0, mo, hbx, fun d => by
      have hz := h.sz
      rcases d with d | d
      · omega
      · exact d ow, fun _ => Iff.rfl⟩
    have JS : (mkSd (gaO c w.heap.size) p (.slice d0 c.s.rg.length k0)).J (fun k => ((k < c.w0.heap.size ∨ own k ≠ 0) ∨ k = w.heap.size) ∨ k = p ∨ some k = (Value.slice d1 c.s.wt.length k1).ownBlock) (st.A, c.s.wt) w1 := ⟨_, d1, k1, JG, hS.blk, hS.q0, fun k d => Or.inl d, Or.inr (Or.inl rfl), fun d => by have := hF0 p d; omega, fun k e => ⟨Or.inr (Or.inr e), fun d => by have h1 := hF0 k d; have h2 := nq k e; omega⟩, fun k d => by
      have hz := hb.size
      have hz2 := lt_of_some hbx
      rcases d with d | d | d
      · have := hF0 k d
        omega
      · rw [d]
        exact lt_of_some hS.blk
      · exact (row_lt hS.q0 k d).2⟩
    have gD : ∀ e ∈ c.s.rg, Dx c e.1 ∧ Dx c e.2 := fun e he => ⟨(hv.gv e he).1, (hv.gv e he).2⟩
    have P := settle_more (mkSd (gaO c w.heap.size) p (.slice d0 c.s.rg.length k0)) (Dx c) ⟨81, #[.pointer (some ⟨c.cp, 0, none⟩)], #[]⟩ ⟨82, #[], #[.pointer (some ⟨w.heap.size, 0, none⟩)]⟩ ⟨83, #[], #[]⟩ gIs (gKp g) gNw
      (lks_mk (gaO c w.heap.size) p _ (Dx c) _ _ _ isd (fun A x => (x, kpg g A x)) (fun _ x => x) ent_alive ent_keepX ent_nowX (alivesX hg) (keepsX hg hG) tellsX) c.s.rg d0 k0 rfl (Nat.le_trans hv.gl (by decide)) gD _ (st.A, c.s.wt) w1 (by
        rw [st_g]
        intro e he
        rcases List.mem_append.1 he with he | he
        · exact ⟨hv.wg e he, hg.iv.wv e he⟩
        · exact gD e (came_sub e he)) (by have h1 := hv.gl; have h2 := hv.wl; show c.s.wt.length + _ ≤ _; omega) JS (row_pairs hS.r0)
    rw [st_gR, st_gQ, st_g] at P
    refine P.mono ?_
    clear P
    rintro e w' ⟨a1, e1, a2, e2, F1, wm, rfl, ⟨F0m, adm, capm, ⟨F0n, st', ⟨own', vt', n1', n2', hm', gm, hFn⟩, eA, eT, moA, hbm, hnm, hFm⟩, _, _, sub1, _, np, _, _⟩, same, szm, hblk, hr1, hr2, fr, subF, nr1, nr2, n12⟩
    have inF : ∀ b, b < c.w0.heap.size ∨ own' b ≠ 0 → F1 b ∧ b ≠ p := fun b hb' => by
      have h1 : F0m b := (hFm b).2 (Or.inl ((hFn b).2 hb'))
      exact ⟨sub1 b h1, fun e => np (by rw [← e]; exact h1)⟩
    have g' : Cm c own' vt' n1' n2' hm' st' w' := gm.keep szm (fun b hb' => same b (inF b hb').1 (inF b hb').2)
    have z0 : ∀ b, ¬ F1 b → own' b = 0 := fun b hb' => by
      cases e : own' b
      · rfl
      · exact absurd (inF b (Or.inr (by rw [e]; omega))).1 hb'
    have zp : own' p = 0 := by
      cases e : own' p
      · rfl
      · exact absurd rfl (inF p (Or.inr (by rw [e]; omega))).2
    have hz1 := hb.size
    have hsz := h.sz
    have tk : Tk own w own' w' := by
      refine ⟨⟨fr.os.trans hb.os, fr.tape.trans hb.tape, fr.output.trans hb.output, Nat.le_trans hz1 fr.size, fun k hk hn => ?_⟩, fun b hb' => ?_⟩
      · by_cases hk0 : k < c.w0.heap.size
        · exact (g'.ol k hk0).trans (h.ol k hk0).symm
        · refine (fr.block k (by omega) (fun d => ?_)).trans (hb.block k hk)
          rcases d with ((d | d) | d) | d | d
          · exact hk0 d
          · exact hn d
          · omega
          · omega
          · have := nq k d
            omega
      · rcases subF b (inF b (Or.inr hb')).1 with d | d
        · rcases d with ((d | d) | d) | d | d
          · have := (g'.lt b hb').1
            omega
          · exact Or.inl d
          · exact Or.inr (by omega)
          · exact Or.inr (by omega)
          · have := nq b d
            exact Or.inr (by omega)
        · exact Or.inr (by omega)
    refine ⟨own', vt', n1', n2', hm', st', a1, e1, a2, e2, rfl, g', eA, eT, by rw [eA]; exact moA, tk, ⟨hblk, row_base hr1 (fun _ _ => Nat.zero_le _), row_base hr2 (fun _ _ => Nat.zero_le _)⟩, ⟨by omega, zp⟩, fun k e => ⟨?_, z0 k (nr1 k e), n12 k e⟩, fun k e => ⟨?_, z0 k (nr2 k e)⟩⟩
    · have := (row_lt hr1 k e).1
      omega
    · have := (row_lt hr2 k e).1
      omega
  clear gv hg hG hv h mo e0
  generalize (c.s.rg.filter (fun e => isd st.A e.2 && isd (gT g st.A c.s.rg).1 e.1)) = RR at *
  generalize ((c.s.wt ++ (gT g st.A c.s.rg).2.1).filter (fun e => isd (gT g st.A c.s.rg).1 e.1)) = QQ at *
  go_enter Try.func64, Try.ntmps64
  go_wp2_with fail
  refine P.mono ?_
  clear P
  rintro e w1 ⟨p, d0, k0, d1, k1, rfl, hp, hS, h0, h1, hn, hb⟩
  have hbx := (hb.block w.heap.size (by simp)).trans (heap_alloc_new w (.cells #[.pointer (some ⟨c.cp, 0, none⟩)] 126))
  have hz : (w.alloc (.cells #[.pointer (some ⟨c.cp, 0, none⟩)] 126)).heap.size = w.heap.size + 1 := by simp
  rw [hz] at hp h0 h1
  have x0 : w1.cell? ⟨w.heap.size, 0, none⟩ = some (.pointer (some ⟨c.cp, 0, none⟩)) := by simp [World.cell?, hbx]
  have P := HP.out w1 p d0 k0 d1 k1 (b1.trans (hb.mono b1.size)) hbx hp hS h0 h1 hn
  clear hb hS h0 h1 hn hbx b1 HP
  go_wp2_with fail
  refine P.mono ?_
  clear P
  rintro e w2 ⟨own', vt', n1', n2', hm', st', a1, k1_, a2, k2, rfl, q⟩
  have HF : Hid (_) := q
  clear q
  go_wp2_with fail
  go_ret
  exact ⟨own', vt', n1', n2', hm', st', p, a1, k1_, a2, k2, rfl, HF.out⟩
end

end Go.Proofs.Ytjhnhbeimjnloaa
