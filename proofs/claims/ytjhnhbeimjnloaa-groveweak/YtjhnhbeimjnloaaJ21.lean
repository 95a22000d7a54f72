/- Joined: Gw5, Gi1, Gi2, Gi3. -/
import Derived.Test.YtjhnhbeimjnloaaJ20
import Derived.Test.YtjhnhbeimjnloaaJ12
import Derived.Test.YtjhnhbeimjnloaaJ05
import Derived.Test.YtjhnhbeimjnloaaJ07
import Derived.Test.YtjhnhbeimjnloaaJ15
/- A grove: View: a contract, with where what it tells lies: in blocks that are new. -/
namespace Go.Proofs.Ytjhnhbeimjnloaa
open Go.RowKit W Kp Stl

section
variable {gp : Nat} {most grow : Int} {l : Gl} {S : Wrs} {w : World}

set_option maxRecDepth 100000 in
set_option maxHeartbeats 1000000 in
theorem viewG_any (hg : Gvy gp most grow l S w) (hv : Wvw S.T S.wt) (h5 : ∀ i, Alv S.T i → (S.T.getD i t0).1 = 5 → (S.T.getD i t0).2.1 = []) (hr : ∀ v ∈ S.rs, Vq S.T v) :
    Calls Try.prog 9 #[.pointer (some ⟨gp, 0, none⟩)] w fun e w' => ∃ r2 d2 na nn nc, e = .returned (.agg #[.slice r2 12 d2, .slice na nn nc]) ∧ LpN w' w.heap.size r2 (Vr4.vwW S.T S.wt S.rs).1 ∧ LnN w' w.heap.size na (Vr4.vwW S.T S.wt S.rs).2.2 ∧ nn = (Vr4.vwW S.T S.wt S.rs).2.2.length ∧ Below w.heap.size w w' := by
  have hmm := @run_makeMap Try.prog
  have ba := (Below.refl w.heap.size w).alloc (Nat.le_refl _) (.cells #[.slice none 0 0, .slice none 0 0] 35)
  have hr0 := heap_alloc_new w (.cells #[.slice none 0 0, .slice none 0 0] 35)
  have hg0 := hg.below ba
  have hl12 := hg.g4.rl
  obtain ⟨_, _, _, _, _, _, c6, _, lgp⟩ := hg0.cells
  have hLv : Lv (w.alloc (.cells #[.slice none 0 0, .slice none 0 0] 35)) (some ⟨l.rb, 0, none⟩) S.rs := by
    have c := hg0.g4.cells
    refine ⟨fun hp => ⟨l.rb, 0, rfl, c.1, fun i hi => ?_⟩, fun hp => ⟨l.rb, 0, _, rfl, hg0.g4.rt⟩⟩
    have := c.2.2 i (by omega)
    rw [Nat.zero_add]
    exact ⟨this.1, this.2.1⟩
  have lr0 : w.heap.size < (w.alloc (.cells #[.slice none 0 0, .slice none 0 0] 35)).heap.size := by simp
  have hM0 := Mh.made (w.alloc (.cells #[.slice none 0 0, .slice none 0 0] 35))
  have e0 : mtF [] = fun _ => none := by
    funext x
    exact mtF_no (by simp)
  rw [← e0] at hM0
  have b2 := ((Below.refl _ (w.alloc (.cells #[.slice none 0 0, .slice none 0 0] 35))).alloc (Nat.le_refl _) (.map #[] 0)).alloc (by simp) (.cells #[.pointer (some ⟨gp, 0, none⟩), .map (some (w.heap.size + 1)), .slice none 0 0] 75)
  have hk2 := alloc_snd (w.alloc (.cells #[.slice none 0 0, .slice none 0 0] 35)) (.map #[] 0) (.cells #[.pointer (some ⟨gp, 0, none⟩), .map (some (w.heap.size + 1)), .slice none 0 0] 75)
  have sz0 : (w.alloc (.cells #[.slice none 0 0, .slice none 0 0] 35)).heap.size = w.heap.size + 1 := by simp
  rw [sz0] at hM0 hk2
  have hM2 := hM0.same (w' := ((w.alloc (.cells #[.slice none 0 0, .slice none 0 0] 35)).alloc (.map #[] 0)).alloc (.cells #[.pointer (some ⟨gp, 0, none⟩), .map (some (w.heap.size + 1)), .slice none 0 0] 75)) (Below.heap_alloc _ _ _ (by simp))
  have H1 : Hid (Wkg (w.alloc (.cells #[.slice none 0 0, .slice none 0 0] 35)) (((w.alloc (.cells #[.slice none 0 0, .slice none 0 0] 35)).alloc (.map #[] 0)).alloc (.cells #[.pointer (some ⟨gp, 0, none⟩), .map (some (w.heap.size + 1)), .slice none 0 0] 75)) (w.heap.size + 1 + 1) (w.heap.size + 1) gp ([], []) (.slice none 0 0) []) :=
    ⟨hk2, ⟨by rw [sz0]; omega, by rw [sz0]; exact Nat.le_refl _⟩, hM2, World.ownsRow_nil _ _ _ _, rfl, fun x hx => by simp at hx, b2⟩
  have x6 := (b2.cell (p := ⟨gp, 6, none⟩) lgp).trans c6
  have hs1 : w.heap.size ≤ (((w.alloc (.cells #[.slice none 0 0, .slice none 0 0] 35)).alloc (.map #[] 0)).alloc (.cells #[.pointer (some ⟨gp, 0, none⟩), .map (some (w.heap.size + 1)), .slice none 0 0] 75)).heap.size := by simp; omega
  have KV := valuesG_any (meetG_any hg0 hv h5 S.T.length) (met_go _) H1.out (VOk.start _) (by simp) hv.l1 S.rs hr (some ⟨l.rb, 0, none⟩) 12 (hLv.kg (Kg.of (B := 0) b2)) (by omega)
  have hvl : Hid ((Vr4.vwW S.T S.wt S.rs).1.length = 12) := by
    show _ = _
    unfold Vr4.vwW
    rw [vls_len, List.length_map]
    exact hl12
  change Calls _ _ _ _ (fun e w' => ∃ vn' m' a2 c2, e = .returned (.slice a2 S.rs.length c2) ∧ w'.ownsRow _ 41 2 (.slice a2 S.rs.length c2) S.rs.length (ev (Vr4.vwW S.T S.wt S.rs).1) ∧ Wkg _ w' _ _ gp (Vr4.vwW S.T S.wt S.rs).2 vn' m' ∧ Kvg _ _ [] w' m' ∧ (∀ k, Fb m' k → some k ≠ (Value.slice a2 S.rs.length c2).ownBlock)) at KV
  rw [hl12] at KV
  clear hg hg0 hv h5 hr hLv hM0 hM2 hk2 e0 c6 H1 hl12
  generalize Vr4.vwW S.T S.wt S.rs = R at *
  obtain ⟨V, s⟩ := R
  dsimp only at *
  have HBA : Hid (_) := ba
  clear ba
  go_enter Try.func9, Try.ntmps9
  go_wp2_with fail
  refine KV.mono ?_
  clear KV
  rintro e w2 ⟨vn, m, a2, c2, rfl, hr2, hW2, hK2, _⟩
  obtain ⟨na, nc, e2⟩ := row_slice hW2.row
  subst e2
  have z2 := hW2.cells.2.2.1
  have hb2 := HBA.out.trans (hW2.bel.mono HBA.out.size)
  have hr3 := (hW2.bel.block _ lr0).trans hr0
  have y0 : w2.cell? ⟨w.heap.size, 0, none⟩ = some (.slice none 0 0) := by simp [World.cell?, hr3]
  have y1 : w2.cell? ⟨w.heap.size, 1, none⟩ = some (.slice none 0 0) := by simp [World.cell?, hr3]
  have f0 : w2.frozen? ⟨w.heap.size, 0, none⟩ = false := by simp [World.frozen?, hr3]
  have f1 : w2.frozen? ⟨w.heap.size, 1, none⟩ = false := by simp [World.frozen?, hr3]
  have l2 : w.heap.size < w2.heap.size := lt_of_some hr3
  have HW2 : Hid (_ ∧ _) := ⟨hW2, hr2⟩
  have hml : Hid (m.length = s.2.length) := hW2.len
  have HB2 : Hid (_) := hb2
  have HR3 : Hid (_ = _) := hr3
  have HFB : Hid (∀ k, Fb m k → w.heap.size ≤ k) := fun k hk => (hK2.2 k hk).elim (fun ⟨x, hx, _⟩ => by cases hx) (fun d => Nat.le_trans hs1 d)
  have HS1 : Hid (_ ≤ _) := hs1
  clear hW2 hr2 hK2 hb2 hr3 hr0 x6 HBA b2 hs1 sz0 lr0
  go_wp2_with fail
  obtain ⟨W0, hW0⟩ : ∃ W0, W0 = (w2.setCell ⟨w.heap.size, 0, none⟩ (.slice a2 12 c2)).setCell ⟨w.heap.size, 1, none⟩ (.slice na m.length nc) := ⟨_, rfl⟩
  rw [← hW0]
  have g0 : W0.cell? ⟨w.heap.size, 0, none⟩ = some (.slice a2 12 c2) := by
    rw [hW0, World.cell?_setCell_other _ _ _ _ (by simp)]
    exact World.cell?_setCell_same _ _ _ y0
  have g1 : W0.cell? ⟨w.heap.size, 1, none⟩ = some (.slice na m.length nc) := by
    rw [hW0]
    exact World.cell?_setCell_same _ _ _ ((World.cell?_setCell_other w2 ⟨w.heap.size, 0, none⟩ ⟨w.heap.size, 1, none⟩ _ (by simp)).trans y1)
  have hF : Fr (fun k => k = w.heap.size) w2 W0 := by rw [hW0]; exact ((Fr.refl (fun k => k = w.heap.size) w2).set w.heap.size 0 _ rfl).set w.heap.size 1 _ rfl
  clear hW0
  obtain ⟨hW2, hr2⟩ := HW2.out
  have eL : ∀ {ad : Option Addr} {L : List (Int × Int)}, Lv w2 ad L → Lp W0 ad L := fun {ad L} h => h.1.keep hF.size (fun hp b e => by
    obtain ⟨b0, o0, cs, e0, hb⟩ := h.2 hp
    rw [e0] at e
    cases e
    refine hF.block _ (lt_of_some hb) (fun c => ?_)
    have c : b0 = w.heap.size := c
    rw [c, HR3.out] at hb
    simp at hb)
  refine bodyPost_ret (v := .agg #[.slice a2 12 c2, .slice na m.length nc]) (by simp [results, Try.results9, go_sem, g0, g1]) rfl ⟨a2, c2, na, m.length, nc, rfl, ⟨eL (Lv.of (by rw [hvl.out]; exact hr2)), fun hp => ?_⟩, ⟨m, hW2.nd, fun x hx => eL (hW2.fl x hx), HFB.out, fun hp => ?_⟩, hml.out, HB2.out.trans (hF.below (Nat.le_of_lt l2) (fun k e => Nat.le_of_eq (Eq.symm e)))⟩
  · obtain ⟨b, cap, e⟩ := row_shape hr2 (by decide)
    cases e
    exact ⟨b, 0, rfl, Nat.le_trans HS1.out (row_lt hr2 b rfl).1⟩
  obtain ⟨b, cap, e⟩ := row_shape hW2.row hp
  cases e
  have hbs := (row_lt hW2.row b rfl).1
  simp at hbs
  obtain ⟨cur, hcur⟩ := row_type hW2.row b rfl
  have hne : b ≠ w.heap.size := fun c => by
    rw [c, HR3.out] at hcur
    simp at hcur
  refine ⟨b, 0, rfl, by omega, Nat.lt_of_lt_of_le (lt_of_some hcur) hF.size, fun i x hx => ?_⟩
  obtain ⟨n1, n2⟩ := nv_get m i x hx
  rw [Nat.zero_add]
  exact ⟨(World.cell?_of_block (a := ⟨b, i * 2, none⟩) (hF.block b (lt_of_some hcur) hne)).trans (row_cell hW2.row n1).1, (World.cell?_of_block (a := ⟨b, i * 2 + 1, none⟩) (hF.block b (lt_of_some hcur) hne)).trans (row_cell hW2.row n2).1⟩
end

end Go.Proofs.Ytjhnhbeimjnloaa

/- The document's world, cut: what is kept is closed, and the least such; lists alone. -/
namespace Go.Proofs.Ytjhnhbeimjnloaa
open Go.RowKit W Kp Stl

theorem gokx {T : List Tw1} {wt : List En} (hW : Wiv T wt) : ∃ g, Gok T wt g := by
  classical
  refine ⟨fun is => (List.range is.length).map (fun i => decide (∀ X : Nat → Prop, Cls T wt X → (∀ k, Ls_ is k → X k) → X i)), fun is hl hal => ?_⟩
  have key : ∀ i, Ls_ ((List.range is.length).map (fun i => decide (∀ X : Nat → Prop, Cls T wt X → (∀ k, Ls_ is k → X k) → X i))) i ↔ i < is.length ∧ ∀ X : Nat → Prop, Cls T wt X → (∀ k, Ls_ is k → X k) → X i := by
    intro i
    unfold Ls_
    by_cases hi : i < is.length
    · rw [List.getD_eq_getElem?_getD, List.getElem?_map, List.getElem?_range hi]
      simp [hi]
    · rw [List.getD_eq_getElem?_getD, List.getElem?_eq_none (by simpa using hi)]
      simp [hi]
  refine ⟨by simp, fun i hi => (key i).2 ⟨hi.lt, fun X _ hX => hX i hi⟩, fun i hi hx v hv h3 => ?_, fun X hX hs i hi => ((key i).1 hi).2 X hX hs⟩
  have k2 : ∀ X : Nat → Prop, Cls T wt X → (∀ k, Ls_ is k → X k) → X v.2.toNat := fun X hX hs => hX i hi (((key i).1 hx).2 X hX hs) v (hv.mono (fun k hk => ((key k).1 hk).2 X hX hs)) h3
  exact (key _).2 ⟨by rw [hl]; exact (k2 (Alv T) hW.cls hal).1, k2⟩
theorem gfn_ex : ∃ g : Gfn, ∀ T wt, Wiv T wt → Gok T wt (g T wt) := by
  classical
  refine ⟨fun T wt => if h : ∃ g, Gok T wt g then h.choose else id, fun T wt hW => ?_⟩
  have h := gokx hW
  dsimp only
  rw [dif_pos h]
  exact h.choose_spec

section
variable {σ : Type} {is : σ → Int → Bool} {kp : σ → Int → σ} {I : σ → List En → Prop} {R : List En}
theorem pass_ic (hk : ∀ s C e, I s C → e ∈ R → is s e.1 = true → I (kp s e.2) (C ++ [e])) : ∀ (l : List En) (s : σ) (C D : List En), (∀ e ∈ l, e ∈ R) → I s C → I (Stl.pass is kp l s C D).1 (Stl.pass is kp l s C D).2.1
  | [], _, _, _, _, h => h
  | e :: r, s, C, D, hR, h => by
    unfold Stl.pass
    have hr : ∀ x ∈ r, x ∈ R := fun x hx => hR x (List.mem_cons_of_mem _ hx)
    split
    · rename_i c
      exact pass_ic hk r _ _ _ hr (hk s C e h (hR e (by simp)) c)
    · exact pass_ic hk r _ _ _ hr h
theorem turns_ic (hk : ∀ s C e, I s C → e ∈ R → is s e.1 = true → I (kp s e.2) (C ++ [e])) : ∀ (n : Nat) (D : List En) (s : σ) (C : List En), (∀ e ∈ D, e ∈ R) → I s C → I (Stl.turns is kp n D s C).1 (Stl.turns is kp n D s C).2.1
  | 0, _, _, _, _, h => h
  | n + 1, D, s, C, hR, h => by
    have h1 := pass_ic hk D s C [] hR h
    unfold Stl.turns
    split
    · exact h1
    · exact turns_ic hk n _ _ _ (fun e he => hR e (pass_left _ _ D s C e he)) h1
end

structure Ci (s : Wrs) (g : List Bool → List Bool) (mj : Bool) (L : List Bool) (C : List En) : Prop where
  ok : Sok_ s.T L
  up : ∀ k, Ls_ (s.c0 g mj) k → Ls_ L k
  cl : Cls s.T s.wt (Ls_ L)
  cC : ∀ e ∈ C, e ∈ s.rg ∧ Ls_ L e.1.toNat ∧ Ls_ L e.2.toNat
  lt : ∀ X, Cls s.T s.wt X → (∀ k, Ls_ (s.c0 g mj) k → X k) → (∀ e ∈ s.rg, isd (s.c0 g mj) e.2 = false → X e.2.toNat) → ∀ k, Ls_ L k → X k
theorem c0_ok {s : Wrs} (h : Wcv s) {g : List Bool → List Bool} (hg : Gok s.T s.wt g) (mj : Bool) : Grn s.T s.wt (frs s.T s.rs mj) (s.c0 g mj) ∧ Sok_ s.T (s.c0 g mj) := by
  have hf := h.first mj
  exact ⟨hg _ hf.len hf.al, (hg.ok h.iv hf).1⟩
theorem cR_ci {s : Wrs} (h : Wcv s) {g : List Bool → List Bool} (hg : Gok s.T s.wt g) (mj : Bool) : Ci s g mj (s.cR g mj).1 (s.cR g mj).2.1 := by
  obtain ⟨h1, h2⟩ := c0_ok h hg mj
  unfold Wrs.cR
  refine turns_ic (I := fun L C => Ci s g mj L C) (R := s.rg.filter (fun e => !isd (s.c0 g mj) e.2)) (fun L C e hI he his => ?_) _ _ _ _ (fun e he => he) ⟨h2, fun k hk => hk, h1.cl, fun e he => by simp at he, fun X _ hX _ k hk => hX k hk⟩
  obtain ⟨he, hn⟩ := List.mem_filter.1 he
  have hn : isd (s.c0 g mj) e.2 = false := by simpa using hn
  have ha := (h.gv e he).2
  obtain ⟨p1, p2, p3⟩ := hI.ok.put ha.2
  have hG := hg _ p1.len p1.al
  have hu : ∀ k, Ls_ L k → Ls_ (kpg g L e.2) k := fun k hk => hG.up k (p3 k hk)
  refine ⟨(hg.ok h.iv p1).1, fun k hk => hu k (hI.up k hk), hG.cl, fun x hx => ?_, fun X hX h0 hR k hk => ?_⟩
  · rcases List.mem_append.1 hx with hx | hx
    · obtain ⟨q1, q2, q3⟩ := hI.cC x hx
      exact ⟨q1, hu _ q2, hu _ q3⟩
    · rw [List.mem_singleton.1 hx]
      exact ⟨he, hu _ his, hG.up _ p2⟩
  · refine hG.lt X hX (fun i hi => ?_) k hk
    unfold Ls_ at hi
    rw [getD_setB _ _ _ (by rw [hI.ok.len]; exact ha.2.1)] at hi
    split at hi
    · rename_i e1
      rw [← e1]
      exact hR e he hn
    · exact hI.lt X hX h0 hR i hi
theorem cR_len (s : Wrs) (g : List Bool → List Bool) (mj : Bool) : (s.cR g mj).2.1.length ≤ (s.rg.filter (fun e => !isd (s.c0 g mj) e.2)).length := by
  have := turns_len (is := isd) (kp := kpg g) (s.rg.length + 1) (s.rg.filter (fun e => !isd (s.c0 g mj) e.2)) (s.c0 g mj) []
  unfold Wrs.cR
  simp only [List.length_nil] at this
  omega
theorem c0_root {s : Wrs} (h : Wcv s) {g : List Bool → List Bool} (hg : Gok s.T s.wt g) (mj : Bool) {v : Int × Int} (hv : v ∈ s.rs) (h3 : v.1 = 3) : Ls_ (s.c0 g mj) v.2.toNat :=
  (c0_ok h hg mj).1.up _ ((frs_in _ _ _ _).2 ⟨(h.rv v hv h3).2.1, Or.inr ⟨v, hv, h3, rfl⟩⟩)

theorem cuL_at (L : List Bool) (T : List Tw1) (i : Nat) : (cuL L T T.length).getD i t0 = if i < T.length then cuT L i (T.getD i t0) else t0 := by
  by_cases h : i < T.length
  · rw [cuL_get L T T.length i (Nat.le_refl _) h, if_pos h, if_pos h]
  · rw [if_neg h, List.getD_eq_getElem?_getD, List.getElem?_eq_none (by rw [cuL_len]; omega)]
    rfl
theorem cuT_n {L : List Bool} {i : Nat} {t : Tw1} (hL : L.getD i false = false) : cuT L i t = (t.1, [], t.2.2.1, true) := by
  unfold cuT
  rw [if_neg (by rw [hL]; simp)]
theorem cuT_k (L : List Bool) (i : Nat) (t : Tw1) : (cuT L i t).1 = t.1 := by
  unfold cuT
  split <;> rfl
theorem cuT_y {L : List Bool} {i : Nat} {t : Tw1} (hL : L.getD i false = true) : (cuT L i t).2.2 = (true, t.2.2.2) := by
  unfold cuT
  rw [if_pos hL]
theorem cu_alv {T : List Tw1} {L : List Bool} (h : Sok_ T L) (i : Nat) : Alv (cuL L T T.length) i ↔ Ls_ L i := by
  unfold Alv
  rw [cuL_len, cuL_at]
  constructor
  · rintro ⟨h1, h2⟩
    rw [if_pos h1] at h2
    unfold Ls_
    cases c : L.getD i false
    · rw [cuT_n c] at h2
      cases h2
    · rfl
  · intro hi
    have ha := h.al i hi
    refine ⟨ha.1, ?_⟩
    rw [if_pos ha.1, cuT_y hi]
    exact ha.2
theorem cuT_f {L : List Bool} {i : Nat} {t : Tw1} (hL : L.getD i false = true) :
    (t.1 = 4 ∧ inS L (t.2.1.getD 0 (0, 0)) = false ∧ (cuT L i t).2.1 = [(2, 0), (2, 0)]) ∨ (t.1 = 3 ∧ inS L (t.2.1.getD 0 (0, 0)) = false ∧ (cuT L i t).2.1 = [(2, 0), t.2.1.getD 1 (0, 0)]) ∨ ((t.1 = 3 ∨ t.1 = 4 → inS L (t.2.1.getD 0 (0, 0)) = true) ∧ (cuT L i t).2.1 = t.2.1) := by
  unfold cuT
  rw [if_pos hL]
  dsimp only
  by_cases c4 : t.1 = 4 ∧ inS L (t.2.1.getD 0 (0, 0)) = false
  · rw [if_pos c4]
    exact Or.inl ⟨c4.1, c4.2, rfl⟩
  · rw [if_neg c4]
    by_cases c3 : t.1 = 3 ∧ inS L (t.2.1.getD 0 (0, 0)) = false
    · rw [if_pos c3]
      exact Or.inr (Or.inl ⟨c3.1, c3.2, rfl⟩)
    · rw [if_neg c3]
      refine Or.inr (Or.inr ⟨fun h => ?_, rfl⟩)
      cases c : inS L (t.2.1.getD 0 (0, 0))
      · rcases h with h | h
        · exact absurd ⟨h, c⟩ c3
        · exact absurd ⟨h, c⟩ c4
      · rfl

end Go.Proofs.Ytjhnhbeimjnloaa

/- What holds of the document's world, from step to step: lists alone. -/
namespace Go.Proofs.Ytjhnhbeimjnloaa
open Go.RowKit W Kp Stl

def Evw (T : List Tw1) (e : En) : Prop := (0 ≤ e.1 ∧ Alv T e.1.toNat) ∧ (T.getD e.1.toNat t0).1 = 5 ∧ 0 ≤ e.2 ∧ Alv T e.2.toNat
structure Gi (s : Wrs) (j : Nat) : Prop where
  kd : ∀ i, Alv s.T i → 1 ≤ (s.T.getD i t0).1 ∧ (s.T.getD i t0).1 ≤ 5
  fl : ∀ i, Alv s.T i → (s.T.getD i t0).1 = 3 ∨ (s.T.getD i t0).1 = 4 → (s.T.getD i t0).2.1.length = 2
  g5 : ∀ i, Alv s.T i → (s.T.getD i t0).1 = 5 → (s.T.getD i t0).2.1 = []
  fv : ∀ i, Alv s.T i → ∀ v ∈ (s.T.getD i t0).2.1, Vq s.T v
  tl : ∀ i, (s.T.getD i t0).2.1.length ≤ 12
  rv : ∀ v ∈ s.rs, Vq s.T v
  rl : s.rs.length = 12
  gv : ∀ e ∈ s.rg, Evw s.T e
  wv : ∀ e ∈ s.wt, Evw s.T e
  en : s.rg.length + s.wt.length ≤ 24
  tj : s.T.length ≤ j
theorem Gi.more {s : Wrs} {j k : Nat} (h : Gi s j) (hk : j ≤ k) : Gi s k := { h with tj := Nat.le_trans h.tj hk }
theorem Gi.iv {s : Wrs} {j : Nat} (h : Gi s j) : Wiv s.T s.wt := ⟨h.fl, fun i hi v hv => (h.fv i hi v hv).2, fun e he => (h.wv e he).2.2, h.tl⟩
theorem Gi.wcv {s : Wrs} {j : Nat} (h : Gi s j) (hj : j ≤ 10000) : Wcv s :=
  ⟨h.iv, fun v hv => (h.rv v hv).2, fun e he => ⟨(h.gv e he).1, (h.gv e he).2.2⟩, fun e he => (h.wv e he).1, Nat.le_trans h.tj hj, by have := h.en; omega, by have := h.en; omega⟩
theorem Gi.wvw {s : Wrs} {j : Nat} (h : Gi s j) (hj : j ≤ 10000) : Wvw s.T s.wt :=
  ⟨h.fv, fun e he => ⟨(h.wv e he).1.1, (h.wv e he).2.2⟩, h.tl, Nat.le_trans h.tj hj, by have := h.en; omega⟩
theorem Vq.mono {T T' : List Tw1} {v : Int × Int} (h : Vq T v) (hm : v.1 = 3 → Alv T v.2.toNat → Alv T' v.2.toNat) : Vq T' v := ⟨h.1, fun h3 => ⟨(h.2 h3).1, hm h3 (h.2 h3).2⟩⟩
theorem vq_nil (T : List Tw1) : Vq T (0, 0) := ⟨by decide, fun h => by cases h⟩
theorem vq_gone (T : List Tw1) : Vq T (2, 0) := ⟨by decide, fun h => by cases h⟩
theorem Gi.rt {s : Wrs} {j : Nat} (h : Gi s j) (i : Nat) : Vq s.T (s.rs.getD i (0, 0)) := by
  by_cases c : i < s.rs.length
  · exact h.rv _ (getD_in c)
  · rw [List.getD_eq_getElem?_getD, List.getElem?_eq_none (by omega)]
    exact vq_nil _

theorem Gi.cut {s : Wrs} {j : Nat} (h : Gi s j) (hj : j ≤ 10000) {g : List Bool → List Bool} (hg : Gok s.T s.wt g) (grow : Int) (mj : Bool) : Gi (s.cut g grow mj) j := by
  unfold Wrs.cut
  split
  · exact h
  have hw := h.wcv hj
  have hC := cR_ci hw hg mj
  have hl := cR_len s g mj
  generalize hL : (s.cR g mj).1 = L at *
  generalize hCc : (s.cR g mj).2.1 = C at *
  have av := cu_alv hC.ok
  have gt : ∀ i, Ls_ L i → (cuL L s.T s.T.length).getD i t0 = cuT L i (s.T.getD i t0) := fun i hi => by rw [cuL_at, if_pos (hC.ok.al i hi).1]
  have tr : ∀ v, Vq s.T v → (v.1 = 3 → Ls_ L v.2.toNat) → Vq (cuL L s.T s.T.length) v := fun v hv hi => hv.mono (fun h3 _ => (av _).2 (hi h3))
  have ev : ∀ e, Evw s.T e → Ls_ L e.1.toNat → Ls_ L e.2.toNat → Evw (cuL L s.T s.T.length) e := fun e he h1 h2 => ⟨⟨he.1.1, (av _).2 h1⟩, by rw [gt _ h1, cuT_k]; exact he.2.1, he.2.2.1, (av _).2 h2⟩
  refine { kd := fun i hi => ?_, fl := fun i hi hk => ?_, g5 := fun i hi hk => ?_, fv := fun i hi v hv => ?_, tl := fun i => ?_, rv := fun v hv => ?_, rl := h.rl, gv := fun e he => ?_, wv := fun e he => ?_, en := ?_, tj := ?_ }
  · have hi := (av i).1 hi
    dsimp only
    rw [gt i hi, cuT_k]
    exact h.kd i (hC.ok.al i hi)
  · have hi := (av i).1 hi
    dsimp only at hk ⊢
    rw [gt i hi, cuT_k] at hk
    rw [gt i hi]
    have h2 := h.fl i (hC.ok.al i hi) hk
    rcases cuT_f (L := L) (i := i) (t := s.T.getD i t0) hi with ⟨_, _, e⟩ | ⟨_, _, e⟩ | ⟨_, e⟩ <;> rw [e]
    · rfl
    · rfl
    · exact h2
  · have hi := (av i).1 hi
    dsimp only at hk ⊢
    rw [gt i hi, cuT_k] at hk
    rw [gt i hi]
    rcases cuT_f (L := L) (i := i) (t := s.T.getD i t0) hi with ⟨d, _, _⟩ | ⟨d, _, _⟩ | ⟨_, e⟩
    · omega
    · omega
    · rw [e]
      exact h.g5 i (hC.ok.al i hi) hk
  · have hi := (av i).1 hi
    have ha := hC.ok.al i hi
    dsimp only at hv ⊢
    rw [gt i hi] at hv
    have cl : ∀ v, Kps s.T s.wt (Ls_ L) i v → v.1 = 3 → Ls_ L v.2.toNat := fun v hk h3 => hC.cl i ha.1 hi v hk h3
    rcases cuT_f (L := L) (i := i) (t := s.T.getD i t0) hi with ⟨_, _, e⟩ | ⟨k3, _, e⟩ | ⟨hin, e⟩
    · rw [e] at hv
      have : v = (2, 0) := by simpa using hv
      rw [this]
      exact vq_gone _
    · rw [e] at hv
      have : v = (2, 0) ∨ v = (s.T.getD i t0).2.1.getD 1 (0, 0) := by simpa using hv
      rcases this with rfl | rfl
      · exact vq_gone _
      · exact tr _ (h.fv i ha _ (getD_in (by rw [h.fl i ha (Or.inl k3)]; decide))) (fun h3 => cl _ (Or.inr (Or.inl ⟨k3, rfl⟩)) h3)
    · rw [e] at hv
      refine tr v (h.fv i ha v hv) (fun h3 => ?_)
      have hk := h.kd i ha
      by_cases c12 : (s.T.getD i t0).1 = 1 ∨ (s.T.getD i t0).1 = 2
      · exact cl v (Or.inl ⟨c12, hv⟩) h3
      · by_cases c5 : (s.T.getD i t0).1 = 5
        · rw [h.g5 i ha c5] at hv
          cases hv
        · have c34 : (s.T.getD i t0).1 = 3 ∨ (s.T.getD i t0).1 = 4 := by omega
          have h0 := inS_yes (hin c34)
          have h2 := h.fl i ha c34
          obtain ⟨q, hq, eq⟩ := List.mem_iff_getElem.1 hv
          rw [h2] at hq
          have ed : (s.T.getD i t0).2.1.getD q (0, 0) = v := by rw [List.getD_eq_getElem?_getD, List.getElem?_eq_getElem (by omega), eq]; rfl
          match q, hq, ed with
          | 0, _, ed =>
            rw [ed] at h0
            exact h0 h3
          | 1, _, ed =>
            rcases c34 with c | c
            · exact cl v (Or.inr (Or.inl ⟨c, ed.symm⟩)) h3
            · exact cl v (Or.inr (Or.inr (Or.inl ⟨c, h0, ed.symm⟩))) h3
          | q + 2, hq, _ => omega
  · dsimp only
    rw [cuL_at]
    split
    · cases c : L.getD i false
      · rw [cuT_n c]
        simp
      · rcases cuT_f (L := L) (i := i) (t := s.T.getD i t0) c with ⟨_, _, e⟩ | ⟨_, _, e⟩ | ⟨_, e⟩ <;> rw [e]
        · simp
        · simp
        · exact h.tl i
    · simp [t0]
  · exact tr v (h.rv v hv) (fun h3 => hC.up _ (c0_root hw hg mj hv h3))
  · obtain ⟨h1, h2⟩ := List.mem_filter.1 he
    rw [Bool.and_eq_true] at h2
    exact ev e (h.gv e h1) h2.2 (hC.up _ h2.1)
  · obtain ⟨h1, h2⟩ := List.mem_filter.1 he
    rcases List.mem_append.1 h1 with h1 | h1
    · have hv := h.wv e h1
      exact ev e hv h2 (hC.cl e.1.toNat hv.1.2.1 h2 (3, e.2) (Or.inr (Or.inr (Or.inr ⟨hv.2.1, e, h1, by have := hv.1.1; omega, rfl⟩))) rfl)
    · obtain ⟨q1, q2, q3⟩ := hC.cC e h1
      exact ev e (h.gv e q1) q2 q3
  · dsimp only
    have l1 : (s.rg.filter (fun e => isd (s.c0 g mj) e.2 && isd L e.1)).length + (s.rg.filter (fun e => !isd (s.c0 g mj) e.2)).length ≤ s.rg.length := by
      have key : ∀ l : List En, (l.filter (fun e => isd (s.c0 g mj) e.2 && isd L e.1)).length + (l.filter (fun e => !isd (s.c0 g mj) e.2)).length ≤ l.length := fun l => by
        induction l with
        | nil => simp
        | cons x l ih =>
          cases c : isd (s.c0 g mj) x.2
          · rw [List.filter_cons_of_neg (by rw [c]; simp), List.filter_cons_of_pos (by rw [c]; rfl)]
            simp only [List.length_cons]
            omega
          · rw [List.filter_cons_of_neg (p := fun e : En => !isd (s.c0 g mj) e.2) (by rw [c]; simp)]
            have : (List.filter (fun e : En => isd (s.c0 g mj) e.2 && isd L e.1) (x :: l)).length ≤ (List.filter (fun e : En => isd (s.c0 g mj) e.2 && isd L e.1) l).length + 1 := by
              rw [List.filter_cons]
              split
              · simp
              · omega
            simp only [List.length_cons]
            omega
      exact key s.rg
    have l2 := List.length_filter_le (fun e : En => isd L e.1) (s.wt ++ C)
    rw [List.length_append] at l2
    have := h.en
    omega
  · dsimp only
    rw [cuL_len]
    exact h.tj

end Go.Proofs.Ytjhnhbeimjnloaa

/- What holds of the document's world, step by step: lists alone. -/
namespace Go.Proofs.Ytjhnhbeimjnloaa
open Go.RowKit W Kp Stl

theorem getD_snoc (T : List Tw1) (t : Tw1) (i : Nat) : (T ++ [t]).getD i t0 = if i = T.length then t else T.getD i t0 := by
  rw [List.getD_eq_getElem?_getD, List.getD_eq_getElem?_getD, List.getElem?_append]
  by_cases h : i < T.length
  · rw [if_pos h, if_neg (by omega)]
  · rw [if_neg h]
    by_cases e : i = T.length
    · subst e
      simp
    · rw [if_neg e, List.getElem?_eq_none (by simp; omega), List.getElem?_eq_none (by omega)]
theorem alv_snoc (T : List Tw1) (k : Int) (fl : List (Int × Int)) (i : Nat) : Alv (T ++ [(k, fl, false, false)]) i ↔ Alv T i ∨ i = T.length := by
  unfold Alv
  rw [getD_snoc, List.length_append, List.length_singleton]
  by_cases e : i = T.length
  · rw [if_pos e]
    exact ⟨fun _ => Or.inr e, fun _ => ⟨by omega, rfl⟩⟩
  · rw [if_neg e]
    exact ⟨fun h => Or.inl ⟨by omega, h.2⟩, fun h => h.elim (fun h => ⟨by omega, h.2⟩) (fun h => absurd h e)⟩
theorem cut_rts (g : List Bool → List Bool) (s : Wrs) (grow : Int) (mj : Bool) : (s.cut g grow mj).rs = s.rs := by
  unfold Wrs.cut
  split <;> rfl
theorem room_rts (g : Gfn) (most grow : Int) (s : Wrs) (m : Int) : (s.room g most grow m).2.rs = s.rs := by
  unfold Wrs.room
  split
  · rfl
  · exact cut_rts _ _ _ _
theorem ckn {k R A B n : Int} (h : ckC k R A B n = 0) : ckN k n = 0 := by
  unfold ckC at h
  split at h
  · omega
  · split at h
    · omega
    · exact h
theorem ck_vc {R A B n : Int} (h : ckC 5 R A B n = 0) : 0 ≤ n ∧ n ≤ 12 := by
  have h5 := ckn h
  unfold ckN at h5
  rw [if_neg (by decide), if_pos rfl] at h5
  unfold hc at h5
  rw [if_neg (by decide), if_neg (by decide), if_neg (by decide), if_pos rfl] at h5
  split at h5
  · omega
  · split at h5 <;> omega
theorem ck_in {R A B n : Int} (h : ckC 1 R A B n = 0) : vc 1 n = 0 := by
  have h5 := ckn h
  unfold ckN at h5
  rwa [if_pos rfl] at h5

section
variable {s : Wrs} {j : Nat} {g : Gfn} {most grow : Int}

theorem Gi.room (h : Gi s j) (hj : j ≤ 10000) (hg : Gok s.T s.wt (g s.T s.wt)) (m : Int) : Gi (s.room g most grow m).2 j := by
  unfold Wrs.room
  split
  · exact h
  · exact h.cut hj hg _ _
theorem Gi.put (h : Gi s j) {kd : Int} {fl : List (Int × Int)} (h1 : 1 ≤ kd) (h2 : kd ≤ 5) (h3 : kd = 3 ∨ kd = 4 → fl.length = 2) (h4 : kd = 5 → fl = []) (hf : ∀ v ∈ fl, Vq s.T v) (hl : fl.length ≤ 12) : Gi (s.put kd fl) (j + 1) := by
  have av := alv_snoc s.T kd fl
  have tr : ∀ v, Vq s.T v → Vq (s.T ++ [(kd, fl, false, false)]) v := fun v hv => hv.mono (fun _ ha => (av _).2 (Or.inl ha))
  have gt : ∀ i, Alv s.T i → (s.T ++ [(kd, fl, false, false)]).getD i t0 = s.T.getD i t0 := fun i hi => by rw [getD_snoc, if_neg (by have := hi.1; omega)]
  have ge : (s.T ++ [(kd, fl, false, false)]).getD s.T.length t0 = (kd, fl, false, false) := by rw [getD_snoc, if_pos rfl]
  have ev : ∀ e, Evw s.T e → Evw (s.T ++ [(kd, fl, false, false)]) e := fun e he => ⟨⟨he.1.1, (av _).2 (Or.inl he.1.2)⟩, by rw [gt _ he.1.2]; exact he.2.1, he.2.2.1, (av _).2 (Or.inl he.2.2.2)⟩
  unfold Wrs.put
  refine { kd := fun i hi => ?_, fl := fun i hi hk => ?_, g5 := fun i hi hk => ?_, fv := fun i hi v hv => ?_, tl := fun i => ?_, rv := fun v hv => tr v (h.rv v hv), rl := h.rl, gv := fun e he => ev e (h.gv e he), wv := fun e he => ev e (h.wv e he), en := h.en, tj := ?_ }
  · rcases (av i).1 hi with hi | rfl
    · dsimp only
      rw [gt i hi]
      exact h.kd i hi
    · dsimp only
      rw [ge]
      exact ⟨h1, h2⟩
  · rcases (av i).1 hi with hi | rfl
    · dsimp only at hk ⊢
      rw [gt i hi] at hk ⊢
      exact h.fl i hi hk
    · dsimp only at hk ⊢
      rw [ge] at hk ⊢
      exact h3 hk
  · rcases (av i).1 hi with hi | rfl
    · dsimp only at hk ⊢
      rw [gt i hi] at hk ⊢
      exact h.g5 i hi hk
    · dsimp only at hk ⊢
      rw [ge] at hk ⊢
      exact h4 hk
  · rcases (av i).1 hi with hi | rfl
    · dsimp only at hv ⊢
      rw [gt i hi] at hv
      exact tr v (h.fv i hi v hv)
    · dsimp only at hv ⊢
      rw [ge] at hv
      exact tr v (hf v hv)
  · dsimp only
    rw [getD_snoc]
    split
    · exact hl
    · exact h.tl i
  · dsimp only
    rw [List.length_append, List.length_singleton]
    have := h.tj
    omega
theorem Gi.grw (h : Gi s j) (hj : j ≤ 10000) (hg : Gok s.T s.wt (g s.T s.wt)) {kd : Int} {fl : List (Int × Int)} (h1 : 1 ≤ kd) (h2 : kd ≤ 5) (h3 : kd = 3 ∨ kd = 4 → fl.length = 2) (h4 : kd = 5 → fl = []) (hf : ∀ v ∈ fl, v ∈ s.rs ∨ v = (0, 0)) (hl : fl.length ≤ 12) :
    Gi (s.grow g most grow kd fl).2.2 (j + 1) ∧ Vq (s.grow g most grow kd fl).2.2.T (s.grow g most grow kd fl).1 := by
  have hr := h.room hj hg (most := most) (grow := grow) (1 + fl.length)
  have hs := room_rts g most grow s (1 + fl.length)
  unfold Wrs.grow
  generalize s.room g most grow (1 + fl.length) = p at *
  obtain ⟨c, s1⟩ := p
  dsimp only at *
  split
  · dsimp only
    refine ⟨hr.put h1 h2 h3 h4 (fun v hv => ?_) hl, ?_⟩
    · rcases hf v hv with d | d
      · exact hr.rv v (by rw [hs]; exact d)
      · rw [d]
        exact vq_nil _
    · have hl2 := hr.tj
      refine ⟨vc3_in _ (by omega) (by omega), fun _ => ⟨by dsimp only; omega, ?_⟩⟩
      unfold Wrs.put
      exact (alv_snoc _ _ _ _).2 (Or.inr (by dsimp only; omega))
  · exact ⟨hr.more (Nat.le_succ _), vq_nil _⟩
theorem Gi.pop (h : Gi s j) (hj : j ≤ 10000) (v : Int × Int) : Gi (s.pop v).2.2 j ∧ Vq (s.pop v).2.2.T (s.pop v).1 := by
  unfold Wrs.pop
  split
  · split
    · rename_i c
      have he := h.wv _ (getD_in (x := (0, 0)) c)
      have hb := he.2.2.2.1
      have ht := h.tj
      refine ⟨{ h with wv := fun e hm => ?_, en := ?_ }, vc3_in _ he.2.2.1 (by dsimp only; omega), fun _ => he.2.2⟩
      · refine h.wv e ?_
        rcases List.mem_append.1 hm with d | d
        · exact List.mem_of_mem_take d
        · exact List.mem_of_mem_drop d
      · have := h.en
        dsimp only
        rw [List.length_append, List.length_take, List.length_drop]
        omega
    · exact ⟨h, vq_nil _⟩
  · exact ⟨h, vq_nil _⟩
theorem gdb_in {T : List Tw1} {v : Int × Int} (hv : Vq T v) (h : gdb T v = true) : (0 ≤ v.2 ∧ Alv T v.2.toNat) ∧ (T.getD v.2.toNat t0).1 = 5 := by
  obtain ⟨h1, h2⟩ := gdb_iff.1 h
  exact ⟨hv.2 h1, h2⟩
theorem Gi.reg (h : Gi s j) {t d : Int × Int} (ht : Vq s.T t) (hd : Vq s.T d) : Gi (s.reg t d).2 j := by
  unfold Wrs.reg
  split
  · rename_i c
    split
    · exact h
    · obtain ⟨q1, q2⟩ := gdb_in hd c.2
      refine { h with gv := fun e he => ?_, en := ?_ }
      · rcases List.mem_append.1 he with he | he
        · exact h.gv e he
        · rw [List.mem_singleton.1 he]
          exact ⟨q1, q2, ht.2 c.1⟩
      · dsimp only
        rw [List.length_append, List.length_singleton]
        omega
  · exact h
theorem getD_stf (T : List Tw1) (i q : Nat) (y : Int × Int) (k : Nat) (hi : i < T.length) : (stf T i q y).getD k t0 = if k = i then ((T.getD i t0).1, (T.getD i t0).2.1.set q y, (T.getD i t0).2.2) else T.getD k t0 := by
  unfold stf
  rw [List.getD_eq_getElem?_getD, List.getElem?_set]
  by_cases e : i = k
  · subst e
    rw [if_pos rfl, if_pos hi, if_pos rfl]
    rfl
  · rw [if_neg e, if_neg (fun c => e c.symm), ← List.getD_eq_getElem?_getD]
theorem alv_stf (T : List Tw1) (i q : Nat) (y : Int × Int) (hi : i < T.length) (k : Nat) : Alv (stf T i q y) k ↔ Alv T k := by
  unfold Alv
  rw [getD_stf T i q y k hi, List.length_set]
  split
  · rename_i e
    rw [e]
  · exact Iff.rfl
theorem Gi.set (h : Gi s j) {v y : Int × Int} (I : Int) (hv : Vq s.T v) (hy : Vq s.T y) : Gi (s.set v I y).2 j := by
  unfold Wrs.set
  dsimp only
  split
  · rename_i c
    have hfd : fdb s.T v = true := by
      cases e : fdb s.T v
      · unfold Wrs.fc at c
        rw [e, if_neg (by simp)] at c
        omega
      · rfl
    obtain ⟨h3, hk5⟩ := fdb_iff.1 hfd
    obtain ⟨_, ha⟩ := hv.2 h3
    generalize v.2.toNat = i at *
    have hi := ha.1
    have av := alv_stf s.T i I.toNat y hi
    have gt := fun k => getD_stf s.T i I.toNat y k hi
    have tr : ∀ v, Vq s.T v → Vq (stf s.T i I.toNat y) v := fun v hv => hv.mono (fun _ ha => (av _).2 ha)
    have k1 : ∀ k, ((stf s.T i I.toNat y).getD k t0).1 = (s.T.getD k t0).1 := fun k => by
      rw [gt k]
      split
      · rename_i e
        rw [e]
      · rfl
    have l1 : ∀ k, ((stf s.T i I.toNat y).getD k t0).2.1.length = (s.T.getD k t0).2.1.length := fun k => by
      rw [gt k]
      split
      · rename_i e
        rw [e, List.length_set]
      · rfl
    have ev : ∀ e, Evw s.T e → Evw (stf s.T i I.toNat y) e := fun e he => ⟨⟨he.1.1, (av _).2 he.1.2⟩, by rw [k1]; exact he.2.1, he.2.2.1, (av _).2 he.2.2.2⟩
    refine { kd := fun k hk => ?_, fl := fun k hk hq => ?_, g5 := fun k hk hq => ?_, fv := fun k hk x hx => ?_, tl := fun k => ?_, rv := fun x hx => tr x (h.rv x hx), rl := h.rl, gv := fun e he => ev e (h.gv e he), wv := fun e he => ev e (h.wv e he), en := h.en, tj := ?_ }
    · dsimp only
      rw [k1]
      exact h.kd k ((av k).1 hk)
    · dsimp only at hq ⊢
      rw [k1] at hq
      rw [l1]
      exact h.fl k ((av k).1 hk) hq
    · dsimp only at hq ⊢
      rw [k1] at hq
      have e0 : k ≠ i := fun e => hk5 (by rw [← e]; exact hq)
      rw [gt k, if_neg e0]
      exact h.g5 k ((av k).1 hk) hq
    · dsimp only at hx ⊢
      rw [gt k] at hx
      split at hx
      · rename_i e
        rcases List.mem_or_eq_of_mem_set hx with d | d
        · exact tr x (h.fv i ha x d)
        · rw [d]
          exact tr y hy
      · exact tr x (h.fv k ((av k).1 hk) x hx)
    · dsimp only
      rw [l1]
      exact h.tl k
    · dsimp only
      rw [List.length_set]
      exact h.tj
  · exact h
theorem Gi.root (h : Gi s j) (R : Nat) {v : Int × Int} (hv : Vq s.T v) : Gi { s with rs := s.rs.set R v } j :=
  { h with
    rv := fun x hx => (List.mem_or_eq_of_mem_set hx).elim (h.rv x) (fun e => by rw [e]; exact hv)
    rl := by dsimp only; rw [List.length_set]; exact h.rl }
theorem rt_mem (s : Wrs) (i : Nat) : s.rs.getD i (0, 0) ∈ s.rs ∨ s.rs.getD i (0, 0) = (0, 0) := by
  by_cases c : i < s.rs.length
  · exact Or.inl (getD_in c)
  · rw [List.getD_eq_getElem?_getD, List.getElem?_eq_none (by omega)]
    exact Or.inr rfl
theorem Gi.rts (h : Gi s j) (hj : j ≤ 10000) (hg : Gok s.T s.wt (g s.T s.wt)) {k R A B n : Int} (hc : ckC k R A B n = 0) (I : Int) : Gi (s.rt g most grow k A.toNat B.toNat I n).2.2 (j + 1) ∧ Vq (s.rt g most grow k A.toNat B.toNat I n).2.2.T (s.rt g most grow k A.toNat B.toNat I n).1 := by
  have hs := h.more (Nat.le_succ j)
  have two : ∀ v ∈ [s.rs.getD A.toNat (0, 0), s.rs.getD B.toNat (0, 0)], v ∈ s.rs ∨ v = (0, 0) := fun v hv => by
    have : v = s.rs.getD A.toNat (0, 0) ∨ v = s.rs.getD B.toNat (0, 0) := by simpa using hv
    rcases this with rfl | rfl
    · exact rt_mem s _
    · exact rt_mem s _
  have vn : ∀ x : Int, -1152921504606846976 ≤ x → x < 1152921504606846976 → Vq s.T (1, x) := fun x h1 h2 => ⟨by simp [vc, rc]; omega, fun h => by cases h⟩
  unfold Wrs.rt
  by_cases k1 : k = 1
  · rw [if_pos k1]
    subst k1
    exact ⟨hs, ck_in hc, fun h => by cases h⟩
  rw [if_neg k1]
  by_cases k3 : k = 3
  · rw [if_pos k3]
    exact ⟨hs, h.rt _⟩
  rw [if_neg k3]
  by_cases k4 : k = 4
  · rw [if_pos k4]
    exact h.grw hj hg (by decide) (by decide) (by simp) (by simp) two (by simp)
  rw [if_neg k4]
  by_cases k5 : k = 5
  · rw [if_pos k5]
    subst k5
    have hn := ck_vc hc
    exact h.grw hj hg (by decide) (by decide) (by simp) (by simp) (fun v hv => by rw [(List.mem_replicate.1 hv).2]; exact rt_mem s _) (by rw [List.length_replicate]; omega)
  rw [if_neg k5]
  by_cases k6 : k = 6
  · rw [if_pos k6]
    exact h.grw hj hg (by decide) (by decide) (by simp) (by simp) two (by simp)
  rw [if_neg k6]
  by_cases k7 : k = 7
  · rw [if_pos k7]
    exact h.grw hj hg (by decide) (by decide) (by simp) (by simp) two (by simp)
  rw [if_neg k7]
  by_cases k8 : k = 8
  · rw [if_pos k8]
    exact h.grw hj hg (by decide) (by decide) (by simp) (by simp) (by simp) (by simp)
  rw [if_neg k8]
  by_cases k10 : k = 10
  · rw [if_pos k10]
    have := h.pop hj (s.rs.getD A.toNat (0, 0))
    exact ⟨this.1.more (Nat.le_succ _), this.2⟩
  rw [if_neg k10]
  by_cases k11 : k = 11
  · rw [if_pos k11]
    refine ⟨hs, ?_⟩
    dsimp only
    split
    · rename_i c
      by_cases e : fdb s.T (s.rs.getD A.toNat (0, 0)) = true
      · obtain ⟨h3, _⟩ := fdb_iff.1 e
        have ha := ((h.rt A.toNat).2 h3).2
        by_cases ci : I.toNat < (s.T.getD (s.rs.getD A.toNat (0, 0)).2.toNat t0).2.1.length
        · exact h.fv _ ha _ (getD_in ci)
        · rw [List.getD_eq_getElem?_getD (l := (s.T.getD (s.rs.getD A.toNat (0, 0)).2.toNat t0).2.1), List.getElem?_eq_none (by omega)]
          exact vq_nil _
      · unfold Wrs.fc at c
        rw [if_neg e] at c
        omega
    · exact vq_nil _
  rw [if_neg k11]
  by_cases k13 : k = 13
  · rw [if_pos k13]
    split
    · refine ⟨hs, vn _ (by omega) ?_⟩
      have := h.tl (s.rs.getD A.toNat (0, 0)).2.toNat
      omega
    · exact ⟨hs, vq_nil _⟩
  rw [if_neg k13]
  by_cases k14 : k = 14
  · rw [if_pos k14]
    refine ⟨hs, ?_⟩
    dsimp only
    split
    · exact vn _ (by decide) (by decide)
    · exact vn _ (by decide) (by decide)
  rw [if_neg k14]
  exact ⟨hs, vq_nil _⟩
theorem Gi.dos (h : Gi s j) (hj : j ≤ 10000) (hg : Gok s.T s.wt (g s.T s.wt)) (k R A B I n : Int) : Gi (s.dos g most grow k R A B I n).2 (j + 1) := by
  have hs := Nat.le_succ j
  unfold Wrs.dos
  by_cases hc : ckC k R A B n = 0
  · rw [if_pos hc]
    split
    · exact (h.reg (h.rt _) (h.rt _)).more hs
    · split
      · exact (h.set I (h.rt _) (h.rt _)).more hs
      · split
        · exact (h.cut hj hg _ _).more hs
        · split
          · exact (h.cut hj hg _ _).more hs
          · have hr := h.rts hj hg hc I (most := most) (grow := grow)
            split
            · exact hr.1.root _ hr.2
            · exact hr.1
  · rw [if_neg hc]
    exact h.more hs
end

theorem Gi.start : Gi ⟨[], List.replicate 12 (0, 0), [], []⟩ 0 :=
  ⟨fun i hi => absurd hi.1 (by simp), fun i hi => absurd hi.1 (by simp), fun i hi => absurd hi.1 (by simp), fun i hi => absurd hi.1 (by simp), fun i => by simp [t0], fun v hv => by rw [(List.mem_replicate.1 hv).2]; exact vq_nil _, by simp, fun e he => by simp at he, fun e he => by simp at he, by simp, by simp⟩

end Go.Proofs.Ytjhnhbeimjnloaa
