/- Joined: Gx15, Gx5. -/
import Derived.Test.YtogknhogphkddaaGreatJ19
import Derived.Test.YtogknhogphkddaaGreatJ18
import Derived.Test.YtogknhogphkddaaGreatJ04
/- A grove's cut in memory: breakLost: a contract. -/
namespace Go.Proofs.YtogknhogphkddaaGreat
open Go.RowKit W Kp Stl

def bkF (A : List Bool) (t : Tw1) : List (Int × Int) := if t.1 = 4 ∧ inS A (t.2.1.getD 0 (0, 0)) = false then [(2, 0), (2, 0)] else if t.1 = 3 ∧ inS A (t.2.1.getD 0 (0, 0)) = false then [(2, 0), t.2.1.getD 1 (0, 0)] else t.2.1
def bkL (A : List Bool) (T : List Tw1) (left : Int → Bool) (i : Nat) : List (Int × Int) := if left i = true then (T.getD i t0).2.1 else bkF A (T.getD i t0)
structure Bkm (T : List Tw1) (fm : Fm) (A : List Bool) (lab : Nat → Nat) (cp ab n1 : Nat) (fs : Nat → List (Int × Int)) (w : World) : Prop where
  c1 : w.cell? ⟨cp, 1, none⟩ = some (.map (some ab))
  hM : Mh w ab n1 (alF T fm A)
  row : ∀ i, Ls_ A i → w.ownsRow 0 54 2 (fsV T fm i) (T.getD i t0).2.1.length (ev (fs i))
  lb : ∀ i, Ls_ A i → ∀ k, some k = (fsV T fm i).ownBlock → lab k = 10 + i
  no : lab cp = 0 ∧ lab ab = 0
structure Bkt (T : List Tw1) (A : List Bool) : Prop where
  l2 : ∀ i, Ls_ A i → (T.getD i t0).1 = 3 ∨ (T.getD i t0).1 = 4 → (T.getD i t0).2.1.length = 2
  v0 : ∀ i, Ls_ A i → ((T.getD i t0).2.1.getD 0 (0, 0)).1 = 3 → 0 ≤ ((T.getD i t0).2.1.getD 0 (0, 0)).2 ∧ ((T.getD i t0).2.1.getD 0 (0, 0)).2 < 10000

section
variable {T : List Tw1} {fm : Fm} {A : List Bool} {lab : Nat → Nat} {cp ab n1 : Nat} {fs : Nat → List (Int × Int)} {w w' : World}
theorem Bkm.keep (h : Bkm T fm A lab cp ab n1 fs w) (hk : ∀ b, b = cp ∨ b = ab ∨ 10 ≤ lab b → w'.heap[b]? = w.heap[b]?) : Bkm T fm A lab cp ab n1 fs w' :=
  ⟨(World.cell?_of_block (a := ⟨cp, 1, none⟩) (hk cp (Or.inl rfl))).trans h.c1, h.hM.same (hk ab (Or.inr (Or.inl rfl))), fun i hi => row_keep (h.row i hi) (fun k e => hk k (Or.inr (Or.inr (by rw [h.lb i hi k e]; omega)))), h.lb, h.no⟩
theorem Bkm.set (h : Bkm T fm A lab cp ab n1 fs w) {i b cap : Nat} (hi : Ls_ A i) (e : fsV T fm i = .slice (some ⟨b, 0, none⟩) (T.getD i t0).2.1.length cap) {gs : Nat → List (Int × Int)} (hg : ∀ j, j ≠ i → gs j = fs j)
    (hr : w'.ownsRow 0 54 2 (fsV T fm i) (T.getD i t0).2.1.length (ev (gs i))) (fr : Fr (fun k => k = b) w w') : Bkm T fm A lab cp ab n1 gs w' := by
  have lb := h.lb i hi b (by rw [e]; rfl)
  have lc := World.block_lt_of_cell? w _ h.c1
  have h0 := h.no
  refine ⟨(World.cell?_of_block (a := ⟨cp, 1, none⟩) (fr.block cp lc (fun d => by rw [d] at h0; omega))).trans h.c1, h.hM.same (fr.block ab h.hM.lt (fun d => by rw [d] at h0; omega)), fun j hj => ?_, h.lb, h.no⟩
  by_cases ej : j = i
  · subst ej
    exact hr
  · rw [hg j ej]
    exact row_keep (h.row j hj) (fun k e' => fr.block k (row_lt (h.row j hj) k e').2 (fun d => by
      have h1 := h.lb j hj k e'
      rw [d, lb] at h1
      omega))
theorem Bkm.put (h : Bkm T fm A lab cp ab n1 fs w) {i b cap : Nat} (hi : Ls_ A i) (e : fsV T fm i = .slice (some ⟨b, 0, none⟩) (T.getD i t0).2.1.length cap) (j : Nat) (y : Int × Int) :
    Bkm T fm A lab cp ab n1 (fun k => if k = i then (fs i).set j y else fs k) ((w.setCell ⟨b, j * 2, none⟩ (.int .i64 y.1)).setCell ⟨b, j * 2 + 1, none⟩ (.int .i64 y.2)) ∧ Fr (fun k => k = b) w ((w.setCell ⟨b, j * 2, none⟩ (.int .i64 y.1)).setCell ⟨b, j * 2 + 1, none⟩ (.int .i64 y.2)) := by
  have fr : Fr (fun k => k = b) w ((w.setCell ⟨b, j * 2, none⟩ (.int .i64 y.1)).setCell ⟨b, j * 2 + 1, none⟩ (.int .i64 y.2)) := ((Fr.refl (fun k => k = b) w).set b _ _ rfl).set b _ _ rfl
  refine ⟨h.set hi e (fun j' hj => if_neg hj) ?_ fr, fr⟩
  have h1 := h.row i hi
  rw [if_pos rfl, ev_root, e]
  rw [e] at h1
  exact row_put (row_put h1 (j * 2) (.int .i64 y.1)) (j * 2 + 1) (.int .i64 y.2)
theorem Bkm.congr {gs : Nat → List (Int × Int)} (h : Bkm T fm A lab cp ab n1 fs w) (e : ∀ j, gs j = fs j) : Bkm T fm A lab cp ab n1 gs w := by rwa [show gs = fs from funext e]
theorem bkL_go (left : Int → Bool) (i : Nat) : (∀ j, j ≠ i → bkL A T (fun y => left y && !(y == (i : Int))) j = bkL A T left j) ∧ bkL A T (fun y => left y && !(y == (i : Int))) i = bkF A (T.getD i t0) := by
  refine ⟨fun j hj => ?_, ?_⟩
  · unfold bkL
    have : ((j : Int) == (i : Int)) = false := by simp; omega
    simp [this]
  · unfold bkL
    rw [if_neg (by simp)]

set_option maxRecDepth 100000 in
set_option maxHeartbeats 8000000 in
theorem breakX_any (h : Bkm T fm A lab cp ab n1 (fun i => (T.getD i t0).2.1) w) (ht : Bkt T A) (hl : ∀ b, lab b ≠ 0 → b < w.heap.size) (hA : ∀ i, Ls_ A i → i < 10000) :
    Calls Tryz.prog 71 #[.pointer (some ⟨cp, 0, none⟩)] w fun e w' => e = .returned (.tuple #[]) ∧ Bkm T fm A lab cp ab n1 (fun i => bkF A (T.getD i t0)) w' ∧ Fr (fun b => 10 ≤ lab b) w w' := by
  obtain ⟨w1, cn, hrun, hR, gr, sz⟩ := h.hM.range (t := 47) (e := 76) Tryz.underlying47
  have bb : Below w.heap.size w w1 := (Below.refl _ _).grown gr (Nat.le_refl _) (fun j hj => by cases hj)
  have c1 := h.c1
  have lc : cp < w.heap.size := World.block_lt_of_cell? w _ h.c1
  have la := h.hM.lt
  have HT : Hid (Bkt T A ∧ (∀ b, lab b ≠ 0 → b < w.heap.size) ∧ ∀ i, Ls_ A i → i < 10000) := ⟨ht, hl, hA⟩
  have HS : Hid (Rgm w1 ab w.heap.size n1 (alF T fm A) (fun x => (alF T fm A x).isSome) cn ∧ Below w.heap.size w w1 ∧ Bkm T fm A lab cp ab n1 (bkL A T (fun x => (alF T fm A x).isSome)) w1) := ⟨hR, bb, by
    have h1 := h.keep (w' := w1) (fun b hb => bb.block b (by
      rcases hb with d | d | d
      · rw [d]; exact lc
      · rw [d]; exact h.hM.lt
      · exact hl b (by omega)))
    refine ⟨h1.c1, h1.hM, fun i hi => ?_, h1.lb, h1.no⟩
    have h2 := h1.row i hi
    unfold bkL
    rw [if_pos (by dsimp only; rw [alF_some (by omega), isd, Int.toNat_natCast]; exact hi)]
    exact h2⟩
  clear h ht hl hA hR gr
  go_enter Tryz.func71, Tryz.ntmps71
  go_wp2_with fail
  go_loopw [3] (fun _ wr => ∃ (left : Int → Bool) (k : Nat), Hid (Rgm wr ab w.heap.size n1 (alF T fm A) left k ∧ Bkm T fm A lab cp ab n1 (bkL A T left) wr ∧ Fr (fun b => 10 ≤ lab b) w wr)) (fun _ wr => wr.rangeLeft ab w.heap.size)
  case atStart =>
    obtain ⟨r, b, g⟩ := HS.out
    exact ⟨_, cn, r, g, Fr.of b⟩
  case round =>
    clear hrun c1
    obtain ⟨left, k, HI⟩ := hrel
    obtain ⟨hR, g, fr⟩ := HI.out
    rcases hR.next 0 with ⟨h0, hl, hrun⟩ | ⟨x, v, w2, k2, hlx, hfx, hrun, hR2, hlt, gr2, sz2, hen⟩
    · have e1 : bkL A T left = fun i => bkF A (T.getD i t0) := by
        funext i
        unfold bkL
        rw [hl, if_neg (by decide)]
      rw [e1] at g
      have HF : Hid (_ ∧ _) := ⟨g, fr⟩
      clear hR g fr hl HI e1
      go_wp2_with fail
      go_end0
      exact ⟨rfl, HF.out.1, HF.out.2⟩
    · have hxa : 0 ≤ x ∧ A.getD x.toNat false = true := by
        unfold alF at hfx
        split at hfx
        · assumption
        · cases hfx
      obtain ⟨i, rfl⟩ := Int.eq_ofNat_of_zero_le hxa.1
      have hia : Ls_ A i := by simpa [Ls_] using hxa.2
      have hv : v = thV T fm i := by
        unfold alF at hfx
        rw [if_pos hxa] at hfx
        exact (Option.some.inj hfx).symm
      obtain ⟨hT, hlab, hA⟩ := HT.out
      obtain ⟨go1, go2⟩ := bkL_go (A := A) (T := T) left i
      have hli : bkL A T left i = (T.getD i t0).2.1 := by unfold bkL; rw [if_pos hlx]
      have f2 : Fr (fun b => b = w.heap.size) wr w2 := (Fr.refl _ wr).grown gr2 (fun j e => Or.inl (by cases e; rfl))
      have g2 : Bkm T fm A lab cp ab n1 (bkL A T left) w2 := g.keep (fun b hb => f2.block b (by
        rcases hb with d | d | d
        · rw [d]; exact World.block_lt_of_cell? wr _ g.c1
        · rw [d]; exact g.hM.lt
        · exact Nat.lt_of_lt_of_le (hlab b (by omega)) fr.size) (by
        rcases hb with d | d | d
        · rw [d]; exact Nat.ne_of_lt lc
        · rw [d]; exact Nat.ne_of_lt la
        · have := hlab b (by omega)
          omega))
      have HN : Hid (∀ w3, Below w2.heap.size w2 w3 → Rgm w3 ab w.heap.size n1 (alF T fm A) (fun y => left y && !(y == (i : Int))) k2 ∧ Bkm T fm A lab cp ab n1 (bkL A T left) w3 ∧ Fr (fun b => 10 ≤ lab b) w w3) := fun w3 hb => ⟨hR2.same (hb.block _ hR2.mh.lt) (hb.block _ hR2.lt), g2.keep (fun b hb' => hb.block b (by
        rcases hb' with d | d | d
        · rw [d]; exact World.block_lt_of_cell? w2 _ g2.c1
        · rw [d]; exact g2.hM.lt
        · have := hlab b (by omega)
          exact Nat.lt_of_lt_of_le this (Nat.le_trans fr.size f2.size))), (fr.trans f2 (fun b e => Or.inr (by rw [e]; exact Nat.le_refl _))).trans (Fr.of (X := fun b => 10 ≤ lab b) hb) (fun _ d => Or.inl d)⟩
      have HL : Hid (wr.rangeLeft ab w.heap.size = k ∧ k2 < k) := ⟨hR.left_eq, hlt⟩
      have HZ : Hid (bkF A (T.getD i t0) = (T.getD i t0).2.1 → bkL A T (fun y => left y && !(y == (i : Int))) = bkL A T left) := fun e => by
        funext j
        by_cases ej : j = i
        · subst ej
          rw [go2, e, hli]
        · exact go1 j ej
      have v0 := hT.v0 i hia
      have hl2 := hT.l2 i hia
      have hrow := g2.row i hia
      rw [hli] at hrow
      have HGo : Hid (Ls_ A i ∧ (∀ j, j ≠ i → bkL A T (fun y => left y && !(y == (i : Int))) j = bkL A T left j) ∧ bkL A T (fun y => left y && !(y == (i : Int))) i = bkF A (T.getD i t0) ∧ bkL A T left i = (T.getD i t0).2.1) := ⟨hia, go1, go2, hli⟩
      have hlb := g2.lb i hia
      have hno := g2.no
      have HC : Hid (Bkm T fm A lab cp ab n1 (bkL A T left) w2) := g2
      dsimp only [thV] at hv
      subst hv
      clear hR g fr hlx hfx hR2 hlt gr2 sz2 hxa hia hT hA go1 go2 hli f2 g2 HI HS
      by_cases k34 : (T.getD i t0).1 = 3 ∨ (T.getD i t0).1 = 4
      · have l2 := hl2 k34
        obtain ⟨b, cap, ef⟩ := row_shape hrow (by omega)
        have lb2 := lt_of_some (row_type hrow b (by rw [ef]; rfl)).choose_spec
        obtain ⟨cs, hcs⟩ := row_type hrow b (by rw [ef]; rfl)
        have ffz : ∀ o, w2.frozen? ⟨b, o, none⟩ = false := fun o => by simp [World.frozen?, hcs]
        obtain ⟨b', o', ead, _, hcl⟩ := row_pairs hrow (by omega)
        have eb : (fm i).1 = some ⟨b, 0, none⟩ := (Value.slice.inj ef).1
        rw [eb] at ead
        cases ead
        obtain ⟨z0, z1⟩ := hcl 0 (by omega)
        obtain ⟨y0, y1⟩ := hcl 1 (by omega)
        rw [Nat.zero_mul, Nat.add_zero] at z0 z1
        rw [Nat.zero_add, Nat.one_mul] at y0 y1
        rw [l2] at ef
        have HE : Hid (fsV T fm i = .slice (some ⟨b, 0, none⟩) (T.getD i t0).2.1.length cap) := by show _ = _; rw [l2]; exact ef
        have hb10 : 10 ≤ lab b := by rw [hlb b (by rw [ef]; rfl)]; omega
        have lbw : b < w.heap.size := hlab b (by omega)
        have nb1 : b ≠ w2.heap.size := by omega
        have nb2 : w2.heap.size ≠ b := by omega
        have HO : Hid (10 ≤ lab b ∧ b < w2.heap.size) := ⟨hb10, lb2⟩
        have hfl : Hid ((T.getD i t0).2.1 = [(T.getD i t0).2.1.getD 0 (0, 0), (T.getD i t0).2.1.getD 1 (0, 0)]) := by
          show _ = _
          match hq : (T.getD i t0).2.1, l2 with
          | [p, q], _ => rfl
        have hbF : Hid (inS A ((T.getD i t0).2.1.getD 0 (0, 0)) = true → bkF A (T.getD i t0) = (T.getD i t0).2.1) := fun e => by
          unfold bkF
          rw [if_neg (fun d => by rw [e] at d; cases d.2), if_neg (fun d => by rw [e] at d; cases d.2)]
        have hb3 : Hid ((T.getD i t0).1 = 3 → inS A ((T.getD i t0).2.1.getD 0 (0, 0)) = false → bkF A (T.getD i t0) = (T.getD i t0).2.1.set 0 (2, 0)) := fun k3 e => by
          unfold bkF
          rw [if_neg (fun d => by omega), if_pos ⟨k3, e⟩]
          conv => rhs; rw [hfl.out]
          rfl
        have hb4 : Hid ((T.getD i t0).1 = 4 → inS A ((T.getD i t0).2.1.getD 0 (0, 0)) = false → bkF A (T.getD i t0) = ((T.getD i t0).2.1.set 0 (2, 0)).set 1 (2, 0)) := fun k4 e => by
          unfold bkF
          rw [if_pos ⟨k4, e⟩]
          conv => rhs; rw [hfl.out]
          rfl
        have K1 : Hid (∀ w3, Below w2.heap.size w2 w3 → Rgm ((w3.setCell ⟨b, 0 * 2, none⟩ (.int .i64 2)).setCell ⟨b, 0 * 2 + 1, none⟩ (.int .i64 0)) ab w.heap.size n1 (alF T fm A) (fun y => left y && !(y == (i : Int))) k2 ∧ Bkm T fm A lab cp ab n1 (fun k => if k = i then (bkL A T left i).set 0 (2, 0) else bkL A T left k) ((w3.setCell ⟨b, 0 * 2, none⟩ (.int .i64 2)).setCell ⟨b, 0 * 2 + 1, none⟩ (.int .i64 0)) ∧ Fr (fun b => 10 ≤ lab b) w ((w3.setCell ⟨b, 0 * 2, none⟩ (.int .i64 2)).setCell ⟨b, 0 * 2 + 1, none⟩ (.int .i64 0)) ∧ Fr (fun k => k = b) w3 ((w3.setCell ⟨b, 0 * 2, none⟩ (.int .i64 2)).setCell ⟨b, 0 * 2 + 1, none⟩ (.int .i64 0))) := fun w3 hb => by
          obtain ⟨r, m, f⟩ := HN.out w3 hb
          obtain ⟨m2, fb⟩ := m.put HGo.out.1 HE.out 0 (2, 0)
          exact ⟨r.same (fb.block _ r.mh.lt (fun d => by have h0 := hno.2; rw [d] at h0; omega)) (fb.block _ r.lt (fun d => by omega)), m2, f.trans fb (fun k e => Or.inl (by rw [e]; exact hb10)), fb⟩
        have K2 : Hid (∀ w3, Below w2.heap.size w2 w3 → ∀ w4, w4 = (((w3.setCell ⟨b, 0 * 2, none⟩ (.int .i64 2)).setCell ⟨b, 0 * 2 + 1, none⟩ (.int .i64 0)).setCell ⟨b, 1 * 2, none⟩ (.int .i64 2)).setCell ⟨b, 1 * 2 + 1, none⟩ (.int .i64 0) → Rgm w4 ab w.heap.size n1 (alF T fm A) (fun y => left y && !(y == (i : Int))) k2 ∧ Bkm T fm A lab cp ab n1 (fun k => if k = i then ((bkL A T left i).set 0 (2, 0)).set 1 (2, 0) else bkL A T left k) w4 ∧ Fr (fun b => 10 ≤ lab b) w w4) := fun w3 hb w4 e4 => by
          obtain ⟨r, m, f, _⟩ := K1.out w3 hb
          obtain ⟨m2, fb⟩ := m.put HGo.out.1 HE.out 1 (2, 0)
          rw [e4]
          refine ⟨r.same (fb.block _ r.mh.lt (fun d => by have h0 := hno.2; rw [d] at h0; omega)) (fb.block _ r.lt (fun d => by omega)), m2.congr (fun j => ?_), f.trans fb (fun k e => Or.inl (by rw [e]; exact hb10))⟩
          by_cases ej : j = i
          · rw [if_pos ej, if_pos ej, if_pos rfl]
          · rw [if_neg ej, if_neg ej, if_neg ej]
        have bW := (Below.refl w2.heap.size w2).alloc (Nat.le_refl _) (.cells #[.int .i64 (T.getD i t0).1, .slice (some ⟨b, 0, none⟩) 2 cap] 76)
        have hW := heap_alloc_new w2 (.cells #[.int .i64 (T.getD i t0).1, .slice (some ⟨b, 0, none⟩) 2 cap] 76)
        have P := isLostM (cp := cp) ((bW.cell (p := ⟨cp, 1, none⟩) (World.block_lt_of_cell? w2 _ HC.out.c1)).trans HC.out.c1) (HC.out.hM.same (bW.block ab HC.out.hM.lt)) ((T.getD i t0).2.1.getD 0 (0, 0)) (fun h3 => ⟨(v0 h3).1, by have := (v0 h3).2; omega⟩)
        have zz : ∀ w3, Below w2.heap.size w2 w3 → w3.cell? ⟨b, 0, none⟩ = some (.int .i64 ((T.getD i t0).2.1.getD 0 (0, 0)).1) ∧ w3.cell? ⟨b, 1, none⟩ = some (.int .i64 ((T.getD i t0).2.1.getD 0 (0, 0)).2) ∧ w3.cell? ⟨b, 2, none⟩ = some (.int .i64 ((T.getD i t0).2.1.getD 1 (0, 0)).1) ∧ w3.cell? ⟨b, 2 + 1, none⟩ = some (.int .i64 ((T.getD i t0).2.1.getD 1 (0, 0)).2) ∧ ∀ o, w3.frozen? ⟨b, o, none⟩ = false := fun w3 hb => ⟨(hb.cell (p := ⟨b, 0, none⟩) lb2).trans z0, (hb.cell (p := ⟨b, 1, none⟩) lb2).trans z1, (hb.cell (p := ⟨b, 2, none⟩) lb2).trans y0, (hb.cell (p := ⟨b, 2 + 1, none⟩) lb2).trans y1, fun o => (hb.frozen (p := ⟨b, o, none⟩) lb2).trans (ffz o)⟩
        have HZZ : Hid (_) := zz
        obtain ⟨i0, i1, _, _, _⟩ := zz _ bW
        have ev : (Value.agg #[.int .i64 (T.getD i t0).1, fsV T fm i]) = .agg #[.int .i64 (T.getD i t0).1, .slice (some ⟨b, 0, none⟩) 2 cap] := by rw [ef]
        rw [ev] at hrun hen
        have HBW : Hid (Below w2.heap.size w2 (w2.alloc (.cells #[.int .i64 (T.getD i t0).1, .slice (some ⟨b, 0, none⟩) 2 cap] 76))) := bW
        have HHW : Hid (_ = _) := hW
        clear hrow hlb hl2 v0 hcs ffz hcl z0 z1 y0 y1 eb ef zz bW hW HC ev l2
        generalize (T.getD i t0).2.1.getD 0 (0, 0) = u at *
        generalize (T.getD i t0).2.1.getD 1 (0, 0) = t at *
        obtain ⟨u0, u1⟩ := u
        dsimp only at i0 i1 P
        cases hin : inS A (u0, u1)
        · rw [hin] at P
          have E3 : Hid ((T.getD i t0).1 = 3 → ∀ j, bkL A T (fun y => left y && !(y == (i : Int))) j = (fun k => if k = i then (bkL A T left i).set 0 (2, 0) else bkL A T left k) j) := fun k3 j => by
            dsimp only
            by_cases ej : j = i
            · subst ej
              rw [if_pos rfl, HGo.out.2.2.1, hb3.out k3 hin, HGo.out.2.2.2]
            · rw [if_neg ej]
              exact HGo.out.2.1 j ej
          have E4 : Hid ((T.getD i t0).1 = 4 → ∀ j, bkL A T (fun y => left y && !(y == (i : Int))) j = (fun k => if k = i then ((bkL A T left i).set 0 (2, 0)).set 1 (2, 0) else bkL A T left k) j) := fun k4 j => by
            dsimp only
            by_cases ej : j = i
            · subst ej
              rw [if_pos rfl, HGo.out.2.2.1, hb4.out k4 hin, HGo.out.2.2.2]
            · rw [if_neg ej]
              exact HGo.out.2.1 j ej
          clear HN HZ HGo hbF hb3 hb4 hin
          rcases k34 with k3 | k3
          · have E3 : Hid (_) := E3.out k3
            rw [k3] at P hrun hen i0 i1 HBW HHW
            clear E4
            go_wp2_with fail
            refine P.mono ?_
            clear P
            rintro e w3 ⟨rfl, hb3⟩
            have hbb := HBW.out.trans (hb3.mono HBW.out.size)
            obtain ⟨j0, j1, j2, j3, jf⟩ := HZZ.out w3 hbb
            obtain ⟨t0_, t1, _, lt1⟩ := two_cells ((hb3.block _ (lt_of_some HHW.out)).trans HHW.out)
            have HF2 : Hid (_) := K1.out w3 hbb
            clear hb3 hbb HBW HHW K1 K2 HZZ i0 i1
            go_wp2_with fail
            go_roundw
            case rel => exact ⟨_, k2, HF2.out.1, HF2.out.2.1.congr E3.out, HF2.out.2.2.1⟩
            case measure => rw [HF2.out.1.left_eq, HL.out.1]; exact HL.out.2
          · have E4 : Hid (_) := E4.out k3
            rw [k3] at P hrun hen i0 i1 HBW HHW
            clear E3
            go_wp2_with fail
            refine P.mono ?_
            clear P
            rintro e w3 ⟨rfl, hb3⟩
            have hbb := HBW.out.trans (hb3.mono HBW.out.size)
            obtain ⟨j0, j1, j2, j3, jf⟩ := HZZ.out w3 hbb
            obtain ⟨t0_, t1, _, lt1⟩ := two_cells ((hb3.block _ (lt_of_some HHW.out)).trans HHW.out)
            have HF2 : Hid (_) := K2.out w3 hbb
            clear hb3 hbb HBW HHW K1 K2 HZZ i0 i1
            go_wp2_with fail
            go_roundw
            case rel => exact ⟨_, k2, (HF2.out _ rfl).1, (HF2.out _ rfl).2.1.congr E4.out, (HF2.out _ rfl).2.2⟩
            case measure => rw [(HF2.out _ rfl).1.left_eq, HL.out.1]; exact HL.out.2
        · rw [hin] at P
          have eZ := HZ.out (hbF.out hin)
          have HF : Hid (∀ w3, Below w2.heap.size w2 w3 → Rgm w3 ab w.heap.size n1 (alF T fm A) (fun y => left y && !(y == (i : Int))) k2 ∧ Bkm T fm A lab cp ab n1 (bkL A T (fun y => left y && !(y == (i : Int)))) w3 ∧ Fr (fun b => 10 ≤ lab b) w w3) := by
            show ∀ w3, _
            rw [eZ]
            exact HN.out
          clear eZ HN HZ HGo hbF hb3 hb4 K1 K2 HZZ hin
          rcases k34 with k3 | k3
          all_goals
            rw [k3] at P hrun hen i0 i1 HBW
            go_wp2_with fail
            refine P.mono ?_
            clear P
            rintro e w3 ⟨rfl, hb3⟩
            have HF2 : Hid (_) := HF.out w3 (HBW.out.trans (hb3.mono HBW.out.size))
            clear hb3 HF HBW
            go_wp2_with fail
            go_roundw
            case rel => exact ⟨_, k2, HF2⟩
            case measure => rw [HF2.out.1.left_eq, HL.out.1]; exact HL.out.2
      · have eF : bkF A (T.getD i t0) = (T.getD i t0).2.1 := by
          unfold bkF
          rw [if_neg (fun d => k34 (Or.inr d.1)), if_neg (fun d => k34 (Or.inl d.1))]
        have eZ := HZ.out eF
        have HF : Hid (∀ w3, Below w2.heap.size w2 w3 → Rgm w3 ab w.heap.size n1 (alF T fm A) (fun y => left y && !(y == (i : Int))) k2 ∧ Bkm T fm A lab cp ab n1 (bkL A T (fun y => left y && !(y == (i : Int)))) w3 ∧ Fr (fun b => 10 ≤ lab b) w w3) := by
          show ∀ w3, _
          rw [eZ]
          exact HN.out
        have n3 : ¬ (T.getD i t0).1 = 3 := fun e => k34 (Or.inl e)
        have n4 : ¬ (T.getD i t0).1 = 4 := fun e => k34 (Or.inr e)
        clear eF eZ HN HZ HGo HC hrow hlb hl2 v0 k34
        dsimp only [fsV] at hrun hen
        generalize (T.getD i t0).1 = kd at *
        generalize (T.getD i t0).2.1.length = n at *
        generalize (fm i).1 = ad at *
        generalize (fm i).2 = cq at *
        go_wp2_with fail
        go_roundw
        case rel => exact ⟨_, k2, HF.out _ ((Below.refl _ _).alloc (Nat.le_refl _) _)⟩
        case measure => rw [(HF.out _ ((Below.refl _ w2).alloc (Nat.le_refl _) (.cells #[.int .i64 kd, .slice ad n cq] 76))).1.left_eq, HL.out.1]; exact HL.out.2
end

end Go.Proofs.YtogknhogphkddaaGreat

/- A grove's cut in memory: lookAtEphem: a contract. -/
namespace Go.Proofs.YtogknhogphkddaaGreat
open Go.RowKit W Kp Stl

theorem zeroVs (w : World) : (zeroValue 38).run Tryz.prog w = .ok (.slice none 0 0) w := by kernel_rfl

section
variable {c : Cp} {own own' : Nat → Nat} {vt vt' : Value} {n1 n2 n1' n2' : Nat} {hm hm' : Int → Option Addr × Nat} {st st' : Cst} {F : Nat → Prop} {w w' : World}

abbrev hdV (hd : Int → List (Int × Int)) (hm : Int → Option Addr × Nat) (x : Int) : Value := (hdF hd hm x).getD (.slice none 0 0)
theorem hdF_no {hd : Int → List (Int × Int)} {x : Int} (h : hd x = []) : hdF hd hm x = none := by unfold hdF; rw [h]; rfl
theorem hdF_yes {hd : Int → List (Int × Int)} {x : Int} (h : hd x ≠ []) : hdF hd hm x = some (.slice (hm x).1 (hd x).length (hm x).2) := by
  unfold hdF
  rw [if_neg (by simpa using h)]
theorem row_nilV (w : World) : w.ownsRow 0 54 2 (.slice none 0 0) 0 (ev []) := ⟨rfl, Or.inl ⟨rfl, rfl⟩⟩
theorem Cm.hrow (h : Cm c own vt n1 n2 hm st w) (x : Int) : ∃ ad cap, hdV st.hd hm x = .slice ad (st.hd x).length cap ∧ w.ownsRow 0 54 2 (.slice ad (st.hd x).length cap) (st.hd x).length (ev (st.hd x)) ∧ (∀ k, some k = (Value.slice ad (st.hd x).length cap).ownBlock → own k = 10 + x.toNat) := by
  by_cases e : st.hd x = []
  · rw [hdV, hdF_no e, e]
    exact ⟨none, 0, rfl, row_nilV w, fun k e => by cases e⟩
  · rw [hdV, hdF_yes e]
    exact ⟨_, _, rfl, (h.hr x e).2, h.hro x e⟩
theorem tn_ct (k : Cm c own' vt' n1' n2' hm' st' w') (hF : ∀ b, F b ↔ b < c.w0.heap.size ∨ own b ≠ 0) (fr : Fr (fun b => own b ≠ 0) w w') (hn : ∀ b, own' b ≠ 0 → own b ≠ 0 ∨ w.heap.size ≤ b) : ∃ F', (ctO c).J F' st' w' ∧ Tn F w F' w' :=
  ⟨fun b => b < c.w0.heap.size ∨ own' b ≠ 0, ⟨own', vt', n1', n2', hm', k, fun _ => Iff.rfl⟩, fr.mono (fun b hb => (hF b).2 (Or.inr hb)), fun b hb => hb.elim (fun d => Or.inl ((hF b).2 (Or.inl d))) (fun d => (hn b d).imp (fun d => (hF b).2 (Or.inr d)) id)⟩
theorem Cm.hold {x : Int} {u : Int × Int} {b4 cap4 : Nat} (h : Cm c own vt n1 n2 hm st w) (x0 : 0 ≤ x) (fr : Fr (fun b => own b = 4 ∨ own b = 10 + x.toNat) w w') (hM : Mh w' c.hb (n2 + 1) (upm (hdF st.hd hm) x (.slice (some ⟨b4, 0, none⟩) ((st.hd x).length + 1) cap4)))
    (hR : w'.ownsRow 0 54 2 (.slice (some ⟨b4, 0, none⟩) ((st.hd x).length + 1) cap4) ((st.hd x).length + 1) (ev (st.hd x ++ [u]))) (hb : own b4 = 10 + x.toNat ∨ w.heap.size ≤ b4) :
    ∃ own', Cm c own' vt n1 (n2 + 1) (fun y => if y = x then (some ⟨b4, 0, none⟩, cap4) else hm y) { st with hd := fun y => if y = x then st.hd y ++ [u] else st.hd y, m := st.m + 1 } w' ∧ (∀ b, own' b ≠ 0 → own b ≠ 0 ∨ w.heap.size ≤ b) := by
  have he : ∀ b, own b ≠ 0 → (if w.heap.size ≤ b then (if b = b4 then 10 + x.toNat else 0) else own b) = own b := fun b hb => if_neg (by have := (h.lt b hb).2; omega)
  have hk : ∀ b, own b ≠ 0 → own b ≠ 4 → own b ≠ 10 + x.toNat → w'.heap[b]? = w.heap[b]? := fun b h0 h4 hx => fr.block b (h.lt b h0).2 (by omega)
  have hs := h.sz
  refine ⟨fun b => if w.heap.size ≤ b then (if b = b4 then 10 + x.toNat else 0) else own b, ?_, fun b hb => ?_⟩
  · refine { ol := fun k hk' => (fr.block k (by omega) (fun cc => ?_)).trans (h.ol k hk'), sz := Nat.le_trans h.sz fr.size, cb := (hk _ (by rw [h.co]; decide) (by rw [h.co]; decide) (by rw [h.co]; omega)).trans h.cb, co := (he _ (by rw [h.co]; decide)).trans h.co, am := h.am.same (hk _ (by rw [h.ao]; decide) (by rw [h.ao]; decide) (by rw [h.ao]; omega)), ao := (he _ (by rw [h.ao]; decide)).trans h.ao, an := h.an
             tr := row_keep h.tr (fun k e => hk k (by rw [h.tw k e]; decide) (by rw [h.tw k e]; decide) (by rw [h.tw k e]; omega)), tw := fun k e => (he k (by rw [h.tw k e]; decide)).trans (h.tw k e), tn := h.tn, hq := ?_, ho := (he _ (by rw [h.ho]; decide)).trans h.ho, hn := by have := h.hn; dsimp only; omega, hr := fun y hy => ?_, hro := fun y hy k e => ?_, lt := fun b hb => ?_ }
    · have := (h.lt k (by omega)).1
      omega
    · refine (show upm (hdF st.hd hm) x (.slice (some ⟨b4, 0, none⟩) ((st.hd x).length + 1) cap4) = hdF _ _ from ?_) ▸ hM
      funext y
      unfold upm
      by_cases e : y = x
      · subst e
        rw [if_pos rfl, hdF_yes (by simp)]
        simp
      · rw [if_neg e]
        unfold hdF
        simp only [if_neg e]
    · by_cases e : y = x
      · subst e
        simp only
        exact ⟨x0, by simpa using hR⟩
      · simp only [if_neg e] at hy ⊢
        exact ⟨(h.hr y hy).1, row_keep (h.hr y hy).2 (fun k e' => hk k (by rw [h.hro y hy k e']; omega) (by rw [h.hro y hy k e']; omega) (by have := (h.hr y hy).1; rw [h.hro y hy k e']; omega))⟩
    · by_cases e' : y = x
      · subst e'
        simp only at e
        cases e
        show (if _ then _ else _) = _
        rcases hb with d | d
        · rw [if_neg (by have := (h.lt b4 (by rw [d]; omega)).2; simpa using this)]
          exact d
        · rw [if_pos d, if_pos rfl]
      · simp only [if_neg e'] at hy e
        exact (he k (by rw [h.hro y hy k e]; omega)).trans (h.hro y hy k e)
    · split at hb
      · split at hb
        · rename_i e
          rw [e]
          exact ⟨by omega, (row_lt hR b4 rfl).2⟩
        · exact absurd rfl hb
      · exact ⟨(h.lt b hb).1, Nat.lt_of_lt_of_le (h.lt b hb).2 fr.size⟩
  · dsimp only at hb
    split at hb
    · exact Or.inr ‹_›
    · exact Or.inl hb

theorem Rdl.one (h : Cm c own vt n1 n2 hm st w) (v : Int × Int) : Rdl own (w.alloc (.cells #[.int .i64 v.1, .int .i64 v.2] 54)) (some ⟨w.heap.size, 0, none⟩) [v] := by
  have hq := heap_alloc_new w (.cells #[.int .i64 v.1, .int .i64 v.2] 54)
  obtain ⟨e0, e1, _, lw⟩ := two_cells hq
  refine ⟨fun _ => ⟨w.heap.size, 0, rfl, lw, fun i hi => ?_⟩, fun _ z e d => ?_⟩
  · obtain rfl : i = 0 := by simp at hi; exact hi
    exact ⟨e0, e1⟩
  · cases e
    have := (h.lt w.heap.size (by rcases d with d | d | d <;> (dsimp only at d; omega))).2
    omega

set_option maxRecDepth 100000 in
set_option maxHeartbeats 4000000 in
theorem ephemX_in (hg : Gvy c.gp c.most c.grow c.l c.s c.w0) (hT : c.s.T.length ≤ 10000) (hlen : st.A.length = c.s.T.length) (h : Cm c own vt n1 n2 hm st w) (k v : Int × Int) (hk : k.1 = 3 → 0 ≤ k.2 ∧ Alv c.s.T k.2.toNat) (hv : v.1 = 3 → 0 ≤ v.2 ∧ Alv c.s.T v.2.toNat) (hi : inS st.A k = true) :
    Calls Tryz.prog 109 #[.pointer (some ⟨c.cp, 0, none⟩), .agg #[.int .i64 k.1, .int .i64 k.2], .agg #[.int .i64 v.1, .int .i64 v.2]] w fun e w' => ∃ own' vt' n1', e = .returned (.tuple #[]) ∧ Cm c own' vt' n1' n2 hm (mk1 st v) w' ∧ Tm own w own' w' := by
  obtain ⟨k0, k1⟩ := k
  obtain ⟨v0, v1⟩ := v
  have b1 : Below w.heap.size w ((w.alloc (.cells #[.int .i64 k0, .int .i64 k1] 54)).alloc (.cells #[.int .i64 v0, .int .i64 v1] 54)) := ((Below.refl _ _).alloc (Nat.le_refl _) _).alloc (by simp) _
  have P := isLostX_any (h.below b1) (k0, k1) (fun h3 => ⟨(hk h3).1, by have := (hk h3).2.1; dsimp only at this ⊢; omega⟩)
  rw [hi] at P
  have HM : Hid (∀ w1, Below w.heap.size w w1 → Calls Tryz.prog 83 #[.pointer (some ⟨c.cp, 0, none⟩), .slice (some ⟨w1.heap.size, 0, none⟩) 1 1] (w1.alloc (.cells #[.int .i64 v0, .int .i64 v1] 54)) fun e w' => ∃ own' vt' n1', e = .returned (.tuple #[]) ∧ Cm c own' vt' n1' n2 hm (mk1 st (v0, v1)) w' ∧ Tm own w own' w') := fun w1 hb => by
    have hb2 := hb.alloc hb.size (.cells #[.int .i64 v0, .int .i64 v1] 54)
    refine (markX_any hg hT hlen (h.below hb2) (some ⟨w1.heap.size, 0, none⟩) 1 [(v0, v1)] (Rdl.one (h.below hb) (v0, v1)) (fun u hu h3 => by simp at hu; rw [hu] at h3 ⊢; exact hv h3) (by simp)).mono ?_
    rintro e w' ⟨own', vt', n1', rfl, g, t⟩
    exact ⟨own', vt', n1', rfl, g, (Tm.of hb2 (fun b hb => (h.lt b hb).2)).trans t⟩
  clear hg hT hlen h hk hv hi
  go_enter Tryz.func109, Tryz.ntmps109
  go_wp2_with fail
  refine P.mono ?_
  clear P
  rintro e w1 ⟨rfl, hb⟩
  obtain ⟨q0, q1, _, _⟩ := two_cells ((hb.block (w.heap.size + 1) (by simp)).trans (alloc_snd w (.cells #[.int .i64 k0, .int .i64 k1] 54) (.cells #[.int .i64 v0, .int .i64 v1] 54)))
  have P := HM.out w1 (b1.trans (hb.mono b1.size))
  clear hb b1 HM
  go_wp2_with fail
  refine P.mono ?_
  clear P
  rintro e w2 ⟨own', vt', n1', rfl, g, t⟩
  have HF : Hid (_ ∧ _) := ⟨g, t⟩
  clear g t
  go_wp2_with fail
  go_end0
  exact ⟨own', vt', n1', rfl, HF.out.1, HF.out.2⟩

set_option maxRecDepth 100000 in
set_option maxHeartbeats 4000000 in
theorem ephemX_no (h : Cm c own vt n1 n2 hm st w) (k v : Int × Int) (hk : k.1 = 3 → 0 ≤ k.2 ∧ k.2 < 10000) (hi : inS st.A k = false) (hm1 : st.m ≤ 20000) (hl1 : (st.hd k.2).length ≤ 20000) :
    Calls Tryz.prog 109 #[.pointer (some ⟨c.cp, 0, none⟩), .agg #[.int .i64 k.1, .int .i64 k.2], .agg #[.int .i64 v.1, .int .i64 v.2]] w fun e w' => ∃ own' hm', e = .returned (.tuple #[]) ∧ Cm c own' vt n1 (n2 + 1) hm' { st with hd := fun y => if y = k.2 then st.hd y ++ [v] else st.hd y, m := st.m + 1 } w' ∧ Fr (fun b => own b ≠ 0) w w' ∧ (∀ b, own' b ≠ 0 → own b ≠ 0 ∨ w.heap.size ≤ b) := by
  obtain ⟨k0, x⟩ := k
  obtain ⟨h3, _⟩ := inS_no hi
  dsimp only at h3 hk hl1 ⊢
  subst h3
  obtain ⟨x0, x1⟩ := hk rfl
  obtain ⟨v0, v1⟩ := v
  have b1 : Below w.heap.size w ((w.alloc (.cells #[.int .i64 3, .int .i64 x] 54)).alloc (.cells #[.int .i64 v0, .int .i64 v1] 54)) := ((Below.refl _ _).alloc (Nat.le_refl _) _).alloc (by simp) _
  have P := isLostX_any (h.below b1) (3, x) (fun _ => ⟨x0, by dsimp only; omega⟩)
  rw [hi] at P
  obtain ⟨ad, cap, ehv, hrow, hown⟩ := h.hrow x
  have HP : Hid (∀ w1, Below w.heap.size w w1 → w1.cell? ⟨c.cp, 3, none⟩ = some (.map (some c.hb)) ∧ (Instr.lookup 136 (.map (some c.hb)) (.int .i64 x) false).run Tryz.prog w1 = .ok (.slice ad (st.hd x).length cap) w1 ∧ w1.ownsRow 0 54 2 (.slice ad (st.hd x).length cap) (st.hd x).length (ev (st.hd x)) ∧
      ∀ w4 b4 cap4, w1.grownBy w4 (Value.slice ad (st.hd x).length cap).ownBlock → w4.ownsRow 0 54 2 (.slice (some ⟨b4, 0, none⟩) ((st.hd x).length + 1) cap4) ((st.hd x).length + 1) (ev (st.hd x ++ [(v0, v1)])) → (some b4 = (Value.slice ad (st.hd x).length cap).ownBlock ∨ w1.heap.size ≤ b4) →
        ∃ w5, (Instr.mapUpdate 136 (.map (some c.hb)) (.int .i64 x) (.slice (some ⟨b4, 0, none⟩) ((st.hd x).length + 1) cap4)).run Tryz.prog w4 = .ok () w5 ∧ (∀ b, b = c.cp ∨ (w.heap.size ≤ b ∧ b < w1.heap.size) → w4.heap[b]? = w1.heap[b]? ∧ w5.heap[b]? = w1.heap[b]?) ∧ Hid (∃ own' hm', Cm c own' vt n1 (n2 + 1) hm' { st with hd := fun y => if y = x then st.hd y ++ [(v0, v1)] else st.hd y, m := st.m + 1 } w5 ∧ Fr (fun b => own b ≠ 0) w w5 ∧ (∀ b, own' b ≠ 0 → own b ≠ 0 ∨ w.heap.size ≤ b))) := fun w1 hb => by
    have g1 := h.below hb
    obtain ⟨_, _, _, q3, _, _⟩ := g1.cells
    have L := g1.hq.look (t := 136) (e := 38) Tryz.underlying136 (zeroVs _) (x := x) x0 (by omega)
    rw [show (hdF st.hd hm x).getD (.slice none 0 0) = _ from ehv] at L
    have hr1 := row_keep hrow (fun k e => hb.block k (row_lt hrow k e).2)
    refine ⟨q3, L, hr1, fun w4 b4 cap4 hg4 hr4 hb4 => ?_⟩
    have nhb : ∀ k, some k = (Value.slice ad (st.hd x).length cap).ownBlock → k ≠ c.hb := fun k e d => by have h1 := hown k e; rw [d, g1.ho] at h1; omega
    have hq4 : Mh w4 c.hb n2 (hdF st.hd hm) := g1.hq.same (hg4.block c.hb g1.hq.lt (fun e => nhb c.hb e rfl))
    obtain ⟨w5, hrun, hM5, gr5⟩ := hq4.put (t := 136) (e := 38) Tryz.underlying136 (by have := g1.hn; omega) x0 (by omega) (.slice (some ⟨b4, 0, none⟩) ((st.hd x).length + 1) cap4)
    have k45 : ∀ b, b = c.cp ∨ (w.heap.size ≤ b ∧ b < w1.heap.size) → w4.heap[b]? = w1.heap[b]? ∧ w5.heap[b]? = w1.heap[b]? := fun b hb' => by
      have l1 : b < w1.heap.size := hb'.elim (fun e => by rw [e]; exact (g1.lt c.cp (by rw [g1.co]; decide)).2) (fun e => e.2)
      have l2 : b ≠ c.hb := hb'.elim (fun e d => by have h1 := g1.co; rw [← e, d, g1.ho] at h1; omega) (fun e d => by have := h.hq.lt; omega)
      have l3 : w4.heap[b]? = w1.heap[b]? := hg4.block b l1 (fun e => by
        have h1 := hown b e
        rcases hb' with d | d
        · rw [d, g1.co] at h1
          omega
        · have := (h.lt b (by omega)).2
          omega)
      exact ⟨l3, (gr5.block b (Nat.lt_of_lt_of_le l1 hg4.size) (fun e => l2 (Option.some.inj e))).trans l3⟩
    refine ⟨w5, hrun, k45, ?_⟩
    have nb4 : b4 ≠ c.hb := by
      rcases hb4 with e | e
      · exact nhb b4 e
      · have := g1.hq.lt
        omega
    have fr5 : Fr (fun b => own b = 4 ∨ own b = 10 + x.toNat) w1 w5 := ((Fr.refl _ w1).grown hg4 (fun k e => Or.inl (Or.inr (hown k e.symm)))).grown gr5 (fun k e => Or.inl (by cases e; exact Or.inl g1.ho))
    obtain ⟨own', c1, c2⟩ := g1.hold x0 fr5 hM5 (row_keep hr4 (fun k e => by cases e; exact gr5.block _ (row_lt hr4 b4 rfl).2 (fun e => nb4 (Option.some.inj e)))) (hb4.imp (fun e => hown b4 e) id)
    have hs := hb.size
    exact ⟨own', _, c1, ((Fr.of hb).trans fr5 (fun i d => Or.inl d)).mono (fun b d => by omega), fun b d => (c2 b d).imp id (fun e => by omega)⟩
  clear h hi hk hown hrow ehv
  generalize st.hd x = H at *
  generalize ({ st with hd := fun y => if y = x then st.hd y ++ [(v0, v1)] else st.hd y, m := st.m + 1 } : Cst) = st2 at *
  go_enter Tryz.func109, Tryz.ntmps109
  go_wp2_with fail
  refine P.mono ?_
  clear P
  rintro e w1 ⟨rfl, hb⟩
  have hbb := b1.trans (hb.mono b1.size)
  obtain ⟨p0, p1, _, _⟩ := two_cells ((hb.block w.heap.size (by simp; omega)).trans ((Below.heap_alloc _ _ _ (by simp)).trans (heap_alloc_new w (.cells #[.int .i64 3, .int .i64 x] 54))))
  obtain ⟨q0, q1, _, _⟩ := two_cells ((hb.block (w.heap.size + 1) (by simp)).trans (alloc_snd w (.cells #[.int .i64 3, .int .i64 x] 54) (.cells #[.int .i64 v0, .int .i64 v1] 54)))
  obtain ⟨y3, _, _, _⟩ := HP.out w1 hbb
  obtain ⟨_, L1, _, _⟩ := HP.out w1.drew hbb.drew
  obtain ⟨_, L2, HR, HX⟩ := HP.out (w1.alloc (.cells #[.int .i64 v0, .int .i64 v1] 54)).drew (hbb.alloc hbb.size _).drew
  have HX : Hid (_) := HX
  have HR : Hid (_) := HR
  have HY : Hid (∀ w4 : World, (∀ b, b = c.cp ∨ (w.heap.size ≤ b ∧ b < (w1.alloc (.cells #[.int .i64 v0, .int .i64 v1] 54)).drew.heap.size) → w4.heap[b]? = (w1.alloc (.cells #[.int .i64 v0, .int .i64 v1] 54)).drew.heap[b]?) → w4.cell? ⟨c.cp, 3, none⟩ = some (.map (some c.hb)) ∧ w4.cell? ⟨w.heap.size, 1, none⟩ = some (.int .i64 x) ∧ w4.cell? ⟨w.heap.size + 1, 0, none⟩ = some (.int .i64 v0) ∧ w4.cell? ⟨w.heap.size + 1, 1, none⟩ = some (.int .i64 v1)) := fun w4 hk => by
    have al : ∀ a : Addr, a.block < w1.heap.size → (w1.alloc (.cells #[.int .i64 v0, .int .i64 v1] 54)).drew.cell? a = w1.cell? a := fun a ha => World.cell?_of_block (Below.heap_alloc w1 _ _ ha)
    have s1 : w1.heap.size ≤ (w1.alloc (.cells #[.int .i64 v0, .int .i64 v1] 54)).drew.heap.size := by simp [World.drew]
    have l3 := World.block_lt_of_cell? w1 _ y3
    have l4 := World.block_lt_of_cell? w1 _ p1
    have l5 := World.block_lt_of_cell? w1 _ q0
    dsimp only at l3 l4 l5
    exact ⟨(World.cell?_of_block (a := ⟨c.cp, 3, none⟩) (hk _ (Or.inl rfl))).trans ((al _ l3).trans y3), (World.cell?_of_block (a := ⟨w.heap.size, 1, none⟩) (hk _ (Or.inr ⟨Nat.le_refl _, by dsimp only; omega⟩))).trans ((al _ l4).trans p1),
      (World.cell?_of_block (a := ⟨w.heap.size + 1, 0, none⟩) (hk _ (Or.inr ⟨Nat.le_succ _, by dsimp only; omega⟩))).trans ((al _ l5).trans q0), (World.cell?_of_block (a := ⟨w.heap.size + 1, 1, none⟩) (hk _ (Or.inr ⟨Nat.le_succ _, by dsimp only; omega⟩))).trans ((al _ l5).trans q1)⟩
  clear hb b1 HP hbb
  obtain ⟨i0, hi0, hz0, hz1, hz2⟩ := info_parts infoVal
  go_wp2_with fail
  go_region_held3 (fun w' => w'.cell? ⟨c.cp, 3, none⟩ = some (.map (some c.hb)) ∧ w'.cell? ⟨w.heap.size, 1, none⟩ = some (.int .i64 x) ∧ w'.cell? ⟨w.heap.size + 1, 0, none⟩ = some (.int .i64 v0) ∧ w'.cell? ⟨w.heap.size + 1, 1, none⟩ = some (.int .i64 v1)) (go_keep)
    (first | (refine step_append_lies _ rfl (.tmp 21) (.tmp 23) 38 rfl 0 54 i0 (.agg #[.int .i64 0, .int .i64 0]) 2 16 Tryz.underlying38 hi0 hz0 hz1 hz2 rfl (by decide) (.slice ad H.length cap) H.length (ev H) (by simp [Act.eval]) HR.out ⟨w1.heap.size, 0, none⟩ 1 1 [.int .i64 v0, .int .i64 v1] (by simp [Act.eval]) rfl ?_ ?_ (by decide) (by unfold maxLen; omega) (by omega) (by simp) _ rfl ?_; (intro j u hj; match j, hj with | 0, hj => (simp at hj; subst hj; simp [Addr.add]) | 1, hj => (simp at hj; subst hj; simp [Addr.add])); (intro u hu; simp at hu; rcases hu with hu | hu <;> (subst hu; rfl)); intro b4 cap4 w4 hown4 hgrow4 hat4 hlt4; obtain ⟨w5, hrun5, k5, HF⟩ := HX.out w4 b4 cap4 hgrow4 (by rw [ev_append]; simpa [ev] using hown4) (hat4.imp Eq.symm (fun e => Nat.le_of_eq e.symm)); obtain ⟨m0, m1, m2, m3⟩ := HY.out w4 (fun b hb => (k5 b hb).1); obtain ⟨m4, m5, m6, m7⟩ := HY.out w5 (fun b hb => (k5 b hb).2); clear k5))
  all_goals
    go_wp2_with fail
    obtain ⟨own', hm', e1, e2, e3⟩ := HF.out
    exact bodyPost_ret (v := .tuple #[]) (by simp [results, Tryz.results109, go_sem]) rfl ⟨own', hm', rfl, e1, e2, e3⟩
end

end Go.Proofs.YtogknhogphkddaaGreat
