/- GroveBreaks: told: a value, where it leads nowhere, or to what was met; a node's values so far. -/
import Derived.Test.YtjhnhbeimjnloaaJ11
import Derived.Test.YtjhnhbeimjnloaaJ12
import Derived.Test.YtjhnhbeimjnloaaJ04
import Derived.Deep.RegionHeld3
namespace Go.Proofs.Ytjhnhbeimjnloaa
open Go.RowKit W Kp Stl

section
variable {nn : Nat} {w0 w : World} {mb bb vb fb : Nat} {s : Vst} {va vn vr : Value} {m : List Vnd}

abbrev tolA (k x : Int) (mb bb vb fb : Nat) : Array Value := #[.agg #[.int .i64 k, .int .i64 x], .pointer (some ⟨mb, 0, none⟩), .pointer (some ⟨vb, 0, none⟩), .pointer (some ⟨bb, 0, none⟩), .pointer (some ⟨fb, 0, none⟩)]

set_option maxRecDepth 100000 in
set_option maxHeartbeats 2000000 in
theorem told_o (w : World) (k x : Int) (h3 : k ≠ 3) : Calls Try.prog 33 (tolA k x mb bb vb fb) w fun e w' => e = .returned (.agg #[.int .i64 k, .int .i64 x]) ∧ Below w.heap.size w w' := by
  have hk : (k != 3) = true := by simpa using h3
  have hb := ((Below.refl w.heap.size w).alloc (Nat.le_refl _) (.cells #[.int .i64 k, .int .i64 x] 41)).alloc (by simp) (.cells #[.int .i64 k, .int .i64 x] 41)
  have HB : Hid (Below w.heap.size w ((w.alloc (.cells #[.int .i64 k, .int .i64 x] 41)).alloc (.cells #[.int .i64 k, .int .i64 x] 41))) := hb
  have hg := heap_alloc_new (w.alloc (.cells #[.int .i64 k, .int .i64 x] 41)) (.cells #[.int .i64 k, .int .i64 x] 41)
  have HG : Hid (((w.alloc (.cells #[.int .i64 k, .int .i64 x] 41)).alloc (.cells #[.int .i64 k, .int .i64 x] 41)).heap[(w.alloc (.cells #[.int .i64 k, .int .i64 x] 41)).heap.size]? = some (.cells #[.int .i64 k, .int .i64 x] 41 (0, 0))) := hg
  clear hb hg
  go_enter Try.func33, Try.ntmps33
  go_wp2_with fail
  have HE : (w.alloc (.cells #[.int .i64 k, .int .i64 x] 41)).heap.size = w.heap.size + 1 := by simp
  have hg := HG.out
  rw [HE] at hg
  have g0 : ((w.alloc (.cells #[.int .i64 k, .int .i64 x] 41)).alloc (.cells #[.int .i64 k, .int .i64 x] 41)).cell? ⟨w.heap.size + 1, 0, none⟩ = some (.int .i64 k) := by
    unfold World.cell?
    rw [hg]
    rfl
  have g1 : ((w.alloc (.cells #[.int .i64 k, .int .i64 x] 41)).alloc (.cells #[.int .i64 k, .int .i64 x] 41)).cell? ⟨w.heap.size + 1, 1, none⟩ = some (.int .i64 x) := by
    unfold World.cell?
    rw [hg]
    rfl
  exact bodyPost_ret (v := .agg #[.int .i64 k, .int .i64 x]) (by simp [results, Try.results33, go_sem, g0, g1]) rfl ⟨rfl, HB.out⟩

set_option maxRecDepth 100000 in
set_option maxHeartbeats 2000000 in
theorem told_met (h : Wt nn w0 w mb bb vb fb s va vn vr m) (x : Nat) (hl : nn ≤ 100000) (hx : x < nn) (hs : s.1.contains (x : Int) = true) (hsl : s.1.length ≤ 100000) : Calls Try.prog 33 (tolA 3 x mb bb vb fb) w fun e w' => e = .returned (.agg #[.int .i64 3, .int .i64 (s.1.idxOf (x : Int))]) ∧ Below w.heap.size w w' := by
  obtain ⟨ms, ns⟩ := s
  dsimp only at hs hsl ⊢
  have hmem : (x : Int) ∈ ms := List.contains_iff_mem.1 hs
  have hix := List.idxOf_lt_length_of_mem hmem
  obtain ⟨aM, cM, e0⟩ := row_slice h.mr
  subst e0
  obtain ⟨ab, cb, e1⟩ := row_shape h.mr (by omega)
  obtain ⟨rfl, rfl⟩ : aM = some ⟨ab, 0, none⟩ ∧ cM = cb := by simpa using e1
  have hb := ((Below.refl w.heap.size w).alloc (Nat.le_refl _) (.cells #[.int .i64 3, .int .i64 (x : Int)] 41)).alloc (by simp) (.cells #[.int .i64 0, .int .i64 0] 41)
  have HB : Hid (Below w.heap.size w ((w.alloc (.cells #[.int .i64 3, .int .i64 (x : Int)] 41)).alloc (.cells #[.int .i64 0, .int .i64 0] 41))) := hb
  have h1 := (row_cell h.mr (i := x) (u := .int .i64 ((ms.idxOf (x : Int) : Int) + 1)) (by
    rw [List.getElem?_map, numL_at hx, if_pos hs]
    rfl)).1
  have c2 := (hb.cell (p := ⟨ab, x, none⟩) (World.block_lt_of_cell? w _ h1)).trans h1
  have c0 := (hb.cell (p := ⟨mb, 0, none⟩) h.cells.2.2.2.1).trans h.cells.1
  have lmb := h.cells.2.2.2.1
  have lab := (row_lt h.mr ab rfl).2
  have hms : w.heap.size ≠ mb := by omega
  have hms2 : w.heap.size ≠ ab := by omega
  have hms3 : w.heap.size + 1 ≠ mb := by omega
  have hms4 : w.heap.size + 1 ≠ ab := by omega
  have q0 : (0 : Int) ≤ (x : Int) := by omega
  have q1 : (x : Int) < (nn : Int) := by omega
  have HG : Hid (((w.alloc (.cells #[.int .i64 3, .int .i64 (x : Int)] 41)).alloc (.cells #[.int .i64 0, .int .i64 0] 41)).heap[w.heap.size + 1]? = some (.cells #[.int .i64 0, .int .i64 0] 41 (0, 0)) ∧ ((w.alloc (.cells #[.int .i64 3, .int .i64 (x : Int)] 41)).alloc (.cells #[.int .i64 0, .int .i64 0] 41)).heap[w.heap.size]? = some (.cells #[.int .i64 3, .int .i64 (x : Int)] 41 (0, 0))) := by
    refine ⟨alloc_snd _ _ _, ?_⟩
    exact (Below.heap_alloc _ _ _ (by simp)).trans (heap_alloc_new w _)
  generalize ms.idxOf (x : Int) = ix at *
  have hne : ((ix : Int) + 1 == 0) = false := by simp; omega
  have hw1 : IntKind.i64.wrap ((ix : Int) + 1 - 1) = (ix : Int) := by rw [IntKind.wrap_i64]; omega
  clear hb h e1 hs hmem h1
  go_enter Try.func33, Try.ntmps33
  go_upto_region 3 with fail
  generalize (w.alloc (.cells #[.int .i64 3, .int .i64 (x : Int)] 41)).alloc (.cells #[.int .i64 0, .int .i64 0] 41) = W2 at *
  have y1 : W2.cell? ⟨w.heap.size, 1, none⟩ = some (.int .i64 (x : Int)) := by simp [World.cell?, HG.out.2]
  have r0 : W2.cell? ⟨w.heap.size + 1, 0, none⟩ = some (.int .i64 0) := by simp [World.cell?, HG.out.1]
  have r1 : W2.cell? ⟨w.heap.size + 1, 1, none⟩ = some (.int .i64 0) := by simp [World.cell?, HG.out.1]
  have f0 : W2.frozen? ⟨w.heap.size + 1, 0, none⟩ = false := by simp [World.frozen?, HG.out.1]
  have f1 : W2.frozen? ⟨w.heap.size + 1, 1, none⟩ = false := by simp [World.frozen?, HG.out.1]
  go_wp2_with fail
  have g0 : ((W2.setCell ⟨w.heap.size + 1, 0, none⟩ (.int .i64 3)).setCell ⟨w.heap.size + 1, 1, none⟩ (.int .i64 ix)).cell? ⟨w.heap.size + 1, 0, none⟩ = some (.int .i64 3) := by
    rw [World.cell?_setCell_other _ _ _ _ (by simp)]
    exact World.cell?_setCell_same _ _ _ (u := .int .i64 0) r0
  have g1 : ((W2.setCell ⟨w.heap.size + 1, 0, none⟩ (.int .i64 3)).setCell ⟨w.heap.size + 1, 1, none⟩ (.int .i64 ix)).cell? ⟨w.heap.size + 1, 1, none⟩ = some (.int .i64 ix) := World.cell?_setCell_same _ _ _ (u := .int .i64 0) ((World.cell?_setCell_other _ _ _ _ (by simp)).trans r1)
  have hF : Fr (fun k => k = w.heap.size + 1) W2 ((W2.setCell ⟨w.heap.size + 1, 0, none⟩ (.int .i64 3)).setCell ⟨w.heap.size + 1, 1, none⟩ (.int .i64 ix)) := ((Fr.refl (fun k => k = w.heap.size + 1) W2).set (w.heap.size + 1) 0 _ rfl).set (w.heap.size + 1) 1 _ rfl
  exact bodyPost_ret (v := .agg #[.int .i64 3, .int .i64 ix]) (by simp [results, Try.results33, go_sem, g0, g1]) rfl ⟨rfl, HB.out.trans (hF.below HB.out.size (fun k e => by have e : k = w.heap.size + 1 := e; omega))⟩
end

structure Lt (nn : Nat) (w0 w3 wr : World) (mb bb vb fb : Nat) (vr : Value) (m1 : List Vnd) (P : List (Int × Int) × Vst) (la : Option Addr) (lc : Nat) (va vn : Value) (m' : List Vnd) : Prop where
  hs : w0.heap.size ≤ w3.heap.size
  wv : Wt nn w0 wr mb bb vb fb P.2 va vn vr m'
  kx : Kx w0 w3 m1 wr m'
  row : wr.ownsRow w3.heap.size 41 2 (.slice la P.1.length lc) P.1.length (ev P.1)
  no : ∀ k, Fb m' k → ¬ some k = (Value.slice la P.1.length lc).ownBlock

section
variable {nn : Nat} {w0 w3 wr : World} {mb bb vb fb : Nat} {vr va vn : Value} {m1 m' : List Vnd} {P : List (Int × Int) × Vst} {la : Option Addr} {lc : Nat}

theorem Lt.start (h : Wt nn w0 w3 mb bb vb fb P.2 va vn vr m1) (hp : P.1 = []) : Lt nn w0 w3 w3 mb bb vb fb vr m1 P none 0 va vn m1 :=
  ⟨h.bel.size, h, Kx.refl _ _ _, by rw [hp]; exact World.ownsRow_nil _ _ _ _, fun k _ e => by cases e⟩
theorem Lt.call (h : Lt nn w0 w3 wr mb bb vb fb vr m1 P la lc va vn m') {w5 : World} {s' : Vst} {va' vn' : Value} {m2 : List Vnd} (hW : Wt nn w0 w5 mb bb vb fb s' va' vn' vr m2) (hK : Kx w0 wr m' w5 m2) : Lt nn w0 w3 w5 mb bb vb fb vr m1 (P.1, s') la lc va' vn' m2 :=
  ⟨h.hs, hW, h.kx.trans hK, row_keep h.row (fun k e => by
    obtain ⟨cs, hc⟩ := row_type h.row k e
    exact hK.1.oth k _ _ _ hc (by unfold Tyw; decide)), fun k hk e => by
    rcases hK.2 k hk with d | d
    · exact h.no k d e
    · have := (row_lt h.row k e).2
      omega⟩
theorem Lt.below (h : Lt nn w0 w3 wr mb bb vb fb vr m1 P la lc va vn m') {w5 : World} (hb : Below wr.heap.size wr w5) : Lt nn w0 w3 w5 mb bb vb fb vr m1 P la lc va vn m' :=
  h.call (s' := P.2) (h.wv.below hb) (Kx.of hb)
theorem Lt.push (h : Lt nn w0 w3 wr mb bb vb fb vr m1 P la lc va vn m') {wq w10 : World} (hq : Below wr.heap.size wr wq) {v : Int × Int} {la' : Option Addr} {lc' : Nat} (hg : wq.grownBy w10 (Value.slice la P.1.length lc).ownBlock) (ho : w10.ownsRow w3.heap.size 41 2 (.slice la' (P.1.length + 1) lc') (P.1.length + 1) (ev P.1 ++ ev [v])) (hn : (Value.slice la' (P.1.length + 1) lc').ownBlock = (Value.slice la P.1.length lc).ownBlock ∨ (Value.slice la' (P.1.length + 1) lc').ownBlock = some wq.heap.size) :
    Lt nn w0 w3 w10 mb bb vb fb vr m1 (P.1 ++ [v], P.2) la' lc' va vn m' := by
  have fr : Fr (fun k => some k = (Value.slice la P.1.length lc).ownBlock) wr w10 := (Fr.of hq).grown hg (fun k e => Or.inl (by simpa using e.symm))
  have h1 : (P.1 ++ [v]).length = P.1.length + 1 := by simp
  have h2 : ev (P.1 ++ [v]) = ev P.1 ++ ev [v] := by simp [ev]
  refine ⟨h.hs, h.wv.but fr (fun k hk e => ?_), ⟨h.kx.1.new fr (fun k e => (row_lt h.row k e).1), h.kx.2⟩, by rw [h1, h2]; exact ho, fun k hk e => ?_⟩
  · refine ⟨row_type h.row k e, fun d => h.no k d e, ?_⟩
    have h3 := (row_lt h.row k e).1
    have := h.hs
    omega
  · rw [h1] at e
    rcases hn with d | d
    · rw [d] at e
      exact h.no k hk e
    · rw [d] at e
      have e : k = wq.heap.size := by simpa using e
      have := h.wv.fbk k hk
      have := hq.size
      omega
theorem Lt.box (h : Lt nn w0 w3 wr mb bb vb fb vr m1 P la lc va vn m') {yb : Nat} {w6 : World} (f : Fr (fun k => k = yb) wr w6) (hb : w3.heap.size ≤ yb) (ht : yb < wr.heap.size → (∃ cs, wr.heap[yb]? = some (.cells cs 41 (0, 0))) ∧ ¬ Fb m' yb ∧ ¬ some yb = (Value.slice la P.1.length lc).ownBlock) : Lt nn w0 w3 w6 mb bb vb fb vr m1 P la lc va vn m' :=
  ⟨h.hs, h.wv.but f (fun k hk e => by
    have e : k = yb := e
    subst e
    have := h.hs
    exact ⟨(ht hk).1, (ht hk).2.1, by omega⟩), ⟨h.kx.1.new f (fun k e => by have e : k = yb := e; omega), h.kx.2⟩, row_keep h.row (fun k e => f.block k (row_lt h.row k e).2 (fun d => by
    have d : k = yb := d
    subst d
    exact (ht (row_lt h.row k e).2).2.2 e)), h.no⟩
theorem Lt.late {W : World} (hL : Lt nn w0 w3 W mb bb vb fb vr m1 P la lc va vn m') {w5 : World} {s' : Vst} {va5 vn5 : Value} {m5 : List Vnd} (h5 : Lt nn w0 w3 w5 mb bb vb fb vr m1 (P.1, s') la lc va5 vn5 m5) (hK : Kx w0 (W.alloc (.cells #[.int .i64 0, .int .i64 0] 41)) m' w5 m5) (v1 v2 : Int) :
    w5.heap[W.heap.size]? = some (.cells #[.int .i64 0, .int .i64 0] 41 (0, 0)) ∧ Lt nn w0 w3 ((w5.setCell ⟨W.heap.size, 0, none⟩ (.int .i64 v1)).setCell ⟨W.heap.size, 1, none⟩ (.int .i64 v2)) mb bb vb fb vr m1 (P.1, s') la lc va5 vn5 m5 := by
  have hc := heap_alloc_new W (.cells #[.int .i64 0, .int .i64 0] 41)
  have h1 := (hK.1.oth _ _ _ _ hc (by unfold Tyw; decide)).trans hc
  refine ⟨h1, h5.box (yb := W.heap.size) (((Fr.refl (fun k => k = W.heap.size) w5).set _ 0 _ rfl).set _ 1 _ rfl) hL.kx.1.size (fun _ => ⟨⟨_, h1⟩, fun d => ?_, fun e => ?_⟩)⟩
  · rcases hK.2 _ d with d | d
    · have := hL.wv.fbk _ d
      omega
    · simp at d
      omega
  · have := (row_lt hL.row W.heap.size e).2
    omega
end

namespace Tld
theorem val_src {w : World} (a b : Int) : ∀ ad, (some ⟨w.heap.size, 0, none⟩ : Option Addr) = some ad → ∀ k u, (ev [(a, b)])[k]? = some u → (w.alloc (.cells #[.int .i64 a, .int .i64 b] 41)).cell? (ad.add k) = some u := fun ad e k u hk => by
  have hsr := heap_alloc_new w (.cells #[.int .i64 a, .int .i64 b] 41)
  cases e
  have hlk : k < 2 := by
    have := (List.getElem?_eq_some_iff.1 hk).1
    simpa [ev] using this
  rcases (show k = 0 ∨ k = 1 by omega) with rfl | rfl
  · simp [ev] at hk
    subst hk
    show World.cell? _ ⟨w.heap.size, 0, none⟩ = _
    unfold World.cell?
    rw [hsr]
    rfl
  · simp [ev] at hk
    subst hk
    show World.cell? _ ⟨w.heap.size, 1, none⟩ = _
    unfold World.cell?
    rw [hsr]
    rfl

theorem node_told {nn : Nat} {w0 wr wq w5 : World} {mb bb vb fb : Nat} {s : Vst} {aN ra' : Option Addr} {cN rc' : Nat} {va vr : Value} {m : List Vnd} (h : Wt nn w0 wr mb bb vb fb s va (.slice aN m.length cN) vr m) (kd : Int) (hq : Below wr.heap.size wr wq) (hg : wq.grownBy w5 (Value.slice aN m.length cN).ownBlock) (ho : w5.ownsRow w0.heap.size 44 2 (.slice ra' (m.length + 1) rc') (m.length + 1) (nv m ++ nv [(kd, none, 0, [])])) :
    Wt nn w0 (w5.setCell ⟨vb, 1, none⟩ (.slice ra' (m.length + 1) rc')) mb bb vb fb (s.1, s.2 ++ [(kd, [])]) va (.slice ra' (m.length + 1) rc') vr (m ++ [(kd, none, 0, [])]) ∧ Kw w0.heap.size wr (w5.setCell ⟨vb, 1, none⟩ (.slice ra' (m.length + 1) rc')) ∧ w5.heap[vb]? = some (.cells #[vr, .slice aN m.length cN] 35 (0, 0)) := by
  have fr : Fr (fun k => some k = (Value.slice aN m.length cN).ownBlock) wr w5 := (Fr.of hq).grown hg (fun k e => Or.inl (by simpa using e.symm))
  have h1 := h.noded kd (vn1 := .slice ra' (m.length + 1) rc') fr (by
    have e1 : (m ++ [((kd, none, 0, []) : Vnd)]).length = m.length + 1 := by simp
    rw [e1, nv_append]
    exact ho)
  refine ⟨h1.1, h1.2, (fr.block vb (lt_of_some h.vc) (fun e => ?_)).trans h.vc⟩
  obtain ⟨cs, hc⟩ := row_type h.nr vb e
  rw [h.vc] at hc
  simp at hc

section
variable {nn : Nat} {w0 w3 wb : World} {mb bb vb fb : Nat} {vr : Value}

theorem fin_told {wr : World} {mB m1 m' : List Vnd} {P : List (Int × Int) × Vst} {la : Option Addr} {lc n rb : Nat} {va vn : Value} {k0 : Int} {v0 : List (Int × Int)} (h : Lt nn w0 w3 wr mb bb vb fb vr m1 P la lc va vn m') (hn : P.2.2[n]? = some (k0, v0)) (hnl : P.2.2.length ≤ 100000) (hr : wr.heap[rb]? = some (.cells #[.int .i64 0, .int .i64 0] 41 (0, 0))) (hlt : rb < w3.heap.size) (hlo : w0.heap.size ≤ rb) (hfb : ¬ Fb m' rb) (hwb : wb.heap.size ≤ rb) (hK : Kx w0 wb mB wr m') :
    ∃ g gC u, vn = .slice (some ⟨g, 0, none⟩) m'.length gC ∧ wr.cell? ⟨vb, 1, none⟩ = some (.slice (some ⟨g, 0, none⟩) m'.length gC) ∧ n < m'.length ∧ m'.length ≤ 100000 ∧ wr.cell? ⟨g, n * 2 + 1, none⟩ = some u ∧ wr.frozen? ⟨g, n * 2 + 1, none⟩ = false ∧ wr.cell? ⟨rb, 0, none⟩ = some (.int .i64 0) ∧ wr.cell? ⟨rb, 1, none⟩ = some (.int .i64 0) ∧ wr.frozen? ⟨rb, 0, none⟩ = false ∧ wr.frozen? ⟨rb, 1, none⟩ = false ∧ g ≠ rb ∧
      Hid ((∃ m2, Wt nn w0 (((wr.setCell ⟨g, n * 2 + 1, none⟩ (.slice la P.1.length lc)).setCell ⟨rb, 0, none⟩ (.int .i64 3)).setCell ⟨rb, 1, none⟩ (.int .i64 n)) mb bb vb fb (P.2.1, P.2.2.set n (k0, P.1)) va vn vr m2 ∧ Kx w0 wb mB (((wr.setCell ⟨g, n * 2 + 1, none⟩ (.slice la P.1.length lc)).setCell ⟨rb, 0, none⟩ (.int .i64 3)).setCell ⟨rb, 1, none⟩ (.int .i64 n)) m2) ∧ (((wr.setCell ⟨g, n * 2 + 1, none⟩ (.slice la P.1.length lc)).setCell ⟨rb, 0, none⟩ (.int .i64 3)).setCell ⟨rb, 1, none⟩ (.int .i64 n)).cell? ⟨rb, 0, none⟩ = some (.int .i64 3) ∧ (((wr.setCell ⟨g, n * 2 + 1, none⟩ (.slice la P.1.length lc)).setCell ⟨rb, 0, none⟩ (.int .i64 3)).setCell ⟨rb, 1, none⟩ (.int .i64 n)).cell? ⟨rb, 1, none⟩ = some (.int .i64 n)) := by
  have hnm : n < m'.length := by
    rw [h.wv.len]
    exact (List.getElem?_eq_some_iff.1 hn).1
  have hml : m'.length ≤ 100000 := by rw [h.wv.len]; exact hnl
  obtain ⟨gA, gC, eA⟩ := row_slice h.wv.nr
  subst eA
  obtain ⟨g, cap, eg⟩ := row_shape h.wv.nr (by omega)
  obtain ⟨rfl, rfl⟩ : gA = some ⟨g, 0, none⟩ ∧ gC = cap := by simpa using eg
  obtain ⟨y, hy⟩ : ∃ y, m'[n]? = some y := ⟨_, List.getElem?_eq_getElem hnm⟩
  obtain ⟨_, e2⟩ := nv_get m' n y hy
  obtain ⟨n1, n2⟩ := row_cell h.wv.nr e2
  have cn := h.wv.cells.2.1
  have r0 : wr.cell? ⟨rb, 0, none⟩ = some (.int .i64 0) := by simp [World.cell?, hr]
  have r1 : wr.cell? ⟨rb, 1, none⟩ = some (.int .i64 0) := by simp [World.cell?, hr]
  have f0 : wr.frozen? ⟨rb, 0, none⟩ = false := by simp [World.frozen?, hr]
  have f1 : wr.frozen? ⟨rb, 1, none⟩ = false := by simp [World.frozen?, hr]
  obtain ⟨cur, hcur⟩ := row_type h.wv.nr g rfl
  have hgr : g ≠ rb := fun e => by
    rw [e, hr] at hcur
    simp at hcur
  refine ⟨g, gC, _, rfl, cn, hnm, hml, n1, n2, r0, r1, f0, f1, hgr, ?_, ?_, ?_⟩
  · obtain ⟨a1, a2, a3⟩ := h.wv.filled hn h.row
    have fr : Fr (fun k => k = rb) (wr.setCell ⟨g, n * 2 + 1, none⟩ (.slice la P.1.length lc)) (((wr.setCell ⟨g, n * 2 + 1, none⟩ (.slice la P.1.length lc)).setCell ⟨rb, 0, none⟩ (.int .i64 3)).setCell ⟨rb, 1, none⟩ (.int .i64 n)) := ((Fr.refl (fun k => k = rb) _).set rb 0 _ rfl).set rb 1 _ rfl
    have hr2 : (wr.setCell ⟨g, n * 2 + 1, none⟩ (.slice la P.1.length lc)).heap[rb]? = some (.cells #[.int .i64 0, .int .i64 0] 41 (0, 0)) := (Below.heap_setCell _ _ _ _ (show rb ≠ g from fun e => hgr e.symm)).trans hr
    refine ⟨_, a1.but fr (fun k _ e => ?_), ⟨(hK.1.trans a2).new fr (fun k e => by have e : k = rb := e; omega), fun k hk => ?_⟩⟩
    · have e : k = rb := e
      subst e
      refine ⟨⟨_, hr2⟩, fun d => ?_, hlo⟩
      rcases a3 k d with d | d
      · exact hfb d
      · omega
    · rcases a3 k hk with d | d
      · exact hK.2 k d
      · right
        omega
  · rw [World.cell?_setCell_other _ _ _ _ (by simp)]
    exact World.cell?_setCell_same _ _ _ (u := .int .i64 0) ((World.cell?_setCell_other _ _ _ _ (fun e => hgr (by injection e))).trans r0)
  · exact World.cell?_setCell_same _ _ _ (u := .int .i64 0) ((World.cell?_setCell_other _ _ _ _ (by simp)).trans ((World.cell?_setCell_other _ _ _ _ (fun e => hgr (by injection e))).trans r1))
end
end Tld

end Go.Proofs.Ytjhnhbeimjnloaa
