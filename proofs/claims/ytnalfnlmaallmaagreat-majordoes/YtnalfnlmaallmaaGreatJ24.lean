/- Joined: Vr2, Vr3, Gr8. -/
import Derived.Test.YtnalfnlmaallmaaGreatJ23
import Derived.Test.YtnalfnlmaallmaaGreatGr3
namespace Go.Proofs.YtnalfnlmaallmaaGreat
set_option maxRecDepth 100000
set_option maxHeartbeats 2000000
open Go.RowKit W Kp Stl
def wI (v : Int × Int) : Int := ew v.1 v.2
def Vq (T : List Tw1) (v : Int × Int) : Prop := vc v.1 v.2 = 0 /\ (v.1 = 3 -> 0 <= v.2 /\ Alv T v.2.toNat)
theorem Vq.lt {T : List Tw1} {v : Int × Int} (h : Vq T v) (h3 : v.1 = 3) : 0 <= v.2 /\ v.2 < T.length := by
 obtain ⟨h0, h1⟩ := h.2 h3
 have := h1.1
 exact ⟨h0, by omega⟩
def tI (n : Nat) : List Int := (List.range n).map (fun i : Nat => (i : Int))
theorem tI_mem {n : Nat} {a : Int} : a ∈ tI n ↔ 0 <= a /\ a < n := by
 unfold tI
 simp only [List.mem_map, List.mem_range]
 constructor
 ·rintro ⟨i, hi, e⟩
  omega
 ·rintro ⟨h0, h1⟩
  exact ⟨a.toNat, by omega, by omega⟩
theorem tI_len (n : Nat) : (tI n).length = n := by simp [tI]
def kdW (T : List Tw1) (a : Int) : Int := (T.getD a.toNat t0).1
def shW (T : List Tw1) (wt : List En) (a : Int) : List Int := ((T.getD a.toNat t0).2.1.map wI) ++ (if (T.getD a.toNat t0).1 = 5 then (wt.filter (fun e => e.1 == a)).map (fun e => ew 3 e.2) else [])
structure Wvw (T : List Tw1) (wt : List En) : Prop where
  fv : ∀ i, Alv T i -> ∀ v ∈ (T.getD i t0).2.1, Vq T v
  wv : ∀ e ∈ wt, 0 <= e.1 /\ 0 <= e.2 /\ Alv T e.2.toNat
  tl : ∀ i, (T.getD i t0).2.1.length <= 12
  l1 : T.length <= 10000
  l2 : wt.length <= 10000
section
variable {T : List Tw1} {M : Vst -> Int -> Vst} {s : Vst} {v : Int × Int}
theorem wI_dec (h : Vq T v) : dk (wI v) = v.1 /\ dn (wI v) = v.2 := (dec_enc _ _ h.1).2
theorem vst_o (h : Vq T v) (h3 : v.1 ≠ 3) : vst M (tI T.length) s (wI v) = (v, s) := by
 unfold vst
 rw [(wI_dec h).1, (wI_dec h).2, if_neg h3]
theorem vst_met (h : Vq T v) (h3 : v.1 = 3) (hs : s.1.contains v.2 = true) : vst M (tI T.length) s (wI v) = ((3, (s.1.idxOf v.2 : Int)), s) := by
 unfold vst
 rw [(wI_dec h).1, (wI_dec h).2, if_pos h3, if_pos (List.contains_iff_mem.2 (tI_mem.2 (h.lt h3))), if_pos hs]
theorem vst_new (h : Vq T v) (h3 : v.1 = 3) (hs : s.1.contains v.2 = false) : vst M (tI T.length) s (wI v) = ((3, (s.1.length : Int)), M s v.2) := by
 unfold vst
 rw [(wI_dec h).1, (wI_dec h).2, if_pos h3, if_pos (List.contains_iff_mem.2 (tI_mem.2 (h.lt h3))), if_neg (by rw [hs]; simp)]
end
section
variable {w0 w : World} {mb bb vb fb : Nat} {s : Vst} {va vn vr : Value} {m : List Vnd}
abbrev valA (k x : Int) (mb bb vb fb : Nat) : Array Value := #[.agg #[.int .i64 k, .int .i64 x], .pointer (some ⟨mb, 0, none⟩), .pointer (some ⟨bb, 0, none⟩), .pointer (some ⟨vb, 0, none⟩), .pointer (some ⟨fb, 0, none⟩)]
theorem valueW_o (w : World) (k x : Int) (h3 : k ≠ 3) : Calls Tryz.prog 87 (valA k x mb bb vb fb) w fun e w' => e = .returned (.agg #[.int .i64 k, .int .i64 x]) /\ Below w.heap.size w w' := by
 have hk : (k == 3) = false := by simpa using h3
 have hb := ((Below.refl w.heap.size w).alloc (Nat.le_refl _) (.cells #[.int .i64 k, .int .i64 x] 100)).alloc (by simp) (.cells #[.int .i64 k, .int .i64 x] 100)
 have HB : Hid (Below w.heap.size w ((w.alloc (.cells #[.int .i64 k, .int .i64 x] 100)).alloc (.cells #[.int .i64 k, .int .i64 x] 100))) := hb
 have hg := heap_alloc_new (w.alloc (.cells #[.int .i64 k, .int .i64 x] 100)) (.cells #[.int .i64 k, .int .i64 x] 100)
 have HG : Hid (((w.alloc (.cells #[.int .i64 k, .int .i64 x] 100)).alloc (.cells #[.int .i64 k, .int .i64 x] 100)).heap[(w.alloc (.cells #[.int .i64 k, .int .i64 x] 100)).heap.size]? = some (.cells #[.int .i64 k, .int .i64 x] 100 (0, 0))) := hg
 clear hb hg
 go_enter Tryz.func87, Tryz.ntmps87
 go_wp2_with fail
 have HE : (w.alloc (.cells #[.int .i64 k, .int .i64 x] 100)).heap.size = w.heap.size + 1 := by simp
 have hg := HG.out
 rw [HE] at hg
 have g0 : ((w.alloc (.cells #[.int .i64 k, .int .i64 x] 100)).alloc (.cells #[.int .i64 k, .int .i64 x] 100)).cell? ⟨w.heap.size + 1, 0, none⟩ = some (.int .i64 k) := by
  unfold World.cell?
  rw [hg]
  rfl
 have g1 : ((w.alloc (.cells #[.int .i64 k, .int .i64 x] 100)).alloc (.cells #[.int .i64 k, .int .i64 x] 100)).cell? ⟨w.heap.size + 1, 1, none⟩ = some (.int .i64 x) := by
  unfold World.cell?
  rw [hg]
  rfl
 exact bodyPost_ret (v := .agg #[.int .i64 k, .int .i64 x]) (by simp [results, Tryz.results87, go_sem, g0, g1]) rfl ⟨rfl, HB.out⟩
theorem valueW_met (h : Wv w0 w mb bb vb fb s va vn vr m) (x : Int) (hl : s.1.length <= 100000) (hs : s.1.contains x = true) : Calls Tryz.prog 87 (valA 3 x mb bb vb fb) w fun e w' => e = .returned (.agg #[.int .i64 3, .int .i64 (s.1.idxOf x)]) /\ Below w.heap.size w w' := by
 obtain ⟨ms, ns⟩ := s
 dsimp only at hl hs ⊢
 have hmem : x ∈ ms := List.contains_iff_mem.1 hs
 have hix := List.idxOf_lt_length_of_mem hmem
 obtain ⟨aM, cM, e0⟩ := row_slice h.mr
 subst e0
 obtain ⟨ab, cb, e1⟩ := row_shape h.mr (by show 0 < ms.length; omega)
 obtain ⟨rfl, rfl⟩ : aM = some ⟨ab, 0, none⟩ /\ cM = cb := by simpa using e1
 have hb := ((Below.refl w.heap.size w).alloc (Nat.le_refl _) (.cells #[.int .i64 3, .int .i64 x] 100)).alloc (by simp) (.cells #[.int .i64 0, .int .i64 0] 100)
 have HB : Hid (Below w.heap.size w ((w.alloc (.cells #[.int .i64 3, .int .i64 x] 100)).alloc (.cells #[.int .i64 0, .int .i64 0] 100))) := hb
 have HC : Hid (∀ j, j < ms.length -> ((w.alloc (.cells #[.int .i64 3, .int .i64 x] 100)).alloc (.cells #[.int .i64 0, .int .i64 0] 100)).cell? ⟨ab, j, none⟩ = some (.int .i64 (ms.getD j 0))) := fun j hj => by
  have h1 := (row_cell h.mr (i := j) (u := .int .i64 (ms.getD j 0)) (by
   show (ms.map (Value.int .i64))[j]? = _
   rw [List.getElem?_map, List.getElem?_eq_getElem hj, List.getD_eq_getElem?_getD, List.getElem?_eq_getElem hj]
   rfl)).1
  exact (hb.cell (p := ⟨ab, j, none⟩) (World.block_lt_of_cell? w _ h1)).trans h1
 have c0 := (hb.cell (p := ⟨mb, 0, none⟩) h.cells.2.2.2.1).trans h.cells.1
 have lmb := h.cells.2.2.2.1
 have lab := (row_lt h.mr ab rfl).2
 have HIX : Hid (ms.getD (ms.idxOf x) 0 = x /\ ∀ j, ms.getD j 0 = x -> j < ms.length -> ms.idxOf x <= j) := ⟨by
  rw [List.getD_eq_getElem?_getD, List.getElem?_eq_getElem hix]
  simp, fun j hj hlt => by
  rcases Nat.lt_or_ge j (ms.idxOf x) with d | d
  ·exfalso
   rw [List.getD_eq_getElem?_getD, List.getElem?_eq_getElem hlt] at hj
   have hj : ms[j] = x := hj
   have q := List.not_of_lt_findIdx (p := fun y => y == x) (xs := ms) d
   simp [hj] at q
  ·exact d⟩
 have hms : w.heap.size ≠ mb := by omega
 clear hb h e1 hs hmem
 generalize hie : ms.idxOf x = ix at *
 go_enter Tryz.func87, Tryz.ntmps87
 go_wp2_with fail
 have HG : Hid (((w.alloc (.cells #[.int .i64 3, .int .i64 x] 100)).alloc (.cells #[.int .i64 0, .int .i64 0] 100)).heap[w.heap.size + 1]? = some (.cells #[.int .i64 0, .int .i64 0] 100 (0, 0)) /\ ((w.alloc (.cells #[.int .i64 3, .int .i64 x] 100)).alloc (.cells #[.int .i64 0, .int .i64 0] 100)).heap[w.heap.size]? = some (.cells #[.int .i64 3, .int .i64 x] 100 (0, 0)) /\ ((w.alloc (.cells #[.int .i64 3, .int .i64 x] 100)).alloc (.cells #[.int .i64 0, .int .i64 0] 100)).heap.size = w.heap.size + 2) := by
  refine ⟨?_, ?_, by simp⟩
  ·have := heap_alloc_new (w.alloc (.cells #[.int .i64 3, .int .i64 x] 100)) (.cells #[.int .i64 0, .int .i64 0] 100)
   have e : (w.alloc (.cells #[.int .i64 3, .int .i64 x] 100)).heap.size = w.heap.size + 1 := by simp
   rw [e] at this
   exact this
  ·have h1 := heap_alloc_new w (.cells #[.int .i64 3, .int .i64 x] 100)
   have h2 := (Below.refl (w.alloc (.cells #[.int .i64 3, .int .i64 x] 100)).heap.size (w.alloc (.cells #[.int .i64 3, .int .i64 x] 100))).alloc (Nat.le_refl _) (.cells #[.int .i64 0, .int .i64 0] 100)
   exact (h2.block w.heap.size (by simp)).trans h1
 generalize (w.alloc (.cells #[.int .i64 3, .int .i64 x] 100)).alloc (.cells #[.int .i64 0, .int .i64 0] 100) = W2 at *
 go_loopw [7] (fun iv wr => ∃ j : Nat, j <= ix /\ iv = .int .i64 j /\ Hid (Below W2.heap.size W2 wr)) (fun iv _ => ms.length - (intOf iv).toNat)
 case atStart => exact ⟨0, Nat.zero_le _, rfl, Below.refl _ _⟩
 case round =>
  obtain ⟨j, hj, rfl, HW⟩ := hrel
  have lt2 : mb < W2.heap.size := World.block_lt_of_cell? W2 _ c0
  have z0 := (HW.out.cell (p := ⟨mb, 0, none⟩) lt2).trans c0
  have hjl : j < ms.length := by omega
  have z1 := (HW.out.cell (p := ⟨ab, j, none⟩) (World.block_lt_of_cell? W2 _ (HC.out j hjl))).trans (HC.out j hjl)
  have hx1 := (HW.out.block w.heap.size (lt_of_some HG.out.2.1)).trans HG.out.2.1
  have hx2 := (HW.out.block (w.heap.size + 1) (lt_of_some HG.out.1)).trans HG.out.1
  have y1 : wr.cell? ⟨w.heap.size, 1, none⟩ = some (.int .i64 x) := by simp [World.cell?, hx1]
  have r0 : wr.cell? ⟨w.heap.size + 1, 0, none⟩ = some (.int .i64 0) := by simp [World.cell?, hx2]
  have r1 : wr.cell? ⟨w.heap.size + 1, 1, none⟩ = some (.int .i64 0) := by simp [World.cell?, hx2]
  have f0 : wr.frozen? ⟨w.heap.size + 1, 0, none⟩ = false := by simp [World.frozen?, hx2]
  have f1 : wr.frozen? ⟨w.heap.size + 1, 1, none⟩ = false := by simp [World.frozen?, hx2]
  have j0 : (0 : Int) <= (j : Int) := by omega
  have j1 : (j : Int) < (ms.length : Int) := by omega
  clear hx1 hx2
  by_cases hj2 : j = ix
  ·subst hj2
   rw [HIX.out.1] at z1
   go_wp2_with fail
   go_quiet (fail)
   go_wp2_with fail
   have hF : Fr (fun k => k = w.heap.size + 1) wr (((wr.drewN nq).setCell ⟨w.heap.size + 1, 0, none⟩ (.int .i64 3)).setCell ⟨w.heap.size + 1, 1, none⟩ (.int .i64 j)) := by
    have f0 : Fr (fun k => k = w.heap.size + 1) wr (wr.drewN nq) := Fr.of (below_drewN (Below.refl _ _) nq)
    exact (f0.set (w.heap.size + 1) 0 _ rfl).set (w.heap.size + 1) 1 _ rfl
   have g0 : (((wr.drewN nq).setCell ⟨w.heap.size + 1, 0, none⟩ (.int .i64 3)).setCell ⟨w.heap.size + 1, 1, none⟩ (.int .i64 j)).cell? ⟨w.heap.size + 1, 0, none⟩ = some (.int .i64 3) := by
    rw [World.cell?_setCell_other _ _ _ _ (by simp)]
    exact World.cell?_setCell_same _ _ _ (u := .int .i64 0) r0
   have g1 : (((wr.drewN nq).setCell ⟨w.heap.size + 1, 0, none⟩ (.int .i64 3)).setCell ⟨w.heap.size + 1, 1, none⟩ (.int .i64 j)).cell? ⟨w.heap.size + 1, 1, none⟩ = some (.int .i64 j) := World.cell?_setCell_same _ _ _ (u := .int .i64 0) ((World.cell?_setCell_other _ _ _ _ (by simp)).trans r1)
   have hB9 : Below w.heap.size w wr := HB.out.trans (HW.out.mono HB.out.size)
   exact bodyPost_ret (v := .agg #[.int .i64 3, .int .i64 j]) (by simp [results, Tryz.results87, go_sem, g0, g1]) rfl ⟨rfl, hB9.trans (hF.below hB9.size (fun k e => by have e : k = w.heap.size + 1 := e; omega))⟩
  ·have hne : (ms.getD j 0 == x) = false := by
    have : ms.getD j 0 ≠ x := fun e => by
     have := HIX.out.2 j e hjl
     omega
    simpa using this
   generalize ms.getD j 0 = y at *
   go_wp2_with fail
   go_quiet (fail)
   go_wp2_with fail
   go_roundw
   case rel => exact ⟨j + 1, by omega, by go_num, below_drewN HW.out _⟩
   case measure => simp [intOf]; omega
end
end Go.Proofs.YtnalfnlmaallmaaGreat

namespace Go.Proofs.YtnalfnlmaallmaaGreat
open Go.RowKit W Kp Stl
structure Lr (w0 w3 wr : World) (mb bb vb fb : Nat) (vr : Value) (m1 : List Vnd) (P : List (Int × Int) × Vst) (la : Option Addr) (lc : Nat) (va vn : Value) (m' : List Vnd) : Prop where
  hs : w0.heap.size <= w3.heap.size
  wv : Wv w0 wr mb bb vb fb P.2 va vn vr m'
  kx : Kx w0 w3 m1 wr m'
  row : wr.ownsRow w3.heap.size 100 2 (.slice la P.1.length lc) P.1.length (ev P.1)
  no : ∀ k, Fb m' k -> ¬ some k = (Value.slice la P.1.length lc).ownBlock
section
variable {w0 w3 wr : World} {mb bb vb fb : Nat} {vr va vn : Value} {m1 m' : List Vnd} {P : List (Int × Int) × Vst} {la : Option Addr} {lc : Nat}
theorem Lr.start (h : Wv w0 w3 mb bb vb fb P.2 va vn vr m1) (hp : P.1 = []) : Lr w0 w3 w3 mb bb vb fb vr m1 P none 0 va vn m1 :=
 ⟨h.bel.size, h, Kx.refl _ _ _, by rw [hp]; exact World.ownsRow_nil _ _ _ _, fun k _ e => by cases e⟩
theorem Lr.call (h : Lr w0 w3 wr mb bb vb fb vr m1 P la lc va vn m') {w5 : World} {s' : Vst} {va' vn' : Value} {m2 : List Vnd} (hW : Wv w0 w5 mb bb vb fb s' va' vn' vr m2) (hK : Kx w0 wr m' w5 m2) : Lr w0 w3 w5 mb bb vb fb vr m1 (P.1, s') la lc va' vn' m2 :=
 ⟨h.hs, hW, h.kx.trans hK, row_keep h.row (fun k e => by
  obtain ⟨cs, hc⟩ := row_type h.row k e
  exact hK.1.oth k _ _ _ hc (by unfold Tyw; decide)), fun k hk e => by
  rcases hK.2 k hk with d | d
  ·exact h.no k d e
  ·have := (row_lt h.row k e).2
   omega⟩
theorem Lr.below (h : Lr w0 w3 wr mb bb vb fb vr m1 P la lc va vn m') {w5 : World} (hb : Below wr.heap.size wr w5) : Lr w0 w3 w5 mb bb vb fb vr m1 P la lc va vn m' :=
 h.call (s' := P.2) (h.wv.below hb) (Kx.of hb)
theorem Lr.push (h : Lr w0 w3 wr mb bb vb fb vr m1 P la lc va vn m') {wq w10 : World} (hq : Below wr.heap.size wr wq) {v : Int × Int} {la' : Option Addr} {lc' : Nat} (hg : wq.grownBy w10 (Value.slice la P.1.length lc).ownBlock) (ho : w10.ownsRow w3.heap.size 100 2 (.slice la' (P.1.length + 1) lc') (P.1.length + 1) (ev P.1 ++ ev [v])) (hn : (Value.slice la' (P.1.length + 1) lc').ownBlock = (Value.slice la P.1.length lc).ownBlock \/ (Value.slice la' (P.1.length + 1) lc').ownBlock = some wq.heap.size) :
  Lr w0 w3 w10 mb bb vb fb vr m1 (P.1 ++ [v], P.2) la' lc' va vn m' := by
 have fr : Fr (fun k => some k = (Value.slice la P.1.length lc).ownBlock) wr w10 := (Fr.of hq).grown hg (fun k e => Or.inl (by simpa using e.symm))
 have h1 : (P.1 ++ [v]).length = P.1.length + 1 := by simp
 have h2 : ev (P.1 ++ [v]) = ev P.1 ++ ev [v] := by simp [ev]
 refine ⟨h.hs, h.wv.but fr (fun k hk e => ?_), ⟨h.kx.1.new fr (fun k e => (row_lt h.row k e).1), h.kx.2⟩, by rw [h1, h2]; exact ho, fun k hk e => ?_⟩
 ·refine ⟨row_type h.row k e, fun d => h.no k d e, ?_⟩
  have h3 := (row_lt h.row k e).1
  have := h.hs
  omega
 ·rw [h1] at e
  rcases hn with d | d
  ·rw [d] at e
   exact h.no k hk e
  ·rw [d] at e
   have e : k = wq.heap.size := by simpa using e
   have := h.wv.fbk k hk
   have := hq.size
   omega
theorem Lr.box (h : Lr w0 w3 wr mb bb vb fb vr m1 P la lc va vn m') {yb : Nat} {w6 : World} (f : Fr (fun k => k = yb) wr w6) (hb : w3.heap.size <= yb) (ht : yb < wr.heap.size -> (∃ cs, wr.heap[yb]? = some (.cells cs 100 (0, 0))) /\ ¬ Fb m' yb /\ ¬ some yb = (Value.slice la P.1.length lc).ownBlock) : Lr w0 w3 w6 mb bb vb fb vr m1 P la lc va vn m' :=
 ⟨h.hs, h.wv.but f (fun k hk e => by
  have e : k = yb := e
  subst e
  have := h.hs
  exact ⟨(ht hk).1, (ht hk).2.1, by omega⟩), ⟨h.kx.1.new f (fun k e => by have e : k = yb := e; omega), h.kx.2⟩, row_keep h.row (fun k e => f.block k (row_lt h.row k e).2 (fun d => by
  have d : k = yb := d
  subst d
  exact (ht (row_lt h.row k e).2).2.2 e)), h.no⟩
theorem Lr.late {W : World} (hL : Lr w0 w3 W mb bb vb fb vr m1 P la lc va vn m') {w5 : World} {s' : Vst} {va5 vn5 : Value} {m5 : List Vnd} (h5 : Lr w0 w3 w5 mb bb vb fb vr m1 (P.1, s') la lc va5 vn5 m5) (hK : Kx w0 (W.alloc (.cells #[.int .i64 0, .int .i64 0] 100)) m' w5 m5) (v1 v2 : Int) :
  w5.heap[W.heap.size]? = some (.cells #[.int .i64 0, .int .i64 0] 100 (0, 0)) /\ Lr w0 w3 ((w5.setCell ⟨W.heap.size, 0, none⟩ (.int .i64 v1)).setCell ⟨W.heap.size, 1, none⟩ (.int .i64 v2)) mb bb vb fb vr m1 (P.1, s') la lc va5 vn5 m5 := by
 have hc := heap_alloc_new W (.cells #[.int .i64 0, .int .i64 0] 100)
 have h1 := (hK.1.oth _ _ _ _ hc (by unfold Tyw; decide)).trans hc
 refine ⟨h1, h5.box (yb := W.heap.size) (((Fr.refl (fun k => k = W.heap.size) w5).set _ 0 _ rfl).set _ 1 _ rfl) hL.kx.1.size (fun _ => ⟨⟨_, h1⟩, fun d => ?_, fun e => ?_⟩)⟩
 ·rcases hK.2 _ d with d | d
  ·have := hL.wv.fbk _ d
   omega
  ·simp at d
   omega
 ·have := (row_lt hL.row W.heap.size e).2
  omega
end
end Go.Proofs.YtnalfnlmaallmaaGreat

namespace Go.Proofs.YtnalfnlmaallmaaGreat
open Go.RowKit W Kp Stl
theorem tv_old : ∀ (l : List Tnd) (i : Nat) (x : Tnd) (v : Bool), l[i]? = some x -> tv (l.set i ((x.1.1, x.1.2.1, v, x.1.2.2.2), x.2)) = (tv l).set (i * 4 + 2) (.bool v)
 | [], _, _, _, _ => rfl
 | e :: l, 0, x, v, h => by
  simp at h
  subst h
  simp [tv]
 | e :: l, i + 1, x, v, h => by
  have ih := tv_old l i x v (by simpa using h)
  have e1 : (tv (e :: l)) = .int .i64 e.1.1 :: .slice e.2.1 e.1.2.1.length e.2.2 :: .bool e.1.2.2.1 :: .bool e.1.2.2.2 :: tv l := by simp [tv]
  have e2 : ∀ k : List Tnd, (tv (e :: k)) = .int .i64 e.1.1 :: .slice e.2.1 e.1.2.1.length e.2.2 :: .bool e.1.2.2.1 :: .bool e.1.2.2.2 :: tv k := fun k => by simp [tv]
  rw [List.set_cons_succ, e2, e1, ih, show (i + 1) * 4 + 2 = i * 4 + 2 + 1 + 1 + 1 + 1 by omega]
  simp
theorem tv_dead : ∀ (l : List Tnd) (i : Nat) (x : Tnd) (v : Bool), l[i]? = some x -> tv (l.set i ((x.1.1, x.1.2.1, x.1.2.2.1, v), x.2)) = (tv l).set (i * 4 + 3) (.bool v)
 | [], _, _, _, _ => rfl
 | e :: l, 0, x, v, h => by
  simp at h
  subst h
  simp [tv]
 | e :: l, i + 1, x, v, h => by
  have ih := tv_dead l i x v (by simpa using h)
  have e1 : (tv (e :: l)) = .int .i64 e.1.1 :: .slice e.2.1 e.1.2.1.length e.2.2 :: .bool e.1.2.2.1 :: .bool e.1.2.2.2 :: tv l := by simp [tv]
  have e2 : ∀ k : List Tnd, (tv (e :: k)) = .int .i64 e.1.1 :: .slice e.2.1 e.1.2.1.length e.2.2 :: .bool e.1.2.2.1 :: .bool e.1.2.2.2 :: tv k := fun k => by simp [tv]
  rw [List.set_cons_succ, e2, e1, ih, show (i + 1) * 4 + 3 = i * 4 + 3 + 1 + 1 + 1 + 1 by omega]
  simp
section
variable {rp rb : Nat} {most grow : Int} {F : Nat -> Prop} {s : Wrs} {w : World}
theorem wr_flag (h : (wrO rp rb most grow).J F s w) {i : Nat} {x : Tw1} (hx : s.T[i]? = some x) {b cT : Nat} (hc : w.cell? ⟨rp, 0, none⟩ = some (.slice (some ⟨b, 0, none⟩) s.T.length cT)) :
    (wrO rp rb most grow).J F { s with T := s.T.set i (x.1, x.2.1, true, x.2.2.2) } (w.setCell ⟨b, i * 4 + 2, none⟩ (.bool true)) /\ (wrO rp rb most grow).J F { s with T := s.T.set i (x.1, x.2.1, x.2.2.1, true) } (w.setCell ⟨b, i * 4 + 3, none⟩ (.bool true)) /\ F b /\ (∀ o, w.frozen? ⟨b, o, none⟩ = false) /\ b ≠ rp := by
  obtain ⟨own, m, vT, v2, v3, h, hF⟩ := h
  have h1 := h.blk
  obtain rfl : vT = .slice (some ⟨b, 0, none⟩) s.T.length cT := by simpa [World.cell?, h1] using hc
  have ob := h.ro b rfl
  obtain ⟨y, hy, rfl⟩ : ∃ y, m[i]? = some y /\ y.1 = x := by
    rw [<- h.nd] at hx
    simp at hx
    obtain ⟨a, b, c⟩ := hx
    exact ⟨_, c, rfl⟩
  have key : ∀ (t : Tw1) (o : Nat) (v : Value), t.2.1 = y.1.2.1 -> tv (m.set i (t, y.2)) = (tv m).set o v -> (wrO rp rb most grow).J F { s with T := s.T.set i t } (w.setCell ⟨b, o, none⟩ v) := fun t o v et ev' => by
    have sz : (w.setCell ⟨b, o, none⟩ v).heap.size = w.heap.size := by simp [World.setCell]
    have hk : ∀ k, own k ≠ 2 -> (w.setCell ⟨b, o, none⟩ v).heap[k]? = w.heap[k]? := fun k h2 => Below.heap_setCell _ _ _ _ (fun e => h2 (by have e : k = b := e; rw [e]; exact ob))
    refine ⟨own, m.set i (t, y.2), .slice (some ⟨b, 0, none⟩) s.T.length cT, v2, v3, ?_, hF⟩
    exact { blk := (hk _ (by rw [h.b1]; decide)).trans h.blk, b1 := h.b1
            row := by
              have el : m.length = s.T.length := by rw [<- h.nd]; simp
              have hr := h.row
              rw [el] at hr
              rw [List.length_set, ev', el]
              exact row_put hr _ _
            ro := h.ro
            nd := by rw [List.map_set, h.nd]
            fl := fun z hz => by
              have old : ∀ z ∈ m, Lp (w.setCell ⟨b, o, none⟩ v) z.2.1 z.1.2.1 /\ (0 < z.1.2.1.length -> ∃ b o, z.2.1 = some ⟨b, o, none⟩ /\ own b = 3) := fun z hz => ⟨(h.fl z hz).1.at (by rw [sz]; exact Nat.le_refl _) (fun b' o' hp e => by
                obtain ⟨b2, o2, e2, ho2⟩ := (h.fl z hz).2 hp
                rw [e] at e2
                cases e2
                exact hk _ (by rw [ho2]; decide)), (h.fl z hz).2⟩
              rcases List.mem_or_eq_of_mem_set hz with hz | hz
              · exact old z hz
              · subst hz
                have := old y (List.mem_of_getElem? hy)
                rw [<- et] at this
                exact this
            rt := (hk _ (by rw [h.r1]; decide)).trans h.rt, rl := h.rl, r1 := h.r1
            g2 := row_keep h.g2 (fun b e => hk b (by rw [h.g2o b e]; decide)), g2o := h.g2o
            g3 := row_keep h.g3 (fun b e => hk b (by rw [h.g3o b e]; decide)), g3o := h.g3o
            lt := fun k hb' => by rw [sz]; exact h.lt k hb' }
  refine ⟨key _ _ _ rfl (tv_old m i y true hy), key _ _ _ rfl (tv_dead m i y true hy), (hF b).2 (by rw [ob]; decide), fun o => ?_, fun e => by rw [e, h.b1] at ob; omega⟩
  obtain ⟨cur, hcur⟩ := row_type h.row b rfl
  simp [World.frozen?, hcur]
theorem wr_fields (h : (wrO rp rb most grow).J F s w) {i : Nat} {x : Tw1} (hx : s.T[i]? = some x) {b cT : Nat} (hc : w.cell? ⟨rp, 0, none⟩ = some (.slice (some ⟨b, 0, none⟩) s.T.length cT)) (ad : Option Addr) (c : Nat) (vs : List (Int × Int)) (hL : Lp w ad vs) (hn : ∀ b o, 0 < vs.length -> ad = some ⟨b, o, none⟩ -> ¬ F b) :
  (wrO rp rb most grow).J (fun b => F b \/ (0 < vs.length /\ ∃ o, ad = some ⟨b, o, none⟩)) { s with T := s.T.set i (x.1, vs, x.2.2) } (w.setCell ⟨b, i * 4 + 1, none⟩ (.slice ad vs.length c)) /\ Fr F w (w.setCell ⟨b, i * 4 + 1, none⟩ (.slice ad vs.length c)) := by
 obtain ⟨mm, vT, hmm, cT3, hrow3, _, _, _, hset⟩ := wr_row h
 obtain rfl : vT = .slice (some ⟨b, 0, none⟩) s.T.length cT := by
  have := cT3.symm.trans hc
  simpa using this
 obtain ⟨y, hy, rfl⟩ : ∃ y, mm[i]? = some y /\ y.1 = x := by
  rw [<- hmm] at hx
  simp at hx
  obtain ⟨a, b, c⟩ := hx
  exact ⟨_, c, rfl⟩
 exact hset i y ad c vs b hy rfl hL hn
theorem wr_beside (h : (wrO rp rb most grow).J F s w) (l l' : List En) (v v' : Value) (w1 : World) (hb : Below w.heap.size w w1) (hr : w1.ownsRow w.heap.size 124 2 v l.length (ev l)) (hr' : w1.ownsRow w.heap.size 124 2 v' l'.length (ev l')) (hne : ∀ b, some b = v.ownBlock -> ¬ some b = v'.ownBlock) :
    ∃ F', (wrO rp rb most grow).J F' { s with rg := l, wt := l' } ((w1.setCell ⟨rp, 2, none⟩ v).setCell ⟨rp, 3, none⟩ v') /\ Tn F w F' ((w1.setCell ⟨rp, 2, none⟩ v).setCell ⟨rp, 3, none⟩ v') /\ (∀ b, F' b -> F b \/ some b = v.ownBlock \/ some b = v'.ownBlock) := by
  classical
  obtain ⟨own, m, vT, v2, v3, h, hF⟩ := h
  have h1 := h.blk
  have own0 : ∀ b, w.heap.size <= b -> own b = 0 := fun b hb => Classical.byContradiction (fun c => by have := h.lt b c; omega)
  have n1 : ∀ b, some b = v.ownBlock -> own b = 0 := fun b e => own0 b (row_lt hr b e).1
  have n2 : ∀ b, some b = v'.ownBlock -> own b = 0 := fun b e => own0 b (row_lt hr' b e).1
  have e1 : ∀ b j, own b = j -> j ≠ 0 -> (if some b = v.ownBlock then 5 else if some b = v'.ownBlock then 6 else own b) = j := fun b j e h0 => by
    rw [if_neg (fun c => by have := n1 b c; omega), if_neg (fun c => by have := n2 b c; omega)]
    exact e
  have sz : ((w1.setCell ⟨rp, 2, none⟩ v).setCell ⟨rp, 3, none⟩ v').heap.size = w1.heap.size := by simp [World.setCell]
  have kk : ∀ k, k ≠ rp -> ((w1.setCell ⟨rp, 2, none⟩ v).setCell ⟨rp, 3, none⟩ v').heap[k]? = w1.heap[k]? := fun k hk => (Below.heap_setCell _ _ _ _ hk).trans (Below.heap_setCell _ _ _ _ hk)
  have hk : ∀ b, b < w.heap.size -> own b ≠ 1 -> ((w1.setCell ⟨rp, 2, none⟩ v).setCell ⟨rp, 3, none⟩ v').heap[b]? = w.heap[b]? := fun b hlt h1' => (kk b (fun e => h1' (by rw [e]; exact h.b1))).trans (hb.block b hlt)
  have lrp := lt_of_some h1
  refine ⟨fun b => F b \/ some b = v.ownBlock \/ some b = v'.ownBlock, ⟨fun b => if some b = v.ownBlock then 5 else if some b = v'.ownBlock then 6 else own b, m, vT, v, v', ?_, fun b => ?_⟩, ⟨?_, fun b d => ?_⟩, fun b d => d⟩
  · exact { blk := by
              have hq := (hb.block rp lrp).trans h1
              simp only [World.setCell, Array.getElem?_modify, if_true, hq, Option.map_some]
              simp
            b1 := e1 _ _ h.b1 (by decide)
            row := row_keep h.row (fun b e => hk b (row_lt h.row b e).2 (by rw [h.ro b e]; decide))
            ro := fun b e => e1 _ _ (h.ro b e) (by decide)
            nd := h.nd
            fl := fun y hy => by
              refine ⟨(h.fl y hy).1.at (by rw [sz]; exact hb.size) (fun b o hp e => ?_), fun hp => ?_⟩
              · obtain ⟨b', o', e', ho'⟩ := (h.fl y hy).2 hp
                rw [e] at e'
                cases e'
                exact hk _ (h.lt _ (by rw [ho']; decide)) (by rw [ho']; decide)
              · obtain ⟨b', o', e', ho'⟩ := (h.fl y hy).2 hp
                exact ⟨b', o', e', e1 _ _ ho' (by decide)⟩
            rt := (hk _ (lt_of_some h.rt) (by rw [h.r1]; decide)).trans h.rt
            rl := h.rl
            r1 := e1 _ _ h.r1 (by decide)
            g2 := row_base (row_keep hr (fun b e => kk b (fun e' => by have := (row_lt hr b e).1; omega))) (fun _ _ => Nat.zero_le _)
            g2o := fun b e => by rw [if_pos e]
            g3 := row_base (row_keep hr' (fun b e => kk b (fun e' => by have := (row_lt hr' b e).1; omega))) (fun _ _ => Nat.zero_le _)
            g3o := fun b e => by rw [if_neg (fun c => hne b c e), if_pos e]
            lt := fun b hb' => by
              rw [sz]
              by_cases c1 : some b = v.ownBlock
              · exact (row_lt hr b c1).2
              · by_cases c2 : some b = v'.ownBlock
                · exact (row_lt hr' b c2).2
                · rw [if_neg c1, if_neg c2] at hb'
                  exact Nat.lt_of_lt_of_le (h.lt b hb') hb.size }
  · by_cases c1 : some b = v.ownBlock
    · simp [c1]
    · by_cases c2 : some b = v'.ownBlock
      · simp only [if_neg c1, if_pos c2]
        exact ⟨fun _ => by decide, fun _ => Or.inr (Or.inr c2)⟩
      · simp only [if_neg c1, if_neg c2]
        exact ⟨fun d => d.elim (hF b).1 (fun d => d.elim (fun d => absurd d c1) (fun d => absurd d c2)), fun d => Or.inl ((hF b).2 d)⟩
  · have f1 : Fr F w w1 := Fr.of hb
    exact (f1.set rp 2 _ ((hF rp).2 (by rw [h.b1]; decide))).set rp 3 _ ((hF rp).2 (by rw [h.b1]; decide))
  · rcases d with d | d | d
    · exact Or.inl d
    · exact Or.inr (row_lt hr b d).1
    · exact Or.inr (row_lt hr' b d).1
end
end Go.Proofs.YtnalfnlmaallmaaGreat
