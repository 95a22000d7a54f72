/- What New, Free, Clear, Cut and take of package arena do: contracts, over the seat's own translation; no block but the arena's turns. -/
import Derived.Test.YtglddgjljohkiabAr1
import Derived.Deep.RegionWith
namespace Go.Proofs.Ytglddgjljohkiab
open Go.RowKit W

set_option maxRecDepth 100000 in
set_option maxHeartbeats 400000 in
theorem takeY_yes {p q N O y g : Nat} {ws : List Int} (n : Int) (w : World) (h : At w p q N O y g ws) (h0 : 0 ≤ n) (h1 : n ≤ (N : Int) - y) :
    Calls Try.prog 60 #[.pointer (some ⟨p, 1, none⟩), .int .i64 n] w fun e w' => e = .returned (.tuple #[.int .i64 y, .bool true]) ∧ At w' p q N O (y + n.toNat) g ws ∧ Sv p q w w' := by
  obtain ⟨n, rfl⟩ := Int.eq_ofNat_of_zero_le h0
  rw [Int.toNat_natCast]
  obtain ⟨c0, c1, c2, c3, c4, c5, c6⟩ := h.cells
  have k1 := h.hN'
  have k2 := h.hy
  go_enter Try.func60, Try.ntmps60
  go_wp2_with fail
  refine (free_any 0 N y _ (by omega) (by omega) (by omega) (by omega)).mono ?_
  rintro e w1 ⟨rfl, hb1⟩
  have h2 := h.below hb1 (Nat.le_refl _)
  obtain ⟨c0, c1, c2, c3, c4, c5, c6⟩ := h2.cells
  go_wp2_with fail
  refine (end_any 0 N y _ (by omega) (by omega) (by omega) (by omega)).mono ?_
  rintro e w2 ⟨rfl, hb2⟩
  have h3 := h2.below hb2 (Nat.le_refl _)
  obtain ⟨c0, c1, c2, c3, c4, c5, c6⟩ := h3.cells
  have f3 := h3.frozen 3
  go_wp2_with fail
  go_ret2
  exact ⟨by simp, h3.setY (y + n) (by omega), ((Sv.of hb1).trans (Sv.of hb2)).trans (Sv.setp _ _)⟩

set_option maxRecDepth 100000 in
set_option maxHeartbeats 400000 in
theorem takeY_no {p q N O y g : Nat} {ws : List Int} (n : Int) (w : World) (h : At w p q N O y g ws) (h0 : (N : Int) - y < n) :
    Calls Try.prog 60 #[.pointer (some ⟨p, 1, none⟩), .int .i64 n] w fun e w' => e = .returned (.tuple #[.int .i64 0, .bool false]) ∧ Below w.heap.size w w' := by
  obtain ⟨c0, c1, c2, c3, c4, c5, c6⟩ := h.cells
  have k1 := h.hN'
  have k2 := h.hy
  go_enter Try.func60, Try.ntmps60
  go_wp2_with fail
  refine (free_any 0 N y _ (by omega) (by omega) (by omega) (by omega)).mono ?_
  rintro e w1 ⟨rfl, hb1⟩
  go_wp2_with fail
  go_ret2
  exact ⟨rfl, hb1⟩

set_option maxRecDepth 100000 in
set_option maxHeartbeats 400000 in
theorem takeG_yes {p q N O y g : Nat} {ws : List Int} (n : Int) (w : World) (h : At w p q N O y g ws) (h0 : 0 ≤ n) (h1 : n ≤ (O : Int) - g) :
    Calls Try.prog 60 #[.pointer (some ⟨p, 4, none⟩), .int .i64 n] w fun e w' => e = .returned (.tuple #[.int .i64 (N + g : Nat), .bool true]) ∧ At w' p q N O y (g + n.toNat) ws ∧ Sv p q w w' := by
  obtain ⟨n, rfl⟩ := Int.eq_ofNat_of_zero_le h0
  rw [Int.toNat_natCast]
  obtain ⟨c0, c1, c2, c3, c4, c5, c6⟩ := h.cells
  have k1 := h.hN'
  have k2 := h.hg
  have k3 := h.hO
  go_enter Try.func60, Try.ntmps60
  go_wp2_with fail
  refine (free_any N O g _ (by omega) (by omega) (by omega) (by omega)).mono ?_
  rintro e w1 ⟨rfl, hb1⟩
  have h2 := h.below hb1 (Nat.le_refl _)
  obtain ⟨c0, c1, c2, c3, c4, c5, c6⟩ := h2.cells
  go_wp2_with fail
  refine (end_any N O g _ (by omega) (by omega) (by omega) (by omega)).mono ?_
  rintro e w2 ⟨rfl, hb2⟩
  have h3 := h2.below hb2 (Nat.le_refl _)
  obtain ⟨c0, c1, c2, c3, c4, c5, c6⟩ := h3.cells
  have f3 := h3.frozen 6
  go_wp2_with fail
  go_ret2
  exact ⟨by simp, h3.setG (g + n) (by omega), ((Sv.of hb1).trans (Sv.of hb2)).trans (Sv.setp _ _)⟩

set_option maxRecDepth 100000 in
set_option maxHeartbeats 400000 in
theorem takeG_no {p q N O y g : Nat} {ws : List Int} (n : Int) (w : World) (h : At w p q N O y g ws) (h0 : (O : Int) - g < n) :
    Calls Try.prog 60 #[.pointer (some ⟨p, 4, none⟩), .int .i64 n] w fun e w' => e = .returned (.tuple #[.int .i64 0, .bool false]) ∧ Below w.heap.size w w' := by
  obtain ⟨c0, c1, c2, c3, c4, c5, c6⟩ := h.cells
  have k1 := h.hN'
  have k2 := h.hg
  have k3 := h.hO
  go_enter Try.func60, Try.ntmps60
  go_wp2_with fail
  refine (free_any N O g _ (by omega) (by omega) (by omega) (by omega)).mono ?_
  rintro e w1 ⟨rfl, hb1⟩
  go_wp2_with fail
  go_ret2
  exact ⟨rfl, hb1⟩

theorem info64A : (Try.prog.info? 2).map (fun i => (i.zero, i.size, i.bytes)) = some (some (.int .i64 0), 1, 8) := by kernel_rfl

/-- What is made whole is so many noughts. -/
theorem made_row {w : World} {b k n : Nat} (h : w.ownsRow b 2 1 (.slice (some ⟨k, 0, none⟩) n n) n (madeCells (Value.int .i64 0).cells (n * 1)).toList) :
    w.heap[k]? = some (.cells ((List.replicate n (0 : Int)).map (Value.int .i64)).toArray 2 (0, 0)) := by
  obtain ⟨h1, h2⟩ := h
  rcases h2 with ⟨e, _⟩ | ⟨k', cap, cur, hv, hb, hh, h3, h4, h5, h6⟩
  · cases e
  · cases hv
    rw [hh]
    have : cur.toList = (List.replicate n (0 : Int)).map (Value.int .i64) := by
      rw [← List.take_of_length_le (l := cur.toList) (i := n * 1) (by simp; omega), h6]
      show (madeCells #[Value.int .i64 0] (n * 1)).toList = _
      rw [toList_madeCells_one]
      simp
    rw [← this]

theorem new_top {w : World} {k : Nat} (o : Obj) (h : w.heap.size = k) : (w.alloc o).heap[k]? = some o := by
  subst h; exact heap_alloc_new _ _

theorem after_make {w w1 : World} {a b : Value} {t : TypeId} (hg : (w.alloc (.cells #[a, b] t)).grownBy w1 none) :
    w1.cell? ⟨w.heap.size, 0, none⟩ = some a ∧ w1.cell? ⟨w.heap.size, 1, none⟩ = some b ∧ w1.frozen? ⟨w.heap.size, 0, none⟩ = false ∧ w1.frozen? ⟨w.heap.size, 1, none⟩ = false ∧ w.heap.size < w1.heap.size := by
  have hb := hg.block w.heap.size (by simp) (by simp)
  have hz := hg.size
  have e : (w.alloc (.cells #[a, b] t)).heap[w.heap.size]? = some (.cells #[a, b] t) := heap_alloc_new _ _
  rw [e] at hb
  refine ⟨?_, ?_, ?_, ?_, by simp at hz; omega⟩ <;> simp [World.cell?, World.frozen?, hb]

set_option maxRecDepth 100000 in
set_option maxHeartbeats 400000 in
theorem new_yes (n o : Int) (w : World) (h0 : 16 ≤ n) (h1 : n ≤ 256) (h2 : 0 ≤ o) (h3 : o ≤ 1024) :
    Calls Try.prog 53 #[.int .i64 n, .int .i64 o] w fun e w' => ∃ p q, e = .returned (.tuple #[.pointer (some ⟨p, 0, none⟩), .agg #[.int .i64 0, .int .i64 0]]) ∧ At w' p q n.toNat o.toNat 0 0 (List.replicate (n.toNat + o.toNat) 0) ∧ w.heap.size ≤ p ∧ w.heap.size ≤ q ∧ Below w.heap.size w w' := by
  obtain ⟨n, rfl⟩ := Int.eq_ofNat_of_zero_le (show 0 ≤ n by omega)
  obtain ⟨o, rfl⟩ := Int.eq_ofNat_of_zero_le h2
  simp only [Int.toNat_natCast]
  obtain ⟨i0, hi, hz0, hz1, hz2⟩ := info_parts info64A
  go_enter Try.func53, Try.ntmps53
  go_wp2_with (at_make; refine wpList_make_full _ rfl _ _ 23 rfl w.heap.size 2 i0 (.int .i64 0) 1 Try.underlying23 hi hz0 hz1 .i64 .i64 _ _ (n + o) rfl rfl (by omega) (by omega) (by rw [hz2]; omega) (by unfold maxLen; omega) (by simp) ?_; intro w1 hown hgrow; obtain ⟨c0, c1, f0, f1, hz⟩ := after_make hgrow)
  have hr := made_row hown
  simp only [World.size_alloc] at hr
  have hlt := lt_of_some hr
  refine bodyPost_ret (v := .tuple #[.pointer (some ⟨w1.heap.size, 0, none⟩), .agg #[.int .i64 0, .int .i64 0]]) (by simp [results, Try.results53, go_sem, c0, c1, hz]) rfl ⟨w1.heap.size, w.heap.size + 1, rfl, ⟨?_, ?_, by simp, by omega, by omega, by omega, by omega, by omega⟩, by omega, by omega, ?_⟩
  · exact new_top _ (by simp [World.setCell])
  · refine (Below.heap_alloc _ _ _ (by simp [World.setCell]; omega)).trans ?_
    rw [Below.heap_setCell _ _ _ _ (by simp), Below.heap_setCell _ _ _ _ (by simp)]
    exact hr
  · refine Below.alloc (Below.setCell (Below.setCell ?_ ?_ _) ?_ _) ?_ _
    · exact ((Below.refl _ _).alloc (Nat.le_refl _) _).grown hgrow (by simp) (fun _ h => by cases h)
    · exact Nat.le_refl _
    · exact Nat.le_refl _
    · simp [World.setCell]; omega

set_option maxRecDepth 100000 in
set_option maxHeartbeats 400000 in
theorem new_no (n o : Int) (w : World) (h : n < 16 ∨ 256 < n ∨ o < 0 ∨ 1024 < o) :
    Calls Try.prog 53 #[.int .i64 n, .int .i64 o] w fun e w' => e = .returned (.tuple #[.pointer none, .agg #[.int .i64 1, .int .i64 (-1)]]) ∧ Below w.heap.size w w' := by
  by_cases h1 : n < 16
  · go_enter Try.func53, Try.ntmps53
    go_wp2_with fail
    exact bodyPost_ret (v := .tuple #[.pointer none, .agg #[.int .i64 1, .int .i64 (-1)]]) (by simp [results, Try.results53, go_sem]) rfl ⟨rfl, (Below.refl _ _).alloc (Nat.le_refl _) _⟩
  by_cases h2 : 256 < n
  · go_enter Try.func53, Try.ntmps53
    go_wp2_with fail
    exact bodyPost_ret (v := .tuple #[.pointer none, .agg #[.int .i64 1, .int .i64 (-1)]]) (by simp [results, Try.results53, go_sem]) rfl ⟨rfl, (Below.refl _ _).alloc (Nat.le_refl _) _⟩
  by_cases h3 : o < 0
  · go_enter Try.func53, Try.ntmps53
    go_wp2_with fail
    exact bodyPost_ret (v := .tuple #[.pointer none, .agg #[.int .i64 1, .int .i64 (-1)]]) (by simp [results, Try.results53, go_sem]) rfl ⟨rfl, (Below.refl _ _).alloc (Nat.le_refl _) _⟩
  have h4 : 1024 < o := by omega
  go_enter Try.func53, Try.ntmps53
  go_wp2_with fail
  exact bodyPost_ret (v := .tuple #[.pointer none, .agg #[.int .i64 1, .int .i64 (-1)]]) (by simp [results, Try.results53, go_sem]) rfl ⟨rfl, (Below.refl _ _).alloc (Nat.le_refl _) _⟩

end Go.Proofs.Ytglddgjljohkiab
