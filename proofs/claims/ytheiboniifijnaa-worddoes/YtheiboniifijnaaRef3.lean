/- What the document's answer ValOf returns at whatever word of 64 bits: a contract, over the seat's own translation; nothing that was in memory turns. -/
import Derived.Test.YtheiboniifijnaaRef
namespace Go.Proofs.Ytheiboniifijnaa
open Go.RowKit W

theorem ko0 : ko 0 = 1 := rfl
theorem ko1 : ko 1 = 3 := rfl
theorem ko2 : ko 2 = 0 := rfl
theorem ko3 : ko 3 = 2 := rfl

set_option maxHeartbeats 1000000 in
theorem valOf_yes0 (n : Int) (w : World) (hx1 : -9223372036854775808 ≤ 4 * n) (hx2 : 4 * n ≤ 9223372036854775807) (z : vc 1 n = 0) :
    Calls Try.prog 16 #[.int .i64 (4 * n)] w fun e w' => e = .returned (.tuple #[.agg #[.int .i64 1, .int .i64 n], .int .i64 0]) ∧ Below w.heap.size w w' := by
  have ha : bits .and .i64 (4 * n) 3 = 0 := by rw [and3]; omega
  have Z : Hid (vc 1 n = 0) := z
  clear z
  go_enter Try.func16, Try.ntmps16
  go_wp2_with fail
  refine (wordOf_any 1 n _).mono ?_
  rintro e w1 ⟨rfl, hb⟩
  rw [Z.out]
  obtain ⟨c0, c1, c2, c3, f0, f1, hz⟩ := cells4 hb
  go_wp2_with fail
  exact bodyPost_ret (v := .tuple #[.agg #[.int .i64 1, .int .i64 n], .int .i64 0]) (by simp [results, Try.results16, go_sem, c0, c1]) rfl ⟨rfl, (((((Below.refl _ _).alloc (Nat.le_refl _) _).alloc (by simp) _).trans (hb.mono (by simp; omega))).setCell (Nat.le_refl _) _).setCell (Nat.le_refl _) _⟩

set_option maxHeartbeats 1000000 in
theorem valOf_no0 (n : Int) (w : World) (hx1 : -9223372036854775808 ≤ 4 * n) (hx2 : 4 * n ≤ 9223372036854775807) (z : vc 1 n ≠ 0) :
    Calls Try.prog 16 #[.int .i64 (4 * n)] w fun e w' => e = .returned (.tuple #[.agg #[.int .i64 0, .int .i64 0], .int .i64 (vc 1 n)]) ∧ Below w.heap.size w w' := by
  have ha : bits .and .i64 (4 * n) 3 = 0 := by rw [and3]; omega
  have t1 : (vc 1 n != 0) = true := by simpa using z
  clear z
  go_enter Try.func16, Try.ntmps16
  go_wp2_with fail
  refine (wordOf_any 1 n _).mono ?_
  rintro e w1 ⟨rfl, hb⟩
  obtain ⟨c0, c1, c2, c3, f0, f1, hz⟩ := cells4 hb
  go_wp2_with fail
  exact bodyPost_ret (v := .tuple #[.agg #[.int .i64 0, .int .i64 0], .int .i64 (vc 1 n)]) (by simp [results, Try.results16, go_sem, c0, c1]) rfl ⟨rfl, (((((Below.refl _ _).alloc (Nat.le_refl _) _).alloc (by simp) _).trans (hb.mono (by simp; omega))).setCell (Nat.le_refl _) _).setCell (Nat.le_refl _) _⟩

theorem valOf_0 (n : Int) (w : World) (hx1 : -9223372036854775808 ≤ 4 * n) (hx2 : 4 * n ≤ 9223372036854775807) :
    Calls Try.prog 16 #[.int .i64 (4 * n)] w fun e w' => e = .returned (.tuple #[.agg #[.int .i64 (dk (4 * n)), .int .i64 (dn (4 * n))], .int .i64 (dc (4 * n))]) ∧ Below w.heap.size w w' := by
  have e1 : (4 * n) % 4 = 0 := by omega
  have e2 : (4 * n) / 4 = n := by omega
  have hd : dc (4 * n) = vc 1 n := by unfold dc; rw [e1, e2, ko0]
  by_cases z : vc 1 n = 0
  · have hk : dk (4 * n) = 1 := by unfold dk; rw [if_pos (hd.trans z), e1, ko0]
    have hn : dn (4 * n) = n := by unfold dn; rw [if_pos (hd.trans z), e2]
    rw [hk, hn, hd, z]
    exact valOf_yes0 n w hx1 hx2 z
  · have hk : dk (4 * n) = 0 := by unfold dk; rw [if_neg (fun g => z (hd.symm.trans g))]
    have hn : dn (4 * n) = 0 := by unfold dn; rw [if_neg (fun g => z (hd.symm.trans g))]
    rw [hk, hn, hd]
    exact valOf_no0 n w hx1 hx2 z

set_option maxHeartbeats 1000000 in
theorem valOf_yes1 (n : Int) (w : World) (hx1 : -9223372036854775808 ≤ 4 * n + 1) (hx2 : 4 * n + 1 ≤ 9223372036854775807) (z : vc 3 n = 0) :
    Calls Try.prog 16 #[.int .i64 (4 * n + 1)] w fun e w' => e = .returned (.tuple #[.agg #[.int .i64 3, .int .i64 n], .int .i64 0]) ∧ Below w.heap.size w w' := by
  have ha : bits .and .i64 (4 * n + 1) 3 = 1 := by rw [and3]; omega
  have Z : Hid (vc 3 n = 0) := z
  clear z
  go_enter Try.func16, Try.ntmps16
  go_wp2_with fail
  refine (wordOf_any 3 n _).mono ?_
  rintro e w1 ⟨rfl, hb⟩
  rw [Z.out]
  obtain ⟨c0, c1, c2, c3, f0, f1, hz⟩ := cells4 hb
  go_wp2_with fail
  exact bodyPost_ret (v := .tuple #[.agg #[.int .i64 3, .int .i64 n], .int .i64 0]) (by simp [results, Try.results16, go_sem, c0, c1]) rfl ⟨rfl, (((((Below.refl _ _).alloc (Nat.le_refl _) _).alloc (by simp) _).trans (hb.mono (by simp; omega))).setCell (Nat.le_refl _) _).setCell (Nat.le_refl _) _⟩

set_option maxHeartbeats 1000000 in
theorem valOf_no1 (n : Int) (w : World) (hx1 : -9223372036854775808 ≤ 4 * n + 1) (hx2 : 4 * n + 1 ≤ 9223372036854775807) (z : vc 3 n ≠ 0) :
    Calls Try.prog 16 #[.int .i64 (4 * n + 1)] w fun e w' => e = .returned (.tuple #[.agg #[.int .i64 0, .int .i64 0], .int .i64 (vc 3 n)]) ∧ Below w.heap.size w w' := by
  have ha : bits .and .i64 (4 * n + 1) 3 = 1 := by rw [and3]; omega
  have t1 : (vc 3 n != 0) = true := by simpa using z
  clear z
  go_enter Try.func16, Try.ntmps16
  go_wp2_with fail
  refine (wordOf_any 3 n _).mono ?_
  rintro e w1 ⟨rfl, hb⟩
  obtain ⟨c0, c1, c2, c3, f0, f1, hz⟩ := cells4 hb
  go_wp2_with fail
  exact bodyPost_ret (v := .tuple #[.agg #[.int .i64 0, .int .i64 0], .int .i64 (vc 3 n)]) (by simp [results, Try.results16, go_sem, c0, c1]) rfl ⟨rfl, (((((Below.refl _ _).alloc (Nat.le_refl _) _).alloc (by simp) _).trans (hb.mono (by simp; omega))).setCell (Nat.le_refl _) _).setCell (Nat.le_refl _) _⟩

theorem valOf_1 (n : Int) (w : World) (hx1 : -9223372036854775808 ≤ 4 * n + 1) (hx2 : 4 * n + 1 ≤ 9223372036854775807) :
    Calls Try.prog 16 #[.int .i64 (4 * n + 1)] w fun e w' => e = .returned (.tuple #[.agg #[.int .i64 (dk (4 * n + 1)), .int .i64 (dn (4 * n + 1))], .int .i64 (dc (4 * n + 1))]) ∧ Below w.heap.size w w' := by
  have e1 : (4 * n + 1) % 4 = 1 := by omega
  have e2 : (4 * n + 1) / 4 = n := by omega
  have hd : dc (4 * n + 1) = vc 3 n := by unfold dc; rw [e1, e2, ko1]
  by_cases z : vc 3 n = 0
  · have hk : dk (4 * n + 1) = 3 := by unfold dk; rw [if_pos (hd.trans z), e1, ko1]
    have hn : dn (4 * n + 1) = n := by unfold dn; rw [if_pos (hd.trans z), e2]
    rw [hk, hn, hd, z]
    exact valOf_yes1 n w hx1 hx2 z
  · have hk : dk (4 * n + 1) = 0 := by unfold dk; rw [if_neg (fun g => z (hd.symm.trans g))]
    have hn : dn (4 * n + 1) = 0 := by unfold dn; rw [if_neg (fun g => z (hd.symm.trans g))]
    rw [hk, hn, hd]
    exact valOf_no1 n w hx1 hx2 z

set_option maxHeartbeats 1000000 in
theorem valOf_yes2 (n : Int) (w : World) (hx1 : -9223372036854775808 ≤ 4 * n + 2) (hx2 : 4 * n + 2 ≤ 9223372036854775807) (z : vc 0 n = 0) :
    Calls Try.prog 16 #[.int .i64 (4 * n + 2)] w fun e w' => e = .returned (.tuple #[.agg #[.int .i64 0, .int .i64 n], .int .i64 0]) ∧ Below w.heap.size w w' := by
  have ha : bits .and .i64 (4 * n + 2) 3 = 2 := by rw [and3]; omega
  have Z : Hid (vc 0 n = 0) := z
  clear z
  go_enter Try.func16, Try.ntmps16
  go_wp2_with fail
  refine (wordOf_any 0 n _).mono ?_
  rintro e w1 ⟨rfl, hb⟩
  rw [Z.out]
  obtain ⟨c0, c1, c2, c3, f0, f1, hz⟩ := cells4 hb
  go_wp2_with fail
  exact bodyPost_ret (v := .tuple #[.agg #[.int .i64 0, .int .i64 n], .int .i64 0]) (by simp [results, Try.results16, go_sem, c0, c1]) rfl ⟨rfl, (((((Below.refl _ _).alloc (Nat.le_refl _) _).alloc (by simp) _).trans (hb.mono (by simp; omega))).setCell (Nat.le_refl _) _).setCell (Nat.le_refl _) _⟩

set_option maxHeartbeats 1000000 in
theorem valOf_no2 (n : Int) (w : World) (hx1 : -9223372036854775808 ≤ 4 * n + 2) (hx2 : 4 * n + 2 ≤ 9223372036854775807) (z : vc 0 n ≠ 0) :
    Calls Try.prog 16 #[.int .i64 (4 * n + 2)] w fun e w' => e = .returned (.tuple #[.agg #[.int .i64 0, .int .i64 0], .int .i64 (vc 0 n)]) ∧ Below w.heap.size w w' := by
  have ha : bits .and .i64 (4 * n + 2) 3 = 2 := by rw [and3]; omega
  have t1 : (vc 0 n != 0) = true := by simpa using z
  clear z
  go_enter Try.func16, Try.ntmps16
  go_wp2_with fail
  refine (wordOf_any 0 n _).mono ?_
  rintro e w1 ⟨rfl, hb⟩
  obtain ⟨c0, c1, c2, c3, f0, f1, hz⟩ := cells4 hb
  go_wp2_with fail
  exact bodyPost_ret (v := .tuple #[.agg #[.int .i64 0, .int .i64 0], .int .i64 (vc 0 n)]) (by simp [results, Try.results16, go_sem, c0, c1]) rfl ⟨rfl, (((((Below.refl _ _).alloc (Nat.le_refl _) _).alloc (by simp) _).trans (hb.mono (by simp; omega))).setCell (Nat.le_refl _) _).setCell (Nat.le_refl _) _⟩

theorem valOf_2 (n : Int) (w : World) (hx1 : -9223372036854775808 ≤ 4 * n + 2) (hx2 : 4 * n + 2 ≤ 9223372036854775807) :
    Calls Try.prog 16 #[.int .i64 (4 * n + 2)] w fun e w' => e = .returned (.tuple #[.agg #[.int .i64 (dk (4 * n + 2)), .int .i64 (dn (4 * n + 2))], .int .i64 (dc (4 * n + 2))]) ∧ Below w.heap.size w w' := by
  have e1 : (4 * n + 2) % 4 = 2 := by omega
  have e2 : (4 * n + 2) / 4 = n := by omega
  have hd : dc (4 * n + 2) = vc 0 n := by unfold dc; rw [e1, e2, ko2]
  by_cases z : vc 0 n = 0
  · have hk : dk (4 * n + 2) = 0 := by unfold dk; rw [if_pos (hd.trans z), e1, ko2]
    have hn : dn (4 * n + 2) = n := by unfold dn; rw [if_pos (hd.trans z), e2]
    rw [hk, hn, hd, z]
    exact valOf_yes2 n w hx1 hx2 z
  · have hk : dk (4 * n + 2) = 0 := by unfold dk; rw [if_neg (fun g => z (hd.symm.trans g))]
    have hn : dn (4 * n + 2) = 0 := by unfold dn; rw [if_neg (fun g => z (hd.symm.trans g))]
    rw [hk, hn, hd]
    exact valOf_no2 n w hx1 hx2 z

set_option maxHeartbeats 1000000 in
theorem valOf_yes3 (n : Int) (w : World) (hx1 : -9223372036854775808 ≤ 4 * n + 3) (hx2 : 4 * n + 3 ≤ 9223372036854775807) (z : vc 2 n = 0) :
    Calls Try.prog 16 #[.int .i64 (4 * n + 3)] w fun e w' => e = .returned (.tuple #[.agg #[.int .i64 2, .int .i64 n], .int .i64 0]) ∧ Below w.heap.size w w' := by
  have ha : bits .and .i64 (4 * n + 3) 3 = 3 := by rw [and3]; omega
  have Z : Hid (vc 2 n = 0) := z
  clear z
  go_enter Try.func16, Try.ntmps16
  go_wp2_with fail
  refine (wordOf_any 2 n _).mono ?_
  rintro e w1 ⟨rfl, hb⟩
  rw [Z.out]
  obtain ⟨c0, c1, c2, c3, f0, f1, hz⟩ := cells4 hb
  go_wp2_with fail
  exact bodyPost_ret (v := .tuple #[.agg #[.int .i64 2, .int .i64 n], .int .i64 0]) (by simp [results, Try.results16, go_sem, c0, c1]) rfl ⟨rfl, (((((Below.refl _ _).alloc (Nat.le_refl _) _).alloc (by simp) _).trans (hb.mono (by simp; omega))).setCell (Nat.le_refl _) _).setCell (Nat.le_refl _) _⟩

set_option maxHeartbeats 1000000 in
theorem valOf_no3 (n : Int) (w : World) (hx1 : -9223372036854775808 ≤ 4 * n + 3) (hx2 : 4 * n + 3 ≤ 9223372036854775807) (z : vc 2 n ≠ 0) :
    Calls Try.prog 16 #[.int .i64 (4 * n + 3)] w fun e w' => e = .returned (.tuple #[.agg #[.int .i64 0, .int .i64 0], .int .i64 (vc 2 n)]) ∧ Below w.heap.size w w' := by
  have ha : bits .and .i64 (4 * n + 3) 3 = 3 := by rw [and3]; omega
  have t1 : (vc 2 n != 0) = true := by simpa using z
  clear z
  go_enter Try.func16, Try.ntmps16
  go_wp2_with fail
  refine (wordOf_any 2 n _).mono ?_
  rintro e w1 ⟨rfl, hb⟩
  obtain ⟨c0, c1, c2, c3, f0, f1, hz⟩ := cells4 hb
  go_wp2_with fail
  exact bodyPost_ret (v := .tuple #[.agg #[.int .i64 0, .int .i64 0], .int .i64 (vc 2 n)]) (by simp [results, Try.results16, go_sem, c0, c1]) rfl ⟨rfl, (((((Below.refl _ _).alloc (Nat.le_refl _) _).alloc (by simp) _).trans (hb.mono (by simp; omega))).setCell (Nat.le_refl _) _).setCell (Nat.le_refl _) _⟩

theorem valOf_3 (n : Int) (w : World) (hx1 : -9223372036854775808 ≤ 4 * n + 3) (hx2 : 4 * n + 3 ≤ 9223372036854775807) :
    Calls Try.prog 16 #[.int .i64 (4 * n + 3)] w fun e w' => e = .returned (.tuple #[.agg #[.int .i64 (dk (4 * n + 3)), .int .i64 (dn (4 * n + 3))], .int .i64 (dc (4 * n + 3))]) ∧ Below w.heap.size w w' := by
  have e1 : (4 * n + 3) % 4 = 3 := by omega
  have e2 : (4 * n + 3) / 4 = n := by omega
  have hd : dc (4 * n + 3) = vc 2 n := by unfold dc; rw [e1, e2, ko3]
  by_cases z : vc 2 n = 0
  · have hk : dk (4 * n + 3) = 2 := by unfold dk; rw [if_pos (hd.trans z), e1, ko3]
    have hn : dn (4 * n + 3) = n := by unfold dn; rw [if_pos (hd.trans z), e2]
    rw [hk, hn, hd, z]
    exact valOf_yes3 n w hx1 hx2 z
  · have hk : dk (4 * n + 3) = 0 := by unfold dk; rw [if_neg (fun g => z (hd.symm.trans g))]
    have hn : dn (4 * n + 3) = 0 := by unfold dn; rw [if_neg (fun g => z (hd.symm.trans g))]
    rw [hk, hn, hd]
    exact valOf_no3 n w hx1 hx2 z

theorem valOf_any (x : Int) (w : World) (hx1 : -9223372036854775808 ≤ x) (hx2 : x ≤ 9223372036854775807) :
    Calls Try.prog 16 #[.int .i64 x] w fun e w' => e = .returned (.tuple #[.agg #[.int .i64 (dk x), .int .i64 (dn x)], .int .i64 (dc x)]) ∧ Below w.heap.size w w' := by
  have h : x % 4 = 0 ∨ x % 4 = 1 ∨ x % 4 = 2 ∨ x % 4 = 3 := by omega
  rcases h with h | h | h | h
  · obtain ⟨n, rfl⟩ : ∃ n, x = 4 * n := ⟨x / 4, by omega⟩
    exact valOf_0 n w hx1 hx2
  · obtain ⟨n, rfl⟩ : ∃ n, x = 4 * n + 1 := ⟨x / 4, by omega⟩
    exact valOf_1 n w hx1 hx2
  · obtain ⟨n, rfl⟩ : ∃ n, x = 4 * n + 2 := ⟨x / 4, by omega⟩
    exact valOf_2 n w hx1 hx2
  · obtain ⟨n, rfl⟩ : ∃ n, x = 4 * n + 3 := ⟨x / 4, by omega⟩
    exact valOf_3 n w hx1 hx2

end Go.Proofs.Ytheiboniifijnaa
