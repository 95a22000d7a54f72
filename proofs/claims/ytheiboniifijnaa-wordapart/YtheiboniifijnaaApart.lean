/- WordApart returns true at whatever value, kind, number of fields and place, in whatever memory, and leaves what it was given as it was: no condition. -/
import Derived.Test.YtheiboniifijnaaRows
import Derived.Test.YtheiboniifijnaaBegun
import Derived.ProofKit
import Derived.OpenShut
import Derived.Lib.SmallJoins
namespace Go.Proofs.Ytheiboniifijnaa.Apart
open Go.ChangeShapes Go.WideShapes Go.ChangeAt Go.RowKit Go.Joins W

/-- The first test says no, whatever the value. -/
theorem tests (k n : Int) : (vc k n == 0) = false ∨ ((vc k n == 0) = true ∧ aB (ew k n) = false ∧ (k == 3) = false) ∨ ((vc k n == 0) = true ∧ aB (ew k n) = true ∧ k = 3 ∧ (aV (ew k n) != n) = false) := by
  by_cases h : vc k n = 0
  · right
    obtain ⟨a1, a2⟩ := at_enc k n h
    by_cases h3 : k = 3
    · right; exact ⟨by simpa using h, by rw [a1, h3]; rfl, h3, by rw [a2 h3]; simp⟩
    · left; exact ⟨by simpa using h, by rw [a1]; simpa using h3, by simpa using h3⟩
  · left; simpa using h

set_option maxHeartbeats 1000000 in
theorem walk_lo_yes (k n kind f at0 : Int) (w : World) (p : at0 < 0) (h : hc kind f = 0) :
    Calls Try.prog 5 #[.agg #[.int .i64 k, .int .i64 n], .int .i64 kind, .int .i64 f, .int .i64 at0] w fun e w' => e = .returned (.bool true) ∧ Below w.heap.size w w' := by
  obtain ⟨g1, g2, g3, g4⟩ := hc_bd kind f h
  have l15 : bits .and .i64 (16 * f + kind) 15 = kind := head_low kind f h
  have H1 : Hid (hw kind f = 16 * f + kind) := hw_yes kind f h
  have H2 : Hid (hc kind f = 0) := h
  clear h
  go_enter Try.func5, Try.ntmps5
  go_wp2_with fail
  refine (begun_any _).mono ?_
  rintro e w1 ⟨rfl, hb1⟩
  obtain ⟨c0, c1, z1⟩ := cells2 hb1
  go_wp2_with fail
  refine (encode_any k n _).mono ?_
  rintro e w2 ⟨rfl, hb2⟩
  have d0 := cell_later hb2 c0
  have d1 := cell_later hb2 c1
  have z2 := hb2.size
  clear c0 c1
  go_wp2_with fail
  refine (at_any (ew k n) _).mono ?_
  rintro e w3 ⟨rfl, hb3⟩
  have e0 := cell_later hb3 d0
  have e1 := cell_later hb3 d1
  have z3 := hb3.size
  have B3 : Below w.heap.size w w3 := ((((Below.refl _ _).alloc (Nat.le_refl _) _).trans (hb1.mono (by simp))).trans (hb2.mono (by omega))).trans (hb3.mono (by omega))
  clear d0 d1 hb1 hb2 hb3
  rcases tests k n with t | ⟨t, ta, tk⟩ | ⟨t, ta, rfl, tv⟩
  all_goals
    go_wp2_with fail
    refine (head_any kind f _).mono ?_
    rintro e w6 ⟨rfl, rfl⟩
    rw [H1.out, H2.out]
    go_wp2_with (first | (go_at_call 21; refine (nil_any _).mono ?_; rintro e w' ⟨rfl, rfl⟩) | (go_at_call 22; refine (gone_any _).mono ?_; rintro e w' ⟨rfl, rfl⟩))
    go_ret
    exact ⟨rfl, B3⟩

set_option maxHeartbeats 1000000 in
theorem walk_lo_no (k n kind f at0 : Int) (w : World) (p : at0 < 0) (h : hc kind f ≠ 0) :
    Calls Try.prog 5 #[.agg #[.int .i64 k, .int .i64 n], .int .i64 kind, .int .i64 f, .int .i64 at0] w fun e w' => e = .returned (.bool true) ∧ Below w.heap.size w w' := by
  have H1 : Hid (hw kind f = 0) := hw_no kind f h
  have t0 : (hc kind f != 0) = true := by simpa using h
  clear h
  go_enter Try.func5, Try.ntmps5
  go_wp2_with fail
  refine (begun_any _).mono ?_
  rintro e w1 ⟨rfl, hb1⟩
  obtain ⟨c0, c1, z1⟩ := cells2 hb1
  go_wp2_with fail
  refine (encode_any k n _).mono ?_
  rintro e w2 ⟨rfl, hb2⟩
  have d0 := cell_later hb2 c0
  have d1 := cell_later hb2 c1
  have z2 := hb2.size
  clear c0 c1
  go_wp2_with fail
  refine (at_any (ew k n) _).mono ?_
  rintro e w3 ⟨rfl, hb3⟩
  have e0 := cell_later hb3 d0
  have e1 := cell_later hb3 d1
  have z3 := hb3.size
  have B3 : Below w.heap.size w w3 := ((((Below.refl _ _).alloc (Nat.le_refl _) _).trans (hb1.mono (by simp))).trans (hb2.mono (by omega))).trans (hb3.mono (by omega))
  clear d0 d1 hb1 hb2 hb3
  rcases tests k n with t | ⟨t, ta, tk⟩ | ⟨t, ta, rfl, tv⟩
  all_goals
    go_wp2_with fail
    refine (head_any kind f _).mono ?_
    rintro e w6 ⟨rfl, rfl⟩
    rw [H1.out]
    go_wp2_with fail
    go_ret
    exact ⟨rfl, B3⟩

set_option maxHeartbeats 1000000 in
theorem walk_hi_yes (k n kind f at0 : Int) (w : World) (p : 1152921504606846976 ≤ at0) (h : hc kind f = 0) :
    Calls Try.prog 5 #[.agg #[.int .i64 k, .int .i64 n], .int .i64 kind, .int .i64 f, .int .i64 at0] w fun e w' => e = .returned (.bool true) ∧ Below w.heap.size w w' := by
  obtain ⟨g1, g2, g3, g4⟩ := hc_bd kind f h
  have l15 : bits .and .i64 (16 * f + kind) 15 = kind := head_low kind f h
  have H1 : Hid (hw kind f = 16 * f + kind) := hw_yes kind f h
  have H2 : Hid (hc kind f = 0) := h
  clear h
  go_enter Try.func5, Try.ntmps5
  go_wp2_with fail
  refine (begun_any _).mono ?_
  rintro e w1 ⟨rfl, hb1⟩
  obtain ⟨c0, c1, z1⟩ := cells2 hb1
  go_wp2_with fail
  refine (encode_any k n _).mono ?_
  rintro e w2 ⟨rfl, hb2⟩
  have d0 := cell_later hb2 c0
  have d1 := cell_later hb2 c1
  have z2 := hb2.size
  clear c0 c1
  go_wp2_with fail
  refine (at_any (ew k n) _).mono ?_
  rintro e w3 ⟨rfl, hb3⟩
  have e0 := cell_later hb3 d0
  have e1 := cell_later hb3 d1
  have z3 := hb3.size
  have B3 : Below w.heap.size w w3 := ((((Below.refl _ _).alloc (Nat.le_refl _) _).trans (hb1.mono (by simp))).trans (hb2.mono (by omega))).trans (hb3.mono (by omega))
  clear d0 d1 hb1 hb2 hb3
  rcases tests k n with t | ⟨t, ta, tk⟩ | ⟨t, ta, rfl, tv⟩
  all_goals
    go_wp2_with fail
    refine (head_any kind f _).mono ?_
    rintro e w6 ⟨rfl, rfl⟩
    rw [H1.out, H2.out]
    go_wp2_with (first | (go_at_call 21; refine (nil_any _).mono ?_; rintro e w' ⟨rfl, rfl⟩) | (go_at_call 22; refine (gone_any _).mono ?_; rintro e w' ⟨rfl, rfl⟩))
    go_ret
    exact ⟨rfl, B3⟩

set_option maxHeartbeats 1000000 in
theorem walk_hi_no (k n kind f at0 : Int) (w : World) (p : 1152921504606846976 ≤ at0) (h : hc kind f ≠ 0) :
    Calls Try.prog 5 #[.agg #[.int .i64 k, .int .i64 n], .int .i64 kind, .int .i64 f, .int .i64 at0] w fun e w' => e = .returned (.bool true) ∧ Below w.heap.size w w' := by
  have H1 : Hid (hw kind f = 0) := hw_no kind f h
  have t0 : (hc kind f != 0) = true := by simpa using h
  clear h
  go_enter Try.func5, Try.ntmps5
  go_wp2_with fail
  refine (begun_any _).mono ?_
  rintro e w1 ⟨rfl, hb1⟩
  obtain ⟨c0, c1, z1⟩ := cells2 hb1
  go_wp2_with fail
  refine (encode_any k n _).mono ?_
  rintro e w2 ⟨rfl, hb2⟩
  have d0 := cell_later hb2 c0
  have d1 := cell_later hb2 c1
  have z2 := hb2.size
  clear c0 c1
  go_wp2_with fail
  refine (at_any (ew k n) _).mono ?_
  rintro e w3 ⟨rfl, hb3⟩
  have e0 := cell_later hb3 d0
  have e1 := cell_later hb3 d1
  have z3 := hb3.size
  have B3 : Below w.heap.size w w3 := ((((Below.refl _ _).alloc (Nat.le_refl _) _).trans (hb1.mono (by simp))).trans (hb2.mono (by omega))).trans (hb3.mono (by omega))
  clear d0 d1 hb1 hb2 hb3
  rcases tests k n with t | ⟨t, ta, tk⟩ | ⟨t, ta, rfl, tv⟩
  all_goals
    go_wp2_with fail
    refine (head_any kind f _).mono ?_
    rintro e w6 ⟨rfl, rfl⟩
    rw [H1.out]
    go_wp2_with fail
    go_ret
    exact ⟨rfl, B3⟩

set_option maxHeartbeats 1000000 in
theorem walk_in_yes (k n kind f at0 : Int) (w : World) (p : 0 ≤ at0) (q : at0 < 1152921504606846976) (h : hc kind f = 0) :
    Calls Try.prog 5 #[.agg #[.int .i64 k, .int .i64 n], .int .i64 kind, .int .i64 f, .int .i64 at0] w fun e w' => e = .returned (.bool true) ∧ Below w.heap.size w w' := by
  obtain ⟨D1, D2, D3⟩ : Hid (dk (ew 3 at0) = 3) ∧ Hid (dn (ew 3 at0) = at0) ∧ Hid (dc (ew 3 at0) = 0) := by
    obtain ⟨d1, d2, d3⟩ := dec_enc 3 at0 (vc3_in at0 p q)
    exact ⟨d2, d3, d1⟩
  obtain ⟨g1, g2, g3, g4⟩ := hc_bd kind f h
  have l15 : bits .and .i64 (16 * f + kind) 15 = kind := head_low kind f h
  have H1 : Hid (hw kind f = 16 * f + kind) := hw_yes kind f h
  have H2 : Hid (hc kind f = 0) := h
  clear h
  go_enter Try.func5, Try.ntmps5
  go_wp2_with fail
  refine (begun_any _).mono ?_
  rintro e w1 ⟨rfl, hb1⟩
  obtain ⟨c0, c1, z1⟩ := cells2 hb1
  go_wp2_with fail
  refine (encode_any k n _).mono ?_
  rintro e w2 ⟨rfl, hb2⟩
  have d0 := cell_later hb2 c0
  have d1 := cell_later hb2 c1
  have z2 := hb2.size
  clear c0 c1
  go_wp2_with fail
  refine (at_any (ew k n) _).mono ?_
  rintro e w3 ⟨rfl, hb3⟩
  have e0 := cell_later hb3 d0
  have e1 := cell_later hb3 d1
  have z3 := hb3.size
  have B3 : Below w.heap.size w w3 := ((((Below.refl _ _).alloc (Nat.le_refl _) _).trans (hb1.mono (by simp))).trans (hb2.mono (by omega))).trans (hb3.mono (by omega))
  clear d0 d1 hb1 hb2 hb3
  rcases tests k n with t | ⟨t, ta, tk⟩ | ⟨t, ta, rfl, tv⟩
  all_goals
    go_wp2_with fail
    refine (ref_any at0 _).mono ?_
    rintro e w4 ⟨rfl, hb4⟩
    go_wp2_with fail
    refine (decode_any (ew 3 at0) _).mono ?_
    rintro e w5 ⟨rfl, hb5⟩
    have z4 := hb4.size
    have z5 := hb5.size
    have B5 : Below w.heap.size w w5 := (B3.trans (hb4.mono (by omega))).trans (hb5.mono (by omega))
    clear hb4 hb5 B3
    rw [D1.out, D2.out, D3.out]
    go_wp2_with fail
    refine (head_any kind f _).mono ?_
    rintro e w6 ⟨rfl, rfl⟩
    rw [H1.out, H2.out]
    go_wp2_with (first | (go_at_call 21; refine (nil_any _).mono ?_; rintro e w' ⟨rfl, rfl⟩) | (go_at_call 22; refine (gone_any _).mono ?_; rintro e w' ⟨rfl, rfl⟩))
    go_ret
    exact ⟨rfl, B5.alloc (by omega) _⟩

set_option maxHeartbeats 1000000 in
theorem walk_in_no (k n kind f at0 : Int) (w : World) (p : 0 ≤ at0) (q : at0 < 1152921504606846976) (h : hc kind f ≠ 0) :
    Calls Try.prog 5 #[.agg #[.int .i64 k, .int .i64 n], .int .i64 kind, .int .i64 f, .int .i64 at0] w fun e w' => e = .returned (.bool true) ∧ Below w.heap.size w w' := by
  obtain ⟨D1, D2, D3⟩ : Hid (dk (ew 3 at0) = 3) ∧ Hid (dn (ew 3 at0) = at0) ∧ Hid (dc (ew 3 at0) = 0) := by
    obtain ⟨d1, d2, d3⟩ := dec_enc 3 at0 (vc3_in at0 p q)
    exact ⟨d2, d3, d1⟩
  have H1 : Hid (hw kind f = 0) := hw_no kind f h
  have t0 : (hc kind f != 0) = true := by simpa using h
  clear h
  go_enter Try.func5, Try.ntmps5
  go_wp2_with fail
  refine (begun_any _).mono ?_
  rintro e w1 ⟨rfl, hb1⟩
  obtain ⟨c0, c1, z1⟩ := cells2 hb1
  go_wp2_with fail
  refine (encode_any k n _).mono ?_
  rintro e w2 ⟨rfl, hb2⟩
  have d0 := cell_later hb2 c0
  have d1 := cell_later hb2 c1
  have z2 := hb2.size
  clear c0 c1
  go_wp2_with fail
  refine (at_any (ew k n) _).mono ?_
  rintro e w3 ⟨rfl, hb3⟩
  have e0 := cell_later hb3 d0
  have e1 := cell_later hb3 d1
  have z3 := hb3.size
  have B3 : Below w.heap.size w w3 := ((((Below.refl _ _).alloc (Nat.le_refl _) _).trans (hb1.mono (by simp))).trans (hb2.mono (by omega))).trans (hb3.mono (by omega))
  clear d0 d1 hb1 hb2 hb3
  rcases tests k n with t | ⟨t, ta, tk⟩ | ⟨t, ta, rfl, tv⟩
  all_goals
    go_wp2_with fail
    refine (ref_any at0 _).mono ?_
    rintro e w4 ⟨rfl, hb4⟩
    go_wp2_with fail
    refine (decode_any (ew 3 at0) _).mono ?_
    rintro e w5 ⟨rfl, hb5⟩
    have z4 := hb4.size
    have z5 := hb5.size
    have B5 : Below w.heap.size w w5 := (B3.trans (hb4.mono (by omega))).trans (hb5.mono (by omega))
    clear hb4 hb5 B3
    rw [D1.out, D2.out, D3.out]
    go_wp2_with fail
    refine (head_any kind f _).mono ?_
    rintro e w6 ⟨rfl, rfl⟩
    rw [H1.out]
    go_wp2_with fail
    go_ret
    exact ⟨rfl, B5.alloc (by omega) _⟩

theorem walk (k n kind f at0 : Int) (w : World) :
    Calls Try.prog 5 #[.agg #[.int .i64 k, .int .i64 n], .int .i64 kind, .int .i64 f, .int .i64 at0] w fun e w' => e = .returned (.bool true) ∧ Below w.heap.size w w' := by
  by_cases p : at0 < 0
  · by_cases h : hc kind f = 0
    · exact walk_lo_yes k n kind f at0 w p h
    · exact walk_lo_no k n kind f at0 w p h
  · by_cases q : 1152921504606846976 ≤ at0
    · by_cases h : hc kind f = 0
      · exact walk_hi_yes k n kind f at0 w q h
      · exact walk_hi_no k n kind f at0 w q h
    · by_cases h : hc kind f = 0
      · exact walk_in_yes k n kind f at0 w (by omega) (by omega) h
      · exact walk_in_no k n kind f at0 w (by omega) (by omega) h

end Go.Proofs.Ytheiboniifijnaa.Apart
