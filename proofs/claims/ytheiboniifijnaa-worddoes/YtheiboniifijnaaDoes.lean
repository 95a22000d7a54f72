/- WordDoes' walk: it returns true at whatever value, word of 64 bits, kind, number of fields and place, in whatever memory, and nothing that was there turns. -/
import Derived.Test.YtheiboniifijnaaBegun
import Derived.Test.YtheiboniifijnaaRef2
import Derived.Test.YtheiboniifijnaaRef3
import Derived.OpenShut
namespace Go.Proofs.Ytheiboniifijnaa.Does
open Go.ChangeShapes Go.RowKit W

/-- What At tells of a word that is a value. -/
theorem tests (x : Int) : (dc x == 0) = false ∨ ((dc x == 0) = true ∧ aB x = false ∧ (dk x == 3) = false ∧ (aV x != 0) = false) ∨ ((dc x == 0) = true ∧ aB x = true ∧ (dk x == 3) = true ∧ (aV x != dn x) = false) := by
  by_cases h : dc x = 0
  · right
    by_cases h3 : dk x = 3
    · right
      have hb : aB x = true := by unfold aB; rw [h, h3]; rfl
      exact ⟨by simpa using h, hb, by simpa using h3, by rw [aV_yes x hb]; simp⟩
    · left
      have hb : aB x = false := by unfold aB; rw [beq_eq_false_iff_ne.2 h3]; simp
      exact ⟨by simpa using h, hb, by simpa using h3, by rw [aV_no x hb]; rfl⟩
  · left; simpa using h

theorem at_ref (n : Int) (p : 0 ≤ n) (q : n < 1152921504606846976) : aB (ew 3 n) = true ∧ aV (ew 3 n) = n := by
  obtain ⟨a, b⟩ := at_enc 3 n (vc3_in n p q)
  exact ⟨a, b rfl⟩

set_option maxHeartbeats 1000000 in
set_option maxRecDepth 100000 in
theorem walk0 (k n x kind f at0 : Int) (w : World) (hx1 : -9223372036854775808 ≤ x) (hx2 : x ≤ 9223372036854775807) :
    Calls Try.prog 3 #[.agg #[.int .i64 k, .int .i64 n], .int .i64 x, .int .i64 kind, .int .i64 f, .int .i64 at0] w fun e w' => e = .returned (.bool true) ∧ Below w.heap.size w w' := by
  have X : Hid (-9223372036854775808 ≤ x ∧ x ≤ 9223372036854775807) := ⟨hx1, hx2⟩
  clear hx1 hx2
  go_enter Try.func3, Try.ntmps3
  go_wp2_with fail
  refine (begun_any _).mono ?_
  rintro e w1 ⟨rfl, hb1⟩
  obtain ⟨c0, c1, z1⟩ := cells2 hb1
  have B1 : Below w.heap.size w w1 := ((Below.refl _ _).alloc (Nat.le_refl _) _).trans (hb1.mono (by simp))
  clear hb1
  go_wp2_with fail
  refine (encode_any k n _).mono ?_
  rintro e w2 ⟨rfl, hb2⟩
  have d0 := cell_later hb2 c0
  have d1 := cell_later hb2 c1
  have z2 := hb2.size
  have B2 : Below w.heap.size w w2 := B1.trans (hb2.mono (by omega))
  clear c0 c1 B1 hb2
  go_wp2_with fail
  refine (wordOf_any k n _).mono ?_
  rintro e w3 ⟨rfl, hb3⟩
  have z3 := hb3.size
  have B3 : Below w.heap.size w w3 := B2.trans (hb3.mono (by omega))
  clear d0 d1 B2 hb3
  go_wp2_with fail
  refine (decode_any x _).mono ?_
  rintro e w4 ⟨rfl, hb4⟩
  have z4 := hb4.size
  have B4 : Below w.heap.size w w4 := B3.trans (hb4.mono (by omega))
  clear B3 hb4
  go_wp2_with fail
  refine (valOf_any x _ X.out.1 X.out.2).mono ?_
  rintro e w5 ⟨rfl, hb5⟩
  obtain ⟨c0, c1, z5⟩ := cells2 hb5
  have B5 : Below w.heap.size w w5 := (B4.alloc (by omega) _).trans (hb5.mono (by simp; omega))
  have y5 : w4.heap.size < w5.heap.size := by omega
  clear B4 hb5
  go_wp2_with fail
  refine (head_any kind f _).mono ?_
  rintro e w6 ⟨rfl, rfl⟩
  go_wp2_with fail
  refine (headOf_any kind f _).mono ?_
  rintro e w6 ⟨rfl, rfl⟩
  go_wp2_with fail
  refine (parts_any x _).mono ?_
  rintro e w6 ⟨rfl, rfl⟩
  go_wp2_with fail
  refine (partsOf_any x _).mono ?_
  rintro e w6 ⟨rfl, rfl⟩
  go_wp2_with fail
  refine (nil_any _).mono ?_
  rintro e w6 ⟨rfl, rfl⟩
  go_wp2_with fail
  refine (gone_any _).mono ?_
  rintro e w6 ⟨rfl, rfl⟩
  go_wp2_with fail
  refine (at_any x _).mono ?_
  rintro e w7 ⟨rfl, hb7⟩
  have d0 : (w5.alloc (.cells #[.int .i64 (dk x), .int .i64 (dn x)] 23)).cell? ⟨w4.heap.size, 0, none⟩ = some (.int .i64 (dk x)) := by simp [go_sem, c0, y5]
  have d1 : (w5.alloc (.cells #[.int .i64 (dk x), .int .i64 (dn x)] 23)).cell? ⟨w4.heap.size, 1, none⟩ = some (.int .i64 (dn x)) := by simp [go_sem, c1, y5]
  have e0 := cell_later hb7 d0
  have e1 := cell_later hb7 d1
  have B7 : Below w.heap.size w w7 := (B5.alloc (by omega) _).trans (hb7.mono (by simp; omega))
  have z7 := B7.size
  clear c0 c1 d0 d1 B5 hb7 y5 z1 z2 z3 z4 z5
  rcases tests x with t | ⟨t, ta, tk, tv⟩ | ⟨t, ta, tk, tv⟩
  all_goals
    by_cases p : at0 < 0
    · go_wp2_with fail
      go_ret
      exact ⟨rfl, B7⟩
    · by_cases q : 1152921504606846976 ≤ at0
      · go_wp2_with fail
        go_ret
        exact ⟨rfl, B7⟩
      · obtain ⟨A1, A2⟩ : Hid (aB (ew 3 at0) = true) ∧ Hid (aV (ew 3 at0) = at0) := at_ref at0 (by omega) (by omega)
        go_wp2_with fail
        refine (ref_any at0 _).mono ?_
        rintro e w8 ⟨rfl, hb8⟩
        go_wp2_with fail
        refine (at_any (ew 3 at0) _).mono ?_
        rintro e w9 ⟨rfl, hb9⟩
        rw [A1.out, A2.out]
        have z8 := hb8.size
        go_wp2_with fail
        go_ret
        exact ⟨rfl, (B7.trans (hb8.mono z7)).trans (hb9.mono (by omega))⟩

theorem walk (k n x kind f at0 : Int) (wx : (Lit.int .i64 x).wf = true) (w : World) :
    Calls Try.prog 3 #[.agg #[.int .i64 k, .int .i64 n], .int .i64 x, .int .i64 kind, .int .i64 f, .int .i64 at0] w fun e w' => e = .returned (.bool true) ∧ Below w.heap.size w w' := by
  have b := bounds_i64 wx
  exact walk0 k n x kind f at0 w (by omega) (by omega)

end Go.Proofs.Ytheiboniifijnaa.Does
