/- The statements' own first look at words (wordBegun) answers true, in whatever memory; nothing that was there turns. -/
import Derived.Test.YtheiboniifijnaaWords2
namespace Go.Proofs.Ytheiboniifijnaa
open Go.RowKit W

theorem b1 : ew 1 (-5) = -20 := by decide +kernel
theorem b2 : vc 1 (-5) = 0 := by decide +kernel
theorem b3 : dk (-20) = 1 := by decide +kernel
theorem b4 : dn (-20) = -5 := by decide +kernel
theorem b5 : dc (-20) = 0 := by decide +kernel
theorem b6 : hw 2 3 = 50 := by decide +kernel
theorem b7 : hc 2 3 = 0 := by decide +kernel
theorem b8 : ew 3 7 = 29 := by decide +kernel

set_option maxHeartbeats 400000 in
theorem begun_any (w : World) :
    Calls Try.prog 12 #[] w fun e w' => e = .returned (.bool true) ∧ Below w.heap.size w w' := by
  go_enter Try.func12, Try.ntmps12
  go_wp2_with fail
  refine (encode_any 1 (-5) _).mono ?_
  rintro e w1 ⟨rfl, hb1⟩
  rw [b1, b2]
  go_wp2_with fail
  refine (decode_any (-20) _).mono ?_
  rintro e w2 ⟨rfl, hb2⟩
  rw [b3, b4, b5]
  go_wp2_with fail
  refine (head_any 2 3 _).mono ?_
  rintro e w3 ⟨rfl, rfl⟩
  rw [b6, b7]
  go_wp2_with fail
  refine (ref_any 7 _).mono ?_
  rintro e w4 ⟨rfl, hb4⟩
  rw [b8]
  go_wp2_with fail
  refine (gone_any _).mono ?_
  rintro e w5 ⟨rfl, rfl⟩
  go_wp2_with fail
  go_ret
  have s1 := hb1.size
  have s2 := hb2.size
  exact ⟨rfl, ((hb1.trans (hb2.mono s1)).alloc (by omega) _).trans (hb4.mono (by simp; omega))⟩

end Go.Proofs.Ytheiboniifijnaa
