/- SameVals, SameView of what is the same: contracts. -/
import Derived.Test.YtakofbkmhmcnfabGreatJ23
import Derived.Test.YtakofbkmhmcnfabGreatJ03
namespace Go.Proofs.YtakofbkmhmcnfabGreat
open Go.RowKit W Kp Stl

set_option maxRecDepth 100000 in
set_option maxHeartbeats 1000000 in
theorem sameVals_eq (a b : Option Addr) (ca cb : Nat) (l : List (Int × Int)) (w : World) (hm : l.length ≤ 100000) (ha : Lp w a l) (hb : Lp w b l) :
    Calls Tryz.prog 75 #[.slice a l.length ca, .slice b l.length cb] w fun e w' => e = .returned (.bool true) ∧ Below w.heap.size w w' := by
  have HA : Hid (Lp w a l) := ha
  have HB : Hid (Lp w b l) := hb
  clear ha hb
  go_enter Tryz.func75, Tryz.ntmps75
  go_wp2_with fail
  go_loopw [5] (fun iv wr => ∃ j : Nat, j ≤ l.length ∧ iv = .int .i64 j ∧ Below w.heap.size w wr) (fun iv _ => l.length - (intOf iv).toNat)
  case atStart => exact ⟨0, Nat.zero_le _, rfl, Below.refl _ _⟩
  case round =>
    obtain ⟨j, hj, rfl, hb⟩ := hrel
    by_cases hlt : j < l.length
    · obtain ⟨b0, o0, e0, hb0, hc⟩ := (HA.out.below hb) (by omega)
      obtain ⟨x1, x2⟩ := hc j hlt
      subst e0
      obtain ⟨b2, o2, e2, hb2, hc2⟩ := (HB.out.below hb) (by omega)
      obtain ⟨x3, x4⟩ := hc2 j hlt
      subst e2
      clear hc hc2
      generalize (l.getD j (0, 0)).1 = u at x1 x3
      generalize (l.getD j (0, 0)).2 = v at x2 x4
      have j0 : (0 : Int) ≤ (j : Int) := by omega
      have j1 : (j : Int) < (l.length : Int) := by omega
      go_wp2_with fail
      go_quiet (fail)
      go_wp2_with fail
      go_roundw
      case rel => exact ⟨j + 1, by omega, by go_num, by first | exact below_drewN hb _ | exact hb.drew | exact hb⟩
      case measure => simp [intOf]; omega
    · obtain rfl : j = l.length := by omega
      go_wp2_with fail
      go_ret
      exact ⟨rfl, hb⟩

end Go.Proofs.YtakofbkmhmcnfabGreat
