/- WoodDoes: codes of fields. -/
import Derived.Test.YtglddgjljohkiabWd1
namespace Go.Proofs.Ytglddgjljohkiab.WDo
open Go.RowKit W Kp Stl

section
variable {N O y g : Nat} {ws Y G rs : List Int} {x i z c : Int} {M : List Int}
theorem fc_no (h : fcC N y g ws x i ≠ 0) : stW N y g ws x i z = ws ∧ stM N y g ws x i z c M = M :=
  ⟨by unfold stW; rw [if_neg h], by unfold stM stB; rw [decide_eq_false h]; rfl⟩
theorem fc_n (h : tB N y g ws x = false) : fcC N y g ws x i = 2 := by unfold fcC; rw [h, if_neg (by simp)]
theorem fc_5 (h : tB N y g ws x = true) (h5 : pk (ld N y g ws (aV x)) = 5) : fcC N y g ws x i = 2 := by unfold fcC; rw [if_pos h, if_pos h5]
theorem fc_r (h : tB N y g ws x = true) (h5 : pk (ld N y g ws (aV x)) ≠ 5) (hs : stN N y g (aV x) (pf (ld N y g ws (aV x))) = pf (ld N y g ws (aV x))) (hi : i < 0 ∨ pf (ld N y g ws (aV x)) ≤ i) : fcC N y g ws x i = 1 := by unfold fcC; rw [if_pos h, if_neg h5, hs, if_pos hi]
theorem fc_0 (h : tB N y g ws x = true) (h5 : pk (ld N y g ws (aV x)) ≠ 5) (hs : stN N y g (aV x) (pf (ld N y g ws (aV x))) = pf (ld N y g ws (aV x))) (i0 : 0 ≤ i) (i1 : i < pf (ld N y g ws (aV x))) : fcC N y g ws x i = 0 := by unfold fcC; rw [if_pos h, if_neg h5, hs, if_neg (by omega)]
end


end Go.Proofs.Ytglddgjljohkiab.WDo
