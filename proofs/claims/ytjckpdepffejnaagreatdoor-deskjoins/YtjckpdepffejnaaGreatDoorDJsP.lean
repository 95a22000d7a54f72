/- WHAT LINES TELL ONE BEHIND THE OTHER THEY TELL TOGETHER: whatever the lines, wherever they are cut; what was asked again is told again; two desks know nothing of each other; without condition; the listed variables tied to the program's text. -/
import Derived.Test.YtjckpdepffejnaaGreatDoorJ26
import Derived.Test.YtjckpdepffejnaaGreatDoorCards
import Derived.Test.YtjckpdepffejnaaGreatDoorTie
namespace Go.Proofs.YtjckpdepffejnaaGreatDoor.DJs
open Go.ChangeShapes Go.WideShapes Go.ChangeAt Go.RowKit Go.Joins W
theorem OG : Rows.deskJoinsRow.holds Tryz.pinned (OpenSpec.ofChange Rows.deskJoinsSpec) :=
  OpenClaim.holds_of_wide 4 Tryz.f4 rfl rfl rfl rfl rfl rfl rfl ⟨rfl, rfl, rfl, rfl, rfl⟩ rfl rfl rfl rfl rfl OF Tryz.func4 facts
    inst wrap (fun os started H enc _ => lifted os started H enc)
/-- THE STATEMENT. -/
theorem proved : Rows.DeskJoinsCardSaid :=
  Claim7.holds_tied_plain_at .later [] [.data, .data, .data, .data, .sentinel, .sentinel, .data, .pinned] true Rows.deskJoinsCard.stood.harness true
    OG (fun _ h => by cases h) (by kernel_rfl) (fun _ h => by cases h) deskJoins_row_tie rfl ⟨rfl, rfl⟩ (by kernel_rfl) rfl
    (fun f fn hf hfn => by
      obtain rfl : f = 4 := Option.some.inj ((show Tryz.prog.funcNamed "underwood/underwoodlaw.DeskJoins" = some 4 by kernel_rfl).symm.trans hf) |>.symm
      obtain rfl : fn = Tryz.f4 := (Option.some.inj (Tryz.func4.symm.trans hfn)).symm
      exact ⟨by kernel_rfl, fun j t ht => by
        rw [Tryz.params4] at ht
        have hm : t ∈ [22, 3] := by simpa using Array.mem_of_getElem? ht
        have hall : ([22, 3].all fun u => !Tryz.prog.wantsStandIn u) = true := by kernel_rfl
        exact (show Tryz.prog.wantsStandIn t = false by simpa using List.all_eq_true.1 hall t hm)⟩)
    (by kernel_rfl)
#print axioms proved
end Go.Proofs.YtjckpdepffejnaaGreatDoor.DJs
