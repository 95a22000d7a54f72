/- EVERY WORD IS AS THE DOCUMENT SAYS: whatever the kinds, Word answers the document's word, and no two kinds have one; without condition; the listed variables tied to the program's text. -/
import Derived.Test.YtjckpdepffejnaaGreatDoorJ26
import Derived.Test.YtjckpdepffejnaaGreatDoorCards
import Derived.Test.YtjckpdepffejnaaGreatDoorTie
namespace Go.Proofs.YtjckpdepffejnaaGreatDoor.DWs
open Go.ChangeShapes Go.WideShapes Go.ChangeAt Go.RowKit Go.Joins W
theorem OA : Rows.deskWordsRow.holds Tryz.pinned (OpenSpec.ofChange Rows.deskWordsSpec) :=
  OpenClaim.holds_of_wide 5 Tryz.f5 rfl rfl rfl rfl rfl rfl rfl ⟨rfl, rfl, rfl, rfl, rfl⟩ rfl rfl rfl rfl rfl Oz Tryz.func5 facts
    inst wrap (fun os started H enc _ => lifted os started H enc)
/-- THE STATEMENT. -/
theorem proved : Rows.DeskWordsCardSaid :=
  Claim7.holds_tied_plain_at .later [] [.data, .data, .data, .data, .sentinel, .sentinel, .data, .pinned] true Rows.deskWordsCard.stood.harness true
    OA (fun _ h => by cases h) (by kernel_rfl) (fun _ h => by cases h) deskWords_row_tie rfl ⟨rfl, rfl⟩ (by kernel_rfl) rfl
    (fun f fn hf hfn => by
      obtain rfl : f = 5 := Option.some.inj ((show Tryz.prog.funcNamed "underwood/underwoodlaw.DeskWords" = some 5 by kernel_rfl).symm.trans hf) |>.symm
      obtain rfl : fn = Tryz.f5 := (Option.some.inj (Tryz.func5.symm.trans hfn)).symm
      exact ⟨by kernel_rfl, fun j t ht => by
        rw [Tryz.params5] at ht
        have hm : t ∈ [3, 3] := by simpa using Array.mem_of_getElem? ht
        have hall : ([3, 3].all fun u => !Tryz.prog.wantsStandIn u) = true := by kernel_rfl
        exact (show Tryz.prog.wantsStandIn t = false by simpa using List.all_eq_true.1 hall t hm)⟩)
    (by kernel_rfl)
#print axioms proved
end Go.Proofs.YtjckpdepffejnaaGreatDoor.DWs
