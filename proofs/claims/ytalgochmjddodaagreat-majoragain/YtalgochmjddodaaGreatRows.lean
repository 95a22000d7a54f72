/-
  No cell of these rows narrows 'for every input' (looked for: loops, veiled, ifaces, maps, wideKeys, modest, calm, conditions, laid).
  DERIVED. THE GIVEN ROWS OF THIS SEAT. 9 by the template 'for every input the law returns true; each argument reads behind the call as it read before'; 0 by the template 'total and deterministic' (their statements: YtalgochmjddodaaGreatTotals.lean).
  GIVEN WITH THE SEED: the statements are not yours to turn. If you find one false, say at which input.
  Laid BY PROGRAM, IN A SANDBOX (cutbox-rows.mjs): the forced cells as the released guide's own fill.sh prints them over the translation 020a7b92035a0744… (all of the seat's roots in one cut). By AI agents, Wed Nov 11 2026. No macro, syntax, notation, axiom, sorry.
-/
import Derived.Test.YtalgochmjddodaaGreatChecked
import GoSem.Claim
import GoSem.ClaimJoined
import GoSem.ClaimMapViews
import Derived.JoinedTies
import Derived.KernelRfl
namespace Go.Proofs.YtalgochmjddodaaGreat
/- THE CELL 'sum', in the pinned program and in every row, IS THE sha256 OF THE DUMP (.gsa) THAT YtalgochmjddodaaGreatProg.lean LOADS. Nothing in Lean hashes anything: it is a label: what it is worth is what the hold of that sum in a sandbox is worth. -/
noncomputable def Tryz.pinned : Pinned := { name := "ytalgochmjddodaagreat", sum := "020a7b92035a07449a5501c5076fb71affde3cea77e1d1224bffb38302c1f4b1", checked := Tryz.checked }
namespace Rows
def none {H : Type} : Left H := { results := [], args := [] }

/-- 'underwoodlaw.MinorDoes': WHATEVER THE INPUT: true; the input reads as it did. -/
def minorDoesSpec : ChangeSpec := { name := "minorDoes", fn := fun _ => fun
  | [d1, d2, d3] => { results := [.lit (.bool true)], args := [d1, d2, d3] }
  | _ => none }
def minorDoesRow : OpenClaim := { program := "ytalgochmjddodaagreat", sum := "020a7b92035a07449a5501c5076fb71affde3cea77e1d1224bffb38302c1f4b1", func := "underwood/underwoodlaw.MinorDoes", spec := "minorDoes", unfollowed := true, recurses := true, apart := false }
def MinorDoesSaid : Prop := minorDoesRow.holds Tryz.pinned (OpenSpec.ofChange minorDoesSpec)

/-- ITS FALSE NEIGHBOUR: 'it returns false'. Refute it at one input. -/
def minorDoesWrong : ChangeSpec := { name := "minorDoes", fn := fun _ => fun
  | [d1, d2, d3] => { results := [.lit (.bool false)], args := [d1, d2, d3] }
  | _ => none }
def MinorDoesWrongFalsely : Prop := minorDoesRow.holds Tryz.pinned (OpenSpec.ofChange minorDoesWrong)

/-- 'underwoodlaw.MajorDoes': WHATEVER THE INPUT: true; the input reads as it did. -/
def majorDoesSpec : ChangeSpec := { name := "majorDoes", fn := fun _ => fun
  | [d1, d2, d3] => { results := [.lit (.bool true)], args := [d1, d2, d3] }
  | _ => none }
def majorDoesRow : OpenClaim := { program := "ytalgochmjddodaagreat", sum := "020a7b92035a07449a5501c5076fb71affde3cea77e1d1224bffb38302c1f4b1", func := "underwood/underwoodlaw.MajorDoes", spec := "majorDoes", unfollowed := true, recurses := true, apart := false }
def MajorDoesSaid : Prop := majorDoesRow.holds Tryz.pinned (OpenSpec.ofChange majorDoesSpec)

/-- ITS FALSE NEIGHBOUR: 'it returns false'. Refute it at one input. -/
def majorDoesWrong : ChangeSpec := { name := "majorDoes", fn := fun _ => fun
  | [d1, d2, d3] => { results := [.lit (.bool false)], args := [d1, d2, d3] }
  | _ => none }
def MajorDoesWrongFalsely : Prop := majorDoesRow.holds Tryz.pinned (OpenSpec.ofChange majorDoesWrong)

/-- 'underwoodlaw.MajorAgain': WHATEVER THE INPUT: true; the input reads as it did. -/
def majorAgainSpec : ChangeSpec := { name := "majorAgain", fn := fun _ => fun
  | [d1, d2, d3] => { results := [.lit (.bool true)], args := [d1, d2, d3] }
  | _ => none }
def majorAgainRow : OpenClaim := { program := "ytalgochmjddodaagreat", sum := "020a7b92035a07449a5501c5076fb71affde3cea77e1d1224bffb38302c1f4b1", func := "underwood/underwoodlaw.MajorAgain", spec := "majorAgain", unfollowed := true, recurses := true, apart := false }
def MajorAgainSaid : Prop := majorAgainRow.holds Tryz.pinned (OpenSpec.ofChange majorAgainSpec)

/-- ITS FALSE NEIGHBOUR: 'it returns false'. Refute it at one input. -/
def majorAgainWrong : ChangeSpec := { name := "majorAgain", fn := fun _ => fun
  | [d1, d2, d3] => { results := [.lit (.bool false)], args := [d1, d2, d3] }
  | _ => none }
def MajorAgainWrongFalsely : Prop := majorAgainRow.holds Tryz.pinned (OpenSpec.ofChange majorAgainWrong)

/-- 'underwoodlaw.HeapDoes': WHATEVER THE INPUT: true; the input reads as it did. -/
def heapDoesSpec : ChangeSpec := { name := "heapDoes", fn := fun _ => fun
  | [d1, d2, d3] => { results := [.lit (.bool true)], args := [d1, d2, d3] }
  | _ => none }
def heapDoesRow : OpenClaim := { program := "ytalgochmjddodaagreat", sum := "020a7b92035a07449a5501c5076fb71affde3cea77e1d1224bffb38302c1f4b1", func := "underwood/underwoodlaw.HeapDoes", spec := "heapDoes", unfollowed := true, recurses := true, apart := false }
def HeapDoesSaid : Prop := heapDoesRow.holds Tryz.pinned (OpenSpec.ofChange heapDoesSpec)

/-- ITS FALSE NEIGHBOUR: 'it returns false'. Refute it at one input. -/
def heapDoesWrong : ChangeSpec := { name := "heapDoes", fn := fun _ => fun
  | [d1, d2, d3] => { results := [.lit (.bool false)], args := [d1, d2, d3] }
  | _ => none }
def HeapDoesWrongFalsely : Prop := heapDoesRow.holds Tryz.pinned (OpenSpec.ofChange heapDoesWrong)

/-- 'underwoodlaw.HeapRefuses': WHATEVER THE INPUT: true; the input reads as it did. -/
def heapRefusesSpec : ChangeSpec := { name := "heapRefuses", fn := fun _ => fun
  | [d1, d2, d3] => { results := [.lit (.bool true)], args := [d1, d2, d3] }
  | _ => none }
def heapRefusesRow : OpenClaim := { program := "ytalgochmjddodaagreat", sum := "020a7b92035a07449a5501c5076fb71affde3cea77e1d1224bffb38302c1f4b1", func := "underwood/underwoodlaw.HeapRefuses", spec := "heapRefuses", unfollowed := true, recurses := true, apart := false }
def HeapRefusesSaid : Prop := heapRefusesRow.holds Tryz.pinned (OpenSpec.ofChange heapRefusesSpec)

/-- ITS FALSE NEIGHBOUR: 'it returns false'. Refute it at one input. -/
def heapRefusesWrong : ChangeSpec := { name := "heapRefuses", fn := fun _ => fun
  | [d1, d2, d3] => { results := [.lit (.bool false)], args := [d1, d2, d3] }
  | _ => none }
def HeapRefusesWrongFalsely : Prop := heapRefusesRow.holds Tryz.pinned (OpenSpec.ofChange heapRefusesWrong)

/-- 'underwoodlaw.HeapRooms': WHATEVER THE INPUT: true; the input reads as it did. -/
def heapRoomsSpec : ChangeSpec := { name := "heapRooms", fn := fun _ => fun
  | [d1, d2, d3] => { results := [.lit (.bool true)], args := [d1, d2, d3] }
  | _ => none }
def heapRoomsRow : OpenClaim := { program := "ytalgochmjddodaagreat", sum := "020a7b92035a07449a5501c5076fb71affde3cea77e1d1224bffb38302c1f4b1", func := "underwood/underwoodlaw.HeapRooms", spec := "heapRooms", unfollowed := true, recurses := true, apart := false }
def HeapRoomsSaid : Prop := heapRoomsRow.holds Tryz.pinned (OpenSpec.ofChange heapRoomsSpec)

/-- ITS FALSE NEIGHBOUR: 'it returns false'. Refute it at one input. -/
def heapRoomsWrong : ChangeSpec := { name := "heapRooms", fn := fun _ => fun
  | [d1, d2, d3] => { results := [.lit (.bool false)], args := [d1, d2, d3] }
  | _ => none }
def HeapRoomsWrongFalsely : Prop := heapRoomsRow.holds Tryz.pinned (OpenSpec.ofChange heapRoomsWrong)

/-- 'underwoodlaw.GroveDoes': WHATEVER THE INPUT: true; the input reads as it did. -/
def groveDoesSpec : ChangeSpec := { name := "groveDoes", fn := fun _ => fun
  | [d1, d2, d3] => { results := [.lit (.bool true)], args := [d1, d2, d3] }
  | _ => none }
def groveDoesRow : OpenClaim := { program := "ytalgochmjddodaagreat", sum := "020a7b92035a07449a5501c5076fb71affde3cea77e1d1224bffb38302c1f4b1", func := "underwood/underwoodlaw.GroveDoes", spec := "groveDoes", unfollowed := true, recurses := true, apart := false }
def GroveDoesSaid : Prop := groveDoesRow.holds Tryz.pinned (OpenSpec.ofChange groveDoesSpec)

/-- ITS FALSE NEIGHBOUR: 'it returns false'. Refute it at one input. -/
def groveDoesWrong : ChangeSpec := { name := "groveDoes", fn := fun _ => fun
  | [d1, d2, d3] => { results := [.lit (.bool false)], args := [d1, d2, d3] }
  | _ => none }
def GroveDoesWrongFalsely : Prop := groveDoesRow.holds Tryz.pinned (OpenSpec.ofChange groveDoesWrong)

/-- 'underwoodlaw.TwinSame': WHATEVER THE INPUT: true; the input reads as it did. -/
def twinSameSpec : ChangeSpec := { name := "twinSame", fn := fun _ => fun
  | [d1, d2, d3] => { results := [.lit (.bool true)], args := [d1, d2, d3] }
  | _ => none }
def twinSameRow : OpenClaim := { program := "ytalgochmjddodaagreat", sum := "020a7b92035a07449a5501c5076fb71affde3cea77e1d1224bffb38302c1f4b1", func := "underwood/underwoodlaw.TwinSame", spec := "twinSame", unfollowed := true, recurses := true, apart := false }
def TwinSameSaid : Prop := twinSameRow.holds Tryz.pinned (OpenSpec.ofChange twinSameSpec)

/-- ITS FALSE NEIGHBOUR: 'it returns false'. Refute it at one input. -/
def twinSameWrong : ChangeSpec := { name := "twinSame", fn := fun _ => fun
  | [d1, d2, d3] => { results := [.lit (.bool false)], args := [d1, d2, d3] }
  | _ => none }
def TwinSameWrongFalsely : Prop := twinSameRow.holds Tryz.pinned (OpenSpec.ofChange twinSameWrong)

/-- 'underwoodlaw.TwinRoom': WHATEVER THE INPUT: true; the input reads as it did. -/
def twinRoomSpec : ChangeSpec := { name := "twinRoom", fn := fun _ => fun
  | [d1, d2, d3] => { results := [.lit (.bool true)], args := [d1, d2, d3] }
  | _ => none }
def twinRoomRow : OpenClaim := { program := "ytalgochmjddodaagreat", sum := "020a7b92035a07449a5501c5076fb71affde3cea77e1d1224bffb38302c1f4b1", func := "underwood/underwoodlaw.TwinRoom", spec := "twinRoom", unfollowed := true, recurses := true, apart := false }
def TwinRoomSaid : Prop := twinRoomRow.holds Tryz.pinned (OpenSpec.ofChange twinRoomSpec)

/-- ITS FALSE NEIGHBOUR: 'it returns false'. Refute it at one input. -/
def twinRoomWrong : ChangeSpec := { name := "twinRoom", fn := fun _ => fun
  | [d1, d2, d3] => { results := [.lit (.bool false)], args := [d1, d2, d3] }
  | _ => none }
def TwinRoomWrongFalsely : Prop := twinRoomRow.holds Tryz.pinned (OpenSpec.ofChange twinRoomWrong)

/- THE SECOND FORM. 'bulk': how many values and letters a reading holds, each counted each time it is reached (what is shared counts as often as it is met; a slice's spare places count too). A statement '..UptoSaid' is the law's where the arguments, and the package variables that the reading takes, are together of bulk at most 1048576: NARROWER than '..Said'. Prove '..Said' where nothing that the law and all that it calls make is longer than what came in: it says more and counts as full. Else prove '..UptoSaid'. A law counts once. -/
mutual
def uptoBulk {H : Type} : DataW H → Nat
  | .lit (.string bytes) => bytes.length + 1
  | .lit _ => 1
  | .nil => 1
  | .ptr d => uptoBulk d + 1
  | .slice elems spare => uptoBulkAll elems + uptoBulkAll spare + 1
  | .agg parts => uptoBulkAll parts + 1
  | .iface _ d => uptoBulk d + 1
  | .map entries => uptoBulkEntries entries + 1
  | .held _ => 1
def uptoBulkAll {H : Type} : List (DataW H) → Nat
  | [] => 0
  | d :: r => uptoBulk d + uptoBulkAll r
def uptoBulkEntries {H : Type} : List (Lit × DataW H) → Nat
  | [] => 0
  | x :: r => uptoBulkEntry x + uptoBulkEntries r
def uptoBulkEntry {H : Type} : Lit × DataW H → Nat
  | (.string bytes, d) => bytes.length + uptoBulk d + 1
  | (_, d) => uptoBulk d + 1
 end
def uptoSmall : (H : Type) → List (DataW H) → Bool := fun _ ds => decide (uptoBulkAll ds ≤ 1048576)
def OpenSpec.upto (s : _root_.Go.ChangeSpec) : _root_.Go.OpenSpec := { _root_.Go.OpenSpec.ofChange s with cond := some uptoSmall }

/-- 'underwoodlaw.MinorDoes', WHERE WHAT IT READS IS OF BULK AT MOST 1048576: true; the input reads as it did. -/
def minorDoesUptoRow : OpenClaim := { program := "ytalgochmjddodaagreat", sum := "020a7b92035a07449a5501c5076fb71affde3cea77e1d1224bffb38302c1f4b1", func := "underwood/underwoodlaw.MinorDoes", spec := "minorDoes", unfollowed := true, recurses := true, apart := false, narrowed := true }
def MinorDoesUptoSaid : Prop := minorDoesUptoRow.holds Tryz.pinned (OpenSpec.upto minorDoesSpec)

/-- 'underwoodlaw.MajorDoes', WHERE WHAT IT READS IS OF BULK AT MOST 1048576: true; the input reads as it did. -/
def majorDoesUptoRow : OpenClaim := { program := "ytalgochmjddodaagreat", sum := "020a7b92035a07449a5501c5076fb71affde3cea77e1d1224bffb38302c1f4b1", func := "underwood/underwoodlaw.MajorDoes", spec := "majorDoes", unfollowed := true, recurses := true, apart := false, narrowed := true }
def MajorDoesUptoSaid : Prop := majorDoesUptoRow.holds Tryz.pinned (OpenSpec.upto majorDoesSpec)

/-- 'underwoodlaw.MajorAgain', WHERE WHAT IT READS IS OF BULK AT MOST 1048576: true; the input reads as it did. -/
def majorAgainUptoRow : OpenClaim := { program := "ytalgochmjddodaagreat", sum := "020a7b92035a07449a5501c5076fb71affde3cea77e1d1224bffb38302c1f4b1", func := "underwood/underwoodlaw.MajorAgain", spec := "majorAgain", unfollowed := true, recurses := true, apart := false, narrowed := true }
def MajorAgainUptoSaid : Prop := majorAgainUptoRow.holds Tryz.pinned (OpenSpec.upto majorAgainSpec)

/-- 'underwoodlaw.HeapDoes', WHERE WHAT IT READS IS OF BULK AT MOST 1048576: true; the input reads as it did. -/
def heapDoesUptoRow : OpenClaim := { program := "ytalgochmjddodaagreat", sum := "020a7b92035a07449a5501c5076fb71affde3cea77e1d1224bffb38302c1f4b1", func := "underwood/underwoodlaw.HeapDoes", spec := "heapDoes", unfollowed := true, recurses := true, apart := false, narrowed := true }
def HeapDoesUptoSaid : Prop := heapDoesUptoRow.holds Tryz.pinned (OpenSpec.upto heapDoesSpec)

/-- 'underwoodlaw.HeapRefuses', WHERE WHAT IT READS IS OF BULK AT MOST 1048576: true; the input reads as it did. -/
def heapRefusesUptoRow : OpenClaim := { program := "ytalgochmjddodaagreat", sum := "020a7b92035a07449a5501c5076fb71affde3cea77e1d1224bffb38302c1f4b1", func := "underwood/underwoodlaw.HeapRefuses", spec := "heapRefuses", unfollowed := true, recurses := true, apart := false, narrowed := true }
def HeapRefusesUptoSaid : Prop := heapRefusesUptoRow.holds Tryz.pinned (OpenSpec.upto heapRefusesSpec)

/-- 'underwoodlaw.HeapRooms', WHERE WHAT IT READS IS OF BULK AT MOST 1048576: true; the input reads as it did. -/
def heapRoomsUptoRow : OpenClaim := { program := "ytalgochmjddodaagreat", sum := "020a7b92035a07449a5501c5076fb71affde3cea77e1d1224bffb38302c1f4b1", func := "underwood/underwoodlaw.HeapRooms", spec := "heapRooms", unfollowed := true, recurses := true, apart := false, narrowed := true }
def HeapRoomsUptoSaid : Prop := heapRoomsUptoRow.holds Tryz.pinned (OpenSpec.upto heapRoomsSpec)

/-- 'underwoodlaw.GroveDoes', WHERE WHAT IT READS IS OF BULK AT MOST 1048576: true; the input reads as it did. -/
def groveDoesUptoRow : OpenClaim := { program := "ytalgochmjddodaagreat", sum := "020a7b92035a07449a5501c5076fb71affde3cea77e1d1224bffb38302c1f4b1", func := "underwood/underwoodlaw.GroveDoes", spec := "groveDoes", unfollowed := true, recurses := true, apart := false, narrowed := true }
def GroveDoesUptoSaid : Prop := groveDoesUptoRow.holds Tryz.pinned (OpenSpec.upto groveDoesSpec)

/-- 'underwoodlaw.TwinSame', WHERE WHAT IT READS IS OF BULK AT MOST 1048576: true; the input reads as it did. -/
def twinSameUptoRow : OpenClaim := { program := "ytalgochmjddodaagreat", sum := "020a7b92035a07449a5501c5076fb71affde3cea77e1d1224bffb38302c1f4b1", func := "underwood/underwoodlaw.TwinSame", spec := "twinSame", unfollowed := true, recurses := true, apart := false, narrowed := true }
def TwinSameUptoSaid : Prop := twinSameUptoRow.holds Tryz.pinned (OpenSpec.upto twinSameSpec)

/-- 'underwoodlaw.TwinRoom', WHERE WHAT IT READS IS OF BULK AT MOST 1048576: true; the input reads as it did. -/
def twinRoomUptoRow : OpenClaim := { program := "ytalgochmjddodaagreat", sum := "020a7b92035a07449a5501c5076fb71affde3cea77e1d1224bffb38302c1f4b1", func := "underwood/underwoodlaw.TwinRoom", spec := "twinRoom", unfollowed := true, recurses := true, apart := false, narrowed := true }
def TwinRoomUptoSaid : Prop := twinRoomUptoRow.holds Tryz.pinned (OpenSpec.upto twinRoomSpec)

end Rows
end Go.Proofs.YtalgochmjddodaaGreat
