/-
  No cell of these rows narrows 'for every input' (looked for: loops, veiled, ifaces, maps, wideKeys, modest, calm, conditions, laid).
  DERIVED. THE GIVEN ROWS OF THIS SEAT. 3 by the template 'for every input the law returns true; each argument reads behind the call as it read before'; 0 by the template 'total and deterministic' (their statements: YtglddgjljohkiabTotals.lean).
  GIVEN WITH THE SEED: the statements are not yours to turn. If you find one false, say at which input.
  Laid BY PROGRAM, IN A SANDBOX (cutbox-rows.mjs): the forced cells as the released guide's own fill.sh prints them over the translation f312d10dd14837b4… (all of the seat's roots in one cut). By AI agents, Wed Nov 11 2026. No macro, syntax, notation, axiom, sorry.
-/
import Derived.Test.YtglddgjljohkiabChecked
import GoSem.Claim
import GoSem.ClaimJoined
import GoSem.ClaimMapViews
import Derived.JoinedTies
import Derived.KernelRfl
namespace Go.Proofs.Ytglddgjljohkiab
/- THE CELL 'sum', in the pinned program and in every row, IS THE sha256 OF THE DUMP (.gsa) THAT YtglddgjljohkiabProg.lean LOADS. Nothing in Lean hashes anything: it is a label: what it is worth is what the hold of that sum in a sandbox is worth. -/
noncomputable def Try.pinned : Pinned := { name := "ytglddgjljohkiab", sum := "f312d10dd14837b4d68811ceb40c3881678997501bcc6ad842da8a1d8ed46d70", checked := Try.checked }
namespace Rows
def none {H : Type} : Left H := { results := [], args := [] }

/-- 'underwoodlaw.SideOnce': WHATEVER THE INPUT: true; the input reads as it did. -/
def sideOnceSpec : ChangeSpec := { name := "sideOnce", fn := fun _ => fun
  | [d1, d2, d3, d4] => { results := [.lit (.bool true)], args := [d1, d2, d3, d4] }
  | _ => none }
def sideOnceRow : OpenClaim := { program := "ytglddgjljohkiab", sum := "f312d10dd14837b4d68811ceb40c3881678997501bcc6ad842da8a1d8ed46d70", func := "underwood/underwoodlaw.SideOnce", spec := "sideOnce", unfollowed := true, recurses := true, apart := false }
def SideOnceSaid : Prop := sideOnceRow.holds Try.pinned (OpenSpec.ofChange sideOnceSpec)

/-- ITS FALSE NEIGHBOUR: 'it returns false'. Refute it at one input. -/
def sideOnceWrong : ChangeSpec := { name := "sideOnce", fn := fun _ => fun
  | [d1, d2, d3, d4] => { results := [.lit (.bool false)], args := [d1, d2, d3, d4] }
  | _ => none }
def SideOnceWrongFalsely : Prop := sideOnceRow.holds Try.pinned (OpenSpec.ofChange sideOnceWrong)

/-- 'underwoodlaw.WoodDoes': WHATEVER THE INPUT: true; the input reads as it did. -/
def woodDoesSpec : ChangeSpec := { name := "woodDoes", fn := fun _ => fun
  | [d1, d2, d3] => { results := [.lit (.bool true)], args := [d1, d2, d3] }
  | _ => none }
def woodDoesRow : OpenClaim := { program := "ytglddgjljohkiab", sum := "f312d10dd14837b4d68811ceb40c3881678997501bcc6ad842da8a1d8ed46d70", func := "underwood/underwoodlaw.WoodDoes", spec := "woodDoes", unfollowed := true, recurses := true, apart := false }
def WoodDoesSaid : Prop := woodDoesRow.holds Try.pinned (OpenSpec.ofChange woodDoesSpec)

/-- ITS FALSE NEIGHBOUR: 'it returns false'. Refute it at one input. -/
def woodDoesWrong : ChangeSpec := { name := "woodDoes", fn := fun _ => fun
  | [d1, d2, d3] => { results := [.lit (.bool false)], args := [d1, d2, d3] }
  | _ => none }
def WoodDoesWrongFalsely : Prop := woodDoesRow.holds Try.pinned (OpenSpec.ofChange woodDoesWrong)

/-- 'underwoodlaw.WoodViews': WHATEVER THE INPUT: true; the input reads as it did. -/
def woodViewsSpec : ChangeSpec := { name := "woodViews", fn := fun _ => fun
  | [d1, d2, d3] => { results := [.lit (.bool true)], args := [d1, d2, d3] }
  | _ => none }
def woodViewsRow : OpenClaim := { program := "ytglddgjljohkiab", sum := "f312d10dd14837b4d68811ceb40c3881678997501bcc6ad842da8a1d8ed46d70", func := "underwood/underwoodlaw.WoodViews", spec := "woodViews", unfollowed := true, recurses := true, apart := false }
def WoodViewsSaid : Prop := woodViewsRow.holds Try.pinned (OpenSpec.ofChange woodViewsSpec)

/-- ITS FALSE NEIGHBOUR: 'it returns false'. Refute it at one input. -/
def woodViewsWrong : ChangeSpec := { name := "woodViews", fn := fun _ => fun
  | [d1, d2, d3] => { results := [.lit (.bool false)], args := [d1, d2, d3] }
  | _ => none }
def WoodViewsWrongFalsely : Prop := woodViewsRow.holds Try.pinned (OpenSpec.ofChange woodViewsWrong)

/- THE SECOND FORM. 'bulk': how many values and letters a reading holds, each counted each time it is reached (what is shared counts as often as it is met; a slice's spare places count too). A statement '..UptoSaid' is the law's where the arguments, and the package variables that the reading takes, are together of bulk at most 1048576: NARROWER than '..Said'. Prove '..Said' where nothing that the law and all that it calls make is longer than what came in: it says more and counts as full. Else prove '..UptoSaid'. A law counts once. -/
mutual
def uptoBulk {H : Type} : DataW H → Nat
  | .lit (.string bytes) => bytes.length + 1
  | .lit _ => 1
  | .nil => 1
  | .ptr d => uptoBulk d + 1
  | .slice elems spare => uptoBulkAll elems + uptoBulkAll spare + 1
  | .agg parts => uptoBulkAll parts + 1
  | .iface _ d => uptoBulk d + 1
  | .map entries => uptoBulkEntries entries + 1
  | .held _ => 1
def uptoBulkAll {H : Type} : List (DataW H) → Nat
  | [] => 0
  | d :: r => uptoBulk d + uptoBulkAll r
def uptoBulkEntries {H : Type} : List (Lit × DataW H) → Nat
  | [] => 0
  | x :: r => uptoBulkEntry x + uptoBulkEntries r
def uptoBulkEntry {H : Type} : Lit × DataW H → Nat
  | (.string bytes, d) => bytes.length + uptoBulk d + 1
  | (_, d) => uptoBulk d + 1
 end
def uptoSmall : (H : Type) → List (DataW H) → Bool := fun _ ds => decide (uptoBulkAll ds ≤ 1048576)
def OpenSpec.upto (s : _root_.Go.ChangeSpec) : _root_.Go.OpenSpec := { _root_.Go.OpenSpec.ofChange s with cond := some uptoSmall }

/-- 'underwoodlaw.SideOnce', WHERE WHAT IT READS IS OF BULK AT MOST 1048576: true; the input reads as it did. -/
def sideOnceUptoRow : OpenClaim := { program := "ytglddgjljohkiab", sum := "f312d10dd14837b4d68811ceb40c3881678997501bcc6ad842da8a1d8ed46d70", func := "underwood/underwoodlaw.SideOnce", spec := "sideOnce", unfollowed := true, recurses := true, apart := false, narrowed := true }
def SideOnceUptoSaid : Prop := sideOnceUptoRow.holds Try.pinned (OpenSpec.upto sideOnceSpec)

/-- 'underwoodlaw.WoodDoes', WHERE WHAT IT READS IS OF BULK AT MOST 1048576: true; the input reads as it did. -/
def woodDoesUptoRow : OpenClaim := { program := "ytglddgjljohkiab", sum := "f312d10dd14837b4d68811ceb40c3881678997501bcc6ad842da8a1d8ed46d70", func := "underwood/underwoodlaw.WoodDoes", spec := "woodDoes", unfollowed := true, recurses := true, apart := false, narrowed := true }
def WoodDoesUptoSaid : Prop := woodDoesUptoRow.holds Try.pinned (OpenSpec.upto woodDoesSpec)

/-- 'underwoodlaw.WoodViews', WHERE WHAT IT READS IS OF BULK AT MOST 1048576: true; the input reads as it did. -/
def woodViewsUptoRow : OpenClaim := { program := "ytglddgjljohkiab", sum := "f312d10dd14837b4d68811ceb40c3881678997501bcc6ad842da8a1d8ed46d70", func := "underwood/underwoodlaw.WoodViews", spec := "woodViews", unfollowed := true, recurses := true, apart := false, narrowed := true }
def WoodViewsUptoSaid : Prop := woodViewsUptoRow.holds Try.pinned (OpenSpec.upto woodViewsSpec)

end Rows
end Go.Proofs.Ytglddgjljohkiab
