/-
  No cell of these rows narrows 'for every input' (looked for: loops, veiled, ifaces, maps, wideKeys, modest, calm, conditions, laid).
  DERIVED. THE GIVEN ROWS OF THIS SEAT. 3 by the template 'for every input the law returns true; each argument reads behind the call as it read before'; 0 by the template 'total and deterministic' (their statements: YtjhnhbeimjnloaaTotals.lean).
  GIVEN WITH THE SEED: the statements are not yours to turn. If you find one false, say at which input.
  Laid BY PROGRAM, IN A SANDBOX (cutbox-rows.mjs): the forced cells as the released guide's own fill.sh prints them over the translation d8c3487113dd77fb… (all of the seat's roots in one cut). By AI agents, Wed Nov 11 2026. No macro, syntax, notation, axiom, sorry.
-/
import Derived.Test.YtjhnhbeimjnloaaChecked
import GoSem.Claim
import GoSem.ClaimJoined
import GoSem.ClaimMapViews
import Derived.JoinedTies
import Derived.KernelRfl
namespace Go.Proofs.Ytjhnhbeimjnloaa
/- THE CELL 'sum', in the pinned program and in every row, IS THE sha256 OF THE DUMP (.gsa) THAT YtjhnhbeimjnloaaProg.lean LOADS. Nothing in Lean hashes anything: it is a label: what it is worth is what the hold of that sum in a sandbox is worth. -/
noncomputable def Try.pinned : Pinned := { name := "ytjhnhbeimjnloaa", sum := "d8c3487113dd77fb385217ef3e34f62826e392a4f971b6c3ae3330a7d2eb0799", checked := Try.checked }
namespace Rows
def none {H : Type} : Left H := { results := [], args := [] }

/-- 'underwoodlaw.GroveBreaks': WHATEVER THE INPUT: true; the input reads as it did. -/
def groveBreaksSpec : ChangeSpec := { name := "groveBreaks", fn := fun _ => fun
  | [d1, d2, d3] => { results := [.lit (.bool true)], args := [d1, d2, d3] }
  | _ => none }
def groveBreaksRow : OpenClaim := { program := "ytjhnhbeimjnloaa", sum := "d8c3487113dd77fb385217ef3e34f62826e392a4f971b6c3ae3330a7d2eb0799", func := "underwood/underwoodlaw.GroveBreaks", spec := "groveBreaks", unfollowed := true, recurses := true, apart := false }
def GroveBreaksSaid : Prop := groveBreaksRow.holds Try.pinned (OpenSpec.ofChange groveBreaksSpec)

/-- ITS FALSE NEIGHBOUR: 'it returns false'. Refute it at one input. -/
def groveBreaksWrong : ChangeSpec := { name := "groveBreaks", fn := fun _ => fun
  | [d1, d2, d3] => { results := [.lit (.bool false)], args := [d1, d2, d3] }
  | _ => none }
def GroveBreaksWrongFalsely : Prop := groveBreaksRow.holds Try.pinned (OpenSpec.ofChange groveBreaksWrong)

/-- 'underwoodlaw.GroveGuards': WHATEVER THE INPUT: true; the input reads as it did. -/
def groveGuardsSpec : ChangeSpec := { name := "groveGuards", fn := fun _ => fun
  | [d1, d2, d3, d4, d5] => { results := [.lit (.bool true)], args := [d1, d2, d3, d4, d5] }
  | _ => none }
def groveGuardsRow : OpenClaim := { program := "ytjhnhbeimjnloaa", sum := "d8c3487113dd77fb385217ef3e34f62826e392a4f971b6c3ae3330a7d2eb0799", func := "underwood/underwoodlaw.GroveGuards", spec := "groveGuards", unfollowed := true, recurses := true, apart := false }
def GroveGuardsSaid : Prop := groveGuardsRow.holds Try.pinned (OpenSpec.ofChange groveGuardsSpec)

/-- ITS FALSE NEIGHBOUR: 'it returns false'. Refute it at one input. -/
def groveGuardsWrong : ChangeSpec := { name := "groveGuards", fn := fun _ => fun
  | [d1, d2, d3, d4, d5] => { results := [.lit (.bool false)], args := [d1, d2, d3, d4, d5] }
  | _ => none }
def GroveGuardsWrongFalsely : Prop := groveGuardsRow.holds Try.pinned (OpenSpec.ofChange groveGuardsWrong)

/-- 'underwoodlaw.GroveWeak': WHATEVER THE INPUT: true; the input reads as it did. -/
def groveWeakSpec : ChangeSpec := { name := "groveWeak", fn := fun _ => fun
  | [d1, d2, d3, d4] => { results := [.lit (.bool true)], args := [d1, d2, d3, d4] }
  | _ => none }
def groveWeakRow : OpenClaim := { program := "ytjhnhbeimjnloaa", sum := "d8c3487113dd77fb385217ef3e34f62826e392a4f971b6c3ae3330a7d2eb0799", func := "underwood/underwoodlaw.GroveWeak", spec := "groveWeak", unfollowed := true, recurses := true, apart := false }
def GroveWeakSaid : Prop := groveWeakRow.holds Try.pinned (OpenSpec.ofChange groveWeakSpec)

/-- ITS FALSE NEIGHBOUR: 'it returns false'. Refute it at one input. -/
def groveWeakWrong : ChangeSpec := { name := "groveWeak", fn := fun _ => fun
  | [d1, d2, d3, d4] => { results := [.lit (.bool false)], args := [d1, d2, d3, d4] }
  | _ => none }
def GroveWeakWrongFalsely : Prop := groveWeakRow.holds Try.pinned (OpenSpec.ofChange groveWeakWrong)

/- THE SECOND FORM. 'bulk': how many values and letters a reading holds, each counted each time it is reached (what is shared counts as often as it is met; a slice's spare places count too). A statement '..UptoSaid' is the law's where the arguments, and the package variables that the reading takes, are together of bulk at most 1048576: NARROWER than '..Said'. Prove '..Said' where nothing that the law and all that it calls make is longer than what came in: it says more and counts as full. Else prove '..UptoSaid'. A law counts once. -/
mutual
def uptoBulk {H : Type} : DataW H → Nat
  | .lit (.string bytes) => bytes.length + 1
  | .lit _ => 1
  | .nil => 1
  | .ptr d => uptoBulk d + 1
  | .slice elems spare => uptoBulkAll elems + uptoBulkAll spare + 1
  | .agg parts => uptoBulkAll parts + 1
  | .iface _ d => uptoBulk d + 1
  | .map entries => uptoBulkEntries entries + 1
  | .held _ => 1
def uptoBulkAll {H : Type} : List (DataW H) → Nat
  | [] => 0
  | d :: r => uptoBulk d + uptoBulkAll r
def uptoBulkEntries {H : Type} : List (Lit × DataW H) → Nat
  | [] => 0
  | x :: r => uptoBulkEntry x + uptoBulkEntries r
def uptoBulkEntry {H : Type} : Lit × DataW H → Nat
  | (.string bytes, d) => bytes.length + uptoBulk d + 1
  | (_, d) => uptoBulk d + 1
 end
def uptoSmall : (H : Type) → List (DataW H) → Bool := fun _ ds => decide (uptoBulkAll ds ≤ 1048576)
def OpenSpec.upto (s : _root_.Go.ChangeSpec) : _root_.Go.OpenSpec := { _root_.Go.OpenSpec.ofChange s with cond := some uptoSmall }

/-- 'underwoodlaw.GroveBreaks', WHERE WHAT IT READS IS OF BULK AT MOST 1048576: true; the input reads as it did. -/
def groveBreaksUptoRow : OpenClaim := { program := "ytjhnhbeimjnloaa", sum := "d8c3487113dd77fb385217ef3e34f62826e392a4f971b6c3ae3330a7d2eb0799", func := "underwood/underwoodlaw.GroveBreaks", spec := "groveBreaks", unfollowed := true, recurses := true, apart := false, narrowed := true }
def GroveBreaksUptoSaid : Prop := groveBreaksUptoRow.holds Try.pinned (OpenSpec.upto groveBreaksSpec)

/-- 'underwoodlaw.GroveGuards', WHERE WHAT IT READS IS OF BULK AT MOST 1048576: true; the input reads as it did. -/
def groveGuardsUptoRow : OpenClaim := { program := "ytjhnhbeimjnloaa", sum := "d8c3487113dd77fb385217ef3e34f62826e392a4f971b6c3ae3330a7d2eb0799", func := "underwood/underwoodlaw.GroveGuards", spec := "groveGuards", unfollowed := true, recurses := true, apart := false, narrowed := true }
def GroveGuardsUptoSaid : Prop := groveGuardsUptoRow.holds Try.pinned (OpenSpec.upto groveGuardsSpec)

/-- 'underwoodlaw.GroveWeak', WHERE WHAT IT READS IS OF BULK AT MOST 1048576: true; the input reads as it did. -/
def groveWeakUptoRow : OpenClaim := { program := "ytjhnhbeimjnloaa", sum := "d8c3487113dd77fb385217ef3e34f62826e392a4f971b6c3ae3330a7d2eb0799", func := "underwood/underwoodlaw.GroveWeak", spec := "groveWeak", unfollowed := true, recurses := true, apart := false, narrowed := true }
def GroveWeakUptoSaid : Prop := groveWeakUptoRow.holds Try.pinned (OpenSpec.upto groveWeakSpec)

end Rows
end Go.Proofs.Ytjhnhbeimjnloaa
