/- ArenaDoes' loop: parts of its code, found in the translation by the number of the region that they begin with; what a round keeps. -/
import Derived.Test.YtheiboniifijnaaRm7
import Derived.Test.YtheiboniifijnaaOpens2
import Derived.Test.YtheiboniifijnaaApart2
import Derived.Deep.DeepCutAuto
namespace Go.Proofs.Ytheiboniifijnaa.Do
open Go.RowKit W Apart2


def isReg (n : Nat) : Code → Bool
  | .region m _ _ => m == n
  | _ => false
/-- The first statements, one behind the other, that begin with a region. -/
def find (n : Nat) : Code → Option Code
  | .seq a b => match isReg n a with
    | true => some (.seq a b)
    | false => match find n a with
      | some c => some c
      | none => find n b
  | .cond _ a b => match find n a with
    | some c => some c
    | none => find n b
  | .block _ c => find n c
  | .loop c => find n c
  | .scope c => find n c
  | _ => none
noncomputable def swC : Code := (Try.f6.body.bind (find 15)).getD .skip
noncomputable def reC : Code := (Try.f6.body.bind (find 34)).getD .skip
/-- A region itself. -/
def findR (n : Nat) : Code → Option Code
  | .region m o dr => match m == n with
    | true => some (.region m o dr)
    | false => none
  | .seq a b => match findR n a with
    | some c => some c
    | none => findR n b
  | .cond _ a b => match findR n a with
    | some c => some c
    | none => findR n b
  | .block _ c => findR n c
  | .loop c => findR n c
  | .scope c => findR n c
  | _ => none
noncomputable def inC : Code := (Try.f6.body.bind (findR 14)).getD .skip

/-- The blocks of the arena, of the room and of a step are apart, and the call's own. -/
structure Ctx (w : World) (p q r s B0 : Nat) : Prop where
  n1 : p ≠ r
  n2 : p ≠ s
  n3 : q ≠ r
  n4 : q ≠ s
  hp' : w.heap.size ≤ p
  hq' : w.heap.size ≤ q
  hr' : w.heap.size ≤ r
  hs' : w.heap.size ≤ s
  hlp : p < B0
  hlq : q < B0
  hlr : r < B0
  hls : s < B0

/-- An arena and a room of the same words, so many of them in use, beside a step. -/
def RelF (w : World) (p q r s N O B0 y g : Nat) (ws : List Int) (d a f x : Int) (wc : World) : Prop := At wc p q N O y g ws ∧ Rm wc r s N O y g ws ∧ Bx wc B0 d a f x ∧ Below w.heap.size w wc
/-- .. whichever. -/
def Rel (w : World) (p q r s N O B0 : Nat) (d a f x : Int) (wc : World) : Prop :=
  ∃ (y g : Nat) (ws : List Int), At wc p q N O y g ws ∧ Rm wc r s N O y g ws ∧ Bx wc B0 d a f x ∧ Below w.heap.size w wc

end Go.Proofs.Ytheiboniifijnaa.Do
