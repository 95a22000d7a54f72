/- SideSettles: parts of its code, found in the translation by the number of the region that they begin with. -/
import Derived.Test.YtjleaikdinepbaaSw2
import Derived.Test.YtjleaikdinepbaaSw3
import Derived.Test.YtjleaikdinepbaaSdd
import Derived.Deep.DeepCutAuto
namespace Go.Proofs.Ytjleaikdinepbaa.SSet
open Go.RowKit W Kp Stl

def isReg (n : Nat) : Code → Bool
  | .region m _ _ => m == n
  | _ => false
/-- The first statements, one behind the other, that begin with a region. -/
def find (n : Nat) : Code → Option Code
  | .seq a b => match isReg n a with
    | true => some (.seq a b)
    | false => match find n a with
      | some c => some c
      | none => find n b
  | .cond _ a b => match find n a with
    | some c => some c
    | none => find n b
  | .block _ c => find n c
  | .loop c => find n c
  | .scope c => find n c
  | _ => none
/-- A region itself. -/
def findR (n : Nat) : Code → Option Code
  | .region m o dr => match m == n with
    | true => some (.region m o dr)
    | false => none
  | .seq a b => match findR n a with
    | some c => some c
    | none => findR n b
  | .cond _ a b => match findR n a with
    | some c => some c
    | none => findR n b
  | .block _ c => findR n c
  | .loop c => findR n c
  | .scope c => findR n c
  | _ => none
noncomputable def r18C : Code := (Try.f13.body.bind (findR 18)).getD .skip
noncomputable def r19C : Code := (Try.f13.body.bind (findR 19)).getD .skip
/-- What stands behind. -/
def behind : Code → Code
  | .seq _ b => b
  | _ => .skip
noncomputable def restC : Code := behind ((Try.f13.body.bind (find 18)).getD .skip)

theorem infoTwo : (Try.prog.info? 137).map (fun i => (i.zero, i.size, i.bytes)) = some (some (.agg #[.int .i64 0, .int .i64 0]), 2, 16) := by kernel_rfl

/-- One list of a set is laid; nothing else turns. -/
theorem set_words {w w4 : World} {c : Nat} {x y v : Value} {T : TypeId} (i : Nat) (hi : i = 0 ∨ i = 1) (h : w4.heap[c]? = some (.cells #[x, y] T (0, 0))) (hf : Fr (fun _ => False) w w4) : (w4.setCell ⟨c, i, none⟩ v).heap[c]? = some (.cells (if i = 0 then #[v, y] else #[x, v]) T (0, 0)) ∧ Fr (fun k => k = c) w (w4.setCell ⟨c, i, none⟩ v) := by
  refine ⟨?_, (hf.mono (fun _ h => h.elim)).set c i v rfl⟩
  simp only [World.setCell, Array.getElem?_modify, if_true, h, Option.map_some]
  rcases hi with rfl | rfl <;> simp

theorem row_ty {w : World} {b b' n n' m m' : Nat} {e e' : TypeId} {v v' : Value} {l l' : List Value} (h : w.ownsRow b e m v n l) (h' : w.ownsRow b' e' m' v' n' l') (hne : e ≠ e') : ∀ k, some k = v.ownBlock → ¬ some k = v'.ownBlock := by
  intro k hk hk'
  obtain ⟨cur, hc⟩ := row_type h k hk
  obtain ⟨cur', hc'⟩ := row_type h' k hk'
  rw [hc] at hc'
  simp at hc'
  exact hne hc'.2
theorem blk_ty {w : World} {b' n' m' p : Nat} {e' T : TypeId} {v' : Value} {l' : List Value} {cs : Array Value} (h : w.heap[p]? = some (.cells cs T (0, 0))) (h' : w.ownsRow b' e' m' v' n' l') (hne : T ≠ e') : ¬ some p = v'.ownBlock := by
  intro hk
  obtain ⟨cur, hc⟩ := row_type h' p hk
  rw [h] at hc
  simp at hc
  exact hne hc.2

end Go.Proofs.Ytjleaikdinepbaa.SSet
