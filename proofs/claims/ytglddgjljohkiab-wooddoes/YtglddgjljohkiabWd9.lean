/- WoodDoes: the blocks of a wood that Set turns. -/
import Derived.Test.YtglddgjljohkiabWd8
namespace Go.Proofs.Ytglddgjljohkiab.WDo
open Go.RowKit W Kp Stl

theorem four {p q pc pq pw sd nb k : Nat} (e : k = p ∨ k = q ∨ k = pc ∨ k = pq) : Wb pw p q pc pq sd nb k := by
  rcases e with e | e | e | e
  · exact Or.inr (Or.inl e)
  · exact Or.inr (Or.inr (Or.inl e))
  · exact Or.inr (Or.inr (Or.inr (Or.inl e)))
  · exact Or.inr (Or.inr (Or.inr (Or.inr (Or.inl e))))


end Go.Proofs.Ytglddgjljohkiab.WDo
