/- What the document's answers on words (WordOf, ValOf, Fits, HeadOf, PartsOf) return at whatever numbers: contracts, over the seat's own translation; nothing that was in memory turns. -/
import Derived.Test.YtglddgjljohkiabWords2
namespace Go.Proofs.Ytglddgjljohkiab
open Go.RowKit W

theorem wf_i64 {x : Int} (h1 : -9223372036854775808 ≤ x) (h2 : x ≤ 9223372036854775807) : IntKind.i64.wrap x = x := by
  rw [IntKind.wrap_i64]; omega

end Go.Proofs.Ytglddgjljohkiab
