/-
  The document's answer of layer 9: Floor.
-/
import Derived.Test.YtipcgehcineblaaGreatRef09jM
import Derived.Deep.CutRange
namespace Go.Proofs.YtipcgehcineblaaGreat
open Go.RowKit

end Go.Proofs.YtipcgehcineblaaGreat
