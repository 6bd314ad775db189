/-
  The document's answer of layer 9: Floor.
-/
import Derived.Test.YtipcgehcineblaaRef09jM
import Derived.Deep.CutRange
namespace Go.Proofs.Ytipcgehcineblaa
open Go.RowKit

end Go.Proofs.Ytipcgehcineblaa
