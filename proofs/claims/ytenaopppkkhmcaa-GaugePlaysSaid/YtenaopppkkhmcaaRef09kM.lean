/-
  The document's answer of layer 9: Floor.
-/
import Derived.Test.YtenaopppkkhmcaaRef09jM
import Derived.Deep.CutRange
namespace Go.Proofs.Ytenaopppkkhmcaa
open Go.RowKit

end Go.Proofs.Ytenaopppkkhmcaa
