/-
  The contracts of the document's answer for layer 9: Same as a decision, Up, Floor.
-/
import Derived.Test.YtenaopppkkhmcaaG7
import Derived.Deep.RegionHeld3
import Derived.Deep.RegionWith
import Derived.Deep.CutRange
namespace Go.Proofs.Ytenaopppkkhmcaa
open Go.RowKit

end Go.Proofs.Ytenaopppkkhmcaa
