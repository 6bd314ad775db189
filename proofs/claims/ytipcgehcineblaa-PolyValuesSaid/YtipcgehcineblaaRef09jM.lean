/-
  The contracts of the document's answer for layer 9: Same as a decision, Up, Floor.
-/
import Derived.Test.YtipcgehcineblaaG8
import Derived.Deep.RegionHeld3
import Derived.Deep.RegionWith
import Derived.Deep.CutRange
namespace Go.Proofs.Ytipcgehcineblaa
open Go.RowKit

end Go.Proofs.Ytipcgehcineblaa
