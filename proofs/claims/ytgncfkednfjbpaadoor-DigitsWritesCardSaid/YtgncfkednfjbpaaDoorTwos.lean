/-
  The contracts of package twos (layer 3) at this seat: telling functions.
-/
import Derived.Test.YtgncfkednfjbpaaDoorNat3
import Derived.Test.YtgncfkednfjbpaaDoorBits2
namespace Go.Proofs.YtgncfkednfjbpaaDoor
open Go.RowKit

/-- The bit at a place that may be below 0. -/
def bitI (v : Nat) (i : Int) : Bool := decide (0 ≤ i) && v.testBit i.toNat
/-- A number of places, below 0 as 0. -/
def natI (n : Int) : Nat := n.toNat

end Go.Proofs.YtgncfkednfjbpaaDoor
