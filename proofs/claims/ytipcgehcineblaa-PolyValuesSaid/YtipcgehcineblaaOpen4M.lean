/-
  An argument that is a slice of slices of fractions, opened. Of no program.
-/
import Derived.Test.YtipcgehcineblaaG7
import Derived.Test.YtipcgehcineblaaG9
namespace Go.Proofs.Ytipcgehcineblaa
open Go.ChangeShapes Go.WideShapes Go.ChangeAt Go.RowKit Go.Deep
section
variable {H : Type} {enc : TypeId × Value → H} {P : Program} {W : World} {base : Nat}
end
end Go.Proofs.Ytipcgehcineblaa
