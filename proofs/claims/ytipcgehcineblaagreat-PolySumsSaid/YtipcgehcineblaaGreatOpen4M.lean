/-
  An argument that is a slice of slices of fractions, opened. Of no program.
-/
import Derived.Test.YtipcgehcineblaaGreatG9
import Derived.Test.YtipcgehcineblaaGreatG13
import Derived.Test.YtipcgehcineblaaGreatG8
namespace Go.Proofs.YtipcgehcineblaaGreat
open Go.ChangeShapes Go.WideShapes Go.ChangeAt Go.RowKit Go.Deep
section
variable {H : Type} {enc : TypeId × Value → H} {P : Program} {W : World} {base : Nat}
end
end Go.Proofs.YtipcgehcineblaaGreat
