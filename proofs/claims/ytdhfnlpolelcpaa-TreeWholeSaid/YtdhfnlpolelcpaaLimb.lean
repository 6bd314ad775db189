/-
  The contracts of package limb (layer 1) at this seat: what each call returns, for every word, and that the world is as it was.
-/
import Derived.Test.YtdhfnlpolelcpaaRows
import Derived.Test.YtdhfnlpolelcpaaLimbPlain
import Derived.WalkKit
import Derived.WalkSpells
import Derived.WalkLawsBesides
import Derived.IntWalk
import Derived.Deep.QuietTactic
import Derived.BigQuiet
import Derived.Lib.BitFns
import Derived.Lib.Strings
import Derived.Lib.Slices
import Derived.Lib.Small
import Derived.Lib.Walk
namespace Go.Proofs.Ytdhfnlpolelcpaa
open Go.RowKit

end Go.Proofs.Ytdhfnlpolelcpaa
