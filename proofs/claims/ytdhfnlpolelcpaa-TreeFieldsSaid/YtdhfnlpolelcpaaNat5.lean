/-
  The contracts of package nat (layer 2) at this seat: Add, less, Sub, Gap.
-/
import Derived.Test.YtdhfnlpolelcpaaNat4
namespace Go.Proofs.Ytdhfnlpolelcpaa
open Go.RowKit

end Go.Proofs.Ytdhfnlpolelcpaa
