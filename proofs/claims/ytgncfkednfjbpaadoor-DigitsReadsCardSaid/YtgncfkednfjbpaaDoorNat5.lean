/-
  The contracts of package nat (layer 2) at this seat: Add, less, Sub, Gap.
-/
import Derived.Test.YtgncfkednfjbpaaDoorNat4
namespace Go.Proofs.YtgncfkednfjbpaaDoor
open Go.RowKit

end Go.Proofs.YtgncfkednfjbpaaDoor
