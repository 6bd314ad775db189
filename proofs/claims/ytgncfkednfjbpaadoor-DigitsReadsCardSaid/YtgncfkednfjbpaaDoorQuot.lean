/-
  The contracts of package quot (layer 5) at this seat: what long division does word by word.
-/
import Derived.Test.YtgncfkednfjbpaaDoorOwn
import Derived.Test.YtgncfkednfjbpaaDoorTwos2
import Derived.Test.YtgncfkednfjbpaaDoorNatAll
import Derived.Test.YtgncfkednfjbpaaDoorProd
namespace Go.Proofs.YtgncfkednfjbpaaDoor
open Go.RowKit

end Go.Proofs.YtgncfkednfjbpaaDoor
