/-
  What package digits' functions owe, proved.
-/
import Derived.Test.YtgncfkednfjbpaaDoorDigits
namespace Go.Proofs.YtgncfkednfjbpaaDoor
open Go.RowKit

theorem digitsSaid : DigitsSaid where
  text := digits_text
  len := digits_len
  read_ok := digits_read_ok
  read_no := digits_read_no
end Go.Proofs.YtgncfkednfjbpaaDoor
