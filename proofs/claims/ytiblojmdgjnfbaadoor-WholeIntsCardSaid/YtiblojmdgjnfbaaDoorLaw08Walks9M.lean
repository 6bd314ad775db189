/-
  The walks of the laws of layer 8: WholeInts.
-/
import Derived.Test.YtiblojmdgjnfbaaDoorLaw08Walks7M
import Derived.Test.YtiblojmdgjnfbaaDoorLaw08Walks7bM
import Derived.Test.YtiblojmdgjnfbaaDoorLaw08Walks8M
import Derived.Test.YtiblojmdgjnfbaaDoorLaw08Walks8bM
import Derived.Deep.RegionHeld3
namespace Go.Proofs.YtiblojmdgjnfbaaDoor
open Go.RowKit

set_option maxRecDepth 4096 in
theorem law08_ints_out (S : WholeSaid) (M N : Int) (na : Bool) (a : Option Addr) (n cap : Nat) (w : World) (hT : Hid (Dec10 w)) (h1 : n ≤ 9223372036854775807) (h : 60 < n) :
    Calls Tryd.prog 6 #[.int .i64 M, .int .i64 N, whV na a n cap] w (Gives (.bool true) w) := by
  have hB : Below w.heap.size w (w.alloc (.cells #[.bool na, .slice a n cap] 24)) := below_alloc _ _
  unfold whV
  have hbi : (60 : Int) < (n : Int) := by omega
  clear h
  go_enter Tryd.func6, Tryd.ntmps6
  go_wp2_with fail
  refine (law08_works S _ (Lib.hid (hT.out.later hB))).mono ?_
  rintro e w1 ⟨rfl, b1⟩
  go_wp2
  go_ret
  exact ⟨rfl, below_then hB b1⟩
theorem law08_ints (S : WholeSaid) (M N : Int) (na : Bool) (a : Option Addr) (n cap : Nat) (la : List Nat) (w : World) (hT : Hid (Dec10 w)) (ha : Wd w a n cap la) (hM : isInt M) (hN : isInt N) :
    Calls Tryd.prog 6 #[.int .i64 M, .int .i64 N, whV na a n cap] w (Gives (.bool true) w) := by
  have p1 := ha.bound
  by_cases h : 60 < n
  · exact law08_ints_out S M N na a n cap w hT (by omega) h
  · by_cases h0 : isInt (zval na (val la))
    · exact law08_ints_is S M N na a n cap la w hT ha hM hN (by omega) h0
    · by_cases h1 : 9223372036854775807 < zval na (val la)
      · by_cases hs : (dg (val la)).length ≤ 2
        · exact law08_ints_high_small S M N na a n cap la w hT ha hM hN (by omega) h1 hs
        · exact law08_ints_high_long S M N na a n cap la w hT ha hM hN (by omega) h1 (by omega)
      · have h2 : zval na (val la) < -9223372036854775808 := by unfold isInt at h0; omega
        by_cases hs : (dg (val la)).length ≤ 2
        · exact law08_ints_low_small S M N na a n cap la w hT ha hM hN (by omega) h2 hs
        · exact law08_ints_low_long S M N na a n cap la w hT ha hM hN (by omega) h2 (by omega)
end Go.Proofs.YtiblojmdgjnfbaaDoor
