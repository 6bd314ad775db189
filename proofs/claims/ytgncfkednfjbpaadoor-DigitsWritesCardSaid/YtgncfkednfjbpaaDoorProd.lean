/-
  The contracts of package prod (layer 4) at this seat: Mul, Square.
-/
import Derived.Test.YtgncfkednfjbpaaDoorProdPlain
import Derived.Test.YtgncfkednfjbpaaDoorMake
import Derived.Test.YtgncfkednfjbpaaDoorNatAll
import Derived.BigRegion
import Derived.BigQuiet
import Derived.Deep.QuietTactic
import Derived.Deep.DeepMust
namespace Go.Proofs.YtgncfkednfjbpaaDoor
open Go.RowKit

theorem limb_mul_nat4 (x y c d : Nat) (w : World) (hx : x < 4294967296) (hy : y < 4294967296) (hc : c < 4294967296) (hd : d < 4294967296) : Calls Tryd.prog 32 #[.int .u32 (x : Int), .int .u32 (y : Int), .int .u32 (c : Int), .int .u32 (d : Int)] w fun e w' =>
    ∃ z r : Nat, e = .returned (.tuple #[.int .u32 (z : Int), .int .u32 (r : Int)]) ∧ z < 4294967296 ∧ r < 4294967296 ∧ Hid (r + 4294967296 * z = x * y + (c + d)) ∧ w = w' :=
  (limb_mul x y c d w (by omega) (by omega) (by omega) (by omega) (by omega) (by omega) (by omega) (by omega)).mono fun e w' ⟨he, hw⟩ => by
    have h1 : x * y ≤ 4294967295 * 4294967295 := Nat.mul_le_mul (by omega) (by omega)
    have e0 : (x : Int) * (y : Int) = ((x * y : Nat) : Int) := by simp
    rw [e0] at he
    generalize x * y = p at *
    exact ⟨(p + (c + d)) / 4294967296, (p + (c + d)) % 4294967296, by rw [he, show ((p : Int) + c + d) / 4294967296 = (((p + (c + d)) / 4294967296 : Nat) : Int) by omega, show ((p : Int) + c + d) % 4294967296 = (((p + (c + d)) % 4294967296 : Nat) : Int) by omega], by omega, by omega, Lib.hid (by omega), hw⟩
theorem limb_mul_nat3 (x y c : Nat) (w : World) (hx : x < 4294967296) (hy : y < 4294967296) (hc : c < 4294967296) : Calls Tryd.prog 32 #[.int .u32 (x : Int), .int .u32 (y : Int), .int .u32 (c : Int), .int .u32 0] w fun e w' =>
    ∃ z r : Nat, e = .returned (.tuple #[.int .u32 (z : Int), .int .u32 (r : Int)]) ∧ z < 4294967296 ∧ r < 4294967296 ∧ Hid (r + 4294967296 * z = x * y + c) ∧ w = w' :=
  limb_mul_nat4 x y c 0 w hx hy hc (by omega)
end Go.Proofs.YtgncfkednfjbpaaDoor
