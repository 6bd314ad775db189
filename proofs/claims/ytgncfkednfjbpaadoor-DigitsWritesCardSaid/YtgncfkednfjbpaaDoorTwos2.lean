/-
  The contracts of package twos (layer 3) at this seat: shifts.
-/
import Derived.Test.YtgncfkednfjbpaaDoorTwos
import Derived.Test.YtgncfkednfjbpaaDoorNatSaid
import Derived.Test.YtgncfkednfjbpaaDoorMake
import Derived.Test.YtgncfkednfjbpaaDoorNat
import Derived.Deep.DeepMust
import Derived.BigRegion
import Derived.Laws.CopyOwn
namespace Go.Proofs.YtgncfkednfjbpaaDoor
open Go.RowKit

theorem limb_mul_nat (x y c : Nat) (w : World) (hx : x < 4294967296) (hy : y < 4294967296) (hc : c < 4294967296) : Calls Tryd.prog 32 #[.int .u32 (x : Int), .int .u32 (y : Int), .int .u32 (c : Int), .int .u32 0] w fun e w' =>
    ∃ z r : Nat, e = .returned (.tuple #[.int .u32 (z : Int), .int .u32 (r : Int)]) ∧ z < 4294967296 ∧ r < 4294967296 ∧ Hid (r + 4294967296 * z = x * y + c) ∧ w = w' :=
  (limb_mul x y c 0 w (by omega) (by omega) (by omega) (by omega) (by omega) (by omega) (by omega) (by omega)).mono fun e w' ⟨he, hw⟩ => by
    have h1 : x * y ≤ 4294967295 * 4294967295 := Nat.mul_le_mul (by omega) (by omega)
    have e0 : (x : Int) * (y : Int) = ((x * y : Nat) : Int) := by simp
    rw [e0] at he
    generalize x * y = p at *
    exact ⟨(p + c) / 4294967296, (p + c) % 4294967296, by rw [he, show ((p : Int) + c + 0) / 4294967296 = (((p + c) / 4294967296 : Nat) : Int) by omega, show ((p : Int) + c + 0) % 4294967296 = (((p + c) % 4294967296 : Nat) : Int) by omega], by omega, by omega, Lib.hid (by omega), hw⟩
/-- The right list of v comes back, and, if v isn't 0, in a row of the call's own. -/
def LstOwn (v : Nat) (w : World) (e : Ending) (w' : World) : Prop :=
  ∃ (a : Option Addr) (n cap : Nat), e = .returned (.slice a n cap) ∧ Wd w' a n cap (dg v) ∧ Below w.heap.size w w' ∧ (v ≠ 0 → ∃ g, a = some ⟨g, 0, none⟩ ∧ Hid (Own w' w.heap.size g n cap (dg v)))
theorem LstOwn.lst {v : Nat} {w : World} {e : Ending} {w' : World} (h : LstOwn v w e w') : Lst (dg v) w e w' := by
  obtain ⟨a, n, cap, h1, h2, h3, _⟩ := h
  exact ⟨a, n, cap, h1, h2, h3⟩
theorem Wd.drop {w : World} {b off m cap q : Nat} {l : List Nat} (h : Wd w (some ⟨b, off, none⟩) (q + m) cap l) : Wd w (some ⟨b, off + q, none⟩) m (cap - q) (l.drop q) := by
  have h1 := h.bound
  have h2 := h.len
  refine ⟨by rw [List.length_drop]; omega, by omega, by omega, okw_drop h.ok q, fun e => (by cases e), ?_⟩
  by_cases h0 : m = 0
  · exact .inl h0
  · obtain ⟨b', off', e, hc⟩ := h.at (by omega)
    simp only [Option.some.injEq, Addr.mk.injEq, and_true] at e
    obtain ⟨rfl, rfl⟩ := e
    exact .inr ⟨b, off + q, rfl, fun j hj => by rw [Nat.add_assoc, hc (q + j) (by omega), atw_drop]⟩
end Go.Proofs.YtgncfkednfjbpaaDoor
