/-
  The contracts of package quot (layer 5) at this seat: the guess at a word, and the word that is taken away.
-/
import Derived.Test.YtgncfkednfjbpaaDoorQuot
import Derived.BigQuiet
import Derived.Deep.QuietTactic
namespace Go.Proofs.YtgncfkednfjbpaaDoor
open Go.RowKit

theorem Own.window {w : World} {base g N cap : Nat} {P : List Nat} (h : Own w base g N cap P) {i k c : Nat} (hi : i + k ≤ N) (hk : 0 < k) (hc : k ≤ c) (hc2 : c ≤ 9223372036854775807) : Wd w (some ⟨g, i, none⟩) k c ((P.drop i).take k) := by
  have hl := h.len
  exact ⟨by rw [List.length_take, List.length_drop]; omega, hc, hc2, okw_take (okw_drop h.2 i) k, fun e => (by cases e), .inr ⟨g, i, rfl, fun j hj => by rw [h.cell (by omega), atw_take hj, atw_drop]⟩⟩

theorem limb_div_nat (u1 u0 v q r : Nat) (w : World) (h0 : u0 < 4294967296) (hv : v < 4294967296) (hlt : u1 < v) (hq : Hid (q = (u1 * 4294967296 + u0) / v)) (hr : Hid (r = (u1 * 4294967296 + u0) % v)) : Calls Tryd.prog 35 #[.int .u32 (u1 : Int), .int .u32 (u0 : Int), .int .u32 (v : Int)] w fun e w' =>
    e = .returned (.tuple #[.int .u32 (q : Int), .int .u32 (r : Int), .bool true]) ∧ ∃ n, w' = w.drewN n :=
  (limb_div_yes (u1 : Int) (u0 : Int) (v : Int) w (by omega) (by omega) (by omega) (by omega) (by omega) (by omega)).mono fun e w' ⟨he, hw⟩ => ⟨by
    have e1 : ((u1 : Int) * 4294967296 + (u0 : Int)) / (v : Int) = (q : Int) := by rw [hq.out, Int.natCast_ediv, Int.natCast_add, Int.natCast_mul]; rfl
    have e2 : ((u1 : Int) * 4294967296 + (u0 : Int)) % (v : Int) = (r : Int) := by rw [hr.out, Int.natCast_emod, Int.natCast_add, Int.natCast_mul]; rfl
    rw [he, e1, e2], hw⟩
theorem limb_div_none (u1 u0 v : Nat) (w : World) (hge : v ≤ u1) : Calls Tryd.prog 35 #[.int .u32 (u1 : Int), .int .u32 (u0 : Int), .int .u32 (v : Int)] w fun e w' => e = .returned (.tuple #[.int .u32 0, .int .u32 0, .bool false]) ∧ w = w' :=
  limb_div_no _ _ _ w (by omega)
end Go.Proofs.YtgncfkednfjbpaaDoor
