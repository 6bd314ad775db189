/-
  The contracts of package nat (layer 2) at this seat: sums.
-/
import Derived.Test.YtkpnhohaolfmgaaNat2
import Derived.OwnWalk
namespace Go.Proofs.Ytkpnhohaolfmgaa
open Go.RowKit

/-- Words in a row of the call's own. -/
def Own (w : World) (base g n cap : Nat) (l : List Nat) : Prop := w.ownsRow base 38 1 (.slice (some ⟨g, 0, none⟩) n cap) n (wcells l) ∧ okw l
theorem Own.wd {w : World} {base g n cap : Nat} {l : List Nat} (h : Own w base g n cap l) : Wd w (some ⟨g, 0, none⟩) n cap l := Wd.own h.1 h.2
theorem Own.len {w : World} {base g n cap : Nat} {l : List Nat} (h : Own w base g n cap l) : l.length = n := h.wd.len
theorem Own.base {w : World} {base g n cap : Nat} {l : List Nat} (h : Own w base g n cap l) : base ≤ g ∧ g < w.heap.size := h.1.lt g rfl
theorem Own.cell {w : World} {base g n cap : Nat} {l : List Nat} (h : Own w base g n cap l) {k : Nat} (hk : k < n) : w.cell? ⟨g, k, none⟩ = some (.int .u32 ((atw l k : Nat) : Int)) :=
  (h.1.cellAt k (by omega)).trans (wcells_at (by rw [h.len]; exact hk))
theorem Own.set {w : World} {base g n cap : Nat} {l : List Nat} (h : Own w base g n cap l) (k r : Nat) (hr : r < 4294967296) : Own (w.setCell ⟨g, k, none⟩ (.int .u32 ((r : Nat) : Int))) base g n cap (l.set k r) := by
  refine ⟨?_, fun x hx => ?_⟩
  · rw [← wcells_set]; exact (h.1.stored k _).1
  · rcases List.mem_or_eq_of_mem_set hx with h1 | h1
    · exact h.2 x h1
    · omega
theorem Own.push {w' : World} {base : Nat} {v' : Value} {n : Nat} {l : List Nat} {r : Nat} (h : w'.ownsRow base 38 1 v' (n + 1) (wcells l ++ [.int .u32 ((r : Nat) : Int)])) (ho : okw l) (hr : r < 4294967296) : ∃ g cap, v' = .slice (some ⟨g, 0, none⟩) (n + 1) cap ∧ Own w' base g (n + 1) cap (l ++ [r]) := by
  have e : wcells l ++ [Value.int .u32 ((r : Nat) : Int)] = wcells (l ++ [r]) := by simp [wcells]
  rw [e] at h
  rcases h.2 with ⟨_, h0⟩ | ⟨g, cap, cur, rfl, h3⟩
  · omega
  · exact ⟨g, cap, rfl, h, okw_snoc ho hr⟩

theorem limb_add_nat (x y c : Nat) (w : World) (hx : x < 4294967296) (hy : y < 4294967296) (hc : c ≤ 1) : Calls Try.prog 67 #[.int .u32 (x : Int), .int .u32 (y : Int), .int .u32 (c : Int)] w fun e w' =>
    ∃ r z : Nat, e = .returned (.tuple #[.int .u32 (r : Int), .int .u32 (z : Int)]) ∧ z ≤ 1 ∧ r < 4294967296 ∧ Hid (r + 4294967296 * z = c + (x + y)) ∧ w = w' :=
  (limb_add x y c w (by omega) (by omega) (by omega) (by omega) (by omega) (by omega)).mono fun e w' ⟨he, hw⟩ => ⟨(x + y + c) % 4294967296, (x + y + c) / 4294967296, by rw [he]; rfl, by omega, by omega, Lib.hid (by omega), hw⟩
theorem limb_add_nat0 (x c : Nat) (w : World) (hx : x < 4294967296) (hc : c ≤ 1) : Calls Try.prog 67 #[.int .u32 (x : Int), .int .u32 0, .int .u32 (c : Int)] w fun e w' =>
    ∃ r z : Nat, e = .returned (.tuple #[.int .u32 (r : Int), .int .u32 (z : Int)]) ∧ z ≤ 1 ∧ r < 4294967296 ∧ Hid (r + 4294967296 * z = c + (x + 0)) ∧ w = w' :=
  limb_add_nat x 0 c w hx (by omega) hc
theorem limb_sub_nat (x y c : Nat) (w : World) (hx : x < 4294967296) (hy : y < 4294967296) (hc : c ≤ 1) : Calls Try.prog 64 #[.int .u32 (x : Int), .int .u32 (y : Int), .int .u32 (c : Int)] w fun e w' =>
    ∃ r z : Nat, e = .returned (.tuple #[.int .u32 (r : Int), .int .u32 (z : Int)]) ∧ z ≤ 1 ∧ r < 4294967296 ∧ Hid (x + 4294967296 * z = y + c + r) ∧ w = w' :=
  (limb_sub x y c w (by omega) (by omega) (by omega) (by omega) (by omega) (by omega)).mono fun e w' ⟨he, hw⟩ => by
    by_cases h : x < y + c
    · refine ⟨x + 4294967296 - (y + c), 1, ?_, by omega, by omega, Lib.hid (by omega), hw⟩
      have e1 : ((x : Int) - y - c) % 4294967296 = ((x + 4294967296 - (y + c) : Nat) : Int) := by omega
      have e2 : -(((x : Int) - y - c) / 4294967296) = ((1 : Nat) : Int) := by omega
      rw [he, e1, e2]
    · refine ⟨x - (y + c), 0, ?_, by omega, by omega, Lib.hid (by omega), hw⟩
      have e1 : ((x : Int) - y - c) % 4294967296 = ((x - (y + c) : Nat) : Int) := by omega
      have e2 : -(((x : Int) - y - c) / 4294967296) = ((0 : Nat) : Int) := by omega
      rw [he, e1, e2]
theorem limb_sub_nat0 (x c : Nat) (w : World) (hx : x < 4294967296) (hc : c ≤ 1) : Calls Try.prog 64 #[.int .u32 (x : Int), .int .u32 0, .int .u32 (c : Int)] w fun e w' =>
    ∃ r z : Nat, e = .returned (.tuple #[.int .u32 (r : Int), .int .u32 (z : Int)]) ∧ z ≤ 1 ∧ r < 4294967296 ∧ Hid (x + 4294967296 * z = 0 + c + r) ∧ w = w' :=
  limb_sub_nat x 0 c w hx (by omega) hc

end Go.Proofs.Ytkpnhohaolfmgaa
