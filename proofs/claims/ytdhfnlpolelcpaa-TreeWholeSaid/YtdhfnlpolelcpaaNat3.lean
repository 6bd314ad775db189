/-
  The contracts of package nat (layer 2) at this seat: sums.
-/
import Derived.Test.YtdhfnlpolelcpaaNat2
import Derived.OwnWalk
namespace Go.Proofs.Ytdhfnlpolelcpaa
open Go.RowKit

/-- Words in a row of the call's own. -/
def Own (w : World) (base g n cap : Nat) (l : List Nat) : Prop := w.ownsRow base 79 1 (.slice (some ⟨g, 0, none⟩) n cap) n (wcells l) ∧ okw l
theorem Own.wd {w : World} {base g n cap : Nat} {l : List Nat} (h : Own w base g n cap l) : Wd w (some ⟨g, 0, none⟩) n cap l := Wd.own h.1 h.2
theorem Own.len {w : World} {base g n cap : Nat} {l : List Nat} (h : Own w base g n cap l) : l.length = n := h.wd.len
theorem Own.base {w : World} {base g n cap : Nat} {l : List Nat} (h : Own w base g n cap l) : base ≤ g ∧ g < w.heap.size := h.1.lt g rfl
theorem Own.cell {w : World} {base g n cap : Nat} {l : List Nat} (h : Own w base g n cap l) {k : Nat} (hk : k < n) : w.cell? ⟨g, k, none⟩ = some (.int .u32 ((atw l k : Nat) : Int)) :=
  (h.1.cellAt k (by omega)).trans (wcells_at (by rw [h.len]; exact hk))
theorem Own.set {w : World} {base g n cap : Nat} {l : List Nat} (h : Own w base g n cap l) (k r : Nat) (hr : r < 4294967296) : Own (w.setCell ⟨g, k, none⟩ (.int .u32 ((r : Nat) : Int))) base g n cap (l.set k r) := by
  refine ⟨?_, fun x hx => ?_⟩
  · rw [← wcells_set]; exact (h.1.stored k _).1
  · rcases List.mem_or_eq_of_mem_set hx with h1 | h1
    · exact h.2 x h1
    · omega
theorem Own.push {w' : World} {base : Nat} {v' : Value} {n : Nat} {l : List Nat} {r : Nat} (h : w'.ownsRow base 79 1 v' (n + 1) (wcells l ++ [.int .u32 ((r : Nat) : Int)])) (ho : okw l) (hr : r < 4294967296) : ∃ g cap, v' = .slice (some ⟨g, 0, none⟩) (n + 1) cap ∧ Own w' base g (n + 1) cap (l ++ [r]) := by
  have e : wcells l ++ [Value.int .u32 ((r : Nat) : Int)] = wcells (l ++ [r]) := by simp [wcells]
  rw [e] at h
  rcases h.2 with ⟨_, h0⟩ | ⟨g, cap, cur, rfl, h3⟩
  · omega
  · exact ⟨g, cap, rfl, h, okw_snoc ho hr⟩


end Go.Proofs.Ytdhfnlpolelcpaa
