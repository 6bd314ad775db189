/-
  Plain mathematics: how long what is reckoned of rows becomes. Of no program.
-/
import Derived.Test.YtjeigdlhjghinaaGreatDoorG18
import Derived.Test.YtjeigdlhjghinaaGreatDoorG13
namespace Go.Proofs.YtjeigdlhjghinaaGreatDoor
open Go.RowKit

theorem qlen_radd {A B : Nat} {l m : List Rat} (hl : ∀ q ∈ l, qlen q ≤ A) (hm : ∀ q ∈ m, qlen q ≤ B) : ∀ q ∈ radd l m, qlen q ≤ A + B + 2 := fun q hq => by
  obtain ⟨x, hx, y, hy, rfl⟩ := mem_radd hq
  have h1 := hl x hx
  have h2 := hm y hy
  have h3 := qlen_add x y
  omega
theorem qlen_rscale {A B : Nat} {c : Rat} {l : List Rat} (hc : qlen c ≤ B) (hl : ∀ q ∈ l, qlen q ≤ A) : ∀ q ∈ rscale c l, qlen q ≤ A + B + 1 := fun q hq => by
  obtain ⟨x, hx, rfl⟩ := List.mem_map.1 hq
  have h1 := hl x hx
  have h2 := qlen_mul c x
  omega
theorem qlen_rdot {A B : Nat} : ∀ {l m : List Rat}, (∀ q ∈ l, qlen q ≤ A) → (∀ q ∈ m, qlen q ≤ B) → qlen (rdot l m) ≤ 1 + l.length * (A + B + 3)
  | [], m, _, _ => by
    rw [rdot, qlen_nought]
    · omega
    · simp
  | x :: l, [], _, _ => by
    rw [rdot, qlen_nought]
    · omega
    · simp
  | x :: l, y :: m, hl, hm => by
    have h1 := qlen_rdot (l := l) (m := m) (fun q hq => hl q (List.mem_cons_of_mem _ hq)) (fun q hq => hm q (List.mem_cons_of_mem _ hq))
    have h2 := hl x (List.mem_cons_self ..)
    have h3 := hm y (List.mem_cons_self ..)
    have h4 := qlen_mul x y
    have h5 := qlen_add (x * y) (rdot l m)
    have h6 : (x :: l).length * (A + B + 3) = l.length * (A + B + 3) + (A + B + 3) := by rw [List.length_cons, Nat.add_mul, Nat.one_mul]
    rw [rdot]
    omega
theorem qlen_rnormFrom {A : Nat} : ∀ {l : List Rat} {m : Rat}, qlen m ≤ A → (∀ q ∈ l, qlen q ≤ A) → qlen (rnormFrom m l) ≤ A
  | [], _, hm, _ => hm
  | x :: l, m, hm, hl => by
    rw [rnormFrom]
    refine qlen_rnormFrom ?_ (fun q hq => hl q (List.mem_cons_of_mem _ hq))
    split
    · rw [qlen_abs]; exact hl x (List.mem_cons_self ..)
    · exact hm
theorem qlen_rnorm {A : Nat} {l : List Rat} (hA : 1 ≤ A) (hl : ∀ q ∈ l, qlen q ≤ A) : qlen (rnorm l) ≤ A := qlen_rnormFrom (by rw [qlen_nought]; exact hA) hl
theorem qlen_reps (n : Nat) : ∀ q ∈ List.replicate n (0 : Rat), qlen q ≤ 2 := fun q hq => by
  rw [(List.mem_replicate.1 hq).2, qlen_nought]; decide
theorem qlen_runit (n : Nat) (i : Int) : ∀ q ∈ runit n i, qlen q ≤ 2 := fun q hq => by
  unfold runit at hq
  split at hq
  · rcases List.mem_or_eq_of_mem_set hq with h | h
    · exact qlen_reps n q h
    · rw [h]; exact qlen_int (z := 1) (by decide)
  · exact qlen_reps n q hq
theorem runit_length (n : Nat) (i : Int) : (runit n i).length = n := by
  unfold runit
  split
  · rw [List.length_set, List.length_replicate]
  · rw [List.length_replicate]
theorem rcut_most (n : Int) : rcut n ≤ 300 := by unfold rcut; omega
theorem beq_same (r : Bool) : (r == r) = true := by cases r <;> rfl
end Go.Proofs.YtjeigdlhjghinaaGreatDoor
