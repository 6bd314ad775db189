/-
  Plain mathematics: decimal digits in groups of nine. Nothing of the program.
-/
import Derived.Test.YtgncfkednfjbpaaDoorDigitsSaid
namespace Go.Proofs.YtgncfkednfjbpaaDoor

/-- The last k digits of a number. -/
def lowd : Nat → Nat → List UInt8
  | 0, _ => []
  | k + 1, n => lowd k (n / 10) ++ [dig (n % 10)]
theorem lowd_length (k n : Nat) : (lowd k n).length = k := by
  induction k generalizing n with
  | zero => rfl
  | succ k ih => rw [lowd, List.length_append, ih]; rfl
theorem txt_split (k n : Nat) (h : 10 ^ k ≤ n) : txt n = txt (n / 10 ^ k) ++ lowd k n := by
  induction k generalizing n with
  | zero => rw [lowd, List.append_nil, Nat.pow_zero, Nat.div_one]
  | succ k ih =>
    have hp : 0 < 10 ^ k := Nat.pow_pos (by decide)
    rw [Nat.pow_succ] at h
    rw [txt_big (by omega), ih (n / 10) (by omega), lowd, Nat.div_div_eq_div_mul, Nat.pow_succ, Nat.mul_comm 10, List.append_assoc]
theorem lowd_mod (k n : Nat) : lowd k (n % 10 ^ k) = lowd k n := by
  induction k generalizing n with
  | zero => rfl
  | succ k ih =>
    have h1 : n % 10 ^ (k + 1) / 10 = n / 10 % 10 ^ k := by
      rw [Nat.pow_succ, Nat.mul_comm, Nat.mod_mul_right_div_self]
    have h2 : n % 10 ^ (k + 1) % 10 = n % 10 := by rw [Nat.pow_succ]; exact Nat.mod_mod_of_dvd _ (Nat.dvd_mul_left _ _)
    rw [lowd, lowd, h1, h2, ih]
/-- A number in groups of nine digits, the lowest ones first. -/
def bil (n : Nat) : List Nat := if h : n < 1000000000 then [n] else (n % 1000000000) :: bil (n / 1000000000)
termination_by n
decreasing_by omega
theorem bil_small {n : Nat} (h : n < 1000000000) : bil n = [n] := by rw [bil]; simp [h]
theorem bil_big {n : Nat} (h : 1000000000 ≤ n) : bil n = (n % 1000000000) :: bil (n / 1000000000) := by rw [bil]; simp [show ¬ n < 1000000000 by omega]
def tx : List Nat → List UInt8
  | [] => []
  | [g] => txt g
  | g :: h :: r => tx (h :: r) ++ lowd 9 g
theorem bil_ne (n : Nat) : ∃ g r, bil n = g :: r := by
  by_cases h : n < 1000000000
  · exact ⟨_, _, bil_small h⟩
  · exact ⟨_, _, bil_big (by omega)⟩
theorem tx_cons (g : Nat) (r : List Nat) (h : r ≠ []) : tx (g :: r) = tx r ++ lowd 9 g := by
  cases r with
  | nil => exact absurd rfl h
  | cons x r => rfl
theorem tx_bil (n : Nat) : tx (bil n) = txt n := by
  induction n using Nat.strongRecOn with
  | _ n ih =>
    by_cases h : n < 1000000000
    · rw [bil_small h]; rfl
    · obtain ⟨g, r, hg⟩ := bil_ne (n / 1000000000)
      rw [bil_big (by omega), tx_cons _ _ (by rw [hg]; simp), ih _ (by omega), txt_split 9 n (by omega), show (10 : Nat) ^ 9 = 1000000000 from by decide]
      have := lowd_mod 9 n
      rw [show (10 : Nat) ^ 9 = 1000000000 from by decide] at this
      rw [this]
theorem bil_lt (n : Nat) : ∀ g ∈ bil n, g < 1000000000 := by
  induction n using Nat.strongRecOn with
  | _ n ih =>
    by_cases h : n < 1000000000
    · rw [bil_small h]; intro g hg; simp at hg; omega
    · rw [bil_big (by omega)]
      intro g hg
      rcases List.mem_cons.1 hg with h1 | h1
      · omega
      · exact ih _ (by omega) g h1
theorem okw_bil (n : Nat) : okw (bil n) := fun g hg => by have := bil_lt n g hg; omega
theorem atw_bil (n k : Nat) : atw (bil n) k < 1000000000 := by
  by_cases h : k < (bil n).length
  · unfold atw
    rw [List.getD_eq_getElem?_getD, List.getElem?_eq_getElem h]
    exact bil_lt n _ (List.getElem_mem h)
  · unfold atw
    rw [List.getD_eq_getElem?_getD, List.getElem?_eq_none (by omega)]
    decide
theorem bil_length_le {n k : Nat} (h : n < 2 ^ k) : (bil n).length ≤ k + 1 := by
  induction k generalizing n with
  | zero => rw [bil_small (by simp at h; omega)]; simp
  | succ k ih =>
    by_cases h1 : n < 1000000000
    · rw [bil_small h1]; simp
    · rw [bil_big (by omega), List.length_cons]
      have := ih (n := n / 1000000000) (by rw [Nat.pow_succ] at h; omega)
      omega
/-- Nine digits, noughts ahead and all. -/
theorem pad_txt {g : Nat} (h : g < 1000000000) : txt (1000000000 + g) = 49 :: lowd 9 g := by
  have h1 := lowd_mod 9 (1000000000 + g)
  have hp : (10 : Nat) ^ 9 = 1000000000 := by decide
  rw [txt_split 9 _ (by omega), ← h1, hp, show (1000000000 + g) / 1000000000 = 1 by omega, show (1000000000 + g) % 1000000000 = g by omega, txt_small (by decide)]
  rfl
/-- Groups are written from the highest one down: s is the text of those from place k on. -/
def TxAt (L : List Nat) (k : Nat) (s : List UInt8) : Prop := k < L.length ∧ s = tx (L.drop k)
theorem tx_start {L : List Nat} {m : Nat} (h : L.length = m + 1) : TxAt L m (txt (atw L m)) := by
  refine ⟨by omega, ?_⟩
  rw [List.drop_eq_getElem_cons (show m < L.length by omega), List.drop_of_length_le (show L.length ≤ m + 1 by omega)]
  unfold atw
  rw [List.getD_eq_getElem?_getD, List.getElem?_eq_getElem (show m < L.length by omega)]
  rfl
theorem tx_step {L : List Nat} {k : Nat} {s : List UInt8} (h : TxAt L (k + 1) s) : TxAt L k (s ++ lowd 9 (atw L k)) := by
  obtain ⟨h1, h2⟩ := h
  refine ⟨by omega, ?_⟩
  have h3 : L.drop (k + 1) ≠ [] := by
    intro h4
    have := congrArg List.length h4
    rw [List.length_drop] at this
    simp at this
    omega
  rw [List.drop_eq_getElem_cons (show k < L.length by omega), tx_cons _ _ h3, ← h2]
  unfold atw
  rw [List.getD_eq_getElem?_getD, List.getElem?_eq_getElem (show k < L.length by omega)]
  rfl
theorem tx_end {n : Nat} {s : List UInt8} (h : TxAt (bil n) 0 s) : s = txt n := by
  rw [h.2, List.drop_zero, tx_bil]
theorem tx_length {n k : Nat} {s : List UInt8} (h : TxAt (bil n) k s) : s.length ≤ (txt n).length := by
  have key : ∀ (k : Nat) (s : List UInt8), TxAt (bil n) k s → s.length ≤ (txt n).length := by
    intro k
    induction k with
    | zero => intro s h; rw [tx_end h]; exact Nat.le_refl _
    | succ k ih =>
      intro s h
      have := ih _ (tx_step h)
      rw [List.length_append] at this
      omega
  exact key k s h
end Go.Proofs.YtgncfkednfjbpaaDoor
