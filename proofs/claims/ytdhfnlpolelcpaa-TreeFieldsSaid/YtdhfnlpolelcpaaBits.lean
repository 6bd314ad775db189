/-
  Plain mathematics: the bits of natural numbers, of lists of words, and shifts. Nothing of the program.
-/
import Derived.Test.YtdhfnlpolelcpaaWords2
import Derived.Lib.BitFns
import Derived.Lib.TrailingZeros
namespace Go.Proofs.Ytdhfnlpolelcpaa

theorem pow32 (k : Nat) : (4294967296 : Nat) ^ k = 2 ^ (32 * k) := by rw [Nat.pow_mul]

/-- How many bits a number has. -/
def blen (n : Nat) : Nat := if n = 0 then 0 else n.log2 + 1
/-- How many of them at the low end are 0; 0 of the number 0. -/
def tz (n : Nat) : Nat := if h : n = 0 then 0 else if n % 2 = 1 then 0 else tz (n / 2) + 1
termination_by n
decreasing_by omega

theorem blen_zero : blen 0 = 0 := rfl
theorem lt_blen (n : Nat) : n < 2 ^ blen n := by
  unfold blen; split
  · subst_vars; decide
  · exact Nat.lt_log2_self
theorem blen_le {n k : Nat} : blen n ≤ k ↔ n < 2 ^ k := by
  constructor
  · intro h; exact Nat.lt_of_lt_of_le (lt_blen n) (Nat.pow_le_pow_right (by decide) h)
  · intro h
    unfold blen; split
    · omega
    · rename_i h0; exact (Nat.log2_lt h0).2 h
theorem blen_ge {n : Nat} (h : n ≠ 0) : 2 ^ (blen n - 1) ≤ n := by
  unfold blen; rw [if_neg h, Nat.add_sub_cancel]; exact Nat.log2_self_le h
theorem blen_pos {n : Nat} (h : n ≠ 0) : 0 < blen n := by unfold blen; rw [if_neg h]; omega
theorem blen_eq {n k : Nat} (h : n < 2 ^ k) (hk : k = 0 ∨ 2 ^ (k - 1) ≤ n) : blen n = k := by
  have h1 := blen_le.2 h
  rcases hk with hk | hk
  · omega
  · rcases Nat.lt_or_ge (blen n) k with h2 | h2
    · have h3 := blen_le.1 (show blen n ≤ k - 1 by omega)
      omega
    · omega
theorem blen_mono {a b : Nat} (h : a ≤ b) : blen a ≤ blen b := blen_le.2 (Nat.lt_of_le_of_lt h (lt_blen b))
theorem blen_mul {v n : Nat} (h : v ≠ 0) : blen (v * 2 ^ n) = blen v + n := by
  have hp : 0 < blen v := blen_pos h
  apply blen_eq
  · rw [Nat.pow_add]; exact Nat.mul_lt_mul_of_pos_right (lt_blen v) (Nat.two_pow_pos n)
  · refine .inr ?_
    rw [show blen v + n - 1 = (blen v - 1) + n by omega, Nat.pow_add]
    exact Nat.mul_le_mul_right _ (blen_ge h)
theorem aux_zero (f : Nat) : Lib.bitLenAux f 0 = 0 := by cases f <;> simp [Lib.bitLenAux]
theorem aux_bounds : ∀ (f x : Nat), x < 2 ^ f → x ≠ 0 → 1 ≤ Lib.bitLenAux f x ∧ 2 ^ (Lib.bitLenAux f x - 1) ≤ x ∧ x < 2 ^ Lib.bitLenAux f x
  | 0, x, h, h0 => by simp at h; omega
  | f + 1, x, h, h0 => by
    rw [Lib.bitLenAux, if_neg h0]
    by_cases h2 : x / 2 = 0
    · rw [h2, aux_zero]
      have : x = 1 := by omega
      subst this
      simp
    · obtain ⟨a, b, c⟩ := aux_bounds f (x / 2) (by rw [Nat.pow_succ] at h; omega) h2
      generalize Lib.bitLenAux f (x / 2) = L at a b c ⊢
      obtain ⟨k, rfl⟩ : ∃ k, L = k + 1 := ⟨L - 1, by omega⟩
      simp only [Nat.add_sub_cancel] at b
      refine ⟨by omega, ?_, ?_⟩
      · rw [show 1 + (k + 1) - 1 = k + 1 by omega, Nat.pow_succ]; omega
      · rw [show 1 + (k + 1) = k + 1 + 1 by omega, Nat.pow_succ]; omega
theorem bitLen_blen {x : Nat} (h : x < 18446744073709551616) : Lib.bitLen x = blen x := by
  by_cases h0 : x = 0
  · subst h0; rfl
  · obtain ⟨a, b, c⟩ := aux_bounds 64 x h h0
    exact (blen_eq c (.inr b)).symm

theorem tz_zero : tz 0 = 0 := by rw [tz]; simp
theorem tz_odd {n : Nat} (h : n % 2 = 1) : tz n = 0 := by rw [tz]; simp [h]
theorem tz_even {n : Nat} (h0 : n ≠ 0) (h : n % 2 = 0) : tz n = tz (n / 2) + 1 := by rw [tz]; simp [h0, h]
theorem tz_pow (k m : Nat) : tz (2 ^ k * (2 * m + 1)) = k := by
  induction k with
  | zero => rw [Nat.pow_zero, Nat.one_mul, tz_odd (by omega)]
  | succ k ih =>
    have hp := Nat.two_pow_pos k
    have e : 2 ^ (k + 1) * (2 * m + 1) = 2 * (2 ^ k * (2 * m + 1)) := by rw [Nat.pow_succ, Nat.mul_comm (2 ^ k) 2, Nat.mul_assoc]
    have h0 : 2 ^ k * (2 * m + 1) ≠ 0 := Nat.ne_of_gt (Nat.mul_pos hp (by omega))
    rw [e, tz_even (by omega) (by omega), show 2 * (2 ^ k * (2 * m + 1)) / 2 = 2 ^ k * (2 * m + 1) by omega, ih]
theorem tz_spec (n : Nat) (h : n ≠ 0) : ∃ m, n = 2 ^ tz n * (2 * m + 1) := by
  induction n using Nat.strongRecOn with
  | _ n ih =>
    by_cases h1 : n % 2 = 1
    · exact ⟨n / 2, by rw [tz_odd h1]; omega⟩
    · obtain ⟨m, hm⟩ := ih (n / 2) (by omega) (by omega)
      refine ⟨m, ?_⟩
      rw [tz_even h (by omega), Nat.pow_succ, Nat.mul_comm _ 2, Nat.mul_assoc, ← hm]
      omega
theorem tz_mul {v n : Nat} (h : v ≠ 0) : tz (v * 2 ^ n) = tz v + n := by
  obtain ⟨m, hm⟩ := tz_spec v h
  have e : v * 2 ^ n = 2 ^ (tz v + n) * (2 * m + 1) := by
    conv => lhs; rw [hm]
    rw [Nat.pow_add, Nat.mul_assoc, Nat.mul_comm (2 * m + 1), ← Nat.mul_assoc]
  rw [e, tz_pow]
theorem tz_eq {n k : Nat} (h : n.testBit k = true) (hl : ∀ j, j < k → n.testBit j = false) : tz n = k := by
  have h0 : n ≠ 0 := by intro e; subst e; simp at h
  obtain ⟨m, hm⟩ := tz_spec n h0
  have hb : ∀ j, n.testBit j = (decide (tz n ≤ j) && (2 * m + 1).testBit (j - tz n)) := fun j => by
    conv => lhs; rw [hm]
    rw [Nat.testBit_two_pow_mul]
  rcases Nat.lt_trichotomy (tz n) k with h1 | h1 | h1
  · have := hl _ h1
    rw [hb, Nat.sub_self] at this
    simp [Nat.testBit_zero] at this
  · exact h1
  · rw [hb] at h
    simp only [Bool.and_eq_true, decide_eq_true_eq] at h
    omega
theorem ctz_tz {x : Nat} (h : x ≠ 0) (hx : x < 4294967296) : Lib.ctz 32 x = tz x := by
  unfold Lib.ctz; rw [if_neg h]
  obtain ⟨m, hm, _⟩ := Lib.ctzFrom_spec 32 x (by omega) hx
  conv => rhs; rw [hm]
  rw [tz_pow]
theorem tz_lt {x k : Nat} (h : x ≠ 0) (hx : x < 2 ^ k) : tz x < k := by
  obtain ⟨m, hm⟩ := tz_spec x h
  rcases Nat.lt_or_ge (tz x) k with h1 | h1
  · exact h1
  · have h2 : 2 ^ k ≤ 2 ^ tz x := Nat.pow_le_pow_right (by decide) h1
    have h3 : 2 ^ tz x * 1 ≤ 2 ^ tz x * (2 * m + 1) := Nat.mul_le_mul_left _ (by omega)
    omega

/-! Bits of lists of words. -/
theorem val_split2 (l : List Nat) (i : Nat) : val l = 2 ^ (32 * i) * top l i + low l i := by rw [val_split l i, pow32]; omega
theorem low_lt2 {l : List Nat} (h : okw l) (i : Nat) : low l i < 2 ^ (32 * i) := by rw [← pow32]; exact low_lt h i
theorem val_bit {l : List Nat} (h : okw l) (i : Nat) : (val l).testBit i = (atw l (i / 32)).testBit (i % 32) := by
  rw [val_split2 l (i / 32), Nat.testBit_two_pow_mul_add _ (low_lt2 h _), if_neg (by omega), top_succ]
  have e : i - 32 * (i / 32) = i % 32 := by omega
  rw [e, Nat.add_comm, show (4294967296 : Nat) = 2 ^ 32 from rfl, Nat.testBit_two_pow_mul_add _ (atw_lt h _), if_pos (by omega)]
/-- The topmost word that isn't 0. -/
theorem blen_top {l : List Nat} {i : Nat} (ho : okw l) (ht : top l (i + 1) = 0) (h0 : atw l i ≠ 0) : blen (val l) = 32 * i + blen (atw l i) := by
  have hl := low_lt2 ho i
  have hv : val l = 2 ^ (32 * i) * atw l i + low l i := by rw [val_split2 l i, top_succ, ht]; rfl
  have hb := blen_pos h0
  apply blen_eq
  · rw [hv, Nat.pow_add]
    have h1 : 2 ^ (32 * i) * atw l i + 2 ^ (32 * i) ≤ 2 ^ (32 * i) * 2 ^ blen (atw l i) := by
      rw [← Nat.mul_succ]; exact Nat.mul_le_mul_left _ (lt_blen _)
    omega
  · refine .inr ?_
    rw [hv, show 32 * i + blen (atw l i) - 1 = 32 * i + (blen (atw l i) - 1) by omega, Nat.pow_add]
    have h1 := Nat.mul_le_mul_left (2 ^ (32 * i)) (blen_ge h0)
    omega
/-- The lowest word that isn't 0. -/
theorem tz_low {l : List Nat} {i : Nat} (ho : okw l) (hl : low l i = 0) (h0 : atw l i ≠ 0) : tz (val l) = 32 * i + tz (atw l i) := by
  obtain ⟨m, hm⟩ := tz_spec _ h0
  have hx : val l = 2 ^ (32 * i) * (atw l i + 4294967296 * top l (i + 1)) := by rw [val_split2 l i, hl, top_succ]; rfl
  have ht : tz (atw l i) < 32 := tz_lt h0 (atw_lt ho i)
  generalize atw l i = x at *
  generalize top l (i + 1) = T at *
  have e : x + 4294967296 * T = 2 ^ tz x * (2 * (m + 2 ^ (31 - tz x) * T) + 1) := by
    have e1 : (4294967296 : Nat) = 2 ^ tz x * (2 * 2 ^ (31 - tz x)) := by
      rw [show 2 * 2 ^ (31 - tz x) = 2 ^ (31 - tz x + 1) by rw [Nat.pow_succ, Nat.mul_comm], ← Nat.pow_add, show tz x + (31 - tz x + 1) = 32 by omega]
    have e2 : 2 * (m + 2 ^ (31 - tz x) * T) + 1 = (2 * m + 1) + 2 * 2 ^ (31 - tz x) * T := by rw [Nat.mul_add, Nat.mul_assoc]; omega
    rw [e2, Nat.mul_add, ← hm, ← Nat.mul_assoc, ← e1]
  rw [hx, e, ← Nat.mul_assoc, ← Nat.pow_add, tz_pow]
end Go.Proofs.Ytdhfnlpolelcpaa
