/-
  Plain mathematics: common divisors by halving and taking away. Nothing of the program.
-/
import Derived.Test.YtkpnhohaolfmgaaQuotPlain
namespace Go.Proofs.Ytkpnhohaolfmgaa

/-- What is left of a number that isn't 0 when it is halved as often as it goes. -/
def oddp (v : Nat) : Nat := v / 2 ^ tz v
theorem odd_part {v : Nat} (h : v ≠ 0) : v = 2 ^ tz v * oddp v ∧ oddp v % 2 = 1 := by
  obtain ⟨m, hm⟩ := tz_spec v h
  have h1 : oddp v = 2 * m + 1 := by
    unfold oddp
    conv => lhs; arg 1; rw [hm]
    exact Nat.mul_div_cancel_left _ (Nat.two_pow_pos _)
  rw [h1]
  exact ⟨hm, by omega⟩
theorem two_odd {x : Nat} (h : x % 2 = 1) : Nat.Coprime 2 x := by
  rw [Nat.coprime_iff_gcd_eq_one, Nat.gcd_rec, h]; decide
theorem gcd_parts {a b : Nat} (ha : a ≠ 0) (hb : b ≠ 0) : Nat.gcd a b = Nat.gcd (oddp a) (oddp b) * 2 ^ min (tz a) (tz b) := by
  obtain ⟨h1, h2⟩ := odd_part ha
  obtain ⟨h3, h4⟩ := odd_part hb
  generalize oddp a = X at *
  generalize oddp b = Y at *
  generalize tz a = m at *
  generalize tz b = n at *
  subst h1
  subst h3
  rcases Nat.le_total m n with h | h
  · obtain ⟨k, rfl⟩ : ∃ k, n = m + k := ⟨n - m, by omega⟩
    rw [Nat.min_eq_left h, Nat.pow_add, Nat.mul_assoc, Nat.gcd_mul_left, Nat.mul_comm]
    congr 1
    exact Nat.Coprime.gcd_mul_left_cancel_right _ ((two_odd h2).pow_left k)
  · obtain ⟨k, rfl⟩ : ∃ k, m = n + k := ⟨m - n, by omega⟩
    rw [Nat.min_eq_right h, Nat.pow_add, Nat.mul_assoc, Nat.gcd_mul_left, Nat.mul_comm]
    congr 1
    exact Nat.Coprime.gcd_mul_left_cancel _ ((two_odd h4).pow_left k)
theorem gcd_step {X Y : Nat} (hlt : Y < X) (hY : Y % 2 = 1) : Nat.gcd (oddp (X - Y)) Y = Nat.gcd X Y ∧ oddp (X - Y) < X ∧ oddp (X - Y) % 2 = 1 := by
  obtain ⟨h1, h2⟩ := odd_part (v := X - Y) (by omega)
  refine ⟨?_, ?_, h2⟩
  · have h3 : Nat.gcd (X - Y) Y = Nat.gcd X Y := Nat.gcd_sub_self_left (by omega)
    rw [← h3]
    conv => rhs; arg 1; rw [h1]
    exact (Nat.Coprime.gcd_mul_left_cancel _ ((two_odd hY).pow_left _)).symm
  · have h4 : oddp (X - Y) ≤ X - Y := Nat.div_le_self _ _
    omega

/-- L over 2^s, in place, k words of it done. -/
def ShiftAt (L R : List Nat) (s k : Nat) : Prop := low R k = val L / 2 ^ s % 4294967296 ^ k ∧ ∀ j, k ≤ j → atw R j = atw L j
theorem shift_start (L : List Nat) (s : Nat) : ShiftAt L L s 0 := ⟨by rw [low_zero, Nat.pow_zero, Nat.mod_one], fun _ _ => rfl⟩
theorem low_set {R : List Nat} {k y : Nat} : low (R.set k y) k = low R k := by
  unfold low; rw [List.take_set, List.set_eq_of_length_le (by rw [List.length_take]; omega)]
theorem atw_set_self {R : List Nat} {k y : Nat} (h : k < R.length) : atw (R.set k y) k = y := by
  unfold atw; rw [List.getD_eq_getElem?_getD, List.getElem?_set_self h]; rfl
theorem shift_word {L : List Nat} (ho : okw L) {s k : Nat} (hs : s ≤ 32) : val L / 2 ^ s / 4294967296 ^ k % 4294967296 = (atw L (k + 1) * 4294967296 + atw L k) / 2 ^ s % 4294967296 := by
  have h1 : val L / 2 ^ s / 4294967296 ^ k = top L k / 2 ^ s := by
    rw [top_div ho k, Nat.div_div_eq_div_mul, Nat.div_div_eq_div_mul, pow32, Nat.mul_comm]
  have h2 : top L k = atw L (k + 1) * 4294967296 + atw L k + 2 ^ s * (4294967296 * (2 ^ (32 - s) * top L (k + 2))) := by
    have h3 : 2 ^ s * (4294967296 * (2 ^ (32 - s) * top L (k + 2))) = 4294967296 * (4294967296 * top L (k + 2)) := by
      rw [Nat.mul_left_comm, ← Nat.mul_assoc (2 ^ s), ← Nat.pow_add, show s + (32 - s) = 32 by omega]
    rw [h3, top_succ L k, top_succ L (k + 1), show k + 1 + 1 = k + 2 from rfl]
    omega
  rw [h1, h2, Nat.add_mul_div_left _ _ (Nat.two_pow_pos s), Nat.add_mul_mod_self_left]
theorem shift_step {L R : List Nat} {s k y : Nat} (h : ShiftAt L R s k) (ho : okw L) (hs : s ≤ 32) (hk : k < R.length) (hy : y = (atw L (k + 1) * 4294967296 + atw L k) / 2 ^ s % 4294967296) : ShiftAt L (R.set k y) s (k + 1) := by
  refine ⟨?_, fun j hj => by rw [atw_set_ne (by omega)]; exact h.2 j (by omega)⟩
  rw [low_succ, low_set, atw_set_self hk, h.1, hy, ← shift_word ho hs, Nat.pow_succ, Nat.mod_mul]
theorem shift_end {L R : List Nat} {s n : Nat} (h : ShiftAt L R s n) (ho : okw L) (hL : L.length = n) (hR : R.length = n) : val R = val L / 2 ^ s := by
  have h1 := h.1
  rw [low_ge (by omega)] at h1
  rw [h1]
  apply Nat.mod_eq_of_lt
  have h2 := val_lt ho
  rw [hL] at h2
  exact Nat.lt_of_le_of_lt (Nat.div_le_self _ _) h2
theorem low_noughts {L : List Nat} {q : Nat} (h : low L q = 0) (hz : atw L q = 0) : low L (q + 1) = 0 := by rw [low_succ, h, hz]; simp
theorem top_left {L : List Nat} {q : Nat} (h : low L q = 0) (hv : val L ≠ 0) : q < L.length := by
  rcases Nat.lt_or_ge q L.length with h1 | h1
  · exact h1
  · rw [low_ge h1] at h; exact absurd h hv
/-- A list taken twice, so often: words ahead, and a factor. -/
theorem double_val (l : List Nat) (q r : Nat) : val (List.replicate q 0 ++ l) * val [2 ^ r] = val l * 2 ^ (32 * q + r) := by
  rw [val_append, val_zeros, List.length_replicate, Nat.zero_add, pow32]
  simp only [val]
  rw [Nat.mul_zero, Nat.add_zero, Nat.pow_add, Nat.mul_comm (2 ^ (32 * q)), Nat.mul_assoc]
end Go.Proofs.Ytkpnhohaolfmgaa
