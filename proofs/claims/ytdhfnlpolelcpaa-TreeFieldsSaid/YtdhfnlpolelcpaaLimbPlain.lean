/-
  Plain arithmetic behind layer 1 (words of 32 bits). Nothing of the program.
-/
import Derived.Lib.TrailingZeros
import Derived.Lib.BitFns
import Derived.Laws.Bits64b
namespace Go.Proofs.Ytdhfnlpolelcpaa

theorem wrapu32 (n : Int) : IntKind.u32.wrap n = n % 4294967296 := by simp [IntKind.wrap, IntKind.signed, IntKind.bits]

/-- The product of two words is no greater than the square of the greatest word. -/
theorem mul_words {x y : Int} (hx0 : 0 ≤ x) (hx : x ≤ 4294967295) (hy0 : 0 ≤ y) (hy : y ≤ 4294967295) : 0 ≤ x * y ∧ x * y ≤ 18446744065119617025 := by
  refine ⟨Int.mul_nonneg hx0 hy0, ?_⟩
  have h1 : x * y ≤ 4294967295 * y := Int.mul_le_mul_of_nonneg_right hx hy0
  omega

/-- A quotient by a divisor above the high word is a word. -/
theorem div_word {hi lo y : Int} (h0 : 0 ≤ hi) (hl0 : 0 ≤ lo) (hl : lo ≤ 4294967295) (hy : hi < y) : 0 ≤ (hi * 4294967296 + lo) / y ∧ (hi * 4294967296 + lo) / y ≤ 4294967295 := by
  refine ⟨Int.ediv_nonneg (by omega) (by omega), ?_⟩
  have : (hi * 4294967296 + lo) / y < 4294967296 := Int.ediv_lt_of_lt_mul (by omega) (by omega)
  omega

theorem mod_word {n y : Int} (hy0 : 0 < y) : 0 ≤ n % y ∧ n % y < y := ⟨Int.emod_nonneg _ (by omega), Int.emod_lt_of_pos _ hy0⟩

theorem or_words {hi lo : Int} (h0 : 0 ≤ hi) (h : hi ≤ 4294967295) (hl0 : 0 ≤ lo) (hl : lo ≤ 4294967295) : bits .or .u64 (hi * 4294967296) lo = hi * 4294967296 + lo := by
  obtain ⟨a, rfl⟩ := Int.eq_ofNat_of_zero_le h0
  obtain ⟨b, rfl⟩ := Int.eq_ofNat_of_zero_le hl0
  have e : (a : Int) * 4294967296 = ((a * 4294967296 : Nat) : Int) := by omega
  rw [e]
  have h1 : (BitVec.ofInt 64 ((a * 4294967296 : Nat) : Int)).toNat = a * 4294967296 := by
    rw [BitVec.ofInt_natCast, BitVec.toNat_ofNat]; exact Nat.mod_eq_of_lt (by omega)
  have h2 : (BitVec.ofInt 64 (b : Int)).toNat = b := by
    rw [BitVec.ofInt_natCast, BitVec.toNat_ofNat]; exact Nat.mod_eq_of_lt (by omega)
  have h3 : a * 4294967296 ||| b = a * 4294967296 + b := by
    have := Nat.two_pow_add_eq_or_of_lt (i := 32) (b := b) (by omega) a
    rw [Nat.mul_comm a 4294967296]
    exact this.symm
  show IntKind.u64.wrap ((BitVec.ofInt 64 ((a * 4294967296 : Nat) : Int) ||| BitVec.ofInt 64 (b : Int)).toNat : Int) = _
  rw [BitVec.toNat_or, h1, h2, h3, IntKind.wrap_u64]
  omega

/-! One step of the division bit by bit. -/
/-- The bit that stands at the loop's head when k steps are left: 0 behind the last. -/
def bitAt (k : Nat) : Int := ((2 ^ k / 2 : Nat) : Int)
/-- Quotient and rest of what is above the lowest k bits. -/
def topQ (hi lo y : Int) (k : Nat) : Int := (hi * 4294967296 + lo) / ((2 ^ k : Nat) : Int) / y
def topR (hi lo y : Int) (k : Nat) : Int := (hi * 4294967296 + lo) / ((2 ^ k : Nat) : Int) % y

theorem bitAt_zero : bitAt 0 = 0 := rfl
theorem bitAt_top : bitAt 32 = 2147483648 := rfl
theorem bitAt_succ (k : Nat) : bitAt (k + 1) = ((2 ^ k : Nat) : Int) := by
  unfold bitAt
  rw [Nat.pow_succ, Nat.mul_div_cancel _ (by decide)]
theorem bitAt_half (k : Nat) : bitAt (k + 1) / 2 = bitAt k := by
  rw [bitAt_succ]; unfold bitAt; omega
theorem bitAt_pos (k : Nat) : 1 ≤ bitAt (k + 1) := by
  rw [bitAt_succ]; have := Nat.two_pow_pos k; omega
theorem bitAt_le (k : Nat) (h : k ≤ 32) : bitAt k ≤ 2147483648 := by
  unfold bitAt
  have : 2 ^ k ≤ 2 ^ 32 := Nat.pow_le_pow_right (by decide) h
  omega

theorem topQ_top {hi lo y : Int} (h0 : 0 ≤ hi) (hl0 : 0 ≤ lo) (hl : lo ≤ 4294967295) (hy : hi < y) : topQ hi lo y 32 = 0 := by
  unfold topQ
  rw [show (hi * 4294967296 + lo) / ((2 ^ 32 : Nat) : Int) = hi from by omega]
  exact Int.ediv_eq_zero_of_lt h0 hy
theorem topR_top {hi lo y : Int} (h0 : 0 ≤ hi) (hl0 : 0 ≤ lo) (hl : lo ≤ 4294967295) (hy : hi < y) : topR hi lo y 32 = hi := by
  unfold topR
  rw [show (hi * 4294967296 + lo) / ((2 ^ 32 : Nat) : Int) = hi from by omega]
  exact Int.emod_eq_of_lt h0 hy
theorem topQ_zero (hi lo y : Int) : topQ hi lo y 0 = (hi * 4294967296 + lo) / y := by unfold topQ; simp
theorem topR_zero (hi lo y : Int) : topR hi lo y 0 = (hi * 4294967296 + lo) % y := by unfold topR; simp

theorem halves (hi lo : Int) (k : Nat) (hk : k < 32) :
    (hi * 4294967296 + lo) / ((2 ^ k : Nat) : Int) = 2 * ((hi * 4294967296 + lo) / ((2 ^ (k + 1) : Nat) : Int)) + lo / bitAt (k + 1) % 2 := by
  rw [bitAt_succ]
  have e1 : ((2 ^ (k + 1) : Nat) : Int) = ((2 ^ k : Nat) : Int) * 2 := by rw [Nat.pow_succ]; push_cast; rfl
  have hp : (0 : Int) < ((2 ^ k : Nat) : Int) := by have := Nat.two_pow_pos k; omega
  rw [e1, ← Int.ediv_ediv_of_nonneg (Int.le_of_lt hp)]
  have e2 : hi * 4294967296 + lo = lo + (hi * ((2 ^ (31 - k) : Nat) : Int) * 2) * ((2 ^ k : Nat) : Int) := by
    have : (4294967296 : Int) = ((2 ^ (31 - k) : Nat) : Int) * 2 * ((2 ^ k : Nat) : Int) := by
      have h : 2 ^ 32 = 2 ^ (31 - k) * 2 * 2 ^ k := by rw [← Nat.pow_succ, ← Nat.pow_add]; congr 1; omega
      rw [show (4294967296 : Int) = ((2 ^ 32 : Nat) : Int) from rfl, h]; push_cast; rfl
    rw [this, Int.add_comm]; congr 1; ac_rfl
  rw [e2, Int.add_mul_ediv_right _ _ (by omega)]
  omega

theorem top_step_below {hi lo y : Int} {k : Nat} (hy : 0 < y) (hk : k < 32) (h : 2 * topR hi lo y (k + 1) + lo / bitAt (k + 1) % 2 < y) (h1 : 0 ≤ topR hi lo y (k + 1)) :
    topQ hi lo y k = 2 * topQ hi lo y (k + 1) ∧ topR hi lo y k = 2 * topR hi lo y (k + 1) + lo / bitAt (k + 1) % 2 := by
  have e := halves hi lo k hk
  have d := Int.mul_ediv_add_emod ((hi * 4294967296 + lo) / ((2 ^ (k + 1) : Nat) : Int)) y
  unfold topQ topR at *
  generalize (hi * 4294967296 + lo) / ((2 ^ (k + 1) : Nat) : Int) = M at *
  generalize (hi * 4294967296 + lo) / ((2 ^ k : Nat) : Int) = L at *
  have ht : 0 ≤ lo / bitAt (k + 1) % 2 := by omega
  generalize lo / bitAt (k + 1) % 2 = t at *
  have key : L = (2 * (M % y) + t) + y * (2 * (M / y)) := by rw [e]; have : y * (2 * (M / y)) = 2 * (y * (M / y)) := by ac_rfl
                                                             omega
  refine ⟨?_, ?_⟩
  · rw [key, Int.add_mul_ediv_left _ _ (by omega), Int.ediv_eq_zero_of_lt (by omega) h]; omega
  · rw [key, Int.add_mul_emod_self_left, Int.emod_eq_of_lt (by omega) h]

theorem top_step_above {hi lo y : Int} {k : Nat} (hy : 0 < y) (hk : k < 32) (h : y ≤ 2 * topR hi lo y (k + 1) + lo / bitAt (k + 1) % 2) (h1 : topR hi lo y (k + 1) < y) :
    topQ hi lo y k = 2 * topQ hi lo y (k + 1) + 1 ∧ topR hi lo y k = 2 * topR hi lo y (k + 1) + lo / bitAt (k + 1) % 2 - y := by
  have e := halves hi lo k hk
  have d := Int.mul_ediv_add_emod ((hi * 4294967296 + lo) / ((2 ^ (k + 1) : Nat) : Int)) y
  unfold topQ topR at *
  generalize (hi * 4294967296 + lo) / ((2 ^ (k + 1) : Nat) : Int) = M at *
  generalize (hi * 4294967296 + lo) / ((2 ^ k : Nat) : Int) = L at *
  have ht : 0 ≤ lo / bitAt (k + 1) % 2 ∧ lo / bitAt (k + 1) % 2 ≤ 1 := by omega
  generalize lo / bitAt (k + 1) % 2 = t at *
  have key : L = (2 * (M % y) + t - y) + y * (2 * (M / y) + 1) := by
    rw [e]
    have : y * (2 * (M / y) + 1) = 2 * (y * (M / y)) + y := by rw [Int.mul_add, Int.mul_one]; congr 1; ac_rfl
    omega
  refine ⟨?_, ?_⟩
  · rw [key, Int.add_mul_ediv_left _ _ (by omega), Int.ediv_eq_zero_of_lt (by omega) (by omega)]; omega
  · rw [key, Int.add_mul_emod_self_left, Int.emod_eq_of_lt (by omega) (by omega)]

theorem topQ_le {hi lo y : Int} (k : Nat) (h0 : 0 ≤ hi) (hl0 : 0 ≤ lo) (hl : lo ≤ 4294967295) (hy : hi < y) : 0 ≤ topQ hi lo y k ∧ topQ hi lo y k ≤ 4294967295 := by
  unfold topQ
  have hp : (0 : Int) < ((2 ^ k : Nat) : Int) := by have := Nat.two_pow_pos k; omega
  refine ⟨Int.ediv_nonneg (Int.ediv_nonneg (by omega) (by omega)) (by omega), ?_⟩
  have h1 : (hi * 4294967296 + lo) / ((2 ^ k : Nat) : Int) ≤ hi * 4294967296 + lo := Int.ediv_le_self _ (by omega)
  have h2 := Int.ediv_le_ediv (c := y) (by omega) h1
  have h3 := div_word h0 hl0 hl hy
  omega
theorem topR_le {hi lo y : Int} (k : Nat) (hy : 0 < y) : 0 ≤ topR hi lo y k ∧ topR hi lo y k < y := mod_word hy

/-! TrailingZeros32 by the table (the shelf's own arithmetic). -/
theorem and_u32_nat (a b : Nat) (ha : a < 4294967296) (hb : b < 4294967296) : bits .and .u32 (a : Int) (b : Int) = ((a &&& b : Nat) : Int) := by
  have hx : a &&& b < 2 ^ 32 := Nat.and_lt_two_pow _ (by omega)
  have h1 : (BitVec.ofInt 32 (a : Int)).toNat = a := by
    rw [BitVec.ofInt_natCast, BitVec.toNat_ofNat]; exact Nat.mod_eq_of_lt (by omega)
  have h2 : (BitVec.ofInt 32 (b : Int)).toNat = b := by
    rw [BitVec.ofInt_natCast, BitVec.toNat_ofNat]; exact Nat.mod_eq_of_lt (by omega)
  show IntKind.u32.wrap ((BitVec.ofInt 32 (a : Int) &&& BitVec.ofInt 32 (b : Int)).toNat : Int) = _
  rw [BitVec.toNat_and, h1, h2, wrapu32]
  omega
theorem tz_key (x a : Nat) (hx : x < 4294967296) (hx0 : x ≠ 0) (hlow : x &&& (4294967296 - x) = a) :
    bits BinOp.and IntKind.u32 (x : Int) (-(x : Int) % 4294967296) * 125613361 % 4294967296 / 134217728 = ((a * 125613361 % 4294967296 / 134217728 : Nat) : Int) := by
  have e1 : -(x : Int) % 4294967296 = ((4294967296 - x : Nat) : Int) := by omega
  rw [e1, and_u32_nat x _ hx (by omega), hlow]
  omega
/-- A word cut in halves of 16 bits. -/
theorem half_words {x y : Int} (hx0 : 0 ≤ x) (hx : x ≤ 4294967295) (hy0 : 0 ≤ y) (hy : y ≤ 4294967295) :
    0 ≤ x / 65536 * y ∧ x / 65536 * y ≤ 281470681677825 ∧ 0 ≤ x % 65536 * y ∧ x % 65536 * y ≤ 281470681677825 ∧ x * y = 65536 * (x / 65536 * y) + x % 65536 * y := by
  have a0 : 0 ≤ x / 65536 := by omega
  have a1 : x / 65536 ≤ 65535 := by omega
  have b0 : 0 ≤ x % 65536 := by omega
  have b1 : x % 65536 ≤ 65535 := by omega
  have e : x = 65536 * (x / 65536) + x % 65536 := by omega
  generalize x / 65536 = a at *
  generalize x % 65536 = b at *
  have h1 : a * y ≤ 65535 * y := Int.mul_le_mul_of_nonneg_right a1 hy0
  have h2 : b * y ≤ 65535 * y := Int.mul_le_mul_of_nonneg_right b1 hy0
  refine ⟨Int.mul_nonneg a0 hy0, by omega, Int.mul_nonneg b0 hy0, by omega, ?_⟩
  rw [e, Int.add_mul, Int.mul_assoc]

theorem bitLen_step {f a : Nat} (h0 : a ≠ 0) (h : a < 2 ^ f) : ∃ g, f = g + 1 ∧ a / 2 < 2 ^ g ∧ Lib.bitLenAux f a = 1 + Lib.bitLenAux g (a / 2) := by
  cases f with
  | zero => simp at h; omega
  | succ g => exact ⟨g, rfl, by rw [Nat.pow_succ] at h; omega, by rw [Lib.bitLenAux, if_neg h0]⟩
theorem bitLen_end (f : Nat) : Lib.bitLenAux f 0 = 0 := by cases f <;> simp [Lib.bitLenAux]
theorem ctz_even {f a : Nat} (h : a < 2 ^ f) (h0 : a ≠ 0) (he : a % 2 = 0) : ∃ g, f = g + 1 ∧ a / 2 < 2 ^ g ∧ a / 2 ≠ 0 ∧ Lib.ctzFrom f a = 1 + Lib.ctzFrom g (a / 2) := by
  cases f with
  | zero => simp at h; omega
  | succ g => exact ⟨g, rfl, by rw [Nat.pow_succ] at h; omega, by omega, by rw [Lib.ctzFrom, if_neg (by omega)]⟩
theorem ctz_odd {f a : Nat} (he : a % 2 = 1) : Lib.ctzFrom f a = 0 := by
  cases f with
  | zero => rfl
  | succ g => rw [Lib.ctzFrom, if_pos he]
end Go.Proofs.Ytdhfnlpolelcpaa
