/-
  Several texts of this claim as one, group 2.
-/
import Derived.Lib.TrailingZeros
import Derived.Lib.BitFns
import Derived.Laws.Bits64b
import Derived.Test.YtiblojmdgjnfbaaDoorRows
import Derived.WalkKit
import Derived.WalkSpells
import Derived.WalkLawsBesides
import Derived.IntWalk
import Derived.Deep.QuietTactic
import Derived.BigQuiet
import Derived.Shelf.Small.Bits
import Derived.Test.YtiblojmdgjnfbaaDoorG1
import Derived.Deep.AppendSrc
import Derived.Deep.DeepMust
import Derived.Laws.CopyOwn
/-
  Plain arithmetic behind layer 1 (words of 32 bits). Nothing of the program.
-/
namespace Go.Proofs.YtiblojmdgjnfbaaDoor

theorem wrapu32 (n : Int) : IntKind.u32.wrap n = n % 4294967296 := by simp [IntKind.wrap, IntKind.signed, IntKind.bits]

/-- The product of two words is no greater than the square of the greatest word. -/
theorem mul_words {x y : Int} (hx0 : 0 ≤ x) (hx : x ≤ 4294967295) (hy0 : 0 ≤ y) (hy : y ≤ 4294967295) : 0 ≤ x * y ∧ x * y ≤ 18446744065119617025 := by
  refine ⟨Int.mul_nonneg hx0 hy0, ?_⟩
  have h1 : x * y ≤ 4294967295 * y := Int.mul_le_mul_of_nonneg_right hx hy0
  omega

/-- A quotient by a divisor above the high word is a word. -/
theorem div_word {hi lo y : Int} (h0 : 0 ≤ hi) (hl0 : 0 ≤ lo) (hl : lo ≤ 4294967295) (hy : hi < y) : 0 ≤ (hi * 4294967296 + lo) / y ∧ (hi * 4294967296 + lo) / y ≤ 4294967295 := by
  refine ⟨Int.ediv_nonneg (by omega) (by omega), ?_⟩
  have : (hi * 4294967296 + lo) / y < 4294967296 := Int.ediv_lt_of_lt_mul (by omega) (by omega)
  omega

theorem mod_word {n y : Int} (hy0 : 0 < y) : 0 ≤ n % y ∧ n % y < y := ⟨Int.emod_nonneg _ (by omega), Int.emod_lt_of_pos _ hy0⟩

theorem or_words {hi lo : Int} (h0 : 0 ≤ hi) (h : hi ≤ 4294967295) (hl0 : 0 ≤ lo) (hl : lo ≤ 4294967295) : bits .or .u64 (hi * 4294967296) lo = hi * 4294967296 + lo := by
  obtain ⟨a, rfl⟩ := Int.eq_ofNat_of_zero_le h0
  obtain ⟨b, rfl⟩ := Int.eq_ofNat_of_zero_le hl0
  have e : (a : Int) * 4294967296 = ((a * 4294967296 : Nat) : Int) := by omega
  rw [e]
  have h1 : (BitVec.ofInt 64 ((a * 4294967296 : Nat) : Int)).toNat = a * 4294967296 := by
    rw [BitVec.ofInt_natCast, BitVec.toNat_ofNat]; exact Nat.mod_eq_of_lt (by omega)
  have h2 : (BitVec.ofInt 64 (b : Int)).toNat = b := by
    rw [BitVec.ofInt_natCast, BitVec.toNat_ofNat]; exact Nat.mod_eq_of_lt (by omega)
  have h3 : a * 4294967296 ||| b = a * 4294967296 + b := by
    have := Nat.two_pow_add_eq_or_of_lt (i := 32) (b := b) (by omega) a
    rw [Nat.mul_comm a 4294967296]
    exact this.symm
  show IntKind.u64.wrap ((BitVec.ofInt 64 ((a * 4294967296 : Nat) : Int) ||| BitVec.ofInt 64 (b : Int)).toNat : Int) = _
  rw [BitVec.toNat_or, h1, h2, h3, IntKind.wrap_u64]
  omega

/-! One step of the division bit by bit. -/
/-- The bit that stands at the loop's head when k steps are left: 0 behind the last. -/
def bitAt (k : Nat) : Int := ((2 ^ k / 2 : Nat) : Int)
/-- Quotient and rest of what is above the lowest k bits. -/
def topQ (hi lo y : Int) (k : Nat) : Int := (hi * 4294967296 + lo) / ((2 ^ k : Nat) : Int) / y
def topR (hi lo y : Int) (k : Nat) : Int := (hi * 4294967296 + lo) / ((2 ^ k : Nat) : Int) % y

theorem bitAt_zero : bitAt 0 = 0 := rfl
theorem bitAt_top : bitAt 32 = 2147483648 := rfl
theorem bitAt_succ (k : Nat) : bitAt (k + 1) = ((2 ^ k : Nat) : Int) := by
  unfold bitAt
  rw [Nat.pow_succ, Nat.mul_div_cancel _ (by decide)]
theorem bitAt_half (k : Nat) : bitAt (k + 1) / 2 = bitAt k := by
  rw [bitAt_succ]; unfold bitAt; omega
theorem bitAt_pos (k : Nat) : 1 ≤ bitAt (k + 1) := by
  rw [bitAt_succ]; have := Nat.two_pow_pos k; omega
theorem bitAt_le (k : Nat) (h : k ≤ 32) : bitAt k ≤ 2147483648 := by
  unfold bitAt
  have : 2 ^ k ≤ 2 ^ 32 := Nat.pow_le_pow_right (by decide) h
  omega

theorem topQ_top {hi lo y : Int} (h0 : 0 ≤ hi) (hl0 : 0 ≤ lo) (hl : lo ≤ 4294967295) (hy : hi < y) : topQ hi lo y 32 = 0 := by
  unfold topQ
  rw [show (hi * 4294967296 + lo) / ((2 ^ 32 : Nat) : Int) = hi from by omega]
  exact Int.ediv_eq_zero_of_lt h0 hy
theorem topR_top {hi lo y : Int} (h0 : 0 ≤ hi) (hl0 : 0 ≤ lo) (hl : lo ≤ 4294967295) (hy : hi < y) : topR hi lo y 32 = hi := by
  unfold topR
  rw [show (hi * 4294967296 + lo) / ((2 ^ 32 : Nat) : Int) = hi from by omega]
  exact Int.emod_eq_of_lt h0 hy
theorem topQ_zero (hi lo y : Int) : topQ hi lo y 0 = (hi * 4294967296 + lo) / y := by unfold topQ; simp
theorem topR_zero (hi lo y : Int) : topR hi lo y 0 = (hi * 4294967296 + lo) % y := by unfold topR; simp

theorem halves (hi lo : Int) (k : Nat) (hk : k < 32) :
    (hi * 4294967296 + lo) / ((2 ^ k : Nat) : Int) = 2 * ((hi * 4294967296 + lo) / ((2 ^ (k + 1) : Nat) : Int)) + lo / bitAt (k + 1) % 2 := by
  rw [bitAt_succ]
  have e1 : ((2 ^ (k + 1) : Nat) : Int) = ((2 ^ k : Nat) : Int) * 2 := by rw [Nat.pow_succ]; push_cast; rfl
  have hp : (0 : Int) < ((2 ^ k : Nat) : Int) := by have := Nat.two_pow_pos k; omega
  rw [e1, ← Int.ediv_ediv_of_nonneg (Int.le_of_lt hp)]
  have e2 : hi * 4294967296 + lo = lo + (hi * ((2 ^ (31 - k) : Nat) : Int) * 2) * ((2 ^ k : Nat) : Int) := by
    have : (4294967296 : Int) = ((2 ^ (31 - k) : Nat) : Int) * 2 * ((2 ^ k : Nat) : Int) := by
      have h : 2 ^ 32 = 2 ^ (31 - k) * 2 * 2 ^ k := by rw [← Nat.pow_succ, ← Nat.pow_add]; congr 1; omega
      rw [show (4294967296 : Int) = ((2 ^ 32 : Nat) : Int) from rfl, h]; push_cast; rfl
    rw [this, Int.add_comm]; congr 1; ac_rfl
  rw [e2, Int.add_mul_ediv_right _ _ (by omega)]
  omega

theorem top_step_below {hi lo y : Int} {k : Nat} (hy : 0 < y) (hk : k < 32) (h : 2 * topR hi lo y (k + 1) + lo / bitAt (k + 1) % 2 < y) (h1 : 0 ≤ topR hi lo y (k + 1)) :
    topQ hi lo y k = 2 * topQ hi lo y (k + 1) ∧ topR hi lo y k = 2 * topR hi lo y (k + 1) + lo / bitAt (k + 1) % 2 := by
  have e := halves hi lo k hk
  have d := Int.mul_ediv_add_emod ((hi * 4294967296 + lo) / ((2 ^ (k + 1) : Nat) : Int)) y
  unfold topQ topR at *
  generalize (hi * 4294967296 + lo) / ((2 ^ (k + 1) : Nat) : Int) = M at *
  generalize (hi * 4294967296 + lo) / ((2 ^ k : Nat) : Int) = L at *
  have ht : 0 ≤ lo / bitAt (k + 1) % 2 := by omega
  generalize lo / bitAt (k + 1) % 2 = t at *
  have key : L = (2 * (M % y) + t) + y * (2 * (M / y)) := by rw [e]; have : y * (2 * (M / y)) = 2 * (y * (M / y)) := by ac_rfl
                                                             omega
  refine ⟨?_, ?_⟩
  · rw [key, Int.add_mul_ediv_left _ _ (by omega), Int.ediv_eq_zero_of_lt (by omega) h]; omega
  · rw [key, Int.add_mul_emod_self_left, Int.emod_eq_of_lt (by omega) h]

theorem top_step_above {hi lo y : Int} {k : Nat} (hy : 0 < y) (hk : k < 32) (h : y ≤ 2 * topR hi lo y (k + 1) + lo / bitAt (k + 1) % 2) (h1 : topR hi lo y (k + 1) < y) :
    topQ hi lo y k = 2 * topQ hi lo y (k + 1) + 1 ∧ topR hi lo y k = 2 * topR hi lo y (k + 1) + lo / bitAt (k + 1) % 2 - y := by
  have e := halves hi lo k hk
  have d := Int.mul_ediv_add_emod ((hi * 4294967296 + lo) / ((2 ^ (k + 1) : Nat) : Int)) y
  unfold topQ topR at *
  generalize (hi * 4294967296 + lo) / ((2 ^ (k + 1) : Nat) : Int) = M at *
  generalize (hi * 4294967296 + lo) / ((2 ^ k : Nat) : Int) = L at *
  have ht : 0 ≤ lo / bitAt (k + 1) % 2 ∧ lo / bitAt (k + 1) % 2 ≤ 1 := by omega
  generalize lo / bitAt (k + 1) % 2 = t at *
  have key : L = (2 * (M % y) + t - y) + y * (2 * (M / y) + 1) := by
    rw [e]
    have : y * (2 * (M / y) + 1) = 2 * (y * (M / y)) + y := by rw [Int.mul_add, Int.mul_one]; congr 1; ac_rfl
    omega
  refine ⟨?_, ?_⟩
  · rw [key, Int.add_mul_ediv_left _ _ (by omega), Int.ediv_eq_zero_of_lt (by omega) (by omega)]; omega
  · rw [key, Int.add_mul_emod_self_left, Int.emod_eq_of_lt (by omega) (by omega)]

theorem topQ_le {hi lo y : Int} (k : Nat) (h0 : 0 ≤ hi) (hl0 : 0 ≤ lo) (hl : lo ≤ 4294967295) (hy : hi < y) : 0 ≤ topQ hi lo y k ∧ topQ hi lo y k ≤ 4294967295 := by
  unfold topQ
  have hp : (0 : Int) < ((2 ^ k : Nat) : Int) := by have := Nat.two_pow_pos k; omega
  refine ⟨Int.ediv_nonneg (Int.ediv_nonneg (by omega) (by omega)) (by omega), ?_⟩
  have h1 : (hi * 4294967296 + lo) / ((2 ^ k : Nat) : Int) ≤ hi * 4294967296 + lo := Int.ediv_le_self _ (by omega)
  have h2 := Int.ediv_le_ediv (c := y) (by omega) h1
  have h3 := div_word h0 hl0 hl hy
  omega
theorem topR_le {hi lo y : Int} (k : Nat) (hy : 0 < y) : 0 ≤ topR hi lo y k ∧ topR hi lo y k < y := mod_word hy

/-! TrailingZeros32 by the table (the shelf's own arithmetic). -/
theorem and_u32_nat (a b : Nat) (ha : a < 4294967296) (hb : b < 4294967296) : bits .and .u32 (a : Int) (b : Int) = ((a &&& b : Nat) : Int) := by
  have hx : a &&& b < 2 ^ 32 := Nat.and_lt_two_pow _ (by omega)
  have h1 : (BitVec.ofInt 32 (a : Int)).toNat = a := by
    rw [BitVec.ofInt_natCast, BitVec.toNat_ofNat]; exact Nat.mod_eq_of_lt (by omega)
  have h2 : (BitVec.ofInt 32 (b : Int)).toNat = b := by
    rw [BitVec.ofInt_natCast, BitVec.toNat_ofNat]; exact Nat.mod_eq_of_lt (by omega)
  show IntKind.u32.wrap ((BitVec.ofInt 32 (a : Int) &&& BitVec.ofInt 32 (b : Int)).toNat : Int) = _
  rw [BitVec.toNat_and, h1, h2, wrapu32]
  omega
theorem tz_key (x a : Nat) (hx : x < 4294967296) (hx0 : x ≠ 0) (hlow : x &&& (4294967296 - x) = a) :
    bits BinOp.and IntKind.u32 (x : Int) (-(x : Int) % 4294967296) * 125613361 % 4294967296 / 134217728 = ((a * 125613361 % 4294967296 / 134217728 : Nat) : Int) := by
  have e1 : -(x : Int) % 4294967296 = ((4294967296 - x : Nat) : Int) := by omega
  rw [e1, and_u32_nat x _ hx (by omega), hlow]
  omega
/-- A word cut in halves of 16 bits. -/
theorem half_words {x y : Int} (hx0 : 0 ≤ x) (hx : x ≤ 4294967295) (hy0 : 0 ≤ y) (hy : y ≤ 4294967295) :
    0 ≤ x / 65536 * y ∧ x / 65536 * y ≤ 281470681677825 ∧ 0 ≤ x % 65536 * y ∧ x % 65536 * y ≤ 281470681677825 ∧ x * y = 65536 * (x / 65536 * y) + x % 65536 * y := by
  have a0 : 0 ≤ x / 65536 := by omega
  have a1 : x / 65536 ≤ 65535 := by omega
  have b0 : 0 ≤ x % 65536 := by omega
  have b1 : x % 65536 ≤ 65535 := by omega
  have e : x = 65536 * (x / 65536) + x % 65536 := by omega
  generalize x / 65536 = a at *
  generalize x % 65536 = b at *
  have h1 : a * y ≤ 65535 * y := Int.mul_le_mul_of_nonneg_right a1 hy0
  have h2 : b * y ≤ 65535 * y := Int.mul_le_mul_of_nonneg_right b1 hy0
  refine ⟨Int.mul_nonneg a0 hy0, by omega, Int.mul_nonneg b0 hy0, by omega, ?_⟩
  rw [e, Int.add_mul, Int.mul_assoc]

theorem bitLen_step {f a : Nat} (h0 : a ≠ 0) (h : a < 2 ^ f) : ∃ g, f = g + 1 ∧ a / 2 < 2 ^ g ∧ Lib.bitLenAux f a = 1 + Lib.bitLenAux g (a / 2) := by
  cases f with
  | zero => simp at h; omega
  | succ g => exact ⟨g, rfl, by rw [Nat.pow_succ] at h; omega, by rw [Lib.bitLenAux, if_neg h0]⟩
theorem bitLen_end (f : Nat) : Lib.bitLenAux f 0 = 0 := by cases f <;> simp [Lib.bitLenAux]
theorem ctz_even {f a : Nat} (h : a < 2 ^ f) (h0 : a ≠ 0) (he : a % 2 = 0) : ∃ g, f = g + 1 ∧ a / 2 < 2 ^ g ∧ a / 2 ≠ 0 ∧ Lib.ctzFrom f a = 1 + Lib.ctzFrom g (a / 2) := by
  cases f with
  | zero => simp at h; omega
  | succ g => exact ⟨g, rfl, by rw [Nat.pow_succ] at h; omega, by omega, by rw [Lib.ctzFrom, if_neg (by omega)]⟩
theorem ctz_odd {f a : Nat} (he : a % 2 = 1) : Lib.ctzFrom f a = 0 := by
  cases f with
  | zero => rfl
  | succ g => rw [Lib.ctzFrom, if_pos he]
end Go.Proofs.YtiblojmdgjnfbaaDoor

/-
  The contracts of package limb (layer 1) at this seat: what each call returns, for every word, and that the world is as it was.
-/
namespace Go.Proofs.YtiblojmdgjnfbaaDoor
open Go.RowKit

theorem limb_add (x y c : Int) (w : World) (hx0 : 0 ≤ x) (hx : x ≤ 4294967295) (hy0 : 0 ≤ y) (hy : y ≤ 4294967295) (hc0 : 0 ≤ c) (hc : c ≤ 4294967295) : Calls Tryd.prog 78 #[.int .u32 x, .int .u32 y, .int .u32 c] w fun e w' => e = .returned (.tuple #[.int .u32 ((x + y + c) % 4294967296), .int .u32 ((x + y + c) / 4294967296)]) ∧ w = w' := by
  go_enter Tryd.func78, Tryd.ntmps78
  go_wp2
  go_ret2
  exact ⟨rfl, rfl⟩
theorem limb_sub (x y c : Int) (w : World) (hx0 : 0 ≤ x) (hx : x ≤ 4294967295) (hy0 : 0 ≤ y) (hy : y ≤ 4294967295) (hc0 : 0 ≤ c) (hc : c ≤ 4294967295) : Calls Tryd.prog 79 #[.int .u32 x, .int .u32 y, .int .u32 c] w fun e w' => e = .returned (.tuple #[.int .u32 ((x - y - c) % 4294967296), .int .u32 (-((x - y - c) / 4294967296))]) ∧ w = w' := by
  go_enter Tryd.func79, Tryd.ntmps79
  go_wp2
  go_ret2
  exact ⟨rfl, rfl⟩
theorem limb_mul (x y c d : Int) (w : World) (hx0 : 0 ≤ x) (hx : x ≤ 4294967295) (hy0 : 0 ≤ y) (hy : y ≤ 4294967295) (hc0 : 0 ≤ c) (hc : c ≤ 4294967295) (hd0 : 0 ≤ d) (hd : d ≤ 4294967295) : Calls Tryd.prog 65 #[.int .u32 x, .int .u32 y, .int .u32 c, .int .u32 d] w fun e w' => e = .returned (.tuple #[.int .u32 ((x * y + c + d) / 4294967296), .int .u32 ((x * y + c + d) % 4294967296)]) ∧ w = w' := by
  obtain ⟨hm0, hm⟩ := mul_words hx0 hx hy0 hy
  go_enter Tryd.func65, Tryd.ntmps65
  go_wp2
  go_ret2
  exact ⟨rfl, rfl⟩
theorem limb_div_no (hi lo y : Int) (w : World) (hge : y ≤ hi) : Calls Tryd.prog 80 #[.int .u32 hi, .int .u32 lo, .int .u32 y] w fun e w' => e = .returned (.tuple #[.int .u32 0, .int .u32 0, .bool false]) ∧ w = w' := by
  go_enter Tryd.func80, Tryd.ntmps80
  go_wp2
  go_ret3
  exact ⟨rfl, rfl⟩
theorem limb_div_yes (hi lo y : Int) (w : World) (hh0 : 0 ≤ hi) (hh : hi ≤ 4294967295) (hl0 : 0 ≤ lo) (hl : lo ≤ 4294967295) (hy : y ≤ 4294967295) (hlt : hi < y) : Calls Tryd.prog 80 #[.int .u32 hi, .int .u32 lo, .int .u32 y] w fun e w' => e = .returned (.tuple #[.int .u32 ((hi * 4294967296 + lo) / y), .int .u32 ((hi * 4294967296 + lo) % y), .bool true]) ∧ ∃ n, w' = w.drewN n := by
  have hor := or_words hh0 hh hl0 hl
  obtain ⟨hq0, hq⟩ := div_word hh0 hl0 hl hlt
  obtain ⟨hr0, hr⟩ := mod_word (n := hi * 4294967296 + lo) (y := y) (by omega)
  go_enter Tryd.func80, Tryd.ntmps80
  go_wp2
  go_quiet (fail)
  go_wp2
  go_ret3
  exact ⟨rfl, _, rfl⟩
def len32_ren : Go.Shelf.Ren := ⟨fun | 128 => 89 | n => n, fun | 51 => 72 | 3 => 3 | 4 => 4 | 46 => 91 | 5 => 5 | 9 => 9 | n => n, fun | n => n⟩
theorem len32_lays : Go.Proofs.Lays.n128 Tryd.prog len32_ren := {
  mixed := by kernel_rfl
  f128 := Tryd.func89.trans (congrArg some (by kernel_rfl))
  t3 := Tryd.underlying3
  a3 := Tryd.isAgg3
  z3 := Tryd.sizeOf3
  v3 := Tryd.zeroValue3
  t4 := Tryd.underlying4
  a4 := Tryd.isAgg4
  z4 := Tryd.sizeOf4
  v4 := Tryd.zeroValue4
  t5 := Tryd.underlying5
  a5 := Tryd.isAgg5
  z5 := Tryd.sizeOf5
  v5 := Tryd.zeroValue5
  t9 := Tryd.underlying9
  a9 := Tryd.isAgg9
  z9 := Tryd.sizeOf9
  v9 := Tryd.zeroValue9
  t46 := Tryd.underlying91
  a46 := Tryd.isAgg91
  z46 := Tryd.sizeOf91
  v46 := Tryd.zeroValue91
  t51 := Tryd.underlying72
  a51 := Tryd.isAgg72
  z51 := Tryd.sizeOf72
  v51 := Tryd.zeroValue72 }
theorem bits_len32 (x : Int) (w : World) (h0 : 0 ≤ x) (h1 : x ≤ 4294967295) : Calls Tryd.prog 89 #[.int .u32 x] w fun e w' => e = .returned (.int .i64 (Lib.bitLen x.toNat)) ∧ w = w' := (Any.bits_Len32 len32_lays x w h0 h1).mono fun _ _ ⟨he, hw⟩ => ⟨he, hw.symm⟩
theorem limb_len (x : Int) (w : World) (h0 : 0 ≤ x) (h1 : x ≤ 4294967295) : Calls Tryd.prog 81 #[.int .u32 x] w fun e w' => e = .returned (.int .i64 (Lib.bitLen x.toNat)) ∧ w = w' := by
  go_enter Tryd.func81, Tryd.ntmps81
  go_wp2_with (go_at_call 89; refine (bits_len32 x _ h0 h1).mono ?_; rintro e w' ⟨rfl, rfl⟩)
  go_ret
  exact ⟨rfl, rfl⟩

/-- The table of package bits, as its initialiser lays it. -/
def Tab (w : World) : Prop := ∀ j, j < 32 → w.cell? ⟨1, j, none⟩ = some (.int .u8 (Lib.deBruijn32tab.getD j 0))
theorem Tab.later {w w' : World} (h : Tab w) (hb : Below w.heap.size w w') : Tab w' := fun j hj => cell_later hb (h j hj)
theorem tz32_zero (w : World) : Calls Tryd.prog 106 #[.int .u32 0] w fun e w' => e = .returned (.int .i64 32) ∧ w = w' := by
  go_enter Tryd.func106, Tryd.ntmps106
  go_wp2
  go_ret
  exact ⟨rfl, rfl⟩
theorem tz32_core (x k idx : Nat) (w : World) (hx0 : ((x : Int) == 0) = false) (key : bits BinOp.and IntKind.u32 (x : Int) (-(x : Int) % 4294967296) * 125613361 % 4294967296 / 134217728 = (idx : Int)) (hi : idx < 32) (hk : k < 32) (hcell : w.cell? ⟨1, idx, none⟩ = some (.int .u8 k)) : Calls Tryd.prog 106 #[.int .u32 x] w fun e w' => e = .returned (.int .i64 k) ∧ w = w' := by
  go_enter Tryd.func106, Tryd.ntmps106
  go_wp2_with (simp only [key])
  go_ret
  exact ⟨rfl, rfl⟩
theorem bits_tz32 (x : Int) (w : World) (h0 : 0 ≤ x) (h1 : x ≤ 4294967295) (hT : Tab w) : Calls Tryd.prog 106 #[.int .u32 x] w fun e w' => e = .returned (.int .i64 (Lib.ctz 32 x.toNat)) ∧ w = w' := by
  obtain ⟨n, rfl⟩ := Int.eq_ofNat_of_zero_le h0
  by_cases hx0 : n = 0
  · subst hx0
    exact tz32_zero w
  · obtain ⟨hlow, hk⟩ := Lib.lowest_bit 32 n hx0 (by omega)
    obtain ⟨hi, htab⟩ := Lib.deBruijn32_at _ hk
    have hcell := hT _ hi
    rw [htab] at hcell
    exact tz32_core n _ _ w (by simp; omega) (tz_key n _ (by omega) hx0 hlow) hi hk hcell
end Go.Proofs.YtiblojmdgjnfbaaDoor

/-
  The contracts of package nat (layer 2) at this seat: what each call returns, for every list of words; nothing that was there has turned.
-/
namespace Go.Proofs.YtiblojmdgjnfbaaDoor
open Go.RowKit

theorem infoU32 : (Tryd.prog.info? 72).map (fun i => (i.zero, i.size, i.bytes)) = some (some (.int .u32 0), 1, 4) := by kernel_rfl

/-- A row that fills its array, and the array. -/
theorem own_heap {w : World} {base g : Nat} {e : TypeId} {n : Nat} {xs : List Value} (h : w.ownsRow base e 1 (.slice (some ⟨g, 0, none⟩) n n) n xs) : w.heap[g]? = some (.cells xs.toArray e (0, 0)) := by
  rcases h.2 with ⟨h', _⟩ | ⟨g', cap', cur, h', _, hg, _, _, hcs, htake⟩
  · simp at h'
  · simp only [Value.slice.injEq, Option.some.injEq, Addr.mk.injEq, and_true, true_and] at h'
    obtain ⟨rfl, rfl⟩ := h'
    rw [List.take_of_length_le (by rw [Array.length_toList, hcs]; omega)] at htake
    rw [hg, ← htake]
theorem own_ofHeap {w : World} {base g : Nat} {e : TypeId} {n : Nat} {xs : List Value} (h : w.heap[g]? = some (.cells xs.toArray e (0, 0))) (hb : base ≤ g) (hl : xs.length = n) (hm : n ≤ maxLen) : w.ownsRow base e 1 (.slice (some ⟨g, 0, none⟩) n n) n xs :=
  ⟨by omega, .inr ⟨g, n, xs.toArray, rfl, hb, h, Nat.le_refl _, hm, by simp [hl], by rw [List.take_of_length_le (by simp [hl])]⟩⟩
theorem splice_all {L cs : List Value} (h : cs.length = L.length) : splice L 0 cs = cs := by
  unfold splice; rw [List.drop_of_length_le (by omega)]; simp
/-- The address of the first word, and the words as the cells that a copy reads. -/
theorem Wd.some_cells {w w' : World} {a : Option Addr} {n cap : Nat} {l : List Nat} (h : Wd w a n cap l) (h' : Wd w' a n cap l) (hn : 0 < n) : ∃ ad, a = some ad ∧ ∀ j u, (wcells l)[j]? = some u → w'.cell? (ad.add j) = some u := by
  obtain ⟨b, off, rfl, _⟩ := h.at hn
  exact ⟨_, rfl, h'.cells⟩

/-- What a list holds without the noughts at its end. -/
theorem Wd.trim {w : World} {a : Option Addr} {n cap : Nat} {l : List Nat} (h : Wd w a n cap l) : Wd w a (dg (val l)).length cap (dg (val l)) := by
  have h1 := h.take (k := (dg (val l)).length) (by rw [← h.len]; exact dg_length_val_le h.ok)
  rwa [take_dg h.ok] at h1
theorem Wd.trim_le {w : World} {a : Option Addr} {n cap : Nat} {l : List Nat} (h : Wd w a n cap l) : (dg (val l)).length ≤ n := by rw [← h.len]; exact dg_length_val_le h.ok

def TrimPost (a : Option Addr) (cap n : Nat) (l : List Nat) (w : World) (e : Ending) (w' : World) : Prop :=
  ∃ m : Nat, e = .returned (.slice a m cap) ∧ Hid (m = (dg (val l)).length) ∧ m ≤ n ∧ Hid (Wd w a m cap (dg (val l))) ∧ w = w'
theorem trim_post {a : Option Addr} {n cap k : Nat} {l : List Nat} {w : World} (h : Wd w a n cap l) (hk : k = (dg (val l)).length) : TrimPost a cap n l w (.returned (.slice a k cap)) w :=
  ⟨k, rfl, Lib.hid hk, by rw [hk]; exact h.trim_le, Lib.hid (by rw [hk]; exact h.trim), rfl⟩
set_option maxRecDepth 4096 in
set_option maxHeartbeats 400000 in
theorem nat_trim (a : Option Addr) (n cap : Nat) (l : List Nat) (w : World) (h : Wd w a n cap l) :
    Calls Tryd.prog 59 #[.slice a n cap] w (TrimPost a cap n l w) := by
  obtain ⟨hb1, hb2⟩ := h.bound
  have H := Lib.hid h
  clear h
  go_enter Tryd.func59, Tryd.ntmps59
  go_wp2
  go_loop [3] (fun i => ∃ k : Nat, k ≤ n ∧ i = .int .i64 k ∧ Hid (top l k = 0)) (fun i => (intOf i).toNat)
  case atStart => exact ⟨n, by omega, rfl, Lib.hid (top_ge (by have := H.out.len; omega))⟩
  case round =>
    obtain ⟨k, hk, rfl, Ht⟩ := hrel
    cases k with
    | zero =>
      have Hfin := Lib.hid (trim_post (k := 0) H.out (dg_stop (Nat.zero_le _) H.out.ok Ht.out (.inl rfl)).symm)
      cases a with
      | none =>
        obtain ⟨rfl, rfl, rfl⟩ := H.out.ofNone
        go_wp2
        go_ret
        exact Hfin.out
      | some ad =>
        go_wp2
        go_ret
        exact Hfin.out
    | succ k =>
      obtain ⟨b, off, rfl, hc⟩ := H.out.at (by omega)
      have hck := hc k (by omega)
      clear hc
      by_cases hz : atw l k = 0
      · have hzb : (((atw l k : Nat) : Int) == 0) = true := by simp [hz]
        have Hz := Lib.hid hz
        clear hz
        go_wp2
        go_round
        case rel => exact ⟨k, by omega, by go_num, Lib.hid (by rw [top_succ, Hz.out, Ht.out])⟩
        case measure => simp [intOf]
      · have hzb : (((atw l k : Nat) : Int) == 0) = false := by simp [hz]
        have Hfin := Lib.hid (trim_post (k := k + 1) H.out (dg_stop (by rw [H.out.len]; exact hk) H.out.ok Ht.out (.inr (by simpa using hz))).symm)
        clear hz
        go_wp2
        go_ret
        exact Hfin.out
theorem nat_sign_yes (w : World) : Calls Tryd.prog 61 #[.bool true] w fun e w' => e = .returned (.int .i64 (-1)) ∧ w = w' := by
  go_enter Tryd.func61, Tryd.ntmps61
  go_wp2
  go_ret
  exact ⟨rfl, rfl⟩
theorem nat_sign_no (w : World) : Calls Tryd.prog 61 #[.bool false] w fun e w' => e = .returned (.int .i64 1) ∧ w = w' := by
  go_enter Tryd.func61, Tryd.ntmps61
  go_wp2
  go_ret
  exact ⟨rfl, rfl⟩
theorem nat_zero (a : Option Addr) (n cap : Nat) (l : List Nat) (w : World) (h : Wd w a n cap l) :
    Calls Tryd.prog 39 #[.slice a n cap] w (Gives (.bool (decide (val l = 0))) w) := by
  obtain ⟨hb1, hb2⟩ := h.bound
  have H := Lib.hid h
  clear h
  go_enter Tryd.func39, Tryd.ntmps39
  go_wp2_with fail
  refine (nat_trim _ _ _ _ _ H.out).mono ?_
  rintro e w' ⟨m, rfl, Hm, hmn, HT, rfl⟩
  by_cases h0 : m = 0
  · have Hv := Lib.hid (dg_nil_iff.1 (Hm.out.symm.trans h0))
    subst h0
    go_wp2
    go_ret
    exact ⟨ret_bool (decide_eq_true Hv.out).symm, Below.refl _ _⟩
  · have Hv := Lib.hid (fun h => h0 (Hm.out.trans (dg_nil_iff.2 h)))
    have hmb : ((m : Int) == 0) = false := by simp [h0]
    clear h0
    go_wp2
    go_ret
    exact ⟨ret_bool (decide_eq_false Hv.out).symm, Below.refl _ _⟩
theorem nat_of (x : Nat) (w : World) (hx : x ≤ 18446744073709551615) : Calls Tryd.prog 48 #[.int .u64 (x : Int)] w (Lst (dg x) w) := by
  have Hv : Hid (val [x % 4294967296, x / 4294967296] = x) := Lib.hid (by simp only [val]; omega)
  have Hlit := Lib.hid (Wd.lit2 w 72 (x := x % 4294967296) (y := x / 4294967296) (by omega) (by omega))
  go_enter Tryd.func48, Tryd.ntmps48
  go_wp2_with fail
  refine (nat_trim _ _ _ _ _ Hlit.out).mono ?_
  rintro e w' ⟨m, rfl, Hm, hmn, HT, rfl⟩
  rw [Hv.out] at HT
  go_wp2
  go_ret
  exact ⟨_, _, _, rfl, HT.out, below_alloc _ _⟩
/-- A copy in a row of the call's own. -/
def NormPost (l : List Nat) (w : World) (e : Ending) (w' : World) : Prop :=
  ∃ g m : Nat, e = .returned (.slice (some ⟨g, 0, none⟩) m m) ∧ Hid (m = (dg (val l)).length) ∧ Hid (w'.ownsRow w.heap.size 72 1 (.slice (some ⟨g, 0, none⟩) m m) m (wcells (dg (val l)))) ∧ Below w.heap.size w w'
set_option maxRecDepth 4096 in
set_option maxHeartbeats 400000 in
theorem nat_norm (a : Option Addr) (n cap : Nat) (l : List Nat) (w : World) (h : Wd w a n cap l) (hn : n ≤ 16777214) :
    Calls Tryd.prog 38 #[.slice a n cap] w (NormPost l w) := by
  obtain ⟨i0, hi, hz0, hz1, hz2⟩ := info_parts infoU32
  obtain ⟨hb1, hb2⟩ := h.bound
  have H := Lib.hid h
  clear h
  go_enter Tryd.func38, Tryd.ntmps38
  go_wp2_with fail
  refine (nat_trim _ _ _ _ _ H.out).mono ?_
  rintro e w' ⟨m, rfl, Hm, hmn, HT, rfl⟩
  go_wp2_with (first
    | (at_make; refine wpList_make_full _ rfl _ _ 22 rfl w.heap.size 72 i0 (.int .u32 0) 1 Tryd.underlying22 hi hz0 hz1 .i64 .i64 _ _ m rfl rfl (by omega) (by omega) (by rw [hz2]; omega) (by unfold maxLen; omega) (Nat.le_refl _) ?_; intro w1 hown1 hgrow1; rw [wcells_made] at hown1; have Hg := Lib.hid (own_heap hown1); have hB1 : Below w.heap.size w w1 := (Below.refl _ _).grown hgrow1 (Nat.le_refl _) (fun k hk => by cases hk); clear hown1 hgrow1)
    | (refine wpList_copy_splice (o := ⟨some 11, _, _, _, _, _⟩) rfl (.tmp 9) (.tmp 10) 22 22 rfl 72 Tryd.underlying22 (by rw [hi]; simp [hz1]) (some ⟨w.heap.size, 0, none⟩) a m m m cap (by rfl) (by rfl) w.heap.size 0 (wcells (List.replicate m 0)) 72 Hg.out (wcells (dg (val l))) (by rw [wcells_length, ← Hm.out]; simp) (fun h => ⟨rfl, HT.out.some_cells (HT.out.later hB1) (by rw [wcells_length, ← Hm.out] at h; exact h)⟩) (by rw [wcells_length, wcells_length, ← Hm.out]; simp) (wcells_one _) w.heap.size w hB1 (Nat.le_refl _) ?_; intro w2 hg2 hb2))
  go_ret
  refine ⟨w.heap.size, m, rfl, Hm, ?_, hb2⟩
  have hg := hg2.out
  rw [splice_all (by rw [wcells_length, wcells_length, ← Hm.out]; simp)] at hg
  exact Lib.hid (own_ofHeap hg (Nat.le_refl _) (by rw [wcells_length]; exact Hm.out.symm) (by unfold maxLen; omega))
end Go.Proofs.YtiblojmdgjnfbaaDoor

/-
  The contracts of package nat (layer 2) at this seat: comparing, reading as a number, the longest of some.
-/
namespace Go.Proofs.YtiblojmdgjnfbaaDoor
open Go.RowKit

theorem or_low {hi lo : Int} (h0 : 0 ≤ hi) (h : hi ≤ 4294967295) (hl0 : 0 ≤ lo) (hl : lo ≤ 4294967295) : bits .or .u64 lo (hi * 4294967296) = lo + hi * 4294967296 := by
  have e := or_words h0 h hl0 hl
  have c : bits .or .u64 lo (hi * 4294967296) = bits .or .u64 (hi * 4294967296) lo := by
    show IntKind.u64.wrap ((BitVec.ofInt 64 lo ||| BitVec.ofInt 64 (hi * 4294967296)).toNat : Int) = IntKind.u64.wrap ((BitVec.ofInt 64 (hi * 4294967296) ||| BitVec.ofInt 64 lo).toNat : Int)
    rw [BitVec.or_comm]
  rw [c, e, Int.add_comm]
theorem or_none {x : Int} (h0 : 0 ≤ x) (h : x ≤ 4294967295) : bits .or .u64 0 x = x := by
  have e := or_words (hi := 0) (lo := x) (by omega) (by omega) h0 h
  simpa using e

set_option maxRecDepth 4096 in
set_option maxHeartbeats 1000000 in
theorem nat_cmp (a : Option Addr) (n cap : Nat) (la : List Nat) (b : Option Addr) (m cap' : Nat) (lb : List Nat) (w : World) (ha : Wd w a n cap la) (hb : Wd w b m cap' lb) :
    Calls Tryd.prog 41 #[.slice a n cap, .slice b m cap'] w (Gives (.int .i64 (cmpI (val la) (val lb))) w) := by
  obtain ⟨hb1, hb2⟩ := ha.bound
  obtain ⟨hb3, hb4⟩ := hb.bound
  have Ha := Lib.hid ha
  have Hb := Lib.hid hb
  clear ha hb
  go_enter Tryd.func41, Tryd.ntmps41
  go_wp2_with fail
  refine (nat_trim _ _ _ _ _ Ha.out).mono ?_
  rintro e w' ⟨p, rfl, Hp, hp, HA, rfl⟩
  go_wp2_with fail
  refine (nat_trim _ _ _ _ _ Hb.out).mono ?_
  rintro e w' ⟨q, rfl, Hq, hq, HB, rfl⟩
  by_cases hpq : p = q
  · have Hpq := Lib.hid hpq
    subst hpq
    go_wp2
    go_loopw [5] (fun i wr => ∃ k r : Nat, k ≤ p ∧ i = .int .i64 ((k : Int) - 1) ∧ wr = w.drewN r ∧ Hid (top (dg (val la)) k = top (dg (val lb)) k)) (fun i _ => (intOf i + 1).toNat)
    case atStart => exact ⟨p, 0, by omega, by go_num, rfl, Lib.hid (by rw [top_ge (by rw [← Hp.out]; omega), top_ge (by rw [← Hq.out]; omega)])⟩
    case round =>
      obtain ⟨k, r, hk, rfl, rfl, Ht⟩ := hrel
      cases k with
      | zero =>
        have hv : val la = val lb := by have := Ht.out; rw [top_zero, top_zero, val_dg, val_dg] at this; exact this
        have Hfin := Lib.hid (cmpI_eq hv)
        clear hv
        go_wp2
        go_ret
        exact ⟨ret_i64 Hfin.out.symm, below_draws _ _⟩
      | succ k =>
        have e1 : ((k + 1 : Nat) : Int) - 1 = (k : Int) := by omega
        rw [e1]
        clear e1
        obtain ⟨ba, oa, rfl, hca⟩ := HA.out.at (by omega)
        obtain ⟨bb, ob, rfl, hcb⟩ := HB.out.at (by omega)
        have hcak := hca k (by omega)
        have hcbk := hcb k (by omega)
        clear hca hcb
        have hxa := atw_lt (okw_dg (val la)) k
        have hxb := atw_lt (okw_dg (val lb)) k
        obtain ⟨x, hx⟩ : ∃ x, x = atw (dg (val la)) k := ⟨_, rfl⟩
        obtain ⟨y, hy⟩ : ∃ y, y = atw (dg (val lb)) k := ⟨_, rfl⟩
        rw [← hx] at hxa hcak
        rw [← hy] at hxb hcbk
        have Hx := Lib.hid hx
        have Hy := Lib.hid hy
        clear hx hy
        rcases Nat.lt_trichotomy x y with hxy | hxy | hxy
        · have h1 : ((x : Int) != (y : Int)) = true := by simp; omega
          have h2 : decide (x < y) = true := by simp; omega
          have Hfin := Lib.hid (cmpI_lt (cmp_lt (okw_dg _) Ht.out (by rw [← Hx.out, ← Hy.out]; exact hxy)))
          rw [val_dg, val_dg] at Hfin
          clear hxy
          go_wp2
          go_quiet (fail)
          go_wp2
          go_quiet ((go_at_call 61; exact quiet_here (nat_sign_yes _) ⟨_, rfl⟩))
          go_wp2
          go_ret
          exact ⟨ret_i64 Hfin.out.symm, by simp only [World.drewN_drewN]; exact below_draws _ _⟩
        · have h1 : ((x : Int) != (y : Int)) = false := by simp; omega
          have Hxy := Lib.hid hxy
          clear hxy
          go_wp2
          go_quiet (fail)
          go_wp2
          go_roundw
          case rel => exact ⟨k, _, by omega, by go_num, rfl, Lib.hid (top_eq Ht.out (by rw [← Hx.out, ← Hy.out]; exact Hxy.out))⟩
          case measure => simp [intOf]
        · have h1 : ((x : Int) != (y : Int)) = true := by simp; omega
          have h2 : decide (x < y) = false := by simp; omega
          have Hfin := Lib.hid (cmpI_gt (cmp_lt (okw_dg _) Ht.out.symm (by rw [← Hx.out, ← Hy.out]; exact hxy)))
          rw [val_dg, val_dg] at Hfin
          clear hxy
          go_wp2
          go_quiet (fail)
          go_wp2
          go_quiet ((go_at_call 61; exact quiet_here (nat_sign_no _) ⟨_, rfl⟩))
          go_wp2
          go_ret
          exact ⟨ret_i64 Hfin.out.symm, by simp only [World.drewN_drewN]; exact below_draws _ _⟩
  · have h1 : ((p : Int) != (q : Int)) = true := by simp; omega
    by_cases hlt : p < q
    · have h2 : decide (p < q) = true := by simp; omega
      have Hfin := Lib.hid (cmpI_lt (lt_of_dg_length (a := val la) (b := val lb) (by rw [← Hp.out, ← Hq.out]; exact hlt)))
      clear hpq hlt
      go_wp2_with fail
      refine (nat_sign_yes _).mono ?_
      rintro e w' ⟨rfl, rfl⟩
      go_wp2
      go_ret
      exact ⟨ret_i64 Hfin.out.symm, Below.refl _ _⟩
    · have h2 : decide (p < q) = false := by simp; omega
      have Hfin := Lib.hid (cmpI_gt (lt_of_dg_length (a := val lb) (b := val la) (by rw [← Hp.out, ← Hq.out]; omega)))
      clear hpq hlt
      go_wp2_with fail
      refine (nat_sign_no _).mono ?_
      rintro e w' ⟨rfl, rfl⟩
      go_wp2
      go_ret
      exact ⟨ret_i64 Hfin.out.symm, Below.refl _ _⟩
set_option maxRecDepth 4096 in
set_option maxHeartbeats 400000 in
theorem nat_small (a : Option Addr) (n cap : Nat) (l : List Nat) (w : World) (h : Wd w a n cap l) :
    Calls Tryd.prog 57 #[.slice a n cap] w (Gives (.tuple #[.int .u64 ((smallV (val l) : Nat) : Int), .bool (smallB (val l))]) w) := by
  obtain ⟨hb1, hb2⟩ := h.bound
  have H := Lib.hid h
  clear h
  go_enter Tryd.func57, Tryd.ntmps57
  go_wp2_with fail
  refine (nat_trim _ _ _ _ _ H.out).mono ?_
  rintro e w' ⟨m, rfl, Hm, hmn, HT, rfl⟩
  have Hk : Hid (m ≤ 2 ↔ val l < two64) := Lib.hid (by rw [Hm.out]; exact dg_length_pow (k := 2))
  by_cases hm2 : m ≤ 2
  · have Hv : Hid (val l < two64) := Lib.hid (Hk.out.1 hm2)
    have Hl : Hid (val l = atw (dg (val l)) 0 + 4294967296 * atw (dg (val l)) 1) := Lib.hid (by have := val_two (l := dg (val l)) (by rw [← Hm.out]; exact hm2); rwa [val_dg] at this)
    have hx0 := atw_lt (okw_dg (val l)) 0
    have hx1 := atw_lt (okw_dg (val l)) 1
    have h1n : Hid (m ≤ 1 → atw (dg (val l)) 1 = 0) := Lib.hid fun h => atw_ge (by rw [← Hm.out]; exact h)
    have h0n : Hid (m ≤ 0 → atw (dg (val l)) 0 = 0) := Lib.hid fun h => atw_ge (by rw [← Hm.out]; exact h)
    obtain ⟨x, hx⟩ : ∃ x, x = atw (dg (val l)) 0 := ⟨_, rfl⟩
    obtain ⟨y, hy⟩ : ∃ y, y = atw (dg (val l)) 1 := ⟨_, rfl⟩
    have hc0 : 0 < m → ∃ b off, a = some ⟨b, off, none⟩ ∧ w.cell? ⟨b, off, none⟩ = some (.int .u32 (x : Int)) := fun h => by
      obtain ⟨b, off, e, hc⟩ := HT.out.at h
      exact ⟨b, off, e, by rw [hx]; exact hc 0 h⟩
    have hc1 : 1 < m → ∃ b off, a = some ⟨b, off, none⟩ ∧ w.cell? ⟨b, off + 1, none⟩ = some (.int .u32 (y : Int)) := fun h => by
      obtain ⟨b, off, e, hc⟩ := HT.out.at (by omega)
      exact ⟨b, off, e, by rw [hy]; exact hc 1 h⟩
    have Hc0 := Lib.hid hc0
    have Hc1 := Lib.hid hc1
    rw [← hx] at Hl hx0 h0n
    rw [← hy] at Hl hx1 h1n
    clear hx hy hc0 hc1
    have Hfin : Hid (smallV (val l) = x + 4294967296 * y ∧ smallB (val l) = true) := Lib.hid ⟨by unfold smallV; rw [if_pos Hv.out]; exact Hl.out, decide_eq_true Hv.out⟩
    have Ho1 : Hid (bits .or .u64 0 (x : Int) = (x : Int)) := Lib.hid (or_none (by omega) (by omega))
    have Ho2 : Hid (bits .or .u64 (x : Int) ((y : Int) * 4294967296) = (x : Int) + (y : Int) * 4294967296) := Lib.hid (or_low (by omega) (by omega) (by omega) (by omega))
    go_wp2
    go_loop [4, 14] (fun nn ix => (ix = .int .i64 0 ∧ nn = .int .u64 0) ∨ (ix = .int .i64 1 ∧ 1 ≤ m ∧ nn = .int .u64 (x : Int)) ∨ (ix = .int .i64 2 ∧ 2 ≤ m ∧ nn = .int .u64 ((x : Int) + (y : Int) * 4294967296))) (fun _ ix => 2 - (intOf ix).toNat)
    case atStart => exact .inl ⟨rfl, rfl⟩
    case round =>
      rcases hrel with ⟨rfl, rfl⟩ | ⟨rfl, hr, rfl⟩ | ⟨rfl, hr, rfl⟩
      · by_cases h0 : 0 < m
        · obtain ⟨b, off, rfl, hck⟩ := Hc0.out h0
          have ho1 := Ho1.out
          go_wp2
          go_round
          case rel => exact .inr (.inl ⟨rfl, h0, rfl⟩)
          case measure => simp [intOf]
        · have hm0 : m = 0 := by omega
          have hfin := Hfin.out
          rw [h0n.out (by omega), h1n.out (by omega)] at hfin
          have Hfin2 := Lib.hid hfin
          clear hfin Hfin
          subst hm0
          go_wp2
          go_ret2
          rw [Hfin2.out.1, Hfin2.out.2]
          exact ⟨rfl, Below.refl _ _⟩
      · by_cases h0 : 1 < m
        · obtain ⟨b, off, rfl, hck⟩ := Hc1.out h0
          have ho2 := Ho2.out
          go_wp2
          go_round
          case rel => exact .inr (.inr ⟨rfl, h0, rfl⟩)
          case measure => simp [intOf]
        · have hm0 : m = 1 := by omega
          have hfin := Hfin.out
          rw [h1n.out (by omega)] at hfin
          have Hfin2 := Lib.hid hfin
          clear hfin Hfin
          subst hm0
          go_wp2
          go_ret2
          rw [Hfin2.out.1, Hfin2.out.2]
          exact ⟨rfl, Below.refl _ _⟩
      · have hm0 : m = 2 := by omega
        subst hm0
        go_wp2
        go_ret2
        rw [Hfin.out.1, Hfin.out.2]
        exact ⟨by simp; omega, Below.refl _ _⟩
  · have Hfin : Hid (smallV (val l) = 0 ∧ smallB (val l) = false) := Lib.hid ⟨by unfold smallV; rw [if_neg (fun h => hm2 (Hk.out.2 h))], decide_eq_false (fun h => hm2 (Hk.out.2 h))⟩
    have hm3 : (2 : Int) < (m : Int) := by omega
    clear hm2
    go_wp2
    go_ret2
    rw [Hfin.out.1, Hfin.out.2]
    exact ⟨rfl, Below.refl _ _⟩
end Go.Proofs.YtiblojmdgjnfbaaDoor
