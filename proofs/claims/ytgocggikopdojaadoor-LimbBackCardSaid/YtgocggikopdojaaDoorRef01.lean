/-
  The contracts of the document's answer for layer 1, and of the chapter's example.
-/
import Derived.Test.YtgocggikopdojaaDoorLimb
import Derived.Below
import Derived.Lib.Hide
namespace Go.Proofs.YtgocggikopdojaaDoor
open Go.RowKit

theorem ret_u32_2 {a b c d : Int} (h1 : a = c) (h2 : b = d) : Ending.returned (.tuple #[.int .u32 a, .int .u32 b]) = .returned (.tuple #[.int .u32 c, .int .u32 d]) := by rw [h1, h2]
theorem ret_i64 {a b : Int} (h : a = b) : Ending.returned (.int .i64 a) = .returned (.int .i64 b) := by rw [h]

theorem ref_add (x y c : Int) (w : World) (hx0 : 0 ≤ x) (hx : x ≤ 4294967295) (hy0 : 0 ≤ y) (hy : y ≤ 4294967295) (hc0 : 0 ≤ c) (hc : c ≤ 4294967295) :
    Calls Tryd.prog 8 #[.int .u32 x, .int .u32 y, .int .u32 c] w fun e w' => e = .returned (.tuple #[.int .u32 ((x + y + c) % 4294967296), .int .u32 ((x + y + c) / 4294967296)]) ∧ w = w' := by
  go_enter Tryd.func8, Tryd.ntmps8
  go_wp2

  go_ret2
  exact ⟨ret_u32_2 (by omega) (by omega), rfl⟩
theorem ref_sub (x y c : Int) (w : World) (hx0 : 0 ≤ x) (hx : x ≤ 4294967295) (hy0 : 0 ≤ y) (hy : y ≤ 4294967295) (hc0 : 0 ≤ c) (hc : c ≤ 4294967295) :
    Calls Tryd.prog 10 #[.int .u32 x, .int .u32 y, .int .u32 c] w fun e w' => e = .returned (.tuple #[.int .u32 ((x - y - c) % 4294967296), .int .u32 (-((x - y - c) / 4294967296))]) ∧ w = w' := by
  go_enter Tryd.func10, Tryd.ntmps10
  go_wp2
  go_loop [8, 9] (fun n b => ∃ k : Int, 0 ≤ k ∧ k ≤ 2 ∧ x - y - c + 4294967296 * k ≤ 4294967295 ∧ n = .int .i64 (x - y - c + 4294967296 * k) ∧ b = .int .u32 k) (fun n _ => (-(intOf n)).toNat)
  case atStart => exact ⟨0, by omega, by omega, by omega, by go_num, rfl⟩
  case round =>
    obtain ⟨k, hk0, hk, hn, rfl, rfl⟩ := hrel
    by_cases hneg : x - y - c + 4294967296 * k < 0
    · go_wp2
      go_round
      case rel => exact ⟨k + 1, by omega, by omega, by omega, by go_num, rfl⟩
      case measure => simp [intOf]; omega
    · go_wp2
      go_ret2
      exact ⟨ret_u32_2 (by omega) (by omega), rfl⟩
theorem ref_mul (x y c d : Int) (w : World) (hx0 : 0 ≤ x) (hx : x ≤ 4294967295) (hy0 : 0 ≤ y) (hy : y ≤ 4294967295) (hc0 : 0 ≤ c) (hc : c ≤ 4294967295) (hd0 : 0 ≤ d) (hd : d ≤ 4294967295) :
    Calls Tryd.prog 13 #[.int .u32 x, .int .u32 y, .int .u32 c, .int .u32 d] w fun e w' => e = .returned (.tuple #[.int .u32 ((x * y + c + d) / 4294967296), .int .u32 ((x * y + c + d) % 4294967296)]) ∧ w = w' := by
  obtain ⟨ha0, ha, hb0, hb, he⟩ := half_words hx0 hx hy0 hy
  have He := Lib.hid he
  clear he
  go_enter Tryd.func13, Tryd.ntmps13
  go_wp2
  go_ret2
  have he := He.out
  exact ⟨ret_u32_2 (by omega) (by omega), rfl⟩
theorem ref_div_no (hi lo y : Int) (w : World) (hge : y ≤ hi) :
    Calls Tryd.prog 15 #[.int .u32 hi, .int .u32 lo, .int .u32 y] w fun e w' => e = .returned (.tuple #[.int .u32 0, .int .u32 0, .bool false]) ∧ w = w' := by
  go_enter Tryd.func15, Tryd.ntmps15
  go_wp2
  go_ret3
  exact ⟨rfl, rfl⟩
theorem ref_div_yes (hi lo y : Int) (w : World) (hh0 : 0 ≤ hi) (hl0 : 0 ≤ lo) (hl : lo ≤ 4294967295) (hy : y ≤ 4294967295) (hlt : hi < y) :
    Calls Tryd.prog 15 #[.int .u32 hi, .int .u32 lo, .int .u32 y] w fun e w' => e = .returned (.tuple #[.int .u32 ((hi * 4294967296 + lo) / y), .int .u32 ((hi * 4294967296 + lo) % y), .bool true]) ∧ w = w' := by
  go_enter Tryd.func15, Tryd.ntmps15
  go_wp2
  go_loop [9, 10, 11] (fun q r b => ∃ k : Nat, k ≤ 32 ∧ q = .int .u64 (topQ hi lo y k) ∧ r = .int .u64 (topR hi lo y k) ∧ b = .int .u64 (bitAt k)) (fun _ _ b => (intOf b).toNat)
  case atStart => exact ⟨32, by omega, by rw [topQ_top hh0 hl0 hl hlt], by rw [topR_top hh0 hl0 hl hlt], by rw [bitAt_top]⟩
  case round =>
    obtain ⟨k, hk, rfl, rfl, rfl⟩ := hrel
    cases k with
    | zero =>
      rw [bitAt_zero, topQ_zero, topR_zero]
      obtain ⟨hq0, hq⟩ := div_word hh0 hl0 hl hlt
      obtain ⟨hr0, hr⟩ := mod_word (n := hi * 4294967296 + lo) (y := y) (by omega)
      go_wp2
      go_ret3
      exact ⟨rfl, rfl⟩
    | succ k =>
      have hb1 := bitAt_pos k
      have hb2 := bitAt_le (k + 1) hk
      have Hh := Lib.hid (bitAt_half k)
      obtain ⟨hq0, hq⟩ := topQ_le (k + 1) hh0 hl0 hl hlt
      obtain ⟨hr0, hr⟩ := topR_le (hi := hi) (lo := lo) (y := y) (k + 1) (by omega)
      have Hb := Lib.hid (@top_step_below hi lo y k (by omega) (by omega))
      have Ha := Lib.hid (@top_step_above hi lo y k (by omega) (by omega))
      have hm0 : 0 ≤ bitAt k := by have := Hh.out; omega
      have hm1 : bitAt k < bitAt (k + 1) := by have := Hh.out; omega
      generalize bitAt (k + 1) = b at *
      generalize topQ hi lo y (k + 1) = q at *
      generalize topR hi lo y (k + 1) = r at *
      have hd0 : 0 ≤ lo / b := Int.ediv_nonneg hl0 (by omega)
      go_wp2
      · go_round
        case rel =>
          have ht : lo / b % 2 = 1 := by simpa using (show (lo / b % 2 == 1) = true by assumption)
          have g : y ≤ 2 * r + 1 := by assumption
          obtain ⟨e1, e2⟩ := Ha.out (by omega) hr
          exact ⟨k, by omega, by rw [e1], by rw [e2, ht], by rw [Hh.out]⟩
        case measure => simp [intOf]; omega
      · go_round
        case rel =>
          have ht : lo / b % 2 = 1 := by simpa using (show (lo / b % 2 == 1) = true by assumption)
          have g : 2 * r + 1 < y := by assumption
          obtain ⟨e1, e2⟩ := Hb.out (by omega) hr0
          exact ⟨k, by omega, by rw [e1], by rw [e2, ht], by rw [Hh.out]⟩
        case measure => simp [intOf]; omega
      · go_round
        case rel =>
          have ht : lo / b % 2 = 0 := by
            have : ¬ lo / b % 2 = 1 := by simpa using (show (lo / b % 2 == 1) = false by assumption)
            omega
          have g : y ≤ 2 * r := by assumption
          obtain ⟨e1, e2⟩ := Ha.out (by omega) hr
          exact ⟨k, by omega, by rw [e1], by rw [e2, ht]; go_num, by rw [Hh.out]⟩
        case measure => simp [intOf]; omega
      · go_round
        case rel =>
          have ht : lo / b % 2 = 0 := by
            have : ¬ lo / b % 2 = 1 := by simpa using (show (lo / b % 2 == 1) = false by assumption)
            omega
          have g : 2 * r < y := by assumption
          obtain ⟨e1, e2⟩ := Hb.out (by omega) hr0
          exact ⟨k, by omega, by rw [e1], by rw [e2, ht]; go_num, by rw [Hh.out]⟩
        case measure => simp [intOf]; omega
theorem ref_len (x : Int) (w : World) (h0 : 0 ≤ x) (h1 : x ≤ 4294967295) :
    Calls Tryd.prog 17 #[.int .u32 x] w fun e w' => e = .returned (.int .i64 (Lib.bitLen x.toNat)) ∧ w = w' := by
  obtain ⟨m, rfl⟩ := Int.eq_ofNat_of_zero_le h0
  rw [Int.toNat_natCast]
  go_enter Tryd.func17, Tryd.ntmps17
  go_wp2
  go_loop [0, 3] (fun x n => ∃ a f g : Nat, a < 2 ^ f ∧ a ≤ 4294967295 ∧ g + f = 64 ∧ g + Lib.bitLenAux f a = Lib.bitLen m ∧ x = .int .u32 a ∧ n = .int .i64 g) (fun x _ => (intOf x).toNat)
  case atStart => exact ⟨m, 64, 0, by omega, by omega, rfl, by rw [Lib.bitLen]; omega, rfl, rfl⟩
  case round =>
    obtain ⟨a, f, g, ha, ha1, hgf, hlen, rfl, rfl⟩ := hrel
    have Hf := Lib.hid hgf
    have Hl := Lib.hid hlen
    have Ha := Lib.hid ha
    have hg : g ≤ 64 := by omega
    clear hgf hlen ha
    by_cases hz : a = 0
    · subst hz
      go_wp2
      go_ret
      exact ⟨ret_i64 (by have := Hl.out; rw [bitLen_end] at this; omega), rfl⟩
    · have hp : 0 < a := by omega
      have Hz := Lib.hid hz
      clear hz
      go_wp2
      go_round
      case rel =>
        obtain ⟨f', rfl, h2, h3⟩ := bitLen_step Hz.out Ha.out
        have := Hl.out
        have := Hf.out
        exact ⟨a / 2, f', g + 1, h2, by omega, by omega, by omega, by go_num, by go_num⟩
      case measure => simp [intOf]; omega
theorem ref_zeros (x : Int) (w : World) (h0 : 0 ≤ x) (h1 : x ≤ 4294967295) :
    Calls Tryd.prog 19 #[.int .u32 x] w fun e w' => e = .returned (.int .i64 (Lib.ctz 32 x.toNat)) ∧ w = w' := by
  obtain ⟨m, rfl⟩ := Int.eq_ofNat_of_zero_le h0
  rw [Int.toNat_natCast]
  by_cases hz : m = 0
  · subst hz
    go_enter Tryd.func19, Tryd.ntmps19
    go_wp2
    go_ret
    exact ⟨rfl, rfl⟩
  · have hc : Lib.ctz 32 m = Lib.ctzFrom 32 m := by simp [Lib.ctz, hz]
    rw [hc]
    have ht : (((m : Nat) : Int) == 0) = false := by simpa using hz
    have Hz := Lib.hid hz
    clear hz hc
    go_enter Tryd.func19, Tryd.ntmps19
    go_wp2
    go_loop [0, 3] (fun x n => ∃ a f g : Nat, a < 2 ^ f ∧ a ≠ 0 ∧ a ≤ 4294967295 ∧ g + f = 32 ∧ g + Lib.ctzFrom f a = Lib.ctzFrom 32 m ∧ x = .int .u32 a ∧ n = .int .i64 g) (fun x _ => (intOf x).toNat)
    case atStart => exact ⟨m, 32, 0, by omega, Hz.out, by omega, rfl, by omega, rfl, rfl⟩
    case round =>
      obtain ⟨a, f, g, ha, haz, ha1, hgf, hlen, rfl, rfl⟩ := hrel
      have Hf := Lib.hid hgf
      have Hl := Lib.hid hlen
      have Ha := Lib.hid ha
      have hp : 0 < a := by omega
      have hg : g ≤ 32 := by omega
      clear hgf hlen ha haz
      by_cases he : a % 2 = 0
      · have hb : (((a : Nat) : Int) % 2 == 0) = true := by rw [beq_iff_eq]; omega
        have He := Lib.hid he
        clear he
        go_wp2
        go_round
        case rel =>
          obtain ⟨f', rfl, h2, h3, h4⟩ := ctz_even Ha.out (by omega) He.out
          have := Hl.out
          have := Hf.out
          exact ⟨a / 2, f', g + 1, h2, h3, by omega, by omega, by omega, by go_num, by go_num⟩
        case measure => simp [intOf]; omega
      · have hb : (((a : Nat) : Int) % 2 == 0) = false := by rw [beq_eq_false_iff_ne]; omega
        have He := Lib.hid he
        clear he
        go_wp2
        go_ret
        exact ⟨ret_i64 (by have := Hl.out; rw [ctz_odd (by have := He.out; omega)] at this; omega), rfl⟩
end Go.Proofs.YtgocggikopdojaaDoor
