/-
  The contracts of package common (layer 6) at this seat: a word of a list, the noughts ahead of a word, the head of a list.
-/
import Derived.Test.YtkpnhohaolfmgaaCommonPlain
import Derived.Test.YtkpnhohaolfmgaaNatAll
import Derived.Test.YtkpnhohaolfmgaaQuot2
namespace Go.Proofs.Ytkpnhohaolfmgaa
open Go.RowKit

theorem or_u64_nat (x y : Nat) (hx : x < 18446744073709551616) (hy : y < 18446744073709551616) : bits .or .u64 (x : Int) (y : Int) = ((x ||| y : Nat) : Int) := by
  have h1 : (BitVec.ofInt 64 (x : Int)).toNat = x := by rw [BitVec.ofInt_natCast, BitVec.toNat_ofNat]; exact Nat.mod_eq_of_lt (by omega)
  have h2 : (BitVec.ofInt 64 (y : Int)).toNat = y := by rw [BitVec.ofInt_natCast, BitVec.toNat_ofNat]; exact Nat.mod_eq_of_lt (by omega)
  have h3 : x ||| y < 2 ^ 64 := Nat.or_lt_two_pow (by omega) (by omega)
  show IntKind.u64.wrap ((BitVec.ofInt 64 (x : Int) ||| BitVec.ofInt 64 (y : Int)).toNat : Int) = _
  rw [BitVec.toNat_or, h1, h2, IntKind.wrap_u64]
  omega
theorem or_high {h s y : Nat} (hh : h * 2 ^ s < 18446744073709551616) (hy : y < 2 ^ s) (hs : s ≤ 64) : bits .or .u64 ((h * 2 ^ s : Nat) : Int) (y : Int) = ((h * 2 ^ s + y : Nat) : Int) := by
  have hy2 : y < 18446744073709551616 := Nat.lt_of_lt_of_le hy (show 2 ^ s ≤ 2 ^ 64 from Nat.pow_le_pow_right (by decide) hs)
  rw [or_u64_nat _ _ hh hy2]
  have := Nat.two_pow_add_eq_or_of_lt hy h
  rw [Nat.mul_comm h, this]

theorem common_word (a : Option Addr) (n cap k x : Nat) (l : List Nat) (w : World) (h : Wd w a n cap l) (hk : k ≤ 9223372036854775807) (hx : Hid (x = atw l k)) :
    Calls Try.prog 50 #[.slice a n cap, .int .i64 (k : Int)] w fun e w' => e = .returned (.int .u64 (x : Int)) ∧ w = w' := by
  obtain ⟨hb1, hb2⟩ := h.bound
  by_cases hlt : k < n
  · obtain ⟨b, off, rfl, hc⟩ := h.at (by omega)
    have hck := hc k hlt
    have hw := atw_lt h.ok k
    rw [← hx.out] at hck hw
    clear hc h
    go_enter Try.func50, Try.ntmps50
    go_wp2
    go_ret
    exact ⟨rfl, rfl⟩
  · have ha : x = 0 := by rw [hx.out]; exact atw_ge (by have := h.len; omega)
    subst ha
    clear h
    go_enter Try.func50, Try.ntmps50
    go_wp2
    go_ret
    exact ⟨rfl, rfl⟩
theorem bits_lz32 (x : Nat) (w : World) (h1 : x < 4294967296) :
    Calls Try.prog 41 #[.int .u32 (x : Int)] w fun e w' => e = .returned (.int .i64 ((32 - blen x : Nat) : Int)) ∧ w = w' := by
  have hb : blen x ≤ 32 := blen_le.2 (by omega)
  have Hb := Lib.hid (bitLen_blen (x := x) (by omega))
  obtain ⟨y, hy⟩ : ∃ y, y = blen x := ⟨_, rfl⟩
  rw [← hy] at hb Hb ⊢
  obtain ⟨z, hz⟩ : ∃ z : Nat, 32 - (y : Int) = (z : Int) := ⟨32 - y, by omega⟩
  have Hz : Hid (z = 32 - y) := Lib.hid (by omega)
  clear hy
  go_enter Try.func41, Try.ntmps41
  go_wp2_with fail
  refine (bits_len32 (x : Int) _ (by omega) (by omega)).mono ?_
  rintro e w' ⟨rfl, rfl⟩
  rw [Int.toNat_natCast, Hb.out]
  go_wp2
  go_ret
  exact ⟨ret_i64 (by rw [← Hz.out]), rfl⟩
set_option maxHeartbeats 2000000 in
theorem common_head (a : Option Addr) (n cap k s : Nat) (l : List Nat) (w : World) (h : Wd w a n cap l) (hk : k ≤ 1000000) (hs : s ≤ 31) (hv : Hid (val l < 2 ^ (32 * (k + 3) - s))) :
    Calls Try.prog 43 #[.slice a n cap, .int .i64 ((k + 3 : Nat) : Int), .int .i64 (s : Int)] w fun e w' => e = .returned (.int .u64 ((val l / 2 ^ (32 * k + (32 - s)) : Nat) : Int)) ∧ ∃ q, w' = w.drewN q := by
  obtain ⟨t1, t2, t3⟩ := head_word h.ok hs hv.out
  have hx0 := atw_lt h.ok k
  have hx1 := atw_lt h.ok (k + 1)
  have hx2 := atw_lt h.ok (k + 2)
  have Hw := Lib.hid h
  obtain ⟨p1, e1⟩ : ∃ p1 : Nat, ((k + 3 : Nat) : Int) - 1 = (p1 : Int) := ⟨k + 2, by omega⟩
  obtain ⟨p2, e2⟩ : ∃ p2 : Nat, ((k + 3 : Nat) : Int) - 2 = (p2 : Int) := ⟨k + 1, by omega⟩
  obtain ⟨p3, e3⟩ : ∃ p3 : Nat, ((k + 3 : Nat) : Int) - 3 = (p3 : Int) := ⟨k, by omega⟩
  obtain rfl : p3 = k := by omega
  have f1 : p1 = p3 + 2 := by omega
  have f2 : p2 = p3 + 1 := by omega
  have hp1 : p1 ≤ 9223372036854775807 := by omega
  have hp2 : p2 ≤ 9223372036854775807 := by omega
  have hp3 : p3 ≤ 9223372036854775807 := by omega
  rw [← f1, ← f2] at t1 t3
  rw [← f1] at hx2
  rw [← f2] at hx1
  obtain ⟨n3, hn3⟩ : ∃ n3 : Nat, n3 = p3 + 3 := ⟨_, rfl⟩
  rw [← hn3] at e1 e2 e3 ⊢
  have hn3b : n3 ≤ 1000003 := by omega
  clear f1 f2 h hv hn3 hk
  obtain ⟨x0, y0⟩ : ∃ x, x = atw l p3 := ⟨_, rfl⟩
  obtain ⟨x1, y1⟩ : ∃ x, x = atw l p2 := ⟨_, rfl⟩
  obtain ⟨x2, y2⟩ : ∃ x, x = atw l p1 := ⟨_, rfl⟩
  rw [← y0] at hx0 t2 t3
  rw [← y1] at hx1 t1 t3
  rw [← y2] at hx2 t1 t3
  have Y0 := Lib.hid y0
  have Y1 := Lib.hid y1
  have Y2 := Lib.hid y2
  clear y0 y1 y2
  have o1 : bits .or .u64 ((x2 : Int) * 4294967296) (x1 : Int) = (x2 : Int) * 4294967296 + (x1 : Int) := or_words (by omega) (by omega) (by omega) (by omega)
  obtain ⟨hi, hhi⟩ : ∃ hi : Nat, (x2 : Int) * 4294967296 + (x1 : Int) = (hi : Int) := ⟨x2 * 4294967296 + x1, by omega⟩
  rw [hhi] at o1
  have f3 : x2 * 4294967296 + x1 = hi := by omega
  rw [f3] at t1 t3
  have hhb : hi < 18446744073709551616 := by omega
  obtain ⟨r, hr⟩ : ∃ r : Nat, (32 : Int) - (s : Int) = (r : Int) := ⟨32 - s, by omega⟩
  have hre : 32 - s = r := by omega
  rw [hre] at t2 t3 ⊢
  have hrb : r ≤ 32 := by omega
  obtain ⟨z, hz⟩ : ∃ z : Nat, (x0 : Int) / 2 ^ r = (z : Int) := ⟨x0 / 2 ^ r, div_pow_int x0 r⟩
  have hze : x0 / 2 ^ r = z := by have := div_pow_int x0 r; omega
  rw [hze] at t2 t3
  have hzb : z < 4294967296 := by rw [← hze]; exact div_pow_lt hx0 r
  have t4 : hi * 2 ^ s < 18446744073709551616 := by
    have h1 : hi * 2 ^ s < 2 ^ (64 - s) * 2 ^ s := Nat.mul_lt_mul_of_pos_right t1 (Nat.two_pow_pos s)
    rw [← Nat.pow_add, show 64 - s + s = 64 by omega] at h1
    exact h1
  have o2 := or_high t4 t2 (by omega)
  rw [t3] at o2
  have t5 : (hi : Int) * 2 ^ s = ((hi * 2 ^ s : Nat) : Int) := mul_pow_int hi s
  obtain ⟨g, hg⟩ : ∃ g, g = hi * 2 ^ s := ⟨_, rfl⟩
  rw [← hg] at t4 t5 o2
  have t6 : (hi : Int) * 2 ^ s % 18446744073709551616 = (g : Int) := by rw [t5]; omega
  obtain ⟨v, hv⟩ : ∃ v, v = val l / 2 ^ (32 * p3 + r) := ⟨_, rfl⟩
  rw [← hv] at o2 ⊢
  clear hv hg t3 hze hre f3 t1 t2
  go_enter Try.func43, Try.ntmps43
  go_wp2_with fail
  refine (common_word _ _ _ p1 x2 _ _ Hw.out hp1 Y2).mono ?_
  rintro e w' ⟨rfl, rfl⟩
  go_wp2_with fail
  refine (common_word _ _ _ p2 x1 _ _ Hw.out hp2 Y1).mono ?_
  rintro e w' ⟨rfl, rfl⟩
  go_wp2
  go_quiet ((go_at_call 50; exact quiet_here (common_word _ _ _ p3 x0 _ _ (Hw.out.later (below_draws _ _)) hp3 Y0) ⟨_, rfl⟩))
  go_wp2
  go_ret
  exact ⟨rfl, _, rfl⟩
end Go.Proofs.Ytkpnhohaolfmgaa
