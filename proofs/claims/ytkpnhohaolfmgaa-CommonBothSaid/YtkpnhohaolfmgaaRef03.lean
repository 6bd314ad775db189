/-
  The contracts of the document's answer for layer 3.
-/
import Derived.Test.YtkpnhohaolfmgaaRef02b
import Derived.Test.YtkpnhohaolfmgaaTwos
import Derived.Test.YtkpnhohaolfmgaaMake
import Derived.Test.YtkpnhohaolfmgaaNatSaid
import Derived.BigRegion
namespace Go.Proofs.Ytkpnhohaolfmgaa
open Go.RowKit

theorem bitI_nat (v i : Nat) : bitI v (i : Int) = v.testBit i := by unfold bitI; rw [decide_eq_true (by omega)]; rfl
theorem ref03_has_neg (a : Option Addr) (n cap : Nat) (i : Int) (w : World) (h : i < 0) :
    Calls Try.prog 58 #[.slice a n cap, .int .i64 i] w fun e w' => e = .returned (.bool false) ∧ w = w' := by
  go_enter Try.func58, Try.ntmps58
  go_wp2
  go_ret
  exact ⟨rfl, rfl⟩
theorem ref03_has_nat (a : Option Addr) (n cap : Nat) (l : List Nat) (i : Nat) (w : World) (h : Wd w a n cap l) (hi : i ≤ 9223372036854775807) :
    Calls Try.prog 58 #[.slice a n cap, .int .i64 (i : Int)] w fun e w' => e = .returned (.bool ((val l).testBit i)) ∧ w = w' := by
  obtain ⟨hb1, hb2⟩ := h.bound
  have H := Lib.hid h
  clear h
  by_cases hlt : i / 32 < n
  · obtain ⟨b, off, rfl, hc⟩ := H.out.at (by omega)
    have hck := hc (i / 32) hlt
    have hx := atw_lt H.out.ok (i / 32)
    clear hc
    have Hfin : Hid ((val l).testBit i = decide (atw l (i / 32) / 2 ^ (i % 32) % 2 = 1)) := Lib.hid (low_bit l H.out.ok i)
    obtain ⟨x, hxx⟩ : ∃ x, x = atw l (i / 32) := ⟨_, rfl⟩
    rw [← hxx] at hck hx Hfin
    clear hxx
    go_enter Try.func58, Try.ntmps58
    go_wp2
    go_loop [5, 6] (fun xv kv => ∃ k y : Nat, k ≤ i % 32 ∧ kv = .int .i64 (k : Int) ∧ xv = .int .u32 (y : Int) ∧ y < 4294967296 ∧ Hid (y = x / 2 ^ k)) (fun _ kv => 32 - (intOf kv).toNat)
    case atStart => exact ⟨0, x, by omega, rfl, rfl, hx, Lib.hid (by simp)⟩
    case round =>
      obtain ⟨k, y, hk, rfl, rfl, hy, Hy⟩ := hrel
      by_cases hkr : k < i % 32
      · have hki : (k : Int) < (i : Int) % 32 := by omega
        go_wp2
        go_round
        case rel => exact ⟨k + 1, y / 2, by omega, by go_num, by go_num, by omega, Lib.hid (by rw [Hy.out, Nat.pow_succ, Nat.div_div_eq_div_mul])⟩
        case measure => simp [intOf]; omega
      · have hki : (i : Int) % 32 ≤ (k : Int) := by omega
        have Hk : Hid (k = i % 32) := Lib.hid (by omega)
        clear hkr
        go_wp2
        go_ret
        exact ⟨ret_bool (by
          rw [Hfin.out, ← Hk.out, ← Hy.out, Bool.eq_iff_iff, beq_iff_eq, decide_eq_true_eq]; omega), rfl⟩
  · have Hv : Hid ((val l).testBit i = false) := Lib.hid (by rw [val_bit H.out.ok, atw_ge (by have := H.out.len; omega)]; simp)
    go_enter Try.func58, Try.ntmps58
    go_wp2
    go_ret
    exact ⟨ret_bool Hv.out.symm, rfl⟩
theorem ref03_has (a : Option Addr) (n cap : Nat) (l : List Nat) (i : Int) (w : World) (h : Wd w a n cap l) (hi : i ≤ 9223372036854775807) :
    Calls Try.prog 58 #[.slice a n cap, .int .i64 i] w fun e w' => e = .returned (.bool (bitI (val l) i)) ∧ w = w' := by
  rcases Int.lt_or_le i 0 with h0 | h0
  · exact (ref03_has_neg a n cap i w h0).mono fun e w' ⟨he, hw⟩ => ⟨by rw [he]; unfold bitI; rw [decide_eq_false (by omega)]; rfl, hw⟩
  · obtain ⟨k, rfl⟩ := Int.eq_ofNat_of_zero_le h0
    exact (ref03_has_nat a n cap l k w h (by omega)).mono fun e w' ⟨he, hw⟩ => ⟨by rw [he, bitI_nat], hw⟩
theorem ref03_len (a : Option Addr) (n cap : Nat) (l : List Nat) (w : World) (h : Wd w a n cap l) (hn : n ≤ 16777214) :
    Calls Try.prog 47 #[.slice a n cap] w fun e w' => e = .returned (.int .i64 ((blen (val l) : Nat) : Int)) ∧ w = w' := by
  obtain ⟨hb1, hb2⟩ := h.bound
  have H := Lib.hid h
  clear h
  go_enter Try.func47, Try.ntmps47
  go_wp2
  go_loop [3] (fun kv => ∃ k : Nat, k ≤ 32 * n ∧ kv = .int .i64 (k : Int) ∧ Hid (val l < 2 ^ k)) (fun kv => (intOf kv).toNat)
  case atStart => exact ⟨32 * n, by omega, by go_num, Lib.hid (by rw [← pow32, ← H.out.len]; exact val_lt H.out.ok)⟩
  case round =>
    obtain ⟨k, hk, rfl, Hv⟩ := hrel
    cases k with
    | zero =>
      have Hfin : Hid (blen (val l) = 0) := Lib.hid (by have := blen_le.2 Hv.out; omega)
      go_wp2
      go_ret
      exact ⟨ret_i64 (by rw [Hfin.out]; rfl), rfl⟩
    | succ p =>
      go_wp2_with fail
      refine (ref03_has_nat _ _ _ _ p _ H.out (by omega)).mono ?_
      rintro e w' ⟨rfl, rfl⟩
      cases hb : (val l).testBit p with
      | true =>
        have Hfin : Hid (blen (val l) = p + 1) := Lib.hid (blen_eq Hv.out (.inr (by rw [Nat.add_sub_cancel]; exact Nat.ge_two_pow_of_testBit hb)))
        clear hb
        go_wp2
        go_ret
        exact ⟨ret_i64 (by rw [Hfin.out]; omega), rfl⟩
      | false =>
        have Hlt : Hid (val l < 2 ^ p) := Lib.hid (lt_of_bit Hv.out hb)
        clear hb
        go_wp2
        go_round
        case rel => exact ⟨p, by omega, by go_num, Hlt⟩
        case measure => simp [intOf]
end Go.Proofs.Ytkpnhohaolfmgaa
