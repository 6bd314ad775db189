/-
  The contracts of the document's answer for layer 3.
-/
import Derived.Test.YtfjkolnaihejcaaDoorRef02b
import Derived.Test.YtfjkolnaihejcaaDoorTwos
import Derived.Test.YtfjkolnaihejcaaDoorMake
import Derived.Test.YtfjkolnaihejcaaDoorNatSaid
import Derived.BigRegion
namespace Go.Proofs.YtfjkolnaihejcaaDoor
open Go.RowKit

theorem bitI_nat (v i : Nat) : bitI v (i : Int) = v.testBit i := by unfold bitI; rw [decide_eq_true (by omega)]; rfl
theorem ref03_has_neg (a : Option Addr) (n cap : Nat) (i : Int) (w : World) (h : i < 0) :
    Calls Tryd.prog 12 #[.slice a n cap, .int .i64 i] w fun e w' => e = .returned (.bool false) ∧ w = w' := by
  go_enter Tryd.func12, Tryd.ntmps12
  go_wp2
  go_ret
  exact ⟨rfl, rfl⟩
theorem ref03_has_nat (a : Option Addr) (n cap : Nat) (l : List Nat) (i : Nat) (w : World) (h : Wd w a n cap l) (hi : i ≤ 9223372036854775807) :
    Calls Tryd.prog 12 #[.slice a n cap, .int .i64 (i : Int)] w fun e w' => e = .returned (.bool ((val l).testBit i)) ∧ w = w' := by
  obtain ⟨hb1, hb2⟩ := h.bound
  have H := Lib.hid h
  clear h
  by_cases hlt : i / 32 < n
  · obtain ⟨b, off, rfl, hc⟩ := H.out.at (by omega)
    have hck := hc (i / 32) hlt
    have hx := atw_lt H.out.ok (i / 32)
    clear hc
    have Hfin : Hid ((val l).testBit i = decide (atw l (i / 32) / 2 ^ (i % 32) % 2 = 1)) := Lib.hid (low_bit l H.out.ok i)
    obtain ⟨x, hxx⟩ : ∃ x, x = atw l (i / 32) := ⟨_, rfl⟩
    rw [← hxx] at hck hx Hfin
    clear hxx
    go_enter Tryd.func12, Tryd.ntmps12
    go_wp2
    go_loop [5, 6] (fun xv kv => ∃ k y : Nat, k ≤ i % 32 ∧ kv = .int .i64 (k : Int) ∧ xv = .int .u32 (y : Int) ∧ y < 4294967296 ∧ Hid (y = x / 2 ^ k)) (fun _ kv => 32 - (intOf kv).toNat)
    case atStart => exact ⟨0, x, by omega, rfl, rfl, hx, Lib.hid (by simp)⟩
    case round =>
      obtain ⟨k, y, hk, rfl, rfl, hy, Hy⟩ := hrel
      by_cases hkr : k < i % 32
      · have hki : (k : Int) < (i : Int) % 32 := by omega
        go_wp2
        go_round
        case rel => exact ⟨k + 1, y / 2, by omega, by go_num, by go_num, by omega, Lib.hid (by rw [Hy.out, Nat.pow_succ, Nat.div_div_eq_div_mul])⟩
        case measure => simp [intOf]; omega
      · have hki : (i : Int) % 32 ≤ (k : Int) := by omega
        have Hk : Hid (k = i % 32) := Lib.hid (by omega)
        clear hkr
        go_wp2
        go_ret
        exact ⟨ret_bool (by
          rw [Hfin.out, ← Hk.out, ← Hy.out, Bool.eq_iff_iff, beq_iff_eq, decide_eq_true_eq]; omega), rfl⟩
  · have Hv : Hid ((val l).testBit i = false) := Lib.hid (by rw [val_bit H.out.ok, atw_ge (by have := H.out.len; omega)]; simp)
    go_enter Tryd.func12, Tryd.ntmps12
    go_wp2
    go_ret
    exact ⟨ret_bool Hv.out.symm, rfl⟩
theorem ref03_has (a : Option Addr) (n cap : Nat) (l : List Nat) (i : Int) (w : World) (h : Wd w a n cap l) (hi : i ≤ 9223372036854775807) :
    Calls Tryd.prog 12 #[.slice a n cap, .int .i64 i] w fun e w' => e = .returned (.bool (bitI (val l) i)) ∧ w = w' := by
  rcases Int.lt_or_le i 0 with h0 | h0
  · exact (ref03_has_neg a n cap i w h0).mono fun e w' ⟨he, hw⟩ => ⟨by rw [he]; unfold bitI; rw [decide_eq_false (by omega)]; rfl, hw⟩
  · obtain ⟨k, rfl⟩ := Int.eq_ofNat_of_zero_le h0
    exact (ref03_has_nat a n cap l k w h (by omega)).mono fun e w' ⟨he, hw⟩ => ⟨by rw [he, bitI_nat], hw⟩
theorem ref03_len (a : Option Addr) (n cap : Nat) (l : List Nat) (w : World) (h : Wd w a n cap l) (hn : n ≤ 16777214) :
    Calls Tryd.prog 8 #[.slice a n cap] w fun e w' => e = .returned (.int .i64 ((blen (val l) : Nat) : Int)) ∧ w = w' := by
  obtain ⟨hb1, hb2⟩ := h.bound
  have H := Lib.hid h
  clear h
  go_enter Tryd.func8, Tryd.ntmps8
  go_wp2
  go_loop [3] (fun kv => ∃ k : Nat, k ≤ 32 * n ∧ kv = .int .i64 (k : Int) ∧ Hid (val l < 2 ^ k)) (fun kv => (intOf kv).toNat)
  case atStart => exact ⟨32 * n, by omega, by go_num, Lib.hid (by rw [← pow32, ← H.out.len]; exact val_lt H.out.ok)⟩
  case round =>
    obtain ⟨k, hk, rfl, Hv⟩ := hrel
    cases k with
    | zero =>
      have Hfin : Hid (blen (val l) = 0) := Lib.hid (by have := blen_le.2 Hv.out; omega)
      go_wp2
      go_ret
      exact ⟨ret_i64 (by rw [Hfin.out]; rfl), rfl⟩
    | succ p =>
      go_wp2_with fail
      refine (ref03_has_nat _ _ _ _ p _ H.out (by omega)).mono ?_
      rintro e w' ⟨rfl, rfl⟩
      cases hb : (val l).testBit p with
      | true =>
        have Hfin : Hid (blen (val l) = p + 1) := Lib.hid (blen_eq Hv.out (.inr (by rw [Nat.add_sub_cancel]; exact Nat.ge_two_pow_of_testBit hb)))
        clear hb
        go_wp2
        go_ret
        exact ⟨ret_i64 (by rw [Hfin.out]; omega), rfl⟩
      | false =>
        have Hlt : Hid (val l < 2 ^ p) := Lib.hid (lt_of_bit Hv.out hb)
        clear hb
        go_wp2
        go_round
        case rel => exact ⟨p, by omega, by go_num, Hlt⟩
        case measure => simp [intOf]
theorem ref03_zeros (a : Option Addr) (n cap : Nat) (l : List Nat) (w : World) (h : Wd w a n cap l) (hn : n ≤ 16777214) :
    Calls Tryd.prog 10 #[.slice a n cap] w fun e w' => e = .returned (.int .i64 ((tz (val l) : Nat) : Int)) ∧ w = w' := by
  obtain ⟨hb1, hb2⟩ := h.bound
  have H := Lib.hid h
  clear h
  go_enter Tryd.func10, Tryd.ntmps10
  go_wp2
  go_loop [3] (fun kv => ∃ k : Nat, k ≤ 32 * n ∧ kv = .int .i64 (k : Int) ∧ Hid (∀ j, j < k → (val l).testBit j = false)) (fun kv => 32 * n - (intOf kv).toNat)
  case atStart => exact ⟨0, by omega, rfl, Lib.hid (fun j hj => by omega)⟩
  case round =>
    obtain ⟨k, hk, rfl, Hv⟩ := hrel
    by_cases hlt : k < 32 * n
    · have hki : (k : Int) < 32 * (n : Int) := by omega
      go_wp2_with fail
      refine (ref03_has_nat _ _ _ _ k _ H.out (by omega)).mono ?_
      rintro e w' ⟨rfl, rfl⟩
      cases hb : (val l).testBit k with
      | true =>
        have Hfin := Lib.hid (tz_eq hb Hv.out)
        clear hb
        go_wp2
        go_ret
        exact ⟨ret_i64 (by rw [Hfin.out]), rfl⟩
      | false =>
        have Hb := Lib.hid hb
        clear hb
        go_wp2
        go_round
        case rel => exact ⟨k + 1, by omega, by go_num, Lib.hid (fun j hj => by
          by_cases hjk : j = k
          · rw [hjk]; exact Hb.out
          · exact Hv.out j (by omega))⟩
        case measure => simp [intOf]; omega
    · have hki : 32 * (n : Int) ≤ (k : Int) := by omega
      have Hfin : Hid (tz (val l) = 0) := Lib.hid (by
        have h0 : val l = 0 := Nat.eq_of_testBit_eq fun j => by
          rw [Nat.zero_testBit]
          by_cases hjk : j < k
          · exact Hv.out j hjk
          · exact Nat.testBit_lt_two_pow (Nat.lt_of_lt_of_le (val_lt H.out.ok) (by rw [pow32, H.out.len]; exact Nat.pow_le_pow_right (by decide) (by omega)))
        rw [h0, tz_zero])
      go_wp2
      go_ret
      exact ⟨ret_i64 (by rw [Hfin.out]; rfl), rfl⟩
set_option maxHeartbeats 2000000 in
theorem ref03_bits (a : Option Addr) (n cap : Nat) (l : List Nat) (fr : Int) (many X : Nat) (w : World) (h : Wd w a n cap l) (hm : many ≤ 100000000) (hf0 : -4096 ≤ fr) (hf : fr ≤ 100000000) (hX : Hid (∀ i, i < many → bitI (val l) (fr + (i : Int)) = X.testBit i)) :
    Calls Tryd.prog 28 #[.slice a n cap, .int .i64 fr, .int .i64 (many : Int)] w (Lst (dg (X % 2 ^ many)) w) := by
  obtain ⟨i0, hi, hz0, hz1, hz2⟩ := info_parts infoU32
  have H := Lib.hid h
  clear h
  obtain ⟨m, hm2⟩ : ∃ m, m = many / 32 + 1 := ⟨_, rfl⟩
  have Hm := Lib.hid hm2
  have hmb : m ≤ 4000000 := by omega
  have hmi : (many : Int) / 32 + 1 = (m : Int) := by omega
  clear hm2
  go_enter Tryd.func28, Tryd.ntmps28
  go_wp2_with (at_make; refine wpList_make_words _ rfl _ _ 22 rfl w.heap.size 33 i0 (.int .u32 0) Tryd.underlying22 hi hz0 hz1 rfl .i64 .i64 _ _ m m rfl rfl (by omega) (by omega) (by omega) (by rw [hz2]; omega) (by unfold maxLen; omega) (Nat.le_refl _) ?_; intro w1 hown1 hgrow1)
  rw [zeros_cells] at hown1
  have HO1 : Hid (Own w1 w.heap.size w.heap.size m m (List.replicate m 0)) := Lib.hid ⟨hown1, okw_zeros m⟩
  have hB1 : Below w.heap.size w w1 := (Below.refl _ _).grown hgrow1 (Nat.le_refl _) (fun k hk => by cases hk)
  clear hown1 hgrow1
  go_loopw [8] (fun iv wr => ∃ (i : Nat) (o : List Nat), i ≤ many ∧ iv = .int .i64 (i : Int) ∧ Hid (val o = X % 2 ^ i) ∧ Hid (Own wr w.heap.size w.heap.size m m o) ∧ Below w.heap.size w wr) (fun iv _ => many - (intOf iv).toNat)
  case atStart => exact ⟨0, List.replicate m 0, by omega, rfl, Lib.hid (by rw [val_zeros]; omega), HO1, hB1⟩
  case round =>
    clear HO1 hB1
    obtain ⟨i, o, him, rfl, Hv, HO, hB⟩ := hrel
    by_cases hlt : i < many
    · have hii : (i : Int) < (many : Int) := by omega
      go_wp2_with fail
      refine (ref03_has _ _ _ _ (fr + (i : Int)) _ (H.out.later hB) (by omega)).mono ?_
      rintro e w' ⟨rfl, rfl⟩
      rw [hX.out i hlt]
      cases hb : X.testBit i with
      | true =>
        have hcell := HO.out.cell (k := i / 32) (by have := Hm.out; omega)
        have hfro := HO.out.1.frozenAt (i / 32)
        obtain ⟨hon1, hon2⟩ := bit_on (by rw [HO.out.len]; have := Hm.out; omega) Hv.out hb
        have Hon := Lib.hid hon1
        obtain ⟨q, hq⟩ : ∃ q : Nat, q = i / 32 := ⟨_, rfl⟩
        obtain ⟨r, hr⟩ : ∃ r : Nat, r = i % 32 := ⟨_, rfl⟩
        have hqi : (i : Int) / 32 = (q : Int) := by omega
        have hri : (i : Int) % 32 = (r : Int) := by omega
        have hr31 : r < 32 := by omega
        have hqm : (q : Int) < (m : Int) := by have := Hm.out; omega
        rw [← hq] at hcell hfro hon2 Hon
        rw [← hr] at hon2 Hon
        obtain ⟨u, hu⟩ : ∃ u, u = atw o q := ⟨_, rfl⟩
        rw [← hu] at hcell hon2 Hon
        obtain ⟨P, HP, hP⟩ : ∃ P : Nat, Hid (P = 2 ^ r) ∧ (2 : Int) ^ r = (P : Int) := ⟨2 ^ r, rfl, by simp⟩
        rw [← HP.out] at hon2 Hon
        have HO2 := Lib.hid (Own.set HO.out q (u + P) hon2)
        have hbs := HO.out.base
        have HB2 := Lib.hid (hB.setCell (p := ⟨w.heap.size, q, none⟩) hbs.1 (.int .u32 ((u + P : Nat) : Int)))
        clear hb hon1 hq hr hu
        go_wp2
        go_region
        go_wp2
        go_roundw
        case rel => exact ⟨i + 1, o.set q (u + P), by omega, by go_num, Hon, Lib.hid ⟨HO2.out.1.drew, HO2.out.2⟩, HB2.out.drew⟩
        case measure => simp [intOf]; omega
      | false =>
        have Hoff := Lib.hid (bit_off Hv.out hb)
        clear hb
        go_wp2
        go_roundw
        case rel => exact ⟨i + 1, o, by omega, by go_num, Hoff, HO, hB⟩
        case measure => simp [intOf]; omega
    · obtain rfl : i = many := by omega
      go_wp2_with fail
      refine (ref02_norm _ _ _ _ _ HO.out.wd (by omega)).mono ?_
      rintro e w' ⟨a', n', c', rfl, hwd, hbel⟩
      rw [Hv.out] at hwd
      have HWD := Lib.hid hwd
      clear hwd
      go_wp2
      go_ret
      exact ⟨_, _, _, rfl, HWD.out, below_then hB hbel⟩
theorem ref03_up (a : Option Addr) (n cap : Nat) (l : List Nat) (k : Int) (w : World) (h : Wd w a n cap l) (hn : n ≤ 1000000) :
    Calls Tryd.prog 15 #[.slice a n cap, .int .i64 k] w (Lst (dg (val l * 2 ^ (min k.toNat 4096))) w) := by
  obtain ⟨M, hM⟩ : ∃ M : Nat, (max k 0 : Int) = (M : Int) := ⟨k.toNat, by omega⟩
  obtain ⟨N, hN⟩ : ∃ N : Nat, (min (M : Int) 4096 : Int) = (N : Int) := ⟨min M 4096, by omega⟩
  have HN : Hid (min k.toNat 4096 = N) := Lib.hid (by omega)
  have hNb : N ≤ 4096 := by omega
  have H := Lib.hid h
  clear h
  have HX : Hid (∀ i, i < N + 32 * n → bitI (val l) (-(N : Int) + (i : Int)) = (val l * 2 ^ N).testBit i) := Lib.hid (fun i _ => by
    rw [up_bit]
    by_cases hNi : N ≤ i
    · rw [show -(N : Int) + (i : Int) = ((i - N : Nat) : Int) by omega, bitI_nat, decide_eq_true hNi]; rfl
    · rw [decide_eq_false hNi]; unfold bitI; rw [decide_eq_false (by omega)]; rfl)
  have Hfin : Hid (val l * 2 ^ N % 2 ^ (N + 32 * n) = val l * 2 ^ N) := Lib.hid (Nat.mod_eq_of_lt (by
    rw [Nat.add_comm, Nat.pow_add]; exact Nat.mul_lt_mul_of_pos_right (by rw [← pow32, ← H.out.len]; exact val_lt H.out.ok) (Nat.two_pow_pos N)))
  go_enter Tryd.func15, Tryd.ntmps15
  go_wp2_with fail
  refine (ref03_bits _ _ _ _ (-(N : Int)) (N + 32 * n) _ _ H.out (by omega) (by omega) (by omega) HX).mono ?_
  rintro e w' ⟨a', n', c', rfl, hwd, hbel⟩
  rw [Hfin.out] at hwd
  have HWD := Lib.hid hwd
  clear hwd
  go_wp2
  go_ret
  exact ⟨_, _, _, rfl, by rw [HN.out]; exact HWD.out, hbel⟩
theorem ref03_down (a : Option Addr) (n cap : Nat) (l : List Nat) (k : Int) (w : World) (h : Wd w a n cap l) (hn : n ≤ 1000000) :
    Calls Tryd.prog 17 #[.slice a n cap, .int .i64 k] w (Lst (dg (val l / 2 ^ k.toNat)) w) := by
  obtain ⟨M, hM⟩ : ∃ M : Nat, (max k 0 : Int) = (M : Int) := ⟨k.toNat, by omega⟩
  have HM : Hid (k.toNat = M) := Lib.hid (by omega)
  obtain ⟨N, hN⟩ : ∃ N : Nat, (min (M : Int) (32 * (n : Int)) : Int) = (N : Int) := ⟨min M (32 * n), by omega⟩
  have HN : Hid (min M (32 * n) = N) := Lib.hid (by omega)
  have hNb : N ≤ 32 * n := by omega
  obtain ⟨R, hR⟩ : ∃ R : Nat, 32 * (n : Int) - (N : Int) = (R : Int) := ⟨32 * n - N, by omega⟩
  have HR : Hid (N + R = 32 * n) := Lib.hid (by omega)
  have H := Lib.hid h
  clear h
  have HX : Hid (∀ i, i < R → bitI (val l) ((N : Int) + (i : Int)) = (val l / 2 ^ N).testBit i) := Lib.hid (fun i _ => by
    rw [down_bit, show (N : Int) + (i : Int) = ((N + i : Nat) : Int) by omega, bitI_nat])
  have hvl : val l < 2 ^ (32 * n) := by rw [← pow32, ← H.out.len]; exact val_lt H.out.ok
  have Hfin : Hid (val l / 2 ^ N % 2 ^ R = val l / 2 ^ k.toNat) := Lib.hid (by
    rw [Nat.mod_eq_of_lt (by rw [Nat.div_lt_iff_lt_mul (Nat.two_pow_pos N), ← Nat.pow_add, Nat.add_comm, HR.out]; exact hvl), HM.out, ← HN.out]
    rcases Nat.le_total M (32 * n) with h1 | h1
    · rw [Nat.min_eq_left h1]
    · rw [Nat.min_eq_right h1, Nat.div_eq_of_lt hvl, Nat.div_eq_of_lt (Nat.lt_of_lt_of_le hvl (Nat.pow_le_pow_right (by decide) h1))])
  clear hvl
  go_enter Tryd.func17, Tryd.ntmps17
  go_wp2_with fail
  refine (ref03_bits _ _ _ _ (N : Int) R _ _ H.out (by omega) (by omega) (by omega) HX).mono ?_
  rintro e w' ⟨a', n', c', rfl, hwd, hbel⟩
  rw [Hfin.out] at hwd
  have HWD := Lib.hid hwd
  clear hwd
  go_wp2
  go_ret
  exact ⟨_, _, _, rfl, HWD.out, hbel⟩
theorem ref03_low (a : Option Addr) (n cap : Nat) (l : List Nat) (k : Int) (w : World) (h : Wd w a n cap l) (hn : n ≤ 1000000) :
    Calls Tryd.prog 19 #[.slice a n cap, .int .i64 k] w (Lst (dg (val l % 2 ^ k.toNat)) w) := by
  obtain ⟨M, hM⟩ : ∃ M : Nat, (max k 0 : Int) = (M : Int) := ⟨k.toNat, by omega⟩
  have HM : Hid (k.toNat = M) := Lib.hid (by omega)
  obtain ⟨N, hN⟩ : ∃ N : Nat, (min (M : Int) (32 * (n : Int)) : Int) = (N : Int) := ⟨min M (32 * n), by omega⟩
  have HN : Hid (min M (32 * n) = N) := Lib.hid (by omega)
  have hNb : N ≤ 32 * n := by omega
  have H := Lib.hid h
  clear h
  have HX : Hid (∀ i, i < N → bitI (val l) ((0 : Int) + (i : Int)) = (val l).testBit i) := Lib.hid (fun i _ => by rw [Int.zero_add, bitI_nat])
  have hvl : val l < 2 ^ (32 * n) := by rw [← pow32, ← H.out.len]; exact val_lt H.out.ok
  have Hfin : Hid (val l % 2 ^ N = val l % 2 ^ k.toNat) := Lib.hid (by rw [HM.out, ← HN.out, mod_min hvl])
  clear hvl
  go_enter Tryd.func19, Tryd.ntmps19
  go_wp2_with fail
  refine (ref03_bits _ _ _ _ (0 : Int) N _ _ H.out (by omega) (by omega) (by omega) HX).mono ?_
  rintro e w' ⟨a', n', c', rfl, hwd, hbel⟩
  rw [Hfin.out] at hwd
  have HWD := Lib.hid hwd
  clear hwd
  go_wp2
  go_ret
  exact ⟨_, _, _, rfl, HWD.out, hbel⟩
end Go.Proofs.YtfjkolnaihejcaaDoor
