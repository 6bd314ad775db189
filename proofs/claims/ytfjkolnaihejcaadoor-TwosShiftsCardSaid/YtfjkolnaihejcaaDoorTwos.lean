/-
  The contracts of package twos (layer 3) at this seat: telling functions.
-/
import Derived.Test.YtfjkolnaihejcaaDoorNat3
import Derived.Test.YtfjkolnaihejcaaDoorBits2
namespace Go.Proofs.YtfjkolnaihejcaaDoor
open Go.RowKit

/-- The bit at a place that may be below 0. -/
def bitI (v : Nat) (i : Int) : Bool := decide (0 ≤ i) && v.testBit i.toNat
/-- A number of places, below 0 as 0. -/
def natI (n : Int) : Nat := n.toNat

theorem limb_len_nat (x : Nat) (w : World) (hx : x < 4294967296) : Calls Tryd.prog 24 #[.int .u32 (x : Int)] w fun e w' => e = .returned (.int .i64 ((blen x : Nat) : Int)) ∧ w = w' :=
  (limb_len (x : Int) w (by omega) (by omega)).mono fun e w' ⟨he, hw⟩ => ⟨by rw [he]; simp only [Int.toNat_natCast, bitLen_blen (show x < 18446744073709551616 by omega)], hw⟩
theorem limb_zeros_nat (x : Nat) (w : World) (hx : x < 4294967296) (h0 : Hid (x ≠ 0)) (hT : Tab w) : Calls Tryd.prog 25 #[.int .u32 (x : Int)] w fun e w' => e = .returned (.int .i64 ((tz x : Nat) : Int)) ∧ w = w' :=
  (limb_zeros (x : Int) w (by omega) (by omega) hT).mono fun e w' ⟨he, hw⟩ => ⟨by rw [he]; simp only [Int.toNat_natCast, ctz_tz h0.out hx], hw⟩
theorem twos_len (a : Option Addr) (n cap : Nat) (l : List Nat) (w : World) (h : Wd w a n cap l) (hn : n ≤ 16777214) :
    Calls Tryd.prog 7 #[.slice a n cap] w fun e w' => e = .returned (.int .i64 ((blen (val l) : Nat) : Int)) ∧ w = w' := by
  obtain ⟨hb1, hb2⟩ := h.bound
  have H := Lib.hid h
  clear h
  go_enter Tryd.func7, Tryd.ntmps7
  go_wp2
  go_loop [3] (fun i => ∃ k : Nat, k ≤ n ∧ i = .int .i64 ((k : Int) - 1) ∧ Hid (top l k = 0)) (fun i => (intOf i + 1).toNat)
  case atStart => exact ⟨n, by omega, by go_num, Lib.hid (top_ge (by have := H.out.len; omega))⟩
  case round =>
    obtain ⟨k, hk, rfl, Ht⟩ := hrel
    cases k with
    | zero =>
      have Hv : Hid (blen (val l) = 0) := Lib.hid (by rw [← top_zero, Ht.out]; rfl)
      go_wp2
      go_ret
      exact ⟨ret_i64 (by rw [Hv.out]; rfl), rfl⟩
    | succ k =>
      have e1 : ((k + 1 : Nat) : Int) - 1 = (k : Int) := by omega
      rw [e1]
      clear e1
      obtain ⟨b, off, rfl, hc⟩ := H.out.at (by omega)
      have hck := hc k (by omega)
      have hx := atw_lt H.out.ok k
      clear hc
      by_cases hz : atw l k = 0
      · have hzb : (((atw l k : Nat) : Int) == 0) = true := by simp [hz]
        have Hz := Lib.hid hz
        clear hz
        go_wp2
        go_round
        case rel => exact ⟨k, by omega, by go_num, Lib.hid (by rw [top_succ, Hz.out, Ht.out])⟩
        case measure => simp [intOf]
      · have hzb : (((atw l k : Nat) : Int) == 0) = false := by simp [hz]
        have Hfin := Lib.hid (blen_top H.out.ok Ht.out hz)
        have hbl : blen (atw l k) ≤ 32 := blen_le.2 (atw_lt H.out.ok k)
        clear hz
        go_wp2_with fail
        refine (limb_len_nat _ _ hx).mono ?_
        rintro e w' ⟨rfl, rfl⟩
        generalize blen (atw l k) = y at *
        go_wp2
        go_ret
        exact ⟨ret_i64 (by rw [Hfin.out]; omega), rfl⟩
theorem twos_zeros (a : Option Addr) (n cap : Nat) (l : List Nat) (w : World) (h : Wd w a n cap l) (hn : n ≤ 16777214) (hT : Hid (Tab w)) :
    Calls Tryd.prog 9 #[.slice a n cap] w fun e w' => e = .returned (.int .i64 ((tz (val l) : Nat) : Int)) ∧ w = w' := by
  obtain ⟨hb1, hb2⟩ := h.bound
  have H := Lib.hid h
  clear h
  go_enter Tryd.func9, Tryd.ntmps9
  go_wp2
  go_loop [7] (fun i => ∃ k : Nat, k ≤ n ∧ i = .int .i64 (k : Int) ∧ Hid (low l k = 0)) (fun i => n - (intOf i).toNat)
  case atStart => exact ⟨0, by omega, rfl, Lib.hid (low_zero l)⟩
  case round =>
    obtain ⟨k, hk, rfl, Ht⟩ := hrel
    by_cases hlt : k < n
    · obtain ⟨b, off, rfl, hc⟩ := H.out.at (by omega)
      have hck := hc k (by omega)
      have hx := atw_lt H.out.ok k
      have hk1 : (k : Int) < (n : Int) := by omega
      clear hc
      by_cases hz : atw l k = 0
      · have hzb : (((atw l k : Nat) : Int) == 0) = true := by simp [hz]
        have Hz := Lib.hid hz
        clear hz
        go_wp2
        go_round
        case rel => exact ⟨k + 1, by omega, by go_num, Lib.hid (by rw [low_succ, Hz.out, Ht.out]; rfl)⟩
        case measure => simp [intOf]; omega
      · have hzb : (((atw l k : Nat) : Int) == 0) = false := by simp [hz]
        have Hfin := Lib.hid (tz_low H.out.ok Ht.out hz)
        have Hz := Lib.hid hz
        have htz : tz (atw l k) < 32 := tz_lt hz (atw_lt H.out.ok k)
        clear hz
        go_wp2_with fail
        refine (limb_zeros_nat _ _ hx Hz hT.out).mono ?_
        rintro e w' ⟨rfl, rfl⟩
        generalize tz (atw l k) = y at *
        go_wp2
        go_ret
        exact ⟨ret_i64 (by rw [Hfin.out]; omega), rfl⟩
    · have Hv : Hid (tz (val l) = 0) := Lib.hid (by rw [← low_ge (l := l) (i := k) (by have := H.out.len; omega), Ht.out, tz_zero])
      go_wp2
      go_ret
      exact ⟨ret_i64 (by rw [Hv.out]; rfl), rfl⟩
theorem twos_bit_neg (a : Option Addr) (n cap : Nat) (i : Int) (w : World) (h : i < 0) :
    Calls Tryd.prog 11 #[.slice a n cap, .int .i64 i] w fun e w' => e = .returned (.bool false) ∧ w = w' := by
  go_enter Tryd.func11, Tryd.ntmps11
  go_wp2
  go_ret
  exact ⟨rfl, rfl⟩
theorem twos_bit_nat (a : Option Addr) (n cap : Nat) (l : List Nat) (i : Nat) (w : World) (h : Wd w a n cap l) (hi : i ≤ 9223372036854775807) :
    Calls Tryd.prog 11 #[.slice a n cap, .int .i64 (i : Int)] w fun e w' => e = .returned (.bool ((val l).testBit i)) ∧ w = w' := by
  obtain ⟨hb1, hb2⟩ := h.bound
  have H := Lib.hid h
  clear h
  by_cases hlt : i / 32 < n
  · obtain ⟨b, off, rfl, hc⟩ := H.out.at (by omega)
    have hck := hc (i / 32) hlt
    have hx := atw_lt H.out.ok (i / 32)
    clear hc
    go_enter Tryd.func11, Tryd.ntmps11
    go_wp2
    go_ret
    exact ⟨ret_bool (by rw [bit_word hx, val_bit H.out.ok]), rfl⟩
  · have Hv : Hid ((val l).testBit i = false) := Lib.hid (by rw [val_bit H.out.ok, atw_ge (by have := H.out.len; omega)]; simp)
    go_enter Tryd.func11, Tryd.ntmps11
    go_wp2
    go_ret
    exact ⟨ret_bool Hv.out.symm, rfl⟩
theorem twos_bit (a : Option Addr) (n cap : Nat) (l : List Nat) (i : Int) (w : World) (h : Wd w a n cap l) (hi : i ≤ 9223372036854775807) :
    Calls Tryd.prog 11 #[.slice a n cap, .int .i64 i] w fun e w' => e = .returned (.bool (bitI (val l) i)) ∧ w = w' := by
  rcases Int.lt_or_le i 0 with h0 | h0
  · exact (twos_bit_neg a n cap i w h0).mono fun e w' ⟨he, hw⟩ => ⟨by rw [he]; unfold bitI; rw [decide_eq_false (by omega)]; rfl, hw⟩
  · obtain ⟨k, rfl⟩ := Int.eq_ofNat_of_zero_le h0
    exact (twos_bit_nat a n cap l k w h (by omega)).mono fun e w' ⟨he, hw⟩ => ⟨by rw [he]; unfold bitI; rw [decide_eq_true h0]; rfl, hw⟩
end Go.Proofs.YtfjkolnaihejcaaDoor
