/-
  The contracts of package twos (layer 3) at this seat: telling functions.
-/
import Derived.Test.YtkpnhohaolfmgaaNat3
import Derived.Test.YtkpnhohaolfmgaaBits2
namespace Go.Proofs.Ytkpnhohaolfmgaa
open Go.RowKit

/-- The bit at a place that may be below 0. -/
def bitI (v : Nat) (i : Int) : Bool := decide (0 ≤ i) && v.testBit i.toNat
/-- A number of places, below 0 as 0. -/
def natI (n : Int) : Nat := n.toNat

theorem limb_len_nat (x : Nat) (w : World) (hx : x < 4294967296) : Calls Try.prog 54 #[.int .u32 (x : Int)] w fun e w' => e = .returned (.int .i64 ((blen x : Nat) : Int)) ∧ w = w' :=
  (limb_len (x : Int) w (by omega) (by omega)).mono fun e w' ⟨he, hw⟩ => ⟨by rw [he]; simp only [Int.toNat_natCast, bitLen_blen (show x < 18446744073709551616 by omega)], hw⟩
theorem twos_len (a : Option Addr) (n cap : Nat) (l : List Nat) (w : World) (h : Wd w a n cap l) (hn : n ≤ 16777214) :
    Calls Try.prog 66 #[.slice a n cap] w fun e w' => e = .returned (.int .i64 ((blen (val l) : Nat) : Int)) ∧ w = w' := by
  obtain ⟨hb1, hb2⟩ := h.bound
  have H := Lib.hid h
  clear h
  go_enter Try.func66, Try.ntmps66
  go_wp2
  go_loop [3] (fun i => ∃ k : Nat, k ≤ n ∧ i = .int .i64 ((k : Int) - 1) ∧ Hid (top l k = 0)) (fun i => (intOf i + 1).toNat)
  case atStart => exact ⟨n, by omega, by go_num, Lib.hid (top_ge (by have := H.out.len; omega))⟩
  case round =>
    obtain ⟨k, hk, rfl, Ht⟩ := hrel
    cases k with
    | zero =>
      have Hv : Hid (blen (val l) = 0) := Lib.hid (by rw [← top_zero, Ht.out]; rfl)
      go_wp2
      go_ret
      exact ⟨ret_i64 (by rw [Hv.out]; rfl), rfl⟩
    | succ k =>
      have e1 : ((k + 1 : Nat) : Int) - 1 = (k : Int) := by omega
      rw [e1]
      clear e1
      obtain ⟨b, off, rfl, hc⟩ := H.out.at (by omega)
      have hck := hc k (by omega)
      have hx := atw_lt H.out.ok k
      clear hc
      by_cases hz : atw l k = 0
      · have hzb : (((atw l k : Nat) : Int) == 0) = true := by simp [hz]
        have Hz := Lib.hid hz
        clear hz
        go_wp2
        go_round
        case rel => exact ⟨k, by omega, by go_num, Lib.hid (by rw [top_succ, Hz.out, Ht.out])⟩
        case measure => simp [intOf]
      · have hzb : (((atw l k : Nat) : Int) == 0) = false := by simp [hz]
        have Hfin := Lib.hid (blen_top H.out.ok Ht.out hz)
        have hbl : blen (atw l k) ≤ 32 := blen_le.2 (atw_lt H.out.ok k)
        clear hz
        go_wp2_with fail
        refine (limb_len_nat _ _ hx).mono ?_
        rintro e w' ⟨rfl, rfl⟩
        generalize blen (atw l k) = y at *
        go_wp2
        go_ret
        exact ⟨ret_i64 (by rw [Hfin.out]; omega), rfl⟩
end Go.Proofs.Ytkpnhohaolfmgaa
