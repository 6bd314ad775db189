/-
  The walks of the laws of layer 1.
-/
import Derived.Test.YtgocggikopdojaaDoorRef01
namespace Go.Proofs.YtgocggikopdojaaDoor
open Go.RowKit

theorem bitLen_8 : Lib.bitLen (8 : Int).toNat = 4 := by decide +kernel
theorem ctz_8 : Lib.ctz 32 (8 : Int).toNat = 3 := by decide +kernel
theorem ctz_le (m : Nat) (h : m < 4294967296) : Lib.ctz 32 m ≤ 32 := by
  by_cases h0 : m = 0
  · subst h0; simp [Lib.ctz]
  · have := (Lib.lowest_bit 32 m h0 (by omega)).2; omega

set_option maxHeartbeats 400000 in
theorem law01_works (w : World) (hT : Tab w) : Calls Tryd.prog 11 #[] w fun e w' => e = .returned (.bool true) ∧ w = w' := by
  have h8 := Lib.hid bitLen_8
  have t8 := Lib.hid ctz_8
  go_enter Tryd.func11, Tryd.ntmps11
  go_wp2_with (first | (go_at_call 7; refine (limb_add _ _ _ _ (by omega) (by omega) (by omega) (by omega) (by omega) (by omega)).mono ?_; rintro e w' ⟨rfl, rfl⟩) | (go_at_call 16; refine (limb_len _ _ (by omega) (by omega)).mono ?_; rintro e w' ⟨rfl, rfl⟩; rw [h8.out]) | (go_at_call 18; refine (limb_zeros _ _ (by omega) (by omega) hT).mono ?_; rintro e w' ⟨rfl, rfl⟩; rw [t8.out]))
  go_ret
  exact ⟨rfl, rfl⟩

set_option maxHeartbeats 400000 in
theorem law01_adds (x y c : Int) (w : World) (hT : Tab w) (hx0 : 0 ≤ x) (hx : x ≤ 4294967295) (hy0 : 0 ≤ y) (hy : y ≤ 4294967295) (hc0 : 0 ≤ c) (hc : c ≤ 4294967295) :
    Calls Tryd.prog 3 #[.int .u32 x, .int .u32 y, .int .u32 c] w fun e w' => e = .returned (.bool true) ∧ w = w' := by
  go_enter Tryd.func3, Tryd.ntmps3
  go_wp2_with (first | (go_at_call 7; refine (limb_add _ _ _ _ hx0 hx hy0 hy hc0 hc).mono ?_; rintro e w' ⟨rfl, rfl⟩) | (go_at_call 8; refine (ref_add _ _ _ _ hx0 hx hy0 hy hc0 hc).mono ?_; rintro e w' ⟨rfl, rfl⟩) | (go_at_call 9; refine (limb_sub _ _ _ _ hx0 hx hy0 hy hc0 hc).mono ?_; rintro e w' ⟨rfl, rfl⟩) | (go_at_call 10; refine (ref_sub _ _ _ _ hx0 hx hy0 hy hc0 hc).mono ?_; rintro e w' ⟨rfl, rfl⟩) | (go_at_call 11; refine (law01_works _ hT).mono ?_; rintro e w' ⟨rfl, rfl⟩))
  go_ret
  exact ⟨rfl, rfl⟩

set_option maxHeartbeats 400000 in
theorem law01_bits (x : Int) (w : World) (hT : Tab w) (h0 : 0 ≤ x) (h1 : x ≤ 4294967295) :
    Calls Tryd.prog 5 #[.int .u32 x] w fun e w' => e = .returned (.bool true) ∧ w = w' := by
  go_enter Tryd.func5, Tryd.ntmps5
  go_wp2_with (first | (go_at_call 16; refine (limb_len _ _ h0 h1).mono ?_; rintro e w' ⟨rfl, rfl⟩) | (go_at_call 17; refine (ref_len _ _ h0 h1).mono ?_; rintro e w' ⟨rfl, rfl⟩) | (go_at_call 18; refine (limb_zeros _ _ h0 h1 hT).mono ?_; rintro e w' ⟨rfl, rfl⟩) | (go_at_call 19; refine (ref_zeros _ _ h0 h1).mono ?_; rintro e w' ⟨rfl, rfl⟩) | (go_at_call 11; refine (law01_works _ hT).mono ?_; rintro e w' ⟨rfl, rfl⟩))
  go_ret
  exact ⟨rfl, rfl⟩

set_option maxHeartbeats 1000000 in
theorem law01_times (x y c d : Int) (w : World) (hT : Tab w) (hx0 : 0 ≤ x) (hx : x ≤ 4294967295) (hy0 : 0 ≤ y) (hy : y ≤ 4294967295) (hc0 : 0 ≤ c) (hc : c ≤ 4294967295) (hd0 : 0 ≤ d) (hd : d ≤ 4294967295) :
    Calls Tryd.prog 4 #[.agg #[.int .u32 x, .int .u32 y, .int .u32 c, .int .u32 d]] w fun e w' => e = .returned (.bool true) ∧ Below w.heap.size w w' := by
  by_cases hlt : x < c
  · go_enter Tryd.func4, Tryd.ntmps4
    go_wp2_with (first | (go_at_call 12; refine (limb_mul _ _ _ _ _ hx0 hx hy0 hy hc0 hc hd0 hd).mono ?_; rintro e w' ⟨rfl, rfl⟩) | (go_at_call 13; refine (ref_mul _ _ _ _ _ hx0 hx hy0 hy hc0 hc hd0 hd).mono ?_; rintro e w' ⟨rfl, rfl⟩) | (go_at_call 14; refine (limb_div_yes _ _ _ _ hx0 hx hy0 hy hc hlt).mono ?_; rintro e w' ⟨rfl, n, rfl⟩) | (go_at_call 15; refine (ref_div_yes _ _ _ _ hx0 hy0 hy hc hlt).mono ?_; rintro e w' ⟨rfl, rfl⟩) | (go_at_call 11; refine (law01_works _ (hT.later (by exact below_drewN ((Below.refl _ _).alloc (Nat.le_refl _) _) _))).mono ?_; rintro e w' ⟨rfl, rfl⟩))
    go_ret
    exact ⟨rfl, below_drewN ((Below.refl _ _).alloc (Nat.le_refl _) _) _⟩
  · have hge : c ≤ x := by omega
    clear hlt
    go_enter Tryd.func4, Tryd.ntmps4
    go_wp2_with (first | (go_at_call 12; refine (limb_mul _ _ _ _ _ hx0 hx hy0 hy hc0 hc hd0 hd).mono ?_; rintro e w' ⟨rfl, rfl⟩) | (go_at_call 13; refine (ref_mul _ _ _ _ _ hx0 hx hy0 hy hc0 hc hd0 hd).mono ?_; rintro e w' ⟨rfl, rfl⟩) | (go_at_call 14; refine (limb_div_no _ _ _ _ hge).mono ?_; rintro e w' ⟨rfl, rfl⟩) | (go_at_call 15; refine (ref_div_no _ _ _ _ hge).mono ?_; rintro e w' ⟨rfl, rfl⟩) | (go_at_call 11; refine (law01_works _ (hT.later (by exact ((Below.refl _ _).alloc (Nat.le_refl _) _)))).mono ?_; rintro e w' ⟨rfl, rfl⟩))
    go_ret
    exact ⟨rfl, (Below.refl _ _).alloc (Nat.le_refl _) _⟩

/-- What the law's own sum gives back: x, and as many borrows as there were carries. -/
theorem back_sum {x y c : Int} (hx0 : 0 ≤ x) (hx : x ≤ 4294967295) : ((x + y + c) % 4294967296 - y - c) % 4294967296 = x ∧ -(((x + y + c) % 4294967296 - y - c) / 4294967296) = (x + y + c) / 4294967296 := by omega
theorem back_div {x y d : Int} (hy0 : 0 ≤ y) (hy : y ≤ 4294967295) : ((x * 4294967296 + y) / d * d + (x * 4294967296 + y) % d + 0) / 4294967296 = x ∧ ((x * 4294967296 + y) / d * d + (x * 4294967296 + y) % d + 0) % 4294967296 = y := by
  have h := Int.ediv_mul_add_emod (x * 4294967296 + y) d
  rw [h]
  omega

set_option maxHeartbeats 1000000 in
theorem law01_back (x y c d : Int) (w : World) (hT : Tab w) (hx0 : 0 ≤ x) (hx : x ≤ 4294967295) (hy0 : 0 ≤ y) (hy : y ≤ 4294967295) (hc0 : 0 ≤ c) (hc : c ≤ 4294967295) (hd0 : 0 ≤ d) (hd : d ≤ 4294967295) :
    Calls Tryd.prog 6 #[.agg #[.int .u32 x, .int .u32 y, .int .u32 c, .int .u32 d]] w fun e w' => e = .returned (.bool true) ∧ Below w.heap.size w w' := by
  obtain ⟨b1, b2⟩ := back_sum (y := y) (c := c) hx0 hx
  have B1 := Lib.hid b1
  have B2 := Lib.hid b2
  clear b1 b2
  by_cases hlt : x < d
  · obtain ⟨hq0, hq⟩ := div_word hx0 hy0 hy hlt
    obtain ⟨hr0, hr⟩ := mod_word (n := x * 4294967296 + y) (y := d) (by omega)
    obtain ⟨b3, b4⟩ := back_div (x := x) (d := d) hy0 hy
    have B3 := Lib.hid b3
    have B4 := Lib.hid b4
    clear b3 b4
    go_enter Tryd.func6, Tryd.ntmps6
    go_wp2_with (first | (go_at_call 7; refine (limb_add _ _ _ _ hx0 hx hy0 hy hc0 hc).mono ?_; rintro e w' ⟨rfl, rfl⟩) | (go_at_call 9; refine (limb_sub _ _ _ _ (by omega) (by omega) hy0 hy hc0 hc).mono ?_; rintro e w' ⟨rfl, rfl⟩; rw [B1.out, B2.out]) | (go_at_call 14; refine (limb_div_yes _ _ _ _ hx0 hx hy0 hy hd hlt).mono ?_; rintro e w' ⟨rfl, n, rfl⟩) | (go_at_call 12; refine (limb_mul _ _ _ _ _ hq0 hq hd0 hd hr0 (by omega) (by omega) (by omega)).mono ?_; rintro e w' ⟨rfl, rfl⟩; rw [B3.out, B4.out]) | (go_at_call 11; refine (law01_works _ (hT.later (by exact below_drewN ((Below.refl _ _).alloc (Nat.le_refl _) _) _))).mono ?_; rintro e w' ⟨rfl, rfl⟩))
    go_ret
    exact ⟨rfl, below_drewN ((Below.refl _ _).alloc (Nat.le_refl _) _) _⟩
  · have hge : d ≤ x := by omega
    clear hlt
    go_enter Tryd.func6, Tryd.ntmps6
    go_wp2_with (first | (go_at_call 7; refine (limb_add _ _ _ _ hx0 hx hy0 hy hc0 hc).mono ?_; rintro e w' ⟨rfl, rfl⟩) | (go_at_call 9; refine (limb_sub _ _ _ _ (by omega) (by omega) hy0 hy hc0 hc).mono ?_; rintro e w' ⟨rfl, rfl⟩; rw [B1.out, B2.out]) | (go_at_call 14; refine (limb_div_no _ _ _ _ hge).mono ?_; rintro e w' ⟨rfl, rfl⟩) | (go_at_call 11; refine (law01_works _ (hT.later (by exact ((Below.refl _ _).alloc (Nat.le_refl _) _)))).mono ?_; rintro e w' ⟨rfl, rfl⟩))
    go_ret
    exact ⟨rfl, (Below.refl _ _).alloc (Nat.le_refl _) _⟩
end Go.Proofs.YtgocggikopdojaaDoor
