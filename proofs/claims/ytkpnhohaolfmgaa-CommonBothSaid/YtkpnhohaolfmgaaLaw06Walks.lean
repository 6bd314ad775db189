/-
  The walks of the laws of layer 6: works, CommonTells.
-/
import Derived.Test.YtkpnhohaolfmgaaCommonSaid
import Derived.Test.YtkpnhohaolfmgaaNatAll
import Derived.Test.YtkpnhohaolfmgaaRef06c
namespace Go.Proofs.Ytkpnhohaolfmgaa
open Go.RowKit

theorem gcd_12_18 : Nat.gcd 12 18 = 6 := by decide
theorem lcm_4_6 : Nat.lcm 4 6 = 12 := by decide
theorem dg_small {n : Nat} (h : n < 4294967296) : (dg n).length ≤ 1 := dg_length_le (by simpa using h)
set_option maxHeartbeats 1000000 in
theorem law06_works (S : CommonSaid) (w : World) : Calls Try.prog 7 #[] w (Gives (.bool true) w) := by
  have hl12 : (dg 12).length ≤ 1 := dg_small (by decide)
  have hl18 : (dg 18).length ≤ 1 := dg_small (by decide)
  have hl4 : (dg 4).length ≤ 1 := dg_small (by decide)
  have hl6 : (dg 6).length ≤ 1 := dg_small (by decide)
  go_enter Try.func7, Try.ntmps7
  go_wp2_with fail
  refine (natSaid.of 12 _ (by omega)).mono ?_
  rintro e w1 ⟨a1, n1, c1, rfl, h1, b1⟩
  have hn1 := h1.len
  have hB1 := b1
  have Hp_1 := Lib.hid h1
  clear h1 b1
  go_wp2_with fail
  refine (natSaid.of 18 _ (by omega)).mono ?_
  rintro e w2 ⟨a2, n2, c2, rfl, h2, b2⟩
  have hn2 := h2.len
  have hB2 := below_then hB1 b2
  have Hp_2 := Lib.hid (Hp_1.out.later b2)
  have Hq_2 := Lib.hid h2
  clear h2 b2 Hp_1 hB1
  go_wp2_with fail
  refine (S.cancel _ _ _ _ _ _ _ _ _ Hp_2.out Hq_2.out (by omega) (by omega)).mono ?_
  rintro e w3 ⟨a3, n3, c3, a3x, n3x, c3x, rfl, h3, h3x, b3⟩
  rw [val_dg, val_dg, gcd_12_18, show 12 / 6 = 2 from rfl, dg_word (by decide) (by decide)] at h3
  rw [val_dg, val_dg, gcd_12_18, show 18 / 6 = 3 from rfl, dg_word (by decide) (by decide)] at h3x
  have hB3 := below_then hB2 b3
  have Hx_3 := Lib.hid h3
  have Hy_3 := Lib.hid h3x
  clear h3 h3x b3 Hp_2 Hq_2 hB2
  go_wp2_with fail
  refine (natSaid.of 12 _ (by omega)).mono ?_
  rintro e w4 ⟨a4, n4, c4, rfl, h4, b4⟩
  have hn4 := h4.len
  have hB4 := below_then hB3 b4
  have Hx_4 := Lib.hid (Hx_3.out.later b4)
  have Hy_4 := Lib.hid (Hy_3.out.later b4)
  have Hp2_4 := Lib.hid h4
  clear h4 b4 Hx_3 Hy_3 hB3
  go_wp2_with fail
  refine (natSaid.of 18 _ (by omega)).mono ?_
  rintro e w5 ⟨a5, n5, c5, rfl, h5, b5⟩
  have hn5 := h5.len
  have hB5 := below_then hB4 b5
  have Hx_5 := Lib.hid (Hx_4.out.later b5)
  have Hy_5 := Lib.hid (Hy_4.out.later b5)
  have Hp2_5 := Lib.hid (Hp2_4.out.later b5)
  have Hq2_5 := Lib.hid h5
  clear h5 b5 Hx_4 Hy_4 Hp2_4 hB4
  go_wp2_with fail
  refine (S.gcd _ _ _ _ _ _ _ _ _ Hp2_5.out Hq2_5.out (by omega) (by omega)).mono ?_
  rintro e w6 ⟨a6, n6, c6, rfl, h6, b6⟩
  rw [val_dg, val_dg, gcd_12_18, dg_word (by decide) (by decide)] at h6
  have hB6 := below_then hB5 b6
  have Hx_6 := Lib.hid (Hx_5.out.later b6)
  have Hy_6 := Lib.hid (Hy_5.out.later b6)
  have Hg_6 := Lib.hid h6
  clear h6 b6 Hx_5 Hy_5 Hp2_5 Hq2_5 hB5
  go_wp2_with fail
  refine (ref02_same_yes _ _ _ _ _ _ _ _ _ (Hg_6.out.later (below_alloc _ _)) (Wd.lit1 w6 38 (x := 6) (by omega)) rfl).mono ?_
  rintro e w7 ⟨rfl, b7⟩
  have hB7 := below_then hB6 (below_then (below_alloc _ _) b7)
  have Hx_7 := Lib.hid (Hx_6.out.later (below_then (below_alloc _ _) b7))
  have Hy_7 := Lib.hid (Hy_6.out.later (below_then (below_alloc _ _) b7))
  clear b7 Hx_6 Hy_6 Hg_6 hB6
  go_wp2_with fail
  refine (natSaid.of 4 _ (by omega)).mono ?_
  rintro e w8 ⟨a8, n8, c8, rfl, h8, b8⟩
  have hn8 := h8.len
  have hB8 := below_then hB7 b8
  have Hx_8 := Lib.hid (Hx_7.out.later b8)
  have Hy_8 := Lib.hid (Hy_7.out.later b8)
  have Hp3_8 := Lib.hid h8
  clear h8 b8 Hx_7 Hy_7 hB7
  go_wp2_with fail
  refine (natSaid.of 6 _ (by omega)).mono ?_
  rintro e w9 ⟨a9, n9, c9, rfl, h9, b9⟩
  have hn9 := h9.len
  have hB9 := below_then hB8 b9
  have Hx_9 := Lib.hid (Hx_8.out.later b9)
  have Hy_9 := Lib.hid (Hy_8.out.later b9)
  have Hp3_9 := Lib.hid (Hp3_8.out.later b9)
  have Hq3_9 := Lib.hid h9
  clear h9 b9 Hx_8 Hy_8 Hp3_8 hB8
  go_wp2_with fail
  refine (S.lcm _ _ _ _ _ _ _ _ _ Hp3_9.out Hq3_9.out (by omega) (by omega)).mono ?_
  rintro e w10 ⟨a10, n10, c10, rfl, h10, b10⟩
  rw [val_dg, val_dg, lcm_4_6, dg_word (by decide) (by decide)] at h10
  have hB10 := below_then hB9 b10
  have Hx_10 := Lib.hid (Hx_9.out.later b10)
  have Hy_10 := Lib.hid (Hy_9.out.later b10)
  have Hm_10 := Lib.hid h10
  clear h10 b10 Hx_9 Hy_9 Hp3_9 Hq3_9 hB9
  go_wp2_with fail
  refine (ref02_same_yes _ _ _ _ _ _ _ _ _ (Hm_10.out.later (below_alloc _ _)) (Wd.lit1 w10 38 (x := 12) (by omega)) rfl).mono ?_
  rintro e w11 ⟨rfl, b11⟩
  have hB11 := below_then hB10 (below_then (below_alloc _ _) b11)
  have Hx_11 := Lib.hid (Hx_10.out.later (below_then (below_alloc _ _) b11))
  have Hy_11 := Lib.hid (Hy_10.out.later (below_then (below_alloc _ _) b11))
  clear b11 Hx_10 Hy_10 Hm_10 hB10
  go_wp2_with fail
  refine (ref02_same_yes _ _ _ _ _ _ _ _ _ (Hx_11.out.later (below_alloc _ _)) (Wd.lit1 w11 38 (x := 2) (by omega)) rfl).mono ?_
  rintro e w12 ⟨rfl, b12⟩
  have hB12 := below_then hB11 (below_then (below_alloc _ _) b12)
  have Hy_12 := Lib.hid (Hy_11.out.later (below_then (below_alloc _ _) b12))
  clear b12 Hx_11 Hy_11 hB11
  go_wp2_with fail
  refine (ref02_same_yes _ _ _ _ _ _ _ _ _ (Hy_12.out.later (below_alloc _ _)) (Wd.lit1 w12 38 (x := 3) (by omega)) rfl).mono ?_
  rintro e w13 ⟨rfl, b13⟩
  have hB13 := below_then hB12 (below_then (below_alloc _ _) b13)
  clear b13 Hy_12 hB12
  go_wp2
  go_ret
  exact ⟨rfl, hB13⟩
theorem law06_tells_out (S : CommonSaid) (a : Option Addr) (n cap : Nat) (b : Option Addr) (m cap' : Nat) (w : World) (h1 : n ≤ 9223372036854775807) (h2 : m ≤ 9223372036854775807) (h : 30 < n ∨ 30 < m) :
    Calls Try.prog 3 #[.slice a n cap, .slice b m cap'] w (Gives (.bool true) w) := by
  by_cases hx : 30 < n
  · have hbi : (30 : Int) < (n : Int) := by omega
    clear h
    go_enter Try.func3, Try.ntmps3
    go_wp2_with fail
    refine (law06_works S _).mono ?_
    rintro e w1 ⟨rfl, b1⟩
    have hB1 := b1
    clear b1
    go_wp2
    go_ret
    exact ⟨rfl, hB1⟩
  · have hbi : (n : Int) ≤ 30 := by omega
    have hci : (30 : Int) < (m : Int) := by omega
    clear h
    go_enter Try.func3, Try.ntmps3
    go_wp2_with fail
    refine (law06_works S _).mono ?_
    rintro e w1 ⟨rfl, b1⟩
    have hB1 := b1
    clear b1
    go_wp2
    go_ret
    exact ⟨rfl, hB1⟩
set_option maxHeartbeats 2000000 in
theorem law06_tells_zero (S : CommonSaid) (a : Option Addr) (n cap : Nat) (la : List Nat) (b : Option Addr) (m cap' : Nat) (lb : List Nat) (w : World) (ha : Wd w a n cap la) (hb : Wd w b m cap' lb) (hn : n ≤ 30) (hm : m ≤ 30) (h0 : Hid (Nat.gcd (val la) (val lb) = 0)) :
    Calls Try.prog 3 #[.slice a n cap, .slice b m cap'] w (Gives (.bool true) w) := by
  have Ha := Lib.hid ha
  have Hb := Lib.hid hb
  clear ha hb
  go_enter Try.func3, Try.ntmps3
  go_wp2_with fail
  refine (ref06_gcd _ _ _ _ _ _ _ _ _ Ha.out Hb.out (by omega) (by omega)).mono ?_
  rintro e w1 ⟨a1, n1, c1, rfl, h1, b1⟩
  have hg1 : n1 = 0 := by have := h1.len; rw [h0.out, dg_zero] at this; exact this.symm
  subst hg1
  have hB1 := b1
  have Hg_1 := Lib.hid h1
  clear h1 b1
  go_wp2_with fail
  refine (S.cancel _ _ _ _ _ _ _ _ _ (Ha.out.later hB1) (Hb.out.later hB1) (by omega) (by omega)).mono ?_
  rintro e w2 ⟨a2, n2, c2, a2x, n2x, c2x, rfl, h2, h2x, b2⟩
  rw [h0.out, Nat.div_zero, dg_zero] at h2
  rw [h0.out, Nat.div_zero, dg_zero] at h2x
  obtain rfl : n2 = 0 := h2.len.symm
  obtain rfl : n2x = 0 := h2x.len.symm
  have hB2 := below_then hB1 b2
  have Hg_2 := Lib.hid (Hg_1.out.later b2)
  clear h2 h2x b2 Hg_1 hB1
  go_wp2_with fail
  refine (S.gcd _ _ _ _ _ _ _ _ _ (Ha.out.later hB2) (Hb.out.later hB2) (by omega) (by omega)).mono ?_
  rintro e w3 ⟨a3, n3, c3, rfl, h3, b3⟩
  have hB3 := below_then hB2 b3
  have Hg_3 := Lib.hid (Hg_2.out.later b3)
  have Hh_3 := Lib.hid h3
  clear h3 b3 Hg_2 hB2
  go_wp2_with fail
  refine (ref02_same_yes _ _ _ _ _ _ _ _ _ Hh_3.out Hg_3.out rfl).mono ?_
  rintro e w4 ⟨rfl, b4⟩
  have hB4 := below_then hB3 b4
  have Hg_4 := Lib.hid (Hg_3.out.later b4)
  clear b4 Hg_3 Hh_3 hB3
  go_wp2_with fail
  refine (S.prime _ _ _ _ _ _ _ _ _ (Ha.out.later hB4) (Hb.out.later hB4) (by omega) (by omega)).mono ?_
  rintro e w5 ⟨rfl, b5⟩
  have hB5 := below_then hB4 b5
  have Hg_5 := Lib.hid (Hg_4.out.later b5)
  clear b5 Hg_4 hB4
  go_wp2_with fail
  refine (ref06_one _ _ _ (Nat.gcd (val la) (val lb)) _ Hg_5.out).mono ?_
  rintro e w' ⟨rfl, rfl⟩
  go_wp2_with fail
  refine (S.lcm _ _ _ _ _ _ _ _ _ (Ha.out.later hB5) (Hb.out.later hB5) (by omega) (by omega)).mono ?_
  rintro e w7 ⟨a7, n7, c7, rfl, h7, b7⟩
  have hB7 := below_then hB5 b7
  have Hm_7 := Lib.hid h7
  clear h7 b7 Hg_5 hB5
  go_wp2_with fail
  refine (ref06_lcm _ _ _ _ _ _ _ _ _ (Ha.out.later hB7) (Hb.out.later hB7) (by omega) (by omega)).mono ?_
  rintro e w8 ⟨a8, n8, c8, rfl, h8, b8⟩
  have hB8 := below_then hB7 b8
  have Hm_8 := Lib.hid (Hm_7.out.later b8)
  have Hm2_8 := Lib.hid h8
  clear h8 b8 Hm_7 hB7
  go_wp2_with fail
  refine (ref02_same_yes _ _ _ _ _ _ _ _ _ Hm_8.out Hm2_8.out rfl).mono ?_
  rintro e w9 ⟨rfl, b9⟩
  have hB9 := below_then hB8 b9
  clear b9 Hm_8 Hm2_8 hB8
  go_wp2_with fail
  refine (law06_works S _).mono ?_
  rintro e w10 ⟨rfl, b10⟩
  have hB10 := below_then hB9 b10
  clear b10 hB9
  go_wp2
  go_ret
  exact ⟨rfl, hB10⟩
set_option maxHeartbeats 2000000 in
theorem law06_tells_pos (S : CommonSaid) (a : Option Addr) (n cap : Nat) (la : List Nat) (b : Option Addr) (m cap' : Nat) (lb : List Nat) (w : World) (ha : Wd w a n cap la) (hb : Wd w b m cap' lb) (hn : n ≤ 30) (hm : m ≤ 30) (h0 : Hid (Nat.gcd (val la) (val lb) ≠ 0)) :
    Calls Try.prog 3 #[.slice a n cap, .slice b m cap'] w (Gives (.bool true) w) := by
  have hgl : (dg (Nat.gcd (val la) (val lb))).length ≤ 30 := by
    have h1 := ha.trim_le
    have h2 := hb.trim_le
    rcases gcd_length_le (val la) (val lb) with h | h <;> omega
  have Ha := Lib.hid ha
  have Hb := Lib.hid hb
  clear ha hb
  go_enter Try.func3, Try.ntmps3
  go_wp2_with fail
  refine (ref06_gcd _ _ _ _ _ _ _ _ _ Ha.out Hb.out (by omega) (by omega)).mono ?_
  rintro e w1 ⟨a1, n1, c1, rfl, h1, b1⟩
  have hg : n1 ≤ 30 := by rw [← h1.len]; exact hgl
  have hg0 : ¬ n1 = 0 := fun h => h0.out (dg_nil_iff.1 (h1.len.trans h))
  have hgi : ((n1 : Int) == 0) = false := by simp [hg0]
  have hB1 := b1
  have Hg_1 := Lib.hid h1
  clear h1 b1
  go_wp2_with fail
  refine (S.cancel _ _ _ _ _ _ _ _ _ (Ha.out.later hB1) (Hb.out.later hB1) (by omega) (by omega)).mono ?_
  rintro e w2 ⟨a2, n2, c2, a2x, n2x, c2x, rfl, h2, h2x, b2⟩
  have hB2 := below_then hB1 b2
  have Hg_2 := Lib.hid (Hg_1.out.later b2)
  have Hx_2 := Lib.hid h2
  have Hy_2 := Lib.hid h2x
  clear h2 h2x b2 Hg_1 hB1
  go_wp2_with fail
  refine (S.gcd _ _ _ _ _ _ _ _ _ (Ha.out.later hB2) (Hb.out.later hB2) (by omega) (by omega)).mono ?_
  rintro e w3 ⟨a3, n3, c3, rfl, h3, b3⟩
  have hB3 := below_then hB2 b3
  have Hg_3 := Lib.hid (Hg_2.out.later b3)
  have Hx_3 := Lib.hid (Hx_2.out.later b3)
  have Hy_3 := Lib.hid (Hy_2.out.later b3)
  have Hh_3 := Lib.hid h3
  clear h3 b3 Hg_2 Hx_2 Hy_2 hB2
  go_wp2_with fail
  refine (ref02_same_yes _ _ _ _ _ _ _ _ _ Hh_3.out Hg_3.out rfl).mono ?_
  rintro e w4 ⟨rfl, b4⟩
  have hB4 := below_then hB3 b4
  have Hg_4 := Lib.hid (Hg_3.out.later b4)
  have Hx_4 := Lib.hid (Hx_3.out.later b4)
  have Hy_4 := Lib.hid (Hy_3.out.later b4)
  clear b4 Hg_3 Hx_3 Hy_3 Hh_3 hB3
  go_wp2_with fail
  refine (S.prime _ _ _ _ _ _ _ _ _ (Ha.out.later hB4) (Hb.out.later hB4) (by omega) (by omega)).mono ?_
  rintro e w5 ⟨rfl, b5⟩
  have hB5 := below_then hB4 b5
  have Hg_5 := Lib.hid (Hg_4.out.later b5)
  have Hx_5 := Lib.hid (Hx_4.out.later b5)
  have Hy_5 := Lib.hid (Hy_4.out.later b5)
  clear b5 Hg_4 Hx_4 Hy_4 hB4
  go_wp2_with fail
  refine (ref06_one _ _ _ (Nat.gcd (val la) (val lb)) _ Hg_5.out).mono ?_
  rintro e w' ⟨rfl, rfl⟩
  go_wp2_with fail
  refine (S.lcm _ _ _ _ _ _ _ _ _ (Ha.out.later hB5) (Hb.out.later hB5) (by omega) (by omega)).mono ?_
  rintro e w7 ⟨a7, n7, c7, rfl, h7, b7⟩
  have hB7 := below_then hB5 b7
  have Hg_7 := Lib.hid (Hg_5.out.later b7)
  have Hx_7 := Lib.hid (Hx_5.out.later b7)
  have Hy_7 := Lib.hid (Hy_5.out.later b7)
  have Hm_7 := Lib.hid h7
  clear h7 b7 Hg_5 Hx_5 Hy_5 hB5
  go_wp2_with fail
  refine (ref06_lcm _ _ _ _ _ _ _ _ _ (Ha.out.later hB7) (Hb.out.later hB7) (by omega) (by omega)).mono ?_
  rintro e w8 ⟨a8, n8, c8, rfl, h8, b8⟩
  have hB8 := below_then hB7 b8
  have Hg_8 := Lib.hid (Hg_7.out.later b8)
  have Hx_8 := Lib.hid (Hx_7.out.later b8)
  have Hy_8 := Lib.hid (Hy_7.out.later b8)
  have Hm_8 := Lib.hid (Hm_7.out.later b8)
  have Hm2_8 := Lib.hid h8
  clear h8 b8 Hg_7 Hx_7 Hy_7 Hm_7 hB7
  go_wp2_with fail
  refine (ref02_same_yes _ _ _ _ _ _ _ _ _ Hm_8.out Hm2_8.out rfl).mono ?_
  rintro e w9 ⟨rfl, b9⟩
  have hB9 := below_then hB8 b9
  have Hg_9 := Lib.hid (Hg_8.out.later b9)
  have Hx_9 := Lib.hid (Hx_8.out.later b9)
  have Hy_9 := Lib.hid (Hy_8.out.later b9)
  clear b9 Hg_8 Hx_8 Hy_8 Hm_8 Hm2_8 hB8
  go_wp2_with fail
  refine (ref06_over _ _ _ _ _ _ _ _ _ (Ha.out.later hB9) Hg_9.out (by omega) (by omega) h0).mono ?_
  rintro e w10 ⟨a10, n10, c10, rfl, h10, b10⟩
  have hB10 := below_then hB9 b10
  have Hg_10 := Lib.hid (Hg_9.out.later b10)
  have Hx_10 := Lib.hid (Hx_9.out.later b10)
  have Hy_10 := Lib.hid (Hy_9.out.later b10)
  have Hs_10 := Lib.hid h10
  clear h10 b10 Hg_9 Hx_9 Hy_9 hB9
  go_wp2_with fail
  refine (ref02_same_yes _ _ _ _ _ _ _ _ _ Hx_10.out Hs_10.out rfl).mono ?_
  rintro e w11 ⟨rfl, b11⟩
  have hB11 := below_then hB10 b11
  have Hg_11 := Lib.hid (Hg_10.out.later b11)
  have Hy_11 := Lib.hid (Hy_10.out.later b11)
  clear b11 Hg_10 Hx_10 Hy_10 Hs_10 hB10
  go_wp2_with fail
  refine (ref06_over _ _ _ _ _ _ _ _ _ (Hb.out.later hB11) Hg_11.out (by omega) (by omega) h0).mono ?_
  rintro e w12 ⟨a12, n12, c12, rfl, h12, b12⟩
  have hB12 := below_then hB11 b12
  have Hy_12 := Lib.hid (Hy_11.out.later b12)
  have Ht_12 := Lib.hid h12
  clear h12 b12 Hg_11 Hy_11 hB11
  go_wp2_with fail
  refine (ref02_same_yes _ _ _ _ _ _ _ _ _ Hy_12.out Ht_12.out rfl).mono ?_
  rintro e w13 ⟨rfl, b13⟩
  have hB13 := below_then hB12 b13
  clear b13 Hy_12 Ht_12 hB12
  go_wp2_with fail
  refine (law06_works S _).mono ?_
  rintro e w14 ⟨rfl, b14⟩
  have hB14 := below_then hB13 b14
  clear b14 hB13
  go_wp2
  go_ret
  exact ⟨rfl, hB14⟩
theorem law06_tells (S : CommonSaid) (a : Option Addr) (n cap : Nat) (la : List Nat) (b : Option Addr) (m cap' : Nat) (lb : List Nat) (w : World) (ha : Wd w a n cap la) (hb : Wd w b m cap' lb) :
    Calls Try.prog 3 #[.slice a n cap, .slice b m cap'] w (Gives (.bool true) w) := by
  have p1 := ha.bound
  have p2 := hb.bound
  by_cases h : 30 < n ∨ 30 < m
  · exact law06_tells_out S a n cap b m cap' w (by omega) (by omega) h
  · by_cases h0 : Nat.gcd (val la) (val lb) = 0
    · exact law06_tells_zero S a n cap la b m cap' lb w ha hb (by omega) (by omega) (Lib.hid h0)
    · exact law06_tells_pos S a n cap la b m cap' lb w ha hb (by omega) (by omega) (Lib.hid h0)
end Go.Proofs.Ytkpnhohaolfmgaa
