/-
  The walks of the laws of layer 5: QuotBack.
-/
import Derived.Test.YtcihklimngaapaaLaw05Walks
namespace Go.Proofs.Ytcihklimngaapaa
open Go.RowKit

theorem vals_pair (a b : List Nat) : vals [a, b] = val a + val b := by simp [vals]
theorem back_whole (a b : Nat) : a / b * b + a % b = a := Nat.div_add_mod' a b
theorem back_div {c b r : Nat} (h : r < b) : (c * b + r) / b = c := by
  rw [Nat.add_comm, Nat.add_mul_div_right _ _ (by omega), Nat.div_eq_of_lt h, Nat.zero_add]
theorem back_mod {c b r : Nat} (h : r < b) : (c * b + r) % b = r := by
  rw [Nat.add_comm, Nat.add_mul_mod_self_right, Nat.mod_eq_of_lt h]
theorem law05_back_out (a : Option Addr) (n cap : Nat) (b : Option Addr) (m cap' : Nat) (c : Option Addr) (q cap2 : Nat) (w : World) (h1 : n ≤ 9223372036854775807) (h2 : m ≤ 9223372036854775807) (h3 : q ≤ 9223372036854775807) (h : 40 < n ∨ 40 < m ∨ 40 < q) :
    Calls Try.prog 5 #[.slice a n cap, .slice b m cap', .slice c q cap2] w (Gives (.bool true) w) := by
  by_cases hx : 40 < n
  · have hbi : (40 : Int) < (n : Int) := by omega
    clear h
    go_enter Try.func5, Try.ntmps5
    go_wp2_with fail
    refine (law05_works _).mono ?_
    rintro e w1 ⟨rfl, b1⟩
    have hB1 := b1
    clear b1
    go_wp2
    go_ret
    exact ⟨rfl, hB1⟩
  · have hbi : (n : Int) ≤ 40 := by omega
    by_cases hy : 40 < m
    · have hci : (40 : Int) < (m : Int) := by omega
      clear h
      go_enter Try.func5, Try.ntmps5
      go_wp2_with fail
      refine (law05_works _).mono ?_
      rintro e w1 ⟨rfl, b1⟩
      have hB1 := b1
      clear b1
      go_wp2
      go_ret
      exact ⟨rfl, hB1⟩
    · have hci : (m : Int) ≤ 40 := by omega
      have hdi : (40 : Int) < (q : Int) := by omega
      clear h
      go_enter Try.func5, Try.ntmps5
      go_wp2_with fail
      refine (law05_works _).mono ?_
      rintro e w1 ⟨rfl, b1⟩
      have hB1 := b1
      clear b1
      go_wp2
      go_ret
      exact ⟨rfl, hB1⟩
theorem law05_back_zero (a : Option Addr) (n cap : Nat) (b : Option Addr) (m cap' : Nat) (lb : List Nat) (c : Option Addr) (q cap2 : Nat) (w : World) (hb : Wd w b m cap' lb) (hn : n ≤ 40) (hm : m ≤ 40) (hq : q ≤ 40) (h0 : Hid (val lb = 0)) :
    Calls Try.prog 5 #[.slice a n cap, .slice b m cap', .slice c q cap2] w (Gives (.bool true) w) := by
  have Hb := Lib.hid hb
  clear hb
  go_enter Try.func5, Try.ntmps5
  go_wp2_with fail
  refine (natSaid.zero _ _ _ _ _ Hb.out (by omega)).mono ?_
  rintro e w1 ⟨rfl, b1⟩
  have hB1 := b1
  rw [decide_eq_true h0.out]
  clear b1
  go_wp2_with fail
  refine (law05_works _).mono ?_
  rintro e w2 ⟨rfl, b2⟩
  have hB2 := below_then hB1 b2
  clear b2 hB1
  go_wp2
  go_ret
  exact ⟨rfl, hB2⟩
set_option maxHeartbeats 2000000 in
theorem law05_back_in (a : Option Addr) (n cap : Nat) (la : List Nat) (b : Option Addr) (m cap' : Nat) (lb : List Nat) (c : Option Addr) (q cap2 : Nat) (lc : List Nat) (w : World) (ha : Wd w a n cap la) (hb : Wd w b m cap' lb) (hc : Wd w c q cap2 lc) (hn : n ≤ 40) (hm : m ≤ 40) (hq : q ≤ 40) (h0 : Hid (val lb ≠ 0)) :
    Calls Try.prog 5 #[.slice a n cap, .slice b m cap', .slice c q cap2] w (Gives (.bool true) w) := by
  have Ha := Lib.hid ha
  have Hb := Lib.hid hb
  have Hc := Lib.hid hc
  clear ha hb hc
  have hL : Hid ((dg (val la)).length ≤ 40 ∧ (dg (val lb)).length ≤ 40 ∧ (dg (val lc)).length ≤ 40) := Lib.hid ⟨Nat.le_trans Ha.out.trim_le hn, Nat.le_trans Hb.out.trim_le hm, Nat.le_trans Hc.out.trim_le hq⟩
  have HM : Hid (val la % val lb < val lb) := Lib.hid (Nat.mod_lt _ (Nat.pos_of_ne_zero h0.out))
  have HR : Hid ((dg (val la % val lb)).length ≤ 40) := Lib.hid (Nat.le_trans (dg_length_mono (Nat.mod_le _ _)) hL.out.1)
  have HP : Hid ((dg (val lc * val lb)).length ≤ 80) := Lib.hid (by have h1 := dg_mul_length (val lc) (val lb); have := hL.out; omega)
  go_enter Try.func5, Try.ntmps5
  go_wp2_with fail
  refine (natSaid.zero _ _ _ _ _ Hb.out (by omega)).mono ?_
  rintro e w1 ⟨rfl, b1⟩
  have hB1 := b1
  rw [decide_eq_false h0.out]
  clear b1
  go_wp2_with fail
  refine (quot_div _ _ _ _ _ _ _ _ _ (Ha.out.later hB1) (Hb.out.later hB1) (by omega) (by omega) h0).mono ?_
  rintro e w2 ⟨a2, n2, c2, a2x, n2x, c2x, rfl, h2, h2x, b2⟩
  have hn2 : n2 ≤ 40 := by rw [← h2.len]; exact Nat.le_trans (dg_length_mono (Nat.div_le_self _ _)) hL.out.1
  have hn2x : n2x ≤ 40 := by rw [← h2x.len]; exact HR.out
  have hB2 := below_then hB1 b2
  have Hq_2 := Lib.hid h2
  have Hr_2 := Lib.hid h2x
  clear h2 h2x b2 hB1
  go_wp2_with fail
  refine (prod_mul _ _ _ _ _ _ _ _ _ Hq_2.out (Hb.out.later hB2) (by omega) (by omega)).mono ?_
  rintro e w3 ⟨a3, n3, c3, rfl, h3, b3⟩
  rw [val_dg] at h3
  have hn3 : n3 ≤ 40 := by rw [← h3.len]; exact Nat.le_trans (dg_length_mono (Nat.div_mul_le_self _ _)) hL.out.1
  have hB3 := below_then hB2 b3
  have Hr_3 := Lib.hid (Hr_2.out.later b3)
  have Hm_3 := Lib.hid h3
  clear h3 b3 Hq_2 Hr_2 hB2
  go_wp2_with fail
  refine (natSaid.add _ _ _ _ _ (Wds.lit2 w3 22 Hm_3.out Hr_3.out) (by omega) (by have h1 := Hm_3.out.len; have h2 := Hr_3.out.len; simp only [words]; omega)).mono ?_
  rintro e w4 ⟨a4, n4, c4, rfl, h4, b4⟩
  rw [vals_pair, val_dg, val_dg, back_whole] at h4
  have hn4 : n4 ≤ 40 := by rw [← h4.len]; exact hL.out.1
  have hB4 := below_then hB3 (below_then (below_alloc _ _) b4)
  have Hr_4 := Lib.hid (Hr_3.out.later (below_then (below_alloc _ _) b4))
  have Hs_4 := Lib.hid h4
  clear h4 b4 Hr_3 Hm_3 hB3
  go_wp2_with fail
  refine (natSaid.cmp _ _ _ _ _ _ _ _ _ Hs_4.out (Ha.out.later hB4) (by omega) (by omega)).mono ?_
  rintro e w5 ⟨rfl, b5⟩
  have hB5 := below_then hB4 b5
  have Hr_5 := Lib.hid (Hr_4.out.later b5)
  rw [val_dg, cmpI_eq rfl]
  clear b5 Hr_4 Hs_4 hB4
  go_wp2_with fail
  refine (natSaid.cmp _ _ _ _ _ _ _ _ _ Hr_5.out (Hb.out.later hB5) (by omega) (by omega)).mono ?_
  rintro e w6 ⟨rfl, b6⟩
  have hB6 := below_then hB5 b6
  have Hr_6 := Lib.hid (Hr_5.out.later b6)
  rw [val_dg, cmpI_lt HM.out]
  clear b6 Hr_5 hB5
  go_wp2_with fail
  refine (prod_mul _ _ _ _ _ _ _ _ _ (Hc.out.later hB6) (Hb.out.later hB6) (by omega) (by omega)).mono ?_
  rintro e w7 ⟨a7, n7, c7, rfl, h7, b7⟩
  have hn7 : n7 ≤ 80 := by rw [← h7.len]; exact HP.out
  have hB7 := below_then hB6 b7
  have Hr_7 := Lib.hid (Hr_6.out.later b7)
  have Hm2_7 := Lib.hid h7
  clear h7 b7 Hr_6 hB6
  go_wp2_with fail
  refine (natSaid.add _ _ _ _ _ (Wds.lit2 w7 22 Hm2_7.out Hr_7.out) (by omega) (by have h1 := Hm2_7.out.len; have h2 := Hr_7.out.len; simp only [words]; omega)).mono ?_
  rintro e w8 ⟨a8, n8, c8, rfl, h8, b8⟩
  rw [vals_pair, val_dg, val_dg] at h8
  have hn8 : n8 ≤ 121 := by rw [← h8.len]; have h8 := dg_add_length (val lc * val lb) (val la % val lb); have h9 := HP.out; have h10 := HR.out; omega
  have hB8 := below_then hB7 (below_then (below_alloc _ _) b8)
  have Hr_8 := Lib.hid (Hr_7.out.later (below_then (below_alloc _ _) b8))
  have Hs2_8 := Lib.hid h8
  clear h8 b8 Hr_7 Hm2_7 hB7
  go_wp2_with fail
  refine (quot_div _ _ _ _ _ _ _ _ _ Hs2_8.out (Hb.out.later hB8) (by omega) (by omega) h0).mono ?_
  rintro e w9 ⟨a9, n9, c9, a9x, n9x, c9x, rfl, h9, h9x, b9⟩
  rw [val_dg, back_div HM.out] at h9
  rw [val_dg, back_mod HM.out] at h9x
  have hn9 : n9 ≤ 40 := by rw [← h9.len]; exact hL.out.2.2
  have hn9x : n9x ≤ 40 := by rw [← h9x.len]; exact HR.out
  have hB9 := below_then hB8 b9
  have Hr_9 := Lib.hid (Hr_8.out.later b9)
  have Ht_9 := Lib.hid h9
  have Hu_9 := Lib.hid h9x
  clear h9 h9x b9 Hr_8 Hs2_8 hB8
  go_wp2_with fail
  refine (prod_mul _ _ _ _ _ _ _ _ _ (Hc.out.later hB9) (Hb.out.later hB9) (by omega) (by omega)).mono ?_
  rintro e w10 ⟨a10, n10, c10, rfl, h10, b10⟩
  have hn10 : n10 ≤ 80 := by rw [← h10.len]; exact HP.out
  have hB10 := below_then hB9 b10
  have Hr_10 := Lib.hid (Hr_9.out.later b10)
  have Ht_10 := Lib.hid (Ht_9.out.later b10)
  have Hu_10 := Lib.hid (Hu_9.out.later b10)
  have Hm3_10 := Lib.hid h10
  clear h10 b10 Hr_9 Ht_9 Hu_9 hB9
  go_wp2_with fail
  refine (quot_exact_yes _ _ _ _ _ _ _ _ _ Hm3_10.out (Hb.out.later hB10) (by omega) (by omega) h0 (Lib.hid (by rw [val_dg, Nat.mul_mod_left]))).mono ?_
  rintro e w11 ⟨a11, n11, c11, rfl, h11, b11⟩
  rw [val_dg, Nat.mul_div_cancel _ (Nat.pos_of_ne_zero h0.out)] at h11
  have hn11 : n11 ≤ 40 := by rw [← h11.len]; exact hL.out.2.2
  have hB11 := below_then hB10 b11
  have Hr_11 := Lib.hid (Hr_10.out.later b11)
  have Ht_11 := Lib.hid (Ht_10.out.later b11)
  have Hu_11 := Lib.hid (Hu_10.out.later b11)
  have He_11 := Lib.hid h11
  clear h11 b11 Hr_10 Ht_10 Hu_10 Hm3_10 hB10
  go_wp2_with fail
  refine (natSaid.cmp _ _ _ _ _ _ _ _ _ Ht_11.out (Hc.out.later hB11) (by omega) (by omega)).mono ?_
  rintro e w12 ⟨rfl, b12⟩
  have hB12 := below_then hB11 b12
  have Hr_12 := Lib.hid (Hr_11.out.later b12)
  have Hu_12 := Lib.hid (Hu_11.out.later b12)
  have He_12 := Lib.hid (He_11.out.later b12)
  rw [val_dg, cmpI_eq rfl]
  clear b12 Hr_11 Ht_11 Hu_11 He_11 hB11
  go_wp2_with fail
  refine (natSaid.cmp _ _ _ _ _ _ _ _ _ Hu_12.out Hr_12.out (by omega) (by omega)).mono ?_
  rintro e w13 ⟨rfl, b13⟩
  have hB13 := below_then hB12 b13
  have He_13 := Lib.hid (He_12.out.later b13)
  rw [val_dg, cmpI_eq rfl]
  clear b13 Hr_12 Hu_12 He_12 hB12
  go_wp2_with fail
  refine (natSaid.cmp _ _ _ _ _ _ _ _ _ He_13.out (Hc.out.later hB13) (by omega) (by omega)).mono ?_
  rintro e w14 ⟨rfl, b14⟩
  have hB14 := below_then hB13 b14
  rw [val_dg, cmpI_eq rfl]
  clear b14 He_13 hB13
  go_wp2_with fail
  refine (law05_works _).mono ?_
  rintro e w15 ⟨rfl, b15⟩
  have hB15 := below_then hB14 b15
  clear b15 hB14
  go_wp2
  go_ret
  exact ⟨rfl, hB15⟩
theorem law05_back (a : Option Addr) (n cap : Nat) (la : List Nat) (b : Option Addr) (m cap' : Nat) (lb : List Nat) (c : Option Addr) (q cap2 : Nat) (lc : List Nat) (w : World) (ha : Wd w a n cap la) (hb : Wd w b m cap' lb) (hc : Wd w c q cap2 lc) :
    Calls Try.prog 5 #[.slice a n cap, .slice b m cap', .slice c q cap2] w (Gives (.bool true) w) := by
  have p1 := ha.bound
  have p2 := hb.bound
  have p3 := hc.bound
  by_cases h : 40 < n ∨ 40 < m ∨ 40 < q
  · exact law05_back_out a n cap b m cap' c q cap2 w (by omega) (by omega) (by omega) h
  · by_cases h0 : val lb = 0
    · exact law05_back_zero a n cap b m cap' lb c q cap2 w hb (by omega) (by omega) (by omega) (Lib.hid h0)
    · exact law05_back_in a n cap la b m cap' lb c q cap2 lc w ha hb hc (by omega) (by omega) (by omega) (Lib.hid h0)
end Go.Proofs.Ytcihklimngaapaa
