/-
  The walks of the laws of layer 6: CommonAll, CommonDivides, CommonBoth.
-/
import Derived.Test.YtkpnhohaolfmgaaLaw06Walks
import Derived.Test.YtkpnhohaolfmgaaQuot4
import Derived.Test.YtkpnhohaolfmgaaRef02c
namespace Go.Proofs.Ytkpnhohaolfmgaa
open Go.RowKit

theorem gcds_length {ls : List (List Nat)} (ho : ∀ l ∈ ls, okw l) : (dg (gcds ls)).length ≤ words ls := by
  induction ls with
  | nil => simp [gcds, words, dg_zero]
  | cons l r ih =>
    have h1 := ih (fun x hx => ho x (by simp [hx]))
    have h2 := dg_length_val_le (ho l (by simp))
    simp only [gcds, words]
    rcases gcd_length_le (val l) (gcds r) with h | h <;> omega
set_option maxHeartbeats 1000000 in
theorem law06_all (S : CommonSaid) (a : Option Addr) (n cap : Nat) (ls : List (List Nat)) (w : World) (h : Wds w a n cap ls) :
    Calls Try.prog 4 #[.slice a n cap] w (Gives (.bool true) w) := by
  obtain ⟨p1, p2⟩ := h.bound
  have Hlen := Lib.hid h.len
  have Hok := Lib.hid h.oks
  have H := Lib.hid h
  clear h
  go_enter Try.func4, Try.ntmps4
  go_wp2_with fail
  refine (ref02_long _ _ _ _ 60 _ H.out (by omega)).mono ?_
  rintro e w' ⟨r, rfl, rfl, hr⟩
  cases r with
  | true =>
    clear hr
    go_wp2_with fail
    refine (law06_works S _).mono ?_
    rintro e wz ⟨rfl, bz⟩
    go_wp2
    go_ret
    exact ⟨rfl, bz⟩
  | false =>
    have Hr := Lib.hid (hr rfl)
    clear hr
    have hn : n ≤ 100 := by rw [← Hlen.out]; exact Hr.out.1
    have Hs : Hid (∀ k, (dg (gcds (ls.take k))).length ≤ 60) := Lib.hid (fun k => by
      have h1 := gcds_length (ls := ls.take k) (fun x hx => Hok.out x (List.mem_of_mem_take hx))
      have h2 := words_le_take ls k
      have h3 := Hr.out.2
      omega)
    go_wp2
    go_loopw [3, 4] (fun v i wr => ∃ (k : Nat) (a' : Option Addr) (n' c' : Nat), k ≤ n ∧ i = .int .i64 k ∧ v = .slice a' n' c' ∧ Hid (Wd wr a' n' c' (dg (gcds (ls.take k)))) ∧ Below w.heap.size w wr) (fun _ i _ => n - (intOf i).toNat)
    case atStart => exact ⟨0, _, _, _, by omega, rfl, rfl, Lib.hid (by rw [List.take_zero]; simp only [gcds]; rw [dg_zero]; exact Wd.empty _ _ _ (by omega)), below_alloc _ _⟩
    case round =>
      obtain ⟨k, a', n', c', hk, rfl, rfl, Hwd, hB⟩ := hrel
      have hn' : n' ≤ 60 := by rw [← Hwd.out.len]; exact Hs.out k
      by_cases hlt : k < n
      · obtain ⟨b, off, rfl, a2, n2, c2, hc, hw2⟩ := (H.out.later hB).at hlt
        have hn2 : n2 ≤ 60 := by
          rw [← hw2.len]
          exact Nat.le_trans (words_mem ls k (by rw [Hlen.out]; exact hlt)) Hr.out.2
        have H2 := Lib.hid hw2
        have hk1 : (k : Int) < (n : Int) := by omega
        have hprod := Lib.hid (gcds_take ls k (by rw [Hlen.out]; exact hlt))
        clear hw2
        go_wp2_with fail
        refine (ref06_gcd _ _ _ _ _ _ _ _ _ Hwd.out H2.out (by omega) (by omega)).mono ?_
        rintro e w3 ⟨a3, n3, c3, rfl, h3, b3⟩
        rw [val_dg, ← hprod.out] at h3
        have H3 := Lib.hid h3
        have hB3 := below_then hB b3
        clear h3 b3 hB
        go_wp2
        go_roundw
        case rel => exact ⟨k + 1, a3, n3, c3, by omega, by go_num, rfl, H3, hB3⟩
        case measure => simp [intOf]; omega
      · have htk : ls.take k = ls := List.take_of_length_le (by rw [Hlen.out]; omega)
        rw [htk] at Hwd
        clear htk
        go_wp2_with fail
        refine (S.all _ _ _ _ _ (H.out.later hB) (by omega) (by have := Hr.out.2; omega)).mono ?_
        rintro e w3 ⟨a3, n3, c3, rfl, h3, b3⟩
        have hB3 := below_then hB b3
        go_wp2_with fail
        refine (ref02_same_yes _ _ _ _ _ _ _ _ _ h3 (Hwd.out.later b3) rfl).mono ?_
        rintro e w4 ⟨rfl, b4⟩
        have hB4 := below_then hB3 b4
        clear h3 b3 b4 hB hB3 Hwd
        go_wp2_with fail
        refine (law06_works S _).mono ?_
        rintro e wz ⟨rfl, bz⟩
        go_wp2
        go_ret
        exact ⟨rfl, below_then hB4 bz⟩
theorem exact_even (a : Option Addr) (n cap : Nat) (la : List Nat) (b : Option Addr) (m cap' : Nat) (v : Nat) (w : World) (ha : Wd w a n cap la) (hb : Wd w b m cap' (dg v)) (hn : n ≤ 500000) (hm : m ≤ 500000) (h0 : Hid (v ≠ 0)) (hz : Hid (val la % v = 0)) :
    Calls Try.prog 21 #[.slice a n cap, .slice b m cap'] w (Lst2 (dg (val la / v)) (.bool true) w) := by
  have h := quot_exact a n cap la b m cap' (dg v) w ha hb hn hm (by rw [val_dg]; exact h0)
  rwa [val_dg, show exactL (val la) v = dg (val la / v) from if_pos hz.out, show exactB (val la) v = true from decide_eq_true hz.out] at h
theorem quot_exact_even (a : Option Addr) (n cap : Nat) (la : List Nat) (b : Option Addr) (m cap' : Nat) (lb : List Nat) (w : World) (ha : Wd w a n cap la) (hb : Wd w b m cap' lb) (hn : n ≤ 500000) (hm : m ≤ 500000) (h0 : Hid (val lb ≠ 0)) (hz : Hid (val la % val lb = 0)) :
    Calls Try.prog 21 #[.slice a n cap, .slice b m cap'] w (Lst2 (dg (val la / val lb)) (.bool true) w) := by
  have h := quot_exact a n cap la b m cap' lb w ha hb hn hm h0
  rwa [show exactL (val la) (val lb) = dg (val la / val lb) from if_pos hz.out, show exactB (val la) (val lb) = true from decide_eq_true hz.out] at h
theorem law06_divides_out (S : CommonSaid) (a : Option Addr) (n cap : Nat) (b : Option Addr) (m cap' : Nat) (c : Option Addr) (q cap2 : Nat) (w : World) (h1 : n ≤ 9223372036854775807) (h2 : m ≤ 9223372036854775807) (h3 : q ≤ 9223372036854775807) (h : 20 < n ∨ 20 < m ∨ 20 < q) :
    Calls Try.prog 5 #[.slice a n cap, .slice b m cap', .slice c q cap2] w (Gives (.bool true) w) := by
  by_cases hx : 20 < n
  · have hbi : (20 : Int) < (n : Int) := by omega
    clear h
    go_enter Try.func5, Try.ntmps5
    go_wp2_with fail
    refine (law06_works S _).mono ?_
    rintro e w1 ⟨rfl, b1⟩
    have hB1 := b1
    clear b1
    go_wp2
    go_ret
    exact ⟨rfl, hB1⟩
  · have hbi : (n : Int) ≤ 20 := by omega
    by_cases hy : 20 < m
    · have hci : (20 : Int) < (m : Int) := by omega
      clear h
      go_enter Try.func5, Try.ntmps5
      go_wp2_with fail
      refine (law06_works S _).mono ?_
      rintro e w1 ⟨rfl, b1⟩
      have hB1 := b1
      clear b1
      go_wp2
      go_ret
      exact ⟨rfl, hB1⟩
    · have hci : (m : Int) ≤ 20 := by omega
      have hdi : (20 : Int) < (q : Int) := by omega
      clear h
      go_enter Try.func5, Try.ntmps5
      go_wp2_with fail
      refine (law06_works S _).mono ?_
      rintro e w1 ⟨rfl, b1⟩
      have hB1 := b1
      clear b1
      go_wp2
      go_ret
      exact ⟨rfl, hB1⟩
theorem exact_gcd_left {a b : Nat} : a % Nat.gcd a b = 0 := Nat.mod_eq_zero_of_dvd (Nat.gcd_dvd_left a b)
theorem exact_gcd_right {a b : Nat} : b % Nat.gcd a b = 0 := Nat.mod_eq_zero_of_dvd (Nat.gcd_dvd_right a b)
set_option maxHeartbeats 2000000 in
theorem law06_divides_zero (S : CommonSaid) (a : Option Addr) (n cap : Nat) (la : List Nat) (b : Option Addr) (m cap' : Nat) (lb : List Nat) (c : Option Addr) (q cap2 : Nat) (lc : List Nat) (w : World) (ha : Wd w a n cap la) (hb : Wd w b m cap' lb) (hc : Wd w c q cap2 lc) (hn : n ≤ 20) (hm : m ≤ 20) (hq : q ≤ 20) (hza : Hid (val la = 0)) (hzb : Hid (val lb = 0)) :
    Calls Try.prog 5 #[.slice a n cap, .slice b m cap', .slice c q cap2] w (Gives (.bool true) w) := by
  have hgl : (dg (Nat.gcd (val la) (val lb))).length ≤ 20 := by
    have h1 := ha.trim_le
    have h2 := hb.trim_le
    rcases gcd_length_le (val la) (val lb) with h | h <;> omega
  have Hac : Hid ((dg (val la * val lc)).length ≤ 40) := Lib.hid (by have h1 := dg_mul_length (val la) (val lc); have h2 := ha.trim_le; have h3 := hc.trim_le; omega)
  have Hbc : Hid ((dg (val lb * val lc)).length ≤ 40) := Lib.hid (by have h1 := dg_mul_length (val lb) (val lc); have h2 := hb.trim_le; have h3 := hc.trim_le; omega)
  have Hxl : Hid ((dg (val la / Nat.gcd (val la) (val lb))).length ≤ 20) := Lib.hid (Nat.le_trans (dg_length_mono (Nat.div_le_self _ _)) (Nat.le_trans ha.trim_le hn))
  have Hyl : Hid ((dg (val lb / Nat.gcd (val la) (val lb))).length ≤ 20) := Lib.hid (Nat.le_trans (dg_length_mono (Nat.div_le_self _ _)) (Nat.le_trans hb.trim_le hm))
  have Ha := Lib.hid ha
  have Hb := Lib.hid hb
  have Hc := Lib.hid hc
  clear ha hb hc
  go_enter Try.func5, Try.ntmps5
  go_wp2_with fail
  refine (S.gcd _ _ _ _ _ _ _ _ _ Ha.out Hb.out (by omega) (by omega)).mono ?_
  rintro e w1 ⟨a1, n1, c1, rfl, h1, b1⟩
  have hng : n1 ≤ 20 := by rw [← h1.len]; exact hgl
  have hB1 := b1
  have Hg_1 := Lib.hid h1
  clear h1 b1
  go_wp2_with fail
  refine (prod_mul _ _ _ _ _ _ _ _ _ (Ha.out.later hB1) (Hc.out.later hB1) (by omega) (by omega)).mono ?_
  rintro e w2 ⟨a2, n2, c2, rfl, h2, b2⟩
  have hn2 : n2 ≤ 40 := by rw [← h2.len]; exact Hac.out
  have hB2 := below_then hB1 b2
  have Hg_2 := Lib.hid (Hg_1.out.later b2)
  have Hp_2 := Lib.hid h2
  clear h2 b2 Hg_1 hB1
  go_wp2_with fail
  refine (prod_mul _ _ _ _ _ _ _ _ _ (Hb.out.later hB2) (Hc.out.later hB2) (by omega) (by omega)).mono ?_
  rintro e w3 ⟨a3, n3, c3, rfl, h3, b3⟩
  have hn3 : n3 ≤ 40 := by rw [← h3.len]; exact Hbc.out
  have hB3 := below_then hB2 b3
  have Hg_3 := Lib.hid (Hg_2.out.later b3)
  have Hp_3 := Lib.hid (Hp_2.out.later b3)
  have Hr_3 := Lib.hid h3
  clear h3 b3 Hg_2 Hp_2 hB2
  go_wp2_with fail
  refine (S.gcd _ _ _ _ _ _ _ _ _ Hp_3.out Hr_3.out (by omega) (by omega)).mono ?_
  rintro e w4 ⟨a4, n4, c4, rfl, h4, b4⟩
  rw [val_dg, val_dg, Nat.gcd_mul_right] at h4
  have hB4 := below_then hB3 b4
  have Hg_4 := Lib.hid (Hg_3.out.later b4)
  have Hs_4 := Lib.hid h4
  clear h4 b4 Hg_3 Hp_3 Hr_3 hB3
  go_wp2_with fail
  refine (prod_mul _ _ _ _ _ _ _ _ _ Hg_4.out (Hc.out.later hB4) (by omega) (by omega)).mono ?_
  rintro e w5 ⟨a5, n5, c5, rfl, h5, b5⟩
  rw [val_dg] at h5
  have hB5 := below_then hB4 b5
  have Hg_5 := Lib.hid (Hg_4.out.later b5)
  have Hs_5 := Lib.hid (Hs_4.out.later b5)
  have Ht_5 := Lib.hid h5
  clear h5 b5 Hg_4 Hs_4 hB4
  go_wp2_with fail
  refine (ref02_same_yes _ _ _ _ _ _ _ _ _ Hs_5.out Ht_5.out rfl).mono ?_
  rintro e w6 ⟨rfl, b6⟩
  have hB6 := below_then hB5 b6
  have Hg_6 := Lib.hid (Hg_5.out.later b6)
  clear b6 Hg_5 Hs_5 Ht_5 hB5
  go_wp2_with fail
  refine (S.gcd _ _ _ _ _ _ _ _ _ (Hb.out.later hB6) (Ha.out.later hB6) (by omega) (by omega)).mono ?_
  rintro e w7 ⟨a7, n7, c7, rfl, h7, b7⟩
  rw [Nat.gcd_comm] at h7
  have hB7 := below_then hB6 b7
  have Hg_7 := Lib.hid (Hg_6.out.later b7)
  have Hu_7 := Lib.hid h7
  clear h7 b7 Hg_6 hB6
  go_wp2_with fail
  refine (ref02_same_yes _ _ _ _ _ _ _ _ _ Hu_7.out Hg_7.out rfl).mono ?_
  rintro e w8 ⟨rfl, b8⟩
  have hB8 := below_then hB7 b8
  have Hg_8 := Lib.hid (Hg_7.out.later b8)
  clear b8 Hg_7 Hu_7 hB7
  go_wp2_with fail
  refine (natSaid.zero _ _ _ _ _ (Ha.out.later hB8) (by omega)).mono ?_
  rintro e w9 ⟨rfl, b9⟩
  have hB9 := below_then hB8 b9
  have Hg_9 := Lib.hid (Hg_8.out.later b9)
  rw [decide_eq_true hza.out]
  clear b9 Hg_8 hB8
  go_wp2_with fail
  refine (natSaid.zero _ _ _ _ _ (Hb.out.later hB9) (by omega)).mono ?_
  rintro e w10 ⟨rfl, b10⟩
  have hB10 := below_then hB9 b10
  have Hg_10 := Lib.hid (Hg_9.out.later b10)
  rw [decide_eq_true hzb.out]
  clear b10 Hg_9 hB9
  go_wp2_with fail
  refine (natSaid.zero _ _ _ _ _ Hg_10.out (by omega)).mono ?_
  rintro e w11 ⟨rfl, b11⟩
  have hB11 := below_then hB10 b11
  rw [val_dg, decide_eq_true (by rw [hza.out, hzb.out, Nat.gcd_zero_left])]
  clear b11 Hg_10 hB10
  go_wp2_with fail
  refine (law06_works S _).mono ?_
  rintro e w12 ⟨rfl, b12⟩
  have hB12 := below_then hB11 b12
  clear b12 hB11
  go_wp2
  go_ret
  exact ⟨rfl, hB12⟩
set_option maxHeartbeats 2000000 in
theorem law06_divides_half (S : CommonSaid) (a : Option Addr) (n cap : Nat) (la : List Nat) (b : Option Addr) (m cap' : Nat) (lb : List Nat) (c : Option Addr) (q cap2 : Nat) (lc : List Nat) (w : World) (ha : Wd w a n cap la) (hb : Wd w b m cap' lb) (hc : Wd w c q cap2 lc) (hn : n ≤ 20) (hm : m ≤ 20) (hq : q ≤ 20) (hza : Hid (val la = 0)) (hzb : Hid (val lb ≠ 0)) :
    Calls Try.prog 5 #[.slice a n cap, .slice b m cap', .slice c q cap2] w (Gives (.bool true) w) := by
  have hgl : (dg (Nat.gcd (val la) (val lb))).length ≤ 20 := by
    have h1 := ha.trim_le
    have h2 := hb.trim_le
    rcases gcd_length_le (val la) (val lb) with h | h <;> omega
  have Hac : Hid ((dg (val la * val lc)).length ≤ 40) := Lib.hid (by have h1 := dg_mul_length (val la) (val lc); have h2 := ha.trim_le; have h3 := hc.trim_le; omega)
  have Hbc : Hid ((dg (val lb * val lc)).length ≤ 40) := Lib.hid (by have h1 := dg_mul_length (val lb) (val lc); have h2 := hb.trim_le; have h3 := hc.trim_le; omega)
  have Hxl : Hid ((dg (val la / Nat.gcd (val la) (val lb))).length ≤ 20) := Lib.hid (Nat.le_trans (dg_length_mono (Nat.div_le_self _ _)) (Nat.le_trans ha.trim_le hn))
  have Hyl : Hid ((dg (val lb / Nat.gcd (val la) (val lb))).length ≤ 20) := Lib.hid (Nat.le_trans (dg_length_mono (Nat.div_le_self _ _)) (Nat.le_trans hb.trim_le hm))
  have Ha := Lib.hid ha
  have Hb := Lib.hid hb
  have Hc := Lib.hid hc
  clear ha hb hc
  have Hg0 : Hid (0 < Nat.gcd (val la) (val lb)) := Lib.hid (Nat.gcd_pos_of_pos_right _ (Nat.pos_of_ne_zero hzb.out))
  go_enter Try.func5, Try.ntmps5
  go_wp2_with fail
  refine (S.gcd _ _ _ _ _ _ _ _ _ Ha.out Hb.out (by omega) (by omega)).mono ?_
  rintro e w1 ⟨a1, n1, c1, rfl, h1, b1⟩
  have hng : n1 ≤ 20 := by rw [← h1.len]; exact hgl
  have hB1 := b1
  have Hg_1 := Lib.hid h1
  clear h1 b1
  go_wp2_with fail
  refine (prod_mul _ _ _ _ _ _ _ _ _ (Ha.out.later hB1) (Hc.out.later hB1) (by omega) (by omega)).mono ?_
  rintro e w2 ⟨a2, n2, c2, rfl, h2, b2⟩
  have hn2 : n2 ≤ 40 := by rw [← h2.len]; exact Hac.out
  have hB2 := below_then hB1 b2
  have Hg_2 := Lib.hid (Hg_1.out.later b2)
  have Hp_2 := Lib.hid h2
  clear h2 b2 Hg_1 hB1
  go_wp2_with fail
  refine (prod_mul _ _ _ _ _ _ _ _ _ (Hb.out.later hB2) (Hc.out.later hB2) (by omega) (by omega)).mono ?_
  rintro e w3 ⟨a3, n3, c3, rfl, h3, b3⟩
  have hn3 : n3 ≤ 40 := by rw [← h3.len]; exact Hbc.out
  have hB3 := below_then hB2 b3
  have Hg_3 := Lib.hid (Hg_2.out.later b3)
  have Hp_3 := Lib.hid (Hp_2.out.later b3)
  have Hr_3 := Lib.hid h3
  clear h3 b3 Hg_2 Hp_2 hB2
  go_wp2_with fail
  refine (S.gcd _ _ _ _ _ _ _ _ _ Hp_3.out Hr_3.out (by omega) (by omega)).mono ?_
  rintro e w4 ⟨a4, n4, c4, rfl, h4, b4⟩
  rw [val_dg, val_dg, Nat.gcd_mul_right] at h4
  have hB4 := below_then hB3 b4
  have Hg_4 := Lib.hid (Hg_3.out.later b4)
  have Hs_4 := Lib.hid h4
  clear h4 b4 Hg_3 Hp_3 Hr_3 hB3
  go_wp2_with fail
  refine (prod_mul _ _ _ _ _ _ _ _ _ Hg_4.out (Hc.out.later hB4) (by omega) (by omega)).mono ?_
  rintro e w5 ⟨a5, n5, c5, rfl, h5, b5⟩
  rw [val_dg] at h5
  have hB5 := below_then hB4 b5
  have Hg_5 := Lib.hid (Hg_4.out.later b5)
  have Hs_5 := Lib.hid (Hs_4.out.later b5)
  have Ht_5 := Lib.hid h5
  clear h5 b5 Hg_4 Hs_4 hB4
  go_wp2_with fail
  refine (ref02_same_yes _ _ _ _ _ _ _ _ _ Hs_5.out Ht_5.out rfl).mono ?_
  rintro e w6 ⟨rfl, b6⟩
  have hB6 := below_then hB5 b6
  have Hg_6 := Lib.hid (Hg_5.out.later b6)
  clear b6 Hg_5 Hs_5 Ht_5 hB5
  go_wp2_with fail
  refine (S.gcd _ _ _ _ _ _ _ _ _ (Hb.out.later hB6) (Ha.out.later hB6) (by omega) (by omega)).mono ?_
  rintro e w7 ⟨a7, n7, c7, rfl, h7, b7⟩
  rw [Nat.gcd_comm] at h7
  have hB7 := below_then hB6 b7
  have Hg_7 := Lib.hid (Hg_6.out.later b7)
  have Hu_7 := Lib.hid h7
  clear h7 b7 Hg_6 hB6
  go_wp2_with fail
  refine (ref02_same_yes _ _ _ _ _ _ _ _ _ Hu_7.out Hg_7.out rfl).mono ?_
  rintro e w8 ⟨rfl, b8⟩
  have hB8 := below_then hB7 b8
  have Hg_8 := Lib.hid (Hg_7.out.later b8)
  clear b8 Hg_7 Hu_7 hB7
  go_wp2_with fail
  refine (natSaid.zero _ _ _ _ _ (Ha.out.later hB8) (by omega)).mono ?_
  rintro e w9 ⟨rfl, b9⟩
  have hB9 := below_then hB8 b9
  have Hg_9 := Lib.hid (Hg_8.out.later b9)
  rw [decide_eq_true hza.out]
  clear b9 Hg_8 hB8
  go_wp2_with fail
  refine (natSaid.zero _ _ _ _ _ (Hb.out.later hB9) (by omega)).mono ?_
  rintro e w10 ⟨rfl, b10⟩
  have hB10 := below_then hB9 b10
  have Hg_10 := Lib.hid (Hg_9.out.later b10)
  rw [decide_eq_false hzb.out]
  clear b10 Hg_9 hB9
  go_wp2_with fail
  refine (exact_even _ _ _ _ _ _ _ _ _ (Ha.out.later hB10) Hg_10.out (by omega) (by omega) (Lib.hid (Nat.ne_of_gt Hg0.out)) (Lib.hid exact_gcd_left)).mono ?_
  rintro e w11 ⟨a11, n11, c11, rfl, h11, b11⟩
  have hn11 : n11 ≤ 20 := by rw [← h11.len]; exact Hxl.out
  have hB11 := below_then hB10 b11
  have Hg_11 := Lib.hid (Hg_10.out.later b11)
  have Hx_11 := Lib.hid h11
  clear h11 b11 Hg_10 hB10
  go_wp2_with fail
  refine (exact_even _ _ _ _ _ _ _ _ _ (Hb.out.later hB11) Hg_11.out (by omega) (by omega) (Lib.hid (Nat.ne_of_gt Hg0.out)) (Lib.hid exact_gcd_right)).mono ?_
  rintro e w12 ⟨a12, n12, c12, rfl, h12, b12⟩
  have hn12 : n12 ≤ 20 := by rw [← h12.len]; exact Hyl.out
  have hB12 := below_then hB11 b12
  have Hx_12 := Lib.hid (Hx_11.out.later b12)
  have Hy_12 := Lib.hid h12
  clear h12 b12 Hg_11 Hx_11 hB11
  go_wp2_with fail
  refine (S.prime _ _ _ _ _ _ _ _ _ Hx_12.out Hy_12.out (by omega) (by omega)).mono ?_
  rintro e w13 ⟨rfl, b13⟩
  have hB13 := below_then hB12 b13
  rw [val_dg, val_dg, decide_eq_true (show Nat.gcd (val la / Nat.gcd (val la) (val lb)) (val lb / Nat.gcd (val la) (val lb)) = 1 from Nat.coprime_div_gcd_div_gcd Hg0.out)]
  clear b13 Hx_12 Hy_12 hB12
  go_wp2_with fail
  refine (law06_works S _).mono ?_
  rintro e w14 ⟨rfl, b14⟩
  have hB14 := below_then hB13 b14
  clear b14 hB13
  go_wp2
  go_ret
  exact ⟨rfl, hB14⟩
set_option maxHeartbeats 2000000 in
theorem law06_divides_pos (S : CommonSaid) (a : Option Addr) (n cap : Nat) (la : List Nat) (b : Option Addr) (m cap' : Nat) (lb : List Nat) (c : Option Addr) (q cap2 : Nat) (lc : List Nat) (w : World) (ha : Wd w a n cap la) (hb : Wd w b m cap' lb) (hc : Wd w c q cap2 lc) (hn : n ≤ 20) (hm : m ≤ 20) (hq : q ≤ 20) (hza : Hid (val la ≠ 0)) :
    Calls Try.prog 5 #[.slice a n cap, .slice b m cap', .slice c q cap2] w (Gives (.bool true) w) := by
  have hgl : (dg (Nat.gcd (val la) (val lb))).length ≤ 20 := by
    have h1 := ha.trim_le
    have h2 := hb.trim_le
    rcases gcd_length_le (val la) (val lb) with h | h <;> omega
  have Hac : Hid ((dg (val la * val lc)).length ≤ 40) := Lib.hid (by have h1 := dg_mul_length (val la) (val lc); have h2 := ha.trim_le; have h3 := hc.trim_le; omega)
  have Hbc : Hid ((dg (val lb * val lc)).length ≤ 40) := Lib.hid (by have h1 := dg_mul_length (val lb) (val lc); have h2 := hb.trim_le; have h3 := hc.trim_le; omega)
  have Hxl : Hid ((dg (val la / Nat.gcd (val la) (val lb))).length ≤ 20) := Lib.hid (Nat.le_trans (dg_length_mono (Nat.div_le_self _ _)) (Nat.le_trans ha.trim_le hn))
  have Hyl : Hid ((dg (val lb / Nat.gcd (val la) (val lb))).length ≤ 20) := Lib.hid (Nat.le_trans (dg_length_mono (Nat.div_le_self _ _)) (Nat.le_trans hb.trim_le hm))
  have Ha := Lib.hid ha
  have Hb := Lib.hid hb
  have Hc := Lib.hid hc
  clear ha hb hc
  have Hg0 : Hid (0 < Nat.gcd (val la) (val lb)) := Lib.hid (Nat.gcd_pos_of_pos_left _ (Nat.pos_of_ne_zero hza.out))
  go_enter Try.func5, Try.ntmps5
  go_wp2_with fail
  refine (S.gcd _ _ _ _ _ _ _ _ _ Ha.out Hb.out (by omega) (by omega)).mono ?_
  rintro e w1 ⟨a1, n1, c1, rfl, h1, b1⟩
  have hng : n1 ≤ 20 := by rw [← h1.len]; exact hgl
  have hB1 := b1
  have Hg_1 := Lib.hid h1
  clear h1 b1
  go_wp2_with fail
  refine (prod_mul _ _ _ _ _ _ _ _ _ (Ha.out.later hB1) (Hc.out.later hB1) (by omega) (by omega)).mono ?_
  rintro e w2 ⟨a2, n2, c2, rfl, h2, b2⟩
  have hn2 : n2 ≤ 40 := by rw [← h2.len]; exact Hac.out
  have hB2 := below_then hB1 b2
  have Hg_2 := Lib.hid (Hg_1.out.later b2)
  have Hp_2 := Lib.hid h2
  clear h2 b2 Hg_1 hB1
  go_wp2_with fail
  refine (prod_mul _ _ _ _ _ _ _ _ _ (Hb.out.later hB2) (Hc.out.later hB2) (by omega) (by omega)).mono ?_
  rintro e w3 ⟨a3, n3, c3, rfl, h3, b3⟩
  have hn3 : n3 ≤ 40 := by rw [← h3.len]; exact Hbc.out
  have hB3 := below_then hB2 b3
  have Hg_3 := Lib.hid (Hg_2.out.later b3)
  have Hp_3 := Lib.hid (Hp_2.out.later b3)
  have Hr_3 := Lib.hid h3
  clear h3 b3 Hg_2 Hp_2 hB2
  go_wp2_with fail
  refine (S.gcd _ _ _ _ _ _ _ _ _ Hp_3.out Hr_3.out (by omega) (by omega)).mono ?_
  rintro e w4 ⟨a4, n4, c4, rfl, h4, b4⟩
  rw [val_dg, val_dg, Nat.gcd_mul_right] at h4
  have hB4 := below_then hB3 b4
  have Hg_4 := Lib.hid (Hg_3.out.later b4)
  have Hs_4 := Lib.hid h4
  clear h4 b4 Hg_3 Hp_3 Hr_3 hB3
  go_wp2_with fail
  refine (prod_mul _ _ _ _ _ _ _ _ _ Hg_4.out (Hc.out.later hB4) (by omega) (by omega)).mono ?_
  rintro e w5 ⟨a5, n5, c5, rfl, h5, b5⟩
  rw [val_dg] at h5
  have hB5 := below_then hB4 b5
  have Hg_5 := Lib.hid (Hg_4.out.later b5)
  have Hs_5 := Lib.hid (Hs_4.out.later b5)
  have Ht_5 := Lib.hid h5
  clear h5 b5 Hg_4 Hs_4 hB4
  go_wp2_with fail
  refine (ref02_same_yes _ _ _ _ _ _ _ _ _ Hs_5.out Ht_5.out rfl).mono ?_
  rintro e w6 ⟨rfl, b6⟩
  have hB6 := below_then hB5 b6
  have Hg_6 := Lib.hid (Hg_5.out.later b6)
  clear b6 Hg_5 Hs_5 Ht_5 hB5
  go_wp2_with fail
  refine (S.gcd _ _ _ _ _ _ _ _ _ (Hb.out.later hB6) (Ha.out.later hB6) (by omega) (by omega)).mono ?_
  rintro e w7 ⟨a7, n7, c7, rfl, h7, b7⟩
  rw [Nat.gcd_comm] at h7
  have hB7 := below_then hB6 b7
  have Hg_7 := Lib.hid (Hg_6.out.later b7)
  have Hu_7 := Lib.hid h7
  clear h7 b7 Hg_6 hB6
  go_wp2_with fail
  refine (ref02_same_yes _ _ _ _ _ _ _ _ _ Hu_7.out Hg_7.out rfl).mono ?_
  rintro e w8 ⟨rfl, b8⟩
  have hB8 := below_then hB7 b8
  have Hg_8 := Lib.hid (Hg_7.out.later b8)
  clear b8 Hg_7 Hu_7 hB7
  go_wp2_with fail
  refine (natSaid.zero _ _ _ _ _ (Ha.out.later hB8) (by omega)).mono ?_
  rintro e w9 ⟨rfl, b9⟩
  have hB9 := below_then hB8 b9
  have Hg_9 := Lib.hid (Hg_8.out.later b9)
  rw [decide_eq_false hza.out]
  clear b9 Hg_8 hB8
  go_wp2_with fail
  refine (exact_even _ _ _ _ _ _ _ _ _ (Ha.out.later hB9) Hg_9.out (by omega) (by omega) (Lib.hid (Nat.ne_of_gt Hg0.out)) (Lib.hid exact_gcd_left)).mono ?_
  rintro e w10 ⟨a10, n10, c10, rfl, h10, b10⟩
  have hn10 : n10 ≤ 20 := by rw [← h10.len]; exact Hxl.out
  have hB10 := below_then hB9 b10
  have Hg_10 := Lib.hid (Hg_9.out.later b10)
  have Hx_10 := Lib.hid h10
  clear h10 b10 Hg_9 hB9
  go_wp2_with fail
  refine (exact_even _ _ _ _ _ _ _ _ _ (Hb.out.later hB10) Hg_10.out (by omega) (by omega) (Lib.hid (Nat.ne_of_gt Hg0.out)) (Lib.hid exact_gcd_right)).mono ?_
  rintro e w11 ⟨a11, n11, c11, rfl, h11, b11⟩
  have hn11 : n11 ≤ 20 := by rw [← h11.len]; exact Hyl.out
  have hB11 := below_then hB10 b11
  have Hx_11 := Lib.hid (Hx_10.out.later b11)
  have Hy_11 := Lib.hid h11
  clear h11 b11 Hg_10 Hx_10 hB10
  go_wp2_with fail
  refine (S.prime _ _ _ _ _ _ _ _ _ Hx_11.out Hy_11.out (by omega) (by omega)).mono ?_
  rintro e w12 ⟨rfl, b12⟩
  have hB12 := below_then hB11 b12
  rw [val_dg, val_dg, decide_eq_true (show Nat.gcd (val la / Nat.gcd (val la) (val lb)) (val lb / Nat.gcd (val la) (val lb)) = 1 from Nat.coprime_div_gcd_div_gcd Hg0.out)]
  clear b12 Hx_11 Hy_11 hB11
  go_wp2_with fail
  refine (law06_works S _).mono ?_
  rintro e w13 ⟨rfl, b13⟩
  have hB13 := below_then hB12 b13
  clear b13 hB12
  go_wp2
  go_ret
  exact ⟨rfl, hB13⟩
theorem law06_divides (S : CommonSaid) (a : Option Addr) (n cap : Nat) (la : List Nat) (b : Option Addr) (m cap' : Nat) (lb : List Nat) (c : Option Addr) (q cap2 : Nat) (lc : List Nat) (w : World) (ha : Wd w a n cap la) (hb : Wd w b m cap' lb) (hc : Wd w c q cap2 lc) :
    Calls Try.prog 5 #[.slice a n cap, .slice b m cap', .slice c q cap2] w (Gives (.bool true) w) := by
  have p1 := ha.bound
  have p2 := hb.bound
  have p3 := hc.bound
  by_cases h : 20 < n ∨ 20 < m ∨ 20 < q
  · exact law06_divides_out S a n cap b m cap' c q cap2 w (by omega) (by omega) (by omega) h
  · by_cases hza : val la = 0
    · by_cases hzb : val lb = 0
      · exact law06_divides_zero S a n cap la b m cap' lb c q cap2 lc w ha hb hc (by omega) (by omega) (by omega) (Lib.hid hza) (Lib.hid hzb)
      · exact law06_divides_half S a n cap la b m cap' lb c q cap2 lc w ha hb hc (by omega) (by omega) (by omega) (Lib.hid hza) (Lib.hid hzb)
    · exact law06_divides_pos S a n cap la b m cap' lb c q cap2 lc w ha hb hc (by omega) (by omega) (by omega) (Lib.hid hza)
theorem law06_both_out (S : CommonSaid) (a : Option Addr) (n cap : Nat) (b : Option Addr) (m cap' : Nat) (w : World) (h1 : n ≤ 9223372036854775807) (h2 : m ≤ 9223372036854775807) (h : 20 < n ∨ 20 < m) :
    Calls Try.prog 6 #[.slice a n cap, .slice b m cap'] w (Gives (.bool true) w) := by
  by_cases hx : 20 < n
  · have hbi : (20 : Int) < (n : Int) := by omega
    clear h
    go_enter Try.func6, Try.ntmps6
    go_wp2_with fail
    refine (law06_works S _).mono ?_
    rintro e w1 ⟨rfl, b1⟩
    have hB1 := b1
    clear b1
    go_wp2
    go_ret
    exact ⟨rfl, hB1⟩
  · have hbi : (n : Int) ≤ 20 := by omega
    have hci : (20 : Int) < (m : Int) := by omega
    clear h
    go_enter Try.func6, Try.ntmps6
    go_wp2_with fail
    refine (law06_works S _).mono ?_
    rintro e w1 ⟨rfl, b1⟩
    have hB1 := b1
    clear b1
    go_wp2
    go_ret
    exact ⟨rfl, hB1⟩
set_option maxHeartbeats 2000000 in
theorem law06_both_left (S : CommonSaid) (a : Option Addr) (n cap : Nat) (la : List Nat) (b : Option Addr) (m cap' : Nat) (lb : List Nat) (w : World) (ha : Wd w a n cap la) (hb : Wd w b m cap' lb) (hn : n ≤ 20) (hm : m ≤ 20) (hza : Hid (val la = 0)) :
    Calls Try.prog 6 #[.slice a n cap, .slice b m cap'] w (Gives (.bool true) w) := by
  have Hll : Hid ((dg (Nat.lcm (val la) (val lb))).length ≤ 40) := Lib.hid (by
    have h1 := dg_mul_length (val la) (val lb)
    have h2 := ha.trim_le
    have h3 := hb.trim_le
    have h4 := dg_length_mono (show Nat.lcm (val la) (val lb) ≤ val la * val lb from Nat.div_le_self _ _)
    omega)
  have Ha := Lib.hid ha
  have Hb := Lib.hid hb
  clear ha hb
  go_enter Try.func6, Try.ntmps6
  go_wp2_with fail
  refine (S.lcm _ _ _ _ _ _ _ _ _ Ha.out Hb.out (by omega) (by omega)).mono ?_
  rintro e w1 ⟨a1, n1, c1, rfl, h1, b1⟩
  have hnl : n1 ≤ 40 := by rw [← h1.len]; exact Hll.out
  have hB1 := b1
  have Hm_1 := Lib.hid h1
  clear h1 b1
  go_wp2_with fail
  refine (natSaid.zero _ _ _ _ _ (Ha.out.later hB1) (by omega)).mono ?_
  rintro e w2 ⟨rfl, b2⟩
  have hB2 := below_then hB1 b2
  have Hm_2 := Lib.hid (Hm_1.out.later b2)
  rw [decide_eq_true hza.out]
  clear b2 Hm_1 hB1
  go_wp2_with fail
  refine (natSaid.zero _ _ _ _ _ Hm_2.out (by omega)).mono ?_
  rintro e w3 ⟨rfl, b3⟩
  have hB3 := below_then hB2 b3
  rw [val_dg, decide_eq_true (by rw [hza.out, Nat.lcm_zero_left])]
  clear b3 Hm_2 hB2
  go_wp2_with fail
  refine (law06_works S _).mono ?_
  rintro e w4 ⟨rfl, b4⟩
  have hB4 := below_then hB3 b4
  clear b4 hB3
  go_wp2
  go_ret
  exact ⟨rfl, hB4⟩
set_option maxHeartbeats 2000000 in
theorem law06_both_right (S : CommonSaid) (a : Option Addr) (n cap : Nat) (la : List Nat) (b : Option Addr) (m cap' : Nat) (lb : List Nat) (w : World) (ha : Wd w a n cap la) (hb : Wd w b m cap' lb) (hn : n ≤ 20) (hm : m ≤ 20) (hza : Hid (val la ≠ 0)) (hzb : Hid (val lb = 0)) :
    Calls Try.prog 6 #[.slice a n cap, .slice b m cap'] w (Gives (.bool true) w) := by
  have Hll : Hid ((dg (Nat.lcm (val la) (val lb))).length ≤ 40) := Lib.hid (by
    have h1 := dg_mul_length (val la) (val lb)
    have h2 := ha.trim_le
    have h3 := hb.trim_le
    have h4 := dg_length_mono (show Nat.lcm (val la) (val lb) ≤ val la * val lb from Nat.div_le_self _ _)
    omega)
  have Ha := Lib.hid ha
  have Hb := Lib.hid hb
  clear ha hb
  go_enter Try.func6, Try.ntmps6
  go_wp2_with fail
  refine (S.lcm _ _ _ _ _ _ _ _ _ Ha.out Hb.out (by omega) (by omega)).mono ?_
  rintro e w1 ⟨a1, n1, c1, rfl, h1, b1⟩
  have hnl : n1 ≤ 40 := by rw [← h1.len]; exact Hll.out
  have hB1 := b1
  have Hm_1 := Lib.hid h1
  clear h1 b1
  go_wp2_with fail
  refine (natSaid.zero _ _ _ _ _ (Ha.out.later hB1) (by omega)).mono ?_
  rintro e w2 ⟨rfl, b2⟩
  have hB2 := below_then hB1 b2
  have Hm_2 := Lib.hid (Hm_1.out.later b2)
  rw [decide_eq_false hza.out]
  clear b2 Hm_1 hB1
  go_wp2_with fail
  refine (natSaid.zero _ _ _ _ _ (Hb.out.later hB2) (by omega)).mono ?_
  rintro e w3 ⟨rfl, b3⟩
  have hB3 := below_then hB2 b3
  have Hm_3 := Lib.hid (Hm_2.out.later b3)
  rw [decide_eq_true hzb.out]
  clear b3 Hm_2 hB2
  go_wp2_with fail
  refine (natSaid.zero _ _ _ _ _ Hm_3.out (by omega)).mono ?_
  rintro e w4 ⟨rfl, b4⟩
  have hB4 := below_then hB3 b4
  rw [val_dg, decide_eq_true (by rw [hzb.out, Nat.lcm_zero_right])]
  clear b4 Hm_3 hB3
  go_wp2_with fail
  refine (law06_works S _).mono ?_
  rintro e w5 ⟨rfl, b5⟩
  have hB5 := below_then hB4 b5
  clear b5 hB4
  go_wp2
  go_ret
  exact ⟨rfl, hB5⟩
set_option maxHeartbeats 2000000 in
theorem law06_both_pos (S : CommonSaid) (a : Option Addr) (n cap : Nat) (la : List Nat) (b : Option Addr) (m cap' : Nat) (lb : List Nat) (w : World) (ha : Wd w a n cap la) (hb : Wd w b m cap' lb) (hn : n ≤ 20) (hm : m ≤ 20) (hza : Hid (val la ≠ 0)) (hzb : Hid (val lb ≠ 0)) :
    Calls Try.prog 6 #[.slice a n cap, .slice b m cap'] w (Gives (.bool true) w) := by
  have Hll : Hid ((dg (Nat.lcm (val la) (val lb))).length ≤ 40) := Lib.hid (by
    have h1 := dg_mul_length (val la) (val lb)
    have h2 := ha.trim_le
    have h3 := hb.trim_le
    have h4 := dg_length_mono (show Nat.lcm (val la) (val lb) ≤ val la * val lb from Nat.div_le_self _ _)
    omega)
  have hgl : (dg (Nat.gcd (val la) (val lb))).length ≤ 20 := by
    have h1 := ha.trim_le
    have h2 := hb.trim_le
    rcases gcd_length_le (val la) (val lb) with h | h <;> omega
  have Ha := Lib.hid ha
  have Hb := Lib.hid hb
  clear ha hb
  go_enter Try.func6, Try.ntmps6
  go_wp2_with fail
  refine (S.lcm _ _ _ _ _ _ _ _ _ Ha.out Hb.out (by omega) (by omega)).mono ?_
  rintro e w1 ⟨a1, n1, c1, rfl, h1, b1⟩
  have hnl : n1 ≤ 40 := by rw [← h1.len]; exact Hll.out
  have hB1 := b1
  have Hm_1 := Lib.hid h1
  clear h1 b1
  go_wp2_with fail
  refine (natSaid.zero _ _ _ _ _ (Ha.out.later hB1) (by omega)).mono ?_
  rintro e w2 ⟨rfl, b2⟩
  have hB2 := below_then hB1 b2
  have Hm_2 := Lib.hid (Hm_1.out.later b2)
  rw [decide_eq_false hza.out]
  clear b2 Hm_1 hB1
  go_wp2_with fail
  refine (natSaid.zero _ _ _ _ _ (Hb.out.later hB2) (by omega)).mono ?_
  rintro e w3 ⟨rfl, b3⟩
  have hB3 := below_then hB2 b3
  have Hm_3 := Lib.hid (Hm_2.out.later b3)
  rw [decide_eq_false hzb.out]
  clear b3 Hm_2 hB2
  go_wp2_with fail
  refine (quot_exact_even _ _ _ _ _ _ _ _ _ Hm_3.out (Ha.out.later hB3) (by omega) (by omega) hza (Lib.hid (by rw [val_dg]; exact Nat.mod_eq_zero_of_dvd (Nat.dvd_lcm_left _ _)))).mono ?_
  rintro e w4 ⟨a4, n4, c4, rfl, h4, b4⟩
  have hB4 := below_then hB3 b4
  have Hm_4 := Lib.hid (Hm_3.out.later b4)
  clear h4 b4 Hm_3 hB3
  go_wp2_with fail
  refine (quot_exact_even _ _ _ _ _ _ _ _ _ Hm_4.out (Hb.out.later hB4) (by omega) (by omega) hzb (Lib.hid (by rw [val_dg]; exact Nat.mod_eq_zero_of_dvd (Nat.dvd_lcm_right _ _)))).mono ?_
  rintro e w5 ⟨a5, n5, c5, rfl, h5, b5⟩
  have hB5 := below_then hB4 b5
  have Hm_5 := Lib.hid (Hm_4.out.later b5)
  clear h5 b5 Hm_4 hB4
  go_wp2_with fail
  refine (S.gcd _ _ _ _ _ _ _ _ _ (Ha.out.later hB5) (Hb.out.later hB5) (by omega) (by omega)).mono ?_
  rintro e w6 ⟨a6, n6, c6, rfl, h6, b6⟩
  have hng : n6 ≤ 20 := by rw [← h6.len]; exact hgl
  have hB6 := below_then hB5 b6
  have Hm_6 := Lib.hid (Hm_5.out.later b6)
  have Hg_6 := Lib.hid h6
  clear h6 b6 Hm_5 hB5
  go_wp2_with fail
  refine (prod_mul _ _ _ _ _ _ _ _ _ Hg_6.out Hm_6.out (by omega) (by omega)).mono ?_
  rintro e w7 ⟨a7, n7, c7, rfl, h7, b7⟩
  rw [val_dg, val_dg, Nat.gcd_mul_lcm] at h7
  have hB7 := below_then hB6 b7
  have Hp_7 := Lib.hid h7
  clear h7 b7 Hm_6 Hg_6 hB6
  go_wp2_with fail
  refine (prod_mul _ _ _ _ _ _ _ _ _ (Ha.out.later hB7) (Hb.out.later hB7) (by omega) (by omega)).mono ?_
  rintro e w8 ⟨a8, n8, c8, rfl, h8, b8⟩
  have hB8 := below_then hB7 b8
  have Hp_8 := Lib.hid (Hp_7.out.later b8)
  have Hr_8 := Lib.hid h8
  clear h8 b8 Hp_7 hB7
  go_wp2_with fail
  refine (ref02_same_yes _ _ _ _ _ _ _ _ _ Hp_8.out Hr_8.out rfl).mono ?_
  rintro e w9 ⟨rfl, b9⟩
  have hB9 := below_then hB8 b9
  clear b9 Hp_8 Hr_8 hB8
  go_wp2_with fail
  refine (law06_works S _).mono ?_
  rintro e w10 ⟨rfl, b10⟩
  have hB10 := below_then hB9 b10
  clear b10 hB9
  go_wp2
  go_ret
  exact ⟨rfl, hB10⟩
theorem law06_both (S : CommonSaid) (a : Option Addr) (n cap : Nat) (la : List Nat) (b : Option Addr) (m cap' : Nat) (lb : List Nat) (w : World) (ha : Wd w a n cap la) (hb : Wd w b m cap' lb) :
    Calls Try.prog 6 #[.slice a n cap, .slice b m cap'] w (Gives (.bool true) w) := by
  have p1 := ha.bound
  have p2 := hb.bound
  by_cases h : 20 < n ∨ 20 < m
  · exact law06_both_out S a n cap b m cap' w (by omega) (by omega) h
  · by_cases hza : val la = 0
    · exact law06_both_left S a n cap la b m cap' lb w ha hb (by omega) (by omega) (Lib.hid hza)
    · by_cases hzb : val lb = 0
      · exact law06_both_right S a n cap la b m cap' lb w ha hb (by omega) (by omega) (Lib.hid hza) (Lib.hid hzb)
      · exact law06_both_pos S a n cap la b m cap' lb w ha hb (by omega) (by omega) (Lib.hid hza) (Lib.hid hzb)
end Go.Proofs.Ytkpnhohaolfmgaa
