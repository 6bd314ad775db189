/-
  The walks of the laws of layer 5: works, QuotDivides.
-/
import Derived.Test.YtcihklimngaapaaQuot4
import Derived.Test.YtcihklimngaapaaRef05b
namespace Go.Proofs.Ytcihklimngaapaa
open Go.RowKit

theorem ref05_div_two (a : Option Addr) (n cap : Nat) (la : List Nat) (b : Option Addr) (m cap' : Nat) (lb : List Nat) (w : World) (ha : Wd w a n cap la) (hb : Wd w b m cap' lb) (hn : n ≤ 500000) (hm : m ≤ 500000) (h0 : Hid (val lb ≠ 0)) :
    Calls Try.prog 10 #[.slice a n cap, .slice b m cap'] w (fun e w' => ∃ (a : Option Addr) (n cap : Nat) (b : Option Addr) (m cap' : Nat), e = .returned (.tuple #[.slice a n cap, .slice b m cap']) ∧ Wd w' a n cap (dg (val la / val lb)) ∧ Wd w' b m cap' (dg (val la % val lb)) ∧ Below w.heap.size w w') :=
  (ref05_div a n cap la b m cap' lb w ha hb hn hm h0).mono fun _ _ ⟨a1, n1, c1, a2, n2, c2, he, h1, h2, hB⟩ => ⟨a1, n1, c1, a2, n2, c2, he, h1, Wd.own h2.out (okw_dg _), hB⟩
theorem quot_exact_yes (a : Option Addr) (n cap : Nat) (la : List Nat) (b : Option Addr) (m cap' : Nat) (lb : List Nat) (w : World) (ha : Wd w a n cap la) (hb : Wd w b m cap' lb) (hn : n ≤ 500000) (hm : m ≤ 500000) (h0 : Hid (val lb ≠ 0)) (hz : Hid (val la % val lb = 0)) :
    Calls Try.prog 8 #[.slice a n cap, .slice b m cap'] w (Lst2 (dg (val la / val lb)) (.bool true) w) := by
  have h := quot_exact a n cap la b m cap' lb w ha hb hn hm h0
  rwa [show exactL (val la) (val lb) = dg (val la / val lb) from if_pos hz.out, show exactB (val la) (val lb) = true from decide_eq_true hz.out] at h
theorem quot_exact_no (a : Option Addr) (n cap : Nat) (la : List Nat) (b : Option Addr) (m cap' : Nat) (lb : List Nat) (w : World) (ha : Wd w a n cap la) (hb : Wd w b m cap' lb) (hn : n ≤ 500000) (hm : m ≤ 500000) (h0 : Hid (val lb ≠ 0)) (hz : Hid (val la % val lb ≠ 0)) :
    Calls Try.prog 8 #[.slice a n cap, .slice b m cap'] w (Lst2 [] (.bool false) w) := by
  have h := quot_exact a n cap la b m cap' lb w ha hb hn hm h0
  rwa [show exactL (val la) (val lb) = [] from if_neg hz.out, show exactB (val la) (val lb) = false from decide_eq_false hz.out] at h
theorem div_7_2 : dg (7 / 2) = [3] := by rw [show 7 / 2 = 3 from rfl, dg_word (by decide) (by decide)]
theorem mod_7_2 : dg (7 % 2) = [1] := by rw [show 7 % 2 = 1 from rfl, dg_word (by decide) (by decide)]
theorem div_6_3 : dg (6 / 3) = [2] := by rw [show 6 / 3 = 2 from rfl, dg_word (by decide) (by decide)]
set_option maxHeartbeats 1000000 in
theorem law05_works (w : World) : Calls Try.prog 6 #[] w (Gives (.bool true) w) := by
  have hl7 : (dg 7).length ≤ 1 := dg_length_le (by decide)
  have hl2 : (dg 2).length ≤ 1 := dg_length_le (by decide)
  have hl6 : (dg 6).length ≤ 1 := dg_length_le (by decide)
  have hl3 : (dg 3).length ≤ 1 := dg_length_le (by decide)
  go_enter Try.func6, Try.ntmps6
  go_wp2_with fail
  refine (natSaid.of 7 _ (by omega)).mono ?_
  rintro e w1 ⟨a1, n1, c1, rfl, h1, b1⟩
  have hn1 := h1.len
  have hB1 := b1
  have Hf7_1 := Lib.hid h1
  clear h1 b1
  go_wp2_with fail
  refine (natSaid.of 2 _ (by omega)).mono ?_
  rintro e w2 ⟨a2, n2, c2, rfl, h2, b2⟩
  have hn2 := h2.len
  have hB2 := below_then hB1 b2
  have Hf7_2 := Lib.hid (Hf7_1.out.later b2)
  have Hf2_2 := Lib.hid h2
  clear h2 b2 Hf7_1 hB1
  go_wp2_with fail
  refine (quot_div _ _ _ _ _ _ _ _ _ Hf7_2.out Hf2_2.out (by omega) (by omega) (Lib.hid (by rw [val_dg]; decide))).mono ?_
  rintro e w3 ⟨a3, n3, c3, a3x, n3x, c3x, rfl, h3, h3x, b3⟩
  rw [val_dg, val_dg, div_7_2] at h3
  rw [val_dg, val_dg, mod_7_2] at h3x
  have hB3 := below_then hB2 b3
  have Hq_3 := Lib.hid h3
  have Hr_3 := Lib.hid h3x
  clear h3 h3x b3 Hf7_2 Hf2_2 hB2
  go_wp2_with fail
  refine (natSaid.of 6 _ (by omega)).mono ?_
  rintro e w4 ⟨a4, n4, c4, rfl, h4, b4⟩
  have hn4 := h4.len
  have hB4 := below_then hB3 b4
  have Hq_4 := Lib.hid (Hq_3.out.later b4)
  have Hr_4 := Lib.hid (Hr_3.out.later b4)
  have Hf6_4 := Lib.hid h4
  clear h4 b4 Hq_3 Hr_3 hB3
  go_wp2_with fail
  refine (natSaid.of 3 _ (by omega)).mono ?_
  rintro e w5 ⟨a5, n5, c5, rfl, h5, b5⟩
  have hn5 := h5.len
  have hB5 := below_then hB4 b5
  have Hq_5 := Lib.hid (Hq_4.out.later b5)
  have Hr_5 := Lib.hid (Hr_4.out.later b5)
  have Hf6_5 := Lib.hid (Hf6_4.out.later b5)
  have Hf3_5 := Lib.hid h5
  clear h5 b5 Hq_4 Hr_4 Hf6_4 hB4
  go_wp2_with fail
  refine (quot_exact_yes _ _ _ _ _ _ _ _ _ Hf6_5.out Hf3_5.out (by omega) (by omega) (Lib.hid (by rw [val_dg]; decide)) (Lib.hid (by rw [val_dg, val_dg]))).mono ?_
  rintro e w6 ⟨a6, n6, c6, rfl, h6, b6⟩
  rw [val_dg, val_dg, div_6_3] at h6
  have hB6 := below_then hB5 b6
  have Hq_6 := Lib.hid (Hq_5.out.later b6)
  have Hr_6 := Lib.hid (Hr_5.out.later b6)
  have Hx_6 := Lib.hid h6
  clear h6 b6 Hq_5 Hr_5 Hf6_5 Hf3_5 hB5
  go_wp2_with fail
  refine (ref02_same_yes _ _ _ _ _ _ _ _ _ (Hq_6.out.later (below_alloc _ _)) (Wd.lit1 w6 32 (x := 3) (by omega)) rfl).mono ?_
  rintro e w7 ⟨rfl, b7⟩
  have hB7 := below_then hB6 (below_then (below_alloc _ _) b7)
  have Hr_7 := Lib.hid (Hr_6.out.later (below_then (below_alloc _ _) b7))
  have Hx_7 := Lib.hid (Hx_6.out.later (below_then (below_alloc _ _) b7))
  clear b7 Hq_6 Hr_6 Hx_6 hB6
  go_wp2_with fail
  refine (ref02_same_yes _ _ _ _ _ _ _ _ _ (Hr_7.out.later (below_alloc _ _)) (Wd.lit1 w7 32 (x := 1) (by omega)) rfl).mono ?_
  rintro e w8 ⟨rfl, b8⟩
  have hB8 := below_then hB7 (below_then (below_alloc _ _) b8)
  have Hx_8 := Lib.hid (Hx_7.out.later (below_then (below_alloc _ _) b8))
  clear b8 Hr_7 Hx_7 hB7
  go_wp2_with fail
  refine (ref02_same_yes _ _ _ _ _ _ _ _ _ (Hx_8.out.later (below_alloc _ _)) (Wd.lit1 w8 32 (x := 2) (by omega)) rfl).mono ?_
  rintro e w9 ⟨rfl, b9⟩
  have hB9 := below_then hB8 (below_then (below_alloc _ _) b9)
  clear b9 Hx_8 hB8
  go_wp2
  go_ret
  exact ⟨rfl, hB9⟩
theorem law05_divides_out (a : Option Addr) (n cap : Nat) (b : Option Addr) (m cap' : Nat) (w : World) (h1 : n ≤ 9223372036854775807) (h2 : m ≤ 9223372036854775807) (h : 40 < n ∨ 40 < m) :
    Calls Try.prog 3 #[.slice a n cap, .slice b m cap'] w (Gives (.bool true) w) := by
  by_cases hx : 40 < n
  · have hbi : (40 : Int) < (n : Int) := by omega
    clear h
    go_enter Try.func3, Try.ntmps3
    go_wp2_with fail
    refine (law05_works _).mono ?_
    rintro e w1 ⟨rfl, b1⟩
    have hB1 := b1
    clear b1
    go_wp2
    go_ret
    exact ⟨rfl, hB1⟩
  · have hbi : (n : Int) ≤ 40 := by omega
    have hci : (40 : Int) < (m : Int) := by omega
    clear h
    go_enter Try.func3, Try.ntmps3
    go_wp2_with fail
    refine (law05_works _).mono ?_
    rintro e w1 ⟨rfl, b1⟩
    have hB1 := b1
    clear b1
    go_wp2
    go_ret
    exact ⟨rfl, hB1⟩
set_option maxHeartbeats 1000000 in
theorem law05_divides_zero (a : Option Addr) (n cap : Nat) (la : List Nat) (b : Option Addr) (m cap' : Nat) (lb : List Nat) (w : World) (ha : Wd w a n cap la) (hb : Wd w b m cap' lb) (hn : n ≤ 40) (hm : m ≤ 40) (h0 : Hid (val lb = 0)) :
    Calls Try.prog 3 #[.slice a n cap, .slice b m cap'] w (Gives (.bool true) w) := by
  have Ha := Lib.hid ha
  have Hb := Lib.hid hb
  clear ha hb
  go_enter Try.func3, Try.ntmps3
  go_wp2_with fail
  refine (quot_div_none _ _ _ _ _ _ _ _ Hb.out (by omega) h0).mono ?_
  rintro e w1 ⟨a1, n1, c1, a1x, n1x, c1x, rfl, h1, h1x, b1⟩
  obtain rfl : n1 = 0 := h1.len.symm
  obtain rfl : n1x = 0 := h1x.len.symm
  have hB1 := b1
  clear h1 h1x b1
  go_wp2_with fail
  refine (quot_exact_none _ _ _ _ _ _ _ _ (Hb.out.later hB1) (by omega) h0).mono ?_
  rintro e w2 ⟨a2, n2, c2, rfl, h2, b2⟩
  obtain rfl : n2 = 0 := h2.len.symm
  have hB2 := below_then hB1 b2
  clear h2 b2 hB1
  go_wp2_with fail
  refine (ref02_norm _ _ _ _ _ (Hb.out.later hB2) (by omega)).mono ?_
  rintro e w3 ⟨a3, n3, c3, rfl, h3, b3⟩
  rw [h0.out, dg_zero] at h3
  obtain rfl : n3 = 0 := h3.len.symm
  have hB3 := below_then hB2 b3
  clear h3 b3 hB2
  go_wp2_with fail
  refine (law05_works _).mono ?_
  rintro e w4 ⟨rfl, b4⟩
  have hB4 := below_then hB3 b4
  clear b4 hB3
  go_wp2
  go_ret
  exact ⟨rfl, hB4⟩
set_option maxHeartbeats 2000000 in
theorem law05_divides_even (a : Option Addr) (n cap : Nat) (la : List Nat) (b : Option Addr) (m cap' : Nat) (lb : List Nat) (w : World) (ha : Wd w a n cap la) (hb : Wd w b m cap' lb) (hn : n ≤ 40) (hm : m ≤ 40) (h0 : Hid (val lb ≠ 0)) (hz : Hid (val la % val lb = 0)) :
    Calls Try.prog 3 #[.slice a n cap, .slice b m cap'] w (Gives (.bool true) w) := by
  have Ha := Lib.hid ha
  have Hb := Lib.hid hb
  clear ha hb
  go_enter Try.func3, Try.ntmps3
  go_wp2_with fail
  refine (quot_div _ _ _ _ _ _ _ _ _ Ha.out Hb.out (by omega) (by omega) h0).mono ?_
  rintro e w1 ⟨a1, n1, c1, a1x, n1x, c1x, rfl, h1, h1x, b1⟩
  have hB1 := b1
  have Hq_1 := Lib.hid h1
  have Hr_1 := Lib.hid h1x
  clear h1 h1x b1
  go_wp2_with fail
  refine (quot_exact_yes _ _ _ _ _ _ _ _ _ (Ha.out.later hB1) (Hb.out.later hB1) (by omega) (by omega) h0 hz).mono ?_
  rintro e w2 ⟨a2, n2, c2, rfl, h2, b2⟩
  have hB2 := below_then hB1 b2
  have Hq_2 := Lib.hid (Hq_1.out.later b2)
  have Hr_2 := Lib.hid (Hr_1.out.later b2)
  have Hx_2 := Lib.hid h2
  clear h2 b2 Hq_1 Hr_1 hB1
  go_wp2_with fail
  refine (ref02_norm _ _ _ _ _ (Hb.out.later hB2) (by omega)).mono ?_
  rintro e w3 ⟨a3, n3, c3, rfl, h3, b3⟩
  have hn3 : ¬ n3 = 0 := fun h => h0.out (dg_nil_iff.1 (h3.len.trans h))
  have hni3 : ((n3 : Int) == 0) = false := by simp [hn3]
  have hB3 := below_then hB2 b3
  have Hq_3 := Lib.hid (Hq_2.out.later b3)
  have Hr_3 := Lib.hid (Hr_2.out.later b3)
  have Hx_3 := Lib.hid (Hx_2.out.later b3)
  clear h3 b3 Hq_2 Hr_2 Hx_2 hB2
  go_wp2_with fail
  refine (ref05_div_two _ _ _ _ _ _ _ _ _ (Ha.out.later hB3) (Hb.out.later hB3) (by omega) (by omega) h0).mono ?_
  rintro e w4 ⟨a4, n4, c4, a4x, n4x, c4x, rfl, h4, h4x, b4⟩
  have hy4 : n4x = 0 := by have := h4x.len; rw [hz.out, dg_zero] at this; exact this.symm
  subst hy4
  have hB4 := below_then hB3 b4
  have Hq_4 := Lib.hid (Hq_3.out.later b4)
  have Hr_4 := Lib.hid (Hr_3.out.later b4)
  have Hx_4 := Lib.hid (Hx_3.out.later b4)
  have Hs_4 := Lib.hid h4
  have Ht_4 := Lib.hid h4x
  clear h4 h4x b4 Hq_3 Hr_3 Hx_3 hB3
  go_wp2_with fail
  refine (ref02_same_yes _ _ _ _ _ _ _ _ _ Hq_4.out Hs_4.out rfl).mono ?_
  rintro e w5 ⟨rfl, b5⟩
  have hB5 := below_then hB4 b5
  have Hr_5 := Lib.hid (Hr_4.out.later b5)
  have Hx_5 := Lib.hid (Hx_4.out.later b5)
  have Hs_5 := Lib.hid (Hs_4.out.later b5)
  have Ht_5 := Lib.hid (Ht_4.out.later b5)
  clear b5 Hq_4 Hr_4 Hx_4 Hs_4 Ht_4 hB4
  go_wp2_with fail
  refine (ref02_same_yes _ _ _ _ _ _ _ _ _ Hr_5.out Ht_5.out rfl).mono ?_
  rintro e w6 ⟨rfl, b6⟩
  have hB6 := below_then hB5 b6
  have Hx_6 := Lib.hid (Hx_5.out.later b6)
  have Hs_6 := Lib.hid (Hs_5.out.later b6)
  clear b6 Hr_5 Hx_5 Hs_5 Ht_5 hB5
  go_wp2_with fail
  refine (ref02_same_yes _ _ _ _ _ _ _ _ _ Hx_6.out Hs_6.out rfl).mono ?_
  rintro e w7 ⟨rfl, b7⟩
  have hB7 := below_then hB6 b7
  clear b7 Hx_6 Hs_6 hB6
  go_wp2_with fail
  refine (law05_works _).mono ?_
  rintro e w8 ⟨rfl, b8⟩
  have hB8 := below_then hB7 b8
  clear b8 hB7
  go_wp2
  go_ret
  exact ⟨rfl, hB8⟩
set_option maxHeartbeats 2000000 in
theorem law05_divides_odd (a : Option Addr) (n cap : Nat) (la : List Nat) (b : Option Addr) (m cap' : Nat) (lb : List Nat) (w : World) (ha : Wd w a n cap la) (hb : Wd w b m cap' lb) (hn : n ≤ 40) (hm : m ≤ 40) (h0 : Hid (val lb ≠ 0)) (hz : Hid (val la % val lb ≠ 0)) :
    Calls Try.prog 3 #[.slice a n cap, .slice b m cap'] w (Gives (.bool true) w) := by
  have Ha := Lib.hid ha
  have Hb := Lib.hid hb
  clear ha hb
  go_enter Try.func3, Try.ntmps3
  go_wp2_with fail
  refine (quot_div _ _ _ _ _ _ _ _ _ Ha.out Hb.out (by omega) (by omega) h0).mono ?_
  rintro e w1 ⟨a1, n1, c1, a1x, n1x, c1x, rfl, h1, h1x, b1⟩
  have hB1 := b1
  have Hq_1 := Lib.hid h1
  have Hr_1 := Lib.hid h1x
  clear h1 h1x b1
  go_wp2_with fail
  refine (quot_exact_no _ _ _ _ _ _ _ _ _ (Ha.out.later hB1) (Hb.out.later hB1) (by omega) (by omega) h0 hz).mono ?_
  rintro e w2 ⟨a2, n2, c2, rfl, h2, b2⟩
  obtain rfl : n2 = 0 := h2.len.symm
  have hB2 := below_then hB1 b2
  have Hq_2 := Lib.hid (Hq_1.out.later b2)
  have Hr_2 := Lib.hid (Hr_1.out.later b2)
  clear h2 b2 Hq_1 Hr_1 hB1
  go_wp2_with fail
  refine (ref02_norm _ _ _ _ _ (Hb.out.later hB2) (by omega)).mono ?_
  rintro e w3 ⟨a3, n3, c3, rfl, h3, b3⟩
  have hn3 : ¬ n3 = 0 := fun h => h0.out (dg_nil_iff.1 (h3.len.trans h))
  have hni3 : ((n3 : Int) == 0) = false := by simp [hn3]
  have hB3 := below_then hB2 b3
  have Hq_3 := Lib.hid (Hq_2.out.later b3)
  have Hr_3 := Lib.hid (Hr_2.out.later b3)
  clear h3 b3 Hq_2 Hr_2 hB2
  go_wp2_with fail
  refine (ref05_div_two _ _ _ _ _ _ _ _ _ (Ha.out.later hB3) (Hb.out.later hB3) (by omega) (by omega) h0).mono ?_
  rintro e w4 ⟨a4, n4, c4, a4x, n4x, c4x, rfl, h4, h4x, b4⟩
  have hy4 : ¬ n4x = 0 := fun h => hz.out (dg_nil_iff.1 (h4x.len.trans h))
  have hyi4 : ((n4x : Int) == 0) = false := by simp [hy4]
  have hB4 := below_then hB3 b4
  have Hq_4 := Lib.hid (Hq_3.out.later b4)
  have Hr_4 := Lib.hid (Hr_3.out.later b4)
  have Hs_4 := Lib.hid h4
  have Ht_4 := Lib.hid h4x
  clear h4 h4x b4 Hq_3 Hr_3 hB3
  go_wp2_with fail
  refine (ref02_same_yes _ _ _ _ _ _ _ _ _ Hq_4.out Hs_4.out rfl).mono ?_
  rintro e w5 ⟨rfl, b5⟩
  have hB5 := below_then hB4 b5
  have Hr_5 := Lib.hid (Hr_4.out.later b5)
  have Ht_5 := Lib.hid (Ht_4.out.later b5)
  clear b5 Hq_4 Hr_4 Hs_4 Ht_4 hB4
  go_wp2_with fail
  refine (ref02_same_yes _ _ _ _ _ _ _ _ _ Hr_5.out Ht_5.out rfl).mono ?_
  rintro e w6 ⟨rfl, b6⟩
  have hB6 := below_then hB5 b6
  clear b6 Hr_5 Ht_5 hB5
  go_wp2_with fail
  refine (law05_works _).mono ?_
  rintro e w7 ⟨rfl, b7⟩
  have hB7 := below_then hB6 b7
  clear b7 hB6
  go_wp2
  go_ret
  exact ⟨rfl, hB7⟩
theorem law05_divides (a : Option Addr) (n cap : Nat) (la : List Nat) (b : Option Addr) (m cap' : Nat) (lb : List Nat) (w : World) (ha : Wd w a n cap la) (hb : Wd w b m cap' lb) :
    Calls Try.prog 3 #[.slice a n cap, .slice b m cap'] w (Gives (.bool true) w) := by
  have p1 := ha.bound
  have p2 := hb.bound
  by_cases h : 40 < n ∨ 40 < m
  · exact law05_divides_out a n cap b m cap' w (by omega) (by omega) h
  · by_cases h0 : val lb = 0
    · exact law05_divides_zero a n cap la b m cap' lb w ha hb (by omega) (by omega) (Lib.hid h0)
    · by_cases hz : val la % val lb = 0
      · exact law05_divides_even a n cap la b m cap' lb w ha hb (by omega) (by omega) (Lib.hid h0) (Lib.hid hz)
      · exact law05_divides_odd a n cap la b m cap' lb w ha hb (by omega) (by omega) (Lib.hid h0) (Lib.hid hz)
end Go.Proofs.Ytcihklimngaapaa
