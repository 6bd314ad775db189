/-
  The walks of the laws of layer 7: DigitsBack.
-/
import Derived.Test.YtgncfkednfjbpaaDoorLaw07Walks
namespace Go.Proofs.YtgncfkednfjbpaaDoor
open Go.RowKit

theorem ref07_trim_gives (l : List UInt8) (w : World) (hl : l.length ≤ 1000000) : Calls Tryd.prog 15 #[.string (bs l)] w (Gives (.string (bs (trimL l))) w) :=
  (ref07_trim l w hl).mono fun _ _ ⟨he, hw⟩ => ⟨he, below_of_eq hw⟩
theorem law07_back_out (S : DigitsSaid) (a : Option Addr) (n cap : Nat) (l : List UInt8) (w : World) (hT : Hid (Dec10 w)) (h1 : n ≤ 9223372036854775807) (h2 : l.length ≤ 9223372036854775807) (h : 8 < n ∨ 200 < l.length) :
    Calls Tryd.prog 5 #[.slice a n cap, .string (bs l)] w (Gives (.bool true) w) := by
  have hz := bs_size l
  by_cases hx : 8 < n
  · have hbi : (8 : Int) < (n : Int) := by omega
    clear h
    go_enter Tryd.func5, Tryd.ntmps5
    go_wp2_with fail
    refine (law07_works S _ (Lib.hid hT.out)).mono ?_
    rintro e w1 ⟨rfl, b1⟩
    have hB1 := b1
    clear b1
    go_wp2
    go_ret
    exact ⟨rfl, hB1⟩
  · have hbi : (n : Int) ≤ 8 := by omega
    have hci : (200 : Int) < (l.length : Int) := by omega
    clear h
    go_enter Tryd.func5, Tryd.ntmps5
    go_wp2_with fail
    refine (law07_works S _ (Lib.hid hT.out)).mono ?_
    rintro e w1 ⟨rfl, b1⟩
    have hB1 := b1
    clear b1
    go_wp2
    go_ret
    exact ⟨rfl, hB1⟩
set_option maxRecDepth 4096 in
set_option maxHeartbeats 2000000 in
theorem law07_back_short_ok (S : DigitsSaid) (a : Option Addr) (n cap : Nat) (la : List Nat) (l : List UInt8) (w : World) (hT : Hid (Dec10 w)) (ha : Wd w a n cap la) (hn : n ≤ 8) (hl : l.length ≤ 200) (ht : (txt (val la)).length ≤ 60) (hw : Hid (wrongI l < 0)) :
    Calls Tryd.prog 5 #[.slice a n cap, .string (bs l)] w (Gives (.bool true) w) := by
  have hz := bs_size l
  have hz2 := bs_size (txt (val la))
  have htl : (txt (val la)).length ≤ 300 := by
    have h1 := val_lt ha.ok
    rw [ha.len, pow32] at h1
    have h2 := txt_length_le h1
    omega
  have HW : Hid (wrongI (txt (val la)) = -1) := Lib.hid (by rw [wrongI_txt]; rw [if_pos ht])
  have hok := wrongI_none hw.out
  have HT : Hid (txt (readV l) = trimL l) := Lib.hid (txt_readV hok.1 hok.2.1)
  have HRL : Hid ((dg (readV l)).length ≤ 20) := Lib.hid (dg_length_le (Nat.lt_of_lt_of_le (readV_lt hok.1) (Nat.le_trans (Nat.pow_le_pow_right (by decide) hok.2.2) (by decide))))
  clear hok
  have Ha := Lib.hid ha
  clear ha
  go_enter Tryd.func5, Tryd.ntmps5
  go_wp2_with fail
  refine (S.text _ _ _ _ _ Ha.out (by omega) (Lib.hid hT.out)).mono ?_
  rintro e w1 ⟨rfl, b1⟩
  have hB1 := b1
  clear b1
  go_wp2_with fail
  refine (S.read_ok (txt (val la)) _ (by omega) (Lib.hid (by rw [HW.out]; decide))).mono ?_
  rintro e w2 ⟨a2, n2, c2, rfl, h2, b2⟩
  rw [readV_txt] at h2
  have hnb : n2 ≤ 8 := by rw [← h2.len]; exact Nat.le_trans Ha.out.trim_le hn
  have hB2 := below_then hB1 b2
  have Hb_2 := Lib.hid h2
  unfold faultV
  clear h2 b2 hB1
  go_wp2_with fail
  refine (natSaid.cmp _ _ _ _ _ _ _ _ _ (Hb_2.out.later (below_alloc _ _)) (Ha.out.later (below_then hB2 (below_alloc _ _))) (by omega) (by omega)).mono ?_
  rintro e w3 ⟨rfl, b3⟩
  have hB3 := below_then hB2 (below_then (below_alloc _ _) b3)
  rw [val_dg, cmpI_eq rfl]
  clear b3 Hb_2 hB2
  go_wp2_with fail
  refine (S.read_ok l _ (by omega) hw).mono ?_
  rintro e w4 ⟨a4, n4, c4, rfl, h4, b4⟩
  have hnc : n4 ≤ 20 := by rw [← h4.len]; exact HRL.out
  have hB4 := below_then hB3 b4
  have Hc_4 := Lib.hid h4
  unfold faultV
  clear h4 b4 hB3
  go_wp2_with fail
  refine (S.text _ _ _ _ _ (Hc_4.out.later (below_alloc _ _)) (by omega) (Lib.hid (hT.out.later (below_then hB4 (below_alloc _ _))))).mono ?_
  rintro e w5 ⟨rfl, b5⟩
  have hB5 := below_then hB4 (below_then (below_alloc _ _) b5)
  rw [val_dg, HT.out]
  clear b5 Hc_4 hB4
  go_wp2_with fail
  refine (ref07_trim_gives l _ (by omega)).mono ?_
  rintro e w6 ⟨rfl, b6⟩
  have hB6 := below_then hB5 b6
  clear b6 hB5
  go_wp2_with fail
  refine (law07_works S _ (Lib.hid (hT.out.later hB6))).mono ?_
  rintro e w7 ⟨rfl, b7⟩
  have hB7 := below_then hB6 b7
  clear b7 hB6
  go_wp2
  go_ret
  exact ⟨rfl, hB7⟩
set_option maxRecDepth 4096 in
set_option maxHeartbeats 2000000 in
theorem law07_back_short_bad (S : DigitsSaid) (a : Option Addr) (n cap : Nat) (la : List Nat) (l : List UInt8) (w : World) (hT : Hid (Dec10 w)) (ha : Wd w a n cap la) (hn : n ≤ 8) (hl : l.length ≤ 200) (ht : (txt (val la)).length ≤ 60) (hw : Hid (0 ≤ wrongI l)) :
    Calls Tryd.prog 5 #[.slice a n cap, .string (bs l)] w (Gives (.bool true) w) := by
  have hz := bs_size l
  have hz2 := bs_size (txt (val la))
  have htl : (txt (val la)).length ≤ 300 := by
    have h1 := val_lt ha.ok
    rw [ha.len, pow32] at h1
    have h2 := txt_length_le h1
    omega
  have HW : Hid (wrongI (txt (val la)) = -1) := Lib.hid (by rw [wrongI_txt]; rw [if_pos ht])
  have Ha := Lib.hid ha
  clear ha
  go_enter Tryd.func5, Tryd.ntmps5
  go_wp2_with fail
  refine (S.text _ _ _ _ _ Ha.out (by omega) (Lib.hid hT.out)).mono ?_
  rintro e w1 ⟨rfl, b1⟩
  have hB1 := b1
  clear b1
  go_wp2_with fail
  refine (S.read_ok (txt (val la)) _ (by omega) (Lib.hid (by rw [HW.out]; decide))).mono ?_
  rintro e w2 ⟨a2, n2, c2, rfl, h2, b2⟩
  rw [readV_txt] at h2
  have hnb : n2 ≤ 8 := by rw [← h2.len]; exact Nat.le_trans Ha.out.trim_le hn
  have hB2 := below_then hB1 b2
  have Hb_2 := Lib.hid h2
  unfold faultV
  clear h2 b2 hB1
  go_wp2_with fail
  refine (natSaid.cmp _ _ _ _ _ _ _ _ _ (Hb_2.out.later (below_alloc _ _)) (Ha.out.later (below_then hB2 (below_alloc _ _))) (by omega) (by omega)).mono ?_
  rintro e w3 ⟨rfl, b3⟩
  have hB3 := below_then hB2 (below_then (below_alloc _ _) b3)
  rw [val_dg, cmpI_eq rfl]
  clear b3 Hb_2 hB2
  go_wp2_with fail
  refine (S.read_no l _ (by omega) hw).mono ?_
  rintro e w4 ⟨a4, n4, c4, rfl, h4, b4⟩
  have hB4 := below_then hB3 b4
  unfold faultV
  clear h4 b4 hB3
  go_wp2_with fail
  refine (law07_works S _ (Lib.hid (hT.out.later (below_then hB4 (below_alloc _ _))))).mono ?_
  rintro e w5 ⟨rfl, b5⟩
  have hB5 := below_then hB4 (below_then (below_alloc _ _) b5)
  clear b5 hB4
  go_wp2
  go_ret
  exact ⟨rfl, hB5⟩
set_option maxRecDepth 4096 in
set_option maxHeartbeats 2000000 in
theorem law07_back_long_ok (S : DigitsSaid) (a : Option Addr) (n cap : Nat) (la : List Nat) (l : List UInt8) (w : World) (hT : Hid (Dec10 w)) (ha : Wd w a n cap la) (hn : n ≤ 8) (hl : l.length ≤ 200) (ht : 60 < (txt (val la)).length) (hw : Hid (wrongI l < 0)) :
    Calls Tryd.prog 5 #[.slice a n cap, .string (bs l)] w (Gives (.bool true) w) := by
  have hz := bs_size l
  have hz2 := bs_size (txt (val la))
  have htl : (txt (val la)).length ≤ 300 := by
    have h1 := val_lt ha.ok
    rw [ha.len, pow32] at h1
    have h2 := txt_length_le h1
    omega
  have HW : Hid (wrongI (txt (val la)) = 60) := Lib.hid (by rw [wrongI_txt]; rw [if_neg (by omega)])
  have hok := wrongI_none hw.out
  have HT : Hid (txt (readV l) = trimL l) := Lib.hid (txt_readV hok.1 hok.2.1)
  have HRL : Hid ((dg (readV l)).length ≤ 20) := Lib.hid (dg_length_le (Nat.lt_of_lt_of_le (readV_lt hok.1) (Nat.le_trans (Nat.pow_le_pow_right (by decide) hok.2.2) (by decide))))
  clear hok
  have Ha := Lib.hid ha
  clear ha
  go_enter Tryd.func5, Tryd.ntmps5
  go_wp2_with fail
  refine (S.text _ _ _ _ _ Ha.out (by omega) (Lib.hid hT.out)).mono ?_
  rintro e w1 ⟨rfl, b1⟩
  have hB1 := b1
  clear b1
  go_wp2_with fail
  refine (S.read_no (txt (val la)) _ (by omega) (Lib.hid (by rw [HW.out]; decide))).mono ?_
  rintro e w2 ⟨a2, n2, c2, rfl, h2, b2⟩
  have hB2 := below_then hB1 b2
  rw [HW.out]
  unfold faultV
  clear h2 b2 hB1
  go_wp2_with fail
  refine (S.read_ok l _ (by omega) hw).mono ?_
  rintro e w3 ⟨a3, n3, c3, rfl, h3, b3⟩
  have hnc : n3 ≤ 20 := by rw [← h3.len]; exact HRL.out
  have hB3 := below_then hB2 (below_then (below_alloc _ _) b3)
  have Hc_3 := Lib.hid h3
  unfold faultV
  clear h3 b3 hB2
  go_wp2_with fail
  refine (S.text _ _ _ _ _ (Hc_3.out.later (below_alloc _ _)) (by omega) (Lib.hid (hT.out.later (below_then hB3 (below_alloc _ _))))).mono ?_
  rintro e w4 ⟨rfl, b4⟩
  have hB4 := below_then hB3 (below_then (below_alloc _ _) b4)
  rw [val_dg, HT.out]
  clear b4 Hc_3 hB3
  go_wp2_with fail
  refine (ref07_trim_gives l _ (by omega)).mono ?_
  rintro e w5 ⟨rfl, b5⟩
  have hB5 := below_then hB4 b5
  clear b5 hB4
  go_wp2_with fail
  refine (law07_works S _ (Lib.hid (hT.out.later hB5))).mono ?_
  rintro e w6 ⟨rfl, b6⟩
  have hB6 := below_then hB5 b6
  clear b6 hB5
  go_wp2
  go_ret
  exact ⟨rfl, hB6⟩
set_option maxRecDepth 4096 in
set_option maxHeartbeats 2000000 in
theorem law07_back_long_bad (S : DigitsSaid) (a : Option Addr) (n cap : Nat) (la : List Nat) (l : List UInt8) (w : World) (hT : Hid (Dec10 w)) (ha : Wd w a n cap la) (hn : n ≤ 8) (hl : l.length ≤ 200) (ht : 60 < (txt (val la)).length) (hw : Hid (0 ≤ wrongI l)) :
    Calls Tryd.prog 5 #[.slice a n cap, .string (bs l)] w (Gives (.bool true) w) := by
  have hz := bs_size l
  have hz2 := bs_size (txt (val la))
  have htl : (txt (val la)).length ≤ 300 := by
    have h1 := val_lt ha.ok
    rw [ha.len, pow32] at h1
    have h2 := txt_length_le h1
    omega
  have HW : Hid (wrongI (txt (val la)) = 60) := Lib.hid (by rw [wrongI_txt]; rw [if_neg (by omega)])
  have Ha := Lib.hid ha
  clear ha
  go_enter Tryd.func5, Tryd.ntmps5
  go_wp2_with fail
  refine (S.text _ _ _ _ _ Ha.out (by omega) (Lib.hid hT.out)).mono ?_
  rintro e w1 ⟨rfl, b1⟩
  have hB1 := b1
  clear b1
  go_wp2_with fail
  refine (S.read_no (txt (val la)) _ (by omega) (Lib.hid (by rw [HW.out]; decide))).mono ?_
  rintro e w2 ⟨a2, n2, c2, rfl, h2, b2⟩
  have hB2 := below_then hB1 b2
  rw [HW.out]
  unfold faultV
  clear h2 b2 hB1
  go_wp2_with fail
  refine (S.read_no l _ (by omega) hw).mono ?_
  rintro e w3 ⟨a3, n3, c3, rfl, h3, b3⟩
  have hB3 := below_then hB2 (below_then (below_alloc _ _) b3)
  unfold faultV
  clear h3 b3 hB2
  go_wp2_with fail
  refine (law07_works S _ (Lib.hid (hT.out.later (below_then hB3 (below_alloc _ _))))).mono ?_
  rintro e w4 ⟨rfl, b4⟩
  have hB4 := below_then hB3 (below_then (below_alloc _ _) b4)
  clear b4 hB3
  go_wp2
  go_ret
  exact ⟨rfl, hB4⟩
theorem law07_back (S : DigitsSaid) (a : Option Addr) (n cap : Nat) (la : List Nat) (l : List UInt8) (w : World) (hT : Hid (Dec10 w)) (ha : Wd w a n cap la) (h2 : l.length ≤ 9223372036854775807) :
    Calls Tryd.prog 5 #[.slice a n cap, .string (bs l)] w (Gives (.bool true) w) := by
  have p1 := ha.bound
  by_cases h : 8 < n ∨ 200 < l.length
  · exact law07_back_out S a n cap l w hT (by omega) h2 h
  · by_cases ht : (txt (val la)).length ≤ 60
    · by_cases hw : wrongI l < 0
      · exact law07_back_short_ok S a n cap la l w hT ha (by omega) (by omega) ht (Lib.hid hw)
      · exact law07_back_short_bad S a n cap la l w hT ha (by omega) (by omega) ht (Lib.hid (by omega))
    · by_cases hw : wrongI l < 0
      · exact law07_back_long_ok S a n cap la l w hT ha (by omega) (by omega) (by omega) (Lib.hid hw)
      · exact law07_back_long_bad S a n cap la l w hT ha (by omega) (by omega) (by omega) (Lib.hid (by omega))
end Go.Proofs.YtgncfkednfjbpaaDoor
