/-
  The walks of the laws of layer 3.
-/
import Derived.Test.YtfjkolnaihejcaaDoorTwos2
import Derived.Test.YtfjkolnaihejcaaDoorRef03
import Derived.Test.YtfjkolnaihejcaaDoorNatAll
namespace Go.Proofs.YtfjkolnaihejcaaDoor
open Go.RowKit

theorem tz_8 : tz 8 = 3 := tz_pow 3 0
set_option maxHeartbeats 1000000 in
theorem law03_works (w : World) (hT : Hid (Tab w)) : Calls Tryd.prog 6 #[] w (Gives (.bool true) w) := by
  have hl8 : (dg 8).length ≤ 1 := dg_length_le (by decide)
  have hl13 : (dg 13).length ≤ 1 := dg_length_le (by decide)
  have hl3 : (dg 3).length ≤ 1 := dg_length_le (by decide)
  go_enter Tryd.func6, Tryd.ntmps6
  go_wp2_with fail
  refine (natSaid.of 8 _ (by omega)).mono ?_
  rintro e w1 ⟨a1, n1, c1, rfl, h1, b1⟩
  have hn1 := h1.len
  go_wp2_with fail
  refine (twos_len _ _ _ _ _ h1 (by omega)).mono ?_
  rintro e w' ⟨rfl, rfl⟩
  rw [val_dg, show blen 8 = 4 from by decide]
  clear h1
  go_wp2_with fail
  refine (natSaid.of 8 _ (by omega)).mono ?_
  rintro e w2 ⟨a2, n2, c2, rfl, h2, b2⟩
  have hn2 := h2.len
  have hB2 := below_then b1 b2
  go_wp2_with fail
  refine (twos_zeros _ _ _ _ _ h2 (by omega) (Lib.hid (hT.out.later hB2))).mono ?_
  rintro e w' ⟨rfl, rfl⟩
  rw [val_dg, tz_8]
  clear h2 b1 b2
  go_wp2_with fail
  refine (natSaid.of 8 _ (by omega)).mono ?_
  rintro e w3 ⟨a3, n3, c3, rfl, h3, b3⟩
  have hB3 := below_then hB2 b3
  go_wp2_with fail
  refine (twos_bit_nat _ _ _ _ 3 _ h3 (by omega)).mono ?_
  rintro e w' ⟨rfl, rfl⟩
  rw [val_dg, show (8 : Nat).testBit 3 = true from by decide]
  clear h3 b3 hB2
  go_wp2_with fail
  refine (natSaid.of 13 _ (by omega)).mono ?_
  rintro e w4 ⟨a4, n4, c4, rfl, h4, b4⟩
  have hn4 := h4.len
  have hB4 := below_then hB3 b4
  go_wp2_with fail
  refine (twos_down _ _ _ _ 2 _ h4 (by omega) (by omega)).mono ?_
  rintro e w5 ⟨a5, n5, c5, rfl, h5, b5⟩
  rw [val_dg, show 13 / 2 ^ (2 : Int).toNat = 3 from by decide] at h5
  have hn5 := h5.len
  have hB5 := below_then hB4 b5
  clear h4 b4 b5 hB3 hB4
  go_wp2_with fail
  refine (natSaid.of 3 _ (by omega)).mono ?_
  rintro e w6 ⟨a6, n6, c6, rfl, h6, b6⟩
  have hn6 := h6.len
  have hB6 := below_then hB5 b6
  have H5 := Lib.hid (h5.later b6)
  clear h5 hB5 b6
  go_wp2_with fail
  refine (natSaid.cmp _ _ _ _ _ _ _ _ _ H5.out h6 (by omega) (by omega)).mono ?_
  rintro e w7 ⟨rfl, b7⟩
  rw [cmpI_eq rfl]
  have hB7 := below_then hB6 b7
  clear h6 H5 b7 hB6
  go_wp2_with fail
  go_ret
  exact ⟨rfl, hB7⟩

theorem gives_works {w w1 w2 : World} {e : Ending} (hB : Below w.heap.size w w1) (h : Gives (.bool true) w1 e w2) : Gives (.bool true) w e w2 := ⟨h.1, below_then hB h.2⟩
set_option maxHeartbeats 1000000 in
theorem law03_tells (a : Option Addr) (n cap : Nat) (l : List Nat) (i : Int) (w : World) (h : Wd w a n cap l) (hi : i ≤ 9223372036854775807) (hT : Hid (Tab w)) :
    Calls Tryd.prog 3 #[.slice a n cap, .int .i64 i] w (Gives (.bool true) w) := by
  obtain ⟨hb1, hb2⟩ := h.bound
  have H := Lib.hid h
  clear h
  by_cases hbig : 60 < n
  · have hbi : (60 : Int) < (n : Int) := by omega
    go_enter Tryd.func3, Tryd.ntmps3
    go_wp2_with fail
    refine (law03_works _ hT).mono ?_
    rintro e w1 ⟨rfl, b1⟩
    go_wp2
    go_ret
    exact ⟨rfl, b1⟩
  · have hn : n ≤ 60 := by omega
    clear hbig
    go_enter Tryd.func3, Tryd.ntmps3
    go_wp2_with fail
    refine (twos_len _ _ _ _ _ H.out (by omega)).mono ?_
    rintro e w' ⟨rfl, rfl⟩
    go_wp2_with fail
    refine (ref03_len _ _ _ _ _ H.out (by omega)).mono ?_
    rintro e w' ⟨rfl, rfl⟩
    go_wp2_with fail
    refine (twos_zeros _ _ _ _ _ H.out (by omega) hT).mono ?_
    rintro e w' ⟨rfl, rfl⟩
    go_wp2_with fail
    refine (ref03_zeros _ _ _ _ _ H.out (by omega)).mono ?_
    rintro e w' ⟨rfl, rfl⟩
    go_wp2_with fail
    refine (twos_bit _ _ _ _ i _ H.out hi).mono ?_
    rintro e w' ⟨rfl, rfl⟩
    go_wp2_with fail
    refine (ref03_has _ _ _ _ i _ H.out hi).mono ?_
    rintro e w' ⟨rfl, rfl⟩
    go_wp2_with fail
    refine (law03_works _ hT).mono ?_
    rintro e w1 ⟨rfl, b1⟩
    go_wp2
    go_ret
    exact ⟨ret_bool (by simp), b1⟩
set_option maxHeartbeats 1000000 in
theorem law03_shifts (a : Option Addr) (n cap : Nat) (l : List Nat) (k : Int) (w : World) (h : Wd w a n cap l) (hk : k ≤ 9223372036854775807) (hT : Hid (Tab w)) :
    Calls Tryd.prog 4 #[.slice a n cap, .int .i64 k] w (Gives (.bool true) w) := by
  obtain ⟨hb1, hb2⟩ := h.bound
  have H := Lib.hid h
  clear h
  by_cases hbig : 60 < n
  · have hbi : (60 : Int) < (n : Int) := by omega
    go_enter Tryd.func4, Tryd.ntmps4
    go_wp2_with fail
    refine (law03_works _ hT).mono ?_
    rintro e w1 ⟨rfl, b1⟩
    go_wp2
    go_ret
    exact ⟨rfl, b1⟩
  · have hn : n ≤ 60 := by omega
    clear hbig
    go_enter Tryd.func4, Tryd.ntmps4
    go_wp2_with fail
    refine (twos_up _ _ _ _ k _ H.out (by omega)).mono ?_
    rintro e w1 ⟨a1, n1, c1, rfl, h1, b1⟩
    go_wp2_with fail
    refine (ref03_up _ _ _ _ k _ (H.out.later b1) (by omega)).mono ?_
    rintro e w2 ⟨a2, n2, c2, rfl, h2, b2⟩
    go_wp2_with fail
    refine (ref02_same_yes _ _ _ _ _ _ _ _ _ (h1.later b2) h2 rfl).mono ?_
    rintro e w3 ⟨rfl, b3⟩
    have hB3 := below_then b1 (below_then b2 b3)
    clear h1 h2 b1 b2 b3
    go_wp2_with fail
    refine (twos_down _ _ _ _ k _ (H.out.later hB3) (by omega) hk).mono ?_
    rintro e w4 ⟨a4, n4, c4, rfl, h4, b4⟩
    have hB4 := below_then hB3 b4
    go_wp2_with fail
    refine (ref03_down _ _ _ _ k _ (H.out.later hB4) (by omega)).mono ?_
    rintro e w5 ⟨a5, n5, c5, rfl, h5, b5⟩
    go_wp2_with fail
    refine (ref02_same_yes _ _ _ _ _ _ _ _ _ (h4.later b5) h5 rfl).mono ?_
    rintro e w6 ⟨rfl, b6⟩
    have hB6 := below_then hB4 (below_then b5 b6)
    clear h4 h5 b4 b5 b6 hB3 hB4
    go_wp2_with fail
    refine (twos_low _ _ _ _ k _ (H.out.later hB6) (by omega) hk).mono ?_
    rintro e w7 ⟨a7, n7, c7, rfl, h7, b7⟩
    have hB7 := below_then hB6 b7
    go_wp2_with fail
    refine (ref03_low _ _ _ _ k _ (H.out.later hB7) (by omega)).mono ?_
    rintro e w8 ⟨a8, n8, c8, rfl, h8, b8⟩
    go_wp2_with fail
    refine (ref02_same_yes _ _ _ _ _ _ _ _ _ (h7.later b8) h8 rfl).mono ?_
    rintro e w9 ⟨rfl, b9⟩
    have hB9 := below_then hB7 (below_then b8 b9)
    clear h7 h8 b7 b8 b9 hB6 hB7
    go_wp2_with fail
    refine (law03_works _ (Lib.hid (hT.out.later hB9))).mono ?_
    rintro e w10 ⟨rfl, b10⟩
    have hB10 := below_then hB9 b10
    go_wp2
    go_ret
    exact ⟨rfl, hB10⟩
theorem law03_back_out (a : Option Addr) (n cap : Nat) (k : Int) (w : World) (hcap : n ≤ 9223372036854775807) (h : 60 < n ∨ k < 0 ∨ 4000 < k) (hT : Hid (Tab w)) :
    Calls Tryd.prog 5 #[.slice a n cap, .int .i64 k] w (Gives (.bool true) w) := by
  by_cases h1 : 60 < n
  · have hbi : (60 : Int) < (n : Int) := by omega
    clear h
    go_enter Tryd.func5, Tryd.ntmps5
    go_wp2_with fail
    refine (law03_works _ hT).mono ?_
    rintro e w1 ⟨rfl, b1⟩
    go_wp2
    go_ret
    exact ⟨rfl, b1⟩
  · have hbi : (n : Int) ≤ 60 := by omega
    by_cases h2 : k < 0
    · clear h h1
      go_enter Tryd.func5, Tryd.ntmps5
      go_wp2_with fail
      refine (law03_works _ hT).mono ?_
      rintro e w1 ⟨rfl, b1⟩
      go_wp2
      go_ret
      exact ⟨rfl, b1⟩
    · have h3 : 4000 < k := by omega
      have h4 : 0 ≤ k := by omega
      clear h h1 h2
      go_enter Tryd.func5, Tryd.ntmps5
      go_wp2_with fail
      refine (law03_works _ hT).mono ?_
      rintro e w1 ⟨rfl, b1⟩
      go_wp2
      go_ret
      exact ⟨rfl, b1⟩
set_option maxHeartbeats 2000000 in
theorem law03_back_in (a : Option Addr) (n cap : Nat) (l : List Nat) (K : Nat) (w : World) (h : Wd w a n cap l) (hn : n ≤ 60) (hK : K ≤ 4000) (hT : Hid (Tab w)) :
    Calls Tryd.prog 5 #[.slice a n cap, .int .i64 (K : Int)] w (Gives (.bool true) w) := by
  obtain ⟨hb1, hb2⟩ := h.bound
  have H := Lib.hid h
  clear h
  have hKm : Hid (min K 4096 = K) := Lib.hid (by omega)
  have hvl : Hid ((dg (val l)).length ≤ 200) := Lib.hid (Nat.le_trans (dg_length_val_le H.out.ok) (by rw [H.out.len]; omega))
  have hvu : Hid ((dg (val l * 2 ^ K)).length ≤ 200) := Lib.hid (by
    have h1 : val l < 2 ^ (32 * n) := by rw [← pow32, ← H.out.len]; exact val_lt H.out.ok
    have h2 : val l * 2 ^ K < 2 ^ (32 * n) * 2 ^ K := Nat.mul_lt_mul_of_pos_right h1 (Nat.two_pow_pos K)
    rw [← Nat.pow_add] at h2
    have h3 := blen_le.2 h2
    rw [dg_len_blen]
    omega)
  go_enter Tryd.func5, Tryd.ntmps5
  go_wp2_with fail
  refine (twos_up _ _ _ _ (K : Int) _ H.out (by omega)).mono ?_
  rintro e w1 ⟨a1, n1, c1, rfl, h1, b1⟩
  rw [Int.toNat_natCast, hKm.out] at h1
  have hn1 : n1 ≤ 200 := by rw [← h1.len]; exact hvu.out
  go_wp2_with fail
  refine (twos_down _ _ _ _ (K : Int) _ h1 (by omega) (by omega)).mono ?_
  rintro e w2 ⟨a2, n2, c2, rfl, h2, b2⟩
  rw [Int.toNat_natCast, val_dg, Nat.mul_div_cancel _ (Nat.two_pow_pos K)] at h2
  have hn2 : n2 ≤ 200 := by rw [← h2.len]; exact hvl.out
  have hB2 := below_then b1 b2
  go_wp2_with fail
  refine (natSaid.cmp _ _ _ _ _ _ _ _ _ h2 (H.out.later hB2) (by omega) (by omega)).mono ?_
  rintro e w3 ⟨rfl, b3⟩
  rw [val_dg, cmpI_eq rfl]
  have hB3 := below_then hB2 b3
  have H1 := Lib.hid (h1.later (below_then b2 b3))
  clear h1 h2 b1 b2 b3 hB2
  go_wp2_with fail
  refine (natSaid.zero _ _ _ _ _ (H.out.later hB3) (by omega)).mono ?_
  rintro e w4 ⟨rfl, b4⟩
  have hBx := below_then hB3 b4
  have H1x := Lib.hid (H1.out.later b4)
  clear H1 b4 hB3
  by_cases hv : val l = 0
  · rw [decide_eq_true hv]
    clear hv
    go_wp2_with fail
    refine (twos_low _ _ _ _ (K : Int) _ (H.out.later hBx) (by omega) (by omega)).mono ?_
    rintro e w5 ⟨a5, n5, c5, rfl, h5, b5⟩
    rw [Int.toNat_natCast] at h5
    have hB5 := below_then hBx b5
    have hn5 : n5 ≤ 200 := by rw [← h5.len]; exact Nat.le_trans (dg_length_mono (Nat.mod_le _ _)) hvl.out
    go_wp2_with fail
    refine (twos_down _ _ _ _ (K : Int) _ (H.out.later hB5) (by omega) (by omega)).mono ?_
    rintro e w6 ⟨a6, n6, c6, rfl, h6, b6⟩
    rw [Int.toNat_natCast] at h6
    have hB6 := below_then hB5 b6
    have hn6 : n6 ≤ 200 := by rw [← h6.len]; exact Nat.le_trans (dg_length_mono (Nat.div_le_self _ _)) hvl.out
    go_wp2_with fail
    refine (twos_up _ _ _ _ (K : Int) _ h6 (by omega)).mono ?_
    rintro e w7 ⟨a7, n7, c7, rfl, h7, b7⟩
    rw [Int.toNat_natCast, hKm.out, val_dg] at h7
    have hB7 := below_then hB6 b7
    have hn7 : n7 ≤ 200 := by rw [← h7.len]; exact Nat.le_trans (dg_length_mono (Nat.div_mul_le_self _ _)) hvl.out
    have H5 := Lib.hid (h5.later (below_then b6 b7))
    have H7 := Lib.hid h7
    clear h5 h6 h7 b5 b6 b7 hB5 hB6
    go_wp2_with fail
    refine (natSaid.add _ _ _ _ _ (Wds.lit2 w7 22 H7.out H5.out) (by omega) (by have h1 := H7.out.len; have h2 := H5.out.len; simp only [words]; omega)).mono ?_
    rintro e w8 ⟨a8, n8, c8, rfl, h8, b8⟩
    have hB8 := below_then hB7 (below_then (below_alloc _ _) b8)
    have hsum : vals [dg (val l / 2 ^ K * 2 ^ K), dg (val l % 2 ^ K)] = val l := by simp only [vals, val_dg]; rw [Nat.mul_comm, Nat.add_zero]; exact Nat.div_add_mod _ _
    rw [hsum] at h8
    have hn8 : n8 ≤ 200 := by rw [← h8.len]; exact hvl.out
    have H5b := Lib.hid (H5.out.later (below_then (below_alloc _ _) b8))
    clear hsum H5 H7 b8 hB7
    go_wp2_with fail
    refine (natSaid.cmp _ _ _ _ _ _ _ _ _ h8 (H.out.later hB8) (by omega) (by omega)).mono ?_
    rintro e w9 ⟨rfl, b9⟩
    rw [val_dg, cmpI_eq rfl]
    have hB9 := below_then hB8 b9
    have H5c := Lib.hid (H5b.out.later b9)
    clear h8 H5b hB8 b9
    go_wp2_with fail
    refine (twos_len _ _ _ _ _ H5c.out (by omega)).mono ?_
    rintro e w' ⟨rfl, rfl⟩
    rw [val_dg]
    have hbl : blen (val l % 2 ^ K) ≤ K := blen_le.2 (Nat.mod_lt _ (Nat.two_pow_pos K))
    generalize blen (val l % 2 ^ K) = y at *
    have hyK : (y : Int) ≤ (K : Int) := by omega
    go_wp2_with fail
    refine (law03_works _ (Lib.hid (hT.out.later hB9))).mono ?_
    rintro e w10 ⟨rfl, b10⟩
    have hB10 := below_then hB9 b10
    go_wp2
    go_ret
    exact ⟨ret_bool (by simp), hB10⟩
  · rw [decide_eq_false hv]
    have Hb := Lib.hid (blen_mul (n := K) hv)
    have Hz := Lib.hid (tz_mul (n := K) hv)
    have hb0 : blen (val l) ≤ 10000 := Nat.le_trans (blen_le.2 (show val l < 2 ^ (32 * n) by rw [← pow32, ← H.out.len]; exact val_lt H.out.ok)) (by omega)
    have hz0 : tz (val l) < 10000 := Nat.lt_of_lt_of_le (tz_lt hv (show val l < 2 ^ blen (val l) from lt_blen _)) hb0
    clear hv
    go_wp2_with fail
    refine (twos_len _ _ _ _ _ H1x.out (by omega)).mono ?_
    rintro e w' ⟨rfl, rfl⟩
    rw [val_dg, Hb.out]
    go_wp2_with fail
    refine (twos_len _ _ _ _ _ (H.out.later hBx) (by omega)).mono ?_
    rintro e w' ⟨rfl, rfl⟩
    go_wp2_with fail
    refine (twos_zeros _ _ _ _ _ H1x.out (by omega) (Lib.hid (hT.out.later hBx))).mono ?_
    rintro e w' ⟨rfl, rfl⟩
    rw [val_dg, Hz.out]
    go_wp2_with fail
    refine (twos_zeros _ _ _ _ _ (H.out.later hBx) (by omega) (Lib.hid (hT.out.later hBx))).mono ?_
    rintro e w' ⟨rfl, rfl⟩
    go_wp2_with fail
    refine (twos_low _ _ _ _ (K : Int) _ (H.out.later hBx) (by omega) (by omega)).mono ?_
    rintro e w5 ⟨a5, n5, c5, rfl, h5, b5⟩
    rw [Int.toNat_natCast] at h5
    have hB5 := below_then hBx b5
    have hn5 : n5 ≤ 200 := by rw [← h5.len]; exact Nat.le_trans (dg_length_mono (Nat.mod_le _ _)) hvl.out
    go_wp2_with fail
    refine (twos_down _ _ _ _ (K : Int) _ (H.out.later hB5) (by omega) (by omega)).mono ?_
    rintro e w6 ⟨a6, n6, c6, rfl, h6, b6⟩
    rw [Int.toNat_natCast] at h6
    have hB6 := below_then hB5 b6
    have hn6 : n6 ≤ 200 := by rw [← h6.len]; exact Nat.le_trans (dg_length_mono (Nat.div_le_self _ _)) hvl.out
    go_wp2_with fail
    refine (twos_up _ _ _ _ (K : Int) _ h6 (by omega)).mono ?_
    rintro e w7 ⟨a7, n7, c7, rfl, h7, b7⟩
    rw [Int.toNat_natCast, hKm.out, val_dg] at h7
    have hB7 := below_then hB6 b7
    have hn7 : n7 ≤ 200 := by rw [← h7.len]; exact Nat.le_trans (dg_length_mono (Nat.div_mul_le_self _ _)) hvl.out
    have H5 := Lib.hid (h5.later (below_then b6 b7))
    have H7 := Lib.hid h7
    clear h5 h6 h7 b5 b6 b7 hB5 hB6
    go_wp2_with fail
    refine (natSaid.add _ _ _ _ _ (Wds.lit2 w7 22 H7.out H5.out) (by omega) (by have h1 := H7.out.len; have h2 := H5.out.len; simp only [words]; omega)).mono ?_
    rintro e w8 ⟨a8, n8, c8, rfl, h8, b8⟩
    have hB8 := below_then hB7 (below_then (below_alloc _ _) b8)
    have hsum : vals [dg (val l / 2 ^ K * 2 ^ K), dg (val l % 2 ^ K)] = val l := by simp only [vals, val_dg]; rw [Nat.mul_comm, Nat.add_zero]; exact Nat.div_add_mod _ _
    rw [hsum] at h8
    have hn8 : n8 ≤ 200 := by rw [← h8.len]; exact hvl.out
    have H5b := Lib.hid (H5.out.later (below_then (below_alloc _ _) b8))
    clear hsum H5 H7 b8 hB7
    go_wp2_with fail
    refine (natSaid.cmp _ _ _ _ _ _ _ _ _ h8 (H.out.later hB8) (by omega) (by omega)).mono ?_
    rintro e w9 ⟨rfl, b9⟩
    rw [val_dg, cmpI_eq rfl]
    have hB9 := below_then hB8 b9
    have H5c := Lib.hid (H5b.out.later b9)
    clear h8 H5b hB8 b9
    go_wp2_with fail
    refine (twos_len _ _ _ _ _ H5c.out (by omega)).mono ?_
    rintro e w' ⟨rfl, rfl⟩
    rw [val_dg]
    have hbl : blen (val l % 2 ^ K) ≤ K := blen_le.2 (Nat.mod_lt _ (Nat.two_pow_pos K))
    generalize blen (val l % 2 ^ K) = y at *
    have hyK : (y : Int) ≤ (K : Int) := by omega
    go_wp2_with fail
    refine (law03_works _ (Lib.hid (hT.out.later hB9))).mono ?_
    rintro e w10 ⟨rfl, b10⟩
    have hB10 := below_then hB9 b10
    go_wp2
    go_ret
    exact ⟨ret_bool (by simp), hB10⟩
theorem law03_back (a : Option Addr) (n cap : Nat) (l : List Nat) (k : Int) (w : World) (h : Wd w a n cap l) (hT : Hid (Tab w)) :
    Calls Tryd.prog 5 #[.slice a n cap, .int .i64 k] w (Gives (.bool true) w) := by
  obtain ⟨hb1, hb2⟩ := h.bound
  by_cases hout : 60 < n ∨ k < 0 ∨ 4000 < k
  · exact law03_back_out a n cap k w (by omega) hout hT
  · obtain ⟨K, rfl⟩ := Int.eq_ofNat_of_zero_le (a := k) (by omega)
    exact law03_back_in a n cap l K w h (by omega) (by omega) hT
end Go.Proofs.YtfjkolnaihejcaaDoor
