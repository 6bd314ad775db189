/-
  The walks of the laws of layer 10: FigureBack: plain mathematics; what is too long.
-/
import Derived.Test.YteoeicfbaffjcaaGreatDoorG22
import Derived.Test.YteoeicfbaffjcaaGreatDoorG10
import Derived.Deep.RegionHeld3
namespace Go.Proofs.YteoeicfbaffjcaaGreatDoor
open Go.RowKit

theorem fig_bad {l : List UInt8} (h : figKind l ≠ 0) : figVal l = 0 := by
  by_cases hz : zwrong (fhead l) < 0
  · by_cases hc : cutAt l = l.length
    · exact absurd (fig_end_whole hz hc).2.1 h
    · have hlt : cutAt l < l.length := by have := cutAt_le l; omega
      by_cases hr : wrongI (frest l) < 0
      · by_cases hx : fbyte l = 46
        · exact absurd (fig_end_point hz hlt hr hx).2.1 h
        · by_cases hv : readV (frest l) = 0
          · exact (fig_end_none hz hlt hr hx hv).1
          · exact absurd (fig_end_slash hz hlt hr hx hv).2.1 h
      · exact (fig_end_rest hz hlt (by omega)).1
  · exact (fig_end_bad (by omega)).1
theorem fig_good {l : List UInt8} (h : figKind l = 0) : figPlace l = 0 := by
  by_cases hz : zwrong (fhead l) < 0
  · by_cases hc : cutAt l = l.length
    · exact (fig_end_whole hz hc).2.2
    · have hlt : cutAt l < l.length := by have := cutAt_le l; omega
      by_cases hr : wrongI (frest l) < 0
      · by_cases hx : fbyte l = 46
        · exact (fig_end_point hz hlt hr hx).2.2
        · by_cases hv : readV (frest l) = 0
          · have := (fig_end_none hz hlt hr hx hv).2.1; omega
          · exact (fig_end_slash hz hlt hr hx hv).2.2
      · have := (fig_end_rest hz hlt (show 0 ≤ wrongI (frest l) by omega)).2.1; omega
  · have := (fig_end_bad (show 0 ≤ zwrong (fhead l) by omega)).2.1; omega
theorem ftxt_length {q : Rat} (h1 : (txt q.num.natAbs).length ≤ 60) (h2 : (txt q.den).length ≤ 60) : (ftxt q).length ≤ 1000 := by
  unfold ftxt ztxt
  rw [List.length_append]
  split <;> split <;> simp only [List.length_cons, List.length_nil] <;> omega
/-- How long what a text says is. -/
theorem figVal_len {l : List UInt8} : qlen (figVal l) ≤ 40 := by
  by_cases hk : figKind l = 0
  · by_cases hz : zwrong (fhead l) < 0
    · have hzl := zread_short hz
      by_cases hc : cutAt l = l.length
      · rw [(fig_end_whole hz hc).1]
        exact qlen_le (by rw [Rat.num_intCast]; omega) (by rw [Rat.den_intCast]; have := dg_one_length; omega)
      · have hlt : cutAt l < l.length := by have := cutAt_le l; omega
        by_cases hr : wrongI (frest l) < 0
        · obtain ⟨hvl, he60, _⟩ := readV_short hr
          by_cases hx : fbyte l = 46
          · rw [(fig_end_point hz hlt hr hx).1]
            have hu := val_lt (okw_dg (zread (fhead l)).natAbs)
            have hw := val_lt (okw_dg (readV (frest l)))
            rw [val_dg] at hu hw
            have lU := fig_room_len (N := 20) hu hw hzl hvl he60
            have h2 : (zread (fhead l)).natAbs * 10 ^ (frest l).length ≤ (zread (fhead l)).natAbs * (10 ^ (frest l).length * 2) := Nat.mul_le_mul_left _ (by omega)
            have l8 : (dg ((zread (fhead l)).natAbs * 10 ^ (frest l).length + readV (frest l))).length ≤ 20 + 9 := Nat.le_trans (dg_length_mono (by omega)) lU
            have l6 : (dg (10 ^ (frest l).length)).length ≤ 8 := dg_length_le (Nat.lt_of_le_of_lt (Nat.pow_le_pow_right (by decide) he60) (show 10 ^ 60 < 4294967296 ^ 8 by decide))
            have h3 := qlen_parts (zval (decide ((l.getD 0 0).toNat = 45)) ((zread (fhead l)).natAbs * 10 ^ (frest l).length + readV (frest l))) (10 ^ (frest l).length)
            rw [zval_abs] at h3
            omega
          · by_cases hv : readV (frest l) = 0
            · exact absurd (fig_end_none hz hlt hr hx hv).2.1 (by omega)
            · rw [(fig_end_slash hz hlt hr hx hv).1]
              have h3 := qlen_parts (zread (fhead l)) (readV (frest l))
              omega
        · exact absurd (fig_end_rest hz hlt (show 0 ≤ wrongI (frest l) by omega)).2.1 (by omega)
    · exact absurd (fig_end_bad (show 0 ≤ zwrong (fhead l) by omega)).2.1 (by omega)
  · rw [fig_bad hk, qlen_nought]; omega
set_option maxRecDepth 4096 in
set_option maxHeartbeats 16000000 in
theorem law10_back_long (S : FigureSaid) (s0 : Bool) (a0 : Option Addr) (n0 c0 : Nat) (b0 : Option Addr) (m0 d0 : Nat) (l : List UInt8) (w : World) (hT : Hid (Dec10 w)) (h0 : 6 < n0 ∨ 6 < m0) :
    Calls Tryz.prog 5 #[frV s0 a0 n0 c0 b0 m0 d0, .string (bs l)] w (Gives (.bool true) w) := by
  have HB := Lib.hid (below_alloc w (.cells #[.bool s0, .slice a0 n0 c0, .slice b0 m0 d0] 24))
  have X0 := Lib.hid (blk_new w #[.bool s0, .slice a0 n0 c0, .slice b0 m0 d0] 24)
  have hl0 : (decide ((6 : Int) < (n0 : Int)) || decide ((6 : Int) < (m0 : Int))) = true := by
    rcases h0 with h | h
    · rw [decide_eq_true (show (6 : Int) < (n0 : Int) by omega)]; rfl
    · rw [decide_eq_true (show (6 : Int) < (m0 : Int) by omega), Bool.or_true]
  clear h0
  go_enter Tryz.func5, Tryz.ntmps5
  unfold frV
  obtain ⟨vk0, vk1, vk2⟩ := fcells_3 X0.out
  go_wp2_with fail
  refine (ref09_long s0 a0 n0 c0 b0 m0 d0 6 _).mono ?_
  rintro e wv1 ⟨rfl, b⟩
  clear vk0 vk1 vk2
  replace HB := Lib.hid (below_then HB.out b)
  replace X0 := Lib.hid (blk_later X0.out b)
  clear b
  rw [hl0]
  obtain ⟨vk0, vk1, vk2⟩ := fcells_3 X0.out
  go_wp2_with fail
  refine (law10_works S _ (Lib.hid (hT.out.later HB.out))).mono ?_
  rintro e wv2 ⟨rfl, b⟩
  clear vk0 vk1 vk2
  replace HB := Lib.hid (below_then HB.out b)
  replace X0 := Lib.hid (blk_later X0.out b)
  clear b
  go_wp2
  go_ret
  exact ⟨rfl, HB.out⟩
set_option maxRecDepth 4096 in
set_option maxHeartbeats 16000000 in
theorem law10_back_many (S : FigureSaid) (s0 : Bool) (a0 : Option Addr) (n0 c0 : Nat) (b0 : Option Addr) (m0 d0 : Nat) (l : List UInt8) (w : World) (hT : Hid (Dec10 w)) (hn0 : n0 ≤ 6) (hm0 : m0 ≤ 6) (hl : 200 < l.length) (hl2 : l.length ≤ 9223372036854775807) :
    Calls Tryz.prog 5 #[frV s0 a0 n0 c0 b0 m0 d0, .string (bs l)] w (Gives (.bool true) w) := by
  have HB := Lib.hid (below_alloc w (.cells #[.bool s0, .slice a0 n0 c0, .slice b0 m0 d0] 24))
  have X0 := Lib.hid (blk_new w #[.bool s0, .slice a0 n0 c0, .slice b0 m0 d0] 24)
  have hl0 : (decide ((6 : Int) < (n0 : Int)) || decide ((6 : Int) < (m0 : Int))) = false := by rw [decide_eq_false (by omega), decide_eq_false (by omega)]; rfl
  have hs := bs_size l
  have h200 : (200 : Int) < (l.length : Int) := by omega
  go_enter Tryz.func5, Tryz.ntmps5
  unfold frV
  obtain ⟨vk0, vk1, vk2⟩ := fcells_3 X0.out
  go_wp2_with fail
  refine (ref09_long s0 a0 n0 c0 b0 m0 d0 6 _).mono ?_
  rintro e wv1 ⟨rfl, b⟩
  clear vk0 vk1 vk2
  replace HB := Lib.hid (below_then HB.out b)
  replace X0 := Lib.hid (blk_later X0.out b)
  clear b
  rw [hl0]
  obtain ⟨vk0, vk1, vk2⟩ := fcells_3 X0.out
  go_wp2_with fail
  refine (law10_works S _ (Lib.hid (hT.out.later HB.out))).mono ?_
  rintro e wv2 ⟨rfl, b⟩
  clear vk0 vk1 vk2
  replace HB := Lib.hid (below_then HB.out b)
  replace X0 := Lib.hid (blk_later X0.out b)
  clear b
  go_wp2
  go_ret
  exact ⟨rfl, HB.out⟩
end Go.Proofs.YteoeicfbaffjcaaGreatDoor
