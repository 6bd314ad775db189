/-
  How long the value of a figure is, in words; what a text with a fault says. Of no program.
-/
import Derived.Test.YtjeigdlhjghinaaGreatDoorG15
import Derived.Test.YtjeigdlhjghinaaGreatDoorG13
namespace Go.Proofs.YtjeigdlhjghinaaGreatDoor
open Go.RowKit

theorem fig_bad {l : List UInt8} (h : figKind l ≠ 0) : figVal l = 0 := by
  by_cases hz : zwrong (fhead l) < 0
  · by_cases hc : cutAt l = l.length
    · exact absurd (fig_end_whole hz hc).2.1 h
    · have hlt : cutAt l < l.length := by have := cutAt_le l; omega
      by_cases hr : wrongI (frest l) < 0
      · by_cases hx : fbyte l = 46
        · exact absurd (fig_end_point hz hlt hr hx).2.1 h
        · by_cases hv : readV (frest l) = 0
          · exact (fig_end_none hz hlt hr hx hv).1
          · exact absurd (fig_end_slash hz hlt hr hx hv).2.1 h
      · exact (fig_end_rest hz hlt (by omega)).1
  · exact (fig_end_bad (by omega)).1
/-- How long what a text says is. -/
theorem figVal_len {l : List UInt8} : qlen (figVal l) ≤ 40 := by
  by_cases hk : figKind l = 0
  · by_cases hz : zwrong (fhead l) < 0
    · have hzl := zread_short hz
      by_cases hc : cutAt l = l.length
      · rw [(fig_end_whole hz hc).1]
        exact qlen_le (by rw [Rat.num_intCast]; omega) (by rw [Rat.den_intCast]; have := dg_one_length; omega)
      · have hlt : cutAt l < l.length := by have := cutAt_le l; omega
        by_cases hr : wrongI (frest l) < 0
        · obtain ⟨hvl, he60, _⟩ := readV_short hr
          by_cases hx : fbyte l = 46
          · rw [(fig_end_point hz hlt hr hx).1]
            have hu := val_lt (okw_dg (zread (fhead l)).natAbs)
            have hw := val_lt (okw_dg (readV (frest l)))
            rw [val_dg] at hu hw
            have lU := fig_room_len (N := 20) hu hw hzl hvl he60
            have h2 : (zread (fhead l)).natAbs * 10 ^ (frest l).length ≤ (zread (fhead l)).natAbs * (10 ^ (frest l).length * 2) := Nat.mul_le_mul_left _ (by omega)
            have l8 : (dg ((zread (fhead l)).natAbs * 10 ^ (frest l).length + readV (frest l))).length ≤ 20 + 9 := Nat.le_trans (dg_length_mono (by omega)) lU
            have l6 : (dg (10 ^ (frest l).length)).length ≤ 8 := dg_length_le (Nat.lt_of_le_of_lt (Nat.pow_le_pow_right (by decide) he60) (show 10 ^ 60 < 4294967296 ^ 8 by decide))
            have h3 := qlen_parts (zval (decide ((l.getD 0 0).toNat = 45)) ((zread (fhead l)).natAbs * 10 ^ (frest l).length + readV (frest l))) (10 ^ (frest l).length)
            rw [zval_abs] at h3
            omega
          · by_cases hv : readV (frest l) = 0
            · exact absurd (fig_end_none hz hlt hr hx hv).2.1 (by omega)
            · rw [(fig_end_slash hz hlt hr hx hv).1]
              have h3 := qlen_parts (zread (fhead l)) (readV (frest l))
              omega
        · exact absurd (fig_end_rest hz hlt (show 0 ≤ wrongI (frest l) by omega)).2.1 (by omega)
    · exact absurd (fig_end_bad (show 0 ≤ zwrong (fhead l) by omega)).2.1 (by omega)
  · rw [fig_bad hk, qlen_nought]; omega
end Go.Proofs.YtjeigdlhjghinaaGreatDoor
