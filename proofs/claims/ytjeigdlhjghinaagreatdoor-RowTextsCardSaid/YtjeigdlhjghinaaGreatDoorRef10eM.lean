/-
  The contract of the document's answer for layer 10: Read.
-/
import Derived.Test.YtjeigdlhjghinaaGreatDoorRef10dM
namespace Go.Proofs.YtjeigdlhjghinaaGreatDoor
open Go.RowKit

theorem ref10_read (l : List UInt8) (w : World) (hl : l.length ≤ 1000) : Calls Tryz.prog 73 #[.string (bs l)] w (LstQVV (figVal l) (.int .i64 (figKind l)) (.int .i64 (figPlace l)) w) := by
  have hcl := cutAt_le l
  have hf : fhead l = l.take (cutAt l) := rfl
  have hl1 : (l.take (cutAt l)).length ≤ 1000 := by rw [List.length_take]; omega
  by_cases hc : cutAt l = l.length
  · by_cases hz : zwrong (fhead l) < 0
    · obtain ⟨e1, e2, e3⟩ := fig_end_whole hz hc
      rw [e1, e2, e3]
      exact ref10_whole l w hl (cutAt l) rfl hc (zread (fhead l)) (zread_short hz) (fun w' => ref08_read_ok _ w' hl1 (Lib.hid hz))
    · obtain ⟨e1, e2, e3⟩ := fig_end_bad (show 0 ≤ zwrong (fhead l) by omega)
      rw [e1, e2, e3]
      exact ref10_head l w hl (cutAt l) rfl hc 0 (zwrong (fhead l)) (by omega) (fun w' => ref08_read_no _ w' hl1 (Lib.hid (show 0 ≤ zwrong (fhead l) by omega)))
  · have hlt : cutAt l < l.length := by omega
    have hr : frest l = l.drop (cutAt l + 1) := rfl
    have hl2 : (l.drop (cutAt l + 1)).length ≤ 1000 := by rw [List.length_drop]; omega
    have hW : ∀ w' : World, Calls Tryz.prog 113 #[.string (bs (l.drop (cutAt l + 1)))] w' (fun e w'' => e = .returned (.int .i64 (wrongI (frest l))) ∧ w' = w'') := fun w' => ref07_wrong _ w' (by omega)
    by_cases hz : zwrong (fhead l) < 0
    · have hR : ∀ w' : World, Calls Tryz.prog 112 #[.string (bs (l.take (cutAt l)))] w' (ReadZ (zread (fhead l)) (-1) w') := fun w' => ref08_read_ok _ w' hl1 (Lib.hid hz)
      have hzl := zread_short hz
      by_cases hw : wrongI (frest l) < 0
      · obtain ⟨hvl, he60, hdg⟩ := readV_short hw
        have hD : ∀ w' : World, Calls Tryz.prog 114 #[.string (bs (l.drop (cutAt l + 1)))] w' (Lst (dg (readV (frest l))) w') := fun w' => ref07_read _ w' (by rw [hr] at he60; omega) (Lib.hid hdg)
        by_cases hx : fbyte l = 46
        · obtain ⟨e1, e2, e3⟩ := fig_end_point hz hlt hw hx
          rw [e1, e2, e3]
          exact ref10_point l w hl (cutAt l) rfl hlt hx (zread (fhead l)) _ (readV (frest l)) _ _ rfl he60 rfl hzl hw hR hW hvl hD
        · have hx47 : (l.getD (cutAt l) 0).toNat = 47 := (cut_byte hlt).resolve_right hx
          by_cases hv : readV (frest l) = 0
          · obtain ⟨e1, e2, e3⟩ := fig_end_none hz hlt hw hx hv
            rw [e1, e2, e3]
            exact ref10_none l w hl (cutAt l) rfl hlt hx47 (zread (fhead l)) _ (readV (frest l)) hv hw hR hW hD
          · obtain ⟨e1, e2, e3⟩ := fig_end_slash hz hlt hw hx hv
            rw [e1, e2, e3]
            exact ref10_slash l w hl (cutAt l) rfl hlt hx47 (zread (fhead l)) _ (readV (frest l)) hv hzl hw hR hW hvl hD
      · obtain ⟨e1, e2, e3⟩ := fig_end_rest hz hlt (show 0 ≤ wrongI (frest l) by omega)
        have hwl := wrongI_len (frest l)
        rw [e1, e2, e3]
        rcases cut_byte hlt with hx | hx
        · exact ref10_tail_47 l w hl (cutAt l) rfl hlt hx (zread (fhead l)) (wrongI (frest l)) _ (by omega) (by rw [hr] at hwl ⊢; omega) rfl hR hW
        · exact ref10_tail_46 l w hl (cutAt l) rfl hlt hx (zread (fhead l)) (wrongI (frest l)) _ (by omega) (by rw [hr] at hwl ⊢; omega) rfl hR hW
    · obtain ⟨e1, e2, e3⟩ := fig_end_bad (show 0 ≤ zwrong (fhead l) by omega)
      rw [e1, e2, e3]
      rcases cut_byte hlt with hx | hx
      · exact ref10_head_47 l w hl (cutAt l) rfl hlt hx 0 (zwrong (fhead l)) (by omega) (fun w' => ref08_read_no _ w' hl1 (Lib.hid (show 0 ≤ zwrong (fhead l) by omega)))
      · exact ref10_head_46 l w hl (cutAt l) rfl hlt hx 0 (zwrong (fhead l)) (by omega) (fun w' => ref08_read_no _ w' hl1 (Lib.hid (show 0 ≤ zwrong (fhead l) by omega)))
end Go.Proofs.YtjeigdlhjghinaaGreatDoor
