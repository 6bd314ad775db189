/-
  Several texts of this claim as one, group 14.
-/
import Derived.Test.YtiblojmdgjnfbaaDoorG13
import Derived.Deep.RegionHeld3
import Derived.Test.YtiblojmdgjnfbaaDoorG9
import Derived.Test.YtiblojmdgjnfbaaDoorG7
import Derived.Shelf.Strconv.AppendInt10
import Derived.Lib.AppendIntMem
import Derived.Lib.AppendStr
import Derived.Laws.IdiomStrings
import Derived.Laws.Slices
import Derived.OwnWalk
import Derived.BigCall
import Derived.BigGuard
/-
  Package whole at this seat: Floor, of numbers with two signs, where nothing is left.
-/
namespace Go.Proofs.YtiblojmdgjnfbaaDoor
open Go.RowKit

set_option maxRecDepth 4096 in
set_option maxHeartbeats 3000000 in
theorem whole_floor_even (na : Bool) (a : Option Addr) (n cap : Nat) (la : List Nat) (nb : Bool) (b : Option Addr) (m cap' : Nat) (lb : List Nat) (w : World) (ha : Wd w a n cap la) (hb : Wd w b m cap' lb) (hn : n ≤ 100000) (hm : m ≤ 100000) (hv0 : val lb ≠ 0) (Hne : Hid (na ≠ nb)) (h0 : val la % val lb = 0) :
    Calls Tryd.prog 24 #[whV na a n cap, whV nb b m cap'] w (LstZZB (Int.fdiv (zval na (val la)) (zval nb (val lb))) (Int.fmod (zval na (val la)) (zval nb (val lb))) true w) := by
  have hB4 : Below w.heap.size w ((((w.alloc (.cells #[.bool na, .slice a n cap] 30)).alloc (.cells #[.bool nb, .slice b m cap'] 30)).alloc (.cells #[.bool false, .slice none 0 0] 30)).alloc (.cells #[.bool false, .slice none 0 0] 30)) := below_then (below_then (below_then (below_alloc _ _) (below_alloc _ _)) (below_alloc _ _)) (below_alloc _ _)
  have Ha := Lib.hid (ha.later hB4)
  have Hb := Lib.hid (hb.later hB4)
  have HB0 := Lib.hid hB4
  obtain ⟨p1, p2, p3, p4⟩ := boxes4_at w #[.bool na, .slice a n cap] #[.bool nb, .slice b m cap'] #[.bool false, .slice none 0 0] #[.bool false, .slice none 0 0] 30 30 30 30 ((((w.alloc (.cells #[.bool na, .slice a n cap] 30)).alloc (.cells #[.bool nb, .slice b m cap'] 30)).alloc (.cells #[.bool false, .slice none 0 0] 30)).alloc (.cells #[.bool false, .slice none 0 0] 30)) (Below.refl _ _)
  have HA0 := Lib.hid p1
  have HC0 := Lib.hid p2
  have HR0 := Lib.hid p3
  have HS0 := Lib.hid p4
  have hla := ha.trim_le
  have hlb := hb.trim_le
  have Hv0 := Lib.hid hv0
  have hq1 : (dg (val la / val lb)).length ≤ 100000 := Nat.le_trans (dg_length_mono (Nat.div_le_self _ _)) (by omega)
  have hr1 : (dg (val la % val lb)).length ≤ 100000 := Nat.le_trans (dg_length_mono (Nat.mod_le _ _)) (by omega)
  have Hq1 := Lib.hid hq1
  have Hr1 := Lib.hid hr1
  have Hlb := Lib.hid hlb
  clear ha hb hB4 p1 p2 p3 p4 hv0 hla hlb hq1 hr1
  have HV := Lib.hid (floor_even (u := val la) Hne.out Hv0.out h0)
  have HVq := Lib.hid HV.out.1
  have HVr := Lib.hid HV.out.2
  have Hz := Lib.hid (decide_eq_true h0)
  clear h0
  have hq : (na == nb) = false := by simp [Hne.out]
  go_enter Tryd.func24, Tryd.ntmps24
  unfold whV
  go_wp2_with fail
  refine (quot_div a n cap la b m cap' lb _ Ha.out Hb.out (by omega) (by omega) Hv0).mono ?_
  rintro e W ⟨qa, qn, qc, ra, rn, rc, rfl, h1, h2, b1⟩
  have hqn : qn ≤ 16777214 := by have h7 := h1.len; have h8 := Hq1.out; omega
  have hrn : rn ≤ 16777214 := by have h7 := h2.len; have h8 := Hr1.out; omega
  have HA1 := Lib.hid (blk_later HA0.out b1)
  have HB1 := Lib.hid (blk_later HC0.out b1)
  have HR1 := Lib.hid (blk_later HR0.out b1)
  have HS1 := Lib.hid (blk_later HS0.out b1)
  have HQ := Lib.hid h1
  have HP := Lib.hid h2
  have HB := Lib.hid (below_then HB0.out b1)
  have Hb1 := Lib.hid (Hb.out.later b1)
  clear h1 h2 b1 HA0 HC0 HR0 HS0 HB0 Ha Hb
  obtain ⟨s0, s1, s2, s3⟩ := four_cells HA1.out HB1.out
  go_wp2_with fail
  refine (natSaid.zero ra rn rc _ _ HP.out hrn).mono ?_
  rintro e W2 ⟨rfl, b⟩
  clear s0 s1 s2 s3
  replace HA1 := Lib.hid (blk_later HA1.out b)
  replace HB1 := Lib.hid (blk_later HB1.out b)
  replace HR1 := Lib.hid (blk_later HR1.out b)
  replace HS1 := Lib.hid (blk_later HS1.out b)
  replace HQ := Lib.hid (HQ.out.later b)
  replace HP := Lib.hid (HP.out.later b)
  replace Hb1 := Lib.hid (Hb1.out.later b)
  replace HB := Lib.hid (below_then HB.out b)
  clear b
  obtain ⟨s0, s1, s2, s3⟩ := four_cells HA1.out HB1.out
  rw [val_dg]
  rw [Hz.out]
  go_wp2
  have HAd : Hid (W2.drew.heap[w.heap.size]? = _) := Lib.hid HA1.out
  have HBd : Hid (W2.drew.heap[w.heap.size + 1]? = _) := Lib.hid HB1.out
  have HRd : Hid (W2.drew.heap[w.heap.size + 1 + 1]? = _) := Lib.hid HR1.out
  have HSd : Hid (W2.drew.heap[w.heap.size + 1 + 1 + 1]? = _) := Lib.hid HS1.out
  have Hd : Below W2.heap.size W2 W2.drew := (Below.refl _ _).drew
  have Sd := four_cells HAd.out HBd.out
  clear HA1 HB1 HR1 HS1
  go_region_held3 (fun w' => w'.cell? ⟨w.heap.size, 0, none⟩ = some (.bool na) ∧ w'.cell? ⟨w.heap.size, 1, none⟩ = some (.slice a n cap) ∧ w'.cell? ⟨w.heap.size + 1, 0, none⟩ = some (.bool nb) ∧ w'.cell? ⟨w.heap.size + 1, 1, none⟩ = some (.slice b m cap')) (first | with_reducible exact Sd | with_reducible exact Sq1 | with_reducible exact Sq2 | with_reducible exact Sq3.out | with_reducible exact Sq4.out)
    (first
    | (go_at_call 37; (first
      | (have qm := M1; (refine (whole_signed nb ra rn rc _ _ (HP.out.later (below_then Hd b5)) hrn).mono ?_); rintro e w6 ⟨a6, n6, c6, rfl, h6, b6⟩; have Sq2 := four_cells (blk_later hA5 b6) (blk_later hB5 b6); have Sq3 := Lib.hid (four_stored (g := w.heap.size + 1 + 1) (blk_later hA5 b6) (blk_later hB5 b6) (by omega) (by omega) (.bool (zneg (zval true (val la / val lb)))) (.slice a5 n5 c5)); have Sq4 := Lib.hid (four_stored (g := w.heap.size + 1 + 1 + 1) (blk_apart2 (blk_later hA5 b6) (show w.heap.size ≠ w.heap.size + 1 + 1 by omega) (.bool (zneg (zval true (val la / val lb)))) (.slice a5 n5 c5)) (blk_apart2 (blk_later hB5 b6) (show w.heap.size + 1 ≠ w.heap.size + 1 + 1 by omega) (.bool (zneg (zval true (val la / val lb)))) (.slice a5 n5 c5)) (by omega) (by omega) (.bool (zneg (zval nb (val la % val lb)))) (.slice a6 n6 c6)); have hRb := blk_later HRd.out (below_then b5 b6); have hSb := blk_later HSd.out (below_then b5 b6); have r0 := blk_cell hRb 0; have r1 := blk_cell hRb 1; have f0 := blk_free hRb 0; have f1 := blk_free hRb 1; have s0 := blk_cell hSb 0; have s1 := blk_cell hSb 1; have g0 := blk_free hSb 0; have g1 := blk_free hSb 1; simp only [List.getElem?_toArray, List.getElem?_cons_zero, List.getElem?_cons_succ] at r0 r1 s0 s1; unfold whV)
      | ((refine (whole_signed true qa qn qc _ _ (HQ.out.later Hd) hqn).mono ?_); rintro e w5 ⟨a5, n5, c5, rfl, h5, b5⟩; have M1 := True.intro; have hA5 := blk_later HAd.out b5; have hB5 := blk_later HBd.out b5; have Sq1 := four_cells hA5 hB5; unfold whV))))
  have hBe := Lib.hid (below_then HB.out (below_then Hd (below_then b5 b6)))
  have H5 := Lib.hid (h5.later b6)
  have H6 := Lib.hid h6
  have hRl := Lib.hid hRb
  have hSl := Lib.hid hSb
  clear hRb hSb h5 h6 b5 b6 Sd HQ HP HB hA5 hB5 HAd HBd HRd HSd M1 Hd
  rw [HVq.out, HVr.out]
  rw [HVq.out] at H5
  rw [HVr.out] at H6
  generalize Int.fdiv (zval na (val la)) (zval nb (val lb)) = zq at *
  generalize Int.fmod (zval na (val la)) (zval nb (val lb)) = zr at *
  have HN1 := Lib.hid (blk_apart2 hSl.out (show w.heap.size + 1 + 1 + 1 ≠ w.heap.size + 1 + 1 by omega) (.bool (zneg zq)) (.slice a5 n5 c5))
  have HG1 := Lib.hid (blk_apart2 (blk_set2 hRl.out (.bool (zneg zq)) (.slice a5 n5 c5)) (show w.heap.size + 1 + 1 ≠ w.heap.size + 1 + 1 + 1 by omega) (.bool (zneg zr)) (.slice a6 n6 c6))
  have HG2 := Lib.hid (blk_set2 HN1.out (.bool (zneg zr)) (.slice a6 n6 c6))
  have HL5 := Lib.hid ((H5.out.stored2 hRl.out (zneg zq) (.slice a5 n5 c5)).stored2 HN1.out (zneg zr) (.slice a6 n6 c6))
  have HL6 := Lib.hid ((H6.out.stored2 hRl.out (zneg zq) (.slice a5 n5 c5)).stored2 HN1.out (zneg zr) (.slice a6 n6 c6))
  have HBz := Lib.hid (below_set2 (below_set2 hBe.out (show w.heap.size ≤ w.heap.size + 1 + 1 by omega) (.bool (zneg zq)) (.slice a5 n5 c5)) (show w.heap.size ≤ w.heap.size + 1 + 1 + 1 by omega) (.bool (zneg zr)) (.slice a6 n6 c6))
  go_wp2
  refine bodyPost_ret (results_rows2_tmp Tryd.results24 _ _ (w.heap.size + 1 + 1) (w.heap.size + 1 + 1 + 1) 30 30 #[.bool (zneg zq), .slice a5 n5 c5] #[.bool (zneg zr), .slice a6 n6 c6] (0, 0) (0, 0) _ _ rfl HG1.out Tryd.underlying30 rfl (by kernel_rfl) rfl HG2.out Tryd.underlying30 rfl (by kernel_rfl)) rfl ?_
  exact ⟨a5, n5, c5, a6, n6, c6, rfl, HL5.out, HL6.out, HBz.out⟩
end Go.Proofs.YtiblojmdgjnfbaaDoor

/-
  Package whole at this seat: Floor, of numbers with two signs, where something is left.
-/
namespace Go.Proofs.YtiblojmdgjnfbaaDoor
open Go.RowKit

set_option maxRecDepth 4096 in
set_option maxHeartbeats 3000000 in
theorem whole_floor_down (na : Bool) (a : Option Addr) (n cap : Nat) (la : List Nat) (nb : Bool) (b : Option Addr) (m cap' : Nat) (lb : List Nat) (w : World) (ha : Wd w a n cap la) (hb : Wd w b m cap' lb) (hn : n ≤ 100000) (hm : m ≤ 100000) (hv0 : val lb ≠ 0) (Hne : Hid (na ≠ nb)) (h0 : val la % val lb ≠ 0) :
    Calls Tryd.prog 24 #[whV na a n cap, whV nb b m cap'] w (LstZZB (Int.fdiv (zval na (val la)) (zval nb (val lb))) (Int.fmod (zval na (val la)) (zval nb (val lb))) true w) := by
  have hB4 : Below w.heap.size w ((((w.alloc (.cells #[.bool na, .slice a n cap] 30)).alloc (.cells #[.bool nb, .slice b m cap'] 30)).alloc (.cells #[.bool false, .slice none 0 0] 30)).alloc (.cells #[.bool false, .slice none 0 0] 30)) := below_then (below_then (below_then (below_alloc _ _) (below_alloc _ _)) (below_alloc _ _)) (below_alloc _ _)
  have Ha := Lib.hid (ha.later hB4)
  have Hb := Lib.hid (hb.later hB4)
  have HB0 := Lib.hid hB4
  obtain ⟨p1, p2, p3, p4⟩ := boxes4_at w #[.bool na, .slice a n cap] #[.bool nb, .slice b m cap'] #[.bool false, .slice none 0 0] #[.bool false, .slice none 0 0] 30 30 30 30 ((((w.alloc (.cells #[.bool na, .slice a n cap] 30)).alloc (.cells #[.bool nb, .slice b m cap'] 30)).alloc (.cells #[.bool false, .slice none 0 0] 30)).alloc (.cells #[.bool false, .slice none 0 0] 30)) (Below.refl _ _)
  have HA0 := Lib.hid p1
  have HC0 := Lib.hid p2
  have HR0 := Lib.hid p3
  have HS0 := Lib.hid p4
  have hla := ha.trim_le
  have hlb := hb.trim_le
  have Hv0 := Lib.hid hv0
  have hq1 : (dg (val la / val lb)).length ≤ 100000 := Nat.le_trans (dg_length_mono (Nat.div_le_self _ _)) (by omega)
  have hr1 : (dg (val la % val lb)).length ≤ 100000 := Nat.le_trans (dg_length_mono (Nat.mod_le _ _)) (by omega)
  have Hq1 := Lib.hid hq1
  have Hr1 := Lib.hid hr1
  have Hlb := Lib.hid hlb
  clear ha hb hB4 p1 p2 p3 p4 hv0 hla hlb hq1 hr1
  have HV := Lib.hid (floor_down (u := val la) Hne.out Hv0.out h0)
  have HVq := Lib.hid HV.out.1
  have HVr := Lib.hid HV.out.2
  have Hz := Lib.hid (decide_eq_false h0)
  clear h0
  have hq : (na == nb) = false := by simp [Hne.out]
  go_enter Tryd.func24, Tryd.ntmps24
  unfold whV
  go_wp2_with fail
  refine (quot_div a n cap la b m cap' lb _ Ha.out Hb.out (by omega) (by omega) Hv0).mono ?_
  rintro e W ⟨qa, qn, qc, ra, rn, rc, rfl, h1, h2, b1⟩
  have hqn : qn ≤ 16777214 := by have h7 := h1.len; have h8 := Hq1.out; omega
  have hrn : rn ≤ 16777214 := by have h7 := h2.len; have h8 := Hr1.out; omega
  have HA1 := Lib.hid (blk_later HA0.out b1)
  have HB1 := Lib.hid (blk_later HC0.out b1)
  have HR1 := Lib.hid (blk_later HR0.out b1)
  have HS1 := Lib.hid (blk_later HS0.out b1)
  have HQ := Lib.hid h1
  have HP := Lib.hid h2
  have HB := Lib.hid (below_then HB0.out b1)
  have Hb1 := Lib.hid (Hb.out.later b1)
  clear h1 h2 b1 HA0 HC0 HR0 HS0 HB0 Ha Hb
  obtain ⟨s0, s1, s2, s3⟩ := four_cells HA1.out HB1.out
  go_wp2_with fail
  refine (natSaid.zero ra rn rc _ _ HP.out hrn).mono ?_
  rintro e W2 ⟨rfl, b⟩
  clear s0 s1 s2 s3
  replace HA1 := Lib.hid (blk_later HA1.out b)
  replace HB1 := Lib.hid (blk_later HB1.out b)
  replace HR1 := Lib.hid (blk_later HR1.out b)
  replace HS1 := Lib.hid (blk_later HS1.out b)
  replace HQ := Lib.hid (HQ.out.later b)
  replace HP := Lib.hid (HP.out.later b)
  replace Hb1 := Lib.hid (Hb1.out.later b)
  replace HB := Lib.hid (below_then HB.out b)
  clear b
  obtain ⟨s0, s1, s2, s3⟩ := four_cells HA1.out HB1.out
  rw [val_dg]
  rw [Hz.out]
  go_wp2_with fail
  refine (natSaid.of 1 _ (by omega)).mono ?_
  rintro e W3 ⟨oa, on, oc, rfl, ho, b⟩
  clear s0 s1 s2 s3
  replace HA1 := Lib.hid (blk_later HA1.out b)
  replace HB1 := Lib.hid (blk_later HB1.out b)
  replace HR1 := Lib.hid (blk_later HR1.out b)
  replace HS1 := Lib.hid (blk_later HS1.out b)
  replace HQ := Lib.hid (HQ.out.later b)
  replace HP := Lib.hid (HP.out.later b)
  replace Hb1 := Lib.hid (Hb1.out.later b)
  replace HB := Lib.hid (below_then HB.out b)
  clear b
  obtain ⟨s0, s1, s2, s3⟩ := four_cells HA1.out HB1.out
  have hon : on ≤ 1 := by rw [← ho.len]; exact dg_length_le (by decide)
  have HO := Lib.hid ho
  have hva : Hid (vals [dg (val la / val lb), dg 1] = val la / val lb + 1) := Lib.hid (by simp [vals, val_dg])
  clear ho
  go_wp2_with fail
  refine (natSaid.add _ _ _ _ _ (Wds.lit2 W3 22 HQ.out HO.out) (by omega) (by have h7 := Hq1.out; have h8 := HO.out.len; simp only [words]; omega)).mono ?_
  rintro e W4 ⟨pa, pn, pc, rfl, hp, b4⟩
  have b := below_then (below_alloc W3 _) b4
  clear s0 s1 s2 s3
  replace HA1 := Lib.hid (blk_later HA1.out b)
  replace HB1 := Lib.hid (blk_later HB1.out b)
  replace HR1 := Lib.hid (blk_later HR1.out b)
  replace HS1 := Lib.hid (blk_later HS1.out b)
  replace HP := Lib.hid (HP.out.later b)
  replace Hb1 := Lib.hid (Hb1.out.later b)
  replace HB := Lib.hid (below_then HB.out b)
  clear b b4 HQ
  rw [hva.out] at hp
  have HQ := Lib.hid hp
  have hpn : pn ≤ 16777214 := by have h7 := hp.len; have h8 := Hq1.out; have h9 := dg_add_length (val la / val lb) 1; have h10 : (dg 1).length ≤ 1 := dg_length_le (by decide); omega
  clear hp hqn
  have hle : Hid (val (dg (val la % val lb)) ≤ val lb) := Lib.hid (by rw [val_dg]; exact Nat.le_of_lt (Nat.mod_lt _ (Nat.pos_of_ne_zero Hv0.out)))
  obtain ⟨s0, s1, s2, s3⟩ := four_cells HA1.out HB1.out
  go_wp2_with fail
  refine (natSaid.sub_yes _ _ _ _ _ _ _ _ _ Hb1.out HP.out (by omega) hrn hle).mono ?_
  rintro e W5 ⟨ta, tn, tc, rfl, ht, b⟩
  clear s0 s1 s2 s3
  replace HA1 := Lib.hid (blk_later HA1.out b)
  replace HB1 := Lib.hid (blk_later HB1.out b)
  replace HR1 := Lib.hid (blk_later HR1.out b)
  replace HS1 := Lib.hid (blk_later HS1.out b)
  replace HQ := Lib.hid (HQ.out.later b)
  replace HB := Lib.hid (below_then HB.out b)
  rw [val_dg] at ht
  have htn : tn ≤ 16777214 := by have h7 := ht.len; have h8 := Hlb.out; have h9 := dg_length_mono (Nat.sub_le (val lb) (val la % val lb)); omega
  clear b HP
  have HP := Lib.hid ht
  clear ht hle
  obtain ⟨s0, s1, s2, s3⟩ := four_cells HA1.out HB1.out
  go_wp2
  have HAd : Hid (W5.drew.heap[w.heap.size]? = _) := Lib.hid HA1.out
  have HBd : Hid (W5.drew.heap[w.heap.size + 1]? = _) := Lib.hid HB1.out
  have HRd : Hid (W5.drew.heap[w.heap.size + 1 + 1]? = _) := Lib.hid HR1.out
  have HSd : Hid (W5.drew.heap[w.heap.size + 1 + 1 + 1]? = _) := Lib.hid HS1.out
  have Hd : Below W5.heap.size W5 W5.drew := (Below.refl _ _).drew
  have Sd := four_cells HAd.out HBd.out
  clear HA1 HB1 HR1 HS1
  go_region_held3 (fun w' => w'.cell? ⟨w.heap.size, 0, none⟩ = some (.bool na) ∧ w'.cell? ⟨w.heap.size, 1, none⟩ = some (.slice a n cap) ∧ w'.cell? ⟨w.heap.size + 1, 0, none⟩ = some (.bool nb) ∧ w'.cell? ⟨w.heap.size + 1, 1, none⟩ = some (.slice b m cap')) (first | with_reducible exact Sd | with_reducible exact Sq1 | with_reducible exact Sq2 | with_reducible exact Sq3.out | with_reducible exact Sq4.out)
    (first
    | (go_at_call 37; (first
      | (have qm := M1; (refine (whole_signed nb ta tn tc _ _ (HP.out.later (below_then Hd b5)) htn).mono ?_); rintro e w6 ⟨a6, n6, c6, rfl, h6, b6⟩; have Sq2 := four_cells (blk_later hA5 b6) (blk_later hB5 b6); have Sq3 := Lib.hid (four_stored (g := w.heap.size + 1 + 1) (blk_later hA5 b6) (blk_later hB5 b6) (by omega) (by omega) (.bool (zneg (zval true (val la / val lb + 1)))) (.slice a5 n5 c5)); have Sq4 := Lib.hid (four_stored (g := w.heap.size + 1 + 1 + 1) (blk_apart2 (blk_later hA5 b6) (show w.heap.size ≠ w.heap.size + 1 + 1 by omega) (.bool (zneg (zval true (val la / val lb + 1)))) (.slice a5 n5 c5)) (blk_apart2 (blk_later hB5 b6) (show w.heap.size + 1 ≠ w.heap.size + 1 + 1 by omega) (.bool (zneg (zval true (val la / val lb + 1)))) (.slice a5 n5 c5)) (by omega) (by omega) (.bool (zneg (zval nb (val lb - val la % val lb)))) (.slice a6 n6 c6)); have hRb := blk_later HRd.out (below_then b5 b6); have hSb := blk_later HSd.out (below_then b5 b6); have r0 := blk_cell hRb 0; have r1 := blk_cell hRb 1; have f0 := blk_free hRb 0; have f1 := blk_free hRb 1; have s0 := blk_cell hSb 0; have s1 := blk_cell hSb 1; have g0 := blk_free hSb 0; have g1 := blk_free hSb 1; simp only [List.getElem?_toArray, List.getElem?_cons_zero, List.getElem?_cons_succ] at r0 r1 s0 s1; unfold whV)
      | ((refine (whole_signed true pa pn pc _ _ (HQ.out.later Hd) hpn).mono ?_); rintro e w5 ⟨a5, n5, c5, rfl, h5, b5⟩; have M1 := True.intro; have hA5 := blk_later HAd.out b5; have hB5 := blk_later HBd.out b5; have Sq1 := four_cells hA5 hB5; unfold whV))))
  have hBe := Lib.hid (below_then HB.out (below_then Hd (below_then b5 b6)))
  have H5 := Lib.hid (h5.later b6)
  have H6 := Lib.hid h6
  have hRl := Lib.hid hRb
  have hSl := Lib.hid hSb
  clear hRb hSb h5 h6 b5 b6 Sd HQ HP HB hA5 hB5 HAd HBd HRd HSd M1 Hd
  rw [HVq.out, HVr.out]
  rw [HVq.out] at H5
  rw [HVr.out] at H6
  generalize Int.fdiv (zval na (val la)) (zval nb (val lb)) = zq at *
  generalize Int.fmod (zval na (val la)) (zval nb (val lb)) = zr at *
  have HN1 := Lib.hid (blk_apart2 hSl.out (show w.heap.size + 1 + 1 + 1 ≠ w.heap.size + 1 + 1 by omega) (.bool (zneg zq)) (.slice a5 n5 c5))
  have HG1 := Lib.hid (blk_apart2 (blk_set2 hRl.out (.bool (zneg zq)) (.slice a5 n5 c5)) (show w.heap.size + 1 + 1 ≠ w.heap.size + 1 + 1 + 1 by omega) (.bool (zneg zr)) (.slice a6 n6 c6))
  have HG2 := Lib.hid (blk_set2 HN1.out (.bool (zneg zr)) (.slice a6 n6 c6))
  have HL5 := Lib.hid ((H5.out.stored2 hRl.out (zneg zq) (.slice a5 n5 c5)).stored2 HN1.out (zneg zr) (.slice a6 n6 c6))
  have HL6 := Lib.hid ((H6.out.stored2 hRl.out (zneg zq) (.slice a5 n5 c5)).stored2 HN1.out (zneg zr) (.slice a6 n6 c6))
  have HBz := Lib.hid (below_set2 (below_set2 hBe.out (show w.heap.size ≤ w.heap.size + 1 + 1 by omega) (.bool (zneg zq)) (.slice a5 n5 c5)) (show w.heap.size ≤ w.heap.size + 1 + 1 + 1 by omega) (.bool (zneg zr)) (.slice a6 n6 c6))
  go_wp2
  refine bodyPost_ret (results_rows2_tmp Tryd.results24 _ _ (w.heap.size + 1 + 1) (w.heap.size + 1 + 1 + 1) 30 30 #[.bool (zneg zq), .slice a5 n5 c5] #[.bool (zneg zr), .slice a6 n6 c6] (0, 0) (0, 0) _ _ rfl HG1.out Tryd.underlying30 rfl (by kernel_rfl) rfl HG2.out Tryd.underlying30 rfl (by kernel_rfl)) rfl ?_
  exact ⟨a5, n5, c5, a6, n6, c6, rfl, HL5.out, HL6.out, HBz.out⟩
end Go.Proofs.YtiblojmdgjnfbaaDoor

/-
  Package whole at this seat: what strings.CutPrefix does with a minus ahead.
-/
namespace Go.Proofs.YtiblojmdgjnfbaaDoor
open Go.RowKit

/-- Whether a minus stands ahead. -/
def minusAhead : List UInt8 → Bool
  | [] => false
  | x :: _ => decide (x.toNat = 45)
theorem bs_first (x : UInt8) (r : List UInt8) : (bs (x :: r)).extract 0 1 = bs [x] := by
  unfold bs; rw [ByteArray.extract_mk]; simp
set_option maxRecDepth 4096 in
theorem lite_HasPrefix_nil (w : World) : Calls Tryd.prog 86 #[.string (bs []), .string (bs [45])] w (fun e w' => e = .returned (.bool false) ∧ w' = w) := by
  have h0 := bs_size []
  have h1 := bs_size [45]
  go_enter Tryd.func86, Tryd.ntmps86
  go_wp2
  go_ret
  exact ⟨rfl, rfl⟩
set_option maxRecDepth 4096 in
theorem lite_HasPrefix_cons (x : UInt8) (r : List UInt8) (w : World) (hl : r.length ≤ 1000) : Calls Tryd.prog 86 #[.string (bs (x :: r)), .string (bs [45])] w (fun e w' => e = .returned (.bool (decide (x.toNat = 45))) ∧ w' = w) := by
  have h0 := bs_size (x :: r)
  have h1 := bs_size [45]
  have hx := bs_first x r
  simp only [List.length_cons, List.length_nil] at h0 h1
  go_enter Tryd.func86, Tryd.ntmps86
  go_wp2
  go_ret
  refine ⟨?_, rfl⟩
  show Ending.returned (.bool ((bs [x]).toList == (bs [45]).toList)) = _
  rw [bs_list, bs_list]
  by_cases h : x.toNat = 45
  · rw [show x = 45 from UInt8.toNat_inj.1 h]; rfl
  · rw [decide_eq_false h, show ([x] == [45]) = false from by simp; intro e; exact h (by rw [e]; rfl)]
theorem lite_HasPrefix (l : List UInt8) (w : World) (hl : l.length ≤ 1000) : Calls Tryd.prog 86 #[.string (bs l), .string (bs [45])] w (fun e w' => e = .returned (.bool (minusAhead l)) ∧ w' = w) := by
  cases l with
  | nil => exact lite_HasPrefix_nil w
  | cons x r => exact lite_HasPrefix_cons x r w (by simp at hl; omega)
/-- What stands behind a minus. -/
def cutMinus (l : List UInt8) : List UInt8 := if minusAhead l = true then l.drop 1 else l
theorem cut_len (l : List UInt8) : (cutMinus l).length ≤ l.length ∧ l.length ≤ (cutMinus l).length + 1 := by
  unfold cutMinus; split <;> simp <;> omega
theorem cut_ok {l : List UInt8} (h : wrongI (cutMinus l) < 0) : zval (minusAhead l) (readV (cutMinus l)) = zread l := by
  cases l with
  | nil => exact absurd h (by decide)
  | cons x r =>
    unfold cutMinus minusAhead zread at *
    by_cases hx : x.toNat = 45
    · simp only [hx, decide_true, if_true, List.drop_succ_cons, List.drop_zero] at *
    · simp only [hx, decide_false, if_false, Bool.false_eq_true] at *
theorem cut_bad {l : List UInt8} (h : 0 ≤ wrongI (cutMinus l)) : wrongI (cutMinus l) + ((l.length : Int) - ((cutMinus l).length : Int)) = zwrong l := by
  cases l with
  | nil => rfl
  | cons x r =>
    unfold cutMinus minusAhead zwrong at *
    by_cases hx : x.toNat = 45
    · simp only [hx, decide_true, if_true, List.drop_succ_cons, List.drop_zero, List.length_cons] at *
      rw [if_neg (by omega)]
      omega
    · simp only [hx, decide_false, if_false, Bool.false_eq_true] at *
      omega
theorem cut_wrong (l : List UInt8) : zwrong l < 0 ↔ wrongI (cutMinus l) < 0 := by
  cases l with
  | nil => decide
  | cons x r =>
    unfold cutMinus minusAhead zwrong
    by_cases hx : x.toNat = 45
    · simp only [hx, decide_true, if_true, List.drop_succ_cons, List.drop_zero]
      split <;> omega
    · simp only [hx, decide_false, if_false, Bool.false_eq_true]
theorem bs_behind (x : UInt8) (r : List UInt8) : (bs (x :: r)).extract 1 (r.length + 1) = bs r := bs_rest x r
set_option maxRecDepth 4096 in
theorem lite_CutPrefix (l : List UInt8) (w : World) (hl : l.length ≤ 1000) : Calls Tryd.prog 71 #[.string (bs l), .string (bs [45])] w (fun e w' => e = .returned (.tuple #[.string (bs (cutMinus l)), .bool (minusAhead l)]) ∧ w' = w) := by
  go_enter Tryd.func71, Tryd.ntmps71
  go_wp2_with fail
  refine (lite_HasPrefix l _ hl).mono ?_
  rintro e w' ⟨rfl, rfl⟩
  by_cases hm : minusAhead l = true
  · cases l with
    | nil => exact absurd hm (by decide)
    | cons x r =>
      have HC : Hid (cutMinus (x :: r) = r) := Lib.hid (by unfold cutMinus; rw [if_pos hm]; rfl)
      have Hm := Lib.hid hm
      have h0 := bs_size (x :: r)
      have h1 := bs_size [45]
      have hx := bs_rest x r
      simp only [List.length_cons, List.length_nil] at h0 h1 hl
      rw [hm]
      clear hm
      go_wp2
      go_ret2
      exact ⟨by rw [HC.out, Hm.out]; rfl, rfl⟩
  · have hm : minusAhead l = false := by simpa using hm
    have HC : Hid (cutMinus l = l) := Lib.hid (by unfold cutMinus; rw [hm]; rfl)
    have Hm := Lib.hid hm
    rw [hm]
    clear hm
    go_wp2
    go_ret2
    exact ⟨by rw [HC.out, Hm.out]; rfl, rfl⟩
theorem strings_CutPrefix (l : List UInt8) (w : World) (hl : l.length ≤ 1000) : Calls Tryd.prog 51 #[.string (bs l), .string (bs [45])] w (fun e w' => e = .returned (.tuple #[.string (bs (cutMinus l)), .bool (minusAhead l)]) ∧ w' = w) := by
  go_enter Tryd.func51, Tryd.ntmps51
  go_wp2_with fail
  refine (lite_CutPrefix l _ hl).mono ?_
  rintro e w' ⟨rfl, rfl⟩
  go_wp2
  go_ret2
  exact ⟨rfl, rfl⟩
end Go.Proofs.YtiblojmdgjnfbaaDoor

/-
  Plain mathematics: decimal digits in groups of nine. Nothing of the program.
-/
namespace Go.Proofs.YtiblojmdgjnfbaaDoor

/-- The last k digits of a number. -/
def lowd : Nat → Nat → List UInt8
  | 0, _ => []
  | k + 1, n => lowd k (n / 10) ++ [dig (n % 10)]
theorem lowd_length (k n : Nat) : (lowd k n).length = k := by
  induction k generalizing n with
  | zero => rfl
  | succ k ih => rw [lowd, List.length_append, ih]; rfl
theorem txt_split (k n : Nat) (h : 10 ^ k ≤ n) : txt n = txt (n / 10 ^ k) ++ lowd k n := by
  induction k generalizing n with
  | zero => rw [lowd, List.append_nil, Nat.pow_zero, Nat.div_one]
  | succ k ih =>
    have hp : 0 < 10 ^ k := Nat.pow_pos (by decide)
    rw [Nat.pow_succ] at h
    rw [txt_big (by omega), ih (n / 10) (by omega), lowd, Nat.div_div_eq_div_mul, Nat.pow_succ, Nat.mul_comm 10, List.append_assoc]
theorem lowd_mod (k n : Nat) : lowd k (n % 10 ^ k) = lowd k n := by
  induction k generalizing n with
  | zero => rfl
  | succ k ih =>
    have h1 : n % 10 ^ (k + 1) / 10 = n / 10 % 10 ^ k := by
      rw [Nat.pow_succ, Nat.mul_comm, Nat.mod_mul_right_div_self]
    have h2 : n % 10 ^ (k + 1) % 10 = n % 10 := by rw [Nat.pow_succ]; exact Nat.mod_mod_of_dvd _ (Nat.dvd_mul_left _ _)
    rw [lowd, lowd, h1, h2, ih]
/-- A number in groups of nine digits, the lowest ones first. -/
def bil (n : Nat) : List Nat := if h : n < 1000000000 then [n] else (n % 1000000000) :: bil (n / 1000000000)
termination_by n
decreasing_by omega
theorem bil_small {n : Nat} (h : n < 1000000000) : bil n = [n] := by rw [bil]; simp [h]
theorem bil_big {n : Nat} (h : 1000000000 ≤ n) : bil n = (n % 1000000000) :: bil (n / 1000000000) := by rw [bil]; simp [show ¬ n < 1000000000 by omega]
def tx : List Nat → List UInt8
  | [] => []
  | [g] => txt g
  | g :: h :: r => tx (h :: r) ++ lowd 9 g
theorem bil_ne (n : Nat) : ∃ g r, bil n = g :: r := by
  by_cases h : n < 1000000000
  · exact ⟨_, _, bil_small h⟩
  · exact ⟨_, _, bil_big (by omega)⟩
theorem tx_cons (g : Nat) (r : List Nat) (h : r ≠ []) : tx (g :: r) = tx r ++ lowd 9 g := by
  cases r with
  | nil => exact absurd rfl h
  | cons x r => rfl
theorem tx_bil (n : Nat) : tx (bil n) = txt n := by
  induction n using Nat.strongRecOn with
  | _ n ih =>
    by_cases h : n < 1000000000
    · rw [bil_small h]; rfl
    · obtain ⟨g, r, hg⟩ := bil_ne (n / 1000000000)
      rw [bil_big (by omega), tx_cons _ _ (by rw [hg]; simp), ih _ (by omega), txt_split 9 n (by omega), show (10 : Nat) ^ 9 = 1000000000 from by decide]
      have := lowd_mod 9 n
      rw [show (10 : Nat) ^ 9 = 1000000000 from by decide] at this
      rw [this]
theorem bil_lt (n : Nat) : ∀ g ∈ bil n, g < 1000000000 := by
  induction n using Nat.strongRecOn with
  | _ n ih =>
    by_cases h : n < 1000000000
    · rw [bil_small h]; intro g hg; simp at hg; omega
    · rw [bil_big (by omega)]
      intro g hg
      rcases List.mem_cons.1 hg with h1 | h1
      · omega
      · exact ih _ (by omega) g h1
theorem okw_bil (n : Nat) : okw (bil n) := fun g hg => by have := bil_lt n g hg; omega
theorem atw_bil (n k : Nat) : atw (bil n) k < 1000000000 := by
  by_cases h : k < (bil n).length
  · unfold atw
    rw [List.getD_eq_getElem?_getD, List.getElem?_eq_getElem h]
    exact bil_lt n _ (List.getElem_mem h)
  · unfold atw
    rw [List.getD_eq_getElem?_getD, List.getElem?_eq_none (by omega)]
    decide
theorem bil_length_le {n k : Nat} (h : n < 2 ^ k) : (bil n).length ≤ k + 1 := by
  induction k generalizing n with
  | zero => rw [bil_small (by simp at h; omega)]; simp
  | succ k ih =>
    by_cases h1 : n < 1000000000
    · rw [bil_small h1]; simp
    · rw [bil_big (by omega), List.length_cons]
      have := ih (n := n / 1000000000) (by rw [Nat.pow_succ] at h; omega)
      omega
/-- Nine digits, noughts ahead and all. -/
theorem pad_txt {g : Nat} (h : g < 1000000000) : txt (1000000000 + g) = 49 :: lowd 9 g := by
  have h1 := lowd_mod 9 (1000000000 + g)
  have hp : (10 : Nat) ^ 9 = 1000000000 := by decide
  rw [txt_split 9 _ (by omega), ← h1, hp, show (1000000000 + g) / 1000000000 = 1 by omega, show (1000000000 + g) % 1000000000 = g by omega, txt_small (by decide)]
  rfl
/-- Groups are written from the highest one down: s is the text of those from place k on. -/
def TxAt (L : List Nat) (k : Nat) (s : List UInt8) : Prop := k < L.length ∧ s = tx (L.drop k)
theorem tx_start {L : List Nat} {m : Nat} (h : L.length = m + 1) : TxAt L m (txt (atw L m)) := by
  refine ⟨by omega, ?_⟩
  rw [List.drop_eq_getElem_cons (show m < L.length by omega), List.drop_of_length_le (show L.length ≤ m + 1 by omega)]
  unfold atw
  rw [List.getD_eq_getElem?_getD, List.getElem?_eq_getElem (show m < L.length by omega)]
  rfl
theorem tx_step {L : List Nat} {k : Nat} {s : List UInt8} (h : TxAt L (k + 1) s) : TxAt L k (s ++ lowd 9 (atw L k)) := by
  obtain ⟨h1, h2⟩ := h
  refine ⟨by omega, ?_⟩
  have h3 : L.drop (k + 1) ≠ [] := by
    intro h4
    have := congrArg List.length h4
    rw [List.length_drop] at this
    simp at this
    omega
  rw [List.drop_eq_getElem_cons (show k < L.length by omega), tx_cons _ _ h3, ← h2]
  unfold atw
  rw [List.getD_eq_getElem?_getD, List.getElem?_eq_getElem (show k < L.length by omega)]
  rfl
theorem tx_end {n : Nat} {s : List UInt8} (h : TxAt (bil n) 0 s) : s = txt n := by
  rw [h.2, List.drop_zero, tx_bil]
theorem tx_length {n k : Nat} {s : List UInt8} (h : TxAt (bil n) k s) : s.length ≤ (txt n).length := by
  have key : ∀ (k : Nat) (s : List UInt8), TxAt (bil n) k s → s.length ≤ (txt n).length := by
    intro k
    induction k with
    | zero => intro s h; rw [tx_end h]; exact Nat.le_refl _
    | succ k ih =>
      intro s h
      have := ih _ (tx_step h)
      rw [List.length_append] at this
      omega
  exact key k s h
end Go.Proofs.YtiblojmdgjnfbaaDoor

/-
  Numerals by the library (strconv.AppendUint, FormatUint at base 10) at this seat, out of the shelf's contracts.
-/
namespace Go.Proofs.YtiblojmdgjnfbaaDoor
open Go.RowKit

theorem dec_txt (u : Nat) : Lib.decDigits u = txt u := by
  induction u using Nat.strongRecOn with
  | _ u ih =>
    by_cases h : u < 10
    · rw [Lib.decDigits, dif_pos h, txt_small h]; rfl
    · rw [Lib.decDigits, dif_neg h, txt_big (by omega), ih _ (by omega)]; rfl
def dec_lays_ren : Go.Shelf.Ren := ⟨fun | 129 => 102 | 283 => 94 | 284 => 95 | 285 => 96 | 286 => 97 | 288 => 87 | 317 => 101 | 318 => 103 | 319 => 104 | 320 => 105 | 337 => 106 | 338 => 107 | n => n, fun | 0 => 0 | 3 => 3 | 4 => 4 | 5 => 5 | 9 => 9 | 20 => 20 | 37 => 97 | 46 => 91 | 51 => 72 | 53 => 67 | 171 => 112 | 173 => 115 | 212 => 118 | 213 => 119 | 232 => 121 | 233 => 122 | n => n, fun | 17 => 0 | 18 => 1 | 19 => 2 | n => n⟩
theorem dec_lays : Go.Proofs.LaysM.n288 Tryd.prog dec_lays_ren := {
  mixed := by kernel_rfl
  f129 := Tryd.func102.trans (congrArg some (by kernel_rfl))
  f283 := Tryd.func94.trans (congrArg some (by kernel_rfl))
  f284 := Tryd.func95.trans (congrArg some (by kernel_rfl))
  f285 := Tryd.func96.trans (congrArg some (by kernel_rfl))
  f286 := Tryd.func97.trans (congrArg some (by kernel_rfl))
  f288 := Tryd.func87.trans (congrArg some (by kernel_rfl))
  f317 := Tryd.func101.trans (congrArg some (by kernel_rfl))
  f318 := Tryd.func103.trans (congrArg some (by kernel_rfl))
  f319 := Tryd.func104.trans (congrArg some (by kernel_rfl))
  f320 := Tryd.func105.trans (congrArg some (by kernel_rfl))
  f337 := Tryd.func106.trans (congrArg some (by kernel_rfl))
  f338 := Tryd.func107.trans (congrArg some (by kernel_rfl))
  t0 := Tryd.underlying0
  a0 := Tryd.isAgg0
  z0 := Tryd.sizeOf0
  v0 := Tryd.zeroValue0
  t3 := Tryd.underlying3
  a3 := Tryd.isAgg3
  z3 := Tryd.sizeOf3
  v3 := Tryd.zeroValue3
  t4 := Tryd.underlying4
  a4 := Tryd.isAgg4
  z4 := Tryd.sizeOf4
  v4 := Tryd.zeroValue4
  t5 := Tryd.underlying5
  a5 := Tryd.isAgg5
  z5 := Tryd.sizeOf5
  v5 := Tryd.zeroValue5
  t9 := Tryd.underlying9
  a9 := Tryd.isAgg9
  z9 := Tryd.sizeOf9
  v9 := Tryd.zeroValue9
  t20 := Tryd.underlying20
  a20 := Tryd.isAgg20
  z20 := Tryd.sizeOf20
  v20 := Tryd.zeroValue20
  t37 := Tryd.underlying97
  a37 := Tryd.isAgg97
  z37 := Tryd.sizeOf97
  v37 := Tryd.zeroValue97
  t46 := Tryd.underlying91
  a46 := Tryd.isAgg91
  z46 := Tryd.sizeOf91
  v46 := Tryd.zeroValue91
  t51 := Tryd.underlying72
  a51 := Tryd.isAgg72
  z51 := Tryd.sizeOf72
  v51 := Tryd.zeroValue72
  t53 := Tryd.underlying67
  a53 := Tryd.isAgg67
  z53 := Tryd.sizeOf67
  v53 := Tryd.zeroValue67
  t171 := Tryd.underlying112
  a171 := Tryd.isAgg112
  z171 := Tryd.sizeOf112
  v171 := Tryd.zeroValue112
  t173 := Tryd.underlying115
  a173 := Tryd.isAgg115
  z173 := Tryd.sizeOf115
  v173 := Tryd.zeroValue115
  t212 := Tryd.underlying118
  a212 := Tryd.isAgg118
  z212 := Tryd.sizeOf118
  v212 := Tryd.zeroValue118
  t213 := Tryd.underlying119
  a213 := Tryd.isAgg119
  z213 := Tryd.sizeOf119
  t232 := Tryd.underlying121
  a232 := Tryd.isAgg121
  z232 := Tryd.sizeOf121
  v232 := Tryd.zeroValue121
  t233 := Tryd.underlying122
  a233 := Tryd.isAgg122
  z233 := Tryd.sizeOf122
  v233 := Tryd.zeroValue122
  g17 := by kernel_rfl
  g18 := by kernel_rfl
  g19 := by kernel_rfl
  i0 := by kernel_rfl
  i3 := by kernel_rfl
  i4 := by kernel_rfl
  i5 := by kernel_rfl
  i9 := by kernel_rfl
  i20 := by kernel_rfl
  i37 := by kernel_rfl
  i46 := by kernel_rfl
  i51 := by kernel_rfl
  i53 := by kernel_rfl
  i171 := by kernel_rfl
  i173 := by kernel_rfl
  i212 := by kernel_rfl
  i232 := by kernel_rfl
  i233 := by kernel_rfl
  m17 := by kernel_rfl
  m18 := by kernel_rfl
  m19 := by kernel_rfl }
theorem Dec10.tab {w : World} (h : Dec10 w) : ∀ {name}, Tryd.prog.globalNamed name = some (dec_lays_ren.g 17) → Lib.TabIs Tryd.prog w name .u64 Lib.pow10Tab := fun hn => h _ hn
/-- A number's digits behind what a row of the call's own holds. -/
theorem dec_append0 (B n u : Nat) (hu64 : u < 18446744073709551616) (sv : Value) (xs : List Value) (w : World) (hown : w.ownsRow B 5 1 sv n xs) (hB : B ≤ w.heap.size) (hn : n ≤ 1000000) (hT : Dec10 w) :
    Calls Tryd.prog 87 #[sv, .int .u64 u, .int .i64 10] w fun e w' => ∃ v', e = .returned v' ∧ w'.ownsRow B 5 1 v' (n + (txt u).length) (xs ++ Lib.byteCells (txt u)) ∧ Below B w w' := by
  have h := Any.internal_strconv_AppendUint_10 dec_lays B n u hu64 sv xs w hown hB (by omega) (hT.tab dec_lays.m17)
  rw [dec_txt] at h
  exact h.mono fun e w' ⟨v', he, ho, hb, _⟩ => ⟨v', he, ho, hb⟩
end Go.Proofs.YtiblojmdgjnfbaaDoor

/-
  The public strconv.AppendUint and FormatUint at base 10.
-/
namespace Go.Proofs.YtiblojmdgjnfbaaDoor
open Go.RowKit

set_option maxRecDepth 4096 in
theorem dec_append (B n u : Nat) (hu64 : u < 18446744073709551616) (sv : Value) (xs : List Value) (w : World) (hown : w.ownsRow B 5 1 sv n xs) (hB : B ≤ w.heap.size) (hn : n ≤ 1000000) (hT : Hid (Dec10 w)) :
    Calls Tryd.prog 75 #[sv, .int .u64 u, .int .i64 10] w fun e w' => ∃ v', e = .returned v' ∧ w'.ownsRow B 5 1 v' (n + (txt u).length) (xs ++ Lib.byteCells (txt u)) ∧ Below B w w' := by
  have Ho := Lib.hid hown
  clear hown
  go_enter Tryd.func75, Tryd.ntmps75
  go_wp2_with (go_at_call 87; refine (dec_append0 B n u hu64 sv xs _ Ho.out hB hn hT.out).mono ?_; rintro e w1 ⟨v1, rfl, h1, b1⟩; refine Hid.out ?_)
  refine Lib.hid ?_
  go_wp2
  go_ret
  exact ⟨v1, rfl, h1, b1⟩
set_option maxRecDepth 100000 in
set_option maxHeartbeats 6400000 in
/-- From 100 on: the numeral is laid in an array of the call's own and read as a text. -/
theorem dec_format0 (u : Nat) (hu : 100 ≤ u) (hu64 : u < 18446744073709551616) (w : World) (hT : Hid (Dec10 w)) :
    Calls Tryd.prog 98 #[.int .u64 u, .int .i64 10] w (Gives (.string (bs (txt u))) w) := by
  have hu1 : 1 ≤ u := by omega
  have hnd20 : Lib.nDigits u ≤ 20 := by have := Lib.numDigits_eq u hu1 hu64; split at this <;> omega
  have hal : Tryd.prog.arrayLen 112 = 24 := by kernel_rfl
  have hel : Tryd.prog.elem 112 = 5 := by kernel_rfl
  have hsl : ∀ W, (Instr.sliceAt 112 (.pointer (some ⟨w.heap.size, 0, none⟩)) none (some (.int .i64 (Lib.nDigits u : Int))) none).run Tryd.prog W = .ok (.slice (some ⟨w.heap.size, 0, none⟩) (Lib.nDigits u) 24) W := fun W => by
    rw [run_sliceAt_array_h W 112 ⟨w.heap.size, 0, none⟩ Tryd.underlying112 .i64 (Lib.nDigits u : Int) (by omega) (by rw [hal]; omega), hel, hal]
    go_simp
  have hH0 := Lib.holds_zero0 w 112 (Lib.nDigits u) (by omega)
  have hfmt := Any.internal_strconv_formatBase10 (P := Tryd.prog) (ρ := dec_lays_ren) { dec_lays with } w.heap.size 0 24 u (Array.replicate (Lib.nDigits u) 0) (w.alloc (.cells Lib.zeros24 112)) hH0 (by rw [Array.size_replicate]; exact Lib.lt_pow_nDigits u) hu64 (by rw [Array.size_replicate]; omega)
  rw [Array.size_replicate] at hfmt
  have HH0 := Lib.hid hH0
  have Hfmt := Lib.hid hfmt
  have iu : (100 : Int) ≤ (u : Int) := by omega
  clear hH0 hal hel hfmt
  go_enter Tryd.func98, Tryd.ntmps98
  go_wp2_with (first
    | (go_at_call 95; refine (Any.internal_strconv_numDigits (P := Tryd.prog) (ρ := dec_lays_ren) { dec_lays with } u hu1 hu64 _ (Lib.tabIs_alloc (hT.out.tab dec_lays.m17) _)).mono ?_; rintro e w' ⟨rfl, rfl⟩)
    | (go_at_call 96; refine Hfmt.out.mono ?_; rintro e w' ⟨rfl, k, v', dk, rfl, hF⟩; refine Hid.out ?_))
  refine Lib.hid ?_
  have hcv : (convert 97 9 (.slice (some ⟨w.heap.size, 0, none⟩) (Lib.nDigits u) 24)).run Tryd.prog ((Sort.putRow (fun (b : UInt8) => Value.int .u8 (b.toNat : Int)) (w.alloc (.cells Lib.zeros24 112)) w.heap.size 0 dk).drewN k) = .ok (.string (bs (txt u))) ((Sort.putRow (fun (b : UInt8) => Value.int .u8 (b.toNat : Int)) (w.alloc (.cells Lib.zeros24 112)) w.heap.size 0 dk).drewN k) := by
    have h := run_convert_bytes_back (P := Tryd.prog) ((Sort.putRow (fun (b : UInt8) => Value.int .u8 (b.toNat : Int)) (w.alloc (.cells Lib.zeros24 112)) w.heap.size 0 dk).drewN k) 97 9 5 ⟨w.heap.size, 0, none⟩ 24 (Lib.decDigits u) Tryd.underlying97 Tryd.underlying5 Tryd.underlying9 (fun j hj => by
      rw [Lib.row_is_numeral hF j hj, Lib.add_plain, World.cell?_drewN]
      exact Sort.cell?_putRow (fun (b : UInt8) => Value.int .u8 (b.toNat : Int)) _ w.heap.size 0 _ dk HH0.out (by rw [hF.size, Array.size_replicate]) j (by rw [hF.size]; rw [Lib.decDigits_length] at hj; exact hj))
    rw [Lib.decDigits_length, dec_txt] at h
    exact h
  obtain ⟨os, eo⟩ := Lib.fin_at w (.cells Lib.zeros24 112) dk k 0
  have hnx : Below w.heap.size w ((Sort.putRow (fun (b : UInt8) => Value.int .u8 (b.toNat : Int)) (w.alloc (.cells Lib.zeros24 112)) w.heap.size 0 dk).drewN k) := by rw [eo]; exact Lib.below_grow w.heap.size w (Nat.le_refl _) k os
  generalize (Sort.putRow (fun (b : UInt8) => Value.int .u8 (b.toNat : Int)) (w.alloc (.cells Lib.zeros24 112)) w.heap.size 0 dk).drewN k = W2 at hcv hnx ⊢
  clear eo HH0 Hfmt
  go_wp2
  go_ret
  exact ⟨rfl, hnx⟩
theorem dec_format (u : Nat) (hu : 100 ≤ u) (hu64 : u < 18446744073709551616) (w : World) (hT : Hid (Dec10 w)) :
    Calls Tryd.prog 88 #[.int .u64 u, .int .i64 10] w (Gives (.string (bs (txt u))) w) := by
  go_enter Tryd.func88, Tryd.ntmps88
  go_wp2_with (go_at_call 98; refine (dec_format0 u hu hu64 _ hT).mono ?_; rintro e w1 ⟨rfl, b1⟩)
  go_ret
  exact ⟨rfl, b1⟩
end Go.Proofs.YtiblojmdgjnfbaaDoor
