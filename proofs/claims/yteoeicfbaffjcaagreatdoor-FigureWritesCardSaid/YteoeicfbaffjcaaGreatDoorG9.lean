/-
  Several texts of this claim as one, group 9.
-/
import Derived.Test.YteoeicfbaffjcaaGreatDoorG8
import Derived.Deep.RegionHeld3
import Derived.Test.YteoeicfbaffjcaaGreatDoorG6
import Derived.Test.YteoeicfbaffjcaaGreatDoorG4
import Derived.Shelf.Strconv.AppendInt10
import Derived.Lib.AppendIntMem
import Derived.Lib.AppendStr
import Derived.Laws.IdiomStrings
import Derived.Laws.Slices
import Derived.OwnWalk
import Derived.BigCall
import Derived.BigGuard
import Derived.Test.YteoeicfbaffjcaaGreatDoorG2
import Derived.Test.YteoeicfbaffjcaaGreatDoorG7
import Derived.Test.YteoeicfbaffjcaaGreatDoorG5
import Derived.Deep.AppendSrc
import Derived.Deep.RegionWith
/-
  Package whole at this seat: Floor, of numbers with two signs, where something is left.
-/
namespace Go.Proofs.YteoeicfbaffjcaaGreatDoor
open Go.RowKit

set_option maxRecDepth 4096 in
set_option maxHeartbeats 3000000 in
theorem whole_floor_down (na : Bool) (a : Option Addr) (n cap : Nat) (la : List Nat) (nb : Bool) (b : Option Addr) (m cap' : Nat) (lb : List Nat) (w : World) (ha : Wd w a n cap la) (hb : Wd w b m cap' lb) (hn : n ≤ 100000) (hm : m ≤ 100000) (hv0 : val lb ≠ 0) (Hne : Hid (na ≠ nb)) (h0 : val la % val lb ≠ 0) :
    Calls Tryz.prog 117 #[whV na a n cap, whV nb b m cap'] w (LstZZB (Int.fdiv (zval na (val la)) (zval nb (val lb))) (Int.fmod (zval na (val la)) (zval nb (val lb))) true w) := by
  have hB4 : Below w.heap.size w ((((w.alloc (.cells #[.bool na, .slice a n cap] 28)).alloc (.cells #[.bool nb, .slice b m cap'] 28)).alloc (.cells #[.bool false, .slice none 0 0] 28)).alloc (.cells #[.bool false, .slice none 0 0] 28)) := below_then (below_then (below_then (below_alloc _ _) (below_alloc _ _)) (below_alloc _ _)) (below_alloc _ _)
  have Ha := Lib.hid (ha.later hB4)
  have Hb := Lib.hid (hb.later hB4)
  have HB0 := Lib.hid hB4
  obtain ⟨p1, p2, p3, p4⟩ := boxes4_at w #[.bool na, .slice a n cap] #[.bool nb, .slice b m cap'] #[.bool false, .slice none 0 0] #[.bool false, .slice none 0 0] 28 28 28 28 ((((w.alloc (.cells #[.bool na, .slice a n cap] 28)).alloc (.cells #[.bool nb, .slice b m cap'] 28)).alloc (.cells #[.bool false, .slice none 0 0] 28)).alloc (.cells #[.bool false, .slice none 0 0] 28)) (Below.refl _ _)
  have HA0 := Lib.hid p1
  have HC0 := Lib.hid p2
  have HR0 := Lib.hid p3
  have HS0 := Lib.hid p4
  have hla := ha.trim_le
  have hlb := hb.trim_le
  have Hv0 := Lib.hid hv0
  have hq1 : (dg (val la / val lb)).length ≤ 100000 := Nat.le_trans (dg_length_mono (Nat.div_le_self _ _)) (by omega)
  have hr1 : (dg (val la % val lb)).length ≤ 100000 := Nat.le_trans (dg_length_mono (Nat.mod_le _ _)) (by omega)
  have Hq1 := Lib.hid hq1
  have Hr1 := Lib.hid hr1
  have Hlb := Lib.hid hlb
  clear ha hb hB4 p1 p2 p3 p4 hv0 hla hlb hq1 hr1
  have HV := Lib.hid (floor_down (u := val la) Hne.out Hv0.out h0)
  have HVq := Lib.hid HV.out.1
  have HVr := Lib.hid HV.out.2
  have Hz := Lib.hid (decide_eq_false h0)
  clear h0
  have hq : (na == nb) = false := by simp [Hne.out]
  go_enter Tryz.func117, Tryz.ntmps117
  unfold whV
  go_wp2_with fail
  refine (quot_div a n cap la b m cap' lb _ Ha.out Hb.out (by omega) (by omega) Hv0).mono ?_
  rintro e W ⟨qa, qn, qc, ra, rn, rc, rfl, h1, h2, b1⟩
  have hqn : qn ≤ 16777214 := by have h7 := h1.len; have h8 := Hq1.out; omega
  have hrn : rn ≤ 16777214 := by have h7 := h2.len; have h8 := Hr1.out; omega
  have HA1 := Lib.hid (blk_later HA0.out b1)
  have HB1 := Lib.hid (blk_later HC0.out b1)
  have HR1 := Lib.hid (blk_later HR0.out b1)
  have HS1 := Lib.hid (blk_later HS0.out b1)
  have HQ := Lib.hid h1
  have HP := Lib.hid h2
  have HB := Lib.hid (below_then HB0.out b1)
  have Hb1 := Lib.hid (Hb.out.later b1)
  clear h1 h2 b1 HA0 HC0 HR0 HS0 HB0 Ha Hb
  obtain ⟨s0, s1, s2, s3⟩ := four_cells HA1.out HB1.out
  go_wp2_with fail
  refine (natSaid.zero ra rn rc _ _ HP.out hrn).mono ?_
  rintro e W2 ⟨rfl, b⟩
  clear s0 s1 s2 s3
  replace HA1 := Lib.hid (blk_later HA1.out b)
  replace HB1 := Lib.hid (blk_later HB1.out b)
  replace HR1 := Lib.hid (blk_later HR1.out b)
  replace HS1 := Lib.hid (blk_later HS1.out b)
  replace HQ := Lib.hid (HQ.out.later b)
  replace HP := Lib.hid (HP.out.later b)
  replace Hb1 := Lib.hid (Hb1.out.later b)
  replace HB := Lib.hid (below_then HB.out b)
  clear b
  obtain ⟨s0, s1, s2, s3⟩ := four_cells HA1.out HB1.out
  rw [val_dg]
  rw [Hz.out]
  go_wp2_with fail
  refine (natSaid.of 1 _ (by omega)).mono ?_
  rintro e W3 ⟨oa, on, oc, rfl, ho, b⟩
  clear s0 s1 s2 s3
  replace HA1 := Lib.hid (blk_later HA1.out b)
  replace HB1 := Lib.hid (blk_later HB1.out b)
  replace HR1 := Lib.hid (blk_later HR1.out b)
  replace HS1 := Lib.hid (blk_later HS1.out b)
  replace HQ := Lib.hid (HQ.out.later b)
  replace HP := Lib.hid (HP.out.later b)
  replace Hb1 := Lib.hid (Hb1.out.later b)
  replace HB := Lib.hid (below_then HB.out b)
  clear b
  obtain ⟨s0, s1, s2, s3⟩ := four_cells HA1.out HB1.out
  have hon : on ≤ 1 := by rw [← ho.len]; exact dg_length_le (by decide)
  have HO := Lib.hid ho
  have hva : Hid (vals [dg (val la / val lb), dg 1] = val la / val lb + 1) := Lib.hid (by simp [vals, val_dg])
  clear ho
  go_wp2_with fail
  refine (natSaid.add _ _ _ _ _ (Wds.lit2 W3 22 HQ.out HO.out) (by omega) (by have h7 := Hq1.out; have h8 := HO.out.len; simp only [words]; omega)).mono ?_
  rintro e W4 ⟨pa, pn, pc, rfl, hp, b4⟩
  have b := below_then (below_alloc W3 _) b4
  clear s0 s1 s2 s3
  replace HA1 := Lib.hid (blk_later HA1.out b)
  replace HB1 := Lib.hid (blk_later HB1.out b)
  replace HR1 := Lib.hid (blk_later HR1.out b)
  replace HS1 := Lib.hid (blk_later HS1.out b)
  replace HP := Lib.hid (HP.out.later b)
  replace Hb1 := Lib.hid (Hb1.out.later b)
  replace HB := Lib.hid (below_then HB.out b)
  clear b b4 HQ
  rw [hva.out] at hp
  have HQ := Lib.hid hp
  have hpn : pn ≤ 16777214 := by have h7 := hp.len; have h8 := Hq1.out; have h9 := dg_add_length (val la / val lb) 1; have h10 : (dg 1).length ≤ 1 := dg_length_le (by decide); omega
  clear hp hqn
  have hle : Hid (val (dg (val la % val lb)) ≤ val lb) := Lib.hid (by rw [val_dg]; exact Nat.le_of_lt (Nat.mod_lt _ (Nat.pos_of_ne_zero Hv0.out)))
  obtain ⟨s0, s1, s2, s3⟩ := four_cells HA1.out HB1.out
  go_wp2_with fail
  refine (natSaid.sub_yes _ _ _ _ _ _ _ _ _ Hb1.out HP.out (by omega) hrn hle).mono ?_
  rintro e W5 ⟨ta, tn, tc, rfl, ht, b⟩
  clear s0 s1 s2 s3
  replace HA1 := Lib.hid (blk_later HA1.out b)
  replace HB1 := Lib.hid (blk_later HB1.out b)
  replace HR1 := Lib.hid (blk_later HR1.out b)
  replace HS1 := Lib.hid (blk_later HS1.out b)
  replace HQ := Lib.hid (HQ.out.later b)
  replace HB := Lib.hid (below_then HB.out b)
  rw [val_dg] at ht
  have htn : tn ≤ 16777214 := by have h7 := ht.len; have h8 := Hlb.out; have h9 := dg_length_mono (Nat.sub_le (val lb) (val la % val lb)); omega
  clear b HP
  have HP := Lib.hid ht
  clear ht hle
  obtain ⟨s0, s1, s2, s3⟩ := four_cells HA1.out HB1.out
  go_wp2
  have HAd : Hid (W5.drew.heap[w.heap.size]? = _) := Lib.hid HA1.out
  have HBd : Hid (W5.drew.heap[w.heap.size + 1]? = _) := Lib.hid HB1.out
  have HRd : Hid (W5.drew.heap[w.heap.size + 1 + 1]? = _) := Lib.hid HR1.out
  have HSd : Hid (W5.drew.heap[w.heap.size + 1 + 1 + 1]? = _) := Lib.hid HS1.out
  have Hd : Below W5.heap.size W5 W5.drew := (Below.refl _ _).drew
  have Sd := four_cells HAd.out HBd.out
  clear HA1 HB1 HR1 HS1
  go_region_held3 (fun w' => w'.cell? ⟨w.heap.size, 0, none⟩ = some (.bool na) ∧ w'.cell? ⟨w.heap.size, 1, none⟩ = some (.slice a n cap) ∧ w'.cell? ⟨w.heap.size + 1, 0, none⟩ = some (.bool nb) ∧ w'.cell? ⟨w.heap.size + 1, 1, none⟩ = some (.slice b m cap')) (first | with_reducible exact Sd | with_reducible exact Sq1 | with_reducible exact Sq2 | with_reducible exact Sq3.out | with_reducible exact Sq4.out)
    (first
    | (go_at_call 93; (first
      | (have qm := M1; (refine (whole_signed nb ta tn tc _ _ (HP.out.later (below_then Hd b5)) htn).mono ?_); rintro e w6 ⟨a6, n6, c6, rfl, h6, b6⟩; have Sq2 := four_cells (blk_later hA5 b6) (blk_later hB5 b6); have Sq3 := Lib.hid (four_stored (g := w.heap.size + 1 + 1) (blk_later hA5 b6) (blk_later hB5 b6) (by omega) (by omega) (.bool (zneg (zval true (val la / val lb + 1)))) (.slice a5 n5 c5)); have Sq4 := Lib.hid (four_stored (g := w.heap.size + 1 + 1 + 1) (blk_apart2 (blk_later hA5 b6) (show w.heap.size ≠ w.heap.size + 1 + 1 by omega) (.bool (zneg (zval true (val la / val lb + 1)))) (.slice a5 n5 c5)) (blk_apart2 (blk_later hB5 b6) (show w.heap.size + 1 ≠ w.heap.size + 1 + 1 by omega) (.bool (zneg (zval true (val la / val lb + 1)))) (.slice a5 n5 c5)) (by omega) (by omega) (.bool (zneg (zval nb (val lb - val la % val lb)))) (.slice a6 n6 c6)); have hRb := blk_later HRd.out (below_then b5 b6); have hSb := blk_later HSd.out (below_then b5 b6); have r0 := blk_cell hRb 0; have r1 := blk_cell hRb 1; have f0 := blk_free hRb 0; have f1 := blk_free hRb 1; have s0 := blk_cell hSb 0; have s1 := blk_cell hSb 1; have g0 := blk_free hSb 0; have g1 := blk_free hSb 1; simp only [List.getElem?_toArray, List.getElem?_cons_zero, List.getElem?_cons_succ] at r0 r1 s0 s1; unfold whV)
      | ((refine (whole_signed true pa pn pc _ _ (HQ.out.later Hd) hpn).mono ?_); rintro e w5 ⟨a5, n5, c5, rfl, h5, b5⟩; have M1 := True.intro; have hA5 := blk_later HAd.out b5; have hB5 := blk_later HBd.out b5; have Sq1 := four_cells hA5 hB5; unfold whV))))
  have hBe := Lib.hid (below_then HB.out (below_then Hd (below_then b5 b6)))
  have H5 := Lib.hid (h5.later b6)
  have H6 := Lib.hid h6
  have hRl := Lib.hid hRb
  have hSl := Lib.hid hSb
  clear hRb hSb h5 h6 b5 b6 Sd HQ HP HB hA5 hB5 HAd HBd HRd HSd M1 Hd
  rw [HVq.out, HVr.out]
  rw [HVq.out] at H5
  rw [HVr.out] at H6
  generalize Int.fdiv (zval na (val la)) (zval nb (val lb)) = zq at *
  generalize Int.fmod (zval na (val la)) (zval nb (val lb)) = zr at *
  have HN1 := Lib.hid (blk_apart2 hSl.out (show w.heap.size + 1 + 1 + 1 ≠ w.heap.size + 1 + 1 by omega) (.bool (zneg zq)) (.slice a5 n5 c5))
  have HG1 := Lib.hid (blk_apart2 (blk_set2 hRl.out (.bool (zneg zq)) (.slice a5 n5 c5)) (show w.heap.size + 1 + 1 ≠ w.heap.size + 1 + 1 + 1 by omega) (.bool (zneg zr)) (.slice a6 n6 c6))
  have HG2 := Lib.hid (blk_set2 HN1.out (.bool (zneg zr)) (.slice a6 n6 c6))
  have HL5 := Lib.hid ((H5.out.stored2 hRl.out (zneg zq) (.slice a5 n5 c5)).stored2 HN1.out (zneg zr) (.slice a6 n6 c6))
  have HL6 := Lib.hid ((H6.out.stored2 hRl.out (zneg zq) (.slice a5 n5 c5)).stored2 HN1.out (zneg zr) (.slice a6 n6 c6))
  have HBz := Lib.hid (below_set2 (below_set2 hBe.out (show w.heap.size ≤ w.heap.size + 1 + 1 by omega) (.bool (zneg zq)) (.slice a5 n5 c5)) (show w.heap.size ≤ w.heap.size + 1 + 1 + 1 by omega) (.bool (zneg zr)) (.slice a6 n6 c6))
  go_wp2
  refine bodyPost_ret (results_rows2_tmp Tryz.results117 _ _ (w.heap.size + 1 + 1) (w.heap.size + 1 + 1 + 1) 28 28 #[.bool (zneg zq), .slice a5 n5 c5] #[.bool (zneg zr), .slice a6 n6 c6] (0, 0) (0, 0) _ _ rfl HG1.out Tryz.underlying28 rfl (by kernel_rfl) rfl HG2.out Tryz.underlying28 rfl (by kernel_rfl)) rfl ?_
  exact ⟨a5, n5, c5, a6, n6, c6, rfl, HL5.out, HL6.out, HBz.out⟩
end Go.Proofs.YteoeicfbaffjcaaGreatDoor

/-
  Package whole at this seat: what strings.CutPrefix does with a minus ahead.
-/
namespace Go.Proofs.YteoeicfbaffjcaaGreatDoor
open Go.RowKit

/-- Whether a minus stands ahead. -/
def minusAhead : List UInt8 → Bool
  | [] => false
  | x :: _ => decide (x.toNat = 45)
theorem bs_first (x : UInt8) (r : List UInt8) : (bs (x :: r)).extract 0 1 = bs [x] := by
  unfold bs; rw [ByteArray.extract_mk]; simp
set_option maxRecDepth 4096 in
theorem lite_HasPrefix_nil (w : World) : Calls Tryz.prog 96 #[.string (bs []), .string (bs [45])] w (fun e w' => e = .returned (.bool false) ∧ w' = w) := by
  have h0 := bs_size []
  have h1 := bs_size [45]
  go_enter Tryz.func96, Tryz.ntmps96
  go_wp2
  go_ret
  exact ⟨rfl, rfl⟩
set_option maxRecDepth 4096 in
theorem lite_HasPrefix_cons (x : UInt8) (r : List UInt8) (w : World) (hl : r.length ≤ 1000) : Calls Tryz.prog 96 #[.string (bs (x :: r)), .string (bs [45])] w (fun e w' => e = .returned (.bool (decide (x.toNat = 45))) ∧ w' = w) := by
  have h0 := bs_size (x :: r)
  have h1 := bs_size [45]
  have hx := bs_first x r
  simp only [List.length_cons, List.length_nil] at h0 h1
  go_enter Tryz.func96, Tryz.ntmps96
  go_wp2
  go_ret
  refine ⟨?_, rfl⟩
  show Ending.returned (.bool ((bs [x]).toList == (bs [45]).toList)) = _
  rw [bs_list, bs_list]
  by_cases h : x.toNat = 45
  · rw [show x = 45 from UInt8.toNat_inj.1 h]; rfl
  · rw [decide_eq_false h, show ([x] == [45]) = false from by simp; intro e; exact h (by rw [e]; rfl)]
theorem lite_HasPrefix (l : List UInt8) (w : World) (hl : l.length ≤ 1000) : Calls Tryz.prog 96 #[.string (bs l), .string (bs [45])] w (fun e w' => e = .returned (.bool (minusAhead l)) ∧ w' = w) := by
  cases l with
  | nil => exact lite_HasPrefix_nil w
  | cons x r => exact lite_HasPrefix_cons x r w (by simp at hl; omega)
/-- What stands behind a minus. -/
def cutMinus (l : List UInt8) : List UInt8 := if minusAhead l = true then l.drop 1 else l
theorem cut_len (l : List UInt8) : (cutMinus l).length ≤ l.length ∧ l.length ≤ (cutMinus l).length + 1 := by
  unfold cutMinus; split <;> simp <;> omega
theorem cut_ok {l : List UInt8} (h : wrongI (cutMinus l) < 0) : zval (minusAhead l) (readV (cutMinus l)) = zread l := by
  cases l with
  | nil => exact absurd h (by decide)
  | cons x r =>
    unfold cutMinus minusAhead zread at *
    by_cases hx : x.toNat = 45
    · simp only [hx, decide_true, if_true, List.drop_succ_cons, List.drop_zero] at *
    · simp only [hx, decide_false, if_false, Bool.false_eq_true] at *
theorem cut_bad {l : List UInt8} (h : 0 ≤ wrongI (cutMinus l)) : wrongI (cutMinus l) + ((l.length : Int) - ((cutMinus l).length : Int)) = zwrong l := by
  cases l with
  | nil => rfl
  | cons x r =>
    unfold cutMinus minusAhead zwrong at *
    by_cases hx : x.toNat = 45
    · simp only [hx, decide_true, if_true, List.drop_succ_cons, List.drop_zero, List.length_cons] at *
      rw [if_neg (by omega)]
      omega
    · simp only [hx, decide_false, if_false, Bool.false_eq_true] at *
      omega
theorem cut_wrong (l : List UInt8) : zwrong l < 0 ↔ wrongI (cutMinus l) < 0 := by
  cases l with
  | nil => decide
  | cons x r =>
    unfold cutMinus minusAhead zwrong
    by_cases hx : x.toNat = 45
    · simp only [hx, decide_true, if_true, List.drop_succ_cons, List.drop_zero]
      split <;> omega
    · simp only [hx, decide_false, if_false, Bool.false_eq_true]
theorem bs_behind (x : UInt8) (r : List UInt8) : (bs (x :: r)).extract 1 (r.length + 1) = bs r := bs_rest x r
set_option maxRecDepth 4096 in
theorem lite_CutPrefix (l : List UInt8) (w : World) (hl : l.length ≤ 1000) : Calls Tryz.prog 130 #[.string (bs l), .string (bs [45])] w (fun e w' => e = .returned (.tuple #[.string (bs (cutMinus l)), .bool (minusAhead l)]) ∧ w' = w) := by
  go_enter Tryz.func130, Tryz.ntmps130
  go_wp2_with fail
  refine (lite_HasPrefix l _ hl).mono ?_
  rintro e w' ⟨rfl, rfl⟩
  by_cases hm : minusAhead l = true
  · cases l with
    | nil => exact absurd hm (by decide)
    | cons x r =>
      have HC : Hid (cutMinus (x :: r) = r) := Lib.hid (by unfold cutMinus; rw [if_pos hm]; rfl)
      have Hm := Lib.hid hm
      have h0 := bs_size (x :: r)
      have h1 := bs_size [45]
      have hx := bs_rest x r
      simp only [List.length_cons, List.length_nil] at h0 h1 hl
      rw [hm]
      clear hm
      go_wp2
      go_ret2
      exact ⟨by rw [HC.out, Hm.out]; rfl, rfl⟩
  · have hm : minusAhead l = false := by simpa using hm
    have HC : Hid (cutMinus l = l) := Lib.hid (by unfold cutMinus; rw [hm]; rfl)
    have Hm := Lib.hid hm
    rw [hm]
    clear hm
    go_wp2
    go_ret2
    exact ⟨by rw [HC.out, Hm.out]; rfl, rfl⟩
theorem strings_CutPrefix (l : List UInt8) (w : World) (hl : l.length ≤ 1000) : Calls Tryz.prog 92 #[.string (bs l), .string (bs [45])] w (fun e w' => e = .returned (.tuple #[.string (bs (cutMinus l)), .bool (minusAhead l)]) ∧ w' = w) := by
  go_enter Tryz.func92, Tryz.ntmps92
  go_wp2_with fail
  refine (lite_CutPrefix l _ hl).mono ?_
  rintro e w' ⟨rfl, rfl⟩
  go_wp2
  go_ret2
  exact ⟨rfl, rfl⟩
end Go.Proofs.YteoeicfbaffjcaaGreatDoor

/-
  Plain mathematics: decimal digits in groups of nine. Nothing of the program.
-/
namespace Go.Proofs.YteoeicfbaffjcaaGreatDoor

/-- The last k digits of a number. -/
def lowd : Nat → Nat → List UInt8
  | 0, _ => []
  | k + 1, n => lowd k (n / 10) ++ [dig (n % 10)]
theorem lowd_length (k n : Nat) : (lowd k n).length = k := by
  induction k generalizing n with
  | zero => rfl
  | succ k ih => rw [lowd, List.length_append, ih]; rfl
theorem txt_split (k n : Nat) (h : 10 ^ k ≤ n) : txt n = txt (n / 10 ^ k) ++ lowd k n := by
  induction k generalizing n with
  | zero => rw [lowd, List.append_nil, Nat.pow_zero, Nat.div_one]
  | succ k ih =>
    have hp : 0 < 10 ^ k := Nat.pow_pos (by decide)
    rw [Nat.pow_succ] at h
    rw [txt_big (by omega), ih (n / 10) (by omega), lowd, Nat.div_div_eq_div_mul, Nat.pow_succ, Nat.mul_comm 10, List.append_assoc]
theorem lowd_mod (k n : Nat) : lowd k (n % 10 ^ k) = lowd k n := by
  induction k generalizing n with
  | zero => rfl
  | succ k ih =>
    have h1 : n % 10 ^ (k + 1) / 10 = n / 10 % 10 ^ k := by
      rw [Nat.pow_succ, Nat.mul_comm, Nat.mod_mul_right_div_self]
    have h2 : n % 10 ^ (k + 1) % 10 = n % 10 := by rw [Nat.pow_succ]; exact Nat.mod_mod_of_dvd _ (Nat.dvd_mul_left _ _)
    rw [lowd, lowd, h1, h2, ih]
/-- A number in groups of nine digits, the lowest ones first. -/
def bil (n : Nat) : List Nat := if h : n < 1000000000 then [n] else (n % 1000000000) :: bil (n / 1000000000)
termination_by n
decreasing_by omega
theorem bil_small {n : Nat} (h : n < 1000000000) : bil n = [n] := by rw [bil]; simp [h]
theorem bil_big {n : Nat} (h : 1000000000 ≤ n) : bil n = (n % 1000000000) :: bil (n / 1000000000) := by rw [bil]; simp [show ¬ n < 1000000000 by omega]
def tx : List Nat → List UInt8
  | [] => []
  | [g] => txt g
  | g :: h :: r => tx (h :: r) ++ lowd 9 g
theorem bil_ne (n : Nat) : ∃ g r, bil n = g :: r := by
  by_cases h : n < 1000000000
  · exact ⟨_, _, bil_small h⟩
  · exact ⟨_, _, bil_big (by omega)⟩
theorem tx_cons (g : Nat) (r : List Nat) (h : r ≠ []) : tx (g :: r) = tx r ++ lowd 9 g := by
  cases r with
  | nil => exact absurd rfl h
  | cons x r => rfl
theorem tx_bil (n : Nat) : tx (bil n) = txt n := by
  induction n using Nat.strongRecOn with
  | _ n ih =>
    by_cases h : n < 1000000000
    · rw [bil_small h]; rfl
    · obtain ⟨g, r, hg⟩ := bil_ne (n / 1000000000)
      rw [bil_big (by omega), tx_cons _ _ (by rw [hg]; simp), ih _ (by omega), txt_split 9 n (by omega), show (10 : Nat) ^ 9 = 1000000000 from by decide]
      have := lowd_mod 9 n
      rw [show (10 : Nat) ^ 9 = 1000000000 from by decide] at this
      rw [this]
theorem bil_lt (n : Nat) : ∀ g ∈ bil n, g < 1000000000 := by
  induction n using Nat.strongRecOn with
  | _ n ih =>
    by_cases h : n < 1000000000
    · rw [bil_small h]; intro g hg; simp at hg; omega
    · rw [bil_big (by omega)]
      intro g hg
      rcases List.mem_cons.1 hg with h1 | h1
      · omega
      · exact ih _ (by omega) g h1
theorem okw_bil (n : Nat) : okw (bil n) := fun g hg => by have := bil_lt n g hg; omega
theorem atw_bil (n k : Nat) : atw (bil n) k < 1000000000 := by
  by_cases h : k < (bil n).length
  · unfold atw
    rw [List.getD_eq_getElem?_getD, List.getElem?_eq_getElem h]
    exact bil_lt n _ (List.getElem_mem h)
  · unfold atw
    rw [List.getD_eq_getElem?_getD, List.getElem?_eq_none (by omega)]
    decide
theorem bil_length_le {n k : Nat} (h : n < 2 ^ k) : (bil n).length ≤ k + 1 := by
  induction k generalizing n with
  | zero => rw [bil_small (by simp at h; omega)]; simp
  | succ k ih =>
    by_cases h1 : n < 1000000000
    · rw [bil_small h1]; simp
    · rw [bil_big (by omega), List.length_cons]
      have := ih (n := n / 1000000000) (by rw [Nat.pow_succ] at h; omega)
      omega
/-- Nine digits, noughts ahead and all. -/
theorem pad_txt {g : Nat} (h : g < 1000000000) : txt (1000000000 + g) = 49 :: lowd 9 g := by
  have h1 := lowd_mod 9 (1000000000 + g)
  have hp : (10 : Nat) ^ 9 = 1000000000 := by decide
  rw [txt_split 9 _ (by omega), ← h1, hp, show (1000000000 + g) / 1000000000 = 1 by omega, show (1000000000 + g) % 1000000000 = g by omega, txt_small (by decide)]
  rfl
/-- Groups are written from the highest one down: s is the text of those from place k on. -/
def TxAt (L : List Nat) (k : Nat) (s : List UInt8) : Prop := k < L.length ∧ s = tx (L.drop k)
theorem tx_start {L : List Nat} {m : Nat} (h : L.length = m + 1) : TxAt L m (txt (atw L m)) := by
  refine ⟨by omega, ?_⟩
  rw [List.drop_eq_getElem_cons (show m < L.length by omega), List.drop_of_length_le (show L.length ≤ m + 1 by omega)]
  unfold atw
  rw [List.getD_eq_getElem?_getD, List.getElem?_eq_getElem (show m < L.length by omega)]
  rfl
theorem tx_step {L : List Nat} {k : Nat} {s : List UInt8} (h : TxAt L (k + 1) s) : TxAt L k (s ++ lowd 9 (atw L k)) := by
  obtain ⟨h1, h2⟩ := h
  refine ⟨by omega, ?_⟩
  have h3 : L.drop (k + 1) ≠ [] := by
    intro h4
    have := congrArg List.length h4
    rw [List.length_drop] at this
    simp at this
    omega
  rw [List.drop_eq_getElem_cons (show k < L.length by omega), tx_cons _ _ h3, ← h2]
  unfold atw
  rw [List.getD_eq_getElem?_getD, List.getElem?_eq_getElem (show k < L.length by omega)]
  rfl
theorem tx_end {n : Nat} {s : List UInt8} (h : TxAt (bil n) 0 s) : s = txt n := by
  rw [h.2, List.drop_zero, tx_bil]
theorem tx_length {n k : Nat} {s : List UInt8} (h : TxAt (bil n) k s) : s.length ≤ (txt n).length := by
  have key : ∀ (k : Nat) (s : List UInt8), TxAt (bil n) k s → s.length ≤ (txt n).length := by
    intro k
    induction k with
    | zero => intro s h; rw [tx_end h]; exact Nat.le_refl _
    | succ k ih =>
      intro s h
      have := ih _ (tx_step h)
      rw [List.length_append] at this
      omega
  exact key k s h
end Go.Proofs.YteoeicfbaffjcaaGreatDoor

/-
  Numerals by the library (strconv.AppendUint, FormatUint at base 10) at this seat, out of the shelf's contracts.
-/
namespace Go.Proofs.YteoeicfbaffjcaaGreatDoor
open Go.RowKit

theorem dec_txt (u : Nat) : Lib.decDigits u = txt u := by
  induction u using Nat.strongRecOn with
  | _ u ih =>
    by_cases h : u < 10
    · rw [Lib.decDigits, dif_pos h, txt_small h]; rfl
    · rw [Lib.decDigits, dif_neg h, txt_big (by omega), ih _ (by omega)]; rfl
def dec_lays_ren : Go.Shelf.Ren := ⟨fun | 129 => 160 | 283 => 140 | 284 => 141 | 285 => 142 | 286 => 143 | 288 => 115 | 317 => 159 | 318 => 161 | 319 => 162 | 320 => 163 | 337 => 172 | 338 => 173 | n => n, fun | 0 => 0 | 3 => 3 | 4 => 4 | 5 => 5 | 9 => 9 | 20 => 20 | 37 => 98 | 46 => 97 | 51 => 54 | 53 => 60 | 171 => 163 | 173 => 166 | 212 => 177 | 213 => 178 | 232 => 186 | 233 => 187 | n => n, fun | 17 => 1 | 18 => 2 | 19 => 3 | n => n⟩
theorem dec_lays : Go.Proofs.LaysM.n288 Tryz.prog dec_lays_ren := {
  mixed := by kernel_rfl
  f129 := Tryz.func160.trans (congrArg some (by kernel_rfl))
  f283 := Tryz.func140.trans (congrArg some (by kernel_rfl))
  f284 := Tryz.func141.trans (congrArg some (by kernel_rfl))
  f285 := Tryz.func142.trans (congrArg some (by kernel_rfl))
  f286 := Tryz.func143.trans (congrArg some (by kernel_rfl))
  f288 := Tryz.func115.trans (congrArg some (by kernel_rfl))
  f317 := Tryz.func159.trans (congrArg some (by kernel_rfl))
  f318 := Tryz.func161.trans (congrArg some (by kernel_rfl))
  f319 := Tryz.func162.trans (congrArg some (by kernel_rfl))
  f320 := Tryz.func163.trans (congrArg some (by kernel_rfl))
  f337 := Tryz.func172.trans (congrArg some (by kernel_rfl))
  f338 := Tryz.func173.trans (congrArg some (by kernel_rfl))
  t0 := Tryz.underlying0
  a0 := Tryz.isAgg0
  z0 := Tryz.sizeOf0
  v0 := Tryz.zeroValue0
  t3 := Tryz.underlying3
  a3 := Tryz.isAgg3
  z3 := Tryz.sizeOf3
  v3 := Tryz.zeroValue3
  t4 := Tryz.underlying4
  a4 := Tryz.isAgg4
  z4 := Tryz.sizeOf4
  v4 := Tryz.zeroValue4
  t5 := Tryz.underlying5
  a5 := Tryz.isAgg5
  z5 := Tryz.sizeOf5
  v5 := Tryz.zeroValue5
  t9 := Tryz.underlying9
  a9 := Tryz.isAgg9
  z9 := Tryz.sizeOf9
  v9 := Tryz.zeroValue9
  t20 := Tryz.underlying20
  a20 := Tryz.isAgg20
  z20 := Tryz.sizeOf20
  v20 := Tryz.zeroValue20
  t37 := Tryz.underlying98
  a37 := Tryz.isAgg98
  z37 := Tryz.sizeOf98
  v37 := Tryz.zeroValue98
  t46 := Tryz.underlying97
  a46 := Tryz.isAgg97
  z46 := Tryz.sizeOf97
  v46 := Tryz.zeroValue97
  t51 := Tryz.underlying54
  a51 := Tryz.isAgg54
  z51 := Tryz.sizeOf54
  v51 := Tryz.zeroValue54
  t53 := Tryz.underlying60
  a53 := Tryz.isAgg60
  z53 := Tryz.sizeOf60
  v53 := Tryz.zeroValue60
  t171 := Tryz.underlying163
  a171 := Tryz.isAgg163
  z171 := Tryz.sizeOf163
  v171 := Tryz.zeroValue163
  t173 := Tryz.underlying166
  a173 := Tryz.isAgg166
  z173 := Tryz.sizeOf166
  v173 := Tryz.zeroValue166
  t212 := Tryz.underlying177
  a212 := Tryz.isAgg177
  z212 := Tryz.sizeOf177
  v212 := Tryz.zeroValue177
  t213 := Tryz.underlying178
  a213 := Tryz.isAgg178
  z213 := Tryz.sizeOf178
  t232 := Tryz.underlying186
  a232 := Tryz.isAgg186
  z232 := Tryz.sizeOf186
  v232 := Tryz.zeroValue186
  t233 := Tryz.underlying187
  a233 := Tryz.isAgg187
  z233 := Tryz.sizeOf187
  v233 := Tryz.zeroValue187
  g17 := by kernel_rfl
  g18 := by kernel_rfl
  g19 := by kernel_rfl
  i0 := by kernel_rfl
  i3 := by kernel_rfl
  i4 := by kernel_rfl
  i5 := by kernel_rfl
  i9 := by kernel_rfl
  i20 := by kernel_rfl
  i37 := by kernel_rfl
  i46 := by kernel_rfl
  i51 := by kernel_rfl
  i53 := by kernel_rfl
  i171 := by kernel_rfl
  i173 := by kernel_rfl
  i212 := by kernel_rfl
  i232 := by kernel_rfl
  i233 := by kernel_rfl
  m17 := by kernel_rfl
  m18 := by kernel_rfl
  m19 := by kernel_rfl }
theorem Dec10.tab {w : World} (h : Dec10 w) : ∀ {name}, Tryz.prog.globalNamed name = some (dec_lays_ren.g 17) → Lib.TabIs Tryz.prog w name .u64 Lib.pow10Tab := fun hn => h _ hn
/-- A number's digits behind what a row of the call's own holds. -/
theorem dec_append0 (B n u : Nat) (hu64 : u < 18446744073709551616) (sv : Value) (xs : List Value) (w : World) (hown : w.ownsRow B 5 1 sv n xs) (hB : B ≤ w.heap.size) (hn : n ≤ 1000000) (hT : Dec10 w) :
    Calls Tryz.prog 115 #[sv, .int .u64 u, .int .i64 10] w fun e w' => ∃ v', e = .returned v' ∧ w'.ownsRow B 5 1 v' (n + (txt u).length) (xs ++ Lib.byteCells (txt u)) ∧ Below B w w' := by
  have h := Any.internal_strconv_AppendUint_10 dec_lays B n u hu64 sv xs w hown hB (by omega) (hT.tab dec_lays.m17)
  rw [dec_txt] at h
  exact h.mono fun e w' ⟨v', he, ho, hb, _⟩ => ⟨v', he, ho, hb⟩
end Go.Proofs.YteoeicfbaffjcaaGreatDoor

/-
  The public strconv.AppendUint and FormatUint at base 10.
-/
namespace Go.Proofs.YteoeicfbaffjcaaGreatDoor
open Go.RowKit

set_option maxRecDepth 4096 in
theorem dec_append (B n u : Nat) (hu64 : u < 18446744073709551616) (sv : Value) (xs : List Value) (w : World) (hown : w.ownsRow B 5 1 sv n xs) (hB : B ≤ w.heap.size) (hn : n ≤ 1000000) (hT : Hid (Dec10 w)) :
    Calls Tryz.prog 78 #[sv, .int .u64 u, .int .i64 10] w fun e w' => ∃ v', e = .returned v' ∧ w'.ownsRow B 5 1 v' (n + (txt u).length) (xs ++ Lib.byteCells (txt u)) ∧ Below B w w' := by
  have Ho := Lib.hid hown
  clear hown
  go_enter Tryz.func78, Tryz.ntmps78
  go_wp2_with (go_at_call 115; refine (dec_append0 B n u hu64 sv xs _ Ho.out hB hn hT.out).mono ?_; rintro e w1 ⟨v1, rfl, h1, b1⟩; refine Hid.out ?_)
  refine Lib.hid ?_
  go_wp2
  go_ret
  exact ⟨v1, rfl, h1, b1⟩
set_option maxRecDepth 100000 in
set_option maxHeartbeats 6400000 in
/-- From 100 on: the numeral is laid in an array of the call's own and read as a text. -/
theorem dec_format0 (u : Nat) (hu : 100 ≤ u) (hu64 : u < 18446744073709551616) (w : World) (hT : Hid (Dec10 w)) :
    Calls Tryz.prog 144 #[.int .u64 u, .int .i64 10] w (Gives (.string (bs (txt u))) w) := by
  have hu1 : 1 ≤ u := by omega
  have hnd20 : Lib.nDigits u ≤ 20 := by have := Lib.numDigits_eq u hu1 hu64; split at this <;> omega
  have hal : Tryz.prog.arrayLen 163 = 24 := by kernel_rfl
  have hel : Tryz.prog.elem 163 = 5 := by kernel_rfl
  have hsl : ∀ W, (Instr.sliceAt 163 (.pointer (some ⟨w.heap.size, 0, none⟩)) none (some (.int .i64 (Lib.nDigits u : Int))) none).run Tryz.prog W = .ok (.slice (some ⟨w.heap.size, 0, none⟩) (Lib.nDigits u) 24) W := fun W => by
    rw [run_sliceAt_array_h W 163 ⟨w.heap.size, 0, none⟩ Tryz.underlying163 .i64 (Lib.nDigits u : Int) (by omega) (by rw [hal]; omega), hel, hal]
    go_simp
  have hH0 := Lib.holds_zero0 w 163 (Lib.nDigits u) (by omega)
  have hfmt := Any.internal_strconv_formatBase10 (P := Tryz.prog) (ρ := dec_lays_ren) { dec_lays with } w.heap.size 0 24 u (Array.replicate (Lib.nDigits u) 0) (w.alloc (.cells Lib.zeros24 163)) hH0 (by rw [Array.size_replicate]; exact Lib.lt_pow_nDigits u) hu64 (by rw [Array.size_replicate]; omega)
  rw [Array.size_replicate] at hfmt
  have HH0 := Lib.hid hH0
  have Hfmt := Lib.hid hfmt
  have iu : (100 : Int) ≤ (u : Int) := by omega
  clear hH0 hal hel hfmt
  go_enter Tryz.func144, Tryz.ntmps144
  go_wp2_with (first
    | (go_at_call 141; refine (Any.internal_strconv_numDigits (P := Tryz.prog) (ρ := dec_lays_ren) { dec_lays with } u hu1 hu64 _ (Lib.tabIs_alloc (hT.out.tab dec_lays.m17) _)).mono ?_; rintro e w' ⟨rfl, rfl⟩)
    | (go_at_call 142; refine Hfmt.out.mono ?_; rintro e w' ⟨rfl, k, v', dk, rfl, hF⟩; refine Hid.out ?_))
  refine Lib.hid ?_
  have hcv : (convert 98 9 (.slice (some ⟨w.heap.size, 0, none⟩) (Lib.nDigits u) 24)).run Tryz.prog ((Sort.putRow (fun (b : UInt8) => Value.int .u8 (b.toNat : Int)) (w.alloc (.cells Lib.zeros24 163)) w.heap.size 0 dk).drewN k) = .ok (.string (bs (txt u))) ((Sort.putRow (fun (b : UInt8) => Value.int .u8 (b.toNat : Int)) (w.alloc (.cells Lib.zeros24 163)) w.heap.size 0 dk).drewN k) := by
    have h := run_convert_bytes_back (P := Tryz.prog) ((Sort.putRow (fun (b : UInt8) => Value.int .u8 (b.toNat : Int)) (w.alloc (.cells Lib.zeros24 163)) w.heap.size 0 dk).drewN k) 98 9 5 ⟨w.heap.size, 0, none⟩ 24 (Lib.decDigits u) Tryz.underlying98 Tryz.underlying5 Tryz.underlying9 (fun j hj => by
      rw [Lib.row_is_numeral hF j hj, Lib.add_plain, World.cell?_drewN]
      exact Sort.cell?_putRow (fun (b : UInt8) => Value.int .u8 (b.toNat : Int)) _ w.heap.size 0 _ dk HH0.out (by rw [hF.size, Array.size_replicate]) j (by rw [hF.size]; rw [Lib.decDigits_length] at hj; exact hj))
    rw [Lib.decDigits_length, dec_txt] at h
    exact h
  obtain ⟨os, eo⟩ := Lib.fin_at w (.cells Lib.zeros24 163) dk k 0
  have hnx : Below w.heap.size w ((Sort.putRow (fun (b : UInt8) => Value.int .u8 (b.toNat : Int)) (w.alloc (.cells Lib.zeros24 163)) w.heap.size 0 dk).drewN k) := by rw [eo]; exact Lib.below_grow w.heap.size w (Nat.le_refl _) k os
  generalize (Sort.putRow (fun (b : UInt8) => Value.int .u8 (b.toNat : Int)) (w.alloc (.cells Lib.zeros24 163)) w.heap.size 0 dk).drewN k = W2 at hcv hnx ⊢
  clear eo HH0 Hfmt
  go_wp2
  go_ret
  exact ⟨rfl, hnx⟩
theorem dec_format (u : Nat) (hu : 100 ≤ u) (hu64 : u < 18446744073709551616) (w : World) (hT : Hid (Dec10 w)) :
    Calls Tryz.prog 116 #[.int .u64 u, .int .i64 10] w (Gives (.string (bs (txt u))) w) := by
  go_enter Tryz.func116, Tryz.ntmps116
  go_wp2_with (go_at_call 144; refine (dec_format0 u hu hu64 _ hT).mono ?_; rintro e w1 ⟨rfl, b1⟩)
  go_ret
  exact ⟨rfl, b1⟩
end Go.Proofs.YteoeicfbaffjcaaGreatDoor

/-
  Package digits at this seat: full, groups.
-/
namespace Go.Proofs.YteoeicfbaffjcaaGreatDoor
open Go.RowKit

theorem Wd.heldA {w : World} {a : Option Addr} {n cap : Nat} {l : List Nat} (h : Wd w a n cap l) : heldVal w (.slice a n cap) = val l := by
  cases a with
  | none => obtain ⟨rfl, rfl, rfl⟩ := h.ofNone; rfl
  | some ad =>
    by_cases hn : n = 0
    · subst hn
      have h0 : l = [] := List.eq_nil_of_length_eq_zero h.len
      subst h0
      rfl
    · obtain ⟨b, off, e, _⟩ := h.at (by omega)
      cases e
      exact h.held
set_option maxRecDepth 4096 in
theorem digits_full (g : Nat) (hg : g < 1000000000) (w : World) (hT : Hid (Dec10 w)) :
    Calls Tryz.prog 79 #[.int .u32 (g : Int)] w (Gives (.string (bs (lowd 9 g))) w) := by
  obtain ⟨u, hu⟩ : ∃ u : Nat, 1000000000 + (g : Int) = (u : Int) := ⟨1000000000 + g, by omega⟩
  have HU : Hid (txt u = 49 :: lowd 9 g) := Lib.hid (by rw [show u = 1000000000 + g by omega]; exact pad_txt hg)
  have hu1 : 100 ≤ u := by omega
  have hu2 : u < 18446744073709551616 := by omega
  have hsz := bs_size (49 :: lowd 9 g)
  have htl := bs_rest 49 (lowd 9 g)
  simp only [List.length_cons, lowd_length] at hsz htl
  go_enter Tryz.func79, Tryz.ntmps79
  go_wp2_with (go_at_call 116; refine (dec_format u hu1 hu2 _ hT).mono ?_; rintro e w1 ⟨rfl, b1⟩; rw [HU.out])
  go_ret
  exact ⟨rfl, b1⟩
set_option maxRecDepth 4096 in
set_option maxHeartbeats 2000000 in
theorem digits_groups (a : Option Addr) (n cap : Nat) (l : List Nat) (w : World) (h : Wd w a n cap l) (hn : n ≤ 1000) :
    Calls Tryz.prog 77 #[.slice a n cap] w (Lst (bil (val l)) w) := by
  obtain ⟨i0, hi, hz0, hz1, hz2⟩ := info_parts infoU32
  have HL : Hid ((bil (val l)).length ≤ 32001) := Lib.hid (by
    have h1 := val_lt h.ok
    rw [h.len, pow32] at h1
    have h2 := bil_length_le h1
    omega)
  have H := Lib.hid h
  clear h
  go_enter Tryz.func77, Tryz.ntmps77
  go_wp2
  go_loopw [0, 3] (fun av gv wr => ∃ (a' : Option Addr) (n' c' : Nat) (L G : List Nat) (m : Nat), av = .slice a' n' c' ∧ n' ≤ 1000 ∧ Hid (Wd wr a' n' c' L) ∧ Hid (wr.ownsRow w.heap.size 54 1 gv m (wcells G)) ∧ Hid (okw G) ∧ Hid (bil (val l) = G ++ bil (val L)) ∧ Below w.heap.size w wr) (fun av _ wr => heldVal wr av)
  case atStart => exact ⟨a, n, cap, l, [], 0, rfl, hn, H, Lib.hid (World.ownsRow_nil _ _ _ _), Lib.hid okw_nil, Lib.hid rfl, Below.refl _ _⟩
  case round =>
    clear H hn
    obtain ⟨a', n', c', L, G, m, rfl, hn', HW, HO, HG, HB, hB⟩ := hrel
    obtain ⟨ga, gc, rfl⟩ := own_slice HO.out
    have hm : m ≤ 32000 := by
      have h1 := HL.out
      have h2 := HO.out.1
      obtain ⟨x, r, hx⟩ := bil_ne (val L)
      rw [HB.out, hx, List.length_append, List.length_cons] at h1
      rw [wcells_length] at h2
      omega
    have Hm0 := Lib.hid HW.out.heldA
    have hbase : w.heap.size ≤ wr.heap.size := hB.size
    obtain ⟨v, hv⟩ : ∃ v, v = val L := ⟨_, rfl⟩
    have Hv := Lib.hid hv
    have hgl : v % 1000000000 < 4294967296 := by omega
    obtain ⟨z, hz⟩ : ∃ z, z = v % 1000000000 := ⟨_, rfl⟩
    have hzl : z < 1000000000 := by omega
    have Hz := Lib.hid hz
    have HG2 : Hid (okw (G ++ [z])) := Lib.hid (okw_append.2 ⟨HG.out, okw_cons.2 ⟨by omega, okw_nil⟩⟩)
    clear hz hv hgl
    go_wp2_with fail
    refine (quot_word_own _ _ _ _ 1000000000 _ HW.out (by omega) (by omega) (by omega)).mono ?_
    rintro e w1 ⟨g1, n1, rfl, h1, b1⟩
    rw [← Hv.out] at h1 ⊢
    rw [← Hz.out]
    have hn1 : n1 ≤ 1000 := by
      have h2 := h1.len
      have h3 := HW.out.trim_le
      have h4 := dg_length_mono (show v / 1000000000 ≤ val L by rw [← Hv.out]; exact Nat.div_le_self _ _)
      omega
    have HO1 := Lib.hid (ownsRow_later HO.out b1)
    have hB1 := below_then hB b1
    have hbase1 := hB1.size
    have Hq := Lib.hid h1
    clear HW b1 hB h1
    go_wp2_with (at_builtin; refine wpList_append_own _ rfl _ _ 22 rfl w.heap.size 54 i0 (.int .u32 0) 1 4 Tryz.underlying22 hi hz0 hz1 hz2 rfl (by decide) _ m _ rfl (HO1.out.alloc _) ⟨w1.heap.size, 0, none⟩ 1 1 (wcells [z]) rfl rfl (Wd.lit1 w1 54 (x := z) (by omega)).cells (wcells_one _) (by unfold maxLen; omega) (by omega) (by simp; omega) ?_)
    intro v' w2 hown hgrow _
    have hB2 : Below w.heap.size w w2 := (hB1.alloc hbase1 _).grown hgrow (by simp; omega) (fun k hk => (HO1.out.lt k hk).1)
    have Hq2 : Hid (Wd w2 (some ⟨g1, 0, none⟩) n1 n1 (dg (v / 1000000000))) := Lib.hid ((Hq.out.wd.later (below_alloc _ _)).kept hgrow (by
      intro ad hd he
      cases hd
      have h2 := (Hq.out.base).1
      have h3 : g1 < wr.heap.size := (HO.out.lt g1 he.symm).2
      omega))
    rw [← wcells_append] at hown
    have HO2 := Lib.hid hown
    clear hown hgrow Hq HO1 HO
    go_wp2_with fail
    refine (natSaid.zero _ _ _ _ _ Hq2.out (by omega)).mono ?_
    rintro e w3 ⟨rfl, b3⟩
    rw [val_dg]
    have HO3 := Lib.hid (ownsRow_later HO2.out b3)
    have Hq3 := Lib.hid (Hq2.out.later b3)
    have hB3 := below_then hB2 b3
    clear b3 HO2 Hq2 hB2
    by_cases hq : v / 1000000000 = 0
    · rw [decide_eq_true hq]
      have Hfin : Hid (bil (val l) = G ++ [z]) := Lib.hid (by rw [HB.out, ← Hv.out, bil_small (by omega), Hz.out, Nat.mod_eq_of_lt (by omega)])
      obtain ⟨a4, c4, rfl⟩ := own_slice HO3.out
      have HF := Lib.hid (Wd.own HO3.out HG2.out)
      clear hq
      go_wp2
      go_ret
      exact ⟨_, _, _, rfl, by rw [Hfin.out]; exact HF.out, hB3⟩
    · rw [decide_eq_false hq]
      have Hfin : Hid (bil (val l) = (G ++ [z]) ++ bil (val (dg (v / 1000000000)))) := Lib.hid (by rw [HB.out, ← Hv.out, bil_big (by omega), ← Hz.out, val_dg, List.append_assoc]; rfl)
      have hlt : v / 1000000000 < v := by omega
      have Hm1 := Lib.hid Hq3.out.heldA
      clear hq
      go_wp2
      go_roundw
      case rel => exact ⟨_, n1, n1, _, _, _, rfl, hn1, Hq3, HO3, HG2, Hfin, hB3⟩
      case measure =>
        have h8 := Hm0.out
        have h9 := Hm1.out
        rw [val_dg] at h9
        show heldVal _ _ < heldVal _ _
        rw [h8, h9, ← Hv.out]
        exact hlt
end Go.Proofs.YteoeicfbaffjcaaGreatDoor

/-
  Package digits at this seat: Text, Len.
-/
namespace Go.Proofs.YteoeicfbaffjcaaGreatDoor
open Go.RowKit

theorem infoU8 : (Tryz.prog.info? 5).map (fun i => (i.zero, i.size, i.bytes)) = some (some (.int .u8 0), 1, 1) := by kernel_rfl
theorem strCells_bs (s : List UInt8) : Lib.strCells (bs s) = Lib.byteCells s := rfl
theorem txAt_zero {v : Nat} {s : List UInt8} (h : TxAt (bil v) 0 s) : s = txt v := tx_end h
set_option maxRecDepth 4096 in
set_option maxHeartbeats 4000000 in
theorem digits_text (a : Option Addr) (n cap : Nat) (l : List Nat) (w : World) (h : Wd w a n cap l) (hn : n ≤ 1000) (hT : Hid (Dec10 w)) :
    Calls Tryz.prog 35 #[.slice a n cap] w (Gives (.string (bs (txt (val l)))) w) := by
  obtain ⟨i0, hi, hz0, hz1, hz2⟩ := info_parts infoU8
  have hv2 := val_lt h.ok
  rw [h.len, pow32] at hv2
  have HTL : Hid ((txt (val l)).length ≤ 32001) := Lib.hid (by have := txt_length_le hv2; omega)
  have HBL : Hid ((bil (val l)).length ≤ 32001) := Lib.hid (by have := bil_length_le hv2; omega)
  have H := Lib.hid h
  clear h hv2
  go_enter Tryz.func35, Tryz.ntmps35
  go_wp2_with fail
  refine (digits_groups _ _ _ _ _ H.out hn).mono ?_
  rintro e w1 ⟨a1, n1, c1, rfl, h1, b1⟩
  obtain ⟨v, hv⟩ : ∃ v, v = val l := ⟨_, rfl⟩
  rw [← hv] at h1 HTL HBL
  have HV := Lib.hid hv
  clear hv H hn
  have hT1 := Lib.hid (hT.out.later b1)
  obtain ⟨m, rfl⟩ : ∃ m, n1 = m + 1 := by
    obtain ⟨x, r, hx⟩ := bil_ne v
    have h2 := h1.len
    rw [hx, List.length_cons] at h2
    exact ⟨r.length, h2.symm⟩
  have hm : m ≤ 32000 := by have h2 := h1.len; have h3 := HBL.out; omega
  obtain ⟨b, off, rfl, hcl⟩ := h1.at (by omega)
  have hcm := hcl m (by omega)
  have Hcl := Lib.hid hcl
  have H1 := Lib.hid h1
  have hxw := atw_bil v m
  have HS : Hid (TxAt (bil v) m (txt (atw (bil v) m))) := Lib.hid (tx_start h1.len)
  obtain ⟨x, hx⟩ : ∃ x, x = atw (bil v) m := ⟨_, rfl⟩
  rw [← hx] at hcm hxw HS
  have e1 : ((m + 1 : Nat) : Int) - 1 = (m : Int) := by omega
  have hlt : (m : Int) < ((m + 1 : Nat) : Int) := by omega
  have hB1 := b1
  have HTx : Hid ((txt x).length ≤ 32001) := Lib.hid (by have h2 := tx_length HS.out; have h3 := HTL.out; omega)
  clear hcl hx h1 b1
  go_wp2_with (go_at_call 78; refine (dec_append w1.heap.size 0 x (by omega) (.slice none 0 0) [] _ (World.ownsRow_nil _ _ _ _) (Nat.le_refl _) (by omega) hT1).mono ?_; rintro e w2 ⟨v2, rfl, h2, b2⟩; refine Hid.out ?_)
  refine Lib.hid ?_
  rw [Nat.zero_add, List.nil_append] at h2
  have HO2 := Lib.hid h2
  have HB1 := Lib.hid hB1
  clear h2 hcm hT hlt HTx
  go_wp2
  go_loopw [5, 6] (fun sv iv wr => ∃ (k : Nat) (s : List UInt8), k ≤ m ∧ iv = .int .i64 ((k : Int) - 1) ∧ Hid (TxAt (bil v) k s) ∧ Hid (wr.ownsRow w1.heap.size 5 1 sv s.length (Lib.byteCells s)) ∧ Below w1.heap.size w1 wr) (fun _ iv _ => (intOf iv + 1).toNat)
  case atStart => exact ⟨m, txt x, by omega, by go_num, HS, HO2, b2⟩
  case round =>
    clear HO2 HS b2 hxw
    obtain ⟨k, s, hk, rfl, HS, HO, hB⟩ := hrel
    have hsl : s.length ≤ 32001 := by have h2 := tx_length HS.out; have h3 := HTL.out; omega
    have hT2 := Lib.hid (hT1.out.later hB)
    have hbase := hB.size
    cases k with
    | zero =>
      have hs := tx_end HS.out
      have hne : 0 < s.length := by rw [hs]; exact List.length_pos_iff.2 (txt_ne v)
      have Hs := Lib.hid hs
      clear hs
      rcases HO.out.2 with ⟨-, h0⟩ | ⟨g, cap', cur, rfl, -⟩
      · omega
      · have hcv := run_convert_bytes_back (P := Tryz.prog) wr 98 9 5 ⟨g, 0, none⟩ cap' s Tryz.underlying98 Tryz.underlying5 Tryz.underlying9 (fun j hj => HO.out.cells (g := g) rfl j _ (by simp [Lib.byteCells, hj]))
        go_wp2
        go_ret
        exact ⟨by rw [← HV.out, ← Hs.out]; rfl, below_then HB1.out hB⟩
    | succ k =>
      have e2 : ((k + 1 : Nat) : Int) - 1 = (k : Int) := by omega
      rw [e2]
      clear e2
      have hck := cell_later hB (Hcl.out k (by omega))
      have hyw := atw_bil v k
      have HS2 := Lib.hid (tx_step HS.out)
      obtain ⟨y, hy⟩ : ∃ y, y = atw (bil v) k := ⟨_, rfl⟩
      rw [← hy] at hck hyw HS2
      have hki : (k : Int) < ((m + 1 : Nat) : Int) := by omega
      have hz := bs_size (lowd 9 y)
      rw [lowd_length] at hz
      clear hy
      go_wp2_with (first
        | (go_at_call 79; refine (digits_full y hyw _ hT2).mono ?_; rintro e w3 ⟨rfl, b3⟩; have HO3 := Lib.hid (ownsRow_later HO.out b3); have hB3 := below_then hB b3; have hbase3 := hB3.size)
        | (at_builtin; refine Lib.wpList_append_own_string _ rfl _ _ 98 9 rfl w1.heap.size 5 i0 Tryz.underlying98 Tryz.underlying9 hi hz0 hz1 hz2 _ _ _ rfl HO3.out (bs (lowd 9 y)) rfl (by rw [hz]; unfold maxLen; omega) (by rw [hz]; omega) hbase3 ?_; intro v' w4 hown hgrow _; refine Hid.out ?_))
      refine Lib.hid ?_
      have hB4 : Below w1.heap.size w1 w4 := hB3.grown hgrow hbase3 (fun k hk => (HO3.out.lt k hk).1)
      have e3 : Lib.byteCells s ++ Lib.strCells (bs (lowd 9 y)) = Lib.byteCells (s ++ lowd 9 y) := by rw [strCells_bs, Lib.byteCells_append]
      have e4 : s.length + (bs (lowd 9 y)).size = (s ++ lowd 9 y).length := by rw [bs_size, List.length_append]
      rw [e3, e4] at hown
      have HO4 := Lib.hid hown
      clear hown hgrow e3 e4 HO3 HO
      go_wp2
      go_roundw
      case rel => exact ⟨k, _, by omega, by go_num, HS2, HO4, hB4⟩
      case measure => simp [intOf]
set_option maxRecDepth 4096 in
theorem digits_len (a : Option Addr) (n cap : Nat) (l : List Nat) (w : World) (h : Wd w a n cap l) (hn : n ≤ 1000) (hT : Hid (Dec10 w)) :
    Calls Tryz.prog 19 #[.slice a n cap] w (Gives (.int .i64 (((txt (val l)).length : Nat) : Int)) w) := by
  have hz := bs_size (txt (val l))
  have H := Lib.hid h
  clear h
  go_enter Tryz.func19, Tryz.ntmps19
  go_wp2_with (go_at_call 35; refine (digits_text _ _ _ _ _ H.out hn hT).mono ?_; rintro e w1 ⟨rfl, b1⟩)
  go_ret
  exact ⟨rfl, b1⟩
end Go.Proofs.YteoeicfbaffjcaaGreatDoor

/-
  The contracts of package prod (layer 4) at this seat: Word, All.
-/
namespace Go.Proofs.YteoeicfbaffjcaaGreatDoor
open Go.RowKit

theorem Wds.take {w : World} {a : Option Addr} {n cap : Nat} {ls : List (List Nat)} (h : Wds w a n cap ls) {k : Nat} (hk : k ≤ n) : Wds w a k cap (ls.take k) := by
  obtain ⟨h1, h2, h3, h4, h5⟩ := h
  refine ⟨by rw [List.length_take]; omega, by omega, h3, h4, ?_⟩
  rcases h5 with h0 | ⟨b, off, e, hc⟩
  · exact .inl (by omega)
  · refine .inr ⟨b, off, e, fun j hj => ?_⟩
    obtain ⟨a', n', c', h6, h7⟩ := hc j (by omega)
    refine ⟨a', n', c', h6, ?_⟩
    rwa [List.getD_eq_getElem?_getD, List.getElem?_take, if_pos hj, ← List.getD_eq_getElem?_getD]
theorem Wds.drop {w : World} {b off m cap q : Nat} {ls : List (List Nat)} (h : Wds w (some ⟨b, off, none⟩) (q + m) cap ls) : Wds w (some ⟨b, off + q, none⟩) m (cap - q) (ls.drop q) := by
  have h1 := h.bound
  have h2 := h.len
  refine ⟨by rw [List.length_drop]; omega, by omega, by omega, fun e => (by cases e), ?_⟩
  rcases h.2.2.2.2 with h0 | ⟨b', off', e, hc⟩
  · exact .inl (by omega)
  · simp only [Option.some.injEq, Addr.mk.injEq, and_true] at e
    obtain ⟨rfl, rfl⟩ := e
    refine .inr ⟨b, off + q, rfl, fun j hj => ?_⟩
    obtain ⟨a', n', c', h6, h7⟩ := hc (q + j) (by omega)
    exact ⟨a', n', c', by rw [Nat.add_assoc]; exact h6, by rwa [List.getD_eq_getElem?_getD, List.getElem?_drop, ← List.getD_eq_getElem?_getD]⟩

set_option maxRecDepth 4096 in
set_option maxHeartbeats 1000000 in
theorem prod_word (a : Option Addr) (n cap : Nat) (l : List Nat) (x c0 : Nat) (w : World) (h : Wd w a n cap l) (hn : n ≤ 4000000) (hx : x < 4294967296) (hc0 : c0 < 4294967296) :
    Calls Tryz.prog 84 #[.slice a n cap, .int .u32 (x : Int), .int .u32 (c0 : Int)] w (Lst (dg (val l * x + c0)) w) := by
  obtain ⟨i0, hi, hz0, hz1, hz2⟩ := info_parts infoU32
  have H := Lib.hid h
  clear h
  go_enter Tryz.func84, Tryz.ntmps84
  go_wp2_with (at_make; refine wpList_make_words _ rfl _ _ 22 rfl w.heap.size 54 i0 (.int .u32 0) Tryz.underlying22 hi hz0 hz1 rfl .i64 .i64 _ _ 0 (n + 1) rfl rfl (by omega) (by omega) (by omega) (by rw [hz2]; omega) (by unfold maxLen; omega) (Nat.le_refl _) ?_; intro w1 hown1 hgrow1)
  rw [zeros_cells] at hown1
  have HO1 : Hid (Own w1 w.heap.size w.heap.size 0 (n + 1) []) := Lib.hid ⟨hown1, okw_nil⟩
  have hB1 : Below w.heap.size w w1 := (Below.refl _ _).grown hgrow1 (Nat.le_refl _) (fun k hk => by cases hk)
  clear hown1 hgrow1
  go_loopw [7, 8, 19] (fun s cv i wr => ∃ (j c g cap2 : Nat) (o : List Nat), j ≤ n ∧ i = .int .i64 (j : Int) ∧ cv = .int .u32 (c : Int) ∧ c < 4294967296 ∧ s = .slice (some ⟨g, 0, none⟩) j cap2 ∧ Hid (o.length = j) ∧ Hid (val o + 4294967296 ^ j * c = low l j * x + c0) ∧ Hid (Own wr w.heap.size g j cap2 o) ∧ Below w.heap.size w wr) (fun _ _ i _ => n - (intOf i).toNat)
  case atStart => exact ⟨0, c0, _, _, [], by omega, rfl, rfl, hc0, rfl, Lib.hid rfl, Lib.hid (by rw [low_zero]; simp [val]), HO1, hB1⟩
  case round =>
    clear HO1 hB1
    obtain ⟨j, c, g, cap2, o, hj, rfl, rfl, hc, rfl, Hol, Hv, HO, hB⟩ := hrel
    have hbase : w.heap.size ≤ wr.heap.size := hB.size
    by_cases hlt : j < n
    · obtain ⟨b, off, rfl, hcl⟩ := (H.out.later hB).at (by omega)
      have hck := hcl j hlt
      have hyw := atw_lt H.out.ok j
      obtain ⟨y, hyy⟩ : ∃ y, y = atw l j := ⟨_, rfl⟩
      rw [← hyy] at hyw hck
      have Hy := Lib.hid hyy
      have hj1 : (j : Int) < (n : Int) := by omega
      clear hcl hyy
      go_wp2_with fail
      refine (limb_mul_nat3 y x c _ hyw hx hc).mono ?_
      rintro e w' ⟨c2, z, rfl, hc2, hz, Hs, rfl⟩
      go_wp2_with (at_builtin; refine wpList_append_own _ rfl _ _ 22 rfl w.heap.size 54 i0 (.int .u32 0) 1 4 Tryz.underlying22 hi hz0 hz1 hz2 rfl (by decide) _ j _ rfl (HO.out.1.alloc _) ⟨wr.heap.size, 0, none⟩ 1 1 (wcells [z]) rfl rfl (Wd.lit1 wr 54 (x := z) hz).cells (wcells_one _) (by unfold maxLen; omega) (by omega) (by simp; omega) ?_)
      intro v' w2 hown hgrow _
      obtain ⟨g2, cap3, rfl, HO2⟩ := Own.push (r := z) hown HO.out.2 hz
      have HO' := Lib.hid HO2
      have hb := HO.out.base
      have hB1 : Below w.heap.size w w2 := (hB.alloc hbase _).grown hgrow (by simp; omega) (by intro k hk; simp [Value.ownBlock] at hk; omega)
      clear HO2 hown hgrow
      go_wp2
      go_roundw
      case rel => exact ⟨j + 1, c2, g2, cap3, o ++ [z], by omega, by go_num, rfl, hc2, rfl, Lib.hid (by have := Hol.out; simp; omega), Lib.hid (word_step Hol.out Hv.out (by rw [← Hy.out]; exact Hs.out)), HO', hB1⟩
      case measure => simp [intOf]; omega
    · obtain rfl : j = n := by omega
      have Hv2 : Hid (val (o ++ [c]) = val l * x + c0) := Lib.hid (by rw [val_snoc, Hol.out, Hv.out, low_ge (by rw [H.out.len]; omega)])
      clear hlt Hv
      go_wp2_with (at_builtin; refine wpList_append_own _ rfl _ _ 22 rfl w.heap.size 54 i0 (.int .u32 0) 1 4 Tryz.underlying22 hi hz0 hz1 hz2 rfl (by decide) _ j _ rfl (HO.out.1.alloc _) ⟨_, 0, none⟩ 1 1 (wcells [c]) rfl rfl (Wd.lit1 _ 54 (x := c) hc).cells (wcells_one _) (by unfold maxLen; omega) (by omega) (by simp; omega) ?_)
      intro v' w2 hown hgrow _
      obtain ⟨g2, cap3, rfl, HO2⟩ := Own.push (r := c) hown HO.out.2 hc
      have HO' := Lib.hid HO2
      have hb := HO.out.base
      have hB1 : Below w.heap.size w w2 := (hB.alloc hbase _).grown hgrow (by simp; omega) (by intro k hk; simp [Value.ownBlock] at hk; omega)
      clear HO2 hown hgrow
      go_wp2_with fail
      refine (natSaid.norm _ _ _ _ _ HO'.out.wd (by omega)).mono ?_
      rintro e w' ⟨a', n', c', rfl, hwd, hbel⟩
      rw [Hv2.out] at hwd
      have HWD := Lib.hid hwd
      clear hwd
      go_wp2
      go_ret
      exact ⟨_, _, _, rfl, HWD.out, below_then hB1 hbel⟩
set_option maxRecDepth 4096 in
set_option maxHeartbeats 1000000 in
theorem prod_all (n : Nat) : ∀ (a : Option Addr) (cap : Nat) (ls : List (List Nat)) (w : World), Wds w a n cap ls → n ≤ 1000000 → words ls ≤ 1000000 →
    Calls Tryz.prog 82 #[.slice a n cap] w (Lst (dg (prods ls)) w) := by
  induction n using Nat.strongRecOn with
  | _ n ih =>
  intro a cap ls w h hn hw
  obtain ⟨hb1, hb2⟩ := h.bound
  have H := Lib.hid h
  clear h
  by_cases h0 : n = 0
  · subst h0
    have Hp : Hid (prods ls = 1) := Lib.hid (by rw [List.eq_nil_of_length_eq_zero H.out.len]; rfl)
    clear ih
    go_enter Tryz.func82, Tryz.ntmps82
    go_wp2_with fail
    refine (natSaid.of 1 _ (by omega)).mono ?_
    rintro e w' ⟨a', n', c', rfl, hwd, hbel⟩
    go_wp2
    go_ret
    exact ⟨_, _, _, rfl, by rw [Hp.out]; exact hwd, hbel⟩
  · by_cases h1 : n = 1
    · subst h1
      obtain ⟨b, off, rfl, a1, n1, c1, hc, hwd⟩ := H.out.at (j := 0) (by omega)
      have hc' : w.cell? ⟨b, off, none⟩ = some (.slice a1 n1 c1) := hc
      have Hp : Hid (prods ls = val (ls.getD 0 [])) := Lib.hid (by
        match ls, H.out.len with
        | [l], _ => simp [prods])
      have hwm := words_mem ls 0 (by rw [H.out.len]; omega)
      have hn1 : n1 ≤ 1000000 := by rw [← hwd.len]; omega
      have HWD := Lib.hid hwd
      clear ih hc hwd hwm
      go_enter Tryz.func82, Tryz.ntmps82
      go_wp2_with fail
      refine (natSaid.norm _ _ _ _ _ HWD.out (by omega)).mono ?_
      rintro e w' ⟨a', n', c', rfl, hwd, hbel⟩
      go_wp2
      go_ret
      exact ⟨_, _, _, rfl, by rw [Hp.out]; exact hwd, hbel⟩
    · obtain ⟨hh, hhh⟩ : ∃ hh, hh = n / 2 := ⟨_, rfl⟩
      obtain ⟨m, rfl⟩ : ∃ m, n = hh + m := ⟨n - hh, by omega⟩
      have hhp : 0 < hh := by omega
      have hmp : 0 < m := by omega
      have hq : ((hh : Int) + (m : Int)) / 2 = (hh : Int) := by omega
      obtain ⟨b, off, rfl, _, _, _, hcx, _⟩ := H.out.at (j := 0) (by omega)
      have HA := Lib.hid (H.out.take (k := hh) (by omega))
      have HB := Lib.hid H.out.drop
      have hwa : Hid (words (ls.take hh) ≤ 1000000) := Lib.hid (Nat.le_trans (words_le_take ls hh) hw)
      have hsplit : Hid (words ls = words (ls.take hh) + words (ls.drop hh)) := Lib.hid (by rw [← words_append, List.take_append_drop])
      have hwb : Hid (words (ls.drop hh) ≤ 1000000) := Lib.hid (by have := hsplit.out; omega)
      have Hp : Hid (prods ls = prods (ls.take hh) * prods (ls.drop hh)) := Lib.hid (by rw [← prods_append, List.take_append_drop])
      have ihA := Lib.hid (fun wz hz => ih hh (by omega) (some ⟨b, off, none⟩) cap (ls.take hh) wz (HA.out.later hz) (by omega) hwa.out)
      have ihB := Lib.hid (fun wz hz => ih m (by omega) (some ⟨b, off + hh, none⟩) (cap - hh) (ls.drop hh) wz (HB.out.later hz) (by omega) hwb.out)
      have hlA := prods_length HA.out.oks
      have hlB := prods_length HB.out.oks
      have HlA : Hid ((dg (prods (ls.take hh))).length ≤ 4000000) := Lib.hid (by have := hwa.out; omega)
      have HlB : Hid ((dg (prods (ls.drop hh))).length ≤ 4000000) := Lib.hid (by have := hwb.out; omega)
      have hi2 : (hh : Int) ≤ (cap : Int) := by omega
      have hi3 : (hh : Int) ≤ (hh : Int) + (m : Int) := by omega
      have hi4 : (2 : Int) ≤ (hh : Int) + (m : Int) := by omega
      have hne : ¬ cap = hh := by omega
      clear ih hlA hlB hcx hhh
      go_enter Tryz.func82, Tryz.ntmps82
      go_wp2
      go_region_with (first
        | (go_at_call 82; (first
          | ((with_reducible refine (ihA.out _ ?hz).mono ?_); (case hz => exact (Below.refl _ _).drew); rintro e w1 ⟨a1, n1, c1, rfl, h1, b1⟩)
          | ((refine (ihB.out _ ?hz).mono ?_); (case hz => exact below_then (Below.refl _ _).drew b1); rintro e w2 ⟨a2, n2, c2, rfl, h2, b2⟩)))
        | (go_at_call 53; (refine (prod_mul _ _ _ _ _ _ _ _ _ (h1.later b2) h2 ?hz1 ?hz2).mono ?_); (case hz1 => have h3 := h1.len; have h4 := HlA.out; omega); (case hz2 => have h3 := h2.len; have h4 := HlB.out; omega); rintro e w3 ⟨a3, n3, c3, rfl, h3, b3⟩))
      rw [val_dg, val_dg, ← Hp.out] at h3
      go_wp2
      go_ret
      exact ⟨_, _, _, rfl, h3, below_then (below_then (below_then (Below.refl _ _).drew b1) b2) b3⟩
end Go.Proofs.YteoeicfbaffjcaaGreatDoor
