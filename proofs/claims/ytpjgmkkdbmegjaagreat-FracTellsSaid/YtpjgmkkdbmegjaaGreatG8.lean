/-
  Several texts of this claim as one, group 8.
-/
import Derived.Test.YtpjgmkkdbmegjaaGreatG6
import Derived.Test.YtpjgmkkdbmegjaaGreatG7
import Derived.Test.YtpjgmkkdbmegjaaGreatG5
import Derived.Deep.RegionHeld3
import Derived.Test.YtpjgmkkdbmegjaaGreatG4
import Derived.Lib.AppendIntMem
import Derived.Lib.AppendStr
import Derived.Laws.IdiomStrings
import Derived.Laws.Slices
import Derived.OwnWalk
import Derived.BigCall
import Derived.BigGuard
import Derived.Test.YtpjgmkkdbmegjaaGreatG2
import Derived.Deep.AppendSrc
import Derived.Deep.RegionWith
import Derived.Test.YtpjgmkkdbmegjaaGreatG3
import Derived.BigRegion
import Derived.Test.YtpjgmkkdbmegjaaGreatG1
/-
  Package whole at this seat: Floor.
-/
namespace Go.Proofs.YtpjgmkkdbmegjaaGreat
open Go.RowKit

theorem results_rows2_tmp {P : Program} {fn : Func} {p q u : Tmp} {ty tz : TypeId} (h : fn.results = #[.cell p ty, .cell q tz, .tmp u]) (tmps : Array Value) (w : World) (g k : Nat) (t s : TypeId) (cs ds : Array Value) (fr fs : Nat × Nat) (d e : TypeDesc)
    (hp : tmps.getD p undef = .pointer (some ⟨g, 0, none⟩)) (hg : w.heap[g]? = some (.cells cs t fr))
    (hu : P.underlying ty = some d) (hd : (match d with | .struct _ | .array _ _ => true | _ => false) = true) (hi : (P.info? ty).map (·.size) = some cs.size)
    (hq : tmps.getD q undef = .pointer (some ⟨k, 0, none⟩)) (hk : w.heap[k]? = some (.cells ds s fs))
    (hu2 : P.underlying tz = some e) (hd2 : (match e with | .struct _ | .array _ _ => true | _ => false) = true) (hi2 : (P.info? tz).map (·.size) = some ds.size) :
    (results fn tmps).run P w = .ok (.tuple #[.agg cs, .agg ds, tmps.getD u undef]) w := by
  have hp' : tmps[p]?.getD undef = .pointer (some ⟨g, 0, none⟩) := by simpa using hp
  have hq' : tmps[q]?.getD undef = .pointer (some ⟨k, 0, none⟩) := by simpa using hq
  simp [results, h, hp', hq', asAddr, Sem.run_bind, Result.andThen, run_loadVar_row w g t ty cs fr d hg hu hd hi, run_loadVar_row w k s tz ds fs e hk hu2 hd2 hi2]
theorem floor_like {nb : Bool} {u v : Nat} (hv : v ≠ 0) : zval false (u / v) = Int.fdiv (zval nb u) (zval nb v) ∧ zval nb (u % v) = Int.fmod (zval nb u) (zval nb v) := by
  have h1 := Nat.div_add_mod u v
  have h2 := Nat.mod_lt u (Nat.pos_of_ne_zero hv)
  generalize u / v = q at *
  generalize u % v = r at *
  subst h1
  refine floor_unique ?_ ?_
  · cases nb <;> simp [zval, Int.mul_comm, Int.mul_neg] <;> omega
  · cases nb <;> simp [zval] <;> omega
theorem floor_even {na nb : Bool} {u v : Nat} (hn : na ≠ nb) (hv : v ≠ 0) (h0 : u % v = 0) : zval true (u / v) = Int.fdiv (zval na u) (zval nb v) ∧ zval nb (u % v) = Int.fmod (zval na u) (zval nb v) := by
  have h1 := Nat.div_add_mod u v
  rw [h0] at h1 ⊢
  generalize u / v = q at *
  subst h1
  refine floor_unique ?_ ?_
  · cases na <;> cases nb <;> simp [zval, Int.mul_comm, Int.mul_neg] at hn ⊢
  · cases nb <;> simp [zval] <;> omega
theorem floor_down {na nb : Bool} {u v : Nat} (hn : na ≠ nb) (hv : v ≠ 0) (h0 : u % v ≠ 0) : zval true (u / v + 1) = Int.fdiv (zval na u) (zval nb v) ∧ zval nb (v - u % v) = Int.fmod (zval na u) (zval nb v) := by
  have h1 := Nat.div_add_mod u v
  have h2 := Nat.mod_lt u (Nat.pos_of_ne_zero hv)
  generalize u / v = q at *
  generalize u % v = r at *
  subst h1
  have h3 : ((v - r : Nat) : Int) = (v : Int) - (r : Int) := by omega
  refine floor_unique ?_ ?_
  · cases na <;> cases nb <;> simp [zval, Int.mul_comm, Int.mul_neg, Int.mul_add, h3] at hn ⊢ <;> omega
  · cases nb <;> simp [zval] <;> omega
set_option maxRecDepth 4096 in
set_option maxHeartbeats 2000000 in
theorem whole_floor_no (na : Bool) (a : Option Addr) (n cap : Nat) (la : List Nat) (nb : Bool) (b : Option Addr) (m cap' : Nat) (lb : List Nat) (w : World) (ha : Wd w a n cap la) (hb : Wd w b m cap' lb) (hm : m ≤ 100000) (hy : zval nb (val lb) = 0) :
    Calls Tryz.prog 29 #[whV na a n cap, whV nb b m cap'] w (LstZZB 0 0 false w) := by
  have hB4 : Below w.heap.size w ((((w.alloc (.cells #[.bool na, .slice a n cap] 28)).alloc (.cells #[.bool nb, .slice b m cap'] 28)).alloc (.cells #[.bool false, .slice none 0 0] 28)).alloc (.cells #[.bool false, .slice none 0 0] 28)) := below_then (below_then (below_then (below_alloc _ _) (below_alloc _ _)) (below_alloc _ _)) (below_alloc _ _)
  have Ha := Lib.hid (ha.later hB4)
  have Hb := Lib.hid (hb.later hB4)
  have HB0 := Lib.hid hB4
  obtain ⟨p1, p2, p3, p4⟩ := boxes4_at w #[.bool na, .slice a n cap] #[.bool nb, .slice b m cap'] #[.bool false, .slice none 0 0] #[.bool false, .slice none 0 0] 28 28 28 28 ((((w.alloc (.cells #[.bool na, .slice a n cap] 28)).alloc (.cells #[.bool nb, .slice b m cap'] 28)).alloc (.cells #[.bool false, .slice none 0 0] 28)).alloc (.cells #[.bool false, .slice none 0 0] 28)) (Below.refl _ _)
  have HA0 := Lib.hid p1
  have HC0 := Lib.hid p2
  have HR0 := Lib.hid p3
  have HS0 := Lib.hid p4
  have hla := ha.trim_le
  have hlb := hb.trim_le
  have Hv0 : Hid (val lb = 0) := Lib.hid (by unfold zval at hy; cases nb <;> simp at hy <;> omega)
  clear ha hb hB4 p1 p2 p3 p4 hy hla hlb
  go_enter Tryz.func29, Tryz.ntmps29
  unfold whV
  go_wp2_with fail
  refine (quot_div_none a n cap b m cap' lb _ Hb.out (by omega) Hv0).mono ?_
  rintro e W ⟨qa, qn, qc, ra, rn, rc, rfl, h1, h2, b1⟩
  have HR1 := Lib.hid (blk_later HR0.out b1)
  have HS1 := Lib.hid (blk_later HS0.out b1)
  have HB := Lib.hid (below_then HB0.out b1)
  clear h1 h2 b1 HA0 HC0 HR0 HS0 HB0 Ha Hb
  have r0 := blk_cell HR1.out 0
  have r1 := blk_cell HR1.out 1
  have f0 := blk_free HR1.out 0
  have f1 := blk_free HR1.out 1
  have s0 := blk_cell HS1.out 0
  have s1 := blk_cell HS1.out 1
  have g0 := blk_free HS1.out 0
  have g1 := blk_free HS1.out 1
  simp only [List.getElem?_toArray, List.getElem?_cons_zero, List.getElem?_cons_succ] at r0 r1 s0 s1
  have HN1 := Lib.hid (blk_apart2 HS1.out (show w.heap.size + 1 + 1 + 1 ≠ w.heap.size + 1 + 1 by omega) (.bool false) (.slice none 0 0))
  have HG1 := Lib.hid (blk_apart2 (blk_set2 HR1.out (.bool false) (.slice none 0 0)) (show w.heap.size + 1 + 1 ≠ w.heap.size + 1 + 1 + 1 by omega) (.bool false) (.slice none 0 0))
  have HG2 := Lib.hid (blk_set2 HN1.out (.bool false) (.slice none 0 0))
  have HBz := Lib.hid (below_set2 (below_set2 HB.out (show w.heap.size ≤ w.heap.size + 1 + 1 by omega) (.bool false) (.slice none 0 0)) (show w.heap.size ≤ w.heap.size + 1 + 1 + 1 by omega) (.bool false) (.slice none 0 0))
  have HD0 : Hid (dg (0 : Int).natAbs = []) := Lib.hid (by rw [show (0 : Int).natAbs = 0 from rfl, dg_zero])
  go_wp2
  refine bodyPost_ret (results_rows2_tmp Tryz.results29 _ _ (w.heap.size + 1 + 1) (w.heap.size + 1 + 1 + 1) 28 28 #[.bool false, .slice none 0 0] #[.bool false, .slice none 0 0] (0, 0) (0, 0) _ _ rfl HG1.out Tryz.underlying28 rfl (by kernel_rfl) rfl HG2.out Tryz.underlying28 rfl (by kernel_rfl)) rfl ?_
  exact ⟨none, 0, 0, none, 0, 0, rfl, by rw [HD0.out]; exact Wd.ofNil _, by rw [HD0.out]; exact Wd.ofNil _, HBz.out⟩
end Go.Proofs.YtpjgmkkdbmegjaaGreat

/-
  Package whole at this seat: Floor, of numbers with one sign.
-/
namespace Go.Proofs.YtpjgmkkdbmegjaaGreat
open Go.RowKit

set_option maxRecDepth 4096 in
set_option maxHeartbeats 3000000 in
theorem whole_floor_like (na : Bool) (a : Option Addr) (n cap : Nat) (la : List Nat) (b : Option Addr) (m cap' : Nat) (lb : List Nat) (w : World) (ha : Wd w a n cap la) (hb : Wd w b m cap' lb) (hn : n ≤ 100000) (hm : m ≤ 100000) (hv0 : val lb ≠ 0) :
    Calls Tryz.prog 29 #[whV na a n cap, whV na b m cap'] w (LstZZB (Int.fdiv (zval na (val la)) (zval na (val lb))) (Int.fmod (zval na (val la)) (zval na (val lb))) true w) := by
  have hB4 : Below w.heap.size w ((((w.alloc (.cells #[.bool na, .slice a n cap] 28)).alloc (.cells #[.bool na, .slice b m cap'] 28)).alloc (.cells #[.bool false, .slice none 0 0] 28)).alloc (.cells #[.bool false, .slice none 0 0] 28)) := below_then (below_then (below_then (below_alloc _ _) (below_alloc _ _)) (below_alloc _ _)) (below_alloc _ _)
  have Ha := Lib.hid (ha.later hB4)
  have Hb := Lib.hid (hb.later hB4)
  have HB0 := Lib.hid hB4
  obtain ⟨p1, p2, p3, p4⟩ := boxes4_at w #[.bool na, .slice a n cap] #[.bool na, .slice b m cap'] #[.bool false, .slice none 0 0] #[.bool false, .slice none 0 0] 28 28 28 28 ((((w.alloc (.cells #[.bool na, .slice a n cap] 28)).alloc (.cells #[.bool na, .slice b m cap'] 28)).alloc (.cells #[.bool false, .slice none 0 0] 28)).alloc (.cells #[.bool false, .slice none 0 0] 28)) (Below.refl _ _)
  have HA0 := Lib.hid p1
  have HC0 := Lib.hid p2
  have HR0 := Lib.hid p3
  have HS0 := Lib.hid p4
  have hla := ha.trim_le
  have hlb := hb.trim_le
  have Hv0 := Lib.hid hv0
  have hq1 : (dg (val la / val lb)).length ≤ 100000 := Nat.le_trans (dg_length_mono (Nat.div_le_self _ _)) (by omega)
  have hr1 : (dg (val la % val lb)).length ≤ 100000 := Nat.le_trans (dg_length_mono (Nat.mod_le _ _)) (by omega)
  have Hq1 := Lib.hid hq1
  have Hr1 := Lib.hid hr1
  have Hlb := Lib.hid hlb
  clear ha hb hB4 p1 p2 p3 p4 hv0 hla hlb hq1 hr1
  have hq : (na == na) = true := by simp
  have HV := Lib.hid (floor_like (nb := na) (u := val la) Hv0.out)
  have HVq := Lib.hid HV.out.1
  have HVr := Lib.hid HV.out.2
  go_enter Tryz.func29, Tryz.ntmps29
  unfold whV
  go_wp2_with fail
  refine (quot_div a n cap la b m cap' lb _ Ha.out Hb.out (by omega) (by omega) Hv0).mono ?_
  rintro e W ⟨qa, qn, qc, ra, rn, rc, rfl, h1, h2, b1⟩
  have hqn : qn ≤ 16777214 := by have h7 := h1.len; have h8 := Hq1.out; omega
  have hrn : rn ≤ 16777214 := by have h7 := h2.len; have h8 := Hr1.out; omega
  have HA1 := Lib.hid (blk_later HA0.out b1)
  have HB1 := Lib.hid (blk_later HC0.out b1)
  have HR1 := Lib.hid (blk_later HR0.out b1)
  have HS1 := Lib.hid (blk_later HS0.out b1)
  have HQ := Lib.hid h1
  have HP := Lib.hid h2
  have HB := Lib.hid (below_then HB0.out b1)
  have Hb1 := Lib.hid (Hb.out.later b1)
  clear h1 h2 b1 HA0 HC0 HR0 HS0 HB0 Ha Hb
  obtain ⟨s0, s1, s2, s3⟩ := four_cells HA1.out HB1.out
  go_wp2
  have HAd : Hid (W.drew.heap[w.heap.size]? = _) := Lib.hid HA1.out
  have HBd : Hid (W.drew.heap[w.heap.size + 1]? = _) := Lib.hid HB1.out
  have HRd : Hid (W.drew.heap[w.heap.size + 1 + 1]? = _) := Lib.hid HR1.out
  have HSd : Hid (W.drew.heap[w.heap.size + 1 + 1 + 1]? = _) := Lib.hid HS1.out
  have Hd : Below W.heap.size W W.drew := (Below.refl _ _).drew
  have Sd := four_cells HAd.out HBd.out
  clear HA1 HB1 HR1 HS1
  go_region_held3 (fun w' => w'.cell? ⟨w.heap.size, 0, none⟩ = some (.bool na) ∧ w'.cell? ⟨w.heap.size, 1, none⟩ = some (.slice a n cap) ∧ w'.cell? ⟨w.heap.size + 1, 0, none⟩ = some (.bool na) ∧ w'.cell? ⟨w.heap.size + 1, 1, none⟩ = some (.slice b m cap')) (first | with_reducible exact Sd | with_reducible exact Sq1 | with_reducible exact Sq2 | with_reducible exact Sq3.out | with_reducible exact Sq4.out)
    (first
    | (go_at_call 56; (first
      | (have qm := M1; (refine (whole_signed na ra rn rc _ _ (HP.out.later (below_then Hd b5)) hrn).mono ?_); rintro e w6 ⟨a6, n6, c6, rfl, h6, b6⟩; have Sq2 := four_cells (blk_later hA5 b6) (blk_later hB5 b6); have Sq3 := Lib.hid (four_stored (g := w.heap.size + 1 + 1) (blk_later hA5 b6) (blk_later hB5 b6) (by omega) (by omega) (.bool (zneg (zval false (val la / val lb)))) (.slice a5 n5 c5)); have Sq4 := Lib.hid (four_stored (g := w.heap.size + 1 + 1 + 1) (blk_apart2 (blk_later hA5 b6) (show w.heap.size ≠ w.heap.size + 1 + 1 by omega) (.bool (zneg (zval false (val la / val lb)))) (.slice a5 n5 c5)) (blk_apart2 (blk_later hB5 b6) (show w.heap.size + 1 ≠ w.heap.size + 1 + 1 by omega) (.bool (zneg (zval false (val la / val lb)))) (.slice a5 n5 c5)) (by omega) (by omega) (.bool (zneg (zval na (val la % val lb)))) (.slice a6 n6 c6)); have hRb := blk_later HRd.out (below_then b5 b6); have hSb := blk_later HSd.out (below_then b5 b6); have r0 := blk_cell hRb 0; have r1 := blk_cell hRb 1; have f0 := blk_free hRb 0; have f1 := blk_free hRb 1; have s0 := blk_cell hSb 0; have s1 := blk_cell hSb 1; have g0 := blk_free hSb 0; have g1 := blk_free hSb 1; simp only [List.getElem?_toArray, List.getElem?_cons_zero, List.getElem?_cons_succ] at r0 r1 s0 s1; unfold whV)
      | ((refine (whole_signed false qa qn qc _ _ (HQ.out.later Hd) hqn).mono ?_); rintro e w5 ⟨a5, n5, c5, rfl, h5, b5⟩; have M1 := True.intro; have hA5 := blk_later HAd.out b5; have hB5 := blk_later HBd.out b5; have Sq1 := four_cells hA5 hB5; unfold whV))))
  have hBe := Lib.hid (below_then HB.out (below_then Hd (below_then b5 b6)))
  have H5 := Lib.hid (h5.later b6)
  have H6 := Lib.hid h6
  have hRl := Lib.hid hRb
  have hSl := Lib.hid hSb
  clear hRb hSb h5 h6 b5 b6 Sd HQ HP HB hA5 hB5 HAd HBd HRd HSd M1 Hd
  rw [HVq.out, HVr.out]
  rw [HVq.out] at H5
  rw [HVr.out] at H6
  generalize Int.fdiv (zval na (val la)) (zval na (val lb)) = zq at *
  generalize Int.fmod (zval na (val la)) (zval na (val lb)) = zr at *
  have HN1 := Lib.hid (blk_apart2 hSl.out (show w.heap.size + 1 + 1 + 1 ≠ w.heap.size + 1 + 1 by omega) (.bool (zneg zq)) (.slice a5 n5 c5))
  have HG1 := Lib.hid (blk_apart2 (blk_set2 hRl.out (.bool (zneg zq)) (.slice a5 n5 c5)) (show w.heap.size + 1 + 1 ≠ w.heap.size + 1 + 1 + 1 by omega) (.bool (zneg zr)) (.slice a6 n6 c6))
  have HG2 := Lib.hid (blk_set2 HN1.out (.bool (zneg zr)) (.slice a6 n6 c6))
  have HL5 := Lib.hid ((H5.out.stored2 hRl.out (zneg zq) (.slice a5 n5 c5)).stored2 HN1.out (zneg zr) (.slice a6 n6 c6))
  have HL6 := Lib.hid ((H6.out.stored2 hRl.out (zneg zq) (.slice a5 n5 c5)).stored2 HN1.out (zneg zr) (.slice a6 n6 c6))
  have HBz := Lib.hid (below_set2 (below_set2 hBe.out (show w.heap.size ≤ w.heap.size + 1 + 1 by omega) (.bool (zneg zq)) (.slice a5 n5 c5)) (show w.heap.size ≤ w.heap.size + 1 + 1 + 1 by omega) (.bool (zneg zr)) (.slice a6 n6 c6))
  go_wp2
  refine bodyPost_ret (results_rows2_tmp Tryz.results29 _ _ (w.heap.size + 1 + 1) (w.heap.size + 1 + 1 + 1) 28 28 #[.bool (zneg zq), .slice a5 n5 c5] #[.bool (zneg zr), .slice a6 n6 c6] (0, 0) (0, 0) _ _ rfl HG1.out Tryz.underlying28 rfl (by kernel_rfl) rfl HG2.out Tryz.underlying28 rfl (by kernel_rfl)) rfl ?_
  exact ⟨a5, n5, c5, a6, n6, c6, rfl, HL5.out, HL6.out, HBz.out⟩
end Go.Proofs.YtpjgmkkdbmegjaaGreat

/-
  Package whole at this seat: Floor, of numbers with two signs, where nothing is left.
-/
namespace Go.Proofs.YtpjgmkkdbmegjaaGreat
open Go.RowKit

set_option maxRecDepth 4096 in
set_option maxHeartbeats 3000000 in
theorem whole_floor_even (na : Bool) (a : Option Addr) (n cap : Nat) (la : List Nat) (nb : Bool) (b : Option Addr) (m cap' : Nat) (lb : List Nat) (w : World) (ha : Wd w a n cap la) (hb : Wd w b m cap' lb) (hn : n ≤ 100000) (hm : m ≤ 100000) (hv0 : val lb ≠ 0) (Hne : Hid (na ≠ nb)) (h0 : val la % val lb = 0) :
    Calls Tryz.prog 29 #[whV na a n cap, whV nb b m cap'] w (LstZZB (Int.fdiv (zval na (val la)) (zval nb (val lb))) (Int.fmod (zval na (val la)) (zval nb (val lb))) true w) := by
  have hB4 : Below w.heap.size w ((((w.alloc (.cells #[.bool na, .slice a n cap] 28)).alloc (.cells #[.bool nb, .slice b m cap'] 28)).alloc (.cells #[.bool false, .slice none 0 0] 28)).alloc (.cells #[.bool false, .slice none 0 0] 28)) := below_then (below_then (below_then (below_alloc _ _) (below_alloc _ _)) (below_alloc _ _)) (below_alloc _ _)
  have Ha := Lib.hid (ha.later hB4)
  have Hb := Lib.hid (hb.later hB4)
  have HB0 := Lib.hid hB4
  obtain ⟨p1, p2, p3, p4⟩ := boxes4_at w #[.bool na, .slice a n cap] #[.bool nb, .slice b m cap'] #[.bool false, .slice none 0 0] #[.bool false, .slice none 0 0] 28 28 28 28 ((((w.alloc (.cells #[.bool na, .slice a n cap] 28)).alloc (.cells #[.bool nb, .slice b m cap'] 28)).alloc (.cells #[.bool false, .slice none 0 0] 28)).alloc (.cells #[.bool false, .slice none 0 0] 28)) (Below.refl _ _)
  have HA0 := Lib.hid p1
  have HC0 := Lib.hid p2
  have HR0 := Lib.hid p3
  have HS0 := Lib.hid p4
  have hla := ha.trim_le
  have hlb := hb.trim_le
  have Hv0 := Lib.hid hv0
  have hq1 : (dg (val la / val lb)).length ≤ 100000 := Nat.le_trans (dg_length_mono (Nat.div_le_self _ _)) (by omega)
  have hr1 : (dg (val la % val lb)).length ≤ 100000 := Nat.le_trans (dg_length_mono (Nat.mod_le _ _)) (by omega)
  have Hq1 := Lib.hid hq1
  have Hr1 := Lib.hid hr1
  have Hlb := Lib.hid hlb
  clear ha hb hB4 p1 p2 p3 p4 hv0 hla hlb hq1 hr1
  have HV := Lib.hid (floor_even (u := val la) Hne.out Hv0.out h0)
  have HVq := Lib.hid HV.out.1
  have HVr := Lib.hid HV.out.2
  have Hz := Lib.hid (decide_eq_true h0)
  clear h0
  have hq : (na == nb) = false := by simp [Hne.out]
  go_enter Tryz.func29, Tryz.ntmps29
  unfold whV
  go_wp2_with fail
  refine (quot_div a n cap la b m cap' lb _ Ha.out Hb.out (by omega) (by omega) Hv0).mono ?_
  rintro e W ⟨qa, qn, qc, ra, rn, rc, rfl, h1, h2, b1⟩
  have hqn : qn ≤ 16777214 := by have h7 := h1.len; have h8 := Hq1.out; omega
  have hrn : rn ≤ 16777214 := by have h7 := h2.len; have h8 := Hr1.out; omega
  have HA1 := Lib.hid (blk_later HA0.out b1)
  have HB1 := Lib.hid (blk_later HC0.out b1)
  have HR1 := Lib.hid (blk_later HR0.out b1)
  have HS1 := Lib.hid (blk_later HS0.out b1)
  have HQ := Lib.hid h1
  have HP := Lib.hid h2
  have HB := Lib.hid (below_then HB0.out b1)
  have Hb1 := Lib.hid (Hb.out.later b1)
  clear h1 h2 b1 HA0 HC0 HR0 HS0 HB0 Ha Hb
  obtain ⟨s0, s1, s2, s3⟩ := four_cells HA1.out HB1.out
  go_wp2_with fail
  refine (natSaid.zero ra rn rc _ _ HP.out hrn).mono ?_
  rintro e W2 ⟨rfl, b⟩
  clear s0 s1 s2 s3
  replace HA1 := Lib.hid (blk_later HA1.out b)
  replace HB1 := Lib.hid (blk_later HB1.out b)
  replace HR1 := Lib.hid (blk_later HR1.out b)
  replace HS1 := Lib.hid (blk_later HS1.out b)
  replace HQ := Lib.hid (HQ.out.later b)
  replace HP := Lib.hid (HP.out.later b)
  replace Hb1 := Lib.hid (Hb1.out.later b)
  replace HB := Lib.hid (below_then HB.out b)
  clear b
  obtain ⟨s0, s1, s2, s3⟩ := four_cells HA1.out HB1.out
  rw [val_dg]
  rw [Hz.out]
  go_wp2
  have HAd : Hid (W2.drew.heap[w.heap.size]? = _) := Lib.hid HA1.out
  have HBd : Hid (W2.drew.heap[w.heap.size + 1]? = _) := Lib.hid HB1.out
  have HRd : Hid (W2.drew.heap[w.heap.size + 1 + 1]? = _) := Lib.hid HR1.out
  have HSd : Hid (W2.drew.heap[w.heap.size + 1 + 1 + 1]? = _) := Lib.hid HS1.out
  have Hd : Below W2.heap.size W2 W2.drew := (Below.refl _ _).drew
  have Sd := four_cells HAd.out HBd.out
  clear HA1 HB1 HR1 HS1
  go_region_held3 (fun w' => w'.cell? ⟨w.heap.size, 0, none⟩ = some (.bool na) ∧ w'.cell? ⟨w.heap.size, 1, none⟩ = some (.slice a n cap) ∧ w'.cell? ⟨w.heap.size + 1, 0, none⟩ = some (.bool nb) ∧ w'.cell? ⟨w.heap.size + 1, 1, none⟩ = some (.slice b m cap')) (first | with_reducible exact Sd | with_reducible exact Sq1 | with_reducible exact Sq2 | with_reducible exact Sq3.out | with_reducible exact Sq4.out)
    (first
    | (go_at_call 56; (first
      | (have qm := M1; (refine (whole_signed nb ra rn rc _ _ (HP.out.later (below_then Hd b5)) hrn).mono ?_); rintro e w6 ⟨a6, n6, c6, rfl, h6, b6⟩; have Sq2 := four_cells (blk_later hA5 b6) (blk_later hB5 b6); have Sq3 := Lib.hid (four_stored (g := w.heap.size + 1 + 1) (blk_later hA5 b6) (blk_later hB5 b6) (by omega) (by omega) (.bool (zneg (zval true (val la / val lb)))) (.slice a5 n5 c5)); have Sq4 := Lib.hid (four_stored (g := w.heap.size + 1 + 1 + 1) (blk_apart2 (blk_later hA5 b6) (show w.heap.size ≠ w.heap.size + 1 + 1 by omega) (.bool (zneg (zval true (val la / val lb)))) (.slice a5 n5 c5)) (blk_apart2 (blk_later hB5 b6) (show w.heap.size + 1 ≠ w.heap.size + 1 + 1 by omega) (.bool (zneg (zval true (val la / val lb)))) (.slice a5 n5 c5)) (by omega) (by omega) (.bool (zneg (zval nb (val la % val lb)))) (.slice a6 n6 c6)); have hRb := blk_later HRd.out (below_then b5 b6); have hSb := blk_later HSd.out (below_then b5 b6); have r0 := blk_cell hRb 0; have r1 := blk_cell hRb 1; have f0 := blk_free hRb 0; have f1 := blk_free hRb 1; have s0 := blk_cell hSb 0; have s1 := blk_cell hSb 1; have g0 := blk_free hSb 0; have g1 := blk_free hSb 1; simp only [List.getElem?_toArray, List.getElem?_cons_zero, List.getElem?_cons_succ] at r0 r1 s0 s1; unfold whV)
      | ((refine (whole_signed true qa qn qc _ _ (HQ.out.later Hd) hqn).mono ?_); rintro e w5 ⟨a5, n5, c5, rfl, h5, b5⟩; have M1 := True.intro; have hA5 := blk_later HAd.out b5; have hB5 := blk_later HBd.out b5; have Sq1 := four_cells hA5 hB5; unfold whV))))
  have hBe := Lib.hid (below_then HB.out (below_then Hd (below_then b5 b6)))
  have H5 := Lib.hid (h5.later b6)
  have H6 := Lib.hid h6
  have hRl := Lib.hid hRb
  have hSl := Lib.hid hSb
  clear hRb hSb h5 h6 b5 b6 Sd HQ HP HB hA5 hB5 HAd HBd HRd HSd M1 Hd
  rw [HVq.out, HVr.out]
  rw [HVq.out] at H5
  rw [HVr.out] at H6
  generalize Int.fdiv (zval na (val la)) (zval nb (val lb)) = zq at *
  generalize Int.fmod (zval na (val la)) (zval nb (val lb)) = zr at *
  have HN1 := Lib.hid (blk_apart2 hSl.out (show w.heap.size + 1 + 1 + 1 ≠ w.heap.size + 1 + 1 by omega) (.bool (zneg zq)) (.slice a5 n5 c5))
  have HG1 := Lib.hid (blk_apart2 (blk_set2 hRl.out (.bool (zneg zq)) (.slice a5 n5 c5)) (show w.heap.size + 1 + 1 ≠ w.heap.size + 1 + 1 + 1 by omega) (.bool (zneg zr)) (.slice a6 n6 c6))
  have HG2 := Lib.hid (blk_set2 HN1.out (.bool (zneg zr)) (.slice a6 n6 c6))
  have HL5 := Lib.hid ((H5.out.stored2 hRl.out (zneg zq) (.slice a5 n5 c5)).stored2 HN1.out (zneg zr) (.slice a6 n6 c6))
  have HL6 := Lib.hid ((H6.out.stored2 hRl.out (zneg zq) (.slice a5 n5 c5)).stored2 HN1.out (zneg zr) (.slice a6 n6 c6))
  have HBz := Lib.hid (below_set2 (below_set2 hBe.out (show w.heap.size ≤ w.heap.size + 1 + 1 by omega) (.bool (zneg zq)) (.slice a5 n5 c5)) (show w.heap.size ≤ w.heap.size + 1 + 1 + 1 by omega) (.bool (zneg zr)) (.slice a6 n6 c6))
  go_wp2
  refine bodyPost_ret (results_rows2_tmp Tryz.results29 _ _ (w.heap.size + 1 + 1) (w.heap.size + 1 + 1 + 1) 28 28 #[.bool (zneg zq), .slice a5 n5 c5] #[.bool (zneg zr), .slice a6 n6 c6] (0, 0) (0, 0) _ _ rfl HG1.out Tryz.underlying28 rfl (by kernel_rfl) rfl HG2.out Tryz.underlying28 rfl (by kernel_rfl)) rfl ?_
  exact ⟨a5, n5, c5, a6, n6, c6, rfl, HL5.out, HL6.out, HBz.out⟩
end Go.Proofs.YtpjgmkkdbmegjaaGreat

/-
  Package whole at this seat: Floor, of numbers with two signs, where something is left.
-/
namespace Go.Proofs.YtpjgmkkdbmegjaaGreat
open Go.RowKit

set_option maxRecDepth 4096 in
set_option maxHeartbeats 3000000 in
theorem whole_floor_down (na : Bool) (a : Option Addr) (n cap : Nat) (la : List Nat) (nb : Bool) (b : Option Addr) (m cap' : Nat) (lb : List Nat) (w : World) (ha : Wd w a n cap la) (hb : Wd w b m cap' lb) (hn : n ≤ 100000) (hm : m ≤ 100000) (hv0 : val lb ≠ 0) (Hne : Hid (na ≠ nb)) (h0 : val la % val lb ≠ 0) :
    Calls Tryz.prog 29 #[whV na a n cap, whV nb b m cap'] w (LstZZB (Int.fdiv (zval na (val la)) (zval nb (val lb))) (Int.fmod (zval na (val la)) (zval nb (val lb))) true w) := by
  have hB4 : Below w.heap.size w ((((w.alloc (.cells #[.bool na, .slice a n cap] 28)).alloc (.cells #[.bool nb, .slice b m cap'] 28)).alloc (.cells #[.bool false, .slice none 0 0] 28)).alloc (.cells #[.bool false, .slice none 0 0] 28)) := below_then (below_then (below_then (below_alloc _ _) (below_alloc _ _)) (below_alloc _ _)) (below_alloc _ _)
  have Ha := Lib.hid (ha.later hB4)
  have Hb := Lib.hid (hb.later hB4)
  have HB0 := Lib.hid hB4
  obtain ⟨p1, p2, p3, p4⟩ := boxes4_at w #[.bool na, .slice a n cap] #[.bool nb, .slice b m cap'] #[.bool false, .slice none 0 0] #[.bool false, .slice none 0 0] 28 28 28 28 ((((w.alloc (.cells #[.bool na, .slice a n cap] 28)).alloc (.cells #[.bool nb, .slice b m cap'] 28)).alloc (.cells #[.bool false, .slice none 0 0] 28)).alloc (.cells #[.bool false, .slice none 0 0] 28)) (Below.refl _ _)
  have HA0 := Lib.hid p1
  have HC0 := Lib.hid p2
  have HR0 := Lib.hid p3
  have HS0 := Lib.hid p4
  have hla := ha.trim_le
  have hlb := hb.trim_le
  have Hv0 := Lib.hid hv0
  have hq1 : (dg (val la / val lb)).length ≤ 100000 := Nat.le_trans (dg_length_mono (Nat.div_le_self _ _)) (by omega)
  have hr1 : (dg (val la % val lb)).length ≤ 100000 := Nat.le_trans (dg_length_mono (Nat.mod_le _ _)) (by omega)
  have Hq1 := Lib.hid hq1
  have Hr1 := Lib.hid hr1
  have Hlb := Lib.hid hlb
  clear ha hb hB4 p1 p2 p3 p4 hv0 hla hlb hq1 hr1
  have HV := Lib.hid (floor_down (u := val la) Hne.out Hv0.out h0)
  have HVq := Lib.hid HV.out.1
  have HVr := Lib.hid HV.out.2
  have Hz := Lib.hid (decide_eq_false h0)
  clear h0
  have hq : (na == nb) = false := by simp [Hne.out]
  go_enter Tryz.func29, Tryz.ntmps29
  unfold whV
  go_wp2_with fail
  refine (quot_div a n cap la b m cap' lb _ Ha.out Hb.out (by omega) (by omega) Hv0).mono ?_
  rintro e W ⟨qa, qn, qc, ra, rn, rc, rfl, h1, h2, b1⟩
  have hqn : qn ≤ 16777214 := by have h7 := h1.len; have h8 := Hq1.out; omega
  have hrn : rn ≤ 16777214 := by have h7 := h2.len; have h8 := Hr1.out; omega
  have HA1 := Lib.hid (blk_later HA0.out b1)
  have HB1 := Lib.hid (blk_later HC0.out b1)
  have HR1 := Lib.hid (blk_later HR0.out b1)
  have HS1 := Lib.hid (blk_later HS0.out b1)
  have HQ := Lib.hid h1
  have HP := Lib.hid h2
  have HB := Lib.hid (below_then HB0.out b1)
  have Hb1 := Lib.hid (Hb.out.later b1)
  clear h1 h2 b1 HA0 HC0 HR0 HS0 HB0 Ha Hb
  obtain ⟨s0, s1, s2, s3⟩ := four_cells HA1.out HB1.out
  go_wp2_with fail
  refine (natSaid.zero ra rn rc _ _ HP.out hrn).mono ?_
  rintro e W2 ⟨rfl, b⟩
  clear s0 s1 s2 s3
  replace HA1 := Lib.hid (blk_later HA1.out b)
  replace HB1 := Lib.hid (blk_later HB1.out b)
  replace HR1 := Lib.hid (blk_later HR1.out b)
  replace HS1 := Lib.hid (blk_later HS1.out b)
  replace HQ := Lib.hid (HQ.out.later b)
  replace HP := Lib.hid (HP.out.later b)
  replace Hb1 := Lib.hid (Hb1.out.later b)
  replace HB := Lib.hid (below_then HB.out b)
  clear b
  obtain ⟨s0, s1, s2, s3⟩ := four_cells HA1.out HB1.out
  rw [val_dg]
  rw [Hz.out]
  go_wp2_with fail
  refine (natSaid.of 1 _ (by omega)).mono ?_
  rintro e W3 ⟨oa, on, oc, rfl, ho, b⟩
  clear s0 s1 s2 s3
  replace HA1 := Lib.hid (blk_later HA1.out b)
  replace HB1 := Lib.hid (blk_later HB1.out b)
  replace HR1 := Lib.hid (blk_later HR1.out b)
  replace HS1 := Lib.hid (blk_later HS1.out b)
  replace HQ := Lib.hid (HQ.out.later b)
  replace HP := Lib.hid (HP.out.later b)
  replace Hb1 := Lib.hid (Hb1.out.later b)
  replace HB := Lib.hid (below_then HB.out b)
  clear b
  obtain ⟨s0, s1, s2, s3⟩ := four_cells HA1.out HB1.out
  have hon : on ≤ 1 := by rw [← ho.len]; exact dg_length_le (by decide)
  have HO := Lib.hid ho
  have hva : Hid (vals [dg (val la / val lb), dg 1] = val la / val lb + 1) := Lib.hid (by simp [vals, val_dg])
  clear ho
  go_wp2_with fail
  refine (natSaid.add _ _ _ _ _ (Wds.lit2 W3 22 HQ.out HO.out) (by omega) (by have h7 := Hq1.out; have h8 := HO.out.len; simp only [words]; omega)).mono ?_
  rintro e W4 ⟨pa, pn, pc, rfl, hp, b4⟩
  have b := below_then (below_alloc W3 _) b4
  clear s0 s1 s2 s3
  replace HA1 := Lib.hid (blk_later HA1.out b)
  replace HB1 := Lib.hid (blk_later HB1.out b)
  replace HR1 := Lib.hid (blk_later HR1.out b)
  replace HS1 := Lib.hid (blk_later HS1.out b)
  replace HP := Lib.hid (HP.out.later b)
  replace Hb1 := Lib.hid (Hb1.out.later b)
  replace HB := Lib.hid (below_then HB.out b)
  clear b b4 HQ
  rw [hva.out] at hp
  have HQ := Lib.hid hp
  have hpn : pn ≤ 16777214 := by have h7 := hp.len; have h8 := Hq1.out; have h9 := dg_add_length (val la / val lb) 1; have h10 : (dg 1).length ≤ 1 := dg_length_le (by decide); omega
  clear hp hqn
  have hle : Hid (val (dg (val la % val lb)) ≤ val lb) := Lib.hid (by rw [val_dg]; exact Nat.le_of_lt (Nat.mod_lt _ (Nat.pos_of_ne_zero Hv0.out)))
  obtain ⟨s0, s1, s2, s3⟩ := four_cells HA1.out HB1.out
  go_wp2_with fail
  refine (natSaid.sub_yes _ _ _ _ _ _ _ _ _ Hb1.out HP.out (by omega) hrn hle).mono ?_
  rintro e W5 ⟨ta, tn, tc, rfl, ht, b⟩
  clear s0 s1 s2 s3
  replace HA1 := Lib.hid (blk_later HA1.out b)
  replace HB1 := Lib.hid (blk_later HB1.out b)
  replace HR1 := Lib.hid (blk_later HR1.out b)
  replace HS1 := Lib.hid (blk_later HS1.out b)
  replace HQ := Lib.hid (HQ.out.later b)
  replace HB := Lib.hid (below_then HB.out b)
  rw [val_dg] at ht
  have htn : tn ≤ 16777214 := by have h7 := ht.len; have h8 := Hlb.out; have h9 := dg_length_mono (Nat.sub_le (val lb) (val la % val lb)); omega
  clear b HP
  have HP := Lib.hid ht
  clear ht hle
  obtain ⟨s0, s1, s2, s3⟩ := four_cells HA1.out HB1.out
  go_wp2
  have HAd : Hid (W5.drew.heap[w.heap.size]? = _) := Lib.hid HA1.out
  have HBd : Hid (W5.drew.heap[w.heap.size + 1]? = _) := Lib.hid HB1.out
  have HRd : Hid (W5.drew.heap[w.heap.size + 1 + 1]? = _) := Lib.hid HR1.out
  have HSd : Hid (W5.drew.heap[w.heap.size + 1 + 1 + 1]? = _) := Lib.hid HS1.out
  have Hd : Below W5.heap.size W5 W5.drew := (Below.refl _ _).drew
  have Sd := four_cells HAd.out HBd.out
  clear HA1 HB1 HR1 HS1
  go_region_held3 (fun w' => w'.cell? ⟨w.heap.size, 0, none⟩ = some (.bool na) ∧ w'.cell? ⟨w.heap.size, 1, none⟩ = some (.slice a n cap) ∧ w'.cell? ⟨w.heap.size + 1, 0, none⟩ = some (.bool nb) ∧ w'.cell? ⟨w.heap.size + 1, 1, none⟩ = some (.slice b m cap')) (first | with_reducible exact Sd | with_reducible exact Sq1 | with_reducible exact Sq2 | with_reducible exact Sq3.out | with_reducible exact Sq4.out)
    (first
    | (go_at_call 56; (first
      | (have qm := M1; (refine (whole_signed nb ta tn tc _ _ (HP.out.later (below_then Hd b5)) htn).mono ?_); rintro e w6 ⟨a6, n6, c6, rfl, h6, b6⟩; have Sq2 := four_cells (blk_later hA5 b6) (blk_later hB5 b6); have Sq3 := Lib.hid (four_stored (g := w.heap.size + 1 + 1) (blk_later hA5 b6) (blk_later hB5 b6) (by omega) (by omega) (.bool (zneg (zval true (val la / val lb + 1)))) (.slice a5 n5 c5)); have Sq4 := Lib.hid (four_stored (g := w.heap.size + 1 + 1 + 1) (blk_apart2 (blk_later hA5 b6) (show w.heap.size ≠ w.heap.size + 1 + 1 by omega) (.bool (zneg (zval true (val la / val lb + 1)))) (.slice a5 n5 c5)) (blk_apart2 (blk_later hB5 b6) (show w.heap.size + 1 ≠ w.heap.size + 1 + 1 by omega) (.bool (zneg (zval true (val la / val lb + 1)))) (.slice a5 n5 c5)) (by omega) (by omega) (.bool (zneg (zval nb (val lb - val la % val lb)))) (.slice a6 n6 c6)); have hRb := blk_later HRd.out (below_then b5 b6); have hSb := blk_later HSd.out (below_then b5 b6); have r0 := blk_cell hRb 0; have r1 := blk_cell hRb 1; have f0 := blk_free hRb 0; have f1 := blk_free hRb 1; have s0 := blk_cell hSb 0; have s1 := blk_cell hSb 1; have g0 := blk_free hSb 0; have g1 := blk_free hSb 1; simp only [List.getElem?_toArray, List.getElem?_cons_zero, List.getElem?_cons_succ] at r0 r1 s0 s1; unfold whV)
      | ((refine (whole_signed true pa pn pc _ _ (HQ.out.later Hd) hpn).mono ?_); rintro e w5 ⟨a5, n5, c5, rfl, h5, b5⟩; have M1 := True.intro; have hA5 := blk_later HAd.out b5; have hB5 := blk_later HBd.out b5; have Sq1 := four_cells hA5 hB5; unfold whV))))
  have hBe := Lib.hid (below_then HB.out (below_then Hd (below_then b5 b6)))
  have H5 := Lib.hid (h5.later b6)
  have H6 := Lib.hid h6
  have hRl := Lib.hid hRb
  have hSl := Lib.hid hSb
  clear hRb hSb h5 h6 b5 b6 Sd HQ HP HB hA5 hB5 HAd HBd HRd HSd M1 Hd
  rw [HVq.out, HVr.out]
  rw [HVq.out] at H5
  rw [HVr.out] at H6
  generalize Int.fdiv (zval na (val la)) (zval nb (val lb)) = zq at *
  generalize Int.fmod (zval na (val la)) (zval nb (val lb)) = zr at *
  have HN1 := Lib.hid (blk_apart2 hSl.out (show w.heap.size + 1 + 1 + 1 ≠ w.heap.size + 1 + 1 by omega) (.bool (zneg zq)) (.slice a5 n5 c5))
  have HG1 := Lib.hid (blk_apart2 (blk_set2 hRl.out (.bool (zneg zq)) (.slice a5 n5 c5)) (show w.heap.size + 1 + 1 ≠ w.heap.size + 1 + 1 + 1 by omega) (.bool (zneg zr)) (.slice a6 n6 c6))
  have HG2 := Lib.hid (blk_set2 HN1.out (.bool (zneg zr)) (.slice a6 n6 c6))
  have HL5 := Lib.hid ((H5.out.stored2 hRl.out (zneg zq) (.slice a5 n5 c5)).stored2 HN1.out (zneg zr) (.slice a6 n6 c6))
  have HL6 := Lib.hid ((H6.out.stored2 hRl.out (zneg zq) (.slice a5 n5 c5)).stored2 HN1.out (zneg zr) (.slice a6 n6 c6))
  have HBz := Lib.hid (below_set2 (below_set2 hBe.out (show w.heap.size ≤ w.heap.size + 1 + 1 by omega) (.bool (zneg zq)) (.slice a5 n5 c5)) (show w.heap.size ≤ w.heap.size + 1 + 1 + 1 by omega) (.bool (zneg zr)) (.slice a6 n6 c6))
  go_wp2
  refine bodyPost_ret (results_rows2_tmp Tryz.results29 _ _ (w.heap.size + 1 + 1) (w.heap.size + 1 + 1 + 1) 28 28 #[.bool (zneg zq), .slice a5 n5 c5] #[.bool (zneg zr), .slice a6 n6 c6] (0, 0) (0, 0) _ _ rfl HG1.out Tryz.underlying28 rfl (by kernel_rfl) rfl HG2.out Tryz.underlying28 rfl (by kernel_rfl)) rfl ?_
  exact ⟨a5, n5, c5, a6, n6, c6, rfl, HL5.out, HL6.out, HBz.out⟩
end Go.Proofs.YtpjgmkkdbmegjaaGreat

/-
  Package whole at this seat: what strings.CutPrefix does with a minus ahead.
-/
namespace Go.Proofs.YtpjgmkkdbmegjaaGreat
open Go.RowKit

/-- Whether a minus stands ahead. -/
def minusAhead : List UInt8 → Bool
  | [] => false
  | x :: _ => decide (x.toNat = 45)
theorem bs_first (x : UInt8) (r : List UInt8) : (bs (x :: r)).extract 0 1 = bs [x] := by
  unfold bs; rw [ByteArray.extract_mk]; simp
/-- What stands behind a minus. -/
def cutMinus (l : List UInt8) : List UInt8 := if minusAhead l = true then l.drop 1 else l
theorem cut_len (l : List UInt8) : (cutMinus l).length ≤ l.length ∧ l.length ≤ (cutMinus l).length + 1 := by
  unfold cutMinus; split <;> simp <;> omega
theorem cut_ok {l : List UInt8} (h : wrongI (cutMinus l) < 0) : zval (minusAhead l) (readV (cutMinus l)) = zread l := by
  cases l with
  | nil => exact absurd h (by decide)
  | cons x r =>
    unfold cutMinus minusAhead zread at *
    by_cases hx : x.toNat = 45
    · simp only [hx, decide_true, if_true, List.drop_succ_cons, List.drop_zero] at *
    · simp only [hx, decide_false, if_false, Bool.false_eq_true] at *
theorem cut_bad {l : List UInt8} (h : 0 ≤ wrongI (cutMinus l)) : wrongI (cutMinus l) + ((l.length : Int) - ((cutMinus l).length : Int)) = zwrong l := by
  cases l with
  | nil => rfl
  | cons x r =>
    unfold cutMinus minusAhead zwrong at *
    by_cases hx : x.toNat = 45
    · simp only [hx, decide_true, if_true, List.drop_succ_cons, List.drop_zero, List.length_cons] at *
      rw [if_neg (by omega)]
      omega
    · simp only [hx, decide_false, if_false, Bool.false_eq_true] at *
      omega
theorem cut_wrong (l : List UInt8) : zwrong l < 0 ↔ wrongI (cutMinus l) < 0 := by
  cases l with
  | nil => decide
  | cons x r =>
    unfold cutMinus minusAhead zwrong
    by_cases hx : x.toNat = 45
    · simp only [hx, decide_true, if_true, List.drop_succ_cons, List.drop_zero]
      split <;> omega
    · simp only [hx, decide_false, if_false, Bool.false_eq_true]
theorem bs_behind (x : UInt8) (r : List UInt8) : (bs (x :: r)).extract 1 (r.length + 1) = bs r := bs_rest x r
end Go.Proofs.YtpjgmkkdbmegjaaGreat

/-
  Plain mathematics: decimal digits in groups of nine. Nothing of the program.
-/
namespace Go.Proofs.YtpjgmkkdbmegjaaGreat

/-- The last k digits of a number. -/
def lowd : Nat → Nat → List UInt8
  | 0, _ => []
  | k + 1, n => lowd k (n / 10) ++ [dig (n % 10)]
theorem lowd_length (k n : Nat) : (lowd k n).length = k := by
  induction k generalizing n with
  | zero => rfl
  | succ k ih => rw [lowd, List.length_append, ih]; rfl
theorem txt_split (k n : Nat) (h : 10 ^ k ≤ n) : txt n = txt (n / 10 ^ k) ++ lowd k n := by
  induction k generalizing n with
  | zero => rw [lowd, List.append_nil, Nat.pow_zero, Nat.div_one]
  | succ k ih =>
    have hp : 0 < 10 ^ k := Nat.pow_pos (by decide)
    rw [Nat.pow_succ] at h
    rw [txt_big (by omega), ih (n / 10) (by omega), lowd, Nat.div_div_eq_div_mul, Nat.pow_succ, Nat.mul_comm 10, List.append_assoc]
theorem lowd_mod (k n : Nat) : lowd k (n % 10 ^ k) = lowd k n := by
  induction k generalizing n with
  | zero => rfl
  | succ k ih =>
    have h1 : n % 10 ^ (k + 1) / 10 = n / 10 % 10 ^ k := by
      rw [Nat.pow_succ, Nat.mul_comm, Nat.mod_mul_right_div_self]
    have h2 : n % 10 ^ (k + 1) % 10 = n % 10 := by rw [Nat.pow_succ]; exact Nat.mod_mod_of_dvd _ (Nat.dvd_mul_left _ _)
    rw [lowd, lowd, h1, h2, ih]
/-- A number in groups of nine digits, the lowest ones first. -/
def bil (n : Nat) : List Nat := if h : n < 1000000000 then [n] else (n % 1000000000) :: bil (n / 1000000000)
termination_by n
decreasing_by omega
theorem bil_small {n : Nat} (h : n < 1000000000) : bil n = [n] := by rw [bil]; simp [h]
theorem bil_big {n : Nat} (h : 1000000000 ≤ n) : bil n = (n % 1000000000) :: bil (n / 1000000000) := by rw [bil]; simp [show ¬ n < 1000000000 by omega]
def tx : List Nat → List UInt8
  | [] => []
  | [g] => txt g
  | g :: h :: r => tx (h :: r) ++ lowd 9 g
theorem bil_ne (n : Nat) : ∃ g r, bil n = g :: r := by
  by_cases h : n < 1000000000
  · exact ⟨_, _, bil_small h⟩
  · exact ⟨_, _, bil_big (by omega)⟩
theorem tx_cons (g : Nat) (r : List Nat) (h : r ≠ []) : tx (g :: r) = tx r ++ lowd 9 g := by
  cases r with
  | nil => exact absurd rfl h
  | cons x r => rfl
theorem tx_bil (n : Nat) : tx (bil n) = txt n := by
  induction n using Nat.strongRecOn with
  | _ n ih =>
    by_cases h : n < 1000000000
    · rw [bil_small h]; rfl
    · obtain ⟨g, r, hg⟩ := bil_ne (n / 1000000000)
      rw [bil_big (by omega), tx_cons _ _ (by rw [hg]; simp), ih _ (by omega), txt_split 9 n (by omega), show (10 : Nat) ^ 9 = 1000000000 from by decide]
      have := lowd_mod 9 n
      rw [show (10 : Nat) ^ 9 = 1000000000 from by decide] at this
      rw [this]
theorem bil_lt (n : Nat) : ∀ g ∈ bil n, g < 1000000000 := by
  induction n using Nat.strongRecOn with
  | _ n ih =>
    by_cases h : n < 1000000000
    · rw [bil_small h]; intro g hg; simp at hg; omega
    · rw [bil_big (by omega)]
      intro g hg
      rcases List.mem_cons.1 hg with h1 | h1
      · omega
      · exact ih _ (by omega) g h1
theorem okw_bil (n : Nat) : okw (bil n) := fun g hg => by have := bil_lt n g hg; omega
theorem atw_bil (n k : Nat) : atw (bil n) k < 1000000000 := by
  by_cases h : k < (bil n).length
  · unfold atw
    rw [List.getD_eq_getElem?_getD, List.getElem?_eq_getElem h]
    exact bil_lt n _ (List.getElem_mem h)
  · unfold atw
    rw [List.getD_eq_getElem?_getD, List.getElem?_eq_none (by omega)]
    decide
theorem bil_length_le {n k : Nat} (h : n < 2 ^ k) : (bil n).length ≤ k + 1 := by
  induction k generalizing n with
  | zero => rw [bil_small (by simp at h; omega)]; simp
  | succ k ih =>
    by_cases h1 : n < 1000000000
    · rw [bil_small h1]; simp
    · rw [bil_big (by omega), List.length_cons]
      have := ih (n := n / 1000000000) (by rw [Nat.pow_succ] at h; omega)
      omega
/-- Nine digits, noughts ahead and all. -/
theorem pad_txt {g : Nat} (h : g < 1000000000) : txt (1000000000 + g) = 49 :: lowd 9 g := by
  have h1 := lowd_mod 9 (1000000000 + g)
  have hp : (10 : Nat) ^ 9 = 1000000000 := by decide
  rw [txt_split 9 _ (by omega), ← h1, hp, show (1000000000 + g) / 1000000000 = 1 by omega, show (1000000000 + g) % 1000000000 = g by omega, txt_small (by decide)]
  rfl
/-- Groups are written from the highest one down: s is the text of those from place k on. -/
def TxAt (L : List Nat) (k : Nat) (s : List UInt8) : Prop := k < L.length ∧ s = tx (L.drop k)
theorem tx_start {L : List Nat} {m : Nat} (h : L.length = m + 1) : TxAt L m (txt (atw L m)) := by
  refine ⟨by omega, ?_⟩
  rw [List.drop_eq_getElem_cons (show m < L.length by omega), List.drop_of_length_le (show L.length ≤ m + 1 by omega)]
  unfold atw
  rw [List.getD_eq_getElem?_getD, List.getElem?_eq_getElem (show m < L.length by omega)]
  rfl
theorem tx_step {L : List Nat} {k : Nat} {s : List UInt8} (h : TxAt L (k + 1) s) : TxAt L k (s ++ lowd 9 (atw L k)) := by
  obtain ⟨h1, h2⟩ := h
  refine ⟨by omega, ?_⟩
  have h3 : L.drop (k + 1) ≠ [] := by
    intro h4
    have := congrArg List.length h4
    rw [List.length_drop] at this
    simp at this
    omega
  rw [List.drop_eq_getElem_cons (show k < L.length by omega), tx_cons _ _ h3, ← h2]
  unfold atw
  rw [List.getD_eq_getElem?_getD, List.getElem?_eq_getElem (show k < L.length by omega)]
  rfl
theorem tx_end {n : Nat} {s : List UInt8} (h : TxAt (bil n) 0 s) : s = txt n := by
  rw [h.2, List.drop_zero, tx_bil]
theorem tx_length {n k : Nat} {s : List UInt8} (h : TxAt (bil n) k s) : s.length ≤ (txt n).length := by
  have key : ∀ (k : Nat) (s : List UInt8), TxAt (bil n) k s → s.length ≤ (txt n).length := by
    intro k
    induction k with
    | zero => intro s h; rw [tx_end h]; exact Nat.le_refl _
    | succ k ih =>
      intro s h
      have := ih _ (tx_step h)
      rw [List.length_append] at this
      omega
  exact key k s h
end Go.Proofs.YtpjgmkkdbmegjaaGreat

/-
  Numerals by the library (strconv.AppendUint, FormatUint at base 10) at this seat, out of the shelf's contracts.
-/
namespace Go.Proofs.YtpjgmkkdbmegjaaGreat
open Go.RowKit

theorem dec_txt (u : Nat) : Lib.decDigits u = txt u := by
  induction u using Nat.strongRecOn with
  | _ u ih =>
    by_cases h : u < 10
    · rw [Lib.decDigits, dif_pos h, txt_small h]; rfl
    · rw [Lib.decDigits, dif_neg h, txt_big (by omega), ih _ (by omega)]; rfl
end Go.Proofs.YtpjgmkkdbmegjaaGreat

/-
  The public strconv.AppendUint and FormatUint at base 10.
-/
namespace Go.Proofs.YtpjgmkkdbmegjaaGreat
open Go.RowKit

end Go.Proofs.YtpjgmkkdbmegjaaGreat

/-
  Package digits at this seat: full, groups.
-/
namespace Go.Proofs.YtpjgmkkdbmegjaaGreat
open Go.RowKit

theorem Wd.heldA {w : World} {a : Option Addr} {n cap : Nat} {l : List Nat} (h : Wd w a n cap l) : heldVal w (.slice a n cap) = val l := by
  cases a with
  | none => obtain ⟨rfl, rfl, rfl⟩ := h.ofNone; rfl
  | some ad =>
    by_cases hn : n = 0
    · subst hn
      have h0 : l = [] := List.eq_nil_of_length_eq_zero h.len
      subst h0
      rfl
    · obtain ⟨b, off, e, _⟩ := h.at (by omega)
      cases e
      exact h.held
end Go.Proofs.YtpjgmkkdbmegjaaGreat

/-
  Package digits at this seat: Text, Len.
-/
namespace Go.Proofs.YtpjgmkkdbmegjaaGreat
open Go.RowKit

theorem infoU8 : (Tryz.prog.info? 5).map (fun i => (i.zero, i.size, i.bytes)) = some (some (.int .u8 0), 1, 1) := by kernel_rfl
theorem strCells_bs (s : List UInt8) : Lib.strCells (bs s) = Lib.byteCells s := rfl
theorem txAt_zero {v : Nat} {s : List UInt8} (h : TxAt (bil v) 0 s) : s = txt v := tx_end h
end Go.Proofs.YtpjgmkkdbmegjaaGreat

/-
  The contracts of package prod (layer 4) at this seat: Word, All.
-/
namespace Go.Proofs.YtpjgmkkdbmegjaaGreat
open Go.RowKit

theorem Wds.take {w : World} {a : Option Addr} {n cap : Nat} {ls : List (List Nat)} (h : Wds w a n cap ls) {k : Nat} (hk : k ≤ n) : Wds w a k cap (ls.take k) := by
  obtain ⟨h1, h2, h3, h4, h5⟩ := h
  refine ⟨by rw [List.length_take]; omega, by omega, h3, h4, ?_⟩
  rcases h5 with h0 | ⟨b, off, e, hc⟩
  · exact .inl (by omega)
  · refine .inr ⟨b, off, e, fun j hj => ?_⟩
    obtain ⟨a', n', c', h6, h7⟩ := hc j (by omega)
    refine ⟨a', n', c', h6, ?_⟩
    rwa [List.getD_eq_getElem?_getD, List.getElem?_take, if_pos hj, ← List.getD_eq_getElem?_getD]
theorem Wds.drop {w : World} {b off m cap q : Nat} {ls : List (List Nat)} (h : Wds w (some ⟨b, off, none⟩) (q + m) cap ls) : Wds w (some ⟨b, off + q, none⟩) m (cap - q) (ls.drop q) := by
  have h1 := h.bound
  have h2 := h.len
  refine ⟨by rw [List.length_drop]; omega, by omega, by omega, fun e => (by cases e), ?_⟩
  rcases h.2.2.2.2 with h0 | ⟨b', off', e, hc⟩
  · exact .inl (by omega)
  · simp only [Option.some.injEq, Addr.mk.injEq, and_true] at e
    obtain ⟨rfl, rfl⟩ := e
    refine .inr ⟨b, off + q, rfl, fun j hj => ?_⟩
    obtain ⟨a', n', c', h6, h7⟩ := hc (q + j) (by omega)
    exact ⟨a', n', c', by rw [Nat.add_assoc]; exact h6, by rwa [List.getD_eq_getElem?_getD, List.getElem?_drop, ← List.getD_eq_getElem?_getD]⟩

set_option maxRecDepth 4096 in
set_option maxHeartbeats 1000000 in
theorem prod_word (a : Option Addr) (n cap : Nat) (l : List Nat) (x c0 : Nat) (w : World) (h : Wd w a n cap l) (hn : n ≤ 4000000) (hx : x < 4294967296) (hc0 : c0 < 4294967296) :
    Calls Tryz.prog 110 #[.slice a n cap, .int .u32 (x : Int), .int .u32 (c0 : Int)] w (Lst (dg (val l * x + c0)) w) := by
  obtain ⟨i0, hi, hz0, hz1, hz2⟩ := info_parts infoU32
  have H := Lib.hid h
  clear h
  go_enter Tryz.func110, Tryz.ntmps110
  go_wp2_with (at_make; refine wpList_make_words _ rfl _ _ 22 rfl w.heap.size 50 i0 (.int .u32 0) Tryz.underlying22 hi hz0 hz1 rfl .i64 .i64 _ _ 0 (n + 1) rfl rfl (by omega) (by omega) (by omega) (by rw [hz2]; omega) (by unfold maxLen; omega) (Nat.le_refl _) ?_; intro w1 hown1 hgrow1)
  rw [zeros_cells] at hown1
  have HO1 : Hid (Own w1 w.heap.size w.heap.size 0 (n + 1) []) := Lib.hid ⟨hown1, okw_nil⟩
  have hB1 : Below w.heap.size w w1 := (Below.refl _ _).grown hgrow1 (Nat.le_refl _) (fun k hk => by cases hk)
  clear hown1 hgrow1
  go_loopw [7, 8, 19] (fun s cv i wr => ∃ (j c g cap2 : Nat) (o : List Nat), j ≤ n ∧ i = .int .i64 (j : Int) ∧ cv = .int .u32 (c : Int) ∧ c < 4294967296 ∧ s = .slice (some ⟨g, 0, none⟩) j cap2 ∧ Hid (o.length = j) ∧ Hid (val o + 4294967296 ^ j * c = low l j * x + c0) ∧ Hid (Own wr w.heap.size g j cap2 o) ∧ Below w.heap.size w wr) (fun _ _ i _ => n - (intOf i).toNat)
  case atStart => exact ⟨0, c0, _, _, [], by omega, rfl, rfl, hc0, rfl, Lib.hid rfl, Lib.hid (by rw [low_zero]; simp [val]), HO1, hB1⟩
  case round =>
    clear HO1 hB1
    obtain ⟨j, c, g, cap2, o, hj, rfl, rfl, hc, rfl, Hol, Hv, HO, hB⟩ := hrel
    have hbase : w.heap.size ≤ wr.heap.size := hB.size
    by_cases hlt : j < n
    · obtain ⟨b, off, rfl, hcl⟩ := (H.out.later hB).at (by omega)
      have hck := hcl j hlt
      have hyw := atw_lt H.out.ok j
      obtain ⟨y, hyy⟩ : ∃ y, y = atw l j := ⟨_, rfl⟩
      rw [← hyy] at hyw hck
      have Hy := Lib.hid hyy
      have hj1 : (j : Int) < (n : Int) := by omega
      clear hcl hyy
      go_wp2_with fail
      refine (limb_mul_nat3 y x c _ hyw hx hc).mono ?_
      rintro e w' ⟨c2, z, rfl, hc2, hz, Hs, rfl⟩
      go_wp2_with (at_builtin; refine wpList_append_own _ rfl _ _ 22 rfl w.heap.size 50 i0 (.int .u32 0) 1 4 Tryz.underlying22 hi hz0 hz1 hz2 rfl (by decide) _ j _ rfl (HO.out.1.alloc _) ⟨wr.heap.size, 0, none⟩ 1 1 (wcells [z]) rfl rfl (Wd.lit1 wr 50 (x := z) hz).cells (wcells_one _) (by unfold maxLen; omega) (by omega) (by simp; omega) ?_)
      intro v' w2 hown hgrow _
      obtain ⟨g2, cap3, rfl, HO2⟩ := Own.push (r := z) hown HO.out.2 hz
      have HO' := Lib.hid HO2
      have hb := HO.out.base
      have hB1 : Below w.heap.size w w2 := (hB.alloc hbase _).grown hgrow (by simp; omega) (by intro k hk; simp [Value.ownBlock] at hk; omega)
      clear HO2 hown hgrow
      go_wp2
      go_roundw
      case rel => exact ⟨j + 1, c2, g2, cap3, o ++ [z], by omega, by go_num, rfl, hc2, rfl, Lib.hid (by have := Hol.out; simp; omega), Lib.hid (word_step Hol.out Hv.out (by rw [← Hy.out]; exact Hs.out)), HO', hB1⟩
      case measure => simp [intOf]; omega
    · obtain rfl : j = n := by omega
      have Hv2 : Hid (val (o ++ [c]) = val l * x + c0) := Lib.hid (by rw [val_snoc, Hol.out, Hv.out, low_ge (by rw [H.out.len]; omega)])
      clear hlt Hv
      go_wp2_with (at_builtin; refine wpList_append_own _ rfl _ _ 22 rfl w.heap.size 50 i0 (.int .u32 0) 1 4 Tryz.underlying22 hi hz0 hz1 hz2 rfl (by decide) _ j _ rfl (HO.out.1.alloc _) ⟨_, 0, none⟩ 1 1 (wcells [c]) rfl rfl (Wd.lit1 _ 50 (x := c) hc).cells (wcells_one _) (by unfold maxLen; omega) (by omega) (by simp; omega) ?_)
      intro v' w2 hown hgrow _
      obtain ⟨g2, cap3, rfl, HO2⟩ := Own.push (r := c) hown HO.out.2 hc
      have HO' := Lib.hid HO2
      have hb := HO.out.base
      have hB1 : Below w.heap.size w w2 := (hB.alloc hbase _).grown hgrow (by simp; omega) (by intro k hk; simp [Value.ownBlock] at hk; omega)
      clear HO2 hown hgrow
      go_wp2_with fail
      refine (natSaid.norm _ _ _ _ _ HO'.out.wd (by omega)).mono ?_
      rintro e w' ⟨a', n', c', rfl, hwd, hbel⟩
      rw [Hv2.out] at hwd
      have HWD := Lib.hid hwd
      clear hwd
      go_wp2
      go_ret
      exact ⟨_, _, _, rfl, HWD.out, below_then hB1 hbel⟩
end Go.Proofs.YtpjgmkkdbmegjaaGreat

/-
  Package digits at this seat: wrongAt, Read.
-/
namespace Go.Proofs.YtpjgmkkdbmegjaaGreat
open Go.RowKit

theorem results_tmp_cell {P : Program} {fn : Func} {p u : Tmp} {ty : TypeId} (h : fn.results = #[.tmp u, .cell p ty]) (tmps : Array Value) (w : World) (g : Nat) (t : TypeId) (cs : Array Value) (fr : Nat × Nat) (d : TypeDesc)
    (hp : tmps.getD p undef = .pointer (some ⟨g, 0, none⟩)) (hg : w.heap[g]? = some (.cells cs t fr))
    (hu : P.underlying ty = some d) (hd : (match d with | .struct _ | .array _ _ => true | _ => false) = true) (hi : (P.info? ty).map (·.size) = some cs.size) :
    (results fn tmps).run P w = .ok (.tuple #[tmps.getD u undef, .agg cs]) w := by
  have hp' : tmps[p]?.getD undef = .pointer (some ⟨g, 0, none⟩) := by simpa using hp
  simp [results, h, hp', asAddr, run_loadVar_row w g t ty cs fr d hg hu hd hi, Result.andThen]
theorem blk_set4 {w : World} {g : Nat} {x y z u : Value} {t : TypeId} (h : w.heap[g]? = some (.cells #[x, y, z, u] t (0, 0))) (x' y' z' u' : Value) : ((((w.setCell ⟨g, 0, none⟩ x').setCell ⟨g, 1, none⟩ y').setCell ⟨g, 2, none⟩ z').setCell ⟨g, 3, none⟩ u').heap[g]? = some (.cells #[x', y', z', u'] t (0, 0)) := by
  have h1 := blk_set (blk_set (blk_set (blk_set h 0 x') 1 y') 2 z') 3 u'
  simpa using h1
theorem no_words4 {a b c d : Int} : ∀ (j : Nat) (k : Int), (#[Value.int .i64 a, .int .i64 b, .int .i64 c, .int .i64 d] : Array Value)[j]? ≠ some (.int .u32 k) := by
  intro j k
  match j with
  | 0 => simp
  | 1 => simp
  | 2 => simp
  | 3 => simp
  | j + 4 => simp
theorem Wd.stored4 {w : World} {a : Option Addr} {n cap : Nat} {l : List Nat} (h : Wd w a n cap l) {g : Nat} {x0 x1 x2 x3 : Int} {t : TypeId} (hg : w.heap[g]? = some (.cells #[.int .i64 x0, .int .i64 x1, .int .i64 x2, .int .i64 x3] t (0, 0))) (y0 y1 y2 y3 : Int) :
    Wd ((((w.setCell ⟨g, 0, none⟩ (.int .i64 y0)).setCell ⟨g, 1, none⟩ (.int .i64 y1)).setCell ⟨g, 2, none⟩ (.int .i64 y2)).setCell ⟨g, 3, none⟩ (.int .i64 y3)) a n cap l := by
  have h0 := h.stored hg no_words4 0 (.int .i64 y0)
  have g0 : (w.setCell ⟨g, 0, none⟩ (.int .i64 y0)).heap[g]? = some (.cells #[.int .i64 y0, .int .i64 x1, .int .i64 x2, .int .i64 x3] t (0, 0)) := by simpa using blk_set hg 0 (.int .i64 y0)
  have h1 := h0.stored g0 no_words4 1 (.int .i64 y1)
  have g1 : ((w.setCell ⟨g, 0, none⟩ (.int .i64 y0)).setCell ⟨g, 1, none⟩ (.int .i64 y1)).heap[g]? = some (.cells #[.int .i64 y0, .int .i64 y1, .int .i64 x2, .int .i64 x3] t (0, 0)) := by simpa using blk_set g0 1 (.int .i64 y1)
  have h2 := h1.stored g1 no_words4 2 (.int .i64 y2)
  have g2 : (((w.setCell ⟨g, 0, none⟩ (.int .i64 y0)).setCell ⟨g, 1, none⟩ (.int .i64 y1)).setCell ⟨g, 2, none⟩ (.int .i64 y2)).heap[g]? = some (.cells #[.int .i64 y0, .int .i64 y1, .int .i64 y2, .int .i64 x3] t (0, 0)) := by simpa using blk_set g1 2 (.int .i64 y2)
  exact h2.stored g2 no_words4 3 (.int .i64 y3)
theorem below_set4 {w w1 : World} {g : Nat} (h : Below w.heap.size w w1) (hg : w.heap.size ≤ g) (x y z u : Value) : Below w.heap.size w ((((w1.setCell ⟨g, 0, none⟩ x).setCell ⟨g, 1, none⟩ y).setCell ⟨g, 2, none⟩ z).setCell ⟨g, 3, none⟩ u) :=
  (((h.setCell (p := ⟨g, 0, none⟩) hg x).setCell (p := ⟨g, 1, none⟩) hg y).setCell (p := ⟨g, 2, none⟩) hg z).setCell (p := ⟨g, 3, none⟩) hg u
end Go.Proofs.YtpjgmkkdbmegjaaGreat

/-
  Package whole at this seat: Read.
-/
namespace Go.Proofs.YtpjgmkkdbmegjaaGreat
open Go.RowKit

theorem blk_drew {w : World} {g : Nat} {o : Obj} (h : w.heap[g]? = some o) : w.drew.heap[g]? = some o := h
theorem wrongI_len (l : List UInt8) : wrongI l ≤ l.length := by
  have hr := @wrongFrom_range l 0
  unfold wrongI
  split <;> omega
theorem blk_apart4 {w : World} {A g : Nat} {o : Obj} (h : w.heap[A]? = some o) (hne : A ≠ g) (x y z u : Value) : ((((w.setCell ⟨g, 0, none⟩ x).setCell ⟨g, 1, none⟩ y).setCell ⟨g, 2, none⟩ z).setCell ⟨g, 3, none⟩ u).heap[A]? = some o :=
  blk_apart (blk_apart (blk_apart (blk_apart h hne 0 x) hne 1 y) hne 2 z) hne 3 u
end Go.Proofs.YtpjgmkkdbmegjaaGreat

/-
  What package digits' functions owe, proved.
-/
namespace Go.Proofs.YtpjgmkkdbmegjaaGreat
open Go.RowKit

theorem digitsSaid : DigitsSaid where
end Go.Proofs.YtpjgmkkdbmegjaaGreat

/-
  What package whole's functions owe, proved.
-/
namespace Go.Proofs.YtpjgmkkdbmegjaaGreat
open Go.RowKit

theorem whole_floor_yes (na : Bool) (a : Option Addr) (n cap : Nat) (la : List Nat) (nb : Bool) (b : Option Addr) (m cap' : Nat) (lb : List Nat) (w : World) (ha : Wd w a n cap la) (hb : Wd w b m cap' lb) (hn : n ≤ 100000) (hm : m ≤ 100000) (hy : zval nb (val lb) ≠ 0) :
    Calls Tryz.prog 29 #[whV na a n cap, whV nb b m cap'] w (LstZZB (Int.fdiv (zval na (val la)) (zval nb (val lb))) (Int.fmod (zval na (val la)) (zval nb (val lb))) true w) := by
  have hv : val lb ≠ 0 := fun h => hy (by rw [h]; cases nb <;> rfl)
  by_cases hne : na = nb
  · subst hne; exact whole_floor_like na a n cap la b m cap' lb w ha hb hn hm hv
  · by_cases h0 : val la % val lb = 0
    · exact whole_floor_even na a n cap la nb b m cap' lb w ha hb hn hm hv (Lib.hid hne) h0
    · exact whole_floor_down na a n cap la nb b m cap' lb w ha hb hn hm hv (Lib.hid hne) h0
theorem wholeSaid : WholeSaid where
  norm := fun neg a n cap l z w h hn hz => by subst hz; exact whole_norm neg a n cap l w h (by omega)
  of := fun z w hz => whole_of z w hz
  sign := fun neg a n cap l z w h hn hz => by subst hz; exact whole_sign neg a n cap l w h (by omega)
  cmp := fun na a n cap la x nb b m cap' lb y w ha hb hn hm hx hy => by subst hx; subst hy; exact whole_cmp na a n cap la nb b m cap' lb w ha hb (by omega) (by omega)
  mul := fun na a n cap la x nb b m cap' lb y w ha hb hn hm hx hy => by subst hx; subst hy; exact whole_mul na a n cap la nb b m cap' lb w ha hb (by omega) (by omega)
  floor_no := fun na a n cap la x nb b m cap' lb y w ha hb _ hm hx hy h0 => by subst hx; subst hy; exact whole_floor_no na a n cap la nb b m cap' lb w ha hb (by omega) h0
  floor := fun na a n cap la x nb b m cap' lb y w ha hb hn hm hx hy h0 => by subst hx; subst hy; exact whole_floor_yes na a n cap la nb b m cap' lb w ha hb (by omega) (by omega) h0
end Go.Proofs.YtpjgmkkdbmegjaaGreat

/-
  What package common's functions owe (layer 6), as one hypothesis: the contracts that the laws' walks lean on.
-/
namespace Go.Proofs.YtpjgmkkdbmegjaaGreat
open Go.RowKit

/-- Two lists of words come back. -/
def Pair2 (p q : List Nat) (w : World) (e : Ending) (w' : World) : Prop :=
  ∃ (a : Option Addr) (n cap : Nat) (b : Option Addr) (m cap' : Nat), e = .returned (.tuple #[.slice a n cap, .slice b m cap']) ∧ Wd w' a n cap p ∧ Wd w' b m cap' q ∧ Below w.heap.size w w'
/-- The common divisor of the values of lists. -/
def gcds : List (List Nat) → Nat
  | [] => 0
  | l :: r => Nat.gcd (val l) (gcds r)
theorem gcds_append (a b : List (List Nat)) : gcds (a ++ b) = Nat.gcd (gcds a) (gcds b) := by
  induction a with
  | nil => simp [gcds]
  | cons l r ih => simp [gcds, ih, Nat.gcd_assoc]
theorem gcds_take (ls : List (List Nat)) (k : Nat) (hk : k < ls.length) : gcds (ls.take (k + 1)) = Nat.gcd (gcds (ls.take k)) (val (ls.getD k [])) := by
  rw [List.take_succ_eq_append_getElem hk, gcds_append, List.getD_eq_getElem?_getD, List.getElem?_eq_getElem hk]; simp [gcds]
structure CommonSaid : Prop where
  gcd : ∀ (a : Option Addr) (n cap : Nat) (la : List Nat) (b : Option Addr) (m cap' : Nat) (lb : List Nat) (w : World), Wd w a n cap la → Wd w b m cap' lb → n ≤ 1000 → m ≤ 1000 →
    Calls Tryz.prog 86 #[.slice a n cap, .slice b m cap'] w (Lst (dg (Nat.gcd (val la) (val lb))) w)
  cancel : ∀ (a : Option Addr) (n cap : Nat) (la : List Nat) (b : Option Addr) (m cap' : Nat) (lb : List Nat) (w : World), Wd w a n cap la → Wd w b m cap' lb → n ≤ 1000 → m ≤ 1000 →
    Calls Tryz.prog 64 #[.slice a n cap, .slice b m cap'] w (Pair2 (dg (val la / Nat.gcd (val la) (val lb))) (dg (val lb / Nat.gcd (val la) (val lb))) w)
end Go.Proofs.YtpjgmkkdbmegjaaGreat
