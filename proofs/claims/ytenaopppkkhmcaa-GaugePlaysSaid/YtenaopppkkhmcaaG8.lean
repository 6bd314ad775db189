/-
  Several texts of this claim as one, group 8.
-/
import Derived.Test.YtenaopppkkhmcaaG7
import Derived.Deep.RegionHeld3
import Derived.WalkKit
import Derived.ProofKit
import Derived.OpenShut
import Derived.Test.YtenaopppkkhmcaaG3
import Derived.Test.YtenaopppkkhmcaaG6
import Derived.Deep.AppendLies
import Derived.Deep.RegionLaw
import Derived.Test.YtenaopppkkhmcaaG5
/-
  Package frac at this seat: Mul, Quo, Ratio.
-/
namespace Go.Proofs.Ytenaopppkkhmcaa
open Go.RowKit

set_option maxRecDepth 4096 in
set_option maxHeartbeats 4000000 in
theorem frac_mul (na : Bool) (a : Option Addr) (n cap : Nat) (la : List Nat) (b : Option Addr) (m cap' : Nat) (lb : List Nat) (nb : Bool) (a' : Option Addr) (n' c' : Nat) (la' : List Nat) (b' : Option Addr) (m' d' : Nat) (lb' : List Nat) (w : World) (ha : Wd w a n cap la) (hb : Wd w b m cap' lb) (ha' : Wd w a' n' c' la') (hb' : Wd w b' m' d' lb') (hn : n ≤ 15728640000) (hm : m ≤ 15728640000) (hn' : n' ≤ 15728640000) (hm' : m' ≤ 15728640000) :
    Calls Try.prog 28 #[frV na a n cap b m cap', frV nb a' n' c' b' m' d'] w (LstQ (qval na (val la) (val lb) * qval nb (val la') (val lb')) w) := by
  have HB := Lib.hid (below_then (below_then (below_alloc w (.cells #[.bool na, .slice a n cap, .slice b m cap'] 48)) (below_alloc _ (.cells #[.bool nb, .slice a' n' c', .slice b' m' d'] 48))) (below_alloc _ (.cells #[.bool false, .slice none 0 0, .slice none 0 0] 48)))
  have HA := Lib.hid (ha.later HB.out)
  have HC := Lib.hid (hb.later HB.out)
  have HA' := Lib.hid (ha'.later HB.out)
  have HC' := Lib.hid (hb'.later HB.out)
  obtain ⟨hx1, hx2, hx3⟩ := boxes3_at9 w #[.bool na, .slice a n cap, .slice b m cap'] #[.bool nb, .slice a' n' c', .slice b' m' d'] #[.bool false, .slice none 0 0, .slice none 0 0] 48 48 48
  have HX := Lib.hid hx1
  have HY := Lib.hid hx2
  have HR := Lib.hid hx3
  have ta := ha.trim_le
  have tb := hb.trim_le
  have ta' := ha'.trim_le
  have tb' := hb'.trim_le
  clear ha hb ha' hb' hx1 hx2 hx3
  obtain ⟨q, hq⟩ : ∃ q, qval na (val la) (val lb) * qval nb (val la') (val lb') = q := ⟨_, rfl⟩
  rw [hq]
  have HQ := Lib.hid hq
  clear hq
  have zl1 := zlen_mul (zval na (val la)) (zval nb (val la'))
  have zl2 := dg_mul_length (val lb) (val lb')
  rw [zval_abs, zval_abs] at zl1
  have HZ : Hid (qval (zneg (zval na (val la) * zval nb (val la'))) (val (dg (zval na (val la) * zval nb (val la')).natAbs)) (val (dg (val lb * val lb'))) = q) := Lib.hid (by rw [val_dg, val_dg, fc_qval_of, fc_qval_mul, HQ.out])
  go_enter Try.func28, Try.ntmps28
  unfold frV
  obtain ⟨vk0, vk1, vk2, vk3, vk4, vk5, vk6, vk7, vk8⟩ := fcells_3_3_3 HX.out HY.out HR.out
  go_wp2_with fail
  refine (frac_product na a n cap la b m cap' lb nb a' n' c' la' b' m' d' lb' _ HA.out HC.out HA'.out HC'.out (by omega) (by omega) (by omega) (by omega)).mono ?_
  rintro e wv1 ⟨a1, n1, c1, b1, m1, d1, rfl, h1, g1, b⟩
  clear vk0 vk1 vk2 vk3 vk4 vk5 vk6 vk7 vk8
  replace HB := Lib.hid (below_then HB.out b)
  replace HX := Lib.hid (blk_later HX.out b)
  replace HY := Lib.hid (blk_later HY.out b)
  replace HR := Lib.hid (blk_later HR.out b)
  clear HA
  clear HC
  clear HA'
  clear HC'
  clear b
  have ln1 := h1.len
  have lm1 := g1.len
  have R1 := Lib.hid h1
  have T1 := Lib.hid g1
  clear h1 g1
  unfold frV
  obtain ⟨vk0, vk1, vk2, vk3, vk4, vk5, vk6, vk7, vk8⟩ := fcells_3_3_3 HX.out HY.out HR.out
  go_wp2_with fail
  refine (frac_norm _ a1 n1 c1 _ b1 m1 d1 _ _ R1.out T1.out (by omega) (by omega)).mono ?_
  rintro e wv2 ⟨a2, n2, c2, b2, m2, d2, rfl, h2, g2, b⟩
  clear vk0 vk1 vk2 vk3 vk4 vk5 vk6 vk7 vk8
  replace HB := Lib.hid (below_then HB.out b)
  replace HX := Lib.hid (blk_later HX.out b)
  replace HY := Lib.hid (blk_later HY.out b)
  replace HR := Lib.hid (blk_later HR.out b)
  clear R1
  clear T1
  clear b
  rw [HZ.out] at h2 g2 ⊢
  have R2 := Lib.hid h2
  have T2 := Lib.hid g2
  clear h2 g2
  unfold frV
  have q0 := blk_cell HR.out 0
  have q1 := blk_cell HR.out 1
  have q2 := blk_cell HR.out 2
  simp only [List.getElem?_toArray, List.getElem?_cons_zero, List.getElem?_cons_succ] at q0 q1 q2
  have f0 := blk_free HR.out 0
  have f1 := blk_free HR.out 1
  have f2 := blk_free HR.out 2
  replace HX := Lib.hid (blk_far3 HX.out (show w.heap.size ≠ w.heap.size + 1 + 1 by omega) (.bool (zneg q.num)) (.slice a2 n2 c2) (.slice b2 m2 d2))
  replace HY := Lib.hid (blk_far3 HY.out (show w.heap.size + 1 ≠ w.heap.size + 1 + 1 by omega) (.bool (zneg q.num)) (.slice a2 n2 c2) (.slice b2 m2 d2))
  replace R2 := Lib.hid (R2.out.stored3 HR.out ((zneg q.num)) a2 n2 c2 (.slice b2 m2 d2))
  replace T2 := Lib.hid (T2.out.stored3 HR.out ((zneg q.num)) a2 n2 c2 (.slice b2 m2 d2))
  replace HB := Lib.hid (below_set3 HB.out (show w.heap.size ≤ w.heap.size + 1 + 1 by omega) (.bool (zneg q.num)) (.slice a2 n2 c2) (.slice b2 m2 d2))
  replace HR := Lib.hid (blk_set3 HR.out (.bool (zneg q.num)) (.slice a2 n2 c2) (.slice b2 m2 d2))
  go_wp2
  refine bodyPost_ret (results_cell_row Try.results28 _ _ (w.heap.size + 1 + 1) 48 #[.bool (zneg q.num), .slice a2 n2 c2, .slice b2 m2 d2] (0, 0) _ rfl HR.out Try.underlying48 rfl (by kernel_rfl)) rfl ?_
  exact ⟨a2, n2, c2, b2, m2, d2, rfl, R2.out, T2.out, HB.out⟩
set_option maxRecDepth 4096 in
set_option maxHeartbeats 4000000 in
theorem frac_quo (na : Bool) (a : Option Addr) (n cap : Nat) (la : List Nat) (b : Option Addr) (m cap' : Nat) (lb : List Nat) (nb : Bool) (a' : Option Addr) (n' c' : Nat) (la' : List Nat) (b' : Option Addr) (m' d' : Nat) (lb' : List Nat) (w : World) (ha : Wd w a n cap la) (hb : Wd w b m cap' lb) (ha' : Wd w a' n' c' la') (hb' : Wd w b' m' d' lb') (hn : n ≤ 15728640000) (hm : m ≤ 15728640000) (hn' : n' ≤ 15728640000) (hm' : m' ≤ 15728640000) :
    Calls Try.prog 22 #[frV na a n cap b m cap', frV nb a' n' c' b' m' d'] w (LstQV (qval na (val la) (val lb) / qval nb (val la') (val lb')) (.bool (decide (qval nb (val la') (val lb') ≠ 0))) w) := by
  have HB := Lib.hid (below_then (below_then (below_alloc w (.cells #[.bool na, .slice a n cap, .slice b m cap'] 48)) (below_alloc _ (.cells #[.bool nb, .slice a' n' c', .slice b' m' d'] 48))) (below_alloc _ (.cells #[.bool false, .slice none 0 0, .slice none 0 0] 48)))
  have HA := Lib.hid (ha.later HB.out)
  have HC := Lib.hid (hb.later HB.out)
  have HA' := Lib.hid (ha'.later HB.out)
  have HC' := Lib.hid (hb'.later HB.out)
  obtain ⟨hx1, hx2, hx3⟩ := boxes3_at9 w #[.bool na, .slice a n cap, .slice b m cap'] #[.bool nb, .slice a' n' c', .slice b' m' d'] #[.bool false, .slice none 0 0, .slice none 0 0] 48 48 48
  have HX := Lib.hid hx1
  have HY := Lib.hid hx2
  have HR := Lib.hid hx3
  have ta := ha.trim_le
  have tb := hb.trim_le
  have ta' := ha'.trim_le
  have tb' := hb'.trim_le
  clear ha hb ha' hb' hx1 hx2 hx3
  have H0 : Hid (sgn (qval nb (val la') (val lb')).num = 0 → qval na (val la) (val lb) / qval nb (val la') (val lb') = 0 ∧ qval nb (val la') (val lb') = 0) := Lib.hid (fun h => by
    have h1 := fc_qsign_zero.1 h
    exact ⟨by rw [h1, Rat.div_def, Rat.inv_zero, Rat.mul_zero], h1⟩)
  have H1 : Hid (sgn (qval nb (val la') (val lb')).num ≠ 0 → qval nb (val la') (val lb') ≠ 0) := Lib.hid (fun h e => h (fc_qsign_zero.2 e))
  have HT : Hid (qval na (val la) (val lb) * qval nb (val lb') (val la') = qval na (val la) (val lb) / qval nb (val la') (val lb')) := Lib.hid (by rw [qval_turned nb (val la') (val lb'), Rat.div_def])
  generalize qval na (val la) (val lb) / qval nb (val la') (val lb') = q at *
  generalize hp : qval nb (val la') (val lb') = p at *
  have HP := Lib.hid hp
  clear hp
  go_enter Try.func22, Try.ntmps22
  unfold frV
  obtain ⟨vk0, vk1, vk2, vk3, vk4, vk5, vk6, vk7, vk8⟩ := fcells_3_3_3 HX.out HY.out HR.out
  go_wp2_with fail
  refine (frac_sign nb a' n' c' la' b' m' d' lb' _ HA'.out HC'.out (by omega) (by omega)).mono ?_
  rintro e wv1 ⟨rfl, b⟩
  clear vk0 vk1 vk2 vk3 vk4 vk5 vk6 vk7 vk8
  replace HB := Lib.hid (below_then HB.out b)
  replace HX := Lib.hid (blk_later HX.out b)
  replace HY := Lib.hid (blk_later HY.out b)
  replace HR := Lib.hid (blk_later HR.out b)
  replace HA := Lib.hid (HA.out.later b)
  replace HC := Lib.hid (HC.out.later b)
  replace HA' := Lib.hid (HA'.out.later b)
  replace HC' := Lib.hid (HC'.out.later b)
  clear b
  rw [HP.out]
  generalize sgn p.num = s at *
  by_cases h0 : s = 0
  · have hs : (s == 0) = true := by simp [h0]
    have HQ0 : Hid (((0 : Int) : Rat) = q) := Lib.hid (by rw [(H0.out h0).1]; rfl)
    have HD : Hid (decide (p ≠ 0) = false) := Lib.hid (decide_eq_false (fun h => h (H0.out h0).2))
    clear h0 H0 H1 HA HC HA' HC'
    obtain ⟨uk0, uk1, uk2, uk3, uk4, uk5, uk6, uk7, uk8⟩ := fcells_3_3_3 HX.out HY.out HR.out
    go_wp2_with fail
    refine (frac_of 0 _ isInt_nought).mono ?_
    rintro e wu1 ⟨a1, n1, c1, b1, m1, d1, rfl, h1, g1, b⟩
    clear uk0 uk1 uk2 uk3 uk4 uk5 uk6 uk7 uk8
    replace HB := Lib.hid (below_then HB.out b)
    replace HX := Lib.hid (blk_later HX.out b)
    replace HY := Lib.hid (blk_later HY.out b)
    replace HR := Lib.hid (blk_later HR.out b)
    clear b
    rw [HQ0.out] at h1 g1 ⊢
    have R1 := Lib.hid h1
    have T1 := Lib.hid g1
    clear h1 g1
    unfold frV
    have q0 := blk_cell HR.out 0
    have q1 := blk_cell HR.out 1
    have q2 := blk_cell HR.out 2
    simp only [List.getElem?_toArray, List.getElem?_cons_zero, List.getElem?_cons_succ] at q0 q1 q2
    have f0 := blk_free HR.out 0
    have f1 := blk_free HR.out 1
    have f2 := blk_free HR.out 2
    replace HX := Lib.hid (blk_far3 HX.out (show w.heap.size ≠ w.heap.size + 1 + 1 by omega) (.bool (zneg q.num)) (.slice a1 n1 c1) (.slice b1 m1 d1))
    replace HY := Lib.hid (blk_far3 HY.out (show w.heap.size + 1 ≠ w.heap.size + 1 + 1 by omega) (.bool (zneg q.num)) (.slice a1 n1 c1) (.slice b1 m1 d1))
    replace R1 := Lib.hid (R1.out.stored3 HR.out ((zneg q.num)) a1 n1 c1 (.slice b1 m1 d1))
    replace T1 := Lib.hid (T1.out.stored3 HR.out ((zneg q.num)) a1 n1 c1 (.slice b1 m1 d1))
    replace HB := Lib.hid (below_set3 HB.out (show w.heap.size ≤ w.heap.size + 1 + 1 by omega) (.bool (zneg q.num)) (.slice a1 n1 c1) (.slice b1 m1 d1))
    replace HR := Lib.hid (blk_set3 HR.out (.bool (zneg q.num)) (.slice a1 n1 c1) (.slice b1 m1 d1))
    go_wp2
    refine bodyPost_ret (results_row_tmp Try.results22 _ _ (w.heap.size + 1 + 1) 48 #[.bool (zneg q.num), .slice a1 n1 c1, .slice b1 m1 d1] (0, 0) _ rfl HR.out Try.underlying48 rfl (by kernel_rfl)) rfl ?_
    exact ⟨a1, n1, c1, b1, m1, d1, by rw [HD.out]; rfl, R1.out, T1.out, HB.out⟩
  · have hs : (s == 0) = false := by simp [h0]
    have HD : Hid (decide (p ≠ 0) = true) := Lib.hid (decide_eq_true (H1.out h0))
    clear h0 H0 H1
    obtain ⟨uk0, uk1, uk2, uk3, uk4, uk5, uk6, uk7, uk8⟩ := fcells_3_3_3 HX.out HY.out HR.out
    go_wp2
    clear uk0 uk1 uk2 uk3 uk4 uk5 uk6 uk7 uk8
    replace HB := Lib.hid (below_then HB.out ((Below.refl _ _).drew : Below wv1.heap.size wv1 wv1.drew))
    replace HX : Hid (wv1.drew.heap[w.heap.size]? = _) := Lib.hid HX.out
    replace HY : Hid (wv1.drew.heap[w.heap.size + 1]? = _) := Lib.hid HY.out
    replace HR : Hid (wv1.drew.heap[w.heap.size + 1 + 1]? = some (.cells #[.bool false, .slice none 0 0, .slice none 0 0] 48 (0, 0))) := Lib.hid HR.out
    replace HA := Lib.hid (HA.out.later ((Below.refl _ _).drew : Below wv1.heap.size wv1 wv1.drew))
    replace HC := Lib.hid (HC.out.later ((Below.refl _ _).drew : Below wv1.heap.size wv1 wv1.drew))
    replace HA' := Lib.hid (HA'.out.later ((Below.refl _ _).drew : Below wv1.heap.size wv1 wv1.drew))
    replace HC' := Lib.hid (HC'.out.later ((Below.refl _ _).drew : Below wv1.heap.size wv1 wv1.drew))
    have pSn := fcells_3_3 HX.out HY.out
    go_region_held3 (fun w' => w'.cell? ⟨w.heap.size, 0, none⟩ = some (.bool na) ∧ w'.cell? ⟨w.heap.size, 1, none⟩ = some (.slice a n cap) ∧ w'.cell? ⟨w.heap.size, 2, none⟩ = some (.slice b m cap') ∧ w'.cell? ⟨w.heap.size + 1, 0, none⟩ = some (.bool nb) ∧ w'.cell? ⟨w.heap.size + 1, 1, none⟩ = some (.slice a' n' c') ∧ w'.cell? ⟨w.heap.size + 1, 2, none⟩ = some (.slice b' m' d')) (first | exact pSn | exact pSb _ _ _)
      (first
      | (go_at_call 29; (first
        | (refine (frac_under nb a' n' c' b' m' d' _).mono ?_; rintro e wp1 ⟨rfl, b⟩; replace HB := Lib.hid (below_then HB.out b); replace HX := Lib.hid (blk_later HX.out b); replace HY := Lib.hid (blk_later HY.out b); replace HR := Lib.hid (blk_later HR.out b); replace HA := Lib.hid (HA.out.later b); replace HC := Lib.hid (HC.out.later b); replace HA' := Lib.hid (HA'.out.later b); replace HC' := Lib.hid (HC'.out.later b); unfold frV; clear b; clear pSn; have pSn := fcells_3_3 HX.out HY.out; have pM1 := True.intro)))
      | (go_at_call 28; (first
        | (have pm1 := pM1; refine (frac_mul na a n cap la b m cap' lb nb b' m' d' lb' a' n' c' la' _ HA.out HC.out HC'.out HA'.out hn hm hm' hn').mono ?_; rintro e wp2 ⟨a1, n1, c1, b1, m1, d1, rfl, h1, g1, b⟩; replace HB := Lib.hid (below_then HB.out b); replace HX := Lib.hid (blk_later HX.out b); replace HY := Lib.hid (blk_later HY.out b); replace HR := Lib.hid (blk_later HR.out b); replace HA := Lib.hid (HA.out.later b); replace HC := Lib.hid (HC.out.later b); replace HA' := Lib.hid (HA'.out.later b); replace HC' := Lib.hid (HC'.out.later b); rw [HT.out] at h1 g1 ⊢; have R1 := Lib.hid h1; have T1 := Lib.hid g1; clear h1 g1; obtain ⟨r0, r1, r2⟩ := fcells_3 HR.out; have f0 := blk_free HR.out 0; have f1 := blk_free HR.out 1; have f2 := blk_free HR.out 2; have pSb := fun u v q => fcells_3_3 (blk_far3 (g := w.heap.size + 1 + 1) HX.out (by omega) u v q) (blk_far3 (g := w.heap.size + 1 + 1) HY.out (by omega) u v q); unfold frV; clear b; clear pSn; have pSn := fcells_3_3 HX.out HY.out; clear pM1 pm1; have pM2 := True.intro))))
    have HG := Lib.hid (blk_set3 HR.out (.bool (zneg q.num)) (.slice a1 n1 c1) (.slice b1 m1 d1))
    have HL := Lib.hid (below_set3 HB.out (show w.heap.size ≤ w.heap.size + 1 + 1 by omega) (.bool (zneg q.num)) (.slice a1 n1 c1) (.slice b1 m1 d1))
    have HW1 := Lib.hid (R1.out.stored3 HR.out (zneg q.num) a1 n1 c1 (.slice b1 m1 d1))
    have HW2 := Lib.hid (T1.out.stored3 HR.out (zneg q.num) a1 n1 c1 (.slice b1 m1 d1))
    go_wp2
    refine bodyPost_ret (results_row_tmp Try.results22 _ _ (w.heap.size + 1 + 1) 48 #[.bool (zneg q.num), .slice a1 n1 c1, .slice b1 m1 d1] (0, 0) _ rfl HG.out Try.underlying48 rfl (by kernel_rfl)) rfl ?_
    exact ⟨a1, n1, c1, b1, m1, d1, by rw [HD.out]; rfl, HW1.out, HW2.out, HL.out⟩
set_option maxRecDepth 4096 in
set_option maxHeartbeats 4000000 in
theorem frac_ratio (x y : Int) (w : World) (hx : isInt x) (hy : isInt y) : Calls Try.prog 15 #[.int .i64 x, .int .i64 y] w (LstQV ((x : Rat) / (y : Rat)) (.bool (decide (y ≠ 0))) w) := by
  have lx := qlen_int hx
  have ly := qlen_int hy
  have HX := Lib.hid hx
  have HY := Lib.hid hy
  have HB := Lib.hid (below_alloc w (.cells #[.bool false, .slice none 0 0, .slice none 0 0] 48))
  have HR := Lib.hid (blk_new w #[.bool false, .slice none 0 0, .slice none 0 0] 48)
  have HD : Hid (decide ((y : Rat) ≠ 0) = decide (y ≠ 0)) := Lib.hid (decide_eq_decide.2 (by rw [Ne, Rat.intCast_eq_zero_iff]))
  clear hx hy
  generalize hp : (x : Rat) = p at *
  generalize hr : (y : Rat) = r at *
  have HPX := Lib.hid hp
  have HRY := Lib.hid hr
  clear hp hr
  have HT : Hid (qval (zneg p.num) (val (dg p.num.natAbs)) (val (dg p.den)) / qval (zneg r.num) (val (dg r.num.natAbs)) (val (dg r.den)) = p / r) := Lib.hid (by rw [qval_dg, qval_dg])
  have HE : Hid (decide (qval (zneg r.num) (val (dg r.num.natAbs)) (val (dg r.den)) ≠ 0) = decide (y ≠ 0)) := Lib.hid (by rw [qval_dg]; exact HD.out)
  have l1 := qlen_num p
  have l2 := qlen_den p
  have l3 := qlen_num r
  have l4 := qlen_den r
  obtain ⟨q, hq⟩ : ∃ q, p / r = q := ⟨_, rfl⟩
  rw [hq]
  have HQ := Lib.hid hq
  clear hq
  go_enter Try.func15, Try.ntmps15
  obtain ⟨vk0, vk1, vk2⟩ := fcells_3 HR.out
  go_wp2_with fail
  refine (frac_of x _ HX.out).mono ?_
  rintro e wv1 ⟨a1, n1, c1, b1, m1, d1, rfl, h1, g1, b⟩
  clear vk0 vk1 vk2
  replace HB := Lib.hid (below_then HB.out b)
  replace HR := Lib.hid (blk_later HR.out b)
  clear b
  rw [HPX.out] at h1 g1 ⊢
  have ln1 := h1.len
  have lm1 := g1.len
  have R1 := Lib.hid h1
  have T1 := Lib.hid g1
  clear h1 g1
  unfold frV
  obtain ⟨vk0, vk1, vk2⟩ := fcells_3 HR.out
  go_wp2_with fail
  refine (frac_of y _ HY.out).mono ?_
  rintro e wv2 ⟨a2, n2, c2, b2, m2, d2, rfl, h2, g2, b⟩
  clear vk0 vk1 vk2
  replace HB := Lib.hid (below_then HB.out b)
  replace HR := Lib.hid (blk_later HR.out b)
  replace R1 := Lib.hid (R1.out.later b)
  replace T1 := Lib.hid (T1.out.later b)
  clear b
  rw [HRY.out] at h2 g2 ⊢
  have ln2 := h2.len
  have lm2 := g2.len
  have R2 := Lib.hid h2
  have T2 := Lib.hid g2
  clear h2 g2
  unfold frV
  obtain ⟨vk0, vk1, vk2⟩ := fcells_3 HR.out
  go_wp2_with fail
  refine (frac_quo _ a1 n1 c1 _ b1 m1 d1 _ _ a2 n2 c2 _ b2 m2 d2 _ _ R1.out T1.out R2.out T2.out (by omega) (by omega) (by omega) (by omega)).mono ?_
  rintro e wv3 ⟨a3, n3, c3, b3, m3, d3, rfl, h3, g3, b⟩
  clear vk0 vk1 vk2
  replace HB := Lib.hid (below_then HB.out b)
  replace HR := Lib.hid (blk_later HR.out b)
  clear R1
  clear T1
  clear R2
  clear T2
  clear b
  rw [HT.out, HQ.out] at h3 g3
  rw [HT.out, HQ.out, HE.out]
  generalize decide (y ≠ 0) = s at *
  have R3 := Lib.hid h3
  have T3 := Lib.hid g3
  clear h3 g3
  unfold frV
  have q0 := blk_cell HR.out 0
  have q1 := blk_cell HR.out 1
  have q2 := blk_cell HR.out 2
  simp only [List.getElem?_toArray, List.getElem?_cons_zero, List.getElem?_cons_succ] at q0 q1 q2
  have f0 := blk_free HR.out 0
  have f1 := blk_free HR.out 1
  have f2 := blk_free HR.out 2
  replace R3 := Lib.hid (R3.out.stored3 HR.out ((zneg q.num)) a3 n3 c3 (.slice b3 m3 d3))
  replace T3 := Lib.hid (T3.out.stored3 HR.out ((zneg q.num)) a3 n3 c3 (.slice b3 m3 d3))
  replace HB := Lib.hid (below_set3 HB.out (show w.heap.size ≤ w.heap.size by omega) (.bool (zneg q.num)) (.slice a3 n3 c3) (.slice b3 m3 d3))
  replace HR := Lib.hid (blk_set3 HR.out (.bool (zneg q.num)) (.slice a3 n3 c3) (.slice b3 m3 d3))
  go_wp2
  refine bodyPost_ret (results_row_tmp Try.results15 _ _ (w.heap.size) 48 #[.bool (zneg q.num), .slice a3 n3 c3, .slice b3 m3 d3] (0, 0) _ rfl HR.out Try.underlying48 rfl (by kernel_rfl)) rfl ?_
  exact ⟨a3, n3, c3, b3, m3, d3, rfl, R3.out, T3.out, HB.out⟩
end Go.Proofs.Ytenaopppkkhmcaa

/-
  What package frac's functions owe, proved.
-/
namespace Go.Proofs.Ytenaopppkkhmcaa
open Go.RowKit

theorem fracSaid : FracSaid where
  new := fun neg a n cap la b m cap' lb q w ha hb hn hm hq => by subst hq; exact frac_new neg a n cap la b m cap' lb w ha hb (by omega) (by omega)
  of := fun z w hz => frac_of z w hz
  ratio := fun x y w hx hy => frac_ratio x y w hx hy
  norm := fun v q w h => by
    obtain ⟨neg, a, n, cap, la, b, m, cap', lb, rfl, ha, hb, hn, hm, rfl⟩ := h
    exact frac_norm neg a n cap la b m cap' lb w ha hb (by omega) (by omega)
  sign := fun v q w h => by
    obtain ⟨neg, a, n, cap, la, b, m, cap', lb, rfl, ha, hb, hn, hm, rfl⟩ := h
    exact frac_sign neg a n cap la b m cap' lb w ha hb (by omega) (by omega)
  mul := fun v u p q w h k => by
    obtain ⟨na, a, n, cap, la, b, m, cap', lb, rfl, ha, hb, hn, hm, rfl⟩ := h
    obtain ⟨nb, a', n', c', la', b', m', d', lb', rfl, ha', hb', hn', hm', rfl⟩ := k
    exact frac_mul na a n cap la b m cap' lb nb a' n' c' la' b' m' d' lb' w ha hb ha' hb' (by omega) (by omega) (by omega) (by omega)
  quo := fun v u p q w h k => by
    obtain ⟨na, a, n, cap, la, b, m, cap', lb, rfl, ha, hb, hn, hm, rfl⟩ := h
    obtain ⟨nb, a', n', c', la', b', m', d', lb', rfl, ha', hb', hn', hm', rfl⟩ := k
    exact frac_quo na a n cap la b m cap' lb nb a' n' c' la' b' m' d' lb' w ha hb ha' hb' (by omega) (by omega) (by omega) (by omega)
  size := fun neg a n cap la b m cap' lb w ha hb hn hm => frac_size neg a n cap la b m cap' lb w ha hb (by omega) (by omega)
end Go.Proofs.Ytenaopppkkhmcaa

/-
  What every law's row asks behind its walk, said once: a law that returned true and left all that was there as it was meets its specification. Of no program.
-/
namespace Go.Proofs.Ytenaopppkkhmcaa
open Go.ChangeShapes Go.WideShapes Go.ChangeAt Go.RowKit

/-- The arguments read again as they read before. -/
theorem stays_all {H : Type} {enc : TypeId × Value → H} {P : Program} (hl : laidOutB P = true) {W W' : World} (hb : Below W.heap.size W W') :
    ∀ (ts : List TypeId) (vs : List Value) (ds : List (DataW H)) (ps : List MemPlace), (ts.all fun t => P.readableRec t && decide (t < P.types.size)) = true →
      DataW.TrodAll enc P W 0 (fun _ => true) true ts vs ds ps → (∀ x ∈ ps, x.block < W.heap.size) →
      DataW.TrodAll enc P W' 0 (fun b => decide (b < W.heap.size)) true ts vs ds ps
  | [], [], [], _, _, h, _ => h
  | t :: ts, v :: vs, d :: ds, ps, hr, h, hlt => by
    obtain ⟨p, q, h1, h2, rfl⟩ := h
    simp only [List.all_cons, Bool.and_eq_true, decide_eq_true_eq] at hr
    exact ⟨p, q, Below.trod hl hr.1.1 hr.1.2 h1 hb (fun x hx => hlt x (by simp [hx])), stays_all hl hb ts vs ds q hr.2 h2 (fun x hx => hlt x (by simp [hx])), rfl⟩
  | [], [], _ :: _, _, _, h, _ => h.elim
  | [], _ :: _, _, _, _, h, _ => h.elim
  | _ :: _, [], _, _, _, h, _ => h.elim
  | _ :: _, _ :: _, [], _, _, h, _ => h.elim

theorem law_post {H : Type} {enc : TypeId × Value → H} {P : Program} {f : Func} {s : ChangeSpec} {apart fresh handsOn : Bool} {W W' : World} {args : Array Value} {ds gs : List (DataW H)} {before : List MemPlace} {tb : TypeId}
    (hl : laidOutB P = true) (hr : (f.params.toList.all fun t => P.readableRec t && decide (t < P.types.size)) = true) (hrt : f.resultTypes = #[tb]) (htb : P.underlying tb = some .bool) (hvars : s.vars = [])
    (hs : s.fn H ds = { results := [.lit (.bool true)], args := ds })
    (hW : DataW.Whole enc P f.params.toList s.vars apart W args.toList ds gs before) (hb : Below W.heap.size W W') :
    s.post enc P f apart fresh handsOn false W args (.bool true) W' := by
  have hW0 := hW
  obtain ⟨p, q, hA, hV, rfl, _, _⟩ := hW
  rw [hvars] at hV
  obtain ⟨rfl, rfl⟩ := trodVars_none hV
  have hlt : ∀ x ∈ p, x.block < W.heap.size := fun x hx => hW0.lt x (by simp [hx])
  refine ⟨ds, [], p ++ [], [], p, [], hW0, ?_, ?_, ?_, hb.frame _, fun h => by cases h⟩
  · rw [List.append_nil, hs, hrt]
    exact trodAll_mk1 (shut_bool htb true)
  · rw [List.append_nil, hs]
    exact stays_all hl hb _ _ _ _ hr hA hlt
  · rw [List.append_nil, hs, hvars]
    rfl
end Go.Proofs.Ytenaopppkkhmcaa

/-
  Plain mathematics: fractions as texts: where the first / or point stands, what a text says, what is written, what a fraction is rounded to. Nothing of the program.
-/
namespace Go.Proofs.Ytenaopppkkhmcaa

end Go.Proofs.Ytenaopppkkhmcaa

/-
  Plain mathematics: how long what a text says is; parts of a text. Nothing of the program.
-/
namespace Go.Proofs.Ytenaopppkkhmcaa

end Go.Proofs.Ytenaopppkkhmcaa

/-
  Plain mathematics: rows of fractions: sums, products, norms; rows as texts, and what a text of them says. Nothing of the program.
-/
namespace Go.Proofs.Ytenaopppkkhmcaa

end Go.Proofs.Ytenaopppkkhmcaa

/-
  Rows of right fractions in memory: in a row of the call's own, appended to; as they are handed on. Of no program.
-/
namespace Go.Proofs.Ytenaopppkkhmcaa
open Go.RowKit

/-- A right fraction, as it lies in memory. -/
def rx (q : Rat) (a : Option Addr) (n c : Nat) (b : Option Addr) (m d : Nat) : Fx := ⟨zneg q.num, a, n, c, dg q.num.natAbs, b, m, d, dg q.den⟩
theorem rx_q (q : Rat) (a : Option Addr) (n c : Nat) (b : Option Addr) (m d : Nat) : (rx q a n c b m d).q = q := qval_dg q
def Fx.right (x : Fx) : Prop := x.s = zneg x.q.num ∧ x.la = dg x.q.num.natAbs ∧ x.lb = dg x.q.den
theorem rx_right (q : Rat) (a : Option Addr) (n c : Nat) (b : Option Addr) (m d : Nat) : (rx q a n c b m d).right := by
  unfold Fx.right
  rw [rx_q]
  exact ⟨rfl, rfl, rfl⟩
/-- A row of right fractions: its values. -/
def Rw (w : World) (a : Option Addr) (n cap : Nat) (qs : List Rat) : Prop := ∃ L, Fxs w a n cap L ∧ L.map Fx.q = qs ∧ ∀ x ∈ L, x.right
theorem Rw.later {w w' : World} {a : Option Addr} {n cap : Nat} {qs : List Rat} (h : Rw w a n cap qs) (hb : Below w.heap.size w w') : Rw w' a n cap qs := by
  obtain ⟨L, h1, h2, h3⟩ := h
  exact ⟨L, h1.later hb, h2, h3⟩
theorem Rw.len {w : World} {a : Option Addr} {n cap : Nat} {qs : List Rat} (h : Rw w a n cap qs) : qs.length = n := by
  obtain ⟨L, h1, h2, _⟩ := h
  rw [← h2, List.length_map]; exact h1.len
/-- What comes back. -/
def LstRw (qs : List Rat) (w : World) (e : Ending) (w' : World) : Prop := ∃ (a : Option Addr) (n cap : Nat), e = .returned (.slice a n cap) ∧ Rw w' a n cap qs ∧ Below w.heap.size w w'
/-- A row of the call's own that is being made. -/
def Row (w : World) (base : Nat) (e : TypeId) (v : Value) (qs : List Rat) : Prop := ∃ L, OwnC w base e v L ∧ L.map Fx.q = qs ∧ ∀ x ∈ L, x.ok w ∧ x.right
theorem Row.nil (w : World) (base : Nat) (e : TypeId) : Row w base e (.slice none 0 0) [] := ⟨[], OwnC.nil _ _ _, rfl, fun x hx => by simp at hx⟩
theorem Row.later {w w' : World} {base : Nat} {e : TypeId} {v : Value} {qs : List Rat} (h : Row w base e v qs) (hb : Below w.heap.size w w') : Row w' base e v qs := by
  obtain ⟨L, h1, h2, h3⟩ := h
  exact ⟨L, h1.later hb, h2, fun x hx => ⟨(h3 x hx).1.later hb, (h3 x hx).2⟩⟩
theorem Row.out {w : World} {base : Nat} {e : TypeId} {v : Value} {qs : List Rat} (h : Row w base e v qs) : ∃ (a : Option Addr) (cap : Nat), v = .slice a qs.length cap ∧ Rw w a qs.length cap qs := by
  obtain ⟨L, h1, h2, h3⟩ := h
  obtain ⟨a, cap, rfl, hf⟩ := h1.slice (fun x hx => (h3 x hx).1)
  have hl : L.length = qs.length := by rw [← h2, List.length_map]
  rw [hl] at hf ⊢
  exact ⟨a, cap, rfl, L, hf, h2, fun x hx => (h3 x hx).2⟩
end Go.Proofs.Ytenaopppkkhmcaa

/-
  Rows of rows of fractions in memory; how long the fractions of a row become; sums of many rows. Of no program.
-/
namespace Go.Proofs.Ytenaopppkkhmcaa
open Go.RowKit

/-- In the world w the slice ⟨a, n, cap⟩ of slices holds just these rows of fractions. -/
def Fxss (w : World) (a : Option Addr) (n cap : Nat) (ls : List (List Fx)) : Prop :=
  ls.length = n ∧ n ≤ cap ∧ cap ≤ 9223372036854775807 ∧ (a = none → cap = 0) ∧ (n = 0 ∨ ∃ b off, a = some ⟨b, off, none⟩ ∧ ∀ j, j < n → ∃ a' n' c', w.cell? ⟨b, off + j, none⟩ = some (.slice a' n' c') ∧ Fxs w a' n' c' (ls.getD j []))
theorem Fxss.len {w : World} {a : Option Addr} {n cap : Nat} {l : List (List Fx)} (h : Fxss w a n cap l) : l.length = n := h.1
theorem Fxss.bound {w : World} {a : Option Addr} {n cap : Nat} {l : List (List Fx)} (h : Fxss w a n cap l) : n ≤ cap ∧ cap ≤ 9223372036854775807 := ⟨h.2.1, h.2.2.1⟩
theorem Fxss.at {w : World} {a : Option Addr} {n cap : Nat} {l : List (List Fx)} (h : Fxss w a n cap l) {j : Nat} (hj : j < n) : ∃ b off, a = some ⟨b, off, none⟩ ∧ ∃ a' n' c', w.cell? ⟨b, off + j, none⟩ = some (.slice a' n' c') ∧ Fxs w a' n' c' (l.getD j []) := by
  rcases h.2.2.2.2 with h0 | ⟨b, off, e, hc⟩
  · omega
  · exact ⟨b, off, e, hc j hj⟩
theorem Fxss.later {w w' : World} {a : Option Addr} {n cap : Nat} {l : List (List Fx)} (h : Fxss w a n cap l) (hb : Below w.heap.size w w') : Fxss w' a n cap l :=
  ⟨h.1, h.2.1, h.2.2.1, h.2.2.2.1, h.2.2.2.2.imp id fun ⟨b, off, e, hc⟩ => ⟨b, off, e, fun j hj => by
    obtain ⟨a', n', c', h1, h2⟩ := hc j hj
    exact ⟨a', n', c', cell_later hb h1, h2.later hb⟩⟩⟩
theorem Fxss.ofNil (w : World) : Fxss w none 0 0 [] := ⟨rfl, Nat.le_refl _, by omega, fun _ => rfl, .inl rfl⟩
theorem Fxss.lit2 (w : World) (e : TypeId) {a1 a2 : Option Addr} {n1 n2 c1 c2 : Nat} {l1 l2 : List Fx} (h1 : Fxs w a1 n1 c1 l1) (h2 : Fxs w a2 n2 c2 l2) :
    Fxss (w.alloc (.cells #[.slice a1 n1 c1, .slice a2 n2 c2] e)) (some ⟨w.heap.size, 0, none⟩) 2 2 [l1, l2] := by
  have hb : Below w.heap.size w (w.alloc (.cells #[.slice a1 n1 c1, .slice a2 n2 c2] e)) := (Below.refl _ _).alloc (Nat.le_refl _) _
  refine ⟨rfl, Nat.le_refl _, by omega, fun h => (by cases h), .inr ⟨w.heap.size, 0, rfl, fun j hj => ?_⟩⟩
  match j, hj with
  | 0, _ => exact ⟨a1, n1, c1, by simp, h1.later hb⟩
  | 1, _ => exact ⟨a2, n2, c2, by simp, h2.later hb⟩
/-- Of at most N words each. -/
def thin (N : Nat) (L : List Fx) : Prop := ∀ x ∈ L, x.n ≤ N ∧ x.m ≤ N
theorem thin.mono {M N : Nat} {L : List Fx} (h : thin M L) (hn : M ≤ N) : thin N L := fun x hx => ⟨Nat.le_trans (h x hx).1 hn, Nat.le_trans (h x hx).2 hn⟩
theorem Fx.ok.fr {w : World} {x : Fx} {N : Nat} (h : x.ok w) (hn : x.n ≤ N) (hm : x.m ≤ N) : Fr w (frV x.s x.a x.n x.c x.b x.m x.d) x.q N := Fr.of h.1 h.2 hn hm rfl
/-- Their values. -/
def fqs (L : List Fx) : List Rat := L.map Fx.q
theorem fqs_at (L : List Fx) (j : Nat) (hj : j < L.length) : (fqs L)[j]? = some (L.getD j Fx.zero).q := by
  unfold fqs
  rw [List.getElem?_map, List.getD_eq_getElem?_getD, List.getElem?_eq_getElem hj]; rfl
/-- Have they all one length? -/
def even (LL : List (List Rat)) : Prop := ∀ x ∈ LL, ∀ y ∈ LL, x.length = y.length
instance (LL : List (List Rat)) : Decidable (even LL) := by unfold even; infer_instance
/-- The greatest size. -/
def fsize (x : Fx) : Nat := blen (val x.la) + blen (val x.lb)
def rsizeFrom (m : Nat) : List Fx → Nat
  | [] => m
  | x :: r => rsizeFrom (max m (fsize x)) r
end Go.Proofs.Ytenaopppkkhmcaa

/-
  What package figure's functions owe (layer 10), as one hypothesis: the contracts that the laws' walks lean on. And the document's reading of whole numbers, in one form.
-/
namespace Go.Proofs.Ytenaopppkkhmcaa
open Go.RowKit

structure FigureSaid : Prop where
end Go.Proofs.Ytenaopppkkhmcaa

/-
  What package row's functions owe (layer 11), as one hypothesis: the contracts that the laws' walks lean on.
-/
namespace Go.Proofs.Ytenaopppkkhmcaa
open Go.RowKit

structure RowSaid : Prop where
end Go.Proofs.Ytenaopppkkhmcaa

/-
  What package gauge's functions owe (layer 13), as one hypothesis: a gauge lies in a block of its own, whatever that holds.
-/
namespace Go.Proofs.Ytenaopppkkhmcaa
open Go.RowKit

/-- The limit, cut; the place of the first fraction that is longer; those that are shown. -/
def glim (z : Int) : Nat := (min (max z 0) 4096).toNat
def gat (l : Nat) : List Fx → Nat
  | [] => 0
  | x :: r => if fsize x ≤ l then gat l r + 1 else 0
def gshown (l : Nat) (L : List Fx) : List Fx := L.take (gat l L + 1)
theorem gat_le (l : Nat) : ∀ L : List Fx, gat l L ≤ L.length
  | [] => Nat.le_refl _
  | x :: r => by
    have := gat_le l r
    rw [gat]
    split <;> simp only [List.length_cons] <;> omega
theorem gat_more {l : Nat} {x : Fx} {r : List Fx} (h : fsize x ≤ l) : gat l (x :: r) = gat l r + 1 := by rw [gat, if_pos h]
theorem gat_stop {l : Nat} {x : Fx} {r : List Fx} (h : ¬ fsize x ≤ l) : gat l (x :: r) = 0 := by rw [gat, if_neg h]
theorem fx_succ (x : Fx) (r : List Fx) (k : Nat) : (x :: r).getD (k + 1) Fx.zero = r.getD k Fx.zero := by
  rw [List.getD_eq_getElem?_getD, List.getD_eq_getElem?_getD, List.getElem?_cons_succ]
theorem gat_fits {l : Nat} : ∀ {L : List Fx} {k : Nat}, k < gat l L → fsize (L.getD k Fx.zero) ≤ l
  | [], k, h => absurd h (Nat.not_lt_zero k)
  | x :: r, k, h => by
    by_cases hx : fsize x ≤ l
    · rw [gat_more hx] at h
      cases k with
      | zero => exact hx
      | succ k => rw [fx_succ]; exact gat_fits (L := r) (k := k) (by omega)
    · rw [gat_stop hx] at h; omega
theorem gat_long {l : Nat} : ∀ {L : List Fx}, gat l L < L.length → ¬ fsize (L.getD (gat l L) Fx.zero) ≤ l
  | [], h => absurd h (Nat.not_lt_zero _)
  | x :: r, h => by
    by_cases hx : fsize x ≤ l
    · rw [gat_more hx] at h ⊢
      rw [fx_succ]
      exact gat_long (L := r) (by rw [List.length_cons] at h; omega)
    · rw [gat_stop hx]; exact hx
/-- So found, it is this place. -/
theorem gat_is {l k : Nat} : ∀ {L : List Fx}, k ≤ L.length → (∀ j, j < k → fsize (L.getD j Fx.zero) ≤ l) → (k < L.length → ¬ fsize (L.getD k Fx.zero) ≤ l) → gat l L = k := by
  intro L h1 h2 h3
  rcases Nat.lt_trichotomy (gat l L) k with h | h | h
  · exact absurd (h2 _ h) (gat_long (by omega))
  · exact h
  · exact absurd (gat_fits h) (h3 (by have := gat_le l L; omega))
def ptr (g : Nat) : Value := .pointer (some ⟨g, 0, none⟩)
structure GaugeSaid (Is : World → Nat → Nat → Nat → Nat → Prop) : Prop where
  lt : ∀ {w : World} {g l s p : Nat}, Is w g l s p → g < w.heap.size
  keep : ∀ {w w' : World} {g l s p : Nat}, Is w g l s p → w'.heap[g]? = w.heap[g]? → Is w' g l s p
  bare : ∀ {w : World} {g l s p : Nat}, Is w g l s p → ∀ (j : Nat) u, w.cell? ⟨g, j, none⟩ = some u → (∀ a n c, u ≠ .slice a n c) ∧ ∀ k, u ≠ .int .u32 k
  new : ∀ (z : Int) (w : World), isInt z → Calls Try.prog 5 #[.int .i64 z] w (fun e w' => ∃ g, e = .returned (ptr g) ∧ w.heap.size ≤ g ∧ Is w' g (glim z) 0 0 ∧ Below w.heap.size w w')
  limit : ∀ (w : World) (g l s p : Nat), Is w g l s p → l ≤ 4096 → Calls Try.prog 7 #[ptr g] w (Gives (.int .i64 ((l : Nat) : Int)) w)
  take : ∀ (w : World) (g l s p : Nat) (x : Fx), Is w g l s p → x.ok w → x.n ≤ 2000 → x.m ≤ 2000 → l ≤ 4096 → s ≤ 1000000 → p ≤ 1000000 → Calls Try.prog 16 #[ptr g, frV x.s x.a x.n x.c x.b x.m x.d] w (fun e w' => e = .returned (.bool (decide (fsize x ≤ l))) ∧ Is w' g l (s + 1) (max p (fsize x)) ∧ w.grownBy w' (some g))
  row : ∀ (w : World) (g l s p : Nat) (a : Option Addr) (n c : Nat) (L : List Fx), Is w g l s p → Fxs w a n c L → n ≤ 300 → thin 2000 L → l ≤ 4096 → s ≤ 900000 → p ≤ 900000 → Calls Try.prog 12 #[ptr g, .slice a n c] w (fun e w' => e = .returned (.tuple #[.int .i64 ((gat l L : Nat) : Int), .bool (decide (gat l L = L.length))]) ∧ Is w' g l (s + (gshown l L).length) (rsizeFrom p (gshown l L)) ∧ w.grownBy w' (some g))
  tells : ∀ (w : World) (g l s p : Nat), Is w g l s p → Calls Try.prog 9 #[ptr g] w (Gives (.agg #[.int .i64 ((s : Nat) : Int), .int .i64 ((p : Nat) : Int)]) w)
  over : ∀ (w : World) (g l s p : Nat), Is w g l s p → l ≤ 4096 → p ≤ 1000000000 → Calls Try.prog 8 #[ptr g] w (Gives (.bool (decide (l < p))) w)
/-- Numbers elsewhere aren't touched by what is written into a gauge. -/
theorem Wd.beyond {w w' : World} {g : Nat} {a : Option Addr} {n c : Nat} {l : List Nat} (h : Wd w a n c l) (hb : ∀ (j : Nat) u, w.cell? ⟨g, j, none⟩ = some u → (∀ a n c, u ≠ .slice a n c) ∧ ∀ k, u ≠ .int .u32 k) (hg : w.grownBy w' (some g)) : Wd w' a n c l :=
  h.aside (v := .slice (some ⟨g, 0, none⟩) 0 0) (fun g2 hg2 j k hc => by simp [Value.ownBlock] at hg2; subst hg2; exact (hb j _ hc).2 k rfl) hg
theorem Fxs.beyond {w w' : World} {g : Nat} {a : Option Addr} {n c : Nat} {L : List Fx} (h : Fxs w a n c L) (hb : ∀ (j : Nat) u, w.cell? ⟨g, j, none⟩ = some u → (∀ a n c, u ≠ .slice a n c) ∧ ∀ k, u ≠ .int .u32 k) (hg : w.grownBy w' (some g)) : Fxs w' a n c L := by
  refine ⟨h.1, h.2.1, h.2.2.1, h.2.2.2.1, fun x hx => ⟨(h.ok hx).1.beyond hb hg, (h.ok hx).2.beyond hb hg⟩, h.2.2.2.2.2.imp id fun ⟨b, off, e, hcl⟩ => ⟨b, off, e, fun j hj => ?_⟩⟩
  obtain ⟨h1, h2, h3⟩ := hcl j hj
  have hlt : b < w.heap.size := by
    rcases Nat.lt_or_ge b w.heap.size with h9 | h9
    · exact h9
    · rw [World.cell?, Array.getElem?_eq_none h9] at h1; cases h1
  have hne : some b ≠ some g := fun e2 => by
    obtain rfl := Option.some.inj e2
    exact (hb _ _ h2).1 _ _ _ rfl
  have hk := hg.block b hlt hne
  exact ⟨(World.cell?_of_block hk).trans h1, (World.cell?_of_block hk).trans h2, (World.cell?_of_block hk).trans h3⟩
end Go.Proofs.Ytenaopppkkhmcaa

/-
  Rows of fractions: what lies at a place; a row's first so many; copies of fractions that are any. Of no program.
-/
namespace Go.Proofs.Ytenaopppkkhmcaa
open Go.RowKit

theorem fx_mem {L : List Fx} {k : Nat} (h : k < L.length) : L.getD k Fx.zero ∈ L := by
  rw [List.getD_eq_getElem?_getD, List.getElem?_eq_getElem h]; exact List.getElem_mem h
theorem fx_more {L : List Fx} {k : Nat} (h : k < L.length) : L.take (k + 1) = L.take k ++ [L.getD k Fx.zero] := by
  rw [List.take_succ_eq_append_getElem h, List.getD_eq_getElem?_getD, List.getElem?_eq_getElem h]; rfl
theorem fqs_getD {L : List Fx} {k : Nat} (h : k < L.length) : (fqs L).getD k 0 = (L.getD k Fx.zero).q := by
  rw [List.getD_eq_getElem?_getD, fqs_at L k h]; rfl
theorem take_len {α : Type} {L : List α} {k : Nat} (h : k ≤ L.length) : (L.take k).length = k := by rw [List.length_take]; omega
theorem three_on {w w' : World} {p q r : Addr} {x y z : Value} (h : w.cell? p = some x ∧ w.cell? q = some y ∧ w.cell? r = some z) (hb : Below w.heap.size w w') : w'.cell? p = some x ∧ w'.cell? q = some y ∧ w'.cell? r = some z := ⟨cell_later hb h.1, cell_later hb h.2.1, cell_later hb h.2.2⟩
/-- What lies at a place of a row of right fractions. -/
theorem Rw.at {w : World} {a : Option Addr} {n cap : Nat} {qs : List Rat} (h : Rw w a n cap qs) {j : Nat} (hj : j < n) : ∃ b off, a = some ⟨b, off, none⟩ ∧ ∃ (a' : Option Addr) (n' c' : Nat) (b' : Option Addr) (m' d' : Nat),
    (w.cell? ⟨b, off + j * 3, none⟩ = some (.bool (zneg (qs.getD j 0).num)) ∧ w.cell? ⟨b, off + j * 3 + 1, none⟩ = some (.slice a' n' c') ∧ w.cell? ⟨b, off + j * 3 + 2, none⟩ = some (.slice b' m' d')) ∧
    Wd w a' n' c' (dg (qs.getD j 0).num.natAbs) ∧ Wd w b' m' d' (dg (qs.getD j 0).den) := by
  obtain ⟨L, h1, h2, h3⟩ := h
  obtain ⟨b, off, rfl, e0, e1, e2, hok⟩ := h1.at hj
  have hl : j < L.length := by rw [h1.len]; exact hj
  have hq : qs.getD j 0 = (L.getD j Fx.zero).q := by rw [← h2]; exact fqs_getD hl
  obtain ⟨r1, r2, r3⟩ := h3 _ (fx_mem hl)
  rw [hq, ← r1, ← r2, ← r3]
  exact ⟨b, off, rfl, _, _, _, _, _, _, ⟨e0, e1, e2⟩, hok.1, hok.2⟩
theorem Rw.bound {w : World} {a : Option Addr} {n cap : Nat} {qs : List Rat} (h : Rw w a n cap qs) : n ≤ cap ∧ cap ≤ 9223372036854775807 := by
  obtain ⟨L, h1, _⟩ := h
  exact h1.bound
theorem Rw.nil (w : World) : Rw w none 0 0 [] := ⟨[], ⟨rfl, Nat.le_refl _, by omega, fun _ => rfl, fun x hx => by (simp at hx), .inl rfl⟩, rfl, fun x hx => by simp at hx⟩
/-- Copies of fractions, side by side in a row of the call's own. -/
def Cop (w : World) (base : Nat) (e : TypeId) (v : Value) (L : List Fx) : Prop := OwnC w base e v L ∧ ∀ x ∈ L, x.ok w
theorem Cop.nil (w : World) (base : Nat) (e : TypeId) : Cop w base e (.slice none 0 0) [] := ⟨OwnC.nil _ _ _, fun x hx => by simp at hx⟩
theorem Cop.later {w w' : World} {base : Nat} {e : TypeId} {v : Value} {L : List Fx} (h : Cop w base e v L) (hb : Below w.heap.size w w') : Cop w' base e v L := ⟨h.1.later hb, fun x hx => (h.2 x hx).later hb⟩
theorem Cop.out {w : World} {base : Nat} {e : TypeId} {v : Value} {L : List Fx} (h : Cop w base e v L) : ∃ (a : Option Addr) (cap : Nat), v = .slice a L.length cap ∧ Fxs w a L.length cap L := h.1.slice h.2
theorem wpList_append_cop {P : Program} (w : World) {ops : Array Oper} {rest : List Oper} {o : Oper} {act : Act} {Q : Exit → Act → World → Prop} (hgd : o.guard = none) (s x : Operand) (t : TypeId)
    (ho : o.op = .call { callee := .builtin .append, args := #[s, x], argTypes := #[t, t] })
    (base : Nat) (e : TypeId) (i : TypeInfo) (ht : P.underlying t = some (.slice e)) (hi : P.info? e = some i) (hz : i.zero = some (.agg #[.bool false, .slice none 0 0, .slice none 0 0]))
    (hsize : i.size = 3) (hby : i.bytes = 56) (v : Value) (L : List Fx) (hs : act.eval s = v) (hrow : Cop w base e v L)
    (ad : Addr) (y : Fx) (hx : act.eval x = .slice (some ad) 1 1)
    (hnews : ∀ j u, y.cells[j]? = some u → w.cell? (ad.add j) = some u) (hy : y.ok w)
    (hlen : L.length ≤ 1000000) (hbase : base ≤ w.heap.size)
    (h : ∀ v' w', Cop w' base e v' (L ++ [y]) → w.grownBy w' v.ownBlock → (∀ k, v.ownBlock = some k → base ≤ k) → clean w v → wpList P ops Q rest (act.put o.dst v') w') : wpList P ops Q (o :: rest) act w := by
  obtain ⟨h1, h3⟩ := hrow
  have hzw : noWords (Value.agg #[.bool false, .slice none 0 0, .slice none 0 0]).cells.toList := by
    intro u hu k
    simp [Value.cells] at hu
    rcases hu with rfl | rfl <;> simp
  refine wpList_append_clean w hgd s x t ho base e i (.agg #[.bool false, .slice none 0 0, .slice none 0 0]) 3 56 ht hi hz hsize hby rfl (by decide) v L.length (L.flatMap Fx.cells) hs h1.1 ad 1 1 y.cells hx rfl hnews (cells_one _) (by unfold maxLen; omega) (by omega) hbase (by decide) h1.2 hzw (noWords_cells _) (noWords_flat _) ?_
  intro v' w' hown hgrow hcl
  refine h v' w' ⟨⟨by simpa [List.flatMap_append] using hown, hcl⟩, fun z hz => ?_⟩ hgrow (fun k hk => h1.base k hk) h1.2
  rcases List.mem_append.1 hz with hz | hz
  · exact Fx.aside (h3 z hz) h1.2 hgrow
  · rw [List.mem_singleton.1 hz]
    exact Fx.aside hy h1.2 hgrow
theorem clean_store {w : World} {g k cap j : Nat} {u x : Value} (h : clean w (.slice (some ⟨g, 0, none⟩) k cap)) (hx : w.cell? ⟨g, j, none⟩ = some x) (hu : ∀ y : Int, u ≠ .int .u32 y) : clean (w.setCell ⟨g, j, none⟩ u) (.slice (some ⟨g, 0, none⟩) k cap) := by
  intro g' hg' i y hc
  have h2 := h g' hg' i y
  simp [Value.ownBlock] at hg'
  subst hg'
  by_cases hij : i = j
  · subst hij
    rw [World.cell?_setCell_same _ _ _ hx] at hc
    exact hu y (Option.some.inj hc)
  · rw [World.cell?_setCell_other _ ⟨g, j, none⟩ ⟨g, i, none⟩ _ (fun e => hij (congrArg Addr.off e).symm)] at hc
    exact h2 hc
theorem fr_flat_set : ∀ (L : List Fx) (i : Nat) (x : Fx), i < L.length → (L.set i x).flatMap Fx.cells = (((L.flatMap Fx.cells).set (i * 3) (.bool x.s)).set (i * 3 + 1) (.slice x.a x.n x.c)).set (i * 3 + 2) (.slice x.b x.m x.d)
  | [], _, _, h => by simp at h
  | y :: L, 0, x, _ => by simp [Fx.cells]
  | y :: L, i + 1, x, h => by
    have h1 := fr_flat_set L i x (by simpa using h)
    have h2 : (y :: L).flatMap Fx.cells = .bool y.s :: .slice y.a y.n y.c :: .slice y.b y.m y.d :: L.flatMap Fx.cells := by simp [Fx.cells]
    rw [h2, List.set_cons_succ, List.flatMap_cons, h1]
    have e0 : (i + 1) * 3 = i * 3 + 1 + 1 + 1 := by omega
    rw [e0]
    simp [Fx.cells]
/-- A fraction put at a place of a row of the call's own. -/
theorem Row.stored {w : World} {base : Nat} {e : TypeId} {g k cap : Nat} {qs : List Rat} (h : Row w base e (.slice (some ⟨g, 0, none⟩) k cap) qs) (hk : k = qs.length) {i : Nat} (hi : i < qs.length) (q : Rat) (a : Option Addr) (n c : Nat) (b : Option Addr) (m d : Nat) (ha : Wd w a n c (dg q.num.natAbs)) (hb : Wd w b m d (dg q.den)) :
    Row (((w.setCell ⟨g, i * 3, none⟩ (.bool (zneg q.num))).setCell ⟨g, i * 3 + 1, none⟩ (.slice a n c)).setCell ⟨g, i * 3 + 2, none⟩ (.slice b m d)) base e (.slice (some ⟨g, 0, none⟩) k cap) (qs.set i q) ∧
    w.grownBy (((w.setCell ⟨g, i * 3, none⟩ (.bool (zneg q.num))).setCell ⟨g, i * 3 + 1, none⟩ (.slice a n c)).setCell ⟨g, i * 3 + 2, none⟩ (.slice b m d)) (some g) := by
  obtain ⟨L, ⟨h1, h2⟩, h3, h4⟩ := h
  have hL : L.length = qs.length := by rw [← h3, List.length_map]
  have hkL : k = L.length := hk.trans hL.symm
  subst hkL
  have hf := flat_length L
  obtain ⟨c0, c1, c2⟩ := flat_at L i (by omega)
  have p0 := h1.cellAt (i * 3) (by omega)
  have p1 := h1.cellAt (i * 3 + 1) (by omega)
  have p2 := h1.cellAt (i * 3 + 2) (by omega)
  rw [c0] at p0; rw [c1] at p1; rw [c2] at p2
  obtain ⟨s0, g0⟩ := h1.stored (i * 3) (.bool (zneg q.num))
  obtain ⟨s1, g1⟩ := s0.stored (i * 3 + 1) (.slice a n c)
  obtain ⟨s2, g2⟩ := s1.stored (i * 3 + 2) (.slice b m d)
  have l0 := clean_store (j := i * 3) (u := .bool (zneg q.num)) h2 p0 (fun y e => by cases e)
  have l1 := clean_store (j := i * 3 + 1) (u := .slice a n c) l0 ((World.cell?_setCell_other _ ⟨g, i * 3, none⟩ ⟨g, i * 3 + 1, none⟩ _ (fun e => by simp at e)).trans p1) (fun y e => by cases e)
  have l2 := clean_store (j := i * 3 + 2) (u := .slice b m d) l1 (((World.cell?_setCell_other _ ⟨g, i * 3 + 1, none⟩ ⟨g, i * 3 + 2, none⟩ _ (fun e => by simp at e)).trans (World.cell?_setCell_other _ ⟨g, i * 3, none⟩ ⟨g, i * 3 + 2, none⟩ _ (fun e => by simp at e))).trans p2) (fun y e => by cases e)
  have hg := (g0.trans g1).trans g2
  refine ⟨⟨L.set i (rx q a n c b m d), ⟨?_, l2⟩, ?_, fun x hx => ?_⟩, hg⟩
  · rw [fr_flat_set L i _ (by omega), List.length_set]
    exact s2
  · rw [List.map_set, rx_q, h3]
  · rcases List.mem_or_eq_of_mem_set hx with hx | rfl
    · exact ⟨Fx.aside (h4 x hx).1 h2 hg, (h4 x hx).2⟩
    · exact ⟨⟨ha.aside h2 hg, hb.aside h2 hg⟩, rx_right _ _ _ _ _ _ _⟩
theorem Row.block {w : World} {base : Nat} {e : TypeId} {v : Value} {qs : List Rat} (h : Row w base e v qs) : ∀ k, v.ownBlock = some k → base ≤ k ∧ k < w.heap.size := by
  obtain ⟨L, h1, _⟩ := h
  exact h1.1.lt
/-- A row that nobody else holds comes back. -/
def LstRow (e9 : TypeId) (qs : List Rat) (w : World) (e : Ending) (w' : World) : Prop := ∃ v, e = .returned v ∧ Row w' w.heap.size e9 v qs ∧ Below w.heap.size w w'
theorem LstRow.out {e9 : TypeId} {qs : List Rat} {w w' : World} {e : Ending} (h : LstRow e9 qs w e w') : LstRw qs w e w' := by
  obtain ⟨v, rfl, h, hb⟩ := h
  obtain ⟨a, cap, rfl, h9⟩ := h.out
  exact ⟨a, _, cap, rfl, h9, hb⟩
def thinI (N : Int) (L : List Fx) : Prop := ∀ x ∈ L, (x.n : Int) ≤ N ∧ (x.m : Int) ≤ N
theorem thinI.out {N : Nat} {L : List Fx} (h : thinI (N : Int) L) : thin N L := fun x hx => by
  have := h x hx
  omega
theorem Row.whole {w : World} {base : Nat} {e : TypeId} {v : Value} {T : List Rat} {k : Nat} (h : Row w base e v (T.take k)) (hk : T.length = k) : Row w base e v T := by
  rwa [List.take_of_length_le (Nat.le_of_eq hk)] at h
theorem Cop.whole {w : World} {base : Nat} {e : TypeId} {v : Value} {T : List Fx} {k : Nat} (h : Cop w base e v (T.take k)) (hk : T.length = k) : Cop w base e v T := by
  rwa [List.take_of_length_le (Nat.le_of_eq hk)] at h
end Go.Proofs.Ytenaopppkkhmcaa

/-
  The walks of the laws of layer 9: To, Of, Is, alike.
-/
namespace Go.Proofs.Ytenaopppkkhmcaa
open Go.RowKit

set_option maxHeartbeats 1000000 in
theorem law09_to (neg : Bool) (a : Option Addr) (n cap : Nat) (b : Option Addr) (m cap' : Nat) (w : World) : Calls Try.prog 20 #[frV neg a n cap b m cap'] w (Gives (frV neg a n cap b m cap') w) := by
  have HG : Hid (((w.alloc (.cells #[.bool neg, .slice a n cap, .slice b m cap'] 40)).alloc (.cells #[.bool neg, .slice a n cap, .slice b m cap'] 48)).heap[w.heap.size + 1]? = some (.cells #[.bool neg, .slice a n cap, .slice b m cap'] 48 (0, 0))) := Lib.hid (boxes_at w ((w.alloc (.cells #[.bool neg, .slice a n cap, .slice b m cap'] 40)).alloc (.cells #[.bool neg, .slice a n cap, .slice b m cap'] 48)) _ _ _ _ (Below.refl _ _)).2
  have HB := Lib.hid (below_then (below_alloc w (.cells #[.bool neg, .slice a n cap, .slice b m cap'] 40)) (below_alloc _ (.cells #[.bool neg, .slice a n cap, .slice b m cap'] 48)))
  go_enter Try.func20, Try.ntmps20
  unfold frV
  go_wp2
  refine bodyPost_ret (results_cell_row Try.results20 _ _ (w.heap.size + 1) 48 #[.bool neg, .slice a n cap, .slice b m cap'] (0, 0) _ rfl HG.out Try.underlying48 rfl (by kernel_rfl)) rfl ?_
  exact ⟨rfl, HB.out⟩
end Go.Proofs.Ytenaopppkkhmcaa

/-
  One more fraction behind a row of the call's own, at a step of a region that draws its order. Of no program.
-/
namespace Go.Proofs.Ytenaopppkkhmcaa
open Go.RowKit

end Go.Proofs.Ytenaopppkkhmcaa

/-
  The document's answer of layer 11: rows made place by place; the law's own To and Of. Written by genref11.py.
-/
namespace Go.Proofs.Ytenaopppkkhmcaa
open Go.RowKit

theorem infoFrac11p : (Try.prog.info? 48).map (fun i => (i.zero, i.size, i.bytes)) = some (some (.agg #[.bool false, .slice none 0 0, .slice none 0 0]), 3, 56) := by kernel_rfl
set_option maxRecDepth 4096 in
set_option maxHeartbeats 4000000 in
theorem law11_to (a : Option Addr) (n c : Nat) (L : List Fx) (w : World) (h : Fxs w a n c L) (hn : n ≤ 1000) :
    Calls Try.prog 13 #[.slice a n c] w (fun e w' => ∃ (a' : Option Addr) (c' : Nat), e = .returned (.slice a' n c') ∧ Fxs w' a' n c' L ∧ Below w.heap.size w w') := by
  have HK := Lib.hid h
  have HLl := Lib.hid h.len
  have hbd := h.bound
  clear h
  obtain ⟨i0, hi, hz0, hz1, hz2⟩ := info_parts infoFrac11p
  go_enter Try.func13, Try.ntmps13
  go_wp2
  go_loopw [3, 4] (fun mv iv wr => ∃ k : Nat, k ≤ n ∧ iv = .int .i64 (k : Int) ∧ Hid (Cop wr w.heap.size 48 mv (L.take k)) ∧ Hid (Below w.heap.size w wr) ∧ w.heap.size ≤ wr.heap.size) (fun _ iv _ => n - (intOf iv).toNat)
  case atStart => exact ⟨0, by omega, rfl, Lib.hid (Cop.nil _ _ _), Lib.hid (Below.refl _ _), by omega⟩
  case round =>
    obtain ⟨k, hk, rfl, HO, HB, hsz⟩ := hrel
    by_cases hlt : k < n
    · obtain ⟨bb, off, rfl, e0, e1, e2, hok⟩ := HK.out.at hlt
      have HT : Hid (L.take (k + 1) = L.take k ++ [L.getD k Fx.zero]) := Lib.hid (fx_more (by rw [HLl.out]; exact hlt))
      have hkL : (L.take k).length ≤ 1000000 := by rw [take_len (by rw [HLl.out]; exact hk)]; omega
      generalize L.getD k Fx.zero = xk at *
      obtain ⟨sk, ak, nk, ck, lak, bk, mk, dk, lbk⟩ := xk
      simp only at e0 e1 e2
      have HY := Lib.hid hok
      have HE : Hid (w.cell? ⟨bb, off + k * 3, none⟩ = some (.bool sk) ∧ w.cell? ⟨bb, off + k * 3 + 1, none⟩ = some (.slice ak nk ck) ∧ w.cell? ⟨bb, off + k * 3 + 2, none⟩ = some (.slice bk mk dk)) := Lib.hid ⟨e0, e1, e2⟩
      clear hok e0 e1 e2
      have hki : (k : Int) < (n : Int) := by omega
      obtain ⟨e0, e1, e2⟩ := three_on HE.out HB.out
      go_wp2_with fail
      refine (law09_to sk ak nk ck bk mk dk _).mono ?_
      rintro e w4 ⟨rfl, b4⟩
      clear e0 e1 e2
      replace HB := Lib.hid (below_then HB.out b4)
      replace HO := Lib.hid (HO.out.later b4)
      have hsz4 : w.heap.size ≤ w4.heap.size := Nat.le_trans hsz b4.size
      clear b4 hsz
      unfold frV
      have ba := below_alloc w4 (.cells #[.bool sk, .slice ak nk ck, .slice bk mk dk] 48)
      have HOa := Lib.hid (HO.out.later ba)
      have HBa := Lib.hid (below_then HB.out ba)
      have HYa := Lib.hid (HY.out.later HBa.out)
      clear ba HO HB
      go_wp2_with (at_builtin; refine wpList_append_cop _ rfl _ _ 35 rfl w.heap.size 48 i0 Try.underlying35 hi hz0 hz1 hz2 _ (L.take k) rfl HOa.out ⟨w4.heap.size, 0, none⟩ ⟨sk, ak, nk, ck, lak, bk, mk, dk, lbk⟩ rfl (cells_news _ _ _) HYa.out hkL (by rw [blk_size]; omega) ?_)
      intro mv5 w5 hrow hgrow hbase hcl
      have HO5 : Hid (Cop w5 w.heap.size 48 mv5 (L.take (k + 1))) := Lib.hid (by rw [HT.out]; exact hrow)
      have HB5 := Lib.hid (HBa.out.grown hgrow (by rw [blk_size]; omega) hbase)
      have hsz5 : w.heap.size ≤ w5.heap.size := Nat.le_trans (by rw [blk_size]; omega) hgrow.size
      clear hrow hgrow hbase hcl HOa HBa HYa HT HE HY hsz4
      go_wp2
      go_roundw
      case rel => exact ⟨k + 1, by omega, by go_num, HO5, HB5, hsz5⟩
      case measure => simp [intOf]; omega
    · obtain rfl : k = n := by omega
      have HF := Lib.hid (HO.out.whole HLl.out)
      obtain ⟨a9, c9, rfl, h9⟩ := HF.out.out
      rw [HLl.out] at h9 ⊢
      have HF9 := Lib.hid h9
      clear h9 HF HO
      go_wp2
      go_ret
      exact ⟨a9, c9, rfl, HF9.out, HB.out⟩
end Go.Proofs.Ytenaopppkkhmcaa

/-
  The document's answer of layer 13: Fits, Row.
-/
namespace Go.Proofs.Ytenaopppkkhmcaa
open Go.RowKit

set_option maxRecDepth 4096 in
set_option maxHeartbeats 16000000 in
theorem ref13_fits (x : Fx) (l : Nat) (w : World) (h : x.ok w) (hn : x.n ≤ 2000) (hm : x.m ≤ 2000) (_hl : l ≤ 4096) : Calls Try.prog 19 #[frV x.s x.a x.n x.c x.b x.m x.d, .int .i64 (l : Int)] w (Gives (.bool (decide (fsize x ≤ l))) w) := by
  obtain ⟨sx, ax, nx, cx, lax, bx, mx, dx, lbx⟩ := x
  obtain ⟨h1, h2⟩ := h
  have HA := Lib.hid h1
  have HB := Lib.hid h2
  simp only at hn hm
  obtain ⟨z, hz⟩ : ∃ z, fsize ⟨sx, ax, nx, cx, lax, bx, mx, dx, lbx⟩ = z := ⟨_, rfl⟩
  obtain ⟨r, hr⟩ : ∃ r, decide (z ≤ l) = r := ⟨_, rfl⟩
  have HSZ : ∀ w' : World, Wd w' ax nx cx lax → Wd w' bx mx dx lbx → Calls Try.prog 14 #[frV sx ax nx cx bx mx dx] w' (Gives (.int .i64 ((z : Nat) : Int)) w') := fun w' k1 k2 => hz ▸ ref09_size sx ax nx cx lax bx mx dx lbx w' k1 k2 (by omega) (by omega)
  have HR := Lib.hid hr
  rw [hz, hr]
  clear h1 h2 hz hr
  go_enter Try.func19, Try.ntmps19
  try unfold frV
  have hx := blk_new w #[.bool sx, .slice ax nx cx, .slice bx mx dx] 40
  have hb := below_alloc w (.cells #[.bool sx, .slice ax nx cx, .slice bx mx dx] 40)
  obtain ⟨x0, x1, x2⟩ := fcells_3 hx
  have HA2 := Lib.hid (HA.out.later hb)
  have HB2 := Lib.hid (HB.out.later hb)
  have HB3 := Lib.hid hb
  clear hx hb HA HB
  go_wp2_with fail
  refine (HSZ _ HA2.out HB2.out).mono ?_
  rintro e w1 ⟨rfl, b1⟩
  have HB4 := Lib.hid (below_then HB3.out b1)
  clear x0 x1 x2 b1
  go_wp2
  go_ret
  exact ⟨by rw [← HR.out]; rfl, HB4.out⟩
set_option maxRecDepth 4096 in
set_option maxHeartbeats 16000000 in
theorem ref13_row (a : Option Addr) (n c : Nat) (K : List Fx) (l : Nat) (w : World) (h : Fxs w a n c K) (ht : thin 2000 K) (hl : l ≤ 4096) : Calls Try.prog 11 #[.slice a n c, .int .i64 (l : Int)] w (Gives (.int .i64 ((gat l K : Nat) : Int)) w) := by
  have HK := Lib.hid h
  have HLl := Lib.hid h.len
  have hbd := h.bound
  have HTh := Lib.hid ht
  obtain ⟨z, hz⟩ : ∃ z, gat l K = z := ⟨_, rfl⟩
  have HZ := Lib.hid hz
  rw [hz]
  clear h ht hz
  go_enter Try.func11, Try.ntmps11
  go_wp2
  go_loopw [5] (fun iv wr => ∃ k : Nat, k ≤ n ∧ iv = .int .i64 (k : Int) ∧ Hid (∀ j, j < k → fsize (K.getD j Fx.zero) ≤ l) ∧ Hid (Below w.heap.size w wr)) (fun iv _ => n - (intOf iv).toNat)
  case atStart => exact ⟨0, by omega, rfl, Lib.hid (fun j hj => by omega), Lib.hid (Below.refl _ _)⟩
  case round =>
    obtain ⟨k, hk, rfl, HS, HB⟩ := hrel
    by_cases hlt : k < n
    · obtain ⟨bb, off, hbe, e0, e1, e2, hok⟩ := (HK.out.later HB.out).at hlt
      have hmem := fx_mem (L := K) (k := k) (by rw [HLl.out]; exact hlt)
      have hth := HTh.out _ hmem
      have HNX : Hid (¬ fsize (K.getD k Fx.zero) ≤ l → z = k) := Lib.hid (fun h => HZ.out.symm.trans (gat_is (by rw [HLl.out]; exact hk) HS.out (fun _ => h)))
      have HNY : Hid (fsize (K.getD k Fx.zero) ≤ l → ∀ j, j < k + 1 → fsize (K.getD j Fx.zero) ≤ l) := Lib.hid (fun h j hj => by
        by_cases hjk : j = k
        · rw [hjk]; exact h
        · exact HS.out j (by omega))
      generalize hx : K.getD k Fx.zero = x at *
      have HF : ∀ w' : World, x.ok w' → Calls Try.prog 19 #[frV x.s x.a x.n x.c x.b x.m x.d, .int .i64 (l : Int)] w' (Gives (.bool (decide (fsize x ≤ l))) w') := fun w' k1 => ref13_fits x l w' k1 hth.1 hth.2 hl
      obtain ⟨sx, ax, nx, cx, lax, bx, mx, dx, lbx⟩ := x
      have HOK := Lib.hid hok
      have hki : (k : Int) < (n : Int) := by omega
      simp only at e0 e1 e2 HF
      unfold frV at HF
      subst hbe
      clear hok hth hmem hx
      by_cases hfit : fsize ⟨sx, ax, nx, cx, lax, bx, mx, dx, lbx⟩ ≤ l
      · rw [decide_eq_true hfit] at HF
        have HS9 := Lib.hid (HNY.out hfit)
        clear hfit
        go_wp2_with fail
        refine (HF _ HOK.out).mono ?_
        rintro e w1 ⟨rfl, b1⟩
        have HB1 := Lib.hid (below_then HB.out b1)
        clear b1 HB HF HOK HNX HNY HS e0 e1 e2
        go_wp2
        go_roundw
        case rel => exact ⟨k + 1, by omega, by go_num, HS9, HB1⟩
        case measure => simp [intOf]; omega
      · rw [decide_eq_false hfit] at HF
        obtain rfl := HNX.out hfit
        clear hfit
        go_wp2_with fail
        refine (HF _ HOK.out).mono ?_
        rintro e w1 ⟨rfl, b1⟩
        have HB1 := Lib.hid (below_then HB.out b1)
        clear b1 HB HF HOK HNX HNY HS e0 e1 e2
        go_wp2
        go_ret
        exact ⟨rfl, HB1.out⟩
    · obtain rfl : k = n := by omega
      have hzk : z = k := HZ.out.symm.trans (gat_is (by rw [HLl.out]; exact Nat.le_refl _) HS.out (fun h => by rw [HLl.out] at h; omega))
      subst hzk
      clear HS
      go_wp2
      go_ret
      exact ⟨rfl, HB.out⟩
end Go.Proofs.Ytenaopppkkhmcaa

/-
  What some boxes hold, cell by cell: those of faults, too. Of no program.
-/
namespace Go.Proofs.Ytenaopppkkhmcaa
open Go.RowKit

end Go.Proofs.Ytenaopppkkhmcaa
