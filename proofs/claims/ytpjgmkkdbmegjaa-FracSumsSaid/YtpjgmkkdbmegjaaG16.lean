/-
  Several texts of this claim as one, group 16.
-/
import Derived.Test.YtpjgmkkdbmegjaaG14
import Derived.Deep.RegionHeld3
import Derived.Test.YtpjgmkkdbmegjaaG10
import Derived.BigQuiet
import Derived.Test.YtpjgmkkdbmegjaaG15
import Derived.WalkKit
import Derived.ProofKit
import Derived.OpenShut
import Derived.Test.YtpjgmkkdbmegjaaG9
/-
  Package frac at this seat: Pow.
-/
namespace Go.Proofs.Ytpjgmkkdbmegjaa
open Go.RowKit

theorem inv_powers (q : Rat) (k : Nat) : q⁻¹ ^ k = (q ^ k)⁻¹ := by
  induction k with
  | zero => rw [Rat.pow_zero, Rat.pow_zero]; exact (Rat.inv_eq_of_mul_eq_one (Rat.mul_one 1)).symm
  | succ k ih => rw [Rat.pow_succ, ih, qinv_pow_succ]
set_option maxRecDepth 4096 in
set_option maxHeartbeats 4000000 in
theorem frac_pow_none (neg : Bool) (a : Option Addr) (n cap : Nat) (la : List Nat) (b : Option Addr) (m cap' : Nat) (lb : List Nat) (w : World) (ha : Wd w a n cap la) (hb : Wd w b m cap' lb) (e : Int) (he : e < -8 ∨ 8 < e) :
    Calls Try.prog 34 #[frV neg a n cap b m cap', .int .i64 e] w (LstQV 0 (.bool false) w) := by
  have HB := Lib.hid (below_then (below_alloc w (.cells #[.bool neg, .slice a n cap, .slice b m cap'] 34)) (below_alloc _ (.cells #[.bool false, .slice none 0 0, .slice none 0 0] 34)))
  have HA := Lib.hid (ha.later HB.out)
  have HC := Lib.hid (hb.later HB.out)
  obtain ⟨hx1, hx2⟩ := boxes_at w ((w.alloc (.cells #[.bool neg, .slice a n cap, .slice b m cap'] 34)).alloc (.cells #[.bool false, .slice none 0 0, .slice none 0 0] 34)) #[.bool neg, .slice a n cap, .slice b m cap'] #[.bool false, .slice none 0 0, .slice none 0 0] 34 34 (Below.refl _ _)
  have HX := Lib.hid hx1
  have HR := Lib.hid hx2
  clear hx1 hx2 ha hb
  have HQ0 : Hid (((0 : Int) : Rat) = 0) := Lib.hid rfl
  clear HA HC
  go_enter Try.func34, Try.ntmps34
  unfold frV
  by_cases h8 : e < -8
  · clear he
    obtain ⟨uk0, uk1, uk2, uk3, uk4, uk5⟩ := fcells_3_3 HX.out HR.out
    go_wp2_with fail
    refine (frac_of 0 _ isInt_nought).mono ?_
    rintro e wu1 ⟨a1, n1, c1, b1, m1, d1, rfl, h1, g1, b⟩
    clear uk0 uk1 uk2 uk3 uk4 uk5
    replace HB := Lib.hid (below_then HB.out b)
    replace HX := Lib.hid (blk_later HX.out b)
    replace HR := Lib.hid (blk_later HR.out b)
    clear b
    rw [HQ0.out] at h1 g1 ⊢
    generalize (0 : Rat) = q at *
    have R1 := Lib.hid h1
    have T1 := Lib.hid g1
    clear h1 g1
    unfold frV
    have q0 := blk_cell HR.out 0
    have q1 := blk_cell HR.out 1
    have q2 := blk_cell HR.out 2
    simp only [List.getElem?_toArray, List.getElem?_cons_zero, List.getElem?_cons_succ] at q0 q1 q2
    have f0 := blk_free HR.out 0
    have f1 := blk_free HR.out 1
    have f2 := blk_free HR.out 2
    replace HX := Lib.hid (blk_far3 HX.out (show w.heap.size ≠ w.heap.size + 1 by omega) (.bool (zneg q.num)) (.slice a1 n1 c1) (.slice b1 m1 d1))
    replace R1 := Lib.hid (R1.out.stored3 HR.out ((zneg q.num)) a1 n1 c1 (.slice b1 m1 d1))
    replace T1 := Lib.hid (T1.out.stored3 HR.out ((zneg q.num)) a1 n1 c1 (.slice b1 m1 d1))
    replace HB := Lib.hid (below_set3 HB.out (show w.heap.size ≤ w.heap.size + 1 by omega) (.bool (zneg q.num)) (.slice a1 n1 c1) (.slice b1 m1 d1))
    replace HR := Lib.hid (blk_set3 HR.out (.bool (zneg q.num)) (.slice a1 n1 c1) (.slice b1 m1 d1))
    go_wp2
    refine bodyPost_ret (results_row_tmp Try.results34 _ _ (w.heap.size + 1) 34 #[.bool (zneg q.num), .slice a1 n1 c1, .slice b1 m1 d1] (0, 0) _ rfl HR.out Try.underlying34 rfl (by kernel_rfl)) rfl ?_
    exact ⟨a1, n1, c1, b1, m1, d1, rfl, R1.out, T1.out, HB.out⟩
  · have h9 : 8 < e := by omega
    clear he
    obtain ⟨uk0, uk1, uk2, uk3, uk4, uk5⟩ := fcells_3_3 HX.out HR.out
    go_wp2_with fail
    refine (frac_of 0 _ isInt_nought).mono ?_
    rintro e wu1 ⟨a1, n1, c1, b1, m1, d1, rfl, h1, g1, b⟩
    clear uk0 uk1 uk2 uk3 uk4 uk5
    replace HB := Lib.hid (below_then HB.out b)
    replace HX := Lib.hid (blk_later HX.out b)
    replace HR := Lib.hid (blk_later HR.out b)
    clear b
    rw [HQ0.out] at h1 g1 ⊢
    generalize (0 : Rat) = q at *
    have R1 := Lib.hid h1
    have T1 := Lib.hid g1
    clear h1 g1
    unfold frV
    have q0 := blk_cell HR.out 0
    have q1 := blk_cell HR.out 1
    have q2 := blk_cell HR.out 2
    simp only [List.getElem?_toArray, List.getElem?_cons_zero, List.getElem?_cons_succ] at q0 q1 q2
    have f0 := blk_free HR.out 0
    have f1 := blk_free HR.out 1
    have f2 := blk_free HR.out 2
    replace HX := Lib.hid (blk_far3 HX.out (show w.heap.size ≠ w.heap.size + 1 by omega) (.bool (zneg q.num)) (.slice a1 n1 c1) (.slice b1 m1 d1))
    replace R1 := Lib.hid (R1.out.stored3 HR.out ((zneg q.num)) a1 n1 c1 (.slice b1 m1 d1))
    replace T1 := Lib.hid (T1.out.stored3 HR.out ((zneg q.num)) a1 n1 c1 (.slice b1 m1 d1))
    replace HB := Lib.hid (below_set3 HB.out (show w.heap.size ≤ w.heap.size + 1 by omega) (.bool (zneg q.num)) (.slice a1 n1 c1) (.slice b1 m1 d1))
    replace HR := Lib.hid (blk_set3 HR.out (.bool (zneg q.num)) (.slice a1 n1 c1) (.slice b1 m1 d1))
    go_wp2
    refine bodyPost_ret (results_row_tmp Try.results34 _ _ (w.heap.size + 1) 34 #[.bool (zneg q.num), .slice a1 n1 c1, .slice b1 m1 d1] (0, 0) _ rfl HR.out Try.underlying34 rfl (by kernel_rfl)) rfl ?_
    exact ⟨a1, n1, c1, b1, m1, d1, rfl, R1.out, T1.out, HB.out⟩
set_option maxRecDepth 4096 in
set_option maxHeartbeats 4000000 in
theorem frac_pow_nought (neg : Bool) (a : Option Addr) (n cap : Nat) (la : List Nat) (b : Option Addr) (m cap' : Nat) (lb : List Nat) (w : World) (ha : Wd w a n cap la) (hb : Wd w b m cap' lb) (hn : n ≤ 200) (hm : m ≤ 200) (e : Int) (he : -8 ≤ e) (he0 : e < 0) (hq : qval neg (val la) (val lb) = 0) :
    Calls Try.prog 34 #[frV neg a n cap b m cap', .int .i64 e] w (LstQV 0 (.bool false) w) := by
  have HB := Lib.hid (below_then (below_alloc w (.cells #[.bool neg, .slice a n cap, .slice b m cap'] 34)) (below_alloc _ (.cells #[.bool false, .slice none 0 0, .slice none 0 0] 34)))
  have HA := Lib.hid (ha.later HB.out)
  have HC := Lib.hid (hb.later HB.out)
  obtain ⟨hx1, hx2⟩ := boxes_at w ((w.alloc (.cells #[.bool neg, .slice a n cap, .slice b m cap'] 34)).alloc (.cells #[.bool false, .slice none 0 0, .slice none 0 0] 34)) #[.bool neg, .slice a n cap, .slice b m cap'] #[.bool false, .slice none 0 0, .slice none 0 0] 34 34 (Below.refl _ _)
  have HX := Lib.hid hx1
  have HR := Lib.hid hx2
  clear hx1 hx2 ha hb
  have HQ0 : Hid (((0 : Int) : Rat) = 0) := Lib.hid rfl
  have HS : Hid (sgn (qval neg (val la) (val lb)).num = 0) := Lib.hid (by rw [hq]; rfl)
  clear hq
  go_enter Try.func34, Try.ntmps34
  unfold frV
  obtain ⟨vk0, vk1, vk2, vk3, vk4, vk5⟩ := fcells_3_3 HX.out HR.out
  go_wp2_with fail
  refine (frac_sign neg a n cap la b m cap' lb _ HA.out HC.out (by omega) (by omega)).mono ?_
  rintro e wv1 ⟨rfl, b⟩
  clear vk0 vk1 vk2 vk3 vk4 vk5
  replace HB := Lib.hid (below_then HB.out b)
  replace HX := Lib.hid (blk_later HX.out b)
  replace HR := Lib.hid (blk_later HR.out b)
  replace HA := Lib.hid (HA.out.later b)
  replace HC := Lib.hid (HC.out.later b)
  clear b
  rw [HS.out]
  clear HA HC HS
  obtain ⟨uk0, uk1, uk2, uk3, uk4, uk5⟩ := fcells_3_3 HX.out HR.out
  go_wp2_with fail
  refine (frac_of 0 _ isInt_nought).mono ?_
  rintro e wu1 ⟨a1, n1, c1, b1, m1, d1, rfl, h1, g1, b⟩
  clear uk0 uk1 uk2 uk3 uk4 uk5
  replace HB := Lib.hid (below_then HB.out b)
  replace HX := Lib.hid (blk_later HX.out b)
  replace HR := Lib.hid (blk_later HR.out b)
  clear b
  rw [HQ0.out] at h1 g1 ⊢
  generalize (0 : Rat) = q at *
  have R1 := Lib.hid h1
  have T1 := Lib.hid g1
  clear h1 g1
  unfold frV
  have q0 := blk_cell HR.out 0
  have q1 := blk_cell HR.out 1
  have q2 := blk_cell HR.out 2
  simp only [List.getElem?_toArray, List.getElem?_cons_zero, List.getElem?_cons_succ] at q0 q1 q2
  have f0 := blk_free HR.out 0
  have f1 := blk_free HR.out 1
  have f2 := blk_free HR.out 2
  replace HX := Lib.hid (blk_far3 HX.out (show w.heap.size ≠ w.heap.size + 1 by omega) (.bool (zneg q.num)) (.slice a1 n1 c1) (.slice b1 m1 d1))
  replace R1 := Lib.hid (R1.out.stored3 HR.out ((zneg q.num)) a1 n1 c1 (.slice b1 m1 d1))
  replace T1 := Lib.hid (T1.out.stored3 HR.out ((zneg q.num)) a1 n1 c1 (.slice b1 m1 d1))
  replace HB := Lib.hid (below_set3 HB.out (show w.heap.size ≤ w.heap.size + 1 by omega) (.bool (zneg q.num)) (.slice a1 n1 c1) (.slice b1 m1 d1))
  replace HR := Lib.hid (blk_set3 HR.out (.bool (zneg q.num)) (.slice a1 n1 c1) (.slice b1 m1 d1))
  go_wp2
  refine bodyPost_ret (results_row_tmp Try.results34 _ _ (w.heap.size + 1) 34 #[.bool (zneg q.num), .slice a1 n1 c1, .slice b1 m1 d1] (0, 0) _ rfl HR.out Try.underlying34 rfl (by kernel_rfl)) rfl ?_
  exact ⟨a1, n1, c1, b1, m1, d1, rfl, R1.out, T1.out, HB.out⟩
set_option maxRecDepth 4096 in
set_option maxHeartbeats 4000000 in
theorem frac_pow_high (neg : Bool) (a : Option Addr) (n cap : Nat) (la : List Nat) (b : Option Addr) (m cap' : Nat) (lb : List Nat) (w : World) (ha : Wd w a n cap la) (hb : Wd w b m cap' lb) (hn : n ≤ 200) (hm : m ≤ 200) (K : Nat) (hK : K ≤ 8) :
    Calls Try.prog 34 #[frV neg a n cap b m cap', .int .i64 (K : Int)] w (LstQV ((qval neg (val la) (val lb)) ^ K) (.bool true) w) := by
  have hql := (Fr.of ha hb hn hm (rfl : qval neg (val la) (val lb) = _)).len
  have HB := Lib.hid (below_then (below_alloc w (.cells #[.bool neg, .slice a n cap, .slice b m cap'] 34)) (below_alloc _ (.cells #[.bool false, .slice none 0 0, .slice none 0 0] 34)))
  have HA := Lib.hid (ha.later HB.out)
  have HC := Lib.hid (hb.later HB.out)
  obtain ⟨hx1, hx2⟩ := boxes_at w ((w.alloc (.cells #[.bool neg, .slice a n cap, .slice b m cap'] 34)).alloc (.cells #[.bool false, .slice none 0 0, .slice none 0 0] 34)) #[.bool neg, .slice a n cap, .slice b m cap'] #[.bool false, .slice none 0 0, .slice none 0 0] 34 34 (Below.refl _ _)
  have HX := Lib.hid hx1
  have HR := Lib.hid hx2
  clear hx1 hx2 ha hb
  obtain ⟨r, hq⟩ : ∃ r, qval neg (val la) (val lb) = r := ⟨_, rfl⟩
  rw [hq] at hql ⊢
  have HQ := Lib.hid hq
  clear hq
  have lr1 := qlen_num r
  have lr2 := qlen_den r
  have hp : ∀ k, k ≤ 8 → (dg (r ^ k).num.natAbs).length ≤ 1609 ∧ (dg (r ^ k).den).length ≤ 1609 := fun k hk => by
    have h := qpow_len r k 201 (by omega) (by omega)
    have : k * 201 ≤ 8 * 201 := Nat.mul_le_mul_right _ hk
    omega
  have HPL := Lib.hid hp
  clear hp
  go_enter Try.func34, Try.ntmps34
  unfold frV
  obtain ⟨vk0, vk1, vk2, vk3, vk4, vk5⟩ := fcells_3_3 HX.out HR.out
  go_wp2_with fail
  refine (frac_norm neg a n cap la b m cap' lb _ HA.out HC.out (by omega) (by omega)).mono ?_
  rintro e wv1 ⟨a1, n1, c1, b1, m1, d1, rfl, h1, g1, b⟩
  clear vk0 vk1 vk2 vk3 vk4 vk5
  replace HB := Lib.hid (below_then HB.out b)
  replace HX := Lib.hid (blk_later HX.out b)
  replace HR := Lib.hid (blk_later HR.out b)
  clear HA
  clear HC
  clear b
  rw [HQ.out] at h1 g1 ⊢
  have ln1 := h1.len
  have lm1 := g1.len
  have R1 := Lib.hid h1
  have T1 := Lib.hid g1
  clear h1 g1
  unfold frV
  have q0 := blk_cell HX.out 0
  have q1 := blk_cell HX.out 1
  have q2 := blk_cell HX.out 2
  simp only [List.getElem?_toArray, List.getElem?_cons_zero, List.getElem?_cons_succ] at q0 q1 q2
  have f0 := blk_free HX.out 0
  have f1 := blk_free HX.out 1
  have f2 := blk_free HX.out 2
  replace HR := Lib.hid (blk_far3 HR.out (show w.heap.size + 1 ≠ w.heap.size by omega) (.bool (zneg r.num)) (.slice a1 n1 c1) (.slice b1 m1 d1))
  replace R1 := Lib.hid (R1.out.stored3 HX.out ((zneg r.num)) a1 n1 c1 (.slice b1 m1 d1))
  replace T1 := Lib.hid (T1.out.stored3 HX.out ((zneg r.num)) a1 n1 c1 (.slice b1 m1 d1))
  replace HB := Lib.hid (below_set3 HB.out (show w.heap.size ≤ w.heap.size by omega) (.bool (zneg r.num)) (.slice a1 n1 c1) (.slice b1 m1 d1))
  replace HX := Lib.hid (blk_set3 HX.out (.bool (zneg r.num)) (.slice a1 n1 c1) (.slice b1 m1 d1))
  obtain ⟨vk0, vk1, vk2, vk3, vk4, vk5⟩ := fcells_3_3 HX.out HR.out
  go_wp2_with fail
  refine (frac_of 1 _ isInt_one).mono ?_
  rintro e wv2 ⟨a2, n2, c2, b2, m2, d2, rfl, h2, g2, b⟩
  clear vk0 vk1 vk2 vk3 vk4 vk5
  replace HB := Lib.hid (below_then HB.out b)
  replace HX := Lib.hid (blk_later HX.out b)
  replace HR := Lib.hid (blk_later HR.out b)
  replace R1 := Lib.hid (R1.out.later b)
  replace T1 := Lib.hid (T1.out.later b)
  clear b
  rw [rat_one, ← Rat.pow_zero r] at h2 g2 ⊢
  have lg := (Array.getElem?_eq_some_iff.1 HR.out).1
  obtain ⟨s2, hs2⟩ : ∃ s2, zneg (r ^ 0).num = s2 := ⟨_, rfl⟩
  rw [hs2]
  have HS2 := Lib.hid hs2
  clear hs2
  have R2 := Lib.hid h2
  have T2 := Lib.hid g2
  clear h2 g2
  unfold frV
  have HO : Hid ((World.alloc wv2 (.cells #[.bool s2, .slice a2 n2 c2, .slice b2 m2 d2] 34)).heap[wv2.heap.size]? = some (.cells #[.bool s2, .slice a2 n2 c2, .slice b2 m2 d2] 34 (0, 0))) := Lib.hid (blk_new wv2 _ _)
  replace HB := Lib.hid (below_then HB.out (below_alloc wv2 (.cells #[.bool s2, .slice a2 n2 c2, .slice b2 m2 d2] 34)))
  replace HX := Lib.hid (blk_later HX.out (below_alloc wv2 (.cells #[.bool s2, .slice a2 n2 c2, .slice b2 m2 d2] 34)))
  replace HR := Lib.hid (blk_later HR.out (below_alloc wv2 (.cells #[.bool s2, .slice a2 n2 c2, .slice b2 m2 d2] 34)))
  replace R1 := Lib.hid (R1.out.later (below_alloc wv2 (.cells #[.bool s2, .slice a2 n2 c2, .slice b2 m2 d2] 34)))
  replace T1 := Lib.hid (T1.out.later (below_alloc wv2 (.cells #[.bool s2, .slice a2 n2 c2, .slice b2 m2 d2] 34)))
  replace R2 := Lib.hid (R2.out.later (below_alloc wv2 (.cells #[.bool s2, .slice a2 n2 c2, .slice b2 m2 d2] 34)))
  replace T2 := Lib.hid (T2.out.later (below_alloc wv2 (.cells #[.bool s2, .slice a2 n2 c2, .slice b2 m2 d2] 34)))
  obtain ⟨vk0, vk1, vk2, vk3, vk4, vk5, vk6, vk7, vk8⟩ := fcells_3_3_3 HX.out HR.out HO.out
  go_wp2
  clear vk0 vk1 vk2 vk3 vk4 vk5 vk6 vk7 vk8
  have HO2 : Hid (BoxQ (wv2.alloc (.cells #[.bool s2, .slice a2 n2 c2, .slice b2 m2 d2] 34)) wv2.heap.size 34 (r ^ 0)) := Lib.hid ⟨s2, a2, n2, c2, b2, m2, d2, HO.out, HS2.out.symm, R2.out, T2.out⟩
  clear HO R2 T2 HS2
  generalize wv2.heap.size = g at *
  go_loopw [33] (fun iv wr => ∃ k : Nat, iv = .int .i64 (k : Int) ∧ k ≤ K ∧ Hid (BoxQ wr g 34 (r ^ k)) ∧ Hid (wr.heap[w.heap.size]? = some (.cells #[.bool (zneg r.num), .slice a1 n1 c1, .slice b1 m1 d1] 34 (0, 0))) ∧ Hid (wr.heap[w.heap.size + 1]? = some (.cells #[.bool false, .slice none 0 0, .slice none 0 0] 34 (0, 0))) ∧ Hid (Wd wr a1 n1 c1 (dg r.num.natAbs)) ∧ Hid (Wd wr b1 m1 d1 (dg r.den)) ∧ Hid (Below w.heap.size w wr)) (fun iv _ => K - (intOf iv).toNat)
  case atStart => exact ⟨0, by go_num, by omega, HO2, HX, HR, R1, T1, HB⟩
  case round =>
    clear HO2 HX HR R1 T1 HB
    obtain ⟨k, rfl, hk, HO9, HX, HR, R1, T1, HB⟩ := hrel
    obtain ⟨s2, a2, n2, c2, b2, m2, d2, hO, hs2, h2, g2⟩ := HO9.out
    have hl := HPL.out k (by omega)
    have ln2 := h2.len
    have lm2 := g2.len
    have HO := Lib.hid hO
    have R2 := Lib.hid h2
    have T2 := Lib.hid g2
    have HS2 := Lib.hid hs2
    clear HO9 hO h2 g2 hs2
    by_cases hlt : k < K
    · have HNUM : Hid (zval s2 (val (dg (r ^ k).num.natAbs)) * zval (zneg r.num) (val (dg r.num.natAbs)) = (r ^ (k + 1)).num) := Lib.hid (by rw [HS2.out, zval_dg, zval_dg, fc_qpow_succ_num])
      have HDEN : Hid (val (dg (r ^ k).den) * val (dg r.den) = (r ^ (k + 1)).den) := Lib.hid (by rw [val_dg, val_dg, fc_qpow_succ_den])
      have hki : (k : Int) < (K : Int) := by omega
      obtain ⟨rk0, rk1, rk2, rk3, rk4, rk5, rk6, rk7, rk8⟩ := fcells_3_3_3 HO.out HX.out HR.out
      go_wp2_with fail
      refine (frac_product s2 a2 n2 c2 _ b2 m2 d2 _ (zneg r.num) a1 n1 c1 _ b1 m1 d1 _ _ R2.out T2.out R1.out T1.out (by omega) (by omega) (by omega) (by omega)).mono ?_
      rintro e wr1 ⟨a3, n3, c3, b3, m3, d3, rfl, h3, g3, b⟩
      clear rk0 rk1 rk2 rk3 rk4 rk5 rk6 rk7 rk8
      replace HB := Lib.hid (below_then HB.out b)
      replace HO := Lib.hid (blk_later HO.out b)
      replace HX := Lib.hid (blk_later HX.out b)
      replace HR := Lib.hid (blk_later HR.out b)
      clear R2
      clear T2
      replace R1 := Lib.hid (R1.out.later b)
      replace T1 := Lib.hid (T1.out.later b)
      clear b
      rw [HNUM.out] at h3 ⊢
      rw [HDEN.out] at g3
      have R3 := Lib.hid h3
      have T3 := Lib.hid g3
      clear h3 g3
      unfold frV
      have q0 := blk_cell HO.out 0
      have q1 := blk_cell HO.out 1
      have q2 := blk_cell HO.out 2
      simp only [List.getElem?_toArray, List.getElem?_cons_zero, List.getElem?_cons_succ] at q0 q1 q2
      have f0 := blk_free HO.out 0
      have f1 := blk_free HO.out 1
      have f2 := blk_free HO.out 2
      replace HX := Lib.hid (blk_far3 HX.out (show w.heap.size ≠ g by omega) (.bool (zneg (r ^ (k + 1)).num)) (.slice a3 n3 c3) (.slice b3 m3 d3))
      replace HR := Lib.hid (blk_far3 HR.out (show w.heap.size + 1 ≠ g by omega) (.bool (zneg (r ^ (k + 1)).num)) (.slice a3 n3 c3) (.slice b3 m3 d3))
      replace R1 := Lib.hid (R1.out.stored3 HO.out ((zneg (r ^ (k + 1)).num)) a3 n3 c3 (.slice b3 m3 d3))
      replace T1 := Lib.hid (T1.out.stored3 HO.out ((zneg (r ^ (k + 1)).num)) a3 n3 c3 (.slice b3 m3 d3))
      replace R3 := Lib.hid (R3.out.stored3 HO.out ((zneg (r ^ (k + 1)).num)) a3 n3 c3 (.slice b3 m3 d3))
      replace T3 := Lib.hid (T3.out.stored3 HO.out ((zneg (r ^ (k + 1)).num)) a3 n3 c3 (.slice b3 m3 d3))
      replace HB := Lib.hid (below_set3 HB.out (show w.heap.size ≤ g by omega) (.bool (zneg (r ^ (k + 1)).num)) (.slice a3 n3 c3) (.slice b3 m3 d3))
      replace HO := Lib.hid (blk_set3 HO.out (.bool (zneg (r ^ (k + 1)).num)) (.slice a3 n3 c3) (.slice b3 m3 d3))
      go_wp2
      go_roundw
      case rel => exact ⟨k + 1, by go_num, by omega, Lib.hid ⟨_, a3, n3, c3, b3, m3, d3, HO.out, rfl, R3.out, T3.out⟩, HX, HR, R1, T1, HB⟩
      case measure => simp [intOf]; omega
    · obtain rfl : k = K := by omega
      obtain ⟨xk0, xk1, xk2, xk3, xk4, xk5⟩ := fcells_3_3 HO.out HR.out
      have q0 := blk_cell HR.out 0
      have q1 := blk_cell HR.out 1
      have q2 := blk_cell HR.out 2
      simp only [List.getElem?_toArray, List.getElem?_cons_zero, List.getElem?_cons_succ] at q0 q1 q2
      have f0 := blk_free HR.out 0
      have f1 := blk_free HR.out 1
      have f2 := blk_free HR.out 2
      replace R2 := Lib.hid (R2.out.stored3 HR.out (s2) a2 n2 c2 (.slice b2 m2 d2))
      replace T2 := Lib.hid (T2.out.stored3 HR.out (s2) a2 n2 c2 (.slice b2 m2 d2))
      replace HB := Lib.hid (below_set3 HB.out (show w.heap.size ≤ w.heap.size + 1 by omega) (.bool s2) (.slice a2 n2 c2) (.slice b2 m2 d2))
      replace HR := Lib.hid (blk_set3 HR.out (.bool s2) (.slice a2 n2 c2) (.slice b2 m2 d2))
      go_wp2
      refine bodyPost_ret (results_row_tmp Try.results34 _ _ (w.heap.size + 1) 34 #[.bool s2, .slice a2 n2 c2, .slice b2 m2 d2] (0, 0) _ rfl HR.out Try.underlying34 rfl (by kernel_rfl)) rfl ?_
      exact ⟨a2, n2, c2, b2, m2, d2, by rw [← HS2.out]; rfl, R2.out, T2.out, HB.out⟩
set_option maxRecDepth 4096 in
set_option maxHeartbeats 4000000 in
theorem frac_pow_low (neg : Bool) (a : Option Addr) (n cap : Nat) (la : List Nat) (b : Option Addr) (m cap' : Nat) (lb : List Nat) (w : World) (ha : Wd w a n cap la) (hb : Wd w b m cap' lb) (hn : n ≤ 200) (hm : m ≤ 200) (K : Nat) (hK : K ≤ 8) (hK0 : 0 < K) (hq : qval neg (val la) (val lb) ≠ 0) :
    Calls Try.prog 34 #[frV neg a n cap b m cap', .int .i64 (-(K : Int))] w (LstQV ((qval neg (val la) (val lb))⁻¹ ^ K) (.bool true) w) := by
  have hql := (Fr.of hb ha hm hn (rfl : qval neg (val lb) (val la) = _)).len
  have HB := Lib.hid (below_then (below_alloc w (.cells #[.bool neg, .slice a n cap, .slice b m cap'] 34)) (below_alloc _ (.cells #[.bool false, .slice none 0 0, .slice none 0 0] 34)))
  have HA := Lib.hid (ha.later HB.out)
  have HC := Lib.hid (hb.later HB.out)
  obtain ⟨hx1, hx2⟩ := boxes_at w ((w.alloc (.cells #[.bool neg, .slice a n cap, .slice b m cap'] 34)).alloc (.cells #[.bool false, .slice none 0 0, .slice none 0 0] 34)) #[.bool neg, .slice a n cap, .slice b m cap'] #[.bool false, .slice none 0 0, .slice none 0 0] 34 34 (Below.refl _ _)
  have HX := Lib.hid hx1
  have HR := Lib.hid hx2
  clear hx1 hx2 ha hb
  have HS : Hid (sgn (qval neg (val la) (val lb)).num ≠ 0) := Lib.hid (fun h => hq (fc_qsign_zero.1 h))
  have HQ : Hid (qval neg (val lb) (val la) = (qval neg (val la) (val lb))⁻¹) := Lib.hid (qval_turned neg (val la) (val lb))
  rw [HQ.out] at hql
  generalize (qval neg (val la) (val lb))⁻¹ = r at *
  generalize hs : sgn (qval neg (val la) (val lb)).num = s at *
  have HSE := Lib.hid hs
  clear hs
  clear hq
  have lr1 := qlen_num r
  have lr2 := qlen_den r
  have hp : ∀ k, k ≤ 8 → (dg (r ^ k).num.natAbs).length ≤ 1609 ∧ (dg (r ^ k).den).length ≤ 1609 := fun k hk => by
    have h := qpow_len r k 201 (by omega) (by omega)
    have : k * 201 ≤ 8 * 201 := Nat.mul_le_mul_right _ hk
    omega
  have HPL := Lib.hid hp
  clear hp
  have hs0 : (s == 0) = false := by simp [HS.out]
  clear HS
  go_enter Try.func34, Try.ntmps34
  unfold frV
  obtain ⟨vk0, vk1, vk2, vk3, vk4, vk5⟩ := fcells_3_3 HX.out HR.out
  go_wp2_with fail
  refine (frac_sign neg a n cap la b m cap' lb _ HA.out HC.out (by omega) (by omega)).mono ?_
  rintro e wv1 ⟨rfl, b⟩
  clear vk0 vk1 vk2 vk3 vk4 vk5
  replace HB := Lib.hid (below_then HB.out b)
  replace HX := Lib.hid (blk_later HX.out b)
  replace HR := Lib.hid (blk_later HR.out b)
  replace HA := Lib.hid (HA.out.later b)
  replace HC := Lib.hid (HC.out.later b)
  clear b
  rw [HSE.out]
  obtain ⟨vk0, vk1, vk2, vk3, vk4, vk5⟩ := fcells_3_3 HX.out HR.out
  go_wp2_with fail
  refine (frac_under neg a n cap b m cap' _).mono ?_
  rintro e wv2 ⟨rfl, b⟩
  clear vk0 vk1 vk2 vk3 vk4 vk5
  replace HB := Lib.hid (below_then HB.out b)
  replace HX := Lib.hid (blk_later HX.out b)
  replace HR := Lib.hid (blk_later HR.out b)
  replace HA := Lib.hid (HA.out.later b)
  replace HC := Lib.hid (HC.out.later b)
  clear b
  unfold frV
  have q0 := blk_cell HX.out 0
  have q1 := blk_cell HX.out 1
  have q2 := blk_cell HX.out 2
  simp only [List.getElem?_toArray, List.getElem?_cons_zero, List.getElem?_cons_succ] at q0 q1 q2
  have f0 := blk_free HX.out 0
  have f1 := blk_free HX.out 1
  have f2 := blk_free HX.out 2
  replace HR := Lib.hid (blk_far3 HR.out (show w.heap.size + 1 ≠ w.heap.size by omega) (.bool neg) (.slice b m cap') (.slice a n cap))
  replace HA := Lib.hid (HA.out.stored3 HX.out (neg) b m cap' (.slice a n cap))
  replace HC := Lib.hid (HC.out.stored3 HX.out (neg) b m cap' (.slice a n cap))
  replace HB := Lib.hid (below_set3 HB.out (show w.heap.size ≤ w.heap.size by omega) (.bool neg) (.slice b m cap') (.slice a n cap))
  replace HX := Lib.hid (blk_set3 HX.out (.bool neg) (.slice b m cap') (.slice a n cap))
  obtain ⟨vk0, vk1, vk2, vk3, vk4, vk5⟩ := fcells_3_3 HX.out HR.out
  go_wp2_with fail
  refine (frac_norm neg b m cap' lb a n cap la _ HC.out HA.out (by omega) (by omega)).mono ?_
  rintro e wv3 ⟨a1, n1, c1, b1, m1, d1, rfl, h1, g1, b⟩
  clear vk0 vk1 vk2 vk3 vk4 vk5
  replace HB := Lib.hid (below_then HB.out b)
  replace HX := Lib.hid (blk_later HX.out b)
  replace HR := Lib.hid (blk_later HR.out b)
  clear HA
  clear HC
  clear b
  rw [HQ.out] at h1 g1 ⊢
  have ln1 := h1.len
  have lm1 := g1.len
  have R1 := Lib.hid h1
  have T1 := Lib.hid g1
  clear h1 g1
  unfold frV
  have q0 := blk_cell HX.out 0
  have q1 := blk_cell HX.out 1
  have q2 := blk_cell HX.out 2
  simp only [List.getElem?_toArray, List.getElem?_cons_zero, List.getElem?_cons_succ] at q0 q1 q2
  have f0 := blk_free HX.out 0
  have f1 := blk_free HX.out 1
  have f2 := blk_free HX.out 2
  replace HR := Lib.hid (blk_far3 HR.out (show w.heap.size + 1 ≠ w.heap.size by omega) (.bool (zneg r.num)) (.slice a1 n1 c1) (.slice b1 m1 d1))
  replace R1 := Lib.hid (R1.out.stored3 HX.out ((zneg r.num)) a1 n1 c1 (.slice b1 m1 d1))
  replace T1 := Lib.hid (T1.out.stored3 HX.out ((zneg r.num)) a1 n1 c1 (.slice b1 m1 d1))
  replace HB := Lib.hid (below_set3 HB.out (show w.heap.size ≤ w.heap.size by omega) (.bool (zneg r.num)) (.slice a1 n1 c1) (.slice b1 m1 d1))
  replace HX := Lib.hid (blk_set3 HX.out (.bool (zneg r.num)) (.slice a1 n1 c1) (.slice b1 m1 d1))
  obtain ⟨vk0, vk1, vk2, vk3, vk4, vk5⟩ := fcells_3_3 HX.out HR.out
  go_wp2_with fail
  refine (frac_of 1 _ isInt_one).mono ?_
  rintro e wv4 ⟨a2, n2, c2, b2, m2, d2, rfl, h2, g2, b⟩
  clear vk0 vk1 vk2 vk3 vk4 vk5
  replace HB := Lib.hid (below_then HB.out b)
  replace HX := Lib.hid (blk_later HX.out b)
  replace HR := Lib.hid (blk_later HR.out b)
  replace R1 := Lib.hid (R1.out.later b)
  replace T1 := Lib.hid (T1.out.later b)
  clear b
  rw [rat_one, ← Rat.pow_zero r] at h2 g2 ⊢
  have lg := (Array.getElem?_eq_some_iff.1 HR.out).1
  obtain ⟨s2, hs2⟩ : ∃ s2, zneg (r ^ 0).num = s2 := ⟨_, rfl⟩
  rw [hs2]
  have HS2 := Lib.hid hs2
  clear hs2
  have R2 := Lib.hid h2
  have T2 := Lib.hid g2
  clear h2 g2
  unfold frV
  have HO : Hid ((World.alloc wv4 (.cells #[.bool s2, .slice a2 n2 c2, .slice b2 m2 d2] 34)).heap[wv4.heap.size]? = some (.cells #[.bool s2, .slice a2 n2 c2, .slice b2 m2 d2] 34 (0, 0))) := Lib.hid (blk_new wv4 _ _)
  replace HB := Lib.hid (below_then HB.out (below_alloc wv4 (.cells #[.bool s2, .slice a2 n2 c2, .slice b2 m2 d2] 34)))
  replace HX := Lib.hid (blk_later HX.out (below_alloc wv4 (.cells #[.bool s2, .slice a2 n2 c2, .slice b2 m2 d2] 34)))
  replace HR := Lib.hid (blk_later HR.out (below_alloc wv4 (.cells #[.bool s2, .slice a2 n2 c2, .slice b2 m2 d2] 34)))
  replace R1 := Lib.hid (R1.out.later (below_alloc wv4 (.cells #[.bool s2, .slice a2 n2 c2, .slice b2 m2 d2] 34)))
  replace T1 := Lib.hid (T1.out.later (below_alloc wv4 (.cells #[.bool s2, .slice a2 n2 c2, .slice b2 m2 d2] 34)))
  replace R2 := Lib.hid (R2.out.later (below_alloc wv4 (.cells #[.bool s2, .slice a2 n2 c2, .slice b2 m2 d2] 34)))
  replace T2 := Lib.hid (T2.out.later (below_alloc wv4 (.cells #[.bool s2, .slice a2 n2 c2, .slice b2 m2 d2] 34)))
  obtain ⟨vk0, vk1, vk2, vk3, vk4, vk5, vk6, vk7, vk8⟩ := fcells_3_3_3 HX.out HR.out HO.out
  go_wp2
  clear vk0 vk1 vk2 vk3 vk4 vk5 vk6 vk7 vk8
  have HO2 : Hid (BoxQ (wv4.alloc (.cells #[.bool s2, .slice a2 n2 c2, .slice b2 m2 d2] 34)) wv4.heap.size 34 (r ^ 0)) := Lib.hid ⟨s2, a2, n2, c2, b2, m2, d2, HO.out, HS2.out.symm, R2.out, T2.out⟩
  clear HO R2 T2 HS2
  generalize wv4.heap.size = g at *
  go_loopw [33] (fun iv wr => ∃ k : Nat, iv = .int .i64 (k : Int) ∧ k ≤ K ∧ Hid (BoxQ wr g 34 (r ^ k)) ∧ Hid (wr.heap[w.heap.size]? = some (.cells #[.bool (zneg r.num), .slice a1 n1 c1, .slice b1 m1 d1] 34 (0, 0))) ∧ Hid (wr.heap[w.heap.size + 1]? = some (.cells #[.bool false, .slice none 0 0, .slice none 0 0] 34 (0, 0))) ∧ Hid (Wd wr a1 n1 c1 (dg r.num.natAbs)) ∧ Hid (Wd wr b1 m1 d1 (dg r.den)) ∧ Hid (Below w.heap.size w wr)) (fun iv _ => K - (intOf iv).toNat)
  case atStart => exact ⟨0, by go_num, by omega, HO2, HX, HR, R1, T1, HB⟩
  case round =>
    clear HO2 HX HR R1 T1 HB
    obtain ⟨k, rfl, hk, HO9, HX, HR, R1, T1, HB⟩ := hrel
    obtain ⟨s2, a2, n2, c2, b2, m2, d2, hO, hs2, h2, g2⟩ := HO9.out
    have hl := HPL.out k (by omega)
    have ln2 := h2.len
    have lm2 := g2.len
    have HO := Lib.hid hO
    have R2 := Lib.hid h2
    have T2 := Lib.hid g2
    have HS2 := Lib.hid hs2
    clear HO9 hO h2 g2 hs2
    by_cases hlt : k < K
    · have HNUM : Hid (zval s2 (val (dg (r ^ k).num.natAbs)) * zval (zneg r.num) (val (dg r.num.natAbs)) = (r ^ (k + 1)).num) := Lib.hid (by rw [HS2.out, zval_dg, zval_dg, fc_qpow_succ_num])
      have HDEN : Hid (val (dg (r ^ k).den) * val (dg r.den) = (r ^ (k + 1)).den) := Lib.hid (by rw [val_dg, val_dg, fc_qpow_succ_den])
      have hki : (k : Int) < (K : Int) := by omega
      obtain ⟨rk0, rk1, rk2, rk3, rk4, rk5, rk6, rk7, rk8⟩ := fcells_3_3_3 HO.out HX.out HR.out
      go_wp2_with fail
      refine (frac_product s2 a2 n2 c2 _ b2 m2 d2 _ (zneg r.num) a1 n1 c1 _ b1 m1 d1 _ _ R2.out T2.out R1.out T1.out (by omega) (by omega) (by omega) (by omega)).mono ?_
      rintro e wr1 ⟨a3, n3, c3, b3, m3, d3, rfl, h3, g3, b⟩
      clear rk0 rk1 rk2 rk3 rk4 rk5 rk6 rk7 rk8
      replace HB := Lib.hid (below_then HB.out b)
      replace HO := Lib.hid (blk_later HO.out b)
      replace HX := Lib.hid (blk_later HX.out b)
      replace HR := Lib.hid (blk_later HR.out b)
      clear R2
      clear T2
      replace R1 := Lib.hid (R1.out.later b)
      replace T1 := Lib.hid (T1.out.later b)
      clear b
      rw [HNUM.out] at h3 ⊢
      rw [HDEN.out] at g3
      have R3 := Lib.hid h3
      have T3 := Lib.hid g3
      clear h3 g3
      unfold frV
      have q0 := blk_cell HO.out 0
      have q1 := blk_cell HO.out 1
      have q2 := blk_cell HO.out 2
      simp only [List.getElem?_toArray, List.getElem?_cons_zero, List.getElem?_cons_succ] at q0 q1 q2
      have f0 := blk_free HO.out 0
      have f1 := blk_free HO.out 1
      have f2 := blk_free HO.out 2
      replace HX := Lib.hid (blk_far3 HX.out (show w.heap.size ≠ g by omega) (.bool (zneg (r ^ (k + 1)).num)) (.slice a3 n3 c3) (.slice b3 m3 d3))
      replace HR := Lib.hid (blk_far3 HR.out (show w.heap.size + 1 ≠ g by omega) (.bool (zneg (r ^ (k + 1)).num)) (.slice a3 n3 c3) (.slice b3 m3 d3))
      replace R1 := Lib.hid (R1.out.stored3 HO.out ((zneg (r ^ (k + 1)).num)) a3 n3 c3 (.slice b3 m3 d3))
      replace T1 := Lib.hid (T1.out.stored3 HO.out ((zneg (r ^ (k + 1)).num)) a3 n3 c3 (.slice b3 m3 d3))
      replace R3 := Lib.hid (R3.out.stored3 HO.out ((zneg (r ^ (k + 1)).num)) a3 n3 c3 (.slice b3 m3 d3))
      replace T3 := Lib.hid (T3.out.stored3 HO.out ((zneg (r ^ (k + 1)).num)) a3 n3 c3 (.slice b3 m3 d3))
      replace HB := Lib.hid (below_set3 HB.out (show w.heap.size ≤ g by omega) (.bool (zneg (r ^ (k + 1)).num)) (.slice a3 n3 c3) (.slice b3 m3 d3))
      replace HO := Lib.hid (blk_set3 HO.out (.bool (zneg (r ^ (k + 1)).num)) (.slice a3 n3 c3) (.slice b3 m3 d3))
      go_wp2
      go_roundw
      case rel => exact ⟨k + 1, by go_num, by omega, Lib.hid ⟨_, a3, n3, c3, b3, m3, d3, HO.out, rfl, R3.out, T3.out⟩, HX, HR, R1, T1, HB⟩
      case measure => simp [intOf]; omega
    · obtain rfl : k = K := by omega
      obtain ⟨xk0, xk1, xk2, xk3, xk4, xk5⟩ := fcells_3_3 HO.out HR.out
      have q0 := blk_cell HR.out 0
      have q1 := blk_cell HR.out 1
      have q2 := blk_cell HR.out 2
      simp only [List.getElem?_toArray, List.getElem?_cons_zero, List.getElem?_cons_succ] at q0 q1 q2
      have f0 := blk_free HR.out 0
      have f1 := blk_free HR.out 1
      have f2 := blk_free HR.out 2
      replace R2 := Lib.hid (R2.out.stored3 HR.out (s2) a2 n2 c2 (.slice b2 m2 d2))
      replace T2 := Lib.hid (T2.out.stored3 HR.out (s2) a2 n2 c2 (.slice b2 m2 d2))
      replace HB := Lib.hid (below_set3 HB.out (show w.heap.size ≤ w.heap.size + 1 by omega) (.bool s2) (.slice a2 n2 c2) (.slice b2 m2 d2))
      replace HR := Lib.hid (blk_set3 HR.out (.bool s2) (.slice a2 n2 c2) (.slice b2 m2 d2))
      go_wp2
      refine bodyPost_ret (results_row_tmp Try.results34 _ _ (w.heap.size + 1) 34 #[.bool s2, .slice a2 n2 c2, .slice b2 m2 d2] (0, 0) _ rfl HR.out Try.underlying34 rfl (by kernel_rfl)) rfl ?_
      exact ⟨a2, n2, c2, b2, m2, d2, by rw [← HS2.out]; rfl, R2.out, T2.out, HB.out⟩
end Go.Proofs.Ytpjgmkkdbmegjaa

/-
  Package frac at this seat: slices.MaxFunc of fractions by Cmp, Max.
-/
namespace Go.Proofs.Ytpjgmkkdbmegjaa
open Go.RowKit

theorem six_held9 {a b c d e f : Prop} (h : a ∧ b ∧ c) (k : d ∧ e ∧ f) : a ∧ b ∧ c ∧ d ∧ e ∧ f := ⟨h.1, h.2.1, h.2.2, k⟩
theorem sgn_gt9 (p q : Rat) : 0 < sgn (p - q).num ↔ q < p := by
  have h1 : 0 < sgn (p - q).num ↔ 0 < (p - q).num := by unfold sgn; split <;> (try split) <;> omega
  rw [h1, Rat.lt_iff_sub_pos q p, Rat.lt_iff_le_and_ne (a := 0), ← Rat.num_nonneg]
  constructor
  · intro h; exact ⟨by omega, fun e => by rw [← e] at h; simp at h⟩
  · rintro ⟨h2, h3⟩
    have : (p - q).num ≠ 0 := fun e => h3 (Rat.num_eq_zero.1 e).symm
    omega
theorem three_later9 {w w' : World} {p q r : Addr} {x y z : Value} (h : w.cell? p = some x ∧ w.cell? q = some y ∧ w.cell? r = some z) (hb : Below w.heap.size w w') : w'.cell? p = some x ∧ w'.cell? q = some y ∧ w'.cell? r = some z := ⟨cell_later hb h.1, cell_later hb h.2.1, cell_later hb h.2.2⟩
theorem take_more {L : List Fx} {k : Nat} (h : k < L.length) : L.take (k + 1) = L.take k ++ [L.getD k Fx.zero] := by
  rw [List.take_succ_eq_append_getElem h, List.getD_eq_getElem?_getD, List.getElem?_eq_getElem h]; rfl
theorem getD_mem {L : List Fx} {k : Nat} (h : k < L.length) : L.getD k Fx.zero ∈ L := by
  rw [List.getD_eq_getElem?_getD, List.getElem?_eq_getElem h]; exact List.getElem_mem h
set_option maxRecDepth 4096 in
set_option maxHeartbeats 4000000 in
theorem frac_maxfunc (a : Option Addr) (n cap : Nat) (L : List Fx) (w : World) (h : Fxs w a n cap L) (h0 : 0 < n) (hn : n ≤ 1000) (hl : ∀ x ∈ L, x.n ≤ 2000 ∧ x.m ≤ 2000) :
    Calls Try.prog 59 #[.slice a n cap, .func (.func 41) #[] #[]] w (fun e w' => ∃ x : Fx, x ∈ L ∧ e = .returned (frV x.s x.a x.n x.c x.b x.m x.d) ∧ x.q = qmax (L.map Fx.q) ∧ Below w.heap.size w w') := by
  have hbd := h.bound
  have hLl := h.len
  have HL := Lib.hid hl
  have HLl := Lib.hid hLl
  have HK := Lib.hid h
  obtain ⟨bb, off, rfl, e0, e1, e2, hok⟩ := h.at h0
  have hm0 : L.getD 0 Fx.zero ∈ L := getD_mem (by omega)
  have hq0 : (L.getD 0 Fx.zero).q = qmax ((L.take 1).map Fx.q) := by rw [take_more (by omega)]; rfl
  have hat : ∀ k, k < n → w.cell? ⟨bb, off + k * 3, none⟩ = some (.bool (L.getD k Fx.zero).s) ∧ w.cell? ⟨bb, off + k * 3 + 1, none⟩ = some (.slice (L.getD k Fx.zero).a (L.getD k Fx.zero).n (L.getD k Fx.zero).c) ∧ w.cell? ⟨bb, off + k * 3 + 2, none⟩ = some (.slice (L.getD k Fx.zero).b (L.getD k Fx.zero).m (L.getD k Fx.zero).d) := fun k hk => by
    obtain ⟨b2, o2, e, h1, h2, h3, _⟩ := h.at hk
    simp only [Option.some.injEq, Addr.mk.injEq, and_true] at e
    obtain ⟨rfl, rfl⟩ := e
    exact ⟨h1, h2, h3⟩
  have HAT := Lib.hid hat
  have HM0 := Lib.hid hm0
  have HQ0 := Lib.hid hq0
  clear h hl hLl hok hm0 hq0 hat
  generalize L.getD 0 Fx.zero = x at *
  have HB := Lib.hid (below_alloc w (.cells #[.bool false, .slice none 0 0, .slice none 0 0] 34))
  have HE : Hid (w.cell? ⟨bb, off + 0 * 3, none⟩ = some (.bool x.s) ∧ w.cell? ⟨bb, off + 0 * 3 + 1, none⟩ = some (.slice x.a x.n x.c) ∧ w.cell? ⟨bb, off + 0 * 3 + 2, none⟩ = some (.slice x.b x.m x.d)) := Lib.hid ⟨e0, e1, e2⟩
  clear e0 e1 e2
  obtain ⟨e0, e1, e2⟩ := three_later9 HE.out HB.out
  simp only [Nat.zero_mul, Nat.add_zero] at e0 e1 e2
  have hn1 : ¬ (n : Int) < 1 := by omega
  have hn0 : (0 : Int) < (n : Int) := by omega
  go_enter Try.func59, Try.ntmps59
  go_wp2
  obtain ⟨hr0, hx0⟩ := boxes_at w ((w.alloc (.cells #[.bool false, .slice none 0 0, .slice none 0 0] 34)).alloc (.cells #[.bool x.s, .slice x.a x.n x.c, .slice x.b x.m x.d] 34)) #[.bool false, .slice none 0 0, .slice none 0 0] #[.bool x.s, .slice x.a x.n x.c, .slice x.b x.m x.d] 34 34 (Below.refl _ _)
  have HR0 := Lib.hid hr0
  have HX0 := Lib.hid hx0
  have HB0 := Lib.hid (below_then HB.out (below_alloc _ (.cells #[.bool x.s, .slice x.a x.n x.c, .slice x.b x.m x.d] 34)))
  clear hr0 hx0 e0 e1 e2 HE HB hn1
  go_loopw [6] (fun iv wr => ∃ (k : Nat) (x : Fx), 1 ≤ k ∧ k ≤ n ∧ iv = .int .i64 (k : Int) ∧ Hid (x ∈ L) ∧ Hid (x.q = qmax ((L.take k).map Fx.q)) ∧ Hid (wr.heap[w.heap.size]? = some (.cells #[.bool false, .slice none 0 0, .slice none 0 0] 34 (0, 0))) ∧ Hid (wr.heap[w.heap.size + 1]? = some (.cells #[.bool x.s, .slice x.a x.n x.c, .slice x.b x.m x.d] 34 (0, 0))) ∧ Hid (Below w.heap.size w wr)) (fun iv _ => n - (intOf iv).toNat)
  case atStart => exact ⟨1, x, by omega, by omega, rfl, HM0, HQ0, HR0, HX0, HB0⟩
  case round =>
    clear HM0 HQ0 HR0 HX0 HB0
    obtain ⟨k, x, hk1, hk, rfl, HM, HQ, HR, HX, HB⟩ := hrel
    by_cases hlt : k < n
    · have hke := HAT.out k hlt
      have hkm : L.getD k Fx.zero ∈ L := getD_mem (by rw [HLl.out]; exact hlt)
      have HT : Hid (L.take (k + 1) = L.take k ++ [L.getD k Fx.zero]) := Lib.hid (take_more (by rw [HLl.out]; exact hlt))
      generalize L.getD k Fx.zero = y at *
      have HMy := Lib.hid hkm
      have hly := HL.out y hkm
      have hlx := HL.out x HM.out
      have HOy := Lib.hid (HK.out.ok hkm)
      have HOx := Lib.hid (HK.out.ok HM.out)
      obtain ⟨ys, ya, yn, yc, yla, yb, ym, yd, ylb⟩ := y
      obtain ⟨xs, xa, xn, xc, xla, xb, xm, xd, xlb⟩ := x
      simp only at hke hly hlx HX
      have HE := Lib.hid hke
      obtain ⟨cc, hcc⟩ : ∃ r, sgn (qval ys (val yla) (val ylb) - qval xs (val xla) (val xlb)).num = r := ⟨_, rfl⟩
      have EC := Lib.hid hcc
      have Hle : Hid (0 < cc ↔ qval xs (val xla) (val xlb) < qval ys (val yla) (val ylb)) := Lib.hid (by rw [← hcc]; exact sgn_gt9 _ _)
      have HM9 : Hid ((L.take (k + 1)).map Fx.q = (L.take k).map Fx.q ++ [qval ys (val yla) (val ylb)]) := Lib.hid (by rw [HT.out, List.map_append]; rfl)
      have hne0 : Hid ((L.take k).map Fx.q ≠ []) := Lib.hid (fun e => by
        have e3 := congrArg List.length e
        rw [List.length_map, List.length_take, HLl.out] at e3
        simp at e3
        omega)
      have HQx : Hid (qval xs (val xla) (val xlb) = qmax ((L.take k).map Fx.q)) := Lib.hid HQ.out
      have hki : (k : Int) < (n : Int) := by omega
      have hk0 : (0 : Int) ≤ (k : Int) := by omega
      clear hkm hke hcc HT HQ
      go_wp2
      have HXd : Hid (wr.drew.heap[w.heap.size + 1]? = some (.cells #[.bool xs, .slice xa xn xc, .slice xb xm xd] 34 (0, 0))) := Lib.hid HX.out
      have HBd : Hid (Below w.heap.size w wr.drew) := Lib.hid HB.out.drew
      have Hd : Hid (Below wr.heap.size wr wr.drew) := Lib.hid (Below.refl _ _).drew
      have Sn0 := six_held9 (three_later9 HE.out HBd.out) (fcells_3 HXd.out)
      go_region_held3 (fun w' => w'.cell? ⟨bb, off + k * 3, none⟩ = some (.bool ys) ∧ w'.cell? ⟨bb, off + k * 3 + 1, none⟩ = some (.slice ya yn yc) ∧ w'.cell? ⟨bb, off + k * 3 + 2, none⟩ = some (.slice yb ym yd) ∧ w'.cell? ⟨w.heap.size + 1, 0, none⟩ = some (.bool xs) ∧ w'.cell? ⟨w.heap.size + 1, 1, none⟩ = some (.slice xa xn xc) ∧ w'.cell? ⟨w.heap.size + 1, 2, none⟩ = some (.slice xb xm xd)) (first | with_reducible exact Sn0 | with_reducible exact Sn1)
        (first
        | (go_at_call 41; (refine (frac_cmp ys ya yn yc yla yb ym yd ylb xs xa xn xc xla xb xm xd xlb _ (HOy.out.later HBd.out).1 (HOy.out.later HBd.out).2 (HOx.out.later HBd.out).1 (HOx.out.later HBd.out).2 (by omega) (by omega) (by omega) (by omega)).mono ?_); rintro e w7 ⟨rfl, bx⟩; rw [EC.out]; have Sn1 := six_held9 (three_later9 HE.out (below_then HBd.out bx)) (fcells_3 (blk_later HXd.out bx))))
      have bt := below_then Hd.out bx
      replace HB := Lib.hid (below_then HB.out bt)
      replace HX := Lib.hid (blk_later HX.out bt)
      replace HR := Lib.hid (blk_later HR.out bt)
      clear bt bx HXd HBd Hd Sn0 Sn1
      by_cases hgt : 0 < cc
      · have HQ9 : Hid (qval ys (val yla) (val ylb) = qmax ((L.take (k + 1)).map Fx.q)) := Lib.hid (by rw [HM9.out, qmax_snoc hne0.out, ← HQx.out, if_pos (Hle.out.1 hgt)])
        have hd9 : decide (0 < cc) = true := decide_eq_true hgt
        obtain ⟨e0, e1, e2⟩ := three_later9 HE.out HB.out
        have v0 := blk_cell HX.out 0
        have v1 := blk_cell HX.out 1
        have v2 := blk_cell HX.out 2
        simp only [List.getElem?_toArray, List.getElem?_cons_zero, List.getElem?_cons_succ] at v0 v1 v2
        have f0 := blk_free HX.out 0
        have f1 := blk_free HX.out 1
        have f2 := blk_free HX.out 2
        have HX9 := Lib.hid (blk_set3 HX.out (.bool ys) (.slice ya yn yc) (.slice yb ym yd))
        have HR9 := Lib.hid (blk_far3 HR.out (show w.heap.size ≠ w.heap.size + 1 by omega) (.bool ys) (.slice ya yn yc) (.slice yb ym yd))
        have HB9 := Lib.hid (below_set3 HB.out (show w.heap.size ≤ w.heap.size + 1 by omega) (.bool ys) (.slice ya yn yc) (.slice yb ym yd))
        clear HX HR HB
        go_wp2
        go_roundw
        case rel => exact ⟨k + 1, ⟨ys, ya, yn, yc, yla, yb, ym, yd, ylb⟩, by omega, by omega, by go_num, HMy, HQ9, HR9, HX9, HB9⟩
        case measure => simp [intOf]; omega
      · have HQ9 : Hid (qval xs (val xla) (val xlb) = qmax ((L.take (k + 1)).map Fx.q)) := Lib.hid (by rw [HM9.out, qmax_snoc hne0.out, ← HQx.out, if_neg (fun h => hgt (Hle.out.2 h))])
        have hd9 : decide (0 < cc) = false := decide_eq_false hgt
        go_wp2
        go_roundw
        case rel => exact ⟨k + 1, ⟨xs, xa, xn, xc, xla, xb, xm, xd, xlb⟩, by omega, by omega, by go_num, HM, HQ9, HR, HX, HB⟩
        case measure => simp [intOf]; omega
    · obtain rfl : k = n := by omega
      have HQ9 : Hid (x.q = qmax (L.map Fx.q)) := Lib.hid (by rw [HQ.out, List.take_of_length_le (by rw [HLl.out]; exact Nat.le_refl _)])
      obtain ⟨k0, k1, k2⟩ := fcells_3 HX.out
      have v0 := blk_cell HR.out 0
      have v1 := blk_cell HR.out 1
      have v2 := blk_cell HR.out 2
      simp only [List.getElem?_toArray, List.getElem?_cons_zero, List.getElem?_cons_succ] at v0 v1 v2
      have f0 := blk_free HR.out 0
      have f1 := blk_free HR.out 1
      have f2 := blk_free HR.out 2
      have HG := Lib.hid (blk_set3 HR.out (.bool x.s) (.slice x.a x.n x.c) (.slice x.b x.m x.d))
      have HL9 := Lib.hid (below_set3 HB.out (show w.heap.size ≤ w.heap.size by omega) (.bool x.s) (.slice x.a x.n x.c) (.slice x.b x.m x.d))
      go_wp2
      refine bodyPost_ret (results_cell_row Try.results59 _ _ (w.heap.size) 34 #[.bool x.s, .slice x.a x.n x.c, .slice x.b x.m x.d] (0, 0) _ rfl HG.out Try.underlying34 rfl (by kernel_rfl)) rfl ?_
      exact ⟨x, HM.out, rfl, HQ9.out, HL9.out⟩
set_option maxRecDepth 4096 in
set_option maxHeartbeats 4000000 in
theorem frac_max (a : Option Addr) (n cap : Nat) (L : List Fx) (w : World) (h : Fxs w a n cap L) (hn : n ≤ 1000) (hl : ∀ x ∈ L, x.n ≤ 2000 ∧ x.m ≤ 2000) :
    Calls Try.prog 21 #[.slice a n cap] w (LstQ (qmax (L.map Fx.q)) w) := by
  have hbd := h.bound
  have hLl := h.len
  have HL := Lib.hid hl
  have HB := Lib.hid (below_alloc w (.cells #[.bool false, .slice none 0 0, .slice none 0 0] 34))
  have HK := Lib.hid (h.later HB.out)
  have HR := Lib.hid (blk_new w #[.bool false, .slice none 0 0, .slice none 0 0] 34)
  clear h hl
  by_cases h0 : n = 0
  · have HQ0 : Hid (((0 : Int) : Rat) = qmax (L.map Fx.q)) := Lib.hid (by rw [List.eq_nil_of_length_eq_zero (hLl.trans h0)]; rfl)
    clear HK HL hLl
    subst h0
    generalize qmax (L.map Fx.q) = q at *
    go_enter Try.func21, Try.ntmps21
    obtain ⟨vk0, vk1, vk2⟩ := fcells_3 HR.out
    go_wp2_with fail
    refine (frac_of 0 _ isInt_nought).mono ?_
    rintro e wv1 ⟨a1, n1, c1, b1, m1, d1, rfl, h1, g1, b⟩
    clear vk0 vk1 vk2
    replace HB := Lib.hid (below_then HB.out b)
    replace HR := Lib.hid (blk_later HR.out b)
    clear b
    rw [HQ0.out] at h1 g1 ⊢
    have R1 := Lib.hid h1
    have T1 := Lib.hid g1
    clear h1 g1
    unfold frV
    have q0 := blk_cell HR.out 0
    have q1 := blk_cell HR.out 1
    have q2 := blk_cell HR.out 2
    simp only [List.getElem?_toArray, List.getElem?_cons_zero, List.getElem?_cons_succ] at q0 q1 q2
    have f0 := blk_free HR.out 0
    have f1 := blk_free HR.out 1
    have f2 := blk_free HR.out 2
    replace R1 := Lib.hid (R1.out.stored3 HR.out ((zneg q.num)) a1 n1 c1 (.slice b1 m1 d1))
    replace T1 := Lib.hid (T1.out.stored3 HR.out ((zneg q.num)) a1 n1 c1 (.slice b1 m1 d1))
    replace HB := Lib.hid (below_set3 HB.out (show w.heap.size ≤ w.heap.size by omega) (.bool (zneg q.num)) (.slice a1 n1 c1) (.slice b1 m1 d1))
    replace HR := Lib.hid (blk_set3 HR.out (.bool (zneg q.num)) (.slice a1 n1 c1) (.slice b1 m1 d1))
    go_wp2
    refine bodyPost_ret (results_cell_row Try.results21 _ _ (w.heap.size) 34 #[.bool (zneg q.num), .slice a1 n1 c1, .slice b1 m1 d1] (0, 0) _ rfl HR.out Try.underlying34 rfl (by kernel_rfl)) rfl ?_
    exact ⟨a1, n1, c1, b1, m1, d1, rfl, R1.out, T1.out, HB.out⟩
  · have hq : ((n : Int) == 0) = false := by simp [h0]
    have hp : 0 < n := by omega
    clear h0 hLl
    obtain ⟨q, hq⟩ : ∃ q, qmax (L.map Fx.q) = q := ⟨_, rfl⟩
    rw [hq]
    have HQ := Lib.hid hq
    clear hq
    go_enter Try.func21, Try.ntmps21
    obtain ⟨vk0, vk1, vk2⟩ := fcells_3 HR.out
    go_wp2_with fail
    refine (frac_maxfunc a n cap L _ HK.out hp hn HL.out).mono ?_
    rintro e wv1 ⟨x, hx, rfl, hxq, b⟩
    clear vk0 vk1 vk2
    replace HB := Lib.hid (below_then HB.out b)
    replace HR := Lib.hid (blk_later HR.out b)
    replace HK := Lib.hid (HK.out.later b)
    clear b
    have HO := Lib.hid (HK.out.ok hx)
    have hlx := HL.out x hx
    have HXQ : Hid (qval x.s (val x.la) (val x.lb) = q) := Lib.hid (hxq.trans HQ.out)
    clear hxq hx
    unfold frV
    obtain ⟨vk0, vk1, vk2⟩ := fcells_3 HR.out
    go_wp2_with fail
    refine (frac_norm x.s x.a x.n x.c x.la x.b x.m x.d x.lb _ HO.out.1 HO.out.2 (by omega) (by omega)).mono ?_
    rintro e wv2 ⟨a1, n1, c1, b1, m1, d1, rfl, h1, g1, b⟩
    clear vk0 vk1 vk2
    replace HB := Lib.hid (below_then HB.out b)
    replace HR := Lib.hid (blk_later HR.out b)
    clear HK
    clear b
    rw [HXQ.out] at h1 g1 ⊢
    have R1 := Lib.hid h1
    have T1 := Lib.hid g1
    clear h1 g1 HO
    unfold frV
    have q0 := blk_cell HR.out 0
    have q1 := blk_cell HR.out 1
    have q2 := blk_cell HR.out 2
    simp only [List.getElem?_toArray, List.getElem?_cons_zero, List.getElem?_cons_succ] at q0 q1 q2
    have f0 := blk_free HR.out 0
    have f1 := blk_free HR.out 1
    have f2 := blk_free HR.out 2
    replace R1 := Lib.hid (R1.out.stored3 HR.out ((zneg q.num)) a1 n1 c1 (.slice b1 m1 d1))
    replace T1 := Lib.hid (T1.out.stored3 HR.out ((zneg q.num)) a1 n1 c1 (.slice b1 m1 d1))
    replace HB := Lib.hid (below_set3 HB.out (show w.heap.size ≤ w.heap.size by omega) (.bool (zneg q.num)) (.slice a1 n1 c1) (.slice b1 m1 d1))
    replace HR := Lib.hid (blk_set3 HR.out (.bool (zneg q.num)) (.slice a1 n1 c1) (.slice b1 m1 d1))
    go_wp2
    refine bodyPost_ret (results_cell_row Try.results21 _ _ (w.heap.size) 34 #[.bool (zneg q.num), .slice a1 n1 c1, .slice b1 m1 d1] (0, 0) _ rfl HR.out Try.underlying34 rfl (by kernel_rfl)) rfl ?_
    exact ⟨a1, n1, c1, b1, m1, d1, rfl, R1.out, T1.out, HB.out⟩
end Go.Proofs.Ytpjgmkkdbmegjaa

/-
  What package frac's functions owe, proved.
-/
namespace Go.Proofs.Ytpjgmkkdbmegjaa
open Go.RowKit

theorem fracSaid : FracSaid where
  new := fun neg a n cap la b m cap' lb q w ha hb hn hm hq => by subst hq; exact frac_new neg a n cap la b m cap' lb w ha hb (by omega) (by omega)
  of := fun z w hz => frac_of z w hz
  ratio := fun x y w hx hy => frac_ratio x y w hx hy
  norm := fun v q w h => by
    obtain ⟨neg, a, n, cap, la, b, m, cap', lb, rfl, ha, hb, hn, hm, rfl⟩ := h
    exact frac_norm neg a n cap la b m cap' lb w ha hb (by omega) (by omega)
  right := fun neg a n cap la b m cap' lb q w ha hb hn hm hq => by subst hq; exact frac_right neg a n cap la b m cap' lb w ha hb (by omega) (by omega)
  sign := fun v q w h => by
    obtain ⟨neg, a, n, cap, la, b, m, cap', lb, rfl, ha, hb, hn, hm, rfl⟩ := h
    exact frac_sign neg a n cap la b m cap' lb w ha hb (by omega) (by omega)
  cmp := fun v u p q w h k => by
    obtain ⟨na, a, n, cap, la, b, m, cap', lb, rfl, ha, hb, hn, hm, rfl⟩ := h
    obtain ⟨nb, a', n', c', la', b', m', d', lb', rfl, ha', hb', hn', hm', rfl⟩ := k
    exact frac_cmp na a n cap la b m cap' lb nb a' n' c' la' b' m' d' lb' w ha hb ha' hb' (by omega) (by omega) (by omega) (by omega)
  same := fun v u p q w h k => by
    obtain ⟨na, a, n, cap, la, b, m, cap', lb, rfl, ha, hb, hn, hm, rfl⟩ := h
    obtain ⟨nb, a', n', c', la', b', m', d', lb', rfl, ha', hb', hn', hm', rfl⟩ := k
    exact frac_same na a n cap la b m cap' lb nb a' n' c' la' b' m' d' lb' w ha hb ha' hb' (by omega) (by omega) (by omega) (by omega)
  neg := fun v q w h => by
    obtain ⟨neg, a, n, cap, la, b, m, cap', lb, rfl, ha, hb, hn, hm, rfl⟩ := h
    exact frac_neg neg a n cap la b m cap' lb w ha hb (by omega) (by omega)
  abs := fun v q w h => by
    obtain ⟨neg, a, n, cap, la, b, m, cap', lb, rfl, ha, hb, hn, hm, rfl⟩ := h
    exact frac_abs neg a n cap la b m cap' lb w ha hb (by omega) (by omega)
  add := fun v u p q w h k => by
    obtain ⟨na, a, n, cap, la, b, m, cap', lb, rfl, ha, hb, hn, hm, rfl⟩ := h
    obtain ⟨nb, a', n', c', la', b', m', d', lb', rfl, ha', hb', hn', hm', rfl⟩ := k
    exact frac_add na a n cap la b m cap' lb nb a' n' c' la' b' m' d' lb' w ha hb ha' hb' (by omega) (by omega) (by omega) (by omega)
  sub := fun v u p q w h k => by
    obtain ⟨na, a, n, cap, la, b, m, cap', lb, rfl, ha, hb, hn, hm, rfl⟩ := h
    obtain ⟨nb, a', n', c', la', b', m', d', lb', rfl, ha', hb', hn', hm', rfl⟩ := k
    exact frac_sub na a n cap la b m cap' lb nb a' n' c' la' b' m' d' lb' w ha hb ha' hb' (by omega) (by omega) (by omega) (by omega)
  mul := fun v u p q w h k => by
    obtain ⟨na, a, n, cap, la, b, m, cap', lb, rfl, ha, hb, hn, hm, rfl⟩ := h
    obtain ⟨nb, a', n', c', la', b', m', d', lb', rfl, ha', hb', hn', hm', rfl⟩ := k
    exact frac_mul na a n cap la b m cap' lb nb a' n' c' la' b' m' d' lb' w ha hb ha' hb' (by omega) (by omega) (by omega) (by omega)
  quo := fun v u p q w h k => by
    obtain ⟨na, a, n, cap, la, b, m, cap', lb, rfl, ha, hb, hn, hm, rfl⟩ := h
    obtain ⟨nb, a', n', c', la', b', m', d', lb', rfl, ha', hb', hn', hm', rfl⟩ := k
    exact frac_quo na a n cap la b m cap' lb nb a' n' c' la' b' m' d' lb' w ha hb ha' hb' (by omega) (by omega) (by omega) (by omega)
  pow_yes := fun v q e w h he => by
    obtain ⟨neg, a, n, cap, la, b, m, cap', lb, rfl, ha, hb, hn, hm, rfl⟩ := h
    obtain ⟨h1, h2, h3⟩ := he
    by_cases h0 : 0 ≤ e
    · obtain ⟨K, rfl⟩ := Int.eq_ofNat_of_zero_le h0
      rw [Rat.zpow_natCast]
      exact frac_pow_high neg a n cap la b m cap' lb w ha hb hn hm K (by omega)
    · obtain ⟨K, rfl⟩ : ∃ K : Nat, e = -(K : Int) := ⟨(-e).toNat, by omega⟩
      rw [zpow_low, ← inv_powers]
      exact frac_pow_low neg a n cap la b m cap' lb w ha hb hn hm K (by omega) (by omega) (h3.resolve_left h0)
  pow_no := fun v q e w h hi he => by
    obtain ⟨neg, a, n, cap, la, b, m, cap', lb, rfl, ha, hb, hn, hm, rfl⟩ := h
    by_cases h0 : e < -8 ∨ 8 < e
    · exact frac_pow_none neg a n cap la b m cap' lb w ha hb e h0
    · have h1 : ¬ (0 ≤ e ∨ qval neg (val la) (val lb) ≠ 0) := fun h => he ⟨by omega, by omega, h⟩
      have h2 : ¬ 0 ≤ e := fun h => h1 (.inl h)
      have h3 : qval neg (val la) (val lb) = 0 := by
        by_cases h4 : qval neg (val la) (val lb) = 0
        · exact h4
        · exact absurd (.inr h4) h1
      exact frac_pow_nought neg a n cap la b m cap' lb w ha hb hn hm e (by omega) (by omega) h3
  max := fun a n cap L w h hn hl => frac_max a n cap L w h hn hl
  size := fun neg a n cap la b m cap' lb w ha hb hn hm => frac_size neg a n cap la b m cap' lb w ha hb (by omega) (by omega)
end Go.Proofs.Ytpjgmkkdbmegjaa

/-
  What every law's row asks behind its walk, said once: a law that returned true and left all that was there as it was meets its specification. Of no program.
-/
namespace Go.Proofs.Ytpjgmkkdbmegjaa
open Go.ChangeShapes Go.WideShapes Go.ChangeAt Go.RowKit

theorem below_of_same {w w' : World} (h : w = w') : Below w.heap.size w w' := by subst h; exact Below.refl _ _
/-- A law's walk that leaves the world as it was, in the form that leaves what was there. -/
theorem same_below {P : Program} {f : FuncId} {args : Array Value} {w : World} (h : Calls P f args w fun e w' => e = .returned (.bool true) ∧ w = w') : Calls P f args w fun e w' => e = .returned (.bool true) ∧ Below w.heap.size w w' :=
  h.mono fun _ _ ⟨he, hw⟩ => ⟨he, below_of_same hw⟩

/-- The arguments read again as they read before. -/
theorem stays_all {H : Type} {enc : TypeId × Value → H} {P : Program} (hl : laidOutB P = true) {W W' : World} (hb : Below W.heap.size W W') :
    ∀ (ts : List TypeId) (vs : List Value) (ds : List (DataW H)) (ps : List MemPlace), (ts.all fun t => P.readableRec t && decide (t < P.types.size)) = true →
      DataW.TrodAll enc P W 0 (fun _ => true) true ts vs ds ps → (∀ x ∈ ps, x.block < W.heap.size) →
      DataW.TrodAll enc P W' 0 (fun b => decide (b < W.heap.size)) true ts vs ds ps
  | [], [], [], _, _, h, _ => h
  | t :: ts, v :: vs, d :: ds, ps, hr, h, hlt => by
    obtain ⟨p, q, h1, h2, rfl⟩ := h
    simp only [List.all_cons, Bool.and_eq_true, decide_eq_true_eq] at hr
    exact ⟨p, q, Below.trod hl hr.1.1 hr.1.2 h1 hb (fun x hx => hlt x (by simp [hx])), stays_all hl hb ts vs ds q hr.2 h2 (fun x hx => hlt x (by simp [hx])), rfl⟩
  | [], [], _ :: _, _, _, h, _ => h.elim
  | [], _ :: _, _, _, _, h, _ => h.elim
  | _ :: _, [], _, _, _, h, _ => h.elim
  | _ :: _, _ :: _, [], _, _, h, _ => h.elim

theorem law_post {H : Type} {enc : TypeId × Value → H} {P : Program} {f : Func} {s : ChangeSpec} {apart fresh handsOn : Bool} {W W' : World} {args : Array Value} {ds gs : List (DataW H)} {before : List MemPlace} {tb : TypeId}
    (hl : laidOutB P = true) (hr : (f.params.toList.all fun t => P.readableRec t && decide (t < P.types.size)) = true) (hrt : f.resultTypes = #[tb]) (htb : P.underlying tb = some .bool) (hvars : s.vars = [])
    (hs : s.fn H ds = { results := [.lit (.bool true)], args := ds })
    (hW : DataW.Whole enc P f.params.toList s.vars apart W args.toList ds gs before) (hb : Below W.heap.size W W') :
    s.post enc P f apart fresh handsOn false W args (.bool true) W' := by
  have hW0 := hW
  obtain ⟨p, q, hA, hV, rfl, _, _⟩ := hW
  rw [hvars] at hV
  obtain ⟨rfl, rfl⟩ := trodVars_none hV
  have hlt : ∀ x ∈ p, x.block < W.heap.size := fun x hx => hW0.lt x (by simp [hx])
  refine ⟨ds, [], p ++ [], [], p, [], hW0, ?_, ?_, ?_, hb.frame _, fun h => by cases h⟩
  · rw [List.append_nil, hs, hrt]
    exact trodAll_mk1 (shut_bool htb true)
  · rw [List.append_nil, hs]
    exact stays_all hl hb _ _ _ _ hr hA hlt
  · rw [List.append_nil, hs, hvars]
    rfl
end Go.Proofs.Ytpjgmkkdbmegjaa

/-
  An argument of type [2]int opened. Of no program.
-/
namespace Go.Proofs.Ytpjgmkkdbmegjaa
open Go.ChangeShapes Go.WideShapes Go.ChangeAt Go.RowKit
section
variable {H : Type} {enc : TypeId × Value → H} {P : Program} {W : World} {base : Nat}

theorem open_ipair {t e : TypeId} {v : Value} {d : DataW H} {p : List MemPlace} (ht : P.underlying t = some (.array 2 e)) (he : P.underlying e = some (.int .i64)) (hct : P.cellsOf t = 2) (hce : P.cellsOf e = 1)
    (hv : Value.okWide P W .any base t v) (h : DataW.Trod enc P W 0 (fun _ => true) true t v d p) : ∃ x y : Int, v = .agg #[.int .i64 x, .int .i64 y] ∧ (-9223372036854775808 ≤ x ∧ x ≤ 9223372036854775807) ∧ (-9223372036854775808 ≤ y ∧ y ≤ 9223372036854775807) := by
  obtain ⟨cs, rfl, hsz⟩ : ∃ cs, v = .agg cs ∧ cs.size = P.cellsOf t := by
    simp only [Value.okWide, ht] at hv
    obtain ⟨cs, h1, h2, _⟩ := hv
    exact ⟨cs, h1, h2⟩
  rw [hct] at hsz
  obtain ⟨l⟩ := cs
  match l, hsz with
  | [c0, c1], _ =>
    obtain ⟨fuel, hf⟩ := h
    obtain ⟨xs, m, _, _, _, hl, hel⟩ := DataW.trod_array ht hf
    have h0 := hel 0 (by omega)
    have h1 := hel 1 (by omega)
    rw [hce, List.getElem?_eq_getElem (by omega)] at h0 h1
    obtain ⟨z0, e0, _, w0⟩ := DataW.trod_int he h0
    obtain ⟨z1, e1, _, w1⟩ := DataW.trod_int he h1
    simp [Value.cells] at e0 e1
    subst e0 e1
    exact ⟨z0, z1, rfl, bounds_i64 w0, bounds_i64 w1⟩
end
end Go.Proofs.Ytpjgmkkdbmegjaa
