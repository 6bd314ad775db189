/-
  Several texts of this claim as one, group 12.
-/
import Derived.Test.YtipcgehcineblaaGreatG11
import Derived.Deep.RegionHeld3
import Derived.BigQuiet
import Derived.Test.YtipcgehcineblaaGreatG9
import Derived.Test.YtipcgehcineblaaGreatG4
/-
  How long right fractions become that are reckoned; what stands in the field's laws. Nothing of the program.
-/
namespace Go.Proofs.YtipcgehcineblaaGreat

theorem qlen_pos (q : Rat) : 1 ≤ qlen q := by
  have h1 := qlen_den q
  have h2 : (dg q.den).length ≠ 0 := fun e => q.den_nz (dg_nil_iff.1 e)
  omega
theorem dg_sum_length (x y : Nat) : (dg (x + y)).length ≤ max (dg x).length (dg y).length + 1 := by
  apply dg_length_le
  have h1 := val_lt (okw_dg x)
  have h2 := val_lt (okw_dg y)
  rw [val_dg] at h1 h2
  have h3 : 4294967296 ^ (dg x).length ≤ 4294967296 ^ max (dg x).length (dg y).length := Nat.pow_le_pow_right (by decide) (Nat.le_max_left _ _)
  have h4 : 4294967296 ^ (dg y).length ≤ 4294967296 ^ max (dg x).length (dg y).length := Nat.pow_le_pow_right (by decide) (Nat.le_max_right _ _)
  rw [Nat.pow_succ]
  omega
theorem qlen_parts (s : Int) (v : Nat) : qlen (mkRat s v) ≤ max (dg s.natAbs).length (dg v).length + 1 := by
  have h := qval_len (zneg s) s.natAbs v
  unfold qval at h
  rw [zval_of] at h
  exact qlen_le (by omega) (by omega)
theorem qlen_add (p q : Rat) : qlen (p + q) ≤ qlen p + qlen q + 2 := by
  have h1 := qlen_parts (p.num * q.den + q.num * p.den) (p.den * q.den)
  rw [show mkRat (p.num * q.den + q.num * p.den) (p.den * q.den) = p + q from (Rat.add_def' p q).symm] at h1
  have h2 : (dg (p.num * q.den + q.num * p.den).natAbs).length ≤ (dg (p.num.natAbs * q.den + q.num.natAbs * p.den)).length := by
    refine dg_length_mono (Nat.le_trans (Int.natAbs_add_le _ _) ?_)
    rw [Int.natAbs_mul, Int.natAbs_mul, Int.natAbs_natCast, Int.natAbs_natCast]
    exact Nat.le_refl _
  have h3 := dg_sum_length (p.num.natAbs * q.den) (q.num.natAbs * p.den)
  have h4 := dg_mul_length p.num.natAbs q.den
  have h5 := dg_mul_length q.num.natAbs p.den
  have h6 := dg_mul_length p.den q.den
  have h7 := qlen_num p
  have h8 := qlen_num q
  have h9 := qlen_den p
  have h10 := qlen_den q
  omega
theorem qlen_opp (q : Rat) : qlen (-q) = qlen q := by unfold qlen; rw [Rat.neg_num, Rat.neg_den, Int.natAbs_neg]
theorem qlen_sub (p q : Rat) : qlen (p - q) ≤ qlen p + qlen q + 2 := by
  rw [Rat.sub_eq_add_neg]
  have := qlen_add p (-q)
  rwa [qlen_opp] at this
theorem qlen_mul (p q : Rat) : qlen (p * q) ≤ qlen p + qlen q + 1 := by
  have h1 := qlen_parts (p.num * q.num) (p.den * q.den)
  rw [show mkRat (p.num * q.num) (p.den * q.den) = p * q from (Rat.mul_def' p q).symm] at h1
  have h2 : (dg (p.num * q.num).natAbs).length = (dg (p.num.natAbs * q.num.natAbs)).length := by rw [Int.natAbs_mul]
  have h4 := dg_mul_length p.num.natAbs q.num.natAbs
  have h6 := dg_mul_length p.den q.den
  have h7 := qlen_num p
  have h8 := qlen_num q
  have h9 := qlen_den p
  have h10 := qlen_den q
  omega
theorem qlen_nought : qlen 0 = 1 := by
  show max (dg (0 : Nat)).length (dg (1 : Nat)).length = 1
  rw [dg_zero, dg_word (by decide) (by decide)]; rfl
theorem qlen_inv (q : Rat) : qlen q⁻¹ ≤ qlen q := by
  by_cases h : q = 0
  · subst h; rw [Rat.inv_zero]; exact Nat.le_refl _
  · refine qlen_le ?_ ?_
    · rw [(qinv_parts h).1]; exact qlen_den q
    · rw [(qinv_parts h).2]; exact qlen_num q
theorem qlen_div (p q : Rat) : qlen (p / q) ≤ qlen p + qlen q + 1 := by
  rw [Rat.div_def]
  have h1 := qlen_mul p q⁻¹
  have h2 := qlen_inv q
  omega
theorem qlen_int {z : Int} (h : isInt z) : qlen (z : Rat) ≤ 2 := by
  unfold isInt at h
  refine qlen_le ?_ ?_
  · rw [Rat.num_intCast]
    refine dg_length_le ?_
    have : (4294967296 : Nat) ^ 2 = 18446744073709551616 := by decide
    rw [this]; omega
  · rw [Rat.den_intCast]
    have := dg_one_length; omega
end Go.Proofs.YtipcgehcineblaaGreat

/-
  Package frac at this seat: Mul, Quo, Ratio.
-/
namespace Go.Proofs.YtipcgehcineblaaGreat
open Go.RowKit

set_option maxRecDepth 4096 in
set_option maxHeartbeats 4000000 in
theorem frac_mul (na : Bool) (a : Option Addr) (n cap : Nat) (la : List Nat) (b : Option Addr) (m cap' : Nat) (lb : List Nat) (nb : Bool) (a' : Option Addr) (n' c' : Nat) (la' : List Nat) (b' : Option Addr) (m' d' : Nat) (lb' : List Nat) (w : World) (ha : Wd w a n cap la) (hb : Wd w b m cap' lb) (ha' : Wd w a' n' c' la') (hb' : Wd w b' m' d' lb') (hn : n ≤ 15728640000) (hm : m ≤ 15728640000) (hn' : n' ≤ 15728640000) (hm' : m' ≤ 15728640000) :
    Calls Tryz.prog 49 #[frV na a n cap b m cap', frV nb a' n' c' b' m' d'] w (LstQ (qval na (val la) (val lb) * qval nb (val la') (val lb')) w) := by
  have HB := Lib.hid (below_then (below_then (below_alloc w (.cells #[.bool na, .slice a n cap, .slice b m cap'] 36)) (below_alloc _ (.cells #[.bool nb, .slice a' n' c', .slice b' m' d'] 36))) (below_alloc _ (.cells #[.bool false, .slice none 0 0, .slice none 0 0] 36)))
  have HA := Lib.hid (ha.later HB.out)
  have HC := Lib.hid (hb.later HB.out)
  have HA' := Lib.hid (ha'.later HB.out)
  have HC' := Lib.hid (hb'.later HB.out)
  obtain ⟨hx1, hx2, hx3⟩ := boxes3_at9 w #[.bool na, .slice a n cap, .slice b m cap'] #[.bool nb, .slice a' n' c', .slice b' m' d'] #[.bool false, .slice none 0 0, .slice none 0 0] 36 36 36
  have HX := Lib.hid hx1
  have HY := Lib.hid hx2
  have HR := Lib.hid hx3
  have ta := ha.trim_le
  have tb := hb.trim_le
  have ta' := ha'.trim_le
  have tb' := hb'.trim_le
  clear ha hb ha' hb' hx1 hx2 hx3
  obtain ⟨q, hq⟩ : ∃ q, qval na (val la) (val lb) * qval nb (val la') (val lb') = q := ⟨_, rfl⟩
  rw [hq]
  have HQ := Lib.hid hq
  clear hq
  have zl1 := zlen_mul (zval na (val la)) (zval nb (val la'))
  have zl2 := dg_mul_length (val lb) (val lb')
  rw [zval_abs, zval_abs] at zl1
  have HZ : Hid (qval (zneg (zval na (val la) * zval nb (val la'))) (val (dg (zval na (val la) * zval nb (val la')).natAbs)) (val (dg (val lb * val lb'))) = q) := Lib.hid (by rw [val_dg, val_dg, fc_qval_of, fc_qval_mul, HQ.out])
  go_enter Tryz.func49, Tryz.ntmps49
  unfold frV
  obtain ⟨vk0, vk1, vk2, vk3, vk4, vk5, vk6, vk7, vk8⟩ := fcells_3_3_3 HX.out HY.out HR.out
  go_wp2_with fail
  refine (frac_product na a n cap la b m cap' lb nb a' n' c' la' b' m' d' lb' _ HA.out HC.out HA'.out HC'.out (by omega) (by omega) (by omega) (by omega)).mono ?_
  rintro e wv1 ⟨a1, n1, c1, b1, m1, d1, rfl, h1, g1, b⟩
  clear vk0 vk1 vk2 vk3 vk4 vk5 vk6 vk7 vk8
  replace HB := Lib.hid (below_then HB.out b)
  replace HX := Lib.hid (blk_later HX.out b)
  replace HY := Lib.hid (blk_later HY.out b)
  replace HR := Lib.hid (blk_later HR.out b)
  clear HA
  clear HC
  clear HA'
  clear HC'
  clear b
  have ln1 := h1.len
  have lm1 := g1.len
  have R1 := Lib.hid h1
  have T1 := Lib.hid g1
  clear h1 g1
  unfold frV
  obtain ⟨vk0, vk1, vk2, vk3, vk4, vk5, vk6, vk7, vk8⟩ := fcells_3_3_3 HX.out HY.out HR.out
  go_wp2_with fail
  refine (frac_norm _ a1 n1 c1 _ b1 m1 d1 _ _ R1.out T1.out (by omega) (by omega)).mono ?_
  rintro e wv2 ⟨a2, n2, c2, b2, m2, d2, rfl, h2, g2, b⟩
  clear vk0 vk1 vk2 vk3 vk4 vk5 vk6 vk7 vk8
  replace HB := Lib.hid (below_then HB.out b)
  replace HX := Lib.hid (blk_later HX.out b)
  replace HY := Lib.hid (blk_later HY.out b)
  replace HR := Lib.hid (blk_later HR.out b)
  clear R1
  clear T1
  clear b
  rw [HZ.out] at h2 g2 ⊢
  have R2 := Lib.hid h2
  have T2 := Lib.hid g2
  clear h2 g2
  unfold frV
  have q0 := blk_cell HR.out 0
  have q1 := blk_cell HR.out 1
  have q2 := blk_cell HR.out 2
  simp only [List.getElem?_toArray, List.getElem?_cons_zero, List.getElem?_cons_succ] at q0 q1 q2
  have f0 := blk_free HR.out 0
  have f1 := blk_free HR.out 1
  have f2 := blk_free HR.out 2
  replace HX := Lib.hid (blk_far3 HX.out (show w.heap.size ≠ w.heap.size + 1 + 1 by omega) (.bool (zneg q.num)) (.slice a2 n2 c2) (.slice b2 m2 d2))
  replace HY := Lib.hid (blk_far3 HY.out (show w.heap.size + 1 ≠ w.heap.size + 1 + 1 by omega) (.bool (zneg q.num)) (.slice a2 n2 c2) (.slice b2 m2 d2))
  replace R2 := Lib.hid (R2.out.stored3 HR.out ((zneg q.num)) a2 n2 c2 (.slice b2 m2 d2))
  replace T2 := Lib.hid (T2.out.stored3 HR.out ((zneg q.num)) a2 n2 c2 (.slice b2 m2 d2))
  replace HB := Lib.hid (below_set3 HB.out (show w.heap.size ≤ w.heap.size + 1 + 1 by omega) (.bool (zneg q.num)) (.slice a2 n2 c2) (.slice b2 m2 d2))
  replace HR := Lib.hid (blk_set3 HR.out (.bool (zneg q.num)) (.slice a2 n2 c2) (.slice b2 m2 d2))
  go_wp2
  refine bodyPost_ret (results_cell_row Tryz.results49 _ _ (w.heap.size + 1 + 1) 36 #[.bool (zneg q.num), .slice a2 n2 c2, .slice b2 m2 d2] (0, 0) _ rfl HR.out Tryz.underlying36 rfl (by kernel_rfl)) rfl ?_
  exact ⟨a2, n2, c2, b2, m2, d2, rfl, R2.out, T2.out, HB.out⟩
set_option maxRecDepth 4096 in
set_option maxHeartbeats 4000000 in
theorem frac_quo (na : Bool) (a : Option Addr) (n cap : Nat) (la : List Nat) (b : Option Addr) (m cap' : Nat) (lb : List Nat) (nb : Bool) (a' : Option Addr) (n' c' : Nat) (la' : List Nat) (b' : Option Addr) (m' d' : Nat) (lb' : List Nat) (w : World) (ha : Wd w a n cap la) (hb : Wd w b m cap' lb) (ha' : Wd w a' n' c' la') (hb' : Wd w b' m' d' lb') (hn : n ≤ 15728640000) (hm : m ≤ 15728640000) (hn' : n' ≤ 15728640000) (hm' : m' ≤ 15728640000) :
    Calls Tryz.prog 60 #[frV na a n cap b m cap', frV nb a' n' c' b' m' d'] w (LstQV (qval na (val la) (val lb) / qval nb (val la') (val lb')) (.bool (decide (qval nb (val la') (val lb') ≠ 0))) w) := by
  have HB := Lib.hid (below_then (below_then (below_alloc w (.cells #[.bool na, .slice a n cap, .slice b m cap'] 36)) (below_alloc _ (.cells #[.bool nb, .slice a' n' c', .slice b' m' d'] 36))) (below_alloc _ (.cells #[.bool false, .slice none 0 0, .slice none 0 0] 36)))
  have HA := Lib.hid (ha.later HB.out)
  have HC := Lib.hid (hb.later HB.out)
  have HA' := Lib.hid (ha'.later HB.out)
  have HC' := Lib.hid (hb'.later HB.out)
  obtain ⟨hx1, hx2, hx3⟩ := boxes3_at9 w #[.bool na, .slice a n cap, .slice b m cap'] #[.bool nb, .slice a' n' c', .slice b' m' d'] #[.bool false, .slice none 0 0, .slice none 0 0] 36 36 36
  have HX := Lib.hid hx1
  have HY := Lib.hid hx2
  have HR := Lib.hid hx3
  have ta := ha.trim_le
  have tb := hb.trim_le
  have ta' := ha'.trim_le
  have tb' := hb'.trim_le
  clear ha hb ha' hb' hx1 hx2 hx3
  have H0 : Hid (sgn (qval nb (val la') (val lb')).num = 0 → qval na (val la) (val lb) / qval nb (val la') (val lb') = 0 ∧ qval nb (val la') (val lb') = 0) := Lib.hid (fun h => by
    have h1 := fc_qsign_zero.1 h
    exact ⟨by rw [h1, Rat.div_def, Rat.inv_zero, Rat.mul_zero], h1⟩)
  have H1 : Hid (sgn (qval nb (val la') (val lb')).num ≠ 0 → qval nb (val la') (val lb') ≠ 0) := Lib.hid (fun h e => h (fc_qsign_zero.2 e))
  have HT : Hid (qval na (val la) (val lb) * qval nb (val lb') (val la') = qval na (val la) (val lb) / qval nb (val la') (val lb')) := Lib.hid (by rw [qval_turned nb (val la') (val lb'), Rat.div_def])
  generalize qval na (val la) (val lb) / qval nb (val la') (val lb') = q at *
  generalize hp : qval nb (val la') (val lb') = p at *
  have HP := Lib.hid hp
  clear hp
  go_enter Tryz.func60, Tryz.ntmps60
  unfold frV
  obtain ⟨vk0, vk1, vk2, vk3, vk4, vk5, vk6, vk7, vk8⟩ := fcells_3_3_3 HX.out HY.out HR.out
  go_wp2_with fail
  refine (frac_sign nb a' n' c' la' b' m' d' lb' _ HA'.out HC'.out (by omega) (by omega)).mono ?_
  rintro e wv1 ⟨rfl, b⟩
  clear vk0 vk1 vk2 vk3 vk4 vk5 vk6 vk7 vk8
  replace HB := Lib.hid (below_then HB.out b)
  replace HX := Lib.hid (blk_later HX.out b)
  replace HY := Lib.hid (blk_later HY.out b)
  replace HR := Lib.hid (blk_later HR.out b)
  replace HA := Lib.hid (HA.out.later b)
  replace HC := Lib.hid (HC.out.later b)
  replace HA' := Lib.hid (HA'.out.later b)
  replace HC' := Lib.hid (HC'.out.later b)
  clear b
  rw [HP.out]
  generalize sgn p.num = s at *
  by_cases h0 : s = 0
  · have hs : (s == 0) = true := by simp [h0]
    have HQ0 : Hid (((0 : Int) : Rat) = q) := Lib.hid (by rw [(H0.out h0).1]; rfl)
    have HD : Hid (decide (p ≠ 0) = false) := Lib.hid (decide_eq_false (fun h => h (H0.out h0).2))
    clear h0 H0 H1 HA HC HA' HC'
    obtain ⟨uk0, uk1, uk2, uk3, uk4, uk5, uk6, uk7, uk8⟩ := fcells_3_3_3 HX.out HY.out HR.out
    go_wp2_with fail
    refine (frac_of 0 _ isInt_nought).mono ?_
    rintro e wu1 ⟨a1, n1, c1, b1, m1, d1, rfl, h1, g1, b⟩
    clear uk0 uk1 uk2 uk3 uk4 uk5 uk6 uk7 uk8
    replace HB := Lib.hid (below_then HB.out b)
    replace HX := Lib.hid (blk_later HX.out b)
    replace HY := Lib.hid (blk_later HY.out b)
    replace HR := Lib.hid (blk_later HR.out b)
    clear b
    rw [HQ0.out] at h1 g1 ⊢
    have R1 := Lib.hid h1
    have T1 := Lib.hid g1
    clear h1 g1
    unfold frV
    have q0 := blk_cell HR.out 0
    have q1 := blk_cell HR.out 1
    have q2 := blk_cell HR.out 2
    simp only [List.getElem?_toArray, List.getElem?_cons_zero, List.getElem?_cons_succ] at q0 q1 q2
    have f0 := blk_free HR.out 0
    have f1 := blk_free HR.out 1
    have f2 := blk_free HR.out 2
    replace HX := Lib.hid (blk_far3 HX.out (show w.heap.size ≠ w.heap.size + 1 + 1 by omega) (.bool (zneg q.num)) (.slice a1 n1 c1) (.slice b1 m1 d1))
    replace HY := Lib.hid (blk_far3 HY.out (show w.heap.size + 1 ≠ w.heap.size + 1 + 1 by omega) (.bool (zneg q.num)) (.slice a1 n1 c1) (.slice b1 m1 d1))
    replace R1 := Lib.hid (R1.out.stored3 HR.out ((zneg q.num)) a1 n1 c1 (.slice b1 m1 d1))
    replace T1 := Lib.hid (T1.out.stored3 HR.out ((zneg q.num)) a1 n1 c1 (.slice b1 m1 d1))
    replace HB := Lib.hid (below_set3 HB.out (show w.heap.size ≤ w.heap.size + 1 + 1 by omega) (.bool (zneg q.num)) (.slice a1 n1 c1) (.slice b1 m1 d1))
    replace HR := Lib.hid (blk_set3 HR.out (.bool (zneg q.num)) (.slice a1 n1 c1) (.slice b1 m1 d1))
    go_wp2
    refine bodyPost_ret (results_row_tmp Tryz.results60 _ _ (w.heap.size + 1 + 1) 36 #[.bool (zneg q.num), .slice a1 n1 c1, .slice b1 m1 d1] (0, 0) _ rfl HR.out Tryz.underlying36 rfl (by kernel_rfl)) rfl ?_
    exact ⟨a1, n1, c1, b1, m1, d1, by rw [HD.out]; rfl, R1.out, T1.out, HB.out⟩
  · have hs : (s == 0) = false := by simp [h0]
    have HD : Hid (decide (p ≠ 0) = true) := Lib.hid (decide_eq_true (H1.out h0))
    clear h0 H0 H1
    obtain ⟨uk0, uk1, uk2, uk3, uk4, uk5, uk6, uk7, uk8⟩ := fcells_3_3_3 HX.out HY.out HR.out
    go_wp2
    clear uk0 uk1 uk2 uk3 uk4 uk5 uk6 uk7 uk8
    replace HB := Lib.hid (below_then HB.out ((Below.refl _ _).drew : Below wv1.heap.size wv1 wv1.drew))
    replace HX : Hid (wv1.drew.heap[w.heap.size]? = _) := Lib.hid HX.out
    replace HY : Hid (wv1.drew.heap[w.heap.size + 1]? = _) := Lib.hid HY.out
    replace HR : Hid (wv1.drew.heap[w.heap.size + 1 + 1]? = some (.cells #[.bool false, .slice none 0 0, .slice none 0 0] 36 (0, 0))) := Lib.hid HR.out
    replace HA := Lib.hid (HA.out.later ((Below.refl _ _).drew : Below wv1.heap.size wv1 wv1.drew))
    replace HC := Lib.hid (HC.out.later ((Below.refl _ _).drew : Below wv1.heap.size wv1 wv1.drew))
    replace HA' := Lib.hid (HA'.out.later ((Below.refl _ _).drew : Below wv1.heap.size wv1 wv1.drew))
    replace HC' := Lib.hid (HC'.out.later ((Below.refl _ _).drew : Below wv1.heap.size wv1 wv1.drew))
    have pSn := fcells_3_3 HX.out HY.out
    go_region_held3 (fun w' => w'.cell? ⟨w.heap.size, 0, none⟩ = some (.bool na) ∧ w'.cell? ⟨w.heap.size, 1, none⟩ = some (.slice a n cap) ∧ w'.cell? ⟨w.heap.size, 2, none⟩ = some (.slice b m cap') ∧ w'.cell? ⟨w.heap.size + 1, 0, none⟩ = some (.bool nb) ∧ w'.cell? ⟨w.heap.size + 1, 1, none⟩ = some (.slice a' n' c') ∧ w'.cell? ⟨w.heap.size + 1, 2, none⟩ = some (.slice b' m' d')) (first | exact pSn | exact pSb _ _ _)
      (first
      | (go_at_call 92; (first
        | (refine (frac_under nb a' n' c' b' m' d' _).mono ?_; rintro e wp1 ⟨rfl, b⟩; replace HB := Lib.hid (below_then HB.out b); replace HX := Lib.hid (blk_later HX.out b); replace HY := Lib.hid (blk_later HY.out b); replace HR := Lib.hid (blk_later HR.out b); replace HA := Lib.hid (HA.out.later b); replace HC := Lib.hid (HC.out.later b); replace HA' := Lib.hid (HA'.out.later b); replace HC' := Lib.hid (HC'.out.later b); unfold frV; clear b; clear pSn; have pSn := fcells_3_3 HX.out HY.out; have pM1 := True.intro)))
      | (go_at_call 49; (first
        | (have pm1 := pM1; refine (frac_mul na a n cap la b m cap' lb nb b' m' d' lb' a' n' c' la' _ HA.out HC.out HC'.out HA'.out hn hm hm' hn').mono ?_; rintro e wp2 ⟨a1, n1, c1, b1, m1, d1, rfl, h1, g1, b⟩; replace HB := Lib.hid (below_then HB.out b); replace HX := Lib.hid (blk_later HX.out b); replace HY := Lib.hid (blk_later HY.out b); replace HR := Lib.hid (blk_later HR.out b); replace HA := Lib.hid (HA.out.later b); replace HC := Lib.hid (HC.out.later b); replace HA' := Lib.hid (HA'.out.later b); replace HC' := Lib.hid (HC'.out.later b); rw [HT.out] at h1 g1 ⊢; have R1 := Lib.hid h1; have T1 := Lib.hid g1; clear h1 g1; obtain ⟨r0, r1, r2⟩ := fcells_3 HR.out; have f0 := blk_free HR.out 0; have f1 := blk_free HR.out 1; have f2 := blk_free HR.out 2; have pSb := fun u v q => fcells_3_3 (blk_far3 (g := w.heap.size + 1 + 1) HX.out (by omega) u v q) (blk_far3 (g := w.heap.size + 1 + 1) HY.out (by omega) u v q); unfold frV; clear b; clear pSn; have pSn := fcells_3_3 HX.out HY.out; clear pM1 pm1; have pM2 := True.intro))))
    have HG := Lib.hid (blk_set3 HR.out (.bool (zneg q.num)) (.slice a1 n1 c1) (.slice b1 m1 d1))
    have HL := Lib.hid (below_set3 HB.out (show w.heap.size ≤ w.heap.size + 1 + 1 by omega) (.bool (zneg q.num)) (.slice a1 n1 c1) (.slice b1 m1 d1))
    have HW1 := Lib.hid (R1.out.stored3 HR.out (zneg q.num) a1 n1 c1 (.slice b1 m1 d1))
    have HW2 := Lib.hid (T1.out.stored3 HR.out (zneg q.num) a1 n1 c1 (.slice b1 m1 d1))
    go_wp2
    refine bodyPost_ret (results_row_tmp Tryz.results60 _ _ (w.heap.size + 1 + 1) 36 #[.bool (zneg q.num), .slice a1 n1 c1, .slice b1 m1 d1] (0, 0) _ rfl HG.out Tryz.underlying36 rfl (by kernel_rfl)) rfl ?_
    exact ⟨a1, n1, c1, b1, m1, d1, by rw [HD.out]; rfl, HW1.out, HW2.out, HL.out⟩
end Go.Proofs.YtipcgehcineblaaGreat

/-
  Package frac at this seat: Cmp, Same.
-/
namespace Go.Proofs.YtipcgehcineblaaGreat
open Go.RowKit

set_option maxRecDepth 4096 in
set_option maxHeartbeats 4000000 in
theorem frac_cmp (na : Bool) (a : Option Addr) (n cap : Nat) (la : List Nat) (b : Option Addr) (m cap' : Nat) (lb : List Nat) (nb : Bool) (a' : Option Addr) (n' c' : Nat) (la' : List Nat) (b' : Option Addr) (m' d' : Nat) (lb' : List Nat) (w : World) (ha : Wd w a n cap la) (hb : Wd w b m cap' lb) (ha' : Wd w a' n' c' la') (hb' : Wd w b' m' d' lb') (hn : n ≤ 41943040000) (hm : m ≤ 41943040000) (hn' : n' ≤ 41943040000) (hm' : m' ≤ 41943040000) :
    Calls Tryz.prog 101 #[frV na a n cap b m cap', frV nb a' n' c' b' m' d'] w (Gives (.int .i64 (sgn (qval na (val la) (val lb) - qval nb (val la') (val lb')).num)) w) := by
  have HB := Lib.hid (below_then (below_alloc w (.cells #[.bool na, .slice a n cap, .slice b m cap'] 36)) (below_alloc _ (.cells #[.bool nb, .slice a' n' c', .slice b' m' d'] 36)))
  have HA := Lib.hid (ha.later HB.out)
  have HC := Lib.hid (hb.later HB.out)
  have HA' := Lib.hid (ha'.later HB.out)
  have HC' := Lib.hid (hb'.later HB.out)
  obtain ⟨hx1, hx2⟩ := boxes_at w ((w.alloc (.cells #[.bool na, .slice a n cap, .slice b m cap'] 36)).alloc (.cells #[.bool nb, .slice a' n' c', .slice b' m' d'] 36)) #[.bool na, .slice a n cap, .slice b m cap'] #[.bool nb, .slice a' n' c', .slice b' m' d'] 36 36 (Below.refl _ _)
  have HX := Lib.hid hx1
  have HY := Lib.hid hx2
  have ta := ha.trim_le
  have tb := hb.trim_le
  have ta' := ha'.trim_le
  have tb' := hb'.trim_le
  clear ha hb ha' hb' hx1 hx2
  have zl1 := zlen_mul (zval na (val la)) ((val lb' : Nat) : Int)
  have zl2 := zlen_mul (zval nb (val la')) ((val lb : Nat) : Int)
  rw [zval_abs, Int.natAbs_natCast] at zl1 zl2
  have HF : Hid (sgn (qval na (val la) (val lb)).num ≠ sgn (qval nb (val la') (val lb')).num → sgn (sgn (qval na (val la) (val lb)).num - sgn (qval nb (val la') (val lb')).num) = sgn (qval na (val la) (val lb) - qval nb (val la') (val lb')).num) := Lib.hid fc_qcmp_far
  have HE0 : Hid (sgn (qval na (val la) (val lb)).num = sgn (qval nb (val la') (val lb')).num → sgn (qval na (val la) (val lb)).num = 0 → sgn (qval na (val la) (val lb) - qval nb (val la') (val lb')).num = 0) := Lib.hid (fun h h0 => by
    rw [fc_qsign_zero.1 h0, fc_qsign_zero.1 (h.symm.trans h0), Rat.sub_self]; rfl)
  have HN : Hid (sgn (qval na (val la) (val lb)).num = sgn (qval nb (val la') (val lb')).num → sgn (qval na (val la) (val lb)).num ≠ 0 → sgn (zval na (val la) * ((val lb' : Nat) : Int) - zval nb (val la') * ((val lb : Nat) : Int)) = sgn (qval na (val la) (val lb) - qval nb (val la') (val lb')).num) := Lib.hid (fun h h0 => by
    refine fc_qcmp_near (fun e => h0 ?_) (fun e => h0 ?_)
    · rw [qval_none na (.inl e)]; rfl
    · rw [h, qval_none nb (.inl e)]; rfl)
  have hra := sgn_range (qval na (val la) (val lb)).num
  have hrb := sgn_range (qval nb (val la') (val lb')).num
  generalize hz : sgn (qval na (val la) (val lb) - qval nb (val la') (val lb')).num = z at *
  generalize hx : sgn (qval na (val la) (val lb)).num = x at *
  generalize hy : sgn (qval nb (val la') (val lb')).num = y at *
  have HSA := Lib.hid hx
  have HSB := Lib.hid hy
  clear hx hy hz
  go_enter Tryz.func101, Tryz.ntmps101
  unfold frV
  go_wp2
  generalize ((w.alloc (.cells #[.bool na, .slice a n cap, .slice b m cap'] 36)).alloc (.cells #[.bool nb, .slice a' n' c', .slice b' m' d'] 36)) = W at *
  replace HB := Lib.hid (below_then HB.out ((Below.refl _ _).drew : Below W.heap.size W W.drew))
  replace HX : Hid (W.drew.heap[w.heap.size]? = _) := Lib.hid HX.out
  replace HY : Hid (W.drew.heap[w.heap.size + 1]? = _) := Lib.hid HY.out
  replace HA := Lib.hid (HA.out.later ((Below.refl _ _).drew : Below W.heap.size W W.drew))
  replace HC := Lib.hid (HC.out.later ((Below.refl _ _).drew : Below W.heap.size W W.drew))
  replace HA' := Lib.hid (HA'.out.later ((Below.refl _ _).drew : Below W.heap.size W W.drew))
  replace HC' := Lib.hid (HC'.out.later ((Below.refl _ _).drew : Below W.heap.size W W.drew))
  have pSn := fcells_3_3 HX.out HY.out
  go_region_held3 (fun w' => w'.cell? ⟨w.heap.size, 0, none⟩ = some (.bool na) ∧ w'.cell? ⟨w.heap.size, 1, none⟩ = some (.slice a n cap) ∧ w'.cell? ⟨w.heap.size, 2, none⟩ = some (.slice b m cap') ∧ w'.cell? ⟨w.heap.size + 1, 0, none⟩ = some (.bool nb) ∧ w'.cell? ⟨w.heap.size + 1, 1, none⟩ = some (.slice a' n' c') ∧ w'.cell? ⟨w.heap.size + 1, 2, none⟩ = some (.slice b' m' d')) (exact pSn)
    (first
    | (go_at_call 44; (first
      | (have pm1 := pM1; refine (frac_sign nb a' n' c' la' b' m' d' lb' _ HA'.out HC'.out (by omega) (by omega)).mono ?_; rintro e wp2 ⟨rfl, b⟩; replace HB := Lib.hid (below_then HB.out b); replace HX := Lib.hid (blk_later HX.out b); replace HY := Lib.hid (blk_later HY.out b); replace HA := Lib.hid (HA.out.later b); replace HC := Lib.hid (HC.out.later b); replace HA' := Lib.hid (HA'.out.later b); replace HC' := Lib.hid (HC'.out.later b); rw [HSB.out]; clear b; clear pSn; have pSn := fcells_3_3 HX.out HY.out; clear pM1 pm1; have pM2 := True.intro)
      | (refine (frac_sign na a n cap la b m cap' lb _ HA.out HC.out (by omega) (by omega)).mono ?_; rintro e wp1 ⟨rfl, b⟩; replace HB := Lib.hid (below_then HB.out b); replace HX := Lib.hid (blk_later HX.out b); replace HY := Lib.hid (blk_later HY.out b); replace HA := Lib.hid (HA.out.later b); replace HC := Lib.hid (HC.out.later b); replace HA' := Lib.hid (HA'.out.later b); replace HC' := Lib.hid (HC'.out.later b); rw [HSA.out]; clear b; clear pSn; have pSn := fcells_3_3 HX.out HY.out; have pM1 := True.intro))))
  clear HSA HSB pSn pM2
  by_cases hxy : x = y
  · by_cases hx0 : x = 0
    · have HZ : Hid (z = 0) := Lib.hid (HE0.out hxy hx0)
      have HS : Hid (sgn ((0 : Int) - 0) = 0) := Lib.hid rfl
      clear HF HE0 HN zl1 zl2
      obtain rfl : y = 0 := by omega
      obtain rfl : x = 0 := hx0
      clear hxy hra hrb
      go_wp2_with fail
      refine (cmp_Compare 0 0 _).mono ?_
      rintro e w' ⟨rfl, rfl⟩
      rw [HS.out]
      go_wp2
      go_ret
      exact ⟨by rw [HZ.out]; rfl, HB.out⟩
    · have hq0 : (x == 0) = false := by simp [hx0]
      have HZ := Lib.hid (HN.out hxy hx0)
      clear HF HE0 HN hx0
      subst hxy
      obtain ⟨uk0, uk1, uk2, uk3, uk4, uk5⟩ := fcells_3_3 HX.out HY.out
      go_wp2
      clear uk0 uk1 uk2 uk3 uk4 uk5
      replace HB := Lib.hid (below_then HB.out ((Below.refl _ _).drew : Below wp2.heap.size wp2 wp2.drew))
      replace HX : Hid (wp2.drew.heap[w.heap.size]? = _) := Lib.hid HX.out
      replace HY : Hid (wp2.drew.heap[w.heap.size + 1]? = _) := Lib.hid HY.out
      replace HA := Lib.hid (HA.out.later ((Below.refl _ _).drew : Below wp2.heap.size wp2 wp2.drew))
      replace HC := Lib.hid (HC.out.later ((Below.refl _ _).drew : Below wp2.heap.size wp2 wp2.drew))
      replace HA' := Lib.hid (HA'.out.later ((Below.refl _ _).drew : Below wp2.heap.size wp2 wp2.drew))
      replace HC' := Lib.hid (HC'.out.later ((Below.refl _ _).drew : Below wp2.heap.size wp2 wp2.drew))
      have rSn := fcells_3_3 HX.out HY.out
      go_region_held3 (fun w' => w'.cell? ⟨w.heap.size, 0, none⟩ = some (.bool na) ∧ w'.cell? ⟨w.heap.size, 1, none⟩ = some (.slice a n cap) ∧ w'.cell? ⟨w.heap.size, 2, none⟩ = some (.slice b m cap') ∧ w'.cell? ⟨w.heap.size + 1, 0, none⟩ = some (.bool nb) ∧ w'.cell? ⟨w.heap.size + 1, 1, none⟩ = some (.slice a' n' c') ∧ w'.cell? ⟨w.heap.size + 1, 2, none⟩ = some (.slice b' m' d')) (exact rSn)
        (first
        | (go_at_call 81; (first
          | (have rm1 := rM1; refine (frac_times nb a' n' c' la' b m cap' lb _ HA'.out HC.out (by omega) (by omega)).mono ?_; rintro e wr2 ⟨a2, n2, c2, rfl, h2, b⟩; replace HB := Lib.hid (below_then HB.out b); replace HX := Lib.hid (blk_later HX.out b); replace HY := Lib.hid (blk_later HY.out b); replace HA := Lib.hid (HA.out.later b); replace HC := Lib.hid (HC.out.later b); replace HA' := Lib.hid (HA'.out.later b); replace HC' := Lib.hid (HC'.out.later b); replace R1 := Lib.hid (R1.out.later b); have R2 := Lib.hid h2; have ln2 := h2.len; clear h2; unfold whV; clear b; clear rSn; have rSn := fcells_3_3 HX.out HY.out; clear rM1 rm1; have rM2 := True.intro)
          | (refine (frac_times na a n cap la b' m' d' lb' _ HA.out HC'.out (by omega) (by omega)).mono ?_; rintro e wr1 ⟨a1, n1, c1, rfl, h1, b⟩; replace HB := Lib.hid (below_then HB.out b); replace HX := Lib.hid (blk_later HX.out b); replace HY := Lib.hid (blk_later HY.out b); replace HA := Lib.hid (HA.out.later b); replace HC := Lib.hid (HC.out.later b); replace HA' := Lib.hid (HA'.out.later b); replace HC' := Lib.hid (HC'.out.later b); have R1 := Lib.hid h1; have ln1 := h1.len; clear h1; unfold whV; clear b; clear rSn; have rSn := fcells_3_3 HX.out HY.out; have rM1 := True.intro)))
        | (go_at_call 115; (first
          | (have rm2 := rM2; refine (whole_cmp _ a1 n1 c1 _ _ a2 n2 c2 _ _ R1.out R2.out (by omega) (by omega)).mono ?_; rintro e wr3 ⟨rfl, b⟩; replace HB := Lib.hid (below_then HB.out b); replace HX := Lib.hid (blk_later HX.out b); replace HY := Lib.hid (blk_later HY.out b); replace HA := Lib.hid (HA.out.later b); replace HC := Lib.hid (HC.out.later b); replace HA' := Lib.hid (HA'.out.later b); replace HC' := Lib.hid (HC'.out.later b); clear R1; clear R2; rw [zval_dg, zval_dg, HZ.out]; clear b; clear rSn; have rSn := fcells_3_3 HX.out HY.out; clear rM2 rm2; have rM3 := True.intro))))
      go_wp2
      go_ret
      exact ⟨rfl, HB.out⟩
  · have hq : (x == y) = false := by simp [hxy]
    have HZ := Lib.hid (HF.out hxy)
    clear HF HE0 HN hxy zl1 zl2
    go_wp2_with fail
    refine (cmp_Compare x y _).mono ?_
    rintro e w' ⟨rfl, rfl⟩
    rw [HZ.out]
    go_wp2
    go_ret
    exact ⟨rfl, HB.out⟩
set_option maxRecDepth 4096 in
set_option maxHeartbeats 4000000 in
theorem frac_same (na : Bool) (a : Option Addr) (n cap : Nat) (la : List Nat) (b : Option Addr) (m cap' : Nat) (lb : List Nat) (nb : Bool) (a' : Option Addr) (n' c' : Nat) (la' : List Nat) (b' : Option Addr) (m' d' : Nat) (lb' : List Nat) (w : World) (ha : Wd w a n cap la) (hb : Wd w b m cap' lb) (ha' : Wd w a' n' c' la') (hb' : Wd w b' m' d' lb') (hn : n ≤ 41943040000) (hm : m ≤ 41943040000) (hn' : n' ≤ 41943040000) (hm' : m' ≤ 41943040000) :
    Calls Tryz.prog 76 #[frV na a n cap b m cap', frV nb a' n' c' b' m' d'] w (Gives (.bool (decide (qval na (val la) (val lb) = qval nb (val la') (val lb')))) w) := by
  have HB := Lib.hid (below_then (below_alloc w (.cells #[.bool na, .slice a n cap, .slice b m cap'] 36)) (below_alloc _ (.cells #[.bool nb, .slice a' n' c', .slice b' m' d'] 36)))
  have HA := Lib.hid (ha.later HB.out)
  have HC := Lib.hid (hb.later HB.out)
  have HA' := Lib.hid (ha'.later HB.out)
  have HC' := Lib.hid (hb'.later HB.out)
  obtain ⟨hx1, hx2⟩ := boxes_at w ((w.alloc (.cells #[.bool na, .slice a n cap, .slice b m cap'] 36)).alloc (.cells #[.bool nb, .slice a' n' c', .slice b' m' d'] 36)) #[.bool na, .slice a n cap, .slice b m cap'] #[.bool nb, .slice a' n' c', .slice b' m' d'] 36 36 (Below.refl _ _)
  have HX := Lib.hid hx1
  have HY := Lib.hid hx2
  have ta := ha.trim_le
  have tb := hb.trim_le
  have ta' := ha'.trim_le
  have tb' := hb'.trim_le
  clear ha hb ha' hb' hx1 hx2
  have HE : Hid ((sgn (qval na (val la) (val lb) - qval nb (val la') (val lb')).num == 0) = decide (qval na (val la) (val lb) = qval nb (val la') (val lb'))) := Lib.hid (by
    by_cases h : qval na (val la) (val lb) = qval nb (val la') (val lb')
    · rw [decide_eq_true h, h, Rat.sub_self]; rfl
    · rw [decide_eq_false h, beq_eq_false_iff_ne]
      exact fun e => h (by
        have h1 := fc_qsign_zero.1 e
        rw [Rat.sub_eq_add_neg] at h1
        have h2 := congrArg (· + qval nb (val la') (val lb')) h1
        simp only [Rat.add_assoc, Rat.neg_add_cancel, Rat.add_zero, Rat.zero_add] at h2
        exact h2))
  go_enter Tryz.func76, Tryz.ntmps76
  unfold frV
  obtain ⟨vk0, vk1, vk2, vk3, vk4, vk5⟩ := fcells_3_3 HX.out HY.out
  go_wp2_with fail
  refine (frac_cmp na a n cap la b m cap' lb nb a' n' c' la' b' m' d' lb' _ HA.out HC.out HA'.out HC'.out hn hm hn' hm').mono ?_
  rintro e wv1 ⟨rfl, b⟩
  clear vk0 vk1 vk2 vk3 vk4 vk5
  replace HB := Lib.hid (below_then HB.out b)
  replace HX := Lib.hid (blk_later HX.out b)
  replace HY := Lib.hid (blk_later HY.out b)
  replace HA := Lib.hid (HA.out.later b)
  replace HC := Lib.hid (HC.out.later b)
  replace HA' := Lib.hid (HA'.out.later b)
  replace HC' := Lib.hid (HC'.out.later b)
  clear b
  clear HX HY HA HC HA' HC'
  generalize decide (qval na (val la) (val lb) = qval nb (val la') (val lb')) = s at *
  generalize sgn (qval na (val la) (val lb) - qval nb (val la') (val lb')).num = z at *
  go_wp2
  go_ret
  exact ⟨by rw [← HE.out]; rfl, HB.out⟩
end Go.Proofs.YtipcgehcineblaaGreat

/-
  Package frac at this seat: Add, Sub.
-/
namespace Go.Proofs.YtipcgehcineblaaGreat
open Go.RowKit

set_option maxRecDepth 4096 in
set_option maxHeartbeats 4000000 in
theorem frac_add (na : Bool) (a : Option Addr) (n cap : Nat) (la : List Nat) (b : Option Addr) (m cap' : Nat) (lb : List Nat) (nb : Bool) (a' : Option Addr) (n' c' : Nat) (la' : List Nat) (b' : Option Addr) (m' d' : Nat) (lb' : List Nat) (w : World) (ha : Wd w a n cap la) (hb : Wd w b m cap' lb) (ha' : Wd w a' n' c' la') (hb' : Wd w b' m' d' lb') (hn : n ≤ 9437184000) (hm : m ≤ 9437184000) (hn' : n' ≤ 9437184000) (hm' : m' ≤ 9437184000) :
    Calls Tryz.prog 48 #[frV na a n cap b m cap', frV nb a' n' c' b' m' d'] w (LstQ (qval na (val la) (val lb) + qval nb (val la') (val lb')) w) := by
  have HB := Lib.hid (below_then (below_then (below_alloc w (.cells #[.bool na, .slice a n cap, .slice b m cap'] 36)) (below_alloc _ (.cells #[.bool nb, .slice a' n' c', .slice b' m' d'] 36))) (below_alloc _ (.cells #[.bool false, .slice none 0 0, .slice none 0 0] 36)))
  have HA := Lib.hid (ha.later HB.out)
  have HC := Lib.hid (hb.later HB.out)
  have HA' := Lib.hid (ha'.later HB.out)
  have HC' := Lib.hid (hb'.later HB.out)
  obtain ⟨hx1, hx2, hx3⟩ := boxes3_at9 w #[.bool na, .slice a n cap, .slice b m cap'] #[.bool nb, .slice a' n' c', .slice b' m' d'] #[.bool false, .slice none 0 0, .slice none 0 0] 36 36 36
  have HX := Lib.hid hx1
  have HY := Lib.hid hx2
  have HR := Lib.hid hx3
  have ta := ha.trim_le
  have tb := hb.trim_le
  have ta' := ha'.trim_le
  have tb' := hb'.trim_le
  clear ha hb ha' hb' hx1 hx2 hx3
  have H0A : Hid (sgn (qval na (val la) (val lb)).num = 0 → qval nb (val la') (val lb') = qval na (val la) (val lb) + qval nb (val la') (val lb')) := Lib.hid (fun h => by rw [fc_qsign_zero.1 h, Rat.zero_add])
  have H0B : Hid (sgn (qval nb (val la') (val lb')).num = 0 → qval na (val la) (val lb) = qval na (val la) (val lb) + qval nb (val la') (val lb')) := Lib.hid (fun h => by rw [fc_qsign_zero.1 h, Rat.add_zero])
  have H1A : Hid (sgn (qval na (val la) (val lb)).num ≠ 0 → val lb ≠ 0) := Lib.hid (fun h e => h (by rw [qval_none na (.inl e)]; rfl))
  have H1B : Hid (sgn (qval nb (val la') (val lb')).num ≠ 0 → val lb' ≠ 0) := Lib.hid (fun h e => h (by rw [qval_none nb (.inl e)]; rfl))
  obtain ⟨X, hX⟩ : ∃ X, val lb / Nat.gcd (val lb) (val lb') = X := ⟨_, rfl⟩
  obtain ⟨Y, hY⟩ : ∃ Y, val lb' / Nat.gcd (val lb) (val lb') = Y := ⟨_, rfl⟩
  have lX : (dg X).length ≤ 9437184000 := by rw [← hX]; exact Nat.le_trans (dg_length_mono (Nat.div_le_self _ _)) (by omega)
  have lY : (dg Y).length ≤ 9437184000 := by rw [← hY]; exact Nat.le_trans (dg_length_mono (Nat.div_le_self _ _)) (by omega)
  obtain ⟨s1, hs1⟩ : ∃ s1, zval na (val la) * (Y : Int) = s1 := ⟨_, rfl⟩
  obtain ⟨s2, hs2⟩ : ∃ s2, zval nb (val la') * (X : Int) = s2 := ⟨_, rfl⟩
  obtain ⟨D, hD⟩ : ∃ D, val lb * Y = D := ⟨_, rfl⟩
  have zl1 := zlen_mul (zval na (val la)) (Y : Int)
  have zl2 := zlen_mul (zval nb (val la')) (X : Int)
  have zl3 := dg_mul_length (val lb) Y
  rw [zval_abs, Int.natAbs_natCast, hs1] at zl1
  rw [zval_abs, Int.natAbs_natCast, hs2] at zl2
  rw [hD] at zl3
  have zl4 := zlen_add s1 s2
  have HS1 : Hid (zval na (val la) * ((val (dg Y) : Nat) : Int) = s1) := Lib.hid (by rw [val_dg]; exact hs1)
  have HS2 : Hid (zval nb (val la') * ((val (dg X) : Nat) : Int) = s2) := Lib.hid (by rw [val_dg]; exact hs2)
  have HD : Hid (val lb * val (dg Y) = D) := Lib.hid (by rw [val_dg]; exact hD)
  have HZ : Hid (val lb ≠ 0 → val lb' ≠ 0 → qval (zneg (s1 + s2)) (val (dg (s1 + s2).natAbs)) (val (dg D)) = qval na (val la) (val lb) + qval nb (val la') (val lb')) := Lib.hid (fun h h' => by
    rw [val_dg, val_dg, fc_qval_of, ← hs1, ← hs2, ← hD, ← hX, ← hY]
    exact fc_qval_add na nb _ _ _ _ h h')
  have EX := Lib.hid hX
  have EY := Lib.hid hY
  clear hX hY hs1 hs2 hD
  generalize hq : qval na (val la) (val lb) + qval nb (val la') (val lb') = q at *
  generalize hp : qval na (val la) (val lb) = p at *
  generalize hr : qval nb (val la') (val lb') = r at *
  have HP := Lib.hid hp
  have HR9 := Lib.hid hr
  clear hp hr hq
  go_enter Tryz.func48, Tryz.ntmps48
  unfold frV
  obtain ⟨vk0, vk1, vk2, vk3, vk4, vk5, vk6, vk7, vk8⟩ := fcells_3_3_3 HX.out HY.out HR.out
  go_wp2_with fail
  refine (frac_sign na a n cap la b m cap' lb _ HA.out HC.out (by omega) (by omega)).mono ?_
  rintro e wv1 ⟨rfl, b⟩
  clear vk0 vk1 vk2 vk3 vk4 vk5 vk6 vk7 vk8
  replace HB := Lib.hid (below_then HB.out b)
  replace HX := Lib.hid (blk_later HX.out b)
  replace HY := Lib.hid (blk_later HY.out b)
  replace HR := Lib.hid (blk_later HR.out b)
  replace HA := Lib.hid (HA.out.later b)
  replace HC := Lib.hid (HC.out.later b)
  replace HA' := Lib.hid (HA'.out.later b)
  replace HC' := Lib.hid (HC'.out.later b)
  clear b
  rw [HP.out]
  generalize sgn p.num = x at *
  by_cases hx0 : x = 0
  · have hq : (x == 0) = true := by simp [hx0]
    have HQ0 : Hid (qval nb (val la') (val lb') = q) := Lib.hid (HR9.out.trans (H0A.out hx0))
    clear hx0 H0A H0B H1A H1B HZ HA HC zl1 zl2 zl3 zl4 lX lY
    obtain ⟨uk0, uk1, uk2, uk3, uk4, uk5, uk6, uk7, uk8⟩ := fcells_3_3_3 HX.out HY.out HR.out
    go_wp2_with fail
    refine (frac_norm nb a' n' c' la' b' m' d' lb' _ HA'.out HC'.out (by omega) (by omega)).mono ?_
    rintro e wu1 ⟨a1, n1, c1, b1, m1, d1, rfl, h1, g1, b⟩
    clear uk0 uk1 uk2 uk3 uk4 uk5 uk6 uk7 uk8
    replace HB := Lib.hid (below_then HB.out b)
    replace HX := Lib.hid (blk_later HX.out b)
    replace HY := Lib.hid (blk_later HY.out b)
    replace HR := Lib.hid (blk_later HR.out b)
    clear HA'
    clear HC'
    clear b
    rw [HQ0.out] at h1 g1 ⊢
    have R1 := Lib.hid h1
    have T1 := Lib.hid g1
    clear h1 g1
    unfold frV
    have q0 := blk_cell HR.out 0
    have q1 := blk_cell HR.out 1
    have q2 := blk_cell HR.out 2
    simp only [List.getElem?_toArray, List.getElem?_cons_zero, List.getElem?_cons_succ] at q0 q1 q2
    have f0 := blk_free HR.out 0
    have f1 := blk_free HR.out 1
    have f2 := blk_free HR.out 2
    replace HX := Lib.hid (blk_far3 HX.out (show w.heap.size ≠ w.heap.size + 1 + 1 by omega) (.bool (zneg q.num)) (.slice a1 n1 c1) (.slice b1 m1 d1))
    replace HY := Lib.hid (blk_far3 HY.out (show w.heap.size + 1 ≠ w.heap.size + 1 + 1 by omega) (.bool (zneg q.num)) (.slice a1 n1 c1) (.slice b1 m1 d1))
    replace R1 := Lib.hid (R1.out.stored3 HR.out ((zneg q.num)) a1 n1 c1 (.slice b1 m1 d1))
    replace T1 := Lib.hid (T1.out.stored3 HR.out ((zneg q.num)) a1 n1 c1 (.slice b1 m1 d1))
    replace HB := Lib.hid (below_set3 HB.out (show w.heap.size ≤ w.heap.size + 1 + 1 by omega) (.bool (zneg q.num)) (.slice a1 n1 c1) (.slice b1 m1 d1))
    replace HR := Lib.hid (blk_set3 HR.out (.bool (zneg q.num)) (.slice a1 n1 c1) (.slice b1 m1 d1))
    go_wp2
    refine bodyPost_ret (results_cell_row Tryz.results48 _ _ (w.heap.size + 1 + 1) 36 #[.bool (zneg q.num), .slice a1 n1 c1, .slice b1 m1 d1] (0, 0) _ rfl HR.out Tryz.underlying36 rfl (by kernel_rfl)) rfl ?_
    exact ⟨a1, n1, c1, b1, m1, d1, rfl, R1.out, T1.out, HB.out⟩
  · have hq : (x == 0) = false := by simp [hx0]
    have HV := Lib.hid (H1A.out hx0)
    clear hx0 H0A H1A
    obtain ⟨uk0, uk1, uk2, uk3, uk4, uk5, uk6, uk7, uk8⟩ := fcells_3_3_3 HX.out HY.out HR.out
    go_wp2_with fail
    refine (frac_sign nb a' n' c' la' b' m' d' lb' _ HA'.out HC'.out (by omega) (by omega)).mono ?_
    rintro e wu1 ⟨rfl, b⟩
    clear uk0 uk1 uk2 uk3 uk4 uk5 uk6 uk7 uk8
    replace HB := Lib.hid (below_then HB.out b)
    replace HX := Lib.hid (blk_later HX.out b)
    replace HY := Lib.hid (blk_later HY.out b)
    replace HR := Lib.hid (blk_later HR.out b)
    replace HA := Lib.hid (HA.out.later b)
    replace HC := Lib.hid (HC.out.later b)
    replace HA' := Lib.hid (HA'.out.later b)
    replace HC' := Lib.hid (HC'.out.later b)
    clear b
    rw [HR9.out]
    generalize sgn r.num = y at *
    by_cases hy0 : y = 0
    · have hr : (y == 0) = true := by simp [hy0]
      have HQ0 : Hid (qval na (val la) (val lb) = q) := Lib.hid (HP.out.trans (H0B.out hy0))
      clear hy0 H0B H1B HZ HA' HC' zl1 zl2 zl3 zl4 lX lY
      obtain ⟨tk0, tk1, tk2, tk3, tk4, tk5, tk6, tk7, tk8⟩ := fcells_3_3_3 HX.out HY.out HR.out
      go_wp2_with fail
      refine (frac_norm na a n cap la b m cap' lb _ HA.out HC.out (by omega) (by omega)).mono ?_
      rintro e wt1 ⟨a1, n1, c1, b1, m1, d1, rfl, h1, g1, b⟩
      clear tk0 tk1 tk2 tk3 tk4 tk5 tk6 tk7 tk8
      replace HB := Lib.hid (below_then HB.out b)
      replace HX := Lib.hid (blk_later HX.out b)
      replace HY := Lib.hid (blk_later HY.out b)
      replace HR := Lib.hid (blk_later HR.out b)
      clear HA
      clear HC
      clear b
      rw [HQ0.out] at h1 g1 ⊢
      have R1 := Lib.hid h1
      have T1 := Lib.hid g1
      clear h1 g1
      unfold frV
      have q0 := blk_cell HR.out 0
      have q1 := blk_cell HR.out 1
      have q2 := blk_cell HR.out 2
      simp only [List.getElem?_toArray, List.getElem?_cons_zero, List.getElem?_cons_succ] at q0 q1 q2
      have f0 := blk_free HR.out 0
      have f1 := blk_free HR.out 1
      have f2 := blk_free HR.out 2
      replace HX := Lib.hid (blk_far3 HX.out (show w.heap.size ≠ w.heap.size + 1 + 1 by omega) (.bool (zneg q.num)) (.slice a1 n1 c1) (.slice b1 m1 d1))
      replace HY := Lib.hid (blk_far3 HY.out (show w.heap.size + 1 ≠ w.heap.size + 1 + 1 by omega) (.bool (zneg q.num)) (.slice a1 n1 c1) (.slice b1 m1 d1))
      replace R1 := Lib.hid (R1.out.stored3 HR.out ((zneg q.num)) a1 n1 c1 (.slice b1 m1 d1))
      replace T1 := Lib.hid (T1.out.stored3 HR.out ((zneg q.num)) a1 n1 c1 (.slice b1 m1 d1))
      replace HB := Lib.hid (below_set3 HB.out (show w.heap.size ≤ w.heap.size + 1 + 1 by omega) (.bool (zneg q.num)) (.slice a1 n1 c1) (.slice b1 m1 d1))
      replace HR := Lib.hid (blk_set3 HR.out (.bool (zneg q.num)) (.slice a1 n1 c1) (.slice b1 m1 d1))
      go_wp2
      refine bodyPost_ret (results_cell_row Tryz.results48 _ _ (w.heap.size + 1 + 1) 36 #[.bool (zneg q.num), .slice a1 n1 c1, .slice b1 m1 d1] (0, 0) _ rfl HR.out Tryz.underlying36 rfl (by kernel_rfl)) rfl ?_
      exact ⟨a1, n1, c1, b1, m1, d1, rfl, R1.out, T1.out, HB.out⟩
    · have hr : (y == 0) = false := by simp [hy0]
      have HZ2 := Lib.hid (HZ.out HV.out (H1B.out hy0))
      clear hy0 H0B H1B HZ HV
      obtain ⟨tk0, tk1, tk2, tk3, tk4, tk5, tk6, tk7, tk8⟩ := fcells_3_3_3 HX.out HY.out HR.out
      go_wp2_with fail
      refine (common_cancel b m cap' lb b' m' d' lb' _ HC.out HC'.out (by omega) (by omega)).mono ?_
      rintro e wt1 ⟨ax, nx, cx, ay, ny, cy, rfl, hX, hY, b⟩
      clear tk0 tk1 tk2 tk3 tk4 tk5 tk6 tk7 tk8
      replace HB := Lib.hid (below_then HB.out b)
      replace HX := Lib.hid (blk_later HX.out b)
      replace HY := Lib.hid (blk_later HY.out b)
      replace HR := Lib.hid (blk_later HR.out b)
      replace HA := Lib.hid (HA.out.later b)
      replace HC := Lib.hid (HC.out.later b)
      replace HA' := Lib.hid (HA'.out.later b)
      replace HC' := Lib.hid (HC'.out.later b)
      clear b
      rw [EX.out] at hX
      rw [EY.out] at hY
      have lnx := hX.len
      have lny := hY.len
      have RX := Lib.hid hX
      have RY := Lib.hid hY
      clear hX hY
      obtain ⟨tk0, tk1, tk2, tk3, tk4, tk5, tk6, tk7, tk8⟩ := fcells_3_3_3 HX.out HY.out HR.out
      go_wp2
      clear tk0 tk1 tk2 tk3 tk4 tk5 tk6 tk7 tk8
      replace HB := Lib.hid (below_then HB.out ((Below.refl _ _).drew : Below wt1.heap.size wt1 wt1.drew))
      replace HX : Hid (wt1.drew.heap[w.heap.size]? = _) := Lib.hid HX.out
      replace HY : Hid (wt1.drew.heap[w.heap.size + 1]? = _) := Lib.hid HY.out
      replace HR : Hid (wt1.drew.heap[w.heap.size + 1 + 1]? = some (.cells #[.bool false, .slice none 0 0, .slice none 0 0] 36 (0, 0))) := Lib.hid HR.out
      replace HA := Lib.hid (HA.out.later ((Below.refl _ _).drew : Below wt1.heap.size wt1 wt1.drew))
      replace HC := Lib.hid (HC.out.later ((Below.refl _ _).drew : Below wt1.heap.size wt1 wt1.drew))
      replace HA' := Lib.hid (HA'.out.later ((Below.refl _ _).drew : Below wt1.heap.size wt1 wt1.drew))
      replace HC' := Lib.hid (HC'.out.later ((Below.refl _ _).drew : Below wt1.heap.size wt1 wt1.drew))
      replace RX := Lib.hid (RX.out.later ((Below.refl _ _).drew : Below wt1.heap.size wt1 wt1.drew))
      replace RY := Lib.hid (RY.out.later ((Below.refl _ _).drew : Below wt1.heap.size wt1 wt1.drew))
      have pSn := fcells_3_3 HX.out HY.out
      go_region_held3 (fun w' => w'.cell? ⟨w.heap.size, 0, none⟩ = some (.bool na) ∧ w'.cell? ⟨w.heap.size, 1, none⟩ = some (.slice a n cap) ∧ w'.cell? ⟨w.heap.size, 2, none⟩ = some (.slice b m cap') ∧ w'.cell? ⟨w.heap.size + 1, 0, none⟩ = some (.bool nb) ∧ w'.cell? ⟨w.heap.size + 1, 1, none⟩ = some (.slice a' n' c') ∧ w'.cell? ⟨w.heap.size + 1, 2, none⟩ = some (.slice b' m' d')) (first | exact pSn | exact pSb _ _ _)
        (first
        | (go_at_call 81; (first
          | (have pm1 := pM1; refine (frac_times nb a' n' c' la' ax nx cx _ _ HA'.out RX.out (by omega) (by omega)).mono ?_; rintro e wp2 ⟨a2, n2, c2, rfl, h2, b⟩; replace HB := Lib.hid (below_then HB.out b); replace HX := Lib.hid (blk_later HX.out b); replace HY := Lib.hid (blk_later HY.out b); replace HR := Lib.hid (blk_later HR.out b); replace HA := Lib.hid (HA.out.later b); replace HC := Lib.hid (HC.out.later b); replace HA' := Lib.hid (HA'.out.later b); replace HC' := Lib.hid (HC'.out.later b); replace RX := Lib.hid (RX.out.later b); replace RY := Lib.hid (RY.out.later b); replace R1 := Lib.hid (R1.out.later b); rw [HS2.out] at h2 ⊢; have R2 := Lib.hid h2; have ln2 := h2.len; clear h2; unfold whV; clear b; clear pSn; have pSn := fcells_3_3 HX.out HY.out; clear pM1 pm1; have pM2 := True.intro)
          | (refine (frac_times na a n cap la ay ny cy _ _ HA.out RY.out (by omega) (by omega)).mono ?_; rintro e wp1 ⟨a1, n1, c1, rfl, h1, b⟩; replace HB := Lib.hid (below_then HB.out b); replace HX := Lib.hid (blk_later HX.out b); replace HY := Lib.hid (blk_later HY.out b); replace HR := Lib.hid (blk_later HR.out b); replace HA := Lib.hid (HA.out.later b); replace HC := Lib.hid (HC.out.later b); replace HA' := Lib.hid (HA'.out.later b); replace HC' := Lib.hid (HC'.out.later b); replace RX := Lib.hid (RX.out.later b); replace RY := Lib.hid (RY.out.later b); rw [HS1.out] at h1 ⊢; have R1 := Lib.hid h1; have ln1 := h1.len; clear h1; unfold whV; clear b; clear pSn; have pSn := fcells_3_3 HX.out HY.out; have pM1 := True.intro)))
        | (go_at_call 80; (first
          | (have pm2 := pM2; refine (whole_add _ a1 n1 c1 _ _ a2 n2 c2 _ _ R1.out R2.out (by omega) (by omega)).mono ?_; rintro e wp3 ⟨a3, n3, c3, rfl, h3, b⟩; replace HB := Lib.hid (below_then HB.out b); replace HX := Lib.hid (blk_later HX.out b); replace HY := Lib.hid (blk_later HY.out b); replace HR := Lib.hid (blk_later HR.out b); replace HA := Lib.hid (HA.out.later b); replace HC := Lib.hid (HC.out.later b); replace HA' := Lib.hid (HA'.out.later b); replace HC' := Lib.hid (HC'.out.later b); replace RX := Lib.hid (RX.out.later b); replace RY := Lib.hid (RY.out.later b); clear R1; clear R2; rw [zval_dg, zval_dg] at h3 ⊢; have R3 := Lib.hid h3; have ln3 := h3.len; clear h3; unfold whV; clear b; clear pSn; have pSn := fcells_3_3 HX.out HY.out; clear pM2 pm2; have pM3 := True.intro)))
        | (go_at_call 82; (first
          | (have pm3 := pM3; refine (prod_mul b m cap' lb ay ny cy _ _ HC.out RY.out (by omega) (by omega)).mono ?_; rintro e wp4 ⟨b4, m4, d4, rfl, h4, b⟩; replace HB := Lib.hid (below_then HB.out b); replace HX := Lib.hid (blk_later HX.out b); replace HY := Lib.hid (blk_later HY.out b); replace HR := Lib.hid (blk_later HR.out b); replace HA := Lib.hid (HA.out.later b); replace HC := Lib.hid (HC.out.later b); replace HA' := Lib.hid (HA'.out.later b); replace HC' := Lib.hid (HC'.out.later b); replace RX := Lib.hid (RX.out.later b); replace RY := Lib.hid (RY.out.later b); replace R3 := Lib.hid (R3.out.later b); rw [HD.out] at h4; have R4 := Lib.hid h4; have ln4 := h4.len; clear h4; clear b; clear pSn; have pSn := fcells_3_3 HX.out HY.out; clear pM3 pm3; have pM4 := True.intro)))
        | (go_at_call 78; (first
          | (have pm4 := pM4; refine (frac_norm _ a3 n3 c3 _ b4 m4 d4 _ _ R3.out R4.out (by omega) (by omega)).mono ?_; rintro e wp5 ⟨a5, n5, c5, b5, m5, d5, rfl, h5, g5, b⟩; replace HB := Lib.hid (below_then HB.out b); replace HX := Lib.hid (blk_later HX.out b); replace HY := Lib.hid (blk_later HY.out b); replace HR := Lib.hid (blk_later HR.out b); replace HA := Lib.hid (HA.out.later b); replace HC := Lib.hid (HC.out.later b); replace HA' := Lib.hid (HA'.out.later b); replace HC' := Lib.hid (HC'.out.later b); replace RX := Lib.hid (RX.out.later b); replace RY := Lib.hid (RY.out.later b); clear R3; clear R4; rw [HZ2.out] at h5 g5 ⊢; have R5 := Lib.hid h5; have T5 := Lib.hid g5; clear h5 g5; obtain ⟨r0, r1, r2⟩ := fcells_3 HR.out; have f0 := blk_free HR.out 0; have f1 := blk_free HR.out 1; have f2 := blk_free HR.out 2; have pSb := fun u v q => fcells_3_3 (blk_far3 (g := w.heap.size + 1 + 1) HX.out (by omega) u v q) (blk_far3 (g := w.heap.size + 1 + 1) HY.out (by omega) u v q); unfold frV; clear b; clear pSn; have pSn := fcells_3_3 HX.out HY.out; clear pM4 pm4; have pM5 := True.intro))))
      have HG := Lib.hid (blk_set3 HR.out (.bool (zneg q.num)) (.slice a5 n5 c5) (.slice b5 m5 d5))
      have HL := Lib.hid (below_set3 HB.out (show w.heap.size ≤ w.heap.size + 1 + 1 by omega) (.bool (zneg q.num)) (.slice a5 n5 c5) (.slice b5 m5 d5))
      have HW1 := Lib.hid (R5.out.stored3 HR.out (zneg q.num) a5 n5 c5 (.slice b5 m5 d5))
      have HW2 := Lib.hid (T5.out.stored3 HR.out (zneg q.num) a5 n5 c5 (.slice b5 m5 d5))
      go_wp2
      refine bodyPost_ret (results_cell_row Tryz.results48 _ _ (w.heap.size + 1 + 1) 36 #[.bool (zneg q.num), .slice a5 n5 c5, .slice b5 m5 d5] (0, 0) _ rfl HG.out Tryz.underlying36 rfl (by kernel_rfl)) rfl ?_
      exact ⟨a5, n5, c5, b5, m5, d5, rfl, HW1.out, HW2.out, HL.out⟩
set_option maxRecDepth 4096 in
set_option maxHeartbeats 4000000 in
theorem frac_sub (na : Bool) (a : Option Addr) (n cap : Nat) (la : List Nat) (b : Option Addr) (m cap' : Nat) (lb : List Nat) (nb : Bool) (a' : Option Addr) (n' c' : Nat) (la' : List Nat) (b' : Option Addr) (m' d' : Nat) (lb' : List Nat) (w : World) (ha : Wd w a n cap la) (hb : Wd w b m cap' lb) (ha' : Wd w a' n' c' la') (hb' : Wd w b' m' d' lb') (hn : n ≤ 9437184000) (hm : m ≤ 9437184000) (hn' : n' ≤ 9437184000) (hm' : m' ≤ 9437184000) :
    Calls Tryz.prog 93 #[frV na a n cap b m cap', frV nb a' n' c' b' m' d'] w (LstQ (qval na (val la) (val lb) - qval nb (val la') (val lb')) w) := by
  have HB := Lib.hid (below_then (below_then (below_alloc w (.cells #[.bool na, .slice a n cap, .slice b m cap'] 36)) (below_alloc _ (.cells #[.bool nb, .slice a' n' c', .slice b' m' d'] 36))) (below_alloc _ (.cells #[.bool false, .slice none 0 0, .slice none 0 0] 36)))
  have HA := Lib.hid (ha.later HB.out)
  have HC := Lib.hid (hb.later HB.out)
  have HA' := Lib.hid (ha'.later HB.out)
  have HC' := Lib.hid (hb'.later HB.out)
  obtain ⟨hx1, hx2, hx3⟩ := boxes3_at9 w #[.bool na, .slice a n cap, .slice b m cap'] #[.bool nb, .slice a' n' c', .slice b' m' d'] #[.bool false, .slice none 0 0, .slice none 0 0] 36 36 36
  have HX := Lib.hid hx1
  have HY := Lib.hid hx2
  have HR := Lib.hid hx3
  have ta := ha.trim_le
  have tb := hb.trim_le
  have ta' := ha'.trim_le
  have tb' := hb'.trim_le
  clear ha hb ha' hb' hx1 hx2 hx3
  obtain ⟨q, hq⟩ : ∃ q, qval na (val la) (val lb) - qval nb (val la') (val lb') = q := ⟨_, rfl⟩
  rw [hq]
  have HQ := Lib.hid hq
  clear hq
  have HT : Hid (qval na (val la) (val lb) + qval (!nb) (val la') (val lb') = q) := Lib.hid (by rw [fc_qval_neg, ← Rat.sub_eq_add_neg, HQ.out])
  go_enter Tryz.func93, Tryz.ntmps93
  unfold frV
  go_wp2
  generalize (((w.alloc (.cells #[.bool na, .slice a n cap, .slice b m cap'] 36)).alloc (.cells #[.bool nb, .slice a' n' c', .slice b' m' d'] 36)).alloc (.cells #[.bool false, .slice none 0 0, .slice none 0 0] 36)) = W at *
  replace HB := Lib.hid (below_then HB.out ((Below.refl _ _).drew : Below W.heap.size W W.drew))
  replace HX : Hid (W.drew.heap[w.heap.size]? = _) := Lib.hid HX.out
  replace HY : Hid (W.drew.heap[w.heap.size + 1]? = _) := Lib.hid HY.out
  replace HR : Hid (W.drew.heap[w.heap.size + 1 + 1]? = some (.cells #[.bool false, .slice none 0 0, .slice none 0 0] 36 (0, 0))) := Lib.hid HR.out
  replace HA := Lib.hid (HA.out.later ((Below.refl _ _).drew : Below W.heap.size W W.drew))
  replace HC := Lib.hid (HC.out.later ((Below.refl _ _).drew : Below W.heap.size W W.drew))
  replace HA' := Lib.hid (HA'.out.later ((Below.refl _ _).drew : Below W.heap.size W W.drew))
  replace HC' := Lib.hid (HC'.out.later ((Below.refl _ _).drew : Below W.heap.size W W.drew))
  have pSn := fcells_3_3 HX.out HY.out
  go_region_held3 (fun w' => w'.cell? ⟨w.heap.size, 0, none⟩ = some (.bool na) ∧ w'.cell? ⟨w.heap.size, 1, none⟩ = some (.slice a n cap) ∧ w'.cell? ⟨w.heap.size, 2, none⟩ = some (.slice b m cap') ∧ w'.cell? ⟨w.heap.size + 1, 0, none⟩ = some (.bool nb) ∧ w'.cell? ⟨w.heap.size + 1, 1, none⟩ = some (.slice a' n' c') ∧ w'.cell? ⟨w.heap.size + 1, 2, none⟩ = some (.slice b' m' d')) (first | exact pSn | exact pSb _ _ _)
    (first
    | (go_at_call 112; (first
      | (refine (frac_turned nb a' n' c' b' m' d' _).mono ?_; rintro e wp1 ⟨rfl, b⟩; replace HB := Lib.hid (below_then HB.out b); replace HX := Lib.hid (blk_later HX.out b); replace HY := Lib.hid (blk_later HY.out b); replace HR := Lib.hid (blk_later HR.out b); replace HA := Lib.hid (HA.out.later b); replace HC := Lib.hid (HC.out.later b); replace HA' := Lib.hid (HA'.out.later b); replace HC' := Lib.hid (HC'.out.later b); unfold frV; clear b; clear pSn; have pSn := fcells_3_3 HX.out HY.out; have pM1 := True.intro)))
    | (go_at_call 48; (first
      | (have pm1 := pM1; refine (frac_add na a n cap la b m cap' lb (!nb) a' n' c' la' b' m' d' lb' _ HA.out HC.out HA'.out HC'.out hn hm hn' hm').mono ?_; rintro e wp2 ⟨a1, n1, c1, b1, m1, d1, rfl, h1, g1, b⟩; replace HB := Lib.hid (below_then HB.out b); replace HX := Lib.hid (blk_later HX.out b); replace HY := Lib.hid (blk_later HY.out b); replace HR := Lib.hid (blk_later HR.out b); replace HA := Lib.hid (HA.out.later b); replace HC := Lib.hid (HC.out.later b); replace HA' := Lib.hid (HA'.out.later b); replace HC' := Lib.hid (HC'.out.later b); rw [HT.out] at h1 g1 ⊢; have R1 := Lib.hid h1; have T1 := Lib.hid g1; clear h1 g1; obtain ⟨r0, r1, r2⟩ := fcells_3 HR.out; have f0 := blk_free HR.out 0; have f1 := blk_free HR.out 1; have f2 := blk_free HR.out 2; have pSb := fun u v q => fcells_3_3 (blk_far3 (g := w.heap.size + 1 + 1) HX.out (by omega) u v q) (blk_far3 (g := w.heap.size + 1 + 1) HY.out (by omega) u v q); unfold frV; clear b; clear pSn; have pSn := fcells_3_3 HX.out HY.out; clear pM1 pm1; have pM2 := True.intro))))
  have HG := Lib.hid (blk_set3 HR.out (.bool (zneg q.num)) (.slice a1 n1 c1) (.slice b1 m1 d1))
  have HL := Lib.hid (below_set3 HB.out (show w.heap.size ≤ w.heap.size + 1 + 1 by omega) (.bool (zneg q.num)) (.slice a1 n1 c1) (.slice b1 m1 d1))
  have HW1 := Lib.hid (R1.out.stored3 HR.out (zneg q.num) a1 n1 c1 (.slice b1 m1 d1))
  have HW2 := Lib.hid (T1.out.stored3 HR.out (zneg q.num) a1 n1 c1 (.slice b1 m1 d1))
  go_wp2
  refine bodyPost_ret (results_cell_row Tryz.results93 _ _ (w.heap.size + 1 + 1) 36 #[.bool (zneg q.num), .slice a1 n1 c1, .slice b1 m1 d1] (0, 0) _ rfl HG.out Tryz.underlying36 rfl (by kernel_rfl)) rfl ?_
  exact ⟨a1, n1, c1, b1, m1, d1, rfl, HW1.out, HW2.out, HL.out⟩
end Go.Proofs.YtipcgehcineblaaGreat

/-
  What package frac's functions owe, proved.
-/
namespace Go.Proofs.YtipcgehcineblaaGreat
open Go.RowKit

theorem fracSaid : FracSaid where
  new := fun neg a n cap la b m cap' lb q w ha hb hn hm hq => by subst hq; exact frac_new neg a n cap la b m cap' lb w ha hb (by omega) (by omega)
  of := fun z w hz => frac_of z w hz
  norm := fun v q w h => by
    obtain ⟨neg, a, n, cap, la, b, m, cap', lb, rfl, ha, hb, hn, hm, rfl⟩ := h
    exact frac_norm neg a n cap la b m cap' lb w ha hb (by omega) (by omega)
  sign := fun v q w h => by
    obtain ⟨neg, a, n, cap, la, b, m, cap', lb, rfl, ha, hb, hn, hm, rfl⟩ := h
    exact frac_sign neg a n cap la b m cap' lb w ha hb (by omega) (by omega)
  cmp := fun v u p q w h k => by
    obtain ⟨na, a, n, cap, la, b, m, cap', lb, rfl, ha, hb, hn, hm, rfl⟩ := h
    obtain ⟨nb, a', n', c', la', b', m', d', lb', rfl, ha', hb', hn', hm', rfl⟩ := k
    exact frac_cmp na a n cap la b m cap' lb nb a' n' c' la' b' m' d' lb' w ha hb ha' hb' (by omega) (by omega) (by omega) (by omega)
  same := fun v u p q w h k => by
    obtain ⟨na, a, n, cap, la, b, m, cap', lb, rfl, ha, hb, hn, hm, rfl⟩ := h
    obtain ⟨nb, a', n', c', la', b', m', d', lb', rfl, ha', hb', hn', hm', rfl⟩ := k
    exact frac_same na a n cap la b m cap' lb nb a' n' c' la' b' m' d' lb' w ha hb ha' hb' (by omega) (by omega) (by omega) (by omega)
  add := fun v u p q w h k => by
    obtain ⟨na, a, n, cap, la, b, m, cap', lb, rfl, ha, hb, hn, hm, rfl⟩ := h
    obtain ⟨nb, a', n', c', la', b', m', d', lb', rfl, ha', hb', hn', hm', rfl⟩ := k
    exact frac_add na a n cap la b m cap' lb nb a' n' c' la' b' m' d' lb' w ha hb ha' hb' (by omega) (by omega) (by omega) (by omega)
  sub := fun v u p q w h k => by
    obtain ⟨na, a, n, cap, la, b, m, cap', lb, rfl, ha, hb, hn, hm, rfl⟩ := h
    obtain ⟨nb, a', n', c', la', b', m', d', lb', rfl, ha', hb', hn', hm', rfl⟩ := k
    exact frac_sub na a n cap la b m cap' lb nb a' n' c' la' b' m' d' lb' w ha hb ha' hb' (by omega) (by omega) (by omega) (by omega)
  mul := fun v u p q w h k => by
    obtain ⟨na, a, n, cap, la, b, m, cap', lb, rfl, ha, hb, hn, hm, rfl⟩ := h
    obtain ⟨nb, a', n', c', la', b', m', d', lb', rfl, ha', hb', hn', hm', rfl⟩ := k
    exact frac_mul na a n cap la b m cap' lb nb a' n' c' la' b' m' d' lb' w ha hb ha' hb' (by omega) (by omega) (by omega) (by omega)
  quo := fun v u p q w h k => by
    obtain ⟨na, a, n, cap, la, b, m, cap', lb, rfl, ha, hb, hn, hm, rfl⟩ := h
    obtain ⟨nb, a', n', c', la', b', m', d', lb', rfl, ha', hb', hn', hm', rfl⟩ := k
    exact frac_quo na a n cap la b m cap' lb nb a' n' c' la' b' m' d' lb' w ha hb ha' hb' (by omega) (by omega) (by omega) (by omega)
end Go.Proofs.YtipcgehcineblaaGreat

/-
  Plain mathematics: fractions as texts: where the first / or point stands, what a text says, what is written, what a fraction is rounded to. Nothing of the program.
-/
namespace Go.Proofs.YtipcgehcineblaaGreat

/-- The place of the first / or point; how long the text is, if there is none. -/
def cutAt : List UInt8 → Nat
  | [] => 0
  | x :: r => if x.toNat = 47 ∨ x.toNat = 46 then 0 else cutAt r + 1
/-- What stands ahead of the first / or point, behind it, and it itself. -/
def fhead (l : List UInt8) : List UInt8 := l.take (cutAt l)
def frest (l : List UInt8) : List UInt8 := l.drop (cutAt l + 1)
def fbyte (l : List UInt8) : Nat := (l.getD (cutAt l) 0).toNat
/-- The kind of the fault that a text has (0: none), its place, and the fraction that the text is. -/
def figKind (l : List UInt8) : Int :=
  if 0 ≤ zwrong (fhead l) then 1 else if cutAt l = l.length then 0 else if 0 ≤ wrongI (frest l) then 1 else if fbyte l ≠ 46 ∧ readV (frest l) = 0 then 2 else 0
def figPlace (l : List UInt8) : Int :=
  if 0 ≤ zwrong (fhead l) then zwrong (fhead l) else if cutAt l = l.length then 0 else if 0 ≤ wrongI (frest l) then ((cutAt l + 1 : Nat) : Int) + wrongI (frest l) else if fbyte l ≠ 46 ∧ readV (frest l) = 0 then ((cutAt l + 1 : Nat) : Int) else 0
def figVal (l : List UInt8) : Rat :=
  if 0 ≤ zwrong (fhead l) then 0 else if cutAt l = l.length then ((zread (fhead l) : Int) : Rat) else if 0 ≤ wrongI (frest l) then 0
  else if fbyte l = 46 then mkRat (zval (decide ((l.getD 0 0).toNat = 45)) ((zread (fhead l)).natAbs * 10 ^ (frest l).length + readV (frest l))) (10 ^ (frest l).length)
  else if readV (frest l) = 0 then 0 else mkRat (zread (fhead l)) (readV (frest l))
end Go.Proofs.YtipcgehcineblaaGreat

/-
  Plain mathematics: how long what a text says is; parts of a text. Nothing of the program.
-/
namespace Go.Proofs.YtipcgehcineblaaGreat

end Go.Proofs.YtipcgehcineblaaGreat
