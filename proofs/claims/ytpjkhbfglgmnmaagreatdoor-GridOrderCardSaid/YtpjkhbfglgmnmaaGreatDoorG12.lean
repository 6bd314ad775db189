/-
  Several texts of this claim as one, group 12.
-/
import Derived.Test.YtpjkhbfglgmnmaaGreatDoorG11
import Derived.Deep.RegionHeld3
import Derived.BigQuiet
import Derived.Test.YtpjkhbfglgmnmaaGreatDoorG9
import Derived.Test.YtpjkhbfglgmnmaaGreatDoorG4
import Derived.Test.YtpjkhbfglgmnmaaGreatDoorG8
import Derived.Laws.RangeAny
import Derived.Laws.Runes
import Derived.Test.YtpjkhbfglgmnmaaGreatDoorG1
import Derived.Test.YtpjkhbfglgmnmaaGreatDoorG7
import Derived.Test.YtpjkhbfglgmnmaaGreatDoorG5
import Derived.Test.YtpjkhbfglgmnmaaGreatDoorG2
import Derived.Test.YtpjkhbfglgmnmaaGreatDoorG10
import Derived.Lib.IndexAny
import Derived.Lib.OthersKept
import Derived.WalkMore
import Derived.Deep.CutRange
/-
  How long right fractions become that are reckoned; what stands in the field's laws. Nothing of the program.
-/
namespace Go.Proofs.YtpjkhbfglgmnmaaGreatDoor

theorem dg_sum_length (x y : Nat) : (dg (x + y)).length ≤ max (dg x).length (dg y).length + 1 := by
  apply dg_length_le
  have h1 := val_lt (okw_dg x)
  have h2 := val_lt (okw_dg y)
  rw [val_dg] at h1 h2
  have h3 : 4294967296 ^ (dg x).length ≤ 4294967296 ^ max (dg x).length (dg y).length := Nat.pow_le_pow_right (by decide) (Nat.le_max_left _ _)
  have h4 : 4294967296 ^ (dg y).length ≤ 4294967296 ^ max (dg x).length (dg y).length := Nat.pow_le_pow_right (by decide) (Nat.le_max_right _ _)
  rw [Nat.pow_succ]
  omega
theorem qlen_parts (s : Int) (v : Nat) : qlen (mkRat s v) ≤ max (dg s.natAbs).length (dg v).length + 1 := by
  have h := qval_len (zneg s) s.natAbs v
  unfold qval at h
  rw [zval_of] at h
  exact qlen_le (by omega) (by omega)
theorem qlen_add (p q : Rat) : qlen (p + q) ≤ qlen p + qlen q + 2 := by
  have h1 := qlen_parts (p.num * q.den + q.num * p.den) (p.den * q.den)
  rw [show mkRat (p.num * q.den + q.num * p.den) (p.den * q.den) = p + q from (Rat.add_def' p q).symm] at h1
  have h2 : (dg (p.num * q.den + q.num * p.den).natAbs).length ≤ (dg (p.num.natAbs * q.den + q.num.natAbs * p.den)).length := by
    refine dg_length_mono (Nat.le_trans (Int.natAbs_add_le _ _) ?_)
    rw [Int.natAbs_mul, Int.natAbs_mul, Int.natAbs_natCast, Int.natAbs_natCast]
    exact Nat.le_refl _
  have h3 := dg_sum_length (p.num.natAbs * q.den) (q.num.natAbs * p.den)
  have h4 := dg_mul_length p.num.natAbs q.den
  have h5 := dg_mul_length q.num.natAbs p.den
  have h6 := dg_mul_length p.den q.den
  have h7 := qlen_num p
  have h8 := qlen_num q
  have h9 := qlen_den p
  have h10 := qlen_den q
  omega
theorem qlen_mul (p q : Rat) : qlen (p * q) ≤ qlen p + qlen q + 1 := by
  have h1 := qlen_parts (p.num * q.num) (p.den * q.den)
  rw [show mkRat (p.num * q.num) (p.den * q.den) = p * q from (Rat.mul_def' p q).symm] at h1
  have h2 : (dg (p.num * q.num).natAbs).length = (dg (p.num.natAbs * q.num.natAbs)).length := by rw [Int.natAbs_mul]
  have h4 := dg_mul_length p.num.natAbs q.num.natAbs
  have h6 := dg_mul_length p.den q.den
  have h7 := qlen_num p
  have h8 := qlen_num q
  have h9 := qlen_den p
  have h10 := qlen_den q
  omega
theorem qlen_nought : qlen 0 = 1 := by
  show max (dg (0 : Nat)).length (dg (1 : Nat)).length = 1
  rw [dg_zero, dg_word (by decide) (by decide)]; rfl
theorem qlen_int {z : Int} (h : isInt z) : qlen (z : Rat) ≤ 2 := by
  unfold isInt at h
  refine qlen_le ?_ ?_
  · rw [Rat.num_intCast]
    refine dg_length_le ?_
    have : (4294967296 : Nat) ^ 2 = 18446744073709551616 := by decide
    rw [this]; omega
  · rw [Rat.den_intCast]
    have := dg_one_length; omega
end Go.Proofs.YtpjkhbfglgmnmaaGreatDoor

/-
  Package frac at this seat: Mul, Quo, Ratio.
-/
namespace Go.Proofs.YtpjkhbfglgmnmaaGreatDoor
open Go.RowKit

set_option maxRecDepth 4096 in
set_option maxHeartbeats 4000000 in
theorem frac_mul (na : Bool) (a : Option Addr) (n cap : Nat) (la : List Nat) (b : Option Addr) (m cap' : Nat) (lb : List Nat) (nb : Bool) (a' : Option Addr) (n' c' : Nat) (la' : List Nat) (b' : Option Addr) (m' d' : Nat) (lb' : List Nat) (w : World) (ha : Wd w a n cap la) (hb : Wd w b m cap' lb) (ha' : Wd w a' n' c' la') (hb' : Wd w b' m' d' lb') (hn : n ≤ 15000) (hm : m ≤ 15000) (hn' : n' ≤ 15000) (hm' : m' ≤ 15000) :
    Calls Tryz.prog 52 #[frV na a n cap b m cap', frV nb a' n' c' b' m' d'] w (LstQ (qval na (val la) (val lb) * qval nb (val la') (val lb')) w) := by
  have HB := Lib.hid (below_then (below_then (below_alloc w (.cells #[.bool na, .slice a n cap, .slice b m cap'] 58)) (below_alloc _ (.cells #[.bool nb, .slice a' n' c', .slice b' m' d'] 58))) (below_alloc _ (.cells #[.bool false, .slice none 0 0, .slice none 0 0] 58)))
  have HA := Lib.hid (ha.later HB.out)
  have HC := Lib.hid (hb.later HB.out)
  have HA' := Lib.hid (ha'.later HB.out)
  have HC' := Lib.hid (hb'.later HB.out)
  obtain ⟨hx1, hx2, hx3⟩ := boxes3_at9 w #[.bool na, .slice a n cap, .slice b m cap'] #[.bool nb, .slice a' n' c', .slice b' m' d'] #[.bool false, .slice none 0 0, .slice none 0 0] 58 58 58
  have HX := Lib.hid hx1
  have HY := Lib.hid hx2
  have HR := Lib.hid hx3
  have ta := ha.trim_le
  have tb := hb.trim_le
  have ta' := ha'.trim_le
  have tb' := hb'.trim_le
  clear ha hb ha' hb' hx1 hx2 hx3
  obtain ⟨q, hq⟩ : ∃ q, qval na (val la) (val lb) * qval nb (val la') (val lb') = q := ⟨_, rfl⟩
  rw [hq]
  have HQ := Lib.hid hq
  clear hq
  have zl1 := zlen_mul (zval na (val la)) (zval nb (val la'))
  have zl2 := dg_mul_length (val lb) (val lb')
  rw [zval_abs, zval_abs] at zl1
  have HZ : Hid (qval (zneg (zval na (val la) * zval nb (val la'))) (val (dg (zval na (val la) * zval nb (val la')).natAbs)) (val (dg (val lb * val lb'))) = q) := Lib.hid (by rw [val_dg, val_dg, fc_qval_of, fc_qval_mul, HQ.out])
  go_enter Tryz.func52, Tryz.ntmps52
  unfold frV
  obtain ⟨vk0, vk1, vk2, vk3, vk4, vk5, vk6, vk7, vk8⟩ := fcells_3_3_3 HX.out HY.out HR.out
  go_wp2_with fail
  refine (frac_product na a n cap la b m cap' lb nb a' n' c' la' b' m' d' lb' _ HA.out HC.out HA'.out HC'.out (by omega) (by omega) (by omega) (by omega)).mono ?_
  rintro e wv1 ⟨a1, n1, c1, b1, m1, d1, rfl, h1, g1, b⟩
  clear vk0 vk1 vk2 vk3 vk4 vk5 vk6 vk7 vk8
  replace HB := Lib.hid (below_then HB.out b)
  replace HX := Lib.hid (blk_later HX.out b)
  replace HY := Lib.hid (blk_later HY.out b)
  replace HR := Lib.hid (blk_later HR.out b)
  clear HA
  clear HC
  clear HA'
  clear HC'
  clear b
  have ln1 := h1.len
  have lm1 := g1.len
  have R1 := Lib.hid h1
  have T1 := Lib.hid g1
  clear h1 g1
  unfold frV
  obtain ⟨vk0, vk1, vk2, vk3, vk4, vk5, vk6, vk7, vk8⟩ := fcells_3_3_3 HX.out HY.out HR.out
  go_wp2_with fail
  refine (frac_norm _ a1 n1 c1 _ b1 m1 d1 _ _ R1.out T1.out (by omega) (by omega)).mono ?_
  rintro e wv2 ⟨a2, n2, c2, b2, m2, d2, rfl, h2, g2, b⟩
  clear vk0 vk1 vk2 vk3 vk4 vk5 vk6 vk7 vk8
  replace HB := Lib.hid (below_then HB.out b)
  replace HX := Lib.hid (blk_later HX.out b)
  replace HY := Lib.hid (blk_later HY.out b)
  replace HR := Lib.hid (blk_later HR.out b)
  clear R1
  clear T1
  clear b
  rw [HZ.out] at h2 g2 ⊢
  have R2 := Lib.hid h2
  have T2 := Lib.hid g2
  clear h2 g2
  unfold frV
  have q0 := blk_cell HR.out 0
  have q1 := blk_cell HR.out 1
  have q2 := blk_cell HR.out 2
  simp only [List.getElem?_toArray, List.getElem?_cons_zero, List.getElem?_cons_succ] at q0 q1 q2
  have f0 := blk_free HR.out 0
  have f1 := blk_free HR.out 1
  have f2 := blk_free HR.out 2
  replace HX := Lib.hid (blk_far3 HX.out (show w.heap.size ≠ w.heap.size + 1 + 1 by omega) (.bool (zneg q.num)) (.slice a2 n2 c2) (.slice b2 m2 d2))
  replace HY := Lib.hid (blk_far3 HY.out (show w.heap.size + 1 ≠ w.heap.size + 1 + 1 by omega) (.bool (zneg q.num)) (.slice a2 n2 c2) (.slice b2 m2 d2))
  replace R2 := Lib.hid (R2.out.stored3 HR.out ((zneg q.num)) a2 n2 c2 (.slice b2 m2 d2))
  replace T2 := Lib.hid (T2.out.stored3 HR.out ((zneg q.num)) a2 n2 c2 (.slice b2 m2 d2))
  replace HB := Lib.hid (below_set3 HB.out (show w.heap.size ≤ w.heap.size + 1 + 1 by omega) (.bool (zneg q.num)) (.slice a2 n2 c2) (.slice b2 m2 d2))
  replace HR := Lib.hid (blk_set3 HR.out (.bool (zneg q.num)) (.slice a2 n2 c2) (.slice b2 m2 d2))
  go_wp2
  refine bodyPost_ret (results_cell_row Tryz.results52 _ _ (w.heap.size + 1 + 1) 58 #[.bool (zneg q.num), .slice a2 n2 c2, .slice b2 m2 d2] (0, 0) _ rfl HR.out Tryz.underlying58 rfl (by kernel_rfl)) rfl ?_
  exact ⟨a2, n2, c2, b2, m2, d2, rfl, R2.out, T2.out, HB.out⟩
end Go.Proofs.YtpjkhbfglgmnmaaGreatDoor

/-
  Package frac at this seat: Cmp, Same.
-/
namespace Go.Proofs.YtpjkhbfglgmnmaaGreatDoor
open Go.RowKit

set_option maxRecDepth 4096 in
set_option maxHeartbeats 4000000 in
theorem frac_cmp (na : Bool) (a : Option Addr) (n cap : Nat) (la : List Nat) (b : Option Addr) (m cap' : Nat) (lb : List Nat) (nb : Bool) (a' : Option Addr) (n' c' : Nat) (la' : List Nat) (b' : Option Addr) (m' d' : Nat) (lb' : List Nat) (w : World) (ha : Wd w a n cap la) (hb : Wd w b m cap' lb) (ha' : Wd w a' n' c' la') (hb' : Wd w b' m' d' lb') (hn : n ≤ 40000) (hm : m ≤ 40000) (hn' : n' ≤ 40000) (hm' : m' ≤ 40000) :
    Calls Tryz.prog 54 #[frV na a n cap b m cap', frV nb a' n' c' b' m' d'] w (Gives (.int .i64 (sgn (qval na (val la) (val lb) - qval nb (val la') (val lb')).num)) w) := by
  have HB := Lib.hid (below_then (below_alloc w (.cells #[.bool na, .slice a n cap, .slice b m cap'] 58)) (below_alloc _ (.cells #[.bool nb, .slice a' n' c', .slice b' m' d'] 58)))
  have HA := Lib.hid (ha.later HB.out)
  have HC := Lib.hid (hb.later HB.out)
  have HA' := Lib.hid (ha'.later HB.out)
  have HC' := Lib.hid (hb'.later HB.out)
  obtain ⟨hx1, hx2⟩ := boxes_at w ((w.alloc (.cells #[.bool na, .slice a n cap, .slice b m cap'] 58)).alloc (.cells #[.bool nb, .slice a' n' c', .slice b' m' d'] 58)) #[.bool na, .slice a n cap, .slice b m cap'] #[.bool nb, .slice a' n' c', .slice b' m' d'] 58 58 (Below.refl _ _)
  have HX := Lib.hid hx1
  have HY := Lib.hid hx2
  have ta := ha.trim_le
  have tb := hb.trim_le
  have ta' := ha'.trim_le
  have tb' := hb'.trim_le
  clear ha hb ha' hb' hx1 hx2
  have zl1 := zlen_mul (zval na (val la)) ((val lb' : Nat) : Int)
  have zl2 := zlen_mul (zval nb (val la')) ((val lb : Nat) : Int)
  rw [zval_abs, Int.natAbs_natCast] at zl1 zl2
  have HF : Hid (sgn (qval na (val la) (val lb)).num ≠ sgn (qval nb (val la') (val lb')).num → sgn (sgn (qval na (val la) (val lb)).num - sgn (qval nb (val la') (val lb')).num) = sgn (qval na (val la) (val lb) - qval nb (val la') (val lb')).num) := Lib.hid fc_qcmp_far
  have HE0 : Hid (sgn (qval na (val la) (val lb)).num = sgn (qval nb (val la') (val lb')).num → sgn (qval na (val la) (val lb)).num = 0 → sgn (qval na (val la) (val lb) - qval nb (val la') (val lb')).num = 0) := Lib.hid (fun h h0 => by
    rw [fc_qsign_zero.1 h0, fc_qsign_zero.1 (h.symm.trans h0), Rat.sub_self]; rfl)
  have HN : Hid (sgn (qval na (val la) (val lb)).num = sgn (qval nb (val la') (val lb')).num → sgn (qval na (val la) (val lb)).num ≠ 0 → sgn (zval na (val la) * ((val lb' : Nat) : Int) - zval nb (val la') * ((val lb : Nat) : Int)) = sgn (qval na (val la) (val lb) - qval nb (val la') (val lb')).num) := Lib.hid (fun h h0 => by
    refine fc_qcmp_near (fun e => h0 ?_) (fun e => h0 ?_)
    · rw [qval_none na (.inl e)]; rfl
    · rw [h, qval_none nb (.inl e)]; rfl)
  have hra := sgn_range (qval na (val la) (val lb)).num
  have hrb := sgn_range (qval nb (val la') (val lb')).num
  generalize hz : sgn (qval na (val la) (val lb) - qval nb (val la') (val lb')).num = z at *
  generalize hx : sgn (qval na (val la) (val lb)).num = x at *
  generalize hy : sgn (qval nb (val la') (val lb')).num = y at *
  have HSA := Lib.hid hx
  have HSB := Lib.hid hy
  clear hx hy hz
  go_enter Tryz.func54, Tryz.ntmps54
  unfold frV
  go_wp2
  generalize ((w.alloc (.cells #[.bool na, .slice a n cap, .slice b m cap'] 58)).alloc (.cells #[.bool nb, .slice a' n' c', .slice b' m' d'] 58)) = W at *
  replace HB := Lib.hid (below_then HB.out ((Below.refl _ _).drew : Below W.heap.size W W.drew))
  replace HX : Hid (W.drew.heap[w.heap.size]? = _) := Lib.hid HX.out
  replace HY : Hid (W.drew.heap[w.heap.size + 1]? = _) := Lib.hid HY.out
  replace HA := Lib.hid (HA.out.later ((Below.refl _ _).drew : Below W.heap.size W W.drew))
  replace HC := Lib.hid (HC.out.later ((Below.refl _ _).drew : Below W.heap.size W W.drew))
  replace HA' := Lib.hid (HA'.out.later ((Below.refl _ _).drew : Below W.heap.size W W.drew))
  replace HC' := Lib.hid (HC'.out.later ((Below.refl _ _).drew : Below W.heap.size W W.drew))
  have pSn := fcells_3_3 HX.out HY.out
  go_region_held3 (fun w' => w'.cell? ⟨w.heap.size, 0, none⟩ = some (.bool na) ∧ w'.cell? ⟨w.heap.size, 1, none⟩ = some (.slice a n cap) ∧ w'.cell? ⟨w.heap.size, 2, none⟩ = some (.slice b m cap') ∧ w'.cell? ⟨w.heap.size + 1, 0, none⟩ = some (.bool nb) ∧ w'.cell? ⟨w.heap.size + 1, 1, none⟩ = some (.slice a' n' c') ∧ w'.cell? ⟨w.heap.size + 1, 2, none⟩ = some (.slice b' m' d')) (exact pSn)
    (first
    | (go_at_call 77; (first
      | (have pm1 := pM1; refine (frac_sign nb a' n' c' la' b' m' d' lb' _ HA'.out HC'.out (by omega) (by omega)).mono ?_; rintro e wp2 ⟨rfl, b⟩; replace HB := Lib.hid (below_then HB.out b); replace HX := Lib.hid (blk_later HX.out b); replace HY := Lib.hid (blk_later HY.out b); replace HA := Lib.hid (HA.out.later b); replace HC := Lib.hid (HC.out.later b); replace HA' := Lib.hid (HA'.out.later b); replace HC' := Lib.hid (HC'.out.later b); rw [HSB.out]; clear b; clear pSn; have pSn := fcells_3_3 HX.out HY.out; clear pM1 pm1; have pM2 := True.intro)
      | (refine (frac_sign na a n cap la b m cap' lb _ HA.out HC.out (by omega) (by omega)).mono ?_; rintro e wp1 ⟨rfl, b⟩; replace HB := Lib.hid (below_then HB.out b); replace HX := Lib.hid (blk_later HX.out b); replace HY := Lib.hid (blk_later HY.out b); replace HA := Lib.hid (HA.out.later b); replace HC := Lib.hid (HC.out.later b); replace HA' := Lib.hid (HA'.out.later b); replace HC' := Lib.hid (HC'.out.later b); rw [HSA.out]; clear b; clear pSn; have pSn := fcells_3_3 HX.out HY.out; have pM1 := True.intro))))
  clear HSA HSB pSn pM2
  by_cases hxy : x = y
  · by_cases hx0 : x = 0
    · have HZ : Hid (z = 0) := Lib.hid (HE0.out hxy hx0)
      have HS : Hid (sgn ((0 : Int) - 0) = 0) := Lib.hid rfl
      clear HF HE0 HN zl1 zl2
      obtain rfl : y = 0 := by omega
      obtain rfl : x = 0 := hx0
      clear hxy hra hrb
      go_wp2_with fail
      refine (cmp_Compare 0 0 _).mono ?_
      rintro e w' ⟨rfl, rfl⟩
      rw [HS.out]
      go_wp2
      go_ret
      exact ⟨by rw [HZ.out]; rfl, HB.out⟩
    · have hq0 : (x == 0) = false := by simp [hx0]
      have HZ := Lib.hid (HN.out hxy hx0)
      clear HF HE0 HN hx0
      subst hxy
      obtain ⟨uk0, uk1, uk2, uk3, uk4, uk5⟩ := fcells_3_3 HX.out HY.out
      go_wp2
      clear uk0 uk1 uk2 uk3 uk4 uk5
      replace HB := Lib.hid (below_then HB.out ((Below.refl _ _).drew : Below wp2.heap.size wp2 wp2.drew))
      replace HX : Hid (wp2.drew.heap[w.heap.size]? = _) := Lib.hid HX.out
      replace HY : Hid (wp2.drew.heap[w.heap.size + 1]? = _) := Lib.hid HY.out
      replace HA := Lib.hid (HA.out.later ((Below.refl _ _).drew : Below wp2.heap.size wp2 wp2.drew))
      replace HC := Lib.hid (HC.out.later ((Below.refl _ _).drew : Below wp2.heap.size wp2 wp2.drew))
      replace HA' := Lib.hid (HA'.out.later ((Below.refl _ _).drew : Below wp2.heap.size wp2 wp2.drew))
      replace HC' := Lib.hid (HC'.out.later ((Below.refl _ _).drew : Below wp2.heap.size wp2 wp2.drew))
      have rSn := fcells_3_3 HX.out HY.out
      go_region_held3 (fun w' => w'.cell? ⟨w.heap.size, 0, none⟩ = some (.bool na) ∧ w'.cell? ⟨w.heap.size, 1, none⟩ = some (.slice a n cap) ∧ w'.cell? ⟨w.heap.size, 2, none⟩ = some (.slice b m cap') ∧ w'.cell? ⟨w.heap.size + 1, 0, none⟩ = some (.bool nb) ∧ w'.cell? ⟨w.heap.size + 1, 1, none⟩ = some (.slice a' n' c') ∧ w'.cell? ⟨w.heap.size + 1, 2, none⟩ = some (.slice b' m' d')) (exact rSn)
        (first
        | (go_at_call 80; (first
          | (have rm1 := rM1; refine (frac_times nb a' n' c' la' b m cap' lb _ HA'.out HC.out (by omega) (by omega)).mono ?_; rintro e wr2 ⟨a2, n2, c2, rfl, h2, b⟩; replace HB := Lib.hid (below_then HB.out b); replace HX := Lib.hid (blk_later HX.out b); replace HY := Lib.hid (blk_later HY.out b); replace HA := Lib.hid (HA.out.later b); replace HC := Lib.hid (HC.out.later b); replace HA' := Lib.hid (HA'.out.later b); replace HC' := Lib.hid (HC'.out.later b); replace R1 := Lib.hid (R1.out.later b); have R2 := Lib.hid h2; have ln2 := h2.len; clear h2; unfold whV; clear b; clear rSn; have rSn := fcells_3_3 HX.out HY.out; clear rM1 rm1; have rM2 := True.intro)
          | (refine (frac_times na a n cap la b' m' d' lb' _ HA.out HC'.out (by omega) (by omega)).mono ?_; rintro e wr1 ⟨a1, n1, c1, rfl, h1, b⟩; replace HB := Lib.hid (below_then HB.out b); replace HX := Lib.hid (blk_later HX.out b); replace HY := Lib.hid (blk_later HY.out b); replace HA := Lib.hid (HA.out.later b); replace HC := Lib.hid (HC.out.later b); replace HA' := Lib.hid (HA'.out.later b); replace HC' := Lib.hid (HC'.out.later b); have R1 := Lib.hid h1; have ln1 := h1.len; clear h1; unfold whV; clear b; clear rSn; have rSn := fcells_3_3 HX.out HY.out; have rM1 := True.intro)))
        | (go_at_call 79; (first
          | (have rm2 := rM2; refine (whole_cmp _ a1 n1 c1 _ _ a2 n2 c2 _ _ R1.out R2.out (by omega) (by omega)).mono ?_; rintro e wr3 ⟨rfl, b⟩; replace HB := Lib.hid (below_then HB.out b); replace HX := Lib.hid (blk_later HX.out b); replace HY := Lib.hid (blk_later HY.out b); replace HA := Lib.hid (HA.out.later b); replace HC := Lib.hid (HC.out.later b); replace HA' := Lib.hid (HA'.out.later b); replace HC' := Lib.hid (HC'.out.later b); clear R1; clear R2; rw [zval_dg, zval_dg, HZ.out]; clear b; clear rSn; have rSn := fcells_3_3 HX.out HY.out; clear rM2 rm2; have rM3 := True.intro))))
      go_wp2
      go_ret
      exact ⟨rfl, HB.out⟩
  · have hq : (x == y) = false := by simp [hxy]
    have HZ := Lib.hid (HF.out hxy)
    clear HF HE0 HN hxy zl1 zl2
    go_wp2_with fail
    refine (cmp_Compare x y _).mono ?_
    rintro e w' ⟨rfl, rfl⟩
    rw [HZ.out]
    go_wp2
    go_ret
    exact ⟨rfl, HB.out⟩
set_option maxRecDepth 4096 in
set_option maxHeartbeats 4000000 in
theorem frac_same (na : Bool) (a : Option Addr) (n cap : Nat) (la : List Nat) (b : Option Addr) (m cap' : Nat) (lb : List Nat) (nb : Bool) (a' : Option Addr) (n' c' : Nat) (la' : List Nat) (b' : Option Addr) (m' d' : Nat) (lb' : List Nat) (w : World) (ha : Wd w a n cap la) (hb : Wd w b m cap' lb) (ha' : Wd w a' n' c' la') (hb' : Wd w b' m' d' lb') (hn : n ≤ 40000) (hm : m ≤ 40000) (hn' : n' ≤ 40000) (hm' : m' ≤ 40000) :
    Calls Tryz.prog 34 #[frV na a n cap b m cap', frV nb a' n' c' b' m' d'] w (Gives (.bool (decide (qval na (val la) (val lb) = qval nb (val la') (val lb')))) w) := by
  have HB := Lib.hid (below_then (below_alloc w (.cells #[.bool na, .slice a n cap, .slice b m cap'] 58)) (below_alloc _ (.cells #[.bool nb, .slice a' n' c', .slice b' m' d'] 58)))
  have HA := Lib.hid (ha.later HB.out)
  have HC := Lib.hid (hb.later HB.out)
  have HA' := Lib.hid (ha'.later HB.out)
  have HC' := Lib.hid (hb'.later HB.out)
  obtain ⟨hx1, hx2⟩ := boxes_at w ((w.alloc (.cells #[.bool na, .slice a n cap, .slice b m cap'] 58)).alloc (.cells #[.bool nb, .slice a' n' c', .slice b' m' d'] 58)) #[.bool na, .slice a n cap, .slice b m cap'] #[.bool nb, .slice a' n' c', .slice b' m' d'] 58 58 (Below.refl _ _)
  have HX := Lib.hid hx1
  have HY := Lib.hid hx2
  have ta := ha.trim_le
  have tb := hb.trim_le
  have ta' := ha'.trim_le
  have tb' := hb'.trim_le
  clear ha hb ha' hb' hx1 hx2
  have HE : Hid ((sgn (qval na (val la) (val lb) - qval nb (val la') (val lb')).num == 0) = decide (qval na (val la) (val lb) = qval nb (val la') (val lb'))) := Lib.hid (by
    by_cases h : qval na (val la) (val lb) = qval nb (val la') (val lb')
    · rw [decide_eq_true h, h, Rat.sub_self]; rfl
    · rw [decide_eq_false h, beq_eq_false_iff_ne]
      exact fun e => h (by
        have h1 := fc_qsign_zero.1 e
        rw [Rat.sub_eq_add_neg] at h1
        have h2 := congrArg (· + qval nb (val la') (val lb')) h1
        simp only [Rat.add_assoc, Rat.neg_add_cancel, Rat.add_zero, Rat.zero_add] at h2
        exact h2))
  go_enter Tryz.func34, Tryz.ntmps34
  unfold frV
  obtain ⟨vk0, vk1, vk2, vk3, vk4, vk5⟩ := fcells_3_3 HX.out HY.out
  go_wp2_with fail
  refine (frac_cmp na a n cap la b m cap' lb nb a' n' c' la' b' m' d' lb' _ HA.out HC.out HA'.out HC'.out hn hm hn' hm').mono ?_
  rintro e wv1 ⟨rfl, b⟩
  clear vk0 vk1 vk2 vk3 vk4 vk5
  replace HB := Lib.hid (below_then HB.out b)
  replace HX := Lib.hid (blk_later HX.out b)
  replace HY := Lib.hid (blk_later HY.out b)
  replace HA := Lib.hid (HA.out.later b)
  replace HC := Lib.hid (HC.out.later b)
  replace HA' := Lib.hid (HA'.out.later b)
  replace HC' := Lib.hid (HC'.out.later b)
  clear b
  clear HX HY HA HC HA' HC'
  generalize decide (qval na (val la) (val lb) = qval nb (val la') (val lb')) = s at *
  generalize sgn (qval na (val la) (val lb) - qval nb (val la') (val lb')).num = z at *
  go_wp2
  go_ret
  exact ⟨by rw [← HE.out]; rfl, HB.out⟩
end Go.Proofs.YtpjkhbfglgmnmaaGreatDoor

/-
  Package frac at this seat: Add, Sub.
-/
namespace Go.Proofs.YtpjkhbfglgmnmaaGreatDoor
open Go.RowKit

set_option maxRecDepth 4096 in
set_option maxHeartbeats 4000000 in
theorem frac_add (na : Bool) (a : Option Addr) (n cap : Nat) (la : List Nat) (b : Option Addr) (m cap' : Nat) (lb : List Nat) (nb : Bool) (a' : Option Addr) (n' c' : Nat) (la' : List Nat) (b' : Option Addr) (m' d' : Nat) (lb' : List Nat) (w : World) (ha : Wd w a n cap la) (hb : Wd w b m cap' lb) (ha' : Wd w a' n' c' la') (hb' : Wd w b' m' d' lb') (hn : n ≤ 9000) (hm : m ≤ 9000) (hn' : n' ≤ 9000) (hm' : m' ≤ 9000) :
    Calls Tryz.prog 76 #[frV na a n cap b m cap', frV nb a' n' c' b' m' d'] w (LstQ (qval na (val la) (val lb) + qval nb (val la') (val lb')) w) := by
  have HB := Lib.hid (below_then (below_then (below_alloc w (.cells #[.bool na, .slice a n cap, .slice b m cap'] 58)) (below_alloc _ (.cells #[.bool nb, .slice a' n' c', .slice b' m' d'] 58))) (below_alloc _ (.cells #[.bool false, .slice none 0 0, .slice none 0 0] 58)))
  have HA := Lib.hid (ha.later HB.out)
  have HC := Lib.hid (hb.later HB.out)
  have HA' := Lib.hid (ha'.later HB.out)
  have HC' := Lib.hid (hb'.later HB.out)
  obtain ⟨hx1, hx2, hx3⟩ := boxes3_at9 w #[.bool na, .slice a n cap, .slice b m cap'] #[.bool nb, .slice a' n' c', .slice b' m' d'] #[.bool false, .slice none 0 0, .slice none 0 0] 58 58 58
  have HX := Lib.hid hx1
  have HY := Lib.hid hx2
  have HR := Lib.hid hx3
  have ta := ha.trim_le
  have tb := hb.trim_le
  have ta' := ha'.trim_le
  have tb' := hb'.trim_le
  clear ha hb ha' hb' hx1 hx2 hx3
  have H0A : Hid (sgn (qval na (val la) (val lb)).num = 0 → qval nb (val la') (val lb') = qval na (val la) (val lb) + qval nb (val la') (val lb')) := Lib.hid (fun h => by rw [fc_qsign_zero.1 h, Rat.zero_add])
  have H0B : Hid (sgn (qval nb (val la') (val lb')).num = 0 → qval na (val la) (val lb) = qval na (val la) (val lb) + qval nb (val la') (val lb')) := Lib.hid (fun h => by rw [fc_qsign_zero.1 h, Rat.add_zero])
  have H1A : Hid (sgn (qval na (val la) (val lb)).num ≠ 0 → val lb ≠ 0) := Lib.hid (fun h e => h (by rw [qval_none na (.inl e)]; rfl))
  have H1B : Hid (sgn (qval nb (val la') (val lb')).num ≠ 0 → val lb' ≠ 0) := Lib.hid (fun h e => h (by rw [qval_none nb (.inl e)]; rfl))
  obtain ⟨X, hX⟩ : ∃ X, val lb / Nat.gcd (val lb) (val lb') = X := ⟨_, rfl⟩
  obtain ⟨Y, hY⟩ : ∃ Y, val lb' / Nat.gcd (val lb) (val lb') = Y := ⟨_, rfl⟩
  have lX : (dg X).length ≤ 9000 := by rw [← hX]; exact Nat.le_trans (dg_length_mono (Nat.div_le_self _ _)) (by omega)
  have lY : (dg Y).length ≤ 9000 := by rw [← hY]; exact Nat.le_trans (dg_length_mono (Nat.div_le_self _ _)) (by omega)
  obtain ⟨s1, hs1⟩ : ∃ s1, zval na (val la) * (Y : Int) = s1 := ⟨_, rfl⟩
  obtain ⟨s2, hs2⟩ : ∃ s2, zval nb (val la') * (X : Int) = s2 := ⟨_, rfl⟩
  obtain ⟨D, hD⟩ : ∃ D, val lb * Y = D := ⟨_, rfl⟩
  have zl1 := zlen_mul (zval na (val la)) (Y : Int)
  have zl2 := zlen_mul (zval nb (val la')) (X : Int)
  have zl3 := dg_mul_length (val lb) Y
  rw [zval_abs, Int.natAbs_natCast, hs1] at zl1
  rw [zval_abs, Int.natAbs_natCast, hs2] at zl2
  rw [hD] at zl3
  have zl4 := zlen_add s1 s2
  have HS1 : Hid (zval na (val la) * ((val (dg Y) : Nat) : Int) = s1) := Lib.hid (by rw [val_dg]; exact hs1)
  have HS2 : Hid (zval nb (val la') * ((val (dg X) : Nat) : Int) = s2) := Lib.hid (by rw [val_dg]; exact hs2)
  have HD : Hid (val lb * val (dg Y) = D) := Lib.hid (by rw [val_dg]; exact hD)
  have HZ : Hid (val lb ≠ 0 → val lb' ≠ 0 → qval (zneg (s1 + s2)) (val (dg (s1 + s2).natAbs)) (val (dg D)) = qval na (val la) (val lb) + qval nb (val la') (val lb')) := Lib.hid (fun h h' => by
    rw [val_dg, val_dg, fc_qval_of, ← hs1, ← hs2, ← hD, ← hX, ← hY]
    exact fc_qval_add na nb _ _ _ _ h h')
  have EX := Lib.hid hX
  have EY := Lib.hid hY
  clear hX hY hs1 hs2 hD
  generalize hq : qval na (val la) (val lb) + qval nb (val la') (val lb') = q at *
  generalize hp : qval na (val la) (val lb) = p at *
  generalize hr : qval nb (val la') (val lb') = r at *
  have HP := Lib.hid hp
  have HR9 := Lib.hid hr
  clear hp hr hq
  go_enter Tryz.func76, Tryz.ntmps76
  unfold frV
  obtain ⟨vk0, vk1, vk2, vk3, vk4, vk5, vk6, vk7, vk8⟩ := fcells_3_3_3 HX.out HY.out HR.out
  go_wp2_with fail
  refine (frac_sign na a n cap la b m cap' lb _ HA.out HC.out (by omega) (by omega)).mono ?_
  rintro e wv1 ⟨rfl, b⟩
  clear vk0 vk1 vk2 vk3 vk4 vk5 vk6 vk7 vk8
  replace HB := Lib.hid (below_then HB.out b)
  replace HX := Lib.hid (blk_later HX.out b)
  replace HY := Lib.hid (blk_later HY.out b)
  replace HR := Lib.hid (blk_later HR.out b)
  replace HA := Lib.hid (HA.out.later b)
  replace HC := Lib.hid (HC.out.later b)
  replace HA' := Lib.hid (HA'.out.later b)
  replace HC' := Lib.hid (HC'.out.later b)
  clear b
  rw [HP.out]
  generalize sgn p.num = x at *
  by_cases hx0 : x = 0
  · have hq : (x == 0) = true := by simp [hx0]
    have HQ0 : Hid (qval nb (val la') (val lb') = q) := Lib.hid (HR9.out.trans (H0A.out hx0))
    clear hx0 H0A H0B H1A H1B HZ HA HC zl1 zl2 zl3 zl4 lX lY
    obtain ⟨uk0, uk1, uk2, uk3, uk4, uk5, uk6, uk7, uk8⟩ := fcells_3_3_3 HX.out HY.out HR.out
    go_wp2_with fail
    refine (frac_norm nb a' n' c' la' b' m' d' lb' _ HA'.out HC'.out (by omega) (by omega)).mono ?_
    rintro e wu1 ⟨a1, n1, c1, b1, m1, d1, rfl, h1, g1, b⟩
    clear uk0 uk1 uk2 uk3 uk4 uk5 uk6 uk7 uk8
    replace HB := Lib.hid (below_then HB.out b)
    replace HX := Lib.hid (blk_later HX.out b)
    replace HY := Lib.hid (blk_later HY.out b)
    replace HR := Lib.hid (blk_later HR.out b)
    clear HA'
    clear HC'
    clear b
    rw [HQ0.out] at h1 g1 ⊢
    have R1 := Lib.hid h1
    have T1 := Lib.hid g1
    clear h1 g1
    unfold frV
    have q0 := blk_cell HR.out 0
    have q1 := blk_cell HR.out 1
    have q2 := blk_cell HR.out 2
    simp only [List.getElem?_toArray, List.getElem?_cons_zero, List.getElem?_cons_succ] at q0 q1 q2
    have f0 := blk_free HR.out 0
    have f1 := blk_free HR.out 1
    have f2 := blk_free HR.out 2
    replace HX := Lib.hid (blk_far3 HX.out (show w.heap.size ≠ w.heap.size + 1 + 1 by omega) (.bool (zneg q.num)) (.slice a1 n1 c1) (.slice b1 m1 d1))
    replace HY := Lib.hid (blk_far3 HY.out (show w.heap.size + 1 ≠ w.heap.size + 1 + 1 by omega) (.bool (zneg q.num)) (.slice a1 n1 c1) (.slice b1 m1 d1))
    replace R1 := Lib.hid (R1.out.stored3 HR.out ((zneg q.num)) a1 n1 c1 (.slice b1 m1 d1))
    replace T1 := Lib.hid (T1.out.stored3 HR.out ((zneg q.num)) a1 n1 c1 (.slice b1 m1 d1))
    replace HB := Lib.hid (below_set3 HB.out (show w.heap.size ≤ w.heap.size + 1 + 1 by omega) (.bool (zneg q.num)) (.slice a1 n1 c1) (.slice b1 m1 d1))
    replace HR := Lib.hid (blk_set3 HR.out (.bool (zneg q.num)) (.slice a1 n1 c1) (.slice b1 m1 d1))
    go_wp2
    refine bodyPost_ret (results_cell_row Tryz.results76 _ _ (w.heap.size + 1 + 1) 58 #[.bool (zneg q.num), .slice a1 n1 c1, .slice b1 m1 d1] (0, 0) _ rfl HR.out Tryz.underlying58 rfl (by kernel_rfl)) rfl ?_
    exact ⟨a1, n1, c1, b1, m1, d1, rfl, R1.out, T1.out, HB.out⟩
  · have hq : (x == 0) = false := by simp [hx0]
    have HV := Lib.hid (H1A.out hx0)
    clear hx0 H0A H1A
    obtain ⟨uk0, uk1, uk2, uk3, uk4, uk5, uk6, uk7, uk8⟩ := fcells_3_3_3 HX.out HY.out HR.out
    go_wp2_with fail
    refine (frac_sign nb a' n' c' la' b' m' d' lb' _ HA'.out HC'.out (by omega) (by omega)).mono ?_
    rintro e wu1 ⟨rfl, b⟩
    clear uk0 uk1 uk2 uk3 uk4 uk5 uk6 uk7 uk8
    replace HB := Lib.hid (below_then HB.out b)
    replace HX := Lib.hid (blk_later HX.out b)
    replace HY := Lib.hid (blk_later HY.out b)
    replace HR := Lib.hid (blk_later HR.out b)
    replace HA := Lib.hid (HA.out.later b)
    replace HC := Lib.hid (HC.out.later b)
    replace HA' := Lib.hid (HA'.out.later b)
    replace HC' := Lib.hid (HC'.out.later b)
    clear b
    rw [HR9.out]
    generalize sgn r.num = y at *
    by_cases hy0 : y = 0
    · have hr : (y == 0) = true := by simp [hy0]
      have HQ0 : Hid (qval na (val la) (val lb) = q) := Lib.hid (HP.out.trans (H0B.out hy0))
      clear hy0 H0B H1B HZ HA' HC' zl1 zl2 zl3 zl4 lX lY
      obtain ⟨tk0, tk1, tk2, tk3, tk4, tk5, tk6, tk7, tk8⟩ := fcells_3_3_3 HX.out HY.out HR.out
      go_wp2_with fail
      refine (frac_norm na a n cap la b m cap' lb _ HA.out HC.out (by omega) (by omega)).mono ?_
      rintro e wt1 ⟨a1, n1, c1, b1, m1, d1, rfl, h1, g1, b⟩
      clear tk0 tk1 tk2 tk3 tk4 tk5 tk6 tk7 tk8
      replace HB := Lib.hid (below_then HB.out b)
      replace HX := Lib.hid (blk_later HX.out b)
      replace HY := Lib.hid (blk_later HY.out b)
      replace HR := Lib.hid (blk_later HR.out b)
      clear HA
      clear HC
      clear b
      rw [HQ0.out] at h1 g1 ⊢
      have R1 := Lib.hid h1
      have T1 := Lib.hid g1
      clear h1 g1
      unfold frV
      have q0 := blk_cell HR.out 0
      have q1 := blk_cell HR.out 1
      have q2 := blk_cell HR.out 2
      simp only [List.getElem?_toArray, List.getElem?_cons_zero, List.getElem?_cons_succ] at q0 q1 q2
      have f0 := blk_free HR.out 0
      have f1 := blk_free HR.out 1
      have f2 := blk_free HR.out 2
      replace HX := Lib.hid (blk_far3 HX.out (show w.heap.size ≠ w.heap.size + 1 + 1 by omega) (.bool (zneg q.num)) (.slice a1 n1 c1) (.slice b1 m1 d1))
      replace HY := Lib.hid (blk_far3 HY.out (show w.heap.size + 1 ≠ w.heap.size + 1 + 1 by omega) (.bool (zneg q.num)) (.slice a1 n1 c1) (.slice b1 m1 d1))
      replace R1 := Lib.hid (R1.out.stored3 HR.out ((zneg q.num)) a1 n1 c1 (.slice b1 m1 d1))
      replace T1 := Lib.hid (T1.out.stored3 HR.out ((zneg q.num)) a1 n1 c1 (.slice b1 m1 d1))
      replace HB := Lib.hid (below_set3 HB.out (show w.heap.size ≤ w.heap.size + 1 + 1 by omega) (.bool (zneg q.num)) (.slice a1 n1 c1) (.slice b1 m1 d1))
      replace HR := Lib.hid (blk_set3 HR.out (.bool (zneg q.num)) (.slice a1 n1 c1) (.slice b1 m1 d1))
      go_wp2
      refine bodyPost_ret (results_cell_row Tryz.results76 _ _ (w.heap.size + 1 + 1) 58 #[.bool (zneg q.num), .slice a1 n1 c1, .slice b1 m1 d1] (0, 0) _ rfl HR.out Tryz.underlying58 rfl (by kernel_rfl)) rfl ?_
      exact ⟨a1, n1, c1, b1, m1, d1, rfl, R1.out, T1.out, HB.out⟩
    · have hr : (y == 0) = false := by simp [hy0]
      have HZ2 := Lib.hid (HZ.out HV.out (H1B.out hy0))
      clear hy0 H0B H1B HZ HV
      obtain ⟨tk0, tk1, tk2, tk3, tk4, tk5, tk6, tk7, tk8⟩ := fcells_3_3_3 HX.out HY.out HR.out
      go_wp2_with fail
      refine (common_cancel b m cap' lb b' m' d' lb' _ HC.out HC'.out (by omega) (by omega)).mono ?_
      rintro e wt1 ⟨ax, nx, cx, ay, ny, cy, rfl, hX, hY, b⟩
      clear tk0 tk1 tk2 tk3 tk4 tk5 tk6 tk7 tk8
      replace HB := Lib.hid (below_then HB.out b)
      replace HX := Lib.hid (blk_later HX.out b)
      replace HY := Lib.hid (blk_later HY.out b)
      replace HR := Lib.hid (blk_later HR.out b)
      replace HA := Lib.hid (HA.out.later b)
      replace HC := Lib.hid (HC.out.later b)
      replace HA' := Lib.hid (HA'.out.later b)
      replace HC' := Lib.hid (HC'.out.later b)
      clear b
      rw [EX.out] at hX
      rw [EY.out] at hY
      have lnx := hX.len
      have lny := hY.len
      have RX := Lib.hid hX
      have RY := Lib.hid hY
      clear hX hY
      obtain ⟨tk0, tk1, tk2, tk3, tk4, tk5, tk6, tk7, tk8⟩ := fcells_3_3_3 HX.out HY.out HR.out
      go_wp2
      clear tk0 tk1 tk2 tk3 tk4 tk5 tk6 tk7 tk8
      replace HB := Lib.hid (below_then HB.out ((Below.refl _ _).drew : Below wt1.heap.size wt1 wt1.drew))
      replace HX : Hid (wt1.drew.heap[w.heap.size]? = _) := Lib.hid HX.out
      replace HY : Hid (wt1.drew.heap[w.heap.size + 1]? = _) := Lib.hid HY.out
      replace HR : Hid (wt1.drew.heap[w.heap.size + 1 + 1]? = some (.cells #[.bool false, .slice none 0 0, .slice none 0 0] 58 (0, 0))) := Lib.hid HR.out
      replace HA := Lib.hid (HA.out.later ((Below.refl _ _).drew : Below wt1.heap.size wt1 wt1.drew))
      replace HC := Lib.hid (HC.out.later ((Below.refl _ _).drew : Below wt1.heap.size wt1 wt1.drew))
      replace HA' := Lib.hid (HA'.out.later ((Below.refl _ _).drew : Below wt1.heap.size wt1 wt1.drew))
      replace HC' := Lib.hid (HC'.out.later ((Below.refl _ _).drew : Below wt1.heap.size wt1 wt1.drew))
      replace RX := Lib.hid (RX.out.later ((Below.refl _ _).drew : Below wt1.heap.size wt1 wt1.drew))
      replace RY := Lib.hid (RY.out.later ((Below.refl _ _).drew : Below wt1.heap.size wt1 wt1.drew))
      have pSn := fcells_3_3 HX.out HY.out
      go_region_held3 (fun w' => w'.cell? ⟨w.heap.size, 0, none⟩ = some (.bool na) ∧ w'.cell? ⟨w.heap.size, 1, none⟩ = some (.slice a n cap) ∧ w'.cell? ⟨w.heap.size, 2, none⟩ = some (.slice b m cap') ∧ w'.cell? ⟨w.heap.size + 1, 0, none⟩ = some (.bool nb) ∧ w'.cell? ⟨w.heap.size + 1, 1, none⟩ = some (.slice a' n' c') ∧ w'.cell? ⟨w.heap.size + 1, 2, none⟩ = some (.slice b' m' d')) (first | exact pSn | exact pSb _ _ _)
        (first
        | (go_at_call 80; (first
          | (have pm1 := pM1; refine (frac_times nb a' n' c' la' ax nx cx _ _ HA'.out RX.out (by omega) (by omega)).mono ?_; rintro e wp2 ⟨a2, n2, c2, rfl, h2, b⟩; replace HB := Lib.hid (below_then HB.out b); replace HX := Lib.hid (blk_later HX.out b); replace HY := Lib.hid (blk_later HY.out b); replace HR := Lib.hid (blk_later HR.out b); replace HA := Lib.hid (HA.out.later b); replace HC := Lib.hid (HC.out.later b); replace HA' := Lib.hid (HA'.out.later b); replace HC' := Lib.hid (HC'.out.later b); replace RX := Lib.hid (RX.out.later b); replace RY := Lib.hid (RY.out.later b); replace R1 := Lib.hid (R1.out.later b); rw [HS2.out] at h2 ⊢; have R2 := Lib.hid h2; have ln2 := h2.len; clear h2; unfold whV; clear b; clear pSn; have pSn := fcells_3_3 HX.out HY.out; clear pM1 pm1; have pM2 := True.intro)
          | (refine (frac_times na a n cap la ay ny cy _ _ HA.out RY.out (by omega) (by omega)).mono ?_; rintro e wp1 ⟨a1, n1, c1, rfl, h1, b⟩; replace HB := Lib.hid (below_then HB.out b); replace HX := Lib.hid (blk_later HX.out b); replace HY := Lib.hid (blk_later HY.out b); replace HR := Lib.hid (blk_later HR.out b); replace HA := Lib.hid (HA.out.later b); replace HC := Lib.hid (HC.out.later b); replace HA' := Lib.hid (HA'.out.later b); replace HC' := Lib.hid (HC'.out.later b); replace RX := Lib.hid (RX.out.later b); replace RY := Lib.hid (RY.out.later b); rw [HS1.out] at h1 ⊢; have R1 := Lib.hid h1; have ln1 := h1.len; clear h1; unfold whV; clear b; clear pSn; have pSn := fcells_3_3 HX.out HY.out; have pM1 := True.intro)))
        | (go_at_call 104; (first
          | (have pm2 := pM2; refine (whole_add _ a1 n1 c1 _ _ a2 n2 c2 _ _ R1.out R2.out (by omega) (by omega)).mono ?_; rintro e wp3 ⟨a3, n3, c3, rfl, h3, b⟩; replace HB := Lib.hid (below_then HB.out b); replace HX := Lib.hid (blk_later HX.out b); replace HY := Lib.hid (blk_later HY.out b); replace HR := Lib.hid (blk_later HR.out b); replace HA := Lib.hid (HA.out.later b); replace HC := Lib.hid (HC.out.later b); replace HA' := Lib.hid (HA'.out.later b); replace HC' := Lib.hid (HC'.out.later b); replace RX := Lib.hid (RX.out.later b); replace RY := Lib.hid (RY.out.later b); clear R1; clear R2; rw [zval_dg, zval_dg] at h3 ⊢; have R3 := Lib.hid h3; have ln3 := h3.len; clear h3; unfold whV; clear b; clear pSn; have pSn := fcells_3_3 HX.out HY.out; clear pM2 pm2; have pM3 := True.intro)))
        | (go_at_call 103; (first
          | (have pm3 := pM3; refine (prod_mul b m cap' lb ay ny cy _ _ HC.out RY.out (by omega) (by omega)).mono ?_; rintro e wp4 ⟨b4, m4, d4, rfl, h4, b⟩; replace HB := Lib.hid (below_then HB.out b); replace HX := Lib.hid (blk_later HX.out b); replace HY := Lib.hid (blk_later HY.out b); replace HR := Lib.hid (blk_later HR.out b); replace HA := Lib.hid (HA.out.later b); replace HC := Lib.hid (HC.out.later b); replace HA' := Lib.hid (HA'.out.later b); replace HC' := Lib.hid (HC'.out.later b); replace RX := Lib.hid (RX.out.later b); replace RY := Lib.hid (RY.out.later b); replace R3 := Lib.hid (R3.out.later b); rw [HD.out] at h4; have R4 := Lib.hid h4; have ln4 := h4.len; clear h4; clear b; clear pSn; have pSn := fcells_3_3 HX.out HY.out; clear pM3 pm3; have pM4 := True.intro)))
        | (go_at_call 40; (first
          | (have pm4 := pM4; refine (frac_norm _ a3 n3 c3 _ b4 m4 d4 _ _ R3.out R4.out (by omega) (by omega)).mono ?_; rintro e wp5 ⟨a5, n5, c5, b5, m5, d5, rfl, h5, g5, b⟩; replace HB := Lib.hid (below_then HB.out b); replace HX := Lib.hid (blk_later HX.out b); replace HY := Lib.hid (blk_later HY.out b); replace HR := Lib.hid (blk_later HR.out b); replace HA := Lib.hid (HA.out.later b); replace HC := Lib.hid (HC.out.later b); replace HA' := Lib.hid (HA'.out.later b); replace HC' := Lib.hid (HC'.out.later b); replace RX := Lib.hid (RX.out.later b); replace RY := Lib.hid (RY.out.later b); clear R3; clear R4; rw [HZ2.out] at h5 g5 ⊢; have R5 := Lib.hid h5; have T5 := Lib.hid g5; clear h5 g5; obtain ⟨r0, r1, r2⟩ := fcells_3 HR.out; have f0 := blk_free HR.out 0; have f1 := blk_free HR.out 1; have f2 := blk_free HR.out 2; have pSb := fun u v q => fcells_3_3 (blk_far3 (g := w.heap.size + 1 + 1) HX.out (by omega) u v q) (blk_far3 (g := w.heap.size + 1 + 1) HY.out (by omega) u v q); unfold frV; clear b; clear pSn; have pSn := fcells_3_3 HX.out HY.out; clear pM4 pm4; have pM5 := True.intro))))
      have HG := Lib.hid (blk_set3 HR.out (.bool (zneg q.num)) (.slice a5 n5 c5) (.slice b5 m5 d5))
      have HL := Lib.hid (below_set3 HB.out (show w.heap.size ≤ w.heap.size + 1 + 1 by omega) (.bool (zneg q.num)) (.slice a5 n5 c5) (.slice b5 m5 d5))
      have HW1 := Lib.hid (R5.out.stored3 HR.out (zneg q.num) a5 n5 c5 (.slice b5 m5 d5))
      have HW2 := Lib.hid (T5.out.stored3 HR.out (zneg q.num) a5 n5 c5 (.slice b5 m5 d5))
      go_wp2
      refine bodyPost_ret (results_cell_row Tryz.results76 _ _ (w.heap.size + 1 + 1) 58 #[.bool (zneg q.num), .slice a5 n5 c5, .slice b5 m5 d5] (0, 0) _ rfl HG.out Tryz.underlying58 rfl (by kernel_rfl)) rfl ?_
      exact ⟨a5, n5, c5, b5, m5, d5, rfl, HW1.out, HW2.out, HL.out⟩
end Go.Proofs.YtpjkhbfglgmnmaaGreatDoor

/-
  What package frac's functions owe, proved.
-/
namespace Go.Proofs.YtpjkhbfglgmnmaaGreatDoor
open Go.RowKit

theorem fracSaid : FracSaid where
  new := fun neg a n cap la b m cap' lb q w ha hb hn hm hq => by subst hq; exact frac_new neg a n cap la b m cap' lb w ha hb (by omega) (by omega)
  of := fun z w hz => frac_of z w hz
  norm := fun v q w h => by
    obtain ⟨neg, a, n, cap, la, b, m, cap', lb, rfl, ha, hb, hn, hm, rfl⟩ := h
    exact frac_norm neg a n cap la b m cap' lb w ha hb (by omega) (by omega)
  sign := fun v q w h => by
    obtain ⟨neg, a, n, cap, la, b, m, cap', lb, rfl, ha, hb, hn, hm, rfl⟩ := h
    exact frac_sign neg a n cap la b m cap' lb w ha hb (by omega) (by omega)
  cmp := fun v u p q w h k => by
    obtain ⟨na, a, n, cap, la, b, m, cap', lb, rfl, ha, hb, hn, hm, rfl⟩ := h
    obtain ⟨nb, a', n', c', la', b', m', d', lb', rfl, ha', hb', hn', hm', rfl⟩ := k
    exact frac_cmp na a n cap la b m cap' lb nb a' n' c' la' b' m' d' lb' w ha hb ha' hb' (by omega) (by omega) (by omega) (by omega)
  same := fun v u p q w h k => by
    obtain ⟨na, a, n, cap, la, b, m, cap', lb, rfl, ha, hb, hn, hm, rfl⟩ := h
    obtain ⟨nb, a', n', c', la', b', m', d', lb', rfl, ha', hb', hn', hm', rfl⟩ := k
    exact frac_same na a n cap la b m cap' lb nb a' n' c' la' b' m' d' lb' w ha hb ha' hb' (by omega) (by omega) (by omega) (by omega)
  add := fun v u p q w h k => by
    obtain ⟨na, a, n, cap, la, b, m, cap', lb, rfl, ha, hb, hn, hm, rfl⟩ := h
    obtain ⟨nb, a', n', c', la', b', m', d', lb', rfl, ha', hb', hn', hm', rfl⟩ := k
    exact frac_add na a n cap la b m cap' lb nb a' n' c' la' b' m' d' lb' w ha hb ha' hb' (by omega) (by omega) (by omega) (by omega)
  mul := fun v u p q w h k => by
    obtain ⟨na, a, n, cap, la, b, m, cap', lb, rfl, ha, hb, hn, hm, rfl⟩ := h
    obtain ⟨nb, a', n', c', la', b', m', d', lb', rfl, ha', hb', hn', hm', rfl⟩ := k
    exact frac_mul na a n cap la b m cap' lb nb a' n' c' la' b' m' d' lb' w ha hb ha' hb' (by omega) (by omega) (by omega) (by omega)
end Go.Proofs.YtpjkhbfglgmnmaaGreatDoor

/-
  Plain mathematics: fractions as texts: where the first / or point stands, what a text says, what is written, what a fraction is rounded to. Nothing of the program.
-/
namespace Go.Proofs.YtpjkhbfglgmnmaaGreatDoor

/-- The place of the first / or point; how long the text is, if there is none. -/
def cutAt : List UInt8 → Nat
  | [] => 0
  | x :: r => if x.toNat = 47 ∨ x.toNat = 46 then 0 else cutAt r + 1
/-- What stands ahead of the first / or point, behind it, and it itself. -/
def fhead (l : List UInt8) : List UInt8 := l.take (cutAt l)
def frest (l : List UInt8) : List UInt8 := l.drop (cutAt l + 1)
def fbyte (l : List UInt8) : Nat := (l.getD (cutAt l) 0).toNat
/-- The kind of the fault that a text has (0: none), its place, and the fraction that the text is. -/
def figKind (l : List UInt8) : Int :=
  if 0 ≤ zwrong (fhead l) then 1 else if cutAt l = l.length then 0 else if 0 ≤ wrongI (frest l) then 1 else if fbyte l ≠ 46 ∧ readV (frest l) = 0 then 2 else 0
def figPlace (l : List UInt8) : Int :=
  if 0 ≤ zwrong (fhead l) then zwrong (fhead l) else if cutAt l = l.length then 0 else if 0 ≤ wrongI (frest l) then ((cutAt l + 1 : Nat) : Int) + wrongI (frest l) else if fbyte l ≠ 46 ∧ readV (frest l) = 0 then ((cutAt l + 1 : Nat) : Int) else 0
def figVal (l : List UInt8) : Rat :=
  if 0 ≤ zwrong (fhead l) then 0 else if cutAt l = l.length then ((zread (fhead l) : Int) : Rat) else if 0 ≤ wrongI (frest l) then 0
  else if fbyte l = 46 then mkRat (zval (decide ((l.getD 0 0).toNat = 45)) ((zread (fhead l)).natAbs * 10 ^ (frest l).length + readV (frest l))) (10 ^ (frest l).length)
  else if readV (frest l) = 0 then 0 else mkRat (zread (fhead l)) (readV (frest l))
/-- What is written of a fraction. -/
def ftxt (q : Rat) : List UInt8 := ztxt q.num ++ (if q.den = 1 then [] else 47 :: txt q.den)
end Go.Proofs.YtpjkhbfglgmnmaaGreatDoor

/-
  What package figure's functions owe (layer 10), as one hypothesis: the contracts that the laws' walks lean on. And the document's reading of whole numbers, in one form.
-/
namespace Go.Proofs.YtpjkhbfglgmnmaaGreatDoor
open Go.RowKit

structure FigureSaid : Prop where
  text : ∀ (v : Value) (q : Rat) (w : World), Fr w v q 200 → Hid (Dec10 w) → Calls Tryz.prog 58 #[v] w (Gives (.string (bs (ftxt q))) w)
end Go.Proofs.YtpjkhbfglgmnmaaGreatDoor

/-
  Package figure at this seat: Text.
-/
namespace Go.Proofs.YtpjkhbfglgmnmaaGreatDoor
open Go.RowKit

theorem fig_cmp_one (n : Nat) : (cmpI (val (dg n)) (val (dg 1)) == 0) = decide (n = 1) := by
  rw [val_dg, val_dg]
  unfold cmpI
  by_cases h : n = 1
  · rw [decide_eq_true h, h]; rfl
  · rw [decide_eq_false h]
    split
    · rfl
    · split
      · rfl
      · omega
set_option maxRecDepth 4096 in
set_option maxHeartbeats 4000000 in
theorem figure_text (neg : Bool) (a : Option Addr) (n cap : Nat) (la : List Nat) (b : Option Addr) (m cap' : Nat) (lb : List Nat) (w : World) (ha : Wd w a n cap la) (hb : Wd w b m cap' lb) (hn : n ≤ 900) (hm : m ≤ 900) (hT : Hid (Dec10 w)) :
    Calls Tryz.prog 58 #[frV neg a n cap b m cap'] w (Gives (.string (bs (ftxt (qval neg (val la) (val lb))))) w) := by
  have HB := Lib.hid (below_alloc w (.cells #[.bool neg, .slice a n cap, .slice b m cap'] 58))
  have HA := Lib.hid (ha.later HB.out)
  have HC := Lib.hid (hb.later HB.out)
  have HX := Lib.hid (blk_new w #[.bool neg, .slice a n cap, .slice b m cap'] 58)
  have hq0 := (Fr.of ha hb hn hm (rfl : qval neg (val la) (val lb) = qval neg (val la) (val lb))).len
  clear ha hb
  obtain ⟨q, hq⟩ : ∃ q, qval neg (val la) (val lb) = q := ⟨_, rfl⟩
  rw [hq] at hq0 ⊢
  have HQ := Lib.hid hq
  clear hq
  have hln : (dg q.num.natAbs).length ≤ 901 := Nat.le_trans (qlen_num q) hq0
  have hld : (dg q.den).length ≤ 901 := Nat.le_trans (qlen_den q) hq0
  have HZ : Hid (zval (zneg q.num) (val (dg q.num.natAbs)) = q.num) := Lib.hid (zval_dg q.num)
  have HV : Hid (val (dg q.den) = q.den) := Lib.hid (val_dg q.den)
  obtain ⟨cc, hcc⟩ : ∃ cc, cmpI (val (dg q.den)) (val (dg 1)) = cc := ⟨_, rfl⟩
  obtain ⟨d, hd⟩ : ∃ d, (cc == 0) = d := ⟨_, rfl⟩
  have HD : Hid (d = decide (q.den = 1)) := Lib.hid (by rw [← hd, ← hcc]; exact fig_cmp_one q.den)
  have HCC := Lib.hid hcc
  have hz1 := bs_size (ztxt q.num)
  have hz2 := bs_size [47]
  have hz3 := bs_size (txt q.den)
  simp only [List.length_cons, List.length_nil] at hz2
  have ht2 : (txt q.den).length ≤ 100000 := by
    have h1 := val_lt (okw_dg q.den)
    rw [val_dg, pow32] at h1
    have h2 := txt_length_le h1
    omega
  have ht1 : (ztxt q.num).length ≤ 100001 := by
    have h1 := val_lt (okw_dg q.num.natAbs)
    rw [val_dg, pow32] at h1
    have h2 := txt_length_le h1
    unfold ztxt; split <;> (try rw [List.length_cons]) <;> omega
  have ln10 : (dg 1).length ≤ 1 := dg_length_le (by decide)
  clear hcc hq0
  go_enter Tryz.func58, Tryz.ntmps58
  unfold frV
  obtain ⟨vk0, vk1, vk2⟩ := fcells_3 HX.out
  go_wp2_with fail
  refine (frac_norm neg a n cap la b m cap' lb _ HA.out HC.out (by omega) (by omega)).mono ?_
  rintro e wv1 ⟨a1, n1, c1, b1, m1, d1, rfl, h1, g1, b⟩
  clear vk0 vk1 vk2
  replace HB := Lib.hid (below_then HB.out b)
  replace HX := Lib.hid (blk_later HX.out b)
  clear HA
  clear HC
  clear b
  rw [HQ.out] at h1 g1 ⊢
  have ln1 := h1.len
  have lm1 := g1.len
  have R1 := Lib.hid h1
  have T1 := Lib.hid g1
  clear h1 g1
  unfold frV
  have q0 := blk_cell HX.out 0
  have q1 := blk_cell HX.out 1
  have q2 := blk_cell HX.out 2
  simp only [List.getElem?_toArray, List.getElem?_cons_zero, List.getElem?_cons_succ] at q0 q1 q2
  have f0 := blk_free HX.out 0
  have f1 := blk_free HX.out 1
  have f2 := blk_free HX.out 2
  replace R1 := Lib.hid (R1.out.stored3 HX.out ((zneg q.num)) a1 n1 c1 (.slice b1 m1 d1))
  replace T1 := Lib.hid (T1.out.stored3 HX.out ((zneg q.num)) a1 n1 c1 (.slice b1 m1 d1))
  replace HB := Lib.hid (below_set3 HB.out (show w.heap.size ≤ w.heap.size by omega) (.bool (zneg q.num)) (.slice a1 n1 c1) (.slice b1 m1 d1))
  replace HX := Lib.hid (blk_set3 HX.out (.bool (zneg q.num)) (.slice a1 n1 c1) (.slice b1 m1 d1))
  obtain ⟨vk0, vk1, vk2⟩ := fcells_3 HX.out
  go_wp2_with fail
  refine (whole_text digitsSaid (zneg q.num) a1 n1 c1 _ _ R1.out (by omega) (Lib.hid (hT.out.later HB.out))).mono ?_
  rintro e wv2 ⟨rfl, b⟩
  clear vk0 vk1 vk2
  replace HB := Lib.hid (below_then HB.out b)
  replace HX := Lib.hid (blk_later HX.out b)
  clear R1
  replace T1 := Lib.hid (T1.out.later b)
  clear b
  rw [HZ.out]
  go_wp2
  generalize wv2 = W at *
  replace HB := Lib.hid (below_then HB.out ((Below.refl _ _).drew : Below W.heap.size W W.drew))
  replace HX : Hid (W.drew.heap[w.heap.size]? = _) := Lib.hid HX.out
  replace T1 := Lib.hid (T1.out.later ((Below.refl _ _).drew : Below W.heap.size W W.drew))
  have pSn := fcells_3 HX.out
  go_region_held3 (fun w' => w'.cell? ⟨w.heap.size, 0, none⟩ = some (.bool (zneg q.num)) ∧ w'.cell? ⟨w.heap.size, 1, none⟩ = some (.slice a1 n1 c1) ∧ w'.cell? ⟨w.heap.size, 2, none⟩ = some (.slice b1 m1 d1)) (exact pSn)
    (first
    | (go_at_call 57; (first
      | (refine (natSaid.of 1 _ (by omega)).mono ?_; rintro e wp1 ⟨a3, n3, c3, rfl, h3, b⟩; replace HB := Lib.hid (below_then HB.out b); replace HX := Lib.hid (blk_later HX.out b); replace T1 := Lib.hid (T1.out.later b); have R3 := Lib.hid h3; have ln3 := h3.len; clear h3; clear b; clear pSn; have pSn := fcells_3 HX.out; have pM1 := True.intro)))
    | (go_at_call 84; (first
      | (have pm1 := pM1; refine (natSaid.cmp b1 m1 d1 _ a3 n3 c3 _ _ T1.out R3.out (by omega) (by omega)).mono ?_; rintro e wp2 ⟨rfl, b⟩; replace HB := Lib.hid (below_then HB.out b); replace HX := Lib.hid (blk_later HX.out b); replace T1 := Lib.hid (T1.out.later b); clear R3; rw [HCC.out]; clear b; clear pSn; have pSn := fcells_3 HX.out; clear pM1 pm1; have pM2 := True.intro))))
  cases d with
  | true =>
    have HF : Hid (ftxt q = ztxt q.num) := Lib.hid (by unfold ftxt; rw [if_pos (of_decide_eq_true HD.out.symm), List.append_nil])
    go_wp2
    go_ret
    exact ⟨by rw [HF.out]; rfl, HB.out⟩
  | false =>
    have HF : Hid (bs (ztxt q.num) ++ bs [47] ++ bs (txt q.den) = bs (ftxt q)) := Lib.hid (by rw [bs_append, bs_append]; unfold ftxt; rw [if_neg (of_decide_eq_false HD.out.symm), List.append_assoc]; rfl)
    obtain ⟨k0, k1, k2⟩ := fcells_3 HX.out
    go_wp2_with fail
    refine (digits_text b1 m1 d1 _ _ T1.out (by omega) (Lib.hid (hT.out.later HB.out))).mono ?_
    rintro e w9 ⟨rfl, b9⟩
    rw [HV.out]
    go_wp2
    go_ret
    exact ⟨by rw [← HF.out]; rfl, below_then HB.out b9⟩
end Go.Proofs.YtpjkhbfglgmnmaaGreatDoor

/-
  Plain mathematics: what looking for a / or a point in any bytes tells, however the bytes are read as letters. Nothing of the program.
-/
namespace Go.Proofs.YtpjkhbfglgmnmaaGreatDoor

end Go.Proofs.YtpjkhbfglgmnmaaGreatDoor

/-
  Plain mathematics: how long what a text says is; parts of a text. Nothing of the program.
-/
namespace Go.Proofs.YtpjkhbfglgmnmaaGreatDoor

end Go.Proofs.YtpjkhbfglgmnmaaGreatDoor

/-
  What strings.Repeat makes of a nought, and what strings.HasPrefix tells: the library's own text, walked.
-/
namespace Go.Proofs.YtpjkhbfglgmnmaaGreatDoor
open Go.RowKit

end Go.Proofs.YtpjkhbfglgmnmaaGreatDoor

/-
  The contract of package prod (layer 4) at this seat: Pow.
-/
namespace Go.Proofs.YtpjkhbfglgmnmaaGreatDoor
open Go.RowKit

end Go.Proofs.YtpjkhbfglgmnmaaGreatDoor

/-
  Package figure at this seat: power, pointed.
-/
namespace Go.Proofs.YtpjkhbfglgmnmaaGreatDoor
open Go.RowKit

end Go.Proofs.YtpjkhbfglgmnmaaGreatDoor

/-
  Plain mathematics: what a fraction is rounded to is away by half a place at most; how many digits that has. Nothing of the program.
-/
namespace Go.Proofs.YtpjkhbfglgmnmaaGreatDoor

end Go.Proofs.YtpjkhbfglgmnmaaGreatDoor

/-
  Plain mathematics: what a fraction is rounded to, reckoned of it as it stands; how long that is. Of no program.
-/
namespace Go.Proofs.YtpjkhbfglgmnmaaGreatDoor
open Go.RowKit

end Go.Proofs.YtpjkhbfglgmnmaaGreatDoor

/-
  Package figure at this seat: nearest, Round.
-/
namespace Go.Proofs.YtpjkhbfglgmnmaaGreatDoor
open Go.RowKit

end Go.Proofs.YtpjkhbfglgmnmaaGreatDoor

/-
  What some boxes hold, cell by cell: those of faults, too. Of no program.
-/
namespace Go.Proofs.YtpjkhbfglgmnmaaGreatDoor
open Go.RowKit

end Go.Proofs.YtpjkhbfglgmnmaaGreatDoor

/-
  Package figure at this seat: readWhole.
-/
namespace Go.Proofs.YtpjkhbfglgmnmaaGreatDoor
open Go.RowKit

end Go.Proofs.YtpjkhbfglgmnmaaGreatDoor

/-
  What strings.IndexAny tells of any bytes, a / and a point looked for: the library's own text, walked; for more than 8 bytes out of the shelf's contracts.
-/
namespace Go.Proofs.YtpjkhbfglgmnmaaGreatDoor
open Go.RowKit

end Go.Proofs.YtpjkhbfglgmnmaaGreatDoor

/-
  What strings.IndexAny tells of any bytes, a / and a point looked for: letters that aren't plain.
-/
namespace Go.Proofs.YtpjkhbfglgmnmaaGreatDoor
open Go.RowKit

end Go.Proofs.YtpjkhbfglgmnmaaGreatDoor

/-
  What strings.IndexAny tells of any bytes, a / and a point looked for.
-/
namespace Go.Proofs.YtpjkhbfglgmnmaaGreatDoor
open Go.RowKit

end Go.Proofs.YtpjkhbfglgmnmaaGreatDoor

/-
  Package figure at this seat: Read, way by way.
-/
namespace Go.Proofs.YtpjkhbfglgmnmaaGreatDoor
open Go.RowKit

end Go.Proofs.YtpjkhbfglgmnmaaGreatDoor

/-
  Package figure at this seat: Read, a / in it.
-/
namespace Go.Proofs.YtpjkhbfglgmnmaaGreatDoor
open Go.RowKit

end Go.Proofs.YtpjkhbfglgmnmaaGreatDoor

/-
  Package figure at this seat: Read, a point in it.
-/
namespace Go.Proofs.YtpjkhbfglgmnmaaGreatDoor
open Go.RowKit

end Go.Proofs.YtpjkhbfglgmnmaaGreatDoor

/-
  What package figure's functions owe, proved.
-/
namespace Go.Proofs.YtpjkhbfglgmnmaaGreatDoor
open Go.RowKit

theorem figureSaid : FigureSaid where
  text := fun v q w h hT => by
    obtain ⟨neg, a, n, cap, la, b, m, cap', lb, rfl, ha, hb, hn, hm, rfl⟩ := h
    exact figure_text neg a n cap la b m cap' lb w ha hb (by omega) (by omega) hT
end Go.Proofs.YtpjkhbfglgmnmaaGreatDoor

/-
  Plain mathematics: rows of fractions: sums, products, norms; rows as texts, and what a text of them says. Nothing of the program.
-/
namespace Go.Proofs.YtpjkhbfglgmnmaaGreatDoor

/-- The sum, place by place; each so many times; the sum of the products; the norm. -/
def radd : List Rat → List Rat → List Rat
  | x :: l, y :: m => (x + y) :: radd l m
  | _, _ => []
def rscale (c : Rat) (l : List Rat) : List Rat := l.map (fun x => c * x)
def rdot : List Rat → List Rat → Rat
  | x :: l, y :: m => x * y + rdot l m
  | _, _ => 0
theorem radd_length : ∀ (l m : List Rat), l.length = m.length → (radd l m).length = l.length
  | [], [], _ => rfl
  | x :: l, y :: m, h => by
    have := radd_length l m (by simpa using h)
    simp only [radd, List.length_cons, this]
  | [], y :: m, h => by simp at h
  | x :: l, [], h => by simp at h
theorem rscale_length (c : Rat) (l : List Rat) : (rscale c l).length = l.length := List.length_map _
theorem mem_radd : ∀ {l m : List Rat} {z : Rat}, z ∈ radd l m → ∃ x ∈ l, ∃ y ∈ m, z = x + y
  | [], [], _, h => by simp [radd] at h
  | [], _ :: _, _, h => by simp [radd] at h
  | _ :: _, [], _, h => by simp [radd] at h
  | x :: l, y :: m, z, h => by
    rw [radd] at h
    rcases List.mem_cons.1 h with rfl | h
    · exact ⟨x, List.mem_cons_self .., y, List.mem_cons_self .., rfl⟩
    · obtain ⟨u, hu, v, hv, e⟩ := mem_radd h
      exact ⟨u, List.mem_cons_of_mem _ hu, v, List.mem_cons_of_mem _ hv, e⟩
/-- The place of the first comma; how long the text is, if there is none. -/
def commaAt : List UInt8 → Nat
  | [] => 0
  | x :: r => if x.toNat = 44 then 0 else commaAt r + 1
/-- The pieces between the commas: one more than there are commas. -/
def pieces (l : List UInt8) : List (List UInt8) :=
  if _h : commaAt l < l.length then l.take (commaAt l) :: pieces (l.drop (commaAt l + 1)) else [l]
termination_by l.length
decreasing_by rw [List.length_drop]; omega
/-- The kind and the place of the first fault among the pieces; the fractions, if there is none. -/
def kindOf : List (List UInt8) → Int
  | [] => 0
  | p :: r => if figKind p ≠ 0 then figKind p else kindOf r
def placeOf (off : Nat) : List (List UInt8) → Int
  | [] => 0
  | p :: r => if figKind p ≠ 0 then (off : Int) + figPlace p else placeOf (off + p.length + 1) r
def rowKind (l : List UInt8) : Int := if l = [] then 0 else kindOf (pieces l)
def rowPlace (l : List UInt8) : Int := if l = [] then 0 else placeOf 0 (pieces l)
def rowVals (l : List UInt8) : List Rat := if l = [] ∨ kindOf (pieces l) ≠ 0 then [] else (pieces l).map figVal
/-- A row as a text. -/
def rowTxt : List Rat → List UInt8
  | [] => []
  | [q] => ftxt q
  | q :: r => ftxt q ++ 44 :: rowTxt r
end Go.Proofs.YtpjkhbfglgmnmaaGreatDoor
