/-
  Several texts of this claim as one, group 9.
-/
import Derived.Test.YtipcgehcineblaaG8
import Derived.Deep.RegionHeld3
import Derived.BigQuiet
import Derived.Test.YtipcgehcineblaaG3
import Derived.Test.YtipcgehcineblaaG7
/-
  Package frac at this seat: Cmp, Same.
-/
namespace Go.Proofs.Ytipcgehcineblaa
open Go.RowKit

set_option maxRecDepth 4096 in
set_option maxHeartbeats 4000000 in
theorem frac_cmp (na : Bool) (a : Option Addr) (n cap : Nat) (la : List Nat) (b : Option Addr) (m cap' : Nat) (lb : List Nat) (nb : Bool) (a' : Option Addr) (n' c' : Nat) (la' : List Nat) (b' : Option Addr) (m' d' : Nat) (lb' : List Nat) (w : World) (ha : Wd w a n cap la) (hb : Wd w b m cap' lb) (ha' : Wd w a' n' c' la') (hb' : Wd w b' m' d' lb') (hn : n ≤ 41943040000) (hm : m ≤ 41943040000) (hn' : n' ≤ 41943040000) (hm' : m' ≤ 41943040000) :
    Calls Try.prog 26 #[frV na a n cap b m cap', frV nb a' n' c' b' m' d'] w (Gives (.int .i64 (sgn (qval na (val la) (val lb) - qval nb (val la') (val lb')).num)) w) := by
  have HB := Lib.hid (below_then (below_alloc w (.cells #[.bool na, .slice a n cap, .slice b m cap'] 34)) (below_alloc _ (.cells #[.bool nb, .slice a' n' c', .slice b' m' d'] 34)))
  have HA := Lib.hid (ha.later HB.out)
  have HC := Lib.hid (hb.later HB.out)
  have HA' := Lib.hid (ha'.later HB.out)
  have HC' := Lib.hid (hb'.later HB.out)
  obtain ⟨hx1, hx2⟩ := boxes_at w ((w.alloc (.cells #[.bool na, .slice a n cap, .slice b m cap'] 34)).alloc (.cells #[.bool nb, .slice a' n' c', .slice b' m' d'] 34)) #[.bool na, .slice a n cap, .slice b m cap'] #[.bool nb, .slice a' n' c', .slice b' m' d'] 34 34 (Below.refl _ _)
  have HX := Lib.hid hx1
  have HY := Lib.hid hx2
  have ta := ha.trim_le
  have tb := hb.trim_le
  have ta' := ha'.trim_le
  have tb' := hb'.trim_le
  clear ha hb ha' hb' hx1 hx2
  have zl1 := zlen_mul (zval na (val la)) ((val lb' : Nat) : Int)
  have zl2 := zlen_mul (zval nb (val la')) ((val lb : Nat) : Int)
  rw [zval_abs, Int.natAbs_natCast] at zl1 zl2
  have HF : Hid (sgn (qval na (val la) (val lb)).num ≠ sgn (qval nb (val la') (val lb')).num → sgn (sgn (qval na (val la) (val lb)).num - sgn (qval nb (val la') (val lb')).num) = sgn (qval na (val la) (val lb) - qval nb (val la') (val lb')).num) := Lib.hid fc_qcmp_far
  have HE0 : Hid (sgn (qval na (val la) (val lb)).num = sgn (qval nb (val la') (val lb')).num → sgn (qval na (val la) (val lb)).num = 0 → sgn (qval na (val la) (val lb) - qval nb (val la') (val lb')).num = 0) := Lib.hid (fun h h0 => by
    rw [fc_qsign_zero.1 h0, fc_qsign_zero.1 (h.symm.trans h0), Rat.sub_self]; rfl)
  have HN : Hid (sgn (qval na (val la) (val lb)).num = sgn (qval nb (val la') (val lb')).num → sgn (qval na (val la) (val lb)).num ≠ 0 → sgn (zval na (val la) * ((val lb' : Nat) : Int) - zval nb (val la') * ((val lb : Nat) : Int)) = sgn (qval na (val la) (val lb) - qval nb (val la') (val lb')).num) := Lib.hid (fun h h0 => by
    refine fc_qcmp_near (fun e => h0 ?_) (fun e => h0 ?_)
    · rw [qval_none na (.inl e)]; rfl
    · rw [h, qval_none nb (.inl e)]; rfl)
  have hra := sgn_range (qval na (val la) (val lb)).num
  have hrb := sgn_range (qval nb (val la') (val lb')).num
  generalize hz : sgn (qval na (val la) (val lb) - qval nb (val la') (val lb')).num = z at *
  generalize hx : sgn (qval na (val la) (val lb)).num = x at *
  generalize hy : sgn (qval nb (val la') (val lb')).num = y at *
  have HSA := Lib.hid hx
  have HSB := Lib.hid hy
  clear hx hy hz
  go_enter Try.func26, Try.ntmps26
  unfold frV
  go_wp2
  generalize ((w.alloc (.cells #[.bool na, .slice a n cap, .slice b m cap'] 34)).alloc (.cells #[.bool nb, .slice a' n' c', .slice b' m' d'] 34)) = W at *
  replace HB := Lib.hid (below_then HB.out ((Below.refl _ _).drew : Below W.heap.size W W.drew))
  replace HX : Hid (W.drew.heap[w.heap.size]? = _) := Lib.hid HX.out
  replace HY : Hid (W.drew.heap[w.heap.size + 1]? = _) := Lib.hid HY.out
  replace HA := Lib.hid (HA.out.later ((Below.refl _ _).drew : Below W.heap.size W W.drew))
  replace HC := Lib.hid (HC.out.later ((Below.refl _ _).drew : Below W.heap.size W W.drew))
  replace HA' := Lib.hid (HA'.out.later ((Below.refl _ _).drew : Below W.heap.size W W.drew))
  replace HC' := Lib.hid (HC'.out.later ((Below.refl _ _).drew : Below W.heap.size W W.drew))
  have pSn := fcells_3_3 HX.out HY.out
  go_region_held3 (fun w' => w'.cell? ⟨w.heap.size, 0, none⟩ = some (.bool na) ∧ w'.cell? ⟨w.heap.size, 1, none⟩ = some (.slice a n cap) ∧ w'.cell? ⟨w.heap.size, 2, none⟩ = some (.slice b m cap') ∧ w'.cell? ⟨w.heap.size + 1, 0, none⟩ = some (.bool nb) ∧ w'.cell? ⟨w.heap.size + 1, 1, none⟩ = some (.slice a' n' c') ∧ w'.cell? ⟨w.heap.size + 1, 2, none⟩ = some (.slice b' m' d')) (exact pSn)
    (first
    | (go_at_call 32; (first
      | (have pm1 := pM1; refine (frac_sign nb a' n' c' la' b' m' d' lb' _ HA'.out HC'.out (by omega) (by omega)).mono ?_; rintro e wp2 ⟨rfl, b⟩; replace HB := Lib.hid (below_then HB.out b); replace HX := Lib.hid (blk_later HX.out b); replace HY := Lib.hid (blk_later HY.out b); replace HA := Lib.hid (HA.out.later b); replace HC := Lib.hid (HC.out.later b); replace HA' := Lib.hid (HA'.out.later b); replace HC' := Lib.hid (HC'.out.later b); rw [HSB.out]; clear b; clear pSn; have pSn := fcells_3_3 HX.out HY.out; clear pM1 pm1; have pM2 := True.intro)
      | (refine (frac_sign na a n cap la b m cap' lb _ HA.out HC.out (by omega) (by omega)).mono ?_; rintro e wp1 ⟨rfl, b⟩; replace HB := Lib.hid (below_then HB.out b); replace HX := Lib.hid (blk_later HX.out b); replace HY := Lib.hid (blk_later HY.out b); replace HA := Lib.hid (HA.out.later b); replace HC := Lib.hid (HC.out.later b); replace HA' := Lib.hid (HA'.out.later b); replace HC' := Lib.hid (HC'.out.later b); rw [HSA.out]; clear b; clear pSn; have pSn := fcells_3_3 HX.out HY.out; have pM1 := True.intro))))
  clear HSA HSB pSn pM2
  by_cases hxy : x = y
  · by_cases hx0 : x = 0
    · have HZ : Hid (z = 0) := Lib.hid (HE0.out hxy hx0)
      have HS : Hid (sgn ((0 : Int) - 0) = 0) := Lib.hid rfl
      clear HF HE0 HN zl1 zl2
      obtain rfl : y = 0 := by omega
      obtain rfl : x = 0 := hx0
      clear hxy hra hrb
      go_wp2_with fail
      refine (cmp_Compare 0 0 _).mono ?_
      rintro e w' ⟨rfl, rfl⟩
      rw [HS.out]
      go_wp2
      go_ret
      exact ⟨by rw [HZ.out]; rfl, HB.out⟩
    · have hq0 : (x == 0) = false := by simp [hx0]
      have HZ := Lib.hid (HN.out hxy hx0)
      clear HF HE0 HN hx0
      subst hxy
      obtain ⟨uk0, uk1, uk2, uk3, uk4, uk5⟩ := fcells_3_3 HX.out HY.out
      go_wp2
      clear uk0 uk1 uk2 uk3 uk4 uk5
      replace HB := Lib.hid (below_then HB.out ((Below.refl _ _).drew : Below wp2.heap.size wp2 wp2.drew))
      replace HX : Hid (wp2.drew.heap[w.heap.size]? = _) := Lib.hid HX.out
      replace HY : Hid (wp2.drew.heap[w.heap.size + 1]? = _) := Lib.hid HY.out
      replace HA := Lib.hid (HA.out.later ((Below.refl _ _).drew : Below wp2.heap.size wp2 wp2.drew))
      replace HC := Lib.hid (HC.out.later ((Below.refl _ _).drew : Below wp2.heap.size wp2 wp2.drew))
      replace HA' := Lib.hid (HA'.out.later ((Below.refl _ _).drew : Below wp2.heap.size wp2 wp2.drew))
      replace HC' := Lib.hid (HC'.out.later ((Below.refl _ _).drew : Below wp2.heap.size wp2 wp2.drew))
      have rSn := fcells_3_3 HX.out HY.out
      go_region_held3 (fun w' => w'.cell? ⟨w.heap.size, 0, none⟩ = some (.bool na) ∧ w'.cell? ⟨w.heap.size, 1, none⟩ = some (.slice a n cap) ∧ w'.cell? ⟨w.heap.size, 2, none⟩ = some (.slice b m cap') ∧ w'.cell? ⟨w.heap.size + 1, 0, none⟩ = some (.bool nb) ∧ w'.cell? ⟨w.heap.size + 1, 1, none⟩ = some (.slice a' n' c') ∧ w'.cell? ⟨w.heap.size + 1, 2, none⟩ = some (.slice b' m' d')) (exact rSn)
        (first
        | (go_at_call 35; (first
          | (have rm1 := rM1; refine (frac_times nb a' n' c' la' b m cap' lb _ HA'.out HC.out (by omega) (by omega)).mono ?_; rintro e wr2 ⟨a2, n2, c2, rfl, h2, b⟩; replace HB := Lib.hid (below_then HB.out b); replace HX := Lib.hid (blk_later HX.out b); replace HY := Lib.hid (blk_later HY.out b); replace HA := Lib.hid (HA.out.later b); replace HC := Lib.hid (HC.out.later b); replace HA' := Lib.hid (HA'.out.later b); replace HC' := Lib.hid (HC'.out.later b); replace R1 := Lib.hid (R1.out.later b); have R2 := Lib.hid h2; have ln2 := h2.len; clear h2; unfold whV; clear b; clear rSn; have rSn := fcells_3_3 HX.out HY.out; clear rM1 rm1; have rM2 := True.intro)
          | (refine (frac_times na a n cap la b' m' d' lb' _ HA.out HC'.out (by omega) (by omega)).mono ?_; rintro e wr1 ⟨a1, n1, c1, rfl, h1, b⟩; replace HB := Lib.hid (below_then HB.out b); replace HX := Lib.hid (blk_later HX.out b); replace HY := Lib.hid (blk_later HY.out b); replace HA := Lib.hid (HA.out.later b); replace HC := Lib.hid (HC.out.later b); replace HA' := Lib.hid (HA'.out.later b); replace HC' := Lib.hid (HC'.out.later b); have R1 := Lib.hid h1; have ln1 := h1.len; clear h1; unfold whV; clear b; clear rSn; have rSn := fcells_3_3 HX.out HY.out; have rM1 := True.intro)))
        | (go_at_call 47; (first
          | (have rm2 := rM2; refine (whole_cmp _ a1 n1 c1 _ _ a2 n2 c2 _ _ R1.out R2.out (by omega) (by omega)).mono ?_; rintro e wr3 ⟨rfl, b⟩; replace HB := Lib.hid (below_then HB.out b); replace HX := Lib.hid (blk_later HX.out b); replace HY := Lib.hid (blk_later HY.out b); replace HA := Lib.hid (HA.out.later b); replace HC := Lib.hid (HC.out.later b); replace HA' := Lib.hid (HA'.out.later b); replace HC' := Lib.hid (HC'.out.later b); clear R1; clear R2; rw [zval_dg, zval_dg, HZ.out]; clear b; clear rSn; have rSn := fcells_3_3 HX.out HY.out; clear rM2 rm2; have rM3 := True.intro))))
      go_wp2
      go_ret
      exact ⟨rfl, HB.out⟩
  · have hq : (x == y) = false := by simp [hxy]
    have HZ := Lib.hid (HF.out hxy)
    clear HF HE0 HN hxy zl1 zl2
    go_wp2_with fail
    refine (cmp_Compare x y _).mono ?_
    rintro e w' ⟨rfl, rfl⟩
    rw [HZ.out]
    go_wp2
    go_ret
    exact ⟨rfl, HB.out⟩
set_option maxRecDepth 4096 in
set_option maxHeartbeats 4000000 in
theorem frac_same (na : Bool) (a : Option Addr) (n cap : Nat) (la : List Nat) (b : Option Addr) (m cap' : Nat) (lb : List Nat) (nb : Bool) (a' : Option Addr) (n' c' : Nat) (la' : List Nat) (b' : Option Addr) (m' d' : Nat) (lb' : List Nat) (w : World) (ha : Wd w a n cap la) (hb : Wd w b m cap' lb) (ha' : Wd w a' n' c' la') (hb' : Wd w b' m' d' lb') (hn : n ≤ 41943040000) (hm : m ≤ 41943040000) (hn' : n' ≤ 41943040000) (hm' : m' ≤ 41943040000) :
    Calls Try.prog 11 #[frV na a n cap b m cap', frV nb a' n' c' b' m' d'] w (Gives (.bool (decide (qval na (val la) (val lb) = qval nb (val la') (val lb')))) w) := by
  have HB := Lib.hid (below_then (below_alloc w (.cells #[.bool na, .slice a n cap, .slice b m cap'] 34)) (below_alloc _ (.cells #[.bool nb, .slice a' n' c', .slice b' m' d'] 34)))
  have HA := Lib.hid (ha.later HB.out)
  have HC := Lib.hid (hb.later HB.out)
  have HA' := Lib.hid (ha'.later HB.out)
  have HC' := Lib.hid (hb'.later HB.out)
  obtain ⟨hx1, hx2⟩ := boxes_at w ((w.alloc (.cells #[.bool na, .slice a n cap, .slice b m cap'] 34)).alloc (.cells #[.bool nb, .slice a' n' c', .slice b' m' d'] 34)) #[.bool na, .slice a n cap, .slice b m cap'] #[.bool nb, .slice a' n' c', .slice b' m' d'] 34 34 (Below.refl _ _)
  have HX := Lib.hid hx1
  have HY := Lib.hid hx2
  have ta := ha.trim_le
  have tb := hb.trim_le
  have ta' := ha'.trim_le
  have tb' := hb'.trim_le
  clear ha hb ha' hb' hx1 hx2
  have HE : Hid ((sgn (qval na (val la) (val lb) - qval nb (val la') (val lb')).num == 0) = decide (qval na (val la) (val lb) = qval nb (val la') (val lb'))) := Lib.hid (by
    by_cases h : qval na (val la) (val lb) = qval nb (val la') (val lb')
    · rw [decide_eq_true h, h, Rat.sub_self]; rfl
    · rw [decide_eq_false h, beq_eq_false_iff_ne]
      exact fun e => h (by
        have h1 := fc_qsign_zero.1 e
        rw [Rat.sub_eq_add_neg] at h1
        have h2 := congrArg (· + qval nb (val la') (val lb')) h1
        simp only [Rat.add_assoc, Rat.neg_add_cancel, Rat.add_zero, Rat.zero_add] at h2
        exact h2))
  go_enter Try.func11, Try.ntmps11
  unfold frV
  obtain ⟨vk0, vk1, vk2, vk3, vk4, vk5⟩ := fcells_3_3 HX.out HY.out
  go_wp2_with fail
  refine (frac_cmp na a n cap la b m cap' lb nb a' n' c' la' b' m' d' lb' _ HA.out HC.out HA'.out HC'.out hn hm hn' hm').mono ?_
  rintro e wv1 ⟨rfl, b⟩
  clear vk0 vk1 vk2 vk3 vk4 vk5
  replace HB := Lib.hid (below_then HB.out b)
  replace HX := Lib.hid (blk_later HX.out b)
  replace HY := Lib.hid (blk_later HY.out b)
  replace HA := Lib.hid (HA.out.later b)
  replace HC := Lib.hid (HC.out.later b)
  replace HA' := Lib.hid (HA'.out.later b)
  replace HC' := Lib.hid (HC'.out.later b)
  clear b
  clear HX HY HA HC HA' HC'
  generalize decide (qval na (val la) (val lb) = qval nb (val la') (val lb')) = s at *
  generalize sgn (qval na (val la) (val lb) - qval nb (val la') (val lb')).num = z at *
  go_wp2
  go_ret
  exact ⟨by rw [← HE.out]; rfl, HB.out⟩
end Go.Proofs.Ytipcgehcineblaa

/-
  Package frac at this seat: Add, Sub.
-/
namespace Go.Proofs.Ytipcgehcineblaa
open Go.RowKit

set_option maxRecDepth 4096 in
set_option maxHeartbeats 4000000 in
theorem frac_add (na : Bool) (a : Option Addr) (n cap : Nat) (la : List Nat) (b : Option Addr) (m cap' : Nat) (lb : List Nat) (nb : Bool) (a' : Option Addr) (n' c' : Nat) (la' : List Nat) (b' : Option Addr) (m' d' : Nat) (lb' : List Nat) (w : World) (ha : Wd w a n cap la) (hb : Wd w b m cap' lb) (ha' : Wd w a' n' c' la') (hb' : Wd w b' m' d' lb') (hn : n ≤ 9437184000) (hm : m ≤ 9437184000) (hn' : n' ≤ 9437184000) (hm' : m' ≤ 9437184000) :
    Calls Try.prog 15 #[frV na a n cap b m cap', frV nb a' n' c' b' m' d'] w (LstQ (qval na (val la) (val lb) + qval nb (val la') (val lb')) w) := by
  have HB := Lib.hid (below_then (below_then (below_alloc w (.cells #[.bool na, .slice a n cap, .slice b m cap'] 34)) (below_alloc _ (.cells #[.bool nb, .slice a' n' c', .slice b' m' d'] 34))) (below_alloc _ (.cells #[.bool false, .slice none 0 0, .slice none 0 0] 34)))
  have HA := Lib.hid (ha.later HB.out)
  have HC := Lib.hid (hb.later HB.out)
  have HA' := Lib.hid (ha'.later HB.out)
  have HC' := Lib.hid (hb'.later HB.out)
  obtain ⟨hx1, hx2, hx3⟩ := boxes3_at9 w #[.bool na, .slice a n cap, .slice b m cap'] #[.bool nb, .slice a' n' c', .slice b' m' d'] #[.bool false, .slice none 0 0, .slice none 0 0] 34 34 34
  have HX := Lib.hid hx1
  have HY := Lib.hid hx2
  have HR := Lib.hid hx3
  have ta := ha.trim_le
  have tb := hb.trim_le
  have ta' := ha'.trim_le
  have tb' := hb'.trim_le
  clear ha hb ha' hb' hx1 hx2 hx3
  have H0A : Hid (sgn (qval na (val la) (val lb)).num = 0 → qval nb (val la') (val lb') = qval na (val la) (val lb) + qval nb (val la') (val lb')) := Lib.hid (fun h => by rw [fc_qsign_zero.1 h, Rat.zero_add])
  have H0B : Hid (sgn (qval nb (val la') (val lb')).num = 0 → qval na (val la) (val lb) = qval na (val la) (val lb) + qval nb (val la') (val lb')) := Lib.hid (fun h => by rw [fc_qsign_zero.1 h, Rat.add_zero])
  have H1A : Hid (sgn (qval na (val la) (val lb)).num ≠ 0 → val lb ≠ 0) := Lib.hid (fun h e => h (by rw [qval_none na (.inl e)]; rfl))
  have H1B : Hid (sgn (qval nb (val la') (val lb')).num ≠ 0 → val lb' ≠ 0) := Lib.hid (fun h e => h (by rw [qval_none nb (.inl e)]; rfl))
  obtain ⟨X, hX⟩ : ∃ X, val lb / Nat.gcd (val lb) (val lb') = X := ⟨_, rfl⟩
  obtain ⟨Y, hY⟩ : ∃ Y, val lb' / Nat.gcd (val lb) (val lb') = Y := ⟨_, rfl⟩
  have lX : (dg X).length ≤ 9437184000 := by rw [← hX]; exact Nat.le_trans (dg_length_mono (Nat.div_le_self _ _)) (by omega)
  have lY : (dg Y).length ≤ 9437184000 := by rw [← hY]; exact Nat.le_trans (dg_length_mono (Nat.div_le_self _ _)) (by omega)
  obtain ⟨s1, hs1⟩ : ∃ s1, zval na (val la) * (Y : Int) = s1 := ⟨_, rfl⟩
  obtain ⟨s2, hs2⟩ : ∃ s2, zval nb (val la') * (X : Int) = s2 := ⟨_, rfl⟩
  obtain ⟨D, hD⟩ : ∃ D, val lb * Y = D := ⟨_, rfl⟩
  have zl1 := zlen_mul (zval na (val la)) (Y : Int)
  have zl2 := zlen_mul (zval nb (val la')) (X : Int)
  have zl3 := dg_mul_length (val lb) Y
  rw [zval_abs, Int.natAbs_natCast, hs1] at zl1
  rw [zval_abs, Int.natAbs_natCast, hs2] at zl2
  rw [hD] at zl3
  have zl4 := zlen_add s1 s2
  have HS1 : Hid (zval na (val la) * ((val (dg Y) : Nat) : Int) = s1) := Lib.hid (by rw [val_dg]; exact hs1)
  have HS2 : Hid (zval nb (val la') * ((val (dg X) : Nat) : Int) = s2) := Lib.hid (by rw [val_dg]; exact hs2)
  have HD : Hid (val lb * val (dg Y) = D) := Lib.hid (by rw [val_dg]; exact hD)
  have HZ : Hid (val lb ≠ 0 → val lb' ≠ 0 → qval (zneg (s1 + s2)) (val (dg (s1 + s2).natAbs)) (val (dg D)) = qval na (val la) (val lb) + qval nb (val la') (val lb')) := Lib.hid (fun h h' => by
    rw [val_dg, val_dg, fc_qval_of, ← hs1, ← hs2, ← hD, ← hX, ← hY]
    exact fc_qval_add na nb _ _ _ _ h h')
  have EX := Lib.hid hX
  have EY := Lib.hid hY
  clear hX hY hs1 hs2 hD
  generalize hq : qval na (val la) (val lb) + qval nb (val la') (val lb') = q at *
  generalize hp : qval na (val la) (val lb) = p at *
  generalize hr : qval nb (val la') (val lb') = r at *
  have HP := Lib.hid hp
  have HR9 := Lib.hid hr
  clear hp hr hq
  go_enter Try.func15, Try.ntmps15
  unfold frV
  obtain ⟨vk0, vk1, vk2, vk3, vk4, vk5, vk6, vk7, vk8⟩ := fcells_3_3_3 HX.out HY.out HR.out
  go_wp2_with fail
  refine (frac_sign na a n cap la b m cap' lb _ HA.out HC.out (by omega) (by omega)).mono ?_
  rintro e wv1 ⟨rfl, b⟩
  clear vk0 vk1 vk2 vk3 vk4 vk5 vk6 vk7 vk8
  replace HB := Lib.hid (below_then HB.out b)
  replace HX := Lib.hid (blk_later HX.out b)
  replace HY := Lib.hid (blk_later HY.out b)
  replace HR := Lib.hid (blk_later HR.out b)
  replace HA := Lib.hid (HA.out.later b)
  replace HC := Lib.hid (HC.out.later b)
  replace HA' := Lib.hid (HA'.out.later b)
  replace HC' := Lib.hid (HC'.out.later b)
  clear b
  rw [HP.out]
  generalize sgn p.num = x at *
  by_cases hx0 : x = 0
  · have hq : (x == 0) = true := by simp [hx0]
    have HQ0 : Hid (qval nb (val la') (val lb') = q) := Lib.hid (HR9.out.trans (H0A.out hx0))
    clear hx0 H0A H0B H1A H1B HZ HA HC zl1 zl2 zl3 zl4 lX lY
    obtain ⟨uk0, uk1, uk2, uk3, uk4, uk5, uk6, uk7, uk8⟩ := fcells_3_3_3 HX.out HY.out HR.out
    go_wp2_with fail
    refine (frac_norm nb a' n' c' la' b' m' d' lb' _ HA'.out HC'.out (by omega) (by omega)).mono ?_
    rintro e wu1 ⟨a1, n1, c1, b1, m1, d1, rfl, h1, g1, b⟩
    clear uk0 uk1 uk2 uk3 uk4 uk5 uk6 uk7 uk8
    replace HB := Lib.hid (below_then HB.out b)
    replace HX := Lib.hid (blk_later HX.out b)
    replace HY := Lib.hid (blk_later HY.out b)
    replace HR := Lib.hid (blk_later HR.out b)
    clear HA'
    clear HC'
    clear b
    rw [HQ0.out] at h1 g1 ⊢
    have R1 := Lib.hid h1
    have T1 := Lib.hid g1
    clear h1 g1
    unfold frV
    have q0 := blk_cell HR.out 0
    have q1 := blk_cell HR.out 1
    have q2 := blk_cell HR.out 2
    simp only [List.getElem?_toArray, List.getElem?_cons_zero, List.getElem?_cons_succ] at q0 q1 q2
    have f0 := blk_free HR.out 0
    have f1 := blk_free HR.out 1
    have f2 := blk_free HR.out 2
    replace HX := Lib.hid (blk_far3 HX.out (show w.heap.size ≠ w.heap.size + 1 + 1 by omega) (.bool (zneg q.num)) (.slice a1 n1 c1) (.slice b1 m1 d1))
    replace HY := Lib.hid (blk_far3 HY.out (show w.heap.size + 1 ≠ w.heap.size + 1 + 1 by omega) (.bool (zneg q.num)) (.slice a1 n1 c1) (.slice b1 m1 d1))
    replace R1 := Lib.hid (R1.out.stored3 HR.out ((zneg q.num)) a1 n1 c1 (.slice b1 m1 d1))
    replace T1 := Lib.hid (T1.out.stored3 HR.out ((zneg q.num)) a1 n1 c1 (.slice b1 m1 d1))
    replace HB := Lib.hid (below_set3 HB.out (show w.heap.size ≤ w.heap.size + 1 + 1 by omega) (.bool (zneg q.num)) (.slice a1 n1 c1) (.slice b1 m1 d1))
    replace HR := Lib.hid (blk_set3 HR.out (.bool (zneg q.num)) (.slice a1 n1 c1) (.slice b1 m1 d1))
    go_wp2
    refine bodyPost_ret (results_cell_row Try.results15 _ _ (w.heap.size + 1 + 1) 34 #[.bool (zneg q.num), .slice a1 n1 c1, .slice b1 m1 d1] (0, 0) _ rfl HR.out Try.underlying34 rfl (by kernel_rfl)) rfl ?_
    exact ⟨a1, n1, c1, b1, m1, d1, rfl, R1.out, T1.out, HB.out⟩
  · have hq : (x == 0) = false := by simp [hx0]
    have HV := Lib.hid (H1A.out hx0)
    clear hx0 H0A H1A
    obtain ⟨uk0, uk1, uk2, uk3, uk4, uk5, uk6, uk7, uk8⟩ := fcells_3_3_3 HX.out HY.out HR.out
    go_wp2_with fail
    refine (frac_sign nb a' n' c' la' b' m' d' lb' _ HA'.out HC'.out (by omega) (by omega)).mono ?_
    rintro e wu1 ⟨rfl, b⟩
    clear uk0 uk1 uk2 uk3 uk4 uk5 uk6 uk7 uk8
    replace HB := Lib.hid (below_then HB.out b)
    replace HX := Lib.hid (blk_later HX.out b)
    replace HY := Lib.hid (blk_later HY.out b)
    replace HR := Lib.hid (blk_later HR.out b)
    replace HA := Lib.hid (HA.out.later b)
    replace HC := Lib.hid (HC.out.later b)
    replace HA' := Lib.hid (HA'.out.later b)
    replace HC' := Lib.hid (HC'.out.later b)
    clear b
    rw [HR9.out]
    generalize sgn r.num = y at *
    by_cases hy0 : y = 0
    · have hr : (y == 0) = true := by simp [hy0]
      have HQ0 : Hid (qval na (val la) (val lb) = q) := Lib.hid (HP.out.trans (H0B.out hy0))
      clear hy0 H0B H1B HZ HA' HC' zl1 zl2 zl3 zl4 lX lY
      obtain ⟨tk0, tk1, tk2, tk3, tk4, tk5, tk6, tk7, tk8⟩ := fcells_3_3_3 HX.out HY.out HR.out
      go_wp2_with fail
      refine (frac_norm na a n cap la b m cap' lb _ HA.out HC.out (by omega) (by omega)).mono ?_
      rintro e wt1 ⟨a1, n1, c1, b1, m1, d1, rfl, h1, g1, b⟩
      clear tk0 tk1 tk2 tk3 tk4 tk5 tk6 tk7 tk8
      replace HB := Lib.hid (below_then HB.out b)
      replace HX := Lib.hid (blk_later HX.out b)
      replace HY := Lib.hid (blk_later HY.out b)
      replace HR := Lib.hid (blk_later HR.out b)
      clear HA
      clear HC
      clear b
      rw [HQ0.out] at h1 g1 ⊢
      have R1 := Lib.hid h1
      have T1 := Lib.hid g1
      clear h1 g1
      unfold frV
      have q0 := blk_cell HR.out 0
      have q1 := blk_cell HR.out 1
      have q2 := blk_cell HR.out 2
      simp only [List.getElem?_toArray, List.getElem?_cons_zero, List.getElem?_cons_succ] at q0 q1 q2
      have f0 := blk_free HR.out 0
      have f1 := blk_free HR.out 1
      have f2 := blk_free HR.out 2
      replace HX := Lib.hid (blk_far3 HX.out (show w.heap.size ≠ w.heap.size + 1 + 1 by omega) (.bool (zneg q.num)) (.slice a1 n1 c1) (.slice b1 m1 d1))
      replace HY := Lib.hid (blk_far3 HY.out (show w.heap.size + 1 ≠ w.heap.size + 1 + 1 by omega) (.bool (zneg q.num)) (.slice a1 n1 c1) (.slice b1 m1 d1))
      replace R1 := Lib.hid (R1.out.stored3 HR.out ((zneg q.num)) a1 n1 c1 (.slice b1 m1 d1))
      replace T1 := Lib.hid (T1.out.stored3 HR.out ((zneg q.num)) a1 n1 c1 (.slice b1 m1 d1))
      replace HB := Lib.hid (below_set3 HB.out (show w.heap.size ≤ w.heap.size + 1 + 1 by omega) (.bool (zneg q.num)) (.slice a1 n1 c1) (.slice b1 m1 d1))
      replace HR := Lib.hid (blk_set3 HR.out (.bool (zneg q.num)) (.slice a1 n1 c1) (.slice b1 m1 d1))
      go_wp2
      refine bodyPost_ret (results_cell_row Try.results15 _ _ (w.heap.size + 1 + 1) 34 #[.bool (zneg q.num), .slice a1 n1 c1, .slice b1 m1 d1] (0, 0) _ rfl HR.out Try.underlying34 rfl (by kernel_rfl)) rfl ?_
      exact ⟨a1, n1, c1, b1, m1, d1, rfl, R1.out, T1.out, HB.out⟩
    · have hr : (y == 0) = false := by simp [hy0]
      have HZ2 := Lib.hid (HZ.out HV.out (H1B.out hy0))
      clear hy0 H0B H1B HZ HV
      obtain ⟨tk0, tk1, tk2, tk3, tk4, tk5, tk6, tk7, tk8⟩ := fcells_3_3_3 HX.out HY.out HR.out
      go_wp2_with fail
      refine (common_cancel b m cap' lb b' m' d' lb' _ HC.out HC'.out (by omega) (by omega)).mono ?_
      rintro e wt1 ⟨ax, nx, cx, ay, ny, cy, rfl, hX, hY, b⟩
      clear tk0 tk1 tk2 tk3 tk4 tk5 tk6 tk7 tk8
      replace HB := Lib.hid (below_then HB.out b)
      replace HX := Lib.hid (blk_later HX.out b)
      replace HY := Lib.hid (blk_later HY.out b)
      replace HR := Lib.hid (blk_later HR.out b)
      replace HA := Lib.hid (HA.out.later b)
      replace HC := Lib.hid (HC.out.later b)
      replace HA' := Lib.hid (HA'.out.later b)
      replace HC' := Lib.hid (HC'.out.later b)
      clear b
      rw [EX.out] at hX
      rw [EY.out] at hY
      have lnx := hX.len
      have lny := hY.len
      have RX := Lib.hid hX
      have RY := Lib.hid hY
      clear hX hY
      obtain ⟨tk0, tk1, tk2, tk3, tk4, tk5, tk6, tk7, tk8⟩ := fcells_3_3_3 HX.out HY.out HR.out
      go_wp2
      clear tk0 tk1 tk2 tk3 tk4 tk5 tk6 tk7 tk8
      replace HB := Lib.hid (below_then HB.out ((Below.refl _ _).drew : Below wt1.heap.size wt1 wt1.drew))
      replace HX : Hid (wt1.drew.heap[w.heap.size]? = _) := Lib.hid HX.out
      replace HY : Hid (wt1.drew.heap[w.heap.size + 1]? = _) := Lib.hid HY.out
      replace HR : Hid (wt1.drew.heap[w.heap.size + 1 + 1]? = some (.cells #[.bool false, .slice none 0 0, .slice none 0 0] 34 (0, 0))) := Lib.hid HR.out
      replace HA := Lib.hid (HA.out.later ((Below.refl _ _).drew : Below wt1.heap.size wt1 wt1.drew))
      replace HC := Lib.hid (HC.out.later ((Below.refl _ _).drew : Below wt1.heap.size wt1 wt1.drew))
      replace HA' := Lib.hid (HA'.out.later ((Below.refl _ _).drew : Below wt1.heap.size wt1 wt1.drew))
      replace HC' := Lib.hid (HC'.out.later ((Below.refl _ _).drew : Below wt1.heap.size wt1 wt1.drew))
      replace RX := Lib.hid (RX.out.later ((Below.refl _ _).drew : Below wt1.heap.size wt1 wt1.drew))
      replace RY := Lib.hid (RY.out.later ((Below.refl _ _).drew : Below wt1.heap.size wt1 wt1.drew))
      have pSn := fcells_3_3 HX.out HY.out
      go_region_held3 (fun w' => w'.cell? ⟨w.heap.size, 0, none⟩ = some (.bool na) ∧ w'.cell? ⟨w.heap.size, 1, none⟩ = some (.slice a n cap) ∧ w'.cell? ⟨w.heap.size, 2, none⟩ = some (.slice b m cap') ∧ w'.cell? ⟨w.heap.size + 1, 0, none⟩ = some (.bool nb) ∧ w'.cell? ⟨w.heap.size + 1, 1, none⟩ = some (.slice a' n' c') ∧ w'.cell? ⟨w.heap.size + 1, 2, none⟩ = some (.slice b' m' d')) (first | exact pSn | exact pSb _ _ _)
        (first
        | (go_at_call 35; (first
          | (have pm1 := pM1; refine (frac_times nb a' n' c' la' ax nx cx _ _ HA'.out RX.out (by omega) (by omega)).mono ?_; rintro e wp2 ⟨a2, n2, c2, rfl, h2, b⟩; replace HB := Lib.hid (below_then HB.out b); replace HX := Lib.hid (blk_later HX.out b); replace HY := Lib.hid (blk_later HY.out b); replace HR := Lib.hid (blk_later HR.out b); replace HA := Lib.hid (HA.out.later b); replace HC := Lib.hid (HC.out.later b); replace HA' := Lib.hid (HA'.out.later b); replace HC' := Lib.hid (HC'.out.later b); replace RX := Lib.hid (RX.out.later b); replace RY := Lib.hid (RY.out.later b); replace R1 := Lib.hid (R1.out.later b); rw [HS2.out] at h2 ⊢; have R2 := Lib.hid h2; have ln2 := h2.len; clear h2; unfold whV; clear b; clear pSn; have pSn := fcells_3_3 HX.out HY.out; clear pM1 pm1; have pM2 := True.intro)
          | (refine (frac_times na a n cap la ay ny cy _ _ HA.out RY.out (by omega) (by omega)).mono ?_; rintro e wp1 ⟨a1, n1, c1, rfl, h1, b⟩; replace HB := Lib.hid (below_then HB.out b); replace HX := Lib.hid (blk_later HX.out b); replace HY := Lib.hid (blk_later HY.out b); replace HR := Lib.hid (blk_later HR.out b); replace HA := Lib.hid (HA.out.later b); replace HC := Lib.hid (HC.out.later b); replace HA' := Lib.hid (HA'.out.later b); replace HC' := Lib.hid (HC'.out.later b); replace RX := Lib.hid (RX.out.later b); replace RY := Lib.hid (RY.out.later b); rw [HS1.out] at h1 ⊢; have R1 := Lib.hid h1; have ln1 := h1.len; clear h1; unfold whV; clear b; clear pSn; have pSn := fcells_3_3 HX.out HY.out; have pM1 := True.intro)))
        | (go_at_call 34; (first
          | (have pm2 := pM2; refine (whole_add _ a1 n1 c1 _ _ a2 n2 c2 _ _ R1.out R2.out (by omega) (by omega)).mono ?_; rintro e wp3 ⟨a3, n3, c3, rfl, h3, b⟩; replace HB := Lib.hid (below_then HB.out b); replace HX := Lib.hid (blk_later HX.out b); replace HY := Lib.hid (blk_later HY.out b); replace HR := Lib.hid (blk_later HR.out b); replace HA := Lib.hid (HA.out.later b); replace HC := Lib.hid (HC.out.later b); replace HA' := Lib.hid (HA'.out.later b); replace HC' := Lib.hid (HC'.out.later b); replace RX := Lib.hid (RX.out.later b); replace RY := Lib.hid (RY.out.later b); clear R1; clear R2; rw [zval_dg, zval_dg] at h3 ⊢; have R3 := Lib.hid h3; have ln3 := h3.len; clear h3; unfold whV; clear b; clear pSn; have pSn := fcells_3_3 HX.out HY.out; clear pM2 pm2; have pM3 := True.intro)))
        | (go_at_call 36; (first
          | (have pm3 := pM3; refine (prod_mul b m cap' lb ay ny cy _ _ HC.out RY.out (by omega) (by omega)).mono ?_; rintro e wp4 ⟨b4, m4, d4, rfl, h4, b⟩; replace HB := Lib.hid (below_then HB.out b); replace HX := Lib.hid (blk_later HX.out b); replace HY := Lib.hid (blk_later HY.out b); replace HR := Lib.hid (blk_later HR.out b); replace HA := Lib.hid (HA.out.later b); replace HC := Lib.hid (HC.out.later b); replace HA' := Lib.hid (HA'.out.later b); replace HC' := Lib.hid (HC'.out.later b); replace RX := Lib.hid (RX.out.later b); replace RY := Lib.hid (RY.out.later b); replace R3 := Lib.hid (R3.out.later b); rw [HD.out] at h4; have R4 := Lib.hid h4; have ln4 := h4.len; clear h4; clear b; clear pSn; have pSn := fcells_3_3 HX.out HY.out; clear pM3 pm3; have pM4 := True.intro)))
        | (go_at_call 27; (first
          | (have pm4 := pM4; refine (frac_norm _ a3 n3 c3 _ b4 m4 d4 _ _ R3.out R4.out (by omega) (by omega)).mono ?_; rintro e wp5 ⟨a5, n5, c5, b5, m5, d5, rfl, h5, g5, b⟩; replace HB := Lib.hid (below_then HB.out b); replace HX := Lib.hid (blk_later HX.out b); replace HY := Lib.hid (blk_later HY.out b); replace HR := Lib.hid (blk_later HR.out b); replace HA := Lib.hid (HA.out.later b); replace HC := Lib.hid (HC.out.later b); replace HA' := Lib.hid (HA'.out.later b); replace HC' := Lib.hid (HC'.out.later b); replace RX := Lib.hid (RX.out.later b); replace RY := Lib.hid (RY.out.later b); clear R3; clear R4; rw [HZ2.out] at h5 g5 ⊢; have R5 := Lib.hid h5; have T5 := Lib.hid g5; clear h5 g5; obtain ⟨r0, r1, r2⟩ := fcells_3 HR.out; have f0 := blk_free HR.out 0; have f1 := blk_free HR.out 1; have f2 := blk_free HR.out 2; have pSb := fun u v q => fcells_3_3 (blk_far3 (g := w.heap.size + 1 + 1) HX.out (by omega) u v q) (blk_far3 (g := w.heap.size + 1 + 1) HY.out (by omega) u v q); unfold frV; clear b; clear pSn; have pSn := fcells_3_3 HX.out HY.out; clear pM4 pm4; have pM5 := True.intro))))
      have HG := Lib.hid (blk_set3 HR.out (.bool (zneg q.num)) (.slice a5 n5 c5) (.slice b5 m5 d5))
      have HL := Lib.hid (below_set3 HB.out (show w.heap.size ≤ w.heap.size + 1 + 1 by omega) (.bool (zneg q.num)) (.slice a5 n5 c5) (.slice b5 m5 d5))
      have HW1 := Lib.hid (R5.out.stored3 HR.out (zneg q.num) a5 n5 c5 (.slice b5 m5 d5))
      have HW2 := Lib.hid (T5.out.stored3 HR.out (zneg q.num) a5 n5 c5 (.slice b5 m5 d5))
      go_wp2
      refine bodyPost_ret (results_cell_row Try.results15 _ _ (w.heap.size + 1 + 1) 34 #[.bool (zneg q.num), .slice a5 n5 c5, .slice b5 m5 d5] (0, 0) _ rfl HG.out Try.underlying34 rfl (by kernel_rfl)) rfl ?_
      exact ⟨a5, n5, c5, b5, m5, d5, rfl, HW1.out, HW2.out, HL.out⟩
set_option maxRecDepth 4096 in
set_option maxHeartbeats 4000000 in
theorem frac_sub (na : Bool) (a : Option Addr) (n cap : Nat) (la : List Nat) (b : Option Addr) (m cap' : Nat) (lb : List Nat) (nb : Bool) (a' : Option Addr) (n' c' : Nat) (la' : List Nat) (b' : Option Addr) (m' d' : Nat) (lb' : List Nat) (w : World) (ha : Wd w a n cap la) (hb : Wd w b m cap' lb) (ha' : Wd w a' n' c' la') (hb' : Wd w b' m' d' lb') (hn : n ≤ 9437184000) (hm : m ≤ 9437184000) (hn' : n' ≤ 9437184000) (hm' : m' ≤ 9437184000) :
    Calls Try.prog 64 #[frV na a n cap b m cap', frV nb a' n' c' b' m' d'] w (LstQ (qval na (val la) (val lb) - qval nb (val la') (val lb')) w) := by
  have HB := Lib.hid (below_then (below_then (below_alloc w (.cells #[.bool na, .slice a n cap, .slice b m cap'] 34)) (below_alloc _ (.cells #[.bool nb, .slice a' n' c', .slice b' m' d'] 34))) (below_alloc _ (.cells #[.bool false, .slice none 0 0, .slice none 0 0] 34)))
  have HA := Lib.hid (ha.later HB.out)
  have HC := Lib.hid (hb.later HB.out)
  have HA' := Lib.hid (ha'.later HB.out)
  have HC' := Lib.hid (hb'.later HB.out)
  obtain ⟨hx1, hx2, hx3⟩ := boxes3_at9 w #[.bool na, .slice a n cap, .slice b m cap'] #[.bool nb, .slice a' n' c', .slice b' m' d'] #[.bool false, .slice none 0 0, .slice none 0 0] 34 34 34
  have HX := Lib.hid hx1
  have HY := Lib.hid hx2
  have HR := Lib.hid hx3
  have ta := ha.trim_le
  have tb := hb.trim_le
  have ta' := ha'.trim_le
  have tb' := hb'.trim_le
  clear ha hb ha' hb' hx1 hx2 hx3
  obtain ⟨q, hq⟩ : ∃ q, qval na (val la) (val lb) - qval nb (val la') (val lb') = q := ⟨_, rfl⟩
  rw [hq]
  have HQ := Lib.hid hq
  clear hq
  have HT : Hid (qval na (val la) (val lb) + qval (!nb) (val la') (val lb') = q) := Lib.hid (by rw [fc_qval_neg, ← Rat.sub_eq_add_neg, HQ.out])
  go_enter Try.func64, Try.ntmps64
  unfold frV
  go_wp2
  generalize (((w.alloc (.cells #[.bool na, .slice a n cap, .slice b m cap'] 34)).alloc (.cells #[.bool nb, .slice a' n' c', .slice b' m' d'] 34)).alloc (.cells #[.bool false, .slice none 0 0, .slice none 0 0] 34)) = W at *
  replace HB := Lib.hid (below_then HB.out ((Below.refl _ _).drew : Below W.heap.size W W.drew))
  replace HX : Hid (W.drew.heap[w.heap.size]? = _) := Lib.hid HX.out
  replace HY : Hid (W.drew.heap[w.heap.size + 1]? = _) := Lib.hid HY.out
  replace HR : Hid (W.drew.heap[w.heap.size + 1 + 1]? = some (.cells #[.bool false, .slice none 0 0, .slice none 0 0] 34 (0, 0))) := Lib.hid HR.out
  replace HA := Lib.hid (HA.out.later ((Below.refl _ _).drew : Below W.heap.size W W.drew))
  replace HC := Lib.hid (HC.out.later ((Below.refl _ _).drew : Below W.heap.size W W.drew))
  replace HA' := Lib.hid (HA'.out.later ((Below.refl _ _).drew : Below W.heap.size W W.drew))
  replace HC' := Lib.hid (HC'.out.later ((Below.refl _ _).drew : Below W.heap.size W W.drew))
  have pSn := fcells_3_3 HX.out HY.out
  go_region_held3 (fun w' => w'.cell? ⟨w.heap.size, 0, none⟩ = some (.bool na) ∧ w'.cell? ⟨w.heap.size, 1, none⟩ = some (.slice a n cap) ∧ w'.cell? ⟨w.heap.size, 2, none⟩ = some (.slice b m cap') ∧ w'.cell? ⟨w.heap.size + 1, 0, none⟩ = some (.bool nb) ∧ w'.cell? ⟨w.heap.size + 1, 1, none⟩ = some (.slice a' n' c') ∧ w'.cell? ⟨w.heap.size + 1, 2, none⟩ = some (.slice b' m' d')) (first | exact pSn | exact pSb _ _ _)
    (first
    | (go_at_call 75; (first
      | (refine (frac_turned nb a' n' c' b' m' d' _).mono ?_; rintro e wp1 ⟨rfl, b⟩; replace HB := Lib.hid (below_then HB.out b); replace HX := Lib.hid (blk_later HX.out b); replace HY := Lib.hid (blk_later HY.out b); replace HR := Lib.hid (blk_later HR.out b); replace HA := Lib.hid (HA.out.later b); replace HC := Lib.hid (HC.out.later b); replace HA' := Lib.hid (HA'.out.later b); replace HC' := Lib.hid (HC'.out.later b); unfold frV; clear b; clear pSn; have pSn := fcells_3_3 HX.out HY.out; have pM1 := True.intro)))
    | (go_at_call 15; (first
      | (have pm1 := pM1; refine (frac_add na a n cap la b m cap' lb (!nb) a' n' c' la' b' m' d' lb' _ HA.out HC.out HA'.out HC'.out hn hm hn' hm').mono ?_; rintro e wp2 ⟨a1, n1, c1, b1, m1, d1, rfl, h1, g1, b⟩; replace HB := Lib.hid (below_then HB.out b); replace HX := Lib.hid (blk_later HX.out b); replace HY := Lib.hid (blk_later HY.out b); replace HR := Lib.hid (blk_later HR.out b); replace HA := Lib.hid (HA.out.later b); replace HC := Lib.hid (HC.out.later b); replace HA' := Lib.hid (HA'.out.later b); replace HC' := Lib.hid (HC'.out.later b); rw [HT.out] at h1 g1 ⊢; have R1 := Lib.hid h1; have T1 := Lib.hid g1; clear h1 g1; obtain ⟨r0, r1, r2⟩ := fcells_3 HR.out; have f0 := blk_free HR.out 0; have f1 := blk_free HR.out 1; have f2 := blk_free HR.out 2; have pSb := fun u v q => fcells_3_3 (blk_far3 (g := w.heap.size + 1 + 1) HX.out (by omega) u v q) (blk_far3 (g := w.heap.size + 1 + 1) HY.out (by omega) u v q); unfold frV; clear b; clear pSn; have pSn := fcells_3_3 HX.out HY.out; clear pM1 pm1; have pM2 := True.intro))))
  have HG := Lib.hid (blk_set3 HR.out (.bool (zneg q.num)) (.slice a1 n1 c1) (.slice b1 m1 d1))
  have HL := Lib.hid (below_set3 HB.out (show w.heap.size ≤ w.heap.size + 1 + 1 by omega) (.bool (zneg q.num)) (.slice a1 n1 c1) (.slice b1 m1 d1))
  have HW1 := Lib.hid (R1.out.stored3 HR.out (zneg q.num) a1 n1 c1 (.slice b1 m1 d1))
  have HW2 := Lib.hid (T1.out.stored3 HR.out (zneg q.num) a1 n1 c1 (.slice b1 m1 d1))
  go_wp2
  refine bodyPost_ret (results_cell_row Try.results64 _ _ (w.heap.size + 1 + 1) 34 #[.bool (zneg q.num), .slice a1 n1 c1, .slice b1 m1 d1] (0, 0) _ rfl HG.out Try.underlying34 rfl (by kernel_rfl)) rfl ?_
  exact ⟨a1, n1, c1, b1, m1, d1, rfl, HW1.out, HW2.out, HL.out⟩
end Go.Proofs.Ytipcgehcineblaa

/-
  What package frac's functions owe, proved.
-/
namespace Go.Proofs.Ytipcgehcineblaa
open Go.RowKit

theorem fracSaid : FracSaid where
  new := fun neg a n cap la b m cap' lb q w ha hb hn hm hq => by subst hq; exact frac_new neg a n cap la b m cap' lb w ha hb (by omega) (by omega)
  of := fun z w hz => frac_of z w hz
  norm := fun v q w h => by
    obtain ⟨neg, a, n, cap, la, b, m, cap', lb, rfl, ha, hb, hn, hm, rfl⟩ := h
    exact frac_norm neg a n cap la b m cap' lb w ha hb (by omega) (by omega)
  sign := fun v q w h => by
    obtain ⟨neg, a, n, cap, la, b, m, cap', lb, rfl, ha, hb, hn, hm, rfl⟩ := h
    exact frac_sign neg a n cap la b m cap' lb w ha hb (by omega) (by omega)
  cmp := fun v u p q w h k => by
    obtain ⟨na, a, n, cap, la, b, m, cap', lb, rfl, ha, hb, hn, hm, rfl⟩ := h
    obtain ⟨nb, a', n', c', la', b', m', d', lb', rfl, ha', hb', hn', hm', rfl⟩ := k
    exact frac_cmp na a n cap la b m cap' lb nb a' n' c' la' b' m' d' lb' w ha hb ha' hb' (by omega) (by omega) (by omega) (by omega)
  same := fun v u p q w h k => by
    obtain ⟨na, a, n, cap, la, b, m, cap', lb, rfl, ha, hb, hn, hm, rfl⟩ := h
    obtain ⟨nb, a', n', c', la', b', m', d', lb', rfl, ha', hb', hn', hm', rfl⟩ := k
    exact frac_same na a n cap la b m cap' lb nb a' n' c' la' b' m' d' lb' w ha hb ha' hb' (by omega) (by omega) (by omega) (by omega)
  add := fun v u p q w h k => by
    obtain ⟨na, a, n, cap, la, b, m, cap', lb, rfl, ha, hb, hn, hm, rfl⟩ := h
    obtain ⟨nb, a', n', c', la', b', m', d', lb', rfl, ha', hb', hn', hm', rfl⟩ := k
    exact frac_add na a n cap la b m cap' lb nb a' n' c' la' b' m' d' lb' w ha hb ha' hb' (by omega) (by omega) (by omega) (by omega)
  sub := fun v u p q w h k => by
    obtain ⟨na, a, n, cap, la, b, m, cap', lb, rfl, ha, hb, hn, hm, rfl⟩ := h
    obtain ⟨nb, a', n', c', la', b', m', d', lb', rfl, ha', hb', hn', hm', rfl⟩ := k
    exact frac_sub na a n cap la b m cap' lb nb a' n' c' la' b' m' d' lb' w ha hb ha' hb' (by omega) (by omega) (by omega) (by omega)
  mul := fun v u p q w h k => by
    obtain ⟨na, a, n, cap, la, b, m, cap', lb, rfl, ha, hb, hn, hm, rfl⟩ := h
    obtain ⟨nb, a', n', c', la', b', m', d', lb', rfl, ha', hb', hn', hm', rfl⟩ := k
    exact frac_mul na a n cap la b m cap' lb nb a' n' c' la' b' m' d' lb' w ha hb ha' hb' (by omega) (by omega) (by omega) (by omega)
  quo := fun v u p q w h k => by
    obtain ⟨na, a, n, cap, la, b, m, cap', lb, rfl, ha, hb, hn, hm, rfl⟩ := h
    obtain ⟨nb, a', n', c', la', b', m', d', lb', rfl, ha', hb', hn', hm', rfl⟩ := k
    exact frac_quo na a n cap la b m cap' lb nb a' n' c' la' b' m' d' lb' w ha hb ha' hb' (by omega) (by omega) (by omega) (by omega)
end Go.Proofs.Ytipcgehcineblaa

/-
  Plain mathematics: fractions as texts: where the first / or point stands, what a text says, what is written, what a fraction is rounded to. Nothing of the program.
-/
namespace Go.Proofs.Ytipcgehcineblaa

/-- The place of the first / or point; how long the text is, if there is none. -/
def cutAt : List UInt8 → Nat
  | [] => 0
  | x :: r => if x.toNat = 47 ∨ x.toNat = 46 then 0 else cutAt r + 1
/-- What stands ahead of the first / or point, behind it, and it itself. -/
def fhead (l : List UInt8) : List UInt8 := l.take (cutAt l)
def frest (l : List UInt8) : List UInt8 := l.drop (cutAt l + 1)
def fbyte (l : List UInt8) : Nat := (l.getD (cutAt l) 0).toNat
/-- The kind of the fault that a text has (0: none), its place, and the fraction that the text is. -/
def figKind (l : List UInt8) : Int :=
  if 0 ≤ zwrong (fhead l) then 1 else if cutAt l = l.length then 0 else if 0 ≤ wrongI (frest l) then 1 else if fbyte l ≠ 46 ∧ readV (frest l) = 0 then 2 else 0
def figPlace (l : List UInt8) : Int :=
  if 0 ≤ zwrong (fhead l) then zwrong (fhead l) else if cutAt l = l.length then 0 else if 0 ≤ wrongI (frest l) then ((cutAt l + 1 : Nat) : Int) + wrongI (frest l) else if fbyte l ≠ 46 ∧ readV (frest l) = 0 then ((cutAt l + 1 : Nat) : Int) else 0
def figVal (l : List UInt8) : Rat :=
  if 0 ≤ zwrong (fhead l) then 0 else if cutAt l = l.length then ((zread (fhead l) : Int) : Rat) else if 0 ≤ wrongI (frest l) then 0
  else if fbyte l = 46 then mkRat (zval (decide ((l.getD 0 0).toNat = 45)) ((zread (fhead l)).natAbs * 10 ^ (frest l).length + readV (frest l))) (10 ^ (frest l).length)
  else if readV (frest l) = 0 then 0 else mkRat (zread (fhead l)) (readV (frest l))
end Go.Proofs.Ytipcgehcineblaa

/-
  Plain mathematics: how long what a text says is; parts of a text. Nothing of the program.
-/
namespace Go.Proofs.Ytipcgehcineblaa

end Go.Proofs.Ytipcgehcineblaa

/-
  Plain mathematics: rows of fractions: sums, products, norms; rows as texts, and what a text of them says. Nothing of the program.
-/
namespace Go.Proofs.Ytipcgehcineblaa

/-- The sum, place by place; each so many times; the sum of the products; the norm. -/
def radd : List Rat → List Rat → List Rat
  | x :: l, y :: m => (x + y) :: radd l m
  | _, _ => []
def rscale (c : Rat) (l : List Rat) : List Rat := l.map (fun x => c * x)
def rdot : List Rat → List Rat → Rat
  | x :: l, y :: m => x * y + rdot l m
  | _, _ => 0
theorem radd_length : ∀ (l m : List Rat), l.length = m.length → (radd l m).length = l.length
  | [], [], _ => rfl
  | x :: l, y :: m, h => by
    have := radd_length l m (by simpa using h)
    simp only [radd, List.length_cons, this]
  | [], y :: m, h => by simp at h
  | x :: l, [], h => by simp at h
theorem rscale_length (c : Rat) (l : List Rat) : (rscale c l).length = l.length := List.length_map _
/-- The place of the first comma; how long the text is, if there is none. -/
def commaAt : List UInt8 → Nat
  | [] => 0
  | x :: r => if x.toNat = 44 then 0 else commaAt r + 1
/-- The pieces between the commas: one more than there are commas. -/
def pieces (l : List UInt8) : List (List UInt8) :=
  if _h : commaAt l < l.length then l.take (commaAt l) :: pieces (l.drop (commaAt l + 1)) else [l]
termination_by l.length
decreasing_by rw [List.length_drop]; omega
/-- The kind and the place of the first fault among the pieces; the fractions, if there is none. -/
def kindOf : List (List UInt8) → Int
  | [] => 0
  | p :: r => if figKind p ≠ 0 then figKind p else kindOf r
def placeOf (off : Nat) : List (List UInt8) → Int
  | [] => 0
  | p :: r => if figKind p ≠ 0 then (off : Int) + figPlace p else placeOf (off + p.length + 1) r
def rowKind (l : List UInt8) : Int := if l = [] then 0 else kindOf (pieces l)
def rowPlace (l : List UInt8) : Int := if l = [] then 0 else placeOf 0 (pieces l)
def rowVals (l : List UInt8) : List Rat := if l = [] ∨ kindOf (pieces l) ≠ 0 then [] else (pieces l).map figVal
end Go.Proofs.Ytipcgehcineblaa

/-
  Rows of right fractions in memory: in a row of the call's own, appended to; as they are handed on. Of no program.
-/
namespace Go.Proofs.Ytipcgehcineblaa
open Go.RowKit

/-- A right fraction, as it lies in memory. -/
def rx (q : Rat) (a : Option Addr) (n c : Nat) (b : Option Addr) (m d : Nat) : Fx := ⟨zneg q.num, a, n, c, dg q.num.natAbs, b, m, d, dg q.den⟩
theorem rx_q (q : Rat) (a : Option Addr) (n c : Nat) (b : Option Addr) (m d : Nat) : (rx q a n c b m d).q = q := qval_dg q
def Fx.right (x : Fx) : Prop := x.s = zneg x.q.num ∧ x.la = dg x.q.num.natAbs ∧ x.lb = dg x.q.den
theorem rx_right (q : Rat) (a : Option Addr) (n c : Nat) (b : Option Addr) (m d : Nat) : (rx q a n c b m d).right := by
  unfold Fx.right
  rw [rx_q]
  exact ⟨rfl, rfl, rfl⟩
/-- A row of right fractions: its values. -/
def Rw (w : World) (a : Option Addr) (n cap : Nat) (qs : List Rat) : Prop := ∃ L, Fxs w a n cap L ∧ L.map Fx.q = qs ∧ ∀ x ∈ L, x.right
theorem Rw.later {w w' : World} {a : Option Addr} {n cap : Nat} {qs : List Rat} (h : Rw w a n cap qs) (hb : Below w.heap.size w w') : Rw w' a n cap qs := by
  obtain ⟨L, h1, h2, h3⟩ := h
  exact ⟨L, h1.later hb, h2, h3⟩
theorem Rw.len {w : World} {a : Option Addr} {n cap : Nat} {qs : List Rat} (h : Rw w a n cap qs) : qs.length = n := by
  obtain ⟨L, h1, h2, _⟩ := h
  rw [← h2, List.length_map]; exact h1.len
/-- What comes back. -/
def LstRw (qs : List Rat) (w : World) (e : Ending) (w' : World) : Prop := ∃ (a : Option Addr) (n cap : Nat), e = .returned (.slice a n cap) ∧ Rw w' a n cap qs ∧ Below w.heap.size w w'
def LstRwV (qs : List Rat) (v : Value) (w : World) (e : Ending) (w' : World) : Prop := ∃ (a : Option Addr) (n cap : Nat), e = .returned (.tuple #[.slice a n cap, v]) ∧ Rw w' a n cap qs ∧ Below w.heap.size w w'
/-- A row of the call's own that is being made. -/
def Row (w : World) (base : Nat) (e : TypeId) (v : Value) (qs : List Rat) : Prop := ∃ L, OwnC w base e v L ∧ L.map Fx.q = qs ∧ ∀ x ∈ L, x.ok w ∧ x.right
theorem Row.nil (w : World) (base : Nat) (e : TypeId) : Row w base e (.slice none 0 0) [] := ⟨[], OwnC.nil _ _ _, rfl, fun x hx => by simp at hx⟩
theorem Row.later {w w' : World} {base : Nat} {e : TypeId} {v : Value} {qs : List Rat} (h : Row w base e v qs) (hb : Below w.heap.size w w') : Row w' base e v qs := by
  obtain ⟨L, h1, h2, h3⟩ := h
  exact ⟨L, h1.later hb, h2, fun x hx => ⟨(h3 x hx).1.later hb, (h3 x hx).2⟩⟩
theorem Row.out {w : World} {base : Nat} {e : TypeId} {v : Value} {qs : List Rat} (h : Row w base e v qs) : ∃ (a : Option Addr) (cap : Nat), v = .slice a qs.length cap ∧ Rw w a qs.length cap qs := by
  obtain ⟨L, h1, h2, h3⟩ := h
  obtain ⟨a, cap, rfl, hf⟩ := h1.slice (fun x hx => (h3 x hx).1)
  have hl : L.length = qs.length := by rw [← h2, List.length_map]
  rw [hl] at hf ⊢
  exact ⟨a, cap, rfl, L, hf, h2, fun x hx => (h3 x hx).2⟩
end Go.Proofs.Ytipcgehcineblaa

/-
  Rows of rows of fractions in memory; how long the fractions of a row become; sums of many rows. Of no program.
-/
namespace Go.Proofs.Ytipcgehcineblaa
open Go.RowKit

/-- In the world w the slice ⟨a, n, cap⟩ of slices holds just these rows of fractions. -/
def Fxss (w : World) (a : Option Addr) (n cap : Nat) (ls : List (List Fx)) : Prop :=
  ls.length = n ∧ n ≤ cap ∧ cap ≤ 9223372036854775807 ∧ (a = none → cap = 0) ∧ (n = 0 ∨ ∃ b off, a = some ⟨b, off, none⟩ ∧ ∀ j, j < n → ∃ a' n' c', w.cell? ⟨b, off + j, none⟩ = some (.slice a' n' c') ∧ Fxs w a' n' c' (ls.getD j []))
theorem Fxss.len {w : World} {a : Option Addr} {n cap : Nat} {l : List (List Fx)} (h : Fxss w a n cap l) : l.length = n := h.1
theorem Fxss.bound {w : World} {a : Option Addr} {n cap : Nat} {l : List (List Fx)} (h : Fxss w a n cap l) : n ≤ cap ∧ cap ≤ 9223372036854775807 := ⟨h.2.1, h.2.2.1⟩
theorem Fxss.at {w : World} {a : Option Addr} {n cap : Nat} {l : List (List Fx)} (h : Fxss w a n cap l) {j : Nat} (hj : j < n) : ∃ b off, a = some ⟨b, off, none⟩ ∧ ∃ a' n' c', w.cell? ⟨b, off + j, none⟩ = some (.slice a' n' c') ∧ Fxs w a' n' c' (l.getD j []) := by
  rcases h.2.2.2.2 with h0 | ⟨b, off, e, hc⟩
  · omega
  · exact ⟨b, off, e, hc j hj⟩
theorem Fxss.later {w w' : World} {a : Option Addr} {n cap : Nat} {l : List (List Fx)} (h : Fxss w a n cap l) (hb : Below w.heap.size w w') : Fxss w' a n cap l :=
  ⟨h.1, h.2.1, h.2.2.1, h.2.2.2.1, h.2.2.2.2.imp id fun ⟨b, off, e, hc⟩ => ⟨b, off, e, fun j hj => by
    obtain ⟨a', n', c', h1, h2⟩ := hc j hj
    exact ⟨a', n', c', cell_later hb h1, h2.later hb⟩⟩⟩
theorem Fxss.ofNil (w : World) : Fxss w none 0 0 [] := ⟨rfl, Nat.le_refl _, by omega, fun _ => rfl, .inl rfl⟩
theorem Fxss.lit2 (w : World) (e : TypeId) {a1 a2 : Option Addr} {n1 n2 c1 c2 : Nat} {l1 l2 : List Fx} (h1 : Fxs w a1 n1 c1 l1) (h2 : Fxs w a2 n2 c2 l2) :
    Fxss (w.alloc (.cells #[.slice a1 n1 c1, .slice a2 n2 c2] e)) (some ⟨w.heap.size, 0, none⟩) 2 2 [l1, l2] := by
  have hb : Below w.heap.size w (w.alloc (.cells #[.slice a1 n1 c1, .slice a2 n2 c2] e)) := (Below.refl _ _).alloc (Nat.le_refl _) _
  refine ⟨rfl, Nat.le_refl _, by omega, fun h => (by cases h), .inr ⟨w.heap.size, 0, rfl, fun j hj => ?_⟩⟩
  match j, hj with
  | 0, _ => exact ⟨a1, n1, c1, by simp, h1.later hb⟩
  | 1, _ => exact ⟨a2, n2, c2, by simp, h2.later hb⟩
theorem Fxss.lit3 (w : World) (e : TypeId) {a1 a2 a3 : Option Addr} {n1 n2 n3 c1 c2 c3 : Nat} {l1 l2 l3 : List Fx} (h1 : Fxs w a1 n1 c1 l1) (h2 : Fxs w a2 n2 c2 l2) (h3 : Fxs w a3 n3 c3 l3) :
    Fxss (w.alloc (.cells #[.slice a1 n1 c1, .slice a2 n2 c2, .slice a3 n3 c3] e)) (some ⟨w.heap.size, 0, none⟩) 3 3 [l1, l2, l3] := by
  have hb : Below w.heap.size w (w.alloc (.cells #[.slice a1 n1 c1, .slice a2 n2 c2, .slice a3 n3 c3] e)) := (Below.refl _ _).alloc (Nat.le_refl _) _
  refine ⟨rfl, Nat.le_refl _, by omega, fun h => (by cases h), .inr ⟨w.heap.size, 0, rfl, fun j hj => ?_⟩⟩
  match j, hj with
  | 0, _ => exact ⟨a1, n1, c1, by simp, h1.later hb⟩
  | 1, _ => exact ⟨a2, n2, c2, by simp, h2.later hb⟩
  | 2, _ => exact ⟨a3, n3, c3, by simp, h3.later hb⟩

/-- Of at most N words each. -/
def thin (N : Nat) (L : List Fx) : Prop := ∀ x ∈ L, x.n ≤ N ∧ x.m ≤ N
theorem thin.mono {M N : Nat} {L : List Fx} (h : thin M L) (hn : M ≤ N) : thin N L := fun x hx => ⟨Nat.le_trans (h x hx).1 hn, Nat.le_trans (h x hx).2 hn⟩
theorem Fx.ok.fr {w : World} {x : Fx} {N : Nat} (h : x.ok w) (hn : x.n ≤ N) (hm : x.m ≤ N) : Fr w (frV x.s x.a x.n x.c x.b x.m x.d) x.q N := Fr.of h.1 h.2 hn hm rfl
/-- Their values. -/
def fqs (L : List Fx) : List Rat := L.map Fx.q
theorem fqs_length (L : List Fx) : (fqs L).length = L.length := List.length_map _
theorem fqs_at (L : List Fx) (j : Nat) (hj : j < L.length) : (fqs L)[j]? = some (L.getD j Fx.zero).q := by
  unfold fqs
  rw [List.getElem?_map, List.getD_eq_getElem?_getD, List.getElem?_eq_getElem hj]; rfl
theorem Rw.thin {w : World} {a : Option Addr} {n cap : Nat} {qs : List Rat} (h : Rw w a n cap qs) {N : Nat} (hq : ∀ q ∈ qs, qlen q ≤ N) : ∃ L, Fxs w a n cap L ∧ fqs L = qs ∧ Go.Proofs.Ytipcgehcineblaa.thin N L := by
  obtain ⟨L, h1, h2, h3⟩ := h
  refine ⟨L, h1, h2, fun x hx => ?_⟩
  obtain ⟨h4, h5, h6⟩ := h3 x hx
  have h7 := hq x.q (h2 ▸ List.mem_map.2 ⟨x, hx, rfl⟩)
  obtain ⟨h8, h9⟩ := h1.ok hx
  have := h8.len
  have := h9.len
  have := qlen_num x.q
  have := qlen_den x.q
  rw [h5] at *
  rw [h6] at *
  constructor <;> omega
/-- The sum of rows of one length. -/
def raddAll : List (List Rat) → List Rat
  | [] => []
  | l :: r => r.foldl radd l
/-- Have they all one length? -/
def even (LL : List (List Rat)) : Prop := ∀ x ∈ LL, ∀ y ∈ LL, x.length = y.length
instance (LL : List (List Rat)) : Decidable (even LL) := by unfold even; infer_instance
end Go.Proofs.Ytipcgehcineblaa

/-
  What package figure's functions owe (layer 10), as one hypothesis: the contracts that the laws' walks lean on. And the document's reading of whole numbers, in one form.
-/
namespace Go.Proofs.Ytipcgehcineblaa
open Go.RowKit

structure FigureSaid : Prop where
end Go.Proofs.Ytipcgehcineblaa

/-
  What package row's functions owe (layer 11), as one hypothesis: the contracts that the laws' walks lean on.
-/
namespace Go.Proofs.Ytipcgehcineblaa
open Go.RowKit

structure RowSaid : Prop where
  same : ∀ (a : Option Addr) (n c : Nat) (L : List Fx) (b : Option Addr) (m d : Nat) (M : List Fx) (w : World), Fxs w a n c L → Fxs w b m d M → n ≤ 300 → m ≤ 300 → thin 2000000000 L → thin 2000000000 M → Calls Try.prog 37 #[.slice a n c, .slice b m d] w (Gives (.bool (decide (fqs L = fqs M))) w)
  add_yes : ∀ (a : Option Addr) (n c : Nat) (LL : List (List Fx)) (w : World), Fxss w a n c LL → n ≤ 10 → (∀ L ∈ LL, L.length ≤ 300 ∧ thin 100 L) → even (LL.map fqs) → Calls Try.prog 29 #[.slice a n c] w (LstRwV (raddAll (LL.map fqs)) (.bool true) w)
  add_no : ∀ (a : Option Addr) (n c : Nat) (LL : List (List Fx)) (w : World), Fxss w a n c LL → n ≤ 10 → (∀ L ∈ LL, L.length ≤ 300 ∧ thin 100 L) → ¬ even (LL.map fqs) → Calls Try.prog 29 #[.slice a n c] w (LstRwV [] (.bool false) w)
  sub_yes : ∀ (a : Option Addr) (n c : Nat) (L : List Fx) (b : Option Addr) (m d : Nat) (M : List Fx) (w : World), Fxs w a n c L → Fxs w b m d M → n ≤ 300 → m ≤ 300 → thin 2097152000 L → thin 2097152000 M → Hid (n = m) → Calls Try.prog 42 #[.slice a n c, .slice b m d] w (LstRwV (radd (fqs L) (rscale (-1) (fqs M))) (.bool true) w)
  sub_no : ∀ (a : Option Addr) (n c : Nat) (L : List Fx) (b : Option Addr) (m d : Nat) (M : List Fx) (w : World), Fxs w a n c L → Fxs w b m d M → n ≤ 300 → m ≤ 300 → thin 2097152000 L → thin 2097152000 M → Hid (n ≠ m) → Calls Try.prog 42 #[.slice a n c, .slice b m d] w (LstRwV [] (.bool false) w)
  scale : ∀ (v : Value) (q : Rat) (a : Option Addr) (n c : Nat) (L : List Fx) (w : World), Fr w v q 2097152000 → Fxs w a n c L → n ≤ 300 → thin 2097152000 L → Calls Try.prog 41 #[v, .slice a n c] w (LstRw (rscale q (fqs L)) w)
  dot_yes : ∀ (a : Option Addr) (n c : Nat) (L : List Fx) (b : Option Addr) (m d : Nat) (M : List Fx) (w : World), Fxs w a n c L → Fxs w b m d M → n ≤ 20 → m ≤ 20 → thin 30 L → thin 30 M → Hid (n = m) → Calls Try.prog 25 #[.slice a n c, .slice b m d] w (LstQV (rdot (fqs L) (fqs M)) (.bool true) w)
  dot_no : ∀ (a : Option Addr) (n c : Nat) (L : List Fx) (b : Option Addr) (m d : Nat) (M : List Fx) (w : World), Fxs w a n c L → Fxs w b m d M → n ≤ 20 → m ≤ 20 → thin 30 L → thin 30 M → Hid (n ≠ m) → Calls Try.prog 25 #[.slice a n c, .slice b m d] w (LstQV 0 (.bool false) w)
  dot_more : ∀ (a : Option Addr) (n c : Nat) (L : List Fx) (b : Option Addr) (m d : Nat) (M : List Fx) (N : Nat) (w : World), Fxs w a n c L → Fxs w b m d M → n ≤ 300 → thin N L → thin N M → Hid (n = m) → 1 + n * (N + N + 6) ≤ 2097152000 → N ≤ 900000000 → Calls Try.prog 25 #[.slice a n c, .slice b m d] w (LstQV (rdot (fqs L) (fqs M)) (.bool true) w)
end Go.Proofs.Ytipcgehcineblaa

/-
  Plain mathematics of layer 12: matrices of rational numbers as lists of rows; the product of three. Of no program.
-/
namespace Go.Proofs.Ytipcgehcineblaa

def sumTo : Nat → (Nat → Rat) → Rat
  | 0, _ => 0
  | n + 1, f => sumTo n f + f n
theorem sumTo_first : ∀ (n : Nat) (f : Nat → Rat), sumTo (n + 1) f = f 0 + sumTo n (fun k => f (k + 1))
  | 0, f => by show (0 : Rat) + f 0 = f 0 + 0; grind
  | n + 1, f => by
    show sumTo (n + 1) f + f (n + 1) = f 0 + (sumTo n (fun k => f (k + 1)) + f (n + 1))
    rw [sumTo_first n f]; grind
theorem sumTo_congr : ∀ {n : Nat} {f g : Nat → Rat}, (∀ k, k < n → f k = g k) → sumTo n f = sumTo n g
  | 0, _, _, _ => rfl
  | n + 1, f, g, h => by
    show sumTo n f + f n = sumTo n g + g n
    rw [sumTo_congr (fun k hk => h k (by omega)), h n (by omega)]
theorem sumTo_zero : ∀ n : Nat, sumTo n (fun _ => 0) = 0
  | 0 => rfl
  | n + 1 => by show sumTo n _ + 0 = 0; rw [sumTo_zero n]; grind
theorem sumTo_add : ∀ (n : Nat) (f g : Nat → Rat), sumTo n (fun k => f k + g k) = sumTo n f + sumTo n g
  | 0, _, _ => by show (0 : Rat) = 0 + 0; grind
  | n + 1, f, g => by
    show sumTo n (fun k => f k + g k) + (f n + g n) = (sumTo n f + f n) + (sumTo n g + g n)
    rw [sumTo_add n f g]; grind
theorem sumTo_mul (c : Rat) : ∀ (n : Nat) (f : Nat → Rat), sumTo n (fun k => c * f k) = c * sumTo n f
  | 0, _ => by show (0 : Rat) = c * 0; grind
  | n + 1, f => by
    show sumTo n (fun k => c * f k) + c * f n = c * (sumTo n f + f n)
    rw [sumTo_mul c n f]; grind
theorem rdot_sum : ∀ {l m : List Rat}, l.length = m.length → rdot l m = sumTo l.length (fun k => l.getD k 0 * m.getD k 0)
  | [], [], _ => by rw [rdot]; rfl; simp
  | x :: l, y :: m, h => by
    have ih := rdot_sum (l := l) (m := m) (by simpa using h)
    rw [rdot, ih, List.length_cons, sumTo_first]
    rfl
  | [], _ :: _, h => by simp at h
  | _ :: _, [], h => by simp at h

theorem getD_ext {l m : List Rat} (hl : l.length = m.length) (h : ∀ k, k < l.length → l.getD k 0 = m.getD k 0) : l = m := by
  refine List.ext_getElem hl fun k h1 h2 => ?_
  have := h k h1
  rwa [List.getD_eq_getElem?_getD, List.getD_eq_getElem?_getD, List.getElem?_eq_getElem h1, List.getElem?_eq_getElem h2] at this
end Go.Proofs.Ytipcgehcineblaa
