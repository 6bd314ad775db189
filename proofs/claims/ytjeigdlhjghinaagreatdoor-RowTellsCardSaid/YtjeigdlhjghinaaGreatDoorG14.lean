/-
  Several texts of this claim as one, group 14.
-/
import Derived.Test.YtjeigdlhjghinaaGreatDoorG13
import Derived.Deep.RegionHeld3
import Derived.BigQuiet
import Derived.Test.YtjeigdlhjghinaaGreatDoorG10
import Derived.Test.YtjeigdlhjghinaaGreatDoorG11
/-
  Package frac at this seat: Cmp, Same.
-/
namespace Go.Proofs.YtjeigdlhjghinaaGreatDoor
open Go.RowKit

set_option maxRecDepth 4096 in
set_option maxHeartbeats 4000000 in
theorem frac_cmp (na : Bool) (a : Option Addr) (n cap : Nat) (la : List Nat) (b : Option Addr) (m cap' : Nat) (lb : List Nat) (nb : Bool) (a' : Option Addr) (n' c' : Nat) (la' : List Nat) (b' : Option Addr) (m' d' : Nat) (lb' : List Nat) (w : World) (ha : Wd w a n cap la) (hb : Wd w b m cap' lb) (ha' : Wd w a' n' c' la') (hb' : Wd w b' m' d' lb') (hn : n ≤ 40000) (hm : m ≤ 40000) (hn' : n' ≤ 40000) (hm' : m' ≤ 40000) :
    Calls Tryz.prog 45 #[frV na a n cap b m cap', frV nb a' n' c' b' m' d'] w (Gives (.int .i64 (sgn (qval na (val la) (val lb) - qval nb (val la') (val lb')).num)) w) := by
  have HB := Lib.hid (below_then (below_alloc w (.cells #[.bool na, .slice a n cap, .slice b m cap'] 41)) (below_alloc _ (.cells #[.bool nb, .slice a' n' c', .slice b' m' d'] 41)))
  have HA := Lib.hid (ha.later HB.out)
  have HC := Lib.hid (hb.later HB.out)
  have HA' := Lib.hid (ha'.later HB.out)
  have HC' := Lib.hid (hb'.later HB.out)
  obtain ⟨hx1, hx2⟩ := boxes_at w ((w.alloc (.cells #[.bool na, .slice a n cap, .slice b m cap'] 41)).alloc (.cells #[.bool nb, .slice a' n' c', .slice b' m' d'] 41)) #[.bool na, .slice a n cap, .slice b m cap'] #[.bool nb, .slice a' n' c', .slice b' m' d'] 41 41 (Below.refl _ _)
  have HX := Lib.hid hx1
  have HY := Lib.hid hx2
  have ta := ha.trim_le
  have tb := hb.trim_le
  have ta' := ha'.trim_le
  have tb' := hb'.trim_le
  clear ha hb ha' hb' hx1 hx2
  have zl1 := zlen_mul (zval na (val la)) ((val lb' : Nat) : Int)
  have zl2 := zlen_mul (zval nb (val la')) ((val lb : Nat) : Int)
  rw [zval_abs, Int.natAbs_natCast] at zl1 zl2
  have HF : Hid (sgn (qval na (val la) (val lb)).num ≠ sgn (qval nb (val la') (val lb')).num → sgn (sgn (qval na (val la) (val lb)).num - sgn (qval nb (val la') (val lb')).num) = sgn (qval na (val la) (val lb) - qval nb (val la') (val lb')).num) := Lib.hid fc_qcmp_far
  have HE0 : Hid (sgn (qval na (val la) (val lb)).num = sgn (qval nb (val la') (val lb')).num → sgn (qval na (val la) (val lb)).num = 0 → sgn (qval na (val la) (val lb) - qval nb (val la') (val lb')).num = 0) := Lib.hid (fun h h0 => by
    rw [fc_qsign_zero.1 h0, fc_qsign_zero.1 (h.symm.trans h0), Rat.sub_self]; rfl)
  have HN : Hid (sgn (qval na (val la) (val lb)).num = sgn (qval nb (val la') (val lb')).num → sgn (qval na (val la) (val lb)).num ≠ 0 → sgn (zval na (val la) * ((val lb' : Nat) : Int) - zval nb (val la') * ((val lb : Nat) : Int)) = sgn (qval na (val la) (val lb) - qval nb (val la') (val lb')).num) := Lib.hid (fun h h0 => by
    refine fc_qcmp_near (fun e => h0 ?_) (fun e => h0 ?_)
    · rw [qval_none na (.inl e)]; rfl
    · rw [h, qval_none nb (.inl e)]; rfl)
  have hra := sgn_range (qval na (val la) (val lb)).num
  have hrb := sgn_range (qval nb (val la') (val lb')).num
  generalize hz : sgn (qval na (val la) (val lb) - qval nb (val la') (val lb')).num = z at *
  generalize hx : sgn (qval na (val la) (val lb)).num = x at *
  generalize hy : sgn (qval nb (val la') (val lb')).num = y at *
  have HSA := Lib.hid hx
  have HSB := Lib.hid hy
  clear hx hy hz
  go_enter Tryz.func45, Tryz.ntmps45
  unfold frV
  go_wp2
  generalize ((w.alloc (.cells #[.bool na, .slice a n cap, .slice b m cap'] 41)).alloc (.cells #[.bool nb, .slice a' n' c', .slice b' m' d'] 41)) = W at *
  replace HB := Lib.hid (below_then HB.out ((Below.refl _ _).drew : Below W.heap.size W W.drew))
  replace HX : Hid (W.drew.heap[w.heap.size]? = _) := Lib.hid HX.out
  replace HY : Hid (W.drew.heap[w.heap.size + 1]? = _) := Lib.hid HY.out
  replace HA := Lib.hid (HA.out.later ((Below.refl _ _).drew : Below W.heap.size W W.drew))
  replace HC := Lib.hid (HC.out.later ((Below.refl _ _).drew : Below W.heap.size W W.drew))
  replace HA' := Lib.hid (HA'.out.later ((Below.refl _ _).drew : Below W.heap.size W W.drew))
  replace HC' := Lib.hid (HC'.out.later ((Below.refl _ _).drew : Below W.heap.size W W.drew))
  have pSn := fcells_3_3 HX.out HY.out
  go_region_held3 (fun w' => w'.cell? ⟨w.heap.size, 0, none⟩ = some (.bool na) ∧ w'.cell? ⟨w.heap.size, 1, none⟩ = some (.slice a n cap) ∧ w'.cell? ⟨w.heap.size, 2, none⟩ = some (.slice b m cap') ∧ w'.cell? ⟨w.heap.size + 1, 0, none⟩ = some (.bool nb) ∧ w'.cell? ⟨w.heap.size + 1, 1, none⟩ = some (.slice a' n' c') ∧ w'.cell? ⟨w.heap.size + 1, 2, none⟩ = some (.slice b' m' d')) (exact pSn)
    (first
    | (go_at_call 33; (first
      | (have pm1 := pM1; refine (frac_sign nb a' n' c' la' b' m' d' lb' _ HA'.out HC'.out (by omega) (by omega)).mono ?_; rintro e wp2 ⟨rfl, b⟩; replace HB := Lib.hid (below_then HB.out b); replace HX := Lib.hid (blk_later HX.out b); replace HY := Lib.hid (blk_later HY.out b); replace HA := Lib.hid (HA.out.later b); replace HC := Lib.hid (HC.out.later b); replace HA' := Lib.hid (HA'.out.later b); replace HC' := Lib.hid (HC'.out.later b); rw [HSB.out]; clear b; clear pSn; have pSn := fcells_3_3 HX.out HY.out; clear pM1 pm1; have pM2 := True.intro)
      | (refine (frac_sign na a n cap la b m cap' lb _ HA.out HC.out (by omega) (by omega)).mono ?_; rintro e wp1 ⟨rfl, b⟩; replace HB := Lib.hid (below_then HB.out b); replace HX := Lib.hid (blk_later HX.out b); replace HY := Lib.hid (blk_later HY.out b); replace HA := Lib.hid (HA.out.later b); replace HC := Lib.hid (HC.out.later b); replace HA' := Lib.hid (HA'.out.later b); replace HC' := Lib.hid (HC'.out.later b); rw [HSA.out]; clear b; clear pSn; have pSn := fcells_3_3 HX.out HY.out; have pM1 := True.intro))))
  clear HSA HSB pSn pM2
  by_cases hxy : x = y
  · by_cases hx0 : x = 0
    · have HZ : Hid (z = 0) := Lib.hid (HE0.out hxy hx0)
      have HS : Hid (sgn ((0 : Int) - 0) = 0) := Lib.hid rfl
      clear HF HE0 HN zl1 zl2
      obtain rfl : y = 0 := by omega
      obtain rfl : x = 0 := hx0
      clear hxy hra hrb
      go_wp2_with fail
      refine (cmp_Compare 0 0 _).mono ?_
      rintro e w' ⟨rfl, rfl⟩
      rw [HS.out]
      go_wp2
      go_ret
      exact ⟨by rw [HZ.out]; rfl, HB.out⟩
    · have hq0 : (x == 0) = false := by simp [hx0]
      have HZ := Lib.hid (HN.out hxy hx0)
      clear HF HE0 HN hx0
      subst hxy
      obtain ⟨uk0, uk1, uk2, uk3, uk4, uk5⟩ := fcells_3_3 HX.out HY.out
      go_wp2
      clear uk0 uk1 uk2 uk3 uk4 uk5
      replace HB := Lib.hid (below_then HB.out ((Below.refl _ _).drew : Below wp2.heap.size wp2 wp2.drew))
      replace HX : Hid (wp2.drew.heap[w.heap.size]? = _) := Lib.hid HX.out
      replace HY : Hid (wp2.drew.heap[w.heap.size + 1]? = _) := Lib.hid HY.out
      replace HA := Lib.hid (HA.out.later ((Below.refl _ _).drew : Below wp2.heap.size wp2 wp2.drew))
      replace HC := Lib.hid (HC.out.later ((Below.refl _ _).drew : Below wp2.heap.size wp2 wp2.drew))
      replace HA' := Lib.hid (HA'.out.later ((Below.refl _ _).drew : Below wp2.heap.size wp2 wp2.drew))
      replace HC' := Lib.hid (HC'.out.later ((Below.refl _ _).drew : Below wp2.heap.size wp2 wp2.drew))
      have rSn := fcells_3_3 HX.out HY.out
      go_region_held3 (fun w' => w'.cell? ⟨w.heap.size, 0, none⟩ = some (.bool na) ∧ w'.cell? ⟨w.heap.size, 1, none⟩ = some (.slice a n cap) ∧ w'.cell? ⟨w.heap.size, 2, none⟩ = some (.slice b m cap') ∧ w'.cell? ⟨w.heap.size + 1, 0, none⟩ = some (.bool nb) ∧ w'.cell? ⟨w.heap.size + 1, 1, none⟩ = some (.slice a' n' c') ∧ w'.cell? ⟨w.heap.size + 1, 2, none⟩ = some (.slice b' m' d')) (exact rSn)
        (first
        | (go_at_call 80; (first
          | (have rm1 := rM1; refine (frac_times nb a' n' c' la' b m cap' lb _ HA'.out HC.out (by omega) (by omega)).mono ?_; rintro e wr2 ⟨a2, n2, c2, rfl, h2, b⟩; replace HB := Lib.hid (below_then HB.out b); replace HX := Lib.hid (blk_later HX.out b); replace HY := Lib.hid (blk_later HY.out b); replace HA := Lib.hid (HA.out.later b); replace HC := Lib.hid (HC.out.later b); replace HA' := Lib.hid (HA'.out.later b); replace HC' := Lib.hid (HC'.out.later b); replace R1 := Lib.hid (R1.out.later b); have R2 := Lib.hid h2; have ln2 := h2.len; clear h2; unfold whV; clear b; clear rSn; have rSn := fcells_3_3 HX.out HY.out; clear rM1 rm1; have rM2 := True.intro)
          | (refine (frac_times na a n cap la b' m' d' lb' _ HA.out HC'.out (by omega) (by omega)).mono ?_; rintro e wr1 ⟨a1, n1, c1, rfl, h1, b⟩; replace HB := Lib.hid (below_then HB.out b); replace HX := Lib.hid (blk_later HX.out b); replace HY := Lib.hid (blk_later HY.out b); replace HA := Lib.hid (HA.out.later b); replace HC := Lib.hid (HC.out.later b); replace HA' := Lib.hid (HA'.out.later b); replace HC' := Lib.hid (HC'.out.later b); have R1 := Lib.hid h1; have ln1 := h1.len; clear h1; unfold whV; clear b; clear rSn; have rSn := fcells_3_3 HX.out HY.out; have rM1 := True.intro)))
        | (go_at_call 84; (first
          | (have rm2 := rM2; refine (whole_cmp _ a1 n1 c1 _ _ a2 n2 c2 _ _ R1.out R2.out (by omega) (by omega)).mono ?_; rintro e wr3 ⟨rfl, b⟩; replace HB := Lib.hid (below_then HB.out b); replace HX := Lib.hid (blk_later HX.out b); replace HY := Lib.hid (blk_later HY.out b); replace HA := Lib.hid (HA.out.later b); replace HC := Lib.hid (HC.out.later b); replace HA' := Lib.hid (HA'.out.later b); replace HC' := Lib.hid (HC'.out.later b); clear R1; clear R2; rw [zval_dg, zval_dg, HZ.out]; clear b; clear rSn; have rSn := fcells_3_3 HX.out HY.out; clear rM2 rm2; have rM3 := True.intro))))
      go_wp2
      go_ret
      exact ⟨rfl, HB.out⟩
  · have hq : (x == y) = false := by simp [hxy]
    have HZ := Lib.hid (HF.out hxy)
    clear HF HE0 HN hxy zl1 zl2
    go_wp2_with fail
    refine (cmp_Compare x y _).mono ?_
    rintro e w' ⟨rfl, rfl⟩
    rw [HZ.out]
    go_wp2
    go_ret
    exact ⟨rfl, HB.out⟩
set_option maxRecDepth 4096 in
set_option maxHeartbeats 4000000 in
theorem frac_same (na : Bool) (a : Option Addr) (n cap : Nat) (la : List Nat) (b : Option Addr) (m cap' : Nat) (lb : List Nat) (nb : Bool) (a' : Option Addr) (n' c' : Nat) (la' : List Nat) (b' : Option Addr) (m' d' : Nat) (lb' : List Nat) (w : World) (ha : Wd w a n cap la) (hb : Wd w b m cap' lb) (ha' : Wd w a' n' c' la') (hb' : Wd w b' m' d' lb') (hn : n ≤ 40000) (hm : m ≤ 40000) (hn' : n' ≤ 40000) (hm' : m' ≤ 40000) :
    Calls Tryz.prog 42 #[frV na a n cap b m cap', frV nb a' n' c' b' m' d'] w (Gives (.bool (decide (qval na (val la) (val lb) = qval nb (val la') (val lb')))) w) := by
  have HB := Lib.hid (below_then (below_alloc w (.cells #[.bool na, .slice a n cap, .slice b m cap'] 41)) (below_alloc _ (.cells #[.bool nb, .slice a' n' c', .slice b' m' d'] 41)))
  have HA := Lib.hid (ha.later HB.out)
  have HC := Lib.hid (hb.later HB.out)
  have HA' := Lib.hid (ha'.later HB.out)
  have HC' := Lib.hid (hb'.later HB.out)
  obtain ⟨hx1, hx2⟩ := boxes_at w ((w.alloc (.cells #[.bool na, .slice a n cap, .slice b m cap'] 41)).alloc (.cells #[.bool nb, .slice a' n' c', .slice b' m' d'] 41)) #[.bool na, .slice a n cap, .slice b m cap'] #[.bool nb, .slice a' n' c', .slice b' m' d'] 41 41 (Below.refl _ _)
  have HX := Lib.hid hx1
  have HY := Lib.hid hx2
  have ta := ha.trim_le
  have tb := hb.trim_le
  have ta' := ha'.trim_le
  have tb' := hb'.trim_le
  clear ha hb ha' hb' hx1 hx2
  have HE : Hid ((sgn (qval na (val la) (val lb) - qval nb (val la') (val lb')).num == 0) = decide (qval na (val la) (val lb) = qval nb (val la') (val lb'))) := Lib.hid (by
    by_cases h : qval na (val la) (val lb) = qval nb (val la') (val lb')
    · rw [decide_eq_true h, h, Rat.sub_self]; rfl
    · rw [decide_eq_false h, beq_eq_false_iff_ne]
      exact fun e => h (by
        have h1 := fc_qsign_zero.1 e
        rw [Rat.sub_eq_add_neg] at h1
        have h2 := congrArg (· + qval nb (val la') (val lb')) h1
        simp only [Rat.add_assoc, Rat.neg_add_cancel, Rat.add_zero, Rat.zero_add] at h2
        exact h2))
  go_enter Tryz.func42, Tryz.ntmps42
  unfold frV
  obtain ⟨vk0, vk1, vk2, vk3, vk4, vk5⟩ := fcells_3_3 HX.out HY.out
  go_wp2_with fail
  refine (frac_cmp na a n cap la b m cap' lb nb a' n' c' la' b' m' d' lb' _ HA.out HC.out HA'.out HC'.out hn hm hn' hm').mono ?_
  rintro e wv1 ⟨rfl, b⟩
  clear vk0 vk1 vk2 vk3 vk4 vk5
  replace HB := Lib.hid (below_then HB.out b)
  replace HX := Lib.hid (blk_later HX.out b)
  replace HY := Lib.hid (blk_later HY.out b)
  replace HA := Lib.hid (HA.out.later b)
  replace HC := Lib.hid (HC.out.later b)
  replace HA' := Lib.hid (HA'.out.later b)
  replace HC' := Lib.hid (HC'.out.later b)
  clear b
  clear HX HY HA HC HA' HC'
  generalize decide (qval na (val la) (val lb) = qval nb (val la') (val lb')) = s at *
  generalize sgn (qval na (val la) (val lb) - qval nb (val la') (val lb')).num = z at *
  go_wp2
  go_ret
  exact ⟨by rw [← HE.out]; rfl, HB.out⟩
end Go.Proofs.YtjeigdlhjghinaaGreatDoor

/-
  Package frac at this seat: Add, Sub.
-/
namespace Go.Proofs.YtjeigdlhjghinaaGreatDoor
open Go.RowKit

set_option maxRecDepth 4096 in
set_option maxHeartbeats 4000000 in
theorem frac_add (na : Bool) (a : Option Addr) (n cap : Nat) (la : List Nat) (b : Option Addr) (m cap' : Nat) (lb : List Nat) (nb : Bool) (a' : Option Addr) (n' c' : Nat) (la' : List Nat) (b' : Option Addr) (m' d' : Nat) (lb' : List Nat) (w : World) (ha : Wd w a n cap la) (hb : Wd w b m cap' lb) (ha' : Wd w a' n' c' la') (hb' : Wd w b' m' d' lb') (hn : n ≤ 9000) (hm : m ≤ 9000) (hn' : n' ≤ 9000) (hm' : m' ≤ 9000) :
    Calls Tryz.prog 43 #[frV na a n cap b m cap', frV nb a' n' c' b' m' d'] w (LstQ (qval na (val la) (val lb) + qval nb (val la') (val lb')) w) := by
  have HB := Lib.hid (below_then (below_then (below_alloc w (.cells #[.bool na, .slice a n cap, .slice b m cap'] 41)) (below_alloc _ (.cells #[.bool nb, .slice a' n' c', .slice b' m' d'] 41))) (below_alloc _ (.cells #[.bool false, .slice none 0 0, .slice none 0 0] 41)))
  have HA := Lib.hid (ha.later HB.out)
  have HC := Lib.hid (hb.later HB.out)
  have HA' := Lib.hid (ha'.later HB.out)
  have HC' := Lib.hid (hb'.later HB.out)
  obtain ⟨hx1, hx2, hx3⟩ := boxes3_at9 w #[.bool na, .slice a n cap, .slice b m cap'] #[.bool nb, .slice a' n' c', .slice b' m' d'] #[.bool false, .slice none 0 0, .slice none 0 0] 41 41 41
  have HX := Lib.hid hx1
  have HY := Lib.hid hx2
  have HR := Lib.hid hx3
  have ta := ha.trim_le
  have tb := hb.trim_le
  have ta' := ha'.trim_le
  have tb' := hb'.trim_le
  clear ha hb ha' hb' hx1 hx2 hx3
  have H0A : Hid (sgn (qval na (val la) (val lb)).num = 0 → qval nb (val la') (val lb') = qval na (val la) (val lb) + qval nb (val la') (val lb')) := Lib.hid (fun h => by rw [fc_qsign_zero.1 h, Rat.zero_add])
  have H0B : Hid (sgn (qval nb (val la') (val lb')).num = 0 → qval na (val la) (val lb) = qval na (val la) (val lb) + qval nb (val la') (val lb')) := Lib.hid (fun h => by rw [fc_qsign_zero.1 h, Rat.add_zero])
  have H1A : Hid (sgn (qval na (val la) (val lb)).num ≠ 0 → val lb ≠ 0) := Lib.hid (fun h e => h (by rw [qval_none na (.inl e)]; rfl))
  have H1B : Hid (sgn (qval nb (val la') (val lb')).num ≠ 0 → val lb' ≠ 0) := Lib.hid (fun h e => h (by rw [qval_none nb (.inl e)]; rfl))
  obtain ⟨X, hX⟩ : ∃ X, val lb / Nat.gcd (val lb) (val lb') = X := ⟨_, rfl⟩
  obtain ⟨Y, hY⟩ : ∃ Y, val lb' / Nat.gcd (val lb) (val lb') = Y := ⟨_, rfl⟩
  have lX : (dg X).length ≤ 9000 := by rw [← hX]; exact Nat.le_trans (dg_length_mono (Nat.div_le_self _ _)) (by omega)
  have lY : (dg Y).length ≤ 9000 := by rw [← hY]; exact Nat.le_trans (dg_length_mono (Nat.div_le_self _ _)) (by omega)
  obtain ⟨s1, hs1⟩ : ∃ s1, zval na (val la) * (Y : Int) = s1 := ⟨_, rfl⟩
  obtain ⟨s2, hs2⟩ : ∃ s2, zval nb (val la') * (X : Int) = s2 := ⟨_, rfl⟩
  obtain ⟨D, hD⟩ : ∃ D, val lb * Y = D := ⟨_, rfl⟩
  have zl1 := zlen_mul (zval na (val la)) (Y : Int)
  have zl2 := zlen_mul (zval nb (val la')) (X : Int)
  have zl3 := dg_mul_length (val lb) Y
  rw [zval_abs, Int.natAbs_natCast, hs1] at zl1
  rw [zval_abs, Int.natAbs_natCast, hs2] at zl2
  rw [hD] at zl3
  have zl4 := zlen_add s1 s2
  have HS1 : Hid (zval na (val la) * ((val (dg Y) : Nat) : Int) = s1) := Lib.hid (by rw [val_dg]; exact hs1)
  have HS2 : Hid (zval nb (val la') * ((val (dg X) : Nat) : Int) = s2) := Lib.hid (by rw [val_dg]; exact hs2)
  have HD : Hid (val lb * val (dg Y) = D) := Lib.hid (by rw [val_dg]; exact hD)
  have HZ : Hid (val lb ≠ 0 → val lb' ≠ 0 → qval (zneg (s1 + s2)) (val (dg (s1 + s2).natAbs)) (val (dg D)) = qval na (val la) (val lb) + qval nb (val la') (val lb')) := Lib.hid (fun h h' => by
    rw [val_dg, val_dg, fc_qval_of, ← hs1, ← hs2, ← hD, ← hX, ← hY]
    exact fc_qval_add na nb _ _ _ _ h h')
  have EX := Lib.hid hX
  have EY := Lib.hid hY
  clear hX hY hs1 hs2 hD
  generalize hq : qval na (val la) (val lb) + qval nb (val la') (val lb') = q at *
  generalize hp : qval na (val la) (val lb) = p at *
  generalize hr : qval nb (val la') (val lb') = r at *
  have HP := Lib.hid hp
  have HR9 := Lib.hid hr
  clear hp hr hq
  go_enter Tryz.func43, Tryz.ntmps43
  unfold frV
  obtain ⟨vk0, vk1, vk2, vk3, vk4, vk5, vk6, vk7, vk8⟩ := fcells_3_3_3 HX.out HY.out HR.out
  go_wp2_with fail
  refine (frac_sign na a n cap la b m cap' lb _ HA.out HC.out (by omega) (by omega)).mono ?_
  rintro e wv1 ⟨rfl, b⟩
  clear vk0 vk1 vk2 vk3 vk4 vk5 vk6 vk7 vk8
  replace HB := Lib.hid (below_then HB.out b)
  replace HX := Lib.hid (blk_later HX.out b)
  replace HY := Lib.hid (blk_later HY.out b)
  replace HR := Lib.hid (blk_later HR.out b)
  replace HA := Lib.hid (HA.out.later b)
  replace HC := Lib.hid (HC.out.later b)
  replace HA' := Lib.hid (HA'.out.later b)
  replace HC' := Lib.hid (HC'.out.later b)
  clear b
  rw [HP.out]
  generalize sgn p.num = x at *
  by_cases hx0 : x = 0
  · have hq : (x == 0) = true := by simp [hx0]
    have HQ0 : Hid (qval nb (val la') (val lb') = q) := Lib.hid (HR9.out.trans (H0A.out hx0))
    clear hx0 H0A H0B H1A H1B HZ HA HC zl1 zl2 zl3 zl4 lX lY
    obtain ⟨uk0, uk1, uk2, uk3, uk4, uk5, uk6, uk7, uk8⟩ := fcells_3_3_3 HX.out HY.out HR.out
    go_wp2_with fail
    refine (frac_norm nb a' n' c' la' b' m' d' lb' _ HA'.out HC'.out (by omega) (by omega)).mono ?_
    rintro e wu1 ⟨a1, n1, c1, b1, m1, d1, rfl, h1, g1, b⟩
    clear uk0 uk1 uk2 uk3 uk4 uk5 uk6 uk7 uk8
    replace HB := Lib.hid (below_then HB.out b)
    replace HX := Lib.hid (blk_later HX.out b)
    replace HY := Lib.hid (blk_later HY.out b)
    replace HR := Lib.hid (blk_later HR.out b)
    clear HA'
    clear HC'
    clear b
    rw [HQ0.out] at h1 g1 ⊢
    have R1 := Lib.hid h1
    have T1 := Lib.hid g1
    clear h1 g1
    unfold frV
    have q0 := blk_cell HR.out 0
    have q1 := blk_cell HR.out 1
    have q2 := blk_cell HR.out 2
    simp only [List.getElem?_toArray, List.getElem?_cons_zero, List.getElem?_cons_succ] at q0 q1 q2
    have f0 := blk_free HR.out 0
    have f1 := blk_free HR.out 1
    have f2 := blk_free HR.out 2
    replace HX := Lib.hid (blk_far3 HX.out (show w.heap.size ≠ w.heap.size + 1 + 1 by omega) (.bool (zneg q.num)) (.slice a1 n1 c1) (.slice b1 m1 d1))
    replace HY := Lib.hid (blk_far3 HY.out (show w.heap.size + 1 ≠ w.heap.size + 1 + 1 by omega) (.bool (zneg q.num)) (.slice a1 n1 c1) (.slice b1 m1 d1))
    replace R1 := Lib.hid (R1.out.stored3 HR.out ((zneg q.num)) a1 n1 c1 (.slice b1 m1 d1))
    replace T1 := Lib.hid (T1.out.stored3 HR.out ((zneg q.num)) a1 n1 c1 (.slice b1 m1 d1))
    replace HB := Lib.hid (below_set3 HB.out (show w.heap.size ≤ w.heap.size + 1 + 1 by omega) (.bool (zneg q.num)) (.slice a1 n1 c1) (.slice b1 m1 d1))
    replace HR := Lib.hid (blk_set3 HR.out (.bool (zneg q.num)) (.slice a1 n1 c1) (.slice b1 m1 d1))
    go_wp2
    refine bodyPost_ret (results_cell_row Tryz.results43 _ _ (w.heap.size + 1 + 1) 41 #[.bool (zneg q.num), .slice a1 n1 c1, .slice b1 m1 d1] (0, 0) _ rfl HR.out Tryz.underlying41 rfl (by kernel_rfl)) rfl ?_
    exact ⟨a1, n1, c1, b1, m1, d1, rfl, R1.out, T1.out, HB.out⟩
  · have hq : (x == 0) = false := by simp [hx0]
    have HV := Lib.hid (H1A.out hx0)
    clear hx0 H0A H1A
    obtain ⟨uk0, uk1, uk2, uk3, uk4, uk5, uk6, uk7, uk8⟩ := fcells_3_3_3 HX.out HY.out HR.out
    go_wp2_with fail
    refine (frac_sign nb a' n' c' la' b' m' d' lb' _ HA'.out HC'.out (by omega) (by omega)).mono ?_
    rintro e wu1 ⟨rfl, b⟩
    clear uk0 uk1 uk2 uk3 uk4 uk5 uk6 uk7 uk8
    replace HB := Lib.hid (below_then HB.out b)
    replace HX := Lib.hid (blk_later HX.out b)
    replace HY := Lib.hid (blk_later HY.out b)
    replace HR := Lib.hid (blk_later HR.out b)
    replace HA := Lib.hid (HA.out.later b)
    replace HC := Lib.hid (HC.out.later b)
    replace HA' := Lib.hid (HA'.out.later b)
    replace HC' := Lib.hid (HC'.out.later b)
    clear b
    rw [HR9.out]
    generalize sgn r.num = y at *
    by_cases hy0 : y = 0
    · have hr : (y == 0) = true := by simp [hy0]
      have HQ0 : Hid (qval na (val la) (val lb) = q) := Lib.hid (HP.out.trans (H0B.out hy0))
      clear hy0 H0B H1B HZ HA' HC' zl1 zl2 zl3 zl4 lX lY
      obtain ⟨tk0, tk1, tk2, tk3, tk4, tk5, tk6, tk7, tk8⟩ := fcells_3_3_3 HX.out HY.out HR.out
      go_wp2_with fail
      refine (frac_norm na a n cap la b m cap' lb _ HA.out HC.out (by omega) (by omega)).mono ?_
      rintro e wt1 ⟨a1, n1, c1, b1, m1, d1, rfl, h1, g1, b⟩
      clear tk0 tk1 tk2 tk3 tk4 tk5 tk6 tk7 tk8
      replace HB := Lib.hid (below_then HB.out b)
      replace HX := Lib.hid (blk_later HX.out b)
      replace HY := Lib.hid (blk_later HY.out b)
      replace HR := Lib.hid (blk_later HR.out b)
      clear HA
      clear HC
      clear b
      rw [HQ0.out] at h1 g1 ⊢
      have R1 := Lib.hid h1
      have T1 := Lib.hid g1
      clear h1 g1
      unfold frV
      have q0 := blk_cell HR.out 0
      have q1 := blk_cell HR.out 1
      have q2 := blk_cell HR.out 2
      simp only [List.getElem?_toArray, List.getElem?_cons_zero, List.getElem?_cons_succ] at q0 q1 q2
      have f0 := blk_free HR.out 0
      have f1 := blk_free HR.out 1
      have f2 := blk_free HR.out 2
      replace HX := Lib.hid (blk_far3 HX.out (show w.heap.size ≠ w.heap.size + 1 + 1 by omega) (.bool (zneg q.num)) (.slice a1 n1 c1) (.slice b1 m1 d1))
      replace HY := Lib.hid (blk_far3 HY.out (show w.heap.size + 1 ≠ w.heap.size + 1 + 1 by omega) (.bool (zneg q.num)) (.slice a1 n1 c1) (.slice b1 m1 d1))
      replace R1 := Lib.hid (R1.out.stored3 HR.out ((zneg q.num)) a1 n1 c1 (.slice b1 m1 d1))
      replace T1 := Lib.hid (T1.out.stored3 HR.out ((zneg q.num)) a1 n1 c1 (.slice b1 m1 d1))
      replace HB := Lib.hid (below_set3 HB.out (show w.heap.size ≤ w.heap.size + 1 + 1 by omega) (.bool (zneg q.num)) (.slice a1 n1 c1) (.slice b1 m1 d1))
      replace HR := Lib.hid (blk_set3 HR.out (.bool (zneg q.num)) (.slice a1 n1 c1) (.slice b1 m1 d1))
      go_wp2
      refine bodyPost_ret (results_cell_row Tryz.results43 _ _ (w.heap.size + 1 + 1) 41 #[.bool (zneg q.num), .slice a1 n1 c1, .slice b1 m1 d1] (0, 0) _ rfl HR.out Tryz.underlying41 rfl (by kernel_rfl)) rfl ?_
      exact ⟨a1, n1, c1, b1, m1, d1, rfl, R1.out, T1.out, HB.out⟩
    · have hr : (y == 0) = false := by simp [hy0]
      have HZ2 := Lib.hid (HZ.out HV.out (H1B.out hy0))
      clear hy0 H0B H1B HZ HV
      obtain ⟨tk0, tk1, tk2, tk3, tk4, tk5, tk6, tk7, tk8⟩ := fcells_3_3_3 HX.out HY.out HR.out
      go_wp2_with fail
      refine (common_cancel b m cap' lb b' m' d' lb' _ HC.out HC'.out (by omega) (by omega)).mono ?_
      rintro e wt1 ⟨ax, nx, cx, ay, ny, cy, rfl, hX, hY, b⟩
      clear tk0 tk1 tk2 tk3 tk4 tk5 tk6 tk7 tk8
      replace HB := Lib.hid (below_then HB.out b)
      replace HX := Lib.hid (blk_later HX.out b)
      replace HY := Lib.hid (blk_later HY.out b)
      replace HR := Lib.hid (blk_later HR.out b)
      replace HA := Lib.hid (HA.out.later b)
      replace HC := Lib.hid (HC.out.later b)
      replace HA' := Lib.hid (HA'.out.later b)
      replace HC' := Lib.hid (HC'.out.later b)
      clear b
      rw [EX.out] at hX
      rw [EY.out] at hY
      have lnx := hX.len
      have lny := hY.len
      have RX := Lib.hid hX
      have RY := Lib.hid hY
      clear hX hY
      obtain ⟨tk0, tk1, tk2, tk3, tk4, tk5, tk6, tk7, tk8⟩ := fcells_3_3_3 HX.out HY.out HR.out
      go_wp2
      clear tk0 tk1 tk2 tk3 tk4 tk5 tk6 tk7 tk8
      replace HB := Lib.hid (below_then HB.out ((Below.refl _ _).drew : Below wt1.heap.size wt1 wt1.drew))
      replace HX : Hid (wt1.drew.heap[w.heap.size]? = _) := Lib.hid HX.out
      replace HY : Hid (wt1.drew.heap[w.heap.size + 1]? = _) := Lib.hid HY.out
      replace HR : Hid (wt1.drew.heap[w.heap.size + 1 + 1]? = some (.cells #[.bool false, .slice none 0 0, .slice none 0 0] 41 (0, 0))) := Lib.hid HR.out
      replace HA := Lib.hid (HA.out.later ((Below.refl _ _).drew : Below wt1.heap.size wt1 wt1.drew))
      replace HC := Lib.hid (HC.out.later ((Below.refl _ _).drew : Below wt1.heap.size wt1 wt1.drew))
      replace HA' := Lib.hid (HA'.out.later ((Below.refl _ _).drew : Below wt1.heap.size wt1 wt1.drew))
      replace HC' := Lib.hid (HC'.out.later ((Below.refl _ _).drew : Below wt1.heap.size wt1 wt1.drew))
      replace RX := Lib.hid (RX.out.later ((Below.refl _ _).drew : Below wt1.heap.size wt1 wt1.drew))
      replace RY := Lib.hid (RY.out.later ((Below.refl _ _).drew : Below wt1.heap.size wt1 wt1.drew))
      have pSn := fcells_3_3 HX.out HY.out
      go_region_held3 (fun w' => w'.cell? ⟨w.heap.size, 0, none⟩ = some (.bool na) ∧ w'.cell? ⟨w.heap.size, 1, none⟩ = some (.slice a n cap) ∧ w'.cell? ⟨w.heap.size, 2, none⟩ = some (.slice b m cap') ∧ w'.cell? ⟨w.heap.size + 1, 0, none⟩ = some (.bool nb) ∧ w'.cell? ⟨w.heap.size + 1, 1, none⟩ = some (.slice a' n' c') ∧ w'.cell? ⟨w.heap.size + 1, 2, none⟩ = some (.slice b' m' d')) (first | exact pSn | exact pSb _ _ _)
        (first
        | (go_at_call 80; (first
          | (have pm1 := pM1; refine (frac_times nb a' n' c' la' ax nx cx _ _ HA'.out RX.out (by omega) (by omega)).mono ?_; rintro e wp2 ⟨a2, n2, c2, rfl, h2, b⟩; replace HB := Lib.hid (below_then HB.out b); replace HX := Lib.hid (blk_later HX.out b); replace HY := Lib.hid (blk_later HY.out b); replace HR := Lib.hid (blk_later HR.out b); replace HA := Lib.hid (HA.out.later b); replace HC := Lib.hid (HC.out.later b); replace HA' := Lib.hid (HA'.out.later b); replace HC' := Lib.hid (HC'.out.later b); replace RX := Lib.hid (RX.out.later b); replace RY := Lib.hid (RY.out.later b); replace R1 := Lib.hid (R1.out.later b); rw [HS2.out] at h2 ⊢; have R2 := Lib.hid h2; have ln2 := h2.len; clear h2; unfold whV; clear b; clear pSn; have pSn := fcells_3_3 HX.out HY.out; clear pM1 pm1; have pM2 := True.intro)
          | (refine (frac_times na a n cap la ay ny cy _ _ HA.out RY.out (by omega) (by omega)).mono ?_; rintro e wp1 ⟨a1, n1, c1, rfl, h1, b⟩; replace HB := Lib.hid (below_then HB.out b); replace HX := Lib.hid (blk_later HX.out b); replace HY := Lib.hid (blk_later HY.out b); replace HR := Lib.hid (blk_later HR.out b); replace HA := Lib.hid (HA.out.later b); replace HC := Lib.hid (HC.out.later b); replace HA' := Lib.hid (HA'.out.later b); replace HC' := Lib.hid (HC'.out.later b); replace RX := Lib.hid (RX.out.later b); replace RY := Lib.hid (RY.out.later b); rw [HS1.out] at h1 ⊢; have R1 := Lib.hid h1; have ln1 := h1.len; clear h1; unfold whV; clear b; clear pSn; have pSn := fcells_3_3 HX.out HY.out; have pM1 := True.intro)))
        | (go_at_call 79; (first
          | (have pm2 := pM2; refine (whole_add _ a1 n1 c1 _ _ a2 n2 c2 _ _ R1.out R2.out (by omega) (by omega)).mono ?_; rintro e wp3 ⟨a3, n3, c3, rfl, h3, b⟩; replace HB := Lib.hid (below_then HB.out b); replace HX := Lib.hid (blk_later HX.out b); replace HY := Lib.hid (blk_later HY.out b); replace HR := Lib.hid (blk_later HR.out b); replace HA := Lib.hid (HA.out.later b); replace HC := Lib.hid (HC.out.later b); replace HA' := Lib.hid (HA'.out.later b); replace HC' := Lib.hid (HC'.out.later b); replace RX := Lib.hid (RX.out.later b); replace RY := Lib.hid (RY.out.later b); clear R1; clear R2; rw [zval_dg, zval_dg] at h3 ⊢; have R3 := Lib.hid h3; have ln3 := h3.len; clear h3; unfold whV; clear b; clear pSn; have pSn := fcells_3_3 HX.out HY.out; clear pM2 pm2; have pM3 := True.intro)))
        | (go_at_call 81; (first
          | (have pm3 := pM3; refine (prod_mul b m cap' lb ay ny cy _ _ HC.out RY.out (by omega) (by omega)).mono ?_; rintro e wp4 ⟨b4, m4, d4, rfl, h4, b⟩; replace HB := Lib.hid (below_then HB.out b); replace HX := Lib.hid (blk_later HX.out b); replace HY := Lib.hid (blk_later HY.out b); replace HR := Lib.hid (blk_later HR.out b); replace HA := Lib.hid (HA.out.later b); replace HC := Lib.hid (HC.out.later b); replace HA' := Lib.hid (HA'.out.later b); replace HC' := Lib.hid (HC'.out.later b); replace RX := Lib.hid (RX.out.later b); replace RY := Lib.hid (RY.out.later b); replace R3 := Lib.hid (R3.out.later b); rw [HD.out] at h4; have R4 := Lib.hid h4; have ln4 := h4.len; clear h4; clear b; clear pSn; have pSn := fcells_3_3 HX.out HY.out; clear pM3 pm3; have pM4 := True.intro)))
        | (go_at_call 77; (first
          | (have pm4 := pM4; refine (frac_norm _ a3 n3 c3 _ b4 m4 d4 _ _ R3.out R4.out (by omega) (by omega)).mono ?_; rintro e wp5 ⟨a5, n5, c5, b5, m5, d5, rfl, h5, g5, b⟩; replace HB := Lib.hid (below_then HB.out b); replace HX := Lib.hid (blk_later HX.out b); replace HY := Lib.hid (blk_later HY.out b); replace HR := Lib.hid (blk_later HR.out b); replace HA := Lib.hid (HA.out.later b); replace HC := Lib.hid (HC.out.later b); replace HA' := Lib.hid (HA'.out.later b); replace HC' := Lib.hid (HC'.out.later b); replace RX := Lib.hid (RX.out.later b); replace RY := Lib.hid (RY.out.later b); clear R3; clear R4; rw [HZ2.out] at h5 g5 ⊢; have R5 := Lib.hid h5; have T5 := Lib.hid g5; clear h5 g5; obtain ⟨r0, r1, r2⟩ := fcells_3 HR.out; have f0 := blk_free HR.out 0; have f1 := blk_free HR.out 1; have f2 := blk_free HR.out 2; have pSb := fun u v q => fcells_3_3 (blk_far3 (g := w.heap.size + 1 + 1) HX.out (by omega) u v q) (blk_far3 (g := w.heap.size + 1 + 1) HY.out (by omega) u v q); unfold frV; clear b; clear pSn; have pSn := fcells_3_3 HX.out HY.out; clear pM4 pm4; have pM5 := True.intro))))
      have HG := Lib.hid (blk_set3 HR.out (.bool (zneg q.num)) (.slice a5 n5 c5) (.slice b5 m5 d5))
      have HL := Lib.hid (below_set3 HB.out (show w.heap.size ≤ w.heap.size + 1 + 1 by omega) (.bool (zneg q.num)) (.slice a5 n5 c5) (.slice b5 m5 d5))
      have HW1 := Lib.hid (R5.out.stored3 HR.out (zneg q.num) a5 n5 c5 (.slice b5 m5 d5))
      have HW2 := Lib.hid (T5.out.stored3 HR.out (zneg q.num) a5 n5 c5 (.slice b5 m5 d5))
      go_wp2
      refine bodyPost_ret (results_cell_row Tryz.results43 _ _ (w.heap.size + 1 + 1) 41 #[.bool (zneg q.num), .slice a5 n5 c5, .slice b5 m5 d5] (0, 0) _ rfl HG.out Tryz.underlying41 rfl (by kernel_rfl)) rfl ?_
      exact ⟨a5, n5, c5, b5, m5, d5, rfl, HW1.out, HW2.out, HL.out⟩
set_option maxRecDepth 4096 in
set_option maxHeartbeats 4000000 in
theorem frac_sub (na : Bool) (a : Option Addr) (n cap : Nat) (la : List Nat) (b : Option Addr) (m cap' : Nat) (lb : List Nat) (nb : Bool) (a' : Option Addr) (n' c' : Nat) (la' : List Nat) (b' : Option Addr) (m' d' : Nat) (lb' : List Nat) (w : World) (ha : Wd w a n cap la) (hb : Wd w b m cap' lb) (ha' : Wd w a' n' c' la') (hb' : Wd w b' m' d' lb') (hn : n ≤ 9000) (hm : m ≤ 9000) (hn' : n' ≤ 9000) (hm' : m' ≤ 9000) :
    Calls Tryz.prog 64 #[frV na a n cap b m cap', frV nb a' n' c' b' m' d'] w (LstQ (qval na (val la) (val lb) - qval nb (val la') (val lb')) w) := by
  have HB := Lib.hid (below_then (below_then (below_alloc w (.cells #[.bool na, .slice a n cap, .slice b m cap'] 41)) (below_alloc _ (.cells #[.bool nb, .slice a' n' c', .slice b' m' d'] 41))) (below_alloc _ (.cells #[.bool false, .slice none 0 0, .slice none 0 0] 41)))
  have HA := Lib.hid (ha.later HB.out)
  have HC := Lib.hid (hb.later HB.out)
  have HA' := Lib.hid (ha'.later HB.out)
  have HC' := Lib.hid (hb'.later HB.out)
  obtain ⟨hx1, hx2, hx3⟩ := boxes3_at9 w #[.bool na, .slice a n cap, .slice b m cap'] #[.bool nb, .slice a' n' c', .slice b' m' d'] #[.bool false, .slice none 0 0, .slice none 0 0] 41 41 41
  have HX := Lib.hid hx1
  have HY := Lib.hid hx2
  have HR := Lib.hid hx3
  have ta := ha.trim_le
  have tb := hb.trim_le
  have ta' := ha'.trim_le
  have tb' := hb'.trim_le
  clear ha hb ha' hb' hx1 hx2 hx3
  obtain ⟨q, hq⟩ : ∃ q, qval na (val la) (val lb) - qval nb (val la') (val lb') = q := ⟨_, rfl⟩
  rw [hq]
  have HQ := Lib.hid hq
  clear hq
  have HT : Hid (qval na (val la) (val lb) + qval (!nb) (val la') (val lb') = q) := Lib.hid (by rw [fc_qval_neg, ← Rat.sub_eq_add_neg, HQ.out])
  go_enter Tryz.func64, Tryz.ntmps64
  unfold frV
  go_wp2
  generalize (((w.alloc (.cells #[.bool na, .slice a n cap, .slice b m cap'] 41)).alloc (.cells #[.bool nb, .slice a' n' c', .slice b' m' d'] 41)).alloc (.cells #[.bool false, .slice none 0 0, .slice none 0 0] 41)) = W at *
  replace HB := Lib.hid (below_then HB.out ((Below.refl _ _).drew : Below W.heap.size W W.drew))
  replace HX : Hid (W.drew.heap[w.heap.size]? = _) := Lib.hid HX.out
  replace HY : Hid (W.drew.heap[w.heap.size + 1]? = _) := Lib.hid HY.out
  replace HR : Hid (W.drew.heap[w.heap.size + 1 + 1]? = some (.cells #[.bool false, .slice none 0 0, .slice none 0 0] 41 (0, 0))) := Lib.hid HR.out
  replace HA := Lib.hid (HA.out.later ((Below.refl _ _).drew : Below W.heap.size W W.drew))
  replace HC := Lib.hid (HC.out.later ((Below.refl _ _).drew : Below W.heap.size W W.drew))
  replace HA' := Lib.hid (HA'.out.later ((Below.refl _ _).drew : Below W.heap.size W W.drew))
  replace HC' := Lib.hid (HC'.out.later ((Below.refl _ _).drew : Below W.heap.size W W.drew))
  have pSn := fcells_3_3 HX.out HY.out
  go_region_held3 (fun w' => w'.cell? ⟨w.heap.size, 0, none⟩ = some (.bool na) ∧ w'.cell? ⟨w.heap.size, 1, none⟩ = some (.slice a n cap) ∧ w'.cell? ⟨w.heap.size, 2, none⟩ = some (.slice b m cap') ∧ w'.cell? ⟨w.heap.size + 1, 0, none⟩ = some (.bool nb) ∧ w'.cell? ⟨w.heap.size + 1, 1, none⟩ = some (.slice a' n' c') ∧ w'.cell? ⟨w.heap.size + 1, 2, none⟩ = some (.slice b' m' d')) (first | exact pSn | exact pSb _ _ _)
    (first
    | (go_at_call 98; (first
      | (refine (frac_turned nb a' n' c' b' m' d' _).mono ?_; rintro e wp1 ⟨rfl, b⟩; replace HB := Lib.hid (below_then HB.out b); replace HX := Lib.hid (blk_later HX.out b); replace HY := Lib.hid (blk_later HY.out b); replace HR := Lib.hid (blk_later HR.out b); replace HA := Lib.hid (HA.out.later b); replace HC := Lib.hid (HC.out.later b); replace HA' := Lib.hid (HA'.out.later b); replace HC' := Lib.hid (HC'.out.later b); unfold frV; clear b; clear pSn; have pSn := fcells_3_3 HX.out HY.out; have pM1 := True.intro)))
    | (go_at_call 43; (first
      | (have pm1 := pM1; refine (frac_add na a n cap la b m cap' lb (!nb) a' n' c' la' b' m' d' lb' _ HA.out HC.out HA'.out HC'.out hn hm hn' hm').mono ?_; rintro e wp2 ⟨a1, n1, c1, b1, m1, d1, rfl, h1, g1, b⟩; replace HB := Lib.hid (below_then HB.out b); replace HX := Lib.hid (blk_later HX.out b); replace HY := Lib.hid (blk_later HY.out b); replace HR := Lib.hid (blk_later HR.out b); replace HA := Lib.hid (HA.out.later b); replace HC := Lib.hid (HC.out.later b); replace HA' := Lib.hid (HA'.out.later b); replace HC' := Lib.hid (HC'.out.later b); rw [HT.out] at h1 g1 ⊢; have R1 := Lib.hid h1; have T1 := Lib.hid g1; clear h1 g1; obtain ⟨r0, r1, r2⟩ := fcells_3 HR.out; have f0 := blk_free HR.out 0; have f1 := blk_free HR.out 1; have f2 := blk_free HR.out 2; have pSb := fun u v q => fcells_3_3 (blk_far3 (g := w.heap.size + 1 + 1) HX.out (by omega) u v q) (blk_far3 (g := w.heap.size + 1 + 1) HY.out (by omega) u v q); unfold frV; clear b; clear pSn; have pSn := fcells_3_3 HX.out HY.out; clear pM1 pm1; have pM2 := True.intro))))
  have HG := Lib.hid (blk_set3 HR.out (.bool (zneg q.num)) (.slice a1 n1 c1) (.slice b1 m1 d1))
  have HL := Lib.hid (below_set3 HB.out (show w.heap.size ≤ w.heap.size + 1 + 1 by omega) (.bool (zneg q.num)) (.slice a1 n1 c1) (.slice b1 m1 d1))
  have HW1 := Lib.hid (R1.out.stored3 HR.out (zneg q.num) a1 n1 c1 (.slice b1 m1 d1))
  have HW2 := Lib.hid (T1.out.stored3 HR.out (zneg q.num) a1 n1 c1 (.slice b1 m1 d1))
  go_wp2
  refine bodyPost_ret (results_cell_row Tryz.results64 _ _ (w.heap.size + 1 + 1) 41 #[.bool (zneg q.num), .slice a1 n1 c1, .slice b1 m1 d1] (0, 0) _ rfl HG.out Tryz.underlying41 rfl (by kernel_rfl)) rfl ?_
  exact ⟨a1, n1, c1, b1, m1, d1, rfl, HW1.out, HW2.out, HL.out⟩
end Go.Proofs.YtjeigdlhjghinaaGreatDoor

/-
  Package frac at this seat: slices.MaxFunc of fractions by Cmp, Max.
-/
namespace Go.Proofs.YtjeigdlhjghinaaGreatDoor
open Go.RowKit

theorem six_held9 {a b c d e f : Prop} (h : a ∧ b ∧ c) (k : d ∧ e ∧ f) : a ∧ b ∧ c ∧ d ∧ e ∧ f := ⟨h.1, h.2.1, h.2.2, k⟩
theorem sgn_gt9 (p q : Rat) : 0 < sgn (p - q).num ↔ q < p := by
  have h1 : 0 < sgn (p - q).num ↔ 0 < (p - q).num := by unfold sgn; split <;> (try split) <;> omega
  rw [h1, Rat.lt_iff_sub_pos q p, Rat.lt_iff_le_and_ne (a := 0), ← Rat.num_nonneg]
  constructor
  · intro h; exact ⟨by omega, fun e => by rw [← e] at h; simp at h⟩
  · rintro ⟨h2, h3⟩
    have : (p - q).num ≠ 0 := fun e => h3 (Rat.num_eq_zero.1 e).symm
    omega
theorem three_later9 {w w' : World} {p q r : Addr} {x y z : Value} (h : w.cell? p = some x ∧ w.cell? q = some y ∧ w.cell? r = some z) (hb : Below w.heap.size w w') : w'.cell? p = some x ∧ w'.cell? q = some y ∧ w'.cell? r = some z := ⟨cell_later hb h.1, cell_later hb h.2.1, cell_later hb h.2.2⟩
theorem take_more {L : List Fx} {k : Nat} (h : k < L.length) : L.take (k + 1) = L.take k ++ [L.getD k Fx.zero] := by
  rw [List.take_succ_eq_append_getElem h, List.getD_eq_getElem?_getD, List.getElem?_eq_getElem h]; rfl
theorem getD_mem {L : List Fx} {k : Nat} (h : k < L.length) : L.getD k Fx.zero ∈ L := by
  rw [List.getD_eq_getElem?_getD, List.getElem?_eq_getElem h]; exact List.getElem_mem h
set_option maxRecDepth 4096 in
set_option maxHeartbeats 4000000 in
theorem frac_maxfunc (a : Option Addr) (n cap : Nat) (L : List Fx) (w : World) (h : Fxs w a n cap L) (h0 : 0 < n) (hn : n ≤ 1000) (hl : ∀ x ∈ L, x.n ≤ 2000 ∧ x.m ≤ 2000) :
    Calls Tryz.prog 88 #[.slice a n cap, .func (.func 45) #[] #[]] w (fun e w' => ∃ x : Fx, x ∈ L ∧ e = .returned (frV x.s x.a x.n x.c x.b x.m x.d) ∧ x.q = qmax (L.map Fx.q) ∧ Below w.heap.size w w') := by
  have hbd := h.bound
  have hLl := h.len
  have HL := Lib.hid hl
  have HLl := Lib.hid hLl
  have HK := Lib.hid h
  obtain ⟨bb, off, rfl, e0, e1, e2, hok⟩ := h.at h0
  have hm0 : L.getD 0 Fx.zero ∈ L := getD_mem (by omega)
  have hq0 : (L.getD 0 Fx.zero).q = qmax ((L.take 1).map Fx.q) := by rw [take_more (by omega)]; rfl
  have hat : ∀ k, k < n → w.cell? ⟨bb, off + k * 3, none⟩ = some (.bool (L.getD k Fx.zero).s) ∧ w.cell? ⟨bb, off + k * 3 + 1, none⟩ = some (.slice (L.getD k Fx.zero).a (L.getD k Fx.zero).n (L.getD k Fx.zero).c) ∧ w.cell? ⟨bb, off + k * 3 + 2, none⟩ = some (.slice (L.getD k Fx.zero).b (L.getD k Fx.zero).m (L.getD k Fx.zero).d) := fun k hk => by
    obtain ⟨b2, o2, e, h1, h2, h3, _⟩ := h.at hk
    simp only [Option.some.injEq, Addr.mk.injEq, and_true] at e
    obtain ⟨rfl, rfl⟩ := e
    exact ⟨h1, h2, h3⟩
  have HAT := Lib.hid hat
  have HM0 := Lib.hid hm0
  have HQ0 := Lib.hid hq0
  clear h hl hLl hok hm0 hq0 hat
  generalize L.getD 0 Fx.zero = x at *
  have HB := Lib.hid (below_alloc w (.cells #[.bool false, .slice none 0 0, .slice none 0 0] 41))
  have HE : Hid (w.cell? ⟨bb, off + 0 * 3, none⟩ = some (.bool x.s) ∧ w.cell? ⟨bb, off + 0 * 3 + 1, none⟩ = some (.slice x.a x.n x.c) ∧ w.cell? ⟨bb, off + 0 * 3 + 2, none⟩ = some (.slice x.b x.m x.d)) := Lib.hid ⟨e0, e1, e2⟩
  clear e0 e1 e2
  obtain ⟨e0, e1, e2⟩ := three_later9 HE.out HB.out
  simp only [Nat.zero_mul, Nat.add_zero] at e0 e1 e2
  have hn1 : ¬ (n : Int) < 1 := by omega
  have hn0 : (0 : Int) < (n : Int) := by omega
  go_enter Tryz.func88, Tryz.ntmps88
  go_wp2
  obtain ⟨hr0, hx0⟩ := boxes_at w ((w.alloc (.cells #[.bool false, .slice none 0 0, .slice none 0 0] 41)).alloc (.cells #[.bool x.s, .slice x.a x.n x.c, .slice x.b x.m x.d] 41)) #[.bool false, .slice none 0 0, .slice none 0 0] #[.bool x.s, .slice x.a x.n x.c, .slice x.b x.m x.d] 41 41 (Below.refl _ _)
  have HR0 := Lib.hid hr0
  have HX0 := Lib.hid hx0
  have HB0 := Lib.hid (below_then HB.out (below_alloc _ (.cells #[.bool x.s, .slice x.a x.n x.c, .slice x.b x.m x.d] 41)))
  clear hr0 hx0 e0 e1 e2 HE HB hn1
  go_loopw [6] (fun iv wr => ∃ (k : Nat) (x : Fx), 1 ≤ k ∧ k ≤ n ∧ iv = .int .i64 (k : Int) ∧ Hid (x ∈ L) ∧ Hid (x.q = qmax ((L.take k).map Fx.q)) ∧ Hid (wr.heap[w.heap.size]? = some (.cells #[.bool false, .slice none 0 0, .slice none 0 0] 41 (0, 0))) ∧ Hid (wr.heap[w.heap.size + 1]? = some (.cells #[.bool x.s, .slice x.a x.n x.c, .slice x.b x.m x.d] 41 (0, 0))) ∧ Hid (Below w.heap.size w wr)) (fun iv _ => n - (intOf iv).toNat)
  case atStart => exact ⟨1, x, by omega, by omega, rfl, HM0, HQ0, HR0, HX0, HB0⟩
  case round =>
    clear HM0 HQ0 HR0 HX0 HB0
    obtain ⟨k, x, hk1, hk, rfl, HM, HQ, HR, HX, HB⟩ := hrel
    by_cases hlt : k < n
    · have hke := HAT.out k hlt
      have hkm : L.getD k Fx.zero ∈ L := getD_mem (by rw [HLl.out]; exact hlt)
      have HT : Hid (L.take (k + 1) = L.take k ++ [L.getD k Fx.zero]) := Lib.hid (take_more (by rw [HLl.out]; exact hlt))
      generalize L.getD k Fx.zero = y at *
      have HMy := Lib.hid hkm
      have hly := HL.out y hkm
      have hlx := HL.out x HM.out
      have HOy := Lib.hid (HK.out.ok hkm)
      have HOx := Lib.hid (HK.out.ok HM.out)
      obtain ⟨ys, ya, yn, yc, yla, yb, ym, yd, ylb⟩ := y
      obtain ⟨xs, xa, xn, xc, xla, xb, xm, xd, xlb⟩ := x
      simp only at hke hly hlx HX
      have HE := Lib.hid hke
      obtain ⟨cc, hcc⟩ : ∃ r, sgn (qval ys (val yla) (val ylb) - qval xs (val xla) (val xlb)).num = r := ⟨_, rfl⟩
      have EC := Lib.hid hcc
      have Hle : Hid (0 < cc ↔ qval xs (val xla) (val xlb) < qval ys (val yla) (val ylb)) := Lib.hid (by rw [← hcc]; exact sgn_gt9 _ _)
      have HM9 : Hid ((L.take (k + 1)).map Fx.q = (L.take k).map Fx.q ++ [qval ys (val yla) (val ylb)]) := Lib.hid (by rw [HT.out, List.map_append]; rfl)
      have hne0 : Hid ((L.take k).map Fx.q ≠ []) := Lib.hid (fun e => by
        have e3 := congrArg List.length e
        rw [List.length_map, List.length_take, HLl.out] at e3
        simp at e3
        omega)
      have HQx : Hid (qval xs (val xla) (val xlb) = qmax ((L.take k).map Fx.q)) := Lib.hid HQ.out
      have hki : (k : Int) < (n : Int) := by omega
      have hk0 : (0 : Int) ≤ (k : Int) := by omega
      clear hkm hke hcc HT HQ
      go_wp2
      have HXd : Hid (wr.drew.heap[w.heap.size + 1]? = some (.cells #[.bool xs, .slice xa xn xc, .slice xb xm xd] 41 (0, 0))) := Lib.hid HX.out
      have HBd : Hid (Below w.heap.size w wr.drew) := Lib.hid HB.out.drew
      have Hd : Hid (Below wr.heap.size wr wr.drew) := Lib.hid (Below.refl _ _).drew
      have Sn0 := six_held9 (three_later9 HE.out HBd.out) (fcells_3 HXd.out)
      go_region_held3 (fun w' => w'.cell? ⟨bb, off + k * 3, none⟩ = some (.bool ys) ∧ w'.cell? ⟨bb, off + k * 3 + 1, none⟩ = some (.slice ya yn yc) ∧ w'.cell? ⟨bb, off + k * 3 + 2, none⟩ = some (.slice yb ym yd) ∧ w'.cell? ⟨w.heap.size + 1, 0, none⟩ = some (.bool xs) ∧ w'.cell? ⟨w.heap.size + 1, 1, none⟩ = some (.slice xa xn xc) ∧ w'.cell? ⟨w.heap.size + 1, 2, none⟩ = some (.slice xb xm xd)) (first | with_reducible exact Sn0 | with_reducible exact Sn1)
        (first
        | (go_at_call 45; (refine (frac_cmp ys ya yn yc yla yb ym yd ylb xs xa xn xc xla xb xm xd xlb _ (HOy.out.later HBd.out).1 (HOy.out.later HBd.out).2 (HOx.out.later HBd.out).1 (HOx.out.later HBd.out).2 (by omega) (by omega) (by omega) (by omega)).mono ?_); rintro e w7 ⟨rfl, bx⟩; rw [EC.out]; have Sn1 := six_held9 (three_later9 HE.out (below_then HBd.out bx)) (fcells_3 (blk_later HXd.out bx))))
      have bt := below_then Hd.out bx
      replace HB := Lib.hid (below_then HB.out bt)
      replace HX := Lib.hid (blk_later HX.out bt)
      replace HR := Lib.hid (blk_later HR.out bt)
      clear bt bx HXd HBd Hd Sn0 Sn1
      by_cases hgt : 0 < cc
      · have HQ9 : Hid (qval ys (val yla) (val ylb) = qmax ((L.take (k + 1)).map Fx.q)) := Lib.hid (by rw [HM9.out, qmax_snoc hne0.out, ← HQx.out, if_pos (Hle.out.1 hgt)])
        have hd9 : decide (0 < cc) = true := decide_eq_true hgt
        obtain ⟨e0, e1, e2⟩ := three_later9 HE.out HB.out
        have v0 := blk_cell HX.out 0
        have v1 := blk_cell HX.out 1
        have v2 := blk_cell HX.out 2
        simp only [List.getElem?_toArray, List.getElem?_cons_zero, List.getElem?_cons_succ] at v0 v1 v2
        have f0 := blk_free HX.out 0
        have f1 := blk_free HX.out 1
        have f2 := blk_free HX.out 2
        have HX9 := Lib.hid (blk_set3 HX.out (.bool ys) (.slice ya yn yc) (.slice yb ym yd))
        have HR9 := Lib.hid (blk_far3 HR.out (show w.heap.size ≠ w.heap.size + 1 by omega) (.bool ys) (.slice ya yn yc) (.slice yb ym yd))
        have HB9 := Lib.hid (below_set3 HB.out (show w.heap.size ≤ w.heap.size + 1 by omega) (.bool ys) (.slice ya yn yc) (.slice yb ym yd))
        clear HX HR HB
        go_wp2
        go_roundw
        case rel => exact ⟨k + 1, ⟨ys, ya, yn, yc, yla, yb, ym, yd, ylb⟩, by omega, by omega, by go_num, HMy, HQ9, HR9, HX9, HB9⟩
        case measure => simp [intOf]; omega
      · have HQ9 : Hid (qval xs (val xla) (val xlb) = qmax ((L.take (k + 1)).map Fx.q)) := Lib.hid (by rw [HM9.out, qmax_snoc hne0.out, ← HQx.out, if_neg (fun h => hgt (Hle.out.2 h))])
        have hd9 : decide (0 < cc) = false := decide_eq_false hgt
        go_wp2
        go_roundw
        case rel => exact ⟨k + 1, ⟨xs, xa, xn, xc, xla, xb, xm, xd, xlb⟩, by omega, by omega, by go_num, HM, HQ9, HR, HX, HB⟩
        case measure => simp [intOf]; omega
    · obtain rfl : k = n := by omega
      have HQ9 : Hid (x.q = qmax (L.map Fx.q)) := Lib.hid (by rw [HQ.out, List.take_of_length_le (by rw [HLl.out]; exact Nat.le_refl _)])
      obtain ⟨k0, k1, k2⟩ := fcells_3 HX.out
      have v0 := blk_cell HR.out 0
      have v1 := blk_cell HR.out 1
      have v2 := blk_cell HR.out 2
      simp only [List.getElem?_toArray, List.getElem?_cons_zero, List.getElem?_cons_succ] at v0 v1 v2
      have f0 := blk_free HR.out 0
      have f1 := blk_free HR.out 1
      have f2 := blk_free HR.out 2
      have HG := Lib.hid (blk_set3 HR.out (.bool x.s) (.slice x.a x.n x.c) (.slice x.b x.m x.d))
      have HL9 := Lib.hid (below_set3 HB.out (show w.heap.size ≤ w.heap.size by omega) (.bool x.s) (.slice x.a x.n x.c) (.slice x.b x.m x.d))
      go_wp2
      refine bodyPost_ret (results_cell_row Tryz.results88 _ _ (w.heap.size) 41 #[.bool x.s, .slice x.a x.n x.c, .slice x.b x.m x.d] (0, 0) _ rfl HG.out Tryz.underlying41 rfl (by kernel_rfl)) rfl ?_
      exact ⟨x, HM.out, rfl, HQ9.out, HL9.out⟩
set_option maxRecDepth 4096 in
set_option maxHeartbeats 4000000 in
theorem frac_max (a : Option Addr) (n cap : Nat) (L : List Fx) (w : World) (h : Fxs w a n cap L) (hn : n ≤ 1000) (hl : ∀ x ∈ L, x.n ≤ 2000 ∧ x.m ≤ 2000) :
    Calls Tryz.prog 52 #[.slice a n cap] w (LstQ (qmax (L.map Fx.q)) w) := by
  have hbd := h.bound
  have hLl := h.len
  have HL := Lib.hid hl
  have HB := Lib.hid (below_alloc w (.cells #[.bool false, .slice none 0 0, .slice none 0 0] 41))
  have HK := Lib.hid (h.later HB.out)
  have HR := Lib.hid (blk_new w #[.bool false, .slice none 0 0, .slice none 0 0] 41)
  clear h hl
  by_cases h0 : n = 0
  · have HQ0 : Hid (((0 : Int) : Rat) = qmax (L.map Fx.q)) := Lib.hid (by rw [List.eq_nil_of_length_eq_zero (hLl.trans h0)]; rfl)
    clear HK HL hLl
    subst h0
    generalize qmax (L.map Fx.q) = q at *
    go_enter Tryz.func52, Tryz.ntmps52
    obtain ⟨vk0, vk1, vk2⟩ := fcells_3 HR.out
    go_wp2_with fail
    refine (frac_of 0 _ isInt_nought).mono ?_
    rintro e wv1 ⟨a1, n1, c1, b1, m1, d1, rfl, h1, g1, b⟩
    clear vk0 vk1 vk2
    replace HB := Lib.hid (below_then HB.out b)
    replace HR := Lib.hid (blk_later HR.out b)
    clear b
    rw [HQ0.out] at h1 g1 ⊢
    have R1 := Lib.hid h1
    have T1 := Lib.hid g1
    clear h1 g1
    unfold frV
    have q0 := blk_cell HR.out 0
    have q1 := blk_cell HR.out 1
    have q2 := blk_cell HR.out 2
    simp only [List.getElem?_toArray, List.getElem?_cons_zero, List.getElem?_cons_succ] at q0 q1 q2
    have f0 := blk_free HR.out 0
    have f1 := blk_free HR.out 1
    have f2 := blk_free HR.out 2
    replace R1 := Lib.hid (R1.out.stored3 HR.out ((zneg q.num)) a1 n1 c1 (.slice b1 m1 d1))
    replace T1 := Lib.hid (T1.out.stored3 HR.out ((zneg q.num)) a1 n1 c1 (.slice b1 m1 d1))
    replace HB := Lib.hid (below_set3 HB.out (show w.heap.size ≤ w.heap.size by omega) (.bool (zneg q.num)) (.slice a1 n1 c1) (.slice b1 m1 d1))
    replace HR := Lib.hid (blk_set3 HR.out (.bool (zneg q.num)) (.slice a1 n1 c1) (.slice b1 m1 d1))
    go_wp2
    refine bodyPost_ret (results_cell_row Tryz.results52 _ _ (w.heap.size) 41 #[.bool (zneg q.num), .slice a1 n1 c1, .slice b1 m1 d1] (0, 0) _ rfl HR.out Tryz.underlying41 rfl (by kernel_rfl)) rfl ?_
    exact ⟨a1, n1, c1, b1, m1, d1, rfl, R1.out, T1.out, HB.out⟩
  · have hq : ((n : Int) == 0) = false := by simp [h0]
    have hp : 0 < n := by omega
    clear h0 hLl
    obtain ⟨q, hq⟩ : ∃ q, qmax (L.map Fx.q) = q := ⟨_, rfl⟩
    rw [hq]
    have HQ := Lib.hid hq
    clear hq
    go_enter Tryz.func52, Tryz.ntmps52
    obtain ⟨vk0, vk1, vk2⟩ := fcells_3 HR.out
    go_wp2_with fail
    refine (frac_maxfunc a n cap L _ HK.out hp hn HL.out).mono ?_
    rintro e wv1 ⟨x, hx, rfl, hxq, b⟩
    clear vk0 vk1 vk2
    replace HB := Lib.hid (below_then HB.out b)
    replace HR := Lib.hid (blk_later HR.out b)
    replace HK := Lib.hid (HK.out.later b)
    clear b
    have HO := Lib.hid (HK.out.ok hx)
    have hlx := HL.out x hx
    have HXQ : Hid (qval x.s (val x.la) (val x.lb) = q) := Lib.hid (hxq.trans HQ.out)
    clear hxq hx
    unfold frV
    obtain ⟨vk0, vk1, vk2⟩ := fcells_3 HR.out
    go_wp2_with fail
    refine (frac_norm x.s x.a x.n x.c x.la x.b x.m x.d x.lb _ HO.out.1 HO.out.2 (by omega) (by omega)).mono ?_
    rintro e wv2 ⟨a1, n1, c1, b1, m1, d1, rfl, h1, g1, b⟩
    clear vk0 vk1 vk2
    replace HB := Lib.hid (below_then HB.out b)
    replace HR := Lib.hid (blk_later HR.out b)
    clear HK
    clear b
    rw [HXQ.out] at h1 g1 ⊢
    have R1 := Lib.hid h1
    have T1 := Lib.hid g1
    clear h1 g1 HO
    unfold frV
    have q0 := blk_cell HR.out 0
    have q1 := blk_cell HR.out 1
    have q2 := blk_cell HR.out 2
    simp only [List.getElem?_toArray, List.getElem?_cons_zero, List.getElem?_cons_succ] at q0 q1 q2
    have f0 := blk_free HR.out 0
    have f1 := blk_free HR.out 1
    have f2 := blk_free HR.out 2
    replace R1 := Lib.hid (R1.out.stored3 HR.out ((zneg q.num)) a1 n1 c1 (.slice b1 m1 d1))
    replace T1 := Lib.hid (T1.out.stored3 HR.out ((zneg q.num)) a1 n1 c1 (.slice b1 m1 d1))
    replace HB := Lib.hid (below_set3 HB.out (show w.heap.size ≤ w.heap.size by omega) (.bool (zneg q.num)) (.slice a1 n1 c1) (.slice b1 m1 d1))
    replace HR := Lib.hid (blk_set3 HR.out (.bool (zneg q.num)) (.slice a1 n1 c1) (.slice b1 m1 d1))
    go_wp2
    refine bodyPost_ret (results_cell_row Tryz.results52 _ _ (w.heap.size) 41 #[.bool (zneg q.num), .slice a1 n1 c1, .slice b1 m1 d1] (0, 0) _ rfl HR.out Tryz.underlying41 rfl (by kernel_rfl)) rfl ?_
    exact ⟨a1, n1, c1, b1, m1, d1, rfl, R1.out, T1.out, HB.out⟩
end Go.Proofs.YtjeigdlhjghinaaGreatDoor

/-
  What package frac's functions owe, proved.
-/
namespace Go.Proofs.YtjeigdlhjghinaaGreatDoor
open Go.RowKit

theorem fracSaid : FracSaid where
  new := fun neg a n cap la b m cap' lb q w ha hb hn hm hq => by subst hq; exact frac_new neg a n cap la b m cap' lb w ha hb (by omega) (by omega)
  of := fun z w hz => frac_of z w hz
  norm := fun v q w h => by
    obtain ⟨neg, a, n, cap, la, b, m, cap', lb, rfl, ha, hb, hn, hm, rfl⟩ := h
    exact frac_norm neg a n cap la b m cap' lb w ha hb (by omega) (by omega)
  sign := fun v q w h => by
    obtain ⟨neg, a, n, cap, la, b, m, cap', lb, rfl, ha, hb, hn, hm, rfl⟩ := h
    exact frac_sign neg a n cap la b m cap' lb w ha hb (by omega) (by omega)
  cmp := fun v u p q w h k => by
    obtain ⟨na, a, n, cap, la, b, m, cap', lb, rfl, ha, hb, hn, hm, rfl⟩ := h
    obtain ⟨nb, a', n', c', la', b', m', d', lb', rfl, ha', hb', hn', hm', rfl⟩ := k
    exact frac_cmp na a n cap la b m cap' lb nb a' n' c' la' b' m' d' lb' w ha hb ha' hb' (by omega) (by omega) (by omega) (by omega)
  same := fun v u p q w h k => by
    obtain ⟨na, a, n, cap, la, b, m, cap', lb, rfl, ha, hb, hn, hm, rfl⟩ := h
    obtain ⟨nb, a', n', c', la', b', m', d', lb', rfl, ha', hb', hn', hm', rfl⟩ := k
    exact frac_same na a n cap la b m cap' lb nb a' n' c' la' b' m' d' lb' w ha hb ha' hb' (by omega) (by omega) (by omega) (by omega)
  abs := fun v q w h => by
    obtain ⟨neg, a, n, cap, la, b, m, cap', lb, rfl, ha, hb, hn, hm, rfl⟩ := h
    exact frac_abs neg a n cap la b m cap' lb w ha hb (by omega) (by omega)
  add := fun v u p q w h k => by
    obtain ⟨na, a, n, cap, la, b, m, cap', lb, rfl, ha, hb, hn, hm, rfl⟩ := h
    obtain ⟨nb, a', n', c', la', b', m', d', lb', rfl, ha', hb', hn', hm', rfl⟩ := k
    exact frac_add na a n cap la b m cap' lb nb a' n' c' la' b' m' d' lb' w ha hb ha' hb' (by omega) (by omega) (by omega) (by omega)
  sub := fun v u p q w h k => by
    obtain ⟨na, a, n, cap, la, b, m, cap', lb, rfl, ha, hb, hn, hm, rfl⟩ := h
    obtain ⟨nb, a', n', c', la', b', m', d', lb', rfl, ha', hb', hn', hm', rfl⟩ := k
    exact frac_sub na a n cap la b m cap' lb nb a' n' c' la' b' m' d' lb' w ha hb ha' hb' (by omega) (by omega) (by omega) (by omega)
  mul := fun v u p q w h k => by
    obtain ⟨na, a, n, cap, la, b, m, cap', lb, rfl, ha, hb, hn, hm, rfl⟩ := h
    obtain ⟨nb, a', n', c', la', b', m', d', lb', rfl, ha', hb', hn', hm', rfl⟩ := k
    exact frac_mul na a n cap la b m cap' lb nb a' n' c' la' b' m' d' lb' w ha hb ha' hb' (by omega) (by omega) (by omega) (by omega)
  max := fun a n cap L w h hn hl => frac_max a n cap L w h hn hl
  size := fun neg a n cap la b m cap' lb w ha hb hn hm => frac_size neg a n cap la b m cap' lb w ha hb (by omega) (by omega)
end Go.Proofs.YtjeigdlhjghinaaGreatDoor
