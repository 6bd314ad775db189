/-
  Several texts of this claim as one, group 16.
-/
import Derived.Test.YteoeicfbaffjcaaGreatDoorG15
import Derived.Deep.RegionHeld3
import Derived.Test.YteoeicfbaffjcaaGreatDoorG12
import Derived.Test.YteoeicfbaffjcaaGreatDoorG5
import Derived.Test.YteoeicfbaffjcaaGreatDoorG14
import Derived.Test.YteoeicfbaffjcaaGreatDoorG4
import Derived.Test.YteoeicfbaffjcaaGreatDoorG10
import Derived.Laws.RangeAny
import Derived.Laws.Runes
/-
  Package frac at this seat: Add, Sub.
-/
namespace Go.Proofs.YteoeicfbaffjcaaGreatDoor
open Go.RowKit

set_option maxRecDepth 4096 in
set_option maxHeartbeats 4000000 in
theorem frac_add (na : Bool) (a : Option Addr) (n cap : Nat) (la : List Nat) (b : Option Addr) (m cap' : Nat) (lb : List Nat) (nb : Bool) (a' : Option Addr) (n' c' : Nat) (la' : List Nat) (b' : Option Addr) (m' d' : Nat) (lb' : List Nat) (w : World) (ha : Wd w a n cap la) (hb : Wd w b m cap' lb) (ha' : Wd w a' n' c' la') (hb' : Wd w b' m' d' lb') (hn : n ≤ 9000) (hm : m ≤ 9000) (hn' : n' ≤ 9000) (hm' : m' ≤ 9000) :
    Calls Tryz.prog 24 #[frV na a n cap b m cap', frV nb a' n' c' b' m' d'] w (LstQ (qval na (val la) (val lb) + qval nb (val la') (val lb')) w) := by
  have HB := Lib.hid (below_then (below_then (below_alloc w (.cells #[.bool na, .slice a n cap, .slice b m cap'] 30)) (below_alloc _ (.cells #[.bool nb, .slice a' n' c', .slice b' m' d'] 30))) (below_alloc _ (.cells #[.bool false, .slice none 0 0, .slice none 0 0] 30)))
  have HA := Lib.hid (ha.later HB.out)
  have HC := Lib.hid (hb.later HB.out)
  have HA' := Lib.hid (ha'.later HB.out)
  have HC' := Lib.hid (hb'.later HB.out)
  obtain ⟨hx1, hx2, hx3⟩ := boxes3_at9 w #[.bool na, .slice a n cap, .slice b m cap'] #[.bool nb, .slice a' n' c', .slice b' m' d'] #[.bool false, .slice none 0 0, .slice none 0 0] 30 30 30
  have HX := Lib.hid hx1
  have HY := Lib.hid hx2
  have HR := Lib.hid hx3
  have ta := ha.trim_le
  have tb := hb.trim_le
  have ta' := ha'.trim_le
  have tb' := hb'.trim_le
  clear ha hb ha' hb' hx1 hx2 hx3
  have H0A : Hid (sgn (qval na (val la) (val lb)).num = 0 → qval nb (val la') (val lb') = qval na (val la) (val lb) + qval nb (val la') (val lb')) := Lib.hid (fun h => by rw [fc_qsign_zero.1 h, Rat.zero_add])
  have H0B : Hid (sgn (qval nb (val la') (val lb')).num = 0 → qval na (val la) (val lb) = qval na (val la) (val lb) + qval nb (val la') (val lb')) := Lib.hid (fun h => by rw [fc_qsign_zero.1 h, Rat.add_zero])
  have H1A : Hid (sgn (qval na (val la) (val lb)).num ≠ 0 → val lb ≠ 0) := Lib.hid (fun h e => h (by rw [qval_none na (.inl e)]; rfl))
  have H1B : Hid (sgn (qval nb (val la') (val lb')).num ≠ 0 → val lb' ≠ 0) := Lib.hid (fun h e => h (by rw [qval_none nb (.inl e)]; rfl))
  obtain ⟨X, hX⟩ : ∃ X, val lb / Nat.gcd (val lb) (val lb') = X := ⟨_, rfl⟩
  obtain ⟨Y, hY⟩ : ∃ Y, val lb' / Nat.gcd (val lb) (val lb') = Y := ⟨_, rfl⟩
  have lX : (dg X).length ≤ 9000 := by rw [← hX]; exact Nat.le_trans (dg_length_mono (Nat.div_le_self _ _)) (by omega)
  have lY : (dg Y).length ≤ 9000 := by rw [← hY]; exact Nat.le_trans (dg_length_mono (Nat.div_le_self _ _)) (by omega)
  obtain ⟨s1, hs1⟩ : ∃ s1, zval na (val la) * (Y : Int) = s1 := ⟨_, rfl⟩
  obtain ⟨s2, hs2⟩ : ∃ s2, zval nb (val la') * (X : Int) = s2 := ⟨_, rfl⟩
  obtain ⟨D, hD⟩ : ∃ D, val lb * Y = D := ⟨_, rfl⟩
  have zl1 := zlen_mul (zval na (val la)) (Y : Int)
  have zl2 := zlen_mul (zval nb (val la')) (X : Int)
  have zl3 := dg_mul_length (val lb) Y
  rw [zval_abs, Int.natAbs_natCast, hs1] at zl1
  rw [zval_abs, Int.natAbs_natCast, hs2] at zl2
  rw [hD] at zl3
  have zl4 := zlen_add s1 s2
  have HS1 : Hid (zval na (val la) * ((val (dg Y) : Nat) : Int) = s1) := Lib.hid (by rw [val_dg]; exact hs1)
  have HS2 : Hid (zval nb (val la') * ((val (dg X) : Nat) : Int) = s2) := Lib.hid (by rw [val_dg]; exact hs2)
  have HD : Hid (val lb * val (dg Y) = D) := Lib.hid (by rw [val_dg]; exact hD)
  have HZ : Hid (val lb ≠ 0 → val lb' ≠ 0 → qval (zneg (s1 + s2)) (val (dg (s1 + s2).natAbs)) (val (dg D)) = qval na (val la) (val lb) + qval nb (val la') (val lb')) := Lib.hid (fun h h' => by
    rw [val_dg, val_dg, fc_qval_of, ← hs1, ← hs2, ← hD, ← hX, ← hY]
    exact fc_qval_add na nb _ _ _ _ h h')
  have EX := Lib.hid hX
  have EY := Lib.hid hY
  clear hX hY hs1 hs2 hD
  generalize hq : qval na (val la) (val lb) + qval nb (val la') (val lb') = q at *
  generalize hp : qval na (val la) (val lb) = p at *
  generalize hr : qval nb (val la') (val lb') = r at *
  have HP := Lib.hid hp
  have HR9 := Lib.hid hr
  clear hp hr hq
  go_enter Tryz.func24, Tryz.ntmps24
  unfold frV
  obtain ⟨vk0, vk1, vk2, vk3, vk4, vk5, vk6, vk7, vk8⟩ := fcells_3_3_3 HX.out HY.out HR.out
  go_wp2_with fail
  refine (frac_sign na a n cap la b m cap' lb _ HA.out HC.out (by omega) (by omega)).mono ?_
  rintro e wv1 ⟨rfl, b⟩
  clear vk0 vk1 vk2 vk3 vk4 vk5 vk6 vk7 vk8
  replace HB := Lib.hid (below_then HB.out b)
  replace HX := Lib.hid (blk_later HX.out b)
  replace HY := Lib.hid (blk_later HY.out b)
  replace HR := Lib.hid (blk_later HR.out b)
  replace HA := Lib.hid (HA.out.later b)
  replace HC := Lib.hid (HC.out.later b)
  replace HA' := Lib.hid (HA'.out.later b)
  replace HC' := Lib.hid (HC'.out.later b)
  clear b
  rw [HP.out]
  generalize sgn p.num = x at *
  by_cases hx0 : x = 0
  · have hq : (x == 0) = true := by simp [hx0]
    have HQ0 : Hid (qval nb (val la') (val lb') = q) := Lib.hid (HR9.out.trans (H0A.out hx0))
    clear hx0 H0A H0B H1A H1B HZ HA HC zl1 zl2 zl3 zl4 lX lY
    obtain ⟨uk0, uk1, uk2, uk3, uk4, uk5, uk6, uk7, uk8⟩ := fcells_3_3_3 HX.out HY.out HR.out
    go_wp2_with fail
    refine (frac_norm nb a' n' c' la' b' m' d' lb' _ HA'.out HC'.out (by omega) (by omega)).mono ?_
    rintro e wu1 ⟨a1, n1, c1, b1, m1, d1, rfl, h1, g1, b⟩
    clear uk0 uk1 uk2 uk3 uk4 uk5 uk6 uk7 uk8
    replace HB := Lib.hid (below_then HB.out b)
    replace HX := Lib.hid (blk_later HX.out b)
    replace HY := Lib.hid (blk_later HY.out b)
    replace HR := Lib.hid (blk_later HR.out b)
    clear HA'
    clear HC'
    clear b
    rw [HQ0.out] at h1 g1 ⊢
    have R1 := Lib.hid h1
    have T1 := Lib.hid g1
    clear h1 g1
    unfold frV
    have q0 := blk_cell HR.out 0
    have q1 := blk_cell HR.out 1
    have q2 := blk_cell HR.out 2
    simp only [List.getElem?_toArray, List.getElem?_cons_zero, List.getElem?_cons_succ] at q0 q1 q2
    have f0 := blk_free HR.out 0
    have f1 := blk_free HR.out 1
    have f2 := blk_free HR.out 2
    replace HX := Lib.hid (blk_far3 HX.out (show w.heap.size ≠ w.heap.size + 1 + 1 by omega) (.bool (zneg q.num)) (.slice a1 n1 c1) (.slice b1 m1 d1))
    replace HY := Lib.hid (blk_far3 HY.out (show w.heap.size + 1 ≠ w.heap.size + 1 + 1 by omega) (.bool (zneg q.num)) (.slice a1 n1 c1) (.slice b1 m1 d1))
    replace R1 := Lib.hid (R1.out.stored3 HR.out ((zneg q.num)) a1 n1 c1 (.slice b1 m1 d1))
    replace T1 := Lib.hid (T1.out.stored3 HR.out ((zneg q.num)) a1 n1 c1 (.slice b1 m1 d1))
    replace HB := Lib.hid (below_set3 HB.out (show w.heap.size ≤ w.heap.size + 1 + 1 by omega) (.bool (zneg q.num)) (.slice a1 n1 c1) (.slice b1 m1 d1))
    replace HR := Lib.hid (blk_set3 HR.out (.bool (zneg q.num)) (.slice a1 n1 c1) (.slice b1 m1 d1))
    go_wp2
    refine bodyPost_ret (results_cell_row Tryz.results24 _ _ (w.heap.size + 1 + 1) 30 #[.bool (zneg q.num), .slice a1 n1 c1, .slice b1 m1 d1] (0, 0) _ rfl HR.out Tryz.underlying30 rfl (by kernel_rfl)) rfl ?_
    exact ⟨a1, n1, c1, b1, m1, d1, rfl, R1.out, T1.out, HB.out⟩
  · have hq : (x == 0) = false := by simp [hx0]
    have HV := Lib.hid (H1A.out hx0)
    clear hx0 H0A H1A
    obtain ⟨uk0, uk1, uk2, uk3, uk4, uk5, uk6, uk7, uk8⟩ := fcells_3_3_3 HX.out HY.out HR.out
    go_wp2_with fail
    refine (frac_sign nb a' n' c' la' b' m' d' lb' _ HA'.out HC'.out (by omega) (by omega)).mono ?_
    rintro e wu1 ⟨rfl, b⟩
    clear uk0 uk1 uk2 uk3 uk4 uk5 uk6 uk7 uk8
    replace HB := Lib.hid (below_then HB.out b)
    replace HX := Lib.hid (blk_later HX.out b)
    replace HY := Lib.hid (blk_later HY.out b)
    replace HR := Lib.hid (blk_later HR.out b)
    replace HA := Lib.hid (HA.out.later b)
    replace HC := Lib.hid (HC.out.later b)
    replace HA' := Lib.hid (HA'.out.later b)
    replace HC' := Lib.hid (HC'.out.later b)
    clear b
    rw [HR9.out]
    generalize sgn r.num = y at *
    by_cases hy0 : y = 0
    · have hr : (y == 0) = true := by simp [hy0]
      have HQ0 : Hid (qval na (val la) (val lb) = q) := Lib.hid (HP.out.trans (H0B.out hy0))
      clear hy0 H0B H1B HZ HA' HC' zl1 zl2 zl3 zl4 lX lY
      obtain ⟨tk0, tk1, tk2, tk3, tk4, tk5, tk6, tk7, tk8⟩ := fcells_3_3_3 HX.out HY.out HR.out
      go_wp2_with fail
      refine (frac_norm na a n cap la b m cap' lb _ HA.out HC.out (by omega) (by omega)).mono ?_
      rintro e wt1 ⟨a1, n1, c1, b1, m1, d1, rfl, h1, g1, b⟩
      clear tk0 tk1 tk2 tk3 tk4 tk5 tk6 tk7 tk8
      replace HB := Lib.hid (below_then HB.out b)
      replace HX := Lib.hid (blk_later HX.out b)
      replace HY := Lib.hid (blk_later HY.out b)
      replace HR := Lib.hid (blk_later HR.out b)
      clear HA
      clear HC
      clear b
      rw [HQ0.out] at h1 g1 ⊢
      have R1 := Lib.hid h1
      have T1 := Lib.hid g1
      clear h1 g1
      unfold frV
      have q0 := blk_cell HR.out 0
      have q1 := blk_cell HR.out 1
      have q2 := blk_cell HR.out 2
      simp only [List.getElem?_toArray, List.getElem?_cons_zero, List.getElem?_cons_succ] at q0 q1 q2
      have f0 := blk_free HR.out 0
      have f1 := blk_free HR.out 1
      have f2 := blk_free HR.out 2
      replace HX := Lib.hid (blk_far3 HX.out (show w.heap.size ≠ w.heap.size + 1 + 1 by omega) (.bool (zneg q.num)) (.slice a1 n1 c1) (.slice b1 m1 d1))
      replace HY := Lib.hid (blk_far3 HY.out (show w.heap.size + 1 ≠ w.heap.size + 1 + 1 by omega) (.bool (zneg q.num)) (.slice a1 n1 c1) (.slice b1 m1 d1))
      replace R1 := Lib.hid (R1.out.stored3 HR.out ((zneg q.num)) a1 n1 c1 (.slice b1 m1 d1))
      replace T1 := Lib.hid (T1.out.stored3 HR.out ((zneg q.num)) a1 n1 c1 (.slice b1 m1 d1))
      replace HB := Lib.hid (below_set3 HB.out (show w.heap.size ≤ w.heap.size + 1 + 1 by omega) (.bool (zneg q.num)) (.slice a1 n1 c1) (.slice b1 m1 d1))
      replace HR := Lib.hid (blk_set3 HR.out (.bool (zneg q.num)) (.slice a1 n1 c1) (.slice b1 m1 d1))
      go_wp2
      refine bodyPost_ret (results_cell_row Tryz.results24 _ _ (w.heap.size + 1 + 1) 30 #[.bool (zneg q.num), .slice a1 n1 c1, .slice b1 m1 d1] (0, 0) _ rfl HR.out Tryz.underlying30 rfl (by kernel_rfl)) rfl ?_
      exact ⟨a1, n1, c1, b1, m1, d1, rfl, R1.out, T1.out, HB.out⟩
    · have hr : (y == 0) = false := by simp [hy0]
      have HZ2 := Lib.hid (HZ.out HV.out (H1B.out hy0))
      clear hy0 H0B H1B HZ HV
      obtain ⟨tk0, tk1, tk2, tk3, tk4, tk5, tk6, tk7, tk8⟩ := fcells_3_3_3 HX.out HY.out HR.out
      go_wp2_with fail
      refine (common_cancel b m cap' lb b' m' d' lb' _ HC.out HC'.out (by omega) (by omega)).mono ?_
      rintro e wt1 ⟨ax, nx, cx, ay, ny, cy, rfl, hX, hY, b⟩
      clear tk0 tk1 tk2 tk3 tk4 tk5 tk6 tk7 tk8
      replace HB := Lib.hid (below_then HB.out b)
      replace HX := Lib.hid (blk_later HX.out b)
      replace HY := Lib.hid (blk_later HY.out b)
      replace HR := Lib.hid (blk_later HR.out b)
      replace HA := Lib.hid (HA.out.later b)
      replace HC := Lib.hid (HC.out.later b)
      replace HA' := Lib.hid (HA'.out.later b)
      replace HC' := Lib.hid (HC'.out.later b)
      clear b
      rw [EX.out] at hX
      rw [EY.out] at hY
      have lnx := hX.len
      have lny := hY.len
      have RX := Lib.hid hX
      have RY := Lib.hid hY
      clear hX hY
      obtain ⟨tk0, tk1, tk2, tk3, tk4, tk5, tk6, tk7, tk8⟩ := fcells_3_3_3 HX.out HY.out HR.out
      go_wp2
      clear tk0 tk1 tk2 tk3 tk4 tk5 tk6 tk7 tk8
      replace HB := Lib.hid (below_then HB.out ((Below.refl _ _).drew : Below wt1.heap.size wt1 wt1.drew))
      replace HX : Hid (wt1.drew.heap[w.heap.size]? = _) := Lib.hid HX.out
      replace HY : Hid (wt1.drew.heap[w.heap.size + 1]? = _) := Lib.hid HY.out
      replace HR : Hid (wt1.drew.heap[w.heap.size + 1 + 1]? = some (.cells #[.bool false, .slice none 0 0, .slice none 0 0] 30 (0, 0))) := Lib.hid HR.out
      replace HA := Lib.hid (HA.out.later ((Below.refl _ _).drew : Below wt1.heap.size wt1 wt1.drew))
      replace HC := Lib.hid (HC.out.later ((Below.refl _ _).drew : Below wt1.heap.size wt1 wt1.drew))
      replace HA' := Lib.hid (HA'.out.later ((Below.refl _ _).drew : Below wt1.heap.size wt1 wt1.drew))
      replace HC' := Lib.hid (HC'.out.later ((Below.refl _ _).drew : Below wt1.heap.size wt1 wt1.drew))
      replace RX := Lib.hid (RX.out.later ((Below.refl _ _).drew : Below wt1.heap.size wt1 wt1.drew))
      replace RY := Lib.hid (RY.out.later ((Below.refl _ _).drew : Below wt1.heap.size wt1 wt1.drew))
      have pSn := fcells_3_3 HX.out HY.out
      go_region_held3 (fun w' => w'.cell? ⟨w.heap.size, 0, none⟩ = some (.bool na) ∧ w'.cell? ⟨w.heap.size, 1, none⟩ = some (.slice a n cap) ∧ w'.cell? ⟨w.heap.size, 2, none⟩ = some (.slice b m cap') ∧ w'.cell? ⟨w.heap.size + 1, 0, none⟩ = some (.bool nb) ∧ w'.cell? ⟨w.heap.size + 1, 1, none⟩ = some (.slice a' n' c') ∧ w'.cell? ⟨w.heap.size + 1, 2, none⟩ = some (.slice b' m' d')) (first | exact pSn | exact pSb _ _ _)
        (first
        | (go_at_call 65; (first
          | (have pm1 := pM1; refine (frac_times nb a' n' c' la' ax nx cx _ _ HA'.out RX.out (by omega) (by omega)).mono ?_; rintro e wp2 ⟨a2, n2, c2, rfl, h2, b⟩; replace HB := Lib.hid (below_then HB.out b); replace HX := Lib.hid (blk_later HX.out b); replace HY := Lib.hid (blk_later HY.out b); replace HR := Lib.hid (blk_later HR.out b); replace HA := Lib.hid (HA.out.later b); replace HC := Lib.hid (HC.out.later b); replace HA' := Lib.hid (HA'.out.later b); replace HC' := Lib.hid (HC'.out.later b); replace RX := Lib.hid (RX.out.later b); replace RY := Lib.hid (RY.out.later b); replace R1 := Lib.hid (R1.out.later b); rw [HS2.out] at h2 ⊢; have R2 := Lib.hid h2; have ln2 := h2.len; clear h2; unfold whV; clear b; clear pSn; have pSn := fcells_3_3 HX.out HY.out; clear pM1 pm1; have pM2 := True.intro)
          | (refine (frac_times na a n cap la ay ny cy _ _ HA.out RY.out (by omega) (by omega)).mono ?_; rintro e wp1 ⟨a1, n1, c1, rfl, h1, b⟩; replace HB := Lib.hid (below_then HB.out b); replace HX := Lib.hid (blk_later HX.out b); replace HY := Lib.hid (blk_later HY.out b); replace HR := Lib.hid (blk_later HR.out b); replace HA := Lib.hid (HA.out.later b); replace HC := Lib.hid (HC.out.later b); replace HA' := Lib.hid (HA'.out.later b); replace HC' := Lib.hid (HC'.out.later b); replace RX := Lib.hid (RX.out.later b); replace RY := Lib.hid (RY.out.later b); rw [HS1.out] at h1 ⊢; have R1 := Lib.hid h1; have ln1 := h1.len; clear h1; unfold whV; clear b; clear pSn; have pSn := fcells_3_3 HX.out HY.out; have pM1 := True.intro)))
        | (go_at_call 64; (first
          | (have pm2 := pM2; refine (whole_add _ a1 n1 c1 _ _ a2 n2 c2 _ _ R1.out R2.out (by omega) (by omega)).mono ?_; rintro e wp3 ⟨a3, n3, c3, rfl, h3, b⟩; replace HB := Lib.hid (below_then HB.out b); replace HX := Lib.hid (blk_later HX.out b); replace HY := Lib.hid (blk_later HY.out b); replace HR := Lib.hid (blk_later HR.out b); replace HA := Lib.hid (HA.out.later b); replace HC := Lib.hid (HC.out.later b); replace HA' := Lib.hid (HA'.out.later b); replace HC' := Lib.hid (HC'.out.later b); replace RX := Lib.hid (RX.out.later b); replace RY := Lib.hid (RY.out.later b); clear R1; clear R2; rw [zval_dg, zval_dg] at h3 ⊢; have R3 := Lib.hid h3; have ln3 := h3.len; clear h3; unfold whV; clear b; clear pSn; have pSn := fcells_3_3 HX.out HY.out; clear pM2 pm2; have pM3 := True.intro)))
        | (go_at_call 53; (first
          | (have pm3 := pM3; refine (prod_mul b m cap' lb ay ny cy _ _ HC.out RY.out (by omega) (by omega)).mono ?_; rintro e wp4 ⟨b4, m4, d4, rfl, h4, b⟩; replace HB := Lib.hid (below_then HB.out b); replace HX := Lib.hid (blk_later HX.out b); replace HY := Lib.hid (blk_later HY.out b); replace HR := Lib.hid (blk_later HR.out b); replace HA := Lib.hid (HA.out.later b); replace HC := Lib.hid (HC.out.later b); replace HA' := Lib.hid (HA'.out.later b); replace HC' := Lib.hid (HC'.out.later b); replace RX := Lib.hid (RX.out.later b); replace RY := Lib.hid (RY.out.later b); replace R3 := Lib.hid (R3.out.later b); rw [HD.out] at h4; have R4 := Lib.hid h4; have ln4 := h4.len; clear h4; clear b; clear pSn; have pSn := fcells_3_3 HX.out HY.out; clear pM3 pm3; have pM4 := True.intro)))
        | (go_at_call 18; (first
          | (have pm4 := pM4; refine (frac_norm _ a3 n3 c3 _ b4 m4 d4 _ _ R3.out R4.out (by omega) (by omega)).mono ?_; rintro e wp5 ⟨a5, n5, c5, b5, m5, d5, rfl, h5, g5, b⟩; replace HB := Lib.hid (below_then HB.out b); replace HX := Lib.hid (blk_later HX.out b); replace HY := Lib.hid (blk_later HY.out b); replace HR := Lib.hid (blk_later HR.out b); replace HA := Lib.hid (HA.out.later b); replace HC := Lib.hid (HC.out.later b); replace HA' := Lib.hid (HA'.out.later b); replace HC' := Lib.hid (HC'.out.later b); replace RX := Lib.hid (RX.out.later b); replace RY := Lib.hid (RY.out.later b); clear R3; clear R4; rw [HZ2.out] at h5 g5 ⊢; have R5 := Lib.hid h5; have T5 := Lib.hid g5; clear h5 g5; obtain ⟨r0, r1, r2⟩ := fcells_3 HR.out; have f0 := blk_free HR.out 0; have f1 := blk_free HR.out 1; have f2 := blk_free HR.out 2; have pSb := fun u v q => fcells_3_3 (blk_far3 (g := w.heap.size + 1 + 1) HX.out (by omega) u v q) (blk_far3 (g := w.heap.size + 1 + 1) HY.out (by omega) u v q); unfold frV; clear b; clear pSn; have pSn := fcells_3_3 HX.out HY.out; clear pM4 pm4; have pM5 := True.intro))))
      have HG := Lib.hid (blk_set3 HR.out (.bool (zneg q.num)) (.slice a5 n5 c5) (.slice b5 m5 d5))
      have HL := Lib.hid (below_set3 HB.out (show w.heap.size ≤ w.heap.size + 1 + 1 by omega) (.bool (zneg q.num)) (.slice a5 n5 c5) (.slice b5 m5 d5))
      have HW1 := Lib.hid (R5.out.stored3 HR.out (zneg q.num) a5 n5 c5 (.slice b5 m5 d5))
      have HW2 := Lib.hid (T5.out.stored3 HR.out (zneg q.num) a5 n5 c5 (.slice b5 m5 d5))
      go_wp2
      refine bodyPost_ret (results_cell_row Tryz.results24 _ _ (w.heap.size + 1 + 1) 30 #[.bool (zneg q.num), .slice a5 n5 c5, .slice b5 m5 d5] (0, 0) _ rfl HG.out Tryz.underlying30 rfl (by kernel_rfl)) rfl ?_
      exact ⟨a5, n5, c5, b5, m5, d5, rfl, HW1.out, HW2.out, HL.out⟩
set_option maxRecDepth 4096 in
set_option maxHeartbeats 4000000 in
theorem frac_sub (na : Bool) (a : Option Addr) (n cap : Nat) (la : List Nat) (b : Option Addr) (m cap' : Nat) (lb : List Nat) (nb : Bool) (a' : Option Addr) (n' c' : Nat) (la' : List Nat) (b' : Option Addr) (m' d' : Nat) (lb' : List Nat) (w : World) (ha : Wd w a n cap la) (hb : Wd w b m cap' lb) (ha' : Wd w a' n' c' la') (hb' : Wd w b' m' d' lb') (hn : n ≤ 9000) (hm : m ≤ 9000) (hn' : n' ≤ 9000) (hm' : m' ≤ 9000) :
    Calls Tryz.prog 23 #[frV na a n cap b m cap', frV nb a' n' c' b' m' d'] w (LstQ (qval na (val la) (val lb) - qval nb (val la') (val lb')) w) := by
  have HB := Lib.hid (below_then (below_then (below_alloc w (.cells #[.bool na, .slice a n cap, .slice b m cap'] 30)) (below_alloc _ (.cells #[.bool nb, .slice a' n' c', .slice b' m' d'] 30))) (below_alloc _ (.cells #[.bool false, .slice none 0 0, .slice none 0 0] 30)))
  have HA := Lib.hid (ha.later HB.out)
  have HC := Lib.hid (hb.later HB.out)
  have HA' := Lib.hid (ha'.later HB.out)
  have HC' := Lib.hid (hb'.later HB.out)
  obtain ⟨hx1, hx2, hx3⟩ := boxes3_at9 w #[.bool na, .slice a n cap, .slice b m cap'] #[.bool nb, .slice a' n' c', .slice b' m' d'] #[.bool false, .slice none 0 0, .slice none 0 0] 30 30 30
  have HX := Lib.hid hx1
  have HY := Lib.hid hx2
  have HR := Lib.hid hx3
  have ta := ha.trim_le
  have tb := hb.trim_le
  have ta' := ha'.trim_le
  have tb' := hb'.trim_le
  clear ha hb ha' hb' hx1 hx2 hx3
  obtain ⟨q, hq⟩ : ∃ q, qval na (val la) (val lb) - qval nb (val la') (val lb') = q := ⟨_, rfl⟩
  rw [hq]
  have HQ := Lib.hid hq
  clear hq
  have HT : Hid (qval na (val la) (val lb) + qval (!nb) (val la') (val lb') = q) := Lib.hid (by rw [fc_qval_neg, ← Rat.sub_eq_add_neg, HQ.out])
  go_enter Tryz.func23, Tryz.ntmps23
  unfold frV
  go_wp2
  generalize (((w.alloc (.cells #[.bool na, .slice a n cap, .slice b m cap'] 30)).alloc (.cells #[.bool nb, .slice a' n' c', .slice b' m' d'] 30)).alloc (.cells #[.bool false, .slice none 0 0, .slice none 0 0] 30)) = W at *
  replace HB := Lib.hid (below_then HB.out ((Below.refl _ _).drew : Below W.heap.size W W.drew))
  replace HX : Hid (W.drew.heap[w.heap.size]? = _) := Lib.hid HX.out
  replace HY : Hid (W.drew.heap[w.heap.size + 1]? = _) := Lib.hid HY.out
  replace HR : Hid (W.drew.heap[w.heap.size + 1 + 1]? = some (.cells #[.bool false, .slice none 0 0, .slice none 0 0] 30 (0, 0))) := Lib.hid HR.out
  replace HA := Lib.hid (HA.out.later ((Below.refl _ _).drew : Below W.heap.size W W.drew))
  replace HC := Lib.hid (HC.out.later ((Below.refl _ _).drew : Below W.heap.size W W.drew))
  replace HA' := Lib.hid (HA'.out.later ((Below.refl _ _).drew : Below W.heap.size W W.drew))
  replace HC' := Lib.hid (HC'.out.later ((Below.refl _ _).drew : Below W.heap.size W W.drew))
  have pSn := fcells_3_3 HX.out HY.out
  go_region_held3 (fun w' => w'.cell? ⟨w.heap.size, 0, none⟩ = some (.bool na) ∧ w'.cell? ⟨w.heap.size, 1, none⟩ = some (.slice a n cap) ∧ w'.cell? ⟨w.heap.size, 2, none⟩ = some (.slice b m cap') ∧ w'.cell? ⟨w.heap.size + 1, 0, none⟩ = some (.bool nb) ∧ w'.cell? ⟨w.heap.size + 1, 1, none⟩ = some (.slice a' n' c') ∧ w'.cell? ⟨w.heap.size + 1, 2, none⟩ = some (.slice b' m' d')) (first | exact pSn | exact pSb _ _ _)
    (first
    | (go_at_call 62; (first
      | (refine (frac_turned nb a' n' c' b' m' d' _).mono ?_; rintro e wp1 ⟨rfl, b⟩; replace HB := Lib.hid (below_then HB.out b); replace HX := Lib.hid (blk_later HX.out b); replace HY := Lib.hid (blk_later HY.out b); replace HR := Lib.hid (blk_later HR.out b); replace HA := Lib.hid (HA.out.later b); replace HC := Lib.hid (HC.out.later b); replace HA' := Lib.hid (HA'.out.later b); replace HC' := Lib.hid (HC'.out.later b); unfold frV; clear b; clear pSn; have pSn := fcells_3_3 HX.out HY.out; have pM1 := True.intro)))
    | (go_at_call 24; (first
      | (have pm1 := pM1; refine (frac_add na a n cap la b m cap' lb (!nb) a' n' c' la' b' m' d' lb' _ HA.out HC.out HA'.out HC'.out hn hm hn' hm').mono ?_; rintro e wp2 ⟨a1, n1, c1, b1, m1, d1, rfl, h1, g1, b⟩; replace HB := Lib.hid (below_then HB.out b); replace HX := Lib.hid (blk_later HX.out b); replace HY := Lib.hid (blk_later HY.out b); replace HR := Lib.hid (blk_later HR.out b); replace HA := Lib.hid (HA.out.later b); replace HC := Lib.hid (HC.out.later b); replace HA' := Lib.hid (HA'.out.later b); replace HC' := Lib.hid (HC'.out.later b); rw [HT.out] at h1 g1 ⊢; have R1 := Lib.hid h1; have T1 := Lib.hid g1; clear h1 g1; obtain ⟨r0, r1, r2⟩ := fcells_3 HR.out; have f0 := blk_free HR.out 0; have f1 := blk_free HR.out 1; have f2 := blk_free HR.out 2; have pSb := fun u v q => fcells_3_3 (blk_far3 (g := w.heap.size + 1 + 1) HX.out (by omega) u v q) (blk_far3 (g := w.heap.size + 1 + 1) HY.out (by omega) u v q); unfold frV; clear b; clear pSn; have pSn := fcells_3_3 HX.out HY.out; clear pM1 pm1; have pM2 := True.intro))))
  have HG := Lib.hid (blk_set3 HR.out (.bool (zneg q.num)) (.slice a1 n1 c1) (.slice b1 m1 d1))
  have HL := Lib.hid (below_set3 HB.out (show w.heap.size ≤ w.heap.size + 1 + 1 by omega) (.bool (zneg q.num)) (.slice a1 n1 c1) (.slice b1 m1 d1))
  have HW1 := Lib.hid (R1.out.stored3 HR.out (zneg q.num) a1 n1 c1 (.slice b1 m1 d1))
  have HW2 := Lib.hid (T1.out.stored3 HR.out (zneg q.num) a1 n1 c1 (.slice b1 m1 d1))
  go_wp2
  refine bodyPost_ret (results_cell_row Tryz.results23 _ _ (w.heap.size + 1 + 1) 30 #[.bool (zneg q.num), .slice a1 n1 c1, .slice b1 m1 d1] (0, 0) _ rfl HG.out Tryz.underlying30 rfl (by kernel_rfl)) rfl ?_
  exact ⟨a1, n1, c1, b1, m1, d1, rfl, HW1.out, HW2.out, HL.out⟩
end Go.Proofs.YteoeicfbaffjcaaGreatDoor

/-
  Package frac at this seat: Floor.
-/
namespace Go.Proofs.YteoeicfbaffjcaaGreatDoor
open Go.RowKit

set_option maxRecDepth 4096 in
set_option maxHeartbeats 4000000 in
theorem frac_floor (neg : Bool) (a : Option Addr) (n cap : Nat) (la : List Nat) (b : Option Addr) (m cap' : Nat) (lb : List Nat) (w : World) (ha : Wd w a n cap la) (hb : Wd w b m cap' lb) (hn : n ≤ 40000) (hm : m ≤ 40000) :
    Calls Tryz.prog 83 #[frV neg a n cap b m cap'] w (LstZ (qval neg (val la) (val lb)).floor w) := by
  have HB := Lib.hid (below_then (below_alloc w (.cells #[.bool neg, .slice a n cap, .slice b m cap'] 30)) (below_alloc _ (.cells #[.bool false, .slice none 0 0] 28)))
  have HA := Lib.hid (ha.later HB.out)
  have HC := Lib.hid (hb.later HB.out)
  obtain ⟨hx1, hx2⟩ := boxes_at w ((w.alloc (.cells #[.bool neg, .slice a n cap, .slice b m cap'] 30)).alloc (.cells #[.bool false, .slice none 0 0] 28)) #[.bool neg, .slice a n cap, .slice b m cap'] #[.bool false, .slice none 0 0] 30 28 (Below.refl _ _)
  have HX := Lib.hid hx1
  have HR := Lib.hid hx2
  clear hx1 hx2 ha hb
  obtain ⟨r, ok, hF⟩ : ∃ (r : Int) (ok : Bool), ∀ w' : World, Wd w' a n cap la → Wd w' b m cap' lb → Calls Tryz.prog 117 #[whV neg a n cap, whV false b m cap'] w' (LstZZB (qval neg (val la) (val lb)).floor r ok w') := by
    by_cases h0 : val lb = 0
    · have e : (qval neg (val la) (val lb)).floor = 0 := by rw [qval_none neg (.inl h0)]; rfl
      refine ⟨0, false, fun w' h1 h2 => ?_⟩
      rw [e]
      exact whole_floor_no neg a n cap la false b m cap' lb w' h1 h2 (by omega) (by rw [h0]; rfl)
    · refine ⟨Int.fmod (zval neg (val la)) (val lb : Int), true, fun w' h1 h2 => ?_⟩
      rw [fc_qfloor neg (val la) h0]
      exact whole_floor_yes neg a n cap la false b m cap' lb w' h1 h2 (by omega) (by omega) (by rw [zval_false]; omega)
  generalize (qval neg (val la) (val lb)).floor = z at *
  go_enter Tryz.func83, Tryz.ntmps83
  unfold frV
  obtain ⟨vk0, vk1, vk2, vk3, vk4⟩ := fcells_3_2 HX.out HR.out
  go_wp2_with fail
  refine (hF _ HA.out HC.out).mono ?_
  rintro e wv1 ⟨a1, n1, c1, a2, n2, c2, rfl, h1, h2, b⟩
  clear vk0 vk1 vk2 vk3 vk4
  replace HB := Lib.hid (below_then HB.out b)
  replace HX := Lib.hid (blk_later HX.out b)
  replace HR := Lib.hid (blk_later HR.out b)
  clear HA
  clear HC
  clear b
  have R1 := Lib.hid h1
  clear h1 h2
  unfold whV
  have HP : Hid ((World.alloc wv1 (.cells #[.bool (zneg z), .slice a1 n1 c1] 28)).heap[wv1.heap.size]? = some (.cells #[.bool (zneg z), .slice a1 n1 c1] 28 (0, 0))) := Lib.hid (blk_new wv1 _ _)
  replace HB := Lib.hid (below_then HB.out (below_alloc wv1 (.cells #[.bool (zneg z), .slice a1 n1 c1] 28)))
  replace HX := Lib.hid (blk_later HX.out (below_alloc wv1 (.cells #[.bool (zneg z), .slice a1 n1 c1] 28)))
  replace HR := Lib.hid (blk_later HR.out (below_alloc wv1 (.cells #[.bool (zneg z), .slice a1 n1 c1] 28)))
  replace R1 := Lib.hid (R1.out.later (below_alloc wv1 (.cells #[.bool (zneg z), .slice a1 n1 c1] 28)))
  have HP2 : Hid ((World.alloc (wv1.alloc (.cells #[.bool (zneg z), .slice a1 n1 c1] 28)) (.cells #[.bool (zneg r), .slice a2 n2 c2] 28)).heap[wv1.heap.size + 1]? = some (.cells #[.bool (zneg r), .slice a2 n2 c2] 28 (0, 0))) := Lib.hid (by have h := blk_new (wv1.alloc (.cells #[.bool (zneg z), .slice a1 n1 c1] 28)) #[.bool (zneg r), .slice a2 n2 c2] 28; rw [blk_size] at h; exact h)
  replace HB := Lib.hid (below_then HB.out (below_alloc (wv1.alloc (.cells #[.bool (zneg z), .slice a1 n1 c1] 28)) (.cells #[.bool (zneg r), .slice a2 n2 c2] 28)))
  replace HX := Lib.hid (blk_later HX.out (below_alloc (wv1.alloc (.cells #[.bool (zneg z), .slice a1 n1 c1] 28)) (.cells #[.bool (zneg r), .slice a2 n2 c2] 28)))
  replace HR := Lib.hid (blk_later HR.out (below_alloc (wv1.alloc (.cells #[.bool (zneg z), .slice a1 n1 c1] 28)) (.cells #[.bool (zneg r), .slice a2 n2 c2] 28)))
  replace HP := Lib.hid (blk_later HP.out (below_alloc (wv1.alloc (.cells #[.bool (zneg z), .slice a1 n1 c1] 28)) (.cells #[.bool (zneg r), .slice a2 n2 c2] 28)))
  replace R1 := Lib.hid (R1.out.later (below_alloc (wv1.alloc (.cells #[.bool (zneg z), .slice a1 n1 c1] 28)) (.cells #[.bool (zneg r), .slice a2 n2 c2] 28)))
  obtain ⟨vk0, vk1⟩ := fcells_2 HP.out
  obtain ⟨r0, r1⟩ := fcells_2 HR.out
  have f0 := blk_free HR.out 0
  have f1 := blk_free HR.out 1
  have HG := Lib.hid (blk_set2 HR.out (.bool (zneg z)) (.slice a1 n1 c1))
  have HF := Lib.hid (R1.out.stored2 HR.out (zneg z) (.slice a1 n1 c1))
  have HL := Lib.hid (below_set2 HB.out (show w.heap.size ≤ w.heap.size + 1 by omega) (.bool (zneg z)) (.slice a1 n1 c1))
  go_wp2
  refine bodyPost_ret (results_cell_row Tryz.results83 _ _ (w.heap.size + 1) 28 #[.bool (zneg z), .slice a1 n1 c1] (0, 0) _ rfl HG.out Tryz.underlying28 rfl (by kernel_rfl)) rfl ?_
  exact ⟨a1, n1, c1, rfl, HF.out, HL.out⟩
end Go.Proofs.YteoeicfbaffjcaaGreatDoor

/-
  What package frac's functions owe, proved.
-/
namespace Go.Proofs.YteoeicfbaffjcaaGreatDoor
open Go.RowKit

theorem fracSaid : FracSaid where
  new := fun neg a n cap la b m cap' lb q w ha hb hn hm hq => by subst hq; exact frac_new neg a n cap la b m cap' lb w ha hb (by omega) (by omega)
  of := fun z w hz => frac_of z w hz
  norm := fun v q w h => by
    obtain ⟨neg, a, n, cap, la, b, m, cap', lb, rfl, ha, hb, hn, hm, rfl⟩ := h
    exact frac_norm neg a n cap la b m cap' lb w ha hb (by omega) (by omega)
  sign := fun v q w h => by
    obtain ⟨neg, a, n, cap, la, b, m, cap', lb, rfl, ha, hb, hn, hm, rfl⟩ := h
    exact frac_sign neg a n cap la b m cap' lb w ha hb (by omega) (by omega)
  cmp := fun v u p q w h k => by
    obtain ⟨na, a, n, cap, la, b, m, cap', lb, rfl, ha, hb, hn, hm, rfl⟩ := h
    obtain ⟨nb, a', n', c', la', b', m', d', lb', rfl, ha', hb', hn', hm', rfl⟩ := k
    exact frac_cmp na a n cap la b m cap' lb nb a' n' c' la' b' m' d' lb' w ha hb ha' hb' (by omega) (by omega) (by omega) (by omega)
  same := fun v u p q w h k => by
    obtain ⟨na, a, n, cap, la, b, m, cap', lb, rfl, ha, hb, hn, hm, rfl⟩ := h
    obtain ⟨nb, a', n', c', la', b', m', d', lb', rfl, ha', hb', hn', hm', rfl⟩ := k
    exact frac_same na a n cap la b m cap' lb nb a' n' c' la' b' m' d' lb' w ha hb ha' hb' (by omega) (by omega) (by omega) (by omega)
  abs := fun v q w h => by
    obtain ⟨neg, a, n, cap, la, b, m, cap', lb, rfl, ha, hb, hn, hm, rfl⟩ := h
    exact frac_abs neg a n cap la b m cap' lb w ha hb (by omega) (by omega)
  add := fun v u p q w h k => by
    obtain ⟨na, a, n, cap, la, b, m, cap', lb, rfl, ha, hb, hn, hm, rfl⟩ := h
    obtain ⟨nb, a', n', c', la', b', m', d', lb', rfl, ha', hb', hn', hm', rfl⟩ := k
    exact frac_add na a n cap la b m cap' lb nb a' n' c' la' b' m' d' lb' w ha hb ha' hb' (by omega) (by omega) (by omega) (by omega)
  sub := fun v u p q w h k => by
    obtain ⟨na, a, n, cap, la, b, m, cap', lb, rfl, ha, hb, hn, hm, rfl⟩ := h
    obtain ⟨nb, a', n', c', la', b', m', d', lb', rfl, ha', hb', hn', hm', rfl⟩ := k
    exact frac_sub na a n cap la b m cap' lb nb a' n' c' la' b' m' d' lb' w ha hb ha' hb' (by omega) (by omega) (by omega) (by omega)
  mul := fun v u p q w h k => by
    obtain ⟨na, a, n, cap, la, b, m, cap', lb, rfl, ha, hb, hn, hm, rfl⟩ := h
    obtain ⟨nb, a', n', c', la', b', m', d', lb', rfl, ha', hb', hn', hm', rfl⟩ := k
    exact frac_mul na a n cap la b m cap' lb nb a' n' c' la' b' m' d' lb' w ha hb ha' hb' (by omega) (by omega) (by omega) (by omega)
  floor := fun v q w h => by
    obtain ⟨neg, a, n, cap, la, b, m, cap', lb, rfl, ha, hb, hn, hm, rfl⟩ := h
    exact frac_floor neg a n cap la b m cap' lb w ha hb (by omega) (by omega)
end Go.Proofs.YteoeicfbaffjcaaGreatDoor

/-
  Plain mathematics: fractions as texts: where the first / or point stands, what a text says, what is written, what a fraction is rounded to. Nothing of the program.
-/
namespace Go.Proofs.YteoeicfbaffjcaaGreatDoor

/-- The place of the first / or point; how long the text is, if there is none. -/
def cutAt : List UInt8 → Nat
  | [] => 0
  | x :: r => if x.toNat = 47 ∨ x.toNat = 46 then 0 else cutAt r + 1
theorem cutAt_le : ∀ l : List UInt8, cutAt l ≤ l.length
  | [] => Nat.le_refl _
  | x :: r => by
    have := cutAt_le r
    rw [cutAt]; split
    · exact Nat.zero_le _
    · simp only [List.length_cons]; omega
theorem cutAt_more : ∀ {l : List UInt8} {k : Nat}, k ≤ cutAt l → k < l.length → ¬ ((l.getD k 0).toNat = 47 ∨ (l.getD k 0).toNat = 46) → k + 1 ≤ cutAt l
  | [], k, _, hk, _ => by simp at hk
  | x :: r, k, h, hk, hx => by
    rw [cutAt] at h ⊢
    split at h
    · rename_i hc
      have : k = 0 := by omega
      subst this
      exact absurd hc hx
    · rename_i hc
      rw [if_neg hc]
      cases k with
      | zero => omega
      | succ k =>
        have := cutAt_more (l := r) (k := k) (by omega) (by simpa using hk) (by simpa using hx)
        omega
theorem cutAt_here : ∀ {l : List UInt8} {k : Nat}, k ≤ cutAt l → k < l.length → ((l.getD k 0).toNat = 47 ∨ (l.getD k 0).toNat = 46) → cutAt l = k
  | [], k, _, hk, _ => by simp at hk
  | x :: r, k, h, hk, hx => by
    rw [cutAt] at h ⊢
    split at h
    · rename_i hc
      rw [if_pos hc]; omega
    · rename_i hc
      rw [if_neg hc]
      cases k with
      | zero => exact absurd (by simpa using hx) hc
      | succ k =>
        have := cutAt_here (l := r) (k := k) (by omega) (by simpa using hk) (by simpa using hx)
        omega
def nocut (l : List UInt8) : Prop := ∀ x ∈ l, x.toNat ≠ 47 ∧ x.toNat ≠ 46
theorem cutAt_append : ∀ {a : List UInt8}, nocut a → ∀ r, cutAt (a ++ r) = a.length + cutAt r
  | [], _, r => by simp
  | x :: a, h, r => by
    have hx := h x (List.mem_cons_self ..)
    have := cutAt_append (a := a) (fun y hy => h y (List.mem_cons_of_mem _ hy)) r
    rw [List.cons_append, cutAt, if_neg (by omega), this, List.length_cons]; omega
theorem cutAt_none {a : List UInt8} (h : nocut a) : cutAt a = a.length := by
  have := cutAt_append h []
  rw [List.append_nil] at this
  rw [this]; rfl
/-- What stands ahead of the first / or point, behind it, and it itself. -/
def fhead (l : List UInt8) : List UInt8 := l.take (cutAt l)
def frest (l : List UInt8) : List UInt8 := l.drop (cutAt l + 1)
def fbyte (l : List UInt8) : Nat := (l.getD (cutAt l) 0).toNat
/-- The kind of the fault that a text has (0: none), its place, and the fraction that the text is. -/
def figKind (l : List UInt8) : Int :=
  if 0 ≤ zwrong (fhead l) then 1 else if cutAt l = l.length then 0 else if 0 ≤ wrongI (frest l) then 1 else if fbyte l ≠ 46 ∧ readV (frest l) = 0 then 2 else 0
def figPlace (l : List UInt8) : Int :=
  if 0 ≤ zwrong (fhead l) then zwrong (fhead l) else if cutAt l = l.length then 0 else if 0 ≤ wrongI (frest l) then ((cutAt l + 1 : Nat) : Int) + wrongI (frest l) else if fbyte l ≠ 46 ∧ readV (frest l) = 0 then ((cutAt l + 1 : Nat) : Int) else 0
def figVal (l : List UInt8) : Rat :=
  if 0 ≤ zwrong (fhead l) then 0 else if cutAt l = l.length then ((zread (fhead l) : Int) : Rat) else if 0 ≤ wrongI (frest l) then 0
  else if fbyte l = 46 then mkRat (zval (decide ((l.getD 0 0).toNat = 45)) ((zread (fhead l)).natAbs * 10 ^ (frest l).length + readV (frest l))) (10 ^ (frest l).length)
  else if readV (frest l) = 0 then 0 else mkRat (zread (fhead l)) (readV (frest l))
/-- What is written of a fraction. -/
def ftxt (q : Rat) : List UInt8 := ztxt q.num ++ (if q.den = 1 then [] else 47 :: txt q.den)
theorem nocut_alldig {l : List UInt8} (h : alldig l) : nocut l := fun x hx => by have := h x hx; omega
theorem nocut_txt (n : Nat) : nocut (txt n) := nocut_alldig (alldig_txt n)
theorem nocut_signed {l : List UInt8} (h : nocut l) : nocut (45 :: l) := fun x hx => by
  rcases List.mem_cons.1 hx with rfl | hx
  · decide
  · exact h x hx
theorem nocut_ztxt (z : Int) : nocut (ztxt z) := by
  unfold ztxt
  split
  · exact nocut_signed (nocut_txt _)
  · exact nocut_txt _
/-- Digits without a sign: what they say, as a whole number. -/
theorem zwrong_digits {l : List UInt8} (h : alldig l) (hne : l ≠ []) : zwrong l = wrongI l := by
  cases l with
  | nil => exact absurd rfl hne
  | cons x r =>
    have := h x (List.mem_cons_self ..)
    rw [zwrong, if_neg (by omega)]
theorem zread_digits {l : List UInt8} (h : alldig l) (hne : l ≠ []) : zread l = (readV l : Int) := by
  cases l with
  | nil => exact absurd rfl hne
  | cons x r =>
    have := h x (List.mem_cons_self ..)
    rw [zread, if_neg (by omega)]; rfl
theorem zread_minus (r : List UInt8) : zread (45 :: r) = -(readV r : Int) := by rw [zread, if_pos (by decide)]; rfl
theorem zwrong_minus {r : List UInt8} (h : wrongI r < 0) : zwrong (45 :: r) = -1 := by rw [zwrong, if_pos (by decide), if_pos h]
theorem wrongI_digits {l : List UInt8} (h : alldig l) (hne : l ≠ []) (hl : l.length ≤ 60) : wrongI l = -1 := by
  unfold wrongI
  rw [if_neg hne, wrongFrom_alldig h, if_pos (.inr (by omega))]
theorem zread_ztxt (z : Int) : zread (ztxt z) = z := by
  unfold ztxt
  split
  · rw [zread_minus, readV_txt]; omega
  · rw [zread_digits (alldig_txt _) (txt_ne _), readV_txt]; omega
theorem zwrong_ztxt {z : Int} (h : (txt z.natAbs).length ≤ 60) : zwrong (ztxt z) = -1 := by
  have h1 := wrongI_digits (alldig_txt z.natAbs) (txt_ne _) h
  unfold ztxt
  split
  · exact zwrong_minus (by omega)
  · rw [zwrong_digits (alldig_txt _) (txt_ne _), h1]
theorem take_append_left (a b : List UInt8) : (a ++ b).take a.length = a := by simp
theorem drop_append_more (a : List UInt8) (x : UInt8) (b : List UInt8) : (a ++ x :: b).drop (a.length + 1) = b := by
  rw [List.drop_append, List.drop_of_length_le (by omega)]; simp
theorem getD_append_here (a : List UInt8) (x : UInt8) (b : List UInt8) : (a ++ x :: b).getD a.length 0 = x := by
  rw [List.getD_eq_getElem?_getD, List.getElem?_append_right (Nat.le_refl _)]; simp
/-- A text without / and point; one with one of them. -/
theorem fig_plain {a : List UInt8} (h : nocut a) : cutAt a = a.length ∧ fhead a = a := by
  have h1 := cutAt_none h
  exact ⟨h1, by unfold fhead; rw [h1, List.take_length]⟩
theorem fig_parts {a b : List UInt8} {x : UInt8} (h : nocut a) (hx : x.toNat = 47 ∨ x.toNat = 46) : cutAt (a ++ x :: b) = a.length ∧ fhead (a ++ x :: b) = a ∧ frest (a ++ x :: b) = b ∧ fbyte (a ++ x :: b) = x.toNat := by
  have h1 : cutAt (a ++ x :: b) = a.length := by rw [cutAt_append h, cutAt, if_pos hx]; rfl
  unfold fhead frest fbyte
  rw [h1]
  exact ⟨rfl, take_append_left _ _, drop_append_more _ _ _, by rw [getD_append_here]⟩
/-- What is written of a fraction is read as it was. -/
theorem fig_back {q : Rat} (h1 : (txt q.num.natAbs).length ≤ 60) (h2 : (txt q.den).length ≤ 60) : figKind (ftxt q) = 0 ∧ figPlace (ftxt q) = 0 ∧ figVal (ftxt q) = q := by
  have hz := zwrong_ztxt h1
  unfold ftxt
  by_cases hd : q.den = 1
  · rw [if_pos hd, List.append_nil]
    obtain ⟨e1, e2⟩ := fig_plain (nocut_ztxt q.num)
    unfold figKind figPlace figVal
    have h0 : ¬ (0 : Int) ≤ -1 := by omega
    rw [e2, hz, e1, if_neg h0, if_neg h0, if_neg h0, if_pos rfl, if_pos rfl, if_pos rfl, zread_ztxt]
    refine ⟨rfl, rfl, ?_⟩
    exact Rat.ext (Rat.num_intCast _) (by rw [Rat.den_intCast, hd])
  · rw [if_neg hd]
    obtain ⟨e1, e2, e3, e4⟩ := fig_parts (b := txt q.den) (x := 47) (nocut_ztxt q.num) (.inl (by decide))
    have h3 := wrongI_digits (alldig_txt q.den) (txt_ne _) h2
    have h4 : ¬ (ztxt q.num).length = (ztxt q.num ++ 47 :: txt q.den).length := by simp
    have h5 : readV (txt q.den) ≠ 0 := by rw [readV_txt]; exact q.den_nz
    have h6 : ¬ ((47 : UInt8).toNat ≠ 46 ∧ readV (txt q.den) = 0) := fun h => h5 h.2
    have h7 : ¬ (47 : UInt8).toNat = 46 := by decide
    unfold figKind figPlace figVal
    rw [e2, e3, e4, hz, e1, h3]
    simp only [show ¬ (0 : Int) ≤ -1 by omega, if_false, if_neg h4, if_neg h6, if_neg h7, if_neg h5]
    refine ⟨trivial, trivial, ?_⟩
    rw [zread_ztxt, readV_txt, Rat.mkRat_self]
/-- A number with so many places, rounded to the nearest. -/
def rnum (q : Rat) (k : Nat) : Nat := (2 * (q.num.natAbs * 10 ^ k) + q.den) / (2 * q.den)
/-- Noughts ahead, until there is a digit ahead of so many places. -/
def pad0 (k : Nat) (s : List UInt8) : List UInt8 := List.replicate (k + 1 - s.length) 48 ++ s
def pointed (k : Nat) (s : List UInt8) : List UInt8 := if k = 0 then s else s.take (s.length - k) ++ 46 :: s.drop (s.length - k)
def rtxt (q : Rat) (k : Nat) : List UInt8 := (if q.num < 0 ∧ rnum q k ≠ 0 then [45] else []) ++ pointed k (pad0 k (txt (rnum q k)))
/-- How many places there are. -/
def clampP (p : Int) : Nat := (min (max p 0) 60).toNat
theorem clampP_le (p : Int) : clampP p ≤ 60 := by unfold clampP; omega
theorem pad0_length (k : Nat) (s : List UInt8) : (pad0 k s).length = max (k + 1) s.length := by unfold pad0; rw [List.length_append, List.length_replicate]; omega
theorem alldig_pad0 {s : List UInt8} (k : Nat) (h : alldig s) : alldig (pad0 k s) := fun x hx => by
  rcases List.mem_append.1 hx with h1 | h1
  · rw [(List.mem_replicate.1 h1).2]; decide
  · exact h x h1
theorem readV_join (a b : List UInt8) : readV (a ++ b) = readV a * 10 ^ b.length + readV b := by
  have key : ∀ (b : List UInt8) (n : Nat), b.foldl (fun n x => n * 10 + (x.toNat - 48)) n = n * 10 ^ b.length + b.foldl (fun n x => n * 10 + (x.toNat - 48)) 0 := by
    intro b
    induction b with
    | nil => intro n; simp
    | cons x r ih =>
      intro n
      rw [List.foldl_cons, List.foldl_cons, ih (n * 10 + (x.toNat - 48)), ih (0 * 10 + (x.toNat - 48)), List.length_cons, Nat.pow_succ]
      grind
  unfold readV
  rw [List.foldl_append, key b]
theorem readV_noughts (j : Nat) : readV (List.replicate j 48) = 0 := by
  induction j with
  | zero => rfl
  | succ j ih => rw [List.replicate_succ, readV_cons _ _ (by decide), ih]
theorem readV_pad0 (k : Nat) (s : List UInt8) : readV (pad0 k s) = readV s := by unfold pad0; rw [readV_join, readV_noughts]; omega
/-- A text of digits with a point in it, and perhaps a sign ahead: what it says. -/
theorem alldig_take {l : List UInt8} (h : alldig l) (k : Nat) : alldig (l.take k) := fun x hx => h x (List.mem_of_mem_take hx)
theorem alldig_drop {l : List UInt8} (h : alldig l) (k : Nat) : alldig (l.drop k) := fun x hx => h x (List.mem_of_mem_drop hx)
theorem getD_head {l : List UInt8} (h : alldig l) (hne : l ≠ []) (r : List UInt8) : ((l ++ r).getD 0 0).toNat ≠ 45 := by
  cases l with
  | nil => exact absurd rfl hne
  | cons x t =>
    have := h x (List.mem_cons_self ..)
    show x.toNat ≠ 45
    omega
/-- What stands ahead of the point, with its sign or without one. -/
def sgnd (neg : Bool) (l : List UInt8) : List UInt8 := if neg = true then 45 :: l else l
theorem sgnd_says (neg : Bool) {l : List UInt8} (h : alldig l) (hne : l ≠ []) (hl : l.length ≤ 60) : nocut (sgnd neg l) ∧ zwrong (sgnd neg l) = -1 ∧ zread (sgnd neg l) = zval neg (readV l) ∧ ∀ r, decide (((sgnd neg l ++ r).getD 0 0).toNat = 45) = neg := by
  have h1 := wrongI_digits h hne hl
  cases neg with
  | true => exact ⟨nocut_signed (nocut_alldig h), zwrong_minus (by omega), zread_minus l, fun r => rfl⟩
  | false => exact ⟨nocut_alldig h, by rw [← h1]; exact zwrong_digits h hne, zread_digits h hne, fun r => decide_eq_false (getD_head h hne r)⟩
theorem fig_whole (neg : Bool) {l : List UInt8} (h : alldig l) (hne : l ≠ []) (hl : l.length ≤ 60) : figKind (sgnd neg l) = 0 ∧ figPlace (sgnd neg l) = 0 ∧ figVal (sgnd neg l) = ((zval neg (readV l) : Int) : Rat) := by
  obtain ⟨h1, h2, h3, _⟩ := sgnd_says neg h hne hl
  obtain ⟨e1, e2⟩ := fig_plain h1
  have h0 : ¬ (0 : Int) ≤ -1 := by omega
  unfold figKind figPlace figVal
  rw [e2, h2, e1, if_neg h0, if_neg h0, if_neg h0, if_pos rfl, if_pos rfl, if_pos rfl, h3]
  exact ⟨rfl, rfl, rfl⟩
theorem fig_point (neg : Bool) {l m : List UInt8} (h : alldig l) (hne : l ≠ []) (hl : l.length ≤ 60) (hm : alldig m) (hmne : m ≠ []) (hml : m.length ≤ 60) :
    figKind (sgnd neg l ++ 46 :: m) = 0 ∧ figPlace (sgnd neg l ++ 46 :: m) = 0 ∧ figVal (sgnd neg l ++ 46 :: m) = mkRat (zval neg (readV (l ++ m))) (10 ^ m.length) := by
  obtain ⟨h1, h2, h3, h4⟩ := sgnd_says neg h hne hl
  obtain ⟨e1, e2, e3, e4⟩ := fig_parts (b := m) (x := 46) h1 (.inr (by decide))
  have h5 := wrongI_digits hm hmne hml
  have h6 : ¬ (sgnd neg l).length = (sgnd neg l ++ 46 :: m).length := by simp
  have h7 : ¬ ((46 : UInt8).toNat ≠ 46 ∧ readV m = 0) := fun h => h.1 (by decide)
  have h8 : (46 : UInt8).toNat = 46 := by decide
  unfold figKind figPlace figVal
  rw [e2, e3, e4, h2, e1, h5, h4]
  simp only [show ¬ (0 : Int) ≤ -1 by omega, if_false, if_neg h6, if_neg h7, if_pos h8]
  refine ⟨trivial, trivial, ?_⟩
  rw [h3, zval_abs, readV_join]
/-- What is written of a rounded number, and what that says. -/
theorem rtxt_says (q : Rat) (k : Nat) (hk : k ≤ 60) (hl : (txt (rnum q k)).length ≤ k + 60) :
    figKind (rtxt q k) = 0 ∧ figPlace (rtxt q k) = 0 ∧ figVal (rtxt q k) = mkRat (zval (decide (q.num < 0)) (rnum q k)) (10 ^ k) := by
  obtain ⟨neg, hneg⟩ : ∃ neg : Bool, neg = decide (q.num < 0 ∧ rnum q k ≠ 0) := ⟨_, rfl⟩
  have e0 : rtxt q k = sgnd neg [] ++ pointed k (pad0 k (txt (rnum q k))) := by
    unfold rtxt sgnd
    rw [hneg]
    by_cases h : q.num < 0 ∧ rnum q k ≠ 0
    · rw [if_pos h, decide_eq_true h, if_pos rfl]
    · rw [if_neg h, decide_eq_false h, if_neg (by simp)]
  have ev : zval neg (rnum q k) = zval (decide (q.num < 0)) (rnum q k) := by
    rw [hneg]
    by_cases h : rnum q k = 0
    · rw [h, zval_nought, zval_nought]
    · by_cases h2 : q.num < 0
      · rw [decide_eq_true (show q.num < 0 ∧ rnum q k ≠ 0 from ⟨h2, h⟩), decide_eq_true h2]
      · rw [decide_eq_false (show ¬ (q.num < 0 ∧ rnum q k ≠ 0) from fun h3 => h2 h3.1), decide_eq_false h2]
  have esg : ∀ a b : List UInt8, sgnd neg [] ++ (a ++ b) = sgnd neg a ++ b := fun a b => by unfold sgnd; cases neg <;> rfl
  obtain ⟨s, hs⟩ : ∃ s, s = pad0 k (txt (rnum q k)) := ⟨_, rfl⟩
  have hsd : alldig s := by rw [hs]; exact alldig_pad0 k (alldig_txt _)
  have hsl : s.length = max (k + 1) (txt (rnum q k)).length := by rw [hs]; exact pad0_length _ _
  have hsv : readV s = rnum q k := by rw [hs, readV_pad0, readV_txt]
  rw [e0, ← hs, ← ev]
  unfold pointed
  by_cases h0 : k = 0
  · have h1 := fig_whole neg hsd (fun e => by rw [e] at hsl; simp at hsl; omega) (by omega)
    rw [if_pos h0, ← List.append_nil s, esg, List.append_nil, hsv] at *
    subst h0
    refine ⟨h1.1, h1.2.1, h1.2.2.trans ?_⟩
    rw [Nat.pow_zero]
    exact (Rat.mkRat_one _).symm
  · rw [if_neg h0]
    have hp := fig_point neg (l := s.take (s.length - k)) (m := s.drop (s.length - k)) (alldig_take hsd _) (fun e => by
        have := congrArg List.length e
        rw [List.length_take] at this
        simp at this
        omega) (by rw [List.length_take]; omega) (alldig_drop hsd _) (fun e => by
        have := congrArg List.length e
        rw [List.length_drop] at this
        simp at this
        omega) (by rw [List.length_drop]; omega)
    rw [esg]
    rw [List.take_append_drop, List.length_drop, show s.length - (s.length - k) = k by omega, hsv] at hp
    exact hp
end Go.Proofs.YteoeicfbaffjcaaGreatDoor

/-
  What package figure's functions owe (layer 10), as one hypothesis: the contracts that the laws' walks lean on. And the document's reading of whole numbers, in one form.
-/
namespace Go.Proofs.YteoeicfbaffjcaaGreatDoor
open Go.RowKit

structure FigureSaid : Prop where
  text : ∀ (v : Value) (q : Rat) (w : World), Fr w v q 200 → Hid (Dec10 w) → Calls Tryz.prog 11 #[v] w (Gives (.string (bs (ftxt q))) w)
  read : ∀ (l : List UInt8) (w : World), l.length ≤ 1000 → Calls Tryz.prog 15 #[.string (bs l)] w (LstQV (figVal l) (faultV (figKind l) 0 0 (figPlace l)) w)
  round : ∀ (v : Value) (q : Rat) (p : Int) (w : World), Fr w v q 200 → isInt p → Hid (Dec10 w) → Calls Tryz.prog 13 #[v, .int .i64 p] w (Gives (.string (bs (rtxt q (clampP p)))) w)
theorem ref08_read_ok (l : List UInt8) (w : World) (hl : l.length ≤ 1000) (h : Hid (zwrong l < 0)) : Calls Tryz.prog 55 #[.string (bs l)] w (ReadZ (zread l) (-1) w) := by
  have h1 := h.out
  cases l with
  | nil => exact absurd h1 (by rw [zwrong]; omega)
  | cons x r =>
    rw [zwrong] at h1
    by_cases hx : x.toNat = 45
    · rw [if_pos hx] at h1
      have h2 : wrongI r < 0 := by
        by_cases h3 : wrongI r < 0
        · exact h3
        · rw [if_neg h3] at h1; omega
      rw [zread, if_pos hx]
      exact ref08_read_minus_ok x r hx w (by simp only [List.length_cons] at hl; omega) (Lib.hid h2)
    · rw [if_neg hx] at h1
      rw [zread, if_neg hx]
      exact ref08_read_plain_ok x r hx w hl (Lib.hid h1)
theorem ref08_read_no (l : List UInt8) (w : World) (hl : l.length ≤ 1000) (h : Hid (0 ≤ zwrong l)) : Calls Tryz.prog 55 #[.string (bs l)] w (ReadZ 0 (zwrong l) w) := by
  have h1 := h.out
  cases l with
  | nil =>
    have h3 := ref08_read_nil_bad w hl (Lib.hid (by unfold wrongI; rw [if_pos rfl]; omega))
    rw [show (0 : Int) + wrongI [] = zwrong [] by unfold wrongI; rw [if_pos rfl, zwrong]; rfl] at h3
    exact h3
  | cons x r =>
    by_cases hx : x.toNat = 45
    · rw [zwrong, if_pos hx] at h1 ⊢
      have h2 : ¬ wrongI r < 0 := fun h3 => by rw [if_pos h3] at h1; omega
      rw [if_neg h2]
      exact ref08_read_minus_bad x r hx w (by simp only [List.length_cons] at hl; omega) (Lib.hid (by omega))
    · rw [zwrong, if_neg hx] at h1 ⊢
      have h3 := ref08_read_plain_bad x r hx w hl (Lib.hid h1)
      rw [Int.zero_add] at h3
      exact h3
end Go.Proofs.YteoeicfbaffjcaaGreatDoor

/-
  Package figure at this seat: Text.
-/
namespace Go.Proofs.YteoeicfbaffjcaaGreatDoor
open Go.RowKit

theorem fig_cmp_one (n : Nat) : (cmpI (val (dg n)) (val (dg 1)) == 0) = decide (n = 1) := by
  rw [val_dg, val_dg]
  unfold cmpI
  by_cases h : n = 1
  · rw [decide_eq_true h, h]; rfl
  · rw [decide_eq_false h]
    split
    · rfl
    · split
      · rfl
      · omega
set_option maxRecDepth 4096 in
set_option maxHeartbeats 4000000 in
theorem figure_text (neg : Bool) (a : Option Addr) (n cap : Nat) (la : List Nat) (b : Option Addr) (m cap' : Nat) (lb : List Nat) (w : World) (ha : Wd w a n cap la) (hb : Wd w b m cap' lb) (hn : n ≤ 900) (hm : m ≤ 900) (hT : Hid (Dec10 w)) :
    Calls Tryz.prog 11 #[frV neg a n cap b m cap'] w (Gives (.string (bs (ftxt (qval neg (val la) (val lb))))) w) := by
  have HB := Lib.hid (below_alloc w (.cells #[.bool neg, .slice a n cap, .slice b m cap'] 30))
  have HA := Lib.hid (ha.later HB.out)
  have HC := Lib.hid (hb.later HB.out)
  have HX := Lib.hid (blk_new w #[.bool neg, .slice a n cap, .slice b m cap'] 30)
  have hq0 := (Fr.of ha hb hn hm (rfl : qval neg (val la) (val lb) = qval neg (val la) (val lb))).len
  clear ha hb
  obtain ⟨q, hq⟩ : ∃ q, qval neg (val la) (val lb) = q := ⟨_, rfl⟩
  rw [hq] at hq0 ⊢
  have HQ := Lib.hid hq
  clear hq
  have hln : (dg q.num.natAbs).length ≤ 901 := Nat.le_trans (qlen_num q) hq0
  have hld : (dg q.den).length ≤ 901 := Nat.le_trans (qlen_den q) hq0
  have HZ : Hid (zval (zneg q.num) (val (dg q.num.natAbs)) = q.num) := Lib.hid (zval_dg q.num)
  have HV : Hid (val (dg q.den) = q.den) := Lib.hid (val_dg q.den)
  obtain ⟨cc, hcc⟩ : ∃ cc, cmpI (val (dg q.den)) (val (dg 1)) = cc := ⟨_, rfl⟩
  obtain ⟨d, hd⟩ : ∃ d, (cc == 0) = d := ⟨_, rfl⟩
  have HD : Hid (d = decide (q.den = 1)) := Lib.hid (by rw [← hd, ← hcc]; exact fig_cmp_one q.den)
  have HCC := Lib.hid hcc
  have hz1 := bs_size (ztxt q.num)
  have hz2 := bs_size [47]
  have hz3 := bs_size (txt q.den)
  simp only [List.length_cons, List.length_nil] at hz2
  have ht2 : (txt q.den).length ≤ 100000 := by
    have h1 := val_lt (okw_dg q.den)
    rw [val_dg, pow32] at h1
    have h2 := txt_length_le h1
    omega
  have ht1 : (ztxt q.num).length ≤ 100001 := by
    have h1 := val_lt (okw_dg q.num.natAbs)
    rw [val_dg, pow32] at h1
    have h2 := txt_length_le h1
    unfold ztxt; split <;> (try rw [List.length_cons]) <;> omega
  have ln10 : (dg 1).length ≤ 1 := dg_length_le (by decide)
  clear hcc hq0
  go_enter Tryz.func11, Tryz.ntmps11
  unfold frV
  obtain ⟨vk0, vk1, vk2⟩ := fcells_3 HX.out
  go_wp2_with fail
  refine (frac_norm neg a n cap la b m cap' lb _ HA.out HC.out (by omega) (by omega)).mono ?_
  rintro e wv1 ⟨a1, n1, c1, b1, m1, d1, rfl, h1, g1, b⟩
  clear vk0 vk1 vk2
  replace HB := Lib.hid (below_then HB.out b)
  replace HX := Lib.hid (blk_later HX.out b)
  clear HA
  clear HC
  clear b
  rw [HQ.out] at h1 g1 ⊢
  have ln1 := h1.len
  have lm1 := g1.len
  have R1 := Lib.hid h1
  have T1 := Lib.hid g1
  clear h1 g1
  unfold frV
  have q0 := blk_cell HX.out 0
  have q1 := blk_cell HX.out 1
  have q2 := blk_cell HX.out 2
  simp only [List.getElem?_toArray, List.getElem?_cons_zero, List.getElem?_cons_succ] at q0 q1 q2
  have f0 := blk_free HX.out 0
  have f1 := blk_free HX.out 1
  have f2 := blk_free HX.out 2
  replace R1 := Lib.hid (R1.out.stored3 HX.out ((zneg q.num)) a1 n1 c1 (.slice b1 m1 d1))
  replace T1 := Lib.hid (T1.out.stored3 HX.out ((zneg q.num)) a1 n1 c1 (.slice b1 m1 d1))
  replace HB := Lib.hid (below_set3 HB.out (show w.heap.size ≤ w.heap.size by omega) (.bool (zneg q.num)) (.slice a1 n1 c1) (.slice b1 m1 d1))
  replace HX := Lib.hid (blk_set3 HX.out (.bool (zneg q.num)) (.slice a1 n1 c1) (.slice b1 m1 d1))
  obtain ⟨vk0, vk1, vk2⟩ := fcells_3 HX.out
  go_wp2_with fail
  refine (whole_text digitsSaid (zneg q.num) a1 n1 c1 _ _ R1.out (by omega) (Lib.hid (hT.out.later HB.out))).mono ?_
  rintro e wv2 ⟨rfl, b⟩
  clear vk0 vk1 vk2
  replace HB := Lib.hid (below_then HB.out b)
  replace HX := Lib.hid (blk_later HX.out b)
  clear R1
  replace T1 := Lib.hid (T1.out.later b)
  clear b
  rw [HZ.out]
  go_wp2
  generalize wv2 = W at *
  replace HB := Lib.hid (below_then HB.out ((Below.refl _ _).drew : Below W.heap.size W W.drew))
  replace HX : Hid (W.drew.heap[w.heap.size]? = _) := Lib.hid HX.out
  replace T1 := Lib.hid (T1.out.later ((Below.refl _ _).drew : Below W.heap.size W W.drew))
  have pSn := fcells_3 HX.out
  go_region_held3 (fun w' => w'.cell? ⟨w.heap.size, 0, none⟩ = some (.bool (zneg q.num)) ∧ w'.cell? ⟨w.heap.size, 1, none⟩ = some (.slice a1 n1 c1) ∧ w'.cell? ⟨w.heap.size, 2, none⟩ = some (.slice b1 m1 d1)) (exact pSn)
    (first
    | (go_at_call 34; (first
      | (refine (natSaid.of 1 _ (by omega)).mono ?_; rintro e wp1 ⟨a3, n3, c3, rfl, h3, b⟩; replace HB := Lib.hid (below_then HB.out b); replace HX := Lib.hid (blk_later HX.out b); replace T1 := Lib.hid (T1.out.later b); have R3 := Lib.hid h3; have ln3 := h3.len; clear h3; clear b; clear pSn; have pSn := fcells_3 HX.out; have pM1 := True.intro)))
    | (go_at_call 33; (first
      | (have pm1 := pM1; refine (natSaid.cmp b1 m1 d1 _ a3 n3 c3 _ _ T1.out R3.out (by omega) (by omega)).mono ?_; rintro e wp2 ⟨rfl, b⟩; replace HB := Lib.hid (below_then HB.out b); replace HX := Lib.hid (blk_later HX.out b); replace T1 := Lib.hid (T1.out.later b); clear R3; rw [HCC.out]; clear b; clear pSn; have pSn := fcells_3 HX.out; clear pM1 pm1; have pM2 := True.intro))))
  cases d with
  | true =>
    have HF : Hid (ftxt q = ztxt q.num) := Lib.hid (by unfold ftxt; rw [if_pos (of_decide_eq_true HD.out.symm), List.append_nil])
    go_wp2
    go_ret
    exact ⟨by rw [HF.out]; rfl, HB.out⟩
  | false =>
    have HF : Hid (bs (ztxt q.num) ++ bs [47] ++ bs (txt q.den) = bs (ftxt q)) := Lib.hid (by rw [bs_append, bs_append]; unfold ftxt; rw [if_neg (of_decide_eq_false HD.out.symm), List.append_assoc]; rfl)
    obtain ⟨k0, k1, k2⟩ := fcells_3 HX.out
    go_wp2_with fail
    refine (digits_text b1 m1 d1 _ _ T1.out (by omega) (Lib.hid (hT.out.later HB.out))).mono ?_
    rintro e w9 ⟨rfl, b9⟩
    rw [HV.out]
    go_wp2
    go_ret
    exact ⟨by rw [← HF.out]; rfl, below_then HB.out b9⟩
end Go.Proofs.YteoeicfbaffjcaaGreatDoor

/-
  Plain mathematics: what looking for a / or a point in any bytes tells, however the bytes are read as letters. Nothing of the program.
-/
namespace Go.Proofs.YteoeicfbaffjcaaGreatDoor

/-- The place of the first / or point, or -1. -/
def cutI (l : List UInt8) : Int := if cutAt l < l.length then (cutAt l : Int) else -1
theorem cutI_here {l : List UInt8} (h : cutAt l < l.length) : cutI l = (cutAt l : Int) := if_pos h
theorem cutI_none {l : List UInt8} (h : cutAt l = l.length) : cutI l = -1 := if_neg (by omega)
/-- What lies behind a letter's first byte is none of the two. -/
theorem decode_wide (s : ByteArray) (pos j : Nat) (h : pos < s.size) (ha : 128 ≤ (s[pos]'h).toNat) (h1 : 1 ≤ j) (hj : j < (Utf8.decode s pos).2) : pos + j < s.size ∧ 128 ≤ (s.get! (pos + j)).toNat := by
  have hn : ¬ (s[pos]'h).toNat < 128 := by omega
  simp only [Utf8.decode, get_at s pos h, hn, if_false] at hj
  split at hj
  · rename_i h2
    simp only [Bool.and_eq_true, decide_eq_true_eq, beq_iff_eq] at h2
    split at hj
    · obtain rfl : j = 1 := by simp only at hj; omega
      omega
    · simp only at hj; omega
  · split at hj
    · rename_i h2
      simp only [Bool.and_eq_true, decide_eq_true_eq, beq_iff_eq] at h2
      split at hj
      · simp only at hj
        rcases (show j = 1 ∨ j = 2 by omega) with rfl | rfl <;> omega
      · simp only at hj; omega
    · split at hj
      · rename_i h2
        simp only [Bool.and_eq_true, decide_eq_true_eq, beq_iff_eq] at h2
        split at hj
        · simp only at hj
          rcases (show j = 1 ∨ j = 2 ∨ j = 3 by omega) with rfl | rfl | rfl <;> omega
        · simp only at hj; omega
      · simp only at hj; omega
theorem bs_get! (l : List UInt8) (k : Nat) (h : k < l.length) : ((bs l).get! k).toNat = (l.getD k 0).toNat := by
  have h' : k < (bs l).size := by rw [bs_size]; exact h
  rw [show (bs l).get! k = (bs l)[k]'h' from get_at (bs l) k h']
  exact bs_get l k h h'
/-- A letter that isn't plain leads over none of the two. -/
theorem cutAt_letter {l : List UInt8} {k : Nat} (hk : k ≤ cutAt l) (hl : k < l.length) (hx : 128 ≤ (l.getD k 0).toNat) : k + (Utf8.decode (bs l) k).2 ≤ cutAt l := by
  have hs := bs_size l
  have h' : k < (bs l).size := by rw [hs]; exact hl
  have hget := bs_get l k hl h'
  have ha : 128 ≤ ((bs l)[k]'h').toNat := by rw [hget]; exact hx
  have key : ∀ j, j ≤ (Utf8.decode (bs l) k).2 → k + j ≤ cutAt l := by
    intro j
    induction j with
    | zero => intro _; omega
    | succ j ih =>
      intro hj
      have h1 := ih (by omega)
      by_cases h0 : j = 0
      · subst h0
        exact cutAt_more hk hl (by omega)
      · obtain ⟨h2, h3⟩ := decode_wide (bs l) k j h' ha (by omega) (by omega)
        rw [hs] at h2
        rw [bs_get! l _ h2] at h3
        have h4 := cutAt_more (l := l) (k := k + j) h1 h2 (by omega)
        omega
  exact key _ (Nat.le_refl _)
theorem cutAt_plain {l : List UInt8} {k : Nat} (hk : k ≤ cutAt l) (hl : k < l.length) (hx : (l.getD k 0).toNat < 128) (hn : ¬ ((l.getD k 0).toNat = 47 ∨ (l.getD k 0).toNat = 46)) : k + (Utf8.decode (bs l) k).2 ≤ cutAt l := by
  have h' : k < (bs l).size := by rw [bs_size]; exact hl
  rw [decode_ascii (bs l) k h' (by rw [bs_get l k hl h']; exact hx)]
  exact cutAt_more hk hl hn
theorem decode_pos {l : List UInt8} {k : Nat} (hl : k < l.length) : 1 ≤ (Utf8.decode (bs l) k).2 := by
  have h' : k < (bs l).size := by rw [bs_size]; exact hl
  by_cases ha : ((bs l)[k]'h').toNat < 128
  · rw [decode_ascii (bs l) k h' ha]; exact Nat.le_refl _
  · exact (decode_high (bs l) k h' (by omega)).2
end Go.Proofs.YteoeicfbaffjcaaGreatDoor
