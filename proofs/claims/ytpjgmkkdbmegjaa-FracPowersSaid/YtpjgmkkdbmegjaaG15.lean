/-
  Several texts of this claim as one, group 15.
-/
import Derived.Test.YtpjgmkkdbmegjaaG14
import Derived.Deep.RegionHeld3
import Derived.Test.YtpjgmkkdbmegjaaG3
import Derived.BigQuiet
/-
  Package frac at this seat: Add, Sub.
-/
namespace Go.Proofs.Ytpjgmkkdbmegjaa
open Go.RowKit

set_option maxRecDepth 4096 in
set_option maxHeartbeats 4000000 in
theorem frac_add (na : Bool) (a : Option Addr) (n cap : Nat) (la : List Nat) (b : Option Addr) (m cap' : Nat) (lb : List Nat) (nb : Bool) (a' : Option Addr) (n' c' : Nat) (la' : List Nat) (b' : Option Addr) (m' d' : Nat) (lb' : List Nat) (w : World) (ha : Wd w a n cap la) (hb : Wd w b m cap' lb) (ha' : Wd w a' n' c' la') (hb' : Wd w b' m' d' lb') (hn : n ≤ 9000) (hm : m ≤ 9000) (hn' : n' ≤ 9000) (hm' : m' ≤ 9000) :
    Calls Try.prog 28 #[frV na a n cap b m cap', frV nb a' n' c' b' m' d'] w (LstQ (qval na (val la) (val lb) + qval nb (val la') (val lb')) w) := by
  have HB := Lib.hid (below_then (below_then (below_alloc w (.cells #[.bool na, .slice a n cap, .slice b m cap'] 34)) (below_alloc _ (.cells #[.bool nb, .slice a' n' c', .slice b' m' d'] 34))) (below_alloc _ (.cells #[.bool false, .slice none 0 0, .slice none 0 0] 34)))
  have HA := Lib.hid (ha.later HB.out)
  have HC := Lib.hid (hb.later HB.out)
  have HA' := Lib.hid (ha'.later HB.out)
  have HC' := Lib.hid (hb'.later HB.out)
  obtain ⟨hx1, hx2, hx3⟩ := boxes3_at9 w #[.bool na, .slice a n cap, .slice b m cap'] #[.bool nb, .slice a' n' c', .slice b' m' d'] #[.bool false, .slice none 0 0, .slice none 0 0] 34 34 34
  have HX := Lib.hid hx1
  have HY := Lib.hid hx2
  have HR := Lib.hid hx3
  have ta := ha.trim_le
  have tb := hb.trim_le
  have ta' := ha'.trim_le
  have tb' := hb'.trim_le
  clear ha hb ha' hb' hx1 hx2 hx3
  have H0A : Hid (sgn (qval na (val la) (val lb)).num = 0 → qval nb (val la') (val lb') = qval na (val la) (val lb) + qval nb (val la') (val lb')) := Lib.hid (fun h => by rw [fc_qsign_zero.1 h, Rat.zero_add])
  have H0B : Hid (sgn (qval nb (val la') (val lb')).num = 0 → qval na (val la) (val lb) = qval na (val la) (val lb) + qval nb (val la') (val lb')) := Lib.hid (fun h => by rw [fc_qsign_zero.1 h, Rat.add_zero])
  have H1A : Hid (sgn (qval na (val la) (val lb)).num ≠ 0 → val lb ≠ 0) := Lib.hid (fun h e => h (by rw [qval_none na (.inl e)]; rfl))
  have H1B : Hid (sgn (qval nb (val la') (val lb')).num ≠ 0 → val lb' ≠ 0) := Lib.hid (fun h e => h (by rw [qval_none nb (.inl e)]; rfl))
  obtain ⟨X, hX⟩ : ∃ X, val lb / Nat.gcd (val lb) (val lb') = X := ⟨_, rfl⟩
  obtain ⟨Y, hY⟩ : ∃ Y, val lb' / Nat.gcd (val lb) (val lb') = Y := ⟨_, rfl⟩
  have lX : (dg X).length ≤ 9000 := by rw [← hX]; exact Nat.le_trans (dg_length_mono (Nat.div_le_self _ _)) (by omega)
  have lY : (dg Y).length ≤ 9000 := by rw [← hY]; exact Nat.le_trans (dg_length_mono (Nat.div_le_self _ _)) (by omega)
  obtain ⟨s1, hs1⟩ : ∃ s1, zval na (val la) * (Y : Int) = s1 := ⟨_, rfl⟩
  obtain ⟨s2, hs2⟩ : ∃ s2, zval nb (val la') * (X : Int) = s2 := ⟨_, rfl⟩
  obtain ⟨D, hD⟩ : ∃ D, val lb * Y = D := ⟨_, rfl⟩
  have zl1 := zlen_mul (zval na (val la)) (Y : Int)
  have zl2 := zlen_mul (zval nb (val la')) (X : Int)
  have zl3 := dg_mul_length (val lb) Y
  rw [zval_abs, Int.natAbs_natCast, hs1] at zl1
  rw [zval_abs, Int.natAbs_natCast, hs2] at zl2
  rw [hD] at zl3
  have zl4 := zlen_add s1 s2
  have HS1 : Hid (zval na (val la) * ((val (dg Y) : Nat) : Int) = s1) := Lib.hid (by rw [val_dg]; exact hs1)
  have HS2 : Hid (zval nb (val la') * ((val (dg X) : Nat) : Int) = s2) := Lib.hid (by rw [val_dg]; exact hs2)
  have HD : Hid (val lb * val (dg Y) = D) := Lib.hid (by rw [val_dg]; exact hD)
  have HZ : Hid (val lb ≠ 0 → val lb' ≠ 0 → qval (zneg (s1 + s2)) (val (dg (s1 + s2).natAbs)) (val (dg D)) = qval na (val la) (val lb) + qval nb (val la') (val lb')) := Lib.hid (fun h h' => by
    rw [val_dg, val_dg, fc_qval_of, ← hs1, ← hs2, ← hD, ← hX, ← hY]
    exact fc_qval_add na nb _ _ _ _ h h')
  have EX := Lib.hid hX
  have EY := Lib.hid hY
  clear hX hY hs1 hs2 hD
  generalize hq : qval na (val la) (val lb) + qval nb (val la') (val lb') = q at *
  generalize hp : qval na (val la) (val lb) = p at *
  generalize hr : qval nb (val la') (val lb') = r at *
  have HP := Lib.hid hp
  have HR9 := Lib.hid hr
  clear hp hr hq
  go_enter Try.func28, Try.ntmps28
  unfold frV
  obtain ⟨vk0, vk1, vk2, vk3, vk4, vk5, vk6, vk7, vk8⟩ := fcells_3_3_3 HX.out HY.out HR.out
  go_wp2_with fail
  refine (frac_sign na a n cap la b m cap' lb _ HA.out HC.out (by omega) (by omega)).mono ?_
  rintro e wv1 ⟨rfl, b⟩
  clear vk0 vk1 vk2 vk3 vk4 vk5 vk6 vk7 vk8
  replace HB := Lib.hid (below_then HB.out b)
  replace HX := Lib.hid (blk_later HX.out b)
  replace HY := Lib.hid (blk_later HY.out b)
  replace HR := Lib.hid (blk_later HR.out b)
  replace HA := Lib.hid (HA.out.later b)
  replace HC := Lib.hid (HC.out.later b)
  replace HA' := Lib.hid (HA'.out.later b)
  replace HC' := Lib.hid (HC'.out.later b)
  clear b
  rw [HP.out]
  generalize sgn p.num = x at *
  by_cases hx0 : x = 0
  · have hq : (x == 0) = true := by simp [hx0]
    have HQ0 : Hid (qval nb (val la') (val lb') = q) := Lib.hid (HR9.out.trans (H0A.out hx0))
    clear hx0 H0A H0B H1A H1B HZ HA HC zl1 zl2 zl3 zl4 lX lY
    obtain ⟨uk0, uk1, uk2, uk3, uk4, uk5, uk6, uk7, uk8⟩ := fcells_3_3_3 HX.out HY.out HR.out
    go_wp2_with fail
    refine (frac_norm nb a' n' c' la' b' m' d' lb' _ HA'.out HC'.out (by omega) (by omega)).mono ?_
    rintro e wu1 ⟨a1, n1, c1, b1, m1, d1, rfl, h1, g1, b⟩
    clear uk0 uk1 uk2 uk3 uk4 uk5 uk6 uk7 uk8
    replace HB := Lib.hid (below_then HB.out b)
    replace HX := Lib.hid (blk_later HX.out b)
    replace HY := Lib.hid (blk_later HY.out b)
    replace HR := Lib.hid (blk_later HR.out b)
    clear HA'
    clear HC'
    clear b
    rw [HQ0.out] at h1 g1 ⊢
    have R1 := Lib.hid h1
    have T1 := Lib.hid g1
    clear h1 g1
    unfold frV
    have q0 := blk_cell HR.out 0
    have q1 := blk_cell HR.out 1
    have q2 := blk_cell HR.out 2
    simp only [List.getElem?_toArray, List.getElem?_cons_zero, List.getElem?_cons_succ] at q0 q1 q2
    have f0 := blk_free HR.out 0
    have f1 := blk_free HR.out 1
    have f2 := blk_free HR.out 2
    replace HX := Lib.hid (blk_far3 HX.out (show w.heap.size ≠ w.heap.size + 1 + 1 by omega) (.bool (zneg q.num)) (.slice a1 n1 c1) (.slice b1 m1 d1))
    replace HY := Lib.hid (blk_far3 HY.out (show w.heap.size + 1 ≠ w.heap.size + 1 + 1 by omega) (.bool (zneg q.num)) (.slice a1 n1 c1) (.slice b1 m1 d1))
    replace R1 := Lib.hid (R1.out.stored3 HR.out ((zneg q.num)) a1 n1 c1 (.slice b1 m1 d1))
    replace T1 := Lib.hid (T1.out.stored3 HR.out ((zneg q.num)) a1 n1 c1 (.slice b1 m1 d1))
    replace HB := Lib.hid (below_set3 HB.out (show w.heap.size ≤ w.heap.size + 1 + 1 by omega) (.bool (zneg q.num)) (.slice a1 n1 c1) (.slice b1 m1 d1))
    replace HR := Lib.hid (blk_set3 HR.out (.bool (zneg q.num)) (.slice a1 n1 c1) (.slice b1 m1 d1))
    go_wp2
    refine bodyPost_ret (results_cell_row Try.results28 _ _ (w.heap.size + 1 + 1) 34 #[.bool (zneg q.num), .slice a1 n1 c1, .slice b1 m1 d1] (0, 0) _ rfl HR.out Try.underlying34 rfl (by kernel_rfl)) rfl ?_
    exact ⟨a1, n1, c1, b1, m1, d1, rfl, R1.out, T1.out, HB.out⟩
  · have hq : (x == 0) = false := by simp [hx0]
    have HV := Lib.hid (H1A.out hx0)
    clear hx0 H0A H1A
    obtain ⟨uk0, uk1, uk2, uk3, uk4, uk5, uk6, uk7, uk8⟩ := fcells_3_3_3 HX.out HY.out HR.out
    go_wp2_with fail
    refine (frac_sign nb a' n' c' la' b' m' d' lb' _ HA'.out HC'.out (by omega) (by omega)).mono ?_
    rintro e wu1 ⟨rfl, b⟩
    clear uk0 uk1 uk2 uk3 uk4 uk5 uk6 uk7 uk8
    replace HB := Lib.hid (below_then HB.out b)
    replace HX := Lib.hid (blk_later HX.out b)
    replace HY := Lib.hid (blk_later HY.out b)
    replace HR := Lib.hid (blk_later HR.out b)
    replace HA := Lib.hid (HA.out.later b)
    replace HC := Lib.hid (HC.out.later b)
    replace HA' := Lib.hid (HA'.out.later b)
    replace HC' := Lib.hid (HC'.out.later b)
    clear b
    rw [HR9.out]
    generalize sgn r.num = y at *
    by_cases hy0 : y = 0
    · have hr : (y == 0) = true := by simp [hy0]
      have HQ0 : Hid (qval na (val la) (val lb) = q) := Lib.hid (HP.out.trans (H0B.out hy0))
      clear hy0 H0B H1B HZ HA' HC' zl1 zl2 zl3 zl4 lX lY
      obtain ⟨tk0, tk1, tk2, tk3, tk4, tk5, tk6, tk7, tk8⟩ := fcells_3_3_3 HX.out HY.out HR.out
      go_wp2_with fail
      refine (frac_norm na a n cap la b m cap' lb _ HA.out HC.out (by omega) (by omega)).mono ?_
      rintro e wt1 ⟨a1, n1, c1, b1, m1, d1, rfl, h1, g1, b⟩
      clear tk0 tk1 tk2 tk3 tk4 tk5 tk6 tk7 tk8
      replace HB := Lib.hid (below_then HB.out b)
      replace HX := Lib.hid (blk_later HX.out b)
      replace HY := Lib.hid (blk_later HY.out b)
      replace HR := Lib.hid (blk_later HR.out b)
      clear HA
      clear HC
      clear b
      rw [HQ0.out] at h1 g1 ⊢
      have R1 := Lib.hid h1
      have T1 := Lib.hid g1
      clear h1 g1
      unfold frV
      have q0 := blk_cell HR.out 0
      have q1 := blk_cell HR.out 1
      have q2 := blk_cell HR.out 2
      simp only [List.getElem?_toArray, List.getElem?_cons_zero, List.getElem?_cons_succ] at q0 q1 q2
      have f0 := blk_free HR.out 0
      have f1 := blk_free HR.out 1
      have f2 := blk_free HR.out 2
      replace HX := Lib.hid (blk_far3 HX.out (show w.heap.size ≠ w.heap.size + 1 + 1 by omega) (.bool (zneg q.num)) (.slice a1 n1 c1) (.slice b1 m1 d1))
      replace HY := Lib.hid (blk_far3 HY.out (show w.heap.size + 1 ≠ w.heap.size + 1 + 1 by omega) (.bool (zneg q.num)) (.slice a1 n1 c1) (.slice b1 m1 d1))
      replace R1 := Lib.hid (R1.out.stored3 HR.out ((zneg q.num)) a1 n1 c1 (.slice b1 m1 d1))
      replace T1 := Lib.hid (T1.out.stored3 HR.out ((zneg q.num)) a1 n1 c1 (.slice b1 m1 d1))
      replace HB := Lib.hid (below_set3 HB.out (show w.heap.size ≤ w.heap.size + 1 + 1 by omega) (.bool (zneg q.num)) (.slice a1 n1 c1) (.slice b1 m1 d1))
      replace HR := Lib.hid (blk_set3 HR.out (.bool (zneg q.num)) (.slice a1 n1 c1) (.slice b1 m1 d1))
      go_wp2
      refine bodyPost_ret (results_cell_row Try.results28 _ _ (w.heap.size + 1 + 1) 34 #[.bool (zneg q.num), .slice a1 n1 c1, .slice b1 m1 d1] (0, 0) _ rfl HR.out Try.underlying34 rfl (by kernel_rfl)) rfl ?_
      exact ⟨a1, n1, c1, b1, m1, d1, rfl, R1.out, T1.out, HB.out⟩
    · have hr : (y == 0) = false := by simp [hy0]
      have HZ2 := Lib.hid (HZ.out HV.out (H1B.out hy0))
      clear hy0 H0B H1B HZ HV
      obtain ⟨tk0, tk1, tk2, tk3, tk4, tk5, tk6, tk7, tk8⟩ := fcells_3_3_3 HX.out HY.out HR.out
      go_wp2_with fail
      refine (common_cancel b m cap' lb b' m' d' lb' _ HC.out HC'.out (by omega) (by omega)).mono ?_
      rintro e wt1 ⟨ax, nx, cx, ay, ny, cy, rfl, hX, hY, b⟩
      clear tk0 tk1 tk2 tk3 tk4 tk5 tk6 tk7 tk8
      replace HB := Lib.hid (below_then HB.out b)
      replace HX := Lib.hid (blk_later HX.out b)
      replace HY := Lib.hid (blk_later HY.out b)
      replace HR := Lib.hid (blk_later HR.out b)
      replace HA := Lib.hid (HA.out.later b)
      replace HC := Lib.hid (HC.out.later b)
      replace HA' := Lib.hid (HA'.out.later b)
      replace HC' := Lib.hid (HC'.out.later b)
      clear b
      rw [EX.out] at hX
      rw [EY.out] at hY
      have lnx := hX.len
      have lny := hY.len
      have RX := Lib.hid hX
      have RY := Lib.hid hY
      clear hX hY
      obtain ⟨tk0, tk1, tk2, tk3, tk4, tk5, tk6, tk7, tk8⟩ := fcells_3_3_3 HX.out HY.out HR.out
      go_wp2
      clear tk0 tk1 tk2 tk3 tk4 tk5 tk6 tk7 tk8
      replace HB := Lib.hid (below_then HB.out ((Below.refl _ _).drew : Below wt1.heap.size wt1 wt1.drew))
      replace HX : Hid (wt1.drew.heap[w.heap.size]? = _) := Lib.hid HX.out
      replace HY : Hid (wt1.drew.heap[w.heap.size + 1]? = _) := Lib.hid HY.out
      replace HR : Hid (wt1.drew.heap[w.heap.size + 1 + 1]? = some (.cells #[.bool false, .slice none 0 0, .slice none 0 0] 34 (0, 0))) := Lib.hid HR.out
      replace HA := Lib.hid (HA.out.later ((Below.refl _ _).drew : Below wt1.heap.size wt1 wt1.drew))
      replace HC := Lib.hid (HC.out.later ((Below.refl _ _).drew : Below wt1.heap.size wt1 wt1.drew))
      replace HA' := Lib.hid (HA'.out.later ((Below.refl _ _).drew : Below wt1.heap.size wt1 wt1.drew))
      replace HC' := Lib.hid (HC'.out.later ((Below.refl _ _).drew : Below wt1.heap.size wt1 wt1.drew))
      replace RX := Lib.hid (RX.out.later ((Below.refl _ _).drew : Below wt1.heap.size wt1 wt1.drew))
      replace RY := Lib.hid (RY.out.later ((Below.refl _ _).drew : Below wt1.heap.size wt1 wt1.drew))
      have pSn := fcells_3_3 HX.out HY.out
      go_region_held3 (fun w' => w'.cell? ⟨w.heap.size, 0, none⟩ = some (.bool na) ∧ w'.cell? ⟨w.heap.size, 1, none⟩ = some (.slice a n cap) ∧ w'.cell? ⟨w.heap.size, 2, none⟩ = some (.slice b m cap') ∧ w'.cell? ⟨w.heap.size + 1, 0, none⟩ = some (.bool nb) ∧ w'.cell? ⟨w.heap.size + 1, 1, none⟩ = some (.slice a' n' c') ∧ w'.cell? ⟨w.heap.size + 1, 2, none⟩ = some (.slice b' m' d')) (first | exact pSn | exact pSb _ _ _)
        (first
        | (go_at_call 63; (first
          | (have pm1 := pM1; refine (frac_times nb a' n' c' la' ax nx cx _ _ HA'.out RX.out (by omega) (by omega)).mono ?_; rintro e wp2 ⟨a2, n2, c2, rfl, h2, b⟩; replace HB := Lib.hid (below_then HB.out b); replace HX := Lib.hid (blk_later HX.out b); replace HY := Lib.hid (blk_later HY.out b); replace HR := Lib.hid (blk_later HR.out b); replace HA := Lib.hid (HA.out.later b); replace HC := Lib.hid (HC.out.later b); replace HA' := Lib.hid (HA'.out.later b); replace HC' := Lib.hid (HC'.out.later b); replace RX := Lib.hid (RX.out.later b); replace RY := Lib.hid (RY.out.later b); replace R1 := Lib.hid (R1.out.later b); rw [HS2.out] at h2 ⊢; have R2 := Lib.hid h2; have ln2 := h2.len; clear h2; unfold whV; clear b; clear pSn; have pSn := fcells_3_3 HX.out HY.out; clear pM1 pm1; have pM2 := True.intro)
          | (refine (frac_times na a n cap la ay ny cy _ _ HA.out RY.out (by omega) (by omega)).mono ?_; rintro e wp1 ⟨a1, n1, c1, rfl, h1, b⟩; replace HB := Lib.hid (below_then HB.out b); replace HX := Lib.hid (blk_later HX.out b); replace HY := Lib.hid (blk_later HY.out b); replace HR := Lib.hid (blk_later HR.out b); replace HA := Lib.hid (HA.out.later b); replace HC := Lib.hid (HC.out.later b); replace HA' := Lib.hid (HA'.out.later b); replace HC' := Lib.hid (HC'.out.later b); replace RX := Lib.hid (RX.out.later b); replace RY := Lib.hid (RY.out.later b); rw [HS1.out] at h1 ⊢; have R1 := Lib.hid h1; have ln1 := h1.len; clear h1; unfold whV; clear b; clear pSn; have pSn := fcells_3_3 HX.out HY.out; have pM1 := True.intro)))
        | (go_at_call 62; (first
          | (have pm2 := pM2; refine (whole_add _ a1 n1 c1 _ _ a2 n2 c2 _ _ R1.out R2.out (by omega) (by omega)).mono ?_; rintro e wp3 ⟨a3, n3, c3, rfl, h3, b⟩; replace HB := Lib.hid (below_then HB.out b); replace HX := Lib.hid (blk_later HX.out b); replace HY := Lib.hid (blk_later HY.out b); replace HR := Lib.hid (blk_later HR.out b); replace HA := Lib.hid (HA.out.later b); replace HC := Lib.hid (HC.out.later b); replace HA' := Lib.hid (HA'.out.later b); replace HC' := Lib.hid (HC'.out.later b); replace RX := Lib.hid (RX.out.later b); replace RY := Lib.hid (RY.out.later b); clear R1; clear R2; rw [zval_dg, zval_dg] at h3 ⊢; have R3 := Lib.hid h3; have ln3 := h3.len; clear h3; unfold whV; clear b; clear pSn; have pSn := fcells_3_3 HX.out HY.out; clear pM2 pm2; have pM3 := True.intro)))
        | (go_at_call 64; (first
          | (have pm3 := pM3; refine (prod_mul b m cap' lb ay ny cy _ _ HC.out RY.out (by omega) (by omega)).mono ?_; rintro e wp4 ⟨b4, m4, d4, rfl, h4, b⟩; replace HB := Lib.hid (below_then HB.out b); replace HX := Lib.hid (blk_later HX.out b); replace HY := Lib.hid (blk_later HY.out b); replace HR := Lib.hid (blk_later HR.out b); replace HA := Lib.hid (HA.out.later b); replace HC := Lib.hid (HC.out.later b); replace HA' := Lib.hid (HA'.out.later b); replace HC' := Lib.hid (HC'.out.later b); replace RX := Lib.hid (RX.out.later b); replace RY := Lib.hid (RY.out.later b); replace R3 := Lib.hid (R3.out.later b); rw [HD.out] at h4; have R4 := Lib.hid h4; have ln4 := h4.len; clear h4; clear b; clear pSn; have pSn := fcells_3_3 HX.out HY.out; clear pM3 pm3; have pM4 := True.intro)))
        | (go_at_call 37; (first
          | (have pm4 := pM4; refine (frac_norm _ a3 n3 c3 _ b4 m4 d4 _ _ R3.out R4.out (by omega) (by omega)).mono ?_; rintro e wp5 ⟨a5, n5, c5, b5, m5, d5, rfl, h5, g5, b⟩; replace HB := Lib.hid (below_then HB.out b); replace HX := Lib.hid (blk_later HX.out b); replace HY := Lib.hid (blk_later HY.out b); replace HR := Lib.hid (blk_later HR.out b); replace HA := Lib.hid (HA.out.later b); replace HC := Lib.hid (HC.out.later b); replace HA' := Lib.hid (HA'.out.later b); replace HC' := Lib.hid (HC'.out.later b); replace RX := Lib.hid (RX.out.later b); replace RY := Lib.hid (RY.out.later b); clear R3; clear R4; rw [HZ2.out] at h5 g5 ⊢; have R5 := Lib.hid h5; have T5 := Lib.hid g5; clear h5 g5; obtain ⟨r0, r1, r2⟩ := fcells_3 HR.out; have f0 := blk_free HR.out 0; have f1 := blk_free HR.out 1; have f2 := blk_free HR.out 2; have pSb := fun u v q => fcells_3_3 (blk_far3 (g := w.heap.size + 1 + 1) HX.out (by omega) u v q) (blk_far3 (g := w.heap.size + 1 + 1) HY.out (by omega) u v q); unfold frV; clear b; clear pSn; have pSn := fcells_3_3 HX.out HY.out; clear pM4 pm4; have pM5 := True.intro))))
      have HG := Lib.hid (blk_set3 HR.out (.bool (zneg q.num)) (.slice a5 n5 c5) (.slice b5 m5 d5))
      have HL := Lib.hid (below_set3 HB.out (show w.heap.size ≤ w.heap.size + 1 + 1 by omega) (.bool (zneg q.num)) (.slice a5 n5 c5) (.slice b5 m5 d5))
      have HW1 := Lib.hid (R5.out.stored3 HR.out (zneg q.num) a5 n5 c5 (.slice b5 m5 d5))
      have HW2 := Lib.hid (T5.out.stored3 HR.out (zneg q.num) a5 n5 c5 (.slice b5 m5 d5))
      go_wp2
      refine bodyPost_ret (results_cell_row Try.results28 _ _ (w.heap.size + 1 + 1) 34 #[.bool (zneg q.num), .slice a5 n5 c5, .slice b5 m5 d5] (0, 0) _ rfl HG.out Try.underlying34 rfl (by kernel_rfl)) rfl ?_
      exact ⟨a5, n5, c5, b5, m5, d5, rfl, HW1.out, HW2.out, HL.out⟩
set_option maxRecDepth 4096 in
set_option maxHeartbeats 4000000 in
theorem frac_sub (na : Bool) (a : Option Addr) (n cap : Nat) (la : List Nat) (b : Option Addr) (m cap' : Nat) (lb : List Nat) (nb : Bool) (a' : Option Addr) (n' c' : Nat) (la' : List Nat) (b' : Option Addr) (m' d' : Nat) (lb' : List Nat) (w : World) (ha : Wd w a n cap la) (hb : Wd w b m cap' lb) (ha' : Wd w a' n' c' la') (hb' : Wd w b' m' d' lb') (hn : n ≤ 9000) (hm : m ≤ 9000) (hn' : n' ≤ 9000) (hm' : m' ≤ 9000) :
    Calls Try.prog 30 #[frV na a n cap b m cap', frV nb a' n' c' b' m' d'] w (LstQ (qval na (val la) (val lb) - qval nb (val la') (val lb')) w) := by
  have HB := Lib.hid (below_then (below_then (below_alloc w (.cells #[.bool na, .slice a n cap, .slice b m cap'] 34)) (below_alloc _ (.cells #[.bool nb, .slice a' n' c', .slice b' m' d'] 34))) (below_alloc _ (.cells #[.bool false, .slice none 0 0, .slice none 0 0] 34)))
  have HA := Lib.hid (ha.later HB.out)
  have HC := Lib.hid (hb.later HB.out)
  have HA' := Lib.hid (ha'.later HB.out)
  have HC' := Lib.hid (hb'.later HB.out)
  obtain ⟨hx1, hx2, hx3⟩ := boxes3_at9 w #[.bool na, .slice a n cap, .slice b m cap'] #[.bool nb, .slice a' n' c', .slice b' m' d'] #[.bool false, .slice none 0 0, .slice none 0 0] 34 34 34
  have HX := Lib.hid hx1
  have HY := Lib.hid hx2
  have HR := Lib.hid hx3
  have ta := ha.trim_le
  have tb := hb.trim_le
  have ta' := ha'.trim_le
  have tb' := hb'.trim_le
  clear ha hb ha' hb' hx1 hx2 hx3
  obtain ⟨q, hq⟩ : ∃ q, qval na (val la) (val lb) - qval nb (val la') (val lb') = q := ⟨_, rfl⟩
  rw [hq]
  have HQ := Lib.hid hq
  clear hq
  have HT : Hid (qval na (val la) (val lb) + qval (!nb) (val la') (val lb') = q) := Lib.hid (by rw [fc_qval_neg, ← Rat.sub_eq_add_neg, HQ.out])
  go_enter Try.func30, Try.ntmps30
  unfold frV
  go_wp2
  generalize (((w.alloc (.cells #[.bool na, .slice a n cap, .slice b m cap'] 34)).alloc (.cells #[.bool nb, .slice a' n' c', .slice b' m' d'] 34)).alloc (.cells #[.bool false, .slice none 0 0, .slice none 0 0] 34)) = W at *
  replace HB := Lib.hid (below_then HB.out ((Below.refl _ _).drew : Below W.heap.size W W.drew))
  replace HX : Hid (W.drew.heap[w.heap.size]? = _) := Lib.hid HX.out
  replace HY : Hid (W.drew.heap[w.heap.size + 1]? = _) := Lib.hid HY.out
  replace HR : Hid (W.drew.heap[w.heap.size + 1 + 1]? = some (.cells #[.bool false, .slice none 0 0, .slice none 0 0] 34 (0, 0))) := Lib.hid HR.out
  replace HA := Lib.hid (HA.out.later ((Below.refl _ _).drew : Below W.heap.size W W.drew))
  replace HC := Lib.hid (HC.out.later ((Below.refl _ _).drew : Below W.heap.size W W.drew))
  replace HA' := Lib.hid (HA'.out.later ((Below.refl _ _).drew : Below W.heap.size W W.drew))
  replace HC' := Lib.hid (HC'.out.later ((Below.refl _ _).drew : Below W.heap.size W W.drew))
  have pSn := fcells_3_3 HX.out HY.out
  go_region_held3 (fun w' => w'.cell? ⟨w.heap.size, 0, none⟩ = some (.bool na) ∧ w'.cell? ⟨w.heap.size, 1, none⟩ = some (.slice a n cap) ∧ w'.cell? ⟨w.heap.size, 2, none⟩ = some (.slice b m cap') ∧ w'.cell? ⟨w.heap.size + 1, 0, none⟩ = some (.bool nb) ∧ w'.cell? ⟨w.heap.size + 1, 1, none⟩ = some (.slice a' n' c') ∧ w'.cell? ⟨w.heap.size + 1, 2, none⟩ = some (.slice b' m' d')) (first | exact pSn | exact pSb _ _ _)
    (first
    | (go_at_call 61; (first
      | (refine (frac_turned nb a' n' c' b' m' d' _).mono ?_; rintro e wp1 ⟨rfl, b⟩; replace HB := Lib.hid (below_then HB.out b); replace HX := Lib.hid (blk_later HX.out b); replace HY := Lib.hid (blk_later HY.out b); replace HR := Lib.hid (blk_later HR.out b); replace HA := Lib.hid (HA.out.later b); replace HC := Lib.hid (HC.out.later b); replace HA' := Lib.hid (HA'.out.later b); replace HC' := Lib.hid (HC'.out.later b); unfold frV; clear b; clear pSn; have pSn := fcells_3_3 HX.out HY.out; have pM1 := True.intro)))
    | (go_at_call 28; (first
      | (have pm1 := pM1; refine (frac_add na a n cap la b m cap' lb (!nb) a' n' c' la' b' m' d' lb' _ HA.out HC.out HA'.out HC'.out hn hm hn' hm').mono ?_; rintro e wp2 ⟨a1, n1, c1, b1, m1, d1, rfl, h1, g1, b⟩; replace HB := Lib.hid (below_then HB.out b); replace HX := Lib.hid (blk_later HX.out b); replace HY := Lib.hid (blk_later HY.out b); replace HR := Lib.hid (blk_later HR.out b); replace HA := Lib.hid (HA.out.later b); replace HC := Lib.hid (HC.out.later b); replace HA' := Lib.hid (HA'.out.later b); replace HC' := Lib.hid (HC'.out.later b); rw [HT.out] at h1 g1 ⊢; have R1 := Lib.hid h1; have T1 := Lib.hid g1; clear h1 g1; obtain ⟨r0, r1, r2⟩ := fcells_3 HR.out; have f0 := blk_free HR.out 0; have f1 := blk_free HR.out 1; have f2 := blk_free HR.out 2; have pSb := fun u v q => fcells_3_3 (blk_far3 (g := w.heap.size + 1 + 1) HX.out (by omega) u v q) (blk_far3 (g := w.heap.size + 1 + 1) HY.out (by omega) u v q); unfold frV; clear b; clear pSn; have pSn := fcells_3_3 HX.out HY.out; clear pM1 pm1; have pM2 := True.intro))))
  have HG := Lib.hid (blk_set3 HR.out (.bool (zneg q.num)) (.slice a1 n1 c1) (.slice b1 m1 d1))
  have HL := Lib.hid (below_set3 HB.out (show w.heap.size ≤ w.heap.size + 1 + 1 by omega) (.bool (zneg q.num)) (.slice a1 n1 c1) (.slice b1 m1 d1))
  have HW1 := Lib.hid (R1.out.stored3 HR.out (zneg q.num) a1 n1 c1 (.slice b1 m1 d1))
  have HW2 := Lib.hid (T1.out.stored3 HR.out (zneg q.num) a1 n1 c1 (.slice b1 m1 d1))
  go_wp2
  refine bodyPost_ret (results_cell_row Try.results30 _ _ (w.heap.size + 1 + 1) 34 #[.bool (zneg q.num), .slice a1 n1 c1, .slice b1 m1 d1] (0, 0) _ rfl HG.out Try.underlying34 rfl (by kernel_rfl)) rfl ?_
  exact ⟨a1, n1, c1, b1, m1, d1, rfl, HW1.out, HW2.out, HL.out⟩
end Go.Proofs.Ytpjgmkkdbmegjaa

/-
  Package frac at this seat: slices.Equal of words, Right.
-/
namespace Go.Proofs.Ytpjgmkkdbmegjaa
open Go.RowKit

set_option maxRecDepth 4096 in
set_option maxHeartbeats 4000000 in
theorem slices_equal (a : Option Addr) (n cap : Nat) (la : List Nat) (b : Option Addr) (m cap' : Nat) (lb : List Nat) (w : World) (ha : Wd w a n cap la) (hb : Wd w b m cap' lb) :
    Calls Try.prog 68 #[.slice a n cap, .slice b m cap'] w (Gives (.bool (decide (la = lb))) w) := by
  obtain ⟨hb1, hb2⟩ := ha.bound
  obtain ⟨hb3, hb4⟩ := hb.bound
  have Ha := Lib.hid ha
  have Hb := Lib.hid hb
  clear ha hb
  by_cases hne : n = m
  · subst hne
    go_enter Try.func68, Try.ntmps68
    go_wp2
    go_loopw [13] (fun i wr => ∃ k q : Nat, k ≤ n ∧ i = .int .i64 k ∧ wr = w.drewN q ∧ Hid (∀ j, j < k → atw la j = atw lb j)) (fun i _ => n - (intOf i).toNat)
    case atStart => exact ⟨0, 0, by omega, rfl, rfl, Lib.hid (fun j hj => by omega)⟩
    case round =>
      obtain ⟨k, q, hk, rfl, rfl, Heq⟩ := hrel
      by_cases hlt : k < n
      · obtain ⟨ba, oa, rfl, hca⟩ := Ha.out.at (by omega)
        obtain ⟨bb, ob, rfl, hcb⟩ := Hb.out.at (by omega)
        have hcak := hca k hlt
        have hcbk := hcb k hlt
        clear hca hcb
        have hk1 : (0 : Int) ≤ (k : Int) := by omega
        have hk2 : (k : Int) < (n : Int) := by omega
        by_cases hx : atw la k = atw lb k
        · have hxb : (((atw la k : Nat) : Int) != ((atw lb k : Nat) : Int)) = false := by simp [hx]
          have Hx := Lib.hid hx
          clear hx
          go_wp2
          go_quiet (fail)
          go_wp2
          go_roundw
          case rel =>
            exact ⟨k + 1, _, by omega, by go_num, rfl, Lib.hid (fun j hj => by
              by_cases hjk : j < k
              · exact Heq.out j hjk
              · obtain rfl : j = k := by omega
                exact Hx.out)⟩
          case measure => simp [intOf]; omega
        · have hxb : (((atw la k : Nat) : Int) != ((atw lb k : Nat) : Int)) = true := by simp; omega
          have Hx := Lib.hid hx
          clear hx
          go_wp2
          go_quiet (fail)
          go_wp2
          go_ret
          exact ⟨ret_bool (decide_eq_false (list_ne_of_at Hx.out)).symm, by rw [World.drewN_drewN]; exact below_draws _ _⟩
      · obtain rfl : k = n := by omega
        have Hfin : Hid (la = lb) := Lib.hid (list_eq_of_at (Ha.out.len.trans Hb.out.len.symm) (fun j hj => Heq.out j (by rw [Ha.out.len] at hj; exact hj)))
        go_wp2
        go_ret
        exact ⟨ret_bool (decide_eq_true Hfin.out).symm, below_draws _ _⟩
  · have hq : ((n : Int) == (m : Int)) = false := by simp; omega
    have Hfin : Hid (la ≠ lb) := Lib.hid (fun e => hne (by rw [← Ha.out.len, ← Hb.out.len, e]))
    clear hne
    go_enter Try.func68, Try.ntmps68
    go_wp2
    go_ret
    exact ⟨ret_bool (decide_eq_false Hfin.out).symm, Below.refl _ _⟩
set_option maxRecDepth 4096 in
set_option maxHeartbeats 4000000 in
theorem frac_right (neg : Bool) (a : Option Addr) (n cap : Nat) (la : List Nat) (b : Option Addr) (m cap' : Nat) (lb : List Nat) (w : World) (ha : Wd w a n cap la) (hb : Wd w b m cap' lb) (hn : n ≤ 40000) (hm : m ≤ 40000) :
    Calls Try.prog 40 #[frV neg a n cap b m cap'] w (Gives (.bool (decide (neg = zneg (qval neg (val la) (val lb)).num ∧ la = dg (qval neg (val la) (val lb)).num.natAbs ∧ lb = dg (qval neg (val la) (val lb)).den))) w) := by
  have HB := Lib.hid (below_alloc w (.cells #[.bool neg, .slice a n cap, .slice b m cap'] 34))
  have HA := Lib.hid (ha.later HB.out)
  have HC := Lib.hid (hb.later HB.out)
  have HX := Lib.hid (blk_new w #[.bool neg, .slice a n cap, .slice b m cap'] 34)
  clear ha hb
  obtain ⟨r, hr⟩ : ∃ r, decide (neg = zneg (qval neg (val la) (val lb)).num ∧ la = dg (qval neg (val la) (val lb)).num.natAbs ∧ lb = dg (qval neg (val la) (val lb)).den) = r := ⟨_, rfl⟩
  rw [hr]
  have HRR := Lib.hid hr
  clear hr
  obtain ⟨q, hq⟩ : ∃ q, qval neg (val la) (val lb) = q := ⟨_, rfl⟩
  rw [hq] at HRR
  have HQ := Lib.hid hq
  clear hq
  go_enter Try.func40, Try.ntmps40
  unfold frV
  obtain ⟨vk0, vk1, vk2⟩ := fcells_3 HX.out
  go_wp2_with fail
  refine (frac_norm neg a n cap la b m cap' lb _ HA.out HC.out hn hm).mono ?_
  rintro e wv1 ⟨a1, n1, c1, b1, m1, d1, rfl, h1, g1, b⟩
  clear vk0 vk1 vk2
  replace HB := Lib.hid (below_then HB.out b)
  replace HX := Lib.hid (blk_later HX.out b)
  replace HA := Lib.hid (HA.out.later b)
  replace HC := Lib.hid (HC.out.later b)
  clear b
  rw [HQ.out] at h1 g1 ⊢
  obtain ⟨s, hs⟩ : ∃ s, zneg q.num = s := ⟨_, rfl⟩
  rw [hs]
  rw [hs] at HRR
  have HS := Lib.hid hs
  clear hs
  have R1 := Lib.hid h1
  have T1 := Lib.hid g1
  clear h1 g1
  unfold frV
  have HP : Hid ((World.alloc wv1 (.cells #[.bool s, .slice a1 n1 c1, .slice b1 m1 d1] 34)).heap[wv1.heap.size]? = some (.cells #[.bool s, .slice a1 n1 c1, .slice b1 m1 d1] 34 (0, 0))) := Lib.hid (blk_new wv1 _ _)
  replace HB := Lib.hid (below_then HB.out (below_alloc wv1 (.cells #[.bool s, .slice a1 n1 c1, .slice b1 m1 d1] 34)))
  replace HX := Lib.hid (blk_later HX.out (below_alloc wv1 (.cells #[.bool s, .slice a1 n1 c1, .slice b1 m1 d1] 34)))
  replace HA := Lib.hid (HA.out.later (below_alloc wv1 (.cells #[.bool s, .slice a1 n1 c1, .slice b1 m1 d1] 34)))
  replace HC := Lib.hid (HC.out.later (below_alloc wv1 (.cells #[.bool s, .slice a1 n1 c1, .slice b1 m1 d1] 34)))
  replace R1 := Lib.hid (R1.out.later (below_alloc wv1 (.cells #[.bool s, .slice a1 n1 c1, .slice b1 m1 d1] 34)))
  replace T1 := Lib.hid (T1.out.later (below_alloc wv1 (.cells #[.bool s, .slice a1 n1 c1, .slice b1 m1 d1] 34)))
  by_cases hs : neg = s
  · subst hs
    have hq : (neg == neg) = true := by simp
    obtain ⟨uk0, uk1, uk2, uk3, uk4, uk5⟩ := fcells_3_3 HX.out HP.out
    go_wp2_with fail
    refine (slices_equal a n cap la a1 n1 c1 _ _ HA.out R1.out).mono ?_
    rintro e wu1 ⟨rfl, b⟩
    clear uk0 uk1 uk2 uk3 uk4 uk5
    replace HB := Lib.hid (below_then HB.out b)
    replace HX := Lib.hid (blk_later HX.out b)
    replace HP := Lib.hid (blk_later HP.out b)
    replace HA := Lib.hid (HA.out.later b)
    replace HC := Lib.hid (HC.out.later b)
    replace R1 := Lib.hid (R1.out.later b)
    replace T1 := Lib.hid (T1.out.later b)
    clear b
    by_cases h2 : la = dg q.num.natAbs
    · rw [decide_eq_true h2]
      have H2 := Lib.hid h2
      clear h2
      obtain ⟨tk0, tk1, tk2, tk3, tk4, tk5⟩ := fcells_3_3 HX.out HP.out
      go_wp2_with fail
      refine (slices_equal b m cap' lb b1 m1 d1 _ _ HC.out T1.out).mono ?_
      rintro e wt1 ⟨rfl, b⟩
      clear tk0 tk1 tk2 tk3 tk4 tk5
      replace HB := Lib.hid (below_then HB.out b)
      replace HX := Lib.hid (blk_later HX.out b)
      replace HP := Lib.hid (blk_later HP.out b)
      replace HA := Lib.hid (HA.out.later b)
      replace HC := Lib.hid (HC.out.later b)
      replace R1 := Lib.hid (R1.out.later b)
      replace T1 := Lib.hid (T1.out.later b)
      clear b
      have HF : Hid (decide (lb = dg q.den) = r) := Lib.hid (by rw [← HRR.out]; exact decide_eq_decide.2 ⟨fun h => ⟨by simp, H2.out, h⟩, fun h => h.2.2⟩)
      rw [HF.out]
      clear HA HC R1 T1 H2 HRR
      go_wp2
      go_ret
      exact ⟨rfl, HB.out⟩
    · have HF : Hid (r = false) := Lib.hid (by rw [← HRR.out]; exact decide_eq_false (fun h => h2 h.2.1))
      rw [decide_eq_false h2]
      clear h2 HA HC R1 T1
      go_wp2
      go_ret
      exact ⟨by rw [HF.out]; rfl, HB.out⟩
  · have hq : (neg == s) = false := by simp [hs]
    have HF : Hid (r = false) := Lib.hid (by rw [← HRR.out]; exact decide_eq_false (fun h => hs h.1))
    clear hs HA HC R1 T1
    obtain ⟨vk0, vk1, vk2, vk3, vk4, vk5⟩ := fcells_3_3 HX.out HP.out
    go_wp2
    go_ret
    exact ⟨by rw [HF.out]; rfl, HB.out⟩
end Go.Proofs.Ytpjgmkkdbmegjaa
