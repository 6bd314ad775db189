/-
  Several texts of this claim as one, group 15.
-/
import Derived.Test.YteoeicfbaffjcaaGreatDoorG14
import Derived.Test.YteoeicfbaffjcaaGreatDoorG6
import Derived.Deep.RegionHeld3
import Derived.BigQuiet
/-
  Package frac at this seat: Sign, Size, product.
-/
namespace Go.Proofs.YteoeicfbaffjcaaGreatDoor
open Go.RowKit

/-- A fraction as it was reckoned, not made right. -/
def LstR (z : Int) (v : Nat) (w : World) (e : Ending) (w' : World) : Prop :=
  ∃ (a : Option Addr) (n cap : Nat) (b : Option Addr) (m cap' : Nat), e = .returned (frV (zneg z) a n cap b m cap') ∧ Wd w' a n cap (dg z.natAbs) ∧ Wd w' b m cap' (dg v) ∧ Below w.heap.size w w'
theorem twos_len_at (a : Option Addr) (n cap : Nat) (l : List Nat) (x : Nat) (w : World) (h : Wd w a n cap l) (hn : n ≤ 16777214) (hx : blen (val l) = x) : Calls Tryz.prog 131 #[.slice a n cap] w (Gives (.int .i64 (x : Int)) w) :=
  (twos_len a n cap l w h hn).mono fun _ _ ⟨he, hw⟩ => ⟨by rw [he, hx], by subst hw; exact Below.refl _ _⟩
set_option maxRecDepth 4096 in
set_option maxHeartbeats 4000000 in
theorem frac_sign (neg : Bool) (a : Option Addr) (n cap : Nat) (la : List Nat) (b : Option Addr) (m cap' : Nat) (lb : List Nat) (w : World) (ha : Wd w a n cap la) (hb : Wd w b m cap' lb) (hn : n ≤ 100000) (hm : m ≤ 100000) :
    Calls Tryz.prog 21 #[frV neg a n cap b m cap'] w (Gives (.int .i64 (sgn (qval neg (val la) (val lb)).num)) w) := by
  have HB := Lib.hid (below_alloc w (.cells #[.bool neg, .slice a n cap, .slice b m cap'] 30))
  have HA := Lib.hid (ha.later HB.out)
  have HC := Lib.hid (hb.later HB.out)
  have HX := Lib.hid (blk_new w #[.bool neg, .slice a n cap, .slice b m cap'] 30)
  clear ha hb
  have HZ0 : Hid (val lb = 0 → sgn (qval neg (val la) (val lb)).num = 0) := Lib.hid (fun h => by rw [qval_none neg (.inl h)]; rfl)
  have HZ1 : Hid (val lb ≠ 0 → sgn (qval neg (val la) (val lb)).num = sgn (zval neg (val la))) := Lib.hid (fun h => fc_qsign h)
  generalize (qval neg (val la) (val lb)).num = y at *
  go_enter Tryz.func21, Tryz.ntmps21
  unfold frV
  obtain ⟨vk0, vk1, vk2⟩ := fcells_3 HX.out
  go_wp2_with fail
  refine (natSaid.zero b m cap' lb _ HC.out (by omega)).mono ?_
  rintro e wv1 ⟨rfl, b⟩
  clear vk0 vk1 vk2
  replace HB := Lib.hid (below_then HB.out b)
  replace HX := Lib.hid (blk_later HX.out b)
  replace HA := Lib.hid (HA.out.later b)
  replace HC := Lib.hid (HC.out.later b)
  clear b
  by_cases h0 : val lb = 0
  · have HS := Lib.hid (HZ0.out h0)
    rw [decide_eq_true h0]
    clear h0 HZ0 HZ1
    go_wp2
    go_ret
    exact ⟨by rw [HS.out]; rfl, HB.out⟩
  · have HS := Lib.hid (HZ1.out h0)
    rw [decide_eq_false h0]
    clear h0 HZ0 HZ1
    obtain ⟨k0, k1, k2⟩ := fcells_3 HX.out
    go_wp2_with fail
    refine (whole_sign neg a n cap la _ HA.out hn).mono ?_
    rintro e w2 ⟨rfl, b⟩
    go_wp2
    go_ret
    exact ⟨by rw [HS.out]; rfl, below_then HB.out b⟩
set_option maxRecDepth 4096 in
set_option maxHeartbeats 4000000 in
theorem frac_product (na : Bool) (a : Option Addr) (n cap : Nat) (la : List Nat) (b : Option Addr) (m cap' : Nat) (lb : List Nat) (nb : Bool) (a' : Option Addr) (n' c' : Nat) (la' : List Nat) (b' : Option Addr) (m' d' : Nat) (lb' : List Nat) (w : World) (ha : Wd w a n cap la) (hb : Wd w b m cap' lb) (ha' : Wd w a' n' c' la') (hb' : Wd w b' m' d' lb') (hn : n ≤ 100000) (hm : m ≤ 100000) (hn' : n' ≤ 100000) (hm' : m' ≤ 100000) :
    Calls Tryz.prog 66 #[frV na a n cap b m cap', frV nb a' n' c' b' m' d'] w (LstR (zval na (val la) * zval nb (val la')) (val lb * val lb') w) := by
  have HB := Lib.hid (below_then (below_then (below_alloc w (.cells #[.bool na, .slice a n cap, .slice b m cap'] 30)) (below_alloc _ (.cells #[.bool nb, .slice a' n' c', .slice b' m' d'] 30))) (below_alloc _ (.cells #[.bool false, .slice none 0 0, .slice none 0 0] 30)))
  have HA := Lib.hid (ha.later HB.out)
  have HC := Lib.hid (hb.later HB.out)
  have HA' := Lib.hid (ha'.later HB.out)
  have HC' := Lib.hid (hb'.later HB.out)
  obtain ⟨hx1, hx2, hx3⟩ := boxes3_at9 w #[.bool na, .slice a n cap, .slice b m cap'] #[.bool nb, .slice a' n' c', .slice b' m' d'] #[.bool false, .slice none 0 0, .slice none 0 0] 30 30 30
  have HX := Lib.hid hx1
  have HY := Lib.hid hx2
  have HR := Lib.hid hx3
  have ta := ha.trim_le
  have tb := hb.trim_le
  have ta' := ha'.trim_le
  have tb' := hb'.trim_le
  clear ha hb ha' hb' hx1 hx2 hx3
  obtain ⟨z, hz⟩ : ∃ z, zval na (val la) * zval nb (val la') = z := ⟨_, rfl⟩
  rw [hz]
  have HZ := Lib.hid hz
  clear hz
  go_enter Tryz.func66, Tryz.ntmps66
  unfold frV
  go_wp2
  generalize (((w.alloc (.cells #[.bool na, .slice a n cap, .slice b m cap'] 30)).alloc (.cells #[.bool nb, .slice a' n' c', .slice b' m' d'] 30)).alloc (.cells #[.bool false, .slice none 0 0, .slice none 0 0] 30)) = W at *
  replace HB := Lib.hid (below_then HB.out ((Below.refl _ _).drew : Below W.heap.size W W.drew))
  replace HX : Hid (W.drew.heap[w.heap.size]? = _) := Lib.hid HX.out
  replace HY : Hid (W.drew.heap[w.heap.size + 1]? = _) := Lib.hid HY.out
  replace HR : Hid (W.drew.heap[w.heap.size + 1 + 1]? = some (.cells #[.bool false, .slice none 0 0, .slice none 0 0] 30 (0, 0))) := Lib.hid HR.out
  replace HA := Lib.hid (HA.out.later ((Below.refl _ _).drew : Below W.heap.size W W.drew))
  replace HC := Lib.hid (HC.out.later ((Below.refl _ _).drew : Below W.heap.size W W.drew))
  replace HA' := Lib.hid (HA'.out.later ((Below.refl _ _).drew : Below W.heap.size W W.drew))
  replace HC' := Lib.hid (HC'.out.later ((Below.refl _ _).drew : Below W.heap.size W W.drew))
  have pSn := fcells_3_3 HX.out HY.out
  go_region_held3 (fun w' => w'.cell? ⟨w.heap.size, 0, none⟩ = some (.bool na) ∧ w'.cell? ⟨w.heap.size, 1, none⟩ = some (.slice a n cap) ∧ w'.cell? ⟨w.heap.size, 2, none⟩ = some (.slice b m cap') ∧ w'.cell? ⟨w.heap.size + 1, 0, none⟩ = some (.bool nb) ∧ w'.cell? ⟨w.heap.size + 1, 1, none⟩ = some (.slice a' n' c') ∧ w'.cell? ⟨w.heap.size + 1, 2, none⟩ = some (.slice b' m' d')) (first | exact pSn | exact pSb _ _ _)
    (first
    | (go_at_call 108; (first
      | (refine (whole_mul na a n cap la nb a' n' c' la' _ HA.out HA'.out (by omega) (by omega)).mono ?_; rintro e wp1 ⟨a1, n1, c1, rfl, h1, b⟩; replace HB := Lib.hid (below_then HB.out b); replace HX := Lib.hid (blk_later HX.out b); replace HY := Lib.hid (blk_later HY.out b); replace HR := Lib.hid (blk_later HR.out b); replace HA := Lib.hid (HA.out.later b); replace HC := Lib.hid (HC.out.later b); replace HA' := Lib.hid (HA'.out.later b); replace HC' := Lib.hid (HC'.out.later b); rw [HZ.out] at h1 ⊢; have R1 := Lib.hid h1; clear h1; unfold whV; clear b; clear pSn; have pSn := fcells_3_3 HX.out HY.out; have pM1 := True.intro)))
    | (go_at_call 53; (first
      | (have pm1 := pM1; refine (prod_mul b m cap' lb b' m' d' lb' _ HC.out HC'.out (by omega) (by omega)).mono ?_; rintro e wp2 ⟨b1, m1, d1, rfl, g1, b⟩; replace HB := Lib.hid (below_then HB.out b); replace HX := Lib.hid (blk_later HX.out b); replace HY := Lib.hid (blk_later HY.out b); replace HR := Lib.hid (blk_later HR.out b); replace HA := Lib.hid (HA.out.later b); replace HC := Lib.hid (HC.out.later b); replace HA' := Lib.hid (HA'.out.later b); replace HC' := Lib.hid (HC'.out.later b); replace R1 := Lib.hid (R1.out.later b); have T1 := Lib.hid g1; clear g1; obtain ⟨r0, r1, r2⟩ := fcells_3 HR.out; have f0 := blk_free HR.out 0; have f1 := blk_free HR.out 1; have f2 := blk_free HR.out 2; have pSb := fun u v q => fcells_3_3 (blk_far3 (g := w.heap.size + 1 + 1) HX.out (by omega) u v q) (blk_far3 (g := w.heap.size + 1 + 1) HY.out (by omega) u v q); clear b; clear pSn; have pSn := fcells_3_3 HX.out HY.out; clear pM1 pm1; have pM2 := True.intro))))
  have HG := Lib.hid (blk_set3 HR.out (.bool (zneg z)) (.slice a1 n1 c1) (.slice b1 m1 d1))
  have HL := Lib.hid (below_set3 HB.out (show w.heap.size ≤ w.heap.size + 1 + 1 by omega) (.bool (zneg z)) (.slice a1 n1 c1) (.slice b1 m1 d1))
  have HW1 := Lib.hid (R1.out.stored3 HR.out (zneg z) a1 n1 c1 (.slice b1 m1 d1))
  have HW2 := Lib.hid (T1.out.stored3 HR.out (zneg z) a1 n1 c1 (.slice b1 m1 d1))
  go_wp2
  refine bodyPost_ret (results_cell_row Tryz.results66 _ _ (w.heap.size + 1 + 1) 30 #[.bool (zneg z), .slice a1 n1 c1, .slice b1 m1 d1] (0, 0) _ rfl HG.out Tryz.underlying30 rfl (by kernel_rfl)) rfl ?_
  exact ⟨a1, n1, c1, b1, m1, d1, rfl, HW1.out, HW2.out, HL.out⟩
end Go.Proofs.YteoeicfbaffjcaaGreatDoor

/-
  Package frac at this seat: New, Norm, Neg, Abs.
-/
namespace Go.Proofs.YteoeicfbaffjcaaGreatDoor
open Go.RowKit

set_option maxRecDepth 4096 in
set_option maxHeartbeats 4000000 in
theorem frac_new (neg : Bool) (a : Option Addr) (n cap : Nat) (la : List Nat) (b : Option Addr) (m cap' : Nat) (lb : List Nat) (w : World) (ha : Wd w a n cap la) (hb : Wd w b m cap' lb) (hn : n ≤ 40000) (hm : m ≤ 40000) :
    Calls Tryz.prog 54 #[whV neg a n cap, .slice b m cap'] w (LstQV (qval neg (val la) (val lb)) (.bool (decide (val lb ≠ 0))) w) := by
  have HB := Lib.hid (below_then (below_alloc w (.cells #[.bool neg, .slice a n cap] 28)) (below_alloc _ (.cells #[.bool false, .slice none 0 0, .slice none 0 0] 30)))
  have HA := Lib.hid (ha.later HB.out)
  have HC := Lib.hid (hb.later HB.out)
  obtain ⟨hx1, hx2⟩ := boxes_at w ((w.alloc (.cells #[.bool neg, .slice a n cap] 28)).alloc (.cells #[.bool false, .slice none 0 0, .slice none 0 0] 30)) #[.bool neg, .slice a n cap] #[.bool false, .slice none 0 0, .slice none 0 0] 28 30 (Below.refl _ _)
  have HX := Lib.hid hx1
  have HR := Lib.hid hx2
  have ta := ha.trim_le
  clear hx1 hx2 ha hb
  obtain ⟨q, hq⟩ : ∃ q, qval neg (val la) (val lb) = q := ⟨_, rfl⟩
  rw [hq]
  have HQ := Lib.hid hq
  clear hq
  go_enter Tryz.func54, Tryz.ntmps54
  unfold whV
  obtain ⟨vk0, vk1, vk2, vk3, vk4⟩ := fcells_2_3 HX.out HR.out
  go_wp2_with fail
  refine (natSaid.zero b m cap' lb _ HC.out (by omega)).mono ?_
  rintro e wv1 ⟨rfl, b⟩
  clear vk0 vk1 vk2 vk3 vk4
  replace HB := Lib.hid (below_then HB.out b)
  replace HX := Lib.hid (blk_later HX.out b)
  replace HR := Lib.hid (blk_later HR.out b)
  replace HA := Lib.hid (HA.out.later b)
  replace HC := Lib.hid (HC.out.later b)
  clear b
  by_cases h0 : val lb = 0
  · have HD : Hid (decide (val lb ≠ 0) = false) := Lib.hid (by rw [decide_eq_false]; exact fun h => h h0)
    have HQ0 : Hid (((0 : Int) : Rat) = q) := Lib.hid (by rw [← HQ.out, qval_none neg (.inl h0)]; rfl)
    rw [decide_eq_true h0]
    clear h0 HQ
    clear HA HC
    obtain ⟨uk0, uk1, uk2, uk3, uk4⟩ := fcells_2_3 HX.out HR.out
    go_wp2_with fail
    refine (frac_of 0 _ isInt_nought).mono ?_
    rintro e wu1 ⟨a1, n1, c1, b1, m1, d1, rfl, h1, g1, b⟩
    clear uk0 uk1 uk2 uk3 uk4
    replace HB := Lib.hid (below_then HB.out b)
    replace HX := Lib.hid (blk_later HX.out b)
    replace HR := Lib.hid (blk_later HR.out b)
    clear b
    rw [HQ0.out] at h1 g1 ⊢
    have R1 := Lib.hid h1
    have T1 := Lib.hid g1
    clear h1 g1
    unfold frV
    have q0 := blk_cell HR.out 0
    have q1 := blk_cell HR.out 1
    have q2 := blk_cell HR.out 2
    simp only [List.getElem?_toArray, List.getElem?_cons_zero, List.getElem?_cons_succ] at q0 q1 q2
    have f0 := blk_free HR.out 0
    have f1 := blk_free HR.out 1
    have f2 := blk_free HR.out 2
    replace HX := Lib.hid (blk_far3 HX.out (show w.heap.size ≠ w.heap.size + 1 by omega) (.bool (zneg q.num)) (.slice a1 n1 c1) (.slice b1 m1 d1))
    replace R1 := Lib.hid (R1.out.stored3 HR.out ((zneg q.num)) a1 n1 c1 (.slice b1 m1 d1))
    replace T1 := Lib.hid (T1.out.stored3 HR.out ((zneg q.num)) a1 n1 c1 (.slice b1 m1 d1))
    replace HB := Lib.hid (below_set3 HB.out (show w.heap.size ≤ w.heap.size + 1 by omega) (.bool (zneg q.num)) (.slice a1 n1 c1) (.slice b1 m1 d1))
    replace HR := Lib.hid (blk_set3 HR.out (.bool (zneg q.num)) (.slice a1 n1 c1) (.slice b1 m1 d1))
    go_wp2
    refine bodyPost_ret (results_row_tmp Tryz.results54 _ _ (w.heap.size + 1) 30 #[.bool (zneg q.num), .slice a1 n1 c1, .slice b1 m1 d1] (0, 0) _ rfl HR.out Tryz.underlying30 rfl (by kernel_rfl)) rfl ?_
    exact ⟨a1, n1, c1, b1, m1, d1, by rw [HD.out]; rfl, R1.out, T1.out, HB.out⟩
  · have HD : Hid (decide (val lb ≠ 0) = true) := Lib.hid (decide_eq_true h0)
    have HZ : Hid (zval neg (val (dg (val la / Nat.gcd (val la) (val lb)))) = q.num) := Lib.hid (by rw [val_dg, ← HQ.out]; exact (qval_parts neg h0).1.symm)
    have HE : Hid (val lb / Nat.gcd (val la) (val lb) = q.den) := Lib.hid (by rw [← HQ.out]; exact (qval_parts neg h0).2.symm)
    have ql : (dg (val la / Nat.gcd (val la) (val lb))).length ≤ n := Nat.le_trans (dg_length_mono (Nat.div_le_self _ _)) ta
    rw [decide_eq_false h0]
    clear h0 HQ
    obtain ⟨uk0, uk1, uk2, uk3, uk4⟩ := fcells_2_3 HX.out HR.out
    go_wp2_with fail
    refine (common_cancel a n cap la b m cap' lb _ HA.out HC.out hn hm).mono ?_
    rintro e wu1 ⟨a1, n1, c1, b2, m2, d2, rfl, h1, g2, b⟩
    clear uk0 uk1 uk2 uk3 uk4
    replace HB := Lib.hid (below_then HB.out b)
    replace HX := Lib.hid (blk_later HX.out b)
    replace HR := Lib.hid (blk_later HR.out b)
    clear HA
    clear HC
    clear b
    rw [HE.out] at g2
    have ln1 := h1.len
    have R1 := Lib.hid h1
    have T2 := Lib.hid g2
    clear h1 g2
    obtain ⟨uk0, uk1, uk2, uk3, uk4⟩ := fcells_2_3 HX.out HR.out
    go_wp2_with fail
    refine (whole_norm neg a1 n1 c1 _ _ R1.out (by omega)).mono ?_
    rintro e wu2 ⟨a2, n2, c2, rfl, h2, b⟩
    clear uk0 uk1 uk2 uk3 uk4
    replace HB := Lib.hid (below_then HB.out b)
    replace HX := Lib.hid (blk_later HX.out b)
    replace HR := Lib.hid (blk_later HR.out b)
    clear R1
    replace T2 := Lib.hid (T2.out.later b)
    clear b
    rw [HZ.out] at h2 ⊢
    have R2 := Lib.hid h2
    clear h2
    unfold whV
    have q0 := blk_cell HR.out 0
    have q1 := blk_cell HR.out 1
    have q2 := blk_cell HR.out 2
    simp only [List.getElem?_toArray, List.getElem?_cons_zero, List.getElem?_cons_succ] at q0 q1 q2
    have f0 := blk_free HR.out 0
    have f1 := blk_free HR.out 1
    have f2 := blk_free HR.out 2
    replace HX := Lib.hid (blk_far3 HX.out (show w.heap.size ≠ w.heap.size + 1 by omega) (.bool (zneg q.num)) (.slice a2 n2 c2) (.slice b2 m2 d2))
    replace T2 := Lib.hid (T2.out.stored3 HR.out ((zneg q.num)) a2 n2 c2 (.slice b2 m2 d2))
    replace R2 := Lib.hid (R2.out.stored3 HR.out ((zneg q.num)) a2 n2 c2 (.slice b2 m2 d2))
    replace HB := Lib.hid (below_set3 HB.out (show w.heap.size ≤ w.heap.size + 1 by omega) (.bool (zneg q.num)) (.slice a2 n2 c2) (.slice b2 m2 d2))
    replace HR := Lib.hid (blk_set3 HR.out (.bool (zneg q.num)) (.slice a2 n2 c2) (.slice b2 m2 d2))
    go_wp2
    refine bodyPost_ret (results_row_tmp Tryz.results54 _ _ (w.heap.size + 1) 30 #[.bool (zneg q.num), .slice a2 n2 c2, .slice b2 m2 d2] (0, 0) _ rfl HR.out Tryz.underlying30 rfl (by kernel_rfl)) rfl ?_
    exact ⟨a2, n2, c2, b2, m2, d2, by rw [HD.out]; rfl, R2.out, T2.out, HB.out⟩
set_option maxRecDepth 4096 in
set_option maxHeartbeats 4000000 in
theorem frac_norm (neg : Bool) (a : Option Addr) (n cap : Nat) (la : List Nat) (b : Option Addr) (m cap' : Nat) (lb : List Nat) (w : World) (ha : Wd w a n cap la) (hb : Wd w b m cap' lb) (hn : n ≤ 40000) (hm : m ≤ 40000) :
    Calls Tryz.prog 18 #[frV neg a n cap b m cap'] w (LstQ (qval neg (val la) (val lb)) w) := by
  have HB := Lib.hid (below_then (below_alloc w (.cells #[.bool neg, .slice a n cap, .slice b m cap'] 30)) (below_alloc _ (.cells #[.bool false, .slice none 0 0, .slice none 0 0] 30)))
  have HA := Lib.hid (ha.later HB.out)
  have HC := Lib.hid (hb.later HB.out)
  obtain ⟨hx1, hx2⟩ := boxes_at w ((w.alloc (.cells #[.bool neg, .slice a n cap, .slice b m cap'] 30)).alloc (.cells #[.bool false, .slice none 0 0, .slice none 0 0] 30)) #[.bool neg, .slice a n cap, .slice b m cap'] #[.bool false, .slice none 0 0, .slice none 0 0] 30 30 (Below.refl _ _)
  have HX := Lib.hid hx1
  have HR := Lib.hid hx2
  clear hx1 hx2 ha hb
  obtain ⟨q, hq⟩ : ∃ q, qval neg (val la) (val lb) = q := ⟨_, rfl⟩
  rw [hq]
  have HQ := Lib.hid hq
  clear hq
  go_enter Tryz.func18, Tryz.ntmps18
  unfold frV
  obtain ⟨vk0, vk1, vk2, vk3, vk4, vk5⟩ := fcells_3_3 HX.out HR.out
  go_wp2_with fail
  refine (frac_new neg a n cap la b m cap' lb _ HA.out HC.out hn hm).mono ?_
  rintro e wv1 ⟨a1, n1, c1, b1, m1, d1, rfl, h1, g1, b⟩
  clear vk0 vk1 vk2 vk3 vk4 vk5
  replace HB := Lib.hid (below_then HB.out b)
  replace HX := Lib.hid (blk_later HX.out b)
  replace HR := Lib.hid (blk_later HR.out b)
  clear HA
  clear HC
  clear b
  rw [HQ.out] at h1 g1 ⊢
  have R1 := Lib.hid h1
  have T1 := Lib.hid g1
  clear h1 g1
  generalize decide (val lb ≠ 0) = s at *
  unfold frV
  have HP : Hid ((World.alloc wv1 (.cells #[.bool (zneg q.num), .slice a1 n1 c1, .slice b1 m1 d1] 30)).heap[wv1.heap.size]? = some (.cells #[.bool (zneg q.num), .slice a1 n1 c1, .slice b1 m1 d1] 30 (0, 0))) := Lib.hid (blk_new wv1 _ _)
  replace HB := Lib.hid (below_then HB.out (below_alloc wv1 (.cells #[.bool (zneg q.num), .slice a1 n1 c1, .slice b1 m1 d1] 30)))
  replace HX := Lib.hid (blk_later HX.out (below_alloc wv1 (.cells #[.bool (zneg q.num), .slice a1 n1 c1, .slice b1 m1 d1] 30)))
  replace HR := Lib.hid (blk_later HR.out (below_alloc wv1 (.cells #[.bool (zneg q.num), .slice a1 n1 c1, .slice b1 m1 d1] 30)))
  replace R1 := Lib.hid (R1.out.later (below_alloc wv1 (.cells #[.bool (zneg q.num), .slice a1 n1 c1, .slice b1 m1 d1] 30)))
  replace T1 := Lib.hid (T1.out.later (below_alloc wv1 (.cells #[.bool (zneg q.num), .slice a1 n1 c1, .slice b1 m1 d1] 30)))
  obtain ⟨vk0, vk1, vk2, vk3, vk4, vk5, vk6, vk7, vk8⟩ := fcells_3_3_3 HX.out HR.out HP.out
  have q0 := blk_cell HR.out 0
  have q1 := blk_cell HR.out 1
  have q2 := blk_cell HR.out 2
  simp only [List.getElem?_toArray, List.getElem?_cons_zero, List.getElem?_cons_succ] at q0 q1 q2
  have f0 := blk_free HR.out 0
  have f1 := blk_free HR.out 1
  have f2 := blk_free HR.out 2
  replace R1 := Lib.hid (R1.out.stored3 HR.out ((zneg q.num)) a1 n1 c1 (.slice b1 m1 d1))
  replace T1 := Lib.hid (T1.out.stored3 HR.out ((zneg q.num)) a1 n1 c1 (.slice b1 m1 d1))
  replace HB := Lib.hid (below_set3 HB.out (show w.heap.size ≤ w.heap.size + 1 by omega) (.bool (zneg q.num)) (.slice a1 n1 c1) (.slice b1 m1 d1))
  replace HR := Lib.hid (blk_set3 HR.out (.bool (zneg q.num)) (.slice a1 n1 c1) (.slice b1 m1 d1))
  go_wp2
  refine bodyPost_ret (results_cell_row Tryz.results18 _ _ (w.heap.size + 1) 30 #[.bool (zneg q.num), .slice a1 n1 c1, .slice b1 m1 d1] (0, 0) _ rfl HR.out Tryz.underlying30 rfl (by kernel_rfl)) rfl ?_
  exact ⟨a1, n1, c1, b1, m1, d1, rfl, R1.out, T1.out, HB.out⟩
theorem fc_qabs (neg : Bool) (u v : Nat) : qabs (qval neg u v) = qval false u v := by
  have h0 : ¬ (qval false u v).num < 0 := by
    by_cases hv : v = 0
    · rw [qval_none false (.inl hv)]; exact fun h => by cases h
    · rw [(qval_parts false hv).1, zval_false]; exact Int.not_lt.2 (Int.natCast_nonneg _)
  cases neg with
  | false => unfold qabs; rw [if_neg h0]
  | true =>
    have h1 : qval true u v = -qval false u v := fc_qval_neg false u v
    rw [h1]
    unfold qabs
    rw [Rat.neg_num]
    by_cases h2 : (qval false u v).num = 0
    · rw [if_neg (by omega), Rat.num_eq_zero.1 h2]; rfl
    · rw [if_pos (by omega), Rat.neg_neg]
set_option maxRecDepth 4096 in
set_option maxHeartbeats 4000000 in
theorem frac_abs (neg : Bool) (a : Option Addr) (n cap : Nat) (la : List Nat) (b : Option Addr) (m cap' : Nat) (lb : List Nat) (w : World) (ha : Wd w a n cap la) (hb : Wd w b m cap' lb) (hn : n ≤ 40000) (hm : m ≤ 40000) :
    Calls Tryz.prog 22 #[frV neg a n cap b m cap'] w (LstQ (qabs (qval neg (val la) (val lb))) w) := by
  have HB := Lib.hid (below_then (below_alloc w (.cells #[.bool false, .slice a n cap, .slice b m cap'] 30)) (below_alloc _ (.cells #[.bool false, .slice none 0 0, .slice none 0 0] 30)))
  have HA := Lib.hid (ha.later HB.out)
  have HC := Lib.hid (hb.later HB.out)
  obtain ⟨hx1, hx2⟩ := boxes_at w ((w.alloc (.cells #[.bool false, .slice a n cap, .slice b m cap'] 30)).alloc (.cells #[.bool false, .slice none 0 0, .slice none 0 0] 30)) #[.bool false, .slice a n cap, .slice b m cap'] #[.bool false, .slice none 0 0, .slice none 0 0] 30 30 (Below.refl _ _)
  have HX := Lib.hid hx1
  have HR := Lib.hid hx2
  clear hx1 hx2 ha hb
  obtain ⟨q, hq⟩ : ∃ q, qabs (qval neg (val la) (val lb)) = q := ⟨_, rfl⟩
  rw [hq]
  have HQ := Lib.hid hq
  clear hq
  have HF : Hid (qval false (val la) (val lb) = q) := Lib.hid (by rw [← HQ.out, fc_qabs])
  go_enter Tryz.func22, Tryz.ntmps22
  unfold frV
  obtain ⟨vk0, vk1, vk2, vk3, vk4, vk5⟩ := fcells_3_3 HX.out HR.out
  go_wp2_with fail
  refine (frac_norm false a n cap la b m cap' lb _ HA.out HC.out hn hm).mono ?_
  rintro e wv1 ⟨a1, n1, c1, b1, m1, d1, rfl, h1, g1, b⟩
  clear vk0 vk1 vk2 vk3 vk4 vk5
  replace HB := Lib.hid (below_then HB.out b)
  replace HX := Lib.hid (blk_later HX.out b)
  replace HR := Lib.hid (blk_later HR.out b)
  clear HA
  clear HC
  clear b
  rw [HF.out] at h1 g1 ⊢
  have R1 := Lib.hid h1
  have T1 := Lib.hid g1
  clear h1 g1
  unfold frV
  have q0 := blk_cell HR.out 0
  have q1 := blk_cell HR.out 1
  have q2 := blk_cell HR.out 2
  simp only [List.getElem?_toArray, List.getElem?_cons_zero, List.getElem?_cons_succ] at q0 q1 q2
  have f0 := blk_free HR.out 0
  have f1 := blk_free HR.out 1
  have f2 := blk_free HR.out 2
  replace HX := Lib.hid (blk_far3 HX.out (show w.heap.size ≠ w.heap.size + 1 by omega) (.bool (zneg q.num)) (.slice a1 n1 c1) (.slice b1 m1 d1))
  replace R1 := Lib.hid (R1.out.stored3 HR.out ((zneg q.num)) a1 n1 c1 (.slice b1 m1 d1))
  replace T1 := Lib.hid (T1.out.stored3 HR.out ((zneg q.num)) a1 n1 c1 (.slice b1 m1 d1))
  replace HB := Lib.hid (below_set3 HB.out (show w.heap.size ≤ w.heap.size + 1 by omega) (.bool (zneg q.num)) (.slice a1 n1 c1) (.slice b1 m1 d1))
  replace HR := Lib.hid (blk_set3 HR.out (.bool (zneg q.num)) (.slice a1 n1 c1) (.slice b1 m1 d1))
  go_wp2
  refine bodyPost_ret (results_cell_row Tryz.results22 _ _ (w.heap.size + 1) 30 #[.bool (zneg q.num), .slice a1 n1 c1, .slice b1 m1 d1] (0, 0) _ rfl HR.out Tryz.underlying30 rfl (by kernel_rfl)) rfl ?_
  exact ⟨a1, n1, c1, b1, m1, d1, rfl, R1.out, T1.out, HB.out⟩
end Go.Proofs.YteoeicfbaffjcaaGreatDoor

/-
  The document's answer for layer 9, in rational numbers: of right fractions.
-/
namespace Go.Proofs.YteoeicfbaffjcaaGreatDoor
open Go.RowKit

theorem qden_nz (q : Rat) : Hid (val (dg q.den) ≠ 0) := Lib.hid (by rw [val_dg]; exact q.den_nz)
theorem ref09_norm_q (v : Value) (q : Rat) (w : World) (h : Fr w v q 20000) : Calls Tryz.prog 10 #[v] w (LstQ q w) := by
  obtain ⟨neg, a, n, cap, la, b, m, cap', lb, rfl, ha, hb, hn, hm, rfl⟩ := h
  exact ref09_norm neg a n cap la b m cap' lb w ha hb (by omega) (by omega)
end Go.Proofs.YteoeicfbaffjcaaGreatDoor

/-
  How long right fractions become that are reckoned; what stands in the field's laws. Nothing of the program.
-/
namespace Go.Proofs.YteoeicfbaffjcaaGreatDoor

theorem qlen_pos (q : Rat) : 1 ≤ qlen q := by
  have h1 := qlen_den q
  have h2 : (dg q.den).length ≠ 0 := fun e => q.den_nz (dg_nil_iff.1 e)
  omega
theorem dg_sum_length (x y : Nat) : (dg (x + y)).length ≤ max (dg x).length (dg y).length + 1 := by
  apply dg_length_le
  have h1 := val_lt (okw_dg x)
  have h2 := val_lt (okw_dg y)
  rw [val_dg] at h1 h2
  have h3 : 4294967296 ^ (dg x).length ≤ 4294967296 ^ max (dg x).length (dg y).length := Nat.pow_le_pow_right (by decide) (Nat.le_max_left _ _)
  have h4 : 4294967296 ^ (dg y).length ≤ 4294967296 ^ max (dg x).length (dg y).length := Nat.pow_le_pow_right (by decide) (Nat.le_max_right _ _)
  rw [Nat.pow_succ]
  omega
theorem qlen_parts (s : Int) (v : Nat) : qlen (mkRat s v) ≤ max (dg s.natAbs).length (dg v).length + 1 := by
  have h := qval_len (zneg s) s.natAbs v
  unfold qval at h
  rw [zval_of] at h
  exact qlen_le (by omega) (by omega)
theorem qlen_add (p q : Rat) : qlen (p + q) ≤ qlen p + qlen q + 2 := by
  have h1 := qlen_parts (p.num * q.den + q.num * p.den) (p.den * q.den)
  rw [show mkRat (p.num * q.den + q.num * p.den) (p.den * q.den) = p + q from (Rat.add_def' p q).symm] at h1
  have h2 : (dg (p.num * q.den + q.num * p.den).natAbs).length ≤ (dg (p.num.natAbs * q.den + q.num.natAbs * p.den)).length := by
    refine dg_length_mono (Nat.le_trans (Int.natAbs_add_le _ _) ?_)
    rw [Int.natAbs_mul, Int.natAbs_mul, Int.natAbs_natCast, Int.natAbs_natCast]
    exact Nat.le_refl _
  have h3 := dg_sum_length (p.num.natAbs * q.den) (q.num.natAbs * p.den)
  have h4 := dg_mul_length p.num.natAbs q.den
  have h5 := dg_mul_length q.num.natAbs p.den
  have h6 := dg_mul_length p.den q.den
  have h7 := qlen_num p
  have h8 := qlen_num q
  have h9 := qlen_den p
  have h10 := qlen_den q
  omega
theorem qlen_opp (q : Rat) : qlen (-q) = qlen q := by unfold qlen; rw [Rat.neg_num, Rat.neg_den, Int.natAbs_neg]
theorem qlen_abs (q : Rat) : qlen (qabs q) = qlen q := by unfold qlen; rw [(qabs_parts q).1, (qabs_parts q).2.1]
theorem qlen_sub (p q : Rat) : qlen (p - q) ≤ qlen p + qlen q + 2 := by
  rw [Rat.sub_eq_add_neg]
  have := qlen_add p (-q)
  rwa [qlen_opp] at this
theorem qlen_mul (p q : Rat) : qlen (p * q) ≤ qlen p + qlen q + 1 := by
  have h1 := qlen_parts (p.num * q.num) (p.den * q.den)
  rw [show mkRat (p.num * q.num) (p.den * q.den) = p * q from (Rat.mul_def' p q).symm] at h1
  have h2 : (dg (p.num * q.num).natAbs).length = (dg (p.num.natAbs * q.num.natAbs)).length := by rw [Int.natAbs_mul]
  have h4 := dg_mul_length p.num.natAbs q.num.natAbs
  have h6 := dg_mul_length p.den q.den
  have h7 := qlen_num p
  have h8 := qlen_num q
  have h9 := qlen_den p
  have h10 := qlen_den q
  omega
theorem qlen_nought : qlen 0 = 1 := by
  show max (dg (0 : Nat)).length (dg (1 : Nat)).length = 1
  rw [dg_zero, dg_word (by decide) (by decide)]; rfl
theorem qlen_inv (q : Rat) : qlen q⁻¹ ≤ qlen q := by
  by_cases h : q = 0
  · subst h; rw [Rat.inv_zero]; exact Nat.le_refl _
  · refine qlen_le ?_ ?_
    · rw [(qinv_parts h).1]; exact qlen_den q
    · rw [(qinv_parts h).2]; exact qlen_num q
theorem qlen_div (p q : Rat) : qlen (p / q) ≤ qlen p + qlen q + 1 := by
  rw [Rat.div_def]
  have h1 := qlen_mul p q⁻¹
  have h2 := qlen_inv q
  omega
theorem qlen_int {z : Int} (h : isInt z) : qlen (z : Rat) ≤ 2 := by
  unfold isInt at h
  refine qlen_le ?_ ?_
  · rw [Rat.num_intCast]
    refine dg_length_le ?_
    have : (4294967296 : Nat) ^ 2 = 18446744073709551616 := by decide
    rw [this]; omega
  · rw [Rat.den_intCast]
    have := dg_one_length; omega
theorem qlen_pow {q : Rat} {e : Int} (h : powOk q e) : qlen (q ^ e) ≤ 8 * qlen q + 1 := by
  obtain ⟨h1, h2, h3⟩ := h
  have key : ∀ k : Nat, k ≤ 8 → k * qlen q + 1 ≤ 8 * qlen q + 1 := fun k hk => Nat.add_le_add_right (Nat.mul_le_mul_right _ hk) 1
  by_cases h0 : 0 ≤ e
  · rw [← Int.toNat_of_nonneg h0, Rat.zpow_natCast]
    have h4 := qpow_len q e.toNat (qlen q) (qlen_num q) (qlen_den q)
    have h5 := key e.toNat (by omega)
    exact qlen_le (by omega) (by omega)
  · have e1 : e = -(((-e).toNat : Nat) : Int) := by omega
    rw [e1, zpow_low]
    have h4 := qipow_len q (h3.resolve_left h0) (-e).toNat (qlen q) (qlen_num q) (qlen_den q)
    have h5 := key (-e).toNat (by omega)
    exact qlen_le (by omega) (by omega)
theorem sgn_num_zero {q : Rat} : sgn q.num = 0 ↔ q = 0 := by
  unfold sgn
  constructor
  · intro h
    by_cases h0 : q.num = 0
    · exact Rat.num_eq_zero.1 h0
    · rw [if_neg h0] at h; split at h <;> omega
  · intro h; subst h; rfl
theorem sgn_num_neg (q : Rat) : sgn (-q).num = -sgn q.num := by
  rw [Rat.neg_num]
  unfold sgn
  split <;> split <;> (try split) <;> (try split) <;> omega
end Go.Proofs.YteoeicfbaffjcaaGreatDoor

/-
  Package frac at this seat: Mul, Quo, Ratio.
-/
namespace Go.Proofs.YteoeicfbaffjcaaGreatDoor
open Go.RowKit

set_option maxRecDepth 4096 in
set_option maxHeartbeats 4000000 in
theorem frac_mul (na : Bool) (a : Option Addr) (n cap : Nat) (la : List Nat) (b : Option Addr) (m cap' : Nat) (lb : List Nat) (nb : Bool) (a' : Option Addr) (n' c' : Nat) (la' : List Nat) (b' : Option Addr) (m' d' : Nat) (lb' : List Nat) (w : World) (ha : Wd w a n cap la) (hb : Wd w b m cap' lb) (ha' : Wd w a' n' c' la') (hb' : Wd w b' m' d' lb') (hn : n ≤ 15000) (hm : m ≤ 15000) (hn' : n' ≤ 15000) (hm' : m' ≤ 15000) :
    Calls Tryz.prog 25 #[frV na a n cap b m cap', frV nb a' n' c' b' m' d'] w (LstQ (qval na (val la) (val lb) * qval nb (val la') (val lb')) w) := by
  have HB := Lib.hid (below_then (below_then (below_alloc w (.cells #[.bool na, .slice a n cap, .slice b m cap'] 30)) (below_alloc _ (.cells #[.bool nb, .slice a' n' c', .slice b' m' d'] 30))) (below_alloc _ (.cells #[.bool false, .slice none 0 0, .slice none 0 0] 30)))
  have HA := Lib.hid (ha.later HB.out)
  have HC := Lib.hid (hb.later HB.out)
  have HA' := Lib.hid (ha'.later HB.out)
  have HC' := Lib.hid (hb'.later HB.out)
  obtain ⟨hx1, hx2, hx3⟩ := boxes3_at9 w #[.bool na, .slice a n cap, .slice b m cap'] #[.bool nb, .slice a' n' c', .slice b' m' d'] #[.bool false, .slice none 0 0, .slice none 0 0] 30 30 30
  have HX := Lib.hid hx1
  have HY := Lib.hid hx2
  have HR := Lib.hid hx3
  have ta := ha.trim_le
  have tb := hb.trim_le
  have ta' := ha'.trim_le
  have tb' := hb'.trim_le
  clear ha hb ha' hb' hx1 hx2 hx3
  obtain ⟨q, hq⟩ : ∃ q, qval na (val la) (val lb) * qval nb (val la') (val lb') = q := ⟨_, rfl⟩
  rw [hq]
  have HQ := Lib.hid hq
  clear hq
  have zl1 := zlen_mul (zval na (val la)) (zval nb (val la'))
  have zl2 := dg_mul_length (val lb) (val lb')
  rw [zval_abs, zval_abs] at zl1
  have HZ : Hid (qval (zneg (zval na (val la) * zval nb (val la'))) (val (dg (zval na (val la) * zval nb (val la')).natAbs)) (val (dg (val lb * val lb'))) = q) := Lib.hid (by rw [val_dg, val_dg, fc_qval_of, fc_qval_mul, HQ.out])
  go_enter Tryz.func25, Tryz.ntmps25
  unfold frV
  obtain ⟨vk0, vk1, vk2, vk3, vk4, vk5, vk6, vk7, vk8⟩ := fcells_3_3_3 HX.out HY.out HR.out
  go_wp2_with fail
  refine (frac_product na a n cap la b m cap' lb nb a' n' c' la' b' m' d' lb' _ HA.out HC.out HA'.out HC'.out (by omega) (by omega) (by omega) (by omega)).mono ?_
  rintro e wv1 ⟨a1, n1, c1, b1, m1, d1, rfl, h1, g1, b⟩
  clear vk0 vk1 vk2 vk3 vk4 vk5 vk6 vk7 vk8
  replace HB := Lib.hid (below_then HB.out b)
  replace HX := Lib.hid (blk_later HX.out b)
  replace HY := Lib.hid (blk_later HY.out b)
  replace HR := Lib.hid (blk_later HR.out b)
  clear HA
  clear HC
  clear HA'
  clear HC'
  clear b
  have ln1 := h1.len
  have lm1 := g1.len
  have R1 := Lib.hid h1
  have T1 := Lib.hid g1
  clear h1 g1
  unfold frV
  obtain ⟨vk0, vk1, vk2, vk3, vk4, vk5, vk6, vk7, vk8⟩ := fcells_3_3_3 HX.out HY.out HR.out
  go_wp2_with fail
  refine (frac_norm _ a1 n1 c1 _ b1 m1 d1 _ _ R1.out T1.out (by omega) (by omega)).mono ?_
  rintro e wv2 ⟨a2, n2, c2, b2, m2, d2, rfl, h2, g2, b⟩
  clear vk0 vk1 vk2 vk3 vk4 vk5 vk6 vk7 vk8
  replace HB := Lib.hid (below_then HB.out b)
  replace HX := Lib.hid (blk_later HX.out b)
  replace HY := Lib.hid (blk_later HY.out b)
  replace HR := Lib.hid (blk_later HR.out b)
  clear R1
  clear T1
  clear b
  rw [HZ.out] at h2 g2 ⊢
  have R2 := Lib.hid h2
  have T2 := Lib.hid g2
  clear h2 g2
  unfold frV
  have q0 := blk_cell HR.out 0
  have q1 := blk_cell HR.out 1
  have q2 := blk_cell HR.out 2
  simp only [List.getElem?_toArray, List.getElem?_cons_zero, List.getElem?_cons_succ] at q0 q1 q2
  have f0 := blk_free HR.out 0
  have f1 := blk_free HR.out 1
  have f2 := blk_free HR.out 2
  replace HX := Lib.hid (blk_far3 HX.out (show w.heap.size ≠ w.heap.size + 1 + 1 by omega) (.bool (zneg q.num)) (.slice a2 n2 c2) (.slice b2 m2 d2))
  replace HY := Lib.hid (blk_far3 HY.out (show w.heap.size + 1 ≠ w.heap.size + 1 + 1 by omega) (.bool (zneg q.num)) (.slice a2 n2 c2) (.slice b2 m2 d2))
  replace R2 := Lib.hid (R2.out.stored3 HR.out ((zneg q.num)) a2 n2 c2 (.slice b2 m2 d2))
  replace T2 := Lib.hid (T2.out.stored3 HR.out ((zneg q.num)) a2 n2 c2 (.slice b2 m2 d2))
  replace HB := Lib.hid (below_set3 HB.out (show w.heap.size ≤ w.heap.size + 1 + 1 by omega) (.bool (zneg q.num)) (.slice a2 n2 c2) (.slice b2 m2 d2))
  replace HR := Lib.hid (blk_set3 HR.out (.bool (zneg q.num)) (.slice a2 n2 c2) (.slice b2 m2 d2))
  go_wp2
  refine bodyPost_ret (results_cell_row Tryz.results25 _ _ (w.heap.size + 1 + 1) 30 #[.bool (zneg q.num), .slice a2 n2 c2, .slice b2 m2 d2] (0, 0) _ rfl HR.out Tryz.underlying30 rfl (by kernel_rfl)) rfl ?_
  exact ⟨a2, n2, c2, b2, m2, d2, rfl, R2.out, T2.out, HB.out⟩
end Go.Proofs.YteoeicfbaffjcaaGreatDoor

/-
  Package frac at this seat: Cmp, Same.
-/
namespace Go.Proofs.YteoeicfbaffjcaaGreatDoor
open Go.RowKit

set_option maxRecDepth 4096 in
set_option maxHeartbeats 4000000 in
theorem frac_cmp (na : Bool) (a : Option Addr) (n cap : Nat) (la : List Nat) (b : Option Addr) (m cap' : Nat) (lb : List Nat) (nb : Bool) (a' : Option Addr) (n' c' : Nat) (la' : List Nat) (b' : Option Addr) (m' d' : Nat) (lb' : List Nat) (w : World) (ha : Wd w a n cap la) (hb : Wd w b m cap' lb) (ha' : Wd w a' n' c' la') (hb' : Wd w b' m' d' lb') (hn : n ≤ 40000) (hm : m ≤ 40000) (hn' : n' ≤ 40000) (hm' : m' ≤ 40000) :
    Calls Tryz.prog 27 #[frV na a n cap b m cap', frV nb a' n' c' b' m' d'] w (Gives (.int .i64 (sgn (qval na (val la) (val lb) - qval nb (val la') (val lb')).num)) w) := by
  have HB := Lib.hid (below_then (below_alloc w (.cells #[.bool na, .slice a n cap, .slice b m cap'] 30)) (below_alloc _ (.cells #[.bool nb, .slice a' n' c', .slice b' m' d'] 30)))
  have HA := Lib.hid (ha.later HB.out)
  have HC := Lib.hid (hb.later HB.out)
  have HA' := Lib.hid (ha'.later HB.out)
  have HC' := Lib.hid (hb'.later HB.out)
  obtain ⟨hx1, hx2⟩ := boxes_at w ((w.alloc (.cells #[.bool na, .slice a n cap, .slice b m cap'] 30)).alloc (.cells #[.bool nb, .slice a' n' c', .slice b' m' d'] 30)) #[.bool na, .slice a n cap, .slice b m cap'] #[.bool nb, .slice a' n' c', .slice b' m' d'] 30 30 (Below.refl _ _)
  have HX := Lib.hid hx1
  have HY := Lib.hid hx2
  have ta := ha.trim_le
  have tb := hb.trim_le
  have ta' := ha'.trim_le
  have tb' := hb'.trim_le
  clear ha hb ha' hb' hx1 hx2
  have zl1 := zlen_mul (zval na (val la)) ((val lb' : Nat) : Int)
  have zl2 := zlen_mul (zval nb (val la')) ((val lb : Nat) : Int)
  rw [zval_abs, Int.natAbs_natCast] at zl1 zl2
  have HF : Hid (sgn (qval na (val la) (val lb)).num ≠ sgn (qval nb (val la') (val lb')).num → sgn (sgn (qval na (val la) (val lb)).num - sgn (qval nb (val la') (val lb')).num) = sgn (qval na (val la) (val lb) - qval nb (val la') (val lb')).num) := Lib.hid fc_qcmp_far
  have HE0 : Hid (sgn (qval na (val la) (val lb)).num = sgn (qval nb (val la') (val lb')).num → sgn (qval na (val la) (val lb)).num = 0 → sgn (qval na (val la) (val lb) - qval nb (val la') (val lb')).num = 0) := Lib.hid (fun h h0 => by
    rw [fc_qsign_zero.1 h0, fc_qsign_zero.1 (h.symm.trans h0), Rat.sub_self]; rfl)
  have HN : Hid (sgn (qval na (val la) (val lb)).num = sgn (qval nb (val la') (val lb')).num → sgn (qval na (val la) (val lb)).num ≠ 0 → sgn (zval na (val la) * ((val lb' : Nat) : Int) - zval nb (val la') * ((val lb : Nat) : Int)) = sgn (qval na (val la) (val lb) - qval nb (val la') (val lb')).num) := Lib.hid (fun h h0 => by
    refine fc_qcmp_near (fun e => h0 ?_) (fun e => h0 ?_)
    · rw [qval_none na (.inl e)]; rfl
    · rw [h, qval_none nb (.inl e)]; rfl)
  have hra := sgn_range (qval na (val la) (val lb)).num
  have hrb := sgn_range (qval nb (val la') (val lb')).num
  generalize hz : sgn (qval na (val la) (val lb) - qval nb (val la') (val lb')).num = z at *
  generalize hx : sgn (qval na (val la) (val lb)).num = x at *
  generalize hy : sgn (qval nb (val la') (val lb')).num = y at *
  have HSA := Lib.hid hx
  have HSB := Lib.hid hy
  clear hx hy hz
  go_enter Tryz.func27, Tryz.ntmps27
  unfold frV
  go_wp2
  generalize ((w.alloc (.cells #[.bool na, .slice a n cap, .slice b m cap'] 30)).alloc (.cells #[.bool nb, .slice a' n' c', .slice b' m' d'] 30)) = W at *
  replace HB := Lib.hid (below_then HB.out ((Below.refl _ _).drew : Below W.heap.size W W.drew))
  replace HX : Hid (W.drew.heap[w.heap.size]? = _) := Lib.hid HX.out
  replace HY : Hid (W.drew.heap[w.heap.size + 1]? = _) := Lib.hid HY.out
  replace HA := Lib.hid (HA.out.later ((Below.refl _ _).drew : Below W.heap.size W W.drew))
  replace HC := Lib.hid (HC.out.later ((Below.refl _ _).drew : Below W.heap.size W W.drew))
  replace HA' := Lib.hid (HA'.out.later ((Below.refl _ _).drew : Below W.heap.size W W.drew))
  replace HC' := Lib.hid (HC'.out.later ((Below.refl _ _).drew : Below W.heap.size W W.drew))
  have pSn := fcells_3_3 HX.out HY.out
  go_region_held3 (fun w' => w'.cell? ⟨w.heap.size, 0, none⟩ = some (.bool na) ∧ w'.cell? ⟨w.heap.size, 1, none⟩ = some (.slice a n cap) ∧ w'.cell? ⟨w.heap.size, 2, none⟩ = some (.slice b m cap') ∧ w'.cell? ⟨w.heap.size + 1, 0, none⟩ = some (.bool nb) ∧ w'.cell? ⟨w.heap.size + 1, 1, none⟩ = some (.slice a' n' c') ∧ w'.cell? ⟨w.heap.size + 1, 2, none⟩ = some (.slice b' m' d')) (exact pSn)
    (first
    | (go_at_call 21; (first
      | (have pm1 := pM1; refine (frac_sign nb a' n' c' la' b' m' d' lb' _ HA'.out HC'.out (by omega) (by omega)).mono ?_; rintro e wp2 ⟨rfl, b⟩; replace HB := Lib.hid (below_then HB.out b); replace HX := Lib.hid (blk_later HX.out b); replace HY := Lib.hid (blk_later HY.out b); replace HA := Lib.hid (HA.out.later b); replace HC := Lib.hid (HC.out.later b); replace HA' := Lib.hid (HA'.out.later b); replace HC' := Lib.hid (HC'.out.later b); rw [HSB.out]; clear b; clear pSn; have pSn := fcells_3_3 HX.out HY.out; clear pM1 pm1; have pM2 := True.intro)
      | (refine (frac_sign na a n cap la b m cap' lb _ HA.out HC.out (by omega) (by omega)).mono ?_; rintro e wp1 ⟨rfl, b⟩; replace HB := Lib.hid (below_then HB.out b); replace HX := Lib.hid (blk_later HX.out b); replace HY := Lib.hid (blk_later HY.out b); replace HA := Lib.hid (HA.out.later b); replace HC := Lib.hid (HC.out.later b); replace HA' := Lib.hid (HA'.out.later b); replace HC' := Lib.hid (HC'.out.later b); rw [HSA.out]; clear b; clear pSn; have pSn := fcells_3_3 HX.out HY.out; have pM1 := True.intro))))
  clear HSA HSB pSn pM2
  by_cases hxy : x = y
  · by_cases hx0 : x = 0
    · have HZ : Hid (z = 0) := Lib.hid (HE0.out hxy hx0)
      have HS : Hid (sgn ((0 : Int) - 0) = 0) := Lib.hid rfl
      clear HF HE0 HN zl1 zl2
      obtain rfl : y = 0 := by omega
      obtain rfl : x = 0 := hx0
      clear hxy hra hrb
      go_wp2_with fail
      refine (cmp_Compare 0 0 _).mono ?_
      rintro e w' ⟨rfl, rfl⟩
      rw [HS.out]
      go_wp2
      go_ret
      exact ⟨by rw [HZ.out]; rfl, HB.out⟩
    · have hq0 : (x == 0) = false := by simp [hx0]
      have HZ := Lib.hid (HN.out hxy hx0)
      clear HF HE0 HN hx0
      subst hxy
      obtain ⟨uk0, uk1, uk2, uk3, uk4, uk5⟩ := fcells_3_3 HX.out HY.out
      go_wp2
      clear uk0 uk1 uk2 uk3 uk4 uk5
      replace HB := Lib.hid (below_then HB.out ((Below.refl _ _).drew : Below wp2.heap.size wp2 wp2.drew))
      replace HX : Hid (wp2.drew.heap[w.heap.size]? = _) := Lib.hid HX.out
      replace HY : Hid (wp2.drew.heap[w.heap.size + 1]? = _) := Lib.hid HY.out
      replace HA := Lib.hid (HA.out.later ((Below.refl _ _).drew : Below wp2.heap.size wp2 wp2.drew))
      replace HC := Lib.hid (HC.out.later ((Below.refl _ _).drew : Below wp2.heap.size wp2 wp2.drew))
      replace HA' := Lib.hid (HA'.out.later ((Below.refl _ _).drew : Below wp2.heap.size wp2 wp2.drew))
      replace HC' := Lib.hid (HC'.out.later ((Below.refl _ _).drew : Below wp2.heap.size wp2 wp2.drew))
      have rSn := fcells_3_3 HX.out HY.out
      go_region_held3 (fun w' => w'.cell? ⟨w.heap.size, 0, none⟩ = some (.bool na) ∧ w'.cell? ⟨w.heap.size, 1, none⟩ = some (.slice a n cap) ∧ w'.cell? ⟨w.heap.size, 2, none⟩ = some (.slice b m cap') ∧ w'.cell? ⟨w.heap.size + 1, 0, none⟩ = some (.bool nb) ∧ w'.cell? ⟨w.heap.size + 1, 1, none⟩ = some (.slice a' n' c') ∧ w'.cell? ⟨w.heap.size + 1, 2, none⟩ = some (.slice b' m' d')) (exact rSn)
        (first
        | (go_at_call 65; (first
          | (have rm1 := rM1; refine (frac_times nb a' n' c' la' b m cap' lb _ HA'.out HC.out (by omega) (by omega)).mono ?_; rintro e wr2 ⟨a2, n2, c2, rfl, h2, b⟩; replace HB := Lib.hid (below_then HB.out b); replace HX := Lib.hid (blk_later HX.out b); replace HY := Lib.hid (blk_later HY.out b); replace HA := Lib.hid (HA.out.later b); replace HC := Lib.hid (HC.out.later b); replace HA' := Lib.hid (HA'.out.later b); replace HC' := Lib.hid (HC'.out.later b); replace R1 := Lib.hid (R1.out.later b); have R2 := Lib.hid h2; have ln2 := h2.len; clear h2; unfold whV; clear b; clear rSn; have rSn := fcells_3_3 HX.out HY.out; clear rM1 rm1; have rM2 := True.intro)
          | (refine (frac_times na a n cap la b' m' d' lb' _ HA.out HC'.out (by omega) (by omega)).mono ?_; rintro e wr1 ⟨a1, n1, c1, rfl, h1, b⟩; replace HB := Lib.hid (below_then HB.out b); replace HX := Lib.hid (blk_later HX.out b); replace HY := Lib.hid (blk_later HY.out b); replace HA := Lib.hid (HA.out.later b); replace HC := Lib.hid (HC.out.later b); replace HA' := Lib.hid (HA'.out.later b); replace HC' := Lib.hid (HC'.out.later b); have R1 := Lib.hid h1; have ln1 := h1.len; clear h1; unfold whV; clear b; clear rSn; have rSn := fcells_3_3 HX.out HY.out; have rM1 := True.intro)))
        | (go_at_call 69; (first
          | (have rm2 := rM2; refine (whole_cmp _ a1 n1 c1 _ _ a2 n2 c2 _ _ R1.out R2.out (by omega) (by omega)).mono ?_; rintro e wr3 ⟨rfl, b⟩; replace HB := Lib.hid (below_then HB.out b); replace HX := Lib.hid (blk_later HX.out b); replace HY := Lib.hid (blk_later HY.out b); replace HA := Lib.hid (HA.out.later b); replace HC := Lib.hid (HC.out.later b); replace HA' := Lib.hid (HA'.out.later b); replace HC' := Lib.hid (HC'.out.later b); clear R1; clear R2; rw [zval_dg, zval_dg, HZ.out]; clear b; clear rSn; have rSn := fcells_3_3 HX.out HY.out; clear rM2 rm2; have rM3 := True.intro))))
      go_wp2
      go_ret
      exact ⟨rfl, HB.out⟩
  · have hq : (x == y) = false := by simp [hxy]
    have HZ := Lib.hid (HF.out hxy)
    clear HF HE0 HN hxy zl1 zl2
    go_wp2_with fail
    refine (cmp_Compare x y _).mono ?_
    rintro e w' ⟨rfl, rfl⟩
    rw [HZ.out]
    go_wp2
    go_ret
    exact ⟨rfl, HB.out⟩
set_option maxRecDepth 4096 in
set_option maxHeartbeats 4000000 in
theorem frac_same (na : Bool) (a : Option Addr) (n cap : Nat) (la : List Nat) (b : Option Addr) (m cap' : Nat) (lb : List Nat) (nb : Bool) (a' : Option Addr) (n' c' : Nat) (la' : List Nat) (b' : Option Addr) (m' d' : Nat) (lb' : List Nat) (w : World) (ha : Wd w a n cap la) (hb : Wd w b m cap' lb) (ha' : Wd w a' n' c' la') (hb' : Wd w b' m' d' lb') (hn : n ≤ 40000) (hm : m ≤ 40000) (hn' : n' ≤ 40000) (hm' : m' ≤ 40000) :
    Calls Tryz.prog 20 #[frV na a n cap b m cap', frV nb a' n' c' b' m' d'] w (Gives (.bool (decide (qval na (val la) (val lb) = qval nb (val la') (val lb')))) w) := by
  have HB := Lib.hid (below_then (below_alloc w (.cells #[.bool na, .slice a n cap, .slice b m cap'] 30)) (below_alloc _ (.cells #[.bool nb, .slice a' n' c', .slice b' m' d'] 30)))
  have HA := Lib.hid (ha.later HB.out)
  have HC := Lib.hid (hb.later HB.out)
  have HA' := Lib.hid (ha'.later HB.out)
  have HC' := Lib.hid (hb'.later HB.out)
  obtain ⟨hx1, hx2⟩ := boxes_at w ((w.alloc (.cells #[.bool na, .slice a n cap, .slice b m cap'] 30)).alloc (.cells #[.bool nb, .slice a' n' c', .slice b' m' d'] 30)) #[.bool na, .slice a n cap, .slice b m cap'] #[.bool nb, .slice a' n' c', .slice b' m' d'] 30 30 (Below.refl _ _)
  have HX := Lib.hid hx1
  have HY := Lib.hid hx2
  have ta := ha.trim_le
  have tb := hb.trim_le
  have ta' := ha'.trim_le
  have tb' := hb'.trim_le
  clear ha hb ha' hb' hx1 hx2
  have HE : Hid ((sgn (qval na (val la) (val lb) - qval nb (val la') (val lb')).num == 0) = decide (qval na (val la) (val lb) = qval nb (val la') (val lb'))) := Lib.hid (by
    by_cases h : qval na (val la) (val lb) = qval nb (val la') (val lb')
    · rw [decide_eq_true h, h, Rat.sub_self]; rfl
    · rw [decide_eq_false h, beq_eq_false_iff_ne]
      exact fun e => h (by
        have h1 := fc_qsign_zero.1 e
        rw [Rat.sub_eq_add_neg] at h1
        have h2 := congrArg (· + qval nb (val la') (val lb')) h1
        simp only [Rat.add_assoc, Rat.neg_add_cancel, Rat.add_zero, Rat.zero_add] at h2
        exact h2))
  go_enter Tryz.func20, Tryz.ntmps20
  unfold frV
  obtain ⟨vk0, vk1, vk2, vk3, vk4, vk5⟩ := fcells_3_3 HX.out HY.out
  go_wp2_with fail
  refine (frac_cmp na a n cap la b m cap' lb nb a' n' c' la' b' m' d' lb' _ HA.out HC.out HA'.out HC'.out hn hm hn' hm').mono ?_
  rintro e wv1 ⟨rfl, b⟩
  clear vk0 vk1 vk2 vk3 vk4 vk5
  replace HB := Lib.hid (below_then HB.out b)
  replace HX := Lib.hid (blk_later HX.out b)
  replace HY := Lib.hid (blk_later HY.out b)
  replace HA := Lib.hid (HA.out.later b)
  replace HC := Lib.hid (HC.out.later b)
  replace HA' := Lib.hid (HA'.out.later b)
  replace HC' := Lib.hid (HC'.out.later b)
  clear b
  clear HX HY HA HC HA' HC'
  generalize decide (qval na (val la) (val lb) = qval nb (val la') (val lb')) = s at *
  generalize sgn (qval na (val la) (val lb) - qval nb (val la') (val lb')).num = z at *
  go_wp2
  go_ret
  exact ⟨by rw [← HE.out]; rfl, HB.out⟩
end Go.Proofs.YteoeicfbaffjcaaGreatDoor
