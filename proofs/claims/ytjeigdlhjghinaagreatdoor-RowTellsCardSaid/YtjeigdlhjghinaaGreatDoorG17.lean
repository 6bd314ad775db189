/-
  Several texts of this claim as one, group 17.
-/
import Derived.Test.YtjeigdlhjghinaaGreatDoorG16
import Derived.Deep.RegionHeld3
import Derived.Test.YtjeigdlhjghinaaGreatDoorG15
/-
  Package figure at this seat: Read, a / in it.
-/
namespace Go.Proofs.YtjeigdlhjghinaaGreatDoor
open Go.RowKit

set_option maxRecDepth 4096 in
set_option maxHeartbeats 4000000 in
theorem figure_read_slash (l : List UInt8) (w : World) (hl : l.length ≤ 1000) (k j : Nat) (hc : cutAt l = k) (hlt : k < l.length) (hj : k + 1 = j) (hx : l.getD k 0 = 47) (z : Int) (v : Nat) (hv0 : v ≠ 0) (hz : (dg z.natAbs).length ≤ 20) (hv : (dg v).length ≤ 20) (hR : ∀ w' : World, Calls Tryz.prog 106 #[.string (bs (l.take k))] w' (LstZV z (faultV 0 0 0 0) w')) (hD : ∀ w' : World, Calls Tryz.prog 107 #[.string (bs (l.drop j))] w' (Lst2 (dg v) (faultV 0 0 0 0) w')) : Calls Tryz.prog 72 #[.string (bs l)] w (LstQV (mkRat z v) (faultV 0 0 0 0) w) := by
  obtain ⟨hx1, hx2⟩ := boxes_at w ((w.alloc (.cells #[.bool false, .slice none 0 0, .slice none 0 0] 41)).alloc (.cells #[.int .i64 0, .int .i64 0, .int .i64 0, .int .i64 0] 69)) #[.bool false, .slice none 0 0, .slice none 0 0] #[.int .i64 0, .int .i64 0, .int .i64 0, .int .i64 0] 41 69 (Below.refl _ _)
  have HR := Lib.hid hx1
  have HF := Lib.hid hx2
  have HB : Hid (Below w.heap.size w ((w.alloc (.cells #[.bool false, .slice none 0 0, .slice none 0 0] 41)).alloc (.cells #[.int .i64 0, .int .i64 0, .int .i64 0, .int .i64 0] 69))) := Lib.hid (below_then (below_alloc _ _) (below_alloc _ _))
  clear hx1 hx2
  have HI : Hid (cutI l = (k : Int)) := Lib.hid (by rw [cutI_here (by omega), hc])
  have hs0 := bs_size l
  have e1 := bs_take l k
  have e2 := bs_drop l j
  have e3 := bs_mid hlt hx
  rw [hj] at e3
  have hl1 : (l.take k).length ≤ 1000 := by rw [List.length_take]; omega
  have hl2 : (l.drop j).length ≤ 1000 := by rw [List.length_drop]; omega
  have hk0 : ¬ (k : Int) < 0 := by omega
  have hkj : (k : Int) + 1 = (j : Int) := by omega
  have hkl : (k : Int) ≤ (l.length : Int) := by omega
  have hjl : (j : Int) ≤ (l.length : Int) := by omega
  have hkj2 : (k : Int) ≤ (j : Int) := by omega
  clear hc hlt hx
  have q1 : ((bs [47]).toList == [46]) = false := by rw [bs_list]; rfl
  have q2 : ((bs [47]).toList == (bs [46]).toList) = false := by rw [bs_list, bs_list]; rfl
  have HQV : Hid (qval (zneg z) (val (dg z.natAbs)) (val (dg v)) = mkRat z v) := Lib.hid (by rw [val_dg, val_dg]; unfold qval; rw [zval_of])
  have HOK : Hid (decide (val (dg v) ≠ 0) = true) := Lib.hid (by rw [val_dg]; exact decide_eq_true hv0)
  generalize mkRat z v = q at *
  clear hv0
  unfold faultV at hR hD ⊢
  go_enter Tryz.func72, Tryz.ntmps72
  obtain ⟨vk0, vk1, vk2, vk3, vk4, vk5, vk6⟩ := fcells_3_4 HR.out HF.out
  go_wp2_with fail
  refine (any_IndexAny l _ hl).mono ?_
  rintro e wv1 ⟨rfl, b⟩
  clear vk0 vk1 vk2 vk3 vk4 vk5 vk6
  replace HB := Lib.hid (below_then HB.out b)
  replace HR := Lib.hid (blk_later HR.out b)
  replace HF := Lib.hid (blk_later HF.out b)
  clear b
  rw [HI.out]
  obtain ⟨vk0, vk1, vk2, vk3, vk4, vk5, vk6⟩ := fcells_3_4 HR.out HF.out
  go_wp2_with fail
  refine (hR _).mono ?_
  rintro e wv2 ⟨a1, n1, c1, rfl, h1, b⟩
  clear vk0 vk1 vk2 vk3 vk4 vk5 vk6
  replace HB := Lib.hid (below_then HB.out b)
  replace HR := Lib.hid (blk_later HR.out b)
  replace HF := Lib.hid (blk_later HF.out b)
  clear b
  have ln1 := h1.len
  have R1 := Lib.hid h1
  clear h1
  unfold whV
  have hlt := blk_lt HF.out
  have HN : Hid ((World.alloc wv2 (.cells #[.bool (zneg z), .slice a1 n1 c1] 39)).heap[wv2.heap.size]? = some (.cells #[.bool (zneg z), .slice a1 n1 c1] 39 (0, 0))) := Lib.hid (blk_new wv2 _ _)
  replace HB := Lib.hid (below_then HB.out (below_alloc wv2 (.cells #[.bool (zneg z), .slice a1 n1 c1] 39)))
  replace HR := Lib.hid (blk_later HR.out (below_alloc wv2 (.cells #[.bool (zneg z), .slice a1 n1 c1] 39)))
  replace HF := Lib.hid (blk_later HF.out (below_alloc wv2 (.cells #[.bool (zneg z), .slice a1 n1 c1] 39)))
  replace R1 := Lib.hid (R1.out.later (below_alloc wv2 (.cells #[.bool (zneg z), .slice a1 n1 c1] 39)))
  have HG : Hid ((World.alloc (wv2.alloc (.cells #[.bool (zneg z), .slice a1 n1 c1] 39)) (.cells #[.int .i64 0, .int .i64 0, .int .i64 0, .int .i64 0] 69)).heap[wv2.heap.size + 1]? = some (.cells #[.int .i64 0, .int .i64 0, .int .i64 0, .int .i64 0] 69 (0, 0))) := Lib.hid (by have h := blk_new (wv2.alloc (.cells #[.bool (zneg z), .slice a1 n1 c1] 39)) #[.int .i64 0, .int .i64 0, .int .i64 0, .int .i64 0] 69; rw [blk_size] at h; exact h)
  replace HB := Lib.hid (below_then HB.out (below_alloc (wv2.alloc (.cells #[.bool (zneg z), .slice a1 n1 c1] 39)) (.cells #[.int .i64 0, .int .i64 0, .int .i64 0, .int .i64 0] 69)))
  replace HR := Lib.hid (blk_later HR.out (below_alloc (wv2.alloc (.cells #[.bool (zneg z), .slice a1 n1 c1] 39)) (.cells #[.int .i64 0, .int .i64 0, .int .i64 0, .int .i64 0] 69)))
  replace HF := Lib.hid (blk_later HF.out (below_alloc (wv2.alloc (.cells #[.bool (zneg z), .slice a1 n1 c1] 39)) (.cells #[.int .i64 0, .int .i64 0, .int .i64 0, .int .i64 0] 69)))
  replace HN := Lib.hid (blk_later HN.out (below_alloc (wv2.alloc (.cells #[.bool (zneg z), .slice a1 n1 c1] 39)) (.cells #[.int .i64 0, .int .i64 0, .int .i64 0, .int .i64 0] 69)))
  replace R1 := Lib.hid (R1.out.later (below_alloc (wv2.alloc (.cells #[.bool (zneg z), .slice a1 n1 c1] 39)) (.cells #[.int .i64 0, .int .i64 0, .int .i64 0, .int .i64 0] 69)))
  obtain ⟨vk0, vk1, vk2, vk3, vk4, vk5, vk6, vk7, vk8, vk9, vk10, vk11, vk12⟩ := fcells_3_4_2_4 HR.out HF.out HN.out HG.out
  go_wp2_with fail
  refine (hD _).mono ?_
  rintro e wv3 ⟨a5, n5, c5, rfl, h5, b⟩
  clear vk0 vk1 vk2 vk3 vk4 vk5 vk6 vk7 vk8 vk9 vk10 vk11 vk12
  replace HB := Lib.hid (below_then HB.out b)
  replace HR := Lib.hid (blk_later HR.out b)
  replace HF := Lib.hid (blk_later HF.out b)
  replace HN := Lib.hid (blk_later HN.out b)
  replace HG := Lib.hid (blk_later HG.out b)
  replace R1 := Lib.hid (R1.out.later b)
  clear b
  have ln5 := h5.len
  have R5 := Lib.hid h5
  clear h5
  obtain ⟨zq0, zq1, zq2, zq3⟩ := fcells_4 HG.out
  have zf0 := blk_free HG.out 0
  have zf1 := blk_free HG.out 1
  have zf2 := blk_free HG.out 2
  have zf3 := blk_free HG.out 3
  replace HR := Lib.hid (blk_apart4 HR.out (show w.heap.size ≠ wv2.heap.size + 1 by omega) (.int .i64 0) (.int .i64 0) (.int .i64 0) (.int .i64 0))
  replace HF := Lib.hid (blk_apart4 HF.out (show w.heap.size + 1 ≠ wv2.heap.size + 1 by omega) (.int .i64 0) (.int .i64 0) (.int .i64 0) (.int .i64 0))
  replace HN := Lib.hid (blk_apart4 HN.out (show wv2.heap.size ≠ wv2.heap.size + 1 by omega) (.int .i64 0) (.int .i64 0) (.int .i64 0) (.int .i64 0))
  replace R1 := Lib.hid (R1.out.stored4 HG.out 0 0 0 0)
  replace R5 := Lib.hid (R5.out.stored4 HG.out 0 0 0 0)
  replace HB := Lib.hid (below_set4 HB.out (show w.heap.size ≤ wv2.heap.size + 1 by omega) (.int .i64 0) (.int .i64 0) (.int .i64 0) (.int .i64 0))
  replace HG := Lib.hid (blk_set4 HG.out (.int .i64 0) (.int .i64 0) (.int .i64 0) (.int .i64 0))
  obtain ⟨x0, x1, x2, x3, x4, x5⟩ := fcells_2_4 HN.out HG.out
  have HM : Hid ((World.alloc ((((wv3.setCell ⟨wv2.heap.size + 1, 0, none⟩ (.int .i64 0)).setCell ⟨wv2.heap.size + 1, 1, none⟩ (.int .i64 0)).setCell ⟨wv2.heap.size + 1, 2, none⟩ (.int .i64 0)).setCell ⟨wv2.heap.size + 1, 3, none⟩ (.int .i64 0)) (.cells #[.bool (zneg z), .slice a1 n1 c1] 39)).heap[wv3.heap.size]? = some (.cells #[.bool (zneg z), .slice a1 n1 c1] 39 (0, 0))) := Lib.hid (new_behind _ _ (by simp))
  replace HB := Lib.hid (below_then HB.out (below_alloc ((((wv3.setCell ⟨wv2.heap.size + 1, 0, none⟩ (.int .i64 0)).setCell ⟨wv2.heap.size + 1, 1, none⟩ (.int .i64 0)).setCell ⟨wv2.heap.size + 1, 2, none⟩ (.int .i64 0)).setCell ⟨wv2.heap.size + 1, 3, none⟩ (.int .i64 0)) (.cells #[.bool (zneg z), .slice a1 n1 c1] 39)))
  replace HR := Lib.hid (blk_later HR.out (below_alloc ((((wv3.setCell ⟨wv2.heap.size + 1, 0, none⟩ (.int .i64 0)).setCell ⟨wv2.heap.size + 1, 1, none⟩ (.int .i64 0)).setCell ⟨wv2.heap.size + 1, 2, none⟩ (.int .i64 0)).setCell ⟨wv2.heap.size + 1, 3, none⟩ (.int .i64 0)) (.cells #[.bool (zneg z), .slice a1 n1 c1] 39)))
  replace HF := Lib.hid (blk_later HF.out (below_alloc ((((wv3.setCell ⟨wv2.heap.size + 1, 0, none⟩ (.int .i64 0)).setCell ⟨wv2.heap.size + 1, 1, none⟩ (.int .i64 0)).setCell ⟨wv2.heap.size + 1, 2, none⟩ (.int .i64 0)).setCell ⟨wv2.heap.size + 1, 3, none⟩ (.int .i64 0)) (.cells #[.bool (zneg z), .slice a1 n1 c1] 39)))
  replace HN := Lib.hid (blk_later HN.out (below_alloc ((((wv3.setCell ⟨wv2.heap.size + 1, 0, none⟩ (.int .i64 0)).setCell ⟨wv2.heap.size + 1, 1, none⟩ (.int .i64 0)).setCell ⟨wv2.heap.size + 1, 2, none⟩ (.int .i64 0)).setCell ⟨wv2.heap.size + 1, 3, none⟩ (.int .i64 0)) (.cells #[.bool (zneg z), .slice a1 n1 c1] 39)))
  replace HG := Lib.hid (blk_later HG.out (below_alloc ((((wv3.setCell ⟨wv2.heap.size + 1, 0, none⟩ (.int .i64 0)).setCell ⟨wv2.heap.size + 1, 1, none⟩ (.int .i64 0)).setCell ⟨wv2.heap.size + 1, 2, none⟩ (.int .i64 0)).setCell ⟨wv2.heap.size + 1, 3, none⟩ (.int .i64 0)) (.cells #[.bool (zneg z), .slice a1 n1 c1] 39)))
  replace R1 := Lib.hid (R1.out.later (below_alloc ((((wv3.setCell ⟨wv2.heap.size + 1, 0, none⟩ (.int .i64 0)).setCell ⟨wv2.heap.size + 1, 1, none⟩ (.int .i64 0)).setCell ⟨wv2.heap.size + 1, 2, none⟩ (.int .i64 0)).setCell ⟨wv2.heap.size + 1, 3, none⟩ (.int .i64 0)) (.cells #[.bool (zneg z), .slice a1 n1 c1] 39)))
  replace R5 := Lib.hid (R5.out.later (below_alloc ((((wv3.setCell ⟨wv2.heap.size + 1, 0, none⟩ (.int .i64 0)).setCell ⟨wv2.heap.size + 1, 1, none⟩ (.int .i64 0)).setCell ⟨wv2.heap.size + 1, 2, none⟩ (.int .i64 0)).setCell ⟨wv2.heap.size + 1, 3, none⟩ (.int .i64 0)) (.cells #[.bool (zneg z), .slice a1 n1 c1] 39)))
  obtain ⟨vk0, vk1, vk2, vk3, vk4, vk5, vk6, vk7, vk8⟩ := fcells_3_4_2 HR.out HF.out HM.out
  go_wp2_with fail
  refine (frac_new (zneg z) a1 n1 c1 _ a5 n5 c5 _ _ R1.out R5.out (by omega) (by omega)).mono ?_
  rintro e wv4 ⟨a6, n6, c6, b6, m6, d6, rfl, h6, g6, b⟩
  clear vk0 vk1 vk2 vk3 vk4 vk5 vk6 vk7 vk8
  replace HB := Lib.hid (below_then HB.out b)
  replace HR := Lib.hid (blk_later HR.out b)
  replace HF := Lib.hid (blk_later HF.out b)
  replace HM := Lib.hid (blk_later HM.out b)
  clear R1
  clear R5
  clear b
  rw [HQV.out] at h6 g6 ⊢
  rw [HOK.out]
  have R6 := Lib.hid h6
  have T6 := Lib.hid g6
  clear h6 g6
  clear x0 x1 x2 x3 x4 x5
  clear zq0 zq1 zq2 zq3 zf0 zf1 zf2 zf3
  unfold frV
  have HP : Hid ((World.alloc wv4 (.cells #[.bool (zneg q.num), .slice a6 n6 c6, .slice b6 m6 d6] 41)).heap[wv4.heap.size]? = some (.cells #[.bool (zneg q.num), .slice a6 n6 c6, .slice b6 m6 d6] 41 (0, 0))) := Lib.hid (blk_new wv4 _ _)
  replace HB := Lib.hid (below_then HB.out (below_alloc wv4 (.cells #[.bool (zneg q.num), .slice a6 n6 c6, .slice b6 m6 d6] 41)))
  replace HR := Lib.hid (blk_later HR.out (below_alloc wv4 (.cells #[.bool (zneg q.num), .slice a6 n6 c6, .slice b6 m6 d6] 41)))
  replace HF := Lib.hid (blk_later HF.out (below_alloc wv4 (.cells #[.bool (zneg q.num), .slice a6 n6 c6, .slice b6 m6 d6] 41)))
  replace HM := Lib.hid (blk_later HM.out (below_alloc wv4 (.cells #[.bool (zneg q.num), .slice a6 n6 c6, .slice b6 m6 d6] 41)))
  replace R6 := Lib.hid (R6.out.later (below_alloc wv4 (.cells #[.bool (zneg q.num), .slice a6 n6 c6, .slice b6 m6 d6] 41)))
  replace T6 := Lib.hid (T6.out.later (below_alloc wv4 (.cells #[.bool (zneg q.num), .slice a6 n6 c6, .slice b6 m6 d6] 41)))
  obtain ⟨x0, x1, x2⟩ := fcells_3 HP.out
  obtain ⟨r0, r1, r2⟩ := fcells_3 HR.out
  obtain ⟨s0, s1, s2, s3⟩ := fcells_4 HF.out
  have fr0 := blk_free HR.out 0
  have fr1 := blk_free HR.out 1
  have fr2 := blk_free HR.out 2
  have fs0 := blk_free HF.out 0
  have fs1 := blk_free HF.out 1
  have fs2 := blk_free HF.out 2
  have fs3 := blk_free HF.out 3
  have HN2 := Lib.hid (blk_far3 HF.out (show w.heap.size + 1 ≠ w.heap.size by omega) (.bool (zneg q.num)) (.slice a6 n6 c6) (.slice b6 m6 d6))
  have HG1 := Lib.hid (blk_apart4 (blk_set3 HR.out (.bool (zneg q.num)) (.slice a6 n6 c6) (.slice b6 m6 d6)) (show w.heap.size ≠ w.heap.size + 1 by omega) (.int .i64 0) (.int .i64 0) (.int .i64 0) (.int .i64 0))
  have HG2 := Lib.hid (blk_set4 HN2.out (.int .i64 0) (.int .i64 0) (.int .i64 0) (.int .i64 0))
  have HBz := Lib.hid (below_set4 (below_set3 HB.out (show w.heap.size ≤ w.heap.size from Nat.le_refl _) (.bool (zneg q.num)) (.slice a6 n6 c6) (.slice b6 m6 d6)) (show w.heap.size ≤ w.heap.size + 1 by omega) (.int .i64 0) (.int .i64 0) (.int .i64 0) (.int .i64 0))
  have HL1 := Lib.hid ((R6.out.stored3 HR.out (zneg q.num) a6 n6 c6 (.slice b6 m6 d6)).stored4 HN2.out 0 0 0 0)
  have HL2 := Lib.hid ((T6.out.stored3 HR.out (zneg q.num) a6 n6 c6 (.slice b6 m6 d6)).stored4 HN2.out 0 0 0 0)
  go_wp2
  refine bodyPost_ret (results_rows2 Tryz.results72 _ _ w.heap.size (w.heap.size + 1) 41 69 #[.bool (zneg q.num), .slice a6 n6 c6, .slice b6 m6 d6] #[.int .i64 0, .int .i64 0, .int .i64 0, .int .i64 0] (0, 0) (0, 0) _ _ rfl HG1.out Tryz.underlying41 rfl (by kernel_rfl) rfl HG2.out Tryz.underlying69 rfl (by kernel_rfl)) rfl ?_
  exact ⟨a6, n6, c6, b6, m6, d6, rfl, HL1.out, HL2.out, HBz.out⟩
set_option maxRecDepth 4096 in
set_option maxHeartbeats 4000000 in
theorem figure_read_none (l : List UInt8) (w : World) (hl : l.length ≤ 1000) (k j : Nat) (hc : cutAt l = k) (hlt : k < l.length) (hj : k + 1 = j) (hx : l.getD k 0 = 47) (z : Int) (v : Nat) (hv0 : v = 0) (hz : (dg z.natAbs).length ≤ 20) (hv : (dg v).length ≤ 20) (hR : ∀ w' : World, Calls Tryz.prog 106 #[.string (bs (l.take k))] w' (LstZV z (faultV 0 0 0 0) w')) (hD : ∀ w' : World, Calls Tryz.prog 107 #[.string (bs (l.drop j))] w' (Lst2 (dg v) (faultV 0 0 0 0) w')) : Calls Tryz.prog 72 #[.string (bs l)] w (LstQV ((0 : Int) : Rat) (faultV 2 0 0 (j : Int)) w) := by
  obtain ⟨hx1, hx2⟩ := boxes_at w ((w.alloc (.cells #[.bool false, .slice none 0 0, .slice none 0 0] 41)).alloc (.cells #[.int .i64 0, .int .i64 0, .int .i64 0, .int .i64 0] 69)) #[.bool false, .slice none 0 0, .slice none 0 0] #[.int .i64 0, .int .i64 0, .int .i64 0, .int .i64 0] 41 69 (Below.refl _ _)
  have HR := Lib.hid hx1
  have HF := Lib.hid hx2
  have HB : Hid (Below w.heap.size w ((w.alloc (.cells #[.bool false, .slice none 0 0, .slice none 0 0] 41)).alloc (.cells #[.int .i64 0, .int .i64 0, .int .i64 0, .int .i64 0] 69))) := Lib.hid (below_then (below_alloc _ _) (below_alloc _ _))
  clear hx1 hx2
  have HI : Hid (cutI l = (k : Int)) := Lib.hid (by rw [cutI_here (by omega), hc])
  have hs0 := bs_size l
  have e1 := bs_take l k
  have e2 := bs_drop l j
  have e3 := bs_mid hlt hx
  rw [hj] at e3
  have hl1 : (l.take k).length ≤ 1000 := by rw [List.length_take]; omega
  have hl2 : (l.drop j).length ≤ 1000 := by rw [List.length_drop]; omega
  have hk0 : ¬ (k : Int) < 0 := by omega
  have hkj : (k : Int) + 1 = (j : Int) := by omega
  have hkl : (k : Int) ≤ (l.length : Int) := by omega
  have hjl : (j : Int) ≤ (l.length : Int) := by omega
  have hkj2 : (k : Int) ≤ (j : Int) := by omega
  clear hc hlt hx
  have q1 : ((bs [47]).toList == [46]) = false := by rw [bs_list]; rfl
  have q2 : ((bs [47]).toList == (bs [46]).toList) = false := by rw [bs_list, bs_list]; rfl
  have HQV : Hid (qval (zneg z) (val (dg z.natAbs)) (val (dg v)) = mkRat z v) := Lib.hid (by rw [val_dg, val_dg]; unfold qval; rw [zval_of])
  have HOK : Hid (decide (val (dg v) ≠ 0) = false) := Lib.hid (by rw [val_dg]; exact decide_eq_false (fun h => h hv0))
  have HO : ∀ w' : World, Calls Tryz.prog 46 #[.int .i64 0] w' (LstQ ((0 : Int) : Rat) w') := fun w' => frac_of 0 w' isInt_nought
  generalize ((0 : Int) : Rat) = qz at *
  generalize mkRat z v = q at *
  clear hv0
  unfold faultV at hR hD ⊢
  go_enter Tryz.func72, Tryz.ntmps72
  obtain ⟨vk0, vk1, vk2, vk3, vk4, vk5, vk6⟩ := fcells_3_4 HR.out HF.out
  go_wp2_with fail
  refine (any_IndexAny l _ hl).mono ?_
  rintro e wv1 ⟨rfl, b⟩
  clear vk0 vk1 vk2 vk3 vk4 vk5 vk6
  replace HB := Lib.hid (below_then HB.out b)
  replace HR := Lib.hid (blk_later HR.out b)
  replace HF := Lib.hid (blk_later HF.out b)
  clear b
  rw [HI.out]
  obtain ⟨vk0, vk1, vk2, vk3, vk4, vk5, vk6⟩ := fcells_3_4 HR.out HF.out
  go_wp2_with fail
  refine (hR _).mono ?_
  rintro e wv2 ⟨a1, n1, c1, rfl, h1, b⟩
  clear vk0 vk1 vk2 vk3 vk4 vk5 vk6
  replace HB := Lib.hid (below_then HB.out b)
  replace HR := Lib.hid (blk_later HR.out b)
  replace HF := Lib.hid (blk_later HF.out b)
  clear b
  have ln1 := h1.len
  have R1 := Lib.hid h1
  clear h1
  unfold whV
  have hlt := blk_lt HF.out
  have HN : Hid ((World.alloc wv2 (.cells #[.bool (zneg z), .slice a1 n1 c1] 39)).heap[wv2.heap.size]? = some (.cells #[.bool (zneg z), .slice a1 n1 c1] 39 (0, 0))) := Lib.hid (blk_new wv2 _ _)
  replace HB := Lib.hid (below_then HB.out (below_alloc wv2 (.cells #[.bool (zneg z), .slice a1 n1 c1] 39)))
  replace HR := Lib.hid (blk_later HR.out (below_alloc wv2 (.cells #[.bool (zneg z), .slice a1 n1 c1] 39)))
  replace HF := Lib.hid (blk_later HF.out (below_alloc wv2 (.cells #[.bool (zneg z), .slice a1 n1 c1] 39)))
  replace R1 := Lib.hid (R1.out.later (below_alloc wv2 (.cells #[.bool (zneg z), .slice a1 n1 c1] 39)))
  have HG : Hid ((World.alloc (wv2.alloc (.cells #[.bool (zneg z), .slice a1 n1 c1] 39)) (.cells #[.int .i64 0, .int .i64 0, .int .i64 0, .int .i64 0] 69)).heap[wv2.heap.size + 1]? = some (.cells #[.int .i64 0, .int .i64 0, .int .i64 0, .int .i64 0] 69 (0, 0))) := Lib.hid (by have h := blk_new (wv2.alloc (.cells #[.bool (zneg z), .slice a1 n1 c1] 39)) #[.int .i64 0, .int .i64 0, .int .i64 0, .int .i64 0] 69; rw [blk_size] at h; exact h)
  replace HB := Lib.hid (below_then HB.out (below_alloc (wv2.alloc (.cells #[.bool (zneg z), .slice a1 n1 c1] 39)) (.cells #[.int .i64 0, .int .i64 0, .int .i64 0, .int .i64 0] 69)))
  replace HR := Lib.hid (blk_later HR.out (below_alloc (wv2.alloc (.cells #[.bool (zneg z), .slice a1 n1 c1] 39)) (.cells #[.int .i64 0, .int .i64 0, .int .i64 0, .int .i64 0] 69)))
  replace HF := Lib.hid (blk_later HF.out (below_alloc (wv2.alloc (.cells #[.bool (zneg z), .slice a1 n1 c1] 39)) (.cells #[.int .i64 0, .int .i64 0, .int .i64 0, .int .i64 0] 69)))
  replace HN := Lib.hid (blk_later HN.out (below_alloc (wv2.alloc (.cells #[.bool (zneg z), .slice a1 n1 c1] 39)) (.cells #[.int .i64 0, .int .i64 0, .int .i64 0, .int .i64 0] 69)))
  replace R1 := Lib.hid (R1.out.later (below_alloc (wv2.alloc (.cells #[.bool (zneg z), .slice a1 n1 c1] 39)) (.cells #[.int .i64 0, .int .i64 0, .int .i64 0, .int .i64 0] 69)))
  obtain ⟨vk0, vk1, vk2, vk3, vk4, vk5, vk6, vk7, vk8, vk9, vk10, vk11, vk12⟩ := fcells_3_4_2_4 HR.out HF.out HN.out HG.out
  go_wp2_with fail
  refine (hD _).mono ?_
  rintro e wv3 ⟨a5, n5, c5, rfl, h5, b⟩
  clear vk0 vk1 vk2 vk3 vk4 vk5 vk6 vk7 vk8 vk9 vk10 vk11 vk12
  replace HB := Lib.hid (below_then HB.out b)
  replace HR := Lib.hid (blk_later HR.out b)
  replace HF := Lib.hid (blk_later HF.out b)
  replace HN := Lib.hid (blk_later HN.out b)
  replace HG := Lib.hid (blk_later HG.out b)
  replace R1 := Lib.hid (R1.out.later b)
  clear b
  have ln5 := h5.len
  have R5 := Lib.hid h5
  clear h5
  obtain ⟨zq0, zq1, zq2, zq3⟩ := fcells_4 HG.out
  have zf0 := blk_free HG.out 0
  have zf1 := blk_free HG.out 1
  have zf2 := blk_free HG.out 2
  have zf3 := blk_free HG.out 3
  replace HR := Lib.hid (blk_apart4 HR.out (show w.heap.size ≠ wv2.heap.size + 1 by omega) (.int .i64 0) (.int .i64 0) (.int .i64 0) (.int .i64 0))
  replace HF := Lib.hid (blk_apart4 HF.out (show w.heap.size + 1 ≠ wv2.heap.size + 1 by omega) (.int .i64 0) (.int .i64 0) (.int .i64 0) (.int .i64 0))
  replace HN := Lib.hid (blk_apart4 HN.out (show wv2.heap.size ≠ wv2.heap.size + 1 by omega) (.int .i64 0) (.int .i64 0) (.int .i64 0) (.int .i64 0))
  replace R1 := Lib.hid (R1.out.stored4 HG.out 0 0 0 0)
  replace R5 := Lib.hid (R5.out.stored4 HG.out 0 0 0 0)
  replace HB := Lib.hid (below_set4 HB.out (show w.heap.size ≤ wv2.heap.size + 1 by omega) (.int .i64 0) (.int .i64 0) (.int .i64 0) (.int .i64 0))
  replace HG := Lib.hid (blk_set4 HG.out (.int .i64 0) (.int .i64 0) (.int .i64 0) (.int .i64 0))
  obtain ⟨x0, x1, x2, x3, x4, x5⟩ := fcells_2_4 HN.out HG.out
  have HM : Hid ((World.alloc ((((wv3.setCell ⟨wv2.heap.size + 1, 0, none⟩ (.int .i64 0)).setCell ⟨wv2.heap.size + 1, 1, none⟩ (.int .i64 0)).setCell ⟨wv2.heap.size + 1, 2, none⟩ (.int .i64 0)).setCell ⟨wv2.heap.size + 1, 3, none⟩ (.int .i64 0)) (.cells #[.bool (zneg z), .slice a1 n1 c1] 39)).heap[wv3.heap.size]? = some (.cells #[.bool (zneg z), .slice a1 n1 c1] 39 (0, 0))) := Lib.hid (new_behind _ _ (by simp))
  replace HB := Lib.hid (below_then HB.out (below_alloc ((((wv3.setCell ⟨wv2.heap.size + 1, 0, none⟩ (.int .i64 0)).setCell ⟨wv2.heap.size + 1, 1, none⟩ (.int .i64 0)).setCell ⟨wv2.heap.size + 1, 2, none⟩ (.int .i64 0)).setCell ⟨wv2.heap.size + 1, 3, none⟩ (.int .i64 0)) (.cells #[.bool (zneg z), .slice a1 n1 c1] 39)))
  replace HR := Lib.hid (blk_later HR.out (below_alloc ((((wv3.setCell ⟨wv2.heap.size + 1, 0, none⟩ (.int .i64 0)).setCell ⟨wv2.heap.size + 1, 1, none⟩ (.int .i64 0)).setCell ⟨wv2.heap.size + 1, 2, none⟩ (.int .i64 0)).setCell ⟨wv2.heap.size + 1, 3, none⟩ (.int .i64 0)) (.cells #[.bool (zneg z), .slice a1 n1 c1] 39)))
  replace HF := Lib.hid (blk_later HF.out (below_alloc ((((wv3.setCell ⟨wv2.heap.size + 1, 0, none⟩ (.int .i64 0)).setCell ⟨wv2.heap.size + 1, 1, none⟩ (.int .i64 0)).setCell ⟨wv2.heap.size + 1, 2, none⟩ (.int .i64 0)).setCell ⟨wv2.heap.size + 1, 3, none⟩ (.int .i64 0)) (.cells #[.bool (zneg z), .slice a1 n1 c1] 39)))
  replace HN := Lib.hid (blk_later HN.out (below_alloc ((((wv3.setCell ⟨wv2.heap.size + 1, 0, none⟩ (.int .i64 0)).setCell ⟨wv2.heap.size + 1, 1, none⟩ (.int .i64 0)).setCell ⟨wv2.heap.size + 1, 2, none⟩ (.int .i64 0)).setCell ⟨wv2.heap.size + 1, 3, none⟩ (.int .i64 0)) (.cells #[.bool (zneg z), .slice a1 n1 c1] 39)))
  replace HG := Lib.hid (blk_later HG.out (below_alloc ((((wv3.setCell ⟨wv2.heap.size + 1, 0, none⟩ (.int .i64 0)).setCell ⟨wv2.heap.size + 1, 1, none⟩ (.int .i64 0)).setCell ⟨wv2.heap.size + 1, 2, none⟩ (.int .i64 0)).setCell ⟨wv2.heap.size + 1, 3, none⟩ (.int .i64 0)) (.cells #[.bool (zneg z), .slice a1 n1 c1] 39)))
  replace R1 := Lib.hid (R1.out.later (below_alloc ((((wv3.setCell ⟨wv2.heap.size + 1, 0, none⟩ (.int .i64 0)).setCell ⟨wv2.heap.size + 1, 1, none⟩ (.int .i64 0)).setCell ⟨wv2.heap.size + 1, 2, none⟩ (.int .i64 0)).setCell ⟨wv2.heap.size + 1, 3, none⟩ (.int .i64 0)) (.cells #[.bool (zneg z), .slice a1 n1 c1] 39)))
  replace R5 := Lib.hid (R5.out.later (below_alloc ((((wv3.setCell ⟨wv2.heap.size + 1, 0, none⟩ (.int .i64 0)).setCell ⟨wv2.heap.size + 1, 1, none⟩ (.int .i64 0)).setCell ⟨wv2.heap.size + 1, 2, none⟩ (.int .i64 0)).setCell ⟨wv2.heap.size + 1, 3, none⟩ (.int .i64 0)) (.cells #[.bool (zneg z), .slice a1 n1 c1] 39)))
  obtain ⟨vk0, vk1, vk2, vk3, vk4, vk5, vk6, vk7, vk8⟩ := fcells_3_4_2 HR.out HF.out HM.out
  go_wp2_with fail
  refine (frac_new (zneg z) a1 n1 c1 _ a5 n5 c5 _ _ R1.out R5.out (by omega) (by omega)).mono ?_
  rintro e wv4 ⟨a6, n6, c6, b6, m6, d6, rfl, h6, g6, b⟩
  clear vk0 vk1 vk2 vk3 vk4 vk5 vk6 vk7 vk8
  replace HB := Lib.hid (below_then HB.out b)
  replace HR := Lib.hid (blk_later HR.out b)
  replace HF := Lib.hid (blk_later HF.out b)
  replace HM := Lib.hid (blk_later HM.out b)
  clear R1
  clear R5
  clear b
  rw [HQV.out] at h6 g6 ⊢
  rw [HOK.out]
  have R6 := Lib.hid h6
  have T6 := Lib.hid g6
  clear h6 g6
  clear x0 x1 x2 x3 x4 x5
  clear zq0 zq1 zq2 zq3 zf0 zf1 zf2 zf3
  unfold frV
  have HP : Hid ((World.alloc wv4 (.cells #[.bool (zneg q.num), .slice a6 n6 c6, .slice b6 m6 d6] 41)).heap[wv4.heap.size]? = some (.cells #[.bool (zneg q.num), .slice a6 n6 c6, .slice b6 m6 d6] 41 (0, 0))) := Lib.hid (blk_new wv4 _ _)
  replace HB := Lib.hid (below_then HB.out (below_alloc wv4 (.cells #[.bool (zneg q.num), .slice a6 n6 c6, .slice b6 m6 d6] 41)))
  replace HR := Lib.hid (blk_later HR.out (below_alloc wv4 (.cells #[.bool (zneg q.num), .slice a6 n6 c6, .slice b6 m6 d6] 41)))
  replace HF := Lib.hid (blk_later HF.out (below_alloc wv4 (.cells #[.bool (zneg q.num), .slice a6 n6 c6, .slice b6 m6 d6] 41)))
  replace HM := Lib.hid (blk_later HM.out (below_alloc wv4 (.cells #[.bool (zneg q.num), .slice a6 n6 c6, .slice b6 m6 d6] 41)))
  replace R6 := Lib.hid (R6.out.later (below_alloc wv4 (.cells #[.bool (zneg q.num), .slice a6 n6 c6, .slice b6 m6 d6] 41)))
  replace T6 := Lib.hid (T6.out.later (below_alloc wv4 (.cells #[.bool (zneg q.num), .slice a6 n6 c6, .slice b6 m6 d6] 41)))
  obtain ⟨vk0, vk1, vk2, vk3, vk4, vk5, vk6⟩ := fcells_3_4 HR.out HF.out
  go_wp2_with fail
  refine (HO _).mono ?_
  rintro e wv5 ⟨a9, n9, c9, b9, m9, d9, rfl, h9, g9, b⟩
  clear vk0 vk1 vk2 vk3 vk4 vk5 vk6
  replace HB := Lib.hid (below_then HB.out b)
  replace HR := Lib.hid (blk_later HR.out b)
  replace HF := Lib.hid (blk_later HF.out b)
  clear b
  have R9 := Lib.hid h9
  have T9 := Lib.hid g9
  clear h9 g9
  unfold frV
  obtain ⟨r0, r1, r2⟩ := fcells_3 HR.out
  obtain ⟨s0, s1, s2, s3⟩ := fcells_4 HF.out
  have fr0 := blk_free HR.out 0
  have fr1 := blk_free HR.out 1
  have fr2 := blk_free HR.out 2
  have fs0 := blk_free HF.out 0
  have fs1 := blk_free HF.out 1
  have fs2 := blk_free HF.out 2
  have fs3 := blk_free HF.out 3
  have HN2 := Lib.hid (blk_far3 HF.out (show w.heap.size + 1 ≠ w.heap.size by omega) (.bool (zneg qz.num)) (.slice a9 n9 c9) (.slice b9 m9 d9))
  have HG1 := Lib.hid (blk_apart4 (blk_set3 HR.out (.bool (zneg qz.num)) (.slice a9 n9 c9) (.slice b9 m9 d9)) (show w.heap.size ≠ w.heap.size + 1 by omega) (.int .i64 2) (.int .i64 0) (.int .i64 0) (.int .i64 (j : Int)))
  have HG2 := Lib.hid (blk_set4 HN2.out (.int .i64 2) (.int .i64 0) (.int .i64 0) (.int .i64 (j : Int)))
  have HBz := Lib.hid (below_set4 (below_set3 HB.out (show w.heap.size ≤ w.heap.size from Nat.le_refl _) (.bool (zneg qz.num)) (.slice a9 n9 c9) (.slice b9 m9 d9)) (show w.heap.size ≤ w.heap.size + 1 by omega) (.int .i64 2) (.int .i64 0) (.int .i64 0) (.int .i64 (j : Int)))
  have HL1 := Lib.hid ((R9.out.stored3 HR.out (zneg qz.num) a9 n9 c9 (.slice b9 m9 d9)).stored4 HN2.out 2 0 0 (j : Int))
  have HL2 := Lib.hid ((T9.out.stored3 HR.out (zneg qz.num) a9 n9 c9 (.slice b9 m9 d9)).stored4 HN2.out 2 0 0 (j : Int))
  go_wp2
  refine bodyPost_ret (results_rows2 Tryz.results72 _ _ w.heap.size (w.heap.size + 1) 41 69 #[.bool (zneg qz.num), .slice a9 n9 c9, .slice b9 m9 d9] #[.int .i64 2, .int .i64 0, .int .i64 0, .int .i64 (j : Int)] (0, 0) (0, 0) _ _ rfl HG1.out Tryz.underlying41 rfl (by kernel_rfl) rfl HG2.out Tryz.underlying69 rfl (by kernel_rfl)) rfl ?_
  exact ⟨a9, n9, c9, b9, m9, d9, rfl, HL1.out, HL2.out, HBz.out⟩
end Go.Proofs.YtjeigdlhjghinaaGreatDoor

/-
  Package figure at this seat: Read, a point in it.
-/
namespace Go.Proofs.YtjeigdlhjghinaaGreatDoor
open Go.RowKit

set_option maxRecDepth 4096 in
set_option maxHeartbeats 4000000 in
theorem figure_read_point (l : List UInt8) (w : World) (hl : l.length ≤ 1000) (k j : Nat) (hc : cutAt l = k) (hlt : k < l.length) (hj : k + 1 = j) (hx : l.getD k 0 = 46) (z : Int) (v e : Nat) (mb : Bool) (he : (l.drop j).length = e) (he60 : e ≤ 60) (hmb : minusAhead l = mb) (hz : (dg z.natAbs).length ≤ 20) (hv : (dg v).length ≤ 20) (hR : ∀ w' : World, Calls Tryz.prog 106 #[.string (bs (l.take k))] w' (LstZV z (faultV 0 0 0 0) w')) (hD : ∀ w' : World, Calls Tryz.prog 107 #[.string (bs (l.drop j))] w' (Lst2 (dg v) (faultV 0 0 0 0) w')) : Calls Tryz.prog 72 #[.string (bs l)] w (LstQV (mkRat (zval mb (z.natAbs * 10 ^ e + v)) (10 ^ e)) (faultV 0 0 0 0) w) := by
  rw [List.length_drop] at he
  obtain ⟨hx1, hx2⟩ := boxes_at w ((w.alloc (.cells #[.bool false, .slice none 0 0, .slice none 0 0] 41)).alloc (.cells #[.int .i64 0, .int .i64 0, .int .i64 0, .int .i64 0] 69)) #[.bool false, .slice none 0 0, .slice none 0 0] #[.int .i64 0, .int .i64 0, .int .i64 0, .int .i64 0] 41 69 (Below.refl _ _)
  have HR := Lib.hid hx1
  have HF := Lib.hid hx2
  have HB : Hid (Below w.heap.size w ((w.alloc (.cells #[.bool false, .slice none 0 0, .slice none 0 0] 41)).alloc (.cells #[.int .i64 0, .int .i64 0, .int .i64 0, .int .i64 0] 69))) := Lib.hid (below_then (below_alloc _ _) (below_alloc _ _))
  clear hx1 hx2
  have HI : Hid (cutI l = (k : Int)) := Lib.hid (by rw [cutI_here (by omega), hc])
  have hs0 := bs_size l
  have e1 := bs_take l k
  have e2 := bs_drop l j
  have e3 := bs_mid hlt hx
  rw [hj] at e3
  have hl1 : (l.take k).length ≤ 1000 := by rw [List.length_take]; omega
  have hl2 : (l.drop j).length ≤ 1000 := by rw [List.length_drop]; omega
  have hk0 : ¬ (k : Int) < 0 := by omega
  have hkj : (k : Int) + 1 = (j : Int) := by omega
  have hkl : (k : Int) ≤ (l.length : Int) := by omega
  have hjl : (j : Int) ≤ (l.length : Int) := by omega
  have hkj2 : (k : Int) ≤ (j : Int) := by omega
  clear hc hlt hx
  have q1 : ((bs [46]).toList == [46]) = true := by rw [bs_list]; rfl
  have q2 : ((bs [46]).toList == (bs [46]).toList) = true := by rw [bs_list]; rfl
  have hle : (l.length : Int) - (j : Int) = (e : Int) := by omega
  have HMB := Lib.hid hmb
  have HE1 : Hid (val (dg z.natAbs) * val (dg (10 ^ e)) = z.natAbs * 10 ^ e) := Lib.hid (by rw [val_dg, val_dg])
  have HE2 : Hid (val (dg (z.natAbs * 10 ^ e)) + val (dg v) = z.natAbs * 10 ^ e + v) := Lib.hid (by rw [val_dg, val_dg])
  have hu := val_lt (okw_dg z.natAbs)
  have hw := val_lt (okw_dg v)
  rw [val_dg] at hu hw
  have lU : (dg (z.natAbs * (10 ^ e * 2) + v)).length ≤ 20 + 9 := fig_room_len hu hw hz hv he60
  have hle2 : z.natAbs * 10 ^ e ≤ z.natAbs * (10 ^ e * 2) := Nat.mul_le_mul_left _ (by omega)
  have l7 : (dg (z.natAbs * 10 ^ e)).length ≤ 20 + 9 := Nat.le_trans (dg_length_mono (by omega)) lU
  have l8 : (dg (z.natAbs * 10 ^ e + v)).length ≤ 20 + 9 := Nat.le_trans (dg_length_mono (by omega)) lU
  have l6 : (dg (10 ^ e)).length ≤ 8 := dg_length_le (Nat.lt_of_le_of_lt (Nat.pow_le_pow_right (by decide) he60) (show 10 ^ 60 < 4294967296 ^ 8 by decide))
  have HQV : Hid (qval mb (val (dg (z.natAbs * 10 ^ e + v))) (val (dg (10 ^ e))) = mkRat (zval mb (z.natAbs * 10 ^ e + v)) (10 ^ e)) := Lib.hid (by rw [val_dg, val_dg]; rfl)
  have HOK : Hid (decide (val (dg (10 ^ e)) ≠ 0) = true) := Lib.hid (by rw [val_dg]; exact decide_eq_true (Nat.ne_of_gt (Nat.pow_pos (by decide))))
  have HPW : ∀ w' : World, Calls Tryz.prog 108 #[.int .i64 (e : Int)] w' (Lst (dg (10 ^ e)) w') := fun w' => figure_power e w' (by omega)
  generalize mkRat (zval mb (z.natAbs * 10 ^ e + v)) (10 ^ e) = q at *
  clear hmb hu hw lU hle2 he
  unfold faultV at hR hD ⊢
  go_enter Tryz.func72, Tryz.ntmps72
  obtain ⟨vk0, vk1, vk2, vk3, vk4, vk5, vk6⟩ := fcells_3_4 HR.out HF.out
  go_wp2_with fail
  refine (any_IndexAny l _ hl).mono ?_
  rintro e wv1 ⟨rfl, b⟩
  clear vk0 vk1 vk2 vk3 vk4 vk5 vk6
  replace HB := Lib.hid (below_then HB.out b)
  replace HR := Lib.hid (blk_later HR.out b)
  replace HF := Lib.hid (blk_later HF.out b)
  clear b
  rw [HI.out]
  obtain ⟨vk0, vk1, vk2, vk3, vk4, vk5, vk6⟩ := fcells_3_4 HR.out HF.out
  go_wp2_with fail
  refine (hR _).mono ?_
  rintro e wv2 ⟨a1, n1, c1, rfl, h1, b⟩
  clear vk0 vk1 vk2 vk3 vk4 vk5 vk6
  replace HB := Lib.hid (below_then HB.out b)
  replace HR := Lib.hid (blk_later HR.out b)
  replace HF := Lib.hid (blk_later HF.out b)
  clear b
  have ln1 := h1.len
  have R1 := Lib.hid h1
  clear h1
  unfold whV
  have hlt := blk_lt HF.out
  have HN : Hid ((World.alloc wv2 (.cells #[.bool (zneg z), .slice a1 n1 c1] 39)).heap[wv2.heap.size]? = some (.cells #[.bool (zneg z), .slice a1 n1 c1] 39 (0, 0))) := Lib.hid (blk_new wv2 _ _)
  replace HB := Lib.hid (below_then HB.out (below_alloc wv2 (.cells #[.bool (zneg z), .slice a1 n1 c1] 39)))
  replace HR := Lib.hid (blk_later HR.out (below_alloc wv2 (.cells #[.bool (zneg z), .slice a1 n1 c1] 39)))
  replace HF := Lib.hid (blk_later HF.out (below_alloc wv2 (.cells #[.bool (zneg z), .slice a1 n1 c1] 39)))
  replace R1 := Lib.hid (R1.out.later (below_alloc wv2 (.cells #[.bool (zneg z), .slice a1 n1 c1] 39)))
  have HG : Hid ((World.alloc (wv2.alloc (.cells #[.bool (zneg z), .slice a1 n1 c1] 39)) (.cells #[.int .i64 0, .int .i64 0, .int .i64 0, .int .i64 0] 69)).heap[wv2.heap.size + 1]? = some (.cells #[.int .i64 0, .int .i64 0, .int .i64 0, .int .i64 0] 69 (0, 0))) := Lib.hid (by have h := blk_new (wv2.alloc (.cells #[.bool (zneg z), .slice a1 n1 c1] 39)) #[.int .i64 0, .int .i64 0, .int .i64 0, .int .i64 0] 69; rw [blk_size] at h; exact h)
  replace HB := Lib.hid (below_then HB.out (below_alloc (wv2.alloc (.cells #[.bool (zneg z), .slice a1 n1 c1] 39)) (.cells #[.int .i64 0, .int .i64 0, .int .i64 0, .int .i64 0] 69)))
  replace HR := Lib.hid (blk_later HR.out (below_alloc (wv2.alloc (.cells #[.bool (zneg z), .slice a1 n1 c1] 39)) (.cells #[.int .i64 0, .int .i64 0, .int .i64 0, .int .i64 0] 69)))
  replace HF := Lib.hid (blk_later HF.out (below_alloc (wv2.alloc (.cells #[.bool (zneg z), .slice a1 n1 c1] 39)) (.cells #[.int .i64 0, .int .i64 0, .int .i64 0, .int .i64 0] 69)))
  replace HN := Lib.hid (blk_later HN.out (below_alloc (wv2.alloc (.cells #[.bool (zneg z), .slice a1 n1 c1] 39)) (.cells #[.int .i64 0, .int .i64 0, .int .i64 0, .int .i64 0] 69)))
  replace R1 := Lib.hid (R1.out.later (below_alloc (wv2.alloc (.cells #[.bool (zneg z), .slice a1 n1 c1] 39)) (.cells #[.int .i64 0, .int .i64 0, .int .i64 0, .int .i64 0] 69)))
  obtain ⟨vk0, vk1, vk2, vk3, vk4, vk5, vk6, vk7, vk8, vk9, vk10, vk11, vk12⟩ := fcells_3_4_2_4 HR.out HF.out HN.out HG.out
  go_wp2_with fail
  refine (hD _).mono ?_
  rintro e wv3 ⟨a5, n5, c5, rfl, h5, b⟩
  clear vk0 vk1 vk2 vk3 vk4 vk5 vk6 vk7 vk8 vk9 vk10 vk11 vk12
  replace HB := Lib.hid (below_then HB.out b)
  replace HR := Lib.hid (blk_later HR.out b)
  replace HF := Lib.hid (blk_later HF.out b)
  replace HN := Lib.hid (blk_later HN.out b)
  replace HG := Lib.hid (blk_later HG.out b)
  replace R1 := Lib.hid (R1.out.later b)
  clear b
  have ln5 := h5.len
  have R5 := Lib.hid h5
  clear h5
  have hlt3 := blk_lt HN.out
  obtain ⟨zq0, zq1, zq2, zq3⟩ := fcells_4 HG.out
  have zf0 := blk_free HG.out 0
  have zf1 := blk_free HG.out 1
  have zf2 := blk_free HG.out 2
  have zf3 := blk_free HG.out 3
  replace HR := Lib.hid (blk_apart4 HR.out (show w.heap.size ≠ wv2.heap.size + 1 by omega) (.int .i64 0) (.int .i64 0) (.int .i64 0) (.int .i64 0))
  replace HF := Lib.hid (blk_apart4 HF.out (show w.heap.size + 1 ≠ wv2.heap.size + 1 by omega) (.int .i64 0) (.int .i64 0) (.int .i64 0) (.int .i64 0))
  replace HN := Lib.hid (blk_apart4 HN.out (show wv2.heap.size ≠ wv2.heap.size + 1 by omega) (.int .i64 0) (.int .i64 0) (.int .i64 0) (.int .i64 0))
  replace R1 := Lib.hid (R1.out.stored4 HG.out 0 0 0 0)
  replace R5 := Lib.hid (R5.out.stored4 HG.out 0 0 0 0)
  replace HB := Lib.hid (below_set4 HB.out (show w.heap.size ≤ wv2.heap.size + 1 by omega) (.int .i64 0) (.int .i64 0) (.int .i64 0) (.int .i64 0))
  replace HG := Lib.hid (blk_set4 HG.out (.int .i64 0) (.int .i64 0) (.int .i64 0) (.int .i64 0))
  obtain ⟨x0, x1, x2, x3, x4, x5⟩ := fcells_2_4 HN.out HG.out
  have HM : Hid ((World.alloc ((((wv3.setCell ⟨wv2.heap.size + 1, 0, none⟩ (.int .i64 0)).setCell ⟨wv2.heap.size + 1, 1, none⟩ (.int .i64 0)).setCell ⟨wv2.heap.size + 1, 2, none⟩ (.int .i64 0)).setCell ⟨wv2.heap.size + 1, 3, none⟩ (.int .i64 0)) (.cells #[.bool (zneg z), .slice a1 n1 c1] 39)).heap[wv3.heap.size]? = some (.cells #[.bool (zneg z), .slice a1 n1 c1] 39 (0, 0))) := Lib.hid (new_behind _ _ (by simp))
  replace HB := Lib.hid (below_then HB.out (below_alloc ((((wv3.setCell ⟨wv2.heap.size + 1, 0, none⟩ (.int .i64 0)).setCell ⟨wv2.heap.size + 1, 1, none⟩ (.int .i64 0)).setCell ⟨wv2.heap.size + 1, 2, none⟩ (.int .i64 0)).setCell ⟨wv2.heap.size + 1, 3, none⟩ (.int .i64 0)) (.cells #[.bool (zneg z), .slice a1 n1 c1] 39)))
  replace HR := Lib.hid (blk_later HR.out (below_alloc ((((wv3.setCell ⟨wv2.heap.size + 1, 0, none⟩ (.int .i64 0)).setCell ⟨wv2.heap.size + 1, 1, none⟩ (.int .i64 0)).setCell ⟨wv2.heap.size + 1, 2, none⟩ (.int .i64 0)).setCell ⟨wv2.heap.size + 1, 3, none⟩ (.int .i64 0)) (.cells #[.bool (zneg z), .slice a1 n1 c1] 39)))
  replace HF := Lib.hid (blk_later HF.out (below_alloc ((((wv3.setCell ⟨wv2.heap.size + 1, 0, none⟩ (.int .i64 0)).setCell ⟨wv2.heap.size + 1, 1, none⟩ (.int .i64 0)).setCell ⟨wv2.heap.size + 1, 2, none⟩ (.int .i64 0)).setCell ⟨wv2.heap.size + 1, 3, none⟩ (.int .i64 0)) (.cells #[.bool (zneg z), .slice a1 n1 c1] 39)))
  replace HN := Lib.hid (blk_later HN.out (below_alloc ((((wv3.setCell ⟨wv2.heap.size + 1, 0, none⟩ (.int .i64 0)).setCell ⟨wv2.heap.size + 1, 1, none⟩ (.int .i64 0)).setCell ⟨wv2.heap.size + 1, 2, none⟩ (.int .i64 0)).setCell ⟨wv2.heap.size + 1, 3, none⟩ (.int .i64 0)) (.cells #[.bool (zneg z), .slice a1 n1 c1] 39)))
  replace HG := Lib.hid (blk_later HG.out (below_alloc ((((wv3.setCell ⟨wv2.heap.size + 1, 0, none⟩ (.int .i64 0)).setCell ⟨wv2.heap.size + 1, 1, none⟩ (.int .i64 0)).setCell ⟨wv2.heap.size + 1, 2, none⟩ (.int .i64 0)).setCell ⟨wv2.heap.size + 1, 3, none⟩ (.int .i64 0)) (.cells #[.bool (zneg z), .slice a1 n1 c1] 39)))
  replace R1 := Lib.hid (R1.out.later (below_alloc ((((wv3.setCell ⟨wv2.heap.size + 1, 0, none⟩ (.int .i64 0)).setCell ⟨wv2.heap.size + 1, 1, none⟩ (.int .i64 0)).setCell ⟨wv2.heap.size + 1, 2, none⟩ (.int .i64 0)).setCell ⟨wv2.heap.size + 1, 3, none⟩ (.int .i64 0)) (.cells #[.bool (zneg z), .slice a1 n1 c1] 39)))
  replace R5 := Lib.hid (R5.out.later (below_alloc ((((wv3.setCell ⟨wv2.heap.size + 1, 0, none⟩ (.int .i64 0)).setCell ⟨wv2.heap.size + 1, 1, none⟩ (.int .i64 0)).setCell ⟨wv2.heap.size + 1, 2, none⟩ (.int .i64 0)).setCell ⟨wv2.heap.size + 1, 3, none⟩ (.int .i64 0)) (.cells #[.bool (zneg z), .slice a1 n1 c1] 39)))
  obtain ⟨vk0, vk1, vk2, vk3, vk4, vk5, vk6, vk7, vk8, vk9, vk10⟩ := fcells_3_4_2_2 HR.out HF.out HN.out HM.out
  go_wp2_with fail
  refine (HPW _).mono ?_
  rintro e wv4 ⟨a6, n6, c6, rfl, h6, b⟩
  clear vk0 vk1 vk2 vk3 vk4 vk5 vk6 vk7 vk8 vk9 vk10
  replace HB := Lib.hid (below_then HB.out b)
  replace HR := Lib.hid (blk_later HR.out b)
  replace HF := Lib.hid (blk_later HF.out b)
  replace HN := Lib.hid (blk_later HN.out b)
  replace HM := Lib.hid (blk_later HM.out b)
  replace R1 := Lib.hid (R1.out.later b)
  replace R5 := Lib.hid (R5.out.later b)
  clear b
  have ln6 := h6.len
  have R6 := Lib.hid h6
  clear h6
  clear x0 x1 x2 x3 x4 x5
  clear zq0 zq1 zq2 zq3 zf0 zf1 zf2 zf3
  go_wp2
  replace HB := Lib.hid (below_then HB.out ((Below.refl _ _).drew : Below wv4.heap.size wv4 wv4.drew))
  replace HN : Hid (wv4.drew.heap[wv2.heap.size]? = _) := Lib.hid HN.out
  replace HR : Hid (wv4.drew.heap[w.heap.size]? = some (.cells #[.bool false, .slice none 0 0, .slice none 0 0] 41 (0, 0))) := Lib.hid HR.out
  replace HF : Hid (wv4.drew.heap[w.heap.size + 1]? = some (.cells #[.int .i64 0, .int .i64 0, .int .i64 0, .int .i64 0] 69 (0, 0))) := Lib.hid HF.out
  replace HM : Hid (wv4.drew.heap[wv3.heap.size]? = some (.cells #[.bool (zneg z), .slice a1 n1 c1] 39 (0, 0))) := Lib.hid HM.out
  replace R1 := Lib.hid (R1.out.later ((Below.refl _ _).drew : Below wv4.heap.size wv4 wv4.drew))
  replace R5 := Lib.hid (R5.out.later ((Below.refl _ _).drew : Below wv4.heap.size wv4 wv4.drew))
  replace R6 := Lib.hid (R6.out.later ((Below.refl _ _).drew : Below wv4.heap.size wv4 wv4.drew))
  have pSn := fcells_2 HN.out
  go_region_held3 (fun w' => w'.cell? ⟨wv2.heap.size, 0, none⟩ = some (.bool (zneg z)) ∧ w'.cell? ⟨wv2.heap.size, 1, none⟩ = some (.slice a1 n1 c1)) (first | with_reducible exact pSn | exact pSa _ | with_reducible exact pSb.out)
    (first
    | (go_at_call 109; (first
      | (refine (fig_minus l _).mono ?_; rintro e w' ⟨rfl, rfl⟩; rw [HMB.out]; have pM1 := True.intro)))
    | (go_at_call 81; (first
      | (have pm1 := pM1; refine (prod_mul a1 n1 c1 _ a6 n6 c6 _ _ R1.out R6.out (by omega) (by omega)).mono ?_; rintro e wp2 ⟨a7, n7, c7, rfl, h7, b⟩; replace HB := Lib.hid (below_then HB.out b); replace HN := Lib.hid (blk_later HN.out b); replace HR := Lib.hid (blk_later HR.out b); replace HF := Lib.hid (blk_later HF.out b); replace HM := Lib.hid (blk_later HM.out b); replace R1 := Lib.hid (R1.out.later b); replace R5 := Lib.hid (R5.out.later b); replace R6 := Lib.hid (R6.out.later b); rw [HE1.out] at h7; have R7 := Lib.hid h7; have ln7 := h7.len; clear h7; have pSa := fun o => fcells_2 (blk_later HN.out (below_alloc wp2 o)); clear b; clear pSn; have pSn := fcells_2 HN.out; clear pM1 pm1; have pM2 := True.intro)))
    | (go_at_call 110; (first
      | (have pm2 := pM2; refine (fig_add2 a7 n7 c7 _ a5 n5 c5 _ _ _ rfl R7.out R5.out (by omega) (by omega)).mono ?_; rintro e wp3 ⟨a8, n8, c8, rfl, h8, b⟩; replace HB := Lib.hid (below_then HB.out b); replace HN := Lib.hid (blk_later HN.out b); replace HR := Lib.hid (blk_later HR.out b); replace HF := Lib.hid (blk_later HF.out b); replace HM := Lib.hid (blk_later HM.out b); replace R1 := Lib.hid (R1.out.later b); replace R5 := Lib.hid (R5.out.later b); replace R6 := Lib.hid (R6.out.later b); replace R7 := Lib.hid (R7.out.later b); rw [HE2.out] at h8; have R8 := Lib.hid h8; have ln8 := h8.len; clear h8; obtain ⟨t0, t1⟩ := fcells_2 HM.out; have ft0 := blk_free HM.out 0; have ft1 := blk_free HM.out 1; have pSb := Lib.hid (fcells_2 (blk_far2 (g := wv3.heap.size) HN.out (by omega) (.bool mb) (.slice a8 n8 c8))); clear b; clear pSn; have pSn := fcells_2 HN.out; clear pM2 pm2; have pM3 := True.intro))))
  replace R8 := Lib.hid (R8.out.stored2 HM.out mb (.slice a8 n8 c8))
  replace R6 := Lib.hid (R6.out.stored2 HM.out mb (.slice a8 n8 c8))
  replace HR := Lib.hid (blk_far2 HR.out (show w.heap.size ≠ wv3.heap.size by omega) (.bool mb) (.slice a8 n8 c8))
  replace HF := Lib.hid (blk_far2 HF.out (show w.heap.size + 1 ≠ wv3.heap.size by omega) (.bool mb) (.slice a8 n8 c8))
  replace HB := Lib.hid (below_set2 HB.out (show w.heap.size ≤ wv3.heap.size by omega) (.bool mb) (.slice a8 n8 c8))
  replace HM := Lib.hid (blk_set2 HM.out (.bool mb) (.slice a8 n8 c8))
  clear R1 R5 R7
  obtain ⟨uk0, uk1, uk2, uk3, uk4, uk5, uk6, uk7, uk8⟩ := fcells_3_4_2 HR.out HF.out HM.out
  go_wp2_with fail
  refine (frac_new mb a8 n8 c8 _ a6 n6 c6 _ _ R8.out R6.out (by omega) (by omega)).mono ?_
  rintro e wu1 ⟨a9, n9, c9, b9, m9, d9, rfl, h9, g9, b⟩
  clear uk0 uk1 uk2 uk3 uk4 uk5 uk6 uk7 uk8
  replace HB := Lib.hid (below_then HB.out b)
  replace HR := Lib.hid (blk_later HR.out b)
  replace HF := Lib.hid (blk_later HF.out b)
  replace HM := Lib.hid (blk_later HM.out b)
  clear R8
  clear R6
  clear b
  rw [HQV.out] at h9 g9 ⊢
  rw [HOK.out]
  have R9 := Lib.hid h9
  have T9 := Lib.hid g9
  clear h9 g9
  clear t0 t1 ft0 ft1
  unfold frV
  have HP : Hid ((World.alloc wu1 (.cells #[.bool (zneg q.num), .slice a9 n9 c9, .slice b9 m9 d9] 41)).heap[wu1.heap.size]? = some (.cells #[.bool (zneg q.num), .slice a9 n9 c9, .slice b9 m9 d9] 41 (0, 0))) := Lib.hid (blk_new wu1 _ _)
  replace HB := Lib.hid (below_then HB.out (below_alloc wu1 (.cells #[.bool (zneg q.num), .slice a9 n9 c9, .slice b9 m9 d9] 41)))
  replace HR := Lib.hid (blk_later HR.out (below_alloc wu1 (.cells #[.bool (zneg q.num), .slice a9 n9 c9, .slice b9 m9 d9] 41)))
  replace HF := Lib.hid (blk_later HF.out (below_alloc wu1 (.cells #[.bool (zneg q.num), .slice a9 n9 c9, .slice b9 m9 d9] 41)))
  replace HM := Lib.hid (blk_later HM.out (below_alloc wu1 (.cells #[.bool (zneg q.num), .slice a9 n9 c9, .slice b9 m9 d9] 41)))
  replace R9 := Lib.hid (R9.out.later (below_alloc wu1 (.cells #[.bool (zneg q.num), .slice a9 n9 c9, .slice b9 m9 d9] 41)))
  replace T9 := Lib.hid (T9.out.later (below_alloc wu1 (.cells #[.bool (zneg q.num), .slice a9 n9 c9, .slice b9 m9 d9] 41)))
  obtain ⟨x0, x1, x2⟩ := fcells_3 HP.out
  obtain ⟨r0, r1, r2⟩ := fcells_3 HR.out
  obtain ⟨s0, s1, s2, s3⟩ := fcells_4 HF.out
  have fr0 := blk_free HR.out 0
  have fr1 := blk_free HR.out 1
  have fr2 := blk_free HR.out 2
  have fs0 := blk_free HF.out 0
  have fs1 := blk_free HF.out 1
  have fs2 := blk_free HF.out 2
  have fs3 := blk_free HF.out 3
  have HN2 := Lib.hid (blk_far3 HF.out (show w.heap.size + 1 ≠ w.heap.size by omega) (.bool (zneg q.num)) (.slice a9 n9 c9) (.slice b9 m9 d9))
  have HG1 := Lib.hid (blk_apart4 (blk_set3 HR.out (.bool (zneg q.num)) (.slice a9 n9 c9) (.slice b9 m9 d9)) (show w.heap.size ≠ w.heap.size + 1 by omega) (.int .i64 0) (.int .i64 0) (.int .i64 0) (.int .i64 0))
  have HG2 := Lib.hid (blk_set4 HN2.out (.int .i64 0) (.int .i64 0) (.int .i64 0) (.int .i64 0))
  have HBz := Lib.hid (below_set4 (below_set3 HB.out (show w.heap.size ≤ w.heap.size from Nat.le_refl _) (.bool (zneg q.num)) (.slice a9 n9 c9) (.slice b9 m9 d9)) (show w.heap.size ≤ w.heap.size + 1 by omega) (.int .i64 0) (.int .i64 0) (.int .i64 0) (.int .i64 0))
  have HL1 := Lib.hid ((R9.out.stored3 HR.out (zneg q.num) a9 n9 c9 (.slice b9 m9 d9)).stored4 HN2.out 0 0 0 0)
  have HL2 := Lib.hid ((T9.out.stored3 HR.out (zneg q.num) a9 n9 c9 (.slice b9 m9 d9)).stored4 HN2.out 0 0 0 0)
  go_wp2
  refine bodyPost_ret (results_rows2 Tryz.results72 _ _ w.heap.size (w.heap.size + 1) 41 69 #[.bool (zneg q.num), .slice a9 n9 c9, .slice b9 m9 d9] #[.int .i64 0, .int .i64 0, .int .i64 0, .int .i64 0] (0, 0) (0, 0) _ _ rfl HG1.out Tryz.underlying41 rfl (by kernel_rfl) rfl HG2.out Tryz.underlying69 rfl (by kernel_rfl)) rfl ?_
  exact ⟨a9, n9, c9, b9, m9, d9, rfl, HL1.out, HL2.out, HBz.out⟩
end Go.Proofs.YtjeigdlhjghinaaGreatDoor

/-
  What package figure's functions owe, proved.
-/
namespace Go.Proofs.YtjeigdlhjghinaaGreatDoor
open Go.RowKit

theorem minus_first {l : List UInt8} (h : l ≠ []) : minusAhead l = decide ((l.getD 0 0).toNat = 45) := by
  cases l with
  | nil => exact absurd rfl h
  | cons x r => rfl
theorem figure_read (l : List UInt8) (w : World) (hl : l.length ≤ 1000) : Calls Tryz.prog 72 #[.string (bs l)] w (LstQV (figVal l) (faultV (figKind l) 0 0 (figPlace l)) w) := by
  have hcl := cutAt_le l
  by_cases hc : cutAt l = l.length
  · have hf : fhead l = l := by unfold fhead; rw [hc, List.take_length]
    by_cases hz : zwrong (fhead l) < 0
    · obtain ⟨e1, e2, e3⟩ := fig_end_whole hz hc
      rw [e1, e2, e3, hf]
      rw [hf] at hz
      exact figure_read_plain l w hl hc (zread l) 0 0 (fun w' => whole_read_ok digitsSaid l w' hl (Lib.hid hz))
    · obtain ⟨e1, e2, e3⟩ := fig_end_bad (show 0 ≤ zwrong (fhead l) by omega)
      rw [e1, e2, e3, hf]
      rw [hf] at hz
      exact figure_read_plain l w hl hc 0 1 (zwrong l) (fun w' => whole_read_no digitsSaid l w' hl (Lib.hid (by omega)))
  · have hlt : cutAt l < l.length := by omega
    have hf : fhead l = l.take (cutAt l) := rfl
    have hr : frest l = l.drop (cutAt l + 1) := rfl
    have hl1 : (l.take (cutAt l)).length ≤ 1000 := by rw [List.length_take]; omega
    have hl2 : (l.drop (cutAt l + 1)).length ≤ 1000 := by rw [List.length_drop]; omega
    by_cases hz : zwrong (fhead l) < 0
    · have hR : ∀ w' : World, Calls Tryz.prog 106 #[.string (bs (l.take (cutAt l)))] w' (LstZV (zread (fhead l)) (faultV 0 0 0 0) w') := fun w' => whole_read_ok digitsSaid _ w' hl1 (Lib.hid hz)
      have hzl := zread_short hz
      by_cases hw : wrongI (frest l) < 0
      · obtain ⟨hvl, he60, hdg⟩ := readV_short hw
        have hD : ∀ w' : World, Calls Tryz.prog 107 #[.string (bs (l.drop (cutAt l + 1)))] w' (Lst2 (dg (readV (frest l))) (faultV 0 0 0 0) w') := fun w' => digits_read_ok _ w' hl2 (Lib.hid hw)
        by_cases hx : fbyte l = 46
        · obtain ⟨e1, e2, e3⟩ := fig_end_point hz hlt hw hx
          rw [e1, e2, e3, ← minus_first (show l ≠ [] from fun e => by rw [e] at hlt; simp at hlt)]
          exact figure_read_point l w hl (cutAt l) (cutAt l + 1) rfl hlt rfl (UInt8.toNat_inj.1 hx) (zread (fhead l)) (readV (frest l)) _ _ rfl he60 rfl hzl hvl hR hD
        · have hx47 : l.getD (cutAt l) 0 = 47 := UInt8.toNat_inj.1 ((cut_byte hlt).resolve_right hx)
          by_cases hv : readV (frest l) = 0
          · obtain ⟨e1, e2, e3⟩ := fig_end_none hz hlt hw hx hv
            rw [e1, e2, e3]
            exact figure_read_none l w hl (cutAt l) (cutAt l + 1) rfl hlt rfl hx47 (zread (fhead l)) (readV (frest l)) hv hzl hvl hR hD
          · obtain ⟨e1, e2, e3⟩ := fig_end_slash hz hlt hw hx hv
            rw [e1, e2, e3]
            exact figure_read_slash l w hl (cutAt l) (cutAt l + 1) rfl hlt rfl hx47 (zread (fhead l)) (readV (frest l)) hv hzl hvl hR hD
      · obtain ⟨e1, e2, e3⟩ := fig_end_rest hz hlt (show 0 ≤ wrongI (frest l) by omega)
        have hwl := wrongI_len (frest l)
        rw [e1, e2, e3]
        exact figure_read_tail l w hl (cutAt l) (cutAt l + 1) _ rfl hlt rfl rfl (zread (fhead l)) (wrongI (frest l)) _ (by omega) (by rw [hr] at hwl ⊢; omega) (by omega) hR (fun w' => digits_read_no _ w' hl2 (Lib.hid (show 0 ≤ wrongI (frest l) by omega)))
    · obtain ⟨e1, e2, e3⟩ := fig_end_bad (show 0 ≤ zwrong (fhead l) by omega)
      rw [e1, e2, e3]
      exact figure_read_head l w hl (cutAt l) (cutAt l + 1) _ rfl hlt rfl rfl 0 (zwrong (fhead l)) (fun w' => whole_read_no digitsSaid _ w' hl1 (Lib.hid (show 0 ≤ zwrong (fhead l) by omega)))
theorem figureSaid : FigureSaid where
  text := fun v q w h hT => by
    obtain ⟨neg, a, n, cap, la, b, m, cap', lb, rfl, ha, hb, hn, hm, rfl⟩ := h
    exact figure_text neg a n cap la b m cap' lb w ha hb (by omega) (by omega) hT
  read := fun l w hl => figure_read l w hl
end Go.Proofs.YtjeigdlhjghinaaGreatDoor
