/-
  Several texts of this claim as one, group 21.
-/
import Derived.Test.YteoeicfbaffjcaaGreatDoorG20
import Derived.Deep.RegionHeld3
import Derived.Test.YteoeicfbaffjcaaGreatDoorG17
import Derived.Test.YteoeicfbaffjcaaGreatDoorG19
import Derived.Deep.CutRange
/-
  The contract of the document's answer for layer 10: Read: what stands behind is wrong, or behind a /.
-/
namespace Go.Proofs.YteoeicfbaffjcaaGreatDoor
open Go.RowKit

set_option maxRecDepth 4096 in
set_option maxHeartbeats 8000000 in
theorem ref10_tail_47 (l : List UInt8) (w : World) (hl : l.length ≤ 1000) (K : Nat) (hc : cutAt l = K) (hlt : K < l.length) (hx : (l.getD K 0).toNat = 47) (z p pl : Int) (hp : 0 ≤ p) (hp1 : p ≤ 1000) (hpp : ((K + 1 : Nat) : Int) + p = pl) (hR : ∀ w' : World, Calls Tryz.prog 55 #[.string (bs (l.take K))] w' (ReadZ z (-1) w')) (hW : ∀ w' : World, Calls Tryz.prog 57 #[.string (bs (l.drop (K + 1)))] w' (fun e w'' => e = .returned (.int .i64 p) ∧ w' = w''))  : Calls Tryz.prog 16 #[.string (bs l)] w (LstQVV ((0 : Int) : Rat) (.int .i64 1) (.int .i64 pl) w) := by
  have hs0 := bs_size l
  have HR := Lib.hid (blk_new w #[.bool false, .slice none 0 0, .slice none 0 0] 24)
  have HB := Lib.hid (below_alloc w (.cells #[.bool false, .slice none 0 0, .slice none 0 0] 24))
  have e1 := bs_take l K
  obtain ⟨j, hj⟩ : ∃ j, K + 1 = j := ⟨_, rfl⟩
  rw [hj] at hW hpp
  have e2 := bs_drop l j
  have hkj : (K : Int) + 1 = (j : Int) := by omega
  have hjl : (j : Int) ≤ (l.length : Int) := by omega
  have hne : ((K : Int) == (l.length : Int)) = false := by simp; omega
  have hki : (K : Int) < (l.length : Int) := by omega
  have HC := Lib.hid hc
  have hkc : K ≤ l.length := by have := cutAt_le l; omega
  clear hc hj
  have hgetk := bs_get l K hlt (by rw [bs_size]; exact hlt)
  rw [hx] at hgetk
  have HO : ∀ w' : World, Calls Tryz.prog 56 #[.int .i64 0] w' (LstQ ((0 : Int) : Rat) w') := fun w' => ref09_int 0 w' isInt_nought
  generalize ((0 : Int) : Rat) = q at *
  clear hx
  go_enter Tryz.func16, Tryz.ntmps16
  go_wp2
  generalize (w.alloc (.cells #[.bool false, .slice none 0 0, .slice none 0 0] 24)) = W at *
  go_loopw [5] (fun iv wr => ∃ k : Nat, iv = .int .i64 (k : Int) ∧ k ≤ K ∧ wr = W) (fun iv _ => K - (intOf iv).toNat)
  case atStart => exact ⟨0, by go_num, by omega, rfl⟩
  case round =>
    obtain ⟨k, rfl, hk, rfl⟩ := hrel
    by_cases hlt : k < K
    · have hki2 : (k : Int) < (l.length : Int) := by omega
      have hget := bs_get l k (by omega) (by rw [bs_size]; omega)
      have hx := cutAt_not (l := l) (k := k) (by rw [HC.out]; exact hlt) (by omega)
      obtain ⟨x, hxx⟩ : ∃ x, (l.getD k 0).toNat = x := ⟨_, rfl⟩
      rw [hxx] at hget hx
      have e47 : ((x : Int) != 47) = true := by simp; omega
      have e46 : ((x : Int) != 46) = true := by simp; omega
      clear hxx hx
      go_wp2
      go_roundw
      case rel => exact ⟨k + 1, by go_num, by omega, trivial⟩
      case measure => simp [intOf]; omega
    · obtain rfl : k = K := by omega
      clear hlt hk
      obtain ⟨vk0, vk1, vk2⟩ := fcells_3 HR.out
      go_wp2_with fail
      refine (hR _).mono ?_
      rintro e wv1 ⟨a1, n1, c1, rfl, h1, b⟩
      clear vk0 vk1 vk2
      replace HB := Lib.hid (below_then HB.out b)
      replace HR := Lib.hid (blk_later HR.out b)
      clear b
      have ln1 := h1.len
      have R1 := Lib.hid h1
      clear h1
      unfold whV
      have hlt9 := blk_lt HR.out
      have HN : Hid ((World.alloc wv1 (.cells #[.bool (zneg z), .slice a1 n1 c1] 63)).heap[wv1.heap.size]? = some (.cells #[.bool (zneg z), .slice a1 n1 c1] 63 (0, 0))) := Lib.hid (blk_new wv1 _ _)
      replace HB := Lib.hid (below_then HB.out (below_alloc wv1 (.cells #[.bool (zneg z), .slice a1 n1 c1] 63)))
      replace HR := Lib.hid (blk_later HR.out (below_alloc wv1 (.cells #[.bool (zneg z), .slice a1 n1 c1] 63)))
      replace R1 := Lib.hid (R1.out.later (below_alloc wv1 (.cells #[.bool (zneg z), .slice a1 n1 c1] 63)))
      obtain ⟨vk0, vk1, vk2⟩ := fcells_3 HR.out
      go_wp2_with fail
      refine (hW _).mono ?_
      rintro e w' ⟨rfl, rfl⟩
      clear vk0 vk1 vk2
      obtain ⟨vk0, vk1, vk2⟩ := fcells_3 HR.out
      go_wp2_with fail
      refine (HO _).mono ?_
      rintro e wv3 ⟨a2, n2, c2, b2, m2, d2, rfl, h2, g2, b⟩
      clear vk0 vk1 vk2
      replace HB := Lib.hid (below_then HB.out b)
      replace HR := Lib.hid (blk_later HR.out b)
      clear b
      have R2 := Lib.hid h2
      have T2 := Lib.hid g2
      clear h2 g2
      unfold frV
      have q0 := blk_cell HR.out 0
      have q1 := blk_cell HR.out 1
      have q2 := blk_cell HR.out 2
      simp only [List.getElem?_toArray, List.getElem?_cons_zero, List.getElem?_cons_succ] at q0 q1 q2
      have f0 := blk_free HR.out 0
      have f1 := blk_free HR.out 1
      have f2 := blk_free HR.out 2
      replace R2 := Lib.hid (R2.out.stored3 HR.out ((zneg q.num)) a2 n2 c2 (.slice b2 m2 d2))
      replace T2 := Lib.hid (T2.out.stored3 HR.out ((zneg q.num)) a2 n2 c2 (.slice b2 m2 d2))
      replace HB := Lib.hid (below_set3 HB.out (show w.heap.size ≤ w.heap.size by omega) (.bool (zneg q.num)) (.slice a2 n2 c2) (.slice b2 m2 d2))
      replace HR := Lib.hid (blk_set3 HR.out (.bool (zneg q.num)) (.slice a2 n2 c2) (.slice b2 m2 d2))
      go_wp2
      refine bodyPost_ret (results_row_tmps Tryz.results16 _ _ (w.heap.size) 24 #[.bool (zneg q.num), .slice a2 n2 c2, .slice b2 m2 d2] (0, 0) _ rfl HR.out Tryz.underlying24 rfl (by kernel_rfl)) rfl ?_
      exact ⟨a2, n2, c2, b2, m2, d2, rfl, R2.out, T2.out, HB.out⟩
set_option maxRecDepth 4096 in
set_option maxHeartbeats 8000000 in
theorem ref10_tail_46 (l : List UInt8) (w : World) (hl : l.length ≤ 1000) (K : Nat) (hc : cutAt l = K) (hlt : K < l.length) (hx : (l.getD K 0).toNat = 46) (z p pl : Int) (hp : 0 ≤ p) (hp1 : p ≤ 1000) (hpp : ((K + 1 : Nat) : Int) + p = pl) (hR : ∀ w' : World, Calls Tryz.prog 55 #[.string (bs (l.take K))] w' (ReadZ z (-1) w')) (hW : ∀ w' : World, Calls Tryz.prog 57 #[.string (bs (l.drop (K + 1)))] w' (fun e w'' => e = .returned (.int .i64 p) ∧ w' = w''))  : Calls Tryz.prog 16 #[.string (bs l)] w (LstQVV ((0 : Int) : Rat) (.int .i64 1) (.int .i64 pl) w) := by
  have hs0 := bs_size l
  have HR := Lib.hid (blk_new w #[.bool false, .slice none 0 0, .slice none 0 0] 24)
  have HB := Lib.hid (below_alloc w (.cells #[.bool false, .slice none 0 0, .slice none 0 0] 24))
  have e1 := bs_take l K
  obtain ⟨j, hj⟩ : ∃ j, K + 1 = j := ⟨_, rfl⟩
  rw [hj] at hW hpp
  have e2 := bs_drop l j
  have hkj : (K : Int) + 1 = (j : Int) := by omega
  have hjl : (j : Int) ≤ (l.length : Int) := by omega
  have hne : ((K : Int) == (l.length : Int)) = false := by simp; omega
  have hki : (K : Int) < (l.length : Int) := by omega
  have HC := Lib.hid hc
  have hkc : K ≤ l.length := by have := cutAt_le l; omega
  clear hc hj
  have hgetk := bs_get l K hlt (by rw [bs_size]; exact hlt)
  rw [hx] at hgetk
  have HO : ∀ w' : World, Calls Tryz.prog 56 #[.int .i64 0] w' (LstQ ((0 : Int) : Rat) w') := fun w' => ref09_int 0 w' isInt_nought
  generalize ((0 : Int) : Rat) = q at *
  clear hx
  go_enter Tryz.func16, Tryz.ntmps16
  go_wp2
  generalize (w.alloc (.cells #[.bool false, .slice none 0 0, .slice none 0 0] 24)) = W at *
  go_loopw [5] (fun iv wr => ∃ k : Nat, iv = .int .i64 (k : Int) ∧ k ≤ K ∧ wr = W) (fun iv _ => K - (intOf iv).toNat)
  case atStart => exact ⟨0, by go_num, by omega, rfl⟩
  case round =>
    obtain ⟨k, rfl, hk, rfl⟩ := hrel
    by_cases hlt : k < K
    · have hki2 : (k : Int) < (l.length : Int) := by omega
      have hget := bs_get l k (by omega) (by rw [bs_size]; omega)
      have hx := cutAt_not (l := l) (k := k) (by rw [HC.out]; exact hlt) (by omega)
      obtain ⟨x, hxx⟩ : ∃ x, (l.getD k 0).toNat = x := ⟨_, rfl⟩
      rw [hxx] at hget hx
      have e47 : ((x : Int) != 47) = true := by simp; omega
      have e46 : ((x : Int) != 46) = true := by simp; omega
      clear hxx hx
      go_wp2
      go_roundw
      case rel => exact ⟨k + 1, by go_num, by omega, trivial⟩
      case measure => simp [intOf]; omega
    · obtain rfl : k = K := by omega
      clear hlt hk
      obtain ⟨vk0, vk1, vk2⟩ := fcells_3 HR.out
      go_wp2_with fail
      refine (hR _).mono ?_
      rintro e wv1 ⟨a1, n1, c1, rfl, h1, b⟩
      clear vk0 vk1 vk2
      replace HB := Lib.hid (below_then HB.out b)
      replace HR := Lib.hid (blk_later HR.out b)
      clear b
      have ln1 := h1.len
      have R1 := Lib.hid h1
      clear h1
      unfold whV
      have hlt9 := blk_lt HR.out
      have HN : Hid ((World.alloc wv1 (.cells #[.bool (zneg z), .slice a1 n1 c1] 63)).heap[wv1.heap.size]? = some (.cells #[.bool (zneg z), .slice a1 n1 c1] 63 (0, 0))) := Lib.hid (blk_new wv1 _ _)
      replace HB := Lib.hid (below_then HB.out (below_alloc wv1 (.cells #[.bool (zneg z), .slice a1 n1 c1] 63)))
      replace HR := Lib.hid (blk_later HR.out (below_alloc wv1 (.cells #[.bool (zneg z), .slice a1 n1 c1] 63)))
      replace R1 := Lib.hid (R1.out.later (below_alloc wv1 (.cells #[.bool (zneg z), .slice a1 n1 c1] 63)))
      obtain ⟨vk0, vk1, vk2⟩ := fcells_3 HR.out
      go_wp2_with fail
      refine (hW _).mono ?_
      rintro e w' ⟨rfl, rfl⟩
      clear vk0 vk1 vk2
      obtain ⟨vk0, vk1, vk2⟩ := fcells_3 HR.out
      go_wp2_with fail
      refine (HO _).mono ?_
      rintro e wv3 ⟨a2, n2, c2, b2, m2, d2, rfl, h2, g2, b⟩
      clear vk0 vk1 vk2
      replace HB := Lib.hid (below_then HB.out b)
      replace HR := Lib.hid (blk_later HR.out b)
      clear b
      have R2 := Lib.hid h2
      have T2 := Lib.hid g2
      clear h2 g2
      unfold frV
      have q0 := blk_cell HR.out 0
      have q1 := blk_cell HR.out 1
      have q2 := blk_cell HR.out 2
      simp only [List.getElem?_toArray, List.getElem?_cons_zero, List.getElem?_cons_succ] at q0 q1 q2
      have f0 := blk_free HR.out 0
      have f1 := blk_free HR.out 1
      have f2 := blk_free HR.out 2
      replace R2 := Lib.hid (R2.out.stored3 HR.out ((zneg q.num)) a2 n2 c2 (.slice b2 m2 d2))
      replace T2 := Lib.hid (T2.out.stored3 HR.out ((zneg q.num)) a2 n2 c2 (.slice b2 m2 d2))
      replace HB := Lib.hid (below_set3 HB.out (show w.heap.size ≤ w.heap.size by omega) (.bool (zneg q.num)) (.slice a2 n2 c2) (.slice b2 m2 d2))
      replace HR := Lib.hid (blk_set3 HR.out (.bool (zneg q.num)) (.slice a2 n2 c2) (.slice b2 m2 d2))
      go_wp2
      refine bodyPost_ret (results_row_tmps Tryz.results16 _ _ (w.heap.size) 24 #[.bool (zneg q.num), .slice a2 n2 c2, .slice b2 m2 d2] (0, 0) _ rfl HR.out Tryz.underlying24 rfl (by kernel_rfl)) rfl ?_
      exact ⟨a2, n2, c2, b2, m2, d2, rfl, R2.out, T2.out, HB.out⟩
set_option maxRecDepth 4096 in
set_option maxHeartbeats 8000000 in
theorem ref10_none (l : List UInt8) (w : World) (hl : l.length ≤ 1000) (K : Nat) (hc : cutAt l = K) (hlt : K < l.length) (hx : (l.getD K 0).toNat = 47) (z p : Int) (v : Nat) (hv0 : v = 0) (hp : p < 0) (hR : ∀ w' : World, Calls Tryz.prog 55 #[.string (bs (l.take K))] w' (ReadZ z (-1) w')) (hW : ∀ w' : World, Calls Tryz.prog 57 #[.string (bs (l.drop (K + 1)))] w' (fun e w'' => e = .returned (.int .i64 p) ∧ w' = w'')) (hD : ∀ w' : World, Calls Tryz.prog 58 #[.string (bs (l.drop (K + 1)))] w' (Lst (dg v) w'))  : Calls Tryz.prog 16 #[.string (bs l)] w (LstQVV ((0 : Int) : Rat) (.int .i64 2) (.int .i64 ((K + 1 : Nat) : Int)) w) := by
  have hs0 := bs_size l
  have HR := Lib.hid (blk_new w #[.bool false, .slice none 0 0, .slice none 0 0] 24)
  have HB := Lib.hid (below_alloc w (.cells #[.bool false, .slice none 0 0, .slice none 0 0] 24))
  have e1 := bs_take l K
  obtain ⟨j, hj⟩ : ∃ j, K + 1 = j := ⟨_, rfl⟩
  rw [hj] at hW hD
  rw [hj]
  have e2 := bs_drop l j
  have hkj : (K : Int) + 1 = (j : Int) := by omega
  have hjl : (j : Int) ≤ (l.length : Int) := by omega
  have hne : ((K : Int) == (l.length : Int)) = false := by simp; omega
  have hki : (K : Int) < (l.length : Int) := by omega
  have HC := Lib.hid hc
  have hkc : K ≤ l.length := by have := cutAt_le l; omega
  clear hc hj
  have hgetk := bs_get l K hlt (by rw [bs_size]; exact hlt)
  rw [hx] at hgetk
  have HO : ∀ w' : World, Calls Tryz.prog 56 #[.int .i64 0] w' (LstQ ((0 : Int) : Rat) w') := fun w' => ref09_int 0 w' isInt_nought
  generalize ((0 : Int) : Rat) = qz at *
  have HV0 := Lib.hid hv0
  clear hx hv0
  go_enter Tryz.func16, Tryz.ntmps16
  go_wp2
  generalize (w.alloc (.cells #[.bool false, .slice none 0 0, .slice none 0 0] 24)) = W at *
  go_loopw [5] (fun iv wr => ∃ k : Nat, iv = .int .i64 (k : Int) ∧ k ≤ K ∧ wr = W) (fun iv _ => K - (intOf iv).toNat)
  case atStart => exact ⟨0, by go_num, by omega, rfl⟩
  case round =>
    obtain ⟨k, rfl, hk, rfl⟩ := hrel
    by_cases hlt : k < K
    · have hki2 : (k : Int) < (l.length : Int) := by omega
      have hget := bs_get l k (by omega) (by rw [bs_size]; omega)
      have hx := cutAt_not (l := l) (k := k) (by rw [HC.out]; exact hlt) (by omega)
      obtain ⟨x, hxx⟩ : ∃ x, (l.getD k 0).toNat = x := ⟨_, rfl⟩
      rw [hxx] at hget hx
      have e47 : ((x : Int) != 47) = true := by simp; omega
      have e46 : ((x : Int) != 46) = true := by simp; omega
      clear hxx hx
      go_wp2
      go_roundw
      case rel => exact ⟨k + 1, by go_num, by omega, trivial⟩
      case measure => simp [intOf]; omega
    · obtain rfl : k = K := by omega
      clear hlt hk
      obtain ⟨vk0, vk1, vk2⟩ := fcells_3 HR.out
      go_wp2_with fail
      refine (hR _).mono ?_
      rintro e wv1 ⟨a1, n1, c1, rfl, h1, b⟩
      clear vk0 vk1 vk2
      replace HB := Lib.hid (below_then HB.out b)
      replace HR := Lib.hid (blk_later HR.out b)
      clear b
      have ln1 := h1.len
      have R1 := Lib.hid h1
      clear h1
      unfold whV
      have hlt9 := blk_lt HR.out
      have HN : Hid ((World.alloc wv1 (.cells #[.bool (zneg z), .slice a1 n1 c1] 63)).heap[wv1.heap.size]? = some (.cells #[.bool (zneg z), .slice a1 n1 c1] 63 (0, 0))) := Lib.hid (blk_new wv1 _ _)
      replace HB := Lib.hid (below_then HB.out (below_alloc wv1 (.cells #[.bool (zneg z), .slice a1 n1 c1] 63)))
      replace HR := Lib.hid (blk_later HR.out (below_alloc wv1 (.cells #[.bool (zneg z), .slice a1 n1 c1] 63)))
      replace R1 := Lib.hid (R1.out.later (below_alloc wv1 (.cells #[.bool (zneg z), .slice a1 n1 c1] 63)))
      obtain ⟨vk0, vk1, vk2, vk3, vk4⟩ := fcells_3_2 HR.out HN.out
      go_wp2_with fail
      refine (hW _).mono ?_
      rintro e w' ⟨rfl, rfl⟩
      clear vk0 vk1 vk2 vk3 vk4
      obtain ⟨vk0, vk1, vk2, vk3, vk4⟩ := fcells_3_2 HR.out HN.out
      go_wp2_with fail
      refine (hD _).mono ?_
      rintro e wv3 ⟨a5, n5, c5, rfl, h5, b⟩
      clear vk0 vk1 vk2 vk3 vk4
      replace HB := Lib.hid (below_then HB.out b)
      replace HR := Lib.hid (blk_later HR.out b)
      replace HN := Lib.hid (blk_later HN.out b)
      replace R1 := Lib.hid (R1.out.later b)
      clear b
      have ln5 := h5.len
      have hn5 : ((n5 : Int) == 0) = true := by
          have h9 : n5 = 0 := by rw [← ln5, HV0.out, dg_zero]; rfl
          simp [h9]
      have R5 := Lib.hid h5
      clear h5
      obtain ⟨vk0, vk1, vk2⟩ := fcells_3 HR.out
      go_wp2_with fail
      refine (HO _).mono ?_
      rintro e wv4 ⟨a2, n2, c2, b2, m2, d2, rfl, h2, g2, b⟩
      clear vk0 vk1 vk2
      replace HB := Lib.hid (below_then HB.out b)
      replace HR := Lib.hid (blk_later HR.out b)
      clear b
      have R2 := Lib.hid h2
      have T2 := Lib.hid g2
      clear h2 g2
      unfold frV
      have q0 := blk_cell HR.out 0
      have q1 := blk_cell HR.out 1
      have q2 := blk_cell HR.out 2
      simp only [List.getElem?_toArray, List.getElem?_cons_zero, List.getElem?_cons_succ] at q0 q1 q2
      have f0 := blk_free HR.out 0
      have f1 := blk_free HR.out 1
      have f2 := blk_free HR.out 2
      replace R2 := Lib.hid (R2.out.stored3 HR.out ((zneg qz.num)) a2 n2 c2 (.slice b2 m2 d2))
      replace T2 := Lib.hid (T2.out.stored3 HR.out ((zneg qz.num)) a2 n2 c2 (.slice b2 m2 d2))
      replace HB := Lib.hid (below_set3 HB.out (show w.heap.size ≤ w.heap.size by omega) (.bool (zneg qz.num)) (.slice a2 n2 c2) (.slice b2 m2 d2))
      replace HR := Lib.hid (blk_set3 HR.out (.bool (zneg qz.num)) (.slice a2 n2 c2) (.slice b2 m2 d2))
      go_wp2
      refine bodyPost_ret (results_row_tmps Tryz.results16 _ _ (w.heap.size) 24 #[.bool (zneg qz.num), .slice a2 n2 c2, .slice b2 m2 d2] (0, 0) _ rfl HR.out Tryz.underlying24 rfl (by kernel_rfl)) rfl ?_
      exact ⟨a2, n2, c2, b2, m2, d2, rfl, R2.out, T2.out, HB.out⟩
set_option maxRecDepth 4096 in
set_option maxHeartbeats 8000000 in
theorem ref10_slash (l : List UInt8) (w : World) (hl : l.length ≤ 1000) (K : Nat) (hc : cutAt l = K) (hlt : K < l.length) (hx : (l.getD K 0).toNat = 47) (z p : Int) (v : Nat) (hv0 : v ≠ 0) (hz : (dg z.natAbs).length ≤ 20) (hp : p < 0) (hR : ∀ w' : World, Calls Tryz.prog 55 #[.string (bs (l.take K))] w' (ReadZ z (-1) w')) (hW : ∀ w' : World, Calls Tryz.prog 57 #[.string (bs (l.drop (K + 1)))] w' (fun e w'' => e = .returned (.int .i64 p) ∧ w' = w'')) (hv : (dg v).length ≤ 20) (hD : ∀ w' : World, Calls Tryz.prog 58 #[.string (bs (l.drop (K + 1)))] w' (Lst (dg v) w'))  : Calls Tryz.prog 16 #[.string (bs l)] w (LstQVV (mkRat z v) (.int .i64 0) (.int .i64 0) w) := by
  have hs0 := bs_size l
  have HR := Lib.hid (blk_new w #[.bool false, .slice none 0 0, .slice none 0 0] 24)
  have HB := Lib.hid (below_alloc w (.cells #[.bool false, .slice none 0 0, .slice none 0 0] 24))
  have e1 := bs_take l K
  obtain ⟨j, hj⟩ : ∃ j, K + 1 = j := ⟨_, rfl⟩
  rw [hj] at hW hD
  have e2 := bs_drop l j
  have hkj : (K : Int) + 1 = (j : Int) := by omega
  have hjl : (j : Int) ≤ (l.length : Int) := by omega
  have hne : ((K : Int) == (l.length : Int)) = false := by simp; omega
  have hki : (K : Int) < (l.length : Int) := by omega
  have HC := Lib.hid hc
  have hkc : K ≤ l.length := by have := cutAt_le l; omega
  clear hc hj
  have hgetk := bs_get l K hlt (by rw [bs_size]; exact hlt)
  rw [hx] at hgetk
  have HO : ∀ w' : World, Calls Tryz.prog 56 #[.int .i64 0] w' (LstQ ((0 : Int) : Rat) w') := fun w' => ref09_int 0 w' isInt_nought
  generalize ((0 : Int) : Rat) = qz at *
  have HV0 := Lib.hid hv0
  clear hx hv0
  have HQV : Hid (qval (zneg z) (val (dg z.natAbs)) (val (dg v)) = mkRat z v) := Lib.hid (by rw [val_dg, val_dg]; unfold qval; rw [zval_of])
  generalize mkRat z v = q at *
  go_enter Tryz.func16, Tryz.ntmps16
  go_wp2
  generalize (w.alloc (.cells #[.bool false, .slice none 0 0, .slice none 0 0] 24)) = W at *
  go_loopw [5] (fun iv wr => ∃ k : Nat, iv = .int .i64 (k : Int) ∧ k ≤ K ∧ wr = W) (fun iv _ => K - (intOf iv).toNat)
  case atStart => exact ⟨0, by go_num, by omega, rfl⟩
  case round =>
    obtain ⟨k, rfl, hk, rfl⟩ := hrel
    by_cases hlt : k < K
    · have hki2 : (k : Int) < (l.length : Int) := by omega
      have hget := bs_get l k (by omega) (by rw [bs_size]; omega)
      have hx := cutAt_not (l := l) (k := k) (by rw [HC.out]; exact hlt) (by omega)
      obtain ⟨x, hxx⟩ : ∃ x, (l.getD k 0).toNat = x := ⟨_, rfl⟩
      rw [hxx] at hget hx
      have e47 : ((x : Int) != 47) = true := by simp; omega
      have e46 : ((x : Int) != 46) = true := by simp; omega
      clear hxx hx
      go_wp2
      go_roundw
      case rel => exact ⟨k + 1, by go_num, by omega, trivial⟩
      case measure => simp [intOf]; omega
    · obtain rfl : k = K := by omega
      clear hlt hk
      obtain ⟨vk0, vk1, vk2⟩ := fcells_3 HR.out
      go_wp2_with fail
      refine (hR _).mono ?_
      rintro e wv1 ⟨a1, n1, c1, rfl, h1, b⟩
      clear vk0 vk1 vk2
      replace HB := Lib.hid (below_then HB.out b)
      replace HR := Lib.hid (blk_later HR.out b)
      clear b
      have ln1 := h1.len
      have R1 := Lib.hid h1
      clear h1
      unfold whV
      have hlt9 := blk_lt HR.out
      have HN : Hid ((World.alloc wv1 (.cells #[.bool (zneg z), .slice a1 n1 c1] 63)).heap[wv1.heap.size]? = some (.cells #[.bool (zneg z), .slice a1 n1 c1] 63 (0, 0))) := Lib.hid (blk_new wv1 _ _)
      replace HB := Lib.hid (below_then HB.out (below_alloc wv1 (.cells #[.bool (zneg z), .slice a1 n1 c1] 63)))
      replace HR := Lib.hid (blk_later HR.out (below_alloc wv1 (.cells #[.bool (zneg z), .slice a1 n1 c1] 63)))
      replace R1 := Lib.hid (R1.out.later (below_alloc wv1 (.cells #[.bool (zneg z), .slice a1 n1 c1] 63)))
      obtain ⟨vk0, vk1, vk2, vk3, vk4⟩ := fcells_3_2 HR.out HN.out
      go_wp2_with fail
      refine (hW _).mono ?_
      rintro e w' ⟨rfl, rfl⟩
      clear vk0 vk1 vk2 vk3 vk4
      obtain ⟨vk0, vk1, vk2, vk3, vk4⟩ := fcells_3_2 HR.out HN.out
      go_wp2_with fail
      refine (hD _).mono ?_
      rintro e wv3 ⟨a5, n5, c5, rfl, h5, b⟩
      clear vk0 vk1 vk2 vk3 vk4
      replace HB := Lib.hid (below_then HB.out b)
      replace HR := Lib.hid (blk_later HR.out b)
      replace HN := Lib.hid (blk_later HN.out b)
      replace R1 := Lib.hid (R1.out.later b)
      clear b
      have ln5 := h5.len
      have hn5 : ((n5 : Int) == 0) = false := by
          have h9 : n5 ≠ 0 := fun e => HV0.out (dg_nil_iff.1 (ln5.trans e))
          simp [h9]
      have R5 := Lib.hid h5
      clear h5
      obtain ⟨vk0, vk1, vk2, vk3, vk4⟩ := fcells_3_2 HR.out HN.out
      go_wp2_with fail
      refine (ref09_norm (zneg z) a1 n1 c1 _ a5 n5 c5 _ _ R1.out R5.out (by omega) (by omega)).mono ?_
      rintro e wv4 ⟨a6, n6, c6, b6, m6, d6, rfl, h6, g6, b⟩
      clear vk0 vk1 vk2 vk3 vk4
      replace HB := Lib.hid (below_then HB.out b)
      replace HR := Lib.hid (blk_later HR.out b)
      replace HN := Lib.hid (blk_later HN.out b)
      clear R1
      clear R5
      clear b
      rw [HQV.out] at h6 g6 ⊢
      have R6 := Lib.hid h6
      have T6 := Lib.hid g6
      clear h6 g6
      unfold frV
      have q0 := blk_cell HR.out 0
      have q1 := blk_cell HR.out 1
      have q2 := blk_cell HR.out 2
      simp only [List.getElem?_toArray, List.getElem?_cons_zero, List.getElem?_cons_succ] at q0 q1 q2
      have f0 := blk_free HR.out 0
      have f1 := blk_free HR.out 1
      have f2 := blk_free HR.out 2
      replace R6 := Lib.hid (R6.out.stored3 HR.out ((zneg q.num)) a6 n6 c6 (.slice b6 m6 d6))
      replace T6 := Lib.hid (T6.out.stored3 HR.out ((zneg q.num)) a6 n6 c6 (.slice b6 m6 d6))
      replace HB := Lib.hid (below_set3 HB.out (show w.heap.size ≤ w.heap.size by omega) (.bool (zneg q.num)) (.slice a6 n6 c6) (.slice b6 m6 d6))
      replace HR := Lib.hid (blk_set3 HR.out (.bool (zneg q.num)) (.slice a6 n6 c6) (.slice b6 m6 d6))
      go_wp2
      refine bodyPost_ret (results_row_tmps Tryz.results16 _ _ (w.heap.size) 24 #[.bool (zneg q.num), .slice a6 n6 c6, .slice b6 m6 d6] (0, 0) _ rfl HR.out Tryz.underlying24 rfl (by kernel_rfl)) rfl ?_
      exact ⟨a6, n6, c6, b6, m6, d6, rfl, R6.out, T6.out, HB.out⟩
end Go.Proofs.YteoeicfbaffjcaaGreatDoor

/-
  The contract of the document's answer for layer 10: Read: behind a point.
-/
namespace Go.Proofs.YteoeicfbaffjcaaGreatDoor
open Go.RowKit

set_option maxRecDepth 4096 in
set_option maxHeartbeats 8000000 in
theorem ref10_point (l : List UInt8) (w : World) (hl : l.length ≤ 1000) (K : Nat) (hc : cutAt l = K) (hlt : K < l.length) (hx : (l.getD K 0).toNat = 46) (z p : Int) (v e : Nat) (mb : Bool) (he : (l.drop (K + 1)).length = e) (he60 : e ≤ 60) (hmb : decide ((l.getD 0 0).toNat = 45) = mb) (hz : (dg z.natAbs).length ≤ 20) (hp : p < 0) (hR : ∀ w' : World, Calls Tryz.prog 55 #[.string (bs (l.take K))] w' (ReadZ z (-1) w')) (hW : ∀ w' : World, Calls Tryz.prog 57 #[.string (bs (l.drop (K + 1)))] w' (fun e w'' => e = .returned (.int .i64 p) ∧ w' = w'')) (hv : (dg v).length ≤ 20) (hD : ∀ w' : World, Calls Tryz.prog 58 #[.string (bs (l.drop (K + 1)))] w' (Lst (dg v) w'))  : Calls Tryz.prog 16 #[.string (bs l)] w (LstQVV (mkRat (zval mb (z.natAbs * 10 ^ e + v)) (10 ^ e)) (.int .i64 0) (.int .i64 0) w) := by
  have hs0 := bs_size l
  have HR := Lib.hid (blk_new w #[.bool false, .slice none 0 0, .slice none 0 0] 24)
  have HB := Lib.hid (below_alloc w (.cells #[.bool false, .slice none 0 0, .slice none 0 0] 24))
  have e1 := bs_take l K
  obtain ⟨j, hj⟩ : ∃ j, K + 1 = j := ⟨_, rfl⟩
  rw [hj] at hW hD he
  have e2 := bs_drop l j
  have hkj : (K : Int) + 1 = (j : Int) := by omega
  have hjl : (j : Int) ≤ (l.length : Int) := by omega
  have hne : ((K : Int) == (l.length : Int)) = false := by simp; omega
  have hki : (K : Int) < (l.length : Int) := by omega
  have HC := Lib.hid hc
  have hkc : K ≤ l.length := by have := cutAt_le l; omega
  clear hc hj
  have hgetk := bs_get l K hlt (by rw [bs_size]; exact hlt)
  rw [hx] at hgetk
  have hs5 := bs_size (l.drop j)
  rw [he] at hs5
  obtain ⟨x0, hx0⟩ : ∃ x0, (l.getD 0 0).toNat = x0 := ⟨_, rfl⟩
  have hget0 := bs_get l 0 (by omega) (by rw [bs_size]; omega)
  rw [hx0] at hget0 hmb
  have hm0 : ((x0 : Int) == 45) = mb := by
    rw [← hmb]
    by_cases h : x0 = 45
    · rw [h]; rfl
    · rw [decide_eq_false h]; simp; omega
  have hl0 : (0 : Int) < (l.length : Int) := by omega
  have HE1 : Hid (val (dg z.natAbs) * val (dg (10 ^ e)) = z.natAbs * 10 ^ e) := Lib.hid (by rw [val_dg, val_dg])
  have HE2 : Hid (val (dg (z.natAbs * 10 ^ e)) + val (dg v) = z.natAbs * 10 ^ e + v) := Lib.hid (by rw [val_dg, val_dg])
  have hu := val_lt (okw_dg z.natAbs)
  have hw := val_lt (okw_dg v)
  rw [val_dg] at hu hw
  have lU : (dg (z.natAbs * (10 ^ e * 2) + v)).length ≤ 20 + 9 := fig_room_len hu hw hz hv he60
  have hle2 : z.natAbs * 10 ^ e ≤ z.natAbs * (10 ^ e * 2) := Nat.mul_le_mul_left _ (by omega)
  have l7 : (dg (z.natAbs * 10 ^ e)).length ≤ 20 + 9 := Nat.le_trans (dg_length_mono (by omega)) lU
  have l8 : (dg (z.natAbs * 10 ^ e + v)).length ≤ 20 + 9 := Nat.le_trans (dg_length_mono (by omega)) lU
  have l6 : (dg (10 ^ e)).length ≤ 8 := dg_length_le (Nat.lt_of_le_of_lt (Nat.pow_le_pow_right (by decide) he60) (show 10 ^ 60 < 4294967296 ^ 8 by decide))
  have HQV : Hid (qval mb (val (dg (z.natAbs * 10 ^ e + v))) (val (dg (10 ^ e))) = mkRat (zval mb (z.natAbs * 10 ^ e + v)) (10 ^ e)) := Lib.hid (by rw [val_dg, val_dg]; rfl)
  have HT : ∀ w' : World, Calls Tryz.prog 44 #[.int .i64 (e : Int)] w' (Lst (dg (10 ^ e)) w') := fun w' => ref10_tens e w' (by omega)
  generalize mkRat (zval mb (z.natAbs * 10 ^ e + v)) (10 ^ e) = q at *
  clear hx hmb hx0 hu hw lU hle2 he
  go_enter Tryz.func16, Tryz.ntmps16
  go_wp2
  generalize (w.alloc (.cells #[.bool false, .slice none 0 0, .slice none 0 0] 24)) = W at *
  go_loopw [5] (fun iv wr => ∃ k : Nat, iv = .int .i64 (k : Int) ∧ k ≤ K ∧ wr = W) (fun iv _ => K - (intOf iv).toNat)
  case atStart => exact ⟨0, by go_num, by omega, rfl⟩
  case round =>
    obtain ⟨k, rfl, hk, rfl⟩ := hrel
    by_cases hlt : k < K
    · have hki2 : (k : Int) < (l.length : Int) := by omega
      have hget := bs_get l k (by omega) (by rw [bs_size]; omega)
      have hx := cutAt_not (l := l) (k := k) (by rw [HC.out]; exact hlt) (by omega)
      obtain ⟨x, hxx⟩ : ∃ x, (l.getD k 0).toNat = x := ⟨_, rfl⟩
      rw [hxx] at hget hx
      have e47 : ((x : Int) != 47) = true := by simp; omega
      have e46 : ((x : Int) != 46) = true := by simp; omega
      clear hxx hx
      go_wp2
      go_roundw
      case rel => exact ⟨k + 1, by go_num, by omega, trivial⟩
      case measure => simp [intOf]; omega
    · obtain rfl : k = K := by omega
      clear hlt hk
      obtain ⟨vk0, vk1, vk2⟩ := fcells_3 HR.out
      go_wp2_with fail
      refine (hR _).mono ?_
      rintro e wv1 ⟨a1, n1, c1, rfl, h1, b⟩
      clear vk0 vk1 vk2
      replace HB := Lib.hid (below_then HB.out b)
      replace HR := Lib.hid (blk_later HR.out b)
      clear b
      have ln1 := h1.len
      have R1 := Lib.hid h1
      clear h1
      unfold whV
      have hlt9 := blk_lt HR.out
      have HN : Hid ((World.alloc wv1 (.cells #[.bool (zneg z), .slice a1 n1 c1] 63)).heap[wv1.heap.size]? = some (.cells #[.bool (zneg z), .slice a1 n1 c1] 63 (0, 0))) := Lib.hid (blk_new wv1 _ _)
      replace HB := Lib.hid (below_then HB.out (below_alloc wv1 (.cells #[.bool (zneg z), .slice a1 n1 c1] 63)))
      replace HR := Lib.hid (blk_later HR.out (below_alloc wv1 (.cells #[.bool (zneg z), .slice a1 n1 c1] 63)))
      replace R1 := Lib.hid (R1.out.later (below_alloc wv1 (.cells #[.bool (zneg z), .slice a1 n1 c1] 63)))
      obtain ⟨vk0, vk1, vk2, vk3, vk4⟩ := fcells_3_2 HR.out HN.out
      go_wp2_with fail
      refine (hW _).mono ?_
      rintro e w' ⟨rfl, rfl⟩
      clear vk0 vk1 vk2 vk3 vk4
      obtain ⟨vk0, vk1, vk2, vk3, vk4⟩ := fcells_3_2 HR.out HN.out
      go_wp2_with fail
      refine (hD _).mono ?_
      rintro e wv3 ⟨a5, n5, c5, rfl, h5, b⟩
      clear vk0 vk1 vk2 vk3 vk4
      replace HB := Lib.hid (below_then HB.out b)
      replace HR := Lib.hid (blk_later HR.out b)
      replace HN := Lib.hid (blk_later HN.out b)
      replace R1 := Lib.hid (R1.out.later b)
      clear b
      have ln5 := h5.len
      have R5 := Lib.hid h5
      clear h5
      go_wp2
      replace HB := Lib.hid (below_then HB.out ((Below.refl _ _).drew : Below wv3.heap.size wv3 wv3.drew))
      replace HN : Hid (wv3.drew.heap[wv1.heap.size]? = _) := Lib.hid HN.out
      replace HR : Hid (wv3.drew.heap[w.heap.size]? = some (.cells #[.bool false, .slice none 0 0, .slice none 0 0] 24 (0, 0))) := Lib.hid HR.out
      replace R1 := Lib.hid (R1.out.later ((Below.refl _ _).drew : Below wv3.heap.size wv3 wv3.drew))
      replace R5 := Lib.hid (R5.out.later ((Below.refl _ _).drew : Below wv3.heap.size wv3 wv3.drew))
      have pSn := fcells_2 HN.out
      go_region_held3 (fun w' => w'.cell? ⟨wv1.heap.size, 0, none⟩ = some (.bool (zneg z)) ∧ w'.cell? ⟨wv1.heap.size, 1, none⟩ = some (.slice a1 n1 c1)) (exact pSn)
        (first
        | (go_at_call 44; (first
          | (refine (HT _).mono ?_; rintro e wp1 ⟨a6, n6, c6, rfl, h6, b⟩; replace HB := Lib.hid (below_then HB.out b); replace HN := Lib.hid (blk_later HN.out b); replace HR := Lib.hid (blk_later HR.out b); replace R1 := Lib.hid (R1.out.later b); replace R5 := Lib.hid (R5.out.later b); have R6 := Lib.hid h6; have ln6 := h6.len; clear h6; clear b; clear pSn; have pSn := fcells_2 HN.out; have pM1 := True.intro)))
        | (go_at_call 43; (first
          | (have pm1 := pM1; refine (ref04_mul a1 n1 c1 _ a6 n6 c6 _ _ R1.out R6.out (by omega) (by omega)).mono ?_; rintro e wp2 ⟨a7, n7, c7, rfl, h7, b⟩; replace HB := Lib.hid (below_then HB.out b); replace HN := Lib.hid (blk_later HN.out b); replace HR := Lib.hid (blk_later HR.out b); replace R1 := Lib.hid (R1.out.later b); replace R5 := Lib.hid (R5.out.later b); clear R6; rw [HE1.out] at h7; have R7 := Lib.hid h7; have ln7 := h7.len; clear h7; clear b; clear pSn; have pSn := fcells_2 HN.out; clear pM1 pm1; have pM2 := True.intro)))
        | (go_at_call 42; (first
          | (have pm2 := pM2; refine (ref02_add a7 n7 c7 _ a5 n5 c5 _ _ R7.out R5.out (by omega) (by omega)).mono ?_; rintro e wp3 ⟨a8, n8, c8, rfl, h8, b⟩; replace HB := Lib.hid (below_then HB.out b); replace HN := Lib.hid (blk_later HN.out b); replace HR := Lib.hid (blk_later HR.out b); replace R1 := Lib.hid (R1.out.later b); replace R5 := Lib.hid (R5.out.later b); clear R7; rw [HE2.out] at h8; have R8 := Lib.hid h8; have ln8 := h8.len; clear h8; clear b; clear pSn; have pSn := fcells_2 HN.out; clear pM2 pm2; have pM3 := True.intro))))
      clear R1 R5 pSn
      go_wp2
      replace HB := Lib.hid (below_then HB.out ((Below.refl _ _).drew : Below wp3.heap.size wp3 wp3.drew))
      replace HN : Hid (wp3.drew.heap[wv1.heap.size]? = _) := Lib.hid HN.out
      replace HR : Hid (wp3.drew.heap[w.heap.size]? = some (.cells #[.bool false, .slice none 0 0, .slice none 0 0] 24 (0, 0))) := Lib.hid HR.out
      replace R8 := Lib.hid (R8.out.later ((Below.refl _ _).drew : Below wp3.heap.size wp3 wp3.drew))
      have rSn := fcells_2 HN.out
      go_region_held3 (fun w' => w'.cell? ⟨wv1.heap.size, 0, none⟩ = some (.bool (zneg z)) ∧ w'.cell? ⟨wv1.heap.size, 1, none⟩ = some (.slice a1 n1 c1)) (first | with_reducible exact rSn | with_reducible exact rSb.out)
        (first
        | (go_at_call 44; (first
          | (refine (HT _).mono ?_; rintro e wr1 ⟨a6, n6, c6, rfl, h6, b⟩; replace HB := Lib.hid (below_then HB.out b); replace HN := Lib.hid (blk_later HN.out b); replace HR := Lib.hid (blk_later HR.out b); replace R8 := Lib.hid (R8.out.later b); have R6 := Lib.hid h6; have ln6 := h6.len; clear h6; clear b; clear rSn; have rSn := fcells_2 HN.out; have rM1 := True.intro)))
        | (go_at_call 10; (first
          | (have rm1 := rM1; refine (ref09_norm mb a8 n8 c8 _ a6 n6 c6 _ _ R8.out R6.out (by omega) (by omega)).mono ?_; rintro e wr2 ⟨a9, n9, c9, b9, m9, d9, rfl, h9, g9, b⟩; replace HB := Lib.hid (below_then HB.out b); replace HN := Lib.hid (blk_later HN.out b); replace HR := Lib.hid (blk_later HR.out b); replace R8 := Lib.hid (R8.out.later b); clear R6; rw [HQV.out] at h9 g9 ⊢; have R9 := Lib.hid h9; have T9 := Lib.hid g9; clear h9 g9; unfold frV; obtain ⟨r0, r1, r2⟩ := fcells_3 HR.out; have f0 := blk_free HR.out 0; have f1 := blk_free HR.out 1; have f2 := blk_free HR.out 2; have rSb := Lib.hid (fcells_2 (blk_far3 (g := w.heap.size) HN.out (by omega) (.bool (zneg q.num)) (.slice a9 n9 c9) (.slice b9 m9 d9))); clear b; clear rSn; have rSn := fcells_2 HN.out; clear rM1 rm1; have rM2 := True.intro))))
      all_goals (
        have HG := Lib.hid (blk_set3 HR.out (.bool (zneg q.num)) (.slice a9 n9 c9) (.slice b9 m9 d9))
        have HL := Lib.hid (below_set3 HB.out (show w.heap.size ≤ w.heap.size by omega) (.bool (zneg q.num)) (.slice a9 n9 c9) (.slice b9 m9 d9))
        have HW1 := Lib.hid (R9.out.stored3 HR.out (zneg q.num) a9 n9 c9 (.slice b9 m9 d9))
        have HW2 := Lib.hid (T9.out.stored3 HR.out (zneg q.num) a9 n9 c9 (.slice b9 m9 d9))
        go_wp2
        refine bodyPost_ret (results_row_tmps Tryz.results16 _ _ (w.heap.size) 24 #[.bool (zneg q.num), .slice a9 n9 c9, .slice b9 m9 d9] (0, 0) _ rfl HG.out Tryz.underlying24 rfl (by kernel_rfl)) rfl ?_
        exact ⟨a9, n9, c9, b9, m9, d9, rfl, HW1.out, HW2.out, HL.out⟩)
end Go.Proofs.YteoeicfbaffjcaaGreatDoor

/-
  The contract of the document's answer for layer 10: Read.
-/
namespace Go.Proofs.YteoeicfbaffjcaaGreatDoor
open Go.RowKit

theorem ref10_read (l : List UInt8) (w : World) (hl : l.length ≤ 1000) : Calls Tryz.prog 16 #[.string (bs l)] w (LstQVV (figVal l) (.int .i64 (figKind l)) (.int .i64 (figPlace l)) w) := by
  have hcl := cutAt_le l
  have hf : fhead l = l.take (cutAt l) := rfl
  have hl1 : (l.take (cutAt l)).length ≤ 1000 := by rw [List.length_take]; omega
  by_cases hc : cutAt l = l.length
  · by_cases hz : zwrong (fhead l) < 0
    · obtain ⟨e1, e2, e3⟩ := fig_end_whole hz hc
      rw [e1, e2, e3]
      exact ref10_whole l w hl (cutAt l) rfl hc (zread (fhead l)) (zread_short hz) (fun w' => ref08_read_ok _ w' hl1 (Lib.hid hz))
    · obtain ⟨e1, e2, e3⟩ := fig_end_bad (show 0 ≤ zwrong (fhead l) by omega)
      rw [e1, e2, e3]
      exact ref10_head l w hl (cutAt l) rfl hc 0 (zwrong (fhead l)) (by omega) (fun w' => ref08_read_no _ w' hl1 (Lib.hid (show 0 ≤ zwrong (fhead l) by omega)))
  · have hlt : cutAt l < l.length := by omega
    have hr : frest l = l.drop (cutAt l + 1) := rfl
    have hl2 : (l.drop (cutAt l + 1)).length ≤ 1000 := by rw [List.length_drop]; omega
    have hW : ∀ w' : World, Calls Tryz.prog 57 #[.string (bs (l.drop (cutAt l + 1)))] w' (fun e w'' => e = .returned (.int .i64 (wrongI (frest l))) ∧ w' = w'') := fun w' => ref07_wrong _ w' (by omega)
    by_cases hz : zwrong (fhead l) < 0
    · have hR : ∀ w' : World, Calls Tryz.prog 55 #[.string (bs (l.take (cutAt l)))] w' (ReadZ (zread (fhead l)) (-1) w') := fun w' => ref08_read_ok _ w' hl1 (Lib.hid hz)
      have hzl := zread_short hz
      by_cases hw : wrongI (frest l) < 0
      · obtain ⟨hvl, he60, hdg⟩ := readV_short hw
        have hD : ∀ w' : World, Calls Tryz.prog 58 #[.string (bs (l.drop (cutAt l + 1)))] w' (Lst (dg (readV (frest l))) w') := fun w' => ref07_read _ w' (by rw [hr] at he60; omega) (Lib.hid hdg)
        by_cases hx : fbyte l = 46
        · obtain ⟨e1, e2, e3⟩ := fig_end_point hz hlt hw hx
          rw [e1, e2, e3]
          exact ref10_point l w hl (cutAt l) rfl hlt hx (zread (fhead l)) _ (readV (frest l)) _ _ rfl he60 rfl hzl hw hR hW hvl hD
        · have hx47 : (l.getD (cutAt l) 0).toNat = 47 := (cut_byte hlt).resolve_right hx
          by_cases hv : readV (frest l) = 0
          · obtain ⟨e1, e2, e3⟩ := fig_end_none hz hlt hw hx hv
            rw [e1, e2, e3]
            exact ref10_none l w hl (cutAt l) rfl hlt hx47 (zread (fhead l)) _ (readV (frest l)) hv hw hR hW hD
          · obtain ⟨e1, e2, e3⟩ := fig_end_slash hz hlt hw hx hv
            rw [e1, e2, e3]
            exact ref10_slash l w hl (cutAt l) rfl hlt hx47 (zread (fhead l)) _ (readV (frest l)) hv hzl hw hR hW hvl hD
      · obtain ⟨e1, e2, e3⟩ := fig_end_rest hz hlt (show 0 ≤ wrongI (frest l) by omega)
        have hwl := wrongI_len (frest l)
        rw [e1, e2, e3]
        rcases cut_byte hlt with hx | hx
        · exact ref10_tail_47 l w hl (cutAt l) rfl hlt hx (zread (fhead l)) (wrongI (frest l)) _ (by omega) (by rw [hr] at hwl ⊢; omega) rfl hR hW
        · exact ref10_tail_46 l w hl (cutAt l) rfl hlt hx (zread (fhead l)) (wrongI (frest l)) _ (by omega) (by rw [hr] at hwl ⊢; omega) rfl hR hW
    · obtain ⟨e1, e2, e3⟩ := fig_end_bad (show 0 ≤ zwrong (fhead l) by omega)
      rw [e1, e2, e3]
      rcases cut_byte hlt with hx | hx
      · exact ref10_head_47 l w hl (cutAt l) rfl hlt hx 0 (zwrong (fhead l)) (by omega) (fun w' => ref08_read_no _ w' hl1 (Lib.hid (show 0 ≤ zwrong (fhead l) by omega)))
      · exact ref10_head_46 l w hl (cutAt l) rfl hlt hx 0 (zwrong (fhead l)) (by omega) (fun w' => ref08_read_no _ w' hl1 (Lib.hid (show 0 ≤ zwrong (fhead l) by omega)))
end Go.Proofs.YteoeicfbaffjcaaGreatDoor

/-
  The document's answer of layer 9: Floor.
-/
namespace Go.Proofs.YteoeicfbaffjcaaGreatDoor
open Go.RowKit

theorem pair_cells {w : World} {A : Nat} {x y : Value} {t : TypeId} (h1 : w.heap[A]? = some (.cells #[x, y] t (0, 0))) : w.cell? ⟨A, 0, none⟩ = some x ∧ w.cell? ⟨A, 1, none⟩ = some y := ⟨blk_cell h1 0, blk_cell h1 1⟩
theorem blk_drawn {w : World} {g : Nat} {o : Obj} (h : w.heap[g]? = some o) : w.drew.heap[g]? = some o := h
theorem new_at {w : World} {g : Nat} (x : Array Value) (t : TypeId) (h : w.heap.size = g) : (w.alloc (.cells x t)).heap[g]? = some (.cells x t (0, 0)) := by
  subst h
  exact blk_new w x t
theorem second_new (w : World) (o : Obj) (x : Array Value) {t : TypeId} : ((w.alloc o).alloc (.cells x t)).heap[w.heap.size + 1]? = some (.cells x t (0, 0)) := by
  have h := blk_new (w.alloc o) x t
  rw [blk_size] at h
  exact h
theorem later_gives {P : Program} {f : FuncId} {args : Array Value} {v0 v : World} {u : Value} (hv : Below v0.heap.size v0 v) (h : Calls P f args v (Gives u v)) :
    Calls P f args v (fun e w' => e = .returned u ∧ Below v0.heap.size v0 w' ∧ ∀ (g : Nat) (o : Obj), v.heap[g]? = some o → w'.heap[g]? = some o) :=
  h.mono fun _ _ ⟨he, hb⟩ => ⟨he, below_then hv hb, fun _ _ hg => blk_later hg hb⟩
theorem later_lstZZ {P : Program} {f : FuncId} {args : Array Value} {v0 v : World} {x y : Int} (hv : Below v0.heap.size v0 v) (h : Calls P f args v (LstZZ x y v)) :
    Calls P f args v (fun e w' => ∃ (a : Option Addr) (n cap : Nat) (b : Option Addr) (m cap' : Nat), e = .returned (.tuple #[whV (zneg x) a n cap, whV (zneg y) b m cap']) ∧ Wd w' a n cap (dg x.natAbs) ∧ Wd w' b m cap' (dg y.natAbs) ∧ Below v0.heap.size v0 w' ∧ ∀ (g : Nat) (o : Obj), v.heap[g]? = some o → w'.heap[g]? = some o) :=
  h.mono fun _ _ ⟨a, n, c, b, m, d, he, h1, h2, hb⟩ => ⟨a, n, c, b, m, d, he, h1, h2, below_then hv hb, fun _ _ hg => blk_later hg hb⟩
set_option maxRecDepth 4096 in
set_option maxHeartbeats 8000000 in
theorem ref09_floor_q (q : Rat) (a0 : Option Addr) (n0 c0 : Nat) (b0 : Option Addr) (m0 d0 : Nat) (w : World) (ha : Wd w a0 n0 c0 (dg q.num.natAbs)) (hb : Wd w b0 m0 d0 (dg q.den)) (hn : n0 ≤ 15000) (hm : m0 ≤ 15000) :
    Calls Tryz.prog 45 #[frV (zneg q.num) a0 n0 c0 b0 m0 d0] w (LstZ q.floor w) := by
  obtain ⟨z, hz⟩ : ∃ z, q.floor = z := ⟨_, rfl⟩
  obtain ⟨y, hy⟩ : ∃ y, Int.fmod q.num (q.den : Int) = y := ⟨_, rfl⟩
  obtain ⟨s0, hs⟩ : ∃ s, zneg q.num = s := ⟨_, rfl⟩
  rw [hz, hs]
  have HZ : Hid (Int.fdiv q.num (q.den : Int) = z) := Lib.hid ((floor_fdiv q).trans hz)
  have HY := Lib.hid hy
  have HS := Lib.hid hs
  clear hz hy hs
  have HB := Lib.hid (below_then (below_alloc w (.cells #[.bool s0, .slice a0 n0 c0, .slice b0 m0 d0] 24)) (below_alloc _ (.cells #[.bool false, .slice none 0 0] 63)))
  have A0 := Lib.hid (ha.later HB.out)
  have B0 := Lib.hid (hb.later HB.out)
  obtain ⟨hx0, hx1⟩ := boxes_at w ((w.alloc (.cells #[.bool s0, .slice a0 n0 c0, .slice b0 m0 d0] 24)).alloc (.cells #[.bool false, .slice none 0 0] 63)) #[.bool s0, .slice a0 n0 c0, .slice b0 m0 d0] #[.bool false, .slice none 0 0] 24 63 (Below.refl _ _)
  have X0 := Lib.hid hx0
  have X1 := Lib.hid hx1
  clear ha hb hx0 hx1
  go_enter Tryz.func45, Tryz.ntmps45
  unfold frV
  obtain ⟨k0, k1, k2⟩ := cells_3 X0.out
  go_wp2
  generalize ((w.alloc (.cells #[.bool s0, .slice a0 n0 c0, .slice b0 m0 d0] 24)).alloc (.cells #[.bool false, .slice none 0 0] 63)) = W at *
  clear k0 k1 k2
  have HBd : Hid (Below W.heap.size W W.drew) := Lib.hid (Below.refl _ _).drew
  have K0 : Hid (W.drew.heap[w.heap.size]? = _) := Lib.hid X0.out
  have hW1 : w.heap.size + 1 < W.heap.size := (Array.getElem?_eq_some_iff.1 X1.out).1
  go_cut [3] from 4 to 14 (fun s wx => ∃ (g : Nat) (a2 : Option Addr) (n2 c2 : Nat), s = .pointer (some ⟨g, 0, none⟩) ∧ Hid (wx.heap[g]? = some (.cells #[.bool (zneg z), .slice a2 n2 c2] 63 (0, 0))) ∧ Hid (Wd wx a2 n2 c2 (dg z.natAbs)) ∧ Hid (Below w.heap.size w wx) ∧ Hid (wx.heap[w.heap.size + 1]? = some (.cells #[.bool false, .slice none 0 0] 63 (0, 0))) ∧ w.heap.size + 1 < g)
  case first =>
    go_region_held3 (fun w' => w'.cell? ⟨w.heap.size, 0, none⟩ = some (.bool s0) ∧ w'.cell? ⟨w.heap.size, 1, none⟩ = some (.slice a0 n0 c0) ∧ w'.cell? ⟨w.heap.size, 2, none⟩ = some (.slice b0 m0 d0)) (with_reducible refine cells_3 (t0 := 24) ?_; repeat (first | with_reducible exact K2.out | with_reducible exact K1.out | with_reducible exact K0.out | with_reducible exact X0.out | with_reducible refine blk_drawn ?_ | with_reducible refine blk_apart ?_ (by omega) _ _ | with_reducible refine blk_later ?_ (below_alloc _ _)))
      (first
      | (go_at_call 37; refine (later_gives (v0 := W) ?q0 (ref09_up s0 a0 n0 c0 b0 m0 d0 _)).mono ?_; (case q0 => first | exact HBd.out | exact (below_alloc _ _).drew | exact (below_then (below_alloc _ _) (below_alloc _ _)).drew); rintro e w1 ⟨rfl, hb1, kk1⟩; have HB1 := Lib.hid hb1; have lW1 : W.heap.size ≤ w1.heap.size := hb1.size; have K1 := Lib.hid (blk_later X0.out hb1); have J1 := Lib.hid (blk_later X1.out hb1); (try have P0 : Hid (w1.heap[W.heap.size]? = some (.cells #[.bool false, .slice none 0 0] 63 (0, 0))) := Lib.hid (by first | exact kk1 _ _ (blk_drawn (blk_new W _ _)) | exact kk1 _ _ (blk_drawn (blk_later (blk_new W _ _) (below_alloc _ _))))); (try have P1 : Hid (w1.heap[W.heap.size + 1]? = some (.cells #[.bool false, .slice none 0 0] 63 (0, 0))) := Lib.hid (by exact kk1 _ _ (blk_drawn (second_new W _ _)))); (try have lP0 : W.heap.size < w1.heap.size := (Array.getElem?_eq_some_iff.1 P0.out).1); (try have lP1 : W.heap.size + 1 < w1.heap.size := (Array.getElem?_eq_some_iff.1 P1.out).1); clear hb1 kk1; unfold whV)
      | (go_at_call 87; refine (later_lstZZ (v0 := W) ?q4 (ref08_floor_z s0 a0 n0 c0 _ q.num false b0 m0 d0 _ (q.den : Int) _ (A0.out.later ?q2) (B0.out.later ?q3) (by omega) (by omega) (by rw [← HS.out]; exact zval_up q) (zval_den q) (zden_nz q))).mono ?_; (case q2 => first | exact HB1.out | exact below_then HB1.out (below_alloc _ _) | exact below_then (below_then HB1.out (below_alloc _ _)) (below_alloc _ _)); (case q3 => first | exact HB1.out | exact below_then HB1.out (below_alloc _ _) | exact below_then (below_then HB1.out (below_alloc _ _)) (below_alloc _ _)); (case q4 => first | exact HB1.out | exact below_then HB1.out (below_alloc _ _) | exact below_then (below_then HB1.out (below_alloc _ _)) (below_alloc _ _)); rintro e w2 ⟨a2, n2, c2, a3, n3, c3, rfl, h2, h3, hb2, kk2⟩; rw [HZ.out, HY.out]; rw [HZ.out] at h2; have R2 := Lib.hid h2; have HB2 := Lib.hid hb2; have lW2 : W.heap.size ≤ w2.heap.size := hb2.size; have K2 := Lib.hid (blk_later X0.out hb2); have J2 := Lib.hid (blk_later X1.out hb2); (try have Q0 : Hid (w2.heap[w1.heap.size]? = some (.cells #[.bool false, .slice none 0 0] 63 (0, 0))) := Lib.hid (by first | exact kk2 _ _ (blk_new w1 _ _) | exact kk2 _ _ (blk_later (blk_new w1 _ _) (below_alloc _ _)))); (try have Q1 : Hid (w2.heap[w1.heap.size + 1]? = some (.cells #[.bool false, .slice none 0 0] 63 (0, 0))) := Lib.hid (by first | exact kk2 _ _ (second_new w1 _ _))); (try replace P0 := Lib.hid (by first | exact kk2 _ _ P0.out | exact kk2 _ _ (blk_later P0.out (below_alloc _ _)))); (try replace P1 := Lib.hid (by first | exact kk2 _ _ P1.out | exact kk2 _ _ (blk_later P1.out (below_alloc _ _)))); (try have l2P0 : W.heap.size < w2.heap.size := (Array.getElem?_eq_some_iff.1 P0.out).1); (try (have eP0 := P0.out; obtain ⟨eP0x, eP0y⟩ := pair_cells eP0; have eP0u := blk_free eP0 0; have eP0v := blk_free eP0 1; clear eP0)); (try (have fP0 := (blk_later P0.out (below_alloc w2 (.cells #[.bool false, .slice none 0 0] 63))); obtain ⟨fP0x, fP0y⟩ := pair_cells fP0; have fP0u := blk_free fP0 0; have fP0v := blk_free fP0 1; clear fP0)); (try have l2P1 : W.heap.size + 1 < w2.heap.size := (Array.getElem?_eq_some_iff.1 P1.out).1); (try (have eP1 := P1.out; obtain ⟨eP1x, eP1y⟩ := pair_cells eP1; have eP1u := blk_free eP1 0; have eP1v := blk_free eP1 1; clear eP1)); (try (have fP1 := (blk_later P1.out (below_alloc w2 (.cells #[.bool false, .slice none 0 0] 63))); obtain ⟨fP1x, fP1y⟩ := pair_cells fP1; have fP1u := blk_free fP1 0; have fP1v := blk_free fP1 1; clear fP1)); (try have l2Q0 : w1.heap.size < w2.heap.size := (Array.getElem?_eq_some_iff.1 Q0.out).1); (try (have eQ0 := Q0.out; obtain ⟨eQ0x, eQ0y⟩ := pair_cells eQ0; have eQ0u := blk_free eQ0 0; have eQ0v := blk_free eQ0 1; clear eQ0)); (try (have fQ0 := (blk_later Q0.out (below_alloc w2 (.cells #[.bool false, .slice none 0 0] 63))); obtain ⟨fQ0x, fQ0y⟩ := pair_cells fQ0; have fQ0u := blk_free fQ0 0; have fQ0v := blk_free fQ0 1; clear fQ0)); (try have l2Q1 : w1.heap.size + 1 < w2.heap.size := (Array.getElem?_eq_some_iff.1 Q1.out).1); (try (have eQ1 := Q1.out; obtain ⟨eQ1x, eQ1y⟩ := pair_cells eQ1; have eQ1u := blk_free eQ1 0; have eQ1v := blk_free eQ1 1; clear eQ1)); (try (have fQ1 := (blk_later Q1.out (below_alloc w2 (.cells #[.bool false, .slice none 0 0] 63))); obtain ⟨fQ1x, fQ1y⟩ := pair_cells fQ1; have fQ1u := blk_free fQ1 0; have fQ1v := blk_free fQ1 1; clear fQ1)); (try (have gR0 := blk_new w2 #[.bool false, .slice none 0 0] 63; obtain ⟨gR0x, gR0y⟩ := pair_cells gR0; have gR0u := blk_free gR0 0; have gR0v := blk_free gR0 1; clear gR0)); (try (have hR0 := blk_later (blk_new w2 #[.bool false, .slice none 0 0] 63) (below_alloc (w2.alloc (.cells #[.bool false, .slice none 0 0] 63)) (.cells #[.bool false, .slice none 0 0] 63)); obtain ⟨hR0x, hR0y⟩ := pair_cells hR0; have hR0u := blk_free hR0 0; have hR0v := blk_free hR0 1; clear hR0)); (try (have hR1 := (second_new w2 (.cells #[.bool false, .slice none 0 0] 63) #[.bool false, .slice none 0 0] (t := 63)); obtain ⟨hR1x, hR1y⟩ := pair_cells hR1; have hR1u := blk_free hR1 0; have hR1v := blk_free hR1 1; clear hR1)); clear h2 h3 hb2 kk2; unfold whV))
    all_goals (
      try clear eP0x; try clear eP0y; try clear eP0u; try clear eP0v; try clear eP1x; try clear eP1y; try clear eP1u; try clear eP1v; try clear eQ0x; try clear eQ0y; try clear eQ0u; try clear eQ0v; try clear eQ1x; try clear eQ1y; try clear eQ1u; try clear eQ1v; try clear fP0x; try clear fP0y; try clear fP0u; try clear fP0v; try clear fP1x; try clear fP1y; try clear fP1u; try clear fP1v; try clear fQ0x; try clear fQ0y; try clear fQ0u; try clear fQ0v; try clear fQ1x; try clear fQ1y; try clear fQ1u; try clear fQ1v; try clear gR0x; try clear gR0y; try clear gR0u; try clear gR0v; try clear hR0x; try clear hR0y; try clear hR0u; try clear hR0v; try clear hR1x; try clear hR1y; try clear hR1u; try clear hR1v
      clear HBd K0 K1 K2 J1 HB1 A0 B0 HZ HY HS X0 X1
      go_wp2
      go_meet
      refine ⟨_, a2, n2, c2, rfl, Lib.hid ?_, Lib.hid ?_, Lib.hid ?_, Lib.hid ?_, by omega⟩
      · repeat (first | with_reducible exact blk_new _ _ _ | with_reducible exact second_new _ _ _ | (with_reducible refine new_at _ _ ?_; simp; done) | with_reducible refine blk_apart2 ?_ (by omega) _ _ | with_reducible exact blk_set2 P0.out _ _ | with_reducible exact blk_set2 (blk_later P0.out (below_alloc _ _)) _ _ | with_reducible exact blk_set2 P1.out _ _ | with_reducible exact blk_set2 (blk_later P1.out (below_alloc _ _)) _ _ | with_reducible exact blk_set2 Q0.out _ _ | with_reducible exact blk_set2 (blk_later Q0.out (below_alloc _ _)) _ _ | with_reducible exact blk_set2 Q1.out _ _ | with_reducible exact blk_set2 (blk_later Q1.out (below_alloc _ _)) _ _ | with_reducible exact blk_set2 (blk_new _ _ _) _ _ | with_reducible exact blk_set2 (blk_later (blk_new _ _ _) (below_alloc _ _)) _ _ | with_reducible refine blk_later ?_ (below_alloc _ _))
      · repeat (first | with_reducible exact R2.out | with_reducible refine Wd.stored2 ?_ P0.out _ _ | with_reducible refine Wd.stored2 ?_ (blk_later P0.out (below_alloc _ _)) _ _ | with_reducible refine Wd.stored2 ?_ P1.out _ _ | with_reducible refine Wd.stored2 ?_ (blk_later P1.out (below_alloc _ _)) _ _ | with_reducible refine Wd.stored2 ?_ Q0.out _ _ | with_reducible refine Wd.stored2 ?_ (blk_later Q0.out (below_alloc _ _)) _ _ | with_reducible refine Wd.stored2 ?_ Q1.out _ _ | with_reducible refine Wd.stored2 ?_ (blk_later Q1.out (below_alloc _ _)) _ _ | with_reducible refine Wd.stored2 ?_ (blk_new _ _ _) _ _ | with_reducible refine Wd.stored2 ?_ (blk_later (blk_new _ _ _) (below_alloc _ _)) _ _ | with_reducible refine Wd.stored2 ?_ (blk_apart2 P0.out (by omega) _ _) _ _ | with_reducible refine Wd.stored2 ?_ (blk_apart2 (blk_later P0.out (below_alloc _ _)) (by omega) _ _) _ _ | with_reducible refine Wd.stored2 ?_ (blk_apart2 P1.out (by omega) _ _) _ _ | with_reducible refine Wd.stored2 ?_ (blk_apart2 (blk_later P1.out (below_alloc _ _)) (by omega) _ _) _ _ | with_reducible refine Wd.stored2 ?_ (blk_apart2 Q0.out (by omega) _ _) _ _ | with_reducible refine Wd.stored2 ?_ (blk_apart2 (blk_later Q0.out (below_alloc _ _)) (by omega) _ _) _ _ | with_reducible refine Wd.stored2 ?_ (blk_apart2 Q1.out (by omega) _ _) _ _ | with_reducible refine Wd.stored2 ?_ (blk_apart2 (blk_later Q1.out (below_alloc _ _)) (by omega) _ _) _ _ | with_reducible refine Wd.stored2 ?_ (blk_apart2 (blk_new _ _ _) (by omega) _ _) _ _ | with_reducible refine Wd.stored2 ?_ (blk_apart2 (blk_later (blk_new _ _ _) (below_alloc _ _)) (by omega) _ _) _ _ | with_reducible refine Wd.later ?_ (below_alloc _ _))
      · repeat (first | exact below_then HB.out HB2.out | with_reducible refine below_set2 ?_ (by omega) _ _ | with_reducible refine below_then ?_ (below_alloc _ _))
      · repeat (first | with_reducible exact J2.out | with_reducible refine blk_apart2 ?_ (by omega) _ _ | with_reducible refine blk_later ?_ (below_alloc _ _)))
  case rest =>
    obtain ⟨g, a2, n2, c2, rfl, HG, HL, HBz, HR, hg⟩ := hcut
    obtain ⟨q0, q1⟩ := pair_cells HG.out
    obtain ⟨r0, r1⟩ := pair_cells HR.out
    have f0 := blk_free HR.out 0
    have f1 := blk_free HR.out 1
    have HG1 := Lib.hid (blk_set2 HR.out (.bool (zneg z)) (.slice a2 n2 c2))
    have HL1 := Lib.hid (HL.out.stored2 HR.out (zneg z) (.slice a2 n2 c2))
    have HB1 := Lib.hid (below_set2 HBz.out (show w.heap.size ≤ w.heap.size + 1 by omega) (.bool (zneg z)) (.slice a2 n2 c2))
    go_wp2
    refine bodyPost_ret (results_cell_row Tryz.results45 _ _ (w.heap.size + 1) 63 #[.bool (zneg z), .slice a2 n2 c2] (0, 0) _ rfl HG1.out Tryz.underlying63 rfl (by kernel_rfl)) rfl ?_
    exact ⟨a2, n2, c2, rfl, HL1.out, HB1.out⟩
end Go.Proofs.YteoeicfbaffjcaaGreatDoor
