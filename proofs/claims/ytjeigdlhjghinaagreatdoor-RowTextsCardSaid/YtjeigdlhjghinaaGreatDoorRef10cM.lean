/-
  The contract of the document's answer for layer 10: Read: what stands behind is wrong, or behind a /.
-/
import Derived.Test.YtjeigdlhjghinaaGreatDoorRef10bM
import Derived.Deep.RegionHeld3
namespace Go.Proofs.YtjeigdlhjghinaaGreatDoor
open Go.RowKit

set_option maxRecDepth 4096 in
set_option maxHeartbeats 8000000 in
theorem ref10_tail_47 (l : List UInt8) (w : World) (hl : l.length ≤ 1000) (K : Nat) (hc : cutAt l = K) (hlt : K < l.length) (hx : (l.getD K 0).toNat = 47) (z p pl : Int) (hp : 0 ≤ p) (hp1 : p ≤ 1000) (hpp : ((K + 1 : Nat) : Int) + p = pl) (hR : ∀ w' : World, Calls Tryz.prog 112 #[.string (bs (l.take K))] w' (ReadZ z (-1) w')) (hW : ∀ w' : World, Calls Tryz.prog 113 #[.string (bs (l.drop (K + 1)))] w' (fun e w'' => e = .returned (.int .i64 p) ∧ w' = w''))  : Calls Tryz.prog 73 #[.string (bs l)] w (LstQVV ((0 : Int) : Rat) (.int .i64 1) (.int .i64 pl) w) := by
  have hs0 := bs_size l
  have HR := Lib.hid (blk_new w #[.bool false, .slice none 0 0, .slice none 0 0] 44)
  have HB := Lib.hid (below_alloc w (.cells #[.bool false, .slice none 0 0, .slice none 0 0] 44))
  have e1 := bs_take l K
  obtain ⟨j, hj⟩ : ∃ j, K + 1 = j := ⟨_, rfl⟩
  rw [hj] at hW hpp
  have e2 := bs_drop l j
  have hkj : (K : Int) + 1 = (j : Int) := by omega
  have hjl : (j : Int) ≤ (l.length : Int) := by omega
  have hne : ((K : Int) == (l.length : Int)) = false := by simp; omega
  have hki : (K : Int) < (l.length : Int) := by omega
  have HC := Lib.hid hc
  have hkc : K ≤ l.length := by have := cutAt_le l; omega
  clear hc hj
  have hgetk := bs_get l K hlt (by rw [bs_size]; exact hlt)
  rw [hx] at hgetk
  have HO : ∀ w' : World, Calls Tryz.prog 35 #[.int .i64 0] w' (LstQ ((0 : Int) : Rat) w') := fun w' => ref09_int 0 w' isInt_nought
  generalize ((0 : Int) : Rat) = q at *
  clear hx
  go_enter Tryz.func73, Tryz.ntmps73
  go_wp2
  generalize (w.alloc (.cells #[.bool false, .slice none 0 0, .slice none 0 0] 44)) = W at *
  go_loopw [5] (fun iv wr => ∃ k : Nat, iv = .int .i64 (k : Int) ∧ k ≤ K ∧ wr = W) (fun iv _ => K - (intOf iv).toNat)
  case atStart => exact ⟨0, by go_num, by omega, rfl⟩
  case round =>
    obtain ⟨k, rfl, hk, rfl⟩ := hrel
    by_cases hlt : k < K
    · have hki2 : (k : Int) < (l.length : Int) := by omega
      have hget := bs_get l k (by omega) (by rw [bs_size]; omega)
      have hx := cutAt_not (l := l) (k := k) (by rw [HC.out]; exact hlt) (by omega)
      obtain ⟨x, hxx⟩ : ∃ x, (l.getD k 0).toNat = x := ⟨_, rfl⟩
      rw [hxx] at hget hx
      have e47 : ((x : Int) != 47) = true := by simp; omega
      have e46 : ((x : Int) != 46) = true := by simp; omega
      clear hxx hx
      go_wp2
      go_roundw
      case rel => exact ⟨k + 1, by go_num, by omega, trivial⟩
      case measure => simp [intOf]; omega
    · obtain rfl : k = K := by omega
      clear hlt hk
      obtain ⟨vk0, vk1, vk2⟩ := fcells_3 HR.out
      go_wp2_with fail
      refine (hR _).mono ?_
      rintro e wv1 ⟨a1, n1, c1, rfl, h1, b⟩
      clear vk0 vk1 vk2
      replace HB := Lib.hid (below_then HB.out b)
      replace HR := Lib.hid (blk_later HR.out b)
      clear b
      have ln1 := h1.len
      have R1 := Lib.hid h1
      clear h1
      unfold whV
      have hlt9 := blk_lt HR.out
      have HN : Hid ((World.alloc wv1 (.cells #[.bool (zneg z), .slice a1 n1 c1] 126)).heap[wv1.heap.size]? = some (.cells #[.bool (zneg z), .slice a1 n1 c1] 126 (0, 0))) := Lib.hid (blk_new wv1 _ _)
      replace HB := Lib.hid (below_then HB.out (below_alloc wv1 (.cells #[.bool (zneg z), .slice a1 n1 c1] 126)))
      replace HR := Lib.hid (blk_later HR.out (below_alloc wv1 (.cells #[.bool (zneg z), .slice a1 n1 c1] 126)))
      replace R1 := Lib.hid (R1.out.later (below_alloc wv1 (.cells #[.bool (zneg z), .slice a1 n1 c1] 126)))
      obtain ⟨vk0, vk1, vk2⟩ := fcells_3 HR.out
      go_wp2_with fail
      refine (hW _).mono ?_
      rintro e w' ⟨rfl, rfl⟩
      clear vk0 vk1 vk2
      obtain ⟨vk0, vk1, vk2⟩ := fcells_3 HR.out
      go_wp2_with fail
      refine (HO _).mono ?_
      rintro e wv3 ⟨a2, n2, c2, b2, m2, d2, rfl, h2, g2, b⟩
      clear vk0 vk1 vk2
      replace HB := Lib.hid (below_then HB.out b)
      replace HR := Lib.hid (blk_later HR.out b)
      clear b
      have R2 := Lib.hid h2
      have T2 := Lib.hid g2
      clear h2 g2
      unfold frV
      have q0 := blk_cell HR.out 0
      have q1 := blk_cell HR.out 1
      have q2 := blk_cell HR.out 2
      simp only [List.getElem?_toArray, List.getElem?_cons_zero, List.getElem?_cons_succ] at q0 q1 q2
      have f0 := blk_free HR.out 0
      have f1 := blk_free HR.out 1
      have f2 := blk_free HR.out 2
      replace R2 := Lib.hid (R2.out.stored3 HR.out ((zneg q.num)) a2 n2 c2 (.slice b2 m2 d2))
      replace T2 := Lib.hid (T2.out.stored3 HR.out ((zneg q.num)) a2 n2 c2 (.slice b2 m2 d2))
      replace HB := Lib.hid (below_set3 HB.out (show w.heap.size ≤ w.heap.size by omega) (.bool (zneg q.num)) (.slice a2 n2 c2) (.slice b2 m2 d2))
      replace HR := Lib.hid (blk_set3 HR.out (.bool (zneg q.num)) (.slice a2 n2 c2) (.slice b2 m2 d2))
      go_wp2
      refine bodyPost_ret (results_row_tmps Tryz.results73 _ _ (w.heap.size) 44 #[.bool (zneg q.num), .slice a2 n2 c2, .slice b2 m2 d2] (0, 0) _ rfl HR.out Tryz.underlying44 rfl (by kernel_rfl)) rfl ?_
      exact ⟨a2, n2, c2, b2, m2, d2, rfl, R2.out, T2.out, HB.out⟩
set_option maxRecDepth 4096 in
set_option maxHeartbeats 8000000 in
theorem ref10_tail_46 (l : List UInt8) (w : World) (hl : l.length ≤ 1000) (K : Nat) (hc : cutAt l = K) (hlt : K < l.length) (hx : (l.getD K 0).toNat = 46) (z p pl : Int) (hp : 0 ≤ p) (hp1 : p ≤ 1000) (hpp : ((K + 1 : Nat) : Int) + p = pl) (hR : ∀ w' : World, Calls Tryz.prog 112 #[.string (bs (l.take K))] w' (ReadZ z (-1) w')) (hW : ∀ w' : World, Calls Tryz.prog 113 #[.string (bs (l.drop (K + 1)))] w' (fun e w'' => e = .returned (.int .i64 p) ∧ w' = w''))  : Calls Tryz.prog 73 #[.string (bs l)] w (LstQVV ((0 : Int) : Rat) (.int .i64 1) (.int .i64 pl) w) := by
  have hs0 := bs_size l
  have HR := Lib.hid (blk_new w #[.bool false, .slice none 0 0, .slice none 0 0] 44)
  have HB := Lib.hid (below_alloc w (.cells #[.bool false, .slice none 0 0, .slice none 0 0] 44))
  have e1 := bs_take l K
  obtain ⟨j, hj⟩ : ∃ j, K + 1 = j := ⟨_, rfl⟩
  rw [hj] at hW hpp
  have e2 := bs_drop l j
  have hkj : (K : Int) + 1 = (j : Int) := by omega
  have hjl : (j : Int) ≤ (l.length : Int) := by omega
  have hne : ((K : Int) == (l.length : Int)) = false := by simp; omega
  have hki : (K : Int) < (l.length : Int) := by omega
  have HC := Lib.hid hc
  have hkc : K ≤ l.length := by have := cutAt_le l; omega
  clear hc hj
  have hgetk := bs_get l K hlt (by rw [bs_size]; exact hlt)
  rw [hx] at hgetk
  have HO : ∀ w' : World, Calls Tryz.prog 35 #[.int .i64 0] w' (LstQ ((0 : Int) : Rat) w') := fun w' => ref09_int 0 w' isInt_nought
  generalize ((0 : Int) : Rat) = q at *
  clear hx
  go_enter Tryz.func73, Tryz.ntmps73
  go_wp2
  generalize (w.alloc (.cells #[.bool false, .slice none 0 0, .slice none 0 0] 44)) = W at *
  go_loopw [5] (fun iv wr => ∃ k : Nat, iv = .int .i64 (k : Int) ∧ k ≤ K ∧ wr = W) (fun iv _ => K - (intOf iv).toNat)
  case atStart => exact ⟨0, by go_num, by omega, rfl⟩
  case round =>
    obtain ⟨k, rfl, hk, rfl⟩ := hrel
    by_cases hlt : k < K
    · have hki2 : (k : Int) < (l.length : Int) := by omega
      have hget := bs_get l k (by omega) (by rw [bs_size]; omega)
      have hx := cutAt_not (l := l) (k := k) (by rw [HC.out]; exact hlt) (by omega)
      obtain ⟨x, hxx⟩ : ∃ x, (l.getD k 0).toNat = x := ⟨_, rfl⟩
      rw [hxx] at hget hx
      have e47 : ((x : Int) != 47) = true := by simp; omega
      have e46 : ((x : Int) != 46) = true := by simp; omega
      clear hxx hx
      go_wp2
      go_roundw
      case rel => exact ⟨k + 1, by go_num, by omega, trivial⟩
      case measure => simp [intOf]; omega
    · obtain rfl : k = K := by omega
      clear hlt hk
      obtain ⟨vk0, vk1, vk2⟩ := fcells_3 HR.out
      go_wp2_with fail
      refine (hR _).mono ?_
      rintro e wv1 ⟨a1, n1, c1, rfl, h1, b⟩
      clear vk0 vk1 vk2
      replace HB := Lib.hid (below_then HB.out b)
      replace HR := Lib.hid (blk_later HR.out b)
      clear b
      have ln1 := h1.len
      have R1 := Lib.hid h1
      clear h1
      unfold whV
      have hlt9 := blk_lt HR.out
      have HN : Hid ((World.alloc wv1 (.cells #[.bool (zneg z), .slice a1 n1 c1] 126)).heap[wv1.heap.size]? = some (.cells #[.bool (zneg z), .slice a1 n1 c1] 126 (0, 0))) := Lib.hid (blk_new wv1 _ _)
      replace HB := Lib.hid (below_then HB.out (below_alloc wv1 (.cells #[.bool (zneg z), .slice a1 n1 c1] 126)))
      replace HR := Lib.hid (blk_later HR.out (below_alloc wv1 (.cells #[.bool (zneg z), .slice a1 n1 c1] 126)))
      replace R1 := Lib.hid (R1.out.later (below_alloc wv1 (.cells #[.bool (zneg z), .slice a1 n1 c1] 126)))
      obtain ⟨vk0, vk1, vk2⟩ := fcells_3 HR.out
      go_wp2_with fail
      refine (hW _).mono ?_
      rintro e w' ⟨rfl, rfl⟩
      clear vk0 vk1 vk2
      obtain ⟨vk0, vk1, vk2⟩ := fcells_3 HR.out
      go_wp2_with fail
      refine (HO _).mono ?_
      rintro e wv3 ⟨a2, n2, c2, b2, m2, d2, rfl, h2, g2, b⟩
      clear vk0 vk1 vk2
      replace HB := Lib.hid (below_then HB.out b)
      replace HR := Lib.hid (blk_later HR.out b)
      clear b
      have R2 := Lib.hid h2
      have T2 := Lib.hid g2
      clear h2 g2
      unfold frV
      have q0 := blk_cell HR.out 0
      have q1 := blk_cell HR.out 1
      have q2 := blk_cell HR.out 2
      simp only [List.getElem?_toArray, List.getElem?_cons_zero, List.getElem?_cons_succ] at q0 q1 q2
      have f0 := blk_free HR.out 0
      have f1 := blk_free HR.out 1
      have f2 := blk_free HR.out 2
      replace R2 := Lib.hid (R2.out.stored3 HR.out ((zneg q.num)) a2 n2 c2 (.slice b2 m2 d2))
      replace T2 := Lib.hid (T2.out.stored3 HR.out ((zneg q.num)) a2 n2 c2 (.slice b2 m2 d2))
      replace HB := Lib.hid (below_set3 HB.out (show w.heap.size ≤ w.heap.size by omega) (.bool (zneg q.num)) (.slice a2 n2 c2) (.slice b2 m2 d2))
      replace HR := Lib.hid (blk_set3 HR.out (.bool (zneg q.num)) (.slice a2 n2 c2) (.slice b2 m2 d2))
      go_wp2
      refine bodyPost_ret (results_row_tmps Tryz.results73 _ _ (w.heap.size) 44 #[.bool (zneg q.num), .slice a2 n2 c2, .slice b2 m2 d2] (0, 0) _ rfl HR.out Tryz.underlying44 rfl (by kernel_rfl)) rfl ?_
      exact ⟨a2, n2, c2, b2, m2, d2, rfl, R2.out, T2.out, HB.out⟩
set_option maxRecDepth 4096 in
set_option maxHeartbeats 8000000 in
theorem ref10_none (l : List UInt8) (w : World) (hl : l.length ≤ 1000) (K : Nat) (hc : cutAt l = K) (hlt : K < l.length) (hx : (l.getD K 0).toNat = 47) (z p : Int) (v : Nat) (hv0 : v = 0) (hp : p < 0) (hR : ∀ w' : World, Calls Tryz.prog 112 #[.string (bs (l.take K))] w' (ReadZ z (-1) w')) (hW : ∀ w' : World, Calls Tryz.prog 113 #[.string (bs (l.drop (K + 1)))] w' (fun e w'' => e = .returned (.int .i64 p) ∧ w' = w'')) (hD : ∀ w' : World, Calls Tryz.prog 114 #[.string (bs (l.drop (K + 1)))] w' (Lst (dg v) w'))  : Calls Tryz.prog 73 #[.string (bs l)] w (LstQVV ((0 : Int) : Rat) (.int .i64 2) (.int .i64 ((K + 1 : Nat) : Int)) w) := by
  have hs0 := bs_size l
  have HR := Lib.hid (blk_new w #[.bool false, .slice none 0 0, .slice none 0 0] 44)
  have HB := Lib.hid (below_alloc w (.cells #[.bool false, .slice none 0 0, .slice none 0 0] 44))
  have e1 := bs_take l K
  obtain ⟨j, hj⟩ : ∃ j, K + 1 = j := ⟨_, rfl⟩
  rw [hj] at hW hD
  rw [hj]
  have e2 := bs_drop l j
  have hkj : (K : Int) + 1 = (j : Int) := by omega
  have hjl : (j : Int) ≤ (l.length : Int) := by omega
  have hne : ((K : Int) == (l.length : Int)) = false := by simp; omega
  have hki : (K : Int) < (l.length : Int) := by omega
  have HC := Lib.hid hc
  have hkc : K ≤ l.length := by have := cutAt_le l; omega
  clear hc hj
  have hgetk := bs_get l K hlt (by rw [bs_size]; exact hlt)
  rw [hx] at hgetk
  have HO : ∀ w' : World, Calls Tryz.prog 35 #[.int .i64 0] w' (LstQ ((0 : Int) : Rat) w') := fun w' => ref09_int 0 w' isInt_nought
  generalize ((0 : Int) : Rat) = qz at *
  have HV0 := Lib.hid hv0
  clear hx hv0
  go_enter Tryz.func73, Tryz.ntmps73
  go_wp2
  generalize (w.alloc (.cells #[.bool false, .slice none 0 0, .slice none 0 0] 44)) = W at *
  go_loopw [5] (fun iv wr => ∃ k : Nat, iv = .int .i64 (k : Int) ∧ k ≤ K ∧ wr = W) (fun iv _ => K - (intOf iv).toNat)
  case atStart => exact ⟨0, by go_num, by omega, rfl⟩
  case round =>
    obtain ⟨k, rfl, hk, rfl⟩ := hrel
    by_cases hlt : k < K
    · have hki2 : (k : Int) < (l.length : Int) := by omega
      have hget := bs_get l k (by omega) (by rw [bs_size]; omega)
      have hx := cutAt_not (l := l) (k := k) (by rw [HC.out]; exact hlt) (by omega)
      obtain ⟨x, hxx⟩ : ∃ x, (l.getD k 0).toNat = x := ⟨_, rfl⟩
      rw [hxx] at hget hx
      have e47 : ((x : Int) != 47) = true := by simp; omega
      have e46 : ((x : Int) != 46) = true := by simp; omega
      clear hxx hx
      go_wp2
      go_roundw
      case rel => exact ⟨k + 1, by go_num, by omega, trivial⟩
      case measure => simp [intOf]; omega
    · obtain rfl : k = K := by omega
      clear hlt hk
      obtain ⟨vk0, vk1, vk2⟩ := fcells_3 HR.out
      go_wp2_with fail
      refine (hR _).mono ?_
      rintro e wv1 ⟨a1, n1, c1, rfl, h1, b⟩
      clear vk0 vk1 vk2
      replace HB := Lib.hid (below_then HB.out b)
      replace HR := Lib.hid (blk_later HR.out b)
      clear b
      have ln1 := h1.len
      have R1 := Lib.hid h1
      clear h1
      unfold whV
      have hlt9 := blk_lt HR.out
      have HN : Hid ((World.alloc wv1 (.cells #[.bool (zneg z), .slice a1 n1 c1] 126)).heap[wv1.heap.size]? = some (.cells #[.bool (zneg z), .slice a1 n1 c1] 126 (0, 0))) := Lib.hid (blk_new wv1 _ _)
      replace HB := Lib.hid (below_then HB.out (below_alloc wv1 (.cells #[.bool (zneg z), .slice a1 n1 c1] 126)))
      replace HR := Lib.hid (blk_later HR.out (below_alloc wv1 (.cells #[.bool (zneg z), .slice a1 n1 c1] 126)))
      replace R1 := Lib.hid (R1.out.later (below_alloc wv1 (.cells #[.bool (zneg z), .slice a1 n1 c1] 126)))
      obtain ⟨vk0, vk1, vk2, vk3, vk4⟩ := fcells_3_2 HR.out HN.out
      go_wp2_with fail
      refine (hW _).mono ?_
      rintro e w' ⟨rfl, rfl⟩
      clear vk0 vk1 vk2 vk3 vk4
      obtain ⟨vk0, vk1, vk2, vk3, vk4⟩ := fcells_3_2 HR.out HN.out
      go_wp2_with fail
      refine (hD _).mono ?_
      rintro e wv3 ⟨a5, n5, c5, rfl, h5, b⟩
      clear vk0 vk1 vk2 vk3 vk4
      replace HB := Lib.hid (below_then HB.out b)
      replace HR := Lib.hid (blk_later HR.out b)
      replace HN := Lib.hid (blk_later HN.out b)
      replace R1 := Lib.hid (R1.out.later b)
      clear b
      have ln5 := h5.len
      have hn5 : ((n5 : Int) == 0) = true := by
          have h9 : n5 = 0 := by rw [← ln5, HV0.out, dg_zero]; rfl
          simp [h9]
      have R5 := Lib.hid h5
      clear h5
      obtain ⟨vk0, vk1, vk2⟩ := fcells_3 HR.out
      go_wp2_with fail
      refine (HO _).mono ?_
      rintro e wv4 ⟨a2, n2, c2, b2, m2, d2, rfl, h2, g2, b⟩
      clear vk0 vk1 vk2
      replace HB := Lib.hid (below_then HB.out b)
      replace HR := Lib.hid (blk_later HR.out b)
      clear b
      have R2 := Lib.hid h2
      have T2 := Lib.hid g2
      clear h2 g2
      unfold frV
      have q0 := blk_cell HR.out 0
      have q1 := blk_cell HR.out 1
      have q2 := blk_cell HR.out 2
      simp only [List.getElem?_toArray, List.getElem?_cons_zero, List.getElem?_cons_succ] at q0 q1 q2
      have f0 := blk_free HR.out 0
      have f1 := blk_free HR.out 1
      have f2 := blk_free HR.out 2
      replace R2 := Lib.hid (R2.out.stored3 HR.out ((zneg qz.num)) a2 n2 c2 (.slice b2 m2 d2))
      replace T2 := Lib.hid (T2.out.stored3 HR.out ((zneg qz.num)) a2 n2 c2 (.slice b2 m2 d2))
      replace HB := Lib.hid (below_set3 HB.out (show w.heap.size ≤ w.heap.size by omega) (.bool (zneg qz.num)) (.slice a2 n2 c2) (.slice b2 m2 d2))
      replace HR := Lib.hid (blk_set3 HR.out (.bool (zneg qz.num)) (.slice a2 n2 c2) (.slice b2 m2 d2))
      go_wp2
      refine bodyPost_ret (results_row_tmps Tryz.results73 _ _ (w.heap.size) 44 #[.bool (zneg qz.num), .slice a2 n2 c2, .slice b2 m2 d2] (0, 0) _ rfl HR.out Tryz.underlying44 rfl (by kernel_rfl)) rfl ?_
      exact ⟨a2, n2, c2, b2, m2, d2, rfl, R2.out, T2.out, HB.out⟩
set_option maxRecDepth 4096 in
set_option maxHeartbeats 8000000 in
theorem ref10_slash (l : List UInt8) (w : World) (hl : l.length ≤ 1000) (K : Nat) (hc : cutAt l = K) (hlt : K < l.length) (hx : (l.getD K 0).toNat = 47) (z p : Int) (v : Nat) (hv0 : v ≠ 0) (hz : (dg z.natAbs).length ≤ 20) (hp : p < 0) (hR : ∀ w' : World, Calls Tryz.prog 112 #[.string (bs (l.take K))] w' (ReadZ z (-1) w')) (hW : ∀ w' : World, Calls Tryz.prog 113 #[.string (bs (l.drop (K + 1)))] w' (fun e w'' => e = .returned (.int .i64 p) ∧ w' = w'')) (hv : (dg v).length ≤ 20) (hD : ∀ w' : World, Calls Tryz.prog 114 #[.string (bs (l.drop (K + 1)))] w' (Lst (dg v) w'))  : Calls Tryz.prog 73 #[.string (bs l)] w (LstQVV (mkRat z v) (.int .i64 0) (.int .i64 0) w) := by
  have hs0 := bs_size l
  have HR := Lib.hid (blk_new w #[.bool false, .slice none 0 0, .slice none 0 0] 44)
  have HB := Lib.hid (below_alloc w (.cells #[.bool false, .slice none 0 0, .slice none 0 0] 44))
  have e1 := bs_take l K
  obtain ⟨j, hj⟩ : ∃ j, K + 1 = j := ⟨_, rfl⟩
  rw [hj] at hW hD
  have e2 := bs_drop l j
  have hkj : (K : Int) + 1 = (j : Int) := by omega
  have hjl : (j : Int) ≤ (l.length : Int) := by omega
  have hne : ((K : Int) == (l.length : Int)) = false := by simp; omega
  have hki : (K : Int) < (l.length : Int) := by omega
  have HC := Lib.hid hc
  have hkc : K ≤ l.length := by have := cutAt_le l; omega
  clear hc hj
  have hgetk := bs_get l K hlt (by rw [bs_size]; exact hlt)
  rw [hx] at hgetk
  have HO : ∀ w' : World, Calls Tryz.prog 35 #[.int .i64 0] w' (LstQ ((0 : Int) : Rat) w') := fun w' => ref09_int 0 w' isInt_nought
  generalize ((0 : Int) : Rat) = qz at *
  have HV0 := Lib.hid hv0
  clear hx hv0
  have HQV : Hid (qval (zneg z) (val (dg z.natAbs)) (val (dg v)) = mkRat z v) := Lib.hid (by rw [val_dg, val_dg]; unfold qval; rw [zval_of])
  generalize mkRat z v = q at *
  go_enter Tryz.func73, Tryz.ntmps73
  go_wp2
  generalize (w.alloc (.cells #[.bool false, .slice none 0 0, .slice none 0 0] 44)) = W at *
  go_loopw [5] (fun iv wr => ∃ k : Nat, iv = .int .i64 (k : Int) ∧ k ≤ K ∧ wr = W) (fun iv _ => K - (intOf iv).toNat)
  case atStart => exact ⟨0, by go_num, by omega, rfl⟩
  case round =>
    obtain ⟨k, rfl, hk, rfl⟩ := hrel
    by_cases hlt : k < K
    · have hki2 : (k : Int) < (l.length : Int) := by omega
      have hget := bs_get l k (by omega) (by rw [bs_size]; omega)
      have hx := cutAt_not (l := l) (k := k) (by rw [HC.out]; exact hlt) (by omega)
      obtain ⟨x, hxx⟩ : ∃ x, (l.getD k 0).toNat = x := ⟨_, rfl⟩
      rw [hxx] at hget hx
      have e47 : ((x : Int) != 47) = true := by simp; omega
      have e46 : ((x : Int) != 46) = true := by simp; omega
      clear hxx hx
      go_wp2
      go_roundw
      case rel => exact ⟨k + 1, by go_num, by omega, trivial⟩
      case measure => simp [intOf]; omega
    · obtain rfl : k = K := by omega
      clear hlt hk
      obtain ⟨vk0, vk1, vk2⟩ := fcells_3 HR.out
      go_wp2_with fail
      refine (hR _).mono ?_
      rintro e wv1 ⟨a1, n1, c1, rfl, h1, b⟩
      clear vk0 vk1 vk2
      replace HB := Lib.hid (below_then HB.out b)
      replace HR := Lib.hid (blk_later HR.out b)
      clear b
      have ln1 := h1.len
      have R1 := Lib.hid h1
      clear h1
      unfold whV
      have hlt9 := blk_lt HR.out
      have HN : Hid ((World.alloc wv1 (.cells #[.bool (zneg z), .slice a1 n1 c1] 126)).heap[wv1.heap.size]? = some (.cells #[.bool (zneg z), .slice a1 n1 c1] 126 (0, 0))) := Lib.hid (blk_new wv1 _ _)
      replace HB := Lib.hid (below_then HB.out (below_alloc wv1 (.cells #[.bool (zneg z), .slice a1 n1 c1] 126)))
      replace HR := Lib.hid (blk_later HR.out (below_alloc wv1 (.cells #[.bool (zneg z), .slice a1 n1 c1] 126)))
      replace R1 := Lib.hid (R1.out.later (below_alloc wv1 (.cells #[.bool (zneg z), .slice a1 n1 c1] 126)))
      obtain ⟨vk0, vk1, vk2, vk3, vk4⟩ := fcells_3_2 HR.out HN.out
      go_wp2_with fail
      refine (hW _).mono ?_
      rintro e w' ⟨rfl, rfl⟩
      clear vk0 vk1 vk2 vk3 vk4
      obtain ⟨vk0, vk1, vk2, vk3, vk4⟩ := fcells_3_2 HR.out HN.out
      go_wp2_with fail
      refine (hD _).mono ?_
      rintro e wv3 ⟨a5, n5, c5, rfl, h5, b⟩
      clear vk0 vk1 vk2 vk3 vk4
      replace HB := Lib.hid (below_then HB.out b)
      replace HR := Lib.hid (blk_later HR.out b)
      replace HN := Lib.hid (blk_later HN.out b)
      replace R1 := Lib.hid (R1.out.later b)
      clear b
      have ln5 := h5.len
      have hn5 : ((n5 : Int) == 0) = false := by
          have h9 : n5 ≠ 0 := fun e => HV0.out (dg_nil_iff.1 (ln5.trans e))
          simp [h9]
      have R5 := Lib.hid h5
      clear h5
      obtain ⟨vk0, vk1, vk2, vk3, vk4⟩ := fcells_3_2 HR.out HN.out
      go_wp2_with fail
      refine (ref09_norm (zneg z) a1 n1 c1 _ a5 n5 c5 _ _ R1.out R5.out (by omega) (by omega)).mono ?_
      rintro e wv4 ⟨a6, n6, c6, b6, m6, d6, rfl, h6, g6, b⟩
      clear vk0 vk1 vk2 vk3 vk4
      replace HB := Lib.hid (below_then HB.out b)
      replace HR := Lib.hid (blk_later HR.out b)
      replace HN := Lib.hid (blk_later HN.out b)
      clear R1
      clear R5
      clear b
      rw [HQV.out] at h6 g6 ⊢
      have R6 := Lib.hid h6
      have T6 := Lib.hid g6
      clear h6 g6
      unfold frV
      have q0 := blk_cell HR.out 0
      have q1 := blk_cell HR.out 1
      have q2 := blk_cell HR.out 2
      simp only [List.getElem?_toArray, List.getElem?_cons_zero, List.getElem?_cons_succ] at q0 q1 q2
      have f0 := blk_free HR.out 0
      have f1 := blk_free HR.out 1
      have f2 := blk_free HR.out 2
      replace R6 := Lib.hid (R6.out.stored3 HR.out ((zneg q.num)) a6 n6 c6 (.slice b6 m6 d6))
      replace T6 := Lib.hid (T6.out.stored3 HR.out ((zneg q.num)) a6 n6 c6 (.slice b6 m6 d6))
      replace HB := Lib.hid (below_set3 HB.out (show w.heap.size ≤ w.heap.size by omega) (.bool (zneg q.num)) (.slice a6 n6 c6) (.slice b6 m6 d6))
      replace HR := Lib.hid (blk_set3 HR.out (.bool (zneg q.num)) (.slice a6 n6 c6) (.slice b6 m6 d6))
      go_wp2
      refine bodyPost_ret (results_row_tmps Tryz.results73 _ _ (w.heap.size) 44 #[.bool (zneg q.num), .slice a6 n6 c6, .slice b6 m6 d6] (0, 0) _ rfl HR.out Tryz.underlying44 rfl (by kernel_rfl)) rfl ?_
      exact ⟨a6, n6, c6, b6, m6, d6, rfl, R6.out, T6.out, HB.out⟩
end Go.Proofs.YtjeigdlhjghinaaGreatDoor
