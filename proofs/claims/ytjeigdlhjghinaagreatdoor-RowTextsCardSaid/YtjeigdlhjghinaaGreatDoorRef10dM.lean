/-
  The contract of the document's answer for layer 10: Read: behind a point.
-/
import Derived.Test.YtjeigdlhjghinaaGreatDoorRef10cM
import Derived.Test.YtjeigdlhjghinaaGreatDoorG15
import Derived.Deep.RegionHeld3
namespace Go.Proofs.YtjeigdlhjghinaaGreatDoor
open Go.RowKit

set_option maxRecDepth 4096 in
set_option maxHeartbeats 8000000 in
theorem ref10_point (l : List UInt8) (w : World) (hl : l.length ≤ 1000) (K : Nat) (hc : cutAt l = K) (hlt : K < l.length) (hx : (l.getD K 0).toNat = 46) (z p : Int) (v e : Nat) (mb : Bool) (he : (l.drop (K + 1)).length = e) (he60 : e ≤ 60) (hmb : decide ((l.getD 0 0).toNat = 45) = mb) (hz : (dg z.natAbs).length ≤ 20) (hp : p < 0) (hR : ∀ w' : World, Calls Tryz.prog 112 #[.string (bs (l.take K))] w' (ReadZ z (-1) w')) (hW : ∀ w' : World, Calls Tryz.prog 113 #[.string (bs (l.drop (K + 1)))] w' (fun e w'' => e = .returned (.int .i64 p) ∧ w' = w'')) (hv : (dg v).length ≤ 20) (hD : ∀ w' : World, Calls Tryz.prog 114 #[.string (bs (l.drop (K + 1)))] w' (Lst (dg v) w'))  : Calls Tryz.prog 73 #[.string (bs l)] w (LstQVV (mkRat (zval mb (z.natAbs * 10 ^ e + v)) (10 ^ e)) (.int .i64 0) (.int .i64 0) w) := by
  have hs0 := bs_size l
  have HR := Lib.hid (blk_new w #[.bool false, .slice none 0 0, .slice none 0 0] 44)
  have HB := Lib.hid (below_alloc w (.cells #[.bool false, .slice none 0 0, .slice none 0 0] 44))
  have e1 := bs_take l K
  obtain ⟨j, hj⟩ : ∃ j, K + 1 = j := ⟨_, rfl⟩
  rw [hj] at hW hD he
  have e2 := bs_drop l j
  have hkj : (K : Int) + 1 = (j : Int) := by omega
  have hjl : (j : Int) ≤ (l.length : Int) := by omega
  have hne : ((K : Int) == (l.length : Int)) = false := by simp; omega
  have hki : (K : Int) < (l.length : Int) := by omega
  have HC := Lib.hid hc
  have hkc : K ≤ l.length := by have := cutAt_le l; omega
  clear hc hj
  have hgetk := bs_get l K hlt (by rw [bs_size]; exact hlt)
  rw [hx] at hgetk
  have hs5 := bs_size (l.drop j)
  rw [he] at hs5
  obtain ⟨x0, hx0⟩ : ∃ x0, (l.getD 0 0).toNat = x0 := ⟨_, rfl⟩
  have hget0 := bs_get l 0 (by omega) (by rw [bs_size]; omega)
  rw [hx0] at hget0 hmb
  have hm0 : ((x0 : Int) == 45) = mb := by
    rw [← hmb]
    by_cases h : x0 = 45
    · rw [h]; rfl
    · rw [decide_eq_false h]; simp; omega
  have hl0 : (0 : Int) < (l.length : Int) := by omega
  have HE1 : Hid (val (dg z.natAbs) * val (dg (10 ^ e)) = z.natAbs * 10 ^ e) := Lib.hid (by rw [val_dg, val_dg])
  have HE2 : Hid (val (dg (z.natAbs * 10 ^ e)) + val (dg v) = z.natAbs * 10 ^ e + v) := Lib.hid (by rw [val_dg, val_dg])
  have hu := val_lt (okw_dg z.natAbs)
  have hw := val_lt (okw_dg v)
  rw [val_dg] at hu hw
  have lU : (dg (z.natAbs * (10 ^ e * 2) + v)).length ≤ 20 + 9 := fig_room_len hu hw hz hv he60
  have hle2 : z.natAbs * 10 ^ e ≤ z.natAbs * (10 ^ e * 2) := Nat.mul_le_mul_left _ (by omega)
  have l7 : (dg (z.natAbs * 10 ^ e)).length ≤ 20 + 9 := Nat.le_trans (dg_length_mono (by omega)) lU
  have l8 : (dg (z.natAbs * 10 ^ e + v)).length ≤ 20 + 9 := Nat.le_trans (dg_length_mono (by omega)) lU
  have l6 : (dg (10 ^ e)).length ≤ 8 := dg_length_le (Nat.lt_of_le_of_lt (Nat.pow_le_pow_right (by decide) he60) (show 10 ^ 60 < 4294967296 ^ 8 by decide))
  have HQV : Hid (qval mb (val (dg (z.natAbs * 10 ^ e + v))) (val (dg (10 ^ e))) = mkRat (zval mb (z.natAbs * 10 ^ e + v)) (10 ^ e)) := Lib.hid (by rw [val_dg, val_dg]; rfl)
  have HT : ∀ w' : World, Calls Tryz.prog 115 #[.int .i64 (e : Int)] w' (Lst (dg (10 ^ e)) w') := fun w' => ref10_tens e w' (by omega)
  generalize mkRat (zval mb (z.natAbs * 10 ^ e + v)) (10 ^ e) = q at *
  clear hx hmb hx0 hu hw lU hle2 he
  go_enter Tryz.func73, Tryz.ntmps73
  go_wp2
  generalize (w.alloc (.cells #[.bool false, .slice none 0 0, .slice none 0 0] 44)) = W at *
  go_loopw [5] (fun iv wr => ∃ k : Nat, iv = .int .i64 (k : Int) ∧ k ≤ K ∧ wr = W) (fun iv _ => K - (intOf iv).toNat)
  case atStart => exact ⟨0, by go_num, by omega, rfl⟩
  case round =>
    obtain ⟨k, rfl, hk, rfl⟩ := hrel
    by_cases hlt : k < K
    · have hki2 : (k : Int) < (l.length : Int) := by omega
      have hget := bs_get l k (by omega) (by rw [bs_size]; omega)
      have hx := cutAt_not (l := l) (k := k) (by rw [HC.out]; exact hlt) (by omega)
      obtain ⟨x, hxx⟩ : ∃ x, (l.getD k 0).toNat = x := ⟨_, rfl⟩
      rw [hxx] at hget hx
      have e47 : ((x : Int) != 47) = true := by simp; omega
      have e46 : ((x : Int) != 46) = true := by simp; omega
      clear hxx hx
      go_wp2
      go_roundw
      case rel => exact ⟨k + 1, by go_num, by omega, trivial⟩
      case measure => simp [intOf]; omega
    · obtain rfl : k = K := by omega
      clear hlt hk
      obtain ⟨vk0, vk1, vk2⟩ := fcells_3 HR.out
      go_wp2_with fail
      refine (hR _).mono ?_
      rintro e wv1 ⟨a1, n1, c1, rfl, h1, b⟩
      clear vk0 vk1 vk2
      replace HB := Lib.hid (below_then HB.out b)
      replace HR := Lib.hid (blk_later HR.out b)
      clear b
      have ln1 := h1.len
      have R1 := Lib.hid h1
      clear h1
      unfold whV
      have hlt9 := blk_lt HR.out
      have HN : Hid ((World.alloc wv1 (.cells #[.bool (zneg z), .slice a1 n1 c1] 126)).heap[wv1.heap.size]? = some (.cells #[.bool (zneg z), .slice a1 n1 c1] 126 (0, 0))) := Lib.hid (blk_new wv1 _ _)
      replace HB := Lib.hid (below_then HB.out (below_alloc wv1 (.cells #[.bool (zneg z), .slice a1 n1 c1] 126)))
      replace HR := Lib.hid (blk_later HR.out (below_alloc wv1 (.cells #[.bool (zneg z), .slice a1 n1 c1] 126)))
      replace R1 := Lib.hid (R1.out.later (below_alloc wv1 (.cells #[.bool (zneg z), .slice a1 n1 c1] 126)))
      obtain ⟨vk0, vk1, vk2, vk3, vk4⟩ := fcells_3_2 HR.out HN.out
      go_wp2_with fail
      refine (hW _).mono ?_
      rintro e w' ⟨rfl, rfl⟩
      clear vk0 vk1 vk2 vk3 vk4
      obtain ⟨vk0, vk1, vk2, vk3, vk4⟩ := fcells_3_2 HR.out HN.out
      go_wp2_with fail
      refine (hD _).mono ?_
      rintro e wv3 ⟨a5, n5, c5, rfl, h5, b⟩
      clear vk0 vk1 vk2 vk3 vk4
      replace HB := Lib.hid (below_then HB.out b)
      replace HR := Lib.hid (blk_later HR.out b)
      replace HN := Lib.hid (blk_later HN.out b)
      replace R1 := Lib.hid (R1.out.later b)
      clear b
      have ln5 := h5.len
      have R5 := Lib.hid h5
      clear h5
      go_wp2
      replace HB := Lib.hid (below_then HB.out ((Below.refl _ _).drew : Below wv3.heap.size wv3 wv3.drew))
      replace HN : Hid (wv3.drew.heap[wv1.heap.size]? = _) := Lib.hid HN.out
      replace HR : Hid (wv3.drew.heap[w.heap.size]? = some (.cells #[.bool false, .slice none 0 0, .slice none 0 0] 44 (0, 0))) := Lib.hid HR.out
      replace R1 := Lib.hid (R1.out.later ((Below.refl _ _).drew : Below wv3.heap.size wv3 wv3.drew))
      replace R5 := Lib.hid (R5.out.later ((Below.refl _ _).drew : Below wv3.heap.size wv3 wv3.drew))
      have pSn := fcells_2 HN.out
      go_region_held3 (fun w' => w'.cell? ⟨wv1.heap.size, 0, none⟩ = some (.bool (zneg z)) ∧ w'.cell? ⟨wv1.heap.size, 1, none⟩ = some (.slice a1 n1 c1)) (exact pSn)
        (first
        | (go_at_call 115; (first
          | (refine (HT _).mono ?_; rintro e wp1 ⟨a6, n6, c6, rfl, h6, b⟩; replace HB := Lib.hid (below_then HB.out b); replace HN := Lib.hid (blk_later HN.out b); replace HR := Lib.hid (blk_later HR.out b); replace R1 := Lib.hid (R1.out.later b); replace R5 := Lib.hid (R5.out.later b); have R6 := Lib.hid h6; have ln6 := h6.len; clear h6; clear b; clear pSn; have pSn := fcells_2 HN.out; have pM1 := True.intro)))
        | (go_at_call 99; (first
          | (have pm1 := pM1; refine (ref04_mul a1 n1 c1 _ a6 n6 c6 _ _ R1.out R6.out (by omega) (by omega)).mono ?_; rintro e wp2 ⟨a7, n7, c7, rfl, h7, b⟩; replace HB := Lib.hid (below_then HB.out b); replace HN := Lib.hid (blk_later HN.out b); replace HR := Lib.hid (blk_later HR.out b); replace R1 := Lib.hid (R1.out.later b); replace R5 := Lib.hid (R5.out.later b); clear R6; rw [HE1.out] at h7; have R7 := Lib.hid h7; have ln7 := h7.len; clear h7; clear b; clear pSn; have pSn := fcells_2 HN.out; clear pM1 pm1; have pM2 := True.intro)))
        | (go_at_call 69; (first
          | (have pm2 := pM2; refine (ref02_add a7 n7 c7 _ a5 n5 c5 _ _ R7.out R5.out (by omega) (by omega)).mono ?_; rintro e wp3 ⟨a8, n8, c8, rfl, h8, b⟩; replace HB := Lib.hid (below_then HB.out b); replace HN := Lib.hid (blk_later HN.out b); replace HR := Lib.hid (blk_later HR.out b); replace R1 := Lib.hid (R1.out.later b); replace R5 := Lib.hid (R5.out.later b); clear R7; rw [HE2.out] at h8; have R8 := Lib.hid h8; have ln8 := h8.len; clear h8; clear b; clear pSn; have pSn := fcells_2 HN.out; clear pM2 pm2; have pM3 := True.intro))))
      clear R1 R5 pSn
      go_wp2
      replace HB := Lib.hid (below_then HB.out ((Below.refl _ _).drew : Below wp3.heap.size wp3 wp3.drew))
      replace HN : Hid (wp3.drew.heap[wv1.heap.size]? = _) := Lib.hid HN.out
      replace HR : Hid (wp3.drew.heap[w.heap.size]? = some (.cells #[.bool false, .slice none 0 0, .slice none 0 0] 44 (0, 0))) := Lib.hid HR.out
      replace R8 := Lib.hid (R8.out.later ((Below.refl _ _).drew : Below wp3.heap.size wp3 wp3.drew))
      have rSn := fcells_2 HN.out
      go_region_held3 (fun w' => w'.cell? ⟨wv1.heap.size, 0, none⟩ = some (.bool (zneg z)) ∧ w'.cell? ⟨wv1.heap.size, 1, none⟩ = some (.slice a1 n1 c1)) (first | with_reducible exact rSn | with_reducible exact rSb.out)
        (first
        | (go_at_call 115; (first
          | (refine (HT _).mono ?_; rintro e wr1 ⟨a6, n6, c6, rfl, h6, b⟩; replace HB := Lib.hid (below_then HB.out b); replace HN := Lib.hid (blk_later HN.out b); replace HR := Lib.hid (blk_later HR.out b); replace R8 := Lib.hid (R8.out.later b); have R6 := Lib.hid h6; have ln6 := h6.len; clear h6; clear b; clear rSn; have rSn := fcells_2 HN.out; have rM1 := True.intro)))
        | (go_at_call 26; (first
          | (have rm1 := rM1; refine (ref09_norm mb a8 n8 c8 _ a6 n6 c6 _ _ R8.out R6.out (by omega) (by omega)).mono ?_; rintro e wr2 ⟨a9, n9, c9, b9, m9, d9, rfl, h9, g9, b⟩; replace HB := Lib.hid (below_then HB.out b); replace HN := Lib.hid (blk_later HN.out b); replace HR := Lib.hid (blk_later HR.out b); replace R8 := Lib.hid (R8.out.later b); clear R6; rw [HQV.out] at h9 g9 ⊢; have R9 := Lib.hid h9; have T9 := Lib.hid g9; clear h9 g9; unfold frV; obtain ⟨r0, r1, r2⟩ := fcells_3 HR.out; have f0 := blk_free HR.out 0; have f1 := blk_free HR.out 1; have f2 := blk_free HR.out 2; have rSb := Lib.hid (fcells_2 (blk_far3 (g := w.heap.size) HN.out (by omega) (.bool (zneg q.num)) (.slice a9 n9 c9) (.slice b9 m9 d9))); clear b; clear rSn; have rSn := fcells_2 HN.out; clear rM1 rm1; have rM2 := True.intro))))
      all_goals (
        have HG := Lib.hid (blk_set3 HR.out (.bool (zneg q.num)) (.slice a9 n9 c9) (.slice b9 m9 d9))
        have HL := Lib.hid (below_set3 HB.out (show w.heap.size ≤ w.heap.size by omega) (.bool (zneg q.num)) (.slice a9 n9 c9) (.slice b9 m9 d9))
        have HW1 := Lib.hid (R9.out.stored3 HR.out (zneg q.num) a9 n9 c9 (.slice b9 m9 d9))
        have HW2 := Lib.hid (T9.out.stored3 HR.out (zneg q.num) a9 n9 c9 (.slice b9 m9 d9))
        go_wp2
        refine bodyPost_ret (results_row_tmps Tryz.results73 _ _ (w.heap.size) 44 #[.bool (zneg q.num), .slice a9 n9 c9, .slice b9 m9 d9] (0, 0) _ rfl HG.out Tryz.underlying44 rfl (by kernel_rfl)) rfl ?_
        exact ⟨a9, n9, c9, b9, m9, d9, rfl, HW1.out, HW2.out, HL.out⟩)
end Go.Proofs.YtjeigdlhjghinaaGreatDoor
