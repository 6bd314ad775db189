/-
  The document's answer of layer 11: Dot. Written by genref11d.py.
-/
import Derived.Test.YtpjkhbfglgmnmaaGreatDoorG18
import Derived.Test.YtpjkhbfglgmnmaaGreatDoorG12
import Derived.Deep.RegionLaw
namespace Go.Proofs.YtpjkhbfglgmnmaaGreatDoor
open Go.RowKit

theorem rdot_snoc : ∀ {l m : List Rat} (x y : Rat), l.length = m.length → rdot (l ++ [x]) (m ++ [y]) = rdot l m + x * y
  | [], [], x, y, _ => by show x * y + 0 = 0 + x * y; rw [Rat.add_zero, Rat.zero_add]
  | [], _ :: _, _, _, h => by simp at h
  | _ :: _, [], _, _, h => by simp at h
  | p :: l, q :: m, x, y, h => by
    show p * q + rdot (l ++ [x]) (m ++ [y]) = (p * q + rdot l m) + x * y
    rw [rdot_snoc x y (by simpa using h), Rat.add_assoc]
set_option maxRecDepth 4096 in
set_option maxHeartbeats 8000000 in
theorem ref11_dot (a0 : Option Addr) (n0 c0 : Nat) (qs0 : List Rat) (a1 : Option Addr) (n1 c1 : Nat) (qs1 : List Rat) (w : World) (h0 : Rw w a0 n0 c0 qs0) (h1 : Rw w a1 n1 c1 qs1) (hs1 : Hid (n1 = n0)) (hn : n0 ≤ 100) (ht0 : ∀ q ∈ qs0, qlen q ≤ 40) (ht1 : ∀ q ∈ qs1, qlen q ≤ 40) :
    Calls Tryz.prog 49 #[.slice a0 n0 c0, .slice a1 n1 c1] w (LstQ (rdot qs0 qs1) w) := by
  obtain rfl := hs1.out
  clear hs1
  have HB := Lib.hid (below_alloc w (.cells #[.bool false, .slice none 0 0, .slice none 0 0] 70))
  have HR := Lib.hid (blk_new w #[.bool false, .slice none 0 0, .slice none 0 0] 70)
  have HK0 := Lib.hid (h0.later HB.out)
  have HK1 := Lib.hid (h1.later HB.out)
  have HLl0 := Lib.hid h0.len
  have HLl1 := Lib.hid h1.len
  have hbd0 := h0.bound
  have hbd1 := h1.bound
  have HTh0 := Lib.hid ht0
  have HTh1 := Lib.hid ht1
  clear h0 h1 ht0 ht1
  obtain ⟨z, hz⟩ : ∃ r, ((0 : Int) : Rat) = r := ⟨_, rfl⟩
  have EZ := Lib.hid hz
  have HZ0 : Hid (z = 0) := Lib.hid (by rw [← hz]; rfl)
  clear hz
  obtain ⟨P, hP⟩ : ∃ P, rdot qs0 qs1 = P := ⟨_, rfl⟩
  have HP := Lib.hid hP
  rw [hP]
  clear hP
  go_enter Tryz.func49, Tryz.ntmps49
  go_wp2_with fail
  refine (ref09_int 0 _ isInt_nought).mono ?_
  rintro e w1 ⟨a2, n2, c2, b2, m2, d2, rfl, h1, g1, b⟩
  replace HB := Lib.hid (below_then HB.out b)
  replace HR := Lib.hid (blk_later HR.out b)
  replace HK0 := Lib.hid (HK0.out.later b)
  replace HK1 := Lib.hid (HK1.out.later b)
  clear b
  rw [EZ.out] at h1 g1 ⊢
  have hlt0 : w.heap.size < w1.heap.size := (Array.getElem?_eq_some_iff.1 HR.out).1
  unfold frV
  have ba := below_alloc w1 (.cells #[.bool (zneg z.num), .slice a2 n2 c2, .slice b2 m2 d2] 70)
  have M0 : Hid ((World.alloc w1 (.cells #[.bool (zneg z.num), .slice a2 n2 c2, .slice b2 m2 d2] 70)).heap[w1.heap.size]? = some (.cells #[.bool (zneg z.num), .slice a2 n2 c2, .slice b2 m2 d2] 70 (0, 0))) := Lib.hid (blk_new w1 _ _)
  have HB0 := Lib.hid (below_then HB.out ba)
  have HR0 := Lib.hid (blk_later HR.out ba)
  have HW0 := Lib.hid ba
  have S0 := Lib.hid (h1.later ba)
  have T0 := Lib.hid (g1.later ba)
  clear HB HR ba h1 g1
  go_wp2
  go_loopw [6] (fun iv wr => ∃ (k : Nat) (q : Rat) (a2 : Option Addr) (n2 c2 : Nat) (b2 : Option Addr) (m2 d2 : Nat), k ≤ n1 ∧ iv = .int .i64 (k : Int) ∧ Hid (rdot (qs0.take k) (qs1.take k) = q) ∧ Hid (qlen q ≤ 1 + k * 90) ∧
    Hid (wr.heap[w1.heap.size]? = some (.cells #[.bool (zneg q.num), .slice a2 n2 c2, .slice b2 m2 d2] 70 (0, 0))) ∧ Hid (Wd wr a2 n2 c2 (dg q.num.natAbs)) ∧ Hid (Wd wr b2 m2 d2 (dg q.den)) ∧
    Hid (wr.heap[w.heap.size]? = some (.cells #[.bool false, .slice none 0 0, .slice none 0 0] 70 (0, 0))) ∧ Hid (Below w1.heap.size w1 wr) ∧ Hid (Below w.heap.size w wr)) (fun iv _ => n1 - (intOf iv).toNat)
  case atStart => exact ⟨0, z, a2, n2, c2, b2, m2, d2, by omega, rfl, Lib.hid (by rw [HZ0.out]; rfl), Lib.hid (by rw [HZ0.out, qlen_nought]; omega), M0, S0, T0, HR0, HW0, HB0⟩
  case round =>
    clear M0 S0 T0 HR0 HW0 HB0
    obtain ⟨k, q, a2, n2, c2, b2, m2, d2, hk, rfl, HQ, HL, M, S, T, HR, HB, HG⟩ := hrel
    by_cases hlt : k < n1
    · have HT0 : Hid (qs0.take (k + 1) = qs0.take k ++ [qs0.getD k 0]) := Lib.hid (q_more (by rw [HLl0.out]; exact hlt))
      have HT1 : Hid (qs1.take (k + 1) = qs1.take k ++ [qs1.getD k 0]) := Lib.hid (q_more (by rw [HLl1.out]; exact hlt))
      have HTk : Hid ((qs0.take k).length = (qs1.take k).length) := Lib.hid (by rw [take_len (by rw [HLl0.out]; exact hk), take_len (by rw [HLl1.out]; exact hk)])
      have hq0 : qlen (qs0.getD k 0) ≤ 40 := HTh0.out _ (q_mem (by rw [HLl0.out]; exact hlt))
      have hq1 : qlen (qs1.getD k 0) ≤ 40 := HTh1.out _ (q_mem (by rw [HLl1.out]; exact hlt))
      obtain ⟨bb0, off0, rfl, ak0, nk0, ck0, bk0, mk0, dk0, he0, hA0, hB0⟩ := HK0.out.at hlt
      have hth0 : nk0 ≤ 40 := by rw [← hA0.len]; exact Nat.le_trans (qlen_num _) (HTh0.out _ (q_mem (by rw [HLl0.out]; exact hlt)))
      have htj0 : mk0 ≤ 40 := by rw [← hB0.len]; exact Nat.le_trans (qlen_den _) (HTh0.out _ (q_mem (by rw [HLl0.out]; exact hlt)))
      have HE0 := Lib.hid he0
      have AK0 := Lib.hid hA0
      have BK0 := Lib.hid hB0
      clear he0 hA0 hB0
      obtain ⟨bb1, off1, rfl, ak1, nk1, ck1, bk1, mk1, dk1, he1, hA1, hB1⟩ := HK1.out.at hlt
      have hth1 : nk1 ≤ 40 := by rw [← hA1.len]; exact Nat.le_trans (qlen_num _) (HTh1.out _ (q_mem (by rw [HLl1.out]; exact hlt)))
      have htj1 : mk1 ≤ 40 := by rw [← hB1.len]; exact Nat.le_trans (qlen_den _) (HTh1.out _ (q_mem (by rw [HLl1.out]; exact hlt)))
      have HE1 := Lib.hid he1
      have AK1 := Lib.hid hA1
      have BK1 := Lib.hid hB1
      clear he1 hA1 hB1
      generalize qs0.getD k 0 = qk0 at *
      generalize qs1.getD k 0 = qk1 at *
      obtain ⟨p, hp⟩ : ∃ p, qk0 * qk1 = p := ⟨_, rfl⟩
      have hpl : qlen p ≤ 81 := hp ▸ Nat.le_trans (qlen_mul _ _) (by omega)
      obtain ⟨s, hs⟩ : ∃ s, q + p = s := ⟨_, rfl⟩
      have hsl : qlen s ≤ 1 + (k + 1) * 90 := hs ▸ Nat.le_trans (qlen_add _ _) (by have := HL.out; omega)
      have HS9 : Hid (rdot (qs0.take (k + 1)) (qs1.take (k + 1)) = s) := Lib.hid (by rw [HT0.out, HT1.out, rdot_snoc _ _ HTk.out, HQ.out, hp, hs])
      have EP := Lib.hid hp
      have ES := Lib.hid hs
      have HL9 := Lib.hid hsl
      have hn2 : n2 ≤ 9100 := by rw [← S.out.len]; exact Nat.le_trans (qlen_num _) (Nat.le_trans HL.out (by omega))
      have hm2 : m2 ≤ 9100 := by rw [← T.out.len]; exact Nat.le_trans (qlen_den _) (Nat.le_trans HL.out (by omega))
      clear hp hs hsl HT0 HT1 HTk hq0 hq1 HQ HL
      have hki : (k : Int) < (n1 : Int) := by omega
      obtain ⟨e00, e10, e20⟩ := three_on HE0.out HB.out; obtain ⟨e01, e11, e21⟩ := three_on HE1.out HB.out; obtain ⟨x0, x1, x2⟩ := fcells_3 M.out
      go_wp2
      have b0 : Below wr.heap.size wr wr.drew := (Below.refl _ _).drew
      replace HB := Lib.hid (below_then HB.out b0)
      replace HG := Lib.hid (below_then HG.out b0)
      replace M := Lib.hid (blk_later M.out b0)
      replace HR := Lib.hid (blk_later HR.out b0)
      replace S := Lib.hid (S.out.later b0)
      replace T := Lib.hid (T.out.later b0)
      clear e00 e10 e20 e01 e11 e21 x0 x1 x2 b0
      obtain ⟨e00, e10, e20⟩ := three_on HE0.out HB.out; obtain ⟨e01, e11, e21⟩ := three_on HE1.out HB.out; obtain ⟨x0, x1, x2⟩ := fcells_3 M.out
      go_region_law (first
        | (go_simp; go_at_call 70; refine (ref09_mul_q _ _ qk0 qk1 _ (Rt.of (AK0.out.later HB.out) (BK0.out.later HB.out) (by omega) (by omega)) (Rt.of (AK1.out.later HB.out) (BK1.out.later HB.out) (by omega) (by omega))).mono ?_; rintro e w4 ⟨a4, n4, c4, b4, m4, d4, rfl, h4, g4, bw⟩; rw [EP.out] at h4 g4 ⊢; clear e00 e10 e20 e01 e11 e21 x0 x1 x2; replace HB := Lib.hid (below_then HB.out bw); replace HG := Lib.hid (below_then HG.out bw); replace M := Lib.hid (blk_later M.out bw); replace HR := Lib.hid (blk_later HR.out bw); replace S := Lib.hid (S.out.later bw); replace T := Lib.hid (T.out.later bw); have HA4 := Lib.hid h4; have HB4 := Lib.hid g4; have hn4 : n4 ≤ 81 := Nat.le_trans (Nat.le_of_eq h4.len.symm) (Nat.le_trans (qlen_num _) hpl); have hm4 : m4 ≤ 81 := Nat.le_trans (Nat.le_of_eq g4.len.symm) (Nat.le_trans (qlen_den _) hpl); clear bw h4 g4; unfold frV; obtain ⟨e00, e10, e20⟩ := three_on HE0.out HB.out; obtain ⟨e01, e11, e21⟩ := three_on HE1.out HB.out; obtain ⟨x0, x1, x2⟩ := fcells_3 M.out)
        | (go_simp; go_at_call 51; refine (ref09_add_q _ _ q p _ (Rt.of S.out T.out (by omega) (by omega)) (Rt.of HA4.out HB4.out (by omega) (by omega))).mono ?_; rintro e w5 ⟨a5, n5, c5, b5, m5, d5, rfl, h5, g5, bw⟩; rw [ES.out] at h5 g5 ⊢; clear e00 e10 e20 e01 e11 e21 x0 x1 x2; replace HB := Lib.hid (below_then HB.out bw); replace HG := Lib.hid (below_then HG.out bw); replace M := Lib.hid (blk_later M.out bw); replace HR := Lib.hid (blk_later HR.out bw); have HA5 := Lib.hid h5; have HB5 := Lib.hid g5; clear bw h5 g5 S T HA4 HB4; unfold frV; obtain ⟨x0, x1, x2⟩ := fcells_3 M.out; have f0 := blk_free M.out 0; have f1 := blk_free M.out 1; have f2 := blk_free M.out 2))
      all_goals (
        have M9 := Lib.hid (blk_set3 M.out (.bool (zneg s.num)) (.slice a5 n5 c5) (.slice b5 m5 d5))
        have S9 := Lib.hid (HA5.out.stored3 M.out (zneg s.num) a5 n5 c5 (.slice b5 m5 d5))
        have T9 := Lib.hid (HB5.out.stored3 M.out (zneg s.num) a5 n5 c5 (.slice b5 m5 d5))
        have R9 := Lib.hid (blk_far3 HR.out (show w.heap.size ≠ w1.heap.size by omega) (.bool (zneg s.num)) (.slice a5 n5 c5) (.slice b5 m5 d5))
        have B9 := Lib.hid (below_set3 HB.out (Nat.le_refl _) (.bool (zneg s.num)) (.slice a5 n5 c5) (.slice b5 m5 d5))
        have G9 := Lib.hid (below_set3 HG.out (Nat.le_of_lt hlt0) (.bool (zneg s.num)) (.slice a5 n5 c5) (.slice b5 m5 d5))
        clear M HR HB HG HA5 HB5
        go_wp2
        go_roundw
        case rel => exact ⟨k + 1, s, a5, n5, c5, b5, m5, d5, by omega, by go_num, HS9, HL9, M9, S9, T9, R9, B9, G9⟩
        case measure => simp [intOf]; omega)
    · obtain rfl : k = n1 := by omega
      obtain rfl : q = P := by
        rw [← HP.out, ← HQ.out, List.take_of_length_le (by rw [HLl0.out]; exact Nat.le_refl _), List.take_of_length_le (by rw [HLl1.out]; exact Nat.le_refl _)]
      obtain ⟨x0, x1, x2⟩ := fcells_3 M.out
      obtain ⟨y0, y1, y2⟩ := fcells_3 HR.out
      have f0 := blk_free HR.out 0
      have f1 := blk_free HR.out 1
      have f2 := blk_free HR.out 2
      have R9 := Lib.hid (blk_set3 HR.out (.bool (zneg q.num)) (.slice a2 n2 c2) (.slice b2 m2 d2))
      have S9 := Lib.hid (S.out.stored3 HR.out (zneg q.num) a2 n2 c2 (.slice b2 m2 d2))
      have T9 := Lib.hid (T.out.stored3 HR.out (zneg q.num) a2 n2 c2 (.slice b2 m2 d2))
      have G9 := Lib.hid (below_set3 HG.out (Nat.le_refl _) (.bool (zneg q.num)) (.slice a2 n2 c2) (.slice b2 m2 d2))
      clear M S T HR HB HG HQ HL
      go_wp2
      refine bodyPost_ret (results_cell_row Tryz.results49 _ _ (w.heap.size) 70 #[.bool (zneg q.num), .slice a2 n2 c2, .slice b2 m2 d2] (0, 0) _ rfl R9.out Tryz.underlying70 rfl (by kernel_rfl)) rfl ?_
      exact ⟨a2, n2, c2, b2, m2, d2, rfl, S9.out, T9.out, G9.out⟩
end Go.Proofs.YtpjkhbfglgmnmaaGreatDoor
