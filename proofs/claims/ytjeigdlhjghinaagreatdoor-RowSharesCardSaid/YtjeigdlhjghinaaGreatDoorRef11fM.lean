/-
  The document's answer of layer 11: Max. Written by genref11d.py.
-/
import Derived.Test.YtjeigdlhjghinaaGreatDoorG24
import Derived.Test.YtjeigdlhjghinaaGreatDoorG13
namespace Go.Proofs.YtjeigdlhjghinaaGreatDoor
open Go.RowKit

theorem rnormFrom_snoc : ∀ (l : List Rat) (m x : Rat), rnormFrom m (l ++ [x]) = if rnormFrom m l < qabs x then qabs x else rnormFrom m l
  | [], m, x => rfl
  | y :: l, m, x => by
    show rnormFrom _ (l ++ [x]) = _
    rw [rnormFrom_snoc l]; rfl
theorem sgn_pos_lt (p q : Rat) : 0 < sgn (p - q).num ↔ q < p := by
  have h1 : 0 < sgn (p - q).num ↔ 0 < (p - q).num := by unfold sgn; split <;> (try split) <;> omega
  rw [h1, Rat.lt_iff_sub_pos q p, Rat.lt_iff_le_and_ne (a := 0), ← Rat.num_nonneg]
  constructor
  · intro h; exact ⟨by omega, fun e => by rw [← e] at h; simp at h⟩
  · rintro ⟨h2, h3⟩
    have : (p - q).num ≠ 0 := fun e => h3 (Rat.num_eq_zero.1 e).symm
    omega
set_option maxRecDepth 4096 in
set_option maxHeartbeats 8000000 in
theorem ref11_max (a0 : Option Addr) (n0 c0 : Nat) (qs0 : List Rat) (w : World) (h0 : Rw w a0 n0 c0 qs0) (hn : n0 ≤ 1000) (ht0 : ∀ q ∈ qs0, qlen q ≤ 10000) :
    Calls Tryz.prog 22 #[.slice a0 n0 c0] w (LstQ (rnorm qs0) w) := by
  have HB := Lib.hid (below_alloc w (.cells #[.bool false, .slice none 0 0, .slice none 0 0] 44))
  have HR := Lib.hid (blk_new w #[.bool false, .slice none 0 0, .slice none 0 0] 44)
  have HK0 := Lib.hid (h0.later HB.out)
  have HLl0 := Lib.hid h0.len
  have hbd0 := h0.bound
  have HTh0 := Lib.hid ht0
  clear h0 ht0
  obtain ⟨z, hz⟩ : ∃ r, ((0 : Int) : Rat) = r := ⟨_, rfl⟩
  have EZ := Lib.hid hz
  have HZ0 : Hid (z = 0) := Lib.hid (by rw [← hz]; rfl)
  clear hz
  obtain ⟨P, hP⟩ : ∃ P, rnorm qs0 = P := ⟨_, rfl⟩
  have HP := Lib.hid hP
  rw [hP]
  clear hP
  go_enter Tryz.func22, Tryz.ntmps22
  go_wp2_with fail
  refine (ref09_int 0 _ isInt_nought).mono ?_
  rintro e w1 ⟨a2, n2, c2, b2, m2, d2, rfl, h1, g1, b⟩
  replace HB := Lib.hid (below_then HB.out b)
  replace HR := Lib.hid (blk_later HR.out b)
  replace HK0 := Lib.hid (HK0.out.later b)
  clear b
  rw [EZ.out] at h1 g1 ⊢
  have hlt0 : w.heap.size < w1.heap.size := (Array.getElem?_eq_some_iff.1 HR.out).1
  unfold frV
  have ba := below_alloc w1 (.cells #[.bool (zneg z.num), .slice a2 n2 c2, .slice b2 m2 d2] 44)
  have M0 : Hid ((World.alloc w1 (.cells #[.bool (zneg z.num), .slice a2 n2 c2, .slice b2 m2 d2] 44)).heap[w1.heap.size]? = some (.cells #[.bool (zneg z.num), .slice a2 n2 c2, .slice b2 m2 d2] 44 (0, 0))) := Lib.hid (blk_new w1 _ _)
  have HB0 := Lib.hid (below_then HB.out ba)
  have HR0 := Lib.hid (blk_later HR.out ba)
  have HW0 := Lib.hid ba
  have S0 := Lib.hid (h1.later ba)
  have T0 := Lib.hid (g1.later ba)
  clear HB HR ba h1 g1
  go_wp2
  go_loopw [4] (fun iv wr => ∃ (k : Nat) (q : Rat) (a2 : Option Addr) (n2 c2 : Nat) (b2 : Option Addr) (m2 d2 : Nat), k ≤ n0 ∧ iv = .int .i64 (k : Int) ∧ Hid (rnorm (qs0.take k) = q) ∧ Hid (qlen q ≤ 10000) ∧
    Hid (wr.heap[w1.heap.size]? = some (.cells #[.bool (zneg q.num), .slice a2 n2 c2, .slice b2 m2 d2] 44 (0, 0))) ∧ Hid (Wd wr a2 n2 c2 (dg q.num.natAbs)) ∧ Hid (Wd wr b2 m2 d2 (dg q.den)) ∧
    Hid (wr.heap[w.heap.size]? = some (.cells #[.bool false, .slice none 0 0, .slice none 0 0] 44 (0, 0))) ∧ Hid (Below w1.heap.size w1 wr) ∧ Hid (Below w.heap.size w wr)) (fun iv _ => n0 - (intOf iv).toNat)
  case atStart => exact ⟨0, z, a2, n2, c2, b2, m2, d2, by omega, rfl, Lib.hid (by rw [HZ0.out]; rfl), Lib.hid (by rw [HZ0.out, qlen_nought]; omega), M0, S0, T0, HR0, HW0, HB0⟩
  case round =>
    clear M0 S0 T0 HR0 HW0 HB0
    obtain ⟨k, q, a2, n2, c2, b2, m2, d2, hk, rfl, HQ, HL, M, S, T, HR, HB, HG⟩ := hrel
    by_cases hlt : k < n0
    · have HT0 : Hid (qs0.take (k + 1) = qs0.take k ++ [qs0.getD k 0]) := Lib.hid (q_more (by rw [HLl0.out]; exact hlt))
      have hq0 : qlen (qs0.getD k 0) ≤ 10000 := HTh0.out _ (q_mem (by rw [HLl0.out]; exact hlt))
      obtain ⟨bb0, off0, rfl, ak0, nk0, ck0, bk0, mk0, dk0, he0, hA0, hB0⟩ := HK0.out.at hlt
      have hth0 : nk0 ≤ 10000 := by rw [← hA0.len]; exact Nat.le_trans (qlen_num _) (HTh0.out _ (q_mem (by rw [HLl0.out]; exact hlt)))
      have htj0 : mk0 ≤ 10000 := by rw [← hB0.len]; exact Nat.le_trans (qlen_den _) (HTh0.out _ (q_mem (by rw [HLl0.out]; exact hlt)))
      have HE0 := Lib.hid he0
      have AK0 := Lib.hid hA0
      have BK0 := Lib.hid hB0
      clear he0 hA0 hB0
      generalize qs0.getD k 0 = qk0 at *
      obtain ⟨y, hy⟩ : ∃ y, qabs qk0 = y := ⟨_, rfl⟩
      have hyl : qlen y ≤ 10000 := by rw [← hy, qlen_abs]; exact hq0
      have EY := Lib.hid hy
      have HS9 : Hid (rnorm (qs0.take (k + 1)) = if q < y then y else q) := Lib.hid (by
        have h8 := HQ.out
        unfold rnorm at h8 ⊢
        rw [HT0.out, rnormFrom_snoc, h8, hy])
      have hn2 : n2 ≤ 10000 := by rw [← S.out.len]; exact Nat.le_trans (qlen_num _) HL.out
      have hm2 : m2 ≤ 10000 := by rw [← T.out.len]; exact Nat.le_trans (qlen_den _) HL.out
      clear hy HT0 hq0 HQ
      have HYL := Lib.hid hyl
      have hki : (k : Int) < (n0 : Int) := by omega
      obtain ⟨e00, e10, e20⟩ := three_on HE0.out HB.out
      go_wp2_with fail
      refine (ref09_abs_q _ qk0 _ (Rt.of (AK0.out.later HB.out) (BK0.out.later HB.out) (by omega) (by omega))).mono ?_
      rintro e w4 ⟨a4, n4, c4, b4, m4, d4, rfl, h4, g4, bw⟩
      clear e00 e10 e20
      rw [EY.out] at h4 g4 ⊢
      have hn4 : n4 ≤ 10000 := Nat.le_trans (Nat.le_of_eq h4.len.symm) (Nat.le_trans (qlen_num _) hyl)
      have hm4 : m4 ≤ 10000 := Nat.le_trans (Nat.le_of_eq g4.len.symm) (Nat.le_trans (qlen_den _) hyl)
      have hsz4 : w1.heap.size < w4.heap.size := Nat.lt_of_lt_of_le (Array.getElem?_eq_some_iff.1 M.out).1 bw.size
      have ba := below_alloc w4 (.cells #[.bool (zneg y.num), .slice a4 n4 c4, .slice b4 m4 d4] 44)
      have bx := below_then bw ba
      replace HB := Lib.hid (below_then HB.out bx)
      replace HG := Lib.hid (below_then HG.out bx)
      replace M := Lib.hid (blk_later M.out bx)
      replace HR := Lib.hid (blk_later HR.out bx)
      replace S := Lib.hid (S.out.later bx)
      replace T := Lib.hid (T.out.later bx)
      have XB : Hid ((World.alloc w4 (.cells #[.bool (zneg y.num), .slice a4 n4 c4, .slice b4 m4 d4] 44)).heap[w4.heap.size]? = some (.cells #[.bool (zneg y.num), .slice a4 n4 c4, .slice b4 m4 d4] 44 (0, 0))) := Lib.hid (blk_new w4 _ _)
      have U := Lib.hid (h4.later ba)
      have V := Lib.hid (g4.later ba)
      clear bw ba bx h4 g4
      unfold frV
      obtain ⟨x0, x1, x2⟩ := fcells_3 M.out
      obtain ⟨y0, y1, y2⟩ := fcells_3 XB.out
      go_wp2_with fail
      refine (ref09_cmp_q _ _ y q _ (Rt.of U.out V.out (by omega) (by omega)) (Rt.of S.out T.out (by omega) (by omega))).mono ?_
      rintro e w5 ⟨rfl, b5⟩
      clear x0 x1 x2 y0 y1 y2
      replace HB := Lib.hid (below_then HB.out b5)
      replace HG := Lib.hid (below_then HG.out b5)
      replace M := Lib.hid (blk_later M.out b5)
      replace HR := Lib.hid (blk_later HR.out b5)
      replace XB := Lib.hid (blk_later XB.out b5)
      replace S := Lib.hid (S.out.later b5)
      replace T := Lib.hid (T.out.later b5)
      replace U := Lib.hid (U.out.later b5)
      replace V := Lib.hid (V.out.later b5)
      clear b5
      by_cases hqy : q < y
      · have hd : 0 < sgn (y - q).num := (sgn_pos_lt y q).2 hqy
        replace HS9 := Lib.hid (HS9.out.trans (if_pos hqy))
        generalize sgn (y - q).num = sg at *
        clear hqy
        obtain ⟨x0, x1, x2⟩ := fcells_3 M.out
        obtain ⟨y0, y1, y2⟩ := fcells_3 XB.out
        have f0 := blk_free M.out 0
        have f1 := blk_free M.out 1
        have f2 := blk_free M.out 2
        have M9 := Lib.hid (blk_set3 M.out (.bool (zneg y.num)) (.slice a4 n4 c4) (.slice b4 m4 d4))
        have S9 := Lib.hid (U.out.stored3 M.out (zneg y.num) a4 n4 c4 (.slice b4 m4 d4))
        have T9 := Lib.hid (V.out.stored3 M.out (zneg y.num) a4 n4 c4 (.slice b4 m4 d4))
        have R9 := Lib.hid (blk_far3 HR.out (show w.heap.size ≠ w1.heap.size by omega) (.bool (zneg y.num)) (.slice a4 n4 c4) (.slice b4 m4 d4))
        have B9 := Lib.hid (below_set3 HB.out (Nat.le_refl _) (.bool (zneg y.num)) (.slice a4 n4 c4) (.slice b4 m4 d4))
        have G9 := Lib.hid (below_set3 HG.out (Nat.le_of_lt hlt0) (.bool (zneg y.num)) (.slice a4 n4 c4) (.slice b4 m4 d4))
        clear M HR HB HG U V S T XB HL
        go_wp2
        go_roundw
        case rel => exact ⟨k + 1, y, a4, n4, c4, b4, m4, d4, by omega, by go_num, HS9, HYL, M9, S9, T9, R9, B9, G9⟩
        case measure => simp [intOf]; omega
      · have hd : ¬ 0 < sgn (y - q).num := fun h => hqy ((sgn_pos_lt y q).1 h)
        replace HS9 := Lib.hid (HS9.out.trans (if_neg hqy))
        generalize sgn (y - q).num = sg at *
        clear hqy U V XB
        go_wp2
        go_roundw
        case rel => exact ⟨k + 1, q, a2, n2, c2, b2, m2, d2, by omega, by go_num, HS9, HL, M, S, T, HR, HB, HG⟩
        case measure => simp [intOf]; omega
    · obtain rfl : k = n0 := by omega
      obtain rfl : q = P := by
        rw [← HP.out, ← HQ.out, List.take_of_length_le (by rw [HLl0.out]; exact Nat.le_refl _)]
      obtain ⟨x0, x1, x2⟩ := fcells_3 M.out
      obtain ⟨y0, y1, y2⟩ := fcells_3 HR.out
      have f0 := blk_free HR.out 0
      have f1 := blk_free HR.out 1
      have f2 := blk_free HR.out 2
      have R9 := Lib.hid (blk_set3 HR.out (.bool (zneg q.num)) (.slice a2 n2 c2) (.slice b2 m2 d2))
      have S9 := Lib.hid (S.out.stored3 HR.out (zneg q.num) a2 n2 c2 (.slice b2 m2 d2))
      have T9 := Lib.hid (T.out.stored3 HR.out (zneg q.num) a2 n2 c2 (.slice b2 m2 d2))
      have G9 := Lib.hid (below_set3 HG.out (Nat.le_refl _) (.bool (zneg q.num)) (.slice a2 n2 c2) (.slice b2 m2 d2))
      clear M S T HR HB HG HQ HL
      go_wp2
      refine bodyPost_ret (results_cell_row Tryz.results22 _ _ (w.heap.size) 44 #[.bool (zneg q.num), .slice a2 n2 c2, .slice b2 m2 d2] (0, 0) _ rfl R9.out Tryz.underlying44 rfl (by kernel_rfl)) rfl ?_
      exact ⟨a2, n2, c2, b2, m2, d2, rfl, S9.out, T9.out, G9.out⟩
end Go.Proofs.YtjeigdlhjghinaaGreatDoor
