/-
  The document's answer of layer 14: Diff, Eval.
-/
import Derived.Test.YtipcgehcineblaaGreatRef14bM
namespace Go.Proofs.YtipcgehcineblaaGreat
open Go.RowKit

theorem tab_pdiff (a : List Rat) : peq (tab (a.length - 1) (fun i => ((i + 1 : Nat) : Rat) * co a (i + 1))) (pdiff a) := fun i => by
  rw [co_tab, co_pdiff]
  split
  · rfl
  · rw [co_far (l := a) (by omega), Rat.mul_zero]
set_option maxRecDepth 4096 in
set_option maxHeartbeats 8000000 in
theorem ref14_diff (a : Option Addr) (n c : Nat) (qs : List Rat) (w : World) (h : Rw w a n c qs) (hn : n ≤ 1000) (hq : ∀ q ∈ qs, qlen q ≤ 5000000000) : Calls Tryz.prog 31 #[.slice a n c] w (LstRw (pnorm (pdiff qs)) w) := by
  have hbd := h.bound
  have HK := Lib.hid h
  have hl1 := h.len
  obtain ⟨T, hT⟩ : ∃ T, tab (n - 1) (fun i => ((i + 1 : Nat) : Rat) * co qs (i + 1)) = T := ⟨_, rfl⟩
  have HTL : Hid (T.length = n - 1) := Lib.hid (by rw [← hT, tab_length])
  have HTA : Hid (∀ j, 1 ≤ j → j < n → T.take j = T.take (j - 1) ++ [((j : Nat) : Rat) * co qs j]) := Lib.hid (fun j h1 h2 => by
    have h3 := q_more (L := T) (k := j - 1) (by rw [← hT, tab_length]; omega)
    have h4 : T.getD (j - 1) 0 = ((j : Nat) : Rat) * co qs j := by rw [← hT, tab_at (by omega), show j - 1 + 1 = j by omega]
    rw [h4, show j - 1 + 1 = j by omega] at h3
    exact h3)
  have HLP : Hid (∀ i, qlen (co qs i) ≤ 5000000000) := Lib.hid (qlen_co (by decide) hq)
  have HTQ : Hid (∀ q ∈ T, qlen q ≤ 15728640000) := Lib.hid (fun q hq => by
    obtain ⟨i, h5, rfl⟩ := tab_mem (hT ▸ hq)
    have h1 := qlen_mul ((i + 1 : Nat) : Rat) (co qs (i + 1))
    have h2 := HLP.out (i + 1)
    have h3 : qlen (((i + 1 : Nat) : Rat)) ≤ 2 := qlen_int (z := ((i + 1 : Nat) : Int)) (by unfold isInt; omega)
    omega)
  have HPN : Hid (pnorm T = pnorm (pdiff qs)) := Lib.hid (by rw [← hT, ← hl1]; exact pnorm_congr (tab_pdiff qs))
  rw [← HPN.out]
  obtain ⟨N, hN⟩ : ∃ N, max n 1 = N := ⟨_, rfl⟩
  have hnN : n ≤ N := by omega
  have hN1 : 1 ≤ N := by omega
  have HNN : Hid (N = n ∨ (N = 1 ∧ n = 0)) := Lib.hid (by omega)
  clear hT h hq hl1 HPN hN
  obtain ⟨i0, hi, hz0, hz1, hz2⟩ := info_parts infoFrac11
  go_enter Tryz.func31, Tryz.ntmps31
  go_wp2
  go_loopw [3, 4] (fun mv iv wr => ∃ j : Nat, 1 ≤ j ∧ j ≤ N ∧ iv = .int .i64 (j : Int) ∧ Hid (Row wr w.heap.size 25 mv (T.take (j - 1))) ∧ Hid (Below w.heap.size w wr) ∧ w.heap.size ≤ wr.heap.size) (fun _ iv _ => N - (intOf iv).toNat)
  case atStart => exact ⟨1, by omega, hN1, rfl, Lib.hid (Row.nil _ _ _), Lib.hid (Below.refl _ _), by omega⟩
  case round =>
    obtain ⟨j, hj1, hj, rfl, HO, HB, hsz⟩ := hrel
    by_cases hlt : j < n
    · have HT : Hid (T.take j = T.take (j - 1) ++ [((j : Nat) : Rat) * co qs j]) := Lib.hid (HTA.out j hj1 hlt)
      have hkL : (T.take (j - 1)).length ≤ 1000000 := by rw [take_len (by rw [HTL.out]; omega)]; omega
      have hla := HLP.out j
      obtain ⟨bb, off, rfl, a1, n1, c1, b1, m1, d1, he, hA, hD⟩ := HK.out.at hlt
      have hco : qs.getD j 0 = co qs j := rfl
      rw [hco] at he hA hD
      have hn1 : n1 ≤ 5000000000 := by rw [← hA.len]; exact Nat.le_trans (qlen_num _) hla
      have hm1 : m1 ≤ 5000000000 := by rw [← hD.len]; exact Nat.le_trans (qlen_den _) hla
      obtain ⟨z, hz⟩ : ∃ z : Rat, ((j : Nat) : Rat) = z := ⟨_, rfl⟩
      have hlz : qlen z ≤ 2 := hz ▸ qlen_int (z := ((j : Nat) : Int)) (by unfold isInt; omega)
      have HI : ∀ w' : World, Calls Tryz.prog 50 #[.int .i64 (j : Int)] w' (LstQ z w') := fun w' => hz ▸ ref09_int (j : Int) w' (by unfold isInt; omega)
      rw [hz] at HT
      obtain ⟨tk, htk⟩ : ∃ t, z * co qs j = t := ⟨_, rfl⟩
      rw [htk] at HT
      generalize co qs j = q at *
      obtain ⟨U, hU⟩ : ∃ U, T.take j = U := ⟨_, rfl⟩
      have HU := Lib.hid hU
      rw [hU] at HT
      obtain ⟨V, hV⟩ : ∃ V, T.take (j - 1) = V := ⟨_, rfl⟩
      rw [hV] at HT HO hkL
      have HE := Lib.hid he
      have AK := Lib.hid hA
      have DK := Lib.hid hD
      have ETK := Lib.hid htk
      have hji : (j : Int) < (n : Int) := by omega
      clear he hA hD hco hla hz htk hU hV
      obtain ⟨e0, e1, e2⟩ := three_on HE.out HB.out
      go_wp2
      have b0 : Below wr.heap.size wr wr.drew := (Below.refl _ _).drew
      replace HB := Lib.hid (below_then HB.out b0)
      replace HO := Lib.hid (HO.out.later b0)
      replace hsz := Nat.le_trans hsz b0.size
      clear e0 e1 e2 b0
      obtain ⟨e0, e1, e2⟩ := three_on HE.out HB.out
      go_region_law (first
        | (refine step_append_row rfl _ _ 22 rfl w.heap.size 25 i0 Tryz.underlying22 hi hz0 hz1 hz2 _ V rfl HOa.out _ tk a4 n4 c4 b4 m4 d4 rfl (rx_news _ _ _ _ _ _ _ _ _) HAa.out HCa.out hkL (by rw [blk_size]; omega) ?_; intro mv5 w5 hrow hgrow hbase hcl)
        | (go_simp; go_at_call 50; refine (HI _).mono ?_; rintro e w3 ⟨a3, n3, c3, b3, m3, d3, rfl, h3, g3, bw⟩; clear e0 e1 e2; replace HB := Lib.hid (below_then HB.out bw); replace HO := Lib.hid (HO.out.later bw); have hsz3 : w.heap.size ≤ w3.heap.size := Nat.le_trans hsz bw.size; clear hsz; have hn3 : n3 ≤ 2 := Nat.le_trans (Nat.le_of_eq h3.len.symm) (Nat.le_trans (qlen_num _) hlz); have hm3 : m3 ≤ 2 := Nat.le_trans (Nat.le_of_eq g3.len.symm) (Nat.le_trans (qlen_den _) hlz); have A3 := Lib.hid h3; have D3 := Lib.hid g3; clear bw h3 g3; unfold frV; obtain ⟨e0, e1, e2⟩ := three_on HE.out HB.out)
        | (go_simp; go_at_call 52; refine (ref09_mul_q _ _ z q _ (Rt.of A3.out D3.out (by omega) (by omega)) (Rt.of (AK.out.later HB.out) (DK.out.later HB.out) (by omega) (by omega))).mono ?_; rintro e w4 ⟨a4, n4, c4, b4, m4, d4, rfl, h4, g4, bw⟩; rw [ETK.out] at h4 g4 ⊢; clear e0 e1 e2; replace HB := Lib.hid (below_then HB.out bw); replace HO := Lib.hid (HO.out.later bw); have hsz4 : w.heap.size ≤ w4.heap.size := Nat.le_trans hsz3 bw.size; have HA4 := Lib.hid h4; have HB4 := Lib.hid g4; clear bw hsz3 h4 g4 A3 D3; unfold frV; have ba := below_alloc w4 (.cells #[.bool (zneg tk.num), .slice a4 n4 c4, .slice b4 m4 d4] 25); have HOa := Lib.hid (HO.out.later ba); have HBa := Lib.hid (below_then HB.out ba); have HAa := Lib.hid (HA4.out.later ba); have HCa := Lib.hid (HB4.out.later ba); clear ba HO HB HA4 HB4))
      all_goals (
        have HO5 : Hid (Row w5 w.heap.size 25 mv5 (T.take (j + 1 - 1))) := Lib.hid (by rw [Nat.add_sub_cancel, HU.out, HT.out]; exact hrow)
        have HB5 := Lib.hid (HBa.out.grown hgrow (by rw [blk_size]; omega) hbase)
        have hsz5 : w.heap.size ≤ w5.heap.size := Nat.le_trans (by rw [blk_size]; omega) hgrow.size
        clear hrow hgrow hbase hcl HOa HBa HAa HCa HT HU hsz4
        go_wp2
        go_roundw
        case rel => exact ⟨j + 1, by omega, by omega, by go_num, HO5, HB5, hsz5⟩
        case measure => simp [intOf]; omega)
    · have hji : ¬ (j : Int) < (n : Int) := by omega
      have hjN : j - 1 = n - 1 := by have := HNN.out; omega
      have HF := Lib.hid (HO.out.whole (by rw [HTL.out, hjN]))
      obtain ⟨a9, c9, rfl, h9⟩ := HF.out.out
      rw [HTL.out] at h9 ⊢
      obtain ⟨n9, hn9⟩ : ∃ x, n - 1 = x := ⟨_, rfl⟩
      rw [hn9] at h9 ⊢
      have hn91 : n9 ≤ 1000 := by omega
      have HF9 := Lib.hid h9
      clear h9 HF HO hjN hn9
      go_wp2_with fail
      refine (ref14_norm a9 n9 c9 T _ HF9.out hn91 HTQ.out).mono ?_
      rintro e w2 ⟨a2, n2, c2, rfl, h2, b⟩
      replace HB := Lib.hid (below_then HB.out b)
      have HT2 := Lib.hid h2
      clear b h2 HF9
      go_wp2
      go_ret
      exact ⟨a2, n2, c2, rfl, HT2.out, HB.out⟩
end Go.Proofs.YtipcgehcineblaaGreat
