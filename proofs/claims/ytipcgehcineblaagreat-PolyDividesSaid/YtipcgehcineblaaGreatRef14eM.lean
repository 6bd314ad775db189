/-
  The document's answer of layer 14: Mul.
-/
import Derived.Test.YtipcgehcineblaaGreatRef14bM
import Derived.Deep.RegionLaw
namespace Go.Proofs.YtipcgehcineblaaGreat
open Go.RowKit

set_option maxRecDepth 4096 in
set_option maxHeartbeats 8000000 in
theorem ref14_mul_sum (a : Option Addr) (n c : Nat) (ps : List Rat) (b : Option Addr) (m d : Nat) (rs : List Rat) (w : World) (h : Rw w a n c ps) (k : Rw w b m d rs) (hn : n ≤ 400) (hm : m ≤ 400) (hp : ∀ q ∈ ps, qlen q ≤ 15728640000) (hr : ∀ q ∈ rs, qlen q ≤ 15728640000)
    (hM : ∀ k i, qlen (pterm ps rs k i) ≤ 15728640000) (hS : ∀ k i, qlen (sumTo i (pterm ps rs k)) ≤ 15728640000) :
    Calls Tryz.prog 26 #[.slice a n c, .slice b m d] w (LstRw (pnorm (pmul ps rs)) w) := by
  have hbd := h.bound
  have hbd2 := k.bound
  have HK := Lib.hid h
  have HM := Lib.hid k
  have HPL := Lib.hid h.len
  have HRL := Lib.hid k.len
  have HLP := Lib.hid hp
  have HLR := Lib.hid hr
  have HLM := Lib.hid hM
  have HLS := Lib.hid hS
  obtain ⟨N, hN⟩ : ∃ N, n + m = N := ⟨_, rfl⟩
  obtain ⟨T, hT⟩ : ∃ T, tab N (fun k => sumTo (k + 1) (pterm ps rs k)) = T := ⟨_, rfl⟩
  have HTL : Hid (T.length = N) := Lib.hid (by rw [← hT, tab_length])
  have HTA : Hid (∀ k, k < N → T.getD k 0 = sumTo (k + 1) (pterm ps rs k)) := Lib.hid (fun k hk => by rw [← hT, tab_at hk])
  have HTQ : Hid (∀ q ∈ T, qlen q ≤ 15728640000) := Lib.hid (fun q hq => by
    obtain ⟨i, _, rfl⟩ := tab_mem (hT ▸ hq)
    exact HLS.out i (i + 1))
  have HPN : Hid (pnorm T = pnorm (pmul ps rs)) := Lib.hid (by rw [← hT, ← hN, ← HPL.out, ← HRL.out]; exact pnorm_congr (tab_pmul ps rs))
  rw [← HPN.out]
  have hN8 : N ≤ 800 := by omega
  have HNN := Lib.hid hN
  obtain ⟨z0, hz0⟩ : ∃ z : Rat, ((0 : Int) : Rat) = z := ⟨_, rfl⟩
  have HI0 : ∀ w' : World, Calls Tryz.prog 50 #[.int .i64 0] w' (LstQ z0 w') := fun w' => hz0 ▸ ref09_int 0 w' isInt_nought
  have HS0 : Hid (z0 = 0) := Lib.hid (by rw [← hz0]; rfl)
  clear hT hN h k hp hr hM hS HPN hz0
  obtain ⟨i0, hi, hz0, hz1, hz2⟩ := info_parts infoFrac11
  go_enter Tryz.func26, Tryz.ntmps26
  go_wp2
  go_loopw [5, 6] (fun mv iv wr => ∃ k : Nat, k ≤ N ∧ iv = .int .i64 (k : Int) ∧ Hid (Row wr w.heap.size 25 mv (T.take k)) ∧ Hid (Below w.heap.size w wr) ∧ w.heap.size ≤ wr.heap.size) (fun _ iv _ => N - (intOf iv).toNat)
  case atStart => exact ⟨0, by omega, rfl, Lib.hid (Row.nil _ _ _), Lib.hid (Below.refl _ _), by omega⟩
  case round =>
    obtain ⟨k, hk, rfl, HO, HB, hsz⟩ := hrel
    by_cases hlt : k < N
    · have hki : (k : Int) < (n : Int) + (m : Int) := by have := HNN.out; omega
      go_wp2_with fail
      refine (HI0 _).mono ?_
      rintro e w1 ⟨a1, n1, c1, b1, m1, d1, rfl, h1, g1, bw⟩
      have HB1 := Lib.hid (below_then HB.out bw)
      have HO1 := Lib.hid (HO.out.later bw)
      have hsz1 := Nat.le_trans hsz bw.size
      unfold frV
      have ba := below_alloc w1 (.cells #[.bool (zneg z0.num), .slice a1 n1 c1, .slice b1 m1 d1] 25)
      have S0 := Lib.hid (blk_new w1 #[.bool (zneg z0.num), .slice a1 n1 c1, .slice b1 m1 d1] 25)
      have SA := Lib.hid (h1.later ba)
      have SD := Lib.hid (g1.later ba)
      have HI := Lib.hid ba
      clear bw ba h1 g1 HB HO hsz
      go_wp2
      go_loopw [8] (fun jv wr => ∃ (j : Nat) (s : Rat) (a1 : Option Addr) (n1 c1 : Nat) (b1 : Option Addr) (m1 d1 : Nat), j ≤ n ∧ j ≤ k + 1 ∧ jv = .int .i64 (j : Int) ∧ Hid (sumTo j (pterm ps rs k) = s) ∧
        Hid (wr.heap[w1.heap.size]? = some (.cells #[.bool (zneg s.num), .slice a1 n1 c1, .slice b1 m1 d1] 25 (0, 0))) ∧ Hid (Wd wr a1 n1 c1 (dg s.num.natAbs)) ∧ Hid (Wd wr b1 m1 d1 (dg s.den)) ∧ Hid (Below w1.heap.size w1 wr)) (fun jv _ => n - (intOf jv).toNat)
      case atStart => exact ⟨0, z0, a1, n1, c1, b1, m1, d1, by omega, by omega, rfl, Lib.hid (by rw [HS0.out]; rfl), S0, SA, SD, HI⟩
      case round =>
        clear S0 SA SD HI
        obtain ⟨j, s, a1, n1, c1, b1, m1, d1, hjn, hjk, rfl, HS, S0, SA, SD, HI⟩ := hrel
        by_cases hc1 : j < k + 1
        · have hji1 : (j : Int) ≤ (k : Int) := by omega
          by_cases hc2 : j < n
          · obtain ⟨e, he9⟩ : ∃ e, k - j = e := ⟨_, rfl⟩
            by_cases hc3 : e < m
            · skip
              obtain ⟨bb, off, rfl, a3, n3, c3, b3, m3, d3, he, hA, hD⟩ := HK.out.at hc2
              obtain ⟨bc, off2, rfl, a4, n4, c4, b4, m4, d4, he2, hA2, hD2⟩ := HM.out.at hc3
              have hpt : pterm ps rs k j = ps.getD j 0 * rs.getD e 0 := by rw [← he9]; rfl
              have hlq := HLP.out _ (q_mem (L := ps) (k := j) (by have := HPL.out; omega))
              have hlr := HLR.out _ (q_mem (L := rs) (k := e) (by have := HRL.out; omega))
              have hLy := HLM.out k j
              have hLs := HLS.out k j
              have hS2 : sumTo (j + 1) (pterm ps rs k) = s + pterm ps rs k j := by rw [← HS.out]; rfl
              rw [HS.out] at hLs
              rw [hpt] at hLy hS2
              generalize ps.getD j 0 = p at *
              generalize rs.getD e 0 = r at *
              obtain ⟨y, hy⟩ : ∃ y, p * r = y := ⟨_, rfl⟩
              obtain ⟨s2, hs2⟩ : ∃ z, s + y = z := ⟨_, rfl⟩
              rw [hy] at hLy hS2
              rw [hs2] at hS2
              have HS2 := Lib.hid hS2
              have EY := Lib.hid hy
              have E2 := Lib.hid hs2
              have HYL := Lib.hid hLy
              have hn3 : n3 ≤ 15728640000 := by rw [← hA.len]; exact Nat.le_trans (qlen_num _) hlq
              have hm3 : m3 ≤ 15728640000 := by rw [← hD.len]; exact Nat.le_trans (qlen_den _) hlq
              have hn4 : n4 ≤ 15728640000 := by rw [← hA2.len]; exact Nat.le_trans (qlen_num _) hlr
              have hm4 : m4 ≤ 15728640000 := by rw [← hD2.len]; exact Nat.le_trans (qlen_den _) hlr
              have hn1 : n1 ≤ 15728640000 := by rw [← SA.out.len]; exact Nat.le_trans (qlen_num _) hLs
              have hm1 : m1 ≤ 15728640000 := by rw [← SD.out.len]; exact Nat.le_trans (qlen_den _) hLs
              have QA := Lib.hid hA
              have QD := Lib.hid hD
              have RA := Lib.hid hA2
              have RD := Lib.hid hD2
              have HE := Lib.hid he
              have HE2 := Lib.hid he2
              have HBi := Lib.hid (below_then HB1.out HI.out)
              have hji : (j : Int) < (n : Int) := by omega
              have hei : (e : Int) < (m : Int) := by omega
              have hkj : (k : Int) - (j : Int) = (e : Int) := by omega
              have hwe : IntKind.i64.wrap (e : Int) = (e : Int) := by rw [IntKind.wrap_i64]; omega
              clear hpt hlq hlr hLy hLs hS2 hy hs2 hA hD hA2 hD2 he he2 HS he9
              obtain ⟨e0, e1, e2⟩ := three_on HE.out HBi.out; obtain ⟨g0, g1, g2⟩ := three_on HE2.out HBi.out; obtain ⟨x0, x1, x2⟩ := fcells_3 S0.out
              go_wp2
              have b0 : Below wr.heap.size wr wr.drew := (Below.refl _ _).drew
              replace HI := Lib.hid (below_then HI.out b0)
              replace HBi := Lib.hid (below_then HBi.out b0)
              replace S0 := Lib.hid (blk_later S0.out b0)
              replace SA := Lib.hid (SA.out.later b0)
              replace SD := Lib.hid (SD.out.later b0)
              clear e0 e1 e2 x0 x1 x2 g0 g1 g2 b0
              obtain ⟨e0, e1, e2⟩ := three_on HE.out HBi.out; obtain ⟨g0, g1, g2⟩ := three_on HE2.out HBi.out; obtain ⟨x0, x1, x2⟩ := fcells_3 S0.out
              go_region_law (first
                | (go_simp; go_at_call 52; refine (ref09_mul_q _ _ p r _ (Rt.of (QA.out.later HBi.out) (QD.out.later HBi.out) (by omega) (by omega)) (Rt.of (RA.out.later HBi.out) (RD.out.later HBi.out) (by omega) (by omega))).mono ?_; rintro e w4 ⟨a6, n6, c6, b6, m6, d6, rfl, h6, g6, bw⟩; rw [EY.out] at h6 g6 ⊢; clear e0 e1 e2 x0 x1 x2 g0 g1 g2; replace HI := Lib.hid (below_then HI.out bw); replace HBi := Lib.hid (below_then HBi.out bw); replace S0 := Lib.hid (blk_later S0.out bw); replace SA := Lib.hid (SA.out.later bw); replace SD := Lib.hid (SD.out.later bw); have A6 := Lib.hid h6; have D6 := Lib.hid g6; have hn6 : n6 ≤ 15728640000 := Nat.le_trans (Nat.le_of_eq h6.len.symm) (Nat.le_trans (qlen_num _) HYL.out); have hm6 : m6 ≤ 15728640000 := Nat.le_trans (Nat.le_of_eq g6.len.symm) (Nat.le_trans (qlen_den _) HYL.out); clear bw h6 g6; unfold frV; obtain ⟨e0, e1, e2⟩ := three_on HE.out HBi.out; obtain ⟨g0, g1, g2⟩ := three_on HE2.out HBi.out; obtain ⟨x0, x1, x2⟩ := fcells_3 S0.out)
                | (go_simp; go_at_call 51; refine (ref09_add_q _ _ s y _ (Rt.of SA.out SD.out (by omega) (by omega)) (Rt.of A6.out D6.out (by omega) (by omega))).mono ?_; rintro e w5 ⟨a5, n5, c5, b5, m5, d5, rfl, h5, g5, bw⟩; rw [E2.out] at h5 g5 ⊢; clear e0 e1 e2 x0 x1 x2 g0 g1 g2; replace HI := Lib.hid (below_then HI.out bw); replace S0 := Lib.hid (blk_later S0.out bw); have A5 := Lib.hid h5; have D5 := Lib.hid g5; clear bw h5 g5 SA SD A6 D6 HBi; unfold frV; obtain ⟨x0, x1, x2⟩ := fcells_3 S0.out; have f0 := blk_free S0.out 0; have f1 := blk_free S0.out 1; have f2 := blk_free S0.out 2))
              all_goals (
                have S9 := Lib.hid (blk_set3 S0.out (.bool (zneg s2.num)) (.slice a5 n5 c5) (.slice b5 m5 d5))
                have SA9 := Lib.hid (A5.out.stored3 S0.out (zneg s2.num) a5 n5 c5 (.slice b5 m5 d5))
                have SD9 := Lib.hid (D5.out.stored3 S0.out (zneg s2.num) a5 n5 c5 (.slice b5 m5 d5))
                have B9 := Lib.hid (below_set3 HI.out (Nat.le_refl _) (.bool (zneg s2.num)) (.slice a5 n5 c5) (.slice b5 m5 d5))
                clear S0 HI A5 D5
                go_wp2
                go_roundw
                case rel => exact ⟨j + 1, s2, a5, n5, c5, b5, m5, d5, by omega, by omega, by go_num, HS2, S9, SA9, SD9, B9⟩
                case measure => simp [intOf]; omega)
            · skip
              have HS2 : Hid (sumTo (j + 1) (pterm ps rs k) = s) := Lib.hid (by
                show sumTo j (pterm ps rs k) + pterm ps rs k j = s
                rw [HS.out, pterm_far (by have := HRL.out; omega), Rat.add_zero])
              have hji : (j : Int) < (n : Int) := by omega
              have hei : ¬ (e : Int) < (m : Int) := by omega
              have hkj : (k : Int) - (j : Int) = (e : Int) := by omega
              clear HS
              go_wp2
              go_roundw
              case rel => exact ⟨j + 1, s, a1, n1, c1, b1, m1, d1, by omega, by omega, by go_num, HS2, S0, SA, SD, HI⟩
              case measure => simp [intOf]; omega
          · have hji2 : ¬ (j : Int) < (n : Int) := by omega
            have HE : Hid (T.getD k 0 = s) := Lib.hid (by rw [HTA.out k (by omega), pterm_stop (i := j) (by omega) (by have := HPL.out; omega)]; exact HS.out)
            have HT : Hid (T.take (k + 1) = T.take k ++ [s]) := Lib.hid (by rw [← HE.out]; exact q_more (by rw [HTL.out]; omega))
            have hkL : (T.take k).length ≤ 1000000 := by rw [take_len (by rw [HTL.out]; omega)]; omega
            obtain ⟨x0, x1, x2⟩ := fcells_3 S0.out
            have HOi := Lib.hid (HO1.out.later HI.out)
            have HBi := Lib.hid (below_then HB1.out HI.out)
            have hszi : w.heap.size ≤ wr.heap.size := Nat.le_trans hsz1 HI.out.size
            have ba := below_alloc wr (.cells #[.bool (zneg s.num), .slice a1 n1 c1, .slice b1 m1 d1] 25)
            have HOa := Lib.hid (HOi.out.later ba)
            have HBa := Lib.hid (below_then HBi.out ba)
            have AA := Lib.hid (SA.out.later ba)
            have DA := Lib.hid (SD.out.later ba)
            clear ba HOi HBi HO1 HB1 SA SD HS HE HI S0
            go_wp2_with (at_builtin; refine wpList_append_row _ rfl _ _ 22 rfl w.heap.size 25 i0 Tryz.underlying22 hi hz0 hz1 hz2 _ (T.take k) rfl HOa.out ⟨wr.heap.size, 0, none⟩ s a1 n1 c1 b1 m1 d1 rfl (rx_news _ _ _ _ _ _ _ _ _) AA.out DA.out hkL (by rw [blk_size]; omega) ?_)
            intro mv6 w6 hrow hgrow hbase hcl
            have HO5 : Hid (Row w6 w.heap.size 25 mv6 (T.take (k + 1))) := Lib.hid (by rw [HT.out]; exact hrow)
            have HB5 := Lib.hid (HBa.out.grown hgrow (by rw [blk_size]; omega) hbase)
            have hsz5 : w.heap.size ≤ w6.heap.size := Nat.le_trans (by rw [blk_size]; omega) hgrow.size
            clear hrow hgrow hbase hcl HOa HBa AA DA HT x0 x1 x2
            go_wp2
            go_roundw
            case rel => exact ⟨k + 1, by omega, by go_num, HO5, HB5, hsz5⟩
            case measure => simp [intOf]; omega
        · have hji1 : ¬ (j : Int) ≤ (k : Int) := by omega
          have HE : Hid (T.getD k 0 = s) := Lib.hid (by rw [HTA.out k (by omega), pterm_stop (i := j) (by omega) (by have := HPL.out; omega)]; exact HS.out)
          have HT : Hid (T.take (k + 1) = T.take k ++ [s]) := Lib.hid (by rw [← HE.out]; exact q_more (by rw [HTL.out]; omega))
          have hkL : (T.take k).length ≤ 1000000 := by rw [take_len (by rw [HTL.out]; omega)]; omega
          obtain ⟨x0, x1, x2⟩ := fcells_3 S0.out
          have HOi := Lib.hid (HO1.out.later HI.out)
          have HBi := Lib.hid (below_then HB1.out HI.out)
          have hszi : w.heap.size ≤ wr.heap.size := Nat.le_trans hsz1 HI.out.size
          have ba := below_alloc wr (.cells #[.bool (zneg s.num), .slice a1 n1 c1, .slice b1 m1 d1] 25)
          have HOa := Lib.hid (HOi.out.later ba)
          have HBa := Lib.hid (below_then HBi.out ba)
          have AA := Lib.hid (SA.out.later ba)
          have DA := Lib.hid (SD.out.later ba)
          clear ba HOi HBi HO1 HB1 SA SD HS HE HI S0
          go_wp2_with (at_builtin; refine wpList_append_row _ rfl _ _ 22 rfl w.heap.size 25 i0 Tryz.underlying22 hi hz0 hz1 hz2 _ (T.take k) rfl HOa.out ⟨wr.heap.size, 0, none⟩ s a1 n1 c1 b1 m1 d1 rfl (rx_news _ _ _ _ _ _ _ _ _) AA.out DA.out hkL (by rw [blk_size]; omega) ?_)
          intro mv6 w6 hrow hgrow hbase hcl
          have HO5 : Hid (Row w6 w.heap.size 25 mv6 (T.take (k + 1))) := Lib.hid (by rw [HT.out]; exact hrow)
          have HB5 := Lib.hid (HBa.out.grown hgrow (by rw [blk_size]; omega) hbase)
          have hsz5 : w.heap.size ≤ w6.heap.size := Nat.le_trans (by rw [blk_size]; omega) hgrow.size
          clear hrow hgrow hbase hcl HOa HBa AA DA HT x0 x1 x2
          go_wp2
          go_roundw
          case rel => exact ⟨k + 1, by omega, by go_num, HO5, HB5, hsz5⟩
          case measure => simp [intOf]; omega
    · have hki : ¬ (k : Int) < (n : Int) + (m : Int) := by have := HNN.out; omega
      obtain rfl : k = N := by omega
      have HF := Lib.hid (HO.out.whole HTL.out)
      obtain ⟨a9, c9, rfl, h9⟩ := HF.out.out
      rw [HTL.out] at h9 ⊢
      have HF9 := Lib.hid h9
      clear h9 HF HO
      go_wp2_with fail
      refine (ref14_norm a9 k c9 T _ HF9.out (by omega) HTQ.out).mono ?_
      rintro e w2 ⟨a2, n2, c2, rfl, h2, b⟩
      replace HB := Lib.hid (below_then HB.out b)
      have HT2 := Lib.hid h2
      clear b h2 HF9
      go_wp2
      go_ret
      exact ⟨a2, n2, c2, rfl, HT2.out, HB.out⟩
/-- Of coefficients that aren't too long, whatever they are. -/
theorem ref14_mul (a : Option Addr) (n c : Nat) (ps : List Rat) (b : Option Addr) (m d : Nat) (rs : List Rat) (N K : Nat) (w : World) (h : Rw w a n c ps) (k : Rw w b m d rs) (hn : n ≤ 400) (hm : m ≤ 400) (hp : ∀ q ∈ ps, qlen q ≤ N) (hr : ∀ q ∈ rs, qlen q ≤ K) (hN : 1 ≤ N) (hK : 1 ≤ K) (hb : (n + 1) * (N + K + 8) ≤ 15728640000) :
    Calls Tryz.prog 26 #[.slice a n c, .slice b m d] w (LstRw (pnorm (pmul ps rs)) w) := by
  have h1 : N + K + 8 ≤ (n + 1) * (N + K + 8) := Nat.le_mul_of_pos_left _ (by omega)
  have h2 : ∀ k i, qlen (pterm ps rs k i) ≤ N + K + 1 := fun k i => Nat.le_trans (qlen_mul _ _) (Nat.add_le_add_right (Nat.add_le_add (qlen_co hN hp i) (qlen_co hK hr _)) 1)
  refine ref14_mul_sum a n c ps b m d rs w h k hn hm (fun q hq => Nat.le_trans (hp q hq) (by omega)) (fun q hq => Nat.le_trans (hr q hq) (by omega)) (fun k i => Nat.le_trans (h2 k i) (by omega)) (fun k i => ?_)
  have h3 : ∀ i, i ≤ n → qlen (sumTo i (pterm ps rs k)) ≤ 15728640000 := fun i hi => by
    refine Nat.le_trans (qlen_sumTo (T := N + K + 1) i _ (fun j _ => h2 k j)) ?_
    have : i * (N + K + 1 + 2) ≤ n * (N + K + 8) := Nat.mul_le_mul hi (by omega)
    rw [Nat.add_mul] at hb
    omega
  rcases Nat.le_total i n with h4 | h4
  · exact h3 i h4
  · rw [sumTo_none (m := n) h4 (fun j h5 _ => by unfold pterm; rw [co_far (by rw [h.len]; exact h5), Rat.zero_mul])]
    exact h3 n (Nat.le_refl _)
end Go.Proofs.YtipcgehcineblaaGreat
