/-
  The document's answer of layer 14: At, Scale, Sub, Add.
-/
import Derived.Test.YtipcgehcineblaaGreatRef14M
import Derived.Test.YtipcgehcineblaaGreatG17
namespace Go.Proofs.YtipcgehcineblaaGreat
open Go.RowKit

set_option maxRecDepth 4096 in
set_option maxHeartbeats 8000000 in
theorem ref14_at (a : Option Addr) (n c : Nat) (qs : List Rat) (i : Nat) (w : World) (h : Rw w a n c qs) : Calls Tryz.prog 55 #[.slice a n c, .int .i64 (i : Int)] w (LstQ (co qs i) w) := by
  have hbd := h.bound
  have HB := Lib.hid (below_alloc w (.cells #[.bool false, .slice none 0 0, .slice none 0 0] 25))
  have HR := Lib.hid (blk_new w #[.bool false, .slice none 0 0, .slice none 0 0] 25)
  have f0 := blk_free HR.out 0
  have f1 := blk_free HR.out 1
  have f2 := blk_free HR.out 2
  by_cases hi : i < n
  · obtain ⟨b, off, rfl, a1, n1, c1, b1, m1, d1, he, hA, hD⟩ := h.at hi
    have hco : qs.getD i 0 = co qs i := rfl
    rw [hco] at hA hD he
    generalize co qs i = q at *
    have hki : (i : Int) < (n : Int) := by omega
    obtain ⟨e0, e1, e2⟩ := three_on he HB.out
    have ba := below_alloc w (.cells #[.bool (zneg q.num), .slice a1 n1 c1, .slice b1 m1 d1] 25)
    have R9 := Lib.hid (blk_new w #[.bool (zneg q.num), .slice a1 n1 c1, .slice b1 m1 d1] 25)
    have S9 := Lib.hid (hA.later ba)
    have T9 := Lib.hid (hD.later ba)
    have G9 := Lib.hid ba
    clear h hA hD he ba f0 f1 f2 HR HB
    go_enter Tryz.func55, Tryz.ntmps55
    go_wp2
    refine bodyPost_ret (results_cell_row Tryz.results55 _ _ (w.heap.size) 25 #[.bool (zneg q.num), .slice a1 n1 c1, .slice b1 m1 d1] (0, 0) _ rfl R9.out Tryz.underlying25 rfl (by kernel_rfl)) rfl ?_
    exact ⟨a1, n1, c1, b1, m1, d1, rfl, S9.out, T9.out, G9.out⟩
  · have hki : ¬ (i : Int) < (n : Int) := by omega
    have hc : co qs i = ((0 : Int) : Rat) := by rw [co_far (by rw [h.len]; omega)]; rfl
    rw [hc]
    obtain ⟨q, hq⟩ : ∃ q : Rat, ((0 : Int) : Rat) = q := ⟨_, rfl⟩
    rw [hq]
    have HI : ∀ w' : World, Calls Tryz.prog 50 #[.int .i64 0] w' (LstQ q w') := fun w' => hq ▸ ref09_int 0 w' isInt_nought
    clear h hc hq
    go_enter Tryz.func55, Tryz.ntmps55
    go_wp2_with fail
    refine (HI _).mono ?_
    rintro e w1 ⟨a1, n1, c1, b1, m1, d1, rfl, hA, hD, b⟩
    replace HB := Lib.hid (below_then HB.out b)
    replace HR := Lib.hid (blk_later HR.out b)
    clear f0 f1 f2 b
    have f0 := blk_free HR.out 0
    have f1 := blk_free HR.out 1
    have f2 := blk_free HR.out 2
    obtain ⟨y0, y1, y2⟩ := fcells_3 HR.out
    have R9 := Lib.hid (blk_set3 HR.out (.bool (zneg q.num)) (.slice a1 n1 c1) (.slice b1 m1 d1))
    have S9 := Lib.hid (hA.stored3 HR.out (zneg q.num) a1 n1 c1 (.slice b1 m1 d1))
    have T9 := Lib.hid (hD.stored3 HR.out (zneg q.num) a1 n1 c1 (.slice b1 m1 d1))
    have G9 := Lib.hid (below_set3 HB.out (Nat.le_refl _) (.bool (zneg q.num)) (.slice a1 n1 c1) (.slice b1 m1 d1))
    clear hA hD HR HB HI
    unfold frV
    go_wp2
    refine bodyPost_ret (results_cell_row Tryz.results55 _ _ (w.heap.size) 25 #[.bool (zneg q.num), .slice a1 n1 c1, .slice b1 m1 d1] (0, 0) _ rfl R9.out Tryz.underlying25 rfl (by kernel_rfl)) rfl ?_
    exact ⟨a1, n1, c1, b1, m1, d1, rfl, S9.out, T9.out, G9.out⟩
set_option maxRecDepth 4096 in
set_option maxHeartbeats 8000000 in
theorem ref14_scale (v : Value) (z : Rat) (a : Option Addr) (n c : Nat) (qs : List Rat) (w : World) (hv : Rt w v z 2000000000) (h : Rw w a n c qs) (hn : n ≤ 1000) (hq : ∀ q ∈ qs, qlen q ≤ 2000000000) :
    Calls Tryz.prog 28 #[v, .slice a n c] w (LstRw (pnorm (rscale z qs)) w) := by
  have hlz : qlen z ≤ 2000000000 := by
    obtain ⟨a1, n1, c1, b1, m1, d1, _, h1, h2, h3, h4⟩ := hv
    exact qlen_le (by rw [h1.len]; exact h3) (by rw [h2.len]; exact h4)
  have HL : Hid (∀ q ∈ rscale z qs, qlen q ≤ 15728640000) := Lib.hid (fun q h9 => Nat.le_trans (qlen_rscale hlz hq q h9) (by decide))
  have HN : Hid ((rscale z qs).length ≤ 1000) := Lib.hid (by rw [rscale_length, h.len]; exact hn)
  have HQ := Lib.hid hq
  have HLn := Lib.hid h.len
  obtain ⟨T, hT⟩ : ∃ T, rscale z qs = T := ⟨_, rfl⟩
  have HS : ∀ (w' : World) (v' : Value), Rt w' v' z 2000000000 → Rw w' a n c qs → Calls Tryz.prog 59 #[v', .slice a n c] w' (LstRw T w') := fun w' v' h8 h9 => hT ▸ ref11_scale_more v' z a n c qs w' h8 h9 hn HQ.out
  rw [hT] at HL HN ⊢
  obtain ⟨va, vn, vc, vb, vm, vd, rfl, hv1, hv2, hv3, hv4⟩ := hv
  have HB := Lib.hid (below_alloc w (.cells #[.bool (zneg z.num), .slice va vn vc, .slice vb vm vd] 25))
  have X0 := Lib.hid (blk_new w #[.bool (zneg z.num), .slice va vn vc, .slice vb vm vd] 25)
  have HV := Lib.hid (Rt.of (q := z) (hv1.later HB.out) (hv2.later HB.out) hv3 hv4)
  have HR := Lib.hid (h.later HB.out)
  obtain ⟨x0, x1, x2⟩ := fcells_3 X0.out
  clear h hq hlz hT hv1 hv2 X0
  go_enter Tryz.func28, Tryz.ntmps28
  unfold frV at HV ⊢
  go_wp2_with fail
  refine (HS _ _ HV.out HR.out).mono ?_
  rintro e w1 ⟨a1, n1, c1, rfl, h1, b⟩
  have hn1 : n1 ≤ 1000 := by rw [← h1.len]; exact HN.out
  replace HB := Lib.hid (below_then HB.out b)
  have HT := Lib.hid h1
  clear b h1 x0 x1 x2 HR HV HS
  go_wp2_with fail
  refine (ref14_norm a1 n1 c1 T _ HT.out hn1 HL.out).mono ?_
  rintro e w2 ⟨a2, n2, c2, rfl, h2, b⟩
  replace HB := Lib.hid (below_then HB.out b)
  have HT2 := Lib.hid h2
  clear b h2 HT
  go_wp2
  go_ret
  exact ⟨a2, n2, c2, rfl, HT2.out, HB.out⟩
set_option maxRecDepth 4096 in
set_option maxHeartbeats 8000000 in
theorem ref14_add (a : Option Addr) (n c : Nat) (ps : List Rat) (b : Option Addr) (m d : Nat) (rs : List Rat) (w : World) (h : Rw w a n c ps) (k : Rw w b m d rs) (hn : n ≤ 500) (hm : m ≤ 500) (hp : ∀ q ∈ ps, qlen q ≤ 5000000000) (hr : ∀ q ∈ rs, qlen q ≤ 5000000000) :
    Calls Tryz.prog 22 #[.slice a n c, .slice b m d] w (LstRw (pnorm (padd ps rs)) w) := by
  have hbd := h.bound
  have hbd2 := k.bound
  have HK := Lib.hid h
  have HM := Lib.hid k
  have hl1 := h.len
  have hl2 := k.len
  obtain ⟨N, hN⟩ : ∃ N, max n m = N := ⟨_, rfl⟩
  have hnN : n ≤ N := by omega
  have hmN : m ≤ N := by omega
  have hN5 : N ≤ 500 := by omega
  have hNn : N = n ∨ N = m := by omega
  obtain ⟨T, hT⟩ : ∃ T, tab N (fun i => co ps i + co rs i) = T := ⟨_, rfl⟩
  have HTL : Hid (T.length = N) := Lib.hid (by rw [← hT, tab_length])
  have HTA : Hid (∀ k, k < N → T.getD k 0 = co ps k + co rs k) := Lib.hid (fun k hk => by rw [← hT, tab_at hk])
  have HLP : Hid (∀ i, qlen (co ps i) ≤ 5000000000) := Lib.hid (qlen_co (by decide) hp)
  have HLR : Hid (∀ i, qlen (co rs i) ≤ 5000000000) := Lib.hid (qlen_co (by decide) hr)
  have HTQ : Hid (∀ q ∈ T, qlen q ≤ 15728640000) := Lib.hid (fun q hq => by
    obtain ⟨i, _, rfl⟩ := tab_mem (hT ▸ hq)
    have h1 := qlen_add (co ps i) (co rs i)
    have h2 := HLP.out i
    have h3 := HLR.out i
    omega)
  have HPN : Hid (pnorm T = pnorm (padd ps rs)) := Lib.hid (by rw [← hT, ← hN, ← hl1, ← hl2]; exact pnorm_congr (tab_padd ps rs))
  rw [← HPN.out]
  have HNN := Lib.hid hNn
  clear hT hN h k hp hr hl1 hl2 HPN hNn
  obtain ⟨i0, hi, hz0, hz1, hz2⟩ := info_parts infoFrac11
  go_enter Tryz.func22, Tryz.ntmps22
  go_wp2
  go_loopw [5, 6] (fun mv iv wr => ∃ k : Nat, k ≤ N ∧ iv = .int .i64 (k : Int) ∧ Hid (Row wr w.heap.size 25 mv (T.take k)) ∧ Hid (Below w.heap.size w wr) ∧ w.heap.size ≤ wr.heap.size) (fun _ iv _ => N - (intOf iv).toNat)
  case atStart => exact ⟨0, by omega, rfl, Lib.hid (Row.nil _ _ _), Lib.hid (Below.refl _ _), by omega⟩
  case round =>
    obtain ⟨k, hk, rfl, HO, HB, hsz⟩ := hrel
    by_cases hka : k < n
    · have hki : (k : Int) < (n : Int) := by omega
      have HT : Hid (T.take (k + 1) = T.take k ++ [T.getD k 0]) := Lib.hid (q_more (by rw [HTL.out]; omega))
      have HTv : Hid (T.getD k 0 = co ps k + co rs k) := Lib.hid (HTA.out k (by omega))
      have hkL : (T.take k).length ≤ 1000000 := by rw [take_len (by rw [HTL.out]; omega)]; omega
      have hla := HLP.out k
      have hlb := HLR.out k
      generalize T.getD k 0 = tk at *
      have HA9 := ref14_at a n c ps k wr (HK.out.later HB.out)
      have HB9 := fun (w' : World) (h9 : Rw w' b m d rs) => ref14_at b m d rs k w' h9
      generalize co ps k = p at *
      generalize co rs k = r at *
      go_wp2_with fail
      refine HA9.mono ?_
      rintro e w3 ⟨a3, n3, c3, b3, m3, d3, rfl, h3, g3, bw⟩
      have hn3 : n3 ≤ 5000000000 := by rw [← h3.len]; exact Nat.le_trans (qlen_num _) hla
      have hm3 : m3 ≤ 5000000000 := by rw [← g3.len]; exact Nat.le_trans (qlen_den _) hla
      clear HA9
      replace HB := Lib.hid (below_then HB.out bw)
      replace HO := Lib.hid (HO.out.later bw)
      replace hsz := Nat.le_trans hsz bw.size
      have A3 := Lib.hid h3
      have D3 := Lib.hid g3
      clear bw h3 g3
      go_wp2_with fail
      refine (HB9 _ (HM.out.later HB.out)).mono ?_
      rintro e w4 ⟨a4, n4, c4, b4, m4, d4, rfl, h4, g4, bw⟩
      have hn4 : n4 ≤ 5000000000 := by rw [← h4.len]; exact Nat.le_trans (qlen_num _) hlb
      have hm4 : m4 ≤ 5000000000 := by rw [← g4.len]; exact Nat.le_trans (qlen_den _) hlb
      clear HB9
      replace HB := Lib.hid (below_then HB.out bw)
      replace HO := Lib.hid (HO.out.later bw)
      replace hsz := Nat.le_trans hsz bw.size
      replace A3 := Lib.hid (A3.out.later bw)
      replace D3 := Lib.hid (D3.out.later bw)
      have A4 := Lib.hid h4
      have D4 := Lib.hid g4
      clear bw h4 g4
      go_wp2_with fail
      refine (ref09_add_q _ _ p r _ (Rt.of A3.out D3.out (by omega) (by omega)) (Rt.of A4.out D4.out (by omega) (by omega))).mono ?_
      rintro e w5 ⟨a5, n5, c5, b5, m5, d5, rfl, h5, g5, bw⟩
      rw [← HTv.out] at h5 g5 ⊢
      clear A3 D3 A4 D4
      replace HB := Lib.hid (below_then HB.out bw)
      replace HO := Lib.hid (HO.out.later bw)
      replace hsz := Nat.le_trans hsz bw.size
      have A5 := Lib.hid h5
      have D5 := Lib.hid g5
      clear bw h5 g5
      unfold frV
      have ba := below_alloc w5 (.cells #[.bool (zneg tk.num), .slice a5 n5 c5, .slice b5 m5 d5] 25)
      have HOa := Lib.hid (HO.out.later ba)
      have HBa := Lib.hid (below_then HB.out ba)
      have AA := Lib.hid (A5.out.later ba)
      have DA := Lib.hid (D5.out.later ba)
      clear ba HO HB A5 D5
      go_wp2_with (at_builtin; refine wpList_append_row _ rfl _ _ 22 rfl w.heap.size 25 i0 Tryz.underlying22 hi hz0 hz1 hz2 _ (T.take k) rfl HOa.out ⟨w5.heap.size, 0, none⟩ tk a5 n5 c5 b5 m5 d5 rfl (rx_news _ _ _ _ _ _ _ _ _) AA.out DA.out hkL (by rw [blk_size]; omega) ?_)
      intro mv6 w6 hrow hgrow hbase hcl
      have HO5 : Hid (Row w6 w.heap.size 25 mv6 (T.take (k + 1))) := Lib.hid (by rw [HT.out]; exact hrow)
      have HB5 := Lib.hid (HBa.out.grown hgrow (by rw [blk_size]; omega) hbase)
      have hsz5 : w.heap.size ≤ w6.heap.size := Nat.le_trans (by rw [blk_size]; omega) hgrow.size
      clear hrow hgrow hbase hcl HOa HBa AA DA HT
      go_wp2
      go_roundw
      case rel => exact ⟨k + 1, by omega, by go_num, HO5, HB5, hsz5⟩
      case measure => simp [intOf]; omega
    · have hki : ¬ (k : Int) < (n : Int) := by omega
      by_cases hkm : k < m
      · have hkj : (k : Int) < (m : Int) := by omega
        have HT : Hid (T.take (k + 1) = T.take k ++ [T.getD k 0]) := Lib.hid (q_more (by rw [HTL.out]; omega))
        have HTv : Hid (T.getD k 0 = co ps k + co rs k) := Lib.hid (HTA.out k (by omega))
        have hkL : (T.take k).length ≤ 1000000 := by rw [take_len (by rw [HTL.out]; omega)]; omega
        have hla := HLP.out k
        have hlb := HLR.out k
        generalize T.getD k 0 = tk at *
        have HA9 := ref14_at a n c ps k wr (HK.out.later HB.out)
        have HB9 := fun (w' : World) (h9 : Rw w' b m d rs) => ref14_at b m d rs k w' h9
        generalize co ps k = p at *
        generalize co rs k = r at *
        go_wp2_with fail
        refine HA9.mono ?_
        rintro e w3 ⟨a3, n3, c3, b3, m3, d3, rfl, h3, g3, bw⟩
        have hn3 : n3 ≤ 5000000000 := by rw [← h3.len]; exact Nat.le_trans (qlen_num _) hla
        have hm3 : m3 ≤ 5000000000 := by rw [← g3.len]; exact Nat.le_trans (qlen_den _) hla
        clear HA9
        replace HB := Lib.hid (below_then HB.out bw)
        replace HO := Lib.hid (HO.out.later bw)
        replace hsz := Nat.le_trans hsz bw.size
        have A3 := Lib.hid h3
        have D3 := Lib.hid g3
        clear bw h3 g3
        go_wp2_with fail
        refine (HB9 _ (HM.out.later HB.out)).mono ?_
        rintro e w4 ⟨a4, n4, c4, b4, m4, d4, rfl, h4, g4, bw⟩
        have hn4 : n4 ≤ 5000000000 := by rw [← h4.len]; exact Nat.le_trans (qlen_num _) hlb
        have hm4 : m4 ≤ 5000000000 := by rw [← g4.len]; exact Nat.le_trans (qlen_den _) hlb
        clear HB9
        replace HB := Lib.hid (below_then HB.out bw)
        replace HO := Lib.hid (HO.out.later bw)
        replace hsz := Nat.le_trans hsz bw.size
        replace A3 := Lib.hid (A3.out.later bw)
        replace D3 := Lib.hid (D3.out.later bw)
        have A4 := Lib.hid h4
        have D4 := Lib.hid g4
        clear bw h4 g4
        go_wp2_with fail
        refine (ref09_add_q _ _ p r _ (Rt.of A3.out D3.out (by omega) (by omega)) (Rt.of A4.out D4.out (by omega) (by omega))).mono ?_
        rintro e w5 ⟨a5, n5, c5, b5, m5, d5, rfl, h5, g5, bw⟩
        rw [← HTv.out] at h5 g5 ⊢
        clear A3 D3 A4 D4
        replace HB := Lib.hid (below_then HB.out bw)
        replace HO := Lib.hid (HO.out.later bw)
        replace hsz := Nat.le_trans hsz bw.size
        have A5 := Lib.hid h5
        have D5 := Lib.hid g5
        clear bw h5 g5
        unfold frV
        have ba := below_alloc w5 (.cells #[.bool (zneg tk.num), .slice a5 n5 c5, .slice b5 m5 d5] 25)
        have HOa := Lib.hid (HO.out.later ba)
        have HBa := Lib.hid (below_then HB.out ba)
        have AA := Lib.hid (A5.out.later ba)
        have DA := Lib.hid (D5.out.later ba)
        clear ba HO HB A5 D5
        go_wp2_with (at_builtin; refine wpList_append_row _ rfl _ _ 22 rfl w.heap.size 25 i0 Tryz.underlying22 hi hz0 hz1 hz2 _ (T.take k) rfl HOa.out ⟨w5.heap.size, 0, none⟩ tk a5 n5 c5 b5 m5 d5 rfl (rx_news _ _ _ _ _ _ _ _ _) AA.out DA.out hkL (by rw [blk_size]; omega) ?_)
        intro mv6 w6 hrow hgrow hbase hcl
        have HO5 : Hid (Row w6 w.heap.size 25 mv6 (T.take (k + 1))) := Lib.hid (by rw [HT.out]; exact hrow)
        have HB5 := Lib.hid (HBa.out.grown hgrow (by rw [blk_size]; omega) hbase)
        have hsz5 : w.heap.size ≤ w6.heap.size := Nat.le_trans (by rw [blk_size]; omega) hgrow.size
        clear hrow hgrow hbase hcl HOa HBa AA DA HT
        go_wp2
        go_roundw
        case rel => exact ⟨k + 1, by omega, by go_num, HO5, HB5, hsz5⟩
        case measure => simp [intOf]; omega
      · have hkj : ¬ (k : Int) < (m : Int) := by omega
        obtain rfl : k = N := by have := HNN.out; omega
        have HF := Lib.hid (HO.out.whole HTL.out)
        obtain ⟨a9, c9, rfl, h9⟩ := HF.out.out
        rw [HTL.out] at h9 ⊢
        have HF9 := Lib.hid h9
        clear h9 HF HO
        go_wp2_with fail
        refine (ref14_norm a9 k c9 T _ HF9.out (by omega) HTQ.out).mono ?_
        rintro e w2 ⟨a2, n2, c2, rfl, h2, b⟩
        replace HB := Lib.hid (below_then HB.out b)
        have HT2 := Lib.hid h2
        clear b h2 HF9
        go_wp2
        go_ret
        exact ⟨a2, n2, c2, rfl, HT2.out, HB.out⟩
set_option maxRecDepth 4096 in
set_option maxHeartbeats 8000000 in
theorem ref14_sub (a : Option Addr) (n c : Nat) (ps : List Rat) (b : Option Addr) (m d : Nat) (rs : List Rat) (w : World) (h : Rw w a n c ps) (k : Rw w b m d rs) (hn : n ≤ 500) (hm : m ≤ 500) (hp : ∀ q ∈ ps, qlen q ≤ 5000000000) (hr : ∀ q ∈ rs, qlen q ≤ 2000000000) :
    Calls Tryz.prog 24 #[.slice a n c, .slice b m d] w (LstRw (pnorm (psub ps rs)) w) := by
  obtain ⟨z, hz⟩ : ∃ z : Rat, ((-1 : Int) : Rat) = z := ⟨_, rfl⟩
  have hz1 : z = -1 := by rw [← hz]; rfl
  have hlz : qlen z ≤ 2 := hz ▸ qlen_int (by decide)
  have HZ : ∀ w' : World, Calls Tryz.prog 50 #[.int .i64 (-1)] w' (LstQ z w') := fun w' => hz ▸ ref09_int (-1) w' (by decide)
  obtain ⟨S, hS⟩ : ∃ S, pnorm (rscale z rs) = S := ⟨_, rfl⟩
  have HSL : Hid (S.length ≤ 500) := Lib.hid (by rw [← hS]; exact Nat.le_trans (pnorm_length_le _) (by rw [rscale_length, k.len]; exact hm))
  have HSQ : Hid (∀ q ∈ S, qlen q ≤ 5000000000) := Lib.hid (fun q hq => by rw [← hS] at hq; exact Nat.le_trans (qlen_rscale hlz hr q (pnorm_mem hq)) (by decide))
  have HSC : ∀ (w' : World) (v' : Value), Rt w' v' z 2 → Rw w' b m d rs → Calls Tryz.prog 28 #[v', .slice b m d] w' (LstRw S w') := fun w' v' h8 h9 => hS ▸ ref14_scale v' z b m d rs w' (by obtain ⟨x1, x2, x3, x4, x5, x6, y0, y1, y2, y3, y4⟩ := h8; exact ⟨x1, x2, x3, x4, x5, x6, y0, y1, y2, by omega, by omega⟩) h9 (by omega) hr
  have HAD : ∀ (w' : World) (a' : Option Addr) (n' c' : Nat), n' ≤ 500 → Rw w' a n c ps → Rw w' a' n' c' S → Calls Tryz.prog 22 #[.slice a n c, .slice a' n' c'] w' (LstRw (pnorm (psub ps rs)) w') := fun w' a' n' c' h7 h8 h9 => by
    have h6 := ref14_add a n c ps a' n' c' S w' h8 h9 hn h7 hp HSQ.out
    rwa [show pnorm (padd ps S) = pnorm (psub ps rs) from pnorm_congr (padd_congr (peq.refl _) (by rw [← hS, hz1]; exact pnorm_co _))] at h6
  generalize pnorm (psub ps rs) = D at *
  have HL2 : Hid (qlen z ≤ 2) := Lib.hid hlz
  have HA := Lib.hid h
  have HK := Lib.hid k
  have HB := Lib.hid (Below.refl w.heap.size w)
  clear hz hz1 hS h k hp hr hlz HSQ
  go_enter Tryz.func24, Tryz.ntmps24
  go_wp2_with fail
  refine (HZ _).mono ?_
  rintro e w1 ⟨a1, n1, c1, b1, m1, d1, rfl, h1, g1, bw⟩
  have hn1 : n1 ≤ 2 := by rw [← h1.len]; exact Nat.le_trans (qlen_num _) HL2.out
  have hm1 : m1 ≤ 2 := by rw [← g1.len]; exact Nat.le_trans (qlen_den _) HL2.out
  replace HB := Lib.hid (below_then HB.out bw)
  have A1 := Lib.hid h1
  have D1 := Lib.hid g1
  clear bw h1 g1 HZ
  go_wp2_with fail
  refine (HSC _ _ (Rt.of A1.out D1.out hn1 hm1) (HK.out.later HB.out)).mono ?_
  rintro e w2 ⟨a2, n2, c2, rfl, h2, bw⟩
  have hn2 : n2 ≤ 500 := by rw [← h2.len]; exact HSL.out
  replace HB := Lib.hid (below_then HB.out bw)
  have A2 := Lib.hid h2
  clear bw h2 A1 D1 HSC
  go_wp2_with fail
  refine (HAD _ a2 n2 c2 hn2 (HA.out.later HB.out) A2.out).mono ?_
  rintro e w3 ⟨a3, n3, c3, rfl, h3, bw⟩
  replace HB := Lib.hid (below_then HB.out bw)
  have A3 := Lib.hid h3
  clear bw h3 A2 HAD
  go_wp2
  go_ret
  exact ⟨a3, n3, c3, rfl, A3.out, HB.out⟩
end Go.Proofs.YtipcgehcineblaaGreat
