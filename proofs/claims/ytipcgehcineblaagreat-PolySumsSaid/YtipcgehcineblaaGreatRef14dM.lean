/-
  The document's answer of layer 14: Eval.
-/
import Derived.Test.YtipcgehcineblaaGreatRef14bM
import Derived.Deep.RegionLaw
namespace Go.Proofs.YtipcgehcineblaaGreat
open Go.RowKit

set_option maxRecDepth 4096 in
set_option maxHeartbeats 8000000 in
theorem ref14_eval (a : Option Addr) (n c : Nat) (qs : List Rat) (v : Value) (x : Rat) (N X : Nat) (w : World) (h : Rw w a n c qs) (hv : Rt w v x X) (hq : ∀ q ∈ qs, qlen q ≤ N) (hb : (n + 1) * ((n + 1) * (X + 8) + N + 8) ≤ 15728640000) : Calls Tryz.prog 20 #[.slice a n c, v] w (LstQ (peval x qs) w) := by
  have hbd := h.bound
  obtain ⟨ax, nx, cx, bx, mx, dx, rfl, hvA, hvD, hvn, hvm⟩ := hv
  have hlx : qlen x ≤ X := qlen_le (by rw [hvA.len]; exact hvn) (by rw [hvD.len]; exact hvm)
  have hX1 : 1 ≤ X := Nat.le_trans (qlen_pos x) hlx
  have HLQ : Hid (∀ k, k < n → qlen (qs.getD k 0) ≤ N) := Lib.hid (fun k hk => hq _ (q_mem (by rw [h.len]; exact hk)))
  obtain ⟨C, hC⟩ : ∃ C, N + n * (X + 1) + 5 = C := ⟨_, rfl⟩
  have hLC : ∀ k, k ≤ n → 2 + k * C ≤ 15728640000 := fun k hk => by
    have h1 : k * C ≤ n * C := Nat.mul_le_mul_right C hk
    have h2 : C ≤ (n + 1) * (X + 8) + N + 8 := by
      rw [← hC, Nat.add_mul]
      have : n * (X + 1) ≤ n * (X + 8) := Nat.mul_le_mul_left n (by omega)
      omega
    have h3 : n * C ≤ n * ((n + 1) * (X + 8) + N + 8) := Nat.mul_le_mul_left n h2
    rw [Nat.add_mul (n) 1 ((n + 1) * (X + 8) + N + 8)] at hb
    omega
  have hLP : ∀ k, k ≤ n → 2 + k * (X + 1) ≤ 2 + n * (X + 1) := fun k hk => Nat.add_le_add_left (Nat.mul_le_mul_right _ hk) 2
  have hLU : 2 + n * (X + 1) + N + X ≤ 15728640000 := by
    have h1 : n * (X + 1) ≤ (n + 1) * (X + 8) := Nat.mul_le_mul (by omega) (by omega)
    have h2 : X + 8 ≤ (n + 1) * (X + 8) := Nat.le_mul_of_pos_left _ (by omega)
    have h3 : (n + 1) * (X + 8) + N + 8 ≤ (n + 1) * ((n + 1) * (X + 8) + N + 8) := Nat.le_mul_of_pos_left _ (by omega)
    have h4 : n * (X + 1) + (X + 1) ≤ (n + 1) * (X + 8) := by rw [← Nat.succ_mul]; exact Nat.mul_le_mul_left _ (by omega)
    omega
  have HLC := Lib.hid hLC
  have HLP := Lib.hid hLP
  have HLU := Lib.hid hLU
  have HCN : Hid (∀ k, k ≤ n → N + (2 + k * (X + 1)) + 1 + 2 ≤ C) := Lib.hid (fun k hk => by have := hLP k hk; omega)
  obtain ⟨V, hV⟩ : ∃ V, peval x qs = V := ⟨_, rfl⟩
  have HV0 : Hid (0 + 1 * peval x (qs.drop 0) = V) := Lib.hid (by rw [List.drop_zero, hV]; grind)
  have HVN : Hid (∀ s p, s + p * peval x (qs.drop n) = V → s = V) := Lib.hid (fun s p h9 => by
    rw [List.drop_eq_nil_of_le (by rw [h.len]; exact Nat.le_refl _)] at h9
    have h8 : peval x [] = 0 := rfl
    rw [h8] at h9
    rw [← h9]; grind)
  have HVS : Hid (∀ k s p, k < n → s + p * peval x (qs.drop k) = V → (s + qs.getD k 0 * p) + p * x * peval x (qs.drop (k + 1)) = V) := Lib.hid (fun k s p hk h9 => by
    have hk' : k < qs.length := by rw [h.len]; exact hk
    have e : qs.drop k = qs.getD k 0 :: qs.drop (k + 1) := by
      rw [List.drop_eq_getElem_cons hk', List.getD_eq_getElem?_getD, List.getElem?_eq_getElem hk']; rfl
    rw [e, peval] at h9
    rw [← h9]; grind)
  have HK := Lib.hid h
  rw [hV]
  have XA := Lib.hid hvA
  have XD := Lib.hid hvD
  obtain ⟨z0, hz0⟩ : ∃ z : Rat, ((0 : Int) : Rat) = z := ⟨_, rfl⟩
  obtain ⟨z1, hz1⟩ : ∃ z : Rat, ((1 : Int) : Rat) = z := ⟨_, rfl⟩
  have HI0 : ∀ w' : World, Calls Tryz.prog 50 #[.int .i64 0] w' (LstQ z0 w') := fun w' => hz0 ▸ ref09_int 0 w' isInt_nought
  have HI1 : ∀ w' : World, Calls Tryz.prog 50 #[.int .i64 1] w' (LstQ z1 w') := fun w' => hz1 ▸ ref09_int 1 w' isInt_one
  have HS0 : Hid (z0 = 0) := Lib.hid (by rw [← hz0]; rfl)
  have HS1 : Hid (z1 = 1) := Lib.hid (by rw [← hz1]; rfl)
  have HL0 : Hid (qlen z0 ≤ 2) := Lib.hid (hz0 ▸ qlen_int (by decide))
  have HL1 : Hid (qlen z1 ≤ 2) := Lib.hid (hz1 ▸ qlen_int (by decide))
  have HB := Lib.hid (below_then (below_alloc w (.cells #[.bool (zneg x.num), .slice ax nx cx, .slice bx mx dx] 25)) (below_alloc _ (.cells #[.bool false, .slice none 0 0, .slice none 0 0] 25)))
  have X0 : Hid (((w.alloc (.cells #[.bool (zneg x.num), .slice ax nx cx, .slice bx mx dx] 25)).alloc (.cells #[.bool false, .slice none 0 0, .slice none 0 0] 25)).heap[w.heap.size]? = some (.cells #[.bool (zneg x.num), .slice ax nx cx, .slice bx mx dx] 25 (0, 0))) := Lib.hid (blk_later (blk_new w #[.bool (zneg x.num), .slice ax nx cx, .slice bx mx dx] 25) (below_alloc _ (.cells #[.bool false, .slice none 0 0, .slice none 0 0] 25)))
  have R0 : Hid (((w.alloc (.cells #[.bool (zneg x.num), .slice ax nx cx, .slice bx mx dx] 25)).alloc (.cells #[.bool false, .slice none 0 0, .slice none 0 0] 25)).heap[w.heap.size + 1]? = some (.cells #[.bool false, .slice none 0 0, .slice none 0 0] 25 (0, 0))) := Lib.hid (by have h9 := blk_new (w.alloc (.cells #[.bool (zneg x.num), .slice ax nx cx, .slice bx mx dx] 25)) #[.bool false, .slice none 0 0, .slice none 0 0] 25; rwa [blk_size] at h9)
  clear h hq hb hvA hvD hlx hC hLC hLP hLU hV hz0 hz1
  go_enter Tryz.func20, Tryz.ntmps20
  unfold frV
  go_wp2_with fail
  refine (HI0 _).mono ?_
  rintro e w1 ⟨a1, n1, c1, b1, m1, d1, rfl, h1, g1, b⟩
  replace HB := Lib.hid (below_then HB.out b)
  replace X0 := Lib.hid (blk_later X0.out b)
  replace R0 := Lib.hid (blk_later R0.out b)
  have hsz1 : w.heap.size + 1 < w1.heap.size := (Array.getElem?_eq_some_iff.1 R0.out).1
  unfold frV
  have ba := below_alloc w1 (.cells #[.bool (zneg z0.num), .slice a1 n1 c1, .slice b1 m1 d1] 25)
  have S0 := Lib.hid (blk_new w1 #[.bool (zneg z0.num), .slice a1 n1 c1, .slice b1 m1 d1] 25)
  have SA := Lib.hid (h1.later ba)
  have SD := Lib.hid (g1.later ba)
  replace HB := Lib.hid (below_then HB.out ba)
  replace X0 := Lib.hid (blk_later X0.out ba)
  replace R0 := Lib.hid (blk_later R0.out ba)
  clear b ba h1 g1 HI0
  go_wp2_with fail
  refine (HI1 _).mono ?_
  rintro e w2 ⟨a2, n2, c2, b2, m2, d2, rfl, h2, g2, b⟩
  replace HB := Lib.hid (below_then HB.out b)
  replace X0 := Lib.hid (blk_later X0.out b)
  replace R0 := Lib.hid (blk_later R0.out b)
  replace S0 := Lib.hid (blk_later S0.out b)
  replace SA := Lib.hid (SA.out.later b)
  replace SD := Lib.hid (SD.out.later b)
  have hsz2 : w1.heap.size < w2.heap.size := (Array.getElem?_eq_some_iff.1 S0.out).1
  unfold frV
  have ba := below_alloc w2 (.cells #[.bool (zneg z1.num), .slice a2 n2 c2, .slice b2 m2 d2] 25)
  have P0 := Lib.hid (blk_new w2 #[.bool (zneg z1.num), .slice a2 n2 c2, .slice b2 m2 d2] 25)
  have PA := Lib.hid (h2.later ba)
  have PD := Lib.hid (g2.later ba)
  replace HB := Lib.hid (below_then HB.out ba)
  replace X0 := Lib.hid (blk_later X0.out ba)
  replace R0 := Lib.hid (blk_later R0.out ba)
  replace S0 := Lib.hid (blk_later S0.out ba)
  replace SA := Lib.hid (SA.out.later ba)
  replace SD := Lib.hid (SD.out.later ba)
  clear b ba h2 g2 HI1
  go_wp2
  go_loopw [7] (fun iv wr => ∃ (k : Nat) (s : Rat) (a1 : Option Addr) (n1 c1 : Nat) (b1 : Option Addr) (m1 d1 : Nat) (p : Rat) (a2 : Option Addr) (n2 c2 : Nat) (b2 : Option Addr) (m2 d2 : Nat), k ≤ n ∧ iv = .int .i64 (k : Int) ∧ Hid (s + p * peval x (qs.drop k) = V) ∧ Hid (qlen s ≤ 2 + k * C) ∧ Hid (qlen p ≤ 2 + k * (X + 1)) ∧
    Hid (wr.heap[w1.heap.size]? = some (.cells #[.bool (zneg s.num), .slice a1 n1 c1, .slice b1 m1 d1] 25 (0, 0))) ∧ Hid (Wd wr a1 n1 c1 (dg s.num.natAbs)) ∧ Hid (Wd wr b1 m1 d1 (dg s.den)) ∧
    Hid (wr.heap[w2.heap.size]? = some (.cells #[.bool (zneg p.num), .slice a2 n2 c2, .slice b2 m2 d2] 25 (0, 0))) ∧ Hid (Wd wr a2 n2 c2 (dg p.num.natAbs)) ∧ Hid (Wd wr b2 m2 d2 (dg p.den)) ∧
    Hid (wr.heap[w.heap.size]? = some (.cells #[.bool (zneg x.num), .slice ax nx cx, .slice bx mx dx] 25 (0, 0))) ∧ Hid (wr.heap[w.heap.size + 1]? = some (.cells #[.bool false, .slice none 0 0, .slice none 0 0] 25 (0, 0))) ∧ Hid (Below w.heap.size w wr)) (fun iv _ => n - (intOf iv).toNat)
  case atStart => exact ⟨0, z0, a1, n1, c1, b1, m1, d1, z1, a2, n2, c2, b2, m2, d2, by omega, rfl, Lib.hid (by rw [HS0.out, HS1.out]; exact HV0.out), Lib.hid (by rw [Nat.zero_mul]; exact HL0.out), Lib.hid (by rw [Nat.zero_mul]; exact HL1.out), S0, SA, SD, P0, PA, PD, X0, R0, HB⟩
  case round =>
    clear S0 SA SD P0 PA PD X0 R0 HB HL0 HL1 HS0 HS1 HV0
    obtain ⟨k, s, a1, n1, c1, b1, m1, d1, p, a2, n2, c2, b2, m2, d2, hk, rfl, HV, HLs, HLp, S0, SA, SD, P0, PA, PD, X0, R0, HB⟩ := hrel
    by_cases hlt : k < n
    · obtain ⟨bb, off, rfl, a3, n3, c3, b3, m3, d3, he, hA, hD⟩ := HK.out.at hlt
      have hlq := HLQ.out k hlt
      have HV2 := Lib.hid (HVS.out k s p hlt HV.out)
      generalize qs.getD k 0 = q at *
      obtain ⟨y, hy⟩ : ∃ y, q * p = y := ⟨_, rfl⟩
      obtain ⟨s2, hs2⟩ : ∃ z, s + y = z := ⟨_, rfl⟩
      obtain ⟨p2, hp2⟩ : ∃ z, p * x = z := ⟨_, rfl⟩
      have hls := HLs.out
      have hlp := HLp.out
      have hlx : qlen x ≤ X := qlen_le (by rw [XA.out.len]; exact hvn) (by rw [XD.out.len]; exact hvm)
      have hLs1 := HLC.out k (by omega)
      have hLs2 := HLC.out (k + 1) (by omega)
      have hLp1 := HLP.out k (by omega)
      have hLu := HLU.out
      have hCN := HCN.out k (by omega)
      have hly : qlen y ≤ N + (2 + k * (X + 1)) + 1 := by rw [← hy]; exact Nat.le_trans (qlen_mul _ _) (by omega)
      have hls2 : qlen s2 ≤ 2 + (k + 1) * C := by
        rw [← hs2, Nat.add_mul, Nat.one_mul]
        exact Nat.le_trans (qlen_add _ _) (by omega)
      have hlp2 : qlen p2 ≤ 2 + (k + 1) * (X + 1) := by
        rw [← hp2, Nat.add_mul, Nat.one_mul]
        exact Nat.le_trans (qlen_mul _ _) (by omega)
      have HV3 : Hid (s2 + p2 * peval x (qs.drop (k + 1)) = V) := Lib.hid (by rw [← hs2, ← hp2, ← hy]; exact HV2.out)
      have EY := Lib.hid hy
      have E2 := Lib.hid hs2
      have EP2 := Lib.hid hp2
      have HLS2 := Lib.hid hls2
      have HLP2 := Lib.hid hlp2
      have hq3 : n3 ≤ 15728640000 := by rw [← hA.len]; exact Nat.le_trans (qlen_num _) (by omega)
      have hq4 : m3 ≤ 15728640000 := by rw [← hD.len]; exact Nat.le_trans (qlen_den _) (by omega)
      have hs3 : n1 ≤ 15728640000 := by rw [← SA.out.len]; exact Nat.le_trans (qlen_num _) (by omega)
      have hs4 : m1 ≤ 15728640000 := by rw [← SD.out.len]; exact Nat.le_trans (qlen_den _) (by omega)
      have hp3 : n2 ≤ 15728640000 := by rw [← PA.out.len]; exact Nat.le_trans (qlen_num _) (by omega)
      have hp4 : m2 ≤ 15728640000 := by rw [← PD.out.len]; exact Nat.le_trans (qlen_den _) (by omega)
      have hx3 : nx ≤ 15728640000 := by omega
      have hx4 : mx ≤ 15728640000 := by omega
      have hyl : qlen y ≤ 15728640000 := by omega
      have HYL := Lib.hid hyl
      have QA := Lib.hid hA
      have QD := Lib.hid hD
      have HE := Lib.hid he
      have hki : (k : Int) < (n : Int) := by omega
      have hne1 : w2.heap.size ≠ w1.heap.size := by omega
      have hne2 : w1.heap.size ≠ w2.heap.size := by omega
      clear hy hs2 hp2 hls hlp hlx hLs1 hLs2 hLp1 hLu hCN hly hls2 hlp2 hyl hA hD he hlq HV HV2 HLs HLp
      obtain ⟨e0, e1, e2⟩ := three_on HE.out HB.out; obtain ⟨x0, x1, x2⟩ := fcells_3 S0.out; obtain ⟨y0, y1, y2⟩ := fcells_3 P0.out
      go_wp2
      have b0 : Below wr.heap.size wr wr.drew := (Below.refl _ _).drew
      replace HB := Lib.hid (below_then HB.out b0)
      replace S0 := Lib.hid (blk_later S0.out b0)
      replace P0 := Lib.hid (blk_later P0.out b0)
      replace X0 := Lib.hid (blk_later X0.out b0)
      replace R0 := Lib.hid (blk_later R0.out b0)
      replace SA := Lib.hid (SA.out.later b0)
      replace SD := Lib.hid (SD.out.later b0)
      replace PA := Lib.hid (PA.out.later b0)
      replace PD := Lib.hid (PD.out.later b0)
      clear e0 e1 e2 x0 x1 x2 y0 y1 y2 b0
      obtain ⟨e0, e1, e2⟩ := three_on HE.out HB.out; obtain ⟨x0, x1, x2⟩ := fcells_3 S0.out; obtain ⟨y0, y1, y2⟩ := fcells_3 P0.out
      go_region_law (first
        | (go_simp; go_at_call 52; refine (ref09_mul_q _ _ q p _ (Rt.of (QA.out.later HB.out) (QD.out.later HB.out) (by omega) (by omega)) (Rt.of PA.out PD.out (by omega) (by omega))).mono ?_; rintro e w4 ⟨a4, n4, c4, b4, m4, d4, rfl, h4, g4, bw⟩; rw [EY.out] at h4 g4 ⊢; clear e0 e1 e2 x0 x1 x2 y0 y1 y2; replace HB := Lib.hid (below_then HB.out bw); replace S0 := Lib.hid (blk_later S0.out bw); replace P0 := Lib.hid (blk_later P0.out bw); replace X0 := Lib.hid (blk_later X0.out bw); replace R0 := Lib.hid (blk_later R0.out bw); replace PA := Lib.hid (PA.out.later bw); replace PD := Lib.hid (PD.out.later bw); replace SA := Lib.hid (SA.out.later bw); replace SD := Lib.hid (SD.out.later bw); have A4 := Lib.hid h4; have D4 := Lib.hid g4; have hn4 : n4 ≤ 15728640000 := Nat.le_trans (Nat.le_of_eq h4.len.symm) (Nat.le_trans (qlen_num _) HYL.out); have hm4 : m4 ≤ 15728640000 := Nat.le_trans (Nat.le_of_eq g4.len.symm) (Nat.le_trans (qlen_den _) HYL.out); clear bw h4 g4; unfold frV; obtain ⟨e0, e1, e2⟩ := three_on HE.out HB.out; obtain ⟨x0, x1, x2⟩ := fcells_3 S0.out; obtain ⟨y0, y1, y2⟩ := fcells_3 P0.out)
        | (go_simp; go_at_call 51; refine (ref09_add_q _ _ s y _ (Rt.of SA.out SD.out (by omega) (by omega)) (Rt.of A4.out D4.out (by omega) (by omega))).mono ?_; rintro e w5 ⟨a5, n5, c5, b5, m5, d5, rfl, h5, g5, bw⟩; rw [E2.out] at h5 g5 ⊢; clear e0 e1 e2 x0 x1 x2 y0 y1 y2; replace HB := Lib.hid (below_then HB.out bw); replace S0 := Lib.hid (blk_later S0.out bw); replace P0 := Lib.hid (blk_later P0.out bw); replace X0 := Lib.hid (blk_later X0.out bw); replace R0 := Lib.hid (blk_later R0.out bw); replace PA := Lib.hid (PA.out.later bw); replace PD := Lib.hid (PD.out.later bw); have A5 := Lib.hid h5; have D5 := Lib.hid g5; clear bw h5 g5 SA SD A4 D4; unfold frV; obtain ⟨x0, x1, x2⟩ := fcells_3 S0.out; have f0 := blk_free S0.out 0; have f1 := blk_free S0.out 1; have f2 := blk_free S0.out 2))
      all_goals (
        have S9 := Lib.hid (blk_set3 S0.out (.bool (zneg s2.num)) (.slice a5 n5 c5) (.slice b5 m5 d5))
        have SA9 := Lib.hid (A5.out.stored3 S0.out (zneg s2.num) a5 n5 c5 (.slice b5 m5 d5))
        have SD9 := Lib.hid (D5.out.stored3 S0.out (zneg s2.num) a5 n5 c5 (.slice b5 m5 d5))
        have P9 := Lib.hid (blk_far3 P0.out hne1 (.bool (zneg s2.num)) (.slice a5 n5 c5) (.slice b5 m5 d5))
        have PA9 := Lib.hid (PA.out.stored3 S0.out (zneg s2.num) a5 n5 c5 (.slice b5 m5 d5))
        have PD9 := Lib.hid (PD.out.stored3 S0.out (zneg s2.num) a5 n5 c5 (.slice b5 m5 d5))
        have X9 := Lib.hid (blk_far3 X0.out (show w.heap.size ≠ w1.heap.size by omega) (.bool (zneg s2.num)) (.slice a5 n5 c5) (.slice b5 m5 d5))
        have R9 := Lib.hid (blk_far3 R0.out (show w.heap.size + 1 ≠ w1.heap.size by omega) (.bool (zneg s2.num)) (.slice a5 n5 c5) (.slice b5 m5 d5))
        have B9 := Lib.hid (below_set3 HB.out (show w.heap.size ≤ w1.heap.size by omega) (.bool (zneg s2.num)) (.slice a5 n5 c5) (.slice b5 m5 d5))
        clear S0 P0 X0 R0 HB A5 D5 PA PD
        obtain ⟨y0, y1, y2⟩ := fcells_3 P9.out
        obtain ⟨z0, z1, z2⟩ := fcells_3 X9.out
        go_wp2_with fail
        refine (ref09_mul_q _ _ p x _ (Rt.of PA9.out PD9.out hp3 hp4) (Rt.of (XA.out.later B9.out) (XD.out.later B9.out) hx3 hx4)).mono ?_
        rintro e w6 ⟨a6, n6, c6, b6, m6, d6, rfl, h6, g6, bw⟩
        rw [EP2.out] at h6 g6 ⊢
        clear y0 y1 y2 z0 z1 z2 PA9 PD9 f0 f1 f2 x0 x1 x2
        replace B9 := Lib.hid (below_then B9.out bw)
        replace S9 := Lib.hid (blk_later S9.out bw)
        replace SA9 := Lib.hid (SA9.out.later bw)
        replace SD9 := Lib.hid (SD9.out.later bw)
        replace P9 := Lib.hid (blk_later P9.out bw)
        replace X9 := Lib.hid (blk_later X9.out bw)
        replace R9 := Lib.hid (blk_later R9.out bw)
        have A6 := Lib.hid h6
        have D6 := Lib.hid g6
        clear bw h6 g6
        unfold frV
        obtain ⟨y0, y1, y2⟩ := fcells_3 P9.out
        have f0 := blk_free P9.out 0
        have f1 := blk_free P9.out 1
        have f2 := blk_free P9.out 2
        have S8 := Lib.hid (blk_far3 S9.out hne2 (.bool (zneg p2.num)) (.slice a6 n6 c6) (.slice b6 m6 d6))
        have SA8 := Lib.hid (SA9.out.stored3 P9.out (zneg p2.num) a6 n6 c6 (.slice b6 m6 d6))
        have SD8 := Lib.hid (SD9.out.stored3 P9.out (zneg p2.num) a6 n6 c6 (.slice b6 m6 d6))
        have P8 := Lib.hid (blk_set3 P9.out (.bool (zneg p2.num)) (.slice a6 n6 c6) (.slice b6 m6 d6))
        have PA8 := Lib.hid (A6.out.stored3 P9.out (zneg p2.num) a6 n6 c6 (.slice b6 m6 d6))
        have PD8 := Lib.hid (D6.out.stored3 P9.out (zneg p2.num) a6 n6 c6 (.slice b6 m6 d6))
        have X8 := Lib.hid (blk_far3 X9.out (show w.heap.size ≠ w2.heap.size by omega) (.bool (zneg p2.num)) (.slice a6 n6 c6) (.slice b6 m6 d6))
        have R8 := Lib.hid (blk_far3 R9.out (show w.heap.size + 1 ≠ w2.heap.size by omega) (.bool (zneg p2.num)) (.slice a6 n6 c6) (.slice b6 m6 d6))
        have B8 := Lib.hid (below_set3 B9.out (show w.heap.size ≤ w2.heap.size by omega) (.bool (zneg p2.num)) (.slice a6 n6 c6) (.slice b6 m6 d6))
        clear S9 SA9 SD9 P9 X9 R9 B9 A6 D6
        go_wp2
        go_roundw
        case rel => exact ⟨k + 1, s2, a5, n5, c5, b5, m5, d5, p2, a6, n6, c6, b6, m6, d6, by omega, by go_num, HV3, HLS2, HLP2, S8, SA8, SD8, P8, PA8, PD8, X8, R8, B8⟩
        case measure => simp [intOf]; omega)
    · have hki : ¬ (k : Int) < (n : Int) := by omega
      obtain rfl : k = n := by omega
      obtain rfl : s = V := HVN.out s p HV.out
      obtain ⟨x0, x1, x2⟩ := fcells_3 S0.out
      obtain ⟨y0, y1, y2⟩ := fcells_3 R0.out
      have f0 := blk_free R0.out 0
      have f1 := blk_free R0.out 1
      have f2 := blk_free R0.out 2
      have R9 := Lib.hid (blk_set3 R0.out (.bool (zneg s.num)) (.slice a1 n1 c1) (.slice b1 m1 d1))
      have S9 := Lib.hid (SA.out.stored3 R0.out (zneg s.num) a1 n1 c1 (.slice b1 m1 d1))
      have T9 := Lib.hid (SD.out.stored3 R0.out (zneg s.num) a1 n1 c1 (.slice b1 m1 d1))
      have G9 := Lib.hid (below_set3 HB.out (show w.heap.size ≤ w.heap.size + 1 by omega) (.bool (zneg s.num)) (.slice a1 n1 c1) (.slice b1 m1 d1))
      clear S0 SA SD P0 PA PD X0 R0 HB HV HLs HLp HVS HVN
      go_wp2
      refine bodyPost_ret (results_cell_row Tryz.results20 _ _ (w.heap.size + 1) 25 #[.bool (zneg s.num), .slice a1 n1 c1, .slice b1 m1 d1] (0, 0) _ rfl R9.out Tryz.underlying25 rfl (by kernel_rfl)) rfl ?_
      exact ⟨a1, n1, c1, b1, m1, d1, rfl, S9.out, T9.out, G9.out⟩
end Go.Proofs.YtipcgehcineblaaGreat
