/-
  The walks of the laws of layer 9: FracTells.
-/
import Derived.Test.YtpjgmkkdbmegjaaGreatG15
import Derived.Test.YtpjgmkkdbmegjaaGreatRef09kM
import Derived.Deep.RegionHeld3
namespace Go.Proofs.YtpjgmkkdbmegjaaGreat
open Go.RowKit

theorem cells_3_3_3_3_3_2 {w : World} {A0 A1 A2 A3 A4 A5 : Nat} {c0_0 c0_1 c0_2 c1_0 c1_1 c1_2 c2_0 c2_1 c2_2 c3_0 c3_1 c3_2 c4_0 c4_1 c4_2 c5_0 c5_1 : Value} {t0 t1 t2 t3 t4 t5 : TypeId} (h0 : w.heap[A0]? = some (.cells #[c0_0, c0_1, c0_2] t0 (0, 0))) (h1 : w.heap[A1]? = some (.cells #[c1_0, c1_1, c1_2] t1 (0, 0))) (h2 : w.heap[A2]? = some (.cells #[c2_0, c2_1, c2_2] t2 (0, 0))) (h3 : w.heap[A3]? = some (.cells #[c3_0, c3_1, c3_2] t3 (0, 0))) (h4 : w.heap[A4]? = some (.cells #[c4_0, c4_1, c4_2] t4 (0, 0))) (h5 : w.heap[A5]? = some (.cells #[c5_0, c5_1] t5 (0, 0))) : w.cell? ⟨A0, 0, none⟩ = some c0_0 ∧ w.cell? ⟨A0, 1, none⟩ = some c0_1 ∧ w.cell? ⟨A0, 2, none⟩ = some c0_2 ∧ w.cell? ⟨A1, 0, none⟩ = some c1_0 ∧ w.cell? ⟨A1, 1, none⟩ = some c1_1 ∧ w.cell? ⟨A1, 2, none⟩ = some c1_2 ∧ w.cell? ⟨A2, 0, none⟩ = some c2_0 ∧ w.cell? ⟨A2, 1, none⟩ = some c2_1 ∧ w.cell? ⟨A2, 2, none⟩ = some c2_2 ∧ w.cell? ⟨A3, 0, none⟩ = some c3_0 ∧ w.cell? ⟨A3, 1, none⟩ = some c3_1 ∧ w.cell? ⟨A3, 2, none⟩ = some c3_2 ∧ w.cell? ⟨A4, 0, none⟩ = some c4_0 ∧ w.cell? ⟨A4, 1, none⟩ = some c4_1 ∧ w.cell? ⟨A4, 2, none⟩ = some c4_2 ∧ w.cell? ⟨A5, 0, none⟩ = some c5_0 ∧ w.cell? ⟨A5, 1, none⟩ = some c5_1 := ⟨blk_cell h0 0, blk_cell h0 1, blk_cell h0 2, blk_cell h1 0, blk_cell h1 1, blk_cell h1 2, blk_cell h2 0, blk_cell h2 1, blk_cell h2 2, blk_cell h3 0, blk_cell h3 1, blk_cell h3 2, blk_cell h4 0, blk_cell h4 1, blk_cell h4 2, blk_cell h5 0, blk_cell h5 1⟩
theorem rat_eq_iff (p q : Rat) : (zneg p.num = zneg q.num ∧ dg p.num.natAbs = dg q.num.natAbs ∧ dg p.den = dg q.den) ↔ p = q := by
  constructor
  · rintro ⟨h1, h2, h3⟩
    have e2 : p.num.natAbs = q.num.natAbs := by have := congrArg val h2; rwa [val_dg, val_dg] at this
    have e3 : p.den = q.den := by have := congrArg val h3; rwa [val_dg, val_dg] at this
    have e1 : p.num = q.num := by
      have a1 := zval_of p.num
      have a2 := zval_of q.num
      rw [← a1, ← a2, h1, e2]
    exact Rat.ext e1 e3
  · rintro rfl; exact ⟨rfl, rfl, rfl⟩
theorem ref09_same_q (v u : Value) (p q : Rat) (w : World) (h : Rt w v p 15000) (k : Rt w u q 15000) : Calls Tryz.prog 14 #[v, u] w (Gives (.bool (decide (p = q))) w) := by
  obtain ⟨a, n, cap, b, m, cap', rfl, ha, hb, hn, hm⟩ := h
  obtain ⟨a', n', c', b', m', d', rfl, ha', hb', hn', hm'⟩ := k
  have e := ref09_same (zneg p.num) a n cap _ b m cap' _ (zneg q.num) a' n' c' _ b' m' d' _ w ha hb ha' hb'
  rwa [decide_eq_decide.2 (rat_eq_iff p q)] at e
set_option maxRecDepth 4096 in
set_option maxHeartbeats 16000000 in
theorem law09_tells_in (S : FracSaid) (s0 : Bool) (a0 : Option Addr) (n0 c0 : Nat) (la0 : List Nat) (b0 : Option Addr) (m0 d0 : Nat) (lb0 : List Nat) (s1 : Bool) (a1 : Option Addr) (n1 c1 : Nat) (la1 : List Nat) (b1 : Option Addr) (m1 d1 : Nat) (lb1 : List Nat) (w : World) (ha0 : Wd w a0 n0 c0 la0) (hb0 : Wd w b0 m0 d0 lb0) (ha1 : Wd w a1 n1 c1 la1) (hb1 : Wd w b1 m1 d1 lb1) (hn0 : n0 ≤ 30) (hm0 : m0 ≤ 30) (hn1 : n1 ≤ 30) (hm1 : m1 ≤ 30) :
    Calls Tryz.prog 3 #[frV s0 a0 n0 c0 b0 m0 d0, frV s1 a1 n1 c1 b1 m1 d1] w (Gives (.bool true) w) := by
  have HB := Lib.hid (below_then (below_alloc w (.cells #[.bool s0, .slice a0 n0 c0, .slice b0 m0 d0] 24)) (below_alloc (w.alloc (.cells #[.bool s0, .slice a0 n0 c0, .slice b0 m0 d0] 24)) (.cells #[.bool s1, .slice a1 n1 c1, .slice b1 m1 d1] 24)))
  have A0 := Lib.hid (ha0.later HB.out)
  have B0 := Lib.hid (hb0.later HB.out)
  have A1 := Lib.hid (ha1.later HB.out)
  have B1 := Lib.hid (hb1.later HB.out)
  obtain ⟨hx0, hx1⟩ := boxes_at w ((w.alloc (.cells #[.bool s0, .slice a0 n0 c0, .slice b0 m0 d0] 24)).alloc (.cells #[.bool s1, .slice a1 n1 c1, .slice b1 m1 d1] 24)) #[.bool s0, .slice a0 n0 c0, .slice b0 m0 d0] #[.bool s1, .slice a1 n1 c1, .slice b1 m1 d1] 24 24 (Below.refl _ _)
  have X0 := Lib.hid hx0
  have X1 := Lib.hid hx1
  clear hx0 hx1
  obtain ⟨p0, hp0⟩ : ∃ p, qval s0 (val la0) (val lb0) = p := ⟨_, rfl⟩
  have lp0 : qlen p0 ≤ 31 := (Fr.of ha0 hb0 hn0 hm0 hp0).len
  have EQ0 := Lib.hid hp0
  obtain ⟨p1, hp1⟩ : ∃ p, qval s1 (val la1) (val lb1) = p := ⟨_, rfl⟩
  have lp1 : qlen p1 ≤ 31 := (Fr.of ha1 hb1 hn1 hm1 hp1).len
  have EQ1 := Lib.hid hp1
  clear ha0 hb0 hp0 ha1 hb1 hp1
  have hl0 : (decide ((30 : Int) < (n0 : Int)) || decide ((30 : Int) < (m0 : Int))) = false := by rw [decide_eq_false (by omega), decide_eq_false (by omega)]; rfl
  have hl1 : (decide ((30 : Int) < (n1 : Int)) || decide ((30 : Int) < (m1 : Int))) = false := by rw [decide_eq_false (by omega), decide_eq_false (by omega)]; rfl
  obtain ⟨K, hK⟩ : ∃ r : Int, ((blen (val la0) + blen (val lb0) : Nat) : Int) = r := ⟨_, rfl⟩
  have EK := Lib.hid hK
  have eK : (K == K) = true := by simp
  clear hK
  obtain ⟨B, hB⟩ : ∃ r : Bool, decide (s0 = zneg p0.num ∧ la0 = dg p0.num.natAbs ∧ lb0 = dg p0.den) = r := ⟨_, rfl⟩
  have EB := Lib.hid hB
  have eB : (B == B) = true := by simp
  clear hB
  obtain ⟨G, hG⟩ : ∃ r : Int, sgn p0.num = r := ⟨_, rfl⟩
  have EG := Lib.hid hG
  have eG : (G == G) = true := by simp
  clear hG
  obtain ⟨C, hC⟩ : ∃ r : Int, sgn (p0 - p1).num = r := ⟨_, rfl⟩
  have EC := Lib.hid hC
  have eC : (C == C) = true := by simp
  clear hC
  obtain ⟨D, hD⟩ : ∃ r : Bool, decide (p0 = p1) = r := ⟨_, rfl⟩
  have ED := Lib.hid hD
  have eD : (D == D) = true := by simp
  clear hD
  obtain ⟨z, hz⟩ : ∃ r, p0.floor = r := ⟨_, rfl⟩
  have EZ := Lib.hid hz
  clear hz
  go_enter Tryz.func3, Tryz.ntmps3
  unfold frV
  obtain ⟨k0, k1, k2, k3, k4, k5⟩ := cells_3_3 X0.out X1.out
  go_wp2_with fail
  refine (ref09_long s0 a0 n0 c0 b0 m0 d0 30 _).mono ?_
  rintro e w1 ⟨rfl, b⟩
  clear k0 k1 k2 k3 k4 k5
  replace HB := Lib.hid (below_then HB.out b)
  replace X0 := Lib.hid (blk_later X0.out b)
  replace X1 := Lib.hid (blk_later X1.out b)
  replace A0 := Lib.hid (A0.out.later b)
  replace B0 := Lib.hid (B0.out.later b)
  replace A1 := Lib.hid (A1.out.later b)
  replace B1 := Lib.hid (B1.out.later b)
  clear b
  rw [hl0]
  obtain ⟨k0, k1, k2, k3, k4, k5⟩ := cells_3_3 X0.out X1.out
  go_wp2_with fail
  refine (ref09_long s1 a1 n1 c1 b1 m1 d1 30 _).mono ?_
  rintro e w2 ⟨rfl, b⟩
  clear k0 k1 k2 k3 k4 k5
  replace HB := Lib.hid (below_then HB.out b)
  replace X0 := Lib.hid (blk_later X0.out b)
  replace X1 := Lib.hid (blk_later X1.out b)
  replace A0 := Lib.hid (A0.out.later b)
  replace B0 := Lib.hid (B0.out.later b)
  replace A1 := Lib.hid (A1.out.later b)
  replace B1 := Lib.hid (B1.out.later b)
  clear b
  rw [hl1]
  obtain ⟨k0, k1, k2, k3, k4, k5⟩ := cells_3_3 X0.out X1.out
  go_wp2_with fail
  refine (law09_to s0 a0 n0 c0 b0 m0 d0 _).mono ?_
  rintro e w3 ⟨rfl, b⟩
  clear k0 k1 k2 k3 k4 k5
  replace HB := Lib.hid (below_then HB.out b)
  replace X0 := Lib.hid (blk_later X0.out b)
  replace X1 := Lib.hid (blk_later X1.out b)
  replace A0 := Lib.hid (A0.out.later b)
  replace B0 := Lib.hid (B0.out.later b)
  replace A1 := Lib.hid (A1.out.later b)
  replace B1 := Lib.hid (B1.out.later b)
  clear b
  unfold frV
  have P0 : Hid ((World.alloc w3 (.cells #[.bool s0, .slice a0 n0 c0, .slice b0 m0 d0] 30)).heap[w3.heap.size]? = some (.cells #[.bool s0, .slice a0 n0 c0, .slice b0 m0 d0] 30 (0, 0))) := Lib.hid (blk_new w3 _ _)
  replace HB := Lib.hid (below_then HB.out (below_alloc w3 (.cells #[.bool s0, .slice a0 n0 c0, .slice b0 m0 d0] 30)))
  replace X0 := Lib.hid (blk_later X0.out (below_alloc w3 (.cells #[.bool s0, .slice a0 n0 c0, .slice b0 m0 d0] 30)))
  replace X1 := Lib.hid (blk_later X1.out (below_alloc w3 (.cells #[.bool s0, .slice a0 n0 c0, .slice b0 m0 d0] 30)))
  replace A0 := Lib.hid (A0.out.later (below_alloc w3 (.cells #[.bool s0, .slice a0 n0 c0, .slice b0 m0 d0] 30)))
  replace B0 := Lib.hid (B0.out.later (below_alloc w3 (.cells #[.bool s0, .slice a0 n0 c0, .slice b0 m0 d0] 30)))
  replace A1 := Lib.hid (A1.out.later (below_alloc w3 (.cells #[.bool s0, .slice a0 n0 c0, .slice b0 m0 d0] 30)))
  replace B1 := Lib.hid (B1.out.later (below_alloc w3 (.cells #[.bool s0, .slice a0 n0 c0, .slice b0 m0 d0] 30)))
  obtain ⟨k0, k1, k2, k3, k4, k5, k6, k7, k8⟩ := cells_3_3_3 X0.out X1.out P0.out
  go_wp2_with fail
  refine (law09_to s1 a1 n1 c1 b1 m1 d1 _).mono ?_
  rintro e w4 ⟨rfl, b⟩
  clear k0 k1 k2 k3 k4 k5 k6 k7 k8
  replace HB := Lib.hid (below_then HB.out b)
  replace X0 := Lib.hid (blk_later X0.out b)
  replace X1 := Lib.hid (blk_later X1.out b)
  replace P0 := Lib.hid (blk_later P0.out b)
  replace A0 := Lib.hid (A0.out.later b)
  replace B0 := Lib.hid (B0.out.later b)
  replace A1 := Lib.hid (A1.out.later b)
  replace B1 := Lib.hid (B1.out.later b)
  clear b
  unfold frV
  have P1 : Hid ((World.alloc w4 (.cells #[.bool s1, .slice a1 n1 c1, .slice b1 m1 d1] 30)).heap[w4.heap.size]? = some (.cells #[.bool s1, .slice a1 n1 c1, .slice b1 m1 d1] 30 (0, 0))) := Lib.hid (blk_new w4 _ _)
  replace HB := Lib.hid (below_then HB.out (below_alloc w4 (.cells #[.bool s1, .slice a1 n1 c1, .slice b1 m1 d1] 30)))
  replace X0 := Lib.hid (blk_later X0.out (below_alloc w4 (.cells #[.bool s1, .slice a1 n1 c1, .slice b1 m1 d1] 30)))
  replace X1 := Lib.hid (blk_later X1.out (below_alloc w4 (.cells #[.bool s1, .slice a1 n1 c1, .slice b1 m1 d1] 30)))
  replace P0 := Lib.hid (blk_later P0.out (below_alloc w4 (.cells #[.bool s1, .slice a1 n1 c1, .slice b1 m1 d1] 30)))
  replace A0 := Lib.hid (A0.out.later (below_alloc w4 (.cells #[.bool s1, .slice a1 n1 c1, .slice b1 m1 d1] 30)))
  replace B0 := Lib.hid (B0.out.later (below_alloc w4 (.cells #[.bool s1, .slice a1 n1 c1, .slice b1 m1 d1] 30)))
  replace A1 := Lib.hid (A1.out.later (below_alloc w4 (.cells #[.bool s1, .slice a1 n1 c1, .slice b1 m1 d1] 30)))
  replace B1 := Lib.hid (B1.out.later (below_alloc w4 (.cells #[.bool s1, .slice a1 n1 c1, .slice b1 m1 d1] 30)))
  obtain ⟨k0, k1, k2, k3, k4, k5, k6, k7, k8, k9, k10, k11⟩ := cells_3_3_3_3 X0.out X1.out P0.out P1.out
  go_wp2_with fail
  refine (ref09_norm_q _ p0 _ (Fr.of A0.out B0.out (by omega) (by omega) EQ0.out)).mono ?_
  rintro e w5 ⟨a2, n2, c2, b2, m2, d2, rfl, h2, g2, b⟩
  clear k0 k1 k2 k3 k4 k5 k6 k7 k8 k9 k10 k11
  replace HB := Lib.hid (below_then HB.out b)
  replace X0 := Lib.hid (blk_later X0.out b)
  replace X1 := Lib.hid (blk_later X1.out b)
  replace P0 := Lib.hid (blk_later P0.out b)
  replace P1 := Lib.hid (blk_later P1.out b)
  replace A0 := Lib.hid (A0.out.later b)
  replace B0 := Lib.hid (B0.out.later b)
  replace A1 := Lib.hid (A1.out.later b)
  replace B1 := Lib.hid (B1.out.later b)
  clear b
  have hN2 : n2 ≤ qlen p0 := (by rw [← h2.len]; exact qlen_num _)
  have hM2 : m2 ≤ qlen p0 := (by rw [← g2.len]; exact qlen_den _)
  have R2 := Lib.hid h2
  have T2 := Lib.hid g2
  clear h2 g2
  unfold frV
  have M0 : Hid ((World.alloc w5 (.cells #[.bool (zneg p0.num), .slice a2 n2 c2, .slice b2 m2 d2] 24)).heap[w5.heap.size]? = some (.cells #[.bool (zneg p0.num), .slice a2 n2 c2, .slice b2 m2 d2] 24 (0, 0))) := Lib.hid (blk_new w5 _ _)
  replace HB := Lib.hid (below_then HB.out (below_alloc w5 (.cells #[.bool (zneg p0.num), .slice a2 n2 c2, .slice b2 m2 d2] 24)))
  replace X0 := Lib.hid (blk_later X0.out (below_alloc w5 (.cells #[.bool (zneg p0.num), .slice a2 n2 c2, .slice b2 m2 d2] 24)))
  replace X1 := Lib.hid (blk_later X1.out (below_alloc w5 (.cells #[.bool (zneg p0.num), .slice a2 n2 c2, .slice b2 m2 d2] 24)))
  replace P0 := Lib.hid (blk_later P0.out (below_alloc w5 (.cells #[.bool (zneg p0.num), .slice a2 n2 c2, .slice b2 m2 d2] 24)))
  replace P1 := Lib.hid (blk_later P1.out (below_alloc w5 (.cells #[.bool (zneg p0.num), .slice a2 n2 c2, .slice b2 m2 d2] 24)))
  replace A0 := Lib.hid (A0.out.later (below_alloc w5 (.cells #[.bool (zneg p0.num), .slice a2 n2 c2, .slice b2 m2 d2] 24)))
  replace B0 := Lib.hid (B0.out.later (below_alloc w5 (.cells #[.bool (zneg p0.num), .slice a2 n2 c2, .slice b2 m2 d2] 24)))
  replace A1 := Lib.hid (A1.out.later (below_alloc w5 (.cells #[.bool (zneg p0.num), .slice a2 n2 c2, .slice b2 m2 d2] 24)))
  replace B1 := Lib.hid (B1.out.later (below_alloc w5 (.cells #[.bool (zneg p0.num), .slice a2 n2 c2, .slice b2 m2 d2] 24)))
  replace R2 := Lib.hid (R2.out.later (below_alloc w5 (.cells #[.bool (zneg p0.num), .slice a2 n2 c2, .slice b2 m2 d2] 24)))
  replace T2 := Lib.hid (T2.out.later (below_alloc w5 (.cells #[.bool (zneg p0.num), .slice a2 n2 c2, .slice b2 m2 d2] 24)))
  obtain ⟨k0, k1, k2, k3, k4, k5, k6, k7, k8, k9, k10, k11, k12, k13, k14⟩ := cells_3_3_3_3_3 X0.out X1.out P0.out P1.out M0.out
  go_wp2_with fail
  refine (ref09_norm_q _ p1 _ (Fr.of A1.out B1.out (by omega) (by omega) EQ1.out)).mono ?_
  rintro e w6 ⟨a3, n3, c3, b3, m3, d3, rfl, h3, g3, b⟩
  clear k0 k1 k2 k3 k4 k5 k6 k7 k8 k9 k10 k11 k12 k13 k14
  replace HB := Lib.hid (below_then HB.out b)
  replace X0 := Lib.hid (blk_later X0.out b)
  replace X1 := Lib.hid (blk_later X1.out b)
  replace P0 := Lib.hid (blk_later P0.out b)
  replace P1 := Lib.hid (blk_later P1.out b)
  replace M0 := Lib.hid (blk_later M0.out b)
  replace A0 := Lib.hid (A0.out.later b)
  replace B0 := Lib.hid (B0.out.later b)
  replace A1 := Lib.hid (A1.out.later b)
  replace B1 := Lib.hid (B1.out.later b)
  replace R2 := Lib.hid (R2.out.later b)
  replace T2 := Lib.hid (T2.out.later b)
  clear b
  have hN3 : n3 ≤ qlen p1 := (by rw [← h3.len]; exact qlen_num _)
  have hM3 : m3 ≤ qlen p1 := (by rw [← g3.len]; exact qlen_den _)
  have R3 := Lib.hid h3
  have T3 := Lib.hid g3
  clear h3 g3
  unfold frV
  have M1 : Hid ((World.alloc w6 (.cells #[.bool (zneg p1.num), .slice a3 n3 c3, .slice b3 m3 d3] 24)).heap[w6.heap.size]? = some (.cells #[.bool (zneg p1.num), .slice a3 n3 c3, .slice b3 m3 d3] 24 (0, 0))) := Lib.hid (blk_new w6 _ _)
  replace HB := Lib.hid (below_then HB.out (below_alloc w6 (.cells #[.bool (zneg p1.num), .slice a3 n3 c3, .slice b3 m3 d3] 24)))
  replace X0 := Lib.hid (blk_later X0.out (below_alloc w6 (.cells #[.bool (zneg p1.num), .slice a3 n3 c3, .slice b3 m3 d3] 24)))
  replace X1 := Lib.hid (blk_later X1.out (below_alloc w6 (.cells #[.bool (zneg p1.num), .slice a3 n3 c3, .slice b3 m3 d3] 24)))
  replace P0 := Lib.hid (blk_later P0.out (below_alloc w6 (.cells #[.bool (zneg p1.num), .slice a3 n3 c3, .slice b3 m3 d3] 24)))
  replace P1 := Lib.hid (blk_later P1.out (below_alloc w6 (.cells #[.bool (zneg p1.num), .slice a3 n3 c3, .slice b3 m3 d3] 24)))
  replace M0 := Lib.hid (blk_later M0.out (below_alloc w6 (.cells #[.bool (zneg p1.num), .slice a3 n3 c3, .slice b3 m3 d3] 24)))
  replace A0 := Lib.hid (A0.out.later (below_alloc w6 (.cells #[.bool (zneg p1.num), .slice a3 n3 c3, .slice b3 m3 d3] 24)))
  replace B0 := Lib.hid (B0.out.later (below_alloc w6 (.cells #[.bool (zneg p1.num), .slice a3 n3 c3, .slice b3 m3 d3] 24)))
  replace A1 := Lib.hid (A1.out.later (below_alloc w6 (.cells #[.bool (zneg p1.num), .slice a3 n3 c3, .slice b3 m3 d3] 24)))
  replace B1 := Lib.hid (B1.out.later (below_alloc w6 (.cells #[.bool (zneg p1.num), .slice a3 n3 c3, .slice b3 m3 d3] 24)))
  replace R2 := Lib.hid (R2.out.later (below_alloc w6 (.cells #[.bool (zneg p1.num), .slice a3 n3 c3, .slice b3 m3 d3] 24)))
  replace T2 := Lib.hid (T2.out.later (below_alloc w6 (.cells #[.bool (zneg p1.num), .slice a3 n3 c3, .slice b3 m3 d3] 24)))
  replace R3 := Lib.hid (R3.out.later (below_alloc w6 (.cells #[.bool (zneg p1.num), .slice a3 n3 c3, .slice b3 m3 d3] 24)))
  replace T3 := Lib.hid (T3.out.later (below_alloc w6 (.cells #[.bool (zneg p1.num), .slice a3 n3 c3, .slice b3 m3 d3] 24)))
  obtain ⟨k0, k1, k2, k3, k4, k5, k6, k7, k8, k9, k10, k11, k12, k13, k14⟩ := cells_3_3_3_3_3 X0.out P0.out P1.out M0.out M1.out
  go_wp2_with fail
  refine (S.floor _ p0 _ (Fr.of A0.out B0.out (by omega) (by omega) EQ0.out)).mono ?_
  rintro e w7 ⟨a4, n4, c4, rfl, h4, b⟩
  clear k0 k1 k2 k3 k4 k5 k6 k7 k8 k9 k10 k11 k12 k13 k14
  replace HB := Lib.hid (below_then HB.out b)
  replace X0 := Lib.hid (blk_later X0.out b)
  replace P0 := Lib.hid (blk_later P0.out b)
  replace P1 := Lib.hid (blk_later P1.out b)
  replace M0 := Lib.hid (blk_later M0.out b)
  replace M1 := Lib.hid (blk_later M1.out b)
  replace A0 := Lib.hid (A0.out.later b)
  replace B0 := Lib.hid (B0.out.later b)
  replace A1 := Lib.hid (A1.out.later b)
  replace B1 := Lib.hid (B1.out.later b)
  replace R2 := Lib.hid (R2.out.later b)
  replace T2 := Lib.hid (T2.out.later b)
  replace R3 := Lib.hid (R3.out.later b)
  replace T3 := Lib.hid (T3.out.later b)
  clear b
  rw [EZ.out] at h4 ⊢
  have R4 := Lib.hid h4
  clear h4
  unfold whV
  have HF : Hid ((World.alloc w7 (.cells #[.bool (zneg z), .slice a4 n4 c4] 28)).heap[w7.heap.size]? = some (.cells #[.bool (zneg z), .slice a4 n4 c4] 28 (0, 0))) := Lib.hid (blk_new w7 _ _)
  replace HB := Lib.hid (below_then HB.out (below_alloc w7 (.cells #[.bool (zneg z), .slice a4 n4 c4] 28)))
  replace X0 := Lib.hid (blk_later X0.out (below_alloc w7 (.cells #[.bool (zneg z), .slice a4 n4 c4] 28)))
  replace P0 := Lib.hid (blk_later P0.out (below_alloc w7 (.cells #[.bool (zneg z), .slice a4 n4 c4] 28)))
  replace P1 := Lib.hid (blk_later P1.out (below_alloc w7 (.cells #[.bool (zneg z), .slice a4 n4 c4] 28)))
  replace M0 := Lib.hid (blk_later M0.out (below_alloc w7 (.cells #[.bool (zneg z), .slice a4 n4 c4] 28)))
  replace M1 := Lib.hid (blk_later M1.out (below_alloc w7 (.cells #[.bool (zneg z), .slice a4 n4 c4] 28)))
  replace A0 := Lib.hid (A0.out.later (below_alloc w7 (.cells #[.bool (zneg z), .slice a4 n4 c4] 28)))
  replace B0 := Lib.hid (B0.out.later (below_alloc w7 (.cells #[.bool (zneg z), .slice a4 n4 c4] 28)))
  replace A1 := Lib.hid (A1.out.later (below_alloc w7 (.cells #[.bool (zneg z), .slice a4 n4 c4] 28)))
  replace B1 := Lib.hid (B1.out.later (below_alloc w7 (.cells #[.bool (zneg z), .slice a4 n4 c4] 28)))
  replace R2 := Lib.hid (R2.out.later (below_alloc w7 (.cells #[.bool (zneg z), .slice a4 n4 c4] 28)))
  replace T2 := Lib.hid (T2.out.later (below_alloc w7 (.cells #[.bool (zneg z), .slice a4 n4 c4] 28)))
  replace R3 := Lib.hid (R3.out.later (below_alloc w7 (.cells #[.bool (zneg z), .slice a4 n4 c4] 28)))
  replace T3 := Lib.hid (T3.out.later (below_alloc w7 (.cells #[.bool (zneg z), .slice a4 n4 c4] 28)))
  replace R4 := Lib.hid (R4.out.later (below_alloc w7 (.cells #[.bool (zneg z), .slice a4 n4 c4] 28)))
  obtain ⟨k0, k1, k2, k3, k4, k5, k6, k7, k8, k9, k10, k11, k12, k13, k14, k15, k16⟩ := cells_3_3_3_3_3_2 X0.out P0.out P1.out M0.out M1.out HF.out
  go_wp2
  clear k0 k1 k2 k3 k4 k5 k6 k7 k8 k9 k10 k11 k12 k13 k14 k15 k16
  generalize (w7.alloc (.cells #[.bool (zneg z), .slice a4 n4 c4] 28)) = W at *
  replace HB := Lib.hid (below_then HB.out ((Below.refl _ _).drew : Below W.heap.size W W.drew))
  replace X0 : Hid (W.drew.heap[w.heap.size]? = _) := Lib.hid X0.out
  replace P0 : Hid (W.drew.heap[w3.heap.size]? = _) := Lib.hid P0.out
  replace P1 : Hid (W.drew.heap[w4.heap.size]? = _) := Lib.hid P1.out
  replace M0 : Hid (W.drew.heap[w5.heap.size]? = _) := Lib.hid M0.out
  replace M1 : Hid (W.drew.heap[w6.heap.size]? = _) := Lib.hid M1.out
  replace HF : Hid (W.drew.heap[w7.heap.size]? = _) := Lib.hid HF.out
  replace A0 := Lib.hid (A0.out.later ((Below.refl _ _).drew : Below W.heap.size W W.drew))
  replace B0 := Lib.hid (B0.out.later ((Below.refl _ _).drew : Below W.heap.size W W.drew))
  replace A1 := Lib.hid (A1.out.later ((Below.refl _ _).drew : Below W.heap.size W W.drew))
  replace B1 := Lib.hid (B1.out.later ((Below.refl _ _).drew : Below W.heap.size W W.drew))
  replace R2 := Lib.hid (R2.out.later ((Below.refl _ _).drew : Below W.heap.size W W.drew))
  replace T2 := Lib.hid (T2.out.later ((Below.refl _ _).drew : Below W.heap.size W W.drew))
  replace R3 := Lib.hid (R3.out.later ((Below.refl _ _).drew : Below W.heap.size W W.drew))
  replace T3 := Lib.hid (T3.out.later ((Below.refl _ _).drew : Below W.heap.size W W.drew))
  replace R4 := Lib.hid (R4.out.later ((Below.refl _ _).drew : Below W.heap.size W W.drew))
  have rSn := cells_3_3_3_3_3_2 X0.out P0.out P1.out M0.out M1.out HF.out
  go_region_held3 (fun w' => w'.cell? ⟨w.heap.size, 0, none⟩ = some (.bool s0) ∧ w'.cell? ⟨w.heap.size, 1, none⟩ = some (.slice a0 n0 c0) ∧ w'.cell? ⟨w.heap.size, 2, none⟩ = some (.slice b0 m0 d0) ∧ w'.cell? ⟨w3.heap.size, 0, none⟩ = some (.bool s0) ∧ w'.cell? ⟨w3.heap.size, 1, none⟩ = some (.slice a0 n0 c0) ∧ w'.cell? ⟨w3.heap.size, 2, none⟩ = some (.slice b0 m0 d0) ∧ w'.cell? ⟨w4.heap.size, 0, none⟩ = some (.bool s1) ∧ w'.cell? ⟨w4.heap.size, 1, none⟩ = some (.slice a1 n1 c1) ∧ w'.cell? ⟨w4.heap.size, 2, none⟩ = some (.slice b1 m1 d1) ∧ w'.cell? ⟨w5.heap.size, 0, none⟩ = some (.bool (zneg p0.num)) ∧ w'.cell? ⟨w5.heap.size, 1, none⟩ = some (.slice a2 n2 c2) ∧ w'.cell? ⟨w5.heap.size, 2, none⟩ = some (.slice b2 m2 d2) ∧ w'.cell? ⟨w6.heap.size, 0, none⟩ = some (.bool (zneg p1.num)) ∧ w'.cell? ⟨w6.heap.size, 1, none⟩ = some (.slice a3 n3 c3) ∧ w'.cell? ⟨w6.heap.size, 2, none⟩ = some (.slice b3 m3 d3) ∧ w'.cell? ⟨w7.heap.size, 0, none⟩ = some (.bool (zneg z)) ∧ w'.cell? ⟨w7.heap.size, 1, none⟩ = some (.slice a4 n4 c4)) (exact rSn)
    (first
    | (go_at_call 10; (first
      | (refine (ref09_floor_q p0 a2 n2 c2 b2 m2 d2 _ R2.out T2.out (by omega) (by omega)).mono ?_; rintro e wr1 ⟨a5, n5, c5, rfl, h5, b⟩; replace HB := Lib.hid (below_then HB.out b); replace X0 := Lib.hid (blk_later X0.out b); replace P0 := Lib.hid (blk_later P0.out b); replace P1 := Lib.hid (blk_later P1.out b); replace M0 := Lib.hid (blk_later M0.out b); replace M1 := Lib.hid (blk_later M1.out b); replace HF := Lib.hid (blk_later HF.out b); replace A0 := Lib.hid (A0.out.later b); replace B0 := Lib.hid (B0.out.later b); replace A1 := Lib.hid (A1.out.later b); replace B1 := Lib.hid (B1.out.later b); replace R2 := Lib.hid (R2.out.later b); replace T2 := Lib.hid (T2.out.later b); replace R3 := Lib.hid (R3.out.later b); replace T3 := Lib.hid (T3.out.later b); replace R4 := Lib.hid (R4.out.later b); have R5 := Lib.hid h5; rw [EZ.out] at h5 ⊢; replace R5 : Hid (Wd _ a5 n5 c5 (dg z.natAbs)) := Lib.hid h5; clear h5; unfold whV; clear b; clear rSn; have rSn := cells_3_3_3_3_3_2 X0.out P0.out P1.out M0.out M1.out HF.out; have rM1 := True.intro)))
    | (go_at_call 9; (first
      | (have rm1 := rM1; refine (ref08_same_yes (zneg z) a4 n4 c4 a5 n5 c5 _ _ R4.out R5.out).mono ?_; rintro e wr2 ⟨rfl, b⟩; replace HB := Lib.hid (below_then HB.out b); replace X0 := Lib.hid (blk_later X0.out b); replace P0 := Lib.hid (blk_later P0.out b); replace P1 := Lib.hid (blk_later P1.out b); replace M0 := Lib.hid (blk_later M0.out b); replace M1 := Lib.hid (blk_later M1.out b); replace HF := Lib.hid (blk_later HF.out b); replace A0 := Lib.hid (A0.out.later b); replace B0 := Lib.hid (B0.out.later b); replace A1 := Lib.hid (A1.out.later b); replace B1 := Lib.hid (B1.out.later b); replace R2 := Lib.hid (R2.out.later b); replace T2 := Lib.hid (T2.out.later b); replace R3 := Lib.hid (R3.out.later b); replace T3 := Lib.hid (T3.out.later b); replace R4 := Lib.hid (R4.out.later b); clear R5; clear b; clear rSn; have rSn := cells_3_3_3_3_3_2 X0.out P0.out P1.out M0.out M1.out HF.out; clear rM1 rm1; have rM2 := True.intro)))
    | (go_at_call 11; (first
      | (have rm2 := rM2; refine (S.size s0 a0 n0 c0 la0 b0 m0 d0 lb0 _ A0.out B0.out (by omega) (by omega)).mono ?_; rintro e wr3 ⟨rfl, b⟩; replace HB := Lib.hid (below_then HB.out b); replace X0 := Lib.hid (blk_later X0.out b); replace P0 := Lib.hid (blk_later P0.out b); replace P1 := Lib.hid (blk_later P1.out b); replace M0 := Lib.hid (blk_later M0.out b); replace M1 := Lib.hid (blk_later M1.out b); replace HF := Lib.hid (blk_later HF.out b); replace A0 := Lib.hid (A0.out.later b); replace B0 := Lib.hid (B0.out.later b); replace A1 := Lib.hid (A1.out.later b); replace B1 := Lib.hid (B1.out.later b); replace R2 := Lib.hid (R2.out.later b); replace T2 := Lib.hid (T2.out.later b); replace R3 := Lib.hid (R3.out.later b); replace T3 := Lib.hid (T3.out.later b); replace R4 := Lib.hid (R4.out.later b); rw [EK.out]; clear b; clear rSn; have rSn := cells_3_3_3_3_3_2 X0.out P0.out P1.out M0.out M1.out HF.out; clear rM2 rm2; have rM3 := True.intro)))
    | (go_at_call 12; (first
      | (have rm3 := rM3; refine (ref09_size s0 a0 n0 c0 la0 b0 m0 d0 lb0 _ A0.out B0.out (by omega) (by omega)).mono ?_; rintro e wr4 ⟨rfl, b⟩; replace HB := Lib.hid (below_then HB.out b); replace X0 := Lib.hid (blk_later X0.out b); replace P0 := Lib.hid (blk_later P0.out b); replace P1 := Lib.hid (blk_later P1.out b); replace M0 := Lib.hid (blk_later M0.out b); replace M1 := Lib.hid (blk_later M1.out b); replace HF := Lib.hid (blk_later HF.out b); replace A0 := Lib.hid (A0.out.later b); replace B0 := Lib.hid (B0.out.later b); replace A1 := Lib.hid (A1.out.later b); replace B1 := Lib.hid (B1.out.later b); replace R2 := Lib.hid (R2.out.later b); replace T2 := Lib.hid (T2.out.later b); replace R3 := Lib.hid (R3.out.later b); replace T3 := Lib.hid (T3.out.later b); replace R4 := Lib.hid (R4.out.later b); rw [EK.out]; clear b; clear rSn; have rSn := cells_3_3_3_3_3_2 X0.out P0.out P1.out M0.out M1.out HF.out; clear rM3 rm3; have rM4 := True.intro)))
    | (go_at_call 13; (first
      | (have rm4 := rM4; refine (S.right s0 a0 n0 c0 la0 b0 m0 d0 lb0 p0 _ A0.out B0.out (by omega) (by omega) EQ0.out).mono ?_; rintro e wr5 ⟨rfl, b⟩; replace HB := Lib.hid (below_then HB.out b); replace X0 := Lib.hid (blk_later X0.out b); replace P0 := Lib.hid (blk_later P0.out b); replace P1 := Lib.hid (blk_later P1.out b); replace M0 := Lib.hid (blk_later M0.out b); replace M1 := Lib.hid (blk_later M1.out b); replace HF := Lib.hid (blk_later HF.out b); replace A0 := Lib.hid (A0.out.later b); replace B0 := Lib.hid (B0.out.later b); replace A1 := Lib.hid (A1.out.later b); replace B1 := Lib.hid (B1.out.later b); replace R2 := Lib.hid (R2.out.later b); replace T2 := Lib.hid (T2.out.later b); replace R3 := Lib.hid (R3.out.later b); replace T3 := Lib.hid (T3.out.later b); replace R4 := Lib.hid (R4.out.later b); rw [EB.out]; clear b; clear rSn; have rSn := cells_3_3_3_3_3_2 X0.out P0.out P1.out M0.out M1.out HF.out; clear rM4 rm4; have rM5 := True.intro)))
    | (go_at_call 14; (first
      | (have rm5 := rM5; refine (ref09_same s0 a0 n0 c0 la0 b0 m0 d0 lb0 (zneg p0.num) a2 n2 c2 _ b2 m2 d2 _ _ A0.out B0.out R2.out T2.out).mono ?_; rintro e wr6 ⟨rfl, b⟩; replace HB := Lib.hid (below_then HB.out b); replace X0 := Lib.hid (blk_later X0.out b); replace P0 := Lib.hid (blk_later P0.out b); replace P1 := Lib.hid (blk_later P1.out b); replace M0 := Lib.hid (blk_later M0.out b); replace M1 := Lib.hid (blk_later M1.out b); replace HF := Lib.hid (blk_later HF.out b); replace A0 := Lib.hid (A0.out.later b); replace B0 := Lib.hid (B0.out.later b); replace A1 := Lib.hid (A1.out.later b); replace B1 := Lib.hid (B1.out.later b); replace R2 := Lib.hid (R2.out.later b); replace T2 := Lib.hid (T2.out.later b); replace R3 := Lib.hid (R3.out.later b); replace T3 := Lib.hid (T3.out.later b); replace R4 := Lib.hid (R4.out.later b); rw [EB.out]; clear b; clear rSn; have rSn := cells_3_3_3_3_3_2 X0.out P0.out P1.out M0.out M1.out HF.out; clear rM5 rm5; have rM6 := True.intro))))
  obtain ⟨vk0, vk1, vk2, vk3, vk4, vk5, vk6, vk7, vk8, vk9, vk10, vk11⟩ := cells_3_3_3_3 P0.out P1.out M0.out M1.out
  go_wp2
  clear vk0 vk1 vk2 vk3 vk4 vk5 vk6 vk7 vk8 vk9 vk10 vk11
  replace HB := Lib.hid (below_then HB.out ((Below.refl _ _).drew : Below wr6.heap.size wr6 wr6.drew))
  replace P0 : Hid (wr6.drew.heap[w3.heap.size]? = _) := Lib.hid P0.out
  replace P1 : Hid (wr6.drew.heap[w4.heap.size]? = _) := Lib.hid P1.out
  replace M0 : Hid (wr6.drew.heap[w5.heap.size]? = _) := Lib.hid M0.out
  replace M1 : Hid (wr6.drew.heap[w6.heap.size]? = _) := Lib.hid M1.out
  replace A0 := Lib.hid (A0.out.later ((Below.refl _ _).drew : Below wr6.heap.size wr6 wr6.drew))
  replace B0 := Lib.hid (B0.out.later ((Below.refl _ _).drew : Below wr6.heap.size wr6 wr6.drew))
  replace A1 := Lib.hid (A1.out.later ((Below.refl _ _).drew : Below wr6.heap.size wr6 wr6.drew))
  replace B1 := Lib.hid (B1.out.later ((Below.refl _ _).drew : Below wr6.heap.size wr6 wr6.drew))
  replace R2 := Lib.hid (R2.out.later ((Below.refl _ _).drew : Below wr6.heap.size wr6 wr6.drew))
  replace T2 := Lib.hid (T2.out.later ((Below.refl _ _).drew : Below wr6.heap.size wr6 wr6.drew))
  replace R3 := Lib.hid (R3.out.later ((Below.refl _ _).drew : Below wr6.heap.size wr6 wr6.drew))
  replace T3 := Lib.hid (T3.out.later ((Below.refl _ _).drew : Below wr6.heap.size wr6 wr6.drew))
  have sSn := cells_3_3_3_3 P0.out P1.out M0.out M1.out
  go_region_held3 (fun w' => w'.cell? ⟨w3.heap.size, 0, none⟩ = some (.bool s0) ∧ w'.cell? ⟨w3.heap.size, 1, none⟩ = some (.slice a0 n0 c0) ∧ w'.cell? ⟨w3.heap.size, 2, none⟩ = some (.slice b0 m0 d0) ∧ w'.cell? ⟨w4.heap.size, 0, none⟩ = some (.bool s1) ∧ w'.cell? ⟨w4.heap.size, 1, none⟩ = some (.slice a1 n1 c1) ∧ w'.cell? ⟨w4.heap.size, 2, none⟩ = some (.slice b1 m1 d1) ∧ w'.cell? ⟨w5.heap.size, 0, none⟩ = some (.bool (zneg p0.num)) ∧ w'.cell? ⟨w5.heap.size, 1, none⟩ = some (.slice a2 n2 c2) ∧ w'.cell? ⟨w5.heap.size, 2, none⟩ = some (.slice b2 m2 d2) ∧ w'.cell? ⟨w6.heap.size, 0, none⟩ = some (.bool (zneg p1.num)) ∧ w'.cell? ⟨w6.heap.size, 1, none⟩ = some (.slice a3 n3 c3) ∧ w'.cell? ⟨w6.heap.size, 2, none⟩ = some (.slice b3 m3 d3)) (exact sSn)
    (first
    | (go_at_call 16; (first
      | (refine (S.norm _ p0 _ (Fr.of A0.out B0.out (by omega) (by omega) EQ0.out)).mono ?_; rintro e ws1 ⟨a7, n7, c7, b7, m7, d7, rfl, h7, g7, b⟩; replace HB := Lib.hid (below_then HB.out b); replace P0 := Lib.hid (blk_later P0.out b); replace P1 := Lib.hid (blk_later P1.out b); replace M0 := Lib.hid (blk_later M0.out b); replace M1 := Lib.hid (blk_later M1.out b); replace A0 := Lib.hid (A0.out.later b); replace B0 := Lib.hid (B0.out.later b); replace A1 := Lib.hid (A1.out.later b); replace B1 := Lib.hid (B1.out.later b); replace R2 := Lib.hid (R2.out.later b); replace T2 := Lib.hid (T2.out.later b); replace R3 := Lib.hid (R3.out.later b); replace T3 := Lib.hid (T3.out.later b); have R7 := Lib.hid h7; have T7 := Lib.hid g7; have hN7 : n7 ≤ qlen p0 := (by rw [← h7.len]; exact qlen_num _); have hM7 : m7 ≤ qlen p0 := (by rw [← g7.len]; exact qlen_den _); clear h7 g7; clear b; clear sSn; have sSn := cells_3_3_3_3 P0.out P1.out M0.out M1.out; have sM1 := True.intro)))
    | (go_at_call 15; (first
      | (have sm1 := sM1; refine (law09_is_yes (zneg p0.num) a7 n7 c7 b7 m7 d7 (dg p0.num.natAbs) (dg p0.den) a2 n2 c2 b2 m2 d2 _ R7.out T7.out R2.out T2.out).mono ?_; rintro e ws2 ⟨rfl, b⟩; replace HB := Lib.hid (below_then HB.out b); replace P0 := Lib.hid (blk_later P0.out b); replace P1 := Lib.hid (blk_later P1.out b); replace M0 := Lib.hid (blk_later M0.out b); replace M1 := Lib.hid (blk_later M1.out b); replace A0 := Lib.hid (A0.out.later b); replace B0 := Lib.hid (B0.out.later b); replace A1 := Lib.hid (A1.out.later b); replace B1 := Lib.hid (B1.out.later b); replace R2 := Lib.hid (R2.out.later b); replace T2 := Lib.hid (T2.out.later b); replace R3 := Lib.hid (R3.out.later b); replace T3 := Lib.hid (T3.out.later b); clear R7; clear T7; clear b; clear sSn; have sSn := cells_3_3_3_3 P0.out P1.out M0.out M1.out; clear sM1 sm1; have sM2 := True.intro)))
    | (go_at_call 17; (first
      | (have sm2 := sM2; refine (S.sign _ p0 _ (Fr.of A0.out B0.out (by omega) (by omega) EQ0.out)).mono ?_; rintro e ws3 ⟨rfl, b⟩; replace HB := Lib.hid (below_then HB.out b); replace P0 := Lib.hid (blk_later P0.out b); replace P1 := Lib.hid (blk_later P1.out b); replace M0 := Lib.hid (blk_later M0.out b); replace M1 := Lib.hid (blk_later M1.out b); replace A0 := Lib.hid (A0.out.later b); replace B0 := Lib.hid (B0.out.later b); replace A1 := Lib.hid (A1.out.later b); replace B1 := Lib.hid (B1.out.later b); replace R2 := Lib.hid (R2.out.later b); replace T2 := Lib.hid (T2.out.later b); replace R3 := Lib.hid (R3.out.later b); replace T3 := Lib.hid (T3.out.later b); rw [EG.out]; clear b; clear sSn; have sSn := cells_3_3_3_3 P0.out P1.out M0.out M1.out; clear sM2 sm2; have sM3 := True.intro)))
    | (go_at_call 18; (first
      | (have sm3 := sM3; refine (ref09_sign_q _ p0 _ (Rt.of R2.out T2.out (by omega) (by omega))).mono ?_; rintro e ws4 ⟨rfl, b⟩; replace HB := Lib.hid (below_then HB.out b); replace P0 := Lib.hid (blk_later P0.out b); replace P1 := Lib.hid (blk_later P1.out b); replace M0 := Lib.hid (blk_later M0.out b); replace M1 := Lib.hid (blk_later M1.out b); replace A0 := Lib.hid (A0.out.later b); replace B0 := Lib.hid (B0.out.later b); replace A1 := Lib.hid (A1.out.later b); replace B1 := Lib.hid (B1.out.later b); replace R2 := Lib.hid (R2.out.later b); replace T2 := Lib.hid (T2.out.later b); replace R3 := Lib.hid (R3.out.later b); replace T3 := Lib.hid (T3.out.later b); rw [EG.out]; clear b; clear sSn; have sSn := cells_3_3_3_3 P0.out P1.out M0.out M1.out; clear sM3 sm3; have sM4 := True.intro)))
    | (go_at_call 19; (first
      | (have sm4 := sM4; refine (S.cmp _ _ p0 p1 _ (Fr.of A0.out B0.out (by omega) (by omega) EQ0.out) (Fr.of A1.out B1.out (by omega) (by omega) EQ1.out)).mono ?_; rintro e ws5 ⟨rfl, b⟩; replace HB := Lib.hid (below_then HB.out b); replace P0 := Lib.hid (blk_later P0.out b); replace P1 := Lib.hid (blk_later P1.out b); replace M0 := Lib.hid (blk_later M0.out b); replace M1 := Lib.hid (blk_later M1.out b); replace A0 := Lib.hid (A0.out.later b); replace B0 := Lib.hid (B0.out.later b); replace A1 := Lib.hid (A1.out.later b); replace B1 := Lib.hid (B1.out.later b); replace R2 := Lib.hid (R2.out.later b); replace T2 := Lib.hid (T2.out.later b); replace R3 := Lib.hid (R3.out.later b); replace T3 := Lib.hid (T3.out.later b); rw [EC.out]; clear b; clear sSn; have sSn := cells_3_3_3_3 P0.out P1.out M0.out M1.out; clear sM4 sm4; have sM5 := True.intro)))
    | (go_at_call 20; (first
      | (have sm5 := sM5; refine (ref09_cmp_q _ _ p0 p1 _ (Rt.of R2.out T2.out (by omega) (by omega)) (Rt.of R3.out T3.out (by omega) (by omega))).mono ?_; rintro e ws6 ⟨rfl, b⟩; replace HB := Lib.hid (below_then HB.out b); replace P0 := Lib.hid (blk_later P0.out b); replace P1 := Lib.hid (blk_later P1.out b); replace M0 := Lib.hid (blk_later M0.out b); replace M1 := Lib.hid (blk_later M1.out b); replace A0 := Lib.hid (A0.out.later b); replace B0 := Lib.hid (B0.out.later b); replace A1 := Lib.hid (A1.out.later b); replace B1 := Lib.hid (B1.out.later b); replace R2 := Lib.hid (R2.out.later b); replace T2 := Lib.hid (T2.out.later b); replace R3 := Lib.hid (R3.out.later b); replace T3 := Lib.hid (T3.out.later b); rw [EC.out]; clear b; clear sSn; have sSn := cells_3_3_3_3 P0.out P1.out M0.out M1.out; clear sM5 sm5; have sM6 := True.intro)))
    | (go_at_call 21; (first
      | (have sm6 := sM6; refine (S.same _ _ p0 p1 _ (Fr.of A0.out B0.out (by omega) (by omega) EQ0.out) (Fr.of A1.out B1.out (by omega) (by omega) EQ1.out)).mono ?_; rintro e ws7 ⟨rfl, b⟩; replace HB := Lib.hid (below_then HB.out b); replace P0 := Lib.hid (blk_later P0.out b); replace P1 := Lib.hid (blk_later P1.out b); replace M0 := Lib.hid (blk_later M0.out b); replace M1 := Lib.hid (blk_later M1.out b); replace A0 := Lib.hid (A0.out.later b); replace B0 := Lib.hid (B0.out.later b); replace A1 := Lib.hid (A1.out.later b); replace B1 := Lib.hid (B1.out.later b); replace R2 := Lib.hid (R2.out.later b); replace T2 := Lib.hid (T2.out.later b); replace R3 := Lib.hid (R3.out.later b); replace T3 := Lib.hid (T3.out.later b); rw [ED.out]; clear b; clear sSn; have sSn := cells_3_3_3_3 P0.out P1.out M0.out M1.out; clear sM6 sm6; have sM7 := True.intro)))
    | (go_at_call 14; (first
      | (have sm7 := sM7; refine (ref09_same_q _ _ p0 p1 _ (Rt.of R2.out T2.out (by omega) (by omega)) (Rt.of R3.out T3.out (by omega) (by omega))).mono ?_; rintro e ws8 ⟨rfl, b⟩; replace HB := Lib.hid (below_then HB.out b); replace P0 := Lib.hid (blk_later P0.out b); replace P1 := Lib.hid (blk_later P1.out b); replace M0 := Lib.hid (blk_later M0.out b); replace M1 := Lib.hid (blk_later M1.out b); replace A0 := Lib.hid (A0.out.later b); replace B0 := Lib.hid (B0.out.later b); replace A1 := Lib.hid (A1.out.later b); replace B1 := Lib.hid (B1.out.later b); replace R2 := Lib.hid (R2.out.later b); replace T2 := Lib.hid (T2.out.later b); replace R3 := Lib.hid (R3.out.later b); replace T3 := Lib.hid (T3.out.later b); rw [ED.out]; clear b; clear sSn; have sSn := cells_3_3_3_3 P0.out P1.out M0.out M1.out; clear sM7 sm7; have sM8 := True.intro)))
    | (go_at_call 5; (first
      | (have sm8 := sM8; refine (law09_works S _).mono ?_; rintro e ws9 ⟨rfl, b⟩; replace HB := Lib.hid (below_then HB.out b); replace P0 := Lib.hid (blk_later P0.out b); replace P1 := Lib.hid (blk_later P1.out b); replace M0 := Lib.hid (blk_later M0.out b); replace M1 := Lib.hid (blk_later M1.out b); replace A0 := Lib.hid (A0.out.later b); replace B0 := Lib.hid (B0.out.later b); replace A1 := Lib.hid (A1.out.later b); replace B1 := Lib.hid (B1.out.later b); replace R2 := Lib.hid (R2.out.later b); replace T2 := Lib.hid (T2.out.later b); replace R3 := Lib.hid (R3.out.later b); replace T3 := Lib.hid (T3.out.later b); clear b; clear sSn; have sSn := cells_3_3_3_3 P0.out P1.out M0.out M1.out; clear sM8 sm8; have sM9 := True.intro))))
  go_wp2
  go_ret
  exact ⟨rfl, HB.out⟩
set_option maxRecDepth 4096 in
set_option maxHeartbeats 16000000 in
theorem law09_tells_out (S : FracSaid) (s0 : Bool) (a0 : Option Addr) (n0 c0 : Nat) (b0 : Option Addr) (m0 d0 : Nat) (s1 : Bool) (a1 : Option Addr) (n1 c1 : Nat) (b1 : Option Addr) (m1 d1 : Nat) (w : World) (h : 30 < n0 ∨ 30 < m0 ∨ 30 < n1 ∨ 30 < m1) :
    Calls Tryz.prog 3 #[frV s0 a0 n0 c0 b0 m0 d0, frV s1 a1 n1 c1 b1 m1 d1] w (Gives (.bool true) w) := by
  have HB := Lib.hid (below_then (below_alloc w (.cells #[.bool s0, .slice a0 n0 c0, .slice b0 m0 d0] 24)) (below_alloc (w.alloc (.cells #[.bool s0, .slice a0 n0 c0, .slice b0 m0 d0] 24)) (.cells #[.bool s1, .slice a1 n1 c1, .slice b1 m1 d1] 24)))
  obtain ⟨hx0, hx1⟩ := boxes_at w ((w.alloc (.cells #[.bool s0, .slice a0 n0 c0, .slice b0 m0 d0] 24)).alloc (.cells #[.bool s1, .slice a1 n1 c1, .slice b1 m1 d1] 24)) #[.bool s0, .slice a0 n0 c0, .slice b0 m0 d0] #[.bool s1, .slice a1 n1 c1, .slice b1 m1 d1] 24 24 (Below.refl _ _)
  have X0 := Lib.hid hx0
  have X1 := Lib.hid hx1
  clear hx0 hx1
  by_cases h0 : 30 < n0 ∨ 30 < m0
  · have hl0 : (decide ((30 : Int) < (n0 : Int)) || decide ((30 : Int) < (m0 : Int))) = true := by
      rcases (show 30 < n0 ∨ 30 < m0 by omega) with h9 | h9
      · rw [decide_eq_true (by omega)]; rfl
      · rw [Bool.or_eq_true]; exact .inr (decide_eq_true (by omega))
    clear h h0
    go_enter Tryz.func3, Tryz.ntmps3
    unfold frV
    obtain ⟨k0, k1, k2, k3, k4, k5⟩ := cells_3_3 X0.out X1.out
    go_wp2_with fail
    refine (ref09_long s0 a0 n0 c0 b0 m0 d0 30 _).mono ?_
    rintro e w1 ⟨rfl, b⟩
    clear k0 k1 k2 k3 k4 k5
    replace HB := Lib.hid (below_then HB.out b)
    replace X0 := Lib.hid (blk_later X0.out b)
    replace X1 := Lib.hid (blk_later X1.out b)
    clear b
    rw [hl0]
    obtain ⟨k0, k1, k2, k3, k4, k5⟩ := cells_3_3 X0.out X1.out
    go_wp2_with fail
    refine (law09_works S _).mono ?_
    rintro e w2 ⟨rfl, b⟩
    clear k0 k1 k2 k3 k4 k5
    replace HB := Lib.hid (below_then HB.out b)
    replace X0 := Lib.hid (blk_later X0.out b)
    replace X1 := Lib.hid (blk_later X1.out b)
    clear b
    go_wp2
    go_ret
    exact ⟨rfl, HB.out⟩
  · have hl0 : (decide ((30 : Int) < (n0 : Int)) || decide ((30 : Int) < (m0 : Int))) = false := by rw [decide_eq_false (by omega), decide_eq_false (by omega)]; rfl
    have hl1 : (decide ((30 : Int) < (n1 : Int)) || decide ((30 : Int) < (m1 : Int))) = true := by
      rcases (show 30 < n1 ∨ 30 < m1 by omega) with h9 | h9
      · rw [decide_eq_true (by omega)]; rfl
      · rw [Bool.or_eq_true]; exact .inr (decide_eq_true (by omega))
    clear h h0
    go_enter Tryz.func3, Tryz.ntmps3
    unfold frV
    obtain ⟨k0, k1, k2, k3, k4, k5⟩ := cells_3_3 X0.out X1.out
    go_wp2_with fail
    refine (ref09_long s0 a0 n0 c0 b0 m0 d0 30 _).mono ?_
    rintro e w1 ⟨rfl, b⟩
    clear k0 k1 k2 k3 k4 k5
    replace HB := Lib.hid (below_then HB.out b)
    replace X0 := Lib.hid (blk_later X0.out b)
    replace X1 := Lib.hid (blk_later X1.out b)
    clear b
    rw [hl0]
    obtain ⟨k0, k1, k2, k3, k4, k5⟩ := cells_3_3 X0.out X1.out
    go_wp2_with fail
    refine (ref09_long s1 a1 n1 c1 b1 m1 d1 30 _).mono ?_
    rintro e w2 ⟨rfl, b⟩
    clear k0 k1 k2 k3 k4 k5
    replace HB := Lib.hid (below_then HB.out b)
    replace X0 := Lib.hid (blk_later X0.out b)
    replace X1 := Lib.hid (blk_later X1.out b)
    clear b
    rw [hl1]
    obtain ⟨k0, k1, k2, k3, k4, k5⟩ := cells_3_3 X0.out X1.out
    go_wp2_with fail
    refine (law09_works S _).mono ?_
    rintro e w3 ⟨rfl, b⟩
    clear k0 k1 k2 k3 k4 k5
    replace HB := Lib.hid (below_then HB.out b)
    replace X0 := Lib.hid (blk_later X0.out b)
    replace X1 := Lib.hid (blk_later X1.out b)
    clear b
    go_wp2
    go_ret
    exact ⟨rfl, HB.out⟩
theorem law09_tells (S : FracSaid) (s0 : Bool) (a0 : Option Addr) (n0 c0 : Nat) (la0 : List Nat) (b0 : Option Addr) (m0 d0 : Nat) (lb0 : List Nat) (s1 : Bool) (a1 : Option Addr) (n1 c1 : Nat) (la1 : List Nat) (b1 : Option Addr) (m1 d1 : Nat) (lb1 : List Nat) (w : World) (ha0 : Wd w a0 n0 c0 la0) (hb0 : Wd w b0 m0 d0 lb0) (ha1 : Wd w a1 n1 c1 la1) (hb1 : Wd w b1 m1 d1 lb1) :
    Calls Tryz.prog 3 #[frV s0 a0 n0 c0 b0 m0 d0, frV s1 a1 n1 c1 b1 m1 d1] w (Gives (.bool true) w) := by
  by_cases h : 30 < n0 ∨ 30 < m0 ∨ 30 < n1 ∨ 30 < m1
  · exact law09_tells_out S s0 a0 n0 c0 b0 m0 d0 s1 a1 n1 c1 b1 m1 d1 w h
  · exact law09_tells_in S s0 a0 n0 c0 la0 b0 m0 d0 lb0 s1 a1 n1 c1 la1 b1 m1 d1 lb1 w ha0 hb0 ha1 hb1 (by omega) (by omega) (by omega) (by omega)
end Go.Proofs.YtpjgmkkdbmegjaaGreat
