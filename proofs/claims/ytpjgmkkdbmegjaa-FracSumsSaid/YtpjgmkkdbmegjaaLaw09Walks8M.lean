/-
  The walks of the laws of layer 9: FracSums.
-/
import Derived.Test.YtpjgmkkdbmegjaaG17
import Derived.Deep.RegionHeld3
namespace Go.Proofs.Ytpjgmkkdbmegjaa
open Go.RowKit

set_option maxRecDepth 4096 in
set_option maxHeartbeats 16000000 in
theorem law09_sums_yes (S : FracSaid) (s0 : Bool) (a0 : Option Addr) (n0 c0 : Nat) (la0 : List Nat) (b0 : Option Addr) (m0 d0 : Nat) (lb0 : List Nat) (s1 : Bool) (a1 : Option Addr) (n1 c1 : Nat) (la1 : List Nat) (b1 : Option Addr) (m1 d1 : Nat) (lb1 : List Nat) (w : World) (ha0 : Wd w a0 n0 c0 la0) (hb0 : Wd w b0 m0 d0 lb0) (ha1 : Wd w a1 n1 c1 la1) (hb1 : Wd w b1 m1 d1 lb1) (hn0 : n0 ≤ 20) (hm0 : m0 ≤ 20) (hn1 : n1 ≤ 20) (hm1 : m1 ≤ 20) (h0 : qval s1 (val la1) (val lb1) ≠ 0) :
    Calls Try.prog 4 #[frV s0 a0 n0 c0 b0 m0 d0, frV s1 a1 n1 c1 b1 m1 d1] w (Gives (.bool true) w) := by
  have HB := Lib.hid (below_then (below_alloc w (.cells #[.bool s0, .slice a0 n0 c0, .slice b0 m0 d0] 24)) (below_alloc (w.alloc (.cells #[.bool s0, .slice a0 n0 c0, .slice b0 m0 d0] 24)) (.cells #[.bool s1, .slice a1 n1 c1, .slice b1 m1 d1] 24)))
  have A0 := Lib.hid (ha0.later HB.out)
  have B0 := Lib.hid (hb0.later HB.out)
  have A1 := Lib.hid (ha1.later HB.out)
  have B1 := Lib.hid (hb1.later HB.out)
  obtain ⟨hx0, hx1⟩ := boxes_at w ((w.alloc (.cells #[.bool s0, .slice a0 n0 c0, .slice b0 m0 d0] 24)).alloc (.cells #[.bool s1, .slice a1 n1 c1, .slice b1 m1 d1] 24)) #[.bool s0, .slice a0 n0 c0, .slice b0 m0 d0] #[.bool s1, .slice a1 n1 c1, .slice b1 m1 d1] 24 24 (Below.refl _ _)
  have X0 := Lib.hid hx0
  have X1 := Lib.hid hx1
  clear hx0 hx1
  obtain ⟨p0, hp0⟩ : ∃ p, qval s0 (val la0) (val lb0) = p := ⟨_, rfl⟩
  have lp0 : qlen p0 ≤ 21 := (Fr.of ha0 hb0 hn0 hm0 hp0).len
  have EQ0 := Lib.hid hp0
  obtain ⟨p1, hp1⟩ : ∃ p, qval s1 (val la1) (val lb1) = p := ⟨_, rfl⟩
  have lp1 : qlen p1 ≤ 21 := (Fr.of ha1 hb1 hn1 hm1 hp1).len
  have EQ1 := Lib.hid hp1
  rw [hp1] at h0
  have H0 := Lib.hid h0
  clear h0 ha0 hb0 hp0 ha1 hb1 hp1
  have hl0 : (decide ((20 : Int) < (n0 : Int)) || decide ((20 : Int) < (m0 : Int))) = false := by rw [decide_eq_false (by omega), decide_eq_false (by omega)]; rfl
  have hl1 : (decide ((20 : Int) < (n1 : Int)) || decide ((20 : Int) < (m1 : Int))) = false := by rw [decide_eq_false (by omega), decide_eq_false (by omega)]; rfl
  obtain ⟨u, hu⟩ : ∃ r, p0 + p1 = r := ⟨_, rfl⟩
  have lu : qlen u ≤ 60 := by rw [← hu]; have := qlen_add p0 p1; omega
  have Eu := Lib.hid hu
  clear hu
  obtain ⟨d, hd⟩ : ∃ r, p0 - p1 = r := ⟨_, rfl⟩
  have ld : qlen d ≤ 60 := by rw [← hd]; have := qlen_sub p0 p1; omega
  have Ed := Lib.hid hd
  clear hd
  obtain ⟨t, ht⟩ : ∃ r, p0 * p1 = r := ⟨_, rfl⟩
  have lt : qlen t ≤ 60 := by rw [← ht]; have := qlen_mul p0 p1; omega
  have Et := Lib.hid ht
  clear ht
  obtain ⟨ng, hng⟩ : ∃ r, -p0 = r := ⟨_, rfl⟩
  have lng : qlen ng ≤ 60 := by rw [← hng]; have := qlen_opp p0; omega
  have Eng := Lib.hid hng
  clear hng
  obtain ⟨ab, hab⟩ : ∃ r, qabs p0 = r := ⟨_, rfl⟩
  have lab : qlen ab ≤ 60 := by rw [← hab]; have := qlen_abs p0; omega
  have Eab := Lib.hid hab
  clear hab
  obtain ⟨z, hz⟩ : ∃ r, ((0 : Int) : Rat) = r := ⟨_, rfl⟩
  have lz : qlen z ≤ 2 := by rw [← hz]; exact qlen_int isInt_nought
  have Ez := Lib.hid hz
  clear hz
  obtain ⟨k, hk⟩ : ∃ r, p0 / p1 = r := ⟨_, rfl⟩
  have lk : qlen k ≤ 60 := by rw [← hk]; have := qlen_div p0 p1; omega
  have Ek := Lib.hid hk
  clear hk
  go_enter Try.func4, Try.ntmps4
  unfold frV
  obtain ⟨k0, k1, k2, k3, k4, k5⟩ := cells_3_3 X0.out X1.out
  go_wp2_with fail
  refine (ref09_long s0 a0 n0 c0 b0 m0 d0 20 _).mono ?_
  rintro e w1 ⟨rfl, b⟩
  clear k0 k1 k2 k3 k4 k5
  replace HB := Lib.hid (below_then HB.out b)
  replace X0 := Lib.hid (blk_later X0.out b)
  replace X1 := Lib.hid (blk_later X1.out b)
  replace A0 := Lib.hid (A0.out.later b)
  replace B0 := Lib.hid (B0.out.later b)
  replace A1 := Lib.hid (A1.out.later b)
  replace B1 := Lib.hid (B1.out.later b)
  clear b
  rw [hl0]
  obtain ⟨k0, k1, k2, k3, k4, k5⟩ := cells_3_3 X0.out X1.out
  go_wp2_with fail
  refine (ref09_long s1 a1 n1 c1 b1 m1 d1 20 _).mono ?_
  rintro e w2 ⟨rfl, b⟩
  clear k0 k1 k2 k3 k4 k5
  replace HB := Lib.hid (below_then HB.out b)
  replace X0 := Lib.hid (blk_later X0.out b)
  replace X1 := Lib.hid (blk_later X1.out b)
  replace A0 := Lib.hid (A0.out.later b)
  replace B0 := Lib.hid (B0.out.later b)
  replace A1 := Lib.hid (A1.out.later b)
  replace B1 := Lib.hid (B1.out.later b)
  clear b
  rw [hl1]
  obtain ⟨k0, k1, k2, k3, k4, k5⟩ := cells_3_3 X0.out X1.out
  go_wp2_with fail
  refine (law09_to s0 a0 n0 c0 b0 m0 d0 _).mono ?_
  rintro e w3 ⟨rfl, b⟩
  clear k0 k1 k2 k3 k4 k5
  replace HB := Lib.hid (below_then HB.out b)
  replace X0 := Lib.hid (blk_later X0.out b)
  replace X1 := Lib.hid (blk_later X1.out b)
  replace A0 := Lib.hid (A0.out.later b)
  replace B0 := Lib.hid (B0.out.later b)
  replace A1 := Lib.hid (A1.out.later b)
  replace B1 := Lib.hid (B1.out.later b)
  clear b
  unfold frV
  have P0 : Hid ((World.alloc w3 (.cells #[.bool s0, .slice a0 n0 c0, .slice b0 m0 d0] 34)).heap[w3.heap.size]? = some (.cells #[.bool s0, .slice a0 n0 c0, .slice b0 m0 d0] 34 (0, 0))) := Lib.hid (blk_new w3 _ _)
  replace HB := Lib.hid (below_then HB.out (below_alloc w3 (.cells #[.bool s0, .slice a0 n0 c0, .slice b0 m0 d0] 34)))
  replace X0 := Lib.hid (blk_later X0.out (below_alloc w3 (.cells #[.bool s0, .slice a0 n0 c0, .slice b0 m0 d0] 34)))
  replace X1 := Lib.hid (blk_later X1.out (below_alloc w3 (.cells #[.bool s0, .slice a0 n0 c0, .slice b0 m0 d0] 34)))
  replace A0 := Lib.hid (A0.out.later (below_alloc w3 (.cells #[.bool s0, .slice a0 n0 c0, .slice b0 m0 d0] 34)))
  replace B0 := Lib.hid (B0.out.later (below_alloc w3 (.cells #[.bool s0, .slice a0 n0 c0, .slice b0 m0 d0] 34)))
  replace A1 := Lib.hid (A1.out.later (below_alloc w3 (.cells #[.bool s0, .slice a0 n0 c0, .slice b0 m0 d0] 34)))
  replace B1 := Lib.hid (B1.out.later (below_alloc w3 (.cells #[.bool s0, .slice a0 n0 c0, .slice b0 m0 d0] 34)))
  obtain ⟨k0, k1, k2, k3, k4, k5, k6, k7, k8⟩ := cells_3_3_3 X0.out X1.out P0.out
  go_wp2_with fail
  refine (law09_to s1 a1 n1 c1 b1 m1 d1 _).mono ?_
  rintro e w4 ⟨rfl, b⟩
  clear k0 k1 k2 k3 k4 k5 k6 k7 k8
  replace HB := Lib.hid (below_then HB.out b)
  replace X0 := Lib.hid (blk_later X0.out b)
  replace X1 := Lib.hid (blk_later X1.out b)
  replace P0 := Lib.hid (blk_later P0.out b)
  replace A0 := Lib.hid (A0.out.later b)
  replace B0 := Lib.hid (B0.out.later b)
  replace A1 := Lib.hid (A1.out.later b)
  replace B1 := Lib.hid (B1.out.later b)
  clear b
  unfold frV
  have P1 : Hid ((World.alloc w4 (.cells #[.bool s1, .slice a1 n1 c1, .slice b1 m1 d1] 34)).heap[w4.heap.size]? = some (.cells #[.bool s1, .slice a1 n1 c1, .slice b1 m1 d1] 34 (0, 0))) := Lib.hid (blk_new w4 _ _)
  replace HB := Lib.hid (below_then HB.out (below_alloc w4 (.cells #[.bool s1, .slice a1 n1 c1, .slice b1 m1 d1] 34)))
  replace X0 := Lib.hid (blk_later X0.out (below_alloc w4 (.cells #[.bool s1, .slice a1 n1 c1, .slice b1 m1 d1] 34)))
  replace X1 := Lib.hid (blk_later X1.out (below_alloc w4 (.cells #[.bool s1, .slice a1 n1 c1, .slice b1 m1 d1] 34)))
  replace P0 := Lib.hid (blk_later P0.out (below_alloc w4 (.cells #[.bool s1, .slice a1 n1 c1, .slice b1 m1 d1] 34)))
  replace A0 := Lib.hid (A0.out.later (below_alloc w4 (.cells #[.bool s1, .slice a1 n1 c1, .slice b1 m1 d1] 34)))
  replace B0 := Lib.hid (B0.out.later (below_alloc w4 (.cells #[.bool s1, .slice a1 n1 c1, .slice b1 m1 d1] 34)))
  replace A1 := Lib.hid (A1.out.later (below_alloc w4 (.cells #[.bool s1, .slice a1 n1 c1, .slice b1 m1 d1] 34)))
  replace B1 := Lib.hid (B1.out.later (below_alloc w4 (.cells #[.bool s1, .slice a1 n1 c1, .slice b1 m1 d1] 34)))
  obtain ⟨k0, k1, k2, k3, k4, k5, k6, k7, k8, k9, k10, k11⟩ := cells_3_3_3_3 X0.out X1.out P0.out P1.out
  go_wp2_with fail
  refine (ref09_norm_q _ p0 _ (Fr.of A0.out B0.out (by omega) (by omega) EQ0.out)).mono ?_
  rintro e w5 ⟨a2, n2, c2, b2, m2, d2, rfl, h2, g2, b⟩
  clear k0 k1 k2 k3 k4 k5 k6 k7 k8 k9 k10 k11
  replace HB := Lib.hid (below_then HB.out b)
  replace X0 := Lib.hid (blk_later X0.out b)
  replace X1 := Lib.hid (blk_later X1.out b)
  replace P0 := Lib.hid (blk_later P0.out b)
  replace P1 := Lib.hid (blk_later P1.out b)
  replace A0 := Lib.hid (A0.out.later b)
  replace B0 := Lib.hid (B0.out.later b)
  replace A1 := Lib.hid (A1.out.later b)
  replace B1 := Lib.hid (B1.out.later b)
  clear b
  have hN2 : n2 ≤ qlen p0 := (by rw [← h2.len]; exact qlen_num _)
  have hM2 : m2 ≤ qlen p0 := (by rw [← g2.len]; exact qlen_den _)
  have R2 := Lib.hid h2
  have T2 := Lib.hid g2
  clear h2 g2
  unfold frV
  have M0 : Hid ((World.alloc w5 (.cells #[.bool (zneg p0.num), .slice a2 n2 c2, .slice b2 m2 d2] 24)).heap[w5.heap.size]? = some (.cells #[.bool (zneg p0.num), .slice a2 n2 c2, .slice b2 m2 d2] 24 (0, 0))) := Lib.hid (blk_new w5 _ _)
  replace HB := Lib.hid (below_then HB.out (below_alloc w5 (.cells #[.bool (zneg p0.num), .slice a2 n2 c2, .slice b2 m2 d2] 24)))
  replace X0 := Lib.hid (blk_later X0.out (below_alloc w5 (.cells #[.bool (zneg p0.num), .slice a2 n2 c2, .slice b2 m2 d2] 24)))
  replace X1 := Lib.hid (blk_later X1.out (below_alloc w5 (.cells #[.bool (zneg p0.num), .slice a2 n2 c2, .slice b2 m2 d2] 24)))
  replace P0 := Lib.hid (blk_later P0.out (below_alloc w5 (.cells #[.bool (zneg p0.num), .slice a2 n2 c2, .slice b2 m2 d2] 24)))
  replace P1 := Lib.hid (blk_later P1.out (below_alloc w5 (.cells #[.bool (zneg p0.num), .slice a2 n2 c2, .slice b2 m2 d2] 24)))
  replace A0 := Lib.hid (A0.out.later (below_alloc w5 (.cells #[.bool (zneg p0.num), .slice a2 n2 c2, .slice b2 m2 d2] 24)))
  replace B0 := Lib.hid (B0.out.later (below_alloc w5 (.cells #[.bool (zneg p0.num), .slice a2 n2 c2, .slice b2 m2 d2] 24)))
  replace A1 := Lib.hid (A1.out.later (below_alloc w5 (.cells #[.bool (zneg p0.num), .slice a2 n2 c2, .slice b2 m2 d2] 24)))
  replace B1 := Lib.hid (B1.out.later (below_alloc w5 (.cells #[.bool (zneg p0.num), .slice a2 n2 c2, .slice b2 m2 d2] 24)))
  replace R2 := Lib.hid (R2.out.later (below_alloc w5 (.cells #[.bool (zneg p0.num), .slice a2 n2 c2, .slice b2 m2 d2] 24)))
  replace T2 := Lib.hid (T2.out.later (below_alloc w5 (.cells #[.bool (zneg p0.num), .slice a2 n2 c2, .slice b2 m2 d2] 24)))
  obtain ⟨k0, k1, k2, k3, k4, k5, k6, k7, k8, k9, k10, k11, k12, k13, k14⟩ := cells_3_3_3_3_3 X0.out X1.out P0.out P1.out M0.out
  go_wp2_with fail
  refine (ref09_norm_q _ p1 _ (Fr.of A1.out B1.out (by omega) (by omega) EQ1.out)).mono ?_
  rintro e w6 ⟨a3, n3, c3, b3, m3, d3, rfl, h3, g3, b⟩
  clear k0 k1 k2 k3 k4 k5 k6 k7 k8 k9 k10 k11 k12 k13 k14
  replace HB := Lib.hid (below_then HB.out b)
  replace X0 := Lib.hid (blk_later X0.out b)
  replace X1 := Lib.hid (blk_later X1.out b)
  replace P0 := Lib.hid (blk_later P0.out b)
  replace P1 := Lib.hid (blk_later P1.out b)
  replace M0 := Lib.hid (blk_later M0.out b)
  replace A0 := Lib.hid (A0.out.later b)
  replace B0 := Lib.hid (B0.out.later b)
  replace A1 := Lib.hid (A1.out.later b)
  replace B1 := Lib.hid (B1.out.later b)
  replace R2 := Lib.hid (R2.out.later b)
  replace T2 := Lib.hid (T2.out.later b)
  clear b
  have hN3 : n3 ≤ qlen p1 := (by rw [← h3.len]; exact qlen_num _)
  have hM3 : m3 ≤ qlen p1 := (by rw [← g3.len]; exact qlen_den _)
  have R3 := Lib.hid h3
  have T3 := Lib.hid g3
  clear h3 g3
  unfold frV
  have M1 : Hid ((World.alloc w6 (.cells #[.bool (zneg p1.num), .slice a3 n3 c3, .slice b3 m3 d3] 24)).heap[w6.heap.size]? = some (.cells #[.bool (zneg p1.num), .slice a3 n3 c3, .slice b3 m3 d3] 24 (0, 0))) := Lib.hid (blk_new w6 _ _)
  replace HB := Lib.hid (below_then HB.out (below_alloc w6 (.cells #[.bool (zneg p1.num), .slice a3 n3 c3, .slice b3 m3 d3] 24)))
  replace X0 := Lib.hid (blk_later X0.out (below_alloc w6 (.cells #[.bool (zneg p1.num), .slice a3 n3 c3, .slice b3 m3 d3] 24)))
  replace X1 := Lib.hid (blk_later X1.out (below_alloc w6 (.cells #[.bool (zneg p1.num), .slice a3 n3 c3, .slice b3 m3 d3] 24)))
  replace P0 := Lib.hid (blk_later P0.out (below_alloc w6 (.cells #[.bool (zneg p1.num), .slice a3 n3 c3, .slice b3 m3 d3] 24)))
  replace P1 := Lib.hid (blk_later P1.out (below_alloc w6 (.cells #[.bool (zneg p1.num), .slice a3 n3 c3, .slice b3 m3 d3] 24)))
  replace M0 := Lib.hid (blk_later M0.out (below_alloc w6 (.cells #[.bool (zneg p1.num), .slice a3 n3 c3, .slice b3 m3 d3] 24)))
  replace A0 := Lib.hid (A0.out.later (below_alloc w6 (.cells #[.bool (zneg p1.num), .slice a3 n3 c3, .slice b3 m3 d3] 24)))
  replace B0 := Lib.hid (B0.out.later (below_alloc w6 (.cells #[.bool (zneg p1.num), .slice a3 n3 c3, .slice b3 m3 d3] 24)))
  replace A1 := Lib.hid (A1.out.later (below_alloc w6 (.cells #[.bool (zneg p1.num), .slice a3 n3 c3, .slice b3 m3 d3] 24)))
  replace B1 := Lib.hid (B1.out.later (below_alloc w6 (.cells #[.bool (zneg p1.num), .slice a3 n3 c3, .slice b3 m3 d3] 24)))
  replace R2 := Lib.hid (R2.out.later (below_alloc w6 (.cells #[.bool (zneg p1.num), .slice a3 n3 c3, .slice b3 m3 d3] 24)))
  replace T2 := Lib.hid (T2.out.later (below_alloc w6 (.cells #[.bool (zneg p1.num), .slice a3 n3 c3, .slice b3 m3 d3] 24)))
  replace R3 := Lib.hid (R3.out.later (below_alloc w6 (.cells #[.bool (zneg p1.num), .slice a3 n3 c3, .slice b3 m3 d3] 24)))
  replace T3 := Lib.hid (T3.out.later (below_alloc w6 (.cells #[.bool (zneg p1.num), .slice a3 n3 c3, .slice b3 m3 d3] 24)))
  obtain ⟨k0, k1, k2, k3, k4, k5, k6, k7, k8, k9, k10, k11⟩ := cells_3_3_3_3 P0.out P1.out M0.out M1.out
  go_wp2_with fail
  refine (S.quo _ _ p0 p1 _ (Fr.of A0.out B0.out (by omega) (by omega) EQ0.out) (Fr.of A1.out B1.out (by omega) (by omega) EQ1.out)).mono ?_
  rintro e w7 ⟨a4, n4, c4, b4, m4, d4, rfl, h4, g4, b⟩
  clear k0 k1 k2 k3 k4 k5 k6 k7 k8 k9 k10 k11
  replace HB := Lib.hid (below_then HB.out b)
  replace P0 := Lib.hid (blk_later P0.out b)
  replace P1 := Lib.hid (blk_later P1.out b)
  replace M0 := Lib.hid (blk_later M0.out b)
  replace M1 := Lib.hid (blk_later M1.out b)
  replace A0 := Lib.hid (A0.out.later b)
  replace B0 := Lib.hid (B0.out.later b)
  replace A1 := Lib.hid (A1.out.later b)
  replace B1 := Lib.hid (B1.out.later b)
  replace R2 := Lib.hid (R2.out.later b)
  replace T2 := Lib.hid (T2.out.later b)
  replace R3 := Lib.hid (R3.out.later b)
  replace T3 := Lib.hid (T3.out.later b)
  clear b
  rw [Ek.out] at h4 g4 ⊢
  rw [show decide (p1 ≠ 0) = true from decide_eq_true H0.out]
  have hN4 : n4 ≤ qlen k := (by rw [← h4.len]; exact qlen_num _)
  have hM4 : m4 ≤ qlen k := (by rw [← g4.len]; exact qlen_den _)
  have R4 := Lib.hid h4
  have T4 := Lib.hid g4
  clear h4 g4
  unfold frV
  have HQ : Hid ((World.alloc w7 (.cells #[.bool (zneg k.num), .slice a4 n4 c4, .slice b4 m4 d4] 34)).heap[w7.heap.size]? = some (.cells #[.bool (zneg k.num), .slice a4 n4 c4, .slice b4 m4 d4] 34 (0, 0))) := Lib.hid (blk_new w7 _ _)
  replace HB := Lib.hid (below_then HB.out (below_alloc w7 (.cells #[.bool (zneg k.num), .slice a4 n4 c4, .slice b4 m4 d4] 34)))
  replace P0 := Lib.hid (blk_later P0.out (below_alloc w7 (.cells #[.bool (zneg k.num), .slice a4 n4 c4, .slice b4 m4 d4] 34)))
  replace P1 := Lib.hid (blk_later P1.out (below_alloc w7 (.cells #[.bool (zneg k.num), .slice a4 n4 c4, .slice b4 m4 d4] 34)))
  replace M0 := Lib.hid (blk_later M0.out (below_alloc w7 (.cells #[.bool (zneg k.num), .slice a4 n4 c4, .slice b4 m4 d4] 34)))
  replace M1 := Lib.hid (blk_later M1.out (below_alloc w7 (.cells #[.bool (zneg k.num), .slice a4 n4 c4, .slice b4 m4 d4] 34)))
  replace A0 := Lib.hid (A0.out.later (below_alloc w7 (.cells #[.bool (zneg k.num), .slice a4 n4 c4, .slice b4 m4 d4] 34)))
  replace B0 := Lib.hid (B0.out.later (below_alloc w7 (.cells #[.bool (zneg k.num), .slice a4 n4 c4, .slice b4 m4 d4] 34)))
  replace A1 := Lib.hid (A1.out.later (below_alloc w7 (.cells #[.bool (zneg k.num), .slice a4 n4 c4, .slice b4 m4 d4] 34)))
  replace B1 := Lib.hid (B1.out.later (below_alloc w7 (.cells #[.bool (zneg k.num), .slice a4 n4 c4, .slice b4 m4 d4] 34)))
  replace R2 := Lib.hid (R2.out.later (below_alloc w7 (.cells #[.bool (zneg k.num), .slice a4 n4 c4, .slice b4 m4 d4] 34)))
  replace T2 := Lib.hid (T2.out.later (below_alloc w7 (.cells #[.bool (zneg k.num), .slice a4 n4 c4, .slice b4 m4 d4] 34)))
  replace R3 := Lib.hid (R3.out.later (below_alloc w7 (.cells #[.bool (zneg k.num), .slice a4 n4 c4, .slice b4 m4 d4] 34)))
  replace T3 := Lib.hid (T3.out.later (below_alloc w7 (.cells #[.bool (zneg k.num), .slice a4 n4 c4, .slice b4 m4 d4] 34)))
  replace R4 := Lib.hid (R4.out.later (below_alloc w7 (.cells #[.bool (zneg k.num), .slice a4 n4 c4, .slice b4 m4 d4] 34)))
  replace T4 := Lib.hid (T4.out.later (below_alloc w7 (.cells #[.bool (zneg k.num), .slice a4 n4 c4, .slice b4 m4 d4] 34)))
  obtain ⟨k0, k1, k2, k3, k4, k5, k6, k7, k8, k9, k10, k11, k12, k13, k14⟩ := cells_3_3_3_3_3 P0.out P1.out M0.out M1.out HQ.out
  go_wp2_with fail
  refine (ref09_int 0 _ isInt_nought).mono ?_
  rintro e w8 ⟨a5, n5, c5, b5, m5, d5, rfl, h5, g5, b⟩
  clear k0 k1 k2 k3 k4 k5 k6 k7 k8 k9 k10 k11 k12 k13 k14
  replace HB := Lib.hid (below_then HB.out b)
  replace P0 := Lib.hid (blk_later P0.out b)
  replace P1 := Lib.hid (blk_later P1.out b)
  replace M0 := Lib.hid (blk_later M0.out b)
  replace M1 := Lib.hid (blk_later M1.out b)
  replace HQ := Lib.hid (blk_later HQ.out b)
  replace A0 := Lib.hid (A0.out.later b)
  replace B0 := Lib.hid (B0.out.later b)
  replace A1 := Lib.hid (A1.out.later b)
  replace B1 := Lib.hid (B1.out.later b)
  replace R2 := Lib.hid (R2.out.later b)
  replace T2 := Lib.hid (T2.out.later b)
  replace R3 := Lib.hid (R3.out.later b)
  replace T3 := Lib.hid (T3.out.later b)
  replace R4 := Lib.hid (R4.out.later b)
  replace T4 := Lib.hid (T4.out.later b)
  clear b
  rw [Ez.out] at h5 g5 ⊢
  have hN5 : n5 ≤ qlen z := (by rw [← h5.len]; exact qlen_num _)
  have hM5 : m5 ≤ qlen z := (by rw [← g5.len]; exact qlen_den _)
  have lt_P0 : w3.heap.size < w8.heap.size := (Array.getElem?_eq_some_iff.1 P0.out).1
  have lt_P1 : w4.heap.size < w8.heap.size := (Array.getElem?_eq_some_iff.1 P1.out).1
  have lt_M0 : w5.heap.size < w8.heap.size := (Array.getElem?_eq_some_iff.1 M0.out).1
  have lt_M1 : w6.heap.size < w8.heap.size := (Array.getElem?_eq_some_iff.1 M1.out).1
  have lt_HQ : w7.heap.size < w8.heap.size := (Array.getElem?_eq_some_iff.1 HQ.out).1
  have lt_w : w.heap.size ≤ w8.heap.size := HB.out.size
  have R5 := Lib.hid h5
  have T5 := Lib.hid g5
  clear h5 g5
  unfold frV
  have HW : Hid ((World.alloc w8 (.cells #[.bool (zneg z.num), .slice a5 n5 c5, .slice b5 m5 d5] 24)).heap[w8.heap.size]? = some (.cells #[.bool (zneg z.num), .slice a5 n5 c5, .slice b5 m5 d5] 24 (0, 0))) := Lib.hid (blk_new w8 _ _)
  replace HB := Lib.hid (below_then HB.out (below_alloc w8 (.cells #[.bool (zneg z.num), .slice a5 n5 c5, .slice b5 m5 d5] 24)))
  replace P0 := Lib.hid (blk_later P0.out (below_alloc w8 (.cells #[.bool (zneg z.num), .slice a5 n5 c5, .slice b5 m5 d5] 24)))
  replace P1 := Lib.hid (blk_later P1.out (below_alloc w8 (.cells #[.bool (zneg z.num), .slice a5 n5 c5, .slice b5 m5 d5] 24)))
  replace M0 := Lib.hid (blk_later M0.out (below_alloc w8 (.cells #[.bool (zneg z.num), .slice a5 n5 c5, .slice b5 m5 d5] 24)))
  replace M1 := Lib.hid (blk_later M1.out (below_alloc w8 (.cells #[.bool (zneg z.num), .slice a5 n5 c5, .slice b5 m5 d5] 24)))
  replace HQ := Lib.hid (blk_later HQ.out (below_alloc w8 (.cells #[.bool (zneg z.num), .slice a5 n5 c5, .slice b5 m5 d5] 24)))
  replace A0 := Lib.hid (A0.out.later (below_alloc w8 (.cells #[.bool (zneg z.num), .slice a5 n5 c5, .slice b5 m5 d5] 24)))
  replace B0 := Lib.hid (B0.out.later (below_alloc w8 (.cells #[.bool (zneg z.num), .slice a5 n5 c5, .slice b5 m5 d5] 24)))
  replace A1 := Lib.hid (A1.out.later (below_alloc w8 (.cells #[.bool (zneg z.num), .slice a5 n5 c5, .slice b5 m5 d5] 24)))
  replace B1 := Lib.hid (B1.out.later (below_alloc w8 (.cells #[.bool (zneg z.num), .slice a5 n5 c5, .slice b5 m5 d5] 24)))
  replace R2 := Lib.hid (R2.out.later (below_alloc w8 (.cells #[.bool (zneg z.num), .slice a5 n5 c5, .slice b5 m5 d5] 24)))
  replace T2 := Lib.hid (T2.out.later (below_alloc w8 (.cells #[.bool (zneg z.num), .slice a5 n5 c5, .slice b5 m5 d5] 24)))
  replace R3 := Lib.hid (R3.out.later (below_alloc w8 (.cells #[.bool (zneg z.num), .slice a5 n5 c5, .slice b5 m5 d5] 24)))
  replace T3 := Lib.hid (T3.out.later (below_alloc w8 (.cells #[.bool (zneg z.num), .slice a5 n5 c5, .slice b5 m5 d5] 24)))
  replace R4 := Lib.hid (R4.out.later (below_alloc w8 (.cells #[.bool (zneg z.num), .slice a5 n5 c5, .slice b5 m5 d5] 24)))
  replace T4 := Lib.hid (T4.out.later (below_alloc w8 (.cells #[.bool (zneg z.num), .slice a5 n5 c5, .slice b5 m5 d5] 24)))
  replace R5 := Lib.hid (R5.out.later (below_alloc w8 (.cells #[.bool (zneg z.num), .slice a5 n5 c5, .slice b5 m5 d5] 24)))
  replace T5 := Lib.hid (T5.out.later (below_alloc w8 (.cells #[.bool (zneg z.num), .slice a5 n5 c5, .slice b5 m5 d5] 24)))
  obtain ⟨k0, k1, k2, k3, k4, k5, k6, k7, k8, k9, k10, k11, k12, k13, k14, k15, k16, k17⟩ := cells_3_3_3_3_3_3 P0.out P1.out M0.out M1.out HQ.out HW.out
  go_wp2_with fail
  refine (ref09_zero_q _ p1 _ (Rt.of R3.out T3.out (by omega) (by omega))).mono ?_
  rintro e w9 ⟨rfl, b⟩
  clear k0 k1 k2 k3 k4 k5 k6 k7 k8 k9 k10 k11 k12 k13 k14 k15 k16 k17
  replace HB := Lib.hid (below_then HB.out b)
  replace P0 := Lib.hid (blk_later P0.out b)
  replace P1 := Lib.hid (blk_later P1.out b)
  replace M0 := Lib.hid (blk_later M0.out b)
  replace M1 := Lib.hid (blk_later M1.out b)
  replace HQ := Lib.hid (blk_later HQ.out b)
  replace HW := Lib.hid (blk_later HW.out b)
  replace A0 := Lib.hid (A0.out.later b)
  replace B0 := Lib.hid (B0.out.later b)
  replace A1 := Lib.hid (A1.out.later b)
  replace B1 := Lib.hid (B1.out.later b)
  replace R2 := Lib.hid (R2.out.later b)
  replace T2 := Lib.hid (T2.out.later b)
  replace R3 := Lib.hid (R3.out.later b)
  replace T3 := Lib.hid (T3.out.later b)
  replace R4 := Lib.hid (R4.out.later b)
  replace T4 := Lib.hid (T4.out.later b)
  replace R5 := Lib.hid (R5.out.later b)
  replace T5 := Lib.hid (T5.out.later b)
  clear b
  rw [show decide (p1 = 0) = false from decide_eq_false H0.out]
  obtain ⟨k0, k1, k2, k3, k4, k5, k6, k7, k8, k9, k10, k11, k12, k13, k14, k15, k16, k17⟩ := cells_3_3_3_3_3_3 P0.out P1.out M0.out M1.out HQ.out HW.out
  go_wp2_with fail
  refine (ref09_quo_q _ _ p0 p1 _ (Rt.of R2.out T2.out (by omega) (by omega)) (Rt.of R3.out T3.out (by omega) (by omega))).mono ?_
  rintro e w10 ⟨a6, n6, c6, b6, m6, d6, rfl, h6, g6, b⟩
  clear k0 k1 k2 k3 k4 k5 k6 k7 k8 k9 k10 k11 k12 k13 k14 k15 k16 k17
  replace HB := Lib.hid (below_then HB.out b)
  replace P0 := Lib.hid (blk_later P0.out b)
  replace P1 := Lib.hid (blk_later P1.out b)
  replace M0 := Lib.hid (blk_later M0.out b)
  replace M1 := Lib.hid (blk_later M1.out b)
  replace HQ := Lib.hid (blk_later HQ.out b)
  replace HW := Lib.hid (blk_later HW.out b)
  clear R5
  clear T5
  replace A0 := Lib.hid (A0.out.later b)
  replace B0 := Lib.hid (B0.out.later b)
  replace A1 := Lib.hid (A1.out.later b)
  replace B1 := Lib.hid (B1.out.later b)
  replace R2 := Lib.hid (R2.out.later b)
  replace T2 := Lib.hid (T2.out.later b)
  replace R3 := Lib.hid (R3.out.later b)
  replace T3 := Lib.hid (T3.out.later b)
  replace R4 := Lib.hid (R4.out.later b)
  replace T4 := Lib.hid (T4.out.later b)
  clear b
  rw [Ek.out] at h6 g6 ⊢
  have hN6 : n6 ≤ qlen k := (by rw [← h6.len]; exact qlen_num _)
  have hM6 : m6 ≤ qlen k := (by rw [← g6.len]; exact qlen_den _)
  have R6 := Lib.hid h6
  have T6 := Lib.hid g6
  clear h6 g6
  unfold frV
  have q0 := blk_cell HW.out 0
  have q1 := blk_cell HW.out 1
  have q2 := blk_cell HW.out 2
  simp only [List.getElem?_toArray, List.getElem?_cons_zero, List.getElem?_cons_succ] at q0 q1 q2
  have f0 := blk_free HW.out 0
  have f1 := blk_free HW.out 1
  have f2 := blk_free HW.out 2
  replace P0 := Lib.hid (blk_far3 P0.out (show w3.heap.size ≠ w8.heap.size by omega) (.bool (zneg k.num)) (.slice a6 n6 c6) (.slice b6 m6 d6))
  replace P1 := Lib.hid (blk_far3 P1.out (show w4.heap.size ≠ w8.heap.size by omega) (.bool (zneg k.num)) (.slice a6 n6 c6) (.slice b6 m6 d6))
  replace M0 := Lib.hid (blk_far3 M0.out (show w5.heap.size ≠ w8.heap.size by omega) (.bool (zneg k.num)) (.slice a6 n6 c6) (.slice b6 m6 d6))
  replace M1 := Lib.hid (blk_far3 M1.out (show w6.heap.size ≠ w8.heap.size by omega) (.bool (zneg k.num)) (.slice a6 n6 c6) (.slice b6 m6 d6))
  replace HQ := Lib.hid (blk_far3 HQ.out (show w7.heap.size ≠ w8.heap.size by omega) (.bool (zneg k.num)) (.slice a6 n6 c6) (.slice b6 m6 d6))
  replace A0 := Lib.hid (A0.out.stored3 HW.out ((zneg k.num)) a6 n6 c6 (.slice b6 m6 d6))
  replace B0 := Lib.hid (B0.out.stored3 HW.out ((zneg k.num)) a6 n6 c6 (.slice b6 m6 d6))
  replace A1 := Lib.hid (A1.out.stored3 HW.out ((zneg k.num)) a6 n6 c6 (.slice b6 m6 d6))
  replace B1 := Lib.hid (B1.out.stored3 HW.out ((zneg k.num)) a6 n6 c6 (.slice b6 m6 d6))
  replace R2 := Lib.hid (R2.out.stored3 HW.out ((zneg k.num)) a6 n6 c6 (.slice b6 m6 d6))
  replace T2 := Lib.hid (T2.out.stored3 HW.out ((zneg k.num)) a6 n6 c6 (.slice b6 m6 d6))
  replace R3 := Lib.hid (R3.out.stored3 HW.out ((zneg k.num)) a6 n6 c6 (.slice b6 m6 d6))
  replace T3 := Lib.hid (T3.out.stored3 HW.out ((zneg k.num)) a6 n6 c6 (.slice b6 m6 d6))
  replace R4 := Lib.hid (R4.out.stored3 HW.out ((zneg k.num)) a6 n6 c6 (.slice b6 m6 d6))
  replace T4 := Lib.hid (T4.out.stored3 HW.out ((zneg k.num)) a6 n6 c6 (.slice b6 m6 d6))
  replace R6 := Lib.hid (R6.out.stored3 HW.out ((zneg k.num)) a6 n6 c6 (.slice b6 m6 d6))
  replace T6 := Lib.hid (T6.out.stored3 HW.out ((zneg k.num)) a6 n6 c6 (.slice b6 m6 d6))
  replace HB := Lib.hid (below_set3 HB.out (show w.heap.size ≤ w8.heap.size by omega) (.bool (zneg k.num)) (.slice a6 n6 c6) (.slice b6 m6 d6))
  replace HW := Lib.hid (blk_set3 HW.out (.bool (zneg k.num)) (.slice a6 n6 c6) (.slice b6 m6 d6))
  obtain ⟨k0, k1, k2, k3, k4, k5, k6, k7, k8, k9, k10, k11, k12, k13, k14, k15, k16, k17⟩ := cells_3_3_3_3_3_3 P0.out P1.out M0.out M1.out HQ.out HW.out
  go_wp2
  clear k0 k1 k2 k3 k4 k5 k6 k7 k8 k9 k10 k11 k12 k13 k14 k15 k16 k17
  clear q0 q1 q2 f0 f1 f2
  generalize (((w10.setCell ⟨w8.heap.size, 0, none⟩ (.bool (zneg k.num))).setCell ⟨w8.heap.size, 1, none⟩ (.slice a6 n6 c6)).setCell ⟨w8.heap.size, 2, none⟩ (.slice b6 m6 d6)) = W at *
  replace HB := Lib.hid (below_then HB.out ((Below.refl _ _).drew : Below W.heap.size W W.drew))
  replace P0 : Hid (W.drew.heap[w3.heap.size]? = _) := Lib.hid P0.out
  replace P1 : Hid (W.drew.heap[w4.heap.size]? = _) := Lib.hid P1.out
  replace M0 : Hid (W.drew.heap[w5.heap.size]? = _) := Lib.hid M0.out
  replace M1 : Hid (W.drew.heap[w6.heap.size]? = _) := Lib.hid M1.out
  replace HQ : Hid (W.drew.heap[w7.heap.size]? = _) := Lib.hid HQ.out
  replace HW : Hid (W.drew.heap[w8.heap.size]? = _) := Lib.hid HW.out
  replace A0 := Lib.hid (A0.out.later ((Below.refl _ _).drew : Below W.heap.size W W.drew))
  replace B0 := Lib.hid (B0.out.later ((Below.refl _ _).drew : Below W.heap.size W W.drew))
  replace A1 := Lib.hid (A1.out.later ((Below.refl _ _).drew : Below W.heap.size W W.drew))
  replace B1 := Lib.hid (B1.out.later ((Below.refl _ _).drew : Below W.heap.size W W.drew))
  replace R2 := Lib.hid (R2.out.later ((Below.refl _ _).drew : Below W.heap.size W W.drew))
  replace T2 := Lib.hid (T2.out.later ((Below.refl _ _).drew : Below W.heap.size W W.drew))
  replace R3 := Lib.hid (R3.out.later ((Below.refl _ _).drew : Below W.heap.size W W.drew))
  replace T3 := Lib.hid (T3.out.later ((Below.refl _ _).drew : Below W.heap.size W W.drew))
  replace R4 := Lib.hid (R4.out.later ((Below.refl _ _).drew : Below W.heap.size W W.drew))
  replace T4 := Lib.hid (T4.out.later ((Below.refl _ _).drew : Below W.heap.size W W.drew))
  replace R6 := Lib.hid (R6.out.later ((Below.refl _ _).drew : Below W.heap.size W W.drew))
  replace T6 := Lib.hid (T6.out.later ((Below.refl _ _).drew : Below W.heap.size W W.drew))
  have rSn := cells_3_3_3_3_3_3 P0.out P1.out M0.out M1.out HQ.out HW.out
  go_region_held3 (fun w' => w'.cell? ⟨w3.heap.size, 0, none⟩ = some (.bool s0) ∧ w'.cell? ⟨w3.heap.size, 1, none⟩ = some (.slice a0 n0 c0) ∧ w'.cell? ⟨w3.heap.size, 2, none⟩ = some (.slice b0 m0 d0) ∧ w'.cell? ⟨w4.heap.size, 0, none⟩ = some (.bool s1) ∧ w'.cell? ⟨w4.heap.size, 1, none⟩ = some (.slice a1 n1 c1) ∧ w'.cell? ⟨w4.heap.size, 2, none⟩ = some (.slice b1 m1 d1) ∧ w'.cell? ⟨w5.heap.size, 0, none⟩ = some (.bool (zneg p0.num)) ∧ w'.cell? ⟨w5.heap.size, 1, none⟩ = some (.slice a2 n2 c2) ∧ w'.cell? ⟨w5.heap.size, 2, none⟩ = some (.slice b2 m2 d2) ∧ w'.cell? ⟨w6.heap.size, 0, none⟩ = some (.bool (zneg p1.num)) ∧ w'.cell? ⟨w6.heap.size, 1, none⟩ = some (.slice a3 n3 c3) ∧ w'.cell? ⟨w6.heap.size, 2, none⟩ = some (.slice b3 m3 d3) ∧ w'.cell? ⟨w7.heap.size, 0, none⟩ = some (.bool (zneg k.num)) ∧ w'.cell? ⟨w7.heap.size, 1, none⟩ = some (.slice a4 n4 c4) ∧ w'.cell? ⟨w7.heap.size, 2, none⟩ = some (.slice b4 m4 d4) ∧ w'.cell? ⟨w8.heap.size, 0, none⟩ = some (.bool (zneg k.num)) ∧ w'.cell? ⟨w8.heap.size, 1, none⟩ = some (.slice a6 n6 c6) ∧ w'.cell? ⟨w8.heap.size, 2, none⟩ = some (.slice b6 m6 d6)) (exact rSn)
    (first
    | (go_at_call 18; (first
      | (have rm7 := rM7; refine (law09_is_yes (zneg ab.num) a9 n9 c9 b9 m9 d9 (dg ab.num.natAbs) (dg ab.den) a10 n10 c10 b10 m10 d10 _ R9.out T9.out R10.out T10.out).mono ?_; rintro e wr8 ⟨rfl, b⟩; replace HB := Lib.hid (below_then HB.out b); replace P0 := Lib.hid (blk_later P0.out b); replace P1 := Lib.hid (blk_later P1.out b); replace M0 := Lib.hid (blk_later M0.out b); replace M1 := Lib.hid (blk_later M1.out b); replace HQ := Lib.hid (blk_later HQ.out b); replace HW := Lib.hid (blk_later HW.out b); replace A0 := Lib.hid (A0.out.later b); replace B0 := Lib.hid (B0.out.later b); replace A1 := Lib.hid (A1.out.later b); replace B1 := Lib.hid (B1.out.later b); replace R2 := Lib.hid (R2.out.later b); replace T2 := Lib.hid (T2.out.later b); replace R3 := Lib.hid (R3.out.later b); replace T3 := Lib.hid (T3.out.later b); replace R4 := Lib.hid (R4.out.later b); replace T4 := Lib.hid (T4.out.later b); replace R6 := Lib.hid (R6.out.later b); replace T6 := Lib.hid (T6.out.later b); clear R9; clear T9; clear R10; clear T10; clear b; clear rSn; have rSn := cells_3_3_3_3_3_3 P0.out P1.out M0.out M1.out HQ.out HW.out; clear rM7 rm7; have rM8 := True.intro)
      | (have rm4 := rM4; refine (law09_is_yes (zneg ng.num) a7 n7 c7 b7 m7 d7 (dg ng.num.natAbs) (dg ng.den) a8 n8 c8 b8 m8 d8 _ R7.out T7.out R8.out T8.out).mono ?_; rintro e wr5 ⟨rfl, b⟩; replace HB := Lib.hid (below_then HB.out b); replace P0 := Lib.hid (blk_later P0.out b); replace P1 := Lib.hid (blk_later P1.out b); replace M0 := Lib.hid (blk_later M0.out b); replace M1 := Lib.hid (blk_later M1.out b); replace HQ := Lib.hid (blk_later HQ.out b); replace HW := Lib.hid (blk_later HW.out b); replace A0 := Lib.hid (A0.out.later b); replace B0 := Lib.hid (B0.out.later b); replace A1 := Lib.hid (A1.out.later b); replace B1 := Lib.hid (B1.out.later b); replace R2 := Lib.hid (R2.out.later b); replace T2 := Lib.hid (T2.out.later b); replace R3 := Lib.hid (R3.out.later b); replace T3 := Lib.hid (T3.out.later b); replace R4 := Lib.hid (R4.out.later b); replace T4 := Lib.hid (T4.out.later b); replace R6 := Lib.hid (R6.out.later b); replace T6 := Lib.hid (T6.out.later b); clear R7; clear T7; clear R8; clear T8; clear b; clear rSn; have rSn := cells_3_3_3_3_3_3 P0.out P1.out M0.out M1.out HQ.out HW.out; clear rM4 rm4; have rM5 := True.intro)
      | (refine (law09_is_yes (zneg k.num) a4 n4 c4 b4 m4 d4 (dg k.num.natAbs) (dg k.den) a6 n6 c6 b6 m6 d6 _ R4.out T4.out R6.out T6.out).mono ?_; rintro e wr1 ⟨rfl, b⟩; replace HB := Lib.hid (below_then HB.out b); replace P0 := Lib.hid (blk_later P0.out b); replace P1 := Lib.hid (blk_later P1.out b); replace M0 := Lib.hid (blk_later M0.out b); replace M1 := Lib.hid (blk_later M1.out b); replace HQ := Lib.hid (blk_later HQ.out b); replace HW := Lib.hid (blk_later HW.out b); replace A0 := Lib.hid (A0.out.later b); replace B0 := Lib.hid (B0.out.later b); replace A1 := Lib.hid (A1.out.later b); replace B1 := Lib.hid (B1.out.later b); replace R2 := Lib.hid (R2.out.later b); replace T2 := Lib.hid (T2.out.later b); replace R3 := Lib.hid (R3.out.later b); replace T3 := Lib.hid (T3.out.later b); replace R4 := Lib.hid (R4.out.later b); replace T4 := Lib.hid (T4.out.later b); replace R6 := Lib.hid (R6.out.later b); replace T6 := Lib.hid (T6.out.later b); clear b; clear rSn; have rSn := cells_3_3_3_3_3_3 P0.out P1.out M0.out M1.out HQ.out HW.out; have rM1 := True.intro)))
    | (go_at_call 23; (first
      | (have rm1 := rM1; refine (ref09_zero_q _ p1 _ (Rt.of R3.out T3.out (by omega) (by omega))).mono ?_; rintro e wr2 ⟨rfl, b⟩; replace HB := Lib.hid (below_then HB.out b); replace P0 := Lib.hid (blk_later P0.out b); replace P1 := Lib.hid (blk_later P1.out b); replace M0 := Lib.hid (blk_later M0.out b); replace M1 := Lib.hid (blk_later M1.out b); replace HQ := Lib.hid (blk_later HQ.out b); replace HW := Lib.hid (blk_later HW.out b); replace A0 := Lib.hid (A0.out.later b); replace B0 := Lib.hid (B0.out.later b); replace A1 := Lib.hid (A1.out.later b); replace B1 := Lib.hid (B1.out.later b); replace R2 := Lib.hid (R2.out.later b); replace T2 := Lib.hid (T2.out.later b); replace R3 := Lib.hid (R3.out.later b); replace T3 := Lib.hid (T3.out.later b); replace R4 := Lib.hid (R4.out.later b); replace T4 := Lib.hid (T4.out.later b); replace R6 := Lib.hid (R6.out.later b); replace T6 := Lib.hid (T6.out.later b); rw [show decide (p1 = 0) = false from decide_eq_false H0.out]; clear b; clear rSn; have rSn := cells_3_3_3_3_3_3 P0.out P1.out M0.out M1.out HQ.out HW.out; clear rM1 rm1; have rM2 := True.intro)))
    | (go_at_call 24; (first
      | (have rm2 := rM2; refine (S.neg _ p0 _ (Fr.of A0.out B0.out (by omega) (by omega) EQ0.out)).mono ?_; rintro e wr3 ⟨a7, n7, c7, b7, m7, d7, rfl, h7, g7, b⟩; replace HB := Lib.hid (below_then HB.out b); replace P0 := Lib.hid (blk_later P0.out b); replace P1 := Lib.hid (blk_later P1.out b); replace M0 := Lib.hid (blk_later M0.out b); replace M1 := Lib.hid (blk_later M1.out b); replace HQ := Lib.hid (blk_later HQ.out b); replace HW := Lib.hid (blk_later HW.out b); replace A0 := Lib.hid (A0.out.later b); replace B0 := Lib.hid (B0.out.later b); replace A1 := Lib.hid (A1.out.later b); replace B1 := Lib.hid (B1.out.later b); replace R2 := Lib.hid (R2.out.later b); replace T2 := Lib.hid (T2.out.later b); replace R3 := Lib.hid (R3.out.later b); replace T3 := Lib.hid (T3.out.later b); replace R4 := Lib.hid (R4.out.later b); replace T4 := Lib.hid (T4.out.later b); replace R6 := Lib.hid (R6.out.later b); replace T6 := Lib.hid (T6.out.later b); have R7 := Lib.hid h7; have T7 := Lib.hid g7; rw [Eng.out] at h7 g7 ⊢; have hN7 : n7 ≤ qlen ng := (by rw [← h7.len]; exact qlen_num _); have hM7 : m7 ≤ qlen ng := (by rw [← g7.len]; exact qlen_den _); replace R7 : Hid (Wd _ a7 n7 c7 (dg ng.num.natAbs)) := Lib.hid h7; replace T7 : Hid (Wd _ b7 m7 d7 (dg ng.den)) := Lib.hid g7; clear h7 g7; clear b; clear rSn; have rSn := cells_3_3_3_3_3_3 P0.out P1.out M0.out M1.out HQ.out HW.out; clear rM2 rm2; have rM3 := True.intro)))
    | (go_at_call 25; (first
      | (have rm3 := rM3; refine (ref09_neg_q _ p0 _ (Rt.of R2.out T2.out (by omega) (by omega))).mono ?_; rintro e wr4 ⟨a8, n8, c8, b8, m8, d8, rfl, h8, g8, b⟩; replace HB := Lib.hid (below_then HB.out b); replace P0 := Lib.hid (blk_later P0.out b); replace P1 := Lib.hid (blk_later P1.out b); replace M0 := Lib.hid (blk_later M0.out b); replace M1 := Lib.hid (blk_later M1.out b); replace HQ := Lib.hid (blk_later HQ.out b); replace HW := Lib.hid (blk_later HW.out b); replace A0 := Lib.hid (A0.out.later b); replace B0 := Lib.hid (B0.out.later b); replace A1 := Lib.hid (A1.out.later b); replace B1 := Lib.hid (B1.out.later b); replace R2 := Lib.hid (R2.out.later b); replace T2 := Lib.hid (T2.out.later b); replace R3 := Lib.hid (R3.out.later b); replace T3 := Lib.hid (T3.out.later b); replace R4 := Lib.hid (R4.out.later b); replace T4 := Lib.hid (T4.out.later b); replace R6 := Lib.hid (R6.out.later b); replace T6 := Lib.hid (T6.out.later b); replace R7 := Lib.hid (R7.out.later b); replace T7 := Lib.hid (T7.out.later b); have R8 := Lib.hid h8; have T8 := Lib.hid g8; rw [Eng.out] at h8 g8 ⊢; have hN8 : n8 ≤ qlen ng := (by rw [← h8.len]; exact qlen_num _); have hM8 : m8 ≤ qlen ng := (by rw [← g8.len]; exact qlen_den _); replace R8 : Hid (Wd _ a8 n8 c8 (dg ng.num.natAbs)) := Lib.hid h8; replace T8 : Hid (Wd _ b8 m8 d8 (dg ng.den)) := Lib.hid g8; clear h8 g8; clear b; clear rSn; have rSn := cells_3_3_3_3_3_3 P0.out P1.out M0.out M1.out HQ.out HW.out; clear rM3 rm3; have rM4 := True.intro)))
    | (go_at_call 26; (first
      | (have rm5 := rM5; refine (S.abs _ p0 _ (Fr.of A0.out B0.out (by omega) (by omega) EQ0.out)).mono ?_; rintro e wr6 ⟨a9, n9, c9, b9, m9, d9, rfl, h9, g9, b⟩; replace HB := Lib.hid (below_then HB.out b); replace P0 := Lib.hid (blk_later P0.out b); replace P1 := Lib.hid (blk_later P1.out b); replace M0 := Lib.hid (blk_later M0.out b); replace M1 := Lib.hid (blk_later M1.out b); replace HQ := Lib.hid (blk_later HQ.out b); replace HW := Lib.hid (blk_later HW.out b); replace A0 := Lib.hid (A0.out.later b); replace B0 := Lib.hid (B0.out.later b); replace A1 := Lib.hid (A1.out.later b); replace B1 := Lib.hid (B1.out.later b); replace R2 := Lib.hid (R2.out.later b); replace T2 := Lib.hid (T2.out.later b); replace R3 := Lib.hid (R3.out.later b); replace T3 := Lib.hid (T3.out.later b); replace R4 := Lib.hid (R4.out.later b); replace T4 := Lib.hid (T4.out.later b); replace R6 := Lib.hid (R6.out.later b); replace T6 := Lib.hid (T6.out.later b); have R9 := Lib.hid h9; have T9 := Lib.hid g9; rw [Eab.out] at h9 g9 ⊢; have hN9 : n9 ≤ qlen ab := (by rw [← h9.len]; exact qlen_num _); have hM9 : m9 ≤ qlen ab := (by rw [← g9.len]; exact qlen_den _); replace R9 : Hid (Wd _ a9 n9 c9 (dg ab.num.natAbs)) := Lib.hid h9; replace T9 : Hid (Wd _ b9 m9 d9 (dg ab.den)) := Lib.hid g9; clear h9 g9; clear b; clear rSn; have rSn := cells_3_3_3_3_3_3 P0.out P1.out M0.out M1.out HQ.out HW.out; clear rM5 rm5; have rM6 := True.intro)))
    | (go_at_call 27; (first
      | (have rm6 := rM6; refine (ref09_abs_q _ p0 _ (Rt.of R2.out T2.out (by omega) (by omega))).mono ?_; rintro e wr7 ⟨a10, n10, c10, b10, m10, d10, rfl, h10, g10, b⟩; replace HB := Lib.hid (below_then HB.out b); replace P0 := Lib.hid (blk_later P0.out b); replace P1 := Lib.hid (blk_later P1.out b); replace M0 := Lib.hid (blk_later M0.out b); replace M1 := Lib.hid (blk_later M1.out b); replace HQ := Lib.hid (blk_later HQ.out b); replace HW := Lib.hid (blk_later HW.out b); replace A0 := Lib.hid (A0.out.later b); replace B0 := Lib.hid (B0.out.later b); replace A1 := Lib.hid (A1.out.later b); replace B1 := Lib.hid (B1.out.later b); replace R2 := Lib.hid (R2.out.later b); replace T2 := Lib.hid (T2.out.later b); replace R3 := Lib.hid (R3.out.later b); replace T3 := Lib.hid (T3.out.later b); replace R4 := Lib.hid (R4.out.later b); replace T4 := Lib.hid (T4.out.later b); replace R6 := Lib.hid (R6.out.later b); replace T6 := Lib.hid (T6.out.later b); replace R9 := Lib.hid (R9.out.later b); replace T9 := Lib.hid (T9.out.later b); have R10 := Lib.hid h10; have T10 := Lib.hid g10; rw [Eab.out] at h10 g10 ⊢; have hN10 : n10 ≤ qlen ab := (by rw [← h10.len]; exact qlen_num _); have hM10 : m10 ≤ qlen ab := (by rw [← g10.len]; exact qlen_den _); replace R10 : Hid (Wd _ a10 n10 c10 (dg ab.num.natAbs)) := Lib.hid h10; replace T10 : Hid (Wd _ b10 m10 d10 (dg ab.den)) := Lib.hid g10; clear h10 g10; clear b; clear rSn; have rSn := cells_3_3_3_3_3_3 P0.out P1.out M0.out M1.out HQ.out HW.out; clear rM6 rm6; have rM7 := True.intro))))
  obtain ⟨vk0, vk1, vk2, vk3, vk4, vk5, vk6, vk7, vk8, vk9, vk10, vk11⟩ := cells_3_3_3_3 P0.out P1.out M0.out M1.out
  go_wp2
  clear vk0 vk1 vk2 vk3 vk4 vk5 vk6 vk7 vk8 vk9 vk10 vk11
  replace HB := Lib.hid (below_then HB.out ((Below.refl _ _).drew : Below wr8.heap.size wr8 wr8.drew))
  replace P0 : Hid (wr8.drew.heap[w3.heap.size]? = _) := Lib.hid P0.out
  replace P1 : Hid (wr8.drew.heap[w4.heap.size]? = _) := Lib.hid P1.out
  replace M0 : Hid (wr8.drew.heap[w5.heap.size]? = _) := Lib.hid M0.out
  replace M1 : Hid (wr8.drew.heap[w6.heap.size]? = _) := Lib.hid M1.out
  replace A0 := Lib.hid (A0.out.later ((Below.refl _ _).drew : Below wr8.heap.size wr8 wr8.drew))
  replace B0 := Lib.hid (B0.out.later ((Below.refl _ _).drew : Below wr8.heap.size wr8 wr8.drew))
  replace A1 := Lib.hid (A1.out.later ((Below.refl _ _).drew : Below wr8.heap.size wr8 wr8.drew))
  replace B1 := Lib.hid (B1.out.later ((Below.refl _ _).drew : Below wr8.heap.size wr8 wr8.drew))
  replace R2 := Lib.hid (R2.out.later ((Below.refl _ _).drew : Below wr8.heap.size wr8 wr8.drew))
  replace T2 := Lib.hid (T2.out.later ((Below.refl _ _).drew : Below wr8.heap.size wr8 wr8.drew))
  replace R3 := Lib.hid (R3.out.later ((Below.refl _ _).drew : Below wr8.heap.size wr8 wr8.drew))
  replace T3 := Lib.hid (T3.out.later ((Below.refl _ _).drew : Below wr8.heap.size wr8 wr8.drew))
  have sSn := cells_3_3_3_3 P0.out P1.out M0.out M1.out
  go_region_held3 (fun w' => w'.cell? ⟨w3.heap.size, 0, none⟩ = some (.bool s0) ∧ w'.cell? ⟨w3.heap.size, 1, none⟩ = some (.slice a0 n0 c0) ∧ w'.cell? ⟨w3.heap.size, 2, none⟩ = some (.slice b0 m0 d0) ∧ w'.cell? ⟨w4.heap.size, 0, none⟩ = some (.bool s1) ∧ w'.cell? ⟨w4.heap.size, 1, none⟩ = some (.slice a1 n1 c1) ∧ w'.cell? ⟨w4.heap.size, 2, none⟩ = some (.slice b1 m1 d1) ∧ w'.cell? ⟨w5.heap.size, 0, none⟩ = some (.bool (zneg p0.num)) ∧ w'.cell? ⟨w5.heap.size, 1, none⟩ = some (.slice a2 n2 c2) ∧ w'.cell? ⟨w5.heap.size, 2, none⟩ = some (.slice b2 m2 d2) ∧ w'.cell? ⟨w6.heap.size, 0, none⟩ = some (.bool (zneg p1.num)) ∧ w'.cell? ⟨w6.heap.size, 1, none⟩ = some (.slice a3 n3 c3) ∧ w'.cell? ⟨w6.heap.size, 2, none⟩ = some (.slice b3 m3 d3)) (exact sSn)
    (first
    | (go_at_call 28; (first
      | (refine (S.add _ _ p0 p1 _ (Fr.of A0.out B0.out (by omega) (by omega) EQ0.out) (Fr.of A1.out B1.out (by omega) (by omega) EQ1.out)).mono ?_; rintro e ws1 ⟨a11, n11, c11, b11, m11, d11, rfl, h11, g11, b⟩; replace HB := Lib.hid (below_then HB.out b); replace P0 := Lib.hid (blk_later P0.out b); replace P1 := Lib.hid (blk_later P1.out b); replace M0 := Lib.hid (blk_later M0.out b); replace M1 := Lib.hid (blk_later M1.out b); replace A0 := Lib.hid (A0.out.later b); replace B0 := Lib.hid (B0.out.later b); replace A1 := Lib.hid (A1.out.later b); replace B1 := Lib.hid (B1.out.later b); replace R2 := Lib.hid (R2.out.later b); replace T2 := Lib.hid (T2.out.later b); replace R3 := Lib.hid (R3.out.later b); replace T3 := Lib.hid (T3.out.later b); have R11 := Lib.hid h11; have T11 := Lib.hid g11; rw [Eu.out] at h11 g11 ⊢; have hN11 : n11 ≤ qlen u := (by rw [← h11.len]; exact qlen_num _); have hM11 : m11 ≤ qlen u := (by rw [← g11.len]; exact qlen_den _); replace R11 : Hid (Wd _ a11 n11 c11 (dg u.num.natAbs)) := Lib.hid h11; replace T11 : Hid (Wd _ b11 m11 d11 (dg u.den)) := Lib.hid g11; clear h11 g11; clear b; clear sSn; have sSn := cells_3_3_3_3 P0.out P1.out M0.out M1.out; have sM1 := True.intro)))
    | (go_at_call 29; (first
      | (have sm1 := sM1; refine (ref09_add_q _ _ p0 p1 _ (Rt.of R2.out T2.out (by omega) (by omega)) (Rt.of R3.out T3.out (by omega) (by omega))).mono ?_; rintro e ws2 ⟨a12, n12, c12, b12, m12, d12, rfl, h12, g12, b⟩; replace HB := Lib.hid (below_then HB.out b); replace P0 := Lib.hid (blk_later P0.out b); replace P1 := Lib.hid (blk_later P1.out b); replace M0 := Lib.hid (blk_later M0.out b); replace M1 := Lib.hid (blk_later M1.out b); replace A0 := Lib.hid (A0.out.later b); replace B0 := Lib.hid (B0.out.later b); replace A1 := Lib.hid (A1.out.later b); replace B1 := Lib.hid (B1.out.later b); replace R2 := Lib.hid (R2.out.later b); replace T2 := Lib.hid (T2.out.later b); replace R3 := Lib.hid (R3.out.later b); replace T3 := Lib.hid (T3.out.later b); replace R11 := Lib.hid (R11.out.later b); replace T11 := Lib.hid (T11.out.later b); have R12 := Lib.hid h12; have T12 := Lib.hid g12; rw [Eu.out] at h12 g12 ⊢; have hN12 : n12 ≤ qlen u := (by rw [← h12.len]; exact qlen_num _); have hM12 : m12 ≤ qlen u := (by rw [← g12.len]; exact qlen_den _); replace R12 : Hid (Wd _ a12 n12 c12 (dg u.num.natAbs)) := Lib.hid h12; replace T12 : Hid (Wd _ b12 m12 d12 (dg u.den)) := Lib.hid g12; clear h12 g12; clear b; clear sSn; have sSn := cells_3_3_3_3 P0.out P1.out M0.out M1.out; clear sM1 sm1; have sM2 := True.intro)))
    | (go_at_call 18; (first
      | (have sm8 := sM8; refine (law09_is_yes (zneg t.num) a15 n15 c15 b15 m15 d15 (dg t.num.natAbs) (dg t.den) a16 n16 c16 b16 m16 d16 _ R15.out T15.out R16.out T16.out).mono ?_; rintro e ws9 ⟨rfl, b⟩; replace HB := Lib.hid (below_then HB.out b); replace P0 := Lib.hid (blk_later P0.out b); replace P1 := Lib.hid (blk_later P1.out b); replace M0 := Lib.hid (blk_later M0.out b); replace M1 := Lib.hid (blk_later M1.out b); replace A0 := Lib.hid (A0.out.later b); replace B0 := Lib.hid (B0.out.later b); replace A1 := Lib.hid (A1.out.later b); replace B1 := Lib.hid (B1.out.later b); replace R2 := Lib.hid (R2.out.later b); replace T2 := Lib.hid (T2.out.later b); replace R3 := Lib.hid (R3.out.later b); replace T3 := Lib.hid (T3.out.later b); clear R15; clear T15; clear R16; clear T16; clear b; clear sSn; have sSn := cells_3_3_3_3 P0.out P1.out M0.out M1.out; clear sM8 sm8; have sM9 := True.intro)
      | (have sm5 := sM5; refine (law09_is_yes (zneg d.num) a13 n13 c13 b13 m13 d13 (dg d.num.natAbs) (dg d.den) a14 n14 c14 b14 m14 d14 _ R13.out T13.out R14.out T14.out).mono ?_; rintro e ws6 ⟨rfl, b⟩; replace HB := Lib.hid (below_then HB.out b); replace P0 := Lib.hid (blk_later P0.out b); replace P1 := Lib.hid (blk_later P1.out b); replace M0 := Lib.hid (blk_later M0.out b); replace M1 := Lib.hid (blk_later M1.out b); replace A0 := Lib.hid (A0.out.later b); replace B0 := Lib.hid (B0.out.later b); replace A1 := Lib.hid (A1.out.later b); replace B1 := Lib.hid (B1.out.later b); replace R2 := Lib.hid (R2.out.later b); replace T2 := Lib.hid (T2.out.later b); replace R3 := Lib.hid (R3.out.later b); replace T3 := Lib.hid (T3.out.later b); clear R13; clear T13; clear R14; clear T14; clear b; clear sSn; have sSn := cells_3_3_3_3 P0.out P1.out M0.out M1.out; clear sM5 sm5; have sM6 := True.intro)
      | (have sm2 := sM2; refine (law09_is_yes (zneg u.num) a11 n11 c11 b11 m11 d11 (dg u.num.natAbs) (dg u.den) a12 n12 c12 b12 m12 d12 _ R11.out T11.out R12.out T12.out).mono ?_; rintro e ws3 ⟨rfl, b⟩; replace HB := Lib.hid (below_then HB.out b); replace P0 := Lib.hid (blk_later P0.out b); replace P1 := Lib.hid (blk_later P1.out b); replace M0 := Lib.hid (blk_later M0.out b); replace M1 := Lib.hid (blk_later M1.out b); replace A0 := Lib.hid (A0.out.later b); replace B0 := Lib.hid (B0.out.later b); replace A1 := Lib.hid (A1.out.later b); replace B1 := Lib.hid (B1.out.later b); replace R2 := Lib.hid (R2.out.later b); replace T2 := Lib.hid (T2.out.later b); replace R3 := Lib.hid (R3.out.later b); replace T3 := Lib.hid (T3.out.later b); clear R11; clear T11; clear R12; clear T12; clear b; clear sSn; have sSn := cells_3_3_3_3 P0.out P1.out M0.out M1.out; clear sM2 sm2; have sM3 := True.intro)))
    | (go_at_call 30; (first
      | (have sm3 := sM3; refine (S.sub _ _ p0 p1 _ (Fr.of A0.out B0.out (by omega) (by omega) EQ0.out) (Fr.of A1.out B1.out (by omega) (by omega) EQ1.out)).mono ?_; rintro e ws4 ⟨a13, n13, c13, b13, m13, d13, rfl, h13, g13, b⟩; replace HB := Lib.hid (below_then HB.out b); replace P0 := Lib.hid (blk_later P0.out b); replace P1 := Lib.hid (blk_later P1.out b); replace M0 := Lib.hid (blk_later M0.out b); replace M1 := Lib.hid (blk_later M1.out b); replace A0 := Lib.hid (A0.out.later b); replace B0 := Lib.hid (B0.out.later b); replace A1 := Lib.hid (A1.out.later b); replace B1 := Lib.hid (B1.out.later b); replace R2 := Lib.hid (R2.out.later b); replace T2 := Lib.hid (T2.out.later b); replace R3 := Lib.hid (R3.out.later b); replace T3 := Lib.hid (T3.out.later b); have R13 := Lib.hid h13; have T13 := Lib.hid g13; rw [Ed.out] at h13 g13 ⊢; have hN13 : n13 ≤ qlen d := (by rw [← h13.len]; exact qlen_num _); have hM13 : m13 ≤ qlen d := (by rw [← g13.len]; exact qlen_den _); replace R13 : Hid (Wd _ a13 n13 c13 (dg d.num.natAbs)) := Lib.hid h13; replace T13 : Hid (Wd _ b13 m13 d13 (dg d.den)) := Lib.hid g13; clear h13 g13; clear b; clear sSn; have sSn := cells_3_3_3_3 P0.out P1.out M0.out M1.out; clear sM3 sm3; have sM4 := True.intro)))
    | (go_at_call 31; (first
      | (have sm4 := sM4; refine (ref09_sub_q _ _ p0 p1 _ (Rt.of R2.out T2.out (by omega) (by omega)) (Rt.of R3.out T3.out (by omega) (by omega))).mono ?_; rintro e ws5 ⟨a14, n14, c14, b14, m14, d14, rfl, h14, g14, b⟩; replace HB := Lib.hid (below_then HB.out b); replace P0 := Lib.hid (blk_later P0.out b); replace P1 := Lib.hid (blk_later P1.out b); replace M0 := Lib.hid (blk_later M0.out b); replace M1 := Lib.hid (blk_later M1.out b); replace A0 := Lib.hid (A0.out.later b); replace B0 := Lib.hid (B0.out.later b); replace A1 := Lib.hid (A1.out.later b); replace B1 := Lib.hid (B1.out.later b); replace R2 := Lib.hid (R2.out.later b); replace T2 := Lib.hid (T2.out.later b); replace R3 := Lib.hid (R3.out.later b); replace T3 := Lib.hid (T3.out.later b); replace R13 := Lib.hid (R13.out.later b); replace T13 := Lib.hid (T13.out.later b); have R14 := Lib.hid h14; have T14 := Lib.hid g14; rw [Ed.out] at h14 g14 ⊢; have hN14 : n14 ≤ qlen d := (by rw [← h14.len]; exact qlen_num _); have hM14 : m14 ≤ qlen d := (by rw [← g14.len]; exact qlen_den _); replace R14 : Hid (Wd _ a14 n14 c14 (dg d.num.natAbs)) := Lib.hid h14; replace T14 : Hid (Wd _ b14 m14 d14 (dg d.den)) := Lib.hid g14; clear h14 g14; clear b; clear sSn; have sSn := cells_3_3_3_3 P0.out P1.out M0.out M1.out; clear sM4 sm4; have sM5 := True.intro)))
    | (go_at_call 32; (first
      | (have sm6 := sM6; refine (S.mul _ _ p0 p1 _ (Fr.of A0.out B0.out (by omega) (by omega) EQ0.out) (Fr.of A1.out B1.out (by omega) (by omega) EQ1.out)).mono ?_; rintro e ws7 ⟨a15, n15, c15, b15, m15, d15, rfl, h15, g15, b⟩; replace HB := Lib.hid (below_then HB.out b); replace P0 := Lib.hid (blk_later P0.out b); replace P1 := Lib.hid (blk_later P1.out b); replace M0 := Lib.hid (blk_later M0.out b); replace M1 := Lib.hid (blk_later M1.out b); replace A0 := Lib.hid (A0.out.later b); replace B0 := Lib.hid (B0.out.later b); replace A1 := Lib.hid (A1.out.later b); replace B1 := Lib.hid (B1.out.later b); replace R2 := Lib.hid (R2.out.later b); replace T2 := Lib.hid (T2.out.later b); replace R3 := Lib.hid (R3.out.later b); replace T3 := Lib.hid (T3.out.later b); have R15 := Lib.hid h15; have T15 := Lib.hid g15; rw [Et.out] at h15 g15 ⊢; have hN15 : n15 ≤ qlen t := (by rw [← h15.len]; exact qlen_num _); have hM15 : m15 ≤ qlen t := (by rw [← g15.len]; exact qlen_den _); replace R15 : Hid (Wd _ a15 n15 c15 (dg t.num.natAbs)) := Lib.hid h15; replace T15 : Hid (Wd _ b15 m15 d15 (dg t.den)) := Lib.hid g15; clear h15 g15; clear b; clear sSn; have sSn := cells_3_3_3_3 P0.out P1.out M0.out M1.out; clear sM6 sm6; have sM7 := True.intro)))
    | (go_at_call 33; (first
      | (have sm7 := sM7; refine (ref09_mul_q _ _ p0 p1 _ (Rt.of R2.out T2.out (by omega) (by omega)) (Rt.of R3.out T3.out (by omega) (by omega))).mono ?_; rintro e ws8 ⟨a16, n16, c16, b16, m16, d16, rfl, h16, g16, b⟩; replace HB := Lib.hid (below_then HB.out b); replace P0 := Lib.hid (blk_later P0.out b); replace P1 := Lib.hid (blk_later P1.out b); replace M0 := Lib.hid (blk_later M0.out b); replace M1 := Lib.hid (blk_later M1.out b); replace A0 := Lib.hid (A0.out.later b); replace B0 := Lib.hid (B0.out.later b); replace A1 := Lib.hid (A1.out.later b); replace B1 := Lib.hid (B1.out.later b); replace R2 := Lib.hid (R2.out.later b); replace T2 := Lib.hid (T2.out.later b); replace R3 := Lib.hid (R3.out.later b); replace T3 := Lib.hid (T3.out.later b); replace R15 := Lib.hid (R15.out.later b); replace T15 := Lib.hid (T15.out.later b); have R16 := Lib.hid h16; have T16 := Lib.hid g16; rw [Et.out] at h16 g16 ⊢; have hN16 : n16 ≤ qlen t := (by rw [← h16.len]; exact qlen_num _); have hM16 : m16 ≤ qlen t := (by rw [← g16.len]; exact qlen_den _); replace R16 : Hid (Wd _ a16 n16 c16 (dg t.num.natAbs)) := Lib.hid h16; replace T16 : Hid (Wd _ b16 m16 d16 (dg t.den)) := Lib.hid g16; clear h16 g16; clear b; clear sSn; have sSn := cells_3_3_3_3 P0.out P1.out M0.out M1.out; clear sM7 sm7; have sM8 := True.intro)))
    | (go_at_call 10; (first
      | (have sm9 := sM9; refine (law09_works S _).mono ?_; rintro e ws10 ⟨rfl, b⟩; replace HB := Lib.hid (below_then HB.out b); replace P0 := Lib.hid (blk_later P0.out b); replace P1 := Lib.hid (blk_later P1.out b); replace M0 := Lib.hid (blk_later M0.out b); replace M1 := Lib.hid (blk_later M1.out b); replace A0 := Lib.hid (A0.out.later b); replace B0 := Lib.hid (B0.out.later b); replace A1 := Lib.hid (A1.out.later b); replace B1 := Lib.hid (B1.out.later b); replace R2 := Lib.hid (R2.out.later b); replace T2 := Lib.hid (T2.out.later b); replace R3 := Lib.hid (R3.out.later b); replace T3 := Lib.hid (T3.out.later b); clear b; clear sSn; have sSn := cells_3_3_3_3 P0.out P1.out M0.out M1.out; clear sM9 sm9; have sM10 := True.intro))))
  go_wp2
  go_ret
  exact ⟨rfl, HB.out⟩
end Go.Proofs.Ytpjgmkkdbmegjaa
