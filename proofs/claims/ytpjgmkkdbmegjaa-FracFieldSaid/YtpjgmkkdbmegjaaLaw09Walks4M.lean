/-
  The walks of the laws of layer 9: FracField, where one is divided by 0.
-/
import Derived.Test.YtpjgmkkdbmegjaaLaw09Walks3M
import Derived.Deep.RegionHeld3
namespace Go.Proofs.Ytpjgmkkdbmegjaa
open Go.RowKit

set_option maxRecDepth 4096 in
set_option maxHeartbeats 16000000 in
theorem law09_field_no (S : FracSaid) (s0 : Bool) (a0 : Option Addr) (n0 c0 : Nat) (la0 : List Nat) (b0 : Option Addr) (m0 d0 : Nat) (lb0 : List Nat) (s1 : Bool) (a1 : Option Addr) (n1 c1 : Nat) (la1 : List Nat) (b1 : Option Addr) (m1 d1 : Nat) (lb1 : List Nat) (s2 : Bool) (a2 : Option Addr) (n2 c2 : Nat) (la2 : List Nat) (b2 : Option Addr) (m2 d2 : Nat) (lb2 : List Nat) (w : World) (ha0 : Wd w a0 n0 c0 la0) (hb0 : Wd w b0 m0 d0 lb0) (ha1 : Wd w a1 n1 c1 la1) (hb1 : Wd w b1 m1 d1 lb1) (ha2 : Wd w a2 n2 c2 la2) (hb2 : Wd w b2 m2 d2 lb2) (hn0 : n0 ≤ 6) (hm0 : m0 ≤ 6) (hn1 : n1 ≤ 6) (hm1 : m1 ≤ 6) (hn2 : n2 ≤ 6) (hm2 : m2 ≤ 6) (h0 : qval s1 (val la1) (val lb1) = 0) :
    Calls Try.prog 6 #[frV s0 a0 n0 c0 b0 m0 d0, frV s1 a1 n1 c1 b1 m1 d1, frV s2 a2 n2 c2 b2 m2 d2] w (Gives (.bool true) w) := by
  have HB := Lib.hid (below_then (below_then (below_alloc w (.cells #[.bool s0, .slice a0 n0 c0, .slice b0 m0 d0] 24)) (below_alloc (w.alloc (.cells #[.bool s0, .slice a0 n0 c0, .slice b0 m0 d0] 24)) (.cells #[.bool s1, .slice a1 n1 c1, .slice b1 m1 d1] 24))) (below_alloc ((w.alloc (.cells #[.bool s0, .slice a0 n0 c0, .slice b0 m0 d0] 24)).alloc (.cells #[.bool s1, .slice a1 n1 c1, .slice b1 m1 d1] 24)) (.cells #[.bool s2, .slice a2 n2 c2, .slice b2 m2 d2] 24)))
  have A0 := Lib.hid (ha0.later HB.out)
  have B0 := Lib.hid (hb0.later HB.out)
  have A1 := Lib.hid (ha1.later HB.out)
  have B1 := Lib.hid (hb1.later HB.out)
  have A2 := Lib.hid (ha2.later HB.out)
  have B2 := Lib.hid (hb2.later HB.out)
  obtain ⟨hx0, hx1, hx2⟩ := boxes3_at9 w #[.bool s0, .slice a0 n0 c0, .slice b0 m0 d0] #[.bool s1, .slice a1 n1 c1, .slice b1 m1 d1] #[.bool s2, .slice a2 n2 c2, .slice b2 m2 d2] 24 24 24
  have X0 := Lib.hid hx0
  have X1 := Lib.hid hx1
  have X2 := Lib.hid hx2
  clear hx0 hx1 hx2
  obtain ⟨p0, hp0⟩ : ∃ p, qval s0 (val la0) (val lb0) = p := ⟨_, rfl⟩
  have lp0 : qlen p0 ≤ 7 := (Fr.of ha0 hb0 hn0 hm0 hp0).len
  have EQ0 := Lib.hid hp0
  obtain ⟨p1, hp1⟩ : ∃ p, qval s1 (val la1) (val lb1) = p := ⟨_, rfl⟩
  have lp1 : qlen p1 ≤ 7 := (Fr.of ha1 hb1 hn1 hm1 hp1).len
  have EQ1 := Lib.hid hp1
  obtain ⟨p2, hp2⟩ : ∃ p, qval s2 (val la2) (val lb2) = p := ⟨_, rfl⟩
  have lp2 : qlen p2 ≤ 7 := (Fr.of ha2 hb2 hn2 hm2 hp2).len
  have EQ2 := Lib.hid hp2
  rw [hp1] at h0
  have H0 := Lib.hid h0
  clear h0 ha0 hb0 hp0 ha1 hb1 hp1 ha2 hb2 hp2
  have hl0 : (decide ((6 : Int) < (n0 : Int)) || decide ((6 : Int) < (m0 : Int))) = false := by rw [decide_eq_false (by omega), decide_eq_false (by omega)]; rfl
  have hl1 : (decide ((6 : Int) < (n1 : Int)) || decide ((6 : Int) < (m1 : Int))) = false := by rw [decide_eq_false (by omega), decide_eq_false (by omega)]; rfl
  have hl2 : (decide ((6 : Int) < (n2 : Int)) || decide ((6 : Int) < (m2 : Int))) = false := by rw [decide_eq_false (by omega), decide_eq_false (by omega)]; rfl
  obtain ⟨u, hu⟩ : ∃ r, p0 + p1 = r := ⟨_, rfl⟩
  have lu : qlen u ≤ 20 := by rw [← hu]; have := qlen_add p0 p1; omega
  have Eu := Lib.hid hu
  clear hu
  obtain ⟨t, ht⟩ : ∃ r, p0 * p1 = r := ⟨_, rfl⟩
  have lt : qlen t ≤ 20 := by rw [← ht]; have := qlen_mul p0 p1; omega
  have Et := Lib.hid ht
  clear ht
  obtain ⟨u2, hu2⟩ : ∃ r, u + p2 = r := ⟨_, rfl⟩
  have lu2 : qlen u2 ≤ 40 := by rw [← hu2]; have := qlen_add u p2; omega
  have Eu2 := Lib.hid hu2
  clear hu2
  obtain ⟨v, hv⟩ : ∃ r, p2 + p1 = r := ⟨_, rfl⟩
  have lv : qlen v ≤ 20 := by rw [← hv]; have := qlen_add p2 p1; omega
  have Ev := Lib.hid hv
  clear hv
  obtain ⟨t2, ht2⟩ : ∃ r, t * p2 = r := ⟨_, rfl⟩
  have lt2 : qlen t2 ≤ 40 := by rw [← ht2]; have := qlen_mul t p2; omega
  have Et2 := Lib.hid ht2
  clear ht2
  obtain ⟨x, hx⟩ : ∃ r, p2 * p1 = r := ⟨_, rfl⟩
  have lx : qlen x ≤ 20 := by rw [← hx]; have := qlen_mul p2 p1; omega
  have Ex := Lib.hid hx
  clear hx
  obtain ⟨y, hy⟩ : ∃ r, p1 + p2 = r := ⟨_, rfl⟩
  have ly : qlen y ≤ 20 := by rw [← hy]; have := qlen_add p1 p2; omega
  have Ey := Lib.hid hy
  clear hy
  obtain ⟨z, hz⟩ : ∃ r, p0 * y = r := ⟨_, rfl⟩
  have lz : qlen z ≤ 40 := by rw [← hz]; have := qlen_mul p0 y; omega
  have Ez := Lib.hid hz
  clear hz
  obtain ⟨o, ho⟩ : ∃ r, p0 * p2 = r := ⟨_, rfl⟩
  have lo : qlen o ≤ 20 := by rw [← ho]; have := qlen_mul p0 p2; omega
  have Eo := Lib.hid ho
  clear ho
  obtain ⟨k, hk⟩ : ∃ r, t / p1 = r := ⟨_, rfl⟩
  have lk : qlen k ≤ 40 := by rw [← hk]; have := qlen_div t p1; omega
  have Ek := Lib.hid hk
  clear hk
  have F1 : Hid (p0 + v = u2) := Lib.hid (by rw [← Ev.out, ← Eu2.out, ← Eu.out]; exact field_add p0 p1 p2)
  have F2 : Hid (p0 * x = t2) := Lib.hid (by rw [← Ex.out, ← Et2.out, ← Et.out]; exact field_mul p0 p1 p2)
  have F3 : Hid (t + o = z) := Lib.hid (by rw [← Eo.out, ← Et.out, ← Ez.out, ← Ey.out]; exact field_mix p0 p1 p2)
  have F4 : Hid (u - p1 = p0) := Lib.hid (by rw [← Eu.out]; exact field_back p0 p1)
  obtain ⟨so, hso⟩ : ∃ s, s = sgn p1.num := ⟨_, rfl⟩
  have Hso := Lib.hid hso
  have hs0 : (so != 0) = false := by rw [hso]; rw [sgn_num_zero.2 H0.out]; rfl
  clear hso
  go_enter Try.func6, Try.ntmps6
  unfold frV
  obtain ⟨k0, k1, k2, k3, k4, k5, k6, k7, k8⟩ := cells_3_3_3 X0.out X1.out X2.out
  go_wp2_with fail
  refine (ref09_long s0 a0 n0 c0 b0 m0 d0 6 _).mono ?_
  rintro e w1 ⟨rfl, b⟩
  clear k0 k1 k2 k3 k4 k5 k6 k7 k8
  replace HB := Lib.hid (below_then HB.out b)
  replace X0 := Lib.hid (blk_later X0.out b)
  replace X1 := Lib.hid (blk_later X1.out b)
  replace X2 := Lib.hid (blk_later X2.out b)
  replace A0 := Lib.hid (A0.out.later b)
  replace B0 := Lib.hid (B0.out.later b)
  replace A1 := Lib.hid (A1.out.later b)
  replace B1 := Lib.hid (B1.out.later b)
  replace A2 := Lib.hid (A2.out.later b)
  replace B2 := Lib.hid (B2.out.later b)
  clear b
  rw [hl0]
  obtain ⟨k0, k1, k2, k3, k4, k5, k6, k7, k8⟩ := cells_3_3_3 X0.out X1.out X2.out
  go_wp2_with fail
  refine (ref09_long s1 a1 n1 c1 b1 m1 d1 6 _).mono ?_
  rintro e w2 ⟨rfl, b⟩
  clear k0 k1 k2 k3 k4 k5 k6 k7 k8
  replace HB := Lib.hid (below_then HB.out b)
  replace X0 := Lib.hid (blk_later X0.out b)
  replace X1 := Lib.hid (blk_later X1.out b)
  replace X2 := Lib.hid (blk_later X2.out b)
  replace A0 := Lib.hid (A0.out.later b)
  replace B0 := Lib.hid (B0.out.later b)
  replace A1 := Lib.hid (A1.out.later b)
  replace B1 := Lib.hid (B1.out.later b)
  replace A2 := Lib.hid (A2.out.later b)
  replace B2 := Lib.hid (B2.out.later b)
  clear b
  rw [hl1]
  obtain ⟨k0, k1, k2, k3, k4, k5, k6, k7, k8⟩ := cells_3_3_3 X0.out X1.out X2.out
  go_wp2_with fail
  refine (ref09_long s2 a2 n2 c2 b2 m2 d2 6 _).mono ?_
  rintro e w3 ⟨rfl, b⟩
  clear k0 k1 k2 k3 k4 k5 k6 k7 k8
  replace HB := Lib.hid (below_then HB.out b)
  replace X0 := Lib.hid (blk_later X0.out b)
  replace X1 := Lib.hid (blk_later X1.out b)
  replace X2 := Lib.hid (blk_later X2.out b)
  replace A0 := Lib.hid (A0.out.later b)
  replace B0 := Lib.hid (B0.out.later b)
  replace A1 := Lib.hid (A1.out.later b)
  replace B1 := Lib.hid (B1.out.later b)
  replace A2 := Lib.hid (A2.out.later b)
  replace B2 := Lib.hid (B2.out.later b)
  clear b
  rw [hl2]
  obtain ⟨k0, k1, k2, k3, k4, k5, k6, k7, k8⟩ := cells_3_3_3 X0.out X1.out X2.out
  go_wp2_with fail
  refine (law09_to s0 a0 n0 c0 b0 m0 d0 _).mono ?_
  rintro e w4 ⟨rfl, b⟩
  clear k0 k1 k2 k3 k4 k5 k6 k7 k8
  replace HB := Lib.hid (below_then HB.out b)
  replace X0 := Lib.hid (blk_later X0.out b)
  replace X1 := Lib.hid (blk_later X1.out b)
  replace X2 := Lib.hid (blk_later X2.out b)
  replace A0 := Lib.hid (A0.out.later b)
  replace B0 := Lib.hid (B0.out.later b)
  replace A1 := Lib.hid (A1.out.later b)
  replace B1 := Lib.hid (B1.out.later b)
  replace A2 := Lib.hid (A2.out.later b)
  replace B2 := Lib.hid (B2.out.later b)
  clear b
  unfold frV
  have P0 : Hid ((World.alloc w4 (.cells #[.bool s0, .slice a0 n0 c0, .slice b0 m0 d0] 34)).heap[w4.heap.size]? = some (.cells #[.bool s0, .slice a0 n0 c0, .slice b0 m0 d0] 34 (0, 0))) := Lib.hid (blk_new w4 _ _)
  replace HB := Lib.hid (below_then HB.out (below_alloc w4 (.cells #[.bool s0, .slice a0 n0 c0, .slice b0 m0 d0] 34)))
  replace X0 := Lib.hid (blk_later X0.out (below_alloc w4 (.cells #[.bool s0, .slice a0 n0 c0, .slice b0 m0 d0] 34)))
  replace X1 := Lib.hid (blk_later X1.out (below_alloc w4 (.cells #[.bool s0, .slice a0 n0 c0, .slice b0 m0 d0] 34)))
  replace X2 := Lib.hid (blk_later X2.out (below_alloc w4 (.cells #[.bool s0, .slice a0 n0 c0, .slice b0 m0 d0] 34)))
  replace A0 := Lib.hid (A0.out.later (below_alloc w4 (.cells #[.bool s0, .slice a0 n0 c0, .slice b0 m0 d0] 34)))
  replace B0 := Lib.hid (B0.out.later (below_alloc w4 (.cells #[.bool s0, .slice a0 n0 c0, .slice b0 m0 d0] 34)))
  replace A1 := Lib.hid (A1.out.later (below_alloc w4 (.cells #[.bool s0, .slice a0 n0 c0, .slice b0 m0 d0] 34)))
  replace B1 := Lib.hid (B1.out.later (below_alloc w4 (.cells #[.bool s0, .slice a0 n0 c0, .slice b0 m0 d0] 34)))
  replace A2 := Lib.hid (A2.out.later (below_alloc w4 (.cells #[.bool s0, .slice a0 n0 c0, .slice b0 m0 d0] 34)))
  replace B2 := Lib.hid (B2.out.later (below_alloc w4 (.cells #[.bool s0, .slice a0 n0 c0, .slice b0 m0 d0] 34)))
  obtain ⟨k0, k1, k2, k3, k4, k5, k6, k7, k8, k9, k10, k11⟩ := cells_3_3_3_3 X0.out X1.out X2.out P0.out
  go_wp2_with fail
  refine (law09_to s1 a1 n1 c1 b1 m1 d1 _).mono ?_
  rintro e w5 ⟨rfl, b⟩
  clear k0 k1 k2 k3 k4 k5 k6 k7 k8 k9 k10 k11
  replace HB := Lib.hid (below_then HB.out b)
  replace X0 := Lib.hid (blk_later X0.out b)
  replace X1 := Lib.hid (blk_later X1.out b)
  replace X2 := Lib.hid (blk_later X2.out b)
  replace P0 := Lib.hid (blk_later P0.out b)
  replace A0 := Lib.hid (A0.out.later b)
  replace B0 := Lib.hid (B0.out.later b)
  replace A1 := Lib.hid (A1.out.later b)
  replace B1 := Lib.hid (B1.out.later b)
  replace A2 := Lib.hid (A2.out.later b)
  replace B2 := Lib.hid (B2.out.later b)
  clear b
  unfold frV
  have P1 : Hid ((World.alloc w5 (.cells #[.bool s1, .slice a1 n1 c1, .slice b1 m1 d1] 34)).heap[w5.heap.size]? = some (.cells #[.bool s1, .slice a1 n1 c1, .slice b1 m1 d1] 34 (0, 0))) := Lib.hid (blk_new w5 _ _)
  replace HB := Lib.hid (below_then HB.out (below_alloc w5 (.cells #[.bool s1, .slice a1 n1 c1, .slice b1 m1 d1] 34)))
  replace X0 := Lib.hid (blk_later X0.out (below_alloc w5 (.cells #[.bool s1, .slice a1 n1 c1, .slice b1 m1 d1] 34)))
  replace X1 := Lib.hid (blk_later X1.out (below_alloc w5 (.cells #[.bool s1, .slice a1 n1 c1, .slice b1 m1 d1] 34)))
  replace X2 := Lib.hid (blk_later X2.out (below_alloc w5 (.cells #[.bool s1, .slice a1 n1 c1, .slice b1 m1 d1] 34)))
  replace P0 := Lib.hid (blk_later P0.out (below_alloc w5 (.cells #[.bool s1, .slice a1 n1 c1, .slice b1 m1 d1] 34)))
  replace A0 := Lib.hid (A0.out.later (below_alloc w5 (.cells #[.bool s1, .slice a1 n1 c1, .slice b1 m1 d1] 34)))
  replace B0 := Lib.hid (B0.out.later (below_alloc w5 (.cells #[.bool s1, .slice a1 n1 c1, .slice b1 m1 d1] 34)))
  replace A1 := Lib.hid (A1.out.later (below_alloc w5 (.cells #[.bool s1, .slice a1 n1 c1, .slice b1 m1 d1] 34)))
  replace B1 := Lib.hid (B1.out.later (below_alloc w5 (.cells #[.bool s1, .slice a1 n1 c1, .slice b1 m1 d1] 34)))
  replace A2 := Lib.hid (A2.out.later (below_alloc w5 (.cells #[.bool s1, .slice a1 n1 c1, .slice b1 m1 d1] 34)))
  replace B2 := Lib.hid (B2.out.later (below_alloc w5 (.cells #[.bool s1, .slice a1 n1 c1, .slice b1 m1 d1] 34)))
  obtain ⟨k0, k1, k2, k3, k4, k5, k6, k7, k8, k9, k10, k11, k12, k13, k14⟩ := cells_3_3_3_3_3 X0.out X1.out X2.out P0.out P1.out
  go_wp2_with fail
  refine (law09_to s2 a2 n2 c2 b2 m2 d2 _).mono ?_
  rintro e w6 ⟨rfl, b⟩
  clear k0 k1 k2 k3 k4 k5 k6 k7 k8 k9 k10 k11 k12 k13 k14
  replace HB := Lib.hid (below_then HB.out b)
  replace X0 := Lib.hid (blk_later X0.out b)
  replace X1 := Lib.hid (blk_later X1.out b)
  replace X2 := Lib.hid (blk_later X2.out b)
  replace P0 := Lib.hid (blk_later P0.out b)
  replace P1 := Lib.hid (blk_later P1.out b)
  replace A0 := Lib.hid (A0.out.later b)
  replace B0 := Lib.hid (B0.out.later b)
  replace A1 := Lib.hid (A1.out.later b)
  replace B1 := Lib.hid (B1.out.later b)
  replace A2 := Lib.hid (A2.out.later b)
  replace B2 := Lib.hid (B2.out.later b)
  clear b
  unfold frV
  have P2 : Hid ((World.alloc w6 (.cells #[.bool s2, .slice a2 n2 c2, .slice b2 m2 d2] 34)).heap[w6.heap.size]? = some (.cells #[.bool s2, .slice a2 n2 c2, .slice b2 m2 d2] 34 (0, 0))) := Lib.hid (blk_new w6 _ _)
  replace HB := Lib.hid (below_then HB.out (below_alloc w6 (.cells #[.bool s2, .slice a2 n2 c2, .slice b2 m2 d2] 34)))
  replace X0 := Lib.hid (blk_later X0.out (below_alloc w6 (.cells #[.bool s2, .slice a2 n2 c2, .slice b2 m2 d2] 34)))
  replace X1 := Lib.hid (blk_later X1.out (below_alloc w6 (.cells #[.bool s2, .slice a2 n2 c2, .slice b2 m2 d2] 34)))
  replace X2 := Lib.hid (blk_later X2.out (below_alloc w6 (.cells #[.bool s2, .slice a2 n2 c2, .slice b2 m2 d2] 34)))
  replace P0 := Lib.hid (blk_later P0.out (below_alloc w6 (.cells #[.bool s2, .slice a2 n2 c2, .slice b2 m2 d2] 34)))
  replace P1 := Lib.hid (blk_later P1.out (below_alloc w6 (.cells #[.bool s2, .slice a2 n2 c2, .slice b2 m2 d2] 34)))
  replace A0 := Lib.hid (A0.out.later (below_alloc w6 (.cells #[.bool s2, .slice a2 n2 c2, .slice b2 m2 d2] 34)))
  replace B0 := Lib.hid (B0.out.later (below_alloc w6 (.cells #[.bool s2, .slice a2 n2 c2, .slice b2 m2 d2] 34)))
  replace A1 := Lib.hid (A1.out.later (below_alloc w6 (.cells #[.bool s2, .slice a2 n2 c2, .slice b2 m2 d2] 34)))
  replace B1 := Lib.hid (B1.out.later (below_alloc w6 (.cells #[.bool s2, .slice a2 n2 c2, .slice b2 m2 d2] 34)))
  replace A2 := Lib.hid (A2.out.later (below_alloc w6 (.cells #[.bool s2, .slice a2 n2 c2, .slice b2 m2 d2] 34)))
  replace B2 := Lib.hid (B2.out.later (below_alloc w6 (.cells #[.bool s2, .slice a2 n2 c2, .slice b2 m2 d2] 34)))
  obtain ⟨k0, k1, k2, k3, k4, k5, k6, k7, k8⟩ := cells_3_3_3 P0.out P1.out P2.out
  go_wp2_with fail
  refine (S.add _ _ p0 p1 _ (Fr.of A0.out B0.out (by omega) (by omega) EQ0.out) (Fr.of A1.out B1.out (by omega) (by omega) EQ1.out)).mono ?_
  rintro e w7 ⟨a3, n3, c3, b3, m3, d3, rfl, h3, g3, b⟩
  clear k0 k1 k2 k3 k4 k5 k6 k7 k8
  replace HB := Lib.hid (below_then HB.out b)
  replace P0 := Lib.hid (blk_later P0.out b)
  replace P1 := Lib.hid (blk_later P1.out b)
  replace P2 := Lib.hid (blk_later P2.out b)
  replace A0 := Lib.hid (A0.out.later b)
  replace B0 := Lib.hid (B0.out.later b)
  replace A1 := Lib.hid (A1.out.later b)
  replace B1 := Lib.hid (B1.out.later b)
  replace A2 := Lib.hid (A2.out.later b)
  replace B2 := Lib.hid (B2.out.later b)
  clear b
  rw [Eu.out] at h3 g3 ⊢
  have hN3 : n3 ≤ qlen u := (by rw [← h3.len]; exact qlen_num _)
  have hM3 : m3 ≤ qlen u := (by rw [← g3.len]; exact qlen_den _)
  have R3 := Lib.hid h3
  have T3 := Lib.hid g3
  clear h3 g3
  unfold frV
  have SU : Hid ((World.alloc w7 (.cells #[.bool (zneg u.num), .slice a3 n3 c3, .slice b3 m3 d3] 34)).heap[w7.heap.size]? = some (.cells #[.bool (zneg u.num), .slice a3 n3 c3, .slice b3 m3 d3] 34 (0, 0))) := Lib.hid (blk_new w7 _ _)
  replace HB := Lib.hid (below_then HB.out (below_alloc w7 (.cells #[.bool (zneg u.num), .slice a3 n3 c3, .slice b3 m3 d3] 34)))
  replace P0 := Lib.hid (blk_later P0.out (below_alloc w7 (.cells #[.bool (zneg u.num), .slice a3 n3 c3, .slice b3 m3 d3] 34)))
  replace P1 := Lib.hid (blk_later P1.out (below_alloc w7 (.cells #[.bool (zneg u.num), .slice a3 n3 c3, .slice b3 m3 d3] 34)))
  replace P2 := Lib.hid (blk_later P2.out (below_alloc w7 (.cells #[.bool (zneg u.num), .slice a3 n3 c3, .slice b3 m3 d3] 34)))
  replace A0 := Lib.hid (A0.out.later (below_alloc w7 (.cells #[.bool (zneg u.num), .slice a3 n3 c3, .slice b3 m3 d3] 34)))
  replace B0 := Lib.hid (B0.out.later (below_alloc w7 (.cells #[.bool (zneg u.num), .slice a3 n3 c3, .slice b3 m3 d3] 34)))
  replace A1 := Lib.hid (A1.out.later (below_alloc w7 (.cells #[.bool (zneg u.num), .slice a3 n3 c3, .slice b3 m3 d3] 34)))
  replace B1 := Lib.hid (B1.out.later (below_alloc w7 (.cells #[.bool (zneg u.num), .slice a3 n3 c3, .slice b3 m3 d3] 34)))
  replace A2 := Lib.hid (A2.out.later (below_alloc w7 (.cells #[.bool (zneg u.num), .slice a3 n3 c3, .slice b3 m3 d3] 34)))
  replace B2 := Lib.hid (B2.out.later (below_alloc w7 (.cells #[.bool (zneg u.num), .slice a3 n3 c3, .slice b3 m3 d3] 34)))
  replace R3 := Lib.hid (R3.out.later (below_alloc w7 (.cells #[.bool (zneg u.num), .slice a3 n3 c3, .slice b3 m3 d3] 34)))
  replace T3 := Lib.hid (T3.out.later (below_alloc w7 (.cells #[.bool (zneg u.num), .slice a3 n3 c3, .slice b3 m3 d3] 34)))
  obtain ⟨k0, k1, k2, k3, k4, k5, k6, k7, k8, k9, k10, k11⟩ := cells_3_3_3_3 P0.out P1.out P2.out SU.out
  go_wp2_with fail
  refine (S.mul _ _ p0 p1 _ (Fr.of A0.out B0.out (by omega) (by omega) EQ0.out) (Fr.of A1.out B1.out (by omega) (by omega) EQ1.out)).mono ?_
  rintro e w8 ⟨a4, n4, c4, b4, m4, d4, rfl, h4, g4, b⟩
  clear k0 k1 k2 k3 k4 k5 k6 k7 k8 k9 k10 k11
  replace HB := Lib.hid (below_then HB.out b)
  replace P0 := Lib.hid (blk_later P0.out b)
  replace P1 := Lib.hid (blk_later P1.out b)
  replace P2 := Lib.hid (blk_later P2.out b)
  replace SU := Lib.hid (blk_later SU.out b)
  replace A0 := Lib.hid (A0.out.later b)
  replace B0 := Lib.hid (B0.out.later b)
  replace A1 := Lib.hid (A1.out.later b)
  replace B1 := Lib.hid (B1.out.later b)
  replace A2 := Lib.hid (A2.out.later b)
  replace B2 := Lib.hid (B2.out.later b)
  replace R3 := Lib.hid (R3.out.later b)
  replace T3 := Lib.hid (T3.out.later b)
  clear b
  rw [Et.out] at h4 g4 ⊢
  have hN4 : n4 ≤ qlen t := (by rw [← h4.len]; exact qlen_num _)
  have hM4 : m4 ≤ qlen t := (by rw [← g4.len]; exact qlen_den _)
  have R4 := Lib.hid h4
  have T4 := Lib.hid g4
  clear h4 g4
  unfold frV
  have TI : Hid ((World.alloc w8 (.cells #[.bool (zneg t.num), .slice a4 n4 c4, .slice b4 m4 d4] 34)).heap[w8.heap.size]? = some (.cells #[.bool (zneg t.num), .slice a4 n4 c4, .slice b4 m4 d4] 34 (0, 0))) := Lib.hid (blk_new w8 _ _)
  replace HB := Lib.hid (below_then HB.out (below_alloc w8 (.cells #[.bool (zneg t.num), .slice a4 n4 c4, .slice b4 m4 d4] 34)))
  replace P0 := Lib.hid (blk_later P0.out (below_alloc w8 (.cells #[.bool (zneg t.num), .slice a4 n4 c4, .slice b4 m4 d4] 34)))
  replace P1 := Lib.hid (blk_later P1.out (below_alloc w8 (.cells #[.bool (zneg t.num), .slice a4 n4 c4, .slice b4 m4 d4] 34)))
  replace P2 := Lib.hid (blk_later P2.out (below_alloc w8 (.cells #[.bool (zneg t.num), .slice a4 n4 c4, .slice b4 m4 d4] 34)))
  replace SU := Lib.hid (blk_later SU.out (below_alloc w8 (.cells #[.bool (zneg t.num), .slice a4 n4 c4, .slice b4 m4 d4] 34)))
  replace A0 := Lib.hid (A0.out.later (below_alloc w8 (.cells #[.bool (zneg t.num), .slice a4 n4 c4, .slice b4 m4 d4] 34)))
  replace B0 := Lib.hid (B0.out.later (below_alloc w8 (.cells #[.bool (zneg t.num), .slice a4 n4 c4, .slice b4 m4 d4] 34)))
  replace A1 := Lib.hid (A1.out.later (below_alloc w8 (.cells #[.bool (zneg t.num), .slice a4 n4 c4, .slice b4 m4 d4] 34)))
  replace B1 := Lib.hid (B1.out.later (below_alloc w8 (.cells #[.bool (zneg t.num), .slice a4 n4 c4, .slice b4 m4 d4] 34)))
  replace A2 := Lib.hid (A2.out.later (below_alloc w8 (.cells #[.bool (zneg t.num), .slice a4 n4 c4, .slice b4 m4 d4] 34)))
  replace B2 := Lib.hid (B2.out.later (below_alloc w8 (.cells #[.bool (zneg t.num), .slice a4 n4 c4, .slice b4 m4 d4] 34)))
  replace R3 := Lib.hid (R3.out.later (below_alloc w8 (.cells #[.bool (zneg t.num), .slice a4 n4 c4, .slice b4 m4 d4] 34)))
  replace T3 := Lib.hid (T3.out.later (below_alloc w8 (.cells #[.bool (zneg t.num), .slice a4 n4 c4, .slice b4 m4 d4] 34)))
  replace R4 := Lib.hid (R4.out.later (below_alloc w8 (.cells #[.bool (zneg t.num), .slice a4 n4 c4, .slice b4 m4 d4] 34)))
  replace T4 := Lib.hid (T4.out.later (below_alloc w8 (.cells #[.bool (zneg t.num), .slice a4 n4 c4, .slice b4 m4 d4] 34)))
  obtain ⟨k0, k1, k2, k3, k4, k5, k6, k7, k8, k9, k10, k11, k12, k13, k14⟩ := cells_3_3_3_3_3 P0.out P1.out P2.out SU.out TI.out
  go_wp2
  clear k0 k1 k2 k3 k4 k5 k6 k7 k8 k9 k10 k11 k12 k13 k14
  generalize (w8.alloc (.cells #[.bool (zneg t.num), .slice a4 n4 c4, .slice b4 m4 d4] 34)) = W at *
  replace HB := Lib.hid (below_then HB.out ((Below.refl _ _).drew : Below W.heap.size W W.drew))
  replace P0 : Hid (W.drew.heap[w4.heap.size]? = _) := Lib.hid P0.out
  replace P1 : Hid (W.drew.heap[w5.heap.size]? = _) := Lib.hid P1.out
  replace P2 : Hid (W.drew.heap[w6.heap.size]? = _) := Lib.hid P2.out
  replace SU : Hid (W.drew.heap[w7.heap.size]? = _) := Lib.hid SU.out
  replace TI : Hid (W.drew.heap[w8.heap.size]? = _) := Lib.hid TI.out
  replace A0 := Lib.hid (A0.out.later ((Below.refl _ _).drew : Below W.heap.size W W.drew))
  replace B0 := Lib.hid (B0.out.later ((Below.refl _ _).drew : Below W.heap.size W W.drew))
  replace A1 := Lib.hid (A1.out.later ((Below.refl _ _).drew : Below W.heap.size W W.drew))
  replace B1 := Lib.hid (B1.out.later ((Below.refl _ _).drew : Below W.heap.size W W.drew))
  replace A2 := Lib.hid (A2.out.later ((Below.refl _ _).drew : Below W.heap.size W W.drew))
  replace B2 := Lib.hid (B2.out.later ((Below.refl _ _).drew : Below W.heap.size W W.drew))
  replace R3 := Lib.hid (R3.out.later ((Below.refl _ _).drew : Below W.heap.size W W.drew))
  replace T3 := Lib.hid (T3.out.later ((Below.refl _ _).drew : Below W.heap.size W W.drew))
  replace R4 := Lib.hid (R4.out.later ((Below.refl _ _).drew : Below W.heap.size W W.drew))
  replace T4 := Lib.hid (T4.out.later ((Below.refl _ _).drew : Below W.heap.size W W.drew))
  have rSn := cells_3_3_3_3_3 P0.out P1.out P2.out SU.out TI.out
  go_region_held3 (fun w' => w'.cell? ⟨w4.heap.size, 0, none⟩ = some (.bool s0) ∧ w'.cell? ⟨w4.heap.size, 1, none⟩ = some (.slice a0 n0 c0) ∧ w'.cell? ⟨w4.heap.size, 2, none⟩ = some (.slice b0 m0 d0) ∧ w'.cell? ⟨w5.heap.size, 0, none⟩ = some (.bool s1) ∧ w'.cell? ⟨w5.heap.size, 1, none⟩ = some (.slice a1 n1 c1) ∧ w'.cell? ⟨w5.heap.size, 2, none⟩ = some (.slice b1 m1 d1) ∧ w'.cell? ⟨w6.heap.size, 0, none⟩ = some (.bool s2) ∧ w'.cell? ⟨w6.heap.size, 1, none⟩ = some (.slice a2 n2 c2) ∧ w'.cell? ⟨w6.heap.size, 2, none⟩ = some (.slice b2 m2 d2) ∧ w'.cell? ⟨w7.heap.size, 0, none⟩ = some (.bool (zneg u.num)) ∧ w'.cell? ⟨w7.heap.size, 1, none⟩ = some (.slice a3 n3 c3) ∧ w'.cell? ⟨w7.heap.size, 2, none⟩ = some (.slice b3 m3 d3) ∧ w'.cell? ⟨w8.heap.size, 0, none⟩ = some (.bool (zneg t.num)) ∧ w'.cell? ⟨w8.heap.size, 1, none⟩ = some (.slice a4 n4 c4) ∧ w'.cell? ⟨w8.heap.size, 2, none⟩ = some (.slice b4 m4 d4)) (exact rSn)
    (first
    | (go_at_call 28; (first
      | (have rm11 := rM11; refine (S.add _ _ t o _ (Fr.right R4.out T4.out (by omega) (by omega)) (Fr.right R13.out T13.out (by omega) (by omega))).mono ?_; rintro e wr12 ⟨a14, n14, c14, b14, m14, d14, rfl, h14, g14, b⟩; replace HB := Lib.hid (below_then HB.out b); replace P0 := Lib.hid (blk_later P0.out b); replace P1 := Lib.hid (blk_later P1.out b); replace P2 := Lib.hid (blk_later P2.out b); replace SU := Lib.hid (blk_later SU.out b); replace TI := Lib.hid (blk_later TI.out b); replace A0 := Lib.hid (A0.out.later b); replace B0 := Lib.hid (B0.out.later b); replace A1 := Lib.hid (A1.out.later b); replace B1 := Lib.hid (B1.out.later b); replace A2 := Lib.hid (A2.out.later b); replace B2 := Lib.hid (B2.out.later b); replace R3 := Lib.hid (R3.out.later b); replace T3 := Lib.hid (T3.out.later b); replace R4 := Lib.hid (R4.out.later b); replace T4 := Lib.hid (T4.out.later b); replace R12 := Lib.hid (R12.out.later b); replace T12 := Lib.hid (T12.out.later b); clear R13; clear T13; have R14 := Lib.hid h14; have T14 := Lib.hid g14; rw [F3.out] at h14 g14 ⊢; have hN14 : n14 ≤ qlen z := (by rw [← h14.len]; exact qlen_num _); have hM14 : m14 ≤ qlen z := (by rw [← g14.len]; exact qlen_den _); replace R14 : Hid (Wd _ a14 n14 c14 (dg z.num.natAbs)) := Lib.hid h14; replace T14 : Hid (Wd _ b14 m14 d14 (dg z.den)) := Lib.hid g14; clear h14 g14; clear b; clear rSn; have rSn := cells_3_3_3_3_3 P0.out P1.out P2.out SU.out TI.out; clear rM11 rm11; have rM12 := True.intro)
      | (have rm8 := rM8; refine (S.add _ _ p1 p2 _ (Fr.of A1.out B1.out (by omega) (by omega) EQ1.out) (Fr.of A2.out B2.out (by omega) (by omega) EQ2.out)).mono ?_; rintro e wr9 ⟨a11, n11, c11, b11, m11, d11, rfl, h11, g11, b⟩; replace HB := Lib.hid (below_then HB.out b); replace P0 := Lib.hid (blk_later P0.out b); replace P1 := Lib.hid (blk_later P1.out b); replace P2 := Lib.hid (blk_later P2.out b); replace SU := Lib.hid (blk_later SU.out b); replace TI := Lib.hid (blk_later TI.out b); replace A0 := Lib.hid (A0.out.later b); replace B0 := Lib.hid (B0.out.later b); replace A1 := Lib.hid (A1.out.later b); replace B1 := Lib.hid (B1.out.later b); replace A2 := Lib.hid (A2.out.later b); replace B2 := Lib.hid (B2.out.later b); replace R3 := Lib.hid (R3.out.later b); replace T3 := Lib.hid (T3.out.later b); replace R4 := Lib.hid (R4.out.later b); replace T4 := Lib.hid (T4.out.later b); have R11 := Lib.hid h11; have T11 := Lib.hid g11; rw [Ey.out] at h11 g11 ⊢; have hN11 : n11 ≤ qlen y := (by rw [← h11.len]; exact qlen_num _); have hM11 : m11 ≤ qlen y := (by rw [← g11.len]; exact qlen_den _); replace R11 : Hid (Wd _ a11 n11 c11 (dg y.num.natAbs)) := Lib.hid h11; replace T11 : Hid (Wd _ b11 m11 d11 (dg y.den)) := Lib.hid g11; clear h11 g11; clear b; clear rSn; have rSn := cells_3_3_3_3_3 P0.out P1.out P2.out SU.out TI.out; clear rM8 rm8; have rM9 := True.intro)
      | (have rm2 := rM2; refine (S.add _ _ p0 v _ (Fr.of A0.out B0.out (by omega) (by omega) EQ0.out) (Fr.right R6.out T6.out (by omega) (by omega))).mono ?_; rintro e wr3 ⟨a7, n7, c7, b7, m7, d7, rfl, h7, g7, b⟩; replace HB := Lib.hid (below_then HB.out b); replace P0 := Lib.hid (blk_later P0.out b); replace P1 := Lib.hid (blk_later P1.out b); replace P2 := Lib.hid (blk_later P2.out b); replace SU := Lib.hid (blk_later SU.out b); replace TI := Lib.hid (blk_later TI.out b); replace A0 := Lib.hid (A0.out.later b); replace B0 := Lib.hid (B0.out.later b); replace A1 := Lib.hid (A1.out.later b); replace B1 := Lib.hid (B1.out.later b); replace A2 := Lib.hid (A2.out.later b); replace B2 := Lib.hid (B2.out.later b); replace R3 := Lib.hid (R3.out.later b); replace T3 := Lib.hid (T3.out.later b); replace R4 := Lib.hid (R4.out.later b); replace T4 := Lib.hid (T4.out.later b); replace R5 := Lib.hid (R5.out.later b); replace T5 := Lib.hid (T5.out.later b); clear R6; clear T6; have R7 := Lib.hid h7; have T7 := Lib.hid g7; rw [F1.out] at h7 g7 ⊢; have hN7 : n7 ≤ qlen u2 := (by rw [← h7.len]; exact qlen_num _); have hM7 : m7 ≤ qlen u2 := (by rw [← g7.len]; exact qlen_den _); replace R7 : Hid (Wd _ a7 n7 c7 (dg u2.num.natAbs)) := Lib.hid h7; replace T7 : Hid (Wd _ b7 m7 d7 (dg u2.den)) := Lib.hid g7; clear h7 g7; clear b; clear rSn; have rSn := cells_3_3_3_3_3 P0.out P1.out P2.out SU.out TI.out; clear rM2 rm2; have rM3 := True.intro)
      | (have rm1 := rM1; refine (S.add _ _ p2 p1 _ (Fr.of A2.out B2.out (by omega) (by omega) EQ2.out) (Fr.of A1.out B1.out (by omega) (by omega) EQ1.out)).mono ?_; rintro e wr2 ⟨a6, n6, c6, b6, m6, d6, rfl, h6, g6, b⟩; replace HB := Lib.hid (below_then HB.out b); replace P0 := Lib.hid (blk_later P0.out b); replace P1 := Lib.hid (blk_later P1.out b); replace P2 := Lib.hid (blk_later P2.out b); replace SU := Lib.hid (blk_later SU.out b); replace TI := Lib.hid (blk_later TI.out b); replace A0 := Lib.hid (A0.out.later b); replace B0 := Lib.hid (B0.out.later b); replace A1 := Lib.hid (A1.out.later b); replace B1 := Lib.hid (B1.out.later b); replace A2 := Lib.hid (A2.out.later b); replace B2 := Lib.hid (B2.out.later b); replace R3 := Lib.hid (R3.out.later b); replace T3 := Lib.hid (T3.out.later b); replace R4 := Lib.hid (R4.out.later b); replace T4 := Lib.hid (T4.out.later b); replace R5 := Lib.hid (R5.out.later b); replace T5 := Lib.hid (T5.out.later b); have R6 := Lib.hid h6; have T6 := Lib.hid g6; rw [Ev.out] at h6 g6 ⊢; have hN6 : n6 ≤ qlen v := (by rw [← h6.len]; exact qlen_num _); have hM6 : m6 ≤ qlen v := (by rw [← g6.len]; exact qlen_den _); replace R6 : Hid (Wd _ a6 n6 c6 (dg v.num.natAbs)) := Lib.hid h6; replace T6 : Hid (Wd _ b6 m6 d6 (dg v.den)) := Lib.hid g6; clear h6 g6; clear b; clear rSn; have rSn := cells_3_3_3_3_3 P0.out P1.out P2.out SU.out TI.out; clear rM1 rm1; have rM2 := True.intro)
      | (refine (S.add _ _ u p2 _ (Fr.right R3.out T3.out (by omega) (by omega)) (Fr.of A2.out B2.out (by omega) (by omega) EQ2.out)).mono ?_; rintro e wr1 ⟨a5, n5, c5, b5, m5, d5, rfl, h5, g5, b⟩; replace HB := Lib.hid (below_then HB.out b); replace P0 := Lib.hid (blk_later P0.out b); replace P1 := Lib.hid (blk_later P1.out b); replace P2 := Lib.hid (blk_later P2.out b); replace SU := Lib.hid (blk_later SU.out b); replace TI := Lib.hid (blk_later TI.out b); replace A0 := Lib.hid (A0.out.later b); replace B0 := Lib.hid (B0.out.later b); replace A1 := Lib.hid (A1.out.later b); replace B1 := Lib.hid (B1.out.later b); replace A2 := Lib.hid (A2.out.later b); replace B2 := Lib.hid (B2.out.later b); replace R3 := Lib.hid (R3.out.later b); replace T3 := Lib.hid (T3.out.later b); replace R4 := Lib.hid (R4.out.later b); replace T4 := Lib.hid (T4.out.later b); have R5 := Lib.hid h5; have T5 := Lib.hid g5; rw [Eu2.out] at h5 g5 ⊢; have hN5 : n5 ≤ qlen u2 := (by rw [← h5.len]; exact qlen_num _); have hM5 : m5 ≤ qlen u2 := (by rw [← g5.len]; exact qlen_den _); replace R5 : Hid (Wd _ a5 n5 c5 (dg u2.num.natAbs)) := Lib.hid h5; replace T5 : Hid (Wd _ b5 m5 d5 (dg u2.den)) := Lib.hid g5; clear h5 g5; clear b; clear rSn; have rSn := cells_3_3_3_3_3 P0.out P1.out P2.out SU.out TI.out; have rM1 := True.intro)))
    | (go_at_call 36; (first
      | (have rm12 := rM12; refine (law09_alike_yes (zneg z.num) a12 n12 c12 b12 m12 d12 (dg z.num.natAbs) (dg z.den) a14 n14 c14 b14 m14 d14 _ R12.out T12.out R14.out T14.out).mono ?_; rintro e wr13 ⟨rfl, b⟩; replace HB := Lib.hid (below_then HB.out b); replace P0 := Lib.hid (blk_later P0.out b); replace P1 := Lib.hid (blk_later P1.out b); replace P2 := Lib.hid (blk_later P2.out b); replace SU := Lib.hid (blk_later SU.out b); replace TI := Lib.hid (blk_later TI.out b); replace A0 := Lib.hid (A0.out.later b); replace B0 := Lib.hid (B0.out.later b); replace A1 := Lib.hid (A1.out.later b); replace B1 := Lib.hid (B1.out.later b); replace A2 := Lib.hid (A2.out.later b); replace B2 := Lib.hid (B2.out.later b); replace R3 := Lib.hid (R3.out.later b); replace T3 := Lib.hid (T3.out.later b); replace R4 := Lib.hid (R4.out.later b); replace T4 := Lib.hid (T4.out.later b); clear R12; clear T12; clear R14; clear T14; clear b; clear rSn; have rSn := cells_3_3_3_3_3 P0.out P1.out P2.out SU.out TI.out; clear rM12 rm12; have rM13 := True.intro)
      | (have rm7 := rM7; refine (law09_alike_yes (zneg t2.num) a8 n8 c8 b8 m8 d8 (dg t2.num.natAbs) (dg t2.den) a10 n10 c10 b10 m10 d10 _ R8.out T8.out R10.out T10.out).mono ?_; rintro e wr8 ⟨rfl, b⟩; replace HB := Lib.hid (below_then HB.out b); replace P0 := Lib.hid (blk_later P0.out b); replace P1 := Lib.hid (blk_later P1.out b); replace P2 := Lib.hid (blk_later P2.out b); replace SU := Lib.hid (blk_later SU.out b); replace TI := Lib.hid (blk_later TI.out b); replace A0 := Lib.hid (A0.out.later b); replace B0 := Lib.hid (B0.out.later b); replace A1 := Lib.hid (A1.out.later b); replace B1 := Lib.hid (B1.out.later b); replace A2 := Lib.hid (A2.out.later b); replace B2 := Lib.hid (B2.out.later b); replace R3 := Lib.hid (R3.out.later b); replace T3 := Lib.hid (T3.out.later b); replace R4 := Lib.hid (R4.out.later b); replace T4 := Lib.hid (T4.out.later b); clear R8; clear T8; clear R10; clear T10; clear b; clear rSn; have rSn := cells_3_3_3_3_3 P0.out P1.out P2.out SU.out TI.out; clear rM7 rm7; have rM8 := True.intro)
      | (have rm3 := rM3; refine (law09_alike_yes (zneg u2.num) a5 n5 c5 b5 m5 d5 (dg u2.num.natAbs) (dg u2.den) a7 n7 c7 b7 m7 d7 _ R5.out T5.out R7.out T7.out).mono ?_; rintro e wr4 ⟨rfl, b⟩; replace HB := Lib.hid (below_then HB.out b); replace P0 := Lib.hid (blk_later P0.out b); replace P1 := Lib.hid (blk_later P1.out b); replace P2 := Lib.hid (blk_later P2.out b); replace SU := Lib.hid (blk_later SU.out b); replace TI := Lib.hid (blk_later TI.out b); replace A0 := Lib.hid (A0.out.later b); replace B0 := Lib.hid (B0.out.later b); replace A1 := Lib.hid (A1.out.later b); replace B1 := Lib.hid (B1.out.later b); replace A2 := Lib.hid (A2.out.later b); replace B2 := Lib.hid (B2.out.later b); replace R3 := Lib.hid (R3.out.later b); replace T3 := Lib.hid (T3.out.later b); replace R4 := Lib.hid (R4.out.later b); replace T4 := Lib.hid (T4.out.later b); clear R5; clear T5; clear R7; clear T7; clear b; clear rSn; have rSn := cells_3_3_3_3_3 P0.out P1.out P2.out SU.out TI.out; clear rM3 rm3; have rM4 := True.intro)))
    | (go_at_call 32; (first
      | (have rm10 := rM10; refine (S.mul _ _ p0 p2 _ (Fr.of A0.out B0.out (by omega) (by omega) EQ0.out) (Fr.of A2.out B2.out (by omega) (by omega) EQ2.out)).mono ?_; rintro e wr11 ⟨a13, n13, c13, b13, m13, d13, rfl, h13, g13, b⟩; replace HB := Lib.hid (below_then HB.out b); replace P0 := Lib.hid (blk_later P0.out b); replace P1 := Lib.hid (blk_later P1.out b); replace P2 := Lib.hid (blk_later P2.out b); replace SU := Lib.hid (blk_later SU.out b); replace TI := Lib.hid (blk_later TI.out b); replace A0 := Lib.hid (A0.out.later b); replace B0 := Lib.hid (B0.out.later b); replace A1 := Lib.hid (A1.out.later b); replace B1 := Lib.hid (B1.out.later b); replace A2 := Lib.hid (A2.out.later b); replace B2 := Lib.hid (B2.out.later b); replace R3 := Lib.hid (R3.out.later b); replace T3 := Lib.hid (T3.out.later b); replace R4 := Lib.hid (R4.out.later b); replace T4 := Lib.hid (T4.out.later b); replace R12 := Lib.hid (R12.out.later b); replace T12 := Lib.hid (T12.out.later b); have R13 := Lib.hid h13; have T13 := Lib.hid g13; rw [Eo.out] at h13 g13 ⊢; have hN13 : n13 ≤ qlen o := (by rw [← h13.len]; exact qlen_num _); have hM13 : m13 ≤ qlen o := (by rw [← g13.len]; exact qlen_den _); replace R13 : Hid (Wd _ a13 n13 c13 (dg o.num.natAbs)) := Lib.hid h13; replace T13 : Hid (Wd _ b13 m13 d13 (dg o.den)) := Lib.hid g13; clear h13 g13; clear b; clear rSn; have rSn := cells_3_3_3_3_3 P0.out P1.out P2.out SU.out TI.out; clear rM10 rm10; have rM11 := True.intro)
      | (have rm9 := rM9; refine (S.mul _ _ p0 y _ (Fr.of A0.out B0.out (by omega) (by omega) EQ0.out) (Fr.right R11.out T11.out (by omega) (by omega))).mono ?_; rintro e wr10 ⟨a12, n12, c12, b12, m12, d12, rfl, h12, g12, b⟩; replace HB := Lib.hid (below_then HB.out b); replace P0 := Lib.hid (blk_later P0.out b); replace P1 := Lib.hid (blk_later P1.out b); replace P2 := Lib.hid (blk_later P2.out b); replace SU := Lib.hid (blk_later SU.out b); replace TI := Lib.hid (blk_later TI.out b); replace A0 := Lib.hid (A0.out.later b); replace B0 := Lib.hid (B0.out.later b); replace A1 := Lib.hid (A1.out.later b); replace B1 := Lib.hid (B1.out.later b); replace A2 := Lib.hid (A2.out.later b); replace B2 := Lib.hid (B2.out.later b); replace R3 := Lib.hid (R3.out.later b); replace T3 := Lib.hid (T3.out.later b); replace R4 := Lib.hid (R4.out.later b); replace T4 := Lib.hid (T4.out.later b); clear R11; clear T11; have R12 := Lib.hid h12; have T12 := Lib.hid g12; rw [Ez.out] at h12 g12 ⊢; have hN12 : n12 ≤ qlen z := (by rw [← h12.len]; exact qlen_num _); have hM12 : m12 ≤ qlen z := (by rw [← g12.len]; exact qlen_den _); replace R12 : Hid (Wd _ a12 n12 c12 (dg z.num.natAbs)) := Lib.hid h12; replace T12 : Hid (Wd _ b12 m12 d12 (dg z.den)) := Lib.hid g12; clear h12 g12; clear b; clear rSn; have rSn := cells_3_3_3_3_3 P0.out P1.out P2.out SU.out TI.out; clear rM9 rm9; have rM10 := True.intro)
      | (have rm6 := rM6; refine (S.mul _ _ p0 x _ (Fr.of A0.out B0.out (by omega) (by omega) EQ0.out) (Fr.right R9.out T9.out (by omega) (by omega))).mono ?_; rintro e wr7 ⟨a10, n10, c10, b10, m10, d10, rfl, h10, g10, b⟩; replace HB := Lib.hid (below_then HB.out b); replace P0 := Lib.hid (blk_later P0.out b); replace P1 := Lib.hid (blk_later P1.out b); replace P2 := Lib.hid (blk_later P2.out b); replace SU := Lib.hid (blk_later SU.out b); replace TI := Lib.hid (blk_later TI.out b); replace A0 := Lib.hid (A0.out.later b); replace B0 := Lib.hid (B0.out.later b); replace A1 := Lib.hid (A1.out.later b); replace B1 := Lib.hid (B1.out.later b); replace A2 := Lib.hid (A2.out.later b); replace B2 := Lib.hid (B2.out.later b); replace R3 := Lib.hid (R3.out.later b); replace T3 := Lib.hid (T3.out.later b); replace R4 := Lib.hid (R4.out.later b); replace T4 := Lib.hid (T4.out.later b); replace R8 := Lib.hid (R8.out.later b); replace T8 := Lib.hid (T8.out.later b); clear R9; clear T9; have R10 := Lib.hid h10; have T10 := Lib.hid g10; rw [F2.out] at h10 g10 ⊢; have hN10 : n10 ≤ qlen t2 := (by rw [← h10.len]; exact qlen_num _); have hM10 : m10 ≤ qlen t2 := (by rw [← g10.len]; exact qlen_den _); replace R10 : Hid (Wd _ a10 n10 c10 (dg t2.num.natAbs)) := Lib.hid h10; replace T10 : Hid (Wd _ b10 m10 d10 (dg t2.den)) := Lib.hid g10; clear h10 g10; clear b; clear rSn; have rSn := cells_3_3_3_3_3 P0.out P1.out P2.out SU.out TI.out; clear rM6 rm6; have rM7 := True.intro)
      | (have rm5 := rM5; refine (S.mul _ _ p2 p1 _ (Fr.of A2.out B2.out (by omega) (by omega) EQ2.out) (Fr.of A1.out B1.out (by omega) (by omega) EQ1.out)).mono ?_; rintro e wr6 ⟨a9, n9, c9, b9, m9, d9, rfl, h9, g9, b⟩; replace HB := Lib.hid (below_then HB.out b); replace P0 := Lib.hid (blk_later P0.out b); replace P1 := Lib.hid (blk_later P1.out b); replace P2 := Lib.hid (blk_later P2.out b); replace SU := Lib.hid (blk_later SU.out b); replace TI := Lib.hid (blk_later TI.out b); replace A0 := Lib.hid (A0.out.later b); replace B0 := Lib.hid (B0.out.later b); replace A1 := Lib.hid (A1.out.later b); replace B1 := Lib.hid (B1.out.later b); replace A2 := Lib.hid (A2.out.later b); replace B2 := Lib.hid (B2.out.later b); replace R3 := Lib.hid (R3.out.later b); replace T3 := Lib.hid (T3.out.later b); replace R4 := Lib.hid (R4.out.later b); replace T4 := Lib.hid (T4.out.later b); replace R8 := Lib.hid (R8.out.later b); replace T8 := Lib.hid (T8.out.later b); have R9 := Lib.hid h9; have T9 := Lib.hid g9; rw [Ex.out] at h9 g9 ⊢; have hN9 : n9 ≤ qlen x := (by rw [← h9.len]; exact qlen_num _); have hM9 : m9 ≤ qlen x := (by rw [← g9.len]; exact qlen_den _); replace R9 : Hid (Wd _ a9 n9 c9 (dg x.num.natAbs)) := Lib.hid h9; replace T9 : Hid (Wd _ b9 m9 d9 (dg x.den)) := Lib.hid g9; clear h9 g9; clear b; clear rSn; have rSn := cells_3_3_3_3_3 P0.out P1.out P2.out SU.out TI.out; clear rM5 rm5; have rM6 := True.intro)
      | (have rm4 := rM4; refine (S.mul _ _ t p2 _ (Fr.right R4.out T4.out (by omega) (by omega)) (Fr.of A2.out B2.out (by omega) (by omega) EQ2.out)).mono ?_; rintro e wr5 ⟨a8, n8, c8, b8, m8, d8, rfl, h8, g8, b⟩; replace HB := Lib.hid (below_then HB.out b); replace P0 := Lib.hid (blk_later P0.out b); replace P1 := Lib.hid (blk_later P1.out b); replace P2 := Lib.hid (blk_later P2.out b); replace SU := Lib.hid (blk_later SU.out b); replace TI := Lib.hid (blk_later TI.out b); replace A0 := Lib.hid (A0.out.later b); replace B0 := Lib.hid (B0.out.later b); replace A1 := Lib.hid (A1.out.later b); replace B1 := Lib.hid (B1.out.later b); replace A2 := Lib.hid (A2.out.later b); replace B2 := Lib.hid (B2.out.later b); replace R3 := Lib.hid (R3.out.later b); replace T3 := Lib.hid (T3.out.later b); replace R4 := Lib.hid (R4.out.later b); replace T4 := Lib.hid (T4.out.later b); have R8 := Lib.hid h8; have T8 := Lib.hid g8; rw [Et2.out] at h8 g8 ⊢; have hN8 : n8 ≤ qlen t2 := (by rw [← h8.len]; exact qlen_num _); have hM8 : m8 ≤ qlen t2 := (by rw [← g8.len]; exact qlen_den _); replace R8 : Hid (Wd _ a8 n8 c8 (dg t2.num.natAbs)) := Lib.hid h8; replace T8 : Hid (Wd _ b8 m8 d8 (dg t2.den)) := Lib.hid g8; clear h8 g8; clear b; clear rSn; have rSn := cells_3_3_3_3_3 P0.out P1.out P2.out SU.out TI.out; clear rM4 rm4; have rM5 := True.intro))))
  obtain ⟨vk0, vk1, vk2, vk3, vk4, vk5, vk6, vk7, vk8, vk9, vk10, vk11, vk12, vk13, vk14⟩ := cells_3_3_3_3_3 P0.out P1.out P2.out SU.out TI.out
  go_wp2_with fail
  refine (S.quo _ _ t p1 _ (Fr.right R4.out T4.out (by omega) (by omega)) (Fr.of A1.out B1.out (by omega) (by omega) EQ1.out)).mono ?_
  rintro e wv1 ⟨a15, n15, c15, b15, m15, d15, rfl, h15, g15, b⟩
  clear vk0 vk1 vk2 vk3 vk4 vk5 vk6 vk7 vk8 vk9 vk10 vk11 vk12 vk13 vk14
  replace HB := Lib.hid (below_then HB.out b)
  replace P0 := Lib.hid (blk_later P0.out b)
  replace P1 := Lib.hid (blk_later P1.out b)
  replace P2 := Lib.hid (blk_later P2.out b)
  replace SU := Lib.hid (blk_later SU.out b)
  replace TI := Lib.hid (blk_later TI.out b)
  replace A0 := Lib.hid (A0.out.later b)
  replace B0 := Lib.hid (B0.out.later b)
  replace A1 := Lib.hid (A1.out.later b)
  replace B1 := Lib.hid (B1.out.later b)
  replace A2 := Lib.hid (A2.out.later b)
  replace B2 := Lib.hid (B2.out.later b)
  replace R3 := Lib.hid (R3.out.later b)
  replace T3 := Lib.hid (T3.out.later b)
  replace R4 := Lib.hid (R4.out.later b)
  replace T4 := Lib.hid (T4.out.later b)
  clear b
  rw [Ek.out] at h15 g15 ⊢
  rw [show decide (p1 ≠ 0) = false from decide_eq_false (fun h => h H0.out)]
  have hN15 : n15 ≤ qlen k := (by rw [← h15.len]; exact qlen_num _)
  have hM15 : m15 ≤ qlen k := (by rw [← g15.len]; exact qlen_den _)
  have R15 := Lib.hid h15
  have T15 := Lib.hid g15
  clear h15 g15
  unfold frV
  have BK : Hid ((World.alloc wv1 (.cells #[.bool (zneg k.num), .slice a15 n15 c15, .slice b15 m15 d15] 34)).heap[wv1.heap.size]? = some (.cells #[.bool (zneg k.num), .slice a15 n15 c15, .slice b15 m15 d15] 34 (0, 0))) := Lib.hid (blk_new wv1 _ _)
  replace HB := Lib.hid (below_then HB.out (below_alloc wv1 (.cells #[.bool (zneg k.num), .slice a15 n15 c15, .slice b15 m15 d15] 34)))
  replace P0 := Lib.hid (blk_later P0.out (below_alloc wv1 (.cells #[.bool (zneg k.num), .slice a15 n15 c15, .slice b15 m15 d15] 34)))
  replace P1 := Lib.hid (blk_later P1.out (below_alloc wv1 (.cells #[.bool (zneg k.num), .slice a15 n15 c15, .slice b15 m15 d15] 34)))
  replace P2 := Lib.hid (blk_later P2.out (below_alloc wv1 (.cells #[.bool (zneg k.num), .slice a15 n15 c15, .slice b15 m15 d15] 34)))
  replace SU := Lib.hid (blk_later SU.out (below_alloc wv1 (.cells #[.bool (zneg k.num), .slice a15 n15 c15, .slice b15 m15 d15] 34)))
  replace TI := Lib.hid (blk_later TI.out (below_alloc wv1 (.cells #[.bool (zneg k.num), .slice a15 n15 c15, .slice b15 m15 d15] 34)))
  replace A0 := Lib.hid (A0.out.later (below_alloc wv1 (.cells #[.bool (zneg k.num), .slice a15 n15 c15, .slice b15 m15 d15] 34)))
  replace B0 := Lib.hid (B0.out.later (below_alloc wv1 (.cells #[.bool (zneg k.num), .slice a15 n15 c15, .slice b15 m15 d15] 34)))
  replace A1 := Lib.hid (A1.out.later (below_alloc wv1 (.cells #[.bool (zneg k.num), .slice a15 n15 c15, .slice b15 m15 d15] 34)))
  replace B1 := Lib.hid (B1.out.later (below_alloc wv1 (.cells #[.bool (zneg k.num), .slice a15 n15 c15, .slice b15 m15 d15] 34)))
  replace A2 := Lib.hid (A2.out.later (below_alloc wv1 (.cells #[.bool (zneg k.num), .slice a15 n15 c15, .slice b15 m15 d15] 34)))
  replace B2 := Lib.hid (B2.out.later (below_alloc wv1 (.cells #[.bool (zneg k.num), .slice a15 n15 c15, .slice b15 m15 d15] 34)))
  replace R3 := Lib.hid (R3.out.later (below_alloc wv1 (.cells #[.bool (zneg k.num), .slice a15 n15 c15, .slice b15 m15 d15] 34)))
  replace T3 := Lib.hid (T3.out.later (below_alloc wv1 (.cells #[.bool (zneg k.num), .slice a15 n15 c15, .slice b15 m15 d15] 34)))
  replace R4 := Lib.hid (R4.out.later (below_alloc wv1 (.cells #[.bool (zneg k.num), .slice a15 n15 c15, .slice b15 m15 d15] 34)))
  replace T4 := Lib.hid (T4.out.later (below_alloc wv1 (.cells #[.bool (zneg k.num), .slice a15 n15 c15, .slice b15 m15 d15] 34)))
  replace R15 := Lib.hid (R15.out.later (below_alloc wv1 (.cells #[.bool (zneg k.num), .slice a15 n15 c15, .slice b15 m15 d15] 34)))
  replace T15 := Lib.hid (T15.out.later (below_alloc wv1 (.cells #[.bool (zneg k.num), .slice a15 n15 c15, .slice b15 m15 d15] 34)))
  obtain ⟨vk0, vk1, vk2, vk3, vk4, vk5, vk6, vk7, vk8, vk9, vk10, vk11, vk12, vk13, vk14, vk15, vk16, vk17⟩ := cells_3_3_3_3_3_3 P0.out P1.out P2.out SU.out TI.out BK.out
  go_wp2
  clear vk0 vk1 vk2 vk3 vk4 vk5 vk6 vk7 vk8 vk9 vk10 vk11 vk12 vk13 vk14 vk15 vk16 vk17
  generalize (wv1.alloc (.cells #[.bool (zneg k.num), .slice a15 n15 c15, .slice b15 m15 d15] 34)) = V at *
  replace HB := Lib.hid (below_then HB.out ((Below.refl _ _).drew : Below V.heap.size V V.drew))
  replace P0 : Hid (V.drew.heap[w4.heap.size]? = _) := Lib.hid P0.out
  replace P1 : Hid (V.drew.heap[w5.heap.size]? = _) := Lib.hid P1.out
  replace SU : Hid (V.drew.heap[w7.heap.size]? = _) := Lib.hid SU.out
  replace BK : Hid (V.drew.heap[wv1.heap.size]? = _) := Lib.hid BK.out
  replace A0 := Lib.hid (A0.out.later ((Below.refl _ _).drew : Below V.heap.size V V.drew))
  replace B0 := Lib.hid (B0.out.later ((Below.refl _ _).drew : Below V.heap.size V V.drew))
  replace A1 := Lib.hid (A1.out.later ((Below.refl _ _).drew : Below V.heap.size V V.drew))
  replace B1 := Lib.hid (B1.out.later ((Below.refl _ _).drew : Below V.heap.size V V.drew))
  replace R3 := Lib.hid (R3.out.later ((Below.refl _ _).drew : Below V.heap.size V V.drew))
  replace T3 := Lib.hid (T3.out.later ((Below.refl _ _).drew : Below V.heap.size V V.drew))
  replace R15 := Lib.hid (R15.out.later ((Below.refl _ _).drew : Below V.heap.size V V.drew))
  replace T15 := Lib.hid (T15.out.later ((Below.refl _ _).drew : Below V.heap.size V V.drew))
  have sSn := cells_3_3_3_3 P0.out P1.out SU.out BK.out
  refine wp_region_held_drew (S := fun w' => w'.cell? ⟨w4.heap.size, 0, none⟩ = some (.bool s0) ∧ w'.cell? ⟨w4.heap.size, 1, none⟩ = some (.slice a0 n0 c0) ∧ w'.cell? ⟨w4.heap.size, 2, none⟩ = some (.slice b0 m0 d0) ∧ w'.cell? ⟨w5.heap.size, 0, none⟩ = some (.bool s1) ∧ w'.cell? ⟨w5.heap.size, 1, none⟩ = some (.slice a1 n1 c1) ∧ w'.cell? ⟨w5.heap.size, 2, none⟩ = some (.slice b1 m1 d1) ∧ w'.cell? ⟨w7.heap.size, 0, none⟩ = some (.bool (zneg u.num)) ∧ w'.cell? ⟨w7.heap.size, 1, none⟩ = some (.slice a3 n3 c3) ∧ w'.cell? ⟨w7.heap.size, 2, none⟩ = some (.slice b3 m3 d3) ∧ w'.cell? ⟨wv1.heap.size, 0, none⟩ = some (.bool (zneg k.num)) ∧ w'.cell? ⟨wv1.heap.size, 1, none⟩ = some (.slice a15 n15 c15) ∧ w'.cell? ⟨wv1.heap.size, 2, none⟩ = some (.slice b15 m15 d15)) (by kernel_rfl) sSn (fun hHeld => ?_)
  refine' wpAnyH_take (i := 0) (oi := _) (v := _) ?hi0 (by kernel_rfl) (by kernel_rfl) (by kernel_rfl) ?hQ0 (Or.inl ⟨?hw0, ?hy0⟩) (by assumption) ?rest0
  case hi0 => simp only [List.getElem?_toArray, List.getElem?_cons_zero]; exact rfl
  case hQ0 => exact fun _ _ _ h => h
  case hw0 => rfl
  case hy0 => first | (intro w hSw; (try dsimp only at hSw); go_simp; done) | (intro w hSw; (try dsimp only at hSw); go_simp; with_reducible rfl)
  simp only [Act.put, List.setIfInBounds_toArray, List.set_cons_zero, List.set_cons_succ]
  refine' wpAnyH_take (i := 1) (oi := _) (v := _) ?hi1 (by kernel_rfl) (by kernel_rfl) (by kernel_rfl) ?hQ1 (Or.inl ⟨?hw1, ?hy1⟩) (by assumption) ?rest1
  case hi1 => simp only [List.getElem?_toArray, List.getElem?_cons_succ, List.getElem?_cons_zero]; exact rfl
  case hQ1 => exact fun _ _ _ h => h
  case hw1 => rfl
  case hy1 => first | (intro w hSw; (try dsimp only at hSw); go_simp; done) | (intro w hSw; (try dsimp only at hSw); go_simp; with_reducible rfl)
  simp only [Act.put, List.setIfInBounds_toArray, List.set_cons_zero, List.set_cons_succ]
  refine' wpAnyH_take (i := 3) (oi := _) (v := _) ?hi3 (by kernel_rfl) (by kernel_rfl) (by kernel_rfl) ?hQ3 (Or.inl ⟨?hw3, ?hy3⟩) (by assumption) ?rest3
  case hi3 => simp only [List.getElem?_toArray, List.getElem?_cons_succ, List.getElem?_cons_zero]; exact rfl
  case hQ3 => exact fun _ _ _ h => h
  case hw3 => rfl
  case hy3 => first | (intro w hSw; (try dsimp only at hSw); go_simp; done) | (intro w hSw; (try dsimp only at hSw); go_simp; with_reducible rfl)
  simp only [Act.put, List.setIfInBounds_toArray, List.set_cons_zero, List.set_cons_succ]
  refine wpAnyH_ready (rs := [2]) (by kernel_rfl) (by simp) ?_
  refine' AllReadyH.cons (o := _) ?ho2 ?step2 AllReadyH.nil
  case ho2 => simp only [List.getElem?_toArray, List.getElem?_cons_succ, List.getElem?_cons_zero]; exact rfl
  intro K hK
  go_simp
  refine (S.sub _ _ u p1 _ (Fr.right R3.out T3.out (by omega) (by omega)) (Fr.of A1.out B1.out (by omega) (by omega) EQ1.out)).mono ?_
  rintro e ws1 ⟨a16, n16, c16, b16, m16, d16, rfl, h16, g16, b⟩
  replace HB := Lib.hid (below_then HB.out b)
  replace P0 := Lib.hid (blk_later P0.out b)
  replace P1 := Lib.hid (blk_later P1.out b)
  replace SU := Lib.hid (blk_later SU.out b)
  replace BK := Lib.hid (blk_later BK.out b)
  replace A0 := Lib.hid (A0.out.later b)
  replace B0 := Lib.hid (B0.out.later b)
  replace A1 := Lib.hid (A1.out.later b)
  replace B1 := Lib.hid (B1.out.later b)
  replace R3 := Lib.hid (R3.out.later b)
  replace T3 := Lib.hid (T3.out.later b)
  replace R15 := Lib.hid (R15.out.later b)
  replace T15 := Lib.hid (T15.out.later b)
  have R16 := Lib.hid h16
  have T16 := Lib.hid g16
  rw [F4.out] at h16 g16 ⊢
  have hN16 : n16 ≤ qlen p0 := (by rw [← h16.len]; exact qlen_num _)
  have hM16 : m16 ≤ qlen p0 := (by rw [← g16.len]; exact qlen_den _)
  replace R16 : Hid (Wd _ a16 n16 c16 (dg p0.num.natAbs)) := Lib.hid h16
  replace T16 : Hid (Wd _ b16 m16 d16 (dg p0.den)) := Lib.hid g16
  clear h16 g16
  clear b hHeld sSn
  have sSn := cells_3_3_3_3 P0.out P1.out SU.out BK.out
  try go_wp2_with fail
  refine hK.out _ _ sSn (fun hHeld => ?_)
  clear hK K
  refine wpAnyH_ready (rs := [4]) (by kernel_rfl) (by simp) ?_
  refine' AllReadyH.cons (o := _) ?ho4 ?step4 AllReadyH.nil
  case ho4 => simp only [List.getElem?_toArray, List.getElem?_cons_succ, List.getElem?_cons_zero]; exact rfl
  intro K hK
  go_simp
  refine (S.norm _ p0 _ (Fr.of A0.out B0.out (by omega) (by omega) EQ0.out)).mono ?_
  rintro e ws2 ⟨a17, n17, c17, b17, m17, d17, rfl, h17, g17, b⟩
  replace HB := Lib.hid (below_then HB.out b)
  replace P0 := Lib.hid (blk_later P0.out b)
  replace P1 := Lib.hid (blk_later P1.out b)
  replace SU := Lib.hid (blk_later SU.out b)
  replace BK := Lib.hid (blk_later BK.out b)
  replace A0 := Lib.hid (A0.out.later b)
  replace B0 := Lib.hid (B0.out.later b)
  replace A1 := Lib.hid (A1.out.later b)
  replace B1 := Lib.hid (B1.out.later b)
  replace R3 := Lib.hid (R3.out.later b)
  replace T3 := Lib.hid (T3.out.later b)
  replace R15 := Lib.hid (R15.out.later b)
  replace T15 := Lib.hid (T15.out.later b)
  replace R16 := Lib.hid (R16.out.later b)
  replace T16 := Lib.hid (T16.out.later b)
  have R17 := Lib.hid h17
  have T17 := Lib.hid g17
  have hN17 : n17 ≤ qlen p0 := (by rw [← h17.len]; exact qlen_num _)
  have hM17 : m17 ≤ qlen p0 := (by rw [← g17.len]; exact qlen_den _)
  clear h17 g17
  clear b hHeld sSn
  have sSn := cells_3_3_3_3 P0.out P1.out SU.out BK.out
  try go_wp2_with fail
  refine hK.out _ _ sSn (fun hHeld => ?_)
  clear hK K
  refine wpAnyH_ready (rs := [5]) (by kernel_rfl) (by simp) ?_
  refine' AllReadyH.cons (o := _) ?ho5 ?step5 AllReadyH.nil
  case ho5 => simp only [List.getElem?_toArray, List.getElem?_cons_succ, List.getElem?_cons_zero]; exact rfl
  intro K hK
  go_simp
  refine (law09_alike_yes (zneg p0.num) a16 n16 c16 b16 m16 d16 (dg p0.num.natAbs) (dg p0.den) a17 n17 c17 b17 m17 d17 _ R16.out T16.out R17.out T17.out).mono ?_
  rintro e ws3 ⟨rfl, b⟩
  replace HB := Lib.hid (below_then HB.out b)
  replace P0 := Lib.hid (blk_later P0.out b)
  replace P1 := Lib.hid (blk_later P1.out b)
  replace SU := Lib.hid (blk_later SU.out b)
  replace BK := Lib.hid (blk_later BK.out b)
  replace A0 := Lib.hid (A0.out.later b)
  replace B0 := Lib.hid (B0.out.later b)
  replace A1 := Lib.hid (A1.out.later b)
  replace B1 := Lib.hid (B1.out.later b)
  replace R3 := Lib.hid (R3.out.later b)
  replace T3 := Lib.hid (T3.out.later b)
  replace R15 := Lib.hid (R15.out.later b)
  replace T15 := Lib.hid (T15.out.later b)
  clear R16
  clear T16
  clear R17
  clear T17
  clear b hHeld sSn
  have sSn := cells_3_3_3_3 P0.out P1.out SU.out BK.out
  try go_wp2_with fail
  refine hK.out _ _ sSn (fun hHeld => ?_)
  clear hK K
  refine' wpAnyH_take (i := 6) (oi := _) (v := _) ?hi6 (by kernel_rfl) (by kernel_rfl) (by kernel_rfl) ?hQ6 (Or.inl ⟨?hw6, ?hy6⟩) (by assumption) ?rest6
  case hi6 => simp only [List.getElem?_toArray, List.getElem?_cons_succ, List.getElem?_cons_zero]; exact rfl
  case hQ6 => exact fun _ _ _ h => h
  case hw6 => rfl
  case hy6 => first | (intro w hSw; (try dsimp only at hSw); go_simp; done) | (intro w hSw; (try dsimp only at hSw); go_simp; with_reducible rfl)
  simp only [Act.put, List.setIfInBounds_toArray, List.set_cons_zero, List.set_cons_succ]
  refine' wpAnyH_take (i := 7) (oi := _) (v := _) ?hi7 (by kernel_rfl) (by kernel_rfl) (by kernel_rfl) ?hQ7 (Or.inl ⟨?hw7, ?hy7⟩) (by assumption) ?rest7
  case hi7 => simp only [List.getElem?_toArray, List.getElem?_cons_succ, List.getElem?_cons_zero]; exact rfl
  case hQ7 => exact fun _ _ _ h => h
  case hw7 => rfl
  case hy7 => first | (intro w hSw; (try dsimp only at hSw); go_simp; done) | (intro w hSw; (try dsimp only at hSw); go_simp; with_reducible rfl)
  simp only [Act.put, List.setIfInBounds_toArray, List.set_cons_zero, List.set_cons_succ]
  refine' wpAnyH_take (i := 8) (oi := _) (v := _) ?hi8 (by kernel_rfl) (by kernel_rfl) (by kernel_rfl) ?hQ8 (Or.inl ⟨?hw8, ?hy8⟩) (by assumption) ?rest8
  case hi8 => simp only [List.getElem?_toArray, List.getElem?_cons_succ, List.getElem?_cons_zero]; exact rfl
  case hQ8 => exact fun _ _ _ h => h
  case hw8 => rfl
  case hy8 => first | (intro w hSw; (try dsimp only at hSw); go_simp; done) | (intro w hSw; (try dsimp only at hSw); go_simp; with_reducible rfl)
  simp only [Act.put, List.setIfInBounds_toArray, List.set_cons_zero, List.set_cons_succ]
  refine wpAnyH_ready (rs := [9]) (by kernel_rfl) (by simp) ?_
  refine' AllReadyH.cons (o := _) ?ho9 ?step9 AllReadyH.nil
  case ho9 => simp only [List.getElem?_toArray, List.getElem?_cons_succ, List.getElem?_cons_zero]; exact rfl
  intro K hK
  go_simp
  refine (S.sign _ p1 _ (Fr.of A1.out B1.out (by omega) (by omega) EQ1.out)).mono ?_
  rintro e ws4 ⟨rfl, b⟩
  replace HB := Lib.hid (below_then HB.out b)
  replace P0 := Lib.hid (blk_later P0.out b)
  replace P1 := Lib.hid (blk_later P1.out b)
  replace SU := Lib.hid (blk_later SU.out b)
  replace BK := Lib.hid (blk_later BK.out b)
  replace A0 := Lib.hid (A0.out.later b)
  replace B0 := Lib.hid (B0.out.later b)
  replace A1 := Lib.hid (A1.out.later b)
  replace B1 := Lib.hid (B1.out.later b)
  replace R3 := Lib.hid (R3.out.later b)
  replace T3 := Lib.hid (T3.out.later b)
  replace R15 := Lib.hid (R15.out.later b)
  replace T15 := Lib.hid (T15.out.later b)
  rw [← Hso.out]
  clear b hHeld sSn
  have sSn := cells_3_3_3_3 P0.out P1.out SU.out BK.out
  try go_wp2_with fail
  refine hK.out _ _ sSn (fun hHeld => ?_)
  clear hK K
  refine' wpAnyH_take (i := 10) (oi := _) (v := _) ?hi10 (by kernel_rfl) (by kernel_rfl) (by kernel_rfl) ?hQ10 (Or.inl ⟨?hw10, ?hy10⟩) (by assumption) ?rest10
  case hi10 => simp only [List.getElem?_toArray, List.getElem?_cons_succ, List.getElem?_cons_zero]; exact rfl
  case hQ10 => exact fun _ _ _ h => h
  case hw10 => rfl
  case hy10 => first | (intro w hSw; (try dsimp only at hSw); go_simp; done) | (intro w hSw; (try dsimp only at hSw); go_simp; with_reducible rfl)
  simp only [Act.put, List.setIfInBounds_toArray, List.set_cons_zero, List.set_cons_succ]
  refine' wpAnyH_take (i := 11) (oi := _) (v := _) ?hi11 (by kernel_rfl) (by kernel_rfl) (by kernel_rfl) ?hQ11 (Or.inl ⟨?hw11, ?hy11⟩) (by assumption) ?rest11
  case hi11 => simp only [List.getElem?_toArray, List.getElem?_cons_succ, List.getElem?_cons_zero]; exact rfl
  case hQ11 => exact fun _ _ _ h => h
  case hw11 => rfl
  case hy11 => first | (intro w hSw; (try dsimp only at hSw); go_simp; done) | (intro w hSw; (try dsimp only at hSw); go_simp; with_reducible rfl)
  simp only [Act.put, List.setIfInBounds_toArray, List.set_cons_zero, List.set_cons_succ]
  refine' wpAnyH_take (i := 12) (oi := _) (v := _) ?hi12 (by kernel_rfl) (by kernel_rfl) (by kernel_rfl) ?hQ12 (Or.inl ⟨?hw12, ?hy12⟩) (by assumption) ?rest12
  case hi12 => simp only [List.getElem?_toArray, List.getElem?_cons_succ, List.getElem?_cons_zero]; exact rfl
  case hQ12 => exact fun _ _ _ h => h
  case hw12 => rfl
  case hy12 => first | (intro w hSw; (try dsimp only at hSw); go_simp; done) | (intro w hSw; (try dsimp only at hSw); go_simp; with_reducible rfl)
  simp only [Act.put, List.setIfInBounds_toArray, List.set_cons_zero, List.set_cons_succ]
  refine' wpAnyH_take (i := 13) (oi := _) (v := _) ?hi13 (by kernel_rfl) (by kernel_rfl) (by kernel_rfl) ?hQ13 (Or.inl ⟨?hw13, ?hy13⟩) (by assumption) ?rest13
  case hi13 => simp only [List.getElem?_toArray, List.getElem?_cons_succ, List.getElem?_cons_zero]; exact rfl
  case hQ13 => exact fun _ _ _ h => h
  case hw13 => rfl
  case hy13 => first | (intro w hSw; (try dsimp only at hSw); go_simp; done) | (intro w hSw; (try dsimp only at hSw); go_simp; with_reducible rfl)
  simp only [Act.put, List.setIfInBounds_toArray, List.set_cons_zero, List.set_cons_succ]
  refine' wpAnyH_take (i := 14) (oi := _) (v := _) ?hi14 (by kernel_rfl) (by kernel_rfl) (by kernel_rfl) ?hQ14 (Or.inl ⟨?hw14, ?hy14⟩) (by assumption) ?rest14
  case hi14 => simp only [List.getElem?_toArray, List.getElem?_cons_succ, List.getElem?_cons_zero]; exact rfl
  case hQ14 => exact fun _ _ _ h => h
  case hw14 => rfl
  case hy14 => first | (intro w hSw; (try dsimp only at hSw); go_simp; done) | (intro w hSw; (try dsimp only at hSw); go_simp; with_reducible rfl)
  simp only [Act.put, List.setIfInBounds_toArray, List.set_cons_zero, List.set_cons_succ]
  refine' wpAnyH_take (i := 15) (oi := _) (v := _) ?hi15 (by kernel_rfl) (by kernel_rfl) (by kernel_rfl) ?hQ15 (Or.inl ⟨?hw15, ?hy15⟩) (by assumption) ?rest15
  case hi15 => simp only [List.getElem?_toArray, List.getElem?_cons_succ, List.getElem?_cons_zero]; exact rfl
  case hQ15 => exact fun _ _ _ h => h
  case hw15 => rfl
  case hy15 => first | (intro w hSw; (try dsimp only at hSw); go_simp; done) | (intro w hSw; (try dsimp only at hSw); go_simp; with_reducible rfl)
  simp only [Act.put, List.setIfInBounds_toArray, List.set_cons_zero, List.set_cons_succ]
  refine' wpAnyH_take (i := 16) (oi := _) (v := _) ?hi16 (by kernel_rfl) (by kernel_rfl) (by kernel_rfl) ?hQ16 (Or.inl ⟨?hw16, ?hy16⟩) (by assumption) ?rest16
  case hi16 => simp only [List.getElem?_toArray, List.getElem?_cons_succ, List.getElem?_cons_zero]; exact rfl
  case hQ16 => exact fun _ _ _ h => h
  case hw16 => rfl
  case hy16 => first | (intro w hSw; (try dsimp only at hSw); go_simp; done) | (intro w hSw; (try dsimp only at hSw); go_simp; with_reducible rfl)
  simp only [Act.put, List.setIfInBounds_toArray, List.set_cons_zero, List.set_cons_succ]
  refine' wpAnyH_take (i := 17) (oi := _) (v := undef) ?hi17 (by kernel_rfl) (by kernel_rfl) (by kernel_rfl) ?hQ17 (Or.inr ⟨?hw17, rfl⟩) (by assumption) ?rest17
  case hi17 => simp only [List.getElem?_toArray, List.getElem?_cons_succ, List.getElem?_cons_zero]; exact rfl
  case hQ17 => exact fun _ _ _ h => h
  case hw17 => rfl
  simp only [Act.put, List.setIfInBounds_toArray, List.set_cons_zero, List.set_cons_succ]
  refine' wpAnyH_take (i := 18) (oi := _) (v := undef) ?hi18 (by kernel_rfl) (by kernel_rfl) (by kernel_rfl) ?hQ18 (Or.inr ⟨?hw18, rfl⟩) (by assumption) ?rest18
  case hi18 => simp only [List.getElem?_toArray, List.getElem?_cons_succ, List.getElem?_cons_zero]; exact rfl
  case hQ18 => exact fun _ _ _ h => h
  case hw18 => rfl
  simp only [Act.put, List.setIfInBounds_toArray, List.set_cons_zero, List.set_cons_succ]
  refine' wpAnyH_take (i := 19) (oi := _) (v := undef) ?hi19 (by kernel_rfl) (by kernel_rfl) (by kernel_rfl) ?hQ19 (Or.inr ⟨?hw19, rfl⟩) (by assumption) ?rest19
  case hi19 => simp only [List.getElem?_toArray, List.getElem?_cons_succ, List.getElem?_cons_zero]; exact rfl
  case hQ19 => exact fun _ _ _ h => h
  case hw19 => rfl
  simp only [Act.put, List.setIfInBounds_toArray, List.set_cons_zero, List.set_cons_succ]
  refine' wpAnyH_take (i := 20) (oi := _) (v := undef) ?hi20 (by kernel_rfl) (by kernel_rfl) (by kernel_rfl) ?hQ20 (Or.inr ⟨?hw20, rfl⟩) (by assumption) ?rest20
  case hi20 => simp only [List.getElem?_toArray, List.getElem?_cons_succ, List.getElem?_cons_zero]; exact rfl
  case hQ20 => exact fun _ _ _ h => h
  case hw20 => rfl
  simp only [Act.put, List.setIfInBounds_toArray, List.set_cons_zero, List.set_cons_succ]
  refine' wpAnyH_take (i := 21) (oi := _) (v := _) ?hi21 (by kernel_rfl) (by kernel_rfl) (by kernel_rfl) ?hQ21 (Or.inl ⟨?hw21, ?hy21⟩) (by assumption) ?rest21
  case hi21 => simp only [List.getElem?_toArray, List.getElem?_cons_succ, List.getElem?_cons_zero]; exact rfl
  case hQ21 => exact fun _ _ _ h => h
  case hw21 => rfl
  case hy21 => first | (intro w hSw; (try dsimp only at hSw); go_simp; done) | (intro w hSw; (try dsimp only at hSw); go_simp; with_reducible rfl)
  simp only [Act.put, List.setIfInBounds_toArray, List.set_cons_zero, List.set_cons_succ]
  refine' wpAnyH_take (i := 22) (oi := _) (v := _) ?hi22 (by kernel_rfl) (by kernel_rfl) (by kernel_rfl) ?hQ22 (Or.inl ⟨?hw22, ?hy22⟩) (by assumption) ?rest22
  case hi22 => simp only [List.getElem?_toArray, List.getElem?_cons_succ, List.getElem?_cons_zero]; exact rfl
  case hQ22 => exact fun _ _ _ h => h
  case hw22 => rfl
  case hy22 => first | (intro w hSw; (try dsimp only at hSw); go_simp; done) | (intro w hSw; (try dsimp only at hSw); go_simp; with_reducible rfl)
  simp only [Act.put, List.setIfInBounds_toArray, List.set_cons_zero, List.set_cons_succ]
  refine' wpAnyH_take (i := 23) (oi := _) (v := _) ?hi23 (by kernel_rfl) (by kernel_rfl) (by kernel_rfl) ?hQ23 (Or.inl ⟨?hw23, ?hy23⟩) (by assumption) ?rest23
  case hi23 => simp only [List.getElem?_toArray, List.getElem?_cons_succ, List.getElem?_cons_zero]; exact rfl
  case hQ23 => exact fun _ _ _ h => h
  case hw23 => rfl
  case hy23 => first | (intro w hSw; (try dsimp only at hSw); go_simp; done) | (intro w hSw; (try dsimp only at hSw); go_simp; with_reducible rfl)
  simp only [Act.put, List.setIfInBounds_toArray, List.set_cons_zero, List.set_cons_succ]
  refine' wpAnyH_take (i := 24) (oi := _) (v := _) ?hi24 (by kernel_rfl) (by kernel_rfl) (by kernel_rfl) ?hQ24 (Or.inl ⟨?hw24, ?hy24⟩) (by assumption) ?rest24
  case hi24 => simp only [List.getElem?_toArray, List.getElem?_cons_succ, List.getElem?_cons_zero]; exact rfl
  case hQ24 => exact fun _ _ _ h => h
  case hw24 => rfl
  case hy24 => first | (intro w hSw; (try dsimp only at hSw); go_simp; done) | (intro w hSw; (try dsimp only at hSw); go_simp; with_reducible rfl)
  simp only [Act.put, List.setIfInBounds_toArray, List.set_cons_zero, List.set_cons_succ]
  refine' wpAnyH_take (i := 25) (oi := _) (v := _) ?hi25 (by kernel_rfl) (by kernel_rfl) (by kernel_rfl) ?hQ25 (Or.inl ⟨?hw25, ?hy25⟩) (by assumption) ?rest25
  case hi25 => simp only [List.getElem?_toArray, List.getElem?_cons_succ, List.getElem?_cons_zero]; exact rfl
  case hQ25 => exact fun _ _ _ h => h
  case hw25 => rfl
  case hy25 => first | (intro w hSw; (try dsimp only at hSw); go_simp; done) | (intro w hSw; (try dsimp only at hSw); go_simp; with_reducible rfl)
  simp only [Act.put, List.setIfInBounds_toArray, List.set_cons_zero, List.set_cons_succ]
  refine wpAnyH_ready (rs := [26]) (by kernel_rfl) (by simp) ?_
  refine' AllReadyH.cons (o := _) ?ho26 ?step26 AllReadyH.nil
  case ho26 => simp only [List.getElem?_toArray, List.getElem?_cons_succ, List.getElem?_cons_zero]; exact rfl
  intro K hK
  go_simp
  refine (S.norm _ p0 _ (Fr.of A0.out B0.out (by omega) (by omega) EQ0.out)).mono ?_
  rintro e ws5 ⟨a19, n19, c19, b19, m19, d19, rfl, h19, g19, b⟩
  replace HB := Lib.hid (below_then HB.out b)
  replace P0 := Lib.hid (blk_later P0.out b)
  replace P1 := Lib.hid (blk_later P1.out b)
  replace SU := Lib.hid (blk_later SU.out b)
  replace BK := Lib.hid (blk_later BK.out b)
  replace A0 := Lib.hid (A0.out.later b)
  replace B0 := Lib.hid (B0.out.later b)
  replace A1 := Lib.hid (A1.out.later b)
  replace B1 := Lib.hid (B1.out.later b)
  replace R3 := Lib.hid (R3.out.later b)
  replace T3 := Lib.hid (T3.out.later b)
  replace R15 := Lib.hid (R15.out.later b)
  replace T15 := Lib.hid (T15.out.later b)
  have R19 := Lib.hid h19
  have T19 := Lib.hid g19
  have hN19 : n19 ≤ qlen p0 := (by rw [← h19.len]; exact qlen_num _)
  have hM19 : m19 ≤ qlen p0 := (by rw [← g19.len]; exact qlen_den _)
  clear h19 g19
  clear b hHeld sSn
  have sSn := cells_3_3_3_3 P0.out P1.out SU.out BK.out
  try go_wp2_with fail
  refine hK.out _ _ sSn (fun hHeld => ?_)
  clear hK K
  refine wpAnyH_ready (rs := [27]) (by kernel_rfl) (by simp) ?_
  refine' AllReadyH.cons (o := _) ?ho27 ?step27 AllReadyH.nil
  case ho27 => simp only [List.getElem?_toArray, List.getElem?_cons_succ, List.getElem?_cons_zero]; exact rfl
  intro K hK
  go_simp
  refine (S.same _ _ p0 p0 _ (Fr.of A0.out B0.out (by omega) (by omega) EQ0.out) (Fr.right R19.out T19.out (by omega) (by omega))).mono ?_
  rintro e ws6 ⟨rfl, b⟩
  replace HB := Lib.hid (below_then HB.out b)
  replace P0 := Lib.hid (blk_later P0.out b)
  replace P1 := Lib.hid (blk_later P1.out b)
  replace SU := Lib.hid (blk_later SU.out b)
  replace BK := Lib.hid (blk_later BK.out b)
  replace A0 := Lib.hid (A0.out.later b)
  replace B0 := Lib.hid (B0.out.later b)
  replace A1 := Lib.hid (A1.out.later b)
  replace B1 := Lib.hid (B1.out.later b)
  replace R3 := Lib.hid (R3.out.later b)
  replace T3 := Lib.hid (T3.out.later b)
  replace R15 := Lib.hid (R15.out.later b)
  replace T15 := Lib.hid (T15.out.later b)
  clear R19
  clear T19
  rw [show decide (p0 = p0) = true from decide_eq_true rfl]
  clear b hHeld sSn
  have sSn := cells_3_3_3_3 P0.out P1.out SU.out BK.out
  try go_wp2_with fail
  refine hK.out _ _ sSn (fun hHeld => ?_)
  clear hK K
  refine' wpAnyH_take (i := 28) (oi := _) (v := _) ?hi28 (by kernel_rfl) (by kernel_rfl) (by kernel_rfl) ?hQ28 (Or.inl ⟨?hw28, ?hy28⟩) (by assumption) ?rest28
  case hi28 => simp only [List.getElem?_toArray, List.getElem?_cons_succ, List.getElem?_cons_zero]; exact rfl
  case hQ28 => exact fun _ _ _ h => h
  case hw28 => rfl
  case hy28 => first | (intro w hSw; (try dsimp only at hSw); go_simp; done) | (intro w hSw; (try dsimp only at hSw); go_simp; with_reducible rfl)
  simp only [Act.put, List.setIfInBounds_toArray, List.set_cons_zero, List.set_cons_succ]
  refine' wpAnyH_take (i := 29) (oi := _) (v := _) ?hi29 (by kernel_rfl) (by kernel_rfl) (by kernel_rfl) ?hQ29 (Or.inl ⟨?hw29, ?hy29⟩) (by assumption) ?rest29
  case hi29 => simp only [List.getElem?_toArray, List.getElem?_cons_succ, List.getElem?_cons_zero]; exact rfl
  case hQ29 => exact fun _ _ _ h => h
  case hw29 => rfl
  case hy29 => first | (intro w hSw; (try dsimp only at hSw); go_simp; done) | (intro w hSw; (try dsimp only at hSw); go_simp; with_reducible rfl)
  simp only [Act.put, List.setIfInBounds_toArray, List.set_cons_zero, List.set_cons_succ]
  refine' wpAnyH_take (i := 30) (oi := _) (v := _) ?hi30 (by kernel_rfl) (by kernel_rfl) (by kernel_rfl) ?hQ30 (Or.inl ⟨?hw30, ?hy30⟩) (by assumption) ?rest30
  case hi30 => simp only [List.getElem?_toArray, List.getElem?_cons_succ, List.getElem?_cons_zero]; exact rfl
  case hQ30 => exact fun _ _ _ h => h
  case hw30 => rfl
  case hy30 => first | (intro w hSw; (try dsimp only at hSw); go_simp; done) | (intro w hSw; (try dsimp only at hSw); go_simp; with_reducible rfl)
  simp only [Act.put, List.setIfInBounds_toArray, List.set_cons_zero, List.set_cons_succ]
  refine wpAnyH_ready (rs := [31]) (by kernel_rfl) (by simp) ?_
  refine' AllReadyH.cons (o := _) ?ho31 ?step31 AllReadyH.nil
  case ho31 => simp only [List.getElem?_toArray, List.getElem?_cons_succ, List.getElem?_cons_zero]; exact rfl
  intro K hK
  go_simp
  refine (S.right (zneg u.num) a3 n3 c3 (dg u.num.natAbs) b3 m3 d3 (dg u.den) u _ R3.out T3.out (by omega) (by omega) (qval_dg u)).mono ?_
  rintro e ws7 ⟨rfl, b⟩
  replace HB := Lib.hid (below_then HB.out b)
  replace P0 := Lib.hid (blk_later P0.out b)
  replace P1 := Lib.hid (blk_later P1.out b)
  replace SU := Lib.hid (blk_later SU.out b)
  replace BK := Lib.hid (blk_later BK.out b)
  replace A0 := Lib.hid (A0.out.later b)
  replace B0 := Lib.hid (B0.out.later b)
  replace A1 := Lib.hid (A1.out.later b)
  replace B1 := Lib.hid (B1.out.later b)
  replace R3 := Lib.hid (R3.out.later b)
  replace T3 := Lib.hid (T3.out.later b)
  replace R15 := Lib.hid (R15.out.later b)
  replace T15 := Lib.hid (T15.out.later b)
  rw [right_yes u]
  clear b hHeld sSn
  have sSn := cells_3_3_3_3 P0.out P1.out SU.out BK.out
  try go_wp2_with fail
  refine hK.out _ _ sSn (fun hHeld => ?_)
  clear hK K
  refine' wpAnyH_take (i := 32) (oi := _) (v := _) ?hi32 (by kernel_rfl) (by kernel_rfl) (by kernel_rfl) ?hQ32 (Or.inl ⟨?hw32, ?hy32⟩) (by assumption) ?rest32
  case hi32 => simp only [List.getElem?_toArray, List.getElem?_cons_succ, List.getElem?_cons_zero]; exact rfl
  case hQ32 => exact fun _ _ _ h => h
  case hw32 => rfl
  case hy32 => first | (intro w hSw; (try dsimp only at hSw); go_simp; done) | (intro w hSw; (try dsimp only at hSw); go_simp; with_reducible rfl)
  simp only [Act.put, List.setIfInBounds_toArray, List.set_cons_zero, List.set_cons_succ]
  refine' wpAnyH_take (i := 33) (oi := _) (v := _) ?hi33 (by kernel_rfl) (by kernel_rfl) (by kernel_rfl) ?hQ33 (Or.inl ⟨?hw33, ?hy33⟩) (by assumption) ?rest33
  case hi33 => simp only [List.getElem?_toArray, List.getElem?_cons_succ, List.getElem?_cons_zero]; exact rfl
  case hQ33 => exact fun _ _ _ h => h
  case hw33 => rfl
  case hy33 => first | (intro w hSw; (try dsimp only at hSw); go_simp; done) | (intro w hSw; (try dsimp only at hSw); go_simp; with_reducible rfl)
  simp only [Act.put, List.setIfInBounds_toArray, List.set_cons_zero, List.set_cons_succ]
  refine wpAnyH_ready (rs := [34]) (by kernel_rfl) (by simp) ?_
  refine' AllReadyH.cons (o := _) ?ho34 ?step34 AllReadyH.nil
  case ho34 => simp only [List.getElem?_toArray, List.getElem?_cons_succ, List.getElem?_cons_zero]; exact rfl
  intro K hK
  go_simp
  refine (law09_works S _).mono ?_
  rintro e ws8 ⟨rfl, b⟩
  replace HB := Lib.hid (below_then HB.out b)
  replace P0 := Lib.hid (blk_later P0.out b)
  replace P1 := Lib.hid (blk_later P1.out b)
  replace SU := Lib.hid (blk_later SU.out b)
  replace BK := Lib.hid (blk_later BK.out b)
  replace A0 := Lib.hid (A0.out.later b)
  replace B0 := Lib.hid (B0.out.later b)
  replace A1 := Lib.hid (A1.out.later b)
  replace B1 := Lib.hid (B1.out.later b)
  replace R3 := Lib.hid (R3.out.later b)
  replace T3 := Lib.hid (T3.out.later b)
  replace R15 := Lib.hid (R15.out.later b)
  replace T15 := Lib.hid (T15.out.later b)
  clear b hHeld sSn
  have sSn := cells_3_3_3_3 P0.out P1.out SU.out BK.out
  try go_wp2_with fail
  refine hK.out _ _ sSn (fun hHeld => ?_)
  clear hK K
  refine' wpAnyH_take (i := 35) (oi := _) (v := _) ?hi35 (by kernel_rfl) (by kernel_rfl) (by kernel_rfl) ?hQ35 (Or.inl ⟨?hw35, ?hy35⟩) (by assumption) ?rest35
  case hi35 => simp only [List.getElem?_toArray, List.getElem?_cons_succ, List.getElem?_cons_zero]; exact rfl
  case hQ35 => exact fun _ _ _ h => h
  case hw35 => rfl
  case hy35 => first | (intro w hSw; (try dsimp only at hSw); go_simp; done) | (intro w hSw; (try dsimp only at hSw); go_simp; with_reducible rfl)
  simp only [Act.put, List.setIfInBounds_toArray, List.set_cons_zero, List.set_cons_succ]
  refine' wpAnyH_take (i := 36) (oi := _) (v := _) ?hi36 (by kernel_rfl) (by kernel_rfl) (by kernel_rfl) ?hQ36 (Or.inl ⟨?hw36, ?hy36⟩) (by assumption) ?rest36
  case hi36 => simp only [List.getElem?_toArray, List.getElem?_cons_succ, List.getElem?_cons_zero]; exact rfl
  case hQ36 => exact fun _ _ _ h => h
  case hw36 => rfl
  case hy36 => first | (intro w hSw; (try dsimp only at hSw); go_simp; done) | (intro w hSw; (try dsimp only at hSw); go_simp; with_reducible rfl)
  simp only [Act.put, List.setIfInBounds_toArray, List.set_cons_zero, List.set_cons_succ]
  refine wpAnyH_done (by kernel_rfl) ?_ _
  go_wp2
  go_ret
  exact ⟨rfl, HB.out⟩
set_option maxRecDepth 4096 in
set_option maxHeartbeats 16000000 in
theorem law09_field_out (S : FracSaid) (s0 : Bool) (a0 : Option Addr) (n0 c0 : Nat) (b0 : Option Addr) (m0 d0 : Nat) (s1 : Bool) (a1 : Option Addr) (n1 c1 : Nat) (b1 : Option Addr) (m1 d1 : Nat) (s2 : Bool) (a2 : Option Addr) (n2 c2 : Nat) (b2 : Option Addr) (m2 d2 : Nat) (w : World) (h : 6 < n0 ∨ 6 < m0 ∨ 6 < n1 ∨ 6 < m1 ∨ 6 < n2 ∨ 6 < m2) :
    Calls Try.prog 6 #[frV s0 a0 n0 c0 b0 m0 d0, frV s1 a1 n1 c1 b1 m1 d1, frV s2 a2 n2 c2 b2 m2 d2] w (Gives (.bool true) w) := by
  have HB := Lib.hid (below_then (below_then (below_alloc w (.cells #[.bool s0, .slice a0 n0 c0, .slice b0 m0 d0] 24)) (below_alloc (w.alloc (.cells #[.bool s0, .slice a0 n0 c0, .slice b0 m0 d0] 24)) (.cells #[.bool s1, .slice a1 n1 c1, .slice b1 m1 d1] 24))) (below_alloc ((w.alloc (.cells #[.bool s0, .slice a0 n0 c0, .slice b0 m0 d0] 24)).alloc (.cells #[.bool s1, .slice a1 n1 c1, .slice b1 m1 d1] 24)) (.cells #[.bool s2, .slice a2 n2 c2, .slice b2 m2 d2] 24)))
  obtain ⟨hx0, hx1, hx2⟩ := boxes3_at9 w #[.bool s0, .slice a0 n0 c0, .slice b0 m0 d0] #[.bool s1, .slice a1 n1 c1, .slice b1 m1 d1] #[.bool s2, .slice a2 n2 c2, .slice b2 m2 d2] 24 24 24
  have X0 := Lib.hid hx0
  have X1 := Lib.hid hx1
  have X2 := Lib.hid hx2
  clear hx0 hx1 hx2
  by_cases h0 : 6 < n0 ∨ 6 < m0
  · have hl0 : (decide ((6 : Int) < (n0 : Int)) || decide ((6 : Int) < (m0 : Int))) = true := by
      rcases (show 6 < n0 ∨ 6 < m0 by omega) with h9 | h9
      · rw [decide_eq_true (by omega)]; rfl
      · rw [Bool.or_eq_true]; exact .inr (decide_eq_true (by omega))
    clear h h0
    go_enter Try.func6, Try.ntmps6
    unfold frV
    obtain ⟨k0, k1, k2, k3, k4, k5, k6, k7, k8⟩ := cells_3_3_3 X0.out X1.out X2.out
    go_wp2_with fail
    refine (ref09_long s0 a0 n0 c0 b0 m0 d0 6 _).mono ?_
    rintro e w1 ⟨rfl, b⟩
    clear k0 k1 k2 k3 k4 k5 k6 k7 k8
    replace HB := Lib.hid (below_then HB.out b)
    replace X0 := Lib.hid (blk_later X0.out b)
    replace X1 := Lib.hid (blk_later X1.out b)
    replace X2 := Lib.hid (blk_later X2.out b)
    clear b
    rw [hl0]
    obtain ⟨k0, k1, k2, k3, k4, k5, k6, k7, k8⟩ := cells_3_3_3 X0.out X1.out X2.out
    go_wp2_with fail
    refine (law09_works S _).mono ?_
    rintro e w2 ⟨rfl, b⟩
    clear k0 k1 k2 k3 k4 k5 k6 k7 k8
    replace HB := Lib.hid (below_then HB.out b)
    replace X0 := Lib.hid (blk_later X0.out b)
    replace X1 := Lib.hid (blk_later X1.out b)
    replace X2 := Lib.hid (blk_later X2.out b)
    clear b
    go_wp2
    go_ret
    exact ⟨rfl, HB.out⟩
  · have hl0 : (decide ((6 : Int) < (n0 : Int)) || decide ((6 : Int) < (m0 : Int))) = false := by rw [decide_eq_false (by omega), decide_eq_false (by omega)]; rfl
    by_cases h1 : 6 < n1 ∨ 6 < m1
    · have hl1 : (decide ((6 : Int) < (n1 : Int)) || decide ((6 : Int) < (m1 : Int))) = true := by
        rcases (show 6 < n1 ∨ 6 < m1 by omega) with h9 | h9
        · rw [decide_eq_true (by omega)]; rfl
        · rw [Bool.or_eq_true]; exact .inr (decide_eq_true (by omega))
      clear h h0 h1
      go_enter Try.func6, Try.ntmps6
      unfold frV
      obtain ⟨k0, k1, k2, k3, k4, k5, k6, k7, k8⟩ := cells_3_3_3 X0.out X1.out X2.out
      go_wp2_with fail
      refine (ref09_long s0 a0 n0 c0 b0 m0 d0 6 _).mono ?_
      rintro e w1 ⟨rfl, b⟩
      clear k0 k1 k2 k3 k4 k5 k6 k7 k8
      replace HB := Lib.hid (below_then HB.out b)
      replace X0 := Lib.hid (blk_later X0.out b)
      replace X1 := Lib.hid (blk_later X1.out b)
      replace X2 := Lib.hid (blk_later X2.out b)
      clear b
      rw [hl0]
      obtain ⟨k0, k1, k2, k3, k4, k5, k6, k7, k8⟩ := cells_3_3_3 X0.out X1.out X2.out
      go_wp2_with fail
      refine (ref09_long s1 a1 n1 c1 b1 m1 d1 6 _).mono ?_
      rintro e w2 ⟨rfl, b⟩
      clear k0 k1 k2 k3 k4 k5 k6 k7 k8
      replace HB := Lib.hid (below_then HB.out b)
      replace X0 := Lib.hid (blk_later X0.out b)
      replace X1 := Lib.hid (blk_later X1.out b)
      replace X2 := Lib.hid (blk_later X2.out b)
      clear b
      rw [hl1]
      obtain ⟨k0, k1, k2, k3, k4, k5, k6, k7, k8⟩ := cells_3_3_3 X0.out X1.out X2.out
      go_wp2_with fail
      refine (law09_works S _).mono ?_
      rintro e w3 ⟨rfl, b⟩
      clear k0 k1 k2 k3 k4 k5 k6 k7 k8
      replace HB := Lib.hid (below_then HB.out b)
      replace X0 := Lib.hid (blk_later X0.out b)
      replace X1 := Lib.hid (blk_later X1.out b)
      replace X2 := Lib.hid (blk_later X2.out b)
      clear b
      go_wp2
      go_ret
      exact ⟨rfl, HB.out⟩
    · have hl1 : (decide ((6 : Int) < (n1 : Int)) || decide ((6 : Int) < (m1 : Int))) = false := by rw [decide_eq_false (by omega), decide_eq_false (by omega)]; rfl
      have hl2 : (decide ((6 : Int) < (n2 : Int)) || decide ((6 : Int) < (m2 : Int))) = true := by
        rcases (show 6 < n2 ∨ 6 < m2 by omega) with h9 | h9
        · rw [decide_eq_true (by omega)]; rfl
        · rw [Bool.or_eq_true]; exact .inr (decide_eq_true (by omega))
      clear h h0 h1
      go_enter Try.func6, Try.ntmps6
      unfold frV
      obtain ⟨k0, k1, k2, k3, k4, k5, k6, k7, k8⟩ := cells_3_3_3 X0.out X1.out X2.out
      go_wp2_with fail
      refine (ref09_long s0 a0 n0 c0 b0 m0 d0 6 _).mono ?_
      rintro e w1 ⟨rfl, b⟩
      clear k0 k1 k2 k3 k4 k5 k6 k7 k8
      replace HB := Lib.hid (below_then HB.out b)
      replace X0 := Lib.hid (blk_later X0.out b)
      replace X1 := Lib.hid (blk_later X1.out b)
      replace X2 := Lib.hid (blk_later X2.out b)
      clear b
      rw [hl0]
      obtain ⟨k0, k1, k2, k3, k4, k5, k6, k7, k8⟩ := cells_3_3_3 X0.out X1.out X2.out
      go_wp2_with fail
      refine (ref09_long s1 a1 n1 c1 b1 m1 d1 6 _).mono ?_
      rintro e w2 ⟨rfl, b⟩
      clear k0 k1 k2 k3 k4 k5 k6 k7 k8
      replace HB := Lib.hid (below_then HB.out b)
      replace X0 := Lib.hid (blk_later X0.out b)
      replace X1 := Lib.hid (blk_later X1.out b)
      replace X2 := Lib.hid (blk_later X2.out b)
      clear b
      rw [hl1]
      obtain ⟨k0, k1, k2, k3, k4, k5, k6, k7, k8⟩ := cells_3_3_3 X0.out X1.out X2.out
      go_wp2_with fail
      refine (ref09_long s2 a2 n2 c2 b2 m2 d2 6 _).mono ?_
      rintro e w3 ⟨rfl, b⟩
      clear k0 k1 k2 k3 k4 k5 k6 k7 k8
      replace HB := Lib.hid (below_then HB.out b)
      replace X0 := Lib.hid (blk_later X0.out b)
      replace X1 := Lib.hid (blk_later X1.out b)
      replace X2 := Lib.hid (blk_later X2.out b)
      clear b
      rw [hl2]
      obtain ⟨k0, k1, k2, k3, k4, k5, k6, k7, k8⟩ := cells_3_3_3 X0.out X1.out X2.out
      go_wp2_with fail
      refine (law09_works S _).mono ?_
      rintro e w4 ⟨rfl, b⟩
      clear k0 k1 k2 k3 k4 k5 k6 k7 k8
      replace HB := Lib.hid (below_then HB.out b)
      replace X0 := Lib.hid (blk_later X0.out b)
      replace X1 := Lib.hid (blk_later X1.out b)
      replace X2 := Lib.hid (blk_later X2.out b)
      clear b
      go_wp2
      go_ret
      exact ⟨rfl, HB.out⟩
theorem law09_field (S : FracSaid) (s0 : Bool) (a0 : Option Addr) (n0 c0 : Nat) (la0 : List Nat) (b0 : Option Addr) (m0 d0 : Nat) (lb0 : List Nat) (s1 : Bool) (a1 : Option Addr) (n1 c1 : Nat) (la1 : List Nat) (b1 : Option Addr) (m1 d1 : Nat) (lb1 : List Nat) (s2 : Bool) (a2 : Option Addr) (n2 c2 : Nat) (la2 : List Nat) (b2 : Option Addr) (m2 d2 : Nat) (lb2 : List Nat) (w : World) (ha0 : Wd w a0 n0 c0 la0) (hb0 : Wd w b0 m0 d0 lb0) (ha1 : Wd w a1 n1 c1 la1) (hb1 : Wd w b1 m1 d1 lb1) (ha2 : Wd w a2 n2 c2 la2) (hb2 : Wd w b2 m2 d2 lb2) :
    Calls Try.prog 6 #[frV s0 a0 n0 c0 b0 m0 d0, frV s1 a1 n1 c1 b1 m1 d1, frV s2 a2 n2 c2 b2 m2 d2] w (Gives (.bool true) w) := by
  by_cases h : 6 < n0 ∨ 6 < m0 ∨ 6 < n1 ∨ 6 < m1 ∨ 6 < n2 ∨ 6 < m2
  · exact law09_field_out S s0 a0 n0 c0 b0 m0 d0 s1 a1 n1 c1 b1 m1 d1 s2 a2 n2 c2 b2 m2 d2 w h
  · by_cases h0 : qval s1 (val la1) (val lb1) = 0
    · exact law09_field_no S s0 a0 n0 c0 la0 b0 m0 d0 lb0 s1 a1 n1 c1 la1 b1 m1 d1 lb1 s2 a2 n2 c2 la2 b2 m2 d2 lb2 w ha0 hb0 ha1 hb1 ha2 hb2 (by omega) (by omega) (by omega) (by omega) (by omega) (by omega) h0
    · exact law09_field_yes S s0 a0 n0 c0 la0 b0 m0 d0 lb0 s1 a1 n1 c1 la1 b1 m1 d1 lb1 s2 a2 n2 c2 la2 b2 m2 d2 lb2 w ha0 hb0 ha1 hb1 ha2 hb2 (by omega) (by omega) (by omega) (by omega) (by omega) (by omega) h0
end Go.Proofs.Ytpjgmkkdbmegjaa
