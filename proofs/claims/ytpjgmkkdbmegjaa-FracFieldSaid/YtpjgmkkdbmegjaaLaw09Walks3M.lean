/-
  The walks of the laws of layer 9: FracField.
-/
import Derived.Test.YtpjgmkkdbmegjaaG17
import Derived.Deep.RegionHeld3
namespace Go.Proofs.Ytpjgmkkdbmegjaa
open Go.RowKit

theorem right_yes (u : Rat) : decide (zneg u.num = zneg u.num ∧ dg u.num.natAbs = dg u.num.natAbs ∧ dg u.den = dg u.den) = true := decide_eq_true ⟨rfl, rfl, rfl⟩
theorem field_add (x y z : Rat) : x + (z + y) = x + y + z := by rw [Rat.add_comm z y, Rat.add_assoc]
theorem field_mul (x y z : Rat) : x * (z * y) = x * y * z := by rw [Rat.mul_comm z y, Rat.mul_assoc]
theorem field_mix (x y z : Rat) : x * y + x * z = x * (y + z) := (Rat.mul_add x y z).symm
theorem field_back (x y : Rat) : x + y - y = x := Rat.add_sub_cancel
theorem field_over (x : Rat) {y : Rat} (h : y ≠ 0) : x * y / y = x := Rat.mul_div_cancel h
set_option maxRecDepth 4096 in
set_option maxHeartbeats 16000000 in
theorem law09_field_yes (S : FracSaid) (s0 : Bool) (a0 : Option Addr) (n0 c0 : Nat) (la0 : List Nat) (b0 : Option Addr) (m0 d0 : Nat) (lb0 : List Nat) (s1 : Bool) (a1 : Option Addr) (n1 c1 : Nat) (la1 : List Nat) (b1 : Option Addr) (m1 d1 : Nat) (lb1 : List Nat) (s2 : Bool) (a2 : Option Addr) (n2 c2 : Nat) (la2 : List Nat) (b2 : Option Addr) (m2 d2 : Nat) (lb2 : List Nat) (w : World) (ha0 : Wd w a0 n0 c0 la0) (hb0 : Wd w b0 m0 d0 lb0) (ha1 : Wd w a1 n1 c1 la1) (hb1 : Wd w b1 m1 d1 lb1) (ha2 : Wd w a2 n2 c2 la2) (hb2 : Wd w b2 m2 d2 lb2) (hn0 : n0 ≤ 6) (hm0 : m0 ≤ 6) (hn1 : n1 ≤ 6) (hm1 : m1 ≤ 6) (hn2 : n2 ≤ 6) (hm2 : m2 ≤ 6) (h0 : qval s1 (val la1) (val lb1) ≠ 0) :
    Calls Try.prog 6 #[frV s0 a0 n0 c0 b0 m0 d0, frV s1 a1 n1 c1 b1 m1 d1, frV s2 a2 n2 c2 b2 m2 d2] w (Gives (.bool true) w) := by
  have HB := Lib.hid (below_then (below_then (below_alloc w (.cells #[.bool s0, .slice a0 n0 c0, .slice b0 m0 d0] 24)) (below_alloc (w.alloc (.cells #[.bool s0, .slice a0 n0 c0, .slice b0 m0 d0] 24)) (.cells #[.bool s1, .slice a1 n1 c1, .slice b1 m1 d1] 24))) (below_alloc ((w.alloc (.cells #[.bool s0, .slice a0 n0 c0, .slice b0 m0 d0] 24)).alloc (.cells #[.bool s1, .slice a1 n1 c1, .slice b1 m1 d1] 24)) (.cells #[.bool s2, .slice a2 n2 c2, .slice b2 m2 d2] 24)))
  have A0 := Lib.hid (ha0.later HB.out)
  have B0 := Lib.hid (hb0.later HB.out)
  have A1 := Lib.hid (ha1.later HB.out)
  have B1 := Lib.hid (hb1.later HB.out)
  have A2 := Lib.hid (ha2.later HB.out)
  have B2 := Lib.hid (hb2.later HB.out)
  obtain ⟨hx0, hx1, hx2⟩ := boxes3_at9 w #[.bool s0, .slice a0 n0 c0, .slice b0 m0 d0] #[.bool s1, .slice a1 n1 c1, .slice b1 m1 d1] #[.bool s2, .slice a2 n2 c2, .slice b2 m2 d2] 24 24 24
  have X0 := Lib.hid hx0
  have X1 := Lib.hid hx1
  have X2 := Lib.hid hx2
  clear hx0 hx1 hx2
  obtain ⟨p0, hp0⟩ : ∃ p, qval s0 (val la0) (val lb0) = p := ⟨_, rfl⟩
  have lp0 : qlen p0 ≤ 7 := (Fr.of ha0 hb0 hn0 hm0 hp0).len
  have EQ0 := Lib.hid hp0
  obtain ⟨p1, hp1⟩ : ∃ p, qval s1 (val la1) (val lb1) = p := ⟨_, rfl⟩
  have lp1 : qlen p1 ≤ 7 := (Fr.of ha1 hb1 hn1 hm1 hp1).len
  have EQ1 := Lib.hid hp1
  obtain ⟨p2, hp2⟩ : ∃ p, qval s2 (val la2) (val lb2) = p := ⟨_, rfl⟩
  have lp2 : qlen p2 ≤ 7 := (Fr.of ha2 hb2 hn2 hm2 hp2).len
  have EQ2 := Lib.hid hp2
  rw [hp1] at h0
  have H0 := Lib.hid h0
  clear h0 ha0 hb0 hp0 ha1 hb1 hp1 ha2 hb2 hp2
  have hl0 : (decide ((6 : Int) < (n0 : Int)) || decide ((6 : Int) < (m0 : Int))) = false := by rw [decide_eq_false (by omega), decide_eq_false (by omega)]; rfl
  have hl1 : (decide ((6 : Int) < (n1 : Int)) || decide ((6 : Int) < (m1 : Int))) = false := by rw [decide_eq_false (by omega), decide_eq_false (by omega)]; rfl
  have hl2 : (decide ((6 : Int) < (n2 : Int)) || decide ((6 : Int) < (m2 : Int))) = false := by rw [decide_eq_false (by omega), decide_eq_false (by omega)]; rfl
  obtain ⟨u, hu⟩ : ∃ r, p0 + p1 = r := ⟨_, rfl⟩
  have lu : qlen u ≤ 20 := by rw [← hu]; have := qlen_add p0 p1; omega
  have Eu := Lib.hid hu
  clear hu
  obtain ⟨t, ht⟩ : ∃ r, p0 * p1 = r := ⟨_, rfl⟩
  have lt : qlen t ≤ 20 := by rw [← ht]; have := qlen_mul p0 p1; omega
  have Et := Lib.hid ht
  clear ht
  obtain ⟨u2, hu2⟩ : ∃ r, u + p2 = r := ⟨_, rfl⟩
  have lu2 : qlen u2 ≤ 40 := by rw [← hu2]; have := qlen_add u p2; omega
  have Eu2 := Lib.hid hu2
  clear hu2
  obtain ⟨v, hv⟩ : ∃ r, p2 + p1 = r := ⟨_, rfl⟩
  have lv : qlen v ≤ 20 := by rw [← hv]; have := qlen_add p2 p1; omega
  have Ev := Lib.hid hv
  clear hv
  obtain ⟨t2, ht2⟩ : ∃ r, t * p2 = r := ⟨_, rfl⟩
  have lt2 : qlen t2 ≤ 40 := by rw [← ht2]; have := qlen_mul t p2; omega
  have Et2 := Lib.hid ht2
  clear ht2
  obtain ⟨x, hx⟩ : ∃ r, p2 * p1 = r := ⟨_, rfl⟩
  have lx : qlen x ≤ 20 := by rw [← hx]; have := qlen_mul p2 p1; omega
  have Ex := Lib.hid hx
  clear hx
  obtain ⟨y, hy⟩ : ∃ r, p1 + p2 = r := ⟨_, rfl⟩
  have ly : qlen y ≤ 20 := by rw [← hy]; have := qlen_add p1 p2; omega
  have Ey := Lib.hid hy
  clear hy
  obtain ⟨z, hz⟩ : ∃ r, p0 * y = r := ⟨_, rfl⟩
  have lz : qlen z ≤ 40 := by rw [← hz]; have := qlen_mul p0 y; omega
  have Ez := Lib.hid hz
  clear hz
  obtain ⟨o, ho⟩ : ∃ r, p0 * p2 = r := ⟨_, rfl⟩
  have lo : qlen o ≤ 20 := by rw [← ho]; have := qlen_mul p0 p2; omega
  have Eo := Lib.hid ho
  clear ho
  obtain ⟨k, hk⟩ : ∃ r, t / p1 = r := ⟨_, rfl⟩
  have lk : qlen k ≤ 40 := by rw [← hk]; have := qlen_div t p1; omega
  have Ek := Lib.hid hk
  clear hk
  have F1 : Hid (p0 + v = u2) := Lib.hid (by rw [← Ev.out, ← Eu2.out, ← Eu.out]; exact field_add p0 p1 p2)
  have F2 : Hid (p0 * x = t2) := Lib.hid (by rw [← Ex.out, ← Et2.out, ← Et.out]; exact field_mul p0 p1 p2)
  have F3 : Hid (t + o = z) := Lib.hid (by rw [← Eo.out, ← Et.out, ← Ez.out, ← Ey.out]; exact field_mix p0 p1 p2)
  have F4 : Hid (u - p1 = p0) := Lib.hid (by rw [← Eu.out]; exact field_back p0 p1)
  have F5 : Hid (k = p0) := Lib.hid (by rw [← Ek.out, ← Et.out]; exact field_over p0 H0.out)
  obtain ⟨so, hso⟩ : ∃ s, s = sgn p1.num := ⟨_, rfl⟩
  have Hso := Lib.hid hso
  have hs0 : (so != 0) = true := by rw [hso]; simp [sgn_num_zero, H0.out]
  clear hso
  go_enter Try.func6, Try.ntmps6
  unfold frV
  obtain ⟨k0, k1, k2, k3, k4, k5, k6, k7, k8⟩ := cells_3_3_3 X0.out X1.out X2.out
  go_wp2_with fail
  refine (ref09_long s0 a0 n0 c0 b0 m0 d0 6 _).mono ?_
  rintro e w1 ⟨rfl, b⟩
  clear k0 k1 k2 k3 k4 k5 k6 k7 k8
  replace HB := Lib.hid (below_then HB.out b)
  replace X0 := Lib.hid (blk_later X0.out b)
  replace X1 := Lib.hid (blk_later X1.out b)
  replace X2 := Lib.hid (blk_later X2.out b)
  replace A0 := Lib.hid (A0.out.later b)
  replace B0 := Lib.hid (B0.out.later b)
  replace A1 := Lib.hid (A1.out.later b)
  replace B1 := Lib.hid (B1.out.later b)
  replace A2 := Lib.hid (A2.out.later b)
  replace B2 := Lib.hid (B2.out.later b)
  clear b
  rw [hl0]
  obtain ⟨k0, k1, k2, k3, k4, k5, k6, k7, k8⟩ := cells_3_3_3 X0.out X1.out X2.out
  go_wp2_with fail
  refine (ref09_long s1 a1 n1 c1 b1 m1 d1 6 _).mono ?_
  rintro e w2 ⟨rfl, b⟩
  clear k0 k1 k2 k3 k4 k5 k6 k7 k8
  replace HB := Lib.hid (below_then HB.out b)
  replace X0 := Lib.hid (blk_later X0.out b)
  replace X1 := Lib.hid (blk_later X1.out b)
  replace X2 := Lib.hid (blk_later X2.out b)
  replace A0 := Lib.hid (A0.out.later b)
  replace B0 := Lib.hid (B0.out.later b)
  replace A1 := Lib.hid (A1.out.later b)
  replace B1 := Lib.hid (B1.out.later b)
  replace A2 := Lib.hid (A2.out.later b)
  replace B2 := Lib.hid (B2.out.later b)
  clear b
  rw [hl1]
  obtain ⟨k0, k1, k2, k3, k4, k5, k6, k7, k8⟩ := cells_3_3_3 X0.out X1.out X2.out
  go_wp2_with fail
  refine (ref09_long s2 a2 n2 c2 b2 m2 d2 6 _).mono ?_
  rintro e w3 ⟨rfl, b⟩
  clear k0 k1 k2 k3 k4 k5 k6 k7 k8
  replace HB := Lib.hid (below_then HB.out b)
  replace X0 := Lib.hid (blk_later X0.out b)
  replace X1 := Lib.hid (blk_later X1.out b)
  replace X2 := Lib.hid (blk_later X2.out b)
  replace A0 := Lib.hid (A0.out.later b)
  replace B0 := Lib.hid (B0.out.later b)
  replace A1 := Lib.hid (A1.out.later b)
  replace B1 := Lib.hid (B1.out.later b)
  replace A2 := Lib.hid (A2.out.later b)
  replace B2 := Lib.hid (B2.out.later b)
  clear b
  rw [hl2]
  obtain ⟨k0, k1, k2, k3, k4, k5, k6, k7, k8⟩ := cells_3_3_3 X0.out X1.out X2.out
  go_wp2_with fail
  refine (law09_to s0 a0 n0 c0 b0 m0 d0 _).mono ?_
  rintro e w4 ⟨rfl, b⟩
  clear k0 k1 k2 k3 k4 k5 k6 k7 k8
  replace HB := Lib.hid (below_then HB.out b)
  replace X0 := Lib.hid (blk_later X0.out b)
  replace X1 := Lib.hid (blk_later X1.out b)
  replace X2 := Lib.hid (blk_later X2.out b)
  replace A0 := Lib.hid (A0.out.later b)
  replace B0 := Lib.hid (B0.out.later b)
  replace A1 := Lib.hid (A1.out.later b)
  replace B1 := Lib.hid (B1.out.later b)
  replace A2 := Lib.hid (A2.out.later b)
  replace B2 := Lib.hid (B2.out.later b)
  clear b
  unfold frV
  have P0 : Hid ((World.alloc w4 (.cells #[.bool s0, .slice a0 n0 c0, .slice b0 m0 d0] 34)).heap[w4.heap.size]? = some (.cells #[.bool s0, .slice a0 n0 c0, .slice b0 m0 d0] 34 (0, 0))) := Lib.hid (blk_new w4 _ _)
  replace HB := Lib.hid (below_then HB.out (below_alloc w4 (.cells #[.bool s0, .slice a0 n0 c0, .slice b0 m0 d0] 34)))
  replace X0 := Lib.hid (blk_later X0.out (below_alloc w4 (.cells #[.bool s0, .slice a0 n0 c0, .slice b0 m0 d0] 34)))
  replace X1 := Lib.hid (blk_later X1.out (below_alloc w4 (.cells #[.bool s0, .slice a0 n0 c0, .slice b0 m0 d0] 34)))
  replace X2 := Lib.hid (blk_later X2.out (below_alloc w4 (.cells #[.bool s0, .slice a0 n0 c0, .slice b0 m0 d0] 34)))
  replace A0 := Lib.hid (A0.out.later (below_alloc w4 (.cells #[.bool s0, .slice a0 n0 c0, .slice b0 m0 d0] 34)))
  replace B0 := Lib.hid (B0.out.later (below_alloc w4 (.cells #[.bool s0, .slice a0 n0 c0, .slice b0 m0 d0] 34)))
  replace A1 := Lib.hid (A1.out.later (below_alloc w4 (.cells #[.bool s0, .slice a0 n0 c0, .slice b0 m0 d0] 34)))
  replace B1 := Lib.hid (B1.out.later (below_alloc w4 (.cells #[.bool s0, .slice a0 n0 c0, .slice b0 m0 d0] 34)))
  replace A2 := Lib.hid (A2.out.later (below_alloc w4 (.cells #[.bool s0, .slice a0 n0 c0, .slice b0 m0 d0] 34)))
  replace B2 := Lib.hid (B2.out.later (below_alloc w4 (.cells #[.bool s0, .slice a0 n0 c0, .slice b0 m0 d0] 34)))
  obtain ⟨k0, k1, k2, k3, k4, k5, k6, k7, k8, k9, k10, k11⟩ := cells_3_3_3_3 X0.out X1.out X2.out P0.out
  go_wp2_with fail
  refine (law09_to s1 a1 n1 c1 b1 m1 d1 _).mono ?_
  rintro e w5 ⟨rfl, b⟩
  clear k0 k1 k2 k3 k4 k5 k6 k7 k8 k9 k10 k11
  replace HB := Lib.hid (below_then HB.out b)
  replace X0 := Lib.hid (blk_later X0.out b)
  replace X1 := Lib.hid (blk_later X1.out b)
  replace X2 := Lib.hid (blk_later X2.out b)
  replace P0 := Lib.hid (blk_later P0.out b)
  replace A0 := Lib.hid (A0.out.later b)
  replace B0 := Lib.hid (B0.out.later b)
  replace A1 := Lib.hid (A1.out.later b)
  replace B1 := Lib.hid (B1.out.later b)
  replace A2 := Lib.hid (A2.out.later b)
  replace B2 := Lib.hid (B2.out.later b)
  clear b
  unfold frV
  have P1 : Hid ((World.alloc w5 (.cells #[.bool s1, .slice a1 n1 c1, .slice b1 m1 d1] 34)).heap[w5.heap.size]? = some (.cells #[.bool s1, .slice a1 n1 c1, .slice b1 m1 d1] 34 (0, 0))) := Lib.hid (blk_new w5 _ _)
  replace HB := Lib.hid (below_then HB.out (below_alloc w5 (.cells #[.bool s1, .slice a1 n1 c1, .slice b1 m1 d1] 34)))
  replace X0 := Lib.hid (blk_later X0.out (below_alloc w5 (.cells #[.bool s1, .slice a1 n1 c1, .slice b1 m1 d1] 34)))
  replace X1 := Lib.hid (blk_later X1.out (below_alloc w5 (.cells #[.bool s1, .slice a1 n1 c1, .slice b1 m1 d1] 34)))
  replace X2 := Lib.hid (blk_later X2.out (below_alloc w5 (.cells #[.bool s1, .slice a1 n1 c1, .slice b1 m1 d1] 34)))
  replace P0 := Lib.hid (blk_later P0.out (below_alloc w5 (.cells #[.bool s1, .slice a1 n1 c1, .slice b1 m1 d1] 34)))
  replace A0 := Lib.hid (A0.out.later (below_alloc w5 (.cells #[.bool s1, .slice a1 n1 c1, .slice b1 m1 d1] 34)))
  replace B0 := Lib.hid (B0.out.later (below_alloc w5 (.cells #[.bool s1, .slice a1 n1 c1, .slice b1 m1 d1] 34)))
  replace A1 := Lib.hid (A1.out.later (below_alloc w5 (.cells #[.bool s1, .slice a1 n1 c1, .slice b1 m1 d1] 34)))
  replace B1 := Lib.hid (B1.out.later (below_alloc w5 (.cells #[.bool s1, .slice a1 n1 c1, .slice b1 m1 d1] 34)))
  replace A2 := Lib.hid (A2.out.later (below_alloc w5 (.cells #[.bool s1, .slice a1 n1 c1, .slice b1 m1 d1] 34)))
  replace B2 := Lib.hid (B2.out.later (below_alloc w5 (.cells #[.bool s1, .slice a1 n1 c1, .slice b1 m1 d1] 34)))
  obtain ⟨k0, k1, k2, k3, k4, k5, k6, k7, k8, k9, k10, k11, k12, k13, k14⟩ := cells_3_3_3_3_3 X0.out X1.out X2.out P0.out P1.out
  go_wp2_with fail
  refine (law09_to s2 a2 n2 c2 b2 m2 d2 _).mono ?_
  rintro e w6 ⟨rfl, b⟩
  clear k0 k1 k2 k3 k4 k5 k6 k7 k8 k9 k10 k11 k12 k13 k14
  replace HB := Lib.hid (below_then HB.out b)
  replace X0 := Lib.hid (blk_later X0.out b)
  replace X1 := Lib.hid (blk_later X1.out b)
  replace X2 := Lib.hid (blk_later X2.out b)
  replace P0 := Lib.hid (blk_later P0.out b)
  replace P1 := Lib.hid (blk_later P1.out b)
  replace A0 := Lib.hid (A0.out.later b)
  replace B0 := Lib.hid (B0.out.later b)
  replace A1 := Lib.hid (A1.out.later b)
  replace B1 := Lib.hid (B1.out.later b)
  replace A2 := Lib.hid (A2.out.later b)
  replace B2 := Lib.hid (B2.out.later b)
  clear b
  unfold frV
  have P2 : Hid ((World.alloc w6 (.cells #[.bool s2, .slice a2 n2 c2, .slice b2 m2 d2] 34)).heap[w6.heap.size]? = some (.cells #[.bool s2, .slice a2 n2 c2, .slice b2 m2 d2] 34 (0, 0))) := Lib.hid (blk_new w6 _ _)
  replace HB := Lib.hid (below_then HB.out (below_alloc w6 (.cells #[.bool s2, .slice a2 n2 c2, .slice b2 m2 d2] 34)))
  replace X0 := Lib.hid (blk_later X0.out (below_alloc w6 (.cells #[.bool s2, .slice a2 n2 c2, .slice b2 m2 d2] 34)))
  replace X1 := Lib.hid (blk_later X1.out (below_alloc w6 (.cells #[.bool s2, .slice a2 n2 c2, .slice b2 m2 d2] 34)))
  replace X2 := Lib.hid (blk_later X2.out (below_alloc w6 (.cells #[.bool s2, .slice a2 n2 c2, .slice b2 m2 d2] 34)))
  replace P0 := Lib.hid (blk_later P0.out (below_alloc w6 (.cells #[.bool s2, .slice a2 n2 c2, .slice b2 m2 d2] 34)))
  replace P1 := Lib.hid (blk_later P1.out (below_alloc w6 (.cells #[.bool s2, .slice a2 n2 c2, .slice b2 m2 d2] 34)))
  replace A0 := Lib.hid (A0.out.later (below_alloc w6 (.cells #[.bool s2, .slice a2 n2 c2, .slice b2 m2 d2] 34)))
  replace B0 := Lib.hid (B0.out.later (below_alloc w6 (.cells #[.bool s2, .slice a2 n2 c2, .slice b2 m2 d2] 34)))
  replace A1 := Lib.hid (A1.out.later (below_alloc w6 (.cells #[.bool s2, .slice a2 n2 c2, .slice b2 m2 d2] 34)))
  replace B1 := Lib.hid (B1.out.later (below_alloc w6 (.cells #[.bool s2, .slice a2 n2 c2, .slice b2 m2 d2] 34)))
  replace A2 := Lib.hid (A2.out.later (below_alloc w6 (.cells #[.bool s2, .slice a2 n2 c2, .slice b2 m2 d2] 34)))
  replace B2 := Lib.hid (B2.out.later (below_alloc w6 (.cells #[.bool s2, .slice a2 n2 c2, .slice b2 m2 d2] 34)))
  obtain ⟨k0, k1, k2, k3, k4, k5, k6, k7, k8⟩ := cells_3_3_3 P0.out P1.out P2.out
  go_wp2_with fail
  refine (S.add _ _ p0 p1 _ (Fr.of A0.out B0.out (by omega) (by omega) EQ0.out) (Fr.of A1.out B1.out (by omega) (by omega) EQ1.out)).mono ?_
  rintro e w7 ⟨a3, n3, c3, b3, m3, d3, rfl, h3, g3, b⟩
  clear k0 k1 k2 k3 k4 k5 k6 k7 k8
  replace HB := Lib.hid (below_then HB.out b)
  replace P0 := Lib.hid (blk_later P0.out b)
  replace P1 := Lib.hid (blk_later P1.out b)
  replace P2 := Lib.hid (blk_later P2.out b)
  replace A0 := Lib.hid (A0.out.later b)
  replace B0 := Lib.hid (B0.out.later b)
  replace A1 := Lib.hid (A1.out.later b)
  replace B1 := Lib.hid (B1.out.later b)
  replace A2 := Lib.hid (A2.out.later b)
  replace B2 := Lib.hid (B2.out.later b)
  clear b
  rw [Eu.out] at h3 g3 ⊢
  have hN3 : n3 ≤ qlen u := (by rw [← h3.len]; exact qlen_num _)
  have hM3 : m3 ≤ qlen u := (by rw [← g3.len]; exact qlen_den _)
  have R3 := Lib.hid h3
  have T3 := Lib.hid g3
  clear h3 g3
  unfold frV
  have SU : Hid ((World.alloc w7 (.cells #[.bool (zneg u.num), .slice a3 n3 c3, .slice b3 m3 d3] 34)).heap[w7.heap.size]? = some (.cells #[.bool (zneg u.num), .slice a3 n3 c3, .slice b3 m3 d3] 34 (0, 0))) := Lib.hid (blk_new w7 _ _)
  replace HB := Lib.hid (below_then HB.out (below_alloc w7 (.cells #[.bool (zneg u.num), .slice a3 n3 c3, .slice b3 m3 d3] 34)))
  replace P0 := Lib.hid (blk_later P0.out (below_alloc w7 (.cells #[.bool (zneg u.num), .slice a3 n3 c3, .slice b3 m3 d3] 34)))
  replace P1 := Lib.hid (blk_later P1.out (below_alloc w7 (.cells #[.bool (zneg u.num), .slice a3 n3 c3, .slice b3 m3 d3] 34)))
  replace P2 := Lib.hid (blk_later P2.out (below_alloc w7 (.cells #[.bool (zneg u.num), .slice a3 n3 c3, .slice b3 m3 d3] 34)))
  replace A0 := Lib.hid (A0.out.later (below_alloc w7 (.cells #[.bool (zneg u.num), .slice a3 n3 c3, .slice b3 m3 d3] 34)))
  replace B0 := Lib.hid (B0.out.later (below_alloc w7 (.cells #[.bool (zneg u.num), .slice a3 n3 c3, .slice b3 m3 d3] 34)))
  replace A1 := Lib.hid (A1.out.later (below_alloc w7 (.cells #[.bool (zneg u.num), .slice a3 n3 c3, .slice b3 m3 d3] 34)))
  replace B1 := Lib.hid (B1.out.later (below_alloc w7 (.cells #[.bool (zneg u.num), .slice a3 n3 c3, .slice b3 m3 d3] 34)))
  replace A2 := Lib.hid (A2.out.later (below_alloc w7 (.cells #[.bool (zneg u.num), .slice a3 n3 c3, .slice b3 m3 d3] 34)))
  replace B2 := Lib.hid (B2.out.later (below_alloc w7 (.cells #[.bool (zneg u.num), .slice a3 n3 c3, .slice b3 m3 d3] 34)))
  replace R3 := Lib.hid (R3.out.later (below_alloc w7 (.cells #[.bool (zneg u.num), .slice a3 n3 c3, .slice b3 m3 d3] 34)))
  replace T3 := Lib.hid (T3.out.later (below_alloc w7 (.cells #[.bool (zneg u.num), .slice a3 n3 c3, .slice b3 m3 d3] 34)))
  obtain ⟨k0, k1, k2, k3, k4, k5, k6, k7, k8, k9, k10, k11⟩ := cells_3_3_3_3 P0.out P1.out P2.out SU.out
  go_wp2_with fail
  refine (S.mul _ _ p0 p1 _ (Fr.of A0.out B0.out (by omega) (by omega) EQ0.out) (Fr.of A1.out B1.out (by omega) (by omega) EQ1.out)).mono ?_
  rintro e w8 ⟨a4, n4, c4, b4, m4, d4, rfl, h4, g4, b⟩
  clear k0 k1 k2 k3 k4 k5 k6 k7 k8 k9 k10 k11
  replace HB := Lib.hid (below_then HB.out b)
  replace P0 := Lib.hid (blk_later P0.out b)
  replace P1 := Lib.hid (blk_later P1.out b)
  replace P2 := Lib.hid (blk_later P2.out b)
  replace SU := Lib.hid (blk_later SU.out b)
  replace A0 := Lib.hid (A0.out.later b)
  replace B0 := Lib.hid (B0.out.later b)
  replace A1 := Lib.hid (A1.out.later b)
  replace B1 := Lib.hid (B1.out.later b)
  replace A2 := Lib.hid (A2.out.later b)
  replace B2 := Lib.hid (B2.out.later b)
  replace R3 := Lib.hid (R3.out.later b)
  replace T3 := Lib.hid (T3.out.later b)
  clear b
  rw [Et.out] at h4 g4 ⊢
  have hN4 : n4 ≤ qlen t := (by rw [← h4.len]; exact qlen_num _)
  have hM4 : m4 ≤ qlen t := (by rw [← g4.len]; exact qlen_den _)
  have R4 := Lib.hid h4
  have T4 := Lib.hid g4
  clear h4 g4
  unfold frV
  have TI : Hid ((World.alloc w8 (.cells #[.bool (zneg t.num), .slice a4 n4 c4, .slice b4 m4 d4] 34)).heap[w8.heap.size]? = some (.cells #[.bool (zneg t.num), .slice a4 n4 c4, .slice b4 m4 d4] 34 (0, 0))) := Lib.hid (blk_new w8 _ _)
  replace HB := Lib.hid (below_then HB.out (below_alloc w8 (.cells #[.bool (zneg t.num), .slice a4 n4 c4, .slice b4 m4 d4] 34)))
  replace P0 := Lib.hid (blk_later P0.out (below_alloc w8 (.cells #[.bool (zneg t.num), .slice a4 n4 c4, .slice b4 m4 d4] 34)))
  replace P1 := Lib.hid (blk_later P1.out (below_alloc w8 (.cells #[.bool (zneg t.num), .slice a4 n4 c4, .slice b4 m4 d4] 34)))
  replace P2 := Lib.hid (blk_later P2.out (below_alloc w8 (.cells #[.bool (zneg t.num), .slice a4 n4 c4, .slice b4 m4 d4] 34)))
  replace SU := Lib.hid (blk_later SU.out (below_alloc w8 (.cells #[.bool (zneg t.num), .slice a4 n4 c4, .slice b4 m4 d4] 34)))
  replace A0 := Lib.hid (A0.out.later (below_alloc w8 (.cells #[.bool (zneg t.num), .slice a4 n4 c4, .slice b4 m4 d4] 34)))
  replace B0 := Lib.hid (B0.out.later (below_alloc w8 (.cells #[.bool (zneg t.num), .slice a4 n4 c4, .slice b4 m4 d4] 34)))
  replace A1 := Lib.hid (A1.out.later (below_alloc w8 (.cells #[.bool (zneg t.num), .slice a4 n4 c4, .slice b4 m4 d4] 34)))
  replace B1 := Lib.hid (B1.out.later (below_alloc w8 (.cells #[.bool (zneg t.num), .slice a4 n4 c4, .slice b4 m4 d4] 34)))
  replace A2 := Lib.hid (A2.out.later (below_alloc w8 (.cells #[.bool (zneg t.num), .slice a4 n4 c4, .slice b4 m4 d4] 34)))
  replace B2 := Lib.hid (B2.out.later (below_alloc w8 (.cells #[.bool (zneg t.num), .slice a4 n4 c4, .slice b4 m4 d4] 34)))
  replace R3 := Lib.hid (R3.out.later (below_alloc w8 (.cells #[.bool (zneg t.num), .slice a4 n4 c4, .slice b4 m4 d4] 34)))
  replace T3 := Lib.hid (T3.out.later (below_alloc w8 (.cells #[.bool (zneg t.num), .slice a4 n4 c4, .slice b4 m4 d4] 34)))
  replace R4 := Lib.hid (R4.out.later (below_alloc w8 (.cells #[.bool (zneg t.num), .slice a4 n4 c4, .slice b4 m4 d4] 34)))
  replace T4 := Lib.hid (T4.out.later (below_alloc w8 (.cells #[.bool (zneg t.num), .slice a4 n4 c4, .slice b4 m4 d4] 34)))
  obtain ⟨k0, k1, k2, k3, k4, k5, k6, k7, k8, k9, k10, k11, k12, k13, k14⟩ := cells_3_3_3_3_3 P0.out P1.out P2.out SU.out TI.out
  go_wp2
  clear k0 k1 k2 k3 k4 k5 k6 k7 k8 k9 k10 k11 k12 k13 k14
  generalize (w8.alloc (.cells #[.bool (zneg t.num), .slice a4 n4 c4, .slice b4 m4 d4] 34)) = W at *
  replace HB := Lib.hid (below_then HB.out ((Below.refl _ _).drew : Below W.heap.size W W.drew))
  replace P0 : Hid (W.drew.heap[w4.heap.size]? = _) := Lib.hid P0.out
  replace P1 : Hid (W.drew.heap[w5.heap.size]? = _) := Lib.hid P1.out
  replace P2 : Hid (W.drew.heap[w6.heap.size]? = _) := Lib.hid P2.out
  replace SU : Hid (W.drew.heap[w7.heap.size]? = _) := Lib.hid SU.out
  replace TI : Hid (W.drew.heap[w8.heap.size]? = _) := Lib.hid TI.out
  replace A0 := Lib.hid (A0.out.later ((Below.refl _ _).drew : Below W.heap.size W W.drew))
  replace B0 := Lib.hid (B0.out.later ((Below.refl _ _).drew : Below W.heap.size W W.drew))
  replace A1 := Lib.hid (A1.out.later ((Below.refl _ _).drew : Below W.heap.size W W.drew))
  replace B1 := Lib.hid (B1.out.later ((Below.refl _ _).drew : Below W.heap.size W W.drew))
  replace A2 := Lib.hid (A2.out.later ((Below.refl _ _).drew : Below W.heap.size W W.drew))
  replace B2 := Lib.hid (B2.out.later ((Below.refl _ _).drew : Below W.heap.size W W.drew))
  replace R3 := Lib.hid (R3.out.later ((Below.refl _ _).drew : Below W.heap.size W W.drew))
  replace T3 := Lib.hid (T3.out.later ((Below.refl _ _).drew : Below W.heap.size W W.drew))
  replace R4 := Lib.hid (R4.out.later ((Below.refl _ _).drew : Below W.heap.size W W.drew))
  replace T4 := Lib.hid (T4.out.later ((Below.refl _ _).drew : Below W.heap.size W W.drew))
  have rSn := cells_3_3_3_3_3 P0.out P1.out P2.out SU.out TI.out
  go_region_held3 (fun w' => w'.cell? ⟨w4.heap.size, 0, none⟩ = some (.bool s0) ∧ w'.cell? ⟨w4.heap.size, 1, none⟩ = some (.slice a0 n0 c0) ∧ w'.cell? ⟨w4.heap.size, 2, none⟩ = some (.slice b0 m0 d0) ∧ w'.cell? ⟨w5.heap.size, 0, none⟩ = some (.bool s1) ∧ w'.cell? ⟨w5.heap.size, 1, none⟩ = some (.slice a1 n1 c1) ∧ w'.cell? ⟨w5.heap.size, 2, none⟩ = some (.slice b1 m1 d1) ∧ w'.cell? ⟨w6.heap.size, 0, none⟩ = some (.bool s2) ∧ w'.cell? ⟨w6.heap.size, 1, none⟩ = some (.slice a2 n2 c2) ∧ w'.cell? ⟨w6.heap.size, 2, none⟩ = some (.slice b2 m2 d2) ∧ w'.cell? ⟨w7.heap.size, 0, none⟩ = some (.bool (zneg u.num)) ∧ w'.cell? ⟨w7.heap.size, 1, none⟩ = some (.slice a3 n3 c3) ∧ w'.cell? ⟨w7.heap.size, 2, none⟩ = some (.slice b3 m3 d3) ∧ w'.cell? ⟨w8.heap.size, 0, none⟩ = some (.bool (zneg t.num)) ∧ w'.cell? ⟨w8.heap.size, 1, none⟩ = some (.slice a4 n4 c4) ∧ w'.cell? ⟨w8.heap.size, 2, none⟩ = some (.slice b4 m4 d4)) (exact rSn)
    (first
    | (go_at_call 28; (first
      | (have rm11 := rM11; refine (S.add _ _ t o _ (Fr.right R4.out T4.out (by omega) (by omega)) (Fr.right R13.out T13.out (by omega) (by omega))).mono ?_; rintro e wr12 ⟨a14, n14, c14, b14, m14, d14, rfl, h14, g14, b⟩; replace HB := Lib.hid (below_then HB.out b); replace P0 := Lib.hid (blk_later P0.out b); replace P1 := Lib.hid (blk_later P1.out b); replace P2 := Lib.hid (blk_later P2.out b); replace SU := Lib.hid (blk_later SU.out b); replace TI := Lib.hid (blk_later TI.out b); replace A0 := Lib.hid (A0.out.later b); replace B0 := Lib.hid (B0.out.later b); replace A1 := Lib.hid (A1.out.later b); replace B1 := Lib.hid (B1.out.later b); replace A2 := Lib.hid (A2.out.later b); replace B2 := Lib.hid (B2.out.later b); replace R3 := Lib.hid (R3.out.later b); replace T3 := Lib.hid (T3.out.later b); replace R4 := Lib.hid (R4.out.later b); replace T4 := Lib.hid (T4.out.later b); replace R12 := Lib.hid (R12.out.later b); replace T12 := Lib.hid (T12.out.later b); clear R13; clear T13; have R14 := Lib.hid h14; have T14 := Lib.hid g14; rw [F3.out] at h14 g14 ⊢; have hN14 : n14 ≤ qlen z := (by rw [← h14.len]; exact qlen_num _); have hM14 : m14 ≤ qlen z := (by rw [← g14.len]; exact qlen_den _); replace R14 : Hid (Wd _ a14 n14 c14 (dg z.num.natAbs)) := Lib.hid h14; replace T14 : Hid (Wd _ b14 m14 d14 (dg z.den)) := Lib.hid g14; clear h14 g14; clear b; clear rSn; have rSn := cells_3_3_3_3_3 P0.out P1.out P2.out SU.out TI.out; clear rM11 rm11; have rM12 := True.intro)
      | (have rm8 := rM8; refine (S.add _ _ p1 p2 _ (Fr.of A1.out B1.out (by omega) (by omega) EQ1.out) (Fr.of A2.out B2.out (by omega) (by omega) EQ2.out)).mono ?_; rintro e wr9 ⟨a11, n11, c11, b11, m11, d11, rfl, h11, g11, b⟩; replace HB := Lib.hid (below_then HB.out b); replace P0 := Lib.hid (blk_later P0.out b); replace P1 := Lib.hid (blk_later P1.out b); replace P2 := Lib.hid (blk_later P2.out b); replace SU := Lib.hid (blk_later SU.out b); replace TI := Lib.hid (blk_later TI.out b); replace A0 := Lib.hid (A0.out.later b); replace B0 := Lib.hid (B0.out.later b); replace A1 := Lib.hid (A1.out.later b); replace B1 := Lib.hid (B1.out.later b); replace A2 := Lib.hid (A2.out.later b); replace B2 := Lib.hid (B2.out.later b); replace R3 := Lib.hid (R3.out.later b); replace T3 := Lib.hid (T3.out.later b); replace R4 := Lib.hid (R4.out.later b); replace T4 := Lib.hid (T4.out.later b); have R11 := Lib.hid h11; have T11 := Lib.hid g11; rw [Ey.out] at h11 g11 ⊢; have hN11 : n11 ≤ qlen y := (by rw [← h11.len]; exact qlen_num _); have hM11 : m11 ≤ qlen y := (by rw [← g11.len]; exact qlen_den _); replace R11 : Hid (Wd _ a11 n11 c11 (dg y.num.natAbs)) := Lib.hid h11; replace T11 : Hid (Wd _ b11 m11 d11 (dg y.den)) := Lib.hid g11; clear h11 g11; clear b; clear rSn; have rSn := cells_3_3_3_3_3 P0.out P1.out P2.out SU.out TI.out; clear rM8 rm8; have rM9 := True.intro)
      | (have rm2 := rM2; refine (S.add _ _ p0 v _ (Fr.of A0.out B0.out (by omega) (by omega) EQ0.out) (Fr.right R6.out T6.out (by omega) (by omega))).mono ?_; rintro e wr3 ⟨a7, n7, c7, b7, m7, d7, rfl, h7, g7, b⟩; replace HB := Lib.hid (below_then HB.out b); replace P0 := Lib.hid (blk_later P0.out b); replace P1 := Lib.hid (blk_later P1.out b); replace P2 := Lib.hid (blk_later P2.out b); replace SU := Lib.hid (blk_later SU.out b); replace TI := Lib.hid (blk_later TI.out b); replace A0 := Lib.hid (A0.out.later b); replace B0 := Lib.hid (B0.out.later b); replace A1 := Lib.hid (A1.out.later b); replace B1 := Lib.hid (B1.out.later b); replace A2 := Lib.hid (A2.out.later b); replace B2 := Lib.hid (B2.out.later b); replace R3 := Lib.hid (R3.out.later b); replace T3 := Lib.hid (T3.out.later b); replace R4 := Lib.hid (R4.out.later b); replace T4 := Lib.hid (T4.out.later b); replace R5 := Lib.hid (R5.out.later b); replace T5 := Lib.hid (T5.out.later b); clear R6; clear T6; have R7 := Lib.hid h7; have T7 := Lib.hid g7; rw [F1.out] at h7 g7 ⊢; have hN7 : n7 ≤ qlen u2 := (by rw [← h7.len]; exact qlen_num _); have hM7 : m7 ≤ qlen u2 := (by rw [← g7.len]; exact qlen_den _); replace R7 : Hid (Wd _ a7 n7 c7 (dg u2.num.natAbs)) := Lib.hid h7; replace T7 : Hid (Wd _ b7 m7 d7 (dg u2.den)) := Lib.hid g7; clear h7 g7; clear b; clear rSn; have rSn := cells_3_3_3_3_3 P0.out P1.out P2.out SU.out TI.out; clear rM2 rm2; have rM3 := True.intro)
      | (have rm1 := rM1; refine (S.add _ _ p2 p1 _ (Fr.of A2.out B2.out (by omega) (by omega) EQ2.out) (Fr.of A1.out B1.out (by omega) (by omega) EQ1.out)).mono ?_; rintro e wr2 ⟨a6, n6, c6, b6, m6, d6, rfl, h6, g6, b⟩; replace HB := Lib.hid (below_then HB.out b); replace P0 := Lib.hid (blk_later P0.out b); replace P1 := Lib.hid (blk_later P1.out b); replace P2 := Lib.hid (blk_later P2.out b); replace SU := Lib.hid (blk_later SU.out b); replace TI := Lib.hid (blk_later TI.out b); replace A0 := Lib.hid (A0.out.later b); replace B0 := Lib.hid (B0.out.later b); replace A1 := Lib.hid (A1.out.later b); replace B1 := Lib.hid (B1.out.later b); replace A2 := Lib.hid (A2.out.later b); replace B2 := Lib.hid (B2.out.later b); replace R3 := Lib.hid (R3.out.later b); replace T3 := Lib.hid (T3.out.later b); replace R4 := Lib.hid (R4.out.later b); replace T4 := Lib.hid (T4.out.later b); replace R5 := Lib.hid (R5.out.later b); replace T5 := Lib.hid (T5.out.later b); have R6 := Lib.hid h6; have T6 := Lib.hid g6; rw [Ev.out] at h6 g6 ⊢; have hN6 : n6 ≤ qlen v := (by rw [← h6.len]; exact qlen_num _); have hM6 : m6 ≤ qlen v := (by rw [← g6.len]; exact qlen_den _); replace R6 : Hid (Wd _ a6 n6 c6 (dg v.num.natAbs)) := Lib.hid h6; replace T6 : Hid (Wd _ b6 m6 d6 (dg v.den)) := Lib.hid g6; clear h6 g6; clear b; clear rSn; have rSn := cells_3_3_3_3_3 P0.out P1.out P2.out SU.out TI.out; clear rM1 rm1; have rM2 := True.intro)
      | (refine (S.add _ _ u p2 _ (Fr.right R3.out T3.out (by omega) (by omega)) (Fr.of A2.out B2.out (by omega) (by omega) EQ2.out)).mono ?_; rintro e wr1 ⟨a5, n5, c5, b5, m5, d5, rfl, h5, g5, b⟩; replace HB := Lib.hid (below_then HB.out b); replace P0 := Lib.hid (blk_later P0.out b); replace P1 := Lib.hid (blk_later P1.out b); replace P2 := Lib.hid (blk_later P2.out b); replace SU := Lib.hid (blk_later SU.out b); replace TI := Lib.hid (blk_later TI.out b); replace A0 := Lib.hid (A0.out.later b); replace B0 := Lib.hid (B0.out.later b); replace A1 := Lib.hid (A1.out.later b); replace B1 := Lib.hid (B1.out.later b); replace A2 := Lib.hid (A2.out.later b); replace B2 := Lib.hid (B2.out.later b); replace R3 := Lib.hid (R3.out.later b); replace T3 := Lib.hid (T3.out.later b); replace R4 := Lib.hid (R4.out.later b); replace T4 := Lib.hid (T4.out.later b); have R5 := Lib.hid h5; have T5 := Lib.hid g5; rw [Eu2.out] at h5 g5 ⊢; have hN5 : n5 ≤ qlen u2 := (by rw [← h5.len]; exact qlen_num _); have hM5 : m5 ≤ qlen u2 := (by rw [← g5.len]; exact qlen_den _); replace R5 : Hid (Wd _ a5 n5 c5 (dg u2.num.natAbs)) := Lib.hid h5; replace T5 : Hid (Wd _ b5 m5 d5 (dg u2.den)) := Lib.hid g5; clear h5 g5; clear b; clear rSn; have rSn := cells_3_3_3_3_3 P0.out P1.out P2.out SU.out TI.out; have rM1 := True.intro)))
    | (go_at_call 36; (first
      | (have rm12 := rM12; refine (law09_alike_yes (zneg z.num) a12 n12 c12 b12 m12 d12 (dg z.num.natAbs) (dg z.den) a14 n14 c14 b14 m14 d14 _ R12.out T12.out R14.out T14.out).mono ?_; rintro e wr13 ⟨rfl, b⟩; replace HB := Lib.hid (below_then HB.out b); replace P0 := Lib.hid (blk_later P0.out b); replace P1 := Lib.hid (blk_later P1.out b); replace P2 := Lib.hid (blk_later P2.out b); replace SU := Lib.hid (blk_later SU.out b); replace TI := Lib.hid (blk_later TI.out b); replace A0 := Lib.hid (A0.out.later b); replace B0 := Lib.hid (B0.out.later b); replace A1 := Lib.hid (A1.out.later b); replace B1 := Lib.hid (B1.out.later b); replace A2 := Lib.hid (A2.out.later b); replace B2 := Lib.hid (B2.out.later b); replace R3 := Lib.hid (R3.out.later b); replace T3 := Lib.hid (T3.out.later b); replace R4 := Lib.hid (R4.out.later b); replace T4 := Lib.hid (T4.out.later b); clear R12; clear T12; clear R14; clear T14; clear b; clear rSn; have rSn := cells_3_3_3_3_3 P0.out P1.out P2.out SU.out TI.out; clear rM12 rm12; have rM13 := True.intro)
      | (have rm7 := rM7; refine (law09_alike_yes (zneg t2.num) a8 n8 c8 b8 m8 d8 (dg t2.num.natAbs) (dg t2.den) a10 n10 c10 b10 m10 d10 _ R8.out T8.out R10.out T10.out).mono ?_; rintro e wr8 ⟨rfl, b⟩; replace HB := Lib.hid (below_then HB.out b); replace P0 := Lib.hid (blk_later P0.out b); replace P1 := Lib.hid (blk_later P1.out b); replace P2 := Lib.hid (blk_later P2.out b); replace SU := Lib.hid (blk_later SU.out b); replace TI := Lib.hid (blk_later TI.out b); replace A0 := Lib.hid (A0.out.later b); replace B0 := Lib.hid (B0.out.later b); replace A1 := Lib.hid (A1.out.later b); replace B1 := Lib.hid (B1.out.later b); replace A2 := Lib.hid (A2.out.later b); replace B2 := Lib.hid (B2.out.later b); replace R3 := Lib.hid (R3.out.later b); replace T3 := Lib.hid (T3.out.later b); replace R4 := Lib.hid (R4.out.later b); replace T4 := Lib.hid (T4.out.later b); clear R8; clear T8; clear R10; clear T10; clear b; clear rSn; have rSn := cells_3_3_3_3_3 P0.out P1.out P2.out SU.out TI.out; clear rM7 rm7; have rM8 := True.intro)
      | (have rm3 := rM3; refine (law09_alike_yes (zneg u2.num) a5 n5 c5 b5 m5 d5 (dg u2.num.natAbs) (dg u2.den) a7 n7 c7 b7 m7 d7 _ R5.out T5.out R7.out T7.out).mono ?_; rintro e wr4 ⟨rfl, b⟩; replace HB := Lib.hid (below_then HB.out b); replace P0 := Lib.hid (blk_later P0.out b); replace P1 := Lib.hid (blk_later P1.out b); replace P2 := Lib.hid (blk_later P2.out b); replace SU := Lib.hid (blk_later SU.out b); replace TI := Lib.hid (blk_later TI.out b); replace A0 := Lib.hid (A0.out.later b); replace B0 := Lib.hid (B0.out.later b); replace A1 := Lib.hid (A1.out.later b); replace B1 := Lib.hid (B1.out.later b); replace A2 := Lib.hid (A2.out.later b); replace B2 := Lib.hid (B2.out.later b); replace R3 := Lib.hid (R3.out.later b); replace T3 := Lib.hid (T3.out.later b); replace R4 := Lib.hid (R4.out.later b); replace T4 := Lib.hid (T4.out.later b); clear R5; clear T5; clear R7; clear T7; clear b; clear rSn; have rSn := cells_3_3_3_3_3 P0.out P1.out P2.out SU.out TI.out; clear rM3 rm3; have rM4 := True.intro)))
    | (go_at_call 32; (first
      | (have rm10 := rM10; refine (S.mul _ _ p0 p2 _ (Fr.of A0.out B0.out (by omega) (by omega) EQ0.out) (Fr.of A2.out B2.out (by omega) (by omega) EQ2.out)).mono ?_; rintro e wr11 ⟨a13, n13, c13, b13, m13, d13, rfl, h13, g13, b⟩; replace HB := Lib.hid (below_then HB.out b); replace P0 := Lib.hid (blk_later P0.out b); replace P1 := Lib.hid (blk_later P1.out b); replace P2 := Lib.hid (blk_later P2.out b); replace SU := Lib.hid (blk_later SU.out b); replace TI := Lib.hid (blk_later TI.out b); replace A0 := Lib.hid (A0.out.later b); replace B0 := Lib.hid (B0.out.later b); replace A1 := Lib.hid (A1.out.later b); replace B1 := Lib.hid (B1.out.later b); replace A2 := Lib.hid (A2.out.later b); replace B2 := Lib.hid (B2.out.later b); replace R3 := Lib.hid (R3.out.later b); replace T3 := Lib.hid (T3.out.later b); replace R4 := Lib.hid (R4.out.later b); replace T4 := Lib.hid (T4.out.later b); replace R12 := Lib.hid (R12.out.later b); replace T12 := Lib.hid (T12.out.later b); have R13 := Lib.hid h13; have T13 := Lib.hid g13; rw [Eo.out] at h13 g13 ⊢; have hN13 : n13 ≤ qlen o := (by rw [← h13.len]; exact qlen_num _); have hM13 : m13 ≤ qlen o := (by rw [← g13.len]; exact qlen_den _); replace R13 : Hid (Wd _ a13 n13 c13 (dg o.num.natAbs)) := Lib.hid h13; replace T13 : Hid (Wd _ b13 m13 d13 (dg o.den)) := Lib.hid g13; clear h13 g13; clear b; clear rSn; have rSn := cells_3_3_3_3_3 P0.out P1.out P2.out SU.out TI.out; clear rM10 rm10; have rM11 := True.intro)
      | (have rm9 := rM9; refine (S.mul _ _ p0 y _ (Fr.of A0.out B0.out (by omega) (by omega) EQ0.out) (Fr.right R11.out T11.out (by omega) (by omega))).mono ?_; rintro e wr10 ⟨a12, n12, c12, b12, m12, d12, rfl, h12, g12, b⟩; replace HB := Lib.hid (below_then HB.out b); replace P0 := Lib.hid (blk_later P0.out b); replace P1 := Lib.hid (blk_later P1.out b); replace P2 := Lib.hid (blk_later P2.out b); replace SU := Lib.hid (blk_later SU.out b); replace TI := Lib.hid (blk_later TI.out b); replace A0 := Lib.hid (A0.out.later b); replace B0 := Lib.hid (B0.out.later b); replace A1 := Lib.hid (A1.out.later b); replace B1 := Lib.hid (B1.out.later b); replace A2 := Lib.hid (A2.out.later b); replace B2 := Lib.hid (B2.out.later b); replace R3 := Lib.hid (R3.out.later b); replace T3 := Lib.hid (T3.out.later b); replace R4 := Lib.hid (R4.out.later b); replace T4 := Lib.hid (T4.out.later b); clear R11; clear T11; have R12 := Lib.hid h12; have T12 := Lib.hid g12; rw [Ez.out] at h12 g12 ⊢; have hN12 : n12 ≤ qlen z := (by rw [← h12.len]; exact qlen_num _); have hM12 : m12 ≤ qlen z := (by rw [← g12.len]; exact qlen_den _); replace R12 : Hid (Wd _ a12 n12 c12 (dg z.num.natAbs)) := Lib.hid h12; replace T12 : Hid (Wd _ b12 m12 d12 (dg z.den)) := Lib.hid g12; clear h12 g12; clear b; clear rSn; have rSn := cells_3_3_3_3_3 P0.out P1.out P2.out SU.out TI.out; clear rM9 rm9; have rM10 := True.intro)
      | (have rm6 := rM6; refine (S.mul _ _ p0 x _ (Fr.of A0.out B0.out (by omega) (by omega) EQ0.out) (Fr.right R9.out T9.out (by omega) (by omega))).mono ?_; rintro e wr7 ⟨a10, n10, c10, b10, m10, d10, rfl, h10, g10, b⟩; replace HB := Lib.hid (below_then HB.out b); replace P0 := Lib.hid (blk_later P0.out b); replace P1 := Lib.hid (blk_later P1.out b); replace P2 := Lib.hid (blk_later P2.out b); replace SU := Lib.hid (blk_later SU.out b); replace TI := Lib.hid (blk_later TI.out b); replace A0 := Lib.hid (A0.out.later b); replace B0 := Lib.hid (B0.out.later b); replace A1 := Lib.hid (A1.out.later b); replace B1 := Lib.hid (B1.out.later b); replace A2 := Lib.hid (A2.out.later b); replace B2 := Lib.hid (B2.out.later b); replace R3 := Lib.hid (R3.out.later b); replace T3 := Lib.hid (T3.out.later b); replace R4 := Lib.hid (R4.out.later b); replace T4 := Lib.hid (T4.out.later b); replace R8 := Lib.hid (R8.out.later b); replace T8 := Lib.hid (T8.out.later b); clear R9; clear T9; have R10 := Lib.hid h10; have T10 := Lib.hid g10; rw [F2.out] at h10 g10 ⊢; have hN10 : n10 ≤ qlen t2 := (by rw [← h10.len]; exact qlen_num _); have hM10 : m10 ≤ qlen t2 := (by rw [← g10.len]; exact qlen_den _); replace R10 : Hid (Wd _ a10 n10 c10 (dg t2.num.natAbs)) := Lib.hid h10; replace T10 : Hid (Wd _ b10 m10 d10 (dg t2.den)) := Lib.hid g10; clear h10 g10; clear b; clear rSn; have rSn := cells_3_3_3_3_3 P0.out P1.out P2.out SU.out TI.out; clear rM6 rm6; have rM7 := True.intro)
      | (have rm5 := rM5; refine (S.mul _ _ p2 p1 _ (Fr.of A2.out B2.out (by omega) (by omega) EQ2.out) (Fr.of A1.out B1.out (by omega) (by omega) EQ1.out)).mono ?_; rintro e wr6 ⟨a9, n9, c9, b9, m9, d9, rfl, h9, g9, b⟩; replace HB := Lib.hid (below_then HB.out b); replace P0 := Lib.hid (blk_later P0.out b); replace P1 := Lib.hid (blk_later P1.out b); replace P2 := Lib.hid (blk_later P2.out b); replace SU := Lib.hid (blk_later SU.out b); replace TI := Lib.hid (blk_later TI.out b); replace A0 := Lib.hid (A0.out.later b); replace B0 := Lib.hid (B0.out.later b); replace A1 := Lib.hid (A1.out.later b); replace B1 := Lib.hid (B1.out.later b); replace A2 := Lib.hid (A2.out.later b); replace B2 := Lib.hid (B2.out.later b); replace R3 := Lib.hid (R3.out.later b); replace T3 := Lib.hid (T3.out.later b); replace R4 := Lib.hid (R4.out.later b); replace T4 := Lib.hid (T4.out.later b); replace R8 := Lib.hid (R8.out.later b); replace T8 := Lib.hid (T8.out.later b); have R9 := Lib.hid h9; have T9 := Lib.hid g9; rw [Ex.out] at h9 g9 ⊢; have hN9 : n9 ≤ qlen x := (by rw [← h9.len]; exact qlen_num _); have hM9 : m9 ≤ qlen x := (by rw [← g9.len]; exact qlen_den _); replace R9 : Hid (Wd _ a9 n9 c9 (dg x.num.natAbs)) := Lib.hid h9; replace T9 : Hid (Wd _ b9 m9 d9 (dg x.den)) := Lib.hid g9; clear h9 g9; clear b; clear rSn; have rSn := cells_3_3_3_3_3 P0.out P1.out P2.out SU.out TI.out; clear rM5 rm5; have rM6 := True.intro)
      | (have rm4 := rM4; refine (S.mul _ _ t p2 _ (Fr.right R4.out T4.out (by omega) (by omega)) (Fr.of A2.out B2.out (by omega) (by omega) EQ2.out)).mono ?_; rintro e wr5 ⟨a8, n8, c8, b8, m8, d8, rfl, h8, g8, b⟩; replace HB := Lib.hid (below_then HB.out b); replace P0 := Lib.hid (blk_later P0.out b); replace P1 := Lib.hid (blk_later P1.out b); replace P2 := Lib.hid (blk_later P2.out b); replace SU := Lib.hid (blk_later SU.out b); replace TI := Lib.hid (blk_later TI.out b); replace A0 := Lib.hid (A0.out.later b); replace B0 := Lib.hid (B0.out.later b); replace A1 := Lib.hid (A1.out.later b); replace B1 := Lib.hid (B1.out.later b); replace A2 := Lib.hid (A2.out.later b); replace B2 := Lib.hid (B2.out.later b); replace R3 := Lib.hid (R3.out.later b); replace T3 := Lib.hid (T3.out.later b); replace R4 := Lib.hid (R4.out.later b); replace T4 := Lib.hid (T4.out.later b); have R8 := Lib.hid h8; have T8 := Lib.hid g8; rw [Et2.out] at h8 g8 ⊢; have hN8 : n8 ≤ qlen t2 := (by rw [← h8.len]; exact qlen_num _); have hM8 : m8 ≤ qlen t2 := (by rw [← g8.len]; exact qlen_den _); replace R8 : Hid (Wd _ a8 n8 c8 (dg t2.num.natAbs)) := Lib.hid h8; replace T8 : Hid (Wd _ b8 m8 d8 (dg t2.den)) := Lib.hid g8; clear h8 g8; clear b; clear rSn; have rSn := cells_3_3_3_3_3 P0.out P1.out P2.out SU.out TI.out; clear rM4 rm4; have rM5 := True.intro))))
  obtain ⟨vk0, vk1, vk2, vk3, vk4, vk5, vk6, vk7, vk8, vk9, vk10, vk11, vk12, vk13, vk14⟩ := cells_3_3_3_3_3 P0.out P1.out P2.out SU.out TI.out
  go_wp2_with fail
  refine (S.quo _ _ t p1 _ (Fr.right R4.out T4.out (by omega) (by omega)) (Fr.of A1.out B1.out (by omega) (by omega) EQ1.out)).mono ?_
  rintro e wv1 ⟨a15, n15, c15, b15, m15, d15, rfl, h15, g15, b⟩
  clear vk0 vk1 vk2 vk3 vk4 vk5 vk6 vk7 vk8 vk9 vk10 vk11 vk12 vk13 vk14
  replace HB := Lib.hid (below_then HB.out b)
  replace P0 := Lib.hid (blk_later P0.out b)
  replace P1 := Lib.hid (blk_later P1.out b)
  replace P2 := Lib.hid (blk_later P2.out b)
  replace SU := Lib.hid (blk_later SU.out b)
  replace TI := Lib.hid (blk_later TI.out b)
  replace A0 := Lib.hid (A0.out.later b)
  replace B0 := Lib.hid (B0.out.later b)
  replace A1 := Lib.hid (A1.out.later b)
  replace B1 := Lib.hid (B1.out.later b)
  replace A2 := Lib.hid (A2.out.later b)
  replace B2 := Lib.hid (B2.out.later b)
  replace R3 := Lib.hid (R3.out.later b)
  replace T3 := Lib.hid (T3.out.later b)
  replace R4 := Lib.hid (R4.out.later b)
  replace T4 := Lib.hid (T4.out.later b)
  clear b
  rw [Ek.out, F5.out] at h15 g15 ⊢
  rw [show decide (p1 ≠ 0) = true from decide_eq_true H0.out]
  have hN15 : n15 ≤ qlen p0 := (by rw [← h15.len]; exact qlen_num _)
  have hM15 : m15 ≤ qlen p0 := (by rw [← g15.len]; exact qlen_den _)
  have R15 := Lib.hid h15
  have T15 := Lib.hid g15
  clear h15 g15
  unfold frV
  have BK : Hid ((World.alloc wv1 (.cells #[.bool (zneg p0.num), .slice a15 n15 c15, .slice b15 m15 d15] 34)).heap[wv1.heap.size]? = some (.cells #[.bool (zneg p0.num), .slice a15 n15 c15, .slice b15 m15 d15] 34 (0, 0))) := Lib.hid (blk_new wv1 _ _)
  replace HB := Lib.hid (below_then HB.out (below_alloc wv1 (.cells #[.bool (zneg p0.num), .slice a15 n15 c15, .slice b15 m15 d15] 34)))
  replace P0 := Lib.hid (blk_later P0.out (below_alloc wv1 (.cells #[.bool (zneg p0.num), .slice a15 n15 c15, .slice b15 m15 d15] 34)))
  replace P1 := Lib.hid (blk_later P1.out (below_alloc wv1 (.cells #[.bool (zneg p0.num), .slice a15 n15 c15, .slice b15 m15 d15] 34)))
  replace P2 := Lib.hid (blk_later P2.out (below_alloc wv1 (.cells #[.bool (zneg p0.num), .slice a15 n15 c15, .slice b15 m15 d15] 34)))
  replace SU := Lib.hid (blk_later SU.out (below_alloc wv1 (.cells #[.bool (zneg p0.num), .slice a15 n15 c15, .slice b15 m15 d15] 34)))
  replace TI := Lib.hid (blk_later TI.out (below_alloc wv1 (.cells #[.bool (zneg p0.num), .slice a15 n15 c15, .slice b15 m15 d15] 34)))
  replace A0 := Lib.hid (A0.out.later (below_alloc wv1 (.cells #[.bool (zneg p0.num), .slice a15 n15 c15, .slice b15 m15 d15] 34)))
  replace B0 := Lib.hid (B0.out.later (below_alloc wv1 (.cells #[.bool (zneg p0.num), .slice a15 n15 c15, .slice b15 m15 d15] 34)))
  replace A1 := Lib.hid (A1.out.later (below_alloc wv1 (.cells #[.bool (zneg p0.num), .slice a15 n15 c15, .slice b15 m15 d15] 34)))
  replace B1 := Lib.hid (B1.out.later (below_alloc wv1 (.cells #[.bool (zneg p0.num), .slice a15 n15 c15, .slice b15 m15 d15] 34)))
  replace A2 := Lib.hid (A2.out.later (below_alloc wv1 (.cells #[.bool (zneg p0.num), .slice a15 n15 c15, .slice b15 m15 d15] 34)))
  replace B2 := Lib.hid (B2.out.later (below_alloc wv1 (.cells #[.bool (zneg p0.num), .slice a15 n15 c15, .slice b15 m15 d15] 34)))
  replace R3 := Lib.hid (R3.out.later (below_alloc wv1 (.cells #[.bool (zneg p0.num), .slice a15 n15 c15, .slice b15 m15 d15] 34)))
  replace T3 := Lib.hid (T3.out.later (below_alloc wv1 (.cells #[.bool (zneg p0.num), .slice a15 n15 c15, .slice b15 m15 d15] 34)))
  replace R4 := Lib.hid (R4.out.later (below_alloc wv1 (.cells #[.bool (zneg p0.num), .slice a15 n15 c15, .slice b15 m15 d15] 34)))
  replace T4 := Lib.hid (T4.out.later (below_alloc wv1 (.cells #[.bool (zneg p0.num), .slice a15 n15 c15, .slice b15 m15 d15] 34)))
  replace R15 := Lib.hid (R15.out.later (below_alloc wv1 (.cells #[.bool (zneg p0.num), .slice a15 n15 c15, .slice b15 m15 d15] 34)))
  replace T15 := Lib.hid (T15.out.later (below_alloc wv1 (.cells #[.bool (zneg p0.num), .slice a15 n15 c15, .slice b15 m15 d15] 34)))
  obtain ⟨vk0, vk1, vk2, vk3, vk4, vk5, vk6, vk7, vk8, vk9, vk10, vk11, vk12, vk13, vk14, vk15, vk16, vk17⟩ := cells_3_3_3_3_3_3 P0.out P1.out P2.out SU.out TI.out BK.out
  go_wp2
  clear vk0 vk1 vk2 vk3 vk4 vk5 vk6 vk7 vk8 vk9 vk10 vk11 vk12 vk13 vk14 vk15 vk16 vk17
  generalize (wv1.alloc (.cells #[.bool (zneg p0.num), .slice a15 n15 c15, .slice b15 m15 d15] 34)) = V at *
  replace HB := Lib.hid (below_then HB.out ((Below.refl _ _).drew : Below V.heap.size V V.drew))
  replace P0 : Hid (V.drew.heap[w4.heap.size]? = _) := Lib.hid P0.out
  replace P1 : Hid (V.drew.heap[w5.heap.size]? = _) := Lib.hid P1.out
  replace SU : Hid (V.drew.heap[w7.heap.size]? = _) := Lib.hid SU.out
  replace BK : Hid (V.drew.heap[wv1.heap.size]? = _) := Lib.hid BK.out
  replace A0 := Lib.hid (A0.out.later ((Below.refl _ _).drew : Below V.heap.size V V.drew))
  replace B0 := Lib.hid (B0.out.later ((Below.refl _ _).drew : Below V.heap.size V V.drew))
  replace A1 := Lib.hid (A1.out.later ((Below.refl _ _).drew : Below V.heap.size V V.drew))
  replace B1 := Lib.hid (B1.out.later ((Below.refl _ _).drew : Below V.heap.size V V.drew))
  replace R3 := Lib.hid (R3.out.later ((Below.refl _ _).drew : Below V.heap.size V V.drew))
  replace T3 := Lib.hid (T3.out.later ((Below.refl _ _).drew : Below V.heap.size V V.drew))
  replace R15 := Lib.hid (R15.out.later ((Below.refl _ _).drew : Below V.heap.size V V.drew))
  replace T15 := Lib.hid (T15.out.later ((Below.refl _ _).drew : Below V.heap.size V V.drew))
  have sSn := cells_3_3_3_3 P0.out P1.out SU.out BK.out
  go_region_held3 (fun w' => w'.cell? ⟨w4.heap.size, 0, none⟩ = some (.bool s0) ∧ w'.cell? ⟨w4.heap.size, 1, none⟩ = some (.slice a0 n0 c0) ∧ w'.cell? ⟨w4.heap.size, 2, none⟩ = some (.slice b0 m0 d0) ∧ w'.cell? ⟨w5.heap.size, 0, none⟩ = some (.bool s1) ∧ w'.cell? ⟨w5.heap.size, 1, none⟩ = some (.slice a1 n1 c1) ∧ w'.cell? ⟨w5.heap.size, 2, none⟩ = some (.slice b1 m1 d1) ∧ w'.cell? ⟨w7.heap.size, 0, none⟩ = some (.bool (zneg u.num)) ∧ w'.cell? ⟨w7.heap.size, 1, none⟩ = some (.slice a3 n3 c3) ∧ w'.cell? ⟨w7.heap.size, 2, none⟩ = some (.slice b3 m3 d3) ∧ w'.cell? ⟨wv1.heap.size, 0, none⟩ = some (.bool (zneg p0.num)) ∧ w'.cell? ⟨wv1.heap.size, 1, none⟩ = some (.slice a15 n15 c15) ∧ w'.cell? ⟨wv1.heap.size, 2, none⟩ = some (.slice b15 m15 d15)) (exact sSn)
    (first
    | (go_at_call 30; (first
      | (refine (S.sub _ _ u p1 _ (Fr.right R3.out T3.out (by omega) (by omega)) (Fr.of A1.out B1.out (by omega) (by omega) EQ1.out)).mono ?_; rintro e ws1 ⟨a16, n16, c16, b16, m16, d16, rfl, h16, g16, b⟩; replace HB := Lib.hid (below_then HB.out b); replace P0 := Lib.hid (blk_later P0.out b); replace P1 := Lib.hid (blk_later P1.out b); replace SU := Lib.hid (blk_later SU.out b); replace BK := Lib.hid (blk_later BK.out b); replace A0 := Lib.hid (A0.out.later b); replace B0 := Lib.hid (B0.out.later b); replace A1 := Lib.hid (A1.out.later b); replace B1 := Lib.hid (B1.out.later b); replace R3 := Lib.hid (R3.out.later b); replace T3 := Lib.hid (T3.out.later b); replace R15 := Lib.hid (R15.out.later b); replace T15 := Lib.hid (T15.out.later b); have R16 := Lib.hid h16; have T16 := Lib.hid g16; rw [F4.out] at h16 g16 ⊢; have hN16 : n16 ≤ qlen p0 := (by rw [← h16.len]; exact qlen_num _); have hM16 : m16 ≤ qlen p0 := (by rw [← g16.len]; exact qlen_den _); replace R16 : Hid (Wd _ a16 n16 c16 (dg p0.num.natAbs)) := Lib.hid h16; replace T16 : Hid (Wd _ b16 m16 d16 (dg p0.den)) := Lib.hid g16; clear h16 g16; clear b; clear sSn; have sSn := cells_3_3_3_3 P0.out P1.out SU.out BK.out; have sM1 := True.intro)))
    | (go_at_call 37; (first
      | (have sm6 := sM6; refine (S.norm _ p0 _ (Fr.of A0.out B0.out (by omega) (by omega) EQ0.out)).mono ?_; rintro e ws7 ⟨a19, n19, c19, b19, m19, d19, rfl, h19, g19, b⟩; replace HB := Lib.hid (below_then HB.out b); replace P0 := Lib.hid (blk_later P0.out b); replace P1 := Lib.hid (blk_later P1.out b); replace SU := Lib.hid (blk_later SU.out b); replace BK := Lib.hid (blk_later BK.out b); replace A0 := Lib.hid (A0.out.later b); replace B0 := Lib.hid (B0.out.later b); replace A1 := Lib.hid (A1.out.later b); replace B1 := Lib.hid (B1.out.later b); replace R3 := Lib.hid (R3.out.later b); replace T3 := Lib.hid (T3.out.later b); replace R15 := Lib.hid (R15.out.later b); replace T15 := Lib.hid (T15.out.later b); have R19 := Lib.hid h19; have T19 := Lib.hid g19; have hN19 : n19 ≤ qlen p0 := (by rw [← h19.len]; exact qlen_num _); have hM19 : m19 ≤ qlen p0 := (by rw [← g19.len]; exact qlen_den _); clear h19 g19; clear b; clear sSn; have sSn := cells_3_3_3_3 P0.out P1.out SU.out BK.out; clear sM6 sm6; have sM7 := True.intro)
      | (have sm4 := sM4; refine (S.norm _ p0 _ (Fr.of A0.out B0.out (by omega) (by omega) EQ0.out)).mono ?_; rintro e ws5 ⟨a18, n18, c18, b18, m18, d18, rfl, h18, g18, b⟩; replace HB := Lib.hid (below_then HB.out b); replace P0 := Lib.hid (blk_later P0.out b); replace P1 := Lib.hid (blk_later P1.out b); replace SU := Lib.hid (blk_later SU.out b); replace BK := Lib.hid (blk_later BK.out b); replace A0 := Lib.hid (A0.out.later b); replace B0 := Lib.hid (B0.out.later b); replace A1 := Lib.hid (A1.out.later b); replace B1 := Lib.hid (B1.out.later b); replace R3 := Lib.hid (R3.out.later b); replace T3 := Lib.hid (T3.out.later b); replace R15 := Lib.hid (R15.out.later b); replace T15 := Lib.hid (T15.out.later b); have R18 := Lib.hid h18; have T18 := Lib.hid g18; have hN18 : n18 ≤ qlen p0 := (by rw [← h18.len]; exact qlen_num _); have hM18 : m18 ≤ qlen p0 := (by rw [← g18.len]; exact qlen_den _); clear h18 g18; clear b; clear sSn; have sSn := cells_3_3_3_3 P0.out P1.out SU.out BK.out; clear sM4 sm4; have sM5 := True.intro)
      | (have sm1 := sM1; refine (S.norm _ p0 _ (Fr.of A0.out B0.out (by omega) (by omega) EQ0.out)).mono ?_; rintro e ws2 ⟨a17, n17, c17, b17, m17, d17, rfl, h17, g17, b⟩; replace HB := Lib.hid (below_then HB.out b); replace P0 := Lib.hid (blk_later P0.out b); replace P1 := Lib.hid (blk_later P1.out b); replace SU := Lib.hid (blk_later SU.out b); replace BK := Lib.hid (blk_later BK.out b); replace A0 := Lib.hid (A0.out.later b); replace B0 := Lib.hid (B0.out.later b); replace A1 := Lib.hid (A1.out.later b); replace B1 := Lib.hid (B1.out.later b); replace R3 := Lib.hid (R3.out.later b); replace T3 := Lib.hid (T3.out.later b); replace R15 := Lib.hid (R15.out.later b); replace T15 := Lib.hid (T15.out.later b); replace R16 := Lib.hid (R16.out.later b); replace T16 := Lib.hid (T16.out.later b); have R17 := Lib.hid h17; have T17 := Lib.hid g17; have hN17 : n17 ≤ qlen p0 := (by rw [← h17.len]; exact qlen_num _); have hM17 : m17 ≤ qlen p0 := (by rw [← g17.len]; exact qlen_den _); clear h17 g17; clear b; clear sSn; have sSn := cells_3_3_3_3 P0.out P1.out SU.out BK.out; clear sM1 sm1; have sM2 := True.intro)))
    | (go_at_call 36; (first
      | (have sm5 := sM5; refine (law09_alike_yes (zneg p0.num) a15 n15 c15 b15 m15 d15 (dg p0.num.natAbs) (dg p0.den) a18 n18 c18 b18 m18 d18 _ R15.out T15.out R18.out T18.out).mono ?_; rintro e ws6 ⟨rfl, b⟩; replace HB := Lib.hid (below_then HB.out b); replace P0 := Lib.hid (blk_later P0.out b); replace P1 := Lib.hid (blk_later P1.out b); replace SU := Lib.hid (blk_later SU.out b); replace BK := Lib.hid (blk_later BK.out b); replace A0 := Lib.hid (A0.out.later b); replace B0 := Lib.hid (B0.out.later b); replace A1 := Lib.hid (A1.out.later b); replace B1 := Lib.hid (B1.out.later b); replace R3 := Lib.hid (R3.out.later b); replace T3 := Lib.hid (T3.out.later b); replace R15 := Lib.hid (R15.out.later b); replace T15 := Lib.hid (T15.out.later b); clear R18; clear T18; clear b; clear sSn; have sSn := cells_3_3_3_3 P0.out P1.out SU.out BK.out; clear sM5 sm5; have sM6 := True.intro)
      | (have sm2 := sM2; refine (law09_alike_yes (zneg p0.num) a16 n16 c16 b16 m16 d16 (dg p0.num.natAbs) (dg p0.den) a17 n17 c17 b17 m17 d17 _ R16.out T16.out R17.out T17.out).mono ?_; rintro e ws3 ⟨rfl, b⟩; replace HB := Lib.hid (below_then HB.out b); replace P0 := Lib.hid (blk_later P0.out b); replace P1 := Lib.hid (blk_later P1.out b); replace SU := Lib.hid (blk_later SU.out b); replace BK := Lib.hid (blk_later BK.out b); replace A0 := Lib.hid (A0.out.later b); replace B0 := Lib.hid (B0.out.later b); replace A1 := Lib.hid (A1.out.later b); replace B1 := Lib.hid (B1.out.later b); replace R3 := Lib.hid (R3.out.later b); replace T3 := Lib.hid (T3.out.later b); replace R15 := Lib.hid (R15.out.later b); replace T15 := Lib.hid (T15.out.later b); clear R16; clear T16; clear R17; clear T17; clear b; clear sSn; have sSn := cells_3_3_3_3 P0.out P1.out SU.out BK.out; clear sM2 sm2; have sM3 := True.intro)))
    | (go_at_call 38; (first
      | (have sm3 := sM3; refine (S.sign _ p1 _ (Fr.of A1.out B1.out (by omega) (by omega) EQ1.out)).mono ?_; rintro e ws4 ⟨rfl, b⟩; replace HB := Lib.hid (below_then HB.out b); replace P0 := Lib.hid (blk_later P0.out b); replace P1 := Lib.hid (blk_later P1.out b); replace SU := Lib.hid (blk_later SU.out b); replace BK := Lib.hid (blk_later BK.out b); replace A0 := Lib.hid (A0.out.later b); replace B0 := Lib.hid (B0.out.later b); replace A1 := Lib.hid (A1.out.later b); replace B1 := Lib.hid (B1.out.later b); replace R3 := Lib.hid (R3.out.later b); replace T3 := Lib.hid (T3.out.later b); replace R15 := Lib.hid (R15.out.later b); replace T15 := Lib.hid (T15.out.later b); rw [← Hso.out]; clear b; clear sSn; have sSn := cells_3_3_3_3 P0.out P1.out SU.out BK.out; clear sM3 sm3; have sM4 := True.intro)))
    | (go_at_call 39; (first
      | (have sm7 := sM7; refine (S.same _ _ p0 p0 _ (Fr.of A0.out B0.out (by omega) (by omega) EQ0.out) (Fr.right R19.out T19.out (by omega) (by omega))).mono ?_; rintro e ws8 ⟨rfl, b⟩; replace HB := Lib.hid (below_then HB.out b); replace P0 := Lib.hid (blk_later P0.out b); replace P1 := Lib.hid (blk_later P1.out b); replace SU := Lib.hid (blk_later SU.out b); replace BK := Lib.hid (blk_later BK.out b); replace A0 := Lib.hid (A0.out.later b); replace B0 := Lib.hid (B0.out.later b); replace A1 := Lib.hid (A1.out.later b); replace B1 := Lib.hid (B1.out.later b); replace R3 := Lib.hid (R3.out.later b); replace T3 := Lib.hid (T3.out.later b); replace R15 := Lib.hid (R15.out.later b); replace T15 := Lib.hid (T15.out.later b); clear R19; clear T19; rw [show decide (p0 = p0) = true from decide_eq_true rfl]; clear b; clear sSn; have sSn := cells_3_3_3_3 P0.out P1.out SU.out BK.out; clear sM7 sm7; have sM8 := True.intro)))
    | (go_at_call 40; (first
      | (have sm8 := sM8; refine (S.right (zneg u.num) a3 n3 c3 (dg u.num.natAbs) b3 m3 d3 (dg u.den) u _ R3.out T3.out (by omega) (by omega) (qval_dg u)).mono ?_; rintro e ws9 ⟨rfl, b⟩; replace HB := Lib.hid (below_then HB.out b); replace P0 := Lib.hid (blk_later P0.out b); replace P1 := Lib.hid (blk_later P1.out b); replace SU := Lib.hid (blk_later SU.out b); replace BK := Lib.hid (blk_later BK.out b); replace A0 := Lib.hid (A0.out.later b); replace B0 := Lib.hid (B0.out.later b); replace A1 := Lib.hid (A1.out.later b); replace B1 := Lib.hid (B1.out.later b); replace R3 := Lib.hid (R3.out.later b); replace T3 := Lib.hid (T3.out.later b); replace R15 := Lib.hid (R15.out.later b); replace T15 := Lib.hid (T15.out.later b); rw [right_yes u]; clear b; clear sSn; have sSn := cells_3_3_3_3 P0.out P1.out SU.out BK.out; clear sM8 sm8; have sM9 := True.intro)))
    | (go_at_call 10; (first
      | (have sm9 := sM9; refine (law09_works S _).mono ?_; rintro e ws10 ⟨rfl, b⟩; replace HB := Lib.hid (below_then HB.out b); replace P0 := Lib.hid (blk_later P0.out b); replace P1 := Lib.hid (blk_later P1.out b); replace SU := Lib.hid (blk_later SU.out b); replace BK := Lib.hid (blk_later BK.out b); replace A0 := Lib.hid (A0.out.later b); replace B0 := Lib.hid (B0.out.later b); replace A1 := Lib.hid (A1.out.later b); replace B1 := Lib.hid (B1.out.later b); replace R3 := Lib.hid (R3.out.later b); replace T3 := Lib.hid (T3.out.later b); replace R15 := Lib.hid (R15.out.later b); replace T15 := Lib.hid (T15.out.later b); clear b; clear sSn; have sSn := cells_3_3_3_3 P0.out P1.out SU.out BK.out; clear sM9 sm9; have sM10 := True.intro))))
  go_wp2
  go_ret
  exact ⟨rfl, HB.out⟩
end Go.Proofs.Ytpjgmkkdbmegjaa
