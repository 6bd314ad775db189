/-
  The walks of the laws of layer 9: FracOrder, where they are not in order.
-/
import Derived.Test.YtpjgmkkdbmegjaaLaw09Walks6M
import Derived.Deep.RegionHeld3
namespace Go.Proofs.Ytpjgmkkdbmegjaa
open Go.RowKit

set_option maxRecDepth 4096 in
set_option maxHeartbeats 16000000 in
theorem law09_order_one (S : FracSaid) (s0 : Bool) (a0 : Option Addr) (n0 c0 : Nat) (la0 : List Nat) (b0 : Option Addr) (m0 d0 : Nat) (lb0 : List Nat) (s1 : Bool) (a1 : Option Addr) (n1 c1 : Nat) (la1 : List Nat) (b1 : Option Addr) (m1 d1 : Nat) (lb1 : List Nat) (s2 : Bool) (a2 : Option Addr) (n2 c2 : Nat) (la2 : List Nat) (b2 : Option Addr) (m2 d2 : Nat) (lb2 : List Nat) (w : World) (ha0 : Wd w a0 n0 c0 la0) (hb0 : Wd w b0 m0 d0 lb0) (ha1 : Wd w a1 n1 c1 la1) (hb1 : Wd w b1 m1 d1 lb1) (ha2 : Wd w a2 n2 c2 la2) (hb2 : Wd w b2 m2 d2 lb2) (hn0 : n0 ≤ 6) (hm0 : m0 ≤ 6) (hn1 : n1 ≤ 6) (hm1 : m1 ≤ 6) (hn2 : n2 ≤ 6) (hm2 : m2 ≤ 6) (h1 : 0 ≤ sgn (qval s0 (val la0) (val lb0) - qval s1 (val la1) (val lb1)).num) (h2 : sgn (qval s1 (val la1) (val lb1) - qval s2 (val la2) (val lb2)).num < 0) :
    Calls Try.prog 7 #[frV s0 a0 n0 c0 b0 m0 d0, frV s1 a1 n1 c1 b1 m1 d1, frV s2 a2 n2 c2 b2 m2 d2] w (Gives (.bool true) w) := by
  have HB := Lib.hid (below_then (below_then (below_alloc w (.cells #[.bool s0, .slice a0 n0 c0, .slice b0 m0 d0] 24)) (below_alloc (w.alloc (.cells #[.bool s0, .slice a0 n0 c0, .slice b0 m0 d0] 24)) (.cells #[.bool s1, .slice a1 n1 c1, .slice b1 m1 d1] 24))) (below_alloc ((w.alloc (.cells #[.bool s0, .slice a0 n0 c0, .slice b0 m0 d0] 24)).alloc (.cells #[.bool s1, .slice a1 n1 c1, .slice b1 m1 d1] 24)) (.cells #[.bool s2, .slice a2 n2 c2, .slice b2 m2 d2] 24)))
  have A0 := Lib.hid (ha0.later HB.out)
  have B0 := Lib.hid (hb0.later HB.out)
  have A1 := Lib.hid (ha1.later HB.out)
  have B1 := Lib.hid (hb1.later HB.out)
  have A2 := Lib.hid (ha2.later HB.out)
  have B2 := Lib.hid (hb2.later HB.out)
  obtain ⟨hx0, hx1, hx2⟩ := boxes3_at9 w #[.bool s0, .slice a0 n0 c0, .slice b0 m0 d0] #[.bool s1, .slice a1 n1 c1, .slice b1 m1 d1] #[.bool s2, .slice a2 n2 c2, .slice b2 m2 d2] 24 24 24
  have X0 := Lib.hid hx0
  have X1 := Lib.hid hx1
  have X2 := Lib.hid hx2
  clear hx0 hx1 hx2
  obtain ⟨p0, hp0⟩ : ∃ p, qval s0 (val la0) (val lb0) = p := ⟨_, rfl⟩
  have lp0 : qlen p0 ≤ 7 := (Fr.of ha0 hb0 hn0 hm0 hp0).len
  have EQ0 := Lib.hid hp0
  obtain ⟨p1, hp1⟩ : ∃ p, qval s1 (val la1) (val lb1) = p := ⟨_, rfl⟩
  have lp1 : qlen p1 ≤ 7 := (Fr.of ha1 hb1 hn1 hm1 hp1).len
  have EQ1 := Lib.hid hp1
  obtain ⟨p2, hp2⟩ : ∃ p, qval s2 (val la2) (val lb2) = p := ⟨_, rfl⟩
  have lp2 : qlen p2 ≤ 7 := (Fr.of ha2 hb2 hn2 hm2 hp2).len
  have EQ2 := Lib.hid hp2
  rw [hp0, hp1] at h1
  rw [hp1, hp2] at h2
  have C1 := Lib.hid h1
  have C2 := Lib.hid h2
  clear h1 h2 ha0 hb0 hp0 ha1 hb1 hp1 ha2 hb2 hp2
  have hl0 : (decide ((6 : Int) < (n0 : Int)) || decide ((6 : Int) < (m0 : Int))) = false := by rw [decide_eq_false (by omega), decide_eq_false (by omega)]; rfl
  have hl1 : (decide ((6 : Int) < (n1 : Int)) || decide ((6 : Int) < (m1 : Int))) = false := by rw [decide_eq_false (by omega), decide_eq_false (by omega)]; rfl
  have hl2 : (decide ((6 : Int) < (n2 : Int)) || decide ((6 : Int) < (m2 : Int))) = false := by rw [decide_eq_false (by omega), decide_eq_false (by omega)]; rfl
  obtain ⟨u, hu⟩ : ∃ r, p0 + p2 = r := ⟨_, rfl⟩
  have lu : qlen u ≤ 20 := by rw [← hu]; have := qlen_add p0 p2; omega
  have Eu := Lib.hid hu
  clear hu
  obtain ⟨v, hv⟩ : ∃ r, p1 + p2 = r := ⟨_, rfl⟩
  have lv : qlen v ≤ 20 := by rw [← hv]; have := qlen_add p1 p2; omega
  have Ev := Lib.hid hv
  clear hv
  obtain ⟨y, hy⟩ : ∃ r, p0 * p2 = r := ⟨_, rfl⟩
  have ly : qlen y ≤ 20 := by rw [← hy]; have := qlen_mul p0 p2; omega
  have Ey := Lib.hid hy
  clear hy
  obtain ⟨z, hz⟩ : ∃ r, p1 * p2 = r := ⟨_, rfl⟩
  have lz : qlen z ≤ 20 := by rw [← hz]; have := qlen_mul p1 p2; omega
  have Ez := Lib.hid hz
  clear hz
  obtain ⟨so, hso⟩ : ∃ s, s = sgn (p0 - p1).num := ⟨_, rfl⟩
  obtain ⟨sp, hsp⟩ : ∃ s, s = sgn (p1 - p2).num := ⟨_, rfl⟩
  obtain ⟨st, hst⟩ : ∃ s, s = sgn (p0 - p2).num := ⟨_, rfl⟩
  obtain ⟨sz, hsz⟩ : ∃ s, s = sgn p2.num := ⟨_, rfl⟩
  have rso := sgn_range (p0 - p1).num
  have rsp := sgn_range (p1 - p2).num
  have rst := sgn_range (p0 - p2).num
  have rsz := sgn_range p2.num
  rw [← hso] at rso
  rw [← hsp] at rsp
  rw [← hst] at rst
  rw [← hsz] at rsz
  obtain ⟨ns, hns⟩ : ∃ ns : Int, -so = ns := ⟨_, rfl⟩
  obtain ⟨mz, hmz⟩ : ∃ mz : Int, so * sz = mz := ⟨_, rfl⟩
  obtain ⟨eb, he⟩ : ∃ e : Bool, (so == 0) = e := ⟨_, rfl⟩
  have G1 : Hid (sgn (p1 - p0).num = ns) := Lib.hid (by rw [order_turn p0 p1, sgn_num_neg, ← hso]; exact hns)
  have G2 : Hid (sgn (u - v).num = so) := Lib.hid (by rw [← Eu.out, ← Ev.out, order_sum, ← hso])
  have G3 : Hid (sgn (y - z).num = mz) := Lib.hid (by rw [← Ey.out, ← Ez.out, order_mul, sgn_times, ← hso, ← hsz]; exact hmz)
  have G4 : Hid (decide (p0 = p1) = eb) := Lib.hid (by rw [decide_same, ← hso]; exact he)
  have KN : Hid (-so = ns ∧ -1 ≤ ns ∧ ns ≤ 1) := Lib.hid ⟨hns, by omega⟩
  have KM : Hid (so * sz = mz ∧ -1 ≤ mz ∧ mz ≤ 1) := Lib.hid ⟨hmz, by
    rcases (show so = -1 ∨ so = 0 ∨ so = 1 by omega) with h | h | h <;> rw [h] at hmz <;> omega⟩
  have KE := Lib.hid he
  have Hso := Lib.hid hso
  have Hsp := Lib.hid hsp
  have Hst := Lib.hid hst
  have Hsz := Lib.hid hsz
  have D1 : Hid (0 ≤ so) := Lib.hid (by rw [hso]; exact C1.out)
  have D2 : Hid (sp < 0) := Lib.hid (by rw [hsp]; exact C2.out)
  clear hso hsp hst hsz rso rsp rst rsz hns hmz he
  go_enter Try.func7, Try.ntmps7
  unfold frV
  obtain ⟨k0, k1, k2, k3, k4, k5, k6, k7, k8⟩ := cells_3_3_3 X0.out X1.out X2.out
  go_wp2_with fail
  refine (ref09_long s0 a0 n0 c0 b0 m0 d0 6 _).mono ?_
  rintro e w1 ⟨rfl, b⟩
  clear k0 k1 k2 k3 k4 k5 k6 k7 k8
  replace HB := Lib.hid (below_then HB.out b)
  replace X0 := Lib.hid (blk_later X0.out b)
  replace X1 := Lib.hid (blk_later X1.out b)
  replace X2 := Lib.hid (blk_later X2.out b)
  replace A0 := Lib.hid (A0.out.later b)
  replace B0 := Lib.hid (B0.out.later b)
  replace A1 := Lib.hid (A1.out.later b)
  replace B1 := Lib.hid (B1.out.later b)
  replace A2 := Lib.hid (A2.out.later b)
  replace B2 := Lib.hid (B2.out.later b)
  clear b
  rw [hl0]
  obtain ⟨k0, k1, k2, k3, k4, k5, k6, k7, k8⟩ := cells_3_3_3 X0.out X1.out X2.out
  go_wp2_with fail
  refine (ref09_long s1 a1 n1 c1 b1 m1 d1 6 _).mono ?_
  rintro e w2 ⟨rfl, b⟩
  clear k0 k1 k2 k3 k4 k5 k6 k7 k8
  replace HB := Lib.hid (below_then HB.out b)
  replace X0 := Lib.hid (blk_later X0.out b)
  replace X1 := Lib.hid (blk_later X1.out b)
  replace X2 := Lib.hid (blk_later X2.out b)
  replace A0 := Lib.hid (A0.out.later b)
  replace B0 := Lib.hid (B0.out.later b)
  replace A1 := Lib.hid (A1.out.later b)
  replace B1 := Lib.hid (B1.out.later b)
  replace A2 := Lib.hid (A2.out.later b)
  replace B2 := Lib.hid (B2.out.later b)
  clear b
  rw [hl1]
  obtain ⟨k0, k1, k2, k3, k4, k5, k6, k7, k8⟩ := cells_3_3_3 X0.out X1.out X2.out
  go_wp2_with fail
  refine (ref09_long s2 a2 n2 c2 b2 m2 d2 6 _).mono ?_
  rintro e w3 ⟨rfl, b⟩
  clear k0 k1 k2 k3 k4 k5 k6 k7 k8
  replace HB := Lib.hid (below_then HB.out b)
  replace X0 := Lib.hid (blk_later X0.out b)
  replace X1 := Lib.hid (blk_later X1.out b)
  replace X2 := Lib.hid (blk_later X2.out b)
  replace A0 := Lib.hid (A0.out.later b)
  replace B0 := Lib.hid (B0.out.later b)
  replace A1 := Lib.hid (A1.out.later b)
  replace B1 := Lib.hid (B1.out.later b)
  replace A2 := Lib.hid (A2.out.later b)
  replace B2 := Lib.hid (B2.out.later b)
  clear b
  rw [hl2]
  obtain ⟨k0, k1, k2, k3, k4, k5, k6, k7, k8⟩ := cells_3_3_3 X0.out X1.out X2.out
  go_wp2_with fail
  refine (law09_to s0 a0 n0 c0 b0 m0 d0 _).mono ?_
  rintro e w4 ⟨rfl, b⟩
  clear k0 k1 k2 k3 k4 k5 k6 k7 k8
  replace HB := Lib.hid (below_then HB.out b)
  replace X0 := Lib.hid (blk_later X0.out b)
  replace X1 := Lib.hid (blk_later X1.out b)
  replace X2 := Lib.hid (blk_later X2.out b)
  replace A0 := Lib.hid (A0.out.later b)
  replace B0 := Lib.hid (B0.out.later b)
  replace A1 := Lib.hid (A1.out.later b)
  replace B1 := Lib.hid (B1.out.later b)
  replace A2 := Lib.hid (A2.out.later b)
  replace B2 := Lib.hid (B2.out.later b)
  clear b
  unfold frV
  have P0 : Hid ((World.alloc w4 (.cells #[.bool s0, .slice a0 n0 c0, .slice b0 m0 d0] 34)).heap[w4.heap.size]? = some (.cells #[.bool s0, .slice a0 n0 c0, .slice b0 m0 d0] 34 (0, 0))) := Lib.hid (blk_new w4 _ _)
  replace HB := Lib.hid (below_then HB.out (below_alloc w4 (.cells #[.bool s0, .slice a0 n0 c0, .slice b0 m0 d0] 34)))
  replace X0 := Lib.hid (blk_later X0.out (below_alloc w4 (.cells #[.bool s0, .slice a0 n0 c0, .slice b0 m0 d0] 34)))
  replace X1 := Lib.hid (blk_later X1.out (below_alloc w4 (.cells #[.bool s0, .slice a0 n0 c0, .slice b0 m0 d0] 34)))
  replace X2 := Lib.hid (blk_later X2.out (below_alloc w4 (.cells #[.bool s0, .slice a0 n0 c0, .slice b0 m0 d0] 34)))
  replace A0 := Lib.hid (A0.out.later (below_alloc w4 (.cells #[.bool s0, .slice a0 n0 c0, .slice b0 m0 d0] 34)))
  replace B0 := Lib.hid (B0.out.later (below_alloc w4 (.cells #[.bool s0, .slice a0 n0 c0, .slice b0 m0 d0] 34)))
  replace A1 := Lib.hid (A1.out.later (below_alloc w4 (.cells #[.bool s0, .slice a0 n0 c0, .slice b0 m0 d0] 34)))
  replace B1 := Lib.hid (B1.out.later (below_alloc w4 (.cells #[.bool s0, .slice a0 n0 c0, .slice b0 m0 d0] 34)))
  replace A2 := Lib.hid (A2.out.later (below_alloc w4 (.cells #[.bool s0, .slice a0 n0 c0, .slice b0 m0 d0] 34)))
  replace B2 := Lib.hid (B2.out.later (below_alloc w4 (.cells #[.bool s0, .slice a0 n0 c0, .slice b0 m0 d0] 34)))
  obtain ⟨k0, k1, k2, k3, k4, k5, k6, k7, k8, k9, k10, k11⟩ := cells_3_3_3_3 X0.out X1.out X2.out P0.out
  go_wp2_with fail
  refine (law09_to s1 a1 n1 c1 b1 m1 d1 _).mono ?_
  rintro e w5 ⟨rfl, b⟩
  clear k0 k1 k2 k3 k4 k5 k6 k7 k8 k9 k10 k11
  replace HB := Lib.hid (below_then HB.out b)
  replace X0 := Lib.hid (blk_later X0.out b)
  replace X1 := Lib.hid (blk_later X1.out b)
  replace X2 := Lib.hid (blk_later X2.out b)
  replace P0 := Lib.hid (blk_later P0.out b)
  replace A0 := Lib.hid (A0.out.later b)
  replace B0 := Lib.hid (B0.out.later b)
  replace A1 := Lib.hid (A1.out.later b)
  replace B1 := Lib.hid (B1.out.later b)
  replace A2 := Lib.hid (A2.out.later b)
  replace B2 := Lib.hid (B2.out.later b)
  clear b
  unfold frV
  have P1 : Hid ((World.alloc w5 (.cells #[.bool s1, .slice a1 n1 c1, .slice b1 m1 d1] 34)).heap[w5.heap.size]? = some (.cells #[.bool s1, .slice a1 n1 c1, .slice b1 m1 d1] 34 (0, 0))) := Lib.hid (blk_new w5 _ _)
  replace HB := Lib.hid (below_then HB.out (below_alloc w5 (.cells #[.bool s1, .slice a1 n1 c1, .slice b1 m1 d1] 34)))
  replace X0 := Lib.hid (blk_later X0.out (below_alloc w5 (.cells #[.bool s1, .slice a1 n1 c1, .slice b1 m1 d1] 34)))
  replace X1 := Lib.hid (blk_later X1.out (below_alloc w5 (.cells #[.bool s1, .slice a1 n1 c1, .slice b1 m1 d1] 34)))
  replace X2 := Lib.hid (blk_later X2.out (below_alloc w5 (.cells #[.bool s1, .slice a1 n1 c1, .slice b1 m1 d1] 34)))
  replace P0 := Lib.hid (blk_later P0.out (below_alloc w5 (.cells #[.bool s1, .slice a1 n1 c1, .slice b1 m1 d1] 34)))
  replace A0 := Lib.hid (A0.out.later (below_alloc w5 (.cells #[.bool s1, .slice a1 n1 c1, .slice b1 m1 d1] 34)))
  replace B0 := Lib.hid (B0.out.later (below_alloc w5 (.cells #[.bool s1, .slice a1 n1 c1, .slice b1 m1 d1] 34)))
  replace A1 := Lib.hid (A1.out.later (below_alloc w5 (.cells #[.bool s1, .slice a1 n1 c1, .slice b1 m1 d1] 34)))
  replace B1 := Lib.hid (B1.out.later (below_alloc w5 (.cells #[.bool s1, .slice a1 n1 c1, .slice b1 m1 d1] 34)))
  replace A2 := Lib.hid (A2.out.later (below_alloc w5 (.cells #[.bool s1, .slice a1 n1 c1, .slice b1 m1 d1] 34)))
  replace B2 := Lib.hid (B2.out.later (below_alloc w5 (.cells #[.bool s1, .slice a1 n1 c1, .slice b1 m1 d1] 34)))
  obtain ⟨k0, k1, k2, k3, k4, k5, k6, k7, k8, k9, k10, k11, k12, k13, k14⟩ := cells_3_3_3_3_3 X0.out X1.out X2.out P0.out P1.out
  go_wp2_with fail
  refine (law09_to s2 a2 n2 c2 b2 m2 d2 _).mono ?_
  rintro e w6 ⟨rfl, b⟩
  clear k0 k1 k2 k3 k4 k5 k6 k7 k8 k9 k10 k11 k12 k13 k14
  replace HB := Lib.hid (below_then HB.out b)
  replace X0 := Lib.hid (blk_later X0.out b)
  replace X1 := Lib.hid (blk_later X1.out b)
  replace X2 := Lib.hid (blk_later X2.out b)
  replace P0 := Lib.hid (blk_later P0.out b)
  replace P1 := Lib.hid (blk_later P1.out b)
  replace A0 := Lib.hid (A0.out.later b)
  replace B0 := Lib.hid (B0.out.later b)
  replace A1 := Lib.hid (A1.out.later b)
  replace B1 := Lib.hid (B1.out.later b)
  replace A2 := Lib.hid (A2.out.later b)
  replace B2 := Lib.hid (B2.out.later b)
  clear b
  unfold frV
  have P2 : Hid ((World.alloc w6 (.cells #[.bool s2, .slice a2 n2 c2, .slice b2 m2 d2] 34)).heap[w6.heap.size]? = some (.cells #[.bool s2, .slice a2 n2 c2, .slice b2 m2 d2] 34 (0, 0))) := Lib.hid (blk_new w6 _ _)
  replace HB := Lib.hid (below_then HB.out (below_alloc w6 (.cells #[.bool s2, .slice a2 n2 c2, .slice b2 m2 d2] 34)))
  replace X0 := Lib.hid (blk_later X0.out (below_alloc w6 (.cells #[.bool s2, .slice a2 n2 c2, .slice b2 m2 d2] 34)))
  replace X1 := Lib.hid (blk_later X1.out (below_alloc w6 (.cells #[.bool s2, .slice a2 n2 c2, .slice b2 m2 d2] 34)))
  replace X2 := Lib.hid (blk_later X2.out (below_alloc w6 (.cells #[.bool s2, .slice a2 n2 c2, .slice b2 m2 d2] 34)))
  replace P0 := Lib.hid (blk_later P0.out (below_alloc w6 (.cells #[.bool s2, .slice a2 n2 c2, .slice b2 m2 d2] 34)))
  replace P1 := Lib.hid (blk_later P1.out (below_alloc w6 (.cells #[.bool s2, .slice a2 n2 c2, .slice b2 m2 d2] 34)))
  replace A0 := Lib.hid (A0.out.later (below_alloc w6 (.cells #[.bool s2, .slice a2 n2 c2, .slice b2 m2 d2] 34)))
  replace B0 := Lib.hid (B0.out.later (below_alloc w6 (.cells #[.bool s2, .slice a2 n2 c2, .slice b2 m2 d2] 34)))
  replace A1 := Lib.hid (A1.out.later (below_alloc w6 (.cells #[.bool s2, .slice a2 n2 c2, .slice b2 m2 d2] 34)))
  replace B1 := Lib.hid (B1.out.later (below_alloc w6 (.cells #[.bool s2, .slice a2 n2 c2, .slice b2 m2 d2] 34)))
  replace A2 := Lib.hid (A2.out.later (below_alloc w6 (.cells #[.bool s2, .slice a2 n2 c2, .slice b2 m2 d2] 34)))
  replace B2 := Lib.hid (B2.out.later (below_alloc w6 (.cells #[.bool s2, .slice a2 n2 c2, .slice b2 m2 d2] 34)))
  obtain ⟨k0, k1, k2, k3, k4, k5, k6, k7, k8⟩ := cells_3_3_3 P0.out P1.out P2.out
  go_wp2_with fail
  refine (S.cmp _ _ p0 p1 _ (Fr.of A0.out B0.out (by omega) (by omega) EQ0.out) (Fr.of A1.out B1.out (by omega) (by omega) EQ1.out)).mono ?_
  rintro e w7 ⟨rfl, b⟩
  clear k0 k1 k2 k3 k4 k5 k6 k7 k8
  replace HB := Lib.hid (below_then HB.out b)
  replace P0 := Lib.hid (blk_later P0.out b)
  replace P1 := Lib.hid (blk_later P1.out b)
  replace P2 := Lib.hid (blk_later P2.out b)
  replace A0 := Lib.hid (A0.out.later b)
  replace B0 := Lib.hid (B0.out.later b)
  replace A1 := Lib.hid (A1.out.later b)
  replace B1 := Lib.hid (B1.out.later b)
  replace A2 := Lib.hid (A2.out.later b)
  replace B2 := Lib.hid (B2.out.later b)
  clear b
  rw [← Hso.out]
  obtain ⟨k0, k1, k2, k3, k4, k5, k6, k7, k8⟩ := cells_3_3_3 P0.out P1.out P2.out
  go_wp2_with fail
  refine (S.cmp _ _ p1 p2 _ (Fr.of A1.out B1.out (by omega) (by omega) EQ1.out) (Fr.of A2.out B2.out (by omega) (by omega) EQ2.out)).mono ?_
  rintro e w8 ⟨rfl, b⟩
  clear k0 k1 k2 k3 k4 k5 k6 k7 k8
  replace HB := Lib.hid (below_then HB.out b)
  replace P0 := Lib.hid (blk_later P0.out b)
  replace P1 := Lib.hid (blk_later P1.out b)
  replace P2 := Lib.hid (blk_later P2.out b)
  replace A0 := Lib.hid (A0.out.later b)
  replace B0 := Lib.hid (B0.out.later b)
  replace A1 := Lib.hid (A1.out.later b)
  replace B1 := Lib.hid (B1.out.later b)
  replace A2 := Lib.hid (A2.out.later b)
  replace B2 := Lib.hid (B2.out.later b)
  clear b
  rw [← Hsp.out]
  have j1 := D1.out
  have j2 := D2.out
  obtain ⟨k0, k1, k2, k3, k4, k5, k6, k7, k8⟩ := cells_3_3_3 P0.out P1.out P2.out
  go_wp2
  clear k0 k1 k2 k3 k4 k5 k6 k7 k8
  clear j1 j2
  obtain ⟨j1, j2, j3⟩ := KN.out
  obtain ⟨j4, j5, j6⟩ := KM.out
  have j7 := KE.out
  have j8 : (ns == ns) = true := beq_self_eq_true ns
  have j9 : (so == so) = true := beq_self_eq_true so
  have j10 : (mz == mz) = true := beq_self_eq_true mz
  have j11 : (eb == eb) = true := beq_self_eq_true eb
  have j12 : (ns == -so) = true := by rw [j1]; exact j8
  have j13 : (mz == so * sz) = true := by rw [j4]; exact j10
  have j14 : IntKind.i64.wrap (-so) = ns := by rw [j1, IntKind.wrap_i64]; omega
  have j15 : IntKind.i64.wrap ns = ns := by rw [IntKind.wrap_i64]; omega
  have j16 : IntKind.i64.wrap (so * sz) = mz := by rw [j4, IntKind.wrap_i64]; omega
  have j17 : IntKind.i64.wrap mz = mz := by rw [IntKind.wrap_i64]; omega
  have j18 : -1 ≤ so ∧ so ≤ 1 := by omega
  replace HB := Lib.hid (below_then HB.out ((Below.refl _ _).drew : Below w8.heap.size w8 w8.drew))
  replace P0 : Hid (w8.drew.heap[w4.heap.size]? = _) := Lib.hid P0.out
  replace P1 : Hid (w8.drew.heap[w5.heap.size]? = _) := Lib.hid P1.out
  replace P2 : Hid (w8.drew.heap[w6.heap.size]? = _) := Lib.hid P2.out
  replace A0 := Lib.hid (A0.out.later ((Below.refl _ _).drew : Below w8.heap.size w8 w8.drew))
  replace B0 := Lib.hid (B0.out.later ((Below.refl _ _).drew : Below w8.heap.size w8 w8.drew))
  replace A1 := Lib.hid (A1.out.later ((Below.refl _ _).drew : Below w8.heap.size w8 w8.drew))
  replace B1 := Lib.hid (B1.out.later ((Below.refl _ _).drew : Below w8.heap.size w8 w8.drew))
  replace A2 := Lib.hid (A2.out.later ((Below.refl _ _).drew : Below w8.heap.size w8 w8.drew))
  replace B2 := Lib.hid (B2.out.later ((Below.refl _ _).drew : Below w8.heap.size w8 w8.drew))
  have rSn := cells_3_3_3 P0.out P1.out P2.out
  go_region_held3 (fun w' => w'.cell? ⟨w4.heap.size, 0, none⟩ = some (.bool s0) ∧ w'.cell? ⟨w4.heap.size, 1, none⟩ = some (.slice a0 n0 c0) ∧ w'.cell? ⟨w4.heap.size, 2, none⟩ = some (.slice b0 m0 d0) ∧ w'.cell? ⟨w5.heap.size, 0, none⟩ = some (.bool s1) ∧ w'.cell? ⟨w5.heap.size, 1, none⟩ = some (.slice a1 n1 c1) ∧ w'.cell? ⟨w5.heap.size, 2, none⟩ = some (.slice b1 m1 d1) ∧ w'.cell? ⟨w6.heap.size, 0, none⟩ = some (.bool s2) ∧ w'.cell? ⟨w6.heap.size, 1, none⟩ = some (.slice a2 n2 c2) ∧ w'.cell? ⟨w6.heap.size, 2, none⟩ = some (.slice b2 m2 d2)) (exact rSn)
    (first
    | (go_at_call 41; (first
      | (have rm6 := rM6; refine (S.cmp _ _ y z _ (Fr.right R7.out T7.out (by omega) (by omega)) (Fr.right R8.out T8.out (by omega) (by omega))).mono ?_; rintro e wr7 ⟨rfl, b⟩; replace HB := Lib.hid (below_then HB.out b); replace P0 := Lib.hid (blk_later P0.out b); replace P1 := Lib.hid (blk_later P1.out b); replace P2 := Lib.hid (blk_later P2.out b); replace A0 := Lib.hid (A0.out.later b); replace B0 := Lib.hid (B0.out.later b); replace A1 := Lib.hid (A1.out.later b); replace B1 := Lib.hid (B1.out.later b); replace A2 := Lib.hid (A2.out.later b); replace B2 := Lib.hid (B2.out.later b); clear R7; clear T7; clear R8; clear T8; rw [G3.out]; clear b; clear rSn; have rSn := cells_3_3_3 P0.out P1.out P2.out; clear rM6 rm6; have rM7 := True.intro)
      | (have rm3 := rM3; refine (S.cmp _ _ u v _ (Fr.right R5.out T5.out (by omega) (by omega)) (Fr.right R6.out T6.out (by omega) (by omega))).mono ?_; rintro e wr4 ⟨rfl, b⟩; replace HB := Lib.hid (below_then HB.out b); replace P0 := Lib.hid (blk_later P0.out b); replace P1 := Lib.hid (blk_later P1.out b); replace P2 := Lib.hid (blk_later P2.out b); replace A0 := Lib.hid (A0.out.later b); replace B0 := Lib.hid (B0.out.later b); replace A1 := Lib.hid (A1.out.later b); replace B1 := Lib.hid (B1.out.later b); replace A2 := Lib.hid (A2.out.later b); replace B2 := Lib.hid (B2.out.later b); clear R5; clear T5; clear R6; clear T6; rw [G2.out]; clear b; clear rSn; have rSn := cells_3_3_3 P0.out P1.out P2.out; clear rM3 rm3; have rM4 := True.intro)
      | (refine (S.cmp _ _ p1 p0 _ (Fr.of A1.out B1.out (by omega) (by omega) EQ1.out) (Fr.of A0.out B0.out (by omega) (by omega) EQ0.out)).mono ?_; rintro e wr1 ⟨rfl, b⟩; replace HB := Lib.hid (below_then HB.out b); replace P0 := Lib.hid (blk_later P0.out b); replace P1 := Lib.hid (blk_later P1.out b); replace P2 := Lib.hid (blk_later P2.out b); replace A0 := Lib.hid (A0.out.later b); replace B0 := Lib.hid (B0.out.later b); replace A1 := Lib.hid (A1.out.later b); replace B1 := Lib.hid (B1.out.later b); replace A2 := Lib.hid (A2.out.later b); replace B2 := Lib.hid (B2.out.later b); rw [G1.out]; clear b; clear rSn; have rSn := cells_3_3_3 P0.out P1.out P2.out; have rM1 := True.intro)))
    | (go_at_call 28; (first
      | (have rm2 := rM2; refine (S.add _ _ p1 p2 _ (Fr.of A1.out B1.out (by omega) (by omega) EQ1.out) (Fr.of A2.out B2.out (by omega) (by omega) EQ2.out)).mono ?_; rintro e wr3 ⟨a6, n6, c6, b6, m6, d6, rfl, h6, g6, b⟩; replace HB := Lib.hid (below_then HB.out b); replace P0 := Lib.hid (blk_later P0.out b); replace P1 := Lib.hid (blk_later P1.out b); replace P2 := Lib.hid (blk_later P2.out b); replace A0 := Lib.hid (A0.out.later b); replace B0 := Lib.hid (B0.out.later b); replace A1 := Lib.hid (A1.out.later b); replace B1 := Lib.hid (B1.out.later b); replace A2 := Lib.hid (A2.out.later b); replace B2 := Lib.hid (B2.out.later b); replace R5 := Lib.hid (R5.out.later b); replace T5 := Lib.hid (T5.out.later b); have R6 := Lib.hid h6; have T6 := Lib.hid g6; rw [Ev.out] at h6 g6 ⊢; have hN6 : n6 ≤ qlen v := (by rw [← h6.len]; exact qlen_num _); have hM6 : m6 ≤ qlen v := (by rw [← g6.len]; exact qlen_den _); replace R6 : Hid (Wd _ a6 n6 c6 (dg v.num.natAbs)) := Lib.hid h6; replace T6 : Hid (Wd _ b6 m6 d6 (dg v.den)) := Lib.hid g6; clear h6 g6; clear b; clear rSn; have rSn := cells_3_3_3 P0.out P1.out P2.out; clear rM2 rm2; have rM3 := True.intro)
      | (have rm1 := rM1; refine (S.add _ _ p0 p2 _ (Fr.of A0.out B0.out (by omega) (by omega) EQ0.out) (Fr.of A2.out B2.out (by omega) (by omega) EQ2.out)).mono ?_; rintro e wr2 ⟨a5, n5, c5, b5, m5, d5, rfl, h5, g5, b⟩; replace HB := Lib.hid (below_then HB.out b); replace P0 := Lib.hid (blk_later P0.out b); replace P1 := Lib.hid (blk_later P1.out b); replace P2 := Lib.hid (blk_later P2.out b); replace A0 := Lib.hid (A0.out.later b); replace B0 := Lib.hid (B0.out.later b); replace A1 := Lib.hid (A1.out.later b); replace B1 := Lib.hid (B1.out.later b); replace A2 := Lib.hid (A2.out.later b); replace B2 := Lib.hid (B2.out.later b); have R5 := Lib.hid h5; have T5 := Lib.hid g5; rw [Eu.out] at h5 g5 ⊢; have hN5 : n5 ≤ qlen u := (by rw [← h5.len]; exact qlen_num _); have hM5 : m5 ≤ qlen u := (by rw [← g5.len]; exact qlen_den _); replace R5 : Hid (Wd _ a5 n5 c5 (dg u.num.natAbs)) := Lib.hid h5; replace T5 : Hid (Wd _ b5 m5 d5 (dg u.den)) := Lib.hid g5; clear h5 g5; clear b; clear rSn; have rSn := cells_3_3_3 P0.out P1.out P2.out; clear rM1 rm1; have rM2 := True.intro)))
    | (go_at_call 32; (first
      | (have rm5 := rM5; refine (S.mul _ _ p1 p2 _ (Fr.of A1.out B1.out (by omega) (by omega) EQ1.out) (Fr.of A2.out B2.out (by omega) (by omega) EQ2.out)).mono ?_; rintro e wr6 ⟨a8, n8, c8, b8, m8, d8, rfl, h8, g8, b⟩; replace HB := Lib.hid (below_then HB.out b); replace P0 := Lib.hid (blk_later P0.out b); replace P1 := Lib.hid (blk_later P1.out b); replace P2 := Lib.hid (blk_later P2.out b); replace A0 := Lib.hid (A0.out.later b); replace B0 := Lib.hid (B0.out.later b); replace A1 := Lib.hid (A1.out.later b); replace B1 := Lib.hid (B1.out.later b); replace A2 := Lib.hid (A2.out.later b); replace B2 := Lib.hid (B2.out.later b); replace R7 := Lib.hid (R7.out.later b); replace T7 := Lib.hid (T7.out.later b); have R8 := Lib.hid h8; have T8 := Lib.hid g8; rw [Ez.out] at h8 g8 ⊢; have hN8 : n8 ≤ qlen z := (by rw [← h8.len]; exact qlen_num _); have hM8 : m8 ≤ qlen z := (by rw [← g8.len]; exact qlen_den _); replace R8 : Hid (Wd _ a8 n8 c8 (dg z.num.natAbs)) := Lib.hid h8; replace T8 : Hid (Wd _ b8 m8 d8 (dg z.den)) := Lib.hid g8; clear h8 g8; clear b; clear rSn; have rSn := cells_3_3_3 P0.out P1.out P2.out; clear rM5 rm5; have rM6 := True.intro)
      | (have rm4 := rM4; refine (S.mul _ _ p0 p2 _ (Fr.of A0.out B0.out (by omega) (by omega) EQ0.out) (Fr.of A2.out B2.out (by omega) (by omega) EQ2.out)).mono ?_; rintro e wr5 ⟨a7, n7, c7, b7, m7, d7, rfl, h7, g7, b⟩; replace HB := Lib.hid (below_then HB.out b); replace P0 := Lib.hid (blk_later P0.out b); replace P1 := Lib.hid (blk_later P1.out b); replace P2 := Lib.hid (blk_later P2.out b); replace A0 := Lib.hid (A0.out.later b); replace B0 := Lib.hid (B0.out.later b); replace A1 := Lib.hid (A1.out.later b); replace B1 := Lib.hid (B1.out.later b); replace A2 := Lib.hid (A2.out.later b); replace B2 := Lib.hid (B2.out.later b); have R7 := Lib.hid h7; have T7 := Lib.hid g7; rw [Ey.out] at h7 g7 ⊢; have hN7 : n7 ≤ qlen y := (by rw [← h7.len]; exact qlen_num _); have hM7 : m7 ≤ qlen y := (by rw [← g7.len]; exact qlen_den _); replace R7 : Hid (Wd _ a7 n7 c7 (dg y.num.natAbs)) := Lib.hid h7; replace T7 : Hid (Wd _ b7 m7 d7 (dg y.den)) := Lib.hid g7; clear h7 g7; clear b; clear rSn; have rSn := cells_3_3_3 P0.out P1.out P2.out; clear rM4 rm4; have rM5 := True.intro)))
    | (go_at_call 38; (first
      | (have rm7 := rM7; refine (S.sign _ p2 _ (Fr.of A2.out B2.out (by omega) (by omega) EQ2.out)).mono ?_; rintro e wr8 ⟨rfl, b⟩; replace HB := Lib.hid (below_then HB.out b); replace P0 := Lib.hid (blk_later P0.out b); replace P1 := Lib.hid (blk_later P1.out b); replace P2 := Lib.hid (blk_later P2.out b); replace A0 := Lib.hid (A0.out.later b); replace B0 := Lib.hid (B0.out.later b); replace A1 := Lib.hid (A1.out.later b); replace B1 := Lib.hid (B1.out.later b); replace A2 := Lib.hid (A2.out.later b); replace B2 := Lib.hid (B2.out.later b); rw [← Hsz.out]; clear b; clear rSn; have rSn := cells_3_3_3 P0.out P1.out P2.out; clear rM7 rm7; have rM8 := True.intro)))
    | (go_at_call 39; (first
      | (have rm8 := rM8; refine (S.same _ _ p0 p1 _ (Fr.of A0.out B0.out (by omega) (by omega) EQ0.out) (Fr.of A1.out B1.out (by omega) (by omega) EQ1.out)).mono ?_; rintro e wr9 ⟨rfl, b⟩; replace HB := Lib.hid (below_then HB.out b); replace P0 := Lib.hid (blk_later P0.out b); replace P1 := Lib.hid (blk_later P1.out b); replace P2 := Lib.hid (blk_later P2.out b); replace A0 := Lib.hid (A0.out.later b); replace B0 := Lib.hid (B0.out.later b); replace A1 := Lib.hid (A1.out.later b); replace B1 := Lib.hid (B1.out.later b); replace A2 := Lib.hid (A2.out.later b); replace B2 := Lib.hid (B2.out.later b); rw [G4.out]; clear b; clear rSn; have rSn := cells_3_3_3 P0.out P1.out P2.out; clear rM8 rm8; have rM9 := True.intro)))
    | (go_at_call 10; (first
      | (have rm9 := rM9; refine (law09_works S _).mono ?_; rintro e wr10 ⟨rfl, b⟩; replace HB := Lib.hid (below_then HB.out b); replace P0 := Lib.hid (blk_later P0.out b); replace P1 := Lib.hid (blk_later P1.out b); replace P2 := Lib.hid (blk_later P2.out b); replace A0 := Lib.hid (A0.out.later b); replace B0 := Lib.hid (B0.out.later b); replace A1 := Lib.hid (A1.out.later b); replace B1 := Lib.hid (B1.out.later b); replace A2 := Lib.hid (A2.out.later b); replace B2 := Lib.hid (B2.out.later b); clear b; clear rSn; have rSn := cells_3_3_3 P0.out P1.out P2.out; clear rM9 rm9; have rM10 := True.intro))))
  go_wp2
  go_ret
  exact ⟨rfl, HB.out⟩
set_option maxRecDepth 4096 in
set_option maxHeartbeats 16000000 in
theorem law09_order_none (S : FracSaid) (s0 : Bool) (a0 : Option Addr) (n0 c0 : Nat) (la0 : List Nat) (b0 : Option Addr) (m0 d0 : Nat) (lb0 : List Nat) (s1 : Bool) (a1 : Option Addr) (n1 c1 : Nat) (la1 : List Nat) (b1 : Option Addr) (m1 d1 : Nat) (lb1 : List Nat) (s2 : Bool) (a2 : Option Addr) (n2 c2 : Nat) (la2 : List Nat) (b2 : Option Addr) (m2 d2 : Nat) (lb2 : List Nat) (w : World) (ha0 : Wd w a0 n0 c0 la0) (hb0 : Wd w b0 m0 d0 lb0) (ha1 : Wd w a1 n1 c1 la1) (hb1 : Wd w b1 m1 d1 lb1) (ha2 : Wd w a2 n2 c2 la2) (hb2 : Wd w b2 m2 d2 lb2) (hn0 : n0 ≤ 6) (hm0 : m0 ≤ 6) (hn1 : n1 ≤ 6) (hm1 : m1 ≤ 6) (hn2 : n2 ≤ 6) (hm2 : m2 ≤ 6) (h1 : sgn (qval s0 (val la0) (val lb0) - qval s1 (val la1) (val lb1)).num < 0) :
    Calls Try.prog 7 #[frV s0 a0 n0 c0 b0 m0 d0, frV s1 a1 n1 c1 b1 m1 d1, frV s2 a2 n2 c2 b2 m2 d2] w (Gives (.bool true) w) := by
  have HB := Lib.hid (below_then (below_then (below_alloc w (.cells #[.bool s0, .slice a0 n0 c0, .slice b0 m0 d0] 24)) (below_alloc (w.alloc (.cells #[.bool s0, .slice a0 n0 c0, .slice b0 m0 d0] 24)) (.cells #[.bool s1, .slice a1 n1 c1, .slice b1 m1 d1] 24))) (below_alloc ((w.alloc (.cells #[.bool s0, .slice a0 n0 c0, .slice b0 m0 d0] 24)).alloc (.cells #[.bool s1, .slice a1 n1 c1, .slice b1 m1 d1] 24)) (.cells #[.bool s2, .slice a2 n2 c2, .slice b2 m2 d2] 24)))
  have A0 := Lib.hid (ha0.later HB.out)
  have B0 := Lib.hid (hb0.later HB.out)
  have A1 := Lib.hid (ha1.later HB.out)
  have B1 := Lib.hid (hb1.later HB.out)
  have A2 := Lib.hid (ha2.later HB.out)
  have B2 := Lib.hid (hb2.later HB.out)
  obtain ⟨hx0, hx1, hx2⟩ := boxes3_at9 w #[.bool s0, .slice a0 n0 c0, .slice b0 m0 d0] #[.bool s1, .slice a1 n1 c1, .slice b1 m1 d1] #[.bool s2, .slice a2 n2 c2, .slice b2 m2 d2] 24 24 24
  have X0 := Lib.hid hx0
  have X1 := Lib.hid hx1
  have X2 := Lib.hid hx2
  clear hx0 hx1 hx2
  obtain ⟨p0, hp0⟩ : ∃ p, qval s0 (val la0) (val lb0) = p := ⟨_, rfl⟩
  have lp0 : qlen p0 ≤ 7 := (Fr.of ha0 hb0 hn0 hm0 hp0).len
  have EQ0 := Lib.hid hp0
  obtain ⟨p1, hp1⟩ : ∃ p, qval s1 (val la1) (val lb1) = p := ⟨_, rfl⟩
  have lp1 : qlen p1 ≤ 7 := (Fr.of ha1 hb1 hn1 hm1 hp1).len
  have EQ1 := Lib.hid hp1
  obtain ⟨p2, hp2⟩ : ∃ p, qval s2 (val la2) (val lb2) = p := ⟨_, rfl⟩
  have lp2 : qlen p2 ≤ 7 := (Fr.of ha2 hb2 hn2 hm2 hp2).len
  have EQ2 := Lib.hid hp2
  rw [hp0, hp1] at h1
  have C1 := Lib.hid h1
  clear h1 ha0 hb0 hp0 ha1 hb1 hp1 ha2 hb2 hp2
  have hl0 : (decide ((6 : Int) < (n0 : Int)) || decide ((6 : Int) < (m0 : Int))) = false := by rw [decide_eq_false (by omega), decide_eq_false (by omega)]; rfl
  have hl1 : (decide ((6 : Int) < (n1 : Int)) || decide ((6 : Int) < (m1 : Int))) = false := by rw [decide_eq_false (by omega), decide_eq_false (by omega)]; rfl
  have hl2 : (decide ((6 : Int) < (n2 : Int)) || decide ((6 : Int) < (m2 : Int))) = false := by rw [decide_eq_false (by omega), decide_eq_false (by omega)]; rfl
  obtain ⟨u, hu⟩ : ∃ r, p0 + p2 = r := ⟨_, rfl⟩
  have lu : qlen u ≤ 20 := by rw [← hu]; have := qlen_add p0 p2; omega
  have Eu := Lib.hid hu
  clear hu
  obtain ⟨v, hv⟩ : ∃ r, p1 + p2 = r := ⟨_, rfl⟩
  have lv : qlen v ≤ 20 := by rw [← hv]; have := qlen_add p1 p2; omega
  have Ev := Lib.hid hv
  clear hv
  obtain ⟨y, hy⟩ : ∃ r, p0 * p2 = r := ⟨_, rfl⟩
  have ly : qlen y ≤ 20 := by rw [← hy]; have := qlen_mul p0 p2; omega
  have Ey := Lib.hid hy
  clear hy
  obtain ⟨z, hz⟩ : ∃ r, p1 * p2 = r := ⟨_, rfl⟩
  have lz : qlen z ≤ 20 := by rw [← hz]; have := qlen_mul p1 p2; omega
  have Ez := Lib.hid hz
  clear hz
  obtain ⟨so, hso⟩ : ∃ s, s = sgn (p0 - p1).num := ⟨_, rfl⟩
  obtain ⟨sp, hsp⟩ : ∃ s, s = sgn (p1 - p2).num := ⟨_, rfl⟩
  obtain ⟨st, hst⟩ : ∃ s, s = sgn (p0 - p2).num := ⟨_, rfl⟩
  obtain ⟨sz, hsz⟩ : ∃ s, s = sgn p2.num := ⟨_, rfl⟩
  have rso := sgn_range (p0 - p1).num
  have rsp := sgn_range (p1 - p2).num
  have rst := sgn_range (p0 - p2).num
  have rsz := sgn_range p2.num
  rw [← hso] at rso
  rw [← hsp] at rsp
  rw [← hst] at rst
  rw [← hsz] at rsz
  obtain ⟨ns, hns⟩ : ∃ ns : Int, -so = ns := ⟨_, rfl⟩
  obtain ⟨mz, hmz⟩ : ∃ mz : Int, so * sz = mz := ⟨_, rfl⟩
  obtain ⟨eb, he⟩ : ∃ e : Bool, (so == 0) = e := ⟨_, rfl⟩
  have G1 : Hid (sgn (p1 - p0).num = ns) := Lib.hid (by rw [order_turn p0 p1, sgn_num_neg, ← hso]; exact hns)
  have G2 : Hid (sgn (u - v).num = so) := Lib.hid (by rw [← Eu.out, ← Ev.out, order_sum, ← hso])
  have G3 : Hid (sgn (y - z).num = mz) := Lib.hid (by rw [← Ey.out, ← Ez.out, order_mul, sgn_times, ← hso, ← hsz]; exact hmz)
  have G4 : Hid (decide (p0 = p1) = eb) := Lib.hid (by rw [decide_same, ← hso]; exact he)
  have KN : Hid (-so = ns ∧ -1 ≤ ns ∧ ns ≤ 1) := Lib.hid ⟨hns, by omega⟩
  have KM : Hid (so * sz = mz ∧ -1 ≤ mz ∧ mz ≤ 1) := Lib.hid ⟨hmz, by
    rcases (show so = -1 ∨ so = 0 ∨ so = 1 by omega) with h | h | h <;> rw [h] at hmz <;> omega⟩
  have KE := Lib.hid he
  have Hso := Lib.hid hso
  have Hsp := Lib.hid hsp
  have Hst := Lib.hid hst
  have Hsz := Lib.hid hsz
  have D1 : Hid (so < 0) := Lib.hid (by rw [hso]; exact C1.out)
  clear hso hsp hst hsz rso rsp rst rsz hns hmz he
  go_enter Try.func7, Try.ntmps7
  unfold frV
  obtain ⟨k0, k1, k2, k3, k4, k5, k6, k7, k8⟩ := cells_3_3_3 X0.out X1.out X2.out
  go_wp2_with fail
  refine (ref09_long s0 a0 n0 c0 b0 m0 d0 6 _).mono ?_
  rintro e w1 ⟨rfl, b⟩
  clear k0 k1 k2 k3 k4 k5 k6 k7 k8
  replace HB := Lib.hid (below_then HB.out b)
  replace X0 := Lib.hid (blk_later X0.out b)
  replace X1 := Lib.hid (blk_later X1.out b)
  replace X2 := Lib.hid (blk_later X2.out b)
  replace A0 := Lib.hid (A0.out.later b)
  replace B0 := Lib.hid (B0.out.later b)
  replace A1 := Lib.hid (A1.out.later b)
  replace B1 := Lib.hid (B1.out.later b)
  replace A2 := Lib.hid (A2.out.later b)
  replace B2 := Lib.hid (B2.out.later b)
  clear b
  rw [hl0]
  obtain ⟨k0, k1, k2, k3, k4, k5, k6, k7, k8⟩ := cells_3_3_3 X0.out X1.out X2.out
  go_wp2_with fail
  refine (ref09_long s1 a1 n1 c1 b1 m1 d1 6 _).mono ?_
  rintro e w2 ⟨rfl, b⟩
  clear k0 k1 k2 k3 k4 k5 k6 k7 k8
  replace HB := Lib.hid (below_then HB.out b)
  replace X0 := Lib.hid (blk_later X0.out b)
  replace X1 := Lib.hid (blk_later X1.out b)
  replace X2 := Lib.hid (blk_later X2.out b)
  replace A0 := Lib.hid (A0.out.later b)
  replace B0 := Lib.hid (B0.out.later b)
  replace A1 := Lib.hid (A1.out.later b)
  replace B1 := Lib.hid (B1.out.later b)
  replace A2 := Lib.hid (A2.out.later b)
  replace B2 := Lib.hid (B2.out.later b)
  clear b
  rw [hl1]
  obtain ⟨k0, k1, k2, k3, k4, k5, k6, k7, k8⟩ := cells_3_3_3 X0.out X1.out X2.out
  go_wp2_with fail
  refine (ref09_long s2 a2 n2 c2 b2 m2 d2 6 _).mono ?_
  rintro e w3 ⟨rfl, b⟩
  clear k0 k1 k2 k3 k4 k5 k6 k7 k8
  replace HB := Lib.hid (below_then HB.out b)
  replace X0 := Lib.hid (blk_later X0.out b)
  replace X1 := Lib.hid (blk_later X1.out b)
  replace X2 := Lib.hid (blk_later X2.out b)
  replace A0 := Lib.hid (A0.out.later b)
  replace B0 := Lib.hid (B0.out.later b)
  replace A1 := Lib.hid (A1.out.later b)
  replace B1 := Lib.hid (B1.out.later b)
  replace A2 := Lib.hid (A2.out.later b)
  replace B2 := Lib.hid (B2.out.later b)
  clear b
  rw [hl2]
  obtain ⟨k0, k1, k2, k3, k4, k5, k6, k7, k8⟩ := cells_3_3_3 X0.out X1.out X2.out
  go_wp2_with fail
  refine (law09_to s0 a0 n0 c0 b0 m0 d0 _).mono ?_
  rintro e w4 ⟨rfl, b⟩
  clear k0 k1 k2 k3 k4 k5 k6 k7 k8
  replace HB := Lib.hid (below_then HB.out b)
  replace X0 := Lib.hid (blk_later X0.out b)
  replace X1 := Lib.hid (blk_later X1.out b)
  replace X2 := Lib.hid (blk_later X2.out b)
  replace A0 := Lib.hid (A0.out.later b)
  replace B0 := Lib.hid (B0.out.later b)
  replace A1 := Lib.hid (A1.out.later b)
  replace B1 := Lib.hid (B1.out.later b)
  replace A2 := Lib.hid (A2.out.later b)
  replace B2 := Lib.hid (B2.out.later b)
  clear b
  unfold frV
  have P0 : Hid ((World.alloc w4 (.cells #[.bool s0, .slice a0 n0 c0, .slice b0 m0 d0] 34)).heap[w4.heap.size]? = some (.cells #[.bool s0, .slice a0 n0 c0, .slice b0 m0 d0] 34 (0, 0))) := Lib.hid (blk_new w4 _ _)
  replace HB := Lib.hid (below_then HB.out (below_alloc w4 (.cells #[.bool s0, .slice a0 n0 c0, .slice b0 m0 d0] 34)))
  replace X0 := Lib.hid (blk_later X0.out (below_alloc w4 (.cells #[.bool s0, .slice a0 n0 c0, .slice b0 m0 d0] 34)))
  replace X1 := Lib.hid (blk_later X1.out (below_alloc w4 (.cells #[.bool s0, .slice a0 n0 c0, .slice b0 m0 d0] 34)))
  replace X2 := Lib.hid (blk_later X2.out (below_alloc w4 (.cells #[.bool s0, .slice a0 n0 c0, .slice b0 m0 d0] 34)))
  replace A0 := Lib.hid (A0.out.later (below_alloc w4 (.cells #[.bool s0, .slice a0 n0 c0, .slice b0 m0 d0] 34)))
  replace B0 := Lib.hid (B0.out.later (below_alloc w4 (.cells #[.bool s0, .slice a0 n0 c0, .slice b0 m0 d0] 34)))
  replace A1 := Lib.hid (A1.out.later (below_alloc w4 (.cells #[.bool s0, .slice a0 n0 c0, .slice b0 m0 d0] 34)))
  replace B1 := Lib.hid (B1.out.later (below_alloc w4 (.cells #[.bool s0, .slice a0 n0 c0, .slice b0 m0 d0] 34)))
  replace A2 := Lib.hid (A2.out.later (below_alloc w4 (.cells #[.bool s0, .slice a0 n0 c0, .slice b0 m0 d0] 34)))
  replace B2 := Lib.hid (B2.out.later (below_alloc w4 (.cells #[.bool s0, .slice a0 n0 c0, .slice b0 m0 d0] 34)))
  obtain ⟨k0, k1, k2, k3, k4, k5, k6, k7, k8, k9, k10, k11⟩ := cells_3_3_3_3 X0.out X1.out X2.out P0.out
  go_wp2_with fail
  refine (law09_to s1 a1 n1 c1 b1 m1 d1 _).mono ?_
  rintro e w5 ⟨rfl, b⟩
  clear k0 k1 k2 k3 k4 k5 k6 k7 k8 k9 k10 k11
  replace HB := Lib.hid (below_then HB.out b)
  replace X0 := Lib.hid (blk_later X0.out b)
  replace X1 := Lib.hid (blk_later X1.out b)
  replace X2 := Lib.hid (blk_later X2.out b)
  replace P0 := Lib.hid (blk_later P0.out b)
  replace A0 := Lib.hid (A0.out.later b)
  replace B0 := Lib.hid (B0.out.later b)
  replace A1 := Lib.hid (A1.out.later b)
  replace B1 := Lib.hid (B1.out.later b)
  replace A2 := Lib.hid (A2.out.later b)
  replace B2 := Lib.hid (B2.out.later b)
  clear b
  unfold frV
  have P1 : Hid ((World.alloc w5 (.cells #[.bool s1, .slice a1 n1 c1, .slice b1 m1 d1] 34)).heap[w5.heap.size]? = some (.cells #[.bool s1, .slice a1 n1 c1, .slice b1 m1 d1] 34 (0, 0))) := Lib.hid (blk_new w5 _ _)
  replace HB := Lib.hid (below_then HB.out (below_alloc w5 (.cells #[.bool s1, .slice a1 n1 c1, .slice b1 m1 d1] 34)))
  replace X0 := Lib.hid (blk_later X0.out (below_alloc w5 (.cells #[.bool s1, .slice a1 n1 c1, .slice b1 m1 d1] 34)))
  replace X1 := Lib.hid (blk_later X1.out (below_alloc w5 (.cells #[.bool s1, .slice a1 n1 c1, .slice b1 m1 d1] 34)))
  replace X2 := Lib.hid (blk_later X2.out (below_alloc w5 (.cells #[.bool s1, .slice a1 n1 c1, .slice b1 m1 d1] 34)))
  replace P0 := Lib.hid (blk_later P0.out (below_alloc w5 (.cells #[.bool s1, .slice a1 n1 c1, .slice b1 m1 d1] 34)))
  replace A0 := Lib.hid (A0.out.later (below_alloc w5 (.cells #[.bool s1, .slice a1 n1 c1, .slice b1 m1 d1] 34)))
  replace B0 := Lib.hid (B0.out.later (below_alloc w5 (.cells #[.bool s1, .slice a1 n1 c1, .slice b1 m1 d1] 34)))
  replace A1 := Lib.hid (A1.out.later (below_alloc w5 (.cells #[.bool s1, .slice a1 n1 c1, .slice b1 m1 d1] 34)))
  replace B1 := Lib.hid (B1.out.later (below_alloc w5 (.cells #[.bool s1, .slice a1 n1 c1, .slice b1 m1 d1] 34)))
  replace A2 := Lib.hid (A2.out.later (below_alloc w5 (.cells #[.bool s1, .slice a1 n1 c1, .slice b1 m1 d1] 34)))
  replace B2 := Lib.hid (B2.out.later (below_alloc w5 (.cells #[.bool s1, .slice a1 n1 c1, .slice b1 m1 d1] 34)))
  obtain ⟨k0, k1, k2, k3, k4, k5, k6, k7, k8, k9, k10, k11, k12, k13, k14⟩ := cells_3_3_3_3_3 X0.out X1.out X2.out P0.out P1.out
  go_wp2_with fail
  refine (law09_to s2 a2 n2 c2 b2 m2 d2 _).mono ?_
  rintro e w6 ⟨rfl, b⟩
  clear k0 k1 k2 k3 k4 k5 k6 k7 k8 k9 k10 k11 k12 k13 k14
  replace HB := Lib.hid (below_then HB.out b)
  replace X0 := Lib.hid (blk_later X0.out b)
  replace X1 := Lib.hid (blk_later X1.out b)
  replace X2 := Lib.hid (blk_later X2.out b)
  replace P0 := Lib.hid (blk_later P0.out b)
  replace P1 := Lib.hid (blk_later P1.out b)
  replace A0 := Lib.hid (A0.out.later b)
  replace B0 := Lib.hid (B0.out.later b)
  replace A1 := Lib.hid (A1.out.later b)
  replace B1 := Lib.hid (B1.out.later b)
  replace A2 := Lib.hid (A2.out.later b)
  replace B2 := Lib.hid (B2.out.later b)
  clear b
  unfold frV
  have P2 : Hid ((World.alloc w6 (.cells #[.bool s2, .slice a2 n2 c2, .slice b2 m2 d2] 34)).heap[w6.heap.size]? = some (.cells #[.bool s2, .slice a2 n2 c2, .slice b2 m2 d2] 34 (0, 0))) := Lib.hid (blk_new w6 _ _)
  replace HB := Lib.hid (below_then HB.out (below_alloc w6 (.cells #[.bool s2, .slice a2 n2 c2, .slice b2 m2 d2] 34)))
  replace X0 := Lib.hid (blk_later X0.out (below_alloc w6 (.cells #[.bool s2, .slice a2 n2 c2, .slice b2 m2 d2] 34)))
  replace X1 := Lib.hid (blk_later X1.out (below_alloc w6 (.cells #[.bool s2, .slice a2 n2 c2, .slice b2 m2 d2] 34)))
  replace X2 := Lib.hid (blk_later X2.out (below_alloc w6 (.cells #[.bool s2, .slice a2 n2 c2, .slice b2 m2 d2] 34)))
  replace P0 := Lib.hid (blk_later P0.out (below_alloc w6 (.cells #[.bool s2, .slice a2 n2 c2, .slice b2 m2 d2] 34)))
  replace P1 := Lib.hid (blk_later P1.out (below_alloc w6 (.cells #[.bool s2, .slice a2 n2 c2, .slice b2 m2 d2] 34)))
  replace A0 := Lib.hid (A0.out.later (below_alloc w6 (.cells #[.bool s2, .slice a2 n2 c2, .slice b2 m2 d2] 34)))
  replace B0 := Lib.hid (B0.out.later (below_alloc w6 (.cells #[.bool s2, .slice a2 n2 c2, .slice b2 m2 d2] 34)))
  replace A1 := Lib.hid (A1.out.later (below_alloc w6 (.cells #[.bool s2, .slice a2 n2 c2, .slice b2 m2 d2] 34)))
  replace B1 := Lib.hid (B1.out.later (below_alloc w6 (.cells #[.bool s2, .slice a2 n2 c2, .slice b2 m2 d2] 34)))
  replace A2 := Lib.hid (A2.out.later (below_alloc w6 (.cells #[.bool s2, .slice a2 n2 c2, .slice b2 m2 d2] 34)))
  replace B2 := Lib.hid (B2.out.later (below_alloc w6 (.cells #[.bool s2, .slice a2 n2 c2, .slice b2 m2 d2] 34)))
  obtain ⟨k0, k1, k2, k3, k4, k5, k6, k7, k8⟩ := cells_3_3_3 P0.out P1.out P2.out
  go_wp2_with fail
  refine (S.cmp _ _ p0 p1 _ (Fr.of A0.out B0.out (by omega) (by omega) EQ0.out) (Fr.of A1.out B1.out (by omega) (by omega) EQ1.out)).mono ?_
  rintro e w7 ⟨rfl, b⟩
  clear k0 k1 k2 k3 k4 k5 k6 k7 k8
  replace HB := Lib.hid (below_then HB.out b)
  replace P0 := Lib.hid (blk_later P0.out b)
  replace P1 := Lib.hid (blk_later P1.out b)
  replace P2 := Lib.hid (blk_later P2.out b)
  replace A0 := Lib.hid (A0.out.later b)
  replace B0 := Lib.hid (B0.out.later b)
  replace A1 := Lib.hid (A1.out.later b)
  replace B1 := Lib.hid (B1.out.later b)
  replace A2 := Lib.hid (A2.out.later b)
  replace B2 := Lib.hid (B2.out.later b)
  clear b
  rw [← Hso.out]
  obtain ⟨k0, k1, k2, k3, k4, k5, k6, k7, k8⟩ := cells_3_3_3 P0.out P1.out P2.out
  go_wp2_with fail
  refine (S.cmp _ _ p1 p2 _ (Fr.of A1.out B1.out (by omega) (by omega) EQ1.out) (Fr.of A2.out B2.out (by omega) (by omega) EQ2.out)).mono ?_
  rintro e w8 ⟨rfl, b⟩
  clear k0 k1 k2 k3 k4 k5 k6 k7 k8
  replace HB := Lib.hid (below_then HB.out b)
  replace P0 := Lib.hid (blk_later P0.out b)
  replace P1 := Lib.hid (blk_later P1.out b)
  replace P2 := Lib.hid (blk_later P2.out b)
  replace A0 := Lib.hid (A0.out.later b)
  replace B0 := Lib.hid (B0.out.later b)
  replace A1 := Lib.hid (A1.out.later b)
  replace B1 := Lib.hid (B1.out.later b)
  replace A2 := Lib.hid (A2.out.later b)
  replace B2 := Lib.hid (B2.out.later b)
  clear b
  rw [← Hsp.out]
  have j1 := D1.out
  obtain ⟨k0, k1, k2, k3, k4, k5, k6, k7, k8⟩ := cells_3_3_3 P0.out P1.out P2.out
  go_wp2
  clear k0 k1 k2 k3 k4 k5 k6 k7 k8
  clear j1
  obtain ⟨j1, j2, j3⟩ := KN.out
  obtain ⟨j4, j5, j6⟩ := KM.out
  have j7 := KE.out
  have j8 : (ns == ns) = true := beq_self_eq_true ns
  have j9 : (so == so) = true := beq_self_eq_true so
  have j10 : (mz == mz) = true := beq_self_eq_true mz
  have j11 : (eb == eb) = true := beq_self_eq_true eb
  have j12 : (ns == -so) = true := by rw [j1]; exact j8
  have j13 : (mz == so * sz) = true := by rw [j4]; exact j10
  have j14 : IntKind.i64.wrap (-so) = ns := by rw [j1, IntKind.wrap_i64]; omega
  have j15 : IntKind.i64.wrap ns = ns := by rw [IntKind.wrap_i64]; omega
  have j16 : IntKind.i64.wrap (so * sz) = mz := by rw [j4, IntKind.wrap_i64]; omega
  have j17 : IntKind.i64.wrap mz = mz := by rw [IntKind.wrap_i64]; omega
  have j18 : -1 ≤ so ∧ so ≤ 1 := by omega
  replace HB := Lib.hid (below_then HB.out ((Below.refl _ _).drew : Below w8.heap.size w8 w8.drew))
  replace P0 : Hid (w8.drew.heap[w4.heap.size]? = _) := Lib.hid P0.out
  replace P1 : Hid (w8.drew.heap[w5.heap.size]? = _) := Lib.hid P1.out
  replace P2 : Hid (w8.drew.heap[w6.heap.size]? = _) := Lib.hid P2.out
  replace A0 := Lib.hid (A0.out.later ((Below.refl _ _).drew : Below w8.heap.size w8 w8.drew))
  replace B0 := Lib.hid (B0.out.later ((Below.refl _ _).drew : Below w8.heap.size w8 w8.drew))
  replace A1 := Lib.hid (A1.out.later ((Below.refl _ _).drew : Below w8.heap.size w8 w8.drew))
  replace B1 := Lib.hid (B1.out.later ((Below.refl _ _).drew : Below w8.heap.size w8 w8.drew))
  replace A2 := Lib.hid (A2.out.later ((Below.refl _ _).drew : Below w8.heap.size w8 w8.drew))
  replace B2 := Lib.hid (B2.out.later ((Below.refl _ _).drew : Below w8.heap.size w8 w8.drew))
  have rSn := cells_3_3_3 P0.out P1.out P2.out
  go_region_held3 (fun w' => w'.cell? ⟨w4.heap.size, 0, none⟩ = some (.bool s0) ∧ w'.cell? ⟨w4.heap.size, 1, none⟩ = some (.slice a0 n0 c0) ∧ w'.cell? ⟨w4.heap.size, 2, none⟩ = some (.slice b0 m0 d0) ∧ w'.cell? ⟨w5.heap.size, 0, none⟩ = some (.bool s1) ∧ w'.cell? ⟨w5.heap.size, 1, none⟩ = some (.slice a1 n1 c1) ∧ w'.cell? ⟨w5.heap.size, 2, none⟩ = some (.slice b1 m1 d1) ∧ w'.cell? ⟨w6.heap.size, 0, none⟩ = some (.bool s2) ∧ w'.cell? ⟨w6.heap.size, 1, none⟩ = some (.slice a2 n2 c2) ∧ w'.cell? ⟨w6.heap.size, 2, none⟩ = some (.slice b2 m2 d2)) (exact rSn)
    (first
    | (go_at_call 41; (first
      | (have rm6 := rM6; refine (S.cmp _ _ y z _ (Fr.right R7.out T7.out (by omega) (by omega)) (Fr.right R8.out T8.out (by omega) (by omega))).mono ?_; rintro e wr7 ⟨rfl, b⟩; replace HB := Lib.hid (below_then HB.out b); replace P0 := Lib.hid (blk_later P0.out b); replace P1 := Lib.hid (blk_later P1.out b); replace P2 := Lib.hid (blk_later P2.out b); replace A0 := Lib.hid (A0.out.later b); replace B0 := Lib.hid (B0.out.later b); replace A1 := Lib.hid (A1.out.later b); replace B1 := Lib.hid (B1.out.later b); replace A2 := Lib.hid (A2.out.later b); replace B2 := Lib.hid (B2.out.later b); clear R7; clear T7; clear R8; clear T8; rw [G3.out]; clear b; clear rSn; have rSn := cells_3_3_3 P0.out P1.out P2.out; clear rM6 rm6; have rM7 := True.intro)
      | (have rm3 := rM3; refine (S.cmp _ _ u v _ (Fr.right R5.out T5.out (by omega) (by omega)) (Fr.right R6.out T6.out (by omega) (by omega))).mono ?_; rintro e wr4 ⟨rfl, b⟩; replace HB := Lib.hid (below_then HB.out b); replace P0 := Lib.hid (blk_later P0.out b); replace P1 := Lib.hid (blk_later P1.out b); replace P2 := Lib.hid (blk_later P2.out b); replace A0 := Lib.hid (A0.out.later b); replace B0 := Lib.hid (B0.out.later b); replace A1 := Lib.hid (A1.out.later b); replace B1 := Lib.hid (B1.out.later b); replace A2 := Lib.hid (A2.out.later b); replace B2 := Lib.hid (B2.out.later b); clear R5; clear T5; clear R6; clear T6; rw [G2.out]; clear b; clear rSn; have rSn := cells_3_3_3 P0.out P1.out P2.out; clear rM3 rm3; have rM4 := True.intro)
      | (refine (S.cmp _ _ p1 p0 _ (Fr.of A1.out B1.out (by omega) (by omega) EQ1.out) (Fr.of A0.out B0.out (by omega) (by omega) EQ0.out)).mono ?_; rintro e wr1 ⟨rfl, b⟩; replace HB := Lib.hid (below_then HB.out b); replace P0 := Lib.hid (blk_later P0.out b); replace P1 := Lib.hid (blk_later P1.out b); replace P2 := Lib.hid (blk_later P2.out b); replace A0 := Lib.hid (A0.out.later b); replace B0 := Lib.hid (B0.out.later b); replace A1 := Lib.hid (A1.out.later b); replace B1 := Lib.hid (B1.out.later b); replace A2 := Lib.hid (A2.out.later b); replace B2 := Lib.hid (B2.out.later b); rw [G1.out]; clear b; clear rSn; have rSn := cells_3_3_3 P0.out P1.out P2.out; have rM1 := True.intro)))
    | (go_at_call 28; (first
      | (have rm2 := rM2; refine (S.add _ _ p1 p2 _ (Fr.of A1.out B1.out (by omega) (by omega) EQ1.out) (Fr.of A2.out B2.out (by omega) (by omega) EQ2.out)).mono ?_; rintro e wr3 ⟨a6, n6, c6, b6, m6, d6, rfl, h6, g6, b⟩; replace HB := Lib.hid (below_then HB.out b); replace P0 := Lib.hid (blk_later P0.out b); replace P1 := Lib.hid (blk_later P1.out b); replace P2 := Lib.hid (blk_later P2.out b); replace A0 := Lib.hid (A0.out.later b); replace B0 := Lib.hid (B0.out.later b); replace A1 := Lib.hid (A1.out.later b); replace B1 := Lib.hid (B1.out.later b); replace A2 := Lib.hid (A2.out.later b); replace B2 := Lib.hid (B2.out.later b); replace R5 := Lib.hid (R5.out.later b); replace T5 := Lib.hid (T5.out.later b); have R6 := Lib.hid h6; have T6 := Lib.hid g6; rw [Ev.out] at h6 g6 ⊢; have hN6 : n6 ≤ qlen v := (by rw [← h6.len]; exact qlen_num _); have hM6 : m6 ≤ qlen v := (by rw [← g6.len]; exact qlen_den _); replace R6 : Hid (Wd _ a6 n6 c6 (dg v.num.natAbs)) := Lib.hid h6; replace T6 : Hid (Wd _ b6 m6 d6 (dg v.den)) := Lib.hid g6; clear h6 g6; clear b; clear rSn; have rSn := cells_3_3_3 P0.out P1.out P2.out; clear rM2 rm2; have rM3 := True.intro)
      | (have rm1 := rM1; refine (S.add _ _ p0 p2 _ (Fr.of A0.out B0.out (by omega) (by omega) EQ0.out) (Fr.of A2.out B2.out (by omega) (by omega) EQ2.out)).mono ?_; rintro e wr2 ⟨a5, n5, c5, b5, m5, d5, rfl, h5, g5, b⟩; replace HB := Lib.hid (below_then HB.out b); replace P0 := Lib.hid (blk_later P0.out b); replace P1 := Lib.hid (blk_later P1.out b); replace P2 := Lib.hid (blk_later P2.out b); replace A0 := Lib.hid (A0.out.later b); replace B0 := Lib.hid (B0.out.later b); replace A1 := Lib.hid (A1.out.later b); replace B1 := Lib.hid (B1.out.later b); replace A2 := Lib.hid (A2.out.later b); replace B2 := Lib.hid (B2.out.later b); have R5 := Lib.hid h5; have T5 := Lib.hid g5; rw [Eu.out] at h5 g5 ⊢; have hN5 : n5 ≤ qlen u := (by rw [← h5.len]; exact qlen_num _); have hM5 : m5 ≤ qlen u := (by rw [← g5.len]; exact qlen_den _); replace R5 : Hid (Wd _ a5 n5 c5 (dg u.num.natAbs)) := Lib.hid h5; replace T5 : Hid (Wd _ b5 m5 d5 (dg u.den)) := Lib.hid g5; clear h5 g5; clear b; clear rSn; have rSn := cells_3_3_3 P0.out P1.out P2.out; clear rM1 rm1; have rM2 := True.intro)))
    | (go_at_call 32; (first
      | (have rm5 := rM5; refine (S.mul _ _ p1 p2 _ (Fr.of A1.out B1.out (by omega) (by omega) EQ1.out) (Fr.of A2.out B2.out (by omega) (by omega) EQ2.out)).mono ?_; rintro e wr6 ⟨a8, n8, c8, b8, m8, d8, rfl, h8, g8, b⟩; replace HB := Lib.hid (below_then HB.out b); replace P0 := Lib.hid (blk_later P0.out b); replace P1 := Lib.hid (blk_later P1.out b); replace P2 := Lib.hid (blk_later P2.out b); replace A0 := Lib.hid (A0.out.later b); replace B0 := Lib.hid (B0.out.later b); replace A1 := Lib.hid (A1.out.later b); replace B1 := Lib.hid (B1.out.later b); replace A2 := Lib.hid (A2.out.later b); replace B2 := Lib.hid (B2.out.later b); replace R7 := Lib.hid (R7.out.later b); replace T7 := Lib.hid (T7.out.later b); have R8 := Lib.hid h8; have T8 := Lib.hid g8; rw [Ez.out] at h8 g8 ⊢; have hN8 : n8 ≤ qlen z := (by rw [← h8.len]; exact qlen_num _); have hM8 : m8 ≤ qlen z := (by rw [← g8.len]; exact qlen_den _); replace R8 : Hid (Wd _ a8 n8 c8 (dg z.num.natAbs)) := Lib.hid h8; replace T8 : Hid (Wd _ b8 m8 d8 (dg z.den)) := Lib.hid g8; clear h8 g8; clear b; clear rSn; have rSn := cells_3_3_3 P0.out P1.out P2.out; clear rM5 rm5; have rM6 := True.intro)
      | (have rm4 := rM4; refine (S.mul _ _ p0 p2 _ (Fr.of A0.out B0.out (by omega) (by omega) EQ0.out) (Fr.of A2.out B2.out (by omega) (by omega) EQ2.out)).mono ?_; rintro e wr5 ⟨a7, n7, c7, b7, m7, d7, rfl, h7, g7, b⟩; replace HB := Lib.hid (below_then HB.out b); replace P0 := Lib.hid (blk_later P0.out b); replace P1 := Lib.hid (blk_later P1.out b); replace P2 := Lib.hid (blk_later P2.out b); replace A0 := Lib.hid (A0.out.later b); replace B0 := Lib.hid (B0.out.later b); replace A1 := Lib.hid (A1.out.later b); replace B1 := Lib.hid (B1.out.later b); replace A2 := Lib.hid (A2.out.later b); replace B2 := Lib.hid (B2.out.later b); have R7 := Lib.hid h7; have T7 := Lib.hid g7; rw [Ey.out] at h7 g7 ⊢; have hN7 : n7 ≤ qlen y := (by rw [← h7.len]; exact qlen_num _); have hM7 : m7 ≤ qlen y := (by rw [← g7.len]; exact qlen_den _); replace R7 : Hid (Wd _ a7 n7 c7 (dg y.num.natAbs)) := Lib.hid h7; replace T7 : Hid (Wd _ b7 m7 d7 (dg y.den)) := Lib.hid g7; clear h7 g7; clear b; clear rSn; have rSn := cells_3_3_3 P0.out P1.out P2.out; clear rM4 rm4; have rM5 := True.intro)))
    | (go_at_call 38; (first
      | (have rm7 := rM7; refine (S.sign _ p2 _ (Fr.of A2.out B2.out (by omega) (by omega) EQ2.out)).mono ?_; rintro e wr8 ⟨rfl, b⟩; replace HB := Lib.hid (below_then HB.out b); replace P0 := Lib.hid (blk_later P0.out b); replace P1 := Lib.hid (blk_later P1.out b); replace P2 := Lib.hid (blk_later P2.out b); replace A0 := Lib.hid (A0.out.later b); replace B0 := Lib.hid (B0.out.later b); replace A1 := Lib.hid (A1.out.later b); replace B1 := Lib.hid (B1.out.later b); replace A2 := Lib.hid (A2.out.later b); replace B2 := Lib.hid (B2.out.later b); rw [← Hsz.out]; clear b; clear rSn; have rSn := cells_3_3_3 P0.out P1.out P2.out; clear rM7 rm7; have rM8 := True.intro)))
    | (go_at_call 39; (first
      | (have rm8 := rM8; refine (S.same _ _ p0 p1 _ (Fr.of A0.out B0.out (by omega) (by omega) EQ0.out) (Fr.of A1.out B1.out (by omega) (by omega) EQ1.out)).mono ?_; rintro e wr9 ⟨rfl, b⟩; replace HB := Lib.hid (below_then HB.out b); replace P0 := Lib.hid (blk_later P0.out b); replace P1 := Lib.hid (blk_later P1.out b); replace P2 := Lib.hid (blk_later P2.out b); replace A0 := Lib.hid (A0.out.later b); replace B0 := Lib.hid (B0.out.later b); replace A1 := Lib.hid (A1.out.later b); replace B1 := Lib.hid (B1.out.later b); replace A2 := Lib.hid (A2.out.later b); replace B2 := Lib.hid (B2.out.later b); rw [G4.out]; clear b; clear rSn; have rSn := cells_3_3_3 P0.out P1.out P2.out; clear rM8 rm8; have rM9 := True.intro)))
    | (go_at_call 10; (first
      | (have rm9 := rM9; refine (law09_works S _).mono ?_; rintro e wr10 ⟨rfl, b⟩; replace HB := Lib.hid (below_then HB.out b); replace P0 := Lib.hid (blk_later P0.out b); replace P1 := Lib.hid (blk_later P1.out b); replace P2 := Lib.hid (blk_later P2.out b); replace A0 := Lib.hid (A0.out.later b); replace B0 := Lib.hid (B0.out.later b); replace A1 := Lib.hid (A1.out.later b); replace B1 := Lib.hid (B1.out.later b); replace A2 := Lib.hid (A2.out.later b); replace B2 := Lib.hid (B2.out.later b); clear b; clear rSn; have rSn := cells_3_3_3 P0.out P1.out P2.out; clear rM9 rm9; have rM10 := True.intro))))
  go_wp2
  go_ret
  exact ⟨rfl, HB.out⟩
set_option maxRecDepth 4096 in
set_option maxHeartbeats 16000000 in
theorem law09_order_out (S : FracSaid) (s0 : Bool) (a0 : Option Addr) (n0 c0 : Nat) (b0 : Option Addr) (m0 d0 : Nat) (s1 : Bool) (a1 : Option Addr) (n1 c1 : Nat) (b1 : Option Addr) (m1 d1 : Nat) (s2 : Bool) (a2 : Option Addr) (n2 c2 : Nat) (b2 : Option Addr) (m2 d2 : Nat) (w : World) (h : 6 < n0 ∨ 6 < m0 ∨ 6 < n1 ∨ 6 < m1 ∨ 6 < n2 ∨ 6 < m2) :
    Calls Try.prog 7 #[frV s0 a0 n0 c0 b0 m0 d0, frV s1 a1 n1 c1 b1 m1 d1, frV s2 a2 n2 c2 b2 m2 d2] w (Gives (.bool true) w) := by
  have HB := Lib.hid (below_then (below_then (below_alloc w (.cells #[.bool s0, .slice a0 n0 c0, .slice b0 m0 d0] 24)) (below_alloc (w.alloc (.cells #[.bool s0, .slice a0 n0 c0, .slice b0 m0 d0] 24)) (.cells #[.bool s1, .slice a1 n1 c1, .slice b1 m1 d1] 24))) (below_alloc ((w.alloc (.cells #[.bool s0, .slice a0 n0 c0, .slice b0 m0 d0] 24)).alloc (.cells #[.bool s1, .slice a1 n1 c1, .slice b1 m1 d1] 24)) (.cells #[.bool s2, .slice a2 n2 c2, .slice b2 m2 d2] 24)))
  obtain ⟨hx0, hx1, hx2⟩ := boxes3_at9 w #[.bool s0, .slice a0 n0 c0, .slice b0 m0 d0] #[.bool s1, .slice a1 n1 c1, .slice b1 m1 d1] #[.bool s2, .slice a2 n2 c2, .slice b2 m2 d2] 24 24 24
  have X0 := Lib.hid hx0
  have X1 := Lib.hid hx1
  have X2 := Lib.hid hx2
  clear hx0 hx1 hx2
  by_cases h0 : 6 < n0 ∨ 6 < m0
  · have hl0 : (decide ((6 : Int) < (n0 : Int)) || decide ((6 : Int) < (m0 : Int))) = true := by
      rcases (show 6 < n0 ∨ 6 < m0 by omega) with h9 | h9
      · rw [decide_eq_true (by omega)]; rfl
      · rw [Bool.or_eq_true]; exact .inr (decide_eq_true (by omega))
    clear h h0
    go_enter Try.func7, Try.ntmps7
    unfold frV
    obtain ⟨k0, k1, k2, k3, k4, k5, k6, k7, k8⟩ := cells_3_3_3 X0.out X1.out X2.out
    go_wp2_with fail
    refine (ref09_long s0 a0 n0 c0 b0 m0 d0 6 _).mono ?_
    rintro e w1 ⟨rfl, b⟩
    clear k0 k1 k2 k3 k4 k5 k6 k7 k8
    replace HB := Lib.hid (below_then HB.out b)
    replace X0 := Lib.hid (blk_later X0.out b)
    replace X1 := Lib.hid (blk_later X1.out b)
    replace X2 := Lib.hid (blk_later X2.out b)
    clear b
    rw [hl0]
    obtain ⟨k0, k1, k2, k3, k4, k5, k6, k7, k8⟩ := cells_3_3_3 X0.out X1.out X2.out
    go_wp2_with fail
    refine (law09_works S _).mono ?_
    rintro e w2 ⟨rfl, b⟩
    clear k0 k1 k2 k3 k4 k5 k6 k7 k8
    replace HB := Lib.hid (below_then HB.out b)
    replace X0 := Lib.hid (blk_later X0.out b)
    replace X1 := Lib.hid (blk_later X1.out b)
    replace X2 := Lib.hid (blk_later X2.out b)
    clear b
    go_wp2
    go_ret
    exact ⟨rfl, HB.out⟩
  · have hl0 : (decide ((6 : Int) < (n0 : Int)) || decide ((6 : Int) < (m0 : Int))) = false := by rw [decide_eq_false (by omega), decide_eq_false (by omega)]; rfl
    by_cases h1 : 6 < n1 ∨ 6 < m1
    · have hl1 : (decide ((6 : Int) < (n1 : Int)) || decide ((6 : Int) < (m1 : Int))) = true := by
        rcases (show 6 < n1 ∨ 6 < m1 by omega) with h9 | h9
        · rw [decide_eq_true (by omega)]; rfl
        · rw [Bool.or_eq_true]; exact .inr (decide_eq_true (by omega))
      clear h h0 h1
      go_enter Try.func7, Try.ntmps7
      unfold frV
      obtain ⟨k0, k1, k2, k3, k4, k5, k6, k7, k8⟩ := cells_3_3_3 X0.out X1.out X2.out
      go_wp2_with fail
      refine (ref09_long s0 a0 n0 c0 b0 m0 d0 6 _).mono ?_
      rintro e w1 ⟨rfl, b⟩
      clear k0 k1 k2 k3 k4 k5 k6 k7 k8
      replace HB := Lib.hid (below_then HB.out b)
      replace X0 := Lib.hid (blk_later X0.out b)
      replace X1 := Lib.hid (blk_later X1.out b)
      replace X2 := Lib.hid (blk_later X2.out b)
      clear b
      rw [hl0]
      obtain ⟨k0, k1, k2, k3, k4, k5, k6, k7, k8⟩ := cells_3_3_3 X0.out X1.out X2.out
      go_wp2_with fail
      refine (ref09_long s1 a1 n1 c1 b1 m1 d1 6 _).mono ?_
      rintro e w2 ⟨rfl, b⟩
      clear k0 k1 k2 k3 k4 k5 k6 k7 k8
      replace HB := Lib.hid (below_then HB.out b)
      replace X0 := Lib.hid (blk_later X0.out b)
      replace X1 := Lib.hid (blk_later X1.out b)
      replace X2 := Lib.hid (blk_later X2.out b)
      clear b
      rw [hl1]
      obtain ⟨k0, k1, k2, k3, k4, k5, k6, k7, k8⟩ := cells_3_3_3 X0.out X1.out X2.out
      go_wp2_with fail
      refine (law09_works S _).mono ?_
      rintro e w3 ⟨rfl, b⟩
      clear k0 k1 k2 k3 k4 k5 k6 k7 k8
      replace HB := Lib.hid (below_then HB.out b)
      replace X0 := Lib.hid (blk_later X0.out b)
      replace X1 := Lib.hid (blk_later X1.out b)
      replace X2 := Lib.hid (blk_later X2.out b)
      clear b
      go_wp2
      go_ret
      exact ⟨rfl, HB.out⟩
    · have hl1 : (decide ((6 : Int) < (n1 : Int)) || decide ((6 : Int) < (m1 : Int))) = false := by rw [decide_eq_false (by omega), decide_eq_false (by omega)]; rfl
      have hl2 : (decide ((6 : Int) < (n2 : Int)) || decide ((6 : Int) < (m2 : Int))) = true := by
        rcases (show 6 < n2 ∨ 6 < m2 by omega) with h9 | h9
        · rw [decide_eq_true (by omega)]; rfl
        · rw [Bool.or_eq_true]; exact .inr (decide_eq_true (by omega))
      clear h h0 h1
      go_enter Try.func7, Try.ntmps7
      unfold frV
      obtain ⟨k0, k1, k2, k3, k4, k5, k6, k7, k8⟩ := cells_3_3_3 X0.out X1.out X2.out
      go_wp2_with fail
      refine (ref09_long s0 a0 n0 c0 b0 m0 d0 6 _).mono ?_
      rintro e w1 ⟨rfl, b⟩
      clear k0 k1 k2 k3 k4 k5 k6 k7 k8
      replace HB := Lib.hid (below_then HB.out b)
      replace X0 := Lib.hid (blk_later X0.out b)
      replace X1 := Lib.hid (blk_later X1.out b)
      replace X2 := Lib.hid (blk_later X2.out b)
      clear b
      rw [hl0]
      obtain ⟨k0, k1, k2, k3, k4, k5, k6, k7, k8⟩ := cells_3_3_3 X0.out X1.out X2.out
      go_wp2_with fail
      refine (ref09_long s1 a1 n1 c1 b1 m1 d1 6 _).mono ?_
      rintro e w2 ⟨rfl, b⟩
      clear k0 k1 k2 k3 k4 k5 k6 k7 k8
      replace HB := Lib.hid (below_then HB.out b)
      replace X0 := Lib.hid (blk_later X0.out b)
      replace X1 := Lib.hid (blk_later X1.out b)
      replace X2 := Lib.hid (blk_later X2.out b)
      clear b
      rw [hl1]
      obtain ⟨k0, k1, k2, k3, k4, k5, k6, k7, k8⟩ := cells_3_3_3 X0.out X1.out X2.out
      go_wp2_with fail
      refine (ref09_long s2 a2 n2 c2 b2 m2 d2 6 _).mono ?_
      rintro e w3 ⟨rfl, b⟩
      clear k0 k1 k2 k3 k4 k5 k6 k7 k8
      replace HB := Lib.hid (below_then HB.out b)
      replace X0 := Lib.hid (blk_later X0.out b)
      replace X1 := Lib.hid (blk_later X1.out b)
      replace X2 := Lib.hid (blk_later X2.out b)
      clear b
      rw [hl2]
      obtain ⟨k0, k1, k2, k3, k4, k5, k6, k7, k8⟩ := cells_3_3_3 X0.out X1.out X2.out
      go_wp2_with fail
      refine (law09_works S _).mono ?_
      rintro e w4 ⟨rfl, b⟩
      clear k0 k1 k2 k3 k4 k5 k6 k7 k8
      replace HB := Lib.hid (below_then HB.out b)
      replace X0 := Lib.hid (blk_later X0.out b)
      replace X1 := Lib.hid (blk_later X1.out b)
      replace X2 := Lib.hid (blk_later X2.out b)
      clear b
      go_wp2
      go_ret
      exact ⟨rfl, HB.out⟩
theorem law09_order (S : FracSaid) (s0 : Bool) (a0 : Option Addr) (n0 c0 : Nat) (la0 : List Nat) (b0 : Option Addr) (m0 d0 : Nat) (lb0 : List Nat) (s1 : Bool) (a1 : Option Addr) (n1 c1 : Nat) (la1 : List Nat) (b1 : Option Addr) (m1 d1 : Nat) (lb1 : List Nat) (s2 : Bool) (a2 : Option Addr) (n2 c2 : Nat) (la2 : List Nat) (b2 : Option Addr) (m2 d2 : Nat) (lb2 : List Nat) (w : World) (ha0 : Wd w a0 n0 c0 la0) (hb0 : Wd w b0 m0 d0 lb0) (ha1 : Wd w a1 n1 c1 la1) (hb1 : Wd w b1 m1 d1 lb1) (ha2 : Wd w a2 n2 c2 la2) (hb2 : Wd w b2 m2 d2 lb2) :
    Calls Try.prog 7 #[frV s0 a0 n0 c0 b0 m0 d0, frV s1 a1 n1 c1 b1 m1 d1, frV s2 a2 n2 c2 b2 m2 d2] w (Gives (.bool true) w) := by
  by_cases h : 6 < n0 ∨ 6 < m0 ∨ 6 < n1 ∨ 6 < m1 ∨ 6 < n2 ∨ 6 < m2
  · exact law09_order_out S s0 a0 n0 c0 b0 m0 d0 s1 a1 n1 c1 b1 m1 d1 s2 a2 n2 c2 b2 m2 d2 w h
  · by_cases h1 : 0 ≤ sgn (qval s0 (val la0) (val lb0) - qval s1 (val la1) (val lb1)).num
    · by_cases h2 : 0 ≤ sgn (qval s1 (val la1) (val lb1) - qval s2 (val la2) (val lb2)).num
      · exact law09_order_both S s0 a0 n0 c0 la0 b0 m0 d0 lb0 s1 a1 n1 c1 la1 b1 m1 d1 lb1 s2 a2 n2 c2 la2 b2 m2 d2 lb2 w ha0 hb0 ha1 hb1 ha2 hb2 (by omega) (by omega) (by omega) (by omega) (by omega) (by omega) h1 h2
      · exact law09_order_one S s0 a0 n0 c0 la0 b0 m0 d0 lb0 s1 a1 n1 c1 la1 b1 m1 d1 lb1 s2 a2 n2 c2 la2 b2 m2 d2 lb2 w ha0 hb0 ha1 hb1 ha2 hb2 (by omega) (by omega) (by omega) (by omega) (by omega) (by omega) h1 (by omega)
    · exact law09_order_none S s0 a0 n0 c0 la0 b0 m0 d0 lb0 s1 a1 n1 c1 la1 b1 m1 d1 lb1 s2 a2 n2 c2 la2 b2 m2 d2 lb2 w ha0 hb0 ha1 hb1 ha2 hb2 (by omega) (by omega) (by omega) (by omega) (by omega) (by omega) (by omega)
end Go.Proofs.Ytpjgmkkdbmegjaa
