/-
  The walks of the laws of layer 9: FracPowers.
-/
import Derived.Test.YtpjgmkkdbmegjaaG17
import Derived.Deep.RegionHeld3
namespace Go.Proofs.Ytpjgmkkdbmegjaa
open Go.RowKit

set_option maxRecDepth 4096 in
set_option maxHeartbeats 16000000 in
theorem law09_powers_yes (S : FracSaid) (s0 : Bool) (a0 : Option Addr) (n0 c0 : Nat) (la0 : List Nat) (b0 : Option Addr) (m0 d0 : Nat) (lb0 : List Nat) (w : World) (ha0 : Wd w a0 n0 c0 la0) (hb0 : Wd w b0 m0 d0 lb0) (hn0 : n0 ≤ 4) (hm0 : m0 ≤ 4) (e : Int) (he : powOk (qval s0 (val la0) (val lb0)) e) :
    Calls Try.prog 5 #[frV s0 a0 n0 c0 b0 m0 d0, .int .i64 e] w (Gives (.bool true) w) := by
  have HB := Lib.hid (below_alloc w (.cells #[.bool s0, .slice a0 n0 c0, .slice b0 m0 d0] 24))
  have A0 := Lib.hid (ha0.later HB.out)
  have B0 := Lib.hid (hb0.later HB.out)
  have X0 : Hid ((w.alloc (.cells #[.bool s0, .slice a0 n0 c0, .slice b0 m0 d0] 24)).heap[w.heap.size]? = some (.cells #[.bool s0, .slice a0 n0 c0, .slice b0 m0 d0] 24 (0, 0))) := Lib.hid (blk_new w _ _)
  obtain ⟨p0, hp0⟩ : ∃ p, qval s0 (val la0) (val lb0) = p := ⟨_, rfl⟩
  have lp0 : qlen p0 ≤ 5 := (Fr.of ha0 hb0 hn0 hm0 hp0).len
  have EQ0 := Lib.hid hp0
  rw [hp0] at he
  have HE := Lib.hid he
  clear he ha0 hb0 hp0
  have hl0 : (decide ((4 : Int) < (n0 : Int)) || decide ((4 : Int) < (m0 : Int))) = false := by rw [decide_eq_false (by omega), decide_eq_false (by omega)]; rfl
  obtain ⟨r, hr⟩ : ∃ r, p0 ^ e = r := ⟨_, rfl⟩
  have lr : qlen r ≤ 1000 := by rw [← hr]; have := qlen_pow HE.out; omega
  have Er := Lib.hid hr
  clear hr
  go_enter Try.func5, Try.ntmps5
  unfold frV
  obtain ⟨k0, k1, k2⟩ := cells_3 X0.out
  go_wp2_with fail
  refine (ref09_long s0 a0 n0 c0 b0 m0 d0 4 _).mono ?_
  rintro e w1 ⟨rfl, b⟩
  clear k0 k1 k2
  replace HB := Lib.hid (below_then HB.out b)
  replace X0 := Lib.hid (blk_later X0.out b)
  replace A0 := Lib.hid (A0.out.later b)
  replace B0 := Lib.hid (B0.out.later b)
  clear b
  rw [hl0]
  obtain ⟨k0, k1, k2⟩ := cells_3 X0.out
  go_wp2_with fail
  refine (law09_to s0 a0 n0 c0 b0 m0 d0 _).mono ?_
  rintro e w2 ⟨rfl, b⟩
  clear k0 k1 k2
  replace HB := Lib.hid (below_then HB.out b)
  replace X0 := Lib.hid (blk_later X0.out b)
  replace A0 := Lib.hid (A0.out.later b)
  replace B0 := Lib.hid (B0.out.later b)
  clear b
  obtain ⟨k0, k1, k2⟩ := cells_3 X0.out
  go_wp2_with fail
  refine (S.pow_yes _ p0 e _ (Fr.of A0.out B0.out (by omega) (by omega) EQ0.out) HE.out).mono ?_
  rintro e w3 ⟨a1, n1, c1, b1, m1, d1, rfl, h1, g1, b⟩
  clear k0 k1 k2
  replace HB := Lib.hid (below_then HB.out b)
  replace X0 := Lib.hid (blk_later X0.out b)
  replace A0 := Lib.hid (A0.out.later b)
  replace B0 := Lib.hid (B0.out.later b)
  clear b
  rw [Er.out] at h1 g1 ⊢
  have R1 := Lib.hid h1
  have T1 := Lib.hid g1
  clear h1 g1
  unfold frV
  have H1 : Hid ((World.alloc w3 (.cells #[.bool (zneg r.num), .slice a1 n1 c1, .slice b1 m1 d1] 34)).heap[w3.heap.size]? = some (.cells #[.bool (zneg r.num), .slice a1 n1 c1, .slice b1 m1 d1] 34 (0, 0))) := Lib.hid (blk_new w3 _ _)
  replace HB := Lib.hid (below_then HB.out (below_alloc w3 (.cells #[.bool (zneg r.num), .slice a1 n1 c1, .slice b1 m1 d1] 34)))
  replace X0 := Lib.hid (blk_later X0.out (below_alloc w3 (.cells #[.bool (zneg r.num), .slice a1 n1 c1, .slice b1 m1 d1] 34)))
  replace A0 := Lib.hid (A0.out.later (below_alloc w3 (.cells #[.bool (zneg r.num), .slice a1 n1 c1, .slice b1 m1 d1] 34)))
  replace B0 := Lib.hid (B0.out.later (below_alloc w3 (.cells #[.bool (zneg r.num), .slice a1 n1 c1, .slice b1 m1 d1] 34)))
  replace R1 := Lib.hid (R1.out.later (below_alloc w3 (.cells #[.bool (zneg r.num), .slice a1 n1 c1, .slice b1 m1 d1] 34)))
  replace T1 := Lib.hid (T1.out.later (below_alloc w3 (.cells #[.bool (zneg r.num), .slice a1 n1 c1, .slice b1 m1 d1] 34)))
  obtain ⟨k0, k1, k2, k3, k4, k5⟩ := cells_3_3 X0.out H1.out
  go_wp2_with fail
  refine (ref09_norm_q _ p0 _ (Fr.of A0.out B0.out (by omega) (by omega) EQ0.out)).mono ?_
  rintro e w4 ⟨a2, n2, c2, b2, m2, d2, rfl, h2, g2, b⟩
  clear k0 k1 k2 k3 k4 k5
  replace HB := Lib.hid (below_then HB.out b)
  replace X0 := Lib.hid (blk_later X0.out b)
  replace H1 := Lib.hid (blk_later H1.out b)
  replace A0 := Lib.hid (A0.out.later b)
  replace B0 := Lib.hid (B0.out.later b)
  replace R1 := Lib.hid (R1.out.later b)
  replace T1 := Lib.hid (T1.out.later b)
  clear b
  have hN2 : n2 ≤ qlen p0 := (by rw [← h2.len]; exact qlen_num _)
  have hM2 : m2 ≤ qlen p0 := (by rw [← g2.len]; exact qlen_den _)
  have R2 := Lib.hid h2
  have T2 := Lib.hid g2
  clear h2 g2
  obtain ⟨k0, k1, k2, k3, k4, k5⟩ := cells_3_3 X0.out H1.out
  go_wp2_with fail
  refine (ref09_pow_yes _ p0 e _ (Rt.of R2.out T2.out (by omega) (by omega)) HE.out).mono ?_
  rintro e w5 ⟨a3, n3, c3, b3, m3, d3, rfl, h3, g3, b⟩
  clear k0 k1 k2 k3 k4 k5
  replace HB := Lib.hid (below_then HB.out b)
  replace X0 := Lib.hid (blk_later X0.out b)
  replace H1 := Lib.hid (blk_later H1.out b)
  clear R2
  clear T2
  replace A0 := Lib.hid (A0.out.later b)
  replace B0 := Lib.hid (B0.out.later b)
  replace R1 := Lib.hid (R1.out.later b)
  replace T1 := Lib.hid (T1.out.later b)
  clear b
  rw [Er.out] at h3 g3 ⊢
  have R3 := Lib.hid h3
  have T3 := Lib.hid g3
  clear h3 g3
  unfold frV
  have H3 : Hid ((World.alloc w5 (.cells #[.bool (zneg r.num), .slice a3 n3 c3, .slice b3 m3 d3] 24)).heap[w5.heap.size]? = some (.cells #[.bool (zneg r.num), .slice a3 n3 c3, .slice b3 m3 d3] 24 (0, 0))) := Lib.hid (blk_new w5 _ _)
  replace HB := Lib.hid (below_then HB.out (below_alloc w5 (.cells #[.bool (zneg r.num), .slice a3 n3 c3, .slice b3 m3 d3] 24)))
  replace X0 := Lib.hid (blk_later X0.out (below_alloc w5 (.cells #[.bool (zneg r.num), .slice a3 n3 c3, .slice b3 m3 d3] 24)))
  replace H1 := Lib.hid (blk_later H1.out (below_alloc w5 (.cells #[.bool (zneg r.num), .slice a3 n3 c3, .slice b3 m3 d3] 24)))
  replace A0 := Lib.hid (A0.out.later (below_alloc w5 (.cells #[.bool (zneg r.num), .slice a3 n3 c3, .slice b3 m3 d3] 24)))
  replace B0 := Lib.hid (B0.out.later (below_alloc w5 (.cells #[.bool (zneg r.num), .slice a3 n3 c3, .slice b3 m3 d3] 24)))
  replace R1 := Lib.hid (R1.out.later (below_alloc w5 (.cells #[.bool (zneg r.num), .slice a3 n3 c3, .slice b3 m3 d3] 24)))
  replace T1 := Lib.hid (T1.out.later (below_alloc w5 (.cells #[.bool (zneg r.num), .slice a3 n3 c3, .slice b3 m3 d3] 24)))
  replace R3 := Lib.hid (R3.out.later (below_alloc w5 (.cells #[.bool (zneg r.num), .slice a3 n3 c3, .slice b3 m3 d3] 24)))
  replace T3 := Lib.hid (T3.out.later (below_alloc w5 (.cells #[.bool (zneg r.num), .slice a3 n3 c3, .slice b3 m3 d3] 24)))
  obtain ⟨k0, k1, k2, k3, k4, k5, k6, k7, k8⟩ := cells_3_3_3 X0.out H1.out H3.out
  go_wp2_with fail
  refine (law09_is_yes (zneg r.num) a1 n1 c1 b1 m1 d1 (dg r.num.natAbs) (dg r.den) a3 n3 c3 b3 m3 d3 _ R1.out T1.out R3.out T3.out).mono ?_
  rintro e w6 ⟨rfl, b⟩
  clear k0 k1 k2 k3 k4 k5 k6 k7 k8
  replace HB := Lib.hid (below_then HB.out b)
  replace X0 := Lib.hid (blk_later X0.out b)
  replace H1 := Lib.hid (blk_later H1.out b)
  replace H3 := Lib.hid (blk_later H3.out b)
  replace A0 := Lib.hid (A0.out.later b)
  replace B0 := Lib.hid (B0.out.later b)
  replace R1 := Lib.hid (R1.out.later b)
  replace T1 := Lib.hid (T1.out.later b)
  replace R3 := Lib.hid (R3.out.later b)
  replace T3 := Lib.hid (T3.out.later b)
  clear b
  obtain ⟨k0, k1, k2, k3, k4, k5, k6, k7, k8⟩ := cells_3_3_3 X0.out H1.out H3.out
  go_wp2_with fail
  refine (law09_works S _).mono ?_
  rintro e w7 ⟨rfl, b⟩
  clear k0 k1 k2 k3 k4 k5 k6 k7 k8
  replace HB := Lib.hid (below_then HB.out b)
  replace X0 := Lib.hid (blk_later X0.out b)
  replace H1 := Lib.hid (blk_later H1.out b)
  replace H3 := Lib.hid (blk_later H3.out b)
  replace A0 := Lib.hid (A0.out.later b)
  replace B0 := Lib.hid (B0.out.later b)
  replace R1 := Lib.hid (R1.out.later b)
  replace T1 := Lib.hid (T1.out.later b)
  replace R3 := Lib.hid (R3.out.later b)
  replace T3 := Lib.hid (T3.out.later b)
  clear b
  go_wp2
  go_ret
  exact ⟨rfl, HB.out⟩
set_option maxRecDepth 4096 in
set_option maxHeartbeats 16000000 in
theorem law09_powers_no (S : FracSaid) (s0 : Bool) (a0 : Option Addr) (n0 c0 : Nat) (la0 : List Nat) (b0 : Option Addr) (m0 d0 : Nat) (lb0 : List Nat) (w : World) (ha0 : Wd w a0 n0 c0 la0) (hb0 : Wd w b0 m0 d0 lb0) (hn0 : n0 ≤ 4) (hm0 : m0 ≤ 4) (e : Int) (hi : isInt e) (he : ¬ powOk (qval s0 (val la0) (val lb0)) e) :
    Calls Try.prog 5 #[frV s0 a0 n0 c0 b0 m0 d0, .int .i64 e] w (Gives (.bool true) w) := by
  have HB := Lib.hid (below_alloc w (.cells #[.bool s0, .slice a0 n0 c0, .slice b0 m0 d0] 24))
  have A0 := Lib.hid (ha0.later HB.out)
  have B0 := Lib.hid (hb0.later HB.out)
  have X0 : Hid ((w.alloc (.cells #[.bool s0, .slice a0 n0 c0, .slice b0 m0 d0] 24)).heap[w.heap.size]? = some (.cells #[.bool s0, .slice a0 n0 c0, .slice b0 m0 d0] 24 (0, 0))) := Lib.hid (blk_new w _ _)
  obtain ⟨p0, hp0⟩ : ∃ p, qval s0 (val la0) (val lb0) = p := ⟨_, rfl⟩
  have lp0 : qlen p0 ≤ 5 := (Fr.of ha0 hb0 hn0 hm0 hp0).len
  have EQ0 := Lib.hid hp0
  rw [hp0] at he
  have HE := Lib.hid he
  have HI := Lib.hid hi
  clear hi
  clear he ha0 hb0 hp0
  have hl0 : (decide ((4 : Int) < (n0 : Int)) || decide ((4 : Int) < (m0 : Int))) = false := by rw [decide_eq_false (by omega), decide_eq_false (by omega)]; rfl
  obtain ⟨z, hz⟩ : ∃ z, (0 : Rat) = z := ⟨_, rfl⟩
  have EZ := Lib.hid hz
  clear hz
  go_enter Try.func5, Try.ntmps5
  unfold frV
  obtain ⟨k0, k1, k2⟩ := cells_3 X0.out
  go_wp2_with fail
  refine (ref09_long s0 a0 n0 c0 b0 m0 d0 4 _).mono ?_
  rintro e w1 ⟨rfl, b⟩
  clear k0 k1 k2
  replace HB := Lib.hid (below_then HB.out b)
  replace X0 := Lib.hid (blk_later X0.out b)
  replace A0 := Lib.hid (A0.out.later b)
  replace B0 := Lib.hid (B0.out.later b)
  clear b
  rw [hl0]
  obtain ⟨k0, k1, k2⟩ := cells_3 X0.out
  go_wp2_with fail
  refine (law09_to s0 a0 n0 c0 b0 m0 d0 _).mono ?_
  rintro e w2 ⟨rfl, b⟩
  clear k0 k1 k2
  replace HB := Lib.hid (below_then HB.out b)
  replace X0 := Lib.hid (blk_later X0.out b)
  replace A0 := Lib.hid (A0.out.later b)
  replace B0 := Lib.hid (B0.out.later b)
  clear b
  obtain ⟨k0, k1, k2⟩ := cells_3 X0.out
  go_wp2_with fail
  refine (S.pow_no _ p0 e _ (Fr.of A0.out B0.out (by omega) (by omega) EQ0.out) HI.out HE.out).mono ?_
  rintro e w3 ⟨a1, n1, c1, b1, m1, d1, rfl, h1, g1, b⟩
  clear k0 k1 k2
  replace HB := Lib.hid (below_then HB.out b)
  replace X0 := Lib.hid (blk_later X0.out b)
  replace A0 := Lib.hid (A0.out.later b)
  replace B0 := Lib.hid (B0.out.later b)
  clear b
  rw [EZ.out] at h1 g1 ⊢
  have R1 := Lib.hid h1
  have T1 := Lib.hid g1
  clear h1 g1
  unfold frV
  have H1 : Hid ((World.alloc w3 (.cells #[.bool (zneg z.num), .slice a1 n1 c1, .slice b1 m1 d1] 34)).heap[w3.heap.size]? = some (.cells #[.bool (zneg z.num), .slice a1 n1 c1, .slice b1 m1 d1] 34 (0, 0))) := Lib.hid (blk_new w3 _ _)
  replace HB := Lib.hid (below_then HB.out (below_alloc w3 (.cells #[.bool (zneg z.num), .slice a1 n1 c1, .slice b1 m1 d1] 34)))
  replace X0 := Lib.hid (blk_later X0.out (below_alloc w3 (.cells #[.bool (zneg z.num), .slice a1 n1 c1, .slice b1 m1 d1] 34)))
  replace A0 := Lib.hid (A0.out.later (below_alloc w3 (.cells #[.bool (zneg z.num), .slice a1 n1 c1, .slice b1 m1 d1] 34)))
  replace B0 := Lib.hid (B0.out.later (below_alloc w3 (.cells #[.bool (zneg z.num), .slice a1 n1 c1, .slice b1 m1 d1] 34)))
  replace R1 := Lib.hid (R1.out.later (below_alloc w3 (.cells #[.bool (zneg z.num), .slice a1 n1 c1, .slice b1 m1 d1] 34)))
  replace T1 := Lib.hid (T1.out.later (below_alloc w3 (.cells #[.bool (zneg z.num), .slice a1 n1 c1, .slice b1 m1 d1] 34)))
  obtain ⟨k0, k1, k2, k3, k4, k5⟩ := cells_3_3 X0.out H1.out
  go_wp2_with fail
  refine (ref09_norm_q _ p0 _ (Fr.of A0.out B0.out (by omega) (by omega) EQ0.out)).mono ?_
  rintro e w4 ⟨a2, n2, c2, b2, m2, d2, rfl, h2, g2, b⟩
  clear k0 k1 k2 k3 k4 k5
  replace HB := Lib.hid (below_then HB.out b)
  replace X0 := Lib.hid (blk_later X0.out b)
  replace H1 := Lib.hid (blk_later H1.out b)
  replace A0 := Lib.hid (A0.out.later b)
  replace B0 := Lib.hid (B0.out.later b)
  replace R1 := Lib.hid (R1.out.later b)
  replace T1 := Lib.hid (T1.out.later b)
  clear b
  have hN2 : n2 ≤ qlen p0 := (by rw [← h2.len]; exact qlen_num _)
  have hM2 : m2 ≤ qlen p0 := (by rw [← g2.len]; exact qlen_den _)
  have R2 := Lib.hid h2
  have T2 := Lib.hid g2
  clear h2 g2
  obtain ⟨k0, k1, k2, k3, k4, k5⟩ := cells_3_3 X0.out H1.out
  go_wp2_with fail
  refine (ref09_pow_no _ p0 e _ (Rt.of R2.out T2.out (by omega) (by omega)) HE.out).mono ?_
  rintro e w5 ⟨a3, n3, c3, b3, m3, d3, rfl, h3, g3, b⟩
  clear k0 k1 k2 k3 k4 k5
  replace HB := Lib.hid (below_then HB.out b)
  replace X0 := Lib.hid (blk_later X0.out b)
  replace H1 := Lib.hid (blk_later H1.out b)
  clear R2
  clear T2
  replace A0 := Lib.hid (A0.out.later b)
  replace B0 := Lib.hid (B0.out.later b)
  replace R1 := Lib.hid (R1.out.later b)
  replace T1 := Lib.hid (T1.out.later b)
  clear b
  rw [EZ.out] at h3 g3 ⊢
  have R3 := Lib.hid h3
  have T3 := Lib.hid g3
  clear h3 g3
  unfold frV
  have H3 : Hid ((World.alloc w5 (.cells #[.bool (zneg z.num), .slice a3 n3 c3, .slice b3 m3 d3] 24)).heap[w5.heap.size]? = some (.cells #[.bool (zneg z.num), .slice a3 n3 c3, .slice b3 m3 d3] 24 (0, 0))) := Lib.hid (blk_new w5 _ _)
  replace HB := Lib.hid (below_then HB.out (below_alloc w5 (.cells #[.bool (zneg z.num), .slice a3 n3 c3, .slice b3 m3 d3] 24)))
  replace X0 := Lib.hid (blk_later X0.out (below_alloc w5 (.cells #[.bool (zneg z.num), .slice a3 n3 c3, .slice b3 m3 d3] 24)))
  replace H1 := Lib.hid (blk_later H1.out (below_alloc w5 (.cells #[.bool (zneg z.num), .slice a3 n3 c3, .slice b3 m3 d3] 24)))
  replace A0 := Lib.hid (A0.out.later (below_alloc w5 (.cells #[.bool (zneg z.num), .slice a3 n3 c3, .slice b3 m3 d3] 24)))
  replace B0 := Lib.hid (B0.out.later (below_alloc w5 (.cells #[.bool (zneg z.num), .slice a3 n3 c3, .slice b3 m3 d3] 24)))
  replace R1 := Lib.hid (R1.out.later (below_alloc w5 (.cells #[.bool (zneg z.num), .slice a3 n3 c3, .slice b3 m3 d3] 24)))
  replace T1 := Lib.hid (T1.out.later (below_alloc w5 (.cells #[.bool (zneg z.num), .slice a3 n3 c3, .slice b3 m3 d3] 24)))
  replace R3 := Lib.hid (R3.out.later (below_alloc w5 (.cells #[.bool (zneg z.num), .slice a3 n3 c3, .slice b3 m3 d3] 24)))
  replace T3 := Lib.hid (T3.out.later (below_alloc w5 (.cells #[.bool (zneg z.num), .slice a3 n3 c3, .slice b3 m3 d3] 24)))
  obtain ⟨k0, k1, k2, k3, k4, k5, k6, k7, k8⟩ := cells_3_3_3 X0.out H1.out H3.out
  go_wp2_with fail
  refine (law09_is_yes (zneg z.num) a1 n1 c1 b1 m1 d1 (dg z.num.natAbs) (dg z.den) a3 n3 c3 b3 m3 d3 _ R1.out T1.out R3.out T3.out).mono ?_
  rintro e w6 ⟨rfl, b⟩
  clear k0 k1 k2 k3 k4 k5 k6 k7 k8
  replace HB := Lib.hid (below_then HB.out b)
  replace X0 := Lib.hid (blk_later X0.out b)
  replace H1 := Lib.hid (blk_later H1.out b)
  replace H3 := Lib.hid (blk_later H3.out b)
  replace A0 := Lib.hid (A0.out.later b)
  replace B0 := Lib.hid (B0.out.later b)
  replace R1 := Lib.hid (R1.out.later b)
  replace T1 := Lib.hid (T1.out.later b)
  replace R3 := Lib.hid (R3.out.later b)
  replace T3 := Lib.hid (T3.out.later b)
  clear b
  obtain ⟨k0, k1, k2, k3, k4, k5, k6, k7, k8⟩ := cells_3_3_3 X0.out H1.out H3.out
  go_wp2_with fail
  refine (law09_works S _).mono ?_
  rintro e w7 ⟨rfl, b⟩
  clear k0 k1 k2 k3 k4 k5 k6 k7 k8
  replace HB := Lib.hid (below_then HB.out b)
  replace X0 := Lib.hid (blk_later X0.out b)
  replace H1 := Lib.hid (blk_later H1.out b)
  replace H3 := Lib.hid (blk_later H3.out b)
  replace A0 := Lib.hid (A0.out.later b)
  replace B0 := Lib.hid (B0.out.later b)
  replace R1 := Lib.hid (R1.out.later b)
  replace T1 := Lib.hid (T1.out.later b)
  replace R3 := Lib.hid (R3.out.later b)
  replace T3 := Lib.hid (T3.out.later b)
  clear b
  go_wp2
  go_ret
  exact ⟨rfl, HB.out⟩
end Go.Proofs.Ytpjgmkkdbmegjaa
