/-
  The walks of the laws of layer 9: FracExponents.
-/
import Derived.Test.YtpjgmkkdbmegjaaG17
import Derived.Deep.RegionHeld3
namespace Go.Proofs.Ytpjgmkkdbmegjaa
open Go.RowKit

theorem powOk_of {q : Rat} {e : Int} (h1 : -8 ≤ e) (h2 : e ≤ 8) (hq : q ≠ 0) : powOk q e := ⟨h1, h2, .inr hq⟩
theorem exps_add {q : Rat} (hq : q ≠ 0) (d e : Int) : q ^ d * q ^ e = q ^ (d + e) := (Rat.zpow_add hq d e).symm
set_option maxRecDepth 4096 in
set_option maxHeartbeats 16000000 in
theorem law09_exps_in (S : FracSaid) (s0 : Bool) (a0 : Option Addr) (n0 c0 : Nat) (la0 : List Nat) (b0 : Option Addr) (m0 d0 : Nat) (lb0 : List Nat) (x y : Int) (w : World) (ha0 : Wd w a0 n0 c0 la0) (hb0 : Wd w b0 m0 d0 lb0) (hn0 : n0 ≤ 3) (hm0 : m0 ≤ 3) (hx1 : -4 ≤ x) (hx2 : x ≤ 4) (hy1 : -4 ≤ y) (hy2 : y ≤ 4) (h0 : qval s0 (val la0) (val lb0) ≠ 0) :
    Calls Try.prog 8 #[frV s0 a0 n0 c0 b0 m0 d0, .int .i64 x, .int .i64 y] w (Gives (.bool true) w) := by
  have HB := Lib.hid (below_alloc w (.cells #[.bool s0, .slice a0 n0 c0, .slice b0 m0 d0] 24))
  have A0 := Lib.hid (ha0.later HB.out)
  have B0 := Lib.hid (hb0.later HB.out)
  have X0 : Hid ((w.alloc (.cells #[.bool s0, .slice a0 n0 c0, .slice b0 m0 d0] 24)).heap[w.heap.size]? = some (.cells #[.bool s0, .slice a0 n0 c0, .slice b0 m0 d0] 24 (0, 0))) := Lib.hid (blk_new w _ _)
  obtain ⟨p0, hp0⟩ : ∃ p, qval s0 (val la0) (val lb0) = p := ⟨_, rfl⟩
  have lp0 : qlen p0 ≤ 4 := (Fr.of ha0 hb0 hn0 hm0 hp0).len
  have EQ0 := Lib.hid hp0
  rw [hp0] at h0
  have H0 := Lib.hid h0
  clear h0 ha0 hb0 hp0
  have hl0 : (decide ((3 : Int) < (n0 : Int)) || decide ((3 : Int) < (m0 : Int))) = false := by rw [decide_eq_false (by omega), decide_eq_false (by omega)]; rfl
  have HX := Lib.hid (powOk_of (q := p0) (e := x) (by omega) (by omega) H0.out)
  have HY := Lib.hid (powOk_of (q := p0) (e := y) (by omega) (by omega) H0.out)
  have HZ := Lib.hid (powOk_of (q := p0) (e := x + y) (by omega) (by omega) H0.out)
  obtain ⟨u, hu⟩ : ∃ r, p0 ^ x = r := ⟨_, rfl⟩
  have lu : qlen u ≤ 100 := by rw [← hu]; have := qlen_pow HX.out; omega
  have Eu := Lib.hid hu
  clear hu
  obtain ⟨v, hv⟩ : ∃ r, p0 ^ y = r := ⟨_, rfl⟩
  have lv : qlen v ≤ 100 := by rw [← hv]; have := qlen_pow HY.out; omega
  have Ev := Lib.hid hv
  clear hv
  obtain ⟨z, hz⟩ : ∃ r, p0 ^ (x + y) = r := ⟨_, rfl⟩
  have lz : qlen z ≤ 100 := by rw [← hz]; have := qlen_pow HZ.out; omega
  have Ez := Lib.hid hz
  clear hz
  have FZ : Hid (u * v = z) := Lib.hid (by rw [← Eu.out, ← Ev.out, ← Ez.out]; exact exps_add H0.out x y)
  obtain ⟨so, hso⟩ : ∃ s, s = sgn p0.num := ⟨_, rfl⟩
  have Hso := Lib.hid hso
  have hs0 : (so == 0) = false := by rw [hso]; simp [sgn_num_zero, H0.out]
  clear hso
  go_enter Try.func8, Try.ntmps8
  unfold frV
  obtain ⟨k0, k1, k2⟩ := cells_3 X0.out
  go_wp2_with fail
  refine (law09_to s0 a0 n0 c0 b0 m0 d0 _).mono ?_
  rintro e w1 ⟨rfl, b⟩
  clear k0 k1 k2
  replace HB := Lib.hid (below_then HB.out b)
  replace X0 := Lib.hid (blk_later X0.out b)
  replace A0 := Lib.hid (A0.out.later b)
  replace B0 := Lib.hid (B0.out.later b)
  clear b
  unfold frV
  have P0 : Hid ((World.alloc w1 (.cells #[.bool s0, .slice a0 n0 c0, .slice b0 m0 d0] 34)).heap[w1.heap.size]? = some (.cells #[.bool s0, .slice a0 n0 c0, .slice b0 m0 d0] 34 (0, 0))) := Lib.hid (blk_new w1 _ _)
  replace HB := Lib.hid (below_then HB.out (below_alloc w1 (.cells #[.bool s0, .slice a0 n0 c0, .slice b0 m0 d0] 34)))
  replace X0 := Lib.hid (blk_later X0.out (below_alloc w1 (.cells #[.bool s0, .slice a0 n0 c0, .slice b0 m0 d0] 34)))
  replace A0 := Lib.hid (A0.out.later (below_alloc w1 (.cells #[.bool s0, .slice a0 n0 c0, .slice b0 m0 d0] 34)))
  replace B0 := Lib.hid (B0.out.later (below_alloc w1 (.cells #[.bool s0, .slice a0 n0 c0, .slice b0 m0 d0] 34)))
  obtain ⟨k0, k1, k2, k3, k4, k5⟩ := cells_3_3 X0.out P0.out
  go_wp2_with fail
  refine (ref09_long s0 a0 n0 c0 b0 m0 d0 3 _).mono ?_
  rintro e w2 ⟨rfl, b⟩
  clear k0 k1 k2 k3 k4 k5
  replace HB := Lib.hid (below_then HB.out b)
  replace X0 := Lib.hid (blk_later X0.out b)
  replace P0 := Lib.hid (blk_later P0.out b)
  replace A0 := Lib.hid (A0.out.later b)
  replace B0 := Lib.hid (B0.out.later b)
  clear b
  rw [hl0]
  obtain ⟨k0, k1, k2, k3, k4, k5⟩ := cells_3_3 X0.out P0.out
  go_wp2_with fail
  refine (S.sign _ p0 _ (Fr.of A0.out B0.out (by omega) (by omega) EQ0.out)).mono ?_
  rintro e w3 ⟨rfl, b⟩
  clear k0 k1 k2 k3 k4 k5
  replace HB := Lib.hid (below_then HB.out b)
  replace X0 := Lib.hid (blk_later X0.out b)
  replace P0 := Lib.hid (blk_later P0.out b)
  replace A0 := Lib.hid (A0.out.later b)
  replace B0 := Lib.hid (B0.out.later b)
  clear b
  rw [← Hso.out]
  obtain ⟨k0, k1, k2⟩ := cells_3 P0.out
  go_wp2_with fail
  refine (S.pow_yes _ p0 x _ (Fr.of A0.out B0.out (by omega) (by omega) EQ0.out) HX.out).mono ?_
  rintro e w4 ⟨a1, n1, c1, b1, m1, d1, rfl, h1, g1, b⟩
  clear k0 k1 k2
  replace HB := Lib.hid (below_then HB.out b)
  replace P0 := Lib.hid (blk_later P0.out b)
  replace A0 := Lib.hid (A0.out.later b)
  replace B0 := Lib.hid (B0.out.later b)
  clear b
  rw [Eu.out] at h1 g1 ⊢
  have hN1 : n1 ≤ qlen u := (by rw [← h1.len]; exact qlen_num _)
  have hM1 : m1 ≤ qlen u := (by rw [← g1.len]; exact qlen_den _)
  have R1 := Lib.hid h1
  have T1 := Lib.hid g1
  clear h1 g1
  unfold frV
  have Q1 : Hid ((World.alloc w4 (.cells #[.bool (zneg u.num), .slice a1 n1 c1, .slice b1 m1 d1] 34)).heap[w4.heap.size]? = some (.cells #[.bool (zneg u.num), .slice a1 n1 c1, .slice b1 m1 d1] 34 (0, 0))) := Lib.hid (blk_new w4 _ _)
  replace HB := Lib.hid (below_then HB.out (below_alloc w4 (.cells #[.bool (zneg u.num), .slice a1 n1 c1, .slice b1 m1 d1] 34)))
  replace P0 := Lib.hid (blk_later P0.out (below_alloc w4 (.cells #[.bool (zneg u.num), .slice a1 n1 c1, .slice b1 m1 d1] 34)))
  replace A0 := Lib.hid (A0.out.later (below_alloc w4 (.cells #[.bool (zneg u.num), .slice a1 n1 c1, .slice b1 m1 d1] 34)))
  replace B0 := Lib.hid (B0.out.later (below_alloc w4 (.cells #[.bool (zneg u.num), .slice a1 n1 c1, .slice b1 m1 d1] 34)))
  replace R1 := Lib.hid (R1.out.later (below_alloc w4 (.cells #[.bool (zneg u.num), .slice a1 n1 c1, .slice b1 m1 d1] 34)))
  replace T1 := Lib.hid (T1.out.later (below_alloc w4 (.cells #[.bool (zneg u.num), .slice a1 n1 c1, .slice b1 m1 d1] 34)))
  obtain ⟨k0, k1, k2, k3, k4, k5⟩ := cells_3_3 P0.out Q1.out
  go_wp2_with fail
  refine (S.pow_yes _ p0 y _ (Fr.of A0.out B0.out (by omega) (by omega) EQ0.out) HY.out).mono ?_
  rintro e w5 ⟨a2, n2, c2, b2, m2, d2, rfl, h2, g2, b⟩
  clear k0 k1 k2 k3 k4 k5
  replace HB := Lib.hid (below_then HB.out b)
  replace P0 := Lib.hid (blk_later P0.out b)
  replace Q1 := Lib.hid (blk_later Q1.out b)
  replace A0 := Lib.hid (A0.out.later b)
  replace B0 := Lib.hid (B0.out.later b)
  replace R1 := Lib.hid (R1.out.later b)
  replace T1 := Lib.hid (T1.out.later b)
  clear b
  rw [Ev.out] at h2 g2 ⊢
  have hN2 : n2 ≤ qlen v := (by rw [← h2.len]; exact qlen_num _)
  have hM2 : m2 ≤ qlen v := (by rw [← g2.len]; exact qlen_den _)
  have R2 := Lib.hid h2
  have T2 := Lib.hid g2
  clear h2 g2
  unfold frV
  have Q2 : Hid ((World.alloc w5 (.cells #[.bool (zneg v.num), .slice a2 n2 c2, .slice b2 m2 d2] 34)).heap[w5.heap.size]? = some (.cells #[.bool (zneg v.num), .slice a2 n2 c2, .slice b2 m2 d2] 34 (0, 0))) := Lib.hid (blk_new w5 _ _)
  replace HB := Lib.hid (below_then HB.out (below_alloc w5 (.cells #[.bool (zneg v.num), .slice a2 n2 c2, .slice b2 m2 d2] 34)))
  replace P0 := Lib.hid (blk_later P0.out (below_alloc w5 (.cells #[.bool (zneg v.num), .slice a2 n2 c2, .slice b2 m2 d2] 34)))
  replace Q1 := Lib.hid (blk_later Q1.out (below_alloc w5 (.cells #[.bool (zneg v.num), .slice a2 n2 c2, .slice b2 m2 d2] 34)))
  replace A0 := Lib.hid (A0.out.later (below_alloc w5 (.cells #[.bool (zneg v.num), .slice a2 n2 c2, .slice b2 m2 d2] 34)))
  replace B0 := Lib.hid (B0.out.later (below_alloc w5 (.cells #[.bool (zneg v.num), .slice a2 n2 c2, .slice b2 m2 d2] 34)))
  replace R1 := Lib.hid (R1.out.later (below_alloc w5 (.cells #[.bool (zneg v.num), .slice a2 n2 c2, .slice b2 m2 d2] 34)))
  replace T1 := Lib.hid (T1.out.later (below_alloc w5 (.cells #[.bool (zneg v.num), .slice a2 n2 c2, .slice b2 m2 d2] 34)))
  replace R2 := Lib.hid (R2.out.later (below_alloc w5 (.cells #[.bool (zneg v.num), .slice a2 n2 c2, .slice b2 m2 d2] 34)))
  replace T2 := Lib.hid (T2.out.later (below_alloc w5 (.cells #[.bool (zneg v.num), .slice a2 n2 c2, .slice b2 m2 d2] 34)))
  obtain ⟨k0, k1, k2, k3, k4, k5, k6, k7, k8⟩ := cells_3_3_3 P0.out Q1.out Q2.out
  go_wp2_with fail
  refine (S.pow_yes _ p0 (x + y) _ (Fr.of A0.out B0.out (by omega) (by omega) EQ0.out) HZ.out).mono ?_
  rintro e w6 ⟨a3, n3, c3, b3, m3, d3, rfl, h3, g3, b⟩
  clear k0 k1 k2 k3 k4 k5 k6 k7 k8
  replace HB := Lib.hid (below_then HB.out b)
  replace P0 := Lib.hid (blk_later P0.out b)
  replace Q1 := Lib.hid (blk_later Q1.out b)
  replace Q2 := Lib.hid (blk_later Q2.out b)
  replace A0 := Lib.hid (A0.out.later b)
  replace B0 := Lib.hid (B0.out.later b)
  replace R1 := Lib.hid (R1.out.later b)
  replace T1 := Lib.hid (T1.out.later b)
  replace R2 := Lib.hid (R2.out.later b)
  replace T2 := Lib.hid (T2.out.later b)
  clear b
  rw [Ez.out] at h3 g3 ⊢
  have hN3 : n3 ≤ qlen z := (by rw [← h3.len]; exact qlen_num _)
  have hM3 : m3 ≤ qlen z := (by rw [← g3.len]; exact qlen_den _)
  have R3 := Lib.hid h3
  have T3 := Lib.hid g3
  clear h3 g3
  unfold frV
  have Q3 : Hid ((World.alloc w6 (.cells #[.bool (zneg z.num), .slice a3 n3 c3, .slice b3 m3 d3] 34)).heap[w6.heap.size]? = some (.cells #[.bool (zneg z.num), .slice a3 n3 c3, .slice b3 m3 d3] 34 (0, 0))) := Lib.hid (blk_new w6 _ _)
  replace HB := Lib.hid (below_then HB.out (below_alloc w6 (.cells #[.bool (zneg z.num), .slice a3 n3 c3, .slice b3 m3 d3] 34)))
  replace P0 := Lib.hid (blk_later P0.out (below_alloc w6 (.cells #[.bool (zneg z.num), .slice a3 n3 c3, .slice b3 m3 d3] 34)))
  replace Q1 := Lib.hid (blk_later Q1.out (below_alloc w6 (.cells #[.bool (zneg z.num), .slice a3 n3 c3, .slice b3 m3 d3] 34)))
  replace Q2 := Lib.hid (blk_later Q2.out (below_alloc w6 (.cells #[.bool (zneg z.num), .slice a3 n3 c3, .slice b3 m3 d3] 34)))
  replace A0 := Lib.hid (A0.out.later (below_alloc w6 (.cells #[.bool (zneg z.num), .slice a3 n3 c3, .slice b3 m3 d3] 34)))
  replace B0 := Lib.hid (B0.out.later (below_alloc w6 (.cells #[.bool (zneg z.num), .slice a3 n3 c3, .slice b3 m3 d3] 34)))
  replace R1 := Lib.hid (R1.out.later (below_alloc w6 (.cells #[.bool (zneg z.num), .slice a3 n3 c3, .slice b3 m3 d3] 34)))
  replace T1 := Lib.hid (T1.out.later (below_alloc w6 (.cells #[.bool (zneg z.num), .slice a3 n3 c3, .slice b3 m3 d3] 34)))
  replace R2 := Lib.hid (R2.out.later (below_alloc w6 (.cells #[.bool (zneg z.num), .slice a3 n3 c3, .slice b3 m3 d3] 34)))
  replace T2 := Lib.hid (T2.out.later (below_alloc w6 (.cells #[.bool (zneg z.num), .slice a3 n3 c3, .slice b3 m3 d3] 34)))
  replace R3 := Lib.hid (R3.out.later (below_alloc w6 (.cells #[.bool (zneg z.num), .slice a3 n3 c3, .slice b3 m3 d3] 34)))
  replace T3 := Lib.hid (T3.out.later (below_alloc w6 (.cells #[.bool (zneg z.num), .slice a3 n3 c3, .slice b3 m3 d3] 34)))
  obtain ⟨k0, k1, k2, k3, k4, k5, k6, k7, k8⟩ := cells_3_3_3 Q1.out Q2.out Q3.out
  go_wp2
  clear k0 k1 k2 k3 k4 k5 k6 k7 k8
  generalize (w6.alloc (.cells #[.bool (zneg z.num), .slice a3 n3 c3, .slice b3 m3 d3] 34)) = W at *
  replace HB := Lib.hid (below_then HB.out ((Below.refl _ _).drew : Below W.heap.size W W.drew))
  replace Q1 : Hid (W.drew.heap[w4.heap.size]? = _) := Lib.hid Q1.out
  replace Q2 : Hid (W.drew.heap[w5.heap.size]? = _) := Lib.hid Q2.out
  replace Q3 : Hid (W.drew.heap[w6.heap.size]? = _) := Lib.hid Q3.out
  replace R1 := Lib.hid (R1.out.later ((Below.refl _ _).drew : Below W.heap.size W W.drew))
  replace T1 := Lib.hid (T1.out.later ((Below.refl _ _).drew : Below W.heap.size W W.drew))
  replace R2 := Lib.hid (R2.out.later ((Below.refl _ _).drew : Below W.heap.size W W.drew))
  replace T2 := Lib.hid (T2.out.later ((Below.refl _ _).drew : Below W.heap.size W W.drew))
  replace R3 := Lib.hid (R3.out.later ((Below.refl _ _).drew : Below W.heap.size W W.drew))
  replace T3 := Lib.hid (T3.out.later ((Below.refl _ _).drew : Below W.heap.size W W.drew))
  have rSn := cells_3_3_3 Q1.out Q2.out Q3.out
  go_region_held3 (fun w' => w'.cell? ⟨w4.heap.size, 0, none⟩ = some (.bool (zneg u.num)) ∧ w'.cell? ⟨w4.heap.size, 1, none⟩ = some (.slice a1 n1 c1) ∧ w'.cell? ⟨w4.heap.size, 2, none⟩ = some (.slice b1 m1 d1) ∧ w'.cell? ⟨w5.heap.size, 0, none⟩ = some (.bool (zneg v.num)) ∧ w'.cell? ⟨w5.heap.size, 1, none⟩ = some (.slice a2 n2 c2) ∧ w'.cell? ⟨w5.heap.size, 2, none⟩ = some (.slice b2 m2 d2) ∧ w'.cell? ⟨w6.heap.size, 0, none⟩ = some (.bool (zneg z.num)) ∧ w'.cell? ⟨w6.heap.size, 1, none⟩ = some (.slice a3 n3 c3) ∧ w'.cell? ⟨w6.heap.size, 2, none⟩ = some (.slice b3 m3 d3)) (exact rSn)
    (first
    | (go_at_call 32; (first
      | (refine (S.mul _ _ u v _ (Fr.right R1.out T1.out (by omega) (by omega)) (Fr.right R2.out T2.out (by omega) (by omega))).mono ?_; rintro e wr1 ⟨a4, n4, c4, b4, m4, d4, rfl, h4, g4, b⟩; replace HB := Lib.hid (below_then HB.out b); replace Q1 := Lib.hid (blk_later Q1.out b); replace Q2 := Lib.hid (blk_later Q2.out b); replace Q3 := Lib.hid (blk_later Q3.out b); replace R1 := Lib.hid (R1.out.later b); replace T1 := Lib.hid (T1.out.later b); replace R2 := Lib.hid (R2.out.later b); replace T2 := Lib.hid (T2.out.later b); replace R3 := Lib.hid (R3.out.later b); replace T3 := Lib.hid (T3.out.later b); have R4 := Lib.hid h4; have T4 := Lib.hid g4; rw [FZ.out] at h4 g4 ⊢; replace R4 : Hid (Wd _ a4 n4 c4 (dg z.num.natAbs)) := Lib.hid h4; replace T4 : Hid (Wd _ b4 m4 d4 (dg z.den)) := Lib.hid g4; clear h4 g4; clear b; clear rSn; have rSn := cells_3_3_3 Q1.out Q2.out Q3.out; have rM1 := True.intro)))
    | (go_at_call 36; (first
      | (have rm1 := rM1; refine (law09_alike_yes (zneg z.num) a4 n4 c4 b4 m4 d4 (dg z.num.natAbs) (dg z.den) a3 n3 c3 b3 m3 d3 _ R4.out T4.out R3.out T3.out).mono ?_; rintro e wr2 ⟨rfl, b⟩; replace HB := Lib.hid (below_then HB.out b); replace Q1 := Lib.hid (blk_later Q1.out b); replace Q2 := Lib.hid (blk_later Q2.out b); replace Q3 := Lib.hid (blk_later Q3.out b); replace R1 := Lib.hid (R1.out.later b); replace T1 := Lib.hid (T1.out.later b); replace R2 := Lib.hid (R2.out.later b); replace T2 := Lib.hid (T2.out.later b); replace R3 := Lib.hid (R3.out.later b); replace T3 := Lib.hid (T3.out.later b); clear R4; clear T4; clear b; clear rSn; have rSn := cells_3_3_3 Q1.out Q2.out Q3.out; clear rM1 rm1; have rM2 := True.intro)))
    | (go_at_call 10; (first
      | (have rm2 := rM2; refine (law09_works S _).mono ?_; rintro e wr3 ⟨rfl, b⟩; replace HB := Lib.hid (below_then HB.out b); replace Q1 := Lib.hid (blk_later Q1.out b); replace Q2 := Lib.hid (blk_later Q2.out b); replace Q3 := Lib.hid (blk_later Q3.out b); replace R1 := Lib.hid (R1.out.later b); replace T1 := Lib.hid (T1.out.later b); replace R2 := Lib.hid (R2.out.later b); replace T2 := Lib.hid (T2.out.later b); replace R3 := Lib.hid (R3.out.later b); replace T3 := Lib.hid (T3.out.later b); clear b; clear rSn; have rSn := cells_3_3_3 Q1.out Q2.out Q3.out; clear rM2 rm2; have rM3 := True.intro))))
  go_wp2
  go_ret
  exact ⟨rfl, HB.out⟩
set_option maxRecDepth 4096 in
set_option maxHeartbeats 16000000 in
theorem law09_exps_out (S : FracSaid) (s0 : Bool) (a0 : Option Addr) (n0 c0 : Nat) (b0 : Option Addr) (m0 d0 : Nat) (x y : Int) (w : World) (hi1 : isInt x) (hi2 : isInt y) (h : (3 < n0 ∨ 3 < m0) ∨ x < -4 ∨ 4 < x ∨ y < -4 ∨ 4 < y) :
    Calls Try.prog 8 #[frV s0 a0 n0 c0 b0 m0 d0, .int .i64 x, .int .i64 y] w (Gives (.bool true) w) := by
  have HB := Lib.hid (below_alloc w (.cells #[.bool s0, .slice a0 n0 c0, .slice b0 m0 d0] 24))
  have X0 : Hid ((w.alloc (.cells #[.bool s0, .slice a0 n0 c0, .slice b0 m0 d0] 24)).heap[w.heap.size]? = some (.cells #[.bool s0, .slice a0 n0 c0, .slice b0 m0 d0] 24 (0, 0))) := Lib.hid (blk_new w _ _)
  have h1 : -9223372036854775808 ≤ x ∧ x ≤ 9223372036854775807 := hi1
  have h2 : -9223372036854775808 ≤ y ∧ y ≤ 9223372036854775807 := hi2
  clear hi1 hi2
  by_cases hl : 3 < n0 ∨ 3 < m0
  · have hl0 : (decide ((3 : Int) < (n0 : Int)) || decide ((3 : Int) < (m0 : Int))) = true := by
      rcases hl with h9 | h9
      · rw [decide_eq_true (by omega)]; rfl
      · rw [Bool.or_eq_true]; exact .inr (decide_eq_true (by omega))
    clear hl
    clear h
    go_enter Try.func8, Try.ntmps8
    unfold frV
    obtain ⟨k0, k1, k2⟩ := cells_3 X0.out
    go_wp2_with fail
    refine (law09_to s0 a0 n0 c0 b0 m0 d0 _).mono ?_
    rintro e w1 ⟨rfl, b⟩
    clear k0 k1 k2
    replace HB := Lib.hid (below_then HB.out b)
    replace X0 := Lib.hid (blk_later X0.out b)
    clear b
    unfold frV
    have P0 : Hid ((World.alloc w1 (.cells #[.bool s0, .slice a0 n0 c0, .slice b0 m0 d0] 34)).heap[w1.heap.size]? = some (.cells #[.bool s0, .slice a0 n0 c0, .slice b0 m0 d0] 34 (0, 0))) := Lib.hid (blk_new w1 _ _)
    replace HB := Lib.hid (below_then HB.out (below_alloc w1 (.cells #[.bool s0, .slice a0 n0 c0, .slice b0 m0 d0] 34)))
    replace X0 := Lib.hid (blk_later X0.out (below_alloc w1 (.cells #[.bool s0, .slice a0 n0 c0, .slice b0 m0 d0] 34)))
    obtain ⟨k0, k1, k2, k3, k4, k5⟩ := cells_3_3 X0.out P0.out
    go_wp2_with fail
    refine (ref09_long s0 a0 n0 c0 b0 m0 d0 3 _).mono ?_
    rintro e w2 ⟨rfl, b⟩
    clear k0 k1 k2 k3 k4 k5
    replace HB := Lib.hid (below_then HB.out b)
    replace X0 := Lib.hid (blk_later X0.out b)
    replace P0 := Lib.hid (blk_later P0.out b)
    clear b
    rw [hl0]
    obtain ⟨k0, k1, k2, k3, k4, k5⟩ := cells_3_3 X0.out P0.out
    go_wp2_with fail
    refine (law09_works S _).mono ?_
    rintro e w3 ⟨rfl, b⟩
    clear k0 k1 k2 k3 k4 k5
    replace HB := Lib.hid (below_then HB.out b)
    replace X0 := Lib.hid (blk_later X0.out b)
    replace P0 := Lib.hid (blk_later P0.out b)
    clear b
    go_wp2
    go_ret
    exact ⟨rfl, HB.out⟩
  · have hl0 : (decide ((3 : Int) < (n0 : Int)) || decide ((3 : Int) < (m0 : Int))) = false := by rw [decide_eq_false (by omega), decide_eq_false (by omega)]; rfl
    rcases (show x < -4 ∨ (-4 ≤ x ∧ 4 < x) ∨ (-4 ≤ x ∧ x ≤ 4 ∧ y < -4) ∨ (-4 ≤ x ∧ x ≤ 4 ∧ -4 ≤ y ∧ 4 < y) by omega) with g1 | g1 | g1 | g1
    · clear hl
      clear h
      go_enter Try.func8, Try.ntmps8
      unfold frV
      obtain ⟨k0, k1, k2⟩ := cells_3 X0.out
      go_wp2_with fail
      refine (law09_to s0 a0 n0 c0 b0 m0 d0 _).mono ?_
      rintro e w1 ⟨rfl, b⟩
      clear k0 k1 k2
      replace HB := Lib.hid (below_then HB.out b)
      replace X0 := Lib.hid (blk_later X0.out b)
      clear b
      unfold frV
      have P0 : Hid ((World.alloc w1 (.cells #[.bool s0, .slice a0 n0 c0, .slice b0 m0 d0] 34)).heap[w1.heap.size]? = some (.cells #[.bool s0, .slice a0 n0 c0, .slice b0 m0 d0] 34 (0, 0))) := Lib.hid (blk_new w1 _ _)
      replace HB := Lib.hid (below_then HB.out (below_alloc w1 (.cells #[.bool s0, .slice a0 n0 c0, .slice b0 m0 d0] 34)))
      replace X0 := Lib.hid (blk_later X0.out (below_alloc w1 (.cells #[.bool s0, .slice a0 n0 c0, .slice b0 m0 d0] 34)))
      obtain ⟨k0, k1, k2, k3, k4, k5⟩ := cells_3_3 X0.out P0.out
      go_wp2_with fail
      refine (ref09_long s0 a0 n0 c0 b0 m0 d0 3 _).mono ?_
      rintro e w2 ⟨rfl, b⟩
      clear k0 k1 k2 k3 k4 k5
      replace HB := Lib.hid (below_then HB.out b)
      replace X0 := Lib.hid (blk_later X0.out b)
      replace P0 := Lib.hid (blk_later P0.out b)
      clear b
      rw [hl0]
      obtain ⟨k0, k1, k2, k3, k4, k5⟩ := cells_3_3 X0.out P0.out
      go_wp2_with fail
      refine (law09_works S _).mono ?_
      rintro e w3 ⟨rfl, b⟩
      clear k0 k1 k2 k3 k4 k5
      replace HB := Lib.hid (below_then HB.out b)
      replace X0 := Lib.hid (blk_later X0.out b)
      replace P0 := Lib.hid (blk_later P0.out b)
      clear b
      go_wp2
      go_ret
      exact ⟨rfl, HB.out⟩
    · clear hl
      obtain ⟨j0, j1⟩ := g1
      clear h
      go_enter Try.func8, Try.ntmps8
      unfold frV
      obtain ⟨k0, k1, k2⟩ := cells_3 X0.out
      go_wp2_with fail
      refine (law09_to s0 a0 n0 c0 b0 m0 d0 _).mono ?_
      rintro e w1 ⟨rfl, b⟩
      clear k0 k1 k2
      replace HB := Lib.hid (below_then HB.out b)
      replace X0 := Lib.hid (blk_later X0.out b)
      clear b
      unfold frV
      have P0 : Hid ((World.alloc w1 (.cells #[.bool s0, .slice a0 n0 c0, .slice b0 m0 d0] 34)).heap[w1.heap.size]? = some (.cells #[.bool s0, .slice a0 n0 c0, .slice b0 m0 d0] 34 (0, 0))) := Lib.hid (blk_new w1 _ _)
      replace HB := Lib.hid (below_then HB.out (below_alloc w1 (.cells #[.bool s0, .slice a0 n0 c0, .slice b0 m0 d0] 34)))
      replace X0 := Lib.hid (blk_later X0.out (below_alloc w1 (.cells #[.bool s0, .slice a0 n0 c0, .slice b0 m0 d0] 34)))
      obtain ⟨k0, k1, k2, k3, k4, k5⟩ := cells_3_3 X0.out P0.out
      go_wp2_with fail
      refine (ref09_long s0 a0 n0 c0 b0 m0 d0 3 _).mono ?_
      rintro e w2 ⟨rfl, b⟩
      clear k0 k1 k2 k3 k4 k5
      replace HB := Lib.hid (below_then HB.out b)
      replace X0 := Lib.hid (blk_later X0.out b)
      replace P0 := Lib.hid (blk_later P0.out b)
      clear b
      rw [hl0]
      obtain ⟨k0, k1, k2, k3, k4, k5⟩ := cells_3_3 X0.out P0.out
      go_wp2_with fail
      refine (law09_works S _).mono ?_
      rintro e w3 ⟨rfl, b⟩
      clear k0 k1 k2 k3 k4 k5
      replace HB := Lib.hid (below_then HB.out b)
      replace X0 := Lib.hid (blk_later X0.out b)
      replace P0 := Lib.hid (blk_later P0.out b)
      clear b
      go_wp2
      go_ret
      exact ⟨rfl, HB.out⟩
    · clear hl
      obtain ⟨j0, j1, j2⟩ := g1
      clear h
      go_enter Try.func8, Try.ntmps8
      unfold frV
      obtain ⟨k0, k1, k2⟩ := cells_3 X0.out
      go_wp2_with fail
      refine (law09_to s0 a0 n0 c0 b0 m0 d0 _).mono ?_
      rintro e w1 ⟨rfl, b⟩
      clear k0 k1 k2
      replace HB := Lib.hid (below_then HB.out b)
      replace X0 := Lib.hid (blk_later X0.out b)
      clear b
      unfold frV
      have P0 : Hid ((World.alloc w1 (.cells #[.bool s0, .slice a0 n0 c0, .slice b0 m0 d0] 34)).heap[w1.heap.size]? = some (.cells #[.bool s0, .slice a0 n0 c0, .slice b0 m0 d0] 34 (0, 0))) := Lib.hid (blk_new w1 _ _)
      replace HB := Lib.hid (below_then HB.out (below_alloc w1 (.cells #[.bool s0, .slice a0 n0 c0, .slice b0 m0 d0] 34)))
      replace X0 := Lib.hid (blk_later X0.out (below_alloc w1 (.cells #[.bool s0, .slice a0 n0 c0, .slice b0 m0 d0] 34)))
      obtain ⟨k0, k1, k2, k3, k4, k5⟩ := cells_3_3 X0.out P0.out
      go_wp2_with fail
      refine (ref09_long s0 a0 n0 c0 b0 m0 d0 3 _).mono ?_
      rintro e w2 ⟨rfl, b⟩
      clear k0 k1 k2 k3 k4 k5
      replace HB := Lib.hid (below_then HB.out b)
      replace X0 := Lib.hid (blk_later X0.out b)
      replace P0 := Lib.hid (blk_later P0.out b)
      clear b
      rw [hl0]
      obtain ⟨k0, k1, k2, k3, k4, k5⟩ := cells_3_3 X0.out P0.out
      go_wp2_with fail
      refine (law09_works S _).mono ?_
      rintro e w3 ⟨rfl, b⟩
      clear k0 k1 k2 k3 k4 k5
      replace HB := Lib.hid (below_then HB.out b)
      replace X0 := Lib.hid (blk_later X0.out b)
      replace P0 := Lib.hid (blk_later P0.out b)
      clear b
      go_wp2
      go_ret
      exact ⟨rfl, HB.out⟩
    · clear hl
      obtain ⟨j0, j1, j2, j3⟩ := g1
      clear h
      go_enter Try.func8, Try.ntmps8
      unfold frV
      obtain ⟨k0, k1, k2⟩ := cells_3 X0.out
      go_wp2_with fail
      refine (law09_to s0 a0 n0 c0 b0 m0 d0 _).mono ?_
      rintro e w1 ⟨rfl, b⟩
      clear k0 k1 k2
      replace HB := Lib.hid (below_then HB.out b)
      replace X0 := Lib.hid (blk_later X0.out b)
      clear b
      unfold frV
      have P0 : Hid ((World.alloc w1 (.cells #[.bool s0, .slice a0 n0 c0, .slice b0 m0 d0] 34)).heap[w1.heap.size]? = some (.cells #[.bool s0, .slice a0 n0 c0, .slice b0 m0 d0] 34 (0, 0))) := Lib.hid (blk_new w1 _ _)
      replace HB := Lib.hid (below_then HB.out (below_alloc w1 (.cells #[.bool s0, .slice a0 n0 c0, .slice b0 m0 d0] 34)))
      replace X0 := Lib.hid (blk_later X0.out (below_alloc w1 (.cells #[.bool s0, .slice a0 n0 c0, .slice b0 m0 d0] 34)))
      obtain ⟨k0, k1, k2, k3, k4, k5⟩ := cells_3_3 X0.out P0.out
      go_wp2_with fail
      refine (ref09_long s0 a0 n0 c0 b0 m0 d0 3 _).mono ?_
      rintro e w2 ⟨rfl, b⟩
      clear k0 k1 k2 k3 k4 k5
      replace HB := Lib.hid (below_then HB.out b)
      replace X0 := Lib.hid (blk_later X0.out b)
      replace P0 := Lib.hid (blk_later P0.out b)
      clear b
      rw [hl0]
      obtain ⟨k0, k1, k2, k3, k4, k5⟩ := cells_3_3 X0.out P0.out
      go_wp2_with fail
      refine (law09_works S _).mono ?_
      rintro e w3 ⟨rfl, b⟩
      clear k0 k1 k2 k3 k4 k5
      replace HB := Lib.hid (below_then HB.out b)
      replace X0 := Lib.hid (blk_later X0.out b)
      replace P0 := Lib.hid (blk_later P0.out b)
      clear b
      go_wp2
      go_ret
      exact ⟨rfl, HB.out⟩
set_option maxRecDepth 4096 in
set_option maxHeartbeats 16000000 in
theorem law09_exps_nought (S : FracSaid) (s0 : Bool) (a0 : Option Addr) (n0 c0 : Nat) (la0 : List Nat) (b0 : Option Addr) (m0 d0 : Nat) (lb0 : List Nat) (x y : Int) (w : World) (ha0 : Wd w a0 n0 c0 la0) (hb0 : Wd w b0 m0 d0 lb0) (hn0 : n0 ≤ 3) (hm0 : m0 ≤ 3) (hx1 : -4 ≤ x) (hx2 : x ≤ 4) (hy1 : -4 ≤ y) (hy2 : y ≤ 4) (h0 : qval s0 (val la0) (val lb0) = 0) :
    Calls Try.prog 8 #[frV s0 a0 n0 c0 b0 m0 d0, .int .i64 x, .int .i64 y] w (Gives (.bool true) w) := by
  have HB := Lib.hid (below_alloc w (.cells #[.bool s0, .slice a0 n0 c0, .slice b0 m0 d0] 24))
  have A0 := Lib.hid (ha0.later HB.out)
  have B0 := Lib.hid (hb0.later HB.out)
  have X0 : Hid ((w.alloc (.cells #[.bool s0, .slice a0 n0 c0, .slice b0 m0 d0] 24)).heap[w.heap.size]? = some (.cells #[.bool s0, .slice a0 n0 c0, .slice b0 m0 d0] 24 (0, 0))) := Lib.hid (blk_new w _ _)
  obtain ⟨p0, hp0⟩ : ∃ p, qval s0 (val la0) (val lb0) = p := ⟨_, rfl⟩
  have EQ0 := Lib.hid hp0
  rw [hp0] at h0
  have H0 := Lib.hid h0
  clear h0 ha0 hb0 hp0
  have hl0 : (decide ((3 : Int) < (n0 : Int)) || decide ((3 : Int) < (m0 : Int))) = false := by rw [decide_eq_false (by omega), decide_eq_false (by omega)]; rfl
  go_enter Try.func8, Try.ntmps8
  unfold frV
  obtain ⟨k0, k1, k2⟩ := cells_3 X0.out
  go_wp2_with fail
  refine (law09_to s0 a0 n0 c0 b0 m0 d0 _).mono ?_
  rintro e w1 ⟨rfl, b⟩
  clear k0 k1 k2
  replace HB := Lib.hid (below_then HB.out b)
  replace X0 := Lib.hid (blk_later X0.out b)
  replace A0 := Lib.hid (A0.out.later b)
  replace B0 := Lib.hid (B0.out.later b)
  clear b
  unfold frV
  have P0 : Hid ((World.alloc w1 (.cells #[.bool s0, .slice a0 n0 c0, .slice b0 m0 d0] 34)).heap[w1.heap.size]? = some (.cells #[.bool s0, .slice a0 n0 c0, .slice b0 m0 d0] 34 (0, 0))) := Lib.hid (blk_new w1 _ _)
  replace HB := Lib.hid (below_then HB.out (below_alloc w1 (.cells #[.bool s0, .slice a0 n0 c0, .slice b0 m0 d0] 34)))
  replace X0 := Lib.hid (blk_later X0.out (below_alloc w1 (.cells #[.bool s0, .slice a0 n0 c0, .slice b0 m0 d0] 34)))
  replace A0 := Lib.hid (A0.out.later (below_alloc w1 (.cells #[.bool s0, .slice a0 n0 c0, .slice b0 m0 d0] 34)))
  replace B0 := Lib.hid (B0.out.later (below_alloc w1 (.cells #[.bool s0, .slice a0 n0 c0, .slice b0 m0 d0] 34)))
  obtain ⟨k0, k1, k2, k3, k4, k5⟩ := cells_3_3 X0.out P0.out
  go_wp2_with fail
  refine (ref09_long s0 a0 n0 c0 b0 m0 d0 3 _).mono ?_
  rintro e w2 ⟨rfl, b⟩
  clear k0 k1 k2 k3 k4 k5
  replace HB := Lib.hid (below_then HB.out b)
  replace X0 := Lib.hid (blk_later X0.out b)
  replace P0 := Lib.hid (blk_later P0.out b)
  replace A0 := Lib.hid (A0.out.later b)
  replace B0 := Lib.hid (B0.out.later b)
  clear b
  rw [hl0]
  obtain ⟨k0, k1, k2, k3, k4, k5⟩ := cells_3_3 X0.out P0.out
  go_wp2_with fail
  refine (S.sign _ p0 _ (Fr.of A0.out B0.out (by omega) (by omega) EQ0.out)).mono ?_
  rintro e w3 ⟨rfl, b⟩
  clear k0 k1 k2 k3 k4 k5
  replace HB := Lib.hid (below_then HB.out b)
  replace X0 := Lib.hid (blk_later X0.out b)
  replace P0 := Lib.hid (blk_later P0.out b)
  replace A0 := Lib.hid (A0.out.later b)
  replace B0 := Lib.hid (B0.out.later b)
  clear b
  rw [sgn_num_zero.2 H0.out]
  obtain ⟨k0, k1, k2, k3, k4, k5⟩ := cells_3_3 X0.out P0.out
  go_wp2_with fail
  refine (law09_works S _).mono ?_
  rintro e w4 ⟨rfl, b⟩
  clear k0 k1 k2 k3 k4 k5
  replace HB := Lib.hid (below_then HB.out b)
  replace X0 := Lib.hid (blk_later X0.out b)
  replace P0 := Lib.hid (blk_later P0.out b)
  replace A0 := Lib.hid (A0.out.later b)
  replace B0 := Lib.hid (B0.out.later b)
  clear b
  go_wp2
  go_ret
  exact ⟨rfl, HB.out⟩
theorem law09_exps (S : FracSaid) (s0 : Bool) (a0 : Option Addr) (n0 c0 : Nat) (la0 : List Nat) (b0 : Option Addr) (m0 d0 : Nat) (lb0 : List Nat) (x y : Int) (w : World) (ha0 : Wd w a0 n0 c0 la0) (hb0 : Wd w b0 m0 d0 lb0) (hi1 : isInt x) (hi2 : isInt y) :
    Calls Try.prog 8 #[frV s0 a0 n0 c0 b0 m0 d0, .int .i64 x, .int .i64 y] w (Gives (.bool true) w) := by
  by_cases h : (3 < n0 ∨ 3 < m0) ∨ x < -4 ∨ 4 < x ∨ y < -4 ∨ 4 < y
  · exact law09_exps_out S s0 a0 n0 c0 b0 m0 d0 x y w hi1 hi2 h
  · by_cases h0 : qval s0 (val la0) (val lb0) = 0
    · exact law09_exps_nought S s0 a0 n0 c0 la0 b0 m0 d0 lb0 x y w ha0 hb0 (by omega) (by omega) (by omega) (by omega) (by omega) (by omega) h0
    · exact law09_exps_in S s0 a0 n0 c0 la0 b0 m0 d0 lb0 x y w ha0 hb0 (by omega) (by omega) (by omega) (by omega) (by omega) (by omega) h0
end Go.Proofs.Ytpjgmkkdbmegjaa
