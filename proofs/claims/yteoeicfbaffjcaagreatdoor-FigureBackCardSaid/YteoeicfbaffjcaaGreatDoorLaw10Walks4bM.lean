/-
  The walks of the laws of layer 10: FigureBack, way by way (1).
-/
import Derived.Test.YteoeicfbaffjcaaGreatDoorLaw10Walks4M
import Derived.Test.YteoeicfbaffjcaaGreatDoorG16
import Derived.Deep.RegionHeld3
namespace Go.Proofs.YteoeicfbaffjcaaGreatDoor
open Go.RowKit

set_option maxRecDepth 4096 in
set_option maxHeartbeats 16000000 in
theorem law10_back_bad_both (S : FigureSaid) (s0 : Bool) (a0 : Option Addr) (n0 c0 : Nat) (la0 : List Nat) (b0 : Option Addr) (m0 d0 : Nat) (lb0 : List Nat) (l : List UInt8) (w : World) (ha0 : Wd w a0 n0 c0 la0) (hb0 : Wd w b0 m0 d0 lb0) (hT : Hid (Dec10 w)) (hn0 : n0 ≤ 6) (hm0 : m0 ≤ 6) (hl : l.length ≤ 200) (p0 : Rat) (hp0 : qval s0 (val la0) (val lb0) = p0) (hb1 : (txt p0.num.natAbs).length ≤ 60) (hb2 : (txt p0.den).length ≤ 60) (hk : figKind l ≠ 0) :
    Calls Tryz.prog 5 #[frV s0 a0 n0 c0 b0 m0 d0, .string (bs l)] w (Gives (.bool true) w) := by
  have HB := Lib.hid (below_alloc w (.cells #[.bool s0, .slice a0 n0 c0, .slice b0 m0 d0] 24))
  have A0 := Lib.hid (ha0.later HB.out)
  have B0 := Lib.hid (hb0.later HB.out)
  have X0 := Lib.hid (blk_new w #[.bool s0, .slice a0 n0 c0, .slice b0 m0 d0] 24)
  have lp0 : qlen p0 ≤ 7 := (Fr.of ha0 hb0 hn0 hm0 hp0).len
  have EQ0 := Lib.hid hp0
  have hl0 : (decide ((6 : Int) < (n0 : Int)) || decide ((6 : Int) < (m0 : Int))) = false := by rw [decide_eq_false (by omega), decide_eq_false (by omega)]; rfl
  clear ha0 hb0 hp0
  have hs := bs_size l
  have h200 : ¬ (200 : Int) < (l.length : Int) := by omega
  have HV1 : Hid (val (dg p0.num.natAbs) = p0.num.natAbs) := Lib.hid (val_dg _)
  have HV2 : Hid (val (dg p0.den) = p0.den) := Lib.hid (val_dg _)
  have hf0 := fig_back hb1 hb2
  have HRF : ∀ w' : World, Calls Tryz.prog 15 #[.string (bs (ftxt p0))] w' (LstQV p0 (faultV 0 0 0 0) w') := fun w' => by
    have h := S.read (ftxt p0) w' (ftxt_length hb1 hb2)
    rw [hf0.1, hf0.2.1, hf0.2.2] at h
    exact h
  clear hf0
  unfold faultV at HRF
  obtain ⟨q, hq⟩ : ∃ q, figVal l = q := ⟨_, rfl⟩
  have lq : qlen q ≤ 40 := by rw [← hq]; exact figVal_len
  obtain ⟨kd, hkd⟩ : ∃ q, figKind l = q := ⟨_, rfl⟩
  obtain ⟨pl, hpl⟩ : ∃ q, figPlace l = q := ⟨_, rfl⟩
  have HS : Hid (sgn q.num = 0) := Lib.hid (by rw [← hq, fig_bad hk]; rfl)
  rw [hkd] at hk
  have hkz : (kd == 0) = false := by simp [hk]
  have HRL : ∀ w' : World, Calls Tryz.prog 15 #[.string (bs l)] w' (LstQV q (faultV kd 0 0 pl) w') := fun w' => by
    have h := S.read l w' (by omega)
    rw [hq, hkd, hpl] at h
    exact h
  unfold faultV at HRL
  clear hq hkd hpl hk
  have j1 : (((txt p0.num.natAbs).length : Nat) : Int) ≤ 60 := by omega
  have j2 : (((txt p0.den).length : Nat) : Int) ≤ 60 := by omega
  go_enter Tryz.func5, Tryz.ntmps5
  unfold frV
  obtain ⟨vk0, vk1, vk2⟩ := fcells_3 X0.out
  go_wp2_with fail
  refine (ref09_long s0 a0 n0 c0 b0 m0 d0 6 _).mono ?_
  rintro e wv1 ⟨rfl, b⟩
  clear vk0 vk1 vk2
  replace HB := Lib.hid (below_then HB.out b)
  replace X0 := Lib.hid (blk_later X0.out b)
  replace A0 := Lib.hid (A0.out.later b)
  replace B0 := Lib.hid (B0.out.later b)
  clear b
  rw [hl0]
  obtain ⟨vk0, vk1, vk2⟩ := fcells_3 X0.out
  go_wp2_with fail
  refine (law09_to s0 a0 n0 c0 b0 m0 d0 _).mono ?_
  rintro e wv2 ⟨rfl, b⟩
  clear vk0 vk1 vk2
  replace HB := Lib.hid (below_then HB.out b)
  replace X0 := Lib.hid (blk_later X0.out b)
  replace A0 := Lib.hid (A0.out.later b)
  replace B0 := Lib.hid (B0.out.later b)
  clear b
  go_wp2_with fail
  refine (fracSaid.norm (frV s0 a0 n0 c0 b0 m0 d0) p0 _ (Fr.of A0.out B0.out (by omega) (by omega) EQ0.out)).mono ?_
  rintro e wv3 ⟨a1, n1, c1, b1, m1, d1, rfl, h1, g1, b⟩
  replace HB := Lib.hid (below_then HB.out b)
  clear A0
  clear B0
  clear b
  have hN1 : n1 ≤ qlen p0 := (by rw [← h1.len]; exact qlen_num _)
  have hM1 : m1 ≤ qlen p0 := (by rw [← g1.len]; exact qlen_den _)
  have R1 := Lib.hid h1
  have T1 := Lib.hid g1
  clear h1 g1
  unfold frV
  have P1 : Hid ((World.alloc wv3 (.cells #[.bool (zneg p0.num), .slice a1 n1 c1, .slice b1 m1 d1] 30)).heap[wv3.heap.size]? = some (.cells #[.bool (zneg p0.num), .slice a1 n1 c1, .slice b1 m1 d1] 30 (0, 0))) := Lib.hid (blk_new wv3 _ _)
  replace HB := Lib.hid (below_then HB.out (below_alloc wv3 (.cells #[.bool (zneg p0.num), .slice a1 n1 c1, .slice b1 m1 d1] 30)))
  replace R1 := Lib.hid (R1.out.later (below_alloc wv3 (.cells #[.bool (zneg p0.num), .slice a1 n1 c1, .slice b1 m1 d1] 30)))
  replace T1 := Lib.hid (T1.out.later (below_alloc wv3 (.cells #[.bool (zneg p0.num), .slice a1 n1 c1, .slice b1 m1 d1] 30)))
  obtain ⟨vk0, vk1, vk2⟩ := fcells_3 P1.out
  go_wp2_with fail
  refine (digitsSaid.len a1 n1 c1 _ _ R1.out (by omega) (Lib.hid (hT.out.later HB.out))).mono ?_
  rintro e wv4 ⟨rfl, b⟩
  clear vk0 vk1 vk2
  replace HB := Lib.hid (below_then HB.out b)
  replace P1 := Lib.hid (blk_later P1.out b)
  replace R1 := Lib.hid (R1.out.later b)
  replace T1 := Lib.hid (T1.out.later b)
  clear b
  rw [HV1.out]
  obtain ⟨vk0, vk1, vk2⟩ := fcells_3 P1.out
  go_wp2_with fail
  refine (digitsSaid.len b1 m1 d1 _ _ T1.out (by omega) (Lib.hid (hT.out.later HB.out))).mono ?_
  rintro e wv5 ⟨rfl, b⟩
  clear vk0 vk1 vk2
  replace HB := Lib.hid (below_then HB.out b)
  replace P1 := Lib.hid (blk_later P1.out b)
  replace R1 := Lib.hid (R1.out.later b)
  replace T1 := Lib.hid (T1.out.later b)
  clear b
  rw [HV2.out]
  obtain ⟨vk0, vk1, vk2⟩ := fcells_3 P1.out
  go_wp2_with fail
  refine (S.text (frV (zneg p0.num) a1 n1 c1 b1 m1 d1) p0 _ (Fr.right R1.out T1.out (by omega) (by omega)) (Lib.hid (hT.out.later HB.out))).mono ?_
  rintro e wv6 ⟨rfl, b⟩
  clear vk0 vk1 vk2
  replace HB := Lib.hid (below_then HB.out b)
  replace P1 := Lib.hid (blk_later P1.out b)
  replace R1 := Lib.hid (R1.out.later b)
  replace T1 := Lib.hid (T1.out.later b)
  clear b
  obtain ⟨vk0, vk1, vk2⟩ := fcells_3 P1.out
  go_wp2_with fail
  refine (HRF _).mono ?_
  rintro e wv7 ⟨a2, n2, c2, b2, m2, d2, rfl, h2, g2, b⟩
  clear vk0 vk1 vk2
  replace HB := Lib.hid (below_then HB.out b)
  replace P1 := Lib.hid (blk_later P1.out b)
  replace R1 := Lib.hid (R1.out.later b)
  replace T1 := Lib.hid (T1.out.later b)
  clear b
  have hN2 : n2 ≤ qlen p0 := (by rw [← h2.len]; exact qlen_num _)
  have hM2 : m2 ≤ qlen p0 := (by rw [← g2.len]; exact qlen_den _)
  have R2 := Lib.hid h2
  have T2 := Lib.hid g2
  clear h2 g2
  unfold frV
  have P2 : Hid ((World.alloc wv7 (.cells #[.bool (zneg p0.num), .slice a2 n2 c2, .slice b2 m2 d2] 30)).heap[wv7.heap.size]? = some (.cells #[.bool (zneg p0.num), .slice a2 n2 c2, .slice b2 m2 d2] 30 (0, 0))) := Lib.hid (blk_new wv7 _ _)
  replace HB := Lib.hid (below_then HB.out (below_alloc wv7 (.cells #[.bool (zneg p0.num), .slice a2 n2 c2, .slice b2 m2 d2] 30)))
  replace P1 := Lib.hid (blk_later P1.out (below_alloc wv7 (.cells #[.bool (zneg p0.num), .slice a2 n2 c2, .slice b2 m2 d2] 30)))
  replace R1 := Lib.hid (R1.out.later (below_alloc wv7 (.cells #[.bool (zneg p0.num), .slice a2 n2 c2, .slice b2 m2 d2] 30)))
  replace T1 := Lib.hid (T1.out.later (below_alloc wv7 (.cells #[.bool (zneg p0.num), .slice a2 n2 c2, .slice b2 m2 d2] 30)))
  replace R2 := Lib.hid (R2.out.later (below_alloc wv7 (.cells #[.bool (zneg p0.num), .slice a2 n2 c2, .slice b2 m2 d2] 30)))
  replace T2 := Lib.hid (T2.out.later (below_alloc wv7 (.cells #[.bool (zneg p0.num), .slice a2 n2 c2, .slice b2 m2 d2] 30)))
  have G2 : Hid ((World.alloc (wv7.alloc (.cells #[.bool (zneg p0.num), .slice a2 n2 c2, .slice b2 m2 d2] 30)) (.cells #[.int .i64 0, .int .i64 0, .int .i64 0, .int .i64 0] 38)).heap[wv7.heap.size + 1]? = some (.cells #[.int .i64 0, .int .i64 0, .int .i64 0, .int .i64 0] 38 (0, 0))) := Lib.hid (by have h := blk_new (wv7.alloc (.cells #[.bool (zneg p0.num), .slice a2 n2 c2, .slice b2 m2 d2] 30)) #[.int .i64 0, .int .i64 0, .int .i64 0, .int .i64 0] 38; rw [blk_size] at h; exact h)
  replace HB := Lib.hid (below_then HB.out (below_alloc (wv7.alloc (.cells #[.bool (zneg p0.num), .slice a2 n2 c2, .slice b2 m2 d2] 30)) (.cells #[.int .i64 0, .int .i64 0, .int .i64 0, .int .i64 0] 38)))
  replace P1 := Lib.hid (blk_later P1.out (below_alloc (wv7.alloc (.cells #[.bool (zneg p0.num), .slice a2 n2 c2, .slice b2 m2 d2] 30)) (.cells #[.int .i64 0, .int .i64 0, .int .i64 0, .int .i64 0] 38)))
  replace P2 := Lib.hid (blk_later P2.out (below_alloc (wv7.alloc (.cells #[.bool (zneg p0.num), .slice a2 n2 c2, .slice b2 m2 d2] 30)) (.cells #[.int .i64 0, .int .i64 0, .int .i64 0, .int .i64 0] 38)))
  replace R1 := Lib.hid (R1.out.later (below_alloc (wv7.alloc (.cells #[.bool (zneg p0.num), .slice a2 n2 c2, .slice b2 m2 d2] 30)) (.cells #[.int .i64 0, .int .i64 0, .int .i64 0, .int .i64 0] 38)))
  replace T1 := Lib.hid (T1.out.later (below_alloc (wv7.alloc (.cells #[.bool (zneg p0.num), .slice a2 n2 c2, .slice b2 m2 d2] 30)) (.cells #[.int .i64 0, .int .i64 0, .int .i64 0, .int .i64 0] 38)))
  replace R2 := Lib.hid (R2.out.later (below_alloc (wv7.alloc (.cells #[.bool (zneg p0.num), .slice a2 n2 c2, .slice b2 m2 d2] 30)) (.cells #[.int .i64 0, .int .i64 0, .int .i64 0, .int .i64 0] 38)))
  replace T2 := Lib.hid (T2.out.later (below_alloc (wv7.alloc (.cells #[.bool (zneg p0.num), .slice a2 n2 c2, .slice b2 m2 d2] 30)) (.cells #[.int .i64 0, .int .i64 0, .int .i64 0, .int .i64 0] 38)))
  obtain ⟨vk0, vk1, vk2, vk3, vk4, vk5, vk6, vk7, vk8, vk9⟩ := fcells_3_3_4 P1.out P2.out G2.out
  go_wp2_with fail
  refine (fracSaid.same (frV (zneg p0.num) a2 n2 c2 b2 m2 d2) (frV (zneg p0.num) a1 n1 c1 b1 m1 d1) p0 p0 _ (Fr.right R2.out T2.out (by omega) (by omega)) (Fr.right R1.out T1.out (by omega) (by omega))).mono ?_
  rintro e wv8 ⟨rfl, b⟩
  clear vk0 vk1 vk2 vk3 vk4 vk5 vk6 vk7 vk8 vk9
  replace HB := Lib.hid (below_then HB.out b)
  replace P1 := Lib.hid (blk_later P1.out b)
  replace P2 := Lib.hid (blk_later P2.out b)
  replace G2 := Lib.hid (blk_later G2.out b)
  clear R2
  clear T2
  replace R1 := Lib.hid (R1.out.later b)
  replace T1 := Lib.hid (T1.out.later b)
  clear b
  rw [show decide (p0 = p0) = true from decide_eq_true rfl]
  go_wp2_with fail
  refine (HRL _).mono ?_
  rintro e wv9 ⟨a3, n3, c3, b3, m3, d3, rfl, h3, g3, b⟩
  replace HB := Lib.hid (below_then HB.out b)
  clear b
  have hN3 : n3 ≤ qlen q := (by rw [← h3.len]; exact qlen_num _)
  have hM3 : m3 ≤ qlen q := (by rw [← g3.len]; exact qlen_den _)
  have R3 := Lib.hid h3
  have T3 := Lib.hid g3
  clear h3 g3
  unfold frV
  have P3 : Hid ((World.alloc wv9 (.cells #[.bool (zneg q.num), .slice a3 n3 c3, .slice b3 m3 d3] 30)).heap[wv9.heap.size]? = some (.cells #[.bool (zneg q.num), .slice a3 n3 c3, .slice b3 m3 d3] 30 (0, 0))) := Lib.hid (blk_new wv9 _ _)
  replace HB := Lib.hid (below_then HB.out (below_alloc wv9 (.cells #[.bool (zneg q.num), .slice a3 n3 c3, .slice b3 m3 d3] 30)))
  replace R3 := Lib.hid (R3.out.later (below_alloc wv9 (.cells #[.bool (zneg q.num), .slice a3 n3 c3, .slice b3 m3 d3] 30)))
  replace T3 := Lib.hid (T3.out.later (below_alloc wv9 (.cells #[.bool (zneg q.num), .slice a3 n3 c3, .slice b3 m3 d3] 30)))
  have G3 : Hid ((World.alloc (wv9.alloc (.cells #[.bool (zneg q.num), .slice a3 n3 c3, .slice b3 m3 d3] 30)) (.cells #[.int .i64 kd, .int .i64 0, .int .i64 0, .int .i64 pl] 38)).heap[wv9.heap.size + 1]? = some (.cells #[.int .i64 kd, .int .i64 0, .int .i64 0, .int .i64 pl] 38 (0, 0))) := Lib.hid (by have h := blk_new (wv9.alloc (.cells #[.bool (zneg q.num), .slice a3 n3 c3, .slice b3 m3 d3] 30)) #[.int .i64 kd, .int .i64 0, .int .i64 0, .int .i64 pl] 38; rw [blk_size] at h; exact h)
  replace HB := Lib.hid (below_then HB.out (below_alloc (wv9.alloc (.cells #[.bool (zneg q.num), .slice a3 n3 c3, .slice b3 m3 d3] 30)) (.cells #[.int .i64 kd, .int .i64 0, .int .i64 0, .int .i64 pl] 38)))
  replace P3 := Lib.hid (blk_later P3.out (below_alloc (wv9.alloc (.cells #[.bool (zneg q.num), .slice a3 n3 c3, .slice b3 m3 d3] 30)) (.cells #[.int .i64 kd, .int .i64 0, .int .i64 0, .int .i64 pl] 38)))
  replace R3 := Lib.hid (R3.out.later (below_alloc (wv9.alloc (.cells #[.bool (zneg q.num), .slice a3 n3 c3, .slice b3 m3 d3] 30)) (.cells #[.int .i64 kd, .int .i64 0, .int .i64 0, .int .i64 pl] 38)))
  replace T3 := Lib.hid (T3.out.later (below_alloc (wv9.alloc (.cells #[.bool (zneg q.num), .slice a3 n3 c3, .slice b3 m3 d3] 30)) (.cells #[.int .i64 kd, .int .i64 0, .int .i64 0, .int .i64 pl] 38)))
  obtain ⟨vk0, vk1, vk2, vk3, vk4, vk5, vk6⟩ := fcells_3_4 P3.out G3.out
  go_wp2_with fail
  refine (fracSaid.sign (frV (zneg q.num) a3 n3 c3 b3 m3 d3) q _ (Fr.right R3.out T3.out (by omega) (by omega))).mono ?_
  rintro e wv10 ⟨rfl, b⟩
  clear vk0 vk1 vk2 vk3 vk4 vk5 vk6
  replace HB := Lib.hid (below_then HB.out b)
  replace P3 := Lib.hid (blk_later P3.out b)
  replace G3 := Lib.hid (blk_later G3.out b)
  replace R3 := Lib.hid (R3.out.later b)
  replace T3 := Lib.hid (T3.out.later b)
  clear b
  rw [HS.out]
  obtain ⟨vk0, vk1, vk2, vk3, vk4, vk5, vk6⟩ := fcells_3_4 P3.out G3.out
  go_wp2_with fail
  refine (law10_works S _ (Lib.hid (hT.out.later HB.out))).mono ?_
  rintro e wv11 ⟨rfl, b⟩
  clear vk0 vk1 vk2 vk3 vk4 vk5 vk6
  replace HB := Lib.hid (below_then HB.out b)
  replace P3 := Lib.hid (blk_later P3.out b)
  replace G3 := Lib.hid (blk_later G3.out b)
  replace R3 := Lib.hid (R3.out.later b)
  replace T3 := Lib.hid (T3.out.later b)
  clear b
  go_wp2
  go_ret
  exact ⟨rfl, HB.out⟩
set_option maxRecDepth 4096 in
set_option maxHeartbeats 16000000 in
theorem law10_back_long1_both (S : FigureSaid) (s0 : Bool) (a0 : Option Addr) (n0 c0 : Nat) (la0 : List Nat) (b0 : Option Addr) (m0 d0 : Nat) (lb0 : List Nat) (l : List UInt8) (w : World) (ha0 : Wd w a0 n0 c0 la0) (hb0 : Wd w b0 m0 d0 lb0) (hT : Hid (Dec10 w)) (hn0 : n0 ≤ 6) (hm0 : m0 ≤ 6) (hl : l.length ≤ 200) (p0 : Rat) (hp0 : qval s0 (val la0) (val lb0) = p0) (hb1 : (txt p0.num.natAbs).length ≤ 60) (hb2 : (txt p0.den).length ≤ 60) (hk : figKind l = 0) (hg1 : 60 < (txt (figVal l).num.natAbs).length) :
    Calls Tryz.prog 5 #[frV s0 a0 n0 c0 b0 m0 d0, .string (bs l)] w (Gives (.bool true) w) := by
  have HB := Lib.hid (below_alloc w (.cells #[.bool s0, .slice a0 n0 c0, .slice b0 m0 d0] 24))
  have A0 := Lib.hid (ha0.later HB.out)
  have B0 := Lib.hid (hb0.later HB.out)
  have X0 := Lib.hid (blk_new w #[.bool s0, .slice a0 n0 c0, .slice b0 m0 d0] 24)
  have lp0 : qlen p0 ≤ 7 := (Fr.of ha0 hb0 hn0 hm0 hp0).len
  have EQ0 := Lib.hid hp0
  have hl0 : (decide ((6 : Int) < (n0 : Int)) || decide ((6 : Int) < (m0 : Int))) = false := by rw [decide_eq_false (by omega), decide_eq_false (by omega)]; rfl
  clear ha0 hb0 hp0
  have hs := bs_size l
  have h200 : ¬ (200 : Int) < (l.length : Int) := by omega
  have HV1 : Hid (val (dg p0.num.natAbs) = p0.num.natAbs) := Lib.hid (val_dg _)
  have HV2 : Hid (val (dg p0.den) = p0.den) := Lib.hid (val_dg _)
  have hf0 := fig_back hb1 hb2
  have HRF : ∀ w' : World, Calls Tryz.prog 15 #[.string (bs (ftxt p0))] w' (LstQV p0 (faultV 0 0 0 0) w') := fun w' => by
    have h := S.read (ftxt p0) w' (ftxt_length hb1 hb2)
    rw [hf0.1, hf0.2.1, hf0.2.2] at h
    exact h
  clear hf0
  unfold faultV at HRF
  obtain ⟨q, hq⟩ : ∃ q, figVal l = q := ⟨_, rfl⟩
  have lq : qlen q ≤ 40 := by rw [← hq]; exact figVal_len
  have hkd := hk
  have hpl := fig_good hk
  rw [hq] at hg1
  have HV3 : Hid (val (dg q.num.natAbs) = q.num.natAbs) := Lib.hid (val_dg _)
  have HV4 : Hid (val (dg q.den) = q.den) := Lib.hid (val_dg _)
  have HRL : ∀ w' : World, Calls Tryz.prog 15 #[.string (bs l)] w' (LstQV q (faultV 0 0 0 0) w') := fun w' => by
    have h := S.read l w' (by omega)
    rw [hq, hkd, hpl] at h
    exact h
  unfold faultV at HRL
  clear hq hkd hpl hk
  have j1 : (((txt p0.num.natAbs).length : Nat) : Int) ≤ 60 := by omega
  have j2 : (((txt p0.den).length : Nat) : Int) ≤ 60 := by omega
  have j3 : (60 : Int) < (((txt q.num.natAbs).length : Nat) : Int) := by omega
  go_enter Tryz.func5, Tryz.ntmps5
  unfold frV
  obtain ⟨vk0, vk1, vk2⟩ := fcells_3 X0.out
  go_wp2_with fail
  refine (ref09_long s0 a0 n0 c0 b0 m0 d0 6 _).mono ?_
  rintro e wv1 ⟨rfl, b⟩
  clear vk0 vk1 vk2
  replace HB := Lib.hid (below_then HB.out b)
  replace X0 := Lib.hid (blk_later X0.out b)
  replace A0 := Lib.hid (A0.out.later b)
  replace B0 := Lib.hid (B0.out.later b)
  clear b
  rw [hl0]
  obtain ⟨vk0, vk1, vk2⟩ := fcells_3 X0.out
  go_wp2_with fail
  refine (law09_to s0 a0 n0 c0 b0 m0 d0 _).mono ?_
  rintro e wv2 ⟨rfl, b⟩
  clear vk0 vk1 vk2
  replace HB := Lib.hid (below_then HB.out b)
  replace X0 := Lib.hid (blk_later X0.out b)
  replace A0 := Lib.hid (A0.out.later b)
  replace B0 := Lib.hid (B0.out.later b)
  clear b
  go_wp2_with fail
  refine (fracSaid.norm (frV s0 a0 n0 c0 b0 m0 d0) p0 _ (Fr.of A0.out B0.out (by omega) (by omega) EQ0.out)).mono ?_
  rintro e wv3 ⟨a1, n1, c1, b1, m1, d1, rfl, h1, g1, b⟩
  replace HB := Lib.hid (below_then HB.out b)
  clear A0
  clear B0
  clear b
  have hN1 : n1 ≤ qlen p0 := (by rw [← h1.len]; exact qlen_num _)
  have hM1 : m1 ≤ qlen p0 := (by rw [← g1.len]; exact qlen_den _)
  have R1 := Lib.hid h1
  have T1 := Lib.hid g1
  clear h1 g1
  unfold frV
  have P1 : Hid ((World.alloc wv3 (.cells #[.bool (zneg p0.num), .slice a1 n1 c1, .slice b1 m1 d1] 30)).heap[wv3.heap.size]? = some (.cells #[.bool (zneg p0.num), .slice a1 n1 c1, .slice b1 m1 d1] 30 (0, 0))) := Lib.hid (blk_new wv3 _ _)
  replace HB := Lib.hid (below_then HB.out (below_alloc wv3 (.cells #[.bool (zneg p0.num), .slice a1 n1 c1, .slice b1 m1 d1] 30)))
  replace R1 := Lib.hid (R1.out.later (below_alloc wv3 (.cells #[.bool (zneg p0.num), .slice a1 n1 c1, .slice b1 m1 d1] 30)))
  replace T1 := Lib.hid (T1.out.later (below_alloc wv3 (.cells #[.bool (zneg p0.num), .slice a1 n1 c1, .slice b1 m1 d1] 30)))
  obtain ⟨vk0, vk1, vk2⟩ := fcells_3 P1.out
  go_wp2_with fail
  refine (digitsSaid.len a1 n1 c1 _ _ R1.out (by omega) (Lib.hid (hT.out.later HB.out))).mono ?_
  rintro e wv4 ⟨rfl, b⟩
  clear vk0 vk1 vk2
  replace HB := Lib.hid (below_then HB.out b)
  replace P1 := Lib.hid (blk_later P1.out b)
  replace R1 := Lib.hid (R1.out.later b)
  replace T1 := Lib.hid (T1.out.later b)
  clear b
  rw [HV1.out]
  obtain ⟨vk0, vk1, vk2⟩ := fcells_3 P1.out
  go_wp2_with fail
  refine (digitsSaid.len b1 m1 d1 _ _ T1.out (by omega) (Lib.hid (hT.out.later HB.out))).mono ?_
  rintro e wv5 ⟨rfl, b⟩
  clear vk0 vk1 vk2
  replace HB := Lib.hid (below_then HB.out b)
  replace P1 := Lib.hid (blk_later P1.out b)
  replace R1 := Lib.hid (R1.out.later b)
  replace T1 := Lib.hid (T1.out.later b)
  clear b
  rw [HV2.out]
  obtain ⟨vk0, vk1, vk2⟩ := fcells_3 P1.out
  go_wp2_with fail
  refine (S.text (frV (zneg p0.num) a1 n1 c1 b1 m1 d1) p0 _ (Fr.right R1.out T1.out (by omega) (by omega)) (Lib.hid (hT.out.later HB.out))).mono ?_
  rintro e wv6 ⟨rfl, b⟩
  clear vk0 vk1 vk2
  replace HB := Lib.hid (below_then HB.out b)
  replace P1 := Lib.hid (blk_later P1.out b)
  replace R1 := Lib.hid (R1.out.later b)
  replace T1 := Lib.hid (T1.out.later b)
  clear b
  obtain ⟨vk0, vk1, vk2⟩ := fcells_3 P1.out
  go_wp2_with fail
  refine (HRF _).mono ?_
  rintro e wv7 ⟨a2, n2, c2, b2, m2, d2, rfl, h2, g2, b⟩
  clear vk0 vk1 vk2
  replace HB := Lib.hid (below_then HB.out b)
  replace P1 := Lib.hid (blk_later P1.out b)
  replace R1 := Lib.hid (R1.out.later b)
  replace T1 := Lib.hid (T1.out.later b)
  clear b
  have hN2 : n2 ≤ qlen p0 := (by rw [← h2.len]; exact qlen_num _)
  have hM2 : m2 ≤ qlen p0 := (by rw [← g2.len]; exact qlen_den _)
  have R2 := Lib.hid h2
  have T2 := Lib.hid g2
  clear h2 g2
  unfold frV
  have P2 : Hid ((World.alloc wv7 (.cells #[.bool (zneg p0.num), .slice a2 n2 c2, .slice b2 m2 d2] 30)).heap[wv7.heap.size]? = some (.cells #[.bool (zneg p0.num), .slice a2 n2 c2, .slice b2 m2 d2] 30 (0, 0))) := Lib.hid (blk_new wv7 _ _)
  replace HB := Lib.hid (below_then HB.out (below_alloc wv7 (.cells #[.bool (zneg p0.num), .slice a2 n2 c2, .slice b2 m2 d2] 30)))
  replace P1 := Lib.hid (blk_later P1.out (below_alloc wv7 (.cells #[.bool (zneg p0.num), .slice a2 n2 c2, .slice b2 m2 d2] 30)))
  replace R1 := Lib.hid (R1.out.later (below_alloc wv7 (.cells #[.bool (zneg p0.num), .slice a2 n2 c2, .slice b2 m2 d2] 30)))
  replace T1 := Lib.hid (T1.out.later (below_alloc wv7 (.cells #[.bool (zneg p0.num), .slice a2 n2 c2, .slice b2 m2 d2] 30)))
  replace R2 := Lib.hid (R2.out.later (below_alloc wv7 (.cells #[.bool (zneg p0.num), .slice a2 n2 c2, .slice b2 m2 d2] 30)))
  replace T2 := Lib.hid (T2.out.later (below_alloc wv7 (.cells #[.bool (zneg p0.num), .slice a2 n2 c2, .slice b2 m2 d2] 30)))
  have G2 : Hid ((World.alloc (wv7.alloc (.cells #[.bool (zneg p0.num), .slice a2 n2 c2, .slice b2 m2 d2] 30)) (.cells #[.int .i64 0, .int .i64 0, .int .i64 0, .int .i64 0] 38)).heap[wv7.heap.size + 1]? = some (.cells #[.int .i64 0, .int .i64 0, .int .i64 0, .int .i64 0] 38 (0, 0))) := Lib.hid (by have h := blk_new (wv7.alloc (.cells #[.bool (zneg p0.num), .slice a2 n2 c2, .slice b2 m2 d2] 30)) #[.int .i64 0, .int .i64 0, .int .i64 0, .int .i64 0] 38; rw [blk_size] at h; exact h)
  replace HB := Lib.hid (below_then HB.out (below_alloc (wv7.alloc (.cells #[.bool (zneg p0.num), .slice a2 n2 c2, .slice b2 m2 d2] 30)) (.cells #[.int .i64 0, .int .i64 0, .int .i64 0, .int .i64 0] 38)))
  replace P1 := Lib.hid (blk_later P1.out (below_alloc (wv7.alloc (.cells #[.bool (zneg p0.num), .slice a2 n2 c2, .slice b2 m2 d2] 30)) (.cells #[.int .i64 0, .int .i64 0, .int .i64 0, .int .i64 0] 38)))
  replace P2 := Lib.hid (blk_later P2.out (below_alloc (wv7.alloc (.cells #[.bool (zneg p0.num), .slice a2 n2 c2, .slice b2 m2 d2] 30)) (.cells #[.int .i64 0, .int .i64 0, .int .i64 0, .int .i64 0] 38)))
  replace R1 := Lib.hid (R1.out.later (below_alloc (wv7.alloc (.cells #[.bool (zneg p0.num), .slice a2 n2 c2, .slice b2 m2 d2] 30)) (.cells #[.int .i64 0, .int .i64 0, .int .i64 0, .int .i64 0] 38)))
  replace T1 := Lib.hid (T1.out.later (below_alloc (wv7.alloc (.cells #[.bool (zneg p0.num), .slice a2 n2 c2, .slice b2 m2 d2] 30)) (.cells #[.int .i64 0, .int .i64 0, .int .i64 0, .int .i64 0] 38)))
  replace R2 := Lib.hid (R2.out.later (below_alloc (wv7.alloc (.cells #[.bool (zneg p0.num), .slice a2 n2 c2, .slice b2 m2 d2] 30)) (.cells #[.int .i64 0, .int .i64 0, .int .i64 0, .int .i64 0] 38)))
  replace T2 := Lib.hid (T2.out.later (below_alloc (wv7.alloc (.cells #[.bool (zneg p0.num), .slice a2 n2 c2, .slice b2 m2 d2] 30)) (.cells #[.int .i64 0, .int .i64 0, .int .i64 0, .int .i64 0] 38)))
  obtain ⟨vk0, vk1, vk2, vk3, vk4, vk5, vk6, vk7, vk8, vk9⟩ := fcells_3_3_4 P1.out P2.out G2.out
  go_wp2_with fail
  refine (fracSaid.same (frV (zneg p0.num) a2 n2 c2 b2 m2 d2) (frV (zneg p0.num) a1 n1 c1 b1 m1 d1) p0 p0 _ (Fr.right R2.out T2.out (by omega) (by omega)) (Fr.right R1.out T1.out (by omega) (by omega))).mono ?_
  rintro e wv8 ⟨rfl, b⟩
  clear vk0 vk1 vk2 vk3 vk4 vk5 vk6 vk7 vk8 vk9
  replace HB := Lib.hid (below_then HB.out b)
  replace P1 := Lib.hid (blk_later P1.out b)
  replace P2 := Lib.hid (blk_later P2.out b)
  replace G2 := Lib.hid (blk_later G2.out b)
  clear R2
  clear T2
  replace R1 := Lib.hid (R1.out.later b)
  replace T1 := Lib.hid (T1.out.later b)
  clear b
  rw [show decide (p0 = p0) = true from decide_eq_true rfl]
  go_wp2_with fail
  refine (HRL _).mono ?_
  rintro e wv9 ⟨a3, n3, c3, b3, m3, d3, rfl, h3, g3, b⟩
  replace HB := Lib.hid (below_then HB.out b)
  clear b
  have hN3 : n3 ≤ qlen q := (by rw [← h3.len]; exact qlen_num _)
  have hM3 : m3 ≤ qlen q := (by rw [← g3.len]; exact qlen_den _)
  have R3 := Lib.hid h3
  have T3 := Lib.hid g3
  clear h3 g3
  unfold frV
  have P3 : Hid ((World.alloc wv9 (.cells #[.bool (zneg q.num), .slice a3 n3 c3, .slice b3 m3 d3] 30)).heap[wv9.heap.size]? = some (.cells #[.bool (zneg q.num), .slice a3 n3 c3, .slice b3 m3 d3] 30 (0, 0))) := Lib.hid (blk_new wv9 _ _)
  replace HB := Lib.hid (below_then HB.out (below_alloc wv9 (.cells #[.bool (zneg q.num), .slice a3 n3 c3, .slice b3 m3 d3] 30)))
  replace R3 := Lib.hid (R3.out.later (below_alloc wv9 (.cells #[.bool (zneg q.num), .slice a3 n3 c3, .slice b3 m3 d3] 30)))
  replace T3 := Lib.hid (T3.out.later (below_alloc wv9 (.cells #[.bool (zneg q.num), .slice a3 n3 c3, .slice b3 m3 d3] 30)))
  have G3 : Hid ((World.alloc (wv9.alloc (.cells #[.bool (zneg q.num), .slice a3 n3 c3, .slice b3 m3 d3] 30)) (.cells #[.int .i64 0, .int .i64 0, .int .i64 0, .int .i64 0] 38)).heap[wv9.heap.size + 1]? = some (.cells #[.int .i64 0, .int .i64 0, .int .i64 0, .int .i64 0] 38 (0, 0))) := Lib.hid (by have h := blk_new (wv9.alloc (.cells #[.bool (zneg q.num), .slice a3 n3 c3, .slice b3 m3 d3] 30)) #[.int .i64 0, .int .i64 0, .int .i64 0, .int .i64 0] 38; rw [blk_size] at h; exact h)
  replace HB := Lib.hid (below_then HB.out (below_alloc (wv9.alloc (.cells #[.bool (zneg q.num), .slice a3 n3 c3, .slice b3 m3 d3] 30)) (.cells #[.int .i64 0, .int .i64 0, .int .i64 0, .int .i64 0] 38)))
  replace P3 := Lib.hid (blk_later P3.out (below_alloc (wv9.alloc (.cells #[.bool (zneg q.num), .slice a3 n3 c3, .slice b3 m3 d3] 30)) (.cells #[.int .i64 0, .int .i64 0, .int .i64 0, .int .i64 0] 38)))
  replace R3 := Lib.hid (R3.out.later (below_alloc (wv9.alloc (.cells #[.bool (zneg q.num), .slice a3 n3 c3, .slice b3 m3 d3] 30)) (.cells #[.int .i64 0, .int .i64 0, .int .i64 0, .int .i64 0] 38)))
  replace T3 := Lib.hid (T3.out.later (below_alloc (wv9.alloc (.cells #[.bool (zneg q.num), .slice a3 n3 c3, .slice b3 m3 d3] 30)) (.cells #[.int .i64 0, .int .i64 0, .int .i64 0, .int .i64 0] 38)))
  obtain ⟨vk0, vk1, vk2, vk3, vk4, vk5, vk6⟩ := fcells_3_4 P3.out G3.out
  go_wp2_with fail
  refine (digitsSaid.len a3 n3 c3 _ _ R3.out (by omega) (Lib.hid (hT.out.later HB.out))).mono ?_
  rintro e wv10 ⟨rfl, b⟩
  clear vk0 vk1 vk2 vk3 vk4 vk5 vk6
  replace HB := Lib.hid (below_then HB.out b)
  replace P3 := Lib.hid (blk_later P3.out b)
  replace G3 := Lib.hid (blk_later G3.out b)
  replace R3 := Lib.hid (R3.out.later b)
  replace T3 := Lib.hid (T3.out.later b)
  clear b
  rw [HV3.out]
  obtain ⟨vk0, vk1, vk2, vk3, vk4, vk5, vk6⟩ := fcells_3_4 P3.out G3.out
  go_wp2_with fail
  refine (law10_works S _ (Lib.hid (hT.out.later HB.out))).mono ?_
  rintro e wv11 ⟨rfl, b⟩
  clear vk0 vk1 vk2 vk3 vk4 vk5 vk6
  replace HB := Lib.hid (below_then HB.out b)
  replace P3 := Lib.hid (blk_later P3.out b)
  replace G3 := Lib.hid (blk_later G3.out b)
  replace R3 := Lib.hid (R3.out.later b)
  replace T3 := Lib.hid (T3.out.later b)
  clear b
  go_wp2
  go_ret
  exact ⟨rfl, HB.out⟩
set_option maxRecDepth 4096 in
set_option maxHeartbeats 16000000 in
theorem law10_back_long2_both (S : FigureSaid) (s0 : Bool) (a0 : Option Addr) (n0 c0 : Nat) (la0 : List Nat) (b0 : Option Addr) (m0 d0 : Nat) (lb0 : List Nat) (l : List UInt8) (w : World) (ha0 : Wd w a0 n0 c0 la0) (hb0 : Wd w b0 m0 d0 lb0) (hT : Hid (Dec10 w)) (hn0 : n0 ≤ 6) (hm0 : m0 ≤ 6) (hl : l.length ≤ 200) (p0 : Rat) (hp0 : qval s0 (val la0) (val lb0) = p0) (hb1 : (txt p0.num.natAbs).length ≤ 60) (hb2 : (txt p0.den).length ≤ 60) (hk : figKind l = 0) (hg1 : ¬ 60 < (txt (figVal l).num.natAbs).length) (hg2 : 60 < (txt (figVal l).den).length) :
    Calls Tryz.prog 5 #[frV s0 a0 n0 c0 b0 m0 d0, .string (bs l)] w (Gives (.bool true) w) := by
  have HB := Lib.hid (below_alloc w (.cells #[.bool s0, .slice a0 n0 c0, .slice b0 m0 d0] 24))
  have A0 := Lib.hid (ha0.later HB.out)
  have B0 := Lib.hid (hb0.later HB.out)
  have X0 := Lib.hid (blk_new w #[.bool s0, .slice a0 n0 c0, .slice b0 m0 d0] 24)
  have lp0 : qlen p0 ≤ 7 := (Fr.of ha0 hb0 hn0 hm0 hp0).len
  have EQ0 := Lib.hid hp0
  have hl0 : (decide ((6 : Int) < (n0 : Int)) || decide ((6 : Int) < (m0 : Int))) = false := by rw [decide_eq_false (by omega), decide_eq_false (by omega)]; rfl
  clear ha0 hb0 hp0
  have hs := bs_size l
  have h200 : ¬ (200 : Int) < (l.length : Int) := by omega
  have HV1 : Hid (val (dg p0.num.natAbs) = p0.num.natAbs) := Lib.hid (val_dg _)
  have HV2 : Hid (val (dg p0.den) = p0.den) := Lib.hid (val_dg _)
  have hf0 := fig_back hb1 hb2
  have HRF : ∀ w' : World, Calls Tryz.prog 15 #[.string (bs (ftxt p0))] w' (LstQV p0 (faultV 0 0 0 0) w') := fun w' => by
    have h := S.read (ftxt p0) w' (ftxt_length hb1 hb2)
    rw [hf0.1, hf0.2.1, hf0.2.2] at h
    exact h
  clear hf0
  unfold faultV at HRF
  obtain ⟨q, hq⟩ : ∃ q, figVal l = q := ⟨_, rfl⟩
  have lq : qlen q ≤ 40 := by rw [← hq]; exact figVal_len
  have hkd := hk
  have hpl := fig_good hk
  rw [hq] at hg1 hg2
  have HV3 : Hid (val (dg q.num.natAbs) = q.num.natAbs) := Lib.hid (val_dg _)
  have HV4 : Hid (val (dg q.den) = q.den) := Lib.hid (val_dg _)
  have HRL : ∀ w' : World, Calls Tryz.prog 15 #[.string (bs l)] w' (LstQV q (faultV 0 0 0 0) w') := fun w' => by
    have h := S.read l w' (by omega)
    rw [hq, hkd, hpl] at h
    exact h
  unfold faultV at HRL
  clear hq hkd hpl hk
  have j1 : (((txt p0.num.natAbs).length : Nat) : Int) ≤ 60 := by omega
  have j2 : (((txt p0.den).length : Nat) : Int) ≤ 60 := by omega
  have j3 : ¬ (60 : Int) < (((txt q.num.natAbs).length : Nat) : Int) := by omega
  have j4 : (60 : Int) < (((txt q.den).length : Nat) : Int) := by omega
  go_enter Tryz.func5, Tryz.ntmps5
  unfold frV
  obtain ⟨vk0, vk1, vk2⟩ := fcells_3 X0.out
  go_wp2_with fail
  refine (ref09_long s0 a0 n0 c0 b0 m0 d0 6 _).mono ?_
  rintro e wv1 ⟨rfl, b⟩
  clear vk0 vk1 vk2
  replace HB := Lib.hid (below_then HB.out b)
  replace X0 := Lib.hid (blk_later X0.out b)
  replace A0 := Lib.hid (A0.out.later b)
  replace B0 := Lib.hid (B0.out.later b)
  clear b
  rw [hl0]
  obtain ⟨vk0, vk1, vk2⟩ := fcells_3 X0.out
  go_wp2_with fail
  refine (law09_to s0 a0 n0 c0 b0 m0 d0 _).mono ?_
  rintro e wv2 ⟨rfl, b⟩
  clear vk0 vk1 vk2
  replace HB := Lib.hid (below_then HB.out b)
  replace X0 := Lib.hid (blk_later X0.out b)
  replace A0 := Lib.hid (A0.out.later b)
  replace B0 := Lib.hid (B0.out.later b)
  clear b
  go_wp2_with fail
  refine (fracSaid.norm (frV s0 a0 n0 c0 b0 m0 d0) p0 _ (Fr.of A0.out B0.out (by omega) (by omega) EQ0.out)).mono ?_
  rintro e wv3 ⟨a1, n1, c1, b1, m1, d1, rfl, h1, g1, b⟩
  replace HB := Lib.hid (below_then HB.out b)
  clear A0
  clear B0
  clear b
  have hN1 : n1 ≤ qlen p0 := (by rw [← h1.len]; exact qlen_num _)
  have hM1 : m1 ≤ qlen p0 := (by rw [← g1.len]; exact qlen_den _)
  have R1 := Lib.hid h1
  have T1 := Lib.hid g1
  clear h1 g1
  unfold frV
  have P1 : Hid ((World.alloc wv3 (.cells #[.bool (zneg p0.num), .slice a1 n1 c1, .slice b1 m1 d1] 30)).heap[wv3.heap.size]? = some (.cells #[.bool (zneg p0.num), .slice a1 n1 c1, .slice b1 m1 d1] 30 (0, 0))) := Lib.hid (blk_new wv3 _ _)
  replace HB := Lib.hid (below_then HB.out (below_alloc wv3 (.cells #[.bool (zneg p0.num), .slice a1 n1 c1, .slice b1 m1 d1] 30)))
  replace R1 := Lib.hid (R1.out.later (below_alloc wv3 (.cells #[.bool (zneg p0.num), .slice a1 n1 c1, .slice b1 m1 d1] 30)))
  replace T1 := Lib.hid (T1.out.later (below_alloc wv3 (.cells #[.bool (zneg p0.num), .slice a1 n1 c1, .slice b1 m1 d1] 30)))
  obtain ⟨vk0, vk1, vk2⟩ := fcells_3 P1.out
  go_wp2_with fail
  refine (digitsSaid.len a1 n1 c1 _ _ R1.out (by omega) (Lib.hid (hT.out.later HB.out))).mono ?_
  rintro e wv4 ⟨rfl, b⟩
  clear vk0 vk1 vk2
  replace HB := Lib.hid (below_then HB.out b)
  replace P1 := Lib.hid (blk_later P1.out b)
  replace R1 := Lib.hid (R1.out.later b)
  replace T1 := Lib.hid (T1.out.later b)
  clear b
  rw [HV1.out]
  obtain ⟨vk0, vk1, vk2⟩ := fcells_3 P1.out
  go_wp2_with fail
  refine (digitsSaid.len b1 m1 d1 _ _ T1.out (by omega) (Lib.hid (hT.out.later HB.out))).mono ?_
  rintro e wv5 ⟨rfl, b⟩
  clear vk0 vk1 vk2
  replace HB := Lib.hid (below_then HB.out b)
  replace P1 := Lib.hid (blk_later P1.out b)
  replace R1 := Lib.hid (R1.out.later b)
  replace T1 := Lib.hid (T1.out.later b)
  clear b
  rw [HV2.out]
  obtain ⟨vk0, vk1, vk2⟩ := fcells_3 P1.out
  go_wp2_with fail
  refine (S.text (frV (zneg p0.num) a1 n1 c1 b1 m1 d1) p0 _ (Fr.right R1.out T1.out (by omega) (by omega)) (Lib.hid (hT.out.later HB.out))).mono ?_
  rintro e wv6 ⟨rfl, b⟩
  clear vk0 vk1 vk2
  replace HB := Lib.hid (below_then HB.out b)
  replace P1 := Lib.hid (blk_later P1.out b)
  replace R1 := Lib.hid (R1.out.later b)
  replace T1 := Lib.hid (T1.out.later b)
  clear b
  obtain ⟨vk0, vk1, vk2⟩ := fcells_3 P1.out
  go_wp2_with fail
  refine (HRF _).mono ?_
  rintro e wv7 ⟨a2, n2, c2, b2, m2, d2, rfl, h2, g2, b⟩
  clear vk0 vk1 vk2
  replace HB := Lib.hid (below_then HB.out b)
  replace P1 := Lib.hid (blk_later P1.out b)
  replace R1 := Lib.hid (R1.out.later b)
  replace T1 := Lib.hid (T1.out.later b)
  clear b
  have hN2 : n2 ≤ qlen p0 := (by rw [← h2.len]; exact qlen_num _)
  have hM2 : m2 ≤ qlen p0 := (by rw [← g2.len]; exact qlen_den _)
  have R2 := Lib.hid h2
  have T2 := Lib.hid g2
  clear h2 g2
  unfold frV
  have P2 : Hid ((World.alloc wv7 (.cells #[.bool (zneg p0.num), .slice a2 n2 c2, .slice b2 m2 d2] 30)).heap[wv7.heap.size]? = some (.cells #[.bool (zneg p0.num), .slice a2 n2 c2, .slice b2 m2 d2] 30 (0, 0))) := Lib.hid (blk_new wv7 _ _)
  replace HB := Lib.hid (below_then HB.out (below_alloc wv7 (.cells #[.bool (zneg p0.num), .slice a2 n2 c2, .slice b2 m2 d2] 30)))
  replace P1 := Lib.hid (blk_later P1.out (below_alloc wv7 (.cells #[.bool (zneg p0.num), .slice a2 n2 c2, .slice b2 m2 d2] 30)))
  replace R1 := Lib.hid (R1.out.later (below_alloc wv7 (.cells #[.bool (zneg p0.num), .slice a2 n2 c2, .slice b2 m2 d2] 30)))
  replace T1 := Lib.hid (T1.out.later (below_alloc wv7 (.cells #[.bool (zneg p0.num), .slice a2 n2 c2, .slice b2 m2 d2] 30)))
  replace R2 := Lib.hid (R2.out.later (below_alloc wv7 (.cells #[.bool (zneg p0.num), .slice a2 n2 c2, .slice b2 m2 d2] 30)))
  replace T2 := Lib.hid (T2.out.later (below_alloc wv7 (.cells #[.bool (zneg p0.num), .slice a2 n2 c2, .slice b2 m2 d2] 30)))
  have G2 : Hid ((World.alloc (wv7.alloc (.cells #[.bool (zneg p0.num), .slice a2 n2 c2, .slice b2 m2 d2] 30)) (.cells #[.int .i64 0, .int .i64 0, .int .i64 0, .int .i64 0] 38)).heap[wv7.heap.size + 1]? = some (.cells #[.int .i64 0, .int .i64 0, .int .i64 0, .int .i64 0] 38 (0, 0))) := Lib.hid (by have h := blk_new (wv7.alloc (.cells #[.bool (zneg p0.num), .slice a2 n2 c2, .slice b2 m2 d2] 30)) #[.int .i64 0, .int .i64 0, .int .i64 0, .int .i64 0] 38; rw [blk_size] at h; exact h)
  replace HB := Lib.hid (below_then HB.out (below_alloc (wv7.alloc (.cells #[.bool (zneg p0.num), .slice a2 n2 c2, .slice b2 m2 d2] 30)) (.cells #[.int .i64 0, .int .i64 0, .int .i64 0, .int .i64 0] 38)))
  replace P1 := Lib.hid (blk_later P1.out (below_alloc (wv7.alloc (.cells #[.bool (zneg p0.num), .slice a2 n2 c2, .slice b2 m2 d2] 30)) (.cells #[.int .i64 0, .int .i64 0, .int .i64 0, .int .i64 0] 38)))
  replace P2 := Lib.hid (blk_later P2.out (below_alloc (wv7.alloc (.cells #[.bool (zneg p0.num), .slice a2 n2 c2, .slice b2 m2 d2] 30)) (.cells #[.int .i64 0, .int .i64 0, .int .i64 0, .int .i64 0] 38)))
  replace R1 := Lib.hid (R1.out.later (below_alloc (wv7.alloc (.cells #[.bool (zneg p0.num), .slice a2 n2 c2, .slice b2 m2 d2] 30)) (.cells #[.int .i64 0, .int .i64 0, .int .i64 0, .int .i64 0] 38)))
  replace T1 := Lib.hid (T1.out.later (below_alloc (wv7.alloc (.cells #[.bool (zneg p0.num), .slice a2 n2 c2, .slice b2 m2 d2] 30)) (.cells #[.int .i64 0, .int .i64 0, .int .i64 0, .int .i64 0] 38)))
  replace R2 := Lib.hid (R2.out.later (below_alloc (wv7.alloc (.cells #[.bool (zneg p0.num), .slice a2 n2 c2, .slice b2 m2 d2] 30)) (.cells #[.int .i64 0, .int .i64 0, .int .i64 0, .int .i64 0] 38)))
  replace T2 := Lib.hid (T2.out.later (below_alloc (wv7.alloc (.cells #[.bool (zneg p0.num), .slice a2 n2 c2, .slice b2 m2 d2] 30)) (.cells #[.int .i64 0, .int .i64 0, .int .i64 0, .int .i64 0] 38)))
  obtain ⟨vk0, vk1, vk2, vk3, vk4, vk5, vk6, vk7, vk8, vk9⟩ := fcells_3_3_4 P1.out P2.out G2.out
  go_wp2_with fail
  refine (fracSaid.same (frV (zneg p0.num) a2 n2 c2 b2 m2 d2) (frV (zneg p0.num) a1 n1 c1 b1 m1 d1) p0 p0 _ (Fr.right R2.out T2.out (by omega) (by omega)) (Fr.right R1.out T1.out (by omega) (by omega))).mono ?_
  rintro e wv8 ⟨rfl, b⟩
  clear vk0 vk1 vk2 vk3 vk4 vk5 vk6 vk7 vk8 vk9
  replace HB := Lib.hid (below_then HB.out b)
  replace P1 := Lib.hid (blk_later P1.out b)
  replace P2 := Lib.hid (blk_later P2.out b)
  replace G2 := Lib.hid (blk_later G2.out b)
  clear R2
  clear T2
  replace R1 := Lib.hid (R1.out.later b)
  replace T1 := Lib.hid (T1.out.later b)
  clear b
  rw [show decide (p0 = p0) = true from decide_eq_true rfl]
  go_wp2_with fail
  refine (HRL _).mono ?_
  rintro e wv9 ⟨a3, n3, c3, b3, m3, d3, rfl, h3, g3, b⟩
  replace HB := Lib.hid (below_then HB.out b)
  clear b
  have hN3 : n3 ≤ qlen q := (by rw [← h3.len]; exact qlen_num _)
  have hM3 : m3 ≤ qlen q := (by rw [← g3.len]; exact qlen_den _)
  have R3 := Lib.hid h3
  have T3 := Lib.hid g3
  clear h3 g3
  unfold frV
  have P3 : Hid ((World.alloc wv9 (.cells #[.bool (zneg q.num), .slice a3 n3 c3, .slice b3 m3 d3] 30)).heap[wv9.heap.size]? = some (.cells #[.bool (zneg q.num), .slice a3 n3 c3, .slice b3 m3 d3] 30 (0, 0))) := Lib.hid (blk_new wv9 _ _)
  replace HB := Lib.hid (below_then HB.out (below_alloc wv9 (.cells #[.bool (zneg q.num), .slice a3 n3 c3, .slice b3 m3 d3] 30)))
  replace R3 := Lib.hid (R3.out.later (below_alloc wv9 (.cells #[.bool (zneg q.num), .slice a3 n3 c3, .slice b3 m3 d3] 30)))
  replace T3 := Lib.hid (T3.out.later (below_alloc wv9 (.cells #[.bool (zneg q.num), .slice a3 n3 c3, .slice b3 m3 d3] 30)))
  have G3 : Hid ((World.alloc (wv9.alloc (.cells #[.bool (zneg q.num), .slice a3 n3 c3, .slice b3 m3 d3] 30)) (.cells #[.int .i64 0, .int .i64 0, .int .i64 0, .int .i64 0] 38)).heap[wv9.heap.size + 1]? = some (.cells #[.int .i64 0, .int .i64 0, .int .i64 0, .int .i64 0] 38 (0, 0))) := Lib.hid (by have h := blk_new (wv9.alloc (.cells #[.bool (zneg q.num), .slice a3 n3 c3, .slice b3 m3 d3] 30)) #[.int .i64 0, .int .i64 0, .int .i64 0, .int .i64 0] 38; rw [blk_size] at h; exact h)
  replace HB := Lib.hid (below_then HB.out (below_alloc (wv9.alloc (.cells #[.bool (zneg q.num), .slice a3 n3 c3, .slice b3 m3 d3] 30)) (.cells #[.int .i64 0, .int .i64 0, .int .i64 0, .int .i64 0] 38)))
  replace P3 := Lib.hid (blk_later P3.out (below_alloc (wv9.alloc (.cells #[.bool (zneg q.num), .slice a3 n3 c3, .slice b3 m3 d3] 30)) (.cells #[.int .i64 0, .int .i64 0, .int .i64 0, .int .i64 0] 38)))
  replace R3 := Lib.hid (R3.out.later (below_alloc (wv9.alloc (.cells #[.bool (zneg q.num), .slice a3 n3 c3, .slice b3 m3 d3] 30)) (.cells #[.int .i64 0, .int .i64 0, .int .i64 0, .int .i64 0] 38)))
  replace T3 := Lib.hid (T3.out.later (below_alloc (wv9.alloc (.cells #[.bool (zneg q.num), .slice a3 n3 c3, .slice b3 m3 d3] 30)) (.cells #[.int .i64 0, .int .i64 0, .int .i64 0, .int .i64 0] 38)))
  obtain ⟨vk0, vk1, vk2, vk3, vk4, vk5, vk6⟩ := fcells_3_4 P3.out G3.out
  go_wp2_with fail
  refine (digitsSaid.len a3 n3 c3 _ _ R3.out (by omega) (Lib.hid (hT.out.later HB.out))).mono ?_
  rintro e wv10 ⟨rfl, b⟩
  clear vk0 vk1 vk2 vk3 vk4 vk5 vk6
  replace HB := Lib.hid (below_then HB.out b)
  replace P3 := Lib.hid (blk_later P3.out b)
  replace G3 := Lib.hid (blk_later G3.out b)
  replace R3 := Lib.hid (R3.out.later b)
  replace T3 := Lib.hid (T3.out.later b)
  clear b
  rw [HV3.out]
  obtain ⟨vk0, vk1, vk2, vk3, vk4, vk5, vk6⟩ := fcells_3_4 P3.out G3.out
  go_wp2_with fail
  refine (digitsSaid.len b3 m3 d3 _ _ T3.out (by omega) (Lib.hid (hT.out.later HB.out))).mono ?_
  rintro e wv11 ⟨rfl, b⟩
  clear vk0 vk1 vk2 vk3 vk4 vk5 vk6
  replace HB := Lib.hid (below_then HB.out b)
  replace P3 := Lib.hid (blk_later P3.out b)
  replace G3 := Lib.hid (blk_later G3.out b)
  replace R3 := Lib.hid (R3.out.later b)
  replace T3 := Lib.hid (T3.out.later b)
  clear b
  rw [HV4.out]
  obtain ⟨vk0, vk1, vk2, vk3, vk4, vk5, vk6⟩ := fcells_3_4 P3.out G3.out
  go_wp2_with fail
  refine (law10_works S _ (Lib.hid (hT.out.later HB.out))).mono ?_
  rintro e wv12 ⟨rfl, b⟩
  clear vk0 vk1 vk2 vk3 vk4 vk5 vk6
  replace HB := Lib.hid (below_then HB.out b)
  replace P3 := Lib.hid (blk_later P3.out b)
  replace G3 := Lib.hid (blk_later G3.out b)
  replace R3 := Lib.hid (R3.out.later b)
  replace T3 := Lib.hid (T3.out.later b)
  clear b
  go_wp2
  go_ret
  exact ⟨rfl, HB.out⟩
set_option maxRecDepth 4096 in
set_option maxHeartbeats 16000000 in
theorem law10_back_good_both (S : FigureSaid) (s0 : Bool) (a0 : Option Addr) (n0 c0 : Nat) (la0 : List Nat) (b0 : Option Addr) (m0 d0 : Nat) (lb0 : List Nat) (l : List UInt8) (w : World) (ha0 : Wd w a0 n0 c0 la0) (hb0 : Wd w b0 m0 d0 lb0) (hT : Hid (Dec10 w)) (hn0 : n0 ≤ 6) (hm0 : m0 ≤ 6) (hl : l.length ≤ 200) (p0 : Rat) (hp0 : qval s0 (val la0) (val lb0) = p0) (hb1 : (txt p0.num.natAbs).length ≤ 60) (hb2 : (txt p0.den).length ≤ 60) (hk : figKind l = 0) (hg1 : ¬ 60 < (txt (figVal l).num.natAbs).length) (hg2 : ¬ 60 < (txt (figVal l).den).length) :
    Calls Tryz.prog 5 #[frV s0 a0 n0 c0 b0 m0 d0, .string (bs l)] w (Gives (.bool true) w) := by
  have HB := Lib.hid (below_alloc w (.cells #[.bool s0, .slice a0 n0 c0, .slice b0 m0 d0] 24))
  have A0 := Lib.hid (ha0.later HB.out)
  have B0 := Lib.hid (hb0.later HB.out)
  have X0 := Lib.hid (blk_new w #[.bool s0, .slice a0 n0 c0, .slice b0 m0 d0] 24)
  have lp0 : qlen p0 ≤ 7 := (Fr.of ha0 hb0 hn0 hm0 hp0).len
  have EQ0 := Lib.hid hp0
  have hl0 : (decide ((6 : Int) < (n0 : Int)) || decide ((6 : Int) < (m0 : Int))) = false := by rw [decide_eq_false (by omega), decide_eq_false (by omega)]; rfl
  clear ha0 hb0 hp0
  have hs := bs_size l
  have h200 : ¬ (200 : Int) < (l.length : Int) := by omega
  have HV1 : Hid (val (dg p0.num.natAbs) = p0.num.natAbs) := Lib.hid (val_dg _)
  have HV2 : Hid (val (dg p0.den) = p0.den) := Lib.hid (val_dg _)
  have hf0 := fig_back hb1 hb2
  have HRF : ∀ w' : World, Calls Tryz.prog 15 #[.string (bs (ftxt p0))] w' (LstQV p0 (faultV 0 0 0 0) w') := fun w' => by
    have h := S.read (ftxt p0) w' (ftxt_length hb1 hb2)
    rw [hf0.1, hf0.2.1, hf0.2.2] at h
    exact h
  clear hf0
  unfold faultV at HRF
  obtain ⟨q, hq⟩ : ∃ q, figVal l = q := ⟨_, rfl⟩
  have lq : qlen q ≤ 40 := by rw [← hq]; exact figVal_len
  have hkd := hk
  have hpl := fig_good hk
  rw [hq] at hg1 hg2
  have HV3 : Hid (val (dg q.num.natAbs) = q.num.natAbs) := Lib.hid (val_dg _)
  have HV4 : Hid (val (dg q.den) = q.den) := Lib.hid (val_dg _)
  have hf1 := fig_back (q := q) (by omega) (by omega)
  have HRG : ∀ w' : World, Calls Tryz.prog 15 #[.string (bs (ftxt q))] w' (LstQV q (faultV 0 0 0 0) w') := fun w' => by
    have h := S.read (ftxt q) w' (ftxt_length (by omega) (by omega))
    rw [hf1.1, hf1.2.1, hf1.2.2] at h
    exact h
  clear hf1
  unfold faultV at HRG
  have HRL : ∀ w' : World, Calls Tryz.prog 15 #[.string (bs l)] w' (LstQV q (faultV 0 0 0 0) w') := fun w' => by
    have h := S.read l w' (by omega)
    rw [hq, hkd, hpl] at h
    exact h
  unfold faultV at HRL
  clear hq hkd hpl hk
  have j1 : (((txt p0.num.natAbs).length : Nat) : Int) ≤ 60 := by omega
  have j2 : (((txt p0.den).length : Nat) : Int) ≤ 60 := by omega
  have j3 : ¬ (60 : Int) < (((txt q.num.natAbs).length : Nat) : Int) := by omega
  have j4 : ¬ (60 : Int) < (((txt q.den).length : Nat) : Int) := by omega
  go_enter Tryz.func5, Tryz.ntmps5
  unfold frV
  obtain ⟨vk0, vk1, vk2⟩ := fcells_3 X0.out
  go_wp2_with fail
  refine (ref09_long s0 a0 n0 c0 b0 m0 d0 6 _).mono ?_
  rintro e wv1 ⟨rfl, b⟩
  clear vk0 vk1 vk2
  replace HB := Lib.hid (below_then HB.out b)
  replace X0 := Lib.hid (blk_later X0.out b)
  replace A0 := Lib.hid (A0.out.later b)
  replace B0 := Lib.hid (B0.out.later b)
  clear b
  rw [hl0]
  obtain ⟨vk0, vk1, vk2⟩ := fcells_3 X0.out
  go_wp2_with fail
  refine (law09_to s0 a0 n0 c0 b0 m0 d0 _).mono ?_
  rintro e wv2 ⟨rfl, b⟩
  clear vk0 vk1 vk2
  replace HB := Lib.hid (below_then HB.out b)
  replace X0 := Lib.hid (blk_later X0.out b)
  replace A0 := Lib.hid (A0.out.later b)
  replace B0 := Lib.hid (B0.out.later b)
  clear b
  go_wp2_with fail
  refine (fracSaid.norm (frV s0 a0 n0 c0 b0 m0 d0) p0 _ (Fr.of A0.out B0.out (by omega) (by omega) EQ0.out)).mono ?_
  rintro e wv3 ⟨a1, n1, c1, b1, m1, d1, rfl, h1, g1, b⟩
  replace HB := Lib.hid (below_then HB.out b)
  clear A0
  clear B0
  clear b
  have hN1 : n1 ≤ qlen p0 := (by rw [← h1.len]; exact qlen_num _)
  have hM1 : m1 ≤ qlen p0 := (by rw [← g1.len]; exact qlen_den _)
  have R1 := Lib.hid h1
  have T1 := Lib.hid g1
  clear h1 g1
  unfold frV
  have P1 : Hid ((World.alloc wv3 (.cells #[.bool (zneg p0.num), .slice a1 n1 c1, .slice b1 m1 d1] 30)).heap[wv3.heap.size]? = some (.cells #[.bool (zneg p0.num), .slice a1 n1 c1, .slice b1 m1 d1] 30 (0, 0))) := Lib.hid (blk_new wv3 _ _)
  replace HB := Lib.hid (below_then HB.out (below_alloc wv3 (.cells #[.bool (zneg p0.num), .slice a1 n1 c1, .slice b1 m1 d1] 30)))
  replace R1 := Lib.hid (R1.out.later (below_alloc wv3 (.cells #[.bool (zneg p0.num), .slice a1 n1 c1, .slice b1 m1 d1] 30)))
  replace T1 := Lib.hid (T1.out.later (below_alloc wv3 (.cells #[.bool (zneg p0.num), .slice a1 n1 c1, .slice b1 m1 d1] 30)))
  obtain ⟨vk0, vk1, vk2⟩ := fcells_3 P1.out
  go_wp2_with fail
  refine (digitsSaid.len a1 n1 c1 _ _ R1.out (by omega) (Lib.hid (hT.out.later HB.out))).mono ?_
  rintro e wv4 ⟨rfl, b⟩
  clear vk0 vk1 vk2
  replace HB := Lib.hid (below_then HB.out b)
  replace P1 := Lib.hid (blk_later P1.out b)
  replace R1 := Lib.hid (R1.out.later b)
  replace T1 := Lib.hid (T1.out.later b)
  clear b
  rw [HV1.out]
  obtain ⟨vk0, vk1, vk2⟩ := fcells_3 P1.out
  go_wp2_with fail
  refine (digitsSaid.len b1 m1 d1 _ _ T1.out (by omega) (Lib.hid (hT.out.later HB.out))).mono ?_
  rintro e wv5 ⟨rfl, b⟩
  clear vk0 vk1 vk2
  replace HB := Lib.hid (below_then HB.out b)
  replace P1 := Lib.hid (blk_later P1.out b)
  replace R1 := Lib.hid (R1.out.later b)
  replace T1 := Lib.hid (T1.out.later b)
  clear b
  rw [HV2.out]
  obtain ⟨vk0, vk1, vk2⟩ := fcells_3 P1.out
  go_wp2_with fail
  refine (S.text (frV (zneg p0.num) a1 n1 c1 b1 m1 d1) p0 _ (Fr.right R1.out T1.out (by omega) (by omega)) (Lib.hid (hT.out.later HB.out))).mono ?_
  rintro e wv6 ⟨rfl, b⟩
  clear vk0 vk1 vk2
  replace HB := Lib.hid (below_then HB.out b)
  replace P1 := Lib.hid (blk_later P1.out b)
  replace R1 := Lib.hid (R1.out.later b)
  replace T1 := Lib.hid (T1.out.later b)
  clear b
  obtain ⟨vk0, vk1, vk2⟩ := fcells_3 P1.out
  go_wp2_with fail
  refine (HRF _).mono ?_
  rintro e wv7 ⟨a2, n2, c2, b2, m2, d2, rfl, h2, g2, b⟩
  clear vk0 vk1 vk2
  replace HB := Lib.hid (below_then HB.out b)
  replace P1 := Lib.hid (blk_later P1.out b)
  replace R1 := Lib.hid (R1.out.later b)
  replace T1 := Lib.hid (T1.out.later b)
  clear b
  have hN2 : n2 ≤ qlen p0 := (by rw [← h2.len]; exact qlen_num _)
  have hM2 : m2 ≤ qlen p0 := (by rw [← g2.len]; exact qlen_den _)
  have R2 := Lib.hid h2
  have T2 := Lib.hid g2
  clear h2 g2
  unfold frV
  have P2 : Hid ((World.alloc wv7 (.cells #[.bool (zneg p0.num), .slice a2 n2 c2, .slice b2 m2 d2] 30)).heap[wv7.heap.size]? = some (.cells #[.bool (zneg p0.num), .slice a2 n2 c2, .slice b2 m2 d2] 30 (0, 0))) := Lib.hid (blk_new wv7 _ _)
  replace HB := Lib.hid (below_then HB.out (below_alloc wv7 (.cells #[.bool (zneg p0.num), .slice a2 n2 c2, .slice b2 m2 d2] 30)))
  replace P1 := Lib.hid (blk_later P1.out (below_alloc wv7 (.cells #[.bool (zneg p0.num), .slice a2 n2 c2, .slice b2 m2 d2] 30)))
  replace R1 := Lib.hid (R1.out.later (below_alloc wv7 (.cells #[.bool (zneg p0.num), .slice a2 n2 c2, .slice b2 m2 d2] 30)))
  replace T1 := Lib.hid (T1.out.later (below_alloc wv7 (.cells #[.bool (zneg p0.num), .slice a2 n2 c2, .slice b2 m2 d2] 30)))
  replace R2 := Lib.hid (R2.out.later (below_alloc wv7 (.cells #[.bool (zneg p0.num), .slice a2 n2 c2, .slice b2 m2 d2] 30)))
  replace T2 := Lib.hid (T2.out.later (below_alloc wv7 (.cells #[.bool (zneg p0.num), .slice a2 n2 c2, .slice b2 m2 d2] 30)))
  have G2 : Hid ((World.alloc (wv7.alloc (.cells #[.bool (zneg p0.num), .slice a2 n2 c2, .slice b2 m2 d2] 30)) (.cells #[.int .i64 0, .int .i64 0, .int .i64 0, .int .i64 0] 38)).heap[wv7.heap.size + 1]? = some (.cells #[.int .i64 0, .int .i64 0, .int .i64 0, .int .i64 0] 38 (0, 0))) := Lib.hid (by have h := blk_new (wv7.alloc (.cells #[.bool (zneg p0.num), .slice a2 n2 c2, .slice b2 m2 d2] 30)) #[.int .i64 0, .int .i64 0, .int .i64 0, .int .i64 0] 38; rw [blk_size] at h; exact h)
  replace HB := Lib.hid (below_then HB.out (below_alloc (wv7.alloc (.cells #[.bool (zneg p0.num), .slice a2 n2 c2, .slice b2 m2 d2] 30)) (.cells #[.int .i64 0, .int .i64 0, .int .i64 0, .int .i64 0] 38)))
  replace P1 := Lib.hid (blk_later P1.out (below_alloc (wv7.alloc (.cells #[.bool (zneg p0.num), .slice a2 n2 c2, .slice b2 m2 d2] 30)) (.cells #[.int .i64 0, .int .i64 0, .int .i64 0, .int .i64 0] 38)))
  replace P2 := Lib.hid (blk_later P2.out (below_alloc (wv7.alloc (.cells #[.bool (zneg p0.num), .slice a2 n2 c2, .slice b2 m2 d2] 30)) (.cells #[.int .i64 0, .int .i64 0, .int .i64 0, .int .i64 0] 38)))
  replace R1 := Lib.hid (R1.out.later (below_alloc (wv7.alloc (.cells #[.bool (zneg p0.num), .slice a2 n2 c2, .slice b2 m2 d2] 30)) (.cells #[.int .i64 0, .int .i64 0, .int .i64 0, .int .i64 0] 38)))
  replace T1 := Lib.hid (T1.out.later (below_alloc (wv7.alloc (.cells #[.bool (zneg p0.num), .slice a2 n2 c2, .slice b2 m2 d2] 30)) (.cells #[.int .i64 0, .int .i64 0, .int .i64 0, .int .i64 0] 38)))
  replace R2 := Lib.hid (R2.out.later (below_alloc (wv7.alloc (.cells #[.bool (zneg p0.num), .slice a2 n2 c2, .slice b2 m2 d2] 30)) (.cells #[.int .i64 0, .int .i64 0, .int .i64 0, .int .i64 0] 38)))
  replace T2 := Lib.hid (T2.out.later (below_alloc (wv7.alloc (.cells #[.bool (zneg p0.num), .slice a2 n2 c2, .slice b2 m2 d2] 30)) (.cells #[.int .i64 0, .int .i64 0, .int .i64 0, .int .i64 0] 38)))
  obtain ⟨vk0, vk1, vk2, vk3, vk4, vk5, vk6, vk7, vk8, vk9⟩ := fcells_3_3_4 P1.out P2.out G2.out
  go_wp2_with fail
  refine (fracSaid.same (frV (zneg p0.num) a2 n2 c2 b2 m2 d2) (frV (zneg p0.num) a1 n1 c1 b1 m1 d1) p0 p0 _ (Fr.right R2.out T2.out (by omega) (by omega)) (Fr.right R1.out T1.out (by omega) (by omega))).mono ?_
  rintro e wv8 ⟨rfl, b⟩
  clear vk0 vk1 vk2 vk3 vk4 vk5 vk6 vk7 vk8 vk9
  replace HB := Lib.hid (below_then HB.out b)
  replace P1 := Lib.hid (blk_later P1.out b)
  replace P2 := Lib.hid (blk_later P2.out b)
  replace G2 := Lib.hid (blk_later G2.out b)
  clear R2
  clear T2
  replace R1 := Lib.hid (R1.out.later b)
  replace T1 := Lib.hid (T1.out.later b)
  clear b
  rw [show decide (p0 = p0) = true from decide_eq_true rfl]
  go_wp2_with fail
  refine (HRL _).mono ?_
  rintro e wv9 ⟨a3, n3, c3, b3, m3, d3, rfl, h3, g3, b⟩
  replace HB := Lib.hid (below_then HB.out b)
  clear b
  have hN3 : n3 ≤ qlen q := (by rw [← h3.len]; exact qlen_num _)
  have hM3 : m3 ≤ qlen q := (by rw [← g3.len]; exact qlen_den _)
  have R3 := Lib.hid h3
  have T3 := Lib.hid g3
  clear h3 g3
  unfold frV
  have P3 : Hid ((World.alloc wv9 (.cells #[.bool (zneg q.num), .slice a3 n3 c3, .slice b3 m3 d3] 30)).heap[wv9.heap.size]? = some (.cells #[.bool (zneg q.num), .slice a3 n3 c3, .slice b3 m3 d3] 30 (0, 0))) := Lib.hid (blk_new wv9 _ _)
  replace HB := Lib.hid (below_then HB.out (below_alloc wv9 (.cells #[.bool (zneg q.num), .slice a3 n3 c3, .slice b3 m3 d3] 30)))
  replace R3 := Lib.hid (R3.out.later (below_alloc wv9 (.cells #[.bool (zneg q.num), .slice a3 n3 c3, .slice b3 m3 d3] 30)))
  replace T3 := Lib.hid (T3.out.later (below_alloc wv9 (.cells #[.bool (zneg q.num), .slice a3 n3 c3, .slice b3 m3 d3] 30)))
  have G3 : Hid ((World.alloc (wv9.alloc (.cells #[.bool (zneg q.num), .slice a3 n3 c3, .slice b3 m3 d3] 30)) (.cells #[.int .i64 0, .int .i64 0, .int .i64 0, .int .i64 0] 38)).heap[wv9.heap.size + 1]? = some (.cells #[.int .i64 0, .int .i64 0, .int .i64 0, .int .i64 0] 38 (0, 0))) := Lib.hid (by have h := blk_new (wv9.alloc (.cells #[.bool (zneg q.num), .slice a3 n3 c3, .slice b3 m3 d3] 30)) #[.int .i64 0, .int .i64 0, .int .i64 0, .int .i64 0] 38; rw [blk_size] at h; exact h)
  replace HB := Lib.hid (below_then HB.out (below_alloc (wv9.alloc (.cells #[.bool (zneg q.num), .slice a3 n3 c3, .slice b3 m3 d3] 30)) (.cells #[.int .i64 0, .int .i64 0, .int .i64 0, .int .i64 0] 38)))
  replace P3 := Lib.hid (blk_later P3.out (below_alloc (wv9.alloc (.cells #[.bool (zneg q.num), .slice a3 n3 c3, .slice b3 m3 d3] 30)) (.cells #[.int .i64 0, .int .i64 0, .int .i64 0, .int .i64 0] 38)))
  replace R3 := Lib.hid (R3.out.later (below_alloc (wv9.alloc (.cells #[.bool (zneg q.num), .slice a3 n3 c3, .slice b3 m3 d3] 30)) (.cells #[.int .i64 0, .int .i64 0, .int .i64 0, .int .i64 0] 38)))
  replace T3 := Lib.hid (T3.out.later (below_alloc (wv9.alloc (.cells #[.bool (zneg q.num), .slice a3 n3 c3, .slice b3 m3 d3] 30)) (.cells #[.int .i64 0, .int .i64 0, .int .i64 0, .int .i64 0] 38)))
  obtain ⟨vk0, vk1, vk2, vk3, vk4, vk5, vk6⟩ := fcells_3_4 P3.out G3.out
  go_wp2_with fail
  refine (digitsSaid.len a3 n3 c3 _ _ R3.out (by omega) (Lib.hid (hT.out.later HB.out))).mono ?_
  rintro e wv10 ⟨rfl, b⟩
  clear vk0 vk1 vk2 vk3 vk4 vk5 vk6
  replace HB := Lib.hid (below_then HB.out b)
  replace P3 := Lib.hid (blk_later P3.out b)
  replace G3 := Lib.hid (blk_later G3.out b)
  replace R3 := Lib.hid (R3.out.later b)
  replace T3 := Lib.hid (T3.out.later b)
  clear b
  rw [HV3.out]
  obtain ⟨vk0, vk1, vk2, vk3, vk4, vk5, vk6⟩ := fcells_3_4 P3.out G3.out
  go_wp2_with fail
  refine (digitsSaid.len b3 m3 d3 _ _ T3.out (by omega) (Lib.hid (hT.out.later HB.out))).mono ?_
  rintro e wv11 ⟨rfl, b⟩
  clear vk0 vk1 vk2 vk3 vk4 vk5 vk6
  replace HB := Lib.hid (below_then HB.out b)
  replace P3 := Lib.hid (blk_later P3.out b)
  replace G3 := Lib.hid (blk_later G3.out b)
  replace R3 := Lib.hid (R3.out.later b)
  replace T3 := Lib.hid (T3.out.later b)
  clear b
  rw [HV4.out]
  obtain ⟨vk0, vk1, vk2, vk3, vk4, vk5, vk6⟩ := fcells_3_4 P3.out G3.out
  go_wp2_with fail
  refine (S.text (frV (zneg q.num) a3 n3 c3 b3 m3 d3) q _ (Fr.right R3.out T3.out (by omega) (by omega)) (Lib.hid (hT.out.later HB.out))).mono ?_
  rintro e wv12 ⟨rfl, b⟩
  clear vk0 vk1 vk2 vk3 vk4 vk5 vk6
  replace HB := Lib.hid (below_then HB.out b)
  replace P3 := Lib.hid (blk_later P3.out b)
  replace G3 := Lib.hid (blk_later G3.out b)
  replace R3 := Lib.hid (R3.out.later b)
  replace T3 := Lib.hid (T3.out.later b)
  clear b
  obtain ⟨vk0, vk1, vk2, vk3, vk4, vk5, vk6⟩ := fcells_3_4 P3.out G3.out
  go_wp2_with fail
  refine (HRG _).mono ?_
  rintro e wv13 ⟨a4, n4, c4, b4, m4, d4, rfl, h4, g4, b⟩
  clear vk0 vk1 vk2 vk3 vk4 vk5 vk6
  replace HB := Lib.hid (below_then HB.out b)
  replace P3 := Lib.hid (blk_later P3.out b)
  replace G3 := Lib.hid (blk_later G3.out b)
  replace R3 := Lib.hid (R3.out.later b)
  replace T3 := Lib.hid (T3.out.later b)
  clear b
  have hN4 : n4 ≤ qlen q := (by rw [← h4.len]; exact qlen_num _)
  have hM4 : m4 ≤ qlen q := (by rw [← g4.len]; exact qlen_den _)
  have R4 := Lib.hid h4
  have T4 := Lib.hid g4
  clear h4 g4
  unfold frV
  have P4 : Hid ((World.alloc wv13 (.cells #[.bool (zneg q.num), .slice a4 n4 c4, .slice b4 m4 d4] 30)).heap[wv13.heap.size]? = some (.cells #[.bool (zneg q.num), .slice a4 n4 c4, .slice b4 m4 d4] 30 (0, 0))) := Lib.hid (blk_new wv13 _ _)
  replace HB := Lib.hid (below_then HB.out (below_alloc wv13 (.cells #[.bool (zneg q.num), .slice a4 n4 c4, .slice b4 m4 d4] 30)))
  replace P3 := Lib.hid (blk_later P3.out (below_alloc wv13 (.cells #[.bool (zneg q.num), .slice a4 n4 c4, .slice b4 m4 d4] 30)))
  replace G3 := Lib.hid (blk_later G3.out (below_alloc wv13 (.cells #[.bool (zneg q.num), .slice a4 n4 c4, .slice b4 m4 d4] 30)))
  replace R3 := Lib.hid (R3.out.later (below_alloc wv13 (.cells #[.bool (zneg q.num), .slice a4 n4 c4, .slice b4 m4 d4] 30)))
  replace T3 := Lib.hid (T3.out.later (below_alloc wv13 (.cells #[.bool (zneg q.num), .slice a4 n4 c4, .slice b4 m4 d4] 30)))
  replace R4 := Lib.hid (R4.out.later (below_alloc wv13 (.cells #[.bool (zneg q.num), .slice a4 n4 c4, .slice b4 m4 d4] 30)))
  replace T4 := Lib.hid (T4.out.later (below_alloc wv13 (.cells #[.bool (zneg q.num), .slice a4 n4 c4, .slice b4 m4 d4] 30)))
  have G4 : Hid ((World.alloc (wv13.alloc (.cells #[.bool (zneg q.num), .slice a4 n4 c4, .slice b4 m4 d4] 30)) (.cells #[.int .i64 0, .int .i64 0, .int .i64 0, .int .i64 0] 38)).heap[wv13.heap.size + 1]? = some (.cells #[.int .i64 0, .int .i64 0, .int .i64 0, .int .i64 0] 38 (0, 0))) := Lib.hid (by have h := blk_new (wv13.alloc (.cells #[.bool (zneg q.num), .slice a4 n4 c4, .slice b4 m4 d4] 30)) #[.int .i64 0, .int .i64 0, .int .i64 0, .int .i64 0] 38; rw [blk_size] at h; exact h)
  replace HB := Lib.hid (below_then HB.out (below_alloc (wv13.alloc (.cells #[.bool (zneg q.num), .slice a4 n4 c4, .slice b4 m4 d4] 30)) (.cells #[.int .i64 0, .int .i64 0, .int .i64 0, .int .i64 0] 38)))
  replace P3 := Lib.hid (blk_later P3.out (below_alloc (wv13.alloc (.cells #[.bool (zneg q.num), .slice a4 n4 c4, .slice b4 m4 d4] 30)) (.cells #[.int .i64 0, .int .i64 0, .int .i64 0, .int .i64 0] 38)))
  replace G3 := Lib.hid (blk_later G3.out (below_alloc (wv13.alloc (.cells #[.bool (zneg q.num), .slice a4 n4 c4, .slice b4 m4 d4] 30)) (.cells #[.int .i64 0, .int .i64 0, .int .i64 0, .int .i64 0] 38)))
  replace P4 := Lib.hid (blk_later P4.out (below_alloc (wv13.alloc (.cells #[.bool (zneg q.num), .slice a4 n4 c4, .slice b4 m4 d4] 30)) (.cells #[.int .i64 0, .int .i64 0, .int .i64 0, .int .i64 0] 38)))
  replace R3 := Lib.hid (R3.out.later (below_alloc (wv13.alloc (.cells #[.bool (zneg q.num), .slice a4 n4 c4, .slice b4 m4 d4] 30)) (.cells #[.int .i64 0, .int .i64 0, .int .i64 0, .int .i64 0] 38)))
  replace T3 := Lib.hid (T3.out.later (below_alloc (wv13.alloc (.cells #[.bool (zneg q.num), .slice a4 n4 c4, .slice b4 m4 d4] 30)) (.cells #[.int .i64 0, .int .i64 0, .int .i64 0, .int .i64 0] 38)))
  replace R4 := Lib.hid (R4.out.later (below_alloc (wv13.alloc (.cells #[.bool (zneg q.num), .slice a4 n4 c4, .slice b4 m4 d4] 30)) (.cells #[.int .i64 0, .int .i64 0, .int .i64 0, .int .i64 0] 38)))
  replace T4 := Lib.hid (T4.out.later (below_alloc (wv13.alloc (.cells #[.bool (zneg q.num), .slice a4 n4 c4, .slice b4 m4 d4] 30)) (.cells #[.int .i64 0, .int .i64 0, .int .i64 0, .int .i64 0] 38)))
  obtain ⟨vk0, vk1, vk2, vk3, vk4, vk5, vk6, vk7, vk8, vk9⟩ := fcells_3_3_4 P3.out P4.out G4.out
  go_wp2_with fail
  refine (fracSaid.same (frV (zneg q.num) a3 n3 c3 b3 m3 d3) (frV (zneg q.num) a4 n4 c4 b4 m4 d4) q q _ (Fr.right R3.out T3.out (by omega) (by omega)) (Fr.right R4.out T4.out (by omega) (by omega))).mono ?_
  rintro e wv14 ⟨rfl, b⟩
  clear vk0 vk1 vk2 vk3 vk4 vk5 vk6 vk7 vk8 vk9
  replace HB := Lib.hid (below_then HB.out b)
  replace P3 := Lib.hid (blk_later P3.out b)
  replace P4 := Lib.hid (blk_later P4.out b)
  replace G4 := Lib.hid (blk_later G4.out b)
  replace R3 := Lib.hid (R3.out.later b)
  replace T3 := Lib.hid (T3.out.later b)
  replace R4 := Lib.hid (R4.out.later b)
  replace T4 := Lib.hid (T4.out.later b)
  clear b
  rw [show decide (q = q) = true from decide_eq_true rfl]
  obtain ⟨vk0, vk1, vk2, vk3, vk4, vk5, vk6, vk7, vk8, vk9⟩ := fcells_3_3_4 P3.out P4.out G4.out
  go_wp2_with fail
  refine (law10_works S _ (Lib.hid (hT.out.later HB.out))).mono ?_
  rintro e wv15 ⟨rfl, b⟩
  clear vk0 vk1 vk2 vk3 vk4 vk5 vk6 vk7 vk8 vk9
  replace HB := Lib.hid (below_then HB.out b)
  replace P3 := Lib.hid (blk_later P3.out b)
  replace P4 := Lib.hid (blk_later P4.out b)
  replace G4 := Lib.hid (blk_later G4.out b)
  replace R3 := Lib.hid (R3.out.later b)
  replace T3 := Lib.hid (T3.out.later b)
  replace R4 := Lib.hid (R4.out.later b)
  replace T4 := Lib.hid (T4.out.later b)
  clear b
  go_wp2
  go_ret
  exact ⟨rfl, HB.out⟩
end Go.Proofs.YteoeicfbaffjcaaGreatDoor
