/-
  The walks of the laws of layer 10: FigureWrites.
-/
import Derived.Test.YteoeicfbaffjcaaGreatDoorG22
import Derived.Deep.RegionHeld3
namespace Go.Proofs.YteoeicfbaffjcaaGreatDoor
open Go.RowKit

set_option maxRecDepth 4096 in
set_option maxHeartbeats 16000000 in
theorem law10_writes_long (S : FigureSaid) (s0 : Bool) (a0 : Option Addr) (n0 c0 : Nat) (b0 : Option Addr) (m0 d0 : Nat) (p : Int) (w : World) (hT : Hid (Dec10 w)) (h0 : 20 < n0 ∨ 20 < m0) :
    Calls Tryz.prog 3 #[frV s0 a0 n0 c0 b0 m0 d0, .int .i64 p] w (Gives (.bool true) w) := by
  have HB := Lib.hid (below_alloc w (.cells #[.bool s0, .slice a0 n0 c0, .slice b0 m0 d0] 24))
  have X0 := Lib.hid (blk_new w #[.bool s0, .slice a0 n0 c0, .slice b0 m0 d0] 24)
  have hl0 : (decide ((20 : Int) < (n0 : Int)) || decide ((20 : Int) < (m0 : Int))) = true := by
    rcases h0 with h | h
    · rw [decide_eq_true (show (20 : Int) < (n0 : Int) by omega)]; rfl
    · rw [decide_eq_true (show (20 : Int) < (m0 : Int) by omega), Bool.or_true]
  clear h0
  go_enter Tryz.func3, Tryz.ntmps3
  unfold frV
  obtain ⟨vk0, vk1, vk2⟩ := fcells_3 X0.out
  go_wp2_with fail
  refine (ref09_long s0 a0 n0 c0 b0 m0 d0 20 _).mono ?_
  rintro e wv1 ⟨rfl, b⟩
  clear vk0 vk1 vk2
  replace HB := Lib.hid (below_then HB.out b)
  replace X0 := Lib.hid (blk_later X0.out b)
  clear b
  rw [hl0]
  obtain ⟨vk0, vk1, vk2⟩ := fcells_3 X0.out
  go_wp2_with fail
  refine (law10_works S _ (Lib.hid (hT.out.later HB.out))).mono ?_
  rintro e wv2 ⟨rfl, b⟩
  clear vk0 vk1 vk2
  replace HB := Lib.hid (below_then HB.out b)
  replace X0 := Lib.hid (blk_later X0.out b)
  clear b
  go_wp2
  go_ret
  exact ⟨rfl, HB.out⟩
set_option maxRecDepth 4096 in
set_option maxHeartbeats 16000000 in
theorem law10_writes_short (S : FigureSaid) (s0 : Bool) (a0 : Option Addr) (n0 c0 : Nat) (la0 : List Nat) (b0 : Option Addr) (m0 d0 : Nat) (lb0 : List Nat) (p : Int) (w : World) (ha0 : Wd w a0 n0 c0 la0) (hb0 : Wd w b0 m0 d0 lb0) (hp : isInt p) (hT : Hid (Dec10 w)) (hn0 : n0 ≤ 20) (hm0 : m0 ≤ 20) :
    Calls Tryz.prog 3 #[frV s0 a0 n0 c0 b0 m0 d0, .int .i64 p] w (Gives (.bool true) w) := by
  have HB := Lib.hid (below_alloc w (.cells #[.bool s0, .slice a0 n0 c0, .slice b0 m0 d0] 24))
  have A0 := Lib.hid (ha0.later HB.out)
  have B0 := Lib.hid (hb0.later HB.out)
  have X0 := Lib.hid (blk_new w #[.bool s0, .slice a0 n0 c0, .slice b0 m0 d0] 24)
  obtain ⟨p0, hp0⟩ : ∃ p, qval s0 (val la0) (val lb0) = p := ⟨_, rfl⟩
  have lp0 : qlen p0 ≤ 21 := (Fr.of ha0 hb0 hn0 hm0 hp0).len
  have EQ0 := Lib.hid hp0
  have hl0 : (decide ((20 : Int) < (n0 : Int)) || decide ((20 : Int) < (m0 : Int))) = false := by rw [decide_eq_false (by omega), decide_eq_false (by omega)]; rfl
  clear ha0 hb0 hp0
  have HP := Lib.hid hp
  clear hp
  have q1 : ((bs (ftxt p0)).toList == (bs (ftxt p0)).toList) = true := by simp
  have q2 : ((bs (rtxt p0 (clampP p))).toList == (bs (rtxt p0 (clampP p))).toList) = true := by simp
  go_enter Tryz.func3, Tryz.ntmps3
  unfold frV
  obtain ⟨vk0, vk1, vk2⟩ := fcells_3 X0.out
  go_wp2_with fail
  refine (ref09_long s0 a0 n0 c0 b0 m0 d0 20 _).mono ?_
  rintro e wv1 ⟨rfl, b⟩
  clear vk0 vk1 vk2
  replace HB := Lib.hid (below_then HB.out b)
  replace X0 := Lib.hid (blk_later X0.out b)
  replace A0 := Lib.hid (A0.out.later b)
  replace B0 := Lib.hid (B0.out.later b)
  clear b
  rw [hl0]
  obtain ⟨vk0, vk1, vk2⟩ := fcells_3 X0.out
  go_wp2_with fail
  refine (law09_to s0 a0 n0 c0 b0 m0 d0 _).mono ?_
  rintro e wv2 ⟨rfl, b⟩
  clear vk0 vk1 vk2
  replace HB := Lib.hid (below_then HB.out b)
  replace X0 := Lib.hid (blk_later X0.out b)
  replace A0 := Lib.hid (A0.out.later b)
  replace B0 := Lib.hid (B0.out.later b)
  clear b
  unfold frV
  have P0 : Hid ((World.alloc wv2 (.cells #[.bool s0, .slice a0 n0 c0, .slice b0 m0 d0] 30)).heap[wv2.heap.size]? = some (.cells #[.bool s0, .slice a0 n0 c0, .slice b0 m0 d0] 30 (0, 0))) := Lib.hid (blk_new wv2 _ _)
  replace HB := Lib.hid (below_then HB.out (below_alloc wv2 (.cells #[.bool s0, .slice a0 n0 c0, .slice b0 m0 d0] 30)))
  replace X0 := Lib.hid (blk_later X0.out (below_alloc wv2 (.cells #[.bool s0, .slice a0 n0 c0, .slice b0 m0 d0] 30)))
  replace A0 := Lib.hid (A0.out.later (below_alloc wv2 (.cells #[.bool s0, .slice a0 n0 c0, .slice b0 m0 d0] 30)))
  replace B0 := Lib.hid (B0.out.later (below_alloc wv2 (.cells #[.bool s0, .slice a0 n0 c0, .slice b0 m0 d0] 30)))
  obtain ⟨vk0, vk1, vk2, vk3, vk4, vk5⟩ := fcells_3_3 X0.out P0.out
  go_wp2_with fail
  refine (ref09_norm s0 a0 n0 c0 la0 b0 m0 d0 lb0 _ A0.out B0.out (by omega) (by omega)).mono ?_
  rintro e wv3 ⟨a1, n1, c1, b1, m1, d1, rfl, h1, g1, b⟩
  clear vk0 vk1 vk2 vk3 vk4 vk5
  replace HB := Lib.hid (below_then HB.out b)
  replace X0 := Lib.hid (blk_later X0.out b)
  replace P0 := Lib.hid (blk_later P0.out b)
  replace A0 := Lib.hid (A0.out.later b)
  replace B0 := Lib.hid (B0.out.later b)
  clear b
  rw [EQ0.out] at h1 g1 ⊢
  have hN1 : n1 ≤ qlen p0 := (by rw [← h1.len]; exact qlen_num _)
  have hM1 : m1 ≤ qlen p0 := (by rw [← g1.len]; exact qlen_den _)
  have R1 := Lib.hid h1
  have T1 := Lib.hid g1
  clear h1 g1
  unfold frV
  have N0 : Hid ((World.alloc wv3 (.cells #[.bool (zneg p0.num), .slice a1 n1 c1, .slice b1 m1 d1] 24)).heap[wv3.heap.size]? = some (.cells #[.bool (zneg p0.num), .slice a1 n1 c1, .slice b1 m1 d1] 24 (0, 0))) := Lib.hid (blk_new wv3 _ _)
  replace HB := Lib.hid (below_then HB.out (below_alloc wv3 (.cells #[.bool (zneg p0.num), .slice a1 n1 c1, .slice b1 m1 d1] 24)))
  replace X0 := Lib.hid (blk_later X0.out (below_alloc wv3 (.cells #[.bool (zneg p0.num), .slice a1 n1 c1, .slice b1 m1 d1] 24)))
  replace P0 := Lib.hid (blk_later P0.out (below_alloc wv3 (.cells #[.bool (zneg p0.num), .slice a1 n1 c1, .slice b1 m1 d1] 24)))
  replace A0 := Lib.hid (A0.out.later (below_alloc wv3 (.cells #[.bool (zneg p0.num), .slice a1 n1 c1, .slice b1 m1 d1] 24)))
  replace B0 := Lib.hid (B0.out.later (below_alloc wv3 (.cells #[.bool (zneg p0.num), .slice a1 n1 c1, .slice b1 m1 d1] 24)))
  replace R1 := Lib.hid (R1.out.later (below_alloc wv3 (.cells #[.bool (zneg p0.num), .slice a1 n1 c1, .slice b1 m1 d1] 24)))
  replace T1 := Lib.hid (T1.out.later (below_alloc wv3 (.cells #[.bool (zneg p0.num), .slice a1 n1 c1, .slice b1 m1 d1] 24)))
  go_wp2
  generalize (wv3.alloc (.cells #[.bool (zneg p0.num), .slice a1 n1 c1, .slice b1 m1 d1] 24)) = W at *
  replace HB := Lib.hid (below_then HB.out ((Below.refl _ _).drew : Below W.heap.size W W.drew))
  replace P0 : Hid (W.drew.heap[wv2.heap.size]? = _) := Lib.hid P0.out
  replace N0 : Hid (W.drew.heap[wv3.heap.size]? = _) := Lib.hid N0.out
  replace A0 := Lib.hid (A0.out.later ((Below.refl _ _).drew : Below W.heap.size W W.drew))
  replace B0 := Lib.hid (B0.out.later ((Below.refl _ _).drew : Below W.heap.size W W.drew))
  replace R1 := Lib.hid (R1.out.later ((Below.refl _ _).drew : Below W.heap.size W W.drew))
  replace T1 := Lib.hid (T1.out.later ((Below.refl _ _).drew : Below W.heap.size W W.drew))
  have pSn := fcells_3_3 P0.out N0.out
  go_region_held3 (fun w' => w'.cell? ⟨wv2.heap.size, 0, none⟩ = some (.bool s0) ∧ w'.cell? ⟨wv2.heap.size, 1, none⟩ = some (.slice a0 n0 c0) ∧ w'.cell? ⟨wv2.heap.size, 2, none⟩ = some (.slice b0 m0 d0) ∧ w'.cell? ⟨wv3.heap.size, 0, none⟩ = some (.bool (zneg p0.num)) ∧ w'.cell? ⟨wv3.heap.size, 1, none⟩ = some (.slice a1 n1 c1) ∧ w'.cell? ⟨wv3.heap.size, 2, none⟩ = some (.slice b1 m1 d1)) (exact pSn)
    (first
    | (go_at_call 11; (first
      | (refine (S.text (frV s0 a0 n0 c0 b0 m0 d0) p0 _ (Fr.of A0.out B0.out (by omega) (by omega) EQ0.out) (Lib.hid (hT.out.later HB.out))).mono ?_; rintro e wp1 ⟨rfl, b⟩; replace HB := Lib.hid (below_then HB.out b); replace P0 := Lib.hid (blk_later P0.out b); replace N0 := Lib.hid (blk_later N0.out b); replace A0 := Lib.hid (A0.out.later b); replace B0 := Lib.hid (B0.out.later b); replace R1 := Lib.hid (R1.out.later b); replace T1 := Lib.hid (T1.out.later b); clear b; clear pSn; have pSn := fcells_3_3 P0.out N0.out; have pM1 := True.intro)))
    | (go_at_call 12; (first
      | (have pm1 := pM1; refine (ref10_text p0 a1 n1 c1 b1 m1 d1 _ R1.out T1.out (by omega) (by omega)).mono ?_; rintro e wp2 ⟨rfl, b⟩; replace HB := Lib.hid (below_then HB.out b); replace P0 := Lib.hid (blk_later P0.out b); replace N0 := Lib.hid (blk_later N0.out b); replace A0 := Lib.hid (A0.out.later b); replace B0 := Lib.hid (B0.out.later b); replace R1 := Lib.hid (R1.out.later b); replace T1 := Lib.hid (T1.out.later b); clear b; clear pSn; have pSn := fcells_3_3 P0.out N0.out; clear pM1 pm1; have pM2 := True.intro)))
    | (go_at_call 13; (first
      | (have pm2 := pM2; refine (S.round (frV s0 a0 n0 c0 b0 m0 d0) p0 p _ (Fr.of A0.out B0.out (by omega) (by omega) EQ0.out) HP.out (Lib.hid (hT.out.later HB.out))).mono ?_; rintro e wp3 ⟨rfl, b⟩; replace HB := Lib.hid (below_then HB.out b); replace P0 := Lib.hid (blk_later P0.out b); replace N0 := Lib.hid (blk_later N0.out b); replace A0 := Lib.hid (A0.out.later b); replace B0 := Lib.hid (B0.out.later b); replace R1 := Lib.hid (R1.out.later b); replace T1 := Lib.hid (T1.out.later b); clear b; clear pSn; have pSn := fcells_3_3 P0.out N0.out; clear pM2 pm2; have pM3 := True.intro)))
    | (go_at_call 14; (first
      | (have pm3 := pM3; refine (ref10_round p0 a1 n1 c1 b1 m1 d1 p _ R1.out T1.out (by omega) (by omega)).mono ?_; rintro e wp4 ⟨rfl, b⟩; replace HB := Lib.hid (below_then HB.out b); replace P0 := Lib.hid (blk_later P0.out b); replace N0 := Lib.hid (blk_later N0.out b); replace A0 := Lib.hid (A0.out.later b); replace B0 := Lib.hid (B0.out.later b); replace R1 := Lib.hid (R1.out.later b); replace T1 := Lib.hid (T1.out.later b); clear b; clear pSn; have pSn := fcells_3_3 P0.out N0.out; clear pM3 pm3; have pM4 := True.intro)))
    | (go_at_call 8; (first
      | (have pm4 := pM4; refine (law10_works S _ (Lib.hid (hT.out.later HB.out))).mono ?_; rintro e wp5 ⟨rfl, b⟩; replace HB := Lib.hid (below_then HB.out b); replace P0 := Lib.hid (blk_later P0.out b); replace N0 := Lib.hid (blk_later N0.out b); replace A0 := Lib.hid (A0.out.later b); replace B0 := Lib.hid (B0.out.later b); replace R1 := Lib.hid (R1.out.later b); replace T1 := Lib.hid (T1.out.later b); clear b; clear pSn; have pSn := fcells_3_3 P0.out N0.out; clear pM4 pm4; have pM5 := True.intro))))
  go_wp2
  go_ret
  exact ⟨rfl, HB.out⟩
theorem law10_writes (S : FigureSaid) (s0 : Bool) (a0 : Option Addr) (n0 c0 : Nat) (la0 : List Nat) (b0 : Option Addr) (m0 d0 : Nat) (lb0 : List Nat) (p : Int) (w : World) (ha0 : Wd w a0 n0 c0 la0) (hb0 : Wd w b0 m0 d0 lb0) (hp : isInt p) (hT : Hid (Dec10 w)) :
    Calls Tryz.prog 3 #[frV s0 a0 n0 c0 b0 m0 d0, .int .i64 p] w (Gives (.bool true) w) := by
  by_cases h : 20 < n0 ∨ 20 < m0
  · exact law10_writes_long S s0 a0 n0 c0 b0 m0 d0 p w hT h
  · exact law10_writes_short S s0 a0 n0 c0 la0 b0 m0 d0 lb0 p w ha0 hb0 hp hT (by omega) (by omega)
end Go.Proofs.YteoeicfbaffjcaaGreatDoor
