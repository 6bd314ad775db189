/-
  The contracts of the document's answer for layer 9: Same as a decision, Up, Floor.
-/
import Derived.Test.YtipcgehcineblaaGreatG11
import Derived.Deep.RegionHeld3
import Derived.Deep.RegionWith
import Derived.Deep.CutRange
namespace Go.Proofs.YtipcgehcineblaaGreat
open Go.RowKit

theorem ref02_same_g (a : Option Addr) (n cap : Nat) (la : List Nat) (b : Option Addr) (m cap' : Nat) (lb : List Nat) (w : World) (ha : Wd w a n cap la) (hb : Wd w b m cap' lb) : Calls Tryz.prog 77 #[.slice a n cap, .slice b m cap'] w (Gives (.bool (decide (la = lb))) w) :=
  (ref02_same a n cap la b m cap' lb w ha hb).mono fun e w' ⟨he, q, hw⟩ => ⟨he, by rw [hw]; exact below_draws _ _⟩
set_option maxRecDepth 4096 in
set_option maxHeartbeats 2000000 in
theorem ref09_same_sign (s0 : Bool) (a0 : Option Addr) (n0 c0 : Nat) (la0 : List Nat) (b0 : Option Addr) (m0 d0 : Nat) (lb0 : List Nat) (s1 : Bool) (a1 : Option Addr) (n1 c1 : Nat) (la1 : List Nat) (b1 : Option Addr) (m1 d1 : Nat) (lb1 : List Nat) (w : World) (ha0 : Wd w a0 n0 c0 la0) (hb0 : Wd w b0 m0 d0 lb0) (ha1 : Wd w a1 n1 c1 la1) (hb1 : Wd w b1 m1 d1 lb1) (hs : s0 ≠ s1) :
    Calls Tryz.prog 46 #[frV s0 a0 n0 c0 b0 m0 d0, frV s1 a1 n1 c1 b1 m1 d1] w (Gives (.bool false) w) := by
  have HB := Lib.hid (below_then (below_alloc w (.cells #[.bool s0, .slice a0 n0 c0, .slice b0 m0 d0] 25)) (below_alloc _ (.cells #[.bool s1, .slice a1 n1 c1, .slice b1 m1 d1] 25)))
  have A0 := Lib.hid (ha0.later HB.out)
  have B0 := Lib.hid (hb0.later HB.out)
  have A1 := Lib.hid (ha1.later HB.out)
  have B1 := Lib.hid (hb1.later HB.out)
  obtain ⟨hx0, hx1⟩ := boxes_at w ((w.alloc (.cells #[.bool s0, .slice a0 n0 c0, .slice b0 m0 d0] 25)).alloc (.cells #[.bool s1, .slice a1 n1 c1, .slice b1 m1 d1] 25)) #[.bool s0, .slice a0 n0 c0, .slice b0 m0 d0] #[.bool s1, .slice a1 n1 c1, .slice b1 m1 d1] 25 25 (Below.refl _ _)
  have X0 := Lib.hid hx0
  have X1 := Lib.hid hx1
  clear hx0 hx1 ha0 hb0 ha1 hb1
  have hb2 : (s0 == s1) = false := by cases s0 <;> cases s1 <;> first | rfl | exact absurd rfl hs
  clear hs
  go_enter Tryz.func46, Tryz.ntmps46
  unfold frV
  obtain ⟨k0, k1, k2, k3, k4, k5⟩ := cells_3_3 X0.out X1.out
  go_wp2
  go_ret
  exact ⟨rfl, HB.out⟩
set_option maxRecDepth 4096 in
set_option maxHeartbeats 2000000 in
theorem ref09_same_num (s0 : Bool) (a0 : Option Addr) (n0 c0 : Nat) (la0 : List Nat) (b0 : Option Addr) (m0 d0 : Nat) (lb0 : List Nat) (s1 : Bool) (a1 : Option Addr) (n1 c1 : Nat) (la1 : List Nat) (b1 : Option Addr) (m1 d1 : Nat) (lb1 : List Nat) (w : World) (ha0 : Wd w a0 n0 c0 la0) (hb0 : Wd w b0 m0 d0 lb0) (ha1 : Wd w a1 n1 c1 la1) (hb1 : Wd w b1 m1 d1 lb1) (hs : s0 = s1) (hl : la0 ≠ la1) :
    Calls Tryz.prog 46 #[frV s0 a0 n0 c0 b0 m0 d0, frV s1 a1 n1 c1 b1 m1 d1] w (Gives (.bool false) w) := by
  have HB := Lib.hid (below_then (below_alloc w (.cells #[.bool s0, .slice a0 n0 c0, .slice b0 m0 d0] 25)) (below_alloc _ (.cells #[.bool s1, .slice a1 n1 c1, .slice b1 m1 d1] 25)))
  have A0 := Lib.hid (ha0.later HB.out)
  have B0 := Lib.hid (hb0.later HB.out)
  have A1 := Lib.hid (ha1.later HB.out)
  have B1 := Lib.hid (hb1.later HB.out)
  obtain ⟨hx0, hx1⟩ := boxes_at w ((w.alloc (.cells #[.bool s0, .slice a0 n0 c0, .slice b0 m0 d0] 25)).alloc (.cells #[.bool s1, .slice a1 n1 c1, .slice b1 m1 d1] 25)) #[.bool s0, .slice a0 n0 c0, .slice b0 m0 d0] #[.bool s1, .slice a1 n1 c1, .slice b1 m1 d1] 25 25 (Below.refl _ _)
  have X0 := Lib.hid hx0
  have X1 := Lib.hid hx1
  clear hx0 hx1 ha0 hb0 ha1 hb1
  subst hs
  have hb2 : (s0 == s0) = true := by cases s0 <;> rfl
  have HL := Lib.hid hl
  clear hl
  go_enter Tryz.func46, Tryz.ntmps46
  unfold frV
  obtain ⟨k0, k1, k2, k3, k4, k5⟩ := cells_3_3 X0.out X1.out
  go_wp2_with fail
  refine (ref02_same_g a0 n0 c0 la0 a1 n1 c1 la1 _ A0.out A1.out).mono ?_
  rintro e w1 ⟨rfl, b⟩
  clear k0 k1 k2 k3 k4 k5
  replace HB := Lib.hid (below_then HB.out b)
  replace X0 := Lib.hid (blk_later X0.out b)
  replace X1 := Lib.hid (blk_later X1.out b)
  replace A0 := Lib.hid (A0.out.later b)
  replace B0 := Lib.hid (B0.out.later b)
  replace A1 := Lib.hid (A1.out.later b)
  replace B1 := Lib.hid (B1.out.later b)
  clear b
  rw [decide_eq_false HL.out]
  obtain ⟨k0, k1, k2, k3, k4, k5⟩ := cells_3_3 X0.out X1.out
  go_wp2
  go_ret
  exact ⟨rfl, HB.out⟩
set_option maxRecDepth 4096 in
set_option maxHeartbeats 2000000 in
theorem ref09_same_den (s0 : Bool) (a0 : Option Addr) (n0 c0 : Nat) (la0 : List Nat) (b0 : Option Addr) (m0 d0 : Nat) (lb0 : List Nat) (s1 : Bool) (a1 : Option Addr) (n1 c1 : Nat) (la1 : List Nat) (b1 : Option Addr) (m1 d1 : Nat) (lb1 : List Nat) (w : World) (ha0 : Wd w a0 n0 c0 la0) (hb0 : Wd w b0 m0 d0 lb0) (ha1 : Wd w a1 n1 c1 la1) (hb1 : Wd w b1 m1 d1 lb1) (hs : s0 = s1) (hl : la0 = la1) (hk : lb0 ≠ lb1) :
    Calls Tryz.prog 46 #[frV s0 a0 n0 c0 b0 m0 d0, frV s1 a1 n1 c1 b1 m1 d1] w (Gives (.bool false) w) := by
  have HB := Lib.hid (below_then (below_alloc w (.cells #[.bool s0, .slice a0 n0 c0, .slice b0 m0 d0] 25)) (below_alloc _ (.cells #[.bool s1, .slice a1 n1 c1, .slice b1 m1 d1] 25)))
  have A0 := Lib.hid (ha0.later HB.out)
  have B0 := Lib.hid (hb0.later HB.out)
  have A1 := Lib.hid (ha1.later HB.out)
  have B1 := Lib.hid (hb1.later HB.out)
  obtain ⟨hx0, hx1⟩ := boxes_at w ((w.alloc (.cells #[.bool s0, .slice a0 n0 c0, .slice b0 m0 d0] 25)).alloc (.cells #[.bool s1, .slice a1 n1 c1, .slice b1 m1 d1] 25)) #[.bool s0, .slice a0 n0 c0, .slice b0 m0 d0] #[.bool s1, .slice a1 n1 c1, .slice b1 m1 d1] 25 25 (Below.refl _ _)
  have X0 := Lib.hid hx0
  have X1 := Lib.hid hx1
  clear hx0 hx1 ha0 hb0 ha1 hb1
  subst hs
  have hb2 : (s0 == s0) = true := by cases s0 <;> rfl
  have HL := Lib.hid hl
  clear hl
  have HK := Lib.hid hk
  clear hk
  go_enter Tryz.func46, Tryz.ntmps46
  unfold frV
  obtain ⟨k0, k1, k2, k3, k4, k5⟩ := cells_3_3 X0.out X1.out
  go_wp2_with fail
  refine (ref02_same_g a0 n0 c0 la0 a1 n1 c1 la1 _ A0.out A1.out).mono ?_
  rintro e w1 ⟨rfl, b⟩
  clear k0 k1 k2 k3 k4 k5
  replace HB := Lib.hid (below_then HB.out b)
  replace X0 := Lib.hid (blk_later X0.out b)
  replace X1 := Lib.hid (blk_later X1.out b)
  replace A0 := Lib.hid (A0.out.later b)
  replace B0 := Lib.hid (B0.out.later b)
  replace A1 := Lib.hid (A1.out.later b)
  replace B1 := Lib.hid (B1.out.later b)
  clear b
  rw [decide_eq_true HL.out]
  obtain ⟨k0, k1, k2, k3, k4, k5⟩ := cells_3_3 X0.out X1.out
  go_wp2_with fail
  refine (ref02_same_g b0 m0 d0 lb0 b1 m1 d1 lb1 _ B0.out B1.out).mono ?_
  rintro e w2 ⟨rfl, b⟩
  clear k0 k1 k2 k3 k4 k5
  replace HB := Lib.hid (below_then HB.out b)
  replace X0 := Lib.hid (blk_later X0.out b)
  replace X1 := Lib.hid (blk_later X1.out b)
  replace A0 := Lib.hid (A0.out.later b)
  replace B0 := Lib.hid (B0.out.later b)
  replace A1 := Lib.hid (A1.out.later b)
  replace B1 := Lib.hid (B1.out.later b)
  clear b
  rw [decide_eq_false HK.out]
  obtain ⟨k0, k1, k2, k3, k4, k5⟩ := cells_3_3 X0.out X1.out
  go_wp2
  go_ret
  exact ⟨rfl, HB.out⟩
set_option maxRecDepth 4096 in
set_option maxHeartbeats 2000000 in
theorem ref09_same_right (s0 : Bool) (a0 : Option Addr) (n0 c0 : Nat) (la0 : List Nat) (b0 : Option Addr) (m0 d0 : Nat) (lb0 : List Nat) (s1 : Bool) (a1 : Option Addr) (n1 c1 : Nat) (la1 : List Nat) (b1 : Option Addr) (m1 d1 : Nat) (lb1 : List Nat) (w : World) (ha0 : Wd w a0 n0 c0 la0) (hb0 : Wd w b0 m0 d0 lb0) (ha1 : Wd w a1 n1 c1 la1) (hb1 : Wd w b1 m1 d1 lb1) (hs : s0 = s1) (hl : la0 = la1) (hk : lb0 = lb1) :
    Calls Tryz.prog 46 #[frV s0 a0 n0 c0 b0 m0 d0, frV s1 a1 n1 c1 b1 m1 d1] w (Gives (.bool true) w) := by
  have HB := Lib.hid (below_then (below_alloc w (.cells #[.bool s0, .slice a0 n0 c0, .slice b0 m0 d0] 25)) (below_alloc _ (.cells #[.bool s1, .slice a1 n1 c1, .slice b1 m1 d1] 25)))
  have A0 := Lib.hid (ha0.later HB.out)
  have B0 := Lib.hid (hb0.later HB.out)
  have A1 := Lib.hid (ha1.later HB.out)
  have B1 := Lib.hid (hb1.later HB.out)
  obtain ⟨hx0, hx1⟩ := boxes_at w ((w.alloc (.cells #[.bool s0, .slice a0 n0 c0, .slice b0 m0 d0] 25)).alloc (.cells #[.bool s1, .slice a1 n1 c1, .slice b1 m1 d1] 25)) #[.bool s0, .slice a0 n0 c0, .slice b0 m0 d0] #[.bool s1, .slice a1 n1 c1, .slice b1 m1 d1] 25 25 (Below.refl _ _)
  have X0 := Lib.hid hx0
  have X1 := Lib.hid hx1
  clear hx0 hx1 ha0 hb0 ha1 hb1
  subst hs
  have hb2 : (s0 == s0) = true := by cases s0 <;> rfl
  have HL := Lib.hid hl
  clear hl
  have HK := Lib.hid hk
  clear hk
  go_enter Tryz.func46, Tryz.ntmps46
  unfold frV
  obtain ⟨k0, k1, k2, k3, k4, k5⟩ := cells_3_3 X0.out X1.out
  go_wp2_with fail
  refine (ref02_same_g a0 n0 c0 la0 a1 n1 c1 la1 _ A0.out A1.out).mono ?_
  rintro e w1 ⟨rfl, b⟩
  clear k0 k1 k2 k3 k4 k5
  replace HB := Lib.hid (below_then HB.out b)
  replace X0 := Lib.hid (blk_later X0.out b)
  replace X1 := Lib.hid (blk_later X1.out b)
  replace A0 := Lib.hid (A0.out.later b)
  replace B0 := Lib.hid (B0.out.later b)
  replace A1 := Lib.hid (A1.out.later b)
  replace B1 := Lib.hid (B1.out.later b)
  clear b
  rw [decide_eq_true HL.out]
  obtain ⟨k0, k1, k2, k3, k4, k5⟩ := cells_3_3 X0.out X1.out
  go_wp2_with fail
  refine (ref02_same_g b0 m0 d0 lb0 b1 m1 d1 lb1 _ B0.out B1.out).mono ?_
  rintro e w2 ⟨rfl, b⟩
  clear k0 k1 k2 k3 k4 k5
  replace HB := Lib.hid (below_then HB.out b)
  replace X0 := Lib.hid (blk_later X0.out b)
  replace X1 := Lib.hid (blk_later X1.out b)
  replace A0 := Lib.hid (A0.out.later b)
  replace B0 := Lib.hid (B0.out.later b)
  replace A1 := Lib.hid (A1.out.later b)
  replace B1 := Lib.hid (B1.out.later b)
  clear b
  rw [decide_eq_true HK.out]
  obtain ⟨k0, k1, k2, k3, k4, k5⟩ := cells_3_3 X0.out X1.out
  go_wp2
  go_ret
  exact ⟨rfl, HB.out⟩
theorem ref09_same (s0 : Bool) (a0 : Option Addr) (n0 c0 : Nat) (la0 : List Nat) (b0 : Option Addr) (m0 d0 : Nat) (lb0 : List Nat) (s1 : Bool) (a1 : Option Addr) (n1 c1 : Nat) (la1 : List Nat) (b1 : Option Addr) (m1 d1 : Nat) (lb1 : List Nat) (w : World) (ha0 : Wd w a0 n0 c0 la0) (hb0 : Wd w b0 m0 d0 lb0) (ha1 : Wd w a1 n1 c1 la1) (hb1 : Wd w b1 m1 d1 lb1) :
    Calls Tryz.prog 46 #[frV s0 a0 n0 c0 b0 m0 d0, frV s1 a1 n1 c1 b1 m1 d1] w (Gives (.bool (decide (s0 = s1 ∧ la0 = la1 ∧ lb0 = lb1))) w) := by
  by_cases hs : s0 = s1
  · by_cases hl : la0 = la1
    · by_cases hk : lb0 = lb1
      · rw [decide_eq_true ⟨hs, hl, hk⟩]; exact ref09_same_right s0 a0 n0 c0 la0 b0 m0 d0 lb0 s1 a1 n1 c1 la1 b1 m1 d1 lb1 w ha0 hb0 ha1 hb1 hs hl hk
      · rw [decide_eq_false (fun h => hk h.2.2)]; exact ref09_same_den s0 a0 n0 c0 la0 b0 m0 d0 lb0 s1 a1 n1 c1 la1 b1 m1 d1 lb1 w ha0 hb0 ha1 hb1 hs hl hk
    · rw [decide_eq_false (fun h => hl h.2.1)]; exact ref09_same_num s0 a0 n0 c0 la0 b0 m0 d0 lb0 s1 a1 n1 c1 la1 b1 m1 d1 lb1 w ha0 hb0 ha1 hb1 hs hl
  · rw [decide_eq_false (fun h => hs h.1)]; exact ref09_same_sign s0 a0 n0 c0 la0 b0 m0 d0 lb0 s1 a1 n1 c1 la1 b1 m1 d1 lb1 w ha0 hb0 ha1 hb1 hs
end Go.Proofs.YtipcgehcineblaaGreat
