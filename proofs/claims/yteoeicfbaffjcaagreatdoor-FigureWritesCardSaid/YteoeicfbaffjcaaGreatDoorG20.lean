/-
  Several texts of this claim as one, group 20.
-/
import Derived.Test.YteoeicfbaffjcaaGreatDoorG15
import Derived.Deep.RegionHeld3
import Derived.Deep.RegionWith
import Derived.Deep.CutRange
import Derived.Test.YteoeicfbaffjcaaGreatDoorG16
import Derived.Test.YteoeicfbaffjcaaGreatDoorG14
import Derived.Test.YteoeicfbaffjcaaGreatDoorG13
import Derived.Test.YteoeicfbaffjcaaGreatDoorG17
/-
  The contracts of the document's answer for layer 9: Same as a decision, Up, Floor.
-/
namespace Go.Proofs.YteoeicfbaffjcaaGreatDoor
open Go.RowKit

theorem ref02_same_g (a : Option Addr) (n cap : Nat) (la : List Nat) (b : Option Addr) (m cap' : Nat) (lb : List Nat) (w : World) (ha : Wd w a n cap la) (hb : Wd w b m cap' lb) : Calls Tryz.prog 104 #[.slice a n cap, .slice b m cap'] w (Gives (.bool (decide (la = lb))) w) :=
  (ref02_same a n cap la b m cap' lb w ha hb).mono fun e w' ⟨he, q, hw⟩ => ⟨he, by rw [hw]; exact below_draws _ _⟩
set_option maxRecDepth 4096 in
set_option maxHeartbeats 2000000 in
theorem ref09_same_sign (s0 : Bool) (a0 : Option Addr) (n0 c0 : Nat) (la0 : List Nat) (b0 : Option Addr) (m0 d0 : Nat) (lb0 : List Nat) (s1 : Bool) (a1 : Option Addr) (n1 c1 : Nat) (la1 : List Nat) (b1 : Option Addr) (m1 d1 : Nat) (lb1 : List Nat) (w : World) (ha0 : Wd w a0 n0 c0 la0) (hb0 : Wd w b0 m0 d0 lb0) (ha1 : Wd w a1 n1 c1 la1) (hb1 : Wd w b1 m1 d1 lb1) (hs : s0 ≠ s1) :
    Calls Tryz.prog 59 #[frV s0 a0 n0 c0 b0 m0 d0, frV s1 a1 n1 c1 b1 m1 d1] w (Gives (.bool false) w) := by
  have HB := Lib.hid (below_then (below_alloc w (.cells #[.bool s0, .slice a0 n0 c0, .slice b0 m0 d0] 24)) (below_alloc _ (.cells #[.bool s1, .slice a1 n1 c1, .slice b1 m1 d1] 24)))
  have A0 := Lib.hid (ha0.later HB.out)
  have B0 := Lib.hid (hb0.later HB.out)
  have A1 := Lib.hid (ha1.later HB.out)
  have B1 := Lib.hid (hb1.later HB.out)
  obtain ⟨hx0, hx1⟩ := boxes_at w ((w.alloc (.cells #[.bool s0, .slice a0 n0 c0, .slice b0 m0 d0] 24)).alloc (.cells #[.bool s1, .slice a1 n1 c1, .slice b1 m1 d1] 24)) #[.bool s0, .slice a0 n0 c0, .slice b0 m0 d0] #[.bool s1, .slice a1 n1 c1, .slice b1 m1 d1] 24 24 (Below.refl _ _)
  have X0 := Lib.hid hx0
  have X1 := Lib.hid hx1
  clear hx0 hx1 ha0 hb0 ha1 hb1
  have hb2 : (s0 == s1) = false := by cases s0 <;> cases s1 <;> first | rfl | exact absurd rfl hs
  clear hs
  go_enter Tryz.func59, Tryz.ntmps59
  unfold frV
  obtain ⟨k0, k1, k2, k3, k4, k5⟩ := cells_3_3 X0.out X1.out
  go_wp2
  go_ret
  exact ⟨rfl, HB.out⟩
set_option maxRecDepth 4096 in
set_option maxHeartbeats 2000000 in
theorem ref09_same_num (s0 : Bool) (a0 : Option Addr) (n0 c0 : Nat) (la0 : List Nat) (b0 : Option Addr) (m0 d0 : Nat) (lb0 : List Nat) (s1 : Bool) (a1 : Option Addr) (n1 c1 : Nat) (la1 : List Nat) (b1 : Option Addr) (m1 d1 : Nat) (lb1 : List Nat) (w : World) (ha0 : Wd w a0 n0 c0 la0) (hb0 : Wd w b0 m0 d0 lb0) (ha1 : Wd w a1 n1 c1 la1) (hb1 : Wd w b1 m1 d1 lb1) (hs : s0 = s1) (hl : la0 ≠ la1) :
    Calls Tryz.prog 59 #[frV s0 a0 n0 c0 b0 m0 d0, frV s1 a1 n1 c1 b1 m1 d1] w (Gives (.bool false) w) := by
  have HB := Lib.hid (below_then (below_alloc w (.cells #[.bool s0, .slice a0 n0 c0, .slice b0 m0 d0] 24)) (below_alloc _ (.cells #[.bool s1, .slice a1 n1 c1, .slice b1 m1 d1] 24)))
  have A0 := Lib.hid (ha0.later HB.out)
  have B0 := Lib.hid (hb0.later HB.out)
  have A1 := Lib.hid (ha1.later HB.out)
  have B1 := Lib.hid (hb1.later HB.out)
  obtain ⟨hx0, hx1⟩ := boxes_at w ((w.alloc (.cells #[.bool s0, .slice a0 n0 c0, .slice b0 m0 d0] 24)).alloc (.cells #[.bool s1, .slice a1 n1 c1, .slice b1 m1 d1] 24)) #[.bool s0, .slice a0 n0 c0, .slice b0 m0 d0] #[.bool s1, .slice a1 n1 c1, .slice b1 m1 d1] 24 24 (Below.refl _ _)
  have X0 := Lib.hid hx0
  have X1 := Lib.hid hx1
  clear hx0 hx1 ha0 hb0 ha1 hb1
  subst hs
  have hb2 : (s0 == s0) = true := by cases s0 <;> rfl
  have HL := Lib.hid hl
  clear hl
  go_enter Tryz.func59, Tryz.ntmps59
  unfold frV
  obtain ⟨k0, k1, k2, k3, k4, k5⟩ := cells_3_3 X0.out X1.out
  go_wp2_with fail
  refine (ref02_same_g a0 n0 c0 la0 a1 n1 c1 la1 _ A0.out A1.out).mono ?_
  rintro e w1 ⟨rfl, b⟩
  clear k0 k1 k2 k3 k4 k5
  replace HB := Lib.hid (below_then HB.out b)
  replace X0 := Lib.hid (blk_later X0.out b)
  replace X1 := Lib.hid (blk_later X1.out b)
  replace A0 := Lib.hid (A0.out.later b)
  replace B0 := Lib.hid (B0.out.later b)
  replace A1 := Lib.hid (A1.out.later b)
  replace B1 := Lib.hid (B1.out.later b)
  clear b
  rw [decide_eq_false HL.out]
  obtain ⟨k0, k1, k2, k3, k4, k5⟩ := cells_3_3 X0.out X1.out
  go_wp2
  go_ret
  exact ⟨rfl, HB.out⟩
set_option maxRecDepth 4096 in
set_option maxHeartbeats 2000000 in
theorem ref09_same_den (s0 : Bool) (a0 : Option Addr) (n0 c0 : Nat) (la0 : List Nat) (b0 : Option Addr) (m0 d0 : Nat) (lb0 : List Nat) (s1 : Bool) (a1 : Option Addr) (n1 c1 : Nat) (la1 : List Nat) (b1 : Option Addr) (m1 d1 : Nat) (lb1 : List Nat) (w : World) (ha0 : Wd w a0 n0 c0 la0) (hb0 : Wd w b0 m0 d0 lb0) (ha1 : Wd w a1 n1 c1 la1) (hb1 : Wd w b1 m1 d1 lb1) (hs : s0 = s1) (hl : la0 = la1) (hk : lb0 ≠ lb1) :
    Calls Tryz.prog 59 #[frV s0 a0 n0 c0 b0 m0 d0, frV s1 a1 n1 c1 b1 m1 d1] w (Gives (.bool false) w) := by
  have HB := Lib.hid (below_then (below_alloc w (.cells #[.bool s0, .slice a0 n0 c0, .slice b0 m0 d0] 24)) (below_alloc _ (.cells #[.bool s1, .slice a1 n1 c1, .slice b1 m1 d1] 24)))
  have A0 := Lib.hid (ha0.later HB.out)
  have B0 := Lib.hid (hb0.later HB.out)
  have A1 := Lib.hid (ha1.later HB.out)
  have B1 := Lib.hid (hb1.later HB.out)
  obtain ⟨hx0, hx1⟩ := boxes_at w ((w.alloc (.cells #[.bool s0, .slice a0 n0 c0, .slice b0 m0 d0] 24)).alloc (.cells #[.bool s1, .slice a1 n1 c1, .slice b1 m1 d1] 24)) #[.bool s0, .slice a0 n0 c0, .slice b0 m0 d0] #[.bool s1, .slice a1 n1 c1, .slice b1 m1 d1] 24 24 (Below.refl _ _)
  have X0 := Lib.hid hx0
  have X1 := Lib.hid hx1
  clear hx0 hx1 ha0 hb0 ha1 hb1
  subst hs
  have hb2 : (s0 == s0) = true := by cases s0 <;> rfl
  have HL := Lib.hid hl
  clear hl
  have HK := Lib.hid hk
  clear hk
  go_enter Tryz.func59, Tryz.ntmps59
  unfold frV
  obtain ⟨k0, k1, k2, k3, k4, k5⟩ := cells_3_3 X0.out X1.out
  go_wp2_with fail
  refine (ref02_same_g a0 n0 c0 la0 a1 n1 c1 la1 _ A0.out A1.out).mono ?_
  rintro e w1 ⟨rfl, b⟩
  clear k0 k1 k2 k3 k4 k5
  replace HB := Lib.hid (below_then HB.out b)
  replace X0 := Lib.hid (blk_later X0.out b)
  replace X1 := Lib.hid (blk_later X1.out b)
  replace A0 := Lib.hid (A0.out.later b)
  replace B0 := Lib.hid (B0.out.later b)
  replace A1 := Lib.hid (A1.out.later b)
  replace B1 := Lib.hid (B1.out.later b)
  clear b
  rw [decide_eq_true HL.out]
  obtain ⟨k0, k1, k2, k3, k4, k5⟩ := cells_3_3 X0.out X1.out
  go_wp2_with fail
  refine (ref02_same_g b0 m0 d0 lb0 b1 m1 d1 lb1 _ B0.out B1.out).mono ?_
  rintro e w2 ⟨rfl, b⟩
  clear k0 k1 k2 k3 k4 k5
  replace HB := Lib.hid (below_then HB.out b)
  replace X0 := Lib.hid (blk_later X0.out b)
  replace X1 := Lib.hid (blk_later X1.out b)
  replace A0 := Lib.hid (A0.out.later b)
  replace B0 := Lib.hid (B0.out.later b)
  replace A1 := Lib.hid (A1.out.later b)
  replace B1 := Lib.hid (B1.out.later b)
  clear b
  rw [decide_eq_false HK.out]
  obtain ⟨k0, k1, k2, k3, k4, k5⟩ := cells_3_3 X0.out X1.out
  go_wp2
  go_ret
  exact ⟨rfl, HB.out⟩
set_option maxRecDepth 4096 in
set_option maxHeartbeats 2000000 in
theorem ref09_same_right (s0 : Bool) (a0 : Option Addr) (n0 c0 : Nat) (la0 : List Nat) (b0 : Option Addr) (m0 d0 : Nat) (lb0 : List Nat) (s1 : Bool) (a1 : Option Addr) (n1 c1 : Nat) (la1 : List Nat) (b1 : Option Addr) (m1 d1 : Nat) (lb1 : List Nat) (w : World) (ha0 : Wd w a0 n0 c0 la0) (hb0 : Wd w b0 m0 d0 lb0) (ha1 : Wd w a1 n1 c1 la1) (hb1 : Wd w b1 m1 d1 lb1) (hs : s0 = s1) (hl : la0 = la1) (hk : lb0 = lb1) :
    Calls Tryz.prog 59 #[frV s0 a0 n0 c0 b0 m0 d0, frV s1 a1 n1 c1 b1 m1 d1] w (Gives (.bool true) w) := by
  have HB := Lib.hid (below_then (below_alloc w (.cells #[.bool s0, .slice a0 n0 c0, .slice b0 m0 d0] 24)) (below_alloc _ (.cells #[.bool s1, .slice a1 n1 c1, .slice b1 m1 d1] 24)))
  have A0 := Lib.hid (ha0.later HB.out)
  have B0 := Lib.hid (hb0.later HB.out)
  have A1 := Lib.hid (ha1.later HB.out)
  have B1 := Lib.hid (hb1.later HB.out)
  obtain ⟨hx0, hx1⟩ := boxes_at w ((w.alloc (.cells #[.bool s0, .slice a0 n0 c0, .slice b0 m0 d0] 24)).alloc (.cells #[.bool s1, .slice a1 n1 c1, .slice b1 m1 d1] 24)) #[.bool s0, .slice a0 n0 c0, .slice b0 m0 d0] #[.bool s1, .slice a1 n1 c1, .slice b1 m1 d1] 24 24 (Below.refl _ _)
  have X0 := Lib.hid hx0
  have X1 := Lib.hid hx1
  clear hx0 hx1 ha0 hb0 ha1 hb1
  subst hs
  have hb2 : (s0 == s0) = true := by cases s0 <;> rfl
  have HL := Lib.hid hl
  clear hl
  have HK := Lib.hid hk
  clear hk
  go_enter Tryz.func59, Tryz.ntmps59
  unfold frV
  obtain ⟨k0, k1, k2, k3, k4, k5⟩ := cells_3_3 X0.out X1.out
  go_wp2_with fail
  refine (ref02_same_g a0 n0 c0 la0 a1 n1 c1 la1 _ A0.out A1.out).mono ?_
  rintro e w1 ⟨rfl, b⟩
  clear k0 k1 k2 k3 k4 k5
  replace HB := Lib.hid (below_then HB.out b)
  replace X0 := Lib.hid (blk_later X0.out b)
  replace X1 := Lib.hid (blk_later X1.out b)
  replace A0 := Lib.hid (A0.out.later b)
  replace B0 := Lib.hid (B0.out.later b)
  replace A1 := Lib.hid (A1.out.later b)
  replace B1 := Lib.hid (B1.out.later b)
  clear b
  rw [decide_eq_true HL.out]
  obtain ⟨k0, k1, k2, k3, k4, k5⟩ := cells_3_3 X0.out X1.out
  go_wp2_with fail
  refine (ref02_same_g b0 m0 d0 lb0 b1 m1 d1 lb1 _ B0.out B1.out).mono ?_
  rintro e w2 ⟨rfl, b⟩
  clear k0 k1 k2 k3 k4 k5
  replace HB := Lib.hid (below_then HB.out b)
  replace X0 := Lib.hid (blk_later X0.out b)
  replace X1 := Lib.hid (blk_later X1.out b)
  replace A0 := Lib.hid (A0.out.later b)
  replace B0 := Lib.hid (B0.out.later b)
  replace A1 := Lib.hid (A1.out.later b)
  replace B1 := Lib.hid (B1.out.later b)
  clear b
  rw [decide_eq_true HK.out]
  obtain ⟨k0, k1, k2, k3, k4, k5⟩ := cells_3_3 X0.out X1.out
  go_wp2
  go_ret
  exact ⟨rfl, HB.out⟩
theorem ref09_same (s0 : Bool) (a0 : Option Addr) (n0 c0 : Nat) (la0 : List Nat) (b0 : Option Addr) (m0 d0 : Nat) (lb0 : List Nat) (s1 : Bool) (a1 : Option Addr) (n1 c1 : Nat) (la1 : List Nat) (b1 : Option Addr) (m1 d1 : Nat) (lb1 : List Nat) (w : World) (ha0 : Wd w a0 n0 c0 la0) (hb0 : Wd w b0 m0 d0 lb0) (ha1 : Wd w a1 n1 c1 la1) (hb1 : Wd w b1 m1 d1 lb1) :
    Calls Tryz.prog 59 #[frV s0 a0 n0 c0 b0 m0 d0, frV s1 a1 n1 c1 b1 m1 d1] w (Gives (.bool (decide (s0 = s1 ∧ la0 = la1 ∧ lb0 = lb1))) w) := by
  by_cases hs : s0 = s1
  · by_cases hl : la0 = la1
    · by_cases hk : lb0 = lb1
      · rw [decide_eq_true ⟨hs, hl, hk⟩]; exact ref09_same_right s0 a0 n0 c0 la0 b0 m0 d0 lb0 s1 a1 n1 c1 la1 b1 m1 d1 lb1 w ha0 hb0 ha1 hb1 hs hl hk
      · rw [decide_eq_false (fun h => hk h.2.2)]; exact ref09_same_den s0 a0 n0 c0 la0 b0 m0 d0 lb0 s1 a1 n1 c1 la1 b1 m1 d1 lb1 w ha0 hb0 ha1 hb1 hs hl hk
    · rw [decide_eq_false (fun h => hl h.2.1)]; exact ref09_same_num s0 a0 n0 c0 la0 b0 m0 d0 lb0 s1 a1 n1 c1 la1 b1 m1 d1 lb1 w ha0 hb0 ha1 hb1 hs hl
  · rw [decide_eq_false (fun h => hs h.1)]; exact ref09_same_sign s0 a0 n0 c0 la0 b0 m0 d0 lb0 s1 a1 n1 c1 la1 b1 m1 d1 lb1 w ha0 hb0 ha1 hb1 hs
set_option maxHeartbeats 1000000 in
theorem ref09_up (s0 : Bool) (a0 : Option Addr) (n0 c0 : Nat) (b0 : Option Addr) (m0 d0 : Nat) (w : World) : Calls Tryz.prog 37 #[frV s0 a0 n0 c0 b0 m0 d0] w (Gives (whV s0 a0 n0 c0) w) := by
  have HG : Hid (((w.alloc (.cells #[.bool s0, .slice a0 n0 c0, .slice b0 m0 d0] 24)).alloc (.cells #[.bool s0, .slice a0 n0 c0] 63)).heap[w.heap.size + 1]? = some (.cells #[.bool s0, .slice a0 n0 c0] 63 (0, 0))) := Lib.hid (boxes_at w ((w.alloc (.cells #[.bool s0, .slice a0 n0 c0, .slice b0 m0 d0] 24)).alloc (.cells #[.bool s0, .slice a0 n0 c0] 63)) _ _ _ _ (Below.refl _ _)).2
  have HB := Lib.hid (below_then (below_alloc w (.cells #[.bool s0, .slice a0 n0 c0, .slice b0 m0 d0] 24)) (below_alloc _ (.cells #[.bool s0, .slice a0 n0 c0] 63)))
  go_enter Tryz.func37, Tryz.ntmps37
  unfold frV
  go_wp2
  refine bodyPost_ret (results_cell_row Tryz.results37 _ _ (w.heap.size + 1) 63 #[.bool s0, .slice a0 n0 c0] (0, 0) _ rfl HG.out Tryz.underlying63 rfl (by kernel_rfl)) rfl ?_
  exact ⟨rfl, HB.out⟩
theorem floor_fdiv (q : Rat) : Int.fdiv q.num (q.den : Int) = q.floor := by rw [Rat.floor_def, Int.fdiv_eq_ediv_of_nonneg _ (Int.natCast_nonneg _)]
theorem zval_up (q : Rat) : zval (zneg q.num) (val (dg q.num.natAbs)) = q.num := by rw [val_dg, zval_of]
theorem zval_den (q : Rat) : zval false (val (dg q.den)) = (q.den : Int) := by rw [val_dg]; rfl
theorem zden_nz (q : Rat) : (q.den : Int) ≠ 0 := by have := q.den_nz; omega
end Go.Proofs.YteoeicfbaffjcaaGreatDoor

/-
  The contracts of the document's answer for layer 10: Text, tens.
-/
namespace Go.Proofs.YteoeicfbaffjcaaGreatDoor
open Go.RowKit

theorem blen_txt {w : World} {a : Option Addr} {n cap : Nat} {l : List Nat} (h : Wd w a n cap l) (hn : n ≤ 1000) : (txt (val l)).length ≤ 32001 := by
  have h1 := val_lt h.ok
  rw [h.len, pow32] at h1
  have h2 := txt_length_le h1
  omega
set_option maxRecDepth 4096 in
set_option maxHeartbeats 2000000 in
theorem ref10_text (q : Rat) (a : Option Addr) (n cap : Nat) (b : Option Addr) (m cap' : Nat) (w : World) (ha : Wd w a n cap (dg q.num.natAbs)) (hb : Wd w b m cap' (dg q.den)) (hn : n ≤ 1000) (hm : m ≤ 1000) :
    Calls Tryz.prog 12 #[frV (zneg q.num) a n cap b m cap'] w (Gives (.string (bs (ftxt q))) w) := by
  have HB := Lib.hid (below_alloc w (.cells #[.bool (zneg q.num), .slice a n cap, .slice b m cap'] 24))
  have HX := Lib.hid (blk_new w #[.bool (zneg q.num), .slice a n cap, .slice b m cap'] 24)
  have HA := Lib.hid (ha.later HB.out)
  have HC := Lib.hid (hb.later HB.out)
  have ht1 := blen_txt ha hn
  have ht2 := blen_txt hb hm
  rw [val_dg] at ht1 ht2
  have hz : (ztxt q.num).length ≤ 32002 := by unfold ztxt; split <;> (try rw [List.length_cons]) <;> omega
  have HZ : Hid (zval (zneg q.num) (val (dg q.num.natAbs)) = q.num) := Lib.hid (by rw [val_dg, zval_of])
  have HV : Hid (val (dg q.den) = q.den) := Lib.hid (val_dg q.den)
  have hs1 := bs_size (ztxt q.num)
  have hs2 := bs_size [47]
  have hs3 := bs_size (txt q.den)
  simp only [List.length_cons, List.length_nil] at hs2
  clear ha hb
  go_enter Tryz.func12, Tryz.ntmps12
  unfold frV
  obtain ⟨k0, k1, k2⟩ := cells_3 HX.out
  go_wp2_with fail
  refine (ref09_up _ a n cap b m cap' _).mono ?_
  rintro e w1 ⟨rfl, b1⟩
  clear k0 k1 k2
  replace HB := Lib.hid (below_then HB.out b1)
  replace HX := Lib.hid (blk_later HX.out b1)
  replace HA := Lib.hid (HA.out.later b1)
  replace HC := Lib.hid (HC.out.later b1)
  clear b1
  unfold whV
  go_wp2_with fail
  refine (ref08_text_z _ a n cap _ q.num _ HA.out (by omega) HZ.out).mono ?_
  rintro e w2 ⟨rfl, b2⟩
  replace HB := Lib.hid (below_then HB.out b2)
  replace HX := Lib.hid (blk_later HX.out b2)
  replace HC := Lib.hid (HC.out.later b2)
  clear b2
  obtain ⟨k0, k1, k2⟩ := cells_3 HX.out
  go_wp2_with fail
  refine (ref06_one b m cap' q.den _ HC.out).mono ?_
  rintro e w3 ⟨rfl, rfl⟩
  by_cases hd : q.den = 1
  · have HF : Hid (ftxt q = ztxt q.num) := Lib.hid (by unfold ftxt; rw [if_pos hd, List.append_nil])
    rw [decide_eq_true hd]
    clear hd
    go_wp2
    go_ret
    exact ⟨by rw [HF.out]; rfl, HB.out⟩
  · have HF : Hid (bs (ztxt q.num) ++ (bs [47] ++ bs (txt q.den)) = bs (ftxt q)) := Lib.hid (by rw [bs_append, bs_append]; unfold ftxt; rw [if_neg hd]; rfl)
    rw [decide_eq_false hd]
    clear hd
    go_wp2_with fail
    refine (ref07_text b m cap' _ _ HC.out (by omega)).mono ?_
    rintro e w4 ⟨rfl, b4⟩
    rw [HV.out]
    go_wp2
    go_ret
    exact ⟨by rw [← HF.out]; rfl, below_then HB.out b4⟩
set_option maxRecDepth 4096 in
set_option maxHeartbeats 2000000 in
theorem ref10_tens (N : Nat) (w : World) (hN : N ≤ 100) : Calls Tryz.prog 44 #[.int .i64 (N : Int)] w (Lst (dg (10 ^ N)) w) := by
  have HL : Hid (∀ k, k ≤ 100 → (dg (10 ^ k)).length ≤ 60) := Lib.hid (fun k hk => by
    apply dg_length_le
    have h1 : 10 ^ k ≤ 10 ^ 100 := Nat.pow_le_pow_right (by decide) hk
    have h2 : (10 : Nat) ^ 100 < 4294967296 ^ 60 := by decide
    omega)
  have H1 := Lib.hid (Wd.lit1 w 54 (x := 1) (by omega))
  have HD1 : Hid (dg (10 ^ 0) = [1]) := Lib.hid (dg_word (by decide) (by decide))
  have HB0 := Lib.hid (below_alloc w (.cells #[.int .u32 ((1 : Nat) : Int)] 54))
  go_enter Tryz.func44, Tryz.ntmps44
  go_wp2
  go_loopw [3, 4] (fun v i wr => ∃ (k : Nat) (a : Option Addr) (n c : Nat), k ≤ N ∧ i = .int .i64 (k : Int) ∧ v = .slice a n c ∧ Hid (Wd wr a n c (dg (10 ^ k))) ∧ Hid (Below w.heap.size w wr)) (fun _ i _ => N - (intOf i).toNat)
  case atStart => exact ⟨0, _, _, _, by omega, rfl, rfl, Lib.hid (by rw [HD1.out]; exact H1.out), HB0⟩
  case round =>
    clear H1 HB0 HD1
    obtain ⟨k, a, n, c, hk, rfl, rfl, HW, HB⟩ := hrel
    have hn : n ≤ 60 := by rw [← HW.out.len]; exact HL.out k (by omega)
    by_cases hlt : k < N
    · have hki : (k : Int) < (N : Int) := by omega
      have HX : Hid (val (dg (10 ^ k)) * val [10] = 10 ^ (k + 1)) := Lib.hid (by rw [val_dg, Nat.pow_succ]; rfl)
      go_wp2_with fail
      refine (ref04_mul a n c _ _ 1 1 [10] _ (HW.out.later (below_alloc _ _)) (Wd.lit1 wr 54 (x := 10) (by omega)) (by omega) (by omega)).mono ?_
      rintro e w2 ⟨a2, n2, c2, rfl, h2, b2⟩
      rw [HX.out] at h2
      have H2 := Lib.hid h2
      have HB2 := Lib.hid (below_then HB.out (below_then (below_alloc _ _) b2))
      clear h2 b2
      go_wp2
      go_roundw
      case rel => exact ⟨k + 1, a2, n2, c2, by omega, by go_num, rfl, H2, HB2⟩
      case measure => simp [intOf]; omega
    · obtain rfl : k = N := by omega
      go_wp2
      go_ret
      exact ⟨a, n, c, rfl, HW.out, HB.out⟩
end Go.Proofs.YteoeicfbaffjcaaGreatDoor

/-
  The contract of the document's answer for layer 10: Read: what stands ahead is wrong; a whole number.
-/
namespace Go.Proofs.YteoeicfbaffjcaaGreatDoor
open Go.RowKit

theorem results_row_tmps {P : Program} {fn : Func} {p u v : Tmp} {ty : TypeId} (h : fn.results = #[.cell p ty, .tmp u, .tmp v]) (tmps : Array Value) (w : World) (g : Nat) (t : TypeId) (cs : Array Value) (fr : Nat × Nat) (d : TypeDesc)
    (hp : tmps.getD p undef = .pointer (some ⟨g, 0, none⟩)) (hg : w.heap[g]? = some (.cells cs t fr))
    (hu : P.underlying ty = some d) (hd : (match d with | .struct _ | .array _ _ => true | _ => false) = true) (hi : (P.info? ty).map (·.size) = some cs.size) :
    (results fn tmps).run P w = .ok (.tuple #[.agg cs, tmps.getD u undef, tmps.getD v undef]) w := by
  have hp' : tmps[p]?.getD undef = .pointer (some ⟨g, 0, none⟩) := by simpa using hp
  simp [results, h, hp', asAddr, Result.andThen, run_loadVar_row w g t ty cs fr d hg hu hd hi]
/-- A right fraction and two more results. -/
def LstQVV (q : Rat) (v u : Value) (w : World) (e : Ending) (w' : World) : Prop :=
  ∃ (a : Option Addr) (n cap : Nat) (b : Option Addr) (m cap' : Nat), e = .returned (.tuple #[frV (zneg q.num) a n cap b m cap', v, u]) ∧ Wd w' a n cap (dg q.num.natAbs) ∧ Wd w' b m cap' (dg q.den) ∧ Below w.heap.size w w'
theorem cutAt_not {l : List UInt8} {k : Nat} (hk : k < cutAt l) (hl : k < l.length) : ¬ ((l.getD k 0).toNat = 47 ∨ (l.getD k 0).toNat = 46) := fun h => by
  have := cutAt_here (Nat.le_of_lt hk) hl h
  omega
theorem ref09_norm_one (neg : Bool) (a : Option Addr) (n cap : Nat) (la : List Nat) (w : World) (g : Nat) (hg : w.heap.size = g) (ha : Wd w a n cap la) (hn : n ≤ 1000) :
    Calls Tryz.prog 10 #[frV neg a n cap (some ⟨g, 0, none⟩) 1 1] (w.alloc (.cells #[.int .u32 1] 54)) (LstQ (mkRat (zval neg (val la)) 1) w) := by
  subst hg
  exact (ref09_norm neg a n cap la _ 1 1 [1] _ (ha.later (below_alloc _ _)) (Wd.lit1 w 54 (x := 1) (by omega)) (by omega) (by omega)).mono fun _ _ ⟨a', n', c', b', m', d', he, h1, h2, hb⟩ => ⟨a', n', c', b', m', d', he, h1, h2, below_then (below_alloc _ _) hb⟩
set_option maxRecDepth 4096 in
set_option maxHeartbeats 8000000 in
theorem ref10_head (l : List UInt8) (w : World) (hl : l.length ≤ 1000) (K : Nat) (hc : cutAt l = K) (hlt : K = l.length) (z p : Int) (hp : 0 ≤ p) (hR : ∀ w' : World, Calls Tryz.prog 55 #[.string (bs (l.take K))] w' (ReadZ z p w')) : Calls Tryz.prog 16 #[.string (bs l)] w (LstQVV ((0 : Int) : Rat) (.int .i64 1) (.int .i64 p) w) := by
  have hs0 := bs_size l
  have HR := Lib.hid (blk_new w #[.bool false, .slice none 0 0, .slice none 0 0] 24)
  have HB := Lib.hid (below_alloc w (.cells #[.bool false, .slice none 0 0, .slice none 0 0] 24))
  have e1 := bs_take l K
  have heq : ((K : Int) == (l.length : Int)) = true := by simp; omega
  have hend : ¬ (K : Int) < (l.length : Int) := by omega
  have HKL := Lib.hid hlt
  clear hlt
  have HC := Lib.hid hc
  have hkc : K ≤ l.length := by have := cutAt_le l; omega
  clear hc
  have HO : ∀ w' : World, Calls Tryz.prog 56 #[.int .i64 0] w' (LstQ ((0 : Int) : Rat) w') := fun w' => ref09_int 0 w' isInt_nought
  generalize ((0 : Int) : Rat) = q at *
  go_enter Tryz.func16, Tryz.ntmps16
  go_wp2
  generalize (w.alloc (.cells #[.bool false, .slice none 0 0, .slice none 0 0] 24)) = W at *
  go_loopw [5] (fun iv wr => ∃ k : Nat, iv = .int .i64 (k : Int) ∧ k ≤ K ∧ wr = W) (fun iv _ => K - (intOf iv).toNat)
  case atStart => exact ⟨0, by go_num, by omega, rfl⟩
  case round =>
    obtain ⟨k, rfl, hk, rfl⟩ := hrel
    by_cases hlt : k < K
    · have hki2 : (k : Int) < (l.length : Int) := by omega
      have hget := bs_get l k (by omega) (by rw [bs_size]; omega)
      have hx := cutAt_not (l := l) (k := k) (by rw [HC.out]; exact hlt) (by omega)
      obtain ⟨x, hxx⟩ : ∃ x, (l.getD k 0).toNat = x := ⟨_, rfl⟩
      rw [hxx] at hget hx
      have e47 : ((x : Int) != 47) = true := by simp; omega
      have e46 : ((x : Int) != 46) = true := by simp; omega
      clear hxx hx
      go_wp2
      go_roundw
      case rel => exact ⟨k + 1, by go_num, by omega, trivial⟩
      case measure => simp [intOf]; omega
    · obtain rfl : k = K := by omega
      clear hlt hk
      obtain ⟨vk0, vk1, vk2⟩ := fcells_3 HR.out
      go_wp2_with fail
      refine (hR _).mono ?_
      rintro e wv1 ⟨a1, n1, c1, rfl, h1, b⟩
      clear vk0 vk1 vk2
      replace HB := Lib.hid (below_then HB.out b)
      replace HR := Lib.hid (blk_later HR.out b)
      clear b
      generalize hs1 : zneg z = s1 at *
      clear hs1
      clear h1
      unfold whV
      have HN : Hid ((World.alloc wv1 (.cells #[.bool s1, .slice a1 n1 c1] 63)).heap[wv1.heap.size]? = some (.cells #[.bool s1, .slice a1 n1 c1] 63 (0, 0))) := Lib.hid (blk_new wv1 _ _)
      replace HB := Lib.hid (below_then HB.out (below_alloc wv1 (.cells #[.bool s1, .slice a1 n1 c1] 63)))
      replace HR := Lib.hid (blk_later HR.out (below_alloc wv1 (.cells #[.bool s1, .slice a1 n1 c1] 63)))
      obtain ⟨vk0, vk1, vk2⟩ := fcells_3 HR.out
      go_wp2_with fail
      refine (HO _).mono ?_
      rintro e wv2 ⟨a2, n2, c2, b2, m2, d2, rfl, h2, g2, b⟩
      clear vk0 vk1 vk2
      replace HB := Lib.hid (below_then HB.out b)
      replace HR := Lib.hid (blk_later HR.out b)
      clear b
      have R2 := Lib.hid h2
      have T2 := Lib.hid g2
      clear h2 g2
      unfold frV
      have q0 := blk_cell HR.out 0
      have q1 := blk_cell HR.out 1
      have q2 := blk_cell HR.out 2
      simp only [List.getElem?_toArray, List.getElem?_cons_zero, List.getElem?_cons_succ] at q0 q1 q2
      have f0 := blk_free HR.out 0
      have f1 := blk_free HR.out 1
      have f2 := blk_free HR.out 2
      replace R2 := Lib.hid (R2.out.stored3 HR.out ((zneg q.num)) a2 n2 c2 (.slice b2 m2 d2))
      replace T2 := Lib.hid (T2.out.stored3 HR.out ((zneg q.num)) a2 n2 c2 (.slice b2 m2 d2))
      replace HB := Lib.hid (below_set3 HB.out (show w.heap.size ≤ w.heap.size by omega) (.bool (zneg q.num)) (.slice a2 n2 c2) (.slice b2 m2 d2))
      replace HR := Lib.hid (blk_set3 HR.out (.bool (zneg q.num)) (.slice a2 n2 c2) (.slice b2 m2 d2))
      go_wp2
      refine bodyPost_ret (results_row_tmps Tryz.results16 _ _ (w.heap.size) 24 #[.bool (zneg q.num), .slice a2 n2 c2, .slice b2 m2 d2] (0, 0) _ rfl HR.out Tryz.underlying24 rfl (by kernel_rfl)) rfl ?_
      exact ⟨a2, n2, c2, b2, m2, d2, rfl, R2.out, T2.out, HB.out⟩
set_option maxRecDepth 4096 in
set_option maxHeartbeats 8000000 in
theorem ref10_head_47 (l : List UInt8) (w : World) (hl : l.length ≤ 1000) (K : Nat) (hc : cutAt l = K) (hlt : K < l.length) (hx : (l.getD K 0).toNat = 47) (z p : Int) (hp : 0 ≤ p) (hR : ∀ w' : World, Calls Tryz.prog 55 #[.string (bs (l.take K))] w' (ReadZ z p w')) : Calls Tryz.prog 16 #[.string (bs l)] w (LstQVV ((0 : Int) : Rat) (.int .i64 1) (.int .i64 p) w) := by
  have hs0 := bs_size l
  have HR := Lib.hid (blk_new w #[.bool false, .slice none 0 0, .slice none 0 0] 24)
  have HB := Lib.hid (below_alloc w (.cells #[.bool false, .slice none 0 0, .slice none 0 0] 24))
  have e1 := bs_take l K
  obtain ⟨j, hj⟩ : ∃ j, K + 1 = j := ⟨_, rfl⟩
  have e2 := bs_drop l j
  have hkj : (K : Int) + 1 = (j : Int) := by omega
  have hjl : (j : Int) ≤ (l.length : Int) := by omega
  have hne : ((K : Int) == (l.length : Int)) = false := by simp; omega
  have hki : (K : Int) < (l.length : Int) := by omega
  have HC := Lib.hid hc
  have hkc : K ≤ l.length := by have := cutAt_le l; omega
  clear hc hj
  have hgetk := bs_get l K hlt (by rw [bs_size]; exact hlt)
  rw [hx] at hgetk
  have HO : ∀ w' : World, Calls Tryz.prog 56 #[.int .i64 0] w' (LstQ ((0 : Int) : Rat) w') := fun w' => ref09_int 0 w' isInt_nought
  generalize ((0 : Int) : Rat) = q at *
  clear hx
  go_enter Tryz.func16, Tryz.ntmps16
  go_wp2
  generalize (w.alloc (.cells #[.bool false, .slice none 0 0, .slice none 0 0] 24)) = W at *
  go_loopw [5] (fun iv wr => ∃ k : Nat, iv = .int .i64 (k : Int) ∧ k ≤ K ∧ wr = W) (fun iv _ => K - (intOf iv).toNat)
  case atStart => exact ⟨0, by go_num, by omega, rfl⟩
  case round =>
    obtain ⟨k, rfl, hk, rfl⟩ := hrel
    by_cases hlt : k < K
    · have hki2 : (k : Int) < (l.length : Int) := by omega
      have hget := bs_get l k (by omega) (by rw [bs_size]; omega)
      have hx := cutAt_not (l := l) (k := k) (by rw [HC.out]; exact hlt) (by omega)
      obtain ⟨x, hxx⟩ : ∃ x, (l.getD k 0).toNat = x := ⟨_, rfl⟩
      rw [hxx] at hget hx
      have e47 : ((x : Int) != 47) = true := by simp; omega
      have e46 : ((x : Int) != 46) = true := by simp; omega
      clear hxx hx
      go_wp2
      go_roundw
      case rel => exact ⟨k + 1, by go_num, by omega, trivial⟩
      case measure => simp [intOf]; omega
    · obtain rfl : k = K := by omega
      clear hlt hk
      obtain ⟨vk0, vk1, vk2⟩ := fcells_3 HR.out
      go_wp2_with fail
      refine (hR _).mono ?_
      rintro e wv1 ⟨a1, n1, c1, rfl, h1, b⟩
      clear vk0 vk1 vk2
      replace HB := Lib.hid (below_then HB.out b)
      replace HR := Lib.hid (blk_later HR.out b)
      clear b
      generalize hs1 : zneg z = s1 at *
      clear hs1
      clear h1
      unfold whV
      have HN : Hid ((World.alloc wv1 (.cells #[.bool s1, .slice a1 n1 c1] 63)).heap[wv1.heap.size]? = some (.cells #[.bool s1, .slice a1 n1 c1] 63 (0, 0))) := Lib.hid (blk_new wv1 _ _)
      replace HB := Lib.hid (below_then HB.out (below_alloc wv1 (.cells #[.bool s1, .slice a1 n1 c1] 63)))
      replace HR := Lib.hid (blk_later HR.out (below_alloc wv1 (.cells #[.bool s1, .slice a1 n1 c1] 63)))
      obtain ⟨vk0, vk1, vk2⟩ := fcells_3 HR.out
      go_wp2_with fail
      refine (HO _).mono ?_
      rintro e wv2 ⟨a2, n2, c2, b2, m2, d2, rfl, h2, g2, b⟩
      clear vk0 vk1 vk2
      replace HB := Lib.hid (below_then HB.out b)
      replace HR := Lib.hid (blk_later HR.out b)
      clear b
      have R2 := Lib.hid h2
      have T2 := Lib.hid g2
      clear h2 g2
      unfold frV
      have q0 := blk_cell HR.out 0
      have q1 := blk_cell HR.out 1
      have q2 := blk_cell HR.out 2
      simp only [List.getElem?_toArray, List.getElem?_cons_zero, List.getElem?_cons_succ] at q0 q1 q2
      have f0 := blk_free HR.out 0
      have f1 := blk_free HR.out 1
      have f2 := blk_free HR.out 2
      replace R2 := Lib.hid (R2.out.stored3 HR.out ((zneg q.num)) a2 n2 c2 (.slice b2 m2 d2))
      replace T2 := Lib.hid (T2.out.stored3 HR.out ((zneg q.num)) a2 n2 c2 (.slice b2 m2 d2))
      replace HB := Lib.hid (below_set3 HB.out (show w.heap.size ≤ w.heap.size by omega) (.bool (zneg q.num)) (.slice a2 n2 c2) (.slice b2 m2 d2))
      replace HR := Lib.hid (blk_set3 HR.out (.bool (zneg q.num)) (.slice a2 n2 c2) (.slice b2 m2 d2))
      go_wp2
      refine bodyPost_ret (results_row_tmps Tryz.results16 _ _ (w.heap.size) 24 #[.bool (zneg q.num), .slice a2 n2 c2, .slice b2 m2 d2] (0, 0) _ rfl HR.out Tryz.underlying24 rfl (by kernel_rfl)) rfl ?_
      exact ⟨a2, n2, c2, b2, m2, d2, rfl, R2.out, T2.out, HB.out⟩
set_option maxRecDepth 4096 in
set_option maxHeartbeats 8000000 in
theorem ref10_head_46 (l : List UInt8) (w : World) (hl : l.length ≤ 1000) (K : Nat) (hc : cutAt l = K) (hlt : K < l.length) (hx : (l.getD K 0).toNat = 46) (z p : Int) (hp : 0 ≤ p) (hR : ∀ w' : World, Calls Tryz.prog 55 #[.string (bs (l.take K))] w' (ReadZ z p w')) : Calls Tryz.prog 16 #[.string (bs l)] w (LstQVV ((0 : Int) : Rat) (.int .i64 1) (.int .i64 p) w) := by
  have hs0 := bs_size l
  have HR := Lib.hid (blk_new w #[.bool false, .slice none 0 0, .slice none 0 0] 24)
  have HB := Lib.hid (below_alloc w (.cells #[.bool false, .slice none 0 0, .slice none 0 0] 24))
  have e1 := bs_take l K
  obtain ⟨j, hj⟩ : ∃ j, K + 1 = j := ⟨_, rfl⟩
  have e2 := bs_drop l j
  have hkj : (K : Int) + 1 = (j : Int) := by omega
  have hjl : (j : Int) ≤ (l.length : Int) := by omega
  have hne : ((K : Int) == (l.length : Int)) = false := by simp; omega
  have hki : (K : Int) < (l.length : Int) := by omega
  have HC := Lib.hid hc
  have hkc : K ≤ l.length := by have := cutAt_le l; omega
  clear hc hj
  have hgetk := bs_get l K hlt (by rw [bs_size]; exact hlt)
  rw [hx] at hgetk
  have HO : ∀ w' : World, Calls Tryz.prog 56 #[.int .i64 0] w' (LstQ ((0 : Int) : Rat) w') := fun w' => ref09_int 0 w' isInt_nought
  generalize ((0 : Int) : Rat) = q at *
  clear hx
  go_enter Tryz.func16, Tryz.ntmps16
  go_wp2
  generalize (w.alloc (.cells #[.bool false, .slice none 0 0, .slice none 0 0] 24)) = W at *
  go_loopw [5] (fun iv wr => ∃ k : Nat, iv = .int .i64 (k : Int) ∧ k ≤ K ∧ wr = W) (fun iv _ => K - (intOf iv).toNat)
  case atStart => exact ⟨0, by go_num, by omega, rfl⟩
  case round =>
    obtain ⟨k, rfl, hk, rfl⟩ := hrel
    by_cases hlt : k < K
    · have hki2 : (k : Int) < (l.length : Int) := by omega
      have hget := bs_get l k (by omega) (by rw [bs_size]; omega)
      have hx := cutAt_not (l := l) (k := k) (by rw [HC.out]; exact hlt) (by omega)
      obtain ⟨x, hxx⟩ : ∃ x, (l.getD k 0).toNat = x := ⟨_, rfl⟩
      rw [hxx] at hget hx
      have e47 : ((x : Int) != 47) = true := by simp; omega
      have e46 : ((x : Int) != 46) = true := by simp; omega
      clear hxx hx
      go_wp2
      go_roundw
      case rel => exact ⟨k + 1, by go_num, by omega, trivial⟩
      case measure => simp [intOf]; omega
    · obtain rfl : k = K := by omega
      clear hlt hk
      obtain ⟨vk0, vk1, vk2⟩ := fcells_3 HR.out
      go_wp2_with fail
      refine (hR _).mono ?_
      rintro e wv1 ⟨a1, n1, c1, rfl, h1, b⟩
      clear vk0 vk1 vk2
      replace HB := Lib.hid (below_then HB.out b)
      replace HR := Lib.hid (blk_later HR.out b)
      clear b
      generalize hs1 : zneg z = s1 at *
      clear hs1
      clear h1
      unfold whV
      have HN : Hid ((World.alloc wv1 (.cells #[.bool s1, .slice a1 n1 c1] 63)).heap[wv1.heap.size]? = some (.cells #[.bool s1, .slice a1 n1 c1] 63 (0, 0))) := Lib.hid (blk_new wv1 _ _)
      replace HB := Lib.hid (below_then HB.out (below_alloc wv1 (.cells #[.bool s1, .slice a1 n1 c1] 63)))
      replace HR := Lib.hid (blk_later HR.out (below_alloc wv1 (.cells #[.bool s1, .slice a1 n1 c1] 63)))
      obtain ⟨vk0, vk1, vk2⟩ := fcells_3 HR.out
      go_wp2_with fail
      refine (HO _).mono ?_
      rintro e wv2 ⟨a2, n2, c2, b2, m2, d2, rfl, h2, g2, b⟩
      clear vk0 vk1 vk2
      replace HB := Lib.hid (below_then HB.out b)
      replace HR := Lib.hid (blk_later HR.out b)
      clear b
      have R2 := Lib.hid h2
      have T2 := Lib.hid g2
      clear h2 g2
      unfold frV
      have q0 := blk_cell HR.out 0
      have q1 := blk_cell HR.out 1
      have q2 := blk_cell HR.out 2
      simp only [List.getElem?_toArray, List.getElem?_cons_zero, List.getElem?_cons_succ] at q0 q1 q2
      have f0 := blk_free HR.out 0
      have f1 := blk_free HR.out 1
      have f2 := blk_free HR.out 2
      replace R2 := Lib.hid (R2.out.stored3 HR.out ((zneg q.num)) a2 n2 c2 (.slice b2 m2 d2))
      replace T2 := Lib.hid (T2.out.stored3 HR.out ((zneg q.num)) a2 n2 c2 (.slice b2 m2 d2))
      replace HB := Lib.hid (below_set3 HB.out (show w.heap.size ≤ w.heap.size by omega) (.bool (zneg q.num)) (.slice a2 n2 c2) (.slice b2 m2 d2))
      replace HR := Lib.hid (blk_set3 HR.out (.bool (zneg q.num)) (.slice a2 n2 c2) (.slice b2 m2 d2))
      go_wp2
      refine bodyPost_ret (results_row_tmps Tryz.results16 _ _ (w.heap.size) 24 #[.bool (zneg q.num), .slice a2 n2 c2, .slice b2 m2 d2] (0, 0) _ rfl HR.out Tryz.underlying24 rfl (by kernel_rfl)) rfl ?_
      exact ⟨a2, n2, c2, b2, m2, d2, rfl, R2.out, T2.out, HB.out⟩
set_option maxRecDepth 4096 in
set_option maxHeartbeats 8000000 in
theorem ref10_whole (l : List UInt8) (w : World) (hl : l.length ≤ 1000) (K : Nat) (hc : cutAt l = K) (hlt : K = l.length) (z : Int) (hz : (dg z.natAbs).length ≤ 20) (hR : ∀ w' : World, Calls Tryz.prog 55 #[.string (bs (l.take K))] w' (ReadZ z (-1) w')) : Calls Tryz.prog 16 #[.string (bs l)] w (LstQVV ((z : Int) : Rat) (.int .i64 0) (.int .i64 0) w) := by
  have hs0 := bs_size l
  have HR := Lib.hid (blk_new w #[.bool false, .slice none 0 0, .slice none 0 0] 24)
  have HB := Lib.hid (below_alloc w (.cells #[.bool false, .slice none 0 0, .slice none 0 0] 24))
  have e1 := bs_take l K
  have heq : ((K : Int) == (l.length : Int)) = true := by simp; omega
  have hend : ¬ (K : Int) < (l.length : Int) := by omega
  have HKL := Lib.hid hlt
  clear hlt
  have HC := Lib.hid hc
  have hkc : K ≤ l.length := by have := cutAt_le l; omega
  clear hc
  have HQ : Hid (mkRat (zval (zneg z) (val (dg z.natAbs))) 1 = (z : Rat)) := Lib.hid (by rw [val_dg, zval_of, Rat.mkRat_one])
  generalize (z : Rat) = q at *
  go_enter Tryz.func16, Tryz.ntmps16
  go_wp2
  generalize (w.alloc (.cells #[.bool false, .slice none 0 0, .slice none 0 0] 24)) = W at *
  go_loopw [5] (fun iv wr => ∃ k : Nat, iv = .int .i64 (k : Int) ∧ k ≤ K ∧ wr = W) (fun iv _ => K - (intOf iv).toNat)
  case atStart => exact ⟨0, by go_num, by omega, rfl⟩
  case round =>
    obtain ⟨k, rfl, hk, rfl⟩ := hrel
    by_cases hlt : k < K
    · have hki2 : (k : Int) < (l.length : Int) := by omega
      have hget := bs_get l k (by omega) (by rw [bs_size]; omega)
      have hx := cutAt_not (l := l) (k := k) (by rw [HC.out]; exact hlt) (by omega)
      obtain ⟨x, hxx⟩ : ∃ x, (l.getD k 0).toNat = x := ⟨_, rfl⟩
      rw [hxx] at hget hx
      have e47 : ((x : Int) != 47) = true := by simp; omega
      have e46 : ((x : Int) != 46) = true := by simp; omega
      clear hxx hx
      go_wp2
      go_roundw
      case rel => exact ⟨k + 1, by go_num, by omega, trivial⟩
      case measure => simp [intOf]; omega
    · obtain rfl : k = K := by omega
      clear hlt hk
      obtain ⟨vk0, vk1, vk2⟩ := fcells_3 HR.out
      go_wp2_with fail
      refine (hR _).mono ?_
      rintro e wv1 ⟨a1, n1, c1, rfl, h1, b⟩
      clear vk0 vk1 vk2
      replace HB := Lib.hid (below_then HB.out b)
      replace HR := Lib.hid (blk_later HR.out b)
      clear b
      have ln1 := h1.len
      have R1 := Lib.hid h1
      clear h1
      unfold whV
      have HN : Hid ((World.alloc wv1 (.cells #[.bool (zneg z), .slice a1 n1 c1] 63)).heap[wv1.heap.size]? = some (.cells #[.bool (zneg z), .slice a1 n1 c1] 63 (0, 0))) := Lib.hid (blk_new wv1 _ _)
      replace HB := Lib.hid (below_then HB.out (below_alloc wv1 (.cells #[.bool (zneg z), .slice a1 n1 c1] 63)))
      replace HR := Lib.hid (blk_later HR.out (below_alloc wv1 (.cells #[.bool (zneg z), .slice a1 n1 c1] 63)))
      replace R1 := Lib.hid (R1.out.later (below_alloc wv1 (.cells #[.bool (zneg z), .slice a1 n1 c1] 63)))
      obtain ⟨vk0, vk1, vk2, vk3, vk4⟩ := fcells_3_2 HR.out HN.out
      go_wp2_with fail
      refine (ref09_norm_one (zneg z) a1 n1 c1 _ _ (wv1.heap.size + 1) (blk_size _ _) R1.out (by omega)).mono ?_
      rintro e wv2 ⟨a2, n2, c2, b2, m2, d2, rfl, h2, g2, b⟩
      clear vk0 vk1 vk2 vk3 vk4
      replace HB := Lib.hid (below_then HB.out b)
      replace HR := Lib.hid (blk_later HR.out b)
      replace HN := Lib.hid (blk_later HN.out b)
      clear R1
      clear b
      rw [HQ.out] at h2 g2 ⊢
      have R2 := Lib.hid h2
      have T2 := Lib.hid g2
      clear h2 g2
      unfold frV
      have q0 := blk_cell HR.out 0
      have q1 := blk_cell HR.out 1
      have q2 := blk_cell HR.out 2
      simp only [List.getElem?_toArray, List.getElem?_cons_zero, List.getElem?_cons_succ] at q0 q1 q2
      have f0 := blk_free HR.out 0
      have f1 := blk_free HR.out 1
      have f2 := blk_free HR.out 2
      replace R2 := Lib.hid (R2.out.stored3 HR.out ((zneg q.num)) a2 n2 c2 (.slice b2 m2 d2))
      replace T2 := Lib.hid (T2.out.stored3 HR.out ((zneg q.num)) a2 n2 c2 (.slice b2 m2 d2))
      replace HB := Lib.hid (below_set3 HB.out (show w.heap.size ≤ w.heap.size by omega) (.bool (zneg q.num)) (.slice a2 n2 c2) (.slice b2 m2 d2))
      replace HR := Lib.hid (blk_set3 HR.out (.bool (zneg q.num)) (.slice a2 n2 c2) (.slice b2 m2 d2))
      go_wp2
      refine bodyPost_ret (results_row_tmps Tryz.results16 _ _ (w.heap.size) 24 #[.bool (zneg q.num), .slice a2 n2 c2, .slice b2 m2 d2] (0, 0) _ rfl HR.out Tryz.underlying24 rfl (by kernel_rfl)) rfl ?_
      exact ⟨a2, n2, c2, b2, m2, d2, rfl, R2.out, T2.out, HB.out⟩
end Go.Proofs.YteoeicfbaffjcaaGreatDoor
