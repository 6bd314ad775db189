/-
  Several texts of this claim as one, group 24.
-/
import Derived.Test.YtjeigdlhjghinaaGreatDoorG13
import Derived.Deep.RegionHeld3
import Derived.Deep.RegionWith
import Derived.Deep.CutRange
import Derived.Test.YtjeigdlhjghinaaGreatDoorG19
import Derived.StillTailTactics
import Derived.Test.YtjeigdlhjghinaaGreatDoorG23
import Derived.Test.YtjeigdlhjghinaaGreatDoorG15
/-
  The contracts of the document's answer for layer 9: Same as a decision, Up, Floor.
-/
namespace Go.Proofs.YtjeigdlhjghinaaGreatDoor
open Go.RowKit

theorem ref02_same_g (a : Option Addr) (n cap : Nat) (la : List Nat) (b : Option Addr) (m cap' : Nat) (lb : List Nat) (w : World) (ha : Wd w a n cap la) (hb : Wd w b m cap' lb) : Calls Tryz.prog 87 #[.slice a n cap, .slice b m cap'] w (Gives (.bool (decide (la = lb))) w) :=
  (ref02_same a n cap la b m cap' lb w ha hb).mono fun e w' ⟨he, q, hw⟩ => ⟨he, by rw [hw]; exact below_draws _ _⟩
set_option maxRecDepth 4096 in
set_option maxHeartbeats 2000000 in
theorem ref09_same_sign (s0 : Bool) (a0 : Option Addr) (n0 c0 : Nat) (la0 : List Nat) (b0 : Option Addr) (m0 d0 : Nat) (lb0 : List Nat) (s1 : Bool) (a1 : Option Addr) (n1 c1 : Nat) (la1 : List Nat) (b1 : Option Addr) (m1 d1 : Nat) (lb1 : List Nat) (w : World) (ha0 : Wd w a0 n0 c0 la0) (hb0 : Wd w b0 m0 d0 lb0) (ha1 : Wd w a1 n1 c1 la1) (hb1 : Wd w b1 m1 d1 lb1) (hs : s0 ≠ s1) :
    Calls Tryz.prog 49 #[frV s0 a0 n0 c0 b0 m0 d0, frV s1 a1 n1 c1 b1 m1 d1] w (Gives (.bool false) w) := by
  have HB := Lib.hid (below_then (below_alloc w (.cells #[.bool s0, .slice a0 n0 c0, .slice b0 m0 d0] 44)) (below_alloc _ (.cells #[.bool s1, .slice a1 n1 c1, .slice b1 m1 d1] 44)))
  have A0 := Lib.hid (ha0.later HB.out)
  have B0 := Lib.hid (hb0.later HB.out)
  have A1 := Lib.hid (ha1.later HB.out)
  have B1 := Lib.hid (hb1.later HB.out)
  obtain ⟨hx0, hx1⟩ := boxes_at w ((w.alloc (.cells #[.bool s0, .slice a0 n0 c0, .slice b0 m0 d0] 44)).alloc (.cells #[.bool s1, .slice a1 n1 c1, .slice b1 m1 d1] 44)) #[.bool s0, .slice a0 n0 c0, .slice b0 m0 d0] #[.bool s1, .slice a1 n1 c1, .slice b1 m1 d1] 44 44 (Below.refl _ _)
  have X0 := Lib.hid hx0
  have X1 := Lib.hid hx1
  clear hx0 hx1 ha0 hb0 ha1 hb1
  have hb2 : (s0 == s1) = false := by cases s0 <;> cases s1 <;> first | rfl | exact absurd rfl hs
  clear hs
  go_enter Tryz.func49, Tryz.ntmps49
  unfold frV
  obtain ⟨k0, k1, k2, k3, k4, k5⟩ := cells_3_3 X0.out X1.out
  go_wp2
  go_ret
  exact ⟨rfl, HB.out⟩
set_option maxRecDepth 4096 in
set_option maxHeartbeats 2000000 in
theorem ref09_same_num (s0 : Bool) (a0 : Option Addr) (n0 c0 : Nat) (la0 : List Nat) (b0 : Option Addr) (m0 d0 : Nat) (lb0 : List Nat) (s1 : Bool) (a1 : Option Addr) (n1 c1 : Nat) (la1 : List Nat) (b1 : Option Addr) (m1 d1 : Nat) (lb1 : List Nat) (w : World) (ha0 : Wd w a0 n0 c0 la0) (hb0 : Wd w b0 m0 d0 lb0) (ha1 : Wd w a1 n1 c1 la1) (hb1 : Wd w b1 m1 d1 lb1) (hs : s0 = s1) (hl : la0 ≠ la1) :
    Calls Tryz.prog 49 #[frV s0 a0 n0 c0 b0 m0 d0, frV s1 a1 n1 c1 b1 m1 d1] w (Gives (.bool false) w) := by
  have HB := Lib.hid (below_then (below_alloc w (.cells #[.bool s0, .slice a0 n0 c0, .slice b0 m0 d0] 44)) (below_alloc _ (.cells #[.bool s1, .slice a1 n1 c1, .slice b1 m1 d1] 44)))
  have A0 := Lib.hid (ha0.later HB.out)
  have B0 := Lib.hid (hb0.later HB.out)
  have A1 := Lib.hid (ha1.later HB.out)
  have B1 := Lib.hid (hb1.later HB.out)
  obtain ⟨hx0, hx1⟩ := boxes_at w ((w.alloc (.cells #[.bool s0, .slice a0 n0 c0, .slice b0 m0 d0] 44)).alloc (.cells #[.bool s1, .slice a1 n1 c1, .slice b1 m1 d1] 44)) #[.bool s0, .slice a0 n0 c0, .slice b0 m0 d0] #[.bool s1, .slice a1 n1 c1, .slice b1 m1 d1] 44 44 (Below.refl _ _)
  have X0 := Lib.hid hx0
  have X1 := Lib.hid hx1
  clear hx0 hx1 ha0 hb0 ha1 hb1
  subst hs
  have hb2 : (s0 == s0) = true := by cases s0 <;> rfl
  have HL := Lib.hid hl
  clear hl
  go_enter Tryz.func49, Tryz.ntmps49
  unfold frV
  obtain ⟨k0, k1, k2, k3, k4, k5⟩ := cells_3_3 X0.out X1.out
  go_wp2_with fail
  refine (ref02_same_g a0 n0 c0 la0 a1 n1 c1 la1 _ A0.out A1.out).mono ?_
  rintro e w1 ⟨rfl, b⟩
  clear k0 k1 k2 k3 k4 k5
  replace HB := Lib.hid (below_then HB.out b)
  replace X0 := Lib.hid (blk_later X0.out b)
  replace X1 := Lib.hid (blk_later X1.out b)
  replace A0 := Lib.hid (A0.out.later b)
  replace B0 := Lib.hid (B0.out.later b)
  replace A1 := Lib.hid (A1.out.later b)
  replace B1 := Lib.hid (B1.out.later b)
  clear b
  rw [decide_eq_false HL.out]
  obtain ⟨k0, k1, k2, k3, k4, k5⟩ := cells_3_3 X0.out X1.out
  go_wp2
  go_ret
  exact ⟨rfl, HB.out⟩
set_option maxRecDepth 4096 in
set_option maxHeartbeats 2000000 in
theorem ref09_same_den (s0 : Bool) (a0 : Option Addr) (n0 c0 : Nat) (la0 : List Nat) (b0 : Option Addr) (m0 d0 : Nat) (lb0 : List Nat) (s1 : Bool) (a1 : Option Addr) (n1 c1 : Nat) (la1 : List Nat) (b1 : Option Addr) (m1 d1 : Nat) (lb1 : List Nat) (w : World) (ha0 : Wd w a0 n0 c0 la0) (hb0 : Wd w b0 m0 d0 lb0) (ha1 : Wd w a1 n1 c1 la1) (hb1 : Wd w b1 m1 d1 lb1) (hs : s0 = s1) (hl : la0 = la1) (hk : lb0 ≠ lb1) :
    Calls Tryz.prog 49 #[frV s0 a0 n0 c0 b0 m0 d0, frV s1 a1 n1 c1 b1 m1 d1] w (Gives (.bool false) w) := by
  have HB := Lib.hid (below_then (below_alloc w (.cells #[.bool s0, .slice a0 n0 c0, .slice b0 m0 d0] 44)) (below_alloc _ (.cells #[.bool s1, .slice a1 n1 c1, .slice b1 m1 d1] 44)))
  have A0 := Lib.hid (ha0.later HB.out)
  have B0 := Lib.hid (hb0.later HB.out)
  have A1 := Lib.hid (ha1.later HB.out)
  have B1 := Lib.hid (hb1.later HB.out)
  obtain ⟨hx0, hx1⟩ := boxes_at w ((w.alloc (.cells #[.bool s0, .slice a0 n0 c0, .slice b0 m0 d0] 44)).alloc (.cells #[.bool s1, .slice a1 n1 c1, .slice b1 m1 d1] 44)) #[.bool s0, .slice a0 n0 c0, .slice b0 m0 d0] #[.bool s1, .slice a1 n1 c1, .slice b1 m1 d1] 44 44 (Below.refl _ _)
  have X0 := Lib.hid hx0
  have X1 := Lib.hid hx1
  clear hx0 hx1 ha0 hb0 ha1 hb1
  subst hs
  have hb2 : (s0 == s0) = true := by cases s0 <;> rfl
  have HL := Lib.hid hl
  clear hl
  have HK := Lib.hid hk
  clear hk
  go_enter Tryz.func49, Tryz.ntmps49
  unfold frV
  obtain ⟨k0, k1, k2, k3, k4, k5⟩ := cells_3_3 X0.out X1.out
  go_wp2_with fail
  refine (ref02_same_g a0 n0 c0 la0 a1 n1 c1 la1 _ A0.out A1.out).mono ?_
  rintro e w1 ⟨rfl, b⟩
  clear k0 k1 k2 k3 k4 k5
  replace HB := Lib.hid (below_then HB.out b)
  replace X0 := Lib.hid (blk_later X0.out b)
  replace X1 := Lib.hid (blk_later X1.out b)
  replace A0 := Lib.hid (A0.out.later b)
  replace B0 := Lib.hid (B0.out.later b)
  replace A1 := Lib.hid (A1.out.later b)
  replace B1 := Lib.hid (B1.out.later b)
  clear b
  rw [decide_eq_true HL.out]
  obtain ⟨k0, k1, k2, k3, k4, k5⟩ := cells_3_3 X0.out X1.out
  go_wp2_with fail
  refine (ref02_same_g b0 m0 d0 lb0 b1 m1 d1 lb1 _ B0.out B1.out).mono ?_
  rintro e w2 ⟨rfl, b⟩
  clear k0 k1 k2 k3 k4 k5
  replace HB := Lib.hid (below_then HB.out b)
  replace X0 := Lib.hid (blk_later X0.out b)
  replace X1 := Lib.hid (blk_later X1.out b)
  replace A0 := Lib.hid (A0.out.later b)
  replace B0 := Lib.hid (B0.out.later b)
  replace A1 := Lib.hid (A1.out.later b)
  replace B1 := Lib.hid (B1.out.later b)
  clear b
  rw [decide_eq_false HK.out]
  obtain ⟨k0, k1, k2, k3, k4, k5⟩ := cells_3_3 X0.out X1.out
  go_wp2
  go_ret
  exact ⟨rfl, HB.out⟩
set_option maxRecDepth 4096 in
set_option maxHeartbeats 2000000 in
theorem ref09_same_right (s0 : Bool) (a0 : Option Addr) (n0 c0 : Nat) (la0 : List Nat) (b0 : Option Addr) (m0 d0 : Nat) (lb0 : List Nat) (s1 : Bool) (a1 : Option Addr) (n1 c1 : Nat) (la1 : List Nat) (b1 : Option Addr) (m1 d1 : Nat) (lb1 : List Nat) (w : World) (ha0 : Wd w a0 n0 c0 la0) (hb0 : Wd w b0 m0 d0 lb0) (ha1 : Wd w a1 n1 c1 la1) (hb1 : Wd w b1 m1 d1 lb1) (hs : s0 = s1) (hl : la0 = la1) (hk : lb0 = lb1) :
    Calls Tryz.prog 49 #[frV s0 a0 n0 c0 b0 m0 d0, frV s1 a1 n1 c1 b1 m1 d1] w (Gives (.bool true) w) := by
  have HB := Lib.hid (below_then (below_alloc w (.cells #[.bool s0, .slice a0 n0 c0, .slice b0 m0 d0] 44)) (below_alloc _ (.cells #[.bool s1, .slice a1 n1 c1, .slice b1 m1 d1] 44)))
  have A0 := Lib.hid (ha0.later HB.out)
  have B0 := Lib.hid (hb0.later HB.out)
  have A1 := Lib.hid (ha1.later HB.out)
  have B1 := Lib.hid (hb1.later HB.out)
  obtain ⟨hx0, hx1⟩ := boxes_at w ((w.alloc (.cells #[.bool s0, .slice a0 n0 c0, .slice b0 m0 d0] 44)).alloc (.cells #[.bool s1, .slice a1 n1 c1, .slice b1 m1 d1] 44)) #[.bool s0, .slice a0 n0 c0, .slice b0 m0 d0] #[.bool s1, .slice a1 n1 c1, .slice b1 m1 d1] 44 44 (Below.refl _ _)
  have X0 := Lib.hid hx0
  have X1 := Lib.hid hx1
  clear hx0 hx1 ha0 hb0 ha1 hb1
  subst hs
  have hb2 : (s0 == s0) = true := by cases s0 <;> rfl
  have HL := Lib.hid hl
  clear hl
  have HK := Lib.hid hk
  clear hk
  go_enter Tryz.func49, Tryz.ntmps49
  unfold frV
  obtain ⟨k0, k1, k2, k3, k4, k5⟩ := cells_3_3 X0.out X1.out
  go_wp2_with fail
  refine (ref02_same_g a0 n0 c0 la0 a1 n1 c1 la1 _ A0.out A1.out).mono ?_
  rintro e w1 ⟨rfl, b⟩
  clear k0 k1 k2 k3 k4 k5
  replace HB := Lib.hid (below_then HB.out b)
  replace X0 := Lib.hid (blk_later X0.out b)
  replace X1 := Lib.hid (blk_later X1.out b)
  replace A0 := Lib.hid (A0.out.later b)
  replace B0 := Lib.hid (B0.out.later b)
  replace A1 := Lib.hid (A1.out.later b)
  replace B1 := Lib.hid (B1.out.later b)
  clear b
  rw [decide_eq_true HL.out]
  obtain ⟨k0, k1, k2, k3, k4, k5⟩ := cells_3_3 X0.out X1.out
  go_wp2_with fail
  refine (ref02_same_g b0 m0 d0 lb0 b1 m1 d1 lb1 _ B0.out B1.out).mono ?_
  rintro e w2 ⟨rfl, b⟩
  clear k0 k1 k2 k3 k4 k5
  replace HB := Lib.hid (below_then HB.out b)
  replace X0 := Lib.hid (blk_later X0.out b)
  replace X1 := Lib.hid (blk_later X1.out b)
  replace A0 := Lib.hid (A0.out.later b)
  replace B0 := Lib.hid (B0.out.later b)
  replace A1 := Lib.hid (A1.out.later b)
  replace B1 := Lib.hid (B1.out.later b)
  clear b
  rw [decide_eq_true HK.out]
  obtain ⟨k0, k1, k2, k3, k4, k5⟩ := cells_3_3 X0.out X1.out
  go_wp2
  go_ret
  exact ⟨rfl, HB.out⟩
theorem ref09_same (s0 : Bool) (a0 : Option Addr) (n0 c0 : Nat) (la0 : List Nat) (b0 : Option Addr) (m0 d0 : Nat) (lb0 : List Nat) (s1 : Bool) (a1 : Option Addr) (n1 c1 : Nat) (la1 : List Nat) (b1 : Option Addr) (m1 d1 : Nat) (lb1 : List Nat) (w : World) (ha0 : Wd w a0 n0 c0 la0) (hb0 : Wd w b0 m0 d0 lb0) (ha1 : Wd w a1 n1 c1 la1) (hb1 : Wd w b1 m1 d1 lb1) :
    Calls Tryz.prog 49 #[frV s0 a0 n0 c0 b0 m0 d0, frV s1 a1 n1 c1 b1 m1 d1] w (Gives (.bool (decide (s0 = s1 ∧ la0 = la1 ∧ lb0 = lb1))) w) := by
  by_cases hs : s0 = s1
  · by_cases hl : la0 = la1
    · by_cases hk : lb0 = lb1
      · rw [decide_eq_true ⟨hs, hl, hk⟩]; exact ref09_same_right s0 a0 n0 c0 la0 b0 m0 d0 lb0 s1 a1 n1 c1 la1 b1 m1 d1 lb1 w ha0 hb0 ha1 hb1 hs hl hk
      · rw [decide_eq_false (fun h => hk h.2.2)]; exact ref09_same_den s0 a0 n0 c0 la0 b0 m0 d0 lb0 s1 a1 n1 c1 la1 b1 m1 d1 lb1 w ha0 hb0 ha1 hb1 hs hl hk
    · rw [decide_eq_false (fun h => hl h.2.1)]; exact ref09_same_num s0 a0 n0 c0 la0 b0 m0 d0 lb0 s1 a1 n1 c1 la1 b1 m1 d1 lb1 w ha0 hb0 ha1 hb1 hs hl
  · rw [decide_eq_false (fun h => hs h.1)]; exact ref09_same_sign s0 a0 n0 c0 la0 b0 m0 d0 lb0 s1 a1 n1 c1 la1 b1 m1 d1 lb1 w ha0 hb0 ha1 hb1 hs
set_option maxHeartbeats 1000000 in
theorem ref09_up (s0 : Bool) (a0 : Option Addr) (n0 c0 : Nat) (b0 : Option Addr) (m0 d0 : Nat) (w : World) : Calls Tryz.prog 123 #[frV s0 a0 n0 c0 b0 m0 d0] w (Gives (whV s0 a0 n0 c0) w) := by
  have HG : Hid (((w.alloc (.cells #[.bool s0, .slice a0 n0 c0, .slice b0 m0 d0] 44)).alloc (.cells #[.bool s0, .slice a0 n0 c0] 126)).heap[w.heap.size + 1]? = some (.cells #[.bool s0, .slice a0 n0 c0] 126 (0, 0))) := Lib.hid (boxes_at w ((w.alloc (.cells #[.bool s0, .slice a0 n0 c0, .slice b0 m0 d0] 44)).alloc (.cells #[.bool s0, .slice a0 n0 c0] 126)) _ _ _ _ (Below.refl _ _)).2
  have HB := Lib.hid (below_then (below_alloc w (.cells #[.bool s0, .slice a0 n0 c0, .slice b0 m0 d0] 44)) (below_alloc _ (.cells #[.bool s0, .slice a0 n0 c0] 126)))
  go_enter Tryz.func123, Tryz.ntmps123
  unfold frV
  go_wp2
  refine bodyPost_ret (results_cell_row Tryz.results123 _ _ (w.heap.size + 1) 126 #[.bool s0, .slice a0 n0 c0] (0, 0) _ rfl HG.out Tryz.underlying126 rfl (by kernel_rfl)) rfl ?_
  exact ⟨rfl, HB.out⟩
end Go.Proofs.YtjeigdlhjghinaaGreatDoor

/-
  The document's answer of layer 9: Floor.
-/
namespace Go.Proofs.YtjeigdlhjghinaaGreatDoor
open Go.RowKit

end Go.Proofs.YtjeigdlhjghinaaGreatDoor

/-
  The document's answer of layer 11: Long, Zero, Unit. Written by genref11.py.
-/
namespace Go.Proofs.YtjeigdlhjghinaaGreatDoor
open Go.RowKit

set_option maxRecDepth 4096 in
set_option maxHeartbeats 4000000 in
theorem ref11_long (a : Option Addr) (n c : Nat) (L : List Fx) (K N : Int) (r : Bool) (w : World) (h : Fxs w a n c L) (hK : 0 ≤ K ∧ K ≤ 1000) (hr : Hid (r = true ↔ ¬ ((n : Int) ≤ K ∧ thinI N L))) :
    Calls Tryz.prog 9 #[.slice a n c, .int .i64 K, .int .i64 N] w (Gives (.bool r) w) := by
  have HK := Lib.hid h
  have HLl := Lib.hid h.len
  have hbd := h.bound
  obtain ⟨hK0, hK1⟩ := hK
  clear h
  go_enter Tryz.func9, Tryz.ntmps9
  go_wp2
  go_loopw [7] (fun iv wr => ∃ k : Nat, k ≤ n ∧ (k : Int) ≤ K ∧ iv = .int .i64 (k : Int) ∧ Hid (thinI N (L.take k)) ∧ Hid (Below w.heap.size w wr)) (fun iv _ => n - (intOf iv).toNat)
  case atStart => exact ⟨0, by omega, by omega, rfl, Lib.hid (fun x hx => by simp at hx), Lib.hid (Below.refl _ _)⟩
  case round =>
    obtain ⟨k, hk, hkK, rfl, HTh, HB⟩ := hrel
    by_cases hlt : k < n
    · have hki : (k : Int) < (n : Int) := by omega
      by_cases hltK : (k : Int) < K
      · obtain ⟨bb, off, rfl, e0, e1, e2, -⟩ := HK.out.at hlt
        have HT : Hid (L.take (k + 1) = L.take k ++ [L.getD k Fx.zero]) := Lib.hid (fx_more (by rw [HLl.out]; exact hlt))
        have HM : Hid (L.getD k Fx.zero ∈ L) := Lib.hid (fx_mem (by rw [HLl.out]; exact hlt))
        generalize L.getD k Fx.zero = xk at *
        obtain ⟨sk, ak, nk, ck, lak, bk, mk, dk, lbk⟩ := xk
        simp only at e0 e1 e2
        have HE : Hid (w.cell? ⟨bb, off + k * 3, none⟩ = some (.bool sk) ∧ w.cell? ⟨bb, off + k * 3 + 1, none⟩ = some (.slice ak nk ck) ∧ w.cell? ⟨bb, off + k * 3 + 2, none⟩ = some (.slice bk mk dk)) := Lib.hid ⟨e0, e1, e2⟩
        clear e0 e1 e2
        obtain ⟨e0, e1, e2⟩ := three_on HE.out HB.out
        go_wp2_with fail
        refine (ref09_long sk ak nk ck bk mk dk N _).mono ?_
        rintro e w4 ⟨rfl, b4⟩
        clear e0 e1 e2
        replace HB := Lib.hid (below_then HB.out b4)
        clear b4
        by_cases hb : N < (nk : Int) ∨ N < (mk : Int)
        · have hl : (decide (N < (nk : Int)) || decide (N < (mk : Int))) = true := by
            rw [Bool.or_eq_true]
            exact hb.imp decide_eq_true decide_eq_true
          rw [hl]
          have hrt : r = true := hr.out.2 (fun h8 => by
            have := h8.2 _ HM.out
            simp only at this
            omega)
          subst hrt
          clear hl hb
          go_wp2
          go_ret
          exact ⟨rfl, HB.out⟩
        · have hl : (decide (N < (nk : Int)) || decide (N < (mk : Int))) = false := by
            rw [decide_eq_false (fun h => hb (.inl h)), decide_eq_false (fun h => hb (.inr h))]; rfl
          rw [hl]
          have HTh9 : Hid (thinI N (L.take (k + 1))) := Lib.hid (fun x hx => by
            rw [HT.out] at hx
            rcases List.mem_append.1 hx with hx | hx
            · exact HTh.out x hx
            · rw [List.mem_singleton.1 hx]
              simp only
              omega)
          clear hl hb HTh HT HM
          go_wp2
          go_roundw
          case rel => exact ⟨k + 1, by omega, by omega, by go_num, HTh9, HB⟩
          case measure => simp [intOf]; omega
      · have hrt : r = true := hr.out.2 (fun h8 => by have := h8.1; omega)
        have hnk : K < (n : Int) := by omega
        subst hrt
        go_wp2
        go_ret
        exact ⟨rfl, HB.out⟩
    · obtain rfl : k = n := by omega
      have hrf : r = false := by
        cases r with
        | false => rfl
        | true =>
          refine absurd (hr.out.1 rfl) (fun h8 => h8 ⟨hkK, ?_⟩)
          have h9 := HTh.out
          rwa [List.take_of_length_le (by rw [HLl.out]; exact Nat.le_refl _)] at h9
      subst hrf
      have hnk : ¬ K < (k : Int) := by omega
      go_wp2
      go_ret
      exact ⟨rfl, HB.out⟩
theorem rcut_lt {n : Int} {k : Nat} : k < rcut n ↔ (k : Int) < n ∧ (k : Int) < 300 := by unfold rcut; omega
theorem rcut_le (n : Int) : rcut n ≤ 300 := by unfold rcut; omega
theorem reps_more {k m : Nat} (h : k < m) : (List.replicate m (0 : Rat)).take (k + 1) = (List.replicate m (0 : Rat)).take k ++ [0] := by
  rw [List.take_replicate, List.take_replicate, Nat.min_eq_left (by omega), Nat.min_eq_left (by omega), List.replicate_succ']
set_option maxRecDepth 4096 in
set_option maxHeartbeats 4000000 in
theorem ref11_zero_row (z : Int) (w : World) : Calls Tryz.prog 14 #[.int .i64 z] w (LstRow 44 (List.replicate (rcut z) 0) w) := by
  obtain ⟨n, hnz⟩ : ∃ n, rcut z = n := ⟨_, rfl⟩
  have hn3 : n ≤ 300 := hnz ▸ rcut_le z
  have hlt' : ∀ k : Nat, k < n ↔ (k : Int) < z ∧ (k : Int) < 300 := fun k => hnz ▸ rcut_lt
  rw [hnz]
  have HLT := Lib.hid hlt'
  clear hlt' hnz
  obtain ⟨T, hT⟩ : ∃ T, List.replicate n (0 : Rat) = T := ⟨_, rfl⟩
  have HTm : Hid (∀ k, k < n → T.take (k + 1) = T.take k ++ [0]) := Lib.hid (fun k hk => hT ▸ reps_more hk)
  have HTL : Hid (T.length = n) := Lib.hid (by rw [← hT, List.length_replicate])
  rw [hT]
  clear hT
  obtain ⟨q0, hq0⟩ : ∃ q : Rat, ((0 : Int) : Rat) = q := ⟨_, rfl⟩
  have HQ0 : Hid (q0 = 0) := Lib.hid (by rw [← hq0]; rfl)
  have EQ := Lib.hid hq0
  clear hq0
  obtain ⟨i0, hi, hz0, hz1, hz2⟩ := info_parts infoFrac11
  go_enter Tryz.func14, Tryz.ntmps14
  go_wp2
  go_loopw [3, 4] (fun mv iv wr => ∃ k : Nat, k ≤ n ∧ iv = .int .i64 (k : Int) ∧ Hid (Row wr w.heap.size 44 mv (T.take k)) ∧ Hid (Below w.heap.size w wr) ∧ w.heap.size ≤ wr.heap.size) (fun _ iv _ => n - (intOf iv).toNat)
  case atStart => exact ⟨0, by omega, rfl, Lib.hid (Row.nil _ _ _), Lib.hid (Below.refl _ _), by omega⟩
  case round =>
    obtain ⟨k, hk, rfl, HO, HB, hsz⟩ := hrel
    by_cases hlt : k < n
    · obtain ⟨hk1, hk2⟩ := (HLT.out k).1 hlt
      have HT : Hid (T.take (k + 1) = T.take k ++ [q0]) := Lib.hid (by rw [HTm.out k hlt, HQ0.out])
      have hkL : (T.take k).length ≤ 1000000 := by rw [take_len (by rw [HTL.out]; exact hk)]; omega
      go_wp2_with fail
      refine (ref09_int 0 _ isInt_nought).mono ?_
      rintro e w4 ⟨a4, n4, c4, b4, m4, d4, rfl, h4, g4, bw⟩
      rw [EQ.out] at h4 g4 ⊢
      replace HB := Lib.hid (below_then HB.out bw)
      replace HO := Lib.hid (HO.out.later bw)
      have hsz4 : w.heap.size ≤ w4.heap.size := Nat.le_trans hsz bw.size
      have HA4 := Lib.hid h4
      have HB4 := Lib.hid g4
      clear bw hsz h4 g4
      unfold frV
      have ba := below_alloc w4 (.cells #[.bool (zneg q0.num), .slice a4 n4 c4, .slice b4 m4 d4] 44)
      have HOa := Lib.hid (HO.out.later ba)
      have HBa := Lib.hid (below_then HB.out ba)
      have HAa := Lib.hid (HA4.out.later ba)
      have HCa := Lib.hid (HB4.out.later ba)
      clear ba HO HB HA4 HB4
      go_wp2_with (at_builtin; refine wpList_append_row _ rfl _ _ 22 rfl w.heap.size 44 i0 Tryz.underlying22 hi hz0 hz1 hz2 _ (T.take k) rfl HOa.out ⟨w4.heap.size, 0, none⟩ q0 a4 n4 c4 b4 m4 d4 rfl (rx_news _ _ _ _ _ _ _ _ _) HAa.out HCa.out hkL (by rw [blk_size]; omega) ?_)
      intro mv5 w5 hrow hgrow hbase hcl
      have HO5 : Hid (Row w5 w.heap.size 44 mv5 (T.take (k + 1))) := Lib.hid (by rw [HT.out]; exact hrow)
      have HB5 := Lib.hid (HBa.out.grown hgrow (by rw [blk_size]; omega) hbase)
      have hsz5 : w.heap.size ≤ w5.heap.size := Nat.le_trans (by rw [blk_size]; omega) hgrow.size
      clear hrow hgrow hbase hcl HOa HBa HAa HCa HT hsz4
      go_wp2
      go_roundw
      case rel => exact ⟨k + 1, by omega, by go_num, HO5, HB5, hsz5⟩
      case measure => simp [intOf]; omega
    · obtain rfl : k = n := by omega
      have HF := Lib.hid (HO.out.whole HTL.out)
      clear HO
      have hno : ¬ ((k : Int) < z ∧ (k : Int) < 300) := fun h => hlt ((HLT.out k).2 h)
      by_cases hkz : (k : Int) < z
      · have hk3 : ¬ (k : Int) < 300 := fun h => hno ⟨hkz, h⟩
        clear hno
        go_wp2
        go_ret
        exact ⟨_, rfl, HF.out, HB.out⟩
      · clear hno
        go_wp2
        go_ret
        exact ⟨_, rfl, HF.out, HB.out⟩
theorem ref11_zero (z : Int) (w : World) : Calls Tryz.prog 14 #[.int .i64 z] w (LstRw (List.replicate (rcut z) 0) w) := (ref11_zero_row z w).mono fun _ _ h => h.out
theorem runit_yes {k j : Nat} (h : j < k) : runit k (j : Int) = (List.replicate k 0).set j 1 := by
  unfold runit
  rw [if_pos (by omega), Int.toNat_natCast]
theorem runit_no {k : Nat} {i : Int} (h : ¬ (0 ≤ i ∧ i < k)) : runit k i = List.replicate k 0 := by
  unfold runit
  rw [if_neg h]
set_option maxRecDepth 4096 in
set_option maxHeartbeats 4000000 in
theorem ref11_unit (z i : Int) (w : World) : Calls Tryz.prog 16 #[.int .i64 z, .int .i64 i] w (LstRw (runit (rcut z) i) w) := by
  obtain ⟨n, hnz⟩ : ∃ n, rcut z = n := ⟨_, rfl⟩
  have hn3 : n ≤ 300 := hnz ▸ rcut_le z
  have HZ : ∀ w', Calls Tryz.prog 14 #[.int .i64 z] w' (LstRow 44 (List.replicate n 0) w') := fun w' => hnz ▸ ref11_zero_row z w'
  rw [hnz]
  clear hnz
  obtain ⟨T, hT⟩ : ∃ T, List.replicate n (0 : Rat) = T := ⟨_, rfl⟩
  have HTL : Hid (T.length = n) := Lib.hid (by rw [← hT, List.length_replicate])
  obtain ⟨q1, hq1⟩ : ∃ q : Rat, ((1 : Int) : Rat) = q := ⟨_, rfl⟩
  have EQ := Lib.hid hq1
  by_cases hin : 0 ≤ i ∧ i < n
  · obtain ⟨j, rfl⟩ : ∃ j : Nat, i = (j : Int) := ⟨i.toNat, by omega⟩
    have hj : j < n := by omega
    have hji : (j : Int) < (n : Int) := by omega
    have hj0 : (0 : Int) ≤ (j : Int) := by omega
    have ER : Hid (runit n (j : Int) = T.set j q1) := Lib.hid (by rw [runit_yes hj, ← hT, ← hq1]; rfl)
    rw [ER.out]
    rw [hT] at HZ
    clear hT hq1 hin
    go_enter Tryz.func16, Tryz.ntmps16
    go_wp2_with fail
    refine (HZ _).mono ?_
    rintro e w1 ⟨v, rfl, hrow, b⟩
    obtain ⟨g, cap, rfl, hg1, hg2⟩ := hrow.form (by rw [HTL.out]; omega)
    rw [HTL.out] at hrow ⊢
    have HO := Lib.hid hrow
    have HB := Lib.hid b
    clear hrow b
    go_wp2_with fail
    refine (ref09_int 1 _ (by decide)).mono ?_
    rintro e w2 ⟨a4, n4, c4, b4, m4, d4, rfl, h4, g4, bw⟩
    rw [EQ.out] at h4 g4 ⊢
    replace HB := Lib.hid (below_then HB.out bw)
    replace HO := Lib.hid (HO.out.later bw)
    have hg3 : g < w2.heap.size := Nat.lt_of_lt_of_le hg2 bw.size
    clear bw hg2
    obtain ⟨x, y, u, ⟨p0, p1, p2⟩, f0, f1, f2⟩ := HO.out.free HTL.out.symm (i := j) (by rw [HTL.out]; exact hj)
    obtain ⟨hst, hgr⟩ := HO.out.stored HTL.out.symm (i := j) (by rw [HTL.out]; exact hj) q1 a4 n4 c4 b4 m4 d4 h4 g4
    have HS := Lib.hid hst
    have HB5 := Lib.hid (HB.out.grown hgr HB.out.size (fun g' hg' => by simp at hg'; omega))
    clear hst hgr h4 g4 HO HB
    unfold frV
    go_wp2
    go_ret
    obtain ⟨a9, c9, e9, h9⟩ := HS.out.out
    rw [List.length_set, HTL.out] at e9 h9
    cases e9
    exact ⟨_, n, _, rfl, h9, HB5.out⟩
  · rw [runit_no hin, hT]
    clear EQ hq1
    go_enter Tryz.func16, Tryz.ntmps16
    go_wp2_with fail
    refine (HZ _).mono ?_
    rintro e w1 ⟨v, rfl, hrow, b⟩
    obtain ⟨a9, c9, rfl, h9⟩ := hrow.out
    rw [hT, HTL.out] at h9 ⊢
    have HF := Lib.hid h9
    have HB := Lib.hid b
    clear hrow b h9
    by_cases h0 : 0 ≤ i
    · have h1 : ¬ i < (n : Int) := fun h => hin ⟨h0, h⟩
      clear hin
      go_wp2
      go_ret
      exact ⟨a9, n, c9, rfl, HF.out, HB.out⟩
    · clear hin
      go_wp2
      go_ret
      exact ⟨a9, n, c9, rfl, HF.out, HB.out⟩
end Go.Proofs.YtjeigdlhjghinaaGreatDoor

/-
  The document's Same of two right fractions, in rational numbers.
-/
namespace Go.Proofs.YtjeigdlhjghinaaGreatDoor
open Go.RowKit

theorem rat_parts_iff (p q : Rat) : (zneg p.num = zneg q.num ∧ dg p.num.natAbs = dg q.num.natAbs ∧ dg p.den = dg q.den) ↔ p = q := by
  constructor
  · rintro ⟨h1, h2, h3⟩
    have e2 : p.num.natAbs = q.num.natAbs := by have := congrArg val h2; rwa [val_dg, val_dg] at this
    have e3 : p.den = q.den := by have := congrArg val h3; rwa [val_dg, val_dg] at this
    have e1 : p.num = q.num := by
      have a1 := zval_of p.num
      have a2 := zval_of q.num
      rw [← a1, ← a2, h1, e2]
    exact Rat.ext e1 e3
  · rintro rfl; exact ⟨rfl, rfl, rfl⟩
theorem ref09_same_rt (v u : Value) (p q : Rat) (w : World) (h : Rt w v p 15000) (k : Rt w u q 15000) : Calls Tryz.prog 49 #[v, u] w (Gives (.bool (decide (p = q))) w) := by
  obtain ⟨a, n, cap, b, m, cap', rfl, ha, hb, hn, hm⟩ := h
  obtain ⟨a', n', c', b', m', d', rfl, ha', hb', hn', hm'⟩ := k
  have e := ref09_same (zneg p.num) a n cap _ b m cap' _ (zneg q.num) a' n' c' _ b' m' d' _ w ha hb ha' hb'
  rwa [decide_eq_decide.2 (rat_parts_iff p q)] at e
end Go.Proofs.YtjeigdlhjghinaaGreatDoor

/-
  The document's answer of layer 11: Same, Dot. Written by genref11.py.
-/
namespace Go.Proofs.YtjeigdlhjghinaaGreatDoor
open Go.RowKit

set_option maxRecDepth 4096 in
set_option maxHeartbeats 4000000 in
theorem ref11_same (a0 : Option Addr) (n0 c0 : Nat) (qs0 : List Rat) (a1 : Option Addr) (n1 c1 : Nat) (qs1 : List Rat) (w : World) (h0 : Rw w a0 n0 c0 qs0) (h1 : Rw w a1 n1 c1 qs1) (hn : n0 ≤ 1000) (ht0 : ∀ q ∈ qs0, qlen q ≤ 15000) (ht1 : ∀ q ∈ qs1, qlen q ≤ 15000) :
    Calls Tryz.prog 19 #[.slice a0 n0 c0, .slice a1 n1 c1] w (Gives (.bool (decide (qs0 = qs1))) w) := by
  have HK0 := Lib.hid h0
  have HK1 := Lib.hid h1
  have HLl0 := Lib.hid h0.len
  have HLl1 := Lib.hid h1.len
  have hbd0 := h0.bound
  have hbd1 := h1.bound
  have HTh0 := Lib.hid ht0
  have HTh1 := Lib.hid ht1
  clear h0 h1 ht0 ht1
  obtain ⟨r, hr⟩ : ∃ r, decide (qs0 = qs1) = r := ⟨_, rfl⟩
  have HR := Lib.hid hr
  rw [hr]
  clear hr
  go_enter Tryz.func19, Tryz.ntmps19
  by_cases hnm : n0 = n1
  · subst hnm
    go_wp2
    go_loopw [5] (fun iv wr => ∃ k : Nat, k ≤ n0 ∧ iv = .int .i64 (k : Int) ∧ Hid (qs0.take k = qs1.take k) ∧ Hid (Below w.heap.size w wr)) (fun iv _ => n0 - (intOf iv).toNat)
    case atStart => exact ⟨0, by omega, rfl, Lib.hid rfl, Lib.hid (Below.refl _ _)⟩
    case round =>
      obtain ⟨k, hk, rfl, HO, HB⟩ := hrel
      by_cases hlt : k < n0
      · have HT0 : Hid (qs0.take (k + 1) = qs0.take k ++ [qs0.getD k 0]) := Lib.hid (q_more (by rw [HLl0.out]; exact hlt))
        have HT1 : Hid (qs1.take (k + 1) = qs1.take k ++ [qs1.getD k 0]) := Lib.hid (q_more (by rw [HLl1.out]; exact hlt))
        obtain ⟨bb0, off0, rfl, ak0, nk0, ck0, bk0, mk0, dk0, he0, hA0, hB0⟩ := HK0.out.at hlt
        have hth0 : nk0 ≤ 15000 := by rw [← hA0.len]; exact Nat.le_trans (qlen_num _) (HTh0.out _ (q_mem (by rw [HLl0.out]; exact hlt)))
        have htj0 : mk0 ≤ 15000 := by rw [← hB0.len]; exact Nat.le_trans (qlen_den _) (HTh0.out _ (q_mem (by rw [HLl0.out]; exact hlt)))
        have HE0 := Lib.hid he0
        have AK0 := Lib.hid hA0
        have BK0 := Lib.hid hB0
        clear he0 hA0 hB0
        obtain ⟨bb1, off1, rfl, ak1, nk1, ck1, bk1, mk1, dk1, he1, hA1, hB1⟩ := HK1.out.at hlt
        have hth1 : nk1 ≤ 15000 := by rw [← hA1.len]; exact Nat.le_trans (qlen_num _) (HTh1.out _ (q_mem (by rw [HLl1.out]; exact hlt)))
        have htj1 : mk1 ≤ 15000 := by rw [← hB1.len]; exact Nat.le_trans (qlen_den _) (HTh1.out _ (q_mem (by rw [HLl1.out]; exact hlt)))
        have HE1 := Lib.hid he1
        have AK1 := Lib.hid hA1
        have BK1 := Lib.hid hB1
        clear he1 hA1 hB1
        generalize qs0.getD k 0 = qk0 at *
        generalize qs1.getD k 0 = qk1 at *
        have hki : (k : Int) < (n0 : Int) := by omega
        obtain ⟨e00, e10, e20⟩ := three_on HE0.out HB.out
        obtain ⟨e01, e11, e21⟩ := three_on HE1.out HB.out
        go_wp2
        go_still_tail 8, (by kernel_rfl)
        change wpList _ _ _ _ _ wr.drew
        have b0 : Below wr.heap.size wr wr.drew := (Below.refl _ _).drew
        replace HB := Lib.hid (below_then HB.out b0)
        clear e00 e10 e20 e01 e11 e21 b0
        generalize wr.drew = wr at *
        have HC : ∀ u v, u = frV (zneg qk0.num) ak0 nk0 ck0 bk0 mk0 dk0 → v = frV (zneg qk1.num) ak1 nk1 ck1 bk1 mk1 dk1 → Calls Tryz.prog 49 #[u, v] wr (Gives (.bool (decide (qk0 = qk1))) wr) := by
          rintro _ _ rfl rfl
          exact ref09_same_rt _ _ qk0 qk1 _ (Rt.of (AK0.out.later HB.out) (BK0.out.later HB.out) (by omega) (by omega)) (Rt.of (AK1.out.later HB.out) (BK1.out.later HB.out) (by omega) (by omega))
        go_wp2_with fail
        refine (HC _ _ rfl rfl).mono ?_
        rintro e w4 ⟨rfl, b4⟩
        replace HB := Lib.hid (below_then HB.out b4)
        clear b4 HC
        by_cases hq : qk0 = qk1
        · have HO5 : Hid (qs0.take (k + 1) = qs1.take (k + 1)) := Lib.hid (by rw [HT0.out, HT1.out, HO.out, hq])
          rw [decide_eq_true hq]
          clear hq HT0 HT1 HO
          go_wp2
          go_roundw
          case rel => exact ⟨k + 1, by omega, by go_num, HO5, HB⟩
          case measure => simp [intOf]; omega
        · have hne : ¬ qs0 = qs1 := fun e => by
            subst e
            have h8 := HT0.out.symm.trans HT1.out
            have h9 := List.append_cancel_left h8
            exact hq (by simpa using h9)
          obtain rfl : false = r := (decide_eq_false hne).symm.trans HR.out
          rw [decide_eq_false hq]
          clear hq hne HT0 HT1 HO
          go_wp2
          go_ret
          exact ⟨rfl, HB.out⟩
      · obtain rfl : k = n0 := by omega
        have he : qs0 = qs1 := by
          have h8 := HO.out
          rwa [List.take_of_length_le (by rw [HLl0.out]; exact Nat.le_refl _), List.take_of_length_le (by rw [HLl1.out]; exact Nat.le_refl _)] at h8
        obtain rfl : true = r := (decide_eq_true he).symm.trans HR.out
        clear he
        go_wp2
        go_ret
        exact ⟨rfl, HB.out⟩
  · have hne : ¬ qs0 = qs1 := fun e => hnm (by rw [← HLl0.out, ← HLl1.out, e])
    have hnmi : ((n0 : Int) != (n1 : Int)) = true := by simp; omega
    obtain rfl : false = r := (decide_eq_false hne).symm.trans HR.out
    clear hne
    go_wp2
    go_ret
    exact ⟨rfl, Below.refl _ _⟩
end Go.Proofs.YtjeigdlhjghinaaGreatDoor

/-
  Layer 11's law: its own size, Is. Written by genref11d.py.
-/
namespace Go.Proofs.YtjeigdlhjghinaaGreatDoor
open Go.RowKit

theorem rsizeFrom_snoc : ∀ (L : List Fx) (m : Nat) (x : Fx), rsizeFrom m (L ++ [x]) = max (rsizeFrom m L) (fsize x)
  | [], m, x => rfl
  | y :: L, m, x => by
    show rsizeFrom _ (L ++ [x]) = _
    rw [rsizeFrom_snoc L]; rfl
theorem law11_of_rw (a : Option Addr) (n c : Nat) (qs : List Rat) (w : World) (h : Rw w a n c qs) (hn : n ≤ 1000) :
    Calls Tryz.prog 47 #[.slice a n c] w (fun e w' => ∃ (a' : Option Addr) (c' : Nat), e = .returned (.slice a' n c') ∧ Rw w' a' n c' qs ∧ Below w.heap.size w w') := by
  obtain ⟨L, h1, h2, h3⟩ := h
  exact (law11_of a n c L w h1 hn).mono fun _ _ ⟨a', c', he, h4, hb⟩ => ⟨a', c', he, ⟨L, h4, h2, h3⟩, hb⟩
set_option maxRecDepth 4096 in
set_option maxHeartbeats 4000000 in
theorem law11_is (a0 : Option Addr) (n0 c0 : Nat) (qs0 : List Rat) (a1 : Option Addr) (n1 c1 : Nat) (qs1 : List Rat) (w : World) (h0 : Rw w a0 n0 c0 qs0) (h1 : Rw w a1 n1 c1 qs1) (hn : n0 ≤ 1000) (ht0 : ∀ q ∈ qs0, qlen q ≤ 15000) (ht1 : ∀ q ∈ qs1, qlen q ≤ 15000) :
    Calls Tryz.prog 12 #[.slice a0 n0 c0, .slice a1 n1 c1] w (Gives (.bool (decide (qs0 = qs1))) w) := by
  obtain ⟨r, hr⟩ : ∃ r, decide (qs0 = qs1) = r := ⟨_, rfl⟩
  have HR := Lib.hid hr
  have H1 := Lib.hid h1
  have HT0 := Lib.hid ht0
  have HT1 := Lib.hid ht1
  rw [hr]
  clear hr h1 ht0 ht1
  go_enter Tryz.func12, Tryz.ntmps12
  go_wp2_with fail
  refine (law11_of_rw a0 n0 c0 qs0 _ h0 hn).mono ?_
  rintro e w1 ⟨a2, c2, rfl, h2, b⟩
  have H2 := Lib.hid h2
  have H3 := Lib.hid (H1.out.later b)
  have HB := Lib.hid b
  clear h2 b H1
  go_wp2_with fail
  refine (ref11_same a2 n0 c2 qs0 a1 n1 c1 qs1 _ H2.out H3.out hn HT0.out HT1.out).mono ?_
  rintro e w2 ⟨rfl, b⟩
  rw [HR.out]
  have HB2 := Lib.hid (below_then HB.out b)
  clear b
  go_wp2
  go_ret
  exact ⟨rfl, HB2.out⟩
set_option maxRecDepth 4096 in
set_option maxHeartbeats 4000000 in
theorem law11_size (a0 : Option Addr) (n0 c0 : Nat) (L0 : List Fx) (w : World) (h0 : Fxs w a0 n0 c0 L0) (ht0 : thin 1000 L0) :
    Calls Tryz.prog 24 #[.slice a0 n0 c0] w (Gives (.int .i64 ((rsizeFrom 0 L0 : Nat) : Int)) w) := by
  have HK0 := Lib.hid h0
  have HLl0 := Lib.hid h0.len
  have hbd0 := h0.bound
  have HTh0 := Lib.hid ht0
  clear h0 ht0
  obtain ⟨R, hR⟩ : ∃ R, rsizeFrom 0 L0 = R := ⟨_, rfl⟩
  have HR := Lib.hid hR
  rw [hR]
  clear hR
  go_enter Tryz.func24, Tryz.ntmps24
  go_wp2
  go_loopw [3, 4] (fun sv iv wr => ∃ (k s : Nat), k ≤ n0 ∧ iv = .int .i64 (k : Int) ∧ sv = .int .i64 (s : Int) ∧ Hid (rsizeFrom 0 (L0.take k) = s) ∧ Hid (Below w.heap.size w wr)) (fun _ iv _ => n0 - (intOf iv).toNat)
  case atStart => exact ⟨0, 0, by omega, rfl, rfl, Lib.hid rfl, Lib.hid (Below.refl _ _)⟩
  case round =>
    obtain ⟨k, s, hk, rfl, rfl, HS, HB⟩ := hrel
    by_cases hlt : k < n0
    · obtain ⟨bb, off, rfl, e0, e1, e2, hok⟩ := HK0.out.at hlt
      have HT : Hid (L0.take (k + 1) = L0.take k ++ [L0.getD k Fx.zero]) := Lib.hid (fx_more (by rw [HLl0.out]; exact hlt))
      have hth := HTh0.out _ (fx_mem (L := L0) (k := k) (by rw [HLl0.out]; exact hlt))
      generalize L0.getD k Fx.zero = xk at *
      obtain ⟨sk, ak, nk, ck, lak, bk, mk, dk, lbk⟩ := xk
      obtain ⟨hA, hB⟩ := hok
      simp only at e0 e1 e2 hA hB hth
      obtain ⟨hth, htj⟩ := hth
      have HE : Hid (w.cell? ⟨bb, off + k * 3, none⟩ = some (.bool sk) ∧ w.cell? ⟨bb, off + k * 3 + 1, none⟩ = some (.slice ak nk ck) ∧ w.cell? ⟨bb, off + k * 3 + 2, none⟩ = some (.slice bk mk dk)) := Lib.hid ⟨e0, e1, e2⟩
      have AK := Lib.hid hA
      have BK := Lib.hid hB
      clear hA hB e0 e1 e2
      obtain ⟨t, ht⟩ : ∃ t, blen (val lak) + blen (val lbk) = t := ⟨_, rfl⟩
      have ET := Lib.hid ht
      have HS9 : Hid (rsizeFrom 0 (L0.take (k + 1)) = max s t) := Lib.hid (by rw [HT.out, rsizeFrom_snoc, HS.out]; show max s (blen (val lak) + blen (val lbk)) = _; rw [ht])
      clear ht HT HS
      have hki : (k : Int) < (n0 : Int) := by omega
      obtain ⟨e0, e1, e2⟩ := three_on HE.out HB.out
      go_wp2_with fail
      refine (ref09_size sk ak nk ck lak bk mk dk lbk _ (AK.out.later HB.out) (BK.out.later HB.out) (by omega) (by omega)).mono ?_
      rintro e w4 ⟨rfl, b4⟩
      rw [ET.out]
      clear e0 e1 e2
      replace HB := Lib.hid (below_then HB.out b4)
      clear b4
      go_wp2
      go_roundw
      case rel => exact ⟨k + 1, max s t, by omega, by go_num, by (simp only [Value.int.injEq, true_and]; omega), HS9, HB⟩
      case measure => simp [intOf]; omega
    · obtain rfl : k = n0 := by omega
      obtain rfl : s = R := by
        rw [← HR.out, ← HS.out, List.take_of_length_le (by rw [HLl0.out]; exact Nat.le_refl _)]
      clear HS
      go_wp2
      go_ret
      exact ⟨rfl, HB.out⟩
end Go.Proofs.YtjeigdlhjghinaaGreatDoor

/-
  The walks of the laws of layer 11: works.
-/
namespace Go.Proofs.YtjeigdlhjghinaaGreatDoor
open Go.RowKit

theorem fcells_4_4_4_3 {w : World} {A0 A1 A2 A3 : Nat} {c0_0 : Value} {c0_1 : Value} {c0_2 : Value} {c0_3 : Value} {c1_0 : Value} {c1_1 : Value} {c1_2 : Value} {c1_3 : Value} {c2_0 : Value} {c2_1 : Value} {c2_2 : Value} {c2_3 : Value} {c3_0 : Value} {c3_1 : Value} {c3_2 : Value} {t0 t1 t2 t3 : TypeId} (h0 : w.heap[A0]? = some (.cells #[c0_0, c0_1, c0_2, c0_3] t0 (0, 0))) (h1 : w.heap[A1]? = some (.cells #[c1_0, c1_1, c1_2, c1_3] t1 (0, 0))) (h2 : w.heap[A2]? = some (.cells #[c2_0, c2_1, c2_2, c2_3] t2 (0, 0))) (h3 : w.heap[A3]? = some (.cells #[c3_0, c3_1, c3_2] t3 (0, 0))) : w.cell? ⟨A0, 0, none⟩ = some c0_0 ∧ w.cell? ⟨A0, 1, none⟩ = some c0_1 ∧ w.cell? ⟨A0, 2, none⟩ = some c0_2 ∧ w.cell? ⟨A0, 3, none⟩ = some c0_3 ∧ w.cell? ⟨A1, 0, none⟩ = some c1_0 ∧ w.cell? ⟨A1, 1, none⟩ = some c1_1 ∧ w.cell? ⟨A1, 2, none⟩ = some c1_2 ∧ w.cell? ⟨A1, 3, none⟩ = some c1_3 ∧ w.cell? ⟨A2, 0, none⟩ = some c2_0 ∧ w.cell? ⟨A2, 1, none⟩ = some c2_1 ∧ w.cell? ⟨A2, 2, none⟩ = some c2_2 ∧ w.cell? ⟨A2, 3, none⟩ = some c2_3 ∧ w.cell? ⟨A3, 0, none⟩ = some c3_0 ∧ w.cell? ⟨A3, 1, none⟩ = some c3_1 ∧ w.cell? ⟨A3, 2, none⟩ = some c3_2 := ⟨blk_cell h0 0, blk_cell h0 1, blk_cell h0 2, blk_cell h0 3, blk_cell h1 0, blk_cell h1 1, blk_cell h1 2, blk_cell h1 3, blk_cell h2 0, blk_cell h2 1, blk_cell h2 2, blk_cell h2 3, blk_cell h3 0, blk_cell h3 1, blk_cell h3 2⟩
theorem fcells_4_4 {w : World} {A0 A1 : Nat} {c0_0 : Value} {c0_1 : Value} {c0_2 : Value} {c0_3 : Value} {c1_0 : Value} {c1_1 : Value} {c1_2 : Value} {c1_3 : Value} {t0 t1 : TypeId} (h0 : w.heap[A0]? = some (.cells #[c0_0, c0_1, c0_2, c0_3] t0 (0, 0))) (h1 : w.heap[A1]? = some (.cells #[c1_0, c1_1, c1_2, c1_3] t1 (0, 0))) : w.cell? ⟨A0, 0, none⟩ = some c0_0 ∧ w.cell? ⟨A0, 1, none⟩ = some c0_1 ∧ w.cell? ⟨A0, 2, none⟩ = some c0_2 ∧ w.cell? ⟨A0, 3, none⟩ = some c0_3 ∧ w.cell? ⟨A1, 0, none⟩ = some c1_0 ∧ w.cell? ⟨A1, 1, none⟩ = some c1_1 ∧ w.cell? ⟨A1, 2, none⟩ = some c1_2 ∧ w.cell? ⟨A1, 3, none⟩ = some c1_3 := ⟨blk_cell h0 0, blk_cell h0 1, blk_cell h0 2, blk_cell h0 3, blk_cell h1 0, blk_cell h1 1, blk_cell h1 2, blk_cell h1 3⟩
theorem fcells_4_4_4 {w : World} {A0 A1 A2 : Nat} {c0_0 : Value} {c0_1 : Value} {c0_2 : Value} {c0_3 : Value} {c1_0 : Value} {c1_1 : Value} {c1_2 : Value} {c1_3 : Value} {c2_0 : Value} {c2_1 : Value} {c2_2 : Value} {c2_3 : Value} {t0 t1 t2 : TypeId} (h0 : w.heap[A0]? = some (.cells #[c0_0, c0_1, c0_2, c0_3] t0 (0, 0))) (h1 : w.heap[A1]? = some (.cells #[c1_0, c1_1, c1_2, c1_3] t1 (0, 0))) (h2 : w.heap[A2]? = some (.cells #[c2_0, c2_1, c2_2, c2_3] t2 (0, 0))) : w.cell? ⟨A0, 0, none⟩ = some c0_0 ∧ w.cell? ⟨A0, 1, none⟩ = some c0_1 ∧ w.cell? ⟨A0, 2, none⟩ = some c0_2 ∧ w.cell? ⟨A0, 3, none⟩ = some c0_3 ∧ w.cell? ⟨A1, 0, none⟩ = some c1_0 ∧ w.cell? ⟨A1, 1, none⟩ = some c1_1 ∧ w.cell? ⟨A1, 2, none⟩ = some c1_2 ∧ w.cell? ⟨A1, 3, none⟩ = some c1_3 ∧ w.cell? ⟨A2, 0, none⟩ = some c2_0 ∧ w.cell? ⟨A2, 1, none⟩ = some c2_1 ∧ w.cell? ⟨A2, 2, none⟩ = some c2_2 ∧ w.cell? ⟨A2, 3, none⟩ = some c2_3 := ⟨blk_cell h0 0, blk_cell h0 1, blk_cell h0 2, blk_cell h0 3, blk_cell h1 0, blk_cell h1 1, blk_cell h1 2, blk_cell h1 3, blk_cell h2 0, blk_cell h2 1, blk_cell h2 2, blk_cell h2 3⟩
set_option maxRecDepth 4096 in
set_option maxHeartbeats 16000000 in
theorem law11_works (S : RowSaid) (FS : FracSaid) (w : World) (hT : Hid (Dec10 w)) : Calls Tryz.prog 10 #[] w (Gives (.bool true) w) := by
  have HB : Hid (Below w.heap.size w w) := Lib.hid (Below.refl _ _)
  obtain ⟨A, hA⟩ : ∃ A : List Rat, [1, 2] = A := ⟨_, rfl⟩
  obtain ⟨B, hB⟩ : ∃ B : List Rat, [3, 4] = B := ⟨_, rfl⟩
  obtain ⟨C, hC⟩ : ∃ C : List Rat, rowVals [49, 44, 44, 50] = C := ⟨_, rfl⟩
  obtain ⟨D, hD⟩ : ∃ D : List Rat, radd A B = D := ⟨_, rfl⟩
  obtain ⟨q, hq⟩ : ∃ q : Rat, rdot A B = q := ⟨_, rfl⟩
  obtain ⟨qA, lA⟩ := small_12 hA.symm
  obtain ⟨qB, lB⟩ := small_34 hB.symm
  have eD : D = [4, 6] := by rw [← hD, ← hA, ← hB]; exact row_sum
  have eq : q = ((11 : Int) : Rat) := by rw [← hq, ← hA, ← hB]; exact dot_11
  obtain ⟨qD, lD⟩ := small_46 eD
  have qq : qlen q ≤ 2 := qlen_nat 11 eq (by decide)
  have ED : Hid (rowTxt D = [52, 44, 54]) := Lib.hid (by rw [eD]; exact row_46)
  have EQ : Hid (q = ((11 : Int) : Rat)) := Lib.hid eq
  have HDO := Lib.hid hD
  have HQO := Lib.hid hq
  have HR1 : ∀ w' : World, Calls Tryz.prog 38 #[.string (bs [49, 44, 50])] w' (LstRwV A (faultV 0 0 0 0) w') := fun w' => by
    have h := S.read [49, 44, 50] w' (by decide) (fun p hp => Nat.le_trans (pieces_le hp) (by decide))
    rw [row_12.1, row_12.2.1, row_12.2.2, hA] at h
    exact h
  have HR2 : ∀ w' : World, Calls Tryz.prog 38 #[.string (bs [51, 44, 52])] w' (LstRwV B (faultV 0 0 0 0) w') := fun w' => by
    have h := S.read [51, 44, 52] w' (by decide) (fun p hp => Nat.le_trans (pieces_le hp) (by decide))
    rw [row_34.1, row_34.2.1, row_34.2.2, hB] at h
    exact h
  have HR3 : ∀ w' : World, Calls Tryz.prog 38 #[.string (bs [49, 44, 44, 50])] w' (LstRwV C (faultV 1 0 0 2) w') := fun w' => by
    have h := S.read [49, 44, 44, 50] w' (by decide) (fun p hp => Nat.le_trans (pieces_le hp) (by decide))
    rw [row_bad.1, row_bad.2, hC] at h
    exact h
  have QA := Lib.hid qA
  have QB := Lib.hid qB
  have QD := Lib.hid qD
  have q1 : ((bs [52, 44, 54]).toList == [52, 44, 54]) = true := by rw [bs_list]; rfl
  have LA := Lib.hid lA
  have LB := Lib.hid lB
  have LD := Lib.hid lD
  clear hA hB hC hD hq qA qB qD eD eq lA lB lD
  unfold faultV at HR1 HR2 HR3
  go_enter Tryz.func10, Tryz.ntmps10
  go_wp2_with fail
  refine (HR1 _).mono ?_
  rintro e wv1 ⟨a1, n1, c1, rfl, h1, b⟩
  replace HB := Lib.hid (below_then HB.out b)
  clear b
  have ln1 : Hid (n1 = 2) := Lib.hid (h1.len.symm.trans LA.out)
  have R1 := Lib.hid h1
  clear h1
  have G1 : Hid ((World.alloc wv1 (.cells #[.int .i64 0, .int .i64 0, .int .i64 0, .int .i64 0] 69)).heap[wv1.heap.size]? = some (.cells #[.int .i64 0, .int .i64 0, .int .i64 0, .int .i64 0] 69 (0, 0))) := Lib.hid (blk_new wv1 _ _)
  replace HB := Lib.hid (below_then HB.out (below_alloc wv1 (.cells #[.int .i64 0, .int .i64 0, .int .i64 0, .int .i64 0] 69)))
  replace R1 := Lib.hid (R1.out.later (below_alloc wv1 (.cells #[.int .i64 0, .int .i64 0, .int .i64 0, .int .i64 0] 69)))
  obtain ⟨vk0, vk1, vk2, vk3⟩ := fcells_4 G1.out
  go_wp2_with fail
  refine (HR2 _).mono ?_
  rintro e wv2 ⟨a2, n2, c2, rfl, h2, b⟩
  clear vk0 vk1 vk2 vk3
  replace HB := Lib.hid (below_then HB.out b)
  replace G1 := Lib.hid (blk_later G1.out b)
  replace R1 := Lib.hid (R1.out.later b)
  clear b
  have ln2 : Hid (n2 = 2) := Lib.hid (h2.len.symm.trans LB.out)
  have R2 := Lib.hid h2
  clear h2
  have G2 : Hid ((World.alloc wv2 (.cells #[.int .i64 0, .int .i64 0, .int .i64 0, .int .i64 0] 69)).heap[wv2.heap.size]? = some (.cells #[.int .i64 0, .int .i64 0, .int .i64 0, .int .i64 0] 69 (0, 0))) := Lib.hid (blk_new wv2 _ _)
  replace HB := Lib.hid (below_then HB.out (below_alloc wv2 (.cells #[.int .i64 0, .int .i64 0, .int .i64 0, .int .i64 0] 69)))
  replace G1 := Lib.hid (blk_later G1.out (below_alloc wv2 (.cells #[.int .i64 0, .int .i64 0, .int .i64 0, .int .i64 0] 69)))
  replace R1 := Lib.hid (R1.out.later (below_alloc wv2 (.cells #[.int .i64 0, .int .i64 0, .int .i64 0, .int .i64 0] 69)))
  replace R2 := Lib.hid (R2.out.later (below_alloc wv2 (.cells #[.int .i64 0, .int .i64 0, .int .i64 0, .int .i64 0] 69)))
  obtain ⟨vk0, vk1, vk2, vk3, vk4, vk5, vk6, vk7⟩ := fcells_4_4 G1.out G2.out
  go_wp2_with fail
  refine (HR3 _).mono ?_
  rintro e wv3 ⟨a3, n3, c3, rfl, h3, b⟩
  clear vk0 vk1 vk2 vk3 vk4 vk5 vk6 vk7
  replace HB := Lib.hid (below_then HB.out b)
  replace G1 := Lib.hid (blk_later G1.out b)
  replace G2 := Lib.hid (blk_later G2.out b)
  replace R1 := Lib.hid (R1.out.later b)
  replace R2 := Lib.hid (R2.out.later b)
  clear b
  clear h3
  have G3 : Hid ((World.alloc wv3 (.cells #[.int .i64 1, .int .i64 0, .int .i64 0, .int .i64 2] 69)).heap[wv3.heap.size]? = some (.cells #[.int .i64 1, .int .i64 0, .int .i64 0, .int .i64 2] 69 (0, 0))) := Lib.hid (blk_new wv3 _ _)
  replace HB := Lib.hid (below_then HB.out (below_alloc wv3 (.cells #[.int .i64 1, .int .i64 0, .int .i64 0, .int .i64 2] 69)))
  replace G1 := Lib.hid (blk_later G1.out (below_alloc wv3 (.cells #[.int .i64 1, .int .i64 0, .int .i64 0, .int .i64 2] 69)))
  replace G2 := Lib.hid (blk_later G2.out (below_alloc wv3 (.cells #[.int .i64 1, .int .i64 0, .int .i64 0, .int .i64 2] 69)))
  replace R1 := Lib.hid (R1.out.later (below_alloc wv3 (.cells #[.int .i64 1, .int .i64 0, .int .i64 0, .int .i64 2] 69)))
  replace R2 := Lib.hid (R2.out.later (below_alloc wv3 (.cells #[.int .i64 1, .int .i64 0, .int .i64 0, .int .i64 2] 69)))
  obtain ⟨vk0, vk1, vk2, vk3, vk4, vk5, vk6, vk7, vk8, vk9, vk10, vk11⟩ := fcells_4_4_4 G1.out G2.out G3.out
  go_wp2_with fail
  refine (dot_rw S a1 n1 c1 A a2 n2 c2 B _ R1.out R2.out (by have := ln1.out; omega) (ln1.out.trans ln2.out.symm) (fun x hx => Nat.le_trans (QA.out x hx) (by decide)) (fun x hx => Nat.le_trans (QB.out x hx) (by decide))).mono ?_
  rintro e wv4 ⟨a4, n4, c4, b4, m4, d4, rfl, h4, g4, b⟩
  clear vk0 vk1 vk2 vk3 vk4 vk5 vk6 vk7 vk8 vk9 vk10 vk11
  replace HB := Lib.hid (below_then HB.out b)
  replace G1 := Lib.hid (blk_later G1.out b)
  replace G2 := Lib.hid (blk_later G2.out b)
  replace G3 := Lib.hid (blk_later G3.out b)
  replace R1 := Lib.hid (R1.out.later b)
  replace R2 := Lib.hid (R2.out.later b)
  clear b
  rw [HQO.out] at h4 g4 ⊢
  have ln4 : n4 ≤ 2 := Nat.le_trans (Nat.le_of_eq h4.len.symm) (Nat.le_trans (qlen_num _) qq)
  have lm4 : m4 ≤ 2 := Nat.le_trans (Nat.le_of_eq g4.len.symm) (Nat.le_trans (qlen_den _) qq)
  have R4 := Lib.hid h4
  have T4 := Lib.hid g4
  clear h4 g4
  unfold frV
  have P4 : Hid ((World.alloc wv4 (.cells #[.bool (zneg q.num), .slice a4 n4 c4, .slice b4 m4 d4] 41)).heap[wv4.heap.size]? = some (.cells #[.bool (zneg q.num), .slice a4 n4 c4, .slice b4 m4 d4] 41 (0, 0))) := Lib.hid (blk_new wv4 _ _)
  replace HB := Lib.hid (below_then HB.out (below_alloc wv4 (.cells #[.bool (zneg q.num), .slice a4 n4 c4, .slice b4 m4 d4] 41)))
  replace G1 := Lib.hid (blk_later G1.out (below_alloc wv4 (.cells #[.bool (zneg q.num), .slice a4 n4 c4, .slice b4 m4 d4] 41)))
  replace G2 := Lib.hid (blk_later G2.out (below_alloc wv4 (.cells #[.bool (zneg q.num), .slice a4 n4 c4, .slice b4 m4 d4] 41)))
  replace G3 := Lib.hid (blk_later G3.out (below_alloc wv4 (.cells #[.bool (zneg q.num), .slice a4 n4 c4, .slice b4 m4 d4] 41)))
  replace R1 := Lib.hid (R1.out.later (below_alloc wv4 (.cells #[.bool (zneg q.num), .slice a4 n4 c4, .slice b4 m4 d4] 41)))
  replace R2 := Lib.hid (R2.out.later (below_alloc wv4 (.cells #[.bool (zneg q.num), .slice a4 n4 c4, .slice b4 m4 d4] 41)))
  replace R4 := Lib.hid (R4.out.later (below_alloc wv4 (.cells #[.bool (zneg q.num), .slice a4 n4 c4, .slice b4 m4 d4] 41)))
  replace T4 := Lib.hid (T4.out.later (below_alloc wv4 (.cells #[.bool (zneg q.num), .slice a4 n4 c4, .slice b4 m4 d4] 41)))
  obtain ⟨vk0, vk1, vk2, vk3, vk4, vk5, vk6, vk7, vk8, vk9, vk10, vk11, vk12, vk13, vk14⟩ := fcells_4_4_4_3 G1.out G2.out G3.out P4.out
  go_wp2_with fail
  refine (add2_rw S a1 n1 c1 A a2 n2 c2 B _ _ (blk_size _ _) R1.out R2.out (by have := ln1.out; omega) (ln1.out.trans ln2.out.symm) (fun x hx => Nat.le_trans (QA.out x hx) (by decide)) (fun x hx => Nat.le_trans (QB.out x hx) (by decide))).mono ?_
  rintro e wv5 ⟨a5, n5, c5, rfl, h5, b⟩
  clear vk0 vk1 vk2 vk3 vk4 vk5 vk6 vk7 vk8 vk9 vk10 vk11 vk12 vk13 vk14
  replace HB := Lib.hid (below_then HB.out b)
  replace G1 := Lib.hid (blk_later G1.out b)
  replace G2 := Lib.hid (blk_later G2.out b)
  replace G3 := Lib.hid (blk_later G3.out b)
  replace P4 := Lib.hid (blk_later P4.out b)
  replace R1 := Lib.hid (R1.out.later b)
  replace R2 := Lib.hid (R2.out.later b)
  replace R4 := Lib.hid (R4.out.later b)
  replace T4 := Lib.hid (T4.out.later b)
  clear b
  rw [HDO.out] at h5
  have ln5 : Hid (n5 = 2) := Lib.hid (h5.len.symm.trans LD.out)
  have R5 := Lib.hid h5
  clear h5
  go_wp2
  generalize wv5 = W at *
  replace HB := Lib.hid (below_then HB.out ((Below.refl _ _).drew : Below W.heap.size W W.drew))
  replace G1 : Hid (W.drew.heap[wv1.heap.size]? = _) := Lib.hid G1.out
  replace G2 : Hid (W.drew.heap[wv2.heap.size]? = _) := Lib.hid G2.out
  replace G3 : Hid (W.drew.heap[wv3.heap.size]? = _) := Lib.hid G3.out
  replace P4 : Hid (W.drew.heap[wv4.heap.size]? = _) := Lib.hid P4.out
  replace R4 := Lib.hid (R4.out.later ((Below.refl _ _).drew : Below W.heap.size W W.drew))
  replace T4 := Lib.hid (T4.out.later ((Below.refl _ _).drew : Below W.heap.size W W.drew))
  replace R5 := Lib.hid (R5.out.later ((Below.refl _ _).drew : Below W.heap.size W W.drew))
  have pSn := fcells_4_4_4_3 G1.out G2.out G3.out P4.out
  go_region_held3 (fun w' => w'.cell? ⟨wv1.heap.size, 0, none⟩ = some (.int .i64 0) ∧ w'.cell? ⟨wv1.heap.size, 1, none⟩ = some (.int .i64 0) ∧ w'.cell? ⟨wv1.heap.size, 2, none⟩ = some (.int .i64 0) ∧ w'.cell? ⟨wv1.heap.size, 3, none⟩ = some (.int .i64 0) ∧ w'.cell? ⟨wv2.heap.size, 0, none⟩ = some (.int .i64 0) ∧ w'.cell? ⟨wv2.heap.size, 1, none⟩ = some (.int .i64 0) ∧ w'.cell? ⟨wv2.heap.size, 2, none⟩ = some (.int .i64 0) ∧ w'.cell? ⟨wv2.heap.size, 3, none⟩ = some (.int .i64 0) ∧ w'.cell? ⟨wv3.heap.size, 0, none⟩ = some (.int .i64 1) ∧ w'.cell? ⟨wv3.heap.size, 1, none⟩ = some (.int .i64 0) ∧ w'.cell? ⟨wv3.heap.size, 2, none⟩ = some (.int .i64 0) ∧ w'.cell? ⟨wv3.heap.size, 3, none⟩ = some (.int .i64 2) ∧ w'.cell? ⟨wv4.heap.size, 0, none⟩ = some (.bool (zneg q.num)) ∧ w'.cell? ⟨wv4.heap.size, 1, none⟩ = some (.slice a4 n4 c4) ∧ w'.cell? ⟨wv4.heap.size, 2, none⟩ = some (.slice b4 m4 d4)) (exact pSn)
    (first
    | (go_at_call 46; (first
      | (refine (FS.of 11 _ (by decide)).mono ?_; rintro e wp1 ⟨a6, n6, c6, b6, m6, d6, rfl, h6, g6, b⟩; replace HB := Lib.hid (below_then HB.out b); replace G1 := Lib.hid (blk_later G1.out b); replace G2 := Lib.hid (blk_later G2.out b); replace G3 := Lib.hid (blk_later G3.out b); replace P4 := Lib.hid (blk_later P4.out b); replace R4 := Lib.hid (R4.out.later b); replace T4 := Lib.hid (T4.out.later b); replace R5 := Lib.hid (R5.out.later b); have R6 := Lib.hid h6; have T6 := Lib.hid g6; have ln6 : n6 ≤ 2 := Nat.le_trans (Nat.le_of_eq h6.len.symm) (Nat.le_trans (qlen_num _) (qlen_int (by decide))); have lm6 : m6 ≤ 2 := Nat.le_trans (Nat.le_of_eq g6.len.symm) (Nat.le_trans (qlen_den _) (qlen_int (by decide))); clear h6 g6; clear b; clear pSn; have pSn := fcells_4_4_4_3 G1.out G2.out G3.out P4.out; have pM1 := True.intro)))
    | (go_at_call 42; (first
      | (have pm1 := pM1; refine (FS.same (frV (zneg q.num) a4 n4 c4 b4 m4 d4) (frV (zneg ((11 : Int) : Rat).num) a6 n6 c6 b6 m6 d6) q ((11 : Int) : Rat) _ (Fr.right R4.out T4.out (by omega) (by omega)) (Fr.right R6.out T6.out (by omega) (by omega))).mono ?_; rintro e wp2 ⟨rfl, b⟩; replace HB := Lib.hid (below_then HB.out b); replace G1 := Lib.hid (blk_later G1.out b); replace G2 := Lib.hid (blk_later G2.out b); replace G3 := Lib.hid (blk_later G3.out b); replace P4 := Lib.hid (blk_later P4.out b); replace R4 := Lib.hid (R4.out.later b); replace T4 := Lib.hid (T4.out.later b); replace R5 := Lib.hid (R5.out.later b); clear R6; clear T6; rw [decide_eq_true EQ.out]; clear b; clear pSn; have pSn := fcells_4_4_4_3 G1.out G2.out G3.out P4.out; clear pM1 pm1; have pM2 := True.intro)))
    | (go_at_call 40; (first
      | (have pm2 := pM2; refine (text_rw S a5 n5 c5 D _ R5.out (by have := ln5.out; omega) (fun x hx => Nat.le_trans (QD.out x hx) (by decide)) (Lib.hid (hT.out.later HB.out))).mono ?_; rintro e wp3 ⟨rfl, b⟩; replace HB := Lib.hid (below_then HB.out b); replace G1 := Lib.hid (blk_later G1.out b); replace G2 := Lib.hid (blk_later G2.out b); replace G3 := Lib.hid (blk_later G3.out b); replace P4 := Lib.hid (blk_later P4.out b); replace R4 := Lib.hid (R4.out.later b); replace T4 := Lib.hid (T4.out.later b); replace R5 := Lib.hid (R5.out.later b); rw [ED.out]; clear b; clear pSn; have pSn := fcells_4_4_4_3 G1.out G2.out G3.out P4.out; clear pM2 pm2; have pM3 := True.intro))))
  go_wp2
  go_ret
  exact ⟨rfl, HB.out⟩
end Go.Proofs.YtjeigdlhjghinaaGreatDoor
