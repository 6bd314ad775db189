/-
  The walks of the laws of layer 9: FracMakes, whatever comes in.
-/
import Derived.Test.YtpjgmkkdbmegjaaLaw09Walks12M
namespace Go.Proofs.Ytpjgmkkdbmegjaa
open Go.RowKit

set_option maxRecDepth 4096 in
set_option maxHeartbeats 4000000 in
theorem law09_makes_out (S : FracSaid) (s0 : Bool) (a0 : Option Addr) (n0 c0 : Nat) (b0 : Option Addr) (m0 d0 : Nat) (x y : Int) (a : Option Addr) (n cap : Nat) (w : World) (h : (30 < n0 ∨ 30 < m0) ∨ 20 < n) :
    Calls Try.prog 3 #[frV s0 a0 n0 c0 b0 m0 d0, .agg #[.int .i64 x, .int .i64 y], .slice a n cap] w (Gives (.bool true) w) := by
  have HB := Lib.hid (below_then (below_alloc w (.cells #[.bool s0, .slice a0 n0 c0, .slice b0 m0 d0] 24)) (below_alloc _ (.cells #[.int .i64 x, .int .i64 y] 25)))
  obtain ⟨hx0, hx1⟩ := boxes_at w ((w.alloc (.cells #[.bool s0, .slice a0 n0 c0, .slice b0 m0 d0] 24)).alloc (.cells #[.int .i64 x, .int .i64 y] 25)) #[.bool s0, .slice a0 n0 c0, .slice b0 m0 d0] #[.int .i64 x, .int .i64 y] 24 25 (Below.refl _ _)
  have X0 := Lib.hid hx0
  clear hx0 hx1
  by_cases hl : 30 < n0 ∨ 30 < m0
  · have hl0 : (decide ((30 : Int) < (n0 : Int)) || decide ((30 : Int) < (m0 : Int))) = true := by
      rw [Bool.or_eq_true]
      rcases hl with h8 | h8
      · exact .inl (decide_eq_true (by omega))
      · exact .inr (decide_eq_true (by omega))
    clear h hl
    go_enter Try.func3, Try.ntmps3
    unfold frV
    obtain ⟨k0, k1, k2⟩ := cells_3 X0.out
    go_wp2_with fail
    refine (ref09_long s0 a0 n0 c0 b0 m0 d0 30 _).mono ?_
    rintro e w1 ⟨rfl, b⟩
    clear k0 k1 k2
    rw [hl0]
    replace HB := Lib.hid (below_then HB.out b)
    clear b hl0 X0
    go_wp2_with fail
    refine (law09_works S _).mono ?_
    rintro e w2 ⟨rfl, b2⟩
    go_wp2
    go_ret
    exact ⟨rfl, below_then HB.out b2⟩
  · have hl0 : (decide ((30 : Int) < (n0 : Int)) || decide ((30 : Int) < (m0 : Int))) = false := by rw [decide_eq_false (by omega), decide_eq_false (by omega)]; rfl
    have hn20 : decide ((20 : Int) < (n : Int)) = true := decide_eq_true (by omega)
    clear h hl
    go_enter Try.func3, Try.ntmps3
    unfold frV
    obtain ⟨k0, k1, k2⟩ := cells_3 X0.out
    go_wp2_with fail
    refine (ref09_long s0 a0 n0 c0 b0 m0 d0 30 _).mono ?_
    rintro e w1 ⟨rfl, b⟩
    clear k0 k1 k2
    rw [hl0]
    replace HB := Lib.hid (below_then HB.out b)
    clear b hl0 X0
    go_wp2_with fail
    refine (law09_works S _).mono ?_
    rintro e w2 ⟨rfl, b2⟩
    go_wp2
    go_ret
    exact ⟨rfl, below_then HB.out b2⟩
theorem law09_makes (S : FracSaid) (s0 : Bool) (a0 : Option Addr) (n0 c0 : Nat) (la0 : List Nat) (b0 : Option Addr) (m0 d0 : Nat) (lb0 : List Nat) (x y : Int) (a : Option Addr) (n cap : Nat) (K : List Fx) (w : World) (ha0 : Wd w a0 n0 c0 la0) (hb0 : Wd w b0 m0 d0 lb0) (hx : isInt x) (hy : isInt y) (hK : Fxs w a n cap K) :
    Calls Try.prog 3 #[frV s0 a0 n0 c0 b0 m0 d0, .agg #[.int .i64 x, .int .i64 y], .slice a n cap] w (Gives (.bool true) w) := by
  by_cases h : (30 < n0 ∨ 30 < m0) ∨ 20 < n
  · exact law09_makes_out S s0 a0 n0 c0 b0 m0 d0 x y a n cap w h
  · exact law09_makes_in S s0 a0 n0 c0 la0 b0 m0 d0 lb0 x y a n cap K w ha0 hb0 (by omega) (by omega) hx hy hK (by omega)
end Go.Proofs.Ytpjgmkkdbmegjaa
