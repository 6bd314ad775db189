/-
  The walks of the laws of layer 9: FracPowers, whole.
-/
import Derived.Test.YtpjgmkkdbmegjaaLaw09Walks2M
import Derived.Deep.RegionHeld3
namespace Go.Proofs.Ytpjgmkkdbmegjaa
open Go.RowKit

set_option maxRecDepth 4096 in
set_option maxHeartbeats 16000000 in
theorem law09_powers_out (S : FracSaid) (s0 : Bool) (a0 : Option Addr) (n0 c0 : Nat) (b0 : Option Addr) (m0 d0 : Nat) (e : Int) (w : World) (h : 4 < n0 ∨ 4 < m0) :
    Calls Try.prog 5 #[frV s0 a0 n0 c0 b0 m0 d0, .int .i64 e] w (Gives (.bool true) w) := by
  have HB := Lib.hid (below_alloc w (.cells #[.bool s0, .slice a0 n0 c0, .slice b0 m0 d0] 24))
  have X0 : Hid ((w.alloc (.cells #[.bool s0, .slice a0 n0 c0, .slice b0 m0 d0] 24)).heap[w.heap.size]? = some (.cells #[.bool s0, .slice a0 n0 c0, .slice b0 m0 d0] 24 (0, 0))) := Lib.hid (blk_new w _ _)
  have hl0 : (decide ((4 : Int) < (n0 : Int)) || decide ((4 : Int) < (m0 : Int))) = true := by
    rcases (show 4 < n0 ∨ 4 < m0 by omega) with h9 | h9
    · rw [decide_eq_true (by omega)]; rfl
    · rw [Bool.or_eq_true]; exact .inr (decide_eq_true (by omega))
  clear h
  go_enter Try.func5, Try.ntmps5
  unfold frV
  obtain ⟨k0, k1, k2⟩ := cells_3 X0.out
  go_wp2_with fail
  refine (ref09_long s0 a0 n0 c0 b0 m0 d0 4 _).mono ?_
  rintro e w1 ⟨rfl, b⟩
  clear k0 k1 k2
  replace HB := Lib.hid (below_then HB.out b)
  replace X0 := Lib.hid (blk_later X0.out b)
  clear b
  rw [hl0]
  obtain ⟨k0, k1, k2⟩ := cells_3 X0.out
  go_wp2_with fail
  refine (law09_works S _).mono ?_
  rintro e w2 ⟨rfl, b⟩
  clear k0 k1 k2
  replace HB := Lib.hid (below_then HB.out b)
  replace X0 := Lib.hid (blk_later X0.out b)
  clear b
  go_wp2
  go_ret
  exact ⟨rfl, HB.out⟩
theorem law09_powers (S : FracSaid) (s0 : Bool) (a0 : Option Addr) (n0 c0 : Nat) (la0 : List Nat) (b0 : Option Addr) (m0 d0 : Nat) (lb0 : List Nat) (e : Int) (hi : isInt e) (w : World) (ha0 : Wd w a0 n0 c0 la0) (hb0 : Wd w b0 m0 d0 lb0) :
    Calls Try.prog 5 #[frV s0 a0 n0 c0 b0 m0 d0, .int .i64 e] w (Gives (.bool true) w) := by
  by_cases h : 4 < n0 ∨ 4 < m0
  · exact law09_powers_out S s0 a0 n0 c0 b0 m0 d0 e w h
  · by_cases h0 : powOk (qval s0 (val la0) (val lb0)) e
    · exact law09_powers_yes S s0 a0 n0 c0 la0 b0 m0 d0 lb0 w ha0 hb0 (by omega) (by omega) e h0
    · exact law09_powers_no S s0 a0 n0 c0 la0 b0 m0 d0 lb0 w ha0 hb0 (by omega) (by omega) e hi h0
end Go.Proofs.Ytpjgmkkdbmegjaa
