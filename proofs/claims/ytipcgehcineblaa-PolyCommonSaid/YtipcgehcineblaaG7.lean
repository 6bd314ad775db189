/-
  Several texts of this claim as one, group 7.
-/
import Derived.Test.YtipcgehcineblaaG6
import Derived.Test.YtipcgehcineblaaG3
import Derived.Test.YtipcgehcineblaaG5
import Derived.Test.YtipcgehcineblaaG1
import Derived.ProofKit
import Derived.OpenShut
import Derived.Deep.Matrix
import Derived.Lib.SmallJoins
import Derived.ChangeArms
import Derived.Deep.Slices
import Derived.Laws.AppendOwn
/-
  The contracts of package common (layer 6) at this seat: the common divisor of two numbers.
-/
namespace Go.Proofs.Ytipcgehcineblaa
open Go.RowKit

theorem Wd.held_any {w : World} {a : Option Addr} {n cap : Nat} {l : List Nat} (h : Wd w a n cap l) : heldVal w (.slice a n cap) = val l := by
  cases a with
  | none => obtain ⟨_, _, rfl⟩ := h.ofNone; rfl
  | some ad =>
    by_cases hn : n = 0
    · subst hn
      obtain rfl := List.eq_nil_of_length_eq_zero h.len
      rfl
    · obtain ⟨b, off, e, _⟩ := h.at (by omega)
      simp only [Option.some.injEq] at e
      subst e
      exact h.held
theorem small_two {v m : Nat} (h : (dg v).length = m) (hm : m ≤ 2) : v < 18446744073709551616 := by
  have h1 := dg_length_pow.1 (show (dg v).length ≤ 2 by omega)
  simpa using h1
theorem smallV_of {v : Nat} (h : v < 18446744073709551616) : smallV v = v ∧ smallB v = true := by
  unfold smallV smallB two64
  rw [if_pos h, decide_eq_true h]
  exact ⟨rfl, rfl⟩
/-- Between two rounds: two numbers, the greater one first, whose common divisor is the one asked for. -/
def LehmerRel (G bound : Nat) (w0 : World) (x y : Value) (wr : World) : Prop :=
  ∃ (a : Option Addr) (n cap : Nat) (b : Option Addr) (m cap' : Nat) (X Y : Nat), x = .slice a n cap ∧ y = .slice b m cap' ∧ Hid (Wd wr a n cap (dg X)) ∧ Hid (Wd wr b m cap' (dg Y)) ∧ n ≤ bound ∧ m ≤ bound ∧ Hid (Y ≤ X ∧ Nat.gcd X Y = G) ∧ Hid (Below w0.heap.size w0 wr)
set_option maxRecDepth 4096 in
set_option maxHeartbeats 8000000 in
theorem common_gcd (a : Option Addr) (n cap : Nat) (la : List Nat) (b : Option Addr) (m cap' : Nat) (lb : List Nat) (w : World) (ha : Wd w a n cap la) (hb : Wd w b m cap' lb) (hn : n ≤ 83886080000) (hm : m ≤ 83886080000) :
    Calls Try.prog 55 #[.slice a n cap, .slice b m cap'] w (Lst (dg (Nat.gcd (val la) (val lb))) w) := by
  have hla : (dg (val la)).length ≤ n := ha.trim_le
  have hlb : (dg (val lb)).length ≤ m := hb.trim_le
  have Hb := Lib.hid hb
  go_enter Try.func55, Try.ntmps55
  go_wp2_with fail
  refine (natSaid.norm _ _ _ _ _ ha (by omega)).mono ?_
  rintro e w1 ⟨ax, nx, cx, rfl, hx, hB1⟩
  have Hx := Lib.hid hx
  have hnx : nx ≤ 83886080000 := by have h1 := hx.len; omega
  have Hb1 := Lib.hid (Hb.out.later hB1)
  clear ha hb hx Hb
  go_wp2_with fail
  refine (natSaid.norm _ _ _ _ _ Hb1.out (by omega)).mono ?_
  rintro e w2 ⟨ay, ny, cy, rfl, hy, hB2⟩
  have Hy := Lib.hid hy
  have hny : ny ≤ 83886080000 := by have h1 := hy.len; omega
  have Hx2 := Lib.hid (Hx.out.later hB2)
  have hB12 := below_then hB1 hB2
  clear hy hla hlb Hb1 Hx hB1 hB2
  generalize val la = X0 at *
  generalize val lb = Y0 at *
  have HvX : Hid (val (dg X0) = X0) := Lib.hid (val_dg X0)
  have HvY : Hid (val (dg Y0) = Y0) := Lib.hid (val_dg Y0)
  go_wp2_with fail
  refine (natSaid.cmp _ _ _ _ _ _ _ _ _ Hx2.out Hy.out (by omega) (by omega)).mono ?_
  rintro e w3 ⟨rfl, hB3⟩
  rw [HvX.out, HvY.out]
  have Hx3 := Lib.hid (Hx2.out.later hB3)
  have Hy3 := Lib.hid (Hy.out.later hB3)
  have HB3 := Lib.hid (below_then hB12 hB3)
  clear Hx2 Hy hB12 hB3 HvX HvY
  obtain ⟨G, hG⟩ : ∃ G, G = Nat.gcd X0 Y0 := ⟨_, rfl⟩
  have HGe : Hid (Nat.gcd X0 Y0 = G) := Lib.hid hG.symm
  have HS : Hid ((X0 < Y0 → X0 ≤ Y0 ∧ Nat.gcd Y0 X0 = G) ∧ (¬ X0 < Y0 → Y0 ≤ X0 ∧ Nat.gcd X0 Y0 = G)) := Lib.hid ⟨fun h => ⟨by omega, by rw [hG, Nat.gcd_comm]⟩, fun h => ⟨by omega, hG.symm⟩⟩
  clear hG
  by_cases hlt : X0 < Y0
  · have hc : cmpI X0 Y0 < 0 := by rw [cmpI_lt hlt]; omega
    have HSs := Lib.hid (HS.out.1 hlt)
    clear hlt HS
    generalize cmpI X0 Y0 = c at *
    go_wp2
    go_loopw [0, 1] (fun xv yv wr => LehmerRel G 83886080000 w xv yv wr) (fun _ yv wr => heldVal wr yv)
    case atStart => exact ⟨ay, ny, cy, ax, nx, cx, Y0, X0, rfl, rfl, Hy3, Hx3, hny, hnx, HSs, HB3⟩
    case round =>
      clear Hx3 Hy3 hnx hny HSs HB3 hc
      obtain ⟨a, n, cap, b, m, cap', X, Y, rfl, rfl, HX, HY, hn, hm, HXY, HB⟩ := hrel
      have HvX : Hid (val (dg X) = X) := Lib.hid (val_dg X)
      have HvY : Hid (val (dg Y) = Y) := Lib.hid (val_dg Y)
      by_cases hm2 : 2 < m
      · have HmY := Lib.hid HY.out.held_any
        rw [HvY.out] at HmY
        have hmn : m ≤ n := by rw [← HX.out.len, ← HY.out.len]; exact dg_length_mono HXY.out.1
        obtain ⟨k, rfl⟩ : ∃ k, n = k + 3 := ⟨n - 3, by omega⟩
        have HY0 : Hid (Y ≠ 0) := Lib.hid (fun h => by have := HY.out.len; rw [h, dg_zero] at this; simp at this; omega)
        have HYX : Hid (Y ≤ X) := Lib.hid HXY.out.1
        have hm2i : (2 : Int) < (m : Int) := by omega
        go_wp2_with fail
        refine (common_lessen a k cap b m cap' X Y _ HX.out HY.out (by omega) (by omega) HYX HY0).mono ?_
        rintro e w4 ⟨a4, n4, c4, b4, m4, d4, X4, Y4, rfl, h4, k4, HL, hB4⟩
        have H4 := Lib.hid h4
        have K4 := Lib.hid k4
        have hn4 : n4 ≤ 83886080000 := by have h1 := h4.len; have h2 := dg_length_mono HL.out.1; have h3 := HY.out.len; omega
        have hm4 : m4 ≤ 83886080000 := by have h1 := k4.len; have h2 := dg_length_mono (Nat.le_of_lt HL.out.2.1); have h3 := HY.out.len; omega
        have HB4 := Lib.hid (below_then HB.out hB4)
        have HmK := Lib.hid k4.held_any
        rw [val_dg] at HmK
        clear h4 k4 hB4
        go_wp2
        go_roundw
        case rel => exact ⟨a4, n4, c4, b4, m4, d4, X4, Y4, rfl, rfl, H4, K4, hn4, hm4, Lib.hid ⟨HL.out.2.2.1, HL.out.2.2.2.trans HXY.out.2⟩, HB4⟩
        case measure => rw [HmK.out, HmY.out]; exact HL.out.2.1
      · have hm2i : ¬ (2 : Int) < (m : Int) := by omega
        by_cases hm0 : m = 0
        · subst hm0
          have HGX : Hid (X = G) := Lib.hid (by rw [← HXY.out.2, dg_nil_iff.1 HY.out.len, Nat.gcd_zero_right])
          go_wp2
          go_ret
          exact ⟨a, n, cap, rfl, by rw [HGe.out, ← HGX.out]; exact HX.out, HB.out⟩
        · have hmb : ((m : Int) == 0) = false := by simp; omega
          have HY0 : Hid (Y ≠ 0) := Lib.hid (fun h => by have := HY.out.len; rw [h, dg_zero] at this; simp at this; omega)
          have hYs : Y < 18446744073709551616 := small_two HY.out.len (by omega)
          have hRs : X % Y < 18446744073709551616 := Nat.lt_trans (Nat.mod_lt _ (Nat.pos_of_ne_zero HY0.out)) hYs
          have HGY : Hid (Nat.gcd Y (X % Y) = G) := Lib.hid ((gcd_rest HY0.out).1.trans HXY.out.2)
          go_wp2_with fail
          refine (quot_div _ _ _ _ _ _ _ _ _ HX.out HY.out (by omega) (by omega) (by rw [HvY.out]; exact HY0)).mono ?_
          rintro e w4 ⟨a4, n4, c4, b4, m4, d4, rfl, h4, k4, hB4⟩
          rw [HvX.out, HvY.out] at k4
          have K4 := Lib.hid k4
          have hm4 : m4 ≤ 83886080000 := by have h1 := k4.len; have h2 := dg_length_mono (Nat.le_of_lt (Nat.mod_lt X (Nat.pos_of_ne_zero HY0.out))); have h3 := HY.out.len; omega
          have HY4 := Lib.hid (HY.out.later hB4)
          have hB14 := below_then HB.out hB4
          obtain ⟨R, hR⟩ : ∃ R, R = X % Y := ⟨_, rfl⟩
          rw [← hR] at hRs HGY K4
          have HvR : Hid (val (dg R) = R) := Lib.hid (val_dg R)
          have HsY := Lib.hid (smallV_of hYs)
          have HsR := Lib.hid (smallV_of hRs)
          clear h4 k4 hB4 hR HX HY HB HXY HY0
          go_wp2_with fail
          refine (natSaid.small _ _ _ _ _ HY4.out (by omega)).mono ?_
          rintro e w5 ⟨rfl, hB5⟩
          rw [HvY.out, HsY.out.1, HsY.out.2]
          have K5 := Lib.hid (K4.out.later hB5)
          have hB15 := below_then hB14 hB5
          clear K4 HY4 hB14 hB5 HvX HvY HsY
          go_wp2_with fail
          refine (natSaid.small _ _ _ _ _ K5.out (by omega)).mono ?_
          rintro e w6 ⟨rfl, hB6⟩
          rw [HvR.out, HsR.out.1, HsR.out.2]
          have HB16 := Lib.hid (below_then hB15 hB6)
          clear K5 hB15 hB6 HvR HsR
          go_wp2
          go_loopw [8, 10] (fun xv yv wr => ∃ x y : Nat, xv = .int .u64 (x : Int) ∧ yv = .int .u64 (y : Int) ∧ x < 18446744073709551616 ∧ y < 18446744073709551616 ∧ Hid (Nat.gcd x y = G) ∧ Hid (Below w.heap.size w wr)) (fun _ yv _ => (intOf yv).toNat)
          case atStart => exact ⟨Y, R, rfl, rfl, hYs, hRs, HGY, HB16⟩
          case round =>
            clear HGY HB16 hYs hRs
            obtain ⟨x, y, rfl, rfl, hxs, hys, HG, HBr⟩ := hrel
            by_cases hy0 : 0 < y
            · have hyi : (0 : Int) < (y : Int) := by omega
              obtain ⟨z, hz⟩ : ∃ z : Nat, (x : Int) % (y : Int) = (z : Int) := ⟨x % y, by rw [Int.natCast_emod]⟩
              have hze : x % y = z := by have := Int.natCast_emod x y; omega
              have Hz := Lib.hid (gcd_rest (X := x) (Y := y) (by omega))
              rw [hze] at Hz
              have hzs : z < y := Hz.out.2
              clear hze
              go_wp2
              go_quiet (fail)
              rw [hz]
              have HBd := Lib.hid (below_drewN HBr.out nq)
              go_wp2
              go_roundw
              case rel => exact ⟨y, z, rfl, rfl, hys, by omega, Lib.hid (Hz.out.1.trans HG.out), HBd⟩
              case measure => simp [intOf]; omega
            · obtain rfl : y = 0 := by omega
              have HGx : Hid (x = G) := Lib.hid (by rw [← HG.out, Nat.gcd_zero_right])
              go_wp2_with fail
              refine (natSaid.of x _ (by omega)).mono ?_
              rintro e w7 ⟨a7, n7, c7, rfl, h7, hB7⟩
              rw [HGx.out] at h7
              have H7 := Lib.hid h7
              clear h7
              go_wp2
              go_ret
              exact ⟨a7, n7, c7, rfl, by rw [HGe.out]; exact H7.out, below_then HBr.out hB7⟩
  · have hc : ¬ cmpI X0 Y0 < 0 := by unfold cmpI; split <;> (try split) <;> omega
    have HSs := Lib.hid (HS.out.2 hlt)
    clear hlt HS
    generalize cmpI X0 Y0 = c at *
    go_wp2
    go_loopw [0, 1] (fun xv yv wr => LehmerRel G 83886080000 w xv yv wr) (fun _ yv wr => heldVal wr yv)
    case atStart => exact ⟨ax, nx, cx, ay, ny, cy, X0, Y0, rfl, rfl, Hx3, Hy3, hnx, hny, HSs, HB3⟩
    case round =>
      clear Hx3 Hy3 hnx hny HSs HB3 hc
      obtain ⟨a, n, cap, b, m, cap', X, Y, rfl, rfl, HX, HY, hn, hm, HXY, HB⟩ := hrel
      have HvX : Hid (val (dg X) = X) := Lib.hid (val_dg X)
      have HvY : Hid (val (dg Y) = Y) := Lib.hid (val_dg Y)
      by_cases hm2 : 2 < m
      · have HmY := Lib.hid HY.out.held_any
        rw [HvY.out] at HmY
        have hmn : m ≤ n := by rw [← HX.out.len, ← HY.out.len]; exact dg_length_mono HXY.out.1
        obtain ⟨k, rfl⟩ : ∃ k, n = k + 3 := ⟨n - 3, by omega⟩
        have HY0 : Hid (Y ≠ 0) := Lib.hid (fun h => by have := HY.out.len; rw [h, dg_zero] at this; simp at this; omega)
        have HYX : Hid (Y ≤ X) := Lib.hid HXY.out.1
        have hm2i : (2 : Int) < (m : Int) := by omega
        go_wp2_with fail
        refine (common_lessen a k cap b m cap' X Y _ HX.out HY.out (by omega) (by omega) HYX HY0).mono ?_
        rintro e w4 ⟨a4, n4, c4, b4, m4, d4, X4, Y4, rfl, h4, k4, HL, hB4⟩
        have H4 := Lib.hid h4
        have K4 := Lib.hid k4
        have hn4 : n4 ≤ 83886080000 := by have h1 := h4.len; have h2 := dg_length_mono HL.out.1; have h3 := HY.out.len; omega
        have hm4 : m4 ≤ 83886080000 := by have h1 := k4.len; have h2 := dg_length_mono (Nat.le_of_lt HL.out.2.1); have h3 := HY.out.len; omega
        have HB4 := Lib.hid (below_then HB.out hB4)
        have HmK := Lib.hid k4.held_any
        rw [val_dg] at HmK
        clear h4 k4 hB4
        go_wp2
        go_roundw
        case rel => exact ⟨a4, n4, c4, b4, m4, d4, X4, Y4, rfl, rfl, H4, K4, hn4, hm4, Lib.hid ⟨HL.out.2.2.1, HL.out.2.2.2.trans HXY.out.2⟩, HB4⟩
        case measure => rw [HmK.out, HmY.out]; exact HL.out.2.1
      · have hm2i : ¬ (2 : Int) < (m : Int) := by omega
        by_cases hm0 : m = 0
        · subst hm0
          have HGX : Hid (X = G) := Lib.hid (by rw [← HXY.out.2, dg_nil_iff.1 HY.out.len, Nat.gcd_zero_right])
          go_wp2
          go_ret
          exact ⟨a, n, cap, rfl, by rw [HGe.out, ← HGX.out]; exact HX.out, HB.out⟩
        · have hmb : ((m : Int) == 0) = false := by simp; omega
          have HY0 : Hid (Y ≠ 0) := Lib.hid (fun h => by have := HY.out.len; rw [h, dg_zero] at this; simp at this; omega)
          have hYs : Y < 18446744073709551616 := small_two HY.out.len (by omega)
          have hRs : X % Y < 18446744073709551616 := Nat.lt_trans (Nat.mod_lt _ (Nat.pos_of_ne_zero HY0.out)) hYs
          have HGY : Hid (Nat.gcd Y (X % Y) = G) := Lib.hid ((gcd_rest HY0.out).1.trans HXY.out.2)
          go_wp2_with fail
          refine (quot_div _ _ _ _ _ _ _ _ _ HX.out HY.out (by omega) (by omega) (by rw [HvY.out]; exact HY0)).mono ?_
          rintro e w4 ⟨a4, n4, c4, b4, m4, d4, rfl, h4, k4, hB4⟩
          rw [HvX.out, HvY.out] at k4
          have K4 := Lib.hid k4
          have hm4 : m4 ≤ 83886080000 := by have h1 := k4.len; have h2 := dg_length_mono (Nat.le_of_lt (Nat.mod_lt X (Nat.pos_of_ne_zero HY0.out))); have h3 := HY.out.len; omega
          have HY4 := Lib.hid (HY.out.later hB4)
          have hB14 := below_then HB.out hB4
          obtain ⟨R, hR⟩ : ∃ R, R = X % Y := ⟨_, rfl⟩
          rw [← hR] at hRs HGY K4
          have HvR : Hid (val (dg R) = R) := Lib.hid (val_dg R)
          have HsY := Lib.hid (smallV_of hYs)
          have HsR := Lib.hid (smallV_of hRs)
          clear h4 k4 hB4 hR HX HY HB HXY HY0
          go_wp2_with fail
          refine (natSaid.small _ _ _ _ _ HY4.out (by omega)).mono ?_
          rintro e w5 ⟨rfl, hB5⟩
          rw [HvY.out, HsY.out.1, HsY.out.2]
          have K5 := Lib.hid (K4.out.later hB5)
          have hB15 := below_then hB14 hB5
          clear K4 HY4 hB14 hB5 HvX HvY HsY
          go_wp2_with fail
          refine (natSaid.small _ _ _ _ _ K5.out (by omega)).mono ?_
          rintro e w6 ⟨rfl, hB6⟩
          rw [HvR.out, HsR.out.1, HsR.out.2]
          have HB16 := Lib.hid (below_then hB15 hB6)
          clear K5 hB15 hB6 HvR HsR
          go_wp2
          go_loopw [8, 10] (fun xv yv wr => ∃ x y : Nat, xv = .int .u64 (x : Int) ∧ yv = .int .u64 (y : Int) ∧ x < 18446744073709551616 ∧ y < 18446744073709551616 ∧ Hid (Nat.gcd x y = G) ∧ Hid (Below w.heap.size w wr)) (fun _ yv _ => (intOf yv).toNat)
          case atStart => exact ⟨Y, R, rfl, rfl, hYs, hRs, HGY, HB16⟩
          case round =>
            clear HGY HB16 hYs hRs
            obtain ⟨x, y, rfl, rfl, hxs, hys, HG, HBr⟩ := hrel
            by_cases hy0 : 0 < y
            · have hyi : (0 : Int) < (y : Int) := by omega
              obtain ⟨z, hz⟩ : ∃ z : Nat, (x : Int) % (y : Int) = (z : Int) := ⟨x % y, by rw [Int.natCast_emod]⟩
              have hze : x % y = z := by have := Int.natCast_emod x y; omega
              have Hz := Lib.hid (gcd_rest (X := x) (Y := y) (by omega))
              rw [hze] at Hz
              have hzs : z < y := Hz.out.2
              clear hze
              go_wp2
              go_quiet (fail)
              rw [hz]
              have HBd := Lib.hid (below_drewN HBr.out nq)
              go_wp2
              go_roundw
              case rel => exact ⟨y, z, rfl, rfl, hys, by omega, Lib.hid (Hz.out.1.trans HG.out), HBd⟩
              case measure => simp [intOf]; omega
            · obtain rfl : y = 0 := by omega
              have HGx : Hid (x = G) := Lib.hid (by rw [← HG.out, Nat.gcd_zero_right])
              go_wp2_with fail
              refine (natSaid.of x _ (by omega)).mono ?_
              rintro e w7 ⟨a7, n7, c7, rfl, h7, hB7⟩
              rw [HGx.out] at h7
              have H7 := Lib.hid h7
              clear h7
              go_wp2
              go_ret
              exact ⟨a7, n7, c7, rfl, by rw [HGe.out]; exact H7.out, below_then HBr.out hB7⟩
end Go.Proofs.Ytipcgehcineblaa

/-
  The contracts of package common (layer 6) at this seat: All, Lcm, Prime, Cancel; and all of them as one.
-/
namespace Go.Proofs.Ytipcgehcineblaa
open Go.RowKit

theorem dg_gcd_length (x y : Nat) : (dg (Nat.gcd x y)).length ≤ (dg x).length + (dg y).length := by
  by_cases h : x = 0
  · rw [h, Nat.gcd_zero_left]; omega
  · have := dg_length_mono (Nat.le_of_dvd (Nat.pos_of_ne_zero h) (Nat.gcd_dvd_left x y)); omega
theorem common_exact_left {A B : Nat} : A % Nat.gcd A B = 0 := Nat.mod_eq_zero_of_dvd (Nat.gcd_dvd_left A B)
theorem common_exact_right {A B : Nat} : B % Nat.gcd A B = 0 := Nat.mod_eq_zero_of_dvd (Nat.gcd_dvd_right A B)
theorem exactL_dvd {v x : Nat} (h : v % x = 0) : exactL v x = dg (v / x) := if_pos h
set_option maxRecDepth 4096 in
set_option maxHeartbeats 1000000 in
theorem common_cancel (a : Option Addr) (n cap : Nat) (la : List Nat) (b : Option Addr) (m cap' : Nat) (lb : List Nat) (w : World) (ha : Wd w a n cap la) (hb : Wd w b m cap' lb) (hn : n ≤ 41943040000) (hm : m ≤ 41943040000) :
    Calls Try.prog 33 #[.slice a n cap, .slice b m cap'] w (Pair2 (dg (val la / Nat.gcd (val la) (val lb))) (dg (val lb / Nat.gcd (val la) (val lb))) w) := by
  have hgl := dg_gcd_length (val la) (val lb)
  have hla : (dg (val la)).length ≤ n := ha.trim_le
  have hlb : (dg (val lb)).length ≤ m := hb.trim_le
  have Ha := Lib.hid ha
  have Hb := Lib.hid hb
  clear ha hb
  go_enter Try.func33, Try.ntmps33
  go_wp2_with fail
  refine (common_gcd _ _ _ _ _ _ _ _ _ Ha.out Hb.out (by omega) (by omega)).mono ?_
  rintro e w1 ⟨a1, n1, c1, rfl, h1, hB1⟩
  have H1 := Lib.hid h1
  have hn1 : n1 ≤ 83886080000 := by have := h1.len; omega
  have Ha1 := Lib.hid (Ha.out.later hB1)
  have Hb1 := Lib.hid (Hb.out.later hB1)
  clear h1 Ha Hb
  by_cases h0 : Nat.gcd (val la) (val lb) = 0
  · have HL : Hid (dg (val la / Nat.gcd (val la) (val lb)) = [] ∧ dg (val lb / Nat.gcd (val la) (val lb)) = []) := Lib.hid (by rw [h0, Nat.div_zero, Nat.div_zero, dg_zero]; exact ⟨rfl, rfl⟩)
    go_wp2_with fail
    refine (quot_exact_none _ _ _ _ _ _ _ _ H1.out (by omega) (Lib.hid (by rw [val_dg]; exact h0))).mono ?_
    rintro e w2 ⟨a2, n2, c2, rfl, h2, hB2⟩
    have H2 := Lib.hid h2
    have H12 := Lib.hid (H1.out.later hB2)
    clear h2
    go_wp2_with fail
    refine (quot_exact_none _ _ _ _ _ _ _ _ H12.out (by omega) (Lib.hid (by rw [val_dg]; exact h0))).mono ?_
    rintro e w3 ⟨a3, n3, c3, rfl, h3, hB3⟩
    have H3 := Lib.hid h3
    have H23 := Lib.hid (H2.out.later hB3)
    clear h3
    go_wp2
    go_ret2
    exact ⟨a2, n2, c2, a3, n3, c3, rfl, by rw [HL.out.1]; exact H23.out, by rw [HL.out.2]; exact H3.out, below_then hB1 (below_then hB2 hB3)⟩
  · have HL : Hid (exactL (val la) (val (dg (Nat.gcd (val la) (val lb)))) = dg (val la / Nat.gcd (val la) (val lb))) := Lib.hid (by rw [val_dg]; exact exactL_dvd common_exact_left)
    have HR : Hid (exactL (val lb) (val (dg (Nat.gcd (val la) (val lb)))) = dg (val lb / Nat.gcd (val la) (val lb))) := Lib.hid (by rw [val_dg]; exact exactL_dvd common_exact_right)
    go_wp2_with fail
    refine (quot_exact _ _ _ _ _ _ _ _ _ Ha1.out H1.out (by omega) (by omega) (Lib.hid (by rw [val_dg]; exact h0))).mono ?_
    rintro e w2 ⟨a2, n2, c2, rfl, h2, hB2⟩
    rw [HL.out] at h2
    have H2 := Lib.hid h2
    have H12 := Lib.hid (H1.out.later hB2)
    have Hb2 := Lib.hid (Hb1.out.later hB2)
    clear h2
    go_wp2_with fail
    refine (quot_exact _ _ _ _ _ _ _ _ _ Hb2.out H12.out (by omega) (by omega) (Lib.hid (by rw [val_dg]; exact h0))).mono ?_
    rintro e w3 ⟨a3, n3, c3, rfl, h3, hB3⟩
    rw [HR.out] at h3
    have H3 := Lib.hid h3
    have H23 := Lib.hid (H2.out.later hB3)
    clear h3
    go_wp2
    go_ret2
    exact ⟨a2, n2, c2, a3, n3, c3, rfl, H23.out, H3.out, below_then hB1 (below_then hB2 hB3)⟩
end Go.Proofs.Ytipcgehcineblaa

/-
  An argument of type []uint32, [][]uint32, opened: the words that it holds. Of no program.
-/
namespace Go.Proofs.Ytipcgehcineblaa
open Go.ChangeShapes Go.WideShapes Go.ChangeAt Go.RowKit
section
variable {H : Type} {enc : TypeId × Value → H} {P : Program} {W : World} {base : Nat}

theorem words_of_ints {zs : List Int} (h : ∀ n ∈ zs, (Lit.int .u32 n).wf = true) : ∃ l : List Nat, zs = l.map (fun x => ((x : Nat) : Int)) ∧ okw l := by
  refine ⟨zs.map Int.toNat, ?_, ?_⟩
  · rw [List.map_map]
    have : ∀ z ∈ zs, ((fun x => ((x : Nat) : Int)) ∘ Int.toNat) z = z := fun z hz => by
      have := bounds_u32 (h z hz)
      show ((z.toNat : Nat) : Int) = z
      omega
    conv => lhs; rw [← List.map_id zs]
    exact List.map_congr_left (fun z hz => (this z hz).symm)
  · intro x hx
    obtain ⟨z, hz, rfl⟩ := List.mem_map.1 hx
    have := bounds_u32 (h z hz)
    omega
theorem getD_words (l : List Nat) (j : Nat) : (l.map fun x => ((x : Nat) : Int)).getD j 0 = ((atw l j : Nat) : Int) := by
  unfold atw
  rw [List.getD_eq_getElem?_getD, List.getD_eq_getElem?_getD, List.getElem?_map]
  cases l[j]? <;> rfl

/-- Cells that hold integers of kind u32, as words. -/
theorem Wd.ofInts {a : Option Addr} {len cap : Nat} {zs : List Int} (hl : len ≤ cap) (hm : cap ≤ maxLen) (hn : a = none → cap = 0) (hz : len ≤ zs.length) (hw : ∀ n ∈ zs, (Lit.int .u32 n).wf = true)
    (hc : ∀ a', a = some a' → ∀ i, i < len → W.cell? (a'.add i) = some (.int .u32 (zs.getD i 0))) : ∃ l, Wd W a len cap l := by
  obtain ⟨l, rfl, ho⟩ := words_of_ints hw
  have hll : (l.take len).length = len := by rw [List.length_take]; simp at hz; omega
  refine ⟨l.take len, hll, hl, by unfold maxLen at hm; omega, okw_take ho len, hn, ?_⟩
  by_cases h0 : len = 0
  · exact .inl h0
  · cases a with
    | none => have := hn rfl; omega
    | some a' =>
      obtain ⟨b, off, spot⟩ := a'
      have hspot : spot = none := by simpa [Addr.add] using World.cell?_spot (hc _ rfl 0 (by omega))
      subst hspot
      refine .inr ⟨b, off, rfl, fun j hj => ?_⟩
      rw [← add_plain, hc _ rfl j hj, getD_words, atw_take hj]

end
end Go.Proofs.Ytipcgehcineblaa

/-
  An argument of a struct type opened: a whole number, a fraction. Of no program.
-/
namespace Go.Proofs.Ytipcgehcineblaa
open Go.ChangeShapes Go.WideShapes Go.ChangeAt Go.RowKit Go.Deep
section
variable {H : Type} {enc : TypeId × Value → H} {P : Program} {W : World} {base : Nat}

theorem words_cell {t e : TypeId} {n0 : Nat} {v : Value} {y : DataW H × List MemPlace} (ht : P.underlying t = some (.slice e)) (he : P.underlying e = some (.int .u32)) (hce : P.cellsOf e = 1)
    (hf : DataW.trod enc P W 0 (fun _ => true) true n0 t [v] = some y) : ∃ (a : Option Addr) (n cap : Nat) (l : List Nat), v = .slice a n cap ∧ Wd W a n cap l := by
  rcases open_ints ht he hce hf with ⟨hcs, _⟩ | ⟨a, len', cap', zs, hcs, _, hl, hm, hz, _, hc, hw⟩
  · simp at hcs
    exact ⟨_, _, _, [], hcs, Wd.ofNil W⟩
  · simp at hcs
    simp only [if_true] at hz
    obtain ⟨l, hl'⟩ := Wd.ofInts (W := W) (a := some a) hl hm (fun e => by cases e) (by omega) hw (fun a' e i hi => by cases e; exact hc i (by omega))
    exact ⟨_, _, _, l, hcs, hl'⟩
/-- A fraction, as a value. -/
def frV (neg : Bool) (a : Option Addr) (n cap : Nat) (b : Option Addr) (m cap' : Nat) : Value := .agg #[.bool neg, .slice a n cap, .slice b m cap']
theorem open_frac {t : TypeId} {f0 f1 f2 : Field} {e : TypeId} {v : Value} {d : DataW H} {p : List MemPlace} (hs : P.underlying t = some (.struct #[f0, f1, f2])) (hone : oneCellFields P #[f0, f1, f2] = true) (hC : P.cellsOf t = 3)
    (hb : P.underlying f0.type = some .bool) (ht : P.underlying f1.type = some (.slice e)) (ht2 : P.underlying f2.type = some (.slice e)) (he : P.underlying e = some (.int .u32)) (hce : P.cellsOf e = 1)
    (hv : Value.okWide P W .any base t v) (h : DataW.Trod enc P W 0 (fun _ => true) true t v d p) :
    ∃ (neg : Bool) (a : Option Addr) (n cap : Nat) (l : List Nat) (b : Option Addr) (m cap' : Nat) (k : List Nat), v = frV neg a n cap b m cap' ∧ Wd W a n cap l ∧ Wd W b m cap' k := by
  obtain ⟨v0, v1, v2, y0, y1, y2, m, rfl, _, _, h0, h1, h2⟩ := Joins.open_agg3 hs hone hC hv h
  obtain ⟨b, e0, _⟩ := DataW.trod_bool hb h0
  simp at e0
  subst e0
  obtain ⟨a, n, cap, l, rfl, hw⟩ := words_cell ht he hce h1
  obtain ⟨a2, n2, cap2, l2, rfl, hw2⟩ := words_cell ht2 he hce h2
  exact ⟨b, a, n, cap, l, a2, n2, cap2, l2, rfl, hw, hw2⟩
end
end Go.Proofs.Ytipcgehcineblaa

/-
  Fractions: their value as a rational number; the right one of a value. Nothing of the program.
-/
namespace Go.Proofs.Ytipcgehcineblaa
open Go.RowKit

/-- The value of a fraction. -/
def qval (neg : Bool) (u v : Nat) : Rat := mkRat (zval neg u) v
/-- A right fraction comes back. -/
def LstQ (q : Rat) (w : World) (e : Ending) (w' : World) : Prop :=
  ∃ (a : Option Addr) (n cap : Nat) (b : Option Addr) (m cap' : Nat), e = .returned (frV (zneg q.num) a n cap b m cap') ∧ Wd w' a n cap (dg q.num.natAbs) ∧ Wd w' b m cap' (dg q.den) ∧ Below w.heap.size w w'
theorem zval_nought (neg : Bool) : zval neg 0 = 0 := by unfold zval; cases neg <;> rfl
theorem qval_none (neg : Bool) {u v : Nat} (h : v = 0 ∨ u = 0) : qval neg u v = 0 := by
  unfold qval
  rcases h with rfl | rfl
  · exact Rat.mkRat_zero _
  · rw [zval_nought]; exact Rat.zero_mkRat _
theorem zval_div (neg : Bool) {u g : Nat} (h : g ∣ u) : zval neg u / (g : Int) = zval neg (u / g) := by
  unfold zval
  cases neg
  · simp
  · simp only [reduceIte]
    rw [Int.neg_ediv_of_dvd (Int.natCast_dvd_natCast.2 h), Int.natCast_ediv]
theorem qval_parts (neg : Bool) {u v : Nat} (hv : v ≠ 0) : (qval neg u v).num = zval neg (u / Nat.gcd u v) ∧ (qval neg u v).den = v / Nat.gcd u v := by
  unfold qval
  rw [Rat.mkRat_def, dif_neg hv]
  refine ⟨?_, ?_⟩
  · rw [Rat.num_normalize, zval_abs, zval_div neg (Nat.gcd_dvd_left u v)]
  · rw [Rat.den_normalize, zval_abs]
/-- What stands as a right fraction stands for its value. -/
theorem qval_dg (q : Rat) : qval (zneg q.num) (val (dg q.num.natAbs)) (val (dg q.den)) = q := by
  unfold qval
  rw [val_dg, val_dg, zval_of, Rat.mkRat_self]
end Go.Proofs.Ytipcgehcineblaa

/-
  Fractions: powers, sizes, quotients; lengths of what is reckoned. Nothing of the program.
-/
namespace Go.Proofs.Ytipcgehcineblaa

theorem dg_one_length : (dg 1).length ≤ 1 := dg_length_le (by decide)
theorem num_nz {q : Rat} (h : q ≠ 0) : q.num ≠ 0 := fun e => h (Rat.num_eq_zero.1 e)
theorem qinv_parts {q : Rat} (h : q ≠ 0) : (q⁻¹).num.natAbs = q.den ∧ (q⁻¹).den = q.num.natAbs := by
  have h0 := num_nz h
  rw [Rat.num_inv, Rat.den_inv, if_neg h0, Int.natAbs_mul, Int.natAbs_natCast]
  refine ⟨?_, rfl⟩
  rcases Int.lt_trichotomy q.num 0 with g | g | g
  · rw [Int.sign_eq_neg_one_of_neg g]; simp
  · exact absurd g h0
  · rw [Int.sign_eq_one_of_pos g]; simp
/-- The lower number over the upper one: the quotient of 1. -/
theorem qval_turned (neg : Bool) (u v : Nat) : qval neg v u = (qval neg u v)⁻¹ := by
  unfold qval
  by_cases hv : v = 0
  · subst hv; rw [zval_nought, Rat.zero_mkRat, Rat.mkRat_zero, Rat.inv_zero]
  · by_cases hu : u = 0
    · subst hu; rw [zval_nought, Rat.zero_mkRat, Rat.mkRat_zero, Rat.inv_zero]
    · rw [← Rat.divInt_ofNat, ← Rat.divInt_ofNat, Rat.inv_divInt]
      unfold zval
      cases neg
      · rfl
      · simp only [reduceIte]
        rw [Rat.divInt_neg']
/-- Whether there is a power; which. -/
def powOk (q : Rat) (e : Int) : Prop := -8 ≤ e ∧ e ≤ 8 ∧ (0 ≤ e ∨ q ≠ 0)
instance powOk.dec (q : Rat) (e : Int) : Decidable (powOk q e) := by unfold powOk; infer_instance
end Go.Proofs.Ytipcgehcineblaa

/-
  What package frac reckons, in rational numbers: sums over what the lower numbers have not in common, order by signs and by products, the floor, powers. Nothing of the program.
-/
namespace Go.Proofs.Ytipcgehcineblaa

theorem fc_qval_of (z : Int) (v : Nat) : qval (zneg z) z.natAbs v = mkRat z v := by unfold qval; rw [zval_of]
theorem fc_qval_mul (na nb : Bool) (u v s t : Nat) : mkRat (zval na u * zval nb s) (v * t) = qval na u v * qval nb s t := by
  unfold qval; rw [Rat.mkRat_mul_mkRat]
theorem fc_qval_neg (neg : Bool) (u v : Nat) : qval (!neg) u v = -qval neg u v := by
  unfold qval
  rw [Rat.neg_mkRat]
  congr 1
  unfold zval; cases neg <;> simp
theorem fc_qval_add (na nb : Bool) (u v s t : Nat) (hv : v ≠ 0) (ht : t ≠ 0) : mkRat (zval na u * ((t / Nat.gcd v t : Nat) : Int) + zval nb s * ((v / Nat.gcd v t : Nat) : Int)) (v * (t / Nat.gcd v t)) = qval na u v + qval nb s t := by
  unfold qval
  have hg : Nat.gcd v t ≠ 0 := fun e => hv (Nat.eq_zero_of_gcd_eq_zero_left e)
  obtain ⟨x, hx⟩ := Nat.gcd_dvd_left v t
  obtain ⟨y, hy⟩ := Nat.gcd_dvd_right v t
  have h1 : v / Nat.gcd v t = x := by
    have : Nat.gcd v t * x / Nat.gcd v t = x := Nat.mul_div_cancel_left x (Nat.pos_of_ne_zero hg)
    rw [← hx] at this; exact this
  have h2 : t / Nat.gcd v t = y := by
    have : Nat.gcd v t * y / Nat.gcd v t = y := Nat.mul_div_cancel_left y (Nat.pos_of_ne_zero hg)
    rw [← hy] at this; exact this
  rw [h1, h2, Rat.mkRat_add_mkRat _ _ hv ht]
  have hy0 : y ≠ 0 := fun e => ht (by rw [hy, e, Nat.mul_zero])
  rw [Rat.mkRat_eq_iff (Nat.mul_ne_zero hv hy0) (Nat.mul_ne_zero hv ht)]
  generalize Nat.gcd v t = g at *
  subst hx
  subst hy
  push_cast
  grind
theorem fc_sgn_mul_pos (z : Int) {k : Nat} (hk : k ≠ 0) : sgn (z * k) = sgn z := by
  have hk' : 0 < (k : Int) := by omega
  unfold sgn
  rcases Int.lt_trichotomy z 0 with h | h | h
  · have := Int.mul_neg_of_neg_of_pos h hk'
    rw [if_neg (by omega), if_pos this, if_neg (by omega), if_pos h]
  · subst h; simp
  · have := Int.mul_pos h hk'
    rw [if_neg (by omega), if_neg (by omega), if_neg (by omega), if_neg (by omega)]
theorem fc_sgn_mkRat (z : Int) {v : Nat} (hv : v ≠ 0) : sgn (mkRat z v).num = sgn z := by
  rw [Rat.mkRat_def, dif_neg hv, Rat.num_normalize]
  have hg : Nat.gcd z.natAbs v ≠ 0 := fun e => hv (Nat.eq_zero_of_gcd_eq_zero_right e)
  have hd : ((Nat.gcd z.natAbs v : Nat) : Int) ∣ z := Int.dvd_natAbs.1 (Int.natCast_dvd_natCast.2 (Nat.gcd_dvd_left _ _))
  have h1 := fc_sgn_mul_pos (z / (Nat.gcd z.natAbs v : Int)) hg
  rw [Int.ediv_mul_cancel hd] at h1
  exact h1.symm
theorem fc_mkRat_minus (x y : Int) {v t : Nat} (hv : v ≠ 0) (ht : t ≠ 0) : mkRat x v - mkRat y t = mkRat (x * (t : Int) - y * (v : Int)) (v * t) := by
  rw [Rat.sub_eq_add_neg, Rat.neg_mkRat, Rat.mkRat_add_mkRat _ _ hv ht, Int.neg_mul, Int.sub_eq_add_neg]
theorem fc_sub_parts (p q : Rat) : p - q = mkRat (p.num * q.den - q.num * p.den) (p.den * q.den) := by
  rw [← fc_mkRat_minus p.num q.num p.den_nz q.den_nz, Rat.mkRat_self, Rat.mkRat_self]
theorem fc_sgn_cases (z : Int) : (z < 0 ∧ sgn z = -1) ∨ (z = 0 ∧ sgn z = 0) ∨ (0 < z ∧ sgn z = 1) := by
  unfold sgn
  rcases Int.lt_trichotomy z 0 with h | h | h
  · left; exact ⟨h, by rw [if_neg (by omega), if_pos h]⟩
  · right; left; exact ⟨h, by rw [if_pos h]⟩
  · right; right; exact ⟨h, by rw [if_neg (by omega), if_neg (by omega)]⟩
theorem fc_qcmp_far {p q : Rat} (h : sgn p.num ≠ sgn q.num) : sgn (sgn p.num - sgn q.num) = sgn (p - q).num := by
  rw [fc_sub_parts, fc_sgn_mkRat _ (Nat.mul_ne_zero p.den_nz q.den_nz)]
  have hk : 0 < (q.den : Int) := by have := q.den_pos; omega
  have hl : 0 < (p.den : Int) := by have := p.den_pos; omega
  generalize (q.den : Int) = k at *
  generalize (p.den : Int) = l at *
  generalize p.num = x at *
  generalize q.num = y at *
  rcases fc_sgn_cases x with ⟨hx, ex⟩ | ⟨hx, ex⟩ | ⟨hx, ex⟩ <;> rcases fc_sgn_cases y with ⟨hy, ey⟩ | ⟨hy, ey⟩ | ⟨hy, ey⟩
  · exact absurd (ex.trans ey.symm) h
  · have h1 := Int.mul_neg_of_neg_of_pos hx hk
    subst hy
    rw [ex, ey]; unfold sgn; simp; rw [if_neg (by omega)]; omega
  · have h1 := Int.mul_neg_of_neg_of_pos hx hk
    have h2 := Int.mul_pos hy hl
    rw [ex, ey]; unfold sgn; rw [if_neg (by decide), if_pos (by decide), if_neg (by omega), if_pos (by omega)]
  · subst hx
    have h2 := Int.mul_neg_of_neg_of_pos hy hl
    rw [ex, ey]; unfold sgn; rw [if_neg (by decide), if_neg (by decide), if_neg (by omega), if_neg (by omega)]
  · exact absurd (ex.trans ey.symm) h
  · subst hx
    have h2 := Int.mul_pos hy hl
    rw [ex, ey]; unfold sgn; rw [if_neg (by decide), if_pos (by decide), if_neg (by omega), if_pos (by omega)]
  · have h1 := Int.mul_pos hx hk
    have h2 := Int.mul_neg_of_neg_of_pos hy hl
    rw [ex, ey]; unfold sgn; rw [if_neg (by decide), if_neg (by decide), if_neg (by omega), if_neg (by omega)]
  · have h1 := Int.mul_pos hx hk
    subst hy
    rw [ex, ey]; unfold sgn; rw [if_neg (by decide), if_neg (by decide), if_neg (by omega), if_neg (by omega)]
  · exact absurd (ex.trans ey.symm) h
theorem fc_qcmp_near {na nb : Bool} {u v s t : Nat} (hv : v ≠ 0) (ht : t ≠ 0) : sgn (zval na u * (t : Int) - zval nb s * (v : Int)) = sgn (qval na u v - qval nb s t).num := by
  unfold qval
  rw [fc_mkRat_minus _ _ hv ht, fc_sgn_mkRat _ (Nat.mul_ne_zero hv ht)]
theorem fc_qsign {neg : Bool} {u v : Nat} (hv : v ≠ 0) : sgn (qval neg u v).num = sgn (zval neg u) := fc_sgn_mkRat _ hv
theorem fc_qsign_zero {q : Rat} : sgn q.num = 0 ↔ q = 0 := by
  constructor
  · intro h
    rcases fc_sgn_cases q.num with ⟨_, e⟩ | ⟨e, _⟩ | ⟨_, e⟩
    · omega
    · exact Rat.num_eq_zero.1 e
    · omega
  · intro h; subst h; rfl
end Go.Proofs.Ytipcgehcineblaa

/-
  What some boxes hold, cell by cell. Of no program.
-/
namespace Go.Proofs.Ytipcgehcineblaa
open Go.RowKit

theorem fcells_2 {w : World} {A0 : Nat} {c0_0 c0_1 : Value} {t0 : TypeId} (h0 : w.heap[A0]? = some (.cells #[c0_0, c0_1] t0 (0, 0))) : w.cell? ⟨A0, 0, none⟩ = some c0_0 ∧ w.cell? ⟨A0, 1, none⟩ = some c0_1 := ⟨blk_cell h0 0, blk_cell h0 1⟩
theorem fcells_3 {w : World} {A0 : Nat} {c0_0 c0_1 c0_2 : Value} {t0 : TypeId} (h0 : w.heap[A0]? = some (.cells #[c0_0, c0_1, c0_2] t0 (0, 0))) : w.cell? ⟨A0, 0, none⟩ = some c0_0 ∧ w.cell? ⟨A0, 1, none⟩ = some c0_1 ∧ w.cell? ⟨A0, 2, none⟩ = some c0_2 := ⟨blk_cell h0 0, blk_cell h0 1, blk_cell h0 2⟩
theorem fcells_2_2 {w : World} {A0 A1 : Nat} {c0_0 c0_1 c1_0 c1_1 : Value} {t0 t1 : TypeId} (h0 : w.heap[A0]? = some (.cells #[c0_0, c0_1] t0 (0, 0))) (h1 : w.heap[A1]? = some (.cells #[c1_0, c1_1] t1 (0, 0))) : w.cell? ⟨A0, 0, none⟩ = some c0_0 ∧ w.cell? ⟨A0, 1, none⟩ = some c0_1 ∧ w.cell? ⟨A1, 0, none⟩ = some c1_0 ∧ w.cell? ⟨A1, 1, none⟩ = some c1_1 := ⟨blk_cell h0 0, blk_cell h0 1, blk_cell h1 0, blk_cell h1 1⟩
theorem fcells_2_3 {w : World} {A0 A1 : Nat} {c0_0 c0_1 c1_0 c1_1 c1_2 : Value} {t0 t1 : TypeId} (h0 : w.heap[A0]? = some (.cells #[c0_0, c0_1] t0 (0, 0))) (h1 : w.heap[A1]? = some (.cells #[c1_0, c1_1, c1_2] t1 (0, 0))) : w.cell? ⟨A0, 0, none⟩ = some c0_0 ∧ w.cell? ⟨A0, 1, none⟩ = some c0_1 ∧ w.cell? ⟨A1, 0, none⟩ = some c1_0 ∧ w.cell? ⟨A1, 1, none⟩ = some c1_1 ∧ w.cell? ⟨A1, 2, none⟩ = some c1_2 := ⟨blk_cell h0 0, blk_cell h0 1, blk_cell h1 0, blk_cell h1 1, blk_cell h1 2⟩
theorem fcells_3_3 {w : World} {A0 A1 : Nat} {c0_0 c0_1 c0_2 c1_0 c1_1 c1_2 : Value} {t0 t1 : TypeId} (h0 : w.heap[A0]? = some (.cells #[c0_0, c0_1, c0_2] t0 (0, 0))) (h1 : w.heap[A1]? = some (.cells #[c1_0, c1_1, c1_2] t1 (0, 0))) : w.cell? ⟨A0, 0, none⟩ = some c0_0 ∧ w.cell? ⟨A0, 1, none⟩ = some c0_1 ∧ w.cell? ⟨A0, 2, none⟩ = some c0_2 ∧ w.cell? ⟨A1, 0, none⟩ = some c1_0 ∧ w.cell? ⟨A1, 1, none⟩ = some c1_1 ∧ w.cell? ⟨A1, 2, none⟩ = some c1_2 := ⟨blk_cell h0 0, blk_cell h0 1, blk_cell h0 2, blk_cell h1 0, blk_cell h1 1, blk_cell h1 2⟩
theorem fcells_3_3_3 {w : World} {A0 A1 A2 : Nat} {c0_0 c0_1 c0_2 c1_0 c1_1 c1_2 c2_0 c2_1 c2_2 : Value} {t0 t1 t2 : TypeId} (h0 : w.heap[A0]? = some (.cells #[c0_0, c0_1, c0_2] t0 (0, 0))) (h1 : w.heap[A1]? = some (.cells #[c1_0, c1_1, c1_2] t1 (0, 0))) (h2 : w.heap[A2]? = some (.cells #[c2_0, c2_1, c2_2] t2 (0, 0))) : w.cell? ⟨A0, 0, none⟩ = some c0_0 ∧ w.cell? ⟨A0, 1, none⟩ = some c0_1 ∧ w.cell? ⟨A0, 2, none⟩ = some c0_2 ∧ w.cell? ⟨A1, 0, none⟩ = some c1_0 ∧ w.cell? ⟨A1, 1, none⟩ = some c1_1 ∧ w.cell? ⟨A1, 2, none⟩ = some c1_2 ∧ w.cell? ⟨A2, 0, none⟩ = some c2_0 ∧ w.cell? ⟨A2, 1, none⟩ = some c2_1 ∧ w.cell? ⟨A2, 2, none⟩ = some c2_2 := ⟨blk_cell h0 0, blk_cell h0 1, blk_cell h0 2, blk_cell h1 0, blk_cell h1 1, blk_cell h1 2, blk_cell h2 0, blk_cell h2 1, blk_cell h2 2⟩
end Go.Proofs.Ytipcgehcineblaa

/-
  Lists of fractions in memory: what a slice of fractions holds; an argument of such a type opened. Of no program.
-/
namespace Go.Proofs.Ytipcgehcineblaa
open Go.ChangeShapes Go.WideShapes Go.ChangeAt Go.RowKit Go.Deep

/-- In the world w the slice ⟨a, n, cap⟩ of fractions holds just these signs and lists of words. -/
def Frs (w : World) (a : Option Addr) (n cap : Nat) (ls : List (Bool × List Nat × List Nat)) : Prop :=
  ls.length = n ∧ n ≤ cap ∧ cap ≤ 9223372036854775807 ∧ (a = none → cap = 0) ∧ (n = 0 ∨ ∃ b off, a = some ⟨b, off, none⟩ ∧ ∀ j, j < n → ∃ (a' : Option Addr) (n' c' : Nat) (b' : Option Addr) (m' d' : Nat),
    w.cell? ⟨b, off + j * 3, none⟩ = some (.bool (ls.getD j (false, [], [])).1) ∧ w.cell? ⟨b, off + j * 3 + 1, none⟩ = some (.slice a' n' c') ∧ w.cell? ⟨b, off + j * 3 + 2, none⟩ = some (.slice b' m' d') ∧
      Wd w a' n' c' (ls.getD j (false, [], [])).2.1 ∧ Wd w b' m' d' (ls.getD j (false, [], [])).2.2)
theorem Frs.len {w : World} {a : Option Addr} {n cap : Nat} {ls : List (Bool × List Nat × List Nat)} (h : Frs w a n cap ls) : ls.length = n := h.1
theorem Frs.bound {w : World} {a : Option Addr} {n cap : Nat} {ls : List (Bool × List Nat × List Nat)} (h : Frs w a n cap ls) : n ≤ cap ∧ cap ≤ 9223372036854775807 := ⟨h.2.1, h.2.2.1⟩
theorem Frs.later {w w' : World} {a : Option Addr} {n cap : Nat} {ls : List (Bool × List Nat × List Nat)} (h : Frs w a n cap ls) (hb : Below w.heap.size w w') : Frs w' a n cap ls :=
  ⟨h.1, h.2.1, h.2.2.1, h.2.2.2.1, h.2.2.2.2.imp id fun ⟨b, off, e, hc⟩ => ⟨b, off, e, fun j hj => by
    obtain ⟨a', n', c', b', m', d', h1, h2, h3, h4, h5⟩ := hc j hj
    exact ⟨a', n', c', b', m', d', cell_later hb h1, cell_later hb h2, cell_later hb h3, h4.later hb, h5.later hb⟩⟩⟩
theorem Frs.ofNil (w : World) : Frs w none 0 0 [] := ⟨rfl, Nat.le_refl _, by omega, fun _ => rfl, .inl rfl⟩
section
variable {H : Type} {enc : TypeId × Value → H} {P : Program} {W : World} {base : Nat}
theorem open_fracs {t e : TypeId} {f0 f1 f2 : Field} {q : TypeId} {v : Value} {d : DataW H} {p : List MemPlace} (ht : P.underlying t = some (.slice e)) (hs : P.underlying e = some (.struct #[f0, f1, f2])) (hone : oneCellFields P #[f0, f1, f2] = true) (hC : P.cellsOf e = 3)
    (hb : P.underlying f0.type = some .bool) (h1 : P.underlying f1.type = some (.slice q)) (h2 : P.underlying f2.type = some (.slice q)) (hq : P.underlying q = some (.int .u32)) (hcq : P.cellsOf q = 1)
    (hv : Value.okWide P W .any base t v) (h : DataW.Trod enc P W 0 (fun _ => true) true t v d p) : ∃ (a : Option Addr) (n cap : Nat) (ls : List (Bool × List Nat × List Nat)), v = .slice a n cap ∧ Frs W a n cap ls := by
  obtain ⟨a0, len, cap, rfl⟩ := okWide_slice ht hv
  obtain ⟨fuel, hf⟩ := h
  rcases open_slice ht hf with ⟨hcs, _⟩ | ⟨a, len', cap', m, n, D, Pl, hcs, _, hl, hm, hmm, _, hx⟩
  · simp [Value.cells] at hcs
    obtain ⟨rfl, rfl, rfl⟩ := hcs
    exact ⟨_, _, _, [], rfl, Frs.ofNil W⟩
  · simp [Value.cells] at hcs
    obtain ⟨rfl, rfl, rfl⟩ := hcs
    simp only [if_true] at hmm
    obtain ⟨o0, k0⟩ := hone_of hone 0 f0 rfl
    obtain ⟨o1, k1⟩ := hone_of hone 1 f1 rfl
    obtain ⟨o2, k2⟩ := hone_of hone 2 f2 rfl
    have each : ∀ i, i < cap → ∃ x : Bool × List Nat × List Nat, ∃ (a' : Option Addr) (n' c' : Nat) (b' : Option Addr) (m' d' : Nat), W.cell? (a.add (i * 3)) = some (.bool x.1) ∧ W.cell? (a.add (i * 3 + 1)) = some (.slice a' n' c') ∧ W.cell? (a.add (i * 3 + 2)) = some (.slice b' m' d') ∧ Wd W a' n' c' x.2.1 ∧ Wd W b' m' d' x.2.2 := by
      intro i hi
      obtain ⟨cs', h3, h4⟩ := hx i (by omega)
      rw [hC] at h3
      obtain ⟨_, hlen, hcell⟩ := World.cells?_some h3
      obtain ⟨y0, y1, y2, k, _, _, g0, g1, g2⟩ := trod_struct3 hs h4
      match cs', hlen with
      | [v0, v1, v2], _ =>
        simp [o0, k0] at g0
        simp [o1, k1] at g1
        simp [o2, k2] at g2
        obtain ⟨x, e0, _⟩ := DataW.trod_bool hb g0
        simp at e0
        subst e0
        obtain ⟨a1, n1, c1, l1, rfl, w1⟩ := words_cell h1 hq hcq g1
        obtain ⟨a2, n2, c2, l2, rfl, w2⟩ := words_cell h2 hq hcq g2
        have e0 := hcell 0 (by omega)
        have e1 := hcell 1 (by omega)
        have e2 := hcell 2 (by omega)
        rw [Go.Deep.add_add] at e0 e1 e2
        exact ⟨(x, l1, l2), a1, n1, c1, a2, n2, c2, by simpa using e0, by simpa using e1, by simpa using e2, w1, w2⟩
    obtain ⟨F, hF⟩ := choose_lt each
    refine ⟨_, _, _, (List.range len).map F, rfl, by simp, hl, by unfold maxLen at hm; omega, fun e => (by cases e), ?_⟩
    by_cases h0 : len = 0
    · exact .inl h0
    · obtain ⟨_, _, _, _, _, _, _, h00, _⟩ := each 0 (by omega)
      obtain ⟨b, off, sp⟩ := a
      have hsp : sp = none := by simpa [Addr.add] using World.cell?_spot h00
      subst hsp
      refine .inr ⟨b, off, rfl, fun j hj => ?_⟩
      have e1 : ((List.range len).map F).getD j (false, [], []) = F j := by rw [List.getD_eq_getElem?_getD, List.getElem?_map, List.getElem?_range hj]; rfl
      rw [e1]
      obtain ⟨a', n', c', b', m', d', q1, q2, q3, q4, q5⟩ := hF j (by omega)
      rw [add_plain] at q1 q2 q3
      exact ⟨a', n', c', b', m', d', q1, by rw [Nat.add_assoc]; exact q2, by rw [Nat.add_assoc]; exact q3, q4, q5⟩
end
end Go.Proofs.Ytipcgehcineblaa

/-
  Rows of fractions in memory, element by element; a row of one's own whose block holds no words; append to it; the greatest of some. Of no program.
-/
namespace Go.Proofs.Ytipcgehcineblaa
open Go.ChangeShapes Go.WideShapes Go.ChangeAt Go.RowKit Go.Deep

/-- A fraction as it stands in memory, with the words that it holds. -/
structure Fx where
  s : Bool
  a : Option Addr
  n : Nat
  c : Nat
  la : List Nat
  b : Option Addr
  m : Nat
  d : Nat
  lb : List Nat
def Fx.zero : Fx := ⟨false, none, 0, 0, [], none, 0, 0, []⟩
instance : Inhabited Fx := ⟨Fx.zero⟩
def Fx.cells (x : Fx) : List Value := [.bool x.s, .slice x.a x.n x.c, .slice x.b x.m x.d]
def Fx.ok (w : World) (x : Fx) : Prop := Wd w x.a x.n x.c x.la ∧ Wd w x.b x.m x.d x.lb
def Fx.q (x : Fx) : Rat := qval x.s (val x.la) (val x.lb)
theorem Fx.ok.later {w w' : World} {x : Fx} (h : x.ok w) (hb : Below w.heap.size w w') : x.ok w' := ⟨h.1.later hb, h.2.later hb⟩
def Fxs (w : World) (a : Option Addr) (n cap : Nat) (L : List Fx) : Prop :=
  L.length = n ∧ n ≤ cap ∧ cap ≤ 9223372036854775807 ∧ (a = none → cap = 0) ∧ (∀ x ∈ L, x.ok w) ∧ (n = 0 ∨ ∃ b off, a = some ⟨b, off, none⟩ ∧ ∀ j, j < n →
    w.cell? ⟨b, off + j * 3, none⟩ = some (.bool (L.getD j Fx.zero).s) ∧ w.cell? ⟨b, off + j * 3 + 1, none⟩ = some (.slice (L.getD j Fx.zero).a (L.getD j Fx.zero).n (L.getD j Fx.zero).c) ∧ w.cell? ⟨b, off + j * 3 + 2, none⟩ = some (.slice (L.getD j Fx.zero).b (L.getD j Fx.zero).m (L.getD j Fx.zero).d))
theorem Fxs.len {w : World} {a : Option Addr} {n cap : Nat} {L : List Fx} (h : Fxs w a n cap L) : L.length = n := h.1
theorem Fxs.bound {w : World} {a : Option Addr} {n cap : Nat} {L : List Fx} (h : Fxs w a n cap L) : n ≤ cap ∧ cap ≤ 9223372036854775807 := ⟨h.2.1, h.2.2.1⟩
theorem Fxs.ok {w : World} {a : Option Addr} {n cap : Nat} {L : List Fx} (h : Fxs w a n cap L) {x : Fx} (hx : x ∈ L) : x.ok w := h.2.2.2.2.1 x hx
theorem Fxs.later {w w' : World} {a : Option Addr} {n cap : Nat} {L : List Fx} (h : Fxs w a n cap L) (hb : Below w.heap.size w w') : Fxs w' a n cap L :=
  ⟨h.1, h.2.1, h.2.2.1, h.2.2.2.1, fun x hx => (h.ok hx).later hb, h.2.2.2.2.2.imp id fun ⟨b, off, e, hc⟩ => ⟨b, off, e, fun j hj => by
    obtain ⟨h1, h2, h3⟩ := hc j hj
    exact ⟨cell_later hb h1, cell_later hb h2, cell_later hb h3⟩⟩⟩
theorem Fxs.at {w : World} {a : Option Addr} {n cap : Nat} {L : List Fx} (h : Fxs w a n cap L) {j : Nat} (hj : j < n) : ∃ b off, a = some ⟨b, off, none⟩ ∧
    w.cell? ⟨b, off + j * 3, none⟩ = some (.bool (L.getD j Fx.zero).s) ∧ w.cell? ⟨b, off + j * 3 + 1, none⟩ = some (.slice (L.getD j Fx.zero).a (L.getD j Fx.zero).n (L.getD j Fx.zero).c) ∧ w.cell? ⟨b, off + j * 3 + 2, none⟩ = some (.slice (L.getD j Fx.zero).b (L.getD j Fx.zero).m (L.getD j Fx.zero).d) ∧ (L.getD j Fx.zero).ok w := by
  rcases h.2.2.2.2.2 with h0 | ⟨b, off, e, hc⟩
  · omega
  · obtain ⟨h1, h2, h3⟩ := hc j hj
    refine ⟨b, off, e, h1, h2, h3, h.ok ?_⟩
    have hl : j < L.length := by rw [h.len]; exact hj
    rw [List.getD_eq_getElem?_getD, List.getElem?_eq_getElem hl]
    exact List.getElem_mem hl
theorem Frs.to {w : World} {a : Option Addr} {n cap : Nat} {ls : List (Bool × List Nat × List Nat)} (h : Frs w a n cap ls) : ∃ L, Fxs w a n cap L := by
  obtain ⟨h1, h2, h3, h4, h5⟩ := h
  rcases h5 with h0 | ⟨b, off, e, hc⟩
  · exact ⟨[], h0.symm ▸ rfl, h2, h3, h4, fun x hx => (by cases hx), .inl h0⟩
  · have each : ∀ j, j < n → ∃ x : Fx, w.cell? ⟨b, off + j * 3, none⟩ = some (.bool x.s) ∧ w.cell? ⟨b, off + j * 3 + 1, none⟩ = some (.slice x.a x.n x.c) ∧ w.cell? ⟨b, off + j * 3 + 2, none⟩ = some (.slice x.b x.m x.d) ∧ x.ok w := fun j hj => by
      obtain ⟨a', n', c', b', m', d', q1, q2, q3, q4, q5⟩ := hc j hj
      exact ⟨⟨_, a', n', c', _, b', m', d', _⟩, q1, q2, q3, q4, q5⟩
    obtain ⟨F, hF⟩ := choose_lt each
    have hg : ∀ j, j < n → ((List.range n).map F).getD j Fx.zero = F j := fun j hj => by rw [List.getD_eq_getElem?_getD, List.getElem?_map, List.getElem?_range hj]; rfl
    refine ⟨(List.range n).map F, by simp, h2, h3, h4, fun x hx => ?_, .inr ⟨b, off, e, fun j hj => ?_⟩⟩
    · obtain ⟨j, hj, rfl⟩ := List.mem_map.1 hx
      exact (hF j (List.mem_range.1 hj)).2.2.2
    · rw [hg j hj]
      exact ⟨(hF j hj).1, (hF j hj).2.1, (hF j hj).2.2.1⟩
/-- The block that a value leads to holds no words. -/
def clean (w : World) (v : Value) : Prop := ∀ g, v.ownBlock = some g → ∀ (j : Nat) (k : Int), w.cell? ⟨g, j, none⟩ ≠ some (.int .u32 k)
theorem clean_nil (w : World) : clean w (.slice none 0 0) := fun g h => by simp [Value.ownBlock] at h
theorem Wd.aside {w w' : World} {v : Value} {a : Option Addr} {n c : Nat} {l : List Nat} (h : Wd w a n c l) (hc : clean w v) (hg : w.grownBy w' v.ownBlock) : Wd w' a n c l := by
  refine ⟨h.1, h.2.1, h.2.2.1, h.2.2.2.1, h.2.2.2.2.1, h.2.2.2.2.2.imp id fun ⟨b, off, e, hcl⟩ => ⟨b, off, e, fun j hj => ?_⟩⟩
  have h1 := hcl j hj
  have hlt : b < w.heap.size := by
    rcases Nat.lt_or_ge b w.heap.size with h2 | h2
    · exact h2
    · rw [World.cell?, Array.getElem?_eq_none h2] at h1; cases h1
  rw [World.cell?_of_block (hg.block b hlt (fun e2 => hc b e2.symm _ _ h1))]
  exact h1
def noWords (l : List Value) : Prop := ∀ u ∈ l, ∀ k : Int, u ≠ .int .u32 k
theorem noWords_cells (x : Fx) : noWords x.cells := by
  intro u hu k
  simp [Fx.cells] at hu
  rcases hu with rfl | rfl | rfl <;> simp
theorem noWords_flat (L : List Fx) : noWords (L.flatMap Fx.cells) := fun u hu k => by
  obtain ⟨x, _, hx⟩ := List.mem_flatMap.1 hu
  exact noWords_cells x u hx k
theorem noWords_append {l m : List Value} (h : noWords l) (k : noWords m) : noWords (l ++ m) := fun u hu => (List.mem_append.1 hu).elim (h u) (k u)
theorem clean_block {w : World} {g : Nat} {n c : Nat} {cur : Array Value} {e : TypeId} {fr : Nat × Nat} (hg : w.heap[g]? = some (.cells cur e fr)) (h : noWords cur.toList) : clean w (.slice (some ⟨g, 0, none⟩) n c) := by
  intro g' hg' j k hc
  simp [Value.ownBlock] at hg'
  subst hg'
  rw [cell_of_row w g j cur e fr hg] at hc
  have hm : Value.int .u32 k ∈ cur := Array.mem_of_getElem? hc
  exact h _ (by simpa using hm) k rfl
theorem noWords_zeros {z : Array Value} (h : noWords z.toList) (n : Nat) : noWords (Builtin.zeroCells z n).toList := by
  intro u hu k
  have hm : u ∈ Builtin.zeroCells z n := by simpa using hu
  unfold Builtin.zeroCells at hm
  simp at hm
  obtain ⟨i, h1, h2⟩ := hm
  have hz : 0 < z.size := Nat.pos_of_ne_zero (fun e => by rw [e, Nat.mul_zero] at h1; omega)
  have hi : i % z.size < z.size := Nat.mod_lt _ hz
  rw [getElem!_pos z _ hi] at h2
  exact h u (by rw [← h2]; simp) k
theorem wpList_append_clean {P : Program} (w : World) {ops : Array Oper} {rest : List Oper} {o : Oper} {a : Act} {Q : Exit → Act → World → Prop} (hgd : o.guard = none) (s x : Operand) (t : TypeId)
    (ho : o.op = .call { callee := .builtin .append, args := #[s, x], argTypes := #[t, t] })
    (base : Nat) (e : TypeId) (i : TypeInfo) (z : Value) (size bytes : Nat) (ht : P.underlying t = some (.slice e)) (hi : P.info? e = some i) (hz : i.zero = some z)
    (hsize : i.size = size) (hby : i.bytes = bytes) (hzs : z.cells.size = size) (hsz : 0 < size)
    (v : Value) (n : Nat) (xs : List Value) (hs : a.eval s = v) (hown : w.ownsRow base e size v n xs)
    (ad : Addr) (m c : Nat) (news : List Value) (hx : a.eval x = .slice (some ad) m c) (hl : news.length = m * size) (hnews : ∀ j u, news[j]? = some u → w.cell? (ad.add j) = some u) (h1 : ∀ u ∈ news, u.oneCell' = true)
    (h63 : n + m ≤ maxLen) (hbytes : (n + m) * bytes ≤ 140737488355328) (hbase : base ≤ w.heap.size) (hm : 0 < m) (hcl : clean w v) (hzc : noWords z.cells.toList) (hnc : noWords news) (hxc : noWords xs)
    (h : ∀ v' w', w'.ownsRow base e size v' (n + m) (xs ++ news) → w.grownBy w' v.ownBlock → clean w' v' → wpList P ops Q rest (a.put o.dst v') w') : wpList P ops Q (o :: rest) a w := by
  refine wpList_plain hgd fun _ hK => ?_
  obtain ⟨v', w', hr, h2, h3, h4⟩ := run_append_own (P := P) w base t o.type e i z size bytes ht hi hz hsize hby hzs hsz v n xs hown ad m c news hl hnews h1 h63 hbytes hbase
  have h5 : clean w' v' := by
    subst hsize hby
    rcases hown.2 with ⟨rfl, rfl⟩ | ⟨g, cap, cur, rfl, hbg, hg, hnc', hcm, hcs, htake⟩
    · have er := run_append_nil (P := P) w t o.type e i z ht hi hz ad m c news hl hnews hm (by simp only [maxLen] at h63; omega) (by simp only [Nat.zero_add] at hbytes; omega)
      rw [er] at hr
      simp only [Result.ok.injEq] at hr
      obtain ⟨rfl, rfl⟩ := hr
      exact clean_block (heap_alloc_new w.drew _) (by simp only [Array.toList_append]; exact noWords_append hnc (noWords_zeros hzc _))
    · by_cases hroom : n + m ≤ cap
      · have er := run_append_room (P := P) w t o.type e i ht hi g n cap cur hg ad m c news hl hnews h1 hroom (by rw [hl, hcs, ← Nat.add_mul]; exact Nat.mul_le_mul_right _ hroom)
        rw [er] at hr
        simp only [Result.ok.injEq] at hr
        obtain ⟨rfl, rfl⟩ := hr
        have hcu : noWords cur.toList := fun u hu k e2 => by
          obtain ⟨j, hj, e3⟩ := List.getElem_of_mem hu
          refine hcl g rfl j k ?_
          rw [cell_of_row w g j cur e (0, 0) hg, ← e2, ← e3]
          simp
        refine clean_block (setRow_heap w g cur _ e _ hg) ?_
        refine noWords_append (noWords_append (fun u hu => hcu u (List.mem_of_mem_take hu)) hnc) (fun u hu => hcu u (List.mem_of_mem_drop hu))
      · have holds : ∀ j u, xs[j]? = some u → w.cell? ((⟨g, 0, none⟩ : Addr).add j) = some u := hown.cells (g := g) rfl
        have er := run_append_grow (P := P) w t o.type e i z ht hi hz ⟨g, 0, none⟩ n cap xs hown.1 holds ad m c news hl hnews (by omega) (by simp only [maxLen] at h63; omega) (growslice_fits (by omega) hbytes)
        rw [er] at hr
        simp only [Result.ok.injEq] at hr
        obtain ⟨rfl, rfl⟩ := hr
        exact clean_block (heap_alloc_new w.drew _) (by simp only [Array.toList_append]; exact noWords_append (noWords_append hxc hnc) (noWords_zeros hzc _))
  unfold Oper.wp execOp
  simp only [ho, resolve, invoke, builtin, Sem.run_bind, Sem.run_pure, Result.andThen_ok, List.map_toArray, List.map_cons, List.map_nil, hs, hx, hr]
  exact hK _ _ (h v' w' h2 h3 h5)
theorem flat_length (L : List Fx) : (L.flatMap Fx.cells).length = L.length * 3 := by
  induction L with
  | nil => rfl
  | cons x r ih => rw [List.flatMap_cons, List.length_append, ih]; simp [Fx.cells]; omega
theorem flat_at : ∀ (L : List Fx) (j : Nat), j < L.length → (L.flatMap Fx.cells)[j * 3]? = some (.bool (L.getD j Fx.zero).s) ∧ (L.flatMap Fx.cells)[j * 3 + 1]? = some (.slice (L.getD j Fx.zero).a (L.getD j Fx.zero).n (L.getD j Fx.zero).c) ∧ (L.flatMap Fx.cells)[j * 3 + 2]? = some (.slice (L.getD j Fx.zero).b (L.getD j Fx.zero).m (L.getD j Fx.zero).d)
  | [], j, h => by simp at h
  | x :: r, 0, _ => by simp [Fx.cells]
  | x :: r, j + 1, h => by
    have ih := flat_at r j (by simpa using h)
    have e : ∀ i, (List.flatMap Fx.cells (x :: r))[(j + 1) * 3 + i]? = (r.flatMap Fx.cells)[j * 3 + i]? := fun i => by
      rw [List.flatMap_cons, List.getElem?_append_right (by simp [Fx.cells]; omega)]
      congr 1
      simp [Fx.cells]; omega
    have e0 := e 0
    simp only [Nat.add_zero] at e0
    rw [e0, e 1, e 2]
    simpa using ih
/-- A row of one's own that holds fractions, read as such. -/
theorem Fxs.own {w : World} {base : Nat} {e : TypeId} {a : Option Addr} {n cap : Nat} {L : List Fx} (h : w.ownsRow base e 3 (.slice a n cap) L.length (L.flatMap Fx.cells)) (hn : n = L.length) (hok : ∀ x ∈ L, x.ok w) : Fxs w a n cap L := by
  subst hn
  rcases h.2 with ⟨h', h0⟩ | ⟨g, cap', cur, h', hb, hg, hnc, hcm, hcs, htake⟩
  · simp only [Value.slice.injEq] at h'
    obtain ⟨rfl, _, rfl⟩ := h'
    exact ⟨rfl, by omega, by omega, fun _ => rfl, hok, .inl h0⟩
  · simp only [Value.slice.injEq] at h'
    obtain ⟨rfl, _, rfl⟩ := h'
    refine ⟨rfl, hnc, by unfold maxLen at hcm; omega, fun e => (by cases e), hok, .inr ⟨g, 0, rfl, fun j hj => ?_⟩⟩
    have key : ∀ i u, (L.flatMap Fx.cells)[i]? = some u → w.cell? ⟨g, 0 + i, none⟩ = some u := fun i u hu => by
      have h9 := h.cells (g := g) rfl i u hu
      rw [add_plain] at h9
      exact h9
    obtain ⟨h1, h2, h3⟩ := flat_at L j hj
    exact ⟨key _ _ h1, by rw [Nat.add_assoc]; exact key _ _ h2, by rw [Nat.add_assoc]; exact key _ _ h3⟩
/-- A row of one's own that holds these fractions, and no words. -/
def OwnC (w : World) (base : Nat) (e : TypeId) (v : Value) (L : List Fx) : Prop := w.ownsRow base e 3 v L.length (L.flatMap Fx.cells) ∧ clean w v
theorem OwnC.nil (w : World) (base : Nat) (e : TypeId) : OwnC w base e (.slice none 0 0) [] := ⟨World.ownsRow_nil _ _ _ _, clean_nil _⟩
theorem OwnC.kept {w w' : World} {base : Nat} {e : TypeId} {v : Value} {L : List Fx} (h : OwnC w base e v L) (hk : ∀ k, base ≤ k → k < w.heap.size → w'.heap[k]? = w.heap[k]?) : OwnC w' base e v L := by
  obtain ⟨⟨h1, h2⟩, h3⟩ := h
  rcases h2 with ⟨rfl, h0⟩ | ⟨g, cap, cur, rfl, hbg, hg, h4, h5, h6, h7⟩
  · exact ⟨⟨h1, .inl ⟨rfl, h0⟩⟩, clean_nil _⟩
  · have hlt : g < w.heap.size := (Array.getElem?_eq_some_iff.1 hg).1
    have hg' : w'.heap[g]? = w.heap[g]? := hk g hbg hlt
    refine ⟨⟨h1, .inr ⟨g, cap, cur, rfl, hbg, hg'.trans hg, h4, h5, h6, h7⟩⟩, fun g2 hg2 j u => ?_⟩
    simp [Value.ownBlock] at hg2
    subst hg2
    rw [World.cell?_of_block (a := ⟨g, j, none⟩) hg']
    exact h3 g rfl j u
theorem OwnC.later {w w' : World} {base : Nat} {e : TypeId} {v : Value} {L : List Fx} (h : OwnC w base e v L) (hb : Below w.heap.size w w') : OwnC w' base e v L := h.kept fun k _ hk => hb.block k hk
theorem OwnC.base {w : World} {base : Nat} {e : TypeId} {v : Value} {L : List Fx} (h : OwnC w base e v L) (k : Nat) (hk : v.ownBlock = some k) : base ≤ k := by
  rcases h.1.2 with ⟨rfl, _⟩ | ⟨g, cap, cur, rfl, hbg, _⟩
  · simp [Value.ownBlock] at hk
  · simp [Value.ownBlock] at hk
    omega
theorem OwnC.slice {w : World} {base : Nat} {e : TypeId} {v : Value} {L : List Fx} (h : OwnC w base e v L) (hok : ∀ x ∈ L, x.ok w) : ∃ (a : Option Addr) (cap : Nat), v = .slice a L.length cap ∧ Fxs w a L.length cap L := by
  rcases h.1.2 with ⟨rfl, h0⟩ | ⟨g, cap, cur, rfl, hbg, hg⟩
  · exact ⟨none, 0, by rw [h0], Fxs.own (by rw [h0]; exact h0 ▸ h.1) rfl hok⟩
  · exact ⟨_, cap, rfl, Fxs.own h.1 rfl hok⟩
theorem Fx.aside {w w' : World} {v : Value} {x : Fx} (h : x.ok w) (hc : clean w v) (hg : w.grownBy w' v.ownBlock) : x.ok w' := ⟨h.1.aside hc hg, h.2.aside hc hg⟩
theorem cells_news (w : World) (x : Fx) (e : TypeId) : ∀ j u, (Fx.cells x)[j]? = some u → (w.alloc (.cells #[.bool x.s, .slice x.a x.n x.c, .slice x.b x.m x.d] e)).cell? ((⟨w.heap.size, 0, none⟩ : Addr).add j) = some u := by
  intro j u hu
  rw [add_plain, Nat.zero_add]
  match j, hu with
  | 0, hu => simpa [Fx.cells] using hu
  | 1, hu => simpa [Fx.cells] using hu
  | 2, hu => simpa [Fx.cells] using hu
  | j + 3, hu => simp [Fx.cells] at hu
theorem cells_one (x : Fx) : ∀ u ∈ Fx.cells x, u.oneCell' = true := by
  intro u hu
  simp [Fx.cells] at hu
  rcases hu with rfl | rfl | rfl <;> rfl
end Go.Proofs.Ytipcgehcineblaa
