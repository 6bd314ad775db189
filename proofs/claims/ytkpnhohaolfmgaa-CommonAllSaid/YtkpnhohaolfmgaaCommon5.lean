/-
  The contracts of package common (layer 6) at this seat: the common divisor of two numbers.
-/
import Derived.Test.YtkpnhohaolfmgaaCommon4
import Derived.Test.YtkpnhohaolfmgaaWin
namespace Go.Proofs.Ytkpnhohaolfmgaa
open Go.RowKit

theorem Wd.held_any {w : World} {a : Option Addr} {n cap : Nat} {l : List Nat} (h : Wd w a n cap l) : heldVal w (.slice a n cap) = val l := by
  cases a with
  | none => obtain ⟨_, _, rfl⟩ := h.ofNone; rfl
  | some ad =>
    by_cases hn : n = 0
    · subst hn
      obtain rfl := List.eq_nil_of_length_eq_zero h.len
      rfl
    · obtain ⟨b, off, e, _⟩ := h.at (by omega)
      simp only [Option.some.injEq] at e
      subst e
      exact h.held
theorem small_two {v m : Nat} (h : (dg v).length = m) (hm : m ≤ 2) : v < 18446744073709551616 := by
  have h1 := dg_length_pow.1 (show (dg v).length ≤ 2 by omega)
  simpa using h1
theorem smallV_of {v : Nat} (h : v < 18446744073709551616) : smallV v = v ∧ smallB v = true := by
  unfold smallV smallB two64
  rw [if_pos h, decide_eq_true h]
  exact ⟨rfl, rfl⟩
/-- Between two rounds: two numbers, the greater one first, whose common divisor is the one asked for. -/
def LehmerRel (G bound : Nat) (w0 : World) (x y : Value) (wr : World) : Prop :=
  ∃ (a : Option Addr) (n cap : Nat) (b : Option Addr) (m cap' : Nat) (X Y : Nat), x = .slice a n cap ∧ y = .slice b m cap' ∧ Hid (Wd wr a n cap (dg X)) ∧ Hid (Wd wr b m cap' (dg Y)) ∧ n ≤ bound ∧ m ≤ bound ∧ Hid (Y ≤ X ∧ Nat.gcd X Y = G) ∧ Hid (Below w0.heap.size w0 wr)
set_option maxHeartbeats 8000000 in
theorem common_gcd (a : Option Addr) (n cap : Nat) (la : List Nat) (b : Option Addr) (m cap' : Nat) (lb : List Nat) (w : World) (ha : Wd w a n cap la) (hb : Wd w b m cap' lb) (hn : n ≤ 80000) (hm : m ≤ 80000) :
    Calls Try.prog 11 #[.slice a n cap, .slice b m cap'] w (Lst (dg (Nat.gcd (val la) (val lb))) w) := by
  have hla : (dg (val la)).length ≤ n := ha.trim_le
  have hlb : (dg (val lb)).length ≤ m := hb.trim_le
  have Hb := Lib.hid hb
  go_enter Try.func11, Try.ntmps11
  go_wp2_with fail
  refine (natSaid.norm _ _ _ _ _ ha (by omega)).mono ?_
  rintro e w1 ⟨ax, nx, cx, rfl, hx, hB1⟩
  have Hx := Lib.hid hx
  have hnx : nx ≤ 80000 := by have h1 := hx.len; omega
  have Hb1 := Lib.hid (Hb.out.later hB1)
  clear ha hb hx Hb
  go_wp2_with fail
  refine (natSaid.norm _ _ _ _ _ Hb1.out (by omega)).mono ?_
  rintro e w2 ⟨ay, ny, cy, rfl, hy, hB2⟩
  have Hy := Lib.hid hy
  have hny : ny ≤ 80000 := by have h1 := hy.len; omega
  have Hx2 := Lib.hid (Hx.out.later hB2)
  have hB12 := below_then hB1 hB2
  clear hy hla hlb Hb1 Hx hB1 hB2
  generalize val la = X0 at *
  generalize val lb = Y0 at *
  have HvX : Hid (val (dg X0) = X0) := Lib.hid (val_dg X0)
  have HvY : Hid (val (dg Y0) = Y0) := Lib.hid (val_dg Y0)
  go_wp2_with fail
  refine (natSaid.cmp _ _ _ _ _ _ _ _ _ Hx2.out Hy.out (by omega) (by omega)).mono ?_
  rintro e w3 ⟨rfl, hB3⟩
  rw [HvX.out, HvY.out]
  have Hx3 := Lib.hid (Hx2.out.later hB3)
  have Hy3 := Lib.hid (Hy.out.later hB3)
  have HB3 := Lib.hid (below_then hB12 hB3)
  clear Hx2 Hy hB12 hB3 HvX HvY
  obtain ⟨G, hG⟩ : ∃ G, G = Nat.gcd X0 Y0 := ⟨_, rfl⟩
  have HGe : Hid (Nat.gcd X0 Y0 = G) := Lib.hid hG.symm
  have HS : Hid ((X0 < Y0 → X0 ≤ Y0 ∧ Nat.gcd Y0 X0 = G) ∧ (¬ X0 < Y0 → Y0 ≤ X0 ∧ Nat.gcd X0 Y0 = G)) := Lib.hid ⟨fun h => ⟨by omega, by rw [hG, Nat.gcd_comm]⟩, fun h => ⟨by omega, hG.symm⟩⟩
  clear hG
  by_cases hlt : X0 < Y0
  · have hc : cmpI X0 Y0 < 0 := by rw [cmpI_lt hlt]; omega
    have HSs := Lib.hid (HS.out.1 hlt)
    clear hlt HS
    generalize cmpI X0 Y0 = c at *
    go_wp2
    go_loopw [0, 1] (fun xv yv wr => LehmerRel G 80000 w xv yv wr) (fun _ yv wr => heldVal wr yv)
    case atStart => exact ⟨ay, ny, cy, ax, nx, cx, Y0, X0, rfl, rfl, Hy3, Hx3, hny, hnx, HSs, HB3⟩
    case round =>
      clear Hx3 Hy3 hnx hny HSs HB3 hc
      obtain ⟨a, n, cap, b, m, cap', X, Y, rfl, rfl, HX, HY, hn, hm, HXY, HB⟩ := hrel
      have HvX : Hid (val (dg X) = X) := Lib.hid (val_dg X)
      have HvY : Hid (val (dg Y) = Y) := Lib.hid (val_dg Y)
      by_cases hm2 : 2 < m
      · have HmY := Lib.hid HY.out.held_any
        rw [HvY.out] at HmY
        have hmn : m ≤ n := by rw [← HX.out.len, ← HY.out.len]; exact dg_length_mono HXY.out.1
        obtain ⟨k, rfl⟩ : ∃ k, n = k + 3 := ⟨n - 3, by omega⟩
        have HY0 : Hid (Y ≠ 0) := Lib.hid (fun h => by have := HY.out.len; rw [h, dg_zero] at this; simp at this; omega)
        have HYX : Hid (Y ≤ X) := Lib.hid HXY.out.1
        have hm2i : (2 : Int) < (m : Int) := by omega
        go_wp2_with fail
        refine (common_lessen a k cap b m cap' X Y _ HX.out HY.out (by omega) (by omega) HYX HY0).mono ?_
        rintro e w4 ⟨a4, n4, c4, b4, m4, d4, X4, Y4, rfl, h4, k4, HL, hB4⟩
        have H4 := Lib.hid h4
        have K4 := Lib.hid k4
        have hn4 : n4 ≤ 80000 := by have h1 := h4.len; have h2 := dg_length_mono HL.out.1; have h3 := HY.out.len; omega
        have hm4 : m4 ≤ 80000 := by have h1 := k4.len; have h2 := dg_length_mono (Nat.le_of_lt HL.out.2.1); have h3 := HY.out.len; omega
        have HB4 := Lib.hid (below_then HB.out hB4)
        have HmK := Lib.hid k4.held_any
        rw [val_dg] at HmK
        clear h4 k4 hB4
        go_wp2
        go_roundw
        case rel => exact ⟨a4, n4, c4, b4, m4, d4, X4, Y4, rfl, rfl, H4, K4, hn4, hm4, Lib.hid ⟨HL.out.2.2.1, HL.out.2.2.2.trans HXY.out.2⟩, HB4⟩
        case measure => rw [HmK.out, HmY.out]; exact HL.out.2.1
      · have hm2i : ¬ (2 : Int) < (m : Int) := by omega
        by_cases hm0 : m = 0
        · subst hm0
          have HGX : Hid (X = G) := Lib.hid (by rw [← HXY.out.2, dg_nil_iff.1 HY.out.len, Nat.gcd_zero_right])
          go_wp2
          go_ret
          exact ⟨a, n, cap, rfl, by rw [HGe.out, ← HGX.out]; exact HX.out, HB.out⟩
        · have hmb : ((m : Int) == 0) = false := by simp; omega
          have HY0 : Hid (Y ≠ 0) := Lib.hid (fun h => by have := HY.out.len; rw [h, dg_zero] at this; simp at this; omega)
          have hYs : Y < 18446744073709551616 := small_two HY.out.len (by omega)
          have hRs : X % Y < 18446744073709551616 := Nat.lt_trans (Nat.mod_lt _ (Nat.pos_of_ne_zero HY0.out)) hYs
          have HGY : Hid (Nat.gcd Y (X % Y) = G) := Lib.hid ((gcd_rest HY0.out).1.trans HXY.out.2)
          go_wp2_with fail
          refine (quot_div _ _ _ _ _ _ _ _ _ HX.out HY.out (by omega) (by omega) (by rw [HvY.out]; exact HY0)).mono ?_
          rintro e w4 ⟨a4, n4, c4, b4, m4, d4, rfl, h4, k4, hB4⟩
          rw [HvX.out, HvY.out] at k4
          have K4 := Lib.hid k4
          have hm4 : m4 ≤ 80000 := by have h1 := k4.len; have h2 := dg_length_mono (Nat.le_of_lt (Nat.mod_lt X (Nat.pos_of_ne_zero HY0.out))); have h3 := HY.out.len; omega
          have HY4 := Lib.hid (HY.out.later hB4)
          have hB14 := below_then HB.out hB4
          obtain ⟨R, hR⟩ : ∃ R, R = X % Y := ⟨_, rfl⟩
          rw [← hR] at hRs HGY K4
          have HvR : Hid (val (dg R) = R) := Lib.hid (val_dg R)
          have HsY := Lib.hid (smallV_of hYs)
          have HsR := Lib.hid (smallV_of hRs)
          clear h4 k4 hB4 hR HX HY HB HXY HY0
          go_wp2_with fail
          refine (natSaid.small _ _ _ _ _ HY4.out (by omega)).mono ?_
          rintro e w5 ⟨rfl, hB5⟩
          rw [HvY.out, HsY.out.1, HsY.out.2]
          have K5 := Lib.hid (K4.out.later hB5)
          have hB15 := below_then hB14 hB5
          clear K4 HY4 hB14 hB5 HvX HvY HsY
          go_wp2_with fail
          refine (natSaid.small _ _ _ _ _ K5.out (by omega)).mono ?_
          rintro e w6 ⟨rfl, hB6⟩
          rw [HvR.out, HsR.out.1, HsR.out.2]
          have HB16 := Lib.hid (below_then hB15 hB6)
          clear K5 hB15 hB6 HvR HsR
          go_wp2
          go_loopw [8, 10] (fun xv yv wr => ∃ x y : Nat, xv = .int .u64 (x : Int) ∧ yv = .int .u64 (y : Int) ∧ x < 18446744073709551616 ∧ y < 18446744073709551616 ∧ Hid (Nat.gcd x y = G) ∧ Hid (Below w.heap.size w wr)) (fun _ yv _ => (intOf yv).toNat)
          case atStart => exact ⟨Y, R, rfl, rfl, hYs, hRs, HGY, HB16⟩
          case round =>
            clear HGY HB16 hYs hRs
            obtain ⟨x, y, rfl, rfl, hxs, hys, HG, HBr⟩ := hrel
            by_cases hy0 : 0 < y
            · have hyi : (0 : Int) < (y : Int) := by omega
              obtain ⟨z, hz⟩ : ∃ z : Nat, (x : Int) % (y : Int) = (z : Int) := ⟨x % y, by rw [Int.natCast_emod]⟩
              have hze : x % y = z := by have := Int.natCast_emod x y; omega
              have Hz := Lib.hid (gcd_rest (X := x) (Y := y) (by omega))
              rw [hze] at Hz
              have hzs : z < y := Hz.out.2
              clear hze
              go_wp2
              go_quiet (fail)
              rw [hz]
              have HBd := Lib.hid (below_drewN HBr.out nq)
              go_wp2
              go_roundw
              case rel => exact ⟨y, z, rfl, rfl, hys, by omega, Lib.hid (Hz.out.1.trans HG.out), HBd⟩
              case measure => simp [intOf]; omega
            · obtain rfl : y = 0 := by omega
              have HGx : Hid (x = G) := Lib.hid (by rw [← HG.out, Nat.gcd_zero_right])
              go_wp2_with fail
              refine (natSaid.of x _ (by omega)).mono ?_
              rintro e w7 ⟨a7, n7, c7, rfl, h7, hB7⟩
              rw [HGx.out] at h7
              have H7 := Lib.hid h7
              clear h7
              go_wp2
              go_ret
              exact ⟨a7, n7, c7, rfl, by rw [HGe.out]; exact H7.out, below_then HBr.out hB7⟩
  · have hc : ¬ cmpI X0 Y0 < 0 := by unfold cmpI; split <;> (try split) <;> omega
    have HSs := Lib.hid (HS.out.2 hlt)
    clear hlt HS
    generalize cmpI X0 Y0 = c at *
    go_wp2
    go_loopw [0, 1] (fun xv yv wr => LehmerRel G 80000 w xv yv wr) (fun _ yv wr => heldVal wr yv)
    case atStart => exact ⟨ax, nx, cx, ay, ny, cy, X0, Y0, rfl, rfl, Hx3, Hy3, hnx, hny, HSs, HB3⟩
    case round =>
      clear Hx3 Hy3 hnx hny HSs HB3 hc
      obtain ⟨a, n, cap, b, m, cap', X, Y, rfl, rfl, HX, HY, hn, hm, HXY, HB⟩ := hrel
      have HvX : Hid (val (dg X) = X) := Lib.hid (val_dg X)
      have HvY : Hid (val (dg Y) = Y) := Lib.hid (val_dg Y)
      by_cases hm2 : 2 < m
      · have HmY := Lib.hid HY.out.held_any
        rw [HvY.out] at HmY
        have hmn : m ≤ n := by rw [← HX.out.len, ← HY.out.len]; exact dg_length_mono HXY.out.1
        obtain ⟨k, rfl⟩ : ∃ k, n = k + 3 := ⟨n - 3, by omega⟩
        have HY0 : Hid (Y ≠ 0) := Lib.hid (fun h => by have := HY.out.len; rw [h, dg_zero] at this; simp at this; omega)
        have HYX : Hid (Y ≤ X) := Lib.hid HXY.out.1
        have hm2i : (2 : Int) < (m : Int) := by omega
        go_wp2_with fail
        refine (common_lessen a k cap b m cap' X Y _ HX.out HY.out (by omega) (by omega) HYX HY0).mono ?_
        rintro e w4 ⟨a4, n4, c4, b4, m4, d4, X4, Y4, rfl, h4, k4, HL, hB4⟩
        have H4 := Lib.hid h4
        have K4 := Lib.hid k4
        have hn4 : n4 ≤ 80000 := by have h1 := h4.len; have h2 := dg_length_mono HL.out.1; have h3 := HY.out.len; omega
        have hm4 : m4 ≤ 80000 := by have h1 := k4.len; have h2 := dg_length_mono (Nat.le_of_lt HL.out.2.1); have h3 := HY.out.len; omega
        have HB4 := Lib.hid (below_then HB.out hB4)
        have HmK := Lib.hid k4.held_any
        rw [val_dg] at HmK
        clear h4 k4 hB4
        go_wp2
        go_roundw
        case rel => exact ⟨a4, n4, c4, b4, m4, d4, X4, Y4, rfl, rfl, H4, K4, hn4, hm4, Lib.hid ⟨HL.out.2.2.1, HL.out.2.2.2.trans HXY.out.2⟩, HB4⟩
        case measure => rw [HmK.out, HmY.out]; exact HL.out.2.1
      · have hm2i : ¬ (2 : Int) < (m : Int) := by omega
        by_cases hm0 : m = 0
        · subst hm0
          have HGX : Hid (X = G) := Lib.hid (by rw [← HXY.out.2, dg_nil_iff.1 HY.out.len, Nat.gcd_zero_right])
          go_wp2
          go_ret
          exact ⟨a, n, cap, rfl, by rw [HGe.out, ← HGX.out]; exact HX.out, HB.out⟩
        · have hmb : ((m : Int) == 0) = false := by simp; omega
          have HY0 : Hid (Y ≠ 0) := Lib.hid (fun h => by have := HY.out.len; rw [h, dg_zero] at this; simp at this; omega)
          have hYs : Y < 18446744073709551616 := small_two HY.out.len (by omega)
          have hRs : X % Y < 18446744073709551616 := Nat.lt_trans (Nat.mod_lt _ (Nat.pos_of_ne_zero HY0.out)) hYs
          have HGY : Hid (Nat.gcd Y (X % Y) = G) := Lib.hid ((gcd_rest HY0.out).1.trans HXY.out.2)
          go_wp2_with fail
          refine (quot_div _ _ _ _ _ _ _ _ _ HX.out HY.out (by omega) (by omega) (by rw [HvY.out]; exact HY0)).mono ?_
          rintro e w4 ⟨a4, n4, c4, b4, m4, d4, rfl, h4, k4, hB4⟩
          rw [HvX.out, HvY.out] at k4
          have K4 := Lib.hid k4
          have hm4 : m4 ≤ 80000 := by have h1 := k4.len; have h2 := dg_length_mono (Nat.le_of_lt (Nat.mod_lt X (Nat.pos_of_ne_zero HY0.out))); have h3 := HY.out.len; omega
          have HY4 := Lib.hid (HY.out.later hB4)
          have hB14 := below_then HB.out hB4
          obtain ⟨R, hR⟩ : ∃ R, R = X % Y := ⟨_, rfl⟩
          rw [← hR] at hRs HGY K4
          have HvR : Hid (val (dg R) = R) := Lib.hid (val_dg R)
          have HsY := Lib.hid (smallV_of hYs)
          have HsR := Lib.hid (smallV_of hRs)
          clear h4 k4 hB4 hR HX HY HB HXY HY0
          go_wp2_with fail
          refine (natSaid.small _ _ _ _ _ HY4.out (by omega)).mono ?_
          rintro e w5 ⟨rfl, hB5⟩
          rw [HvY.out, HsY.out.1, HsY.out.2]
          have K5 := Lib.hid (K4.out.later hB5)
          have hB15 := below_then hB14 hB5
          clear K4 HY4 hB14 hB5 HvX HvY HsY
          go_wp2_with fail
          refine (natSaid.small _ _ _ _ _ K5.out (by omega)).mono ?_
          rintro e w6 ⟨rfl, hB6⟩
          rw [HvR.out, HsR.out.1, HsR.out.2]
          have HB16 := Lib.hid (below_then hB15 hB6)
          clear K5 hB15 hB6 HvR HsR
          go_wp2
          go_loopw [8, 10] (fun xv yv wr => ∃ x y : Nat, xv = .int .u64 (x : Int) ∧ yv = .int .u64 (y : Int) ∧ x < 18446744073709551616 ∧ y < 18446744073709551616 ∧ Hid (Nat.gcd x y = G) ∧ Hid (Below w.heap.size w wr)) (fun _ yv _ => (intOf yv).toNat)
          case atStart => exact ⟨Y, R, rfl, rfl, hYs, hRs, HGY, HB16⟩
          case round =>
            clear HGY HB16 hYs hRs
            obtain ⟨x, y, rfl, rfl, hxs, hys, HG, HBr⟩ := hrel
            by_cases hy0 : 0 < y
            · have hyi : (0 : Int) < (y : Int) := by omega
              obtain ⟨z, hz⟩ : ∃ z : Nat, (x : Int) % (y : Int) = (z : Int) := ⟨x % y, by rw [Int.natCast_emod]⟩
              have hze : x % y = z := by have := Int.natCast_emod x y; omega
              have Hz := Lib.hid (gcd_rest (X := x) (Y := y) (by omega))
              rw [hze] at Hz
              have hzs : z < y := Hz.out.2
              clear hze
              go_wp2
              go_quiet (fail)
              rw [hz]
              have HBd := Lib.hid (below_drewN HBr.out nq)
              go_wp2
              go_roundw
              case rel => exact ⟨y, z, rfl, rfl, hys, by omega, Lib.hid (Hz.out.1.trans HG.out), HBd⟩
              case measure => simp [intOf]; omega
            · obtain rfl : y = 0 := by omega
              have HGx : Hid (x = G) := Lib.hid (by rw [← HG.out, Nat.gcd_zero_right])
              go_wp2_with fail
              refine (natSaid.of x _ (by omega)).mono ?_
              rintro e w7 ⟨a7, n7, c7, rfl, h7, hB7⟩
              rw [HGx.out] at h7
              have H7 := Lib.hid h7
              clear h7
              go_wp2
              go_ret
              exact ⟨a7, n7, c7, rfl, by rw [HGe.out]; exact H7.out, below_then HBr.out hB7⟩
end Go.Proofs.Ytkpnhohaolfmgaa
