/-
  Several texts of this claim as one, group 10.
-/
import Derived.Test.YtipcgehcineblaaGreatG9
import Derived.Test.YtipcgehcineblaaGreatG8
import Derived.Test.YtipcgehcineblaaGreatG4
import Derived.Test.YtipcgehcineblaaGreatG5
import Derived.Deep.RegionHeld3
import Derived.Test.YtipcgehcineblaaGreatG7
import Derived.Deep.RegionWith
import Derived.Deep.CutRange
/-
  The contracts of the document's answer for layer 6: double, Gcd, One, Over, Lcm.
-/
namespace Go.Proofs.YtipcgehcineblaaGreat
open Go.RowKit

set_option maxRecDepth 4096 in
set_option maxHeartbeats 1000000 in
theorem ref06_double (b off n c : Nat) (l : List Nat) (t : Nat) (w : World) (h : Wd w (some ⟨b, off, none⟩) n c l) (hn : n ≤ 1048576000000) (ht : t ≤ 10485760000000) :
    Calls Tryz.prog 71 #[.slice (some ⟨b, off, none⟩) n c, .int .i64 (t : Int)] w (Lst (dg (val l * 2 ^ t)) w) := by
  obtain ⟨i0, hi, hz0, hz1, hz2⟩ := info_parts infoWord
  have H := Lib.hid h
  have Hl := Lib.hid h.len
  obtain ⟨q, hq⟩ : ∃ q : Nat, (t : Int) / 32 = (q : Int) := ⟨t / 32, by omega⟩
  obtain ⟨r, hr⟩ : ∃ r : Nat, (t : Int) % 32 = (r : Int) := ⟨t % 32, by omega⟩
  have Hqr : Hid (t = 32 * q + r) := Lib.hid (by omega)
  have hr31 : r < 32 := by omega
  have hqb : q ≤ 419430400000 := by omega
  obtain ⟨P, HP, hP⟩ : ∃ P : Nat, Hid (P = 2 ^ r) ∧ (2 : Int) ^ r = (P : Int) := ⟨2 ^ r, rfl, by simp⟩
  have hPb : P < 4294967296 := by rw [HP.out]; exact Nat.lt_of_le_of_lt (Nat.pow_le_pow_right (by decide) (show r ≤ 31 by omega)) (by decide)
  clear h
  go_enter Tryz.func71, Tryz.ntmps71
  go_wp2_with (first
    | (at_make; refine wpList_make_words _ rfl _ _ 23 rfl w.heap.size 58 i0 (.int .u32 0) Tryz.underlying23 hi hz0 hz1 rfl .i64 .i64 _ _ q q rfl rfl rfl rfl (Nat.le_refl _) (by rw [hz2]; omega) (by unfold maxLen; omega) (Nat.le_refl _) ?_; intro w1 hown1 hgrow1; rw [zeros_cells] at hown1; have hB1 : Below w.heap.size w w1 := (Below.refl _ _).grown hgrow1 (Nat.le_refl _) (fun k hk => by cases hk); have H1 := Lib.hid (H.out.later hB1); clear hgrow1)
    | (at_builtin; refine wpList_append_own _ rfl _ _ 23 rfl w.heap.size 58 i0 (.int .u32 0) 1 4 Tryz.underlying23 hi hz0 hz1 hz2 rfl (by decide) _ q (wcells (List.replicate q 0)) rfl hown1 ⟨b, off, none⟩ n c (wcells l) rfl (by rw [wcells_length, Hl.out, Nat.mul_one]) H1.out.cells (wcells_one _) (by unfold maxLen; omega) (by omega) hB1.size ?_; intro v' w2 hown2 hgrow2 _))
  obtain ⟨a2, c2, rfl⟩ := own_slice hown2
  rw [← wcells_append] at hown2
  have HO2 := Lib.hid (Wd.own hown2 (okw_append.2 ⟨okw_zeros q, H.out.ok⟩))
  have hB2 : Below w.heap.size w w2 := hB1.grown hgrow2 hB1.size (fun k hk => (hown1.lt k hk).1)
  have Hv : Hid (val (List.replicate q 0 ++ l) * val [P] = val l * 2 ^ t) := Lib.hid (by rw [HP.out, Hqr.out]; exact double_val l q r)
  clear hown1 hown2 hgrow2 hB1 H1 hq
  go_wp2_with fail
  refine (ref04_mul _ _ _ _ _ _ _ [P] _ (HO2.out.later (below_alloc _ _)) (Wd.lit1 w2 58 (x := P) hPb) (by omega) (by omega)).mono ?_
  rintro e w3 ⟨a3, n3, c3, rfl, h3, b3⟩
  rw [Hv.out] at h3
  have H3 := Lib.hid h3
  clear h3
  go_wp2
  go_ret
  exact ⟨a3, n3, c3, rfl, H3.out, below_then hB2 (below_then (below_alloc _ _) b3)⟩
/-- Between two rounds: two odd numbers, in windows of two rows of the call's own; their common divisor stays. -/
def GcdRel (G base bound : Nat) (w0 : World) (x y : Value) (wr : World) : Prop :=
  ∃ gx ox nx cx gy oy ny cy X Y, x = .slice (some ⟨gx, ox, none⟩) nx cx ∧ y = .slice (some ⟨gy, oy, none⟩) ny cy ∧ nx ≤ cx ∧ cx ≤ 9223372036854775807 ∧ ny ≤ cy ∧ cy ≤ 9223372036854775807 ∧ nx ≤ bound ∧ ny ≤ bound ∧ gx ≠ gy ∧
    Hid (Win wr base gx ox nx (dg X)) ∧ Hid (Win wr base gy oy ny (dg Y)) ∧ Hid (X % 2 = 1 ∧ Y % 2 = 1 ∧ Nat.gcd X Y = G) ∧ Below base w0 wr
theorem win_lt {g off g' : Nat} (hne : g ≠ g') : ∀ ad : Addr, some (⟨g, off, none⟩ : Addr) = some ad → some ad.block ≠ some g' := by
  intro ad e h2
  simp only [Option.some.injEq] at e
  subst e
  exact hne (Option.some.inj h2)
set_option maxRecDepth 4096 in
set_option maxHeartbeats 8000000 in
theorem ref06_gcd (a : Option Addr) (n cap : Nat) (la : List Nat) (b : Option Addr) (m cap' : Nat) (lb : List Nat) (w : World) (ha : Wd w a n cap la) (hb : Wd w b m cap' lb) (hn : n ≤ 104857600000) (hm : m ≤ 104857600000) :
    Calls Tryz.prog 39 #[.slice a n cap, .slice b m cap'] w (Lst (dg (Nat.gcd (val la) (val lb))) w) := by
  have hla : (dg (val la)).length ≤ n := ha.trim_le
  have hlb : (dg (val lb)).length ≤ m := hb.trim_le
  have hta : tz (val la) ≤ 32 * n := by
    by_cases h0 : val la = 0
    · rw [h0, tz_zero]; omega
    · exact Nat.le_of_lt (tz_lt h0 (by rw [← pow32, ← ha.len]; exact val_lt ha.ok))
  have htb : tz (val lb) ≤ 32 * m := by
    by_cases h0 : val lb = 0
    · rw [h0, tz_zero]; omega
    · exact Nat.le_of_lt (tz_lt h0 (by rw [← pow32, ← hb.len]; exact val_lt hb.ok))
  have Hb := Lib.hid hb
  go_enter Tryz.func39, Tryz.ntmps39
  go_wp2_with fail
  refine (ref02_norm_own _ _ _ _ _ ha (by omega)).mono ?_
  rintro e w1 ⟨ax, nx, cx, rfl, hx, hB1⟩
  have Hx := Lib.hid hx
  have hnx : nx ≤ 104857600000 := by have h1 := hx.1; rw [wcells_length] at h1; omega
  have Hnx : Hid ((dg (val la)).length = nx) := Lib.hid (by have h1 := hx.1; rw [wcells_length] at h1; omega)
  have Hb1 := Lib.hid (Hb.out.later hB1)
  clear ha hb hx Hb
  go_wp2_with fail
  refine (ref02_norm_own _ _ _ _ _ Hb1.out (by omega)).mono ?_
  rintro e w2 ⟨ay, ny, cy, rfl, hy, hB2⟩
  have Hy := Lib.hid hy
  have hny : ny ≤ 104857600000 := by have h1 := hy.1; rw [wcells_length] at h1; omega
  have Hny : Hid ((dg (val lb)).length = ny) := Lib.hid (by have h1 := hy.1; rw [wcells_length] at h1; omega)
  have Hx2 := Lib.hid (ownsRow_later Hx.out hB2)
  have hB12 := below_then hB1 hB2
  clear hy hla hlb Hb1
  by_cases hx0 : nx = 0
  · subst hx0
    have HG : Hid (Nat.gcd (val la) (val lb) = val lb) := Lib.hid (by rw [dg_nil_iff.1 Hnx.out, Nat.gcd_zero_left])
    have HW := Lib.hid (Wd.own Hy.out (okw_dg _))
    go_wp2
    go_ret
    exact ⟨ay, ny, cy, rfl, by rw [HG.out]; exact HW.out, hB12⟩
  · have hxi : ((nx : Int) == 0) = false := by simp [hx0]
    by_cases hy0 : ny = 0
    · subst hy0
      have HG : Hid (Nat.gcd (val la) (val lb) = val la) := Lib.hid (by rw [dg_nil_iff.1 Hny.out, Nat.gcd_zero_right])
      have HW := Lib.hid (Wd.own Hx2.out (okw_dg _))
      go_wp2
      go_ret
      exact ⟨ax, nx, cx, rfl, by rw [HG.out]; exact HW.out, hB12⟩
    · have hyi : ((ny : Int) == 0) = false := by simp [hy0]
      obtain ⟨gx, rfl, hOx⟩ := own_block Hx2.out (okw_dg _) (by omega)
      obtain ⟨gy, rfl, hOy⟩ := own_block Hy.out (okw_dg _) (by omega)
      have hne : gx ≠ gy := by
        have h1 := (Hx.out.lt gx rfl).2
        have h2 := (Hy.out.lt gy rfl).1
        omega
      have hva : Hid (val la ≠ 0) := Lib.hid (fun h => hx0 (Hnx.out.symm.trans (dg_nil_iff.2 h)))
      have hvb : Hid (val lb ≠ 0) := Lib.hid (fun h => hy0 (Hny.out.symm.trans (dg_nil_iff.2 h)))
      have hcx := hOx.bound
      have hcy := hOy.bound
      have HWx := Lib.hid hOx.win
      have HWy := Lib.hid (hOy.lower (base' := w.heap.size) hB1.size).win
      have hbx := HWx.out.base
      have hby := HWy.out.base
      have Hva : Hid (val (dg (val la)) = val la) := Lib.hid (val_dg _)
      have Hvb : Hid (val (dg (val lb)) = val lb) := Lib.hid (val_dg _)
      have HLa : Hid ((dg (oddp (val la))).length ≤ 104857600000) := Lib.hid (Nat.le_trans (dg_length_mono (Nat.div_le_self _ _)) (by rw [Hnx.out]; exact hnx))
      have HLb : Hid ((dg (oddp (val lb))).length ≤ 104857600000) := Lib.hid (Nat.le_trans (dg_length_mono (Nat.div_le_self _ _)) (by rw [Hny.out]; exact hny))
      have Hodd : Hid (oddp (val la) % 2 = 1 ∧ oddp (val lb) % 2 = 1) := Lib.hid ⟨(odd_part hva.out).2, (odd_part hvb.out).2⟩
      have HG := Lib.hid (gcd_parts hva.out hvb.out)
      clear hOx hOy Hx Hy Hx2 hx0 hy0 hB1 hB2
      go_wp2_with fail
      refine (ref06_odd w.heap.size _ gx 0 nx cx _ HWx.out (by omega) (by omega) (by omega) (by rw [Hva.out]; exact hva)).mono ?_
      rintro e w3 ⟨ox, nx2, cx2, rfl, hcx1, hcx2, HX3, hG3⟩
      rw [Hva.out] at HX3 ⊢
      have hB3 := grown_below hB12 hG3 hbx.1
      have HY3 := Lib.hid (HWy.out.other hG3 (Ne.symm hne))
      clear HWx HWy hG3 hB12
      go_wp2_with fail
      refine (ref06_odd w.heap.size _ gy 0 ny cy _ HY3.out (by omega) (by omega) (by omega) (by rw [Hvb.out]; exact hvb)).mono ?_
      rintro e w4 ⟨oy, ny2, cy2, rfl, hcy1, hcy2, HY4, hG4⟩
      rw [Hvb.out] at HY4 ⊢
      have hB4 := grown_below hB3 hG4 hby.1
      have HX4 := Lib.hid (HX3.out.other hG4 hne)
      have hnx2 : nx2 ≤ 104857600000 := by rw [← HX4.out.len]; exact HLa.out
      have hny2 : ny2 ≤ 104857600000 := by rw [← HY4.out.len]; exact HLb.out
      clear HX3 HY3 hG4 hB3 HLa HLb
      obtain ⟨t, htt⟩ : ∃ t : Nat, min ((tz (val la) : Nat) : Int) ((tz (val lb) : Nat) : Int) = (t : Int) := ⟨min (tz (val la)) (tz (val lb)), by omega⟩
      have Htt : Hid (min (tz (val la)) (tz (val lb)) = t) := Lib.hid (by omega)
      have htb2 : t ≤ 3355443200000 := by omega
      rw [Htt.out] at HG
      generalize tz (val la) = ta at *
      generalize tz (val lb) = tb at *
      generalize oddp (val la) = X0 at *
      generalize oddp (val lb) = Y0 at *
      generalize hGG : Nat.gcd X0 Y0 = G at *
      have HGG := Lib.hid hGG
      clear hGG Htt
      go_wp2
      go_loopw [5, 6] (fun xv yv wr => GcdRel G w.heap.size 104857600000 w xv yv wr) (fun xv yv wr => heldVal wr xv + heldVal wr yv)
      case atStart => exact ⟨gx, ox, nx2, cx2, gy, oy, ny2, cy2, X0, Y0, rfl, rfl, hcx1, hcx2, hcy1, hcy2, hnx2, hny2, hne, HX4, HY4, Lib.hid ⟨Hodd.out.1, Hodd.out.2, HGG.out⟩, hB4⟩
      case round =>
        clear HX4 HY4 hB4 Hodd HGG hcx1 hcx2 hcy1 hcy2 hne
        obtain ⟨gx, ox, nx, cx, gy, oy, ny, cy, X, Y, rfl, rfl, hcx1, hcx2, hcy1, hcy2, hnx, hny, hne, HX, HY, HXY, hB⟩ := hrel
        have HmX := Lib.hid (HX.out.wd hcx1 hcx2).held
        have HmY := Lib.hid (HY.out.wd hcy1 hcy2).held
        rw [val_dg] at HmX HmY
        go_wp2_with fail
        refine (ref02_cmp _ _ _ _ _ _ _ _ _ (HX.out.wd hcx1 hcx2) (HY.out.wd hcy1 hcy2) (by omega) (by omega)).mono ?_
        rintro e w5 ⟨rfl, rfl⟩
        rw [val_dg, val_dg]
        rcases Nat.lt_trichotomy X Y with hlt | heq | hlt
        · have hc1 : cmpI X Y < 0 := by rw [cmpI_lt hlt]; omega
          have HL : Hid (X < Y) := Lib.hid hlt
          have hbb := HY.out.base
          have Hle : Hid (val (dg X) ≤ val (dg Y)) := Lib.hid (by rw [val_dg, val_dg]; omega)
          have hlen : nx ≤ ny := by rw [← HX.out.len, ← HY.out.len]; exact dg_length_mono (by omega)
          have Hst := Lib.hid (gcd_step hlt HXY.out.1)
          clear hlt
          generalize cmpI X Y = c at *
          go_wp2_with fail
          refine (ref05_less_win w.heap.size _ gy oy ny cy (dg Y) _ nx cx (dg X) HY.out (HX.out.wd hcx1 hcx2) (Lib.hid (win_lt hne)) (by omega) hlen Hle).mono ?_
          rintro e w6 ⟨P6, rfl, HP6, hG6, HV6⟩
          rw [val_dg, val_dg] at HV6
          have HS6 := Lib.hid (HX.out.other hG6 hne)
          have hB6 := grown_below hB hG6 hbb.1
          have Hn6 : Hid (val P6 ≠ 0) := Lib.hid (by rw [HV6.out]; have := Hle.out; rw [val_dg, val_dg] at this; have := HL.out; omega)
          clear hG6
          go_wp2_with fail
          refine (ref06_odd w.heap.size _ gy oy ny cy P6 HP6.out (by omega) (by omega) (by omega) Hn6).mono ?_
          rintro e w7 ⟨o7, n7, c7, rfl, hc71, hc72, HP7, hG7⟩
          rw [HV6.out] at HP7
          have HS7 := Lib.hid (HS6.out.other hG7 hne)
          have hB7 := Lib.hid (grown_below hB6 hG7 hbb.1)
          have hn7 : n7 ≤ 104857600000 := by
            rw [← HP7.out.len]
            have h1 := dg_length_mono (Nat.le_of_lt Hst.out.2.1)
            have h2 := HY.out.len
            omega
          have Hm7 := Lib.hid (HP7.out.wd hc71 hc72).held
          have Hms := Lib.hid (HS7.out.wd hcx1 hcx2).held
          rw [val_dg] at Hm7 Hms
          clear hG7 HP6 HS6 hB6 hB
          go_wp2
          go_roundw
          case rel =>
            exact ⟨gy, o7, n7, c7, gx, ox, nx, cx, oddp (Y - X), X, rfl, rfl, hc71, hc72, hcx1, hcx2, hn7, hnx, Ne.symm hne, HP7, HS7, Lib.hid ⟨Hst.out.2.2, HXY.out.1, Hst.out.1.trans ((Nat.gcd_comm _ _).trans HXY.out.2.2)⟩, hB7.out⟩
          case measure =>
            rw [Hm7.out, Hms.out, HmX.out, HmY.out]
            have := Hst.out.2.1
            omega
        · subst heq
          have HGX : Hid (val (dg X) * 2 ^ t = Nat.gcd (val la) (val lb)) := Lib.hid (by rw [val_dg, HG.out, ← HXY.out.2.2, Nat.gcd_self])
          have HW := Lib.hid (HX.out.wd hcx1 hcx2)
          rw [cmpI_eq rfl]
          clear HX HY HmX HmY HXY
          go_wp2_with fail
          refine (ref06_double gx ox nx cx (dg X) t _ HW.out (by omega) (by omega)).mono ?_
          rintro e w6 ⟨a6, n6, c6, rfl, h6, b6⟩
          rw [HGX.out] at h6
          have H6 := Lib.hid h6
          clear h6
          go_wp2
          go_ret
          exact ⟨a6, n6, c6, rfl, H6.out, below_then hB b6⟩
        · have hc1 : ¬ cmpI X Y < 0 := by rw [cmpI_gt hlt]; omega
          have hc2 : ¬ cmpI X Y = 0 := by rw [cmpI_gt hlt]; omega
          have HL : Hid (Y < X) := Lib.hid hlt
          have hbb := HX.out.base
          have Hle : Hid (val (dg Y) ≤ val (dg X)) := Lib.hid (by rw [val_dg, val_dg]; omega)
          have hlen : ny ≤ nx := by rw [← HY.out.len, ← HX.out.len]; exact dg_length_mono (by omega)
          have Hst := Lib.hid (gcd_step hlt HXY.out.2.1)
          clear hlt
          generalize cmpI X Y = c at *
          go_wp2_with fail
          refine (ref05_less_win w.heap.size _ gx ox nx cx (dg X) _ ny cy (dg Y) HX.out (HY.out.wd hcy1 hcy2) (Lib.hid (win_lt (Ne.symm hne))) (by omega) hlen Hle).mono ?_
          rintro e w6 ⟨P6, rfl, HP6, hG6, HV6⟩
          rw [val_dg, val_dg] at HV6
          have HS6 := Lib.hid (HY.out.other hG6 (Ne.symm hne))
          have hB6 := grown_below hB hG6 hbb.1
          have Hn6 : Hid (val P6 ≠ 0) := Lib.hid (by rw [HV6.out]; have := Hle.out; rw [val_dg, val_dg] at this; have := HL.out; omega)
          clear hG6
          go_wp2_with fail
          refine (ref06_odd w.heap.size _ gx ox nx cx P6 HP6.out (by omega) (by omega) (by omega) Hn6).mono ?_
          rintro e w7 ⟨o7, n7, c7, rfl, hc71, hc72, HP7, hG7⟩
          rw [HV6.out] at HP7
          have HS7 := Lib.hid (HS6.out.other hG7 (Ne.symm hne))
          have hB7 := Lib.hid (grown_below hB6 hG7 hbb.1)
          have hn7 : n7 ≤ 104857600000 := by
            rw [← HP7.out.len]
            have h1 := dg_length_mono (Nat.le_of_lt Hst.out.2.1)
            have h2 := HX.out.len
            omega
          have Hm7 := Lib.hid (HP7.out.wd hc71 hc72).held
          have Hms := Lib.hid (HS7.out.wd hcy1 hcy2).held
          rw [val_dg] at Hm7 Hms
          clear hG7 HP6 HS6 hB6 hB
          go_wp2
          go_roundw
          case rel =>
            exact ⟨gx, o7, n7, c7, gy, oy, ny, cy, oddp (X - Y), Y, rfl, rfl, hc71, hc72, hcy1, hcy2, hn7, hny, hne, HP7, HS7, Lib.hid ⟨Hst.out.2.2, HXY.out.2.1, Hst.out.1.trans HXY.out.2.2⟩, hB7.out⟩
          case measure =>
            rw [Hm7.out, Hms.out, HmX.out, HmY.out]
            have := Hst.out.2.1
            omega
end Go.Proofs.YtipcgehcineblaaGreat

/-
  The contracts of the document's answer for layer 6: One, Over, Lcm.
-/
namespace Go.Proofs.YtipcgehcineblaaGreat
open Go.RowKit

theorem ref06_one (a : Option Addr) (n cap : Nat) (v : Nat) (w : World) (h : Wd w a n cap (dg v)) :
    Calls Tryz.prog 38 #[.slice a n cap] w fun e w' => e = .returned (.bool (decide (v = 1))) ∧ w = w' := by
  have Hl := Lib.hid h.len
  by_cases hn : n = 1
  · subst hn
    obtain ⟨b, off, rfl, hc⟩ := h.at (by omega)
    have hc0 := hc 0 (by omega)
    have hv : atw (dg v) 0 = v := by
      have hl1 : (dg v).length = 1 := Hl.out
      have h1 := val_two (l := dg v) (by omega)
      rw [val_dg, atw_ge (l := dg v) (i := 1) (by omega)] at h1
      omega
    rw [hv, Nat.add_zero] at hc0
    clear hc h hv
    go_enter Tryz.func38, Tryz.ntmps38
    go_wp2
    go_ret
    exact ⟨ret_bool (by rw [Bool.eq_iff_iff, beq_iff_eq, decide_eq_true_eq]; omega), rfl⟩
  · have hni : ((n : Int) == 1) = false := by simp; omega
    have Hv : Hid (v ≠ 1) := Lib.hid (fun e => by subst e; have := Hl.out; rw [dg_word (by decide) (by decide)] at this; exact hn this.symm)
    clear hn h
    go_enter Tryz.func38, Tryz.ntmps38
    go_wp2
    go_ret
    exact ⟨ret_bool (decide_eq_false Hv.out).symm, rfl⟩
theorem ref06_over (a : Option Addr) (n cap : Nat) (la : List Nat) (b : Option Addr) (m cap' : Nat) (v : Nat) (w : World) (ha : Wd w a n cap la) (hb : Wd w b m cap' (dg v)) (hn : n ≤ 104857600000) (hm : m ≤ 104857600000) (h0 : Hid (v ≠ 0)) :
    Calls Tryz.prog 40 #[.slice a n cap, .slice b m cap'] w (Lst (dg (val la / v)) w) := by
  have Ha := Lib.hid ha
  have Hb := Lib.hid hb
  clear ha hb
  go_enter Tryz.func40, Tryz.ntmps40
  go_wp2_with fail
  refine (ref06_one _ _ _ v _ Hb.out).mono ?_
  rintro e w' ⟨rfl, rfl⟩
  by_cases h1 : v = 1
  · have HF : Hid (val la / v = val la) := Lib.hid (by rw [h1, Nat.div_one])
    rw [decide_eq_true h1]
    clear h1
    go_wp2_with fail
    refine (ref02_norm _ _ _ _ _ Ha.out (by omega)).mono ?_
    rintro e w1 ⟨a1, n1, c1, rfl, h1, b1⟩
    rw [← HF.out] at h1
    have H1 := Lib.hid h1
    clear h1
    go_wp2
    go_ret
    exact ⟨a1, n1, c1, rfl, H1.out, b1⟩
  · rw [decide_eq_false h1]
    clear h1
    go_wp2_with fail
    refine (ref05_div _ _ _ _ _ _ _ _ _ Ha.out Hb.out (by omega) (by omega) (by rw [val_dg]; exact h0)).mono ?_
    rintro e w1 ⟨a1, n1, c1, a2, n2, c2, rfl, h1, h2, b1⟩
    rw [val_dg] at h1
    have H1 := Lib.hid h1
    clear h1 h2
    go_wp2
    go_ret
    exact ⟨a1, n1, c1, rfl, H1.out, b1⟩
end Go.Proofs.YtipcgehcineblaaGreat

/-
  The contracts of the document's answer for layer 9: Norm.
-/
namespace Go.Proofs.YtipcgehcineblaaGreat
open Go.RowKit

theorem cells_3 {w : World} {A0 : Nat} {c0_0 c0_1 c0_2 : Value} {t0 : TypeId} (h0 : w.heap[A0]? = some (.cells #[c0_0, c0_1, c0_2] t0 (0, 0))) : w.cell? ⟨A0, 0, none⟩ = some c0_0 ∧ w.cell? ⟨A0, 1, none⟩ = some c0_1 ∧ w.cell? ⟨A0, 2, none⟩ = some c0_2 := ⟨blk_cell h0 0, blk_cell h0 1, blk_cell h0 2⟩
theorem cells_3_3 {w : World} {A0 A1 : Nat} {c0_0 c0_1 c0_2 c1_0 c1_1 c1_2 : Value} {t0 t1 : TypeId} (h0 : w.heap[A0]? = some (.cells #[c0_0, c0_1, c0_2] t0 (0, 0))) (h1 : w.heap[A1]? = some (.cells #[c1_0, c1_1, c1_2] t1 (0, 0))) : w.cell? ⟨A0, 0, none⟩ = some c0_0 ∧ w.cell? ⟨A0, 1, none⟩ = some c0_1 ∧ w.cell? ⟨A0, 2, none⟩ = some c0_2 ∧ w.cell? ⟨A1, 0, none⟩ = some c1_0 ∧ w.cell? ⟨A1, 1, none⟩ = some c1_1 ∧ w.cell? ⟨A1, 2, none⟩ = some c1_2 := ⟨blk_cell h0 0, blk_cell h0 1, blk_cell h0 2, blk_cell h1 0, blk_cell h1 1, blk_cell h1 2⟩
theorem blk_set3 {w : World} {g : Nat} {x y z : Value} {t : TypeId} (h : w.heap[g]? = some (.cells #[x, y, z] t (0, 0))) (u v q : Value) : (((w.setCell ⟨g, 0, none⟩ u).setCell ⟨g, 1, none⟩ v).setCell ⟨g, 2, none⟩ q).heap[g]? = some (.cells #[u, v, q] t (0, 0)) := by
  have h1 := blk_set (blk_set (blk_set h 0 u) 1 v) 2 q
  simpa using h1
theorem no_words3 {b : Bool} {a : Option Addr} {n cap : Nat} {c : Option Addr} {m cap' : Nat} : ∀ (j : Nat) (k : Int), (#[Value.bool b, .slice a n cap, .slice c m cap'] : Array Value)[j]? ≠ some (.int .u32 k) := by
  intro j k
  match j with
  | 0 => simp
  | 1 => simp
  | 2 => simp
  | j + 3 => simp
theorem Wd.stored3 {w : World} {a : Option Addr} {n cap : Nat} {l : List Nat} (h : Wd w a n cap l) {g : Nat} {b : Bool} {x : Option Addr} {y z : Nat} {x' : Option Addr} {y' z' : Nat} {t : TypeId} (hg : w.heap[g]? = some (.cells #[.bool b, .slice x y z, .slice x' y' z'] t (0, 0))) (c : Bool) (e : Option Addr) (i j : Nat) (v : Value) :
    Wd (((w.setCell ⟨g, 0, none⟩ (.bool c)).setCell ⟨g, 1, none⟩ (.slice e i j)).setCell ⟨g, 2, none⟩ v) a n cap l := by
  have h1 := h.stored hg no_words3 0 (.bool c)
  have g1 : (w.setCell ⟨g, 0, none⟩ (.bool c)).heap[g]? = some (.cells #[.bool c, .slice x y z, .slice x' y' z'] t (0, 0)) := by simpa using blk_set hg 0 (.bool c)
  have h2 := h1.stored g1 no_words3 1 (.slice e i j)
  have g2 : ((w.setCell ⟨g, 0, none⟩ (.bool c)).setCell ⟨g, 1, none⟩ (.slice e i j)).heap[g]? = some (.cells #[.bool c, .slice e i j, .slice x' y' z'] t (0, 0)) := by simpa using blk_set g1 1 (.slice e i j)
  exact h2.stored g2 no_words3 2 v
theorem below_set3 {w w1 : World} {g : Nat} (h : Below w.heap.size w w1) (hg : w.heap.size ≤ g) (u v q : Value) : Below w.heap.size w (((w1.setCell ⟨g, 0, none⟩ u).setCell ⟨g, 1, none⟩ v).setCell ⟨g, 2, none⟩ q) := ((h.setCell (p := ⟨g, 0, none⟩) hg u).setCell (p := ⟨g, 1, none⟩) hg v).setCell (p := ⟨g, 2, none⟩) hg q
set_option maxRecDepth 4096 in
set_option maxHeartbeats 4000000 in
theorem ref09_norm (neg : Bool) (a : Option Addr) (n cap : Nat) (la : List Nat) (b : Option Addr) (m cap' : Nat) (lb : List Nat) (w : World) (ha : Wd w a n cap la) (hb : Wd w b m cap' lb) (hn : n ≤ 104857600000) (hm : m ≤ 104857600000) :
    Calls Tryz.prog 10 #[frV neg a n cap b m cap'] w (LstQ (qval neg (val la) (val lb)) w) := by
  obtain ⟨qq, hqq⟩ : ∃ qq, qq = qval neg (val la) (val lb) := ⟨_, rfl⟩
  rw [← hqq]
  have HQ := Lib.hid hqq
  clear hqq
  have hla := ha.trim_le
  have hlb := hb.trim_le
  have HB := Lib.hid (below_then (below_alloc w (.cells #[.bool neg, .slice a n cap, .slice b m cap'] 25)) (below_alloc _ (.cells #[.bool false, .slice none 0 0, .slice none 0 0] 25)))
  have HA := Lib.hid (ha.later HB.out)
  have HC := Lib.hid (hb.later HB.out)
  obtain ⟨hx1, hx2⟩ := boxes_at w ((w.alloc (.cells #[.bool neg, .slice a n cap, .slice b m cap'] 25)).alloc (.cells #[.bool false, .slice none 0 0, .slice none 0 0] 25)) #[.bool neg, .slice a n cap, .slice b m cap'] #[.bool false, .slice none 0 0, .slice none 0 0] 25 25 (Below.refl _ _)
  have HX := Lib.hid hx1
  have HR := Lib.hid hx2
  clear ha hb hx1 hx2
  go_enter Tryz.func10, Tryz.ntmps10
  unfold frV
  obtain ⟨k0, k1, k2, k3, k4, k5⟩ := cells_3_3 HX.out HR.out
  go_wp2_with fail
  refine (ref02_norm b m cap' lb _ HC.out (by omega)).mono ?_
  rintro e w1 ⟨a1, n1, c1, rfl, h1, b⟩
  clear k0 k1 k2 k3 k4 k5
  replace HB := Lib.hid (below_then HB.out b)
  replace HX := Lib.hid (blk_later HX.out b)
  replace HR := Lib.hid (blk_later HR.out b)
  clear HC
  replace HA := Lib.hid (HA.out.later b)
  clear b
  have Hn1 := Lib.hid h1.len
  have hn1 : n1 ≤ 104857600000 := by have := h1.len; omega
  have R1 := Lib.hid h1
  clear h1
  obtain ⟨k0, k1, k2, k3, k4, k5⟩ := cells_3_3 HX.out HR.out
  go_wp2_with fail
  refine (ref02_norm a n cap la _ HA.out (by omega)).mono ?_
  rintro e w2 ⟨a2, n2, c2, rfl, h2, b⟩
  clear k0 k1 k2 k3 k4 k5
  replace HB := Lib.hid (below_then HB.out b)
  replace HX := Lib.hid (blk_later HX.out b)
  replace HR := Lib.hid (blk_later HR.out b)
  clear HA
  replace R1 := Lib.hid (R1.out.later b)
  clear b
  have Hn2 := Lib.hid h2.len
  have hn2 : n2 ≤ 104857600000 := by have := h2.len; omega
  have R2 := Lib.hid h2
  clear h2
  by_cases hz : n1 = 0
  · subst hz
    obtain rfl : qq = 0 := HQ.out.trans (qval_none neg (.inl (dg_nil_iff.1 Hn1.out)))
    have HB4 := Lib.hid (below_then (below_alloc w2 (.cells #[] 58)) (below_alloc _ (.cells #[.int .u32 1] 58)))
    have HR4 := Lib.hid (blk_later HR.out HB4.out)
    obtain ⟨k3, k4, k5⟩ := cells_3 HR4.out
    have f0 := blk_free HR4.out 0
    have f1 := blk_free HR4.out 1
    have f2 := blk_free HR4.out 2
    have HG := Lib.hid (blk_set3 HR4.out (.bool false) (.slice (some ⟨w2.heap.size, 0, none⟩) 0 0) (.slice (some ⟨w2.heap.size + 1, 0, none⟩) 1 1))
    have HL := Lib.hid (below_set3 (below_then HB.out HB4.out) (show w.heap.size ≤ w.heap.size + 1 by omega) (.bool false) (.slice (some ⟨w2.heap.size, 0, none⟩) 0 0) (.slice (some ⟨w2.heap.size + 1, 0, none⟩) 1 1))
    have w1' : Wd ((w2.alloc (.cells #[] 58)).alloc (.cells #[.int .u32 1] 58)) (some ⟨w2.heap.size + 1, 0, none⟩) 1 1 [1] := by
      have h := Wd.lit1 (w2.alloc (.cells #[] 58)) 58 (x := 1) (by omega)
      rwa [blk_size] at h
    have HW1 := Lib.hid (w1'.stored3 HR4.out false (some ⟨w2.heap.size, 0, none⟩) 0 0 (.slice (some ⟨w2.heap.size + 1, 0, none⟩) 1 1))
    clear w1'
    go_wp2
    refine bodyPost_ret (results_cell_row Tryz.results10 _ _ (w.heap.size + 1) 25 #[.bool false, .slice (some ⟨w2.heap.size, 0, none⟩) 0 0, .slice (some ⟨w2.heap.size + 1, 0, none⟩) 1 1] (0, 0) _ rfl HG.out Tryz.underlying25 rfl (by kernel_rfl)) rfl ?_
    refine ⟨_, _, _, _, _, _, rfl, ?_, ?_, HL.out⟩
    · show Wd _ _ _ _ (dg (0 : Nat))
      rw [dg_zero]; exact Wd.empty _ _ _ (by omega)
    · show Wd _ _ _ _ (dg (1 : Nat))
      rw [dg_word (by decide) (by decide)]; exact HW1.out
  · have hzi : ((n1 : Int) == 0) = false := by simp [hz]
    by_cases hy : n2 = 0
    · subst hy
      obtain rfl : qq = 0 := HQ.out.trans (qval_none neg (.inr (dg_nil_iff.1 Hn2.out)))
      have HB4 := Lib.hid (below_then (below_alloc w2 (.cells #[] 58)) (below_alloc _ (.cells #[.int .u32 1] 58)))
      have HR4 := Lib.hid (blk_later HR.out HB4.out)
      obtain ⟨k3, k4, k5⟩ := cells_3 HR4.out
      have f0 := blk_free HR4.out 0
      have f1 := blk_free HR4.out 1
      have f2 := blk_free HR4.out 2
      have HG := Lib.hid (blk_set3 HR4.out (.bool false) (.slice (some ⟨w2.heap.size, 0, none⟩) 0 0) (.slice (some ⟨w2.heap.size + 1, 0, none⟩) 1 1))
      have HL := Lib.hid (below_set3 (below_then HB.out HB4.out) (show w.heap.size ≤ w.heap.size + 1 by omega) (.bool false) (.slice (some ⟨w2.heap.size, 0, none⟩) 0 0) (.slice (some ⟨w2.heap.size + 1, 0, none⟩) 1 1))
      have w1' : Wd ((w2.alloc (.cells #[] 58)).alloc (.cells #[.int .u32 1] 58)) (some ⟨w2.heap.size + 1, 0, none⟩) 1 1 [1] := by
        have h := Wd.lit1 (w2.alloc (.cells #[] 58)) 58 (x := 1) (by omega)
        rwa [blk_size] at h
      have HW1 := Lib.hid (w1'.stored3 HR4.out false (some ⟨w2.heap.size, 0, none⟩) 0 0 (.slice (some ⟨w2.heap.size + 1, 0, none⟩) 1 1))
      clear w1'
      go_wp2
      refine bodyPost_ret (results_cell_row Tryz.results10 _ _ (w.heap.size + 1) 25 #[.bool false, .slice (some ⟨w2.heap.size, 0, none⟩) 0 0, .slice (some ⟨w2.heap.size + 1, 0, none⟩) 1 1] (0, 0) _ rfl HG.out Tryz.underlying25 rfl (by kernel_rfl)) rfl ?_
      refine ⟨_, _, _, _, _, _, rfl, ?_, ?_, HL.out⟩
      · show Wd _ _ _ _ (dg (0 : Nat))
        rw [dg_zero]; exact Wd.empty _ _ _ (by omega)
      · show Wd _ _ _ _ (dg (1 : Nat))
        rw [dg_word (by decide) (by decide)]; exact HW1.out
    · have hyi : ((n2 : Int) == 0) = false := by simp [hy]
      have hv0 : Hid (val lb ≠ 0) := Lib.hid (fun h => hz (Hn1.out.symm.trans (dg_nil_iff.2 h)))
      have hu0 : Hid (val la ≠ 0) := Lib.hid (fun h => hy (Hn2.out.symm.trans (dg_nil_iff.2 h)))
      have HP := Lib.hid (qval_parts neg (u := val la) hv0.out)
      have HS := Lib.hid (qval_sign neg hv0.out hu0.out)
      rw [← HQ.out] at HP HS
      have HA1 : Hid (qq.num.natAbs = val la / Nat.gcd (val la) (val lb)) := Lib.hid (by rw [HP.out.1, zval_abs])
      have HA2 : Hid (qq.den = val lb / Nat.gcd (val la) (val lb)) := Lib.hid HP.out.2
      have hgl : (dg (Nat.gcd (val la) (val lb))).length ≤ 104857600000 := Nat.le_trans (dg_length_mono (Nat.gcd_le_left _ (Nat.pos_of_ne_zero hu0.out))) (by omega)
      have Hg0 : Hid (Nat.gcd (val la) (val lb) ≠ 0) := Lib.hid (Nat.ne_of_gt (Nat.gcd_pos_of_pos_left _ (Nat.pos_of_ne_zero hu0.out)))
      clear HP
      by_cases h1 : val lb = 1
      · obtain ⟨vk0, vk1, vk2, vk3, vk4, vk5⟩ := cells_3_3 HX.out HR.out
        go_wp2_with fail
        refine (ref06_one a1 n1 c1 (val lb) _ R1.out).mono ?_
        rintro e w' ⟨rfl, rfl⟩
        clear vk0 vk1 vk2 vk3 vk4 vk5
        rw [decide_eq_true h1]
        have HG1 : Hid (Nat.gcd (val la) (val lb) = 1) := Lib.hid (by rw [h1, Nat.gcd_one_right])
        have HN1 : Hid (dg (val la / Nat.gcd (val la) (val lb)) = dg (val la)) := Lib.hid (by rw [HG1.out, Nat.div_one])
        have HN2 : Hid (dg (val lb / Nat.gcd (val la) (val lb)) = dg (val lb)) := Lib.hid (by rw [HG1.out, Nat.div_one])
        clear h1
        have HG := Lib.hid (blk_set3 HR.out (.bool neg) (.slice a2 n2 c2) (.slice a1 n1 c1))
        have HL := Lib.hid (below_set3 HB.out (show w.heap.size ≤ w.heap.size + 1 by omega) (.bool neg) (.slice a2 n2 c2) (.slice a1 n1 c1))
        have HW1 := Lib.hid (R2.out.stored3 HR.out neg a2 n2 c2 (.slice a1 n1 c1))
        have HW2 := Lib.hid (R1.out.stored3 HR.out neg a2 n2 c2 (.slice a1 n1 c1))
        obtain ⟨k0, k1, k2, k3, k4, k5⟩ := cells_3_3 HX.out HR.out
        have f0 := blk_free HR.out 0
        have f1 := blk_free HR.out 1
        have f2 := blk_free HR.out 2
        go_wp2
        refine bodyPost_ret (results_cell_row Tryz.results10 _ _ (w.heap.size + 1) 25 #[.bool neg, .slice a2 n2 c2, .slice a1 n1 c1] (0, 0) _ rfl HG.out Tryz.underlying25 rfl (by kernel_rfl)) rfl ?_
        refine ⟨_, _, _, _, _, _, by rw [HS.out]; rfl, ?_, ?_, HL.out⟩
        · rw [HA1.out]; rw [HN1.out]; exact HW1.out
        · rw [HA2.out]; rw [HN2.out]; exact HW2.out
      · obtain ⟨vk0, vk1, vk2, vk3, vk4, vk5⟩ := cells_3_3 HX.out HR.out
        go_wp2_with fail
        refine (ref06_one a1 n1 c1 (val lb) _ R1.out).mono ?_
        rintro e w' ⟨rfl, rfl⟩
        clear vk0 vk1 vk2 vk3 vk4 vk5
        rw [decide_eq_false h1]
        clear h1
        have HV1 : Hid (val (dg (val la)) = val la) := Lib.hid (val_dg _)
        have HV2 : Hid (val (dg (val lb)) = val lb) := Lib.hid (val_dg _)
        obtain ⟨vk0, vk1, vk2, vk3, vk4, vk5⟩ := cells_3_3 HX.out HR.out
        go_wp2_with fail
        refine (ref06_gcd a2 n2 c2 _ a1 n1 c1 _ _ R2.out R1.out (by omega) (by omega)).mono ?_
        rintro e wv2 ⟨a3, n3, c3, rfl, h3, b⟩
        clear vk0 vk1 vk2 vk3 vk4 vk5
        replace HB := Lib.hid (below_then HB.out b)
        replace HX := Lib.hid (blk_later HX.out b)
        replace HR := Lib.hid (blk_later HR.out b)
        replace R1 := Lib.hid (R1.out.later b)
        replace R2 := Lib.hid (R2.out.later b)
        clear b
        rw [HV1.out, HV2.out] at h3
        have hn3 : n3 ≤ 104857600000 := by have := h3.len; omega
        have R3 := Lib.hid h3
        clear h3
        obtain ⟨vk0, vk1, vk2, vk3, vk4, vk5⟩ := cells_3_3 HX.out HR.out
        go_wp2_with fail
        refine (ref06_over a2 n2 c2 _ a3 n3 c3 _ _ R2.out R3.out (by omega) (by omega) Hg0).mono ?_
        rintro e wv3 ⟨a4, n4, c4, rfl, h4, b⟩
        clear vk0 vk1 vk2 vk3 vk4 vk5
        replace HB := Lib.hid (below_then HB.out b)
        replace HX := Lib.hid (blk_later HX.out b)
        replace HR := Lib.hid (blk_later HR.out b)
        clear R2
        replace R1 := Lib.hid (R1.out.later b)
        replace R3 := Lib.hid (R3.out.later b)
        clear b
        rw [HV1.out] at h4
        have R4 := Lib.hid h4
        clear h4
        obtain ⟨vk0, vk1, vk2, vk3, vk4, vk5⟩ := cells_3_3 HX.out HR.out
        go_wp2_with fail
        refine (ref06_over a1 n1 c1 _ a3 n3 c3 _ _ R1.out R3.out (by omega) (by omega) Hg0).mono ?_
        rintro e wv4 ⟨a5, n5, c5, rfl, h5, b⟩
        clear vk0 vk1 vk2 vk3 vk4 vk5
        replace HB := Lib.hid (below_then HB.out b)
        replace HX := Lib.hid (blk_later HX.out b)
        replace HR := Lib.hid (blk_later HR.out b)
        clear R1
        clear R3
        replace R4 := Lib.hid (R4.out.later b)
        clear b
        rw [HV2.out] at h5
        have R5 := Lib.hid h5
        clear h5
        have HG := Lib.hid (blk_set3 HR.out (.bool neg) (.slice a4 n4 c4) (.slice a5 n5 c5))
        have HL := Lib.hid (below_set3 HB.out (show w.heap.size ≤ w.heap.size + 1 by omega) (.bool neg) (.slice a4 n4 c4) (.slice a5 n5 c5))
        have HW1 := Lib.hid (R4.out.stored3 HR.out neg a4 n4 c4 (.slice a5 n5 c5))
        have HW2 := Lib.hid (R5.out.stored3 HR.out neg a4 n4 c4 (.slice a5 n5 c5))
        obtain ⟨k0, k1, k2, k3, k4, k5⟩ := cells_3_3 HX.out HR.out
        have f0 := blk_free HR.out 0
        have f1 := blk_free HR.out 1
        have f2 := blk_free HR.out 2
        go_wp2
        refine bodyPost_ret (results_cell_row Tryz.results10 _ _ (w.heap.size + 1) 25 #[.bool neg, .slice a4 n4 c4, .slice a5 n5 c5] (0, 0) _ rfl HG.out Tryz.underlying25 rfl (by kernel_rfl)) rfl ?_
        refine ⟨_, _, _, _, _, _, by rw [HS.out]; rfl, ?_, ?_, HL.out⟩
        · rw [HA1.out]; exact HW1.out
        · rw [HA2.out]; exact HW2.out
end Go.Proofs.YtipcgehcineblaaGreat

/-
  The contracts of the document's answer for layer 9: Neg, Zero, Sign, Same.
-/
namespace Go.Proofs.YtipcgehcineblaaGreat
open Go.RowKit

theorem ref09_zero (neg : Bool) (a : Option Addr) (n cap : Nat) (b : Option Addr) (m cap' : Nat) (w : World) :
    Calls Tryz.prog 36 #[frV neg a n cap b m cap'] w (Gives (.bool ((n : Int) == 0)) w) := by
  unfold frV
  go_enter Tryz.func36, Tryz.ntmps36
  go_wp2
  go_ret
  exact ⟨rfl, below_alloc _ _⟩
set_option maxRecDepth 4096 in
set_option maxHeartbeats 2000000 in
theorem ref09_same_yes (neg : Bool) (a : Option Addr) (n cap : Nat) (b : Option Addr) (m cap' : Nat) (l k : List Nat) (a' : Option Addr) (n' c' : Nat) (b' : Option Addr) (m' d' : Nat) (w : World) (ha : Wd w a n cap l) (hb : Wd w b m cap' k) (ha' : Wd w a' n' c' l) (hb' : Wd w b' m' d' k) :
    Calls Tryz.prog 46 #[frV neg a n cap b m cap', frV neg a' n' c' b' m' d'] w (Gives (.bool true) w) := by
  have HB := Lib.hid (below_then (below_alloc w (.cells #[.bool neg, .slice a n cap, .slice b m cap'] 25)) (below_alloc _ (.cells #[.bool neg, .slice a' n' c', .slice b' m' d'] 25)))
  have HA := Lib.hid (ha.later HB.out)
  have HC := Lib.hid (hb.later HB.out)
  have HA' := Lib.hid (ha'.later HB.out)
  have HC' := Lib.hid (hb'.later HB.out)
  obtain ⟨hx1, hx2⟩ := boxes_at w ((w.alloc (.cells #[.bool neg, .slice a n cap, .slice b m cap'] 25)).alloc (.cells #[.bool neg, .slice a' n' c', .slice b' m' d'] 25)) #[.bool neg, .slice a n cap, .slice b m cap'] #[.bool neg, .slice a' n' c', .slice b' m' d'] 25 25 (Below.refl _ _)
  have HX := Lib.hid hx1
  have HY := Lib.hid hx2
  clear ha hb ha' hb' hx1 hx2
  go_enter Tryz.func46, Tryz.ntmps46
  unfold frV
  obtain ⟨vk0, vk1, vk2, vk3, vk4, vk5⟩ := cells_3_3 HX.out HY.out
  go_wp2_with fail
  refine (ref02_same_yes _ _ _ _ _ _ _ _ _ HA.out HA'.out rfl).mono ?_
  rintro e wv1 ⟨rfl, b⟩
  clear vk0 vk1 vk2 vk3 vk4 vk5
  replace HB := Lib.hid (below_then HB.out b)
  replace HX := Lib.hid (blk_later HX.out b)
  replace HY := Lib.hid (blk_later HY.out b)
  replace HA := Lib.hid (HA.out.later b)
  replace HC := Lib.hid (HC.out.later b)
  replace HA' := Lib.hid (HA'.out.later b)
  replace HC' := Lib.hid (HC'.out.later b)
  clear b
  obtain ⟨vk0, vk1, vk2, vk3, vk4, vk5⟩ := cells_3_3 HX.out HY.out
  go_wp2_with fail
  refine (ref02_same_yes _ _ _ _ _ _ _ _ _ HC.out HC'.out rfl).mono ?_
  rintro e wv2 ⟨rfl, b⟩
  clear vk0 vk1 vk2 vk3 vk4 vk5
  replace HB := Lib.hid (below_then HB.out b)
  replace HX := Lib.hid (blk_later HX.out b)
  replace HY := Lib.hid (blk_later HY.out b)
  replace HA := Lib.hid (HA.out.later b)
  replace HC := Lib.hid (HC.out.later b)
  replace HA' := Lib.hid (HA'.out.later b)
  replace HC' := Lib.hid (HC'.out.later b)
  clear b
  go_wp2
  go_ret
  exact ⟨rfl, HB.out⟩
end Go.Proofs.YtipcgehcineblaaGreat

/-
  The contracts of the document's answer for layer 9: Mul, Quo.
-/
namespace Go.Proofs.YtipcgehcineblaaGreat
open Go.RowKit

theorem qval_mul (na nb : Bool) (u v x y : Nat) : qval (!(na == nb)) (u * x) (v * y) = qval na u v * qval nb x y := by
  unfold qval
  rw [Rat.mkRat_mul_mkRat, zval_mul]
theorem blk_far3 {w : World} {A g : Nat} {o : Obj} (h : w.heap[A]? = some o) (hne : A ≠ g) (u v q : Value) : (((w.setCell ⟨g, 0, none⟩ u).setCell ⟨g, 1, none⟩ v).setCell ⟨g, 2, none⟩ q).heap[A]? = some o :=
  blk_apart (blk_apart (blk_apart h hne 0 u) hne 1 v) hne 2 q
theorem boxes3_at9 (w : World) (x y z : Array Value) (t s r : TypeId) :
    (((w.alloc (.cells x t)).alloc (.cells y s)).alloc (.cells z r)).heap[w.heap.size]? = some (.cells x t (0, 0)) ∧ (((w.alloc (.cells x t)).alloc (.cells y s)).alloc (.cells z r)).heap[w.heap.size + 1]? = some (.cells y s (0, 0)) ∧ (((w.alloc (.cells x t)).alloc (.cells y s)).alloc (.cells z r)).heap[w.heap.size + 1 + 1]? = some (.cells z r (0, 0)) := boxes3_at w x y z t s r
set_option maxRecDepth 4096 in
set_option maxHeartbeats 8000000 in
theorem ref09_mul (na : Bool) (a : Option Addr) (n cap : Nat) (la : List Nat) (b : Option Addr) (m cap' : Nat) (lb : List Nat) (nb : Bool) (a' : Option Addr) (n' c' : Nat) (la' : List Nat) (b' : Option Addr) (m' d' : Nat) (lb' : List Nat) (w : World) (ha : Wd w a n cap la) (hb : Wd w b m cap' lb) (ha' : Wd w a' n' c' la') (hb' : Wd w b' m' d' lb') (hn : n ≤ 41943040000) (hm : m ≤ 41943040000) (hn' : n' ≤ 41943040000) (hm' : m' ≤ 41943040000) :
    Calls Tryz.prog 52 #[frV na a n cap b m cap', frV nb a' n' c' b' m' d'] w (LstQ (qval na (val la) (val lb) * qval nb (val la') (val lb')) w) := by
  have HB := Lib.hid (below_then (below_then (below_alloc w (.cells #[.bool na, .slice a n cap, .slice b m cap'] 25)) (below_alloc _ (.cells #[.bool nb, .slice a' n' c', .slice b' m' d'] 25))) (below_alloc _ (.cells #[.bool false, .slice none 0 0, .slice none 0 0] 25)))
  have HA := Lib.hid (ha.later HB.out)
  have HC := Lib.hid (hb.later HB.out)
  have HA' := Lib.hid (ha'.later HB.out)
  have HC' := Lib.hid (hb'.later HB.out)
  obtain ⟨hx1, hx2, hx3⟩ := boxes3_at9 w #[.bool na, .slice a n cap, .slice b m cap'] #[.bool nb, .slice a' n' c', .slice b' m' d'] #[.bool false, .slice none 0 0, .slice none 0 0] 25 25 25
  have HX := Lib.hid hx1
  have HY := Lib.hid hx2
  have HR := Lib.hid hx3
  have ha1 := ha.trim_le
  have hb1 := hb.trim_le
  have ha2 := ha'.trim_le
  have hb2 := hb'.trim_le
  have hW1 : w.heap.size + 1 + 1 < (((w.alloc (.cells #[.bool na, .slice a n cap, .slice b m cap'] 25)).alloc (.cells #[.bool nb, .slice a' n' c', .slice b' m' d'] 25)).alloc (.cells #[.bool false, .slice none 0 0, .slice none 0 0] 25)).heap.size := (Array.getElem?_eq_some_iff.1 hx3).1
  clear ha hb ha' hb' hx1 hx2 hx3
  have zl1 := dg_mul_length (val la) (val la')
  have zl2 := dg_mul_length (val lb) (val lb')
  have HV1 : Hid (val (dg (val la * val la')) = val la * val la') := Lib.hid (val_dg _)
  have HV2 : Hid (val (dg (val lb * val lb')) = val lb * val lb') := Lib.hid (val_dg _)
  go_enter Tryz.func52, Tryz.ntmps52
  unfold frV
  go_wp2
  generalize (((w.alloc (.cells #[.bool na, .slice a n cap, .slice b m cap'] 25)).alloc (.cells #[.bool nb, .slice a' n' c', .slice b' m' d'] 25)).alloc (.cells #[.bool false, .slice none 0 0, .slice none 0 0] 25)) = W at *
  replace HB := Lib.hid (below_then HB.out ((Below.refl _ _).drew : Below W.heap.size W W.drew))
  replace HX : Hid (W.drew.heap[w.heap.size]? = _) := Lib.hid HX.out
  replace HY : Hid (W.drew.heap[w.heap.size + 1]? = _) := Lib.hid HY.out
  replace HR : Hid (W.drew.heap[w.heap.size + 1 + 1]? = some (.cells #[.bool false, .slice none 0 0, .slice none 0 0] 25 (0, 0))) := Lib.hid HR.out
  replace HA := Lib.hid (HA.out.later ((Below.refl _ _).drew : Below W.heap.size W W.drew))
  replace HC := Lib.hid (HC.out.later ((Below.refl _ _).drew : Below W.heap.size W W.drew))
  replace HA' := Lib.hid (HA'.out.later ((Below.refl _ _).drew : Below W.heap.size W W.drew))
  replace HC' := Lib.hid (HC'.out.later ((Below.refl _ _).drew : Below W.heap.size W W.drew))
  have pSn := cells_3_3 HX.out HY.out
  go_region_held3 (fun w' => w'.cell? ⟨w.heap.size, 0, none⟩ = some (.bool na) ∧ w'.cell? ⟨w.heap.size, 1, none⟩ = some (.slice a n cap) ∧ w'.cell? ⟨w.heap.size, 2, none⟩ = some (.slice b m cap') ∧ w'.cell? ⟨w.heap.size + 1, 0, none⟩ = some (.bool nb) ∧ w'.cell? ⟨w.heap.size + 1, 1, none⟩ = some (.slice a' n' c') ∧ w'.cell? ⟨w.heap.size + 1, 2, none⟩ = some (.slice b' m' d')) (first | exact pSn | exact pSb _ _ _)
    (first
    | (go_at_call 86; (first
      | (have pm1 := pM1; refine (ref04_mul b m cap' lb b' m' d' lb' _ HC.out HC'.out (by omega) (by omega)).mono ?_; rintro e wp2 ⟨a2, n2, c2, rfl, h2, b⟩; replace HB := Lib.hid (below_then HB.out b); replace HX := Lib.hid (blk_later HX.out b); replace HY := Lib.hid (blk_later HY.out b); replace HR := Lib.hid (blk_later HR.out b); replace HA := Lib.hid (HA.out.later b); replace HC := Lib.hid (HC.out.later b); replace HA' := Lib.hid (HA'.out.later b); replace HC' := Lib.hid (HC'.out.later b); replace R1 := Lib.hid (R1.out.later b); have R2 := Lib.hid h2; have hn2 : n2 ≤ 94371840000 := (by have := h2.len; omega); clear h2; clear b; clear pSn; have pSn := cells_3_3 HX.out HY.out; clear pM1 pm1; have pM2 := True.intro)
      | (refine (ref04_mul a n cap la a' n' c' la' _ HA.out HA'.out (by omega) (by omega)).mono ?_; rintro e wp1 ⟨a1, n1, c1, rfl, h1, b⟩; replace HB := Lib.hid (below_then HB.out b); replace HX := Lib.hid (blk_later HX.out b); replace HY := Lib.hid (blk_later HY.out b); replace HR := Lib.hid (blk_later HR.out b); replace HA := Lib.hid (HA.out.later b); replace HC := Lib.hid (HC.out.later b); replace HA' := Lib.hid (HA'.out.later b); replace HC' := Lib.hid (HC'.out.later b); have R1 := Lib.hid h1; have hn1 : n1 ≤ 94371840000 := (by have := h1.len; omega); clear h1; clear b; clear pSn; have pSn := cells_3_3 HX.out HY.out; have pM1 := True.intro)))
    | (go_at_call 10; (first
      | (have pm2 := pM2; refine (ref09_norm _ a1 n1 c1 _ a2 n2 c2 _ _ R1.out R2.out (by omega) (by omega)).mono ?_; rintro e wp3 ⟨a3, n3, c3, a4, n4, c4, rfl, h3, h4, b⟩; replace HB := Lib.hid (below_then HB.out b); replace HX := Lib.hid (blk_later HX.out b); replace HY := Lib.hid (blk_later HY.out b); replace HR := Lib.hid (blk_later HR.out b); replace HA := Lib.hid (HA.out.later b); replace HC := Lib.hid (HC.out.later b); replace HA' := Lib.hid (HA'.out.later b); replace HC' := Lib.hid (HC'.out.later b); clear R1; clear R2; have R3 := Lib.hid h3; have R4 := Lib.hid h4; clear h3 h4; obtain ⟨r0, r1, r2⟩ := cells_3 HR.out; have f0 := blk_free HR.out 0; have f1 := blk_free HR.out 1; have f2 := blk_free HR.out 2; have pSb := fun u v q => cells_3_3 (blk_far3 (g := w.heap.size + 1 + 1) HX.out (by omega) u v q) (blk_far3 (g := w.heap.size + 1 + 1) HY.out (by omega) u v q); unfold frV; clear b; clear pSn; have pSn := cells_3_3 HX.out HY.out; clear pM2 pm2; have pM3 := True.intro))))
  have HQ : Hid (qval (!(na == nb)) (val (dg (val la * val la'))) (val (dg (val lb * val lb'))) = qval na (val la) (val lb) * qval nb (val la') (val lb')) := Lib.hid (by rw [HV1.out, HV2.out]; exact qval_mul _ _ _ _ _ _)
  rw [HQ.out] at R3 R4
  rw [HQ.out]
  generalize qval na (val la) (val lb) * qval nb (val la') (val lb') = q at *
  have HG := Lib.hid (blk_set3 HR.out (.bool (zneg q.num)) (.slice a3 n3 c3) (.slice a4 n4 c4))
  have HL := Lib.hid (below_set3 HB.out (show w.heap.size ≤ w.heap.size + 1 + 1 by omega) (.bool (zneg q.num)) (.slice a3 n3 c3) (.slice a4 n4 c4))
  have HW1 := Lib.hid (R3.out.stored3 HR.out (zneg q.num) a3 n3 c3 (.slice a4 n4 c4))
  have HW2 := Lib.hid (R4.out.stored3 HR.out (zneg q.num) a3 n3 c3 (.slice a4 n4 c4))
  go_wp2
  refine bodyPost_ret (results_cell_row Tryz.results52 _ _ (w.heap.size + 1 + 1) 25 #[.bool (zneg q.num), .slice a3 n3 c3, .slice a4 n4 c4] (0, 0) _ rfl HG.out Tryz.underlying25 rfl (by kernel_rfl)) rfl ?_
  exact ⟨_, _, _, _, _, _, rfl, HW1.out, HW2.out, HL.out⟩
set_option maxRecDepth 4096 in
set_option maxHeartbeats 8000000 in
theorem ref09_quo (na : Bool) (a : Option Addr) (n cap : Nat) (la : List Nat) (b : Option Addr) (m cap' : Nat) (lb : List Nat) (nb : Bool) (a' : Option Addr) (n' c' : Nat) (la' : List Nat) (b' : Option Addr) (m' d' : Nat) (lb' : List Nat) (w : World) (ha : Wd w a n cap la) (hb : Wd w b m cap' lb) (ha' : Wd w a' n' c' la') (hb' : Wd w b' m' d' lb') (hn : n ≤ 41943040000) (hm : m ≤ 41943040000) (hn' : n' ≤ 41943040000) (hm' : m' ≤ 41943040000) :
    Calls Tryz.prog 64 #[frV na a n cap b m cap', frV nb a' n' c' b' m' d'] w (LstQ (qval na (val la) (val lb) * qval nb (val lb') (val la')) w) := by
  have HB := Lib.hid (below_then (below_then (below_alloc w (.cells #[.bool na, .slice a n cap, .slice b m cap'] 25)) (below_alloc _ (.cells #[.bool nb, .slice a' n' c', .slice b' m' d'] 25))) (below_alloc _ (.cells #[.bool false, .slice none 0 0, .slice none 0 0] 25)))
  have HA := Lib.hid (ha.later HB.out)
  have HC := Lib.hid (hb.later HB.out)
  have HA' := Lib.hid (ha'.later HB.out)
  have HC' := Lib.hid (hb'.later HB.out)
  obtain ⟨hx1, hx2, hx3⟩ := boxes3_at9 w #[.bool na, .slice a n cap, .slice b m cap'] #[.bool nb, .slice a' n' c', .slice b' m' d'] #[.bool false, .slice none 0 0, .slice none 0 0] 25 25 25
  have HX := Lib.hid hx1
  have HY := Lib.hid hx2
  have HR := Lib.hid hx3
  have ha1 := ha.trim_le
  have hb1 := hb.trim_le
  have ha2 := ha'.trim_le
  have hb2 := hb'.trim_le
  have hW1 : w.heap.size + 1 + 1 < (((w.alloc (.cells #[.bool na, .slice a n cap, .slice b m cap'] 25)).alloc (.cells #[.bool nb, .slice a' n' c', .slice b' m' d'] 25)).alloc (.cells #[.bool false, .slice none 0 0, .slice none 0 0] 25)).heap.size := (Array.getElem?_eq_some_iff.1 hx3).1
  clear ha hb ha' hb' hx1 hx2 hx3
  have zl1 := dg_mul_length (val la) (val lb')
  have zl2 := dg_mul_length (val lb) (val la')
  have HV1 : Hid (val (dg (val la * val lb')) = val la * val lb') := Lib.hid (val_dg _)
  have HV2 : Hid (val (dg (val lb * val la')) = val lb * val la') := Lib.hid (val_dg _)
  go_enter Tryz.func64, Tryz.ntmps64
  unfold frV
  go_wp2
  generalize (((w.alloc (.cells #[.bool na, .slice a n cap, .slice b m cap'] 25)).alloc (.cells #[.bool nb, .slice a' n' c', .slice b' m' d'] 25)).alloc (.cells #[.bool false, .slice none 0 0, .slice none 0 0] 25)) = W at *
  replace HB := Lib.hid (below_then HB.out ((Below.refl _ _).drew : Below W.heap.size W W.drew))
  replace HX : Hid (W.drew.heap[w.heap.size]? = _) := Lib.hid HX.out
  replace HY : Hid (W.drew.heap[w.heap.size + 1]? = _) := Lib.hid HY.out
  replace HR : Hid (W.drew.heap[w.heap.size + 1 + 1]? = some (.cells #[.bool false, .slice none 0 0, .slice none 0 0] 25 (0, 0))) := Lib.hid HR.out
  replace HA := Lib.hid (HA.out.later ((Below.refl _ _).drew : Below W.heap.size W W.drew))
  replace HC := Lib.hid (HC.out.later ((Below.refl _ _).drew : Below W.heap.size W W.drew))
  replace HA' := Lib.hid (HA'.out.later ((Below.refl _ _).drew : Below W.heap.size W W.drew))
  replace HC' := Lib.hid (HC'.out.later ((Below.refl _ _).drew : Below W.heap.size W W.drew))
  have pSn := cells_3_3 HX.out HY.out
  go_region_held3 (fun w' => w'.cell? ⟨w.heap.size, 0, none⟩ = some (.bool na) ∧ w'.cell? ⟨w.heap.size, 1, none⟩ = some (.slice a n cap) ∧ w'.cell? ⟨w.heap.size, 2, none⟩ = some (.slice b m cap') ∧ w'.cell? ⟨w.heap.size + 1, 0, none⟩ = some (.bool nb) ∧ w'.cell? ⟨w.heap.size + 1, 1, none⟩ = some (.slice a' n' c') ∧ w'.cell? ⟨w.heap.size + 1, 2, none⟩ = some (.slice b' m' d')) (first | exact pSn | exact pSb _ _ _)
    (first
    | (go_at_call 86; (first
      | (have pm1 := pM1; refine (ref04_mul b m cap' lb a' n' c' la' _ HC.out HA'.out (by omega) (by omega)).mono ?_; rintro e wp2 ⟨a2, n2, c2, rfl, h2, b⟩; replace HB := Lib.hid (below_then HB.out b); replace HX := Lib.hid (blk_later HX.out b); replace HY := Lib.hid (blk_later HY.out b); replace HR := Lib.hid (blk_later HR.out b); replace HA := Lib.hid (HA.out.later b); replace HC := Lib.hid (HC.out.later b); replace HA' := Lib.hid (HA'.out.later b); replace HC' := Lib.hid (HC'.out.later b); replace R1 := Lib.hid (R1.out.later b); have R2 := Lib.hid h2; have hn2 : n2 ≤ 94371840000 := (by have := h2.len; omega); clear h2; clear b; clear pSn; have pSn := cells_3_3 HX.out HY.out; clear pM1 pm1; have pM2 := True.intro)
      | (refine (ref04_mul a n cap la b' m' d' lb' _ HA.out HC'.out (by omega) (by omega)).mono ?_; rintro e wp1 ⟨a1, n1, c1, rfl, h1, b⟩; replace HB := Lib.hid (below_then HB.out b); replace HX := Lib.hid (blk_later HX.out b); replace HY := Lib.hid (blk_later HY.out b); replace HR := Lib.hid (blk_later HR.out b); replace HA := Lib.hid (HA.out.later b); replace HC := Lib.hid (HC.out.later b); replace HA' := Lib.hid (HA'.out.later b); replace HC' := Lib.hid (HC'.out.later b); have R1 := Lib.hid h1; have hn1 : n1 ≤ 94371840000 := (by have := h1.len; omega); clear h1; clear b; clear pSn; have pSn := cells_3_3 HX.out HY.out; have pM1 := True.intro)))
    | (go_at_call 10; (first
      | (have pm2 := pM2; refine (ref09_norm _ a1 n1 c1 _ a2 n2 c2 _ _ R1.out R2.out (by omega) (by omega)).mono ?_; rintro e wp3 ⟨a3, n3, c3, a4, n4, c4, rfl, h3, h4, b⟩; replace HB := Lib.hid (below_then HB.out b); replace HX := Lib.hid (blk_later HX.out b); replace HY := Lib.hid (blk_later HY.out b); replace HR := Lib.hid (blk_later HR.out b); replace HA := Lib.hid (HA.out.later b); replace HC := Lib.hid (HC.out.later b); replace HA' := Lib.hid (HA'.out.later b); replace HC' := Lib.hid (HC'.out.later b); clear R1; clear R2; have R3 := Lib.hid h3; have R4 := Lib.hid h4; clear h3 h4; obtain ⟨r0, r1, r2⟩ := cells_3 HR.out; have f0 := blk_free HR.out 0; have f1 := blk_free HR.out 1; have f2 := blk_free HR.out 2; have pSb := fun u v q => cells_3_3 (blk_far3 (g := w.heap.size + 1 + 1) HX.out (by omega) u v q) (blk_far3 (g := w.heap.size + 1 + 1) HY.out (by omega) u v q); unfold frV; clear b; clear pSn; have pSn := cells_3_3 HX.out HY.out; clear pM2 pm2; have pM3 := True.intro))))
  have HQ : Hid (qval (!(na == nb)) (val (dg (val la * val lb'))) (val (dg (val lb * val la'))) = qval na (val la) (val lb) * qval nb (val lb') (val la')) := Lib.hid (by rw [HV1.out, HV2.out]; exact qval_mul _ _ _ _ _ _)
  rw [HQ.out] at R3 R4
  rw [HQ.out]
  generalize qval na (val la) (val lb) * qval nb (val lb') (val la') = q at *
  have HG := Lib.hid (blk_set3 HR.out (.bool (zneg q.num)) (.slice a3 n3 c3) (.slice a4 n4 c4))
  have HL := Lib.hid (below_set3 HB.out (show w.heap.size ≤ w.heap.size + 1 + 1 by omega) (.bool (zneg q.num)) (.slice a3 n3 c3) (.slice a4 n4 c4))
  have HW1 := Lib.hid (R3.out.stored3 HR.out (zneg q.num) a3 n3 c3 (.slice a4 n4 c4))
  have HW2 := Lib.hid (R4.out.stored3 HR.out (zneg q.num) a3 n3 c3 (.slice a4 n4 c4))
  go_wp2
  refine bodyPost_ret (results_cell_row Tryz.results64 _ _ (w.heap.size + 1 + 1) 25 #[.bool (zneg q.num), .slice a3 n3 c3, .slice a4 n4 c4] (0, 0) _ rfl HG.out Tryz.underlying25 rfl (by kernel_rfl)) rfl ?_
  exact ⟨_, _, _, _, _, _, rfl, HW1.out, HW2.out, HL.out⟩
end Go.Proofs.YtipcgehcineblaaGreat

/-
  The contract of the document's answer for layer 8: Floor, where both signs are alike.
-/
namespace Go.Proofs.YtipcgehcineblaaGreat
open Go.RowKit

end Go.Proofs.YtipcgehcineblaaGreat

/-
  The contract of the document's answer for layer 8: Floor, where nothing is left.
-/
namespace Go.Proofs.YtipcgehcineblaaGreat
open Go.RowKit

end Go.Proofs.YtipcgehcineblaaGreat

/-
  The contract of the document's answer for layer 8: Floor, where something is left.
-/
namespace Go.Proofs.YtipcgehcineblaaGreat
open Go.RowKit

end Go.Proofs.YtipcgehcineblaaGreat

/-
  The contracts of the document's answer for layer 7: Read.
-/
namespace Go.Proofs.YtipcgehcineblaaGreat
open Go.RowKit

end Go.Proofs.YtipcgehcineblaaGreat

/-
  The contracts of the document's answer for layer 8: Read.
-/
namespace Go.Proofs.YtipcgehcineblaaGreat
open Go.RowKit

theorem results_row_tmp {P : Program} {fn : Func} {p u : Tmp} {ty : TypeId} (h : fn.results = #[.cell p ty, .tmp u]) (tmps : Array Value) (w : World) (g : Nat) (t : TypeId) (cs : Array Value) (fr : Nat × Nat) (d : TypeDesc)
    (hp : tmps.getD p undef = .pointer (some ⟨g, 0, none⟩)) (hg : w.heap[g]? = some (.cells cs t fr))
    (hu : P.underlying ty = some d) (hd : (match d with | .struct _ | .array _ _ => true | _ => false) = true) (hi : (P.info? ty).map (·.size) = some cs.size) :
    (results fn tmps).run P w = .ok (.tuple #[.agg cs, tmps.getD u undef]) w := by
  rw [results_cell_tmp h, hp]
  simp [asAddr, run_loadVar_row w g t ty cs fr d hg hu hd hi]
end Go.Proofs.YtipcgehcineblaaGreat

/-
  The contracts of the document's answer for layer 8, in whole numbers; and its quotient is the one that is rounded down.
-/
namespace Go.Proofs.YtipcgehcineblaaGreat
open Go.RowKit

theorem ref08_add_z (na : Bool) (a : Option Addr) (n cap : Nat) (la : List Nat) (x : Int) (nb : Bool) (b : Option Addr) (m cap' : Nat) (lb : List Nat) (y : Int) (w : World) (ha : Wd w a n cap la) (hb : Wd w b m cap' lb) (hn : n ≤ 104857600000) (hm : m ≤ 104857600000) (hx : zval na (val la) = x) (hy : zval nb (val lb) = y) :
    Calls Tryz.prog 87 #[whV na a n cap, whV nb b m cap'] w (LstZ (x + y) w) := by
  subst hx hy; exact ref08_add na a n cap la nb b m cap' lb w ha hb hn hm
end Go.Proofs.YtipcgehcineblaaGreat
