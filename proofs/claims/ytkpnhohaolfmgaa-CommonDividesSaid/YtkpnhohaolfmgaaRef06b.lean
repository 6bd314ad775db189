/-
  The contracts of the document's answer for layer 6: double, Gcd, One, Over, Lcm.
-/
import Derived.Test.YtkpnhohaolfmgaaRef06
namespace Go.Proofs.Ytkpnhohaolfmgaa
open Go.RowKit

set_option maxHeartbeats 1000000 in
theorem ref06_double (b off n c : Nat) (l : List Nat) (t : Nat) (w : World) (h : Wd w (some ⟨b, off, none⟩) n c l) (hn : n ≤ 1000000) (ht : t ≤ 10000000) :
    Calls Try.prog 27 #[.slice (some ⟨b, off, none⟩) n c, .int .i64 (t : Int)] w (Lst (dg (val l * 2 ^ t)) w) := by
  obtain ⟨i0, hi, hz0, hz1, hz2⟩ := info_parts infoWord
  have H := Lib.hid h
  have Hl := Lib.hid h.len
  obtain ⟨q, hq⟩ : ∃ q : Nat, (t : Int) / 32 = (q : Int) := ⟨t / 32, by omega⟩
  obtain ⟨r, hr⟩ : ∃ r : Nat, (t : Int) % 32 = (r : Int) := ⟨t % 32, by omega⟩
  have Hqr : Hid (t = 32 * q + r) := Lib.hid (by omega)
  have hr31 : r < 32 := by omega
  have hqb : q ≤ 400000 := by omega
  obtain ⟨P, HP, hP⟩ : ∃ P : Nat, Hid (P = 2 ^ r) ∧ (2 : Int) ^ r = (P : Int) := ⟨2 ^ r, rfl, by simp⟩
  have hPb : P < 4294967296 := by rw [HP.out]; exact Nat.lt_of_le_of_lt (Nat.pow_le_pow_right (by decide) (show r ≤ 31 by omega)) (by decide)
  clear h
  go_enter Try.func27, Try.ntmps27
  go_wp2_with (first
    | (at_make; refine wpList_make_words _ rfl _ _ 22 rfl w.heap.size 38 i0 (.int .u32 0) Try.underlying22 hi hz0 hz1 rfl .i64 .i64 _ _ q q rfl rfl rfl rfl (Nat.le_refl _) (by rw [hz2]; omega) (by unfold maxLen; omega) (Nat.le_refl _) ?_; intro w1 hown1 hgrow1; rw [zeros_cells] at hown1; have hB1 : Below w.heap.size w w1 := (Below.refl _ _).grown hgrow1 (Nat.le_refl _) (fun k hk => by cases hk); have H1 := Lib.hid (H.out.later hB1); clear hgrow1)
    | (at_builtin; refine wpList_append_own _ rfl _ _ 22 rfl w.heap.size 38 i0 (.int .u32 0) 1 4 Try.underlying22 hi hz0 hz1 hz2 rfl (by decide) _ q (wcells (List.replicate q 0)) rfl hown1 ⟨b, off, none⟩ n c (wcells l) rfl (by rw [wcells_length, Hl.out, Nat.mul_one]) H1.out.cells (wcells_one _) (by unfold maxLen; omega) (by omega) hB1.size ?_; intro v' w2 hown2 hgrow2 _))
  obtain ⟨a2, c2, rfl⟩ := own_slice hown2
  rw [← wcells_append] at hown2
  have HO2 := Lib.hid (Wd.own hown2 (okw_append.2 ⟨okw_zeros q, H.out.ok⟩))
  have hB2 : Below w.heap.size w w2 := hB1.grown hgrow2 hB1.size (fun k hk => (hown1.lt k hk).1)
  have Hv : Hid (val (List.replicate q 0 ++ l) * val [P] = val l * 2 ^ t) := Lib.hid (by rw [HP.out, Hqr.out]; exact double_val l q r)
  clear hown1 hown2 hgrow2 hB1 H1 hq
  go_wp2_with fail
  refine (ref04_mul _ _ _ _ _ _ _ [P] _ (HO2.out.later (below_alloc _ _)) (Wd.lit1 w2 38 (x := P) hPb) (by omega) (by omega)).mono ?_
  rintro e w3 ⟨a3, n3, c3, rfl, h3, b3⟩
  rw [Hv.out] at h3
  have H3 := Lib.hid h3
  clear h3
  go_wp2
  go_ret
  exact ⟨a3, n3, c3, rfl, H3.out, below_then hB2 (below_then (below_alloc _ _) b3)⟩
/-- Between two rounds: two odd numbers, in windows of two rows of the call's own; their common divisor stays. -/
def GcdRel (G base bound : Nat) (w0 : World) (x y : Value) (wr : World) : Prop :=
  ∃ gx ox nx cx gy oy ny cy X Y, x = .slice (some ⟨gx, ox, none⟩) nx cx ∧ y = .slice (some ⟨gy, oy, none⟩) ny cy ∧ nx ≤ cx ∧ cx ≤ 9223372036854775807 ∧ ny ≤ cy ∧ cy ≤ 9223372036854775807 ∧ nx ≤ bound ∧ ny ≤ bound ∧ gx ≠ gy ∧
    Hid (Win wr base gx ox nx (dg X)) ∧ Hid (Win wr base gy oy ny (dg Y)) ∧ Hid (X % 2 = 1 ∧ Y % 2 = 1 ∧ Nat.gcd X Y = G) ∧ Below base w0 wr
theorem win_lt {g off g' : Nat} (hne : g ≠ g') : ∀ ad : Addr, some (⟨g, off, none⟩ : Addr) = some ad → some ad.block ≠ some g' := by
  intro ad e h2
  simp only [Option.some.injEq] at e
  subst e
  exact hne (Option.some.inj h2)
set_option maxHeartbeats 8000000 in
theorem ref06_gcd (a : Option Addr) (n cap : Nat) (la : List Nat) (b : Option Addr) (m cap' : Nat) (lb : List Nat) (w : World) (ha : Wd w a n cap la) (hb : Wd w b m cap' lb) (hn : n ≤ 100000) (hm : m ≤ 100000) :
    Calls Try.prog 8 #[.slice a n cap, .slice b m cap'] w (Lst (dg (Nat.gcd (val la) (val lb))) w) := by
  have hla : (dg (val la)).length ≤ n := ha.trim_le
  have hlb : (dg (val lb)).length ≤ m := hb.trim_le
  have hta : tz (val la) ≤ 32 * n := by
    by_cases h0 : val la = 0
    · rw [h0, tz_zero]; omega
    · exact Nat.le_of_lt (tz_lt h0 (by rw [← pow32, ← ha.len]; exact val_lt ha.ok))
  have htb : tz (val lb) ≤ 32 * m := by
    by_cases h0 : val lb = 0
    · rw [h0, tz_zero]; omega
    · exact Nat.le_of_lt (tz_lt h0 (by rw [← pow32, ← hb.len]; exact val_lt hb.ok))
  have Hb := Lib.hid hb
  go_enter Try.func8, Try.ntmps8
  go_wp2_with fail
  refine (ref02_norm_own _ _ _ _ _ ha (by omega)).mono ?_
  rintro e w1 ⟨ax, nx, cx, rfl, hx, hB1⟩
  have Hx := Lib.hid hx
  have hnx : nx ≤ 100000 := by have h1 := hx.1; rw [wcells_length] at h1; omega
  have Hnx : Hid ((dg (val la)).length = nx) := Lib.hid (by have h1 := hx.1; rw [wcells_length] at h1; omega)
  have Hb1 := Lib.hid (Hb.out.later hB1)
  clear ha hb hx Hb
  go_wp2_with fail
  refine (ref02_norm_own _ _ _ _ _ Hb1.out (by omega)).mono ?_
  rintro e w2 ⟨ay, ny, cy, rfl, hy, hB2⟩
  have Hy := Lib.hid hy
  have hny : ny ≤ 100000 := by have h1 := hy.1; rw [wcells_length] at h1; omega
  have Hny : Hid ((dg (val lb)).length = ny) := Lib.hid (by have h1 := hy.1; rw [wcells_length] at h1; omega)
  have Hx2 := Lib.hid (ownsRow_later Hx.out hB2)
  have hB12 := below_then hB1 hB2
  clear hy hla hlb Hb1
  by_cases hx0 : nx = 0
  · subst hx0
    have HG : Hid (Nat.gcd (val la) (val lb) = val lb) := Lib.hid (by rw [dg_nil_iff.1 Hnx.out, Nat.gcd_zero_left])
    have HW := Lib.hid (Wd.own Hy.out (okw_dg _))
    go_wp2
    go_ret
    exact ⟨ay, ny, cy, rfl, by rw [HG.out]; exact HW.out, hB12⟩
  · have hxi : ((nx : Int) == 0) = false := by simp [hx0]
    by_cases hy0 : ny = 0
    · subst hy0
      have HG : Hid (Nat.gcd (val la) (val lb) = val la) := Lib.hid (by rw [dg_nil_iff.1 Hny.out, Nat.gcd_zero_right])
      have HW := Lib.hid (Wd.own Hx2.out (okw_dg _))
      go_wp2
      go_ret
      exact ⟨ax, nx, cx, rfl, by rw [HG.out]; exact HW.out, hB12⟩
    · have hyi : ((ny : Int) == 0) = false := by simp [hy0]
      obtain ⟨gx, rfl, hOx⟩ := own_block Hx2.out (okw_dg _) (by omega)
      obtain ⟨gy, rfl, hOy⟩ := own_block Hy.out (okw_dg _) (by omega)
      have hne : gx ≠ gy := by
        have h1 := (Hx.out.lt gx rfl).2
        have h2 := (Hy.out.lt gy rfl).1
        omega
      have hva : Hid (val la ≠ 0) := Lib.hid (fun h => hx0 (Hnx.out.symm.trans (dg_nil_iff.2 h)))
      have hvb : Hid (val lb ≠ 0) := Lib.hid (fun h => hy0 (Hny.out.symm.trans (dg_nil_iff.2 h)))
      have hcx := hOx.bound
      have hcy := hOy.bound
      have HWx := Lib.hid hOx.win
      have HWy := Lib.hid (hOy.lower (base' := w.heap.size) hB1.size).win
      have hbx := HWx.out.base
      have hby := HWy.out.base
      have Hva : Hid (val (dg (val la)) = val la) := Lib.hid (val_dg _)
      have Hvb : Hid (val (dg (val lb)) = val lb) := Lib.hid (val_dg _)
      have HLa : Hid ((dg (oddp (val la))).length ≤ 100000) := Lib.hid (Nat.le_trans (dg_length_mono (Nat.div_le_self _ _)) (by rw [Hnx.out]; exact hnx))
      have HLb : Hid ((dg (oddp (val lb))).length ≤ 100000) := Lib.hid (Nat.le_trans (dg_length_mono (Nat.div_le_self _ _)) (by rw [Hny.out]; exact hny))
      have Hodd : Hid (oddp (val la) % 2 = 1 ∧ oddp (val lb) % 2 = 1) := Lib.hid ⟨(odd_part hva.out).2, (odd_part hvb.out).2⟩
      have HG := Lib.hid (gcd_parts hva.out hvb.out)
      clear hOx hOy Hx Hy Hx2 hx0 hy0 hB1 hB2
      go_wp2_with fail
      refine (ref06_odd w.heap.size _ gx 0 nx cx _ HWx.out (by omega) (by omega) (by omega) (by rw [Hva.out]; exact hva)).mono ?_
      rintro e w3 ⟨ox, nx2, cx2, rfl, hcx1, hcx2, HX3, hG3⟩
      rw [Hva.out] at HX3 ⊢
      have hB3 := grown_below hB12 hG3 hbx.1
      have HY3 := Lib.hid (HWy.out.other hG3 (Ne.symm hne))
      clear HWx HWy hG3 hB12
      go_wp2_with fail
      refine (ref06_odd w.heap.size _ gy 0 ny cy _ HY3.out (by omega) (by omega) (by omega) (by rw [Hvb.out]; exact hvb)).mono ?_
      rintro e w4 ⟨oy, ny2, cy2, rfl, hcy1, hcy2, HY4, hG4⟩
      rw [Hvb.out] at HY4 ⊢
      have hB4 := grown_below hB3 hG4 hby.1
      have HX4 := Lib.hid (HX3.out.other hG4 hne)
      have hnx2 : nx2 ≤ 100000 := by rw [← HX4.out.len]; exact HLa.out
      have hny2 : ny2 ≤ 100000 := by rw [← HY4.out.len]; exact HLb.out
      clear HX3 HY3 hG4 hB3 HLa HLb
      obtain ⟨t, htt⟩ : ∃ t : Nat, min ((tz (val la) : Nat) : Int) ((tz (val lb) : Nat) : Int) = (t : Int) := ⟨min (tz (val la)) (tz (val lb)), by omega⟩
      have Htt : Hid (min (tz (val la)) (tz (val lb)) = t) := Lib.hid (by omega)
      have htb2 : t ≤ 3200000 := by omega
      rw [Htt.out] at HG
      generalize tz (val la) = ta at *
      generalize tz (val lb) = tb at *
      generalize oddp (val la) = X0 at *
      generalize oddp (val lb) = Y0 at *
      generalize hGG : Nat.gcd X0 Y0 = G at *
      have HGG := Lib.hid hGG
      clear hGG Htt
      go_wp2
      go_loopw [5, 6] (fun xv yv wr => GcdRel G w.heap.size 100000 w xv yv wr) (fun xv yv wr => heldVal wr xv + heldVal wr yv)
      case atStart => exact ⟨gx, ox, nx2, cx2, gy, oy, ny2, cy2, X0, Y0, rfl, rfl, hcx1, hcx2, hcy1, hcy2, hnx2, hny2, hne, HX4, HY4, Lib.hid ⟨Hodd.out.1, Hodd.out.2, HGG.out⟩, hB4⟩
      case round =>
        clear HX4 HY4 hB4 Hodd HGG hcx1 hcx2 hcy1 hcy2 hne
        obtain ⟨gx, ox, nx, cx, gy, oy, ny, cy, X, Y, rfl, rfl, hcx1, hcx2, hcy1, hcy2, hnx, hny, hne, HX, HY, HXY, hB⟩ := hrel
        have HmX := Lib.hid (HX.out.wd hcx1 hcx2).held
        have HmY := Lib.hid (HY.out.wd hcy1 hcy2).held
        rw [val_dg] at HmX HmY
        go_wp2_with fail
        refine (ref02_cmp _ _ _ _ _ _ _ _ _ (HX.out.wd hcx1 hcx2) (HY.out.wd hcy1 hcy2) (by omega) (by omega)).mono ?_
        rintro e w5 ⟨rfl, rfl⟩
        rw [val_dg, val_dg]
        rcases Nat.lt_trichotomy X Y with hlt | heq | hlt
        · have hc1 : cmpI X Y < 0 := by rw [cmpI_lt hlt]; omega
          have HL : Hid (X < Y) := Lib.hid hlt
          have hbb := HY.out.base
          have Hle : Hid (val (dg X) ≤ val (dg Y)) := Lib.hid (by rw [val_dg, val_dg]; omega)
          have hlen : nx ≤ ny := by rw [← HX.out.len, ← HY.out.len]; exact dg_length_mono (by omega)
          have Hst := Lib.hid (gcd_step hlt HXY.out.1)
          clear hlt
          generalize cmpI X Y = c at *
          go_wp2_with fail
          refine (ref05_less_win w.heap.size _ gy oy ny cy (dg Y) _ nx cx (dg X) HY.out (HX.out.wd hcx1 hcx2) (Lib.hid (win_lt hne)) (by omega) hlen Hle).mono ?_
          rintro e w6 ⟨P6, rfl, HP6, hG6, HV6⟩
          rw [val_dg, val_dg] at HV6
          have HS6 := Lib.hid (HX.out.other hG6 hne)
          have hB6 := grown_below hB hG6 hbb.1
          have Hn6 : Hid (val P6 ≠ 0) := Lib.hid (by rw [HV6.out]; have := Hle.out; rw [val_dg, val_dg] at this; have := HL.out; omega)
          clear hG6
          go_wp2_with fail
          refine (ref06_odd w.heap.size _ gy oy ny cy P6 HP6.out (by omega) (by omega) (by omega) Hn6).mono ?_
          rintro e w7 ⟨o7, n7, c7, rfl, hc71, hc72, HP7, hG7⟩
          rw [HV6.out] at HP7
          have HS7 := Lib.hid (HS6.out.other hG7 hne)
          have hB7 := Lib.hid (grown_below hB6 hG7 hbb.1)
          have hn7 : n7 ≤ 100000 := by
            rw [← HP7.out.len]
            have h1 := dg_length_mono (Nat.le_of_lt Hst.out.2.1)
            have h2 := HY.out.len
            omega
          have Hm7 := Lib.hid (HP7.out.wd hc71 hc72).held
          have Hms := Lib.hid (HS7.out.wd hcx1 hcx2).held
          rw [val_dg] at Hm7 Hms
          clear hG7 HP6 HS6 hB6 hB
          go_wp2
          go_roundw
          case rel =>
            exact ⟨gy, o7, n7, c7, gx, ox, nx, cx, oddp (Y - X), X, rfl, rfl, hc71, hc72, hcx1, hcx2, hn7, hnx, Ne.symm hne, HP7, HS7, Lib.hid ⟨Hst.out.2.2, HXY.out.1, Hst.out.1.trans ((Nat.gcd_comm _ _).trans HXY.out.2.2)⟩, hB7.out⟩
          case measure =>
            rw [Hm7.out, Hms.out, HmX.out, HmY.out]
            have := Hst.out.2.1
            omega
        · subst heq
          have HGX : Hid (val (dg X) * 2 ^ t = Nat.gcd (val la) (val lb)) := Lib.hid (by rw [val_dg, HG.out, ← HXY.out.2.2, Nat.gcd_self])
          have HW := Lib.hid (HX.out.wd hcx1 hcx2)
          rw [cmpI_eq rfl]
          clear HX HY HmX HmY HXY
          go_wp2_with fail
          refine (ref06_double gx ox nx cx (dg X) t _ HW.out (by omega) (by omega)).mono ?_
          rintro e w6 ⟨a6, n6, c6, rfl, h6, b6⟩
          rw [HGX.out] at h6
          have H6 := Lib.hid h6
          clear h6
          go_wp2
          go_ret
          exact ⟨a6, n6, c6, rfl, H6.out, below_then hB b6⟩
        · have hc1 : ¬ cmpI X Y < 0 := by rw [cmpI_gt hlt]; omega
          have hc2 : ¬ cmpI X Y = 0 := by rw [cmpI_gt hlt]; omega
          have HL : Hid (Y < X) := Lib.hid hlt
          have hbb := HX.out.base
          have Hle : Hid (val (dg Y) ≤ val (dg X)) := Lib.hid (by rw [val_dg, val_dg]; omega)
          have hlen : ny ≤ nx := by rw [← HY.out.len, ← HX.out.len]; exact dg_length_mono (by omega)
          have Hst := Lib.hid (gcd_step hlt HXY.out.2.1)
          clear hlt
          generalize cmpI X Y = c at *
          go_wp2_with fail
          refine (ref05_less_win w.heap.size _ gx ox nx cx (dg X) _ ny cy (dg Y) HX.out (HY.out.wd hcy1 hcy2) (Lib.hid (win_lt (Ne.symm hne))) (by omega) hlen Hle).mono ?_
          rintro e w6 ⟨P6, rfl, HP6, hG6, HV6⟩
          rw [val_dg, val_dg] at HV6
          have HS6 := Lib.hid (HY.out.other hG6 (Ne.symm hne))
          have hB6 := grown_below hB hG6 hbb.1
          have Hn6 : Hid (val P6 ≠ 0) := Lib.hid (by rw [HV6.out]; have := Hle.out; rw [val_dg, val_dg] at this; have := HL.out; omega)
          clear hG6
          go_wp2_with fail
          refine (ref06_odd w.heap.size _ gx ox nx cx P6 HP6.out (by omega) (by omega) (by omega) Hn6).mono ?_
          rintro e w7 ⟨o7, n7, c7, rfl, hc71, hc72, HP7, hG7⟩
          rw [HV6.out] at HP7
          have HS7 := Lib.hid (HS6.out.other hG7 (Ne.symm hne))
          have hB7 := Lib.hid (grown_below hB6 hG7 hbb.1)
          have hn7 : n7 ≤ 100000 := by
            rw [← HP7.out.len]
            have h1 := dg_length_mono (Nat.le_of_lt Hst.out.2.1)
            have h2 := HX.out.len
            omega
          have Hm7 := Lib.hid (HP7.out.wd hc71 hc72).held
          have Hms := Lib.hid (HS7.out.wd hcy1 hcy2).held
          rw [val_dg] at Hm7 Hms
          clear hG7 HP6 HS6 hB6 hB
          go_wp2
          go_roundw
          case rel =>
            exact ⟨gx, o7, n7, c7, gy, oy, ny, cy, oddp (X - Y), Y, rfl, rfl, hc71, hc72, hcy1, hcy2, hn7, hny, hne, HP7, HS7, Lib.hid ⟨Hst.out.2.2, HXY.out.2.1, Hst.out.1.trans HXY.out.2.2⟩, hB7.out⟩
          case measure =>
            rw [Hm7.out, Hms.out, HmX.out, HmY.out]
            have := Hst.out.2.1
            omega
end Go.Proofs.Ytkpnhohaolfmgaa
