/-
  Several texts of this claim as one, group 19.
-/
import Derived.Test.YtipcgehcineblaaG18
import Derived.Deep.RegionHeld3
import Derived.Deep.CutRange
import Derived.Test.YtipcgehcineblaaG12
import Derived.Test.YtipcgehcineblaaG14
import Derived.Test.YtipcgehcineblaaG16
import Derived.Test.YtipcgehcineblaaG17
import Derived.WalkKit
import Derived.ProofKit
import Derived.OpenShut
import Derived.Test.YtipcgehcineblaaG10
import Derived.Test.YtipcgehcineblaaG9
import Derived.Test.YtipcgehcineblaaG8
import Derived.Test.YtipcgehcineblaaG3
/-
  Package poly at this seat: Gcd.
-/
namespace Go.Proofs.Ytipcgehcineblaa
open Go.RowKit

/-- The state of the loop in Gcd. -/
structure GcdT (A B X Y : List Rat) (S : Nat) : Prop where
  st : GcdP A B X Y
  xi : Ints X (pw S)
  yi : Ints Y (pw S)
  xr : pnorm X = X
  yr : pnorm Y = Y
theorem pnorm_rscale {l : Rat} (hl : l ≠ 0) {R : List Rat} (h : pnorm R = R) : pnorm (rscale l R) = rscale l R := right_of_len (peq.refl _) (by rw [plen_rscale_eq hl, plen_right h, rscale_length])
/-- At the end: the common divisor. -/
theorem GcdT.over {A B X : List Rat} {S : Nat} {c : Rat} (h : GcdT A B X [] S) (h0 : 0 < X.length) (hc : c = 1 / X.getD (X.length - 1) 0) :
    isGcd A B (rscale c X) ∧ pnorm (rscale c X) = rscale c X ∧ qlen c ≤ S + 2 ∧ (∀ q ∈ rscale c X, qlen q ≤ S + 2) ∧ ∃ z : Int, z ≠ 0 ∧ z.natAbs ≤ pw (S + 2) ∧ Ints (rscale (z : Rat) (rscale c X)) (pw (S + 2)) := by
  have ht := top_nz h.xr h0
  have hcx : c * X.getD (X.length - 1) 0 = 1 := by rw [hc]; exact Rat.div_mul_cancel ht
  have hc0 : c ≠ 0 := fun e => by rw [e, Rat.zero_mul] at hcx; exact absurd hcx (by decide)
  obtain ⟨w, w1, w2⟩ := h.xi (X.length - 1)
  have hw : X.getD (X.length - 1) 0 = (w : Rat) := w1
  have w0 : w ≠ 0 := fun e => ht (by rw [hw, e]; rfl)
  rw [hw] at hcx hc
  have hmono : pw S ≤ pw (S + 2) := pw_mono (by omega)
  refine ⟨⟨(h.st.way _ (common.none X)).scale hc0, fun n hn => ?_⟩, pnorm_rscale hc0 h.xr, ?_, qlen_list fun i => ?_, w, w0, Nat.le_trans w2 hmono, fun i => ?_⟩
  · have h1 : plen (rscale c X) = X.length := by rw [plen_rscale_eq hc0, plen_right h.xr]
    have h2 : n = X.length - 1 := by omega
    rw [co_rscale, h2, w1]; exact hcx
  · rw [hc]
    exact qlen_ratio (z := 1) (t := S) (by have := pw_pos S; omega) w2
  · obtain ⟨u, u1, u2⟩ := h.xi i
    have e : c * (u : Rat) = (u : Rat) / (w : Rat) := by rw [hc, Rat.div_def, Rat.div_def]; grind
    rw [co_rscale, u1, e]
    exact qlen_ratio u2 w2
  · obtain ⟨u, u1, u2⟩ := h.xi i
    refine ⟨u, ?_, Nat.le_trans u2 hmono⟩
    rw [co_rscale, co_rscale, u1]
    have e : (w : Rat) * (c * (u : Rat)) = (c * (w : Rat)) * (u : Rat) := by grind
    rw [e, hcx, Rat.one_mul]
theorem GcdT.none {A B : List Rat} {S : Nat} (h : GcdT A B [] [] S) : isGcd A B [] := ⟨h.st.way _ (common.none _), fun n hn => by rw [plen_nil] at hn; omega⟩
/-- What the first two are. -/
theorem GcdT.start {A B X Y : List Rat} {g s S : Nat} {c d : Rat} (hg : 0 < g) (hA : Ints (rscale ((g : Nat) : Rat) A) (pw s)) (hB : Ints (rscale ((g : Nat) : Rat) B) (pw s)) (hS : s ≤ S) (hc : c ≠ 0) (hd : d ≠ 0) (hX : X = rscale c (pnorm A)) (hY : Y = rscale d (pnorm B)) (pX : plen A ≠ 0 → Prim X) (pY : plen B ≠ 0 → Prim Y) : GcdT A B X Y S := by
  have hg0 : ((g : Nat) : Rat) ≠ 0 := fun e => by have h9 : g = 0 := Rat.natCast_inj.1 (e.trans rfl); omega
  have hZ : ∀ {C Z : List Rat} {l : Rat}, Ints (rscale ((g : Nat) : Rat) C) (pw s) → l ≠ 0 → Z = rscale l (pnorm C) → (plen C ≠ 0 → Prim Z) → Ints Z (pw S) := fun {C Z l} hC hl hZ pZ => by
    by_cases h0 : plen C = 0
    · intro i
      refine ⟨0, ?_, Nat.zero_le _⟩
      rw [hZ, co_rscale, pnorm_co, plen_zero.1 h0 i]; grind
    · exact ((pZ h0).small (by rw [hZ]; exact rscale_congr l (pnorm_co C)) hl hg0 hC).mono (pw_mono hS)
  exact ⟨GcdP.start hc hd (by rw [hX]; exact rscale_congr c (pnorm_co A)) (by rw [hY]; exact rscale_congr d (pnorm_co B)), hZ hA hc hX pX, hZ hB hd hY pY, by rw [hX]; exact pnorm_rscale hc (pnorm_pnorm A), by rw [hY]; exact pnorm_rscale hd (pnorm_pnorm B)⟩
/-- One round. -/
theorem GcdT.step {A B X Y Z q r : List Rat} {g s S : Nat} {f l : Rat} (h : GcdT A B X Y S) (hg : 0 < g) (hA : Ints (rscale ((g : Nat) : Rat) A) (pw s)) (hB : Ints (rscale ((g : Nat) : Rat) B) (pw s)) (hS : (s + 1) * (plen A + plen B + 1) = S) (hn : 2 * (plen A + plen B) + 1 ≤ 4294967296)
    (hf : f ≠ 0) (hd : isDiv (rscale f X) Y q r) (hr : pnorm r = r) (hl : l ≠ 0) (hZ : Z = rscale l r) (pZ : plen r ≠ 0 → Prim Z) : GcdT A B Y Z S := by
  have hg0 : ((g : Nat) : Rat) ≠ 0 := fun e => by have h9 : g = 0 := Rat.natCast_inj.1 (e.trans rfl); omega
  have hst := h.st.step hf hl hd (by rw [hZ]; exact peq.refl _ : peq Z (rscale l r))
  refine ⟨hst, h.yi, ?_, h.yr, by rw [hZ]; exact pnorm_rscale hl hr⟩
  by_cases h0 : plen r = 0
  · intro i
    refine ⟨0, ?_, Nat.zero_le _⟩
    rw [hZ, co_rscale, plen_zero.1 h0 i]; grind
  · obtain ⟨k, hk, hI⟩ := hst.small hg0 hA hB hn
    rw [hS] at hI
    exact (pZ h0).small (c := 1) (fun i => by rw [co_rscale, Rat.one_mul]) (by decide) hk hI
theorem GcdT.rest {A B X Y q r : List Rat} {g s S T : Nat} {f : Rat} (h : GcdT A B X Y S) (hg : 0 < g) (hA : Ints (rscale ((g : Nat) : Rat) A) (pw s)) (hB : Ints (rscale ((g : Nat) : Rat) B) (pw s)) (hS : (s + 1) * (plen A + plen B + 1) = S) (hn : 2 * (plen A + plen B) + 1 ≤ 4294967296)
    (hf : f ≠ 0) (hd : isDiv (rscale f X) Y q r) (hr : pnorm r = r) (hq : ∀ x ∈ r, qlen x ≤ T) (hT : 1 ≤ T) : ∃ k : Rat, k ≠ 0 ∧ Ints (rscale k r) (pw S) ∧ qlen (1 / k) ≤ T + S + 3 := by
  have hg0 : ((g : Nat) : Rat) ≠ 0 := fun e => by have h9 : g = 0 := Rat.natCast_inj.1 (e.trans rfl); omega
  have hst := h.st.step (r' := r) hf (e := 1) (by decide) hd (fun i => by rw [co_rscale, Rat.one_mul])
  obtain ⟨k, hk, hI⟩ := hst.small hg0 hA hB hn
  rw [hS] at hI
  by_cases h0 : r.length = 0
  · have hr0 : r = [] := List.eq_nil_of_length_eq_zero h0
    refine ⟨1, by decide, fun i => ⟨0, by rw [co_rscale, hr0, co_nil, Rat.mul_zero]; rfl, Nat.zero_le _⟩, ?_⟩
    have h1 : qlen (1 / 1) ≤ 2 := by
      rw [self_div (by decide)]
      exact qlen_int (z := 1) (by decide)
    omega
  · exact ⟨k, hk, hI, back_len (top_nz hr (by omega)) hk hI (qlen_co hT hq _)⟩
set_option maxRecDepth 4096 in
set_option maxHeartbeats 8000000 in
theorem poly_gcd_by (a : Option Addr) (n c : Nat) (L : List Fx) (b : Option Addr) (m d : Nat) (M : List Fx) (g s S h9 : Nat) (w : World) (h : Fxs w a n c L) (k : Fxs w b m d M) (hn : n ≤ h9) (hm : m ≤ h9) (hh : h9 ≤ 300) (ht : thin 1900000000 L) (hu : thin 1900000000 M) (hg : 0 < g) (hgs : g ≤ pw s)
    (hA : Ints (rscale ((g : Nat) : Rat) (fqs L)) (pw s)) (hB : Ints (rscale ((g : Nat) : Rat) (fqs M)) (pw s)) (hS : (s + 1) * (plen (fqs L) + plen (fqs M) + 1) = S) (hb : (2 * h9 + 20) * (S + 3) ≤ 1900000000) : Calls Try.prog 18 #[.slice a n c, .slice b m d] w (LstGcdI (fqs L) (fqs M) (S + 2) w) := by
  have hbd := h.bound
  have hbd2 := k.bound
  have hk1 := plen_fqs_le h
  have hk2 := plen_fqs_le k
  have hsS : s ≤ S := by rw [← hS, Nat.mul_add]; omega
  have hbb : (2 * h9 + 20) * (S + 3) = (2 * h9 + 8) * (S + 3) + 12 * (S + 3) := by rw [← Nat.add_mul]
  have hnn : 2 * (plen (fqs L) + plen (fqs M)) + 1 ≤ 4294967296 := by omega
  have hg0 : ((g : Nat) : Rat) ≠ 0 := fun e => by have h9 : g = 0 := Rat.natCast_inj.1 (e.trans rfl); omega
  have hgl : qlen (1 / ((g : Nat) : Rat)) ≤ s + 2 := qlen_nat_ratio (z := 1) (t := s) (by have := pw_pos s; omega) hgs
  have HP1 : ∀ w' : World, Below w.heap.size w w' → Calls Try.prog 38 #[.slice a n c] w' (fun e w'' => ∃ (a' : Option Addr) (n' c' : Nat) (Y : List Rat), e = .returned (.slice a' n' c') ∧ Rw w'' a' n' c' Y ∧ Y.length = plen (fqs L) ∧ (∃ l : Rat, l ≠ 0 ∧ Y = rscale l (pnorm (fqs L))) ∧ (plen (fqs L) ≠ 0 → Prim Y) ∧ Below w'.heap.size w' w'') := fun w' hb => poly_plain a n c L _ s w' (h.later hb) (by omega) (ht.mono (by decide)) hg0 (hA.congr (rscale_congr _ (pnorm_co _).symm)) (by omega)
  have HP2 : ∀ w' : World, Below w.heap.size w w' → Calls Try.prog 38 #[.slice b m d] w' (fun e w'' => ∃ (a' : Option Addr) (n' c' : Nat) (Y : List Rat), e = .returned (.slice a' n' c') ∧ Rw w'' a' n' c' Y ∧ Y.length = plen (fqs M) ∧ (∃ l : Rat, l ≠ 0 ∧ Y = rscale l (pnorm (fqs M))) ∧ (plen (fqs M) ≠ 0 → Prim Y) ∧ Below w'.heap.size w' w'') := fun w' hb => poly_plain b m d M _ s w' (k.later hb) (by omega) (hu.mono (by decide)) hg0 (hB.congr (rscale_congr _ (pnorm_co _).symm)) (by omega)
  have hl1 : plen (fqs L) ≤ h9 := by omega
  have hl2 : plen (fqs M) ≤ h9 := by omega
  have HG := Lib.hid (show 0 < g ∧ Ints (rscale ((g : Nat) : Rat) (fqs L)) (pw s) ∧ Ints (rscale ((g : Nat) : Rat) (fqs M)) (pw s) ∧ (s + 1) * (plen (fqs L) + plen (fqs M) + 1) = S ∧ s ≤ S ∧ 2 * (plen (fqs L) + plen (fqs M)) + 1 ≤ 4294967296 from ⟨hg, hA, hB, hS, hsS, hnn⟩)
  have HL1 := Lib.hid hl1
  have HL2 := Lib.hid hl2
  clear h k ht hu hg hgs hA hB hS hgl hg0 hnn hk1 hk2 hl1 hl2
  generalize fqs L = A at *
  generalize fqs M = B at *
  obtain ⟨T9, hT9⟩ : ∃ T9, (2 * h9 + 8) * (S + 3) = T9 := ⟨_, rfl⟩
  have hTS : T9 + 12 * (S + 3) ≤ 1900000000 := by rw [hT9] at hbb; omega
  have hT1 : 1 ≤ T9 := by rw [← hT9]; exact Nat.mul_pos (by omega) (by omega)
  have HT9 : Hid ((2 * h9 + 8) * (S + 3) = T9) := Lib.hid hT9
  have HRE : ∀ (w' : World) (a1 : Option Addr) (n1 c1 : Nat) (X : List Rat) (a2 : Option Addr) (n2 c2 : Nat) (Y : List Rat), n1 ≤ h9 → n2 ≤ h9 → Rw w' a1 n1 c1 X → Rw w' a2 n2 c2 Y → GcdT A B X Y S → 0 < Y.length → Calls Try.prog 39 #[.slice a1 n1 c1, .slice a2 n2 c2] w' (fun e w'' => ∃ (a' : Option Addr) (n' c' : Nat) (f : Rat) (q r : List Rat), e = .returned (.slice a' n' c') ∧ Rw w'' a' n' c' r ∧ f ≠ 0 ∧ isDiv (rscale f X) Y q r ∧ pnorm r = r ∧ (∀ x ∈ r, qlen x ≤ T9) ∧ Below w'.heap.size w' w'') := fun w' a1 n1 c1 X a2 n2 c2 Y k1 k2 k3 k4 k5 k6 => by
    have h8 := poly_rest a1 n1 c1 X a2 n2 c2 Y S h9 w' k3 k4 k1 k2 hh k5.yr k6 k5.xi k5.yi (by rw [HT9.out]; omega)
    rwa [HT9.out] at h8
  have HPL : ∀ (w' : World) (a1 : Option Addr) (n1 c1 : Nat) (r : List Rat) (k : Rat), n1 ≤ 300 → Rw w' a1 n1 c1 r → pnorm r = r → (∀ x ∈ r, qlen x ≤ T9) → k ≠ 0 → Ints (rscale k r) (pw S) → qlen (1 / k) ≤ T9 + S + 3 → Calls Try.prog 38 #[.slice a1 n1 c1] w' (fun e w'' => ∃ (a' : Option Addr) (n' c' : Nat) (Y : List Rat), e = .returned (.slice a' n' c') ∧ Rw w'' a' n' c' Y ∧ Y.length = plen r ∧ (∃ l : Rat, l ≠ 0 ∧ Y = rscale l r) ∧ (plen r ≠ 0 → Prim Y) ∧ Below w'.heap.size w' w'') := fun w' a1 n1 c1 r k k1 k2 k3 k4 k5 k6 k7 => by
    obtain ⟨L1, l1, l2, l3⟩ := k2.thin k4
    have h8 := poly_plain a1 n1 c1 L1 k S w' l1 k1 (l3.mono (by omega)) k5 (by rw [l2, k3]; exact k6) (by omega)
    rwa [l2, k3] at h8
  have HB0 := Lib.hid (Below.refl w.heap.size w)
  clear hbb hb
  go_enter Try.func18, Try.ntmps18
  go_wp2_with fail
  refine (HP1 _ HB0.out).mono ?_
  rintro ed w1 ⟨a1, n1, c1, X0, rfl, h1, x1, ⟨l1, x2, x3⟩, x4, bw⟩
  replace HB0 := Lib.hid (below_then HB0.out bw)
  have R1 := Lib.hid h1
  have hn1 : n1 ≤ h9 := by rw [← h1.len, x1]; exact HL1.out
  clear bw h1 HP1
  go_wp2_with fail
  refine (HP2 _ HB0.out).mono ?_
  rintro ed w2 ⟨a2, n2, c2, Y0, rfl, h2, y1, ⟨l2, y2, y3⟩, y4, bw⟩
  replace HB0 := Lib.hid (below_then HB0.out bw)
  replace R1 := Lib.hid (R1.out.later bw)
  have R2 := Lib.hid h2
  have hn2 : n2 ≤ h9 := by rw [← h2.len, y1]; exact HL2.out
  have ST := Lib.hid (GcdT.start (A := A) (B := B) HG.out.1 HG.out.2.1 HG.out.2.2.1 HG.out.2.2.2.2.1 x2 y2 x3 y3 x4 y4)
  clear bw h2 HP2 x1 x2 x3 x4 y1 y2 y3 y4 HL1 HL2
  go_wp2
  go_loopw [0, 1] (fun av bv wr => ∃ (a1 : Option Addr) (n1 c1 : Nat) (X : List Rat) (a2 : Option Addr) (n2 c2 : Nat) (Y : List Rat), av = .slice a1 n1 c1 ∧ bv = .slice a2 n2 c2 ∧ n1 ≤ h9 ∧ n2 ≤ h9 ∧ Hid (Rw wr a1 n1 c1 X) ∧ Hid (Rw wr a2 n2 c2 Y) ∧ Hid (GcdT A B X Y S) ∧ Hid (Below w.heap.size w wr)) (fun _ bv _ => lenOf bv)
  case atStart => exact ⟨a1, n1, c1, X0, a2, n2, c2, Y0, rfl, rfl, hn1, hn2, R1, R2, ST, HB0⟩
  case round =>
    clear R1 R2 ST HB0 hn1 hn2
    obtain ⟨a1, n1, c1, X, a2, n2, c2, Y, rfl, rfl, hn1, hn2, R1, R2, ST, HB⟩ := hrel
    have hbd3 := R1.out.bound
    have hbd4 := R2.out.bound
    by_cases hlt : 0 < n2
    · have hlti : (0 : Int) < (n2 : Int) := by omega
      have HY2 : Hid (Y.length = n2) := Lib.hid R2.out.len
      have HC1 := Lib.hid (HRE wr a1 n1 c1 X a2 n2 c2 Y hn1 hn2 R1.out R2.out ST.out (by rw [HY2.out]; exact hlt))
      clear HRE R1
      go_wp2_with fail
      refine HC1.out.mono ?_
      rintro ed w3 ⟨a3, n3, c3, f, q, r, rfl, h3, g1, g2, g3, g4, bw⟩
      replace HB := Lib.hid (below_then HB.out bw)
      replace R2 := Lib.hid (R2.out.later bw)
      obtain ⟨kk, k1, k2, k3⟩ := ST.out.rest HG.out.1 HG.out.2.1 HG.out.2.2.1 HG.out.2.2.2.1 HG.out.2.2.2.2.2 g1 g2 g3 g4 (by omega)
      have hn3 : n3 < n2 := by
        have h8 := g2.2
        rw [plen_right g3, plen_right ST.out.yr, h3.len, HY2.out] at h8
        exact h8
      have hr3 : plen r = n3 := by rw [plen_right g3, h3.len]
      have HC2 := Lib.hid (HPL w3 a3 n3 c3 r kk (by omega) h3 g3 g4 k1 k2 k3)
      have G := Lib.hid (show f ≠ 0 ∧ isDiv (rscale f X) Y q r ∧ pnorm r = r from ⟨g1, g2, g3⟩)
      have HR3 := Lib.hid hr3
      clear bw h3 g1 g2 g3 g4 k1 k2 k3 HC1 HPL hr3
      go_wp2_with fail
      refine HC2.out.mono ?_
      rintro ed w4 ⟨a4, n4, c4, Z, rfl, h4, z1, ⟨l, z2, z3⟩, z4, bw⟩
      replace HB := Lib.hid (below_then HB.out bw)
      replace R2 := Lib.hid (R2.out.later bw)
      have R4 := Lib.hid h4
      have hn4 : n4 < n2 := by rw [← h4.len, z1, HR3.out]; exact hn3
      have ST2 := Lib.hid (ST.out.step HG.out.1 HG.out.2.1 HG.out.2.2.1 HG.out.2.2.2.1 HG.out.2.2.2.2.2 G.out.1 G.out.2.1 G.out.2.2 z2 z3 z4)
      clear bw h4 z1 z2 z3 z4 HC2 ST G
      go_wp2
      go_roundw
      case rel => exact ⟨a2, n2, c2, Y, a4, n4, c4, Z, rfl, rfl, hn2, by omega, R2, R4, ST2, HB⟩
      case measure => simp [lenOf]; omega
    · obtain rfl : n2 = 0 := by omega
      have hYe : Y = [] := List.eq_nil_of_length_eq_zero R2.out.len
      subst hYe
      by_cases hz : n1 = 0
      · subst hz
        have hXe : X = [] := List.eq_nil_of_length_eq_zero R1.out.len
        subst hXe
        have HE := Lib.hid ST.out.none
        clear ST R1 R2 HRE HPL HG
        go_wp2
        go_ret
        exact ⟨none, 0, 0, [], rfl, Rw.nil _, HE.out, rfl, fun x hx => by simp at hx, ⟨1, by decide, by have := pw_pos (S + 2); omega, fun i => ⟨0, rfl, Nat.zero_le _⟩⟩, HB.out⟩
      · obtain ⟨e, rfl⟩ : ∃ e, n1 = e + 1 := ⟨n1 - 1, by omega⟩
        have hXl : X.length = e + 1 := R1.out.len
        obtain ⟨per, hper⟩ : ∃ p, 1 / X.getD (X.length - 1) 0 = p := ⟨_, rfl⟩
        obtain ⟨o1, o2, o3, o4, o5⟩ := ST.out.over (by omega) hper.symm
        have htop := top_nz ST.out.xr (by omega)
        rw [hXl, show e + 1 - 1 = e by omega] at hper htop
        have hXq := ints_len ST.out.xi
        have htl := hXq _ (q_mem (L := X) (k := e) (by omega))
        obtain ⟨bt, offt, hbt, at_, nt, ct, bu, mu, du, ht9, htA, htD⟩ := R1.out.at (j := e) (by omega)
        subst hbt
        obtain ⟨tp, htp⟩ : ∃ t, X.getD e 0 = t := ⟨_, rfl⟩
        rw [htp] at hper htop htl ht9 htA htD
        have lnt : nt ≤ 2000000000 := by rw [← htA.len]; exact Nat.le_trans (qlen_num _) (by omega)
        have lmt : mu ≤ 2000000000 := by rw [← htD.len]; exact Nat.le_trans (qlen_den _) (by omega)
        obtain ⟨z1, hz9⟩ : ∃ z : Rat, ((1 : Int) : Rat) = z := ⟨_, rfl⟩
        have HO1 : ∀ w' : World, Calls Try.prog 21 #[.int .i64 1] w' (LstQ z1 w') := fun w' => hz9 ▸ frac_of 1 w' (by decide)
        have HZL : Hid (qlen z1 ≤ 2) := Lib.hid (hz9 ▸ qlen_int (by decide))
        have HZ1 : Hid (z1 = 1) := Lib.hid (by rw [← hz9]; rfl)
        have HQ1 : ∀ (w' : World) (a4 : Option Addr) (n4 c4 : Nat) (b4 : Option Addr) (m4 d4 : Nat), Wd w' a4 n4 c4 (dg z1.num.natAbs) → Wd w' b4 m4 d4 (dg z1.den) → Below wr.heap.size wr w' → Calls Try.prog 40 #[.agg #[.bool (zneg z1.num), .slice a4 n4 c4, .slice b4 m4 d4], .agg #[.bool (zneg tp.num), .slice at_ nt ct, .slice bu mu du]] w' (LstQV per (.bool true) w') := fun w' a4 n4 c4 b4 m4 d4 k1 k2 k3 => by
          have h8 := fracSaid.quo (frV (zneg z1.num) a4 n4 c4 b4 m4 d4) (frV (zneg tp.num) at_ nt ct bu mu du) z1 tp w' (Fr.right k1 k2 (by rw [← k1.len]; exact Nat.le_trans (qlen_num _) (Nat.le_trans HZL.out (by decide))) (by rw [← k2.len]; exact Nat.le_trans (qlen_den _) (Nat.le_trans HZL.out (by decide)))) (Fr.right (htA.later k3) (htD.later k3) (by omega) (by omega))
          rw [decide_eq_true htop, HZ1.out, hper] at h8
          rw [HZ1.out]
          exact h8
        have HSC : ∀ (w' : World) (v : Value), Fr w' v per 2097152000 → Rw w' (some ⟨bt, offt, none⟩) (e + 1) c1 X → Calls Try.prog 41 #[v, .slice (some ⟨bt, offt, none⟩) (e + 1) c1] w' (LstRw (rscale per X) w') := fun w' v k1 k2 => by
          obtain ⟨L1, l1, l2, l3⟩ := k2.thin hXq
          have h8 := row_scale v per _ (e + 1) c1 L1 w' k1 l1 (by omega) (l3.mono (by omega))
          rwa [l2] at h8
        have SU := Lib.hid ht9
        have HPL9 : Hid (qlen per ≤ 1900000000) := Lib.hid (by omega)
        have HOV := Lib.hid (show isGcd A B (rscale per X) ∧ pnorm (rscale per X) = rscale per X ∧ (∀ q ∈ rscale per X, qlen q ≤ S + 2) ∧ ∃ z : Int, z ≠ 0 ∧ z.natAbs ≤ pw (S + 2) ∧ Ints (rscale (z : Rat) (rscale per X)) (pw (S + 2)) from ⟨o1, o2, o4, o5⟩)
        have hz0 : ((e : Int) + 1 == 0) = false := by simp; omega
        have hzz : ((e + 1 : Nat) : Int) - 1 = (e : Int) := by omega
        have hze : (e : Int) < (e : Int) + 1 := by omega
        have hz1 : (0 : Int) ≤ (e : Int) := by omega
        have hwe : IntKind.i64.wrap (e : Int) = (e : Int) := by rw [IntKind.wrap_i64]; omega
        clear o1 o2 o3 o4 o5 htop hper htp ht9 hXq htl hXl hz9 ST R2 HRE HPL HG hz
        go_upto_region 6 with fail
        go_cut [5, 6] from 22 to 32 (fun cv ov wx => ∃ (g : Nat) (a5 : Option Addr) (n5 c5 : Nat) (b5 : Option Addr) (m5 d5 : Nat), cv = .pointer (some ⟨g, 0, none⟩) ∧ ov = .bool true ∧ Hid (wx.heap[g]? = some (.cells #[.bool (zneg per.num), .slice a5 n5 c5, .slice b5 m5 d5] 34 (0, 0))) ∧ Hid (Wd wx a5 n5 c5 (dg per.num.natAbs)) ∧ Hid (Wd wx b5 m5 d5 (dg per.den)) ∧ Hid (Below wr.heap.size wr wx))
        case first =>
          obtain ⟨s0, s1, s2⟩ := three_on SU.out (Below.refl wr.heap.size wr)
          go_wp2
          clear s0 s1 s2
          have G1 : Below wr.heap.size wr wr.drew := (Below.refl _ _).drew
          have G2 : ∀ o, Below wr.heap.size wr (wr.alloc o).drew := fun o => (below_alloc wr o).drew
          have qS := three_on SU.out G1
          have qA := fun o => three_on SU.out (G2 o)
          go_region_held3 (fun w' => w'.cell? ⟨bt, offt + e * 3, none⟩ = some (.bool (zneg tp.num)) ∧ w'.cell? ⟨bt, offt + e * 3 + 1, none⟩ = some (.slice at_ nt ct) ∧ w'.cell? ⟨bt, offt + e * 3 + 2, none⟩ = some (.slice bu mu du)) (first | with_reducible exact qS | with_reducible exact qA _ | with_reducible exact qC)
            (first
            | (go_at_call 21; refine (HO1 _).mono ?_; rintro ed w4 ⟨a4, n4, c4, b4, m4, d4, rfl, h4, g4, bw⟩; unfold frV; (first
              | (have bw1 : Below wr.drew.heap.size wr.drew w4 := (by with_reducible exact bw); have BB := Lib.hid (below_then G1 bw1); have A4 := Lib.hid h4; have D4 := Lib.hid g4; have M1 := True.intro; clear h4 g4 bw bw1 qS qA; have qS := three_on SU.out BB.out; have qA := fun o => three_on SU.out (below_then BB.out (below_alloc w4 o)))
              | (have bw1 : Below (wr.alloc (.cells #[.bool false, .slice none 0 0, .slice none 0 0] 34)).drew.heap.size (wr.alloc (.cells #[.bool false, .slice none 0 0, .slice none 0 0] 34)).drew w4 := (by with_reducible exact bw); have BB := Lib.hid (below_then (G2 _) bw1); have Z4 := Lib.hid (blk_later (w := (wr.alloc (.cells #[.bool false, .slice none 0 0, .slice none 0 0] 34)).drew) (blk_new wr #[.bool false, .slice none 0 0, .slice none 0 0] 34) bw1); have A4 := Lib.hid h4; have D4 := Lib.hid g4; clear h4 g4 bw bw1 qS qA; have qS := three_on SU.out BB.out; have qA := fun o => three_on SU.out (below_then BB.out (below_alloc w4 o)))))
            | (go_at_call 40; (first
              | (have Y4 := Z4; (with_reducible refine (HQ1 w4 _ _ _ _ _ _ A4.out D4.out BB.out).mono ?_); rintro ed w5 ⟨a5, n5, c5, b5, m5, d5, rfl, h5, g5, bw⟩; have BC := Lib.hid (below_then BB.out bw); have Z5 := Lib.hid (blk_later Z4.out bw); have hzb : wr.heap.size ≤ wr.heap.size := Nat.le_refl _; have A5 := Lib.hid h5; have D5 := Lib.hid g5; clear h5 g5 bw Y4 qS qA; unfold frV; obtain ⟨z0, z1, z2⟩ := fcells_3 Z5.out; have f0 := blk_free Z5.out 0; have f1 := blk_free Z5.out 1; have f2 := blk_free Z5.out 2; have qS := three_on SU.out BC.out; have qA := fun o => three_on SU.out (below_then BC.out (below_alloc w5 o)); have qC := three_on SU.out (below_set3 BC.out hzb (.bool (zneg per.num)) (.slice a5 n5 c5) (.slice b5 m5 d5)))
              | ((with_reducible refine (HQ1 w4 _ _ _ _ _ _ A4.out D4.out BB.out).mono ?_); rintro ed w5 ⟨a5, n5, c5, b5, m5, d5, rfl, h5, g5, bw⟩; have BC := Lib.hid (below_then BB.out bw); have A5 := Lib.hid h5; have D5 := Lib.hid g5; clear h5 g5 bw qS qA; unfold frV; have qS := three_on SU.out BC.out; have qA := fun o => three_on SU.out (below_then BC.out (below_alloc w5 o)))
              | (have ba := below_alloc w4 (.cells #[.bool false, .slice none 0 0, .slice none 0 0] 34); (with_reducible refine (HQ1 (w4.alloc (.cells #[.bool false, .slice none 0 0, .slice none 0 0] 34)) _ _ _ _ _ _ (A4.out.later ba) (D4.out.later ba) (below_then BB.out ba)).mono ?_); rintro ed w5 ⟨a5, n5, c5, b5, m5, d5, rfl, h5, g5, bw⟩; have BC := Lib.hid (below_then (below_then BB.out ba) bw); have Z5 := Lib.hid (blk_later (blk_new w4 #[.bool false, .slice none 0 0, .slice none 0 0] 34) bw); have hzb : wr.heap.size ≤ w4.heap.size := BB.out.size; have A5 := Lib.hid h5; have D5 := Lib.hid g5; clear h5 g5 bw ba qS qA; unfold frV; obtain ⟨z0, z1, z2⟩ := fcells_3 Z5.out; have f0 := blk_free Z5.out 0; have f1 := blk_free Z5.out 1; have f2 := blk_free Z5.out 2; have qS := three_on SU.out BC.out; have qA := fun o => three_on SU.out (below_then BC.out (below_alloc w5 o)); have qC := three_on SU.out (below_set3 BC.out hzb (.bool (zneg per.num)) (.slice a5 n5 c5) (.slice b5 m5 d5))))))
          all_goals (
            go_wp2
            go_meet
            (first
              | exact ⟨_, a5, n5, c5, b5, m5, d5, rfl, rfl, Lib.hid (blk_set3 Z5.out (.bool (zneg per.num)) (.slice a5 n5 c5) (.slice b5 m5 d5)), Lib.hid (A5.out.stored3 Z5.out (zneg per.num) a5 n5 c5 (.slice b5 m5 d5)), Lib.hid (D5.out.stored3 Z5.out (zneg per.num) a5 n5 c5 (.slice b5 m5 d5)), Lib.hid (below_set3 BC.out hzb (.bool (zneg per.num)) (.slice a5 n5 c5) (.slice b5 m5 d5))⟩
              | exact ⟨w5.heap.size, a5, n5, c5, b5, m5, d5, rfl, rfl, Lib.hid (blk_new w5 _ 34), Lib.hid (A5.out.later (below_alloc w5 _)), Lib.hid (D5.out.later (below_alloc w5 _)), Lib.hid (below_then BC.out (below_alloc w5 _))⟩))
        case rest =>
          obtain ⟨g9, a9, n9, c9, b9, m9, d9, rfl, rfl, PB, PA, PD, HBc⟩ := hcut
          have HB9 := Lib.hid (below_then HB.out HBc.out)
          obtain ⟨x0, x1, x2⟩ := fcells_3 PB.out
          have HC3 := Lib.hid (HSC wc (frV (zneg per.num) a9 n9 c9 b9 m9 d9) (Fr.right PA.out PD.out (by rw [← PA.out.len]; exact Nat.le_trans (qlen_num _) (Nat.le_trans HPL9.out (by decide))) (by rw [← PD.out.len]; exact Nat.le_trans (qlen_den _) (Nat.le_trans HPL9.out (by decide)))) (R1.out.later HBc.out))
          unfold frV at HC3
          clear PA PD HSC HBc HB SU HQ1 R1
          go_wp2_with fail
          refine HC3.out.mono ?_
          rintro ed w7 ⟨a7, n7, c7, rfl, h7, bw⟩
          have R7 := Lib.hid h7
          have HB7 := Lib.hid (below_then HB9.out bw)
          clear bw h7 HC3 x0 x1 x2
          go_wp2
          go_ret
          exact ⟨a7, n7, c7, rscale per X, rfl, R7.out, HOV.out.1, HOV.out.2.1, HOV.out.2.2.1, HOV.out.2.2.2, HB7.out⟩
end Go.Proofs.Ytipcgehcineblaa

/-
  What package poly's functions owe, proved.
-/
namespace Go.Proofs.Ytipcgehcineblaa
open Go.RowKit

theorem ints_times {a : List Rat} {H c d : Nat} (h : Ints (rscale ((c : Nat) : Rat) a) H) : Ints (rscale ((d * c : Nat) : Rat) a) (d * H) := fun i => by
  obtain ⟨z, h1, h2⟩ := h i
  refine ⟨(d : Int) * z, ?_, ?_⟩
  · rw [co_rscale] at h1 ⊢
    rw [Rat.intCast_mul, Rat.intCast_natCast, ← h1, Rat.natCast_mul, Rat.mul_assoc]
  · rw [Int.natAbs_mul, Int.natAbs_natCast]
    exact Nat.mul_le_mul_left _ h2
theorem poly_div_yes (a : Option Addr) (n c : Nat) (L : List Fx) (b : Option Addr) (m d : Nat) (M : List Fx) (N K : Nat) (w : World) (h : Fxs w a n c L) (k : Fxs w b m d M) (hn : n ≤ 60) (hm : m ≤ 60) (ht : thin N L) (hu : thin K M) (hb : 2 ^ (n + 1) * (N + K + K + 12) ≤ 1900000000) (h0 : Hid (plen (fqs M) ≠ 0)) : Calls Try.prog 20 #[.slice a n c, .slice b m d] w (LstDiv (fqs L) (fqs M) (2 ^ (n + 1) * (N + K + K + 12)) w) := by
  have h1 : N + K + K + 12 ≤ 2 ^ (n + 1) * (N + K + K + 12) := Nat.le_mul_of_pos_left _ (Nat.pow_pos (by decide))
  have hLq := ht.qs h.oks
  have hMq := hu.qs k.oks
  have hB : pnorm (pnorm (fqs M)) = pnorm (fqs M) := pnorm_pnorm _
  have hBl : 0 < (pnorm (fqs M)).length := Nat.pos_of_ne_zero h0.out
  have hKq : ∀ q ∈ pnorm (fqs M), qlen q ≤ K + 1 := fun q hq => hMq q (pnorm_mem hq)
  have hpow : 2 ^ (n + 1 - (pnorm (fqs M)).length) * (N + 1 + (K + 1 + (K + 1) + 6)) ≤ 2 ^ (n + 1) * (N + K + K + 12) := Nat.mul_le_mul (Nat.pow_le_pow_right (by decide) (Nat.sub_le _ _)) (by omega)
  have hW := DivWay.old (A := fqs L) (n := n) (N := N + 1) (K := K + 1) hB hBl hKq (by rw [fqs_length, h.len]; exact Nat.le_refl _) hLq rfl hpow
  refine (poly_div_by a n c L b m d M _ _ _ w h k (by omega) (by omega) (ht.mono (by omega)) (hu.mono (by omega)) hKq h0.out hW (by omega) (by omega)).mono fun e w' h9 => ?_
  obtain ⟨a1, n1, c1, q, a2, n2, c2, r, g1, g2, g3, g4, g5, g6, ⟨Q, g7, g8⟩, g9⟩ := h9
  have hr := hW.room g8
  refine ⟨a1, n1, c1, q, a2, n2, c2, r, g1, g2, g3, g4.of (peq.refl _) (pnorm_co _) (peq.refl _) (peq.refl _), g5, g6, qlen_list fun i => ?_, hr.1, g9⟩
  rw [g7 i]
  exact qlen_co (by omega) hr.2 i
theorem poly_div_more (a : Option Addr) (n c : Nat) (L : List Fx) (b : Option Addr) (m d : Nat) (M : List Fx) (k9 l9 : Rat) (P Z : List Rat) (S T : Nat) (w : World) (h : Fxs w a n c L) (k : Fxs w b m d M) (hn : n ≤ 60) (hm : m ≤ 60) (ht : thin 1900000000 L) (hu : thin 1900000000 M) (hP : Ints P (pw S)) (hZ : Ints Z (pw S)) (hA : peq (fqs L) (rscale k9 P)) (hB : peq (fqs M) (rscale l9 Z)) (hb : 4 * (qlen k9 + qlen l9 + (n + 4) * (S + 3)) ≤ T) (hT : T ≤ 1900000000) (h0 : Hid (plen (fqs M) ≠ 0)) : Calls Try.prog 20 #[.slice a n c, .slice b m d] w (LstDiv (fqs L) (fqs M) T w) := by
  have hBl : 0 < (pnorm (fqs M)).length := Nat.pos_of_ne_zero h0.out
  obtain ⟨z, hz⟩ := DivL.of (pnorm_pnorm (fqs M)) hBl hZ ((pnorm_co _).trans hB)
  have hKq : ∀ q ∈ pnorm (fqs M), qlen q ≤ qlen l9 + S + 3 := qlen_list fun i => by
    obtain ⟨u, u1, u2⟩ := hZ i
    rw [co_pnorm, hB i, co_rscale, u1]
    have g1 := qlen_mul l9 (u : Rat)
    have g2 := qlen_z u2
    omega
  have hmul : (n + 1 - (pnorm (fqs M)).length) * (S + 1) ≤ n * (S + 3) := Nat.mul_le_mul (by omega) (by omega)
  have hn4 : (n + 4) * (S + 3) = n * (S + 3) + 4 * (S + 3) := Nat.add_mul _ _ _
  have hW := DivWay.new (A := fqs L) (K := qlen l9 + S + 3) (n := n) (s := S) (k := k9) (T := T) hz (Nat.le_trans (pnorm_length_le _) (by rw [fqs_length, h.len]; exact Nat.le_refl _)) hP hA (Nat.le_refl _) (by omega)
  refine (poly_div_by a n c L b m d M _ T _ w h k (by omega) (by omega) (ht.mono (by decide)) (hu.mono (by decide)) hKq h0.out hW (by omega) (by omega)).mono fun e w' h9 => ?_
  obtain ⟨a1, n1, c1, q, a2, n2, c2, r, g1, g2, g3, g4, g5, g6, ⟨Q, g7, g8⟩, g9⟩ := h9
  have hr := hW.room g8
  refine ⟨a1, n1, c1, q, a2, n2, c2, r, g1, g2, g3, g4.of (peq.refl _) (pnorm_co _) (peq.refl _) (peq.refl _), g5, g6, qlen_list fun i => ?_, hr.1, g9⟩
  rw [g7 i]
  exact qlen_co (by omega) hr.2 i
theorem poly_gcd (a : Option Addr) (n c : Nat) (L : List Fx) (b : Option Addr) (m d : Nat) (M : List Fx) (N K h9 B : Nat) (w : World) (h : Fxs w a n c L) (k : Fxs w b m d M) (hn : n ≤ h9) (hm : m ≤ h9) (hh : h9 ≤ 300) (ht : thin N L) (hu : thin K M) (hN : N ≤ 1900000000) (hK : K ≤ 1900000000) (hB : ((N + 1) * n + (K + 1) * m + 1) * (n + m + 1) ≤ B) (hb : (2 * h9 + 20) * (B + 3) ≤ 1900000000) : Calls Try.prog 18 #[.slice a n c, .slice b m d] w (LstGcd (fqs L) (fqs M) (B + 2) w) := by
  obtain ⟨c1, x1, x2, x3⟩ := ints_of (N := N + 1) (fqs L) (ht.qs h.oks)
  obtain ⟨c2, y1, y2, y3⟩ := ints_of (N := K + 1) (fqs M) (hu.qs k.oks)
  rw [fqs_length, h.len] at x2 x3
  rw [fqs_length, k.len] at y2 y3
  have hpw : pw ((N + 1) * n + (K + 1) * m) = pw ((N + 1) * n) * pw ((K + 1) * m) := pw_add _ _
  have hS : ((N + 1) * n + (K + 1) * m + 1) * (plen (fqs L) + plen (fqs M) + 1) ≤ B := Nat.le_trans (Nat.mul_le_mul_left _ (by have := plen_fqs_le h; have := plen_fqs_le k; omega)) hB
  refine (poly_gcd_by a n c L b m d M (c2 * c1) ((N + 1) * n + (K + 1) * m) _ h9 w h k hn hm hh (ht.mono hN) (hu.mono hK) (Nat.mul_pos y1 x1) (by rw [hpw, Nat.mul_comm]; exact Nat.mul_le_mul x2 y2) ((ints_times x3).mono (by rw [hpw, Nat.mul_comm]; exact Nat.mul_le_mul_left _ y2)) (by rw [Nat.mul_comm c2 c1]; exact (ints_times y3).mono (by rw [hpw]; exact Nat.mul_le_mul_right _ x2)) rfl (Nat.le_trans (Nat.mul_le_mul_left _ (Nat.add_le_add_right hS 3)) hb)).mono fun e w' h8 => ?_
  obtain ⟨a3, n3, c3, g, g1, g2, g3, g4, g5, _, g6⟩ := h8
  exact ⟨a3, n3, c3, g, g1, g2, g3, g4, fun x hx => Nat.le_trans (g5 x hx) (by omega), g6⟩
theorem polySaid : PolySaid where
  norm := fun a n c L w h hn t => poly_norm a n c L w h hn (t.mono (by decide))
  degree := fun a n c L w h hn t => poly_degree a n c L w h (by omega) (t.mono (by decide))
  same := fun a n c L b m d M w h k hn hm t u => poly_same a n c L b m d M w h k hn hm (t.mono (by decide)) (u.mono (by decide))
  add := fun a n c L b m d M w h k hn hm t u => poly_add a n c L b m d M w h k hn hm (t.mono (by decide)) (u.mono (by decide))
  mul := fun a n c L b m d M N K w h k hn hm t u hb => poly_mul a n c L b m d M N K w h k hn hm t u hb
  eval := fun a n c L v q N X w h hv hn t hb => poly_eval a n c L v q N X w h hv hn t hb
  diff := fun a n c L w h hn t => poly_diff a n c L w h hn (t.mono (by decide))
  div_yes := fun a n c L b m d M N K w h k hn hm t u hb h0 => poly_div_yes a n c L b m d M N K w h k hn hm t u hb h0
  div_more := fun a n c L b m d M k9 l9 P Z S T w h k hn hm t u hP hZ hA hB hb hT h0 => poly_div_more a n c L b m d M k9 l9 P Z S T w h k hn hm t u hP hZ hA hB hb hT h0
  div_no := fun a n c L b m d M w h k _ hm _ u h0 => poly_div_no a n c L b m d M w h k (by omega) (u.mono (by decide)) h0.out
  gcd := fun a n c L b m d M N K h9 B w h k hn hm hh t u hN hK hB hb => poly_gcd a n c L b m d M N K h9 B w h k hn hm hh t u hN hK hB hb
  gcd_more := fun a n c L b m d M g s S h9 w h k hn hm hh t u hg hgs hA hB hS hb => poly_gcd_by a n c L b m d M g s S h9 w h k hn hm hh t u hg hgs hA hB hS hb
end Go.Proofs.Ytipcgehcineblaa

/-
  What every law's row asks behind its walk, said once: a law that returned true and left all that was there as it was meets its specification. Of no program.
-/
namespace Go.Proofs.Ytipcgehcineblaa
open Go.ChangeShapes Go.WideShapes Go.ChangeAt Go.RowKit

/-- The arguments read again as they read before. -/
theorem stays_all {H : Type} {enc : TypeId × Value → H} {P : Program} (hl : laidOutB P = true) {W W' : World} (hb : Below W.heap.size W W') :
    ∀ (ts : List TypeId) (vs : List Value) (ds : List (DataW H)) (ps : List MemPlace), (ts.all fun t => P.readableRec t && decide (t < P.types.size)) = true →
      DataW.TrodAll enc P W 0 (fun _ => true) true ts vs ds ps → (∀ x ∈ ps, x.block < W.heap.size) →
      DataW.TrodAll enc P W' 0 (fun b => decide (b < W.heap.size)) true ts vs ds ps
  | [], [], [], _, _, h, _ => h
  | t :: ts, v :: vs, d :: ds, ps, hr, h, hlt => by
    obtain ⟨p, q, h1, h2, rfl⟩ := h
    simp only [List.all_cons, Bool.and_eq_true, decide_eq_true_eq] at hr
    exact ⟨p, q, Below.trod hl hr.1.1 hr.1.2 h1 hb (fun x hx => hlt x (by simp [hx])), stays_all hl hb ts vs ds q hr.2 h2 (fun x hx => hlt x (by simp [hx])), rfl⟩
  | [], [], _ :: _, _, _, h, _ => h.elim
  | [], _ :: _, _, _, _, h, _ => h.elim
  | _ :: _, [], _, _, _, h, _ => h.elim
  | _ :: _, _ :: _, [], _, _, h, _ => h.elim

theorem law_post {H : Type} {enc : TypeId × Value → H} {P : Program} {f : Func} {s : ChangeSpec} {apart fresh handsOn : Bool} {W W' : World} {args : Array Value} {ds gs : List (DataW H)} {before : List MemPlace} {tb : TypeId}
    (hl : laidOutB P = true) (hr : (f.params.toList.all fun t => P.readableRec t && decide (t < P.types.size)) = true) (hrt : f.resultTypes = #[tb]) (htb : P.underlying tb = some .bool) (hvars : s.vars = [])
    (hs : s.fn H ds = { results := [.lit (.bool true)], args := ds })
    (hW : DataW.Whole enc P f.params.toList s.vars apart W args.toList ds gs before) (hb : Below W.heap.size W W') :
    s.post enc P f apart fresh handsOn false W args (.bool true) W' := by
  have hW0 := hW
  obtain ⟨p, q, hA, hV, rfl, _, _⟩ := hW
  rw [hvars] at hV
  obtain ⟨rfl, rfl⟩ := trodVars_none hV
  have hlt : ∀ x ∈ p, x.block < W.heap.size := fun x hx => hW0.lt x (by simp [hx])
  refine ⟨ds, [], p ++ [], [], p, [], hW0, ?_, ?_, ?_, hb.frame _, fun h => by cases h⟩
  · rw [List.append_nil, hs, hrt]
    exact trodAll_mk1 (shut_bool htb true)
  · rw [List.append_nil, hs]
    exact stays_all hl hb _ _ _ _ hr hA hlt
  · rw [List.append_nil, hs, hvars]
    rfl
end Go.Proofs.Ytipcgehcineblaa

/-
  A row read piece by piece: what is so far read, at a place of the text. Of no program.
-/
namespace Go.Proofs.Ytipcgehcineblaa
open Go.RowKit

/-- At the place i of the text l, behind the last comma at f, with the values V so far read. -/
def ReadAt (l : List UInt8) (f i : Nat) (V : List Rat) : Prop :=
  (f ≤ i ∧ i ≤ l.length ∧ i - f ≤ commaAt (l.drop f) ∧ kindOf (pieces l) = kindOf (pieces (l.drop f)) ∧ placeOf 0 (pieces l) = placeOf f (pieces (l.drop f)) ∧ (pieces l).map figVal = V ++ (pieces (l.drop f)).map figVal) ∨
  (i = l.length + 1 ∧ f = i ∧ kindOf (pieces l) = 0 ∧ (pieces l).map figVal = V)
theorem place_none : ∀ (P : List (List UInt8)) (off : Nat), kindOf P = 0 → placeOf off P = 0
  | [], _, _ => rfl
  | p :: P, off, h => by
    rw [kindOf] at h
    split at h
    · rename_i h2; exact absurd h h2
    · rename_i h2
      rw [placeOf, if_neg h2]
      exact place_none P _ h
theorem ReadAt.start (l : List UInt8) : ReadAt l 0 0 [] := .inl ⟨Nat.le_refl _, Nat.zero_le _, Nat.zero_le _, rfl, rfl, rfl⟩
theorem ReadAt.bound {l : List UInt8} {f i : Nat} {V : List Rat} (h : ReadAt l f i V) : f ≤ i ∧ i ≤ l.length + 1 := by
  rcases h with h | h
  · exact ⟨h.1, Nat.le_succ_of_le h.2.1⟩
  · exact ⟨Nat.le_of_eq h.2.1, Nat.le_of_eq h.1⟩
theorem ReadAt.done {l : List UInt8} {f i : Nat} {V : List Rat} (h : ReadAt l f i V) (hl : l ≠ []) (hi : l.length < i) : rowKind l = 0 ∧ rowPlace l = 0 ∧ rowVals l = V := by
  rcases h with h | ⟨_, _, h1, h2⟩
  · omega
  · refine ⟨?_, ?_, ?_⟩
    · unfold rowKind; rw [if_neg hl]; exact h1
    · unfold rowPlace; rw [if_neg hl]; exact place_none _ _ h1
    · unfold rowVals; rw [if_neg (by rintro (h | h); exact hl h; exact h h1)]; exact h2
end Go.Proofs.Ytipcgehcineblaa

/-
  What package row owes, for rows of right fractions; examples of rows.
-/
namespace Go.Proofs.Ytipcgehcineblaa
open Go.RowKit

end Go.Proofs.Ytipcgehcineblaa

/-
  What package poly owes, said of values: any fractions and right ones alike.
-/
namespace Go.Proofs.Ytipcgehcineblaa
open Go.RowKit

/-- In the world w the slice holds fractions of these values, of at most N words. -/
def Pv (w : World) (a : Option Addr) (n c : Nat) (P : List Rat) (N : Nat) : Prop := ∃ L, Fxs w a n c L ∧ fqs L = P ∧ thin N L
theorem Pv.later {w w' : World} {a : Option Addr} {n c N : Nat} {P : List Rat} (h : Pv w a n c P N) (hb : Below w.heap.size w w') : Pv w' a n c P N := by
  obtain ⟨L, h1, h2⟩ := h
  exact ⟨L, h1.later hb, h2⟩
theorem Pv.len {w : World} {a : Option Addr} {n c N : Nat} {P : List Rat} (h : Pv w a n c P N) : P.length = n := by
  obtain ⟨L, h1, rfl, _⟩ := h
  rw [fqs_length]; exact h1.len
theorem Pv.bound {w : World} {a : Option Addr} {n c N : Nat} {P : List Rat} (h : Pv w a n c P N) : n ≤ c ∧ c ≤ 9223372036854775807 := by
  obtain ⟨L, h1, _⟩ := h
  exact h1.bound
theorem Pv.of {w : World} {a : Option Addr} {n c N : Nat} {L : List Fx} (h : Fxs w a n c L) (ht : thin N L) : Pv w a n c (fqs L) N := ⟨L, h, rfl, ht⟩
theorem Pv.right {w : World} {a : Option Addr} {n c N : Nat} {P : List Rat} (h : Rw w a n c P) (hq : ∀ q ∈ P, qlen q ≤ N) : Pv w a n c P N := by
  obtain ⟨L, h1, h2, h3⟩ := h.thin hq
  exact ⟨L, h1, h2, h3⟩
theorem Pv.nil (w : World) (N : Nat) : Pv w none 0 0 [] N := ⟨[], ⟨rfl, Nat.le_refl _, by omega, fun _ => rfl, fun x hx => by (simp at hx), .inl rfl⟩, rfl, fun x hx => by simp at hx⟩
theorem Pv.more {w : World} {a : Option Addr} {n c N K : Nat} {P : List Rat} (h : Pv w a n c P N) (hk : N ≤ K) : Pv w a n c P K := by
  obtain ⟨L, h1, h2, h3⟩ := h
  exact ⟨L, h1, h2, h3.mono hk⟩
theorem Pv.qlen {w : World} {a : Option Addr} {n c N : Nat} {P : List Rat} (h : Pv w a n c P N) : ∀ q ∈ P, Go.Proofs.Ytipcgehcineblaa.qlen q ≤ N + 1 := by
  obtain ⟨L, h1, rfl, h3⟩ := h
  intro q hq
  obtain ⟨x, hx, rfl⟩ := List.mem_map.1 hq
  exact ((h1.ok hx).fr (h3 x hx).1 (h3 x hx).2).len
theorem degree_pv (S : PolySaid) {w : World} {a : Option Addr} {n c N : Nat} {P : List Rat} (h : Pv w a n c P N) (hn : n ≤ 300) (hN : N ≤ 1900000000) : Calls Try.prog 19 #[.slice a n c] w (Gives (.int .i64 ((plen P : Int) - 1)) w) := by
  obtain ⟨L, h1, rfl, h3⟩ := h
  exact S.degree a n c L w h1 hn (h3.mono (by omega))
theorem same_pv (S : PolySaid) {w : World} {a b : Option Addr} {n c m d N K : Nat} {P Q : List Rat} (h : Pv w a n c P N) (k : Pv w b m d Q K) (hn : n ≤ 300) (hm : m ≤ 300) (hN : N ≤ 1900000000) (hK : K ≤ 1900000000) : Calls Try.prog 16 #[.slice a n c, .slice b m d] w (Gives (.bool (decide (pnorm P = pnorm Q))) w) := by
  obtain ⟨L, h1, rfl, h3⟩ := h
  obtain ⟨M, k1, rfl, k3⟩ := k
  exact S.same a n c L b m d M w h1 k1 hn hm (h3.mono hN) (k3.mono hK)
theorem add_pv (S : PolySaid) {w : World} {a b : Option Addr} {n c m d N K : Nat} {P Q : List Rat} (h : Pv w a n c P N) (k : Pv w b m d Q K) (hn : n ≤ 300) (hm : m ≤ 300) (hN : N ≤ 900000000) (hK : K ≤ 900000000) : Calls Try.prog 14 #[.slice a n c, .slice b m d] w (LstRw (pnorm (padd P Q)) w) := by
  obtain ⟨L, h1, rfl, h3⟩ := h
  obtain ⟨M, k1, rfl, k3⟩ := k
  exact S.add a n c L b m d M w h1 k1 hn hm (h3.mono hN) (k3.mono hK)
theorem mul_pv (S : PolySaid) {w : World} {a b : Option Addr} {n c m d N K : Nat} {P Q : List Rat} (h : Pv w a n c P N) (k : Pv w b m d Q K) (hn : n ≤ 100) (hm : m ≤ 100) (hb : (n + 1) * (N + K + 8) ≤ 1900000000) : Calls Try.prog 10 #[.slice a n c, .slice b m d] w (LstRw (pnorm (pmul P Q)) w) := by
  obtain ⟨L, h1, rfl, h3⟩ := h
  obtain ⟨M, k1, rfl, k3⟩ := k
  exact S.mul a n c L b m d M N K w h1 k1 hn hm h3 k3 hb
theorem eval_pv (S : PolySaid) {w : World} {a : Option Addr} {n c N X : Nat} {P : List Rat} {v : Value} {q : Rat} (h : Pv w a n c P N) (k : Fr w v q X) (hn : n ≤ 100) (hb : (n + 1) * ((n + 1) * (X + 8) + N + 8) ≤ 1900000000) : Calls Try.prog 12 #[.slice a n c, v] w (LstQ (peval q P) w) := by
  obtain ⟨L, h1, rfl, h3⟩ := h
  exact S.eval a n c L v q N X w h1 k hn h3 hb
theorem diff_pv (S : PolySaid) {w : World} {a : Option Addr} {n c N : Nat} {P : List Rat} (h : Pv w a n c P N) (hn : n ≤ 300) (hN : N ≤ 1900000000) : Calls Try.prog 17 #[.slice a n c] w (LstRw (pnorm (pdiff P)) w) := by
  obtain ⟨L, h1, rfl, h3⟩ := h
  exact S.diff a n c L w h1 hn (h3.mono hN)
theorem div_pv (S : PolySaid) {w : World} {a b : Option Addr} {n c m d N K B : Nat} {P Q : List Rat} (h : Pv w a n c P N) (k : Pv w b m d Q K) (hn : n ≤ 60) (hm : m ≤ 60) (hb : 2 ^ (n + 1) * (N + K + K + 12) ≤ B) (hB : B ≤ 1900000000) (hQ : plen Q ≠ 0) : Calls Try.prog 20 #[.slice a n c, .slice b m d] w (LstDiv P Q B w) := by
  obtain ⟨L, h1, rfl, h3⟩ := h
  obtain ⟨M, k1, rfl, k3⟩ := k
  refine (S.div_yes a n c L b m d M N K w h1 k1 hn hm h3 k3 (Nat.le_trans hb hB) (Lib.hid hQ)).mono fun e w' h9 => ?_
  obtain ⟨a1, n1, c1, q, b1, m1, d1, r, g1, g2, g3, g4, g5, g6, g7, g8, g9⟩ := h9
  exact ⟨a1, n1, c1, q, b1, m1, d1, r, g1, g2, g3, g4, g5, g6, fun x hx => Nat.le_trans (g7 x hx) hb, fun x hx => Nat.le_trans (g8 x hx) hb, g9⟩
theorem div0_pv (S : PolySaid) {w : World} {a b : Option Addr} {n c m d N K : Nat} {P Q : List Rat} (h : Pv w a n c P N) (k : Pv w b m d Q K) (hn : n ≤ 60) (hm : m ≤ 60) (hN : N ≤ 1900000000) (hK : K ≤ 1900000000) (hQ : plen Q = 0) : Calls Try.prog 20 #[.slice a n c, .slice b m d] w (fun e w' => e = .returned (.tuple #[.slice none 0 0, .slice none 0 0, .bool false]) ∧ Below w.heap.size w w') := by
  obtain ⟨L, h1, rfl, h3⟩ := h
  obtain ⟨M, k1, rfl, k3⟩ := k
  exact S.div_no a n c L b m d M w h1 k1 hn hm (h3.mono hN) (k3.mono hK) (Lib.hid hQ)
theorem gcd_pv (S : PolySaid) {w : World} {a b : Option Addr} {n c m d N K B : Nat} {P Q : List Rat} (n0 m0 : Nat) (h : Pv w a n c P N) (k : Pv w b m d Q K) (hn : n ≤ n0) (hm : m ≤ m0) (hh : n0 + m0 ≤ 300) (hN : N ≤ 1900000000) (hK : K ≤ 1900000000) (hb : ((N + 1) * n0 + (K + 1) * m0 + 1) * (n0 + m0 + 1) + 2 ≤ B) (hc : (2 * (n0 + m0) + 20) * (((N + 1) * n0 + (K + 1) * m0 + 1) * (n0 + m0 + 1) + 3) ≤ 1900000000) : Calls Try.prog 18 #[.slice a n c, .slice b m d] w (LstGcd P Q B w) := by
  obtain ⟨L, h1, rfl, h3⟩ := h
  obtain ⟨M, k1, rfl, k3⟩ := k
  have hmono : ((N + 1) * n + (K + 1) * m + 1) * (n + m + 1) ≤ ((N + 1) * n0 + (K + 1) * m0 + 1) * (n0 + m0 + 1) := Nat.mul_le_mul (Nat.add_le_add_right (Nat.add_le_add (Nat.mul_le_mul_left _ hn) (Nat.mul_le_mul_left _ hm)) 1) (by omega)
  refine (S.gcd a n c L b m d M N K (n0 + m0) _ w h1 k1 (by omega) (by omega) hh h3 k3 hN hK hmono hc).mono fun e w' h9 => ?_
  obtain ⟨a1, n1, c1, g, g1, g2, g3, g4, g5, g6⟩ := h9
  exact ⟨a1, n1, c1, g, g1, g2, g3, g4, fun x hx => Nat.le_trans (g5 x hx) hb, g6⟩
theorem gcd_none {A B g : List Rat} (h : isGcd A B g) (ha : plen A = 0) (hb : plen B = 0) : plen g = 0 := by
  obtain ⟨⟨_, _, u, v, h3⟩, _⟩ := h
  rw [plen_congr h3]
  refine plen_zero.2 fun i => ?_
  rw [co_padd, pmul_congr (peq.refl u) (peq_nil ha) i, pmul_congr (peq.refl v) (peq_nil hb) i, pmul_nil u i, pmul_nil v i, co_nil]; grind
theorem gcd_some {A B g : List Rat} (h : isGcd A B g) (hab : ¬ (plen A = 0 ∧ plen B = 0)) : plen g ≠ 0 ∧ plen g ≤ max (plen A) (plen B) := by
  by_cases ha : plen A = 0
  · have := h.1.2.1.len (fun e => hab ⟨ha, e⟩)
    exact ⟨this.1, by omega⟩
  · have := h.1.1.len ha
    exact ⟨this.1, by omega⟩
theorem gcd_plen {A B g : List Rat} (h : isGcd A B g) : plen g ≤ max (plen A) (plen B) := by
  by_cases hab : plen A = 0 ∧ plen B = 0
  · have := gcd_none h hab.1 hab.2; omega
  · exact (gcd_some h hab).2
end Go.Proofs.Ytipcgehcineblaa

/-
  Rows of two and three right fractions, written down. Of no program.
-/
namespace Go.Proofs.Ytipcgehcineblaa
open Go.RowKit

theorem Rw.lit2 (w : World) (e : TypeId) {q p : Rat} {a b a' b' : Option Addr} {n c m d n' c' m' d' : Nat} (h1 : Wd w a n c (dg q.num.natAbs)) (h2 : Wd w b m d (dg q.den)) (h3 : Wd w a' n' c' (dg p.num.natAbs)) (h4 : Wd w b' m' d' (dg p.den)) :
    Rw (w.alloc (.cells #[.bool (zneg q.num), .slice a n c, .slice b m d, .bool (zneg p.num), .slice a' n' c', .slice b' m' d'] e)) (some ⟨w.heap.size, 0, none⟩) 2 2 [q, p] := by
  have hb : Below w.heap.size w (w.alloc (.cells #[.bool (zneg q.num), .slice a n c, .slice b m d, .bool (zneg p.num), .slice a' n' c', .slice b' m' d'] e)) := below_alloc _ _
  have hx := blk_new w #[.bool (zneg q.num), .slice a n c, .slice b m d, .bool (zneg p.num), .slice a' n' c', .slice b' m' d'] e
  refine ⟨[rx q a n c b m d, rx p a' n' c' b' m' d'], ⟨rfl, Nat.le_refl _, by omega, fun h => (by cases h), fun x hx => ?_, .inr ⟨w.heap.size, 0, rfl, fun j hj => ?_⟩⟩, by simp [rx_q], fun x hx => ?_⟩
  · simp only [List.mem_cons, List.not_mem_nil, or_false] at hx
    rcases hx with rfl | rfl
    · exact ⟨h1.later hb, h2.later hb⟩
    · exact ⟨h3.later hb, h4.later hb⟩
  · match j, hj with
    | 0, _ => exact ⟨blk_cell hx 0, blk_cell hx 1, blk_cell hx 2⟩
    | 1, _ => exact ⟨blk_cell hx 3, blk_cell hx 4, blk_cell hx 5⟩
  · simp only [List.mem_cons, List.not_mem_nil, or_false] at hx
    rcases hx with rfl | rfl
    · exact rx_right ..
    · exact rx_right ..
theorem Rw.lit3 (w : World) (e : TypeId) {q p r : Rat} {a b a' b' a2 b2 : Option Addr} {n c m d n' c' m' d' n2 c2 m2 d2 : Nat} (h1 : Wd w a n c (dg q.num.natAbs)) (h2 : Wd w b m d (dg q.den)) (h3 : Wd w a' n' c' (dg p.num.natAbs)) (h4 : Wd w b' m' d' (dg p.den)) (h5 : Wd w a2 n2 c2 (dg r.num.natAbs)) (h6 : Wd w b2 m2 d2 (dg r.den)) :
    Rw (w.alloc (.cells #[.bool (zneg q.num), .slice a n c, .slice b m d, .bool (zneg p.num), .slice a' n' c', .slice b' m' d', .bool (zneg r.num), .slice a2 n2 c2, .slice b2 m2 d2] e)) (some ⟨w.heap.size, 0, none⟩) 3 3 [q, p, r] := by
  have hb : Below w.heap.size w (w.alloc (.cells #[.bool (zneg q.num), .slice a n c, .slice b m d, .bool (zneg p.num), .slice a' n' c', .slice b' m' d', .bool (zneg r.num), .slice a2 n2 c2, .slice b2 m2 d2] e)) := below_alloc _ _
  have hx := blk_new w #[.bool (zneg q.num), .slice a n c, .slice b m d, .bool (zneg p.num), .slice a' n' c', .slice b' m' d', .bool (zneg r.num), .slice a2 n2 c2, .slice b2 m2 d2] e
  refine ⟨[rx q a n c b m d, rx p a' n' c' b' m' d', rx r a2 n2 c2 b2 m2 d2], ⟨rfl, Nat.le_refl _, by omega, fun h => (by cases h), fun x hx => ?_, .inr ⟨w.heap.size, 0, rfl, fun j hj => ?_⟩⟩, by simp [rx_q], fun x hx => ?_⟩
  · simp only [List.mem_cons, List.not_mem_nil, or_false] at hx
    rcases hx with rfl | rfl | rfl
    · exact ⟨h1.later hb, h2.later hb⟩
    · exact ⟨h3.later hb, h4.later hb⟩
    · exact ⟨h5.later hb, h6.later hb⟩
  · match j, hj with
    | 0, _ => exact ⟨blk_cell hx 0, blk_cell hx 1, blk_cell hx 2⟩
    | 1, _ => exact ⟨blk_cell hx 3, blk_cell hx 4, blk_cell hx 5⟩
    | 2, _ => exact ⟨blk_cell hx 6, blk_cell hx 7, blk_cell hx 8⟩
  · simp only [List.mem_cons, List.not_mem_nil, or_false] at hx
    rcases hx with rfl | rfl | rfl
    · exact rx_right ..
    · exact rx_right ..
    · exact rx_right ..
end Go.Proofs.Ytipcgehcineblaa
