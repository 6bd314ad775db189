/-
  The walks of the laws of layer 14: PolyCommon.
-/
import Derived.Test.YtipcgehcineblaaG19
import Derived.Test.YtipcgehcineblaaRef11bM
import Derived.Test.YtipcgehcineblaaG12
namespace Go.Proofs.Ytipcgehcineblaa
open Go.RowKit

theorem pow_mul_le {k K c B : Nat} (h : k ≤ K) (hB : 2 ^ K * c ≤ B) : 2 ^ k * c ≤ B := Nat.le_trans (Nat.mul_le_mul_right c (Nat.pow_le_pow_right (by decide) h)) hB
theorem plen_pmul_le (a b : List Rat) : plen (pmul a b) ≤ plen a + plen b - 1 := by
  by_cases ha : plen a = 0
  · have h : plen (pmul a b) = 0 := plen_congr (pmul_congr (peq_nil ha) (peq.refl b))
    omega
  · by_cases hb : plen b = 0
    · have h : plen (pmul a b) = 0 := plen_congr ((pmul_congr (peq.refl a) (peq_nil hb)).trans (pmul_nil a))
      omega
    · have := (pmul_top (a := a) (b := b) (m := plen a - 1) (n := plen b - 1) (by omega) (by omega)).1
      omega
theorem div_plen {a b q r : List Rat} (h : isDiv a b q r) : plen q ≤ plen a := by
  rcases Nat.eq_zero_or_pos (plen q) with h0 | h0
  · omega
  · have h2 := h.2
    obtain ⟨t1, t2⟩ := pmul_top (a := q) (b := b) (m := plen q - 1) (n := plen b - 1) (by omega) (by omega)
    have t3 := plen_top (a := pmul q b) (n := plen q - 1 + (plen b - 1)) (by omega)
    have t4 := h.1 (plen q - 1 + (plen b - 1))
    rw [co_padd, co_beyond (a := r) (by omega)] at t4
    have t5 : co a (plen q - 1 + (plen b - 1)) ≠ 0 := by rw [t4]; grind
    have := plen_ge t5
    omega
theorem right_nil {r : List Rat} (h : pnorm r = r) (h0 : plen r = 0) : r = [] := List.eq_nil_of_length_eq_zero (by rw [← plen_right h]; exact h0)
theorem isGcd.of {a a' b b' g : List Rat} (h : isGcd a b g) (ha : peq a a') (hb : peq b b') : isGcd a' b' g := ⟨h.1.of ha hb (peq.refl g), h.2⟩
set_option maxRecDepth 4096 in
set_option maxHeartbeats 16000000 in
theorem law14_common_e0 (HW : ∀ w : World, Calls Try.prog 7 #[] w (Gives (.bool true) w)) (a0 : Option Addr) (n0 c0 : Nat) (K0 : List Fx) (a1 : Option Addr) (n1 c1 : Nat) (K1 : List Fx) (a2 : Option Addr) (n2 c2 : Nat) (K2 : List Fx) (w : World) (h0 : Fxs w a0 n0 c0 K0) (_h1 : Fxs w a1 n1 c1 K1) (_h2 : Fxs w a2 n2 c2 K2)  (hb0 : ¬ ((n0 : Int) ≤ 5 ∧ thinI 1 K0)) : Calls Try.prog 4 #[.slice a0 n0 c0, .slice a1 n1 c1, .slice a2 n2 c2] w (Gives (.bool true) w) := by
  have HB : Hid (Below w.heap.size w w) := Lib.hid (Below.refl _ _)
  have HF0 := Lib.hid h0
  have HNB0 := Lib.hid hb0
  clear h0 hb0
  go_enter Try.func4, Try.ntmps4
  go_wp2_with fail
  refine (ref11_long a0 n0 c0 K0 5 1 true _ HF0.out (by decide) (Lib.hid ⟨fun _ => HNB0.out, fun _ => rfl⟩)).mono ?_
  rintro e wc1 ⟨rfl, b⟩
  replace HB := Lib.hid (below_then HB.out b)
  replace HF0 := Lib.hid (HF0.out.later b)
  clear b
  go_wp2_with fail
  refine (HW _).mono ?_
  rintro e wc2 ⟨rfl, b⟩
  replace HB := Lib.hid (below_then HB.out b)
  replace HF0 := Lib.hid (HF0.out.later b)
  clear b
  go_wp2
  go_ret
  exact ⟨rfl, HB.out⟩
set_option maxRecDepth 4096 in
set_option maxHeartbeats 16000000 in
theorem law14_common_e1 (HW : ∀ w : World, Calls Try.prog 7 #[] w (Gives (.bool true) w)) (a0 : Option Addr) (n0 c0 : Nat) (K0 : List Fx) (a1 : Option Addr) (n1 c1 : Nat) (K1 : List Fx) (a2 : Option Addr) (n2 c2 : Nat) (K2 : List Fx) (w : World) (h0 : Fxs w a0 n0 c0 K0) (h1 : Fxs w a1 n1 c1 K1) (_h2 : Fxs w a2 n2 c2 K2) (hb0 : ((n0 : Int) ≤ 5 ∧ thinI 1 K0)) (hb1 : ¬ ((n1 : Int) ≤ 5 ∧ thinI 1 K1)) : Calls Try.prog 4 #[.slice a0 n0 c0, .slice a1 n1 c1, .slice a2 n2 c2] w (Gives (.bool true) w) := by
  have HB : Hid (Below w.heap.size w w) := Lib.hid (Below.refl _ _)
  have HF0 := Lib.hid h0
  have HNB0 := Lib.hid hb0
  have HF1 := Lib.hid h1
  have HNB1 := Lib.hid hb1
  clear h0 hb0 h1 hb1
  go_enter Try.func4, Try.ntmps4
  go_wp2_with fail
  refine (ref11_long a0 n0 c0 K0 5 1 false _ HF0.out (by decide) (Lib.hid ⟨fun h => absurd h (by decide), fun h => absurd HNB0.out h⟩)).mono ?_
  rintro e wc1 ⟨rfl, b⟩
  replace HB := Lib.hid (below_then HB.out b)
  replace HF0 := Lib.hid (HF0.out.later b)
  replace HF1 := Lib.hid (HF1.out.later b)
  clear b
  go_wp2_with fail
  refine (ref11_long a1 n1 c1 K1 5 1 true _ HF1.out (by decide) (Lib.hid ⟨fun _ => HNB1.out, fun _ => rfl⟩)).mono ?_
  rintro e wc2 ⟨rfl, b⟩
  replace HB := Lib.hid (below_then HB.out b)
  replace HF0 := Lib.hid (HF0.out.later b)
  replace HF1 := Lib.hid (HF1.out.later b)
  clear b
  go_wp2_with fail
  refine (HW _).mono ?_
  rintro e wc3 ⟨rfl, b⟩
  replace HB := Lib.hid (below_then HB.out b)
  replace HF0 := Lib.hid (HF0.out.later b)
  replace HF1 := Lib.hid (HF1.out.later b)
  clear b
  go_wp2
  go_ret
  exact ⟨rfl, HB.out⟩
set_option maxRecDepth 4096 in
set_option maxHeartbeats 16000000 in
theorem law14_common_e2 (HW : ∀ w : World, Calls Try.prog 7 #[] w (Gives (.bool true) w)) (a0 : Option Addr) (n0 c0 : Nat) (K0 : List Fx) (a1 : Option Addr) (n1 c1 : Nat) (K1 : List Fx) (a2 : Option Addr) (n2 c2 : Nat) (K2 : List Fx) (w : World) (h0 : Fxs w a0 n0 c0 K0) (h1 : Fxs w a1 n1 c1 K1) (h2 : Fxs w a2 n2 c2 K2) (hb0 : ((n0 : Int) ≤ 5 ∧ thinI 1 K0)) (hb1 : ((n1 : Int) ≤ 5 ∧ thinI 1 K1)) (hb2 : ¬ ((n2 : Int) ≤ 4 ∧ thinI 1 K2)) : Calls Try.prog 4 #[.slice a0 n0 c0, .slice a1 n1 c1, .slice a2 n2 c2] w (Gives (.bool true) w) := by
  have HB : Hid (Below w.heap.size w w) := Lib.hid (Below.refl _ _)
  have HF0 := Lib.hid h0
  have HNB0 := Lib.hid hb0
  have HF1 := Lib.hid h1
  have HNB1 := Lib.hid hb1
  have HF2 := Lib.hid h2
  have HNB2 := Lib.hid hb2
  clear h0 hb0 h1 hb1 h2 hb2
  go_enter Try.func4, Try.ntmps4
  go_wp2_with fail
  refine (ref11_long a0 n0 c0 K0 5 1 false _ HF0.out (by decide) (Lib.hid ⟨fun h => absurd h (by decide), fun h => absurd HNB0.out h⟩)).mono ?_
  rintro e wc1 ⟨rfl, b⟩
  replace HB := Lib.hid (below_then HB.out b)
  replace HF0 := Lib.hid (HF0.out.later b)
  replace HF1 := Lib.hid (HF1.out.later b)
  replace HF2 := Lib.hid (HF2.out.later b)
  clear b
  go_wp2_with fail
  refine (ref11_long a1 n1 c1 K1 5 1 false _ HF1.out (by decide) (Lib.hid ⟨fun h => absurd h (by decide), fun h => absurd HNB1.out h⟩)).mono ?_
  rintro e wc2 ⟨rfl, b⟩
  replace HB := Lib.hid (below_then HB.out b)
  replace HF0 := Lib.hid (HF0.out.later b)
  replace HF1 := Lib.hid (HF1.out.later b)
  replace HF2 := Lib.hid (HF2.out.later b)
  clear b
  go_wp2_with fail
  refine (ref11_long a2 n2 c2 K2 4 1 true _ HF2.out (by decide) (Lib.hid ⟨fun _ => HNB2.out, fun _ => rfl⟩)).mono ?_
  rintro e wc3 ⟨rfl, b⟩
  replace HB := Lib.hid (below_then HB.out b)
  replace HF0 := Lib.hid (HF0.out.later b)
  replace HF1 := Lib.hid (HF1.out.later b)
  replace HF2 := Lib.hid (HF2.out.later b)
  clear b
  go_wp2_with fail
  refine (HW _).mono ?_
  rintro e wc4 ⟨rfl, b⟩
  replace HB := Lib.hid (below_then HB.out b)
  replace HF0 := Lib.hid (HF0.out.later b)
  replace HF1 := Lib.hid (HF1.out.later b)
  replace HF2 := Lib.hid (HF2.out.later b)
  clear b
  go_wp2
  go_ret
  exact ⟨rfl, HB.out⟩
set_option maxRecDepth 4096 in
set_option maxHeartbeats 16000000 in
theorem law14_common_main (S : PolySaid) (HW : ∀ w : World, Calls Try.prog 7 #[] w (Gives (.bool true) w)) (a0 : Option Addr) (n0 c0 : Nat) (K0 : List Fx) (a1 : Option Addr) (n1 c1 : Nat) (K1 : List Fx) (a2 : Option Addr) (n2 c2 : Nat) (K2 : List Fx) (w : World) (h0 : Fxs w a0 n0 c0 K0) (h1 : Fxs w a1 n1 c1 K1) (h2 : Fxs w a2 n2 c2 K2) (hb0 : ((n0 : Int) ≤ 5 ∧ thinI 1 K0)) (hb1 : ((n1 : Int) ≤ 5 ∧ thinI 1 K1)) (hb2 : ((n2 : Int) ≤ 4 ∧ thinI 1 K2)) : Calls Try.prog 4 #[.slice a0 n0 c0, .slice a1 n1 c1, .slice a2 n2 c2] w (Gives (.bool true) w) := by
  have HB : Hid (Below w.heap.size w w) := Lib.hid (Below.refl _ _)
  have HNB0 := Lib.hid hb0
  have hn0 : n0 ≤ 5 := by have := hb0.1; omega
  have hth0 : thin 1 K0 := thinI.out (N := 1) hb0.2
  have HF0 := Lib.hid h0
  have HTH0 := Lib.hid hth0
  have hlen0 : (fqs K0).length = n0 := (fqs_length K0).trans h0.len
  have hq0 : ∀ q ∈ fqs K0, qlen q ≤ 2 := (Pv.of h0 hth0).qlen
  have HNB1 := Lib.hid hb1
  have hn1 : n1 ≤ 5 := by have := hb1.1; omega
  have hth1 : thin 1 K1 := thinI.out (N := 1) hb1.2
  have HF1 := Lib.hid h1
  have HTH1 := Lib.hid hth1
  have hlen1 : (fqs K1).length = n1 := (fqs_length K1).trans h1.len
  have hq1 : ∀ q ∈ fqs K1, qlen q ≤ 2 := (Pv.of h1 hth1).qlen
  have HNB2 := Lib.hid hb2
  have hn2 : n2 ≤ 4 := by have := hb2.1; omega
  have hth2 : thin 1 K2 := thinI.out (N := 1) hb2.2
  have HF2 := Lib.hid h2
  have HTH2 := Lib.hid hth2
  have hlen2 : (fqs K2).length = n2 := (fqs_length K2).trans h2.len
  have hq2 : ∀ q ∈ fqs K2, qlen q ≤ 2 := (Pv.of h2 hth2).qlen
  have HTO : ∀ (w' : World) (a : Option Addr) (n c : Nat) (K : List Fx), n ≤ 10 → thin 1 K → Fxs w' a n c K → Calls Try.prog 8 #[.slice a n c] w' (fun e w'' => ∃ (a' : Option Addr) (c' : Nat), e = .returned (.slice a' n c') ∧ Pv w'' a' n c' (fqs K) 1 ∧ Below w'.heap.size w' w'') := fun w' a n c K h7 h8 h9 => (law11_to a n c K w' h9 (by omega)).mono fun e w'' ⟨x, y, z1, z2, z3⟩ => ⟨x, y, z1, Pv.of z2 h8, z3⟩
  have HT0 := fun w' h9 => HTO w' a0 n0 c0 K0 (by omega) HTH0.out h9
  have HT1 := fun w' h9 => HTO w' a1 n1 c1 K1 (by omega) HTH1.out h9
  have HT2 := fun w' h9 => HTO w' a2 n2 c2 K2 (by omega) HTH2.out h9
  obtain ⟨P, hP⟩ : ∃ P, fqs K0 = P := ⟨_, rfl⟩
  obtain ⟨Q, hQ⟩ : ∃ P, fqs K1 = P := ⟨_, rfl⟩
  obtain ⟨Z, hZ⟩ : ∃ P, fqs K2 = P := ⟨_, rfl⟩
  rw [hP] at HT0 hlen0 hq0
  rw [hQ] at HT1 hlen1 hq1
  rw [hZ] at HT2 hlen2 hq2
  have hp0 : plen P ≤ 5 := by have := plen_le_length P; omega
  have hp1 : plen Q ≤ 5 := by have := plen_le_length Q; omega
  have hp2 : plen Z ≤ 4 := by have := plen_le_length Z; omega
  have HQ0 := Lib.hid hq0
  have HQ1 := Lib.hid hq1
  have HQ2 := Lib.hid hq2
  have HLN0 := Lib.hid hlen0
  have HLN1 := Lib.hid hlen1
  have HLN2 := Lib.hid hlen2
  have HXZL : Hid ((pnorm (pmul P Z)).length ≤ 8) := Lib.hid (by have h9 := plen_pmul_le P Z; show plen (pmul P Z) ≤ 8; omega)
  have HYZL : Hid ((pnorm (pmul Q Z)).length ≤ 8) := Lib.hid (by have h9 := plen_pmul_le Q Z; show plen (pmul Q Z) ≤ 8; omega)
  have HXZQ : Hid (∀ q ∈ pnorm (pmul P Z), qlen q ≤ 29) := Lib.hid (fun q hq => Nat.le_trans (qlen_pmul2 (by decide) (by decide) hq0 hq2 q hq) (by omega))
  have HYZQ : Hid (∀ q ∈ pnorm (pmul Q Z), qlen q ≤ 29) := Lib.hid (fun q hq => Nat.le_trans (qlen_pmul2 (by decide) (by decide) hq1 hq2 q hq) (by omega))
  obtain ⟨zp, hzp⟩ : ∃ z : Int, (plen P : Int) - 1 = z := ⟨_, rfl⟩
  obtain ⟨zq, hzq⟩ : ∃ z : Int, (plen Q : Int) - 1 = z := ⟨_, rfl⟩
  obtain ⟨zz, hzz⟩ : ∃ z : Int, (plen Z : Int) - 1 = z := ⟨_, rfl⟩
  have HDG : ∀ (w' : World) (a : Option Addr) (n c N : Nat) (V : List Rat) (z : Int), n ≤ 300 → N ≤ 1900000000 → (plen V : Int) - 1 = z → Pv w' a n c V N → Calls Try.prog 19 #[.slice a n c] w' (Gives (.int .i64 z) w') := fun w' a n c N V z h7 h8 h9 h6 => h9 ▸ degree_pv S h6 h7 h8
  have HDx := fun w' a c h9 => HDG w' a n0 c 1 P zp (by omega) (by decide) hzp h9
  have HDy := fun w' a c h9 => HDG w' a n1 c 1 Q zq (by omega) (by decide) hzq h9
  have HDz := fun w' a c h9 => HDG w' a n2 c 1 Z zz (by omega) (by decide) hzz h9
  have HZP := Lib.hid hzp
  have HZQ := Lib.hid hzq
  have HZZ := Lib.hid hzz
  have HDGH := Lib.hid HDG
  clear HTO HDG h0 h1 h2 hb0 hb1 hb2 hth0 hth1 hth2 hP hQ hZ hq0 hq1 hq2 hlen0 hlen1 hlen2 hzp hzq hzz HTH0 HTH1 HTH2
  go_enter Try.func4, Try.ntmps4
  go_wp2_with fail
  refine (ref11_long a0 n0 c0 K0 5 1 false _ HF0.out (by decide) (Lib.hid ⟨fun h => absurd h (by decide), fun h => absurd HNB0.out h⟩)).mono ?_
  rintro e wc1 ⟨rfl, b⟩
  replace HB := Lib.hid (below_then HB.out b)
  replace HF0 := Lib.hid (HF0.out.later b)
  replace HF1 := Lib.hid (HF1.out.later b)
  replace HF2 := Lib.hid (HF2.out.later b)
  clear b
  go_wp2_with fail
  refine (ref11_long a1 n1 c1 K1 5 1 false _ HF1.out (by decide) (Lib.hid ⟨fun h => absurd h (by decide), fun h => absurd HNB1.out h⟩)).mono ?_
  rintro e wc2 ⟨rfl, b⟩
  replace HB := Lib.hid (below_then HB.out b)
  replace HF0 := Lib.hid (HF0.out.later b)
  replace HF1 := Lib.hid (HF1.out.later b)
  replace HF2 := Lib.hid (HF2.out.later b)
  clear b
  go_wp2_with fail
  refine (ref11_long a2 n2 c2 K2 4 1 false _ HF2.out (by decide) (Lib.hid ⟨fun h => absurd h (by decide), fun h => absurd HNB2.out h⟩)).mono ?_
  rintro e wc3 ⟨rfl, b⟩
  replace HB := Lib.hid (below_then HB.out b)
  replace HF0 := Lib.hid (HF0.out.later b)
  replace HF1 := Lib.hid (HF1.out.later b)
  replace HF2 := Lib.hid (HF2.out.later b)
  clear b
  go_wp2_with fail
  refine (HT0 _ HF0.out).mono ?_
  rintro e wc4 ⟨a3, c3, rfl, h3, b⟩
  replace HB := Lib.hid (below_then HB.out b)
  clear HF0
  replace HF1 := Lib.hid (HF1.out.later b)
  replace HF2 := Lib.hid (HF2.out.later b)
  have X := Lib.hid (h3)
  clear b
  go_wp2_with fail
  refine (HT1 _ HF1.out).mono ?_
  rintro e wc5 ⟨a4, c4, rfl, h4, b⟩
  replace HB := Lib.hid (below_then HB.out b)
  clear HF1
  replace HF2 := Lib.hid (HF2.out.later b)
  replace X := Lib.hid (X.out.later b)
  have Y := Lib.hid (h4)
  clear b
  go_wp2_with fail
  refine (HT2 _ HF2.out).mono ?_
  rintro e wc6 ⟨a5, c5, rfl, h5, b⟩
  replace HB := Lib.hid (below_then HB.out b)
  clear HF2
  replace X := Lib.hid (X.out.later b)
  replace Y := Lib.hid (Y.out.later b)
  have V := Lib.hid (h5)
  clear b
  clear h3 h4 h5 HNB0 HNB1 HNB2 HT0 HT1 HT2
  go_wp2_with fail
  refine (gcd_pv S (B := 500) 5 5 X.out Y.out (by omega) (by omega) (by decide) (by decide) (by decide) (by decide) (by decide)).mono ?_
  rintro e wc7 ⟨a6, n6, c6, g, rfl, h6, hg1, hg2, hg3, b⟩
  replace HB := Lib.hid (below_then HB.out b)
  replace X := Lib.hid (X.out.later b)
  replace Y := Lib.hid (Y.out.later b)
  replace V := Lib.hid (V.out.later b)
  have R6 := Lib.hid (h6)
  clear b
  have hl6 : g.length = n6 := R6.out.len
  have hg4 := gcd_plen hg1
  have hg5 := plen_right hg2
  have hn6 : n6 ≤ 5 := by omega
  have HG1 := Lib.hid hg1
  have HG2 := Lib.hid hg2
  have HG3 := Lib.hid hg3
  have HG5 := Lib.hid hg5
  have HG := Lib.hid (Pv.right R6.out hg3)
  clear h6 hg1 hg2 hg3 hg4 hg5
  clear R6
  obtain ⟨b0, hb0⟩ : ∃ b : Bool, decide (plen P = 0 ∧ plen Q = 0) = b := ⟨_, rfl⟩
  have HB0 := Lib.hid hb0
  clear hb0
  go_upto_region 7 with fail
  go_cut [49] from 42 to 49 (fun v wx => v = .bool b0 ∧ Hid (Below wc7.heap.size wc7 wx))
  case first =>
    have HBB := HB
    replace HB : Hid (Below wc7.heap.size wc7 wc7) := Lib.hid (Below.refl _ _)
    by_cases hx0 : plen P = 0
    · have hz1 : zp < 0 := by have := HZP.out; omega
      by_cases hy0 : plen Q = 0
      · have hz2 : zq < 0 := by have := HZQ.out; omega
        have hb : b0 = true := by rw [← HB0.out]; exact decide_eq_true ⟨hx0, hy0⟩
        subst hb
        clear hx0 hy0
        go_wp2_with fail
        refine (HDx _ a3 c3 X.out).mono ?_
        rintro e wc21 ⟨rfl, b⟩
        replace HB := Lib.hid (below_then HB.out b)
        replace X := Lib.hid (X.out.later b)
        replace Y := Lib.hid (Y.out.later b)
        clear b
        go_wp2_with fail
        refine (HDy _ a4 c4 Y.out).mono ?_
        rintro e wc22 ⟨rfl, b⟩
        replace HB := Lib.hid (below_then HB.out b)
        replace X := Lib.hid (X.out.later b)
        replace Y := Lib.hid (Y.out.later b)
        clear b
        go_wp2
        go_meet
        exact ⟨by first | rfl | (congr 1; exact decide_eq_false (by omega)) | (congr 1; exact decide_eq_true (by omega)), HB⟩
      · have hz2 : ¬ zq < 0 := by have := HZQ.out; omega
        have hb : b0 = false := by rw [← HB0.out]; exact decide_eq_false (fun h => hy0 h.2)
        subst hb
        clear hx0 hy0
        go_wp2_with fail
        refine (HDx _ a3 c3 X.out).mono ?_
        rintro e wc21 ⟨rfl, b⟩
        replace HB := Lib.hid (below_then HB.out b)
        replace X := Lib.hid (X.out.later b)
        replace Y := Lib.hid (Y.out.later b)
        clear b
        go_wp2_with fail
        refine (HDy _ a4 c4 Y.out).mono ?_
        rintro e wc22 ⟨rfl, b⟩
        replace HB := Lib.hid (below_then HB.out b)
        replace X := Lib.hid (X.out.later b)
        replace Y := Lib.hid (Y.out.later b)
        clear b
        go_wp2
        go_meet
        exact ⟨by first | rfl | (congr 1; exact decide_eq_false (by omega)) | (congr 1; exact decide_eq_true (by omega)), HB⟩
    · have hz1 : ¬ zp < 0 := by have := HZP.out; omega
      have hb : b0 = false := by rw [← HB0.out]; exact decide_eq_false (fun h => hx0 h.1)
      subst hb
      clear hx0
      go_wp2_with fail
      refine (HDx _ a3 c3 X.out).mono ?_
      rintro e wc21 ⟨rfl, b⟩
      replace HB := Lib.hid (below_then HB.out b)
      replace X := Lib.hid (X.out.later b)
      replace Y := Lib.hid (Y.out.later b)
      clear b
      go_wp2
      go_meet
      exact ⟨by first | rfl | (congr 1; exact decide_eq_false (by omega)) | (congr 1; exact decide_eq_true (by omega)), HB⟩
  case rest =>
    obtain ⟨rfl, HBc⟩ := hcut
    replace HB := Lib.hid (below_then HB.out HBc.out)
    replace X := Lib.hid (X.out.later HBc.out)
    replace Y := Lib.hid (Y.out.later HBc.out)
    replace V := Lib.hid (V.out.later HBc.out)
    replace HG := Lib.hid (HG.out.later HBc.out)
    clear HBc HDx HDy HZP HZQ
    cases b0 with
    | true =>
      have hxy := of_decide_eq_true HB0.out
      have hg0 := gcd_none HG1.out hxy.1 hxy.2
      have HDg := HDGH.out _ _ _ _ _ g (-1) (by omega) (by decide) (by omega) HG.out
      clear hxy hg0
      go_wp2_with fail
      refine (HDg).mono ?_
      rintro e wc31 ⟨rfl, b⟩
      replace HB := Lib.hid (below_then HB.out b)
      clear b
      go_wp2_with fail
      refine (HW _).mono ?_
      rintro e wc32 ⟨rfl, b⟩
      replace HB := Lib.hid (below_then HB.out b)
      clear b
      go_wp2
      go_ret
      exact ⟨rfl, HB.out⟩
    | false =>
      have hxy : ¬ (plen P = 0 ∧ plen Q = 0) := of_decide_eq_false HB0.out
      have hg0 := (gcd_some HG1.out hxy).1
      have HG0 := Lib.hid hg0
      have HGZL : Hid ((pnorm (pmul g Z)).length ≤ 8) := Lib.hid (by have h9 := plen_pmul_le g Z; have h8 := HG5.out; show plen (pmul g Z) ≤ 8; omega)
      have HGZQ : Hid (∀ q ∈ pnorm (pmul g Z), qlen q ≤ 2021) := Lib.hid (fun q hq => Nat.le_trans (qlen_pmul2 (A := 500) (by decide) (by decide) HG3.out HQ2.out q hq) (by have := HLN2.out; omega))
      clear hxy hg0
      go_wp2_with fail
      refine (div_pv S (B := 64832) X.out HG.out (by omega) (by omega) (pow_mul_le (K := 6) (by omega) (by decide)) (by decide) HG0.out).mono ?_
      rintro e wc41 ⟨a7, n7, c7, q7, a8, n8, c8, r8, rfl, h7, h8, hd1, hd2, hd3, hd4, hd5, b⟩
      replace HB := Lib.hid (below_then HB.out b)
      replace X := Lib.hid (X.out.later b)
      replace Y := Lib.hid (Y.out.later b)
      replace V := Lib.hid (V.out.later b)
      replace HG := Lib.hid (HG.out.later b)
      have R8 := Lib.hid (h8)
      clear b
      obtain rfl := right_nil hd3 (HG1.out.1.1.rest hd1)
      obtain rfl : n8 = 0 := R8.out.len.symm
      clear h7 h8 hd1 hd2 hd3 hd4 hd5
      go_wp2_with fail
      refine (div_pv S (B := 64832) Y.out HG.out (by omega) (by omega) (pow_mul_le (K := 6) (by omega) (by decide)) (by decide) HG0.out).mono ?_
      rintro e wc42 ⟨a9, n9, c9, q9, a10, n10, c10, r10, rfl, h9, h10, hd1, hd2, hd3, hd4, hd5, b⟩
      replace HB := Lib.hid (below_then HB.out b)
      replace X := Lib.hid (X.out.later b)
      replace Y := Lib.hid (Y.out.later b)
      replace V := Lib.hid (V.out.later b)
      replace HG := Lib.hid (HG.out.later b)
      replace R8 := Lib.hid (R8.out.later b)
      have R10 := Lib.hid (h10)
      clear b
      obtain rfl := right_nil hd3 (HG1.out.1.2.1.rest hd1)
      obtain rfl : n10 = 0 := R10.out.len.symm
      clear h9 h10 hd1 hd2 hd3 hd4 hd5
      go_wp2_with fail
      refine (mul_pv S X.out V.out (by omega) (by omega) (by omega)).mono ?_
      rintro e wc43 ⟨a11, n11, c11, rfl, h11, b⟩
      replace HB := Lib.hid (below_then HB.out b)
      replace X := Lib.hid (X.out.later b)
      replace Y := Lib.hid (Y.out.later b)
      replace V := Lib.hid (V.out.later b)
      replace HG := Lib.hid (HG.out.later b)
      replace R8 := Lib.hid (R8.out.later b)
      replace R10 := Lib.hid (R10.out.later b)
      have hn11 : n11 ≤ 8 := (by rw [← h11.len]; exact HXZL.out)
      have R11 := Lib.hid (Pv.right h11 HXZQ.out)
      clear b
      clear h11
      go_wp2_with fail
      refine (mul_pv S Y.out V.out (by omega) (by omega) (by omega)).mono ?_
      rintro e wc44 ⟨a12, n12, c12, rfl, h12, b⟩
      replace HB := Lib.hid (below_then HB.out b)
      replace X := Lib.hid (X.out.later b)
      replace Y := Lib.hid (Y.out.later b)
      replace V := Lib.hid (V.out.later b)
      replace HG := Lib.hid (HG.out.later b)
      replace R8 := Lib.hid (R8.out.later b)
      replace R10 := Lib.hid (R10.out.later b)
      replace R11 := Lib.hid (R11.out.later b)
      have hn12 : n12 ≤ 8 := (by rw [← h12.len]; exact HYZL.out)
      have R12 := Lib.hid (Pv.right h12 HYZQ.out)
      clear b
      clear h12
      go_wp2_with fail
      refine (gcd_pv S (B := 8179) 8 8 R11.out R12.out (by omega) (by omega) (by decide) (by decide) (by decide) (by decide) (by decide)).mono ?_
      rintro e wc45 ⟨a13, n13, c13, g13, rfl, h13, hm1, hm2, hm3, b⟩
      replace HB := Lib.hid (below_then HB.out b)
      clear R11
      clear R12
      replace X := Lib.hid (X.out.later b)
      replace Y := Lib.hid (Y.out.later b)
      replace V := Lib.hid (V.out.later b)
      replace HG := Lib.hid (HG.out.later b)
      replace R8 := Lib.hid (R8.out.later b)
      replace R10 := Lib.hid (R10.out.later b)
      have R13 := Lib.hid (Pv.right h13 hm3)
      clear b
      have hn13 : n13 ≤ 8 := by
        have h9 := gcd_plen hm1
        rw [plen_right hm2, h13.len] at h9
        have h8 : plen (pnorm (pmul P Z)) ≤ 8 := Nat.le_trans (plen_le_length _) HXZL.out
        have h7 : plen (pnorm (pmul Q Z)) ≤ 8 := Nat.le_trans (plen_le_length _) HYZL.out
        omega
      have HM1 := Lib.hid hm1
      clear h13 hm1 hm2 hm3
      go_wp2_with fail
      refine (mul_pv S HG.out V.out (by omega) (by omega) (by omega)).mono ?_
      rintro e wc46 ⟨a14, n14, c14, rfl, h14, b⟩
      replace HB := Lib.hid (below_then HB.out b)
      replace X := Lib.hid (X.out.later b)
      replace Y := Lib.hid (Y.out.later b)
      replace V := Lib.hid (V.out.later b)
      replace HG := Lib.hid (HG.out.later b)
      replace R8 := Lib.hid (R8.out.later b)
      replace R10 := Lib.hid (R10.out.later b)
      replace R13 := Lib.hid (R13.out.later b)
      have hn14 : n14 ≤ 8 := (by rw [← h14.len]; exact HGZL.out)
      have R14 := Lib.hid (Pv.right h14 HGZQ.out)
      clear b
      clear h14
      go_wp2_with fail
      refine (gcd_pv S (B := 145595) 8 0 R14.out (Pv.nil _ 0) (by omega) (by omega) (by decide) (by decide) (by decide) (by decide) (by decide)).mono ?_
      rintro e wc47 ⟨a15, n15, c15, g15, rfl, h15, hm1, hm2, hm3, b⟩
      replace HB := Lib.hid (below_then HB.out b)
      clear R14
      replace X := Lib.hid (X.out.later b)
      replace Y := Lib.hid (Y.out.later b)
      replace V := Lib.hid (V.out.later b)
      replace HG := Lib.hid (HG.out.later b)
      replace R8 := Lib.hid (R8.out.later b)
      replace R10 := Lib.hid (R10.out.later b)
      replace R13 := Lib.hid (R13.out.later b)
      have R15 := Lib.hid (Pv.right h15 hm3)
      clear b
      have hn15 : n15 ≤ 8 := by
        have h9 := gcd_plen hm1
        rw [plen_right hm2, h15.len] at h9
        have h8 : plen (pnorm (pmul g Z)) ≤ 8 := Nat.le_trans (plen_le_length _) HGZL.out
        have h7 : plen ([] : List Rat) = 0 := rfl
        omega
      have HSM : Hid (pnorm g13 = pnorm g15) := Lib.hid (pnorm_congr (gcd_times HG1.out (HM1.out.of (pnorm_co _) (pnorm_co _)) (hm1.of (pnorm_co _) (peq.refl _))))
      clear h15 hm1 hm2 hm3 HM1
      have HDr := fun (w' : World) (a : Option Addr) (c : Nat) (h9 : Rw w' a 0 c []) => HDGH.out w' a 0 c 0 [] (-1) (by decide) (by decide) rfl (Pv.right h9 (fun q hq => by simp at hq))
      have HSS := fun (w' : World) (h9 : Pv w' a13 n13 c13 g13 8179) (h8 : Pv w' a15 n15 c15 g15 145595) => (decide_eq_true HSM.out) ▸ same_pv S h9 h8 (by omega) (by omega) (by decide) (by decide)
      go_wp2_with fail
      refine (HDr _ a8 c8 R8.out).mono ?_
      rintro e wc48 ⟨rfl, b⟩
      replace HB := Lib.hid (below_then HB.out b)
      clear R8
      replace X := Lib.hid (X.out.later b)
      replace Y := Lib.hid (Y.out.later b)
      replace V := Lib.hid (V.out.later b)
      replace HG := Lib.hid (HG.out.later b)
      replace R10 := Lib.hid (R10.out.later b)
      replace R13 := Lib.hid (R13.out.later b)
      replace R15 := Lib.hid (R15.out.later b)
      clear b
      go_wp2_with fail
      refine (HDr _ a10 c10 R10.out).mono ?_
      rintro e wc49 ⟨rfl, b⟩
      replace HB := Lib.hid (below_then HB.out b)
      clear R10
      replace X := Lib.hid (X.out.later b)
      replace Y := Lib.hid (Y.out.later b)
      replace V := Lib.hid (V.out.later b)
      replace HG := Lib.hid (HG.out.later b)
      replace R13 := Lib.hid (R13.out.later b)
      replace R15 := Lib.hid (R15.out.later b)
      clear b
      go_wp2_with fail
      refine (HSS _ R13.out R15.out).mono ?_
      rintro e wc50 ⟨rfl, b⟩
      replace HB := Lib.hid (below_then HB.out b)
      clear R13
      clear R15
      clear HG
      replace X := Lib.hid (X.out.later b)
      replace Y := Lib.hid (Y.out.later b)
      replace V := Lib.hid (V.out.later b)
      clear b
      clear HSM HSS HDr
      by_cases hz0 : plen Z = 0
      · have hz3 : zz < 0 := by have := HZZ.out; omega
        go_wp2_with fail
        refine (div0_pv S X.out V.out (by omega) (by omega) (by decide) (by decide) hz0).mono ?_
        rintro e wc61 ⟨rfl, b⟩
        replace HB := Lib.hid (below_then HB.out b)
        replace X := Lib.hid (X.out.later b)
        replace V := Lib.hid (V.out.later b)
        clear b
        clear hz0
        go_wp2_with fail
        refine (HDz _ a5 c5 V.out).mono ?_
        rintro e wc62 ⟨rfl, b⟩
        replace HB := Lib.hid (below_then HB.out b)
        replace X := Lib.hid (X.out.later b)
        replace V := Lib.hid (V.out.later b)
        clear b
        go_wp2_with fail
        refine (HW _).mono ?_
        rintro e wc63 ⟨rfl, b⟩
        replace HB := Lib.hid (below_then HB.out b)
        replace X := Lib.hid (X.out.later b)
        replace V := Lib.hid (V.out.later b)
        clear b
        go_wp2
        go_ret
        exact ⟨rfl, HB.out⟩
      · have hz3 : ¬ zz < 0 := by have := HZZ.out; omega
        go_wp2_with fail
        refine (div_pv S (B := 960) X.out V.out (by omega) (by omega) (pow_mul_le (K := 6) (by omega) (by decide)) (by decide) hz0).mono ?_
        rintro e wc71 ⟨a16, n16, c16, q16, a17, n17, c17, t17, rfl, h16, h17, hd1, hd2, hd3, hd4, hd5, b⟩
        replace HB := Lib.hid (below_then HB.out b)
        replace X := Lib.hid (X.out.later b)
        replace V := Lib.hid (V.out.later b)
        have R16 := Lib.hid (Pv.right h16 hd4)
        have R17 := Lib.hid (Pv.right h17 hd5)
        clear b
        have hn16 : n16 ≤ 5 := by
          have h9 := div_plen hd1
          rw [plen_right hd2, h16.len] at h9
          omega
        have hn17 : n17 ≤ 4 := by
          have h9 := hd1.2
          rw [plen_right hd3, h17.len] at h9
          omega
        have HQZ : Hid (∀ q ∈ pnorm (pmul q16 Z), qlen q ≤ 3861) := Lib.hid (fun q hq => Nat.le_trans (qlen_pmul2 (A := 960) (by decide) (by decide) hd4 HQ2.out q hq) (by have := HLN2.out; omega))
        have HQL : Hid ((pnorm (pmul q16 Z)).length ≤ 8) := Lib.hid (by
          have h9 := plen_pmul_le q16 Z
          have h8 := div_plen hd1
          show plen (pmul q16 Z) ≤ 8
          omega)
        have HSQ : Hid (∀ q ∈ pnorm (padd (pnorm (pmul q16 Z)) t17), qlen q ≤ 5000) := Lib.hid (fun q hq => Nat.le_trans (qlen_padd (A := 3861) (B := 960) (by decide) (by decide) HQZ.out hd5 q hq) (by decide))
        have HSE : Hid (pnorm (pnorm (padd (pnorm (pmul q16 Z)) t17)) = pnorm P) := Lib.hid (by
          rw [pnorm_pnorm]
          exact pnorm_congr ((padd_congr (pnorm_co _) (peq.refl _)).trans hd1.1.symm))
        obtain ⟨zt, hzt⟩ : ∃ z : Int, (plen t17 : Int) - 1 = z := ⟨_, rfl⟩
        have hz5 : zt < zz := by have := HZZ.out; have := hd1.2; omega
        have HDt := fun (w' : World) (h9 : Pv w' a17 n17 c17 t17 960) => HDGH.out w' a17 n17 c17 960 t17 zt (by omega) (by decide) hzt h9
        have HZT := Lib.hid hzt
        clear h16 h17 hd1 hd2 hd3 hd4 hd5 hz0 hzt
        go_wp2_with fail
        refine (HDz _ a5 c5 V.out).mono ?_
        rintro e wc72 ⟨rfl, b⟩
        replace HB := Lib.hid (below_then HB.out b)
        replace X := Lib.hid (X.out.later b)
        replace V := Lib.hid (V.out.later b)
        replace R16 := Lib.hid (R16.out.later b)
        replace R17 := Lib.hid (R17.out.later b)
        clear b
        go_wp2_with fail
        refine (mul_pv S R16.out V.out (by omega) (by omega) (by omega)).mono ?_
        rintro e wc73 ⟨a18, n18, c18, rfl, h18, b⟩
        replace HB := Lib.hid (below_then HB.out b)
        clear R16
        replace X := Lib.hid (X.out.later b)
        replace V := Lib.hid (V.out.later b)
        replace R17 := Lib.hid (R17.out.later b)
        have hn18 : n18 ≤ 8 := (by rw [← h18.len]; exact HQL.out)
        have R18 := Lib.hid (Pv.right h18 HQZ.out)
        clear b
        clear h18
        go_wp2_with fail
        refine (add_pv S R18.out R17.out (by omega) (by omega) (by decide) (by decide)).mono ?_
        rintro e wc74 ⟨a19, n19, c19, rfl, h19, b⟩
        replace HB := Lib.hid (below_then HB.out b)
        clear R18
        replace X := Lib.hid (X.out.later b)
        replace V := Lib.hid (V.out.later b)
        replace R17 := Lib.hid (R17.out.later b)
        have hn19 : n19 ≤ 8 := (by
          rw [← h19.len]
          refine Nat.le_trans (pnorm_length_le _) (Nat.le_trans (padd_length _ _) ?_)
          have h9 := HQL.out
          have h8 := R17.out.len
          omega)
        have R19 := Lib.hid (Pv.right h19 HSQ.out)
        clear b
        clear h19
        have HSX := fun (w' : World) (h9 : Pv w' a19 n19 c19 (pnorm (padd (pnorm (pmul q16 Z)) t17)) 5000) (h8 : Pv w' a3 n0 c3 P 1) => (decide_eq_true HSE.out) ▸ same_pv S h9 h8 (by omega) (by omega) (by decide) (by decide)
        go_wp2_with fail
        refine (HSX _ R19.out X.out).mono ?_
        rintro e wc75 ⟨rfl, b⟩
        replace HB := Lib.hid (below_then HB.out b)
        clear R19
        clear X
        replace V := Lib.hid (V.out.later b)
        replace R17 := Lib.hid (R17.out.later b)
        clear b
        go_wp2_with fail
        refine (HDt _ R17.out).mono ?_
        rintro e wc76 ⟨rfl, b⟩
        replace HB := Lib.hid (below_then HB.out b)
        clear R17
        replace V := Lib.hid (V.out.later b)
        clear b
        go_wp2_with fail
        refine (HDz _ a5 c5 V.out).mono ?_
        rintro e wc77 ⟨rfl, b⟩
        replace HB := Lib.hid (below_then HB.out b)
        replace V := Lib.hid (V.out.later b)
        clear b
        go_wp2_with fail
        refine (HW _).mono ?_
        rintro e wc78 ⟨rfl, b⟩
        replace HB := Lib.hid (below_then HB.out b)
        replace V := Lib.hid (V.out.later b)
        clear b
        go_wp2
        go_ret
        exact ⟨rfl, HB.out⟩
theorem law14_common (S : PolySaid) (HW : ∀ w : World, Calls Try.prog 7 #[] w (Gives (.bool true) w)) (a0 : Option Addr) (n0 c0 : Nat) (K0 : List Fx) (a1 : Option Addr) (n1 c1 : Nat) (K1 : List Fx) (a2 : Option Addr) (n2 c2 : Nat) (K2 : List Fx) (w : World) (h0 : Fxs w a0 n0 c0 K0) (h1 : Fxs w a1 n1 c1 K1) (h2 : Fxs w a2 n2 c2 K2) : Calls Try.prog 4 #[.slice a0 n0 c0, .slice a1 n1 c1, .slice a2 n2 c2] w (Gives (.bool true) w) := by
  by_cases hb0 : ((n0 : Int) ≤ 5 ∧ thinI 1 K0)
  · by_cases hb1 : ((n1 : Int) ≤ 5 ∧ thinI 1 K1)
    · by_cases hb2 : ((n2 : Int) ≤ 4 ∧ thinI 1 K2)
      · exact law14_common_main S HW a0 n0 c0 K0 a1 n1 c1 K1 a2 n2 c2 K2 w h0 h1 h2 hb0 hb1 hb2
      · exact law14_common_e2 HW a0 n0 c0 K0 a1 n1 c1 K1 a2 n2 c2 K2 w h0 h1 h2 hb0 hb1 hb2
    · exact law14_common_e1 HW a0 n0 c0 K0 a1 n1 c1 K1 a2 n2 c2 K2 w h0 h1 h2 hb0 hb1
  · exact law14_common_e0 HW a0 n0 c0 K0 a1 n1 c1 K1 a2 n2 c2 K2 w h0 h1 h2 hb0
end Go.Proofs.Ytipcgehcineblaa
