/-
  The contracts of the document's answer for layer 6: One, Over, Lcm.
-/
import Derived.Test.YtkpnhohaolfmgaaRef06b
namespace Go.Proofs.Ytkpnhohaolfmgaa
open Go.RowKit

theorem ref06_one (a : Option Addr) (n cap : Nat) (v : Nat) (w : World) (h : Wd w a n cap (dg v)) :
    Calls Try.prog 13 #[.slice a n cap] w fun e w' => e = .returned (.bool (decide (v = 1))) ∧ w = w' := by
  have Hl := Lib.hid h.len
  by_cases hn : n = 1
  · subst hn
    obtain ⟨b, off, rfl, hc⟩ := h.at (by omega)
    have hc0 := hc 0 (by omega)
    have hv : atw (dg v) 0 = v := by
      have hl1 : (dg v).length = 1 := Hl.out
      have h1 := val_two (l := dg v) (by omega)
      rw [val_dg, atw_ge (l := dg v) (i := 1) (by omega)] at h1
      omega
    rw [hv, Nat.add_zero] at hc0
    clear hc h hv
    go_enter Try.func13, Try.ntmps13
    go_wp2
    go_ret
    exact ⟨ret_bool (by rw [Bool.eq_iff_iff, beq_iff_eq, decide_eq_true_eq]; omega), rfl⟩
  · have hni : ((n : Int) == 1) = false := by simp; omega
    have Hv : Hid (v ≠ 1) := Lib.hid (fun e => by subst e; have := Hl.out; rw [dg_word (by decide) (by decide)] at this; exact hn this.symm)
    clear hn h
    go_enter Try.func13, Try.ntmps13
    go_wp2
    go_ret
    exact ⟨ret_bool (decide_eq_false Hv.out).symm, rfl⟩
theorem ref06_over (a : Option Addr) (n cap : Nat) (la : List Nat) (b : Option Addr) (m cap' : Nat) (v : Nat) (w : World) (ha : Wd w a n cap la) (hb : Wd w b m cap' (dg v)) (hn : n ≤ 100000) (hm : m ≤ 100000) (h0 : Hid (v ≠ 0)) :
    Calls Try.prog 16 #[.slice a n cap, .slice b m cap'] w (Lst (dg (val la / v)) w) := by
  have Ha := Lib.hid ha
  have Hb := Lib.hid hb
  clear ha hb
  go_enter Try.func16, Try.ntmps16
  go_wp2_with fail
  refine (ref06_one _ _ _ v _ Hb.out).mono ?_
  rintro e w' ⟨rfl, rfl⟩
  by_cases h1 : v = 1
  · have HF : Hid (val la / v = val la) := Lib.hid (by rw [h1, Nat.div_one])
    rw [decide_eq_true h1]
    clear h1
    go_wp2_with fail
    refine (ref02_norm _ _ _ _ _ Ha.out (by omega)).mono ?_
    rintro e w1 ⟨a1, n1, c1, rfl, h1, b1⟩
    rw [← HF.out] at h1
    have H1 := Lib.hid h1
    clear h1
    go_wp2
    go_ret
    exact ⟨a1, n1, c1, rfl, H1.out, b1⟩
  · rw [decide_eq_false h1]
    clear h1
    go_wp2_with fail
    refine (ref05_div _ _ _ _ _ _ _ _ _ Ha.out Hb.out (by omega) (by omega) (by rw [val_dg]; exact h0)).mono ?_
    rintro e w1 ⟨a1, n1, c1, a2, n2, c2, rfl, h1, h2, b1⟩
    rw [val_dg] at h1
    have H1 := Lib.hid h1
    clear h1 h2
    go_wp2
    go_ret
    exact ⟨a1, n1, c1, rfl, H1.out, b1⟩
theorem lcm_over (a b : Nat) : a / Nat.gcd a b * b = Nat.lcm a b := by
  unfold Nat.lcm
  rw [Nat.mul_comm, ← Nat.mul_div_assoc _ (Nat.gcd_dvd_left a b), Nat.mul_comm]
theorem gcd_length_le (a b : Nat) : (dg (Nat.gcd a b)).length ≤ (dg a).length ∨ (dg (Nat.gcd a b)).length ≤ (dg b).length := by
  by_cases h : a = 0
  · right; rw [h, Nat.gcd_zero_left]; exact Nat.le_refl _
  · left; exact dg_length_mono (Nat.gcd_le_left b (Nat.pos_of_ne_zero h))
theorem ref06_lcm (a : Option Addr) (n cap : Nat) (la : List Nat) (b : Option Addr) (m cap' : Nat) (lb : List Nat) (w : World) (ha : Wd w a n cap la) (hb : Wd w b m cap' lb) (hn : n ≤ 100000) (hm : m ≤ 100000) :
    Calls Try.prog 15 #[.slice a n cap, .slice b m cap'] w (Lst (dg (Nat.lcm (val la) (val lb))) w) := by
  have hgl : (dg (Nat.gcd (val la) (val lb))).length ≤ 100000 := by
    have h1 := ha.trim_le
    have h2 := hb.trim_le
    rcases gcd_length_le (val la) (val lb) with h | h <;> omega
  have hal : (dg (val la / Nat.gcd (val la) (val lb))).length ≤ n := Nat.le_trans (dg_length_mono (Nat.div_le_self _ _)) ha.trim_le
  have Ha := Lib.hid ha
  have Hb := Lib.hid hb
  clear ha hb
  go_enter Try.func15, Try.ntmps15
  go_wp2_with fail
  refine (ref06_gcd _ _ _ _ _ _ _ _ _ Ha.out Hb.out hn hm).mono ?_
  rintro e w1 ⟨a1, n1, c1, rfl, h1, b1⟩
  have hn1 : n1 ≤ 100000 := by rw [← h1.len]; exact hgl
  have HL := Lib.hid (lcm_over (val la) (val lb))
  have Hz : Hid (n1 = 0 ↔ Nat.gcd (val la) (val lb) = 0) := Lib.hid (by rw [← h1.len]; exact dg_nil_iff)
  have H1 := Lib.hid h1
  clear h1 hgl
  by_cases h0 : n1 = 0
  · subst h0
    have HF : Hid (dg (Nat.lcm (val la) (val lb)) = dg (Nat.gcd (val la) (val lb))) := Lib.hid (by
      have hg := Hz.out.1 rfl
      have h2 := Nat.eq_zero_of_gcd_eq_zero_left hg
      rw [hg, h2, Nat.lcm_zero_left])
    go_wp2
    go_ret
    exact ⟨a1, 0, c1, rfl, by rw [HF.out]; exact H1.out, b1⟩
  · have hni : ((n1 : Int) == 0) = false := by simp [h0]
    have Hg0 : Hid (Nat.gcd (val la) (val lb) ≠ 0) := Lib.hid (fun h => h0 (Hz.out.2 h))
    clear h0 Hz
    go_wp2_with fail
    refine (ref06_over _ _ _ _ _ _ _ _ _ (Ha.out.later b1) H1.out hn hn1 Hg0).mono ?_
    rintro e w2 ⟨a2, n2, c2, rfl, h2, b2⟩
    have hn2 : n2 ≤ n := by rw [← h2.len]; exact hal
    have H2 := Lib.hid h2
    have hB2 := below_then b1 b2
    clear h2 hal
    go_wp2_with fail
    refine (ref04_mul _ _ _ _ _ _ _ _ _ H2.out (Hb.out.later hB2) (by omega) (by omega)).mono ?_
    rintro e w3 ⟨a3, n3, c3, rfl, h3, b3⟩
    rw [val_dg, HL.out] at h3
    have H3 := Lib.hid h3
    clear h3
    go_wp2
    go_ret
    exact ⟨a3, n3, c3, rfl, H3.out, below_then hB2 b3⟩
end Go.Proofs.Ytkpnhohaolfmgaa
