/-
  The contracts of package quot (layer 5) at this seat: Div, Exact.
-/
import Derived.Test.YtkpnhohaolfmgaaQuot3
namespace Go.Proofs.Ytkpnhohaolfmgaa
open Go.RowKit

/-- Two lists of words, and whether there are any. -/
def Two (p q : List Nat) (ok : Bool) (w : World) (e : Ending) (w' : World) : Prop :=
  ∃ (a : Option Addr) (n cap : Nat) (b : Option Addr) (m cap' : Nat), e = .returned (.tuple #[.slice a n cap, .slice b m cap', .bool ok]) ∧ Wd w' a n cap p ∧ Wd w' b m cap' q ∧ Below w.heap.size w w'
theorem dg_one {v : Nat} (h : (dg v).length = 1) : atw (dg v) 0 = v := by
  have h1 := val_two (l := dg v) (by omega)
  rw [val_dg, atw_ge (l := dg v) (i := 1) (by omega)] at h1
  omega
theorem quot_div_none (a : Option Addr) (n cap : Nat) (b : Option Addr) (m cap' : Nat) (lb : List Nat) (w : World) (hb : Wd w b m cap' lb) (hm : m ≤ 500000) (h0 : Hid (val lb = 0)) :
    Calls Try.prog 31 #[.slice a n cap, .slice b m cap'] w (Two [] [] false w) := by
  go_enter Try.func31, Try.ntmps31
  go_wp2_with fail
  refine (natSaid.norm _ _ _ _ _ hb (by omega)).mono ?_
  rintro e w1 ⟨b1, M, c1, rfl, h1, hB1⟩
  rw [h0.out, dg_zero] at h1
  obtain rfl : M = 0 := h1.len.symm
  go_wp2
  go_ret3
  exact ⟨_, _, _, _, _, _, rfl, Wd.ofNil _, Wd.ofNil _, hB1⟩
set_option maxHeartbeats 2000000 in
theorem quot_div (a : Option Addr) (n cap : Nat) (la : List Nat) (b : Option Addr) (m cap' : Nat) (lb : List Nat) (w : World) (ha : Wd w a n cap la) (hb : Wd w b m cap' lb) (hn : n ≤ 500000) (hm : m ≤ 500000) (h0 : Hid (val lb ≠ 0)) :
    Calls Try.prog 31 #[.slice a n cap, .slice b m cap'] w (Two (dg (val la / val lb)) (dg (val la % val lb)) true w) := by
  have hM : (dg (val lb)).length ≤ m := hb.trim_le
  have Ha := Lib.hid ha
  clear ha
  go_enter Try.func31, Try.ntmps31
  go_wp2_with fail
  refine (natSaid.norm _ _ _ _ _ hb (by omega)).mono ?_
  rintro e w1 ⟨b1, M, c1, rfl, h1, hB1⟩
  have HM : Hid ((dg (val lb)).length = M) := Lib.hid h1.len
  have hMn : M ≤ 500000 := by have := HM.out; omega
  have hM0 : M ≠ 0 := fun h => h0.out (dg_nil_iff.1 (HM.out.trans h))
  have hMb : ((M : Int) == 0) = false := by simp [hM0]
  have H1 := Lib.hid h1
  have Ha1 := Lib.hid (Ha.out.later hB1)
  generalize hvb : val lb = vb at *
  clear h1 hb hM Ha hvb
  have Hv : Hid (val (dg vb) = vb) := Lib.hid (val_dg _)
  go_wp2_with fail
  refine (natSaid.cmp _ _ _ _ _ _ _ _ _ Ha1.out H1.out (by omega) (by omega)).mono ?_
  rintro e w2 ⟨rfl, hB2⟩
  rw [Hv.out]
  have Ha2 := Lib.hid (Ha1.out.later hB2)
  have H2 := Lib.hid (H1.out.later hB2)
  have hB12 := below_then hB1 hB2
  clear H1 Ha1 hB1 hB2
  by_cases hlt : val la < vb
  · have hc : cmpI (val la) vb < 0 := by rw [cmpI_lt hlt]; omega
    have Hq : Hid (val la / vb = 0 ∧ val la % vb = val la) := Lib.hid ⟨Nat.div_eq_of_lt hlt, Nat.mod_eq_of_lt hlt⟩
    clear hlt
    generalize cmpI (val la) vb = c at *
    go_wp2_with fail
    refine (natSaid.norm _ _ _ _ _ Ha2.out (by omega)).mono ?_
    rintro e w3 ⟨a3, n3, c3, rfl, h3, hB3⟩
    have H3 := Lib.hid h3
    clear h3
    go_wp2
    go_ret3
    exact ⟨_, _, _, _, _, _, rfl, by rw [Hq.out.1, dg_zero]; exact Wd.ofNil _, by rw [Hq.out.2]; exact H3.out, below_then hB12 hB3⟩
  · have hc : ¬ cmpI (val la) vb < 0 := by unfold cmpI; split <;> (try split) <;> omega
    have Hle : Hid (vb ≤ val la) := Lib.hid (by omega)
    clear hlt
    generalize cmpI (val la) vb = c at *
    by_cases hM1 : M = 1
    · subst hM1
      obtain ⟨bb, ob, rfl, hcb⟩ := H2.out.at (by omega)
      have hcb0 := hcb 0 (by omega)
      rw [dg_one HM.out, Nat.add_zero] at hcb0
      have hvw : vb < 4294967296 := by have := lt_dg_length vb; rw [HM.out] at this; simpa using this
      have hv0 : 0 < vb := Nat.pos_of_ne_zero h0.out
      clear hcb
      go_wp2_with fail
      refine (quot_word _ _ _ _ vb _ Ha2.out (by omega) hvw hv0).mono ?_
      rintro e w3 ⟨a3, n3, c3, rfl, h3, hB3⟩
      have hrw : val la % vb < 4294967296 := Nat.lt_trans (Nat.mod_lt _ hv0) hvw
      have H3 := Lib.hid h3
      obtain ⟨r, hr⟩ : ∃ r, r = val la % vb := ⟨_, rfl⟩
      rw [← hr] at hrw ⊢
      have Hr := Lib.hid hr
      clear h3 hr
      go_wp2_with fail
      refine (natSaid.of r _ (by omega)).mono ?_
      rintro e w4 ⟨a4, n4, c4, rfl, h4, hB4⟩
      have H4 := Lib.hid h4
      have H3b := Lib.hid (H3.out.later hB4)
      clear h4
      go_wp2
      go_ret3
      exact ⟨_, _, _, _, _, _, rfl, H3b.out, by rw [← Hr.out]; exact H4.out, below_then hB12 (below_then hB3 hB4)⟩
    · have hMc : ((M : Int) == 1) = false := by simp; omega
      go_wp2_with fail
      refine (quot_long _ _ _ _ _ _ _ vb _ Ha2.out H2.out (by omega) (by omega) (by omega) Hle).mono ?_
      rintro e w3 ⟨a3, n3, c3, b3, m3, d3, rfl, h3, k3, hB3⟩
      have H3 := Lib.hid h3
      have K3 := Lib.hid k3
      clear h3 k3
      go_wp2
      go_ret3
      exact ⟨_, _, _, _, _, _, rfl, H3.out, K3.out, below_then hB12 hB3⟩
theorem quot_exact_none (a : Option Addr) (n cap : Nat) (b : Option Addr) (m cap' : Nat) (lb : List Nat) (w : World) (hb : Wd w b m cap' lb) (hm : m ≤ 500000) (h0 : Hid (val lb = 0)) :
    Calls Try.prog 21 #[.slice a n cap, .slice b m cap'] w (Lst2 [] (.bool false) w) := by
  go_enter Try.func21, Try.ntmps21
  go_wp2_with fail
  refine (quot_div_none _ _ _ _ _ _ _ _ hb hm h0).mono ?_
  rintro e w1 ⟨a1, n1, c1, b1, m1, d1, rfl, h1, k1, hB1⟩
  go_wp2
  go_ret2
  exact ⟨_, _, _, rfl, Wd.ofNil _, hB1⟩
/-- Whether there is no rest; the quotient, if there is none. -/
def exactB (v x : Nat) : Bool := decide (v % x = 0)
def exactL (v x : Nat) : List Nat := if v % x = 0 then dg (v / x) else []
theorem quot_exact (a : Option Addr) (n cap : Nat) (la : List Nat) (b : Option Addr) (m cap' : Nat) (lb : List Nat) (w : World) (ha : Wd w a n cap la) (hb : Wd w b m cap' lb) (hn : n ≤ 500000) (hm : m ≤ 500000) (h0 : Hid (val lb ≠ 0)) :
    Calls Try.prog 21 #[.slice a n cap, .slice b m cap'] w (Lst2 (exactL (val la) (val lb)) (.bool (exactB (val la) (val lb))) w) := by
  have hlen : (dg (val la % val lb)).length ≤ m := by
    rw [← hb.len]
    exact Nat.le_trans (dg_length_mono (Nat.le_of_lt (Nat.mod_lt _ (Nat.pos_of_ne_zero h0.out)))) (dg_length_val_le hb.ok)
  go_enter Try.func21, Try.ntmps21
  go_wp2_with fail
  refine (quot_div _ _ _ _ _ _ _ _ _ ha hb hn hm h0).mono ?_
  rintro e w1 ⟨a1, n1, c1, b1, m1, d1, rfl, h1, k1, hB1⟩
  have hm1 : m1 ≤ 500000 := by rw [← k1.len]; omega
  have H1 := Lib.hid h1
  have K1 := Lib.hid k1
  clear h1 k1 ha hb hlen
  have Hv : Hid (val (dg (val la % val lb)) = val la % val lb) := Lib.hid (val_dg _)
  have HL : Hid (exactL (val la) (val lb) = if val la % val lb = 0 then dg (val la / val lb) else []) := Lib.hid rfl
  have HB : Hid (exactB (val la) (val lb) = decide (val la % val lb = 0)) := Lib.hid rfl
  go_wp2_with fail
  refine (natSaid.zero _ _ _ _ _ K1.out (by omega)).mono ?_
  rintro e w2 ⟨rfl, hB2⟩
  rw [Hv.out]
  have H2 := Lib.hid (H1.out.later hB2)
  by_cases hz : val la % val lb = 0
  · rw [hz] at HL HB ⊢
    have HL2 : Hid (exactL (val la) (val lb) = dg (val la / val lb)) := Lib.hid HL.out
    clear hz HL
    go_wp2
    go_ret2
    exact ⟨_, _, _, by rw [HB.out]; rfl, by rw [HL2.out]; exact H2.out, below_then hB1 hB2⟩
  · have HL2 : Hid (exactL (val la) (val lb) = []) := Lib.hid (by rw [HL.out, if_neg hz])
    have hd : decide (val la % val lb = 0) = false := decide_eq_false hz
    rw [hd]
    rw [hd] at HB
    clear hz hd HL
    go_wp2
    go_ret2
    exact ⟨_, _, _, by rw [HB.out]; rfl, by rw [HL2.out]; exact Wd.ofNil _, below_then hB1 hB2⟩
end Go.Proofs.Ytkpnhohaolfmgaa
