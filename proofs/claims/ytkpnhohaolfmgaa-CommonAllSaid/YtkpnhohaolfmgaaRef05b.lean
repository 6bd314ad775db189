/-
  The contracts of the document's answer for layer 5: Div.
-/
import Derived.Test.YtkpnhohaolfmgaaRef05
import Derived.Test.YtkpnhohaolfmgaaRef03
import Derived.StillTailTactics
namespace Go.Proofs.Ytkpnhohaolfmgaa
open Go.RowKit

/-- A long division, bit by bit: what A is without its lowest k bits is what Q and R hold. -/
def BitsAt (A B : Nat) (Q R : List Nat) (k : Nat) : Prop := A / 2 ^ k = val Q * B + val R ∧ val R < B
theorem bits_start {A B n m : Nat} (hB : 0 < B) : BitsAt A B (List.replicate n 0) (List.replicate m 0) (blen A) := by
  refine ⟨?_, by rw [val_zeros]; exact hB⟩
  rw [val_zeros, val_zeros, Nat.div_eq_of_lt (lt_blen A)]
  simp
theorem bits_next (A k : Nat) : A / 2 ^ k = 2 * (A / 2 ^ (k + 1)) + (if A.testBit k = true then 1 else 0) := by
  have h1 : A / 2 ^ (k + 1) = A / 2 ^ k / 2 := by rw [Nat.pow_succ, Nat.div_div_eq_div_mul]
  have h2 : A.testBit k = decide (A / 2 ^ k % 2 = 1) := Nat.testBit_eq_decide_div_mod_eq
  rw [h1, h2]
  by_cases h : A / 2 ^ k % 2 = 1
  · rw [decide_eq_true h, if_pos rfl]; omega
  · rw [decide_eq_false h, if_neg (by simp)]; omega
/-- The rest doubled keeps its room. -/
theorem bits_rest {A B m : Nat} {Q R R2 : List Nat} {k z c0 : Nat} (h : BitsAt A B Q R (k + 1)) (hB : B < 4294967296 ^ m) (h2 : val R2 + 4294967296 ^ (m + 1) * z = 2 * val R + c0) (hc : c0 ≤ 1) : val R2 = 2 * val R + c0 := by
  have h3 := h.2
  rw [pow_succ32] at h2
  rcases Nat.eq_zero_or_pos z with h0 | h0
  · subst h0; omega
  · have h4 : 4294967296 * 4294967296 ^ m * 1 ≤ 4294967296 * 4294967296 ^ m * z := Nat.mul_le_mul_left _ h0
    generalize 4294967296 * 4294967296 ^ m * z = a1 at *
    generalize 4294967296 ^ m = a2 at *
    omega
/-- So does the quotient. -/
theorem bits_quot {A B n : Nat} {Q R Q2 : List Nat} {k z : Nat} (h : BitsAt A B Q R (k + 1)) (hA : A < 4294967296 ^ n) (h2 : val Q2 + 4294967296 ^ n * z = 2 * val Q + 0) : val Q2 = 2 * val Q := by
  have h3 := h.1
  have h4 := h.2
  have h5 : 2 * (A / 2 ^ (k + 1)) ≤ A := by
    have h6 := Nat.div_mul_le_self A (2 ^ (k + 1))
    rw [Nat.pow_succ] at *
    have h7 := Nat.two_pow_pos k
    have h8 : A / (2 ^ k * 2) * 2 ≤ A / (2 ^ k * 2) * (2 ^ k * 2) := Nat.mul_le_mul_left _ (by omega)
    omega
  have h9 : val Q * 1 ≤ val Q * B := Nat.mul_le_mul_left _ (by omega)
  rcases Nat.eq_zero_or_pos z with h0 | h0
  · subst h0; omega
  · have h10 : 4294967296 ^ n * 1 ≤ 4294967296 ^ n * z := Nat.mul_le_mul_left _ h0
    generalize 4294967296 ^ n * z = a1 at *
    generalize 4294967296 ^ n = a2 at *
    generalize val Q * B = a3 at *
    omega
theorem bits_no {A B : Nat} {Q R Q2 R2 : List Nat} {k c0 : Nat} (h : BitsAt A B Q R (k + 1)) (hc : c0 = if A.testBit k = true then 1 else 0) (hq : val Q2 = 2 * val Q) (hr : val R2 = 2 * val R + c0) (hlt : val R2 < B) : BitsAt A B Q2 R2 k := by
  refine ⟨?_, hlt⟩
  rw [bits_next, ← hc, h.1, hq, hr, Nat.mul_add, Nat.mul_assoc]
  omega
theorem bits_yes {A B : Nat} {Q R Q2 R2 R3 : List Nat} {k c0 : Nat} (h : BitsAt A B Q R (k + 1)) (hc : c0 = if A.testBit k = true then 1 else 0) (hc1 : c0 ≤ 1) (hq : val Q2 = 2 * val Q) (hr : val R2 = 2 * val R + c0) (hge : B ≤ val R2) (h3 : val R3 = val R2 - B) (hl : 0 < Q2.length) (ho : okw Q2) :
    BitsAt A B (Q2.set 0 (atw Q2 0 + 1)) R3 k ∧ atw Q2 0 + 1 < 4294967296 := by
  have e1 := val_set Q2 0 (atw Q2 0 + 1) hl
  rw [Nat.pow_zero, Nat.one_mul, Nat.one_mul] at e1
  have e2 : val (Q2.set 0 (atw Q2 0 + 1)) = 2 * val Q + 1 := by omega
  have h4 := h.2
  refine ⟨⟨?_, by omega⟩, ?_⟩
  · rw [bits_next, ← hc, h.1, e2, Nat.mul_add, Nat.add_mul, Nat.mul_assoc, h3, hr]
    omega
  · have h5 := top_succ Q2 0
    rw [top_zero, hq] at h5
    have h6 := atw_lt ho 0
    omega
theorem bits_end {A B : Nat} {Q R : List Nat} (h : BitsAt A B Q R 0) : val Q = A / B ∧ val R = A % B := by
  have h1 := h.1
  have h2 := h.2
  rw [Nat.pow_zero, Nat.div_one] at h1
  rw [h1, Nat.mul_comm, Nat.mul_add_div (by omega), Nat.mul_add_mod, Nat.div_eq_of_lt h2, Nat.mod_eq_of_lt h2]
  omega
def Div5Post (p q : Nat) (w : World) (e : Ending) (w' : World) : Prop :=
  ∃ (a : Option Addr) (n cap : Nat) (b : Option Addr) (m cap' : Nat), e = .returned (.tuple #[.slice a n cap, .slice b m cap']) ∧ Wd w' a n cap (dg p) ∧ Hid (w'.ownsRow w.heap.size 38 1 (.slice b m cap') m (wcells (dg q))) ∧ Below w.heap.size w w'
set_option maxRecDepth 4096 in
set_option maxHeartbeats 4000000 in
theorem ref05_div (a : Option Addr) (n cap : Nat) (la : List Nat) (b : Option Addr) (m cap' : Nat) (lb : List Nat) (w : World) (ha : Wd w a n cap la) (hb : Wd w b m cap' lb) (hn : n ≤ 500000) (hm : m ≤ 500000) (h0 : Hid (val lb ≠ 0)) :
    Calls Try.prog 34 #[.slice a n cap, .slice b m cap'] w (Div5Post (val la / val lb) (val la % val lb) w) := by
  obtain ⟨i0, hi, hz0, hz1, hz2⟩ := info_parts infoWord
  have Ha := Lib.hid ha
  have Hb := Lib.hid hb
  have hbl : blen (val la) ≤ 32 * n := blen_le.2 (by rw [← pow32, ← ha.len]; exact val_lt ha.ok)
  clear ha hb
  obtain ⟨M, hM⟩ : ∃ M : Nat, (m : Int) + 1 = (M : Int) := ⟨m + 1, by omega⟩
  have HM : Hid (M = m + 1) := Lib.hid (by omega)
  have hMb : M ≤ 500001 := by omega
  go_enter Try.func34, Try.ntmps34
  go_wp2_with (first
    | (at_make; refine wpList_make_words _ rfl _ _ 22 rfl w.heap.size 38 i0 (.int .u32 0) Try.underlying22 hi hz0 hz1 rfl .i64 .i64 _ _ n n rfl rfl rfl rfl (Nat.le_refl _) (by rw [hz2]; omega) (by unfold maxLen; omega) (Nat.le_refl _) ?_; intro w1 hown1 hgrow1; rw [zeros_cells] at hown1; have HQ1 : Hid (Own w1 w.heap.size w.heap.size n n (List.replicate n 0)) := Lib.hid ⟨hown1, okw_zeros n⟩; have hB1 : Below w.heap.size w w1 := (Below.refl _ _).grown hgrow1 (Nat.le_refl _) (fun k hk => by cases hk); clear hown1 hgrow1)
    | (at_make; refine wpList_make_words _ rfl _ _ 22 rfl w.heap.size 38 i0 (.int .u32 0) Try.underlying22 hi hz0 hz1 rfl .i64 .i64 _ _ M M rfl rfl rfl rfl (Nat.le_refl _) (by rw [hz2]; omega) (by unfold maxLen; omega) hB1.size ?_; intro w2 hown2 hgrow2; rw [zeros_cells] at hown2; have HR2 : Hid (Own w2 w.heap.size w1.heap.size M M (List.replicate M 0)) := Lib.hid ⟨hown2, okw_zeros M⟩; have hB2 : Below w.heap.size w w2 := hB1.grown hgrow2 hB1.size (fun k hk => by cases hk); have HQ2 : Hid (Own w2 w.heap.size w.heap.size n n (List.replicate n 0)) := Lib.hid (HQ1.out.stay hgrow2); clear hown2 hgrow2))
  have hne : w.heap.size ≠ w1.heap.size := by have := HQ1.out.base; omega
  generalize hgq : w.heap.size = base at *
  have hbq := HQ2.out.base
  have hbr := HR2.out.base
  have hBw := Lib.hid hB2
  generalize w1.heap.size = gr at *
  clear HQ1 hB1 hB2
  obtain ⟨B, HB⟩ : ∃ B, Hid (B = val lb) := ⟨_, rfl⟩
  obtain ⟨A, HA⟩ : ∃ A, Hid (A = val la) := ⟨_, rfl⟩
  rw [← HB.out] at h0 ⊢
  rw [← HA.out] at hbl ⊢
  have HAn : Hid (A < 4294967296 ^ n) := Lib.hid (by rw [HA.out, ← Ha.out.len]; exact val_lt Ha.out.ok)
  have HBm : Hid (B < 4294967296 ^ m) := Lib.hid (by rw [HB.out, ← Hb.out.len]; exact val_lt Hb.out.ok)
  have HAb : Hid (∀ k, A.testBit k = decide (atw la (k / 32) / 2 ^ (k % 32) % 2 = 1)) := Lib.hid (fun k => by rw [HA.out]; exact low_bit la Ha.out.ok k)
  have HS := Lib.hid (bits_start (A := A) (n := n) (m := M) (Nat.pos_of_ne_zero h0.out))
  rw [← hgq] at *
  refine (ref03_len _ _ _ _ _ (Ha.out.later hBw.out) (by omega)).mono ?_
  rintro e w' ⟨rfl, rfl⟩
  rw [← HA.out]
  generalize blen A = y at *
  go_wp2
  go_loopw [8] (fun iv wr => ∃ (k : Nat) (Q R : List Nat), k ≤ y ∧ iv = .int .i64 ((k : Int) - 1) ∧ Hid (BitsAt A B Q R k) ∧ Hid (Own wr w.heap.size w.heap.size n n Q) ∧ Hid (Own wr w.heap.size gr M M R) ∧ Below w.heap.size w wr) (fun iv _ => (intOf iv + 1).toNat)
  case atStart => exact ⟨y, List.replicate n 0, List.replicate M 0, by omega, by go_num, HS, HQ2, HR2, hBw.out⟩
  case round =>
    clear HQ2 HR2 hBw HS
    obtain ⟨k, Q, R, hk, rfl, HD, HQ, HR, hBr⟩ := hrel
    cases k with
    | zero =>
      have Hq : Hid (val Q = A / B) := Lib.hid (bits_end HD.out).1
      have Hr : Hid (val R = A % B) := Lib.hid (bits_end HD.out).2
      have HRw := Lib.hid HR.out.wd
      clear HD
      go_wp2_with fail
      refine (ref02_norm _ _ _ _ _ HQ.out.wd (by omega)).mono ?_
      rintro e w5 ⟨a5, n5, c5, rfl, h5, b5⟩
      rw [Hq.out] at h5
      have H5 := Lib.hid h5
      have HR5 := Lib.hid (HRw.out.later b5)
      have hb5 := below_then hBr b5
      clear h5 HRw
      go_wp2_with fail
      refine (ref02_norm_own _ _ _ _ _ HR5.out (by omega)).mono ?_
      rintro e w6 ⟨a6, n6, c6, rfl, h6, b6⟩
      rw [Hr.out] at h6
      have H6 := Lib.hid (ownsRow_lower h6 hb5.size)
      have H5b := Lib.hid (H5.out.later b6)
      clear h6
      go_wp2
      go_ret2
      exact ⟨a5, n5, c5, a6, n6, c6, rfl, by rw [← HA.out, ← HB.out]; exact H5b.out, by rw [← HA.out, ← HB.out]; exact H6, below_then hb5 b6⟩
    | succ k =>
      have e1 : ((k + 1 : Nat) : Int) - 1 = (k : Int) := by omega
      rw [e1]
      clear e1
      obtain ⟨q, hq⟩ : ∃ q : Nat, (k : Int) / 32 = (q : Int) := ⟨k / 32, by omega⟩
      obtain ⟨r, hr⟩ : ∃ r : Nat, (k : Int) % 32 = (r : Int) := ⟨k % 32, by omega⟩
      have Hqr : Hid (k / 32 = q ∧ k % 32 = r) := Lib.hid (by omega)
      have hr31 : r < 32 := by omega
      obtain ⟨ba, oa, rfl, hca⟩ := (Ha.out.later hBr).at (by omega)
      have hcq := hca q (by omega)
      have hxw := atw_lt Ha.out.ok q
      have hbit := HAb.out k
      rw [Hqr.out.1, Hqr.out.2] at hbit
      obtain ⟨x, hx⟩ : ∃ x, x = atw la q := ⟨_, rfl⟩
      rw [← hx] at hcq hxw hbit
      obtain ⟨P, HP, hP⟩ : ∃ P : Nat, Hid (P = 2 ^ r) ∧ (2 : Int) ^ r = (P : Int) := ⟨2 ^ r, rfl, by simp⟩
      have hPb : P < 4294967296 := by rw [HP.out]; exact Nat.lt_of_le_of_lt (Nat.pow_le_pow_right (by decide) (show r ≤ 31 by omega)) (by decide)
      have hP0 : 0 < P := by rw [HP.out]; exact Nat.two_pow_pos r
      rw [← HP.out] at hbit
      obtain ⟨z, hz⟩ : ∃ z : Nat, (x : Int) / (P : Int) = (z : Int) := ⟨x / P, by rw [Int.natCast_ediv]⟩
      have Hz : Hid (x / P = z) := Lib.hid (by rw [← Int.natCast_ediv] at hz; omega)
      rw [Hz.out] at hbit
      obtain ⟨tb, htb⟩ : ∃ tb, ((z : Int) % 2 == 1) = tb := ⟨_, rfl⟩
      have HT : Hid (A.testBit k = tb) := Lib.hid (by rw [hbit, ← htb, Bool.eq_iff_iff, beq_iff_eq, decide_eq_true_eq]; omega)
      have hqi : (q : Int) < (n : Int) := by omega
      have hzw : z < 4294967296 := by rw [← Hz.out]; exact Nat.lt_of_le_of_lt (Nat.div_le_self _ _) hxw
      obtain ⟨c0, hc0⟩ : ∃ c0 : Nat, c0 = if tb = true then 1 else 0 := ⟨_, rfl⟩
      have Hc0 := Lib.hid hc0
      have hc1 : c0 ≤ 1 := by rw [hc0]; split <;> omega
      have HQd : Hid (Own wr.drew w.heap.size w.heap.size n n Q) := Lib.hid HQ.out
      have HRd : Hid (Own wr.drew w.heap.size gr M M R) := Lib.hid HR.out
      have HBd : Hid (Below w.heap.size w wr.drew) := Lib.hid hBr.drew
      have hw1 : IntKind.i64.wrap (q : Int) = (q : Int) := by rw [IntKind.wrap_i64]; omega
      have hw2 : IntKind.i64.wrap (r : Int) = (r : Int) := by rw [IntKind.wrap_i64]; omega
      have hw3 : IntKind.u32.wrap (P : Int) = (P : Int) := by rw [IntKind.wrap_u32]; omega
      have hw4 : IntKind.u32.wrap (z : Int) = (z : Int) := by rw [IntKind.wrap_u32]; omega
      have hw5 : IntKind.u32.wrap ((z : Int) % 2) = (z : Int) % 2 := by rw [IntKind.wrap_u32]; omega
      have hP1 : ¬ P = 0 := by omega
      have hw6 : (k : Int).tmod 32 = (r : Int) := by rw [Int.tmod_eq_emod_of_nonneg (by omega)]; exact hr
      have hw7 : (x : Int).tdiv (P : Int) = (z : Int) := by rw [Int.tdiv_eq_ediv_of_nonneg (by omega)]; exact hz
      have hw8 : (z : Int).tmod 2 = (z : Int) % 2 := Int.tmod_eq_emod_of_nonneg (by omega)
      clear hca hbit hx hc0
      go_wp2_with fail
      refine wp_region_still_tail 12 (by kernel_rfl) (by kernel_rfl) ?_
      simp only [List.take_succ_cons, List.take_zero, List.drop_succ_cons, List.drop_zero]
      repeat still_step
      refine wpStill_nil ?_
      change wpList _ _ _ _ _ wr.drew
      generalize wr.drew = wd at *
      clear hBr HQ HR hw1 hw2 hw3 hw4 hw5 hw6 hw7 hw8
      go_wp2_with fail
      refine (ref05_double _ _ _ _ _ tb R _ HRd.out (by omega) Hc0.out).mono ?_
      rintro e w3 ⟨R2, z2, rfl, HR3, hG3, HV3⟩
      have hB3 := Lib.hid (grown_below HBd.out hG3 hbr.1)
      have HQ3 := Lib.hid (HQd.out.other hG3 hne)
      have HVr : Hid (val R2 = 2 * val R + c0) := Lib.hid (bits_rest HD.out HBm.out (by have := HV3.out; rwa [HM.out] at this) hc1)
      clear hG3 HRd HQd HBd HV3
      go_wp2_with fail
      refine (ref05_double _ _ _ _ 0 false Q _ HQ3.out (by omega) rfl).mono ?_
      rintro e w4 ⟨Q2, z3, rfl, HQ4, hG4, HV4⟩
      have hB4 := Lib.hid (grown_below hB3.out hG4 hbq.1)
      have HR4 := Lib.hid (HR3.out.other hG4 (Ne.symm hne))
      have HVq : Hid (val Q2 = 2 * val Q) := Lib.hid (bits_quot HD.out HAn.out HV4.out)
      clear hG4 HV4 HQ3 HR3 hB3
      go_wp2_with fail
      refine (ref02_cmp _ _ _ _ _ _ _ _ _ HR4.out.wd (Hb.out.later hB4.out) (by omega) (by omega)).mono ?_
      rintro e w5 ⟨rfl, rfl⟩
      rw [← HB.out]
      by_cases hlt : val R2 < B
      · have hc : cmpI (val R2) B < 0 := by rw [cmpI_lt hlt]; omega
        have HDn : Hid (BitsAt A B Q2 R2 k) := Lib.hid (bits_no HD.out (by rw [HT.out]; exact Hc0.out) HVq.out HVr.out hlt)
        clear hlt
        generalize cmpI (val R2) B = c at *
        go_wp2
        go_roundw
        case rel => exact ⟨k, Q2, R2, by omega, by go_num, HDn, HQ4, HR4, hB4.out⟩
        case measure => simp [intOf]
      · have hc : ¬ cmpI (val R2) B < 0 := by unfold cmpI; split <;> (try split) <;> omega
        have Hge : Hid (val lb ≤ val R2) := Lib.hid (by rw [← HB.out]; omega)
        have Hge2 : Hid (B ≤ val R2) := Lib.hid (by omega)
        clear hlt
        generalize cmpI (val R2) B = c at *
        go_wp2_with fail
        refine (ref05_less w _ _ _ _ R2 _ _ _ lb HR4.out hB4.out Hb.out (by omega) (by omega) Hge).mono ?_
        rintro e w6 ⟨R3, rfl, HR6, hG6, HV6⟩
        have HB6 := Lib.hid (grown_below hB4.out hG6 hbr.1)
        have HQ6 := Lib.hid (HQ4.out.other hG6 hne)
        have HDn := Lib.hid (bits_yes HD.out (by rw [HT.out]; exact Hc0.out) hc1 HVq.out HVr.out Hge2.out (by rw [HV6.out, ← HB.out]) (by rw [HQ4.out.len]; omega) HQ4.out.2)
        have hcell := HQ6.out.cell (k := 0) (by omega)
        have hfro := HQ6.out.1.frozenAt 0
        have huw := HDn.out.2
        obtain ⟨u, huu⟩ : ∃ u, u = atw Q2 0 := ⟨_, rfl⟩
        rw [← huu] at hcell huw
        have HDn2 : Hid (BitsAt A B (Q2.set 0 (u + 1)) R3 k) := Lib.hid (by rw [huu]; exact HDn.out.1)
        have HQ7 := Lib.hid (HQ6.out.set 0 (u + 1) huw)
        have HR7 := Lib.hid (HR6.out.other (grown_cell w6 w.heap.size 0 (.int .u32 ((u + 1 : Nat) : Int))) (Ne.symm hne))
        have HB7 := Lib.hid (HB6.out.setCell (p := ⟨w.heap.size, 0, none⟩) hbq.1 (.int .u32 ((u + 1 : Nat) : Int)))
        clear huu HDn hG6 HQ4 HR4 hB4 HB6 HR6 HQ6
        go_wp2
        go_roundw
        case rel => exact ⟨k, Q2.set 0 (u + 1), R3, by omega, by go_num, HDn2, HQ7, HR7, HB7.out⟩
        case measure => simp [intOf]
end Go.Proofs.Ytkpnhohaolfmgaa
