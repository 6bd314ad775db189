/-
  The document's answer of layer 12: Same; the law's Is.
-/
import Derived.Test.YtpjkhbfglgmnmaaGreatDoorRef12M
import Derived.Test.YtpjkhbfglgmnmaaGreatDoorRef11cM
import Derived.Test.YtpjkhbfglgmnmaaGreatDoorLaw11OwnM
import Derived.Deep.RegionHeld3
namespace Go.Proofs.YtpjkhbfglgmnmaaGreatDoor
open Go.RowKit

theorem two_on12 {w w' : World} {p q : Addr} {x y : Value} (h : w.cell? p = some x ∧ w.cell? q = some y) (hb : Below w.heap.size w w') : w'.cell? p = some x ∧ w'.cell? q = some y := ⟨cell_later hb h.1, cell_later hb h.2⟩
set_option maxRecDepth 4096 in
set_option maxHeartbeats 4000000 in
theorem ref12_same (a0 : Option Addr) (n0 c0 : Nat) (Q0 : List (List Rat)) (a1 : Option Addr) (n1 c1 : Nat) (Q1 : List (List Rat)) (w : World) (h0 : Rwss w a0 n0 c0 Q0) (h1 : Rwss w a1 n1 c1 Q1) (ht0 : ∀ r ∈ Q0, r.length ≤ 1000 ∧ ∀ q ∈ r, qlen q ≤ 15000) (ht1 : ∀ r ∈ Q1, ∀ q ∈ r, qlen q ≤ 15000) : Calls Tryz.prog 19 #[.slice a0 n0 c0, .slice a1 n1 c1] w (Gives (.bool (decide (Q0 = Q1))) w) := by
  obtain ⟨r, hr⟩ : ∃ r, decide (Q0 = Q1) = r := ⟨_, rfl⟩
  have HR := Lib.hid hr
  rw [hr]
  have HK0 := Lib.hid h0
  have HK1 := Lib.hid h1
  have HL0 := Lib.hid h0.len
  have HL1 := Lib.hid h1.len
  have hbd0 := h0.bound
  have hbd1 := h1.bound
  have HT0 := Lib.hid ht0
  have HT1 := Lib.hid ht1
  clear hr h0 h1 ht0 ht1
  by_cases hnn : n0 = n1
  · subst hnn
    go_enter Tryz.func19, Tryz.ntmps19
    go_wp2
    go_loopw [5] (fun iv wr => ∃ k : Nat, k ≤ n0 ∧ iv = .int .i64 (k : Int) ∧ Hid (Q0.take k = Q1.take k) ∧ Hid (Below w.heap.size w wr)) (fun iv _ => n0 - (intOf iv).toNat)
    case atStart => exact ⟨0, by omega, rfl, Lib.hid rfl, Lib.hid (Below.refl _ _)⟩
    case round =>
      obtain ⟨k, hk, rfl, HA, HB⟩ := hrel
      by_cases hlt : k < n0
      · obtain ⟨bb, off, hbe, a', n', c', e0, g1⟩ := (HK0.out.later HB.out).at hlt
        obtain ⟨b2, off2, hbf, a2, n2, c2, f0, g2⟩ := (HK1.out.later HB.out).at hlt
        have HX0 := Lib.hid (ll_next (show k < Q0.length by rw [HL0.out]; exact hlt))
        have HX1 := Lib.hid (ll_next (show k < Q1.length by rw [HL1.out]; exact hlt))
        have hm0 := HT0.out _ (ll_getD_mem (show k < Q0.length by rw [HL0.out]; exact hlt))
        have hm1 := HT1.out _ (ll_getD_mem (show k < Q1.length by rw [HL1.out]; exact hlt))
        have HG0 : Hid (Q0 = Q1 → Q0.getD k [] = Q1.getD k []) := Lib.hid (fun e => by rw [e])
        generalize Q0.getD k [] = x at *
        generalize Q1.getD k [] = y at *
        have hki : (k : Int) < (n0 : Int) := by omega
        have hgb1 := g1.bound
        have hgb2 := g2.bound
        have HG1 := Lib.hid (g1.later ((Below.refl _ _).drew))
        have HG2 := Lib.hid (g2.later ((Below.refl _ _).drew))
        have HBd := Lib.hid (below_then HB.out ((Below.refl _ _).drew))
        have pSn := two_on12 ⟨e0, f0⟩ ((Below.refl _ _).drew)
        have HM0 := Lib.hid hm0
        have HM1 := Lib.hid hm1
        obtain ⟨z, hz⟩ : ∃ z, decide (x = y) = z := ⟨_, rfl⟩
        have HZ := Lib.hid hz
        have HC : ∀ w' : World, Rw w' a' n' c' x → Rw w' a2 n2 c2 y → Calls Tryz.prog 43 #[.slice a' n' c', .slice a2 n2 c2] w' (Gives (.bool z) w') := fun w' k1 k2 => hz ▸ ref11_same a' n' c' x a2 n2 c2 y w' k1 k2 (by have := k1.len; have := HM0.out.1; omega) HM0.out.2 HM1.out
        subst hbe
        subst hbf
        clear e0 f0 g1 g2 hm0 hm1 hz HB
        go_wp2
        go_region_held3 (fun w' => w'.cell? ⟨bb, off + k, none⟩ = some (.slice a' n' c') ∧ w'.cell? ⟨b2, off2 + k, none⟩ = some (.slice a2 n2 c2)) (exact pSn)
          (first
          | (go_at_call 43; refine (HC _ HG1.out HG2.out).mono ?_; rintro e w4 ⟨rfl, bx⟩; replace HBd := Lib.hid (below_then HBd.out bx); replace pSn := two_on12 pSn bx; clear bx HG1 HG2))
        clear pSn
        cases z with
        | true =>
          have hxy : x = y := by simpa using HZ.out
          have HA9 : Hid (Q0.take (k + 1) = Q1.take (k + 1)) := Lib.hid (by rw [HX0.out, HX1.out, HA.out, hxy])
          clear hxy
          go_wp2
          go_roundw
          case rel => exact ⟨k + 1, by omega, by go_num, HA9, HBd⟩
          case measure => simp [intOf]; omega
        | false =>
          have hxy : ¬ x = y := by simpa using HZ.out
          have hrf : r = false := by rw [← HR.out]; exact decide_eq_false (fun e => hxy (HG0.out e))
          subst hrf
          clear hxy
          go_wp2
          go_ret
          exact ⟨rfl, HBd.out⟩
      · obtain rfl : k = n0 := by omega
        have hrt : r = true := by
          rw [← HR.out]
          refine decide_eq_true ?_
          have := HA.out
          rw [List.take_of_length_le (by rw [HL0.out]; exact Nat.le_refl _), List.take_of_length_le (by rw [HL1.out]; exact Nat.le_refl _)] at this
          exact this
        subst hrt
        go_wp2
        go_ret
        exact ⟨rfl, HB.out⟩
  · have hrf : r = false := by
      rw [← HR.out]
      exact decide_eq_false (fun e => hnn (by rw [← HL0.out, ← HL1.out, e]))
    subst hrf
    have hq : ((n0 : Int) == (n1 : Int)) = false := by simp; omega
    go_enter Tryz.func19, Tryz.ntmps19
    go_wp2
    go_ret
    exact ⟨rfl, Below.refl _ _⟩
set_option maxRecDepth 4096 in
set_option maxHeartbeats 4000000 in
theorem law12_is (a0 : Option Addr) (n0 c0 : Nat) (Q0 : List (List Rat)) (a1 : Option Addr) (n1 c1 : Nat) (Q1 : List (List Rat)) (w : World) (h0 : Rwss w a0 n0 c0 Q0) (h1 : Rwss w a1 n1 c1 Q1) (ht0 : ∀ r ∈ Q0, r.length ≤ 1000 ∧ ∀ q ∈ r, qlen q ≤ 15000) (ht1 : ∀ r ∈ Q1, ∀ q ∈ r, qlen q ≤ 15000) : Calls Tryz.prog 13 #[.slice a0 n0 c0, .slice a1 n1 c1] w (Gives (.bool (decide (Q0 = Q1))) w) := by
  obtain ⟨r, hr⟩ : ∃ r, decide (Q0 = Q1) = r := ⟨_, rfl⟩
  have HR := Lib.hid hr
  rw [hr]
  have HK0 := Lib.hid h0
  have HK1 := Lib.hid h1
  have HL0 := Lib.hid h0.len
  have HL1 := Lib.hid h1.len
  have hbd0 := h0.bound
  have hbd1 := h1.bound
  have HT0 := Lib.hid ht0
  have HT1 := Lib.hid ht1
  clear hr h0 h1 ht0 ht1
  by_cases hnn : n0 = n1
  · subst hnn
    go_enter Tryz.func13, Tryz.ntmps13
    go_wp2
    go_loopw [5] (fun iv wr => ∃ k : Nat, k ≤ n0 ∧ iv = .int .i64 (k : Int) ∧ Hid (Q0.take k = Q1.take k) ∧ Hid (Below w.heap.size w wr)) (fun iv _ => n0 - (intOf iv).toNat)
    case atStart => exact ⟨0, by omega, rfl, Lib.hid rfl, Lib.hid (Below.refl _ _)⟩
    case round =>
      obtain ⟨k, hk, rfl, HA, HB⟩ := hrel
      by_cases hlt : k < n0
      · obtain ⟨bb, off, hbe, a', n', c', e0, g1⟩ := (HK0.out.later HB.out).at hlt
        obtain ⟨b2, off2, hbf, a2, n2, c2, f0, g2⟩ := (HK1.out.later HB.out).at hlt
        have HX0 := Lib.hid (ll_next (show k < Q0.length by rw [HL0.out]; exact hlt))
        have HX1 := Lib.hid (ll_next (show k < Q1.length by rw [HL1.out]; exact hlt))
        have hm0 := HT0.out _ (ll_getD_mem (show k < Q0.length by rw [HL0.out]; exact hlt))
        have hm1 := HT1.out _ (ll_getD_mem (show k < Q1.length by rw [HL1.out]; exact hlt))
        have HG0 : Hid (Q0 = Q1 → Q0.getD k [] = Q1.getD k []) := Lib.hid (fun e => by rw [e])
        generalize Q0.getD k [] = x at *
        generalize Q1.getD k [] = y at *
        have hki : (k : Int) < (n0 : Int) := by omega
        have hgb1 := g1.bound
        have hgb2 := g2.bound
        have HG1 := Lib.hid (g1.later ((Below.refl _ _).drew))
        have HG2 := Lib.hid (g2.later ((Below.refl _ _).drew))
        have HBd := Lib.hid (below_then HB.out ((Below.refl _ _).drew))
        have pSn := two_on12 ⟨e0, f0⟩ ((Below.refl _ _).drew)
        have HM0 := Lib.hid hm0
        have HM1 := Lib.hid hm1
        obtain ⟨z, hz⟩ : ∃ z, decide (x = y) = z := ⟨_, rfl⟩
        have HZ := Lib.hid hz
        have HC : ∀ w' : World, Rw w' a' n' c' x → Rw w' a2 n2 c2 y → Calls Tryz.prog 27 #[.slice a' n' c', .slice a2 n2 c2] w' (Gives (.bool z) w') := fun w' k1 k2 => hz ▸ law11_is a' n' c' x a2 n2 c2 y w' k1 k2 (by have := k1.len; have := HM0.out.1; omega) HM0.out.2 HM1.out
        subst hbe
        subst hbf
        clear e0 f0 g1 g2 hm0 hm1 hz HB
        go_wp2
        go_region_held3 (fun w' => w'.cell? ⟨bb, off + k, none⟩ = some (.slice a' n' c') ∧ w'.cell? ⟨b2, off2 + k, none⟩ = some (.slice a2 n2 c2)) (exact pSn)
          (first
          | (go_at_call 27; refine (HC _ HG1.out HG2.out).mono ?_; rintro e w4 ⟨rfl, bx⟩; replace HBd := Lib.hid (below_then HBd.out bx); replace pSn := two_on12 pSn bx; clear bx HG1 HG2))
        clear pSn
        cases z with
        | true =>
          have hxy : x = y := by simpa using HZ.out
          have HA9 : Hid (Q0.take (k + 1) = Q1.take (k + 1)) := Lib.hid (by rw [HX0.out, HX1.out, HA.out, hxy])
          clear hxy
          go_wp2
          go_roundw
          case rel => exact ⟨k + 1, by omega, by go_num, HA9, HBd⟩
          case measure => simp [intOf]; omega
        | false =>
          have hxy : ¬ x = y := by simpa using HZ.out
          have hrf : r = false := by rw [← HR.out]; exact decide_eq_false (fun e => hxy (HG0.out e))
          subst hrf
          clear hxy
          go_wp2
          go_ret
          exact ⟨rfl, HBd.out⟩
      · obtain rfl : k = n0 := by omega
        have hrt : r = true := by
          rw [← HR.out]
          refine decide_eq_true ?_
          have := HA.out
          rw [List.take_of_length_le (by rw [HL0.out]; exact Nat.le_refl _), List.take_of_length_le (by rw [HL1.out]; exact Nat.le_refl _)] at this
          exact this
        subst hrt
        go_wp2
        go_ret
        exact ⟨rfl, HB.out⟩
  · have hrf : r = false := by
      rw [← HR.out]
      exact decide_eq_false (fun e => hnn (by rw [← HL0.out, ← HL1.out, e]))
    subst hrf
    have hq : ((n0 : Int) == (n1 : Int)) = false := by simp; omega
    go_enter Tryz.func13, Tryz.ntmps13
    go_wp2
    go_ret
    exact ⟨rfl, Below.refl _ _⟩
end Go.Proofs.YtpjkhbfglgmnmaaGreatDoor
