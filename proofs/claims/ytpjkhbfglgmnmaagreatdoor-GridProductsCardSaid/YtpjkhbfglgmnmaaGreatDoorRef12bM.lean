/-
  The document's answer of layer 12: Width, Right, Long.
-/
import Derived.Test.YtpjkhbfglgmnmaaGreatDoorRef12M
namespace Go.Proofs.YtpjkhbfglgmnmaaGreatDoor
open Go.RowKit

set_option maxRecDepth 4096 in
set_option maxHeartbeats 4000000 in
theorem ref12_width (a : Option Addr) (n c : Nat) (LL : List (List Fx)) (w : World) (h : Fxss w a n c LL) : Calls Tryz.prog 17 #[.slice a n c] w (Gives (.int .i64 ((gwidth LL : Nat) : Int)) w) := by
  have hbd := h.bound
  have HLl := Lib.hid h.len
  by_cases h0 : n = 0
  · have hw : gwidth LL = 0 := by
      have := HLl.out
      rw [h0] at this
      rw [List.length_eq_zero_iff.1 this]; rfl
    rw [hw]
    subst h0
    clear h hw
    go_enter Tryz.func17, Tryz.ntmps17
    go_wp2
    go_ret
    exact ⟨rfl, Below.refl _ _⟩
  · obtain ⟨bb, off, hbe, a', n', c', e0, h1⟩ := h.at (j := 0) (by omega)
    have hw : gwidth LL = n' := h1.len
    rw [hw]
    have q1 : ((n : Int) == 0) = false := by simp; omega
    have q2 : ¬ (n : Int) = 0 := by omega
    have hki : (0 : Int) < (n : Int) := by omega
    have hkn : 0 < n := by omega
    have e1 : w.cell? ⟨bb, off, none⟩ = some (.slice a' n' c') := by simpa using e0
    have hbd1 := h1.bound
    subst hbe
    clear h h1 hw e0
    go_enter Tryz.func17, Tryz.ntmps17
    go_wp2
    go_ret
    exact ⟨rfl, Below.refl _ _⟩
set_option maxRecDepth 4096 in
set_option maxHeartbeats 4000000 in
theorem ref12_right (a : Option Addr) (n c : Nat) (LL : List (List Fx)) (r : Bool) (w : World) (h : Fxss w a n c LL) (hr : Hid (r = true ↔ rect LL)) : Calls Tryz.prog 12 #[.slice a n c] w (Gives (.bool r) w) := by
  have HK := Lib.hid h
  have HLl := Lib.hid h.len
  have hbd := h.bound
  clear h
  go_enter Tryz.func12, Tryz.ntmps12
  go_wp2
  go_loopw [3] (fun iv wr => ∃ k : Nat, k ≤ n ∧ iv = .int .i64 (k : Int) ∧ Hid (∀ M ∈ LL.take k, M.length = (LL.getD 0 []).length) ∧ Hid (Below w.heap.size w wr)) (fun iv _ => n - (intOf iv).toNat)
  case atStart => exact ⟨0, by omega, rfl, Lib.hid (fun M hM => by simp at hM), Lib.hid (Below.refl _ _)⟩
  case round =>
    obtain ⟨k, hk, rfl, HA, HB⟩ := hrel
    by_cases hlt : k < n
    · obtain ⟨bb, off, hbe, a', n', c', e0, h1⟩ := (HK.out.later HB.out).at hlt
      obtain ⟨b2, off2, hbf, a0, n0, c0, f0, h2⟩ := (HK.out.later HB.out).at (j := 0) (by omega)
      have hl1 := h1.len
      have hl2 := h2.len
      have hbd1 := h1.bound
      have hbd2 := h2.bound
      have HT := Lib.hid (ll_next (show k < LL.length by rw [HLl.out]; exact hlt))
      have HM : Hid (LL.getD k [] ∈ LL) := Lib.hid (ll_getD_mem (by rw [HLl.out]; exact hlt))
      have HL1 := Lib.hid hl1
      have HL2 := Lib.hid hl2
      have hki : (k : Int) < (n : Int) := by omega
      have hk0 : (0 : Int) < (n : Int) := by omega
      have hkn : 0 < n := by omega
      rw [hbe] at hbf
      simp only [Option.some.injEq, Addr.mk.injEq, and_true] at hbf
      obtain ⟨rfl, rfl⟩ := hbf
      have f1 := f0
      rw [Nat.add_zero] at f1
      subst hbe
      clear h1 h2 hl1 hl2 f0
      have HBd := Lib.hid (below_then HB.out ((Below.refl _ _).drew))
      by_cases hnz : n' = n0
      · have HA9 : Hid (∀ M ∈ LL.take (k + 1), M.length = (LL.getD 0 []).length) := Lib.hid (fun M hM => by
          rw [HT.out] at hM
          rcases List.mem_append.1 hM with hM | hM
          · exact HA.out M hM
          · rw [List.mem_singleton.1 hM, HL1.out, HL2.out]; exact hnz)
        have hq : ((n' : Int) == (n0 : Int)) = true := by simp [hnz]
        clear hnz HA HT HM HL1 HL2 HB
        go_wp2
        go_region
        go_wp2
        go_roundw
        case rel => exact ⟨k + 1, by omega, by go_num, HA9, HBd⟩
        case measure => simp [intOf]; omega
      · have hrf : r = false := by
          cases r with
          | false => rfl
          | true => exact absurd (hr.out.1 rfl _ HM.out) (by rw [HL1.out, HL2.out]; exact hnz)
        subst hrf
        have hq : ((n' : Int) == (n0 : Int)) = false := by simp; omega
        clear HA HT HM HL1 HL2 HB
        go_wp2
        go_region
        go_wp2
        go_ret
        exact ⟨rfl, HBd.out⟩
    · obtain rfl : k = n := by omega
      have hrt : r = true := hr.out.2 (fun M hM => HA.out M (by rw [List.take_of_length_le (by rw [HLl.out]; exact Nat.le_refl _)]; exact hM))
      subst hrt
      go_wp2
      go_ret
      exact ⟨rfl, HB.out⟩
end Go.Proofs.YtpjkhbfglgmnmaaGreatDoor
