/-
  The document's answer of layer 12: Long.
-/
import Derived.Test.YtpjkhbfglgmnmaaGreatDoorRef12M
namespace Go.Proofs.YtpjkhbfglgmnmaaGreatDoor
open Go.RowKit

set_option maxRecDepth 4096 in
set_option maxHeartbeats 4000000 in
theorem ref12_long (a : Option Addr) (n c : Nat) (LL : List (List Fx)) (K N : Int) (r : Bool) (w : World) (h : Fxss w a n c LL) (hK : 0 ≤ K ∧ K ≤ 1000) (hr : Hid (r = true ↔ ¬ ((n : Int) ≤ K ∧ ∀ M ∈ LL, (M.length : Int) ≤ K ∧ thinI N M))) : Calls Tryz.prog 7 #[.slice a n c, .int .i64 K, .int .i64 N] w (Gives (.bool r) w) := by
  have HK := Lib.hid h
  have HLl := Lib.hid h.len
  have hbd := h.bound
  clear h
  go_enter Tryz.func7, Tryz.ntmps7
  go_wp2
  go_loopw [7] (fun iv wr => ∃ k : Nat, k ≤ n ∧ iv = .int .i64 (k : Int) ∧ Hid (∀ M ∈ LL.take k, (M.length : Int) ≤ K ∧ thinI N M) ∧ Hid (Below w.heap.size w wr)) (fun iv _ => n - (intOf iv).toNat)
  case atStart => exact ⟨0, by omega, rfl, Lib.hid (fun M hM => by simp at hM), Lib.hid (Below.refl _ _)⟩
  case round =>
    obtain ⟨k, hk, rfl, HA, HB⟩ := hrel
    by_cases hlt : k < n
    · have hki : (k : Int) < (n : Int) := by omega
      by_cases hkK : (k : Int) < K
      · obtain ⟨bb, off, hbe, a', n', c', e0, h1⟩ := (HK.out.later HB.out).at hlt
        have HT := Lib.hid (ll_next (show k < LL.length by rw [HLl.out]; exact hlt))
        have HML : Hid (LL.getD k [] ∈ LL) := Lib.hid (ll_getD_mem (by rw [HLl.out]; exact hlt))
        have hbd1 := h1.bound
        have HL1 := Lib.hid h1.len
        generalize LL.getD k [] = M at *
        have HM := Lib.hid h1
        subst hbe
        by_cases hM : (n' : Int) ≤ K ∧ thinI N M
        · have HNM := Lib.hid hM
          have HA9 : Hid (∀ M ∈ LL.take (k + 1), (M.length : Int) ≤ K ∧ thinI N M) := Lib.hid (fun X hX => by
            rw [HT.out] at hX
            rcases List.mem_append.1 hX with hX | hX
            · exact HA.out X hX
            · rw [List.mem_singleton.1 hX, HL1.out]; exact HNM.out)
          clear h1 hM HA HT HML
          go_wp2_with fail
          refine (ref11_long a' n' c' M K N false _ HM.out hK (Lib.hid ⟨fun h => absurd h (by decide), fun h => absurd HNM.out h⟩)).mono ?_
          rintro e w4 ⟨rfl, bw⟩
          have HB4 := Lib.hid (below_then HB.out bw)
          clear bw HB e0
          go_wp2
          go_roundw
          case rel => exact ⟨k + 1, by omega, by go_num, HA9, HB4⟩
          case measure => simp [intOf]; omega
        · have HNM := Lib.hid hM
          have hrt : r = true := hr.out.2 (fun h9 => HNM.out (by have := h9.2 M HML.out; rw [HL1.out] at this; exact this))
          subst hrt
          clear h1 hM HA HT HML
          go_wp2_with fail
          refine (ref11_long a' n' c' M K N true _ HM.out hK (Lib.hid ⟨fun _ => HNM.out, fun _ => rfl⟩)).mono ?_
          rintro e w4 ⟨rfl, bw⟩
          have HB4 := Lib.hid (below_then HB.out bw)
          clear bw HB e0
          go_wp2
          go_ret
          exact ⟨rfl, HB4.out⟩
      · have hrt : r = true := hr.out.2 (fun h9 => by omega)
        subst hrt
        have hnK : (n : Int) > K := by omega
        go_wp2
        go_ret
        exact ⟨rfl, HB.out⟩
    · obtain rfl : k = n := by omega
      by_cases hnK : (k : Int) > K
      · have hrt : r = true := hr.out.2 (fun h9 => by omega)
        subst hrt
        go_wp2
        go_ret
        exact ⟨rfl, HB.out⟩
      · have hrf : r = false := by
          cases r with
          | false => rfl
          | true => exact absurd ⟨by omega, fun M hM => HA.out M (by rw [List.take_of_length_le (by rw [HLl.out]; exact Nat.le_refl _)]; exact hM)⟩ (hr.out.1 rfl)
        subst hrf
        go_wp2
        go_ret
        exact ⟨rfl, HB.out⟩
end Go.Proofs.YtpjkhbfglgmnmaaGreatDoor
