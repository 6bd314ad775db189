/-
  The contract of the document's answer for layer 2: Long.
-/
import Derived.Test.YtkpnhohaolfmgaaRef02b
namespace Go.Proofs.Ytkpnhohaolfmgaa
open Go.RowKit

/-- What Long tells: false only if there are at most 100 lists, and their words in all are at most so many. -/
def LongPost (ls : List (List Nat)) (most : Nat) (w : World) (e : Ending) (w' : World) : Prop :=
  ∃ r : Bool, e = .returned (.bool r) ∧ w = w' ∧ (r = false → ls.length ≤ 100 ∧ words ls ≤ most)

set_option maxHeartbeats 1000000 in
theorem ref02_long (a : Option Addr) (n cap : Nat) (ls : List (List Nat)) (most : Nat) (w : World) (h : Wds w a n cap ls) (hm : most ≤ 100000000) :
    Calls Try.prog 17 #[.slice a n cap, .int .i64 (most : Int)] w (LongPost ls most w) := by
  obtain ⟨hb1, hb2⟩ := h.bound
  have H := Lib.hid h
  clear h
  go_enter Try.func17, Try.ntmps17
  go_wp2
  go_loop [1, 5] (fun mo i => ∃ k left : Nat, k ≤ n ∧ k ≤ 100 ∧ i = .int .i64 k ∧ left ≤ 100000000 ∧ mo = .int .i64 left ∧ Hid (words (ls.take k) + left = most)) (fun _ i => n - (intOf i).toNat)
  case atStart => exact ⟨0, most, by omega, by omega, rfl, by omega, rfl, Lib.hid (by simp [words])⟩
  case round =>
    obtain ⟨k, left, hk, hk2, rfl, hl, rfl, Hw⟩ := hrel
    by_cases hlt : k < n
    · obtain ⟨b, off, rfl, a', n', c', hc, hwd⟩ := H.out.at hlt
      obtain ⟨hb3, hb4⟩ := hwd.bound
      have hn' := hwd.len
      have Hn' := Lib.hid hn'
      have hk1 : (k : Int) < (n : Int) := by omega
      clear hn' hwd
      by_cases hg : left < n'
      · have hgi : (left : Int) < (n' : Int) := by omega
        go_wp2
        go_ret
        exact ⟨true, rfl, rfl, fun h => by cases h⟩
      · have hgi : (n' : Int) ≤ (left : Int) := by omega
        by_cases hg2 : 100 ≤ k
        · have hg2i : (100 : Int) ≤ (k : Int) := by omega
          go_wp2
          go_ret
          exact ⟨true, rfl, rfl, fun h => by cases h⟩
        · have hg2i : (k : Int) < 100 := by omega
          go_wp2
          go_round
          case rel =>
            refine ⟨k + 1, left - n', by omega, by omega, by go_num, by omega, by go_num, Lib.hid ?_⟩
            rw [words_take _ _ (by rw [H.out.len]; exact hlt), Hn'.out]
            have := Hw.out
            omega
          case measure => simp [intOf]; omega
    · have hkn : k = n := by omega
      have hfin : ls.length ≤ 100 ∧ words ls ≤ most := by
        have hlen := H.out.len
        have hw := Hw.out
        rw [List.take_of_length_le (by omega)] at hw
        omega
      have Hfin := Lib.hid hfin
      clear hkn hfin
      go_wp2
      go_ret
      exact ⟨false, rfl, rfl, fun _ => Hfin.out⟩
end Go.Proofs.Ytkpnhohaolfmgaa
