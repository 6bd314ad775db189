/-
  The laws of layer 16: To, Of, same.
-/
import Derived.Test.YtblnllilepfheaaLexPush
import Derived.Test.YtblnllilepfheaaRef16d
import Derived.Test.YtblnllilepfheaaLex5
import Derived.WalkKit
import Derived.Deep.RegionLaw
import Derived.Laws.StructEq
namespace Go.Proofs.Ytblnllilepfheaa
open Go.RowKit

/-- These words, in a slice as long. -/
def LstL (L : List Wx) (w : World) (e : Ending) (w' : World) : Prop :=
  ∃ (a : Option Addr) (n cap : Nat), e = .returned (.slice a n cap) ∧ Wxs w' a n cap L ∧ Below w.heap.size w w'
theorem wx_take {L : List Wx} {k : Nat} (h : k < L.length) : L.take (k + 1) = L.take k ++ [L.getD k Wx.zero] := by
  rw [List.take_add_one, List.getD_eq_getElem?_getD, List.getElem?_eq_getElem h]; rfl
set_option maxRecDepth 4096 in
set_option maxHeartbeats 8000000 in
theorem law16_of (a0 : Option Addr) (n0 c0 : Nat) (L : List Wx) (w : World) (h0 : Wxs w a0 n0 c0 L) (hn : n0 ≤ 10000) :
    Calls Try.prog 9 #[.slice a0 n0 c0] w (LstL L w) := by
  obtain ⟨i0, hi, hz0, hz1, hz2⟩ := info_word16 infoWord16
  have HK0 := Lib.hid h0
  have HLl0 := Lib.hid h0.len
  have hbd0 := h0.bound
  clear h0
  go_enter Try.func9, Try.ntmps9
  go_wp2
  go_loopw [3, 4] (fun v iv wr => ∃ k : Nat, k ≤ n0 ∧ iv = .int .i64 (k : Int) ∧ Hid (OwnX wr w.heap.size 36 v (L.take k)) ∧ Hid (Below w.heap.size w wr)) (fun _ iv _ => n0 - (intOf iv).toNat)
  case atStart => exact ⟨0, by omega, rfl, Lib.hid (OwnX.nil _ _ _), Lib.hid (Below.refl _ _)⟩
  case round =>
    obtain ⟨k, hk, rfl, HX, HB⟩ := hrel
    by_cases hlt : k < n0
    · have HT0 : Hid (L.take (k + 1) = L.take k ++ [L.getD k Wx.zero]) := Lib.hid (wx_take (by rw [HLl0.out]; exact hlt))
      have hTk : (L.take k).length = k := by rw [List.length_take, HLl0.out]; omega
      obtain ⟨bb0, off0, rfl, e00, e10, e20⟩ := (HK0.out.later HB.out).at hlt
      unfold Wx.str at e10
      generalize L.getD k Wx.zero = x at *
      obtain ⟨xk, t, xp⟩ := x
      dsimp only at e10 HT0 e00 e20
      have hki : (k : Int) < (n0 : Int) := by omega
      have HTk := Lib.hid hTk
      clear hTk
      have hwb := HB.out.size
      go_wp2
      go_region_law (first
        | (refine step_append_x rfl _ _ 28 rfl w.heap.size 36 i0 (.agg #[.int .i64 0, .string ⟨#[]⟩, .int .i64 0]) Try.underlying28 hi hz0 hz1 hz2 rfl _ (L.take k) rfl (HX.out.later ((below_draws wr 1).alloc (Nat.le_refl _) _)) ⟨_, 0, none⟩ ⟨xk, t, xp⟩ rfl (wcells_news _ _ _) (by rw [HTk.out]; omega) (by simp; omega) ?_; intro v' w5 hrow hgrow))
      all_goals (
        have HX5 := Lib.hid hrow
        have HB5 : Hid (Below w.heap.size w w5) := Lib.hid (((HB.out.trans ((below_draws wr 1).mono HB.out.size)).alloc (by simp; omega) _).grown hgrow (by simp; omega) (fun g hg => HX.out.base g hg))
        clear hrow hgrow
        go_wp2
        go_roundw
        (case rel => exact ⟨k + 1, by omega, by go_num, Lib.hid (by rw [HT0.out]; exact HX5.out), HB5⟩)
        (case measure => simp [intOf]; omega))
    · obtain rfl : k = n0 := by omega
      have htk : L.take k = L := List.take_of_length_le (by rw [HLl0.out]; exact Nat.le_refl _)
      rw [htk] at HX
      obtain ⟨a9, c9, rfl, h9⟩ := HX.out.slice
      rw [HLl0.out] at h9
      have H9 := Lib.hid h9
      have hc9 : L.length = k := HLl0.out
      clear h9 htk
      go_wp2
      go_ret
      exact ⟨a9, L.length, c9, rfl, by rw [hc9]; exact H9.out, HB.out⟩
set_option maxRecDepth 4096 in
set_option maxHeartbeats 8000000 in
theorem law16_to (a0 : Option Addr) (n0 c0 : Nat) (L : List Wx) (w : World) (h0 : Wxs w a0 n0 c0 L) (hn : n0 ≤ 10000) :
    Calls Try.prog 10 #[.slice a0 n0 c0] w (LstL L w) := by
  obtain ⟨i0, hi, hz0, hz1, hz2⟩ := info_word infoWord38
  have HK0 := Lib.hid h0
  have HLl0 := Lib.hid h0.len
  have hbd0 := h0.bound
  clear h0
  go_enter Try.func10, Try.ntmps10
  go_wp2
  go_loopw [3, 4] (fun v iv wr => ∃ k : Nat, k ≤ n0 ∧ iv = .int .i64 (k : Int) ∧ Hid (OwnX wr w.heap.size 38 v (L.take k)) ∧ Hid (Below w.heap.size w wr)) (fun _ iv _ => n0 - (intOf iv).toNat)
  case atStart => exact ⟨0, by omega, rfl, Lib.hid (OwnX.nil _ _ _), Lib.hid (Below.refl _ _)⟩
  case round =>
    obtain ⟨k, hk, rfl, HX, HB⟩ := hrel
    by_cases hlt : k < n0
    · have HT0 : Hid (L.take (k + 1) = L.take k ++ [L.getD k Wx.zero]) := Lib.hid (wx_take (by rw [HLl0.out]; exact hlt))
      have hTk : (L.take k).length = k := by rw [List.length_take, HLl0.out]; omega
      obtain ⟨bb0, off0, rfl, e00, e10, e20⟩ := (HK0.out.later HB.out).at hlt
      unfold Wx.str at e10
      generalize L.getD k Wx.zero = x at *
      obtain ⟨xk, t, xp⟩ := x
      dsimp only at e10 HT0 e00 e20
      have hki : (k : Int) < (n0 : Int) := by omega
      have HTk := Lib.hid hTk
      clear hTk
      have hwb := HB.out.size
      go_wp2
      go_region_law (first
        | (refine step_append_x rfl _ _ 23 rfl w.heap.size 38 i0 (.agg #[.int .i64 0, .string ⟨#[]⟩, .int .i64 0]) Try.underlying23 hi hz0 hz1 hz2 rfl _ (L.take k) rfl (HX.out.later ((below_draws wr 1).alloc (Nat.le_refl _) _)) ⟨_, 0, none⟩ ⟨xk, t, xp⟩ rfl (wcells_news _ _ _) (by rw [HTk.out]; omega) (by simp; omega) ?_; intro v' w5 hrow hgrow))
      all_goals (
        have HX5 := Lib.hid hrow
        have HB5 : Hid (Below w.heap.size w w5) := Lib.hid (((HB.out.trans ((below_draws wr 1).mono HB.out.size)).alloc (by simp; omega) _).grown hgrow (by simp; omega) (fun g hg => HX.out.base g hg))
        clear hrow hgrow
        go_wp2
        go_roundw
        (case rel => exact ⟨k + 1, by omega, by go_num, Lib.hid (by rw [HT0.out]; exact HX5.out), HB5⟩)
        (case measure => simp [intOf]; omega))
    · obtain rfl : k = n0 := by omega
      have htk : L.take k = L := List.take_of_length_le (by rw [HLl0.out]; exact Nat.le_refl _)
      rw [htk] at HX
      obtain ⟨a9, c9, rfl, h9⟩ := HX.out.slice
      rw [HLl0.out] at h9
      have H9 := Lib.hid h9
      have hc9 : L.length = k := HLl0.out
      clear h9 htk
      go_wp2
      go_ret
      exact ⟨a9, L.length, c9, rfl, by rw [hc9]; exact H9.out, HB.out⟩
set_option maxRecDepth 4096 in
set_option maxHeartbeats 8000000 in
/-- The same words are the same. -/
theorem law16_same (a0 : Option Addr) (n0 c0 : Nat) (b0 : Option Addr) (m0 d0 : Nat) (L : List Wx) (w : World) (h0 : Wxs w a0 n0 c0 L) (h1 : Wxs w b0 m0 d0 L) :
    Calls Try.prog 8 #[.slice a0 n0 c0, .slice b0 m0 d0] w (Gives (.bool true) w) := by
  have HK0 := Lib.hid h0
  have HK1 := Lib.hid h1
  obtain rfl : m0 = n0 := h1.len.symm.trans h0.len
  have hbd0 := h0.bound
  have hbd1 := h1.bound
  clear h0 h1
  go_enter Try.func8, Try.ntmps8
  go_wp2
  go_loopw [5] (fun iv wr => ∃ k : Nat, k ≤ m0 ∧ iv = .int .i64 (k : Int) ∧ Hid (Below w.heap.size w wr)) (fun iv _ => m0 - (intOf iv).toNat)
  case atStart => exact ⟨0, by omega, rfl, Lib.hid (Below.refl _ _)⟩
  case round =>
    obtain ⟨k, hk, rfl, HB⟩ := hrel
    by_cases hlt : k < m0
    · obtain ⟨bb0, off0, rfl, e00, e10, e20⟩ := (HK0.out.later HB.out).at hlt
      obtain ⟨bb1, off1, rfl, e01, e11, e21⟩ := (HK1.out.later HB.out).at hlt
      unfold Wx.str at e10 e11
      generalize L.getD k Wx.zero = x at *
      obtain ⟨xk, t, xp⟩ := x
      dsimp only at e00 e10 e20 e01 e11 e21
      have hki : (k : Int) < (m0 : Int) := by omega
      have q1 : ((bs t).toList == (bs t).toList) = true := by simp
      go_wp2
      go_region
      go_wp2
      go_roundw
      case rel => exact ⟨k + 1, by omega, by go_num, Lib.hid (below_then HB.out (below_draws _ _))⟩
      case measure => simp [intOf]; omega
    · obtain rfl : k = m0 := by omega
      go_wp2
      go_ret
      exact ⟨rfl, HB.out⟩
end Go.Proofs.Ytblnllilepfheaa
