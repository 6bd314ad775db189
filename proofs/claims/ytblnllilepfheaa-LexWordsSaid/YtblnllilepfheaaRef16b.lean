/-
  The document's answer of layer 16: Text.
-/
import Derived.Test.YtblnllilepfheaaRef16
import Derived.Test.YtblnllilepfheaaLexCells
import Derived.WalkKit
namespace Go.Proofs.Ytblnllilepfheaa
open Go.RowKit

theorem lexText_snoc : ∀ {l : List (List UInt8)} (q : List UInt8), l ≠ [] → lexText (l ++ [q]) = lexText l ++ (32 :: q)
  | [], _, h => absurd rfl h
  | [x], q, _ => rfl
  | x :: y :: l, q, _ => by
    have h := lexText_snoc (l := y :: l) q (by simp)
    show x ++ 32 :: lexText ((y :: l) ++ [q]) = (x ++ 32 :: lexText (y :: l)) ++ (32 :: q)
    rw [h]; simp
theorem wx_more {L : List Wx} {k : Nat} (h : k < L.length) : (L.map Wx.t).take (k + 1) = (L.map Wx.t).take k ++ [(L.getD k Wx.zero).t] := by
  rw [List.take_add_one, List.getElem?_map, List.getD_eq_getElem?_getD, List.getElem?_eq_getElem h]; rfl
theorem wx_mem {L : List Wx} {k : Nat} (h : k < L.length) : L.getD k Wx.zero ∈ L := by
  rw [List.getD_eq_getElem?_getD, List.getElem?_eq_getElem h]; exact List.getElem_mem h
set_option maxRecDepth 4096 in
set_option maxHeartbeats 4000000 in
theorem ref16_text (a0 : Option Addr) (n0 c0 : Nat) (L : List Wx) (w : World) (h0 : Wxs w a0 n0 c0 L) (hn : n0 ≤ 4000) (ht0 : ∀ x ∈ L, x.t.length ≤ 4000) :
    Calls Try.prog 14 #[.slice a0 n0 c0] w (Same1 (.string (bs (lexText (L.map Wx.t)))) w) := by
  have HK0 := Lib.hid h0
  have HLl0 := Lib.hid h0.len
  have hbd0 := h0.bound
  have HTh0 := Lib.hid ht0
  clear h0 ht0
  obtain ⟨R, hR⟩ : ∃ R, lexText (L.map Wx.t) = R := ⟨_, rfl⟩
  have HR := Lib.hid hR
  rw [hR]
  clear hR
  go_enter Try.func14, Try.ntmps14
  go_wp2
  go_loop [3, 4] (fun sv iv => ∃ (k : Nat) (s : List UInt8), k ≤ n0 ∧ iv = .int .i64 (k : Int) ∧ sv = .string (bs s) ∧ s.length ≤ k * 4001 ∧ Hid (lexText ((L.map Wx.t).take k) = s)) (fun _ iv => n0 - (intOf iv).toNat)
  case atStart => exact ⟨0, [], by omega, rfl, rfl, by simp, Lib.hid rfl⟩
  case round =>
    obtain ⟨k, s, hk, rfl, rfl, hsl, HS⟩ := hrel
    by_cases hlt : k < n0
    · have HT0 : Hid ((L.map Wx.t).take (k + 1) = (L.map Wx.t).take k ++ [(L.getD k Wx.zero).t]) := Lib.hid (wx_more (by rw [HLl0.out]; exact hlt))
      have hTk : ((L.map Wx.t).take k).length = k := by rw [List.length_take, List.length_map, HLl0.out]; omega
      obtain ⟨bb0, off0, rfl, e00, e10, e20⟩ := HK0.out.at hlt
      have hfl : (L.getD k Wx.zero).t.length ≤ 4000 := HTh0.out _ (wx_mem (by rw [HLl0.out]; exact hlt))
      unfold Wx.str at e10
      generalize L.getD k Wx.zero = x at *
      obtain ⟨xk, t, xp⟩ := x
      dsimp only at hfl e10 HT0 e00 e20
      have hki : (k : Int) < (n0 : Int) := by omega
      have hs1 := bs_size s
      have hs2 := bs_size t
      have hs3 := bs_size [32]
      have hs4 := bs_size (s ++ [32])
      simp only [List.length_append, List.length_cons, List.length_nil] at hs3 hs4
      have hcat : bs s ++ bs [32] = bs (s ++ [32]) := bs_append _ _
      by_cases h00 : k = 0
      · have HS9 : Hid (lexText ((L.map Wx.t).take (k + 1)) = s ++ t) := Lib.hid (by
          subst h00
          rw [HT0.out, ← HS.out]; rfl)
        have hk0 : ¬ (0 : Int) < (k : Int) := by omega
        clear h00 HT0 HS hTk
        go_wp2
        go_round
        case rel => exact ⟨k + 1, s ++ t, by omega, by go_num, by rw [← bs_append], by simp only [List.length_append]; omega, HS9⟩
        case measure => simp [intOf]; omega
      · have HS9 : Hid (lexText ((L.map Wx.t).take (k + 1)) = s ++ (32 :: t)) := Lib.hid (by
          rw [HT0.out, lexText_snoc _ (fun e => h00 (by rw [← hTk, e]; rfl)), HS.out])
        have hk0 : (0 : Int) < (k : Int) := by omega
        clear h00 HT0 HS hTk
        go_wp2
        go_round
        case rel => exact ⟨k + 1, s ++ (32 :: t), by omega, by go_num, by (rw [show (⟨#[32]⟩ : ByteArray) = bs [32] from rfl, bs_append, bs_append]; simp), by simp only [List.length_append, List.length_cons]; omega, HS9⟩
        case measure => simp [intOf]; omega
    · obtain rfl : k = n0 := by omega
      obtain rfl : s = R := by
        rw [← HR.out, ← HS.out, List.take_of_length_le (by rw [List.length_map, HLl0.out]; exact Nat.le_refl _)]
      clear HS
      go_wp2
      go_ret
      exact ⟨rfl, rfl⟩
end Go.Proofs.Ytblnllilepfheaa
