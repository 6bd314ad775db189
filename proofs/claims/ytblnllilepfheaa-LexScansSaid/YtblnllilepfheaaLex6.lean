/-
  Package lex: Right, Text.
-/
import Derived.Test.YtblnllilepfheaaLex2
import Derived.Test.YtblnllilepfheaaLex4
import Derived.Test.YtblnllilepfheaaLexPush
import Derived.Test.YtblnllilepfheaaLexOne
import Derived.Test.YtblnllilepfheaaRef16b
import Derived.WalkKit
namespace Go.Proofs.Ytblnllilepfheaa
open Go.RowKit

set_option maxRecDepth 4096 in
set_option maxHeartbeats 8000000 in
theorem lex_right (k p : Int) (l : List UInt8) (hl : l.length ≤ 4000) (w : World) : Calls Try.prog 11 #[.agg #[.int .i64 k, .string (bs l), .int .i64 p]] w (Gives (.bool (lexRight k l)) w) := by
  have hsz := bs_size l
  rw [lexRight_first k l hl]
  have hle := (lexFirst_le l).2
  have hk3 := (lexFirst_le l).1
  have HQ := Lib.hid (lex_first l (by omega) (w.alloc (.cells #[.int .i64 k, .string (bs l), .int .i64 p] 38)))
  generalize lexFirst l = f at *
  obtain ⟨fk, fn⟩ := f
  dsimp only at hle hk3 HQ ⊢
  obtain ⟨R, hR⟩ : ∃ R, (decide (fk ≠ 0) && decide ((fk : Int) = k) && decide (fn = l.length) && decide (fn ≤ lexMost fk)) = R := ⟨_, rfl⟩
  have HR := Lib.hid hR
  rw [hR]
  clear hR
  by_cases h0 : fk = 0
  · have q0 : ((fk : Int) != 0) = false := by simp [h0]
    obtain rfl : R = false := by rw [← HR.out]; simp [h0]
    go_enter Try.func11, Try.ntmps11
    go_wp2_with fail
    refine HQ.out.mono ?_
    rintro e w1 ⟨rfl, b1⟩
    have hX := blk_later (blk_new w #[.int .i64 k, .string (bs l), .int .i64 p] 38) b1
    have e0 := blk_cell hX 0
    have e1 := blk_cell hX 1
    have e2 := blk_cell hX 2
    simp only [List.getElem?_toArray, List.getElem?_cons_zero, List.getElem?_cons_succ] at e0 e1 e2
    have HB := Lib.hid (below_then (below_alloc w _) b1)
    clear hX b1
    go_wp2
    go_ret
    exact ⟨rfl, HB.out⟩
  · have q0 : ((fk : Int) != 0) = true := by simp [h0]
    by_cases h1 : (fk : Int) = k
    · have q1 : ((fk : Int) == k) = true := by simp [h1]
      by_cases h2 : fn = l.length
      · have q2 : ((fn : Int) == (l.length : Int)) = true := by simp [h2]
        have HM := Lib.hid fun w => lex_longest (fk : Int) fk rfl w
        have q3 : R = decide (fn ≤ lexMost fk) := by rw [← HR.out]; simp [h0, h1, h2]
        have HR3 := Lib.hid q3
        clear q3 h0 h1 h2
        go_enter Try.func11, Try.ntmps11
        go_wp2_with fail
        refine HQ.out.mono ?_
        rintro e w1 ⟨rfl, b1⟩
        have hX := blk_later (blk_new w #[.int .i64 k, .string (bs l), .int .i64 p] 38) b1
        have e0 := blk_cell hX 0
        have e1 := blk_cell hX 1
        have e2 := blk_cell hX 2
        simp only [List.getElem?_toArray, List.getElem?_cons_zero, List.getElem?_cons_succ] at e0 e1 e2
        have HB := Lib.hid (below_then (below_alloc w _) b1)
        clear hX b1
        go_wp2_with fail
        refine (HM.out _).mono ?_
        rintro e w2 ⟨rfl, rfl⟩
        go_wp2
        go_ret
        exact ⟨by rw [HR3.out]; rfl, HB.out⟩
      · have q2 : ((fn : Int) == (l.length : Int)) = false := by simp; omega
        obtain rfl : R = false := by rw [← HR.out]; simp [h2]
        go_enter Try.func11, Try.ntmps11
        go_wp2_with fail
        refine HQ.out.mono ?_
        rintro e w1 ⟨rfl, b1⟩
        have hX := blk_later (blk_new w #[.int .i64 k, .string (bs l), .int .i64 p] 38) b1
        have e0 := blk_cell hX 0
        have e1 := blk_cell hX 1
        have e2 := blk_cell hX 2
        simp only [List.getElem?_toArray, List.getElem?_cons_zero, List.getElem?_cons_succ] at e0 e1 e2
        have HB := Lib.hid (below_then (below_alloc w _) b1)
        clear hX b1
        go_wp2
        go_ret
        exact ⟨rfl, HB.out⟩
    · have q1 : ((fk : Int) == k) = false := by simp [h1]
      obtain rfl : R = false := by rw [← HR.out]; simp [h1]
      go_enter Try.func11, Try.ntmps11
      go_wp2_with fail
      refine HQ.out.mono ?_
      rintro e w1 ⟨rfl, b1⟩
      have hX := blk_later (blk_new w #[.int .i64 k, .string (bs l), .int .i64 p] 38) b1
      have e0 := blk_cell hX 0
      have e1 := blk_cell hX 1
      have e2 := blk_cell hX 2
      simp only [List.getElem?_toArray, List.getElem?_cons_zero, List.getElem?_cons_succ] at e0 e1 e2
      have HB := Lib.hid (below_then (below_alloc w _) b1)
      clear hX b1
      go_wp2
      go_ret
      exact ⟨rfl, HB.out⟩
set_option maxRecDepth 4096 in
set_option maxHeartbeats 8000000 in
theorem lex_text (a0 : Option Addr) (n0 c0 : Nat) (L : List Wx) (w : World) (h0 : Wxs w a0 n0 c0 L) (hn : n0 ≤ 4000) (ht0 : ∀ x ∈ L, x.t.length ≤ 4000) :
    Calls Try.prog 13 #[.slice a0 n0 c0] w (Gives (.string (bs (lexText (L.map Wx.t)))) w) := by
  have HK0 := Lib.hid h0
  have HLl0 := Lib.hid h0.len
  have hbd0 := h0.bound
  have HTh0 := Lib.hid ht0
  clear h0 ht0
  obtain ⟨R, hR⟩ : ∃ R, lexText (L.map Wx.t) = R := ⟨_, rfl⟩
  have HR := Lib.hid hR
  rw [hR]
  clear hR
  go_enter Try.func13, Try.ntmps13
  go_wp2
  go_loopw [8] (fun iv wr => ∃ (k : Nat) (s : List UInt8), k ≤ n0 ∧ iv = .int .i64 (k : Int) ∧ s.length ≤ k * 4001 ∧ Hid (lexText ((L.map Wx.t).take k) = s) ∧ Hid (Lib.IsBuilderF 54 5 w.heap.size w.heap.size (Lib.byteCells s) wr) ∧ Hid (Below w.heap.size w wr)) (fun iv _ => n0 - (intOf iv).toNat)
  case atStart => exact ⟨0, [], by omega, rfl, by simp, Lib.hid rfl, Lib.hid (Lib.IsBuilderF.of (Lib.fresh_isBuilder 54 5 w)), Lib.hid (below_alloc w _)⟩
  case round =>
    obtain ⟨k, s, hk, rfl, hsl, HS, HI, HB⟩ := hrel
    by_cases hlt : k < n0
    · have HT0 : Hid ((L.map Wx.t).take (k + 1) = (L.map Wx.t).take k ++ [(L.getD k Wx.zero).t]) := Lib.hid (wx_more (by rw [HLl0.out]; exact hlt))
      have hTk : ((L.map Wx.t).take k).length = k := by rw [List.length_take, List.length_map, HLl0.out]; omega
      obtain ⟨bb0, off0, rfl, e00, e10, e20⟩ := (HK0.out.later HB.out).at hlt
      have hfl : (L.getD k Wx.zero).t.length ≤ 4000 := HTh0.out _ (wx_mem (by rw [HLl0.out]; exact hlt))
      unfold Wx.str at e10
      generalize L.getD k Wx.zero = x at *
      obtain ⟨xk, t, xp⟩ := x
      dsimp only at hfl e10 HT0 e00 e20
      have hki : (k : Int) < (n0 : Int) := by omega
      have hwb := HB.out.size
      have HI1 := Lib.hid (HI.out.alloc (.cells #[.int .i64 xk, .string (bs t), .int .i64 xp] 38))
      have HB1 := Lib.hid (HB.out.alloc hwb (.cells #[.int .i64 xk, .string (bs t), .int .i64 xp] 38))
      have HX1 := Lib.hid (blk_new wr #[.int .i64 xk, .string (bs t), .int .i64 xp] 38)
      have hs2 : w.heap.size ≤ (wr.alloc (.cells #[.int .i64 xk, .string (bs t), .int .i64 xp] 38)).heap.size := HB1.out.size
      have hne : wr.heap.size ≠ w.heap.size := by
        have := HI.out
        rcases this with h | h
        · have := h.lt; omega
        · have := h.lt; omega
      clear HI HB hwb
      by_cases h00 : k = 0
      · have HS9 : Hid (lexText ((L.map Wx.t).take (k + 1)) = s ++ t) := Lib.hid (by
          subst h00
          rw [HT0.out, ← HS.out]; rfl)
        have hk0 : ¬ (0 : Int) < (k : Int) := by omega
        clear h00 HT0 HS hTk
        go_wp2_with fail
        refine (lex_putString w.heap.size w.heap.size s t _ HI1.out (by omega) (by omega) hs2).mono ?_
        rintro e w2 ⟨rfl, h2, b2, _⟩
        have HI2 := Lib.hid h2
        have HB2 := Lib.hid (HB1.out.trans b2)
        clear h2 b2
        go_wp2
        go_roundw
        case rel => exact ⟨k + 1, s ++ t, by omega, by go_num, by simp only [List.length_append]; omega, HS9, HI2, HB2⟩
        case measure => simp [intOf]; omega
      · have HS9 : Hid (lexText ((L.map Wx.t).take (k + 1)) = (s ++ [32]) ++ t) := Lib.hid (by
          rw [HT0.out, lexText_snoc _ (fun e => h00 (by rw [← hTk, e]; rfl)), HS.out]; simp)
        have hk0 : (0 : Int) < (k : Int) := by omega
        clear h00 HT0 HS hTk
        go_wp2_with fail
        refine (lex_putByte w.heap.size w.heap.size s 32 _ HI1.out (by omega) hs2).mono ?_
        rintro e w2 ⟨rfl, h2, b2, ho⟩
        have hX := ho wr.heap.size _ HX1.out (fun e => hne (Option.some.inj e)) (fun c fz e => by have := (Obj.cells.inj e).2.1; revert this; decide)
        have e0 := blk_cell hX 0
        have e1 := blk_cell hX 1
        have e2 := blk_cell hX 2
        simp only [List.getElem?_toArray, List.getElem?_cons_zero, List.getElem?_cons_succ] at e0 e1 e2
        have HI2 := Lib.hid h2
        have HB2 := Lib.hid (HB1.out.trans b2)
        have hs3 : w.heap.size ≤ w2.heap.size := HB2.out.size
        clear h2 b2 ho hX
        go_wp2_with fail
        refine (lex_putString w.heap.size w.heap.size (s ++ [32]) t _ HI2.out (by simp; omega) (by omega) hs3).mono ?_
        rintro e w3 ⟨rfl, h2, b2, _⟩
        have HI3 := Lib.hid h2
        have HB3 := Lib.hid (HB2.out.trans b2)
        clear h2 b2
        go_wp2
        go_roundw
        case rel => exact ⟨k + 1, (s ++ [32]) ++ t, by omega, by go_num, by simp only [List.length_append, List.length_cons, List.length_nil]; omega, HS9, HI3, HB3⟩
        case measure => simp [intOf]; omega
    · obtain rfl : k = n0 := by omega
      obtain rfl : s = R := by
        rw [← HR.out, ← HS.out, List.take_of_length_le (by rw [List.length_map, HLl0.out]; exact Nat.le_refl _)]
      clear HS
      go_wp2_with fail
      refine (lex_getString w.heap.size w.heap.size s _ HI.out HB.out.size).mono ?_
      rintro e w2 ⟨rfl, b2⟩
      go_wp2
      go_ret
      exact ⟨rfl, HB.out.trans b2⟩
end Go.Proofs.Ytblnllilepfheaa
