/-
  The walks of the laws of layer 16: LexWords.
-/
import Derived.Test.YtblnllilepfheaaLaw16Walks1
import Derived.Deep.RegionHeld3
namespace Go.Proofs.Ytblnllilepfheaa
open Go.RowKit

/-- The cells of one word of two rows that hold the same words. -/
theorem lw_cells {w : World} {b0 o0 n c b1 o1 m d k : Nat} {L : List Wx} {xk : Int} {t : List UInt8} {xp : Int} (h1 : Wxs w (some ⟨b1, o1, none⟩) m d L) (h0 : Wxs w (some ⟨b0, o0, none⟩) n c L) (hk : k < n) (hx : L.getD k Wx.zero = ⟨xk, t, xp⟩) :
    w.cell? ⟨b1, o1 + k * 3, none⟩ = some (.int .i64 xk) ∧ w.cell? ⟨b1, o1 + k * 3 + 1, none⟩ = some (.string (bs t)) ∧ w.cell? ⟨b1, o1 + k * 3 + 2, none⟩ = some (.int .i64 xp) ∧ w.cell? ⟨b0, o0 + k * 3, none⟩ = some (.int .i64 xk) ∧ w.cell? ⟨b0, o0 + k * 3 + 1, none⟩ = some (.string (bs t)) ∧ w.cell? ⟨b0, o0 + k * 3 + 2, none⟩ = some (.int .i64 xp) := by
  have hk1 : k < m := by rw [← h1.len, h0.len]; exact hk
  obtain ⟨x1, y1, e1, f0, f1, f2⟩ := h1.at hk1
  obtain ⟨x0, y0, e0, g0, g1, g2⟩ := h0.at hk
  simp only [Option.some.injEq, Addr.mk.injEq, and_true] at e0 e1
  obtain ⟨rfl, rfl⟩ := e0
  obtain ⟨rfl, rfl⟩ := e1
  rw [hx] at f0 f1 f2 g0 g1 g2
  exact ⟨f0, f1, f2, g0, g1, g2⟩
set_option maxRecDepth 4096 in
set_option maxHeartbeats 16000000 in
theorem law16_words (a0 : Option Addr) (n0 c0 : Nat) (L : List Wx) (w : World) (h0 : Wxs w a0 n0 c0 L) : Calls Try.prog 4 #[.slice a0 n0 c0] w (Gives (.bool true) w) := by
  have HW := Lib.hid fun w => law16_works w
  have HL := Lib.hid h0
  have hll := h0.len
  have hbd := h0.bound
  clear h0
  by_cases hbig : 100 < n0
  · have hb : (100 : Int) < ((n0 : Nat) : Int) := by omega
    go_enter Try.func4, Try.ntmps4
    go_wp2_with fail
    refine (HW.out _).mono ?_
    rintro e w1 ⟨rfl, b1⟩
    go_wp2
    go_ret
    exact ⟨rfl, b1⟩
  · have hb : ¬ (100 : Int) < ((n0 : Nat) : Int) := by omega
    have HLl := Lib.hid hll
    clear hll
    go_enter Try.func4, Try.ntmps4
    go_wp2_with fail
    refine (law16_to a0 n0 c0 L _ HL.out (by omega)).mono ?_
    rintro e w1 ⟨a1, n1, c1, rfl, h1, b1⟩
    obtain rfl : n1 = n0 := h1.len.symm.trans HLl.out
    have HX1 := Lib.hid h1
    have HB1 := Lib.hid b1
    have HL1 := Lib.hid (HL.out.later b1)
    have hbd1 := h1.bound
    clear h1 b1 HL
    go_wp2
    go_loopw [4] (fun iv wr => ∃ k : Nat, k ≤ n1 ∧ iv = .int .i64 (k : Int) ∧ Hid (∀ j, j < k → (L.getD j Wx.zero).t.length ≤ 200) ∧ Hid (Wxs wr a1 n1 c1 L) ∧ Hid (Wxs wr a0 n1 c0 L) ∧ Hid (Below w.heap.size w wr)) (fun iv _ => n1 - (intOf iv).toNat)
    case atStart => exact ⟨0, by omega, rfl, Lib.hid (fun j hj => by omega), HX1, HL1, HB1⟩
    case round =>
      obtain ⟨k, hk, rfl, HT, HX, HL, HB⟩ := hrel
      by_cases hlt : k < n1
      · obtain ⟨b1, o1, rfl, e10, e11, e12⟩ := HX.out.at hlt
        obtain ⟨b0, o0, rfl, e00, e01, e02⟩ := HL.out.at hlt
        clear e10 e11 e12
        obtain ⟨x, hx⟩ : ∃ x, L.getD k Wx.zero = x := ⟨_, rfl⟩
        have HXk := Lib.hid hx
        rw [hx] at e00 e01 e02
        clear hx
        obtain ⟨xk, t, xp⟩ := x
        unfold Wx.str at e01
        dsimp only at e00 e01 e02
        have hst := bs_size t
        have hki : (k : Int) < (n1 : Int) := by omega
        by_cases hlong : 200 < t.length
        · have q1 : (200 : Int) < ((t.length : Nat) : Int) := by omega
          clear hlong
          go_wp2_with fail
          refine (HW.out _).mono ?_
          rintro e w2 ⟨rfl, b2⟩
          go_wp2
          go_ret
          exact ⟨rfl, below_then HB.out b2⟩
        · have q1 : ¬ (200 : Int) < ((t.length : Nat) : Int) := by omega
          have HT2 : Hid (∀ j, j < k + 1 → (L.getD j Wx.zero).t.length ≤ 200) := Lib.hid (fun j hj => by
            by_cases hjk : j = k
            · subst hjk; rw [HXk.out]; show t.length ≤ 200; omega
            · exact HT.out j (by omega))
          have HP := Lib.hid fun w => lex_right xk xp t (by omega) w
          have HQ := Lib.hid fun w => ref16_right xk xp t w
          generalize lexRight xk t = r at *
          clear hlong HT
          go_upto_region 9 with fail
          have HB9 := Lib.hid (below_then HB.out ((Below.refl _ _).drew : Below wr.heap.size wr wr.drew))
          have HX9 := Lib.hid (HX.out.later ((Below.refl _ _).drew : Below wr.heap.size wr wr.drew))
          have HL9 := Lib.hid (HL.out.later ((Below.refl _ _).drew : Below wr.heap.size wr wr.drew))
          clear HB HX HL e00 e01 e02
          have pSn := lw_cells HX9.out HL9.out hlt HXk.out
          go_region_held3 (fun w' => w'.cell? ⟨b1, o1 + k * 3, none⟩ = some (.int .i64 xk) ∧ w'.cell? ⟨b1, o1 + k * 3 + 1, none⟩ = some (.string (bs t)) ∧ w'.cell? ⟨b1, o1 + k * 3 + 2, none⟩ = some (.int .i64 xp) ∧ w'.cell? ⟨b0, o0 + k * 3, none⟩ = some (.int .i64 xk) ∧ w'.cell? ⟨b0, o0 + k * 3 + 1, none⟩ = some (.string (bs t)) ∧ w'.cell? ⟨b0, o0 + k * 3 + 2, none⟩ = some (.int .i64 xp)) (exact pSn)
            (first
            | (go_at_call 11; refine (HP.out _).mono ?_; rintro e wp1 ⟨rfl, b⟩; replace HB9 := Lib.hid (below_then HB9.out b); replace HX9 := Lib.hid (HX9.out.later b); replace HL9 := Lib.hid (HL9.out.later b); clear b; clear pSn; have pSn := lw_cells HX9.out HL9.out hlt HXk.out)
            | (go_at_call 12; refine (HQ.out _).mono ?_; rintro e wp2 ⟨rfl, b⟩; replace HB9 := Lib.hid (below_then HB9.out b); replace HX9 := Lib.hid (HX9.out.later b); replace HL9 := Lib.hid (HL9.out.later b); clear b; clear pSn; have pSn := lw_cells HX9.out HL9.out hlt HXk.out))
          clear pSn
          go_wp2
          go_roundw
          case rel => exact ⟨k + 1, by omega, by go_num, HT2, HX9, HL9, HB9⟩
          case measure => simp [intOf]; omega
      · obtain rfl : k = n1 := by omega
        have hall : ∀ x ∈ L, x.t.length ≤ 4000 := fun x hx => by
          obtain ⟨j, hj, he⟩ := List.mem_iff_getElem.1 hx
          have h9 := HT.out j (by rw [← HLl.out]; exact hj)
          rw [List.getD_eq_getElem?_getD, List.getElem?_eq_getElem hj] at h9
          simp only [Option.getD_some] at h9
          rw [he] at h9
          omega
        have HP := Lib.hid fun w (h : Wxs w a1 k c1 L) => lex_text a1 k c1 L w h (by omega) hall
        have HQ := Lib.hid fun w (h : Wxs w a0 k c0 L) => ref16_text a0 k c0 L w h (by omega) hall
        generalize lexText (L.map Wx.t) = R at *
        have q2 : ((bs R).toList == (bs R).toList) = true := by simp
        clear hall HT
        go_wp2_with fail
        refine (HP.out _ HX.out).mono ?_
        rintro e w2 ⟨rfl, b2⟩
        have HL2 := Lib.hid (HL.out.later b2)
        have HB2 := Lib.hid (below_then HB.out b2)
        clear b2 HX HL HB
        go_wp2_with fail
        refine (HQ.out _ HL2.out).mono ?_
        rintro e w3 ⟨rfl, rfl⟩
        go_wp2_with fail
        refine (HW.out _).mono ?_
        rintro e w4 ⟨rfl, b4⟩
        go_wp2
        go_ret
        exact ⟨rfl, below_then HB2.out b4⟩
end Go.Proofs.Ytblnllilepfheaa
