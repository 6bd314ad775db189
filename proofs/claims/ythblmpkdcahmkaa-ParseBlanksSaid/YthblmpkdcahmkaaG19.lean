/-
  Several texts of this claim as one, group 19.
-/
import Derived.Test.YthblmpkdcahmkaaG16
import Derived.Test.YthblmpkdcahmkaaG17
import Derived.Test.YthblmpkdcahmkaaG5
import Derived.Test.YthblmpkdcahmkaaG3
import Derived.Test.YthblmpkdcahmkaaG18
import Derived.WalkKit
import Derived.Test.YthblmpkdcahmkaaG13
import Derived.Test.YthblmpkdcahmkaaG7
import Derived.Deep.RegionHeld3
/-
  Package lex: Right, Text.
-/
namespace Go.Proofs.Ythblmpkdcahmkaa
open Go.RowKit

set_option maxRecDepth 4096 in
set_option maxHeartbeats 8000000 in
theorem lex_text (a0 : Option Addr) (n0 c0 : Nat) (L : List Wx) (w : World) (h0 : Wxs w a0 n0 c0 L) (hn : n0 ≤ 4000) (ht0 : ∀ x ∈ L, x.t.length ≤ 4000) :
    Calls Try.prog 17 #[.slice a0 n0 c0] w (Gives (.string (bs (lexText (L.map Wx.t)))) w) := by
  have HK0 := Lib.hid h0
  have HLl0 := Lib.hid h0.len
  have hbd0 := h0.bound
  have HTh0 := Lib.hid ht0
  clear h0 ht0
  obtain ⟨R, hR⟩ : ∃ R, lexText (L.map Wx.t) = R := ⟨_, rfl⟩
  have HR := Lib.hid hR
  rw [hR]
  clear hR
  go_enter Try.func17, Try.ntmps17
  go_wp2
  go_loopw [8] (fun iv wr => ∃ (k : Nat) (s : List UInt8), k ≤ n0 ∧ iv = .int .i64 (k : Int) ∧ s.length ≤ k * 4001 ∧ Hid (lexText ((L.map Wx.t).take k) = s) ∧ Hid (Lib.IsBuilderF 92 5 w.heap.size w.heap.size (Lib.byteCells s) wr) ∧ Hid (Below w.heap.size w wr)) (fun iv _ => n0 - (intOf iv).toNat)
  case atStart => exact ⟨0, [], by omega, rfl, by simp, Lib.hid rfl, Lib.hid (Lib.IsBuilderF.of (Lib.fresh_isBuilder 92 5 w)), Lib.hid (below_alloc w _)⟩
  case round =>
    obtain ⟨k, s, hk, rfl, hsl, HS, HI, HB⟩ := hrel
    by_cases hlt : k < n0
    · have HT0 : Hid ((L.map Wx.t).take (k + 1) = (L.map Wx.t).take k ++ [(L.getD k Wx.zero).t]) := Lib.hid (wx_more (by rw [HLl0.out]; exact hlt))
      have hTk : ((L.map Wx.t).take k).length = k := by rw [List.length_take, List.length_map, HLl0.out]; omega
      obtain ⟨bb0, off0, rfl, e00, e10, e20⟩ := (HK0.out.later HB.out).at hlt
      have hfl : (L.getD k Wx.zero).t.length ≤ 4000 := HTh0.out _ (wx_mem (by rw [HLl0.out]; exact hlt))
      unfold Wx.str at e10
      generalize L.getD k Wx.zero = x at *
      obtain ⟨xk, t, xp⟩ := x
      dsimp only at hfl e10 HT0 e00 e20
      have hki : (k : Int) < (n0 : Int) := by omega
      have hwb := HB.out.size
      have HI1 := Lib.hid (HI.out.alloc (.cells #[.int .i64 xk, .string (bs t), .int .i64 xp] 88))
      have HB1 := Lib.hid (HB.out.alloc hwb (.cells #[.int .i64 xk, .string (bs t), .int .i64 xp] 88))
      have HX1 := Lib.hid (blk_new wr #[.int .i64 xk, .string (bs t), .int .i64 xp] 88)
      have hs2 : w.heap.size ≤ (wr.alloc (.cells #[.int .i64 xk, .string (bs t), .int .i64 xp] 88)).heap.size := HB1.out.size
      have hne : wr.heap.size ≠ w.heap.size := by
        have := HI.out
        rcases this with h | h
        · have := h.lt; omega
        · have := h.lt; omega
      clear HI HB hwb
      by_cases h00 : k = 0
      · have HS9 : Hid (lexText ((L.map Wx.t).take (k + 1)) = s ++ t) := Lib.hid (by
          subst h00
          rw [HT0.out, ← HS.out]; rfl)
        have hk0 : ¬ (0 : Int) < (k : Int) := by omega
        clear h00 HT0 HS hTk
        go_wp2_with fail
        refine (lex_putString w.heap.size w.heap.size s t _ HI1.out (by omega) (by omega) hs2).mono ?_
        rintro e w2 ⟨rfl, h2, b2, _⟩
        have HI2 := Lib.hid h2
        have HB2 := Lib.hid (HB1.out.trans b2)
        clear h2 b2
        go_wp2
        go_roundw
        case rel => exact ⟨k + 1, s ++ t, by omega, by go_num, by simp only [List.length_append]; omega, HS9, HI2, HB2⟩
        case measure => simp [intOf]; omega
      · have HS9 : Hid (lexText ((L.map Wx.t).take (k + 1)) = (s ++ [32]) ++ t) := Lib.hid (by
          rw [HT0.out, lexText_snoc _ (fun e => h00 (by rw [← hTk, e]; rfl)), HS.out]; simp)
        have hk0 : (0 : Int) < (k : Int) := by omega
        clear h00 HT0 HS hTk
        go_wp2_with fail
        refine (lex_putByte w.heap.size w.heap.size s 32 _ HI1.out (by omega) hs2).mono ?_
        rintro e w2 ⟨rfl, h2, b2, ho⟩
        have hX := ho wr.heap.size _ HX1.out (fun e => hne (Option.some.inj e)) (fun c fz e => by have := (Obj.cells.inj e).2.1; revert this; decide)
        have e0 := blk_cell hX 0
        have e1 := blk_cell hX 1
        have e2 := blk_cell hX 2
        simp only [List.getElem?_toArray, List.getElem?_cons_zero, List.getElem?_cons_succ] at e0 e1 e2
        have HI2 := Lib.hid h2
        have HB2 := Lib.hid (HB1.out.trans b2)
        have hs3 : w.heap.size ≤ w2.heap.size := HB2.out.size
        clear h2 b2 ho hX
        go_wp2_with fail
        refine (lex_putString w.heap.size w.heap.size (s ++ [32]) t _ HI2.out (by simp; omega) (by omega) hs3).mono ?_
        rintro e w3 ⟨rfl, h2, b2, _⟩
        have HI3 := Lib.hid h2
        have HB3 := Lib.hid (HB2.out.trans b2)
        clear h2 b2
        go_wp2
        go_roundw
        case rel => exact ⟨k + 1, (s ++ [32]) ++ t, by omega, by go_num, by simp only [List.length_append, List.length_cons, List.length_nil]; omega, HS9, HI3, HB3⟩
        case measure => simp [intOf]; omega
    · obtain rfl : k = n0 := by omega
      obtain rfl : s = R := by
        rw [← HR.out, ← HS.out, List.take_of_length_le (by rw [List.length_map, HLl0.out]; exact Nat.le_refl _)]
      clear HS
      go_wp2_with fail
      refine (lex_getString w.heap.size w.heap.size s _ HI.out HB.out.size).mono ?_
      rintro e w2 ⟨rfl, b2⟩
      go_wp2
      go_ret
      exact ⟨rfl, HB.out.trans b2⟩
end Go.Proofs.Ythblmpkdcahmkaa

/-
  The walks of the laws of layer 18: ParseBlanks.
-/
namespace Go.Proofs.Ythblmpkdcahmkaa
open Go.RowKit

theorem rt_ops {L : List Nd} {c : List Np} (h : L.map Nd.sem = c) (hr : Rt c) : tWrong (L.map Nd.op) < 0 := by
  have e : L.map Nd.op = (L.map Nd.sem).map Prod.fst := by simp [Nd.sem, Function.comp_def]
  obtain ⟨t, h1, h2⟩ := hr
  rw [e, h, ← h2, Ex.wrong_flat (fun x : Np => x.1) h1]
  decide
theorem names_ab (w : World) (e : TypeId) : stC.Has (w.alloc (.cells #[.string { data := #[97] }, .string { data := #[98] }] e)) (some ⟨w.heap.size, 0, none⟩) 2 2 [[97], [98]] := Cls.Has.lit (C := stC) w [[97], [98]] e rfl (by omega)
theorem names_at (w : World) (e : TypeId) {z : Nat} (hz : w.heap.size = z) : stC.Has (w.alloc (.cells #[.string { data := #[97] }, .string { data := #[98] }] e)) (some ⟨z, 0, none⟩) 2 2 [[97], [98]] := by
  subst hz
  exact names_ab w e
theorem cat_brackets (l : List UInt8) : ({ data := #[40] } : ByteArray) ++ bs l ++ { data := #[10, 41] } = bs (40 :: (l ++ [10, 41])) := by
  rw [show ({ data := #[40] } : ByteArray) = bs [40] from rfl, show ({ data := #[10, 41] } : ByteArray) = bs [10, 41] from rfl, bs_append, bs_append]
  rfl
set_option maxRecDepth 4096 in
set_option maxHeartbeats 32000000 in
theorem law18_blanks (S : ParseSaid) (T : TreeSaid) (l : List UInt8) (w : World) (hl : l.length ≤ 9223372036854775807) : Calls Try.prog 5 #[.string (bs l)] w (Gives (.bool true) w) := by
  have hsz := bs_size l
  have HW := Lib.hid fun w => law18_works S w
  by_cases hbig : 1500 < l.length
  · have hb : (1500 : Int) < ((l.length : Nat) : Int) := by omega
    go_enter Try.func5, Try.ntmps5
    go_wp2_with fail
    refine (HW.out _).mono ?_
    rintro e w1 ⟨rfl, b1⟩
    go_wp2
    go_ret
    exact ⟨rfl, b1⟩
  · have hb : ¬ (1500 : Int) < ((l.length : Nat) : Int) := by omega
    have HS := Lib.hid (lex_scan l (by omega) w)
    have hln := lexScan_len l
    have HWk := Lib.hid (lexScan_wk l)
    by_cases ha : (lexScan l).2 < 0
    · have hf : lexFault (lexScan l).2 = faultV 0 0 0 0 := if_pos ha
      obtain ⟨g1, g2, g3⟩ := pF_again (l := l) (by omega) ha
      have hal := again_len l
      have hmm : ((lexScan l).1.map Lw.x).map Wx.t = (lexScan l).1.map Lw.t := by simp [Function.comp_def, Lw.x]
      have HP1 := Lib.hid fun w9 => S.parse l w9 (by omega)
      obtain ⟨t, ht⟩ : ∃ t, lexText ((lexScan l).1.map Lw.t) = t := ⟨_, rfl⟩
      rw [ht] at g1 g2 g3 hal
      have HP2 := Lib.hid fun w9 => S.parse t w9 (by omega)
      have HTx := Lib.hid fun a0 n0 c0 w9 (h : Wxs w9 a0 n0 c0 ((lexScan l).1.map Lw.x)) (hn : n0 ≤ 4000) => lex_text a0 n0 c0 ((lexScan l).1.map Lw.x) w9 h hn (fun x hx => by
        obtain ⟨y, hy, rfl⟩ := List.mem_map.1 hx
        have h9 := wk_most (HWk.out y hy)
        have h8 : lexMost y.k ≤ 4000 := by unfold lexMost; split <;> (try split) <;> omega
        exact Nat.le_trans h9 h8)
      rw [hmm, ht] at HTx
      obtain ⟨m1, m2⟩ := pF_len l
      obtain ⟨m3, m4⟩ := pF_len t
      generalize pF l = r1 at *
      generalize pF t = r2 at *
      obtain ⟨k1, o1, z1⟩ := r1
      obtain ⟨k2, o2, z2⟩ := r2
      dsimp only at g1 g2 g3 m1 m2 m3 m4
      subst g1 g2
      go_enter Try.func5, Try.ntmps5
      go_wp2_with fail
      refine HS.out.mono ?_
      rintro e w1 ⟨a1, n1, c1, rfl, h1, b1⟩
      rw [hf]
      unfold faultV
      have hn1 : n1 ≤ 4000 := by rw [← h1.len, List.length_map]; exact hln
      have c2 := below_alloc w1 (.cells #[.int .i64 0, .int .i64 0, .int .i64 0, .int .i64 0] 28)
      have H2 := Lib.hid (h1.later c2)
      have B2 := Lib.hid (below_then b1 c2)
      obtain ⟨e0, e1, e2, e3⟩ := fault_cells18 (blk_new w1 #[.int .i64 0, .int .i64 0, .int .i64 0, .int .i64 0] 28)
      clear h1 b1 c2 hf hmm ht HS
      go_wp2_with fail
      refine (HP1.out _).mono ?_
      rintro e w3 ⟨al, cl, X, ao, co, Y, rfl, hX, hY, kX, kY, tX, tY, b3⟩
      dsimp only at kX kY ⊢
      have H3 := Lib.hid (H2.out.later b3)
      have B3 := Lib.hid (below_then B2.out b3)
      have hXn : X.length ≤ 4001 := by have := congrArg List.length kX; simp at this; omega
      have hYn : Y.length ≤ 4001 := by have := congrArg List.length kY; simp at this; omega
      clear e0 e1 e2 e3 H2 B2
      unfold fiV
      by_cases hz : z1 < 0
      · rw [show lexFault z1 = faultV 0 0 0 0 from if_pos hz]
        have hz2 : z2 < 0 := g3.1 hz
        unfold faultV
        have c4 := below_alloc w3 (.cells #[.slice al X.length cl, .slice ao Y.length co] 26)
        have c5 := below_alloc (w3.alloc (.cells #[.slice al X.length cl, .slice ao Y.length co] 26)) (.cells #[.int .i64 0, .int .i64 0, .int .i64 0, .int .i64 0] 28)
        have H5 := Lib.hid ((H3.out.later c4).later c5)
        have B5 := Lib.hid (below_then (below_then B3.out c4) c5)
        have HX5 := Lib.hid ((hX.later c4).later c5)
        have HY5 := Lib.hid ((hY.later c4).later c5)
        have HF5 := Lib.hid (blk_later (blk_new w3 #[.slice al X.length cl, .slice ao Y.length co] 26) c5)
        have HE5 : Hid (((w3.alloc (.cells #[.slice al X.length cl, .slice ao Y.length co] 26)).alloc (.cells #[.int .i64 0, .int .i64 0, .int .i64 0, .int .i64 0] 28)).heap[w3.heap.size + 1]? = some (.cells #[.int .i64 0, .int .i64 0, .int .i64 0, .int .i64 0] 28 (0, 0))) := Lib.hid (by
          have h9 := blk_new (w3.alloc (.cells #[.slice al X.length cl, .slice ao Y.length co] 26)) #[.int .i64 0, .int .i64 0, .int .i64 0, .int .i64 0] 28
          rw [blk_size] at h9; exact h9)
        have KX := Lib.hid kX
        have KY := Lib.hid kY
        have TX := Lib.hid tX
        have TY := Lib.hid tY
        clear c4 c5 hX hY kX kY tX tY b3 H3 B3
        go_wp2_with fail
        refine (HTx.out a1 n1 c1 _ H5.out hn1).mono ?_
        rintro e w6 ⟨rfl, b6⟩
        go_wp2_with fail
        refine (HP2.out _).mono ?_
        rintro e w7 ⟨al2, cl2, X2, ao2, co2, Y2, rfl, hX, hY, kX, kY, tX, tY, b7⟩
        dsimp only at kX kY ⊢
        rw [show lexFault z2 = faultV 0 0 0 0 from if_pos hz2]
        unfold faultV fiV
        have hX2n : X2.length ≤ 4001 := by have := congrArg List.length kX; simp at this; omega
        have hY2n : Y2.length ≤ 4001 := by have := congrArg List.length kY; simp at this; omega
        have c4 := below_alloc w7 (.cells #[.slice al2 X2.length cl2, .slice ao2 Y2.length co2] 26)
        have c5 := below_alloc (w7.alloc (.cells #[.slice al2 X2.length cl2, .slice ao2 Y2.length co2] 26)) (.cells #[.int .i64 0, .int .i64 0, .int .i64 0, .int .i64 0] 28)
        have b8 := below_then (below_then (below_then b6 b7) c4) c5
        have B8 := Lib.hid (below_then B5.out b8)
        have HX8 := Lib.hid (HX5.out.later b8)
        have HY8 := Lib.hid (HY5.out.later b8)
        have HF8 := Lib.hid (blk_later HF5.out b8)
        have HE8 := Lib.hid (blk_later HE5.out b8)
        have HX9 := Lib.hid ((hX.later c4).later c5)
        have HY9 := Lib.hid ((hY.later c4).later c5)
        have HF9 := Lib.hid (blk_later (blk_new w7 #[.slice al2 X2.length cl2, .slice ao2 Y2.length co2] 26) c5)
        have HE9 : Hid (((w7.alloc (.cells #[.slice al2 X2.length cl2, .slice ao2 Y2.length co2] 26)).alloc (.cells #[.int .i64 0, .int .i64 0, .int .i64 0, .int .i64 0] 28)).heap[w7.heap.size + 1]? = some (.cells #[.int .i64 0, .int .i64 0, .int .i64 0, .int .i64 0] 28 (0, 0))) := Lib.hid (by
          have h9 := blk_new (w7.alloc (.cells #[.slice al2 X2.length cl2, .slice ao2 Y2.length co2] 26)) #[.int .i64 0, .int .i64 0, .int .i64 0, .int .i64 0] 28
          rw [blk_size] at h9; exact h9)
        have hsame : tSame X Y X2 Y2 := tSame_of (KX.out.trans kX.symm) (KY.out.trans kY.symm)
        have HSF := Lib.hid fun w9 (hb : Below ((w7.alloc (.cells #[.slice al2 X2.length cl2, .slice ao2 Y2.length co2] 26)).alloc (.cells #[.int .i64 0, .int .i64 0, .int .i64 0, .int .i64 0] 28)).heap.size ((w7.alloc (.cells #[.slice al2 X2.length cl2, .slice ao2 Y2.length co2] 26)).alloc (.cells #[.int .i64 0, .int .i64 0, .int .i64 0, .int .i64 0] 28)) w9) => T.sameField al X.length cl X ao Y.length co Y al2 X2.length cl2 X2 ao2 Y2.length co2 Y2 w9 (HX8.out.later hb) (HY8.out.later hb) (HX9.out.later hb) (HY9.out.later hb) (by omega) (by omega) (by omega) (by omega) (codes_both (p := fun x => x.n ≤ 100000 ∧ thinN 100000 x.L) (fun x hx => ⟨(TX.out x hx).1, thin_up (TX.out x hx).2 (by decide)⟩) (fun x hx => ⟨(TY.out x hx).1, thin_up (TY.out x hx).2 (by decide)⟩)) (codes_both (p := fun x => x.n ≤ 100000 ∧ thinN 100000 x.L) (fun x hx => ⟨(tX x hx).1, thin_up (tX x hx).2 (by decide)⟩) (fun x hx => ⟨(tY x hx).1, thin_up (tY x hx).2 (by decide)⟩))
        rw [decide_eq_true hsame] at HSF
        clear hsame c4 c5 b6 b7 b8 hX hY kX kY B5 H5 HX5 HY5 HF5 HE5 HP1 HP2 HTx
        go_upto_region 8 with fail
        generalize (w7.alloc (.cells #[.slice al2 X2.length cl2, .slice ao2 Y2.length co2] 26)).alloc (.cells #[.int .i64 0, .int .i64 0, .int .i64 0, .int .i64 0] 28) = w8 at *
        have HQ := Lib.hid fun (w9 : World) (hb : Below w8.heap.size w8 w9) => (show (w9.cell? ⟨w3.heap.size, 0, none⟩ = some (.slice al X.length cl) ∧ w9.cell? ⟨w3.heap.size, 1, none⟩ = some (.slice ao Y.length co)) ∧ (w9.cell? ⟨w7.heap.size, 0, none⟩ = some (.slice al2 X2.length cl2) ∧ w9.cell? ⟨w7.heap.size, 1, none⟩ = some (.slice ao2 Y2.length co2)) ∧ (w9.cell? ⟨w3.heap.size + 1, 0, none⟩ = some (.int .i64 (0)) ∧ w9.cell? ⟨w3.heap.size + 1, 1, none⟩ = some (.int .i64 0) ∧ w9.cell? ⟨w3.heap.size + 1, 2, none⟩ = some (.int .i64 0) ∧ w9.cell? ⟨w3.heap.size + 1, 3, none⟩ = some (.int .i64 (0))) ∧ (w9.cell? ⟨w7.heap.size + 1, 0, none⟩ = some (.int .i64 (0)) ∧ w9.cell? ⟨w7.heap.size + 1, 1, none⟩ = some (.int .i64 0) ∧ w9.cell? ⟨w7.heap.size + 1, 2, none⟩ = some (.int .i64 0) ∧ w9.cell? ⟨w7.heap.size + 1, 3, none⟩ = some (.int .i64 (0))) from ⟨cells2 (blk_later HF8.out hb), cells2 (blk_later HF9.out hb), fault_cells18 (blk_later HE8.out hb), fault_cells18 (blk_later HE9.out hb)⟩)
        have HV9 : Hid (Below w8.heap.size w8 w8.drew) := Lib.hid (Below.refl _ _).drew
        have pSn := HQ.out _ HV9.out
        go_region_held3 (fun w' => (w'.cell? ⟨w3.heap.size, 0, none⟩ = some (.slice al X.length cl) ∧ w'.cell? ⟨w3.heap.size, 1, none⟩ = some (.slice ao Y.length co)) ∧ (w'.cell? ⟨w7.heap.size, 0, none⟩ = some (.slice al2 X2.length cl2) ∧ w'.cell? ⟨w7.heap.size, 1, none⟩ = some (.slice ao2 Y2.length co2)) ∧ (w'.cell? ⟨w3.heap.size + 1, 0, none⟩ = some (.int .i64 (0)) ∧ w'.cell? ⟨w3.heap.size + 1, 1, none⟩ = some (.int .i64 0) ∧ w'.cell? ⟨w3.heap.size + 1, 2, none⟩ = some (.int .i64 0) ∧ w'.cell? ⟨w3.heap.size + 1, 3, none⟩ = some (.int .i64 (0))) ∧ (w'.cell? ⟨w7.heap.size + 1, 0, none⟩ = some (.int .i64 (0)) ∧ w'.cell? ⟨w7.heap.size + 1, 1, none⟩ = some (.int .i64 0) ∧ w'.cell? ⟨w7.heap.size + 1, 2, none⟩ = some (.int .i64 0) ∧ w'.cell? ⟨w7.heap.size + 1, 3, none⟩ = some (.int .i64 (0)))) (exact pSn)
          (first
          | (go_at_call 18; refine (HSF.out _ HV9.out).mono ?_; rintro e9 wp1 ⟨rfl, b9⟩; replace HV9 := Lib.hid (below_then HV9.out b9); clear b9 pSn; have pSn := HQ.out _ HV9.out))
        have B9 := Lib.hid (below_then B8.out HV9.out)
        clear pSn HQ HSF HX8 HY8 HF8 HE8 HX9 HY9 HF9 HE9 B8 KX KY TX TY tX tY HV9 g3 hz hz2
        have HE1 := Lib.hid fun w9 (z : Addr) (h9 : stC.Has w9 (some z) 2 2 [[97], [98]]) => S.expr l (some z) 2 2 [[97], [98]] w9 (by omega) h9 (by omega)
        have HE2 := Lib.hid fun w9 (z : Addr) (h9 : stC.Has w9 (some z) 2 2 [[97], [98]]) => S.expr (40 :: (l ++ [10, 41])) (some z) 2 2 [[97], [98]] w9 (by simp; omega) h9 (by omega)
        have hbk := fun h => pE_brackets (N := [[97], [98]]) (l := l) (by omega) h
        rw [List.cons_append] at hbk
        have HBk := Lib.hid hbk
        clear hbk
        have HRt := Lib.hid fun h => pE_right (N := [[97], [98]]) (l := l) h
        have hcat := cat_brackets l
        generalize pE [[97], [98]] l = r1 at *
        generalize pE [[97], [98]] (40 :: (l ++ [10, 41])) = r2 at *
        obtain ⟨q1, z1⟩ := r1
        obtain ⟨q2, z2⟩ := r2
        dsimp only at HBk HRt
        go_wp2_with fail
        have hE1 := HE1.out (wp1.alloc (.cells #[.string { data := #[97] }, .string { data := #[98] }] 9)) ⟨wp1.heap.size, 0, none⟩ (names_ab wp1 9)
        refine hE1.mono ?_
        rintro e w6 ⟨a6, c6, X6, rfl, hX6, kX6, tX6, nX6, b6⟩
        dsimp only at kX6 ⊢
        have B6 := Lib.hid (below_then (below_then B9.out (below_alloc _ (.cells #[.string { data := #[97] }, .string { data := #[98] }] 9))) b6)
        have K6 := Lib.hid kX6
        have T6 := Lib.hid tX6
        by_cases h1 : z1 < 0
        · rw [show lexFault z1 = faultV 0 0 0 0 from if_pos h1]
          unfold faultV
          have c7 := below_alloc w6 (.cells #[.int .i64 0, .int .i64 0, .int .i64 0, .int .i64 0] 28)
          have X7 := Lib.hid (hX6.later c7)
          have B7 := Lib.hid (below_then B6.out c7)
          obtain ⟨e0, e1, e2, e3⟩ := fault_cells18 (blk_new w6 #[.int .i64 0, .int .i64 0, .int .i64 0, .int .i64 0] 28)
          clear hX6 kX6 tX6 b6 c7 B6
          go_wp2_with fail
          have hE2 := HE2.out ((w6.alloc (.cells #[.int .i64 0, .int .i64 0, .int .i64 0, .int .i64 0] 28)).alloc (.cells #[.string { data := #[97] }, .string { data := #[98] }] 9)) ⟨w6.heap.size + 1, 0, none⟩ (names_at (w6.alloc (.cells #[.int .i64 0, .int .i64 0, .int .i64 0, .int .i64 0] 28)) 9 (blk_size w6 _))
          refine hE2.mono ?_
          rintro e w8 ⟨a8, c8, X8, rfl, hX8, kX8, tX8, nX8, b8⟩
          dsimp only at kX8 ⊢
          have d8 := below_then (below_alloc _ (.cells #[.string { data := #[97] }, .string { data := #[98] }] 9)) b8
          have X9 := Lib.hid (X7.out.later d8)
          have B8 := Lib.hid (below_then B7.out d8)
          have K8 := Lib.hid kX8
          have T8 := Lib.hid tX8
          have hw := rt_ops K6.out (HRt.out h1)
          clear e0 e1 e2 e3
          by_cases h2 : z2 < 0
          · rw [show lexFault z2 = faultV 0 0 0 0 from if_pos h2]
            unfold faultV
            have HSm := Lib.hid fun w9 (hb : Below w8.heap.size w8 w9) => T.same a6 X6.length c6 X6 a8 X8.length c8 X8 w9 (X9.out.later hb) (hX8.later hb) nX6 nX8 (thin_up T6.out (by decide)) (thin_up T8.out (by decide))
            have hsm : X6.map Nd.sem = X8.map Nd.sem := by rw [K6.out, K8.out, HBk.out h1 h2]
            rw [decide_eq_true hsm] at HSm
            clear hsm
            have c9 := below_alloc w8 (.cells #[.int .i64 0, .int .i64 0, .int .i64 0, .int .i64 0] 28)
            have B9 := Lib.hid (below_then B8.out c9)
            have HRi := Lib.hid fun w9 (hb : Below w8.heap.size w8 w9) => T.right a6 X6.length c6 X6 w9 (X9.out.later hb) nX6
            rw [decide_eq_true hw] at HRi
            have HBx := Lib.hid (blk_new w8 #[.int .i64 0, .int .i64 0, .int .i64 0, .int .i64 0] 28)
            obtain ⟨e0, e1, e2, e3⟩ := fault_cells18 HBx.out
            have C9 := Lib.hid c9
            clear hw X9 hX8 kX8 tX8 b8 d8 B7 B8 K6 T6 K8 T8 HBk HRt c9
            go_wp2_with fail
            refine (HSm.out _ C9.out).mono ?_
            rintro e w10 ⟨rfl, b10⟩
            obtain ⟨f0, f1, f2, f3⟩ := fault_cells18 (blk_later HBx.out b10)
            have C10 := Lib.hid (below_then C9.out b10)
            have B10 := Lib.hid (below_then B9.out b10)
            clear b10 e0 e1 e2 e3 C9 B9
            go_wp2_with fail
            refine (HRi.out _ C10.out).mono ?_
            rintro e w11 ⟨rfl, b11⟩
            have B11 := Lib.hid (below_then B10.out b11)
            clear b11
            go_wp2_with fail
            refine (HW.out _).mono ?_
            rintro e w12 ⟨rfl, b12⟩
            go_wp2
            go_ret
            exact ⟨rfl, below_then B11.out b12⟩
          · rw [show lexFault z2 = faultV 1 0 0 z2 from if_neg h2]
            unfold faultV
            have c9 := below_alloc w8 (.cells #[.int .i64 1, .int .i64 0, .int .i64 0, .int .i64 z2] 28)
            have B9 := Lib.hid (below_then B8.out c9)
            have HRi := Lib.hid fun w9 (hb : Below w8.heap.size w8 w9) => T.right a6 X6.length c6 X6 w9 (X9.out.later hb) nX6
            rw [decide_eq_true hw] at HRi
            have HBx := Lib.hid (blk_new w8 #[.int .i64 1, .int .i64 0, .int .i64 0, .int .i64 z2] 28)
            obtain ⟨e0, e1, e2, e3⟩ := fault_cells18 HBx.out
            have C9 := Lib.hid c9
            clear hw X9 hX8 kX8 tX8 b8 d8 B7 B8 K6 T6 K8 T8 HBk HRt c9
            have C10 := C9
            have B10 := B9
            clear C9 B9
            go_wp2_with fail
            refine (HRi.out _ C10.out).mono ?_
            rintro e w11 ⟨rfl, b11⟩
            have B11 := Lib.hid (below_then B10.out b11)
            clear b11
            go_wp2_with fail
            refine (HW.out _).mono ?_
            rintro e w12 ⟨rfl, b12⟩
            go_wp2
            go_ret
            exact ⟨rfl, below_then B11.out b12⟩
        · rw [show lexFault z1 = faultV 1 0 0 z1 from if_neg h1]
          unfold faultV
          have B7 := Lib.hid (below_then B6.out (below_alloc w6 (.cells #[.int .i64 1, .int .i64 0, .int .i64 0, .int .i64 z1] 28)))
          obtain ⟨e0, e1, e2, e3⟩ := fault_cells18 (blk_new w6 #[.int .i64 1, .int .i64 0, .int .i64 0, .int .i64 z1] 28)
          clear hX6 kX6 tX6 b6 B6
          go_wp2_with fail
          refine (HW.out _).mono ?_
          rintro e w9 ⟨rfl, b9⟩
          go_wp2
          go_ret
          exact ⟨rfl, below_then B7.out b9⟩
      · rw [show lexFault z1 = faultV 1 0 0 z1 from if_neg (by omega)]
        have hz2 : ¬ z2 < 0 := fun h9 => hz (g3.2 h9)
        unfold faultV
        have c4 := below_alloc w3 (.cells #[.slice al X.length cl, .slice ao Y.length co] 26)
        have c5 := below_alloc (w3.alloc (.cells #[.slice al X.length cl, .slice ao Y.length co] 26)) (.cells #[.int .i64 1, .int .i64 0, .int .i64 0, .int .i64 z1] 28)
        have H5 := Lib.hid ((H3.out.later c4).later c5)
        have B5 := Lib.hid (below_then (below_then B3.out c4) c5)
        have HX5 := Lib.hid ((hX.later c4).later c5)
        have HY5 := Lib.hid ((hY.later c4).later c5)
        have HF5 := Lib.hid (blk_later (blk_new w3 #[.slice al X.length cl, .slice ao Y.length co] 26) c5)
        have HE5 : Hid (((w3.alloc (.cells #[.slice al X.length cl, .slice ao Y.length co] 26)).alloc (.cells #[.int .i64 1, .int .i64 0, .int .i64 0, .int .i64 z1] 28)).heap[w3.heap.size + 1]? = some (.cells #[.int .i64 1, .int .i64 0, .int .i64 0, .int .i64 z1] 28 (0, 0))) := Lib.hid (by
          have h9 := blk_new (w3.alloc (.cells #[.slice al X.length cl, .slice ao Y.length co] 26)) #[.int .i64 1, .int .i64 0, .int .i64 0, .int .i64 z1] 28
          rw [blk_size] at h9; exact h9)
        have KX := Lib.hid kX
        have KY := Lib.hid kY
        have TX := Lib.hid tX
        have TY := Lib.hid tY
        clear c4 c5 hX hY kX kY tX tY b3 H3 B3
        go_wp2_with fail
        refine (HTx.out a1 n1 c1 _ H5.out hn1).mono ?_
        rintro e w6 ⟨rfl, b6⟩
        go_wp2_with fail
        refine (HP2.out _).mono ?_
        rintro e w7 ⟨al2, cl2, X2, ao2, co2, Y2, rfl, hX, hY, kX, kY, tX, tY, b7⟩
        dsimp only at kX kY ⊢
        rw [show lexFault z2 = faultV 1 0 0 z2 from if_neg (by omega)]
        unfold faultV fiV
        have hX2n : X2.length ≤ 4001 := by have := congrArg List.length kX; simp at this; omega
        have hY2n : Y2.length ≤ 4001 := by have := congrArg List.length kY; simp at this; omega
        have c4 := below_alloc w7 (.cells #[.slice al2 X2.length cl2, .slice ao2 Y2.length co2] 26)
        have c5 := below_alloc (w7.alloc (.cells #[.slice al2 X2.length cl2, .slice ao2 Y2.length co2] 26)) (.cells #[.int .i64 1, .int .i64 0, .int .i64 0, .int .i64 z2] 28)
        have b8 := below_then (below_then (below_then b6 b7) c4) c5
        have B8 := Lib.hid (below_then B5.out b8)
        have HX8 := Lib.hid (HX5.out.later b8)
        have HY8 := Lib.hid (HY5.out.later b8)
        have HF8 := Lib.hid (blk_later HF5.out b8)
        have HE8 := Lib.hid (blk_later HE5.out b8)
        have HX9 := Lib.hid ((hX.later c4).later c5)
        have HY9 := Lib.hid ((hY.later c4).later c5)
        have HF9 := Lib.hid (blk_later (blk_new w7 #[.slice al2 X2.length cl2, .slice ao2 Y2.length co2] 26) c5)
        have HE9 : Hid (((w7.alloc (.cells #[.slice al2 X2.length cl2, .slice ao2 Y2.length co2] 26)).alloc (.cells #[.int .i64 1, .int .i64 0, .int .i64 0, .int .i64 z2] 28)).heap[w7.heap.size + 1]? = some (.cells #[.int .i64 1, .int .i64 0, .int .i64 0, .int .i64 z2] 28 (0, 0))) := Lib.hid (by
          have h9 := blk_new (w7.alloc (.cells #[.slice al2 X2.length cl2, .slice ao2 Y2.length co2] 26)) #[.int .i64 1, .int .i64 0, .int .i64 0, .int .i64 z2] 28
          rw [blk_size] at h9; exact h9)
        have hsame : tSame X Y X2 Y2 := tSame_of (KX.out.trans kX.symm) (KY.out.trans kY.symm)
        have HSF := Lib.hid fun w9 (hb : Below ((w7.alloc (.cells #[.slice al2 X2.length cl2, .slice ao2 Y2.length co2] 26)).alloc (.cells #[.int .i64 1, .int .i64 0, .int .i64 0, .int .i64 z2] 28)).heap.size ((w7.alloc (.cells #[.slice al2 X2.length cl2, .slice ao2 Y2.length co2] 26)).alloc (.cells #[.int .i64 1, .int .i64 0, .int .i64 0, .int .i64 z2] 28)) w9) => T.sameField al X.length cl X ao Y.length co Y al2 X2.length cl2 X2 ao2 Y2.length co2 Y2 w9 (HX8.out.later hb) (HY8.out.later hb) (HX9.out.later hb) (HY9.out.later hb) (by omega) (by omega) (by omega) (by omega) (codes_both (p := fun x => x.n ≤ 100000 ∧ thinN 100000 x.L) (fun x hx => ⟨(TX.out x hx).1, thin_up (TX.out x hx).2 (by decide)⟩) (fun x hx => ⟨(TY.out x hx).1, thin_up (TY.out x hx).2 (by decide)⟩)) (codes_both (p := fun x => x.n ≤ 100000 ∧ thinN 100000 x.L) (fun x hx => ⟨(tX x hx).1, thin_up (tX x hx).2 (by decide)⟩) (fun x hx => ⟨(tY x hx).1, thin_up (tY x hx).2 (by decide)⟩))
        rw [decide_eq_true hsame] at HSF
        clear hsame c4 c5 b6 b7 b8 hX hY kX kY B5 H5 HX5 HY5 HF5 HE5 HP1 HP2 HTx
        go_upto_region 8 with fail
        generalize (w7.alloc (.cells #[.slice al2 X2.length cl2, .slice ao2 Y2.length co2] 26)).alloc (.cells #[.int .i64 1, .int .i64 0, .int .i64 0, .int .i64 z2] 28) = w8 at *
        have HQ := Lib.hid fun (w9 : World) (hb : Below w8.heap.size w8 w9) => (show (w9.cell? ⟨w3.heap.size, 0, none⟩ = some (.slice al X.length cl) ∧ w9.cell? ⟨w3.heap.size, 1, none⟩ = some (.slice ao Y.length co)) ∧ (w9.cell? ⟨w7.heap.size, 0, none⟩ = some (.slice al2 X2.length cl2) ∧ w9.cell? ⟨w7.heap.size, 1, none⟩ = some (.slice ao2 Y2.length co2)) ∧ (w9.cell? ⟨w3.heap.size + 1, 0, none⟩ = some (.int .i64 (1)) ∧ w9.cell? ⟨w3.heap.size + 1, 1, none⟩ = some (.int .i64 0) ∧ w9.cell? ⟨w3.heap.size + 1, 2, none⟩ = some (.int .i64 0) ∧ w9.cell? ⟨w3.heap.size + 1, 3, none⟩ = some (.int .i64 (z1))) ∧ (w9.cell? ⟨w7.heap.size + 1, 0, none⟩ = some (.int .i64 (1)) ∧ w9.cell? ⟨w7.heap.size + 1, 1, none⟩ = some (.int .i64 0) ∧ w9.cell? ⟨w7.heap.size + 1, 2, none⟩ = some (.int .i64 0) ∧ w9.cell? ⟨w7.heap.size + 1, 3, none⟩ = some (.int .i64 (z2))) from ⟨cells2 (blk_later HF8.out hb), cells2 (blk_later HF9.out hb), fault_cells18 (blk_later HE8.out hb), fault_cells18 (blk_later HE9.out hb)⟩)
        have HV9 : Hid (Below w8.heap.size w8 w8.drew) := Lib.hid (Below.refl _ _).drew
        have pSn := HQ.out _ HV9.out
        go_region_held3 (fun w' => (w'.cell? ⟨w3.heap.size, 0, none⟩ = some (.slice al X.length cl) ∧ w'.cell? ⟨w3.heap.size, 1, none⟩ = some (.slice ao Y.length co)) ∧ (w'.cell? ⟨w7.heap.size, 0, none⟩ = some (.slice al2 X2.length cl2) ∧ w'.cell? ⟨w7.heap.size, 1, none⟩ = some (.slice ao2 Y2.length co2)) ∧ (w'.cell? ⟨w3.heap.size + 1, 0, none⟩ = some (.int .i64 (1)) ∧ w'.cell? ⟨w3.heap.size + 1, 1, none⟩ = some (.int .i64 0) ∧ w'.cell? ⟨w3.heap.size + 1, 2, none⟩ = some (.int .i64 0) ∧ w'.cell? ⟨w3.heap.size + 1, 3, none⟩ = some (.int .i64 (z1))) ∧ (w'.cell? ⟨w7.heap.size + 1, 0, none⟩ = some (.int .i64 (1)) ∧ w'.cell? ⟨w7.heap.size + 1, 1, none⟩ = some (.int .i64 0) ∧ w'.cell? ⟨w7.heap.size + 1, 2, none⟩ = some (.int .i64 0) ∧ w'.cell? ⟨w7.heap.size + 1, 3, none⟩ = some (.int .i64 (z2)))) (exact pSn)
          (first
          | (go_at_call 18; refine (HSF.out _ HV9.out).mono ?_; rintro e9 wp1 ⟨rfl, b9⟩; replace HV9 := Lib.hid (below_then HV9.out b9); clear b9 pSn; have pSn := HQ.out _ HV9.out))
        have B9 := Lib.hid (below_then B8.out HV9.out)
        clear pSn HQ HSF HX8 HY8 HF8 HE8 HX9 HY9 HF9 HE9 B8 KX KY TX TY tX tY HV9 g3 hz hz2
        have HE1 := Lib.hid fun w9 (z : Addr) (h9 : stC.Has w9 (some z) 2 2 [[97], [98]]) => S.expr l (some z) 2 2 [[97], [98]] w9 (by omega) h9 (by omega)
        have HE2 := Lib.hid fun w9 (z : Addr) (h9 : stC.Has w9 (some z) 2 2 [[97], [98]]) => S.expr (40 :: (l ++ [10, 41])) (some z) 2 2 [[97], [98]] w9 (by simp; omega) h9 (by omega)
        have hbk := fun h => pE_brackets (N := [[97], [98]]) (l := l) (by omega) h
        rw [List.cons_append] at hbk
        have HBk := Lib.hid hbk
        clear hbk
        have HRt := Lib.hid fun h => pE_right (N := [[97], [98]]) (l := l) h
        have hcat := cat_brackets l
        generalize pE [[97], [98]] l = r1 at *
        generalize pE [[97], [98]] (40 :: (l ++ [10, 41])) = r2 at *
        obtain ⟨q1, z1⟩ := r1
        obtain ⟨q2, z2⟩ := r2
        dsimp only at HBk HRt
        go_wp2_with fail
        have hE1 := HE1.out (wp1.alloc (.cells #[.string { data := #[97] }, .string { data := #[98] }] 9)) ⟨wp1.heap.size, 0, none⟩ (names_ab wp1 9)
        refine hE1.mono ?_
        rintro e w6 ⟨a6, c6, X6, rfl, hX6, kX6, tX6, nX6, b6⟩
        dsimp only at kX6 ⊢
        have B6 := Lib.hid (below_then (below_then B9.out (below_alloc _ (.cells #[.string { data := #[97] }, .string { data := #[98] }] 9))) b6)
        have K6 := Lib.hid kX6
        have T6 := Lib.hid tX6
        by_cases h1 : z1 < 0
        · rw [show lexFault z1 = faultV 0 0 0 0 from if_pos h1]
          unfold faultV
          have c7 := below_alloc w6 (.cells #[.int .i64 0, .int .i64 0, .int .i64 0, .int .i64 0] 28)
          have X7 := Lib.hid (hX6.later c7)
          have B7 := Lib.hid (below_then B6.out c7)
          obtain ⟨e0, e1, e2, e3⟩ := fault_cells18 (blk_new w6 #[.int .i64 0, .int .i64 0, .int .i64 0, .int .i64 0] 28)
          clear hX6 kX6 tX6 b6 c7 B6
          go_wp2_with fail
          have hE2 := HE2.out ((w6.alloc (.cells #[.int .i64 0, .int .i64 0, .int .i64 0, .int .i64 0] 28)).alloc (.cells #[.string { data := #[97] }, .string { data := #[98] }] 9)) ⟨w6.heap.size + 1, 0, none⟩ (names_at (w6.alloc (.cells #[.int .i64 0, .int .i64 0, .int .i64 0, .int .i64 0] 28)) 9 (blk_size w6 _))
          refine hE2.mono ?_
          rintro e w8 ⟨a8, c8, X8, rfl, hX8, kX8, tX8, nX8, b8⟩
          dsimp only at kX8 ⊢
          have d8 := below_then (below_alloc _ (.cells #[.string { data := #[97] }, .string { data := #[98] }] 9)) b8
          have X9 := Lib.hid (X7.out.later d8)
          have B8 := Lib.hid (below_then B7.out d8)
          have K8 := Lib.hid kX8
          have T8 := Lib.hid tX8
          have hw := rt_ops K6.out (HRt.out h1)
          clear e0 e1 e2 e3
          by_cases h2 : z2 < 0
          · rw [show lexFault z2 = faultV 0 0 0 0 from if_pos h2]
            unfold faultV
            have HSm := Lib.hid fun w9 (hb : Below w8.heap.size w8 w9) => T.same a6 X6.length c6 X6 a8 X8.length c8 X8 w9 (X9.out.later hb) (hX8.later hb) nX6 nX8 (thin_up T6.out (by decide)) (thin_up T8.out (by decide))
            have hsm : X6.map Nd.sem = X8.map Nd.sem := by rw [K6.out, K8.out, HBk.out h1 h2]
            rw [decide_eq_true hsm] at HSm
            clear hsm
            have c9 := below_alloc w8 (.cells #[.int .i64 0, .int .i64 0, .int .i64 0, .int .i64 0] 28)
            have B9 := Lib.hid (below_then B8.out c9)
            have HRi := Lib.hid fun w9 (hb : Below w8.heap.size w8 w9) => T.right a6 X6.length c6 X6 w9 (X9.out.later hb) nX6
            rw [decide_eq_true hw] at HRi
            have HBx := Lib.hid (blk_new w8 #[.int .i64 0, .int .i64 0, .int .i64 0, .int .i64 0] 28)
            obtain ⟨e0, e1, e2, e3⟩ := fault_cells18 HBx.out
            have C9 := Lib.hid c9
            clear hw X9 hX8 kX8 tX8 b8 d8 B7 B8 K6 T6 K8 T8 HBk HRt c9
            go_wp2_with fail
            refine (HSm.out _ C9.out).mono ?_
            rintro e w10 ⟨rfl, b10⟩
            obtain ⟨f0, f1, f2, f3⟩ := fault_cells18 (blk_later HBx.out b10)
            have C10 := Lib.hid (below_then C9.out b10)
            have B10 := Lib.hid (below_then B9.out b10)
            clear b10 e0 e1 e2 e3 C9 B9
            go_wp2_with fail
            refine (HRi.out _ C10.out).mono ?_
            rintro e w11 ⟨rfl, b11⟩
            have B11 := Lib.hid (below_then B10.out b11)
            clear b11
            go_wp2_with fail
            refine (HW.out _).mono ?_
            rintro e w12 ⟨rfl, b12⟩
            go_wp2
            go_ret
            exact ⟨rfl, below_then B11.out b12⟩
          · rw [show lexFault z2 = faultV 1 0 0 z2 from if_neg h2]
            unfold faultV
            have c9 := below_alloc w8 (.cells #[.int .i64 1, .int .i64 0, .int .i64 0, .int .i64 z2] 28)
            have B9 := Lib.hid (below_then B8.out c9)
            have HRi := Lib.hid fun w9 (hb : Below w8.heap.size w8 w9) => T.right a6 X6.length c6 X6 w9 (X9.out.later hb) nX6
            rw [decide_eq_true hw] at HRi
            have HBx := Lib.hid (blk_new w8 #[.int .i64 1, .int .i64 0, .int .i64 0, .int .i64 z2] 28)
            obtain ⟨e0, e1, e2, e3⟩ := fault_cells18 HBx.out
            have C9 := Lib.hid c9
            clear hw X9 hX8 kX8 tX8 b8 d8 B7 B8 K6 T6 K8 T8 HBk HRt c9
            have C10 := C9
            have B10 := B9
            clear C9 B9
            go_wp2_with fail
            refine (HRi.out _ C10.out).mono ?_
            rintro e w11 ⟨rfl, b11⟩
            have B11 := Lib.hid (below_then B10.out b11)
            clear b11
            go_wp2_with fail
            refine (HW.out _).mono ?_
            rintro e w12 ⟨rfl, b12⟩
            go_wp2
            go_ret
            exact ⟨rfl, below_then B11.out b12⟩
        · rw [show lexFault z1 = faultV 1 0 0 z1 from if_neg h1]
          unfold faultV
          have B7 := Lib.hid (below_then B6.out (below_alloc w6 (.cells #[.int .i64 1, .int .i64 0, .int .i64 0, .int .i64 z1] 28)))
          obtain ⟨e0, e1, e2, e3⟩ := fault_cells18 (blk_new w6 #[.int .i64 1, .int .i64 0, .int .i64 0, .int .i64 z1] 28)
          clear hX6 kX6 tX6 b6 B6
          go_wp2_with fail
          refine (HW.out _).mono ?_
          rintro e w9 ⟨rfl, b9⟩
          go_wp2
          go_ret
          exact ⟨rfl, below_then B7.out b9⟩
    · have hf : lexFault (lexScan l).2 = faultV 1 0 0 (lexScan l).2 := if_neg ha
      go_enter Try.func5, Try.ntmps5
      go_wp2_with fail
      refine HS.out.mono ?_
      rintro e w1 ⟨a1, n1, c1, rfl, h1, b1⟩
      rw [hf]
      unfold faultV
      have HB := Lib.hid (below_then b1 (below_alloc w1 (.cells #[.int .i64 1, .int .i64 0, .int .i64 0, .int .i64 (lexScan l).2] 28)))
      obtain ⟨e0, e1, e2, e3⟩ := fault_cells18 (blk_new w1 #[.int .i64 1, .int .i64 0, .int .i64 0, .int .i64 (lexScan l).2] 28)
      clear h1 b1 hf
      go_wp2_with fail
      refine (HW.out _).mono ?_
      rintro e w9 ⟨rfl, b9⟩
      go_wp2
      go_ret
      exact ⟨rfl, below_then HB.out b9⟩
end Go.Proofs.Ythblmpkdcahmkaa
