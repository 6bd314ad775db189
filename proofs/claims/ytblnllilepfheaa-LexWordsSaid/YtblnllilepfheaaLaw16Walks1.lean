/-
  The walks of the laws of layer 16: works, LexScans, LexWords.
-/
import Derived.Test.YtblnllilepfheaaLaw16Own
import Derived.Test.YtblnllilepfheaaLex6
import Derived.WalkKit
import Derived.BigQuiet
namespace Go.Proofs.Ytblnllilepfheaa
open Go.RowKit

theorem scan_one : lexScan [50, 42, 121, 91, 48, 93, 32, 35, 32, 120] = ([⟨1, [50], 0⟩, ⟨3, [42], 1⟩, ⟨2, [121], 2⟩, ⟨3, [91], 3⟩, ⟨1, [48], 4⟩, ⟨3, [93], 5⟩], -1) := by rfl
theorem scan_two : lexScan [97, 36, 98] = ([], 1) := by rfl
theorem fault_cells {w : World} {g : Nat} {a b c d : Int} {t : TypeId} (h : w.heap[g]? = some (.cells #[.int .i64 a, .int .i64 b, .int .i64 c, .int .i64 d] t (0, 0))) :
    w.cell? ⟨g, 0, none⟩ = some (.int .i64 a) ∧ w.cell? ⟨g, 1, none⟩ = some (.int .i64 b) ∧ w.cell? ⟨g, 2, none⟩ = some (.int .i64 c) ∧ w.cell? ⟨g, 3, none⟩ = some (.int .i64 d) :=
  ⟨by rw [blk_cell h]; rfl, by rw [blk_cell h]; rfl, by rw [blk_cell h]; rfl, by rw [blk_cell h]; rfl⟩
theorem fault_free {w : World} {g : Nat} {a b c d : Int} {t : TypeId} (h : w.heap[g]? = some (.cells #[.int .i64 a, .int .i64 b, .int .i64 c, .int .i64 d] t (0, 0))) :
    w.frozen? ⟨g, 0, none⟩ = false ∧ w.frozen? ⟨g, 1, none⟩ = false ∧ w.frozen? ⟨g, 2, none⟩ = false ∧ w.frozen? ⟨g, 3, none⟩ = false := ⟨blk_free h 0, blk_free h 1, blk_free h 2, blk_free h 3⟩
set_option maxRecDepth 4096 in
set_option maxHeartbeats 8000000 in
theorem law16_works (w : World) : Calls Try.prog 5 #[] w (Gives (.bool true) w) := by
  have H1 := Lib.hid fun w => lex_scan [50, 42, 121, 91, 48, 93, 32, 35, 32, 120] (by decide) w
  have H2 := Lib.hid fun w => lex_scan [97, 36, 98] (by decide) w
  rw [scan_one] at H1
  rw [scan_two] at H2
  have q1 : ((bs [121]).toList == [121]) = true := by rw [bs_list]; rfl
  go_enter Try.func5, Try.ntmps5
  go_wp2_with fail
  refine (H1.out _).mono ?_
  rintro e w1 ⟨a1, n1, c1, rfl, h1, b1⟩
  obtain rfl : n1 = 6 := h1.len.symm
  rw [lexFault_none]
  unfold faultV
  have HW1 := Lib.hid (h1.later (below_alloc w1 (.cells #[.int .i64 0, .int .i64 0, .int .i64 0, .int .i64 0] 25)))
  have HR1 := Lib.hid (blk_new w1 #[.int .i64 0, .int .i64 0, .int .i64 0, .int .i64 0] 25)
  have HB1 := Lib.hid (below_then b1 (below_alloc w1 (.cells #[.int .i64 0, .int .i64 0, .int .i64 0, .int .i64 0] 25)))
  clear h1 b1
  go_wp2_with fail
  refine (H2.out _).mono ?_
  rintro e w2 ⟨a2, n2, c2, rfl, h2, b2⟩
  rw [show lexFault 1 = faultV 1 0 0 1 from rfl]
  unfold faultV
  have HW2 := Lib.hid ((HW1.out.later b2).later (below_alloc w2 (.cells #[.int .i64 1, .int .i64 0, .int .i64 0, .int .i64 1] 25)))
  have HR2 := Lib.hid (blk_later (blk_later HR1.out b2) (below_alloc w2 (.cells #[.int .i64 1, .int .i64 0, .int .i64 0, .int .i64 1] 25)))
  have HR3 := Lib.hid (blk_new w2 #[.int .i64 1, .int .i64 0, .int .i64 0, .int .i64 1] 25)
  have HB2 := Lib.hid (below_then (below_then HB1.out b2) (below_alloc w2 (.cells #[.int .i64 1, .int .i64 0, .int .i64 0, .int .i64 1] 25)))
  clear h2 b2 HW1 HR1 HB1
  obtain ⟨bb, off, rfl, e0, e1, e2⟩ := HW2.out.at (j := 2) (by omega)
  simp only [List.map_cons, List.map_nil, List.getD_cons_succ, List.getD_cons_zero, Lw.x, Wx.str] at e0 e1 e2
  obtain ⟨f0, f1, f2, f3⟩ := fault_cells HR2.out
  obtain ⟨g0, g1, g2, g3⟩ := fault_cells HR3.out
  go_wp2
  go_ret
  exact ⟨rfl, HB2.out⟩
set_option maxRecDepth 4096 in
set_option maxHeartbeats 8000000 in
theorem law16_scans (l : List UInt8) (w : World) (hl : l.length ≤ 9223372036854775807) : Calls Try.prog 3 #[.string (bs l)] w (Gives (.bool true) w) := by
  have hsz := bs_size l
  have HW := Lib.hid fun w => law16_works w
  by_cases hbig : 5000 < l.length
  · have hb : (5000 : Int) < ((l.length : Nat) : Int) := by omega
    go_enter Try.func3, Try.ntmps3
    go_wp2_with fail
    refine (HW.out _).mono ?_
    rintro e w1 ⟨rfl, b1⟩
    go_wp2
    go_ret
    exact ⟨rfl, b1⟩
  · have hb : ¬ (5000 : Int) < ((l.length : Nat) : Int) := by omega
    have hln := lexScan_len l
    have H1 := Lib.hid fun w => lex_scan l (by omega) w
    have H2 := Lib.hid fun w => ref16_scan l w
    generalize lexScan l = R at *
    obtain ⟨X, at'⟩ := R
    dsimp only at hln H1 H2
    clear hbig
    go_enter Try.func3, Try.ntmps3
    go_wp2_with fail
    refine (H1.out _).mono ?_
    rintro e w1 ⟨a1, n1, c1, rfl, h1, b1⟩
    obtain ⟨x0, x1, x2, x3, hfv⟩ : ∃ x0 x1 x2 x3, lexFault at' = faultV x0 x1 x2 x3 ∧ (at' < 0 → x0 = 0 ∧ x1 = 0 ∧ x2 = 0 ∧ x3 = 0) ∧ (¬ at' < 0 → x0 = 1 ∧ x1 = 0 ∧ x2 = 0 ∧ x3 = at') := by
      unfold lexFault
      by_cases h : at' < 0
      · rw [if_pos h]; exact ⟨_, _, _, _, rfl, fun _ => ⟨rfl, rfl, rfl, rfl⟩, fun g => absurd h g⟩
      · rw [if_neg h]; exact ⟨_, _, _, _, rfl, fun g => absurd g h, fun _ => ⟨rfl, rfl, rfl, rfl⟩⟩
    have HFV := Lib.hid hfv.2
    have hn1 := h1.len
    rw [List.length_map] at hn1
    dsimp only
    rw [hfv.1]
    clear hfv
    unfold faultV
    have HW1 := Lib.hid (h1.later (below_alloc w1 (.cells #[.int .i64 x0, .int .i64 x1, .int .i64 x2, .int .i64 x3] 25)))
    have HR1 := Lib.hid (blk_new w1 #[.int .i64 x0, .int .i64 x1, .int .i64 x2, .int .i64 x3] 25)
    have HB1 := Lib.hid (below_then b1 (below_alloc w1 (.cells #[.int .i64 x0, .int .i64 x1, .int .i64 x2, .int .i64 x3] 25)))
    clear h1 b1
    go_wp2_with fail
    refine (H2.out _).mono ?_
    rintro e w2 ⟨a2, n2, c2, rfl, h2, b2⟩
    dsimp only at h2 ⊢
    have HMb := Lib.hid h2
    have HWb := Lib.hid (HW1.out.later b2)
    have HRb := Lib.hid (blk_later HR1.out b2)
    have HBb := Lib.hid (below_then HB1.out b2)
    clear h2 b2 HW1 HR1 HB1
    by_cases ha : at' < 0
    · have q0 : ¬ (0 : Int) ≤ at' := by omega
      obtain ⟨rfl, rfl, rfl, hx3⟩ := HFV.out.1 ha
      obtain rfl := hx3.symm
      clear HFV
      have HM2 := Lib.hid (HMb.out.later (below_alloc w2 (.cells #[.int .i64 0, .int .i64 0, .int .i64 0, .int .i64 0] 25)))
      have HW2 := Lib.hid (HWb.out.later (below_alloc w2 (.cells #[.int .i64 0, .int .i64 0, .int .i64 0, .int .i64 0] 25)))
      have HR2 := Lib.hid (blk_later HRb.out (below_alloc w2 (.cells #[.int .i64 0, .int .i64 0, .int .i64 0, .int .i64 0] 25)))
      have HR3 := Lib.hid (blk_new w2 #[.int .i64 0, .int .i64 0, .int .i64 0, .int .i64 0] 25)
      have HB2 := Lib.hid (below_then HBb.out (below_alloc w2 (.cells #[.int .i64 0, .int .i64 0, .int .i64 0, .int .i64 0] 25)))
      clear HMb HWb HRb HBb
      go_wp2_with fail
      refine (law16_of a1 n1 c1 _ _ HW2.out (by omega)).mono ?_
      rintro e w4 ⟨a4, n4, c4, rfl, h4, b4⟩
      have HM4 := Lib.hid (HM2.out.later b4)
      have HR4 := Lib.hid (blk_later HR2.out b4)
      have HR5 := Lib.hid (blk_later HR3.out b4)
      have HB4 := Lib.hid (below_then HB2.out b4)
      have H4 := Lib.hid h4
      clear h4 b4 HM2 HR2 HR3 HB2 HW2
      go_wp2_with fail
      refine (law16_same a4 n4 c4 a2 n2 c2 _ _ H4.out HM4.out).mono ?_
      rintro e w5 ⟨rfl, b5⟩
      have HB5 := Lib.hid (below_then HB4.out b5)
      obtain ⟨f0, f1, f2, f3⟩ := fault_cells (blk_later HR4.out b5)
      obtain ⟨g0, g1, g2, g3⟩ := fault_cells (blk_later HR5.out b5)
      clear b5 HB4 HM4 H4 HR4 HR5
      go_wp2_with fail
      refine (HW.out _).mono ?_
      rintro e w6 ⟨rfl, b6⟩
      go_wp2
      go_ret
      exact ⟨rfl, below_then HB5.out b6⟩
    · have q0 : (0 : Int) ≤ at' := by omega
      obtain ⟨rfl, rfl, rfl, hx3⟩ := HFV.out.2 (by omega)
      obtain rfl := hx3.symm
      clear HFV
      have HM2 := Lib.hid (HMb.out.later (below_alloc w2 (.cells #[.int .i64 1, .int .i64 0, .int .i64 0, .int .i64 at'] 25)))
      have HW2 := Lib.hid (HWb.out.later (below_alloc w2 (.cells #[.int .i64 1, .int .i64 0, .int .i64 0, .int .i64 at'] 25)))
      have HR2 := Lib.hid (blk_later HRb.out (below_alloc w2 (.cells #[.int .i64 1, .int .i64 0, .int .i64 0, .int .i64 at'] 25)))
      have HR3 := Lib.hid (blk_new w2 #[.int .i64 1, .int .i64 0, .int .i64 0, .int .i64 at'] 25)
      have HB2 := Lib.hid (below_then HBb.out (below_alloc w2 (.cells #[.int .i64 1, .int .i64 0, .int .i64 0, .int .i64 at'] 25)))
      clear HMb HWb HRb HBb
      go_wp2_with fail
      refine (law16_of a1 n1 c1 _ _ HW2.out (by omega)).mono ?_
      rintro e w4 ⟨a4, n4, c4, rfl, h4, b4⟩
      have HM4 := Lib.hid (HM2.out.later b4)
      have HR4 := Lib.hid (blk_later HR2.out b4)
      have HR5 := Lib.hid (blk_later HR3.out b4)
      have HB4 := Lib.hid (below_then HB2.out b4)
      have H4 := Lib.hid h4
      clear h4 b4 HM2 HR2 HR3 HB2 HW2
      go_wp2_with fail
      refine (law16_same a4 n4 c4 a2 n2 c2 _ _ H4.out HM4.out).mono ?_
      rintro e w5 ⟨rfl, b5⟩
      have HB5 := Lib.hid (below_then HB4.out b5)
      obtain ⟨f0, f1, f2, f3⟩ := fault_cells (blk_later HR4.out b5)
      obtain ⟨g0, g1, g2, g3⟩ := fault_cells (blk_later HR5.out b5)
      clear b5 HB4 HM4 H4 HR4 HR5
      go_wp2_with fail
      refine (HW.out _).mono ?_
      rintro e w6 ⟨rfl, b6⟩
      go_wp2
      go_ret
      exact ⟨rfl, below_then HB5.out b6⟩
end Go.Proofs.Ytblnllilepfheaa
