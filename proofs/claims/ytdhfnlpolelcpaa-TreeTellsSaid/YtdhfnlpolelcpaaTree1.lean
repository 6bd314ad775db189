/-
  Package tree: Arity, Wrong, Right.
-/
import Derived.Test.YtdhfnlpolelcpaaRef17
import Derived.WalkKit
namespace Go.Proofs.Ytdhfnlpolelcpaa
open Go.RowKit

/-- The cells of a node in a box. -/
theorem nd_box {w : World} {g : Nat} {x : Nd} {t : TypeId} (h : w.heap[g]? = some (.cells #[.int .i64 x.op, .int .i64 x.i, .slice x.a x.n x.c] t (0, 0))) :
    w.cell? ⟨g, 0, none⟩ = some (.int .i64 x.op) ∧ w.cell? ⟨g, 1, none⟩ = some (.int .i64 x.i) ∧ w.cell? ⟨g, 2, none⟩ = some (.slice x.a x.n x.c) :=
  ⟨blk_cell h 0, blk_cell h 1, blk_cell h 2⟩
set_option maxRecDepth 4096 in
set_option maxHeartbeats 8000000 in
theorem tree_arity (op : Int) (w : World) : Calls Try.prog 17 #[.int .i64 op] w (Same1 (.int .i64 (tAr op)) w) := by
  by_cases h : 1 ≤ op ∧ op ≤ 11
  · rcases (show op = 1 ∨ op = 2 ∨ op = 3 ∨ op = 4 ∨ op = 5 ∨ op = 6 ∨ op = 7 ∨ op = 8 ∨ op = 9 ∨ op = 10 ∨ op = 11 by omega) with rfl | rfl | rfl | rfl | rfl | rfl | rfl | rfl | rfl | rfl | rfl
    all_goals
      clear h
      go_enter Try.func17, Try.ntmps17
      go_wp2
      go_ret
      exact ⟨rfl, rfl⟩
  · have hv : tAr op = (-1) := by unfold tAr; (repeat' split) <;> omega
    rw [hv]
    clear hv
    have k1 : (op == 1) = false := by simp; omega
    have k2 : (op == 2) = false := by simp; omega
    have k3 : (op == 3) = false := by simp; omega
    have k4 : (op == 4) = false := by simp; omega
    have k5 : (op == 5) = false := by simp; omega
    have k6 : (op == 6) = false := by simp; omega
    have k7 : (op == 7) = false := by simp; omega
    have k8 : (op == 8) = false := by simp; omega
    have k9 : (op == 9) = false := by simp; omega
    have k10 : (op == 10) = false := by simp; omega
    have k11 : (op == 11) = false := by simp; omega
    clear h
    go_enter Try.func17, Try.ntmps17
    go_wp2
    go_ret
    exact ⟨rfl, rfl⟩
set_option maxRecDepth 4096 in
set_option maxHeartbeats 8000000 in
theorem tree_wrong (a : Option Addr) (n c : Nat) (L : List Nd) (w : World) (h : Nds w a n c L) (hn : n ≤ 1000000) : Calls Try.prog 13 #[.slice a n c] w (Gives (.int .i64 (tWrong (L.map Nd.op))) w) := by
  have HL := Lib.hid h
  have HLl := Lib.hid h.len
  have hbd := h.bound
  clear h
  obtain ⟨R, hR⟩ : ∃ R, tWrong (L.map Nd.op) = R := ⟨_, rfl⟩
  rw [hR]
  have HR := Lib.hid hR
  clear hR
  have HC := Lib.hid fun op w => tree_arity op w
  go_enter Try.func13, Try.ntmps13
  go_wp2
  go_loopw [3, 9] (fun ov iv wr => ∃ k o : Nat, k ≤ n ∧ o ≤ k ∧ ov = .int .i64 (o : Int) ∧ iv = .int .i64 (k : Int) ∧ Hid (tGo ((L.map Nd.op).drop k) k o = R) ∧ Hid (Below w.heap.size w wr)) (fun _ iv _ => n - (intOf iv).toNat)
  case atStart => exact ⟨0, 0, by omega, by omega, by go_num, by go_num, Lib.hid HR.out, Lib.hid (Below.refl _ _)⟩
  case round =>
    obtain ⟨k, o, hk, ho, rfl, rfl, HG, HB⟩ := hrel
    by_cases hlt : k < n
    · obtain ⟨x, hx⟩ : ∃ x, L[k]? = some x := ⟨L[k]'(by rw [HLl.out]; exact hlt), List.getElem?_eq_getElem _⟩
      obtain ⟨b, off, rfl, e0, e1, e2, -⟩ := Nds.get (Kin.All.later HL.out HB.out) hx
      have hd := nd_drop hx
      have hki : (k : Int) < (n : Int) := by omega
      have HG2 : Hid (tGo (x.op :: (L.map Nd.op).drop (k + 1)) k o = R) := Lib.hid (by rw [← hd]; exact HG.out)
      clear hd hx HG
      have hrg := tAr_range x.op
      obtain ⟨r, hr⟩ : ∃ r, tAr x.op = r := ⟨_, rfl⟩
      have ba := below_alloc wr (.cells #[.int .i64 x.op, .int .i64 x.i, .slice x.a x.n x.c] 55)
      have HB1 := Lib.hid (below_then HB.out ba)
      obtain ⟨x0, x1, x2⟩ := nd_box (x := x) (blk_new wr #[.int .i64 x.op, .int .i64 x.i, .slice x.a x.n x.c] 55)
      have HX := Lib.hid (HC.out x.op)
      have HRr := Lib.hid hr
      rw [hr] at HX hrg
      clear hr ba HB
      by_cases h1 : r < 0
      · obtain rfl : R = (k : Int) := by rw [← HG2.out, tGo, if_pos (by rw [HRr.out]; omega)]
        go_wp2_with fail
        refine (HX.out _).mono ?_
        rintro e w1 ⟨rfl, rfl⟩
        go_wp2
        go_ret
        exact ⟨rfl, HB1.out⟩
      · by_cases h2 : (o : Int) < r
        · obtain rfl : R = (k : Int) := by rw [← HG2.out, tGo, if_pos (by rw [HRr.out]; omega)]
          go_wp2_with fail
          refine (HX.out _).mono ?_
          rintro e w1 ⟨rfl, rfl⟩
          go_wp2
          go_ret
          exact ⟨rfl, HB1.out⟩
        · obtain ⟨q, rfl⟩ : ∃ q : Nat, r = (q : Int) := ⟨r.toNat, by omega⟩
          have HG3 : Hid (tGo ((L.map Nd.op).drop (k + 1)) (k + 1) (o + 1 - q) = R) := Lib.hid (by
            have h9 := HG2.out
            rw [tGo, if_neg (by rw [HRr.out]; omega), HRr.out] at h9
            exact h9)
          have k1 : IntKind.i64.wrap (1 - (q : Int)) = 1 - (q : Int) := by rw [IntKind.wrap_i64]; omega
          have k2 : IntKind.i64.wrap ((o : Int) + (1 - (q : Int))) = ((o + 1 - q : Nat) : Int) := by rw [IntKind.wrap_i64]; omega
          clear HG2 HRr
          go_wp2_with fail
          refine (HX.out _).mono ?_
          rintro e w1 ⟨rfl, rfl⟩
          go_wp2
          go_roundw
          case rel => exact ⟨k + 1, o + 1 - q, by omega, by omega, by go_num, by go_num, HG3, HB1⟩
          case measure => simp [intOf]; omega
    · obtain rfl : k = n := by omega
      have HG2 : Hid ((if o = 1 then (-1 : Int) else (k : Int)) = R) := Lib.hid (by
        have h9 := HG.out
        rw [List.drop_of_length_le (by rw [List.length_map, HLl.out]; exact Nat.le_refl _), tGo] at h9
        exact h9)
      clear HG
      by_cases h1 : o = 1
      · obtain rfl : R = -1 := by rw [← HG2.out, if_pos h1]
        have q1 : ((o : Int) != 1) = false := by simp [h1]
        go_wp2
        go_ret
        exact ⟨rfl, HB.out⟩
      · obtain rfl : R = (k : Int) := by rw [← HG2.out, if_neg h1]
        have q1 : ((o : Int) != 1) = true := by simp; omega
        go_wp2
        go_ret
        exact ⟨rfl, HB.out⟩
set_option maxRecDepth 4096 in
set_option maxHeartbeats 8000000 in
theorem tree_right (a : Option Addr) (n c : Nat) (L : List Nd) (w : World) (h : Nds w a n c L) (hn : n ≤ 1000000) : Calls Try.prog 14 #[.slice a n c] w (Gives (.bool (decide (tWrong (L.map Nd.op) < 0))) w) := by
  have HW := Lib.hid (tree_wrong a n c L w h hn)
  generalize tWrong (L.map Nd.op) = z at *
  clear h
  go_enter Try.func14, Try.ntmps14
  go_wp2_with fail
  refine HW.out.mono ?_
  rintro e w1 ⟨rfl, b1⟩
  go_wp2
  go_ret
  exact ⟨by simp, b1⟩
end Go.Proofs.Ytdhfnlpolelcpaa
