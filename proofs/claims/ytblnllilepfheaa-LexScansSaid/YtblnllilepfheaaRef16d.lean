/-
  The document's answer of layer 16: Right.
-/
import Derived.Test.YtblnllilepfheaaRef16c
import Derived.Test.YtblnllilepfheaaLexOne
import Derived.Test.YtblnllilepfheaaFaultKit
import Derived.WalkKit
import Derived.BigQuiet
namespace Go.Proofs.Ytblnllilepfheaa
open Go.RowKit

theorem bs_same (a b : List UInt8) : ((bs a).toList == (bs b).toList) = decide (a = b) := by
  rw [bs_list, bs_list, Bool.eq_iff_iff]; simp
set_option maxRecDepth 4096 in
set_option maxHeartbeats 8000000 in
theorem ref16_right (k p : Int) (l : List UInt8) (w : World) : Calls Try.prog 12 #[.agg #[.int .i64 k, .string (bs l), .int .i64 p]] w (Gives (.bool (lexRight k l)) w) := by
  obtain ⟨R, hR⟩ : ∃ R, lexScan l = R := ⟨_, rfl⟩
  have hrt := lexRight_of (k := k) hR
  obtain ⟨r, hr⟩ : ∃ r, lexRight k l = r := ⟨_, rfl⟩
  rw [hr] at hrt ⊢
  have HRT := Lib.hid hrt
  have HQ := Lib.hid (ref16_scan l (w.alloc (.cells #[.int .i64 k, .string (bs l), .int .i64 p] 36)))
  rw [hR] at HQ
  clear hR hr hrt
  obtain ⟨X, at'⟩ := R
  dsimp only at HRT
  go_enter Try.func12, Try.ntmps12
  go_wp2_with fail
  refine HQ.out.mono ?_
  rintro e w1 ⟨a1, n1, c1, rfl, h1, b1⟩
  have hX := blk_later (blk_new w #[.int .i64 k, .string (bs l), .int .i64 p] 36) b1
  have e0 := blk_cell hX 0
  have e1 := blk_cell hX 1
  have e2 := blk_cell hX 2
  simp only [List.getElem?_toArray, List.getElem?_cons_zero, List.getElem?_cons_succ] at e0 e1 e2
  have HB := Lib.hid (below_then (below_alloc w _) b1)
  have hn := h1.len
  rw [List.length_map] at hn
  dsimp only
  clear hX b1
  by_cases ha : at' < 0
  · by_cases hn1 : n1 = 1
    · subst hn1
      obtain ⟨x, rfl⟩ : ∃ x, X = [x] := by
        match X, hn with
        | [x], _ => exact ⟨x, rfl⟩
      obtain ⟨b, off, rfl, f0, f1, f2⟩ := h1.at (j := 0) (by omega)
      simp only [List.map_cons, List.map_nil, List.getD_cons_zero, Lw.x, Wx.str, Nat.zero_mul, Nat.add_zero] at f0 f1 f2
      by_cases hk : (x.k : Int) = k
      · have q1 : ((x.k : Int) == k) = true := by simp [hk]
        have hd : decide (at' < 0) = true := decide_eq_true ha
        by_cases ht : x.t = l
        · have q2 : ((bs x.t).toList == (bs l).toList) = true := by rw [bs_same]; simp [ht]
          obtain rfl : r = true := HRT.out.2 ⟨x, rfl, ha, hk, ht⟩
          clear hk ht h1 HRT HQ
          go_wp2
          go_quiet (fail)
          go_wp2
          go_ret
          exact ⟨rfl, below_then HB.out (below_draws _ _)⟩
        · have q2 : ((bs x.t).toList == (bs l).toList) = false := by rw [bs_same]; simp [ht]
          obtain rfl : r = false := by
            cases r
            · rfl
            · obtain ⟨y, hx, hneg, hxk, hxt⟩ := HRT.out.1 rfl
              have e9 := (List.cons.inj hx).1
              rw [← e9] at hxt
              exact absurd hxt ht
          clear hk ht h1 HRT HQ
          go_wp2
          go_quiet (fail)
          go_wp2
          go_ret
          exact ⟨rfl, below_then HB.out (below_draws _ _)⟩
      · have q1 : ((x.k : Int) == k) = false := by simp [hk]
        have hd : decide (at' < 0) = true := decide_eq_true ha
        obtain rfl : r = false := by
          cases r
          · rfl
          · obtain ⟨y, hx, hneg, hxk, hxt⟩ := HRT.out.1 rfl
            have e9 := (List.cons.inj hx).1
            rw [← e9] at hxk
            exact absurd hxk hk
        clear hk h1 HRT HQ
        go_wp2
        go_quiet (fail)
        go_wp2
        go_ret
        exact ⟨rfl, below_then HB.out (below_draws _ _)⟩
    · have q1 : ((n1 : Int) == 1) = false := by simp; omega
      have hd : decide (at' < 0) = true := decide_eq_true ha
      obtain rfl : r = false := by
        cases r
        · rfl
        · obtain ⟨y, hx, hneg, hxk, hxt⟩ := HRT.out.1 rfl
          exact absurd (hn.symm.trans (by rw [hx]; rfl)) hn1
      clear h1 HRT HQ
      go_wp2
      go_quiet (fail)
      go_wp2
      go_ret
      exact ⟨rfl, below_then HB.out (below_draws _ _)⟩
  · have hd : decide (at' < 0) = false := decide_eq_false ha
    obtain rfl : r = false := by
      cases r
      · rfl
      · obtain ⟨y, hx, hneg, hxk, hxt⟩ := HRT.out.1 rfl
        exact absurd hneg ha
    clear h1 HRT HQ
    go_wp2
    go_quiet (fail)
    go_wp2
    go_ret
    exact ⟨rfl, below_then HB.out (below_draws _ _)⟩
end Go.Proofs.Ytblnllilepfheaa
