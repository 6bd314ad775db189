/-
  The walks of the laws of layer 8: WholeInts, of numbers that are too great.
-/
import Derived.Test.YtiblojmdgjnfbaaDoorLaw08Walks6M
import Derived.Deep.RegionHeld3
namespace Go.Proofs.YtiblojmdgjnfbaaDoor
open Go.RowKit

set_option maxRecDepth 4096 in
set_option maxHeartbeats 8000000 in
theorem law08_ints_high_long (S : WholeSaid) (M N : Int) (na : Bool) (a : Option Addr) (n cap : Nat) (la : List Nat) (w : World) (hT : Hid (Dec10 w)) (ha : Wd w a n cap la) (hM : isInt M) (hN : isInt N) (hn : n ≤ 60) (h0 : 9223372036854775807 < zval na (val la)) (hs0 : 2 < (dg (val la)).length) :
    Calls Tryd.prog 6 #[.int .i64 M, .int .i64 N, whV na a n cap] w (Gives (.bool true) w) := by
  have HB := Lib.hid (below_alloc w (.cells #[.bool na, .slice a n cap] 24))
  have HA := Lib.hid (ha.later HB.out)
  have HX : Hid ((w.alloc (.cells #[.bool na, .slice a n cap] 24)).heap[w.heap.size]? = some (.cells #[.bool na, .slice a n cap] 24 (0, 0))) := Lib.hid (blk_new w _ _)
  have hsm := hs0
  obtain ⟨x, hx⟩ : ∃ x, zval na (val la) = x := ⟨_, rfl⟩
  rw [hx] at h0
  have EX := Lib.hid hx
  have hlx : (dg (val la)).length ≤ 60 := Nat.le_trans ha.trim_le hn
  obtain ⟨d, hd⟩ : ∃ d, M.tdiv 2 = d := ⟨_, rfl⟩
  obtain ⟨e, he⟩ : ∃ e, N.tdiv 2 = e := ⟨_, rfl⟩
  have hd1 := half_range hM
  have he1 := half_range hN
  rw [hd] at hd1
  rw [he] at he1
  have HM := Lib.hid hM
  have hM1 : -9223372036854775808 ≤ M ∧ M ≤ 9223372036854775807 := hM
  have hN1 : -9223372036854775808 ≤ N ∧ N ≤ 9223372036854775807 := hN
  have HD : Hid (isInt d) := Lib.hid (by unfold isInt; omega)
  have HE : Hid (isInt e) := Lib.hid (by unfold isInt; omega)
  have HF : Hid (isInt (d + e)) := Lib.hid (by unfold isInt; omega)
  have lM := zlen_int HM.out
  have ld := zlen_int HD.out
  have le := zlen_int HE.out
  have lf := zlen_int HF.out
  have hna : ¬ (60 : Int) < (n : Int) := by omega
  have H0 : Hid (¬ isInt x) := Lib.hid (by unfold isInt; omega)
  have HI : Hid (isInt 9223372036854775807) := Lib.hid (by unfold isInt; omega)
  have HJ : Hid (isInt (-9223372036854775808)) := Lib.hid (by unfold isInt; omega)
  have lI := zlen_int HI.out
  have lJ := zlen_int HJ.out
  have HS := Lib.hid (sgn_pos (z := x - 9223372036854775807) (by omega))
  clear h0
  clear ha hx hM hN hs0
  go_enter Tryd.func6, Tryd.ntmps6
  unfold whV
  obtain ⟨k0, k1⟩ := cells_2 HX.out
  go_wp2_with fail
  refine (S.of M _ HM.out).mono ?_
  rintro e w1 ⟨a1, n1, c1, rfl, h1, b⟩
  clear k0 k1
  replace HB := Lib.hid (below_then HB.out b)
  replace HX := Lib.hid (blk_later HX.out b)
  replace HA := Lib.hid (HA.out.later b)
  clear b
  have hn1 : n1 ≤ 2 := by have := h1.len; omega
  have R1 := Lib.hid h1
  clear h1
  unfold whV
  have HU : Hid ((World.alloc w1 (.cells #[.bool (zneg M), .slice a1 n1 c1] 30)).heap[w1.heap.size]? = some (.cells #[.bool (zneg M), .slice a1 n1 c1] 30 (0, 0))) := Lib.hid (blk_new w1 _ _)
  replace HB := Lib.hid (below_then HB.out (below_alloc w1 (.cells #[.bool (zneg M), .slice a1 n1 c1] 30)))
  replace HX := Lib.hid (blk_later HX.out (below_alloc w1 (.cells #[.bool (zneg M), .slice a1 n1 c1] 30)))
  replace HA := Lib.hid (HA.out.later (below_alloc w1 (.cells #[.bool (zneg M), .slice a1 n1 c1] 30)))
  replace R1 := Lib.hid (R1.out.later (below_alloc w1 (.cells #[.bool (zneg M), .slice a1 n1 c1] 30)))
  obtain ⟨k0, k1, k2, k3⟩ := cells_2_2 HX.out HU.out
  go_wp2_with fail
  refine (S.int _ a1 n1 c1 _ M _ R1.out (by omega) (zval_dg _)).mono ?_
  rintro e w2 ⟨rfl, b⟩
  clear k0 k1 k2 k3
  replace HB := Lib.hid (below_then HB.out b)
  replace HX := Lib.hid (blk_later HX.out b)
  replace HU := Lib.hid (blk_later HU.out b)
  clear R1
  replace HA := Lib.hid (HA.out.later b)
  clear b
  rw [intV_of HM.out, decide_eq_true HM.out]
  obtain ⟨k0, k1⟩ := cells_2 HX.out
  go_wp2_with fail
  refine (S.of d _ HD.out).mono ?_
  rintro e w3 ⟨a2, n2, c2, rfl, h2, b⟩
  clear k0 k1
  replace HB := Lib.hid (below_then HB.out b)
  replace HX := Lib.hid (blk_later HX.out b)
  replace HA := Lib.hid (HA.out.later b)
  clear b
  have hn2 : n2 ≤ 2 := by have := h2.len; omega
  have R2 := Lib.hid h2
  clear h2
  obtain ⟨k0, k1⟩ := cells_2 HX.out
  go_wp2_with fail
  refine (S.of e _ HE.out).mono ?_
  rintro e w4 ⟨a3, n3, c3, rfl, h3, b⟩
  clear k0 k1
  replace HB := Lib.hid (below_then HB.out b)
  replace HX := Lib.hid (blk_later HX.out b)
  replace HA := Lib.hid (HA.out.later b)
  replace R2 := Lib.hid (R2.out.later b)
  clear b
  have hn3 : n3 ≤ 2 := by have := h3.len; omega
  have R3 := Lib.hid h3
  clear h3
  obtain ⟨k0, k1⟩ := cells_2 HX.out
  go_wp2_with fail
  refine (S.add _ a2 n2 c2 _ d _ a3 n3 c3 _ e _ R2.out R3.out (by omega) (by omega) (zval_dg _) (zval_dg _)).mono ?_
  rintro e w5 ⟨a4, n4, c4, rfl, h4, b⟩
  clear k0 k1
  replace HB := Lib.hid (below_then HB.out b)
  replace HX := Lib.hid (blk_later HX.out b)
  clear R2
  clear R3
  replace HA := Lib.hid (HA.out.later b)
  clear b
  have hn4 : n4 ≤ 2 := by have := h4.len; omega
  have R4 := Lib.hid h4
  clear h4
  unfold whV
  have HV : Hid ((World.alloc w5 (.cells #[.bool (zneg (d + e)), .slice a4 n4 c4] 30)).heap[w5.heap.size]? = some (.cells #[.bool (zneg (d + e)), .slice a4 n4 c4] 30 (0, 0))) := Lib.hid (blk_new w5 _ _)
  replace HB := Lib.hid (below_then HB.out (below_alloc w5 (.cells #[.bool (zneg (d + e)), .slice a4 n4 c4] 30)))
  replace HX := Lib.hid (blk_later HX.out (below_alloc w5 (.cells #[.bool (zneg (d + e)), .slice a4 n4 c4] 30)))
  replace HA := Lib.hid (HA.out.later (below_alloc w5 (.cells #[.bool (zneg (d + e)), .slice a4 n4 c4] 30)))
  replace R4 := Lib.hid (R4.out.later (below_alloc w5 (.cells #[.bool (zneg (d + e)), .slice a4 n4 c4] 30)))
  obtain ⟨k0, k1, k2, k3⟩ := cells_2_2 HX.out HV.out
  go_wp2_with fail
  refine (S.int _ a4 n4 c4 _ (d + e) _ R4.out (by omega) (zval_dg _)).mono ?_
  rintro e w6 ⟨rfl, b⟩
  clear k0 k1 k2 k3
  replace HB := Lib.hid (below_then HB.out b)
  replace HX := Lib.hid (blk_later HX.out b)
  replace HV := Lib.hid (blk_later HV.out b)
  clear R4
  replace HA := Lib.hid (HA.out.later b)
  clear b
  rw [intV_of HF.out, decide_eq_true HF.out]
  obtain ⟨k0, k1⟩ := cells_2 HX.out
  go_wp2_with fail
  refine (law08_to na a n cap _).mono ?_
  rintro e w7 ⟨rfl, b⟩
  clear k0 k1
  replace HB := Lib.hid (below_then HB.out b)
  replace HX := Lib.hid (blk_later HX.out b)
  replace HA := Lib.hid (HA.out.later b)
  clear b
  obtain ⟨k0, k1⟩ := cells_2 HX.out
  go_wp2_with fail
  refine (S.int na a n cap la x _ HA.out (by omega) EX.out).mono ?_
  rintro e w8 ⟨rfl, b⟩
  clear k0 k1
  replace HB := Lib.hid (below_then HB.out b)
  replace HX := Lib.hid (blk_later HX.out b)
  replace HA := Lib.hid (HA.out.later b)
  clear b
  rw [intV_no H0.out, decide_eq_false H0.out]
  obtain ⟨k0, k1⟩ := cells_2 HX.out
  go_wp2_with fail
  refine (ref02_norm a n cap la _ HA.out (by omega)).mono ?_
  rintro e w9 ⟨a5, n5, c5, rfl, h5, b⟩
  clear k0 k1
  replace HB := Lib.hid (below_then HB.out b)
  replace HX := Lib.hid (blk_later HX.out b)
  replace HA := Lib.hid (HA.out.later b)
  clear b
  have hn5 := h5.len
  clear h5
  obtain ⟨k0, k1⟩ := cells_2 HX.out
  have hsi : ¬ (n5 : Int) ≤ 2 := by omega
  go_wp2
  clear k0 k1
  generalize w9 = W at *
  replace HB := Lib.hid (below_then HB.out ((Below.refl _ _).drew : Below W.heap.size W W.drew))
  replace HX : Hid (W.drew.heap[w.heap.size]? = _) := Lib.hid HX.out
  replace HA := Lib.hid (HA.out.later ((Below.refl _ _).drew : Below W.heap.size W W.drew))
  obtain ⟨pk0, pk1⟩ := cells_2 HX.out
  first | go_region_with (first
    | (go_at_call 14; (first
      | (refine (law08_to na a n cap _).mono ?_; rintro e wp1 ⟨rfl, b⟩; replace HB := Lib.hid (below_then HB.out b); replace HX := Lib.hid (blk_later HX.out b); replace HA := Lib.hid (HA.out.later b); clear b; obtain ⟨pk0, pk1⟩ := cells_2 HX.out; have pM1 := True.intro)))
    | (go_at_call 30; (first
      | (have pm1 := pM1; refine (S.of 9223372036854775807 _ HI.out).mono ?_; rintro e wp2 ⟨a6, n6, c6, rfl, h6, b⟩; replace HB := Lib.hid (below_then HB.out b); replace HX := Lib.hid (blk_later HX.out b); replace HA := Lib.hid (HA.out.later b); have R6 := Lib.hid h6; have hn6 : n6 ≤ 2 := (by have := h6.len; omega); clear h6; clear b; obtain ⟨pk0, pk1⟩ := cells_2 HX.out; clear pM1 pm1; have pM2 := True.intro)))
    | (go_at_call 18; (first
      | (have pm2 := pM2; refine (S.cmp na a n cap la x _ a6 n6 c6 _ 9223372036854775807 _ HA.out R6.out (by omega) (by omega) EX.out (zval_dg _)).mono ?_; rintro e wp3 ⟨rfl, b⟩; replace HB := Lib.hid (below_then HB.out b); replace HX := Lib.hid (blk_later HX.out b); replace HA := Lib.hid (HA.out.later b); clear R6; rw [HS.out]; clear b; obtain ⟨pk0, pk1⟩ := cells_2 HX.out; clear pM2 pm2; have pM3 := True.intro)))
    | (go_at_call 8; (first
      | (have pm3 := pM3; refine (law08_works S _ (Lib.hid (hT.out.later HB.out))).mono ?_; rintro e wp4 ⟨rfl, b⟩; replace HB := Lib.hid (below_then HB.out b); replace HX := Lib.hid (blk_later HX.out b); replace HA := Lib.hid (HA.out.later b); clear b; obtain ⟨pk0, pk1⟩ := cells_2 HX.out; clear pM3 pm3; have pM4 := True.intro)))) | fail
  all_goals (
    go_wp2
    go_ret
    exact ⟨rfl, HB.out⟩)
end Go.Proofs.YtiblojmdgjnfbaaDoor
