/-
  The walks of the laws of layer 8: WholeSums.
-/
import Derived.Test.YtiblojmdgjnfbaaDoorG18
import Derived.Deep.RegionHeld3
namespace Go.Proofs.YtiblojmdgjnfbaaDoor
open Go.RowKit

theorem whole_sub_neg (S : WholeSaid) (na : Bool) (a : Option Addr) (n cap : Nat) (la : List Nat) (x : Int) (nb : Bool) (b : Option Addr) (m cap' : Nat) (lb : List Nat) (y : Int) (w : World) (ha : Wd w a n cap la) (hb : Wd w b m cap' lb) (hn : n ≤ 1000) (hm : m ≤ 1000) (hx : zval na (val la) = x) (hy : zval nb (val lb) = y) :
    Calls Tryd.prog 21 #[whV na a n cap, whV nb b m cap'] w (LstZ (x + -y) w) := by
  rw [← Int.sub_eq_add_neg]; exact S.sub na a n cap la x nb b m cap' lb y w ha hb hn hm hx hy
set_option maxRecDepth 4096 in
set_option maxHeartbeats 16000000 in
theorem law08_sums_in (S : WholeSaid) (na : Bool) (a : Option Addr) (n cap : Nat) (la : List Nat) (nb : Bool) (b : Option Addr) (m cap' : Nat) (lb : List Nat) (w : World) (hT : Hid (Dec10 w)) (ha : Wd w a n cap la) (hb : Wd w b m cap' lb) (hn : n ≤ 40) (hm : m ≤ 40) (hworks : ∀ v : World, Dec10 v → Calls Tryd.prog 8 #[] v (Gives (.bool true) v)) :
    Calls Tryd.prog 4 #[whV na a n cap, whV nb b m cap'] w (Gives (.bool true) w) := by
  have HB := Lib.hid (below_then (below_alloc w (.cells #[.bool na, .slice a n cap] 24)) (below_alloc _ (.cells #[.bool nb, .slice b m cap'] 24)))
  have HA := Lib.hid (ha.later HB.out)
  have HC := Lib.hid (hb.later HB.out)
  obtain ⟨hx1, hx2⟩ := boxes_at w ((w.alloc (.cells #[.bool na, .slice a n cap] 24)).alloc (.cells #[.bool nb, .slice b m cap'] 24)) #[.bool na, .slice a n cap] #[.bool nb, .slice b m cap'] 24 24 (Below.refl _ _)
  have HX := Lib.hid hx1
  have HY := Lib.hid hx2
  have hlx := ha.trim_le
  have hly := hb.trim_le
  clear ha hb hx1 hx2
  obtain ⟨x, hx⟩ : ∃ x, zval na (val la) = x := ⟨_, rfl⟩
  obtain ⟨y, hy⟩ : ∃ y, zval nb (val lb) = y := ⟨_, rfl⟩
  have hzx : (dg x.natAbs).length ≤ n := by rw [← hx, zval_abs]; exact hlx
  have hzy : (dg y.natAbs).length ≤ m := by rw [← hy, zval_abs]; exact hly
  have EX := Lib.hid hx
  have EY := Lib.hid hy
  clear hx hy hlx hly
  have zl1 := zlen_neg y
  have hna : ¬ (40 : Int) < (n : Int) := by omega
  have hmb : ¬ (40 : Int) < (m : Int) := by omega
  go_enter Tryd.func4, Tryd.ntmps4
  unfold whV
  obtain ⟨k0, k1, k2, k3⟩ := cells_2_2 HX.out HY.out
  go_wp2_with fail
  refine (law08_to na a n cap _).mono ?_
  rintro e w1 ⟨rfl, b⟩
  clear k0 k1 k2 k3
  replace HB := Lib.hid (below_then HB.out b)
  replace HX := Lib.hid (blk_later HX.out b)
  replace HY := Lib.hid (blk_later HY.out b)
  replace HA := Lib.hid (HA.out.later b)
  replace HC := Lib.hid (HC.out.later b)
  clear b
  unfold whV
  have HU : Hid ((World.alloc w1 (.cells #[.bool na, .slice a n cap] 30)).heap[w1.heap.size]? = some (.cells #[.bool na, .slice a n cap] 30 (0, 0))) := Lib.hid (blk_new w1 _ _)
  replace HB := Lib.hid (below_then HB.out (below_alloc w1 (.cells #[.bool na, .slice a n cap] 30)))
  replace HX := Lib.hid (blk_later HX.out (below_alloc w1 (.cells #[.bool na, .slice a n cap] 30)))
  replace HY := Lib.hid (blk_later HY.out (below_alloc w1 (.cells #[.bool na, .slice a n cap] 30)))
  replace HA := Lib.hid (HA.out.later (below_alloc w1 (.cells #[.bool na, .slice a n cap] 30)))
  replace HC := Lib.hid (HC.out.later (below_alloc w1 (.cells #[.bool na, .slice a n cap] 30)))
  obtain ⟨k0, k1, k2, k3, k4, k5⟩ := cells_2_2_2 HX.out HY.out HU.out
  go_wp2_with fail
  refine (law08_to nb b m cap' _).mono ?_
  rintro e w2 ⟨rfl, b⟩
  clear k0 k1 k2 k3 k4 k5
  replace HB := Lib.hid (below_then HB.out b)
  replace HX := Lib.hid (blk_later HX.out b)
  replace HY := Lib.hid (blk_later HY.out b)
  replace HU := Lib.hid (blk_later HU.out b)
  replace HA := Lib.hid (HA.out.later b)
  replace HC := Lib.hid (HC.out.later b)
  clear b
  unfold whV
  have HV : Hid ((World.alloc w2 (.cells #[.bool nb, .slice b m cap'] 30)).heap[w2.heap.size]? = some (.cells #[.bool nb, .slice b m cap'] 30 (0, 0))) := Lib.hid (blk_new w2 _ _)
  replace HB := Lib.hid (below_then HB.out (below_alloc w2 (.cells #[.bool nb, .slice b m cap'] 30)))
  replace HX := Lib.hid (blk_later HX.out (below_alloc w2 (.cells #[.bool nb, .slice b m cap'] 30)))
  replace HY := Lib.hid (blk_later HY.out (below_alloc w2 (.cells #[.bool nb, .slice b m cap'] 30)))
  replace HU := Lib.hid (blk_later HU.out (below_alloc w2 (.cells #[.bool nb, .slice b m cap'] 30)))
  replace HA := Lib.hid (HA.out.later (below_alloc w2 (.cells #[.bool nb, .slice b m cap'] 30)))
  replace HC := Lib.hid (HC.out.later (below_alloc w2 (.cells #[.bool nb, .slice b m cap'] 30)))
  obtain ⟨k0, k1, k2, k3, k4, k5, k6, k7⟩ := cells_2_2_2_2 HX.out HY.out HU.out HV.out
  go_wp2
  clear k0 k1 k2 k3 k4 k5 k6 k7
  generalize (w2.alloc (.cells #[.bool nb, .slice b m cap'] 30)) = W at *
  replace HB := Lib.hid (below_then HB.out ((Below.refl _ _).drew : Below W.heap.size W W.drew))
  replace HX : Hid (W.drew.heap[w.heap.size]? = _) := Lib.hid HX.out
  replace HY : Hid (W.drew.heap[w.heap.size + 1]? = _) := Lib.hid HY.out
  replace HU : Hid (W.drew.heap[w1.heap.size]? = _) := Lib.hid HU.out
  replace HV : Hid (W.drew.heap[w2.heap.size]? = _) := Lib.hid HV.out
  replace HA := Lib.hid (HA.out.later ((Below.refl _ _).drew : Below W.heap.size W W.drew))
  replace HC := Lib.hid (HC.out.later ((Below.refl _ _).drew : Below W.heap.size W W.drew))
  have pSn := cells_2_2_2_2 HX.out HY.out HU.out HV.out
  go_region_held3 (fun w' => w'.cell? ⟨w.heap.size, 0, none⟩ = some (.bool na) ∧ w'.cell? ⟨w.heap.size, 1, none⟩ = some (.slice a n cap) ∧ w'.cell? ⟨w.heap.size + 1, 0, none⟩ = some (.bool nb) ∧ w'.cell? ⟨w.heap.size + 1, 1, none⟩ = some (.slice b m cap') ∧ w'.cell? ⟨w1.heap.size, 0, none⟩ = some (.bool na) ∧ w'.cell? ⟨w1.heap.size, 1, none⟩ = some (.slice a n cap) ∧ w'.cell? ⟨w2.heap.size, 0, none⟩ = some (.bool nb) ∧ w'.cell? ⟨w2.heap.size, 1, none⟩ = some (.slice b m cap')) (exact pSn)
    (first
    | (go_at_call 20; (first
      | (refine (S.add na a n cap la x nb b m cap' lb y _ HA.out HC.out (by omega) (by omega) EX.out EY.out).mono ?_; rintro e wp1 ⟨a1, n1, c1, rfl, h1, b⟩; replace HB := Lib.hid (below_then HB.out b); replace HX := Lib.hid (blk_later HX.out b); replace HY := Lib.hid (blk_later HY.out b); replace HU := Lib.hid (blk_later HU.out b); replace HV := Lib.hid (blk_later HV.out b); replace HA := Lib.hid (HA.out.later b); replace HC := Lib.hid (HC.out.later b); have R1 := Lib.hid h1; clear h1; clear b; clear pSn; have pSn := cells_2_2_2_2 HX.out HY.out HU.out HV.out; have pM1 := True.intro)))
    | (go_at_call 12; (first
      | (have pm10 := pM10; refine (law08_of _ a6 n6 c6 _).mono ?_; rintro e wp11 ⟨rfl, b⟩; replace HB := Lib.hid (below_then HB.out b); replace HX := Lib.hid (blk_later HX.out b); replace HY := Lib.hid (blk_later HY.out b); replace HU := Lib.hid (blk_later HU.out b); replace HV := Lib.hid (blk_later HV.out b); replace HA := Lib.hid (HA.out.later b); replace HC := Lib.hid (HC.out.later b); replace R6 := Lib.hid (R6.out.later b); clear b; clear pSn; have pSn := cells_2_2_2_2 HX.out HY.out HU.out HV.out; clear pM10 pm10; have pM11 := True.intro)
      | (have pm5 := pM5; refine (law08_of _ a3 n3 c3 _).mono ?_; rintro e wp6 ⟨rfl, b⟩; replace HB := Lib.hid (below_then HB.out b); replace HX := Lib.hid (blk_later HX.out b); replace HY := Lib.hid (blk_later HY.out b); replace HU := Lib.hid (blk_later HU.out b); replace HV := Lib.hid (blk_later HV.out b); replace HA := Lib.hid (HA.out.later b); replace HC := Lib.hid (HC.out.later b); replace R3 := Lib.hid (R3.out.later b); clear b; clear pSn; have pSn := cells_2_2_2_2 HX.out HY.out HU.out HV.out; clear pM5 pm5; have pM6 := True.intro)
      | (have pm1 := pM1; refine (law08_of _ a1 n1 c1 _).mono ?_; rintro e wp2 ⟨rfl, b⟩; replace HB := Lib.hid (below_then HB.out b); replace HX := Lib.hid (blk_later HX.out b); replace HY := Lib.hid (blk_later HY.out b); replace HU := Lib.hid (blk_later HU.out b); replace HV := Lib.hid (blk_later HV.out b); replace HA := Lib.hid (HA.out.later b); replace HC := Lib.hid (HC.out.later b); replace R1 := Lib.hid (R1.out.later b); clear b; clear pSn; have pSn := cells_2_2_2_2 HX.out HY.out HU.out HV.out; clear pM1 pm1; have pM2 := True.intro)))
    | (go_at_call 9; (first
      | (have pm7 := pM7; refine (ref08_add_z na a n cap la x _ a4 n4 c4 _ (-y) _ HA.out R4.out (by omega) (by omega) EX.out (zval_dg _)).mono ?_; rintro e wp8 ⟨a5, n5, c5, rfl, h5, b⟩; replace HB := Lib.hid (below_then HB.out b); replace HX := Lib.hid (blk_later HX.out b); replace HY := Lib.hid (blk_later HY.out b); replace HU := Lib.hid (blk_later HU.out b); replace HV := Lib.hid (blk_later HV.out b); replace HA := Lib.hid (HA.out.later b); replace HC := Lib.hid (HC.out.later b); replace R3 := Lib.hid (R3.out.later b); clear R4; have R5 := Lib.hid h5; clear h5; clear b; clear pSn; have pSn := cells_2_2_2_2 HX.out HY.out HU.out HV.out; clear pM7 pm7; have pM8 := True.intro)
      | (have pm2 := pM2; refine (ref08_add_z na a n cap la x nb b m cap' lb y _ HA.out HC.out (by omega) (by omega) EX.out EY.out).mono ?_; rintro e wp3 ⟨a2, n2, c2, rfl, h2, b⟩; replace HB := Lib.hid (below_then HB.out b); replace HX := Lib.hid (blk_later HX.out b); replace HY := Lib.hid (blk_later HY.out b); replace HU := Lib.hid (blk_later HU.out b); replace HV := Lib.hid (blk_later HV.out b); replace HA := Lib.hid (HA.out.later b); replace HC := Lib.hid (HC.out.later b); replace R1 := Lib.hid (R1.out.later b); have R2 := Lib.hid h2; clear h2; clear b; clear pSn; have pSn := cells_2_2_2_2 HX.out HY.out HU.out HV.out; clear pM2 pm2; have pM3 := True.intro)))
    | (go_at_call 11; (first
      | (have pm12 := pM12; refine (ref08_same_yes _ a6 n6 c6 a7 n7 c7 _ _ R6.out R7.out).mono ?_; rintro e wp13 ⟨rfl, b⟩; replace HB := Lib.hid (below_then HB.out b); replace HX := Lib.hid (blk_later HX.out b); replace HY := Lib.hid (blk_later HY.out b); replace HU := Lib.hid (blk_later HU.out b); replace HV := Lib.hid (blk_later HV.out b); replace HA := Lib.hid (HA.out.later b); replace HC := Lib.hid (HC.out.later b); clear R6; clear R7; clear b; clear pSn; have pSn := cells_2_2_2_2 HX.out HY.out HU.out HV.out; clear pM12 pm12; have pM13 := True.intro)
      | (have pm8 := pM8; refine (ref08_same_yes _ a3 n3 c3 a5 n5 c5 _ _ R3.out R5.out).mono ?_; rintro e wp9 ⟨rfl, b⟩; replace HB := Lib.hid (below_then HB.out b); replace HX := Lib.hid (blk_later HX.out b); replace HY := Lib.hid (blk_later HY.out b); replace HU := Lib.hid (blk_later HU.out b); replace HV := Lib.hid (blk_later HV.out b); replace HA := Lib.hid (HA.out.later b); replace HC := Lib.hid (HC.out.later b); clear R3; clear R5; clear b; clear pSn; have pSn := cells_2_2_2_2 HX.out HY.out HU.out HV.out; clear pM8 pm8; have pM9 := True.intro)
      | (have pm3 := pM3; refine (ref08_same_yes _ a1 n1 c1 a2 n2 c2 _ _ R1.out R2.out).mono ?_; rintro e wp4 ⟨rfl, b⟩; replace HB := Lib.hid (below_then HB.out b); replace HX := Lib.hid (blk_later HX.out b); replace HY := Lib.hid (blk_later HY.out b); replace HU := Lib.hid (blk_later HU.out b); replace HV := Lib.hid (blk_later HV.out b); replace HA := Lib.hid (HA.out.later b); replace HC := Lib.hid (HC.out.later b); clear R1; clear R2; clear b; clear pSn; have pSn := cells_2_2_2_2 HX.out HY.out HU.out HV.out; clear pM3 pm3; have pM4 := True.intro)))
    | (go_at_call 21; (first
      | (have pm4 := pM4; refine (whole_sub_neg S na a n cap la x nb b m cap' lb y _ HA.out HC.out (by omega) (by omega) EX.out EY.out).mono ?_; rintro e wp5 ⟨a3, n3, c3, rfl, h3, b⟩; replace HB := Lib.hid (below_then HB.out b); replace HX := Lib.hid (blk_later HX.out b); replace HY := Lib.hid (blk_later HY.out b); replace HU := Lib.hid (blk_later HU.out b); replace HV := Lib.hid (blk_later HV.out b); replace HA := Lib.hid (HA.out.later b); replace HC := Lib.hid (HC.out.later b); have R3 := Lib.hid h3; clear h3; clear b; clear pSn; have pSn := cells_2_2_2_2 HX.out HY.out HU.out HV.out; clear pM4 pm4; have pM5 := True.intro)))
    | (go_at_call 10; (first
      | (have pm6 := pM6; refine (ref08_neg_z nb b m cap' lb y _ HC.out (by omega) EY.out).mono ?_; rintro e wp7 ⟨a4, n4, c4, rfl, h4, b⟩; replace HB := Lib.hid (below_then HB.out b); replace HX := Lib.hid (blk_later HX.out b); replace HY := Lib.hid (blk_later HY.out b); replace HU := Lib.hid (blk_later HU.out b); replace HV := Lib.hid (blk_later HV.out b); replace HA := Lib.hid (HA.out.later b); replace HC := Lib.hid (HC.out.later b); replace R3 := Lib.hid (R3.out.later b); have R4 := Lib.hid h4; have hn4 : n4 ≤ 200 := (by have := h4.len; omega); clear h4; clear b; clear pSn; have pSn := cells_2_2_2_2 HX.out HY.out HU.out HV.out; clear pM6 pm6; have pM7 := True.intro)))
    | (go_at_call 22; (first
      | (have pm9 := pM9; refine (S.mul na a n cap la x nb b m cap' lb y _ HA.out HC.out (by omega) (by omega) EX.out EY.out).mono ?_; rintro e wp10 ⟨a6, n6, c6, rfl, h6, b⟩; replace HB := Lib.hid (below_then HB.out b); replace HX := Lib.hid (blk_later HX.out b); replace HY := Lib.hid (blk_later HY.out b); replace HU := Lib.hid (blk_later HU.out b); replace HV := Lib.hid (blk_later HV.out b); replace HA := Lib.hid (HA.out.later b); replace HC := Lib.hid (HC.out.later b); have R6 := Lib.hid h6; clear h6; clear b; clear pSn; have pSn := cells_2_2_2_2 HX.out HY.out HU.out HV.out; clear pM9 pm9; have pM10 := True.intro)))
    | (go_at_call 23; (first
      | (have pm11 := pM11; refine (ref08_mul_z na a n cap la x nb b m cap' lb y _ HA.out HC.out (by omega) (by omega) EX.out EY.out).mono ?_; rintro e wp12 ⟨a7, n7, c7, rfl, h7, b⟩; replace HB := Lib.hid (below_then HB.out b); replace HX := Lib.hid (blk_later HX.out b); replace HY := Lib.hid (blk_later HY.out b); replace HU := Lib.hid (blk_later HU.out b); replace HV := Lib.hid (blk_later HV.out b); replace HA := Lib.hid (HA.out.later b); replace HC := Lib.hid (HC.out.later b); replace R6 := Lib.hid (R6.out.later b); have R7 := Lib.hid h7; clear h7; clear b; clear pSn; have pSn := cells_2_2_2_2 HX.out HY.out HU.out HV.out; clear pM11 pm11; have pM12 := True.intro))))
  by_cases hy0 : y = 0
  · obtain ⟨zk0, zk1, zk2, zk3, zk4, zk5, zk6, zk7⟩ := cells_2_2_2_2 HX.out HY.out HU.out HV.out
    have hs0 : sgn y = 0 := by rw [hy0]; rfl
    have Hs0 := Lib.hid hs0
    have Hy0 := Lib.hid hy0
    clear hs0
    go_wp2_with fail
    refine (S.floor_no na a n cap la x nb b m cap' lb y _ HA.out HC.out (by omega) (by omega) EX.out EY.out hy0).mono ?_
    rintro e wz1 ⟨a8, n8, c8, a9, n9, c9, rfl, h8, h9, b⟩
    clear zk0 zk1 zk2 zk3 zk4 zk5 zk6 zk7
    replace HB := Lib.hid (below_then HB.out b)
    replace HX := Lib.hid (blk_later HX.out b)
    replace HY := Lib.hid (blk_later HY.out b)
    replace HU := Lib.hid (blk_later HU.out b)
    replace HV := Lib.hid (blk_later HV.out b)
    replace HA := Lib.hid (HA.out.later b)
    replace HC := Lib.hid (HC.out.later b)
    clear b
    clear hy0
    rw [show (0 : Int).natAbs = 0 from rfl, dg_zero] at h8 h9
    obtain rfl : n8 = 0 := h8.len.symm
    obtain rfl : n9 = 0 := h9.len.symm
    rw [show zneg 0 = false from rfl]
    have R8 := Lib.hid h8
    have R9 := Lib.hid h9
    clear h8 h9
    unfold whV
    have HQ : Hid ((World.alloc wz1 (.cells #[.bool false, .slice a8 0 c8] 30)).heap[wz1.heap.size]? = some (.cells #[.bool false, .slice a8 0 c8] 30 (0, 0))) := Lib.hid (blk_new wz1 _ _)
    replace HB := Lib.hid (below_then HB.out (below_alloc wz1 (.cells #[.bool false, .slice a8 0 c8] 30)))
    replace HX := Lib.hid (blk_later HX.out (below_alloc wz1 (.cells #[.bool false, .slice a8 0 c8] 30)))
    replace HY := Lib.hid (blk_later HY.out (below_alloc wz1 (.cells #[.bool false, .slice a8 0 c8] 30)))
    replace HU := Lib.hid (blk_later HU.out (below_alloc wz1 (.cells #[.bool false, .slice a8 0 c8] 30)))
    replace HV := Lib.hid (blk_later HV.out (below_alloc wz1 (.cells #[.bool false, .slice a8 0 c8] 30)))
    replace HA := Lib.hid (HA.out.later (below_alloc wz1 (.cells #[.bool false, .slice a8 0 c8] 30)))
    replace HC := Lib.hid (HC.out.later (below_alloc wz1 (.cells #[.bool false, .slice a8 0 c8] 30)))
    replace R8 := Lib.hid (R8.out.later (below_alloc wz1 (.cells #[.bool false, .slice a8 0 c8] 30)))
    replace R9 := Lib.hid (R9.out.later (below_alloc wz1 (.cells #[.bool false, .slice a8 0 c8] 30)))
    have HR : Hid ((World.alloc (wz1.alloc (.cells #[.bool false, .slice a8 0 c8] 30)) (.cells #[.bool false, .slice a9 0 c9] 30)).heap[wz1.heap.size + 1]? = some (.cells #[.bool false, .slice a9 0 c9] 30 (0, 0))) := Lib.hid (by have h := blk_new (wz1.alloc (.cells #[.bool false, .slice a8 0 c8] 30)) #[.bool false, .slice a9 0 c9] 30; rw [blk_size] at h; exact h)
    replace HB := Lib.hid (below_then HB.out (below_alloc (wz1.alloc (.cells #[.bool false, .slice a8 0 c8] 30)) (.cells #[.bool false, .slice a9 0 c9] 30)))
    replace HX := Lib.hid (blk_later HX.out (below_alloc (wz1.alloc (.cells #[.bool false, .slice a8 0 c8] 30)) (.cells #[.bool false, .slice a9 0 c9] 30)))
    replace HY := Lib.hid (blk_later HY.out (below_alloc (wz1.alloc (.cells #[.bool false, .slice a8 0 c8] 30)) (.cells #[.bool false, .slice a9 0 c9] 30)))
    replace HU := Lib.hid (blk_later HU.out (below_alloc (wz1.alloc (.cells #[.bool false, .slice a8 0 c8] 30)) (.cells #[.bool false, .slice a9 0 c9] 30)))
    replace HV := Lib.hid (blk_later HV.out (below_alloc (wz1.alloc (.cells #[.bool false, .slice a8 0 c8] 30)) (.cells #[.bool false, .slice a9 0 c9] 30)))
    replace HQ := Lib.hid (blk_later HQ.out (below_alloc (wz1.alloc (.cells #[.bool false, .slice a8 0 c8] 30)) (.cells #[.bool false, .slice a9 0 c9] 30)))
    replace HA := Lib.hid (HA.out.later (below_alloc (wz1.alloc (.cells #[.bool false, .slice a8 0 c8] 30)) (.cells #[.bool false, .slice a9 0 c9] 30)))
    replace HC := Lib.hid (HC.out.later (below_alloc (wz1.alloc (.cells #[.bool false, .slice a8 0 c8] 30)) (.cells #[.bool false, .slice a9 0 c9] 30)))
    replace R8 := Lib.hid (R8.out.later (below_alloc (wz1.alloc (.cells #[.bool false, .slice a8 0 c8] 30)) (.cells #[.bool false, .slice a9 0 c9] 30)))
    replace R9 := Lib.hid (R9.out.later (below_alloc (wz1.alloc (.cells #[.bool false, .slice a8 0 c8] 30)) (.cells #[.bool false, .slice a9 0 c9] 30)))
    obtain ⟨zk0, zk1, zk2, zk3, zk4, zk5, zk6, zk7, zk8, zk9, zk10, zk11⟩ := cells_2_2_2_2_2_2 HX.out HY.out HU.out HV.out HQ.out HR.out
    go_wp2_with fail
    refine (ref08_sign_z nb b m cap' lb y _ HC.out (by omega) EY.out).mono ?_
    rintro e wz2 ⟨rfl, b⟩
    clear zk0 zk1 zk2 zk3 zk4 zk5 zk6 zk7 zk8 zk9 zk10 zk11
    replace HB := Lib.hid (below_then HB.out b)
    replace HX := Lib.hid (blk_later HX.out b)
    replace HY := Lib.hid (blk_later HY.out b)
    replace HU := Lib.hid (blk_later HU.out b)
    replace HV := Lib.hid (blk_later HV.out b)
    replace HQ := Lib.hid (blk_later HQ.out b)
    replace HR := Lib.hid (blk_later HR.out b)
    replace HA := Lib.hid (HA.out.later b)
    replace HC := Lib.hid (HC.out.later b)
    replace R8 := Lib.hid (R8.out.later b)
    replace R9 := Lib.hid (R9.out.later b)
    clear b
    rw [Hs0.out]
    obtain ⟨zk0, zk1, zk2, zk3, zk4, zk5, zk6, zk7, zk8, zk9, zk10, zk11⟩ := cells_2_2_2_2_2_2 HX.out HY.out HU.out HV.out HQ.out HR.out
    go_wp2_with fail
    refine (law08_of false a8 0 c8 _).mono ?_
    rintro e wz3 ⟨rfl, b⟩
    clear zk0 zk1 zk2 zk3 zk4 zk5 zk6 zk7 zk8 zk9 zk10 zk11
    replace HB := Lib.hid (below_then HB.out b)
    replace HX := Lib.hid (blk_later HX.out b)
    replace HY := Lib.hid (blk_later HY.out b)
    replace HU := Lib.hid (blk_later HU.out b)
    replace HV := Lib.hid (blk_later HV.out b)
    replace HQ := Lib.hid (blk_later HQ.out b)
    replace HR := Lib.hid (blk_later HR.out b)
    replace HA := Lib.hid (HA.out.later b)
    replace HC := Lib.hid (HC.out.later b)
    replace R8 := Lib.hid (R8.out.later b)
    replace R9 := Lib.hid (R9.out.later b)
    clear b
    obtain ⟨zk0, zk1, zk2, zk3, zk4, zk5, zk6, zk7, zk8, zk9, zk10, zk11⟩ := cells_2_2_2_2_2_2 HX.out HY.out HU.out HV.out HQ.out HR.out
    go_wp2_with fail
    refine (ref08_same_yes false a8 0 c8 none 0 0 _ _ R8.out (Wd.ofNil _)).mono ?_
    rintro e wz4 ⟨rfl, b⟩
    clear zk0 zk1 zk2 zk3 zk4 zk5 zk6 zk7 zk8 zk9 zk10 zk11
    replace HB := Lib.hid (below_then HB.out b)
    replace HX := Lib.hid (blk_later HX.out b)
    replace HY := Lib.hid (blk_later HY.out b)
    replace HU := Lib.hid (blk_later HU.out b)
    replace HV := Lib.hid (blk_later HV.out b)
    replace HQ := Lib.hid (blk_later HQ.out b)
    replace HR := Lib.hid (blk_later HR.out b)
    replace HA := Lib.hid (HA.out.later b)
    replace HC := Lib.hid (HC.out.later b)
    replace R8 := Lib.hid (R8.out.later b)
    replace R9 := Lib.hid (R9.out.later b)
    clear b
    obtain ⟨zk0, zk1, zk2, zk3, zk4, zk5, zk6, zk7, zk8, zk9, zk10, zk11⟩ := cells_2_2_2_2_2_2 HX.out HY.out HU.out HV.out HQ.out HR.out
    go_wp2_with fail
    refine (law08_of false a9 0 c9 _).mono ?_
    rintro e wz5 ⟨rfl, b⟩
    clear zk0 zk1 zk2 zk3 zk4 zk5 zk6 zk7 zk8 zk9 zk10 zk11
    replace HB := Lib.hid (below_then HB.out b)
    replace HX := Lib.hid (blk_later HX.out b)
    replace HY := Lib.hid (blk_later HY.out b)
    replace HU := Lib.hid (blk_later HU.out b)
    replace HV := Lib.hid (blk_later HV.out b)
    replace HQ := Lib.hid (blk_later HQ.out b)
    replace HR := Lib.hid (blk_later HR.out b)
    replace HA := Lib.hid (HA.out.later b)
    replace HC := Lib.hid (HC.out.later b)
    replace R8 := Lib.hid (R8.out.later b)
    replace R9 := Lib.hid (R9.out.later b)
    clear b
    obtain ⟨zk0, zk1, zk2, zk3, zk4, zk5, zk6, zk7, zk8, zk9, zk10, zk11⟩ := cells_2_2_2_2_2_2 HX.out HY.out HU.out HV.out HQ.out HR.out
    go_wp2_with fail
    refine (ref08_same_yes false a9 0 c9 none 0 0 _ _ R9.out (Wd.ofNil _)).mono ?_
    rintro e wz6 ⟨rfl, b⟩
    clear zk0 zk1 zk2 zk3 zk4 zk5 zk6 zk7 zk8 zk9 zk10 zk11
    replace HB := Lib.hid (below_then HB.out b)
    replace HX := Lib.hid (blk_later HX.out b)
    replace HY := Lib.hid (blk_later HY.out b)
    replace HU := Lib.hid (blk_later HU.out b)
    replace HV := Lib.hid (blk_later HV.out b)
    replace HQ := Lib.hid (blk_later HQ.out b)
    replace HR := Lib.hid (blk_later HR.out b)
    replace HA := Lib.hid (HA.out.later b)
    replace HC := Lib.hid (HC.out.later b)
    replace R8 := Lib.hid (R8.out.later b)
    replace R9 := Lib.hid (R9.out.later b)
    clear b
    obtain ⟨zk0, zk1, zk2, zk3, zk4, zk5, zk6, zk7, zk8, zk9, zk10, zk11⟩ := cells_2_2_2_2_2_2 HX.out HY.out HU.out HV.out HQ.out HR.out
    go_wp2_with fail
    refine (hworks _ (hT.out.later HB.out)).mono ?_
    rintro e wz7 ⟨rfl, b⟩
    clear zk0 zk1 zk2 zk3 zk4 zk5 zk6 zk7 zk8 zk9 zk10 zk11
    replace HB := Lib.hid (below_then HB.out b)
    replace HX := Lib.hid (blk_later HX.out b)
    replace HY := Lib.hid (blk_later HY.out b)
    replace HU := Lib.hid (blk_later HU.out b)
    replace HV := Lib.hid (blk_later HV.out b)
    replace HQ := Lib.hid (blk_later HQ.out b)
    replace HR := Lib.hid (blk_later HR.out b)
    replace HA := Lib.hid (HA.out.later b)
    replace HC := Lib.hid (HC.out.later b)
    replace R8 := Lib.hid (R8.out.later b)
    replace R9 := Lib.hid (R9.out.later b)
    clear b
    obtain ⟨zk0, zk1, zk2, zk3, zk4, zk5, zk6, zk7, zk8, zk9, zk10, zk11⟩ := cells_2_2_2_2_2_2 HX.out HY.out HU.out HV.out HQ.out HR.out
    go_wp2
    go_ret
    exact ⟨rfl, HB.out⟩
  · obtain ⟨zk0, zk1, zk2, zk3, zk4, zk5, zk6, zk7⟩ := cells_2_2_2_2 HX.out HY.out HU.out HV.out
    have hs0 : ¬ sgn y = 0 := by unfold sgn; rw [if_neg hy0]; split <;> omega
    have Hs0 := Lib.hid hs0
    have Hy0 := Lib.hid hy0
    clear hs0
    go_wp2_with fail
    refine (S.floor na a n cap la x nb b m cap' lb y _ HA.out HC.out (by omega) (by omega) EX.out EY.out hy0).mono ?_
    rintro e wz1 ⟨a8, n8, c8, a9, n9, c9, rfl, h8, h9, b⟩
    clear zk0 zk1 zk2 zk3 zk4 zk5 zk6 zk7
    replace HB := Lib.hid (below_then HB.out b)
    replace HX := Lib.hid (blk_later HX.out b)
    replace HY := Lib.hid (blk_later HY.out b)
    replace HU := Lib.hid (blk_later HU.out b)
    replace HV := Lib.hid (blk_later HV.out b)
    replace HA := Lib.hid (HA.out.later b)
    replace HC := Lib.hid (HC.out.later b)
    clear b
    clear hy0
    have R8 := Lib.hid h8
    have R9 := Lib.hid h9
    clear h8 h9
    generalize hqq : Int.fdiv x y = q at *
    generalize hrr : Int.fmod x y = r at *
    have HQQ := Lib.hid hqq
    have HRR := Lib.hid hrr
    clear hqq hrr
    unfold whV
    have HQ : Hid ((World.alloc wz1 (.cells #[.bool (zneg q), .slice a8 n8 c8] 30)).heap[wz1.heap.size]? = some (.cells #[.bool (zneg q), .slice a8 n8 c8] 30 (0, 0))) := Lib.hid (blk_new wz1 _ _)
    replace HB := Lib.hid (below_then HB.out (below_alloc wz1 (.cells #[.bool (zneg q), .slice a8 n8 c8] 30)))
    replace HX := Lib.hid (blk_later HX.out (below_alloc wz1 (.cells #[.bool (zneg q), .slice a8 n8 c8] 30)))
    replace HY := Lib.hid (blk_later HY.out (below_alloc wz1 (.cells #[.bool (zneg q), .slice a8 n8 c8] 30)))
    replace HU := Lib.hid (blk_later HU.out (below_alloc wz1 (.cells #[.bool (zneg q), .slice a8 n8 c8] 30)))
    replace HV := Lib.hid (blk_later HV.out (below_alloc wz1 (.cells #[.bool (zneg q), .slice a8 n8 c8] 30)))
    replace HA := Lib.hid (HA.out.later (below_alloc wz1 (.cells #[.bool (zneg q), .slice a8 n8 c8] 30)))
    replace HC := Lib.hid (HC.out.later (below_alloc wz1 (.cells #[.bool (zneg q), .slice a8 n8 c8] 30)))
    replace R8 := Lib.hid (R8.out.later (below_alloc wz1 (.cells #[.bool (zneg q), .slice a8 n8 c8] 30)))
    replace R9 := Lib.hid (R9.out.later (below_alloc wz1 (.cells #[.bool (zneg q), .slice a8 n8 c8] 30)))
    have HR : Hid ((World.alloc (wz1.alloc (.cells #[.bool (zneg q), .slice a8 n8 c8] 30)) (.cells #[.bool (zneg r), .slice a9 n9 c9] 30)).heap[wz1.heap.size + 1]? = some (.cells #[.bool (zneg r), .slice a9 n9 c9] 30 (0, 0))) := Lib.hid (by have h := blk_new (wz1.alloc (.cells #[.bool (zneg q), .slice a8 n8 c8] 30)) #[.bool (zneg r), .slice a9 n9 c9] 30; rw [blk_size] at h; exact h)
    replace HB := Lib.hid (below_then HB.out (below_alloc (wz1.alloc (.cells #[.bool (zneg q), .slice a8 n8 c8] 30)) (.cells #[.bool (zneg r), .slice a9 n9 c9] 30)))
    replace HX := Lib.hid (blk_later HX.out (below_alloc (wz1.alloc (.cells #[.bool (zneg q), .slice a8 n8 c8] 30)) (.cells #[.bool (zneg r), .slice a9 n9 c9] 30)))
    replace HY := Lib.hid (blk_later HY.out (below_alloc (wz1.alloc (.cells #[.bool (zneg q), .slice a8 n8 c8] 30)) (.cells #[.bool (zneg r), .slice a9 n9 c9] 30)))
    replace HU := Lib.hid (blk_later HU.out (below_alloc (wz1.alloc (.cells #[.bool (zneg q), .slice a8 n8 c8] 30)) (.cells #[.bool (zneg r), .slice a9 n9 c9] 30)))
    replace HV := Lib.hid (blk_later HV.out (below_alloc (wz1.alloc (.cells #[.bool (zneg q), .slice a8 n8 c8] 30)) (.cells #[.bool (zneg r), .slice a9 n9 c9] 30)))
    replace HQ := Lib.hid (blk_later HQ.out (below_alloc (wz1.alloc (.cells #[.bool (zneg q), .slice a8 n8 c8] 30)) (.cells #[.bool (zneg r), .slice a9 n9 c9] 30)))
    replace HA := Lib.hid (HA.out.later (below_alloc (wz1.alloc (.cells #[.bool (zneg q), .slice a8 n8 c8] 30)) (.cells #[.bool (zneg r), .slice a9 n9 c9] 30)))
    replace HC := Lib.hid (HC.out.later (below_alloc (wz1.alloc (.cells #[.bool (zneg q), .slice a8 n8 c8] 30)) (.cells #[.bool (zneg r), .slice a9 n9 c9] 30)))
    replace R8 := Lib.hid (R8.out.later (below_alloc (wz1.alloc (.cells #[.bool (zneg q), .slice a8 n8 c8] 30)) (.cells #[.bool (zneg r), .slice a9 n9 c9] 30)))
    replace R9 := Lib.hid (R9.out.later (below_alloc (wz1.alloc (.cells #[.bool (zneg q), .slice a8 n8 c8] 30)) (.cells #[.bool (zneg r), .slice a9 n9 c9] 30)))
    obtain ⟨zk0, zk1, zk2, zk3, zk4, zk5, zk6, zk7, zk8, zk9, zk10, zk11⟩ := cells_2_2_2_2_2_2 HX.out HY.out HU.out HV.out HQ.out HR.out
    go_wp2_with fail
    refine (ref08_sign_z nb b m cap' lb y _ HC.out (by omega) EY.out).mono ?_
    rintro e wz2 ⟨rfl, b⟩
    clear zk0 zk1 zk2 zk3 zk4 zk5 zk6 zk7 zk8 zk9 zk10 zk11
    replace HB := Lib.hid (below_then HB.out b)
    replace HX := Lib.hid (blk_later HX.out b)
    replace HY := Lib.hid (blk_later HY.out b)
    replace HU := Lib.hid (blk_later HU.out b)
    replace HV := Lib.hid (blk_later HV.out b)
    replace HQ := Lib.hid (blk_later HQ.out b)
    replace HR := Lib.hid (blk_later HR.out b)
    replace HA := Lib.hid (HA.out.later b)
    replace HC := Lib.hid (HC.out.later b)
    replace R8 := Lib.hid (R8.out.later b)
    replace R9 := Lib.hid (R9.out.later b)
    clear b
    have hs1 : (sgn y == 0) = false := by simp [Hs0.out]
    generalize sgn y = sy at *
    obtain ⟨zk0, zk1, zk2, zk3, zk4, zk5, zk6, zk7, zk8, zk9, zk10, zk11⟩ := cells_2_2_2_2_2_2 HX.out HY.out HU.out HV.out HQ.out HR.out
    go_wp2_with fail
    refine (ref08_floor_z na a n cap la x nb b m cap' lb y _ HA.out HC.out (by omega) (by omega) EX.out EY.out Hy0.out).mono ?_
    rintro e wz3 ⟨a10, n10, c10, a11, n11, c11, rfl, h10, h11, b⟩
    clear zk0 zk1 zk2 zk3 zk4 zk5 zk6 zk7 zk8 zk9 zk10 zk11
    replace HB := Lib.hid (below_then HB.out b)
    replace HX := Lib.hid (blk_later HX.out b)
    replace HY := Lib.hid (blk_later HY.out b)
    replace HU := Lib.hid (blk_later HU.out b)
    replace HV := Lib.hid (blk_later HV.out b)
    replace HQ := Lib.hid (blk_later HQ.out b)
    replace HR := Lib.hid (blk_later HR.out b)
    replace HA := Lib.hid (HA.out.later b)
    replace HC := Lib.hid (HC.out.later b)
    replace R8 := Lib.hid (R8.out.later b)
    replace R9 := Lib.hid (R9.out.later b)
    clear b
    rw [HQQ.out] at h10
    rw [HRR.out] at h11
    rw [HQQ.out, HRR.out]
    have R10 := Lib.hid h10
    have R11 := Lib.hid h11
    clear h10 h11
    unfold whV
    have HS : Hid ((World.alloc wz3 (.cells #[.bool (zneg q), .slice a10 n10 c10] 24)).heap[wz3.heap.size]? = some (.cells #[.bool (zneg q), .slice a10 n10 c10] 24 (0, 0))) := Lib.hid (blk_new wz3 _ _)
    replace HB := Lib.hid (below_then HB.out (below_alloc wz3 (.cells #[.bool (zneg q), .slice a10 n10 c10] 24)))
    replace HX := Lib.hid (blk_later HX.out (below_alloc wz3 (.cells #[.bool (zneg q), .slice a10 n10 c10] 24)))
    replace HY := Lib.hid (blk_later HY.out (below_alloc wz3 (.cells #[.bool (zneg q), .slice a10 n10 c10] 24)))
    replace HU := Lib.hid (blk_later HU.out (below_alloc wz3 (.cells #[.bool (zneg q), .slice a10 n10 c10] 24)))
    replace HV := Lib.hid (blk_later HV.out (below_alloc wz3 (.cells #[.bool (zneg q), .slice a10 n10 c10] 24)))
    replace HQ := Lib.hid (blk_later HQ.out (below_alloc wz3 (.cells #[.bool (zneg q), .slice a10 n10 c10] 24)))
    replace HR := Lib.hid (blk_later HR.out (below_alloc wz3 (.cells #[.bool (zneg q), .slice a10 n10 c10] 24)))
    replace HA := Lib.hid (HA.out.later (below_alloc wz3 (.cells #[.bool (zneg q), .slice a10 n10 c10] 24)))
    replace HC := Lib.hid (HC.out.later (below_alloc wz3 (.cells #[.bool (zneg q), .slice a10 n10 c10] 24)))
    replace R8 := Lib.hid (R8.out.later (below_alloc wz3 (.cells #[.bool (zneg q), .slice a10 n10 c10] 24)))
    replace R9 := Lib.hid (R9.out.later (below_alloc wz3 (.cells #[.bool (zneg q), .slice a10 n10 c10] 24)))
    replace R10 := Lib.hid (R10.out.later (below_alloc wz3 (.cells #[.bool (zneg q), .slice a10 n10 c10] 24)))
    replace R11 := Lib.hid (R11.out.later (below_alloc wz3 (.cells #[.bool (zneg q), .slice a10 n10 c10] 24)))
    have HT : Hid ((World.alloc (wz3.alloc (.cells #[.bool (zneg q), .slice a10 n10 c10] 24)) (.cells #[.bool (zneg r), .slice a11 n11 c11] 24)).heap[wz3.heap.size + 1]? = some (.cells #[.bool (zneg r), .slice a11 n11 c11] 24 (0, 0))) := Lib.hid (by have h := blk_new (wz3.alloc (.cells #[.bool (zneg q), .slice a10 n10 c10] 24)) #[.bool (zneg r), .slice a11 n11 c11] 24; rw [blk_size] at h; exact h)
    replace HB := Lib.hid (below_then HB.out (below_alloc (wz3.alloc (.cells #[.bool (zneg q), .slice a10 n10 c10] 24)) (.cells #[.bool (zneg r), .slice a11 n11 c11] 24)))
    replace HX := Lib.hid (blk_later HX.out (below_alloc (wz3.alloc (.cells #[.bool (zneg q), .slice a10 n10 c10] 24)) (.cells #[.bool (zneg r), .slice a11 n11 c11] 24)))
    replace HY := Lib.hid (blk_later HY.out (below_alloc (wz3.alloc (.cells #[.bool (zneg q), .slice a10 n10 c10] 24)) (.cells #[.bool (zneg r), .slice a11 n11 c11] 24)))
    replace HU := Lib.hid (blk_later HU.out (below_alloc (wz3.alloc (.cells #[.bool (zneg q), .slice a10 n10 c10] 24)) (.cells #[.bool (zneg r), .slice a11 n11 c11] 24)))
    replace HV := Lib.hid (blk_later HV.out (below_alloc (wz3.alloc (.cells #[.bool (zneg q), .slice a10 n10 c10] 24)) (.cells #[.bool (zneg r), .slice a11 n11 c11] 24)))
    replace HQ := Lib.hid (blk_later HQ.out (below_alloc (wz3.alloc (.cells #[.bool (zneg q), .slice a10 n10 c10] 24)) (.cells #[.bool (zneg r), .slice a11 n11 c11] 24)))
    replace HR := Lib.hid (blk_later HR.out (below_alloc (wz3.alloc (.cells #[.bool (zneg q), .slice a10 n10 c10] 24)) (.cells #[.bool (zneg r), .slice a11 n11 c11] 24)))
    replace HS := Lib.hid (blk_later HS.out (below_alloc (wz3.alloc (.cells #[.bool (zneg q), .slice a10 n10 c10] 24)) (.cells #[.bool (zneg r), .slice a11 n11 c11] 24)))
    replace HA := Lib.hid (HA.out.later (below_alloc (wz3.alloc (.cells #[.bool (zneg q), .slice a10 n10 c10] 24)) (.cells #[.bool (zneg r), .slice a11 n11 c11] 24)))
    replace HC := Lib.hid (HC.out.later (below_alloc (wz3.alloc (.cells #[.bool (zneg q), .slice a10 n10 c10] 24)) (.cells #[.bool (zneg r), .slice a11 n11 c11] 24)))
    replace R8 := Lib.hid (R8.out.later (below_alloc (wz3.alloc (.cells #[.bool (zneg q), .slice a10 n10 c10] 24)) (.cells #[.bool (zneg r), .slice a11 n11 c11] 24)))
    replace R9 := Lib.hid (R9.out.later (below_alloc (wz3.alloc (.cells #[.bool (zneg q), .slice a10 n10 c10] 24)) (.cells #[.bool (zneg r), .slice a11 n11 c11] 24)))
    replace R10 := Lib.hid (R10.out.later (below_alloc (wz3.alloc (.cells #[.bool (zneg q), .slice a10 n10 c10] 24)) (.cells #[.bool (zneg r), .slice a11 n11 c11] 24)))
    replace R11 := Lib.hid (R11.out.later (below_alloc (wz3.alloc (.cells #[.bool (zneg q), .slice a10 n10 c10] 24)) (.cells #[.bool (zneg r), .slice a11 n11 c11] 24)))
    obtain ⟨zk0, zk1, zk2, zk3, zk4, zk5, zk6, zk7⟩ := cells_2_2_2_2 HQ.out HR.out HS.out HT.out
    go_wp2
    clear zk0 zk1 zk2 zk3 zk4 zk5 zk6 zk7
    generalize ((wz3.alloc (.cells #[.bool (zneg q), .slice a10 n10 c10] 24)).alloc (.cells #[.bool (zneg r), .slice a11 n11 c11] 24)) = V at *
    replace HB := Lib.hid (below_then HB.out ((Below.refl _ _).drew : Below V.heap.size V V.drew))
    replace HQ : Hid (V.drew.heap[wz1.heap.size]? = _) := Lib.hid HQ.out
    replace HR : Hid (V.drew.heap[wz1.heap.size + 1]? = _) := Lib.hid HR.out
    replace HS : Hid (V.drew.heap[wz3.heap.size]? = _) := Lib.hid HS.out
    replace HT : Hid (V.drew.heap[wz3.heap.size + 1]? = _) := Lib.hid HT.out
    replace R8 := Lib.hid (R8.out.later ((Below.refl _ _).drew : Below V.heap.size V V.drew))
    replace R9 := Lib.hid (R9.out.later ((Below.refl _ _).drew : Below V.heap.size V V.drew))
    replace R10 := Lib.hid (R10.out.later ((Below.refl _ _).drew : Below V.heap.size V V.drew))
    replace R11 := Lib.hid (R11.out.later ((Below.refl _ _).drew : Below V.heap.size V V.drew))
    have qSn := cells_2_2_2_2 HQ.out HR.out HS.out HT.out
    go_region_held3 (fun w' => w'.cell? ⟨wz1.heap.size, 0, none⟩ = some (.bool (zneg q)) ∧ w'.cell? ⟨wz1.heap.size, 1, none⟩ = some (.slice a8 n8 c8) ∧ w'.cell? ⟨wz1.heap.size + 1, 0, none⟩ = some (.bool (zneg r)) ∧ w'.cell? ⟨wz1.heap.size + 1, 1, none⟩ = some (.slice a9 n9 c9) ∧ w'.cell? ⟨wz3.heap.size, 0, none⟩ = some (.bool (zneg q)) ∧ w'.cell? ⟨wz3.heap.size, 1, none⟩ = some (.slice a10 n10 c10) ∧ w'.cell? ⟨wz3.heap.size + 1, 0, none⟩ = some (.bool (zneg r)) ∧ w'.cell? ⟨wz3.heap.size + 1, 1, none⟩ = some (.slice a11 n11 c11)) (exact qSn)
      (first
      | (go_at_call 12; (first
        | (have qm2 := qM2; refine (law08_of _ a9 n9 c9 _).mono ?_; rintro e wq3 ⟨rfl, b⟩; replace HB := Lib.hid (below_then HB.out b); replace HQ := Lib.hid (blk_later HQ.out b); replace HR := Lib.hid (blk_later HR.out b); replace HS := Lib.hid (blk_later HS.out b); replace HT := Lib.hid (blk_later HT.out b); replace R8 := Lib.hid (R8.out.later b); replace R9 := Lib.hid (R9.out.later b); replace R10 := Lib.hid (R10.out.later b); replace R11 := Lib.hid (R11.out.later b); clear b; clear qSn; have qSn := cells_2_2_2_2 HQ.out HR.out HS.out HT.out; clear qM2 qm2; have qM3 := True.intro)
        | (refine (law08_of _ a8 n8 c8 _).mono ?_; rintro e wq1 ⟨rfl, b⟩; replace HB := Lib.hid (below_then HB.out b); replace HQ := Lib.hid (blk_later HQ.out b); replace HR := Lib.hid (blk_later HR.out b); replace HS := Lib.hid (blk_later HS.out b); replace HT := Lib.hid (blk_later HT.out b); replace R8 := Lib.hid (R8.out.later b); replace R9 := Lib.hid (R9.out.later b); replace R10 := Lib.hid (R10.out.later b); replace R11 := Lib.hid (R11.out.later b); clear b; clear qSn; have qSn := cells_2_2_2_2 HQ.out HR.out HS.out HT.out; have qM1 := True.intro)))
      | (go_at_call 11; (first
        | (have qm3 := qM3; refine (ref08_same_yes _ a9 n9 c9 a11 n11 c11 _ _ R9.out R11.out).mono ?_; rintro e wq4 ⟨rfl, b⟩; replace HB := Lib.hid (below_then HB.out b); replace HQ := Lib.hid (blk_later HQ.out b); replace HR := Lib.hid (blk_later HR.out b); replace HS := Lib.hid (blk_later HS.out b); replace HT := Lib.hid (blk_later HT.out b); replace R8 := Lib.hid (R8.out.later b); replace R9 := Lib.hid (R9.out.later b); replace R10 := Lib.hid (R10.out.later b); replace R11 := Lib.hid (R11.out.later b); clear b; clear qSn; have qSn := cells_2_2_2_2 HQ.out HR.out HS.out HT.out; clear qM3 qm3; have qM4 := True.intro)
        | (have qm1 := qM1; refine (ref08_same_yes _ a8 n8 c8 a10 n10 c10 _ _ R8.out R10.out).mono ?_; rintro e wq2 ⟨rfl, b⟩; replace HB := Lib.hid (below_then HB.out b); replace HQ := Lib.hid (blk_later HQ.out b); replace HR := Lib.hid (blk_later HR.out b); replace HS := Lib.hid (blk_later HS.out b); replace HT := Lib.hid (blk_later HT.out b); replace R8 := Lib.hid (R8.out.later b); replace R9 := Lib.hid (R9.out.later b); replace R10 := Lib.hid (R10.out.later b); replace R11 := Lib.hid (R11.out.later b); clear b; clear qSn; have qSn := cells_2_2_2_2 HQ.out HR.out HS.out HT.out; clear qM1 qm1; have qM2 := True.intro)))
      | (go_at_call 8; (first
        | (have qm4 := qM4; refine (hworks _ (hT.out.later HB.out)).mono ?_; rintro e wq5 ⟨rfl, b⟩; replace HB := Lib.hid (below_then HB.out b); replace HQ := Lib.hid (blk_later HQ.out b); replace HR := Lib.hid (blk_later HR.out b); replace HS := Lib.hid (blk_later HS.out b); replace HT := Lib.hid (blk_later HT.out b); replace R8 := Lib.hid (R8.out.later b); replace R9 := Lib.hid (R9.out.later b); replace R10 := Lib.hid (R10.out.later b); replace R11 := Lib.hid (R11.out.later b); clear b; clear qSn; have qSn := cells_2_2_2_2 HQ.out HR.out HS.out HT.out; clear qM4 qm4; have qM5 := True.intro))))
    go_wp2
    go_ret
    exact ⟨rfl, HB.out⟩
set_option maxRecDepth 4096 in
theorem law08_sums_out (S : WholeSaid) (na : Bool) (a : Option Addr) (n cap : Nat) (nb : Bool) (b : Option Addr) (m cap' : Nat) (w : World) (hT : Hid (Dec10 w)) (h1 : n ≤ 9223372036854775807) (h2 : m ≤ 9223372036854775807) (h : 40 < n ∨ 40 < m) :
    Calls Tryd.prog 4 #[whV na a n cap, whV nb b m cap'] w (Gives (.bool true) w) := by
  have hB : Below w.heap.size w ((w.alloc (.cells #[.bool na, .slice a n cap] 24)).alloc (.cells #[.bool nb, .slice b m cap'] 24)) := below_then (below_alloc _ _) (below_alloc _ _)
  unfold whV
  by_cases h3 : 40 < n
  · have hbi : (40 : Int) < (n : Int) := by omega
    clear h
    go_enter Tryd.func4, Tryd.ntmps4
    go_wp2_with fail
    refine (law08_works S _ (Lib.hid (hT.out.later hB))).mono ?_
    rintro e w1 ⟨rfl, b1⟩
    go_wp2
    go_ret
    exact ⟨rfl, below_then hB b1⟩
  · have hbi : ¬ (40 : Int) < (n : Int) := by omega
    have hbj : (40 : Int) < (m : Int) := by omega
    clear h
    go_enter Tryd.func4, Tryd.ntmps4
    go_wp2_with fail
    refine (law08_works S _ (Lib.hid (hT.out.later hB))).mono ?_
    rintro e w1 ⟨rfl, b1⟩
    go_wp2
    go_ret
    exact ⟨rfl, below_then hB b1⟩
theorem law08_sums (S : WholeSaid) (na : Bool) (a : Option Addr) (n cap : Nat) (la : List Nat) (nb : Bool) (b : Option Addr) (m cap' : Nat) (lb : List Nat) (w : World) (hT : Hid (Dec10 w)) (ha : Wd w a n cap la) (hb : Wd w b m cap' lb) :
    Calls Tryd.prog 4 #[whV na a n cap, whV nb b m cap'] w (Gives (.bool true) w) := by
  have p1 := ha.bound
  have p2 := hb.bound
  by_cases h : 40 < n ∨ 40 < m
  · exact law08_sums_out S na a n cap nb b m cap' w hT (by omega) (by omega) h
  · exact law08_sums_in S na a n cap la nb b m cap' lb w hT ha hb (by omega) (by omega) (fun v hv => law08_works S v (Lib.hid hv))
end Go.Proofs.YtiblojmdgjnfbaaDoor
