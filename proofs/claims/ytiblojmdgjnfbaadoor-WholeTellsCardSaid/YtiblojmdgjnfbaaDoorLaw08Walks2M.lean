/-
  The walks of the laws of layer 8: WholeTells.
-/
import Derived.Test.YtiblojmdgjnfbaaDoorG18
import Derived.Deep.RegionHeld3
namespace Go.Proofs.YtiblojmdgjnfbaaDoor
open Go.RowKit

set_option maxRecDepth 4096 in
set_option maxHeartbeats 8000000 in
theorem law08_tells_in (S : WholeSaid) (na : Bool) (a : Option Addr) (n cap : Nat) (la : List Nat) (nb : Bool) (b : Option Addr) (m cap' : Nat) (lb : List Nat) (w : World) (hT : Hid (Dec10 w)) (ha : Wd w a n cap la) (hb : Wd w b m cap' lb) (hn : n ≤ 60) (hm : m ≤ 60) (hworks : ∀ v : World, Dec10 v → Calls Tryd.prog 8 #[] v (Gives (.bool true) v)) :
    Calls Tryd.prog 3 #[whV na a n cap, whV nb b m cap'] w (Gives (.bool true) w) := by
  have HB := Lib.hid (below_then (below_alloc w (.cells #[.bool na, .slice a n cap] 24)) (below_alloc _ (.cells #[.bool nb, .slice b m cap'] 24)))
  have HA := Lib.hid (ha.later HB.out)
  have HC := Lib.hid (hb.later HB.out)
  obtain ⟨hx1, hx2⟩ := boxes_at w ((w.alloc (.cells #[.bool na, .slice a n cap] 24)).alloc (.cells #[.bool nb, .slice b m cap'] 24)) #[.bool na, .slice a n cap] #[.bool nb, .slice b m cap'] 24 24 (Below.refl _ _)
  have HX := Lib.hid hx1
  have HY := Lib.hid hx2
  have hlx := ha.trim_le
  have hly := hb.trim_le
  clear ha hb hx1 hx2
  obtain ⟨x, hx⟩ : ∃ x, zval na (val la) = x := ⟨_, rfl⟩
  obtain ⟨y, hy⟩ : ∃ y, zval nb (val lb) = y := ⟨_, rfl⟩
  have hzx : (dg x.natAbs).length ≤ n := by rw [← hx, zval_abs]; exact hlx
  have hzy : (dg y.natAbs).length ≤ m := by rw [← hy, zval_abs]; exact hly
  have EX := Lib.hid hx
  have EY := Lib.hid hy
  clear hx hy hlx hly
  have zl1 := zlen_neg y
  have zl2 := zlen_add x (-y)
  have hna : ¬ (60 : Int) < (n : Int) := by omega
  have hmb : ¬ (60 : Int) < (m : Int) := by omega
  go_enter Tryd.func3, Tryd.ntmps3
  unfold whV
  go_wp2
  generalize ((w.alloc (.cells #[.bool na, .slice a n cap] 24)).alloc (.cells #[.bool nb, .slice b m cap'] 24)) = W at *
  go_cut [5] from 17 to 20 (fun pv wx => ∃ (g : Nat) (a2 : Option Addr) (n2 c2 : Nat), pv = .pointer (some ⟨g, 0, none⟩) ∧ n2 ≤ 200 ∧ Hid (Wd wx a2 n2 c2 (dg (x + -y).natAbs)) ∧ Hid (wx.heap[g]? = some (.cells #[.bool (zneg (x + -y)), .slice a2 n2 c2] 24 (0, 0))) ∧ Hid (Below W.heap.size W wx))
  case first =>
    have HBd : Hid (Below W.heap.size W W.drew) := Lib.hid (Below.refl _ _).drew
    have pSn := cells_2_2 (blk_later HX.out HBd.out) (blk_later HY.out HBd.out)
    have pSa := fun o => cells_2_2 (blk_later HX.out (below_then HBd.out (below_alloc _ o))) (blk_later HY.out (below_then HBd.out (below_alloc _ o)))
    have hW1 : w.heap.size + 1 < W.heap.size := (Array.getElem?_eq_some_iff.1 HY.out).1
    go_region_held3 (fun w' => w'.cell? ⟨w.heap.size, 0, none⟩ = some (.bool na) ∧ w'.cell? ⟨w.heap.size, 1, none⟩ = some (.slice a n cap) ∧ w'.cell? ⟨w.heap.size + 1, 0, none⟩ = some (.bool nb) ∧ w'.cell? ⟨w.heap.size + 1, 1, none⟩ = some (.slice b m cap')) (first | exact pSn | exact pSa _ | exact qSn | exact qSa _ | exact rSn | exact rSa _ | exact rSb _ _ _ (by omega) (by omega))
      (first
      | (go_at_call 10; refine (later_lstZ (v0 := W) ?q0 (ref08_neg_z nb b m cap' lb y _ (HC.out.later ?q1) (by omega) EY.out)).mono ?_; (case q0 => first | exact HBd.out | exact below_then HBd.out (below_alloc _ _)); (case q1 => first | exact HBd.out | exact below_then HBd.out (below_alloc _ _)); rintro e w1 ⟨a1, n1, c1, rfl, h1, hb1, k1⟩; have R1 := Lib.hid h1; have hn1 : n1 ≤ 200 := (by have := h1.len; omega); have HB1 := Lib.hid hb1; have hW2 := hb1.size; (try have HN1 := Lib.hid (k1 _ _ (blk_new _ _ _))); have qSn := cells_2_2 (blk_later HX.out hb1) (blk_later HY.out hb1); have qSa := fun o => cells_2_2 (blk_later HX.out (below_then hb1 (below_alloc _ o))) (blk_later HY.out (below_then hb1 (below_alloc _ o))); clear h1 hb1 pSn pSa k1)
      | (go_at_call 9; refine (later_lstZ (v0 := W) ?q4 (ref08_add_z na a n cap la x _ a1 n1 c1 _ (-y) _ (HA.out.later ?q2) (R1.out.later ?q3) (by omega) (by omega) EX.out (zval_dg _))).mono ?_; (case q3 => first | exact Below.refl _ _ | exact below_alloc _ _); (case q2 => first | exact HB1.out | exact below_then HB1.out (below_alloc _ _)); (case q4 => first | exact HB1.out | exact below_then HB1.out (below_alloc _ _)); rintro e w2 ⟨a2, n2, c2, rfl, h2, hb2, k2⟩; have R2 := Lib.hid h2; have hn2 : n2 ≤ 200 := (by have := h2.len; omega); have HB2 := Lib.hid hb2; have hW3 := hb2.size; (first | (have HN2 := Lib.hid (k2 _ _ HN1.out)) | (have HN2 := Lib.hid (k2 _ _ (blk_new _ _ _))) | skip); (try (have r0 := blk_cell HN2.out 0; have r1 := blk_cell HN2.out 1; have f0 := blk_free HN2.out 0; have f1 := blk_free HN2.out 1; simp only [List.getElem?_toArray, List.getElem?_cons_zero, List.getElem?_cons_succ] at r0 r1)); have rSn := cells_2_2 (blk_later HX.out hb2) (blk_later HY.out hb2); have rSa := fun o => cells_2_2 (blk_later HX.out (below_then hb2 (below_alloc _ o))) (blk_later HY.out (below_then hb2 (below_alloc _ o))); have rSb := fun g u v hg1 hg2 => cells_2_2 (blk_other2 (g := g) (blk_later HX.out hb2) hg1 u v) (blk_other2 (g := g) (blk_later HY.out hb2) hg2 u v); clear h2 hb2 qSn qSa k2; unfold whV))
    all_goals (
      go_wp2
      go_meet
      first
      | exact ⟨_, a2, n2, c2, rfl, hn2, Lib.hid (R2.out.later (below_alloc _ _)), Lib.hid (blk_new _ _ _), Lib.hid (below_then HB2.out (below_alloc _ _))⟩
      | exact ⟨_, a2, n2, c2, rfl, hn2, Lib.hid (R2.out.stored2 HN2.out _ _), Lib.hid (blk_set2 HN2.out _ _), Lib.hid (below_set2 HB2.out (by omega) _ _)⟩)
  case rest =>
    obtain ⟨g, a2, n2, c2, rfl, hn2, R2, HZ, HBc⟩ := hcut
    replace HB := Lib.hid (below_then HB.out HBc.out)
    replace HX := Lib.hid (blk_later HX.out HBc.out)
    replace HY := Lib.hid (blk_later HY.out HBc.out)
    replace HA := Lib.hid (HA.out.later HBc.out)
    replace HC := Lib.hid (HC.out.later HBc.out)
    have EQ : Hid (x - y = x + -y) := Lib.hid (by omega)
    clear HBc
    obtain ⟨sx, hsx⟩ : ∃ sx, sx = sgn x := ⟨_, rfl⟩
    obtain ⟨sd, hsd⟩ : ∃ sd, sd = sgn (x + -y) := ⟨_, rfl⟩
    have Hsx := Lib.hid hsx
    have Hsd := Lib.hid hsd
    have Hsx1 := sgn_range x
    have Hsd1 := sgn_range (x + -y)
    rw [← hsx] at Hsx1
    rw [← hsd] at Hsd1
    clear hsx hsd
    go_wp2
    replace HB := Lib.hid (below_then HB.out ((Below.refl _ _).drew : Below wc.heap.size wc wc.drew))
    replace HX : Hid (wc.drew.heap[w.heap.size]? = _) := Lib.hid HX.out
    replace HY : Hid (wc.drew.heap[w.heap.size + 1]? = _) := Lib.hid HY.out
    replace HZ : Hid (wc.drew.heap[g]? = _) := Lib.hid HZ.out
    replace HA := Lib.hid (HA.out.later ((Below.refl _ _).drew : Below wc.heap.size wc wc.drew))
    replace HC := Lib.hid (HC.out.later ((Below.refl _ _).drew : Below wc.heap.size wc wc.drew))
    replace R2 := Lib.hid (R2.out.later ((Below.refl _ _).drew : Below wc.heap.size wc wc.drew))
    have rSn := cells_2_2_2 HX.out HY.out HZ.out
    go_region_held3 (fun w' => w'.cell? ⟨w.heap.size, 0, none⟩ = some (.bool na) ∧ w'.cell? ⟨w.heap.size, 1, none⟩ = some (.slice a n cap) ∧ w'.cell? ⟨w.heap.size + 1, 0, none⟩ = some (.bool nb) ∧ w'.cell? ⟨w.heap.size + 1, 1, none⟩ = some (.slice b m cap') ∧ w'.cell? ⟨g, 0, none⟩ = some (.bool (zneg (x + -y))) ∧ w'.cell? ⟨g, 1, none⟩ = some (.slice a2 n2 c2)) (exact rSn)
      (first
      | (go_at_call 14; (first
        | (have rm12 := rM12; refine (law08_to na a n cap _).mono ?_; rintro e wr13 ⟨rfl, b⟩; replace HB := Lib.hid (below_then HB.out b); replace HX := Lib.hid (blk_later HX.out b); replace HY := Lib.hid (blk_later HY.out b); replace HZ := Lib.hid (blk_later HZ.out b); replace HA := Lib.hid (HA.out.later b); replace HC := Lib.hid (HC.out.later b); replace R2 := Lib.hid (R2.out.later b); clear b; clear rSn; have rSn := cells_2_2_2 HX.out HY.out HZ.out; clear rM12 rm12; have rM13 := True.intro)
        | (have rm9 := rM9; refine (law08_to nb b m cap' _).mono ?_; rintro e wr10 ⟨rfl, b⟩; replace HB := Lib.hid (below_then HB.out b); replace HX := Lib.hid (blk_later HX.out b); replace HY := Lib.hid (blk_later HY.out b); replace HZ := Lib.hid (blk_later HZ.out b); replace HA := Lib.hid (HA.out.later b); replace HC := Lib.hid (HC.out.later b); replace R2 := Lib.hid (R2.out.later b); clear b; clear rSn; have rSn := cells_2_2_2 HX.out HY.out HZ.out; clear rM9 rm9; have rM10 := True.intro)
        | (have rm8 := rM8; refine (law08_to na a n cap _).mono ?_; rintro e wr9 ⟨rfl, b⟩; replace HB := Lib.hid (below_then HB.out b); replace HX := Lib.hid (blk_later HX.out b); replace HY := Lib.hid (blk_later HY.out b); replace HZ := Lib.hid (blk_later HZ.out b); replace HA := Lib.hid (HA.out.later b); replace HC := Lib.hid (HC.out.later b); replace R2 := Lib.hid (R2.out.later b); clear b; clear rSn; have rSn := cells_2_2_2 HX.out HY.out HZ.out; clear rM8 rm8; have rM9 := True.intro)
        | (have rm5 := rM5; refine (law08_to na a n cap _).mono ?_; rintro e wr6 ⟨rfl, b⟩; replace HB := Lib.hid (below_then HB.out b); replace HX := Lib.hid (blk_later HX.out b); replace HY := Lib.hid (blk_later HY.out b); replace HZ := Lib.hid (blk_later HZ.out b); replace HA := Lib.hid (HA.out.later b); replace HC := Lib.hid (HC.out.later b); replace R2 := Lib.hid (R2.out.later b); clear b; clear rSn; have rSn := cells_2_2_2 HX.out HY.out HZ.out; clear rM5 rm5; have rM6 := True.intro)
        | (refine (law08_to na a n cap _).mono ?_; rintro e wr1 ⟨rfl, b⟩; replace HB := Lib.hid (below_then HB.out b); replace HX := Lib.hid (blk_later HX.out b); replace HY := Lib.hid (blk_later HY.out b); replace HZ := Lib.hid (blk_later HZ.out b); replace HA := Lib.hid (HA.out.later b); replace HC := Lib.hid (HC.out.later b); replace R2 := Lib.hid (R2.out.later b); clear b; clear rSn; have rSn := cells_2_2_2 HX.out HY.out HZ.out; have rM1 := True.intro)))
      | (go_at_call 13; (first
        | (have rm1 := rM1; refine (S.norm na a n cap la x _ HA.out (by omega) EX.out).mono ?_; rintro e wr2 ⟨a3, n3, c3, rfl, h3, b⟩; replace HB := Lib.hid (below_then HB.out b); replace HX := Lib.hid (blk_later HX.out b); replace HY := Lib.hid (blk_later HY.out b); replace HZ := Lib.hid (blk_later HZ.out b); replace HA := Lib.hid (HA.out.later b); replace HC := Lib.hid (HC.out.later b); replace R2 := Lib.hid (R2.out.later b); have R3 := Lib.hid h3; clear h3; clear b; clear rSn; have rSn := cells_2_2_2 HX.out HY.out HZ.out; clear rM1 rm1; have rM2 := True.intro)))
      | (go_at_call 12; (first
        | (have rm14 := rM14; refine (law08_of _ a5 n5 c5 _).mono ?_; rintro e wr15 ⟨rfl, b⟩; replace HB := Lib.hid (below_then HB.out b); replace HX := Lib.hid (blk_later HX.out b); replace HY := Lib.hid (blk_later HY.out b); replace HZ := Lib.hid (blk_later HZ.out b); replace HA := Lib.hid (HA.out.later b); replace HC := Lib.hid (HC.out.later b); replace R2 := Lib.hid (R2.out.later b); replace R5 := Lib.hid (R5.out.later b); clear b; clear rSn; have rSn := cells_2_2_2 HX.out HY.out HZ.out; clear rM14 rm14; have rM15 := True.intro)
        | (have rm2 := rM2; refine (law08_of _ a3 n3 c3 _).mono ?_; rintro e wr3 ⟨rfl, b⟩; replace HB := Lib.hid (below_then HB.out b); replace HX := Lib.hid (blk_later HX.out b); replace HY := Lib.hid (blk_later HY.out b); replace HZ := Lib.hid (blk_later HZ.out b); replace HA := Lib.hid (HA.out.later b); replace HC := Lib.hid (HC.out.later b); replace R2 := Lib.hid (R2.out.later b); replace R3 := Lib.hid (R3.out.later b); clear b; clear rSn; have rSn := cells_2_2_2 HX.out HY.out HZ.out; clear rM2 rm2; have rM3 := True.intro)))
      | (go_at_call 15; (first
        | (have rm3 := rM3; refine (ref08_norm_z na a n cap la x _ HA.out (by omega) EX.out).mono ?_; rintro e wr4 ⟨a4, n4, c4, rfl, h4, b⟩; replace HB := Lib.hid (below_then HB.out b); replace HX := Lib.hid (blk_later HX.out b); replace HY := Lib.hid (blk_later HY.out b); replace HZ := Lib.hid (blk_later HZ.out b); replace HA := Lib.hid (HA.out.later b); replace HC := Lib.hid (HC.out.later b); replace R2 := Lib.hid (R2.out.later b); replace R3 := Lib.hid (R3.out.later b); have R4 := Lib.hid h4; clear h4; clear b; clear rSn; have rSn := cells_2_2_2 HX.out HY.out HZ.out; clear rM3 rm3; have rM4 := True.intro)))
      | (go_at_call 11; (first
        | (have rm16 := rM16; refine (ref08_same_yes _ a5 n5 c5 a6 n6 c6 _ _ R5.out R6.out).mono ?_; rintro e wr17 ⟨rfl, b⟩; replace HB := Lib.hid (below_then HB.out b); replace HX := Lib.hid (blk_later HX.out b); replace HY := Lib.hid (blk_later HY.out b); replace HZ := Lib.hid (blk_later HZ.out b); replace HA := Lib.hid (HA.out.later b); replace HC := Lib.hid (HC.out.later b); replace R2 := Lib.hid (R2.out.later b); clear R5; clear R6; clear b; clear rSn; have rSn := cells_2_2_2 HX.out HY.out HZ.out; clear rM16 rm16; have rM17 := True.intro)
        | (have rm4 := rM4; refine (ref08_same_yes _ a3 n3 c3 a4 n4 c4 _ _ R3.out R4.out).mono ?_; rintro e wr5 ⟨rfl, b⟩; replace HB := Lib.hid (below_then HB.out b); replace HX := Lib.hid (blk_later HX.out b); replace HY := Lib.hid (blk_later HY.out b); replace HZ := Lib.hid (blk_later HZ.out b); replace HA := Lib.hid (HA.out.later b); replace HC := Lib.hid (HC.out.later b); replace R2 := Lib.hid (R2.out.later b); clear R3; clear R4; clear b; clear rSn; have rSn := cells_2_2_2 HX.out HY.out HZ.out; clear rM4 rm4; have rM5 := True.intro)))
      | (go_at_call 16; (first
        | (have rm6 := rM6; refine (S.sign na a n cap la x _ HA.out (by omega) EX.out).mono ?_; rintro e wr7 ⟨rfl, b⟩; replace HB := Lib.hid (below_then HB.out b); replace HX := Lib.hid (blk_later HX.out b); replace HY := Lib.hid (blk_later HY.out b); replace HZ := Lib.hid (blk_later HZ.out b); replace HA := Lib.hid (HA.out.later b); replace HC := Lib.hid (HC.out.later b); replace R2 := Lib.hid (R2.out.later b); rw [← Hsx.out]; clear b; clear rSn; have rSn := cells_2_2_2 HX.out HY.out HZ.out; clear rM6 rm6; have rM7 := True.intro)))
      | (go_at_call 17; (first
        | (have rm11 := rM11; refine (ref08_sign_z _ a2 n2 c2 _ (x + -y) _ R2.out (by omega) (zval_dg _)).mono ?_; rintro e wr12 ⟨rfl, b⟩; replace HB := Lib.hid (below_then HB.out b); replace HX := Lib.hid (blk_later HX.out b); replace HY := Lib.hid (blk_later HY.out b); replace HZ := Lib.hid (blk_later HZ.out b); replace HA := Lib.hid (HA.out.later b); replace HC := Lib.hid (HC.out.later b); replace R2 := Lib.hid (R2.out.later b); rw [← Hsd.out]; clear b; clear rSn; have rSn := cells_2_2_2 HX.out HY.out HZ.out; clear rM11 rm11; have rM12 := True.intro)
        | (have rm7 := rM7; refine (ref08_sign_z na a n cap la x _ HA.out (by omega) EX.out).mono ?_; rintro e wr8 ⟨rfl, b⟩; replace HB := Lib.hid (below_then HB.out b); replace HX := Lib.hid (blk_later HX.out b); replace HY := Lib.hid (blk_later HY.out b); replace HZ := Lib.hid (blk_later HZ.out b); replace HA := Lib.hid (HA.out.later b); replace HC := Lib.hid (HC.out.later b); replace R2 := Lib.hid (R2.out.later b); rw [← Hsx.out]; clear b; clear rSn; have rSn := cells_2_2_2 HX.out HY.out HZ.out; clear rM7 rm7; have rM8 := True.intro)))
      | (go_at_call 18; (first
        | (have rm10 := rM10; refine (S.cmp na a n cap la x nb b m cap' lb y _ HA.out HC.out (by omega) (by omega) EX.out EY.out).mono ?_; rintro e wr11 ⟨rfl, b⟩; replace HB := Lib.hid (below_then HB.out b); replace HX := Lib.hid (blk_later HX.out b); replace HY := Lib.hid (blk_later HY.out b); replace HZ := Lib.hid (blk_later HZ.out b); replace HA := Lib.hid (HA.out.later b); replace HC := Lib.hid (HC.out.later b); replace R2 := Lib.hid (R2.out.later b); rw [EQ.out, ← Hsd.out]; clear b; clear rSn; have rSn := cells_2_2_2 HX.out HY.out HZ.out; clear rM10 rm10; have rM11 := True.intro)))
      | (go_at_call 19; (first
        | (have rm13 := rM13; refine (S.neg na a n cap la x _ HA.out (by omega) EX.out).mono ?_; rintro e wr14 ⟨a5, n5, c5, rfl, h5, b⟩; replace HB := Lib.hid (below_then HB.out b); replace HX := Lib.hid (blk_later HX.out b); replace HY := Lib.hid (blk_later HY.out b); replace HZ := Lib.hid (blk_later HZ.out b); replace HA := Lib.hid (HA.out.later b); replace HC := Lib.hid (HC.out.later b); replace R2 := Lib.hid (R2.out.later b); have R5 := Lib.hid h5; clear h5; clear b; clear rSn; have rSn := cells_2_2_2 HX.out HY.out HZ.out; clear rM13 rm13; have rM14 := True.intro)))
      | (go_at_call 10; (first
        | (have rm15 := rM15; refine (ref08_neg_z na a n cap la x _ HA.out (by omega) EX.out).mono ?_; rintro e wr16 ⟨a6, n6, c6, rfl, h6, b⟩; replace HB := Lib.hid (below_then HB.out b); replace HX := Lib.hid (blk_later HX.out b); replace HY := Lib.hid (blk_later HY.out b); replace HZ := Lib.hid (blk_later HZ.out b); replace HA := Lib.hid (HA.out.later b); replace HC := Lib.hid (HC.out.later b); replace R2 := Lib.hid (R2.out.later b); replace R5 := Lib.hid (R5.out.later b); have R6 := Lib.hid h6; clear h6; clear b; clear rSn; have rSn := cells_2_2_2 HX.out HY.out HZ.out; clear rM15 rm15; have rM16 := True.intro)))
      | (go_at_call 8; (first
        | (have rm17 := rM17; refine (hworks _ (hT.out.later HB.out)).mono ?_; rintro e wr18 ⟨rfl, b⟩; replace HB := Lib.hid (below_then HB.out b); replace HX := Lib.hid (blk_later HX.out b); replace HY := Lib.hid (blk_later HY.out b); replace HZ := Lib.hid (blk_later HZ.out b); replace HA := Lib.hid (HA.out.later b); replace HC := Lib.hid (HC.out.later b); replace R2 := Lib.hid (R2.out.later b); clear b; clear rSn; have rSn := cells_2_2_2 HX.out HY.out HZ.out; clear rM17 rm17; have rM18 := True.intro))))
    go_wp2
    go_ret
    exact ⟨rfl, HB.out⟩
set_option maxRecDepth 4096 in
theorem law08_tells_out (S : WholeSaid) (na : Bool) (a : Option Addr) (n cap : Nat) (nb : Bool) (b : Option Addr) (m cap' : Nat) (w : World) (hT : Hid (Dec10 w)) (h1 : n ≤ 9223372036854775807) (h2 : m ≤ 9223372036854775807) (h : 60 < n ∨ 60 < m) :
    Calls Tryd.prog 3 #[whV na a n cap, whV nb b m cap'] w (Gives (.bool true) w) := by
  have hB : Below w.heap.size w ((w.alloc (.cells #[.bool na, .slice a n cap] 24)).alloc (.cells #[.bool nb, .slice b m cap'] 24)) := below_then (below_alloc _ _) (below_alloc _ _)
  unfold whV
  by_cases h3 : 60 < n
  · have hbi : (60 : Int) < (n : Int) := by omega
    clear h
    go_enter Tryd.func3, Tryd.ntmps3
    go_wp2_with fail
    refine (law08_works S _ (Lib.hid (hT.out.later hB))).mono ?_
    rintro e w1 ⟨rfl, b1⟩
    go_wp2
    go_ret
    exact ⟨rfl, below_then hB b1⟩
  · have hbi : ¬ (60 : Int) < (n : Int) := by omega
    have hbj : (60 : Int) < (m : Int) := by omega
    clear h
    go_enter Tryd.func3, Tryd.ntmps3
    go_wp2_with fail
    refine (law08_works S _ (Lib.hid (hT.out.later hB))).mono ?_
    rintro e w1 ⟨rfl, b1⟩
    go_wp2
    go_ret
    exact ⟨rfl, below_then hB b1⟩
theorem law08_tells (S : WholeSaid) (na : Bool) (a : Option Addr) (n cap : Nat) (la : List Nat) (nb : Bool) (b : Option Addr) (m cap' : Nat) (lb : List Nat) (w : World) (hT : Hid (Dec10 w)) (ha : Wd w a n cap la) (hb : Wd w b m cap' lb) :
    Calls Tryd.prog 3 #[whV na a n cap, whV nb b m cap'] w (Gives (.bool true) w) := by
  have p1 := ha.bound
  have p2 := hb.bound
  by_cases h : 60 < n ∨ 60 < m
  · exact law08_tells_out S na a n cap nb b m cap' w hT (by omega) (by omega) h
  · exact law08_tells_in S na a n cap la nb b m cap' lb w hT ha hb (by omega) (by omega) (fun v hv => law08_works S v (Lib.hid hv))
end Go.Proofs.YtiblojmdgjnfbaaDoor
