/-
  Several texts of this claim as one, group 11.
-/
import Derived.Test.YtipcgehcineblaaGreatG10
import Derived.Deep.RegionHeld3
import Derived.Test.YtipcgehcineblaaGreatG7
import Derived.Test.YtipcgehcineblaaGreatG9
import Derived.Test.YtipcgehcineblaaGreatG8
import Derived.Test.YtipcgehcineblaaGreatG5
/-
  The contract of the document's answer for layer 9: Add.
-/
namespace Go.Proofs.YtipcgehcineblaaGreat
open Go.RowKit

theorem cells_3_3_2 {w : World} {A0 A1 A2 : Nat} {c0_0 c0_1 c0_2 c1_0 c1_1 c1_2 c2_0 c2_1 : Value} {t0 t1 t2 : TypeId} (h0 : w.heap[A0]? = some (.cells #[c0_0, c0_1, c0_2] t0 (0, 0))) (h1 : w.heap[A1]? = some (.cells #[c1_0, c1_1, c1_2] t1 (0, 0))) (h2 : w.heap[A2]? = some (.cells #[c2_0, c2_1] t2 (0, 0))) : w.cell? ⟨A0, 0, none⟩ = some c0_0 ∧ w.cell? ⟨A0, 1, none⟩ = some c0_1 ∧ w.cell? ⟨A0, 2, none⟩ = some c0_2 ∧ w.cell? ⟨A1, 0, none⟩ = some c1_0 ∧ w.cell? ⟨A1, 1, none⟩ = some c1_1 ∧ w.cell? ⟨A1, 2, none⟩ = some c1_2 ∧ w.cell? ⟨A2, 0, none⟩ = some c2_0 ∧ w.cell? ⟨A2, 1, none⟩ = some c2_1 := ⟨blk_cell h0 0, blk_cell h0 1, blk_cell h0 2, blk_cell h1 0, blk_cell h1 1, blk_cell h1 2, blk_cell h2 0, blk_cell h2 1⟩
theorem cells_3_3_2_2_3 {w : World} {A0 A1 A2 A3 A4 : Nat} {c0_0 c0_1 c0_2 c1_0 c1_1 c1_2 c2_0 c2_1 c3_0 c3_1 c4_0 c4_1 c4_2 : Value} {t0 t1 t2 t3 t4 : TypeId} (h0 : w.heap[A0]? = some (.cells #[c0_0, c0_1, c0_2] t0 (0, 0))) (h1 : w.heap[A1]? = some (.cells #[c1_0, c1_1, c1_2] t1 (0, 0))) (h2 : w.heap[A2]? = some (.cells #[c2_0, c2_1] t2 (0, 0))) (h3 : w.heap[A3]? = some (.cells #[c3_0, c3_1] t3 (0, 0))) (h4 : w.heap[A4]? = some (.cells #[c4_0, c4_1, c4_2] t4 (0, 0))) : w.cell? ⟨A0, 0, none⟩ = some c0_0 ∧ w.cell? ⟨A0, 1, none⟩ = some c0_1 ∧ w.cell? ⟨A0, 2, none⟩ = some c0_2 ∧ w.cell? ⟨A1, 0, none⟩ = some c1_0 ∧ w.cell? ⟨A1, 1, none⟩ = some c1_1 ∧ w.cell? ⟨A1, 2, none⟩ = some c1_2 ∧ w.cell? ⟨A2, 0, none⟩ = some c2_0 ∧ w.cell? ⟨A2, 1, none⟩ = some c2_1 ∧ w.cell? ⟨A3, 0, none⟩ = some c3_0 ∧ w.cell? ⟨A3, 1, none⟩ = some c3_1 ∧ w.cell? ⟨A4, 0, none⟩ = some c4_0 ∧ w.cell? ⟨A4, 1, none⟩ = some c4_1 ∧ w.cell? ⟨A4, 2, none⟩ = some c4_2 := ⟨blk_cell h0 0, blk_cell h0 1, blk_cell h0 2, blk_cell h1 0, blk_cell h1 1, blk_cell h1 2, blk_cell h2 0, blk_cell h2 1, blk_cell h3 0, blk_cell h3 1, blk_cell h4 0, blk_cell h4 1, blk_cell h4 2⟩
theorem qval_add {na nb : Bool} {u v x y : Nat} (hv : v ≠ 0) (hy : y ≠ 0) (s : Int) (hs : s = zval na (u * y) + zval nb (x * v)) : qval (zneg s) s.natAbs (v * y) = qval na u v + qval nb x y := by
  unfold qval
  rw [zval_of, Rat.mkRat_add_mkRat _ _ hv hy, hs]
  congr 1
  unfold zval
  cases na <;> cases nb <;> simp [Int.neg_mul]
theorem later_lst {P : Program} {f : FuncId} {args : Array Value} {v0 v : World} {l : List Nat} (hv : Below v0.heap.size v0 v) (h : Calls P f args v (Lst l v)) :
    Calls P f args v (fun e w' => ∃ (a : Option Addr) (n cap : Nat), e = .returned (.slice a n cap) ∧ Wd w' a n cap l ∧ Below v0.heap.size v0 w' ∧ ∀ (g : Nat) (o : Obj), v.heap[g]? = some o → w'.heap[g]? = some o) :=
  h.mono fun _ _ ⟨a, n, c, he, h1, hb⟩ => ⟨a, n, c, he, h1, below_then hv hb, fun _ _ hg => blk_later hg hb⟩
theorem blk_far2 {w : World} {A g : Nat} {o : Obj} (h : w.heap[A]? = some o) (hne : A ≠ g) (u v : Value) : ((w.setCell ⟨g, 0, none⟩ u).setCell ⟨g, 1, none⟩ v).heap[A]? = some o := blk_apart (blk_apart h hne 0 u) hne 1 v
set_option maxRecDepth 4096 in
set_option maxHeartbeats 8000000 in
theorem ref09_add (na : Bool) (a : Option Addr) (n cap : Nat) (la : List Nat) (b : Option Addr) (m cap' : Nat) (lb : List Nat) (nb : Bool) (a' : Option Addr) (n' c' : Nat) (la' : List Nat) (b' : Option Addr) (m' d' : Nat) (lb' : List Nat) (w : World) (ha : Wd w a n cap la) (hb : Wd w b m cap' lb) (ha' : Wd w a' n' c' la') (hb' : Wd w b' m' d' lb') (hn : n ≤ 20971520000) (hm : m ≤ 20971520000) (hn' : n' ≤ 20971520000) (hm' : m' ≤ 20971520000) (hd : Hid (val lb ≠ 0)) (hd' : Hid (val lb' ≠ 0)) :
    Calls Tryz.prog 51 #[frV na a n cap b m cap', frV nb a' n' c' b' m' d'] w (LstQ (qval na (val la) (val lb) + qval nb (val la') (val lb')) w) := by
  have HB := Lib.hid (below_then (below_then (below_alloc w (.cells #[.bool na, .slice a n cap, .slice b m cap'] 25)) (below_alloc _ (.cells #[.bool nb, .slice a' n' c', .slice b' m' d'] 25))) (below_alloc _ (.cells #[.bool false, .slice none 0 0, .slice none 0 0] 25)))
  have HA := Lib.hid (ha.later HB.out)
  have HC := Lib.hid (hb.later HB.out)
  have HA' := Lib.hid (ha'.later HB.out)
  have HC' := Lib.hid (hb'.later HB.out)
  obtain ⟨hx1, hx2, hx3⟩ := boxes3_at9 w #[.bool na, .slice a n cap, .slice b m cap'] #[.bool nb, .slice a' n' c', .slice b' m' d'] #[.bool false, .slice none 0 0, .slice none 0 0] 25 25 25
  have HX := Lib.hid hx1
  have HY := Lib.hid hx2
  have HR := Lib.hid hx3
  have ha1 := ha.trim_le
  have hb1 := hb.trim_le
  have ha2 := ha'.trim_le
  have hb2 := hb'.trim_le
  have hW1 : w.heap.size + 1 + 1 < (((w.alloc (.cells #[.bool na, .slice a n cap, .slice b m cap'] 25)).alloc (.cells #[.bool nb, .slice a' n' c', .slice b' m' d'] 25)).alloc (.cells #[.bool false, .slice none 0 0, .slice none 0 0] 25)).heap.size := (Array.getElem?_eq_some_iff.1 hx3).1
  clear ha hb ha' hb' hx1 hx2 hx3
  have zl1 := dg_mul_length (val la) (val lb')
  have zl2 := dg_mul_length (val la') (val lb)
  have zl3 := dg_mul_length (val lb) (val lb')
  obtain ⟨u, hu⟩ : ∃ u, u = val la * val lb' := ⟨_, rfl⟩
  obtain ⟨v, hv⟩ : ∃ v, v = val la' * val lb := ⟨_, rfl⟩
  obtain ⟨s, hs⟩ : ∃ s, s = zval na u + zval nb v := ⟨_, rfl⟩
  have zl4 := zlen_add (zval na u) (zval nb v)
  rw [zval_abs, zval_abs, ← hs] at zl4
  have HU := Lib.hid hu
  have HV := Lib.hid hv
  have HS := Lib.hid hs
  rw [← hu] at zl1
  rw [← hv] at zl2
  have HQ : Hid (qval (zneg s) (val (dg s.natAbs)) (val (dg (val lb * val lb'))) = qval na (val la) (val lb) + qval nb (val la') (val lb')) := Lib.hid (by rw [val_dg, val_dg]; exact qval_add hd.out hd'.out s (by rw [hs, hu, hv]))
  clear hu hv hs
  go_enter Tryz.func51, Tryz.ntmps51
  unfold frV
  go_wp2
  generalize (((w.alloc (.cells #[.bool na, .slice a n cap, .slice b m cap'] 25)).alloc (.cells #[.bool nb, .slice a' n' c', .slice b' m' d'] 25)).alloc (.cells #[.bool false, .slice none 0 0, .slice none 0 0] 25)) = W at *
  go_cut [5] from 8 to 15 (fun pv wx => ∃ (g : Nat) (a1 : Option Addr) (n1 c1 : Nat), pv = .pointer (some ⟨g, 0, none⟩) ∧ n1 ≤ 52428800000 ∧ Hid (Wd wx a1 n1 c1 (dg u)) ∧ Hid (wx.heap[g]? = some (.cells #[.bool na, .slice a1 n1 c1] 95 (0, 0))) ∧ Hid (Below W.heap.size W wx))
  case first =>
    have HBd : Hid (Below W.heap.size W W.drew) := Lib.hid (Below.refl _ _).drew
    have pSn := cells_3_3 (blk_later HX.out HBd.out) (blk_later HY.out HBd.out)
    have pSa := fun o => cells_3_3 (blk_later HX.out (below_then HBd.out (below_alloc _ o))) (blk_later HY.out (below_then HBd.out (below_alloc _ o)))
    have hW2 : w.heap.size + 1 < W.heap.size := (Array.getElem?_eq_some_iff.1 HY.out).1
    go_region_held3 (fun w' => w'.cell? ⟨w.heap.size, 0, none⟩ = some (.bool na) ∧ w'.cell? ⟨w.heap.size, 1, none⟩ = some (.slice a n cap) ∧ w'.cell? ⟨w.heap.size, 2, none⟩ = some (.slice b m cap') ∧ w'.cell? ⟨w.heap.size + 1, 0, none⟩ = some (.bool nb) ∧ w'.cell? ⟨w.heap.size + 1, 1, none⟩ = some (.slice a' n' c') ∧ w'.cell? ⟨w.heap.size + 1, 2, none⟩ = some (.slice b' m' d')) (first | exact pSn | exact pSa _ | exact rSn | exact rSa _ | exact rSb _ _ _ (by omega) (by omega))
      (first
      | (go_at_call 86; refine (later_lst (v0 := W) ?q0 (ref04_mul a n cap la b' m' d' lb' _ (HA.out.later ?q1) (HC'.out.later ?q2) (by omega) (by omega))).mono ?_; (case q0 => first | exact HBd.out | exact below_then HBd.out (below_alloc _ _)); (case q1 => first | exact HBd.out | exact below_then HBd.out (below_alloc _ _)); (case q2 => first | exact HBd.out | exact below_then HBd.out (below_alloc _ _)); rintro e w2 ⟨a2, n2, c2, rfl, h2, hb2, k2⟩; rw [← HU.out] at h2; have R2 := Lib.hid h2; have hn2 : n2 ≤ 52428800000 := (by have := h2.len; omega); have HB2 := Lib.hid hb2; have hW3 := hb2.size; (first | (have HN2 := Lib.hid (k2 _ _ (blk_new _ _ _))) | skip); (try (have r0 := blk_cell HN2.out 0; have r1 := blk_cell HN2.out 1; have f0 := blk_free HN2.out 0; have f1 := blk_free HN2.out 1; simp only [List.getElem?_toArray, List.getElem?_cons_zero, List.getElem?_cons_succ] at r0 r1)); have rSn := cells_3_3 (blk_later HX.out hb2) (blk_later HY.out hb2); have rSa := fun o => cells_3_3 (blk_later HX.out (below_then hb2 (below_alloc _ o))) (blk_later HY.out (below_then hb2 (below_alloc _ o))); have rSb := fun g u v hg1 hg2 => cells_3_3 (blk_far2 (g := g) (blk_later HX.out hb2) hg1 u v) (blk_far2 (g := g) (blk_later HY.out hb2) hg2 u v); clear h2 hb2 pSn pSa k2))
    all_goals (
      go_wp2
      go_meet
      first
      | exact ⟨_, a2, n2, c2, rfl, hn2, Lib.hid (R2.out.later (below_alloc _ _)), Lib.hid (blk_new _ _ _), Lib.hid (below_then HB2.out (below_alloc _ _))⟩
      | exact ⟨_, a2, n2, c2, rfl, hn2, Lib.hid (R2.out.stored2 HN2.out _ _), Lib.hid (blk_set2 HN2.out _ _), Lib.hid (below_set2 HB2.out (by omega) _ _)⟩)
  case rest =>
    obtain ⟨g1, a1, n1, c1, rfl, hn1, R1, HP1, HBc⟩ := hcut
    replace HX := Lib.hid (blk_later HX.out HBc.out)
    replace HY := Lib.hid (blk_later HY.out HBc.out)
    replace HR := Lib.hid (blk_later HR.out HBc.out)
    replace HA := Lib.hid (HA.out.later HBc.out)
    replace HC := Lib.hid (HC.out.later HBc.out)
    replace HA' := Lib.hid (HA'.out.later HBc.out)
    replace HC' := Lib.hid (HC'.out.later HBc.out)
    replace HB := Lib.hid (below_then HB.out HBc.out)
    clear HBc
    obtain ⟨V, rfl⟩ : ∃ V, V = wc := ⟨_, rfl⟩
    go_wp2
    go_cut [6] from 16 to 23 (fun pv wx => ∃ (g : Nat) (a1 : Option Addr) (n1 c1 : Nat), pv = .pointer (some ⟨g, 0, none⟩) ∧ n1 ≤ 52428800000 ∧ Hid (Wd wx a1 n1 c1 (dg v)) ∧ Hid (wx.heap[g]? = some (.cells #[.bool nb, .slice a1 n1 c1] 95 (0, 0))) ∧ Hid (Below V.heap.size V wx))
    case first =>
      have HBd : Hid (Below V.heap.size V V.drew) := Lib.hid (Below.refl _ _).drew
      have pSn := cells_3_3 (blk_later HX.out HBd.out) (blk_later HY.out HBd.out)
      have pSa := fun o => cells_3_3 (blk_later HX.out (below_then HBd.out (below_alloc _ o))) (blk_later HY.out (below_then HBd.out (below_alloc _ o)))
      have hW2 : w.heap.size + 1 < V.heap.size := (Array.getElem?_eq_some_iff.1 HY.out).1
      go_region_held3 (fun w' => w'.cell? ⟨w.heap.size, 0, none⟩ = some (.bool na) ∧ w'.cell? ⟨w.heap.size, 1, none⟩ = some (.slice a n cap) ∧ w'.cell? ⟨w.heap.size, 2, none⟩ = some (.slice b m cap') ∧ w'.cell? ⟨w.heap.size + 1, 0, none⟩ = some (.bool nb) ∧ w'.cell? ⟨w.heap.size + 1, 1, none⟩ = some (.slice a' n' c') ∧ w'.cell? ⟨w.heap.size + 1, 2, none⟩ = some (.slice b' m' d')) (first | exact pSn | exact pSa _ | exact rSn | exact rSa _ | exact rSb _ _ _ (by omega) (by omega))
        (first
        | (go_at_call 86; refine (later_lst (v0 := V) ?q0 (ref04_mul a' n' c' la' b m cap' lb _ (HA'.out.later ?q1) (HC.out.later ?q2) (by omega) (by omega))).mono ?_; (case q0 => first | exact HBd.out | exact below_then HBd.out (below_alloc _ _)); (case q1 => first | exact HBd.out | exact below_then HBd.out (below_alloc _ _)); (case q2 => first | exact HBd.out | exact below_then HBd.out (below_alloc _ _)); rintro e w2 ⟨a2, n2, c2, rfl, h2, hb2, k2⟩; rw [← HV.out] at h2; have R2 := Lib.hid h2; have hn2 : n2 ≤ 52428800000 := (by have := h2.len; omega); have HB2 := Lib.hid hb2; have hW3 := hb2.size; (first | (have HN2 := Lib.hid (k2 _ _ (blk_new _ _ _))) | skip); (try (have r0 := blk_cell HN2.out 0; have r1 := blk_cell HN2.out 1; have f0 := blk_free HN2.out 0; have f1 := blk_free HN2.out 1; simp only [List.getElem?_toArray, List.getElem?_cons_zero, List.getElem?_cons_succ] at r0 r1)); have rSn := cells_3_3 (blk_later HX.out hb2) (blk_later HY.out hb2); have rSa := fun o => cells_3_3 (blk_later HX.out (below_then hb2 (below_alloc _ o))) (blk_later HY.out (below_then hb2 (below_alloc _ o))); have rSb := fun g u v hg1 hg2 => cells_3_3 (blk_far2 (g := g) (blk_later HX.out hb2) hg1 u v) (blk_far2 (g := g) (blk_later HY.out hb2) hg2 u v); clear h2 hb2 pSn pSa k2))
      all_goals (
        go_wp2
        go_meet
        first
        | exact ⟨_, a2, n2, c2, rfl, hn2, Lib.hid (R2.out.later (below_alloc _ _)), Lib.hid (blk_new _ _ _), Lib.hid (below_then HB2.out (below_alloc _ _))⟩
        | exact ⟨_, a2, n2, c2, rfl, hn2, Lib.hid (R2.out.stored2 HN2.out _ _), Lib.hid (blk_set2 HN2.out _ _), Lib.hid (below_set2 HB2.out (by omega) _ _)⟩)
    case rest =>
      obtain ⟨g2, a2, n2, c2, rfl, hn2, R2, HP2, HBc⟩ := hcut
      replace HX := Lib.hid (blk_later HX.out HBc.out)
      replace HY := Lib.hid (blk_later HY.out HBc.out)
      replace HR := Lib.hid (blk_later HR.out HBc.out)
      replace HP1 := Lib.hid (blk_later HP1.out HBc.out)
      replace HA := Lib.hid (HA.out.later HBc.out)
      replace HC := Lib.hid (HC.out.later HBc.out)
      replace HA' := Lib.hid (HA'.out.later HBc.out)
      replace HC' := Lib.hid (HC'.out.later HBc.out)
      replace R1 := Lib.hid (R1.out.later HBc.out)
      replace HB := Lib.hid (below_then HB.out HBc.out)
      clear HBc
      have HVu : Hid (val (dg u) = u) := Lib.hid (val_dg _)
      have HVv : Hid (val (dg v) = v) := Lib.hid (val_dg _)
      clear HA HA'
      obtain ⟨vk0, vk1, vk2, vk3, vk4, vk5, vk6, vk7, vk8, vk9, vk10, vk11, vk12⟩ := cells_3_3_2_2_3 HX.out HY.out HP1.out HP2.out HR.out
      go_wp2_with fail
      refine (ref08_add_z na a1 n1 c1 _ (zval na u) nb a2 n2 c2 _ (zval nb v) _ R1.out R2.out (by omega) (by omega) (by rw [HVu.out]) (by rw [HVv.out])).mono ?_
      rintro e wv1 ⟨a3, n3, c3, rfl, h3, b⟩
      clear vk0 vk1 vk2 vk3 vk4 vk5 vk6 vk7 vk8 vk9 vk10 vk11 vk12
      replace HB := Lib.hid (below_then HB.out b)
      replace HX := Lib.hid (blk_later HX.out b)
      replace HY := Lib.hid (blk_later HY.out b)
      replace HP1 := Lib.hid (blk_later HP1.out b)
      replace HP2 := Lib.hid (blk_later HP2.out b)
      replace HR := Lib.hid (blk_later HR.out b)
      clear R1
      clear R2
      replace HC := Lib.hid (HC.out.later b)
      replace HC' := Lib.hid (HC'.out.later b)
      clear b
      rw [← HS.out] at h3 ⊢
      have hn3 : n3 ≤ 94371840000 := by have := h3.len; omega
      have R3 := Lib.hid h3
      clear h3
      have hW9 : w.heap.size + 1 + 1 < wv1.heap.size := (Array.getElem?_eq_some_iff.1 HR.out).1
      unfold whV
      have HP3 : Hid ((World.alloc wv1 (.cells #[.bool (zneg s), .slice a3 n3 c3] 95)).heap[wv1.heap.size]? = some (.cells #[.bool (zneg s), .slice a3 n3 c3] 95 (0, 0))) := Lib.hid (blk_new wv1 _ _)
      replace HB := Lib.hid (below_then HB.out (below_alloc wv1 (.cells #[.bool (zneg s), .slice a3 n3 c3] 95)))
      replace HX := Lib.hid (blk_later HX.out (below_alloc wv1 (.cells #[.bool (zneg s), .slice a3 n3 c3] 95)))
      replace HY := Lib.hid (blk_later HY.out (below_alloc wv1 (.cells #[.bool (zneg s), .slice a3 n3 c3] 95)))
      replace HP1 := Lib.hid (blk_later HP1.out (below_alloc wv1 (.cells #[.bool (zneg s), .slice a3 n3 c3] 95)))
      replace HP2 := Lib.hid (blk_later HP2.out (below_alloc wv1 (.cells #[.bool (zneg s), .slice a3 n3 c3] 95)))
      replace HR := Lib.hid (blk_later HR.out (below_alloc wv1 (.cells #[.bool (zneg s), .slice a3 n3 c3] 95)))
      replace HC := Lib.hid (HC.out.later (below_alloc wv1 (.cells #[.bool (zneg s), .slice a3 n3 c3] 95)))
      replace HC' := Lib.hid (HC'.out.later (below_alloc wv1 (.cells #[.bool (zneg s), .slice a3 n3 c3] 95)))
      replace R3 := Lib.hid (R3.out.later (below_alloc wv1 (.cells #[.bool (zneg s), .slice a3 n3 c3] 95)))
      obtain ⟨vk0, vk1, vk2, vk3, vk4, vk5, vk6, vk7⟩ := cells_3_3_2 HX.out HY.out HP3.out
      go_wp2
      clear vk0 vk1 vk2 vk3 vk4 vk5 vk6 vk7
      generalize (wv1.alloc (.cells #[.bool (zneg s), .slice a3 n3 c3] 95)) = Z at *
      replace HB := Lib.hid (below_then HB.out ((Below.refl _ _).drew : Below Z.heap.size Z Z.drew))
      replace HX : Hid (Z.drew.heap[w.heap.size]? = _) := Lib.hid HX.out
      replace HY : Hid (Z.drew.heap[w.heap.size + 1]? = _) := Lib.hid HY.out
      replace HP3 : Hid (Z.drew.heap[wv1.heap.size]? = _) := Lib.hid HP3.out
      replace HR : Hid (Z.drew.heap[w.heap.size + 1 + 1]? = some (.cells #[.bool false, .slice none 0 0, .slice none 0 0] 25 (0, 0))) := Lib.hid HR.out
      replace HC := Lib.hid (HC.out.later ((Below.refl _ _).drew : Below Z.heap.size Z Z.drew))
      replace HC' := Lib.hid (HC'.out.later ((Below.refl _ _).drew : Below Z.heap.size Z Z.drew))
      replace R3 := Lib.hid (R3.out.later ((Below.refl _ _).drew : Below Z.heap.size Z Z.drew))
      have pSn := cells_3_3_2 HX.out HY.out HP3.out
      go_region_held3 (fun w' => w'.cell? ⟨w.heap.size, 0, none⟩ = some (.bool na) ∧ w'.cell? ⟨w.heap.size, 1, none⟩ = some (.slice a n cap) ∧ w'.cell? ⟨w.heap.size, 2, none⟩ = some (.slice b m cap') ∧ w'.cell? ⟨w.heap.size + 1, 0, none⟩ = some (.bool nb) ∧ w'.cell? ⟨w.heap.size + 1, 1, none⟩ = some (.slice a' n' c') ∧ w'.cell? ⟨w.heap.size + 1, 2, none⟩ = some (.slice b' m' d') ∧ w'.cell? ⟨wv1.heap.size, 0, none⟩ = some (.bool (zneg s)) ∧ w'.cell? ⟨wv1.heap.size, 1, none⟩ = some (.slice a3 n3 c3)) (first | exact pSn | exact pSb _ _ _)
        (first
        | (go_at_call 86; (first
          | (refine (ref04_mul b m cap' lb b' m' d' lb' _ HC.out HC'.out (by omega) (by omega)).mono ?_; rintro e wp1 ⟨a4, n4, c4, rfl, h4, b⟩; replace HB := Lib.hid (below_then HB.out b); replace HX := Lib.hid (blk_later HX.out b); replace HY := Lib.hid (blk_later HY.out b); replace HP3 := Lib.hid (blk_later HP3.out b); replace HR := Lib.hid (blk_later HR.out b); replace HC := Lib.hid (HC.out.later b); replace HC' := Lib.hid (HC'.out.later b); replace R3 := Lib.hid (R3.out.later b); have R4 := Lib.hid h4; have hn4 : n4 ≤ 94371840000 := (by have := h4.len; omega); clear h4; clear b; clear pSn; have pSn := cells_3_3_2 HX.out HY.out HP3.out; have pM1 := True.intro)))
        | (go_at_call 10; (first
          | (have pm1 := pM1; refine (ref09_norm _ a3 n3 c3 _ a4 n4 c4 _ _ R3.out R4.out (by omega) (by omega)).mono ?_; rintro e wp2 ⟨a5, n5, c5, a6, n6, c6, rfl, h5, h6, b⟩; replace HB := Lib.hid (below_then HB.out b); replace HX := Lib.hid (blk_later HX.out b); replace HY := Lib.hid (blk_later HY.out b); replace HP3 := Lib.hid (blk_later HP3.out b); replace HR := Lib.hid (blk_later HR.out b); replace HC := Lib.hid (HC.out.later b); replace HC' := Lib.hid (HC'.out.later b); replace R3 := Lib.hid (R3.out.later b); clear R4; have R5 := Lib.hid h5; have R6 := Lib.hid h6; clear h5 h6; obtain ⟨r0, r1, r2⟩ := cells_3 HR.out; have f0 := blk_free HR.out 0; have f1 := blk_free HR.out 1; have f2 := blk_free HR.out 2; have pSb := fun u v q => cells_3_3_2 (blk_far3 (g := w.heap.size + 1 + 1) HX.out (by omega) u v q) (blk_far3 (g := w.heap.size + 1 + 1) HY.out (by omega) u v q) (blk_far3 (g := w.heap.size + 1 + 1) HP3.out (by omega) u v q); unfold frV; clear b; clear pSn; have pSn := cells_3_3_2 HX.out HY.out HP3.out; clear pM1 pm1; have pM2 := True.intro))))
      rw [HQ.out] at R5 R6
      rw [HQ.out]
      generalize qval na (val la) (val lb) + qval nb (val la') (val lb') = q at *
      have HG := Lib.hid (blk_set3 HR.out (.bool (zneg q.num)) (.slice a5 n5 c5) (.slice a6 n6 c6))
      have HL := Lib.hid (below_set3 HB.out (show w.heap.size ≤ w.heap.size + 1 + 1 by omega) (.bool (zneg q.num)) (.slice a5 n5 c5) (.slice a6 n6 c6))
      have HW1 := Lib.hid (R5.out.stored3 HR.out (zneg q.num) a5 n5 c5 (.slice a6 n6 c6))
      have HW2 := Lib.hid (R6.out.stored3 HR.out (zneg q.num) a5 n5 c5 (.slice a6 n6 c6))
      go_wp2
      refine bodyPost_ret (results_cell_row Tryz.results51 _ _ (w.heap.size + 1 + 1) 25 #[.bool (zneg q.num), .slice a5 n5 c5, .slice a6 n6 c6] (0, 0) _ rfl HG.out Tryz.underlying25 rfl (by kernel_rfl)) rfl ?_
      exact ⟨_, _, _, _, _, _, rfl, HW1.out, HW2.out, HL.out⟩
end Go.Proofs.YtipcgehcineblaaGreat

/-
  The contracts of the document's answer for layer 9: Sub, Sign, Cmp.
-/
namespace Go.Proofs.YtipcgehcineblaaGreat
open Go.RowKit

theorem qval_len (neg : Bool) (u v : Nat) : (dg (qval neg u v).num.natAbs).length ≤ (dg u).length ∧ (dg (qval neg u v).den).length ≤ (dg v).length + 1 := by
  by_cases hv : v = 0
  · rw [qval_none neg (.inl hv), show ((0 : Rat).num).natAbs = 0 from rfl, show (0 : Rat).den = 1 from rfl, dg_zero]
    have h1 : (dg 1).length ≤ 1 := dg_length_le (by decide)
    exact ⟨by simp, by omega⟩
  · obtain ⟨h1, h2⟩ := qval_parts neg (u := u) hv
    rw [h1, h2, zval_abs]
    exact ⟨dg_length_mono (Nat.div_le_self _ _), Nat.le_trans (dg_length_mono (Nat.div_le_self _ _)) (by omega)⟩
theorem den_nz (q : Rat) : val (dg q.den) ≠ 0 := by rw [val_dg]; exact q.den_nz
end Go.Proofs.YtipcgehcineblaaGreat

/-
  The contracts of the document's answer for layer 9: Cmp, Abs.
-/
namespace Go.Proofs.YtipcgehcineblaaGreat
open Go.RowKit

end Go.Proofs.YtipcgehcineblaaGreat

/-
  The contract of the document's answer for layer 9: Int.
-/
namespace Go.Proofs.YtipcgehcineblaaGreat
open Go.RowKit

theorem cells_3_1 {w : World} {A0 A1 : Nat} {c0_0 c0_1 c0_2 c1_0 : Value} {t0 t1 : TypeId} (h0 : w.heap[A0]? = some (.cells #[c0_0, c0_1, c0_2] t0 (0, 0))) (h1 : w.heap[A1]? = some (.cells #[c1_0] t1 (0, 0))) : w.cell? ⟨A0, 0, none⟩ = some c0_0 ∧ w.cell? ⟨A0, 1, none⟩ = some c0_1 ∧ w.cell? ⟨A0, 2, none⟩ = some c0_2 ∧ w.cell? ⟨A1, 0, none⟩ = some c1_0 := ⟨blk_cell h0 0, blk_cell h0 1, blk_cell h0 2, blk_cell h1 0⟩
theorem cells_3_1_1 {w : World} {A0 A1 A2 : Nat} {c0_0 c0_1 c0_2 c1_0 c2_0 : Value} {t0 t1 t2 : TypeId} (h0 : w.heap[A0]? = some (.cells #[c0_0, c0_1, c0_2] t0 (0, 0))) (h1 : w.heap[A1]? = some (.cells #[c1_0] t1 (0, 0))) (h2 : w.heap[A2]? = some (.cells #[c2_0] t2 (0, 0))) : w.cell? ⟨A0, 0, none⟩ = some c0_0 ∧ w.cell? ⟨A0, 1, none⟩ = some c0_1 ∧ w.cell? ⟨A0, 2, none⟩ = some c0_2 ∧ w.cell? ⟨A1, 0, none⟩ = some c1_0 ∧ w.cell? ⟨A2, 0, none⟩ = some c2_0 := ⟨blk_cell h0 0, blk_cell h0 1, blk_cell h0 2, blk_cell h1 0, blk_cell h2 0⟩
theorem qval_int {z : Int} {u : Nat} {neg : Bool} (h : zval neg u = z) : qval neg u 1 = (z : Rat) := by
  unfold qval
  rw [h, Rat.mkRat_one]
set_option maxRecDepth 4096 in
set_option maxHeartbeats 4000000 in
theorem ref09_int (z : Int) (w : World) (hz : isInt z) : Calls Tryz.prog 50 #[.int .i64 z] w (LstQ (z : Rat) w) := by
  have hz1 : -9223372036854775808 ≤ z ∧ z ≤ 9223372036854775807 := hz
  have HB := Lib.hid (below_alloc w (.cells #[.bool false, .slice none 0 0, .slice none 0 0] 25))
  have HR : Hid ((w.alloc (.cells #[.bool false, .slice none 0 0, .slice none 0 0] 25)).heap[w.heap.size]? = some (.cells #[.bool false, .slice none 0 0, .slice none 0 0] 25 (0, 0))) := Lib.hid (blk_new w _ _)
  have H1 : Hid (val [1] = 1) := rfl
  clear hz
  by_cases hneg : z < 0
  · obtain ⟨k, hk⟩ : ∃ k : Nat, -(z + 1) = (k : Int) := ⟨(-(z + 1)).toNat, by omega⟩
    have hkb : k ≤ 9223372036854775807 := by omega
    have HQ : Hid (qval true (val (dg (val (dg k) + val [1]))) (val [1]) = (z : Rat)) := Lib.hid (by rw [H1.out, val_dg, val_dg]; exact qval_int (by rw [zval_true]; omega))
    have hl1 : (dg k).length ≤ 2 := dg_length_le (Nat.lt_of_le_of_lt hkb (by decide))
    have hl2 : (dg (val (dg k) + val [1])).length ≤ 4 := by have := dg_add_length (val (dg k)) 1; rw [H1.out]; rw [val_dg] at this ⊢; have h3 : (dg 1).length ≤ 1 := dg_length_le (by decide); omega
    go_enter Tryz.func50, Tryz.ntmps50
    obtain ⟨vk0, vk1, vk2⟩ := cells_3 HR.out
    go_wp2_with fail
    refine (ref02_of k _ (by omega)).mono ?_
    rintro e wv1 ⟨a1, n1, c1, rfl, h1, b⟩
    clear vk0 vk1 vk2
    replace HB := Lib.hid (below_then HB.out b)
    replace HR := Lib.hid (blk_later HR.out b)
    clear b
    have hn1 := h1.len
    have R1 := Lib.hid h1
    clear h1
    have HO1 : Hid ((World.alloc wv1 (.cells #[.int .u32 1] 58)).heap[wv1.heap.size]? = some (.cells #[.int .u32 1] 58 (0, 0))) := Lib.hid (blk_new wv1 _ _)
    replace HB := Lib.hid (below_then HB.out (below_alloc wv1 (.cells #[.int .u32 1] 58)))
    replace HR := Lib.hid (blk_later HR.out (below_alloc wv1 (.cells #[.int .u32 1] 58)))
    replace R1 := Lib.hid (R1.out.later (below_alloc wv1 (.cells #[.int .u32 1] 58)))
    obtain ⟨vk0, vk1, vk2, vk3⟩ := cells_3_1 HR.out HO1.out
    go_wp2_with fail
    refine (ref02_add a1 n1 c1 _ _ 1 1 [1] _ R1.out (Wd.lit1 wv1 58 (x := 1) (by omega)) (by omega) (by omega)).mono ?_
    rintro e wv2 ⟨a2, n2, c2, rfl, h2, b⟩
    clear vk0 vk1 vk2 vk3
    replace HB := Lib.hid (below_then HB.out b)
    replace HR := Lib.hid (blk_later HR.out b)
    replace HO1 := Lib.hid (blk_later HO1.out b)
    clear R1
    clear b
    have hn2 := h2.len
    have R2 := Lib.hid h2
    clear h2
    have HO2 : Hid ((World.alloc wv2 (.cells #[.int .u32 1] 58)).heap[wv2.heap.size]? = some (.cells #[.int .u32 1] 58 (0, 0))) := Lib.hid (blk_new wv2 _ _)
    replace HB := Lib.hid (below_then HB.out (below_alloc wv2 (.cells #[.int .u32 1] 58)))
    replace HR := Lib.hid (blk_later HR.out (below_alloc wv2 (.cells #[.int .u32 1] 58)))
    replace HO1 := Lib.hid (blk_later HO1.out (below_alloc wv2 (.cells #[.int .u32 1] 58)))
    replace R2 := Lib.hid (R2.out.later (below_alloc wv2 (.cells #[.int .u32 1] 58)))
    obtain ⟨vk0, vk1, vk2, vk3, vk4⟩ := cells_3_1_1 HR.out HO1.out HO2.out
    go_wp2_with fail
    refine (ref09_norm true a2 n2 c2 _ _ 1 1 [1] _ R2.out (Wd.lit1 wv2 58 (x := 1) (by omega)) (by omega) (by omega)).mono ?_
    rintro e wv3 ⟨a3, n3, c3, b3x, m3x, d3x, rfl, h8, h9, b⟩
    clear vk0 vk1 vk2 vk3 vk4
    replace HB := Lib.hid (below_then HB.out b)
    replace HR := Lib.hid (blk_later HR.out b)
    replace HO1 := Lib.hid (blk_later HO1.out b)
    replace HO2 := Lib.hid (blk_later HO2.out b)
    clear R2
    clear b
    rw [HQ.out] at h8 h9 ⊢
    have R8 := Lib.hid h8
    have R9 := Lib.hid h9
    clear h8 h9 HQ hl2 hn1 hn2
    unfold frV
    have HG := Lib.hid (blk_set3 HR.out (.bool (zneg (z : Rat).num)) (.slice a3 n3 c3) (.slice b3x m3x d3x))
    have HL := Lib.hid (below_set3 HB.out (Nat.le_refl w.heap.size) (.bool (zneg (z : Rat).num)) (.slice a3 n3 c3) (.slice b3x m3x d3x))
    have HW1 := Lib.hid (R8.out.stored3 HR.out (zneg (z : Rat).num) a3 n3 c3 (.slice b3x m3x d3x))
    have HW2 := Lib.hid (R9.out.stored3 HR.out (zneg (z : Rat).num) a3 n3 c3 (.slice b3x m3x d3x))
    obtain ⟨k0, k1, k2⟩ := cells_3 HR.out
    have f0 := blk_free HR.out 0
    have f1 := blk_free HR.out 1
    have f2 := blk_free HR.out 2
    generalize (z : Rat) = q at *
    go_wp2
    refine bodyPost_ret (results_cell_row Tryz.results50 _ _ w.heap.size 25 #[.bool (zneg q.num), .slice a3 n3 c3, .slice b3x m3x d3x] (0, 0) _ rfl HG.out Tryz.underlying25 rfl (by kernel_rfl)) rfl ?_
    exact ⟨_, _, _, _, _, _, rfl, HW1.out, HW2.out, HL.out⟩
  · obtain ⟨k, hk⟩ : ∃ k : Nat, z = (k : Int) := ⟨z.toNat, by omega⟩
    have hkb : k ≤ 9223372036854775807 := by omega
    have HQ : Hid (qval false (val (dg k)) (val [1]) = (z : Rat)) := Lib.hid (by rw [H1.out, val_dg]; exact qval_int (by rw [zval_false]; omega))
    have hl1 : (dg k).length ≤ 2 := dg_length_le (Nat.lt_of_le_of_lt hkb (by decide))
    have hw : (k : Int) % 18446744073709551616 = (k : Int) := by omega
    go_enter Tryz.func50, Tryz.ntmps50
    obtain ⟨vk0, vk1, vk2⟩ := cells_3 HR.out
    go_wp2_with fail
    refine (ref02_of k _ (by omega)).mono ?_
    rintro e wv1 ⟨a1, n1, c1, rfl, h1, b⟩
    clear vk0 vk1 vk2
    replace HB := Lib.hid (below_then HB.out b)
    replace HR := Lib.hid (blk_later HR.out b)
    clear b
    have hn1 := h1.len
    have R1 := Lib.hid h1
    clear h1
    have HO1 : Hid ((World.alloc wv1 (.cells #[.int .u32 1] 58)).heap[wv1.heap.size]? = some (.cells #[.int .u32 1] 58 (0, 0))) := Lib.hid (blk_new wv1 _ _)
    replace HB := Lib.hid (below_then HB.out (below_alloc wv1 (.cells #[.int .u32 1] 58)))
    replace HR := Lib.hid (blk_later HR.out (below_alloc wv1 (.cells #[.int .u32 1] 58)))
    replace R1 := Lib.hid (R1.out.later (below_alloc wv1 (.cells #[.int .u32 1] 58)))
    obtain ⟨vk0, vk1, vk2, vk3⟩ := cells_3_1 HR.out HO1.out
    go_wp2_with fail
    refine (ref09_norm false a1 n1 c1 _ _ 1 1 [1] _ R1.out (Wd.lit1 wv1 58 (x := 1) (by omega)) (by omega) (by omega)).mono ?_
    rintro e wv2 ⟨a3, n3, c3, b3x, m3x, d3x, rfl, h8, h9, b⟩
    clear vk0 vk1 vk2 vk3
    replace HB := Lib.hid (below_then HB.out b)
    replace HR := Lib.hid (blk_later HR.out b)
    replace HO1 := Lib.hid (blk_later HO1.out b)
    clear R1
    clear b
    rw [HQ.out] at h8 h9 ⊢
    have R8 := Lib.hid h8
    have R9 := Lib.hid h9
    clear h8 h9 HQ hn1
    unfold frV
    have HG := Lib.hid (blk_set3 HR.out (.bool (zneg (z : Rat).num)) (.slice a3 n3 c3) (.slice b3x m3x d3x))
    have HL := Lib.hid (below_set3 HB.out (Nat.le_refl w.heap.size) (.bool (zneg (z : Rat).num)) (.slice a3 n3 c3) (.slice b3x m3x d3x))
    have HW1 := Lib.hid (R8.out.stored3 HR.out (zneg (z : Rat).num) a3 n3 c3 (.slice b3x m3x d3x))
    have HW2 := Lib.hid (R9.out.stored3 HR.out (zneg (z : Rat).num) a3 n3 c3 (.slice b3x m3x d3x))
    obtain ⟨k0, k1, k2⟩ := cells_3 HR.out
    have f0 := blk_free HR.out 0
    have f1 := blk_free HR.out 1
    have f2 := blk_free HR.out 2
    generalize (z : Rat) = q at *
    go_wp2
    refine bodyPost_ret (results_cell_row Tryz.results50 _ _ w.heap.size 25 #[.bool (zneg q.num), .slice a3 n3 c3, .slice b3x m3x d3x] (0, 0) _ rfl HG.out Tryz.underlying25 rfl (by kernel_rfl)) rfl ?_
    exact ⟨_, _, _, _, _, _, rfl, HW1.out, HW2.out, HL.out⟩
end Go.Proofs.YtipcgehcineblaaGreat

/-
  The contracts of the document's answer for layer 9: Size, Long.
-/
namespace Go.Proofs.YtipcgehcineblaaGreat
open Go.RowKit

set_option maxRecDepth 4096 in
theorem ref09_long (neg : Bool) (a : Option Addr) (n cap : Nat) (b : Option Addr) (m cap' : Nat) (k : Int) (w : World) :
    Calls Tryz.prog 6 #[frV neg a n cap b m cap', .int .i64 k] w (Gives (.bool (decide (k < (n : Int)) || decide (k < (m : Int)))) w) := by
  unfold frV
  go_enter Tryz.func6, Tryz.ntmps6
  by_cases h : k < (n : Int)
  · rw [decide_eq_true h, Bool.true_or]
    go_wp2
    go_ret
    exact ⟨rfl, below_alloc _ _⟩
  · rw [decide_eq_false h, Bool.false_or]
    go_wp2
    go_ret
    exact ⟨rfl, below_alloc _ _⟩
end Go.Proofs.YtipcgehcineblaaGreat

/-
  The contracts of the document's answer for layer 9: Pow.
-/
namespace Go.Proofs.YtipcgehcineblaaGreat
open Go.RowKit

theorem isInt_nought : isInt 0 := by unfold isInt; omega
theorem isInt_one : isInt 1 := by unfold isInt; omega
end Go.Proofs.YtipcgehcineblaaGreat

/-
  Package frac at this seat: turned, under, times, Of.
-/
namespace Go.Proofs.YtipcgehcineblaaGreat
open Go.RowKit

set_option maxRecDepth 4096 in
set_option maxHeartbeats 4000000 in
theorem frac_turned (neg : Bool) (a : Option Addr) (n cap : Nat) (b : Option Addr) (m cap' : Nat) (w : World) :
    Calls Tryz.prog 112 #[frV neg a n cap b m cap'] w (Gives (frV (!neg) a n cap b m cap') w) := by
  have HG : Hid (((w.alloc (.cells #[.bool (!neg), .slice a n cap, .slice b m cap'] 36)).alloc (.cells #[.bool (!neg), .slice a n cap, .slice b m cap'] 36)).heap[w.heap.size + 1]? = some (.cells #[.bool (!neg), .slice a n cap, .slice b m cap'] 36 (0, 0))) := Lib.hid (boxes_at w ((w.alloc (.cells #[.bool (!neg), .slice a n cap, .slice b m cap'] 36)).alloc (.cells #[.bool (!neg), .slice a n cap, .slice b m cap'] 36)) _ _ _ _ (Below.refl _ _)).2
  have HB := Lib.hid (below_then (below_alloc w (.cells #[.bool (!neg), .slice a n cap, .slice b m cap'] 36)) (below_alloc _ (.cells #[.bool (!neg), .slice a n cap, .slice b m cap'] 36)))
  go_enter Tryz.func112, Tryz.ntmps112
  unfold frV
  go_wp2
  refine bodyPost_ret (results_cell_row Tryz.results112 _ _ (w.heap.size + 1) 36 #[.bool (!neg), .slice a n cap, .slice b m cap'] (0, 0) _ rfl HG.out Tryz.underlying36 rfl (by kernel_rfl)) rfl ?_
  exact ⟨rfl, HB.out⟩
set_option maxRecDepth 4096 in
set_option maxHeartbeats 4000000 in
theorem frac_under (neg : Bool) (a : Option Addr) (n cap : Nat) (b : Option Addr) (m cap' : Nat) (w : World) :
    Calls Tryz.prog 92 #[frV neg a n cap b m cap'] w (Gives (frV neg b m cap' a n cap) w) := by
  have HG : Hid (((w.alloc (.cells #[.bool neg, .slice a n cap, .slice b m cap'] 36)).alloc (.cells #[.bool neg, .slice b m cap', .slice a n cap] 36)).heap[w.heap.size + 1]? = some (.cells #[.bool neg, .slice b m cap', .slice a n cap] 36 (0, 0))) := Lib.hid (boxes_at w ((w.alloc (.cells #[.bool neg, .slice a n cap, .slice b m cap'] 36)).alloc (.cells #[.bool neg, .slice b m cap', .slice a n cap] 36)) _ _ _ _ (Below.refl _ _)).2
  have HB := Lib.hid (below_then (below_alloc w (.cells #[.bool neg, .slice a n cap, .slice b m cap'] 36)) (below_alloc _ (.cells #[.bool neg, .slice b m cap', .slice a n cap] 36)))
  go_enter Tryz.func92, Tryz.ntmps92
  unfold frV
  go_wp2
  refine bodyPost_ret (results_cell_row Tryz.results92 _ _ (w.heap.size + 1) 36 #[.bool neg, .slice b m cap', .slice a n cap] (0, 0) _ rfl HG.out Tryz.underlying36 rfl (by kernel_rfl)) rfl ?_
  exact ⟨rfl, HB.out⟩
set_option maxRecDepth 4096 in
set_option maxHeartbeats 4000000 in
theorem frac_times (neg : Bool) (a : Option Addr) (n cap : Nat) (la : List Nat) (b : Option Addr) (m cap' : Nat) (lb : List Nat) (w : World) (ha : Wd w a n cap la) (hb : Wd w b m cap' lb) (hn : n ≤ 104857600000) (hm : m ≤ 104857600000) :
    Calls Tryz.prog 81 #[whV neg a n cap, .slice b m cap'] w (LstZ (zval neg (val la) * (val lb : Int)) w) := by
  have HB := Lib.hid (below_then (below_alloc w (.cells #[.bool neg, .slice a n cap] 34)) (below_alloc _ (.cells #[.bool false, .slice none 0 0] 34)))
  have HA := Lib.hid (ha.later HB.out)
  have HC := Lib.hid (hb.later HB.out)
  obtain ⟨hx1, hx2⟩ := boxes_at w ((w.alloc (.cells #[.bool neg, .slice a n cap] 34)).alloc (.cells #[.bool false, .slice none 0 0] 34)) #[.bool neg, .slice a n cap] #[.bool false, .slice none 0 0] 34 34 (Below.refl _ _)
  have HX := Lib.hid hx1
  have HR := Lib.hid hx2
  clear hx1 hx2 ha hb
  obtain ⟨z, hz⟩ : ∃ z, zval neg (val la) * (val lb : Int) = z := ⟨_, rfl⟩
  rw [hz]
  have HZ := Lib.hid hz
  clear hz
  go_enter Tryz.func81, Tryz.ntmps81
  unfold whV
  obtain ⟨vk0, vk1, vk2, vk3⟩ := fcells_2_2 HX.out HR.out
  go_wp2_with fail
  refine (whole_mul neg a n cap la false b m cap' lb _ HA.out HC.out hn hm).mono ?_
  rintro e wv1 ⟨a1, n1, c1, rfl, h1, b⟩
  clear vk0 vk1 vk2 vk3
  replace HB := Lib.hid (below_then HB.out b)
  replace HX := Lib.hid (blk_later HX.out b)
  replace HR := Lib.hid (blk_later HR.out b)
  clear HA
  clear HC
  clear b
  rw [zval_false, HZ.out] at h1 ⊢
  have R1 := Lib.hid h1
  clear h1
  unfold whV
  obtain ⟨r0, r1⟩ := fcells_2 HR.out
  have f0 := blk_free HR.out 0
  have f1 := blk_free HR.out 1
  have HG := Lib.hid (blk_set2 HR.out (.bool (zneg z)) (.slice a1 n1 c1))
  have HF := Lib.hid (R1.out.stored2 HR.out (zneg z) (.slice a1 n1 c1))
  have HL := Lib.hid (below_set2 HB.out (show w.heap.size ≤ w.heap.size + 1 by omega) (.bool (zneg z)) (.slice a1 n1 c1))
  go_wp2
  refine bodyPost_ret (results_cell_row Tryz.results81 _ _ (w.heap.size + 1) 34 #[.bool (zneg z), .slice a1 n1 c1] (0, 0) _ rfl HG.out Tryz.underlying34 rfl (by kernel_rfl)) rfl ?_
  exact ⟨a1, n1, c1, rfl, HF.out, HL.out⟩
set_option maxRecDepth 4096 in
set_option maxHeartbeats 4000000 in
theorem frac_of (x : Int) (w : World) (hx : isInt x) : Calls Tryz.prog 35 #[.int .i64 x] w (LstQ (x : Rat) w) := by
  have HX := Lib.hid hx
  have HB := Lib.hid (below_alloc w (.cells #[.bool false, .slice none 0 0, .slice none 0 0] 36))
  have HR := Lib.hid (blk_new w #[.bool false, .slice none 0 0, .slice none 0 0] 36)
  have HO : ∀ w' : World, Calls Tryz.prog 67 #[.int .u64 1] w' (Lst (dg 1) w') := fun w' => natSaid.of 1 w' (by omega)
  have HN : Hid (x = (x : Rat).num) := Lib.hid (Rat.num_intCast x).symm
  have HD : Hid (1 = (x : Rat).den) := Lib.hid (Rat.den_intCast x).symm
  clear hx
  generalize (x : Rat) = q at *
  go_enter Tryz.func35, Tryz.ntmps35
  obtain ⟨vk0, vk1, vk2⟩ := fcells_3 HR.out
  go_wp2_with fail
  refine (whole_of x _ HX.out).mono ?_
  rintro e wv1 ⟨a1, n1, c1, rfl, h1, b⟩
  clear vk0 vk1 vk2
  replace HB := Lib.hid (below_then HB.out b)
  replace HR := Lib.hid (blk_later HR.out b)
  clear b
  have R1 := Lib.hid h1
  clear h1
  unfold whV
  obtain ⟨vk0, vk1, vk2⟩ := fcells_3 HR.out
  go_wp2_with fail
  refine (HO _).mono ?_
  rintro e wv2 ⟨b1, m1, d1, rfl, g1, b⟩
  clear vk0 vk1 vk2
  replace HB := Lib.hid (below_then HB.out b)
  replace HR := Lib.hid (blk_later HR.out b)
  replace R1 := Lib.hid (R1.out.later b)
  clear b
  have T1 := Lib.hid g1
  clear g1
  generalize hz : zneg x = s at *
  have HS := Lib.hid hz
  clear hz
  have q0 := blk_cell HR.out 0
  have q1 := blk_cell HR.out 1
  have q2 := blk_cell HR.out 2
  simp only [List.getElem?_toArray, List.getElem?_cons_zero, List.getElem?_cons_succ] at q0 q1 q2
  have f0 := blk_free HR.out 0
  have f1 := blk_free HR.out 1
  have f2 := blk_free HR.out 2
  replace R1 := Lib.hid (R1.out.stored3 HR.out (s) a1 n1 c1 (.slice b1 m1 d1))
  replace T1 := Lib.hid (T1.out.stored3 HR.out (s) a1 n1 c1 (.slice b1 m1 d1))
  replace HB := Lib.hid (below_set3 HB.out (show w.heap.size ≤ w.heap.size by omega) (.bool s) (.slice a1 n1 c1) (.slice b1 m1 d1))
  replace HR := Lib.hid (blk_set3 HR.out (.bool s) (.slice a1 n1 c1) (.slice b1 m1 d1))
  go_wp2
  refine bodyPost_ret (results_cell_row Tryz.results35 _ _ (w.heap.size) 36 #[.bool s, .slice a1 n1 c1, .slice b1 m1 d1] (0, 0) _ rfl HR.out Tryz.underlying36 rfl (by kernel_rfl)) rfl ?_
  refine ⟨a1, n1, c1, b1, m1, d1, ?_, ?_, ?_, HB.out⟩
  · rw [← HN.out, HS.out]; rfl
  · rw [← HN.out]; exact R1.out
  · rw [← HD.out]; exact T1.out
end Go.Proofs.YtipcgehcineblaaGreat

/-
  Package frac at this seat: Sign, Size, product.
-/
namespace Go.Proofs.YtipcgehcineblaaGreat
open Go.RowKit

/-- A fraction as it was reckoned, not made right. -/
def LstR (z : Int) (v : Nat) (w : World) (e : Ending) (w' : World) : Prop :=
  ∃ (a : Option Addr) (n cap : Nat) (b : Option Addr) (m cap' : Nat), e = .returned (frV (zneg z) a n cap b m cap') ∧ Wd w' a n cap (dg z.natAbs) ∧ Wd w' b m cap' (dg v) ∧ Below w.heap.size w w'
set_option maxRecDepth 4096 in
set_option maxHeartbeats 4000000 in
theorem frac_sign (neg : Bool) (a : Option Addr) (n cap : Nat) (la : List Nat) (b : Option Addr) (m cap' : Nat) (lb : List Nat) (w : World) (ha : Wd w a n cap la) (hb : Wd w b m cap' lb) (hn : n ≤ 104857600000) (hm : m ≤ 104857600000) :
    Calls Tryz.prog 44 #[frV neg a n cap b m cap'] w (Gives (.int .i64 (sgn (qval neg (val la) (val lb)).num)) w) := by
  have HB := Lib.hid (below_alloc w (.cells #[.bool neg, .slice a n cap, .slice b m cap'] 36))
  have HA := Lib.hid (ha.later HB.out)
  have HC := Lib.hid (hb.later HB.out)
  have HX := Lib.hid (blk_new w #[.bool neg, .slice a n cap, .slice b m cap'] 36)
  clear ha hb
  have HZ0 : Hid (val lb = 0 → sgn (qval neg (val la) (val lb)).num = 0) := Lib.hid (fun h => by rw [qval_none neg (.inl h)]; rfl)
  have HZ1 : Hid (val lb ≠ 0 → sgn (qval neg (val la) (val lb)).num = sgn (zval neg (val la))) := Lib.hid (fun h => fc_qsign h)
  generalize (qval neg (val la) (val lb)).num = y at *
  go_enter Tryz.func44, Tryz.ntmps44
  unfold frV
  obtain ⟨vk0, vk1, vk2⟩ := fcells_3 HX.out
  go_wp2_with fail
  refine (natSaid.zero b m cap' lb _ HC.out (by omega)).mono ?_
  rintro e wv1 ⟨rfl, b⟩
  clear vk0 vk1 vk2
  replace HB := Lib.hid (below_then HB.out b)
  replace HX := Lib.hid (blk_later HX.out b)
  replace HA := Lib.hid (HA.out.later b)
  replace HC := Lib.hid (HC.out.later b)
  clear b
  by_cases h0 : val lb = 0
  · have HS := Lib.hid (HZ0.out h0)
    rw [decide_eq_true h0]
    clear h0 HZ0 HZ1
    go_wp2
    go_ret
    exact ⟨by rw [HS.out]; rfl, HB.out⟩
  · have HS := Lib.hid (HZ1.out h0)
    rw [decide_eq_false h0]
    clear h0 HZ0 HZ1
    obtain ⟨k0, k1, k2⟩ := fcells_3 HX.out
    go_wp2_with fail
    refine (whole_sign neg a n cap la _ HA.out hn).mono ?_
    rintro e w2 ⟨rfl, b⟩
    go_wp2
    go_ret
    exact ⟨by rw [HS.out]; rfl, below_then HB.out b⟩
set_option maxRecDepth 4096 in
set_option maxHeartbeats 4000000 in
theorem frac_product (na : Bool) (a : Option Addr) (n cap : Nat) (la : List Nat) (b : Option Addr) (m cap' : Nat) (lb : List Nat) (nb : Bool) (a' : Option Addr) (n' c' : Nat) (la' : List Nat) (b' : Option Addr) (m' d' : Nat) (lb' : List Nat) (w : World) (ha : Wd w a n cap la) (hb : Wd w b m cap' lb) (ha' : Wd w a' n' c' la') (hb' : Wd w b' m' d' lb') (hn : n ≤ 104857600000) (hm : m ≤ 104857600000) (hn' : n' ≤ 104857600000) (hm' : m' ≤ 104857600000) :
    Calls Tryz.prog 83 #[frV na a n cap b m cap', frV nb a' n' c' b' m' d'] w (LstR (zval na (val la) * zval nb (val la')) (val lb * val lb') w) := by
  have HB := Lib.hid (below_then (below_then (below_alloc w (.cells #[.bool na, .slice a n cap, .slice b m cap'] 36)) (below_alloc _ (.cells #[.bool nb, .slice a' n' c', .slice b' m' d'] 36))) (below_alloc _ (.cells #[.bool false, .slice none 0 0, .slice none 0 0] 36)))
  have HA := Lib.hid (ha.later HB.out)
  have HC := Lib.hid (hb.later HB.out)
  have HA' := Lib.hid (ha'.later HB.out)
  have HC' := Lib.hid (hb'.later HB.out)
  obtain ⟨hx1, hx2, hx3⟩ := boxes3_at9 w #[.bool na, .slice a n cap, .slice b m cap'] #[.bool nb, .slice a' n' c', .slice b' m' d'] #[.bool false, .slice none 0 0, .slice none 0 0] 36 36 36
  have HX := Lib.hid hx1
  have HY := Lib.hid hx2
  have HR := Lib.hid hx3
  have ta := ha.trim_le
  have tb := hb.trim_le
  have ta' := ha'.trim_le
  have tb' := hb'.trim_le
  clear ha hb ha' hb' hx1 hx2 hx3
  obtain ⟨z, hz⟩ : ∃ z, zval na (val la) * zval nb (val la') = z := ⟨_, rfl⟩
  rw [hz]
  have HZ := Lib.hid hz
  clear hz
  go_enter Tryz.func83, Tryz.ntmps83
  unfold frV
  go_wp2
  generalize (((w.alloc (.cells #[.bool na, .slice a n cap, .slice b m cap'] 36)).alloc (.cells #[.bool nb, .slice a' n' c', .slice b' m' d'] 36)).alloc (.cells #[.bool false, .slice none 0 0, .slice none 0 0] 36)) = W at *
  replace HB := Lib.hid (below_then HB.out ((Below.refl _ _).drew : Below W.heap.size W W.drew))
  replace HX : Hid (W.drew.heap[w.heap.size]? = _) := Lib.hid HX.out
  replace HY : Hid (W.drew.heap[w.heap.size + 1]? = _) := Lib.hid HY.out
  replace HR : Hid (W.drew.heap[w.heap.size + 1 + 1]? = some (.cells #[.bool false, .slice none 0 0, .slice none 0 0] 36 (0, 0))) := Lib.hid HR.out
  replace HA := Lib.hid (HA.out.later ((Below.refl _ _).drew : Below W.heap.size W W.drew))
  replace HC := Lib.hid (HC.out.later ((Below.refl _ _).drew : Below W.heap.size W W.drew))
  replace HA' := Lib.hid (HA'.out.later ((Below.refl _ _).drew : Below W.heap.size W W.drew))
  replace HC' := Lib.hid (HC'.out.later ((Below.refl _ _).drew : Below W.heap.size W W.drew))
  have pSn := fcells_3_3 HX.out HY.out
  go_region_held3 (fun w' => w'.cell? ⟨w.heap.size, 0, none⟩ = some (.bool na) ∧ w'.cell? ⟨w.heap.size, 1, none⟩ = some (.slice a n cap) ∧ w'.cell? ⟨w.heap.size, 2, none⟩ = some (.slice b m cap') ∧ w'.cell? ⟨w.heap.size + 1, 0, none⟩ = some (.bool nb) ∧ w'.cell? ⟨w.heap.size + 1, 1, none⟩ = some (.slice a' n' c') ∧ w'.cell? ⟨w.heap.size + 1, 2, none⟩ = some (.slice b' m' d')) (first | exact pSn | exact pSb _ _ _)
    (first
    | (go_at_call 107; (first
      | (refine (whole_mul na a n cap la nb a' n' c' la' _ HA.out HA'.out (by omega) (by omega)).mono ?_; rintro e wp1 ⟨a1, n1, c1, rfl, h1, b⟩; replace HB := Lib.hid (below_then HB.out b); replace HX := Lib.hid (blk_later HX.out b); replace HY := Lib.hid (blk_later HY.out b); replace HR := Lib.hid (blk_later HR.out b); replace HA := Lib.hid (HA.out.later b); replace HC := Lib.hid (HC.out.later b); replace HA' := Lib.hid (HA'.out.later b); replace HC' := Lib.hid (HC'.out.later b); rw [HZ.out] at h1 ⊢; have R1 := Lib.hid h1; clear h1; unfold whV; clear b; clear pSn; have pSn := fcells_3_3 HX.out HY.out; have pM1 := True.intro)))
    | (go_at_call 82; (first
      | (have pm1 := pM1; refine (prod_mul b m cap' lb b' m' d' lb' _ HC.out HC'.out (by omega) (by omega)).mono ?_; rintro e wp2 ⟨b1, m1, d1, rfl, g1, b⟩; replace HB := Lib.hid (below_then HB.out b); replace HX := Lib.hid (blk_later HX.out b); replace HY := Lib.hid (blk_later HY.out b); replace HR := Lib.hid (blk_later HR.out b); replace HA := Lib.hid (HA.out.later b); replace HC := Lib.hid (HC.out.later b); replace HA' := Lib.hid (HA'.out.later b); replace HC' := Lib.hid (HC'.out.later b); replace R1 := Lib.hid (R1.out.later b); have T1 := Lib.hid g1; clear g1; obtain ⟨r0, r1, r2⟩ := fcells_3 HR.out; have f0 := blk_free HR.out 0; have f1 := blk_free HR.out 1; have f2 := blk_free HR.out 2; have pSb := fun u v q => fcells_3_3 (blk_far3 (g := w.heap.size + 1 + 1) HX.out (by omega) u v q) (blk_far3 (g := w.heap.size + 1 + 1) HY.out (by omega) u v q); clear b; clear pSn; have pSn := fcells_3_3 HX.out HY.out; clear pM1 pm1; have pM2 := True.intro))))
  have HG := Lib.hid (blk_set3 HR.out (.bool (zneg z)) (.slice a1 n1 c1) (.slice b1 m1 d1))
  have HL := Lib.hid (below_set3 HB.out (show w.heap.size ≤ w.heap.size + 1 + 1 by omega) (.bool (zneg z)) (.slice a1 n1 c1) (.slice b1 m1 d1))
  have HW1 := Lib.hid (R1.out.stored3 HR.out (zneg z) a1 n1 c1 (.slice b1 m1 d1))
  have HW2 := Lib.hid (T1.out.stored3 HR.out (zneg z) a1 n1 c1 (.slice b1 m1 d1))
  go_wp2
  refine bodyPost_ret (results_cell_row Tryz.results83 _ _ (w.heap.size + 1 + 1) 36 #[.bool (zneg z), .slice a1 n1 c1, .slice b1 m1 d1] (0, 0) _ rfl HG.out Tryz.underlying36 rfl (by kernel_rfl)) rfl ?_
  exact ⟨a1, n1, c1, b1, m1, d1, rfl, HW1.out, HW2.out, HL.out⟩
end Go.Proofs.YtipcgehcineblaaGreat

/-
  Package frac at this seat: New, Norm, Neg, Abs.
-/
namespace Go.Proofs.YtipcgehcineblaaGreat
open Go.RowKit

set_option maxRecDepth 4096 in
set_option maxHeartbeats 4000000 in
theorem frac_new (neg : Bool) (a : Option Addr) (n cap : Nat) (la : List Nat) (b : Option Addr) (m cap' : Nat) (lb : List Nat) (w : World) (ha : Wd w a n cap la) (hb : Wd w b m cap' lb) (hn : n ≤ 41943040000) (hm : m ≤ 41943040000) :
    Calls Tryz.prog 102 #[whV neg a n cap, .slice b m cap'] w (LstQV (qval neg (val la) (val lb)) (.bool (decide (val lb ≠ 0))) w) := by
  have HB := Lib.hid (below_then (below_alloc w (.cells #[.bool neg, .slice a n cap] 34)) (below_alloc _ (.cells #[.bool false, .slice none 0 0, .slice none 0 0] 36)))
  have HA := Lib.hid (ha.later HB.out)
  have HC := Lib.hid (hb.later HB.out)
  obtain ⟨hx1, hx2⟩ := boxes_at w ((w.alloc (.cells #[.bool neg, .slice a n cap] 34)).alloc (.cells #[.bool false, .slice none 0 0, .slice none 0 0] 36)) #[.bool neg, .slice a n cap] #[.bool false, .slice none 0 0, .slice none 0 0] 34 36 (Below.refl _ _)
  have HX := Lib.hid hx1
  have HR := Lib.hid hx2
  have ta := ha.trim_le
  clear hx1 hx2 ha hb
  obtain ⟨q, hq⟩ : ∃ q, qval neg (val la) (val lb) = q := ⟨_, rfl⟩
  rw [hq]
  have HQ := Lib.hid hq
  clear hq
  go_enter Tryz.func102, Tryz.ntmps102
  unfold whV
  obtain ⟨vk0, vk1, vk2, vk3, vk4⟩ := fcells_2_3 HX.out HR.out
  go_wp2_with fail
  refine (natSaid.zero b m cap' lb _ HC.out (by omega)).mono ?_
  rintro e wv1 ⟨rfl, b⟩
  clear vk0 vk1 vk2 vk3 vk4
  replace HB := Lib.hid (below_then HB.out b)
  replace HX := Lib.hid (blk_later HX.out b)
  replace HR := Lib.hid (blk_later HR.out b)
  replace HA := Lib.hid (HA.out.later b)
  replace HC := Lib.hid (HC.out.later b)
  clear b
  by_cases h0 : val lb = 0
  · have HD : Hid (decide (val lb ≠ 0) = false) := Lib.hid (by rw [decide_eq_false]; exact fun h => h h0)
    have HQ0 : Hid (((0 : Int) : Rat) = q) := Lib.hid (by rw [← HQ.out, qval_none neg (.inl h0)]; rfl)
    rw [decide_eq_true h0]
    clear h0 HQ
    clear HA HC
    obtain ⟨uk0, uk1, uk2, uk3, uk4⟩ := fcells_2_3 HX.out HR.out
    go_wp2_with fail
    refine (frac_of 0 _ isInt_nought).mono ?_
    rintro e wu1 ⟨a1, n1, c1, b1, m1, d1, rfl, h1, g1, b⟩
    clear uk0 uk1 uk2 uk3 uk4
    replace HB := Lib.hid (below_then HB.out b)
    replace HX := Lib.hid (blk_later HX.out b)
    replace HR := Lib.hid (blk_later HR.out b)
    clear b
    rw [HQ0.out] at h1 g1 ⊢
    have R1 := Lib.hid h1
    have T1 := Lib.hid g1
    clear h1 g1
    unfold frV
    have q0 := blk_cell HR.out 0
    have q1 := blk_cell HR.out 1
    have q2 := blk_cell HR.out 2
    simp only [List.getElem?_toArray, List.getElem?_cons_zero, List.getElem?_cons_succ] at q0 q1 q2
    have f0 := blk_free HR.out 0
    have f1 := blk_free HR.out 1
    have f2 := blk_free HR.out 2
    replace HX := Lib.hid (blk_far3 HX.out (show w.heap.size ≠ w.heap.size + 1 by omega) (.bool (zneg q.num)) (.slice a1 n1 c1) (.slice b1 m1 d1))
    replace R1 := Lib.hid (R1.out.stored3 HR.out ((zneg q.num)) a1 n1 c1 (.slice b1 m1 d1))
    replace T1 := Lib.hid (T1.out.stored3 HR.out ((zneg q.num)) a1 n1 c1 (.slice b1 m1 d1))
    replace HB := Lib.hid (below_set3 HB.out (show w.heap.size ≤ w.heap.size + 1 by omega) (.bool (zneg q.num)) (.slice a1 n1 c1) (.slice b1 m1 d1))
    replace HR := Lib.hid (blk_set3 HR.out (.bool (zneg q.num)) (.slice a1 n1 c1) (.slice b1 m1 d1))
    go_wp2
    refine bodyPost_ret (results_row_tmp Tryz.results102 _ _ (w.heap.size + 1) 36 #[.bool (zneg q.num), .slice a1 n1 c1, .slice b1 m1 d1] (0, 0) _ rfl HR.out Tryz.underlying36 rfl (by kernel_rfl)) rfl ?_
    exact ⟨a1, n1, c1, b1, m1, d1, by rw [HD.out]; rfl, R1.out, T1.out, HB.out⟩
  · have HD : Hid (decide (val lb ≠ 0) = true) := Lib.hid (decide_eq_true h0)
    have HZ : Hid (zval neg (val (dg (val la / Nat.gcd (val la) (val lb)))) = q.num) := Lib.hid (by rw [val_dg, ← HQ.out]; exact (qval_parts neg h0).1.symm)
    have HE : Hid (val lb / Nat.gcd (val la) (val lb) = q.den) := Lib.hid (by rw [← HQ.out]; exact (qval_parts neg h0).2.symm)
    have ql : (dg (val la / Nat.gcd (val la) (val lb))).length ≤ n := Nat.le_trans (dg_length_mono (Nat.div_le_self _ _)) ta
    rw [decide_eq_false h0]
    clear h0 HQ
    obtain ⟨uk0, uk1, uk2, uk3, uk4⟩ := fcells_2_3 HX.out HR.out
    go_wp2_with fail
    refine (common_cancel a n cap la b m cap' lb _ HA.out HC.out hn hm).mono ?_
    rintro e wu1 ⟨a1, n1, c1, b2, m2, d2, rfl, h1, g2, b⟩
    clear uk0 uk1 uk2 uk3 uk4
    replace HB := Lib.hid (below_then HB.out b)
    replace HX := Lib.hid (blk_later HX.out b)
    replace HR := Lib.hid (blk_later HR.out b)
    clear HA
    clear HC
    clear b
    rw [HE.out] at g2
    have ln1 := h1.len
    have R1 := Lib.hid h1
    have T2 := Lib.hid g2
    clear h1 g2
    obtain ⟨uk0, uk1, uk2, uk3, uk4⟩ := fcells_2_3 HX.out HR.out
    go_wp2_with fail
    refine (whole_norm neg a1 n1 c1 _ _ R1.out (by omega)).mono ?_
    rintro e wu2 ⟨a2, n2, c2, rfl, h2, b⟩
    clear uk0 uk1 uk2 uk3 uk4
    replace HB := Lib.hid (below_then HB.out b)
    replace HX := Lib.hid (blk_later HX.out b)
    replace HR := Lib.hid (blk_later HR.out b)
    clear R1
    replace T2 := Lib.hid (T2.out.later b)
    clear b
    rw [HZ.out] at h2 ⊢
    have R2 := Lib.hid h2
    clear h2
    unfold whV
    have q0 := blk_cell HR.out 0
    have q1 := blk_cell HR.out 1
    have q2 := blk_cell HR.out 2
    simp only [List.getElem?_toArray, List.getElem?_cons_zero, List.getElem?_cons_succ] at q0 q1 q2
    have f0 := blk_free HR.out 0
    have f1 := blk_free HR.out 1
    have f2 := blk_free HR.out 2
    replace HX := Lib.hid (blk_far3 HX.out (show w.heap.size ≠ w.heap.size + 1 by omega) (.bool (zneg q.num)) (.slice a2 n2 c2) (.slice b2 m2 d2))
    replace T2 := Lib.hid (T2.out.stored3 HR.out ((zneg q.num)) a2 n2 c2 (.slice b2 m2 d2))
    replace R2 := Lib.hid (R2.out.stored3 HR.out ((zneg q.num)) a2 n2 c2 (.slice b2 m2 d2))
    replace HB := Lib.hid (below_set3 HB.out (show w.heap.size ≤ w.heap.size + 1 by omega) (.bool (zneg q.num)) (.slice a2 n2 c2) (.slice b2 m2 d2))
    replace HR := Lib.hid (blk_set3 HR.out (.bool (zneg q.num)) (.slice a2 n2 c2) (.slice b2 m2 d2))
    go_wp2
    refine bodyPost_ret (results_row_tmp Tryz.results102 _ _ (w.heap.size + 1) 36 #[.bool (zneg q.num), .slice a2 n2 c2, .slice b2 m2 d2] (0, 0) _ rfl HR.out Tryz.underlying36 rfl (by kernel_rfl)) rfl ?_
    exact ⟨a2, n2, c2, b2, m2, d2, by rw [HD.out]; rfl, R2.out, T2.out, HB.out⟩
set_option maxRecDepth 4096 in
set_option maxHeartbeats 4000000 in
theorem frac_norm (neg : Bool) (a : Option Addr) (n cap : Nat) (la : List Nat) (b : Option Addr) (m cap' : Nat) (lb : List Nat) (w : World) (ha : Wd w a n cap la) (hb : Wd w b m cap' lb) (hn : n ≤ 41943040000) (hm : m ≤ 41943040000) :
    Calls Tryz.prog 78 #[frV neg a n cap b m cap'] w (LstQ (qval neg (val la) (val lb)) w) := by
  have HB := Lib.hid (below_then (below_alloc w (.cells #[.bool neg, .slice a n cap, .slice b m cap'] 36)) (below_alloc _ (.cells #[.bool false, .slice none 0 0, .slice none 0 0] 36)))
  have HA := Lib.hid (ha.later HB.out)
  have HC := Lib.hid (hb.later HB.out)
  obtain ⟨hx1, hx2⟩ := boxes_at w ((w.alloc (.cells #[.bool neg, .slice a n cap, .slice b m cap'] 36)).alloc (.cells #[.bool false, .slice none 0 0, .slice none 0 0] 36)) #[.bool neg, .slice a n cap, .slice b m cap'] #[.bool false, .slice none 0 0, .slice none 0 0] 36 36 (Below.refl _ _)
  have HX := Lib.hid hx1
  have HR := Lib.hid hx2
  clear hx1 hx2 ha hb
  obtain ⟨q, hq⟩ : ∃ q, qval neg (val la) (val lb) = q := ⟨_, rfl⟩
  rw [hq]
  have HQ := Lib.hid hq
  clear hq
  go_enter Tryz.func78, Tryz.ntmps78
  unfold frV
  obtain ⟨vk0, vk1, vk2, vk3, vk4, vk5⟩ := fcells_3_3 HX.out HR.out
  go_wp2_with fail
  refine (frac_new neg a n cap la b m cap' lb _ HA.out HC.out hn hm).mono ?_
  rintro e wv1 ⟨a1, n1, c1, b1, m1, d1, rfl, h1, g1, b⟩
  clear vk0 vk1 vk2 vk3 vk4 vk5
  replace HB := Lib.hid (below_then HB.out b)
  replace HX := Lib.hid (blk_later HX.out b)
  replace HR := Lib.hid (blk_later HR.out b)
  clear HA
  clear HC
  clear b
  rw [HQ.out] at h1 g1 ⊢
  have R1 := Lib.hid h1
  have T1 := Lib.hid g1
  clear h1 g1
  generalize decide (val lb ≠ 0) = s at *
  unfold frV
  have HP : Hid ((World.alloc wv1 (.cells #[.bool (zneg q.num), .slice a1 n1 c1, .slice b1 m1 d1] 36)).heap[wv1.heap.size]? = some (.cells #[.bool (zneg q.num), .slice a1 n1 c1, .slice b1 m1 d1] 36 (0, 0))) := Lib.hid (blk_new wv1 _ _)
  replace HB := Lib.hid (below_then HB.out (below_alloc wv1 (.cells #[.bool (zneg q.num), .slice a1 n1 c1, .slice b1 m1 d1] 36)))
  replace HX := Lib.hid (blk_later HX.out (below_alloc wv1 (.cells #[.bool (zneg q.num), .slice a1 n1 c1, .slice b1 m1 d1] 36)))
  replace HR := Lib.hid (blk_later HR.out (below_alloc wv1 (.cells #[.bool (zneg q.num), .slice a1 n1 c1, .slice b1 m1 d1] 36)))
  replace R1 := Lib.hid (R1.out.later (below_alloc wv1 (.cells #[.bool (zneg q.num), .slice a1 n1 c1, .slice b1 m1 d1] 36)))
  replace T1 := Lib.hid (T1.out.later (below_alloc wv1 (.cells #[.bool (zneg q.num), .slice a1 n1 c1, .slice b1 m1 d1] 36)))
  obtain ⟨vk0, vk1, vk2, vk3, vk4, vk5, vk6, vk7, vk8⟩ := fcells_3_3_3 HX.out HR.out HP.out
  have q0 := blk_cell HR.out 0
  have q1 := blk_cell HR.out 1
  have q2 := blk_cell HR.out 2
  simp only [List.getElem?_toArray, List.getElem?_cons_zero, List.getElem?_cons_succ] at q0 q1 q2
  have f0 := blk_free HR.out 0
  have f1 := blk_free HR.out 1
  have f2 := blk_free HR.out 2
  replace R1 := Lib.hid (R1.out.stored3 HR.out ((zneg q.num)) a1 n1 c1 (.slice b1 m1 d1))
  replace T1 := Lib.hid (T1.out.stored3 HR.out ((zneg q.num)) a1 n1 c1 (.slice b1 m1 d1))
  replace HB := Lib.hid (below_set3 HB.out (show w.heap.size ≤ w.heap.size + 1 by omega) (.bool (zneg q.num)) (.slice a1 n1 c1) (.slice b1 m1 d1))
  replace HR := Lib.hid (blk_set3 HR.out (.bool (zneg q.num)) (.slice a1 n1 c1) (.slice b1 m1 d1))
  go_wp2
  refine bodyPost_ret (results_cell_row Tryz.results78 _ _ (w.heap.size + 1) 36 #[.bool (zneg q.num), .slice a1 n1 c1, .slice b1 m1 d1] (0, 0) _ rfl HR.out Tryz.underlying36 rfl (by kernel_rfl)) rfl ?_
  exact ⟨a1, n1, c1, b1, m1, d1, rfl, R1.out, T1.out, HB.out⟩
end Go.Proofs.YtipcgehcineblaaGreat

/-
  The document's answer for layer 9, in rational numbers: of right fractions.
-/
namespace Go.Proofs.YtipcgehcineblaaGreat
open Go.RowKit

theorem qden_nz (q : Rat) : Hid (val (dg q.den) ≠ 0) := Lib.hid (by rw [val_dg]; exact q.den_nz)
theorem ref09_norm_q (v : Value) (q : Rat) (w : World) (h : Fr w v q 20971520000) : Calls Tryz.prog 10 #[v] w (LstQ q w) := by
  obtain ⟨neg, a, n, cap, la, b, m, cap', lb, rfl, ha, hb, hn, hm, rfl⟩ := h
  exact ref09_norm neg a n cap la b m cap' lb w ha hb (by omega) (by omega)
theorem ref09_add_q (v u : Value) (p q : Rat) (w : World) (h : Rt w v p 15728640000) (k : Rt w u q 15728640000) : Calls Tryz.prog 51 #[v, u] w (LstQ (p + q) w) := by
  obtain ⟨a, n, cap, b, m, cap', rfl, ha, hb, hn, hm⟩ := h
  obtain ⟨a', n', c', b', m', d', rfl, ha', hb', hn', hm'⟩ := k
  have h := ref09_add (zneg p.num) a n cap _ b m cap' _ (zneg q.num) a' n' c' _ b' m' d' _ w ha hb ha' hb' (by omega) (by omega) (by omega) (by omega) (qden_nz p) (qden_nz q)
  rwa [qval_dg, qval_dg] at h
theorem ref09_mul_q (v u : Value) (p q : Rat) (w : World) (h : Rt w v p 15728640000) (k : Rt w u q 15728640000) : Calls Tryz.prog 52 #[v, u] w (LstQ (p * q) w) := by
  obtain ⟨a, n, cap, b, m, cap', rfl, ha, hb, hn, hm⟩ := h
  obtain ⟨a', n', c', b', m', d', rfl, ha', hb', hn', hm'⟩ := k
  have h := ref09_mul (zneg p.num) a n cap _ b m cap' _ (zneg q.num) a' n' c' _ b' m' d' _ w ha hb ha' hb' (by omega) (by omega) (by omega) (by omega)
  rwa [qval_dg, qval_dg] at h
theorem ref09_quo_q (v u : Value) (p q : Rat) (w : World) (h : Rt w v p 15728640000) (k : Rt w u q 15728640000) : Calls Tryz.prog 64 #[v, u] w (LstQ (p / q) w) := by
  obtain ⟨a, n, cap, b, m, cap', rfl, ha, hb, hn, hm⟩ := h
  obtain ⟨a', n', c', b', m', d', rfl, ha', hb', hn', hm'⟩ := k
  have h := ref09_quo (zneg p.num) a n cap _ b m cap' _ (zneg q.num) a' n' c' _ b' m' d' _ w ha hb ha' hb' (by omega) (by omega) (by omega) (by omega)
  rwa [qval_dg, qinv_dg, ← Rat.div_def] at h
theorem ref09_zero_q (v : Value) (q : Rat) (w : World) (h : Rt w v q 15728640000) : Calls Tryz.prog 36 #[v] w (Gives (.bool (decide (q = 0))) w) := by
  obtain ⟨a, n, cap, b, m, cap', rfl, ha, _⟩ := h
  have h := ref09_zero (zneg q.num) a n cap b m cap' w
  have h2 : ((n : Int) == 0) = decide (q = 0) := by
    have h3 := ha.len
    by_cases hq : q = 0
    · rw [decide_eq_true hq]
      rw [hq] at h3
      have h4 : n = 0 := by rw [← h3]; show (dg (0 : Nat)).length = 0; rw [dg_zero]; rfl
      subst h4; rfl
    · rw [decide_eq_false hq]
      have h5 : n ≠ 0 := fun e => by
        rw [e] at h3
        exact num_nz hq (Int.natAbs_eq_zero.1 (dg_nil_iff.1 h3))
      simp [h5]
  rwa [h2] at h
end Go.Proofs.YtipcgehcineblaaGreat
