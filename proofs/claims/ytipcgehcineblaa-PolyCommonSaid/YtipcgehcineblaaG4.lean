/-
  Several texts of this claim as one, group 4.
-/
import Derived.Test.YtipcgehcineblaaG3
import Derived.Test.YtipcgehcineblaaG2
import Derived.Deep.RegionHeld3
import Derived.BigQuiet
import Derived.Test.YtipcgehcineblaaG1
import Derived.Deep.DeepMust
import Derived.BigRegion
import Derived.Laws.CopyOwn
/-
  Package whole at this seat: signed, turned, Compare; Norm, Sign, Cmp, Neg, Mul.
-/
namespace Go.Proofs.Ytipcgehcineblaa
open Go.RowKit

theorem two_cells {w : World} {A : Nat} {x y : Value} {t : TypeId} (h1 : w.heap[A]? = some (.cells #[x, y] t (0, 0))) : w.cell? ⟨A, 0, none⟩ = some x ∧ w.cell? ⟨A, 1, none⟩ = some y := ⟨blk_cell h1 0, blk_cell h1 1⟩
theorem two_stored {w : World} {A g : Nat} {x y : Value} {t : TypeId} (h1 : w.heap[A]? = some (.cells #[x, y] t (0, 0))) (hA : A ≠ g) (p q : Value) :
    ((w.setCell ⟨g, 0, none⟩ p).setCell ⟨g, 1, none⟩ q).cell? ⟨A, 0, none⟩ = some x ∧ ((w.setCell ⟨g, 0, none⟩ p).setCell ⟨g, 1, none⟩ q).cell? ⟨A, 1, none⟩ = some y := two_cells (blk_apart (blk_apart h1 hA 0 p) hA 1 q)
theorem whole_signed (neg : Bool) (a : Option Addr) (n cap v : Nat) (w : World) (h : Wd w a n cap (dg v)) (hn : n ≤ 17592183947264) : Calls Try.prog 57 #[.bool neg, .slice a n cap] w (LstZ (zval neg v) w) := by
  have HA : Hid ((zval neg v).natAbs = v) := Lib.hid (zval_abs _ _)
  have H := Lib.hid h
  clear h
  cases neg with
  | false =>
    have HZ : Hid (zneg (zval false v) = false) := Lib.hid (by rw [zval_neg]; rfl)
    have HG := Lib.hid (blk_new w #[.bool false, .slice a n cap] 32)
    go_enter Try.func57, Try.ntmps57
    go_wp2
    refine bodyPost_ret (results_cell_row Try.results57 _ _ (w.heap.size) 32 #[.bool false, .slice a n cap] (0, 0) _ rfl HG.out Try.underlying32 rfl (by kernel_rfl)) rfl ?_
    exact ⟨a, n, cap, by rw [HZ.out]; rfl, by rw [HA.out]; exact H.out.later (below_alloc _ _), below_alloc _ _⟩
  | true =>
    go_enter Try.func57, Try.ntmps57
    go_wp2_with fail
    refine (natSaid.zero _ _ _ _ _ (H.out.later (below_alloc _ _)) hn).mono ?_
    rintro e w1 ⟨rfl, b1⟩
    rw [val_dg]
    have hR := box_at w w1 _ _ b1
    have r0 := blk_cell hR 0
    have r1 := blk_cell hR 1
    have f0 := blk_free hR 0
    have f1 := blk_free hR 1
    simp only [List.getElem?_toArray, List.getElem?_cons_zero, List.getElem?_cons_succ] at r0 r1
    have HR := Lib.hid hR
    have HB := Lib.hid (below_then (below_alloc _ _) b1)
    have H1 := Lib.hid (H.out.later HB.out)
    clear hR b1
    by_cases hv : v = 0
    · have HZ : Hid (zneg (zval true v) = false) := Lib.hid (by rw [hv]; rfl)
      rw [decide_eq_true hv]
      clear hv
      have HG := Lib.hid (blk_set2 HR.out (.bool false) (.slice a n cap))
      have HS := Lib.hid (H1.out.stored2 HR.out false (.slice a n cap))
      have HB2 := Lib.hid (below_set2 HB.out (show w.heap.size ≤ w.heap.size from Nat.le_refl _) (.bool false) (.slice a n cap))
      go_wp2
      refine bodyPost_ret (results_cell_row Try.results57 _ _ (w.heap.size) 32 #[.bool false, .slice a n cap] (0, 0) _ rfl HG.out Try.underlying32 rfl (by kernel_rfl)) rfl ?_
      exact ⟨a, n, cap, by rw [HZ.out]; rfl, by rw [HA.out]; exact HS.out, HB2.out⟩
    · have HZ : Hid (zneg (zval true v) = true) := Lib.hid (by rw [zval_neg, decide_eq_true hv]; rfl)
      rw [decide_eq_false hv]
      clear hv
      have HG := Lib.hid (blk_set2 HR.out (.bool true) (.slice a n cap))
      have HS := Lib.hid (H1.out.stored2 HR.out true (.slice a n cap))
      have HB2 := Lib.hid (below_set2 HB.out (show w.heap.size ≤ w.heap.size from Nat.le_refl _) (.bool true) (.slice a n cap))
      go_wp2
      refine bodyPost_ret (results_cell_row Try.results57 _ _ (w.heap.size) 32 #[.bool true, .slice a n cap] (0, 0) _ rfl HG.out Try.underlying32 rfl (by kernel_rfl)) rfl ?_
      exact ⟨a, n, cap, by rw [HZ.out]; rfl, by rw [HA.out]; exact HS.out, HB2.out⟩
theorem cmp_isNaN (x : Int) (w : World) : Calls Try.prog 66 #[.int .i64 x] w (fun e w' => e = .returned (.bool false) ∧ w' = w) := by
  have hx : (x == x) = true := by simp
  go_enter Try.func66, Try.ntmps66
  go_wp2
  go_ret
  exact ⟨rfl, rfl⟩
theorem cmp_Compare (x y : Int) (w : World) : Calls Try.prog 46 #[.int .i64 x, .int .i64 y] w (fun e w' => e = .returned (.int .i64 (sgn (x - y))) ∧ w' = w) := by
  go_enter Try.func46, Try.ntmps46
  go_wp2_with fail
  refine (cmp_isNaN x _).mono ?_
  rintro e w' ⟨rfl, rfl⟩
  go_wp2_with fail
  refine (cmp_isNaN y _).mono ?_
  rintro e w' ⟨rfl, rfl⟩
  by_cases h1 : x < y
  · have HS : Hid (sgn (x - y) = -1) := Lib.hid (by unfold sgn; rw [if_neg (by omega), if_pos (by omega)])
    go_wp2
    go_ret
    exact ⟨by rw [HS.out]; rfl, rfl⟩
  · by_cases h2 : y < x
    · have HS : Hid (sgn (x - y) = 1) := Lib.hid (by unfold sgn; rw [if_neg (by omega), if_neg (by omega)])
      go_wp2
      go_ret
      exact ⟨by rw [HS.out]; rfl, rfl⟩
    · have HS : Hid (sgn (x - y) = 0) := Lib.hid (by unfold sgn; rw [if_pos (by omega)])
      go_wp2
      go_ret
      exact ⟨by rw [HS.out]; rfl, rfl⟩
set_option maxRecDepth 4096 in
set_option maxHeartbeats 2000000 in
theorem whole_norm (neg : Bool) (a : Option Addr) (n cap : Nat) (l : List Nat) (w : World) (h : Wd w a n cap l) (hn : n ≤ 104857600000) :
    Calls Try.prog 68 #[whV neg a n cap] w (LstZ (zval neg (val l)) w) := by
  have hB2 : Below w.heap.size w ((w.alloc (.cells #[.bool neg, .slice a n cap] 32)).alloc (.cells #[.bool false, .slice none 0 0] 32)) := below_then (below_alloc _ _) (below_alloc _ _)
  have Ha := Lib.hid (h.later hB2)
  have HB := Lib.hid hB2
  have hAR := boxes_at w ((w.alloc (.cells #[.bool neg, .slice a n cap] 32)).alloc (.cells #[.bool false, .slice none 0 0] 32)) #[.bool neg, .slice a n cap] #[.bool false, .slice none 0 0] 32 32 (Below.refl _ _)
  have hpl : (dg (val l)).length ≤ 104857600000 := Nat.le_trans h.trim_le hn
  clear h hB2
  go_enter Try.func68, Try.ntmps68
  unfold whV
  go_wp2
  generalize ((w.alloc (.cells #[.bool neg, .slice a n cap] 32)).alloc (.cells #[.bool false, .slice none 0 0] 32)) = W at *
  have HAd : Hid (W.drew.heap[w.heap.size]? = some (.cells #[.bool neg, .slice a n cap] 32 (0, 0))) := Lib.hid hAR.1
  have HRd : Hid (W.drew.heap[w.heap.size + 1]? = some (.cells #[.bool false, .slice none 0 0] 32 (0, 0))) := Lib.hid hAR.2
  have Hd : Below W.heap.size W W.drew := (Below.refl _ _).drew
  have Sd := two_cells HAd.out
  clear hAR
  go_region_held3 (fun w' => w'.cell? ⟨w.heap.size, 0, none⟩ = some (.bool neg) ∧ w'.cell? ⟨w.heap.size, 1, none⟩ = some (.slice a n cap)) (first | exact Sd | exact Sq1 | exact Sq2 | exact Sq3 _ _)
    (first
    | (go_at_call 60; (refine (natSaid.norm a n cap l _ (Ha.out.later Hd) ?q3).mono ?_); (case q3 => omega); rintro e w1 ⟨a1, n1, c1, rfl, h1, b1⟩; have hA1 := blk_later HAd.out b1; have Sq1 := two_cells hA1)
    | (go_at_call 57; (refine (whole_signed neg a1 n1 c1 _ _ h1 ?q5).mono ?_); (case q5 => have := h1.len; omega); rintro e w2 ⟨a2, n2, c2, rfl, h2, b2⟩; have Sq2 := two_cells (blk_later hA1 b2); have Sq3 := two_stored (g := w.heap.size + 1) (blk_later hA1 b2) (by omega); have hRb := blk_later (blk_later HRd.out b1) b2; have r0 := blk_cell hRb 0; have r1 := blk_cell hRb 1; have f0 := blk_free hRb 0; have f1 := blk_free hRb 1; simp only [List.getElem?_toArray, List.getElem?_cons_zero, List.getElem?_cons_succ] at r0 r1; unfold whV))
  have hBe := Lib.hid (below_then HB.out (below_then Hd (below_then b1 b2)))
  have H2 := Lib.hid h2
  have hl2 := Lib.hid hRb
  have HF := Lib.hid (H2.out.stored2 hl2.out (zneg (zval neg (val l))) (.slice a2 n2 c2))
  have HG := Lib.hid (blk_set2 hl2.out (.bool (zneg (zval neg (val l)))) (.slice a2 n2 c2))
  have HB2 := Lib.hid (below_set2 hBe.out (show w.heap.size ≤ w.heap.size + 1 by omega) (.bool (zneg (zval neg (val l)))) (.slice a2 n2 c2))
  generalize zval neg (val l) = z at *
  go_wp2
  refine bodyPost_ret (results_cell_row Try.results68 _ _ (w.heap.size + 1) 32 #[.bool (zneg z), .slice a2 n2 c2] (0, 0) _ rfl HG.out Try.underlying32 rfl (by kernel_rfl)) rfl ?_
  exact ⟨a2, n2, c2, rfl, HF.out, HB2.out⟩
theorem whole_sign (neg : Bool) (a : Option Addr) (n cap : Nat) (l : List Nat) (w : World) (h : Wd w a n cap l) (hn : n ≤ 104857600000) :
    Calls Try.prog 54 #[whV neg a n cap] w (Gives (.int .i64 (sgn (zval neg (val l)))) w) := by
  have H := Lib.hid h
  clear h
  go_enter Try.func54, Try.ntmps54
  unfold whV
  go_wp2_with fail
  refine (natSaid.zero _ _ _ _ _ (H.out.later (below_alloc _ _)) (by omega)).mono ?_
  rintro e w1 ⟨rfl, b1⟩
  have hA := box_at w w1 _ _ b1
  have r0 := blk_cell hA 0
  have r1 := blk_cell hA 1
  simp only [List.getElem?_toArray, List.getElem?_cons_zero, List.getElem?_cons_succ] at r0 r1
  have HB := Lib.hid (below_then (below_alloc _ _) b1)
  clear hA b1 H
  generalize val l = v at *
  by_cases hv : v = 0
  · have HS : Hid (sgn (zval neg v) = 0) := Lib.hid (by rw [hv]; cases neg <;> rfl)
    rw [decide_eq_true hv]
    clear hv
    go_wp2
    go_ret
    exact ⟨by rw [HS.out]; rfl, HB.out⟩
  · rw [decide_eq_false hv]
    cases neg with
    | true =>
      have HS : Hid (sgn (zval true v) = -1) := Lib.hid (by rw [zval_true]; exact sgn_neg (by omega))
      clear hv
      go_wp2
      go_ret
      exact ⟨by rw [HS.out]; rfl, HB.out⟩
    | false =>
      have HS : Hid (sgn (zval false v) = 1) := Lib.hid (by rw [zval_false]; unfold sgn; rw [if_neg (by omega), if_neg (by omega)])
      clear hv
      go_wp2
      go_ret
      exact ⟨by rw [HS.out]; rfl, HB.out⟩
set_option maxRecDepth 4096 in
set_option maxHeartbeats 4000000 in
theorem whole_mul (na : Bool) (a : Option Addr) (n cap : Nat) (la : List Nat) (nb : Bool) (b : Option Addr) (m cap' : Nat) (lb : List Nat) (w : World) (ha : Wd w a n cap la) (hb : Wd w b m cap' lb) (hn : n ≤ 104857600000) (hm : m ≤ 104857600000) :
    Calls Try.prog 49 #[whV na a n cap, whV nb b m cap'] w (LstZ (zval na (val la) * zval nb (val lb)) w) := by
  have hB3 : Below w.heap.size w (((w.alloc (.cells #[.bool na, .slice a n cap] 32)).alloc (.cells #[.bool nb, .slice b m cap'] 32)).alloc (.cells #[.bool false, .slice none 0 0] 32)) := below_then (below_then (below_alloc _ _) (below_alloc _ _)) (below_alloc _ _)
  have Ha := Lib.hid (ha.later hB3)
  have Hb := Lib.hid (hb.later hB3)
  have HB := Lib.hid hB3
  have h3b := boxes3_at w #[.bool na, .slice a n cap] #[.bool nb, .slice b m cap'] #[.bool false, .slice none 0 0] 32 32 32
  have HAo := Lib.hid h3b.1
  have HBo := Lib.hid h3b.2.1
  have HRo := Lib.hid h3b.2.2
  have HV := Lib.hid (zval_mul na nb (val la) (val lb))
  have hpl : Hid ((dg (val la * val lb)).length ≤ 209715200000) := Lib.hid (by
    have h1 := dg_mul_length (val la) (val lb)
    have h2 := ha.trim_le
    have h3 := hb.trim_le
    omega)
  clear ha hb hB3 h3b
  go_enter Try.func49, Try.ntmps49
  unfold whV
  go_wp2
  generalize (((w.alloc (.cells #[.bool na, .slice a n cap] 32)).alloc (.cells #[.bool nb, .slice b m cap'] 32)).alloc (.cells #[.bool false, .slice none 0 0] 32)) = W at *
  have HAd : Hid (W.drew.heap[w.heap.size]? = some (.cells #[.bool na, .slice a n cap] 32 (0, 0))) := Lib.hid HAo.out
  have HBd : Hid (W.drew.heap[w.heap.size + 1]? = some (.cells #[.bool nb, .slice b m cap'] 32 (0, 0))) := Lib.hid HBo.out
  have HRd : Hid (W.drew.heap[w.heap.size + 1 + 1]? = some (.cells #[.bool false, .slice none 0 0] 32 (0, 0))) := Lib.hid HRo.out
  have Hd : Below W.heap.size W W.drew := (Below.refl _ _).drew
  have Sd := four_cells HAd.out HBd.out
  clear HAo HBo HRo
  go_region_held3 (fun w' => w'.cell? ⟨w.heap.size, 0, none⟩ = some (.bool na) ∧ w'.cell? ⟨w.heap.size, 1, none⟩ = some (.slice a n cap) ∧ w'.cell? ⟨w.heap.size + 1, 0, none⟩ = some (.bool nb) ∧ w'.cell? ⟨w.heap.size + 1, 1, none⟩ = some (.slice b m cap')) (first | exact Sd | exact Sq0 | exact Sq1 | exact Sq2 | exact Sq3 _ _)
    (first
    | (go_at_call 36; (refine (prod_mul a n cap la b m cap' lb _ (Ha.out.later Hd) (Hb.out.later Hd) ?q3 ?q4).mono ?_); (case q3 => omega); (case q4 => omega); rintro e w1 ⟨a1, n1, c1, rfl, h1, bq1⟩; have hA1 := blk_later HAd.out bq1; have hB1 := blk_later HBd.out bq1; have Sq1 := four_cells hA1 hB1)
    | (go_at_call 57; (refine (whole_signed _ a1 n1 c1 _ _ h1 ?q5).mono ?_); (case q5 => have h7 := h1.len; have h8 := hpl.out; omega); rintro e w2 ⟨a2, n2, c2, rfl, h2, b2⟩; have Sq2 := four_cells (blk_later hA1 b2) (blk_later hB1 b2); have Sq3 := four_stored (g := w.heap.size + 1 + 1) (blk_later hA1 b2) (blk_later hB1 b2) (by omega) (by omega); have hRb := blk_later (blk_later HRd.out bq1) b2; have r0 := blk_cell hRb 0; have r1 := blk_cell hRb 1; have f0 := blk_free hRb 0; have f1 := blk_free hRb 1; simp only [List.getElem?_toArray, List.getElem?_cons_zero, List.getElem?_cons_succ] at r0 r1; unfold whV))
  have hBe := Lib.hid (below_then HB.out (below_then Hd (below_then bq1 b2)))
  have H2 := Lib.hid h2
  have hl2 := Lib.hid hRb
  have HF := Lib.hid (H2.out.stored2 hl2.out (zneg (zval (!(na == nb)) (val la * val lb))) (.slice a2 n2 c2))
  have HG := Lib.hid (blk_set2 hl2.out (.bool (zneg (zval (!(na == nb)) (val la * val lb)))) (.slice a2 n2 c2))
  have HB2 := Lib.hid (below_set2 hBe.out (show w.heap.size ≤ w.heap.size + 1 + 1 by omega) (.bool (zneg (zval (!(na == nb)) (val la * val lb)))) (.slice a2 n2 c2))
  rw [HV.out] at HF HG HB2
  rw [HV.out]
  generalize zval na (val la) * zval nb (val lb) = z at *
  go_wp2
  refine bodyPost_ret (results_cell_row Try.results49 _ _ (w.heap.size + 1 + 1) 32 #[.bool (zneg z), .slice a2 n2 c2] (0, 0) _ rfl HG.out Try.underlying32 rfl (by kernel_rfl)) rfl ?_
  exact ⟨a2, n2, c2, rfl, HF.out, HB2.out⟩
theorem sgn_vals {na nb : Bool} {u v : Nat} (h : sgn (zval na u) = sgn (zval nb v)) : sgn (zval na u) * cmpI u v = sgn (zval na u - zval nb v) := by
  unfold sgn zval cmpI at *
  cases na <;> cases nb <;> simp at h ⊢ <;> (repeat' split at h) <;> (repeat' split) <;> omega
theorem sgn_diff {x y : Int} (h : sgn x ≠ sgn y) : sgn (sgn x - sgn y) = sgn (x - y) := by
  unfold sgn at *
  (repeat' split at h) <;> (repeat' split) <;> omega
set_option maxRecDepth 4096 in
set_option maxHeartbeats 4000000 in
theorem whole_cmp (na : Bool) (a : Option Addr) (n cap : Nat) (la : List Nat) (nb : Bool) (b : Option Addr) (m cap' : Nat) (lb : List Nat) (w : World) (ha : Wd w a n cap la) (hb : Wd w b m cap' lb) (hn : n ≤ 104857600000) (hm : m ≤ 104857600000) :
    Calls Try.prog 47 #[whV na a n cap, whV nb b m cap'] w (Gives (.int .i64 (sgn (zval na (val la) - zval nb (val lb)))) w) := by
  have hB3 : Below w.heap.size w ((w.alloc (.cells #[.bool na, .slice a n cap] 32)).alloc (.cells #[.bool nb, .slice b m cap'] 32)) := below_then (below_alloc _ _) (below_alloc _ _)
  have Ha := Lib.hid (ha.later hB3)
  have Hb := Lib.hid (hb.later hB3)
  have HB := Lib.hid hB3
  have h3b := boxes_at w ((w.alloc (.cells #[.bool na, .slice a n cap] 32)).alloc (.cells #[.bool nb, .slice b m cap'] 32)) #[.bool na, .slice a n cap] #[.bool nb, .slice b m cap'] 32 32 (Below.refl _ _)
  have HAo := Lib.hid h3b.1
  have HBo := Lib.hid h3b.2
  have HE : Hid (sgn (zval na (val la)) = sgn (zval nb (val lb)) → sgn (zval na (val la)) * cmpI (val la) (val lb) = sgn (zval na (val la) - zval nb (val lb))) := Lib.hid sgn_vals
  have HN : Hid (sgn (zval na (val la)) ≠ sgn (zval nb (val lb)) → sgn (sgn (zval na (val la)) - sgn (zval nb (val lb))) = sgn (zval na (val la) - zval nb (val lb))) := Lib.hid sgn_diff
  have hra := sgn_range (zval na (val la))
  have hrb := sgn_range (zval nb (val lb))
  clear ha hb hB3 h3b
  go_enter Try.func47, Try.ntmps47
  unfold whV
  go_wp2
  generalize ((w.alloc (.cells #[.bool na, .slice a n cap] 32)).alloc (.cells #[.bool nb, .slice b m cap'] 32)) = W at *
  have HAd : Hid (W.drew.heap[w.heap.size]? = some (.cells #[.bool na, .slice a n cap] 32 (0, 0))) := Lib.hid HAo.out
  have HBd : Hid (W.drew.heap[w.heap.size + 1]? = some (.cells #[.bool nb, .slice b m cap'] 32 (0, 0))) := Lib.hid HBo.out
  have Hd : Below W.heap.size W W.drew := (Below.refl _ _).drew
  have Sd := four_cells HAd.out HBd.out
  clear HAo HBo
  go_region_held3 (fun w' => w'.cell? ⟨w.heap.size, 0, none⟩ = some (.bool na) ∧ w'.cell? ⟨w.heap.size, 1, none⟩ = some (.slice a n cap) ∧ w'.cell? ⟨w.heap.size + 1, 0, none⟩ = some (.bool nb) ∧ w'.cell? ⟨w.heap.size + 1, 1, none⟩ = some (.slice b m cap')) (first | exact Sd | exact Sq1 | exact Sq2)
    (first
    | (go_at_call 54; (first
    | (have qm := M1; (refine (whole_sign nb b m cap' lb _ (Hb.out.later (below_then Hd b1)) ?q3).mono ?_); (case q3 => omega); rintro e w2 ⟨rfl, b2⟩; have Sq2 := four_cells (blk_later hA1 b2) (blk_later hB1 b2))
    | ((refine (whole_sign na a n cap la _ (Ha.out.later Hd) ?q4).mono ?_); (case q4 => omega); rintro e w1 ⟨rfl, b1⟩; have M1 := True.intro; have hA1 := blk_later HAd.out b1; have hB1 := blk_later HBd.out b1; have Sq1 := four_cells hA1 hB1))))
  have HBe := Lib.hid (below_then HB.out (below_then Hd (below_then b1 b2)))
  have Ha2 := Lib.hid (Ha.out.later (below_then Hd (below_then b1 b2)))
  have Hb2 := Lib.hid (Hb.out.later (below_then Hd (below_then b1 b2)))
  clear Hd b1 b2 HAd HBd Sd hA1 hB1 Sq1 M1 Ha Hb HB
  generalize hx : sgn (zval na (val la)) = x at *
  generalize hy : sgn (zval nb (val lb)) = y at *
  clear hx hy
  by_cases hxy : x = y
  · have hq : (x == y) = true := by simp [hxy]
    have HE2 := Lib.hid (HE.out hxy)
    have hc : -1 ≤ cmpI (val la) (val lb) ∧ cmpI (val la) (val lb) ≤ 1 := by unfold cmpI; split <;> (try split) <;> omega
    clear HE HN hxy
    obtain ⟨s0, s1, s2, s3⟩ := Sq2
    go_wp2_with fail
    refine (natSaid.cmp _ _ _ _ _ _ _ _ _ Ha2.out Hb2.out (by omega) (by omega)).mono ?_
    rintro e w3 ⟨rfl, b3⟩
    generalize cmpI (val la) (val lb) = c at *
    have hm1 : -1 ≤ x * c ∧ x * c ≤ 1 := by
      rcases (show x = -1 ∨ x = 0 ∨ x = 1 by omega) with rfl | rfl | rfl <;> omega
    go_wp2
    go_ret
    exact ⟨by rw [← HE2.out]; rfl, below_then HBe.out b3⟩
  · have hq : (x == y) = false := by simp [hxy]
    have HN2 := Lib.hid (HN.out hxy)
    clear HE HN hxy
    go_wp2_with fail
    refine (cmp_Compare x y _).mono ?_
    rintro e w' ⟨rfl, rfl⟩
    go_wp2
    go_ret
    exact ⟨by rw [← HN2.out]; rfl, HBe.out⟩
end Go.Proofs.Ytipcgehcineblaa

/-
  The contracts of the document's answer for layer 8: Add.
-/
namespace Go.Proofs.Ytipcgehcineblaa
open Go.RowKit

end Go.Proofs.Ytipcgehcineblaa

/-
  Package whole at this seat: Add, Sub.
-/
namespace Go.Proofs.Ytipcgehcineblaa
open Go.RowKit

set_option maxRecDepth 4096 in
set_option maxHeartbeats 4000000 in
theorem whole_add (na : Bool) (a : Option Addr) (n cap : Nat) (la : List Nat) (nb : Bool) (b : Option Addr) (m cap' : Nat) (lb : List Nat) (w : World) (ha : Wd w a n cap la) (hb : Wd w b m cap' lb) (hn : n ≤ 104857600000) (hm : m ≤ 104857600000) :
    Calls Try.prog 34 #[whV na a n cap, whV nb b m cap'] w (LstZ (zval na (val la) + zval nb (val lb)) w) := by
  have hB3 : Below w.heap.size w (((w.alloc (.cells #[.bool na, .slice a n cap] 32)).alloc (.cells #[.bool nb, .slice b m cap'] 32)).alloc (.cells #[.bool false, .slice none 0 0] 32)) := below_then (below_then (below_alloc _ _) (below_alloc _ _)) (below_alloc _ _)
  have Ha := Lib.hid (ha.later hB3)
  have Hb := Lib.hid (hb.later hB3)
  have HB := Lib.hid hB3
  have h3b := boxes3_at w #[.bool na, .slice a n cap] #[.bool nb, .slice b m cap'] #[.bool false, .slice none 0 0] 32 32 32
  have HAo := Lib.hid h3b.1
  have HBo := Lib.hid h3b.2.1
  have HRo := Lib.hid h3b.2.2
  have hla := ha.trim_le
  have hlb := hb.trim_le
  have Hla := Lib.hid ha.len
  have Hlb := Lib.hid hb.len
  clear ha hb hB3 h3b
  by_cases hne : na = nb
  · subst hne
    have HV : Hid (zval na (val la + val lb) = zval na (val la) + zval na (val lb)) := Lib.hid (zval_add_same na _ _)
    have hva : Hid (vals [la, lb] = val la + val lb) := Lib.hid (by simp [vals])
    have hpl : Hid ((dg (vals [la, lb])).length ≤ 209715200001) := Lib.hid (by have := dg_add_length (val la) (val lb); rw [hva.out]; omega)
    have hq : (na == na) = true := by simp
    clear hla hlb
    go_enter Try.func34, Try.ntmps34
    unfold whV
    go_wp2
    generalize (((w.alloc (.cells #[.bool na, .slice a n cap] 32)).alloc (.cells #[.bool na, .slice b m cap'] 32)).alloc (.cells #[.bool false, .slice none 0 0] 32)) = W at *
    have HAd : Hid (W.drew.heap[w.heap.size]? = some (.cells #[.bool na, .slice a n cap] 32 (0, 0))) := Lib.hid HAo.out
    have HBd : Hid (W.drew.heap[w.heap.size + 1]? = some (.cells #[.bool na, .slice b m cap'] 32 (0, 0))) := Lib.hid HBo.out
    have HRd : Hid (W.drew.heap[w.heap.size + 1 + 1]? = some (.cells #[.bool false, .slice none 0 0] 32 (0, 0))) := Lib.hid HRo.out
    have Hd : Below W.heap.size W W.drew := (Below.refl _ _).drew
    have Sd := four_cells HAd.out HBd.out
    clear HAo HBo HRo
    have Sal := fun o => four_cells (blk_later HAd.out (below_alloc W.drew o)) (blk_later HBd.out (below_alloc W.drew o))
    go_region_held3 (fun w' => w'.cell? ⟨w.heap.size, 0, none⟩ = some (.bool na) ∧ w'.cell? ⟨w.heap.size, 1, none⟩ = some (.slice a n cap) ∧ w'.cell? ⟨w.heap.size + 1, 0, none⟩ = some (.bool na) ∧ w'.cell? ⟨w.heap.size + 1, 1, none⟩ = some (.slice b m cap')) (first | exact Sd | exact Sal _ | exact Sq1 | exact Sq2 | exact Sq3 _ _)
      (first
      | (go_at_call 58; (refine (natSaid.add _ _ _ _ _ (Wds.lit2 W.drew 23 (Ha.out.later Hd) (Hb.out.later Hd)) (by omega) ?q3).mono ?_); (case q3 => have h7 := Hla.out; have h8 := Hlb.out; simp only [words]; omega); rintro e w1 ⟨a1, n1, c1, rfl, h1, b1⟩; have bq1 := below_then (below_alloc W.drew _) b1; have hA1 := blk_later HAd.out bq1; have hB1 := blk_later HBd.out bq1; have Sq1 := four_cells hA1 hB1)
      | (go_at_call 57; (refine (whole_signed na a1 n1 c1 _ _ h1 ?q5).mono ?_); (case q5 => have h7 := h1.len; have h8 := hpl.out; omega); rintro e w2 ⟨a2, n2, c2, rfl, h2, b2⟩; have Sq2 := four_cells (blk_later hA1 b2) (blk_later hB1 b2); have Sq3 := four_stored (g := w.heap.size + 1 + 1) (blk_later hA1 b2) (blk_later hB1 b2) (by omega) (by omega); have hRb := blk_later (blk_later HRd.out bq1) b2; have r0 := blk_cell hRb 0; have r1 := blk_cell hRb 1; have f0 := blk_free hRb 0; have f1 := blk_free hRb 1; simp only [List.getElem?_toArray, List.getElem?_cons_zero, List.getElem?_cons_succ] at r0 r1; unfold whV))
    have hBe := Lib.hid (below_then HB.out (below_then Hd (below_then bq1 b2)))
    have H2 := Lib.hid h2
    have hl2 := Lib.hid hRb
    have HF := Lib.hid (H2.out.stored2 hl2.out (zneg (zval na (vals [la, lb]))) (.slice a2 n2 c2))
    have HG := Lib.hid (blk_set2 hl2.out (.bool (zneg (zval na (vals [la, lb])))) (.slice a2 n2 c2))
    have HB2 := Lib.hid (below_set2 hBe.out (show w.heap.size ≤ w.heap.size + 1 + 1 by omega) (.bool (zneg (zval na (vals [la, lb])))) (.slice a2 n2 c2))
    rw [hva.out, HV.out] at HF HG HB2
    rw [hva.out, HV.out]
    generalize zval na (val la) + zval na (val lb) = z at *
    go_wp2
    refine bodyPost_ret (results_cell_row Try.results34 _ _ (w.heap.size + 1 + 1) 32 #[.bool (zneg z), .slice a2 n2 c2] (0, 0) _ rfl HG.out Try.underlying32 rfl (by kernel_rfl)) rfl ?_
    exact ⟨a2, n2, c2, rfl, HF.out, HB2.out⟩
  · have hq : (na == nb) = false := by simp [hne]
    have Hne := Lib.hid hne
    have hpl : Hid ((dg (val la - val lb + (val lb - val la))).length ≤ 209715200001) := Lib.hid (by
      have h1 := dg_length_mono (show val la - val lb + (val lb - val la) ≤ val la + val lb by omega)
      have h2 := dg_add_length (val la) (val lb)
      omega)
    clear hne hla hlb
    go_enter Try.func34, Try.ntmps34
    unfold whV
    by_cases hlt : val la < val lb
    · have hc : cmpI (val la) (val lb) < 0 := by rw [cmpI_lt hlt]; omega
      have Hlt := Lib.hid hlt
      clear hlt
      go_wp2_with fail
      refine (natSaid.gap a n cap la b m cap' lb _ Ha.out Hb.out (by omega) (by omega)).mono ?_
      rintro e w1 ⟨a1, n1, c1, rfl, h1, b1⟩
      obtain ⟨s0, s1, s2, s3⟩ := four_cells (blk_later HAo.out b1) (blk_later HBo.out b1)
      have HR1 := Lib.hid (blk_later HRo.out b1)
      have hn1 : n1 ≤ 209715200001 := by rw [← h1.len]; exact hpl.out
      have H1 := Lib.hid h1
      have HV : Hid (zval nb (val la - val lb + (val lb - val la)) = zval na (val la) + zval nb (val lb)) := Lib.hid (by rw [Nat.sub_eq_zero_of_le (Nat.le_of_lt Hlt.out), Nat.zero_add]; exact zval_add_less Hne.out Hlt.out)
      clear h1 HAo HBo HRo Ha Hb
      generalize cmpI (val la) (val lb) = cc at *
      go_wp2_with fail
      refine (whole_signed nb a1 n1 c1 _ _ H1.out (by omega)).mono ?_
      rintro e w2 ⟨a2, n2, c2, rfl, h2, b2⟩
      clear s0 s1 s2 s3
      have hRb := blk_later HR1.out b2
      have r0 := blk_cell hRb 0
      have r1 := blk_cell hRb 1
      have f0 := blk_free hRb 0
      have f1 := blk_free hRb 1
      simp only [List.getElem?_toArray, List.getElem?_cons_zero, List.getElem?_cons_succ] at r0 r1
      have hBe := Lib.hid (below_then HB.out (below_then b1 b2))
      have H2 := Lib.hid h2
      have hl2 := Lib.hid hRb
      have HF := Lib.hid (H2.out.stored2 hl2.out (zneg (zval nb (val la - val lb + (val lb - val la)))) (.slice a2 n2 c2))
      have HG := Lib.hid (blk_set2 hl2.out (.bool (zneg (zval nb (val la - val lb + (val lb - val la))))) (.slice a2 n2 c2))
      have HB2 := Lib.hid (below_set2 hBe.out (show w.heap.size ≤ w.heap.size + 1 + 1 by omega) (.bool (zneg (zval nb (val la - val lb + (val lb - val la))))) (.slice a2 n2 c2))
      clear hRb h2 b1 b2 hBe
      rw [HV.out] at HF HG HB2
      rw [HV.out]
      generalize zval na (val la) + zval nb (val lb) = z at *
      unfold whV
      go_wp2
      refine bodyPost_ret (results_cell_row Try.results34 _ _ (w.heap.size + 1 + 1) 32 #[.bool (zneg z), .slice a2 n2 c2] (0, 0) _ rfl HG.out Try.underlying32 rfl (by kernel_rfl)) rfl ?_
      exact ⟨a2, n2, c2, rfl, HF.out, HB2.out⟩
    · have hc : ¬ cmpI (val la) (val lb) < 0 := by unfold cmpI; split <;> (try split) <;> omega
      have Hle : Hid (val lb ≤ val la) := Lib.hid (by omega)
      clear hlt
      go_wp2_with fail
      refine (natSaid.gap a n cap la b m cap' lb _ Ha.out Hb.out (by omega) (by omega)).mono ?_
      rintro e w1 ⟨a1, n1, c1, rfl, h1, b1⟩
      obtain ⟨s0, s1, s2, s3⟩ := four_cells (blk_later HAo.out b1) (blk_later HBo.out b1)
      have HR1 := Lib.hid (blk_later HRo.out b1)
      have hn1 : n1 ≤ 209715200001 := by rw [← h1.len]; exact hpl.out
      have H1 := Lib.hid h1
      have HV : Hid (zval na (val la - val lb + (val lb - val la)) = zval na (val la) + zval nb (val lb)) := Lib.hid (by rw [Nat.sub_eq_zero_of_le Hle.out, Nat.add_zero]; exact zval_add_more Hne.out Hle.out)
      clear h1 HAo HBo HRo Ha Hb
      generalize cmpI (val la) (val lb) = cc at *
      go_wp2_with fail
      refine (whole_signed na a1 n1 c1 _ _ H1.out (by omega)).mono ?_
      rintro e w2 ⟨a2, n2, c2, rfl, h2, b2⟩
      clear s0 s1 s2 s3
      have hRb := blk_later HR1.out b2
      have r0 := blk_cell hRb 0
      have r1 := blk_cell hRb 1
      have f0 := blk_free hRb 0
      have f1 := blk_free hRb 1
      simp only [List.getElem?_toArray, List.getElem?_cons_zero, List.getElem?_cons_succ] at r0 r1
      have hBe := Lib.hid (below_then HB.out (below_then b1 b2))
      have H2 := Lib.hid h2
      have hl2 := Lib.hid hRb
      have HF := Lib.hid (H2.out.stored2 hl2.out (zneg (zval na (val la - val lb + (val lb - val la)))) (.slice a2 n2 c2))
      have HG := Lib.hid (blk_set2 hl2.out (.bool (zneg (zval na (val la - val lb + (val lb - val la))))) (.slice a2 n2 c2))
      have HB2 := Lib.hid (below_set2 hBe.out (show w.heap.size ≤ w.heap.size + 1 + 1 by omega) (.bool (zneg (zval na (val la - val lb + (val lb - val la))))) (.slice a2 n2 c2))
      clear hRb h2 b1 b2 hBe
      rw [HV.out] at HF HG HB2
      rw [HV.out]
      generalize zval na (val la) + zval nb (val lb) = z at *
      unfold whV
      go_wp2
      refine bodyPost_ret (results_cell_row Try.results34 _ _ (w.heap.size + 1 + 1) 32 #[.bool (zneg z), .slice a2 n2 c2] (0, 0) _ rfl HG.out Try.underlying32 rfl (by kernel_rfl)) rfl ?_
      exact ⟨a2, n2, c2, rfl, HF.out, HB2.out⟩
end Go.Proofs.Ytipcgehcineblaa

/-
  Package whole at this seat: Of, Int, Text.
-/
namespace Go.Proofs.Ytipcgehcineblaa
open Go.RowKit

set_option maxRecDepth 4096 in
theorem whole_of (z : Int) (w : World) (hz : isInt z) : Calls Try.prog 43 #[.int .i64 z] w (LstZ z w) := by
  unfold isInt at hz
  by_cases hlt : z < 0
  · skip
    have HA : Hid (zval true z.natAbs = z) := Lib.hid (by unfold zval; simp; omega)
    have hv : ((z.natAbs : Nat) : Int) = -z := by omega
    have hvb : z.natAbs ≤ 18446744073709551615 := by omega
    generalize z.natAbs = v at *
    have hw : IntKind.u64.wrap (-IntKind.u64.wrap z) = (v : Int) := by rw [IntKind.wrap_u64, IntKind.wrap_u64]; omega
    go_enter Try.func43, Try.ntmps43
    go_wp2_with fail
    rw [← hv]
    refine (natSaid.of v _ hvb).mono ?_
    rintro e w1 ⟨a1, n1, c1, rfl, h1, b1⟩
    have hn1 : n1 ≤ 2 := by rw [← h1.len]; exact dg_length_le (by omega)
    have hR := box_at w w1 _ _ b1
    have H1 := Lib.hid h1
    go_wp2_with fail
    refine (whole_signed true a1 n1 c1 _ _ H1.out (by omega)).mono ?_
    rintro e w2 ⟨a2, n2, c2, rfl, h2, b2⟩
    have hRb := blk_later hR b2
    have r0 := blk_cell hRb 0
    have r1 := blk_cell hRb 1
    have f0 := blk_free hRb 0
    have f1 := blk_free hRb 1
    simp only [List.getElem?_toArray, List.getElem?_cons_zero, List.getElem?_cons_succ] at r0 r1
    have hBe := Lib.hid (below_then (below_alloc w _) (below_then b1 b2))
    have H2 := Lib.hid h2
    have hl2 := Lib.hid hRb
    have HF := Lib.hid (H2.out.stored2 hl2.out (zneg (zval true v)) (.slice a2 n2 c2))
    have HG := Lib.hid (blk_set2 hl2.out (.bool (zneg (zval true v))) (.slice a2 n2 c2))
    have HB2 := Lib.hid (below_set2 hBe.out (show w.heap.size ≤ w.heap.size by omega) (.bool (zneg (zval true v))) (.slice a2 n2 c2))
    clear hRb h2 b1 b2 hBe hR h1
    rw [HA.out] at HF HG HB2
    rw [HA.out]
    generalize hzz : zneg z = zb at *
    have Hzz := Lib.hid hzz
    clear hzz
    unfold whV
    go_wp2
    refine bodyPost_ret (results_cell_row Try.results43 _ _ (w.heap.size) 32 #[.bool zb, .slice a2 n2 c2] (0, 0) _ rfl HG.out Try.underlying32 rfl (by kernel_rfl)) rfl ?_
    exact ⟨a2, n2, c2, by rw [Hzz.out]; rfl, HF.out, HB2.out⟩
  · skip
    have HA : Hid (zval false z.natAbs = z) := Lib.hid (by unfold zval; simp; omega)
    have hv : ((z.natAbs : Nat) : Int) = z := by omega
    have hvb : z.natAbs ≤ 18446744073709551615 := by omega
    generalize z.natAbs = v at *
    have hw : IntKind.u64.wrap z = (v : Int) := by rw [IntKind.wrap_u64]; omega
    go_enter Try.func43, Try.ntmps43
    go_wp2_with fail
    rw [← hv]
    refine (natSaid.of v _ hvb).mono ?_
    rintro e w1 ⟨a1, n1, c1, rfl, h1, b1⟩
    have hn1 : n1 ≤ 2 := by rw [← h1.len]; exact dg_length_le (by omega)
    have hR := box_at w w1 _ _ b1
    have H1 := Lib.hid h1
    go_wp2_with fail
    refine (whole_signed false a1 n1 c1 _ _ H1.out (by omega)).mono ?_
    rintro e w2 ⟨a2, n2, c2, rfl, h2, b2⟩
    have hRb := blk_later hR b2
    have r0 := blk_cell hRb 0
    have r1 := blk_cell hRb 1
    have f0 := blk_free hRb 0
    have f1 := blk_free hRb 1
    simp only [List.getElem?_toArray, List.getElem?_cons_zero, List.getElem?_cons_succ] at r0 r1
    have hBe := Lib.hid (below_then (below_alloc w _) (below_then b1 b2))
    have H2 := Lib.hid h2
    have hl2 := Lib.hid hRb
    have HF := Lib.hid (H2.out.stored2 hl2.out (zneg (zval false v)) (.slice a2 n2 c2))
    have HG := Lib.hid (blk_set2 hl2.out (.bool (zneg (zval false v))) (.slice a2 n2 c2))
    have HB2 := Lib.hid (below_set2 hBe.out (show w.heap.size ≤ w.heap.size by omega) (.bool (zneg (zval false v))) (.slice a2 n2 c2))
    clear hRb h2 b1 b2 hBe hR h1
    rw [HA.out] at HF HG HB2
    rw [HA.out]
    generalize hzz : zneg z = zb at *
    have Hzz := Lib.hid hzz
    clear hzz
    unfold whV
    go_wp2
    refine bodyPost_ret (results_cell_row Try.results43 _ _ (w.heap.size) 32 #[.bool zb, .slice a2 n2 c2] (0, 0) _ rfl HG.out Try.underlying32 rfl (by kernel_rfl)) rfl ?_
    exact ⟨a2, n2, c2, by rw [Hzz.out]; rfl, HF.out, HB2.out⟩
end Go.Proofs.Ytipcgehcineblaa

/-
  The contracts of package twos (layer 3) at this seat: telling functions.
-/
namespace Go.Proofs.Ytipcgehcineblaa
open Go.RowKit

theorem limb_len_nat (x : Nat) (w : World) (hx : x < 4294967296) : Calls Try.prog 89 #[.int .u32 (x : Int)] w fun e w' => e = .returned (.int .i64 ((blen x : Nat) : Int)) ∧ w = w' :=
  (limb_len (x : Int) w (by omega) (by omega)).mono fun e w' ⟨he, hw⟩ => ⟨by rw [he]; simp only [Int.toNat_natCast, bitLen_blen (show x < 18446744073709551616 by omega)], hw⟩
theorem twos_len (a : Option Addr) (n cap : Nat) (l : List Nat) (w : World) (h : Wd w a n cap l) (hn : n ≤ 17592183947264) :
    Calls Try.prog 98 #[.slice a n cap] w fun e w' => e = .returned (.int .i64 ((blen (val l) : Nat) : Int)) ∧ w = w' := by
  obtain ⟨hb1, hb2⟩ := h.bound
  have H := Lib.hid h
  clear h
  go_enter Try.func98, Try.ntmps98
  go_wp2
  go_loop [3] (fun i => ∃ k : Nat, k ≤ n ∧ i = .int .i64 ((k : Int) - 1) ∧ Hid (top l k = 0)) (fun i => (intOf i + 1).toNat)
  case atStart => exact ⟨n, by omega, by go_num, Lib.hid (top_ge (by have := H.out.len; omega))⟩
  case round =>
    obtain ⟨k, hk, rfl, Ht⟩ := hrel
    cases k with
    | zero =>
      have Hv : Hid (blen (val l) = 0) := Lib.hid (by rw [← top_zero, Ht.out]; rfl)
      go_wp2
      go_ret
      exact ⟨ret_i64 (by rw [Hv.out]; rfl), rfl⟩
    | succ k =>
      have e1 : ((k + 1 : Nat) : Int) - 1 = (k : Int) := by omega
      rw [e1]
      clear e1
      obtain ⟨b, off, rfl, hc⟩ := H.out.at (by omega)
      have hck := hc k (by omega)
      have hx := atw_lt H.out.ok k
      clear hc
      by_cases hz : atw l k = 0
      · have hzb : (((atw l k : Nat) : Int) == 0) = true := by simp [hz]
        have Hz := Lib.hid hz
        clear hz
        go_wp2
        go_round
        case rel => exact ⟨k, by omega, by go_num, Lib.hid (by rw [top_succ, Hz.out, Ht.out])⟩
        case measure => simp [intOf]
      · have hzb : (((atw l k : Nat) : Int) == 0) = false := by simp [hz]
        have Hfin := Lib.hid (blen_top H.out.ok Ht.out hz)
        have hbl : blen (atw l k) ≤ 32 := blen_le.2 (atw_lt H.out.ok k)
        clear hz
        go_wp2_with fail
        refine (limb_len_nat _ _ hx).mono ?_
        rintro e w' ⟨rfl, rfl⟩
        generalize blen (atw l k) = y at *
        go_wp2
        go_ret
        exact ⟨ret_i64 (by rw [Hfin.out]; omega), rfl⟩
end Go.Proofs.Ytipcgehcineblaa

/-
  The contracts of package twos (layer 3) at this seat: shifts.
-/
namespace Go.Proofs.Ytipcgehcineblaa
open Go.RowKit

theorem twos_words (n : Nat) (w : World) (hn : n ≤ 1048576000000000000) : Calls Try.prog 97 #[.int .i64 (n : Int)] w fun e w' => e = .returned (.int .i64 (((n + 31) / 32 : Nat) : Int)) ∧ w = w' := by
  go_enter Try.func97, Try.ntmps97
  go_wp2
  go_ret
  exact ⟨ret_i64 (by omega), rfl⟩
def TwTrim (a : Option Addr) (cap n : Nat) (l : List Nat) (w : World) (e : Ending) (w' : World) : Prop :=
  ∃ m : Nat, e = .returned (.slice a m cap) ∧ Hid (m = (dg (val l)).length) ∧ m ≤ n ∧ Hid (Wd w a m cap (dg (val l))) ∧ w = w'
theorem twos_trim (a : Option Addr) (n cap : Nat) (l : List Nat) (w : World) (h : Wd w a n cap l) (hn : n ≤ 17592183947264) :
    Calls Try.prog 93 #[.slice a n cap] w (TwTrim a cap n l w) := by
  obtain ⟨hb1, hb2⟩ := h.bound
  have H := Lib.hid h
  have hle : blen (val l) ≤ 32 * n := blen_le.2 (by rw [← pow32, ← h.len]; exact val_lt h.ok)
  have Hm : Hid ((blen (val l) + 31) / 32 = (dg (val l)).length) := Lib.hid (dg_len_blen _).symm
  clear h
  go_enter Try.func93, Try.ntmps93
  go_wp2_with fail
  refine (twos_len _ _ _ _ _ H.out hn).mono ?_
  rintro e w' ⟨rfl, rfl⟩
  generalize blen (val l) = y at *
  go_wp2_with fail
  refine (twos_words y _ (by omega)).mono ?_
  rintro e w' ⟨rfl, rfl⟩
  have hm : (y + 31) / 32 ≤ n := by omega
  generalize (y + 31) / 32 = m at *
  cases a with
  | none =>
    obtain ⟨rfl, rfl, rfl⟩ := H.out.ofNone
    go_wp2
    go_ret
    exact ⟨m, by simp; omega, Hm, hm, Lib.hid (by have := H.out.trim; rwa [← Hm.out] at this), rfl⟩
  | some ad =>
    go_wp2
    go_ret
    exact ⟨m, rfl, Hm, hm, Lib.hid (by have := H.out.trim; rwa [← Hm.out] at this), rfl⟩
theorem limb_mul_nat (x y c : Nat) (w : World) (hx : x < 4294967296) (hy : y < 4294967296) (hc : c < 4294967296) : Calls Try.prog 61 #[.int .u32 (x : Int), .int .u32 (y : Int), .int .u32 (c : Int), .int .u32 0] w fun e w' =>
    ∃ z r : Nat, e = .returned (.tuple #[.int .u32 (z : Int), .int .u32 (r : Int)]) ∧ z < 4294967296 ∧ r < 4294967296 ∧ Hid (r + 4294967296 * z = x * y + c) ∧ w = w' :=
  (limb_mul x y c 0 w (by omega) (by omega) (by omega) (by omega) (by omega) (by omega) (by omega) (by omega)).mono fun e w' ⟨he, hw⟩ => by
    have h1 : x * y ≤ 4294967295 * 4294967295 := Nat.mul_le_mul (by omega) (by omega)
    have e0 : (x : Int) * (y : Int) = ((x * y : Nat) : Int) := by simp
    rw [e0] at he
    generalize x * y = p at *
    exact ⟨(p + c) / 4294967296, (p + c) % 4294967296, by rw [he, show ((p : Int) + c + 0) / 4294967296 = (((p + c) / 4294967296 : Nat) : Int) by omega, show ((p : Int) + c + 0) % 4294967296 = (((p + c) % 4294967296 : Nat) : Int) by omega], by omega, by omega, Lib.hid (by omega), hw⟩
/-- The right list of v comes back, and, if v isn't 0, in a row of the call's own. -/
def LstOwn (v : Nat) (w : World) (e : Ending) (w' : World) : Prop :=
  ∃ (a : Option Addr) (n cap : Nat), e = .returned (.slice a n cap) ∧ Wd w' a n cap (dg v) ∧ Below w.heap.size w w' ∧ (v ≠ 0 → ∃ g, a = some ⟨g, 0, none⟩ ∧ Hid (Own w' w.heap.size g n cap (dg v)))
theorem LstOwn.lst {v : Nat} {w : World} {e : Ending} {w' : World} (h : LstOwn v w e w') : Lst (dg v) w e w' := by
  obtain ⟨a, n, cap, h1, h2, h3, _⟩ := h
  exact ⟨a, n, cap, h1, h2, h3⟩
set_option maxRecDepth 4096 in
set_option maxHeartbeats 2000000 in
theorem twos_up_own (a : Option Addr) (n cap : Nat) (l : List Nat) (k : Int) (w : World) (h : Wd w a n cap l) (hn : n ≤ 1048576000000) :
    Calls Try.prog 90 #[.slice a n cap, .int .i64 k] w (LstOwn (val l * 2 ^ (min k.toNat 4096)) w) := by
  obtain ⟨hb1, hb2⟩ := h.bound
  have H := Lib.hid h
  clear h
  go_enter Try.func90, Try.ntmps90
  go_wp2_with fail
  refine (twos_trim _ _ _ _ _ H.out (by omega)).mono ?_
  rintro e w' ⟨m, rfl, Hm, hmn, HT, rfl⟩
  by_cases hm0 : m = 0
  · subst hm0
    have Hz : Hid (dg (val l * 2 ^ (min k.toNat 4096)) = []) := Lib.hid (by rw [dg_nil_iff.1 Hm.out.symm, Nat.zero_mul, dg_zero])
    go_wp2
    go_ret
    exact ⟨_, _, _, rfl, by rw [Hz.out]; exact Wd.ofNil _, Below.refl _ _, fun h => absurd (dg_nil_iff.1 (by rw [Hz.out]; rfl)) h⟩
  · have hmb : ((m : Int) == 0) = false := by simp [hm0]
    have hv0 : Hid (val l ≠ 0) := Lib.hid (fun h => hm0 (Hm.out.trans (dg_nil_iff.2 h)))
    obtain ⟨M, hM⟩ : ∃ M : Nat, (max k 0 : Int) = (M : Int) := ⟨k.toNat, by omega⟩
    obtain ⟨N, hN⟩ : ∃ N : Nat, (min (M : Int) 4096 : Int) = (N : Int) := ⟨min M 4096, by omega⟩
    have HN : Hid (min k.toNat 4096 = N) := Lib.hid (by omega)
    have hNb : N ≤ 4096 := by omega
    obtain ⟨q, hq⟩ : ∃ q : Nat, (N : Int) / 32 = (q : Int) := ⟨N / 32, by omega⟩
    obtain ⟨r, hr⟩ : ∃ r : Nat, (N : Int) % 32 = (r : Int) := ⟨N % 32, by omega⟩
    have Hqr : Hid (N = 32 * q + r) := Lib.hid (by omega)
    have hr31 : r < 32 := by omega
    have hqb : q ≤ 128 := by omega
    obtain ⟨P, HP, hP⟩ : ∃ P : Nat, Hid (P = 2 ^ r) ∧ (2 : Int) ^ r = (P : Int) := ⟨2 ^ r, rfl, by simp⟩
    have hPb : P < 4294967296 := by rw [HP.out]; exact Nat.lt_of_le_of_lt (Nat.pow_le_pow_right (by decide) (show r ≤ 31 by omega)) (by decide)
    obtain ⟨i0, hi, hz0, hz1, hz2⟩ := info_parts infoU32
    have hx : Hid (okw (dg (val l)) ∧ (dg (val l)).length = m ∧ val (dg (val l)) = val l) := Lib.hid ⟨okw_dg _, Hm.out.symm, val_dg _⟩
    go_wp2_with (at_make; refine wpList_make_words _ rfl _ _ 23 rfl w.heap.size 85 i0 (.int .u32 0) Try.underlying23 hi hz0 hz1 rfl .i64 .i64 _ _ q (q + m + 1) rfl rfl rfl (by omega) (by omega) (by rw [hz2]; omega) (by unfold maxLen; omega) (Nat.le_refl _) ?_; intro w1 hown1 hgrow1)
    rw [zeros_cells] at hown1
    have HO1 : Hid (Own w1 w.heap.size w.heap.size q (q + m + 1) (List.replicate q 0)) := Lib.hid ⟨hown1, okw_zeros q⟩
    have hB1 : Below w.heap.size w w1 := (Below.refl _ _).grown hgrow1 (Nat.le_refl _) (fun k hk => by cases hk)
    clear hown1 hgrow1
    go_loopw [5, 6, 29] (fun s cv i wr => ∃ (j c g cap2 : Nat) (o : List Nat), j ≤ m ∧ i = .int .i64 (j : Int) ∧ cv = .int .u32 (c : Int) ∧ c < 4294967296 ∧ s = .slice (some ⟨g, 0, none⟩) (q + j) cap2 ∧ Hid (o.length = q + j) ∧ Hid (val o + 4294967296 ^ (q + j) * c = low (dg (val l)) j * 2 ^ (32 * q + r)) ∧ Hid (Own wr w.heap.size g (q + j) cap2 o) ∧ Below w.heap.size w wr) (fun _ _ i _ => m - (intOf i).toNat)
    case atStart => exact ⟨0, 0, _, _, List.replicate q 0, by omega, rfl, rfl, by omega, rfl, Lib.hid (by simp), Lib.hid (by rw [val_zeros, low_zero]; simp), HO1, hB1⟩
    case round =>
      clear HO1 hB1
      obtain ⟨j, c, g, cap2, o, hj, rfl, rfl, hc, rfl, Hol, Hv, HO, hB⟩ := hrel
      by_cases hlt : j < m
      · obtain ⟨b, off, rfl, hcl⟩ := (HT.out.later hB).at (by omega)
        have hck := hcl j hlt
        have hxw := atw_lt hx.out.1 j
        obtain ⟨x, hxx⟩ : ∃ x, x = atw (dg (val l)) j := ⟨_, rfl⟩
        rw [← hxx] at hxw hck
        have Hx := Lib.hid hxx
        have hj1 : (j : Int) < (m : Int) := by omega
        have hbase : w.heap.size ≤ wr.heap.size := hB.size
        clear hcl hxx
        go_wp2_with fail
        refine (limb_mul_nat x P c _ hxw hPb hc).mono ?_
        rintro e w' ⟨c2, y, rfl, hc2, hy, Hs, rfl⟩
        go_wp2_with (at_builtin; refine wpList_append_own _ rfl _ _ 23 rfl w.heap.size 85 i0 (.int .u32 0) 1 4 Try.underlying23 hi hz0 hz1 hz2 rfl (by decide) _ (q + j) _ rfl (HO.out.1.alloc _) ⟨wr.heap.size, 0, none⟩ 1 1 (wcells [y]) rfl rfl (Wd.lit1 wr 85 (x := y) hy).cells (wcells_one _) (by unfold maxLen; omega) (by omega) (by simp; omega) ?_)
        intro v' w2 hown hgrow _
        obtain ⟨g2, cap3, rfl, HO2⟩ := Own.push (r := y) hown HO.out.2 hy
        have HO' := Lib.hid HO2
        have hb := HO.out.base
        have hB1 : Below w.heap.size w w2 := (hB.alloc hbase _).grown hgrow (by simp; omega) (by intro k hk; simp [Value.ownBlock] at hk; omega)
        clear HO2 hown hgrow
        go_wp2
        go_roundw
        case rel => exact ⟨j + 1, c2, g2, cap3, o ++ [y], by omega, by go_num, rfl, hc2, rfl, Lib.hid (by have := Hol.out; simp; omega), Lib.hid (up_step Hol.out Hv.out (by rw [← Hx.out, ← HP.out]; exact Hs.out)), HO', hB1⟩
        case measure => simp [intOf]; omega
      · obtain rfl : j = m := by omega
        have Hv2 : Hid (val o + 4294967296 ^ (q + j) * c = val l * 2 ^ N) := Lib.hid (by rw [Hv.out, low_ge (by rw [hx.out.2.1]; omega), hx.out.2.2, Hqr.out])
        clear hlt Hv
        by_cases hc0 : c = 0
        · subst hc0
          have Hfin : Hid (o = dg (val l * 2 ^ N)) := Lib.hid (up_end0 HO.out.2 hx.out.2.1 hv0.out (by rw [Hqr.out]; omega) Hol.out (by simpa using Hv2.out))
          go_wp2
          go_ret
          exact ⟨_, _, _, rfl, by rw [HN.out, ← Hfin.out]; exact HO.out.wd, hB, fun _ => ⟨_, rfl, Lib.hid (by rw [HN.out, ← Hfin.out]; exact HO.out)⟩⟩
        · have Hfin : Hid (o ++ [c] = dg (val l * 2 ^ N)) := Lib.hid (up_end1 HO.out.2 hc hc0 (by rw [Hol.out]; exact Hv2.out))
          have hcp : 0 < c := by omega
          have hcpi : (0 : Int) < (c : Int) := by omega
          have hbase : w.heap.size ≤ wr.heap.size := hB.size
          clear hc0
          go_wp2_with (at_builtin; refine wpList_append_own _ rfl _ _ 23 rfl w.heap.size 85 i0 (.int .u32 0) 1 4 Try.underlying23 hi hz0 hz1 hz2 rfl (by decide) _ (q + j) _ rfl (HO.out.1.alloc _) ⟨_, 0, none⟩ 1 1 (wcells [c]) rfl rfl (Wd.lit1 _ 85 (x := c) hc).cells (wcells_one _) (by unfold maxLen; omega) (by omega) (by simp; omega) ?_)
          intro v' w2 hown hgrow _
          obtain ⟨g2, cap3, rfl, HO2⟩ := Own.push (r := c) hown HO.out.2 hc
          have HO' := Lib.hid HO2
          have hb := HO.out.base
          have hB1 : Below w.heap.size w w2 := (hB.alloc hbase _).grown hgrow (by simp; omega) (by intro k hk; simp [Value.ownBlock] at hk; omega)
          clear HO2 hown hgrow
          go_wp2
          go_ret
          exact ⟨_, _, _, rfl, by rw [HN.out, ← Hfin.out]; exact HO'.out.wd, hB1, fun _ => ⟨_, rfl, Lib.hid (by rw [HN.out, ← Hfin.out]; exact HO'.out)⟩⟩
theorem twos_up (a : Option Addr) (n cap : Nat) (l : List Nat) (k : Int) (w : World) (h : Wd w a n cap l) (hn : n ≤ 1048576000000) :
    Calls Try.prog 90 #[.slice a n cap, .int .i64 k] w (Lst (dg (val l * 2 ^ (min k.toNat 4096))) w) :=
  (twos_up_own a n cap l k w h hn).mono fun _ _ hp => hp.lst
theorem Wd.drop {w : World} {b off m cap q : Nat} {l : List Nat} (h : Wd w (some ⟨b, off, none⟩) (q + m) cap l) : Wd w (some ⟨b, off + q, none⟩) m (cap - q) (l.drop q) := by
  have h1 := h.bound
  have h2 := h.len
  refine ⟨by rw [List.length_drop]; omega, by omega, by omega, okw_drop h.ok q, fun e => (by cases e), ?_⟩
  by_cases h0 : m = 0
  · exact .inl h0
  · obtain ⟨b', off', e, hc⟩ := h.at (by omega)
    simp only [Option.some.injEq, Addr.mk.injEq, and_true] at e
    obtain ⟨rfl, rfl⟩ := e
    exact .inr ⟨b, off + q, rfl, fun j hj => by rw [Nat.add_assoc, hc (q + j) (by omega), atw_drop]⟩
set_option maxRecDepth 4096 in
set_option maxHeartbeats 2000000 in
theorem twos_down (a : Option Addr) (n cap : Nat) (l : List Nat) (k : Int) (w : World) (h : Wd w a n cap l) (hn : n ≤ 1048576000000) (hk : k ≤ 9223372036854775807) :
    Calls Try.prog 92 #[.slice a n cap, .int .i64 k] w (Lst (dg (val l / 2 ^ k.toNat)) w) := by
  obtain ⟨hb1, hb2⟩ := h.bound
  have H := Lib.hid h
  clear h
  obtain ⟨M, hM⟩ : ∃ M : Nat, (max k 0 : Int) = (M : Int) := ⟨k.toNat, by omega⟩
  have HM : Hid (k.toNat = M) := Lib.hid (by omega)
  have hMb : M ≤ 9223372036854775807 := by omega
  obtain ⟨q, hq⟩ : ∃ q : Nat, (M : Int) / 32 = (q : Int) := ⟨M / 32, by omega⟩
  obtain ⟨r, hr⟩ : ∃ r : Nat, (M : Int) % 32 = (r : Int) := ⟨M % 32, by omega⟩
  have Hqr : Hid (M = 32 * q + r) := Lib.hid (by omega)
  have hr31 : r < 32 := by omega
  by_cases hqn : n ≤ q
  · have hqi : (n : Int) ≤ (q : Int) := by omega
    have Hz : Hid (dg (val l / 2 ^ k.toNat) = []) := Lib.hid (by
      have h1 : val l < 2 ^ k.toNat := Nat.lt_of_lt_of_le (val_lt H.out.ok) (by rw [pow32, HM.out, Hqr.out, H.out.len]; exact Nat.pow_le_pow_right (by decide) (by omega))
      rw [Nat.div_eq_of_lt h1, dg_zero])
    clear hqn
    go_enter Try.func92, Try.ntmps92
    go_wp2
    go_ret
    exact ⟨_, _, _, rfl, by rw [Hz.out]; exact Wd.ofNil _, Below.refl _ _⟩
  · obtain ⟨m, rfl⟩ : ∃ m, n = q + m := ⟨n - q, by omega⟩
    have hm0 : 0 < m := by omega
    obtain ⟨b, off, rfl, hcc⟩ := H.out.at (by omega)
    clear hcc
    have HT := Lib.hid H.out.drop
    have ht : Hid (okw (l.drop q) ∧ (l.drop q).length = m ∧ val (l.drop q) / 2 ^ r = val l / 2 ^ k.toNat) := Lib.hid ⟨HT.out.ok, HT.out.len, by rw [HM.out, Hqr.out, ← shift_div H.out.ok]; rfl⟩
    generalize l.drop q = t at *
    obtain ⟨s, hs⟩ : ∃ s : Nat, (32 : Int) - (r : Int) = (s : Int) := ⟨32 - r, by omega⟩
    have Hs : Hid (s = 32 - r) := Lib.hid (by omega)
    have hqi : (q : Int) < (q : Int) + (m : Int) := by omega
    obtain ⟨i0, hi, hz0, hz1, hz2⟩ := info_parts infoU32
    clear hqn
    go_enter Try.func92, Try.ntmps92
    go_wp2_with (at_make; refine wpList_make_words _ rfl _ _ 23 rfl w.heap.size 85 i0 (.int .u32 0) Try.underlying23 hi hz0 hz1 rfl .i64 .i64 _ _ m m rfl rfl rfl rfl (by omega) (by rw [hz2]; omega) (by unfold maxLen; omega) (Nat.le_refl _) ?_; intro w1 hown1 hgrow1)
    rw [zeros_cells] at hown1
    have HO1 : Hid (Own w1 w.heap.size w.heap.size m m (List.replicate m 0)) := Lib.hid ⟨hown1, okw_zeros m⟩
    have hB1 : Below w.heap.size w w1 := (Below.refl _ _).grown hgrow1 (Nat.le_refl _) (fun k hk => by cases hk)
    clear hown1 hgrow1
    go_loopw [26] (fun i wr => ∃ (j : Nat) (o : List Nat), j ≤ m ∧ i = .int .i64 (j : Int) ∧ Hid (o.length = j) ∧ Hid (val o = low t j / 2 ^ r) ∧ Hid (Own wr w.heap.size w.heap.size m m (o ++ List.replicate (m - j) 0)) ∧ Below w.heap.size w wr) (fun i _ => m - (intOf i).toNat)
    case atStart => exact ⟨0, [], by omega, rfl, Lib.hid rfl, Lib.hid (by rw [low_zero, Nat.zero_div]; rfl), Lib.hid (by simpa using HO1.out), hB1⟩
    case round =>
      clear HO1 hB1
      obtain ⟨j, o, hj, rfl, Hol, Hv, HO, hB⟩ := hrel
      by_cases hlt : j < m
      · obtain ⟨b2, off2, e2, hcl⟩ := (HT.out.later hB).at (by omega)
        simp only [Option.some.injEq, Addr.mk.injEq, and_true] at e2
        obtain ⟨rfl, rfl⟩ := e2
        have hck := hcl j hlt
        have hxw := atw_lt ht.out.1 j
        obtain ⟨x, hxx⟩ : ∃ x, x = atw t j := ⟨_, rfl⟩
        rw [← hxx] at hxw hck
        have Hx := Lib.hid hxx
        have hj1 : (j : Int) < (m : Int) := by omega
        have hcell := HO.out.cell (k := j) (by omega)
        have hfro := HO.out.1.frozenAt j
        generalize atw (o ++ List.replicate (m - j) 0) j = old at hcell
        obtain ⟨y, hy⟩ : ∃ y : Nat, (x : Int) / 2 ^ r = (y : Int) := ⟨x / 2 ^ r, div_pow_int x r⟩
        have Hy : Hid (y = x / 2 ^ r) := Lib.hid (by have := div_pow_int x r; omega)
        have hyw : y < 4294967296 := by rw [Hy.out]; exact div_pow_lt hxw r
        have HO1 := HO.out.set j y hyw
        rw [set_next o m j y Hol.out hlt] at HO1
        have hb := HO.out.base
        have hB1 := hB.setCell (p := ⟨w.heap.size, j, none⟩) hb.1 (.int .u32 (y : Int))
        clear hcl hxx
        by_cases hj0 : j = 0
        · have Hj0 := Lib.hid hj0
          have hji : (j : Int) ≤ 0 := by omega
          clear hj0
          go_wp2
          go_roundw
          case rel => exact ⟨j + 1, o ++ [y], by omega, by go_num, Lib.hid (by have := Hol.out; simp; omega), Lib.hid (by
            obtain rfl : j = 0 := Hj0.out
            obtain rfl := List.eq_nil_of_length_eq_zero Hol.out
            rw [Hy.out, Hx.out]; exact down_first r), Lib.hid HO1, hB1⟩
          case measure => simp [intOf]; omega
        · obtain ⟨p, rfl⟩ : ∃ p, j = p + 1 := ⟨j - 1, by omega⟩
          have hcell2 := HO.out.cell (k := p) (by omega)
          have hfro2 := HO.out.1.frozenAt p
          rw [atw_append_left (by rw [Hol.out]; omega)] at hcell2
          have hroom := down_room (by omega) ht.out.1 Hv.out
          have hor := down_or (w := x) (by omega) hroom
          obtain ⟨u, hu⟩ : ∃ u, u = atw o p := ⟨_, rfl⟩
          rw [← hu] at hcell2 hroom hor
          have Hu := Lib.hid hu
          obtain ⟨z, hz⟩ : ∃ z : Nat, (x : Int) * 2 ^ s % 4294967296 = (z : Int) := ⟨x * 2 ^ s % 4294967296, by rw [mul_pow_int]; omega⟩
          have Hz : Hid (z = x * 2 ^ (32 - r) % 4294967296) := Lib.hid (by rw [← Hs.out]; have := mul_pow_int x s; omega)
          rw [← Hz.out] at hor
          have huw : u < 4294967296 := Nat.lt_of_lt_of_le hroom (show 2 ^ (32 - r) ≤ 2 ^ 32 from Nat.pow_le_pow_right (by decide) (by omega))
          have hov : bits .or .u32 (u : Int) (z : Int) = ((u + z : Nat) : Int) := by rw [or_u32_nat u z huw (by rw [Hz.out]; exact Nat.mod_lt _ (by decide)), hor.1]
          obtain ⟨v, hv⟩ : ∃ v, v = u + z := ⟨_, rfl⟩
          rw [← hv] at hov hor
          have Hvv := Lib.hid hv
          have hvw : v < 4294967296 := hor.2
          have hB2 := hB1.setCell (p := ⟨w.heap.size, p, none⟩) hb.1 (.int .u32 (v : Int))
          have HO2 := Own.set HO1 p v hvw
          rw [set_behind _ _ _ _ _ (by rw [Hol.out]; omega)] at HO2
          have HO2' := Lib.hid HO2
          have HB2 := Lib.hid hB2
          have hp1 : (p : Int) < (m : Int) := by omega
          clear hu hv hor hroom HO1 hB1 HO2 hB2 hj0
          go_wp2
          go_region
          go_wp2
          go_roundw
          case rel => exact ⟨p + 1 + 1, o.set p v ++ [y], by omega, by go_num, Lib.hid (by have := Hol.out; simp; omega), Lib.hid (by
            rw [Hvv.out, Hu.out, Hz.out, Hy.out, Hx.out]; exact down_step (by omega) Hol.out Hv.out), Lib.hid ⟨HO2'.out.1.drew, HO2'.out.2⟩, HB2.out.drew⟩
          case measure => simp [intOf]; omega
      · obtain rfl : j = m := by omega
        have Hfin : Hid (val o = val l / 2 ^ k.toNat) := Lib.hid (by rw [Hv.out, low_ge (by rw [ht.out.2.1]; omega), ht.out.2.2])
        have HW := HO.out.wd
        rw [Nat.sub_self, List.replicate_zero, List.append_nil] at HW
        have HW' := Lib.hid HW
        clear HW
        go_wp2_with fail
        refine (twos_trim _ _ _ _ _ HW'.out (by omega)).mono ?_
        rintro e w' ⟨z, rfl, Hz, hz, HT2, rfl⟩
        rw [Hfin.out] at HT2
        go_wp2
        go_ret
        exact ⟨_, _, _, rfl, HT2.out, hB⟩
end Go.Proofs.Ytipcgehcineblaa
