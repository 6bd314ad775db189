/-
  Several texts of this claim as one, group 5.
-/
import Derived.Test.YtpjkhbfglgmnmaaGreatDoorG4
import Derived.Test.YtpjkhbfglgmnmaaGreatDoorG2
import Derived.Deep.RegionHeld3
import Derived.BigQuiet
/-
  Package whole at this seat: signed, turned, Compare; Norm, Sign, Cmp, Neg, Mul.
-/
namespace Go.Proofs.YtpjkhbfglgmnmaaGreatDoor
open Go.RowKit

theorem two_cells {w : World} {A : Nat} {x y : Value} {t : TypeId} (h1 : w.heap[A]? = some (.cells #[x, y] t (0, 0))) : w.cell? ⟨A, 0, none⟩ = some x ∧ w.cell? ⟨A, 1, none⟩ = some y := ⟨blk_cell h1 0, blk_cell h1 1⟩
theorem two_stored {w : World} {A g : Nat} {x y : Value} {t : TypeId} (h1 : w.heap[A]? = some (.cells #[x, y] t (0, 0))) (hA : A ≠ g) (p q : Value) :
    ((w.setCell ⟨g, 0, none⟩ p).setCell ⟨g, 1, none⟩ q).cell? ⟨A, 0, none⟩ = some x ∧ ((w.setCell ⟨g, 0, none⟩ p).setCell ⟨g, 1, none⟩ q).cell? ⟨A, 1, none⟩ = some y := two_cells (blk_apart (blk_apart h1 hA 0 p) hA 1 q)
theorem whole_signed (neg : Bool) (a : Option Addr) (n cap v : Nat) (w : World) (h : Wd w a n cap (dg v)) (hn : n ≤ 16777214) : Calls Tryz.prog 81 #[.bool neg, .slice a n cap] w (LstZ (zval neg v) w) := by
  have HA : Hid ((zval neg v).natAbs = v) := Lib.hid (zval_abs _ _)
  have H := Lib.hid h
  clear h
  cases neg with
  | false =>
    have HZ : Hid (zneg (zval false v) = false) := Lib.hid (by rw [zval_neg]; rfl)
    have HG := Lib.hid (blk_new w #[.bool false, .slice a n cap] 56)
    go_enter Tryz.func81, Tryz.ntmps81
    go_wp2
    refine bodyPost_ret (results_cell_row Tryz.results81 _ _ (w.heap.size) 56 #[.bool false, .slice a n cap] (0, 0) _ rfl HG.out Tryz.underlying56 rfl (by kernel_rfl)) rfl ?_
    exact ⟨a, n, cap, by rw [HZ.out]; rfl, by rw [HA.out]; exact H.out.later (below_alloc _ _), below_alloc _ _⟩
  | true =>
    go_enter Tryz.func81, Tryz.ntmps81
    go_wp2_with fail
    refine (natSaid.zero _ _ _ _ _ (H.out.later (below_alloc _ _)) hn).mono ?_
    rintro e w1 ⟨rfl, b1⟩
    rw [val_dg]
    have hR := box_at w w1 _ _ b1
    have r0 := blk_cell hR 0
    have r1 := blk_cell hR 1
    have f0 := blk_free hR 0
    have f1 := blk_free hR 1
    simp only [List.getElem?_toArray, List.getElem?_cons_zero, List.getElem?_cons_succ] at r0 r1
    have HR := Lib.hid hR
    have HB := Lib.hid (below_then (below_alloc _ _) b1)
    have H1 := Lib.hid (H.out.later HB.out)
    clear hR b1
    by_cases hv : v = 0
    · have HZ : Hid (zneg (zval true v) = false) := Lib.hid (by rw [hv]; rfl)
      rw [decide_eq_true hv]
      clear hv
      have HG := Lib.hid (blk_set2 HR.out (.bool false) (.slice a n cap))
      have HS := Lib.hid (H1.out.stored2 HR.out false (.slice a n cap))
      have HB2 := Lib.hid (below_set2 HB.out (show w.heap.size ≤ w.heap.size from Nat.le_refl _) (.bool false) (.slice a n cap))
      go_wp2
      refine bodyPost_ret (results_cell_row Tryz.results81 _ _ (w.heap.size) 56 #[.bool false, .slice a n cap] (0, 0) _ rfl HG.out Tryz.underlying56 rfl (by kernel_rfl)) rfl ?_
      exact ⟨a, n, cap, by rw [HZ.out]; rfl, by rw [HA.out]; exact HS.out, HB2.out⟩
    · have HZ : Hid (zneg (zval true v) = true) := Lib.hid (by rw [zval_neg, decide_eq_true hv]; rfl)
      rw [decide_eq_false hv]
      clear hv
      have HG := Lib.hid (blk_set2 HR.out (.bool true) (.slice a n cap))
      have HS := Lib.hid (H1.out.stored2 HR.out true (.slice a n cap))
      have HB2 := Lib.hid (below_set2 HB.out (show w.heap.size ≤ w.heap.size from Nat.le_refl _) (.bool true) (.slice a n cap))
      go_wp2
      refine bodyPost_ret (results_cell_row Tryz.results81 _ _ (w.heap.size) 56 #[.bool true, .slice a n cap] (0, 0) _ rfl HG.out Tryz.underlying56 rfl (by kernel_rfl)) rfl ?_
      exact ⟨a, n, cap, by rw [HZ.out]; rfl, by rw [HA.out]; exact HS.out, HB2.out⟩
theorem cmp_isNaN (x : Int) (w : World) : Calls Tryz.prog 106 #[.int .i64 x] w (fun e w' => e = .returned (.bool false) ∧ w' = w) := by
  have hx : (x == x) = true := by simp
  go_enter Tryz.func106, Tryz.ntmps106
  go_wp2
  go_ret
  exact ⟨rfl, rfl⟩
theorem cmp_Compare (x y : Int) (w : World) : Calls Tryz.prog 78 #[.int .i64 x, .int .i64 y] w (fun e w' => e = .returned (.int .i64 (sgn (x - y))) ∧ w' = w) := by
  go_enter Tryz.func78, Tryz.ntmps78
  go_wp2_with fail
  refine (cmp_isNaN x _).mono ?_
  rintro e w' ⟨rfl, rfl⟩
  go_wp2_with fail
  refine (cmp_isNaN y _).mono ?_
  rintro e w' ⟨rfl, rfl⟩
  by_cases h1 : x < y
  · have HS : Hid (sgn (x - y) = -1) := Lib.hid (by unfold sgn; rw [if_neg (by omega), if_pos (by omega)])
    go_wp2
    go_ret
    exact ⟨by rw [HS.out]; rfl, rfl⟩
  · by_cases h2 : y < x
    · have HS : Hid (sgn (x - y) = 1) := Lib.hid (by unfold sgn; rw [if_neg (by omega), if_neg (by omega)])
      go_wp2
      go_ret
      exact ⟨by rw [HS.out]; rfl, rfl⟩
    · have HS : Hid (sgn (x - y) = 0) := Lib.hid (by unfold sgn; rw [if_pos (by omega)])
      go_wp2
      go_ret
      exact ⟨by rw [HS.out]; rfl, rfl⟩
set_option maxRecDepth 4096 in
set_option maxHeartbeats 2000000 in
theorem whole_norm (neg : Bool) (a : Option Addr) (n cap : Nat) (l : List Nat) (w : World) (h : Wd w a n cap l) (hn : n ≤ 100000) :
    Calls Tryz.prog 91 #[whV neg a n cap] w (LstZ (zval neg (val l)) w) := by
  have hB2 : Below w.heap.size w ((w.alloc (.cells #[.bool neg, .slice a n cap] 56)).alloc (.cells #[.bool false, .slice none 0 0] 56)) := below_then (below_alloc _ _) (below_alloc _ _)
  have Ha := Lib.hid (h.later hB2)
  have HB := Lib.hid hB2
  have hAR := boxes_at w ((w.alloc (.cells #[.bool neg, .slice a n cap] 56)).alloc (.cells #[.bool false, .slice none 0 0] 56)) #[.bool neg, .slice a n cap] #[.bool false, .slice none 0 0] 56 56 (Below.refl _ _)
  have hpl : (dg (val l)).length ≤ 100000 := Nat.le_trans h.trim_le hn
  clear h hB2
  go_enter Tryz.func91, Tryz.ntmps91
  unfold whV
  go_wp2
  generalize ((w.alloc (.cells #[.bool neg, .slice a n cap] 56)).alloc (.cells #[.bool false, .slice none 0 0] 56)) = W at *
  have HAd : Hid (W.drew.heap[w.heap.size]? = some (.cells #[.bool neg, .slice a n cap] 56 (0, 0))) := Lib.hid hAR.1
  have HRd : Hid (W.drew.heap[w.heap.size + 1]? = some (.cells #[.bool false, .slice none 0 0] 56 (0, 0))) := Lib.hid hAR.2
  have Hd : Below W.heap.size W W.drew := (Below.refl _ _).drew
  have Sd := two_cells HAd.out
  clear hAR
  go_region_held3 (fun w' => w'.cell? ⟨w.heap.size, 0, none⟩ = some (.bool neg) ∧ w'.cell? ⟨w.heap.size, 1, none⟩ = some (.slice a n cap)) (first | exact Sd | exact Sq1 | exact Sq2 | exact Sq3 _ _)
    (first
    | (go_at_call 115; (refine (natSaid.norm a n cap l _ (Ha.out.later Hd) ?q3).mono ?_); (case q3 => omega); rintro e w1 ⟨a1, n1, c1, rfl, h1, b1⟩; have hA1 := blk_later HAd.out b1; have Sq1 := two_cells hA1)
    | (go_at_call 81; (refine (whole_signed neg a1 n1 c1 _ _ h1 ?q5).mono ?_); (case q5 => have := h1.len; omega); rintro e w2 ⟨a2, n2, c2, rfl, h2, b2⟩; have Sq2 := two_cells (blk_later hA1 b2); have Sq3 := two_stored (g := w.heap.size + 1) (blk_later hA1 b2) (by omega); have hRb := blk_later (blk_later HRd.out b1) b2; have r0 := blk_cell hRb 0; have r1 := blk_cell hRb 1; have f0 := blk_free hRb 0; have f1 := blk_free hRb 1; simp only [List.getElem?_toArray, List.getElem?_cons_zero, List.getElem?_cons_succ] at r0 r1; unfold whV))
  have hBe := Lib.hid (below_then HB.out (below_then Hd (below_then b1 b2)))
  have H2 := Lib.hid h2
  have hl2 := Lib.hid hRb
  have HF := Lib.hid (H2.out.stored2 hl2.out (zneg (zval neg (val l))) (.slice a2 n2 c2))
  have HG := Lib.hid (blk_set2 hl2.out (.bool (zneg (zval neg (val l)))) (.slice a2 n2 c2))
  have HB2 := Lib.hid (below_set2 hBe.out (show w.heap.size ≤ w.heap.size + 1 by omega) (.bool (zneg (zval neg (val l)))) (.slice a2 n2 c2))
  generalize zval neg (val l) = z at *
  go_wp2
  refine bodyPost_ret (results_cell_row Tryz.results91 _ _ (w.heap.size + 1) 56 #[.bool (zneg z), .slice a2 n2 c2] (0, 0) _ rfl HG.out Tryz.underlying56 rfl (by kernel_rfl)) rfl ?_
  exact ⟨a2, n2, c2, rfl, HF.out, HB2.out⟩
theorem whole_sign (neg : Bool) (a : Option Addr) (n cap : Nat) (l : List Nat) (w : World) (h : Wd w a n cap l) (hn : n ≤ 100000) :
    Calls Tryz.prog 105 #[whV neg a n cap] w (Gives (.int .i64 (sgn (zval neg (val l)))) w) := by
  have H := Lib.hid h
  clear h
  go_enter Tryz.func105, Tryz.ntmps105
  unfold whV
  go_wp2_with fail
  refine (natSaid.zero _ _ _ _ _ (H.out.later (below_alloc _ _)) (by omega)).mono ?_
  rintro e w1 ⟨rfl, b1⟩
  have hA := box_at w w1 _ _ b1
  have r0 := blk_cell hA 0
  have r1 := blk_cell hA 1
  simp only [List.getElem?_toArray, List.getElem?_cons_zero, List.getElem?_cons_succ] at r0 r1
  have HB := Lib.hid (below_then (below_alloc _ _) b1)
  clear hA b1 H
  generalize val l = v at *
  by_cases hv : v = 0
  · have HS : Hid (sgn (zval neg v) = 0) := Lib.hid (by rw [hv]; cases neg <;> rfl)
    rw [decide_eq_true hv]
    clear hv
    go_wp2
    go_ret
    exact ⟨by rw [HS.out]; rfl, HB.out⟩
  · rw [decide_eq_false hv]
    cases neg with
    | true =>
      have HS : Hid (sgn (zval true v) = -1) := Lib.hid (by rw [zval_true]; exact sgn_neg (by omega))
      clear hv
      go_wp2
      go_ret
      exact ⟨by rw [HS.out]; rfl, HB.out⟩
    | false =>
      have HS : Hid (sgn (zval false v) = 1) := Lib.hid (by rw [zval_false]; unfold sgn; rw [if_neg (by omega), if_neg (by omega)])
      clear hv
      go_wp2
      go_ret
      exact ⟨by rw [HS.out]; rfl, HB.out⟩
set_option maxRecDepth 4096 in
set_option maxHeartbeats 4000000 in
theorem whole_mul (na : Bool) (a : Option Addr) (n cap : Nat) (la : List Nat) (nb : Bool) (b : Option Addr) (m cap' : Nat) (lb : List Nat) (w : World) (ha : Wd w a n cap la) (hb : Wd w b m cap' lb) (hn : n ≤ 100000) (hm : m ≤ 100000) :
    Calls Tryz.prog 102 #[whV na a n cap, whV nb b m cap'] w (LstZ (zval na (val la) * zval nb (val lb)) w) := by
  have hB3 : Below w.heap.size w (((w.alloc (.cells #[.bool na, .slice a n cap] 56)).alloc (.cells #[.bool nb, .slice b m cap'] 56)).alloc (.cells #[.bool false, .slice none 0 0] 56)) := below_then (below_then (below_alloc _ _) (below_alloc _ _)) (below_alloc _ _)
  have Ha := Lib.hid (ha.later hB3)
  have Hb := Lib.hid (hb.later hB3)
  have HB := Lib.hid hB3
  have h3b := boxes3_at w #[.bool na, .slice a n cap] #[.bool nb, .slice b m cap'] #[.bool false, .slice none 0 0] 56 56 56
  have HAo := Lib.hid h3b.1
  have HBo := Lib.hid h3b.2.1
  have HRo := Lib.hid h3b.2.2
  have HV := Lib.hid (zval_mul na nb (val la) (val lb))
  have hpl : Hid ((dg (val la * val lb)).length ≤ 200000) := Lib.hid (by
    have h1 := dg_mul_length (val la) (val lb)
    have h2 := ha.trim_le
    have h3 := hb.trim_le
    omega)
  clear ha hb hB3 h3b
  go_enter Tryz.func102, Tryz.ntmps102
  unfold whV
  go_wp2
  generalize (((w.alloc (.cells #[.bool na, .slice a n cap] 56)).alloc (.cells #[.bool nb, .slice b m cap'] 56)).alloc (.cells #[.bool false, .slice none 0 0] 56)) = W at *
  have HAd : Hid (W.drew.heap[w.heap.size]? = some (.cells #[.bool na, .slice a n cap] 56 (0, 0))) := Lib.hid HAo.out
  have HBd : Hid (W.drew.heap[w.heap.size + 1]? = some (.cells #[.bool nb, .slice b m cap'] 56 (0, 0))) := Lib.hid HBo.out
  have HRd : Hid (W.drew.heap[w.heap.size + 1 + 1]? = some (.cells #[.bool false, .slice none 0 0] 56 (0, 0))) := Lib.hid HRo.out
  have Hd : Below W.heap.size W W.drew := (Below.refl _ _).drew
  have Sd := four_cells HAd.out HBd.out
  clear HAo HBo HRo
  go_region_held3 (fun w' => w'.cell? ⟨w.heap.size, 0, none⟩ = some (.bool na) ∧ w'.cell? ⟨w.heap.size, 1, none⟩ = some (.slice a n cap) ∧ w'.cell? ⟨w.heap.size + 1, 0, none⟩ = some (.bool nb) ∧ w'.cell? ⟨w.heap.size + 1, 1, none⟩ = some (.slice b m cap')) (first | exact Sd | exact Sq0 | exact Sq1 | exact Sq2 | exact Sq3 _ _)
    (first
    | (go_at_call 103; (refine (prod_mul a n cap la b m cap' lb _ (Ha.out.later Hd) (Hb.out.later Hd) ?q3 ?q4).mono ?_); (case q3 => omega); (case q4 => omega); rintro e w1 ⟨a1, n1, c1, rfl, h1, bq1⟩; have hA1 := blk_later HAd.out bq1; have hB1 := blk_later HBd.out bq1; have Sq1 := four_cells hA1 hB1)
    | (go_at_call 81; (refine (whole_signed _ a1 n1 c1 _ _ h1 ?q5).mono ?_); (case q5 => have h7 := h1.len; have h8 := hpl.out; omega); rintro e w2 ⟨a2, n2, c2, rfl, h2, b2⟩; have Sq2 := four_cells (blk_later hA1 b2) (blk_later hB1 b2); have Sq3 := four_stored (g := w.heap.size + 1 + 1) (blk_later hA1 b2) (blk_later hB1 b2) (by omega) (by omega); have hRb := blk_later (blk_later HRd.out bq1) b2; have r0 := blk_cell hRb 0; have r1 := blk_cell hRb 1; have f0 := blk_free hRb 0; have f1 := blk_free hRb 1; simp only [List.getElem?_toArray, List.getElem?_cons_zero, List.getElem?_cons_succ] at r0 r1; unfold whV))
  have hBe := Lib.hid (below_then HB.out (below_then Hd (below_then bq1 b2)))
  have H2 := Lib.hid h2
  have hl2 := Lib.hid hRb
  have HF := Lib.hid (H2.out.stored2 hl2.out (zneg (zval (!(na == nb)) (val la * val lb))) (.slice a2 n2 c2))
  have HG := Lib.hid (blk_set2 hl2.out (.bool (zneg (zval (!(na == nb)) (val la * val lb)))) (.slice a2 n2 c2))
  have HB2 := Lib.hid (below_set2 hBe.out (show w.heap.size ≤ w.heap.size + 1 + 1 by omega) (.bool (zneg (zval (!(na == nb)) (val la * val lb)))) (.slice a2 n2 c2))
  rw [HV.out] at HF HG HB2
  rw [HV.out]
  generalize zval na (val la) * zval nb (val lb) = z at *
  go_wp2
  refine bodyPost_ret (results_cell_row Tryz.results102 _ _ (w.heap.size + 1 + 1) 56 #[.bool (zneg z), .slice a2 n2 c2] (0, 0) _ rfl HG.out Tryz.underlying56 rfl (by kernel_rfl)) rfl ?_
  exact ⟨a2, n2, c2, rfl, HF.out, HB2.out⟩
theorem sgn_vals {na nb : Bool} {u v : Nat} (h : sgn (zval na u) = sgn (zval nb v)) : sgn (zval na u) * cmpI u v = sgn (zval na u - zval nb v) := by
  unfold sgn zval cmpI at *
  cases na <;> cases nb <;> simp at h ⊢ <;> (repeat' split at h) <;> (repeat' split) <;> omega
theorem sgn_diff {x y : Int} (h : sgn x ≠ sgn y) : sgn (sgn x - sgn y) = sgn (x - y) := by
  unfold sgn at *
  (repeat' split at h) <;> (repeat' split) <;> omega
set_option maxRecDepth 4096 in
set_option maxHeartbeats 4000000 in
theorem whole_cmp (na : Bool) (a : Option Addr) (n cap : Nat) (la : List Nat) (nb : Bool) (b : Option Addr) (m cap' : Nat) (lb : List Nat) (w : World) (ha : Wd w a n cap la) (hb : Wd w b m cap' lb) (hn : n ≤ 100000) (hm : m ≤ 100000) :
    Calls Tryz.prog 79 #[whV na a n cap, whV nb b m cap'] w (Gives (.int .i64 (sgn (zval na (val la) - zval nb (val lb)))) w) := by
  have hB3 : Below w.heap.size w ((w.alloc (.cells #[.bool na, .slice a n cap] 56)).alloc (.cells #[.bool nb, .slice b m cap'] 56)) := below_then (below_alloc _ _) (below_alloc _ _)
  have Ha := Lib.hid (ha.later hB3)
  have Hb := Lib.hid (hb.later hB3)
  have HB := Lib.hid hB3
  have h3b := boxes_at w ((w.alloc (.cells #[.bool na, .slice a n cap] 56)).alloc (.cells #[.bool nb, .slice b m cap'] 56)) #[.bool na, .slice a n cap] #[.bool nb, .slice b m cap'] 56 56 (Below.refl _ _)
  have HAo := Lib.hid h3b.1
  have HBo := Lib.hid h3b.2
  have HE : Hid (sgn (zval na (val la)) = sgn (zval nb (val lb)) → sgn (zval na (val la)) * cmpI (val la) (val lb) = sgn (zval na (val la) - zval nb (val lb))) := Lib.hid sgn_vals
  have HN : Hid (sgn (zval na (val la)) ≠ sgn (zval nb (val lb)) → sgn (sgn (zval na (val la)) - sgn (zval nb (val lb))) = sgn (zval na (val la) - zval nb (val lb))) := Lib.hid sgn_diff
  have hra := sgn_range (zval na (val la))
  have hrb := sgn_range (zval nb (val lb))
  clear ha hb hB3 h3b
  go_enter Tryz.func79, Tryz.ntmps79
  unfold whV
  go_wp2
  generalize ((w.alloc (.cells #[.bool na, .slice a n cap] 56)).alloc (.cells #[.bool nb, .slice b m cap'] 56)) = W at *
  have HAd : Hid (W.drew.heap[w.heap.size]? = some (.cells #[.bool na, .slice a n cap] 56 (0, 0))) := Lib.hid HAo.out
  have HBd : Hid (W.drew.heap[w.heap.size + 1]? = some (.cells #[.bool nb, .slice b m cap'] 56 (0, 0))) := Lib.hid HBo.out
  have Hd : Below W.heap.size W W.drew := (Below.refl _ _).drew
  have Sd := four_cells HAd.out HBd.out
  clear HAo HBo
  go_region_held3 (fun w' => w'.cell? ⟨w.heap.size, 0, none⟩ = some (.bool na) ∧ w'.cell? ⟨w.heap.size, 1, none⟩ = some (.slice a n cap) ∧ w'.cell? ⟨w.heap.size + 1, 0, none⟩ = some (.bool nb) ∧ w'.cell? ⟨w.heap.size + 1, 1, none⟩ = some (.slice b m cap')) (first | exact Sd | exact Sq1 | exact Sq2)
    (first
    | (go_at_call 105; (first
    | (have qm := M1; (refine (whole_sign nb b m cap' lb _ (Hb.out.later (below_then Hd b1)) ?q3).mono ?_); (case q3 => omega); rintro e w2 ⟨rfl, b2⟩; have Sq2 := four_cells (blk_later hA1 b2) (blk_later hB1 b2))
    | ((refine (whole_sign na a n cap la _ (Ha.out.later Hd) ?q4).mono ?_); (case q4 => omega); rintro e w1 ⟨rfl, b1⟩; have M1 := True.intro; have hA1 := blk_later HAd.out b1; have hB1 := blk_later HBd.out b1; have Sq1 := four_cells hA1 hB1))))
  have HBe := Lib.hid (below_then HB.out (below_then Hd (below_then b1 b2)))
  have Ha2 := Lib.hid (Ha.out.later (below_then Hd (below_then b1 b2)))
  have Hb2 := Lib.hid (Hb.out.later (below_then Hd (below_then b1 b2)))
  clear Hd b1 b2 HAd HBd Sd hA1 hB1 Sq1 M1 Ha Hb HB
  generalize hx : sgn (zval na (val la)) = x at *
  generalize hy : sgn (zval nb (val lb)) = y at *
  clear hx hy
  by_cases hxy : x = y
  · have hq : (x == y) = true := by simp [hxy]
    have HE2 := Lib.hid (HE.out hxy)
    have hc : -1 ≤ cmpI (val la) (val lb) ∧ cmpI (val la) (val lb) ≤ 1 := by unfold cmpI; split <;> (try split) <;> omega
    clear HE HN hxy
    obtain ⟨s0, s1, s2, s3⟩ := Sq2
    go_wp2_with fail
    refine (natSaid.cmp _ _ _ _ _ _ _ _ _ Ha2.out Hb2.out (by omega) (by omega)).mono ?_
    rintro e w3 ⟨rfl, b3⟩
    generalize cmpI (val la) (val lb) = c at *
    have hm1 : -1 ≤ x * c ∧ x * c ≤ 1 := by
      rcases (show x = -1 ∨ x = 0 ∨ x = 1 by omega) with rfl | rfl | rfl <;> omega
    go_wp2
    go_ret
    exact ⟨by rw [← HE2.out]; rfl, below_then HBe.out b3⟩
  · have hq : (x == y) = false := by simp [hxy]
    have HN2 := Lib.hid (HN.out hxy)
    clear HE HN hxy
    go_wp2_with fail
    refine (cmp_Compare x y _).mono ?_
    rintro e w' ⟨rfl, rfl⟩
    go_wp2
    go_ret
    exact ⟨by rw [← HN2.out]; rfl, HBe.out⟩
end Go.Proofs.YtpjkhbfglgmnmaaGreatDoor

/-
  The contracts of the document's answer for layer 8: Add.
-/
namespace Go.Proofs.YtpjkhbfglgmnmaaGreatDoor
open Go.RowKit

set_option maxRecDepth 4096 in
set_option maxHeartbeats 4000000 in
theorem ref08_add (na : Bool) (a : Option Addr) (n cap : Nat) (la : List Nat) (nb : Bool) (b : Option Addr) (m cap' : Nat) (lb : List Nat) (w : World) (ha : Wd w a n cap la) (hb : Wd w b m cap' lb) (hn : n ≤ 100000) (hm : m ≤ 100000) :
    Calls Tryz.prog 74 #[whV na a n cap, whV nb b m cap'] w (LstZ (zval na (val la) + zval nb (val lb)) w) := by
  have hB3 : Below w.heap.size w (((w.alloc (.cells #[.bool na, .slice a n cap] 103)).alloc (.cells #[.bool nb, .slice b m cap'] 103)).alloc (.cells #[.bool false, .slice none 0 0] 103)) := below_then (below_then (below_alloc _ _) (below_alloc _ _)) (below_alloc _ _)
  have Ha := Lib.hid (ha.later hB3)
  have Hb := Lib.hid (hb.later hB3)
  have HB := Lib.hid hB3
  have hpl0 : (dg (val la + val lb)).length ≤ 200001 := by
    have h1 := dg_add_length (val la) (val lb)
    have h2 := ha.trim_le
    have h3 := hb.trim_le
    omega
  have hpl1 : (dg (val la - val lb)).length ≤ 200001 := Nat.le_trans (dg_length_mono (by omega)) hpl0
  have hpl2 : (dg (val lb - val la)).length ≤ 200001 := Nat.le_trans (dg_length_mono (by omega)) hpl0
  have h3b := boxes3_at w #[.bool na, .slice a n cap] #[.bool nb, .slice b m cap'] #[.bool false, .slice none 0 0] 103 103 103
  have hA := Lib.hid h3b.1
  have hBb := Lib.hid h3b.2.1
  have hR := Lib.hid h3b.2.2
  clear ha hb hB3 h3b
  by_cases hne : na = nb
  · subst hne
    have hpl := Lib.hid hpl0
    have hq : (na == na) = true := by simp
    clear hpl0 hpl1 hpl2
    go_enter Tryz.func74, Tryz.ntmps74
    unfold whV
    go_wp2
    generalize ((w.alloc (.cells #[.bool na, .slice a n cap] 103)).alloc (.cells #[.bool na, .slice b m cap'] 103)).alloc (.cells #[.bool false, .slice none 0 0] 103) = W at *
    have hAd : W.drew.heap[w.heap.size]? = some (.cells #[.bool na, .slice a n cap] 103 (0, 0)) := hA.out
    have hBd : W.drew.heap[w.heap.size + 1]? = some (.cells #[.bool na, .slice b m cap'] 103 (0, 0)) := hBb.out
    have hRd : W.drew.heap[w.heap.size + 1 + 1]? = some (.cells #[.bool false, .slice none 0 0] 103 (0, 0)) := hR.out
    have Hd : Below W.heap.size W W.drew := (Below.refl _ _).drew
    have Sd := four_cells hAd hBd
    have HAd := Lib.hid hAd
    have HBd := Lib.hid hBd
    have HRd := Lib.hid hRd
    clear hAd hBd hRd
    go_region_held3 (fun w' => w'.cell? ⟨w.heap.size, 0, none⟩ = some (.bool na) ∧ w'.cell? ⟨w.heap.size, 1, none⟩ = some (.slice a n cap) ∧ w'.cell? ⟨w.heap.size + 1, 0, none⟩ = some (.bool na) ∧ w'.cell? ⟨w.heap.size + 1, 1, none⟩ = some (.slice b m cap')) (first | exact Sd | exact S1 | exact S2 | exact S3 _ _)
      (first
      | (go_at_call 93; (refine (ref02_add a n cap la b m cap' lb _ (Ha.out.later Hd) (Hb.out.later Hd) ?q3 ?q4).mono ?_); (case q3 => omega); (case q4 => omega); rintro e w1 ⟨a1, n1, c1, rfl, h1, b1⟩; have hA1 := blk_later HAd.out b1; have hB1 := blk_later HBd.out b1; have S1 := four_cells hA1 hB1)
      | (go_at_call 100; (refine (ref08_norm _ a1 n1 c1 _ _ h1 ?q5).mono ?_); (case q5 => have h7 := h1.len; have h8 := hpl.out; omega); rintro e w2 ⟨a2, n2, c2, rfl, h2, b2⟩; have S2 := four_cells (blk_later hA1 b2) (blk_later hB1 b2); have S3 := four_stored (g := w.heap.size + 1 + 1) (blk_later hA1 b2) (blk_later hB1 b2) (by omega) (by omega); have hRb := blk_later (blk_later HRd.out b1) b2; have r0 := blk_cell hRb 0; have r1 := blk_cell hRb 1; have f0 := blk_free hRb 0; have f1 := blk_free hRb 1; simp only [List.getElem?_toArray, List.getElem?_cons_zero, List.getElem?_cons_succ] at r0 r1; unfold whV))
    have H2 := Lib.hid h2
    have hl2 := Lib.hid hRb
    have hBe := Lib.hid (below_then HB.out (below_then Hd (below_then b1 b2)))
    have HF := Lib.hid (H2.out.stored2 hl2.out (zneg (zval na (val (dg (val la + val lb))))) (.slice a2 n2 c2))
    have HG := Lib.hid (blk_set2 hl2.out (.bool (zneg (zval na (val (dg (val la + val lb)))))) (.slice a2 n2 c2))
    have HB2 := Lib.hid (below_set2 hBe.out (show w.heap.size ≤ w.heap.size + 1 + 1 by omega) (.bool (zneg (zval na (val (dg (val la + val lb)))))) (.slice a2 n2 c2))
    have HV : Hid (zval na (val (dg (val la + val lb))) = zval na (val la) + zval na (val lb)) := Lib.hid (by rw [val_dg]; exact zval_add_same na _ _)
    rw [HV.out] at HF HG HB2
    rw [HV.out]
    generalize hzz : zval na (val la) + zval na (val lb) = z at *
    go_wp2
    refine bodyPost_ret (results_cell_row Tryz.results74 _ _ (w.heap.size + 1 + 1) 103 #[.bool (zneg z), .slice a2 n2 c2] (0, 0) _ rfl HG.out Tryz.underlying103 rfl (by kernel_rfl)) rfl ?_
    exact ⟨a2, n2, c2, rfl, HF.out, HB2.out⟩
  · have hq : (na == nb) = false := by simp [hne]
    have Hne := Lib.hid hne
    clear hne
    go_enter Tryz.func74, Tryz.ntmps74
    unfold whV
    go_wp2_with fail
    refine (ref02_cmp _ _ _ _ _ _ _ _ _ Ha.out Hb.out (by omega) (by omega)).mono ?_
    rintro e w' ⟨rfl, rfl⟩
    by_cases hlt : val la < val lb
    · have hc : cmpI (val la) (val lb) < 0 := by rw [cmpI_lt hlt]; omega
      have hpl := Lib.hid hpl2
      have Hle : Hid (val la ≤ val lb) := Lib.hid (by omega)
      have Hlt := Lib.hid hlt
      clear hlt hpl0 hpl1 hpl2
      generalize cmpI (val la) (val lb) = cc at *
      go_wp2
      generalize ((w.alloc (.cells #[.bool na, .slice a n cap] 103)).alloc (.cells #[.bool nb, .slice b m cap'] 103)).alloc (.cells #[.bool false, .slice none 0 0] 103) = W at *
      have hAd : W.drew.heap[w.heap.size]? = some (.cells #[.bool na, .slice a n cap] 103 (0, 0)) := hA.out
      have hBd : W.drew.heap[w.heap.size + 1]? = some (.cells #[.bool nb, .slice b m cap'] 103 (0, 0)) := hBb.out
      have hRd : W.drew.heap[w.heap.size + 1 + 1]? = some (.cells #[.bool false, .slice none 0 0] 103 (0, 0)) := hR.out
      have Hd : Below W.heap.size W W.drew := (Below.refl _ _).drew
      have Sd := four_cells hAd hBd
      have HAd := Lib.hid hAd
      have HBd := Lib.hid hBd
      have HRd := Lib.hid hRd
      clear hAd hBd hRd
      go_region_held3 (fun w' => w'.cell? ⟨w.heap.size, 0, none⟩ = some (.bool na) ∧ w'.cell? ⟨w.heap.size, 1, none⟩ = some (.slice a n cap) ∧ w'.cell? ⟨w.heap.size + 1, 0, none⟩ = some (.bool nb) ∧ w'.cell? ⟨w.heap.size + 1, 1, none⟩ = some (.slice b m cap')) (first | exact Sd | exact S1 | exact S2 | exact S3 _ _)
        (first
        | (go_at_call 101; (refine (ref02_sub b m cap' lb a n cap la _ (Hb.out.later Hd) (Ha.out.later Hd) ?q3 ?q4 Hle).mono ?_); (case q3 => omega); (case q4 => omega); rintro e w1 ⟨a1, n1, c1, rfl, h1, b1⟩; have hA1 := blk_later HAd.out b1; have hB1 := blk_later HBd.out b1; have S1 := four_cells hA1 hB1)
        | (go_at_call 100; (refine (ref08_norm _ a1 n1 c1 _ _ h1 ?q5).mono ?_); (case q5 => have h7 := h1.len; have h8 := hpl.out; omega); rintro e w2 ⟨a2, n2, c2, rfl, h2, b2⟩; have S2 := four_cells (blk_later hA1 b2) (blk_later hB1 b2); have S3 := four_stored (g := w.heap.size + 1 + 1) (blk_later hA1 b2) (blk_later hB1 b2) (by omega) (by omega); have hRb := blk_later (blk_later HRd.out b1) b2; have r0 := blk_cell hRb 0; have r1 := blk_cell hRb 1; have f0 := blk_free hRb 0; have f1 := blk_free hRb 1; simp only [List.getElem?_toArray, List.getElem?_cons_zero, List.getElem?_cons_succ] at r0 r1; unfold whV))
      have H2 := Lib.hid h2
      have hl2 := Lib.hid hRb
      have hBe := Lib.hid (below_then HB.out (below_then Hd (below_then b1 b2)))
      have HF := Lib.hid (H2.out.stored2 hl2.out (zneg (zval nb (val (dg (val lb - val la))))) (.slice a2 n2 c2))
      have HG := Lib.hid (blk_set2 hl2.out (.bool (zneg (zval nb (val (dg (val lb - val la)))))) (.slice a2 n2 c2))
      have HB2 := Lib.hid (below_set2 hBe.out (show w.heap.size ≤ w.heap.size + 1 + 1 by omega) (.bool (zneg (zval nb (val (dg (val lb - val la)))))) (.slice a2 n2 c2))
      have HV : Hid (zval nb (val (dg (val lb - val la))) = zval na (val la) + zval nb (val lb)) := Lib.hid (by rw [val_dg]; exact zval_add_less Hne.out Hlt.out)
      rw [HV.out] at HF HG HB2
      rw [HV.out]
      generalize hzz : zval na (val la) + zval nb (val lb) = z at *
      go_wp2
      refine bodyPost_ret (results_cell_row Tryz.results74 _ _ (w.heap.size + 1 + 1) 103 #[.bool (zneg z), .slice a2 n2 c2] (0, 0) _ rfl HG.out Tryz.underlying103 rfl (by kernel_rfl)) rfl ?_
      exact ⟨a2, n2, c2, rfl, HF.out, HB2.out⟩
    · have hc : ¬ cmpI (val la) (val lb) < 0 := by unfold cmpI; split <;> (try split) <;> omega
      have hpl := Lib.hid hpl1
      have Hle : Hid (val lb ≤ val la) := Lib.hid (by omega)
      clear hlt hpl0 hpl1 hpl2
      generalize cmpI (val la) (val lb) = cc at *
      go_wp2
      generalize ((w.alloc (.cells #[.bool na, .slice a n cap] 103)).alloc (.cells #[.bool nb, .slice b m cap'] 103)).alloc (.cells #[.bool false, .slice none 0 0] 103) = W at *
      have hAd : W.drew.heap[w.heap.size]? = some (.cells #[.bool na, .slice a n cap] 103 (0, 0)) := hA.out
      have hBd : W.drew.heap[w.heap.size + 1]? = some (.cells #[.bool nb, .slice b m cap'] 103 (0, 0)) := hBb.out
      have hRd : W.drew.heap[w.heap.size + 1 + 1]? = some (.cells #[.bool false, .slice none 0 0] 103 (0, 0)) := hR.out
      have Hd : Below W.heap.size W W.drew := (Below.refl _ _).drew
      have Sd := four_cells hAd hBd
      have HAd := Lib.hid hAd
      have HBd := Lib.hid hBd
      have HRd := Lib.hid hRd
      clear hAd hBd hRd
      go_region_held3 (fun w' => w'.cell? ⟨w.heap.size, 0, none⟩ = some (.bool na) ∧ w'.cell? ⟨w.heap.size, 1, none⟩ = some (.slice a n cap) ∧ w'.cell? ⟨w.heap.size + 1, 0, none⟩ = some (.bool nb) ∧ w'.cell? ⟨w.heap.size + 1, 1, none⟩ = some (.slice b m cap')) (first | exact Sd | exact S1 | exact S2 | exact S3 _ _)
        (first
        | (go_at_call 101; (refine (ref02_sub a n cap la b m cap' lb _ (Ha.out.later Hd) (Hb.out.later Hd) ?q3 ?q4 Hle).mono ?_); (case q3 => omega); (case q4 => omega); rintro e w1 ⟨a1, n1, c1, rfl, h1, b1⟩; have hA1 := blk_later HAd.out b1; have hB1 := blk_later HBd.out b1; have S1 := four_cells hA1 hB1)
        | (go_at_call 100; (refine (ref08_norm _ a1 n1 c1 _ _ h1 ?q5).mono ?_); (case q5 => have h7 := h1.len; have h8 := hpl.out; omega); rintro e w2 ⟨a2, n2, c2, rfl, h2, b2⟩; have S2 := four_cells (blk_later hA1 b2) (blk_later hB1 b2); have S3 := four_stored (g := w.heap.size + 1 + 1) (blk_later hA1 b2) (blk_later hB1 b2) (by omega) (by omega); have hRb := blk_later (blk_later HRd.out b1) b2; have r0 := blk_cell hRb 0; have r1 := blk_cell hRb 1; have f0 := blk_free hRb 0; have f1 := blk_free hRb 1; simp only [List.getElem?_toArray, List.getElem?_cons_zero, List.getElem?_cons_succ] at r0 r1; unfold whV))
      have H2 := Lib.hid h2
      have hl2 := Lib.hid hRb
      have hBe := Lib.hid (below_then HB.out (below_then Hd (below_then b1 b2)))
      have HF := Lib.hid (H2.out.stored2 hl2.out (zneg (zval na (val (dg (val la - val lb))))) (.slice a2 n2 c2))
      have HG := Lib.hid (blk_set2 hl2.out (.bool (zneg (zval na (val (dg (val la - val lb)))))) (.slice a2 n2 c2))
      have HB2 := Lib.hid (below_set2 hBe.out (show w.heap.size ≤ w.heap.size + 1 + 1 by omega) (.bool (zneg (zval na (val (dg (val la - val lb)))))) (.slice a2 n2 c2))
      have HV : Hid (zval na (val (dg (val la - val lb))) = zval na (val la) + zval nb (val lb)) := Lib.hid (by rw [val_dg]; exact zval_add_more Hne.out Hle.out)
      rw [HV.out] at HF HG HB2
      rw [HV.out]
      generalize hzz : zval na (val la) + zval nb (val lb) = z at *
      go_wp2
      refine bodyPost_ret (results_cell_row Tryz.results74 _ _ (w.heap.size + 1 + 1) 103 #[.bool (zneg z), .slice a2 n2 c2] (0, 0) _ rfl HG.out Tryz.underlying103 rfl (by kernel_rfl)) rfl ?_
      exact ⟨a2, n2, c2, rfl, HF.out, HB2.out⟩
end Go.Proofs.YtpjkhbfglgmnmaaGreatDoor

/-
  Package whole at this seat: Add, Sub.
-/
namespace Go.Proofs.YtpjkhbfglgmnmaaGreatDoor
open Go.RowKit

set_option maxRecDepth 4096 in
set_option maxHeartbeats 4000000 in
theorem whole_add (na : Bool) (a : Option Addr) (n cap : Nat) (la : List Nat) (nb : Bool) (b : Option Addr) (m cap' : Nat) (lb : List Nat) (w : World) (ha : Wd w a n cap la) (hb : Wd w b m cap' lb) (hn : n ≤ 100000) (hm : m ≤ 100000) :
    Calls Tryz.prog 104 #[whV na a n cap, whV nb b m cap'] w (LstZ (zval na (val la) + zval nb (val lb)) w) := by
  have hB3 : Below w.heap.size w (((w.alloc (.cells #[.bool na, .slice a n cap] 56)).alloc (.cells #[.bool nb, .slice b m cap'] 56)).alloc (.cells #[.bool false, .slice none 0 0] 56)) := below_then (below_then (below_alloc _ _) (below_alloc _ _)) (below_alloc _ _)
  have Ha := Lib.hid (ha.later hB3)
  have Hb := Lib.hid (hb.later hB3)
  have HB := Lib.hid hB3
  have h3b := boxes3_at w #[.bool na, .slice a n cap] #[.bool nb, .slice b m cap'] #[.bool false, .slice none 0 0] 56 56 56
  have HAo := Lib.hid h3b.1
  have HBo := Lib.hid h3b.2.1
  have HRo := Lib.hid h3b.2.2
  have hla := ha.trim_le
  have hlb := hb.trim_le
  have Hla := Lib.hid ha.len
  have Hlb := Lib.hid hb.len
  clear ha hb hB3 h3b
  by_cases hne : na = nb
  · subst hne
    have HV : Hid (zval na (val la + val lb) = zval na (val la) + zval na (val lb)) := Lib.hid (zval_add_same na _ _)
    have hva : Hid (vals [la, lb] = val la + val lb) := Lib.hid (by simp [vals])
    have hpl : Hid ((dg (vals [la, lb])).length ≤ 200001) := Lib.hid (by have := dg_add_length (val la) (val lb); rw [hva.out]; omega)
    have hq : (na == na) = true := by simp
    clear hla hlb
    go_enter Tryz.func104, Tryz.ntmps104
    unfold whV
    go_wp2
    generalize (((w.alloc (.cells #[.bool na, .slice a n cap] 56)).alloc (.cells #[.bool na, .slice b m cap'] 56)).alloc (.cells #[.bool false, .slice none 0 0] 56)) = W at *
    have HAd : Hid (W.drew.heap[w.heap.size]? = some (.cells #[.bool na, .slice a n cap] 56 (0, 0))) := Lib.hid HAo.out
    have HBd : Hid (W.drew.heap[w.heap.size + 1]? = some (.cells #[.bool na, .slice b m cap'] 56 (0, 0))) := Lib.hid HBo.out
    have HRd : Hid (W.drew.heap[w.heap.size + 1 + 1]? = some (.cells #[.bool false, .slice none 0 0] 56 (0, 0))) := Lib.hid HRo.out
    have Hd : Below W.heap.size W W.drew := (Below.refl _ _).drew
    have Sd := four_cells HAd.out HBd.out
    clear HAo HBo HRo
    have Sal := fun o => four_cells (blk_later HAd.out (below_alloc W.drew o)) (blk_later HBd.out (below_alloc W.drew o))
    go_region_held3 (fun w' => w'.cell? ⟨w.heap.size, 0, none⟩ = some (.bool na) ∧ w'.cell? ⟨w.heap.size, 1, none⟩ = some (.slice a n cap) ∧ w'.cell? ⟨w.heap.size + 1, 0, none⟩ = some (.bool na) ∧ w'.cell? ⟨w.heap.size + 1, 1, none⟩ = some (.slice b m cap')) (first | exact Sd | exact Sal _ | exact Sq1 | exact Sq2 | exact Sq3 _ _)
      (first
      | (go_at_call 122; (refine (natSaid.add _ _ _ _ _ (Wds.lit2 W.drew 54 (Ha.out.later Hd) (Hb.out.later Hd)) (by omega) ?q3).mono ?_); (case q3 => have h7 := Hla.out; have h8 := Hlb.out; simp only [words]; omega); rintro e w1 ⟨a1, n1, c1, rfl, h1, b1⟩; have bq1 := below_then (below_alloc W.drew _) b1; have hA1 := blk_later HAd.out bq1; have hB1 := blk_later HBd.out bq1; have Sq1 := four_cells hA1 hB1)
      | (go_at_call 81; (refine (whole_signed na a1 n1 c1 _ _ h1 ?q5).mono ?_); (case q5 => have h7 := h1.len; have h8 := hpl.out; omega); rintro e w2 ⟨a2, n2, c2, rfl, h2, b2⟩; have Sq2 := four_cells (blk_later hA1 b2) (blk_later hB1 b2); have Sq3 := four_stored (g := w.heap.size + 1 + 1) (blk_later hA1 b2) (blk_later hB1 b2) (by omega) (by omega); have hRb := blk_later (blk_later HRd.out bq1) b2; have r0 := blk_cell hRb 0; have r1 := blk_cell hRb 1; have f0 := blk_free hRb 0; have f1 := blk_free hRb 1; simp only [List.getElem?_toArray, List.getElem?_cons_zero, List.getElem?_cons_succ] at r0 r1; unfold whV))
    have hBe := Lib.hid (below_then HB.out (below_then Hd (below_then bq1 b2)))
    have H2 := Lib.hid h2
    have hl2 := Lib.hid hRb
    have HF := Lib.hid (H2.out.stored2 hl2.out (zneg (zval na (vals [la, lb]))) (.slice a2 n2 c2))
    have HG := Lib.hid (blk_set2 hl2.out (.bool (zneg (zval na (vals [la, lb])))) (.slice a2 n2 c2))
    have HB2 := Lib.hid (below_set2 hBe.out (show w.heap.size ≤ w.heap.size + 1 + 1 by omega) (.bool (zneg (zval na (vals [la, lb])))) (.slice a2 n2 c2))
    rw [hva.out, HV.out] at HF HG HB2
    rw [hva.out, HV.out]
    generalize zval na (val la) + zval na (val lb) = z at *
    go_wp2
    refine bodyPost_ret (results_cell_row Tryz.results104 _ _ (w.heap.size + 1 + 1) 56 #[.bool (zneg z), .slice a2 n2 c2] (0, 0) _ rfl HG.out Tryz.underlying56 rfl (by kernel_rfl)) rfl ?_
    exact ⟨a2, n2, c2, rfl, HF.out, HB2.out⟩
  · have hq : (na == nb) = false := by simp [hne]
    have Hne := Lib.hid hne
    have hpl : Hid ((dg (val la - val lb + (val lb - val la))).length ≤ 200001) := Lib.hid (by
      have h1 := dg_length_mono (show val la - val lb + (val lb - val la) ≤ val la + val lb by omega)
      have h2 := dg_add_length (val la) (val lb)
      omega)
    clear hne hla hlb
    go_enter Tryz.func104, Tryz.ntmps104
    unfold whV
    by_cases hlt : val la < val lb
    · have hc : cmpI (val la) (val lb) < 0 := by rw [cmpI_lt hlt]; omega
      have Hlt := Lib.hid hlt
      clear hlt
      go_wp2_with fail
      refine (natSaid.gap a n cap la b m cap' lb _ Ha.out Hb.out (by omega) (by omega)).mono ?_
      rintro e w1 ⟨a1, n1, c1, rfl, h1, b1⟩
      obtain ⟨s0, s1, s2, s3⟩ := four_cells (blk_later HAo.out b1) (blk_later HBo.out b1)
      have HR1 := Lib.hid (blk_later HRo.out b1)
      have hn1 : n1 ≤ 200001 := by rw [← h1.len]; exact hpl.out
      have H1 := Lib.hid h1
      have HV : Hid (zval nb (val la - val lb + (val lb - val la)) = zval na (val la) + zval nb (val lb)) := Lib.hid (by rw [Nat.sub_eq_zero_of_le (Nat.le_of_lt Hlt.out), Nat.zero_add]; exact zval_add_less Hne.out Hlt.out)
      clear h1 HAo HBo HRo Ha Hb
      generalize cmpI (val la) (val lb) = cc at *
      go_wp2_with fail
      refine (whole_signed nb a1 n1 c1 _ _ H1.out (by omega)).mono ?_
      rintro e w2 ⟨a2, n2, c2, rfl, h2, b2⟩
      clear s0 s1 s2 s3
      have hRb := blk_later HR1.out b2
      have r0 := blk_cell hRb 0
      have r1 := blk_cell hRb 1
      have f0 := blk_free hRb 0
      have f1 := blk_free hRb 1
      simp only [List.getElem?_toArray, List.getElem?_cons_zero, List.getElem?_cons_succ] at r0 r1
      have hBe := Lib.hid (below_then HB.out (below_then b1 b2))
      have H2 := Lib.hid h2
      have hl2 := Lib.hid hRb
      have HF := Lib.hid (H2.out.stored2 hl2.out (zneg (zval nb (val la - val lb + (val lb - val la)))) (.slice a2 n2 c2))
      have HG := Lib.hid (blk_set2 hl2.out (.bool (zneg (zval nb (val la - val lb + (val lb - val la))))) (.slice a2 n2 c2))
      have HB2 := Lib.hid (below_set2 hBe.out (show w.heap.size ≤ w.heap.size + 1 + 1 by omega) (.bool (zneg (zval nb (val la - val lb + (val lb - val la))))) (.slice a2 n2 c2))
      clear hRb h2 b1 b2 hBe
      rw [HV.out] at HF HG HB2
      rw [HV.out]
      generalize zval na (val la) + zval nb (val lb) = z at *
      unfold whV
      go_wp2
      refine bodyPost_ret (results_cell_row Tryz.results104 _ _ (w.heap.size + 1 + 1) 56 #[.bool (zneg z), .slice a2 n2 c2] (0, 0) _ rfl HG.out Tryz.underlying56 rfl (by kernel_rfl)) rfl ?_
      exact ⟨a2, n2, c2, rfl, HF.out, HB2.out⟩
    · have hc : ¬ cmpI (val la) (val lb) < 0 := by unfold cmpI; split <;> (try split) <;> omega
      have Hle : Hid (val lb ≤ val la) := Lib.hid (by omega)
      clear hlt
      go_wp2_with fail
      refine (natSaid.gap a n cap la b m cap' lb _ Ha.out Hb.out (by omega) (by omega)).mono ?_
      rintro e w1 ⟨a1, n1, c1, rfl, h1, b1⟩
      obtain ⟨s0, s1, s2, s3⟩ := four_cells (blk_later HAo.out b1) (blk_later HBo.out b1)
      have HR1 := Lib.hid (blk_later HRo.out b1)
      have hn1 : n1 ≤ 200001 := by rw [← h1.len]; exact hpl.out
      have H1 := Lib.hid h1
      have HV : Hid (zval na (val la - val lb + (val lb - val la)) = zval na (val la) + zval nb (val lb)) := Lib.hid (by rw [Nat.sub_eq_zero_of_le Hle.out, Nat.add_zero]; exact zval_add_more Hne.out Hle.out)
      clear h1 HAo HBo HRo Ha Hb
      generalize cmpI (val la) (val lb) = cc at *
      go_wp2_with fail
      refine (whole_signed na a1 n1 c1 _ _ H1.out (by omega)).mono ?_
      rintro e w2 ⟨a2, n2, c2, rfl, h2, b2⟩
      clear s0 s1 s2 s3
      have hRb := blk_later HR1.out b2
      have r0 := blk_cell hRb 0
      have r1 := blk_cell hRb 1
      have f0 := blk_free hRb 0
      have f1 := blk_free hRb 1
      simp only [List.getElem?_toArray, List.getElem?_cons_zero, List.getElem?_cons_succ] at r0 r1
      have hBe := Lib.hid (below_then HB.out (below_then b1 b2))
      have H2 := Lib.hid h2
      have hl2 := Lib.hid hRb
      have HF := Lib.hid (H2.out.stored2 hl2.out (zneg (zval na (val la - val lb + (val lb - val la)))) (.slice a2 n2 c2))
      have HG := Lib.hid (blk_set2 hl2.out (.bool (zneg (zval na (val la - val lb + (val lb - val la))))) (.slice a2 n2 c2))
      have HB2 := Lib.hid (below_set2 hBe.out (show w.heap.size ≤ w.heap.size + 1 + 1 by omega) (.bool (zneg (zval na (val la - val lb + (val lb - val la))))) (.slice a2 n2 c2))
      clear hRb h2 b1 b2 hBe
      rw [HV.out] at HF HG HB2
      rw [HV.out]
      generalize zval na (val la) + zval nb (val lb) = z at *
      unfold whV
      go_wp2
      refine bodyPost_ret (results_cell_row Tryz.results104 _ _ (w.heap.size + 1 + 1) 56 #[.bool (zneg z), .slice a2 n2 c2] (0, 0) _ rfl HG.out Tryz.underlying56 rfl (by kernel_rfl)) rfl ?_
      exact ⟨a2, n2, c2, rfl, HF.out, HB2.out⟩
end Go.Proofs.YtpjkhbfglgmnmaaGreatDoor

/-
  Package whole at this seat: Of, Int, Text.
-/
namespace Go.Proofs.YtpjkhbfglgmnmaaGreatDoor
open Go.RowKit

set_option maxRecDepth 4096 in
theorem whole_of (z : Int) (w : World) (hz : isInt z) : Calls Tryz.prog 56 #[.int .i64 z] w (LstZ z w) := by
  unfold isInt at hz
  by_cases hlt : z < 0
  · skip
    have HA : Hid (zval true z.natAbs = z) := Lib.hid (by unfold zval; simp; omega)
    have hv : ((z.natAbs : Nat) : Int) = -z := by omega
    have hvb : z.natAbs ≤ 18446744073709551615 := by omega
    generalize z.natAbs = v at *
    have hw : IntKind.u64.wrap (-IntKind.u64.wrap z) = (v : Int) := by rw [IntKind.wrap_u64, IntKind.wrap_u64]; omega
    go_enter Tryz.func56, Tryz.ntmps56
    go_wp2_with fail
    rw [← hv]
    refine (natSaid.of v _ hvb).mono ?_
    rintro e w1 ⟨a1, n1, c1, rfl, h1, b1⟩
    have hn1 : n1 ≤ 2 := by rw [← h1.len]; exact dg_length_le (by omega)
    have hR := box_at w w1 _ _ b1
    have H1 := Lib.hid h1
    go_wp2_with fail
    refine (whole_signed true a1 n1 c1 _ _ H1.out (by omega)).mono ?_
    rintro e w2 ⟨a2, n2, c2, rfl, h2, b2⟩
    have hRb := blk_later hR b2
    have r0 := blk_cell hRb 0
    have r1 := blk_cell hRb 1
    have f0 := blk_free hRb 0
    have f1 := blk_free hRb 1
    simp only [List.getElem?_toArray, List.getElem?_cons_zero, List.getElem?_cons_succ] at r0 r1
    have hBe := Lib.hid (below_then (below_alloc w _) (below_then b1 b2))
    have H2 := Lib.hid h2
    have hl2 := Lib.hid hRb
    have HF := Lib.hid (H2.out.stored2 hl2.out (zneg (zval true v)) (.slice a2 n2 c2))
    have HG := Lib.hid (blk_set2 hl2.out (.bool (zneg (zval true v))) (.slice a2 n2 c2))
    have HB2 := Lib.hid (below_set2 hBe.out (show w.heap.size ≤ w.heap.size by omega) (.bool (zneg (zval true v))) (.slice a2 n2 c2))
    clear hRb h2 b1 b2 hBe hR h1
    rw [HA.out] at HF HG HB2
    rw [HA.out]
    generalize hzz : zneg z = zb at *
    have Hzz := Lib.hid hzz
    clear hzz
    unfold whV
    go_wp2
    refine bodyPost_ret (results_cell_row Tryz.results56 _ _ (w.heap.size) 56 #[.bool zb, .slice a2 n2 c2] (0, 0) _ rfl HG.out Tryz.underlying56 rfl (by kernel_rfl)) rfl ?_
    exact ⟨a2, n2, c2, by rw [Hzz.out]; rfl, HF.out, HB2.out⟩
  · skip
    have HA : Hid (zval false z.natAbs = z) := Lib.hid (by unfold zval; simp; omega)
    have hv : ((z.natAbs : Nat) : Int) = z := by omega
    have hvb : z.natAbs ≤ 18446744073709551615 := by omega
    generalize z.natAbs = v at *
    have hw : IntKind.u64.wrap z = (v : Int) := by rw [IntKind.wrap_u64]; omega
    go_enter Tryz.func56, Tryz.ntmps56
    go_wp2_with fail
    rw [← hv]
    refine (natSaid.of v _ hvb).mono ?_
    rintro e w1 ⟨a1, n1, c1, rfl, h1, b1⟩
    have hn1 : n1 ≤ 2 := by rw [← h1.len]; exact dg_length_le (by omega)
    have hR := box_at w w1 _ _ b1
    have H1 := Lib.hid h1
    go_wp2_with fail
    refine (whole_signed false a1 n1 c1 _ _ H1.out (by omega)).mono ?_
    rintro e w2 ⟨a2, n2, c2, rfl, h2, b2⟩
    have hRb := blk_later hR b2
    have r0 := blk_cell hRb 0
    have r1 := blk_cell hRb 1
    have f0 := blk_free hRb 0
    have f1 := blk_free hRb 1
    simp only [List.getElem?_toArray, List.getElem?_cons_zero, List.getElem?_cons_succ] at r0 r1
    have hBe := Lib.hid (below_then (below_alloc w _) (below_then b1 b2))
    have H2 := Lib.hid h2
    have hl2 := Lib.hid hRb
    have HF := Lib.hid (H2.out.stored2 hl2.out (zneg (zval false v)) (.slice a2 n2 c2))
    have HG := Lib.hid (blk_set2 hl2.out (.bool (zneg (zval false v))) (.slice a2 n2 c2))
    have HB2 := Lib.hid (below_set2 hBe.out (show w.heap.size ≤ w.heap.size by omega) (.bool (zneg (zval false v))) (.slice a2 n2 c2))
    clear hRb h2 b1 b2 hBe hR h1
    rw [HA.out] at HF HG HB2
    rw [HA.out]
    generalize hzz : zneg z = zb at *
    have Hzz := Lib.hid hzz
    clear hzz
    unfold whV
    go_wp2
    refine bodyPost_ret (results_cell_row Tryz.results56 _ _ (w.heap.size) 56 #[.bool zb, .slice a2 n2 c2] (0, 0) _ rfl HG.out Tryz.underlying56 rfl (by kernel_rfl)) rfl ?_
    exact ⟨a2, n2, c2, by rw [Hzz.out]; rfl, HF.out, HB2.out⟩
set_option maxRecDepth 4096 in
set_option maxHeartbeats 2000000 in
theorem whole_text (D : DigitsSaid) (neg : Bool) (a : Option Addr) (n cap : Nat) (l : List Nat) (w : World) (h : Wd w a n cap l) (hn : n ≤ 1000) (hT : Hid (Dec10 w)) :
    Calls Tryz.prog 83 #[whV neg a n cap] w (Gives (.string (bs (ztxt (zval neg (val l))))) w) := by
  have hts : (txt (val l)).length ≤ 3200001 := by
    have h1 := val_lt h.ok
    rw [h.len, pow32] at h1
    have h2 := txt_length_le h1
    omega
  have hs1 := bs_size (txt (val l))
  have hs2 := bs_size [45]
  have hs3 := bs_append [45] (txt (val l))
  have HA : Hid ((zval neg (val l)).natAbs = val l) := Lib.hid (zval_abs _ _)
  have H := Lib.hid h
  clear h
  go_enter Tryz.func83, Tryz.ntmps83
  unfold whV
  go_wp2_with fail
  refine (whole_sign neg a n cap l _ (H.out.later (below_alloc _ _)) (by omega)).mono ?_
  rintro e w1 ⟨rfl, b1⟩
  have hA := box_at w w1 _ _ b1
  have r0 := blk_cell hA 0
  have r1 := blk_cell hA 1
  simp only [List.getElem?_toArray, List.getElem?_cons_zero, List.getElem?_cons_succ] at r0 r1
  have HB := Lib.hid (below_then (below_alloc _ _) b1)
  have H1 := Lib.hid (H.out.later HB.out)
  have HT1 := Lib.hid (hT.out.later HB.out)
  clear hA b1 H
  generalize zval neg (val l) = z at *
  by_cases hlt : z < 0
  · have HF : Hid (ztxt z = [45] ++ txt (val l)) := Lib.hid (by unfold ztxt; rw [if_pos hlt, HA.out]; rfl)
    rw [sgn_neg hlt]
    clear hlt
    simp only [List.length_cons, List.length_nil] at hs2
    go_wp2_with fail
    refine (D.text _ _ _ _ _ H1.out (by omega) HT1).mono ?_
    rintro e w2 ⟨rfl, b2⟩
    go_wp2
    go_ret
    exact ⟨by rw [HF.out, ← hs3]; rfl, below_then HB.out b2⟩
  · have HF : Hid (ztxt z = txt (val l)) := Lib.hid (by unfold ztxt; rw [if_neg hlt, HA.out])
    have hsn := sgn_not hlt
    clear hlt
    generalize sgn z = s at *
    go_wp2_with fail
    refine (D.text _ _ _ _ _ H1.out (by omega) HT1).mono ?_
    rintro e w2 ⟨rfl, b2⟩
    go_wp2
    go_ret
    exact ⟨by rw [HF.out]; rfl, below_then HB.out b2⟩
end Go.Proofs.YtpjkhbfglgmnmaaGreatDoor

/-
  The contracts of package twos (layer 3) at this seat: telling functions.
-/
namespace Go.Proofs.YtpjkhbfglgmnmaaGreatDoor
open Go.RowKit

theorem limb_len_nat (x : Nat) (w : World) (hx : x < 4294967296) : Calls Tryz.prog 157 #[.int .u32 (x : Int)] w fun e w' => e = .returned (.int .i64 ((blen x : Nat) : Int)) ∧ w = w' :=
  (limb_len (x : Int) w (by omega) (by omega)).mono fun e w' ⟨he, hw⟩ => ⟨by rw [he]; simp only [Int.toNat_natCast, bitLen_blen (show x < 18446744073709551616 by omega)], hw⟩
theorem twos_len (a : Option Addr) (n cap : Nat) (l : List Nat) (w : World) (h : Wd w a n cap l) (hn : n ≤ 16777214) :
    Calls Tryz.prog 168 #[.slice a n cap] w fun e w' => e = .returned (.int .i64 ((blen (val l) : Nat) : Int)) ∧ w = w' := by
  obtain ⟨hb1, hb2⟩ := h.bound
  have H := Lib.hid h
  clear h
  go_enter Tryz.func168, Tryz.ntmps168
  go_wp2
  go_loop [3] (fun i => ∃ k : Nat, k ≤ n ∧ i = .int .i64 ((k : Int) - 1) ∧ Hid (top l k = 0)) (fun i => (intOf i + 1).toNat)
  case atStart => exact ⟨n, by omega, by go_num, Lib.hid (top_ge (by have := H.out.len; omega))⟩
  case round =>
    obtain ⟨k, hk, rfl, Ht⟩ := hrel
    cases k with
    | zero =>
      have Hv : Hid (blen (val l) = 0) := Lib.hid (by rw [← top_zero, Ht.out]; rfl)
      go_wp2
      go_ret
      exact ⟨ret_i64 (by rw [Hv.out]; rfl), rfl⟩
    | succ k =>
      have e1 : ((k + 1 : Nat) : Int) - 1 = (k : Int) := by omega
      rw [e1]
      clear e1
      obtain ⟨b, off, rfl, hc⟩ := H.out.at (by omega)
      have hck := hc k (by omega)
      have hx := atw_lt H.out.ok k
      clear hc
      by_cases hz : atw l k = 0
      · have hzb : (((atw l k : Nat) : Int) == 0) = true := by simp [hz]
        have Hz := Lib.hid hz
        clear hz
        go_wp2
        go_round
        case rel => exact ⟨k, by omega, by go_num, Lib.hid (by rw [top_succ, Hz.out, Ht.out])⟩
        case measure => simp [intOf]
      · have hzb : (((atw l k : Nat) : Int) == 0) = false := by simp [hz]
        have Hfin := Lib.hid (blen_top H.out.ok Ht.out hz)
        have hbl : blen (atw l k) ≤ 32 := blen_le.2 (atw_lt H.out.ok k)
        clear hz
        go_wp2_with fail
        refine (limb_len_nat _ _ hx).mono ?_
        rintro e w' ⟨rfl, rfl⟩
        generalize blen (atw l k) = y at *
        go_wp2
        go_ret
        exact ⟨ret_i64 (by rw [Hfin.out]; omega), rfl⟩
end Go.Proofs.YtpjkhbfglgmnmaaGreatDoor
