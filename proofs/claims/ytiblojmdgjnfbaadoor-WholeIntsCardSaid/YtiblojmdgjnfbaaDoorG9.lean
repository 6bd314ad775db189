/-
  Several texts of this claim as one, group 9.
-/
import Derived.Test.YtiblojmdgjnfbaaDoorG6
import Derived.Test.YtiblojmdgjnfbaaDoorG7
import Derived.Deep.RegionHeld3
import Derived.Test.YtiblojmdgjnfbaaDoorG8
import Derived.Test.YtiblojmdgjnfbaaDoorG3
import Derived.BigQuiet
/-
  The contracts of the document's answer for layer 8: Add, Mul.
-/
namespace Go.Proofs.YtiblojmdgjnfbaaDoor
open Go.RowKit

/-- Three boxes of a call. -/
theorem boxes3_at (w : World) (x y z : Array Value) (t s r : TypeId) :
    (((w.alloc (.cells x t)).alloc (.cells y s)).alloc (.cells z r)).heap[w.heap.size]? = some (.cells x t (0, 0)) ∧ (((w.alloc (.cells x t)).alloc (.cells y s)).alloc (.cells z r)).heap[w.heap.size + 1]? = some (.cells y s (0, 0)) ∧ (((w.alloc (.cells x t)).alloc (.cells y s)).alloc (.cells z r)).heap[w.heap.size + 1 + 1]? = some (.cells z r (0, 0)) := by
  obtain ⟨h1, h2⟩ := boxes_at w (((w.alloc (.cells x t)).alloc (.cells y s)).alloc (.cells z r)) x y t s (below_alloc _ _)
  refine ⟨h1, h2, ?_⟩
  have h3 := blk_new ((w.alloc (.cells x t)).alloc (.cells y s)) z r
  rw [blk_size, blk_size] at h3
  exact h3
theorem four_cells {w : World} {A B : Nat} {x y z u : Value} {t s : TypeId} (h1 : w.heap[A]? = some (.cells #[x, y] t (0, 0))) (h2 : w.heap[B]? = some (.cells #[z, u] s (0, 0))) :
    w.cell? ⟨A, 0, none⟩ = some x ∧ w.cell? ⟨A, 1, none⟩ = some y ∧ w.cell? ⟨B, 0, none⟩ = some z ∧ w.cell? ⟨B, 1, none⟩ = some u := ⟨blk_cell h1 0, blk_cell h1 1, blk_cell h2 0, blk_cell h2 1⟩
theorem blk_apart {w : World} {A g : Nat} {o : Obj} (h : w.heap[A]? = some o) (hne : A ≠ g) (i : Nat) (u : Value) : (w.setCell ⟨g, i, none⟩ u).heap[A]? = some o := (Below.heap_setCell w ⟨g, i, none⟩ u A hne).trans h
theorem four_stored {w : World} {A B g : Nat} {x y z u : Value} {t s : TypeId} (h1 : w.heap[A]? = some (.cells #[x, y] t (0, 0))) (h2 : w.heap[B]? = some (.cells #[z, u] s (0, 0))) (hA : A ≠ g) (hB : B ≠ g) (p q : Value) :
    ((w.setCell ⟨g, 0, none⟩ p).setCell ⟨g, 1, none⟩ q).cell? ⟨A, 0, none⟩ = some x ∧ ((w.setCell ⟨g, 0, none⟩ p).setCell ⟨g, 1, none⟩ q).cell? ⟨A, 1, none⟩ = some y ∧ ((w.setCell ⟨g, 0, none⟩ p).setCell ⟨g, 1, none⟩ q).cell? ⟨B, 0, none⟩ = some z ∧ ((w.setCell ⟨g, 0, none⟩ p).setCell ⟨g, 1, none⟩ q).cell? ⟨B, 1, none⟩ = some u :=
  four_cells (blk_apart (blk_apart h1 hA 0 p) hA 1 q) (blk_apart (blk_apart h2 hB 0 p) hB 1 q)
theorem zval_add_same (neg : Bool) (u v : Nat) : zval neg (u + v) = zval neg u + zval neg v := by unfold zval; cases neg <;> simp <;> omega
theorem zval_add_less {na nb : Bool} {u v : Nat} (hne : na ≠ nb) (h : u < v) : zval nb (v - u) = zval na u + zval nb v := by
  unfold zval; cases na <;> cases nb <;> simp at hne ⊢ <;> omega
theorem zval_add_more {na nb : Bool} {u v : Nat} (hne : na ≠ nb) (h : v ≤ u) : zval na (u - v) = zval na u + zval nb v := by
  unfold zval; cases na <;> cases nb <;> simp at hne ⊢ <;> omega
theorem zval_mul (na nb : Bool) (u v : Nat) : zval (!(na == nb)) (u * v) = zval na u * zval nb v := by
  unfold zval; cases na <;> cases nb <;> simp [Int.neg_mul, Int.mul_neg]
set_option maxRecDepth 4096 in
set_option maxHeartbeats 4000000 in
theorem ref08_mul (na : Bool) (a : Option Addr) (n cap : Nat) (la : List Nat) (nb : Bool) (b : Option Addr) (m cap' : Nat) (lb : List Nat) (w : World) (ha : Wd w a n cap la) (hb : Wd w b m cap' lb) (hn : n ≤ 100000) (hm : m ≤ 100000) :
    Calls Tryd.prog 23 #[whV na a n cap, whV nb b m cap'] w (LstZ (zval na (val la) * zval nb (val lb)) w) := by
  have hB3 : Below w.heap.size w (((w.alloc (.cells #[.bool na, .slice a n cap] 24)).alloc (.cells #[.bool nb, .slice b m cap'] 24)).alloc (.cells #[.bool false, .slice none 0 0] 24)) := below_then (below_then (below_alloc _ _) (below_alloc _ _)) (below_alloc _ _)
  have Ha := Lib.hid (ha.later hB3)
  have Hb := Lib.hid (hb.later hB3)
  have HB := Lib.hid hB3
  obtain ⟨hA, hBb, hR⟩ := boxes3_at w #[.bool na, .slice a n cap] #[.bool nb, .slice b m cap'] #[.bool false, .slice none 0 0] 24 24 24
  have HZ := Lib.hid (zval_mul na nb (val la) (val lb))
  have Hla := Lib.hid ha.len
  have Hlb := Lib.hid hb.len
  have hpl : (dg (val la * val lb)).length ≤ 200000 := by
    have h1 := dg_mul_length (val la) (val lb)
    have h2 := ha.trim_le
    have h3 := hb.trim_le
    omega
  clear ha hb hB3
  go_enter Tryd.func23, Tryd.ntmps23
  unfold whV
  go_wp2
  generalize ((w.alloc (.cells #[.bool na, .slice a n cap] 24)).alloc (.cells #[.bool nb, .slice b m cap'] 24)).alloc (.cells #[.bool false, .slice none 0 0] 24) = W at *
  have hAd : W.drew.heap[w.heap.size]? = some (.cells #[.bool na, .slice a n cap] 24 (0, 0)) := hA
  have hBd : W.drew.heap[w.heap.size + 1]? = some (.cells #[.bool nb, .slice b m cap'] 24 (0, 0)) := hBb
  have hRd : W.drew.heap[w.heap.size + 1 + 1]? = some (.cells #[.bool false, .slice none 0 0] 24 (0, 0)) := hR
  have Hd : Below W.heap.size W W.drew := (Below.refl _ _).drew
  have c0 := blk_cell hAd 0
  have c1' := blk_cell hAd 1
  have c2' := blk_cell hBd 0
  have c3' := blk_cell hBd 1
  simp only [List.getElem?_toArray, List.getElem?_cons_zero, List.getElem?_cons_succ] at c0 c1' c2' c3'
  have HAd := Lib.hid hAd
  have HBd := Lib.hid hBd
  have HRd := Lib.hid hRd
  clear hA hBb hR hAd hBd hRd
  have Sd : W.drew.cell? ⟨w.heap.size, 0, none⟩ = some (.bool na) ∧ W.drew.cell? ⟨w.heap.size, 1, none⟩ = some (.slice a n cap) ∧ W.drew.cell? ⟨w.heap.size + 1, 0, none⟩ = some (.bool nb) ∧ W.drew.cell? ⟨w.heap.size + 1, 1, none⟩ = some (.slice b m cap') := ⟨c0, c1', c2', c3'⟩
  clear c0 c1' c2' c3'
  go_region_held3 (fun w' => w'.cell? ⟨w.heap.size, 0, none⟩ = some (.bool na) ∧ w'.cell? ⟨w.heap.size, 1, none⟩ = some (.slice a n cap) ∧ w'.cell? ⟨w.heap.size + 1, 0, none⟩ = some (.bool nb) ∧ w'.cell? ⟨w.heap.size + 1, 1, none⟩ = some (.slice b m cap')) (first | exact Sd | exact S1 | exact S2 | exact S3 _ _)
    (first
    | (go_at_call 46; (refine (ref04_mul a n cap la b m cap' lb _ (Ha.out.later Hd) (Hb.out.later Hd) ?q3 ?q4).mono ?_); (case q3 => omega); (case q4 => omega); rintro e w1 ⟨a1, n1, c1, rfl, h1, b1⟩; have hA1 := blk_later HAd.out b1; have hB1 := blk_later HBd.out b1; have S1 := four_cells hA1 hB1)
    | (go_at_call 15; (refine (ref08_norm _ a1 n1 c1 _ _ h1 ?q5).mono ?_); (case q5 => have := h1.len; omega); rintro e w2 ⟨a2, n2, c2, rfl, h2, b2⟩; have S2 := four_cells (blk_later hA1 b2) (blk_later hB1 b2); have S3 := four_stored (g := w.heap.size + 1 + 1) (blk_later hA1 b2) (blk_later hB1 b2) (by omega) (by omega); have hRb := blk_later (blk_later HRd.out b1) b2; have r0 := blk_cell hRb 0; have r1 := blk_cell hRb 1; have f0 := blk_free hRb 0; have f1 := blk_free hRb 1; simp only [List.getElem?_toArray, List.getElem?_cons_zero, List.getElem?_cons_succ] at r0 r1; unfold whV))
  have H2 := Lib.hid h2
  have hl2 := Lib.hid hRb
  have hBe := Lib.hid (below_then HB.out (below_then Hd (below_then b1 b2)))
  have HF := Lib.hid (H2.out.stored2 hl2.out (zneg (zval (!(na == nb)) (val (dg (val la * val lb))))) (.slice a2 n2 c2))
  have HG := Lib.hid (blk_set2 hl2.out (.bool (zneg (zval (!(na == nb)) (val (dg (val la * val lb)))))) (.slice a2 n2 c2))
  have HB2 := Lib.hid (below_set2 hBe.out (show w.heap.size ≤ w.heap.size + 1 + 1 by omega) (.bool (zneg (zval (!(na == nb)) (val (dg (val la * val lb)))))) (.slice a2 n2 c2))
  have HV : Hid (zval (!(na == nb)) (val (dg (val la * val lb))) = zval na (val la) * zval nb (val lb)) := Lib.hid (by rw [val_dg]; exact HZ.out)
  rw [HV.out] at HF HG HB2
  rw [HV.out]
  generalize hzz : zval na (val la) * zval nb (val lb) = z at *
  go_wp2
  refine bodyPost_ret (results_cell_row Tryd.results23 _ _ (w.heap.size + 1 + 1) 24 #[.bool (zneg z), .slice a2 n2 c2] (0, 0) _ rfl HG.out Tryd.underlying24 rfl (by kernel_rfl)) rfl ?_
  exact ⟨a2, n2, c2, rfl, HF.out, HB2.out⟩
end Go.Proofs.YtiblojmdgjnfbaaDoor

/-
  Package whole at this seat: signed, turned, Compare; Norm, Sign, Cmp, Neg, Mul.
-/
namespace Go.Proofs.YtiblojmdgjnfbaaDoor
open Go.RowKit

theorem two_cells {w : World} {A : Nat} {x y : Value} {t : TypeId} (h1 : w.heap[A]? = some (.cells #[x, y] t (0, 0))) : w.cell? ⟨A, 0, none⟩ = some x ∧ w.cell? ⟨A, 1, none⟩ = some y := ⟨blk_cell h1 0, blk_cell h1 1⟩
theorem two_stored {w : World} {A g : Nat} {x y : Value} {t : TypeId} (h1 : w.heap[A]? = some (.cells #[x, y] t (0, 0))) (hA : A ≠ g) (p q : Value) :
    ((w.setCell ⟨g, 0, none⟩ p).setCell ⟨g, 1, none⟩ q).cell? ⟨A, 0, none⟩ = some x ∧ ((w.setCell ⟨g, 0, none⟩ p).setCell ⟨g, 1, none⟩ q).cell? ⟨A, 1, none⟩ = some y := two_cells (blk_apart (blk_apart h1 hA 0 p) hA 1 q)
theorem whole_signed (neg : Bool) (a : Option Addr) (n cap v : Nat) (w : World) (h : Wd w a n cap (dg v)) (hn : n ≤ 16777214) : Calls Tryd.prog 37 #[.bool neg, .slice a n cap] w (LstZ (zval neg v) w) := by
  have HA : Hid ((zval neg v).natAbs = v) := Lib.hid (zval_abs _ _)
  have H := Lib.hid h
  clear h
  cases neg with
  | false =>
    have HZ : Hid (zneg (zval false v) = false) := Lib.hid (by rw [zval_neg]; rfl)
    have HG := Lib.hid (blk_new w #[.bool false, .slice a n cap] 30)
    go_enter Tryd.func37, Tryd.ntmps37
    go_wp2
    refine bodyPost_ret (results_cell_row Tryd.results37 _ _ (w.heap.size) 30 #[.bool false, .slice a n cap] (0, 0) _ rfl HG.out Tryd.underlying30 rfl (by kernel_rfl)) rfl ?_
    exact ⟨a, n, cap, by rw [HZ.out]; rfl, by rw [HA.out]; exact H.out.later (below_alloc _ _), below_alloc _ _⟩
  | true =>
    go_enter Tryd.func37, Tryd.ntmps37
    go_wp2_with fail
    refine (natSaid.zero _ _ _ _ _ (H.out.later (below_alloc _ _)) hn).mono ?_
    rintro e w1 ⟨rfl, b1⟩
    rw [val_dg]
    have hR := box_at w w1 _ _ b1
    have r0 := blk_cell hR 0
    have r1 := blk_cell hR 1
    have f0 := blk_free hR 0
    have f1 := blk_free hR 1
    simp only [List.getElem?_toArray, List.getElem?_cons_zero, List.getElem?_cons_succ] at r0 r1
    have HR := Lib.hid hR
    have HB := Lib.hid (below_then (below_alloc _ _) b1)
    have H1 := Lib.hid (H.out.later HB.out)
    clear hR b1
    by_cases hv : v = 0
    · have HZ : Hid (zneg (zval true v) = false) := Lib.hid (by rw [hv]; rfl)
      rw [decide_eq_true hv]
      clear hv
      have HG := Lib.hid (blk_set2 HR.out (.bool false) (.slice a n cap))
      have HS := Lib.hid (H1.out.stored2 HR.out false (.slice a n cap))
      have HB2 := Lib.hid (below_set2 HB.out (show w.heap.size ≤ w.heap.size from Nat.le_refl _) (.bool false) (.slice a n cap))
      go_wp2
      refine bodyPost_ret (results_cell_row Tryd.results37 _ _ (w.heap.size) 30 #[.bool false, .slice a n cap] (0, 0) _ rfl HG.out Tryd.underlying30 rfl (by kernel_rfl)) rfl ?_
      exact ⟨a, n, cap, by rw [HZ.out]; rfl, by rw [HA.out]; exact HS.out, HB2.out⟩
    · have HZ : Hid (zneg (zval true v) = true) := Lib.hid (by rw [zval_neg, decide_eq_true hv]; rfl)
      rw [decide_eq_false hv]
      clear hv
      have HG := Lib.hid (blk_set2 HR.out (.bool true) (.slice a n cap))
      have HS := Lib.hid (H1.out.stored2 HR.out true (.slice a n cap))
      have HB2 := Lib.hid (below_set2 HB.out (show w.heap.size ≤ w.heap.size from Nat.le_refl _) (.bool true) (.slice a n cap))
      go_wp2
      refine bodyPost_ret (results_cell_row Tryd.results37 _ _ (w.heap.size) 30 #[.bool true, .slice a n cap] (0, 0) _ rfl HG.out Tryd.underlying30 rfl (by kernel_rfl)) rfl ?_
      exact ⟨a, n, cap, by rw [HZ.out]; rfl, by rw [HA.out]; exact HS.out, HB2.out⟩
theorem whole_turned (neg : Bool) (a : Option Addr) (n cap : Nat) (w : World) : Calls Tryd.prog 42 #[whV neg a n cap] w (Gives (whV (!neg) a n cap) w) := by
  have HG := Lib.hid (boxes_at w _ #[.bool neg, .slice a n cap] #[.bool (!neg), .slice a n cap] 30 30 (Below.refl _ _)).2
  have HB : Hid (Below w.heap.size w ((w.alloc (.cells #[.bool neg, .slice a n cap] 30)).alloc (.cells #[.bool (!neg), .slice a n cap] 30))) := Lib.hid (below_then (below_alloc _ _) (below_alloc _ _))
  unfold whV
  go_enter Tryd.func42, Tryd.ntmps42
  go_wp2
  refine bodyPost_ret (results_cell_row Tryd.results42 _ _ (w.heap.size + 1) 30 #[.bool (!neg), .slice a n cap] (0, 0) _ rfl HG.out Tryd.underlying30 rfl (by kernel_rfl)) rfl ?_
  exact ⟨rfl, HB.out⟩
theorem cmp_isNaN (x : Int) (w : World) : Calls Tryd.prog 60 #[.int .i64 x] w (fun e w' => e = .returned (.bool false) ∧ w' = w) := by
  have hx : (x == x) = true := by simp
  go_enter Tryd.func60, Tryd.ntmps60
  go_wp2
  go_ret
  exact ⟨rfl, rfl⟩
theorem cmp_Compare (x y : Int) (w : World) : Calls Tryd.prog 40 #[.int .i64 x, .int .i64 y] w (fun e w' => e = .returned (.int .i64 (sgn (x - y))) ∧ w' = w) := by
  go_enter Tryd.func40, Tryd.ntmps40
  go_wp2_with fail
  refine (cmp_isNaN x _).mono ?_
  rintro e w' ⟨rfl, rfl⟩
  go_wp2_with fail
  refine (cmp_isNaN y _).mono ?_
  rintro e w' ⟨rfl, rfl⟩
  by_cases h1 : x < y
  · have HS : Hid (sgn (x - y) = -1) := Lib.hid (by unfold sgn; rw [if_neg (by omega), if_pos (by omega)])
    go_wp2
    go_ret
    exact ⟨by rw [HS.out]; rfl, rfl⟩
  · by_cases h2 : y < x
    · have HS : Hid (sgn (x - y) = 1) := Lib.hid (by unfold sgn; rw [if_neg (by omega), if_neg (by omega)])
      go_wp2
      go_ret
      exact ⟨by rw [HS.out]; rfl, rfl⟩
    · have HS : Hid (sgn (x - y) = 0) := Lib.hid (by unfold sgn; rw [if_pos (by omega)])
      go_wp2
      go_ret
      exact ⟨by rw [HS.out]; rfl, rfl⟩
set_option maxRecDepth 4096 in
set_option maxHeartbeats 2000000 in
theorem whole_norm (neg : Bool) (a : Option Addr) (n cap : Nat) (l : List Nat) (w : World) (h : Wd w a n cap l) (hn : n ≤ 100000) :
    Calls Tryd.prog 13 #[whV neg a n cap] w (LstZ (zval neg (val l)) w) := by
  have hB2 : Below w.heap.size w ((w.alloc (.cells #[.bool neg, .slice a n cap] 30)).alloc (.cells #[.bool false, .slice none 0 0] 30)) := below_then (below_alloc _ _) (below_alloc _ _)
  have Ha := Lib.hid (h.later hB2)
  have HB := Lib.hid hB2
  have hAR := boxes_at w ((w.alloc (.cells #[.bool neg, .slice a n cap] 30)).alloc (.cells #[.bool false, .slice none 0 0] 30)) #[.bool neg, .slice a n cap] #[.bool false, .slice none 0 0] 30 30 (Below.refl _ _)
  have hpl : (dg (val l)).length ≤ 100000 := Nat.le_trans h.trim_le hn
  clear h hB2
  go_enter Tryd.func13, Tryd.ntmps13
  unfold whV
  go_wp2
  generalize ((w.alloc (.cells #[.bool neg, .slice a n cap] 30)).alloc (.cells #[.bool false, .slice none 0 0] 30)) = W at *
  have HAd : Hid (W.drew.heap[w.heap.size]? = some (.cells #[.bool neg, .slice a n cap] 30 (0, 0))) := Lib.hid hAR.1
  have HRd : Hid (W.drew.heap[w.heap.size + 1]? = some (.cells #[.bool false, .slice none 0 0] 30 (0, 0))) := Lib.hid hAR.2
  have Hd : Below W.heap.size W W.drew := (Below.refl _ _).drew
  have Sd := two_cells HAd.out
  clear hAR
  go_region_held3 (fun w' => w'.cell? ⟨w.heap.size, 0, none⟩ = some (.bool neg) ∧ w'.cell? ⟨w.heap.size, 1, none⟩ = some (.slice a n cap)) (first | exact Sd | exact Sq1 | exact Sq2 | exact Sq3 _ _)
    (first
    | (go_at_call 38; (refine (natSaid.norm a n cap l _ (Ha.out.later Hd) ?q3).mono ?_); (case q3 => omega); rintro e w1 ⟨a1, n1, c1, rfl, h1, b1⟩; have hA1 := blk_later HAd.out b1; have Sq1 := two_cells hA1)
    | (go_at_call 37; (refine (whole_signed neg a1 n1 c1 _ _ h1 ?q5).mono ?_); (case q5 => have := h1.len; omega); rintro e w2 ⟨a2, n2, c2, rfl, h2, b2⟩; have Sq2 := two_cells (blk_later hA1 b2); have Sq3 := two_stored (g := w.heap.size + 1) (blk_later hA1 b2) (by omega); have hRb := blk_later (blk_later HRd.out b1) b2; have r0 := blk_cell hRb 0; have r1 := blk_cell hRb 1; have f0 := blk_free hRb 0; have f1 := blk_free hRb 1; simp only [List.getElem?_toArray, List.getElem?_cons_zero, List.getElem?_cons_succ] at r0 r1; unfold whV))
  have hBe := Lib.hid (below_then HB.out (below_then Hd (below_then b1 b2)))
  have H2 := Lib.hid h2
  have hl2 := Lib.hid hRb
  have HF := Lib.hid (H2.out.stored2 hl2.out (zneg (zval neg (val l))) (.slice a2 n2 c2))
  have HG := Lib.hid (blk_set2 hl2.out (.bool (zneg (zval neg (val l)))) (.slice a2 n2 c2))
  have HB2 := Lib.hid (below_set2 hBe.out (show w.heap.size ≤ w.heap.size + 1 by omega) (.bool (zneg (zval neg (val l)))) (.slice a2 n2 c2))
  generalize zval neg (val l) = z at *
  go_wp2
  refine bodyPost_ret (results_cell_row Tryd.results13 _ _ (w.heap.size + 1) 30 #[.bool (zneg z), .slice a2 n2 c2] (0, 0) _ rfl HG.out Tryd.underlying30 rfl (by kernel_rfl)) rfl ?_
  exact ⟨a2, n2, c2, rfl, HF.out, HB2.out⟩
theorem whole_sign (neg : Bool) (a : Option Addr) (n cap : Nat) (l : List Nat) (w : World) (h : Wd w a n cap l) (hn : n ≤ 100000) :
    Calls Tryd.prog 16 #[whV neg a n cap] w (Gives (.int .i64 (sgn (zval neg (val l)))) w) := by
  have H := Lib.hid h
  clear h
  go_enter Tryd.func16, Tryd.ntmps16
  unfold whV
  go_wp2_with fail
  refine (natSaid.zero _ _ _ _ _ (H.out.later (below_alloc _ _)) (by omega)).mono ?_
  rintro e w1 ⟨rfl, b1⟩
  have hA := box_at w w1 _ _ b1
  have r0 := blk_cell hA 0
  have r1 := blk_cell hA 1
  simp only [List.getElem?_toArray, List.getElem?_cons_zero, List.getElem?_cons_succ] at r0 r1
  have HB := Lib.hid (below_then (below_alloc _ _) b1)
  clear hA b1 H
  generalize val l = v at *
  by_cases hv : v = 0
  · have HS : Hid (sgn (zval neg v) = 0) := Lib.hid (by rw [hv]; cases neg <;> rfl)
    rw [decide_eq_true hv]
    clear hv
    go_wp2
    go_ret
    exact ⟨by rw [HS.out]; rfl, HB.out⟩
  · rw [decide_eq_false hv]
    cases neg with
    | true =>
      have HS : Hid (sgn (zval true v) = -1) := Lib.hid (by rw [zval_true]; exact sgn_neg (by omega))
      clear hv
      go_wp2
      go_ret
      exact ⟨by rw [HS.out]; rfl, HB.out⟩
    | false =>
      have HS : Hid (sgn (zval false v) = 1) := Lib.hid (by rw [zval_false]; unfold sgn; rw [if_neg (by omega), if_neg (by omega)])
      clear hv
      go_wp2
      go_ret
      exact ⟨by rw [HS.out]; rfl, HB.out⟩
theorem whole_neg (neg : Bool) (a : Option Addr) (n cap : Nat) (l : List Nat) (w : World) (h : Wd w a n cap l) (hn : n ≤ 100000) :
    Calls Tryd.prog 19 #[whV neg a n cap] w (LstZ (-zval neg (val l)) w) := by
  have H := Lib.hid h
  clear h
  have HV : Hid (zval (!neg) (val l) = -zval neg (val l)) := Lib.hid (by cases neg <;> simp [zval])
  go_enter Tryd.func19, Tryd.ntmps19
  unfold whV
  go_wp2_with fail
  refine (whole_turned neg a n cap _).mono ?_
  rintro e w1 ⟨rfl, b1⟩
  have H1 := Lib.hid (H.out.later (below_then (below_then (below_alloc w _) (below_alloc _ _)) b1))
  unfold whV
  go_wp2_with fail
  refine (whole_norm (!neg) a n cap l _ H1.out hn).mono ?_
  rintro e w2 ⟨a2, n2, c2, rfl, h2, b2⟩
  have hRb := (boxes_at w w2 #[.bool neg, .slice a n cap] #[.bool false, .slice none 0 0] 30 30 (below_then b1 b2)).2
  have r0 := blk_cell hRb 0
  have r1 := blk_cell hRb 1
  have f0 := blk_free hRb 0
  have f1 := blk_free hRb 1
  simp only [List.getElem?_toArray, List.getElem?_cons_zero, List.getElem?_cons_succ] at r0 r1
  have hBe := Lib.hid (below_then (below_then (below_alloc w _) (below_alloc _ _)) (below_then b1 b2))
  have H2 := Lib.hid h2
  have hl2 := Lib.hid hRb
  have HF := Lib.hid (H2.out.stored2 hl2.out (zneg (zval (!neg) (val l))) (.slice a2 n2 c2))
  have HG := Lib.hid (blk_set2 hl2.out (.bool (zneg (zval (!neg) (val l)))) (.slice a2 n2 c2))
  have HB2 := Lib.hid (below_set2 hBe.out (show w.heap.size ≤ w.heap.size + 1 by omega) (.bool (zneg (zval (!neg) (val l)))) (.slice a2 n2 c2))
  clear hRb h2 b1 b2 hBe
  rw [HV.out] at HF HG HB2
  rw [HV.out]
  generalize -zval neg (val l) = z at *
  unfold whV
  go_wp2
  refine bodyPost_ret (results_cell_row Tryd.results19 _ _ (w.heap.size + 1) 30 #[.bool (zneg z), .slice a2 n2 c2] (0, 0) _ rfl HG.out Tryd.underlying30 rfl (by kernel_rfl)) rfl ?_
  exact ⟨a2, n2, c2, rfl, HF.out, HB2.out⟩
set_option maxRecDepth 4096 in
set_option maxHeartbeats 4000000 in
theorem whole_mul (na : Bool) (a : Option Addr) (n cap : Nat) (la : List Nat) (nb : Bool) (b : Option Addr) (m cap' : Nat) (lb : List Nat) (w : World) (ha : Wd w a n cap la) (hb : Wd w b m cap' lb) (hn : n ≤ 100000) (hm : m ≤ 100000) :
    Calls Tryd.prog 22 #[whV na a n cap, whV nb b m cap'] w (LstZ (zval na (val la) * zval nb (val lb)) w) := by
  have hB3 : Below w.heap.size w (((w.alloc (.cells #[.bool na, .slice a n cap] 30)).alloc (.cells #[.bool nb, .slice b m cap'] 30)).alloc (.cells #[.bool false, .slice none 0 0] 30)) := below_then (below_then (below_alloc _ _) (below_alloc _ _)) (below_alloc _ _)
  have Ha := Lib.hid (ha.later hB3)
  have Hb := Lib.hid (hb.later hB3)
  have HB := Lib.hid hB3
  have h3b := boxes3_at w #[.bool na, .slice a n cap] #[.bool nb, .slice b m cap'] #[.bool false, .slice none 0 0] 30 30 30
  have HAo := Lib.hid h3b.1
  have HBo := Lib.hid h3b.2.1
  have HRo := Lib.hid h3b.2.2
  have HV := Lib.hid (zval_mul na nb (val la) (val lb))
  have hpl : Hid ((dg (val la * val lb)).length ≤ 200000) := Lib.hid (by
    have h1 := dg_mul_length (val la) (val lb)
    have h2 := ha.trim_le
    have h3 := hb.trim_le
    omega)
  clear ha hb hB3 h3b
  go_enter Tryd.func22, Tryd.ntmps22
  unfold whV
  go_wp2
  generalize (((w.alloc (.cells #[.bool na, .slice a n cap] 30)).alloc (.cells #[.bool nb, .slice b m cap'] 30)).alloc (.cells #[.bool false, .slice none 0 0] 30)) = W at *
  have HAd : Hid (W.drew.heap[w.heap.size]? = some (.cells #[.bool na, .slice a n cap] 30 (0, 0))) := Lib.hid HAo.out
  have HBd : Hid (W.drew.heap[w.heap.size + 1]? = some (.cells #[.bool nb, .slice b m cap'] 30 (0, 0))) := Lib.hid HBo.out
  have HRd : Hid (W.drew.heap[w.heap.size + 1 + 1]? = some (.cells #[.bool false, .slice none 0 0] 30 (0, 0))) := Lib.hid HRo.out
  have Hd : Below W.heap.size W W.drew := (Below.refl _ _).drew
  have Sd := four_cells HAd.out HBd.out
  clear HAo HBo HRo
  go_region_held3 (fun w' => w'.cell? ⟨w.heap.size, 0, none⟩ = some (.bool na) ∧ w'.cell? ⟨w.heap.size, 1, none⟩ = some (.slice a n cap) ∧ w'.cell? ⟨w.heap.size + 1, 0, none⟩ = some (.bool nb) ∧ w'.cell? ⟨w.heap.size + 1, 1, none⟩ = some (.slice b m cap')) (first | exact Sd | exact Sq0 | exact Sq1 | exact Sq2 | exact Sq3 _ _)
    (first
    | (go_at_call 45; (refine (prod_mul a n cap la b m cap' lb _ (Ha.out.later Hd) (Hb.out.later Hd) ?q3 ?q4).mono ?_); (case q3 => omega); (case q4 => omega); rintro e w1 ⟨a1, n1, c1, rfl, h1, bq1⟩; have hA1 := blk_later HAd.out bq1; have hB1 := blk_later HBd.out bq1; have Sq1 := four_cells hA1 hB1)
    | (go_at_call 37; (refine (whole_signed _ a1 n1 c1 _ _ h1 ?q5).mono ?_); (case q5 => have h7 := h1.len; have h8 := hpl.out; omega); rintro e w2 ⟨a2, n2, c2, rfl, h2, b2⟩; have Sq2 := four_cells (blk_later hA1 b2) (blk_later hB1 b2); have Sq3 := four_stored (g := w.heap.size + 1 + 1) (blk_later hA1 b2) (blk_later hB1 b2) (by omega) (by omega); have hRb := blk_later (blk_later HRd.out bq1) b2; have r0 := blk_cell hRb 0; have r1 := blk_cell hRb 1; have f0 := blk_free hRb 0; have f1 := blk_free hRb 1; simp only [List.getElem?_toArray, List.getElem?_cons_zero, List.getElem?_cons_succ] at r0 r1; unfold whV))
  have hBe := Lib.hid (below_then HB.out (below_then Hd (below_then bq1 b2)))
  have H2 := Lib.hid h2
  have hl2 := Lib.hid hRb
  have HF := Lib.hid (H2.out.stored2 hl2.out (zneg (zval (!(na == nb)) (val la * val lb))) (.slice a2 n2 c2))
  have HG := Lib.hid (blk_set2 hl2.out (.bool (zneg (zval (!(na == nb)) (val la * val lb)))) (.slice a2 n2 c2))
  have HB2 := Lib.hid (below_set2 hBe.out (show w.heap.size ≤ w.heap.size + 1 + 1 by omega) (.bool (zneg (zval (!(na == nb)) (val la * val lb)))) (.slice a2 n2 c2))
  rw [HV.out] at HF HG HB2
  rw [HV.out]
  generalize zval na (val la) * zval nb (val lb) = z at *
  go_wp2
  refine bodyPost_ret (results_cell_row Tryd.results22 _ _ (w.heap.size + 1 + 1) 30 #[.bool (zneg z), .slice a2 n2 c2] (0, 0) _ rfl HG.out Tryd.underlying30 rfl (by kernel_rfl)) rfl ?_
  exact ⟨a2, n2, c2, rfl, HF.out, HB2.out⟩
theorem sgn_vals {na nb : Bool} {u v : Nat} (h : sgn (zval na u) = sgn (zval nb v)) : sgn (zval na u) * cmpI u v = sgn (zval na u - zval nb v) := by
  unfold sgn zval cmpI at *
  cases na <;> cases nb <;> simp at h ⊢ <;> (repeat' split at h) <;> (repeat' split) <;> omega
theorem sgn_diff {x y : Int} (h : sgn x ≠ sgn y) : sgn (sgn x - sgn y) = sgn (x - y) := by
  unfold sgn at *
  (repeat' split at h) <;> (repeat' split) <;> omega
set_option maxRecDepth 4096 in
set_option maxHeartbeats 4000000 in
theorem whole_cmp (na : Bool) (a : Option Addr) (n cap : Nat) (la : List Nat) (nb : Bool) (b : Option Addr) (m cap' : Nat) (lb : List Nat) (w : World) (ha : Wd w a n cap la) (hb : Wd w b m cap' lb) (hn : n ≤ 100000) (hm : m ≤ 100000) :
    Calls Tryd.prog 18 #[whV na a n cap, whV nb b m cap'] w (Gives (.int .i64 (sgn (zval na (val la) - zval nb (val lb)))) w) := by
  have hB3 : Below w.heap.size w ((w.alloc (.cells #[.bool na, .slice a n cap] 30)).alloc (.cells #[.bool nb, .slice b m cap'] 30)) := below_then (below_alloc _ _) (below_alloc _ _)
  have Ha := Lib.hid (ha.later hB3)
  have Hb := Lib.hid (hb.later hB3)
  have HB := Lib.hid hB3
  have h3b := boxes_at w ((w.alloc (.cells #[.bool na, .slice a n cap] 30)).alloc (.cells #[.bool nb, .slice b m cap'] 30)) #[.bool na, .slice a n cap] #[.bool nb, .slice b m cap'] 30 30 (Below.refl _ _)
  have HAo := Lib.hid h3b.1
  have HBo := Lib.hid h3b.2
  have HE : Hid (sgn (zval na (val la)) = sgn (zval nb (val lb)) → sgn (zval na (val la)) * cmpI (val la) (val lb) = sgn (zval na (val la) - zval nb (val lb))) := Lib.hid sgn_vals
  have HN : Hid (sgn (zval na (val la)) ≠ sgn (zval nb (val lb)) → sgn (sgn (zval na (val la)) - sgn (zval nb (val lb))) = sgn (zval na (val la) - zval nb (val lb))) := Lib.hid sgn_diff
  have hra := sgn_range (zval na (val la))
  have hrb := sgn_range (zval nb (val lb))
  clear ha hb hB3 h3b
  go_enter Tryd.func18, Tryd.ntmps18
  unfold whV
  go_wp2
  generalize ((w.alloc (.cells #[.bool na, .slice a n cap] 30)).alloc (.cells #[.bool nb, .slice b m cap'] 30)) = W at *
  have HAd : Hid (W.drew.heap[w.heap.size]? = some (.cells #[.bool na, .slice a n cap] 30 (0, 0))) := Lib.hid HAo.out
  have HBd : Hid (W.drew.heap[w.heap.size + 1]? = some (.cells #[.bool nb, .slice b m cap'] 30 (0, 0))) := Lib.hid HBo.out
  have Hd : Below W.heap.size W W.drew := (Below.refl _ _).drew
  have Sd := four_cells HAd.out HBd.out
  clear HAo HBo
  go_region_held3 (fun w' => w'.cell? ⟨w.heap.size, 0, none⟩ = some (.bool na) ∧ w'.cell? ⟨w.heap.size, 1, none⟩ = some (.slice a n cap) ∧ w'.cell? ⟨w.heap.size + 1, 0, none⟩ = some (.bool nb) ∧ w'.cell? ⟨w.heap.size + 1, 1, none⟩ = some (.slice b m cap')) (first | exact Sd | exact Sq1 | exact Sq2)
    (first
    | (go_at_call 16; (first
    | (have qm := M1; (refine (whole_sign nb b m cap' lb _ (Hb.out.later (below_then Hd b1)) ?q3).mono ?_); (case q3 => omega); rintro e w2 ⟨rfl, b2⟩; have Sq2 := four_cells (blk_later hA1 b2) (blk_later hB1 b2))
    | ((refine (whole_sign na a n cap la _ (Ha.out.later Hd) ?q4).mono ?_); (case q4 => omega); rintro e w1 ⟨rfl, b1⟩; have M1 := True.intro; have hA1 := blk_later HAd.out b1; have hB1 := blk_later HBd.out b1; have Sq1 := four_cells hA1 hB1))))
  have HBe := Lib.hid (below_then HB.out (below_then Hd (below_then b1 b2)))
  have Ha2 := Lib.hid (Ha.out.later (below_then Hd (below_then b1 b2)))
  have Hb2 := Lib.hid (Hb.out.later (below_then Hd (below_then b1 b2)))
  clear Hd b1 b2 HAd HBd Sd hA1 hB1 Sq1 M1 Ha Hb HB
  generalize hx : sgn (zval na (val la)) = x at *
  generalize hy : sgn (zval nb (val lb)) = y at *
  clear hx hy
  by_cases hxy : x = y
  · have hq : (x == y) = true := by simp [hxy]
    have HE2 := Lib.hid (HE.out hxy)
    have hc : -1 ≤ cmpI (val la) (val lb) ∧ cmpI (val la) (val lb) ≤ 1 := by unfold cmpI; split <;> (try split) <;> omega
    clear HE HN hxy
    obtain ⟨s0, s1, s2, s3⟩ := Sq2
    go_wp2_with fail
    refine (natSaid.cmp _ _ _ _ _ _ _ _ _ Ha2.out Hb2.out (by omega) (by omega)).mono ?_
    rintro e w3 ⟨rfl, b3⟩
    generalize cmpI (val la) (val lb) = c at *
    have hm1 : -1 ≤ x * c ∧ x * c ≤ 1 := by
      rcases (show x = -1 ∨ x = 0 ∨ x = 1 by omega) with rfl | rfl | rfl <;> omega
    go_wp2
    go_ret
    exact ⟨by rw [← HE2.out]; rfl, below_then HBe.out b3⟩
  · have hq : (x == y) = false := by simp [hxy]
    have HN2 := Lib.hid (HN.out hxy)
    clear HE HN hxy
    go_wp2_with fail
    refine (cmp_Compare x y _).mono ?_
    rintro e w' ⟨rfl, rfl⟩
    go_wp2
    go_ret
    exact ⟨by rw [← HN2.out]; rfl, HBe.out⟩
end Go.Proofs.YtiblojmdgjnfbaaDoor

/-
  The contracts of the document's answer for layer 8: Add.
-/
namespace Go.Proofs.YtiblojmdgjnfbaaDoor
open Go.RowKit

set_option maxRecDepth 4096 in
set_option maxHeartbeats 4000000 in
theorem ref08_add (na : Bool) (a : Option Addr) (n cap : Nat) (la : List Nat) (nb : Bool) (b : Option Addr) (m cap' : Nat) (lb : List Nat) (w : World) (ha : Wd w a n cap la) (hb : Wd w b m cap' lb) (hn : n ≤ 100000) (hm : m ≤ 100000) :
    Calls Tryd.prog 9 #[whV na a n cap, whV nb b m cap'] w (LstZ (zval na (val la) + zval nb (val lb)) w) := by
  have hB3 : Below w.heap.size w (((w.alloc (.cells #[.bool na, .slice a n cap] 24)).alloc (.cells #[.bool nb, .slice b m cap'] 24)).alloc (.cells #[.bool false, .slice none 0 0] 24)) := below_then (below_then (below_alloc _ _) (below_alloc _ _)) (below_alloc _ _)
  have Ha := Lib.hid (ha.later hB3)
  have Hb := Lib.hid (hb.later hB3)
  have HB := Lib.hid hB3
  have hpl0 : (dg (val la + val lb)).length ≤ 200001 := by
    have h1 := dg_add_length (val la) (val lb)
    have h2 := ha.trim_le
    have h3 := hb.trim_le
    omega
  have hpl1 : (dg (val la - val lb)).length ≤ 200001 := Nat.le_trans (dg_length_mono (by omega)) hpl0
  have hpl2 : (dg (val lb - val la)).length ≤ 200001 := Nat.le_trans (dg_length_mono (by omega)) hpl0
  have h3b := boxes3_at w #[.bool na, .slice a n cap] #[.bool nb, .slice b m cap'] #[.bool false, .slice none 0 0] 24 24 24
  have hA := Lib.hid h3b.1
  have hBb := Lib.hid h3b.2.1
  have hR := Lib.hid h3b.2.2
  clear ha hb hB3 h3b
  by_cases hne : na = nb
  · subst hne
    have hpl := Lib.hid hpl0
    have hq : (na == na) = true := by simp
    clear hpl0 hpl1 hpl2
    go_enter Tryd.func9, Tryd.ntmps9
    unfold whV
    go_wp2
    generalize ((w.alloc (.cells #[.bool na, .slice a n cap] 24)).alloc (.cells #[.bool na, .slice b m cap'] 24)).alloc (.cells #[.bool false, .slice none 0 0] 24) = W at *
    have hAd : W.drew.heap[w.heap.size]? = some (.cells #[.bool na, .slice a n cap] 24 (0, 0)) := hA.out
    have hBd : W.drew.heap[w.heap.size + 1]? = some (.cells #[.bool na, .slice b m cap'] 24 (0, 0)) := hBb.out
    have hRd : W.drew.heap[w.heap.size + 1 + 1]? = some (.cells #[.bool false, .slice none 0 0] 24 (0, 0)) := hR.out
    have Hd : Below W.heap.size W W.drew := (Below.refl _ _).drew
    have Sd := four_cells hAd hBd
    have HAd := Lib.hid hAd
    have HBd := Lib.hid hBd
    have HRd := Lib.hid hRd
    clear hAd hBd hRd
    go_region_held3 (fun w' => w'.cell? ⟨w.heap.size, 0, none⟩ = some (.bool na) ∧ w'.cell? ⟨w.heap.size, 1, none⟩ = some (.slice a n cap) ∧ w'.cell? ⟨w.heap.size + 1, 0, none⟩ = some (.bool na) ∧ w'.cell? ⟨w.heap.size + 1, 1, none⟩ = some (.slice b m cap')) (first | exact Sd | exact S1 | exact S2 | exact S3 _ _)
      (first
      | (go_at_call 33; (refine (ref02_add a n cap la b m cap' lb _ (Ha.out.later Hd) (Hb.out.later Hd) ?q3 ?q4).mono ?_); (case q3 => omega); (case q4 => omega); rintro e w1 ⟨a1, n1, c1, rfl, h1, b1⟩; have hA1 := blk_later HAd.out b1; have hB1 := blk_later HBd.out b1; have S1 := four_cells hA1 hB1)
      | (go_at_call 15; (refine (ref08_norm _ a1 n1 c1 _ _ h1 ?q5).mono ?_); (case q5 => have h7 := h1.len; have h8 := hpl.out; omega); rintro e w2 ⟨a2, n2, c2, rfl, h2, b2⟩; have S2 := four_cells (blk_later hA1 b2) (blk_later hB1 b2); have S3 := four_stored (g := w.heap.size + 1 + 1) (blk_later hA1 b2) (blk_later hB1 b2) (by omega) (by omega); have hRb := blk_later (blk_later HRd.out b1) b2; have r0 := blk_cell hRb 0; have r1 := blk_cell hRb 1; have f0 := blk_free hRb 0; have f1 := blk_free hRb 1; simp only [List.getElem?_toArray, List.getElem?_cons_zero, List.getElem?_cons_succ] at r0 r1; unfold whV))
    have H2 := Lib.hid h2
    have hl2 := Lib.hid hRb
    have hBe := Lib.hid (below_then HB.out (below_then Hd (below_then b1 b2)))
    have HF := Lib.hid (H2.out.stored2 hl2.out (zneg (zval na (val (dg (val la + val lb))))) (.slice a2 n2 c2))
    have HG := Lib.hid (blk_set2 hl2.out (.bool (zneg (zval na (val (dg (val la + val lb)))))) (.slice a2 n2 c2))
    have HB2 := Lib.hid (below_set2 hBe.out (show w.heap.size ≤ w.heap.size + 1 + 1 by omega) (.bool (zneg (zval na (val (dg (val la + val lb)))))) (.slice a2 n2 c2))
    have HV : Hid (zval na (val (dg (val la + val lb))) = zval na (val la) + zval na (val lb)) := Lib.hid (by rw [val_dg]; exact zval_add_same na _ _)
    rw [HV.out] at HF HG HB2
    rw [HV.out]
    generalize hzz : zval na (val la) + zval na (val lb) = z at *
    go_wp2
    refine bodyPost_ret (results_cell_row Tryd.results9 _ _ (w.heap.size + 1 + 1) 24 #[.bool (zneg z), .slice a2 n2 c2] (0, 0) _ rfl HG.out Tryd.underlying24 rfl (by kernel_rfl)) rfl ?_
    exact ⟨a2, n2, c2, rfl, HF.out, HB2.out⟩
  · have hq : (na == nb) = false := by simp [hne]
    have Hne := Lib.hid hne
    clear hne
    go_enter Tryd.func9, Tryd.ntmps9
    unfold whV
    go_wp2_with fail
    refine (ref02_cmp _ _ _ _ _ _ _ _ _ Ha.out Hb.out (by omega) (by omega)).mono ?_
    rintro e w' ⟨rfl, rfl⟩
    by_cases hlt : val la < val lb
    · have hc : cmpI (val la) (val lb) < 0 := by rw [cmpI_lt hlt]; omega
      have hpl := Lib.hid hpl2
      have Hle : Hid (val la ≤ val lb) := Lib.hid (by omega)
      have Hlt := Lib.hid hlt
      clear hlt hpl0 hpl1 hpl2
      generalize cmpI (val la) (val lb) = cc at *
      go_wp2
      generalize ((w.alloc (.cells #[.bool na, .slice a n cap] 24)).alloc (.cells #[.bool nb, .slice b m cap'] 24)).alloc (.cells #[.bool false, .slice none 0 0] 24) = W at *
      have hAd : W.drew.heap[w.heap.size]? = some (.cells #[.bool na, .slice a n cap] 24 (0, 0)) := hA.out
      have hBd : W.drew.heap[w.heap.size + 1]? = some (.cells #[.bool nb, .slice b m cap'] 24 (0, 0)) := hBb.out
      have hRd : W.drew.heap[w.heap.size + 1 + 1]? = some (.cells #[.bool false, .slice none 0 0] 24 (0, 0)) := hR.out
      have Hd : Below W.heap.size W W.drew := (Below.refl _ _).drew
      have Sd := four_cells hAd hBd
      have HAd := Lib.hid hAd
      have HBd := Lib.hid hBd
      have HRd := Lib.hid hRd
      clear hAd hBd hRd
      go_region_held3 (fun w' => w'.cell? ⟨w.heap.size, 0, none⟩ = some (.bool na) ∧ w'.cell? ⟨w.heap.size, 1, none⟩ = some (.slice a n cap) ∧ w'.cell? ⟨w.heap.size + 1, 0, none⟩ = some (.bool nb) ∧ w'.cell? ⟨w.heap.size + 1, 1, none⟩ = some (.slice b m cap')) (first | exact Sd | exact S1 | exact S2 | exact S3 _ _)
        (first
        | (go_at_call 35; (refine (ref02_sub b m cap' lb a n cap la _ (Hb.out.later Hd) (Ha.out.later Hd) ?q3 ?q4 Hle).mono ?_); (case q3 => omega); (case q4 => omega); rintro e w1 ⟨a1, n1, c1, rfl, h1, b1⟩; have hA1 := blk_later HAd.out b1; have hB1 := blk_later HBd.out b1; have S1 := four_cells hA1 hB1)
        | (go_at_call 15; (refine (ref08_norm _ a1 n1 c1 _ _ h1 ?q5).mono ?_); (case q5 => have h7 := h1.len; have h8 := hpl.out; omega); rintro e w2 ⟨a2, n2, c2, rfl, h2, b2⟩; have S2 := four_cells (blk_later hA1 b2) (blk_later hB1 b2); have S3 := four_stored (g := w.heap.size + 1 + 1) (blk_later hA1 b2) (blk_later hB1 b2) (by omega) (by omega); have hRb := blk_later (blk_later HRd.out b1) b2; have r0 := blk_cell hRb 0; have r1 := blk_cell hRb 1; have f0 := blk_free hRb 0; have f1 := blk_free hRb 1; simp only [List.getElem?_toArray, List.getElem?_cons_zero, List.getElem?_cons_succ] at r0 r1; unfold whV))
      have H2 := Lib.hid h2
      have hl2 := Lib.hid hRb
      have hBe := Lib.hid (below_then HB.out (below_then Hd (below_then b1 b2)))
      have HF := Lib.hid (H2.out.stored2 hl2.out (zneg (zval nb (val (dg (val lb - val la))))) (.slice a2 n2 c2))
      have HG := Lib.hid (blk_set2 hl2.out (.bool (zneg (zval nb (val (dg (val lb - val la)))))) (.slice a2 n2 c2))
      have HB2 := Lib.hid (below_set2 hBe.out (show w.heap.size ≤ w.heap.size + 1 + 1 by omega) (.bool (zneg (zval nb (val (dg (val lb - val la)))))) (.slice a2 n2 c2))
      have HV : Hid (zval nb (val (dg (val lb - val la))) = zval na (val la) + zval nb (val lb)) := Lib.hid (by rw [val_dg]; exact zval_add_less Hne.out Hlt.out)
      rw [HV.out] at HF HG HB2
      rw [HV.out]
      generalize hzz : zval na (val la) + zval nb (val lb) = z at *
      go_wp2
      refine bodyPost_ret (results_cell_row Tryd.results9 _ _ (w.heap.size + 1 + 1) 24 #[.bool (zneg z), .slice a2 n2 c2] (0, 0) _ rfl HG.out Tryd.underlying24 rfl (by kernel_rfl)) rfl ?_
      exact ⟨a2, n2, c2, rfl, HF.out, HB2.out⟩
    · have hc : ¬ cmpI (val la) (val lb) < 0 := by unfold cmpI; split <;> (try split) <;> omega
      have hpl := Lib.hid hpl1
      have Hle : Hid (val lb ≤ val la) := Lib.hid (by omega)
      clear hlt hpl0 hpl1 hpl2
      generalize cmpI (val la) (val lb) = cc at *
      go_wp2
      generalize ((w.alloc (.cells #[.bool na, .slice a n cap] 24)).alloc (.cells #[.bool nb, .slice b m cap'] 24)).alloc (.cells #[.bool false, .slice none 0 0] 24) = W at *
      have hAd : W.drew.heap[w.heap.size]? = some (.cells #[.bool na, .slice a n cap] 24 (0, 0)) := hA.out
      have hBd : W.drew.heap[w.heap.size + 1]? = some (.cells #[.bool nb, .slice b m cap'] 24 (0, 0)) := hBb.out
      have hRd : W.drew.heap[w.heap.size + 1 + 1]? = some (.cells #[.bool false, .slice none 0 0] 24 (0, 0)) := hR.out
      have Hd : Below W.heap.size W W.drew := (Below.refl _ _).drew
      have Sd := four_cells hAd hBd
      have HAd := Lib.hid hAd
      have HBd := Lib.hid hBd
      have HRd := Lib.hid hRd
      clear hAd hBd hRd
      go_region_held3 (fun w' => w'.cell? ⟨w.heap.size, 0, none⟩ = some (.bool na) ∧ w'.cell? ⟨w.heap.size, 1, none⟩ = some (.slice a n cap) ∧ w'.cell? ⟨w.heap.size + 1, 0, none⟩ = some (.bool nb) ∧ w'.cell? ⟨w.heap.size + 1, 1, none⟩ = some (.slice b m cap')) (first | exact Sd | exact S1 | exact S2 | exact S3 _ _)
        (first
        | (go_at_call 35; (refine (ref02_sub a n cap la b m cap' lb _ (Ha.out.later Hd) (Hb.out.later Hd) ?q3 ?q4 Hle).mono ?_); (case q3 => omega); (case q4 => omega); rintro e w1 ⟨a1, n1, c1, rfl, h1, b1⟩; have hA1 := blk_later HAd.out b1; have hB1 := blk_later HBd.out b1; have S1 := four_cells hA1 hB1)
        | (go_at_call 15; (refine (ref08_norm _ a1 n1 c1 _ _ h1 ?q5).mono ?_); (case q5 => have h7 := h1.len; have h8 := hpl.out; omega); rintro e w2 ⟨a2, n2, c2, rfl, h2, b2⟩; have S2 := four_cells (blk_later hA1 b2) (blk_later hB1 b2); have S3 := four_stored (g := w.heap.size + 1 + 1) (blk_later hA1 b2) (blk_later hB1 b2) (by omega) (by omega); have hRb := blk_later (blk_later HRd.out b1) b2; have r0 := blk_cell hRb 0; have r1 := blk_cell hRb 1; have f0 := blk_free hRb 0; have f1 := blk_free hRb 1; simp only [List.getElem?_toArray, List.getElem?_cons_zero, List.getElem?_cons_succ] at r0 r1; unfold whV))
      have H2 := Lib.hid h2
      have hl2 := Lib.hid hRb
      have hBe := Lib.hid (below_then HB.out (below_then Hd (below_then b1 b2)))
      have HF := Lib.hid (H2.out.stored2 hl2.out (zneg (zval na (val (dg (val la - val lb))))) (.slice a2 n2 c2))
      have HG := Lib.hid (blk_set2 hl2.out (.bool (zneg (zval na (val (dg (val la - val lb)))))) (.slice a2 n2 c2))
      have HB2 := Lib.hid (below_set2 hBe.out (show w.heap.size ≤ w.heap.size + 1 + 1 by omega) (.bool (zneg (zval na (val (dg (val la - val lb)))))) (.slice a2 n2 c2))
      have HV : Hid (zval na (val (dg (val la - val lb))) = zval na (val la) + zval nb (val lb)) := Lib.hid (by rw [val_dg]; exact zval_add_more Hne.out Hle.out)
      rw [HV.out] at HF HG HB2
      rw [HV.out]
      generalize hzz : zval na (val la) + zval nb (val lb) = z at *
      go_wp2
      refine bodyPost_ret (results_cell_row Tryd.results9 _ _ (w.heap.size + 1 + 1) 24 #[.bool (zneg z), .slice a2 n2 c2] (0, 0) _ rfl HG.out Tryd.underlying24 rfl (by kernel_rfl)) rfl ?_
      exact ⟨a2, n2, c2, rfl, HF.out, HB2.out⟩
end Go.Proofs.YtiblojmdgjnfbaaDoor
