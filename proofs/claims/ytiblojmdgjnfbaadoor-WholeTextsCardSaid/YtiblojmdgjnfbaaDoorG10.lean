/-
  Several texts of this claim as one, group 10.
-/
import Derived.Test.YtiblojmdgjnfbaaDoorG9
import Derived.Deep.RegionHeld3
import Derived.Test.YtiblojmdgjnfbaaDoorG7
import Derived.Test.YtiblojmdgjnfbaaDoorG3
import Derived.Test.YtiblojmdgjnfbaaDoorG4
/-
  Package whole at this seat: Add, Sub.
-/
namespace Go.Proofs.YtiblojmdgjnfbaaDoor
open Go.RowKit

set_option maxRecDepth 4096 in
set_option maxHeartbeats 4000000 in
theorem whole_add (na : Bool) (a : Option Addr) (n cap : Nat) (la : List Nat) (nb : Bool) (b : Option Addr) (m cap' : Nat) (lb : List Nat) (w : World) (ha : Wd w a n cap la) (hb : Wd w b m cap' lb) (hn : n ≤ 100000) (hm : m ≤ 100000) :
    Calls Tryd.prog 20 #[whV na a n cap, whV nb b m cap'] w (LstZ (zval na (val la) + zval nb (val lb)) w) := by
  have hB3 : Below w.heap.size w (((w.alloc (.cells #[.bool na, .slice a n cap] 30)).alloc (.cells #[.bool nb, .slice b m cap'] 30)).alloc (.cells #[.bool false, .slice none 0 0] 30)) := below_then (below_then (below_alloc _ _) (below_alloc _ _)) (below_alloc _ _)
  have Ha := Lib.hid (ha.later hB3)
  have Hb := Lib.hid (hb.later hB3)
  have HB := Lib.hid hB3
  have h3b := boxes3_at w #[.bool na, .slice a n cap] #[.bool nb, .slice b m cap'] #[.bool false, .slice none 0 0] 30 30 30
  have HAo := Lib.hid h3b.1
  have HBo := Lib.hid h3b.2.1
  have HRo := Lib.hid h3b.2.2
  have hla := ha.trim_le
  have hlb := hb.trim_le
  have Hla := Lib.hid ha.len
  have Hlb := Lib.hid hb.len
  clear ha hb hB3 h3b
  by_cases hne : na = nb
  · subst hne
    have HV : Hid (zval na (val la + val lb) = zval na (val la) + zval na (val lb)) := Lib.hid (zval_add_same na _ _)
    have hva : Hid (vals [la, lb] = val la + val lb) := Lib.hid (by simp [vals])
    have hpl : Hid ((dg (vals [la, lb])).length ≤ 200001) := Lib.hid (by have := dg_add_length (val la) (val lb); rw [hva.out]; omega)
    have hq : (na == na) = true := by simp
    clear hla hlb
    go_enter Tryd.func20, Tryd.ntmps20
    unfold whV
    go_wp2
    generalize (((w.alloc (.cells #[.bool na, .slice a n cap] 30)).alloc (.cells #[.bool na, .slice b m cap'] 30)).alloc (.cells #[.bool false, .slice none 0 0] 30)) = W at *
    have HAd : Hid (W.drew.heap[w.heap.size]? = some (.cells #[.bool na, .slice a n cap] 30 (0, 0))) := Lib.hid HAo.out
    have HBd : Hid (W.drew.heap[w.heap.size + 1]? = some (.cells #[.bool na, .slice b m cap'] 30 (0, 0))) := Lib.hid HBo.out
    have HRd : Hid (W.drew.heap[w.heap.size + 1 + 1]? = some (.cells #[.bool false, .slice none 0 0] 30 (0, 0))) := Lib.hid HRo.out
    have Hd : Below W.heap.size W W.drew := (Below.refl _ _).drew
    have Sd := four_cells HAd.out HBd.out
    clear HAo HBo HRo
    have Sal := fun o => four_cells (blk_later HAd.out (below_alloc W.drew o)) (blk_later HBd.out (below_alloc W.drew o))
    go_region_held3 (fun w' => w'.cell? ⟨w.heap.size, 0, none⟩ = some (.bool na) ∧ w'.cell? ⟨w.heap.size, 1, none⟩ = some (.slice a n cap) ∧ w'.cell? ⟨w.heap.size + 1, 0, none⟩ = some (.bool na) ∧ w'.cell? ⟨w.heap.size + 1, 1, none⟩ = some (.slice b m cap')) (first | exact Sd | exact Sal _ | exact Sq1 | exact Sq2 | exact Sq3 _ _)
      (first
      | (go_at_call 43; (refine (natSaid.add _ _ _ _ _ (Wds.lit2 W.drew 22 (Ha.out.later Hd) (Hb.out.later Hd)) (by omega) ?q3).mono ?_); (case q3 => have h7 := Hla.out; have h8 := Hlb.out; simp only [words]; omega); rintro e w1 ⟨a1, n1, c1, rfl, h1, b1⟩; have bq1 := below_then (below_alloc W.drew _) b1; have hA1 := blk_later HAd.out bq1; have hB1 := blk_later HBd.out bq1; have Sq1 := four_cells hA1 hB1)
      | (go_at_call 37; (refine (whole_signed na a1 n1 c1 _ _ h1 ?q5).mono ?_); (case q5 => have h7 := h1.len; have h8 := hpl.out; omega); rintro e w2 ⟨a2, n2, c2, rfl, h2, b2⟩; have Sq2 := four_cells (blk_later hA1 b2) (blk_later hB1 b2); have Sq3 := four_stored (g := w.heap.size + 1 + 1) (blk_later hA1 b2) (blk_later hB1 b2) (by omega) (by omega); have hRb := blk_later (blk_later HRd.out bq1) b2; have r0 := blk_cell hRb 0; have r1 := blk_cell hRb 1; have f0 := blk_free hRb 0; have f1 := blk_free hRb 1; simp only [List.getElem?_toArray, List.getElem?_cons_zero, List.getElem?_cons_succ] at r0 r1; unfold whV))
    have hBe := Lib.hid (below_then HB.out (below_then Hd (below_then bq1 b2)))
    have H2 := Lib.hid h2
    have hl2 := Lib.hid hRb
    have HF := Lib.hid (H2.out.stored2 hl2.out (zneg (zval na (vals [la, lb]))) (.slice a2 n2 c2))
    have HG := Lib.hid (blk_set2 hl2.out (.bool (zneg (zval na (vals [la, lb])))) (.slice a2 n2 c2))
    have HB2 := Lib.hid (below_set2 hBe.out (show w.heap.size ≤ w.heap.size + 1 + 1 by omega) (.bool (zneg (zval na (vals [la, lb])))) (.slice a2 n2 c2))
    rw [hva.out, HV.out] at HF HG HB2
    rw [hva.out, HV.out]
    generalize zval na (val la) + zval na (val lb) = z at *
    go_wp2
    refine bodyPost_ret (results_cell_row Tryd.results20 _ _ (w.heap.size + 1 + 1) 30 #[.bool (zneg z), .slice a2 n2 c2] (0, 0) _ rfl HG.out Tryd.underlying30 rfl (by kernel_rfl)) rfl ?_
    exact ⟨a2, n2, c2, rfl, HF.out, HB2.out⟩
  · have hq : (na == nb) = false := by simp [hne]
    have Hne := Lib.hid hne
    have hpl : Hid ((dg (val la - val lb + (val lb - val la))).length ≤ 200001) := Lib.hid (by
      have h1 := dg_length_mono (show val la - val lb + (val lb - val la) ≤ val la + val lb by omega)
      have h2 := dg_add_length (val la) (val lb)
      omega)
    clear hne hla hlb
    go_enter Tryd.func20, Tryd.ntmps20
    unfold whV
    by_cases hlt : val la < val lb
    · have hc : cmpI (val la) (val lb) < 0 := by rw [cmpI_lt hlt]; omega
      have Hlt := Lib.hid hlt
      clear hlt
      go_wp2_with fail
      refine (natSaid.gap a n cap la b m cap' lb _ Ha.out Hb.out (by omega) (by omega)).mono ?_
      rintro e w1 ⟨a1, n1, c1, rfl, h1, b1⟩
      obtain ⟨s0, s1, s2, s3⟩ := four_cells (blk_later HAo.out b1) (blk_later HBo.out b1)
      have HR1 := Lib.hid (blk_later HRo.out b1)
      have hn1 : n1 ≤ 200001 := by rw [← h1.len]; exact hpl.out
      have H1 := Lib.hid h1
      have HV : Hid (zval nb (val la - val lb + (val lb - val la)) = zval na (val la) + zval nb (val lb)) := Lib.hid (by rw [Nat.sub_eq_zero_of_le (Nat.le_of_lt Hlt.out), Nat.zero_add]; exact zval_add_less Hne.out Hlt.out)
      clear h1 HAo HBo HRo Ha Hb
      generalize cmpI (val la) (val lb) = cc at *
      go_wp2_with fail
      refine (whole_signed nb a1 n1 c1 _ _ H1.out (by omega)).mono ?_
      rintro e w2 ⟨a2, n2, c2, rfl, h2, b2⟩
      clear s0 s1 s2 s3
      have hRb := blk_later HR1.out b2
      have r0 := blk_cell hRb 0
      have r1 := blk_cell hRb 1
      have f0 := blk_free hRb 0
      have f1 := blk_free hRb 1
      simp only [List.getElem?_toArray, List.getElem?_cons_zero, List.getElem?_cons_succ] at r0 r1
      have hBe := Lib.hid (below_then HB.out (below_then b1 b2))
      have H2 := Lib.hid h2
      have hl2 := Lib.hid hRb
      have HF := Lib.hid (H2.out.stored2 hl2.out (zneg (zval nb (val la - val lb + (val lb - val la)))) (.slice a2 n2 c2))
      have HG := Lib.hid (blk_set2 hl2.out (.bool (zneg (zval nb (val la - val lb + (val lb - val la))))) (.slice a2 n2 c2))
      have HB2 := Lib.hid (below_set2 hBe.out (show w.heap.size ≤ w.heap.size + 1 + 1 by omega) (.bool (zneg (zval nb (val la - val lb + (val lb - val la))))) (.slice a2 n2 c2))
      clear hRb h2 b1 b2 hBe
      rw [HV.out] at HF HG HB2
      rw [HV.out]
      generalize zval na (val la) + zval nb (val lb) = z at *
      unfold whV
      go_wp2
      refine bodyPost_ret (results_cell_row Tryd.results20 _ _ (w.heap.size + 1 + 1) 30 #[.bool (zneg z), .slice a2 n2 c2] (0, 0) _ rfl HG.out Tryd.underlying30 rfl (by kernel_rfl)) rfl ?_
      exact ⟨a2, n2, c2, rfl, HF.out, HB2.out⟩
    · have hc : ¬ cmpI (val la) (val lb) < 0 := by unfold cmpI; split <;> (try split) <;> omega
      have Hle : Hid (val lb ≤ val la) := Lib.hid (by omega)
      clear hlt
      go_wp2_with fail
      refine (natSaid.gap a n cap la b m cap' lb _ Ha.out Hb.out (by omega) (by omega)).mono ?_
      rintro e w1 ⟨a1, n1, c1, rfl, h1, b1⟩
      obtain ⟨s0, s1, s2, s3⟩ := four_cells (blk_later HAo.out b1) (blk_later HBo.out b1)
      have HR1 := Lib.hid (blk_later HRo.out b1)
      have hn1 : n1 ≤ 200001 := by rw [← h1.len]; exact hpl.out
      have H1 := Lib.hid h1
      have HV : Hid (zval na (val la - val lb + (val lb - val la)) = zval na (val la) + zval nb (val lb)) := Lib.hid (by rw [Nat.sub_eq_zero_of_le Hle.out, Nat.add_zero]; exact zval_add_more Hne.out Hle.out)
      clear h1 HAo HBo HRo Ha Hb
      generalize cmpI (val la) (val lb) = cc at *
      go_wp2_with fail
      refine (whole_signed na a1 n1 c1 _ _ H1.out (by omega)).mono ?_
      rintro e w2 ⟨a2, n2, c2, rfl, h2, b2⟩
      clear s0 s1 s2 s3
      have hRb := blk_later HR1.out b2
      have r0 := blk_cell hRb 0
      have r1 := blk_cell hRb 1
      have f0 := blk_free hRb 0
      have f1 := blk_free hRb 1
      simp only [List.getElem?_toArray, List.getElem?_cons_zero, List.getElem?_cons_succ] at r0 r1
      have hBe := Lib.hid (below_then HB.out (below_then b1 b2))
      have H2 := Lib.hid h2
      have hl2 := Lib.hid hRb
      have HF := Lib.hid (H2.out.stored2 hl2.out (zneg (zval na (val la - val lb + (val lb - val la)))) (.slice a2 n2 c2))
      have HG := Lib.hid (blk_set2 hl2.out (.bool (zneg (zval na (val la - val lb + (val lb - val la))))) (.slice a2 n2 c2))
      have HB2 := Lib.hid (below_set2 hBe.out (show w.heap.size ≤ w.heap.size + 1 + 1 by omega) (.bool (zneg (zval na (val la - val lb + (val lb - val la))))) (.slice a2 n2 c2))
      clear hRb h2 b1 b2 hBe
      rw [HV.out] at HF HG HB2
      rw [HV.out]
      generalize zval na (val la) + zval nb (val lb) = z at *
      unfold whV
      go_wp2
      refine bodyPost_ret (results_cell_row Tryd.results20 _ _ (w.heap.size + 1 + 1) 30 #[.bool (zneg z), .slice a2 n2 c2] (0, 0) _ rfl HG.out Tryd.underlying30 rfl (by kernel_rfl)) rfl ?_
      exact ⟨a2, n2, c2, rfl, HF.out, HB2.out⟩
set_option maxRecDepth 4096 in
set_option maxHeartbeats 4000000 in
theorem whole_sub (na : Bool) (a : Option Addr) (n cap : Nat) (la : List Nat) (nb : Bool) (b : Option Addr) (m cap' : Nat) (lb : List Nat) (w : World) (ha : Wd w a n cap la) (hb : Wd w b m cap' lb) (hn : n ≤ 100000) (hm : m ≤ 100000) :
    Calls Tryd.prog 21 #[whV na a n cap, whV nb b m cap'] w (LstZ (zval na (val la) - zval nb (val lb)) w) := by
  have hB3 : Below w.heap.size w (((w.alloc (.cells #[.bool na, .slice a n cap] 30)).alloc (.cells #[.bool nb, .slice b m cap'] 30)).alloc (.cells #[.bool false, .slice none 0 0] 30)) := below_then (below_then (below_alloc _ _) (below_alloc _ _)) (below_alloc _ _)
  have Ha := Lib.hid (ha.later hB3)
  have Hb := Lib.hid (hb.later hB3)
  have HB := Lib.hid hB3
  have h3b := boxes3_at w #[.bool na, .slice a n cap] #[.bool nb, .slice b m cap'] #[.bool false, .slice none 0 0] 30 30 30
  have HAo := Lib.hid h3b.1
  have HBo := Lib.hid h3b.2.1
  have HRo := Lib.hid h3b.2.2
  have HV : Hid (zval na (val la) + zval (!nb) (val lb) = zval na (val la) - zval nb (val lb)) := Lib.hid (by cases na <;> cases nb <;> simp [zval] <;> omega)
  clear ha hb hB3 h3b
  go_enter Tryd.func21, Tryd.ntmps21
  unfold whV
  go_wp2
  generalize (((w.alloc (.cells #[.bool na, .slice a n cap] 30)).alloc (.cells #[.bool nb, .slice b m cap'] 30)).alloc (.cells #[.bool false, .slice none 0 0] 30)) = W at *
  have HAd : Hid (W.drew.heap[w.heap.size]? = some (.cells #[.bool na, .slice a n cap] 30 (0, 0))) := Lib.hid HAo.out
  have HBd : Hid (W.drew.heap[w.heap.size + 1]? = some (.cells #[.bool nb, .slice b m cap'] 30 (0, 0))) := Lib.hid HBo.out
  have HRd : Hid (W.drew.heap[w.heap.size + 1 + 1]? = some (.cells #[.bool false, .slice none 0 0] 30 (0, 0))) := Lib.hid HRo.out
  have Hd : Below W.heap.size W W.drew := (Below.refl _ _).drew
  have Sd := four_cells HAd.out HBd.out
  clear HAo HBo HRo
  go_region_held3 (fun w' => w'.cell? ⟨w.heap.size, 0, none⟩ = some (.bool na) ∧ w'.cell? ⟨w.heap.size, 1, none⟩ = some (.slice a n cap) ∧ w'.cell? ⟨w.heap.size + 1, 0, none⟩ = some (.bool nb) ∧ w'.cell? ⟨w.heap.size + 1, 1, none⟩ = some (.slice b m cap')) (first | exact Sd | exact Sq1 | exact Sq2 | exact Sq3 _ _)
    (first
    | (go_at_call 42; (refine (whole_turned nb b m cap' _).mono ?_); rintro e w1 ⟨rfl, b1⟩; have hA1 := blk_later HAd.out b1; have hB1 := blk_later HBd.out b1; have Sq1 := four_cells hA1 hB1; unfold whV)
    | (go_at_call 20; (refine (whole_add na a n cap la (!nb) b m cap' lb _ (Ha.out.later (below_then Hd b1)) (Hb.out.later (below_then Hd b1)) hn hm).mono ?_); rintro e w2 ⟨a2, n2, c2, rfl, h2, b2⟩; have Sq2 := four_cells (blk_later hA1 b2) (blk_later hB1 b2); have Sq3 := four_stored (g := w.heap.size + 1 + 1) (blk_later hA1 b2) (blk_later hB1 b2) (by omega) (by omega); have hRb := blk_later (blk_later HRd.out b1) b2; have r0 := blk_cell hRb 0; have r1 := blk_cell hRb 1; have f0 := blk_free hRb 0; have f1 := blk_free hRb 1; simp only [List.getElem?_toArray, List.getElem?_cons_zero, List.getElem?_cons_succ] at r0 r1; unfold whV))
  have hBe := Lib.hid (below_then HB.out (below_then Hd (below_then b1 b2)))
  have H2 := Lib.hid h2
  have hl2 := Lib.hid hRb
  have HF := Lib.hid (H2.out.stored2 hl2.out (zneg (zval na (val la) + zval (!nb) (val lb))) (.slice a2 n2 c2))
  have HG := Lib.hid (blk_set2 hl2.out (.bool (zneg (zval na (val la) + zval (!nb) (val lb)))) (.slice a2 n2 c2))
  have HB2 := Lib.hid (below_set2 hBe.out (show w.heap.size ≤ w.heap.size + 1 + 1 by omega) (.bool (zneg (zval na (val la) + zval (!nb) (val lb)))) (.slice a2 n2 c2))
  rw [HV.out] at HF HG HB2
  rw [HV.out]
  generalize zval na (val la) - zval nb (val lb) = z at *
  go_wp2
  refine bodyPost_ret (results_cell_row Tryd.results21 _ _ (w.heap.size + 1 + 1) 30 #[.bool (zneg z), .slice a2 n2 c2] (0, 0) _ rfl HG.out Tryd.underlying30 rfl (by kernel_rfl)) rfl ?_
  exact ⟨a2, n2, c2, rfl, HF.out, HB2.out⟩
end Go.Proofs.YtiblojmdgjnfbaaDoor

/-
  Package whole at this seat: Of, Int, Text.
-/
namespace Go.Proofs.YtiblojmdgjnfbaaDoor
open Go.RowKit

set_option maxRecDepth 4096 in
theorem whole_of (z : Int) (w : World) (hz : isInt z) : Calls Tryd.prog 30 #[.int .i64 z] w (LstZ z w) := by
  unfold isInt at hz
  by_cases hlt : z < 0
  · skip
    have HA : Hid (zval true z.natAbs = z) := Lib.hid (by unfold zval; simp; omega)
    have hv : ((z.natAbs : Nat) : Int) = -z := by omega
    have hvb : z.natAbs ≤ 18446744073709551615 := by omega
    generalize z.natAbs = v at *
    have hw : IntKind.u64.wrap (-IntKind.u64.wrap z) = (v : Int) := by rw [IntKind.wrap_u64, IntKind.wrap_u64]; omega
    go_enter Tryd.func30, Tryd.ntmps30
    go_wp2_with fail
    rw [← hv]
    refine (natSaid.of v _ hvb).mono ?_
    rintro e w1 ⟨a1, n1, c1, rfl, h1, b1⟩
    have hn1 : n1 ≤ 2 := by rw [← h1.len]; exact dg_length_le (by omega)
    have hR := box_at w w1 _ _ b1
    have H1 := Lib.hid h1
    go_wp2_with fail
    refine (whole_signed true a1 n1 c1 _ _ H1.out (by omega)).mono ?_
    rintro e w2 ⟨a2, n2, c2, rfl, h2, b2⟩
    have hRb := blk_later hR b2
    have r0 := blk_cell hRb 0
    have r1 := blk_cell hRb 1
    have f0 := blk_free hRb 0
    have f1 := blk_free hRb 1
    simp only [List.getElem?_toArray, List.getElem?_cons_zero, List.getElem?_cons_succ] at r0 r1
    have hBe := Lib.hid (below_then (below_alloc w _) (below_then b1 b2))
    have H2 := Lib.hid h2
    have hl2 := Lib.hid hRb
    have HF := Lib.hid (H2.out.stored2 hl2.out (zneg (zval true v)) (.slice a2 n2 c2))
    have HG := Lib.hid (blk_set2 hl2.out (.bool (zneg (zval true v))) (.slice a2 n2 c2))
    have HB2 := Lib.hid (below_set2 hBe.out (show w.heap.size ≤ w.heap.size by omega) (.bool (zneg (zval true v))) (.slice a2 n2 c2))
    clear hRb h2 b1 b2 hBe hR h1
    rw [HA.out] at HF HG HB2
    rw [HA.out]
    generalize hzz : zneg z = zb at *
    have Hzz := Lib.hid hzz
    clear hzz
    unfold whV
    go_wp2
    refine bodyPost_ret (results_cell_row Tryd.results30 _ _ (w.heap.size) 30 #[.bool zb, .slice a2 n2 c2] (0, 0) _ rfl HG.out Tryd.underlying30 rfl (by kernel_rfl)) rfl ?_
    exact ⟨a2, n2, c2, by rw [Hzz.out]; rfl, HF.out, HB2.out⟩
  · skip
    have HA : Hid (zval false z.natAbs = z) := Lib.hid (by unfold zval; simp; omega)
    have hv : ((z.natAbs : Nat) : Int) = z := by omega
    have hvb : z.natAbs ≤ 18446744073709551615 := by omega
    generalize z.natAbs = v at *
    have hw : IntKind.u64.wrap z = (v : Int) := by rw [IntKind.wrap_u64]; omega
    go_enter Tryd.func30, Tryd.ntmps30
    go_wp2_with fail
    rw [← hv]
    refine (natSaid.of v _ hvb).mono ?_
    rintro e w1 ⟨a1, n1, c1, rfl, h1, b1⟩
    have hn1 : n1 ≤ 2 := by rw [← h1.len]; exact dg_length_le (by omega)
    have hR := box_at w w1 _ _ b1
    have H1 := Lib.hid h1
    go_wp2_with fail
    refine (whole_signed false a1 n1 c1 _ _ H1.out (by omega)).mono ?_
    rintro e w2 ⟨a2, n2, c2, rfl, h2, b2⟩
    have hRb := blk_later hR b2
    have r0 := blk_cell hRb 0
    have r1 := blk_cell hRb 1
    have f0 := blk_free hRb 0
    have f1 := blk_free hRb 1
    simp only [List.getElem?_toArray, List.getElem?_cons_zero, List.getElem?_cons_succ] at r0 r1
    have hBe := Lib.hid (below_then (below_alloc w _) (below_then b1 b2))
    have H2 := Lib.hid h2
    have hl2 := Lib.hid hRb
    have HF := Lib.hid (H2.out.stored2 hl2.out (zneg (zval false v)) (.slice a2 n2 c2))
    have HG := Lib.hid (blk_set2 hl2.out (.bool (zneg (zval false v))) (.slice a2 n2 c2))
    have HB2 := Lib.hid (below_set2 hBe.out (show w.heap.size ≤ w.heap.size by omega) (.bool (zneg (zval false v))) (.slice a2 n2 c2))
    clear hRb h2 b1 b2 hBe hR h1
    rw [HA.out] at HF HG HB2
    rw [HA.out]
    generalize hzz : zneg z = zb at *
    have Hzz := Lib.hid hzz
    clear hzz
    unfold whV
    go_wp2
    refine bodyPost_ret (results_cell_row Tryd.results30 _ _ (w.heap.size) 30 #[.bool zb, .slice a2 n2 c2] (0, 0) _ rfl HG.out Tryd.underlying30 rfl (by kernel_rfl)) rfl ?_
    exact ⟨a2, n2, c2, by rw [Hzz.out]; rfl, HF.out, HB2.out⟩
set_option maxRecDepth 4096 in
set_option maxHeartbeats 2000000 in
theorem whole_int (neg : Bool) (a : Option Addr) (n cap : Nat) (l : List Nat) (w : World) (h : Wd w a n cap l) (hn : n ≤ 100000) :
    Calls Tryd.prog 31 #[whV neg a n cap] w (Gives (.tuple #[.int .i64 (intV (zval neg (val l))), .bool (decide (isInt (zval neg (val l))))]) w) := by
  have H := Lib.hid h
  clear h
  go_enter Tryd.func31, Tryd.ntmps31
  unfold whV
  go_wp2_with fail
  refine (natSaid.small _ _ _ _ _ (H.out.later (below_alloc _ _)) (by omega)).mono ?_
  rintro e w1 ⟨rfl, b1⟩
  have hA := box_at w w1 _ _ b1
  have r0 := blk_cell hA 0
  have r1 := blk_cell hA 1
  simp only [List.getElem?_toArray, List.getElem?_cons_zero, List.getElem?_cons_succ] at r0 r1
  have HB := Lib.hid (below_then (below_alloc _ _) b1)
  clear hA b1 H
  generalize val l = v at *
  by_cases h64 : v < two64
  · rw [show smallV v = v from if_pos h64, show smallB v = true from decide_eq_true h64]
    unfold two64 at h64
    by_cases h1 : 9223372036854775808 < v
    · have HN : Hid (¬ isInt (zval neg v)) := Lib.hid (by unfold isInt zval; cases neg <;> simp <;> omega)
      go_wp2
      go_ret2
      exact ⟨by rw [intV_no HN.out, decide_eq_false HN.out]; rfl, HB.out⟩
    · by_cases h2 : v = 9223372036854775808
      · have hvi : ((v : Int) == 9223372036854775808) = true := by simp; omega
        cases neg with
        | false =>
          have HN : Hid (¬ isInt (zval false v)) := Lib.hid (by unfold isInt zval; simp; omega)
          clear h2
          go_wp2
          go_ret2
          exact ⟨by rw [intV_no HN.out, decide_eq_false HN.out]; rfl, HB.out⟩
        | true =>
          have HN : Hid (isInt (zval true v)) := Lib.hid (by unfold isInt zval; simp; omega)
          have HV : Hid (zval true v = -9223372036854775808) := Lib.hid (by unfold zval; simp; omega)
          have hw : wrap64 (IntKind.u64.wrap (-9223372036854775808)) = -9223372036854775808 := by rw [IntKind.wrap_u64]; unfold wrap64; omega
          subst h2
          clear h64 h1 hvi
          go_wp2
          go_ret2
          exact ⟨by rw [intV_of HN.out, decide_eq_true HN.out, HV.out]; show Ending.returned (.tuple #[.int .i64 (wrap64 (IntKind.u64.wrap (-9223372036854775808))), .bool true]) = _; rw [hw], HB.out⟩
      · have hvi : ((v : Int) == 9223372036854775808) = false := by simp; omega
        have HN : Hid (isInt (zval neg v)) := Lib.hid (by unfold isInt zval; cases neg <;> simp <;> omega)
        have hvb : v < 9223372036854775808 := by omega
        clear h1 h2 h64
        cases neg with
        | false =>
          have HV : Hid (zval false v = v) := Lib.hid rfl
          go_wp2
          go_ret2
          exact ⟨by rw [intV_of HN.out, decide_eq_true HN.out, HV.out]; rfl, HB.out⟩
        | true =>
          have HV : Hid (zval true v = -(v : Int)) := Lib.hid rfl
          have hw1 : IntKind.i64.wrap (IntKind.u64.wrap (-(v : Int))) = -(v : Int) := by
            rw [IntKind.wrap_i64, IntKind.wrap_u64]; omega
          go_wp2
          go_ret2
          exact ⟨by rw [intV_of HN.out, decide_eq_true HN.out, HV.out]; rfl, HB.out⟩
  · rw [show smallV v = 0 from if_neg h64, show smallB v = false from decide_eq_false h64]
    unfold two64 at h64
    have HN : Hid (¬ isInt (zval neg v)) := Lib.hid (by unfold isInt zval; cases neg <;> simp <;> omega)
    clear h64
    go_wp2
    go_ret2
    exact ⟨by rw [intV_no HN.out, decide_eq_false HN.out]; rfl, HB.out⟩
set_option maxRecDepth 4096 in
set_option maxHeartbeats 2000000 in
theorem whole_text (D : DigitsSaid) (neg : Bool) (a : Option Addr) (n cap : Nat) (l : List Nat) (w : World) (h : Wd w a n cap l) (hn : n ≤ 1000) (hT : Hid (Dec10 w)) :
    Calls Tryd.prog 28 #[whV neg a n cap] w (Gives (.string (bs (ztxt (zval neg (val l))))) w) := by
  have hts : (txt (val l)).length ≤ 3200001 := by
    have h1 := val_lt h.ok
    rw [h.len, pow32] at h1
    have h2 := txt_length_le h1
    omega
  have hs1 := bs_size (txt (val l))
  have hs2 := bs_size [45]
  have hs3 := bs_append [45] (txt (val l))
  have HA : Hid ((zval neg (val l)).natAbs = val l) := Lib.hid (zval_abs _ _)
  have H := Lib.hid h
  clear h
  go_enter Tryd.func28, Tryd.ntmps28
  unfold whV
  go_wp2_with fail
  refine (whole_sign neg a n cap l _ (H.out.later (below_alloc _ _)) (by omega)).mono ?_
  rintro e w1 ⟨rfl, b1⟩
  have hA := box_at w w1 _ _ b1
  have r0 := blk_cell hA 0
  have r1 := blk_cell hA 1
  simp only [List.getElem?_toArray, List.getElem?_cons_zero, List.getElem?_cons_succ] at r0 r1
  have HB := Lib.hid (below_then (below_alloc _ _) b1)
  have H1 := Lib.hid (H.out.later HB.out)
  have HT1 := Lib.hid (hT.out.later HB.out)
  clear hA b1 H
  generalize zval neg (val l) = z at *
  by_cases hlt : z < 0
  · have HF : Hid (ztxt z = [45] ++ txt (val l)) := Lib.hid (by unfold ztxt; rw [if_pos hlt, HA.out]; rfl)
    rw [sgn_neg hlt]
    clear hlt
    simp only [List.length_cons, List.length_nil] at hs2
    go_wp2_with fail
    refine (D.text _ _ _ _ _ H1.out (by omega) HT1).mono ?_
    rintro e w2 ⟨rfl, b2⟩
    go_wp2
    go_ret
    exact ⟨by rw [HF.out, ← hs3]; rfl, below_then HB.out b2⟩
  · have HF : Hid (ztxt z = txt (val l)) := Lib.hid (by unfold ztxt; rw [if_neg hlt, HA.out])
    have hsn := sgn_not hlt
    clear hlt
    generalize sgn z = s at *
    go_wp2_with fail
    refine (D.text _ _ _ _ _ H1.out (by omega) HT1).mono ?_
    rintro e w2 ⟨rfl, b2⟩
    go_wp2
    go_ret
    exact ⟨by rw [HF.out]; rfl, below_then HB.out b2⟩
end Go.Proofs.YtiblojmdgjnfbaaDoor

/-
  The contracts of package twos (layer 3) at this seat: telling functions.
-/
namespace Go.Proofs.YtiblojmdgjnfbaaDoor
open Go.RowKit

/-- The bit at a place that may be below 0. -/
def bitI (v : Nat) (i : Int) : Bool := decide (0 ≤ i) && v.testBit i.toNat
/-- A number of places, below 0 as 0. -/
def natI (n : Int) : Nat := n.toNat

theorem limb_len_nat (x : Nat) (w : World) (hx : x < 4294967296) : Calls Tryd.prog 81 #[.int .u32 (x : Int)] w fun e w' => e = .returned (.int .i64 ((blen x : Nat) : Int)) ∧ w = w' :=
  (limb_len (x : Int) w (by omega) (by omega)).mono fun e w' ⟨he, hw⟩ => ⟨by rw [he]; simp only [Int.toNat_natCast, bitLen_blen (show x < 18446744073709551616 by omega)], hw⟩
theorem twos_len (a : Option Addr) (n cap : Nat) (l : List Nat) (w : World) (h : Wd w a n cap l) (hn : n ≤ 16777214) :
    Calls Tryd.prog 100 #[.slice a n cap] w fun e w' => e = .returned (.int .i64 ((blen (val l) : Nat) : Int)) ∧ w = w' := by
  obtain ⟨hb1, hb2⟩ := h.bound
  have H := Lib.hid h
  clear h
  go_enter Tryd.func100, Tryd.ntmps100
  go_wp2
  go_loop [3] (fun i => ∃ k : Nat, k ≤ n ∧ i = .int .i64 ((k : Int) - 1) ∧ Hid (top l k = 0)) (fun i => (intOf i + 1).toNat)
  case atStart => exact ⟨n, by omega, by go_num, Lib.hid (top_ge (by have := H.out.len; omega))⟩
  case round =>
    obtain ⟨k, hk, rfl, Ht⟩ := hrel
    cases k with
    | zero =>
      have Hv : Hid (blen (val l) = 0) := Lib.hid (by rw [← top_zero, Ht.out]; rfl)
      go_wp2
      go_ret
      exact ⟨ret_i64 (by rw [Hv.out]; rfl), rfl⟩
    | succ k =>
      have e1 : ((k + 1 : Nat) : Int) - 1 = (k : Int) := by omega
      rw [e1]
      clear e1
      obtain ⟨b, off, rfl, hc⟩ := H.out.at (by omega)
      have hck := hc k (by omega)
      have hx := atw_lt H.out.ok k
      clear hc
      by_cases hz : atw l k = 0
      · have hzb : (((atw l k : Nat) : Int) == 0) = true := by simp [hz]
        have Hz := Lib.hid hz
        clear hz
        go_wp2
        go_round
        case rel => exact ⟨k, by omega, by go_num, Lib.hid (by rw [top_succ, Hz.out, Ht.out])⟩
        case measure => simp [intOf]
      · have hzb : (((atw l k : Nat) : Int) == 0) = false := by simp [hz]
        have Hfin := Lib.hid (blen_top H.out.ok Ht.out hz)
        have hbl : blen (atw l k) ≤ 32 := blen_le.2 (atw_lt H.out.ok k)
        clear hz
        go_wp2_with fail
        refine (limb_len_nat _ _ hx).mono ?_
        rintro e w' ⟨rfl, rfl⟩
        generalize blen (atw l k) = y at *
        go_wp2
        go_ret
        exact ⟨ret_i64 (by rw [Hfin.out]; omega), rfl⟩
end Go.Proofs.YtiblojmdgjnfbaaDoor
