/-
  Several texts of this claim as one, group 17.
-/
import Derived.Test.YtiblojmdgjnfbaaDoorG13
import Derived.Test.YtiblojmdgjnfbaaDoorG16
import Derived.Test.YtiblojmdgjnfbaaDoorG8
import Derived.Deep.RegionWith
import Derived.Deep.CutRange
import Derived.Test.YtiblojmdgjnfbaaDoorG6
/-
  The contract of the document's answer for layer 8: Floor, where nothing is left.
-/
namespace Go.Proofs.YtiblojmdgjnfbaaDoor
open Go.RowKit

set_option maxRecDepth 4096 in
set_option maxHeartbeats 16000000 in
theorem ref08_floor_none (na : Bool) (a : Option Addr) (n cap : Nat) (la : List Nat) (nb : Bool) (b : Option Addr) (m cap' : Nat) (lb : List Nat) (w : World) (ha : Wd w a n cap la) (hb : Wd w b m cap' lb) (hn : n ≤ 20000) (hm : m ≤ 20000) (h0 : Hid (val lb ≠ 0)) (hne0 : Hid (¬ na = nb)) (hz0 : Hid (val la % val lb = 0)) :
    Calls Tryd.prog 25 #[whV na a n cap, whV nb b m cap'] w (LstZZ (flq na nb (val la) (val lb)) (zval na (val la) + -(flq na nb (val la) (val lb) * zval nb (val lb))) w) := by
  have hB4 : Below w.heap.size w ((((w.alloc (.cells #[.bool na, .slice a n cap] 24)).alloc (.cells #[.bool nb, .slice b m cap'] 24)).alloc (.cells #[.bool false, .slice none 0 0] 24)).alloc (.cells #[.bool false, .slice none 0 0] 24)) := below_then (below_then (below_then (below_alloc _ _) (below_alloc _ _)) (below_alloc _ _)) (below_alloc _ _)
  have Ha := Lib.hid (ha.later hB4)
  have Hb := Lib.hid (hb.later hB4)
  have HB := Lib.hid hB4
  have hlen := @flq_len na nb (val la) (val lb) n m (by rw [← ha.len]; exact val_lt ha.ok) hb.trim_le
  have Hl1 := Lib.hid hlen.1
  have Hl2 := Lib.hid hlen.2
  clear ha hb hB4 hlen
  obtain ⟨q, HQ⟩ : ∃ q, Hid (q = flq na nb (val la) (val lb)) := ⟨_, rfl⟩
  rw [← HQ.out] at Hl2 ⊢
  go_enter Tryd.func25, Tryd.ntmps25
  unfold whV
  go_wp2_with fail
  refine (ref05_div a n cap la b m cap' lb _ Ha.out Hb.out (by omega) (by omega) h0).mono ?_
  rintro e w1 ⟨a1, n1, c1, a2, n2, c2, rfl, h1, h2, b1⟩
  have H1 := Lib.hid h1
  have H2 := Lib.hid (Wd.own h2.out (okw_dg _))
  obtain ⟨hA, hBb, hR1, hR2⟩ := boxes4_at w _ _ _ _ _ _ _ _ w1 b1
  have HB1 := Lib.hid (below_then HB.out b1)
  have Ha1 := Lib.hid (Ha.out.later b1)
  have Hb1 := Lib.hid (Hb.out.later b1)
  have c0 := blk_cell hA 0
  have c1' := blk_cell hBb 0
  simp only [List.getElem?_toArray, List.getElem?_cons_zero] at c0 c1'
  have HA := Lib.hid hA
  have HBb := Lib.hid hBb
  have HR1 := Lib.hid hR1
  have HR2 := Lib.hid hR2
  have Hn2 : Hid ((dg (val la % val lb)).length = n2) := Lib.hid H2.out.len
  have Hn1 : Hid ((dg (val la / val lb)).length = n1) := Lib.hid H1.out.len
  have hn1 : n1 ≤ 20001 := by
    rw [← Hn1.out]
    exact Nat.le_trans (dg_length_mono (by omega)) (Nat.le_trans Hl1.out (by omega))
  clear hA hBb hR1 hR2 h1 h2 b1 HB Ha Hb
  have hne := hne0.out
  have hq0 : (na == nb) = false := by simp [hne]
  have hz : n2 = 0 := by rw [← Hn2.out, hz0.out, dg_zero]; rfl
  · have Hz : Hid (val la % val lb = 0) := Lib.hid (dg_nil_iff.1 (Hn2.out.trans hz))
    have Hne := Lib.hid hne
    clear hne
    subst hz
    have HNq : Hid (zval true (val la / val lb) = q) := Lib.hid (by rw [HQ.out, flq, if_neg (fun h => h.2 Hz.out), hq0]; rfl)
    have Hcall := Lib.hid (ref08_normN true a1 n1 c1 _ w1 H1.out (by omega))
    rw [HNq.out] at Hcall
    go_wp2_with fail
    refine Hcall.out.mono ?_
    rintro e wq ⟨aq, nq, cq, rfl, hq9, bq⟩
    unfold whV
    have Hlq : Hid (nq ≤ 20001) := Lib.hid (by rw [← hq9.len, HQ.out, flq, zval_abs]; exact Nat.le_trans Hl1.out (by omega))
    have HAg := Lib.hid (blk_later (blk_later HA.out bq) (below_alloc wq (.cells #[.bool (zneg q), .slice aq nq cq] 24)))
    have HBg := Lib.hid (blk_later (blk_later HBb.out bq) (below_alloc wq (.cells #[.bool (zneg q), .slice aq nq cq] 24)))
    have HR1g := Lib.hid (blk_later (blk_later HR1.out bq) (below_alloc wq (.cells #[.bool (zneg q), .slice aq nq cq] 24)))
    have HR2g := Lib.hid (blk_later (blk_later HR2.out bq) (below_alloc wq (.cells #[.bool (zneg q), .slice aq nq cq] 24)))
    have kz : w.heap.size + 1 + 1 + 1 < wq.heap.size := (Array.getElem?_eq_some_iff.1 (blk_later HR2.out bq)).1
    have HG := Lib.hid (blk_new wq #[.bool (zneg q), .slice aq nq cq] 24)
    have Hqg := Lib.hid (hq9.later (below_alloc wq (.cells #[.bool (zneg q), .slice aq nq cq] 24)))
    have Hag := Lib.hid ((Ha1.out.later bq).later (below_alloc wq (.cells #[.bool (zneg q), .slice aq nq cq] 24)))
    have Hbg := Lib.hid ((Hb1.out.later bq).later (below_alloc wq (.cells #[.bool (zneg q), .slice aq nq cq] 24)))
    have Hlow := Lib.hid (below_then (below_then HB1.out bq) (below_alloc wq (.cells #[.bool (zneg q), .slice aq nq cq] 24)))
    have Kz := Lib.hid kz
    clear kz hq9 bq Hcall c0 c1'
    go_wp2
    generalize wq.alloc (.cells #[.bool (zneg q), .slice aq nq cq] 24) = W at *
    generalize wq.heap.size = g at *
    have Hd : Below W.heap.size W W.drew := (Below.refl _ _).drew
    have Sd := six_cells (w := W.drew) HAg.out HBg.out HG.out
    go_region_held3 (fun w' => w'.cell? ⟨w.heap.size, 0, none⟩ = some (.bool na) ∧ w'.cell? ⟨w.heap.size, 1, none⟩ = some (.slice a n cap) ∧ w'.cell? ⟨w.heap.size + 1, 0, none⟩ = some (.bool nb) ∧ w'.cell? ⟨w.heap.size + 1, 1, none⟩ = some (.slice b m cap') ∧ w'.cell? ⟨g, 0, none⟩ = some (.bool (zneg q)) ∧ w'.cell? ⟨g, 1, none⟩ = some (.slice aq nq cq)) (first | exact Sd | exact S1 | exact S2 | exact S3.out | exact S4.out | exact S5.out)
      (first
      | (go_at_call 23; (refine (ref08_mulZ q aq nq cq nb b m cap' lb _ (Hqg.out.later Hd) (Hbg.out.later Hd) ?q3 ?q4).mono ?_); (case q3 => have := Hlq.out; omega); (case q4 => omega); rintro e w6 ⟨a6, n6, c6, rfl, h6, b6⟩; have b6' := below_then Hd b6; have S1 := six_cells (blk_later HAg.out b6') (blk_later HBg.out b6') (blk_later HG.out b6'))
      | (go_at_call 10; (refine (ref08_negZ (q * zval nb (val lb)) a6 n6 c6 _ h6 ?q5).mono ?_); (case q5 => have h9 := Hl2.out; rw [h6.len] at h9; omega); rintro e w7 ⟨a7, n7, c7, rfl, h7, b7⟩; have b7' := below_then b6' b7; have S2 := six_cells (blk_later HAg.out b7') (blk_later HBg.out b7') (blk_later HG.out b7'))
      | (go_at_call 9; (refine (ref08_addZ na a n cap la (-(q * zval nb (val lb))) a7 n7 c7 _ (Hag.out.later b7') h7 ?q6 ?q7).mono ?_); (case q6 => omega); (case q7 => have h9 := Hl2.out; rw [← Int.natAbs_neg, h7.len] at h9; omega); rintro e w8 ⟨a8, n8, c8, rfl, h8, b8⟩; have b8' := below_then b7' b8; have S3 := Lib.hid (six_cells (blk_later HAg.out b8') (blk_later HBg.out b8') (blk_later HG.out b8')); have N1 := Lib.hid (show w.heap.size + 1 + 1 ≠ g by have := Kz.out; omega); have N2 := Lib.hid (show w.heap.size + 1 + 1 + 1 ≠ g by have := Kz.out; omega); have A4 := Lib.hid (blk_apart2 (g := w.heap.size + 1 + 1) (blk_later HAg.out b8') (by omega) (.bool (zneg q)) (.slice aq nq cq)); have B4 := Lib.hid (blk_apart2 (g := w.heap.size + 1 + 1) (blk_later HBg.out b8') (by omega) (.bool (zneg q)) (.slice aq nq cq)); have G4 := Lib.hid (blk_apart2 (g := w.heap.size + 1 + 1) (blk_later HG.out b8') N1.out.symm (.bool (zneg q)) (.slice aq nq cq)); have S4 := Lib.hid (six_cells A4.out B4.out G4.out); have S5 := Lib.hid (six_cells (blk_apart2 (g := w.heap.size + 1 + 1 + 1) A4.out (by omega) (.bool (zneg (zval na (val la) + -(q * zval nb (val lb))))) (.slice a8 n8 c8)) (blk_apart2 (g := w.heap.size + 1 + 1 + 1) B4.out (by omega) (.bool (zneg (zval na (val la) + -(q * zval nb (val lb))))) (.slice a8 n8 c8)) (blk_apart2 (g := w.heap.size + 1 + 1 + 1) G4.out N2.out.symm (.bool (zneg (zval na (val la) + -(q * zval nb (val lb))))) (.slice a8 n8 c8))); have M1 := Lib.hid (blk_later HR1g.out b8'); have M3 := Lib.hid (blk_apart2 (g := w.heap.size + 1 + 1) (blk_later HR2g.out b8') (by omega) (.bool (zneg q)) (.slice aq nq cq)); have r0 := blk_cell M1.out 0; have r1 := blk_cell M1.out 1; have f0 := blk_free M1.out 0; have f1 := blk_free M1.out 1; have r2 := blk_cell M3.out 0; have r3 := blk_cell M3.out 1; have f2 := blk_free M3.out 0; have f3 := blk_free M3.out 1; simp only [List.getElem?_toArray, List.getElem?_cons_zero, List.getElem?_cons_succ] at r0 r1 r2 r3; unfold whV))
    have Hq8 := Lib.hid ((Hqg.out.later b8').stored2 M1.out (zneg q) (.slice aq nq cq))
    have H8 := Lib.hid (h8.stored2 M1.out (zneg q) (.slice aq nq cq))
    have HL8 := Lib.hid (below_set2 (below_then Hlow.out b8') (show w.heap.size ≤ w.heap.size + 1 + 1 by omega) (.bool (zneg q)) (.slice aq nq cq))
    have HG1 := Lib.hid (blk_set2 M1.out (.bool (zneg q)) (.slice aq nq cq))
    generalize hzz : zval na (val la) + -(q * zval nb (val lb)) = z at *
    have Hq9 := Lib.hid (Hq8.out.stored2 M3.out (zneg z) (.slice a8 n8 c8))
    have H9 := Lib.hid (H8.out.stored2 M3.out (zneg z) (.slice a8 n8 c8))
    have HL9 := Lib.hid (below_set2 HL8.out (show w.heap.size ≤ w.heap.size + 1 + 1 + 1 by omega) (.bool (zneg z)) (.slice a8 n8 c8))
    have HG2 := Lib.hid (blk_set2 M3.out (.bool (zneg z)) (.slice a8 n8 c8))
    have HG3 := Lib.hid (blk_apart2 (g := w.heap.size + 1 + 1 + 1) HG1.out (by omega) (.bool (zneg z)) (.slice a8 n8 c8))
    go_wp2
    refine bodyPost_ret (results_rows2 Tryd.results25 _ _ (w.heap.size + 1 + 1) (w.heap.size + 1 + 1 + 1) 24 24 #[.bool (zneg q), .slice aq nq cq] #[.bool (zneg z), .slice a8 n8 c8] (0, 0) (0, 0) _ _ rfl HG3.out Tryd.underlying24 rfl (by kernel_rfl) rfl HG2.out Tryd.underlying24 rfl (by kernel_rfl)) rfl ?_
    exact ⟨aq, nq, cq, a8, n8, c8, rfl, Hq9.out, H9.out, HL9.out⟩
end Go.Proofs.YtiblojmdgjnfbaaDoor

/-
  The contract of the document's answer for layer 8: Floor, where something is left.
-/
namespace Go.Proofs.YtiblojmdgjnfbaaDoor
open Go.RowKit

set_option maxRecDepth 4096 in
set_option maxHeartbeats 16000000 in
theorem ref08_floor_rest (na : Bool) (a : Option Addr) (n cap : Nat) (la : List Nat) (nb : Bool) (b : Option Addr) (m cap' : Nat) (lb : List Nat) (w : World) (ha : Wd w a n cap la) (hb : Wd w b m cap' lb) (hn : n ≤ 20000) (hm : m ≤ 20000) (h0 : Hid (val lb ≠ 0)) (hne0 : Hid (¬ na = nb)) (hz0 : Hid (val la % val lb ≠ 0)) :
    Calls Tryd.prog 25 #[whV na a n cap, whV nb b m cap'] w (LstZZ (flq na nb (val la) (val lb)) (zval na (val la) + -(flq na nb (val la) (val lb) * zval nb (val lb))) w) := by
  have hB4 : Below w.heap.size w ((((w.alloc (.cells #[.bool na, .slice a n cap] 24)).alloc (.cells #[.bool nb, .slice b m cap'] 24)).alloc (.cells #[.bool false, .slice none 0 0] 24)).alloc (.cells #[.bool false, .slice none 0 0] 24)) := below_then (below_then (below_then (below_alloc _ _) (below_alloc _ _)) (below_alloc _ _)) (below_alloc _ _)
  have Ha := Lib.hid (ha.later hB4)
  have Hb := Lib.hid (hb.later hB4)
  have HB := Lib.hid hB4
  have hlen := @flq_len na nb (val la) (val lb) n m (by rw [← ha.len]; exact val_lt ha.ok) hb.trim_le
  have Hl1 := Lib.hid hlen.1
  have Hl2 := Lib.hid hlen.2
  clear ha hb hB4 hlen
  obtain ⟨q, HQ⟩ : ∃ q, Hid (q = flq na nb (val la) (val lb)) := ⟨_, rfl⟩
  rw [← HQ.out] at Hl2 ⊢
  go_enter Tryd.func25, Tryd.ntmps25
  unfold whV
  go_wp2_with fail
  refine (ref05_div a n cap la b m cap' lb _ Ha.out Hb.out (by omega) (by omega) h0).mono ?_
  rintro e w1 ⟨a1, n1, c1, a2, n2, c2, rfl, h1, h2, b1⟩
  have H1 := Lib.hid h1
  have H2 := Lib.hid (Wd.own h2.out (okw_dg _))
  obtain ⟨hA, hBb, hR1, hR2⟩ := boxes4_at w _ _ _ _ _ _ _ _ w1 b1
  have HB1 := Lib.hid (below_then HB.out b1)
  have Ha1 := Lib.hid (Ha.out.later b1)
  have Hb1 := Lib.hid (Hb.out.later b1)
  have c0 := blk_cell hA 0
  have c1' := blk_cell hBb 0
  simp only [List.getElem?_toArray, List.getElem?_cons_zero] at c0 c1'
  have HA := Lib.hid hA
  have HBb := Lib.hid hBb
  have HR1 := Lib.hid hR1
  have HR2 := Lib.hid hR2
  have Hn2 : Hid ((dg (val la % val lb)).length = n2) := Lib.hid H2.out.len
  have Hn1 : Hid ((dg (val la / val lb)).length = n1) := Lib.hid H1.out.len
  have hn1 : n1 ≤ 20001 := by
    rw [← Hn1.out]
    exact Nat.le_trans (dg_length_mono (by omega)) (Nat.le_trans Hl1.out (by omega))
  clear hA hBb hR1 hR2 h1 h2 b1 HB Ha Hb
  have hne := hne0.out
  have hq0 : (na == nb) = false := by simp [hne]
  have hz : ¬ n2 = 0 := fun h => hz0.out (dg_nil_iff.1 (Hn2.out.trans h))
  · have Hz : Hid (val la % val lb ≠ 0) := Lib.hid (fun h => hz (Hn2.out.symm.trans (dg_nil_iff.2 h)))
    have Hne := Lib.hid hne
    have hni : (0 : Int) < (n2 : Int) := by omega
    have hnn : 0 < n2 := by omega
    clear hne hz
    go_wp2_with fail
    refine (ref02_add a1 n1 c1 _ (some ⟨w1.heap.size, 0, none⟩) 1 1 [1] _ (H1.out.later (below_alloc _ _)) (Wd.lit1 w1 72 (x := 1) (by omega)) (by omega) (by omega)).mono ?_
    rintro e w2 ⟨a3, n3, c3, rfl, h3, b3⟩
    have b3' := below_then (below_alloc w1 _) b3
    have he : val (dg (val la / val lb)) + val [1] = val la / val lb + 1 := by rw [val_dg]; rfl
    rw [he] at h3
    have H3 := Lib.hid h3
    have HA2 := Lib.hid (blk_later HA.out b3')
    have HBb2 := Lib.hid (blk_later HBb.out b3')
    have HR12 := Lib.hid (blk_later HR1.out b3')
    have HR22 := Lib.hid (blk_later HR2.out b3')
    have Ha2 := Lib.hid (Ha1.out.later b3')
    have Hb2 := Lib.hid (Hb1.out.later b3')
    have HB2 := Lib.hid (below_then HB1.out b3')
    have Hif : Hid ((val la / val lb + if na ≠ nb ∧ val la % val lb ≠ 0 then 1 else 0) = val la / val lb + 1) := Lib.hid (by rw [if_pos ⟨Hne.out, Hz.out⟩])
    have hn3 : n3 ≤ 20001 := by
      have h4 := Hl1.out
      rw [Hif.out, h3.len] at h4
      omega
    clear c0 c1'
    have c0 := blk_cell HA2.out 0
    have c1' := blk_cell HBb2.out 0
    simp only [List.getElem?_toArray, List.getElem?_cons_zero] at c0 c1'
    clear h3 b3 b3' he HA HBb HR1 HR2 Ha1 Hb1 HB1
    have HNq : Hid (zval true (val la / val lb + 1) = q) := Lib.hid (by rw [HQ.out, flq, Hif.out, hq0]; rfl)
    have Hcall := Lib.hid (ref08_normN true a3 n3 c3 _ w2 H3.out (by omega))
    rw [HNq.out] at Hcall
    go_wp2_with fail
    refine Hcall.out.mono ?_
    rintro e wq ⟨aq, nq, cq, rfl, hq9, bq⟩
    unfold whV
    have Hlq : Hid (nq ≤ 20001) := Lib.hid (by rw [← hq9.len, HQ.out, flq, zval_abs]; exact Nat.le_trans Hl1.out (by omega))
    have HAg := Lib.hid (blk_later (blk_later HA2.out bq) (below_alloc wq (.cells #[.bool (zneg q), .slice aq nq cq] 24)))
    have HBg := Lib.hid (blk_later (blk_later HBb2.out bq) (below_alloc wq (.cells #[.bool (zneg q), .slice aq nq cq] 24)))
    have HR1g := Lib.hid (blk_later (blk_later HR12.out bq) (below_alloc wq (.cells #[.bool (zneg q), .slice aq nq cq] 24)))
    have HR2g := Lib.hid (blk_later (blk_later HR22.out bq) (below_alloc wq (.cells #[.bool (zneg q), .slice aq nq cq] 24)))
    have kz : w.heap.size + 1 + 1 + 1 < wq.heap.size := (Array.getElem?_eq_some_iff.1 (blk_later HR22.out bq)).1
    have HG := Lib.hid (blk_new wq #[.bool (zneg q), .slice aq nq cq] 24)
    have Hqg := Lib.hid (hq9.later (below_alloc wq (.cells #[.bool (zneg q), .slice aq nq cq] 24)))
    have Hag := Lib.hid ((Ha2.out.later bq).later (below_alloc wq (.cells #[.bool (zneg q), .slice aq nq cq] 24)))
    have Hbg := Lib.hid ((Hb2.out.later bq).later (below_alloc wq (.cells #[.bool (zneg q), .slice aq nq cq] 24)))
    have Hlow := Lib.hid (below_then (below_then HB2.out bq) (below_alloc wq (.cells #[.bool (zneg q), .slice aq nq cq] 24)))
    have Kz := Lib.hid kz
    clear kz hq9 bq Hcall c0 c1'
    go_wp2
    generalize wq.alloc (.cells #[.bool (zneg q), .slice aq nq cq] 24) = W at *
    generalize wq.heap.size = g at *
    have Hd : Below W.heap.size W W.drew := (Below.refl _ _).drew
    have Sd := six_cells (w := W.drew) HAg.out HBg.out HG.out
    go_region_held3 (fun w' => w'.cell? ⟨w.heap.size, 0, none⟩ = some (.bool na) ∧ w'.cell? ⟨w.heap.size, 1, none⟩ = some (.slice a n cap) ∧ w'.cell? ⟨w.heap.size + 1, 0, none⟩ = some (.bool nb) ∧ w'.cell? ⟨w.heap.size + 1, 1, none⟩ = some (.slice b m cap') ∧ w'.cell? ⟨g, 0, none⟩ = some (.bool (zneg q)) ∧ w'.cell? ⟨g, 1, none⟩ = some (.slice aq nq cq)) (first | exact Sd | exact S1 | exact S2 | exact S3.out | exact S4.out | exact S5.out)
      (first
      | (go_at_call 23; (refine (ref08_mulZ q aq nq cq nb b m cap' lb _ (Hqg.out.later Hd) (Hbg.out.later Hd) ?q3 ?q4).mono ?_); (case q3 => have := Hlq.out; omega); (case q4 => omega); rintro e w6 ⟨a6, n6, c6, rfl, h6, b6⟩; have b6' := below_then Hd b6; have S1 := six_cells (blk_later HAg.out b6') (blk_later HBg.out b6') (blk_later HG.out b6'))
      | (go_at_call 10; (refine (ref08_negZ (q * zval nb (val lb)) a6 n6 c6 _ h6 ?q5).mono ?_); (case q5 => have h9 := Hl2.out; rw [h6.len] at h9; omega); rintro e w7 ⟨a7, n7, c7, rfl, h7, b7⟩; have b7' := below_then b6' b7; have S2 := six_cells (blk_later HAg.out b7') (blk_later HBg.out b7') (blk_later HG.out b7'))
      | (go_at_call 9; (refine (ref08_addZ na a n cap la (-(q * zval nb (val lb))) a7 n7 c7 _ (Hag.out.later b7') h7 ?q6 ?q7).mono ?_); (case q6 => omega); (case q7 => have h9 := Hl2.out; rw [← Int.natAbs_neg, h7.len] at h9; omega); rintro e w8 ⟨a8, n8, c8, rfl, h8, b8⟩; have b8' := below_then b7' b8; have S3 := Lib.hid (six_cells (blk_later HAg.out b8') (blk_later HBg.out b8') (blk_later HG.out b8')); have N1 := Lib.hid (show w.heap.size + 1 + 1 ≠ g by have := Kz.out; omega); have N2 := Lib.hid (show w.heap.size + 1 + 1 + 1 ≠ g by have := Kz.out; omega); have A4 := Lib.hid (blk_apart2 (g := w.heap.size + 1 + 1) (blk_later HAg.out b8') (by omega) (.bool (zneg q)) (.slice aq nq cq)); have B4 := Lib.hid (blk_apart2 (g := w.heap.size + 1 + 1) (blk_later HBg.out b8') (by omega) (.bool (zneg q)) (.slice aq nq cq)); have G4 := Lib.hid (blk_apart2 (g := w.heap.size + 1 + 1) (blk_later HG.out b8') N1.out.symm (.bool (zneg q)) (.slice aq nq cq)); have S4 := Lib.hid (six_cells A4.out B4.out G4.out); have S5 := Lib.hid (six_cells (blk_apart2 (g := w.heap.size + 1 + 1 + 1) A4.out (by omega) (.bool (zneg (zval na (val la) + -(q * zval nb (val lb))))) (.slice a8 n8 c8)) (blk_apart2 (g := w.heap.size + 1 + 1 + 1) B4.out (by omega) (.bool (zneg (zval na (val la) + -(q * zval nb (val lb))))) (.slice a8 n8 c8)) (blk_apart2 (g := w.heap.size + 1 + 1 + 1) G4.out N2.out.symm (.bool (zneg (zval na (val la) + -(q * zval nb (val lb))))) (.slice a8 n8 c8))); have M1 := Lib.hid (blk_later HR1g.out b8'); have M3 := Lib.hid (blk_apart2 (g := w.heap.size + 1 + 1) (blk_later HR2g.out b8') (by omega) (.bool (zneg q)) (.slice aq nq cq)); have r0 := blk_cell M1.out 0; have r1 := blk_cell M1.out 1; have f0 := blk_free M1.out 0; have f1 := blk_free M1.out 1; have r2 := blk_cell M3.out 0; have r3 := blk_cell M3.out 1; have f2 := blk_free M3.out 0; have f3 := blk_free M3.out 1; simp only [List.getElem?_toArray, List.getElem?_cons_zero, List.getElem?_cons_succ] at r0 r1 r2 r3; unfold whV))
    have Hq8 := Lib.hid ((Hqg.out.later b8').stored2 M1.out (zneg q) (.slice aq nq cq))
    have H8 := Lib.hid (h8.stored2 M1.out (zneg q) (.slice aq nq cq))
    have HL8 := Lib.hid (below_set2 (below_then Hlow.out b8') (show w.heap.size ≤ w.heap.size + 1 + 1 by omega) (.bool (zneg q)) (.slice aq nq cq))
    have HG1 := Lib.hid (blk_set2 M1.out (.bool (zneg q)) (.slice aq nq cq))
    generalize hzz : zval na (val la) + -(q * zval nb (val lb)) = z at *
    have Hq9 := Lib.hid (Hq8.out.stored2 M3.out (zneg z) (.slice a8 n8 c8))
    have H9 := Lib.hid (H8.out.stored2 M3.out (zneg z) (.slice a8 n8 c8))
    have HL9 := Lib.hid (below_set2 HL8.out (show w.heap.size ≤ w.heap.size + 1 + 1 + 1 by omega) (.bool (zneg z)) (.slice a8 n8 c8))
    have HG2 := Lib.hid (blk_set2 M3.out (.bool (zneg z)) (.slice a8 n8 c8))
    have HG3 := Lib.hid (blk_apart2 (g := w.heap.size + 1 + 1 + 1) HG1.out (by omega) (.bool (zneg z)) (.slice a8 n8 c8))
    go_wp2
    refine bodyPost_ret (results_rows2 Tryd.results25 _ _ (w.heap.size + 1 + 1) (w.heap.size + 1 + 1 + 1) 24 24 #[.bool (zneg q), .slice aq nq cq] #[.bool (zneg z), .slice a8 n8 c8] (0, 0) (0, 0) _ _ rfl HG3.out Tryd.underlying24 rfl (by kernel_rfl) rfl HG2.out Tryd.underlying24 rfl (by kernel_rfl)) rfl ?_
    exact ⟨aq, nq, cq, a8, n8, c8, rfl, Hq9.out, H9.out, HL9.out⟩
theorem ref08_floor (na : Bool) (a : Option Addr) (n cap : Nat) (la : List Nat) (nb : Bool) (b : Option Addr) (m cap' : Nat) (lb : List Nat) (w : World) (ha : Wd w a n cap la) (hb : Wd w b m cap' lb) (hn : n ≤ 20000) (hm : m ≤ 20000) (h0 : Hid (val lb ≠ 0)) :
    Calls Tryd.prog 25 #[whV na a n cap, whV nb b m cap'] w (LstZZ (flq na nb (val la) (val lb)) (zval na (val la) + -(flq na nb (val la) (val lb) * zval nb (val lb))) w) := by
  by_cases hne : na = nb
  · exact ref08_floor_same na a n cap la nb b m cap' lb w ha hb hn hm h0 (Lib.hid hne)
  · by_cases hz : val la % val lb = 0
    · exact ref08_floor_none na a n cap la nb b m cap' lb w ha hb hn hm h0 (Lib.hid hne) (Lib.hid hz)
    · exact ref08_floor_rest na a n cap la nb b m cap' lb w ha hb hn hm h0 (Lib.hid hne) (Lib.hid hz)
end Go.Proofs.YtiblojmdgjnfbaaDoor

/-
  The contracts of the document's answer for layer 7: Read.
-/
namespace Go.Proofs.YtiblojmdgjnfbaaDoor
open Go.RowKit

theorem Wd.ofCell7 {w : World} {g x : Nat} (h : w.cell? ⟨g, 0, none⟩ = some (.int .u32 (x : Int))) (hx : x < 4294967296) : Wd w (some ⟨g, 0, none⟩) 1 1 [x] := by
  refine ⟨rfl, Nat.le_refl _, by omega, okw_cons.2 ⟨hx, okw_nil⟩, fun e => (by cases e), .inr ⟨g, 0, rfl, fun j hj => ?_⟩⟩
  obtain rfl : j = 0 := by omega
  exact h
theorem more7 {w w1 : World} (h : Below w.heap.size w w1) (o : Obj) : Below w.heap.size w (w1.alloc o) := below_then h (below_alloc _ _)
theorem drawn7 {w w1 : World} (h : Below w.heap.size w w1) : Below w.heap.size w w1.drew := h.drew
theorem cell7_newest {w : World} {g x : Nat} {t : TypeId} (hg : g = w.heap.size) : (w.alloc (.cells #[.int .u32 (x : Int)] t)).drew.cell? ⟨g, 0, none⟩ = some (.int .u32 (x : Int)) := by
  subst hg
  show (w.alloc (.cells #[.int .u32 (x : Int)] t)).cell? ⟨w.heap.size, 0, none⟩ = _
  simp
theorem cell7_grown {w : World} {a : Addr} {v : Value} (o : Obj) (h : w.cell? a = some v) : (w.alloc o).drew.cell? a = some v := cell_later (below_alloc w o).drew h
set_option maxRecDepth 4096 in
set_option maxHeartbeats 8000000 in
theorem ref07_read (l : List UInt8) (w : World) (hl : l.length ≤ 100) (hd : Hid (alldig l)) :
    Calls Tryd.prog 54 #[.string (bs l)] w (Lst (dg (readV l)) w) := by
  have hsz := bs_size l
  have HN : Hid (∀ k, k ≤ l.length → (dg (readV (l.take k))).length ≤ 20) := Lib.hid (fun k hk => by
    apply dg_length_le
    have h1 := readV_lt (l := l.take k) (fun x hx => hd.out x (List.mem_of_mem_take hx))
    have h2 : (10 : Nat) ^ (l.take k).length ≤ 10 ^ 100 := Nat.pow_le_pow_right (by decide) (by rw [List.length_take]; omega)
    have h3 : (10 : Nat) ^ 100 ≤ 4294967296 ^ 20 := by decide
    omega)
  go_enter Tryd.func54, Tryd.ntmps54
  go_wp2
  go_loopw [3, 4] (fun v i wr => ∃ (k : Nat) (a : Option Addr) (n c : Nat), k ≤ l.length ∧ i = .int .i64 k ∧ v = .slice a n c ∧ Hid (Wd wr a n c (dg (readV (l.take k)))) ∧ Below w.heap.size w wr) (fun _ i _ => l.length - (intOf i).toNat)
  case atStart => exact ⟨0, _, _, _, by omega, rfl, rfl, Lib.hid (by rw [List.take_zero]; show Wd _ _ _ _ (dg 0); rw [dg_zero]; exact Wd.empty _ _ _ (by omega)), below_alloc _ _⟩
  case round =>
    obtain ⟨k, a, n, c, hk, rfl, rfl, HW, hB⟩ := hrel
    have hn : n ≤ 20 := by rw [← HW.out.len]; exact HN.out k hk
    by_cases hlt : k < l.length
    · have hki : (k : Int) < (l.length : Int) := by omega
      have hget := bs_get l k hlt (by rw [bs_size]; exact hlt)
      have hdk := alldig_getD hd.out hlt
      have Hv := Lib.hid (readV_take hlt)
      generalize readV (l.take k) = v at *
      generalize (l.getD k 0).toNat = x at *
      obtain ⟨d, hdd⟩ : ∃ d : Nat, (x : Int) - 48 = (d : Int) := ⟨x - 48, by omega⟩
      have Hd : Hid (x - 48 = d) := Lib.hid (by omega)
      have hdw : d < 4294967296 := by omega
      have hBr := Lib.hid hB
      have HX : Hid (val (dg v) * val [10] + val [d] = readV (l.take (k + 1))) := Lib.hid (by rw [val_dg, Hv.out, Hd.out]; simp [val])
      have HL : Hid ((dg (val (dg v) * val [10])).length ≤ 21) := Lib.hid (by
        have h1 := dg_mul_length (val (dg v)) (val [10])
        have h2 := HW.out.len
        have h3 := dg_length_val_le (l := [10]) (okw_cons.2 ⟨by decide, okw_nil⟩)
        rw [val_dg] at h1 ⊢
        simp only [List.length_cons, List.length_nil] at h3
        omega)
      clear hB
      have hw1 : IntKind.u32.wrap (x : Int) = (x : Int) := by rw [IntKind.wrap_u32]; omega
      have hw2 : IntKind.u32.wrap (d : Int) = (d : Int) := by rw [IntKind.wrap_u32]; omega
      go_wp2
      go_region_with (first
        | (go_at_call 46; (refine (ref04_mul a n c (dg v) _ 1 1 [10] _ ?q1 (Wd.ofCell7 ?q2 (by omega)) ?q3 ?q4).mono ?_); (case q1 => (refine HW.out.later ?_); (repeat (first | (exact Below.refl _ _) | (refine more7 ?_ _) | (refine drawn7 ?_)))); (case q2 => first | (simp; done) | ((refine cell7_newest ?_); simp; done) | ((refine cell7_grown _ ?_); simp; done)); (case q3 => omega); (case q4 => omega); rintro e w1 ⟨a1, n1, c1, rfl, h1, b1⟩; have hBw : Below wr.heap.size wr w1 := ?q5; rotate_left; (case q5 => (refine below_then ?_ b1); (repeat (first | (exact Below.refl _ _) | (refine more7 ?_ _) | (refine drawn7 ?_)))))
        | (go_at_call 33; (refine (ref02_add a1 n1 c1 (dg (val (dg v) * val [10])) _ 1 1 [d] _ ?q1 (Wd.ofCell7 ?q2 hdw) ?q3 ?q4).mono ?_); (case q1 => first | (exact h1) | (exact h1.later (below_alloc _ _))); (case q2 => first | (simp; done) | ((refine cell_later b1 ?_); first | (simp; done) | ((refine cell7_newest ?_); simp; done) | ((refine cell7_grown _ ?_); simp; done))); (case q3 => have h9 := h1.len; have h8 := HL.out; omega); (case q4 => omega); rintro e w2 ⟨a2, n2, c2, rfl, h2, b2⟩))
      all_goals (
        rw [val_dg, HX.out] at h2
        have HF : Hid (Wd w2 a2 n2 c2 (dg (readV (l.take (k + 1))))) := Lib.hid h2
        have hcc : Below wr.heap.size wr w2 := by
          first
          | exact below_then hBw b2
          | exact below_then (more7 hBw _) b2
        have Hcc := Lib.hid (below_then hBr.out hcc)
        clear h2 b2 hcc h1 b1 hBw
        go_wp2
        go_roundw
        case rel => exact ⟨k + 1, a2, n2, c2, by omega, by go_num, rfl, HF, Hcc.out⟩
        case measure => simp [intOf]; omega)
    · have htk : l.take k = l := List.take_of_length_le (by omega)
      rw [htk] at HW
      clear htk
      go_wp2
      go_ret
      exact ⟨a, n, c, rfl, HW.out, hB⟩
end Go.Proofs.YtiblojmdgjnfbaaDoor

/-
  The contracts of the document's answer for layer 8: Read.
-/
namespace Go.Proofs.YtiblojmdgjnfbaaDoor
open Go.RowKit

theorem results_row_tmp {P : Program} {fn : Func} {p u : Tmp} {ty : TypeId} (h : fn.results = #[.cell p ty, .tmp u]) (tmps : Array Value) (w : World) (g : Nat) (t : TypeId) (cs : Array Value) (fr : Nat × Nat) (d : TypeDesc)
    (hp : tmps.getD p undef = .pointer (some ⟨g, 0, none⟩)) (hg : w.heap[g]? = some (.cells cs t fr))
    (hu : P.underlying ty = some d) (hd : (match d with | .struct _ | .array _ _ => true | _ => false) = true) (hi : (P.info? ty).map (·.size) = some cs.size) :
    (results fn tmps).run P w = .ok (.tuple #[.agg cs, tmps.getD u undef]) w := by
  rw [results_cell_tmp h, hp]
  simp [asAddr, run_loadVar_row w g t ty cs fr d hg hu hd hi]
/-- A whole number and a place come back. -/
def ReadZ (z : Int) (i : Int) (w : World) (e : Ending) (w' : World) : Prop :=
  ∃ (a : Option Addr) (n cap : Nat), e = .returned (.tuple #[whV (zneg z) a n cap, .int .i64 i]) ∧ Wd w' a n cap (dg z.natAbs) ∧ Below w.heap.size w w'
set_option maxRecDepth 4096 in
set_option maxHeartbeats 1000000 in
theorem ref08_read_nil_bad  (w : World) (hlen : (([] : List UInt8)).length ≤ 1000) (hw : Hid (0 ≤ wrongI (([] : List UInt8)))) :
    Calls Tryd.prog 27 #[.string (bs (([] : List UInt8)))] w (ReadZ 0 (0 + wrongI (([] : List UInt8))) w) := by
  have hs0 := bs_size []
  have hx0 := bs_all []
  simp only [List.length_nil] at hs0 hx0
  have hwr := @wrongFrom_range (([] : List UInt8)) 0
  have hwi : wrongI (([] : List UInt8)) ≤ 10000 := by unfold wrongI; split <;> omega
  have hwj : -1 ≤ wrongI (([] : List UInt8)) := by unfold wrongI; split <;> omega
  clear hwr
  go_enter Tryd.func27, Tryd.ntmps27
  go_wp2_with fail
  refine (ref07_wrong (([] : List UInt8)) _ (by omega)).mono ?_
  rintro e w' ⟨rfl, rfl⟩
  have hw0 := hw.out
  generalize wrongI (([] : List UInt8)) = wi at *
  have hwz := IntWalk.wrap64_in wi (by omega)
  have HG2 := Lib.hid (blk_new w #[.bool false, .slice none 0 0] 24)
  go_wp2
  refine bodyPost_ret (results_row_tmp Tryd.results27 _ _ w.heap.size 24 #[.bool false, .slice none 0 0] (0, 0) _ rfl HG2.out Tryd.underlying24 rfl (by kernel_rfl)) rfl ?_
  exact ⟨none, 0, 0, by simp [whV, zneg], by rw [show (0 : Int).natAbs = 0 from rfl, dg_zero]; exact Wd.ofNil _, below_alloc _ _⟩
set_option maxRecDepth 4096 in
set_option maxHeartbeats 1000000 in
theorem ref08_read_plain_ok (x : UInt8) (r : List UInt8) (hx : x.toNat ≠ 45) (w : World) (hlen : (x :: r).length ≤ 1000) (hw : Hid (wrongI (x :: r) < 0)) :
    Calls Tryd.prog 27 #[.string (bs (x :: r))] w (ReadZ (zval false (readV (x :: r))) (-1) w) := by
  have hs0 := bs_size (x :: r)
  have hx0 := bs_all (x :: r)
  have hget := bs_get (x :: r) 0 (by simp) (by rw [bs_size]; simp)
  have hget2 : ((x :: r).getD 0 0).toNat = x.toNat := rfl
  rw [hget2] at hget
  simp only [List.length_cons] at hs0 hx0
  have hwr := @wrongFrom_range (x :: r) 0
  have hwi : wrongI (x :: r) ≤ 10000 := by unfold wrongI; split <;> omega
  have hwj : -1 ≤ wrongI (x :: r) := by unfold wrongI; split <;> omega
  clear hwr
  have hok := wrongI_none hw.out
  have HD := Lib.hid hok.1
  have hl60 := hok.2.2
  have HRL : Hid ((dg (readV (x :: r))).length ≤ 20) := Lib.hid (dg_length_le (Nat.lt_of_lt_of_le (readV_lt hok.1) (Nat.le_trans (Nat.pow_le_pow_right (by decide) hok.2.2) (by decide))))
  clear hok
  go_enter Tryd.func27, Tryd.ntmps27
  go_wp2_with fail
  refine (ref07_wrong (x :: r) _ (by omega)).mono ?_
  rintro e w' ⟨rfl, rfl⟩
  have hw0 := hw.out
  generalize wrongI (x :: r) = wi at *
  go_wp2_with fail
  refine (ref07_read (x :: r) _ (by omega) HD).mono ?_
  rintro e w1 ⟨a1, n1, c1, rfl, h1, b1⟩
  have hn1 : n1 ≤ 20 := by rw [← h1.len]; exact HRL.out
  have hR1 := box_at w w1 _ _ b1
  have H1 := Lib.hid h1
  have hB1 := Lib.hid (below_then (below_alloc _ _) b1)
  have HR1 := Lib.hid hR1
  clear h1 b1 hR1
  go_wp2_with fail
  refine (ref08_norm false _ _ _ _ _ H1.out (by omega)).mono ?_
  rintro e w2 ⟨a2, n2, c2, rfl, h2, b2⟩
  rw [val_dg] at h2 ⊢
  have hR := blk_later HR1.out b2
  generalize zval false (readV (x :: r)) = z at *
  have hR0 := blk_cell hR 0
  have hRc := blk_cell hR 1
  have hF0 := blk_free hR 0
  have hF1 := blk_free hR 1
  have HS2 := Lib.hid (h2.stored2 hR (zneg z) (.slice a2 n2 c2))
  have HG2 := Lib.hid (blk_set2 hR (.bool (zneg z)) (.slice a2 n2 c2))
  have HB2 := Lib.hid (below_set2 (below_then hB1.out b2) (show w.heap.size ≤ w.heap.size by omega) (.bool (zneg z)) (.slice a2 n2 c2))
  clear hR h2 b2
  simp only [List.getElem?_toArray, List.getElem?_cons_zero, List.getElem?_cons_succ] at hR0 hRc
  unfold whV
  go_wp2
  refine bodyPost_ret (results_row_tmp Tryd.results27 _ _ w.heap.size 24 #[.bool (zneg z), .slice a2 n2 c2] (0, 0) _ rfl HG2.out Tryd.underlying24 rfl (by kernel_rfl)) rfl ?_
  exact ⟨a2, n2, c2, rfl, HS2.out, HB2.out⟩
set_option maxRecDepth 4096 in
set_option maxHeartbeats 1000000 in
theorem ref08_read_plain_bad (x : UInt8) (r : List UInt8) (hx : x.toNat ≠ 45) (w : World) (hlen : (x :: r).length ≤ 1000) (hw : Hid (0 ≤ wrongI (x :: r))) :
    Calls Tryd.prog 27 #[.string (bs (x :: r))] w (ReadZ 0 (0 + wrongI (x :: r)) w) := by
  have hs0 := bs_size (x :: r)
  have hx0 := bs_all (x :: r)
  have hget := bs_get (x :: r) 0 (by simp) (by rw [bs_size]; simp)
  have hget2 : ((x :: r).getD 0 0).toNat = x.toNat := rfl
  rw [hget2] at hget
  simp only [List.length_cons] at hs0 hx0
  have hwr := @wrongFrom_range (x :: r) 0
  have hwi : wrongI (x :: r) ≤ 10000 := by unfold wrongI; split <;> omega
  have hwj : -1 ≤ wrongI (x :: r) := by unfold wrongI; split <;> omega
  clear hwr
  go_enter Tryd.func27, Tryd.ntmps27
  go_wp2_with fail
  refine (ref07_wrong (x :: r) _ (by omega)).mono ?_
  rintro e w' ⟨rfl, rfl⟩
  have hw0 := hw.out
  generalize wrongI (x :: r) = wi at *
  have hwz := IntWalk.wrap64_in wi (by omega)
  have HG2 := Lib.hid (blk_new w #[.bool false, .slice none 0 0] 24)
  go_wp2
  refine bodyPost_ret (results_row_tmp Tryd.results27 _ _ w.heap.size 24 #[.bool false, .slice none 0 0] (0, 0) _ rfl HG2.out Tryd.underlying24 rfl (by kernel_rfl)) rfl ?_
  exact ⟨none, 0, 0, by simp [whV, zneg], by rw [show (0 : Int).natAbs = 0 from rfl, dg_zero]; exact Wd.ofNil _, below_alloc _ _⟩
set_option maxRecDepth 4096 in
set_option maxHeartbeats 1000000 in
theorem ref08_read_minus_ok (x : UInt8) (r : List UInt8) (hx : x.toNat = 45) (w : World) (hlen : (r).length ≤ 1000) (hw : Hid (wrongI (r) < 0)) :
    Calls Tryd.prog 27 #[.string (bs (x :: r))] w (ReadZ (zval true (readV (r))) (-1) w) := by
  have hs0 := bs_size (x :: r)
  have hx0 := bs_rest x r
  have hget := bs_get (x :: r) 0 (by simp) (by rw [bs_size]; simp)
  have hget2 : ((x :: r).getD 0 0).toNat = x.toNat := rfl
  rw [hget2] at hget
  simp only [List.length_cons] at hs0 hx0
  have hwr := @wrongFrom_range (r) 0
  have hwi : wrongI (r) ≤ 10000 := by unfold wrongI; split <;> omega
  have hwj : -1 ≤ wrongI (r) := by unfold wrongI; split <;> omega
  clear hwr
  have hok := wrongI_none hw.out
  have HD := Lib.hid hok.1
  have hl60 := hok.2.2
  have HRL : Hid ((dg (readV (r))).length ≤ 20) := Lib.hid (dg_length_le (Nat.lt_of_lt_of_le (readV_lt hok.1) (Nat.le_trans (Nat.pow_le_pow_right (by decide) hok.2.2) (by decide))))
  clear hok
  go_enter Tryd.func27, Tryd.ntmps27
  go_wp2_with fail
  refine (ref07_wrong (r) _ (by omega)).mono ?_
  rintro e w' ⟨rfl, rfl⟩
  have hw0 := hw.out
  generalize wrongI (r) = wi at *
  go_wp2_with fail
  refine (ref07_read (r) _ (by omega) HD).mono ?_
  rintro e w1 ⟨a1, n1, c1, rfl, h1, b1⟩
  have hn1 : n1 ≤ 20 := by rw [← h1.len]; exact HRL.out
  have hR1 := box_at w w1 _ _ b1
  have H1 := Lib.hid h1
  have hB1 := Lib.hid (below_then (below_alloc _ _) b1)
  have HR1 := Lib.hid hR1
  clear h1 b1 hR1
  go_wp2_with fail
  refine (ref08_norm true _ _ _ _ _ H1.out (by omega)).mono ?_
  rintro e w2 ⟨a2, n2, c2, rfl, h2, b2⟩
  rw [val_dg] at h2 ⊢
  have hR := blk_later HR1.out b2
  generalize zval true (readV (r)) = z at *
  have hR0 := blk_cell hR 0
  have hRc := blk_cell hR 1
  have hF0 := blk_free hR 0
  have hF1 := blk_free hR 1
  have HS2 := Lib.hid (h2.stored2 hR (zneg z) (.slice a2 n2 c2))
  have HG2 := Lib.hid (blk_set2 hR (.bool (zneg z)) (.slice a2 n2 c2))
  have HB2 := Lib.hid (below_set2 (below_then hB1.out b2) (show w.heap.size ≤ w.heap.size by omega) (.bool (zneg z)) (.slice a2 n2 c2))
  clear hR h2 b2
  simp only [List.getElem?_toArray, List.getElem?_cons_zero, List.getElem?_cons_succ] at hR0 hRc
  unfold whV
  go_wp2
  refine bodyPost_ret (results_row_tmp Tryd.results27 _ _ w.heap.size 24 #[.bool (zneg z), .slice a2 n2 c2] (0, 0) _ rfl HG2.out Tryd.underlying24 rfl (by kernel_rfl)) rfl ?_
  exact ⟨a2, n2, c2, rfl, HS2.out, HB2.out⟩
set_option maxRecDepth 4096 in
set_option maxHeartbeats 1000000 in
theorem ref08_read_minus_bad (x : UInt8) (r : List UInt8) (hx : x.toNat = 45) (w : World) (hlen : (r).length ≤ 1000) (hw : Hid (0 ≤ wrongI (r))) :
    Calls Tryd.prog 27 #[.string (bs (x :: r))] w (ReadZ 0 (1 + wrongI (r)) w) := by
  have hs0 := bs_size (x :: r)
  have hx0 := bs_rest x r
  have hget := bs_get (x :: r) 0 (by simp) (by rw [bs_size]; simp)
  have hget2 : ((x :: r).getD 0 0).toNat = x.toNat := rfl
  rw [hget2] at hget
  simp only [List.length_cons] at hs0 hx0
  have hwr := @wrongFrom_range (r) 0
  have hwi : wrongI (r) ≤ 10000 := by unfold wrongI; split <;> omega
  have hwj : -1 ≤ wrongI (r) := by unfold wrongI; split <;> omega
  clear hwr
  go_enter Tryd.func27, Tryd.ntmps27
  go_wp2_with fail
  refine (ref07_wrong (r) _ (by omega)).mono ?_
  rintro e w' ⟨rfl, rfl⟩
  have hw0 := hw.out
  generalize wrongI (r) = wi at *
  have hwz := IntWalk.wrap64_in wi (by omega)
  have HG2 := Lib.hid (blk_new w #[.bool false, .slice none 0 0] 24)
  go_wp2
  refine bodyPost_ret (results_row_tmp Tryd.results27 _ _ w.heap.size 24 #[.bool false, .slice none 0 0] (0, 0) _ rfl HG2.out Tryd.underlying24 rfl (by kernel_rfl)) rfl ?_
  exact ⟨none, 0, 0, by simp [whV, zneg], by rw [show (0 : Int).natAbs = 0 from rfl, dg_zero]; exact Wd.ofNil _, below_alloc _ _⟩
end Go.Proofs.YtiblojmdgjnfbaaDoor
