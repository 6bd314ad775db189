/-
  Several texts of this claim as one, group 14.
-/
import Derived.Test.YteoeicfbaffjcaaGreatDoorG13
import Derived.Test.YteoeicfbaffjcaaGreatDoorG5
import Derived.Deep.RegionWith
import Derived.Deep.CutRange
import Derived.Test.YteoeicfbaffjcaaGreatDoorG4
import Derived.Test.YteoeicfbaffjcaaGreatDoorG6
import Derived.Deep.RegionHeld3
import Derived.Test.YteoeicfbaffjcaaGreatDoorG8
import Derived.Test.YteoeicfbaffjcaaGreatDoorG12
import Derived.Test.YteoeicfbaffjcaaGreatDoorG10
import Derived.Test.YteoeicfbaffjcaaGreatDoorG11
/-
  The contract of the document's answer for layer 8: Floor, where something is left.
-/
namespace Go.Proofs.YteoeicfbaffjcaaGreatDoor
open Go.RowKit

set_option maxRecDepth 4096 in
set_option maxHeartbeats 16000000 in
theorem ref08_floor_rest (na : Bool) (a : Option Addr) (n cap : Nat) (la : List Nat) (nb : Bool) (b : Option Addr) (m cap' : Nat) (lb : List Nat) (w : World) (ha : Wd w a n cap la) (hb : Wd w b m cap' lb) (hn : n ≤ 20000) (hm : m ≤ 20000) (h0 : Hid (val lb ≠ 0)) (hne0 : Hid (¬ na = nb)) (hz0 : Hid (val la % val lb ≠ 0)) :
    Calls Tryz.prog 87 #[whV na a n cap, whV nb b m cap'] w (LstZZ (flq na nb (val la) (val lb)) (zval na (val la) + -(flq na nb (val la) (val lb) * zval nb (val lb))) w) := by
  have hB4 : Below w.heap.size w ((((w.alloc (.cells #[.bool na, .slice a n cap] 63)).alloc (.cells #[.bool nb, .slice b m cap'] 63)).alloc (.cells #[.bool false, .slice none 0 0] 63)).alloc (.cells #[.bool false, .slice none 0 0] 63)) := below_then (below_then (below_then (below_alloc _ _) (below_alloc _ _)) (below_alloc _ _)) (below_alloc _ _)
  have Ha := Lib.hid (ha.later hB4)
  have Hb := Lib.hid (hb.later hB4)
  have HB := Lib.hid hB4
  have hlen := @flq_len na nb (val la) (val lb) n m (by rw [← ha.len]; exact val_lt ha.ok) hb.trim_le
  have Hl1 := Lib.hid hlen.1
  have Hl2 := Lib.hid hlen.2
  clear ha hb hB4 hlen
  obtain ⟨q, HQ⟩ : ∃ q, Hid (q = flq na nb (val la) (val lb)) := ⟨_, rfl⟩
  rw [← HQ.out] at Hl2 ⊢
  go_enter Tryz.func87, Tryz.ntmps87
  unfold whV
  go_wp2_with fail
  refine (ref05_div a n cap la b m cap' lb _ Ha.out Hb.out (by omega) (by omega) h0).mono ?_
  rintro e w1 ⟨a1, n1, c1, a2, n2, c2, rfl, h1, h2, b1⟩
  have H1 := Lib.hid h1
  have H2 := Lib.hid (Wd.own h2.out (okw_dg _))
  obtain ⟨hA, hBb, hR1, hR2⟩ := boxes4_at w _ _ _ _ _ _ _ _ w1 b1
  have HB1 := Lib.hid (below_then HB.out b1)
  have Ha1 := Lib.hid (Ha.out.later b1)
  have Hb1 := Lib.hid (Hb.out.later b1)
  have c0 := blk_cell hA 0
  have c1' := blk_cell hBb 0
  simp only [List.getElem?_toArray, List.getElem?_cons_zero] at c0 c1'
  have HA := Lib.hid hA
  have HBb := Lib.hid hBb
  have HR1 := Lib.hid hR1
  have HR2 := Lib.hid hR2
  have Hn2 : Hid ((dg (val la % val lb)).length = n2) := Lib.hid H2.out.len
  have Hn1 : Hid ((dg (val la / val lb)).length = n1) := Lib.hid H1.out.len
  have hn1 : n1 ≤ 20001 := by
    rw [← Hn1.out]
    exact Nat.le_trans (dg_length_mono (by omega)) (Nat.le_trans Hl1.out (by omega))
  clear hA hBb hR1 hR2 h1 h2 b1 HB Ha Hb
  have hne := hne0.out
  have hq0 : (na == nb) = false := by simp [hne]
  have hz : ¬ n2 = 0 := fun h => hz0.out (dg_nil_iff.1 (Hn2.out.trans h))
  · have Hz : Hid (val la % val lb ≠ 0) := Lib.hid (fun h => hz (Hn2.out.symm.trans (dg_nil_iff.2 h)))
    have Hne := Lib.hid hne
    have hni : (0 : Int) < (n2 : Int) := by omega
    have hnn : 0 < n2 := by omega
    clear hne hz
    go_wp2_with fail
    refine (ref02_add a1 n1 c1 _ (some ⟨w1.heap.size, 0, none⟩) 1 1 [1] _ (H1.out.later (below_alloc _ _)) (Wd.lit1 w1 54 (x := 1) (by omega)) (by omega) (by omega)).mono ?_
    rintro e w2 ⟨a3, n3, c3, rfl, h3, b3⟩
    have b3' := below_then (below_alloc w1 _) b3
    have he : val (dg (val la / val lb)) + val [1] = val la / val lb + 1 := by rw [val_dg]; rfl
    rw [he] at h3
    have H3 := Lib.hid h3
    have HA2 := Lib.hid (blk_later HA.out b3')
    have HBb2 := Lib.hid (blk_later HBb.out b3')
    have HR12 := Lib.hid (blk_later HR1.out b3')
    have HR22 := Lib.hid (blk_later HR2.out b3')
    have Ha2 := Lib.hid (Ha1.out.later b3')
    have Hb2 := Lib.hid (Hb1.out.later b3')
    have HB2 := Lib.hid (below_then HB1.out b3')
    have Hif : Hid ((val la / val lb + if na ≠ nb ∧ val la % val lb ≠ 0 then 1 else 0) = val la / val lb + 1) := Lib.hid (by rw [if_pos ⟨Hne.out, Hz.out⟩])
    have hn3 : n3 ≤ 20001 := by
      have h4 := Hl1.out
      rw [Hif.out, h3.len] at h4
      omega
    clear c0 c1'
    have c0 := blk_cell HA2.out 0
    have c1' := blk_cell HBb2.out 0
    simp only [List.getElem?_toArray, List.getElem?_cons_zero] at c0 c1'
    clear h3 b3 b3' he HA HBb HR1 HR2 Ha1 Hb1 HB1
    have HNq : Hid (zval true (val la / val lb + 1) = q) := Lib.hid (by rw [HQ.out, flq, Hif.out, hq0]; rfl)
    have Hcall := Lib.hid (ref08_normN true a3 n3 c3 _ w2 H3.out (by omega))
    rw [HNq.out] at Hcall
    go_wp2_with fail
    refine Hcall.out.mono ?_
    rintro e wq ⟨aq, nq, cq, rfl, hq9, bq⟩
    unfold whV
    have Hlq : Hid (nq ≤ 20001) := Lib.hid (by rw [← hq9.len, HQ.out, flq, zval_abs]; exact Nat.le_trans Hl1.out (by omega))
    have HAg := Lib.hid (blk_later (blk_later HA2.out bq) (below_alloc wq (.cells #[.bool (zneg q), .slice aq nq cq] 63)))
    have HBg := Lib.hid (blk_later (blk_later HBb2.out bq) (below_alloc wq (.cells #[.bool (zneg q), .slice aq nq cq] 63)))
    have HR1g := Lib.hid (blk_later (blk_later HR12.out bq) (below_alloc wq (.cells #[.bool (zneg q), .slice aq nq cq] 63)))
    have HR2g := Lib.hid (blk_later (blk_later HR22.out bq) (below_alloc wq (.cells #[.bool (zneg q), .slice aq nq cq] 63)))
    have kz : w.heap.size + 1 + 1 + 1 < wq.heap.size := (Array.getElem?_eq_some_iff.1 (blk_later HR22.out bq)).1
    have HG := Lib.hid (blk_new wq #[.bool (zneg q), .slice aq nq cq] 63)
    have Hqg := Lib.hid (hq9.later (below_alloc wq (.cells #[.bool (zneg q), .slice aq nq cq] 63)))
    have Hag := Lib.hid ((Ha2.out.later bq).later (below_alloc wq (.cells #[.bool (zneg q), .slice aq nq cq] 63)))
    have Hbg := Lib.hid ((Hb2.out.later bq).later (below_alloc wq (.cells #[.bool (zneg q), .slice aq nq cq] 63)))
    have Hlow := Lib.hid (below_then (below_then HB2.out bq) (below_alloc wq (.cells #[.bool (zneg q), .slice aq nq cq] 63)))
    have Kz := Lib.hid kz
    clear kz hq9 bq Hcall c0 c1'
    go_wp2
    generalize wq.alloc (.cells #[.bool (zneg q), .slice aq nq cq] 63) = W at *
    generalize wq.heap.size = g at *
    have Hd : Below W.heap.size W W.drew := (Below.refl _ _).drew
    have Sd := six_cells (w := W.drew) HAg.out HBg.out HG.out
    go_region_held3 (fun w' => w'.cell? ⟨w.heap.size, 0, none⟩ = some (.bool na) ∧ w'.cell? ⟨w.heap.size, 1, none⟩ = some (.slice a n cap) ∧ w'.cell? ⟨w.heap.size + 1, 0, none⟩ = some (.bool nb) ∧ w'.cell? ⟨w.heap.size + 1, 1, none⟩ = some (.slice b m cap') ∧ w'.cell? ⟨g, 0, none⟩ = some (.bool (zneg q)) ∧ w'.cell? ⟨g, 1, none⟩ = some (.slice aq nq cq)) (first | exact Sd | exact S1 | exact S2 | exact S3.out | exact S4.out | exact S5.out)
      (first
      | (go_at_call 125; (refine (ref08_mulZ q aq nq cq nb b m cap' lb _ (Hqg.out.later Hd) (Hbg.out.later Hd) ?q3 ?q4).mono ?_); (case q3 => have := Hlq.out; omega); (case q4 => omega); rintro e w6 ⟨a6, n6, c6, rfl, h6, b6⟩; have b6' := below_then Hd b6; have S1 := six_cells (blk_later HAg.out b6') (blk_later HBg.out b6') (blk_later HG.out b6'))
      | (go_at_call 124; (refine (ref08_negZ (q * zval nb (val lb)) a6 n6 c6 _ h6 ?q5).mono ?_); (case q5 => have h9 := Hl2.out; rw [h6.len] at h9; omega); rintro e w7 ⟨a7, n7, c7, rfl, h7, b7⟩; have b7' := below_then b6' b7; have S2 := six_cells (blk_later HAg.out b7') (blk_later HBg.out b7') (blk_later HG.out b7'))
      | (go_at_call 123; (refine (ref08_addZ na a n cap la (-(q * zval nb (val lb))) a7 n7 c7 _ (Hag.out.later b7') h7 ?q6 ?q7).mono ?_); (case q6 => omega); (case q7 => have h9 := Hl2.out; rw [← Int.natAbs_neg, h7.len] at h9; omega); rintro e w8 ⟨a8, n8, c8, rfl, h8, b8⟩; have b8' := below_then b7' b8; have S3 := Lib.hid (six_cells (blk_later HAg.out b8') (blk_later HBg.out b8') (blk_later HG.out b8')); have N1 := Lib.hid (show w.heap.size + 1 + 1 ≠ g by have := Kz.out; omega); have N2 := Lib.hid (show w.heap.size + 1 + 1 + 1 ≠ g by have := Kz.out; omega); have A4 := Lib.hid (blk_apart2 (g := w.heap.size + 1 + 1) (blk_later HAg.out b8') (by omega) (.bool (zneg q)) (.slice aq nq cq)); have B4 := Lib.hid (blk_apart2 (g := w.heap.size + 1 + 1) (blk_later HBg.out b8') (by omega) (.bool (zneg q)) (.slice aq nq cq)); have G4 := Lib.hid (blk_apart2 (g := w.heap.size + 1 + 1) (blk_later HG.out b8') N1.out.symm (.bool (zneg q)) (.slice aq nq cq)); have S4 := Lib.hid (six_cells A4.out B4.out G4.out); have S5 := Lib.hid (six_cells (blk_apart2 (g := w.heap.size + 1 + 1 + 1) A4.out (by omega) (.bool (zneg (zval na (val la) + -(q * zval nb (val lb))))) (.slice a8 n8 c8)) (blk_apart2 (g := w.heap.size + 1 + 1 + 1) B4.out (by omega) (.bool (zneg (zval na (val la) + -(q * zval nb (val lb))))) (.slice a8 n8 c8)) (blk_apart2 (g := w.heap.size + 1 + 1 + 1) G4.out N2.out.symm (.bool (zneg (zval na (val la) + -(q * zval nb (val lb))))) (.slice a8 n8 c8))); have M1 := Lib.hid (blk_later HR1g.out b8'); have M3 := Lib.hid (blk_apart2 (g := w.heap.size + 1 + 1) (blk_later HR2g.out b8') (by omega) (.bool (zneg q)) (.slice aq nq cq)); have r0 := blk_cell M1.out 0; have r1 := blk_cell M1.out 1; have f0 := blk_free M1.out 0; have f1 := blk_free M1.out 1; have r2 := blk_cell M3.out 0; have r3 := blk_cell M3.out 1; have f2 := blk_free M3.out 0; have f3 := blk_free M3.out 1; simp only [List.getElem?_toArray, List.getElem?_cons_zero, List.getElem?_cons_succ] at r0 r1 r2 r3; unfold whV))
    have Hq8 := Lib.hid ((Hqg.out.later b8').stored2 M1.out (zneg q) (.slice aq nq cq))
    have H8 := Lib.hid (h8.stored2 M1.out (zneg q) (.slice aq nq cq))
    have HL8 := Lib.hid (below_set2 (below_then Hlow.out b8') (show w.heap.size ≤ w.heap.size + 1 + 1 by omega) (.bool (zneg q)) (.slice aq nq cq))
    have HG1 := Lib.hid (blk_set2 M1.out (.bool (zneg q)) (.slice aq nq cq))
    generalize hzz : zval na (val la) + -(q * zval nb (val lb)) = z at *
    have Hq9 := Lib.hid (Hq8.out.stored2 M3.out (zneg z) (.slice a8 n8 c8))
    have H9 := Lib.hid (H8.out.stored2 M3.out (zneg z) (.slice a8 n8 c8))
    have HL9 := Lib.hid (below_set2 HL8.out (show w.heap.size ≤ w.heap.size + 1 + 1 + 1 by omega) (.bool (zneg z)) (.slice a8 n8 c8))
    have HG2 := Lib.hid (blk_set2 M3.out (.bool (zneg z)) (.slice a8 n8 c8))
    have HG3 := Lib.hid (blk_apart2 (g := w.heap.size + 1 + 1 + 1) HG1.out (by omega) (.bool (zneg z)) (.slice a8 n8 c8))
    go_wp2
    refine bodyPost_ret (results_rows2 Tryz.results87 _ _ (w.heap.size + 1 + 1) (w.heap.size + 1 + 1 + 1) 63 63 #[.bool (zneg q), .slice aq nq cq] #[.bool (zneg z), .slice a8 n8 c8] (0, 0) (0, 0) _ _ rfl HG3.out Tryz.underlying63 rfl (by kernel_rfl) rfl HG2.out Tryz.underlying63 rfl (by kernel_rfl)) rfl ?_
    exact ⟨aq, nq, cq, a8, n8, c8, rfl, Hq9.out, H9.out, HL9.out⟩
theorem ref08_floor (na : Bool) (a : Option Addr) (n cap : Nat) (la : List Nat) (nb : Bool) (b : Option Addr) (m cap' : Nat) (lb : List Nat) (w : World) (ha : Wd w a n cap la) (hb : Wd w b m cap' lb) (hn : n ≤ 20000) (hm : m ≤ 20000) (h0 : Hid (val lb ≠ 0)) :
    Calls Tryz.prog 87 #[whV na a n cap, whV nb b m cap'] w (LstZZ (flq na nb (val la) (val lb)) (zval na (val la) + -(flq na nb (val la) (val lb) * zval nb (val lb))) w) := by
  by_cases hne : na = nb
  · exact ref08_floor_same na a n cap la nb b m cap' lb w ha hb hn hm h0 (Lib.hid hne)
  · by_cases hz : val la % val lb = 0
    · exact ref08_floor_none na a n cap la nb b m cap' lb w ha hb hn hm h0 (Lib.hid hne) (Lib.hid hz)
    · exact ref08_floor_rest na a n cap la nb b m cap' lb w ha hb hn hm h0 (Lib.hid hne) (Lib.hid hz)
end Go.Proofs.YteoeicfbaffjcaaGreatDoor

/-
  The contracts of the document's answer for layer 7: Read.
-/
namespace Go.Proofs.YteoeicfbaffjcaaGreatDoor
open Go.RowKit

theorem Wd.ofCell7 {w : World} {g x : Nat} (h : w.cell? ⟨g, 0, none⟩ = some (.int .u32 (x : Int))) (hx : x < 4294967296) : Wd w (some ⟨g, 0, none⟩) 1 1 [x] := by
  refine ⟨rfl, Nat.le_refl _, by omega, okw_cons.2 ⟨hx, okw_nil⟩, fun e => (by cases e), .inr ⟨g, 0, rfl, fun j hj => ?_⟩⟩
  obtain rfl : j = 0 := by omega
  exact h
theorem more7 {w w1 : World} (h : Below w.heap.size w w1) (o : Obj) : Below w.heap.size w (w1.alloc o) := below_then h (below_alloc _ _)
theorem drawn7 {w w1 : World} (h : Below w.heap.size w w1) : Below w.heap.size w w1.drew := h.drew
theorem cell7_newest {w : World} {g x : Nat} {t : TypeId} (hg : g = w.heap.size) : (w.alloc (.cells #[.int .u32 (x : Int)] t)).drew.cell? ⟨g, 0, none⟩ = some (.int .u32 (x : Int)) := by
  subst hg
  show (w.alloc (.cells #[.int .u32 (x : Int)] t)).cell? ⟨w.heap.size, 0, none⟩ = _
  simp
theorem cell7_grown {w : World} {a : Addr} {v : Value} (o : Obj) (h : w.cell? a = some v) : (w.alloc o).drew.cell? a = some v := cell_later (below_alloc w o).drew h
set_option maxRecDepth 4096 in
set_option maxHeartbeats 8000000 in
theorem ref07_read (l : List UInt8) (w : World) (hl : l.length ≤ 100) (hd : Hid (alldig l)) :
    Calls Tryz.prog 58 #[.string (bs l)] w (Lst (dg (readV l)) w) := by
  have hsz := bs_size l
  have HN : Hid (∀ k, k ≤ l.length → (dg (readV (l.take k))).length ≤ 20) := Lib.hid (fun k hk => by
    apply dg_length_le
    have h1 := readV_lt (l := l.take k) (fun x hx => hd.out x (List.mem_of_mem_take hx))
    have h2 : (10 : Nat) ^ (l.take k).length ≤ 10 ^ 100 := Nat.pow_le_pow_right (by decide) (by rw [List.length_take]; omega)
    have h3 : (10 : Nat) ^ 100 ≤ 4294967296 ^ 20 := by decide
    omega)
  go_enter Tryz.func58, Tryz.ntmps58
  go_wp2
  go_loopw [3, 4] (fun v i wr => ∃ (k : Nat) (a : Option Addr) (n c : Nat), k ≤ l.length ∧ i = .int .i64 k ∧ v = .slice a n c ∧ Hid (Wd wr a n c (dg (readV (l.take k)))) ∧ Below w.heap.size w wr) (fun _ i _ => l.length - (intOf i).toNat)
  case atStart => exact ⟨0, _, _, _, by omega, rfl, rfl, Lib.hid (by rw [List.take_zero]; show Wd _ _ _ _ (dg 0); rw [dg_zero]; exact Wd.empty _ _ _ (by omega)), below_alloc _ _⟩
  case round =>
    obtain ⟨k, a, n, c, hk, rfl, rfl, HW, hB⟩ := hrel
    have hn : n ≤ 20 := by rw [← HW.out.len]; exact HN.out k hk
    by_cases hlt : k < l.length
    · have hki : (k : Int) < (l.length : Int) := by omega
      have hget := bs_get l k hlt (by rw [bs_size]; exact hlt)
      have hdk := alldig_getD hd.out hlt
      have Hv := Lib.hid (readV_take hlt)
      generalize readV (l.take k) = v at *
      generalize (l.getD k 0).toNat = x at *
      obtain ⟨d, hdd⟩ : ∃ d : Nat, (x : Int) - 48 = (d : Int) := ⟨x - 48, by omega⟩
      have Hd : Hid (x - 48 = d) := Lib.hid (by omega)
      have hdw : d < 4294967296 := by omega
      have hBr := Lib.hid hB
      have HX : Hid (val (dg v) * val [10] + val [d] = readV (l.take (k + 1))) := Lib.hid (by rw [val_dg, Hv.out, Hd.out]; simp [val])
      have HL : Hid ((dg (val (dg v) * val [10])).length ≤ 21) := Lib.hid (by
        have h1 := dg_mul_length (val (dg v)) (val [10])
        have h2 := HW.out.len
        have h3 := dg_length_val_le (l := [10]) (okw_cons.2 ⟨by decide, okw_nil⟩)
        rw [val_dg] at h1 ⊢
        simp only [List.length_cons, List.length_nil] at h3
        omega)
      clear hB
      have hw1 : IntKind.u32.wrap (x : Int) = (x : Int) := by rw [IntKind.wrap_u32]; omega
      have hw2 : IntKind.u32.wrap (d : Int) = (d : Int) := by rw [IntKind.wrap_u32]; omega
      go_wp2
      go_region_with (first
        | (go_at_call 43; (refine (ref04_mul a n c (dg v) _ 1 1 [10] _ ?q1 (Wd.ofCell7 ?q2 (by omega)) ?q3 ?q4).mono ?_); (case q1 => (refine HW.out.later ?_); (repeat (first | (exact Below.refl _ _) | (refine more7 ?_ _) | (refine drawn7 ?_)))); (case q2 => first | (simp; done) | ((refine cell7_newest ?_); simp; done) | ((refine cell7_grown _ ?_); simp; done)); (case q3 => omega); (case q4 => omega); rintro e w1 ⟨a1, n1, c1, rfl, h1, b1⟩; have hBw : Below wr.heap.size wr w1 := ?q5; rotate_left; (case q5 => (refine below_then ?_ b1); (repeat (first | (exact Below.refl _ _) | (refine more7 ?_ _) | (refine drawn7 ?_)))))
        | (go_at_call 42; (refine (ref02_add a1 n1 c1 (dg (val (dg v) * val [10])) _ 1 1 [d] _ ?q1 (Wd.ofCell7 ?q2 hdw) ?q3 ?q4).mono ?_); (case q1 => first | (exact h1) | (exact h1.later (below_alloc _ _))); (case q2 => first | (simp; done) | ((refine cell_later b1 ?_); first | (simp; done) | ((refine cell7_newest ?_); simp; done) | ((refine cell7_grown _ ?_); simp; done))); (case q3 => have h9 := h1.len; have h8 := HL.out; omega); (case q4 => omega); rintro e w2 ⟨a2, n2, c2, rfl, h2, b2⟩))
      all_goals (
        rw [val_dg, HX.out] at h2
        have HF : Hid (Wd w2 a2 n2 c2 (dg (readV (l.take (k + 1))))) := Lib.hid h2
        have hcc : Below wr.heap.size wr w2 := by
          first
          | exact below_then hBw b2
          | exact below_then (more7 hBw _) b2
        have Hcc := Lib.hid (below_then hBr.out hcc)
        clear h2 b2 hcc h1 b1 hBw
        go_wp2
        go_roundw
        case rel => exact ⟨k + 1, a2, n2, c2, by omega, by go_num, rfl, HF, Hcc.out⟩
        case measure => simp [intOf]; omega)
    · have htk : l.take k = l := List.take_of_length_le (by omega)
      rw [htk] at HW
      clear htk
      go_wp2
      go_ret
      exact ⟨a, n, c, rfl, HW.out, hB⟩
end Go.Proofs.YteoeicfbaffjcaaGreatDoor

/-
  The contracts of the document's answer for layer 8: Read.
-/
namespace Go.Proofs.YteoeicfbaffjcaaGreatDoor
open Go.RowKit

theorem results_row_tmp {P : Program} {fn : Func} {p u : Tmp} {ty : TypeId} (h : fn.results = #[.cell p ty, .tmp u]) (tmps : Array Value) (w : World) (g : Nat) (t : TypeId) (cs : Array Value) (fr : Nat × Nat) (d : TypeDesc)
    (hp : tmps.getD p undef = .pointer (some ⟨g, 0, none⟩)) (hg : w.heap[g]? = some (.cells cs t fr))
    (hu : P.underlying ty = some d) (hd : (match d with | .struct _ | .array _ _ => true | _ => false) = true) (hi : (P.info? ty).map (·.size) = some cs.size) :
    (results fn tmps).run P w = .ok (.tuple #[.agg cs, tmps.getD u undef]) w := by
  rw [results_cell_tmp h, hp]
  simp [asAddr, run_loadVar_row w g t ty cs fr d hg hu hd hi]
/-- A whole number and a place come back. -/
def ReadZ (z : Int) (i : Int) (w : World) (e : Ending) (w' : World) : Prop :=
  ∃ (a : Option Addr) (n cap : Nat), e = .returned (.tuple #[whV (zneg z) a n cap, .int .i64 i]) ∧ Wd w' a n cap (dg z.natAbs) ∧ Below w.heap.size w w'
set_option maxRecDepth 4096 in
set_option maxHeartbeats 1000000 in
theorem ref08_read_nil_bad  (w : World) (hlen : (([] : List UInt8)).length ≤ 1000) (hw : Hid (0 ≤ wrongI (([] : List UInt8)))) :
    Calls Tryz.prog 55 #[.string (bs (([] : List UInt8)))] w (ReadZ 0 (0 + wrongI (([] : List UInt8))) w) := by
  have hs0 := bs_size []
  have hx0 := bs_all []
  simp only [List.length_nil] at hs0 hx0
  have hwr := @wrongFrom_range (([] : List UInt8)) 0
  have hwi : wrongI (([] : List UInt8)) ≤ 10000 := by unfold wrongI; split <;> omega
  have hwj : -1 ≤ wrongI (([] : List UInt8)) := by unfold wrongI; split <;> omega
  clear hwr
  go_enter Tryz.func55, Tryz.ntmps55
  go_wp2_with fail
  refine (ref07_wrong (([] : List UInt8)) _ (by omega)).mono ?_
  rintro e w' ⟨rfl, rfl⟩
  have hw0 := hw.out
  generalize wrongI (([] : List UInt8)) = wi at *
  have hwz := IntWalk.wrap64_in wi (by omega)
  have HG2 := Lib.hid (blk_new w #[.bool false, .slice none 0 0] 63)
  go_wp2
  refine bodyPost_ret (results_row_tmp Tryz.results55 _ _ w.heap.size 63 #[.bool false, .slice none 0 0] (0, 0) _ rfl HG2.out Tryz.underlying63 rfl (by kernel_rfl)) rfl ?_
  exact ⟨none, 0, 0, by simp [whV, zneg], by rw [show (0 : Int).natAbs = 0 from rfl, dg_zero]; exact Wd.ofNil _, below_alloc _ _⟩
set_option maxRecDepth 4096 in
set_option maxHeartbeats 1000000 in
theorem ref08_read_plain_ok (x : UInt8) (r : List UInt8) (hx : x.toNat ≠ 45) (w : World) (hlen : (x :: r).length ≤ 1000) (hw : Hid (wrongI (x :: r) < 0)) :
    Calls Tryz.prog 55 #[.string (bs (x :: r))] w (ReadZ (zval false (readV (x :: r))) (-1) w) := by
  have hs0 := bs_size (x :: r)
  have hx0 := bs_all (x :: r)
  have hget := bs_get (x :: r) 0 (by simp) (by rw [bs_size]; simp)
  have hget2 : ((x :: r).getD 0 0).toNat = x.toNat := rfl
  rw [hget2] at hget
  simp only [List.length_cons] at hs0 hx0
  have hwr := @wrongFrom_range (x :: r) 0
  have hwi : wrongI (x :: r) ≤ 10000 := by unfold wrongI; split <;> omega
  have hwj : -1 ≤ wrongI (x :: r) := by unfold wrongI; split <;> omega
  clear hwr
  have hok := wrongI_none hw.out
  have HD := Lib.hid hok.1
  have hl60 := hok.2.2
  have HRL : Hid ((dg (readV (x :: r))).length ≤ 20) := Lib.hid (dg_length_le (Nat.lt_of_lt_of_le (readV_lt hok.1) (Nat.le_trans (Nat.pow_le_pow_right (by decide) hok.2.2) (by decide))))
  clear hok
  go_enter Tryz.func55, Tryz.ntmps55
  go_wp2_with fail
  refine (ref07_wrong (x :: r) _ (by omega)).mono ?_
  rintro e w' ⟨rfl, rfl⟩
  have hw0 := hw.out
  generalize wrongI (x :: r) = wi at *
  go_wp2_with fail
  refine (ref07_read (x :: r) _ (by omega) HD).mono ?_
  rintro e w1 ⟨a1, n1, c1, rfl, h1, b1⟩
  have hn1 : n1 ≤ 20 := by rw [← h1.len]; exact HRL.out
  have hR1 := box_at w w1 _ _ b1
  have H1 := Lib.hid h1
  have hB1 := Lib.hid (below_then (below_alloc _ _) b1)
  have HR1 := Lib.hid hR1
  clear h1 b1 hR1
  go_wp2_with fail
  refine (ref08_norm false _ _ _ _ _ H1.out (by omega)).mono ?_
  rintro e w2 ⟨a2, n2, c2, rfl, h2, b2⟩
  rw [val_dg] at h2 ⊢
  have hR := blk_later HR1.out b2
  generalize zval false (readV (x :: r)) = z at *
  have hR0 := blk_cell hR 0
  have hRc := blk_cell hR 1
  have hF0 := blk_free hR 0
  have hF1 := blk_free hR 1
  have HS2 := Lib.hid (h2.stored2 hR (zneg z) (.slice a2 n2 c2))
  have HG2 := Lib.hid (blk_set2 hR (.bool (zneg z)) (.slice a2 n2 c2))
  have HB2 := Lib.hid (below_set2 (below_then hB1.out b2) (show w.heap.size ≤ w.heap.size by omega) (.bool (zneg z)) (.slice a2 n2 c2))
  clear hR h2 b2
  simp only [List.getElem?_toArray, List.getElem?_cons_zero, List.getElem?_cons_succ] at hR0 hRc
  unfold whV
  go_wp2
  refine bodyPost_ret (results_row_tmp Tryz.results55 _ _ w.heap.size 63 #[.bool (zneg z), .slice a2 n2 c2] (0, 0) _ rfl HG2.out Tryz.underlying63 rfl (by kernel_rfl)) rfl ?_
  exact ⟨a2, n2, c2, rfl, HS2.out, HB2.out⟩
set_option maxRecDepth 4096 in
set_option maxHeartbeats 1000000 in
theorem ref08_read_plain_bad (x : UInt8) (r : List UInt8) (hx : x.toNat ≠ 45) (w : World) (hlen : (x :: r).length ≤ 1000) (hw : Hid (0 ≤ wrongI (x :: r))) :
    Calls Tryz.prog 55 #[.string (bs (x :: r))] w (ReadZ 0 (0 + wrongI (x :: r)) w) := by
  have hs0 := bs_size (x :: r)
  have hx0 := bs_all (x :: r)
  have hget := bs_get (x :: r) 0 (by simp) (by rw [bs_size]; simp)
  have hget2 : ((x :: r).getD 0 0).toNat = x.toNat := rfl
  rw [hget2] at hget
  simp only [List.length_cons] at hs0 hx0
  have hwr := @wrongFrom_range (x :: r) 0
  have hwi : wrongI (x :: r) ≤ 10000 := by unfold wrongI; split <;> omega
  have hwj : -1 ≤ wrongI (x :: r) := by unfold wrongI; split <;> omega
  clear hwr
  go_enter Tryz.func55, Tryz.ntmps55
  go_wp2_with fail
  refine (ref07_wrong (x :: r) _ (by omega)).mono ?_
  rintro e w' ⟨rfl, rfl⟩
  have hw0 := hw.out
  generalize wrongI (x :: r) = wi at *
  have hwz := IntWalk.wrap64_in wi (by omega)
  have HG2 := Lib.hid (blk_new w #[.bool false, .slice none 0 0] 63)
  go_wp2
  refine bodyPost_ret (results_row_tmp Tryz.results55 _ _ w.heap.size 63 #[.bool false, .slice none 0 0] (0, 0) _ rfl HG2.out Tryz.underlying63 rfl (by kernel_rfl)) rfl ?_
  exact ⟨none, 0, 0, by simp [whV, zneg], by rw [show (0 : Int).natAbs = 0 from rfl, dg_zero]; exact Wd.ofNil _, below_alloc _ _⟩
set_option maxRecDepth 4096 in
set_option maxHeartbeats 1000000 in
theorem ref08_read_minus_ok (x : UInt8) (r : List UInt8) (hx : x.toNat = 45) (w : World) (hlen : (r).length ≤ 1000) (hw : Hid (wrongI (r) < 0)) :
    Calls Tryz.prog 55 #[.string (bs (x :: r))] w (ReadZ (zval true (readV (r))) (-1) w) := by
  have hs0 := bs_size (x :: r)
  have hx0 := bs_rest x r
  have hget := bs_get (x :: r) 0 (by simp) (by rw [bs_size]; simp)
  have hget2 : ((x :: r).getD 0 0).toNat = x.toNat := rfl
  rw [hget2] at hget
  simp only [List.length_cons] at hs0 hx0
  have hwr := @wrongFrom_range (r) 0
  have hwi : wrongI (r) ≤ 10000 := by unfold wrongI; split <;> omega
  have hwj : -1 ≤ wrongI (r) := by unfold wrongI; split <;> omega
  clear hwr
  have hok := wrongI_none hw.out
  have HD := Lib.hid hok.1
  have hl60 := hok.2.2
  have HRL : Hid ((dg (readV (r))).length ≤ 20) := Lib.hid (dg_length_le (Nat.lt_of_lt_of_le (readV_lt hok.1) (Nat.le_trans (Nat.pow_le_pow_right (by decide) hok.2.2) (by decide))))
  clear hok
  go_enter Tryz.func55, Tryz.ntmps55
  go_wp2_with fail
  refine (ref07_wrong (r) _ (by omega)).mono ?_
  rintro e w' ⟨rfl, rfl⟩
  have hw0 := hw.out
  generalize wrongI (r) = wi at *
  go_wp2_with fail
  refine (ref07_read (r) _ (by omega) HD).mono ?_
  rintro e w1 ⟨a1, n1, c1, rfl, h1, b1⟩
  have hn1 : n1 ≤ 20 := by rw [← h1.len]; exact HRL.out
  have hR1 := box_at w w1 _ _ b1
  have H1 := Lib.hid h1
  have hB1 := Lib.hid (below_then (below_alloc _ _) b1)
  have HR1 := Lib.hid hR1
  clear h1 b1 hR1
  go_wp2_with fail
  refine (ref08_norm true _ _ _ _ _ H1.out (by omega)).mono ?_
  rintro e w2 ⟨a2, n2, c2, rfl, h2, b2⟩
  rw [val_dg] at h2 ⊢
  have hR := blk_later HR1.out b2
  generalize zval true (readV (r)) = z at *
  have hR0 := blk_cell hR 0
  have hRc := blk_cell hR 1
  have hF0 := blk_free hR 0
  have hF1 := blk_free hR 1
  have HS2 := Lib.hid (h2.stored2 hR (zneg z) (.slice a2 n2 c2))
  have HG2 := Lib.hid (blk_set2 hR (.bool (zneg z)) (.slice a2 n2 c2))
  have HB2 := Lib.hid (below_set2 (below_then hB1.out b2) (show w.heap.size ≤ w.heap.size by omega) (.bool (zneg z)) (.slice a2 n2 c2))
  clear hR h2 b2
  simp only [List.getElem?_toArray, List.getElem?_cons_zero, List.getElem?_cons_succ] at hR0 hRc
  unfold whV
  go_wp2
  refine bodyPost_ret (results_row_tmp Tryz.results55 _ _ w.heap.size 63 #[.bool (zneg z), .slice a2 n2 c2] (0, 0) _ rfl HG2.out Tryz.underlying63 rfl (by kernel_rfl)) rfl ?_
  exact ⟨a2, n2, c2, rfl, HS2.out, HB2.out⟩
set_option maxRecDepth 4096 in
set_option maxHeartbeats 1000000 in
theorem ref08_read_minus_bad (x : UInt8) (r : List UInt8) (hx : x.toNat = 45) (w : World) (hlen : (r).length ≤ 1000) (hw : Hid (0 ≤ wrongI (r))) :
    Calls Tryz.prog 55 #[.string (bs (x :: r))] w (ReadZ 0 (1 + wrongI (r)) w) := by
  have hs0 := bs_size (x :: r)
  have hx0 := bs_rest x r
  have hget := bs_get (x :: r) 0 (by simp) (by rw [bs_size]; simp)
  have hget2 : ((x :: r).getD 0 0).toNat = x.toNat := rfl
  rw [hget2] at hget
  simp only [List.length_cons] at hs0 hx0
  have hwr := @wrongFrom_range (r) 0
  have hwi : wrongI (r) ≤ 10000 := by unfold wrongI; split <;> omega
  have hwj : -1 ≤ wrongI (r) := by unfold wrongI; split <;> omega
  clear hwr
  go_enter Tryz.func55, Tryz.ntmps55
  go_wp2_with fail
  refine (ref07_wrong (r) _ (by omega)).mono ?_
  rintro e w' ⟨rfl, rfl⟩
  have hw0 := hw.out
  generalize wrongI (r) = wi at *
  have hwz := IntWalk.wrap64_in wi (by omega)
  have HG2 := Lib.hid (blk_new w #[.bool false, .slice none 0 0] 63)
  go_wp2
  refine bodyPost_ret (results_row_tmp Tryz.results55 _ _ w.heap.size 63 #[.bool false, .slice none 0 0] (0, 0) _ rfl HG2.out Tryz.underlying63 rfl (by kernel_rfl)) rfl ?_
  exact ⟨none, 0, 0, by simp [whV, zneg], by rw [show (0 : Int).natAbs = 0 from rfl, dg_zero]; exact Wd.ofNil _, below_alloc _ _⟩
end Go.Proofs.YteoeicfbaffjcaaGreatDoor

/-
  The contracts of the document's answer for layer 8, in whole numbers; and its quotient is the one that is rounded down.
-/
namespace Go.Proofs.YteoeicfbaffjcaaGreatDoor
open Go.RowKit

theorem flq_floor (na nb : Bool) (u v : Nat) (hv : v ≠ 0) : flq na nb u v = Int.fdiv (zval na u) (zval nb v) ∧ zval na u + -(flq na nb u v * zval nb v) = Int.fmod (zval na u) (zval nb v) := by
  have hd := Nat.div_add_mod u v
  have hr := Nat.mod_lt u (Nat.pos_of_ne_zero hv)
  unfold flq
  refine floor_unique (z := zval na u) (y := zval nb v) (by omega) ?_
  generalize u / v = q at *
  generalize u % v = r at *
  have hc : ((q : Nat) : Int) * (v : Int) = ((v * q : Nat) : Int) := by rw [Nat.mul_comm]; simp
  have hc1 : ((q + 1 : Nat) : Int) * (v : Int) = ((v * q : Nat) : Int) + (v : Int) := by rw [← hc]; simp [Int.add_mul]
  generalize v * q = m at *
  by_cases h0 : r = 0
  · subst h0
    cases na <;> cases nb <;> simp [zval, Int.neg_mul, Int.mul_neg, hc] <;> omega
  · cases na <;> cases nb <;> simp [zval, h0, Int.neg_mul, Int.mul_neg, Int.neg_neg, hc] <;> (try simp only [← Int.natCast_one, ← Int.natCast_add, hc1]) <;> omega
theorem ref08_norm_z (neg : Bool) (a : Option Addr) (n cap : Nat) (l : List Nat) (z : Int) (w : World) (h : Wd w a n cap l) (hn : n ≤ 100000) (hz : zval neg (val l) = z) : Calls Tryz.prog 102 #[whV neg a n cap] w (LstZ z w) := by
  subst hz; exact ref08_norm neg a n cap l w h (by omega)
theorem zval_flip (neg : Bool) (v : Nat) : zval (!neg) v = -(zval neg v) := by unfold zval; cases neg <;> simp
theorem ref08_neg_z (neg : Bool) (a : Option Addr) (n cap : Nat) (l : List Nat) (z : Int) (w : World) (h : Wd w a n cap l) (hn : n ≤ 100000) (hz : zval neg (val l) = z) : Calls Tryz.prog 124 #[whV neg a n cap] w (LstZ (-z) w) := by
  subst hz; rw [← zval_flip]; exact ref08_neg neg a n cap l w h (by omega)
theorem ref08_sign_z (neg : Bool) (a : Option Addr) (n cap : Nat) (l : List Nat) (z : Int) (w : World) (h : Wd w a n cap l) (hn : n ≤ 100000) (hz : zval neg (val l) = z) : Calls Tryz.prog 80 #[whV neg a n cap] w (Gives (.int .i64 (sgn z)) w) := by
  subst hz; exact ref08_sign neg a n cap l w h (by omega)
theorem ref08_text_z (neg : Bool) (a : Option Addr) (n cap : Nat) (l : List Nat) (z : Int) (w : World) (h : Wd w a n cap l) (hn : n ≤ 100000) (hz : zval neg (val l) = z) : Calls Tryz.prog 36 #[whV neg a n cap] w (Gives (.string (bs (ztxt z))) w) := by
  subst hz; exact ref08_text neg a n cap l w h hn
theorem ref08_add_z (na : Bool) (a : Option Addr) (n cap : Nat) (la : List Nat) (x : Int) (nb : Bool) (b : Option Addr) (m cap' : Nat) (lb : List Nat) (y : Int) (w : World) (ha : Wd w a n cap la) (hb : Wd w b m cap' lb) (hn : n ≤ 100000) (hm : m ≤ 100000) (hx : zval na (val la) = x) (hy : zval nb (val lb) = y) :
    Calls Tryz.prog 123 #[whV na a n cap, whV nb b m cap'] w (LstZ (x + y) w) := by
  subst hx hy; exact ref08_add na a n cap la nb b m cap' lb w ha hb hn hm
theorem ref08_mul_z (na : Bool) (a : Option Addr) (n cap : Nat) (la : List Nat) (x : Int) (nb : Bool) (b : Option Addr) (m cap' : Nat) (lb : List Nat) (y : Int) (w : World) (ha : Wd w a n cap la) (hb : Wd w b m cap' lb) (hn : n ≤ 100000) (hm : m ≤ 100000) (hx : zval na (val la) = x) (hy : zval nb (val lb) = y) :
    Calls Tryz.prog 125 #[whV na a n cap, whV nb b m cap'] w (LstZ (x * y) w) := by
  subst hx hy; exact ref08_mul na a n cap la nb b m cap' lb w ha hb hn hm
theorem zval_zero {nb : Bool} {v : Nat} (h : zval nb v ≠ 0) : v ≠ 0 := fun e => h (by subst e; unfold zval; cases nb <;> rfl)
theorem ref08_floor_z (na : Bool) (a : Option Addr) (n cap : Nat) (la : List Nat) (x : Int) (nb : Bool) (b : Option Addr) (m cap' : Nat) (lb : List Nat) (y : Int) (w : World) (ha : Wd w a n cap la) (hb : Wd w b m cap' lb) (hn : n ≤ 20000) (hm : m ≤ 20000) (hx : zval na (val la) = x) (hy : zval nb (val lb) = y) (h0 : y ≠ 0) :
    Calls Tryz.prog 87 #[whV na a n cap, whV nb b m cap'] w (LstZZ (Int.fdiv x y) (Int.fmod x y) w) := by
  subst hx hy
  have hv := zval_zero h0
  obtain ⟨e1, e2⟩ := flq_floor na nb (val la) (val lb) hv
  rw [← e1, ← e2]
  exact ref08_floor na a n cap la nb b m cap' lb w ha hb hn hm (Lib.hid hv)
end Go.Proofs.YteoeicfbaffjcaaGreatDoor

/-
  The contract of the document's answer for layer 9: Add.
-/
namespace Go.Proofs.YteoeicfbaffjcaaGreatDoor
open Go.RowKit

theorem cells_3_3_2 {w : World} {A0 A1 A2 : Nat} {c0_0 c0_1 c0_2 c1_0 c1_1 c1_2 c2_0 c2_1 : Value} {t0 t1 t2 : TypeId} (h0 : w.heap[A0]? = some (.cells #[c0_0, c0_1, c0_2] t0 (0, 0))) (h1 : w.heap[A1]? = some (.cells #[c1_0, c1_1, c1_2] t1 (0, 0))) (h2 : w.heap[A2]? = some (.cells #[c2_0, c2_1] t2 (0, 0))) : w.cell? ⟨A0, 0, none⟩ = some c0_0 ∧ w.cell? ⟨A0, 1, none⟩ = some c0_1 ∧ w.cell? ⟨A0, 2, none⟩ = some c0_2 ∧ w.cell? ⟨A1, 0, none⟩ = some c1_0 ∧ w.cell? ⟨A1, 1, none⟩ = some c1_1 ∧ w.cell? ⟨A1, 2, none⟩ = some c1_2 ∧ w.cell? ⟨A2, 0, none⟩ = some c2_0 ∧ w.cell? ⟨A2, 1, none⟩ = some c2_1 := ⟨blk_cell h0 0, blk_cell h0 1, blk_cell h0 2, blk_cell h1 0, blk_cell h1 1, blk_cell h1 2, blk_cell h2 0, blk_cell h2 1⟩
theorem cells_3_3_2_2_3 {w : World} {A0 A1 A2 A3 A4 : Nat} {c0_0 c0_1 c0_2 c1_0 c1_1 c1_2 c2_0 c2_1 c3_0 c3_1 c4_0 c4_1 c4_2 : Value} {t0 t1 t2 t3 t4 : TypeId} (h0 : w.heap[A0]? = some (.cells #[c0_0, c0_1, c0_2] t0 (0, 0))) (h1 : w.heap[A1]? = some (.cells #[c1_0, c1_1, c1_2] t1 (0, 0))) (h2 : w.heap[A2]? = some (.cells #[c2_0, c2_1] t2 (0, 0))) (h3 : w.heap[A3]? = some (.cells #[c3_0, c3_1] t3 (0, 0))) (h4 : w.heap[A4]? = some (.cells #[c4_0, c4_1, c4_2] t4 (0, 0))) : w.cell? ⟨A0, 0, none⟩ = some c0_0 ∧ w.cell? ⟨A0, 1, none⟩ = some c0_1 ∧ w.cell? ⟨A0, 2, none⟩ = some c0_2 ∧ w.cell? ⟨A1, 0, none⟩ = some c1_0 ∧ w.cell? ⟨A1, 1, none⟩ = some c1_1 ∧ w.cell? ⟨A1, 2, none⟩ = some c1_2 ∧ w.cell? ⟨A2, 0, none⟩ = some c2_0 ∧ w.cell? ⟨A2, 1, none⟩ = some c2_1 ∧ w.cell? ⟨A3, 0, none⟩ = some c3_0 ∧ w.cell? ⟨A3, 1, none⟩ = some c3_1 ∧ w.cell? ⟨A4, 0, none⟩ = some c4_0 ∧ w.cell? ⟨A4, 1, none⟩ = some c4_1 ∧ w.cell? ⟨A4, 2, none⟩ = some c4_2 := ⟨blk_cell h0 0, blk_cell h0 1, blk_cell h0 2, blk_cell h1 0, blk_cell h1 1, blk_cell h1 2, blk_cell h2 0, blk_cell h2 1, blk_cell h3 0, blk_cell h3 1, blk_cell h4 0, blk_cell h4 1, blk_cell h4 2⟩
theorem qval_add {na nb : Bool} {u v x y : Nat} (hv : v ≠ 0) (hy : y ≠ 0) (s : Int) (hs : s = zval na (u * y) + zval nb (x * v)) : qval (zneg s) s.natAbs (v * y) = qval na u v + qval nb x y := by
  unfold qval
  rw [zval_of, Rat.mkRat_add_mkRat _ _ hv hy, hs]
  congr 1
  unfold zval
  cases na <;> cases nb <;> simp [Int.neg_mul]
theorem later_lst {P : Program} {f : FuncId} {args : Array Value} {v0 v : World} {l : List Nat} (hv : Below v0.heap.size v0 v) (h : Calls P f args v (Lst l v)) :
    Calls P f args v (fun e w' => ∃ (a : Option Addr) (n cap : Nat), e = .returned (.slice a n cap) ∧ Wd w' a n cap l ∧ Below v0.heap.size v0 w' ∧ ∀ (g : Nat) (o : Obj), v.heap[g]? = some o → w'.heap[g]? = some o) :=
  h.mono fun _ _ ⟨a, n, c, he, h1, hb⟩ => ⟨a, n, c, he, h1, below_then hv hb, fun _ _ hg => blk_later hg hb⟩
theorem blk_far2 {w : World} {A g : Nat} {o : Obj} (h : w.heap[A]? = some o) (hne : A ≠ g) (u v : Value) : ((w.setCell ⟨g, 0, none⟩ u).setCell ⟨g, 1, none⟩ v).heap[A]? = some o := blk_apart (blk_apart h hne 0 u) hne 1 v
end Go.Proofs.YteoeicfbaffjcaaGreatDoor

/-
  The contracts of the document's answer for layer 9: Sub, Sign, Cmp.
-/
namespace Go.Proofs.YteoeicfbaffjcaaGreatDoor
open Go.RowKit

theorem qval_len (neg : Bool) (u v : Nat) : (dg (qval neg u v).num.natAbs).length ≤ (dg u).length ∧ (dg (qval neg u v).den).length ≤ (dg v).length + 1 := by
  by_cases hv : v = 0
  · rw [qval_none neg (.inl hv), show ((0 : Rat).num).natAbs = 0 from rfl, show (0 : Rat).den = 1 from rfl, dg_zero]
    have h1 : (dg 1).length ≤ 1 := dg_length_le (by decide)
    exact ⟨by simp, by omega⟩
  · obtain ⟨h1, h2⟩ := qval_parts neg (u := u) hv
    rw [h1, h2, zval_abs]
    exact ⟨dg_length_mono (Nat.div_le_self _ _), Nat.le_trans (dg_length_mono (Nat.div_le_self _ _)) (by omega)⟩
theorem den_nz (q : Rat) : val (dg q.den) ≠ 0 := by rw [val_dg]; exact q.den_nz
theorem qlen_neg (q : Rat) : (dg (-q).num.natAbs).length = (dg q.num.natAbs).length ∧ (dg (-q).den).length = (dg q.den).length := by
  rw [Rat.neg_num, Int.natAbs_neg]; exact ⟨rfl, rfl⟩
end Go.Proofs.YteoeicfbaffjcaaGreatDoor

/-
  The contracts of the document's answer for layer 9: Cmp, Abs.
-/
namespace Go.Proofs.YteoeicfbaffjcaaGreatDoor
open Go.RowKit

end Go.Proofs.YteoeicfbaffjcaaGreatDoor

/-
  The contract of the document's answer for layer 9: Int.
-/
namespace Go.Proofs.YteoeicfbaffjcaaGreatDoor
open Go.RowKit

theorem cells_3_1 {w : World} {A0 A1 : Nat} {c0_0 c0_1 c0_2 c1_0 : Value} {t0 t1 : TypeId} (h0 : w.heap[A0]? = some (.cells #[c0_0, c0_1, c0_2] t0 (0, 0))) (h1 : w.heap[A1]? = some (.cells #[c1_0] t1 (0, 0))) : w.cell? ⟨A0, 0, none⟩ = some c0_0 ∧ w.cell? ⟨A0, 1, none⟩ = some c0_1 ∧ w.cell? ⟨A0, 2, none⟩ = some c0_2 ∧ w.cell? ⟨A1, 0, none⟩ = some c1_0 := ⟨blk_cell h0 0, blk_cell h0 1, blk_cell h0 2, blk_cell h1 0⟩
theorem cells_3_1_1 {w : World} {A0 A1 A2 : Nat} {c0_0 c0_1 c0_2 c1_0 c2_0 : Value} {t0 t1 t2 : TypeId} (h0 : w.heap[A0]? = some (.cells #[c0_0, c0_1, c0_2] t0 (0, 0))) (h1 : w.heap[A1]? = some (.cells #[c1_0] t1 (0, 0))) (h2 : w.heap[A2]? = some (.cells #[c2_0] t2 (0, 0))) : w.cell? ⟨A0, 0, none⟩ = some c0_0 ∧ w.cell? ⟨A0, 1, none⟩ = some c0_1 ∧ w.cell? ⟨A0, 2, none⟩ = some c0_2 ∧ w.cell? ⟨A1, 0, none⟩ = some c1_0 ∧ w.cell? ⟨A2, 0, none⟩ = some c2_0 := ⟨blk_cell h0 0, blk_cell h0 1, blk_cell h0 2, blk_cell h1 0, blk_cell h2 0⟩
theorem qval_int {z : Int} {u : Nat} {neg : Bool} (h : zval neg u = z) : qval neg u 1 = (z : Rat) := by
  unfold qval
  rw [h, Rat.mkRat_one]
set_option maxRecDepth 4096 in
set_option maxHeartbeats 4000000 in
theorem ref09_int (z : Int) (w : World) (hz : isInt z) : Calls Tryz.prog 56 #[.int .i64 z] w (LstQ (z : Rat) w) := by
  have hz1 : -9223372036854775808 ≤ z ∧ z ≤ 9223372036854775807 := hz
  have HB := Lib.hid (below_alloc w (.cells #[.bool false, .slice none 0 0, .slice none 0 0] 24))
  have HR : Hid ((w.alloc (.cells #[.bool false, .slice none 0 0, .slice none 0 0] 24)).heap[w.heap.size]? = some (.cells #[.bool false, .slice none 0 0, .slice none 0 0] 24 (0, 0))) := Lib.hid (blk_new w _ _)
  have H1 : Hid (val [1] = 1) := rfl
  clear hz
  by_cases hneg : z < 0
  · obtain ⟨k, hk⟩ : ∃ k : Nat, -(z + 1) = (k : Int) := ⟨(-(z + 1)).toNat, by omega⟩
    have hkb : k ≤ 9223372036854775807 := by omega
    have HQ : Hid (qval true (val (dg (val (dg k) + val [1]))) (val [1]) = (z : Rat)) := Lib.hid (by rw [H1.out, val_dg, val_dg]; exact qval_int (by rw [zval_true]; omega))
    have hl1 : (dg k).length ≤ 2 := dg_length_le (Nat.lt_of_le_of_lt hkb (by decide))
    have hl2 : (dg (val (dg k) + val [1])).length ≤ 4 := by have := dg_add_length (val (dg k)) 1; rw [H1.out]; rw [val_dg] at this ⊢; have h3 : (dg 1).length ≤ 1 := dg_length_le (by decide); omega
    go_enter Tryz.func56, Tryz.ntmps56
    obtain ⟨vk0, vk1, vk2⟩ := cells_3 HR.out
    go_wp2_with fail
    refine (ref02_of k _ (by omega)).mono ?_
    rintro e wv1 ⟨a1, n1, c1, rfl, h1, b⟩
    clear vk0 vk1 vk2
    replace HB := Lib.hid (below_then HB.out b)
    replace HR := Lib.hid (blk_later HR.out b)
    clear b
    have hn1 := h1.len
    have R1 := Lib.hid h1
    clear h1
    have HO1 : Hid ((World.alloc wv1 (.cells #[.int .u32 1] 54)).heap[wv1.heap.size]? = some (.cells #[.int .u32 1] 54 (0, 0))) := Lib.hid (blk_new wv1 _ _)
    replace HB := Lib.hid (below_then HB.out (below_alloc wv1 (.cells #[.int .u32 1] 54)))
    replace HR := Lib.hid (blk_later HR.out (below_alloc wv1 (.cells #[.int .u32 1] 54)))
    replace R1 := Lib.hid (R1.out.later (below_alloc wv1 (.cells #[.int .u32 1] 54)))
    obtain ⟨vk0, vk1, vk2, vk3⟩ := cells_3_1 HR.out HO1.out
    go_wp2_with fail
    refine (ref02_add a1 n1 c1 _ _ 1 1 [1] _ R1.out (Wd.lit1 wv1 54 (x := 1) (by omega)) (by omega) (by omega)).mono ?_
    rintro e wv2 ⟨a2, n2, c2, rfl, h2, b⟩
    clear vk0 vk1 vk2 vk3
    replace HB := Lib.hid (below_then HB.out b)
    replace HR := Lib.hid (blk_later HR.out b)
    replace HO1 := Lib.hid (blk_later HO1.out b)
    clear R1
    clear b
    have hn2 := h2.len
    have R2 := Lib.hid h2
    clear h2
    have HO2 : Hid ((World.alloc wv2 (.cells #[.int .u32 1] 54)).heap[wv2.heap.size]? = some (.cells #[.int .u32 1] 54 (0, 0))) := Lib.hid (blk_new wv2 _ _)
    replace HB := Lib.hid (below_then HB.out (below_alloc wv2 (.cells #[.int .u32 1] 54)))
    replace HR := Lib.hid (blk_later HR.out (below_alloc wv2 (.cells #[.int .u32 1] 54)))
    replace HO1 := Lib.hid (blk_later HO1.out (below_alloc wv2 (.cells #[.int .u32 1] 54)))
    replace R2 := Lib.hid (R2.out.later (below_alloc wv2 (.cells #[.int .u32 1] 54)))
    obtain ⟨vk0, vk1, vk2, vk3, vk4⟩ := cells_3_1_1 HR.out HO1.out HO2.out
    go_wp2_with fail
    refine (ref09_norm true a2 n2 c2 _ _ 1 1 [1] _ R2.out (Wd.lit1 wv2 54 (x := 1) (by omega)) (by omega) (by omega)).mono ?_
    rintro e wv3 ⟨a3, n3, c3, b3x, m3x, d3x, rfl, h8, h9, b⟩
    clear vk0 vk1 vk2 vk3 vk4
    replace HB := Lib.hid (below_then HB.out b)
    replace HR := Lib.hid (blk_later HR.out b)
    replace HO1 := Lib.hid (blk_later HO1.out b)
    replace HO2 := Lib.hid (blk_later HO2.out b)
    clear R2
    clear b
    rw [HQ.out] at h8 h9 ⊢
    have R8 := Lib.hid h8
    have R9 := Lib.hid h9
    clear h8 h9 HQ hl2 hn1 hn2
    unfold frV
    have HG := Lib.hid (blk_set3 HR.out (.bool (zneg (z : Rat).num)) (.slice a3 n3 c3) (.slice b3x m3x d3x))
    have HL := Lib.hid (below_set3 HB.out (Nat.le_refl w.heap.size) (.bool (zneg (z : Rat).num)) (.slice a3 n3 c3) (.slice b3x m3x d3x))
    have HW1 := Lib.hid (R8.out.stored3 HR.out (zneg (z : Rat).num) a3 n3 c3 (.slice b3x m3x d3x))
    have HW2 := Lib.hid (R9.out.stored3 HR.out (zneg (z : Rat).num) a3 n3 c3 (.slice b3x m3x d3x))
    obtain ⟨k0, k1, k2⟩ := cells_3 HR.out
    have f0 := blk_free HR.out 0
    have f1 := blk_free HR.out 1
    have f2 := blk_free HR.out 2
    generalize (z : Rat) = q at *
    go_wp2
    refine bodyPost_ret (results_cell_row Tryz.results56 _ _ w.heap.size 24 #[.bool (zneg q.num), .slice a3 n3 c3, .slice b3x m3x d3x] (0, 0) _ rfl HG.out Tryz.underlying24 rfl (by kernel_rfl)) rfl ?_
    exact ⟨_, _, _, _, _, _, rfl, HW1.out, HW2.out, HL.out⟩
  · obtain ⟨k, hk⟩ : ∃ k : Nat, z = (k : Int) := ⟨z.toNat, by omega⟩
    have hkb : k ≤ 9223372036854775807 := by omega
    have HQ : Hid (qval false (val (dg k)) (val [1]) = (z : Rat)) := Lib.hid (by rw [H1.out, val_dg]; exact qval_int (by rw [zval_false]; omega))
    have hl1 : (dg k).length ≤ 2 := dg_length_le (Nat.lt_of_le_of_lt hkb (by decide))
    have hw : (k : Int) % 18446744073709551616 = (k : Int) := by omega
    go_enter Tryz.func56, Tryz.ntmps56
    obtain ⟨vk0, vk1, vk2⟩ := cells_3 HR.out
    go_wp2_with fail
    refine (ref02_of k _ (by omega)).mono ?_
    rintro e wv1 ⟨a1, n1, c1, rfl, h1, b⟩
    clear vk0 vk1 vk2
    replace HB := Lib.hid (below_then HB.out b)
    replace HR := Lib.hid (blk_later HR.out b)
    clear b
    have hn1 := h1.len
    have R1 := Lib.hid h1
    clear h1
    have HO1 : Hid ((World.alloc wv1 (.cells #[.int .u32 1] 54)).heap[wv1.heap.size]? = some (.cells #[.int .u32 1] 54 (0, 0))) := Lib.hid (blk_new wv1 _ _)
    replace HB := Lib.hid (below_then HB.out (below_alloc wv1 (.cells #[.int .u32 1] 54)))
    replace HR := Lib.hid (blk_later HR.out (below_alloc wv1 (.cells #[.int .u32 1] 54)))
    replace R1 := Lib.hid (R1.out.later (below_alloc wv1 (.cells #[.int .u32 1] 54)))
    obtain ⟨vk0, vk1, vk2, vk3⟩ := cells_3_1 HR.out HO1.out
    go_wp2_with fail
    refine (ref09_norm false a1 n1 c1 _ _ 1 1 [1] _ R1.out (Wd.lit1 wv1 54 (x := 1) (by omega)) (by omega) (by omega)).mono ?_
    rintro e wv2 ⟨a3, n3, c3, b3x, m3x, d3x, rfl, h8, h9, b⟩
    clear vk0 vk1 vk2 vk3
    replace HB := Lib.hid (below_then HB.out b)
    replace HR := Lib.hid (blk_later HR.out b)
    replace HO1 := Lib.hid (blk_later HO1.out b)
    clear R1
    clear b
    rw [HQ.out] at h8 h9 ⊢
    have R8 := Lib.hid h8
    have R9 := Lib.hid h9
    clear h8 h9 HQ hn1
    unfold frV
    have HG := Lib.hid (blk_set3 HR.out (.bool (zneg (z : Rat).num)) (.slice a3 n3 c3) (.slice b3x m3x d3x))
    have HL := Lib.hid (below_set3 HB.out (Nat.le_refl w.heap.size) (.bool (zneg (z : Rat).num)) (.slice a3 n3 c3) (.slice b3x m3x d3x))
    have HW1 := Lib.hid (R8.out.stored3 HR.out (zneg (z : Rat).num) a3 n3 c3 (.slice b3x m3x d3x))
    have HW2 := Lib.hid (R9.out.stored3 HR.out (zneg (z : Rat).num) a3 n3 c3 (.slice b3x m3x d3x))
    obtain ⟨k0, k1, k2⟩ := cells_3 HR.out
    have f0 := blk_free HR.out 0
    have f1 := blk_free HR.out 1
    have f2 := blk_free HR.out 2
    generalize (z : Rat) = q at *
    go_wp2
    refine bodyPost_ret (results_cell_row Tryz.results56 _ _ w.heap.size 24 #[.bool (zneg q.num), .slice a3 n3 c3, .slice b3x m3x d3x] (0, 0) _ rfl HG.out Tryz.underlying24 rfl (by kernel_rfl)) rfl ?_
    exact ⟨_, _, _, _, _, _, rfl, HW1.out, HW2.out, HL.out⟩
end Go.Proofs.YteoeicfbaffjcaaGreatDoor

/-
  The contracts of the document's answer for layer 9: Size, Long.
-/
namespace Go.Proofs.YteoeicfbaffjcaaGreatDoor
open Go.RowKit

theorem blen_words {w : World} {a : Option Addr} {n cap : Nat} {l : List Nat} (h : Wd w a n cap l) : blen (val l) ≤ 32 * n := by
  have h1 := val_lt h.ok
  rw [h.len, pow32] at h1
  exact blen_le.2 h1
theorem ref03_len_at (a : Option Addr) (n cap : Nat) (l : List Nat) (x : Nat) (w : World) (h : Wd w a n cap l) (hn : n ≤ 16777214) (hx : blen (val l) = x) : Calls Tryz.prog 112 #[.slice a n cap] w (Gives (.int .i64 (x : Int)) w) :=
  (ref03_len a n cap l w h hn).mono fun _ _ ⟨he, hw⟩ => ⟨by rw [he, hx], by subst hw; exact Below.refl _ _⟩
set_option maxRecDepth 4096 in
theorem ref09_long (neg : Bool) (a : Option Addr) (n cap : Nat) (b : Option Addr) (m cap' : Nat) (k : Int) (w : World) :
    Calls Tryz.prog 7 #[frV neg a n cap b m cap', .int .i64 k] w (Gives (.bool (decide (k < (n : Int)) || decide (k < (m : Int)))) w) := by
  unfold frV
  go_enter Tryz.func7, Tryz.ntmps7
  by_cases h : k < (n : Int)
  · rw [decide_eq_true h, Bool.true_or]
    go_wp2
    go_ret
    exact ⟨rfl, below_alloc _ _⟩
  · rw [decide_eq_false h, Bool.false_or]
    go_wp2
    go_ret
    exact ⟨rfl, below_alloc _ _⟩
end Go.Proofs.YteoeicfbaffjcaaGreatDoor

/-
  The contracts of the document's answer for layer 9: Pow.
-/
namespace Go.Proofs.YteoeicfbaffjcaaGreatDoor
open Go.RowKit

theorem isInt_nought : isInt 0 := by unfold isInt; omega
theorem isInt_one : isInt 1 := by unfold isInt; omega
theorem rat_nought : ((0 : Int) : Rat) = 0 := rfl
theorem rat_one : ((1 : Int) : Rat) = 1 := rfl
end Go.Proofs.YteoeicfbaffjcaaGreatDoor

/-
  Package frac at this seat: turned, under, times, Of.
-/
namespace Go.Proofs.YteoeicfbaffjcaaGreatDoor
open Go.RowKit

set_option maxRecDepth 4096 in
set_option maxHeartbeats 4000000 in
theorem frac_turned (neg : Bool) (a : Option Addr) (n cap : Nat) (b : Option Addr) (m cap' : Nat) (w : World) :
    Calls Tryz.prog 62 #[frV neg a n cap b m cap'] w (Gives (frV (!neg) a n cap b m cap') w) := by
  have HG : Hid (((w.alloc (.cells #[.bool (!neg), .slice a n cap, .slice b m cap'] 30)).alloc (.cells #[.bool (!neg), .slice a n cap, .slice b m cap'] 30)).heap[w.heap.size + 1]? = some (.cells #[.bool (!neg), .slice a n cap, .slice b m cap'] 30 (0, 0))) := Lib.hid (boxes_at w ((w.alloc (.cells #[.bool (!neg), .slice a n cap, .slice b m cap'] 30)).alloc (.cells #[.bool (!neg), .slice a n cap, .slice b m cap'] 30)) _ _ _ _ (Below.refl _ _)).2
  have HB := Lib.hid (below_then (below_alloc w (.cells #[.bool (!neg), .slice a n cap, .slice b m cap'] 30)) (below_alloc _ (.cells #[.bool (!neg), .slice a n cap, .slice b m cap'] 30)))
  go_enter Tryz.func62, Tryz.ntmps62
  unfold frV
  go_wp2
  refine bodyPost_ret (results_cell_row Tryz.results62 _ _ (w.heap.size + 1) 30 #[.bool (!neg), .slice a n cap, .slice b m cap'] (0, 0) _ rfl HG.out Tryz.underlying30 rfl (by kernel_rfl)) rfl ?_
  exact ⟨rfl, HB.out⟩
set_option maxRecDepth 4096 in
set_option maxHeartbeats 4000000 in
theorem frac_times (neg : Bool) (a : Option Addr) (n cap : Nat) (la : List Nat) (b : Option Addr) (m cap' : Nat) (lb : List Nat) (w : World) (ha : Wd w a n cap la) (hb : Wd w b m cap' lb) (hn : n ≤ 100000) (hm : m ≤ 100000) :
    Calls Tryz.prog 65 #[whV neg a n cap, .slice b m cap'] w (LstZ (zval neg (val la) * (val lb : Int)) w) := by
  have HB := Lib.hid (below_then (below_alloc w (.cells #[.bool neg, .slice a n cap] 28)) (below_alloc _ (.cells #[.bool false, .slice none 0 0] 28)))
  have HA := Lib.hid (ha.later HB.out)
  have HC := Lib.hid (hb.later HB.out)
  obtain ⟨hx1, hx2⟩ := boxes_at w ((w.alloc (.cells #[.bool neg, .slice a n cap] 28)).alloc (.cells #[.bool false, .slice none 0 0] 28)) #[.bool neg, .slice a n cap] #[.bool false, .slice none 0 0] 28 28 (Below.refl _ _)
  have HX := Lib.hid hx1
  have HR := Lib.hid hx2
  clear hx1 hx2 ha hb
  obtain ⟨z, hz⟩ : ∃ z, zval neg (val la) * (val lb : Int) = z := ⟨_, rfl⟩
  rw [hz]
  have HZ := Lib.hid hz
  clear hz
  go_enter Tryz.func65, Tryz.ntmps65
  unfold whV
  obtain ⟨vk0, vk1, vk2, vk3⟩ := fcells_2_2 HX.out HR.out
  go_wp2_with fail
  refine (whole_mul neg a n cap la false b m cap' lb _ HA.out HC.out hn hm).mono ?_
  rintro e wv1 ⟨a1, n1, c1, rfl, h1, b⟩
  clear vk0 vk1 vk2 vk3
  replace HB := Lib.hid (below_then HB.out b)
  replace HX := Lib.hid (blk_later HX.out b)
  replace HR := Lib.hid (blk_later HR.out b)
  clear HA
  clear HC
  clear b
  rw [zval_false, HZ.out] at h1 ⊢
  have R1 := Lib.hid h1
  clear h1
  unfold whV
  obtain ⟨r0, r1⟩ := fcells_2 HR.out
  have f0 := blk_free HR.out 0
  have f1 := blk_free HR.out 1
  have HG := Lib.hid (blk_set2 HR.out (.bool (zneg z)) (.slice a1 n1 c1))
  have HF := Lib.hid (R1.out.stored2 HR.out (zneg z) (.slice a1 n1 c1))
  have HL := Lib.hid (below_set2 HB.out (show w.heap.size ≤ w.heap.size + 1 by omega) (.bool (zneg z)) (.slice a1 n1 c1))
  go_wp2
  refine bodyPost_ret (results_cell_row Tryz.results65 _ _ (w.heap.size + 1) 28 #[.bool (zneg z), .slice a1 n1 c1] (0, 0) _ rfl HG.out Tryz.underlying28 rfl (by kernel_rfl)) rfl ?_
  exact ⟨a1, n1, c1, rfl, HF.out, HL.out⟩
set_option maxRecDepth 4096 in
set_option maxHeartbeats 4000000 in
theorem frac_of (x : Int) (w : World) (hx : isInt x) : Calls Tryz.prog 26 #[.int .i64 x] w (LstQ (x : Rat) w) := by
  have HX := Lib.hid hx
  have HB := Lib.hid (below_alloc w (.cells #[.bool false, .slice none 0 0, .slice none 0 0] 30))
  have HR := Lib.hid (blk_new w #[.bool false, .slice none 0 0, .slice none 0 0] 30)
  have HO : ∀ w' : World, Calls Tryz.prog 34 #[.int .u64 1] w' (Lst (dg 1) w') := fun w' => natSaid.of 1 w' (by omega)
  have HN : Hid (x = (x : Rat).num) := Lib.hid (Rat.num_intCast x).symm
  have HD : Hid (1 = (x : Rat).den) := Lib.hid (Rat.den_intCast x).symm
  clear hx
  generalize (x : Rat) = q at *
  go_enter Tryz.func26, Tryz.ntmps26
  obtain ⟨vk0, vk1, vk2⟩ := fcells_3 HR.out
  go_wp2_with fail
  refine (whole_of x _ HX.out).mono ?_
  rintro e wv1 ⟨a1, n1, c1, rfl, h1, b⟩
  clear vk0 vk1 vk2
  replace HB := Lib.hid (below_then HB.out b)
  replace HR := Lib.hid (blk_later HR.out b)
  clear b
  have R1 := Lib.hid h1
  clear h1
  unfold whV
  obtain ⟨vk0, vk1, vk2⟩ := fcells_3 HR.out
  go_wp2_with fail
  refine (HO _).mono ?_
  rintro e wv2 ⟨b1, m1, d1, rfl, g1, b⟩
  clear vk0 vk1 vk2
  replace HB := Lib.hid (below_then HB.out b)
  replace HR := Lib.hid (blk_later HR.out b)
  replace R1 := Lib.hid (R1.out.later b)
  clear b
  have T1 := Lib.hid g1
  clear g1
  generalize hz : zneg x = s at *
  have HS := Lib.hid hz
  clear hz
  have q0 := blk_cell HR.out 0
  have q1 := blk_cell HR.out 1
  have q2 := blk_cell HR.out 2
  simp only [List.getElem?_toArray, List.getElem?_cons_zero, List.getElem?_cons_succ] at q0 q1 q2
  have f0 := blk_free HR.out 0
  have f1 := blk_free HR.out 1
  have f2 := blk_free HR.out 2
  replace R1 := Lib.hid (R1.out.stored3 HR.out (s) a1 n1 c1 (.slice b1 m1 d1))
  replace T1 := Lib.hid (T1.out.stored3 HR.out (s) a1 n1 c1 (.slice b1 m1 d1))
  replace HB := Lib.hid (below_set3 HB.out (show w.heap.size ≤ w.heap.size by omega) (.bool s) (.slice a1 n1 c1) (.slice b1 m1 d1))
  replace HR := Lib.hid (blk_set3 HR.out (.bool s) (.slice a1 n1 c1) (.slice b1 m1 d1))
  go_wp2
  refine bodyPost_ret (results_cell_row Tryz.results26 _ _ (w.heap.size) 30 #[.bool s, .slice a1 n1 c1, .slice b1 m1 d1] (0, 0) _ rfl HR.out Tryz.underlying30 rfl (by kernel_rfl)) rfl ?_
  refine ⟨a1, n1, c1, b1, m1, d1, ?_, ?_, ?_, HB.out⟩
  · rw [← HN.out, HS.out]; rfl
  · rw [← HN.out]; exact R1.out
  · rw [← HD.out]; exact T1.out
end Go.Proofs.YteoeicfbaffjcaaGreatDoor
