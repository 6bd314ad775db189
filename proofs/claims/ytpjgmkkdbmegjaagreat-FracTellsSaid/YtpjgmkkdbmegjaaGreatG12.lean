/-
  Several texts of this claim as one, group 12.
-/
import Derived.Test.YtpjgmkkdbmegjaaGreatG10
import Derived.Test.YtpjgmkkdbmegjaaGreatG11
import Derived.Test.YtpjgmkkdbmegjaaGreatG4
import Derived.Test.YtpjgmkkdbmegjaaGreatG5
import Derived.Deep.RegionHeld3
import Derived.Test.YtpjgmkkdbmegjaaGreatG7
import Derived.Deep.RegionWith
import Derived.Deep.CutRange
import Derived.Test.YtpjgmkkdbmegjaaGreatG6
/-
  The contracts of the document's answer for layer 9: Norm.
-/
namespace Go.Proofs.YtpjgmkkdbmegjaaGreat
open Go.RowKit

theorem cells_3 {w : World} {A0 : Nat} {c0_0 c0_1 c0_2 : Value} {t0 : TypeId} (h0 : w.heap[A0]? = some (.cells #[c0_0, c0_1, c0_2] t0 (0, 0))) : w.cell? ⟨A0, 0, none⟩ = some c0_0 ∧ w.cell? ⟨A0, 1, none⟩ = some c0_1 ∧ w.cell? ⟨A0, 2, none⟩ = some c0_2 := ⟨blk_cell h0 0, blk_cell h0 1, blk_cell h0 2⟩
theorem cells_3_3 {w : World} {A0 A1 : Nat} {c0_0 c0_1 c0_2 c1_0 c1_1 c1_2 : Value} {t0 t1 : TypeId} (h0 : w.heap[A0]? = some (.cells #[c0_0, c0_1, c0_2] t0 (0, 0))) (h1 : w.heap[A1]? = some (.cells #[c1_0, c1_1, c1_2] t1 (0, 0))) : w.cell? ⟨A0, 0, none⟩ = some c0_0 ∧ w.cell? ⟨A0, 1, none⟩ = some c0_1 ∧ w.cell? ⟨A0, 2, none⟩ = some c0_2 ∧ w.cell? ⟨A1, 0, none⟩ = some c1_0 ∧ w.cell? ⟨A1, 1, none⟩ = some c1_1 ∧ w.cell? ⟨A1, 2, none⟩ = some c1_2 := ⟨blk_cell h0 0, blk_cell h0 1, blk_cell h0 2, blk_cell h1 0, blk_cell h1 1, blk_cell h1 2⟩
theorem blk_set3 {w : World} {g : Nat} {x y z : Value} {t : TypeId} (h : w.heap[g]? = some (.cells #[x, y, z] t (0, 0))) (u v q : Value) : (((w.setCell ⟨g, 0, none⟩ u).setCell ⟨g, 1, none⟩ v).setCell ⟨g, 2, none⟩ q).heap[g]? = some (.cells #[u, v, q] t (0, 0)) := by
  have h1 := blk_set (blk_set (blk_set h 0 u) 1 v) 2 q
  simpa using h1
theorem no_words3 {b : Bool} {a : Option Addr} {n cap : Nat} {c : Option Addr} {m cap' : Nat} : ∀ (j : Nat) (k : Int), (#[Value.bool b, .slice a n cap, .slice c m cap'] : Array Value)[j]? ≠ some (.int .u32 k) := by
  intro j k
  match j with
  | 0 => simp
  | 1 => simp
  | 2 => simp
  | j + 3 => simp
theorem Wd.stored3 {w : World} {a : Option Addr} {n cap : Nat} {l : List Nat} (h : Wd w a n cap l) {g : Nat} {b : Bool} {x : Option Addr} {y z : Nat} {x' : Option Addr} {y' z' : Nat} {t : TypeId} (hg : w.heap[g]? = some (.cells #[.bool b, .slice x y z, .slice x' y' z'] t (0, 0))) (c : Bool) (e : Option Addr) (i j : Nat) (v : Value) :
    Wd (((w.setCell ⟨g, 0, none⟩ (.bool c)).setCell ⟨g, 1, none⟩ (.slice e i j)).setCell ⟨g, 2, none⟩ v) a n cap l := by
  have h1 := h.stored hg no_words3 0 (.bool c)
  have g1 : (w.setCell ⟨g, 0, none⟩ (.bool c)).heap[g]? = some (.cells #[.bool c, .slice x y z, .slice x' y' z'] t (0, 0)) := by simpa using blk_set hg 0 (.bool c)
  have h2 := h1.stored g1 no_words3 1 (.slice e i j)
  have g2 : ((w.setCell ⟨g, 0, none⟩ (.bool c)).setCell ⟨g, 1, none⟩ (.slice e i j)).heap[g]? = some (.cells #[.bool c, .slice e i j, .slice x' y' z'] t (0, 0)) := by simpa using blk_set g1 1 (.slice e i j)
  exact h2.stored g2 no_words3 2 v
theorem below_set3 {w w1 : World} {g : Nat} (h : Below w.heap.size w w1) (hg : w.heap.size ≤ g) (u v q : Value) : Below w.heap.size w (((w1.setCell ⟨g, 0, none⟩ u).setCell ⟨g, 1, none⟩ v).setCell ⟨g, 2, none⟩ q) := ((h.setCell (p := ⟨g, 0, none⟩) hg u).setCell (p := ⟨g, 1, none⟩) hg v).setCell (p := ⟨g, 2, none⟩) hg q
set_option maxRecDepth 4096 in
set_option maxHeartbeats 4000000 in
theorem ref09_norm (neg : Bool) (a : Option Addr) (n cap : Nat) (la : List Nat) (b : Option Addr) (m cap' : Nat) (lb : List Nat) (w : World) (ha : Wd w a n cap la) (hb : Wd w b m cap' lb) (hn : n ≤ 100000) (hm : m ≤ 100000) :
    Calls Tryz.prog 7 #[frV neg a n cap b m cap'] w (LstQ (qval neg (val la) (val lb)) w) := by
  obtain ⟨qq, hqq⟩ : ∃ qq, qq = qval neg (val la) (val lb) := ⟨_, rfl⟩
  rw [← hqq]
  have HQ := Lib.hid hqq
  clear hqq
  have hla := ha.trim_le
  have hlb := hb.trim_le
  have HB := Lib.hid (below_then (below_alloc w (.cells #[.bool neg, .slice a n cap, .slice b m cap'] 24)) (below_alloc _ (.cells #[.bool false, .slice none 0 0, .slice none 0 0] 24)))
  have HA := Lib.hid (ha.later HB.out)
  have HC := Lib.hid (hb.later HB.out)
  obtain ⟨hx1, hx2⟩ := boxes_at w ((w.alloc (.cells #[.bool neg, .slice a n cap, .slice b m cap'] 24)).alloc (.cells #[.bool false, .slice none 0 0, .slice none 0 0] 24)) #[.bool neg, .slice a n cap, .slice b m cap'] #[.bool false, .slice none 0 0, .slice none 0 0] 24 24 (Below.refl _ _)
  have HX := Lib.hid hx1
  have HR := Lib.hid hx2
  clear ha hb hx1 hx2
  go_enter Tryz.func7, Tryz.ntmps7
  unfold frV
  obtain ⟨k0, k1, k2, k3, k4, k5⟩ := cells_3_3 HX.out HR.out
  go_wp2_with fail
  refine (ref02_norm b m cap' lb _ HC.out (by omega)).mono ?_
  rintro e w1 ⟨a1, n1, c1, rfl, h1, b⟩
  clear k0 k1 k2 k3 k4 k5
  replace HB := Lib.hid (below_then HB.out b)
  replace HX := Lib.hid (blk_later HX.out b)
  replace HR := Lib.hid (blk_later HR.out b)
  clear HC
  replace HA := Lib.hid (HA.out.later b)
  clear b
  have Hn1 := Lib.hid h1.len
  have hn1 : n1 ≤ 100000 := by have := h1.len; omega
  have R1 := Lib.hid h1
  clear h1
  obtain ⟨k0, k1, k2, k3, k4, k5⟩ := cells_3_3 HX.out HR.out
  go_wp2_with fail
  refine (ref02_norm a n cap la _ HA.out (by omega)).mono ?_
  rintro e w2 ⟨a2, n2, c2, rfl, h2, b⟩
  clear k0 k1 k2 k3 k4 k5
  replace HB := Lib.hid (below_then HB.out b)
  replace HX := Lib.hid (blk_later HX.out b)
  replace HR := Lib.hid (blk_later HR.out b)
  clear HA
  replace R1 := Lib.hid (R1.out.later b)
  clear b
  have Hn2 := Lib.hid h2.len
  have hn2 : n2 ≤ 100000 := by have := h2.len; omega
  have R2 := Lib.hid h2
  clear h2
  by_cases hz : n1 = 0
  · subst hz
    obtain rfl : qq = 0 := HQ.out.trans (qval_none neg (.inl (dg_nil_iff.1 Hn1.out)))
    have HB4 := Lib.hid (below_then (below_alloc w2 (.cells #[] 50)) (below_alloc _ (.cells #[.int .u32 1] 50)))
    have HR4 := Lib.hid (blk_later HR.out HB4.out)
    obtain ⟨k3, k4, k5⟩ := cells_3 HR4.out
    have f0 := blk_free HR4.out 0
    have f1 := blk_free HR4.out 1
    have f2 := blk_free HR4.out 2
    have HG := Lib.hid (blk_set3 HR4.out (.bool false) (.slice (some ⟨w2.heap.size, 0, none⟩) 0 0) (.slice (some ⟨w2.heap.size + 1, 0, none⟩) 1 1))
    have HL := Lib.hid (below_set3 (below_then HB.out HB4.out) (show w.heap.size ≤ w.heap.size + 1 by omega) (.bool false) (.slice (some ⟨w2.heap.size, 0, none⟩) 0 0) (.slice (some ⟨w2.heap.size + 1, 0, none⟩) 1 1))
    have w1' : Wd ((w2.alloc (.cells #[] 50)).alloc (.cells #[.int .u32 1] 50)) (some ⟨w2.heap.size + 1, 0, none⟩) 1 1 [1] := by
      have h := Wd.lit1 (w2.alloc (.cells #[] 50)) 50 (x := 1) (by omega)
      rwa [blk_size] at h
    have HW1 := Lib.hid (w1'.stored3 HR4.out false (some ⟨w2.heap.size, 0, none⟩) 0 0 (.slice (some ⟨w2.heap.size + 1, 0, none⟩) 1 1))
    clear w1'
    go_wp2
    refine bodyPost_ret (results_cell_row Tryz.results7 _ _ (w.heap.size + 1) 24 #[.bool false, .slice (some ⟨w2.heap.size, 0, none⟩) 0 0, .slice (some ⟨w2.heap.size + 1, 0, none⟩) 1 1] (0, 0) _ rfl HG.out Tryz.underlying24 rfl (by kernel_rfl)) rfl ?_
    refine ⟨_, _, _, _, _, _, rfl, ?_, ?_, HL.out⟩
    · show Wd _ _ _ _ (dg (0 : Nat))
      rw [dg_zero]; exact Wd.empty _ _ _ (by omega)
    · show Wd _ _ _ _ (dg (1 : Nat))
      rw [dg_word (by decide) (by decide)]; exact HW1.out
  · have hzi : ((n1 : Int) == 0) = false := by simp [hz]
    by_cases hy : n2 = 0
    · subst hy
      obtain rfl : qq = 0 := HQ.out.trans (qval_none neg (.inr (dg_nil_iff.1 Hn2.out)))
      have HB4 := Lib.hid (below_then (below_alloc w2 (.cells #[] 50)) (below_alloc _ (.cells #[.int .u32 1] 50)))
      have HR4 := Lib.hid (blk_later HR.out HB4.out)
      obtain ⟨k3, k4, k5⟩ := cells_3 HR4.out
      have f0 := blk_free HR4.out 0
      have f1 := blk_free HR4.out 1
      have f2 := blk_free HR4.out 2
      have HG := Lib.hid (blk_set3 HR4.out (.bool false) (.slice (some ⟨w2.heap.size, 0, none⟩) 0 0) (.slice (some ⟨w2.heap.size + 1, 0, none⟩) 1 1))
      have HL := Lib.hid (below_set3 (below_then HB.out HB4.out) (show w.heap.size ≤ w.heap.size + 1 by omega) (.bool false) (.slice (some ⟨w2.heap.size, 0, none⟩) 0 0) (.slice (some ⟨w2.heap.size + 1, 0, none⟩) 1 1))
      have w1' : Wd ((w2.alloc (.cells #[] 50)).alloc (.cells #[.int .u32 1] 50)) (some ⟨w2.heap.size + 1, 0, none⟩) 1 1 [1] := by
        have h := Wd.lit1 (w2.alloc (.cells #[] 50)) 50 (x := 1) (by omega)
        rwa [blk_size] at h
      have HW1 := Lib.hid (w1'.stored3 HR4.out false (some ⟨w2.heap.size, 0, none⟩) 0 0 (.slice (some ⟨w2.heap.size + 1, 0, none⟩) 1 1))
      clear w1'
      go_wp2
      refine bodyPost_ret (results_cell_row Tryz.results7 _ _ (w.heap.size + 1) 24 #[.bool false, .slice (some ⟨w2.heap.size, 0, none⟩) 0 0, .slice (some ⟨w2.heap.size + 1, 0, none⟩) 1 1] (0, 0) _ rfl HG.out Tryz.underlying24 rfl (by kernel_rfl)) rfl ?_
      refine ⟨_, _, _, _, _, _, rfl, ?_, ?_, HL.out⟩
      · show Wd _ _ _ _ (dg (0 : Nat))
        rw [dg_zero]; exact Wd.empty _ _ _ (by omega)
      · show Wd _ _ _ _ (dg (1 : Nat))
        rw [dg_word (by decide) (by decide)]; exact HW1.out
    · have hyi : ((n2 : Int) == 0) = false := by simp [hy]
      have hv0 : Hid (val lb ≠ 0) := Lib.hid (fun h => hz (Hn1.out.symm.trans (dg_nil_iff.2 h)))
      have hu0 : Hid (val la ≠ 0) := Lib.hid (fun h => hy (Hn2.out.symm.trans (dg_nil_iff.2 h)))
      have HP := Lib.hid (qval_parts neg (u := val la) hv0.out)
      have HS := Lib.hid (qval_sign neg hv0.out hu0.out)
      rw [← HQ.out] at HP HS
      have HA1 : Hid (qq.num.natAbs = val la / Nat.gcd (val la) (val lb)) := Lib.hid (by rw [HP.out.1, zval_abs])
      have HA2 : Hid (qq.den = val lb / Nat.gcd (val la) (val lb)) := Lib.hid HP.out.2
      have hgl : (dg (Nat.gcd (val la) (val lb))).length ≤ 100000 := Nat.le_trans (dg_length_mono (Nat.gcd_le_left _ (Nat.pos_of_ne_zero hu0.out))) (by omega)
      have Hg0 : Hid (Nat.gcd (val la) (val lb) ≠ 0) := Lib.hid (Nat.ne_of_gt (Nat.gcd_pos_of_pos_left _ (Nat.pos_of_ne_zero hu0.out)))
      clear HP
      by_cases h1 : val lb = 1
      · obtain ⟨vk0, vk1, vk2, vk3, vk4, vk5⟩ := cells_3_3 HX.out HR.out
        go_wp2_with fail
        refine (ref06_one a1 n1 c1 (val lb) _ R1.out).mono ?_
        rintro e w' ⟨rfl, rfl⟩
        clear vk0 vk1 vk2 vk3 vk4 vk5
        rw [decide_eq_true h1]
        have HG1 : Hid (Nat.gcd (val la) (val lb) = 1) := Lib.hid (by rw [h1, Nat.gcd_one_right])
        have HN1 : Hid (dg (val la / Nat.gcd (val la) (val lb)) = dg (val la)) := Lib.hid (by rw [HG1.out, Nat.div_one])
        have HN2 : Hid (dg (val lb / Nat.gcd (val la) (val lb)) = dg (val lb)) := Lib.hid (by rw [HG1.out, Nat.div_one])
        clear h1
        have HG := Lib.hid (blk_set3 HR.out (.bool neg) (.slice a2 n2 c2) (.slice a1 n1 c1))
        have HL := Lib.hid (below_set3 HB.out (show w.heap.size ≤ w.heap.size + 1 by omega) (.bool neg) (.slice a2 n2 c2) (.slice a1 n1 c1))
        have HW1 := Lib.hid (R2.out.stored3 HR.out neg a2 n2 c2 (.slice a1 n1 c1))
        have HW2 := Lib.hid (R1.out.stored3 HR.out neg a2 n2 c2 (.slice a1 n1 c1))
        obtain ⟨k0, k1, k2, k3, k4, k5⟩ := cells_3_3 HX.out HR.out
        have f0 := blk_free HR.out 0
        have f1 := blk_free HR.out 1
        have f2 := blk_free HR.out 2
        go_wp2
        refine bodyPost_ret (results_cell_row Tryz.results7 _ _ (w.heap.size + 1) 24 #[.bool neg, .slice a2 n2 c2, .slice a1 n1 c1] (0, 0) _ rfl HG.out Tryz.underlying24 rfl (by kernel_rfl)) rfl ?_
        refine ⟨_, _, _, _, _, _, by rw [HS.out]; rfl, ?_, ?_, HL.out⟩
        · rw [HA1.out]; rw [HN1.out]; exact HW1.out
        · rw [HA2.out]; rw [HN2.out]; exact HW2.out
      · obtain ⟨vk0, vk1, vk2, vk3, vk4, vk5⟩ := cells_3_3 HX.out HR.out
        go_wp2_with fail
        refine (ref06_one a1 n1 c1 (val lb) _ R1.out).mono ?_
        rintro e w' ⟨rfl, rfl⟩
        clear vk0 vk1 vk2 vk3 vk4 vk5
        rw [decide_eq_false h1]
        clear h1
        have HV1 : Hid (val (dg (val la)) = val la) := Lib.hid (val_dg _)
        have HV2 : Hid (val (dg (val lb)) = val lb) := Lib.hid (val_dg _)
        obtain ⟨vk0, vk1, vk2, vk3, vk4, vk5⟩ := cells_3_3 HX.out HR.out
        go_wp2_with fail
        refine (ref06_gcd a2 n2 c2 _ a1 n1 c1 _ _ R2.out R1.out (by omega) (by omega)).mono ?_
        rintro e wv2 ⟨a3, n3, c3, rfl, h3, b⟩
        clear vk0 vk1 vk2 vk3 vk4 vk5
        replace HB := Lib.hid (below_then HB.out b)
        replace HX := Lib.hid (blk_later HX.out b)
        replace HR := Lib.hid (blk_later HR.out b)
        replace R1 := Lib.hid (R1.out.later b)
        replace R2 := Lib.hid (R2.out.later b)
        clear b
        rw [HV1.out, HV2.out] at h3
        have hn3 : n3 ≤ 100000 := by have := h3.len; omega
        have R3 := Lib.hid h3
        clear h3
        obtain ⟨vk0, vk1, vk2, vk3, vk4, vk5⟩ := cells_3_3 HX.out HR.out
        go_wp2_with fail
        refine (ref06_over a2 n2 c2 _ a3 n3 c3 _ _ R2.out R3.out (by omega) (by omega) Hg0).mono ?_
        rintro e wv3 ⟨a4, n4, c4, rfl, h4, b⟩
        clear vk0 vk1 vk2 vk3 vk4 vk5
        replace HB := Lib.hid (below_then HB.out b)
        replace HX := Lib.hid (blk_later HX.out b)
        replace HR := Lib.hid (blk_later HR.out b)
        clear R2
        replace R1 := Lib.hid (R1.out.later b)
        replace R3 := Lib.hid (R3.out.later b)
        clear b
        rw [HV1.out] at h4
        have R4 := Lib.hid h4
        clear h4
        obtain ⟨vk0, vk1, vk2, vk3, vk4, vk5⟩ := cells_3_3 HX.out HR.out
        go_wp2_with fail
        refine (ref06_over a1 n1 c1 _ a3 n3 c3 _ _ R1.out R3.out (by omega) (by omega) Hg0).mono ?_
        rintro e wv4 ⟨a5, n5, c5, rfl, h5, b⟩
        clear vk0 vk1 vk2 vk3 vk4 vk5
        replace HB := Lib.hid (below_then HB.out b)
        replace HX := Lib.hid (blk_later HX.out b)
        replace HR := Lib.hid (blk_later HR.out b)
        clear R1
        clear R3
        replace R4 := Lib.hid (R4.out.later b)
        clear b
        rw [HV2.out] at h5
        have R5 := Lib.hid h5
        clear h5
        have HG := Lib.hid (blk_set3 HR.out (.bool neg) (.slice a4 n4 c4) (.slice a5 n5 c5))
        have HL := Lib.hid (below_set3 HB.out (show w.heap.size ≤ w.heap.size + 1 by omega) (.bool neg) (.slice a4 n4 c4) (.slice a5 n5 c5))
        have HW1 := Lib.hid (R4.out.stored3 HR.out neg a4 n4 c4 (.slice a5 n5 c5))
        have HW2 := Lib.hid (R5.out.stored3 HR.out neg a4 n4 c4 (.slice a5 n5 c5))
        obtain ⟨k0, k1, k2, k3, k4, k5⟩ := cells_3_3 HX.out HR.out
        have f0 := blk_free HR.out 0
        have f1 := blk_free HR.out 1
        have f2 := blk_free HR.out 2
        go_wp2
        refine bodyPost_ret (results_cell_row Tryz.results7 _ _ (w.heap.size + 1) 24 #[.bool neg, .slice a4 n4 c4, .slice a5 n5 c5] (0, 0) _ rfl HG.out Tryz.underlying24 rfl (by kernel_rfl)) rfl ?_
        refine ⟨_, _, _, _, _, _, by rw [HS.out]; rfl, ?_, ?_, HL.out⟩
        · rw [HA1.out]; exact HW1.out
        · rw [HA2.out]; exact HW2.out
end Go.Proofs.YtpjgmkkdbmegjaaGreat

/-
  The contracts of the document's answer for layer 9: Neg, Zero, Sign, Same.
-/
namespace Go.Proofs.YtpjgmkkdbmegjaaGreat
open Go.RowKit

theorem zval_other (neg : Bool) (v : Nat) : zval (!neg) v = -(zval neg v) := by unfold zval; cases neg <;> simp
theorem qval_other (neg : Bool) (u v : Nat) : qval (!neg) u v = -(qval neg u v) := by
  unfold qval
  rw [zval_other, Rat.neg_mkRat]
set_option maxRecDepth 4096 in
set_option maxHeartbeats 4000000 in
theorem ref09_neg (neg : Bool) (a : Option Addr) (n cap : Nat) (la : List Nat) (b : Option Addr) (m cap' : Nat) (lb : List Nat) (w : World) (ha : Wd w a n cap la) (hb : Wd w b m cap' lb) (hn : n ≤ 100000) (hm : m ≤ 100000) :
    Calls Tryz.prog 71 #[frV neg a n cap b m cap'] w (LstQ (-(qval neg (val la) (val lb))) w) := by
  have HB := Lib.hid (below_then (below_alloc w (.cells #[.bool neg, .slice a n cap, .slice b m cap'] 24)) (below_alloc _ (.cells #[.bool false, .slice none 0 0, .slice none 0 0] 24)))
  have HA := Lib.hid (ha.later HB.out)
  have HC := Lib.hid (hb.later HB.out)
  obtain ⟨hx1, hx2⟩ := boxes_at w ((w.alloc (.cells #[.bool neg, .slice a n cap, .slice b m cap'] 24)).alloc (.cells #[.bool false, .slice none 0 0, .slice none 0 0] 24)) #[.bool neg, .slice a n cap, .slice b m cap'] #[.bool false, .slice none 0 0, .slice none 0 0] 24 24 (Below.refl _ _)
  have HX := Lib.hid hx1
  have HR := Lib.hid hx2
  clear ha hb hx1 hx2
  go_enter Tryz.func71, Tryz.ntmps71
  unfold frV
  obtain ⟨vk0, vk1, vk2, vk3, vk4, vk5⟩ := cells_3_3 HX.out HR.out
  go_wp2_with fail
  refine (ref09_norm (!neg) a n cap la b m cap' lb _ HA.out HC.out (by omega) (by omega)).mono ?_
  rintro e wv1 ⟨a1, n1, c1, b1, m1, d1, rfl, h1, k1, b⟩
  clear vk0 vk1 vk2 vk3 vk4 vk5
  replace HB := Lib.hid (below_then HB.out b)
  replace HX := Lib.hid (blk_later HX.out b)
  replace HR := Lib.hid (blk_later HR.out b)
  clear HA
  clear HC
  clear b
  rw [qval_other] at h1 k1 ⊢
  generalize -(qval neg (val la) (val lb)) = q at *
  have R1 := Lib.hid h1
  have R2 := Lib.hid k1
  clear h1 k1
  unfold frV
  have HG := Lib.hid (blk_set3 HR.out (.bool (zneg q.num)) (.slice a1 n1 c1) (.slice b1 m1 d1))
  have HL := Lib.hid (below_set3 HB.out (show w.heap.size ≤ w.heap.size + 1 by omega) (.bool (zneg q.num)) (.slice a1 n1 c1) (.slice b1 m1 d1))
  have HW1 := Lib.hid (R1.out.stored3 HR.out (zneg q.num) a1 n1 c1 (.slice b1 m1 d1))
  have HW2 := Lib.hid (R2.out.stored3 HR.out (zneg q.num) a1 n1 c1 (.slice b1 m1 d1))
  obtain ⟨k0, k1, k2, k3, k4, k5⟩ := cells_3_3 HX.out HR.out
  have f0 := blk_free HR.out 0
  have f1 := blk_free HR.out 1
  have f2 := blk_free HR.out 2
  go_wp2
  refine bodyPost_ret (results_cell_row Tryz.results71 _ _ (w.heap.size + 1) 24 #[.bool (zneg q.num), .slice a1 n1 c1, .slice b1 m1 d1] (0, 0) _ rfl HG.out Tryz.underlying24 rfl (by kernel_rfl)) rfl ?_
  exact ⟨_, _, _, _, _, _, rfl, HW1.out, HW2.out, HL.out⟩
set_option maxRecDepth 4096 in
set_option maxHeartbeats 2000000 in
theorem ref09_same_yes (neg : Bool) (a : Option Addr) (n cap : Nat) (b : Option Addr) (m cap' : Nat) (l k : List Nat) (a' : Option Addr) (n' c' : Nat) (b' : Option Addr) (m' d' : Nat) (w : World) (ha : Wd w a n cap l) (hb : Wd w b m cap' k) (ha' : Wd w a' n' c' l) (hb' : Wd w b' m' d' k) :
    Calls Tryz.prog 14 #[frV neg a n cap b m cap', frV neg a' n' c' b' m' d'] w (Gives (.bool true) w) := by
  have HB := Lib.hid (below_then (below_alloc w (.cells #[.bool neg, .slice a n cap, .slice b m cap'] 24)) (below_alloc _ (.cells #[.bool neg, .slice a' n' c', .slice b' m' d'] 24)))
  have HA := Lib.hid (ha.later HB.out)
  have HC := Lib.hid (hb.later HB.out)
  have HA' := Lib.hid (ha'.later HB.out)
  have HC' := Lib.hid (hb'.later HB.out)
  obtain ⟨hx1, hx2⟩ := boxes_at w ((w.alloc (.cells #[.bool neg, .slice a n cap, .slice b m cap'] 24)).alloc (.cells #[.bool neg, .slice a' n' c', .slice b' m' d'] 24)) #[.bool neg, .slice a n cap, .slice b m cap'] #[.bool neg, .slice a' n' c', .slice b' m' d'] 24 24 (Below.refl _ _)
  have HX := Lib.hid hx1
  have HY := Lib.hid hx2
  clear ha hb ha' hb' hx1 hx2
  go_enter Tryz.func14, Tryz.ntmps14
  unfold frV
  obtain ⟨vk0, vk1, vk2, vk3, vk4, vk5⟩ := cells_3_3 HX.out HY.out
  go_wp2_with fail
  refine (ref02_same_yes _ _ _ _ _ _ _ _ _ HA.out HA'.out rfl).mono ?_
  rintro e wv1 ⟨rfl, b⟩
  clear vk0 vk1 vk2 vk3 vk4 vk5
  replace HB := Lib.hid (below_then HB.out b)
  replace HX := Lib.hid (blk_later HX.out b)
  replace HY := Lib.hid (blk_later HY.out b)
  replace HA := Lib.hid (HA.out.later b)
  replace HC := Lib.hid (HC.out.later b)
  replace HA' := Lib.hid (HA'.out.later b)
  replace HC' := Lib.hid (HC'.out.later b)
  clear b
  obtain ⟨vk0, vk1, vk2, vk3, vk4, vk5⟩ := cells_3_3 HX.out HY.out
  go_wp2_with fail
  refine (ref02_same_yes _ _ _ _ _ _ _ _ _ HC.out HC'.out rfl).mono ?_
  rintro e wv2 ⟨rfl, b⟩
  clear vk0 vk1 vk2 vk3 vk4 vk5
  replace HB := Lib.hid (below_then HB.out b)
  replace HX := Lib.hid (blk_later HX.out b)
  replace HY := Lib.hid (blk_later HY.out b)
  replace HA := Lib.hid (HA.out.later b)
  replace HC := Lib.hid (HC.out.later b)
  replace HA' := Lib.hid (HA'.out.later b)
  replace HC' := Lib.hid (HC'.out.later b)
  clear b
  go_wp2
  go_ret
  exact ⟨rfl, HB.out⟩
end Go.Proofs.YtpjgmkkdbmegjaaGreat

/-
  The contracts of the document's answer for layer 9: Mul, Quo.
-/
namespace Go.Proofs.YtpjgmkkdbmegjaaGreat
open Go.RowKit

theorem qval_mul (na nb : Bool) (u v x y : Nat) : qval (!(na == nb)) (u * x) (v * y) = qval na u v * qval nb x y := by
  unfold qval
  rw [Rat.mkRat_mul_mkRat, zval_mul]
theorem blk_far3 {w : World} {A g : Nat} {o : Obj} (h : w.heap[A]? = some o) (hne : A ≠ g) (u v q : Value) : (((w.setCell ⟨g, 0, none⟩ u).setCell ⟨g, 1, none⟩ v).setCell ⟨g, 2, none⟩ q).heap[A]? = some o :=
  blk_apart (blk_apart (blk_apart h hne 0 u) hne 1 v) hne 2 q
theorem boxes3_at9 (w : World) (x y z : Array Value) (t s r : TypeId) :
    (((w.alloc (.cells x t)).alloc (.cells y s)).alloc (.cells z r)).heap[w.heap.size]? = some (.cells x t (0, 0)) ∧ (((w.alloc (.cells x t)).alloc (.cells y s)).alloc (.cells z r)).heap[w.heap.size + 1]? = some (.cells y s (0, 0)) ∧ (((w.alloc (.cells x t)).alloc (.cells y s)).alloc (.cells z r)).heap[w.heap.size + 1 + 1]? = some (.cells z r (0, 0)) := boxes3_at w x y z t s r
end Go.Proofs.YtpjgmkkdbmegjaaGreat

/-
  The contract of the document's answer for layer 8: Floor, where both signs are alike.
-/
namespace Go.Proofs.YtpjgmkkdbmegjaaGreat
open Go.RowKit

set_option maxRecDepth 4096 in
set_option maxHeartbeats 16000000 in
theorem ref08_floor_same (na : Bool) (a : Option Addr) (n cap : Nat) (la : List Nat) (nb : Bool) (b : Option Addr) (m cap' : Nat) (lb : List Nat) (w : World) (ha : Wd w a n cap la) (hb : Wd w b m cap' lb) (hn : n ≤ 20000) (hm : m ≤ 20000) (h0 : Hid (val lb ≠ 0)) (hne0 : Hid (na = nb)) :
    Calls Tryz.prog 31 #[whV na a n cap, whV nb b m cap'] w (LstZZ (flq na nb (val la) (val lb)) (zval na (val la) + -(flq na nb (val la) (val lb) * zval nb (val lb))) w) := by
  have hB4 : Below w.heap.size w ((((w.alloc (.cells #[.bool na, .slice a n cap] 35)).alloc (.cells #[.bool nb, .slice b m cap'] 35)).alloc (.cells #[.bool false, .slice none 0 0] 35)).alloc (.cells #[.bool false, .slice none 0 0] 35)) := below_then (below_then (below_then (below_alloc _ _) (below_alloc _ _)) (below_alloc _ _)) (below_alloc _ _)
  have Ha := Lib.hid (ha.later hB4)
  have Hb := Lib.hid (hb.later hB4)
  have HB := Lib.hid hB4
  have hlen := @flq_len na nb (val la) (val lb) n m (by rw [← ha.len]; exact val_lt ha.ok) hb.trim_le
  have Hl1 := Lib.hid hlen.1
  have Hl2 := Lib.hid hlen.2
  clear ha hb hB4 hlen
  obtain ⟨q, HQ⟩ : ∃ q, Hid (q = flq na nb (val la) (val lb)) := ⟨_, rfl⟩
  rw [← HQ.out] at Hl2 ⊢
  go_enter Tryz.func31, Tryz.ntmps31
  unfold whV
  go_wp2_with fail
  refine (ref05_div a n cap la b m cap' lb _ Ha.out Hb.out (by omega) (by omega) h0).mono ?_
  rintro e w1 ⟨a1, n1, c1, a2, n2, c2, rfl, h1, h2, b1⟩
  have H1 := Lib.hid h1
  have H2 := Lib.hid (Wd.own h2.out (okw_dg _))
  obtain ⟨hA, hBb, hR1, hR2⟩ := boxes4_at w _ _ _ _ _ _ _ _ w1 b1
  have HB1 := Lib.hid (below_then HB.out b1)
  have Ha1 := Lib.hid (Ha.out.later b1)
  have Hb1 := Lib.hid (Hb.out.later b1)
  have c0 := blk_cell hA 0
  have c1' := blk_cell hBb 0
  simp only [List.getElem?_toArray, List.getElem?_cons_zero] at c0 c1'
  have HA := Lib.hid hA
  have HBb := Lib.hid hBb
  have HR1 := Lib.hid hR1
  have HR2 := Lib.hid hR2
  have Hn2 : Hid ((dg (val la % val lb)).length = n2) := Lib.hid H2.out.len
  have Hn1 : Hid ((dg (val la / val lb)).length = n1) := Lib.hid H1.out.len
  have hn1 : n1 ≤ 20001 := by
    rw [← Hn1.out]
    exact Nat.le_trans (dg_length_mono (by omega)) (Nat.le_trans Hl1.out (by omega))
  clear hA hBb hR1 hR2 h1 h2 b1 HB Ha Hb
  have hne := hne0.out
  · subst hne
    have hq0 : (na == na) = true := by simp
    have HNq : Hid (zval false (val la / val lb) = q) := Lib.hid (by rw [HQ.out, flq, if_neg (by simp), hq0]; rfl)
    have Hcall := Lib.hid (ref08_normN false a1 n1 c1 _ w1 H1.out (by omega))
    rw [HNq.out] at Hcall
    go_wp2_with fail
    refine Hcall.out.mono ?_
    rintro e wq ⟨aq, nq, cq, rfl, hq9, bq⟩
    unfold whV
    have Hlq : Hid (nq ≤ 20001) := Lib.hid (by rw [← hq9.len, HQ.out, flq, zval_abs]; exact Nat.le_trans Hl1.out (by omega))
    have HAg := Lib.hid (blk_later (blk_later HA.out bq) (below_alloc wq (.cells #[.bool (zneg q), .slice aq nq cq] 35)))
    have HBg := Lib.hid (blk_later (blk_later HBb.out bq) (below_alloc wq (.cells #[.bool (zneg q), .slice aq nq cq] 35)))
    have HR1g := Lib.hid (blk_later (blk_later HR1.out bq) (below_alloc wq (.cells #[.bool (zneg q), .slice aq nq cq] 35)))
    have HR2g := Lib.hid (blk_later (blk_later HR2.out bq) (below_alloc wq (.cells #[.bool (zneg q), .slice aq nq cq] 35)))
    have kz : w.heap.size + 1 + 1 + 1 < wq.heap.size := (Array.getElem?_eq_some_iff.1 (blk_later HR2.out bq)).1
    have HG := Lib.hid (blk_new wq #[.bool (zneg q), .slice aq nq cq] 35)
    have Hqg := Lib.hid (hq9.later (below_alloc wq (.cells #[.bool (zneg q), .slice aq nq cq] 35)))
    have Hag := Lib.hid ((Ha1.out.later bq).later (below_alloc wq (.cells #[.bool (zneg q), .slice aq nq cq] 35)))
    have Hbg := Lib.hid ((Hb1.out.later bq).later (below_alloc wq (.cells #[.bool (zneg q), .slice aq nq cq] 35)))
    have Hlow := Lib.hid (below_then (below_then HB1.out bq) (below_alloc wq (.cells #[.bool (zneg q), .slice aq nq cq] 35)))
    have Kz := Lib.hid kz
    clear kz hq9 bq Hcall c0 c1'
    go_wp2
    generalize wq.alloc (.cells #[.bool (zneg q), .slice aq nq cq] 35) = W at *
    generalize wq.heap.size = g at *
    have Hd : Below W.heap.size W W.drew := (Below.refl _ _).drew
    have Sd := six_cells (w := W.drew) HAg.out HBg.out HG.out
    go_region_held3 (fun w' => w'.cell? ⟨w.heap.size, 0, none⟩ = some (.bool na) ∧ w'.cell? ⟨w.heap.size, 1, none⟩ = some (.slice a n cap) ∧ w'.cell? ⟨w.heap.size + 1, 0, none⟩ = some (.bool na) ∧ w'.cell? ⟨w.heap.size + 1, 1, none⟩ = some (.slice b m cap') ∧ w'.cell? ⟨g, 0, none⟩ = some (.bool (zneg q)) ∧ w'.cell? ⟨g, 1, none⟩ = some (.slice aq nq cq)) (first | exact Sd | exact S1 | exact S2 | exact S3.out | exact S4.out | exact S5.out)
      (first
      | (go_at_call 61; (refine (ref08_mulZ q aq nq cq na b m cap' lb _ (Hqg.out.later Hd) (Hbg.out.later Hd) ?q3 ?q4).mono ?_); (case q3 => have := Hlq.out; omega); (case q4 => omega); rintro e w6 ⟨a6, n6, c6, rfl, h6, b6⟩; have b6' := below_then Hd b6; have S1 := six_cells (blk_later HAg.out b6') (blk_later HBg.out b6') (blk_later HG.out b6'))
      | (go_at_call 60; (refine (ref08_negZ (q * zval na (val lb)) a6 n6 c6 _ h6 ?q5).mono ?_); (case q5 => have h9 := Hl2.out; rw [h6.len] at h9; omega); rintro e w7 ⟨a7, n7, c7, rfl, h7, b7⟩; have b7' := below_then b6' b7; have S2 := six_cells (blk_later HAg.out b7') (blk_later HBg.out b7') (blk_later HG.out b7'))
      | (go_at_call 59; (refine (ref08_addZ na a n cap la (-(q * zval na (val lb))) a7 n7 c7 _ (Hag.out.later b7') h7 ?q6 ?q7).mono ?_); (case q6 => omega); (case q7 => have h9 := Hl2.out; rw [← Int.natAbs_neg, h7.len] at h9; omega); rintro e w8 ⟨a8, n8, c8, rfl, h8, b8⟩; have b8' := below_then b7' b8; have S3 := Lib.hid (six_cells (blk_later HAg.out b8') (blk_later HBg.out b8') (blk_later HG.out b8')); have N1 := Lib.hid (show w.heap.size + 1 + 1 ≠ g by have := Kz.out; omega); have N2 := Lib.hid (show w.heap.size + 1 + 1 + 1 ≠ g by have := Kz.out; omega); have A4 := Lib.hid (blk_apart2 (g := w.heap.size + 1 + 1) (blk_later HAg.out b8') (by omega) (.bool (zneg q)) (.slice aq nq cq)); have B4 := Lib.hid (blk_apart2 (g := w.heap.size + 1 + 1) (blk_later HBg.out b8') (by omega) (.bool (zneg q)) (.slice aq nq cq)); have G4 := Lib.hid (blk_apart2 (g := w.heap.size + 1 + 1) (blk_later HG.out b8') N1.out.symm (.bool (zneg q)) (.slice aq nq cq)); have S4 := Lib.hid (six_cells A4.out B4.out G4.out); have S5 := Lib.hid (six_cells (blk_apart2 (g := w.heap.size + 1 + 1 + 1) A4.out (by omega) (.bool (zneg (zval na (val la) + -(q * zval na (val lb))))) (.slice a8 n8 c8)) (blk_apart2 (g := w.heap.size + 1 + 1 + 1) B4.out (by omega) (.bool (zneg (zval na (val la) + -(q * zval na (val lb))))) (.slice a8 n8 c8)) (blk_apart2 (g := w.heap.size + 1 + 1 + 1) G4.out N2.out.symm (.bool (zneg (zval na (val la) + -(q * zval na (val lb))))) (.slice a8 n8 c8))); have M1 := Lib.hid (blk_later HR1g.out b8'); have M3 := Lib.hid (blk_apart2 (g := w.heap.size + 1 + 1) (blk_later HR2g.out b8') (by omega) (.bool (zneg q)) (.slice aq nq cq)); have r0 := blk_cell M1.out 0; have r1 := blk_cell M1.out 1; have f0 := blk_free M1.out 0; have f1 := blk_free M1.out 1; have r2 := blk_cell M3.out 0; have r3 := blk_cell M3.out 1; have f2 := blk_free M3.out 0; have f3 := blk_free M3.out 1; simp only [List.getElem?_toArray, List.getElem?_cons_zero, List.getElem?_cons_succ] at r0 r1 r2 r3; unfold whV))
    have Hq8 := Lib.hid ((Hqg.out.later b8').stored2 M1.out (zneg q) (.slice aq nq cq))
    have H8 := Lib.hid (h8.stored2 M1.out (zneg q) (.slice aq nq cq))
    have HL8 := Lib.hid (below_set2 (below_then Hlow.out b8') (show w.heap.size ≤ w.heap.size + 1 + 1 by omega) (.bool (zneg q)) (.slice aq nq cq))
    have HG1 := Lib.hid (blk_set2 M1.out (.bool (zneg q)) (.slice aq nq cq))
    generalize hzz : zval na (val la) + -(q * zval na (val lb)) = z at *
    have Hq9 := Lib.hid (Hq8.out.stored2 M3.out (zneg z) (.slice a8 n8 c8))
    have H9 := Lib.hid (H8.out.stored2 M3.out (zneg z) (.slice a8 n8 c8))
    have HL9 := Lib.hid (below_set2 HL8.out (show w.heap.size ≤ w.heap.size + 1 + 1 + 1 by omega) (.bool (zneg z)) (.slice a8 n8 c8))
    have HG2 := Lib.hid (blk_set2 M3.out (.bool (zneg z)) (.slice a8 n8 c8))
    have HG3 := Lib.hid (blk_apart2 (g := w.heap.size + 1 + 1 + 1) HG1.out (by omega) (.bool (zneg z)) (.slice a8 n8 c8))
    go_wp2
    refine bodyPost_ret (results_rows2 Tryz.results31 _ _ (w.heap.size + 1 + 1) (w.heap.size + 1 + 1 + 1) 35 35 #[.bool (zneg q), .slice aq nq cq] #[.bool (zneg z), .slice a8 n8 c8] (0, 0) (0, 0) _ _ rfl HG3.out Tryz.underlying35 rfl (by kernel_rfl) rfl HG2.out Tryz.underlying35 rfl (by kernel_rfl)) rfl ?_
    exact ⟨aq, nq, cq, a8, n8, c8, rfl, Hq9.out, H9.out, HL9.out⟩
end Go.Proofs.YtpjgmkkdbmegjaaGreat

/-
  The contract of the document's answer for layer 8: Floor, where nothing is left.
-/
namespace Go.Proofs.YtpjgmkkdbmegjaaGreat
open Go.RowKit

set_option maxRecDepth 4096 in
set_option maxHeartbeats 16000000 in
theorem ref08_floor_none (na : Bool) (a : Option Addr) (n cap : Nat) (la : List Nat) (nb : Bool) (b : Option Addr) (m cap' : Nat) (lb : List Nat) (w : World) (ha : Wd w a n cap la) (hb : Wd w b m cap' lb) (hn : n ≤ 20000) (hm : m ≤ 20000) (h0 : Hid (val lb ≠ 0)) (hne0 : Hid (¬ na = nb)) (hz0 : Hid (val la % val lb = 0)) :
    Calls Tryz.prog 31 #[whV na a n cap, whV nb b m cap'] w (LstZZ (flq na nb (val la) (val lb)) (zval na (val la) + -(flq na nb (val la) (val lb) * zval nb (val lb))) w) := by
  have hB4 : Below w.heap.size w ((((w.alloc (.cells #[.bool na, .slice a n cap] 35)).alloc (.cells #[.bool nb, .slice b m cap'] 35)).alloc (.cells #[.bool false, .slice none 0 0] 35)).alloc (.cells #[.bool false, .slice none 0 0] 35)) := below_then (below_then (below_then (below_alloc _ _) (below_alloc _ _)) (below_alloc _ _)) (below_alloc _ _)
  have Ha := Lib.hid (ha.later hB4)
  have Hb := Lib.hid (hb.later hB4)
  have HB := Lib.hid hB4
  have hlen := @flq_len na nb (val la) (val lb) n m (by rw [← ha.len]; exact val_lt ha.ok) hb.trim_le
  have Hl1 := Lib.hid hlen.1
  have Hl2 := Lib.hid hlen.2
  clear ha hb hB4 hlen
  obtain ⟨q, HQ⟩ : ∃ q, Hid (q = flq na nb (val la) (val lb)) := ⟨_, rfl⟩
  rw [← HQ.out] at Hl2 ⊢
  go_enter Tryz.func31, Tryz.ntmps31
  unfold whV
  go_wp2_with fail
  refine (ref05_div a n cap la b m cap' lb _ Ha.out Hb.out (by omega) (by omega) h0).mono ?_
  rintro e w1 ⟨a1, n1, c1, a2, n2, c2, rfl, h1, h2, b1⟩
  have H1 := Lib.hid h1
  have H2 := Lib.hid (Wd.own h2.out (okw_dg _))
  obtain ⟨hA, hBb, hR1, hR2⟩ := boxes4_at w _ _ _ _ _ _ _ _ w1 b1
  have HB1 := Lib.hid (below_then HB.out b1)
  have Ha1 := Lib.hid (Ha.out.later b1)
  have Hb1 := Lib.hid (Hb.out.later b1)
  have c0 := blk_cell hA 0
  have c1' := blk_cell hBb 0
  simp only [List.getElem?_toArray, List.getElem?_cons_zero] at c0 c1'
  have HA := Lib.hid hA
  have HBb := Lib.hid hBb
  have HR1 := Lib.hid hR1
  have HR2 := Lib.hid hR2
  have Hn2 : Hid ((dg (val la % val lb)).length = n2) := Lib.hid H2.out.len
  have Hn1 : Hid ((dg (val la / val lb)).length = n1) := Lib.hid H1.out.len
  have hn1 : n1 ≤ 20001 := by
    rw [← Hn1.out]
    exact Nat.le_trans (dg_length_mono (by omega)) (Nat.le_trans Hl1.out (by omega))
  clear hA hBb hR1 hR2 h1 h2 b1 HB Ha Hb
  have hne := hne0.out
  have hq0 : (na == nb) = false := by simp [hne]
  have hz : n2 = 0 := by rw [← Hn2.out, hz0.out, dg_zero]; rfl
  · have Hz : Hid (val la % val lb = 0) := Lib.hid (dg_nil_iff.1 (Hn2.out.trans hz))
    have Hne := Lib.hid hne
    clear hne
    subst hz
    have HNq : Hid (zval true (val la / val lb) = q) := Lib.hid (by rw [HQ.out, flq, if_neg (fun h => h.2 Hz.out), hq0]; rfl)
    have Hcall := Lib.hid (ref08_normN true a1 n1 c1 _ w1 H1.out (by omega))
    rw [HNq.out] at Hcall
    go_wp2_with fail
    refine Hcall.out.mono ?_
    rintro e wq ⟨aq, nq, cq, rfl, hq9, bq⟩
    unfold whV
    have Hlq : Hid (nq ≤ 20001) := Lib.hid (by rw [← hq9.len, HQ.out, flq, zval_abs]; exact Nat.le_trans Hl1.out (by omega))
    have HAg := Lib.hid (blk_later (blk_later HA.out bq) (below_alloc wq (.cells #[.bool (zneg q), .slice aq nq cq] 35)))
    have HBg := Lib.hid (blk_later (blk_later HBb.out bq) (below_alloc wq (.cells #[.bool (zneg q), .slice aq nq cq] 35)))
    have HR1g := Lib.hid (blk_later (blk_later HR1.out bq) (below_alloc wq (.cells #[.bool (zneg q), .slice aq nq cq] 35)))
    have HR2g := Lib.hid (blk_later (blk_later HR2.out bq) (below_alloc wq (.cells #[.bool (zneg q), .slice aq nq cq] 35)))
    have kz : w.heap.size + 1 + 1 + 1 < wq.heap.size := (Array.getElem?_eq_some_iff.1 (blk_later HR2.out bq)).1
    have HG := Lib.hid (blk_new wq #[.bool (zneg q), .slice aq nq cq] 35)
    have Hqg := Lib.hid (hq9.later (below_alloc wq (.cells #[.bool (zneg q), .slice aq nq cq] 35)))
    have Hag := Lib.hid ((Ha1.out.later bq).later (below_alloc wq (.cells #[.bool (zneg q), .slice aq nq cq] 35)))
    have Hbg := Lib.hid ((Hb1.out.later bq).later (below_alloc wq (.cells #[.bool (zneg q), .slice aq nq cq] 35)))
    have Hlow := Lib.hid (below_then (below_then HB1.out bq) (below_alloc wq (.cells #[.bool (zneg q), .slice aq nq cq] 35)))
    have Kz := Lib.hid kz
    clear kz hq9 bq Hcall c0 c1'
    go_wp2
    generalize wq.alloc (.cells #[.bool (zneg q), .slice aq nq cq] 35) = W at *
    generalize wq.heap.size = g at *
    have Hd : Below W.heap.size W W.drew := (Below.refl _ _).drew
    have Sd := six_cells (w := W.drew) HAg.out HBg.out HG.out
    go_region_held3 (fun w' => w'.cell? ⟨w.heap.size, 0, none⟩ = some (.bool na) ∧ w'.cell? ⟨w.heap.size, 1, none⟩ = some (.slice a n cap) ∧ w'.cell? ⟨w.heap.size + 1, 0, none⟩ = some (.bool nb) ∧ w'.cell? ⟨w.heap.size + 1, 1, none⟩ = some (.slice b m cap') ∧ w'.cell? ⟨g, 0, none⟩ = some (.bool (zneg q)) ∧ w'.cell? ⟨g, 1, none⟩ = some (.slice aq nq cq)) (first | exact Sd | exact S1 | exact S2 | exact S3.out | exact S4.out | exact S5.out)
      (first
      | (go_at_call 61; (refine (ref08_mulZ q aq nq cq nb b m cap' lb _ (Hqg.out.later Hd) (Hbg.out.later Hd) ?q3 ?q4).mono ?_); (case q3 => have := Hlq.out; omega); (case q4 => omega); rintro e w6 ⟨a6, n6, c6, rfl, h6, b6⟩; have b6' := below_then Hd b6; have S1 := six_cells (blk_later HAg.out b6') (blk_later HBg.out b6') (blk_later HG.out b6'))
      | (go_at_call 60; (refine (ref08_negZ (q * zval nb (val lb)) a6 n6 c6 _ h6 ?q5).mono ?_); (case q5 => have h9 := Hl2.out; rw [h6.len] at h9; omega); rintro e w7 ⟨a7, n7, c7, rfl, h7, b7⟩; have b7' := below_then b6' b7; have S2 := six_cells (blk_later HAg.out b7') (blk_later HBg.out b7') (blk_later HG.out b7'))
      | (go_at_call 59; (refine (ref08_addZ na a n cap la (-(q * zval nb (val lb))) a7 n7 c7 _ (Hag.out.later b7') h7 ?q6 ?q7).mono ?_); (case q6 => omega); (case q7 => have h9 := Hl2.out; rw [← Int.natAbs_neg, h7.len] at h9; omega); rintro e w8 ⟨a8, n8, c8, rfl, h8, b8⟩; have b8' := below_then b7' b8; have S3 := Lib.hid (six_cells (blk_later HAg.out b8') (blk_later HBg.out b8') (blk_later HG.out b8')); have N1 := Lib.hid (show w.heap.size + 1 + 1 ≠ g by have := Kz.out; omega); have N2 := Lib.hid (show w.heap.size + 1 + 1 + 1 ≠ g by have := Kz.out; omega); have A4 := Lib.hid (blk_apart2 (g := w.heap.size + 1 + 1) (blk_later HAg.out b8') (by omega) (.bool (zneg q)) (.slice aq nq cq)); have B4 := Lib.hid (blk_apart2 (g := w.heap.size + 1 + 1) (blk_later HBg.out b8') (by omega) (.bool (zneg q)) (.slice aq nq cq)); have G4 := Lib.hid (blk_apart2 (g := w.heap.size + 1 + 1) (blk_later HG.out b8') N1.out.symm (.bool (zneg q)) (.slice aq nq cq)); have S4 := Lib.hid (six_cells A4.out B4.out G4.out); have S5 := Lib.hid (six_cells (blk_apart2 (g := w.heap.size + 1 + 1 + 1) A4.out (by omega) (.bool (zneg (zval na (val la) + -(q * zval nb (val lb))))) (.slice a8 n8 c8)) (blk_apart2 (g := w.heap.size + 1 + 1 + 1) B4.out (by omega) (.bool (zneg (zval na (val la) + -(q * zval nb (val lb))))) (.slice a8 n8 c8)) (blk_apart2 (g := w.heap.size + 1 + 1 + 1) G4.out N2.out.symm (.bool (zneg (zval na (val la) + -(q * zval nb (val lb))))) (.slice a8 n8 c8))); have M1 := Lib.hid (blk_later HR1g.out b8'); have M3 := Lib.hid (blk_apart2 (g := w.heap.size + 1 + 1) (blk_later HR2g.out b8') (by omega) (.bool (zneg q)) (.slice aq nq cq)); have r0 := blk_cell M1.out 0; have r1 := blk_cell M1.out 1; have f0 := blk_free M1.out 0; have f1 := blk_free M1.out 1; have r2 := blk_cell M3.out 0; have r3 := blk_cell M3.out 1; have f2 := blk_free M3.out 0; have f3 := blk_free M3.out 1; simp only [List.getElem?_toArray, List.getElem?_cons_zero, List.getElem?_cons_succ] at r0 r1 r2 r3; unfold whV))
    have Hq8 := Lib.hid ((Hqg.out.later b8').stored2 M1.out (zneg q) (.slice aq nq cq))
    have H8 := Lib.hid (h8.stored2 M1.out (zneg q) (.slice aq nq cq))
    have HL8 := Lib.hid (below_set2 (below_then Hlow.out b8') (show w.heap.size ≤ w.heap.size + 1 + 1 by omega) (.bool (zneg q)) (.slice aq nq cq))
    have HG1 := Lib.hid (blk_set2 M1.out (.bool (zneg q)) (.slice aq nq cq))
    generalize hzz : zval na (val la) + -(q * zval nb (val lb)) = z at *
    have Hq9 := Lib.hid (Hq8.out.stored2 M3.out (zneg z) (.slice a8 n8 c8))
    have H9 := Lib.hid (H8.out.stored2 M3.out (zneg z) (.slice a8 n8 c8))
    have HL9 := Lib.hid (below_set2 HL8.out (show w.heap.size ≤ w.heap.size + 1 + 1 + 1 by omega) (.bool (zneg z)) (.slice a8 n8 c8))
    have HG2 := Lib.hid (blk_set2 M3.out (.bool (zneg z)) (.slice a8 n8 c8))
    have HG3 := Lib.hid (blk_apart2 (g := w.heap.size + 1 + 1 + 1) HG1.out (by omega) (.bool (zneg z)) (.slice a8 n8 c8))
    go_wp2
    refine bodyPost_ret (results_rows2 Tryz.results31 _ _ (w.heap.size + 1 + 1) (w.heap.size + 1 + 1 + 1) 35 35 #[.bool (zneg q), .slice aq nq cq] #[.bool (zneg z), .slice a8 n8 c8] (0, 0) (0, 0) _ _ rfl HG3.out Tryz.underlying35 rfl (by kernel_rfl) rfl HG2.out Tryz.underlying35 rfl (by kernel_rfl)) rfl ?_
    exact ⟨aq, nq, cq, a8, n8, c8, rfl, Hq9.out, H9.out, HL9.out⟩
end Go.Proofs.YtpjgmkkdbmegjaaGreat

/-
  The contract of the document's answer for layer 8: Floor, where something is left.
-/
namespace Go.Proofs.YtpjgmkkdbmegjaaGreat
open Go.RowKit

set_option maxRecDepth 4096 in
set_option maxHeartbeats 16000000 in
theorem ref08_floor_rest (na : Bool) (a : Option Addr) (n cap : Nat) (la : List Nat) (nb : Bool) (b : Option Addr) (m cap' : Nat) (lb : List Nat) (w : World) (ha : Wd w a n cap la) (hb : Wd w b m cap' lb) (hn : n ≤ 20000) (hm : m ≤ 20000) (h0 : Hid (val lb ≠ 0)) (hne0 : Hid (¬ na = nb)) (hz0 : Hid (val la % val lb ≠ 0)) :
    Calls Tryz.prog 31 #[whV na a n cap, whV nb b m cap'] w (LstZZ (flq na nb (val la) (val lb)) (zval na (val la) + -(flq na nb (val la) (val lb) * zval nb (val lb))) w) := by
  have hB4 : Below w.heap.size w ((((w.alloc (.cells #[.bool na, .slice a n cap] 35)).alloc (.cells #[.bool nb, .slice b m cap'] 35)).alloc (.cells #[.bool false, .slice none 0 0] 35)).alloc (.cells #[.bool false, .slice none 0 0] 35)) := below_then (below_then (below_then (below_alloc _ _) (below_alloc _ _)) (below_alloc _ _)) (below_alloc _ _)
  have Ha := Lib.hid (ha.later hB4)
  have Hb := Lib.hid (hb.later hB4)
  have HB := Lib.hid hB4
  have hlen := @flq_len na nb (val la) (val lb) n m (by rw [← ha.len]; exact val_lt ha.ok) hb.trim_le
  have Hl1 := Lib.hid hlen.1
  have Hl2 := Lib.hid hlen.2
  clear ha hb hB4 hlen
  obtain ⟨q, HQ⟩ : ∃ q, Hid (q = flq na nb (val la) (val lb)) := ⟨_, rfl⟩
  rw [← HQ.out] at Hl2 ⊢
  go_enter Tryz.func31, Tryz.ntmps31
  unfold whV
  go_wp2_with fail
  refine (ref05_div a n cap la b m cap' lb _ Ha.out Hb.out (by omega) (by omega) h0).mono ?_
  rintro e w1 ⟨a1, n1, c1, a2, n2, c2, rfl, h1, h2, b1⟩
  have H1 := Lib.hid h1
  have H2 := Lib.hid (Wd.own h2.out (okw_dg _))
  obtain ⟨hA, hBb, hR1, hR2⟩ := boxes4_at w _ _ _ _ _ _ _ _ w1 b1
  have HB1 := Lib.hid (below_then HB.out b1)
  have Ha1 := Lib.hid (Ha.out.later b1)
  have Hb1 := Lib.hid (Hb.out.later b1)
  have c0 := blk_cell hA 0
  have c1' := blk_cell hBb 0
  simp only [List.getElem?_toArray, List.getElem?_cons_zero] at c0 c1'
  have HA := Lib.hid hA
  have HBb := Lib.hid hBb
  have HR1 := Lib.hid hR1
  have HR2 := Lib.hid hR2
  have Hn2 : Hid ((dg (val la % val lb)).length = n2) := Lib.hid H2.out.len
  have Hn1 : Hid ((dg (val la / val lb)).length = n1) := Lib.hid H1.out.len
  have hn1 : n1 ≤ 20001 := by
    rw [← Hn1.out]
    exact Nat.le_trans (dg_length_mono (by omega)) (Nat.le_trans Hl1.out (by omega))
  clear hA hBb hR1 hR2 h1 h2 b1 HB Ha Hb
  have hne := hne0.out
  have hq0 : (na == nb) = false := by simp [hne]
  have hz : ¬ n2 = 0 := fun h => hz0.out (dg_nil_iff.1 (Hn2.out.trans h))
  · have Hz : Hid (val la % val lb ≠ 0) := Lib.hid (fun h => hz (Hn2.out.symm.trans (dg_nil_iff.2 h)))
    have Hne := Lib.hid hne
    have hni : (0 : Int) < (n2 : Int) := by omega
    have hnn : 0 < n2 := by omega
    clear hne hz
    go_wp2_with fail
    refine (ref02_add a1 n1 c1 _ (some ⟨w1.heap.size, 0, none⟩) 1 1 [1] _ (H1.out.later (below_alloc _ _)) (Wd.lit1 w1 50 (x := 1) (by omega)) (by omega) (by omega)).mono ?_
    rintro e w2 ⟨a3, n3, c3, rfl, h3, b3⟩
    have b3' := below_then (below_alloc w1 _) b3
    have he : val (dg (val la / val lb)) + val [1] = val la / val lb + 1 := by rw [val_dg]; rfl
    rw [he] at h3
    have H3 := Lib.hid h3
    have HA2 := Lib.hid (blk_later HA.out b3')
    have HBb2 := Lib.hid (blk_later HBb.out b3')
    have HR12 := Lib.hid (blk_later HR1.out b3')
    have HR22 := Lib.hid (blk_later HR2.out b3')
    have Ha2 := Lib.hid (Ha1.out.later b3')
    have Hb2 := Lib.hid (Hb1.out.later b3')
    have HB2 := Lib.hid (below_then HB1.out b3')
    have Hif : Hid ((val la / val lb + if na ≠ nb ∧ val la % val lb ≠ 0 then 1 else 0) = val la / val lb + 1) := Lib.hid (by rw [if_pos ⟨Hne.out, Hz.out⟩])
    have hn3 : n3 ≤ 20001 := by
      have h4 := Hl1.out
      rw [Hif.out, h3.len] at h4
      omega
    clear c0 c1'
    have c0 := blk_cell HA2.out 0
    have c1' := blk_cell HBb2.out 0
    simp only [List.getElem?_toArray, List.getElem?_cons_zero] at c0 c1'
    clear h3 b3 b3' he HA HBb HR1 HR2 Ha1 Hb1 HB1
    have HNq : Hid (zval true (val la / val lb + 1) = q) := Lib.hid (by rw [HQ.out, flq, Hif.out, hq0]; rfl)
    have Hcall := Lib.hid (ref08_normN true a3 n3 c3 _ w2 H3.out (by omega))
    rw [HNq.out] at Hcall
    go_wp2_with fail
    refine Hcall.out.mono ?_
    rintro e wq ⟨aq, nq, cq, rfl, hq9, bq⟩
    unfold whV
    have Hlq : Hid (nq ≤ 20001) := Lib.hid (by rw [← hq9.len, HQ.out, flq, zval_abs]; exact Nat.le_trans Hl1.out (by omega))
    have HAg := Lib.hid (blk_later (blk_later HA2.out bq) (below_alloc wq (.cells #[.bool (zneg q), .slice aq nq cq] 35)))
    have HBg := Lib.hid (blk_later (blk_later HBb2.out bq) (below_alloc wq (.cells #[.bool (zneg q), .slice aq nq cq] 35)))
    have HR1g := Lib.hid (blk_later (blk_later HR12.out bq) (below_alloc wq (.cells #[.bool (zneg q), .slice aq nq cq] 35)))
    have HR2g := Lib.hid (blk_later (blk_later HR22.out bq) (below_alloc wq (.cells #[.bool (zneg q), .slice aq nq cq] 35)))
    have kz : w.heap.size + 1 + 1 + 1 < wq.heap.size := (Array.getElem?_eq_some_iff.1 (blk_later HR22.out bq)).1
    have HG := Lib.hid (blk_new wq #[.bool (zneg q), .slice aq nq cq] 35)
    have Hqg := Lib.hid (hq9.later (below_alloc wq (.cells #[.bool (zneg q), .slice aq nq cq] 35)))
    have Hag := Lib.hid ((Ha2.out.later bq).later (below_alloc wq (.cells #[.bool (zneg q), .slice aq nq cq] 35)))
    have Hbg := Lib.hid ((Hb2.out.later bq).later (below_alloc wq (.cells #[.bool (zneg q), .slice aq nq cq] 35)))
    have Hlow := Lib.hid (below_then (below_then HB2.out bq) (below_alloc wq (.cells #[.bool (zneg q), .slice aq nq cq] 35)))
    have Kz := Lib.hid kz
    clear kz hq9 bq Hcall c0 c1'
    go_wp2
    generalize wq.alloc (.cells #[.bool (zneg q), .slice aq nq cq] 35) = W at *
    generalize wq.heap.size = g at *
    have Hd : Below W.heap.size W W.drew := (Below.refl _ _).drew
    have Sd := six_cells (w := W.drew) HAg.out HBg.out HG.out
    go_region_held3 (fun w' => w'.cell? ⟨w.heap.size, 0, none⟩ = some (.bool na) ∧ w'.cell? ⟨w.heap.size, 1, none⟩ = some (.slice a n cap) ∧ w'.cell? ⟨w.heap.size + 1, 0, none⟩ = some (.bool nb) ∧ w'.cell? ⟨w.heap.size + 1, 1, none⟩ = some (.slice b m cap') ∧ w'.cell? ⟨g, 0, none⟩ = some (.bool (zneg q)) ∧ w'.cell? ⟨g, 1, none⟩ = some (.slice aq nq cq)) (first | exact Sd | exact S1 | exact S2 | exact S3.out | exact S4.out | exact S5.out)
      (first
      | (go_at_call 61; (refine (ref08_mulZ q aq nq cq nb b m cap' lb _ (Hqg.out.later Hd) (Hbg.out.later Hd) ?q3 ?q4).mono ?_); (case q3 => have := Hlq.out; omega); (case q4 => omega); rintro e w6 ⟨a6, n6, c6, rfl, h6, b6⟩; have b6' := below_then Hd b6; have S1 := six_cells (blk_later HAg.out b6') (blk_later HBg.out b6') (blk_later HG.out b6'))
      | (go_at_call 60; (refine (ref08_negZ (q * zval nb (val lb)) a6 n6 c6 _ h6 ?q5).mono ?_); (case q5 => have h9 := Hl2.out; rw [h6.len] at h9; omega); rintro e w7 ⟨a7, n7, c7, rfl, h7, b7⟩; have b7' := below_then b6' b7; have S2 := six_cells (blk_later HAg.out b7') (blk_later HBg.out b7') (blk_later HG.out b7'))
      | (go_at_call 59; (refine (ref08_addZ na a n cap la (-(q * zval nb (val lb))) a7 n7 c7 _ (Hag.out.later b7') h7 ?q6 ?q7).mono ?_); (case q6 => omega); (case q7 => have h9 := Hl2.out; rw [← Int.natAbs_neg, h7.len] at h9; omega); rintro e w8 ⟨a8, n8, c8, rfl, h8, b8⟩; have b8' := below_then b7' b8; have S3 := Lib.hid (six_cells (blk_later HAg.out b8') (blk_later HBg.out b8') (blk_later HG.out b8')); have N1 := Lib.hid (show w.heap.size + 1 + 1 ≠ g by have := Kz.out; omega); have N2 := Lib.hid (show w.heap.size + 1 + 1 + 1 ≠ g by have := Kz.out; omega); have A4 := Lib.hid (blk_apart2 (g := w.heap.size + 1 + 1) (blk_later HAg.out b8') (by omega) (.bool (zneg q)) (.slice aq nq cq)); have B4 := Lib.hid (blk_apart2 (g := w.heap.size + 1 + 1) (blk_later HBg.out b8') (by omega) (.bool (zneg q)) (.slice aq nq cq)); have G4 := Lib.hid (blk_apart2 (g := w.heap.size + 1 + 1) (blk_later HG.out b8') N1.out.symm (.bool (zneg q)) (.slice aq nq cq)); have S4 := Lib.hid (six_cells A4.out B4.out G4.out); have S5 := Lib.hid (six_cells (blk_apart2 (g := w.heap.size + 1 + 1 + 1) A4.out (by omega) (.bool (zneg (zval na (val la) + -(q * zval nb (val lb))))) (.slice a8 n8 c8)) (blk_apart2 (g := w.heap.size + 1 + 1 + 1) B4.out (by omega) (.bool (zneg (zval na (val la) + -(q * zval nb (val lb))))) (.slice a8 n8 c8)) (blk_apart2 (g := w.heap.size + 1 + 1 + 1) G4.out N2.out.symm (.bool (zneg (zval na (val la) + -(q * zval nb (val lb))))) (.slice a8 n8 c8))); have M1 := Lib.hid (blk_later HR1g.out b8'); have M3 := Lib.hid (blk_apart2 (g := w.heap.size + 1 + 1) (blk_later HR2g.out b8') (by omega) (.bool (zneg q)) (.slice aq nq cq)); have r0 := blk_cell M1.out 0; have r1 := blk_cell M1.out 1; have f0 := blk_free M1.out 0; have f1 := blk_free M1.out 1; have r2 := blk_cell M3.out 0; have r3 := blk_cell M3.out 1; have f2 := blk_free M3.out 0; have f3 := blk_free M3.out 1; simp only [List.getElem?_toArray, List.getElem?_cons_zero, List.getElem?_cons_succ] at r0 r1 r2 r3; unfold whV))
    have Hq8 := Lib.hid ((Hqg.out.later b8').stored2 M1.out (zneg q) (.slice aq nq cq))
    have H8 := Lib.hid (h8.stored2 M1.out (zneg q) (.slice aq nq cq))
    have HL8 := Lib.hid (below_set2 (below_then Hlow.out b8') (show w.heap.size ≤ w.heap.size + 1 + 1 by omega) (.bool (zneg q)) (.slice aq nq cq))
    have HG1 := Lib.hid (blk_set2 M1.out (.bool (zneg q)) (.slice aq nq cq))
    generalize hzz : zval na (val la) + -(q * zval nb (val lb)) = z at *
    have Hq9 := Lib.hid (Hq8.out.stored2 M3.out (zneg z) (.slice a8 n8 c8))
    have H9 := Lib.hid (H8.out.stored2 M3.out (zneg z) (.slice a8 n8 c8))
    have HL9 := Lib.hid (below_set2 HL8.out (show w.heap.size ≤ w.heap.size + 1 + 1 + 1 by omega) (.bool (zneg z)) (.slice a8 n8 c8))
    have HG2 := Lib.hid (blk_set2 M3.out (.bool (zneg z)) (.slice a8 n8 c8))
    have HG3 := Lib.hid (blk_apart2 (g := w.heap.size + 1 + 1 + 1) HG1.out (by omega) (.bool (zneg z)) (.slice a8 n8 c8))
    go_wp2
    refine bodyPost_ret (results_rows2 Tryz.results31 _ _ (w.heap.size + 1 + 1) (w.heap.size + 1 + 1 + 1) 35 35 #[.bool (zneg q), .slice aq nq cq] #[.bool (zneg z), .slice a8 n8 c8] (0, 0) (0, 0) _ _ rfl HG3.out Tryz.underlying35 rfl (by kernel_rfl) rfl HG2.out Tryz.underlying35 rfl (by kernel_rfl)) rfl ?_
    exact ⟨aq, nq, cq, a8, n8, c8, rfl, Hq9.out, H9.out, HL9.out⟩
theorem ref08_floor (na : Bool) (a : Option Addr) (n cap : Nat) (la : List Nat) (nb : Bool) (b : Option Addr) (m cap' : Nat) (lb : List Nat) (w : World) (ha : Wd w a n cap la) (hb : Wd w b m cap' lb) (hn : n ≤ 20000) (hm : m ≤ 20000) (h0 : Hid (val lb ≠ 0)) :
    Calls Tryz.prog 31 #[whV na a n cap, whV nb b m cap'] w (LstZZ (flq na nb (val la) (val lb)) (zval na (val la) + -(flq na nb (val la) (val lb) * zval nb (val lb))) w) := by
  by_cases hne : na = nb
  · exact ref08_floor_same na a n cap la nb b m cap' lb w ha hb hn hm h0 (Lib.hid hne)
  · by_cases hz : val la % val lb = 0
    · exact ref08_floor_none na a n cap la nb b m cap' lb w ha hb hn hm h0 (Lib.hid hne) (Lib.hid hz)
    · exact ref08_floor_rest na a n cap la nb b m cap' lb w ha hb hn hm h0 (Lib.hid hne) (Lib.hid hz)
end Go.Proofs.YtpjgmkkdbmegjaaGreat

/-
  The contracts of the document's answer for layer 7: Read.
-/
namespace Go.Proofs.YtpjgmkkdbmegjaaGreat
open Go.RowKit

theorem Wd.ofCell7 {w : World} {g x : Nat} (h : w.cell? ⟨g, 0, none⟩ = some (.int .u32 (x : Int))) (hx : x < 4294967296) : Wd w (some ⟨g, 0, none⟩) 1 1 [x] := by
  refine ⟨rfl, Nat.le_refl _, by omega, okw_cons.2 ⟨hx, okw_nil⟩, fun e => (by cases e), .inr ⟨g, 0, rfl, fun j hj => ?_⟩⟩
  obtain rfl : j = 0 := by omega
  exact h
theorem more7 {w w1 : World} (h : Below w.heap.size w w1) (o : Obj) : Below w.heap.size w (w1.alloc o) := below_then h (below_alloc _ _)
theorem drawn7 {w w1 : World} (h : Below w.heap.size w w1) : Below w.heap.size w w1.drew := h.drew
theorem cell7_newest {w : World} {g x : Nat} {t : TypeId} (hg : g = w.heap.size) : (w.alloc (.cells #[.int .u32 (x : Int)] t)).drew.cell? ⟨g, 0, none⟩ = some (.int .u32 (x : Int)) := by
  subst hg
  show (w.alloc (.cells #[.int .u32 (x : Int)] t)).cell? ⟨w.heap.size, 0, none⟩ = _
  simp
theorem cell7_grown {w : World} {a : Addr} {v : Value} (o : Obj) (h : w.cell? a = some v) : (w.alloc o).drew.cell? a = some v := cell_later (below_alloc w o).drew h
end Go.Proofs.YtpjgmkkdbmegjaaGreat

/-
  The contracts of the document's answer for layer 8: Read.
-/
namespace Go.Proofs.YtpjgmkkdbmegjaaGreat
open Go.RowKit

theorem results_row_tmp {P : Program} {fn : Func} {p u : Tmp} {ty : TypeId} (h : fn.results = #[.cell p ty, .tmp u]) (tmps : Array Value) (w : World) (g : Nat) (t : TypeId) (cs : Array Value) (fr : Nat × Nat) (d : TypeDesc)
    (hp : tmps.getD p undef = .pointer (some ⟨g, 0, none⟩)) (hg : w.heap[g]? = some (.cells cs t fr))
    (hu : P.underlying ty = some d) (hd : (match d with | .struct _ | .array _ _ => true | _ => false) = true) (hi : (P.info? ty).map (·.size) = some cs.size) :
    (results fn tmps).run P w = .ok (.tuple #[.agg cs, tmps.getD u undef]) w := by
  rw [results_cell_tmp h, hp]
  simp [asAddr, run_loadVar_row w g t ty cs fr d hg hu hd hi]
/-- A whole number and a place come back. -/
def ReadZ (z : Int) (i : Int) (w : World) (e : Ending) (w' : World) : Prop :=
  ∃ (a : Option Addr) (n cap : Nat), e = .returned (.tuple #[whV (zneg z) a n cap, .int .i64 i]) ∧ Wd w' a n cap (dg z.natAbs) ∧ Below w.heap.size w w'
end Go.Proofs.YtpjgmkkdbmegjaaGreat

/-
  The contracts of the document's answer for layer 8, in whole numbers; and its quotient is the one that is rounded down.
-/
namespace Go.Proofs.YtpjgmkkdbmegjaaGreat
open Go.RowKit

theorem flq_floor (na nb : Bool) (u v : Nat) (hv : v ≠ 0) : flq na nb u v = Int.fdiv (zval na u) (zval nb v) ∧ zval na u + -(flq na nb u v * zval nb v) = Int.fmod (zval na u) (zval nb v) := by
  have hd := Nat.div_add_mod u v
  have hr := Nat.mod_lt u (Nat.pos_of_ne_zero hv)
  unfold flq
  refine floor_unique (z := zval na u) (y := zval nb v) (by omega) ?_
  generalize u / v = q at *
  generalize u % v = r at *
  have hc : ((q : Nat) : Int) * (v : Int) = ((v * q : Nat) : Int) := by rw [Nat.mul_comm]; simp
  have hc1 : ((q + 1 : Nat) : Int) * (v : Int) = ((v * q : Nat) : Int) + (v : Int) := by rw [← hc]; simp [Int.add_mul]
  generalize v * q = m at *
  by_cases h0 : r = 0
  · subst h0
    cases na <;> cases nb <;> simp [zval, Int.neg_mul, Int.mul_neg, hc] <;> omega
  · cases na <;> cases nb <;> simp [zval, h0, Int.neg_mul, Int.mul_neg, Int.neg_neg, hc] <;> (try simp only [← Int.natCast_one, ← Int.natCast_add, hc1]) <;> omega
theorem ref08_norm_z (neg : Bool) (a : Option Addr) (n cap : Nat) (l : List Nat) (z : Int) (w : World) (h : Wd w a n cap l) (hn : n ≤ 100000) (hz : zval neg (val l) = z) : Calls Tryz.prog 58 #[whV neg a n cap] w (LstZ z w) := by
  subst hz; exact ref08_norm neg a n cap l w h (by omega)
theorem zval_flip (neg : Bool) (v : Nat) : zval (!neg) v = -(zval neg v) := by unfold zval; cases neg <;> simp
theorem ref08_neg_z (neg : Bool) (a : Option Addr) (n cap : Nat) (l : List Nat) (z : Int) (w : World) (h : Wd w a n cap l) (hn : n ≤ 100000) (hz : zval neg (val l) = z) : Calls Tryz.prog 60 #[whV neg a n cap] w (LstZ (-z) w) := by
  subst hz; rw [← zval_flip]; exact ref08_neg neg a n cap l w h (by omega)
theorem ref08_add_z (na : Bool) (a : Option Addr) (n cap : Nat) (la : List Nat) (x : Int) (nb : Bool) (b : Option Addr) (m cap' : Nat) (lb : List Nat) (y : Int) (w : World) (ha : Wd w a n cap la) (hb : Wd w b m cap' lb) (hn : n ≤ 100000) (hm : m ≤ 100000) (hx : zval na (val la) = x) (hy : zval nb (val lb) = y) :
    Calls Tryz.prog 59 #[whV na a n cap, whV nb b m cap'] w (LstZ (x + y) w) := by
  subst hx hy; exact ref08_add na a n cap la nb b m cap' lb w ha hb hn hm
theorem ref08_mul_z (na : Bool) (a : Option Addr) (n cap : Nat) (la : List Nat) (x : Int) (nb : Bool) (b : Option Addr) (m cap' : Nat) (lb : List Nat) (y : Int) (w : World) (ha : Wd w a n cap la) (hb : Wd w b m cap' lb) (hn : n ≤ 100000) (hm : m ≤ 100000) (hx : zval na (val la) = x) (hy : zval nb (val lb) = y) :
    Calls Tryz.prog 61 #[whV na a n cap, whV nb b m cap'] w (LstZ (x * y) w) := by
  subst hx hy; exact ref08_mul na a n cap la nb b m cap' lb w ha hb hn hm
theorem zval_zero {nb : Bool} {v : Nat} (h : zval nb v ≠ 0) : v ≠ 0 := fun e => h (by subst e; unfold zval; cases nb <;> rfl)
theorem ref08_floor_z (na : Bool) (a : Option Addr) (n cap : Nat) (la : List Nat) (x : Int) (nb : Bool) (b : Option Addr) (m cap' : Nat) (lb : List Nat) (y : Int) (w : World) (ha : Wd w a n cap la) (hb : Wd w b m cap' lb) (hn : n ≤ 20000) (hm : m ≤ 20000) (hx : zval na (val la) = x) (hy : zval nb (val lb) = y) (h0 : y ≠ 0) :
    Calls Tryz.prog 31 #[whV na a n cap, whV nb b m cap'] w (LstZZ (Int.fdiv x y) (Int.fmod x y) w) := by
  subst hx hy
  have hv := zval_zero h0
  obtain ⟨e1, e2⟩ := flq_floor na nb (val la) (val lb) hv
  rw [← e1, ← e2]
  exact ref08_floor na a n cap la nb b m cap' lb w ha hb hn hm (Lib.hid hv)
end Go.Proofs.YtpjgmkkdbmegjaaGreat
