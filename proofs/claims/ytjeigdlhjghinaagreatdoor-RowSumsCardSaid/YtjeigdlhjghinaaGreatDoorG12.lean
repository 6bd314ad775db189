/-
  Several texts of this claim as one, group 12.
-/
import Derived.Test.YtjeigdlhjghinaaGreatDoorG11
import Derived.Test.YtjeigdlhjghinaaGreatDoorG5
import Derived.Deep.RegionHeld3
import Derived.Test.YtjeigdlhjghinaaGreatDoorG8
import Derived.Deep.RegionWith
import Derived.Deep.CutRange
import Derived.Test.YtjeigdlhjghinaaGreatDoorG4
import Derived.Test.YtjeigdlhjghinaaGreatDoorG6
/-
  The contracts of the document's answer for layer 9: Neg, Zero, Sign, Same.
-/
namespace Go.Proofs.YtjeigdlhjghinaaGreatDoor
open Go.RowKit

theorem zval_other (neg : Bool) (v : Nat) : zval (!neg) v = -(zval neg v) := by unfold zval; cases neg <;> simp
theorem qval_other (neg : Bool) (u v : Nat) : qval (!neg) u v = -(qval neg u v) := by
  unfold qval
  rw [zval_other, Rat.neg_mkRat]
set_option maxRecDepth 4096 in
set_option maxHeartbeats 4000000 in
theorem ref09_neg (neg : Bool) (a : Option Addr) (n cap : Nat) (la : List Nat) (b : Option Addr) (m cap' : Nat) (lb : List Nat) (w : World) (ha : Wd w a n cap la) (hb : Wd w b m cap' lb) (hn : n ≤ 100000) (hm : m ≤ 100000) :
    Calls Tryz.prog 133 #[frV neg a n cap b m cap'] w (LstQ (-(qval neg (val la) (val lb))) w) := by
  have HB := Lib.hid (below_then (below_alloc w (.cells #[.bool neg, .slice a n cap, .slice b m cap'] 44)) (below_alloc _ (.cells #[.bool false, .slice none 0 0, .slice none 0 0] 44)))
  have HA := Lib.hid (ha.later HB.out)
  have HC := Lib.hid (hb.later HB.out)
  obtain ⟨hx1, hx2⟩ := boxes_at w ((w.alloc (.cells #[.bool neg, .slice a n cap, .slice b m cap'] 44)).alloc (.cells #[.bool false, .slice none 0 0, .slice none 0 0] 44)) #[.bool neg, .slice a n cap, .slice b m cap'] #[.bool false, .slice none 0 0, .slice none 0 0] 44 44 (Below.refl _ _)
  have HX := Lib.hid hx1
  have HR := Lib.hid hx2
  clear ha hb hx1 hx2
  go_enter Tryz.func133, Tryz.ntmps133
  unfold frV
  obtain ⟨vk0, vk1, vk2, vk3, vk4, vk5⟩ := cells_3_3 HX.out HR.out
  go_wp2_with fail
  refine (ref09_norm (!neg) a n cap la b m cap' lb _ HA.out HC.out (by omega) (by omega)).mono ?_
  rintro e wv1 ⟨a1, n1, c1, b1, m1, d1, rfl, h1, k1, b⟩
  clear vk0 vk1 vk2 vk3 vk4 vk5
  replace HB := Lib.hid (below_then HB.out b)
  replace HX := Lib.hid (blk_later HX.out b)
  replace HR := Lib.hid (blk_later HR.out b)
  clear HA
  clear HC
  clear b
  rw [qval_other] at h1 k1 ⊢
  generalize -(qval neg (val la) (val lb)) = q at *
  have R1 := Lib.hid h1
  have R2 := Lib.hid k1
  clear h1 k1
  unfold frV
  have HG := Lib.hid (blk_set3 HR.out (.bool (zneg q.num)) (.slice a1 n1 c1) (.slice b1 m1 d1))
  have HL := Lib.hid (below_set3 HB.out (show w.heap.size ≤ w.heap.size + 1 by omega) (.bool (zneg q.num)) (.slice a1 n1 c1) (.slice b1 m1 d1))
  have HW1 := Lib.hid (R1.out.stored3 HR.out (zneg q.num) a1 n1 c1 (.slice b1 m1 d1))
  have HW2 := Lib.hid (R2.out.stored3 HR.out (zneg q.num) a1 n1 c1 (.slice b1 m1 d1))
  obtain ⟨k0, k1, k2, k3, k4, k5⟩ := cells_3_3 HX.out HR.out
  have f0 := blk_free HR.out 0
  have f1 := blk_free HR.out 1
  have f2 := blk_free HR.out 2
  go_wp2
  refine bodyPost_ret (results_cell_row Tryz.results133 _ _ (w.heap.size + 1) 44 #[.bool (zneg q.num), .slice a1 n1 c1, .slice b1 m1 d1] (0, 0) _ rfl HG.out Tryz.underlying44 rfl (by kernel_rfl)) rfl ?_
  exact ⟨_, _, _, _, _, _, rfl, HW1.out, HW2.out, HL.out⟩
set_option maxRecDepth 4096 in
set_option maxHeartbeats 2000000 in
theorem ref09_same_yes (neg : Bool) (a : Option Addr) (n cap : Nat) (b : Option Addr) (m cap' : Nat) (l k : List Nat) (a' : Option Addr) (n' c' : Nat) (b' : Option Addr) (m' d' : Nat) (w : World) (ha : Wd w a n cap l) (hb : Wd w b m cap' k) (ha' : Wd w a' n' c' l) (hb' : Wd w b' m' d' k) :
    Calls Tryz.prog 49 #[frV neg a n cap b m cap', frV neg a' n' c' b' m' d'] w (Gives (.bool true) w) := by
  have HB := Lib.hid (below_then (below_alloc w (.cells #[.bool neg, .slice a n cap, .slice b m cap'] 44)) (below_alloc _ (.cells #[.bool neg, .slice a' n' c', .slice b' m' d'] 44)))
  have HA := Lib.hid (ha.later HB.out)
  have HC := Lib.hid (hb.later HB.out)
  have HA' := Lib.hid (ha'.later HB.out)
  have HC' := Lib.hid (hb'.later HB.out)
  obtain ⟨hx1, hx2⟩ := boxes_at w ((w.alloc (.cells #[.bool neg, .slice a n cap, .slice b m cap'] 44)).alloc (.cells #[.bool neg, .slice a' n' c', .slice b' m' d'] 44)) #[.bool neg, .slice a n cap, .slice b m cap'] #[.bool neg, .slice a' n' c', .slice b' m' d'] 44 44 (Below.refl _ _)
  have HX := Lib.hid hx1
  have HY := Lib.hid hx2
  clear ha hb ha' hb' hx1 hx2
  go_enter Tryz.func49, Tryz.ntmps49
  unfold frV
  obtain ⟨vk0, vk1, vk2, vk3, vk4, vk5⟩ := cells_3_3 HX.out HY.out
  go_wp2_with fail
  refine (ref02_same_yes _ _ _ _ _ _ _ _ _ HA.out HA'.out rfl).mono ?_
  rintro e wv1 ⟨rfl, b⟩
  clear vk0 vk1 vk2 vk3 vk4 vk5
  replace HB := Lib.hid (below_then HB.out b)
  replace HX := Lib.hid (blk_later HX.out b)
  replace HY := Lib.hid (blk_later HY.out b)
  replace HA := Lib.hid (HA.out.later b)
  replace HC := Lib.hid (HC.out.later b)
  replace HA' := Lib.hid (HA'.out.later b)
  replace HC' := Lib.hid (HC'.out.later b)
  clear b
  obtain ⟨vk0, vk1, vk2, vk3, vk4, vk5⟩ := cells_3_3 HX.out HY.out
  go_wp2_with fail
  refine (ref02_same_yes _ _ _ _ _ _ _ _ _ HC.out HC'.out rfl).mono ?_
  rintro e wv2 ⟨rfl, b⟩
  clear vk0 vk1 vk2 vk3 vk4 vk5
  replace HB := Lib.hid (below_then HB.out b)
  replace HX := Lib.hid (blk_later HX.out b)
  replace HY := Lib.hid (blk_later HY.out b)
  replace HA := Lib.hid (HA.out.later b)
  replace HC := Lib.hid (HC.out.later b)
  replace HA' := Lib.hid (HA'.out.later b)
  replace HC' := Lib.hid (HC'.out.later b)
  clear b
  go_wp2
  go_ret
  exact ⟨rfl, HB.out⟩
end Go.Proofs.YtjeigdlhjghinaaGreatDoor

/-
  The contracts of the document's answer for layer 9: Mul, Quo.
-/
namespace Go.Proofs.YtjeigdlhjghinaaGreatDoor
open Go.RowKit

theorem qval_mul (na nb : Bool) (u v x y : Nat) : qval (!(na == nb)) (u * x) (v * y) = qval na u v * qval nb x y := by
  unfold qval
  rw [Rat.mkRat_mul_mkRat, zval_mul]
theorem blk_far3 {w : World} {A g : Nat} {o : Obj} (h : w.heap[A]? = some o) (hne : A ≠ g) (u v q : Value) : (((w.setCell ⟨g, 0, none⟩ u).setCell ⟨g, 1, none⟩ v).setCell ⟨g, 2, none⟩ q).heap[A]? = some o :=
  blk_apart (blk_apart (blk_apart h hne 0 u) hne 1 v) hne 2 q
theorem boxes3_at9 (w : World) (x y z : Array Value) (t s r : TypeId) :
    (((w.alloc (.cells x t)).alloc (.cells y s)).alloc (.cells z r)).heap[w.heap.size]? = some (.cells x t (0, 0)) ∧ (((w.alloc (.cells x t)).alloc (.cells y s)).alloc (.cells z r)).heap[w.heap.size + 1]? = some (.cells y s (0, 0)) ∧ (((w.alloc (.cells x t)).alloc (.cells y s)).alloc (.cells z r)).heap[w.heap.size + 1 + 1]? = some (.cells z r (0, 0)) := boxes3_at w x y z t s r
set_option maxRecDepth 4096 in
set_option maxHeartbeats 8000000 in
theorem ref09_mul (na : Bool) (a : Option Addr) (n cap : Nat) (la : List Nat) (b : Option Addr) (m cap' : Nat) (lb : List Nat) (nb : Bool) (a' : Option Addr) (n' c' : Nat) (la' : List Nat) (b' : Option Addr) (m' d' : Nat) (lb' : List Nat) (w : World) (ha : Wd w a n cap la) (hb : Wd w b m cap' lb) (ha' : Wd w a' n' c' la') (hb' : Wd w b' m' d' lb') (hn : n ≤ 40000) (hm : m ≤ 40000) (hn' : n' ≤ 40000) (hm' : m' ≤ 40000) :
    Calls Tryz.prog 65 #[frV na a n cap b m cap', frV nb a' n' c' b' m' d'] w (LstQ (qval na (val la) (val lb) * qval nb (val la') (val lb')) w) := by
  have HB := Lib.hid (below_then (below_then (below_alloc w (.cells #[.bool na, .slice a n cap, .slice b m cap'] 44)) (below_alloc _ (.cells #[.bool nb, .slice a' n' c', .slice b' m' d'] 44))) (below_alloc _ (.cells #[.bool false, .slice none 0 0, .slice none 0 0] 44)))
  have HA := Lib.hid (ha.later HB.out)
  have HC := Lib.hid (hb.later HB.out)
  have HA' := Lib.hid (ha'.later HB.out)
  have HC' := Lib.hid (hb'.later HB.out)
  obtain ⟨hx1, hx2, hx3⟩ := boxes3_at9 w #[.bool na, .slice a n cap, .slice b m cap'] #[.bool nb, .slice a' n' c', .slice b' m' d'] #[.bool false, .slice none 0 0, .slice none 0 0] 44 44 44
  have HX := Lib.hid hx1
  have HY := Lib.hid hx2
  have HR := Lib.hid hx3
  have ha1 := ha.trim_le
  have hb1 := hb.trim_le
  have ha2 := ha'.trim_le
  have hb2 := hb'.trim_le
  have hW1 : w.heap.size + 1 + 1 < (((w.alloc (.cells #[.bool na, .slice a n cap, .slice b m cap'] 44)).alloc (.cells #[.bool nb, .slice a' n' c', .slice b' m' d'] 44)).alloc (.cells #[.bool false, .slice none 0 0, .slice none 0 0] 44)).heap.size := (Array.getElem?_eq_some_iff.1 hx3).1
  clear ha hb ha' hb' hx1 hx2 hx3
  have zl1 := dg_mul_length (val la) (val la')
  have zl2 := dg_mul_length (val lb) (val lb')
  have HV1 : Hid (val (dg (val la * val la')) = val la * val la') := Lib.hid (val_dg _)
  have HV2 : Hid (val (dg (val lb * val lb')) = val lb * val lb') := Lib.hid (val_dg _)
  go_enter Tryz.func65, Tryz.ntmps65
  unfold frV
  go_wp2
  generalize (((w.alloc (.cells #[.bool na, .slice a n cap, .slice b m cap'] 44)).alloc (.cells #[.bool nb, .slice a' n' c', .slice b' m' d'] 44)).alloc (.cells #[.bool false, .slice none 0 0, .slice none 0 0] 44)) = W at *
  replace HB := Lib.hid (below_then HB.out ((Below.refl _ _).drew : Below W.heap.size W W.drew))
  replace HX : Hid (W.drew.heap[w.heap.size]? = _) := Lib.hid HX.out
  replace HY : Hid (W.drew.heap[w.heap.size + 1]? = _) := Lib.hid HY.out
  replace HR : Hid (W.drew.heap[w.heap.size + 1 + 1]? = some (.cells #[.bool false, .slice none 0 0, .slice none 0 0] 44 (0, 0))) := Lib.hid HR.out
  replace HA := Lib.hid (HA.out.later ((Below.refl _ _).drew : Below W.heap.size W W.drew))
  replace HC := Lib.hid (HC.out.later ((Below.refl _ _).drew : Below W.heap.size W W.drew))
  replace HA' := Lib.hid (HA'.out.later ((Below.refl _ _).drew : Below W.heap.size W W.drew))
  replace HC' := Lib.hid (HC'.out.later ((Below.refl _ _).drew : Below W.heap.size W W.drew))
  have pSn := cells_3_3 HX.out HY.out
  go_region_held3 (fun w' => w'.cell? ⟨w.heap.size, 0, none⟩ = some (.bool na) ∧ w'.cell? ⟨w.heap.size, 1, none⟩ = some (.slice a n cap) ∧ w'.cell? ⟨w.heap.size, 2, none⟩ = some (.slice b m cap') ∧ w'.cell? ⟨w.heap.size + 1, 0, none⟩ = some (.bool nb) ∧ w'.cell? ⟨w.heap.size + 1, 1, none⟩ = some (.slice a' n' c') ∧ w'.cell? ⟨w.heap.size + 1, 2, none⟩ = some (.slice b' m' d')) (first | exact pSn | exact pSb _ _ _)
    (first
    | (go_at_call 99; (first
      | (have pm1 := pM1; refine (ref04_mul b m cap' lb b' m' d' lb' _ HC.out HC'.out (by omega) (by omega)).mono ?_; rintro e wp2 ⟨a2, n2, c2, rfl, h2, b⟩; replace HB := Lib.hid (below_then HB.out b); replace HX := Lib.hid (blk_later HX.out b); replace HY := Lib.hid (blk_later HY.out b); replace HR := Lib.hid (blk_later HR.out b); replace HA := Lib.hid (HA.out.later b); replace HC := Lib.hid (HC.out.later b); replace HA' := Lib.hid (HA'.out.later b); replace HC' := Lib.hid (HC'.out.later b); replace R1 := Lib.hid (R1.out.later b); have R2 := Lib.hid h2; have hn2 : n2 ≤ 90000 := (by have := h2.len; omega); clear h2; clear b; clear pSn; have pSn := cells_3_3 HX.out HY.out; clear pM1 pm1; have pM2 := True.intro)
      | (refine (ref04_mul a n cap la a' n' c' la' _ HA.out HA'.out (by omega) (by omega)).mono ?_; rintro e wp1 ⟨a1, n1, c1, rfl, h1, b⟩; replace HB := Lib.hid (below_then HB.out b); replace HX := Lib.hid (blk_later HX.out b); replace HY := Lib.hid (blk_later HY.out b); replace HR := Lib.hid (blk_later HR.out b); replace HA := Lib.hid (HA.out.later b); replace HC := Lib.hid (HC.out.later b); replace HA' := Lib.hid (HA'.out.later b); replace HC' := Lib.hid (HC'.out.later b); have R1 := Lib.hid h1; have hn1 : n1 ≤ 90000 := (by have := h1.len; omega); clear h1; clear b; clear pSn; have pSn := cells_3_3 HX.out HY.out; have pM1 := True.intro)))
    | (go_at_call 26; (first
      | (have pm2 := pM2; refine (ref09_norm _ a1 n1 c1 _ a2 n2 c2 _ _ R1.out R2.out (by omega) (by omega)).mono ?_; rintro e wp3 ⟨a3, n3, c3, a4, n4, c4, rfl, h3, h4, b⟩; replace HB := Lib.hid (below_then HB.out b); replace HX := Lib.hid (blk_later HX.out b); replace HY := Lib.hid (blk_later HY.out b); replace HR := Lib.hid (blk_later HR.out b); replace HA := Lib.hid (HA.out.later b); replace HC := Lib.hid (HC.out.later b); replace HA' := Lib.hid (HA'.out.later b); replace HC' := Lib.hid (HC'.out.later b); clear R1; clear R2; have R3 := Lib.hid h3; have R4 := Lib.hid h4; clear h3 h4; obtain ⟨r0, r1, r2⟩ := cells_3 HR.out; have f0 := blk_free HR.out 0; have f1 := blk_free HR.out 1; have f2 := blk_free HR.out 2; have pSb := fun u v q => cells_3_3 (blk_far3 (g := w.heap.size + 1 + 1) HX.out (by omega) u v q) (blk_far3 (g := w.heap.size + 1 + 1) HY.out (by omega) u v q); unfold frV; clear b; clear pSn; have pSn := cells_3_3 HX.out HY.out; clear pM2 pm2; have pM3 := True.intro))))
  have HQ : Hid (qval (!(na == nb)) (val (dg (val la * val la'))) (val (dg (val lb * val lb'))) = qval na (val la) (val lb) * qval nb (val la') (val lb')) := Lib.hid (by rw [HV1.out, HV2.out]; exact qval_mul _ _ _ _ _ _)
  rw [HQ.out] at R3 R4
  rw [HQ.out]
  generalize qval na (val la) (val lb) * qval nb (val la') (val lb') = q at *
  have HG := Lib.hid (blk_set3 HR.out (.bool (zneg q.num)) (.slice a3 n3 c3) (.slice a4 n4 c4))
  have HL := Lib.hid (below_set3 HB.out (show w.heap.size ≤ w.heap.size + 1 + 1 by omega) (.bool (zneg q.num)) (.slice a3 n3 c3) (.slice a4 n4 c4))
  have HW1 := Lib.hid (R3.out.stored3 HR.out (zneg q.num) a3 n3 c3 (.slice a4 n4 c4))
  have HW2 := Lib.hid (R4.out.stored3 HR.out (zneg q.num) a3 n3 c3 (.slice a4 n4 c4))
  go_wp2
  refine bodyPost_ret (results_cell_row Tryz.results65 _ _ (w.heap.size + 1 + 1) 44 #[.bool (zneg q.num), .slice a3 n3 c3, .slice a4 n4 c4] (0, 0) _ rfl HG.out Tryz.underlying44 rfl (by kernel_rfl)) rfl ?_
  exact ⟨_, _, _, _, _, _, rfl, HW1.out, HW2.out, HL.out⟩
end Go.Proofs.YtjeigdlhjghinaaGreatDoor

/-
  The contract of the document's answer for layer 8: Floor, where both signs are alike.
-/
namespace Go.Proofs.YtjeigdlhjghinaaGreatDoor
open Go.RowKit

end Go.Proofs.YtjeigdlhjghinaaGreatDoor

/-
  The contract of the document's answer for layer 8: Floor, where nothing is left.
-/
namespace Go.Proofs.YtjeigdlhjghinaaGreatDoor
open Go.RowKit

end Go.Proofs.YtjeigdlhjghinaaGreatDoor

/-
  The contract of the document's answer for layer 8: Floor, where something is left.
-/
namespace Go.Proofs.YtjeigdlhjghinaaGreatDoor
open Go.RowKit

end Go.Proofs.YtjeigdlhjghinaaGreatDoor

/-
  The contracts of the document's answer for layer 7: Read.
-/
namespace Go.Proofs.YtjeigdlhjghinaaGreatDoor
open Go.RowKit

theorem Wd.ofCell7 {w : World} {g x : Nat} (h : w.cell? ⟨g, 0, none⟩ = some (.int .u32 (x : Int))) (hx : x < 4294967296) : Wd w (some ⟨g, 0, none⟩) 1 1 [x] := by
  refine ⟨rfl, Nat.le_refl _, by omega, okw_cons.2 ⟨hx, okw_nil⟩, fun e => (by cases e), .inr ⟨g, 0, rfl, fun j hj => ?_⟩⟩
  obtain rfl : j = 0 := by omega
  exact h
theorem more7 {w w1 : World} (h : Below w.heap.size w w1) (o : Obj) : Below w.heap.size w (w1.alloc o) := below_then h (below_alloc _ _)
theorem drawn7 {w w1 : World} (h : Below w.heap.size w w1) : Below w.heap.size w w1.drew := h.drew
theorem cell7_newest {w : World} {g x : Nat} {t : TypeId} (hg : g = w.heap.size) : (w.alloc (.cells #[.int .u32 (x : Int)] t)).drew.cell? ⟨g, 0, none⟩ = some (.int .u32 (x : Int)) := by
  subst hg
  show (w.alloc (.cells #[.int .u32 (x : Int)] t)).cell? ⟨w.heap.size, 0, none⟩ = _
  simp
theorem cell7_grown {w : World} {a : Addr} {v : Value} (o : Obj) (h : w.cell? a = some v) : (w.alloc o).drew.cell? a = some v := cell_later (below_alloc w o).drew h
set_option maxRecDepth 4096 in
set_option maxHeartbeats 8000000 in
theorem ref07_read (l : List UInt8) (w : World) (hl : l.length ≤ 100) (hd : Hid (alldig l)) :
    Calls Tryz.prog 114 #[.string (bs l)] w (Lst (dg (readV l)) w) := by
  have hsz := bs_size l
  have HN : Hid (∀ k, k ≤ l.length → (dg (readV (l.take k))).length ≤ 20) := Lib.hid (fun k hk => by
    apply dg_length_le
    have h1 := readV_lt (l := l.take k) (fun x hx => hd.out x (List.mem_of_mem_take hx))
    have h2 : (10 : Nat) ^ (l.take k).length ≤ 10 ^ 100 := Nat.pow_le_pow_right (by decide) (by rw [List.length_take]; omega)
    have h3 : (10 : Nat) ^ 100 ≤ 4294967296 ^ 20 := by decide
    omega)
  go_enter Tryz.func114, Tryz.ntmps114
  go_wp2
  go_loopw [3, 4] (fun v i wr => ∃ (k : Nat) (a : Option Addr) (n c : Nat), k ≤ l.length ∧ i = .int .i64 k ∧ v = .slice a n c ∧ Hid (Wd wr a n c (dg (readV (l.take k)))) ∧ Below w.heap.size w wr) (fun _ i _ => l.length - (intOf i).toNat)
  case atStart => exact ⟨0, _, _, _, by omega, rfl, rfl, Lib.hid (by rw [List.take_zero]; show Wd _ _ _ _ (dg 0); rw [dg_zero]; exact Wd.empty _ _ _ (by omega)), below_alloc _ _⟩
  case round =>
    obtain ⟨k, a, n, c, hk, rfl, rfl, HW, hB⟩ := hrel
    have hn : n ≤ 20 := by rw [← HW.out.len]; exact HN.out k hk
    by_cases hlt : k < l.length
    · have hki : (k : Int) < (l.length : Int) := by omega
      have hget := bs_get l k hlt (by rw [bs_size]; exact hlt)
      have hdk := alldig_getD hd.out hlt
      have Hv := Lib.hid (readV_take hlt)
      generalize readV (l.take k) = v at *
      generalize (l.getD k 0).toNat = x at *
      obtain ⟨d, hdd⟩ : ∃ d : Nat, (x : Int) - 48 = (d : Int) := ⟨x - 48, by omega⟩
      have Hd : Hid (x - 48 = d) := Lib.hid (by omega)
      have hdw : d < 4294967296 := by omega
      have hBr := Lib.hid hB
      have HX : Hid (val (dg v) * val [10] + val [d] = readV (l.take (k + 1))) := Lib.hid (by rw [val_dg, Hv.out, Hd.out]; simp [val])
      have HL : Hid ((dg (val (dg v) * val [10])).length ≤ 21) := Lib.hid (by
        have h1 := dg_mul_length (val (dg v)) (val [10])
        have h2 := HW.out.len
        have h3 := dg_length_val_le (l := [10]) (okw_cons.2 ⟨by decide, okw_nil⟩)
        rw [val_dg] at h1 ⊢
        simp only [List.length_cons, List.length_nil] at h3
        omega)
      clear hB
      have hw1 : IntKind.u32.wrap (x : Int) = (x : Int) := by rw [IntKind.wrap_u32]; omega
      have hw2 : IntKind.u32.wrap (d : Int) = (d : Int) := by rw [IntKind.wrap_u32]; omega
      go_wp2
      go_region_with (first
        | (go_at_call 99; (refine (ref04_mul a n c (dg v) _ 1 1 [10] _ ?q1 (Wd.ofCell7 ?q2 (by omega)) ?q3 ?q4).mono ?_); (case q1 => (refine HW.out.later ?_); (repeat (first | (exact Below.refl _ _) | (refine more7 ?_ _) | (refine drawn7 ?_)))); (case q2 => first | (simp; done) | ((refine cell7_newest ?_); simp; done) | ((refine cell7_grown _ ?_); simp; done)); (case q3 => omega); (case q4 => omega); rintro e w1 ⟨a1, n1, c1, rfl, h1, b1⟩; have hBw : Below wr.heap.size wr w1 := ?q5; rotate_left; (case q5 => (refine below_then ?_ b1); (repeat (first | (exact Below.refl _ _) | (refine more7 ?_ _) | (refine drawn7 ?_)))))
        | (go_at_call 69; (refine (ref02_add a1 n1 c1 (dg (val (dg v) * val [10])) _ 1 1 [d] _ ?q1 (Wd.ofCell7 ?q2 hdw) ?q3 ?q4).mono ?_); (case q1 => first | (exact h1) | (exact h1.later (below_alloc _ _))); (case q2 => first | (simp; done) | ((refine cell_later b1 ?_); first | (simp; done) | ((refine cell7_newest ?_); simp; done) | ((refine cell7_grown _ ?_); simp; done))); (case q3 => have h9 := h1.len; have h8 := HL.out; omega); (case q4 => omega); rintro e w2 ⟨a2, n2, c2, rfl, h2, b2⟩))
      all_goals (
        rw [val_dg, HX.out] at h2
        have HF : Hid (Wd w2 a2 n2 c2 (dg (readV (l.take (k + 1))))) := Lib.hid h2
        have hcc : Below wr.heap.size wr w2 := by
          first
          | exact below_then hBw b2
          | exact below_then (more7 hBw _) b2
        have Hcc := Lib.hid (below_then hBr.out hcc)
        clear h2 b2 hcc h1 b1 hBw
        go_wp2
        go_roundw
        case rel => exact ⟨k + 1, a2, n2, c2, by omega, by go_num, rfl, HF, Hcc.out⟩
        case measure => simp [intOf]; omega)
    · have htk : l.take k = l := List.take_of_length_le (by omega)
      rw [htk] at HW
      clear htk
      go_wp2
      go_ret
      exact ⟨a, n, c, rfl, HW.out, hB⟩
end Go.Proofs.YtjeigdlhjghinaaGreatDoor

/-
  The contracts of the document's answer for layer 8: Read.
-/
namespace Go.Proofs.YtjeigdlhjghinaaGreatDoor
open Go.RowKit

theorem results_row_tmp {P : Program} {fn : Func} {p u : Tmp} {ty : TypeId} (h : fn.results = #[.cell p ty, .tmp u]) (tmps : Array Value) (w : World) (g : Nat) (t : TypeId) (cs : Array Value) (fr : Nat × Nat) (d : TypeDesc)
    (hp : tmps.getD p undef = .pointer (some ⟨g, 0, none⟩)) (hg : w.heap[g]? = some (.cells cs t fr))
    (hu : P.underlying ty = some d) (hd : (match d with | .struct _ | .array _ _ => true | _ => false) = true) (hi : (P.info? ty).map (·.size) = some cs.size) :
    (results fn tmps).run P w = .ok (.tuple #[.agg cs, tmps.getD u undef]) w := by
  rw [results_cell_tmp h, hp]
  simp [asAddr, run_loadVar_row w g t ty cs fr d hg hu hd hi]
/-- A whole number and a place come back. -/
def ReadZ (z : Int) (i : Int) (w : World) (e : Ending) (w' : World) : Prop :=
  ∃ (a : Option Addr) (n cap : Nat), e = .returned (.tuple #[whV (zneg z) a n cap, .int .i64 i]) ∧ Wd w' a n cap (dg z.natAbs) ∧ Below w.heap.size w w'
set_option maxRecDepth 4096 in
set_option maxHeartbeats 1000000 in
theorem ref08_read_nil_bad  (w : World) (hlen : (([] : List UInt8)).length ≤ 1000) (hw : Hid (0 ≤ wrongI (([] : List UInt8)))) :
    Calls Tryz.prog 112 #[.string (bs (([] : List UInt8)))] w (ReadZ 0 (0 + wrongI (([] : List UInt8))) w) := by
  have hs0 := bs_size []
  have hx0 := bs_all []
  simp only [List.length_nil] at hs0 hx0
  have hwr := @wrongFrom_range (([] : List UInt8)) 0
  have hwi : wrongI (([] : List UInt8)) ≤ 10000 := by unfold wrongI; split <;> omega
  have hwj : -1 ≤ wrongI (([] : List UInt8)) := by unfold wrongI; split <;> omega
  clear hwr
  go_enter Tryz.func112, Tryz.ntmps112
  go_wp2_with fail
  refine (ref07_wrong (([] : List UInt8)) _ (by omega)).mono ?_
  rintro e w' ⟨rfl, rfl⟩
  have hw0 := hw.out
  generalize wrongI (([] : List UInt8)) = wi at *
  have hwz := IntWalk.wrap64_in wi (by omega)
  have HG2 := Lib.hid (blk_new w #[.bool false, .slice none 0 0] 126)
  go_wp2
  refine bodyPost_ret (results_row_tmp Tryz.results112 _ _ w.heap.size 126 #[.bool false, .slice none 0 0] (0, 0) _ rfl HG2.out Tryz.underlying126 rfl (by kernel_rfl)) rfl ?_
  exact ⟨none, 0, 0, by simp [whV, zneg], by rw [show (0 : Int).natAbs = 0 from rfl, dg_zero]; exact Wd.ofNil _, below_alloc _ _⟩
set_option maxRecDepth 4096 in
set_option maxHeartbeats 1000000 in
theorem ref08_read_plain_ok (x : UInt8) (r : List UInt8) (hx : x.toNat ≠ 45) (w : World) (hlen : (x :: r).length ≤ 1000) (hw : Hid (wrongI (x :: r) < 0)) :
    Calls Tryz.prog 112 #[.string (bs (x :: r))] w (ReadZ (zval false (readV (x :: r))) (-1) w) := by
  have hs0 := bs_size (x :: r)
  have hx0 := bs_all (x :: r)
  have hget := bs_get (x :: r) 0 (by simp) (by rw [bs_size]; simp)
  have hget2 : ((x :: r).getD 0 0).toNat = x.toNat := rfl
  rw [hget2] at hget
  simp only [List.length_cons] at hs0 hx0
  have hwr := @wrongFrom_range (x :: r) 0
  have hwi : wrongI (x :: r) ≤ 10000 := by unfold wrongI; split <;> omega
  have hwj : -1 ≤ wrongI (x :: r) := by unfold wrongI; split <;> omega
  clear hwr
  have hok := wrongI_none hw.out
  have HD := Lib.hid hok.1
  have hl60 := hok.2.2
  have HRL : Hid ((dg (readV (x :: r))).length ≤ 20) := Lib.hid (dg_length_le (Nat.lt_of_lt_of_le (readV_lt hok.1) (Nat.le_trans (Nat.pow_le_pow_right (by decide) hok.2.2) (by decide))))
  clear hok
  go_enter Tryz.func112, Tryz.ntmps112
  go_wp2_with fail
  refine (ref07_wrong (x :: r) _ (by omega)).mono ?_
  rintro e w' ⟨rfl, rfl⟩
  have hw0 := hw.out
  generalize wrongI (x :: r) = wi at *
  go_wp2_with fail
  refine (ref07_read (x :: r) _ (by omega) HD).mono ?_
  rintro e w1 ⟨a1, n1, c1, rfl, h1, b1⟩
  have hn1 : n1 ≤ 20 := by rw [← h1.len]; exact HRL.out
  have hR1 := box_at w w1 _ _ b1
  have H1 := Lib.hid h1
  have hB1 := Lib.hid (below_then (below_alloc _ _) b1)
  have HR1 := Lib.hid hR1
  clear h1 b1 hR1
  go_wp2_with fail
  refine (ref08_norm false _ _ _ _ _ H1.out (by omega)).mono ?_
  rintro e w2 ⟨a2, n2, c2, rfl, h2, b2⟩
  rw [val_dg] at h2 ⊢
  have hR := blk_later HR1.out b2
  generalize zval false (readV (x :: r)) = z at *
  have hR0 := blk_cell hR 0
  have hRc := blk_cell hR 1
  have hF0 := blk_free hR 0
  have hF1 := blk_free hR 1
  have HS2 := Lib.hid (h2.stored2 hR (zneg z) (.slice a2 n2 c2))
  have HG2 := Lib.hid (blk_set2 hR (.bool (zneg z)) (.slice a2 n2 c2))
  have HB2 := Lib.hid (below_set2 (below_then hB1.out b2) (show w.heap.size ≤ w.heap.size by omega) (.bool (zneg z)) (.slice a2 n2 c2))
  clear hR h2 b2
  simp only [List.getElem?_toArray, List.getElem?_cons_zero, List.getElem?_cons_succ] at hR0 hRc
  unfold whV
  go_wp2
  refine bodyPost_ret (results_row_tmp Tryz.results112 _ _ w.heap.size 126 #[.bool (zneg z), .slice a2 n2 c2] (0, 0) _ rfl HG2.out Tryz.underlying126 rfl (by kernel_rfl)) rfl ?_
  exact ⟨a2, n2, c2, rfl, HS2.out, HB2.out⟩
set_option maxRecDepth 4096 in
set_option maxHeartbeats 1000000 in
theorem ref08_read_plain_bad (x : UInt8) (r : List UInt8) (hx : x.toNat ≠ 45) (w : World) (hlen : (x :: r).length ≤ 1000) (hw : Hid (0 ≤ wrongI (x :: r))) :
    Calls Tryz.prog 112 #[.string (bs (x :: r))] w (ReadZ 0 (0 + wrongI (x :: r)) w) := by
  have hs0 := bs_size (x :: r)
  have hx0 := bs_all (x :: r)
  have hget := bs_get (x :: r) 0 (by simp) (by rw [bs_size]; simp)
  have hget2 : ((x :: r).getD 0 0).toNat = x.toNat := rfl
  rw [hget2] at hget
  simp only [List.length_cons] at hs0 hx0
  have hwr := @wrongFrom_range (x :: r) 0
  have hwi : wrongI (x :: r) ≤ 10000 := by unfold wrongI; split <;> omega
  have hwj : -1 ≤ wrongI (x :: r) := by unfold wrongI; split <;> omega
  clear hwr
  go_enter Tryz.func112, Tryz.ntmps112
  go_wp2_with fail
  refine (ref07_wrong (x :: r) _ (by omega)).mono ?_
  rintro e w' ⟨rfl, rfl⟩
  have hw0 := hw.out
  generalize wrongI (x :: r) = wi at *
  have hwz := IntWalk.wrap64_in wi (by omega)
  have HG2 := Lib.hid (blk_new w #[.bool false, .slice none 0 0] 126)
  go_wp2
  refine bodyPost_ret (results_row_tmp Tryz.results112 _ _ w.heap.size 126 #[.bool false, .slice none 0 0] (0, 0) _ rfl HG2.out Tryz.underlying126 rfl (by kernel_rfl)) rfl ?_
  exact ⟨none, 0, 0, by simp [whV, zneg], by rw [show (0 : Int).natAbs = 0 from rfl, dg_zero]; exact Wd.ofNil _, below_alloc _ _⟩
set_option maxRecDepth 4096 in
set_option maxHeartbeats 1000000 in
theorem ref08_read_minus_ok (x : UInt8) (r : List UInt8) (hx : x.toNat = 45) (w : World) (hlen : (r).length ≤ 1000) (hw : Hid (wrongI (r) < 0)) :
    Calls Tryz.prog 112 #[.string (bs (x :: r))] w (ReadZ (zval true (readV (r))) (-1) w) := by
  have hs0 := bs_size (x :: r)
  have hx0 := bs_rest x r
  have hget := bs_get (x :: r) 0 (by simp) (by rw [bs_size]; simp)
  have hget2 : ((x :: r).getD 0 0).toNat = x.toNat := rfl
  rw [hget2] at hget
  simp only [List.length_cons] at hs0 hx0
  have hwr := @wrongFrom_range (r) 0
  have hwi : wrongI (r) ≤ 10000 := by unfold wrongI; split <;> omega
  have hwj : -1 ≤ wrongI (r) := by unfold wrongI; split <;> omega
  clear hwr
  have hok := wrongI_none hw.out
  have HD := Lib.hid hok.1
  have hl60 := hok.2.2
  have HRL : Hid ((dg (readV (r))).length ≤ 20) := Lib.hid (dg_length_le (Nat.lt_of_lt_of_le (readV_lt hok.1) (Nat.le_trans (Nat.pow_le_pow_right (by decide) hok.2.2) (by decide))))
  clear hok
  go_enter Tryz.func112, Tryz.ntmps112
  go_wp2_with fail
  refine (ref07_wrong (r) _ (by omega)).mono ?_
  rintro e w' ⟨rfl, rfl⟩
  have hw0 := hw.out
  generalize wrongI (r) = wi at *
  go_wp2_with fail
  refine (ref07_read (r) _ (by omega) HD).mono ?_
  rintro e w1 ⟨a1, n1, c1, rfl, h1, b1⟩
  have hn1 : n1 ≤ 20 := by rw [← h1.len]; exact HRL.out
  have hR1 := box_at w w1 _ _ b1
  have H1 := Lib.hid h1
  have hB1 := Lib.hid (below_then (below_alloc _ _) b1)
  have HR1 := Lib.hid hR1
  clear h1 b1 hR1
  go_wp2_with fail
  refine (ref08_norm true _ _ _ _ _ H1.out (by omega)).mono ?_
  rintro e w2 ⟨a2, n2, c2, rfl, h2, b2⟩
  rw [val_dg] at h2 ⊢
  have hR := blk_later HR1.out b2
  generalize zval true (readV (r)) = z at *
  have hR0 := blk_cell hR 0
  have hRc := blk_cell hR 1
  have hF0 := blk_free hR 0
  have hF1 := blk_free hR 1
  have HS2 := Lib.hid (h2.stored2 hR (zneg z) (.slice a2 n2 c2))
  have HG2 := Lib.hid (blk_set2 hR (.bool (zneg z)) (.slice a2 n2 c2))
  have HB2 := Lib.hid (below_set2 (below_then hB1.out b2) (show w.heap.size ≤ w.heap.size by omega) (.bool (zneg z)) (.slice a2 n2 c2))
  clear hR h2 b2
  simp only [List.getElem?_toArray, List.getElem?_cons_zero, List.getElem?_cons_succ] at hR0 hRc
  unfold whV
  go_wp2
  refine bodyPost_ret (results_row_tmp Tryz.results112 _ _ w.heap.size 126 #[.bool (zneg z), .slice a2 n2 c2] (0, 0) _ rfl HG2.out Tryz.underlying126 rfl (by kernel_rfl)) rfl ?_
  exact ⟨a2, n2, c2, rfl, HS2.out, HB2.out⟩
set_option maxRecDepth 4096 in
set_option maxHeartbeats 1000000 in
theorem ref08_read_minus_bad (x : UInt8) (r : List UInt8) (hx : x.toNat = 45) (w : World) (hlen : (r).length ≤ 1000) (hw : Hid (0 ≤ wrongI (r))) :
    Calls Tryz.prog 112 #[.string (bs (x :: r))] w (ReadZ 0 (1 + wrongI (r)) w) := by
  have hs0 := bs_size (x :: r)
  have hx0 := bs_rest x r
  have hget := bs_get (x :: r) 0 (by simp) (by rw [bs_size]; simp)
  have hget2 : ((x :: r).getD 0 0).toNat = x.toNat := rfl
  rw [hget2] at hget
  simp only [List.length_cons] at hs0 hx0
  have hwr := @wrongFrom_range (r) 0
  have hwi : wrongI (r) ≤ 10000 := by unfold wrongI; split <;> omega
  have hwj : -1 ≤ wrongI (r) := by unfold wrongI; split <;> omega
  clear hwr
  go_enter Tryz.func112, Tryz.ntmps112
  go_wp2_with fail
  refine (ref07_wrong (r) _ (by omega)).mono ?_
  rintro e w' ⟨rfl, rfl⟩
  have hw0 := hw.out
  generalize wrongI (r) = wi at *
  have hwz := IntWalk.wrap64_in wi (by omega)
  have HG2 := Lib.hid (blk_new w #[.bool false, .slice none 0 0] 126)
  go_wp2
  refine bodyPost_ret (results_row_tmp Tryz.results112 _ _ w.heap.size 126 #[.bool false, .slice none 0 0] (0, 0) _ rfl HG2.out Tryz.underlying126 rfl (by kernel_rfl)) rfl ?_
  exact ⟨none, 0, 0, by simp [whV, zneg], by rw [show (0 : Int).natAbs = 0 from rfl, dg_zero]; exact Wd.ofNil _, below_alloc _ _⟩
end Go.Proofs.YtjeigdlhjghinaaGreatDoor

/-
  The contracts of the document's answer for layer 8, in whole numbers; and its quotient is the one that is rounded down.
-/
namespace Go.Proofs.YtjeigdlhjghinaaGreatDoor
open Go.RowKit

theorem ref08_text_z (neg : Bool) (a : Option Addr) (n cap : Nat) (l : List Nat) (z : Int) (w : World) (h : Wd w a n cap l) (hn : n ≤ 100000) (hz : zval neg (val l) = z) : Calls Tryz.prog 122 #[whV neg a n cap] w (Gives (.string (bs (ztxt z))) w) := by
  subst hz; exact ref08_text neg a n cap l w h hn
theorem ref08_add_z (na : Bool) (a : Option Addr) (n cap : Nat) (la : List Nat) (x : Int) (nb : Bool) (b : Option Addr) (m cap' : Nat) (lb : List Nat) (y : Int) (w : World) (ha : Wd w a n cap la) (hb : Wd w b m cap' lb) (hn : n ≤ 100000) (hm : m ≤ 100000) (hx : zval na (val la) = x) (hy : zval nb (val lb) = y) :
    Calls Tryz.prog 101 #[whV na a n cap, whV nb b m cap'] w (LstZ (x + y) w) := by
  subst hx hy; exact ref08_add na a n cap la nb b m cap' lb w ha hb hn hm
end Go.Proofs.YtjeigdlhjghinaaGreatDoor

/-
  The contract of the document's answer for layer 9: Add.
-/
namespace Go.Proofs.YtjeigdlhjghinaaGreatDoor
open Go.RowKit

theorem cells_3_3_2 {w : World} {A0 A1 A2 : Nat} {c0_0 c0_1 c0_2 c1_0 c1_1 c1_2 c2_0 c2_1 : Value} {t0 t1 t2 : TypeId} (h0 : w.heap[A0]? = some (.cells #[c0_0, c0_1, c0_2] t0 (0, 0))) (h1 : w.heap[A1]? = some (.cells #[c1_0, c1_1, c1_2] t1 (0, 0))) (h2 : w.heap[A2]? = some (.cells #[c2_0, c2_1] t2 (0, 0))) : w.cell? ⟨A0, 0, none⟩ = some c0_0 ∧ w.cell? ⟨A0, 1, none⟩ = some c0_1 ∧ w.cell? ⟨A0, 2, none⟩ = some c0_2 ∧ w.cell? ⟨A1, 0, none⟩ = some c1_0 ∧ w.cell? ⟨A1, 1, none⟩ = some c1_1 ∧ w.cell? ⟨A1, 2, none⟩ = some c1_2 ∧ w.cell? ⟨A2, 0, none⟩ = some c2_0 ∧ w.cell? ⟨A2, 1, none⟩ = some c2_1 := ⟨blk_cell h0 0, blk_cell h0 1, blk_cell h0 2, blk_cell h1 0, blk_cell h1 1, blk_cell h1 2, blk_cell h2 0, blk_cell h2 1⟩
theorem cells_3_3_2_2_3 {w : World} {A0 A1 A2 A3 A4 : Nat} {c0_0 c0_1 c0_2 c1_0 c1_1 c1_2 c2_0 c2_1 c3_0 c3_1 c4_0 c4_1 c4_2 : Value} {t0 t1 t2 t3 t4 : TypeId} (h0 : w.heap[A0]? = some (.cells #[c0_0, c0_1, c0_2] t0 (0, 0))) (h1 : w.heap[A1]? = some (.cells #[c1_0, c1_1, c1_2] t1 (0, 0))) (h2 : w.heap[A2]? = some (.cells #[c2_0, c2_1] t2 (0, 0))) (h3 : w.heap[A3]? = some (.cells #[c3_0, c3_1] t3 (0, 0))) (h4 : w.heap[A4]? = some (.cells #[c4_0, c4_1, c4_2] t4 (0, 0))) : w.cell? ⟨A0, 0, none⟩ = some c0_0 ∧ w.cell? ⟨A0, 1, none⟩ = some c0_1 ∧ w.cell? ⟨A0, 2, none⟩ = some c0_2 ∧ w.cell? ⟨A1, 0, none⟩ = some c1_0 ∧ w.cell? ⟨A1, 1, none⟩ = some c1_1 ∧ w.cell? ⟨A1, 2, none⟩ = some c1_2 ∧ w.cell? ⟨A2, 0, none⟩ = some c2_0 ∧ w.cell? ⟨A2, 1, none⟩ = some c2_1 ∧ w.cell? ⟨A3, 0, none⟩ = some c3_0 ∧ w.cell? ⟨A3, 1, none⟩ = some c3_1 ∧ w.cell? ⟨A4, 0, none⟩ = some c4_0 ∧ w.cell? ⟨A4, 1, none⟩ = some c4_1 ∧ w.cell? ⟨A4, 2, none⟩ = some c4_2 := ⟨blk_cell h0 0, blk_cell h0 1, blk_cell h0 2, blk_cell h1 0, blk_cell h1 1, blk_cell h1 2, blk_cell h2 0, blk_cell h2 1, blk_cell h3 0, blk_cell h3 1, blk_cell h4 0, blk_cell h4 1, blk_cell h4 2⟩
theorem qval_add {na nb : Bool} {u v x y : Nat} (hv : v ≠ 0) (hy : y ≠ 0) (s : Int) (hs : s = zval na (u * y) + zval nb (x * v)) : qval (zneg s) s.natAbs (v * y) = qval na u v + qval nb x y := by
  unfold qval
  rw [zval_of, Rat.mkRat_add_mkRat _ _ hv hy, hs]
  congr 1
  unfold zval
  cases na <;> cases nb <;> simp [Int.neg_mul]
theorem later_lst {P : Program} {f : FuncId} {args : Array Value} {v0 v : World} {l : List Nat} (hv : Below v0.heap.size v0 v) (h : Calls P f args v (Lst l v)) :
    Calls P f args v (fun e w' => ∃ (a : Option Addr) (n cap : Nat), e = .returned (.slice a n cap) ∧ Wd w' a n cap l ∧ Below v0.heap.size v0 w' ∧ ∀ (g : Nat) (o : Obj), v.heap[g]? = some o → w'.heap[g]? = some o) :=
  h.mono fun _ _ ⟨a, n, c, he, h1, hb⟩ => ⟨a, n, c, he, h1, below_then hv hb, fun _ _ hg => blk_later hg hb⟩
theorem blk_far2 {w : World} {A g : Nat} {o : Obj} (h : w.heap[A]? = some o) (hne : A ≠ g) (u v : Value) : ((w.setCell ⟨g, 0, none⟩ u).setCell ⟨g, 1, none⟩ v).heap[A]? = some o := blk_apart (blk_apart h hne 0 u) hne 1 v
set_option maxRecDepth 4096 in
set_option maxHeartbeats 8000000 in
theorem ref09_add (na : Bool) (a : Option Addr) (n cap : Nat) (la : List Nat) (b : Option Addr) (m cap' : Nat) (lb : List Nat) (nb : Bool) (a' : Option Addr) (n' c' : Nat) (la' : List Nat) (b' : Option Addr) (m' d' : Nat) (lb' : List Nat) (w : World) (ha : Wd w a n cap la) (hb : Wd w b m cap' lb) (ha' : Wd w a' n' c' la') (hb' : Wd w b' m' d' lb') (hn : n ≤ 20000) (hm : m ≤ 20000) (hn' : n' ≤ 20000) (hm' : m' ≤ 20000) (hd : Hid (val lb ≠ 0)) (hd' : Hid (val lb' ≠ 0)) :
    Calls Tryz.prog 68 #[frV na a n cap b m cap', frV nb a' n' c' b' m' d'] w (LstQ (qval na (val la) (val lb) + qval nb (val la') (val lb')) w) := by
  have HB := Lib.hid (below_then (below_then (below_alloc w (.cells #[.bool na, .slice a n cap, .slice b m cap'] 44)) (below_alloc _ (.cells #[.bool nb, .slice a' n' c', .slice b' m' d'] 44))) (below_alloc _ (.cells #[.bool false, .slice none 0 0, .slice none 0 0] 44)))
  have HA := Lib.hid (ha.later HB.out)
  have HC := Lib.hid (hb.later HB.out)
  have HA' := Lib.hid (ha'.later HB.out)
  have HC' := Lib.hid (hb'.later HB.out)
  obtain ⟨hx1, hx2, hx3⟩ := boxes3_at9 w #[.bool na, .slice a n cap, .slice b m cap'] #[.bool nb, .slice a' n' c', .slice b' m' d'] #[.bool false, .slice none 0 0, .slice none 0 0] 44 44 44
  have HX := Lib.hid hx1
  have HY := Lib.hid hx2
  have HR := Lib.hid hx3
  have ha1 := ha.trim_le
  have hb1 := hb.trim_le
  have ha2 := ha'.trim_le
  have hb2 := hb'.trim_le
  have hW1 : w.heap.size + 1 + 1 < (((w.alloc (.cells #[.bool na, .slice a n cap, .slice b m cap'] 44)).alloc (.cells #[.bool nb, .slice a' n' c', .slice b' m' d'] 44)).alloc (.cells #[.bool false, .slice none 0 0, .slice none 0 0] 44)).heap.size := (Array.getElem?_eq_some_iff.1 hx3).1
  clear ha hb ha' hb' hx1 hx2 hx3
  have zl1 := dg_mul_length (val la) (val lb')
  have zl2 := dg_mul_length (val la') (val lb)
  have zl3 := dg_mul_length (val lb) (val lb')
  obtain ⟨u, hu⟩ : ∃ u, u = val la * val lb' := ⟨_, rfl⟩
  obtain ⟨v, hv⟩ : ∃ v, v = val la' * val lb := ⟨_, rfl⟩
  obtain ⟨s, hs⟩ : ∃ s, s = zval na u + zval nb v := ⟨_, rfl⟩
  have zl4 := zlen_add (zval na u) (zval nb v)
  rw [zval_abs, zval_abs, ← hs] at zl4
  have HU := Lib.hid hu
  have HV := Lib.hid hv
  have HS := Lib.hid hs
  rw [← hu] at zl1
  rw [← hv] at zl2
  have HQ : Hid (qval (zneg s) (val (dg s.natAbs)) (val (dg (val lb * val lb'))) = qval na (val la) (val lb) + qval nb (val la') (val lb')) := Lib.hid (by rw [val_dg, val_dg]; exact qval_add hd.out hd'.out s (by rw [hs, hu, hv]))
  clear hu hv hs
  go_enter Tryz.func68, Tryz.ntmps68
  unfold frV
  go_wp2
  generalize (((w.alloc (.cells #[.bool na, .slice a n cap, .slice b m cap'] 44)).alloc (.cells #[.bool nb, .slice a' n' c', .slice b' m' d'] 44)).alloc (.cells #[.bool false, .slice none 0 0, .slice none 0 0] 44)) = W at *
  go_cut [5] from 8 to 15 (fun pv wx => ∃ (g : Nat) (a1 : Option Addr) (n1 c1 : Nat), pv = .pointer (some ⟨g, 0, none⟩) ∧ n1 ≤ 50000 ∧ Hid (Wd wx a1 n1 c1 (dg u)) ∧ Hid (wx.heap[g]? = some (.cells #[.bool na, .slice a1 n1 c1] 126 (0, 0))) ∧ Hid (Below W.heap.size W wx))
  case first =>
    have HBd : Hid (Below W.heap.size W W.drew) := Lib.hid (Below.refl _ _).drew
    have pSn := cells_3_3 (blk_later HX.out HBd.out) (blk_later HY.out HBd.out)
    have pSa := fun o => cells_3_3 (blk_later HX.out (below_then HBd.out (below_alloc _ o))) (blk_later HY.out (below_then HBd.out (below_alloc _ o)))
    have hW2 : w.heap.size + 1 < W.heap.size := (Array.getElem?_eq_some_iff.1 HY.out).1
    go_region_held3 (fun w' => w'.cell? ⟨w.heap.size, 0, none⟩ = some (.bool na) ∧ w'.cell? ⟨w.heap.size, 1, none⟩ = some (.slice a n cap) ∧ w'.cell? ⟨w.heap.size, 2, none⟩ = some (.slice b m cap') ∧ w'.cell? ⟨w.heap.size + 1, 0, none⟩ = some (.bool nb) ∧ w'.cell? ⟨w.heap.size + 1, 1, none⟩ = some (.slice a' n' c') ∧ w'.cell? ⟨w.heap.size + 1, 2, none⟩ = some (.slice b' m' d')) (first | exact pSn | exact pSa _ | exact rSn | exact rSa _ | exact rSb _ _ _ (by omega) (by omega))
      (first
      | (go_at_call 99; refine (later_lst (v0 := W) ?q0 (ref04_mul a n cap la b' m' d' lb' _ (HA.out.later ?q1) (HC'.out.later ?q2) (by omega) (by omega))).mono ?_; (case q0 => first | exact HBd.out | exact below_then HBd.out (below_alloc _ _)); (case q1 => first | exact HBd.out | exact below_then HBd.out (below_alloc _ _)); (case q2 => first | exact HBd.out | exact below_then HBd.out (below_alloc _ _)); rintro e w2 ⟨a2, n2, c2, rfl, h2, hb2, k2⟩; rw [← HU.out] at h2; have R2 := Lib.hid h2; have hn2 : n2 ≤ 50000 := (by have := h2.len; omega); have HB2 := Lib.hid hb2; have hW3 := hb2.size; (first | (have HN2 := Lib.hid (k2 _ _ (blk_new _ _ _))) | skip); (try (have r0 := blk_cell HN2.out 0; have r1 := blk_cell HN2.out 1; have f0 := blk_free HN2.out 0; have f1 := blk_free HN2.out 1; simp only [List.getElem?_toArray, List.getElem?_cons_zero, List.getElem?_cons_succ] at r0 r1)); have rSn := cells_3_3 (blk_later HX.out hb2) (blk_later HY.out hb2); have rSa := fun o => cells_3_3 (blk_later HX.out (below_then hb2 (below_alloc _ o))) (blk_later HY.out (below_then hb2 (below_alloc _ o))); have rSb := fun g u v hg1 hg2 => cells_3_3 (blk_far2 (g := g) (blk_later HX.out hb2) hg1 u v) (blk_far2 (g := g) (blk_later HY.out hb2) hg2 u v); clear h2 hb2 pSn pSa k2))
    all_goals (
      go_wp2
      go_meet
      first
      | exact ⟨_, a2, n2, c2, rfl, hn2, Lib.hid (R2.out.later (below_alloc _ _)), Lib.hid (blk_new _ _ _), Lib.hid (below_then HB2.out (below_alloc _ _))⟩
      | exact ⟨_, a2, n2, c2, rfl, hn2, Lib.hid (R2.out.stored2 HN2.out _ _), Lib.hid (blk_set2 HN2.out _ _), Lib.hid (below_set2 HB2.out (by omega) _ _)⟩)
  case rest =>
    obtain ⟨g1, a1, n1, c1, rfl, hn1, R1, HP1, HBc⟩ := hcut
    replace HX := Lib.hid (blk_later HX.out HBc.out)
    replace HY := Lib.hid (blk_later HY.out HBc.out)
    replace HR := Lib.hid (blk_later HR.out HBc.out)
    replace HA := Lib.hid (HA.out.later HBc.out)
    replace HC := Lib.hid (HC.out.later HBc.out)
    replace HA' := Lib.hid (HA'.out.later HBc.out)
    replace HC' := Lib.hid (HC'.out.later HBc.out)
    replace HB := Lib.hid (below_then HB.out HBc.out)
    clear HBc
    obtain ⟨V, rfl⟩ : ∃ V, V = wc := ⟨_, rfl⟩
    go_wp2
    go_cut [6] from 16 to 23 (fun pv wx => ∃ (g : Nat) (a1 : Option Addr) (n1 c1 : Nat), pv = .pointer (some ⟨g, 0, none⟩) ∧ n1 ≤ 50000 ∧ Hid (Wd wx a1 n1 c1 (dg v)) ∧ Hid (wx.heap[g]? = some (.cells #[.bool nb, .slice a1 n1 c1] 126 (0, 0))) ∧ Hid (Below V.heap.size V wx))
    case first =>
      have HBd : Hid (Below V.heap.size V V.drew) := Lib.hid (Below.refl _ _).drew
      have pSn := cells_3_3 (blk_later HX.out HBd.out) (blk_later HY.out HBd.out)
      have pSa := fun o => cells_3_3 (blk_later HX.out (below_then HBd.out (below_alloc _ o))) (blk_later HY.out (below_then HBd.out (below_alloc _ o)))
      have hW2 : w.heap.size + 1 < V.heap.size := (Array.getElem?_eq_some_iff.1 HY.out).1
      go_region_held3 (fun w' => w'.cell? ⟨w.heap.size, 0, none⟩ = some (.bool na) ∧ w'.cell? ⟨w.heap.size, 1, none⟩ = some (.slice a n cap) ∧ w'.cell? ⟨w.heap.size, 2, none⟩ = some (.slice b m cap') ∧ w'.cell? ⟨w.heap.size + 1, 0, none⟩ = some (.bool nb) ∧ w'.cell? ⟨w.heap.size + 1, 1, none⟩ = some (.slice a' n' c') ∧ w'.cell? ⟨w.heap.size + 1, 2, none⟩ = some (.slice b' m' d')) (first | exact pSn | exact pSa _ | exact rSn | exact rSa _ | exact rSb _ _ _ (by omega) (by omega))
        (first
        | (go_at_call 99; refine (later_lst (v0 := V) ?q0 (ref04_mul a' n' c' la' b m cap' lb _ (HA'.out.later ?q1) (HC.out.later ?q2) (by omega) (by omega))).mono ?_; (case q0 => first | exact HBd.out | exact below_then HBd.out (below_alloc _ _)); (case q1 => first | exact HBd.out | exact below_then HBd.out (below_alloc _ _)); (case q2 => first | exact HBd.out | exact below_then HBd.out (below_alloc _ _)); rintro e w2 ⟨a2, n2, c2, rfl, h2, hb2, k2⟩; rw [← HV.out] at h2; have R2 := Lib.hid h2; have hn2 : n2 ≤ 50000 := (by have := h2.len; omega); have HB2 := Lib.hid hb2; have hW3 := hb2.size; (first | (have HN2 := Lib.hid (k2 _ _ (blk_new _ _ _))) | skip); (try (have r0 := blk_cell HN2.out 0; have r1 := blk_cell HN2.out 1; have f0 := blk_free HN2.out 0; have f1 := blk_free HN2.out 1; simp only [List.getElem?_toArray, List.getElem?_cons_zero, List.getElem?_cons_succ] at r0 r1)); have rSn := cells_3_3 (blk_later HX.out hb2) (blk_later HY.out hb2); have rSa := fun o => cells_3_3 (blk_later HX.out (below_then hb2 (below_alloc _ o))) (blk_later HY.out (below_then hb2 (below_alloc _ o))); have rSb := fun g u v hg1 hg2 => cells_3_3 (blk_far2 (g := g) (blk_later HX.out hb2) hg1 u v) (blk_far2 (g := g) (blk_later HY.out hb2) hg2 u v); clear h2 hb2 pSn pSa k2))
      all_goals (
        go_wp2
        go_meet
        first
        | exact ⟨_, a2, n2, c2, rfl, hn2, Lib.hid (R2.out.later (below_alloc _ _)), Lib.hid (blk_new _ _ _), Lib.hid (below_then HB2.out (below_alloc _ _))⟩
        | exact ⟨_, a2, n2, c2, rfl, hn2, Lib.hid (R2.out.stored2 HN2.out _ _), Lib.hid (blk_set2 HN2.out _ _), Lib.hid (below_set2 HB2.out (by omega) _ _)⟩)
    case rest =>
      obtain ⟨g2, a2, n2, c2, rfl, hn2, R2, HP2, HBc⟩ := hcut
      replace HX := Lib.hid (blk_later HX.out HBc.out)
      replace HY := Lib.hid (blk_later HY.out HBc.out)
      replace HR := Lib.hid (blk_later HR.out HBc.out)
      replace HP1 := Lib.hid (blk_later HP1.out HBc.out)
      replace HA := Lib.hid (HA.out.later HBc.out)
      replace HC := Lib.hid (HC.out.later HBc.out)
      replace HA' := Lib.hid (HA'.out.later HBc.out)
      replace HC' := Lib.hid (HC'.out.later HBc.out)
      replace R1 := Lib.hid (R1.out.later HBc.out)
      replace HB := Lib.hid (below_then HB.out HBc.out)
      clear HBc
      have HVu : Hid (val (dg u) = u) := Lib.hid (val_dg _)
      have HVv : Hid (val (dg v) = v) := Lib.hid (val_dg _)
      clear HA HA'
      obtain ⟨vk0, vk1, vk2, vk3, vk4, vk5, vk6, vk7, vk8, vk9, vk10, vk11, vk12⟩ := cells_3_3_2_2_3 HX.out HY.out HP1.out HP2.out HR.out
      go_wp2_with fail
      refine (ref08_add_z na a1 n1 c1 _ (zval na u) nb a2 n2 c2 _ (zval nb v) _ R1.out R2.out (by omega) (by omega) (by rw [HVu.out]) (by rw [HVv.out])).mono ?_
      rintro e wv1 ⟨a3, n3, c3, rfl, h3, b⟩
      clear vk0 vk1 vk2 vk3 vk4 vk5 vk6 vk7 vk8 vk9 vk10 vk11 vk12
      replace HB := Lib.hid (below_then HB.out b)
      replace HX := Lib.hid (blk_later HX.out b)
      replace HY := Lib.hid (blk_later HY.out b)
      replace HP1 := Lib.hid (blk_later HP1.out b)
      replace HP2 := Lib.hid (blk_later HP2.out b)
      replace HR := Lib.hid (blk_later HR.out b)
      clear R1
      clear R2
      replace HC := Lib.hid (HC.out.later b)
      replace HC' := Lib.hid (HC'.out.later b)
      clear b
      rw [← HS.out] at h3 ⊢
      have hn3 : n3 ≤ 90000 := by have := h3.len; omega
      have R3 := Lib.hid h3
      clear h3
      have hW9 : w.heap.size + 1 + 1 < wv1.heap.size := (Array.getElem?_eq_some_iff.1 HR.out).1
      unfold whV
      have HP3 : Hid ((World.alloc wv1 (.cells #[.bool (zneg s), .slice a3 n3 c3] 126)).heap[wv1.heap.size]? = some (.cells #[.bool (zneg s), .slice a3 n3 c3] 126 (0, 0))) := Lib.hid (blk_new wv1 _ _)
      replace HB := Lib.hid (below_then HB.out (below_alloc wv1 (.cells #[.bool (zneg s), .slice a3 n3 c3] 126)))
      replace HX := Lib.hid (blk_later HX.out (below_alloc wv1 (.cells #[.bool (zneg s), .slice a3 n3 c3] 126)))
      replace HY := Lib.hid (blk_later HY.out (below_alloc wv1 (.cells #[.bool (zneg s), .slice a3 n3 c3] 126)))
      replace HP1 := Lib.hid (blk_later HP1.out (below_alloc wv1 (.cells #[.bool (zneg s), .slice a3 n3 c3] 126)))
      replace HP2 := Lib.hid (blk_later HP2.out (below_alloc wv1 (.cells #[.bool (zneg s), .slice a3 n3 c3] 126)))
      replace HR := Lib.hid (blk_later HR.out (below_alloc wv1 (.cells #[.bool (zneg s), .slice a3 n3 c3] 126)))
      replace HC := Lib.hid (HC.out.later (below_alloc wv1 (.cells #[.bool (zneg s), .slice a3 n3 c3] 126)))
      replace HC' := Lib.hid (HC'.out.later (below_alloc wv1 (.cells #[.bool (zneg s), .slice a3 n3 c3] 126)))
      replace R3 := Lib.hid (R3.out.later (below_alloc wv1 (.cells #[.bool (zneg s), .slice a3 n3 c3] 126)))
      obtain ⟨vk0, vk1, vk2, vk3, vk4, vk5, vk6, vk7⟩ := cells_3_3_2 HX.out HY.out HP3.out
      go_wp2
      clear vk0 vk1 vk2 vk3 vk4 vk5 vk6 vk7
      generalize (wv1.alloc (.cells #[.bool (zneg s), .slice a3 n3 c3] 126)) = Z at *
      replace HB := Lib.hid (below_then HB.out ((Below.refl _ _).drew : Below Z.heap.size Z Z.drew))
      replace HX : Hid (Z.drew.heap[w.heap.size]? = _) := Lib.hid HX.out
      replace HY : Hid (Z.drew.heap[w.heap.size + 1]? = _) := Lib.hid HY.out
      replace HP3 : Hid (Z.drew.heap[wv1.heap.size]? = _) := Lib.hid HP3.out
      replace HR : Hid (Z.drew.heap[w.heap.size + 1 + 1]? = some (.cells #[.bool false, .slice none 0 0, .slice none 0 0] 44 (0, 0))) := Lib.hid HR.out
      replace HC := Lib.hid (HC.out.later ((Below.refl _ _).drew : Below Z.heap.size Z Z.drew))
      replace HC' := Lib.hid (HC'.out.later ((Below.refl _ _).drew : Below Z.heap.size Z Z.drew))
      replace R3 := Lib.hid (R3.out.later ((Below.refl _ _).drew : Below Z.heap.size Z Z.drew))
      have pSn := cells_3_3_2 HX.out HY.out HP3.out
      go_region_held3 (fun w' => w'.cell? ⟨w.heap.size, 0, none⟩ = some (.bool na) ∧ w'.cell? ⟨w.heap.size, 1, none⟩ = some (.slice a n cap) ∧ w'.cell? ⟨w.heap.size, 2, none⟩ = some (.slice b m cap') ∧ w'.cell? ⟨w.heap.size + 1, 0, none⟩ = some (.bool nb) ∧ w'.cell? ⟨w.heap.size + 1, 1, none⟩ = some (.slice a' n' c') ∧ w'.cell? ⟨w.heap.size + 1, 2, none⟩ = some (.slice b' m' d') ∧ w'.cell? ⟨wv1.heap.size, 0, none⟩ = some (.bool (zneg s)) ∧ w'.cell? ⟨wv1.heap.size, 1, none⟩ = some (.slice a3 n3 c3)) (first | exact pSn | exact pSb _ _ _)
        (first
        | (go_at_call 99; (first
          | (refine (ref04_mul b m cap' lb b' m' d' lb' _ HC.out HC'.out (by omega) (by omega)).mono ?_; rintro e wp1 ⟨a4, n4, c4, rfl, h4, b⟩; replace HB := Lib.hid (below_then HB.out b); replace HX := Lib.hid (blk_later HX.out b); replace HY := Lib.hid (blk_later HY.out b); replace HP3 := Lib.hid (blk_later HP3.out b); replace HR := Lib.hid (blk_later HR.out b); replace HC := Lib.hid (HC.out.later b); replace HC' := Lib.hid (HC'.out.later b); replace R3 := Lib.hid (R3.out.later b); have R4 := Lib.hid h4; have hn4 : n4 ≤ 90000 := (by have := h4.len; omega); clear h4; clear b; clear pSn; have pSn := cells_3_3_2 HX.out HY.out HP3.out; have pM1 := True.intro)))
        | (go_at_call 26; (first
          | (have pm1 := pM1; refine (ref09_norm _ a3 n3 c3 _ a4 n4 c4 _ _ R3.out R4.out (by omega) (by omega)).mono ?_; rintro e wp2 ⟨a5, n5, c5, a6, n6, c6, rfl, h5, h6, b⟩; replace HB := Lib.hid (below_then HB.out b); replace HX := Lib.hid (blk_later HX.out b); replace HY := Lib.hid (blk_later HY.out b); replace HP3 := Lib.hid (blk_later HP3.out b); replace HR := Lib.hid (blk_later HR.out b); replace HC := Lib.hid (HC.out.later b); replace HC' := Lib.hid (HC'.out.later b); replace R3 := Lib.hid (R3.out.later b); clear R4; have R5 := Lib.hid h5; have R6 := Lib.hid h6; clear h5 h6; obtain ⟨r0, r1, r2⟩ := cells_3 HR.out; have f0 := blk_free HR.out 0; have f1 := blk_free HR.out 1; have f2 := blk_free HR.out 2; have pSb := fun u v q => cells_3_3_2 (blk_far3 (g := w.heap.size + 1 + 1) HX.out (by omega) u v q) (blk_far3 (g := w.heap.size + 1 + 1) HY.out (by omega) u v q) (blk_far3 (g := w.heap.size + 1 + 1) HP3.out (by omega) u v q); unfold frV; clear b; clear pSn; have pSn := cells_3_3_2 HX.out HY.out HP3.out; clear pM1 pm1; have pM2 := True.intro))))
      rw [HQ.out] at R5 R6
      rw [HQ.out]
      generalize qval na (val la) (val lb) + qval nb (val la') (val lb') = q at *
      have HG := Lib.hid (blk_set3 HR.out (.bool (zneg q.num)) (.slice a5 n5 c5) (.slice a6 n6 c6))
      have HL := Lib.hid (below_set3 HB.out (show w.heap.size ≤ w.heap.size + 1 + 1 by omega) (.bool (zneg q.num)) (.slice a5 n5 c5) (.slice a6 n6 c6))
      have HW1 := Lib.hid (R5.out.stored3 HR.out (zneg q.num) a5 n5 c5 (.slice a6 n6 c6))
      have HW2 := Lib.hid (R6.out.stored3 HR.out (zneg q.num) a5 n5 c5 (.slice a6 n6 c6))
      go_wp2
      refine bodyPost_ret (results_cell_row Tryz.results68 _ _ (w.heap.size + 1 + 1) 44 #[.bool (zneg q.num), .slice a5 n5 c5, .slice a6 n6 c6] (0, 0) _ rfl HG.out Tryz.underlying44 rfl (by kernel_rfl)) rfl ?_
      exact ⟨_, _, _, _, _, _, rfl, HW1.out, HW2.out, HL.out⟩
end Go.Proofs.YtjeigdlhjghinaaGreatDoor

/-
  The contracts of the document's answer for layer 9: Sub, Sign, Cmp.
-/
namespace Go.Proofs.YtjeigdlhjghinaaGreatDoor
open Go.RowKit

theorem qval_len (neg : Bool) (u v : Nat) : (dg (qval neg u v).num.natAbs).length ≤ (dg u).length ∧ (dg (qval neg u v).den).length ≤ (dg v).length + 1 := by
  by_cases hv : v = 0
  · rw [qval_none neg (.inl hv), show ((0 : Rat).num).natAbs = 0 from rfl, show (0 : Rat).den = 1 from rfl, dg_zero]
    have h1 : (dg 1).length ≤ 1 := dg_length_le (by decide)
    exact ⟨by simp, by omega⟩
  · obtain ⟨h1, h2⟩ := qval_parts neg (u := u) hv
    rw [h1, h2, zval_abs]
    exact ⟨dg_length_mono (Nat.div_le_self _ _), Nat.le_trans (dg_length_mono (Nat.div_le_self _ _)) (by omega)⟩
theorem den_nz (q : Rat) : val (dg q.den) ≠ 0 := by rw [val_dg]; exact q.den_nz
theorem qlen_neg (q : Rat) : (dg (-q).num.natAbs).length = (dg q.num.natAbs).length ∧ (dg (-q).den).length = (dg q.den).length := by
  rw [Rat.neg_num, Int.natAbs_neg]; exact ⟨rfl, rfl⟩
set_option maxRecDepth 4096 in
set_option maxHeartbeats 8000000 in
theorem ref09_sub (na : Bool) (a : Option Addr) (n cap : Nat) (la : List Nat) (b : Option Addr) (m cap' : Nat) (lb : List Nat) (nb : Bool) (a' : Option Addr) (n' c' : Nat) (la' : List Nat) (b' : Option Addr) (m' d' : Nat) (lb' : List Nat) (w : World) (ha : Wd w a n cap la) (hb : Wd w b m cap' lb) (ha' : Wd w a' n' c' la') (hb' : Wd w b' m' d' lb') (hn : n ≤ 15000) (hm : m ≤ 15000) (hn' : n' ≤ 15000) (hm' : m' ≤ 15000) (hd : Hid (val lb ≠ 0)) :
    Calls Tryz.prog 90 #[frV na a n cap b m cap', frV nb a' n' c' b' m' d'] w (LstQ (qval na (val la) (val lb) + -(qval nb (val la') (val lb'))) w) := by
  have HB := Lib.hid (below_then (below_then (below_alloc w (.cells #[.bool na, .slice a n cap, .slice b m cap'] 44)) (below_alloc _ (.cells #[.bool nb, .slice a' n' c', .slice b' m' d'] 44))) (below_alloc _ (.cells #[.bool false, .slice none 0 0, .slice none 0 0] 44)))
  have HA := Lib.hid (ha.later HB.out)
  have HC := Lib.hid (hb.later HB.out)
  have HA' := Lib.hid (ha'.later HB.out)
  have HC' := Lib.hid (hb'.later HB.out)
  obtain ⟨hx1, hx2, hx3⟩ := boxes3_at9 w #[.bool na, .slice a n cap, .slice b m cap'] #[.bool nb, .slice a' n' c', .slice b' m' d'] #[.bool false, .slice none 0 0, .slice none 0 0] 44 44 44
  have HX := Lib.hid hx1
  have HY := Lib.hid hx2
  have HR := Lib.hid hx3
  have ha1 := ha.trim_le
  have hb1 := hb.trim_le
  have ha2 := ha'.trim_le
  have hb2 := hb'.trim_le
  have hW1 : w.heap.size + 1 + 1 < (((w.alloc (.cells #[.bool na, .slice a n cap, .slice b m cap'] 44)).alloc (.cells #[.bool nb, .slice a' n' c', .slice b' m' d'] 44)).alloc (.cells #[.bool false, .slice none 0 0, .slice none 0 0] 44)).heap.size := (Array.getElem?_eq_some_iff.1 hx3).1
  clear ha hb ha' hb' hx1 hx2 hx3
  have ql := qval_len nb (val la') (val lb')
  have qn := qlen_neg (qval nb (val la') (val lb'))
  obtain ⟨p, hp⟩ : ∃ p, p = -(qval nb (val la') (val lb')) := ⟨_, rfl⟩
  rw [← hp] at qn
  have HP := Lib.hid hp
  have HQ : Hid (qval na (val la) (val lb) + qval (zneg p.num) (val (dg p.num.natAbs)) (val (dg p.den)) = qval na (val la) (val lb) + -(qval nb (val la') (val lb'))) := Lib.hid (by rw [qval_dg, hp])
  clear hp
  go_enter Tryz.func90, Tryz.ntmps90
  unfold frV
  go_wp2
  generalize (((w.alloc (.cells #[.bool na, .slice a n cap, .slice b m cap'] 44)).alloc (.cells #[.bool nb, .slice a' n' c', .slice b' m' d'] 44)).alloc (.cells #[.bool false, .slice none 0 0, .slice none 0 0] 44)) = W at *
  replace HB := Lib.hid (below_then HB.out ((Below.refl _ _).drew : Below W.heap.size W W.drew))
  replace HX : Hid (W.drew.heap[w.heap.size]? = _) := Lib.hid HX.out
  replace HY : Hid (W.drew.heap[w.heap.size + 1]? = _) := Lib.hid HY.out
  replace HR : Hid (W.drew.heap[w.heap.size + 1 + 1]? = some (.cells #[.bool false, .slice none 0 0, .slice none 0 0] 44 (0, 0))) := Lib.hid HR.out
  replace HA := Lib.hid (HA.out.later ((Below.refl _ _).drew : Below W.heap.size W W.drew))
  replace HC := Lib.hid (HC.out.later ((Below.refl _ _).drew : Below W.heap.size W W.drew))
  replace HA' := Lib.hid (HA'.out.later ((Below.refl _ _).drew : Below W.heap.size W W.drew))
  replace HC' := Lib.hid (HC'.out.later ((Below.refl _ _).drew : Below W.heap.size W W.drew))
  have pSn := cells_3_3 HX.out HY.out
  go_region_held3 (fun w' => w'.cell? ⟨w.heap.size, 0, none⟩ = some (.bool na) ∧ w'.cell? ⟨w.heap.size, 1, none⟩ = some (.slice a n cap) ∧ w'.cell? ⟨w.heap.size, 2, none⟩ = some (.slice b m cap') ∧ w'.cell? ⟨w.heap.size + 1, 0, none⟩ = some (.bool nb) ∧ w'.cell? ⟨w.heap.size + 1, 1, none⟩ = some (.slice a' n' c') ∧ w'.cell? ⟨w.heap.size + 1, 2, none⟩ = some (.slice b' m' d')) (first | exact pSn | exact pSb _ _ _)
    (first
    | (go_at_call 133; (first
      | (refine (ref09_neg nb a' n' c' la' b' m' d' lb' _ HA'.out HC'.out (by omega) (by omega)).mono ?_; rintro e wp1 ⟨a1, n1, c1, a2, n2, c2, rfl, h1, h2, b⟩; replace HB := Lib.hid (below_then HB.out b); replace HX := Lib.hid (blk_later HX.out b); replace HY := Lib.hid (blk_later HY.out b); replace HR := Lib.hid (blk_later HR.out b); replace HA := Lib.hid (HA.out.later b); replace HC := Lib.hid (HC.out.later b); replace HA' := Lib.hid (HA'.out.later b); replace HC' := Lib.hid (HC'.out.later b); rw [← HP.out] at h1 h2 ⊢; have R1 := Lib.hid h1; have R2 := Lib.hid h2; have hn1 : n1 ≤ 15000 := (by have := h1.len; omega); have hn2 : n2 ≤ 15001 := (by have := h2.len; omega); clear h1 h2; clear b; clear pSn; have pSn := cells_3_3 HX.out HY.out; have pM1 := True.intro)))
    | (go_at_call 68; (first
      | (have pm1 := pM1; refine (ref09_add na a n cap la b m cap' lb _ a1 n1 c1 _ a2 n2 c2 _ _ HA.out HC.out R1.out R2.out (by omega) (by omega) (by omega) (by omega) hd (Lib.hid (den_nz _))).mono ?_; rintro e wp2 ⟨a3, n3, c3, a4, n4, c4, rfl, h3, h4, b⟩; replace HB := Lib.hid (below_then HB.out b); replace HX := Lib.hid (blk_later HX.out b); replace HY := Lib.hid (blk_later HY.out b); replace HR := Lib.hid (blk_later HR.out b); replace HA := Lib.hid (HA.out.later b); replace HC := Lib.hid (HC.out.later b); replace HA' := Lib.hid (HA'.out.later b); replace HC' := Lib.hid (HC'.out.later b); clear R1; clear R2; have R3 := Lib.hid h3; have R4 := Lib.hid h4; clear h3 h4; obtain ⟨r0, r1, r2⟩ := cells_3 HR.out; have f0 := blk_free HR.out 0; have f1 := blk_free HR.out 1; have f2 := blk_free HR.out 2; have pSb := fun u v q => cells_3_3 (blk_far3 (g := w.heap.size + 1 + 1) HX.out (by omega) u v q) (blk_far3 (g := w.heap.size + 1 + 1) HY.out (by omega) u v q); unfold frV; clear b; clear pSn; have pSn := cells_3_3 HX.out HY.out; clear pM1 pm1; have pM2 := True.intro))))
  rw [HQ.out] at R3 R4
  rw [HQ.out]
  generalize qval na (val la) (val lb) + -(qval nb (val la') (val lb')) = q at *
  have HG := Lib.hid (blk_set3 HR.out (.bool (zneg q.num)) (.slice a3 n3 c3) (.slice a4 n4 c4))
  have HL := Lib.hid (below_set3 HB.out (show w.heap.size ≤ w.heap.size + 1 + 1 by omega) (.bool (zneg q.num)) (.slice a3 n3 c3) (.slice a4 n4 c4))
  have HW1 := Lib.hid (R3.out.stored3 HR.out (zneg q.num) a3 n3 c3 (.slice a4 n4 c4))
  have HW2 := Lib.hid (R4.out.stored3 HR.out (zneg q.num) a3 n3 c3 (.slice a4 n4 c4))
  go_wp2
  refine bodyPost_ret (results_cell_row Tryz.results90 _ _ (w.heap.size + 1 + 1) 44 #[.bool (zneg q.num), .slice a3 n3 c3, .slice a4 n4 c4] (0, 0) _ rfl HG.out Tryz.underlying44 rfl (by kernel_rfl)) rfl ?_
  exact ⟨_, _, _, _, _, _, rfl, HW1.out, HW2.out, HL.out⟩
theorem ref09_sign (q : Rat) (a : Option Addr) (n cap : Nat) (b : Option Addr) (m cap' : Nat) (w : World) (h : Wd w a n cap (dg q.num.natAbs)) : Calls Tryz.prog 89 #[frV (zneg q.num) a n cap b m cap'] w (Gives (.int .i64 (sgn q.num)) w) := by
  have hl := h.len
  unfold frV
  generalize q.num = z at *
  by_cases hz : z = 0
  · subst hz
    obtain rfl : n = 0 := by rw [show (0 : Int).natAbs = 0 from rfl, dg_zero] at hl; exact hl.symm
    clear h hl
    go_enter Tryz.func89, Tryz.ntmps89
    go_wp2
    go_ret
    exact ⟨rfl, below_alloc _ _⟩
  · have hn : ((n : Int) == 0) = false := by
      have : n ≠ 0 := fun e => hz (by rw [e] at hl; have := dg_nil_iff.1 hl; omega)
      simp [this]
    by_cases hneg : z < 0
    · have hg : zneg z = true := decide_eq_true hneg
      have hs : Hid (sgn z = -1) := Lib.hid (sgn_neg hneg)
      rw [hg]
      clear h hl hz hneg hg
      go_enter Tryz.func89, Tryz.ntmps89
      go_wp2
      go_ret
      exact ⟨by rw [hs.out]; rfl, below_alloc _ _⟩
    · have hg : zneg z = false := decide_eq_false hneg
      have hs : Hid (sgn z = 1) := Lib.hid (by unfold sgn; rw [if_neg hz, if_neg hneg])
      rw [hg]
      clear h hl hz hneg hg
      go_enter Tryz.func89, Tryz.ntmps89
      go_wp2
      go_ret
      exact ⟨by rw [hs.out]; rfl, below_alloc _ _⟩
end Go.Proofs.YtjeigdlhjghinaaGreatDoor
