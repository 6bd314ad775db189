/-
  Several texts of this claim as one, group 13.
-/
import Derived.Test.YtjeigdlhjghinaaGreatDoorG12
import Derived.Test.YtjeigdlhjghinaaGreatDoorG7
import Derived.Deep.RegionHeld3
import Derived.Test.YtjeigdlhjghinaaGreatDoorG11
import Derived.Test.YtjeigdlhjghinaaGreatDoorG10
import Derived.Test.YtjeigdlhjghinaaGreatDoorG9
import Derived.Test.YtjeigdlhjghinaaGreatDoorG6
/-
  The contracts of the document's answer for layer 9: Cmp, Abs.
-/
namespace Go.Proofs.YtjeigdlhjghinaaGreatDoor
open Go.RowKit

set_option maxRecDepth 4096 in
set_option maxHeartbeats 4000000 in
theorem ref09_cmp (na : Bool) (a : Option Addr) (n cap : Nat) (la : List Nat) (b : Option Addr) (m cap' : Nat) (lb : List Nat) (nb : Bool) (a' : Option Addr) (n' c' : Nat) (la' : List Nat) (b' : Option Addr) (m' d' : Nat) (lb' : List Nat) (w : World) (ha : Wd w a n cap la) (hb : Wd w b m cap' lb) (ha' : Wd w a' n' c' la') (hb' : Wd w b' m' d' lb') (hn : n ≤ 15000) (hm : m ≤ 15000) (hn' : n' ≤ 15000) (hm' : m' ≤ 15000) (hd : Hid (val lb ≠ 0)) :
    Calls Tryz.prog 54 #[frV na a n cap b m cap', frV nb a' n' c' b' m' d'] w (Gives (.int .i64 (sgn (qval na (val la) (val lb) + -(qval nb (val la') (val lb'))).num)) w) := by
  have HB := Lib.hid (below_then (below_alloc w (.cells #[.bool na, .slice a n cap, .slice b m cap'] 44)) (below_alloc _ (.cells #[.bool nb, .slice a' n' c', .slice b' m' d'] 44)))
  have HA := Lib.hid (ha.later HB.out)
  have HC := Lib.hid (hb.later HB.out)
  have HA' := Lib.hid (ha'.later HB.out)
  have HC' := Lib.hid (hb'.later HB.out)
  obtain ⟨hx1, hx2⟩ := boxes_at w ((w.alloc (.cells #[.bool na, .slice a n cap, .slice b m cap'] 44)).alloc (.cells #[.bool nb, .slice a' n' c', .slice b' m' d'] 44)) #[.bool na, .slice a n cap, .slice b m cap'] #[.bool nb, .slice a' n' c', .slice b' m' d'] 44 44 (Below.refl _ _)
  have HX := Lib.hid hx1
  have HY := Lib.hid hx2
  clear ha hb ha' hb' hx1 hx2
  go_enter Tryz.func54, Tryz.ntmps54
  unfold frV
  obtain ⟨vk0, vk1, vk2, vk3, vk4, vk5⟩ := cells_3_3 HX.out HY.out
  go_wp2_with fail
  refine (ref09_sub na a n cap la b m cap' lb nb a' n' c' la' b' m' d' lb' _ HA.out HC.out HA'.out HC'.out (by omega) (by omega) (by omega) (by omega) hd).mono ?_
  rintro e wv1 ⟨a1, n1, c1, a2, n2, c2, rfl, h1, h2, b⟩
  clear vk0 vk1 vk2 vk3 vk4 vk5
  replace HB := Lib.hid (below_then HB.out b)
  replace HX := Lib.hid (blk_later HX.out b)
  replace HY := Lib.hid (blk_later HY.out b)
  clear HA
  clear HC
  clear HA'
  clear HC'
  clear b
  generalize qval na (val la) (val lb) + -(qval nb (val la') (val lb')) = q at *
  have R1 := Lib.hid h1
  clear h1 h2
  obtain ⟨vk0, vk1, vk2, vk3, vk4, vk5⟩ := cells_3_3 HX.out HY.out
  go_wp2_with fail
  refine (ref09_sign q a1 n1 c1 a2 n2 c2 _ R1.out).mono ?_
  rintro e wv2 ⟨rfl, b⟩
  clear vk0 vk1 vk2 vk3 vk4 vk5
  replace HB := Lib.hid (below_then HB.out b)
  replace HX := Lib.hid (blk_later HX.out b)
  replace HY := Lib.hid (blk_later HY.out b)
  replace R1 := Lib.hid (R1.out.later b)
  clear b
  go_wp2
  go_ret
  exact ⟨rfl, HB.out⟩
set_option maxHeartbeats 1000000 in
theorem ref09_abs (neg : Bool) (a : Option Addr) (n cap : Nat) (b : Option Addr) (m cap' : Nat) (w : World) : Calls Tryz.prog 53 #[frV neg a n cap b m cap'] w (Gives (frV false a n cap b m cap') w) := by
  have HG : Hid (((w.alloc (.cells #[.bool neg, .slice a n cap, .slice b m cap'] 44)).alloc (.cells #[.bool false, .slice a n cap, .slice b m cap'] 44)).heap[w.heap.size + 1]? = some (.cells #[.bool false, .slice a n cap, .slice b m cap'] 44 (0, 0))) := Lib.hid (boxes_at w ((w.alloc (.cells #[.bool neg, .slice a n cap, .slice b m cap'] 44)).alloc (.cells #[.bool false, .slice a n cap, .slice b m cap'] 44)) _ _ _ _ (Below.refl _ _)).2
  have HB := Lib.hid (below_then (below_alloc w (.cells #[.bool neg, .slice a n cap, .slice b m cap'] 44)) (below_alloc _ (.cells #[.bool false, .slice a n cap, .slice b m cap'] 44)))
  go_enter Tryz.func53, Tryz.ntmps53
  unfold frV
  go_wp2
  refine bodyPost_ret (results_cell_row Tryz.results53 _ _ (w.heap.size + 1) 44 #[.bool false, .slice a n cap, .slice b m cap'] (0, 0) _ rfl HG.out Tryz.underlying44 rfl (by kernel_rfl)) rfl ?_
  exact ⟨rfl, HB.out⟩
end Go.Proofs.YtjeigdlhjghinaaGreatDoor

/-
  The contract of the document's answer for layer 9: Int.
-/
namespace Go.Proofs.YtjeigdlhjghinaaGreatDoor
open Go.RowKit

theorem cells_3_1 {w : World} {A0 A1 : Nat} {c0_0 c0_1 c0_2 c1_0 : Value} {t0 t1 : TypeId} (h0 : w.heap[A0]? = some (.cells #[c0_0, c0_1, c0_2] t0 (0, 0))) (h1 : w.heap[A1]? = some (.cells #[c1_0] t1 (0, 0))) : w.cell? ⟨A0, 0, none⟩ = some c0_0 ∧ w.cell? ⟨A0, 1, none⟩ = some c0_1 ∧ w.cell? ⟨A0, 2, none⟩ = some c0_2 ∧ w.cell? ⟨A1, 0, none⟩ = some c1_0 := ⟨blk_cell h0 0, blk_cell h0 1, blk_cell h0 2, blk_cell h1 0⟩
theorem cells_3_1_1 {w : World} {A0 A1 A2 : Nat} {c0_0 c0_1 c0_2 c1_0 c2_0 : Value} {t0 t1 t2 : TypeId} (h0 : w.heap[A0]? = some (.cells #[c0_0, c0_1, c0_2] t0 (0, 0))) (h1 : w.heap[A1]? = some (.cells #[c1_0] t1 (0, 0))) (h2 : w.heap[A2]? = some (.cells #[c2_0] t2 (0, 0))) : w.cell? ⟨A0, 0, none⟩ = some c0_0 ∧ w.cell? ⟨A0, 1, none⟩ = some c0_1 ∧ w.cell? ⟨A0, 2, none⟩ = some c0_2 ∧ w.cell? ⟨A1, 0, none⟩ = some c1_0 ∧ w.cell? ⟨A2, 0, none⟩ = some c2_0 := ⟨blk_cell h0 0, blk_cell h0 1, blk_cell h0 2, blk_cell h1 0, blk_cell h2 0⟩
theorem qval_int {z : Int} {u : Nat} {neg : Bool} (h : zval neg u = z) : qval neg u 1 = (z : Rat) := by
  unfold qval
  rw [h, Rat.mkRat_one]
set_option maxRecDepth 4096 in
set_option maxHeartbeats 4000000 in
theorem ref09_int (z : Int) (w : World) (hz : isInt z) : Calls Tryz.prog 35 #[.int .i64 z] w (LstQ (z : Rat) w) := by
  have hz1 : -9223372036854775808 ≤ z ∧ z ≤ 9223372036854775807 := hz
  have HB := Lib.hid (below_alloc w (.cells #[.bool false, .slice none 0 0, .slice none 0 0] 44))
  have HR : Hid ((w.alloc (.cells #[.bool false, .slice none 0 0, .slice none 0 0] 44)).heap[w.heap.size]? = some (.cells #[.bool false, .slice none 0 0, .slice none 0 0] 44 (0, 0))) := Lib.hid (blk_new w _ _)
  have H1 : Hid (val [1] = 1) := rfl
  clear hz
  by_cases hneg : z < 0
  · obtain ⟨k, hk⟩ : ∃ k : Nat, -(z + 1) = (k : Int) := ⟨(-(z + 1)).toNat, by omega⟩
    have hkb : k ≤ 9223372036854775807 := by omega
    have HQ : Hid (qval true (val (dg (val (dg k) + val [1]))) (val [1]) = (z : Rat)) := Lib.hid (by rw [H1.out, val_dg, val_dg]; exact qval_int (by rw [zval_true]; omega))
    have hl1 : (dg k).length ≤ 2 := dg_length_le (Nat.lt_of_le_of_lt hkb (by decide))
    have hl2 : (dg (val (dg k) + val [1])).length ≤ 4 := by have := dg_add_length (val (dg k)) 1; rw [H1.out]; rw [val_dg] at this ⊢; have h3 : (dg 1).length ≤ 1 := dg_length_le (by decide); omega
    go_enter Tryz.func35, Tryz.ntmps35
    obtain ⟨vk0, vk1, vk2⟩ := cells_3 HR.out
    go_wp2_with fail
    refine (ref02_of k _ (by omega)).mono ?_
    rintro e wv1 ⟨a1, n1, c1, rfl, h1, b⟩
    clear vk0 vk1 vk2
    replace HB := Lib.hid (below_then HB.out b)
    replace HR := Lib.hid (blk_later HR.out b)
    clear b
    have hn1 := h1.len
    have R1 := Lib.hid h1
    clear h1
    have HO1 : Hid ((World.alloc wv1 (.cells #[.int .u32 1] 91)).heap[wv1.heap.size]? = some (.cells #[.int .u32 1] 91 (0, 0))) := Lib.hid (blk_new wv1 _ _)
    replace HB := Lib.hid (below_then HB.out (below_alloc wv1 (.cells #[.int .u32 1] 91)))
    replace HR := Lib.hid (blk_later HR.out (below_alloc wv1 (.cells #[.int .u32 1] 91)))
    replace R1 := Lib.hid (R1.out.later (below_alloc wv1 (.cells #[.int .u32 1] 91)))
    obtain ⟨vk0, vk1, vk2, vk3⟩ := cells_3_1 HR.out HO1.out
    go_wp2_with fail
    refine (ref02_add a1 n1 c1 _ _ 1 1 [1] _ R1.out (Wd.lit1 wv1 91 (x := 1) (by omega)) (by omega) (by omega)).mono ?_
    rintro e wv2 ⟨a2, n2, c2, rfl, h2, b⟩
    clear vk0 vk1 vk2 vk3
    replace HB := Lib.hid (below_then HB.out b)
    replace HR := Lib.hid (blk_later HR.out b)
    replace HO1 := Lib.hid (blk_later HO1.out b)
    clear R1
    clear b
    have hn2 := h2.len
    have R2 := Lib.hid h2
    clear h2
    have HO2 : Hid ((World.alloc wv2 (.cells #[.int .u32 1] 91)).heap[wv2.heap.size]? = some (.cells #[.int .u32 1] 91 (0, 0))) := Lib.hid (blk_new wv2 _ _)
    replace HB := Lib.hid (below_then HB.out (below_alloc wv2 (.cells #[.int .u32 1] 91)))
    replace HR := Lib.hid (blk_later HR.out (below_alloc wv2 (.cells #[.int .u32 1] 91)))
    replace HO1 := Lib.hid (blk_later HO1.out (below_alloc wv2 (.cells #[.int .u32 1] 91)))
    replace R2 := Lib.hid (R2.out.later (below_alloc wv2 (.cells #[.int .u32 1] 91)))
    obtain ⟨vk0, vk1, vk2, vk3, vk4⟩ := cells_3_1_1 HR.out HO1.out HO2.out
    go_wp2_with fail
    refine (ref09_norm true a2 n2 c2 _ _ 1 1 [1] _ R2.out (Wd.lit1 wv2 91 (x := 1) (by omega)) (by omega) (by omega)).mono ?_
    rintro e wv3 ⟨a3, n3, c3, b3x, m3x, d3x, rfl, h8, h9, b⟩
    clear vk0 vk1 vk2 vk3 vk4
    replace HB := Lib.hid (below_then HB.out b)
    replace HR := Lib.hid (blk_later HR.out b)
    replace HO1 := Lib.hid (blk_later HO1.out b)
    replace HO2 := Lib.hid (blk_later HO2.out b)
    clear R2
    clear b
    rw [HQ.out] at h8 h9 ⊢
    have R8 := Lib.hid h8
    have R9 := Lib.hid h9
    clear h8 h9 HQ hl2 hn1 hn2
    unfold frV
    have HG := Lib.hid (blk_set3 HR.out (.bool (zneg (z : Rat).num)) (.slice a3 n3 c3) (.slice b3x m3x d3x))
    have HL := Lib.hid (below_set3 HB.out (Nat.le_refl w.heap.size) (.bool (zneg (z : Rat).num)) (.slice a3 n3 c3) (.slice b3x m3x d3x))
    have HW1 := Lib.hid (R8.out.stored3 HR.out (zneg (z : Rat).num) a3 n3 c3 (.slice b3x m3x d3x))
    have HW2 := Lib.hid (R9.out.stored3 HR.out (zneg (z : Rat).num) a3 n3 c3 (.slice b3x m3x d3x))
    obtain ⟨k0, k1, k2⟩ := cells_3 HR.out
    have f0 := blk_free HR.out 0
    have f1 := blk_free HR.out 1
    have f2 := blk_free HR.out 2
    generalize (z : Rat) = q at *
    go_wp2
    refine bodyPost_ret (results_cell_row Tryz.results35 _ _ w.heap.size 44 #[.bool (zneg q.num), .slice a3 n3 c3, .slice b3x m3x d3x] (0, 0) _ rfl HG.out Tryz.underlying44 rfl (by kernel_rfl)) rfl ?_
    exact ⟨_, _, _, _, _, _, rfl, HW1.out, HW2.out, HL.out⟩
  · obtain ⟨k, hk⟩ : ∃ k : Nat, z = (k : Int) := ⟨z.toNat, by omega⟩
    have hkb : k ≤ 9223372036854775807 := by omega
    have HQ : Hid (qval false (val (dg k)) (val [1]) = (z : Rat)) := Lib.hid (by rw [H1.out, val_dg]; exact qval_int (by rw [zval_false]; omega))
    have hl1 : (dg k).length ≤ 2 := dg_length_le (Nat.lt_of_le_of_lt hkb (by decide))
    have hw : (k : Int) % 18446744073709551616 = (k : Int) := by omega
    go_enter Tryz.func35, Tryz.ntmps35
    obtain ⟨vk0, vk1, vk2⟩ := cells_3 HR.out
    go_wp2_with fail
    refine (ref02_of k _ (by omega)).mono ?_
    rintro e wv1 ⟨a1, n1, c1, rfl, h1, b⟩
    clear vk0 vk1 vk2
    replace HB := Lib.hid (below_then HB.out b)
    replace HR := Lib.hid (blk_later HR.out b)
    clear b
    have hn1 := h1.len
    have R1 := Lib.hid h1
    clear h1
    have HO1 : Hid ((World.alloc wv1 (.cells #[.int .u32 1] 91)).heap[wv1.heap.size]? = some (.cells #[.int .u32 1] 91 (0, 0))) := Lib.hid (blk_new wv1 _ _)
    replace HB := Lib.hid (below_then HB.out (below_alloc wv1 (.cells #[.int .u32 1] 91)))
    replace HR := Lib.hid (blk_later HR.out (below_alloc wv1 (.cells #[.int .u32 1] 91)))
    replace R1 := Lib.hid (R1.out.later (below_alloc wv1 (.cells #[.int .u32 1] 91)))
    obtain ⟨vk0, vk1, vk2, vk3⟩ := cells_3_1 HR.out HO1.out
    go_wp2_with fail
    refine (ref09_norm false a1 n1 c1 _ _ 1 1 [1] _ R1.out (Wd.lit1 wv1 91 (x := 1) (by omega)) (by omega) (by omega)).mono ?_
    rintro e wv2 ⟨a3, n3, c3, b3x, m3x, d3x, rfl, h8, h9, b⟩
    clear vk0 vk1 vk2 vk3
    replace HB := Lib.hid (below_then HB.out b)
    replace HR := Lib.hid (blk_later HR.out b)
    replace HO1 := Lib.hid (blk_later HO1.out b)
    clear R1
    clear b
    rw [HQ.out] at h8 h9 ⊢
    have R8 := Lib.hid h8
    have R9 := Lib.hid h9
    clear h8 h9 HQ hn1
    unfold frV
    have HG := Lib.hid (blk_set3 HR.out (.bool (zneg (z : Rat).num)) (.slice a3 n3 c3) (.slice b3x m3x d3x))
    have HL := Lib.hid (below_set3 HB.out (Nat.le_refl w.heap.size) (.bool (zneg (z : Rat).num)) (.slice a3 n3 c3) (.slice b3x m3x d3x))
    have HW1 := Lib.hid (R8.out.stored3 HR.out (zneg (z : Rat).num) a3 n3 c3 (.slice b3x m3x d3x))
    have HW2 := Lib.hid (R9.out.stored3 HR.out (zneg (z : Rat).num) a3 n3 c3 (.slice b3x m3x d3x))
    obtain ⟨k0, k1, k2⟩ := cells_3 HR.out
    have f0 := blk_free HR.out 0
    have f1 := blk_free HR.out 1
    have f2 := blk_free HR.out 2
    generalize (z : Rat) = q at *
    go_wp2
    refine bodyPost_ret (results_cell_row Tryz.results35 _ _ w.heap.size 44 #[.bool (zneg q.num), .slice a3 n3 c3, .slice b3x m3x d3x] (0, 0) _ rfl HG.out Tryz.underlying44 rfl (by kernel_rfl)) rfl ?_
    exact ⟨_, _, _, _, _, _, rfl, HW1.out, HW2.out, HL.out⟩
end Go.Proofs.YtjeigdlhjghinaaGreatDoor

/-
  The contracts of the document's answer for layer 9: Size, Long.
-/
namespace Go.Proofs.YtjeigdlhjghinaaGreatDoor
open Go.RowKit

theorem blen_words {w : World} {a : Option Addr} {n cap : Nat} {l : List Nat} (h : Wd w a n cap l) : blen (val l) ≤ 32 * n := by
  have h1 := val_lt h.ok
  rw [h.len, pow32] at h1
  exact blen_le.2 h1
theorem ref03_len_at (a : Option Addr) (n cap : Nat) (l : List Nat) (x : Nat) (w : World) (h : Wd w a n cap l) (hn : n ≤ 16777214) (hx : blen (val l) = x) : Calls Tryz.prog 92 #[.slice a n cap] w (Gives (.int .i64 (x : Int)) w) :=
  (ref03_len a n cap l w h hn).mono fun _ _ ⟨he, hw⟩ => ⟨by rw [he, hx], by subst hw; exact Below.refl _ _⟩
set_option maxRecDepth 4096 in
set_option maxHeartbeats 2000000 in
theorem ref09_size (neg : Bool) (a : Option Addr) (n cap : Nat) (la : List Nat) (b : Option Addr) (m cap' : Nat) (lb : List Nat) (w : World) (ha : Wd w a n cap la) (hb : Wd w b m cap' lb) (hn : n ≤ 100000) (hm : m ≤ 100000) :
    Calls Tryz.prog 56 #[frV neg a n cap b m cap'] w (Gives (.int .i64 ((blen (val la) + blen (val lb) : Nat) : Int)) w) := by
  have HB := Lib.hid (below_alloc w (.cells #[.bool neg, .slice a n cap, .slice b m cap'] 44))
  have HA := Lib.hid (ha.later HB.out)
  have HC := Lib.hid (hb.later HB.out)
  have HX : Hid ((w.alloc (.cells #[.bool neg, .slice a n cap, .slice b m cap'] 44)).heap[w.heap.size]? = some (.cells #[.bool neg, .slice a n cap, .slice b m cap'] 44 (0, 0))) := Lib.hid (blk_new w _ _)
  have hla := blen_words ha
  have hlb := blen_words hb
  clear ha hb
  go_enter Tryz.func56, Tryz.ntmps56
  unfold frV
  go_wp2
  generalize (w.alloc (.cells #[.bool neg, .slice a n cap, .slice b m cap'] 44)) = W at *
  generalize hx : blen (val la) = x at *
  generalize hy : blen (val lb) = y at *
  have EX := Lib.hid hx
  have EY := Lib.hid hy
  clear hx hy
  replace HB := Lib.hid (below_then HB.out ((Below.refl _ _).drew : Below W.heap.size W W.drew))
  replace HX : Hid (W.drew.heap[w.heap.size]? = _) := Lib.hid HX.out
  replace HA := Lib.hid (HA.out.later ((Below.refl _ _).drew : Below W.heap.size W W.drew))
  replace HC := Lib.hid (HC.out.later ((Below.refl _ _).drew : Below W.heap.size W W.drew))
  have pSn := cells_3 HX.out
  go_region_held3 (fun w' => w'.cell? ⟨w.heap.size, 0, none⟩ = some (.bool neg) ∧ w'.cell? ⟨w.heap.size, 1, none⟩ = some (.slice a n cap) ∧ w'.cell? ⟨w.heap.size, 2, none⟩ = some (.slice b m cap')) (exact pSn)
    (first
    | (go_at_call 92; (first
      | (have pm1 := pM1; refine (ref03_len_at b m cap' lb y _ HC.out (by omega) EY.out).mono ?_; rintro e wp2 ⟨rfl, b⟩; replace HB := Lib.hid (below_then HB.out b); replace HX := Lib.hid (blk_later HX.out b); replace HA := Lib.hid (HA.out.later b); replace HC := Lib.hid (HC.out.later b); clear b; clear pSn; have pSn := cells_3 HX.out; clear pM1 pm1; have pM2 := True.intro)
      | (refine (ref03_len_at a n cap la x _ HA.out (by omega) EX.out).mono ?_; rintro e wp1 ⟨rfl, b⟩; replace HB := Lib.hid (below_then HB.out b); replace HX := Lib.hid (blk_later HX.out b); replace HA := Lib.hid (HA.out.later b); replace HC := Lib.hid (HC.out.later b); clear b; clear pSn; have pSn := cells_3 HX.out; have pM1 := True.intro))))
  go_wp2
  go_ret
  have HW : IntKind.i64.wrap ((x : Int) + (y : Int)) = ((x + y : Nat) : Int) := by rw [IntKind.wrap_i64]; omega
  exact ⟨by rw [← HW]; rfl, HB.out⟩
set_option maxRecDepth 4096 in
theorem ref09_long (neg : Bool) (a : Option Addr) (n cap : Nat) (b : Option Addr) (m cap' : Nat) (k : Int) (w : World) :
    Calls Tryz.prog 25 #[frV neg a n cap b m cap', .int .i64 k] w (Gives (.bool (decide (k < (n : Int)) || decide (k < (m : Int)))) w) := by
  unfold frV
  go_enter Tryz.func25, Tryz.ntmps25
  by_cases h : k < (n : Int)
  · rw [decide_eq_true h, Bool.true_or]
    go_wp2
    go_ret
    exact ⟨rfl, below_alloc _ _⟩
  · rw [decide_eq_false h, Bool.false_or]
    go_wp2
    go_ret
    exact ⟨rfl, below_alloc _ _⟩
end Go.Proofs.YtjeigdlhjghinaaGreatDoor

/-
  The contracts of the document's answer for layer 9: Pow.
-/
namespace Go.Proofs.YtjeigdlhjghinaaGreatDoor
open Go.RowKit

theorem isInt_nought : isInt 0 := by unfold isInt; omega
end Go.Proofs.YtjeigdlhjghinaaGreatDoor

/-
  Package frac at this seat: turned, under, times, Of.
-/
namespace Go.Proofs.YtjeigdlhjghinaaGreatDoor
open Go.RowKit

set_option maxRecDepth 4096 in
set_option maxHeartbeats 4000000 in
theorem frac_turned (neg : Bool) (a : Option Addr) (n cap : Nat) (b : Option Addr) (m cap' : Nat) (w : World) :
    Calls Tryz.prog 98 #[frV neg a n cap b m cap'] w (Gives (frV (!neg) a n cap b m cap') w) := by
  have HG : Hid (((w.alloc (.cells #[.bool (!neg), .slice a n cap, .slice b m cap'] 41)).alloc (.cells #[.bool (!neg), .slice a n cap, .slice b m cap'] 41)).heap[w.heap.size + 1]? = some (.cells #[.bool (!neg), .slice a n cap, .slice b m cap'] 41 (0, 0))) := Lib.hid (boxes_at w ((w.alloc (.cells #[.bool (!neg), .slice a n cap, .slice b m cap'] 41)).alloc (.cells #[.bool (!neg), .slice a n cap, .slice b m cap'] 41)) _ _ _ _ (Below.refl _ _)).2
  have HB := Lib.hid (below_then (below_alloc w (.cells #[.bool (!neg), .slice a n cap, .slice b m cap'] 41)) (below_alloc _ (.cells #[.bool (!neg), .slice a n cap, .slice b m cap'] 41)))
  go_enter Tryz.func98, Tryz.ntmps98
  unfold frV
  go_wp2
  refine bodyPost_ret (results_cell_row Tryz.results98 _ _ (w.heap.size + 1) 41 #[.bool (!neg), .slice a n cap, .slice b m cap'] (0, 0) _ rfl HG.out Tryz.underlying41 rfl (by kernel_rfl)) rfl ?_
  exact ⟨rfl, HB.out⟩
set_option maxRecDepth 4096 in
set_option maxHeartbeats 4000000 in
theorem frac_times (neg : Bool) (a : Option Addr) (n cap : Nat) (la : List Nat) (b : Option Addr) (m cap' : Nat) (lb : List Nat) (w : World) (ha : Wd w a n cap la) (hb : Wd w b m cap' lb) (hn : n ≤ 100000) (hm : m ≤ 100000) :
    Calls Tryz.prog 80 #[whV neg a n cap, .slice b m cap'] w (LstZ (zval neg (val la) * (val lb : Int)) w) := by
  have HB := Lib.hid (below_then (below_alloc w (.cells #[.bool neg, .slice a n cap] 39)) (below_alloc _ (.cells #[.bool false, .slice none 0 0] 39)))
  have HA := Lib.hid (ha.later HB.out)
  have HC := Lib.hid (hb.later HB.out)
  obtain ⟨hx1, hx2⟩ := boxes_at w ((w.alloc (.cells #[.bool neg, .slice a n cap] 39)).alloc (.cells #[.bool false, .slice none 0 0] 39)) #[.bool neg, .slice a n cap] #[.bool false, .slice none 0 0] 39 39 (Below.refl _ _)
  have HX := Lib.hid hx1
  have HR := Lib.hid hx2
  clear hx1 hx2 ha hb
  obtain ⟨z, hz⟩ : ∃ z, zval neg (val la) * (val lb : Int) = z := ⟨_, rfl⟩
  rw [hz]
  have HZ := Lib.hid hz
  clear hz
  go_enter Tryz.func80, Tryz.ntmps80
  unfold whV
  obtain ⟨vk0, vk1, vk2, vk3⟩ := fcells_2_2 HX.out HR.out
  go_wp2_with fail
  refine (whole_mul neg a n cap la false b m cap' lb _ HA.out HC.out hn hm).mono ?_
  rintro e wv1 ⟨a1, n1, c1, rfl, h1, b⟩
  clear vk0 vk1 vk2 vk3
  replace HB := Lib.hid (below_then HB.out b)
  replace HX := Lib.hid (blk_later HX.out b)
  replace HR := Lib.hid (blk_later HR.out b)
  clear HA
  clear HC
  clear b
  rw [zval_false, HZ.out] at h1 ⊢
  have R1 := Lib.hid h1
  clear h1
  unfold whV
  obtain ⟨r0, r1⟩ := fcells_2 HR.out
  have f0 := blk_free HR.out 0
  have f1 := blk_free HR.out 1
  have HG := Lib.hid (blk_set2 HR.out (.bool (zneg z)) (.slice a1 n1 c1))
  have HF := Lib.hid (R1.out.stored2 HR.out (zneg z) (.slice a1 n1 c1))
  have HL := Lib.hid (below_set2 HB.out (show w.heap.size ≤ w.heap.size + 1 by omega) (.bool (zneg z)) (.slice a1 n1 c1))
  go_wp2
  refine bodyPost_ret (results_cell_row Tryz.results80 _ _ (w.heap.size + 1) 39 #[.bool (zneg z), .slice a1 n1 c1] (0, 0) _ rfl HG.out Tryz.underlying39 rfl (by kernel_rfl)) rfl ?_
  exact ⟨a1, n1, c1, rfl, HF.out, HL.out⟩
set_option maxRecDepth 4096 in
set_option maxHeartbeats 4000000 in
theorem frac_of (x : Int) (w : World) (hx : isInt x) : Calls Tryz.prog 46 #[.int .i64 x] w (LstQ (x : Rat) w) := by
  have HX := Lib.hid hx
  have HB := Lib.hid (below_alloc w (.cells #[.bool false, .slice none 0 0, .slice none 0 0] 41))
  have HR := Lib.hid (blk_new w #[.bool false, .slice none 0 0, .slice none 0 0] 41)
  have HO : ∀ w' : World, Calls Tryz.prog 86 #[.int .u64 1] w' (Lst (dg 1) w') := fun w' => natSaid.of 1 w' (by omega)
  have HN : Hid (x = (x : Rat).num) := Lib.hid (Rat.num_intCast x).symm
  have HD : Hid (1 = (x : Rat).den) := Lib.hid (Rat.den_intCast x).symm
  clear hx
  generalize (x : Rat) = q at *
  go_enter Tryz.func46, Tryz.ntmps46
  obtain ⟨vk0, vk1, vk2⟩ := fcells_3 HR.out
  go_wp2_with fail
  refine (whole_of x _ HX.out).mono ?_
  rintro e wv1 ⟨a1, n1, c1, rfl, h1, b⟩
  clear vk0 vk1 vk2
  replace HB := Lib.hid (below_then HB.out b)
  replace HR := Lib.hid (blk_later HR.out b)
  clear b
  have R1 := Lib.hid h1
  clear h1
  unfold whV
  obtain ⟨vk0, vk1, vk2⟩ := fcells_3 HR.out
  go_wp2_with fail
  refine (HO _).mono ?_
  rintro e wv2 ⟨b1, m1, d1, rfl, g1, b⟩
  clear vk0 vk1 vk2
  replace HB := Lib.hid (below_then HB.out b)
  replace HR := Lib.hid (blk_later HR.out b)
  replace R1 := Lib.hid (R1.out.later b)
  clear b
  have T1 := Lib.hid g1
  clear g1
  generalize hz : zneg x = s at *
  have HS := Lib.hid hz
  clear hz
  have q0 := blk_cell HR.out 0
  have q1 := blk_cell HR.out 1
  have q2 := blk_cell HR.out 2
  simp only [List.getElem?_toArray, List.getElem?_cons_zero, List.getElem?_cons_succ] at q0 q1 q2
  have f0 := blk_free HR.out 0
  have f1 := blk_free HR.out 1
  have f2 := blk_free HR.out 2
  replace R1 := Lib.hid (R1.out.stored3 HR.out (s) a1 n1 c1 (.slice b1 m1 d1))
  replace T1 := Lib.hid (T1.out.stored3 HR.out (s) a1 n1 c1 (.slice b1 m1 d1))
  replace HB := Lib.hid (below_set3 HB.out (show w.heap.size ≤ w.heap.size by omega) (.bool s) (.slice a1 n1 c1) (.slice b1 m1 d1))
  replace HR := Lib.hid (blk_set3 HR.out (.bool s) (.slice a1 n1 c1) (.slice b1 m1 d1))
  go_wp2
  refine bodyPost_ret (results_cell_row Tryz.results46 _ _ (w.heap.size) 41 #[.bool s, .slice a1 n1 c1, .slice b1 m1 d1] (0, 0) _ rfl HR.out Tryz.underlying41 rfl (by kernel_rfl)) rfl ?_
  refine ⟨a1, n1, c1, b1, m1, d1, ?_, ?_, ?_, HB.out⟩
  · rw [← HN.out, HS.out]; rfl
  · rw [← HN.out]; exact R1.out
  · rw [← HD.out]; exact T1.out
end Go.Proofs.YtjeigdlhjghinaaGreatDoor

/-
  Package frac at this seat: Sign, Size, product.
-/
namespace Go.Proofs.YtjeigdlhjghinaaGreatDoor
open Go.RowKit

/-- A fraction as it was reckoned, not made right. -/
def LstR (z : Int) (v : Nat) (w : World) (e : Ending) (w' : World) : Prop :=
  ∃ (a : Option Addr) (n cap : Nat) (b : Option Addr) (m cap' : Nat), e = .returned (frV (zneg z) a n cap b m cap') ∧ Wd w' a n cap (dg z.natAbs) ∧ Wd w' b m cap' (dg v) ∧ Below w.heap.size w w'
theorem twos_len_at (a : Option Addr) (n cap : Nat) (l : List Nat) (x : Nat) (w : World) (h : Wd w a n cap l) (hn : n ≤ 16777214) (hx : blen (val l) = x) : Calls Tryz.prog 91 #[.slice a n cap] w (Gives (.int .i64 (x : Int)) w) :=
  (twos_len a n cap l w h hn).mono fun _ _ ⟨he, hw⟩ => ⟨by rw [he, hx], by subst hw; exact Below.refl _ _⟩
set_option maxRecDepth 4096 in
set_option maxHeartbeats 4000000 in
theorem frac_sign (neg : Bool) (a : Option Addr) (n cap : Nat) (la : List Nat) (b : Option Addr) (m cap' : Nat) (lb : List Nat) (w : World) (ha : Wd w a n cap la) (hb : Wd w b m cap' lb) (hn : n ≤ 100000) (hm : m ≤ 100000) :
    Calls Tryz.prog 33 #[frV neg a n cap b m cap'] w (Gives (.int .i64 (sgn (qval neg (val la) (val lb)).num)) w) := by
  have HB := Lib.hid (below_alloc w (.cells #[.bool neg, .slice a n cap, .slice b m cap'] 41))
  have HA := Lib.hid (ha.later HB.out)
  have HC := Lib.hid (hb.later HB.out)
  have HX := Lib.hid (blk_new w #[.bool neg, .slice a n cap, .slice b m cap'] 41)
  clear ha hb
  have HZ0 : Hid (val lb = 0 → sgn (qval neg (val la) (val lb)).num = 0) := Lib.hid (fun h => by rw [qval_none neg (.inl h)]; rfl)
  have HZ1 : Hid (val lb ≠ 0 → sgn (qval neg (val la) (val lb)).num = sgn (zval neg (val la))) := Lib.hid (fun h => fc_qsign h)
  generalize (qval neg (val la) (val lb)).num = y at *
  go_enter Tryz.func33, Tryz.ntmps33
  unfold frV
  obtain ⟨vk0, vk1, vk2⟩ := fcells_3 HX.out
  go_wp2_with fail
  refine (natSaid.zero b m cap' lb _ HC.out (by omega)).mono ?_
  rintro e wv1 ⟨rfl, b⟩
  clear vk0 vk1 vk2
  replace HB := Lib.hid (below_then HB.out b)
  replace HX := Lib.hid (blk_later HX.out b)
  replace HA := Lib.hid (HA.out.later b)
  replace HC := Lib.hid (HC.out.later b)
  clear b
  by_cases h0 : val lb = 0
  · have HS := Lib.hid (HZ0.out h0)
    rw [decide_eq_true h0]
    clear h0 HZ0 HZ1
    go_wp2
    go_ret
    exact ⟨by rw [HS.out]; rfl, HB.out⟩
  · have HS := Lib.hid (HZ1.out h0)
    rw [decide_eq_false h0]
    clear h0 HZ0 HZ1
    obtain ⟨k0, k1, k2⟩ := fcells_3 HX.out
    go_wp2_with fail
    refine (whole_sign neg a n cap la _ HA.out hn).mono ?_
    rintro e w2 ⟨rfl, b⟩
    go_wp2
    go_ret
    exact ⟨by rw [HS.out]; rfl, below_then HB.out b⟩
set_option maxRecDepth 4096 in
set_option maxHeartbeats 4000000 in
theorem frac_size (neg : Bool) (a : Option Addr) (n cap : Nat) (la : List Nat) (b : Option Addr) (m cap' : Nat) (lb : List Nat) (w : World) (ha : Wd w a n cap la) (hb : Wd w b m cap' lb) (hn : n ≤ 100000) (hm : m ≤ 100000) :
    Calls Tryz.prog 55 #[frV neg a n cap b m cap'] w (Gives (.int .i64 ((blen (val la) + blen (val lb) : Nat) : Int)) w) := by
  have HB := Lib.hid (below_alloc w (.cells #[.bool neg, .slice a n cap, .slice b m cap'] 41))
  have HA := Lib.hid (ha.later HB.out)
  have HC := Lib.hid (hb.later HB.out)
  have HX := Lib.hid (blk_new w #[.bool neg, .slice a n cap, .slice b m cap'] 41)
  have hla := blen_words ha
  have hlb := blen_words hb
  clear ha hb
  go_enter Tryz.func55, Tryz.ntmps55
  unfold frV
  go_wp2
  generalize (w.alloc (.cells #[.bool neg, .slice a n cap, .slice b m cap'] 41)) = W at *
  generalize hx : blen (val la) = x at *
  generalize hy : blen (val lb) = y at *
  have EX := Lib.hid hx
  have EY := Lib.hid hy
  clear hx hy
  replace HB := Lib.hid (below_then HB.out ((Below.refl _ _).drew : Below W.heap.size W W.drew))
  replace HX : Hid (W.drew.heap[w.heap.size]? = _) := Lib.hid HX.out
  replace HA := Lib.hid (HA.out.later ((Below.refl _ _).drew : Below W.heap.size W W.drew))
  replace HC := Lib.hid (HC.out.later ((Below.refl _ _).drew : Below W.heap.size W W.drew))
  have pSn := fcells_3 HX.out
  go_region_held3 (fun w' => w'.cell? ⟨w.heap.size, 0, none⟩ = some (.bool neg) ∧ w'.cell? ⟨w.heap.size, 1, none⟩ = some (.slice a n cap) ∧ w'.cell? ⟨w.heap.size, 2, none⟩ = some (.slice b m cap')) (exact pSn)
    (first
    | (go_at_call 91; (first
      | (have pm1 := pM1; refine (twos_len_at b m cap' lb y _ HC.out (by omega) EY.out).mono ?_; rintro e wp2 ⟨rfl, b⟩; replace HB := Lib.hid (below_then HB.out b); replace HX := Lib.hid (blk_later HX.out b); replace HA := Lib.hid (HA.out.later b); replace HC := Lib.hid (HC.out.later b); clear b; clear pSn; have pSn := fcells_3 HX.out; clear pM1 pm1; have pM2 := True.intro)
      | (refine (twos_len_at a n cap la x _ HA.out (by omega) EX.out).mono ?_; rintro e wp1 ⟨rfl, b⟩; replace HB := Lib.hid (below_then HB.out b); replace HX := Lib.hid (blk_later HX.out b); replace HA := Lib.hid (HA.out.later b); replace HC := Lib.hid (HC.out.later b); clear b; clear pSn; have pSn := fcells_3 HX.out; have pM1 := True.intro))))
  go_wp2
  go_ret
  have HW : IntKind.i64.wrap ((x : Int) + (y : Int)) = ((x + y : Nat) : Int) := by rw [IntKind.wrap_i64]; omega
  exact ⟨by rw [← HW]; rfl, HB.out⟩
set_option maxRecDepth 4096 in
set_option maxHeartbeats 4000000 in
theorem frac_product (na : Bool) (a : Option Addr) (n cap : Nat) (la : List Nat) (b : Option Addr) (m cap' : Nat) (lb : List Nat) (nb : Bool) (a' : Option Addr) (n' c' : Nat) (la' : List Nat) (b' : Option Addr) (m' d' : Nat) (lb' : List Nat) (w : World) (ha : Wd w a n cap la) (hb : Wd w b m cap' lb) (ha' : Wd w a' n' c' la') (hb' : Wd w b' m' d' lb') (hn : n ≤ 100000) (hm : m ≤ 100000) (hn' : n' ≤ 100000) (hm' : m' ≤ 100000) :
    Calls Tryz.prog 82 #[frV na a n cap b m cap', frV nb a' n' c' b' m' d'] w (LstR (zval na (val la) * zval nb (val la')) (val lb * val lb') w) := by
  have HB := Lib.hid (below_then (below_then (below_alloc w (.cells #[.bool na, .slice a n cap, .slice b m cap'] 41)) (below_alloc _ (.cells #[.bool nb, .slice a' n' c', .slice b' m' d'] 41))) (below_alloc _ (.cells #[.bool false, .slice none 0 0, .slice none 0 0] 41)))
  have HA := Lib.hid (ha.later HB.out)
  have HC := Lib.hid (hb.later HB.out)
  have HA' := Lib.hid (ha'.later HB.out)
  have HC' := Lib.hid (hb'.later HB.out)
  obtain ⟨hx1, hx2, hx3⟩ := boxes3_at9 w #[.bool na, .slice a n cap, .slice b m cap'] #[.bool nb, .slice a' n' c', .slice b' m' d'] #[.bool false, .slice none 0 0, .slice none 0 0] 41 41 41
  have HX := Lib.hid hx1
  have HY := Lib.hid hx2
  have HR := Lib.hid hx3
  have ta := ha.trim_le
  have tb := hb.trim_le
  have ta' := ha'.trim_le
  have tb' := hb'.trim_le
  clear ha hb ha' hb' hx1 hx2 hx3
  obtain ⟨z, hz⟩ : ∃ z, zval na (val la) * zval nb (val la') = z := ⟨_, rfl⟩
  rw [hz]
  have HZ := Lib.hid hz
  clear hz
  go_enter Tryz.func82, Tryz.ntmps82
  unfold frV
  go_wp2
  generalize (((w.alloc (.cells #[.bool na, .slice a n cap, .slice b m cap'] 41)).alloc (.cells #[.bool nb, .slice a' n' c', .slice b' m' d'] 41)).alloc (.cells #[.bool false, .slice none 0 0, .slice none 0 0] 41)) = W at *
  replace HB := Lib.hid (below_then HB.out ((Below.refl _ _).drew : Below W.heap.size W W.drew))
  replace HX : Hid (W.drew.heap[w.heap.size]? = _) := Lib.hid HX.out
  replace HY : Hid (W.drew.heap[w.heap.size + 1]? = _) := Lib.hid HY.out
  replace HR : Hid (W.drew.heap[w.heap.size + 1 + 1]? = some (.cells #[.bool false, .slice none 0 0, .slice none 0 0] 41 (0, 0))) := Lib.hid HR.out
  replace HA := Lib.hid (HA.out.later ((Below.refl _ _).drew : Below W.heap.size W W.drew))
  replace HC := Lib.hid (HC.out.later ((Below.refl _ _).drew : Below W.heap.size W W.drew))
  replace HA' := Lib.hid (HA'.out.later ((Below.refl _ _).drew : Below W.heap.size W W.drew))
  replace HC' := Lib.hid (HC'.out.later ((Below.refl _ _).drew : Below W.heap.size W W.drew))
  have pSn := fcells_3_3 HX.out HY.out
  go_region_held3 (fun w' => w'.cell? ⟨w.heap.size, 0, none⟩ = some (.bool na) ∧ w'.cell? ⟨w.heap.size, 1, none⟩ = some (.slice a n cap) ∧ w'.cell? ⟨w.heap.size, 2, none⟩ = some (.slice b m cap') ∧ w'.cell? ⟨w.heap.size + 1, 0, none⟩ = some (.bool nb) ∧ w'.cell? ⟨w.heap.size + 1, 1, none⟩ = some (.slice a' n' c') ∧ w'.cell? ⟨w.heap.size + 1, 2, none⟩ = some (.slice b' m' d')) (first | exact pSn | exact pSb _ _ _)
    (first
    | (go_at_call 129; (first
      | (refine (whole_mul na a n cap la nb a' n' c' la' _ HA.out HA'.out (by omega) (by omega)).mono ?_; rintro e wp1 ⟨a1, n1, c1, rfl, h1, b⟩; replace HB := Lib.hid (below_then HB.out b); replace HX := Lib.hid (blk_later HX.out b); replace HY := Lib.hid (blk_later HY.out b); replace HR := Lib.hid (blk_later HR.out b); replace HA := Lib.hid (HA.out.later b); replace HC := Lib.hid (HC.out.later b); replace HA' := Lib.hid (HA'.out.later b); replace HC' := Lib.hid (HC'.out.later b); rw [HZ.out] at h1 ⊢; have R1 := Lib.hid h1; clear h1; unfold whV; clear b; clear pSn; have pSn := fcells_3_3 HX.out HY.out; have pM1 := True.intro)))
    | (go_at_call 81; (first
      | (have pm1 := pM1; refine (prod_mul b m cap' lb b' m' d' lb' _ HC.out HC'.out (by omega) (by omega)).mono ?_; rintro e wp2 ⟨b1, m1, d1, rfl, g1, b⟩; replace HB := Lib.hid (below_then HB.out b); replace HX := Lib.hid (blk_later HX.out b); replace HY := Lib.hid (blk_later HY.out b); replace HR := Lib.hid (blk_later HR.out b); replace HA := Lib.hid (HA.out.later b); replace HC := Lib.hid (HC.out.later b); replace HA' := Lib.hid (HA'.out.later b); replace HC' := Lib.hid (HC'.out.later b); replace R1 := Lib.hid (R1.out.later b); have T1 := Lib.hid g1; clear g1; obtain ⟨r0, r1, r2⟩ := fcells_3 HR.out; have f0 := blk_free HR.out 0; have f1 := blk_free HR.out 1; have f2 := blk_free HR.out 2; have pSb := fun u v q => fcells_3_3 (blk_far3 (g := w.heap.size + 1 + 1) HX.out (by omega) u v q) (blk_far3 (g := w.heap.size + 1 + 1) HY.out (by omega) u v q); clear b; clear pSn; have pSn := fcells_3_3 HX.out HY.out; clear pM1 pm1; have pM2 := True.intro))))
  have HG := Lib.hid (blk_set3 HR.out (.bool (zneg z)) (.slice a1 n1 c1) (.slice b1 m1 d1))
  have HL := Lib.hid (below_set3 HB.out (show w.heap.size ≤ w.heap.size + 1 + 1 by omega) (.bool (zneg z)) (.slice a1 n1 c1) (.slice b1 m1 d1))
  have HW1 := Lib.hid (R1.out.stored3 HR.out (zneg z) a1 n1 c1 (.slice b1 m1 d1))
  have HW2 := Lib.hid (T1.out.stored3 HR.out (zneg z) a1 n1 c1 (.slice b1 m1 d1))
  go_wp2
  refine bodyPost_ret (results_cell_row Tryz.results82 _ _ (w.heap.size + 1 + 1) 41 #[.bool (zneg z), .slice a1 n1 c1, .slice b1 m1 d1] (0, 0) _ rfl HG.out Tryz.underlying41 rfl (by kernel_rfl)) rfl ?_
  exact ⟨a1, n1, c1, b1, m1, d1, rfl, HW1.out, HW2.out, HL.out⟩
end Go.Proofs.YtjeigdlhjghinaaGreatDoor

/-
  Package frac at this seat: New, Norm, Neg, Abs.
-/
namespace Go.Proofs.YtjeigdlhjghinaaGreatDoor
open Go.RowKit

set_option maxRecDepth 4096 in
set_option maxHeartbeats 4000000 in
theorem frac_new (neg : Bool) (a : Option Addr) (n cap : Nat) (la : List Nat) (b : Option Addr) (m cap' : Nat) (lb : List Nat) (w : World) (ha : Wd w a n cap la) (hb : Wd w b m cap' lb) (hn : n ≤ 40000) (hm : m ≤ 40000) :
    Calls Tryz.prog 111 #[whV neg a n cap, .slice b m cap'] w (LstQV (qval neg (val la) (val lb)) (.bool (decide (val lb ≠ 0))) w) := by
  have HB := Lib.hid (below_then (below_alloc w (.cells #[.bool neg, .slice a n cap] 39)) (below_alloc _ (.cells #[.bool false, .slice none 0 0, .slice none 0 0] 41)))
  have HA := Lib.hid (ha.later HB.out)
  have HC := Lib.hid (hb.later HB.out)
  obtain ⟨hx1, hx2⟩ := boxes_at w ((w.alloc (.cells #[.bool neg, .slice a n cap] 39)).alloc (.cells #[.bool false, .slice none 0 0, .slice none 0 0] 41)) #[.bool neg, .slice a n cap] #[.bool false, .slice none 0 0, .slice none 0 0] 39 41 (Below.refl _ _)
  have HX := Lib.hid hx1
  have HR := Lib.hid hx2
  have ta := ha.trim_le
  clear hx1 hx2 ha hb
  obtain ⟨q, hq⟩ : ∃ q, qval neg (val la) (val lb) = q := ⟨_, rfl⟩
  rw [hq]
  have HQ := Lib.hid hq
  clear hq
  go_enter Tryz.func111, Tryz.ntmps111
  unfold whV
  obtain ⟨vk0, vk1, vk2, vk3, vk4⟩ := fcells_2_3 HX.out HR.out
  go_wp2_with fail
  refine (natSaid.zero b m cap' lb _ HC.out (by omega)).mono ?_
  rintro e wv1 ⟨rfl, b⟩
  clear vk0 vk1 vk2 vk3 vk4
  replace HB := Lib.hid (below_then HB.out b)
  replace HX := Lib.hid (blk_later HX.out b)
  replace HR := Lib.hid (blk_later HR.out b)
  replace HA := Lib.hid (HA.out.later b)
  replace HC := Lib.hid (HC.out.later b)
  clear b
  by_cases h0 : val lb = 0
  · have HD : Hid (decide (val lb ≠ 0) = false) := Lib.hid (by rw [decide_eq_false]; exact fun h => h h0)
    have HQ0 : Hid (((0 : Int) : Rat) = q) := Lib.hid (by rw [← HQ.out, qval_none neg (.inl h0)]; rfl)
    rw [decide_eq_true h0]
    clear h0 HQ
    clear HA HC
    obtain ⟨uk0, uk1, uk2, uk3, uk4⟩ := fcells_2_3 HX.out HR.out
    go_wp2_with fail
    refine (frac_of 0 _ isInt_nought).mono ?_
    rintro e wu1 ⟨a1, n1, c1, b1, m1, d1, rfl, h1, g1, b⟩
    clear uk0 uk1 uk2 uk3 uk4
    replace HB := Lib.hid (below_then HB.out b)
    replace HX := Lib.hid (blk_later HX.out b)
    replace HR := Lib.hid (blk_later HR.out b)
    clear b
    rw [HQ0.out] at h1 g1 ⊢
    have R1 := Lib.hid h1
    have T1 := Lib.hid g1
    clear h1 g1
    unfold frV
    have q0 := blk_cell HR.out 0
    have q1 := blk_cell HR.out 1
    have q2 := blk_cell HR.out 2
    simp only [List.getElem?_toArray, List.getElem?_cons_zero, List.getElem?_cons_succ] at q0 q1 q2
    have f0 := blk_free HR.out 0
    have f1 := blk_free HR.out 1
    have f2 := blk_free HR.out 2
    replace HX := Lib.hid (blk_far3 HX.out (show w.heap.size ≠ w.heap.size + 1 by omega) (.bool (zneg q.num)) (.slice a1 n1 c1) (.slice b1 m1 d1))
    replace R1 := Lib.hid (R1.out.stored3 HR.out ((zneg q.num)) a1 n1 c1 (.slice b1 m1 d1))
    replace T1 := Lib.hid (T1.out.stored3 HR.out ((zneg q.num)) a1 n1 c1 (.slice b1 m1 d1))
    replace HB := Lib.hid (below_set3 HB.out (show w.heap.size ≤ w.heap.size + 1 by omega) (.bool (zneg q.num)) (.slice a1 n1 c1) (.slice b1 m1 d1))
    replace HR := Lib.hid (blk_set3 HR.out (.bool (zneg q.num)) (.slice a1 n1 c1) (.slice b1 m1 d1))
    go_wp2
    refine bodyPost_ret (results_row_tmp Tryz.results111 _ _ (w.heap.size + 1) 41 #[.bool (zneg q.num), .slice a1 n1 c1, .slice b1 m1 d1] (0, 0) _ rfl HR.out Tryz.underlying41 rfl (by kernel_rfl)) rfl ?_
    exact ⟨a1, n1, c1, b1, m1, d1, by rw [HD.out]; rfl, R1.out, T1.out, HB.out⟩
  · have HD : Hid (decide (val lb ≠ 0) = true) := Lib.hid (decide_eq_true h0)
    have HZ : Hid (zval neg (val (dg (val la / Nat.gcd (val la) (val lb)))) = q.num) := Lib.hid (by rw [val_dg, ← HQ.out]; exact (qval_parts neg h0).1.symm)
    have HE : Hid (val lb / Nat.gcd (val la) (val lb) = q.den) := Lib.hid (by rw [← HQ.out]; exact (qval_parts neg h0).2.symm)
    have ql : (dg (val la / Nat.gcd (val la) (val lb))).length ≤ n := Nat.le_trans (dg_length_mono (Nat.div_le_self _ _)) ta
    rw [decide_eq_false h0]
    clear h0 HQ
    obtain ⟨uk0, uk1, uk2, uk3, uk4⟩ := fcells_2_3 HX.out HR.out
    go_wp2_with fail
    refine (common_cancel a n cap la b m cap' lb _ HA.out HC.out hn hm).mono ?_
    rintro e wu1 ⟨a1, n1, c1, b2, m2, d2, rfl, h1, g2, b⟩
    clear uk0 uk1 uk2 uk3 uk4
    replace HB := Lib.hid (below_then HB.out b)
    replace HX := Lib.hid (blk_later HX.out b)
    replace HR := Lib.hid (blk_later HR.out b)
    clear HA
    clear HC
    clear b
    rw [HE.out] at g2
    have ln1 := h1.len
    have R1 := Lib.hid h1
    have T2 := Lib.hid g2
    clear h1 g2
    obtain ⟨uk0, uk1, uk2, uk3, uk4⟩ := fcells_2_3 HX.out HR.out
    go_wp2_with fail
    refine (whole_norm neg a1 n1 c1 _ _ R1.out (by omega)).mono ?_
    rintro e wu2 ⟨a2, n2, c2, rfl, h2, b⟩
    clear uk0 uk1 uk2 uk3 uk4
    replace HB := Lib.hid (below_then HB.out b)
    replace HX := Lib.hid (blk_later HX.out b)
    replace HR := Lib.hid (blk_later HR.out b)
    clear R1
    replace T2 := Lib.hid (T2.out.later b)
    clear b
    rw [HZ.out] at h2 ⊢
    have R2 := Lib.hid h2
    clear h2
    unfold whV
    have q0 := blk_cell HR.out 0
    have q1 := blk_cell HR.out 1
    have q2 := blk_cell HR.out 2
    simp only [List.getElem?_toArray, List.getElem?_cons_zero, List.getElem?_cons_succ] at q0 q1 q2
    have f0 := blk_free HR.out 0
    have f1 := blk_free HR.out 1
    have f2 := blk_free HR.out 2
    replace HX := Lib.hid (blk_far3 HX.out (show w.heap.size ≠ w.heap.size + 1 by omega) (.bool (zneg q.num)) (.slice a2 n2 c2) (.slice b2 m2 d2))
    replace T2 := Lib.hid (T2.out.stored3 HR.out ((zneg q.num)) a2 n2 c2 (.slice b2 m2 d2))
    replace R2 := Lib.hid (R2.out.stored3 HR.out ((zneg q.num)) a2 n2 c2 (.slice b2 m2 d2))
    replace HB := Lib.hid (below_set3 HB.out (show w.heap.size ≤ w.heap.size + 1 by omega) (.bool (zneg q.num)) (.slice a2 n2 c2) (.slice b2 m2 d2))
    replace HR := Lib.hid (blk_set3 HR.out (.bool (zneg q.num)) (.slice a2 n2 c2) (.slice b2 m2 d2))
    go_wp2
    refine bodyPost_ret (results_row_tmp Tryz.results111 _ _ (w.heap.size + 1) 41 #[.bool (zneg q.num), .slice a2 n2 c2, .slice b2 m2 d2] (0, 0) _ rfl HR.out Tryz.underlying41 rfl (by kernel_rfl)) rfl ?_
    exact ⟨a2, n2, c2, b2, m2, d2, by rw [HD.out]; rfl, R2.out, T2.out, HB.out⟩
set_option maxRecDepth 4096 in
set_option maxHeartbeats 4000000 in
theorem frac_norm (neg : Bool) (a : Option Addr) (n cap : Nat) (la : List Nat) (b : Option Addr) (m cap' : Nat) (lb : List Nat) (w : World) (ha : Wd w a n cap la) (hb : Wd w b m cap' lb) (hn : n ≤ 40000) (hm : m ≤ 40000) :
    Calls Tryz.prog 77 #[frV neg a n cap b m cap'] w (LstQ (qval neg (val la) (val lb)) w) := by
  have HB := Lib.hid (below_then (below_alloc w (.cells #[.bool neg, .slice a n cap, .slice b m cap'] 41)) (below_alloc _ (.cells #[.bool false, .slice none 0 0, .slice none 0 0] 41)))
  have HA := Lib.hid (ha.later HB.out)
  have HC := Lib.hid (hb.later HB.out)
  obtain ⟨hx1, hx2⟩ := boxes_at w ((w.alloc (.cells #[.bool neg, .slice a n cap, .slice b m cap'] 41)).alloc (.cells #[.bool false, .slice none 0 0, .slice none 0 0] 41)) #[.bool neg, .slice a n cap, .slice b m cap'] #[.bool false, .slice none 0 0, .slice none 0 0] 41 41 (Below.refl _ _)
  have HX := Lib.hid hx1
  have HR := Lib.hid hx2
  clear hx1 hx2 ha hb
  obtain ⟨q, hq⟩ : ∃ q, qval neg (val la) (val lb) = q := ⟨_, rfl⟩
  rw [hq]
  have HQ := Lib.hid hq
  clear hq
  go_enter Tryz.func77, Tryz.ntmps77
  unfold frV
  obtain ⟨vk0, vk1, vk2, vk3, vk4, vk5⟩ := fcells_3_3 HX.out HR.out
  go_wp2_with fail
  refine (frac_new neg a n cap la b m cap' lb _ HA.out HC.out hn hm).mono ?_
  rintro e wv1 ⟨a1, n1, c1, b1, m1, d1, rfl, h1, g1, b⟩
  clear vk0 vk1 vk2 vk3 vk4 vk5
  replace HB := Lib.hid (below_then HB.out b)
  replace HX := Lib.hid (blk_later HX.out b)
  replace HR := Lib.hid (blk_later HR.out b)
  clear HA
  clear HC
  clear b
  rw [HQ.out] at h1 g1 ⊢
  have R1 := Lib.hid h1
  have T1 := Lib.hid g1
  clear h1 g1
  generalize decide (val lb ≠ 0) = s at *
  unfold frV
  have HP : Hid ((World.alloc wv1 (.cells #[.bool (zneg q.num), .slice a1 n1 c1, .slice b1 m1 d1] 41)).heap[wv1.heap.size]? = some (.cells #[.bool (zneg q.num), .slice a1 n1 c1, .slice b1 m1 d1] 41 (0, 0))) := Lib.hid (blk_new wv1 _ _)
  replace HB := Lib.hid (below_then HB.out (below_alloc wv1 (.cells #[.bool (zneg q.num), .slice a1 n1 c1, .slice b1 m1 d1] 41)))
  replace HX := Lib.hid (blk_later HX.out (below_alloc wv1 (.cells #[.bool (zneg q.num), .slice a1 n1 c1, .slice b1 m1 d1] 41)))
  replace HR := Lib.hid (blk_later HR.out (below_alloc wv1 (.cells #[.bool (zneg q.num), .slice a1 n1 c1, .slice b1 m1 d1] 41)))
  replace R1 := Lib.hid (R1.out.later (below_alloc wv1 (.cells #[.bool (zneg q.num), .slice a1 n1 c1, .slice b1 m1 d1] 41)))
  replace T1 := Lib.hid (T1.out.later (below_alloc wv1 (.cells #[.bool (zneg q.num), .slice a1 n1 c1, .slice b1 m1 d1] 41)))
  obtain ⟨vk0, vk1, vk2, vk3, vk4, vk5, vk6, vk7, vk8⟩ := fcells_3_3_3 HX.out HR.out HP.out
  have q0 := blk_cell HR.out 0
  have q1 := blk_cell HR.out 1
  have q2 := blk_cell HR.out 2
  simp only [List.getElem?_toArray, List.getElem?_cons_zero, List.getElem?_cons_succ] at q0 q1 q2
  have f0 := blk_free HR.out 0
  have f1 := blk_free HR.out 1
  have f2 := blk_free HR.out 2
  replace R1 := Lib.hid (R1.out.stored3 HR.out ((zneg q.num)) a1 n1 c1 (.slice b1 m1 d1))
  replace T1 := Lib.hid (T1.out.stored3 HR.out ((zneg q.num)) a1 n1 c1 (.slice b1 m1 d1))
  replace HB := Lib.hid (below_set3 HB.out (show w.heap.size ≤ w.heap.size + 1 by omega) (.bool (zneg q.num)) (.slice a1 n1 c1) (.slice b1 m1 d1))
  replace HR := Lib.hid (blk_set3 HR.out (.bool (zneg q.num)) (.slice a1 n1 c1) (.slice b1 m1 d1))
  go_wp2
  refine bodyPost_ret (results_cell_row Tryz.results77 _ _ (w.heap.size + 1) 41 #[.bool (zneg q.num), .slice a1 n1 c1, .slice b1 m1 d1] (0, 0) _ rfl HR.out Tryz.underlying41 rfl (by kernel_rfl)) rfl ?_
  exact ⟨a1, n1, c1, b1, m1, d1, rfl, R1.out, T1.out, HB.out⟩
theorem fc_qabs (neg : Bool) (u v : Nat) : qabs (qval neg u v) = qval false u v := by
  have h0 : ¬ (qval false u v).num < 0 := by
    by_cases hv : v = 0
    · rw [qval_none false (.inl hv)]; exact fun h => by cases h
    · rw [(qval_parts false hv).1, zval_false]; exact Int.not_lt.2 (Int.natCast_nonneg _)
  cases neg with
  | false => unfold qabs; rw [if_neg h0]
  | true =>
    have h1 : qval true u v = -qval false u v := fc_qval_neg false u v
    rw [h1]
    unfold qabs
    rw [Rat.neg_num]
    by_cases h2 : (qval false u v).num = 0
    · rw [if_neg (by omega), Rat.num_eq_zero.1 h2]; rfl
    · rw [if_pos (by omega), Rat.neg_neg]
set_option maxRecDepth 4096 in
set_option maxHeartbeats 4000000 in
theorem frac_abs (neg : Bool) (a : Option Addr) (n cap : Nat) (la : List Nat) (b : Option Addr) (m cap' : Nat) (lb : List Nat) (w : World) (ha : Wd w a n cap la) (hb : Wd w b m cap' lb) (hn : n ≤ 40000) (hm : m ≤ 40000) :
    Calls Tryz.prog 51 #[frV neg a n cap b m cap'] w (LstQ (qabs (qval neg (val la) (val lb))) w) := by
  have HB := Lib.hid (below_then (below_alloc w (.cells #[.bool false, .slice a n cap, .slice b m cap'] 41)) (below_alloc _ (.cells #[.bool false, .slice none 0 0, .slice none 0 0] 41)))
  have HA := Lib.hid (ha.later HB.out)
  have HC := Lib.hid (hb.later HB.out)
  obtain ⟨hx1, hx2⟩ := boxes_at w ((w.alloc (.cells #[.bool false, .slice a n cap, .slice b m cap'] 41)).alloc (.cells #[.bool false, .slice none 0 0, .slice none 0 0] 41)) #[.bool false, .slice a n cap, .slice b m cap'] #[.bool false, .slice none 0 0, .slice none 0 0] 41 41 (Below.refl _ _)
  have HX := Lib.hid hx1
  have HR := Lib.hid hx2
  clear hx1 hx2 ha hb
  obtain ⟨q, hq⟩ : ∃ q, qabs (qval neg (val la) (val lb)) = q := ⟨_, rfl⟩
  rw [hq]
  have HQ := Lib.hid hq
  clear hq
  have HF : Hid (qval false (val la) (val lb) = q) := Lib.hid (by rw [← HQ.out, fc_qabs])
  go_enter Tryz.func51, Tryz.ntmps51
  unfold frV
  obtain ⟨vk0, vk1, vk2, vk3, vk4, vk5⟩ := fcells_3_3 HX.out HR.out
  go_wp2_with fail
  refine (frac_norm false a n cap la b m cap' lb _ HA.out HC.out hn hm).mono ?_
  rintro e wv1 ⟨a1, n1, c1, b1, m1, d1, rfl, h1, g1, b⟩
  clear vk0 vk1 vk2 vk3 vk4 vk5
  replace HB := Lib.hid (below_then HB.out b)
  replace HX := Lib.hid (blk_later HX.out b)
  replace HR := Lib.hid (blk_later HR.out b)
  clear HA
  clear HC
  clear b
  rw [HF.out] at h1 g1 ⊢
  have R1 := Lib.hid h1
  have T1 := Lib.hid g1
  clear h1 g1
  unfold frV
  have q0 := blk_cell HR.out 0
  have q1 := blk_cell HR.out 1
  have q2 := blk_cell HR.out 2
  simp only [List.getElem?_toArray, List.getElem?_cons_zero, List.getElem?_cons_succ] at q0 q1 q2
  have f0 := blk_free HR.out 0
  have f1 := blk_free HR.out 1
  have f2 := blk_free HR.out 2
  replace HX := Lib.hid (blk_far3 HX.out (show w.heap.size ≠ w.heap.size + 1 by omega) (.bool (zneg q.num)) (.slice a1 n1 c1) (.slice b1 m1 d1))
  replace R1 := Lib.hid (R1.out.stored3 HR.out ((zneg q.num)) a1 n1 c1 (.slice b1 m1 d1))
  replace T1 := Lib.hid (T1.out.stored3 HR.out ((zneg q.num)) a1 n1 c1 (.slice b1 m1 d1))
  replace HB := Lib.hid (below_set3 HB.out (show w.heap.size ≤ w.heap.size + 1 by omega) (.bool (zneg q.num)) (.slice a1 n1 c1) (.slice b1 m1 d1))
  replace HR := Lib.hid (blk_set3 HR.out (.bool (zneg q.num)) (.slice a1 n1 c1) (.slice b1 m1 d1))
  go_wp2
  refine bodyPost_ret (results_cell_row Tryz.results51 _ _ (w.heap.size + 1) 41 #[.bool (zneg q.num), .slice a1 n1 c1, .slice b1 m1 d1] (0, 0) _ rfl HR.out Tryz.underlying41 rfl (by kernel_rfl)) rfl ?_
  exact ⟨a1, n1, c1, b1, m1, d1, rfl, R1.out, T1.out, HB.out⟩
end Go.Proofs.YtjeigdlhjghinaaGreatDoor

/-
  The document's answer for layer 9, in rational numbers: of right fractions.
-/
namespace Go.Proofs.YtjeigdlhjghinaaGreatDoor
open Go.RowKit

theorem qden_nz (q : Rat) : Hid (val (dg q.den) ≠ 0) := Lib.hid (by rw [val_dg]; exact q.den_nz)
theorem ref09_norm_q (v : Value) (q : Rat) (w : World) (h : Fr w v q 20000) : Calls Tryz.prog 26 #[v] w (LstQ q w) := by
  obtain ⟨neg, a, n, cap, la, b, m, cap', lb, rfl, ha, hb, hn, hm, rfl⟩ := h
  exact ref09_norm neg a n cap la b m cap' lb w ha hb (by omega) (by omega)
theorem ref09_abs_q (v : Value) (q : Rat) (w : World) (h : Rt w v q 15000) : Calls Tryz.prog 53 #[v] w (LstQ (qabs q) w) := by
  obtain ⟨a, n, cap, b, m, cap', rfl, ha, hb, hn, hm⟩ := h
  obtain ⟨h1, h2, h3⟩ := qabs_parts q
  refine (ref09_abs (zneg q.num) a n cap b m cap' w).mono fun e w' ⟨he, hw⟩ => ⟨a, n, cap, b, m, cap', ?_, ?_, ?_, hw⟩
  · rw [h3]; exact he
  · rw [h1]; exact ha.later hw
  · rw [h2]; exact hb.later hw
theorem ref09_add_q (v u : Value) (p q : Rat) (w : World) (h : Rt w v p 15000) (k : Rt w u q 15000) : Calls Tryz.prog 68 #[v, u] w (LstQ (p + q) w) := by
  obtain ⟨a, n, cap, b, m, cap', rfl, ha, hb, hn, hm⟩ := h
  obtain ⟨a', n', c', b', m', d', rfl, ha', hb', hn', hm'⟩ := k
  have h := ref09_add (zneg p.num) a n cap _ b m cap' _ (zneg q.num) a' n' c' _ b' m' d' _ w ha hb ha' hb' (by omega) (by omega) (by omega) (by omega) (qden_nz p) (qden_nz q)
  rwa [qval_dg, qval_dg] at h
theorem ref09_mul_q (v u : Value) (p q : Rat) (w : World) (h : Rt w v p 15000) (k : Rt w u q 15000) : Calls Tryz.prog 65 #[v, u] w (LstQ (p * q) w) := by
  obtain ⟨a, n, cap, b, m, cap', rfl, ha, hb, hn, hm⟩ := h
  obtain ⟨a', n', c', b', m', d', rfl, ha', hb', hn', hm'⟩ := k
  have h := ref09_mul (zneg p.num) a n cap _ b m cap' _ (zneg q.num) a' n' c' _ b' m' d' _ w ha hb ha' hb' (by omega) (by omega) (by omega) (by omega)
  rwa [qval_dg, qval_dg] at h
theorem ref09_cmp_q (v u : Value) (p q : Rat) (w : World) (h : Rt w v p 15000) (k : Rt w u q 15000) : Calls Tryz.prog 54 #[v, u] w (Gives (.int .i64 (sgn (p - q).num)) w) := by
  obtain ⟨a, n, cap, b, m, cap', rfl, ha, hb, hn, hm⟩ := h
  obtain ⟨a', n', c', b', m', d', rfl, ha', hb', hn', hm'⟩ := k
  have h := ref09_cmp (zneg p.num) a n cap _ b m cap' _ (zneg q.num) a' n' c' _ b' m' d' _ w ha hb ha' hb' (by omega) (by omega) (by omega) (by omega) (qden_nz p)
  rwa [qval_dg, qval_dg, ← Rat.sub_eq_add_neg] at h
end Go.Proofs.YtjeigdlhjghinaaGreatDoor

/-
  How long right fractions become that are reckoned; what stands in the field's laws. Nothing of the program.
-/
namespace Go.Proofs.YtjeigdlhjghinaaGreatDoor

theorem dg_sum_length (x y : Nat) : (dg (x + y)).length ≤ max (dg x).length (dg y).length + 1 := by
  apply dg_length_le
  have h1 := val_lt (okw_dg x)
  have h2 := val_lt (okw_dg y)
  rw [val_dg] at h1 h2
  have h3 : 4294967296 ^ (dg x).length ≤ 4294967296 ^ max (dg x).length (dg y).length := Nat.pow_le_pow_right (by decide) (Nat.le_max_left _ _)
  have h4 : 4294967296 ^ (dg y).length ≤ 4294967296 ^ max (dg x).length (dg y).length := Nat.pow_le_pow_right (by decide) (Nat.le_max_right _ _)
  rw [Nat.pow_succ]
  omega
theorem qlen_parts (s : Int) (v : Nat) : qlen (mkRat s v) ≤ max (dg s.natAbs).length (dg v).length + 1 := by
  have h := qval_len (zneg s) s.natAbs v
  unfold qval at h
  rw [zval_of] at h
  exact qlen_le (by omega) (by omega)
theorem qlen_add (p q : Rat) : qlen (p + q) ≤ qlen p + qlen q + 2 := by
  have h1 := qlen_parts (p.num * q.den + q.num * p.den) (p.den * q.den)
  rw [show mkRat (p.num * q.den + q.num * p.den) (p.den * q.den) = p + q from (Rat.add_def' p q).symm] at h1
  have h2 : (dg (p.num * q.den + q.num * p.den).natAbs).length ≤ (dg (p.num.natAbs * q.den + q.num.natAbs * p.den)).length := by
    refine dg_length_mono (Nat.le_trans (Int.natAbs_add_le _ _) ?_)
    rw [Int.natAbs_mul, Int.natAbs_mul, Int.natAbs_natCast, Int.natAbs_natCast]
    exact Nat.le_refl _
  have h3 := dg_sum_length (p.num.natAbs * q.den) (q.num.natAbs * p.den)
  have h4 := dg_mul_length p.num.natAbs q.den
  have h5 := dg_mul_length q.num.natAbs p.den
  have h6 := dg_mul_length p.den q.den
  have h7 := qlen_num p
  have h8 := qlen_num q
  have h9 := qlen_den p
  have h10 := qlen_den q
  omega
theorem qlen_abs (q : Rat) : qlen (qabs q) = qlen q := by unfold qlen; rw [(qabs_parts q).1, (qabs_parts q).2.1]
theorem qlen_mul (p q : Rat) : qlen (p * q) ≤ qlen p + qlen q + 1 := by
  have h1 := qlen_parts (p.num * q.num) (p.den * q.den)
  rw [show mkRat (p.num * q.num) (p.den * q.den) = p * q from (Rat.mul_def' p q).symm] at h1
  have h2 : (dg (p.num * q.num).natAbs).length = (dg (p.num.natAbs * q.num.natAbs)).length := by rw [Int.natAbs_mul]
  have h4 := dg_mul_length p.num.natAbs q.num.natAbs
  have h6 := dg_mul_length p.den q.den
  have h7 := qlen_num p
  have h8 := qlen_num q
  have h9 := qlen_den p
  have h10 := qlen_den q
  omega
theorem qlen_nought : qlen 0 = 1 := by
  show max (dg (0 : Nat)).length (dg (1 : Nat)).length = 1
  rw [dg_zero, dg_word (by decide) (by decide)]; rfl
theorem qlen_int {z : Int} (h : isInt z) : qlen (z : Rat) ≤ 2 := by
  unfold isInt at h
  refine qlen_le ?_ ?_
  · rw [Rat.num_intCast]
    refine dg_length_le ?_
    have : (4294967296 : Nat) ^ 2 = 18446744073709551616 := by decide
    rw [this]; omega
  · rw [Rat.den_intCast]
    have := dg_one_length; omega
end Go.Proofs.YtjeigdlhjghinaaGreatDoor

/-
  Package frac at this seat: Mul, Quo, Ratio.
-/
namespace Go.Proofs.YtjeigdlhjghinaaGreatDoor
open Go.RowKit

set_option maxRecDepth 4096 in
set_option maxHeartbeats 4000000 in
theorem frac_mul (na : Bool) (a : Option Addr) (n cap : Nat) (la : List Nat) (b : Option Addr) (m cap' : Nat) (lb : List Nat) (nb : Bool) (a' : Option Addr) (n' c' : Nat) (la' : List Nat) (b' : Option Addr) (m' d' : Nat) (lb' : List Nat) (w : World) (ha : Wd w a n cap la) (hb : Wd w b m cap' lb) (ha' : Wd w a' n' c' la') (hb' : Wd w b' m' d' lb') (hn : n ≤ 15000) (hm : m ≤ 15000) (hn' : n' ≤ 15000) (hm' : m' ≤ 15000) :
    Calls Tryz.prog 44 #[frV na a n cap b m cap', frV nb a' n' c' b' m' d'] w (LstQ (qval na (val la) (val lb) * qval nb (val la') (val lb')) w) := by
  have HB := Lib.hid (below_then (below_then (below_alloc w (.cells #[.bool na, .slice a n cap, .slice b m cap'] 41)) (below_alloc _ (.cells #[.bool nb, .slice a' n' c', .slice b' m' d'] 41))) (below_alloc _ (.cells #[.bool false, .slice none 0 0, .slice none 0 0] 41)))
  have HA := Lib.hid (ha.later HB.out)
  have HC := Lib.hid (hb.later HB.out)
  have HA' := Lib.hid (ha'.later HB.out)
  have HC' := Lib.hid (hb'.later HB.out)
  obtain ⟨hx1, hx2, hx3⟩ := boxes3_at9 w #[.bool na, .slice a n cap, .slice b m cap'] #[.bool nb, .slice a' n' c', .slice b' m' d'] #[.bool false, .slice none 0 0, .slice none 0 0] 41 41 41
  have HX := Lib.hid hx1
  have HY := Lib.hid hx2
  have HR := Lib.hid hx3
  have ta := ha.trim_le
  have tb := hb.trim_le
  have ta' := ha'.trim_le
  have tb' := hb'.trim_le
  clear ha hb ha' hb' hx1 hx2 hx3
  obtain ⟨q, hq⟩ : ∃ q, qval na (val la) (val lb) * qval nb (val la') (val lb') = q := ⟨_, rfl⟩
  rw [hq]
  have HQ := Lib.hid hq
  clear hq
  have zl1 := zlen_mul (zval na (val la)) (zval nb (val la'))
  have zl2 := dg_mul_length (val lb) (val lb')
  rw [zval_abs, zval_abs] at zl1
  have HZ : Hid (qval (zneg (zval na (val la) * zval nb (val la'))) (val (dg (zval na (val la) * zval nb (val la')).natAbs)) (val (dg (val lb * val lb'))) = q) := Lib.hid (by rw [val_dg, val_dg, fc_qval_of, fc_qval_mul, HQ.out])
  go_enter Tryz.func44, Tryz.ntmps44
  unfold frV
  obtain ⟨vk0, vk1, vk2, vk3, vk4, vk5, vk6, vk7, vk8⟩ := fcells_3_3_3 HX.out HY.out HR.out
  go_wp2_with fail
  refine (frac_product na a n cap la b m cap' lb nb a' n' c' la' b' m' d' lb' _ HA.out HC.out HA'.out HC'.out (by omega) (by omega) (by omega) (by omega)).mono ?_
  rintro e wv1 ⟨a1, n1, c1, b1, m1, d1, rfl, h1, g1, b⟩
  clear vk0 vk1 vk2 vk3 vk4 vk5 vk6 vk7 vk8
  replace HB := Lib.hid (below_then HB.out b)
  replace HX := Lib.hid (blk_later HX.out b)
  replace HY := Lib.hid (blk_later HY.out b)
  replace HR := Lib.hid (blk_later HR.out b)
  clear HA
  clear HC
  clear HA'
  clear HC'
  clear b
  have ln1 := h1.len
  have lm1 := g1.len
  have R1 := Lib.hid h1
  have T1 := Lib.hid g1
  clear h1 g1
  unfold frV
  obtain ⟨vk0, vk1, vk2, vk3, vk4, vk5, vk6, vk7, vk8⟩ := fcells_3_3_3 HX.out HY.out HR.out
  go_wp2_with fail
  refine (frac_norm _ a1 n1 c1 _ b1 m1 d1 _ _ R1.out T1.out (by omega) (by omega)).mono ?_
  rintro e wv2 ⟨a2, n2, c2, b2, m2, d2, rfl, h2, g2, b⟩
  clear vk0 vk1 vk2 vk3 vk4 vk5 vk6 vk7 vk8
  replace HB := Lib.hid (below_then HB.out b)
  replace HX := Lib.hid (blk_later HX.out b)
  replace HY := Lib.hid (blk_later HY.out b)
  replace HR := Lib.hid (blk_later HR.out b)
  clear R1
  clear T1
  clear b
  rw [HZ.out] at h2 g2 ⊢
  have R2 := Lib.hid h2
  have T2 := Lib.hid g2
  clear h2 g2
  unfold frV
  have q0 := blk_cell HR.out 0
  have q1 := blk_cell HR.out 1
  have q2 := blk_cell HR.out 2
  simp only [List.getElem?_toArray, List.getElem?_cons_zero, List.getElem?_cons_succ] at q0 q1 q2
  have f0 := blk_free HR.out 0
  have f1 := blk_free HR.out 1
  have f2 := blk_free HR.out 2
  replace HX := Lib.hid (blk_far3 HX.out (show w.heap.size ≠ w.heap.size + 1 + 1 by omega) (.bool (zneg q.num)) (.slice a2 n2 c2) (.slice b2 m2 d2))
  replace HY := Lib.hid (blk_far3 HY.out (show w.heap.size + 1 ≠ w.heap.size + 1 + 1 by omega) (.bool (zneg q.num)) (.slice a2 n2 c2) (.slice b2 m2 d2))
  replace R2 := Lib.hid (R2.out.stored3 HR.out ((zneg q.num)) a2 n2 c2 (.slice b2 m2 d2))
  replace T2 := Lib.hid (T2.out.stored3 HR.out ((zneg q.num)) a2 n2 c2 (.slice b2 m2 d2))
  replace HB := Lib.hid (below_set3 HB.out (show w.heap.size ≤ w.heap.size + 1 + 1 by omega) (.bool (zneg q.num)) (.slice a2 n2 c2) (.slice b2 m2 d2))
  replace HR := Lib.hid (blk_set3 HR.out (.bool (zneg q.num)) (.slice a2 n2 c2) (.slice b2 m2 d2))
  go_wp2
  refine bodyPost_ret (results_cell_row Tryz.results44 _ _ (w.heap.size + 1 + 1) 41 #[.bool (zneg q.num), .slice a2 n2 c2, .slice b2 m2 d2] (0, 0) _ rfl HR.out Tryz.underlying41 rfl (by kernel_rfl)) rfl ?_
  exact ⟨a2, n2, c2, b2, m2, d2, rfl, R2.out, T2.out, HB.out⟩
end Go.Proofs.YtjeigdlhjghinaaGreatDoor
