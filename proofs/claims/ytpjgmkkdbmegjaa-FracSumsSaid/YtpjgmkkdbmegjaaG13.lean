/-
  Several texts of this claim as one, group 13.
-/
import Derived.Test.YtpjgmkkdbmegjaaG12
import Derived.Test.YtpjgmkkdbmegjaaG7
import Derived.Deep.RegionHeld3
import Derived.Test.YtpjgmkkdbmegjaaG10
import Derived.Test.YtpjgmkkdbmegjaaG8
import Derived.Test.YtpjgmkkdbmegjaaG9
import Derived.Test.YtpjgmkkdbmegjaaG6
/-
  The contract of the document's answer for layer 9: Int.
-/
namespace Go.Proofs.Ytpjgmkkdbmegjaa
open Go.RowKit

theorem cells_3_1 {w : World} {A0 A1 : Nat} {c0_0 c0_1 c0_2 c1_0 : Value} {t0 t1 : TypeId} (h0 : w.heap[A0]? = some (.cells #[c0_0, c0_1, c0_2] t0 (0, 0))) (h1 : w.heap[A1]? = some (.cells #[c1_0] t1 (0, 0))) : w.cell? ⟨A0, 0, none⟩ = some c0_0 ∧ w.cell? ⟨A0, 1, none⟩ = some c0_1 ∧ w.cell? ⟨A0, 2, none⟩ = some c0_2 ∧ w.cell? ⟨A1, 0, none⟩ = some c1_0 := ⟨blk_cell h0 0, blk_cell h0 1, blk_cell h0 2, blk_cell h1 0⟩
theorem cells_3_1_1 {w : World} {A0 A1 A2 : Nat} {c0_0 c0_1 c0_2 c1_0 c2_0 : Value} {t0 t1 t2 : TypeId} (h0 : w.heap[A0]? = some (.cells #[c0_0, c0_1, c0_2] t0 (0, 0))) (h1 : w.heap[A1]? = some (.cells #[c1_0] t1 (0, 0))) (h2 : w.heap[A2]? = some (.cells #[c2_0] t2 (0, 0))) : w.cell? ⟨A0, 0, none⟩ = some c0_0 ∧ w.cell? ⟨A0, 1, none⟩ = some c0_1 ∧ w.cell? ⟨A0, 2, none⟩ = some c0_2 ∧ w.cell? ⟨A1, 0, none⟩ = some c1_0 ∧ w.cell? ⟨A2, 0, none⟩ = some c2_0 := ⟨blk_cell h0 0, blk_cell h0 1, blk_cell h0 2, blk_cell h1 0, blk_cell h2 0⟩
theorem qval_int {z : Int} {u : Nat} {neg : Bool} (h : zval neg u = z) : qval neg u 1 = (z : Rat) := by
  unfold qval
  rw [h, Rat.mkRat_one]
set_option maxRecDepth 4096 in
set_option maxHeartbeats 4000000 in
theorem ref09_int (z : Int) (w : World) (hz : isInt z) : Calls Try.prog 11 #[.int .i64 z] w (LstQ (z : Rat) w) := by
  have hz1 : -9223372036854775808 ≤ z ∧ z ≤ 9223372036854775807 := hz
  have HB := Lib.hid (below_alloc w (.cells #[.bool false, .slice none 0 0, .slice none 0 0] 24))
  have HR : Hid ((w.alloc (.cells #[.bool false, .slice none 0 0, .slice none 0 0] 24)).heap[w.heap.size]? = some (.cells #[.bool false, .slice none 0 0, .slice none 0 0] 24 (0, 0))) := Lib.hid (blk_new w _ _)
  have H1 : Hid (val [1] = 1) := rfl
  clear hz
  by_cases hneg : z < 0
  · obtain ⟨k, hk⟩ : ∃ k : Nat, -(z + 1) = (k : Int) := ⟨(-(z + 1)).toNat, by omega⟩
    have hkb : k ≤ 9223372036854775807 := by omega
    have HQ : Hid (qval true (val (dg (val (dg k) + val [1]))) (val [1]) = (z : Rat)) := Lib.hid (by rw [H1.out, val_dg, val_dg]; exact qval_int (by rw [zval_true]; omega))
    have hl1 : (dg k).length ≤ 2 := dg_length_le (Nat.lt_of_le_of_lt hkb (by decide))
    have hl2 : (dg (val (dg k) + val [1])).length ≤ 4 := by have := dg_add_length (val (dg k)) 1; rw [H1.out]; rw [val_dg] at this ⊢; have h3 : (dg 1).length ≤ 1 := dg_length_le (by decide); omega
    go_enter Try.func11, Try.ntmps11
    obtain ⟨vk0, vk1, vk2⟩ := cells_3 HR.out
    go_wp2_with fail
    refine (ref02_of k _ (by omega)).mono ?_
    rintro e wv1 ⟨a1, n1, c1, rfl, h1, b⟩
    clear vk0 vk1 vk2
    replace HB := Lib.hid (below_then HB.out b)
    replace HR := Lib.hid (blk_later HR.out b)
    clear b
    have hn1 := h1.len
    have R1 := Lib.hid h1
    clear h1
    have HO1 : Hid ((World.alloc wv1 (.cells #[.int .u32 1] 61)).heap[wv1.heap.size]? = some (.cells #[.int .u32 1] 61 (0, 0))) := Lib.hid (blk_new wv1 _ _)
    replace HB := Lib.hid (below_then HB.out (below_alloc wv1 (.cells #[.int .u32 1] 61)))
    replace HR := Lib.hid (blk_later HR.out (below_alloc wv1 (.cells #[.int .u32 1] 61)))
    replace R1 := Lib.hid (R1.out.later (below_alloc wv1 (.cells #[.int .u32 1] 61)))
    obtain ⟨vk0, vk1, vk2, vk3⟩ := cells_3_1 HR.out HO1.out
    go_wp2_with fail
    refine (ref02_add a1 n1 c1 _ _ 1 1 [1] _ R1.out (Wd.lit1 wv1 61 (x := 1) (by omega)) (by omega) (by omega)).mono ?_
    rintro e wv2 ⟨a2, n2, c2, rfl, h2, b⟩
    clear vk0 vk1 vk2 vk3
    replace HB := Lib.hid (below_then HB.out b)
    replace HR := Lib.hid (blk_later HR.out b)
    replace HO1 := Lib.hid (blk_later HO1.out b)
    clear R1
    clear b
    have hn2 := h2.len
    have R2 := Lib.hid h2
    clear h2
    have HO2 : Hid ((World.alloc wv2 (.cells #[.int .u32 1] 61)).heap[wv2.heap.size]? = some (.cells #[.int .u32 1] 61 (0, 0))) := Lib.hid (blk_new wv2 _ _)
    replace HB := Lib.hid (below_then HB.out (below_alloc wv2 (.cells #[.int .u32 1] 61)))
    replace HR := Lib.hid (blk_later HR.out (below_alloc wv2 (.cells #[.int .u32 1] 61)))
    replace HO1 := Lib.hid (blk_later HO1.out (below_alloc wv2 (.cells #[.int .u32 1] 61)))
    replace R2 := Lib.hid (R2.out.later (below_alloc wv2 (.cells #[.int .u32 1] 61)))
    obtain ⟨vk0, vk1, vk2, vk3, vk4⟩ := cells_3_1_1 HR.out HO1.out HO2.out
    go_wp2_with fail
    refine (ref09_norm true a2 n2 c2 _ _ 1 1 [1] _ R2.out (Wd.lit1 wv2 61 (x := 1) (by omega)) (by omega) (by omega)).mono ?_
    rintro e wv3 ⟨a3, n3, c3, b3x, m3x, d3x, rfl, h8, h9, b⟩
    clear vk0 vk1 vk2 vk3 vk4
    replace HB := Lib.hid (below_then HB.out b)
    replace HR := Lib.hid (blk_later HR.out b)
    replace HO1 := Lib.hid (blk_later HO1.out b)
    replace HO2 := Lib.hid (blk_later HO2.out b)
    clear R2
    clear b
    rw [HQ.out] at h8 h9 ⊢
    have R8 := Lib.hid h8
    have R9 := Lib.hid h9
    clear h8 h9 HQ hl2 hn1 hn2
    unfold frV
    have HG := Lib.hid (blk_set3 HR.out (.bool (zneg (z : Rat).num)) (.slice a3 n3 c3) (.slice b3x m3x d3x))
    have HL := Lib.hid (below_set3 HB.out (Nat.le_refl w.heap.size) (.bool (zneg (z : Rat).num)) (.slice a3 n3 c3) (.slice b3x m3x d3x))
    have HW1 := Lib.hid (R8.out.stored3 HR.out (zneg (z : Rat).num) a3 n3 c3 (.slice b3x m3x d3x))
    have HW2 := Lib.hid (R9.out.stored3 HR.out (zneg (z : Rat).num) a3 n3 c3 (.slice b3x m3x d3x))
    obtain ⟨k0, k1, k2⟩ := cells_3 HR.out
    have f0 := blk_free HR.out 0
    have f1 := blk_free HR.out 1
    have f2 := blk_free HR.out 2
    generalize (z : Rat) = q at *
    go_wp2
    refine bodyPost_ret (results_cell_row Try.results11 _ _ w.heap.size 24 #[.bool (zneg q.num), .slice a3 n3 c3, .slice b3x m3x d3x] (0, 0) _ rfl HG.out Try.underlying24 rfl (by kernel_rfl)) rfl ?_
    exact ⟨_, _, _, _, _, _, rfl, HW1.out, HW2.out, HL.out⟩
  · obtain ⟨k, hk⟩ : ∃ k : Nat, z = (k : Int) := ⟨z.toNat, by omega⟩
    have hkb : k ≤ 9223372036854775807 := by omega
    have HQ : Hid (qval false (val (dg k)) (val [1]) = (z : Rat)) := Lib.hid (by rw [H1.out, val_dg]; exact qval_int (by rw [zval_false]; omega))
    have hl1 : (dg k).length ≤ 2 := dg_length_le (Nat.lt_of_le_of_lt hkb (by decide))
    have hw : (k : Int) % 18446744073709551616 = (k : Int) := by omega
    go_enter Try.func11, Try.ntmps11
    obtain ⟨vk0, vk1, vk2⟩ := cells_3 HR.out
    go_wp2_with fail
    refine (ref02_of k _ (by omega)).mono ?_
    rintro e wv1 ⟨a1, n1, c1, rfl, h1, b⟩
    clear vk0 vk1 vk2
    replace HB := Lib.hid (below_then HB.out b)
    replace HR := Lib.hid (blk_later HR.out b)
    clear b
    have hn1 := h1.len
    have R1 := Lib.hid h1
    clear h1
    have HO1 : Hid ((World.alloc wv1 (.cells #[.int .u32 1] 61)).heap[wv1.heap.size]? = some (.cells #[.int .u32 1] 61 (0, 0))) := Lib.hid (blk_new wv1 _ _)
    replace HB := Lib.hid (below_then HB.out (below_alloc wv1 (.cells #[.int .u32 1] 61)))
    replace HR := Lib.hid (blk_later HR.out (below_alloc wv1 (.cells #[.int .u32 1] 61)))
    replace R1 := Lib.hid (R1.out.later (below_alloc wv1 (.cells #[.int .u32 1] 61)))
    obtain ⟨vk0, vk1, vk2, vk3⟩ := cells_3_1 HR.out HO1.out
    go_wp2_with fail
    refine (ref09_norm false a1 n1 c1 _ _ 1 1 [1] _ R1.out (Wd.lit1 wv1 61 (x := 1) (by omega)) (by omega) (by omega)).mono ?_
    rintro e wv2 ⟨a3, n3, c3, b3x, m3x, d3x, rfl, h8, h9, b⟩
    clear vk0 vk1 vk2 vk3
    replace HB := Lib.hid (below_then HB.out b)
    replace HR := Lib.hid (blk_later HR.out b)
    replace HO1 := Lib.hid (blk_later HO1.out b)
    clear R1
    clear b
    rw [HQ.out] at h8 h9 ⊢
    have R8 := Lib.hid h8
    have R9 := Lib.hid h9
    clear h8 h9 HQ hn1
    unfold frV
    have HG := Lib.hid (blk_set3 HR.out (.bool (zneg (z : Rat).num)) (.slice a3 n3 c3) (.slice b3x m3x d3x))
    have HL := Lib.hid (below_set3 HB.out (Nat.le_refl w.heap.size) (.bool (zneg (z : Rat).num)) (.slice a3 n3 c3) (.slice b3x m3x d3x))
    have HW1 := Lib.hid (R8.out.stored3 HR.out (zneg (z : Rat).num) a3 n3 c3 (.slice b3x m3x d3x))
    have HW2 := Lib.hid (R9.out.stored3 HR.out (zneg (z : Rat).num) a3 n3 c3 (.slice b3x m3x d3x))
    obtain ⟨k0, k1, k2⟩ := cells_3 HR.out
    have f0 := blk_free HR.out 0
    have f1 := blk_free HR.out 1
    have f2 := blk_free HR.out 2
    generalize (z : Rat) = q at *
    go_wp2
    refine bodyPost_ret (results_cell_row Try.results11 _ _ w.heap.size 24 #[.bool (zneg q.num), .slice a3 n3 c3, .slice b3x m3x d3x] (0, 0) _ rfl HG.out Try.underlying24 rfl (by kernel_rfl)) rfl ?_
    exact ⟨_, _, _, _, _, _, rfl, HW1.out, HW2.out, HL.out⟩
end Go.Proofs.Ytpjgmkkdbmegjaa

/-
  The contracts of the document's answer for layer 9: Size, Long.
-/
namespace Go.Proofs.Ytpjgmkkdbmegjaa
open Go.RowKit

theorem blen_words {w : World} {a : Option Addr} {n cap : Nat} {l : List Nat} (h : Wd w a n cap l) : blen (val l) ≤ 32 * n := by
  have h1 := val_lt h.ok
  rw [h.len, pow32] at h1
  exact blen_le.2 h1
theorem ref03_len_at (a : Option Addr) (n cap : Nat) (l : List Nat) (x : Nat) (w : World) (h : Wd w a n cap l) (hn : n ≤ 16777214) (hx : blen (val l) = x) : Calls Try.prog 56 #[.slice a n cap] w (Gives (.int .i64 (x : Int)) w) :=
  (ref03_len a n cap l w h hn).mono fun _ _ ⟨he, hw⟩ => ⟨by rw [he, hx], by subst hw; exact Below.refl _ _⟩
set_option maxRecDepth 4096 in
set_option maxHeartbeats 2000000 in
theorem ref09_size (neg : Bool) (a : Option Addr) (n cap : Nat) (la : List Nat) (b : Option Addr) (m cap' : Nat) (lb : List Nat) (w : World) (ha : Wd w a n cap la) (hb : Wd w b m cap' lb) (hn : n ≤ 100000) (hm : m ≤ 100000) :
    Calls Try.prog 19 #[frV neg a n cap b m cap'] w (Gives (.int .i64 ((blen (val la) + blen (val lb) : Nat) : Int)) w) := by
  have HB := Lib.hid (below_alloc w (.cells #[.bool neg, .slice a n cap, .slice b m cap'] 24))
  have HA := Lib.hid (ha.later HB.out)
  have HC := Lib.hid (hb.later HB.out)
  have HX : Hid ((w.alloc (.cells #[.bool neg, .slice a n cap, .slice b m cap'] 24)).heap[w.heap.size]? = some (.cells #[.bool neg, .slice a n cap, .slice b m cap'] 24 (0, 0))) := Lib.hid (blk_new w _ _)
  have hla := blen_words ha
  have hlb := blen_words hb
  clear ha hb
  go_enter Try.func19, Try.ntmps19
  unfold frV
  go_wp2
  generalize (w.alloc (.cells #[.bool neg, .slice a n cap, .slice b m cap'] 24)) = W at *
  generalize hx : blen (val la) = x at *
  generalize hy : blen (val lb) = y at *
  have EX := Lib.hid hx
  have EY := Lib.hid hy
  clear hx hy
  replace HB := Lib.hid (below_then HB.out ((Below.refl _ _).drew : Below W.heap.size W W.drew))
  replace HX : Hid (W.drew.heap[w.heap.size]? = _) := Lib.hid HX.out
  replace HA := Lib.hid (HA.out.later ((Below.refl _ _).drew : Below W.heap.size W W.drew))
  replace HC := Lib.hid (HC.out.later ((Below.refl _ _).drew : Below W.heap.size W W.drew))
  have pSn := cells_3 HX.out
  go_region_held3 (fun w' => w'.cell? ⟨w.heap.size, 0, none⟩ = some (.bool neg) ∧ w'.cell? ⟨w.heap.size, 1, none⟩ = some (.slice a n cap) ∧ w'.cell? ⟨w.heap.size, 2, none⟩ = some (.slice b m cap')) (exact pSn)
    (first
    | (go_at_call 56; (first
      | (have pm1 := pM1; refine (ref03_len_at b m cap' lb y _ HC.out (by omega) EY.out).mono ?_; rintro e wp2 ⟨rfl, b⟩; replace HB := Lib.hid (below_then HB.out b); replace HX := Lib.hid (blk_later HX.out b); replace HA := Lib.hid (HA.out.later b); replace HC := Lib.hid (HC.out.later b); clear b; clear pSn; have pSn := cells_3 HX.out; clear pM1 pm1; have pM2 := True.intro)
      | (refine (ref03_len_at a n cap la x _ HA.out (by omega) EX.out).mono ?_; rintro e wp1 ⟨rfl, b⟩; replace HB := Lib.hid (below_then HB.out b); replace HX := Lib.hid (blk_later HX.out b); replace HA := Lib.hid (HA.out.later b); replace HC := Lib.hid (HC.out.later b); clear b; clear pSn; have pSn := cells_3 HX.out; have pM1 := True.intro))))
  go_wp2
  go_ret
  have HW : IntKind.i64.wrap ((x : Int) + (y : Int)) = ((x + y : Nat) : Int) := by rw [IntKind.wrap_i64]; omega
  exact ⟨by rw [← HW]; rfl, HB.out⟩
set_option maxRecDepth 4096 in
theorem ref09_long (neg : Bool) (a : Option Addr) (n cap : Nat) (b : Option Addr) (m cap' : Nat) (k : Int) (w : World) :
    Calls Try.prog 9 #[frV neg a n cap b m cap', .int .i64 k] w (Gives (.bool (decide (k < (n : Int)) || decide (k < (m : Int)))) w) := by
  unfold frV
  go_enter Try.func9, Try.ntmps9
  by_cases h : k < (n : Int)
  · rw [decide_eq_true h, Bool.true_or]
    go_wp2
    go_ret
    exact ⟨rfl, below_alloc _ _⟩
  · rw [decide_eq_false h, Bool.false_or]
    go_wp2
    go_ret
    exact ⟨rfl, below_alloc _ _⟩
end Go.Proofs.Ytpjgmkkdbmegjaa

/-
  The contracts of the document's answer for layer 9: Pow.
-/
namespace Go.Proofs.Ytpjgmkkdbmegjaa
open Go.RowKit

theorem isInt_nought : isInt 0 := by unfold isInt; omega
theorem isInt_one : isInt 1 := by unfold isInt; omega
theorem rat_nought : ((0 : Int) : Rat) = 0 := rfl
theorem rat_one : ((1 : Int) : Rat) = 1 := rfl
/-- A right fraction in a box. -/
def BoxQ (w : World) (g : Nat) (t : TypeId) (q : Rat) : Prop :=
  ∃ (s : Bool) (a : Option Addr) (n cap : Nat) (b : Option Addr) (m cap' : Nat), w.heap[g]? = some (.cells #[.bool s, .slice a n cap, .slice b m cap'] t (0, 0)) ∧ s = zneg q.num ∧ Wd w a n cap (dg q.num.natAbs) ∧ Wd w b m cap' (dg q.den)
theorem BoxQ.later {w w' : World} {g : Nat} {t : TypeId} {q : Rat} (h : BoxQ w g t q) (hb : Below w.heap.size w w') : BoxQ w' g t q := by
  obtain ⟨s, a, n, cap, b, m, cap', h1, h2, h3, h4⟩ := h
  exact ⟨s, a, n, cap, b, m, cap', blk_later h1 hb, h2, h3.later hb, h4.later hb⟩
set_option maxRecDepth 4096 in
set_option maxHeartbeats 4000000 in
theorem ref09_pow_none (q : Rat) (a : Option Addr) (n cap : Nat) (b : Option Addr) (m cap' : Nat) (e : Int) (w : World) (ha : Wd w a n cap (dg q.num.natAbs)) (hb : Wd w b m cap' (dg q.den)) (he : e < -8 ∨ 8 < e) :
    Calls Try.prog 35 #[frV (zneg q.num) a n cap b m cap', .int .i64 e] w (LstQV 0 (.bool false) w) := by
  have HB := Lib.hid (below_then (below_alloc w (.cells #[.bool (zneg q.num), .slice a n cap, .slice b m cap'] 24)) (below_alloc _ (.cells #[.bool false, .slice none 0 0, .slice none 0 0] 24)))
  have HA := Lib.hid (ha.later HB.out)
  have HC := Lib.hid (hb.later HB.out)
  obtain ⟨hx1, hx2⟩ := boxes_at w ((w.alloc (.cells #[.bool (zneg q.num), .slice a n cap, .slice b m cap'] 24)).alloc (.cells #[.bool false, .slice none 0 0, .slice none 0 0] 24)) #[.bool (zneg q.num), .slice a n cap, .slice b m cap'] #[.bool false, .slice none 0 0, .slice none 0 0] 24 24 (Below.refl _ _)
  have HX := Lib.hid hx1
  have HR := Lib.hid hx2
  have HLa := Lib.hid ha.len
  have HLb := Lib.hid hb.len
  clear ha hb hx1 hx2
  go_enter Try.func35, Try.ntmps35
  obtain ⟨k0, k1, k2, k3, k4, k5⟩ := cells_3_3 HX.out HR.out
  unfold frV
  by_cases h8 : e < -8
  · clear he
    go_wp2_with fail
    refine (ref09_int 0 _ isInt_nought).mono ?_
    rintro e1 w1 ⟨a1, n1, c1, b1, m1, d1, rfl, h1, h2, b3⟩
    rw [rat_nought] at h1 h2 ⊢
    obtain ⟨s1, hs1⟩ : ∃ s1, s1 = zneg (0 : Rat).num := ⟨_, rfl⟩
    rw [← hs1]
    have Hs1 := Lib.hid hs1
    clear hs1 k0 k1 k2 k3 k4 k5
    unfold frV
    replace HB := Lib.hid (below_then HB.out b3)
    replace HR := Lib.hid (blk_later HR.out b3)
    have R1 := Lib.hid h1
    have R2 := Lib.hid h2
    clear h1 h2 b3 HX
    have HG := Lib.hid (blk_set3 HR.out (.bool s1) (.slice a1 n1 c1) (.slice b1 m1 d1))
    have HL := Lib.hid (below_set3 HB.out (show w.heap.size ≤ w.heap.size + 1 by omega) (.bool s1) (.slice a1 n1 c1) (.slice b1 m1 d1))
    have HW1 := Lib.hid (R1.out.stored3 HR.out s1 a1 n1 c1 (.slice b1 m1 d1))
    have HW2 := Lib.hid (R2.out.stored3 HR.out s1 a1 n1 c1 (.slice b1 m1 d1))
    obtain ⟨r0, r1, r2⟩ := cells_3 HR.out
    have f0 := blk_free HR.out 0
    have f1 := blk_free HR.out 1
    have f2 := blk_free HR.out 2
    go_wp2
    refine bodyPost_ret (results_row_tmp Try.results35 _ _ (w.heap.size + 1) 24 #[.bool s1, .slice a1 n1 c1, .slice b1 m1 d1] (0, 0) _ rfl HG.out Try.underlying24 rfl (by kernel_rfl)) rfl ?_
    exact ⟨a1, n1, c1, b1, m1, d1, by rw [Hs1.out]; rfl, HW1.out, HW2.out, HL.out⟩
  · have h9 : 8 < e := by omega
    clear he
    go_wp2_with fail
    refine (ref09_int 0 _ isInt_nought).mono ?_
    rintro e1 w1 ⟨a1, n1, c1, b1, m1, d1, rfl, h1, h2, b3⟩
    rw [rat_nought] at h1 h2 ⊢
    obtain ⟨s1, hs1⟩ : ∃ s1, s1 = zneg (0 : Rat).num := ⟨_, rfl⟩
    rw [← hs1]
    have Hs1 := Lib.hid hs1
    clear hs1 k0 k1 k2 k3 k4 k5
    unfold frV
    replace HB := Lib.hid (below_then HB.out b3)
    replace HR := Lib.hid (blk_later HR.out b3)
    have R1 := Lib.hid h1
    have R2 := Lib.hid h2
    clear h1 h2 b3 HX
    have HG := Lib.hid (blk_set3 HR.out (.bool s1) (.slice a1 n1 c1) (.slice b1 m1 d1))
    have HL := Lib.hid (below_set3 HB.out (show w.heap.size ≤ w.heap.size + 1 by omega) (.bool s1) (.slice a1 n1 c1) (.slice b1 m1 d1))
    have HW1 := Lib.hid (R1.out.stored3 HR.out s1 a1 n1 c1 (.slice b1 m1 d1))
    have HW2 := Lib.hid (R2.out.stored3 HR.out s1 a1 n1 c1 (.slice b1 m1 d1))
    obtain ⟨r0, r1, r2⟩ := cells_3 HR.out
    have f0 := blk_free HR.out 0
    have f1 := blk_free HR.out 1
    have f2 := blk_free HR.out 2
    go_wp2
    refine bodyPost_ret (results_row_tmp Try.results35 _ _ (w.heap.size + 1) 24 #[.bool s1, .slice a1 n1 c1, .slice b1 m1 d1] (0, 0) _ rfl HG.out Try.underlying24 rfl (by kernel_rfl)) rfl ?_
    exact ⟨a1, n1, c1, b1, m1, d1, by rw [Hs1.out]; rfl, HW1.out, HW2.out, HL.out⟩
set_option maxRecDepth 4096 in
set_option maxHeartbeats 4000000 in
theorem ref09_pow_nought (q : Rat) (a : Option Addr) (n cap : Nat) (b : Option Addr) (m cap' : Nat) (e : Int) (w : World) (ha : Wd w a n cap (dg q.num.natAbs)) (hb : Wd w b m cap' (dg q.den)) (he : -8 ≤ e) (he0 : e < 0) (hq : q = 0) :
    Calls Try.prog 35 #[frV (zneg q.num) a n cap b m cap', .int .i64 e] w (LstQV 0 (.bool false) w) := by
  have HB := Lib.hid (below_then (below_alloc w (.cells #[.bool (zneg q.num), .slice a n cap, .slice b m cap'] 24)) (below_alloc _ (.cells #[.bool false, .slice none 0 0, .slice none 0 0] 24)))
  have HA := Lib.hid (ha.later HB.out)
  have HC := Lib.hid (hb.later HB.out)
  obtain ⟨hx1, hx2⟩ := boxes_at w ((w.alloc (.cells #[.bool (zneg q.num), .slice a n cap, .slice b m cap'] 24)).alloc (.cells #[.bool false, .slice none 0 0, .slice none 0 0] 24)) #[.bool (zneg q.num), .slice a n cap, .slice b m cap'] #[.bool false, .slice none 0 0, .slice none 0 0] 24 24 (Below.refl _ _)
  have HX := Lib.hid hx1
  have HR := Lib.hid hx2
  have HLa := Lib.hid ha.len
  have HLb := Lib.hid hb.len
  clear ha hb hx1 hx2
  have hn0 : n = 0 := by
    have h0 := HLa.out
    rw [hq] at h0
    rw [← h0]
    show (dg (0 : Nat)).length = 0
    rw [dg_zero]; rfl
  clear hq
  subst hn0
  go_enter Try.func35, Try.ntmps35
  obtain ⟨k0, k1, k2, k3, k4, k5⟩ := cells_3_3 HX.out HR.out
  unfold frV
  go_wp2_with fail
  refine (ref09_zero (zneg q.num) a 0 cap b m cap' _).mono ?_
  rintro e2 w2 ⟨rfl, b2⟩
  clear k0 k1 k2 k3 k4 k5
  replace HB := Lib.hid (below_then HB.out b2)
  replace HR := Lib.hid (blk_later HR.out b2)
  replace HX := Lib.hid (blk_later HX.out b2)
  clear b2
  obtain ⟨k0, k1, k2, k3, k4, k5⟩ := cells_3_3 HX.out HR.out
  go_wp2_with fail
  refine (ref09_int 0 _ isInt_nought).mono ?_
  rintro e1 w1 ⟨a1, n1, c1, b1, m1, d1, rfl, h1, h2, b3⟩
  rw [rat_nought] at h1 h2 ⊢
  obtain ⟨s1, hs1⟩ : ∃ s1, s1 = zneg (0 : Rat).num := ⟨_, rfl⟩
  rw [← hs1]
  have Hs1 := Lib.hid hs1
  clear hs1 k0 k1 k2 k3 k4 k5
  unfold frV
  replace HB := Lib.hid (below_then HB.out b3)
  replace HR := Lib.hid (blk_later HR.out b3)
  have R1 := Lib.hid h1
  have R2 := Lib.hid h2
  clear h1 h2 b3 HX
  have HG := Lib.hid (blk_set3 HR.out (.bool s1) (.slice a1 n1 c1) (.slice b1 m1 d1))
  have HL := Lib.hid (below_set3 HB.out (show w.heap.size ≤ w.heap.size + 1 by omega) (.bool s1) (.slice a1 n1 c1) (.slice b1 m1 d1))
  have HW1 := Lib.hid (R1.out.stored3 HR.out s1 a1 n1 c1 (.slice b1 m1 d1))
  have HW2 := Lib.hid (R2.out.stored3 HR.out s1 a1 n1 c1 (.slice b1 m1 d1))
  obtain ⟨r0, r1, r2⟩ := cells_3 HR.out
  have f0 := blk_free HR.out 0
  have f1 := blk_free HR.out 1
  have f2 := blk_free HR.out 2
  go_wp2
  refine bodyPost_ret (results_row_tmp Try.results35 _ _ (w.heap.size + 1) 24 #[.bool s1, .slice a1 n1 c1, .slice b1 m1 d1] (0, 0) _ rfl HG.out Try.underlying24 rfl (by kernel_rfl)) rfl ?_
  exact ⟨a1, n1, c1, b1, m1, d1, by rw [Hs1.out]; rfl, HW1.out, HW2.out, HL.out⟩
theorem pow0_inv (q : Rat) : (q ^ (0 : Nat))⁻¹ = 1 := by rw [Rat.pow_zero]; exact Rat.inv_eq_of_mul_eq_one (Rat.mul_one 1)
set_option maxRecDepth 4096 in
set_option maxHeartbeats 4000000 in
theorem ref09_pow_high (q : Rat) (a : Option Addr) (n cap : Nat) (b : Option Addr) (m cap' : Nat) (e : Int) (w : World) (ha : Wd w a n cap (dg q.num.natAbs)) (hb : Wd w b m cap' (dg q.den)) (hn : n ≤ 4000) (hm : m ≤ 4000) (he : e ≤ 8) (he0 : 0 ≤ e) :
    Calls Try.prog 35 #[frV (zneg q.num) a n cap b m cap', .int .i64 e] w (LstQV (q ^ e.toNat) (.bool true) w) := by
  have HB := Lib.hid (below_then (below_alloc w (.cells #[.bool (zneg q.num), .slice a n cap, .slice b m cap'] 24)) (below_alloc _ (.cells #[.bool false, .slice none 0 0, .slice none 0 0] 24)))
  have HA := Lib.hid (ha.later HB.out)
  have HC := Lib.hid (hb.later HB.out)
  obtain ⟨hx1, hx2⟩ := boxes_at w ((w.alloc (.cells #[.bool (zneg q.num), .slice a n cap, .slice b m cap'] 24)).alloc (.cells #[.bool false, .slice none 0 0, .slice none 0 0] 24)) #[.bool (zneg q.num), .slice a n cap, .slice b m cap'] #[.bool false, .slice none 0 0, .slice none 0 0] 24 24 (Below.refl _ _)
  have HX := Lib.hid hx1
  have HR := Lib.hid hx2
  have HLa := Lib.hid ha.len
  have HLb := Lib.hid hb.len
  clear ha hb hx1 hx2
  go_enter Try.func35, Try.ntmps35
  obtain ⟨k0, k1, k2, k3, k4, k5⟩ := cells_3_3 HX.out HR.out
  unfold frV
  go_wp2_with fail
  refine (ref09_int 1 _ isInt_one).mono ?_
  rintro e1 w1 ⟨a1, n1, c1, b1, m1, d1, rfl, h1, h2, b3⟩
  rw [rat_one] at h1 h2 ⊢
  obtain ⟨s1, hs1⟩ : ∃ s1, s1 = zneg (1 : Rat).num := ⟨_, rfl⟩
  rw [← hs1]
  have Hs1 := Lib.hid hs1
  clear hs1 k0 k1 k2 k3 k4 k5
  unfold frV
  have hgw : w.heap.size + 1 < w1.heap.size := by
    have h5 := (Array.getElem?_eq_some_iff.1 HR.out).1
    have h6 := b3.size
    omega
  replace b3 := below_then b3 (below_alloc w1 (.cells #[.bool s1, .slice a1 n1 c1, .slice b1 m1 d1] 24))
  have HO : Hid (BoxQ (w1.alloc (.cells #[.bool s1, .slice a1 n1 c1, .slice b1 m1 d1] 24)) w1.heap.size 24 (q ^ (0))) := Lib.hid ⟨s1, a1, n1, c1, b1, m1, d1, blk_new w1 _ _, by rw [Rat.pow_zero]; exact Hs1.out, by rw [Rat.pow_zero]; exact h1.later (below_alloc _ _), by rw [Rat.pow_zero]; exact h2.later (below_alloc _ _)⟩
  replace HB := Lib.hid (below_then HB.out b3)
  replace HR := Lib.hid (blk_later HR.out b3)
  replace HX := Lib.hid (blk_later HX.out b3)
  replace HA := Lib.hid (HA.out.later b3)
  replace HC := Lib.hid (HC.out.later b3)
  clear h1 h2 b3 Hs1
  go_wp2
  generalize w1.heap.size = g at *
  go_loopw [7] (fun iv wr => ∃ k : Nat, iv = .int .i64 ((k : Int)) ∧ (k : Int) ≤ e ∧ k ≤ 8 ∧ Hid (BoxQ wr g 24 (q ^ (k))) ∧ Hid (wr.heap[w.heap.size]? = some (.cells #[.bool (zneg q.num), .slice a n cap, .slice b m cap'] 24 (0, 0))) ∧ Hid (wr.heap[w.heap.size + 1]? = some (.cells #[.bool false, .slice none 0 0, .slice none 0 0] 24 (0, 0))) ∧ Hid (Wd wr a n cap (dg q.num.natAbs)) ∧ Hid (Wd wr b m cap' (dg q.den)) ∧ Hid (Below w.heap.size w wr)) (fun iv _ => (8 - intOf iv).toNat)
  case atStart => exact ⟨0, by go_num, by omega, by omega, HO, HX, HR, HA, HC, HB⟩
  case round =>
    clear HO HX HR HA HC HB
    obtain ⟨k, rfl, hk, hk8, HO, HX, HR, HA, HC, HB⟩ := hrel
    obtain ⟨s1, a1, n1, c1, b1, m1, d1, hO, hs1, h1, h2⟩ := HO.out
    have hl1 : n1 ≤ 32001 ∧ m1 ≤ 32001 := by
      have h5 := qpow_len q k 4000 (by rw [HLa.out]; omega) (by rw [HLb.out]; omega)
      have h6 := h1.len
      have h7 := h2.len
      omega
    have HS := Lib.hid hs1
    have HOb := Lib.hid hO
    have R1 := Lib.hid h1
    have R2 := Lib.hid h2
    have q0 := (blk_cell hO 0)
    have q1 := (blk_cell hO 1)
    have q2 := (blk_cell hO 2)
    simp only [List.getElem?_toArray, List.getElem?_cons_zero, List.getElem?_cons_succ] at q0 q1 q2
    obtain ⟨k0, k1, k2, k3, k4, k5⟩ := cells_3_3 HX.out HR.out
    clear hO hs1 h1 h2 HO
    by_cases hlt : (k : Int) < e
    · have HM : Hid (qval s1 (val (dg ((q ^ (k))).num.natAbs)) (val (dg ((q ^ (k))).den)) * qval (zneg q.num) (val (dg q.num.natAbs)) (val (dg q.den)) = (q ^ (k + 1))) := Lib.hid (by rw [HS.out, qval_dg, qval_dg, ← Rat.pow_succ])
      go_wp2_with fail
      refine (ref09_mul s1 a1 n1 c1 _ b1 m1 d1 _ (zneg q.num) a n cap _ b m cap' _ _ R1.out R2.out HA.out HC.out (by omega) (by omega) (by omega) (by omega)).mono ?_
      rintro e3 w3 ⟨a2, n2, c2, b2, m2, d2, rfl, h3, h4, b5⟩
      rw [HM.out] at h3 h4 ⊢
      obtain ⟨s2, hs2⟩ : ∃ s2, s2 = zneg ((q ^ (k + 1))).num := ⟨_, rfl⟩
      rw [← hs2]
      have Hs2 := Lib.hid hs2
      clear hs2 k0 k1 k2 k3 k4 k5 q0 q1 q2
      unfold frV
      replace HB := Lib.hid (below_then HB.out b5)
      replace HR := Lib.hid (blk_later HR.out b5)
      replace HX := Lib.hid (blk_later HX.out b5)
      replace HOb := Lib.hid (blk_later HOb.out b5)
      replace HA := Lib.hid (HA.out.later b5)
      replace HC := Lib.hid (HC.out.later b5)
      have HO2 : Hid (BoxQ (((w3.setCell ⟨g, 0, none⟩ (.bool s2)).setCell ⟨g, 1, none⟩ (.slice a2 n2 c2)).setCell ⟨g, 2, none⟩ (.slice b2 m2 d2)) g 24 ((q ^ (k + 1)))) := Lib.hid ⟨s2, a2, n2, c2, b2, m2, d2, blk_set3 HOb.out _ _ _, Hs2.out, h3.stored3 HOb.out _ _ _ _ _, h4.stored3 HOb.out _ _ _ _ _⟩
      replace HB := Lib.hid (below_set3 HB.out (show w.heap.size ≤ g by omega) (.bool s2) (.slice a2 n2 c2) (.slice b2 m2 d2))
      replace HR := Lib.hid (blk_far3 HR.out (show w.heap.size + 1 ≠ g by omega) (.bool s2) (.slice a2 n2 c2) (.slice b2 m2 d2))
      replace HX := Lib.hid (blk_far3 HX.out (show w.heap.size ≠ g by omega) (.bool s2) (.slice a2 n2 c2) (.slice b2 m2 d2))
      replace HA := Lib.hid (HA.out.stored3 HOb.out s2 a2 n2 c2 (.slice b2 m2 d2))
      replace HC := Lib.hid (HC.out.stored3 HOb.out s2 a2 n2 c2 (.slice b2 m2 d2))
      have q0 := (blk_cell HOb.out 0)
      have q1 := (blk_cell HOb.out 1)
      have q2 := (blk_cell HOb.out 2)
      simp only [List.getElem?_toArray, List.getElem?_cons_zero, List.getElem?_cons_succ] at q0 q1 q2
      have f0 := blk_free HOb.out 0
      have f1 := blk_free HOb.out 1
      have f2 := blk_free HOb.out 2
      clear h3 h4 b5 R1 R2 HM HS HOb
      go_wp2
      go_roundw
      case rel => exact ⟨k + 1, by go_num, by omega, by omega, HO2, HX, HR, HA, HC, HB⟩
      case measure => simp [intOf]; omega
    · obtain rfl : k = e.toNat := by omega
      clear hlt
      go_wp2
      go_loop [8] (fun iv => iv = .int .i64 0) (fun _ => 0)
      case atStart => rfl
      case round =>
        obtain rfl := hrel
        have HG := Lib.hid (blk_set3 HR.out (.bool s1) (.slice a1 n1 c1) (.slice b1 m1 d1))
        have HL := Lib.hid (below_set3 HB.out (show w.heap.size ≤ w.heap.size + 1 by omega) (.bool s1) (.slice a1 n1 c1) (.slice b1 m1 d1))
        have HW1 := Lib.hid (R1.out.stored3 HR.out s1 a1 n1 c1 (.slice b1 m1 d1))
        have HW2 := Lib.hid (R2.out.stored3 HR.out s1 a1 n1 c1 (.slice b1 m1 d1))
        obtain ⟨r0, r1, r2⟩ := cells_3 HR.out
        have f0 := blk_free HR.out 0
        have f1 := blk_free HR.out 1
        have f2 := blk_free HR.out 2
        go_wp2
        refine bodyPost_ret (results_row_tmp Try.results35 _ _ (w.heap.size + 1) 24 #[.bool s1, .slice a1 n1 c1, .slice b1 m1 d1] (0, 0) _ rfl HG.out Try.underlying24 rfl (by kernel_rfl)) rfl ?_
        exact ⟨a1, n1, c1, b1, m1, d1, by rw [HS.out]; rfl, HW1.out, HW2.out, HL.out⟩
set_option maxRecDepth 4096 in
set_option maxHeartbeats 4000000 in
theorem ref09_pow_low (q : Rat) (a : Option Addr) (n cap : Nat) (b : Option Addr) (m cap' : Nat) (e : Int) (w : World) (ha : Wd w a n cap (dg q.num.natAbs)) (hb : Wd w b m cap' (dg q.den)) (hn : n ≤ 4000) (hm : m ≤ 4000) (he : -8 ≤ e) (he0 : e < 0) (hq : q ≠ 0) :
    Calls Try.prog 35 #[frV (zneg q.num) a n cap b m cap', .int .i64 e] w (LstQV ((q ^ (-e).toNat)⁻¹) (.bool true) w) := by
  have HB := Lib.hid (below_then (below_alloc w (.cells #[.bool (zneg q.num), .slice a n cap, .slice b m cap'] 24)) (below_alloc _ (.cells #[.bool false, .slice none 0 0, .slice none 0 0] 24)))
  have HA := Lib.hid (ha.later HB.out)
  have HC := Lib.hid (hb.later HB.out)
  obtain ⟨hx1, hx2⟩ := boxes_at w ((w.alloc (.cells #[.bool (zneg q.num), .slice a n cap, .slice b m cap'] 24)).alloc (.cells #[.bool false, .slice none 0 0, .slice none 0 0] 24)) #[.bool (zneg q.num), .slice a n cap, .slice b m cap'] #[.bool false, .slice none 0 0, .slice none 0 0] 24 24 (Below.refl _ _)
  have HX := Lib.hid hx1
  have HR := Lib.hid hx2
  have HLa := Lib.hid ha.len
  have HLb := Lib.hid hb.len
  clear ha hb hx1 hx2
  have hn0 : ((n : Int) == 0) = false := by
    have h0 := HLa.out
    have h5 : n ≠ 0 := fun h => by
      rw [h] at h0
      exact num_nz hq (Int.natAbs_eq_zero.1 (dg_nil_iff.1 h0))
    simp [h5]
  have HQ0 := Lib.hid hq
  clear hq
  go_enter Try.func35, Try.ntmps35
  obtain ⟨k0, k1, k2, k3, k4, k5⟩ := cells_3_3 HX.out HR.out
  unfold frV
  go_wp2_with fail
  refine (ref09_zero (zneg q.num) a n cap b m cap' _).mono ?_
  rintro e2 w2 ⟨rfl, b2⟩
  clear k0 k1 k2 k3 k4 k5
  rw [hn0]
  replace HB := Lib.hid (below_then HB.out b2)
  replace HR := Lib.hid (blk_later HR.out b2)
  replace HX := Lib.hid (blk_later HX.out b2)
  replace HA := Lib.hid (HA.out.later b2)
  replace HC := Lib.hid (HC.out.later b2)
  clear b2
  obtain ⟨k0, k1, k2, k3, k4, k5⟩ := cells_3_3 HX.out HR.out
  go_wp2_with fail
  refine (ref09_int 1 _ isInt_one).mono ?_
  rintro e1 w1 ⟨a1, n1, c1, b1, m1, d1, rfl, h1, h2, b3⟩
  rw [rat_one] at h1 h2 ⊢
  obtain ⟨s1, hs1⟩ : ∃ s1, s1 = zneg (1 : Rat).num := ⟨_, rfl⟩
  rw [← hs1]
  have Hs1 := Lib.hid hs1
  clear hs1 k0 k1 k2 k3 k4 k5
  unfold frV
  have hgw : w.heap.size + 1 < w1.heap.size := by
    have h5 := (Array.getElem?_eq_some_iff.1 HR.out).1
    have h6 := b3.size
    omega
  replace b3 := below_then b3 (below_alloc w1 (.cells #[.bool s1, .slice a1 n1 c1, .slice b1 m1 d1] 24))
  have HO : Hid (BoxQ (w1.alloc (.cells #[.bool s1, .slice a1 n1 c1, .slice b1 m1 d1] 24)) w1.heap.size 24 ((q ^ (0))⁻¹)) := Lib.hid ⟨s1, a1, n1, c1, b1, m1, d1, blk_new w1 _ _, by rw [pow0_inv]; exact Hs1.out, by rw [pow0_inv]; exact h1.later (below_alloc _ _), by rw [pow0_inv]; exact h2.later (below_alloc _ _)⟩
  replace HB := Lib.hid (below_then HB.out b3)
  replace HR := Lib.hid (blk_later HR.out b3)
  replace HX := Lib.hid (blk_later HX.out b3)
  replace HA := Lib.hid (HA.out.later b3)
  replace HC := Lib.hid (HC.out.later b3)
  clear h1 h2 b3 Hs1
  go_wp2
  go_loop [7] (fun iv => iv = .int .i64 0) (fun _ => 0)
  case atStart => rfl
  case round =>
    obtain rfl := hrel
    go_wp2
    generalize w1.heap.size = g at *
    go_loopw [8] (fun iv wr => ∃ k : Nat, iv = .int .i64 (-(k : Int)) ∧ e ≤ -(k : Int) ∧ k ≤ 8 ∧ Hid (BoxQ wr g 24 ((q ^ (k))⁻¹)) ∧ Hid (wr.heap[w.heap.size]? = some (.cells #[.bool (zneg q.num), .slice a n cap, .slice b m cap'] 24 (0, 0))) ∧ Hid (wr.heap[w.heap.size + 1]? = some (.cells #[.bool false, .slice none 0 0, .slice none 0 0] 24 (0, 0))) ∧ Hid (Wd wr a n cap (dg q.num.natAbs)) ∧ Hid (Wd wr b m cap' (dg q.den)) ∧ Hid (Below w.heap.size w wr)) (fun iv _ => (8 + intOf iv).toNat)
    case atStart => exact ⟨0, by go_num, by omega, by omega, HO, HX, HR, HA, HC, HB⟩
    case round =>
      clear HO HX HR HA HC HB
      obtain ⟨k, rfl, hk, hk8, HO, HX, HR, HA, HC, HB⟩ := hrel
      obtain ⟨s1, a1, n1, c1, b1, m1, d1, hO, hs1, h1, h2⟩ := HO.out
      have hl1 : n1 ≤ 32001 ∧ m1 ≤ 32001 := by
        have h5 := qipow_len q HQ0.out k 4000 (by rw [HLa.out]; omega) (by rw [HLb.out]; omega)
        have h6 := h1.len
        have h7 := h2.len
        omega
      have HS := Lib.hid hs1
      have HOb := Lib.hid hO
      have R1 := Lib.hid h1
      have R2 := Lib.hid h2
      have q0 := (blk_cell hO 0)
      have q1 := (blk_cell hO 1)
      have q2 := (blk_cell hO 2)
      simp only [List.getElem?_toArray, List.getElem?_cons_zero, List.getElem?_cons_succ] at q0 q1 q2
      obtain ⟨k0, k1, k2, k3, k4, k5⟩ := cells_3_3 HX.out HR.out
      clear hO hs1 h1 h2 HO
      by_cases hlt : e < -(k : Int)
      · have HM : Hid (qval s1 (val (dg (((q ^ (k))⁻¹)).num.natAbs)) (val (dg (((q ^ (k))⁻¹)).den)) * qval (zneg q.num) (val (dg q.den)) (val (dg q.num.natAbs)) = ((q ^ (k + 1))⁻¹)) := Lib.hid (by rw [HS.out, qval_dg, qinv_dg, qinv_pow_succ])
        go_wp2_with fail
        refine (ref09_quo s1 a1 n1 c1 _ b1 m1 d1 _ (zneg q.num) a n cap _ b m cap' _ _ R1.out R2.out HA.out HC.out (by omega) (by omega) (by omega) (by omega)).mono ?_
        rintro e3 w3 ⟨a2, n2, c2, b2, m2, d2, rfl, h3, h4, b5⟩
        rw [HM.out] at h3 h4 ⊢
        obtain ⟨s2, hs2⟩ : ∃ s2, s2 = zneg (((q ^ (k + 1))⁻¹)).num := ⟨_, rfl⟩
        rw [← hs2]
        have Hs2 := Lib.hid hs2
        clear hs2 k0 k1 k2 k3 k4 k5 q0 q1 q2
        unfold frV
        replace HB := Lib.hid (below_then HB.out b5)
        replace HR := Lib.hid (blk_later HR.out b5)
        replace HX := Lib.hid (blk_later HX.out b5)
        replace HOb := Lib.hid (blk_later HOb.out b5)
        replace HA := Lib.hid (HA.out.later b5)
        replace HC := Lib.hid (HC.out.later b5)
        have HO2 : Hid (BoxQ (((w3.setCell ⟨g, 0, none⟩ (.bool s2)).setCell ⟨g, 1, none⟩ (.slice a2 n2 c2)).setCell ⟨g, 2, none⟩ (.slice b2 m2 d2)) g 24 (((q ^ (k + 1))⁻¹))) := Lib.hid ⟨s2, a2, n2, c2, b2, m2, d2, blk_set3 HOb.out _ _ _, Hs2.out, h3.stored3 HOb.out _ _ _ _ _, h4.stored3 HOb.out _ _ _ _ _⟩
        replace HB := Lib.hid (below_set3 HB.out (show w.heap.size ≤ g by omega) (.bool s2) (.slice a2 n2 c2) (.slice b2 m2 d2))
        replace HR := Lib.hid (blk_far3 HR.out (show w.heap.size + 1 ≠ g by omega) (.bool s2) (.slice a2 n2 c2) (.slice b2 m2 d2))
        replace HX := Lib.hid (blk_far3 HX.out (show w.heap.size ≠ g by omega) (.bool s2) (.slice a2 n2 c2) (.slice b2 m2 d2))
        replace HA := Lib.hid (HA.out.stored3 HOb.out s2 a2 n2 c2 (.slice b2 m2 d2))
        replace HC := Lib.hid (HC.out.stored3 HOb.out s2 a2 n2 c2 (.slice b2 m2 d2))
        have q0 := (blk_cell HOb.out 0)
        have q1 := (blk_cell HOb.out 1)
        have q2 := (blk_cell HOb.out 2)
        simp only [List.getElem?_toArray, List.getElem?_cons_zero, List.getElem?_cons_succ] at q0 q1 q2
        have f0 := blk_free HOb.out 0
        have f1 := blk_free HOb.out 1
        have f2 := blk_free HOb.out 2
        clear h3 h4 b5 R1 R2 HM HS HOb
        go_wp2
        go_roundw
        case rel => exact ⟨k + 1, by go_num, by omega, by omega, HO2, HX, HR, HA, HC, HB⟩
        case measure => simp [intOf]; omega
      · obtain rfl : k = (-e).toNat := by omega
        clear hlt
        have HG := Lib.hid (blk_set3 HR.out (.bool s1) (.slice a1 n1 c1) (.slice b1 m1 d1))
        have HL := Lib.hid (below_set3 HB.out (show w.heap.size ≤ w.heap.size + 1 by omega) (.bool s1) (.slice a1 n1 c1) (.slice b1 m1 d1))
        have HW1 := Lib.hid (R1.out.stored3 HR.out s1 a1 n1 c1 (.slice b1 m1 d1))
        have HW2 := Lib.hid (R2.out.stored3 HR.out s1 a1 n1 c1 (.slice b1 m1 d1))
        obtain ⟨r0, r1, r2⟩ := cells_3 HR.out
        have f0 := blk_free HR.out 0
        have f1 := blk_free HR.out 1
        have f2 := blk_free HR.out 2
        go_wp2
        refine bodyPost_ret (results_row_tmp Try.results35 _ _ (w.heap.size + 1) 24 #[.bool s1, .slice a1 n1 c1, .slice b1 m1 d1] (0, 0) _ rfl HG.out Try.underlying24 rfl (by kernel_rfl)) rfl ?_
        exact ⟨a1, n1, c1, b1, m1, d1, by rw [HS.out]; rfl, HW1.out, HW2.out, HL.out⟩
end Go.Proofs.Ytpjgmkkdbmegjaa

/-
  Package frac at this seat: turned, under, times, Of.
-/
namespace Go.Proofs.Ytpjgmkkdbmegjaa
open Go.RowKit

set_option maxRecDepth 4096 in
set_option maxHeartbeats 4000000 in
theorem frac_turned (neg : Bool) (a : Option Addr) (n cap : Nat) (b : Option Addr) (m cap' : Nat) (w : World) :
    Calls Try.prog 61 #[frV neg a n cap b m cap'] w (Gives (frV (!neg) a n cap b m cap') w) := by
  have HG : Hid (((w.alloc (.cells #[.bool (!neg), .slice a n cap, .slice b m cap'] 34)).alloc (.cells #[.bool (!neg), .slice a n cap, .slice b m cap'] 34)).heap[w.heap.size + 1]? = some (.cells #[.bool (!neg), .slice a n cap, .slice b m cap'] 34 (0, 0))) := Lib.hid (boxes_at w ((w.alloc (.cells #[.bool (!neg), .slice a n cap, .slice b m cap'] 34)).alloc (.cells #[.bool (!neg), .slice a n cap, .slice b m cap'] 34)) _ _ _ _ (Below.refl _ _)).2
  have HB := Lib.hid (below_then (below_alloc w (.cells #[.bool (!neg), .slice a n cap, .slice b m cap'] 34)) (below_alloc _ (.cells #[.bool (!neg), .slice a n cap, .slice b m cap'] 34)))
  go_enter Try.func61, Try.ntmps61
  unfold frV
  go_wp2
  refine bodyPost_ret (results_cell_row Try.results61 _ _ (w.heap.size + 1) 34 #[.bool (!neg), .slice a n cap, .slice b m cap'] (0, 0) _ rfl HG.out Try.underlying34 rfl (by kernel_rfl)) rfl ?_
  exact ⟨rfl, HB.out⟩
set_option maxRecDepth 4096 in
set_option maxHeartbeats 4000000 in
theorem frac_under (neg : Bool) (a : Option Addr) (n cap : Nat) (b : Option Addr) (m cap' : Nat) (w : World) :
    Calls Try.prog 60 #[frV neg a n cap b m cap'] w (Gives (frV neg b m cap' a n cap) w) := by
  have HG : Hid (((w.alloc (.cells #[.bool neg, .slice a n cap, .slice b m cap'] 34)).alloc (.cells #[.bool neg, .slice b m cap', .slice a n cap] 34)).heap[w.heap.size + 1]? = some (.cells #[.bool neg, .slice b m cap', .slice a n cap] 34 (0, 0))) := Lib.hid (boxes_at w ((w.alloc (.cells #[.bool neg, .slice a n cap, .slice b m cap'] 34)).alloc (.cells #[.bool neg, .slice b m cap', .slice a n cap] 34)) _ _ _ _ (Below.refl _ _)).2
  have HB := Lib.hid (below_then (below_alloc w (.cells #[.bool neg, .slice a n cap, .slice b m cap'] 34)) (below_alloc _ (.cells #[.bool neg, .slice b m cap', .slice a n cap] 34)))
  go_enter Try.func60, Try.ntmps60
  unfold frV
  go_wp2
  refine bodyPost_ret (results_cell_row Try.results60 _ _ (w.heap.size + 1) 34 #[.bool neg, .slice b m cap', .slice a n cap] (0, 0) _ rfl HG.out Try.underlying34 rfl (by kernel_rfl)) rfl ?_
  exact ⟨rfl, HB.out⟩
set_option maxRecDepth 4096 in
set_option maxHeartbeats 4000000 in
theorem frac_times (neg : Bool) (a : Option Addr) (n cap : Nat) (la : List Nat) (b : Option Addr) (m cap' : Nat) (lb : List Nat) (w : World) (ha : Wd w a n cap la) (hb : Wd w b m cap' lb) (hn : n ≤ 100000) (hm : m ≤ 100000) :
    Calls Try.prog 63 #[whV neg a n cap, .slice b m cap'] w (LstZ (zval neg (val la) * (val lb : Int)) w) := by
  have HB := Lib.hid (below_then (below_alloc w (.cells #[.bool neg, .slice a n cap] 32)) (below_alloc _ (.cells #[.bool false, .slice none 0 0] 32)))
  have HA := Lib.hid (ha.later HB.out)
  have HC := Lib.hid (hb.later HB.out)
  obtain ⟨hx1, hx2⟩ := boxes_at w ((w.alloc (.cells #[.bool neg, .slice a n cap] 32)).alloc (.cells #[.bool false, .slice none 0 0] 32)) #[.bool neg, .slice a n cap] #[.bool false, .slice none 0 0] 32 32 (Below.refl _ _)
  have HX := Lib.hid hx1
  have HR := Lib.hid hx2
  clear hx1 hx2 ha hb
  obtain ⟨z, hz⟩ : ∃ z, zval neg (val la) * (val lb : Int) = z := ⟨_, rfl⟩
  rw [hz]
  have HZ := Lib.hid hz
  clear hz
  go_enter Try.func63, Try.ntmps63
  unfold whV
  obtain ⟨vk0, vk1, vk2, vk3⟩ := fcells_2_2 HX.out HR.out
  go_wp2_with fail
  refine (whole_mul neg a n cap la false b m cap' lb _ HA.out HC.out hn hm).mono ?_
  rintro e wv1 ⟨a1, n1, c1, rfl, h1, b⟩
  clear vk0 vk1 vk2 vk3
  replace HB := Lib.hid (below_then HB.out b)
  replace HX := Lib.hid (blk_later HX.out b)
  replace HR := Lib.hid (blk_later HR.out b)
  clear HA
  clear HC
  clear b
  rw [zval_false, HZ.out] at h1 ⊢
  have R1 := Lib.hid h1
  clear h1
  unfold whV
  obtain ⟨r0, r1⟩ := fcells_2 HR.out
  have f0 := blk_free HR.out 0
  have f1 := blk_free HR.out 1
  have HG := Lib.hid (blk_set2 HR.out (.bool (zneg z)) (.slice a1 n1 c1))
  have HF := Lib.hid (R1.out.stored2 HR.out (zneg z) (.slice a1 n1 c1))
  have HL := Lib.hid (below_set2 HB.out (show w.heap.size ≤ w.heap.size + 1 by omega) (.bool (zneg z)) (.slice a1 n1 c1))
  go_wp2
  refine bodyPost_ret (results_cell_row Try.results63 _ _ (w.heap.size + 1) 32 #[.bool (zneg z), .slice a1 n1 c1] (0, 0) _ rfl HG.out Try.underlying32 rfl (by kernel_rfl)) rfl ?_
  exact ⟨a1, n1, c1, rfl, HF.out, HL.out⟩
set_option maxRecDepth 4096 in
set_option maxHeartbeats 4000000 in
theorem frac_of (x : Int) (w : World) (hx : isInt x) : Calls Try.prog 20 #[.int .i64 x] w (LstQ (x : Rat) w) := by
  have HX := Lib.hid hx
  have HB := Lib.hid (below_alloc w (.cells #[.bool false, .slice none 0 0, .slice none 0 0] 34))
  have HR := Lib.hid (blk_new w #[.bool false, .slice none 0 0, .slice none 0 0] 34)
  have HO : ∀ w' : World, Calls Try.prog 58 #[.int .u64 1] w' (Lst (dg 1) w') := fun w' => natSaid.of 1 w' (by omega)
  have HN : Hid (x = (x : Rat).num) := Lib.hid (Rat.num_intCast x).symm
  have HD : Hid (1 = (x : Rat).den) := Lib.hid (Rat.den_intCast x).symm
  clear hx
  generalize (x : Rat) = q at *
  go_enter Try.func20, Try.ntmps20
  obtain ⟨vk0, vk1, vk2⟩ := fcells_3 HR.out
  go_wp2_with fail
  refine (whole_of x _ HX.out).mono ?_
  rintro e wv1 ⟨a1, n1, c1, rfl, h1, b⟩
  clear vk0 vk1 vk2
  replace HB := Lib.hid (below_then HB.out b)
  replace HR := Lib.hid (blk_later HR.out b)
  clear b
  have R1 := Lib.hid h1
  clear h1
  unfold whV
  obtain ⟨vk0, vk1, vk2⟩ := fcells_3 HR.out
  go_wp2_with fail
  refine (HO _).mono ?_
  rintro e wv2 ⟨b1, m1, d1, rfl, g1, b⟩
  clear vk0 vk1 vk2
  replace HB := Lib.hid (below_then HB.out b)
  replace HR := Lib.hid (blk_later HR.out b)
  replace R1 := Lib.hid (R1.out.later b)
  clear b
  have T1 := Lib.hid g1
  clear g1
  generalize hz : zneg x = s at *
  have HS := Lib.hid hz
  clear hz
  have q0 := blk_cell HR.out 0
  have q1 := blk_cell HR.out 1
  have q2 := blk_cell HR.out 2
  simp only [List.getElem?_toArray, List.getElem?_cons_zero, List.getElem?_cons_succ] at q0 q1 q2
  have f0 := blk_free HR.out 0
  have f1 := blk_free HR.out 1
  have f2 := blk_free HR.out 2
  replace R1 := Lib.hid (R1.out.stored3 HR.out (s) a1 n1 c1 (.slice b1 m1 d1))
  replace T1 := Lib.hid (T1.out.stored3 HR.out (s) a1 n1 c1 (.slice b1 m1 d1))
  replace HB := Lib.hid (below_set3 HB.out (show w.heap.size ≤ w.heap.size by omega) (.bool s) (.slice a1 n1 c1) (.slice b1 m1 d1))
  replace HR := Lib.hid (blk_set3 HR.out (.bool s) (.slice a1 n1 c1) (.slice b1 m1 d1))
  go_wp2
  refine bodyPost_ret (results_cell_row Try.results20 _ _ (w.heap.size) 34 #[.bool s, .slice a1 n1 c1, .slice b1 m1 d1] (0, 0) _ rfl HR.out Try.underlying34 rfl (by kernel_rfl)) rfl ?_
  refine ⟨a1, n1, c1, b1, m1, d1, ?_, ?_, ?_, HB.out⟩
  · rw [← HN.out, HS.out]; rfl
  · rw [← HN.out]; exact R1.out
  · rw [← HD.out]; exact T1.out
end Go.Proofs.Ytpjgmkkdbmegjaa

/-
  Package frac at this seat: Sign, Size, product.
-/
namespace Go.Proofs.Ytpjgmkkdbmegjaa
open Go.RowKit

/-- A fraction as it was reckoned, not made right. -/
def LstR (z : Int) (v : Nat) (w : World) (e : Ending) (w' : World) : Prop :=
  ∃ (a : Option Addr) (n cap : Nat) (b : Option Addr) (m cap' : Nat), e = .returned (frV (zneg z) a n cap b m cap') ∧ Wd w' a n cap (dg z.natAbs) ∧ Wd w' b m cap' (dg v) ∧ Below w.heap.size w w'
theorem twos_len_at (a : Option Addr) (n cap : Nat) (l : List Nat) (x : Nat) (w : World) (h : Wd w a n cap l) (hn : n ≤ 16777214) (hx : blen (val l) = x) : Calls Try.prog 71 #[.slice a n cap] w (Gives (.int .i64 (x : Int)) w) :=
  (twos_len a n cap l w h hn).mono fun _ _ ⟨he, hw⟩ => ⟨by rw [he, hx], by subst hw; exact Below.refl _ _⟩
set_option maxRecDepth 4096 in
set_option maxHeartbeats 4000000 in
theorem frac_sign (neg : Bool) (a : Option Addr) (n cap : Nat) (la : List Nat) (b : Option Addr) (m cap' : Nat) (lb : List Nat) (w : World) (ha : Wd w a n cap la) (hb : Wd w b m cap' lb) (hn : n ≤ 100000) (hm : m ≤ 100000) :
    Calls Try.prog 38 #[frV neg a n cap b m cap'] w (Gives (.int .i64 (sgn (qval neg (val la) (val lb)).num)) w) := by
  have HB := Lib.hid (below_alloc w (.cells #[.bool neg, .slice a n cap, .slice b m cap'] 34))
  have HA := Lib.hid (ha.later HB.out)
  have HC := Lib.hid (hb.later HB.out)
  have HX := Lib.hid (blk_new w #[.bool neg, .slice a n cap, .slice b m cap'] 34)
  clear ha hb
  have HZ0 : Hid (val lb = 0 → sgn (qval neg (val la) (val lb)).num = 0) := Lib.hid (fun h => by rw [qval_none neg (.inl h)]; rfl)
  have HZ1 : Hid (val lb ≠ 0 → sgn (qval neg (val la) (val lb)).num = sgn (zval neg (val la))) := Lib.hid (fun h => fc_qsign h)
  generalize (qval neg (val la) (val lb)).num = y at *
  go_enter Try.func38, Try.ntmps38
  unfold frV
  obtain ⟨vk0, vk1, vk2⟩ := fcells_3 HX.out
  go_wp2_with fail
  refine (natSaid.zero b m cap' lb _ HC.out (by omega)).mono ?_
  rintro e wv1 ⟨rfl, b⟩
  clear vk0 vk1 vk2
  replace HB := Lib.hid (below_then HB.out b)
  replace HX := Lib.hid (blk_later HX.out b)
  replace HA := Lib.hid (HA.out.later b)
  replace HC := Lib.hid (HC.out.later b)
  clear b
  by_cases h0 : val lb = 0
  · have HS := Lib.hid (HZ0.out h0)
    rw [decide_eq_true h0]
    clear h0 HZ0 HZ1
    go_wp2
    go_ret
    exact ⟨by rw [HS.out]; rfl, HB.out⟩
  · have HS := Lib.hid (HZ1.out h0)
    rw [decide_eq_false h0]
    clear h0 HZ0 HZ1
    obtain ⟨k0, k1, k2⟩ := fcells_3 HX.out
    go_wp2_with fail
    refine (whole_sign neg a n cap la _ HA.out hn).mono ?_
    rintro e w2 ⟨rfl, b⟩
    go_wp2
    go_ret
    exact ⟨by rw [HS.out]; rfl, below_then HB.out b⟩
set_option maxRecDepth 4096 in
set_option maxHeartbeats 4000000 in
theorem frac_size (neg : Bool) (a : Option Addr) (n cap : Nat) (la : List Nat) (b : Option Addr) (m cap' : Nat) (lb : List Nat) (w : World) (ha : Wd w a n cap la) (hb : Wd w b m cap' lb) (hn : n ≤ 100000) (hm : m ≤ 100000) :
    Calls Try.prog 42 #[frV neg a n cap b m cap'] w (Gives (.int .i64 ((blen (val la) + blen (val lb) : Nat) : Int)) w) := by
  have HB := Lib.hid (below_alloc w (.cells #[.bool neg, .slice a n cap, .slice b m cap'] 34))
  have HA := Lib.hid (ha.later HB.out)
  have HC := Lib.hid (hb.later HB.out)
  have HX := Lib.hid (blk_new w #[.bool neg, .slice a n cap, .slice b m cap'] 34)
  have hla := blen_words ha
  have hlb := blen_words hb
  clear ha hb
  go_enter Try.func42, Try.ntmps42
  unfold frV
  go_wp2
  generalize (w.alloc (.cells #[.bool neg, .slice a n cap, .slice b m cap'] 34)) = W at *
  generalize hx : blen (val la) = x at *
  generalize hy : blen (val lb) = y at *
  have EX := Lib.hid hx
  have EY := Lib.hid hy
  clear hx hy
  replace HB := Lib.hid (below_then HB.out ((Below.refl _ _).drew : Below W.heap.size W W.drew))
  replace HX : Hid (W.drew.heap[w.heap.size]? = _) := Lib.hid HX.out
  replace HA := Lib.hid (HA.out.later ((Below.refl _ _).drew : Below W.heap.size W W.drew))
  replace HC := Lib.hid (HC.out.later ((Below.refl _ _).drew : Below W.heap.size W W.drew))
  have pSn := fcells_3 HX.out
  go_region_held3 (fun w' => w'.cell? ⟨w.heap.size, 0, none⟩ = some (.bool neg) ∧ w'.cell? ⟨w.heap.size, 1, none⟩ = some (.slice a n cap) ∧ w'.cell? ⟨w.heap.size, 2, none⟩ = some (.slice b m cap')) (exact pSn)
    (first
    | (go_at_call 71; (first
      | (have pm1 := pM1; refine (twos_len_at b m cap' lb y _ HC.out (by omega) EY.out).mono ?_; rintro e wp2 ⟨rfl, b⟩; replace HB := Lib.hid (below_then HB.out b); replace HX := Lib.hid (blk_later HX.out b); replace HA := Lib.hid (HA.out.later b); replace HC := Lib.hid (HC.out.later b); clear b; clear pSn; have pSn := fcells_3 HX.out; clear pM1 pm1; have pM2 := True.intro)
      | (refine (twos_len_at a n cap la x _ HA.out (by omega) EX.out).mono ?_; rintro e wp1 ⟨rfl, b⟩; replace HB := Lib.hid (below_then HB.out b); replace HX := Lib.hid (blk_later HX.out b); replace HA := Lib.hid (HA.out.later b); replace HC := Lib.hid (HC.out.later b); clear b; clear pSn; have pSn := fcells_3 HX.out; have pM1 := True.intro))))
  go_wp2
  go_ret
  have HW : IntKind.i64.wrap ((x : Int) + (y : Int)) = ((x + y : Nat) : Int) := by rw [IntKind.wrap_i64]; omega
  exact ⟨by rw [← HW]; rfl, HB.out⟩
set_option maxRecDepth 4096 in
set_option maxHeartbeats 4000000 in
theorem frac_product (na : Bool) (a : Option Addr) (n cap : Nat) (la : List Nat) (b : Option Addr) (m cap' : Nat) (lb : List Nat) (nb : Bool) (a' : Option Addr) (n' c' : Nat) (la' : List Nat) (b' : Option Addr) (m' d' : Nat) (lb' : List Nat) (w : World) (ha : Wd w a n cap la) (hb : Wd w b m cap' lb) (ha' : Wd w a' n' c' la') (hb' : Wd w b' m' d' lb') (hn : n ≤ 100000) (hm : m ≤ 100000) (hn' : n' ≤ 100000) (hm' : m' ≤ 100000) :
    Calls Try.prog 66 #[frV na a n cap b m cap', frV nb a' n' c' b' m' d'] w (LstR (zval na (val la) * zval nb (val la')) (val lb * val lb') w) := by
  have HB := Lib.hid (below_then (below_then (below_alloc w (.cells #[.bool na, .slice a n cap, .slice b m cap'] 34)) (below_alloc _ (.cells #[.bool nb, .slice a' n' c', .slice b' m' d'] 34))) (below_alloc _ (.cells #[.bool false, .slice none 0 0, .slice none 0 0] 34)))
  have HA := Lib.hid (ha.later HB.out)
  have HC := Lib.hid (hb.later HB.out)
  have HA' := Lib.hid (ha'.later HB.out)
  have HC' := Lib.hid (hb'.later HB.out)
  obtain ⟨hx1, hx2, hx3⟩ := boxes3_at9 w #[.bool na, .slice a n cap, .slice b m cap'] #[.bool nb, .slice a' n' c', .slice b' m' d'] #[.bool false, .slice none 0 0, .slice none 0 0] 34 34 34
  have HX := Lib.hid hx1
  have HY := Lib.hid hx2
  have HR := Lib.hid hx3
  have ta := ha.trim_le
  have tb := hb.trim_le
  have ta' := ha'.trim_le
  have tb' := hb'.trim_le
  clear ha hb ha' hb' hx1 hx2 hx3
  obtain ⟨z, hz⟩ : ∃ z, zval na (val la) * zval nb (val la') = z := ⟨_, rfl⟩
  rw [hz]
  have HZ := Lib.hid hz
  clear hz
  go_enter Try.func66, Try.ntmps66
  unfold frV
  go_wp2
  generalize (((w.alloc (.cells #[.bool na, .slice a n cap, .slice b m cap'] 34)).alloc (.cells #[.bool nb, .slice a' n' c', .slice b' m' d'] 34)).alloc (.cells #[.bool false, .slice none 0 0, .slice none 0 0] 34)) = W at *
  replace HB := Lib.hid (below_then HB.out ((Below.refl _ _).drew : Below W.heap.size W W.drew))
  replace HX : Hid (W.drew.heap[w.heap.size]? = _) := Lib.hid HX.out
  replace HY : Hid (W.drew.heap[w.heap.size + 1]? = _) := Lib.hid HY.out
  replace HR : Hid (W.drew.heap[w.heap.size + 1 + 1]? = some (.cells #[.bool false, .slice none 0 0, .slice none 0 0] 34 (0, 0))) := Lib.hid HR.out
  replace HA := Lib.hid (HA.out.later ((Below.refl _ _).drew : Below W.heap.size W W.drew))
  replace HC := Lib.hid (HC.out.later ((Below.refl _ _).drew : Below W.heap.size W W.drew))
  replace HA' := Lib.hid (HA'.out.later ((Below.refl _ _).drew : Below W.heap.size W W.drew))
  replace HC' := Lib.hid (HC'.out.later ((Below.refl _ _).drew : Below W.heap.size W W.drew))
  have pSn := fcells_3_3 HX.out HY.out
  go_region_held3 (fun w' => w'.cell? ⟨w.heap.size, 0, none⟩ = some (.bool na) ∧ w'.cell? ⟨w.heap.size, 1, none⟩ = some (.slice a n cap) ∧ w'.cell? ⟨w.heap.size, 2, none⟩ = some (.slice b m cap') ∧ w'.cell? ⟨w.heap.size + 1, 0, none⟩ = some (.bool nb) ∧ w'.cell? ⟨w.heap.size + 1, 1, none⟩ = some (.slice a' n' c') ∧ w'.cell? ⟨w.heap.size + 1, 2, none⟩ = some (.slice b' m' d')) (first | exact pSn | exact pSb _ _ _)
    (first
    | (go_at_call 87; (first
      | (refine (whole_mul na a n cap la nb a' n' c' la' _ HA.out HA'.out (by omega) (by omega)).mono ?_; rintro e wp1 ⟨a1, n1, c1, rfl, h1, b⟩; replace HB := Lib.hid (below_then HB.out b); replace HX := Lib.hid (blk_later HX.out b); replace HY := Lib.hid (blk_later HY.out b); replace HR := Lib.hid (blk_later HR.out b); replace HA := Lib.hid (HA.out.later b); replace HC := Lib.hid (HC.out.later b); replace HA' := Lib.hid (HA'.out.later b); replace HC' := Lib.hid (HC'.out.later b); rw [HZ.out] at h1 ⊢; have R1 := Lib.hid h1; clear h1; unfold whV; clear b; clear pSn; have pSn := fcells_3_3 HX.out HY.out; have pM1 := True.intro)))
    | (go_at_call 64; (first
      | (have pm1 := pM1; refine (prod_mul b m cap' lb b' m' d' lb' _ HC.out HC'.out (by omega) (by omega)).mono ?_; rintro e wp2 ⟨b1, m1, d1, rfl, g1, b⟩; replace HB := Lib.hid (below_then HB.out b); replace HX := Lib.hid (blk_later HX.out b); replace HY := Lib.hid (blk_later HY.out b); replace HR := Lib.hid (blk_later HR.out b); replace HA := Lib.hid (HA.out.later b); replace HC := Lib.hid (HC.out.later b); replace HA' := Lib.hid (HA'.out.later b); replace HC' := Lib.hid (HC'.out.later b); replace R1 := Lib.hid (R1.out.later b); have T1 := Lib.hid g1; clear g1; obtain ⟨r0, r1, r2⟩ := fcells_3 HR.out; have f0 := blk_free HR.out 0; have f1 := blk_free HR.out 1; have f2 := blk_free HR.out 2; have pSb := fun u v q => fcells_3_3 (blk_far3 (g := w.heap.size + 1 + 1) HX.out (by omega) u v q) (blk_far3 (g := w.heap.size + 1 + 1) HY.out (by omega) u v q); clear b; clear pSn; have pSn := fcells_3_3 HX.out HY.out; clear pM1 pm1; have pM2 := True.intro))))
  have HG := Lib.hid (blk_set3 HR.out (.bool (zneg z)) (.slice a1 n1 c1) (.slice b1 m1 d1))
  have HL := Lib.hid (below_set3 HB.out (show w.heap.size ≤ w.heap.size + 1 + 1 by omega) (.bool (zneg z)) (.slice a1 n1 c1) (.slice b1 m1 d1))
  have HW1 := Lib.hid (R1.out.stored3 HR.out (zneg z) a1 n1 c1 (.slice b1 m1 d1))
  have HW2 := Lib.hid (T1.out.stored3 HR.out (zneg z) a1 n1 c1 (.slice b1 m1 d1))
  go_wp2
  refine bodyPost_ret (results_cell_row Try.results66 _ _ (w.heap.size + 1 + 1) 34 #[.bool (zneg z), .slice a1 n1 c1, .slice b1 m1 d1] (0, 0) _ rfl HG.out Try.underlying34 rfl (by kernel_rfl)) rfl ?_
  exact ⟨a1, n1, c1, b1, m1, d1, rfl, HW1.out, HW2.out, HL.out⟩
end Go.Proofs.Ytpjgmkkdbmegjaa
