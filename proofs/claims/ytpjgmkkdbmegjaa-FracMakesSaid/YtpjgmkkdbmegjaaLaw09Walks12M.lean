/-
  The walks of the laws of layer 9: FracMakes.
-/
import Derived.Test.YtpjgmkkdbmegjaaG17
import Derived.Test.YtpjgmkkdbmegjaaG10
import Derived.Test.YtpjgmkkdbmegjaaRef09kM
import Derived.Deep.RegionHeld3
import Derived.BigQuiet
import Derived.Deep.CutRange
namespace Go.Proofs.Ytpjgmkkdbmegjaa
open Go.RowKit

theorem cells_3_2 {w : World} {A0 A1 : Nat} {c0_0 c0_1 c0_2 c1_0 c1_1 : Value} {t0 t1 : TypeId} (h0 : w.heap[A0]? = some (.cells #[c0_0, c0_1, c0_2] t0 (0, 0))) (h1 : w.heap[A1]? = some (.cells #[c1_0, c1_1] t1 (0, 0))) : w.cell? ⟨A0, 0, none⟩ = some c0_0 ∧ w.cell? ⟨A0, 1, none⟩ = some c0_1 ∧ w.cell? ⟨A0, 2, none⟩ = some c0_2 ∧ w.cell? ⟨A1, 0, none⟩ = some c1_0 ∧ w.cell? ⟨A1, 1, none⟩ = some c1_1 := ⟨blk_cell h0 0, blk_cell h0 1, blk_cell h0 2, blk_cell h1 0, blk_cell h1 1⟩
theorem cells_3_2_3 {w : World} {A0 A1 A2 : Nat} {c0_0 c0_1 c0_2 c1_0 c1_1 c2_0 c2_1 c2_2 : Value} {t0 t1 t2 : TypeId} (h0 : w.heap[A0]? = some (.cells #[c0_0, c0_1, c0_2] t0 (0, 0))) (h1 : w.heap[A1]? = some (.cells #[c1_0, c1_1] t1 (0, 0))) (h2 : w.heap[A2]? = some (.cells #[c2_0, c2_1, c2_2] t2 (0, 0))) : w.cell? ⟨A0, 0, none⟩ = some c0_0 ∧ w.cell? ⟨A0, 1, none⟩ = some c0_1 ∧ w.cell? ⟨A0, 2, none⟩ = some c0_2 ∧ w.cell? ⟨A1, 0, none⟩ = some c1_0 ∧ w.cell? ⟨A1, 1, none⟩ = some c1_1 ∧ w.cell? ⟨A2, 0, none⟩ = some c2_0 ∧ w.cell? ⟨A2, 1, none⟩ = some c2_1 ∧ w.cell? ⟨A2, 2, none⟩ = some c2_2 := ⟨blk_cell h0 0, blk_cell h0 1, blk_cell h0 2, blk_cell h1 0, blk_cell h1 1, blk_cell h2 0, blk_cell h2 1, blk_cell h2 2⟩
theorem cells_2 {w : World} {A0 : Nat} {c0_0 c0_1 : Value} {t0 : TypeId} (h0 : w.heap[A0]? = some (.cells #[c0_0, c0_1] t0 (0, 0))) : w.cell? ⟨A0, 0, none⟩ = some c0_0 ∧ w.cell? ⟨A0, 1, none⟩ = some c0_1 := ⟨blk_cell h0 0, blk_cell h0 1⟩
theorem cells_3_2_3_3 {w : World} {A0 A1 A2 A3 : Nat} {c0_0 c0_1 c0_2 c1_0 c1_1 c2_0 c2_1 c2_2 c3_0 c3_1 c3_2 : Value} {t0 t1 t2 t3 : TypeId} (h0 : w.heap[A0]? = some (.cells #[c0_0, c0_1, c0_2] t0 (0, 0))) (h1 : w.heap[A1]? = some (.cells #[c1_0, c1_1] t1 (0, 0))) (h2 : w.heap[A2]? = some (.cells #[c2_0, c2_1, c2_2] t2 (0, 0))) (h3 : w.heap[A3]? = some (.cells #[c3_0, c3_1, c3_2] t3 (0, 0))) : w.cell? ⟨A0, 0, none⟩ = some c0_0 ∧ w.cell? ⟨A0, 1, none⟩ = some c0_1 ∧ w.cell? ⟨A0, 2, none⟩ = some c0_2 ∧ w.cell? ⟨A1, 0, none⟩ = some c1_0 ∧ w.cell? ⟨A1, 1, none⟩ = some c1_1 ∧ w.cell? ⟨A2, 0, none⟩ = some c2_0 ∧ w.cell? ⟨A2, 1, none⟩ = some c2_1 ∧ w.cell? ⟨A2, 2, none⟩ = some c2_2 ∧ w.cell? ⟨A3, 0, none⟩ = some c3_0 ∧ w.cell? ⟨A3, 1, none⟩ = some c3_1 ∧ w.cell? ⟨A3, 2, none⟩ = some c3_2 := ⟨blk_cell h0 0, blk_cell h0 1, blk_cell h0 2, blk_cell h1 0, blk_cell h1 1, blk_cell h2 0, blk_cell h2 1, blk_cell h2 2, blk_cell h3 0, blk_cell h3 1, blk_cell h3 2⟩
theorem cells_3_2_3_3_3 {w : World} {A0 A1 A2 A3 A4 : Nat} {c0_0 c0_1 c0_2 c1_0 c1_1 c2_0 c2_1 c2_2 c3_0 c3_1 c3_2 c4_0 c4_1 c4_2 : Value} {t0 t1 t2 t3 t4 : TypeId} (h0 : w.heap[A0]? = some (.cells #[c0_0, c0_1, c0_2] t0 (0, 0))) (h1 : w.heap[A1]? = some (.cells #[c1_0, c1_1] t1 (0, 0))) (h2 : w.heap[A2]? = some (.cells #[c2_0, c2_1, c2_2] t2 (0, 0))) (h3 : w.heap[A3]? = some (.cells #[c3_0, c3_1, c3_2] t3 (0, 0))) (h4 : w.heap[A4]? = some (.cells #[c4_0, c4_1, c4_2] t4 (0, 0))) : w.cell? ⟨A0, 0, none⟩ = some c0_0 ∧ w.cell? ⟨A0, 1, none⟩ = some c0_1 ∧ w.cell? ⟨A0, 2, none⟩ = some c0_2 ∧ w.cell? ⟨A1, 0, none⟩ = some c1_0 ∧ w.cell? ⟨A1, 1, none⟩ = some c1_1 ∧ w.cell? ⟨A2, 0, none⟩ = some c2_0 ∧ w.cell? ⟨A2, 1, none⟩ = some c2_1 ∧ w.cell? ⟨A2, 2, none⟩ = some c2_2 ∧ w.cell? ⟨A3, 0, none⟩ = some c3_0 ∧ w.cell? ⟨A3, 1, none⟩ = some c3_1 ∧ w.cell? ⟨A3, 2, none⟩ = some c3_2 ∧ w.cell? ⟨A4, 0, none⟩ = some c4_0 ∧ w.cell? ⟨A4, 1, none⟩ = some c4_1 ∧ w.cell? ⟨A4, 2, none⟩ = some c4_2 := ⟨blk_cell h0 0, blk_cell h0 1, blk_cell h0 2, blk_cell h1 0, blk_cell h1 1, blk_cell h2 0, blk_cell h2 1, blk_cell h2 2, blk_cell h3 0, blk_cell h3 1, blk_cell h3 2, blk_cell h4 0, blk_cell h4 1, blk_cell h4 2⟩
theorem cells_3_2_3_3_3_3 {w : World} {A0 A1 A2 A3 A4 A5 : Nat} {c0_0 c0_1 c0_2 c1_0 c1_1 c2_0 c2_1 c2_2 c3_0 c3_1 c3_2 c4_0 c4_1 c4_2 c5_0 c5_1 c5_2 : Value} {t0 t1 t2 t3 t4 t5 : TypeId} (h0 : w.heap[A0]? = some (.cells #[c0_0, c0_1, c0_2] t0 (0, 0))) (h1 : w.heap[A1]? = some (.cells #[c1_0, c1_1] t1 (0, 0))) (h2 : w.heap[A2]? = some (.cells #[c2_0, c2_1, c2_2] t2 (0, 0))) (h3 : w.heap[A3]? = some (.cells #[c3_0, c3_1, c3_2] t3 (0, 0))) (h4 : w.heap[A4]? = some (.cells #[c4_0, c4_1, c4_2] t4 (0, 0))) (h5 : w.heap[A5]? = some (.cells #[c5_0, c5_1, c5_2] t5 (0, 0))) : w.cell? ⟨A0, 0, none⟩ = some c0_0 ∧ w.cell? ⟨A0, 1, none⟩ = some c0_1 ∧ w.cell? ⟨A0, 2, none⟩ = some c0_2 ∧ w.cell? ⟨A1, 0, none⟩ = some c1_0 ∧ w.cell? ⟨A1, 1, none⟩ = some c1_1 ∧ w.cell? ⟨A2, 0, none⟩ = some c2_0 ∧ w.cell? ⟨A2, 1, none⟩ = some c2_1 ∧ w.cell? ⟨A2, 2, none⟩ = some c2_2 ∧ w.cell? ⟨A3, 0, none⟩ = some c3_0 ∧ w.cell? ⟨A3, 1, none⟩ = some c3_1 ∧ w.cell? ⟨A3, 2, none⟩ = some c3_2 ∧ w.cell? ⟨A4, 0, none⟩ = some c4_0 ∧ w.cell? ⟨A4, 1, none⟩ = some c4_1 ∧ w.cell? ⟨A4, 2, none⟩ = some c4_2 ∧ w.cell? ⟨A5, 0, none⟩ = some c5_0 ∧ w.cell? ⟨A5, 1, none⟩ = some c5_1 ∧ w.cell? ⟨A5, 2, none⟩ = some c5_2 := ⟨blk_cell h0 0, blk_cell h0 1, blk_cell h0 2, blk_cell h1 0, blk_cell h1 1, blk_cell h2 0, blk_cell h2 1, blk_cell h2 2, blk_cell h3 0, blk_cell h3 1, blk_cell h3 2, blk_cell h4 0, blk_cell h4 1, blk_cell h4 2, blk_cell h5 0, blk_cell h5 1, blk_cell h5 2⟩
/-- Since the world w0 nothing that was there has changed. -/
def Since (w0 w : World) : Prop := Below w0.heap.size w0 w
theorem Since.later {w0 w w' : World} (h : Since w0 w) (b : Below w.heap.size w w') : Since w0 w' := below_then h b
theorem Since.set3 {w0 w : World} (h : Since w0 w) {g : Nat} (hg : w0.heap.size ≤ g) (x y z : Value) : Since w0 (((w.setCell ⟨g, 0, none⟩ x).setCell ⟨g, 1, none⟩ y).setCell ⟨g, 2, none⟩ z) := below_set3 h hg x y z
theorem later_lstQV {P : Program} {f : FuncId} {args : Array Value} {v0 v : World} {q : Rat} {u : Value} (hv : Below v0.heap.size v0 v) (h : Calls P f args v (LstQV q u v)) :
    Calls P f args v (fun e w' => ∃ (a : Option Addr) (n cap : Nat) (b : Option Addr) (m cap' : Nat), e = .returned (.tuple #[frV (zneg q.num) a n cap b m cap', u]) ∧ Wd w' a n cap (dg q.num.natAbs) ∧ Wd w' b m cap' (dg q.den) ∧ Below v0.heap.size v0 w' ∧ ∀ (g : Nat) (o : Obj), v.heap[g]? = some o → w'.heap[g]? = some o) :=
  h.mono fun _ _ ⟨a, n, c, b, m, d, he, h1, h2, hb⟩ => ⟨a, n, c, b, m, d, he, h1, h2, below_then hv hb, fun _ _ hg => blk_later hg hb⟩
theorem heap_far3 (w : World) {A g : Nat} (hne : A ≠ g) (u v q : Value) : (((w.setCell ⟨g, 0, none⟩ u).setCell ⟨g, 1, none⟩ v).setCell ⟨g, 2, none⟩ q).heap[A]? = w.heap[A]? := (Below.heap_setCell _ ⟨g, 2, none⟩ q A hne).trans ((Below.heap_setCell _ ⟨g, 1, none⟩ v A hne).trans (Below.heap_setCell w ⟨g, 0, none⟩ u A hne))
theorem size_set3 (w : World) (g : Nat) (u v q : Value) : (((w.setCell ⟨g, 0, none⟩ u).setCell ⟨g, 1, none⟩ v).setCell ⟨g, 2, none⟩ q).heap.size = w.heap.size := by simp
theorem six_held {a b c d e f : Prop} (h : a ∧ b ∧ c) (k : d ∧ e ∧ f) : a ∧ b ∧ c ∧ d ∧ e ∧ f := ⟨h.1, h.2.1, h.2.2, k⟩
theorem sgn_gt (p q : Rat) : 0 < sgn (p - q).num ↔ q < p := by
  have h1 : 0 < sgn (p - q).num ↔ 0 < (p - q).num := by unfold sgn; split <;> (try split) <;> omega
  rw [h1, Rat.lt_iff_sub_pos q p, Rat.lt_iff_le_and_ne (a := 0), ← Rat.num_nonneg]
  constructor
  · intro h; exact ⟨by omega, fun e => by rw [← e] at h; simp at h⟩
  · rintro ⟨h2, h3⟩
    have : (p - q).num ≠ 0 := fun e => h3 (Rat.num_eq_zero.1 e).symm
    omega
theorem three_later {w w' : World} {p q r : Addr} {x y z : Value} (h : w.cell? p = some x ∧ w.cell? q = some y ∧ w.cell? r = some z) (hb : Below w.heap.size w w') : w'.cell? p = some x ∧ w'.cell? q = some y ∧ w'.cell? r = some z := ⟨cell_later hb h.1, cell_later hb h.2.1, cell_later hb h.2.2⟩
theorem infoFrac : (Try.prog.info? 34).map (fun i => (i.zero, i.size, i.bytes)) = some (some (.agg #[.bool false, .slice none 0 0, .slice none 0 0]), 3, 56) := by kernel_rfl
set_option maxRecDepth 4096 in
set_option maxHeartbeats 16000000 in
theorem law09_makes_in (S : FracSaid) (s0 : Bool) (a0 : Option Addr) (n0 c0 : Nat) (la0 : List Nat) (b0 : Option Addr) (m0 d0 : Nat) (lb0 : List Nat) (x y : Int) (a : Option Addr) (n cap : Nat) (K : List Fx) (w : World) (ha0 : Wd w a0 n0 c0 la0) (hb0 : Wd w b0 m0 d0 lb0) (hn0 : n0 ≤ 30) (hm0 : m0 ≤ 30) (hx : isInt x) (hy : isInt y) (hK : Fxs w a n cap K) (hn : n ≤ 20) :
    Calls Try.prog 3 #[frV s0 a0 n0 c0 b0 m0 d0, .agg #[.int .i64 x, .int .i64 y], .slice a n cap] w (Gives (.bool true) w) := by
  have HB := Lib.hid (below_then (below_alloc w (.cells #[.bool s0, .slice a0 n0 c0, .slice b0 m0 d0] 24)) (below_alloc _ (.cells #[.int .i64 x, .int .i64 y] 25)))
  have A0 := Lib.hid (ha0.later HB.out)
  have B0 := Lib.hid (hb0.later HB.out)
  have HK := Lib.hid (hK.later HB.out)
  have hKl := hK.len
  have hKb := hK.bound
  have Hlen := Lib.hid hKl
  obtain ⟨hx0, hx1⟩ := boxes_at w ((w.alloc (.cells #[.bool s0, .slice a0 n0 c0, .slice b0 m0 d0] 24)).alloc (.cells #[.int .i64 x, .int .i64 y] 25)) #[.bool s0, .slice a0 n0 c0, .slice b0 m0 d0] #[.int .i64 x, .int .i64 y] 24 25 (Below.refl _ _)
  have X0 := Lib.hid hx0
  have X1 := Lib.hid hx1
  obtain ⟨p0, hp0⟩ : ∃ p, qval s0 (val la0) (val lb0) = p := ⟨_, rfl⟩
  have lp0 : qlen p0 ≤ 31 := (Fr.of ha0 hb0 hn0 hm0 hp0).len
  have EQ0 := Lib.hid hp0
  have Hx := Lib.hid hx
  have Hy := Lib.hid hy
  clear ha0 hb0 hp0 hK hx0 hx1 hx hy hKl
  have hl0 : (decide ((30 : Int) < (n0 : Int)) || decide ((30 : Int) < (m0 : Int))) = false := by rw [decide_eq_false (by omega), decide_eq_false (by omega)]; rfl
  obtain ⟨z, hz⟩ : ∃ r, ((0 : Int) : Rat) = r := ⟨_, rfl⟩
  have EZ := Lib.hid hz
  clear hz
  have hn20 : decide ((20 : Int) < (n : Int)) = false := decide_eq_false (by omega)
  go_enter Try.func3, Try.ntmps3
  unfold frV
  obtain ⟨k0, k1, k2, k3, k4⟩ := cells_3_2 X0.out X1.out
  go_wp2_with fail
  refine (ref09_long s0 a0 n0 c0 b0 m0 d0 30 _).mono ?_
  rintro e w1 ⟨rfl, b⟩
  clear k0 k1 k2 k3 k4
  replace HB := Lib.hid (below_then HB.out b)
  replace X0 := Lib.hid (blk_later X0.out b)
  replace X1 := Lib.hid (blk_later X1.out b)
  replace A0 := Lib.hid (A0.out.later b)
  replace B0 := Lib.hid (B0.out.later b)
  replace HK := Lib.hid (HK.out.later b)
  clear b
  rw [hl0]
  obtain ⟨k0, k1, k2, k3, k4⟩ := cells_3_2 X0.out X1.out
  go_wp2_with fail
  refine (ref09_int 0 _ isInt_nought).mono ?_
  rintro e w2 ⟨a1, n1, c1, b1, m1, d1, rfl, h1, g1, b⟩
  clear k0 k1 k2 k3 k4
  replace HB := Lib.hid (below_then HB.out b)
  replace X0 := Lib.hid (blk_later X0.out b)
  replace X1 := Lib.hid (blk_later X1.out b)
  replace A0 := Lib.hid (A0.out.later b)
  replace B0 := Lib.hid (B0.out.later b)
  replace HK := Lib.hid (HK.out.later b)
  clear b
  rw [EZ.out] at h1 g1 ⊢
  have hN1 : n1 ≤ 31 := by rw [← h1.len, ← EZ.out]; exact Nat.le_trans (qlen_num _) (Nat.le_trans (qlen_int isInt_nought) (by omega))
  have hM1 : m1 ≤ 31 := by rw [← g1.len, ← EZ.out]; exact Nat.le_trans (qlen_den _) (Nat.le_trans (qlen_int isInt_nought) (by omega))
  have R1 := Lib.hid h1
  have T1 := Lib.hid g1
  clear h1 g1
  have Y0 := X0
  have Y1 := X1
  have A9 := A0
  have B9 := B0
  have HK9 := HK
  have HB9 := HB
  have lB : w.heap.size + 1 < w2.heap.size := (Array.getElem?_eq_some_iff.1 X1.out).1
  unfold frV
  have MB : Hid ((World.alloc w2 (.cells #[.bool (zneg z.num), .slice a1 n1 c1, .slice b1 m1 d1] 24)).heap[w2.heap.size]? = some (.cells #[.bool (zneg z.num), .slice a1 n1 c1, .slice b1 m1 d1] 24 (0, 0))) := Lib.hid (blk_new w2 _ _)
  replace HB := Lib.hid (below_then HB.out (below_alloc w2 (.cells #[.bool (zneg z.num), .slice a1 n1 c1, .slice b1 m1 d1] 24)))
  replace X0 := Lib.hid (blk_later X0.out (below_alloc w2 (.cells #[.bool (zneg z.num), .slice a1 n1 c1, .slice b1 m1 d1] 24)))
  replace X1 := Lib.hid (blk_later X1.out (below_alloc w2 (.cells #[.bool (zneg z.num), .slice a1 n1 c1, .slice b1 m1 d1] 24)))
  replace A0 := Lib.hid (A0.out.later (below_alloc w2 (.cells #[.bool (zneg z.num), .slice a1 n1 c1, .slice b1 m1 d1] 24)))
  replace B0 := Lib.hid (B0.out.later (below_alloc w2 (.cells #[.bool (zneg z.num), .slice a1 n1 c1, .slice b1 m1 d1] 24)))
  replace HK := Lib.hid (HK.out.later (below_alloc w2 (.cells #[.bool (zneg z.num), .slice a1 n1 c1, .slice b1 m1 d1] 24)))
  replace R1 := Lib.hid (R1.out.later (below_alloc w2 (.cells #[.bool (zneg z.num), .slice a1 n1 c1, .slice b1 m1 d1] 24)))
  replace T1 := Lib.hid (T1.out.later (below_alloc w2 (.cells #[.bool (zneg z.num), .slice a1 n1 c1, .slice b1 m1 d1] 24)))
  obtain ⟨k0, k1, k2, k3, k4, k5, k6, k7⟩ := cells_3_2_3 X0.out X1.out MB.out
  go_wp2_with fail
  clear k0 k1 k2 k3 k4 k5 k6 k7
  have hWs : (w2.alloc (.cells #[.bool (zneg z.num), .slice a1 n1 c1, .slice b1 m1 d1] 24)).heap.size = w2.heap.size + 1 := blk_size _ _
  have HWB : Hid (Below w2.heap.size w2 (w2.alloc (.cells #[.bool (zneg z.num), .slice a1 n1 c1, .slice b1 m1 d1] 24))) := Lib.hid (below_alloc _ _)
  clear HB X0 X1 A0 B0 HK
  obtain ⟨i0, hi, hz0, hz1, hz2⟩ := info_parts infoFrac
  have hzw : noWords (Value.agg #[.bool false, .slice none 0 0, .slice none 0 0]).cells.toList := by
    intro u hu k
    simp [Value.cells] at hu
    rcases hu with rfl | rfl <;> simp
  go_loopw [7, 9] (fun mv iv wr => ∃ (k : Nat) (q : Rat) (a1 : Option Addr) (n1 c1 : Nat) (b1 : Option Addr) (m1 d1 : Nat), k ≤ n ∧ iv = .int .i64 (k : Int) ∧ n1 ≤ 31 ∧ m1 ≤ 31 ∧ Hid (qmax ((K.take k).map Fx.q) = q) ∧ Hid (∀ u ∈ K.take k, u.n ≤ 30 ∧ u.m ≤ 30) ∧
    Hid (wr.heap[w2.heap.size]? = some (.cells #[.bool (zneg q.num), .slice a1 n1 c1, .slice b1 m1 d1] 24 (0, 0))) ∧ Hid (Wd wr a1 n1 c1 (dg q.num.natAbs)) ∧ Hid (Wd wr b1 m1 d1 (dg q.den)) ∧
    Hid (OwnC wr (w2.heap.size + 1) 34 mv (K.take k)) ∧ Hid (Below w2.heap.size w2 wr) ∧ w2.heap.size + 1 ≤ wr.heap.size) (fun _ iv _ => n - (intOf iv).toNat)
  case atStart => exact ⟨0, z, a1, n1, c1, b1, m1, d1, by omega, rfl, hN1, hM1, Lib.hid (by rw [← EZ.out]; rfl), Lib.hid (fun u hu => by simp at hu), MB, R1, T1, Lib.hid (OwnC.nil _ _ _), HWB, by omega⟩
  case round =>
    clear MB R1 T1 HWB hWs hN1 hM1
    obtain ⟨k, q, a1, n1, c1, b1, m1, d1, hk, rfl, hN1, hM1, HQ, HS, MB, R1, T1, HO, HW, hsz⟩ := hrel
    by_cases hlt : k < n
    · obtain ⟨bb, off, rfl, e0, e1, e2, hok⟩ := HK9.out.at hlt
      have HT : Hid (K.take (k + 1) = K.take k ++ [K.getD k Fx.zero]) := Lib.hid (by
        have hl : k < K.length := by rw [Hlen.out]; exact hlt
        rw [List.take_succ_eq_append_getElem hl, List.getD_eq_getElem?_getD, List.getElem?_eq_getElem hl]; rfl)
      have HkL : Hid ((K.take k).length = k) := Lib.hid (by rw [List.length_take, Hlen.out]; omega)
      generalize K.getD k Fx.zero = xk at *
      obtain ⟨sk, ak, nk, ck, lak, bk, mk, dk, lbk⟩ := xk
      obtain ⟨hoka, hokb⟩ := hok
      simp only at e0 e1 e2 hoka hokb
      have HE : Hid (w2.cell? ⟨bb, off + k * 3, none⟩ = some (.bool sk) ∧ w2.cell? ⟨bb, off + k * 3 + 1, none⟩ = some (.slice ak nk ck) ∧ w2.cell? ⟨bb, off + k * 3 + 2, none⟩ = some (.slice bk mk dk)) := Lib.hid ⟨e0, e1, e2⟩
      have AK := Lib.hid hoka
      have BK := Lib.hid hokb
      clear hoka hokb e0 e1 e2
      have hki : (k : Int) < (n : Int) := by omega
      have lg : (decide ((30 : Int) < (nk : Int)) || decide ((30 : Int) < (mk : Int))) = true ∨ (nk ≤ 30 ∧ mk ≤ 30) := by
        by_cases h9 : nk ≤ 30 ∧ mk ≤ 30
        · exact .inr h9
        · refine .inl ?_
          rw [Bool.or_eq_true]
          rcases (show 30 < nk ∨ 30 < mk by omega) with h8 | h8
          · exact .inl (decide_eq_true (by omega))
          · exact .inr (decide_eq_true (by omega))
      obtain ⟨e0, e1, e2⟩ := three_later HE.out HW.out
      go_wp2_with fail
      refine (ref09_long sk ak nk ck bk mk dk 30 _).mono ?_
      rintro e w3 ⟨rfl, b3⟩
      clear e0 e1 e2
      rcases lg with hl | ⟨hnk, hmk⟩
      · rw [hl]
        clear hl
        go_wp2_with fail
        refine (law09_works S _).mono ?_
        rintro e w4 ⟨rfl, b4⟩
        go_wp2
        go_ret
        exact ⟨rfl, below_then HB9.out (below_then HW.out (below_then b3 b4))⟩
      · have hl : (decide ((30 : Int) < (nk : Int)) || decide ((30 : Int) < (mk : Int))) = false := by rw [decide_eq_false (by omega), decide_eq_false (by omega)]; rfl
        rw [hl]
        clear hl
        replace HW := Lib.hid (below_then HW.out b3)
        replace MB := Lib.hid (blk_later MB.out b3)
        replace R1 := Lib.hid (R1.out.later b3)
        replace T1 := Lib.hid (T1.out.later b3)
        replace HO := Lib.hid (HO.out.later b3)
        have hsz3 : w2.heap.size + 1 ≤ w3.heap.size := Nat.le_trans hsz b3.size
        clear b3 hsz
        obtain ⟨e0, e1, e2⟩ := three_later HE.out HW.out
        go_wp2_with fail
        refine (law09_to sk ak nk ck bk mk dk _).mono ?_
        rintro e w4 ⟨rfl, b4⟩
        clear e0 e1 e2
        replace HW := Lib.hid (below_then HW.out b4)
        replace MB := Lib.hid (blk_later MB.out b4)
        replace R1 := Lib.hid (R1.out.later b4)
        replace T1 := Lib.hid (T1.out.later b4)
        replace HO := Lib.hid (HO.out.later b4)
        have hsz4 : w2.heap.size + 1 ≤ w4.heap.size := Nat.le_trans hsz3 b4.size
        clear b4 hsz3
        unfold frV
        have HOa : Hid (OwnC (w4.alloc (.cells #[.bool sk, .slice ak nk ck, .slice bk mk dk] 34)) (w2.heap.size + 1) 34 _ (K.take k)) := Lib.hid (HO.out.later (below_alloc _ _))
        have hkL2 : (K.take k).length ≤ 20 := by rw [HkL.out]; omega
        go_wp2_with (at_builtin; refine wpList_append_clean _ rfl _ _ 29 rfl (w2.heap.size + 1) 34 i0 (.agg #[.bool false, .slice none 0 0, .slice none 0 0]) 3 56 Try.underlying29 hi hz0 hz1 hz2 rfl (by decide) _ (K.take k).length _ rfl HOa.out.1 ⟨w4.heap.size, 0, none⟩ 1 1 (Fx.cells ⟨sk, ak, nk, ck, lak, bk, mk, dk, lbk⟩) rfl rfl (cells_news _ _ _) (cells_one _) (by unfold maxLen; omega) (by omega) (by simp; omega) (by decide) HOa.out.2 hzw (noWords_cells _) (noWords_flat _) ?_)
        intro mv5 w5 hown hgrow hcl
        have HO5 : Hid (OwnC w5 (w2.heap.size + 1) 34 mv5 (K.take (k + 1))) := Lib.hid (by
          rw [HT.out]
          exact ⟨by simpa [List.flatMap_append] using hown, hcl⟩)
        have ba := below_alloc w4 (.cells #[.bool sk, .slice ak nk ck, .slice bk mk dk] 34)
        have hne : ∀ g, g ≤ w2.heap.size → some g ≠ Value.ownBlock _ := fun g hg e2 => by have := HOa.out.base g e2.symm; omega
        replace MB := Lib.hid ((hgrow.block _ (by rw [blk_size]; omega) (hne _ (Nat.le_refl _))).trans (blk_later MB.out ba))
        replace R1 := Lib.hid ((R1.out.later ba).aside HOa.out.2 hgrow)
        replace T1 := Lib.hid ((T1.out.later ba).aside HOa.out.2 hgrow)
        replace HW := Lib.hid ((below_then HW.out ba).grown hgrow (by rw [blk_size]; omega) (fun g hg => by have := HOa.out.base g hg; omega))
        have hsz5 : w2.heap.size + 1 ≤ w5.heap.size := Nat.le_trans (by rw [blk_size]; omega) hgrow.size
        clear hne ba hown hgrow hcl HOa HO hsz4
        obtain ⟨e0, e1, e2⟩ := three_later HE.out HW.out
        obtain ⟨qk, hqk⟩ : ∃ r, qval sk (val lak) (val lbk) = r := ⟨_, rfl⟩
        have lqk : qlen qk ≤ 31 := (Fr.of AK.out BK.out hnk hmk hqk).len
        have HS9 : Hid (∀ u ∈ K.take (k + 1), u.n ≤ 30 ∧ u.m ≤ 30) := Lib.hid (fun u hu => by
          rw [HT.out] at hu
          rcases List.mem_append.1 hu with h8 | h8
          · exact HS.out u h8
          · simp only [List.mem_singleton] at h8
            rw [h8]; exact ⟨hnk, hmk⟩)
        have HM9 : Hid ((K.take (k + 1)).map Fx.q = (K.take k).map Fx.q ++ [qk]) := Lib.hid (by rw [HT.out, List.map_append, ← hqk]; rfl)
        by_cases h0 : k = 0
        · have HQ9 : Hid (qmax ((K.take (k + 1)).map Fx.q) = qk) := Lib.hid (by rw [HM9.out, h0]; rfl)
          have hq : ((k : Int) == 0) = true := by simp; omega
          have hszX := hsz5
          clear h0
          go_wp2_with fail
          go_quiet (fail)
          have bq := below_draws w5 nq
          replace HW := Lib.hid (below_then HW.out bq)
          replace MB := Lib.hid (blk_later MB.out bq)
          replace HO5 := Lib.hid (HO5.out.later bq)
          replace hszX := Nat.le_trans hsz5 bq.size
          generalize w5.drewN nq = w8 at *
          clear bq
          obtain ⟨e0, e1, e2⟩ := three_later HE.out HW.out
          go_wp2_with fail
          refine (ref09_norm_q _ _ _ (Fr.of (AK.out.later HW.out) (BK.out.later HW.out) (by omega) (by omega) hqk)).mono ?_
          rintro e w9 ⟨a9, n9, c9, b9, m9, d9, rfl, h9, g9, b⟩
          clear e0 e1 e2
          have hN9 : n9 ≤ 31 := by rw [← h9.len]; exact Nat.le_trans (qlen_num _) lqk
          have hM9 : m9 ≤ 31 := by rw [← g9.len]; exact Nat.le_trans (qlen_den _) lqk
          replace HW := Lib.hid (below_then HW.out b)
          replace MB := Lib.hid (blk_later MB.out b)
          replace HO5 := Lib.hid (HO5.out.later b)
          have hsz9 : w2.heap.size + 1 ≤ w9.heap.size := Nat.le_trans hszX b.size
          have v0 := blk_cell MB.out 0
          have v1 := blk_cell MB.out 1
          have v2 := blk_cell MB.out 2
          have f0 := blk_free MB.out 0
          have f1 := blk_free MB.out 1
          have f2 := blk_free MB.out 2
          simp only [List.getElem?_toArray, List.getElem?_cons_zero, List.getElem?_cons_succ] at v0 v1 v2
          have HG9 := Lib.hid (blk_set3 MB.out (.bool (zneg qk.num)) (.slice a9 n9 c9) (.slice b9 m9 d9))
          have HR9 := Lib.hid (h9.stored3 MB.out (zneg qk.num) a9 n9 c9 (.slice b9 m9 d9))
          have HT9 := Lib.hid (g9.stored3 MB.out (zneg qk.num) a9 n9 c9 (.slice b9 m9 d9))
          have HO9 := Lib.hid (HO5.out.kept (fun g h1 _ => heap_far3 w9 (show g ≠ w2.heap.size by omega) (.bool (zneg qk.num)) (.slice a9 n9 c9) (.slice b9 m9 d9)))
          have HW9 := Lib.hid (below_set3 HW.out (Nat.le_refl _) (.bool (zneg qk.num)) (.slice a9 n9 c9) (.slice b9 m9 d9))
          have hszz := hsz9
          rw [← size_set3 w9 w2.heap.size (.bool (zneg qk.num)) (.slice a9 n9 c9) (.slice b9 m9 d9)] at hszz
          clear h9 g9 b HO5 MB HW R1 T1
          unfold frV
          go_wp2
          go_roundw
          case rel => exact ⟨k + 1, qk, a9, n9, c9, b9, m9, d9, by omega, by go_num, hN9, hM9, HQ9, HS9, HG9, HR9, HT9, HO9, HW9, hszz⟩
          case measure => simp [intOf]; omega
        · have hq : ((k : Int) == 0) = false := by simp; omega
          have hne0 : Hid ((K.take k).map Fx.q ≠ []) := Lib.hid (fun e => by
            have e3 := congrArg List.length e
            rw [List.length_map, HkL.out] at e3
            exact h0 e3)
          obtain ⟨cc, hcc⟩ : ∃ r, sgn (qk - q).num = r := ⟨_, rfl⟩
          have EC := Lib.hid hcc
          have Hle : Hid (0 < cc ↔ q < qk) := Lib.hid (by rw [← hcc]; exact sgn_gt qk q)
          have Hqk := Lib.hid hqk
          clear h0 hcc
          go_wp2
          have HWd : Hid (Below w2.heap.size w2 w5.drew) := Lib.hid HW.out.drew
          have MBd : Hid (w5.drew.heap[w2.heap.size]? = _) := Lib.hid MB.out
          have Hd : Hid (Below w5.heap.size w5 w5.drew) := Lib.hid (Below.refl _ _).drew
          have Sn0 := six_held (three_later HE.out HWd.out) (cells_3 MBd.out)
          go_region_held3 (fun w' => w'.cell? ⟨bb, off + k * 3, none⟩ = some (.bool sk) ∧ w'.cell? ⟨bb, off + k * 3 + 1, none⟩ = some (.slice ak nk ck) ∧ w'.cell? ⟨bb, off + k * 3 + 2, none⟩ = some (.slice bk mk dk) ∧ w'.cell? ⟨w2.heap.size, 0, none⟩ = some (.bool (zneg q.num)) ∧ w'.cell? ⟨w2.heap.size, 1, none⟩ = some (.slice a1 n1 c1) ∧ w'.cell? ⟨w2.heap.size, 2, none⟩ = some (.slice b1 m1 d1)) (first | with_reducible exact Sn0 | with_reducible exact Sn1 | with_reducible exact Sn2)
            (first
            | (go_at_call 14; (refine (ref09_norm_q _ qk _ (Fr.of (AK.out.later HWd.out) (BK.out.later HWd.out) (by omega) (by omega) Hqk.out)).mono ?_); rintro e w6 ⟨a6, n6, c6, b6, m6, d6, rfl, h6, g6, bx6⟩; have MB6 := blk_later MBd.out bx6; have Sn1 := six_held (three_later HE.out (below_then HWd.out bx6)) (cells_3 MB6); unfold frV)
            | (go_at_call 13; (refine (ref09_cmp_q _ _ qk q _ (Rt.of h6 g6 ?q1 ?q2) (Rt.of (R1.out.later (below_then Hd.out bx6)) (T1.out.later (below_then Hd.out bx6)) ?q3 ?q4)).mono ?_); (case q1 => have h7 := h6.len; have h8 := qlen_num qk; omega); (case q2 => have h7 := g6.len; have h8 := qlen_den qk; omega); (case q3 => omega); (case q4 => omega); rintro e w7 ⟨rfl, bx7⟩; rw [EC.out]; have Sn2 := six_held (three_later HE.out (below_then HWd.out (below_then bx6 bx7))) (cells_3 (blk_later MB6 bx7))))
          have bt := below_then Hd.out (below_then bx6 bx7)
          replace HW := Lib.hid (below_then HW.out bt)
          replace MB := Lib.hid (blk_later MB.out bt)
          replace HO5 := Lib.hid (HO5.out.later bt)
          replace R1 := Lib.hid (R1.out.later bt)
          replace T1 := Lib.hid (T1.out.later bt)
          have hszX : w2.heap.size + 1 ≤ w7.heap.size := Nat.le_trans hsz5 bt.size
          clear bt bx6 bx7 h6 g6 HWd MBd Hd Sn0 Sn1 Sn2 MB6
          by_cases hgt : 0 < cc
          · have HQ9 : Hid (qmax ((K.take (k + 1)).map Fx.q) = qk) := Lib.hid (by rw [HM9.out, qmax_snoc hne0.out, HQ.out, if_pos (Hle.out.1 hgt)])
            have hd9 : decide (0 < cc) = true := decide_eq_true hgt
            obtain ⟨e0, e1, e2⟩ := three_later HE.out HW.out
            go_wp2_with fail
            refine (ref09_norm_q _ _ _ (Fr.of (AK.out.later HW.out) (BK.out.later HW.out) (by omega) (by omega) Hqk.out)).mono ?_
            rintro e w9 ⟨a9, n9, c9, b9, m9, d9, rfl, h9, g9, b⟩
            clear e0 e1 e2
            have hN9 : n9 ≤ 31 := by rw [← h9.len]; exact Nat.le_trans (qlen_num _) lqk
            have hM9 : m9 ≤ 31 := by rw [← g9.len]; exact Nat.le_trans (qlen_den _) lqk
            replace HW := Lib.hid (below_then HW.out b)
            replace MB := Lib.hid (blk_later MB.out b)
            replace HO5 := Lib.hid (HO5.out.later b)
            have hsz9 : w2.heap.size + 1 ≤ w9.heap.size := Nat.le_trans hszX b.size
            have v0 := blk_cell MB.out 0
            have v1 := blk_cell MB.out 1
            have v2 := blk_cell MB.out 2
            have f0 := blk_free MB.out 0
            have f1 := blk_free MB.out 1
            have f2 := blk_free MB.out 2
            simp only [List.getElem?_toArray, List.getElem?_cons_zero, List.getElem?_cons_succ] at v0 v1 v2
            have HG9 := Lib.hid (blk_set3 MB.out (.bool (zneg qk.num)) (.slice a9 n9 c9) (.slice b9 m9 d9))
            have HR9 := Lib.hid (h9.stored3 MB.out (zneg qk.num) a9 n9 c9 (.slice b9 m9 d9))
            have HT9 := Lib.hid (g9.stored3 MB.out (zneg qk.num) a9 n9 c9 (.slice b9 m9 d9))
            have HO9 := Lib.hid (HO5.out.kept (fun g h1 _ => heap_far3 w9 (show g ≠ w2.heap.size by omega) (.bool (zneg qk.num)) (.slice a9 n9 c9) (.slice b9 m9 d9)))
            have HW9 := Lib.hid (below_set3 HW.out (Nat.le_refl _) (.bool (zneg qk.num)) (.slice a9 n9 c9) (.slice b9 m9 d9))
            have hszz := hsz9
            rw [← size_set3 w9 w2.heap.size (.bool (zneg qk.num)) (.slice a9 n9 c9) (.slice b9 m9 d9)] at hszz
            clear h9 g9 b HO5 MB HW R1 T1
            unfold frV
            go_wp2
            go_roundw
            case rel => exact ⟨k + 1, qk, a9, n9, c9, b9, m9, d9, by omega, by go_num, hN9, hM9, HQ9, HS9, HG9, HR9, HT9, HO9, HW9, hszz⟩
            case measure => simp [intOf]; omega
          · have HQ9 : Hid (qmax ((K.take (k + 1)).map Fx.q) = q) := Lib.hid (by rw [HM9.out, qmax_snoc hne0.out, HQ.out, if_neg (fun h => hgt (Hle.out.2 h))])
            have hd9 : decide (0 < cc) = false := decide_eq_false hgt
            go_wp2
            go_roundw
            case rel => exact ⟨k + 1, q, a1, n1, c1, b1, m1, d1, by omega, by go_num, hN1, hM1, HQ9, HS9, MB, R1, T1, HO5, HW, hszX⟩
            case measure => simp [intOf]; omega
    · obtain rfl : k = n := by omega
      have HTK : Hid (K.take k = K) := Lib.hid (List.take_of_length_le (by rw [Hlen.out]; exact Nat.le_refl _))
      rw [HTK.out] at HQ HS HO
      obtain ⟨ma, mc, rfl, HM0⟩ := HO.out.slice (fun u hu => (HK9.out.ok hu).later HW.out)
      rw [Hlen.out] at HM0
      have HM := Lib.hid HM0
      rw [Hlen.out]
      have X0 := Lib.hid (blk_later Y0.out HW.out)
      have X1 := Lib.hid (blk_later Y1.out HW.out)
      have A0 := Lib.hid (A9.out.later HW.out)
      have B0 := Lib.hid (B9.out.later HW.out)
      have HB := Lib.hid (below_then HB9.out HW.out)
      have lX : w.heap.size + 1 < wr.heap.size := by omega
      have lX2 : w2.heap.size < wr.heap.size := by omega
      clear HM0 HO HTK hlt hk HW HB9 Y0 Y1 A9 B9 HK9 hKb hsz hzw hi hz0 hz1 hz2 i0
      obtain ⟨k0, k1, k2⟩ := cells_3 X0.out
      go_wp2
      clear k0 k1 k2
      have HBd : Hid (Below wr.heap.size wr wr.drew) := Lib.hid (Below.refl _ _).drew
      have K0 : Hid (wr.drew.heap[w.heap.size]? = _) := Lib.hid X0.out
      have hfd : ∀ w' : World, (Instr.field 34 (.agg #[.bool s0, .slice a0 n0 c0, .slice b0 m0 d0]) 0).run Try.prog w' = .ok (.agg #[.bool s0, .slice a0 n0 c0]) w' := fun _ => by kernel_rfl
      obtain ⟨ok0, hok0⟩ : ∃ o, decide (val lb0 ≠ 0) = o := ⟨_, rfl⟩
      have HOK := Lib.hid hok0
      clear hok0
      go_cut [10, 11] from 61 to 70 (fun s t wx => ∃ (g : Nat) (a5 : Option Addr) (n5 c5 : Nat) (b5 : Option Addr) (m5 d5 : Nat), s = .pointer (some ⟨g, 0, none⟩) ∧ t = .bool ok0 ∧ Hid (wx.heap[g]? = some (.cells #[.bool (zneg p0.num), .slice a5 n5 c5, .slice b5 m5 d5] 34 (0, 0))) ∧ Hid (Wd wx a5 n5 c5 (dg p0.num.natAbs)) ∧ Hid (Wd wx b5 m5 d5 (dg p0.den)) ∧ Hid (Below wr.heap.size wr wx))
      case first =>
        go_region_held3 (fun w' => w'.cell? ⟨w.heap.size, 0, none⟩ = some (.bool s0) ∧ w'.cell? ⟨w.heap.size, 1, none⟩ = some (.slice a0 n0 c0) ∧ w'.cell? ⟨w.heap.size, 2, none⟩ = some (.slice b0 m0 d0)) (with_reducible refine cells_3 (t0 := 24) ?_; repeat (first | with_reducible exact K2.out | with_reducible exact K1.out | with_reducible exact K0.out | with_reducible exact X0.out | with_reducible refine blk_drawn ?_ | with_reducible refine blk_far3 ?_ (by omega) _ _ _ | with_reducible refine blk_later ?_ (below_alloc _ _)))
          (first
          | (go_at_call 12; refine (later_gives (v0 := wr) ?q0 (law09_to s0 a0 n0 c0 b0 m0 d0 _)).mono ?_; (case q0 => first | exact HBd.out | exact (below_alloc _ _).drew); rintro e w6 ⟨rfl, hb1, kk1⟩; have HB1 := Lib.hid hb1; have lW1 : wr.heap.size ≤ w6.heap.size := hb1.size; have K1 := Lib.hid (blk_later X0.out hb1); (try have P0 : Hid (w6.heap[wr.heap.size]? = some (.cells #[.bool false, .slice none 0 0, .slice none 0 0] 34 (0, 0))) := Lib.hid (by exact kk1 _ _ (blk_drawn (blk_new wr _ _)))); (try have lP0 : wr.heap.size < w6.heap.size := (Array.getElem?_eq_some_iff.1 P0.out).1); clear hb1 kk1; unfold frV)
          | (go_at_call 15; refine (later_lstQV (v0 := wr) ?q4 (S.new s0 a0 n0 c0 la0 b0 m0 d0 lb0 p0 _ (A0.out.later ?q2) (B0.out.later ?q3) (by omega) (by omega) EQ0.out)).mono ?_; (case q2 => first | exact HB1.out | exact below_then HB1.out (below_alloc _ _)); (case q3 => first | exact HB1.out | exact below_then HB1.out (below_alloc _ _)); (case q4 => first | exact HB1.out | exact below_then HB1.out (below_alloc _ _)); rintro e w7 ⟨a5, n5, c5, b5, m5, d5, rfl, h5, g5, hb2, kk2⟩; rw [HOK.out]; have R5 := Lib.hid h5; have T5 := Lib.hid g5; have HB2 := Lib.hid hb2; have lW2 : wr.heap.size ≤ w7.heap.size := hb2.size; have K2 := Lib.hid (blk_later X0.out hb2); (try have Q0 : Hid (w7.heap[w6.heap.size]? = some (.cells #[.bool false, .slice none 0 0, .slice none 0 0] 34 (0, 0))) := Lib.hid (by exact kk2 _ _ (blk_new w6 _ _))); (try replace P0 := Lib.hid (kk2 _ _ P0.out)); (try have l2P0 : wr.heap.size < w7.heap.size := (Array.getElem?_eq_some_iff.1 P0.out).1); (try (have eP0 := P0.out; obtain ⟨eP0x, eP0y, eP0z⟩ := cells_3 eP0; have eP0u := blk_free eP0 0; have eP0v := blk_free eP0 1; have eP0w := blk_free eP0 2; clear eP0)); (try have l2Q0 : w6.heap.size < w7.heap.size := (Array.getElem?_eq_some_iff.1 Q0.out).1); (try (have eQ0 := Q0.out; obtain ⟨eQ0x, eQ0y, eQ0z⟩ := cells_3 eQ0; have eQ0u := blk_free eQ0 0; have eQ0v := blk_free eQ0 1; have eQ0w := blk_free eQ0 2; clear eQ0)); (try (have gR0 := blk_new w7 #[.bool false, .slice none 0 0, .slice none 0 0] 34; obtain ⟨gR0x, gR0y, gR0z⟩ := cells_3 gR0; have gR0u := blk_free gR0 0; have gR0v := blk_free gR0 1; have gR0w := blk_free gR0 2; clear gR0)); clear h5 g5 hb2 kk2; unfold frV))
        all_goals (
          try clear eP0x; try clear eP0y; try clear eP0z; try clear eP0u; try clear eP0v; try clear eP0w; try clear eQ0x; try clear eQ0y; try clear eQ0z; try clear eQ0u; try clear eQ0v; try clear eQ0w; try clear gR0x; try clear gR0y; try clear gR0z; try clear gR0u; try clear gR0v; try clear gR0w
          clear HBd K0 K1 K2 HB1 A0 B0 X0 X1
          go_wp2
          go_meet
          refine ⟨_, a5, n5, c5, b5, m5, d5, rfl, rfl, Lib.hid ?_, Lib.hid ?_, Lib.hid ?_, Lib.hid ?_⟩
          · repeat (first | with_reducible exact blk_new _ _ _ | with_reducible exact blk_set3 P0.out _ _ _ | with_reducible exact blk_set3 Q0.out _ _ _)
          · repeat (first | with_reducible exact R5.out | with_reducible refine Wd.stored3 ?_ P0.out _ _ _ _ _ | with_reducible refine Wd.stored3 ?_ Q0.out _ _ _ _ _ | with_reducible refine Wd.later ?_ (below_alloc _ _))
          · repeat (first | with_reducible exact T5.out | with_reducible refine Wd.stored3 ?_ P0.out _ _ _ _ _ | with_reducible refine Wd.stored3 ?_ Q0.out _ _ _ _ _ | with_reducible refine Wd.later ?_ (below_alloc _ _))
          · repeat (first | exact HB2.out | with_reducible refine below_set3 ?_ (by omega) _ _ _ | with_reducible refine below_then ?_ (below_alloc _ _)))
      case rest =>
        obtain ⟨g5, a5, n5, c5, b5, m5, d5, rfl, rfl, D0, R5, T5, HW5⟩ := hcut
        clear HBd K0 hfd
        have HMr := HM
        replace X0 := Lib.hid (blk_later X0.out HW5.out)
        replace X1 := Lib.hid (blk_later X1.out HW5.out)
        replace MB := Lib.hid (blk_later MB.out HW5.out)
        replace A0 := Lib.hid (A0.out.later HW5.out)
        replace B0 := Lib.hid (B0.out.later HW5.out)
        replace R1 := Lib.hid (R1.out.later HW5.out)
        replace T1 := Lib.hid (T1.out.later HW5.out)
        replace HM := Lib.hid (HM.out.later HW5.out)
        replace HB := Lib.hid (below_then HB.out HW5.out)
        have SN : Hid (Since wr wc) := Lib.hid HW5.out
        have lwr : wr.heap.size ≤ wc.heap.size := HW5.out.size
        clear HW5
        have l5n := R5.out.len
        have l5d := T5.out.len
        have l5a := qlen_num p0
        have l5b := qlen_den p0
        obtain ⟨u, hu⟩ : ∃ r, (x : Rat) = r := ⟨_, rfl⟩
        obtain ⟨v, hv⟩ : ∃ r, (y : Rat) = r := ⟨_, rfl⟩
        have lu : qlen u ≤ 2 := by rw [← hu]; exact qlen_int Hx.out
        have lv : qlen v ≤ 2 := by rw [← hv]; exact qlen_int Hy.out
        have lz : qlen z ≤ 2 := by rw [← EZ.out]; exact qlen_int isInt_nought
        obtain ⟨p1, hp1⟩ : ∃ r, u / v = r := ⟨_, rfl⟩
        have lp1 : qlen p1 ≤ 5 := by rw [← hp1]; have := qlen_div u v; omega
        have EU := Lib.hid hu
        have EV := Lib.hid hv
        have EP := Lib.hid hp1
        obtain ⟨o1, ho1⟩ : ∃ o, decide (y ≠ 0) = o := ⟨_, rfl⟩
        have EO := Lib.hid ho1
        obtain ⟨sz, hsz⟩ : ∃ o, ((blen (val []) + blen (val lb0) : Nat) : Int) = o := ⟨_, rfl⟩
        have ESZ := Lib.hid hsz
        have hsz0 : decide (0 < sz) = ok0 := by
          rw [← hsz, ← HOK.out]
          refine decide_eq_decide.2 ?_
          have h1 : blen (val []) = 0 := by rfl
          rw [h1, Nat.zero_add]
          have h2 : blen (val lb0) = 0 ↔ val lb0 = 0 := ⟨fun h => Classical.byContradiction fun e => by have := blen_pos e; omega, fun h => by rw [h]; rfl⟩
          omega
        have eok : (ok0 == ok0) = true := by simp
        have HS2 : Hid (∀ u ∈ K, u.n ≤ 2000 ∧ u.m ≤ 2000) := Lib.hid (fun u hu => by
          have h1 := HS.out u hu
          omega)
        clear hu hv hp1 ho1 hsz
        obtain ⟨vk0, vk1, vk2, vk3, vk4, vk5, vk6, vk7, vk8, vk9, vk10⟩ := cells_3_2_3_3 X0.out X1.out MB.out D0.out
        go_wp2_with fail
        refine (S.ratio x y _ Hx.out Hy.out).mono ?_
        rintro e wv1 ⟨a6, n6, c6, b6, m6, d6, rfl, h6, g6, b⟩
        clear vk0 vk1 vk2 vk3 vk4 vk5 vk6 vk7 vk8 vk9 vk10
        replace HB := Lib.hid (below_then HB.out b)
        replace X0 := Lib.hid (blk_later X0.out b)
        replace X1 := Lib.hid (blk_later X1.out b)
        replace MB := Lib.hid (blk_later MB.out b)
        replace D0 := Lib.hid (blk_later D0.out b)
        replace A0 := Lib.hid (A0.out.later b)
        replace B0 := Lib.hid (B0.out.later b)
        replace R1 := Lib.hid (R1.out.later b)
        replace T1 := Lib.hid (T1.out.later b)
        replace R5 := Lib.hid (R5.out.later b)
        replace T5 := Lib.hid (T5.out.later b)
        replace HM := Lib.hid (HM.out.later b)
        replace SN := Lib.hid (SN.out.later b)
        clear b
        rw [EU.out, EV.out, EP.out] at h6 g6
        rw [EU.out, EV.out, EP.out, EO.out]
        have hN6 : n6 ≤ qlen p1 := (by rw [← h6.len]; exact qlen_num _)
        have hM6 : m6 ≤ qlen p1 := (by rw [← g6.len]; exact qlen_den _)
        have R6 := Lib.hid h6
        have T6 := Lib.hid g6
        clear h6 g6
        unfold frV
        have E0 : Hid ((World.alloc wv1 (.cells #[.bool (zneg p1.num), .slice a6 n6 c6, .slice b6 m6 d6] 34)).heap[wv1.heap.size]? = some (.cells #[.bool (zneg p1.num), .slice a6 n6 c6, .slice b6 m6 d6] 34 (0, 0))) := Lib.hid (blk_new wv1 _ _)
        replace HB := Lib.hid (below_then HB.out (below_alloc wv1 (.cells #[.bool (zneg p1.num), .slice a6 n6 c6, .slice b6 m6 d6] 34)))
        replace X0 := Lib.hid (blk_later X0.out (below_alloc wv1 (.cells #[.bool (zneg p1.num), .slice a6 n6 c6, .slice b6 m6 d6] 34)))
        replace X1 := Lib.hid (blk_later X1.out (below_alloc wv1 (.cells #[.bool (zneg p1.num), .slice a6 n6 c6, .slice b6 m6 d6] 34)))
        replace MB := Lib.hid (blk_later MB.out (below_alloc wv1 (.cells #[.bool (zneg p1.num), .slice a6 n6 c6, .slice b6 m6 d6] 34)))
        replace D0 := Lib.hid (blk_later D0.out (below_alloc wv1 (.cells #[.bool (zneg p1.num), .slice a6 n6 c6, .slice b6 m6 d6] 34)))
        replace A0 := Lib.hid (A0.out.later (below_alloc wv1 (.cells #[.bool (zneg p1.num), .slice a6 n6 c6, .slice b6 m6 d6] 34)))
        replace B0 := Lib.hid (B0.out.later (below_alloc wv1 (.cells #[.bool (zneg p1.num), .slice a6 n6 c6, .slice b6 m6 d6] 34)))
        replace R1 := Lib.hid (R1.out.later (below_alloc wv1 (.cells #[.bool (zneg p1.num), .slice a6 n6 c6, .slice b6 m6 d6] 34)))
        replace T1 := Lib.hid (T1.out.later (below_alloc wv1 (.cells #[.bool (zneg p1.num), .slice a6 n6 c6, .slice b6 m6 d6] 34)))
        replace R5 := Lib.hid (R5.out.later (below_alloc wv1 (.cells #[.bool (zneg p1.num), .slice a6 n6 c6, .slice b6 m6 d6] 34)))
        replace T5 := Lib.hid (T5.out.later (below_alloc wv1 (.cells #[.bool (zneg p1.num), .slice a6 n6 c6, .slice b6 m6 d6] 34)))
        replace HM := Lib.hid (HM.out.later (below_alloc wv1 (.cells #[.bool (zneg p1.num), .slice a6 n6 c6, .slice b6 m6 d6] 34)))
        replace SN := Lib.hid (SN.out.later (below_alloc wv1 (.cells #[.bool (zneg p1.num), .slice a6 n6 c6, .slice b6 m6 d6] 34)))
        replace R6 := Lib.hid (R6.out.later (below_alloc wv1 (.cells #[.bool (zneg p1.num), .slice a6 n6 c6, .slice b6 m6 d6] 34)))
        replace T6 := Lib.hid (T6.out.later (below_alloc wv1 (.cells #[.bool (zneg p1.num), .slice a6 n6 c6, .slice b6 m6 d6] 34)))
        obtain ⟨vk0, vk1, vk2, vk3, vk4, vk5, vk6, vk7, vk8, vk9, vk10, vk11, vk12, vk13⟩ := cells_3_2_3_3_3 X0.out X1.out MB.out D0.out E0.out
        go_wp2_with fail
        refine (ref09_int 0 _ isInt_nought).mono ?_
        rintro e wv2 ⟨a7, n7, c7, b7, m7, d7, rfl, h7, g7, b⟩
        clear vk0 vk1 vk2 vk3 vk4 vk5 vk6 vk7 vk8 vk9 vk10 vk11 vk12 vk13
        replace HB := Lib.hid (below_then HB.out b)
        replace X0 := Lib.hid (blk_later X0.out b)
        replace X1 := Lib.hid (blk_later X1.out b)
        replace MB := Lib.hid (blk_later MB.out b)
        replace D0 := Lib.hid (blk_later D0.out b)
        replace E0 := Lib.hid (blk_later E0.out b)
        replace A0 := Lib.hid (A0.out.later b)
        replace B0 := Lib.hid (B0.out.later b)
        replace R1 := Lib.hid (R1.out.later b)
        replace T1 := Lib.hid (T1.out.later b)
        replace R5 := Lib.hid (R5.out.later b)
        replace T5 := Lib.hid (T5.out.later b)
        replace HM := Lib.hid (HM.out.later b)
        replace SN := Lib.hid (SN.out.later b)
        replace R6 := Lib.hid (R6.out.later b)
        replace T6 := Lib.hid (T6.out.later b)
        clear b
        rw [EZ.out] at h7 g7 ⊢
        have hN7 : n7 ≤ qlen z := (by rw [← h7.len]; exact qlen_num _)
        have hM7 : m7 ≤ qlen z := (by rw [← g7.len]; exact qlen_den _)
        have lt0 : w.heap.size + 1 < wv2.heap.size := (Array.getElem?_eq_some_iff.1 X1.out).1
        have lt1 : w2.heap.size < wv2.heap.size := (Array.getElem?_eq_some_iff.1 MB.out).1
        have lt2 : g5 < wv2.heap.size := (Array.getElem?_eq_some_iff.1 D0.out).1
        have lt3 : wv1.heap.size < wv2.heap.size := (Array.getElem?_eq_some_iff.1 E0.out).1
        have lt4 : wr.heap.size ≤ wv2.heap.size := SN.out.size
        have R7 := Lib.hid h7
        have T7 := Lib.hid g7
        clear h7 g7
        unfold frV
        have G0 : Hid ((World.alloc wv2 (.cells #[.bool (zneg z.num), .slice a7 n7 c7, .slice b7 m7 d7] 24)).heap[wv2.heap.size]? = some (.cells #[.bool (zneg z.num), .slice a7 n7 c7, .slice b7 m7 d7] 24 (0, 0))) := Lib.hid (blk_new wv2 _ _)
        replace HB := Lib.hid (below_then HB.out (below_alloc wv2 (.cells #[.bool (zneg z.num), .slice a7 n7 c7, .slice b7 m7 d7] 24)))
        replace X0 := Lib.hid (blk_later X0.out (below_alloc wv2 (.cells #[.bool (zneg z.num), .slice a7 n7 c7, .slice b7 m7 d7] 24)))
        replace X1 := Lib.hid (blk_later X1.out (below_alloc wv2 (.cells #[.bool (zneg z.num), .slice a7 n7 c7, .slice b7 m7 d7] 24)))
        replace MB := Lib.hid (blk_later MB.out (below_alloc wv2 (.cells #[.bool (zneg z.num), .slice a7 n7 c7, .slice b7 m7 d7] 24)))
        replace D0 := Lib.hid (blk_later D0.out (below_alloc wv2 (.cells #[.bool (zneg z.num), .slice a7 n7 c7, .slice b7 m7 d7] 24)))
        replace E0 := Lib.hid (blk_later E0.out (below_alloc wv2 (.cells #[.bool (zneg z.num), .slice a7 n7 c7, .slice b7 m7 d7] 24)))
        replace A0 := Lib.hid (A0.out.later (below_alloc wv2 (.cells #[.bool (zneg z.num), .slice a7 n7 c7, .slice b7 m7 d7] 24)))
        replace B0 := Lib.hid (B0.out.later (below_alloc wv2 (.cells #[.bool (zneg z.num), .slice a7 n7 c7, .slice b7 m7 d7] 24)))
        replace R1 := Lib.hid (R1.out.later (below_alloc wv2 (.cells #[.bool (zneg z.num), .slice a7 n7 c7, .slice b7 m7 d7] 24)))
        replace T1 := Lib.hid (T1.out.later (below_alloc wv2 (.cells #[.bool (zneg z.num), .slice a7 n7 c7, .slice b7 m7 d7] 24)))
        replace R5 := Lib.hid (R5.out.later (below_alloc wv2 (.cells #[.bool (zneg z.num), .slice a7 n7 c7, .slice b7 m7 d7] 24)))
        replace T5 := Lib.hid (T5.out.later (below_alloc wv2 (.cells #[.bool (zneg z.num), .slice a7 n7 c7, .slice b7 m7 d7] 24)))
        replace HM := Lib.hid (HM.out.later (below_alloc wv2 (.cells #[.bool (zneg z.num), .slice a7 n7 c7, .slice b7 m7 d7] 24)))
        replace SN := Lib.hid (SN.out.later (below_alloc wv2 (.cells #[.bool (zneg z.num), .slice a7 n7 c7, .slice b7 m7 d7] 24)))
        replace R6 := Lib.hid (R6.out.later (below_alloc wv2 (.cells #[.bool (zneg z.num), .slice a7 n7 c7, .slice b7 m7 d7] 24)))
        replace T6 := Lib.hid (T6.out.later (below_alloc wv2 (.cells #[.bool (zneg z.num), .slice a7 n7 c7, .slice b7 m7 d7] 24)))
        replace R7 := Lib.hid (R7.out.later (below_alloc wv2 (.cells #[.bool (zneg z.num), .slice a7 n7 c7, .slice b7 m7 d7] 24)))
        replace T7 := Lib.hid (T7.out.later (below_alloc wv2 (.cells #[.bool (zneg z.num), .slice a7 n7 c7, .slice b7 m7 d7] 24)))
        by_cases hy0 : y = 0
        · have e2 : o1 = false := by rw [← EO.out, hy0]; rfl
          have e1 : p1 = z := by rw [← EP.out, ← EV.out, ← EZ.out, hy0, rat_nought, Rat.div_def, Rat.inv_zero, Rat.mul_zero]
          clear EO
          subst hy0
          subst e2
          obtain rfl : p1 = z := e1
          obtain ⟨xk0, xk1, xk2, xk3, xk4, xk5, xk6, xk7, xk8, xk9, xk10, xk11, xk12, xk13, xk14, xk15, xk16⟩ := cells_3_2_3_3_3_3 X0.out X1.out MB.out D0.out E0.out G0.out
          go_wp2
          clear xk0 xk1 xk2 xk3 xk4 xk5 xk6 xk7 xk8 xk9 xk10 xk11 xk12 xk13 xk14 xk15 xk16
          generalize (wv2.alloc (.cells #[.bool (zneg p1.num), .slice a7 n7 c7, .slice b7 m7 d7] 24)) = W at *
          replace HB := Lib.hid (below_then HB.out ((Below.refl _ _).drew : Below W.heap.size W W.drew))
          replace X0 : Hid (W.drew.heap[w.heap.size]? = _) := Lib.hid X0.out
          replace X1 : Hid (W.drew.heap[w.heap.size + 1]? = _) := Lib.hid X1.out
          replace MB : Hid (W.drew.heap[w2.heap.size]? = _) := Lib.hid MB.out
          replace D0 : Hid (W.drew.heap[g5]? = _) := Lib.hid D0.out
          replace E0 : Hid (W.drew.heap[wv1.heap.size]? = _) := Lib.hid E0.out
          replace G0 : Hid (W.drew.heap[wv2.heap.size]? = _) := Lib.hid G0.out
          replace A0 := Lib.hid (A0.out.later ((Below.refl _ _).drew : Below W.heap.size W W.drew))
          replace B0 := Lib.hid (B0.out.later ((Below.refl _ _).drew : Below W.heap.size W W.drew))
          replace R1 := Lib.hid (R1.out.later ((Below.refl _ _).drew : Below W.heap.size W W.drew))
          replace T1 := Lib.hid (T1.out.later ((Below.refl _ _).drew : Below W.heap.size W W.drew))
          replace R5 := Lib.hid (R5.out.later ((Below.refl _ _).drew : Below W.heap.size W W.drew))
          replace T5 := Lib.hid (T5.out.later ((Below.refl _ _).drew : Below W.heap.size W W.drew))
          replace HM := Lib.hid (HM.out.later ((Below.refl _ _).drew : Below W.heap.size W W.drew))
          replace SN := Lib.hid (SN.out.later ((Below.refl _ _).drew : Below W.heap.size W W.drew))
          replace R6 := Lib.hid (R6.out.later ((Below.refl _ _).drew : Below W.heap.size W W.drew))
          replace T6 := Lib.hid (T6.out.later ((Below.refl _ _).drew : Below W.heap.size W W.drew))
          replace R7 := Lib.hid (R7.out.later ((Below.refl _ _).drew : Below W.heap.size W W.drew))
          replace T7 := Lib.hid (T7.out.later ((Below.refl _ _).drew : Below W.heap.size W W.drew))
          have sSn := cells_3_2_3_3_3_3 X0.out X1.out MB.out D0.out E0.out G0.out
          go_region_held3 (fun w' => w'.cell? ⟨w.heap.size, 0, none⟩ = some (.bool s0) ∧ w'.cell? ⟨w.heap.size, 1, none⟩ = some (.slice a0 n0 c0) ∧ w'.cell? ⟨w.heap.size, 2, none⟩ = some (.slice b0 m0 d0) ∧ w'.cell? ⟨w.heap.size + 1, 0, none⟩ = some (.int .i64 x) ∧ w'.cell? ⟨w.heap.size + 1, 1, none⟩ = some (.int .i64 0) ∧ w'.cell? ⟨w2.heap.size, 0, none⟩ = some (.bool (zneg q.num)) ∧ w'.cell? ⟨w2.heap.size, 1, none⟩ = some (.slice a1 n1 c1) ∧ w'.cell? ⟨w2.heap.size, 2, none⟩ = some (.slice b1 m1 d1) ∧ w'.cell? ⟨g5, 0, none⟩ = some (.bool (zneg p0.num)) ∧ w'.cell? ⟨g5, 1, none⟩ = some (.slice a5 n5 c5) ∧ w'.cell? ⟨g5, 2, none⟩ = some (.slice b5 m5 d5) ∧ w'.cell? ⟨wv1.heap.size, 0, none⟩ = some (.bool (zneg p1.num)) ∧ w'.cell? ⟨wv1.heap.size, 1, none⟩ = some (.slice a6 n6 c6) ∧ w'.cell? ⟨wv1.heap.size, 2, none⟩ = some (.slice b6 m6 d6) ∧ w'.cell? ⟨wv2.heap.size, 0, none⟩ = some (.bool (zneg p1.num)) ∧ w'.cell? ⟨wv2.heap.size, 1, none⟩ = some (.slice a7 n7 c7) ∧ w'.cell? ⟨wv2.heap.size, 2, none⟩ = some (.slice b7 m7 d7)) (exact sSn)
            (first
            | (go_at_call 14; (first
              | (refine (ref09_norm_q _ p0 _ (Fr.of A0.out B0.out (by omega) (by omega) EQ0.out)).mono ?_; rintro e ws1 ⟨a10, n10, c10, b10, m10, d10, rfl, h10, g10, b⟩; replace HB := Lib.hid (below_then HB.out b); replace X0 := Lib.hid (blk_later X0.out b); replace X1 := Lib.hid (blk_later X1.out b); replace MB := Lib.hid (blk_later MB.out b); replace D0 := Lib.hid (blk_later D0.out b); replace E0 := Lib.hid (blk_later E0.out b); replace G0 := Lib.hid (blk_later G0.out b); replace A0 := Lib.hid (A0.out.later b); replace B0 := Lib.hid (B0.out.later b); replace R1 := Lib.hid (R1.out.later b); replace T1 := Lib.hid (T1.out.later b); replace R5 := Lib.hid (R5.out.later b); replace T5 := Lib.hid (T5.out.later b); replace HM := Lib.hid (HM.out.later b); replace SN := Lib.hid (SN.out.later b); replace R6 := Lib.hid (R6.out.later b); replace T6 := Lib.hid (T6.out.later b); replace R7 := Lib.hid (R7.out.later b); replace T7 := Lib.hid (T7.out.later b); have R10 := Lib.hid h10; have T10 := Lib.hid g10; have hN10 : n10 ≤ qlen p0 := (by rw [← h10.len]; exact qlen_num _); have hM10 : m10 ≤ qlen p0 := (by rw [← g10.len]; exact qlen_den _); clear h10 g10; clear b; clear sSn; have sSn := cells_3_2_3_3_3_3 X0.out X1.out MB.out D0.out E0.out G0.out; have sM1 := True.intro)))
            | (go_at_call 18; (first
              | (have sm8 := sM8; refine (law09_is_yes (zneg q.num) a13 n13 c13 b13 m13 d13 (dg q.num.natAbs) (dg q.den) a1 n1 c1 b1 m1 d1 _ R13.out T13.out R1.out T1.out).mono ?_; rintro e ws9 ⟨rfl, b⟩; replace HB := Lib.hid (below_then HB.out b); replace X0 := Lib.hid (blk_later X0.out b); replace X1 := Lib.hid (blk_later X1.out b); replace MB := Lib.hid (blk_later MB.out b); replace D0 := Lib.hid (blk_later D0.out b); replace E0 := Lib.hid (blk_later E0.out b); replace G0 := Lib.hid (blk_later G0.out b); replace A0 := Lib.hid (A0.out.later b); replace B0 := Lib.hid (B0.out.later b); replace R1 := Lib.hid (R1.out.later b); replace T1 := Lib.hid (T1.out.later b); replace R5 := Lib.hid (R5.out.later b); replace T5 := Lib.hid (T5.out.later b); replace HM := Lib.hid (HM.out.later b); replace SN := Lib.hid (SN.out.later b); replace R6 := Lib.hid (R6.out.later b); replace T6 := Lib.hid (T6.out.later b); replace R7 := Lib.hid (R7.out.later b); replace T7 := Lib.hid (T7.out.later b); clear R13; clear T13; clear b; clear sSn; have sSn := cells_3_2_3_3_3_3 X0.out X1.out MB.out D0.out E0.out G0.out; clear sM8 sm8; have sM9 := True.intro)
              | (have sm6 := sM6; refine (law09_is_yes (zneg u.num) a11 n11 c11 b11 m11 d11 (dg u.num.natAbs) (dg u.den) a12 n12 c12 b12 m12 d12 _ R11.out T11.out R12.out T12.out).mono ?_; rintro e ws7 ⟨rfl, b⟩; replace HB := Lib.hid (below_then HB.out b); replace X0 := Lib.hid (blk_later X0.out b); replace X1 := Lib.hid (blk_later X1.out b); replace MB := Lib.hid (blk_later MB.out b); replace D0 := Lib.hid (blk_later D0.out b); replace E0 := Lib.hid (blk_later E0.out b); replace G0 := Lib.hid (blk_later G0.out b); replace A0 := Lib.hid (A0.out.later b); replace B0 := Lib.hid (B0.out.later b); replace R1 := Lib.hid (R1.out.later b); replace T1 := Lib.hid (T1.out.later b); replace R5 := Lib.hid (R5.out.later b); replace T5 := Lib.hid (T5.out.later b); replace HM := Lib.hid (HM.out.later b); replace SN := Lib.hid (SN.out.later b); replace R6 := Lib.hid (R6.out.later b); replace T6 := Lib.hid (T6.out.later b); replace R7 := Lib.hid (R7.out.later b); replace T7 := Lib.hid (T7.out.later b); clear R11; clear T11; clear R12; clear T12; clear b; clear sSn; have sSn := cells_3_2_3_3_3_3 X0.out X1.out MB.out D0.out E0.out G0.out; clear sM6 sm6; have sM7 := True.intro)
              | (have sm3 := sM3; refine (law09_is_yes (zneg p1.num) a6 n6 c6 b6 m6 d6 (dg p1.num.natAbs) (dg p1.den) a7 n7 c7 b7 m7 d7 _ R6.out T6.out R7.out T7.out).mono ?_; rintro e ws4 ⟨rfl, b⟩; replace HB := Lib.hid (below_then HB.out b); replace X0 := Lib.hid (blk_later X0.out b); replace X1 := Lib.hid (blk_later X1.out b); replace MB := Lib.hid (blk_later MB.out b); replace D0 := Lib.hid (blk_later D0.out b); replace E0 := Lib.hid (blk_later E0.out b); replace G0 := Lib.hid (blk_later G0.out b); replace A0 := Lib.hid (A0.out.later b); replace B0 := Lib.hid (B0.out.later b); replace R1 := Lib.hid (R1.out.later b); replace T1 := Lib.hid (T1.out.later b); replace R5 := Lib.hid (R5.out.later b); replace T5 := Lib.hid (T5.out.later b); replace HM := Lib.hid (HM.out.later b); replace SN := Lib.hid (SN.out.later b); replace R6 := Lib.hid (R6.out.later b); replace T6 := Lib.hid (T6.out.later b); replace R7 := Lib.hid (R7.out.later b); replace T7 := Lib.hid (T7.out.later b); clear b; clear sSn; have sSn := cells_3_2_3_3_3_3 X0.out X1.out MB.out D0.out E0.out G0.out; clear sM3 sm3; have sM4 := True.intro)
              | (have sm1 := sM1; refine (law09_is_yes (zneg p0.num) a5 n5 c5 b5 m5 d5 (dg p0.num.natAbs) (dg p0.den) a10 n10 c10 b10 m10 d10 _ R5.out T5.out R10.out T10.out).mono ?_; rintro e ws2 ⟨rfl, b⟩; replace HB := Lib.hid (below_then HB.out b); replace X0 := Lib.hid (blk_later X0.out b); replace X1 := Lib.hid (blk_later X1.out b); replace MB := Lib.hid (blk_later MB.out b); replace D0 := Lib.hid (blk_later D0.out b); replace E0 := Lib.hid (blk_later E0.out b); replace G0 := Lib.hid (blk_later G0.out b); replace A0 := Lib.hid (A0.out.later b); replace B0 := Lib.hid (B0.out.later b); replace R1 := Lib.hid (R1.out.later b); replace T1 := Lib.hid (T1.out.later b); replace R5 := Lib.hid (R5.out.later b); replace T5 := Lib.hid (T5.out.later b); replace HM := Lib.hid (HM.out.later b); replace SN := Lib.hid (SN.out.later b); replace R6 := Lib.hid (R6.out.later b); replace T6 := Lib.hid (T6.out.later b); replace R7 := Lib.hid (R7.out.later b); replace T7 := Lib.hid (T7.out.later b); clear R10; clear T10; clear b; clear sSn; have sSn := cells_3_2_3_3_3_3 X0.out X1.out MB.out D0.out E0.out G0.out; clear sM1 sm1; have sM2 := True.intro)))
            | (go_at_call 19; (first
              | (have sm2 := sM2; refine (ref09_size false none 0 0 [] b0 m0 d0 lb0 _ (Wd.ofNil _) B0.out (by omega) (by omega)).mono ?_; rintro e ws3 ⟨rfl, b⟩; replace HB := Lib.hid (below_then HB.out b); replace X0 := Lib.hid (blk_later X0.out b); replace X1 := Lib.hid (blk_later X1.out b); replace MB := Lib.hid (blk_later MB.out b); replace D0 := Lib.hid (blk_later D0.out b); replace E0 := Lib.hid (blk_later E0.out b); replace G0 := Lib.hid (blk_later G0.out b); replace A0 := Lib.hid (A0.out.later b); replace B0 := Lib.hid (B0.out.later b); replace R1 := Lib.hid (R1.out.later b); replace T1 := Lib.hid (T1.out.later b); replace R5 := Lib.hid (R5.out.later b); replace T5 := Lib.hid (T5.out.later b); replace HM := Lib.hid (HM.out.later b); replace SN := Lib.hid (SN.out.later b); replace R6 := Lib.hid (R6.out.later b); replace T6 := Lib.hid (T6.out.later b); replace R7 := Lib.hid (R7.out.later b); replace T7 := Lib.hid (T7.out.later b); rw [ESZ.out]; clear b; clear sSn; have sSn := cells_3_2_3_3_3_3 X0.out X1.out MB.out D0.out E0.out G0.out; clear sM2 sm2; have sM3 := True.intro)))
            | (go_at_call 20; (first
              | (have sm4 := sM4; refine (S.of x _ Hx.out).mono ?_; rintro e ws5 ⟨a11, n11, c11, b11, m11, d11, rfl, h11, g11, b⟩; replace HB := Lib.hid (below_then HB.out b); replace X0 := Lib.hid (blk_later X0.out b); replace X1 := Lib.hid (blk_later X1.out b); replace MB := Lib.hid (blk_later MB.out b); replace D0 := Lib.hid (blk_later D0.out b); replace E0 := Lib.hid (blk_later E0.out b); replace G0 := Lib.hid (blk_later G0.out b); replace A0 := Lib.hid (A0.out.later b); replace B0 := Lib.hid (B0.out.later b); replace R1 := Lib.hid (R1.out.later b); replace T1 := Lib.hid (T1.out.later b); replace R5 := Lib.hid (R5.out.later b); replace T5 := Lib.hid (T5.out.later b); replace HM := Lib.hid (HM.out.later b); replace SN := Lib.hid (SN.out.later b); replace R6 := Lib.hid (R6.out.later b); replace T6 := Lib.hid (T6.out.later b); replace R7 := Lib.hid (R7.out.later b); replace T7 := Lib.hid (T7.out.later b); rw [EU.out] at h11 g11 ⊢; have R11 := Lib.hid h11; have T11 := Lib.hid g11; have hN11 : n11 ≤ qlen u := (by rw [← h11.len]; exact qlen_num _); have hM11 : m11 ≤ qlen u := (by rw [← g11.len]; exact qlen_den _); clear h11 g11; clear b; clear sSn; have sSn := cells_3_2_3_3_3_3 X0.out X1.out MB.out D0.out E0.out G0.out; clear sM4 sm4; have sM5 := True.intro)))
            | (go_at_call 11; (first
              | (have sm5 := sM5; refine (ref09_int x _ Hx.out).mono ?_; rintro e ws6 ⟨a12, n12, c12, b12, m12, d12, rfl, h12, g12, b⟩; replace HB := Lib.hid (below_then HB.out b); replace X0 := Lib.hid (blk_later X0.out b); replace X1 := Lib.hid (blk_later X1.out b); replace MB := Lib.hid (blk_later MB.out b); replace D0 := Lib.hid (blk_later D0.out b); replace E0 := Lib.hid (blk_later E0.out b); replace G0 := Lib.hid (blk_later G0.out b); replace A0 := Lib.hid (A0.out.later b); replace B0 := Lib.hid (B0.out.later b); replace R1 := Lib.hid (R1.out.later b); replace T1 := Lib.hid (T1.out.later b); replace R5 := Lib.hid (R5.out.later b); replace T5 := Lib.hid (T5.out.later b); replace HM := Lib.hid (HM.out.later b); replace SN := Lib.hid (SN.out.later b); replace R6 := Lib.hid (R6.out.later b); replace T6 := Lib.hid (T6.out.later b); replace R7 := Lib.hid (R7.out.later b); replace T7 := Lib.hid (T7.out.later b); replace R11 := Lib.hid (R11.out.later b); replace T11 := Lib.hid (T11.out.later b); rw [EU.out] at h12 g12 ⊢; have R12 := Lib.hid h12; have T12 := Lib.hid g12; have hN12 : n12 ≤ qlen u := (by rw [← h12.len]; exact qlen_num _); have hM12 : m12 ≤ qlen u := (by rw [← g12.len]; exact qlen_den _); clear h12 g12; clear b; clear sSn; have sSn := cells_3_2_3_3_3_3 X0.out X1.out MB.out D0.out E0.out G0.out; clear sM5 sm5; have sM6 := True.intro)))
            | (go_at_call 21; (first
              | (have sm7 := sM7; refine (S.max ma k mc K _ HM.out (by omega) HS2.out).mono ?_; rintro e ws8 ⟨a13, n13, c13, b13, m13, d13, rfl, h13, g13, b⟩; replace HB := Lib.hid (below_then HB.out b); replace X0 := Lib.hid (blk_later X0.out b); replace X1 := Lib.hid (blk_later X1.out b); replace MB := Lib.hid (blk_later MB.out b); replace D0 := Lib.hid (blk_later D0.out b); replace E0 := Lib.hid (blk_later E0.out b); replace G0 := Lib.hid (blk_later G0.out b); replace A0 := Lib.hid (A0.out.later b); replace B0 := Lib.hid (B0.out.later b); replace R1 := Lib.hid (R1.out.later b); replace T1 := Lib.hid (T1.out.later b); replace R5 := Lib.hid (R5.out.later b); replace T5 := Lib.hid (T5.out.later b); replace HM := Lib.hid (HM.out.later b); replace SN := Lib.hid (SN.out.later b); replace R6 := Lib.hid (R6.out.later b); replace T6 := Lib.hid (T6.out.later b); replace R7 := Lib.hid (R7.out.later b); replace T7 := Lib.hid (T7.out.later b); rw [HQ.out] at h13 g13 ⊢; have R13 := Lib.hid h13; have T13 := Lib.hid g13; clear h13 g13; clear b; clear sSn; have sSn := cells_3_2_3_3_3_3 X0.out X1.out MB.out D0.out E0.out G0.out; clear sM7 sm7; have sM8 := True.intro)))
            | (go_at_call 10; (first
              | (have sm9 := sM9; refine (law09_works S _).mono ?_; rintro e ws10 ⟨rfl, b⟩; replace HB := Lib.hid (below_then HB.out b); replace X0 := Lib.hid (blk_later X0.out b); replace X1 := Lib.hid (blk_later X1.out b); replace MB := Lib.hid (blk_later MB.out b); replace D0 := Lib.hid (blk_later D0.out b); replace E0 := Lib.hid (blk_later E0.out b); replace G0 := Lib.hid (blk_later G0.out b); replace A0 := Lib.hid (A0.out.later b); replace B0 := Lib.hid (B0.out.later b); replace R1 := Lib.hid (R1.out.later b); replace T1 := Lib.hid (T1.out.later b); replace R5 := Lib.hid (R5.out.later b); replace T5 := Lib.hid (T5.out.later b); replace HM := Lib.hid (HM.out.later b); replace SN := Lib.hid (SN.out.later b); replace R6 := Lib.hid (R6.out.later b); replace T6 := Lib.hid (T6.out.later b); replace R7 := Lib.hid (R7.out.later b); replace T7 := Lib.hid (T7.out.later b); clear b; clear sSn; have sSn := cells_3_2_3_3_3_3 X0.out X1.out MB.out D0.out E0.out G0.out; clear sM9 sm9; have sM10 := True.intro))))
          go_wp2
          go_ret
          exact ⟨rfl, HB.out⟩
        · have e2 : o1 = true := by rw [← EO.out]; exact decide_eq_true hy0
          have hy1 : (y == 0) = false := by simp [hy0]
          clear EO hy0
          subst e2
          obtain ⟨xk0, xk1, xk2, xk3, xk4, xk5, xk6, xk7, xk8, xk9, xk10, xk11, xk12, xk13, xk14, xk15, xk16⟩ := cells_3_2_3_3_3_3 X0.out X1.out MB.out D0.out E0.out G0.out
          go_wp2
          clear xk0 xk1 xk2 xk3 xk4 xk5 xk6 xk7 xk8 xk9 xk10 xk11 xk12 xk13 xk14 xk15 xk16
          generalize (wv2.alloc (.cells #[.bool (zneg z.num), .slice a7 n7 c7, .slice b7 m7 d7] 24)) = W at *
          clear HM
          replace HB := Lib.hid (below_then HB.out ((Below.refl _ _).drew : Below W.heap.size W W.drew))
          replace X1 : Hid (W.drew.heap[w.heap.size + 1]? = _) := Lib.hid X1.out
          replace X0 : Hid (W.drew.heap[w.heap.size]? = some (.cells #[.bool s0, .slice a0 n0 c0, .slice b0 m0 d0] 24 (0, 0))) := Lib.hid X0.out
          replace MB : Hid (W.drew.heap[w2.heap.size]? = some (.cells #[.bool (zneg q.num), .slice a1 n1 c1, .slice b1 m1 d1] 24 (0, 0))) := Lib.hid MB.out
          replace D0 : Hid (W.drew.heap[g5]? = some (.cells #[.bool (zneg p0.num), .slice a5 n5 c5, .slice b5 m5 d5] 34 (0, 0))) := Lib.hid D0.out
          replace E0 : Hid (W.drew.heap[wv1.heap.size]? = some (.cells #[.bool (zneg p1.num), .slice a6 n6 c6, .slice b6 m6 d6] 34 (0, 0))) := Lib.hid E0.out
          replace G0 : Hid (W.drew.heap[wv2.heap.size]? = some (.cells #[.bool (zneg z.num), .slice a7 n7 c7, .slice b7 m7 d7] 24 (0, 0))) := Lib.hid G0.out
          replace A0 := Lib.hid (A0.out.later ((Below.refl _ _).drew : Below W.heap.size W W.drew))
          replace B0 := Lib.hid (B0.out.later ((Below.refl _ _).drew : Below W.heap.size W W.drew))
          replace R1 := Lib.hid (R1.out.later ((Below.refl _ _).drew : Below W.heap.size W W.drew))
          replace T1 := Lib.hid (T1.out.later ((Below.refl _ _).drew : Below W.heap.size W W.drew))
          replace R5 := Lib.hid (R5.out.later ((Below.refl _ _).drew : Below W.heap.size W W.drew))
          replace T5 := Lib.hid (T5.out.later ((Below.refl _ _).drew : Below W.heap.size W W.drew))
          replace SN := Lib.hid (SN.out.later ((Below.refl _ _).drew : Below W.heap.size W W.drew))
          replace R6 := Lib.hid (R6.out.later ((Below.refl _ _).drew : Below W.heap.size W W.drew))
          replace T6 := Lib.hid (T6.out.later ((Below.refl _ _).drew : Below W.heap.size W W.drew))
          replace R7 := Lib.hid (R7.out.later ((Below.refl _ _).drew : Below W.heap.size W W.drew))
          replace T7 := Lib.hid (T7.out.later ((Below.refl _ _).drew : Below W.heap.size W W.drew))
          have tSn := cells_2 X1.out
          go_region_held3 (fun w' => w'.cell? ⟨w.heap.size + 1, 0, none⟩ = some (.int .i64 x) ∧ w'.cell? ⟨w.heap.size + 1, 1, none⟩ = some (.int .i64 y)) (first | exact tSn | exact pSb _ _ _)
            (first
            | (go_at_call 11; (first
              | (have tm1 := tM1; refine (ref09_int y _ Hy.out).mono ?_; rintro e wt2 ⟨a9, n9, c9, b9, m9, d9, rfl, h9, g9, b⟩; replace HB := Lib.hid (below_then HB.out b); replace X1 := Lib.hid (blk_later X1.out b); replace X0 := Lib.hid (blk_later X0.out b); replace MB := Lib.hid (blk_later MB.out b); replace D0 := Lib.hid (blk_later D0.out b); replace E0 := Lib.hid (blk_later E0.out b); replace G0 := Lib.hid (blk_later G0.out b); replace A0 := Lib.hid (A0.out.later b); replace B0 := Lib.hid (B0.out.later b); replace R1 := Lib.hid (R1.out.later b); replace T1 := Lib.hid (T1.out.later b); replace R5 := Lib.hid (R5.out.later b); replace T5 := Lib.hid (T5.out.later b); replace SN := Lib.hid (SN.out.later b); replace R6 := Lib.hid (R6.out.later b); replace T6 := Lib.hid (T6.out.later b); replace R7 := Lib.hid (R7.out.later b); replace T7 := Lib.hid (T7.out.later b); replace R8 := Lib.hid (R8.out.later b); replace T8 := Lib.hid (T8.out.later b); rw [EV.out] at h9 g9 ⊢; have R9 := Lib.hid h9; have T9 := Lib.hid g9; have hN9 : n9 ≤ qlen v := (by rw [← h9.len]; exact qlen_num _); have hM9 : m9 ≤ qlen v := (by rw [← g9.len]; exact qlen_den _); clear h9 g9; clear b; clear tSn; have tSn := cells_2 X1.out; clear tM1 tm1; have tM2 := True.intro)
              | (refine (ref09_int x _ Hx.out).mono ?_; rintro e wt1 ⟨a8, n8, c8, b8, m8, d8, rfl, h8, g8, b⟩; replace HB := Lib.hid (below_then HB.out b); replace X1 := Lib.hid (blk_later X1.out b); replace X0 := Lib.hid (blk_later X0.out b); replace MB := Lib.hid (blk_later MB.out b); replace D0 := Lib.hid (blk_later D0.out b); replace E0 := Lib.hid (blk_later E0.out b); replace G0 := Lib.hid (blk_later G0.out b); replace A0 := Lib.hid (A0.out.later b); replace B0 := Lib.hid (B0.out.later b); replace R1 := Lib.hid (R1.out.later b); replace T1 := Lib.hid (T1.out.later b); replace R5 := Lib.hid (R5.out.later b); replace T5 := Lib.hid (T5.out.later b); replace SN := Lib.hid (SN.out.later b); replace R6 := Lib.hid (R6.out.later b); replace T6 := Lib.hid (T6.out.later b); replace R7 := Lib.hid (R7.out.later b); replace T7 := Lib.hid (T7.out.later b); rw [EU.out] at h8 g8 ⊢; have R8 := Lib.hid h8; have T8 := Lib.hid g8; have hN8 : n8 ≤ qlen u := (by rw [← h8.len]; exact qlen_num _); have hM8 : m8 ≤ qlen u := (by rw [← g8.len]; exact qlen_den _); clear h8 g8; clear b; clear tSn; have tSn := cells_2 X1.out; have tM1 := True.intro)))
            | (go_at_call 17; (first
              | (have tm2 := tM2; refine (ref09_quo_q _ _ u v _ (Rt.of R8.out T8.out (by omega) (by omega)) (Rt.of R9.out T9.out (by omega) (by omega))).mono ?_; rintro e wt3 ⟨a14, n14, c14, b14, m14, d14, rfl, h14, g14, b⟩; replace HB := Lib.hid (below_then HB.out b); replace X1 := Lib.hid (blk_later X1.out b); replace X0 := Lib.hid (blk_later X0.out b); replace MB := Lib.hid (blk_later MB.out b); replace D0 := Lib.hid (blk_later D0.out b); replace E0 := Lib.hid (blk_later E0.out b); replace G0 := Lib.hid (blk_later G0.out b); replace A0 := Lib.hid (A0.out.later b); replace B0 := Lib.hid (B0.out.later b); replace R1 := Lib.hid (R1.out.later b); replace T1 := Lib.hid (T1.out.later b); replace R5 := Lib.hid (R5.out.later b); replace T5 := Lib.hid (T5.out.later b); replace SN := Lib.hid (SN.out.later b); replace R6 := Lib.hid (R6.out.later b); replace T6 := Lib.hid (T6.out.later b); replace R7 := Lib.hid (R7.out.later b); replace T7 := Lib.hid (T7.out.later b); clear R8; clear T8; clear R9; clear T9; rw [EP.out] at h14 g14 ⊢; have R14 := Lib.hid h14; have T14 := Lib.hid g14; have hN14 : n14 ≤ qlen p1 := (by rw [← h14.len]; exact qlen_num _); have hM14 : m14 ≤ qlen p1 := (by rw [← g14.len]; exact qlen_den _); clear h14 g14; obtain ⟨r0, r1, r2⟩ := cells_3 G0.out; have f0 := blk_free G0.out 0; have f1 := blk_free G0.out 1; have f2 := blk_free G0.out 2; have pSb := fun x1 x2 x3 => cells_2 (blk_far3 (g := wv2.heap.size) X1.out (by omega) x1 x2 x3); unfold frV; clear b; clear tSn; have tSn := cells_2 X1.out; clear tM2 tm2; have tM3 := True.intro))))
          clear f0 f1 f2 r0 r1 r2
          have SN9 := Lib.hid (SN.out.set3 (show wr.heap.size ≤ wv2.heap.size by omega) (.bool (zneg p1.num)) (.slice a14 n14 c14) (.slice b14 m14 d14))
          have q0 := blk_cell G0.out 0
          have q1 := blk_cell G0.out 1
          have q2 := blk_cell G0.out 2
          simp only [List.getElem?_toArray, List.getElem?_cons_zero, List.getElem?_cons_succ] at q0 q1 q2
          have f0 := blk_free G0.out 0
          have f1 := blk_free G0.out 1
          have f2 := blk_free G0.out 2
          replace X0 := Lib.hid (blk_far3 X0.out (show w.heap.size ≠ wv2.heap.size by omega) (.bool (zneg p1.num)) (.slice a14 n14 c14) (.slice b14 m14 d14))
          replace X1 := Lib.hid (blk_far3 X1.out (show w.heap.size + 1 ≠ wv2.heap.size by omega) (.bool (zneg p1.num)) (.slice a14 n14 c14) (.slice b14 m14 d14))
          replace MB := Lib.hid (blk_far3 MB.out (show w2.heap.size ≠ wv2.heap.size by omega) (.bool (zneg p1.num)) (.slice a14 n14 c14) (.slice b14 m14 d14))
          replace D0 := Lib.hid (blk_far3 D0.out (show g5 ≠ wv2.heap.size by omega) (.bool (zneg p1.num)) (.slice a14 n14 c14) (.slice b14 m14 d14))
          replace E0 := Lib.hid (blk_far3 E0.out (show wv1.heap.size ≠ wv2.heap.size by omega) (.bool (zneg p1.num)) (.slice a14 n14 c14) (.slice b14 m14 d14))
          replace A0 := Lib.hid (A0.out.stored3 G0.out ((zneg p1.num)) a14 n14 c14 (.slice b14 m14 d14))
          replace B0 := Lib.hid (B0.out.stored3 G0.out ((zneg p1.num)) a14 n14 c14 (.slice b14 m14 d14))
          replace R1 := Lib.hid (R1.out.stored3 G0.out ((zneg p1.num)) a14 n14 c14 (.slice b14 m14 d14))
          replace T1 := Lib.hid (T1.out.stored3 G0.out ((zneg p1.num)) a14 n14 c14 (.slice b14 m14 d14))
          replace R5 := Lib.hid (R5.out.stored3 G0.out ((zneg p1.num)) a14 n14 c14 (.slice b14 m14 d14))
          replace T5 := Lib.hid (T5.out.stored3 G0.out ((zneg p1.num)) a14 n14 c14 (.slice b14 m14 d14))
          replace R6 := Lib.hid (R6.out.stored3 G0.out ((zneg p1.num)) a14 n14 c14 (.slice b14 m14 d14))
          replace T6 := Lib.hid (T6.out.stored3 G0.out ((zneg p1.num)) a14 n14 c14 (.slice b14 m14 d14))
          replace R7 := Lib.hid (R7.out.stored3 G0.out ((zneg p1.num)) a14 n14 c14 (.slice b14 m14 d14))
          replace T7 := Lib.hid (T7.out.stored3 G0.out ((zneg p1.num)) a14 n14 c14 (.slice b14 m14 d14))
          replace R14 := Lib.hid (R14.out.stored3 G0.out ((zneg p1.num)) a14 n14 c14 (.slice b14 m14 d14))
          replace T14 := Lib.hid (T14.out.stored3 G0.out ((zneg p1.num)) a14 n14 c14 (.slice b14 m14 d14))
          replace HB := Lib.hid (below_set3 HB.out (show w.heap.size ≤ wv2.heap.size by omega) (.bool (zneg p1.num)) (.slice a14 n14 c14) (.slice b14 m14 d14))
          replace G0 := Lib.hid (blk_set3 G0.out (.bool (zneg p1.num)) (.slice a14 n14 c14) (.slice b14 m14 d14))
          have HM := Lib.hid (HMr.out.later SN9.out)
          clear SN SN9 q0 q1 q2 f0 f1 f2
          generalize (((wt3.setCell ⟨wv2.heap.size, 0, none⟩ (.bool (zneg p1.num))).setCell ⟨wv2.heap.size, 1, none⟩ (.slice a14 n14 c14)).setCell ⟨wv2.heap.size, 2, none⟩ (.slice b14 m14 d14)) = Z at *
          obtain ⟨yk0, yk1, yk2, yk3, yk4, yk5, yk6, yk7, yk8, yk9, yk10, yk11, yk12, yk13, yk14, yk15, yk16⟩ := cells_3_2_3_3_3_3 X0.out X1.out MB.out D0.out E0.out G0.out
          go_wp2
          clear yk0 yk1 yk2 yk3 yk4 yk5 yk6 yk7 yk8 yk9 yk10 yk11 yk12 yk13 yk14 yk15 yk16
          replace HB := Lib.hid (below_then HB.out ((Below.refl _ _).drew : Below Z.heap.size Z Z.drew))
          replace X0 : Hid (Z.drew.heap[w.heap.size]? = _) := Lib.hid X0.out
          replace X1 : Hid (Z.drew.heap[w.heap.size + 1]? = _) := Lib.hid X1.out
          replace MB : Hid (Z.drew.heap[w2.heap.size]? = _) := Lib.hid MB.out
          replace D0 : Hid (Z.drew.heap[g5]? = _) := Lib.hid D0.out
          replace E0 : Hid (Z.drew.heap[wv1.heap.size]? = _) := Lib.hid E0.out
          replace G0 : Hid (Z.drew.heap[wv2.heap.size]? = _) := Lib.hid G0.out
          replace A0 := Lib.hid (A0.out.later ((Below.refl _ _).drew : Below Z.heap.size Z Z.drew))
          replace B0 := Lib.hid (B0.out.later ((Below.refl _ _).drew : Below Z.heap.size Z Z.drew))
          replace R1 := Lib.hid (R1.out.later ((Below.refl _ _).drew : Below Z.heap.size Z Z.drew))
          replace T1 := Lib.hid (T1.out.later ((Below.refl _ _).drew : Below Z.heap.size Z Z.drew))
          replace R5 := Lib.hid (R5.out.later ((Below.refl _ _).drew : Below Z.heap.size Z Z.drew))
          replace T5 := Lib.hid (T5.out.later ((Below.refl _ _).drew : Below Z.heap.size Z Z.drew))
          replace R6 := Lib.hid (R6.out.later ((Below.refl _ _).drew : Below Z.heap.size Z Z.drew))
          replace T6 := Lib.hid (T6.out.later ((Below.refl _ _).drew : Below Z.heap.size Z Z.drew))
          replace R7 := Lib.hid (R7.out.later ((Below.refl _ _).drew : Below Z.heap.size Z Z.drew))
          replace T7 := Lib.hid (T7.out.later ((Below.refl _ _).drew : Below Z.heap.size Z Z.drew))
          replace R14 := Lib.hid (R14.out.later ((Below.refl _ _).drew : Below Z.heap.size Z Z.drew))
          replace T14 := Lib.hid (T14.out.later ((Below.refl _ _).drew : Below Z.heap.size Z Z.drew))
          replace HM := Lib.hid (HM.out.later ((Below.refl _ _).drew : Below Z.heap.size Z Z.drew))
          have sSn := cells_3_2_3_3_3_3 X0.out X1.out MB.out D0.out E0.out G0.out
          go_region_held3 (fun w' => w'.cell? ⟨w.heap.size, 0, none⟩ = some (.bool s0) ∧ w'.cell? ⟨w.heap.size, 1, none⟩ = some (.slice a0 n0 c0) ∧ w'.cell? ⟨w.heap.size, 2, none⟩ = some (.slice b0 m0 d0) ∧ w'.cell? ⟨w.heap.size + 1, 0, none⟩ = some (.int .i64 x) ∧ w'.cell? ⟨w.heap.size + 1, 1, none⟩ = some (.int .i64 y) ∧ w'.cell? ⟨w2.heap.size, 0, none⟩ = some (.bool (zneg q.num)) ∧ w'.cell? ⟨w2.heap.size, 1, none⟩ = some (.slice a1 n1 c1) ∧ w'.cell? ⟨w2.heap.size, 2, none⟩ = some (.slice b1 m1 d1) ∧ w'.cell? ⟨g5, 0, none⟩ = some (.bool (zneg p0.num)) ∧ w'.cell? ⟨g5, 1, none⟩ = some (.slice a5 n5 c5) ∧ w'.cell? ⟨g5, 2, none⟩ = some (.slice b5 m5 d5) ∧ w'.cell? ⟨wv1.heap.size, 0, none⟩ = some (.bool (zneg p1.num)) ∧ w'.cell? ⟨wv1.heap.size, 1, none⟩ = some (.slice a6 n6 c6) ∧ w'.cell? ⟨wv1.heap.size, 2, none⟩ = some (.slice b6 m6 d6) ∧ w'.cell? ⟨wv2.heap.size, 0, none⟩ = some (.bool (zneg p1.num)) ∧ w'.cell? ⟨wv2.heap.size, 1, none⟩ = some (.slice a14 n14 c14) ∧ w'.cell? ⟨wv2.heap.size, 2, none⟩ = some (.slice b14 m14 d14)) (exact sSn)
            (first
            | (go_at_call 14; (first
              | (refine (ref09_norm_q _ p0 _ (Fr.of A0.out B0.out (by omega) (by omega) EQ0.out)).mono ?_; rintro e ws1 ⟨a10, n10, c10, b10, m10, d10, rfl, h10, g10, b⟩; replace HB := Lib.hid (below_then HB.out b); replace X0 := Lib.hid (blk_later X0.out b); replace X1 := Lib.hid (blk_later X1.out b); replace MB := Lib.hid (blk_later MB.out b); replace D0 := Lib.hid (blk_later D0.out b); replace E0 := Lib.hid (blk_later E0.out b); replace G0 := Lib.hid (blk_later G0.out b); replace A0 := Lib.hid (A0.out.later b); replace B0 := Lib.hid (B0.out.later b); replace R1 := Lib.hid (R1.out.later b); replace T1 := Lib.hid (T1.out.later b); replace R5 := Lib.hid (R5.out.later b); replace T5 := Lib.hid (T5.out.later b); replace R6 := Lib.hid (R6.out.later b); replace T6 := Lib.hid (T6.out.later b); replace R7 := Lib.hid (R7.out.later b); replace T7 := Lib.hid (T7.out.later b); replace R14 := Lib.hid (R14.out.later b); replace T14 := Lib.hid (T14.out.later b); replace HM := Lib.hid (HM.out.later b); have R10 := Lib.hid h10; have T10 := Lib.hid g10; have hN10 : n10 ≤ qlen p0 := (by rw [← h10.len]; exact qlen_num _); have hM10 : m10 ≤ qlen p0 := (by rw [← g10.len]; exact qlen_den _); clear h10 g10; clear b; clear sSn; have sSn := cells_3_2_3_3_3_3 X0.out X1.out MB.out D0.out E0.out G0.out; have sM1 := True.intro)))
            | (go_at_call 18; (first
              | (have sm8 := sM8; refine (law09_is_yes (zneg q.num) a13 n13 c13 b13 m13 d13 (dg q.num.natAbs) (dg q.den) a1 n1 c1 b1 m1 d1 _ R13.out T13.out R1.out T1.out).mono ?_; rintro e ws9 ⟨rfl, b⟩; replace HB := Lib.hid (below_then HB.out b); replace X0 := Lib.hid (blk_later X0.out b); replace X1 := Lib.hid (blk_later X1.out b); replace MB := Lib.hid (blk_later MB.out b); replace D0 := Lib.hid (blk_later D0.out b); replace E0 := Lib.hid (blk_later E0.out b); replace G0 := Lib.hid (blk_later G0.out b); replace A0 := Lib.hid (A0.out.later b); replace B0 := Lib.hid (B0.out.later b); replace R1 := Lib.hid (R1.out.later b); replace T1 := Lib.hid (T1.out.later b); replace R5 := Lib.hid (R5.out.later b); replace T5 := Lib.hid (T5.out.later b); replace R6 := Lib.hid (R6.out.later b); replace T6 := Lib.hid (T6.out.later b); replace R7 := Lib.hid (R7.out.later b); replace T7 := Lib.hid (T7.out.later b); replace R14 := Lib.hid (R14.out.later b); replace T14 := Lib.hid (T14.out.later b); replace HM := Lib.hid (HM.out.later b); clear R13; clear T13; clear b; clear sSn; have sSn := cells_3_2_3_3_3_3 X0.out X1.out MB.out D0.out E0.out G0.out; clear sM8 sm8; have sM9 := True.intro)
              | (have sm6 := sM6; refine (law09_is_yes (zneg u.num) a11 n11 c11 b11 m11 d11 (dg u.num.natAbs) (dg u.den) a12 n12 c12 b12 m12 d12 _ R11.out T11.out R12.out T12.out).mono ?_; rintro e ws7 ⟨rfl, b⟩; replace HB := Lib.hid (below_then HB.out b); replace X0 := Lib.hid (blk_later X0.out b); replace X1 := Lib.hid (blk_later X1.out b); replace MB := Lib.hid (blk_later MB.out b); replace D0 := Lib.hid (blk_later D0.out b); replace E0 := Lib.hid (blk_later E0.out b); replace G0 := Lib.hid (blk_later G0.out b); replace A0 := Lib.hid (A0.out.later b); replace B0 := Lib.hid (B0.out.later b); replace R1 := Lib.hid (R1.out.later b); replace T1 := Lib.hid (T1.out.later b); replace R5 := Lib.hid (R5.out.later b); replace T5 := Lib.hid (T5.out.later b); replace R6 := Lib.hid (R6.out.later b); replace T6 := Lib.hid (T6.out.later b); replace R7 := Lib.hid (R7.out.later b); replace T7 := Lib.hid (T7.out.later b); replace R14 := Lib.hid (R14.out.later b); replace T14 := Lib.hid (T14.out.later b); replace HM := Lib.hid (HM.out.later b); clear R11; clear T11; clear R12; clear T12; clear b; clear sSn; have sSn := cells_3_2_3_3_3_3 X0.out X1.out MB.out D0.out E0.out G0.out; clear sM6 sm6; have sM7 := True.intro)
              | (have sm3 := sM3; refine (law09_is_yes (zneg p1.num) a6 n6 c6 b6 m6 d6 (dg p1.num.natAbs) (dg p1.den) a14 n14 c14 b14 m14 d14 _ R6.out T6.out R14.out T14.out).mono ?_; rintro e ws4 ⟨rfl, b⟩; replace HB := Lib.hid (below_then HB.out b); replace X0 := Lib.hid (blk_later X0.out b); replace X1 := Lib.hid (blk_later X1.out b); replace MB := Lib.hid (blk_later MB.out b); replace D0 := Lib.hid (blk_later D0.out b); replace E0 := Lib.hid (blk_later E0.out b); replace G0 := Lib.hid (blk_later G0.out b); replace A0 := Lib.hid (A0.out.later b); replace B0 := Lib.hid (B0.out.later b); replace R1 := Lib.hid (R1.out.later b); replace T1 := Lib.hid (T1.out.later b); replace R5 := Lib.hid (R5.out.later b); replace T5 := Lib.hid (T5.out.later b); replace R6 := Lib.hid (R6.out.later b); replace T6 := Lib.hid (T6.out.later b); replace R7 := Lib.hid (R7.out.later b); replace T7 := Lib.hid (T7.out.later b); replace R14 := Lib.hid (R14.out.later b); replace T14 := Lib.hid (T14.out.later b); replace HM := Lib.hid (HM.out.later b); clear b; clear sSn; have sSn := cells_3_2_3_3_3_3 X0.out X1.out MB.out D0.out E0.out G0.out; clear sM3 sm3; have sM4 := True.intro)
              | (have sm1 := sM1; refine (law09_is_yes (zneg p0.num) a5 n5 c5 b5 m5 d5 (dg p0.num.natAbs) (dg p0.den) a10 n10 c10 b10 m10 d10 _ R5.out T5.out R10.out T10.out).mono ?_; rintro e ws2 ⟨rfl, b⟩; replace HB := Lib.hid (below_then HB.out b); replace X0 := Lib.hid (blk_later X0.out b); replace X1 := Lib.hid (blk_later X1.out b); replace MB := Lib.hid (blk_later MB.out b); replace D0 := Lib.hid (blk_later D0.out b); replace E0 := Lib.hid (blk_later E0.out b); replace G0 := Lib.hid (blk_later G0.out b); replace A0 := Lib.hid (A0.out.later b); replace B0 := Lib.hid (B0.out.later b); replace R1 := Lib.hid (R1.out.later b); replace T1 := Lib.hid (T1.out.later b); replace R5 := Lib.hid (R5.out.later b); replace T5 := Lib.hid (T5.out.later b); replace R6 := Lib.hid (R6.out.later b); replace T6 := Lib.hid (T6.out.later b); replace R7 := Lib.hid (R7.out.later b); replace T7 := Lib.hid (T7.out.later b); replace R14 := Lib.hid (R14.out.later b); replace T14 := Lib.hid (T14.out.later b); replace HM := Lib.hid (HM.out.later b); clear R10; clear T10; clear b; clear sSn; have sSn := cells_3_2_3_3_3_3 X0.out X1.out MB.out D0.out E0.out G0.out; clear sM1 sm1; have sM2 := True.intro)))
            | (go_at_call 19; (first
              | (have sm2 := sM2; refine (ref09_size false none 0 0 [] b0 m0 d0 lb0 _ (Wd.ofNil _) B0.out (by omega) (by omega)).mono ?_; rintro e ws3 ⟨rfl, b⟩; replace HB := Lib.hid (below_then HB.out b); replace X0 := Lib.hid (blk_later X0.out b); replace X1 := Lib.hid (blk_later X1.out b); replace MB := Lib.hid (blk_later MB.out b); replace D0 := Lib.hid (blk_later D0.out b); replace E0 := Lib.hid (blk_later E0.out b); replace G0 := Lib.hid (blk_later G0.out b); replace A0 := Lib.hid (A0.out.later b); replace B0 := Lib.hid (B0.out.later b); replace R1 := Lib.hid (R1.out.later b); replace T1 := Lib.hid (T1.out.later b); replace R5 := Lib.hid (R5.out.later b); replace T5 := Lib.hid (T5.out.later b); replace R6 := Lib.hid (R6.out.later b); replace T6 := Lib.hid (T6.out.later b); replace R7 := Lib.hid (R7.out.later b); replace T7 := Lib.hid (T7.out.later b); replace R14 := Lib.hid (R14.out.later b); replace T14 := Lib.hid (T14.out.later b); replace HM := Lib.hid (HM.out.later b); rw [ESZ.out]; clear b; clear sSn; have sSn := cells_3_2_3_3_3_3 X0.out X1.out MB.out D0.out E0.out G0.out; clear sM2 sm2; have sM3 := True.intro)))
            | (go_at_call 20; (first
              | (have sm4 := sM4; refine (S.of x _ Hx.out).mono ?_; rintro e ws5 ⟨a11, n11, c11, b11, m11, d11, rfl, h11, g11, b⟩; replace HB := Lib.hid (below_then HB.out b); replace X0 := Lib.hid (blk_later X0.out b); replace X1 := Lib.hid (blk_later X1.out b); replace MB := Lib.hid (blk_later MB.out b); replace D0 := Lib.hid (blk_later D0.out b); replace E0 := Lib.hid (blk_later E0.out b); replace G0 := Lib.hid (blk_later G0.out b); replace A0 := Lib.hid (A0.out.later b); replace B0 := Lib.hid (B0.out.later b); replace R1 := Lib.hid (R1.out.later b); replace T1 := Lib.hid (T1.out.later b); replace R5 := Lib.hid (R5.out.later b); replace T5 := Lib.hid (T5.out.later b); replace R6 := Lib.hid (R6.out.later b); replace T6 := Lib.hid (T6.out.later b); replace R7 := Lib.hid (R7.out.later b); replace T7 := Lib.hid (T7.out.later b); replace R14 := Lib.hid (R14.out.later b); replace T14 := Lib.hid (T14.out.later b); replace HM := Lib.hid (HM.out.later b); rw [EU.out] at h11 g11 ⊢; have R11 := Lib.hid h11; have T11 := Lib.hid g11; have hN11 : n11 ≤ qlen u := (by rw [← h11.len]; exact qlen_num _); have hM11 : m11 ≤ qlen u := (by rw [← g11.len]; exact qlen_den _); clear h11 g11; clear b; clear sSn; have sSn := cells_3_2_3_3_3_3 X0.out X1.out MB.out D0.out E0.out G0.out; clear sM4 sm4; have sM5 := True.intro)))
            | (go_at_call 11; (first
              | (have sm5 := sM5; refine (ref09_int x _ Hx.out).mono ?_; rintro e ws6 ⟨a12, n12, c12, b12, m12, d12, rfl, h12, g12, b⟩; replace HB := Lib.hid (below_then HB.out b); replace X0 := Lib.hid (blk_later X0.out b); replace X1 := Lib.hid (blk_later X1.out b); replace MB := Lib.hid (blk_later MB.out b); replace D0 := Lib.hid (blk_later D0.out b); replace E0 := Lib.hid (blk_later E0.out b); replace G0 := Lib.hid (blk_later G0.out b); replace A0 := Lib.hid (A0.out.later b); replace B0 := Lib.hid (B0.out.later b); replace R1 := Lib.hid (R1.out.later b); replace T1 := Lib.hid (T1.out.later b); replace R5 := Lib.hid (R5.out.later b); replace T5 := Lib.hid (T5.out.later b); replace R6 := Lib.hid (R6.out.later b); replace T6 := Lib.hid (T6.out.later b); replace R7 := Lib.hid (R7.out.later b); replace T7 := Lib.hid (T7.out.later b); replace R14 := Lib.hid (R14.out.later b); replace T14 := Lib.hid (T14.out.later b); replace HM := Lib.hid (HM.out.later b); replace R11 := Lib.hid (R11.out.later b); replace T11 := Lib.hid (T11.out.later b); rw [EU.out] at h12 g12 ⊢; have R12 := Lib.hid h12; have T12 := Lib.hid g12; have hN12 : n12 ≤ qlen u := (by rw [← h12.len]; exact qlen_num _); have hM12 : m12 ≤ qlen u := (by rw [← g12.len]; exact qlen_den _); clear h12 g12; clear b; clear sSn; have sSn := cells_3_2_3_3_3_3 X0.out X1.out MB.out D0.out E0.out G0.out; clear sM5 sm5; have sM6 := True.intro)))
            | (go_at_call 21; (first
              | (have sm7 := sM7; refine (S.max ma k mc K _ HM.out (by omega) HS2.out).mono ?_; rintro e ws8 ⟨a13, n13, c13, b13, m13, d13, rfl, h13, g13, b⟩; replace HB := Lib.hid (below_then HB.out b); replace X0 := Lib.hid (blk_later X0.out b); replace X1 := Lib.hid (blk_later X1.out b); replace MB := Lib.hid (blk_later MB.out b); replace D0 := Lib.hid (blk_later D0.out b); replace E0 := Lib.hid (blk_later E0.out b); replace G0 := Lib.hid (blk_later G0.out b); replace A0 := Lib.hid (A0.out.later b); replace B0 := Lib.hid (B0.out.later b); replace R1 := Lib.hid (R1.out.later b); replace T1 := Lib.hid (T1.out.later b); replace R5 := Lib.hid (R5.out.later b); replace T5 := Lib.hid (T5.out.later b); replace R6 := Lib.hid (R6.out.later b); replace T6 := Lib.hid (T6.out.later b); replace R7 := Lib.hid (R7.out.later b); replace T7 := Lib.hid (T7.out.later b); replace R14 := Lib.hid (R14.out.later b); replace T14 := Lib.hid (T14.out.later b); replace HM := Lib.hid (HM.out.later b); rw [HQ.out] at h13 g13 ⊢; have R13 := Lib.hid h13; have T13 := Lib.hid g13; clear h13 g13; clear b; clear sSn; have sSn := cells_3_2_3_3_3_3 X0.out X1.out MB.out D0.out E0.out G0.out; clear sM7 sm7; have sM8 := True.intro)))
            | (go_at_call 10; (first
              | (have sm9 := sM9; refine (law09_works S _).mono ?_; rintro e ws10 ⟨rfl, b⟩; replace HB := Lib.hid (below_then HB.out b); replace X0 := Lib.hid (blk_later X0.out b); replace X1 := Lib.hid (blk_later X1.out b); replace MB := Lib.hid (blk_later MB.out b); replace D0 := Lib.hid (blk_later D0.out b); replace E0 := Lib.hid (blk_later E0.out b); replace G0 := Lib.hid (blk_later G0.out b); replace A0 := Lib.hid (A0.out.later b); replace B0 := Lib.hid (B0.out.later b); replace R1 := Lib.hid (R1.out.later b); replace T1 := Lib.hid (T1.out.later b); replace R5 := Lib.hid (R5.out.later b); replace T5 := Lib.hid (T5.out.later b); replace R6 := Lib.hid (R6.out.later b); replace T6 := Lib.hid (T6.out.later b); replace R7 := Lib.hid (R7.out.later b); replace T7 := Lib.hid (T7.out.later b); replace R14 := Lib.hid (R14.out.later b); replace T14 := Lib.hid (T14.out.later b); replace HM := Lib.hid (HM.out.later b); clear b; clear sSn; have sSn := cells_3_2_3_3_3_3 X0.out X1.out MB.out D0.out E0.out G0.out; clear sM9 sm9; have sM10 := True.intro))))
          go_wp2
          go_ret
          exact ⟨rfl, HB.out⟩
end Go.Proofs.Ytpjgmkkdbmegjaa
