/-
  Several texts of this claim as one, group 18.
-/
import Derived.Test.YtiblojmdgjnfbaaDoorG8
import Derived.Test.YtiblojmdgjnfbaaDoorG17
import Derived.Test.YtiblojmdgjnfbaaDoorG9
import Derived.Deep.RegionHeld3
/-
  The contracts of the document's answer for layer 8, in whole numbers; and its quotient is the one that is rounded down.
-/
namespace Go.Proofs.YtiblojmdgjnfbaaDoor
open Go.RowKit

theorem flq_floor (na nb : Bool) (u v : Nat) (hv : v ≠ 0) : flq na nb u v = Int.fdiv (zval na u) (zval nb v) ∧ zval na u + -(flq na nb u v * zval nb v) = Int.fmod (zval na u) (zval nb v) := by
  have hd := Nat.div_add_mod u v
  have hr := Nat.mod_lt u (Nat.pos_of_ne_zero hv)
  unfold flq
  refine floor_unique (z := zval na u) (y := zval nb v) (by omega) ?_
  generalize u / v = q at *
  generalize u % v = r at *
  have hc : ((q : Nat) : Int) * (v : Int) = ((v * q : Nat) : Int) := by rw [Nat.mul_comm]; simp
  have hc1 : ((q + 1 : Nat) : Int) * (v : Int) = ((v * q : Nat) : Int) + (v : Int) := by rw [← hc]; simp [Int.add_mul]
  generalize v * q = m at *
  by_cases h0 : r = 0
  · subst h0
    cases na <;> cases nb <;> simp [zval, Int.neg_mul, Int.mul_neg, hc] <;> omega
  · cases na <;> cases nb <;> simp [zval, h0, Int.neg_mul, Int.mul_neg, Int.neg_neg, hc] <;> (try simp only [← Int.natCast_one, ← Int.natCast_add, hc1]) <;> omega
theorem ref08_norm_z (neg : Bool) (a : Option Addr) (n cap : Nat) (l : List Nat) (z : Int) (w : World) (h : Wd w a n cap l) (hn : n ≤ 100000) (hz : zval neg (val l) = z) : Calls Tryd.prog 15 #[whV neg a n cap] w (LstZ z w) := by
  subst hz; exact ref08_norm neg a n cap l w h (by omega)
theorem zval_flip (neg : Bool) (v : Nat) : zval (!neg) v = -(zval neg v) := by unfold zval; cases neg <;> simp
theorem ref08_neg_z (neg : Bool) (a : Option Addr) (n cap : Nat) (l : List Nat) (z : Int) (w : World) (h : Wd w a n cap l) (hn : n ≤ 100000) (hz : zval neg (val l) = z) : Calls Tryd.prog 10 #[whV neg a n cap] w (LstZ (-z) w) := by
  subst hz; rw [← zval_flip]; exact ref08_neg neg a n cap l w h (by omega)
theorem ref08_sign_z (neg : Bool) (a : Option Addr) (n cap : Nat) (l : List Nat) (z : Int) (w : World) (h : Wd w a n cap l) (hn : n ≤ 100000) (hz : zval neg (val l) = z) : Calls Tryd.prog 17 #[whV neg a n cap] w (Gives (.int .i64 (sgn z)) w) := by
  subst hz; exact ref08_sign neg a n cap l w h (by omega)
theorem ref08_text_z (neg : Bool) (a : Option Addr) (n cap : Nat) (l : List Nat) (z : Int) (w : World) (h : Wd w a n cap l) (hn : n ≤ 100000) (hz : zval neg (val l) = z) : Calls Tryd.prog 29 #[whV neg a n cap] w (Gives (.string (bs (ztxt z))) w) := by
  subst hz; exact ref08_text neg a n cap l w h hn
theorem ref08_add_z (na : Bool) (a : Option Addr) (n cap : Nat) (la : List Nat) (x : Int) (nb : Bool) (b : Option Addr) (m cap' : Nat) (lb : List Nat) (y : Int) (w : World) (ha : Wd w a n cap la) (hb : Wd w b m cap' lb) (hn : n ≤ 100000) (hm : m ≤ 100000) (hx : zval na (val la) = x) (hy : zval nb (val lb) = y) :
    Calls Tryd.prog 9 #[whV na a n cap, whV nb b m cap'] w (LstZ (x + y) w) := by
  subst hx hy; exact ref08_add na a n cap la nb b m cap' lb w ha hb hn hm
theorem ref08_mul_z (na : Bool) (a : Option Addr) (n cap : Nat) (la : List Nat) (x : Int) (nb : Bool) (b : Option Addr) (m cap' : Nat) (lb : List Nat) (y : Int) (w : World) (ha : Wd w a n cap la) (hb : Wd w b m cap' lb) (hn : n ≤ 100000) (hm : m ≤ 100000) (hx : zval na (val la) = x) (hy : zval nb (val lb) = y) :
    Calls Tryd.prog 23 #[whV na a n cap, whV nb b m cap'] w (LstZ (x * y) w) := by
  subst hx hy; exact ref08_mul na a n cap la nb b m cap' lb w ha hb hn hm
theorem zval_zero {nb : Bool} {v : Nat} (h : zval nb v ≠ 0) : v ≠ 0 := fun e => h (by subst e; unfold zval; cases nb <;> rfl)
theorem ref08_floor_z (na : Bool) (a : Option Addr) (n cap : Nat) (la : List Nat) (x : Int) (nb : Bool) (b : Option Addr) (m cap' : Nat) (lb : List Nat) (y : Int) (w : World) (ha : Wd w a n cap la) (hb : Wd w b m cap' lb) (hn : n ≤ 20000) (hm : m ≤ 20000) (hx : zval na (val la) = x) (hy : zval nb (val lb) = y) (h0 : y ≠ 0) :
    Calls Tryd.prog 25 #[whV na a n cap, whV nb b m cap'] w (LstZZ (Int.fdiv x y) (Int.fmod x y) w) := by
  subst hx hy
  have hv := zval_zero h0
  obtain ⟨e1, e2⟩ := flq_floor na nb (val la) (val lb) hv
  rw [← e1, ← e2]
  exact ref08_floor na a n cap la nb b m cap' lb w ha hb hn hm (Lib.hid hv)
end Go.Proofs.YtiblojmdgjnfbaaDoor

/-
  The walks of the laws of layer 8: To, Of.
-/
namespace Go.Proofs.YtiblojmdgjnfbaaDoor
open Go.RowKit

theorem blk_other2 {w : World} {A g : Nat} {o : Obj} (h : w.heap[A]? = some o) (hne : A ≠ g) (u v : Value) : ((w.setCell ⟨g, 0, none⟩ u).setCell ⟨g, 1, none⟩ v).heap[A]? = some o :=
  (Below.heap_setCell (w.setCell ⟨g, 0, none⟩ u) ⟨g, 1, none⟩ v A hne).trans ((Below.heap_setCell w ⟨g, 0, none⟩ u A hne).trans h)
theorem later_lstZ {P : Program} {f : FuncId} {args : Array Value} {v0 v : World} {z : Int} (hv : Below v0.heap.size v0 v) (h : Calls P f args v (LstZ z v)) :
    Calls P f args v (fun e w' => ∃ (a : Option Addr) (n cap : Nat), e = .returned (whV (zneg z) a n cap) ∧ Wd w' a n cap (dg z.natAbs) ∧ Below v0.heap.size v0 w' ∧ ∀ (g : Nat) (o : Obj), v.heap[g]? = some o → w'.heap[g]? = some o) :=
  h.mono fun _ _ ⟨a, n, c, he, h1, hb⟩ => ⟨a, n, c, he, h1, below_then hv hb, fun _ _ hg => blk_later hg hb⟩
theorem box_pair2 (w : World) (x y z u : Value) (t s : TypeId) :
    ((w.alloc (.cells #[x, y] t)).alloc (.cells #[z, u] s)).heap[w.heap.size]? = some (.cells #[x, y] t (0, 0)) ∧ ((w.alloc (.cells #[x, y] t)).alloc (.cells #[z, u] s)).heap[w.heap.size + 1]? = some (.cells #[z, u] s (0, 0)) := by
  refine ⟨blk_later (blk_new w #[x, y] t) (below_alloc _ _), ?_⟩
  have h2 := blk_new (w.alloc (.cells #[x, y] t)) #[z, u] s
  rw [blk_size] at h2
  exact h2
theorem cells_2 {w : World} {A0 : Nat} {c0_0 c0_1 : Value} {t0 : TypeId} (h0 : w.heap[A0]? = some (.cells #[c0_0, c0_1] t0 (0, 0))) : w.cell? ⟨A0, 0, none⟩ = some c0_0 ∧ w.cell? ⟨A0, 1, none⟩ = some c0_1 := ⟨blk_cell h0 0, blk_cell h0 1⟩
theorem cells_2_2 {w : World} {A0 A1 : Nat} {c0_0 c0_1 c1_0 c1_1 : Value} {t0 t1 : TypeId} (h0 : w.heap[A0]? = some (.cells #[c0_0, c0_1] t0 (0, 0))) (h1 : w.heap[A1]? = some (.cells #[c1_0, c1_1] t1 (0, 0))) : w.cell? ⟨A0, 0, none⟩ = some c0_0 ∧ w.cell? ⟨A0, 1, none⟩ = some c0_1 ∧ w.cell? ⟨A1, 0, none⟩ = some c1_0 ∧ w.cell? ⟨A1, 1, none⟩ = some c1_1 := ⟨blk_cell h0 0, blk_cell h0 1, blk_cell h1 0, blk_cell h1 1⟩
theorem cells_2_2_2 {w : World} {A0 A1 A2 : Nat} {c0_0 c0_1 c1_0 c1_1 c2_0 c2_1 : Value} {t0 t1 t2 : TypeId} (h0 : w.heap[A0]? = some (.cells #[c0_0, c0_1] t0 (0, 0))) (h1 : w.heap[A1]? = some (.cells #[c1_0, c1_1] t1 (0, 0))) (h2 : w.heap[A2]? = some (.cells #[c2_0, c2_1] t2 (0, 0))) : w.cell? ⟨A0, 0, none⟩ = some c0_0 ∧ w.cell? ⟨A0, 1, none⟩ = some c0_1 ∧ w.cell? ⟨A1, 0, none⟩ = some c1_0 ∧ w.cell? ⟨A1, 1, none⟩ = some c1_1 ∧ w.cell? ⟨A2, 0, none⟩ = some c2_0 ∧ w.cell? ⟨A2, 1, none⟩ = some c2_1 := ⟨blk_cell h0 0, blk_cell h0 1, blk_cell h1 0, blk_cell h1 1, blk_cell h2 0, blk_cell h2 1⟩
theorem cells_2_2_2_2 {w : World} {A0 A1 A2 A3 : Nat} {c0_0 c0_1 c1_0 c1_1 c2_0 c2_1 c3_0 c3_1 : Value} {t0 t1 t2 t3 : TypeId} (h0 : w.heap[A0]? = some (.cells #[c0_0, c0_1] t0 (0, 0))) (h1 : w.heap[A1]? = some (.cells #[c1_0, c1_1] t1 (0, 0))) (h2 : w.heap[A2]? = some (.cells #[c2_0, c2_1] t2 (0, 0))) (h3 : w.heap[A3]? = some (.cells #[c3_0, c3_1] t3 (0, 0))) : w.cell? ⟨A0, 0, none⟩ = some c0_0 ∧ w.cell? ⟨A0, 1, none⟩ = some c0_1 ∧ w.cell? ⟨A1, 0, none⟩ = some c1_0 ∧ w.cell? ⟨A1, 1, none⟩ = some c1_1 ∧ w.cell? ⟨A2, 0, none⟩ = some c2_0 ∧ w.cell? ⟨A2, 1, none⟩ = some c2_1 ∧ w.cell? ⟨A3, 0, none⟩ = some c3_0 ∧ w.cell? ⟨A3, 1, none⟩ = some c3_1 := ⟨blk_cell h0 0, blk_cell h0 1, blk_cell h1 0, blk_cell h1 1, blk_cell h2 0, blk_cell h2 1, blk_cell h3 0, blk_cell h3 1⟩
theorem cells_2_2_2_2_2_2 {w : World} {A0 A1 A2 A3 A4 A5 : Nat} {c0_0 c0_1 c1_0 c1_1 c2_0 c2_1 c3_0 c3_1 c4_0 c4_1 c5_0 c5_1 : Value} {t0 t1 t2 t3 t4 t5 : TypeId} (h0 : w.heap[A0]? = some (.cells #[c0_0, c0_1] t0 (0, 0))) (h1 : w.heap[A1]? = some (.cells #[c1_0, c1_1] t1 (0, 0))) (h2 : w.heap[A2]? = some (.cells #[c2_0, c2_1] t2 (0, 0))) (h3 : w.heap[A3]? = some (.cells #[c3_0, c3_1] t3 (0, 0))) (h4 : w.heap[A4]? = some (.cells #[c4_0, c4_1] t4 (0, 0))) (h5 : w.heap[A5]? = some (.cells #[c5_0, c5_1] t5 (0, 0))) : w.cell? ⟨A0, 0, none⟩ = some c0_0 ∧ w.cell? ⟨A0, 1, none⟩ = some c0_1 ∧ w.cell? ⟨A1, 0, none⟩ = some c1_0 ∧ w.cell? ⟨A1, 1, none⟩ = some c1_1 ∧ w.cell? ⟨A2, 0, none⟩ = some c2_0 ∧ w.cell? ⟨A2, 1, none⟩ = some c2_1 ∧ w.cell? ⟨A3, 0, none⟩ = some c3_0 ∧ w.cell? ⟨A3, 1, none⟩ = some c3_1 ∧ w.cell? ⟨A4, 0, none⟩ = some c4_0 ∧ w.cell? ⟨A4, 1, none⟩ = some c4_1 ∧ w.cell? ⟨A5, 0, none⟩ = some c5_0 ∧ w.cell? ⟨A5, 1, none⟩ = some c5_1 := ⟨blk_cell h0 0, blk_cell h0 1, blk_cell h1 0, blk_cell h1 1, blk_cell h2 0, blk_cell h2 1, blk_cell h3 0, blk_cell h3 1, blk_cell h4 0, blk_cell h4 1, blk_cell h5 0, blk_cell h5 1⟩
theorem law08_to (neg : Bool) (a : Option Addr) (n cap : Nat) (w : World) : Calls Tryd.prog 14 #[whV neg a n cap] w (Gives (whV neg a n cap) w) := by
  have HG := Lib.hid (box_pair2 w (.bool neg) (.slice a n cap) (.bool neg) (.slice a n cap) 24 30).2
  have HB := Lib.hid (below_then (below_alloc w (.cells #[.bool neg, .slice a n cap] 24)) (below_alloc _ (.cells #[.bool neg, .slice a n cap] 30)))
  unfold whV
  go_enter Tryd.func14, Tryd.ntmps14
  go_wp2
  refine bodyPost_ret (results_cell_row Tryd.results14 _ _ (w.heap.size + 1) 30 #[.bool neg, .slice a n cap] (0, 0) _ rfl HG.out Tryd.underlying30 rfl (by kernel_rfl)) rfl ?_
  exact ⟨rfl, HB.out⟩
theorem law08_of (neg : Bool) (a : Option Addr) (n cap : Nat) (w : World) : Calls Tryd.prog 12 #[whV neg a n cap] w (Gives (whV neg a n cap) w) := by
  have HG := Lib.hid (box_pair2 w (.bool neg) (.slice a n cap) (.bool neg) (.slice a n cap) 30 24).2
  have HB := Lib.hid (below_then (below_alloc w (.cells #[.bool neg, .slice a n cap] 30)) (below_alloc _ (.cells #[.bool neg, .slice a n cap] 24)))
  unfold whV
  go_enter Tryd.func12, Tryd.ntmps12
  go_wp2
  refine bodyPost_ret (results_cell_row Tryd.results12 _ _ (w.heap.size + 1) 24 #[.bool neg, .slice a n cap] (0, 0) _ rfl HG.out Tryd.underlying24 rfl (by kernel_rfl)) rfl ?_
  exact ⟨rfl, HB.out⟩
end Go.Proofs.YtiblojmdgjnfbaaDoor

/-
  The walks of the laws of layer 8: works.
-/
namespace Go.Proofs.YtiblojmdgjnfbaaDoor
open Go.RowKit

theorem cells_2_2_2_4 {w : World} {A0 A1 A2 A3 : Nat} {c0_0 c0_1 c1_0 c1_1 c2_0 c2_1 c3_0 c3_1 c3_2 c3_3 : Value} {t0 t1 t2 t3 : TypeId} (h0 : w.heap[A0]? = some (.cells #[c0_0, c0_1] t0 (0, 0))) (h1 : w.heap[A1]? = some (.cells #[c1_0, c1_1] t1 (0, 0))) (h2 : w.heap[A2]? = some (.cells #[c2_0, c2_1] t2 (0, 0))) (h3 : w.heap[A3]? = some (.cells #[c3_0, c3_1, c3_2, c3_3] t3 (0, 0))) : w.cell? ⟨A0, 0, none⟩ = some c0_0 ∧ w.cell? ⟨A0, 1, none⟩ = some c0_1 ∧ w.cell? ⟨A1, 0, none⟩ = some c1_0 ∧ w.cell? ⟨A1, 1, none⟩ = some c1_1 ∧ w.cell? ⟨A2, 0, none⟩ = some c2_0 ∧ w.cell? ⟨A2, 1, none⟩ = some c2_1 ∧ w.cell? ⟨A3, 0, none⟩ = some c3_0 ∧ w.cell? ⟨A3, 1, none⟩ = some c3_1 ∧ w.cell? ⟨A3, 2, none⟩ = some c3_2 ∧ w.cell? ⟨A3, 3, none⟩ = some c3_3 := ⟨blk_cell h0 0, blk_cell h0 1, blk_cell h1 0, blk_cell h1 1, blk_cell h2 0, blk_cell h2 1, blk_cell h3 0, blk_cell h3 1, blk_cell h3 2, blk_cell h3 3⟩
theorem fdiv_72 : Int.fdiv (-7) 2 = -4 := by decide
theorem fmod_72 : Int.fmod (-7) 2 = 1 := by decide
theorem ztxt_m4 : ztxt (-4) = [45, 52] := by unfold ztxt; rw [if_pos (by decide), show (-4 : Int).natAbs = 4 from rfl, txt_small (by decide)]; rfl
theorem ztxt_1 : ztxt 1 = [49] := by unfold ztxt; rw [if_neg (by decide), show (1 : Int).natAbs = 1 from rfl, txt_small (by decide)]; rfl
theorem zwrong_minus : zwrong [45] = 1 := by decide
theorem zlen_small {z : Int} (h : z.natAbs < 4294967296) : (dg z.natAbs).length ≤ 1 := dg_length_le (by simpa using h)
set_option maxRecDepth 4096 in
set_option maxHeartbeats 4000000 in
theorem law08_works (S : WholeSaid) (w : World) (hT : Hid (Dec10 w)) : Calls Tryd.prog 8 #[] w (Gives (.bool true) w) := by
  have l1 := zlen_small (z := -7) (by decide)
  have l2 := zlen_small (z := 2) (by decide)
  have l3 := zlen_small (z := -4) (by decide)
  have l4 := zlen_small (z := 1) (by decide)
  have q1 : ((bs [45, 52]).toList == [45, 52]) = true := by rw [bs_list]; rfl
  have q2 : ((bs [49]).toList == [49]) = true := by rw [bs_list]; rfl
  have HB : Hid (Below w.heap.size w w) := Lib.hid (Below.refl _ _)
  go_enter Tryd.func8, Tryd.ntmps8
  go_wp2_with fail
  refine (S.of (-7) _ (by unfold isInt; omega)).mono ?_
  rintro e w1 ⟨a1, n1, c1, rfl, h1, b⟩
  replace HB := Lib.hid (below_then HB.out b)
  clear b
  have R1 := Lib.hid h1
  have hn1 : n1 ≤ 1 := by have := h1.len; omega
  clear h1
  go_wp2_with fail
  refine (S.of 2 _ (by unfold isInt; omega)).mono ?_
  rintro e w2 ⟨a2, n2, c2, rfl, h2, b⟩
  replace HB := Lib.hid (below_then HB.out b)
  replace R1 := Lib.hid (R1.out.later b)
  clear b
  have R2 := Lib.hid h2
  have hn2 : n2 ≤ 1 := by have := h2.len; omega
  clear h2
  go_wp2_with fail
  refine (S.floor _ a1 n1 c1 _ (-7) _ a2 n2 c2 _ 2 _ R1.out R2.out (by omega) (by omega) (zval_dg _) (zval_dg _) (by omega)).mono ?_
  rintro e w3 ⟨a3, n3, c3, a4, n4, c4, rfl, h3, h4, b⟩
  replace HB := Lib.hid (below_then HB.out b)
  clear R1
  clear R2
  clear b
  rw [fdiv_72] at h3
  rw [fmod_72] at h4
  rw [fdiv_72, fmod_72]
  have hn3 : n3 ≤ 1 := by have := h3.len; omega
  have hn4 : n4 ≤ 1 := by have := h4.len; omega
  have R3 := Lib.hid h3
  have R4 := Lib.hid h4
  clear h3 h4
  unfold whV
  have Q1 : Hid ((World.alloc w3 (.cells #[.bool (zneg (-4)), .slice a3 n3 c3] 30)).heap[w3.heap.size]? = some (.cells #[.bool (zneg (-4)), .slice a3 n3 c3] 30 (0, 0))) := Lib.hid (blk_new w3 _ _)
  replace HB := Lib.hid (below_then HB.out (below_alloc w3 (.cells #[.bool (zneg (-4)), .slice a3 n3 c3] 30)))
  replace R3 := Lib.hid (R3.out.later (below_alloc w3 (.cells #[.bool (zneg (-4)), .slice a3 n3 c3] 30)))
  replace R4 := Lib.hid (R4.out.later (below_alloc w3 (.cells #[.bool (zneg (-4)), .slice a3 n3 c3] 30)))
  have Q2 : Hid ((World.alloc (w3.alloc (.cells #[.bool (zneg (-4)), .slice a3 n3 c3] 30)) (.cells #[.bool (zneg 1), .slice a4 n4 c4] 30)).heap[w3.heap.size + 1]? = some (.cells #[.bool (zneg 1), .slice a4 n4 c4] 30 (0, 0))) := Lib.hid (by have h := blk_new (w3.alloc (.cells #[.bool (zneg (-4)), .slice a3 n3 c3] 30)) #[.bool (zneg 1), .slice a4 n4 c4] 30; rw [blk_size] at h; exact h)
  replace HB := Lib.hid (below_then HB.out (below_alloc (w3.alloc (.cells #[.bool (zneg (-4)), .slice a3 n3 c3] 30)) (.cells #[.bool (zneg 1), .slice a4 n4 c4] 30)))
  replace Q1 := Lib.hid (blk_later Q1.out (below_alloc (w3.alloc (.cells #[.bool (zneg (-4)), .slice a3 n3 c3] 30)) (.cells #[.bool (zneg 1), .slice a4 n4 c4] 30)))
  replace R3 := Lib.hid (R3.out.later (below_alloc (w3.alloc (.cells #[.bool (zneg (-4)), .slice a3 n3 c3] 30)) (.cells #[.bool (zneg 1), .slice a4 n4 c4] 30)))
  replace R4 := Lib.hid (R4.out.later (below_alloc (w3.alloc (.cells #[.bool (zneg (-4)), .slice a3 n3 c3] 30)) (.cells #[.bool (zneg 1), .slice a4 n4 c4] 30)))
  obtain ⟨k0, k1, k2, k3⟩ := cells_2_2 Q1.out Q2.out
  go_wp2_with fail
  refine (S.read_no [45] _ (by decide) (Lib.hid (by decide))).mono ?_
  rintro e w4 ⟨a5, n5, c5, rfl, h5, b⟩
  clear k0 k1 k2 k3
  replace HB := Lib.hid (below_then HB.out b)
  replace Q1 := Lib.hid (blk_later Q1.out b)
  replace Q2 := Lib.hid (blk_later Q2.out b)
  replace R3 := Lib.hid (R3.out.later b)
  replace R4 := Lib.hid (R4.out.later b)
  clear b
  rw [zwrong_minus]
  obtain rfl : n5 = 0 := by have h := h5.len; rw [show (0 : Int).natAbs = 0 from rfl, dg_zero] at h; exact h.symm
  clear h5
  unfold whV faultV
  have Q3 : Hid ((World.alloc w4 (.cells #[.bool (zneg 0), .slice a5 0 c5] 30)).heap[w4.heap.size]? = some (.cells #[.bool (zneg 0), .slice a5 0 c5] 30 (0, 0))) := Lib.hid (blk_new w4 _ _)
  replace HB := Lib.hid (below_then HB.out (below_alloc w4 (.cells #[.bool (zneg 0), .slice a5 0 c5] 30)))
  replace Q1 := Lib.hid (blk_later Q1.out (below_alloc w4 (.cells #[.bool (zneg 0), .slice a5 0 c5] 30)))
  replace Q2 := Lib.hid (blk_later Q2.out (below_alloc w4 (.cells #[.bool (zneg 0), .slice a5 0 c5] 30)))
  replace R3 := Lib.hid (R3.out.later (below_alloc w4 (.cells #[.bool (zneg 0), .slice a5 0 c5] 30)))
  replace R4 := Lib.hid (R4.out.later (below_alloc w4 (.cells #[.bool (zneg 0), .slice a5 0 c5] 30)))
  have Q4 : Hid ((World.alloc (w4.alloc (.cells #[.bool (zneg 0), .slice a5 0 c5] 30)) (.cells #[.int .i64 1, .int .i64 0, .int .i64 0, .int .i64 1] 42)).heap[w4.heap.size + 1]? = some (.cells #[.int .i64 1, .int .i64 0, .int .i64 0, .int .i64 1] 42 (0, 0))) := Lib.hid (by have h := blk_new (w4.alloc (.cells #[.bool (zneg 0), .slice a5 0 c5] 30)) #[.int .i64 1, .int .i64 0, .int .i64 0, .int .i64 1] 42; rw [blk_size] at h; exact h)
  replace HB := Lib.hid (below_then HB.out (below_alloc (w4.alloc (.cells #[.bool (zneg 0), .slice a5 0 c5] 30)) (.cells #[.int .i64 1, .int .i64 0, .int .i64 0, .int .i64 1] 42)))
  replace Q1 := Lib.hid (blk_later Q1.out (below_alloc (w4.alloc (.cells #[.bool (zneg 0), .slice a5 0 c5] 30)) (.cells #[.int .i64 1, .int .i64 0, .int .i64 0, .int .i64 1] 42)))
  replace Q2 := Lib.hid (blk_later Q2.out (below_alloc (w4.alloc (.cells #[.bool (zneg 0), .slice a5 0 c5] 30)) (.cells #[.int .i64 1, .int .i64 0, .int .i64 0, .int .i64 1] 42)))
  replace Q3 := Lib.hid (blk_later Q3.out (below_alloc (w4.alloc (.cells #[.bool (zneg 0), .slice a5 0 c5] 30)) (.cells #[.int .i64 1, .int .i64 0, .int .i64 0, .int .i64 1] 42)))
  replace R3 := Lib.hid (R3.out.later (below_alloc (w4.alloc (.cells #[.bool (zneg 0), .slice a5 0 c5] 30)) (.cells #[.int .i64 1, .int .i64 0, .int .i64 0, .int .i64 1] 42)))
  replace R4 := Lib.hid (R4.out.later (below_alloc (w4.alloc (.cells #[.bool (zneg 0), .slice a5 0 c5] 30)) (.cells #[.int .i64 1, .int .i64 0, .int .i64 0, .int .i64 1] 42)))
  obtain ⟨k0, k1, k2, k3, k4, k5, k6, k7, k8, k9⟩ := cells_2_2_2_4 Q1.out Q2.out Q3.out Q4.out
  go_wp2_with fail
  refine (S.text _ a3 n3 c3 _ (-4) _ R3.out (by omega) (zval_dg _) (Lib.hid (hT.out.later HB.out))).mono ?_
  rintro e w5 ⟨rfl, b⟩
  clear k0 k1 k2 k3 k4 k5 k6 k7 k8 k9
  replace HB := Lib.hid (below_then HB.out b)
  replace Q1 := Lib.hid (blk_later Q1.out b)
  replace Q2 := Lib.hid (blk_later Q2.out b)
  replace Q3 := Lib.hid (blk_later Q3.out b)
  replace Q4 := Lib.hid (blk_later Q4.out b)
  replace R3 := Lib.hid (R3.out.later b)
  replace R4 := Lib.hid (R4.out.later b)
  clear b
  rw [ztxt_m4]
  obtain ⟨k0, k1, k2, k3, k4, k5, k6, k7, k8, k9⟩ := cells_2_2_2_4 Q1.out Q2.out Q3.out Q4.out
  go_wp2_with fail
  refine (S.text _ a4 n4 c4 _ 1 _ R4.out (by omega) (zval_dg _) (Lib.hid (hT.out.later HB.out))).mono ?_
  rintro e w6 ⟨rfl, b⟩
  clear k0 k1 k2 k3 k4 k5 k6 k7 k8 k9
  replace HB := Lib.hid (below_then HB.out b)
  replace Q1 := Lib.hid (blk_later Q1.out b)
  replace Q2 := Lib.hid (blk_later Q2.out b)
  replace Q3 := Lib.hid (blk_later Q3.out b)
  replace Q4 := Lib.hid (blk_later Q4.out b)
  replace R3 := Lib.hid (R3.out.later b)
  replace R4 := Lib.hid (R4.out.later b)
  clear b
  rw [ztxt_1]
  obtain ⟨k0, k1, k2, k3, k4, k5, k6, k7, k8, k9⟩ := cells_2_2_2_4 Q1.out Q2.out Q3.out Q4.out
  go_wp2
  go_ret
  exact ⟨rfl, HB.out⟩
end Go.Proofs.YtiblojmdgjnfbaaDoor
