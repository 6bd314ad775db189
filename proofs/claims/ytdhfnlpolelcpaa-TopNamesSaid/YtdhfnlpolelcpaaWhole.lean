/-
  Whole numbers in memory and as values: a sign and a list of words. Of no program.
-/
import Derived.Test.YtdhfnlpolelcpaaNatSaid
import Derived.Test.YtdhfnlpolelcpaaQuotPlain
import Derived.Laws.OwnMore
namespace Go.Proofs.Ytdhfnlpolelcpaa
open Go.RowKit

/-- A whole number, as a value; its value. -/
def whV (neg : Bool) (a : Option Addr) (n cap : Nat) : Value := .agg #[.bool neg, .slice a n cap]
def zval (neg : Bool) (v : Nat) : Int := if neg = true then -(v : Int) else (v : Int)
/-- Whether a whole number is below 0. -/
def zneg (z : Int) : Bool := decide (z < 0)
theorem zval_neg (neg : Bool) (v : Nat) : zneg (zval neg v) = (neg && decide (v ≠ 0)) := by
  unfold zneg zval
  cases neg with
  | false => simp
  | true =>
    by_cases h : v = 0
    · subst h; rfl
    · rw [if_pos rfl, decide_eq_true h, decide_eq_true (by omega)]; rfl
theorem zval_abs (neg : Bool) (v : Nat) : (zval neg v).natAbs = v := by unfold zval; cases neg <;> simp
theorem zval_of (z : Int) : zval (zneg z) z.natAbs = z := by
  unfold zval zneg
  by_cases h : z < 0
  · rw [decide_eq_true h, if_pos rfl]; omega
  · rw [decide_eq_false h, if_neg (by simp)]; omega
/-- A right whole number comes back. -/
def LstZ (z : Int) (w : World) (e : Ending) (w' : World) : Prop :=
  ∃ (a : Option Addr) (n cap : Nat), e = .returned (whV (zneg z) a n cap) ∧ Wd w' a n cap (dg z.natAbs) ∧ Below w.heap.size w w'
/-- What a block holds, cell by cell. -/
theorem blk_cell {w : World} {g : Nat} {cur : Array Value} {t : TypeId} (h : w.heap[g]? = some (.cells cur t (0, 0))) (j : Nat) : w.cell? ⟨g, j, none⟩ = cur[j]? := cell_of_row w g j cur t (0, 0) h
theorem blk_free {w : World} {g : Nat} {cur : Array Value} {t : TypeId} (h : w.heap[g]? = some (.cells cur t (0, 0))) (j : Nat) : w.frozen? ⟨g, j, none⟩ = false := frozen_of_row w g j cur t h
theorem blk_new (w : World) (cur : Array Value) (t : TypeId) : (w.alloc (.cells cur t)).heap[w.heap.size]? = some (.cells cur t (0, 0)) := heap_alloc_new w _
theorem blk_later {w w' : World} {g : Nat} {o : Obj} (h : w.heap[g]? = some o) (hb : Below w.heap.size w w') : w'.heap[g]? = some o := (hb.block g (Array.getElem?_eq_some_iff.1 h).1).trans h
theorem blk_size (w : World) (o : Obj) : (w.alloc o).heap.size = w.heap.size + 1 := by simp
/-- Words do not lie in a block that holds no words: they stay when it is written. -/
theorem Wd.stored {w : World} {a : Option Addr} {n cap : Nat} {l : List Nat} (h : Wd w a n cap l) {g : Nat} {cur : Array Value} {t : TypeId} (hg : w.heap[g]? = some (.cells cur t (0, 0))) (hc : ∀ (j : Nat) (k : Int), cur[j]? ≠ some (.int .u32 k)) (i : Nat) (u : Value) : Wd (w.setCell ⟨g, i, none⟩ u) a n cap l := by
  refine ⟨h.1, h.2.1, h.2.2.1, h.2.2.2.1, h.2.2.2.2.1, h.2.2.2.2.2.imp id fun ⟨b, off, e, hcl⟩ => ⟨b, off, e, fun j hj => ?_⟩⟩
  have h1 := hcl j hj
  have hne : b ≠ g := fun e2 => by
    subst e2
    rw [blk_cell hg] at h1
    exact hc _ _ h1
  rw [World.cell?_of_block (w := w) (Below.heap_setCell _ _ _ _ (by exact hne))]
  exact h1
theorem blk_set {w : World} {g : Nat} {cur : Array Value} {t : TypeId} (h : w.heap[g]? = some (.cells cur t (0, 0))) (i : Nat) (u : Value) : (w.setCell ⟨g, i, none⟩ u).heap[g]? = some (.cells (cur.setIfInBounds i u) t (0, 0)) := heap_setCell_same w g i cur t u h
theorem blk_set2 {w : World} {g : Nat} {x y : Value} {t : TypeId} (h : w.heap[g]? = some (.cells #[x, y] t (0, 0))) (u v : Value) : ((w.setCell ⟨g, 0, none⟩ u).setCell ⟨g, 1, none⟩ v).heap[g]? = some (.cells #[u, v] t (0, 0)) := by
  have h1 := blk_set (blk_set h 0 u) 1 v
  simpa using h1
theorem no_words {b : Bool} {a : Option Addr} {n cap : Nat} : ∀ (j : Nat) (k : Int), (#[Value.bool b, .slice a n cap] : Array Value)[j]? ≠ some (.int .u32 k) := by
  intro j k
  match j with
  | 0 => simp
  | 1 => simp
  | j + 2 => simp
theorem Wd.stored2 {w : World} {a : Option Addr} {n cap : Nat} {l : List Nat} (h : Wd w a n cap l) {g : Nat} {b : Bool} {x : Option Addr} {y z : Nat} {t : TypeId} (hg : w.heap[g]? = some (.cells #[.bool b, .slice x y z] t (0, 0))) (c : Bool) (v : Value) : Wd ((w.setCell ⟨g, 0, none⟩ (.bool c)).setCell ⟨g, 1, none⟩ v) a n cap l := by
  have h1 := h.stored hg no_words 0 (.bool c)
  have h2 : (w.setCell ⟨g, 0, none⟩ (.bool c)).heap[g]? = some (.cells #[.bool c, .slice x y z] t (0, 0)) := by simpa using blk_set hg 0 (.bool c)
  exact h1.stored h2 no_words 1 v
theorem below_set2 {w w1 : World} {g : Nat} (h : Below w.heap.size w w1) (hg : w.heap.size ≤ g) (u v : Value) : Below w.heap.size w ((w1.setCell ⟨g, 0, none⟩ u).setCell ⟨g, 1, none⟩ v) := (h.setCell (p := ⟨g, 0, none⟩) hg u).setCell (p := ⟨g, 1, none⟩) hg v
/-- The sign of a whole number. -/
def sgn (z : Int) : Int := if z = 0 then 0 else if z < 0 then -1 else 1
theorem sgn_range (z : Int) : -1 ≤ sgn z ∧ sgn z ≤ 1 := by unfold sgn; split <;> (try split) <;> omega
/-- One box, two boxes of a call: where they are later. -/
theorem box_at (w w1 : World) (x : Array Value) (t : TypeId) (hb : Below (w.alloc (.cells x t)).heap.size (w.alloc (.cells x t)) w1) : w1.heap[w.heap.size]? = some (.cells x t (0, 0)) := blk_later (blk_new w x t) hb
theorem boxes_at (w w1 : World) (x y : Array Value) (t s : TypeId) (hb : Below ((w.alloc (.cells x t)).alloc (.cells y s)).heap.size ((w.alloc (.cells x t)).alloc (.cells y s)) w1) :
    w1.heap[w.heap.size]? = some (.cells x t (0, 0)) ∧ w1.heap[w.heap.size + 1]? = some (.cells y s (0, 0)) := by
  refine ⟨blk_later (blk_later (blk_new w x t) (below_alloc _ _)) hb, ?_⟩
  have h2 := blk_new (w.alloc (.cells x t)) y s
  rw [blk_size] at h2
  exact blk_later h2 hb
theorem blk_apart {w : World} {A g : Nat} {o : Obj} (h : w.heap[A]? = some o) (hne : A ≠ g) (i : Nat) (u : Value) : (w.setCell ⟨g, i, none⟩ u).heap[A]? = some o := (Below.heap_setCell w ⟨g, i, none⟩ u A hne).trans h
end Go.Proofs.Ytdhfnlpolelcpaa
