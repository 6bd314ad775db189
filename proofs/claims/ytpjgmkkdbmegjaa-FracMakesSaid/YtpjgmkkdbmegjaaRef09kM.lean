/-
  The document's answer of layer 9: Floor.
-/
import Derived.Test.YtpjgmkkdbmegjaaRef09jM
import Derived.Deep.CutRange
namespace Go.Proofs.Ytpjgmkkdbmegjaa
open Go.RowKit

theorem pair_cells {w : World} {A : Nat} {x y : Value} {t : TypeId} (h1 : w.heap[A]? = some (.cells #[x, y] t (0, 0))) : w.cell? ⟨A, 0, none⟩ = some x ∧ w.cell? ⟨A, 1, none⟩ = some y := ⟨blk_cell h1 0, blk_cell h1 1⟩
theorem blk_drawn {w : World} {g : Nat} {o : Obj} (h : w.heap[g]? = some o) : w.drew.heap[g]? = some o := h
theorem new_at {w : World} {g : Nat} (x : Array Value) (t : TypeId) (h : w.heap.size = g) : (w.alloc (.cells x t)).heap[g]? = some (.cells x t (0, 0)) := by
  subst h
  exact blk_new w x t
theorem second_new (w : World) (o : Obj) (x : Array Value) {t : TypeId} : ((w.alloc o).alloc (.cells x t)).heap[w.heap.size + 1]? = some (.cells x t (0, 0)) := by
  have h := blk_new (w.alloc o) x t
  rw [blk_size] at h
  exact h
theorem later_gives {P : Program} {f : FuncId} {args : Array Value} {v0 v : World} {u : Value} (hv : Below v0.heap.size v0 v) (h : Calls P f args v (Gives u v)) :
    Calls P f args v (fun e w' => e = .returned u ∧ Below v0.heap.size v0 w' ∧ ∀ (g : Nat) (o : Obj), v.heap[g]? = some o → w'.heap[g]? = some o) :=
  h.mono fun _ _ ⟨he, hb⟩ => ⟨he, below_then hv hb, fun _ _ hg => blk_later hg hb⟩
theorem later_lstZZ {P : Program} {f : FuncId} {args : Array Value} {v0 v : World} {x y : Int} (hv : Below v0.heap.size v0 v) (h : Calls P f args v (LstZZ x y v)) :
    Calls P f args v (fun e w' => ∃ (a : Option Addr) (n cap : Nat) (b : Option Addr) (m cap' : Nat), e = .returned (.tuple #[whV (zneg x) a n cap, whV (zneg y) b m cap']) ∧ Wd w' a n cap (dg x.natAbs) ∧ Wd w' b m cap' (dg y.natAbs) ∧ Below v0.heap.size v0 w' ∧ ∀ (g : Nat) (o : Obj), v.heap[g]? = some o → w'.heap[g]? = some o) :=
  h.mono fun _ _ ⟨a, n, c, b, m, d, he, h1, h2, hb⟩ => ⟨a, n, c, b, m, d, he, h1, h2, below_then hv hb, fun _ _ hg => blk_later hg hb⟩
end Go.Proofs.Ytpjgmkkdbmegjaa
