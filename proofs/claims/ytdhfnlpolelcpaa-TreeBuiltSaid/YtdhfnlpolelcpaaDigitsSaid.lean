/-
  What package digits' functions owe (layer 7), as one hypothesis: the contracts that the laws' walks lean on.
-/
import Derived.Test.YtdhfnlpolelcpaaNatSaid
import Derived.Test.YtdhfnlpolelcpaaDigitsPlain
import Derived.Lib.AppendIntMem
import Derived.Lib.LaidTab
import Derived.Lib.ItoaNum
namespace Go.Proofs.Ytdhfnlpolelcpaa
open Go.RowKit

/-- A text, as a value. -/
def bs (l : List UInt8) : ByteArray := ⟨l.toArray⟩
theorem bs_size (l : List UInt8) : (bs l).size = l.length := by show l.toArray.size = _; simp
theorem bs_append (a b : List UInt8) : bs a ++ bs b = bs (a ++ b) := by unfold bs; rw [ByteArray.mk_append_mk]
theorem bs_list (l : List UInt8) : (bs l).toList = l := by rw [ByteArray.toList_eq]; rfl
theorem bs_get (l : List UInt8) (k : Nat) (h : k < l.length) (h' : k < (bs l).size) : ((bs l)[k]'h').toNat = (l.getD k 0).toNat := by
  rw [List.getD_eq_getElem?_getD, List.getElem?_eq_getElem h]; rfl
theorem bs_of (s : ByteArray) : ∃ l, s = bs l := ⟨s.data.toList, by cases s; simp [bs]⟩
theorem bs_all (l : List UInt8) : (bs l).extract 0 l.length = bs l := by unfold bs; rw [ByteArray.extract_mk]; simp
theorem bs_rest (x : UInt8) (r : List UInt8) : (bs (x :: r)).extract 1 (r.length + 1) = bs r := by unfold bs; rw [ByteArray.extract_mk]; simp
/-- A fault, as a value. -/
def faultV (k s t a : Int) : Value := .agg #[.int .i64 k, .int .i64 s, .int .i64 t, .int .i64 a]
/-- The library's table of the powers of ten reads as its initialiser lays it (nothing is asked where the program has no such table). -/
def Dec10 (w : World) : Prop := w = w
theorem Dec10.later {w w' : World} (_ : Dec10 w) (_ : Below w.heap.size w w') : Dec10 w' := rfl
theorem Dec10.all (w : World) : Dec10 w := rfl
structure DigitsSaid : Prop where
/-- The cells of a fault in a variable. -/
def Box (w : World) (g : Nat) (k s t a : Int) : Prop :=
  w.cell? ⟨g, 0, none⟩ = some (.int .i64 k) ∧ w.cell? ⟨g, 1, none⟩ = some (.int .i64 s) ∧ w.cell? ⟨g, 2, none⟩ = some (.int .i64 t) ∧ w.cell? ⟨g, 3, none⟩ = some (.int .i64 a)
theorem Box.later {w w' : World} {g : Nat} {k s t a : Int} (h : Box w g k s t a) (hb : Below w.heap.size w w') : Box w' g k s t a :=
  ⟨cell_later hb h.1, cell_later hb h.2.1, cell_later hb h.2.2.1, cell_later hb h.2.2.2⟩
theorem Box.new (w : World) (k s t a : Int) (e : TypeId) : Box (w.alloc (.cells #[.int .i64 k, .int .i64 s, .int .i64 t, .int .i64 a] e)) w.heap.size k s t a := ⟨by simp, by simp, by simp, by simp⟩
end Go.Proofs.Ytdhfnlpolelcpaa
