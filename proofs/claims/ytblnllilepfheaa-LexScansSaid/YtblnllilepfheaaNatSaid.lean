/-
  What package nat's functions owe (layer 2), as one hypothesis: the contracts that the laws' walks lean on.
-/
import Derived.Test.YtblnllilepfheaaRows
import Derived.Test.YtblnllilepfheaaSlice
namespace Go.Proofs.Ytblnllilepfheaa
open Go.RowKit

/-- A list of words comes back, in memory of the call's own or such as was there; nothing that was there has turned. -/
def Lst (l : List Nat) (w : World) (e : Ending) (w' : World) : Prop :=
  ∃ (a : Option Addr) (n cap : Nat), e = .returned (.slice a n cap) ∧ Wd w' a n cap l ∧ Below w.heap.size w w'
/-- A list of words and one more result. -/
def Lst2 (l : List Nat) (v : Value) (w : World) (e : Ending) (w' : World) : Prop :=
  ∃ (a : Option Addr) (n cap : Nat), e = .returned (.tuple #[.slice a n cap, v]) ∧ Wd w' a n cap l ∧ Below w.heap.size w w'
/-- A plain value comes back; nothing that was there has turned. -/
def Gives (v : Value) (w : World) (e : Ending) (w' : World) : Prop := e = .returned v ∧ Below w.heap.size w w'

def two64 : Nat := 18446744073709551616
def smallB (v : Nat) : Bool := decide (v < two64)
def smallV (v : Nat) : Nat := if v < two64 then v else 0

structure NatSaid : Prop where
end Go.Proofs.Ytblnllilepfheaa
