/-
  What package nat's functions owe (layer 2), as one hypothesis: the contracts that the laws' walks lean on.
-/
import Derived.Test.YtdhfnlpolelcpaaRows
import Derived.Test.YtdhfnlpolelcpaaSlice
namespace Go.Proofs.Ytdhfnlpolelcpaa
open Go.RowKit

/-- A list of words comes back, in memory of the call's own or such as was there; nothing that was there has turned. -/
def Lst (l : List Nat) (w : World) (e : Ending) (w' : World) : Prop :=
  ∃ (a : Option Addr) (n cap : Nat), e = .returned (.slice a n cap) ∧ Wd w' a n cap l ∧ Below w.heap.size w w'
/-- A list of words and one more result. -/
def Lst2 (l : List Nat) (v : Value) (w : World) (e : Ending) (w' : World) : Prop :=
  ∃ (a : Option Addr) (n cap : Nat), e = .returned (.tuple #[.slice a n cap, v]) ∧ Wd w' a n cap l ∧ Below w.heap.size w w'
/-- A plain value comes back; nothing that was there has turned. -/
def Gives (v : Value) (w : World) (e : Ending) (w' : World) : Prop := e = .returned v ∧ Below w.heap.size w w'

def two64 : Nat := 18446744073709551616
def smallB (v : Nat) : Bool := decide (v < two64)
def smallV (v : Nat) : Nat := if v < two64 then v else 0

structure NatSaid : Prop where
  of : ∀ (x : Nat) (w : World), x ≤ 18446744073709551615 → Calls Try.prog 32 #[.int .u64 (x : Int)] w (Lst (dg x) w)
  cmp : ∀ (a : Option Addr) (n cap : Nat) (la : List Nat) (b : Option Addr) (m cap' : Nat) (lb : List Nat) (w : World), Wd w a n cap la → Wd w b m cap' lb → n ≤ 17592183947264 → m ≤ 17592183947264 →
    Calls Try.prog 31 #[.slice a n cap, .slice b m cap'] w (Gives (.int .i64 (cmpI (val la) (val lb))) w)
end Go.Proofs.Ytdhfnlpolelcpaa
