/-
  What package common's functions owe (layer 6), as one hypothesis: the contracts that the laws' walks lean on.
-/
import Derived.Test.YtkpnhohaolfmgaaNatSaid
namespace Go.Proofs.Ytkpnhohaolfmgaa
open Go.RowKit

/-- Two lists of words come back. -/
def Pair2 (p q : List Nat) (w : World) (e : Ending) (w' : World) : Prop :=
  ∃ (a : Option Addr) (n cap : Nat) (b : Option Addr) (m cap' : Nat), e = .returned (.tuple #[.slice a n cap, .slice b m cap']) ∧ Wd w' a n cap p ∧ Wd w' b m cap' q ∧ Below w.heap.size w w'
/-- The common divisor of the values of lists. -/
def gcds : List (List Nat) → Nat
  | [] => 0
  | l :: r => Nat.gcd (val l) (gcds r)
theorem gcds_append (a b : List (List Nat)) : gcds (a ++ b) = Nat.gcd (gcds a) (gcds b) := by
  induction a with
  | nil => simp [gcds]
  | cons l r ih => simp [gcds, ih, Nat.gcd_assoc]
theorem gcds_take (ls : List (List Nat)) (k : Nat) (hk : k < ls.length) : gcds (ls.take (k + 1)) = Nat.gcd (gcds (ls.take k)) (val (ls.getD k [])) := by
  rw [List.take_succ_eq_append_getElem hk, gcds_append, List.getD_eq_getElem?_getD, List.getElem?_eq_getElem hk]; simp [gcds]
structure CommonSaid : Prop where
  gcd : ∀ (a : Option Addr) (n cap : Nat) (la : List Nat) (b : Option Addr) (m cap' : Nat) (lb : List Nat) (w : World), Wd w a n cap la → Wd w b m cap' lb → n ≤ 1000 → m ≤ 1000 →
    Calls Try.prog 11 #[.slice a n cap, .slice b m cap'] w (Lst (dg (Nat.gcd (val la) (val lb))) w)
  all : ∀ (a : Option Addr) (n cap : Nat) (ls : List (List Nat)) (w : World), Wds w a n cap ls → n ≤ 1000 → words ls ≤ 1000 →
    Calls Try.prog 18 #[.slice a n cap] w (Lst (dg (gcds ls)) w)
  lcm : ∀ (a : Option Addr) (n cap : Nat) (la : List Nat) (b : Option Addr) (m cap' : Nat) (lb : List Nat) (w : World), Wd w a n cap la → Wd w b m cap' lb → n ≤ 1000 → m ≤ 1000 →
    Calls Try.prog 14 #[.slice a n cap, .slice b m cap'] w (Lst (dg (Nat.lcm (val la) (val lb))) w)
  prime : ∀ (a : Option Addr) (n cap : Nat) (la : List Nat) (b : Option Addr) (m cap' : Nat) (lb : List Nat) (w : World), Wd w a n cap la → Wd w b m cap' lb → n ≤ 1000 → m ≤ 1000 →
    Calls Try.prog 12 #[.slice a n cap, .slice b m cap'] w (Gives (.bool (decide (Nat.gcd (val la) (val lb) = 1))) w)
  cancel : ∀ (a : Option Addr) (n cap : Nat) (la : List Nat) (b : Option Addr) (m cap' : Nat) (lb : List Nat) (w : World), Wd w a n cap la → Wd w b m cap' lb → n ≤ 1000 → m ≤ 1000 →
    Calls Try.prog 9 #[.slice a n cap, .slice b m cap'] w (Pair2 (dg (val la / Nat.gcd (val la) (val lb))) (dg (val lb / Nat.gcd (val la) (val lb))) w)
end Go.Proofs.Ytkpnhohaolfmgaa
