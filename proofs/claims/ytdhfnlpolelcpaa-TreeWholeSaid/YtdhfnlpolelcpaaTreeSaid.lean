/-
  What package tree's functions owe (layer 17), as one hypothesis: the contracts that the laws' walks lean on.
-/
import Derived.Test.YtdhfnlpolelcpaaRef17e
namespace Go.Proofs.Ytdhfnlpolelcpaa
open Go.RowKit

/-- Expressions that mean these, of at most so many nodes of at most so many words each; and a Bool. -/
def LstP (S : List (List (Int × Int × Nat))) (N M : Nat) (b : Bool) (w : World) (e : Ending) (w' : World) : Prop :=
  ∃ (a : Option Addr) (n c : Nat) (K : List Sn), e = .returned (.tuple #[.slice a n c, .bool b]) ∧ Sns w' a n c K ∧ K.map Sn.sem = S ∧ (∀ x ∈ K, x.n ≤ N ∧ thinN M x.L) ∧ Below w.heap.size w w'
def LstE (S : List (List (Int × Int × Nat))) (N M : Nat) (w : World) (e : Ending) (w' : World) : Prop :=
  ∃ (a : Option Addr) (n c : Nat) (K : List Sn), e = .returned (.slice a n c) ∧ Sns w' a n c K ∧ K.map Sn.sem = S ∧ (∀ x ∈ K, x.n ≤ N ∧ thinN M x.L) ∧ Below w.heap.size w w'
structure TreeSaid : Prop where
  arity : ∀ (op : Int) (w : World), Calls Try.prog 17 #[.int .i64 op] w (Gives (.int .i64 (tAr op)) w)
  wrong : ∀ (a : Option Addr) (n c : Nat) (L : List Nd) (w : World), Nds w a n c L → n ≤ 100000 → Calls Try.prog 13 #[.slice a n c] w (Gives (.int .i64 (tWrong (L.map Nd.op))) w)
  right : ∀ (a : Option Addr) (n c : Nat) (L : List Nd) (w : World), Nds w a n c L → n ≤ 100000 → Calls Try.prog 14 #[.slice a n c] w (Gives (.bool (decide (tWrong (L.map Nd.op) < 0))) w)
  depth : ∀ (a : Option Addr) (n c : Nat) (L : List Nd) (w : World), Nds w a n c L → n ≤ 100000 → Calls Try.prog 15 #[.slice a n c] w (Gives (.int .i64 (tDepth (L.map Nd.op) : Int)) w)
  parts : ∀ (a : Option Addr) (n c : Nat) (L : List Nd) (M : Nat) (w : World), Nds w a n c L → n ≤ 100000 → thinN M L → M ≤ 100000 → ∀ t : Ex Nd, t.ok Nd.op → t.flat = L → Calls Try.prog 11 #[.slice a n c] w (LstP (t.kids.map fun u => u.flat.map Nd.sem) n M true w)
  parts_no : ∀ (a : Option Addr) (n c : Nat) (L : List Nd) (w : World), Nds w a n c L → n ≤ 100000 → 0 ≤ tWrong (L.map Nd.op) → Calls Try.prog 11 #[.slice a n c] w (LstP [] 0 0 false w)
  same : ∀ (a : Option Addr) (n c : Nat) (L : List Nd) (b : Option Addr) (m d : Nat) (M : List Nd) (w : World), Nds w a n c L → Nds w b m d M → n ≤ 100000 → m ≤ 100000 → thinN 100000 L → thinN 100000 M → Calls Try.prog 30 #[.slice a n c, .slice b m d] w (Gives (.bool (decide (L.map Nd.sem = M.map Nd.sem))) w)
  codes : ∀ (a : Option Addr) (n c : Nat) (K : List Lt) (b : Option Addr) (m d : Nat) (O : List Sn) (N M : Nat) (w : World), Lts w a n c K → Sns w b m d O → n ≤ 5000 → m ≤ 5000 → (∀ x ∈ tCodes K O, x.n ≤ N ∧ thinN M x.L) → N ≤ 100000 → M ≤ 100000 → Calls Try.prog 24 #[fiV a n c b m d] w (LstE ((tCodes K O).map Sn.sem) N M w)
  size : ∀ (a : Option Addr) (n c : Nat) (K : List Lt) (b : Option Addr) (m d : Nat) (O : List Sn) (w : World), Lts w a n c K → Sns w b m d O → n ≤ 5000 → m ≤ 5000 → (∀ x ∈ tCodes K O, x.n ≤ 100000) → Calls Try.prog 26 #[fiV a n c b m d] w (Gives (.int .i64 (tSize (tCodes K O) : Int)) w)
  sameField : ∀ (a : Option Addr) (n c : Nat) (K : List Lt) (b : Option Addr) (m d : Nat) (O : List Sn) (a' : Option Addr) (n' c' : Nat) (K' : List Lt) (b' : Option Addr) (m' d' : Nat) (O' : List Sn) (w : World), Lts w a n c K → Sns w b m d O → Lts w a' n' c' K' → Sns w b' m' d' O' → n ≤ 5000 → m ≤ 5000 → n' ≤ 5000 → m' ≤ 5000 → (∀ x ∈ tCodes K O, x.n ≤ 100000 ∧ thinN 100000 x.L) → (∀ x ∈ tCodes K' O', x.n ≤ 100000 ∧ thinN 100000 x.L) → Calls Try.prog 28 #[fiV a n c b m d, fiV a' n' c' b' m' d'] w (Gives (.bool (decide (tSame K O K' O'))) w)
end Go.Proofs.Ytdhfnlpolelcpaa
