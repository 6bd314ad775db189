/-
  The walks of the laws of layer 11: a row of the program's is the document's.
-/
import Derived.Test.YtipcgehcineblaaGreatLaw11OwnM
namespace Go.Proofs.YtipcgehcineblaaGreat
open Go.RowKit

theorem law11_is_yes (a0 : Option Addr) (n0 c0 : Nat) (a1 : Option Addr) (n1 c1 : Nat) (V : List Rat) (w : World) (h0 : Rw w a0 n0 c0 V) (h1 : Rw w a1 n1 c1 V) (hn : V.length ≤ 1000) (hV : ∀ q ∈ V, qlen q ≤ 15728640000) :
    Calls Tryz.prog 13 #[.slice a0 n0 c0, .slice a1 n1 c1] w (Gives (.bool true) w) := by
  have h := law11_is a0 n0 c0 V a1 n1 c1 V w h0 h1 (by have := h0.len; omega) hV hV
  rw [decide_eq_true rfl] at h
  exact h
end Go.Proofs.YtipcgehcineblaaGreat
