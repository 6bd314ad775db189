/-
  The contracts of package nat (layer 2) at this seat: addTo, Add.
-/
import Derived.Test.YtdhfnlpolelcpaaNat3
namespace Go.Proofs.Ytdhfnlpolelcpaa
open Go.RowKit

/-- A right list in a row of the call's own comes back. -/
def OwnPost (w0 : World) (v : Nat) (e : Ending) (w' : World) : Prop :=
  ∃ g n cap : Nat, e = .returned (.slice (some ⟨g, 0, none⟩) n cap) ∧ Hid (Own w' w0.heap.size g n cap (dg v)) ∧ Below w0.heap.size w0 w'

end Go.Proofs.Ytdhfnlpolelcpaa
