/-
  Package nat keeps what the laws of layer 2 lean on.
-/
import Derived.Test.YtdhfnlpolelcpaaNat5
namespace Go.Proofs.Ytdhfnlpolelcpaa
open Go.RowKit
theorem natSaid : NatSaid where
  of := nat_of
  cmp := fun a n cap la b m cap' lb w ha hb _ _ => nat_cmp a n cap la b m cap' lb w ha hb
end Go.Proofs.Ytdhfnlpolelcpaa
