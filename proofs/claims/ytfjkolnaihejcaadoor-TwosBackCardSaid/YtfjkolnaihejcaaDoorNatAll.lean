/-
  Package nat keeps what the laws of layer 2 lean on.
-/
import Derived.Test.YtfjkolnaihejcaaDoorNat5
namespace Go.Proofs.YtfjkolnaihejcaaDoor
open Go.RowKit
theorem natSaid : NatSaid where
  of := nat_of
  zero := fun a n cap l w h _ => nat_zero a n cap l w h
  cmp := fun a n cap la b m cap' lb w ha hb _ _ => nat_cmp a n cap la b m cap' lb w ha hb
  add := nat_add
end Go.Proofs.YtfjkolnaihejcaaDoor
