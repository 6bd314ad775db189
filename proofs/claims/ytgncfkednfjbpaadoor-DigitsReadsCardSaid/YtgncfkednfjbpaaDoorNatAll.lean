/-
  Package nat keeps what the laws of layer 2 lean on.
-/
import Derived.Test.YtgncfkednfjbpaaDoorNat5
namespace Go.Proofs.YtgncfkednfjbpaaDoor
open Go.RowKit
theorem natSaid : NatSaid where
  norm := fun a n cap l w h hn => (nat_norm a n cap l w h hn).mono fun _ _ ⟨_, _, he, _, HO, hB⟩ => ⟨_, _, _, he, Wd.own HO.out (okw_dg _), hB⟩
  of := nat_of
  zero := fun a n cap l w h _ => nat_zero a n cap l w h
  cmp := fun a n cap la b m cap' lb w ha hb _ _ => nat_cmp a n cap la b m cap' lb w ha hb
end Go.Proofs.YtgncfkednfjbpaaDoor
