/-
  Package nat keeps what the laws of layer 2 lean on.
-/
import Derived.Test.YtpaenbikgehgcaaNat5
namespace Go.Proofs.Ytpaenbikgehgcaa
open Go.RowKit
theorem natSaid : NatSaid where
  norm := fun a n cap l w h hn => (nat_norm a n cap l w h hn).mono fun _ _ ⟨_, _, he, _, HO, hB⟩ => ⟨_, _, _, he, Wd.own HO.out (okw_dg _), hB⟩
  of := nat_of
  add := nat_add
end Go.Proofs.Ytpaenbikgehgcaa
