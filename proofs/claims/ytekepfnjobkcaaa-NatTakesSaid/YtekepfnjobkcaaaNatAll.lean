/-
  Package nat keeps what the laws of layer 2 lean on.
-/
import Derived.Test.YtekepfnjobkcaaaNat5
namespace Go.Proofs.Ytekepfnjobkcaaa
open Go.RowKit
theorem natSaid : NatSaid where
  norm := fun a n cap l w h hn => (nat_norm a n cap l w h hn).mono fun _ _ ⟨_, _, he, _, HO, hB⟩ => ⟨_, _, _, he, Wd.own HO.out (okw_dg _), hB⟩
  of := nat_of
  small := fun a n cap l w h _ => nat_small a n cap l w h
  zero := fun a n cap l w h _ => nat_zero a n cap l w h
  cmp := fun a n cap la b m cap' lb w ha hb _ _ => nat_cmp a n cap la b m cap' lb w ha hb
  add := nat_add
  sub_yes := fun a n cap la b m cap' lb w ha hb hn _ hle => nat_sub_yes a n cap la b m cap' lb w ha hb hn hle
  sub_no := fun a n cap la b m cap' lb w ha hb _ _ hlt => nat_sub_no a n cap la b m cap' lb w ha hb hlt
  gap := nat_gap
end Go.Proofs.Ytekepfnjobkcaaa
