/-
  No cell of these rows narrows 'for every input' (looked for: loops, veiled, ifaces, maps, wideKeys, modest, calm, conditions, laid).
  DERIVED. THE GIVEN ROWS OF THIS SEAT. 5 by the template 'for every input the law returns true; each argument reads behind the call as it read before'; 0 by the template 'total and deterministic' (their statements: YtpaenbikgehgcaaTotals.lean).
  GIVEN WITH THE SEED: the statements are not yours to turn. If you find one false, say at which input.
  Laid BY PROGRAM, IN A SANDBOX (cutbox-rows.mjs): the forced cells as the released guide's own fill.sh prints them over the translation f1e86cc4a7fdba7c… (all of the seat's roots in one cut). By AI agents, Wed Nov 11 2026. No macro, syntax, notation, axiom, sorry.
-/
import Derived.Test.YtpaenbikgehgcaaChecked
import GoSem.Claim
import GoSem.ClaimJoined
import GoSem.ClaimMapViews
import Derived.JoinedTies
import Derived.KernelRfl
namespace Go.Proofs.Ytpaenbikgehgcaa
/- THE CELL 'sum', in the pinned program and in every row, IS THE sha256 OF THE DUMP (.gsa) THAT YtpaenbikgehgcaaProg.lean LOADS. Nothing in Lean hashes anything: it is a label: what it is worth is what the hold of that sum in a sandbox is worth. -/
noncomputable def Try.pinned : Pinned := { name := "ytpaenbikgehgcaa", sum := "f1e86cc4a7fdba7c96a021ef1054f16ea1184903ce3fdd630bc23d7ff7b967bd", checked := Try.checked }
namespace Rows
def none {H : Type} : Left H := { results := [], args := [] }

/-- 'retrospectlaw04.ProdTimes': WHATEVER THE INPUT: true; the input reads as it did. -/
def prodTimesSpec : ChangeSpec := { name := "prodTimes", fn := fun _ => fun
  | [d1, d2, d3] => { results := [.lit (.bool true)], args := [d1, d2, d3] }
  | _ => none }
def prodTimesRow : OpenClaim := { program := "ytpaenbikgehgcaa", sum := "f1e86cc4a7fdba7c96a021ef1054f16ea1184903ce3fdd630bc23d7ff7b967bd", func := "retrospect/retrospectlaw04.ProdTimes", spec := "prodTimes", apart := false }
def ProdTimesSaid : Prop := prodTimesRow.holds Try.pinned (OpenSpec.ofChange prodTimesSpec)

/-- ITS FALSE NEIGHBOUR: 'it returns false'. Refute it at one input. -/
def prodTimesWrong : ChangeSpec := { name := "prodTimes", fn := fun _ => fun
  | [d1, d2, d3] => { results := [.lit (.bool false)], args := [d1, d2, d3] }
  | _ => none }
def ProdTimesWrongFalsely : Prop := prodTimesRow.holds Try.pinned (OpenSpec.ofChange prodTimesWrong)

/-- 'retrospectlaw04.ProdAll': WHATEVER THE INPUT: true; the input reads as it did. -/
def prodAllSpec : ChangeSpec := { name := "prodAll", fn := fun _ => fun
  | [d] => { results := [.lit (.bool true)], args := [d] }
  | _ => none }
def prodAllRow : OpenClaim := { program := "ytpaenbikgehgcaa", sum := "f1e86cc4a7fdba7c96a021ef1054f16ea1184903ce3fdd630bc23d7ff7b967bd", func := "retrospect/retrospectlaw04.ProdAll", spec := "prodAll", recurses := true, apart := false }
def ProdAllSaid : Prop := prodAllRow.holds Try.pinned (OpenSpec.ofChange prodAllSpec)

/-- ITS FALSE NEIGHBOUR: 'it returns false'. Refute it at one input. -/
def prodAllWrong : ChangeSpec := { name := "prodAll", fn := fun _ => fun
  | [d] => { results := [.lit (.bool false)], args := [d] }
  | _ => none }
def ProdAllWrongFalsely : Prop := prodAllRow.holds Try.pinned (OpenSpec.ofChange prodAllWrong)

/-- 'retrospectlaw04.ProdPowers': WHATEVER THE INPUT: true; the input reads as it did. -/
def prodPowersSpec : ChangeSpec := { name := "prodPowers", fn := fun _ => fun
  | [d1, d2] => { results := [.lit (.bool true)], args := [d1, d2] }
  | _ => none }
def prodPowersRow : OpenClaim := { program := "ytpaenbikgehgcaa", sum := "f1e86cc4a7fdba7c96a021ef1054f16ea1184903ce3fdd630bc23d7ff7b967bd", func := "retrospect/retrospectlaw04.ProdPowers", spec := "prodPowers", apart := false }
def ProdPowersSaid : Prop := prodPowersRow.holds Try.pinned (OpenSpec.ofChange prodPowersSpec)

/-- ITS FALSE NEIGHBOUR: 'it returns false'. Refute it at one input. -/
def prodPowersWrong : ChangeSpec := { name := "prodPowers", fn := fun _ => fun
  | [d1, d2] => { results := [.lit (.bool false)], args := [d1, d2] }
  | _ => none }
def ProdPowersWrongFalsely : Prop := prodPowersRow.holds Try.pinned (OpenSpec.ofChange prodPowersWrong)

/-- 'retrospectlaw04.ProdShares': WHATEVER THE INPUT: true; the input reads as it did. -/
def prodSharesSpec : ChangeSpec := { name := "prodShares", fn := fun _ => fun
  | [d1, d2, d3] => { results := [.lit (.bool true)], args := [d1, d2, d3] }
  | _ => none }
def prodSharesRow : OpenClaim := { program := "ytpaenbikgehgcaa", sum := "f1e86cc4a7fdba7c96a021ef1054f16ea1184903ce3fdd630bc23d7ff7b967bd", func := "retrospect/retrospectlaw04.ProdShares", spec := "prodShares", apart := false }
def ProdSharesSaid : Prop := prodSharesRow.holds Try.pinned (OpenSpec.ofChange prodSharesSpec)

/-- ITS FALSE NEIGHBOUR: 'it returns false'. Refute it at one input. -/
def prodSharesWrong : ChangeSpec := { name := "prodShares", fn := fun _ => fun
  | [d1, d2, d3] => { results := [.lit (.bool false)], args := [d1, d2, d3] }
  | _ => none }
def ProdSharesWrongFalsely : Prop := prodSharesRow.holds Try.pinned (OpenSpec.ofChange prodSharesWrong)

/-- 'retrospectlaw04.ProdExponents': WHATEVER THE INPUT: true; the input reads as it did. -/
def prodExponentsSpec : ChangeSpec := { name := "prodExponents", fn := fun _ => fun
  | [d1, d2, d3] => { results := [.lit (.bool true)], args := [d1, d2, d3] }
  | _ => none }
def prodExponentsRow : OpenClaim := { program := "ytpaenbikgehgcaa", sum := "f1e86cc4a7fdba7c96a021ef1054f16ea1184903ce3fdd630bc23d7ff7b967bd", func := "retrospect/retrospectlaw04.ProdExponents", spec := "prodExponents", apart := false }
def ProdExponentsSaid : Prop := prodExponentsRow.holds Try.pinned (OpenSpec.ofChange prodExponentsSpec)

/-- ITS FALSE NEIGHBOUR: 'it returns false'. Refute it at one input. -/
def prodExponentsWrong : ChangeSpec := { name := "prodExponents", fn := fun _ => fun
  | [d1, d2, d3] => { results := [.lit (.bool false)], args := [d1, d2, d3] }
  | _ => none }
def ProdExponentsWrongFalsely : Prop := prodExponentsRow.holds Try.pinned (OpenSpec.ofChange prodExponentsWrong)

/- THE SECOND FORM. 'bulk': how many values and letters a reading holds, each counted each time it is reached (what is shared counts as often as it is met; a slice's spare places count too). A statement '..UptoSaid' is the law's where the arguments, and the package variables that the reading takes, are together of bulk at most 1048576: NARROWER than '..Said'. Prove '..Said' where nothing that the law and all that it calls make is longer than what came in: it says more and counts as full. Else prove '..UptoSaid'. A law counts once. -/
mutual
def uptoBulk {H : Type} : DataW H → Nat
  | .lit (.string bytes) => bytes.length + 1
  | .lit _ => 1
  | .nil => 1
  | .ptr d => uptoBulk d + 1
  | .slice elems spare => uptoBulkAll elems + uptoBulkAll spare + 1
  | .agg parts => uptoBulkAll parts + 1
  | .iface _ d => uptoBulk d + 1
  | .map entries => uptoBulkEntries entries + 1
  | .held _ => 1
def uptoBulkAll {H : Type} : List (DataW H) → Nat
  | [] => 0
  | d :: r => uptoBulk d + uptoBulkAll r
def uptoBulkEntries {H : Type} : List (Lit × DataW H) → Nat
  | [] => 0
  | x :: r => uptoBulkEntry x + uptoBulkEntries r
def uptoBulkEntry {H : Type} : Lit × DataW H → Nat
  | (.string bytes, d) => bytes.length + uptoBulk d + 1
  | (_, d) => uptoBulk d + 1
 end
def uptoSmall : (H : Type) → List (DataW H) → Bool := fun _ ds => decide (uptoBulkAll ds ≤ 1048576)
def OpenSpec.upto (s : _root_.Go.ChangeSpec) : _root_.Go.OpenSpec := { _root_.Go.OpenSpec.ofChange s with cond := some uptoSmall }

/-- 'retrospectlaw04.ProdTimes', WHERE WHAT IT READS IS OF BULK AT MOST 1048576: true; the input reads as it did. -/
def prodTimesUptoRow : OpenClaim := { program := "ytpaenbikgehgcaa", sum := "f1e86cc4a7fdba7c96a021ef1054f16ea1184903ce3fdd630bc23d7ff7b967bd", func := "retrospect/retrospectlaw04.ProdTimes", spec := "prodTimes", apart := false, narrowed := true }
def ProdTimesUptoSaid : Prop := prodTimesUptoRow.holds Try.pinned (OpenSpec.upto prodTimesSpec)

/-- 'retrospectlaw04.ProdAll', WHERE WHAT IT READS IS OF BULK AT MOST 1048576: true; the input reads as it did. -/
def prodAllUptoRow : OpenClaim := { program := "ytpaenbikgehgcaa", sum := "f1e86cc4a7fdba7c96a021ef1054f16ea1184903ce3fdd630bc23d7ff7b967bd", func := "retrospect/retrospectlaw04.ProdAll", spec := "prodAll", recurses := true, apart := false, narrowed := true }
def ProdAllUptoSaid : Prop := prodAllUptoRow.holds Try.pinned (OpenSpec.upto prodAllSpec)

/-- 'retrospectlaw04.ProdPowers', WHERE WHAT IT READS IS OF BULK AT MOST 1048576: true; the input reads as it did. -/
def prodPowersUptoRow : OpenClaim := { program := "ytpaenbikgehgcaa", sum := "f1e86cc4a7fdba7c96a021ef1054f16ea1184903ce3fdd630bc23d7ff7b967bd", func := "retrospect/retrospectlaw04.ProdPowers", spec := "prodPowers", apart := false, narrowed := true }
def ProdPowersUptoSaid : Prop := prodPowersUptoRow.holds Try.pinned (OpenSpec.upto prodPowersSpec)

/-- 'retrospectlaw04.ProdShares', WHERE WHAT IT READS IS OF BULK AT MOST 1048576: true; the input reads as it did. -/
def prodSharesUptoRow : OpenClaim := { program := "ytpaenbikgehgcaa", sum := "f1e86cc4a7fdba7c96a021ef1054f16ea1184903ce3fdd630bc23d7ff7b967bd", func := "retrospect/retrospectlaw04.ProdShares", spec := "prodShares", apart := false, narrowed := true }
def ProdSharesUptoSaid : Prop := prodSharesUptoRow.holds Try.pinned (OpenSpec.upto prodSharesSpec)

/-- 'retrospectlaw04.ProdExponents', WHERE WHAT IT READS IS OF BULK AT MOST 1048576: true; the input reads as it did. -/
def prodExponentsUptoRow : OpenClaim := { program := "ytpaenbikgehgcaa", sum := "f1e86cc4a7fdba7c96a021ef1054f16ea1184903ce3fdd630bc23d7ff7b967bd", func := "retrospect/retrospectlaw04.ProdExponents", spec := "prodExponents", apart := false, narrowed := true }
def ProdExponentsUptoSaid : Prop := prodExponentsUptoRow.holds Try.pinned (OpenSpec.upto prodExponentsSpec)

end Rows
end Go.Proofs.Ytpaenbikgehgcaa
