/-
  No cell of these rows narrows 'for every input' (looked for: loops, veiled, ifaces, maps, wideKeys, modest, calm, conditions, laid).
  DERIVED. THE GIVEN ROWS OF THIS SEAT. 4 by the template 'for every input the law returns true; each argument reads behind the call as it read before'; 0 by the template 'total and deterministic' (their statements: YtkpnhohaolfmgaaTotals.lean).
  GIVEN WITH THE SEED: the statements are not yours to turn. If you find one false, say at which input.
  Laid BY PROGRAM, IN A SANDBOX (cutbox-rows.mjs): the forced cells as the released guide's own fill.sh prints them over the translation 760ed6e83d368077… (all of the seat's roots in one cut). By AI agents, Wed Nov 11 2026. No macro, syntax, notation, axiom, sorry.
-/
import Derived.Test.YtkpnhohaolfmgaaChecked
import GoSem.Claim
import GoSem.ClaimJoined
import GoSem.ClaimMapViews
import Derived.JoinedTies
import Derived.KernelRfl
namespace Go.Proofs.Ytkpnhohaolfmgaa
/- THE CELL 'sum', in the pinned program and in every row, IS THE sha256 OF THE DUMP (.gsa) THAT YtkpnhohaolfmgaaProg.lean LOADS. Nothing in Lean hashes anything: it is a label: what it is worth is what the hold of that sum in a sandbox is worth. -/
noncomputable def Try.pinned : Pinned := { name := "ytkpnhohaolfmgaa", sum := "760ed6e83d368077ef3ecc5577e2544ee166552601ab1e4473eb491bc975609a", checked := Try.checked }
namespace Rows
def none {H : Type} : Left H := { results := [], args := [] }

/-- 'retrospectlaw06.CommonTells': WHATEVER THE INPUT: true; the input reads as it did. -/
def commonTellsSpec : ChangeSpec := { name := "commonTells", fn := fun _ => fun
  | [d1, d2] => { results := [.lit (.bool true)], args := [d1, d2] }
  | _ => none }
def commonTellsRow : OpenClaim := { program := "ytkpnhohaolfmgaa", sum := "760ed6e83d368077ef3ecc5577e2544ee166552601ab1e4473eb491bc975609a", func := "retrospect/retrospectlaw06.CommonTells", spec := "commonTells", apart := false }
def CommonTellsSaid : Prop := commonTellsRow.holds Try.pinned (OpenSpec.ofChange commonTellsSpec)

/-- ITS FALSE NEIGHBOUR: 'it returns false'. Refute it at one input. -/
def commonTellsWrong : ChangeSpec := { name := "commonTells", fn := fun _ => fun
  | [d1, d2] => { results := [.lit (.bool false)], args := [d1, d2] }
  | _ => none }
def CommonTellsWrongFalsely : Prop := commonTellsRow.holds Try.pinned (OpenSpec.ofChange commonTellsWrong)

/-- 'retrospectlaw06.CommonAll': WHATEVER THE INPUT: true; the input reads as it did. -/
def commonAllSpec : ChangeSpec := { name := "commonAll", fn := fun _ => fun
  | [d] => { results := [.lit (.bool true)], args := [d] }
  | _ => none }
def commonAllRow : OpenClaim := { program := "ytkpnhohaolfmgaa", sum := "760ed6e83d368077ef3ecc5577e2544ee166552601ab1e4473eb491bc975609a", func := "retrospect/retrospectlaw06.CommonAll", spec := "commonAll", apart := false }
def CommonAllSaid : Prop := commonAllRow.holds Try.pinned (OpenSpec.ofChange commonAllSpec)

/-- ITS FALSE NEIGHBOUR: 'it returns false'. Refute it at one input. -/
def commonAllWrong : ChangeSpec := { name := "commonAll", fn := fun _ => fun
  | [d] => { results := [.lit (.bool false)], args := [d] }
  | _ => none }
def CommonAllWrongFalsely : Prop := commonAllRow.holds Try.pinned (OpenSpec.ofChange commonAllWrong)

/-- 'retrospectlaw06.CommonDivides': WHATEVER THE INPUT: true; the input reads as it did. -/
def commonDividesSpec : ChangeSpec := { name := "commonDivides", fn := fun _ => fun
  | [d1, d2, d3] => { results := [.lit (.bool true)], args := [d1, d2, d3] }
  | _ => none }
def commonDividesRow : OpenClaim := { program := "ytkpnhohaolfmgaa", sum := "760ed6e83d368077ef3ecc5577e2544ee166552601ab1e4473eb491bc975609a", func := "retrospect/retrospectlaw06.CommonDivides", spec := "commonDivides", apart := false }
def CommonDividesSaid : Prop := commonDividesRow.holds Try.pinned (OpenSpec.ofChange commonDividesSpec)

/-- ITS FALSE NEIGHBOUR: 'it returns false'. Refute it at one input. -/
def commonDividesWrong : ChangeSpec := { name := "commonDivides", fn := fun _ => fun
  | [d1, d2, d3] => { results := [.lit (.bool false)], args := [d1, d2, d3] }
  | _ => none }
def CommonDividesWrongFalsely : Prop := commonDividesRow.holds Try.pinned (OpenSpec.ofChange commonDividesWrong)

/-- 'retrospectlaw06.CommonBoth': WHATEVER THE INPUT: true; the input reads as it did. -/
def commonBothSpec : ChangeSpec := { name := "commonBoth", fn := fun _ => fun
  | [d1, d2] => { results := [.lit (.bool true)], args := [d1, d2] }
  | _ => none }
def commonBothRow : OpenClaim := { program := "ytkpnhohaolfmgaa", sum := "760ed6e83d368077ef3ecc5577e2544ee166552601ab1e4473eb491bc975609a", func := "retrospect/retrospectlaw06.CommonBoth", spec := "commonBoth", apart := false }
def CommonBothSaid : Prop := commonBothRow.holds Try.pinned (OpenSpec.ofChange commonBothSpec)

/-- ITS FALSE NEIGHBOUR: 'it returns false'. Refute it at one input. -/
def commonBothWrong : ChangeSpec := { name := "commonBoth", fn := fun _ => fun
  | [d1, d2] => { results := [.lit (.bool false)], args := [d1, d2] }
  | _ => none }
def CommonBothWrongFalsely : Prop := commonBothRow.holds Try.pinned (OpenSpec.ofChange commonBothWrong)

/- THE SECOND FORM. 'bulk': how many values and letters a reading holds, each counted each time it is reached (what is shared counts as often as it is met; a slice's spare places count too). A statement '..UptoSaid' is the law's where the arguments, and the package variables that the reading takes, are together of bulk at most 1048576: NARROWER than '..Said'. Prove '..Said' where nothing that the law and all that it calls make is longer than what came in: it says more and counts as full. Else prove '..UptoSaid'. A law counts once. -/
mutual
def uptoBulk {H : Type} : DataW H → Nat
  | .lit (.string bytes) => bytes.length + 1
  | .lit _ => 1
  | .nil => 1
  | .ptr d => uptoBulk d + 1
  | .slice elems spare => uptoBulkAll elems + uptoBulkAll spare + 1
  | .agg parts => uptoBulkAll parts + 1
  | .iface _ d => uptoBulk d + 1
  | .map entries => uptoBulkEntries entries + 1
  | .held _ => 1
def uptoBulkAll {H : Type} : List (DataW H) → Nat
  | [] => 0
  | d :: r => uptoBulk d + uptoBulkAll r
def uptoBulkEntries {H : Type} : List (Lit × DataW H) → Nat
  | [] => 0
  | x :: r => uptoBulkEntry x + uptoBulkEntries r
def uptoBulkEntry {H : Type} : Lit × DataW H → Nat
  | (.string bytes, d) => bytes.length + uptoBulk d + 1
  | (_, d) => uptoBulk d + 1
 end
def uptoSmall : (H : Type) → List (DataW H) → Bool := fun _ ds => decide (uptoBulkAll ds ≤ 1048576)
def OpenSpec.upto (s : _root_.Go.ChangeSpec) : _root_.Go.OpenSpec := { _root_.Go.OpenSpec.ofChange s with cond := some uptoSmall }

/-- 'retrospectlaw06.CommonTells', WHERE WHAT IT READS IS OF BULK AT MOST 1048576: true; the input reads as it did. -/
def commonTellsUptoRow : OpenClaim := { program := "ytkpnhohaolfmgaa", sum := "760ed6e83d368077ef3ecc5577e2544ee166552601ab1e4473eb491bc975609a", func := "retrospect/retrospectlaw06.CommonTells", spec := "commonTells", apart := false, narrowed := true }
def CommonTellsUptoSaid : Prop := commonTellsUptoRow.holds Try.pinned (OpenSpec.upto commonTellsSpec)

/-- 'retrospectlaw06.CommonAll', WHERE WHAT IT READS IS OF BULK AT MOST 1048576: true; the input reads as it did. -/
def commonAllUptoRow : OpenClaim := { program := "ytkpnhohaolfmgaa", sum := "760ed6e83d368077ef3ecc5577e2544ee166552601ab1e4473eb491bc975609a", func := "retrospect/retrospectlaw06.CommonAll", spec := "commonAll", apart := false, narrowed := true }
def CommonAllUptoSaid : Prop := commonAllUptoRow.holds Try.pinned (OpenSpec.upto commonAllSpec)

/-- 'retrospectlaw06.CommonDivides', WHERE WHAT IT READS IS OF BULK AT MOST 1048576: true; the input reads as it did. -/
def commonDividesUptoRow : OpenClaim := { program := "ytkpnhohaolfmgaa", sum := "760ed6e83d368077ef3ecc5577e2544ee166552601ab1e4473eb491bc975609a", func := "retrospect/retrospectlaw06.CommonDivides", spec := "commonDivides", apart := false, narrowed := true }
def CommonDividesUptoSaid : Prop := commonDividesUptoRow.holds Try.pinned (OpenSpec.upto commonDividesSpec)

/-- 'retrospectlaw06.CommonBoth', WHERE WHAT IT READS IS OF BULK AT MOST 1048576: true; the input reads as it did. -/
def commonBothUptoRow : OpenClaim := { program := "ytkpnhohaolfmgaa", sum := "760ed6e83d368077ef3ecc5577e2544ee166552601ab1e4473eb491bc975609a", func := "retrospect/retrospectlaw06.CommonBoth", spec := "commonBoth", apart := false, narrowed := true }
def CommonBothUptoSaid : Prop := commonBothUptoRow.holds Try.pinned (OpenSpec.upto commonBothSpec)

end Rows
end Go.Proofs.Ytkpnhohaolfmgaa
