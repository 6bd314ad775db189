/-
  No cell of these rows narrows 'for every input' (looked for: loops, veiled, ifaces, maps, wideKeys, modest, calm, conditions, laid).
  DERIVED. THE GIVEN ROWS OF THIS SEAT. 4 by the template 'for every input the law returns true; each argument reads behind the call as it read before'; 0 by the template 'total and deterministic' (their statements: YtocebjbjnfammaaGreatTotals.lean).
  GIVEN WITH THE SEED: the statements are not yours to turn. If you find one false, say at which input.
  Laid BY PROGRAM, IN A SANDBOX (cutbox-rows.mjs): the forced cells as the released guide's own fill.sh prints them over the translation 7869a597216df424… (all of the seat's roots in one cut). By AI agents, Wed Nov 11 2026. No macro, syntax, notation, axiom, sorry.
-/
import Derived.Test.YtocebjbjnfammaaGreatChecked
import GoSem.Claim
import GoSem.ClaimJoined
import GoSem.ClaimMapViews
import Derived.JoinedTies
import Derived.KernelRfl
namespace Go.Proofs.YtocebjbjnfammaaGreat
/- THE CELL 'sum', in the pinned program and in every row, IS THE sha256 OF THE DUMP (.gsa) THAT YtocebjbjnfammaaGreatProg.lean LOADS. Nothing in Lean hashes anything: it is a label: what it is worth is what the hold of that sum in a sandbox is worth. -/
noncomputable def Tryz.pinned : Pinned := { name := "ytocebjbjnfammaagreat", sum := "7869a597216df42439b89fe6ccbb084d0705f5d75d7a3db32a7a49a380e6912c", checked := Tryz.checked }
namespace Rows
def none {H : Type} : Left H := { results := [], args := [] }

/-- 'retrospectlaw15.RatfTells': WHATEVER THE INPUT: true; the input reads as it did. -/
def ratfTellsSpec : ChangeSpec := { name := "ratfTells", fn := fun _ => fun
  | [d1, d2, d3] => { results := [.lit (.bool true)], args := [d1, d2, d3] }
  | _ => none }
def ratfTellsRow : OpenClaim := { program := "ytocebjbjnfammaagreat", sum := "7869a597216df42439b89fe6ccbb084d0705f5d75d7a3db32a7a49a380e6912c", func := "retrospect/retrospectlaw15.RatfTells", spec := "ratfTells", unfollowed := true, recurses := true, apart := false }
def RatfTellsSaid : Prop := ratfTellsRow.holds Tryz.pinned (OpenSpec.ofChange ratfTellsSpec)

/-- ITS FALSE NEIGHBOUR: 'it returns false'. Refute it at one input. -/
def ratfTellsWrong : ChangeSpec := { name := "ratfTells", fn := fun _ => fun
  | [d1, d2, d3] => { results := [.lit (.bool false)], args := [d1, d2, d3] }
  | _ => none }
def RatfTellsWrongFalsely : Prop := ratfTellsRow.holds Tryz.pinned (OpenSpec.ofChange ratfTellsWrong)

/-- 'retrospectlaw15.RatfSums': WHATEVER THE INPUT: true; the input reads as it did. -/
def ratfSumsSpec : ChangeSpec := { name := "ratfSums", fn := fun _ => fun
  | [d1, d2, d3] => { results := [.lit (.bool true)], args := [d1, d2, d3] }
  | _ => none }
def ratfSumsRow : OpenClaim := { program := "ytocebjbjnfammaagreat", sum := "7869a597216df42439b89fe6ccbb084d0705f5d75d7a3db32a7a49a380e6912c", func := "retrospect/retrospectlaw15.RatfSums", spec := "ratfSums", unfollowed := true, recurses := true, apart := false }
def RatfSumsSaid : Prop := ratfSumsRow.holds Tryz.pinned (OpenSpec.ofChange ratfSumsSpec)

/-- ITS FALSE NEIGHBOUR: 'it returns false'. Refute it at one input. -/
def ratfSumsWrong : ChangeSpec := { name := "ratfSums", fn := fun _ => fun
  | [d1, d2, d3] => { results := [.lit (.bool false)], args := [d1, d2, d3] }
  | _ => none }
def RatfSumsWrongFalsely : Prop := ratfSumsRow.holds Tryz.pinned (OpenSpec.ofChange ratfSumsWrong)

/-- 'retrospectlaw15.RatfValues': WHATEVER THE INPUT: true; the input reads as it did. -/
def ratfValuesSpec : ChangeSpec := { name := "ratfValues", fn := fun _ => fun
  | [d1, d2, d3] => { results := [.lit (.bool true)], args := [d1, d2, d3] }
  | _ => none }
def ratfValuesRow : OpenClaim := { program := "ytocebjbjnfammaagreat", sum := "7869a597216df42439b89fe6ccbb084d0705f5d75d7a3db32a7a49a380e6912c", func := "retrospect/retrospectlaw15.RatfValues", spec := "ratfValues", unfollowed := true, recurses := true, apart := false }
def RatfValuesSaid : Prop := ratfValuesRow.holds Tryz.pinned (OpenSpec.ofChange ratfValuesSpec)

/-- ITS FALSE NEIGHBOUR: 'it returns false'. Refute it at one input. -/
def ratfValuesWrong : ChangeSpec := { name := "ratfValues", fn := fun _ => fun
  | [d1, d2, d3] => { results := [.lit (.bool false)], args := [d1, d2, d3] }
  | _ => none }
def RatfValuesWrongFalsely : Prop := ratfValuesRow.holds Tryz.pinned (OpenSpec.ofChange ratfValuesWrong)

/-- 'retrospectlaw15.RatfLeibniz': WHATEVER THE INPUT: true; the input reads as it did. -/
def ratfLeibnizSpec : ChangeSpec := { name := "ratfLeibniz", fn := fun _ => fun
  | [d1, d2, d3] => { results := [.lit (.bool true)], args := [d1, d2, d3] }
  | _ => none }
def ratfLeibnizRow : OpenClaim := { program := "ytocebjbjnfammaagreat", sum := "7869a597216df42439b89fe6ccbb084d0705f5d75d7a3db32a7a49a380e6912c", func := "retrospect/retrospectlaw15.RatfLeibniz", spec := "ratfLeibniz", unfollowed := true, recurses := true, apart := false }
def RatfLeibnizSaid : Prop := ratfLeibnizRow.holds Tryz.pinned (OpenSpec.ofChange ratfLeibnizSpec)

/-- ITS FALSE NEIGHBOUR: 'it returns false'. Refute it at one input. -/
def ratfLeibnizWrong : ChangeSpec := { name := "ratfLeibniz", fn := fun _ => fun
  | [d1, d2, d3] => { results := [.lit (.bool false)], args := [d1, d2, d3] }
  | _ => none }
def RatfLeibnizWrongFalsely : Prop := ratfLeibnizRow.holds Tryz.pinned (OpenSpec.ofChange ratfLeibnizWrong)

/- THE SECOND FORM. 'bulk': how many values and letters a reading holds, each counted each time it is reached (what is shared counts as often as it is met; a slice's spare places count too). A statement '..UptoSaid' is the law's where the arguments, and the package variables that the reading takes, are together of bulk at most 1048576: NARROWER than '..Said'. Prove '..Said' where nothing that the law and all that it calls make is longer than what came in: it says more and counts as full. Else prove '..UptoSaid'. A law counts once. -/
mutual
def uptoBulk {H : Type} : DataW H → Nat
  | .lit (.string bytes) => bytes.length + 1
  | .lit _ => 1
  | .nil => 1
  | .ptr d => uptoBulk d + 1
  | .slice elems spare => uptoBulkAll elems + uptoBulkAll spare + 1
  | .agg parts => uptoBulkAll parts + 1
  | .iface _ d => uptoBulk d + 1
  | .map entries => uptoBulkEntries entries + 1
  | .held _ => 1
def uptoBulkAll {H : Type} : List (DataW H) → Nat
  | [] => 0
  | d :: r => uptoBulk d + uptoBulkAll r
def uptoBulkEntries {H : Type} : List (Lit × DataW H) → Nat
  | [] => 0
  | x :: r => uptoBulkEntry x + uptoBulkEntries r
def uptoBulkEntry {H : Type} : Lit × DataW H → Nat
  | (.string bytes, d) => bytes.length + uptoBulk d + 1
  | (_, d) => uptoBulk d + 1
 end
def uptoSmall : (H : Type) → List (DataW H) → Bool := fun _ ds => decide (uptoBulkAll ds ≤ 1048576)
def OpenSpec.upto (s : _root_.Go.ChangeSpec) : _root_.Go.OpenSpec := { _root_.Go.OpenSpec.ofChange s with cond := some uptoSmall }

/-- 'retrospectlaw15.RatfTells', WHERE WHAT IT READS IS OF BULK AT MOST 1048576: true; the input reads as it did. -/
def ratfTellsUptoRow : OpenClaim := { program := "ytocebjbjnfammaagreat", sum := "7869a597216df42439b89fe6ccbb084d0705f5d75d7a3db32a7a49a380e6912c", func := "retrospect/retrospectlaw15.RatfTells", spec := "ratfTells", unfollowed := true, recurses := true, apart := false, narrowed := true }
def RatfTellsUptoSaid : Prop := ratfTellsUptoRow.holds Tryz.pinned (OpenSpec.upto ratfTellsSpec)

/-- 'retrospectlaw15.RatfSums', WHERE WHAT IT READS IS OF BULK AT MOST 1048576: true; the input reads as it did. -/
def ratfSumsUptoRow : OpenClaim := { program := "ytocebjbjnfammaagreat", sum := "7869a597216df42439b89fe6ccbb084d0705f5d75d7a3db32a7a49a380e6912c", func := "retrospect/retrospectlaw15.RatfSums", spec := "ratfSums", unfollowed := true, recurses := true, apart := false, narrowed := true }
def RatfSumsUptoSaid : Prop := ratfSumsUptoRow.holds Tryz.pinned (OpenSpec.upto ratfSumsSpec)

/-- 'retrospectlaw15.RatfValues', WHERE WHAT IT READS IS OF BULK AT MOST 1048576: true; the input reads as it did. -/
def ratfValuesUptoRow : OpenClaim := { program := "ytocebjbjnfammaagreat", sum := "7869a597216df42439b89fe6ccbb084d0705f5d75d7a3db32a7a49a380e6912c", func := "retrospect/retrospectlaw15.RatfValues", spec := "ratfValues", unfollowed := true, recurses := true, apart := false, narrowed := true }
def RatfValuesUptoSaid : Prop := ratfValuesUptoRow.holds Tryz.pinned (OpenSpec.upto ratfValuesSpec)

/-- 'retrospectlaw15.RatfLeibniz', WHERE WHAT IT READS IS OF BULK AT MOST 1048576: true; the input reads as it did. -/
def ratfLeibnizUptoRow : OpenClaim := { program := "ytocebjbjnfammaagreat", sum := "7869a597216df42439b89fe6ccbb084d0705f5d75d7a3db32a7a49a380e6912c", func := "retrospect/retrospectlaw15.RatfLeibniz", spec := "ratfLeibniz", unfollowed := true, recurses := true, apart := false, narrowed := true }
def RatfLeibnizUptoSaid : Prop := ratfLeibnizUptoRow.holds Tryz.pinned (OpenSpec.upto ratfLeibnizSpec)

end Rows
end Go.Proofs.YtocebjbjnfammaaGreat
