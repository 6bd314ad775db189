/-
  NARROWER THAN 'FOR EVERY INPUT', by the rows' own cells (each row's printed sentence says how): TwosTells: laid · TwosShifts: laid · TwosBack: laid.
  DERIVED. THE GIVEN ROWS OF THIS SEAT. 3 by the template 'for every input the law returns true; each argument reads behind the call as it read before'; 0 by the template 'total and deterministic' (their statements: YtfjkolnaihejcaaDoorTotals.lean).
  GIVEN WITH THE SEED: the statements are not yours to turn. If you find one false, say at which input.
  Laid BY PROGRAM, IN A SANDBOX (cutbox-rows.mjs): the forced cells as the released guide's own fill.sh prints them over the translation e9a581390d408211… (all of the seat's roots in one cut). By AI agents, Wed Nov 11 2026. No macro, syntax, notation, axiom, sorry.
-/
import Derived.Test.YtfjkolnaihejcaaDoorChecked
import GoSem.Claim
import GoSem.ClaimJoined
import GoSem.ClaimMapViews
import Derived.JoinedTies
import Derived.KernelRfl
namespace Go.Proofs.YtfjkolnaihejcaaDoor
/- THE CELL 'sum', in the pinned program and in every row, IS THE sha256 OF THE DUMP (.gsa) THAT YtfjkolnaihejcaaDoorProg.lean LOADS. Nothing in Lean hashes anything: it is a label: what it is worth is what the hold of that sum in a sandbox is worth. -/
noncomputable def Tryd.pinned : Pinned := { name := "ytfjkolnaihejcaadoor", sum := "e9a581390d408211789ad2464c164a87f86ad502c5ada59116c6cf1661a9729c", checked := Tryd.checked }
namespace Rows
def none {H : Type} : Left H := { results := [], args := [] }

/- WHAT THE LISTED PACKAGE-LEVEL VARIABLES READ AS WHEN THE CALL BEGINS. Each datum BY PROGRAM (the guide's laid-datum.mjs) off the statement by which the dump's own 'gosem.cut.vars' lays the variable. In a bare row this is a premise. The card (YtfjkolnaihejcaaDoorCards.lean) ties it to the program's text. -/
def laid_math_bits_deBruijn32tab {H : Type} : DataW H := .agg [.lit (.int .u8 0), .lit (.int .u8 1), .lit (.int .u8 28), .lit (.int .u8 2), .lit (.int .u8 29), .lit (.int .u8 14), .lit (.int .u8 24), .lit (.int .u8 3), .lit (.int .u8 30), .lit (.int .u8 22), .lit (.int .u8 20), .lit (.int .u8 15), .lit (.int .u8 25), .lit (.int .u8 17), .lit (.int .u8 4), .lit (.int .u8 8), .lit (.int .u8 31), .lit (.int .u8 27), .lit (.int .u8 13), .lit (.int .u8 23), .lit (.int .u8 21), .lit (.int .u8 19), .lit (.int .u8 16), .lit (.int .u8 7), .lit (.int .u8 26), .lit (.int .u8 12), .lit (.int .u8 18), .lit (.int .u8 6), .lit (.int .u8 11), .lit (.int .u8 5), .lit (.int .u8 10), .lit (.int .u8 9)]

/-- 'retrospectlaw03.TwosTells': WHATEVER THE INPUT: true; the input reads as it did. -/
def twosTellsSpec : ChangeSpec := { name := "twosTells", fn := fun _ => fun
  | [d1, d2] => { results := [.lit (.bool true)], args := [d1, d2] }
  | _ => none }
def twosTellsRow : OpenClaim := { program := "ytfjkolnaihejcaadoor", sum := "e9a581390d408211789ad2464c164a87f86ad502c5ada59116c6cf1661a9729c", func := "retrospect/retrospectlaw03.TwosTells", spec := "twosTells", named := ["math/bits.deBruijn32tab"], apart := false, laid := [("math/bits.deBruijn32tab", laid_math_bits_deBruijn32tab)] }
def TwosTellsSaid : Prop := twosTellsRow.holds Tryd.pinned (OpenSpec.ofChange twosTellsSpec)

/-- ITS FALSE NEIGHBOUR: 'it returns false'. Refute it at one input. -/
def twosTellsWrong : ChangeSpec := { name := "twosTells", fn := fun _ => fun
  | [d1, d2] => { results := [.lit (.bool false)], args := [d1, d2] }
  | _ => none }
def TwosTellsWrongFalsely : Prop := twosTellsRow.holds Tryd.pinned (OpenSpec.ofChange twosTellsWrong)

/-- 'retrospectlaw03.TwosShifts': WHATEVER THE INPUT: true; the input reads as it did. -/
def twosShiftsSpec : ChangeSpec := { name := "twosShifts", fn := fun _ => fun
  | [d1, d2] => { results := [.lit (.bool true)], args := [d1, d2] }
  | _ => none }
def twosShiftsRow : OpenClaim := { program := "ytfjkolnaihejcaadoor", sum := "e9a581390d408211789ad2464c164a87f86ad502c5ada59116c6cf1661a9729c", func := "retrospect/retrospectlaw03.TwosShifts", spec := "twosShifts", named := ["math/bits.deBruijn32tab"], apart := false, laid := [("math/bits.deBruijn32tab", laid_math_bits_deBruijn32tab)] }
def TwosShiftsSaid : Prop := twosShiftsRow.holds Tryd.pinned (OpenSpec.ofChange twosShiftsSpec)

/-- ITS FALSE NEIGHBOUR: 'it returns false'. Refute it at one input. -/
def twosShiftsWrong : ChangeSpec := { name := "twosShifts", fn := fun _ => fun
  | [d1, d2] => { results := [.lit (.bool false)], args := [d1, d2] }
  | _ => none }
def TwosShiftsWrongFalsely : Prop := twosShiftsRow.holds Tryd.pinned (OpenSpec.ofChange twosShiftsWrong)

/-- 'retrospectlaw03.TwosBack': WHATEVER THE INPUT: true; the input reads as it did. -/
def twosBackSpec : ChangeSpec := { name := "twosBack", fn := fun _ => fun
  | [d1, d2] => { results := [.lit (.bool true)], args := [d1, d2] }
  | _ => none }
def twosBackRow : OpenClaim := { program := "ytfjkolnaihejcaadoor", sum := "e9a581390d408211789ad2464c164a87f86ad502c5ada59116c6cf1661a9729c", func := "retrospect/retrospectlaw03.TwosBack", spec := "twosBack", named := ["math/bits.deBruijn32tab"], apart := false, laid := [("math/bits.deBruijn32tab", laid_math_bits_deBruijn32tab)] }
def TwosBackSaid : Prop := twosBackRow.holds Tryd.pinned (OpenSpec.ofChange twosBackSpec)

/-- ITS FALSE NEIGHBOUR: 'it returns false'. Refute it at one input. -/
def twosBackWrong : ChangeSpec := { name := "twosBack", fn := fun _ => fun
  | [d1, d2] => { results := [.lit (.bool false)], args := [d1, d2] }
  | _ => none }
def TwosBackWrongFalsely : Prop := twosBackRow.holds Tryd.pinned (OpenSpec.ofChange twosBackWrong)

/- THE SECOND FORM. 'bulk': how many values and letters a reading holds, each counted each time it is reached (what is shared counts as often as it is met; a slice's spare places count too). A statement '..UptoSaid' is the law's where the arguments, and the package variables that the reading takes, are together of bulk at most 1048576: NARROWER than '..Said'. Prove '..Said' where nothing that the law and all that it calls make is longer than what came in: it says more and counts as full. Else prove '..UptoSaid'. A law counts once. -/
mutual
def uptoBulk {H : Type} : DataW H → Nat
  | .lit (.string bytes) => bytes.length + 1
  | .lit _ => 1
  | .nil => 1
  | .ptr d => uptoBulk d + 1
  | .slice elems spare => uptoBulkAll elems + uptoBulkAll spare + 1
  | .agg parts => uptoBulkAll parts + 1
  | .iface _ d => uptoBulk d + 1
  | .map entries => uptoBulkEntries entries + 1
  | .held _ => 1
def uptoBulkAll {H : Type} : List (DataW H) → Nat
  | [] => 0
  | d :: r => uptoBulk d + uptoBulkAll r
def uptoBulkEntries {H : Type} : List (Lit × DataW H) → Nat
  | [] => 0
  | x :: r => uptoBulkEntry x + uptoBulkEntries r
def uptoBulkEntry {H : Type} : Lit × DataW H → Nat
  | (.string bytes, d) => bytes.length + uptoBulk d + 1
  | (_, d) => uptoBulk d + 1
 end
def uptoSmall : (H : Type) → List (DataW H) → Bool := fun _ ds => decide (uptoBulkAll ds ≤ 1048576)
def OpenSpec.upto (s : _root_.Go.ChangeSpec) : _root_.Go.OpenSpec := { _root_.Go.OpenSpec.ofChange s with cond := some uptoSmall }

/-- 'retrospectlaw03.TwosTells', WHERE WHAT IT READS IS OF BULK AT MOST 1048576: true; the input reads as it did. -/
def twosTellsUptoRow : OpenClaim := { program := "ytfjkolnaihejcaadoor", sum := "e9a581390d408211789ad2464c164a87f86ad502c5ada59116c6cf1661a9729c", func := "retrospect/retrospectlaw03.TwosTells", spec := "twosTells", named := ["math/bits.deBruijn32tab"], apart := false, laid := [("math/bits.deBruijn32tab", laid_math_bits_deBruijn32tab)], narrowed := true }
def TwosTellsUptoSaid : Prop := twosTellsUptoRow.holds Tryd.pinned (OpenSpec.upto twosTellsSpec)

/-- 'retrospectlaw03.TwosShifts', WHERE WHAT IT READS IS OF BULK AT MOST 1048576: true; the input reads as it did. -/
def twosShiftsUptoRow : OpenClaim := { program := "ytfjkolnaihejcaadoor", sum := "e9a581390d408211789ad2464c164a87f86ad502c5ada59116c6cf1661a9729c", func := "retrospect/retrospectlaw03.TwosShifts", spec := "twosShifts", named := ["math/bits.deBruijn32tab"], apart := false, laid := [("math/bits.deBruijn32tab", laid_math_bits_deBruijn32tab)], narrowed := true }
def TwosShiftsUptoSaid : Prop := twosShiftsUptoRow.holds Tryd.pinned (OpenSpec.upto twosShiftsSpec)

/-- 'retrospectlaw03.TwosBack', WHERE WHAT IT READS IS OF BULK AT MOST 1048576: true; the input reads as it did. -/
def twosBackUptoRow : OpenClaim := { program := "ytfjkolnaihejcaadoor", sum := "e9a581390d408211789ad2464c164a87f86ad502c5ada59116c6cf1661a9729c", func := "retrospect/retrospectlaw03.TwosBack", spec := "twosBack", named := ["math/bits.deBruijn32tab"], apart := false, laid := [("math/bits.deBruijn32tab", laid_math_bits_deBruijn32tab)], narrowed := true }
def TwosBackUptoSaid : Prop := twosBackUptoRow.holds Tryd.pinned (OpenSpec.upto twosBackSpec)

end Rows
end Go.Proofs.YtfjkolnaihejcaaDoor
