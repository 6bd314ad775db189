/-
  DERIVED. GIVEN WITH THE SEED: THE CARDS: each row of YtfjkolnaihejcaaDoorRows.lean that lists a variable, with what it lists TIED to the program's text (the seventh form; the later family's looks); each row that meets fmt, with fmt's text TOLD by the authors' own Lean function (tested against real Go, not proved from fmt's source: count such statements apart). THE CARD IS WHAT COUNTS. Prove the row's statement (the work); the ties are given (YtfjkolnaihejcaaDoorTie.lean); close each card by the builder's one call (the guide's Derived/Test/ToyasCard.lean, 'card_holds'). Laid BY PROGRAM, IN A SANDBOX (cutbox-door.mjs). By AI agents, Wed Nov 11 2026. No macro, syntax, notation, axiom, sorry.
-/
import Derived.Test.YtfjkolnaihejcaaDoorRows
import GoSem.ClaimSeven
namespace Go.Proofs.YtfjkolnaihejcaaDoor
namespace Rows

/-- THE TIED CARD OF 'retrospectlaw03.TwosTells'. -/
def twosTellsCard : Claim7 := { stood := { row := twosTellsRow, standIns := [], harness := (true, "489281493144746eb1b572629f24e08505cbfd560849b51af10492c9343aa76f"), looks := false }, kinds := [], alts := [], laidByText := true, laidKinds := [.data], laidTests := true, laidLooks := .later }
def TwosTellsCardSaid : Prop := Claim7.holds Tryd.pinned (.plain (OpenSpec.ofChange twosTellsSpec)) twosTellsCard

/-- THE TIED CARD OF 'retrospectlaw03.TwosShifts'. -/
def twosShiftsCard : Claim7 := { stood := { row := twosShiftsRow, standIns := [], harness := (true, "489281493144746eb1b572629f24e08505cbfd560849b51af10492c9343aa76f"), looks := false }, kinds := [], alts := [], laidByText := true, laidKinds := [.data], laidTests := true, laidLooks := .later }
def TwosShiftsCardSaid : Prop := Claim7.holds Tryd.pinned (.plain (OpenSpec.ofChange twosShiftsSpec)) twosShiftsCard

/-- THE TIED CARD OF 'retrospectlaw03.TwosBack'. -/
def twosBackCard : Claim7 := { stood := { row := twosBackRow, standIns := [], harness := (true, "489281493144746eb1b572629f24e08505cbfd560849b51af10492c9343aa76f"), looks := false }, kinds := [], alts := [], laidByText := true, laidKinds := [.data], laidTests := true, laidLooks := .later }
def TwosBackCardSaid : Prop := Claim7.holds Tryd.pinned (.plain (OpenSpec.ofChange twosBackSpec)) twosBackCard

/-- THE SECOND FORM's CARD OF 'retrospectlaw03.TwosTells'. -/
def twosTellsUptoCard : Claim7 := { stood := { row := twosTellsUptoRow, standIns := [], harness := (true, "489281493144746eb1b572629f24e08505cbfd560849b51af10492c9343aa76f"), looks := false }, kinds := [], alts := [], laidByText := true, laidKinds := [.data], laidTests := true, laidLooks := .later }
def TwosTellsUptoCardSaid : Prop := Claim7.holds Tryd.pinned (.plain (OpenSpec.upto twosTellsSpec)) twosTellsUptoCard

/-- THE SECOND FORM's CARD OF 'retrospectlaw03.TwosShifts'. -/
def twosShiftsUptoCard : Claim7 := { stood := { row := twosShiftsUptoRow, standIns := [], harness := (true, "489281493144746eb1b572629f24e08505cbfd560849b51af10492c9343aa76f"), looks := false }, kinds := [], alts := [], laidByText := true, laidKinds := [.data], laidTests := true, laidLooks := .later }
def TwosShiftsUptoCardSaid : Prop := Claim7.holds Tryd.pinned (.plain (OpenSpec.upto twosShiftsSpec)) twosShiftsUptoCard

/-- THE SECOND FORM's CARD OF 'retrospectlaw03.TwosBack'. -/
def twosBackUptoCard : Claim7 := { stood := { row := twosBackUptoRow, standIns := [], harness := (true, "489281493144746eb1b572629f24e08505cbfd560849b51af10492c9343aa76f"), looks := false }, kinds := [], alts := [], laidByText := true, laidKinds := [.data], laidTests := true, laidLooks := .later }
def TwosBackUptoCardSaid : Prop := Claim7.holds Tryd.pinned (.plain (OpenSpec.upto twosBackSpec)) twosBackUptoCard
end Rows
end Go.Proofs.YtfjkolnaihejcaaDoor
