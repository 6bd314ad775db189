/-
  DERIVED. GIVEN WITH THE SEED: THE CARDS: each row of YteoeicfbaffjcaaGreatDoorRows.lean that lists a variable, with what it lists TIED to the program's text (the seventh form; the later family's looks); each row that meets fmt, with fmt's text TOLD by the authors' own Lean function (tested against real Go, not proved from fmt's source: count such statements apart). THE CARD IS WHAT COUNTS. Prove the row's statement (the work); the ties are given (YteoeicfbaffjcaaGreatDoorTie.lean); close each card by the builder's one call (the guide's Derived/Test/ToyasCard.lean, 'card_holds'). Laid BY PROGRAM, IN A SANDBOX (cutbox-door.mjs). By AI agents, Wed Nov 11 2026. No macro, syntax, notation, axiom, sorry.
-/
import Derived.Test.YteoeicfbaffjcaaGreatDoorRows
import GoSem.ClaimSeven
namespace Go.Proofs.YteoeicfbaffjcaaGreatDoor
namespace Rows

/-- THE TIED CARD OF 'retrospectlaw10.FigureWrites'. -/
def figureWritesCard : Claim7 := { stood := { row := figureWritesRow, standIns := [], harness := (true, "1dcef128243b6da69bfaa2d0d830cdc2daa4ffbee12841385b106549c0f1f7cf"), looks := false }, kinds := [], alts := [], laidByText := true, laidKinds := [.data, .data, .data], laidTests := true, laidLooks := .later }
def FigureWritesCardSaid : Prop := Claim7.holds Tryz.pinned (.plain (OpenSpec.ofChange figureWritesSpec)) figureWritesCard

/-- THE TIED CARD OF 'retrospectlaw10.FigureReads'. -/
def figureReadsCard : Claim7 := { stood := { row := figureReadsRow, standIns := [], harness := (true, "1dcef128243b6da69bfaa2d0d830cdc2daa4ffbee12841385b106549c0f1f7cf"), looks := false }, kinds := [], alts := [], laidByText := true, laidKinds := [.data, .data, .data], laidTests := true, laidLooks := .later }
def FigureReadsCardSaid : Prop := Claim7.holds Tryz.pinned (.plain (OpenSpec.ofChange figureReadsSpec)) figureReadsCard

/-- THE TIED CARD OF 'retrospectlaw10.FigureBack'. -/
def figureBackCard : Claim7 := { stood := { row := figureBackRow, standIns := [], harness := (true, "1dcef128243b6da69bfaa2d0d830cdc2daa4ffbee12841385b106549c0f1f7cf"), looks := false }, kinds := [], alts := [], laidByText := true, laidKinds := [.data, .data, .data], laidTests := true, laidLooks := .later }
def FigureBackCardSaid : Prop := Claim7.holds Tryz.pinned (.plain (OpenSpec.ofChange figureBackSpec)) figureBackCard

/-- THE TIED CARD OF 'retrospectlaw10.FigureNear'. -/
def figureNearCard : Claim7 := { stood := { row := figureNearRow, standIns := [], harness := (true, "1dcef128243b6da69bfaa2d0d830cdc2daa4ffbee12841385b106549c0f1f7cf"), looks := false }, kinds := [], alts := [], laidByText := true, laidKinds := [.data, .data, .data], laidTests := true, laidLooks := .later }
def FigureNearCardSaid : Prop := Claim7.holds Tryz.pinned (.plain (OpenSpec.ofChange figureNearSpec)) figureNearCard

/-- THE SECOND FORM's CARD OF 'retrospectlaw10.FigureWrites'. -/
def figureWritesUptoCard : Claim7 := { stood := { row := figureWritesUptoRow, standIns := [], harness := (true, "1dcef128243b6da69bfaa2d0d830cdc2daa4ffbee12841385b106549c0f1f7cf"), looks := false }, kinds := [], alts := [], laidByText := true, laidKinds := [.data, .data, .data], laidTests := true, laidLooks := .later }
def FigureWritesUptoCardSaid : Prop := Claim7.holds Tryz.pinned (.plain (OpenSpec.upto figureWritesSpec)) figureWritesUptoCard

/-- THE SECOND FORM's CARD OF 'retrospectlaw10.FigureReads'. -/
def figureReadsUptoCard : Claim7 := { stood := { row := figureReadsUptoRow, standIns := [], harness := (true, "1dcef128243b6da69bfaa2d0d830cdc2daa4ffbee12841385b106549c0f1f7cf"), looks := false }, kinds := [], alts := [], laidByText := true, laidKinds := [.data, .data, .data], laidTests := true, laidLooks := .later }
def FigureReadsUptoCardSaid : Prop := Claim7.holds Tryz.pinned (.plain (OpenSpec.upto figureReadsSpec)) figureReadsUptoCard

/-- THE SECOND FORM's CARD OF 'retrospectlaw10.FigureBack'. -/
def figureBackUptoCard : Claim7 := { stood := { row := figureBackUptoRow, standIns := [], harness := (true, "1dcef128243b6da69bfaa2d0d830cdc2daa4ffbee12841385b106549c0f1f7cf"), looks := false }, kinds := [], alts := [], laidByText := true, laidKinds := [.data, .data, .data], laidTests := true, laidLooks := .later }
def FigureBackUptoCardSaid : Prop := Claim7.holds Tryz.pinned (.plain (OpenSpec.upto figureBackSpec)) figureBackUptoCard

/-- THE SECOND FORM's CARD OF 'retrospectlaw10.FigureNear'. -/
def figureNearUptoCard : Claim7 := { stood := { row := figureNearUptoRow, standIns := [], harness := (true, "1dcef128243b6da69bfaa2d0d830cdc2daa4ffbee12841385b106549c0f1f7cf"), looks := false }, kinds := [], alts := [], laidByText := true, laidKinds := [.data, .data, .data], laidTests := true, laidLooks := .later }
def FigureNearUptoCardSaid : Prop := Claim7.holds Tryz.pinned (.plain (OpenSpec.upto figureNearSpec)) figureNearUptoCard
end Rows
end Go.Proofs.YteoeicfbaffjcaaGreatDoor
