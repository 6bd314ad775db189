/-
  DERIVED. GIVEN WITH THE SEED: THE CARDS: each row of YtpjkhbfglgmnmaaGreatDoorRows.lean that lists a variable, with what it lists TIED to the program's text (the seventh form; the later family's looks); each row that meets fmt, with fmt's text TOLD by the authors' own Lean function (tested against real Go, not proved from fmt's source: count such statements apart). THE CARD IS WHAT COUNTS. Prove the row's statement (the work); the ties are given (YtpjkhbfglgmnmaaGreatDoorTie.lean); close each card by the builder's one call (the guide's Derived/Test/ToyasCard.lean, 'card_holds'). Laid BY PROGRAM, IN A SANDBOX (cutbox-door.mjs). By AI agents, Wed Nov 11 2026. No macro, syntax, notation, axiom, sorry.
-/
import Derived.Test.YtpjkhbfglgmnmaaGreatDoorRows
import GoSem.ClaimSeven
namespace Go.Proofs.YtpjkhbfglgmnmaaGreatDoor
namespace Rows

/-- THE TIED CARD OF 'retrospectlaw12.GridTells'. -/
def gridTellsCard : Claim7 := { stood := { row := gridTellsRow, standIns := [], harness := (true, "4a0d7cb65aea0dfae65bbb4f043cca548a872709f17cb8c992f790a3fadf095f"), looks := false }, kinds := [], alts := [], laidByText := true, laidKinds := [.data, .data, .data], laidTests := true, laidLooks := .later }
def GridTellsCardSaid : Prop := Claim7.holds Tryz.pinned (.plain (OpenSpec.ofChange gridTellsSpec)) gridTellsCard

/-- THE TIED CARD OF 'retrospectlaw12.GridRows'. -/
def gridRowsCard : Claim7 := { stood := { row := gridRowsRow, standIns := [], harness := (true, "4a0d7cb65aea0dfae65bbb4f043cca548a872709f17cb8c992f790a3fadf095f"), looks := false }, kinds := [], alts := [], laidByText := true, laidKinds := [.data, .data, .data], laidTests := true, laidLooks := .later }
def GridRowsCardSaid : Prop := Claim7.holds Tryz.pinned (.plain (OpenSpec.ofChange gridRowsSpec)) gridRowsCard

/-- THE TIED CARD OF 'retrospectlaw12.GridProducts'. -/
def gridProductsCard : Claim7 := { stood := { row := gridProductsRow, standIns := [], harness := (true, "4a0d7cb65aea0dfae65bbb4f043cca548a872709f17cb8c992f790a3fadf095f"), looks := false }, kinds := [], alts := [], laidByText := true, laidKinds := [.data, .data, .data], laidTests := true, laidLooks := .later }
def GridProductsCardSaid : Prop := Claim7.holds Tryz.pinned (.plain (OpenSpec.ofChange gridProductsSpec)) gridProductsCard

/-- THE TIED CARD OF 'retrospectlaw12.GridOrder'. -/
def gridOrderCard : Claim7 := { stood := { row := gridOrderRow, standIns := [], harness := (true, "4a0d7cb65aea0dfae65bbb4f043cca548a872709f17cb8c992f790a3fadf095f"), looks := false }, kinds := [], alts := [], laidByText := true, laidKinds := [.data, .data, .data], laidTests := true, laidLooks := .later }
def GridOrderCardSaid : Prop := Claim7.holds Tryz.pinned (.plain (OpenSpec.ofChange gridOrderSpec)) gridOrderCard

/-- THE SECOND FORM's CARD OF 'retrospectlaw12.GridTells'. -/
def gridTellsUptoCard : Claim7 := { stood := { row := gridTellsUptoRow, standIns := [], harness := (true, "4a0d7cb65aea0dfae65bbb4f043cca548a872709f17cb8c992f790a3fadf095f"), looks := false }, kinds := [], alts := [], laidByText := true, laidKinds := [.data, .data, .data], laidTests := true, laidLooks := .later }
def GridTellsUptoCardSaid : Prop := Claim7.holds Tryz.pinned (.plain (OpenSpec.upto gridTellsSpec)) gridTellsUptoCard

/-- THE SECOND FORM's CARD OF 'retrospectlaw12.GridRows'. -/
def gridRowsUptoCard : Claim7 := { stood := { row := gridRowsUptoRow, standIns := [], harness := (true, "4a0d7cb65aea0dfae65bbb4f043cca548a872709f17cb8c992f790a3fadf095f"), looks := false }, kinds := [], alts := [], laidByText := true, laidKinds := [.data, .data, .data], laidTests := true, laidLooks := .later }
def GridRowsUptoCardSaid : Prop := Claim7.holds Tryz.pinned (.plain (OpenSpec.upto gridRowsSpec)) gridRowsUptoCard

/-- THE SECOND FORM's CARD OF 'retrospectlaw12.GridProducts'. -/
def gridProductsUptoCard : Claim7 := { stood := { row := gridProductsUptoRow, standIns := [], harness := (true, "4a0d7cb65aea0dfae65bbb4f043cca548a872709f17cb8c992f790a3fadf095f"), looks := false }, kinds := [], alts := [], laidByText := true, laidKinds := [.data, .data, .data], laidTests := true, laidLooks := .later }
def GridProductsUptoCardSaid : Prop := Claim7.holds Tryz.pinned (.plain (OpenSpec.upto gridProductsSpec)) gridProductsUptoCard

/-- THE SECOND FORM's CARD OF 'retrospectlaw12.GridOrder'. -/
def gridOrderUptoCard : Claim7 := { stood := { row := gridOrderUptoRow, standIns := [], harness := (true, "4a0d7cb65aea0dfae65bbb4f043cca548a872709f17cb8c992f790a3fadf095f"), looks := false }, kinds := [], alts := [], laidByText := true, laidKinds := [.data, .data, .data], laidTests := true, laidLooks := .later }
def GridOrderUptoCardSaid : Prop := Claim7.holds Tryz.pinned (.plain (OpenSpec.upto gridOrderSpec)) gridOrderUptoCard
end Rows
end Go.Proofs.YtpjkhbfglgmnmaaGreatDoor
