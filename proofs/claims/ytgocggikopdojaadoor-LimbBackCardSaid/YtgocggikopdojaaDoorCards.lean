/-
  DERIVED. GIVEN WITH THE SEED: THE CARDS: each row of YtgocggikopdojaaDoorRows.lean that lists a variable, with what it lists TIED to the program's text (the seventh form; the later family's looks); each row that meets fmt, with fmt's text TOLD by the authors' own Lean function (tested against real Go, not proved from fmt's source: count such statements apart). THE CARD IS WHAT COUNTS. Prove the row's statement (the work); the ties are given (YtgocggikopdojaaDoorTie.lean); close each card by the builder's one call (the guide's Derived/Test/ToyasCard.lean, 'card_holds'). Laid BY PROGRAM, IN A SANDBOX (cutbox-door.mjs). By AI agents, Wed Nov 11 2026. No macro, syntax, notation, axiom, sorry.
-/
import Derived.Test.YtgocggikopdojaaDoorRows
import GoSem.ClaimSeven
namespace Go.Proofs.YtgocggikopdojaaDoor
namespace Rows

/-- THE TIED CARD OF 'retrospectlaw01.LimbAdds'. -/
def limbAddsCard : Claim7 := { stood := { row := limbAddsRow, standIns := [], harness := (true, "7e99e107d3feeace163602e5afd7b511fa4f332f9836febc55d29477da06dc0c"), looks := false }, kinds := [], alts := [], laidByText := true, laidKinds := [.data], laidTests := true, laidLooks := .later }
def LimbAddsCardSaid : Prop := Claim7.holds Tryd.pinned (.plain (OpenSpec.ofChange limbAddsSpec)) limbAddsCard

/-- THE TIED CARD OF 'retrospectlaw01.LimbTimes'. -/
def limbTimesCard : Claim7 := { stood := { row := limbTimesRow, standIns := [], harness := (true, "7e99e107d3feeace163602e5afd7b511fa4f332f9836febc55d29477da06dc0c"), looks := false }, kinds := [], alts := [], laidByText := true, laidKinds := [.data], laidTests := true, laidLooks := .later }
def LimbTimesCardSaid : Prop := Claim7.holds Tryd.pinned (.plain (OpenSpec.ofChange limbTimesSpec)) limbTimesCard

/-- THE TIED CARD OF 'retrospectlaw01.LimbBits'. -/
def limbBitsCard : Claim7 := { stood := { row := limbBitsRow, standIns := [], harness := (true, "7e99e107d3feeace163602e5afd7b511fa4f332f9836febc55d29477da06dc0c"), looks := false }, kinds := [], alts := [], laidByText := true, laidKinds := [.data], laidTests := true, laidLooks := .later }
def LimbBitsCardSaid : Prop := Claim7.holds Tryd.pinned (.plain (OpenSpec.ofChange limbBitsSpec)) limbBitsCard

/-- THE TIED CARD OF 'retrospectlaw01.LimbBack'. -/
def limbBackCard : Claim7 := { stood := { row := limbBackRow, standIns := [], harness := (true, "7e99e107d3feeace163602e5afd7b511fa4f332f9836febc55d29477da06dc0c"), looks := false }, kinds := [], alts := [], laidByText := true, laidKinds := [.data], laidTests := true, laidLooks := .later }
def LimbBackCardSaid : Prop := Claim7.holds Tryd.pinned (.plain (OpenSpec.ofChange limbBackSpec)) limbBackCard

/-- THE SECOND FORM's CARD OF 'retrospectlaw01.LimbAdds'. -/
def limbAddsUptoCard : Claim7 := { stood := { row := limbAddsUptoRow, standIns := [], harness := (true, "7e99e107d3feeace163602e5afd7b511fa4f332f9836febc55d29477da06dc0c"), looks := false }, kinds := [], alts := [], laidByText := true, laidKinds := [.data], laidTests := true, laidLooks := .later }
def LimbAddsUptoCardSaid : Prop := Claim7.holds Tryd.pinned (.plain (OpenSpec.upto limbAddsSpec)) limbAddsUptoCard

/-- THE SECOND FORM's CARD OF 'retrospectlaw01.LimbTimes'. -/
def limbTimesUptoCard : Claim7 := { stood := { row := limbTimesUptoRow, standIns := [], harness := (true, "7e99e107d3feeace163602e5afd7b511fa4f332f9836febc55d29477da06dc0c"), looks := false }, kinds := [], alts := [], laidByText := true, laidKinds := [.data], laidTests := true, laidLooks := .later }
def LimbTimesUptoCardSaid : Prop := Claim7.holds Tryd.pinned (.plain (OpenSpec.upto limbTimesSpec)) limbTimesUptoCard

/-- THE SECOND FORM's CARD OF 'retrospectlaw01.LimbBits'. -/
def limbBitsUptoCard : Claim7 := { stood := { row := limbBitsUptoRow, standIns := [], harness := (true, "7e99e107d3feeace163602e5afd7b511fa4f332f9836febc55d29477da06dc0c"), looks := false }, kinds := [], alts := [], laidByText := true, laidKinds := [.data], laidTests := true, laidLooks := .later }
def LimbBitsUptoCardSaid : Prop := Claim7.holds Tryd.pinned (.plain (OpenSpec.upto limbBitsSpec)) limbBitsUptoCard

/-- THE SECOND FORM's CARD OF 'retrospectlaw01.LimbBack'. -/
def limbBackUptoCard : Claim7 := { stood := { row := limbBackUptoRow, standIns := [], harness := (true, "7e99e107d3feeace163602e5afd7b511fa4f332f9836febc55d29477da06dc0c"), looks := false }, kinds := [], alts := [], laidByText := true, laidKinds := [.data], laidTests := true, laidLooks := .later }
def LimbBackUptoCardSaid : Prop := Claim7.holds Tryd.pinned (.plain (OpenSpec.upto limbBackSpec)) limbBackUptoCard
end Rows
end Go.Proofs.YtgocggikopdojaaDoor
