/-
  DERIVED. GIVEN WITH THE SEED: THE CARDS: each row of YtheaknnipbbnbaaDoorRows.lean that lists a variable, with what it lists TIED to the program's text (the seventh form; the later family's looks); each row that meets fmt, with fmt's text TOLD by the authors' own Lean function (tested against real Go, not proved from fmt's source: count such statements apart). THE CARD IS WHAT COUNTS. Prove the row's statement (the work); the ties are given (YtheaknnipbbnbaaDoorTie.lean); close each card by the builder's one call (the guide's Derived/Test/ToyasCard.lean, 'card_holds'). Laid BY PROGRAM, IN A SANDBOX (cutbox-door.mjs). By AI agents, Wed Nov 11 2026. No macro, syntax, notation, axiom, sorry.
-/
import Derived.Test.YtheaknnipbbnbaaDoorRows
import GoSem.ClaimSeven
namespace Go.Proofs.YtheaknnipbbnbaaDoor
namespace Rows

/-- THE TIED CARD OF 'kibitzerlaw03.RaysSteps'. -/
def raysStepsCard : Claim7 := { stood := { row := raysStepsRow, standIns := [], harness := (true, "bfa8edf2ec52ac1d72c322f85bd8e9bc804c6a82b56f750d028428ae25c5e067"), looks := false }, kinds := [], alts := [], laidByText := true, laidKinds := [.data], laidTests := true, laidLooks := .later }
def RaysStepsCardSaid : Prop := Claim7.holds Tryd.pinned (.plain (OpenSpec.ofChange raysStepsSpec)) raysStepsCard

/-- THE TIED CARD OF 'kibitzerlaw03.RaysRays'. -/
def raysRaysCard : Claim7 := { stood := { row := raysRaysRow, standIns := [], harness := (true, "bfa8edf2ec52ac1d72c322f85bd8e9bc804c6a82b56f750d028428ae25c5e067"), looks := false }, kinds := [], alts := [], laidByText := true, laidKinds := [.data], laidTests := true, laidLooks := .later }
def RaysRaysCardSaid : Prop := Claim7.holds Tryd.pinned (.plain (OpenSpec.ofChange raysRaysSpec)) raysRaysCard

/-- THE TIED CARD OF 'kibitzerlaw03.RaysLines'. -/
def raysLinesCard : Claim7 := { stood := { row := raysLinesRow, standIns := [], harness := (true, "bfa8edf2ec52ac1d72c322f85bd8e9bc804c6a82b56f750d028428ae25c5e067"), looks := false }, kinds := [], alts := [], laidByText := true, laidKinds := [.data], laidTests := true, laidLooks := .later }
def RaysLinesCardSaid : Prop := Claim7.holds Tryd.pinned (.plain (OpenSpec.ofChange raysLinesSpec)) raysLinesCard

/-- THE TIED CARD OF 'kibitzerlaw03.RaysTurned'. -/
def raysTurnedCard : Claim7 := { stood := { row := raysTurnedRow, standIns := [], harness := (true, "bfa8edf2ec52ac1d72c322f85bd8e9bc804c6a82b56f750d028428ae25c5e067"), looks := false }, kinds := [], alts := [], laidByText := true, laidKinds := [.data], laidTests := true, laidLooks := .later }
def RaysTurnedCardSaid : Prop := Claim7.holds Tryd.pinned (.plain (OpenSpec.ofChange raysTurnedSpec)) raysTurnedCard

/-- THE TIED CARD OF 'kibitzerlaw03.RaysOneLine'. -/
def raysOneLineCard : Claim7 := { stood := { row := raysOneLineRow, standIns := [], harness := (true, "bfa8edf2ec52ac1d72c322f85bd8e9bc804c6a82b56f750d028428ae25c5e067"), looks := false }, kinds := [], alts := [], laidByText := true, laidKinds := [.data], laidTests := true, laidLooks := .later }
def RaysOneLineCardSaid : Prop := Claim7.holds Tryd.pinned (.plain (OpenSpec.ofChange raysOneLineSpec)) raysOneLineCard

/-- THE TIED CARD OF 'kibitzerlaw03.RaysParts'. -/
def raysPartsCard : Claim7 := { stood := { row := raysPartsRow, standIns := [], harness := (true, "bfa8edf2ec52ac1d72c322f85bd8e9bc804c6a82b56f750d028428ae25c5e067"), looks := false }, kinds := [], alts := [], laidByText := true, laidKinds := [.data], laidTests := true, laidLooks := .later }
def RaysPartsCardSaid : Prop := Claim7.holds Tryd.pinned (.plain (OpenSpec.ofChange raysPartsSpec)) raysPartsCard

/-- THE TIED CARD OF 'kibitzerlaw03.RaysFlipped'. -/
def raysFlippedCard : Claim7 := { stood := { row := raysFlippedRow, standIns := [], harness := (true, "bfa8edf2ec52ac1d72c322f85bd8e9bc804c6a82b56f750d028428ae25c5e067"), looks := false }, kinds := [], alts := [], laidByText := true, laidKinds := [.data], laidTests := true, laidLooks := .later }
def RaysFlippedCardSaid : Prop := Claim7.holds Tryd.pinned (.plain (OpenSpec.ofChange raysFlippedSpec)) raysFlippedCard

/-- THE TIED CARD OF 'kibitzerlaw03.RaysNone'. -/
def raysNoneCard : Claim7 := { stood := { row := raysNoneRow, standIns := [], harness := (true, "bfa8edf2ec52ac1d72c322f85bd8e9bc804c6a82b56f750d028428ae25c5e067"), looks := false }, kinds := [], alts := [], laidByText := true, laidKinds := [.data], laidTests := true, laidLooks := .later }
def RaysNoneCardSaid : Prop := Claim7.holds Tryd.pinned (.plain (OpenSpec.ofChange raysNoneSpec)) raysNoneCard

/-- THE SECOND FORM's CARD OF 'kibitzerlaw03.RaysSteps'. -/
def raysStepsUptoCard : Claim7 := { stood := { row := raysStepsUptoRow, standIns := [], harness := (true, "bfa8edf2ec52ac1d72c322f85bd8e9bc804c6a82b56f750d028428ae25c5e067"), looks := false }, kinds := [], alts := [], laidByText := true, laidKinds := [.data], laidTests := true, laidLooks := .later }
def RaysStepsUptoCardSaid : Prop := Claim7.holds Tryd.pinned (.plain (OpenSpec.upto raysStepsSpec)) raysStepsUptoCard

/-- THE SECOND FORM's CARD OF 'kibitzerlaw03.RaysRays'. -/
def raysRaysUptoCard : Claim7 := { stood := { row := raysRaysUptoRow, standIns := [], harness := (true, "bfa8edf2ec52ac1d72c322f85bd8e9bc804c6a82b56f750d028428ae25c5e067"), looks := false }, kinds := [], alts := [], laidByText := true, laidKinds := [.data], laidTests := true, laidLooks := .later }
def RaysRaysUptoCardSaid : Prop := Claim7.holds Tryd.pinned (.plain (OpenSpec.upto raysRaysSpec)) raysRaysUptoCard

/-- THE SECOND FORM's CARD OF 'kibitzerlaw03.RaysLines'. -/
def raysLinesUptoCard : Claim7 := { stood := { row := raysLinesUptoRow, standIns := [], harness := (true, "bfa8edf2ec52ac1d72c322f85bd8e9bc804c6a82b56f750d028428ae25c5e067"), looks := false }, kinds := [], alts := [], laidByText := true, laidKinds := [.data], laidTests := true, laidLooks := .later }
def RaysLinesUptoCardSaid : Prop := Claim7.holds Tryd.pinned (.plain (OpenSpec.upto raysLinesSpec)) raysLinesUptoCard

/-- THE SECOND FORM's CARD OF 'kibitzerlaw03.RaysTurned'. -/
def raysTurnedUptoCard : Claim7 := { stood := { row := raysTurnedUptoRow, standIns := [], harness := (true, "bfa8edf2ec52ac1d72c322f85bd8e9bc804c6a82b56f750d028428ae25c5e067"), looks := false }, kinds := [], alts := [], laidByText := true, laidKinds := [.data], laidTests := true, laidLooks := .later }
def RaysTurnedUptoCardSaid : Prop := Claim7.holds Tryd.pinned (.plain (OpenSpec.upto raysTurnedSpec)) raysTurnedUptoCard

/-- THE SECOND FORM's CARD OF 'kibitzerlaw03.RaysOneLine'. -/
def raysOneLineUptoCard : Claim7 := { stood := { row := raysOneLineUptoRow, standIns := [], harness := (true, "bfa8edf2ec52ac1d72c322f85bd8e9bc804c6a82b56f750d028428ae25c5e067"), looks := false }, kinds := [], alts := [], laidByText := true, laidKinds := [.data], laidTests := true, laidLooks := .later }
def RaysOneLineUptoCardSaid : Prop := Claim7.holds Tryd.pinned (.plain (OpenSpec.upto raysOneLineSpec)) raysOneLineUptoCard

/-- THE SECOND FORM's CARD OF 'kibitzerlaw03.RaysParts'. -/
def raysPartsUptoCard : Claim7 := { stood := { row := raysPartsUptoRow, standIns := [], harness := (true, "bfa8edf2ec52ac1d72c322f85bd8e9bc804c6a82b56f750d028428ae25c5e067"), looks := false }, kinds := [], alts := [], laidByText := true, laidKinds := [.data], laidTests := true, laidLooks := .later }
def RaysPartsUptoCardSaid : Prop := Claim7.holds Tryd.pinned (.plain (OpenSpec.upto raysPartsSpec)) raysPartsUptoCard

/-- THE SECOND FORM's CARD OF 'kibitzerlaw03.RaysFlipped'. -/
def raysFlippedUptoCard : Claim7 := { stood := { row := raysFlippedUptoRow, standIns := [], harness := (true, "bfa8edf2ec52ac1d72c322f85bd8e9bc804c6a82b56f750d028428ae25c5e067"), looks := false }, kinds := [], alts := [], laidByText := true, laidKinds := [.data], laidTests := true, laidLooks := .later }
def RaysFlippedUptoCardSaid : Prop := Claim7.holds Tryd.pinned (.plain (OpenSpec.upto raysFlippedSpec)) raysFlippedUptoCard

/-- THE SECOND FORM's CARD OF 'kibitzerlaw03.RaysNone'. -/
def raysNoneUptoCard : Claim7 := { stood := { row := raysNoneUptoRow, standIns := [], harness := (true, "bfa8edf2ec52ac1d72c322f85bd8e9bc804c6a82b56f750d028428ae25c5e067"), looks := false }, kinds := [], alts := [], laidByText := true, laidKinds := [.data], laidTests := true, laidLooks := .later }
def RaysNoneUptoCardSaid : Prop := Claim7.holds Tryd.pinned (.plain (OpenSpec.upto raysNoneSpec)) raysNoneUptoCard
end Rows
end Go.Proofs.YtheaknnipbbnbaaDoor
