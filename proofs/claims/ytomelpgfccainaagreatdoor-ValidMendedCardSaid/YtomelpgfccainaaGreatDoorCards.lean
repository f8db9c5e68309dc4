/-
  DERIVED. GIVEN WITH THE SEED: THE CARDS: each row of YtomelpgfccainaaGreatDoorRows.lean that lists a variable, with what it lists TIED to the program's text (the seventh form; the later family's looks); each row that meets fmt, with fmt's text TOLD by the authors' own Lean function (tested against real Go, not proved from fmt's source: count such statements apart). THE CARD IS WHAT COUNTS. Prove the row's statement (the work); the ties are given (YtomelpgfccainaaGreatDoorTie.lean); close each card by the builder's one call (the guide's Derived/Test/ToyasCard.lean, 'card_holds'). Laid BY PROGRAM, IN A SANDBOX (cutbox-door.mjs). By AI agents, Wed Nov 11 2026. No macro, syntax, notation, axiom, sorry.
-/
import Derived.Test.YtomelpgfccainaaGreatDoorRows
import GoSem.ClaimSeven
namespace Go.Proofs.YtomelpgfccainaaGreatDoor
namespace Rows

/-- THE TIED CARD OF 'kibitzerlaw12.ValidAll'. -/
def validAllCard : Claim7 := { stood := { row := validAllRow, standIns := [], harness := (true, "0def31649ccc96a755f15a551be7690c4207265d5694c2e5ec6fe667cf33ef77"), looks := false }, kinds := [], alts := [], laidByText := true, laidKinds := [.data, .data, .data, .data, .data], laidTests := true, laidLooks := .later }
def ValidAllCardSaid : Prop := Claim7.holds Tryz.pinned (.plain (OpenSpec.ofChange validAllSpec)) validAllCard

/-- THE TIED CARD OF 'kibitzerlaw12.ValidMends'. -/
def validMendsCard : Claim7 := { stood := { row := validMendsRow, standIns := [], harness := (true, "0def31649ccc96a755f15a551be7690c4207265d5694c2e5ec6fe667cf33ef77"), looks := false }, kinds := [], alts := [], laidByText := true, laidKinds := [.data, .data, .data, .data, .data], laidTests := true, laidLooks := .later }
def ValidMendsCardSaid : Prop := Claim7.holds Tryz.pinned (.plain (OpenSpec.ofChange validMendsSpec)) validMendsCard

/-- THE TIED CARD OF 'kibitzerlaw12.ValidFirst'. -/
def validFirstCard : Claim7 := { stood := { row := validFirstRow, standIns := [], harness := (true, "0def31649ccc96a755f15a551be7690c4207265d5694c2e5ec6fe667cf33ef77"), looks := false }, kinds := [], alts := [], laidByText := true, laidKinds := [.data, .data, .data, .data, .data], laidTests := true, laidLooks := .later }
def ValidFirstCardSaid : Prop := Claim7.holds Tryz.pinned (.plain (OpenSpec.ofChange validFirstSpec)) validFirstCard

/-- THE TIED CARD OF 'kibitzerlaw12.ValidMended'. -/
def validMendedCard : Claim7 := { stood := { row := validMendedRow, standIns := [], harness := (true, "0def31649ccc96a755f15a551be7690c4207265d5694c2e5ec6fe667cf33ef77"), looks := false }, kinds := [], alts := [], laidByText := true, laidKinds := [.data, .data, .data, .data, .data], laidTests := true, laidLooks := .later }
def ValidMendedCardSaid : Prop := Claim7.holds Tryz.pinned (.plain (OpenSpec.ofChange validMendedSpec)) validMendedCard

/-- THE TIED CARD OF 'kibitzerlaw12.ValidTurned'. -/
def validTurnedCard : Claim7 := { stood := { row := validTurnedRow, standIns := [], harness := (true, "0def31649ccc96a755f15a551be7690c4207265d5694c2e5ec6fe667cf33ef77"), looks := false }, kinds := [], alts := [], laidByText := true, laidKinds := [.data, .data, .data, .data, .data], laidTests := true, laidLooks := .later }
def ValidTurnedCardSaid : Prop := Claim7.holds Tryz.pinned (.plain (OpenSpec.ofChange validTurnedSpec)) validTurnedCard

/-- THE SECOND FORM's CARD OF 'kibitzerlaw12.ValidAll'. -/
def validAllUptoCard : Claim7 := { stood := { row := validAllUptoRow, standIns := [], harness := (true, "0def31649ccc96a755f15a551be7690c4207265d5694c2e5ec6fe667cf33ef77"), looks := false }, kinds := [], alts := [], laidByText := true, laidKinds := [.data, .data, .data, .data, .data], laidTests := true, laidLooks := .later }
def ValidAllUptoCardSaid : Prop := Claim7.holds Tryz.pinned (.plain (OpenSpec.upto validAllSpec)) validAllUptoCard

/-- THE SECOND FORM's CARD OF 'kibitzerlaw12.ValidMends'. -/
def validMendsUptoCard : Claim7 := { stood := { row := validMendsUptoRow, standIns := [], harness := (true, "0def31649ccc96a755f15a551be7690c4207265d5694c2e5ec6fe667cf33ef77"), looks := false }, kinds := [], alts := [], laidByText := true, laidKinds := [.data, .data, .data, .data, .data], laidTests := true, laidLooks := .later }
def ValidMendsUptoCardSaid : Prop := Claim7.holds Tryz.pinned (.plain (OpenSpec.upto validMendsSpec)) validMendsUptoCard

/-- THE SECOND FORM's CARD OF 'kibitzerlaw12.ValidFirst'. -/
def validFirstUptoCard : Claim7 := { stood := { row := validFirstUptoRow, standIns := [], harness := (true, "0def31649ccc96a755f15a551be7690c4207265d5694c2e5ec6fe667cf33ef77"), looks := false }, kinds := [], alts := [], laidByText := true, laidKinds := [.data, .data, .data, .data, .data], laidTests := true, laidLooks := .later }
def ValidFirstUptoCardSaid : Prop := Claim7.holds Tryz.pinned (.plain (OpenSpec.upto validFirstSpec)) validFirstUptoCard

/-- THE SECOND FORM's CARD OF 'kibitzerlaw12.ValidMended'. -/
def validMendedUptoCard : Claim7 := { stood := { row := validMendedUptoRow, standIns := [], harness := (true, "0def31649ccc96a755f15a551be7690c4207265d5694c2e5ec6fe667cf33ef77"), looks := false }, kinds := [], alts := [], laidByText := true, laidKinds := [.data, .data, .data, .data, .data], laidTests := true, laidLooks := .later }
def ValidMendedUptoCardSaid : Prop := Claim7.holds Tryz.pinned (.plain (OpenSpec.upto validMendedSpec)) validMendedUptoCard

/-- THE SECOND FORM's CARD OF 'kibitzerlaw12.ValidTurned'. -/
def validTurnedUptoCard : Claim7 := { stood := { row := validTurnedUptoRow, standIns := [], harness := (true, "0def31649ccc96a755f15a551be7690c4207265d5694c2e5ec6fe667cf33ef77"), looks := false }, kinds := [], alts := [], laidByText := true, laidKinds := [.data, .data, .data, .data, .data], laidTests := true, laidLooks := .later }
def ValidTurnedUptoCardSaid : Prop := Claim7.holds Tryz.pinned (.plain (OpenSpec.upto validTurnedSpec)) validTurnedUptoCard
end Rows
end Go.Proofs.YtomelpgfccainaaGreatDoor
