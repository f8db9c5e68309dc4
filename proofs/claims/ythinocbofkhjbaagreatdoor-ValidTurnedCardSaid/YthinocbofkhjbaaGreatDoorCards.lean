/-
  DERIVED. GIVEN WITH THE SEED: THE CARDS: each row of YthinocbofkhjbaaGreatDoorRows.lean that lists a variable, with what it lists TIED to the program's text (the seventh form; the later family's looks); each row that meets fmt, with fmt's text TOLD by the authors' own Lean function (tested against real Go, not proved from fmt's source: count such statements apart). THE CARD IS WHAT COUNTS. Prove the row's statement (the work); the ties are given (YthinocbofkhjbaaGreatDoorTie.lean); close each card by the builder's one call (the guide's Derived/Test/ToyasCard.lean, 'card_holds'). Laid BY PROGRAM, IN A SANDBOX (cutbox-door.mjs). By AI agents, Wed Nov 11 2026. No macro, syntax, notation, axiom, sorry.
-/
import Derived.Test.YthinocbofkhjbaaGreatDoorRows
import GoSem.ClaimSeven
namespace Go.Proofs.YthinocbofkhjbaaGreatDoor
namespace Rows

/-- THE TIED CARD OF 'kibitzerlaw12.ValidAll'. -/
def validAllCard : Claim7 := { stood := { row := validAllRow, standIns := [], harness := (true, "ef1b2717ac25defb0b04ece6bc38d3616d35534e6b8c687936073f528f6297b1"), looks := false }, kinds := [], alts := [], laidByText := true, laidKinds := [.data, .data, .data, .data, .data], laidTests := true, laidLooks := .later }
def ValidAllCardSaid : Prop := Claim7.holds Tryz.pinned (.plain (OpenSpec.ofChange validAllSpec)) validAllCard

/-- THE TIED CARD OF 'kibitzerlaw12.ValidMends'. -/
def validMendsCard : Claim7 := { stood := { row := validMendsRow, standIns := [], harness := (true, "ef1b2717ac25defb0b04ece6bc38d3616d35534e6b8c687936073f528f6297b1"), looks := false }, kinds := [], alts := [], laidByText := true, laidKinds := [.data, .data, .data, .data, .data], laidTests := true, laidLooks := .later }
def ValidMendsCardSaid : Prop := Claim7.holds Tryz.pinned (.plain (OpenSpec.ofChange validMendsSpec)) validMendsCard

/-- THE TIED CARD OF 'kibitzerlaw12.ValidTurned'. -/
def validTurnedCard : Claim7 := { stood := { row := validTurnedRow, standIns := [], harness := (true, "ef1b2717ac25defb0b04ece6bc38d3616d35534e6b8c687936073f528f6297b1"), looks := false }, kinds := [], alts := [], laidByText := true, laidKinds := [.data, .data, .data, .data, .data], laidTests := true, laidLooks := .later }
def ValidTurnedCardSaid : Prop := Claim7.holds Tryz.pinned (.plain (OpenSpec.ofChange validTurnedSpec)) validTurnedCard

/-- THE SECOND FORM's CARD OF 'kibitzerlaw12.ValidAll'. -/
def validAllUptoCard : Claim7 := { stood := { row := validAllUptoRow, standIns := [], harness := (true, "ef1b2717ac25defb0b04ece6bc38d3616d35534e6b8c687936073f528f6297b1"), looks := false }, kinds := [], alts := [], laidByText := true, laidKinds := [.data, .data, .data, .data, .data], laidTests := true, laidLooks := .later }
def ValidAllUptoCardSaid : Prop := Claim7.holds Tryz.pinned (.plain (OpenSpec.upto validAllSpec)) validAllUptoCard

/-- THE SECOND FORM's CARD OF 'kibitzerlaw12.ValidMends'. -/
def validMendsUptoCard : Claim7 := { stood := { row := validMendsUptoRow, standIns := [], harness := (true, "ef1b2717ac25defb0b04ece6bc38d3616d35534e6b8c687936073f528f6297b1"), looks := false }, kinds := [], alts := [], laidByText := true, laidKinds := [.data, .data, .data, .data, .data], laidTests := true, laidLooks := .later }
def ValidMendsUptoCardSaid : Prop := Claim7.holds Tryz.pinned (.plain (OpenSpec.upto validMendsSpec)) validMendsUptoCard

/-- THE SECOND FORM's CARD OF 'kibitzerlaw12.ValidTurned'. -/
def validTurnedUptoCard : Claim7 := { stood := { row := validTurnedUptoRow, standIns := [], harness := (true, "ef1b2717ac25defb0b04ece6bc38d3616d35534e6b8c687936073f528f6297b1"), looks := false }, kinds := [], alts := [], laidByText := true, laidKinds := [.data, .data, .data, .data, .data], laidTests := true, laidLooks := .later }
def ValidTurnedUptoCardSaid : Prop := Claim7.holds Tryz.pinned (.plain (OpenSpec.upto validTurnedSpec)) validTurnedUptoCard
end Rows
end Go.Proofs.YthinocbofkhjbaaGreatDoor
