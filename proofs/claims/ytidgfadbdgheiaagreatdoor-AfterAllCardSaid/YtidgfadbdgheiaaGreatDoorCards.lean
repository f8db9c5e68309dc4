/-
  DERIVED. GIVEN WITH THE SEED: THE CARDS: each row of YtidgfadbdgheiaaGreatDoorRows.lean that lists a variable, with what it lists TIED to the program's text (the seventh form; the later family's looks); each row that meets fmt, with fmt's text TOLD by the authors' own Lean function (tested against real Go, not proved from fmt's source: count such statements apart). THE CARD IS WHAT COUNTS. Prove the row's statement (the work); the ties are given (YtidgfadbdgheiaaGreatDoorTie.lean); close each card by the builder's one call (the guide's Derived/Test/ToyasCard.lean, 'card_holds'). Laid BY PROGRAM, IN A SANDBOX (cutbox-door.mjs). By AI agents, Wed Nov 11 2026. No macro, syntax, notation, axiom, sorry.
-/
import Derived.Test.YtidgfadbdgheiaaGreatDoorRows
import GoSem.ClaimSeven
namespace Go.Proofs.YtidgfadbdgheiaaGreatDoor
namespace Rows

/-- THE TIED CARD OF 'kibitzerlaw16.AfterAll'. -/
def afterAllCard : Claim7 := { stood := { row := afterAllRow, standIns := [], harness := (true, "2c468adc04d92e37adac4d11c52731c0c852f14f9348a0ab89a9375d41e43bbc"), looks := false }, kinds := [], alts := [], laidByText := true, laidKinds := [.data, .data, .data, .data, .data], laidTests := true, laidLooks := .later }
def AfterAllCardSaid : Prop := Claim7.holds Tryz.pinned (.plain (OpenSpec.ofChange afterAllSpec)) afterAllCard

/-- THE TIED CARD OF 'kibitzerlaw16.AfterBlown'. -/
def afterBlownCard : Claim7 := { stood := { row := afterBlownRow, standIns := [], harness := (true, "2c468adc04d92e37adac4d11c52731c0c852f14f9348a0ab89a9375d41e43bbc"), looks := false }, kinds := [], alts := [], laidByText := true, laidKinds := [.data, .data, .data, .data, .data], laidTests := true, laidLooks := .later }
def AfterBlownCardSaid : Prop := Claim7.holds Tryz.pinned (.plain (OpenSpec.ofChange afterBlownSpec)) afterBlownCard

/-- THE TIED CARD OF 'kibitzerlaw16.AfterSquares'. -/
def afterSquaresCard : Claim7 := { stood := { row := afterSquaresRow, standIns := [], harness := (true, "2c468adc04d92e37adac4d11c52731c0c852f14f9348a0ab89a9375d41e43bbc"), looks := false }, kinds := [], alts := [], laidByText := true, laidKinds := [.data, .data, .data, .data, .data], laidTests := true, laidLooks := .later }
def AfterSquaresCardSaid : Prop := Claim7.holds Tryz.pinned (.plain (OpenSpec.ofChange afterSquaresSpec)) afterSquaresCard

/-- THE SECOND FORM's CARD OF 'kibitzerlaw16.AfterAll'. -/
def afterAllUptoCard : Claim7 := { stood := { row := afterAllUptoRow, standIns := [], harness := (true, "2c468adc04d92e37adac4d11c52731c0c852f14f9348a0ab89a9375d41e43bbc"), looks := false }, kinds := [], alts := [], laidByText := true, laidKinds := [.data, .data, .data, .data, .data], laidTests := true, laidLooks := .later }
def AfterAllUptoCardSaid : Prop := Claim7.holds Tryz.pinned (.plain (OpenSpec.upto afterAllSpec)) afterAllUptoCard

/-- THE SECOND FORM's CARD OF 'kibitzerlaw16.AfterBlown'. -/
def afterBlownUptoCard : Claim7 := { stood := { row := afterBlownUptoRow, standIns := [], harness := (true, "2c468adc04d92e37adac4d11c52731c0c852f14f9348a0ab89a9375d41e43bbc"), looks := false }, kinds := [], alts := [], laidByText := true, laidKinds := [.data, .data, .data, .data, .data], laidTests := true, laidLooks := .later }
def AfterBlownUptoCardSaid : Prop := Claim7.holds Tryz.pinned (.plain (OpenSpec.upto afterBlownSpec)) afterBlownUptoCard

/-- THE SECOND FORM's CARD OF 'kibitzerlaw16.AfterSquares'. -/
def afterSquaresUptoCard : Claim7 := { stood := { row := afterSquaresUptoRow, standIns := [], harness := (true, "2c468adc04d92e37adac4d11c52731c0c852f14f9348a0ab89a9375d41e43bbc"), looks := false }, kinds := [], alts := [], laidByText := true, laidKinds := [.data, .data, .data, .data, .data], laidTests := true, laidLooks := .later }
def AfterSquaresUptoCardSaid : Prop := Claim7.holds Tryz.pinned (.plain (OpenSpec.upto afterSquaresSpec)) afterSquaresUptoCard
end Rows
end Go.Proofs.YtidgfadbdgheiaaGreatDoor
