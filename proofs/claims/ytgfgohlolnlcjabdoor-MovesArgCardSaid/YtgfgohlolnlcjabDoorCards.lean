/-
  DERIVED. GIVEN WITH THE SEED: THE CARDS: each row of YtgfgohlolnlcjabDoorRows.lean that lists a variable, with what it lists TIED to the program's text (the seventh form; the later family's looks); each row that meets fmt, with fmt's text TOLD by the authors' own Lean function (tested against real Go, not proved from fmt's source: count such statements apart). THE CARD IS WHAT COUNTS. Prove the row's statement (the work); the ties are given (YtgfgohlolnlcjabDoorTie.lean); close each card by the builder's one call (the guide's Derived/Test/ToyasCard.lean, 'card_holds'). Laid BY PROGRAM, IN A SANDBOX (cutbox-door.mjs). By AI agents, Wed Nov 11 2026. No macro, syntax, notation, axiom, sorry.
-/
import Derived.Test.YtgfgohlolnlcjabDoorRows
import GoSem.ClaimSeven
namespace Go.Proofs.YtgfgohlolnlcjabDoor
namespace Rows

/-- THE TIED CARD OF 'kibitzerlaw11.MovesArg'. -/
def movesArgCard : Claim7 := { stood := { row := movesArgRow, standIns := [], harness := (true, "5a2e22d6f77d5e5c8133bdc434f43fc245ca172bd7e4acd41eb79ca1a0760070"), looks := false }, kinds := [], alts := [], laidByText := true, laidKinds := [.data, .data, .data], laidTests := true, laidLooks := .later }
def MovesArgCardSaid : Prop := Claim7.holds Tryd.pinned (.plain (OpenSpec.ofChange movesArgSpec)) movesArgCard

/-- THE SECOND FORM's CARD OF 'kibitzerlaw11.MovesArg'. -/
def movesArgUptoCard : Claim7 := { stood := { row := movesArgUptoRow, standIns := [], harness := (true, "5a2e22d6f77d5e5c8133bdc434f43fc245ca172bd7e4acd41eb79ca1a0760070"), looks := false }, kinds := [], alts := [], laidByText := true, laidKinds := [.data, .data, .data], laidTests := true, laidLooks := .later }
def MovesArgUptoCardSaid : Prop := Claim7.holds Tryd.pinned (.plain (OpenSpec.upto movesArgSpec)) movesArgUptoCard
end Rows
end Go.Proofs.YtgfgohlolnlcjabDoor
