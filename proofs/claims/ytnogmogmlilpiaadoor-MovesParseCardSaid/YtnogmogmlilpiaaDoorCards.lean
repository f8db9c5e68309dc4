/-
  DERIVED. GIVEN WITH THE SEED: THE CARDS: each row of YtnogmogmlilpiaaDoorRows.lean that lists a variable, with what it lists TIED to the program's text (the seventh form; the later family's looks); each row that meets fmt, with fmt's text TOLD by the authors' own Lean function (tested against real Go, not proved from fmt's source: count such statements apart). THE CARD IS WHAT COUNTS. Prove the row's statement (the work); the ties are given (YtnogmogmlilpiaaDoorTie.lean); close each card by the builder's one call (the guide's Derived/Test/ToyasCard.lean, 'card_holds'). Laid BY PROGRAM, IN A SANDBOX (cutbox-door.mjs). By AI agents, Wed Nov 11 2026. No macro, syntax, notation, axiom, sorry.
-/
import Derived.Test.YtnogmogmlilpiaaDoorRows
import GoSem.ClaimSeven
namespace Go.Proofs.YtnogmogmlilpiaaDoor
namespace Rows

/-- THE TIED CARD OF 'kibitzerlaw11.MovesParse'. -/
def movesParseCard : Claim7 := { stood := { row := movesParseRow, standIns := [], harness := (true, "c70704663ee88d214277f94c0a567cd1e71593767482d9127edd79feaa0ecc80"), looks := false }, kinds := [], alts := [], laidByText := true, laidKinds := [.data], laidTests := true, laidLooks := .later }
def MovesParseCardSaid : Prop := Claim7.holds Tryd.pinned (.plain (OpenSpec.ofChange movesParseSpec)) movesParseCard

/-- THE SECOND FORM's CARD OF 'kibitzerlaw11.MovesParse'. -/
def movesParseUptoCard : Claim7 := { stood := { row := movesParseUptoRow, standIns := [], harness := (true, "c70704663ee88d214277f94c0a567cd1e71593767482d9127edd79feaa0ecc80"), looks := false }, kinds := [], alts := [], laidByText := true, laidKinds := [.data], laidTests := true, laidLooks := .later }
def MovesParseUptoCardSaid : Prop := Claim7.holds Tryd.pinned (.plain (OpenSpec.upto movesParseSpec)) movesParseUptoCard
end Rows
end Go.Proofs.YtnogmogmlilpiaaDoor
