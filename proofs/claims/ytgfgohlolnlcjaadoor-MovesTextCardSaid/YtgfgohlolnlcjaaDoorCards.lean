/-
  DERIVED. GIVEN WITH THE SEED: THE CARDS: each row of YtgfgohlolnlcjaaDoorRows.lean that lists a variable, with what it lists TIED to the program's text (the seventh form; the later family's looks); each row that meets fmt, with fmt's text TOLD by the authors' own Lean function (tested against real Go, not proved from fmt's source: count such statements apart). THE CARD IS WHAT COUNTS. Prove the row's statement (the work); the ties are given (YtgfgohlolnlcjaaDoorTie.lean); close each card by the builder's one call (the guide's Derived/Test/ToyasCard.lean, 'card_holds'). Laid BY PROGRAM, IN A SANDBOX (cutbox-door.mjs). By AI agents, Wed Nov 11 2026. No macro, syntax, notation, axiom, sorry.
-/
import Derived.Test.YtgfgohlolnlcjaaDoorRows
import GoSem.ClaimSeven
namespace Go.Proofs.YtgfgohlolnlcjaaDoor
namespace Rows

/-- THE TIED CARD OF 'kibitzerlaw11.MovesText'. -/
def movesTextCard : Claim7 := { stood := { row := movesTextRow, standIns := [], harness := (true, "1b307000cdd65d02fa7e0baf8d1a818b735c029a0a335fb80350698634bb8d70"), looks := false }, kinds := [], alts := [], laidByText := true, laidKinds := [.data], laidTests := true, laidLooks := .later }
def MovesTextCardSaid : Prop := Claim7.holds Tryd.pinned (.plain (OpenSpec.ofChange movesTextSpec)) movesTextCard

/-- THE TIED CARD OF 'kibitzerlaw11.MovesParse'. -/
def movesParseCard : Claim7 := { stood := { row := movesParseRow, standIns := [], harness := (true, "1b307000cdd65d02fa7e0baf8d1a818b735c029a0a335fb80350698634bb8d70"), looks := false }, kinds := [], alts := [], laidByText := true, laidKinds := [.data], laidTests := true, laidLooks := .later }
def MovesParseCardSaid : Prop := Claim7.holds Tryd.pinned (.plain (OpenSpec.ofChange movesParseSpec)) movesParseCard

/-- THE TIED CARD OF 'kibitzerlaw11.MovesBack'. -/
def movesBackCard : Claim7 := { stood := { row := movesBackRow, standIns := [], harness := (true, "1b307000cdd65d02fa7e0baf8d1a818b735c029a0a335fb80350698634bb8d70"), looks := false }, kinds := [], alts := [], laidByText := true, laidKinds := [.data, .data, .data], laidTests := true, laidLooks := .later }
def MovesBackCardSaid : Prop := Claim7.holds Tryd.pinned (.plain (OpenSpec.ofChange movesBackSpec)) movesBackCard

/-- THE TIED CARD OF 'kibitzerlaw11.MovesOne'. -/
def movesOneCard : Claim7 := { stood := { row := movesOneRow, standIns := [], harness := (true, "1b307000cdd65d02fa7e0baf8d1a818b735c029a0a335fb80350698634bb8d70"), looks := false }, kinds := [], alts := [], laidByText := true, laidKinds := [.data, .data, .data], laidTests := true, laidLooks := .later }
def MovesOneCardSaid : Prop := Claim7.holds Tryd.pinned (.plain (OpenSpec.ofChange movesOneSpec)) movesOneCard

/-- THE TIED CARD OF 'kibitzerlaw11.MovesPlain'. -/
def movesPlainCard : Claim7 := { stood := { row := movesPlainRow, standIns := [], harness := (true, "1b307000cdd65d02fa7e0baf8d1a818b735c029a0a335fb80350698634bb8d70"), looks := false }, kinds := [], alts := [], laidByText := true, laidKinds := [.data, .data, .data], laidTests := true, laidLooks := .later }
def MovesPlainCardSaid : Prop := Claim7.holds Tryd.pinned (.plain (OpenSpec.ofChange movesPlainSpec)) movesPlainCard

/-- THE TIED CARD OF 'kibitzerlaw11.MovesDrops'. -/
def movesDropsCard : Claim7 := { stood := { row := movesDropsRow, standIns := [], harness := (true, "1b307000cdd65d02fa7e0baf8d1a818b735c029a0a335fb80350698634bb8d70"), looks := false }, kinds := [], alts := [], laidByText := true, laidKinds := [.data, .data, .data], laidTests := true, laidLooks := .later }
def MovesDropsCardSaid : Prop := Claim7.holds Tryd.pinned (.plain (OpenSpec.ofChange movesDropsSpec)) movesDropsCard

/-- THE SECOND FORM's CARD OF 'kibitzerlaw11.MovesText'. -/
def movesTextUptoCard : Claim7 := { stood := { row := movesTextUptoRow, standIns := [], harness := (true, "1b307000cdd65d02fa7e0baf8d1a818b735c029a0a335fb80350698634bb8d70"), looks := false }, kinds := [], alts := [], laidByText := true, laidKinds := [.data], laidTests := true, laidLooks := .later }
def MovesTextUptoCardSaid : Prop := Claim7.holds Tryd.pinned (.plain (OpenSpec.upto movesTextSpec)) movesTextUptoCard

/-- THE SECOND FORM's CARD OF 'kibitzerlaw11.MovesParse'. -/
def movesParseUptoCard : Claim7 := { stood := { row := movesParseUptoRow, standIns := [], harness := (true, "1b307000cdd65d02fa7e0baf8d1a818b735c029a0a335fb80350698634bb8d70"), looks := false }, kinds := [], alts := [], laidByText := true, laidKinds := [.data], laidTests := true, laidLooks := .later }
def MovesParseUptoCardSaid : Prop := Claim7.holds Tryd.pinned (.plain (OpenSpec.upto movesParseSpec)) movesParseUptoCard

/-- THE SECOND FORM's CARD OF 'kibitzerlaw11.MovesBack'. -/
def movesBackUptoCard : Claim7 := { stood := { row := movesBackUptoRow, standIns := [], harness := (true, "1b307000cdd65d02fa7e0baf8d1a818b735c029a0a335fb80350698634bb8d70"), looks := false }, kinds := [], alts := [], laidByText := true, laidKinds := [.data, .data, .data], laidTests := true, laidLooks := .later }
def MovesBackUptoCardSaid : Prop := Claim7.holds Tryd.pinned (.plain (OpenSpec.upto movesBackSpec)) movesBackUptoCard

/-- THE SECOND FORM's CARD OF 'kibitzerlaw11.MovesOne'. -/
def movesOneUptoCard : Claim7 := { stood := { row := movesOneUptoRow, standIns := [], harness := (true, "1b307000cdd65d02fa7e0baf8d1a818b735c029a0a335fb80350698634bb8d70"), looks := false }, kinds := [], alts := [], laidByText := true, laidKinds := [.data, .data, .data], laidTests := true, laidLooks := .later }
def MovesOneUptoCardSaid : Prop := Claim7.holds Tryd.pinned (.plain (OpenSpec.upto movesOneSpec)) movesOneUptoCard

/-- THE SECOND FORM's CARD OF 'kibitzerlaw11.MovesPlain'. -/
def movesPlainUptoCard : Claim7 := { stood := { row := movesPlainUptoRow, standIns := [], harness := (true, "1b307000cdd65d02fa7e0baf8d1a818b735c029a0a335fb80350698634bb8d70"), looks := false }, kinds := [], alts := [], laidByText := true, laidKinds := [.data, .data, .data], laidTests := true, laidLooks := .later }
def MovesPlainUptoCardSaid : Prop := Claim7.holds Tryd.pinned (.plain (OpenSpec.upto movesPlainSpec)) movesPlainUptoCard

/-- THE SECOND FORM's CARD OF 'kibitzerlaw11.MovesDrops'. -/
def movesDropsUptoCard : Claim7 := { stood := { row := movesDropsUptoRow, standIns := [], harness := (true, "1b307000cdd65d02fa7e0baf8d1a818b735c029a0a335fb80350698634bb8d70"), looks := false }, kinds := [], alts := [], laidByText := true, laidKinds := [.data, .data, .data], laidTests := true, laidLooks := .later }
def MovesDropsUptoCardSaid : Prop := Claim7.holds Tryd.pinned (.plain (OpenSpec.upto movesDropsSpec)) movesDropsUptoCard
end Rows
end Go.Proofs.YtgfgohlolnlcjaaDoor
