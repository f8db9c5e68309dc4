/-
  DERIVED. GIVEN WITH THE SEED: THE CARDS: each row of YteblmnbagbdiiaaGreatDoorRows.lean that lists a variable, with what it lists TIED to the program's text (the seventh form; the later family's looks); each row that meets fmt, with fmt's text TOLD by the authors' own Lean function (tested against real Go, not proved from fmt's source: count such statements apart). THE CARD IS WHAT COUNTS. Prove the row's statement (the work); the ties are given (YteblmnbagbdiiaaGreatDoorTie.lean); close each card by the builder's one call (the guide's Derived/Test/ToyasCard.lean, 'card_holds'). Laid BY PROGRAM, IN A SANDBOX (cutbox-door.mjs). By AI agents, Wed Nov 11 2026. No macro, syntax, notation, axiom, sorry.
-/
import Derived.Test.YteblmnbagbdiiaaGreatDoorRows
import GoSem.ClaimSeven
namespace Go.Proofs.YteblmnbagbdiiaaGreatDoor
namespace Rows

/-- THE TIED CARD OF 'kibitzerlaw17.LegalList'. -/
def legalListCard : Claim7 := { stood := { row := legalListRow, standIns := [], harness := (true, "5753d4f937f85e4a5fc238940a01aa79c666fac09043030dc154a74008858a04"), looks := false }, kinds := [], alts := [], laidByText := true, laidKinds := [.data, .data, .data, .data, .data], laidTests := true, laidLooks := .later }
def LegalListCardSaid : Prop := Claim7.holds Tryz.pinned (.plain (OpenSpec.ofChange legalListSpec)) legalListCard

/-- THE TIED CARD OF 'kibitzerlaw17.LegalKings'. -/
def legalKingsCard : Claim7 := { stood := { row := legalKingsRow, standIns := [], harness := (true, "5753d4f937f85e4a5fc238940a01aa79c666fac09043030dc154a74008858a04"), looks := false }, kinds := [], alts := [], laidByText := true, laidKinds := [.data, .data, .data, .data, .data], laidTests := true, laidLooks := .later }
def LegalKingsCardSaid : Prop := Claim7.holds Tryz.pinned (.plain (OpenSpec.ofChange legalKingsSpec)) legalKingsCard

/-- THE TIED CARD OF 'kibitzerlaw17.LegalPart'. -/
def legalPartCard : Claim7 := { stood := { row := legalPartRow, standIns := [], harness := (true, "5753d4f937f85e4a5fc238940a01aa79c666fac09043030dc154a74008858a04"), looks := false }, kinds := [], alts := [], laidByText := true, laidKinds := [.data, .data, .data, .data, .data], laidTests := true, laidLooks := .later }
def LegalPartCardSaid : Prop := Claim7.holds Tryz.pinned (.plain (OpenSpec.ofChange legalPartSpec)) legalPartCard

/-- THE TIED CARD OF 'kibitzerlaw17.LegalClocks'. -/
def legalClocksCard : Claim7 := { stood := { row := legalClocksRow, standIns := [], harness := (true, "5753d4f937f85e4a5fc238940a01aa79c666fac09043030dc154a74008858a04"), looks := false }, kinds := [], alts := [], laidByText := true, laidKinds := [.data, .data, .data, .data, .data], laidTests := true, laidLooks := .later }
def LegalClocksCardSaid : Prop := Claim7.holds Tryz.pinned (.plain (OpenSpec.ofChange legalClocksSpec)) legalClocksCard

/-- THE TIED CARD OF 'kibitzerlaw17.LegalWins'. -/
def legalWinsCard : Claim7 := { stood := { row := legalWinsRow, standIns := [], harness := (true, "5753d4f937f85e4a5fc238940a01aa79c666fac09043030dc154a74008858a04"), looks := false }, kinds := [], alts := [], laidByText := true, laidKinds := [.data, .data, .data, .data, .data], laidTests := true, laidLooks := .later }
def LegalWinsCardSaid : Prop := Claim7.holds Tryz.pinned (.plain (OpenSpec.ofChange legalWinsSpec)) legalWinsCard

/-- THE SECOND FORM's CARD OF 'kibitzerlaw17.LegalList'. -/
def legalListUptoCard : Claim7 := { stood := { row := legalListUptoRow, standIns := [], harness := (true, "5753d4f937f85e4a5fc238940a01aa79c666fac09043030dc154a74008858a04"), looks := false }, kinds := [], alts := [], laidByText := true, laidKinds := [.data, .data, .data, .data, .data], laidTests := true, laidLooks := .later }
def LegalListUptoCardSaid : Prop := Claim7.holds Tryz.pinned (.plain (OpenSpec.upto legalListSpec)) legalListUptoCard

/-- THE SECOND FORM's CARD OF 'kibitzerlaw17.LegalKings'. -/
def legalKingsUptoCard : Claim7 := { stood := { row := legalKingsUptoRow, standIns := [], harness := (true, "5753d4f937f85e4a5fc238940a01aa79c666fac09043030dc154a74008858a04"), looks := false }, kinds := [], alts := [], laidByText := true, laidKinds := [.data, .data, .data, .data, .data], laidTests := true, laidLooks := .later }
def LegalKingsUptoCardSaid : Prop := Claim7.holds Tryz.pinned (.plain (OpenSpec.upto legalKingsSpec)) legalKingsUptoCard

/-- THE SECOND FORM's CARD OF 'kibitzerlaw17.LegalPart'. -/
def legalPartUptoCard : Claim7 := { stood := { row := legalPartUptoRow, standIns := [], harness := (true, "5753d4f937f85e4a5fc238940a01aa79c666fac09043030dc154a74008858a04"), looks := false }, kinds := [], alts := [], laidByText := true, laidKinds := [.data, .data, .data, .data, .data], laidTests := true, laidLooks := .later }
def LegalPartUptoCardSaid : Prop := Claim7.holds Tryz.pinned (.plain (OpenSpec.upto legalPartSpec)) legalPartUptoCard

/-- THE SECOND FORM's CARD OF 'kibitzerlaw17.LegalClocks'. -/
def legalClocksUptoCard : Claim7 := { stood := { row := legalClocksUptoRow, standIns := [], harness := (true, "5753d4f937f85e4a5fc238940a01aa79c666fac09043030dc154a74008858a04"), looks := false }, kinds := [], alts := [], laidByText := true, laidKinds := [.data, .data, .data, .data, .data], laidTests := true, laidLooks := .later }
def LegalClocksUptoCardSaid : Prop := Claim7.holds Tryz.pinned (.plain (OpenSpec.upto legalClocksSpec)) legalClocksUptoCard

/-- THE SECOND FORM's CARD OF 'kibitzerlaw17.LegalWins'. -/
def legalWinsUptoCard : Claim7 := { stood := { row := legalWinsUptoRow, standIns := [], harness := (true, "5753d4f937f85e4a5fc238940a01aa79c666fac09043030dc154a74008858a04"), looks := false }, kinds := [], alts := [], laidByText := true, laidKinds := [.data, .data, .data, .data, .data], laidTests := true, laidLooks := .later }
def LegalWinsUptoCardSaid : Prop := Claim7.holds Tryz.pinned (.plain (OpenSpec.upto legalWinsSpec)) legalWinsUptoCard
end Rows
end Go.Proofs.YteblmnbagbdiiaaGreatDoor
