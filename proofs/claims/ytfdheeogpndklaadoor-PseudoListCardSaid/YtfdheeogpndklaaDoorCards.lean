/-
  DERIVED. GIVEN WITH THE SEED: THE CARDS: each row of YtfdheeogpndklaaDoorRows.lean that lists a variable, with what it lists TIED to the program's text (the seventh form; the later family's looks); each row that meets fmt, with fmt's text TOLD by the authors' own Lean function (tested against real Go, not proved from fmt's source: count such statements apart). THE CARD IS WHAT COUNTS. Prove the row's statement (the work); the ties are given (YtfdheeogpndklaaDoorTie.lean); close each card by the builder's one call (the guide's Derived/Test/ToyasCard.lean, 'card_holds'). Laid BY PROGRAM, IN A SANDBOX (cutbox-door.mjs). By AI agents, Wed Nov 11 2026. No macro, syntax, notation, axiom, sorry.
-/
import Derived.Test.YtfdheeogpndklaaDoorRows
import GoSem.ClaimSeven
namespace Go.Proofs.YtfdheeogpndklaaDoor
namespace Rows

/-- THE TIED CARD OF 'kibitzerlaw13.PseudoList'. -/
def pseudoListCard : Claim7 := { stood := { row := pseudoListRow, standIns := [], harness := (true, "5f3366bf2a4a31f8ea4405b932a3237c133b922ae44c14001ae50fe9eb6566f0"), looks := false }, kinds := [], alts := [], laidByText := true, laidKinds := [.data, .data, .data, .data], laidTests := true, laidLooks := .later }
def PseudoListCardSaid : Prop := Claim7.holds Tryd.pinned (.plain (OpenSpec.ofChange pseudoListSpec)) pseudoListCard

/-- THE TIED CARD OF 'kibitzerlaw13.PseudoBack'. -/
def pseudoBackCard : Claim7 := { stood := { row := pseudoBackRow, standIns := [], harness := (true, "5f3366bf2a4a31f8ea4405b932a3237c133b922ae44c14001ae50fe9eb6566f0"), looks := false }, kinds := [], alts := [], laidByText := true, laidKinds := [.data, .data, .data, .data], laidTests := true, laidLooks := .later }
def PseudoBackCardSaid : Prop := Claim7.holds Tryd.pinned (.plain (OpenSpec.ofChange pseudoBackSpec)) pseudoBackCard

/-- THE TIED CARD OF 'kibitzerlaw13.PseudoOwn'. -/
def pseudoOwnCard : Claim7 := { stood := { row := pseudoOwnRow, standIns := [], harness := (true, "5f3366bf2a4a31f8ea4405b932a3237c133b922ae44c14001ae50fe9eb6566f0"), looks := false }, kinds := [], alts := [], laidByText := true, laidKinds := [.data, .data, .data, .data], laidTests := true, laidLooks := .later }
def PseudoOwnCardSaid : Prop := Claim7.holds Tryd.pinned (.plain (OpenSpec.ofChange pseudoOwnSpec)) pseudoOwnCard

/-- THE TIED CARD OF 'kibitzerlaw13.PseudoLess'. -/
def pseudoLessCard : Claim7 := { stood := { row := pseudoLessRow, standIns := [], harness := (true, "5f3366bf2a4a31f8ea4405b932a3237c133b922ae44c14001ae50fe9eb6566f0"), looks := false }, kinds := [], alts := [], laidByText := true, laidKinds := [.data, .data, .data, .data], laidTests := true, laidLooks := .later }
def PseudoLessCardSaid : Prop := Claim7.holds Tryd.pinned (.plain (OpenSpec.ofChange pseudoLessSpec)) pseudoLessCard

/-- THE SECOND FORM's CARD OF 'kibitzerlaw13.PseudoList'. -/
def pseudoListUptoCard : Claim7 := { stood := { row := pseudoListUptoRow, standIns := [], harness := (true, "5f3366bf2a4a31f8ea4405b932a3237c133b922ae44c14001ae50fe9eb6566f0"), looks := false }, kinds := [], alts := [], laidByText := true, laidKinds := [.data, .data, .data, .data], laidTests := true, laidLooks := .later }
def PseudoListUptoCardSaid : Prop := Claim7.holds Tryd.pinned (.plain (OpenSpec.upto pseudoListSpec)) pseudoListUptoCard

/-- THE SECOND FORM's CARD OF 'kibitzerlaw13.PseudoBack'. -/
def pseudoBackUptoCard : Claim7 := { stood := { row := pseudoBackUptoRow, standIns := [], harness := (true, "5f3366bf2a4a31f8ea4405b932a3237c133b922ae44c14001ae50fe9eb6566f0"), looks := false }, kinds := [], alts := [], laidByText := true, laidKinds := [.data, .data, .data, .data], laidTests := true, laidLooks := .later }
def PseudoBackUptoCardSaid : Prop := Claim7.holds Tryd.pinned (.plain (OpenSpec.upto pseudoBackSpec)) pseudoBackUptoCard

/-- THE SECOND FORM's CARD OF 'kibitzerlaw13.PseudoOwn'. -/
def pseudoOwnUptoCard : Claim7 := { stood := { row := pseudoOwnUptoRow, standIns := [], harness := (true, "5f3366bf2a4a31f8ea4405b932a3237c133b922ae44c14001ae50fe9eb6566f0"), looks := false }, kinds := [], alts := [], laidByText := true, laidKinds := [.data, .data, .data, .data], laidTests := true, laidLooks := .later }
def PseudoOwnUptoCardSaid : Prop := Claim7.holds Tryd.pinned (.plain (OpenSpec.upto pseudoOwnSpec)) pseudoOwnUptoCard

/-- THE SECOND FORM's CARD OF 'kibitzerlaw13.PseudoLess'. -/
def pseudoLessUptoCard : Claim7 := { stood := { row := pseudoLessUptoRow, standIns := [], harness := (true, "5f3366bf2a4a31f8ea4405b932a3237c133b922ae44c14001ae50fe9eb6566f0"), looks := false }, kinds := [], alts := [], laidByText := true, laidKinds := [.data, .data, .data, .data], laidTests := true, laidLooks := .later }
def PseudoLessUptoCardSaid : Prop := Claim7.holds Tryd.pinned (.plain (OpenSpec.upto pseudoLessSpec)) pseudoLessUptoCard
end Rows
end Go.Proofs.YtfdheeogpndklaaDoor
