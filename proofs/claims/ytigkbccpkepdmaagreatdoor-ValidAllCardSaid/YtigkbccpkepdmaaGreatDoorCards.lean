/-
  DERIVED. GIVEN WITH THE SEED: THE CARDS: each row of YtigkbccpkepdmaaGreatDoorRows.lean that lists a variable, with what it lists TIED to the program's text (the seventh form; the later family's looks); each row that meets fmt, with fmt's text TOLD by the authors' own Lean function (tested against real Go, not proved from fmt's source: count such statements apart). THE CARD IS WHAT COUNTS. Prove the row's statement (the work); the ties are given (YtigkbccpkepdmaaGreatDoorTie.lean); close each card by the builder's one call (the guide's Derived/Test/ToyasCard.lean, 'card_holds'). Laid BY PROGRAM, IN A SANDBOX (cutbox-door.mjs). By AI agents, Wed Nov 11 2026. No macro, syntax, notation, axiom, sorry.
-/
import Derived.Test.YtigkbccpkepdmaaGreatDoorRows
import GoSem.ClaimSeven
namespace Go.Proofs.YtigkbccpkepdmaaGreatDoor
namespace Rows

/-- THE TIED CARD OF 'kibitzerlaw12.ValidAll'. -/
def validAllCard : Claim7 := { stood := { row := validAllRow, standIns := [], harness := (true, "5aeb6fd4c9a13a8968648c732ceb768e088a7d8c9b6288981d30f82162ca1dbd"), looks := false }, kinds := [], alts := [], laidByText := true, laidKinds := [.data, .data, .data, .data, .data], laidTests := true, laidLooks := .later }
def ValidAllCardSaid : Prop := Claim7.holds Tryz.pinned (.plain (OpenSpec.ofChange validAllSpec)) validAllCard

/-- THE TIED CARD OF 'kibitzerlaw12.ValidMends'. -/
def validMendsCard : Claim7 := { stood := { row := validMendsRow, standIns := [], harness := (true, "5aeb6fd4c9a13a8968648c732ceb768e088a7d8c9b6288981d30f82162ca1dbd"), looks := false }, kinds := [], alts := [], laidByText := true, laidKinds := [.data, .data, .data, .data, .data], laidTests := true, laidLooks := .later }
def ValidMendsCardSaid : Prop := Claim7.holds Tryz.pinned (.plain (OpenSpec.ofChange validMendsSpec)) validMendsCard

/-- THE SECOND FORM's CARD OF 'kibitzerlaw12.ValidAll'. -/
def validAllUptoCard : Claim7 := { stood := { row := validAllUptoRow, standIns := [], harness := (true, "5aeb6fd4c9a13a8968648c732ceb768e088a7d8c9b6288981d30f82162ca1dbd"), looks := false }, kinds := [], alts := [], laidByText := true, laidKinds := [.data, .data, .data, .data, .data], laidTests := true, laidLooks := .later }
def ValidAllUptoCardSaid : Prop := Claim7.holds Tryz.pinned (.plain (OpenSpec.upto validAllSpec)) validAllUptoCard

/-- THE SECOND FORM's CARD OF 'kibitzerlaw12.ValidMends'. -/
def validMendsUptoCard : Claim7 := { stood := { row := validMendsUptoRow, standIns := [], harness := (true, "5aeb6fd4c9a13a8968648c732ceb768e088a7d8c9b6288981d30f82162ca1dbd"), looks := false }, kinds := [], alts := [], laidByText := true, laidKinds := [.data, .data, .data, .data, .data], laidTests := true, laidLooks := .later }
def ValidMendsUptoCardSaid : Prop := Claim7.holds Tryz.pinned (.plain (OpenSpec.upto validMendsSpec)) validMendsUptoCard
end Rows
end Go.Proofs.YtigkbccpkepdmaaGreatDoor
