/-
  DERIVED. GIVEN WITH THE SEED: THE CARDS: each row of YtmlmilmfnioheaaDoorRows.lean that lists a variable, with what it lists TIED to the program's text (the seventh form; the later family's looks); each row that meets fmt, with fmt's text TOLD by the authors' own Lean function (tested against real Go, not proved from fmt's source: count such statements apart). THE CARD IS WHAT COUNTS. Prove the row's statement (the work); the ties are given (YtmlmilmfnioheaaDoorTie.lean); close each card by the builder's one call (the guide's Derived/Test/ToyasCard.lean, 'card_holds'). Laid BY PROGRAM, IN A SANDBOX (cutbox-door.mjs). By AI agents, Wed Nov 11 2026. No macro, syntax, notation, axiom, sorry.
-/
import Derived.Test.YtmlmilmfnioheaaDoorRows
import GoSem.ClaimSeven
namespace Go.Proofs.YtmlmilmfnioheaaDoor
namespace Rows

/-- THE TIED CARD OF 'kibitzerlaw14.CastleList'. -/
def castleListCard : Claim7 := { stood := { row := castleListRow, standIns := [], harness := (true, "3f0718e67e83a272afcff7ec8077b53a444438de8d31f9282d5e00621a9e8f45"), looks := false }, kinds := [], alts := [], laidByText := true, laidKinds := [.data, .data, .data, .data], laidTests := true, laidLooks := .later }
def CastleListCardSaid : Prop := Claim7.holds Tryd.pinned (.plain (OpenSpec.ofChange castleListSpec)) castleListCard

/-- THE TIED CARD OF 'kibitzerlaw14.CastleGoals'. -/
def castleGoalsCard : Claim7 := { stood := { row := castleGoalsRow, standIns := [], harness := (true, "3f0718e67e83a272afcff7ec8077b53a444438de8d31f9282d5e00621a9e8f45"), looks := false }, kinds := [], alts := [], laidByText := true, laidKinds := [.data, .data, .data, .data], laidTests := true, laidLooks := .later }
def CastleGoalsCardSaid : Prop := Claim7.holds Tryd.pinned (.plain (OpenSpec.ofChange castleGoalsSpec)) castleGoalsCard

/-- THE TIED CARD OF 'kibitzerlaw14.CastleChess'. -/
def castleChessCard : Claim7 := { stood := { row := castleChessRow, standIns := [], harness := (true, "3f0718e67e83a272afcff7ec8077b53a444438de8d31f9282d5e00621a9e8f45"), looks := false }, kinds := [], alts := [], laidByText := true, laidKinds := [.data, .data, .data, .data], laidTests := true, laidLooks := .later }
def CastleChessCardSaid : Prop := Claim7.holds Tryd.pinned (.plain (OpenSpec.ofChange castleChessSpec)) castleChessCard

/-- THE TIED CARD OF 'kibitzerlaw14.CastleRights'. -/
def castleRightsCard : Claim7 := { stood := { row := castleRightsRow, standIns := [], harness := (true, "3f0718e67e83a272afcff7ec8077b53a444438de8d31f9282d5e00621a9e8f45"), looks := false }, kinds := [], alts := [], laidByText := true, laidKinds := [.data, .data, .data, .data], laidTests := true, laidLooks := .later }
def CastleRightsCardSaid : Prop := Claim7.holds Tryd.pinned (.plain (OpenSpec.ofChange castleRightsSpec)) castleRightsCard

/-- THE TIED CARD OF 'kibitzerlaw14.CastleGoes'. -/
def castleGoesCard : Claim7 := { stood := { row := castleGoesRow, standIns := [], harness := (true, "3f0718e67e83a272afcff7ec8077b53a444438de8d31f9282d5e00621a9e8f45"), looks := false }, kinds := [], alts := [], laidByText := true, laidKinds := [.data, .data, .data, .data], laidTests := true, laidLooks := .later }
def CastleGoesCardSaid : Prop := Claim7.holds Tryd.pinned (.plain (OpenSpec.ofChange castleGoesSpec)) castleGoesCard

/-- THE SECOND FORM's CARD OF 'kibitzerlaw14.CastleList'. -/
def castleListUptoCard : Claim7 := { stood := { row := castleListUptoRow, standIns := [], harness := (true, "3f0718e67e83a272afcff7ec8077b53a444438de8d31f9282d5e00621a9e8f45"), looks := false }, kinds := [], alts := [], laidByText := true, laidKinds := [.data, .data, .data, .data], laidTests := true, laidLooks := .later }
def CastleListUptoCardSaid : Prop := Claim7.holds Tryd.pinned (.plain (OpenSpec.upto castleListSpec)) castleListUptoCard

/-- THE SECOND FORM's CARD OF 'kibitzerlaw14.CastleGoals'. -/
def castleGoalsUptoCard : Claim7 := { stood := { row := castleGoalsUptoRow, standIns := [], harness := (true, "3f0718e67e83a272afcff7ec8077b53a444438de8d31f9282d5e00621a9e8f45"), looks := false }, kinds := [], alts := [], laidByText := true, laidKinds := [.data, .data, .data, .data], laidTests := true, laidLooks := .later }
def CastleGoalsUptoCardSaid : Prop := Claim7.holds Tryd.pinned (.plain (OpenSpec.upto castleGoalsSpec)) castleGoalsUptoCard

/-- THE SECOND FORM's CARD OF 'kibitzerlaw14.CastleChess'. -/
def castleChessUptoCard : Claim7 := { stood := { row := castleChessUptoRow, standIns := [], harness := (true, "3f0718e67e83a272afcff7ec8077b53a444438de8d31f9282d5e00621a9e8f45"), looks := false }, kinds := [], alts := [], laidByText := true, laidKinds := [.data, .data, .data, .data], laidTests := true, laidLooks := .later }
def CastleChessUptoCardSaid : Prop := Claim7.holds Tryd.pinned (.plain (OpenSpec.upto castleChessSpec)) castleChessUptoCard

/-- THE SECOND FORM's CARD OF 'kibitzerlaw14.CastleRights'. -/
def castleRightsUptoCard : Claim7 := { stood := { row := castleRightsUptoRow, standIns := [], harness := (true, "3f0718e67e83a272afcff7ec8077b53a444438de8d31f9282d5e00621a9e8f45"), looks := false }, kinds := [], alts := [], laidByText := true, laidKinds := [.data, .data, .data, .data], laidTests := true, laidLooks := .later }
def CastleRightsUptoCardSaid : Prop := Claim7.holds Tryd.pinned (.plain (OpenSpec.upto castleRightsSpec)) castleRightsUptoCard

/-- THE SECOND FORM's CARD OF 'kibitzerlaw14.CastleGoes'. -/
def castleGoesUptoCard : Claim7 := { stood := { row := castleGoesUptoRow, standIns := [], harness := (true, "3f0718e67e83a272afcff7ec8077b53a444438de8d31f9282d5e00621a9e8f45"), looks := false }, kinds := [], alts := [], laidByText := true, laidKinds := [.data, .data, .data, .data], laidTests := true, laidLooks := .later }
def CastleGoesUptoCardSaid : Prop := Claim7.holds Tryd.pinned (.plain (OpenSpec.upto castleGoesSpec)) castleGoesUptoCard
end Rows
end Go.Proofs.YtmlmilmfnioheaaDoor
