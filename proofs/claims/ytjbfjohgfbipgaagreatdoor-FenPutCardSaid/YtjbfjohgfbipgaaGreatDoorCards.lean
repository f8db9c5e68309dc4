/-
  DERIVED. GIVEN WITH THE SEED: THE CARDS: each row of YtjbfjohgfbipgaaGreatDoorRows.lean that lists a variable, with what it lists TIED to the program's text (the seventh form; the later family's looks); each row that meets fmt, with fmt's text TOLD by the authors' own Lean function (tested against real Go, not proved from fmt's source: count such statements apart). THE CARD IS WHAT COUNTS. Prove the row's statement (the work); the ties are given (YtjbfjohgfbipgaaGreatDoorTie.lean); close each card by the builder's one call (the guide's Derived/Test/ToyasCard.lean, 'card_holds'). Laid BY PROGRAM, IN A SANDBOX (cutbox-door.mjs). By AI agents, Wed Nov 11 2026. No macro, syntax, notation, axiom, sorry.
-/
import Derived.Test.YtjbfjohgfbipgaaGreatDoorRows
import GoSem.ClaimSeven
namespace Go.Proofs.YtjbfjohgfbipgaaGreatDoor
namespace Rows

/-- THE TIED CARD OF 'kibitzerlaw10.FenMirror'. -/
def fenMirrorCard : Claim7 := { stood := { row := fenMirrorRow, standIns := [], harness := (true, "3f0e4933936f07d1e2b81392ba74ea1a8af0588c2e9c9b135d2983e613684a71"), looks := true }, kinds := [], alts := [], laidByText := true, laidKinds := [.data, .data, .data, .data, .sentinel, .sentinel, .data, .data, .data, .pinned, .pinned], laidTests := true, laidLooks := .later }
def FenMirrorCardSaid : Prop := Claim7.holds Tryz.pinned (.plain (OpenSpec.ofChange fenMirrorSpec)) fenMirrorCard

/-- THE TIED CARD OF 'kibitzerlaw10.FenPut'. -/
def fenPutCard : Claim7 := { stood := { row := fenPutRow, standIns := [], harness := (true, "3f0e4933936f07d1e2b81392ba74ea1a8af0588c2e9c9b135d2983e613684a71"), looks := true }, kinds := [], alts := [], laidByText := true, laidKinds := [.data, .data, .data, .data, .sentinel, .sentinel, .data, .data, .data, .pinned, .pinned], laidTests := true, laidLooks := .later }
def FenPutCardSaid : Prop := Claim7.holds Tryz.pinned (.plain (OpenSpec.ofChange fenPutSpec)) fenPutCard

/-- THE SECOND FORM's CARD OF 'kibitzerlaw10.FenMirror'. -/
def fenMirrorUptoCard : Claim7 := { stood := { row := fenMirrorUptoRow, standIns := [], harness := (true, "3f0e4933936f07d1e2b81392ba74ea1a8af0588c2e9c9b135d2983e613684a71"), looks := true }, kinds := [], alts := [], laidByText := true, laidKinds := [.data, .data, .data, .data, .sentinel, .sentinel, .data, .data, .data, .pinned, .pinned], laidTests := true, laidLooks := .later }
def FenMirrorUptoCardSaid : Prop := Claim7.holds Tryz.pinned (.plain (OpenSpec.upto fenMirrorSpec)) fenMirrorUptoCard

/-- THE SECOND FORM's CARD OF 'kibitzerlaw10.FenPut'. -/
def fenPutUptoCard : Claim7 := { stood := { row := fenPutUptoRow, standIns := [], harness := (true, "3f0e4933936f07d1e2b81392ba74ea1a8af0588c2e9c9b135d2983e613684a71"), looks := true }, kinds := [], alts := [], laidByText := true, laidKinds := [.data, .data, .data, .data, .sentinel, .sentinel, .data, .data, .data, .pinned, .pinned], laidTests := true, laidLooks := .later }
def FenPutUptoCardSaid : Prop := Claim7.holds Tryz.pinned (.plain (OpenSpec.upto fenPutSpec)) fenPutUptoCard
end Rows
end Go.Proofs.YtjbfjohgfbipgaaGreatDoor
