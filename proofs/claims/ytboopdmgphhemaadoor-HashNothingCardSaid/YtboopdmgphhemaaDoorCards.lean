/-
  DERIVED. GIVEN WITH THE SEED: THE CARDS: each row of YtboopdmgphhemaaDoorRows.lean that lists a variable, with what it lists TIED to the program's text (the seventh form; the later family's looks); each row that meets fmt, with fmt's text TOLD by the authors' own Lean function (tested against real Go, not proved from fmt's source: count such statements apart). THE CARD IS WHAT COUNTS. Prove the row's statement (the work); the ties are given (YtboopdmgphhemaaDoorTie.lean); close each card by the builder's one call (the guide's Derived/Test/ToyasCard.lean, 'card_holds'). Laid BY PROGRAM, IN A SANDBOX (cutbox-door.mjs). By AI agents, Wed Nov 11 2026. No macro, syntax, notation, axiom, sorry.
-/
import Derived.Test.YtboopdmgphhemaaDoorRows
import GoSem.ClaimSeven
namespace Go.Proofs.YtboopdmgphhemaaDoor
namespace Rows

/-- THE TIED CARD OF 'kibitzerlaw09.HashParts'. -/
def hashPartsCard : Claim7 := { stood := { row := hashPartsRow, standIns := [], harness := (true, "890413118c33d346b4f01fbe87240e0c23ed36a8c38dc97713afe366d8ed6c44"), looks := false }, kinds := [], alts := [], laidByText := true, laidKinds := [.data], laidTests := true, laidLooks := .later }
def HashPartsCardSaid : Prop := Claim7.holds Tryd.pinned (.plain (OpenSpec.ofChange hashPartsSpec)) hashPartsCard

/-- THE TIED CARD OF 'kibitzerlaw09.HashRights'. -/
def hashRightsCard : Claim7 := { stood := { row := hashRightsRow, standIns := [], harness := (true, "890413118c33d346b4f01fbe87240e0c23ed36a8c38dc97713afe366d8ed6c44"), looks := false }, kinds := [], alts := [], laidByText := true, laidKinds := [.data], laidTests := true, laidLooks := .later }
def HashRightsCardSaid : Prop := Claim7.holds Tryd.pinned (.plain (OpenSpec.ofChange hashRightsSpec)) hashRightsCard

/-- THE TIED CARD OF 'kibitzerlaw09.HashKey'. -/
def hashKeyCard : Claim7 := { stood := { row := hashKeyRow, standIns := [], harness := (true, "890413118c33d346b4f01fbe87240e0c23ed36a8c38dc97713afe366d8ed6c44"), looks := false }, kinds := [], alts := [], laidByText := true, laidKinds := [.data], laidTests := true, laidLooks := .later }
def HashKeyCardSaid : Prop := Claim7.holds Tryd.pinned (.plain (OpenSpec.ofChange hashKeySpec)) hashKeyCard

/-- THE TIED CARD OF 'kibitzerlaw09.HashPiece'. -/
def hashPieceCard : Claim7 := { stood := { row := hashPieceRow, standIns := [], harness := (true, "890413118c33d346b4f01fbe87240e0c23ed36a8c38dc97713afe366d8ed6c44"), looks := false }, kinds := [], alts := [], laidByText := true, laidKinds := [.data], laidTests := true, laidLooks := .later }
def HashPieceCardSaid : Prop := Claim7.holds Tryd.pinned (.plain (OpenSpec.ofChange hashPieceSpec)) hashPieceCard

/-- THE TIED CARD OF 'kibitzerlaw09.HashOthers'. -/
def hashOthersCard : Claim7 := { stood := { row := hashOthersRow, standIns := [], harness := (true, "890413118c33d346b4f01fbe87240e0c23ed36a8c38dc97713afe366d8ed6c44"), looks := false }, kinds := [], alts := [], laidByText := true, laidKinds := [.data], laidTests := true, laidLooks := .later }
def HashOthersCardSaid : Prop := Claim7.holds Tryd.pinned (.plain (OpenSpec.ofChange hashOthersSpec)) hashOthersCard

/-- THE TIED CARD OF 'kibitzerlaw09.HashClocks'. -/
def hashClocksCard : Claim7 := { stood := { row := hashClocksRow, standIns := [], harness := (true, "890413118c33d346b4f01fbe87240e0c23ed36a8c38dc97713afe366d8ed6c44"), looks := false }, kinds := [], alts := [], laidByText := true, laidKinds := [.data], laidTests := true, laidLooks := .later }
def HashClocksCardSaid : Prop := Claim7.holds Tryd.pinned (.plain (OpenSpec.ofChange hashClocksSpec)) hashClocksCard

/-- THE TIED CARD OF 'kibitzerlaw09.HashNothing'. -/
def hashNothingCard : Claim7 := { stood := { row := hashNothingRow, standIns := [], harness := (true, "890413118c33d346b4f01fbe87240e0c23ed36a8c38dc97713afe366d8ed6c44"), looks := false }, kinds := [], alts := [], laidByText := true, laidKinds := [.data], laidTests := true, laidLooks := .later }
def HashNothingCardSaid : Prop := Claim7.holds Tryd.pinned (.plain (OpenSpec.ofChange hashNothingSpec)) hashNothingCard

/-- THE SECOND FORM's CARD OF 'kibitzerlaw09.HashParts'. -/
def hashPartsUptoCard : Claim7 := { stood := { row := hashPartsUptoRow, standIns := [], harness := (true, "890413118c33d346b4f01fbe87240e0c23ed36a8c38dc97713afe366d8ed6c44"), looks := false }, kinds := [], alts := [], laidByText := true, laidKinds := [.data], laidTests := true, laidLooks := .later }
def HashPartsUptoCardSaid : Prop := Claim7.holds Tryd.pinned (.plain (OpenSpec.upto hashPartsSpec)) hashPartsUptoCard

/-- THE SECOND FORM's CARD OF 'kibitzerlaw09.HashRights'. -/
def hashRightsUptoCard : Claim7 := { stood := { row := hashRightsUptoRow, standIns := [], harness := (true, "890413118c33d346b4f01fbe87240e0c23ed36a8c38dc97713afe366d8ed6c44"), looks := false }, kinds := [], alts := [], laidByText := true, laidKinds := [.data], laidTests := true, laidLooks := .later }
def HashRightsUptoCardSaid : Prop := Claim7.holds Tryd.pinned (.plain (OpenSpec.upto hashRightsSpec)) hashRightsUptoCard

/-- THE SECOND FORM's CARD OF 'kibitzerlaw09.HashKey'. -/
def hashKeyUptoCard : Claim7 := { stood := { row := hashKeyUptoRow, standIns := [], harness := (true, "890413118c33d346b4f01fbe87240e0c23ed36a8c38dc97713afe366d8ed6c44"), looks := false }, kinds := [], alts := [], laidByText := true, laidKinds := [.data], laidTests := true, laidLooks := .later }
def HashKeyUptoCardSaid : Prop := Claim7.holds Tryd.pinned (.plain (OpenSpec.upto hashKeySpec)) hashKeyUptoCard

/-- THE SECOND FORM's CARD OF 'kibitzerlaw09.HashPiece'. -/
def hashPieceUptoCard : Claim7 := { stood := { row := hashPieceUptoRow, standIns := [], harness := (true, "890413118c33d346b4f01fbe87240e0c23ed36a8c38dc97713afe366d8ed6c44"), looks := false }, kinds := [], alts := [], laidByText := true, laidKinds := [.data], laidTests := true, laidLooks := .later }
def HashPieceUptoCardSaid : Prop := Claim7.holds Tryd.pinned (.plain (OpenSpec.upto hashPieceSpec)) hashPieceUptoCard

/-- THE SECOND FORM's CARD OF 'kibitzerlaw09.HashOthers'. -/
def hashOthersUptoCard : Claim7 := { stood := { row := hashOthersUptoRow, standIns := [], harness := (true, "890413118c33d346b4f01fbe87240e0c23ed36a8c38dc97713afe366d8ed6c44"), looks := false }, kinds := [], alts := [], laidByText := true, laidKinds := [.data], laidTests := true, laidLooks := .later }
def HashOthersUptoCardSaid : Prop := Claim7.holds Tryd.pinned (.plain (OpenSpec.upto hashOthersSpec)) hashOthersUptoCard

/-- THE SECOND FORM's CARD OF 'kibitzerlaw09.HashClocks'. -/
def hashClocksUptoCard : Claim7 := { stood := { row := hashClocksUptoRow, standIns := [], harness := (true, "890413118c33d346b4f01fbe87240e0c23ed36a8c38dc97713afe366d8ed6c44"), looks := false }, kinds := [], alts := [], laidByText := true, laidKinds := [.data], laidTests := true, laidLooks := .later }
def HashClocksUptoCardSaid : Prop := Claim7.holds Tryd.pinned (.plain (OpenSpec.upto hashClocksSpec)) hashClocksUptoCard

/-- THE SECOND FORM's CARD OF 'kibitzerlaw09.HashNothing'. -/
def hashNothingUptoCard : Claim7 := { stood := { row := hashNothingUptoRow, standIns := [], harness := (true, "890413118c33d346b4f01fbe87240e0c23ed36a8c38dc97713afe366d8ed6c44"), looks := false }, kinds := [], alts := [], laidByText := true, laidKinds := [.data], laidTests := true, laidLooks := .later }
def HashNothingUptoCardSaid : Prop := Claim7.holds Tryd.pinned (.plain (OpenSpec.upto hashNothingSpec)) hashNothingUptoCard
end Rows
end Go.Proofs.YtboopdmgphhemaaDoor
