/-
  DERIVED. GIVEN WITH THE SEED: THE CARDS: each row of YtkeoadcckbcccaaDoorRows.lean that lists a variable, with what it lists TIED to the program's text (the seventh form; the later family's looks); each row that meets fmt, with fmt's text TOLD by the authors' own Lean function (tested against real Go, not proved from fmt's source: count such statements apart). THE CARD IS WHAT COUNTS. Prove the row's statement (the work); the ties are given (YtkeoadcckbcccaaDoorTie.lean); close each card by the builder's one call (the guide's Derived/Test/ToyasCard.lean, 'card_holds'). Laid BY PROGRAM, IN A SANDBOX (cutbox-door.mjs). By AI agents, Wed Nov 11 2026. No macro, syntax, notation, axiom, sorry.
-/
import Derived.Test.YtkeoadcckbcccaaDoorRows
import GoSem.ClaimSeven
namespace Go.Proofs.YtkeoadcckbcccaaDoor
namespace Rows

/-- THE TIED CARD OF 'kibitzerlaw07.RulesNames'. -/
def rulesNamesCard : Claim7 := { stood := { row := rulesNamesRow, standIns := [], harness := (true, "75a72d69b07088c721cce7f036b72290f09f5e40846dcf8caa1c340538d6c7c1"), looks := false }, kinds := [], alts := [], laidByText := true, laidKinds := [.data], laidTests := true, laidLooks := .later }
def RulesNamesCardSaid : Prop := Claim7.holds Tryd.pinned (.plain (OpenSpec.ofChange rulesNamesSpec)) rulesNamesCard

/-- THE TIED CARD OF 'kibitzerlaw07.RulesHave'. -/
def rulesHaveCard : Claim7 := { stood := { row := rulesHaveRow, standIns := [], harness := (true, "75a72d69b07088c721cce7f036b72290f09f5e40846dcf8caa1c340538d6c7c1"), looks := false }, kinds := [], alts := [], laidByText := true, laidKinds := [.data], laidTests := true, laidLooks := .later }
def RulesHaveCardSaid : Prop := Claim7.holds Tryd.pinned (.plain (OpenSpec.ofChange rulesHaveSpec)) rulesHaveCard

/-- THE TIED CARD OF 'kibitzerlaw07.RulesStart'. -/
def rulesStartCard : Claim7 := { stood := { row := rulesStartRow, standIns := [], harness := (true, "75a72d69b07088c721cce7f036b72290f09f5e40846dcf8caa1c340538d6c7c1"), looks := false }, kinds := [], alts := [], laidByText := true, laidKinds := [.data, .data], laidTests := true, laidLooks := .later }
def RulesStartCardSaid : Prop := Claim7.holds Tryd.pinned (.plain (OpenSpec.ofChange rulesStartSpec)) rulesStartCard

/-- THE TIED CARD OF 'kibitzerlaw07.Rules960'. -/
def rules960Card : Claim7 := { stood := { row := rules960Row, standIns := [], harness := (true, "75a72d69b07088c721cce7f036b72290f09f5e40846dcf8caa1c340538d6c7c1"), looks := false }, kinds := [], alts := [], laidByText := true, laidKinds := [.data, .data], laidTests := true, laidLooks := .later }
def Rules960CardSaid : Prop := Claim7.holds Tryd.pinned (.plain (OpenSpec.ofChange rules960Spec)) rules960Card

/-- THE TIED CARD OF 'kibitzerlaw07.RulesRoundTrip'. -/
def rulesRoundTripCard : Claim7 := { stood := { row := rulesRoundTripRow, standIns := [], harness := (true, "75a72d69b07088c721cce7f036b72290f09f5e40846dcf8caa1c340538d6c7c1"), looks := false }, kinds := [], alts := [], laidByText := true, laidKinds := [.data, .data], laidTests := true, laidLooks := .later }
def RulesRoundTripCardSaid : Prop := Claim7.holds Tryd.pinned (.plain (OpenSpec.ofChange rulesRoundTripSpec)) rulesRoundTripCard

/-- THE TIED CARD OF 'kibitzerlaw07.RulesCounts'. -/
def rulesCountsCard : Claim7 := { stood := { row := rulesCountsRow, standIns := [], harness := (true, "75a72d69b07088c721cce7f036b72290f09f5e40846dcf8caa1c340538d6c7c1"), looks := false }, kinds := [], alts := [], laidByText := true, laidKinds := [.data, .data], laidTests := true, laidLooks := .later }
def RulesCountsCardSaid : Prop := Claim7.holds Tryd.pinned (.plain (OpenSpec.ofChange rulesCountsSpec)) rulesCountsCard

/-- THE SECOND FORM's CARD OF 'kibitzerlaw07.RulesNames'. -/
def rulesNamesUptoCard : Claim7 := { stood := { row := rulesNamesUptoRow, standIns := [], harness := (true, "75a72d69b07088c721cce7f036b72290f09f5e40846dcf8caa1c340538d6c7c1"), looks := false }, kinds := [], alts := [], laidByText := true, laidKinds := [.data], laidTests := true, laidLooks := .later }
def RulesNamesUptoCardSaid : Prop := Claim7.holds Tryd.pinned (.plain (OpenSpec.upto rulesNamesSpec)) rulesNamesUptoCard

/-- THE SECOND FORM's CARD OF 'kibitzerlaw07.RulesHave'. -/
def rulesHaveUptoCard : Claim7 := { stood := { row := rulesHaveUptoRow, standIns := [], harness := (true, "75a72d69b07088c721cce7f036b72290f09f5e40846dcf8caa1c340538d6c7c1"), looks := false }, kinds := [], alts := [], laidByText := true, laidKinds := [.data], laidTests := true, laidLooks := .later }
def RulesHaveUptoCardSaid : Prop := Claim7.holds Tryd.pinned (.plain (OpenSpec.upto rulesHaveSpec)) rulesHaveUptoCard

/-- THE SECOND FORM's CARD OF 'kibitzerlaw07.RulesStart'. -/
def rulesStartUptoCard : Claim7 := { stood := { row := rulesStartUptoRow, standIns := [], harness := (true, "75a72d69b07088c721cce7f036b72290f09f5e40846dcf8caa1c340538d6c7c1"), looks := false }, kinds := [], alts := [], laidByText := true, laidKinds := [.data, .data], laidTests := true, laidLooks := .later }
def RulesStartUptoCardSaid : Prop := Claim7.holds Tryd.pinned (.plain (OpenSpec.upto rulesStartSpec)) rulesStartUptoCard

/-- THE SECOND FORM's CARD OF 'kibitzerlaw07.Rules960'. -/
def rules960UptoCard : Claim7 := { stood := { row := rules960UptoRow, standIns := [], harness := (true, "75a72d69b07088c721cce7f036b72290f09f5e40846dcf8caa1c340538d6c7c1"), looks := false }, kinds := [], alts := [], laidByText := true, laidKinds := [.data, .data], laidTests := true, laidLooks := .later }
def Rules960UptoCardSaid : Prop := Claim7.holds Tryd.pinned (.plain (OpenSpec.upto rules960Spec)) rules960UptoCard

/-- THE SECOND FORM's CARD OF 'kibitzerlaw07.RulesRoundTrip'. -/
def rulesRoundTripUptoCard : Claim7 := { stood := { row := rulesRoundTripUptoRow, standIns := [], harness := (true, "75a72d69b07088c721cce7f036b72290f09f5e40846dcf8caa1c340538d6c7c1"), looks := false }, kinds := [], alts := [], laidByText := true, laidKinds := [.data, .data], laidTests := true, laidLooks := .later }
def RulesRoundTripUptoCardSaid : Prop := Claim7.holds Tryd.pinned (.plain (OpenSpec.upto rulesRoundTripSpec)) rulesRoundTripUptoCard

/-- THE SECOND FORM's CARD OF 'kibitzerlaw07.RulesCounts'. -/
def rulesCountsUptoCard : Claim7 := { stood := { row := rulesCountsUptoRow, standIns := [], harness := (true, "75a72d69b07088c721cce7f036b72290f09f5e40846dcf8caa1c340538d6c7c1"), looks := false }, kinds := [], alts := [], laidByText := true, laidKinds := [.data, .data], laidTests := true, laidLooks := .later }
def RulesCountsUptoCardSaid : Prop := Claim7.holds Tryd.pinned (.plain (OpenSpec.upto rulesCountsSpec)) rulesCountsUptoCard
end Rows
end Go.Proofs.YtkeoadcckbcccaaDoor
