/-
  NARROWER THAN 'FOR EVERY INPUT', by the rows' own cells (each row's printed sentence says how): LegalList: laid · LegalKings: laid · LegalPart: laid · LegalClocks: laid · LegalWins: laid.
  DERIVED. THE GIVEN ROWS OF THIS SEAT. 5 by the template 'for every input the law returns true; each argument reads behind the call as it read before'; 0 by the template 'total and deterministic' (their statements: YteblmnbagbdiiaaGreatDoorTotals.lean).
  GIVEN WITH THE SEED: the statements are not yours to turn. If you find one false, say at which input.
  Laid BY PROGRAM, IN A SANDBOX (cutbox-rows.mjs): the forced cells as the released guide's own fill.sh prints them over the translation 18342bd51bf7f13a… (all of the seat's roots in one cut). By AI agents, Wed Nov 11 2026. No macro, syntax, notation, axiom, sorry.
-/
import Derived.Test.YteblmnbagbdiiaaGreatDoorChecked
import GoSem.Claim
import GoSem.ClaimJoined
import GoSem.ClaimMapViews
import Derived.JoinedTies
import Derived.KernelRfl
namespace Go.Proofs.YteblmnbagbdiiaaGreatDoor
/- THE CELL 'sum', in the pinned program and in every row, IS THE sha256 OF THE DUMP (.gsa) THAT YteblmnbagbdiiaaGreatDoorProg.lean LOADS. Nothing in Lean hashes anything: it is a label: what it is worth is what the hold of that sum in a sandbox is worth. -/
noncomputable def Tryz.pinned : Pinned := { name := "yteblmnbagbdiiaagreatdoor", sum := "18342bd51bf7f13aa5fbd514a161b4abc2e9bc191879b0827498ac9262e9d2a9", checked := Tryz.checked }
namespace Rows
def none {H : Type} : Left H := { results := [], args := [] }

/- WHAT THE LISTED PACKAGE-LEVEL VARIABLES READ AS WHEN THE CALL BEGINS. Each datum BY PROGRAM (the guide's laid-datum.mjs) off the statement by which the dump's own 'gosem.cut.vars' lays the variable. In a bare row this is a premise. The card (YteblmnbagbdiiaaGreatDoorCards.lean) ties it to the program's text. -/
def laid_math_bits_deBruijn64tab {H : Type} : DataW H := .agg [.lit (.int .u8 0), .lit (.int .u8 1), .lit (.int .u8 56), .lit (.int .u8 2), .lit (.int .u8 57), .lit (.int .u8 49), .lit (.int .u8 28), .lit (.int .u8 3), .lit (.int .u8 61), .lit (.int .u8 58), .lit (.int .u8 42), .lit (.int .u8 50), .lit (.int .u8 38), .lit (.int .u8 29), .lit (.int .u8 17), .lit (.int .u8 4), .lit (.int .u8 62), .lit (.int .u8 47), .lit (.int .u8 59), .lit (.int .u8 36), .lit (.int .u8 45), .lit (.int .u8 43), .lit (.int .u8 51), .lit (.int .u8 22), .lit (.int .u8 53), .lit (.int .u8 39), .lit (.int .u8 33), .lit (.int .u8 30), .lit (.int .u8 24), .lit (.int .u8 18), .lit (.int .u8 12), .lit (.int .u8 5), .lit (.int .u8 63), .lit (.int .u8 55), .lit (.int .u8 48), .lit (.int .u8 27), .lit (.int .u8 60), .lit (.int .u8 41), .lit (.int .u8 37), .lit (.int .u8 16), .lit (.int .u8 46), .lit (.int .u8 35), .lit (.int .u8 44), .lit (.int .u8 21), .lit (.int .u8 52), .lit (.int .u8 32), .lit (.int .u8 23), .lit (.int .u8 11), .lit (.int .u8 54), .lit (.int .u8 26), .lit (.int .u8 40), .lit (.int .u8 15), .lit (.int .u8 34), .lit (.int .u8 20), .lit (.int .u8 31), .lit (.int .u8 10), .lit (.int .u8 25), .lit (.int .u8 14), .lit (.int .u8 19), .lit (.int .u8 9), .lit (.int .u8 13), .lit (.int .u8 8), .lit (.int .u8 7), .lit (.int .u8 6)]
def laid_kibitzer_bits_leads {H : Type} : DataW H := .agg [.lit (.int .i64 8), .lit (.int .i64 9), .lit (.int .i64 1), .lit (.int .i64 (-7)), .lit (.int .i64 (-8)), .lit (.int .i64 (-9)), .lit (.int .i64 (-1)), .lit (.int .i64 7)]
def laid_kibitzer_rules_variants {H : Type} : DataW H := .agg [.agg [.lit (.string [115, 116, 97, 110, 100, 97, 114, 100]), .agg [.lit (.bool true), .lit (.bool true)], .lit (.bool true), .lit (.bool false), .lit (.bool true), .lit (.int .u8 5)], .agg [.lit (.string [99, 104, 101, 115, 115, 57, 54, 48]), .agg [.lit (.bool true), .lit (.bool true)], .lit (.bool true), .lit (.bool false), .lit (.bool true), .lit (.int .u8 5)], .agg [.lit (.string [99, 114, 97, 122, 121, 104, 111, 117, 115, 101]), .agg [.lit (.bool true), .lit (.bool true)], .lit (.bool true), .lit (.bool true), .lit (.bool true), .lit (.int .u8 5)], .agg [.lit (.string [97, 116, 111, 109, 105, 99]), .agg [.lit (.bool true), .lit (.bool true)], .lit (.bool true), .lit (.bool false), .lit (.bool true), .lit (.int .u8 5)], .agg [.lit (.string [97, 110, 116, 105, 99, 104, 101, 115, 115]), .agg [.lit (.bool false), .lit (.bool false)], .lit (.bool false), .lit (.bool false), .lit (.bool true), .lit (.int .u8 6)], .agg [.lit (.string [116, 104, 114, 101, 101, 99, 104, 101, 99, 107]), .agg [.lit (.bool true), .lit (.bool true)], .lit (.bool true), .lit (.bool false), .lit (.bool true), .lit (.int .u8 5)], .agg [.lit (.string [107, 105, 110, 103, 104, 105, 108, 108]), .agg [.lit (.bool true), .lit (.bool true)], .lit (.bool true), .lit (.bool false), .lit (.bool true), .lit (.int .u8 5)], .agg [.lit (.string [104, 111, 114, 100, 101]), .agg [.lit (.bool false), .lit (.bool true)], .lit (.bool true), .lit (.bool false), .lit (.bool true), .lit (.int .u8 5)], .agg [.lit (.string [114, 97, 99, 105, 110, 103]), .agg [.lit (.bool true), .lit (.bool true)], .lit (.bool false), .lit (.bool false), .lit (.bool false), .lit (.int .u8 0)]]
def laid_kibitzer_rules_knights {H : Type} : DataW H := .agg [.agg [.lit (.int .i64 0), .lit (.int .i64 1)], .agg [.lit (.int .i64 0), .lit (.int .i64 2)], .agg [.lit (.int .i64 0), .lit (.int .i64 3)], .agg [.lit (.int .i64 0), .lit (.int .i64 4)], .agg [.lit (.int .i64 1), .lit (.int .i64 2)], .agg [.lit (.int .i64 1), .lit (.int .i64 3)], .agg [.lit (.int .i64 1), .lit (.int .i64 4)], .agg [.lit (.int .i64 2), .lit (.int .i64 3)], .agg [.lit (.int .i64 2), .lit (.int .i64 4)], .agg [.lit (.int .i64 3), .lit (.int .i64 4)]]
def laid_kibitzer_castle_goals {H : Type} : DataW H := .agg [.agg [.lit (.int .i64 6), .lit (.int .i64 5)], .agg [.lit (.int .i64 2), .lit (.int .i64 3)]]

/-- 'kibitzerlaw17.LegalList': WHATEVER THE INPUT: true; the input reads as it did. -/
def legalListSpec : ChangeSpec := { name := "legalList", fn := fun _ => fun
  | [d] => { results := [.lit (.bool true)], args := [d] }
  | _ => none }
def legalListRow : OpenClaim := { program := "yteblmnbagbdiiaagreatdoor", sum := "18342bd51bf7f13aa5fbd514a161b4abc2e9bc191879b0827498ac9262e9d2a9", func := "kibitzer/kibitzerlaw17.LegalList", spec := "legalList", unfollowed := true, recurses := true, named := ["math/bits.deBruijn64tab", "kibitzer/rules.variants", "kibitzer/castle.goals", "kibitzer/bits.leads", "kibitzer/rules.knights"], apart := false, laid := [("math/bits.deBruijn64tab", laid_math_bits_deBruijn64tab), ("kibitzer/bits.leads", laid_kibitzer_bits_leads), ("kibitzer/rules.variants", laid_kibitzer_rules_variants), ("kibitzer/rules.knights", laid_kibitzer_rules_knights), ("kibitzer/castle.goals", laid_kibitzer_castle_goals)] }
def LegalListSaid : Prop := legalListRow.holds Tryz.pinned (OpenSpec.ofChange legalListSpec)

/-- ITS FALSE NEIGHBOUR: 'it returns false'. Refute it at one input. -/
def legalListWrong : ChangeSpec := { name := "legalList", fn := fun _ => fun
  | [d] => { results := [.lit (.bool false)], args := [d] }
  | _ => none }
def LegalListWrongFalsely : Prop := legalListRow.holds Tryz.pinned (OpenSpec.ofChange legalListWrong)

/-- 'kibitzerlaw17.LegalKings': WHATEVER THE INPUT: true; the input reads as it did. -/
def legalKingsSpec : ChangeSpec := { name := "legalKings", fn := fun _ => fun
  | [d] => { results := [.lit (.bool true)], args := [d] }
  | _ => none }
def legalKingsRow : OpenClaim := { program := "yteblmnbagbdiiaagreatdoor", sum := "18342bd51bf7f13aa5fbd514a161b4abc2e9bc191879b0827498ac9262e9d2a9", func := "kibitzer/kibitzerlaw17.LegalKings", spec := "legalKings", unfollowed := true, recurses := true, named := ["kibitzer/rules.knights", "kibitzer/rules.variants", "math/bits.deBruijn64tab", "kibitzer/castle.goals", "kibitzer/bits.leads"], apart := false, laid := [("math/bits.deBruijn64tab", laid_math_bits_deBruijn64tab), ("kibitzer/bits.leads", laid_kibitzer_bits_leads), ("kibitzer/rules.variants", laid_kibitzer_rules_variants), ("kibitzer/rules.knights", laid_kibitzer_rules_knights), ("kibitzer/castle.goals", laid_kibitzer_castle_goals)] }
def LegalKingsSaid : Prop := legalKingsRow.holds Tryz.pinned (OpenSpec.ofChange legalKingsSpec)

/-- ITS FALSE NEIGHBOUR: 'it returns false'. Refute it at one input. -/
def legalKingsWrong : ChangeSpec := { name := "legalKings", fn := fun _ => fun
  | [d] => { results := [.lit (.bool false)], args := [d] }
  | _ => none }
def LegalKingsWrongFalsely : Prop := legalKingsRow.holds Tryz.pinned (OpenSpec.ofChange legalKingsWrong)

/-- 'kibitzerlaw17.LegalPart': WHATEVER THE INPUT: true; the input reads as it did. -/
def legalPartSpec : ChangeSpec := { name := "legalPart", fn := fun _ => fun
  | [d] => { results := [.lit (.bool true)], args := [d] }
  | _ => none }
def legalPartRow : OpenClaim := { program := "yteblmnbagbdiiaagreatdoor", sum := "18342bd51bf7f13aa5fbd514a161b4abc2e9bc191879b0827498ac9262e9d2a9", func := "kibitzer/kibitzerlaw17.LegalPart", spec := "legalPart", unfollowed := true, recurses := true, named := ["kibitzer/rules.knights", "kibitzer/rules.variants", "math/bits.deBruijn64tab", "kibitzer/castle.goals", "kibitzer/bits.leads"], apart := false, laid := [("math/bits.deBruijn64tab", laid_math_bits_deBruijn64tab), ("kibitzer/bits.leads", laid_kibitzer_bits_leads), ("kibitzer/rules.variants", laid_kibitzer_rules_variants), ("kibitzer/rules.knights", laid_kibitzer_rules_knights), ("kibitzer/castle.goals", laid_kibitzer_castle_goals)] }
def LegalPartSaid : Prop := legalPartRow.holds Tryz.pinned (OpenSpec.ofChange legalPartSpec)

/-- ITS FALSE NEIGHBOUR: 'it returns false'. Refute it at one input. -/
def legalPartWrong : ChangeSpec := { name := "legalPart", fn := fun _ => fun
  | [d] => { results := [.lit (.bool false)], args := [d] }
  | _ => none }
def LegalPartWrongFalsely : Prop := legalPartRow.holds Tryz.pinned (OpenSpec.ofChange legalPartWrong)

/-- 'kibitzerlaw17.LegalClocks': WHATEVER THE INPUT: true; the input reads as it did. -/
def legalClocksSpec : ChangeSpec := { name := "legalClocks", fn := fun _ => fun
  | [d1, d2, d3] => { results := [.lit (.bool true)], args := [d1, d2, d3] }
  | _ => none }
def legalClocksRow : OpenClaim := { program := "yteblmnbagbdiiaagreatdoor", sum := "18342bd51bf7f13aa5fbd514a161b4abc2e9bc191879b0827498ac9262e9d2a9", func := "kibitzer/kibitzerlaw17.LegalClocks", spec := "legalClocks", unfollowed := true, recurses := true, named := ["kibitzer/rules.knights", "kibitzer/rules.variants", "math/bits.deBruijn64tab", "kibitzer/castle.goals", "kibitzer/bits.leads"], apart := false, laid := [("math/bits.deBruijn64tab", laid_math_bits_deBruijn64tab), ("kibitzer/bits.leads", laid_kibitzer_bits_leads), ("kibitzer/rules.variants", laid_kibitzer_rules_variants), ("kibitzer/rules.knights", laid_kibitzer_rules_knights), ("kibitzer/castle.goals", laid_kibitzer_castle_goals)] }
def LegalClocksSaid : Prop := legalClocksRow.holds Tryz.pinned (OpenSpec.ofChange legalClocksSpec)

/-- ITS FALSE NEIGHBOUR: 'it returns false'. Refute it at one input. -/
def legalClocksWrong : ChangeSpec := { name := "legalClocks", fn := fun _ => fun
  | [d1, d2, d3] => { results := [.lit (.bool false)], args := [d1, d2, d3] }
  | _ => none }
def LegalClocksWrongFalsely : Prop := legalClocksRow.holds Tryz.pinned (OpenSpec.ofChange legalClocksWrong)

/-- 'kibitzerlaw17.LegalWins': WHATEVER THE INPUT: true; the input reads as it did. -/
def legalWinsSpec : ChangeSpec := { name := "legalWins", fn := fun _ => fun
  | [d] => { results := [.lit (.bool true)], args := [d] }
  | _ => none }
def legalWinsRow : OpenClaim := { program := "yteblmnbagbdiiaagreatdoor", sum := "18342bd51bf7f13aa5fbd514a161b4abc2e9bc191879b0827498ac9262e9d2a9", func := "kibitzer/kibitzerlaw17.LegalWins", spec := "legalWins", unfollowed := true, recurses := true, named := ["kibitzer/rules.knights", "kibitzer/rules.variants", "math/bits.deBruijn64tab", "kibitzer/castle.goals", "kibitzer/bits.leads"], apart := false, laid := [("math/bits.deBruijn64tab", laid_math_bits_deBruijn64tab), ("kibitzer/bits.leads", laid_kibitzer_bits_leads), ("kibitzer/rules.variants", laid_kibitzer_rules_variants), ("kibitzer/rules.knights", laid_kibitzer_rules_knights), ("kibitzer/castle.goals", laid_kibitzer_castle_goals)] }
def LegalWinsSaid : Prop := legalWinsRow.holds Tryz.pinned (OpenSpec.ofChange legalWinsSpec)

/-- ITS FALSE NEIGHBOUR: 'it returns false'. Refute it at one input. -/
def legalWinsWrong : ChangeSpec := { name := "legalWins", fn := fun _ => fun
  | [d] => { results := [.lit (.bool false)], args := [d] }
  | _ => none }
def LegalWinsWrongFalsely : Prop := legalWinsRow.holds Tryz.pinned (OpenSpec.ofChange legalWinsWrong)

/- THE SECOND FORM. 'bulk': how many values and letters a reading holds, each counted each time it is reached (what is shared counts as often as it is met; a slice's spare places count too). A statement '..UptoSaid' is the law's where the arguments, and the package variables that the reading takes, are together of bulk at most 1048576: NARROWER than '..Said'. Prove '..Said' where nothing that the law and all that it calls make is longer than what came in: it says more and counts as full. Else prove '..UptoSaid'. A law counts once. -/
mutual
def uptoBulk {H : Type} : DataW H → Nat
  | .lit (.string bytes) => bytes.length + 1
  | .lit _ => 1
  | .nil => 1
  | .ptr d => uptoBulk d + 1
  | .slice elems spare => uptoBulkAll elems + uptoBulkAll spare + 1
  | .agg parts => uptoBulkAll parts + 1
  | .iface _ d => uptoBulk d + 1
  | .map entries => uptoBulkEntries entries + 1
  | .held _ => 1
def uptoBulkAll {H : Type} : List (DataW H) → Nat
  | [] => 0
  | d :: r => uptoBulk d + uptoBulkAll r
def uptoBulkEntries {H : Type} : List (Lit × DataW H) → Nat
  | [] => 0
  | x :: r => uptoBulkEntry x + uptoBulkEntries r
def uptoBulkEntry {H : Type} : Lit × DataW H → Nat
  | (.string bytes, d) => bytes.length + uptoBulk d + 1
  | (_, d) => uptoBulk d + 1
 end
def uptoSmall : (H : Type) → List (DataW H) → Bool := fun _ ds => decide (uptoBulkAll ds ≤ 1048576)
def OpenSpec.upto (s : _root_.Go.ChangeSpec) : _root_.Go.OpenSpec := { _root_.Go.OpenSpec.ofChange s with cond := some uptoSmall }

/-- 'kibitzerlaw17.LegalList', WHERE WHAT IT READS IS OF BULK AT MOST 1048576: true; the input reads as it did. -/
def legalListUptoRow : OpenClaim := { program := "yteblmnbagbdiiaagreatdoor", sum := "18342bd51bf7f13aa5fbd514a161b4abc2e9bc191879b0827498ac9262e9d2a9", func := "kibitzer/kibitzerlaw17.LegalList", spec := "legalList", unfollowed := true, recurses := true, named := ["math/bits.deBruijn64tab", "kibitzer/rules.variants", "kibitzer/castle.goals", "kibitzer/bits.leads", "kibitzer/rules.knights"], apart := false, laid := [("math/bits.deBruijn64tab", laid_math_bits_deBruijn64tab), ("kibitzer/bits.leads", laid_kibitzer_bits_leads), ("kibitzer/rules.variants", laid_kibitzer_rules_variants), ("kibitzer/rules.knights", laid_kibitzer_rules_knights), ("kibitzer/castle.goals", laid_kibitzer_castle_goals)], narrowed := true }
def LegalListUptoSaid : Prop := legalListUptoRow.holds Tryz.pinned (OpenSpec.upto legalListSpec)

/-- 'kibitzerlaw17.LegalKings', WHERE WHAT IT READS IS OF BULK AT MOST 1048576: true; the input reads as it did. -/
def legalKingsUptoRow : OpenClaim := { program := "yteblmnbagbdiiaagreatdoor", sum := "18342bd51bf7f13aa5fbd514a161b4abc2e9bc191879b0827498ac9262e9d2a9", func := "kibitzer/kibitzerlaw17.LegalKings", spec := "legalKings", unfollowed := true, recurses := true, named := ["kibitzer/rules.knights", "kibitzer/rules.variants", "math/bits.deBruijn64tab", "kibitzer/castle.goals", "kibitzer/bits.leads"], apart := false, laid := [("math/bits.deBruijn64tab", laid_math_bits_deBruijn64tab), ("kibitzer/bits.leads", laid_kibitzer_bits_leads), ("kibitzer/rules.variants", laid_kibitzer_rules_variants), ("kibitzer/rules.knights", laid_kibitzer_rules_knights), ("kibitzer/castle.goals", laid_kibitzer_castle_goals)], narrowed := true }
def LegalKingsUptoSaid : Prop := legalKingsUptoRow.holds Tryz.pinned (OpenSpec.upto legalKingsSpec)

/-- 'kibitzerlaw17.LegalPart', WHERE WHAT IT READS IS OF BULK AT MOST 1048576: true; the input reads as it did. -/
def legalPartUptoRow : OpenClaim := { program := "yteblmnbagbdiiaagreatdoor", sum := "18342bd51bf7f13aa5fbd514a161b4abc2e9bc191879b0827498ac9262e9d2a9", func := "kibitzer/kibitzerlaw17.LegalPart", spec := "legalPart", unfollowed := true, recurses := true, named := ["kibitzer/rules.knights", "kibitzer/rules.variants", "math/bits.deBruijn64tab", "kibitzer/castle.goals", "kibitzer/bits.leads"], apart := false, laid := [("math/bits.deBruijn64tab", laid_math_bits_deBruijn64tab), ("kibitzer/bits.leads", laid_kibitzer_bits_leads), ("kibitzer/rules.variants", laid_kibitzer_rules_variants), ("kibitzer/rules.knights", laid_kibitzer_rules_knights), ("kibitzer/castle.goals", laid_kibitzer_castle_goals)], narrowed := true }
def LegalPartUptoSaid : Prop := legalPartUptoRow.holds Tryz.pinned (OpenSpec.upto legalPartSpec)

/-- 'kibitzerlaw17.LegalClocks', WHERE WHAT IT READS IS OF BULK AT MOST 1048576: true; the input reads as it did. -/
def legalClocksUptoRow : OpenClaim := { program := "yteblmnbagbdiiaagreatdoor", sum := "18342bd51bf7f13aa5fbd514a161b4abc2e9bc191879b0827498ac9262e9d2a9", func := "kibitzer/kibitzerlaw17.LegalClocks", spec := "legalClocks", unfollowed := true, recurses := true, named := ["kibitzer/rules.knights", "kibitzer/rules.variants", "math/bits.deBruijn64tab", "kibitzer/castle.goals", "kibitzer/bits.leads"], apart := false, laid := [("math/bits.deBruijn64tab", laid_math_bits_deBruijn64tab), ("kibitzer/bits.leads", laid_kibitzer_bits_leads), ("kibitzer/rules.variants", laid_kibitzer_rules_variants), ("kibitzer/rules.knights", laid_kibitzer_rules_knights), ("kibitzer/castle.goals", laid_kibitzer_castle_goals)], narrowed := true }
def LegalClocksUptoSaid : Prop := legalClocksUptoRow.holds Tryz.pinned (OpenSpec.upto legalClocksSpec)

/-- 'kibitzerlaw17.LegalWins', WHERE WHAT IT READS IS OF BULK AT MOST 1048576: true; the input reads as it did. -/
def legalWinsUptoRow : OpenClaim := { program := "yteblmnbagbdiiaagreatdoor", sum := "18342bd51bf7f13aa5fbd514a161b4abc2e9bc191879b0827498ac9262e9d2a9", func := "kibitzer/kibitzerlaw17.LegalWins", spec := "legalWins", unfollowed := true, recurses := true, named := ["kibitzer/rules.knights", "kibitzer/rules.variants", "math/bits.deBruijn64tab", "kibitzer/castle.goals", "kibitzer/bits.leads"], apart := false, laid := [("math/bits.deBruijn64tab", laid_math_bits_deBruijn64tab), ("kibitzer/bits.leads", laid_kibitzer_bits_leads), ("kibitzer/rules.variants", laid_kibitzer_rules_variants), ("kibitzer/rules.knights", laid_kibitzer_rules_knights), ("kibitzer/castle.goals", laid_kibitzer_castle_goals)], narrowed := true }
def LegalWinsUptoSaid : Prop := legalWinsUptoRow.holds Tryz.pinned (OpenSpec.upto legalWinsSpec)

end Rows
end Go.Proofs.YteblmnbagbdiiaaGreatDoor
