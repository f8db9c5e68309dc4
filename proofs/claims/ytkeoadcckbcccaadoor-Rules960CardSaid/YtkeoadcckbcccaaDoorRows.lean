/-
  NARROWER THAN 'FOR EVERY INPUT', by the rows' own cells (each row's printed sentence says how): RulesNames: laid · RulesHave: laid · RulesStart: laid · Rules960: laid · RulesRoundTrip: laid · RulesCounts: laid.
  DERIVED. THE GIVEN ROWS OF THIS SEAT. 6 by the template 'for every input the law returns true; each argument reads behind the call as it read before'; 0 by the template 'total and deterministic' (their statements: YtkeoadcckbcccaaDoorTotals.lean).
  GIVEN WITH THE SEED: the statements are not yours to turn. If you find one false, say at which input.
  Laid BY PROGRAM, IN A SANDBOX (cutbox-rows.mjs): the forced cells as the released guide's own fill.sh prints them over the translation e28b15f77f99e0c5… (all of the seat's roots in one cut). By AI agents, Wed Nov 11 2026. No macro, syntax, notation, axiom, sorry.
-/
import Derived.Test.YtkeoadcckbcccaaDoorChecked
import GoSem.Claim
import GoSem.ClaimJoined
import GoSem.ClaimMapViews
import Derived.JoinedTies
import Derived.KernelRfl
namespace Go.Proofs.YtkeoadcckbcccaaDoor
/- THE CELL 'sum', in the pinned program and in every row, IS THE sha256 OF THE DUMP (.gsa) THAT YtkeoadcckbcccaaDoorProg.lean LOADS. Nothing in Lean hashes anything: it is a label: what it is worth is what the hold of that sum in a sandbox is worth. -/
noncomputable def Tryd.pinned : Pinned := { name := "ytkeoadcckbcccaadoor", sum := "e28b15f77f99e0c5ff6bf9658e31a5573abe94667f3dca174a08df7019502ab5", checked := Tryd.checked }
namespace Rows
def none {H : Type} : Left H := { results := [], args := [] }

/- WHAT THE LISTED PACKAGE-LEVEL VARIABLES READ AS WHEN THE CALL BEGINS. Each datum BY PROGRAM (the guide's laid-datum.mjs) off the statement by which the dump's own 'gosem.cut.vars' lays the variable. In a bare row this is a premise. The card (YtkeoadcckbcccaaDoorCards.lean) ties it to the program's text. -/
def laid_kibitzer_rules_variants {H : Type} : DataW H := .agg [.agg [.lit (.string [115, 116, 97, 110, 100, 97, 114, 100]), .agg [.lit (.bool true), .lit (.bool true)], .lit (.bool true), .lit (.bool false), .lit (.bool true), .lit (.int .u8 5)], .agg [.lit (.string [99, 104, 101, 115, 115, 57, 54, 48]), .agg [.lit (.bool true), .lit (.bool true)], .lit (.bool true), .lit (.bool false), .lit (.bool true), .lit (.int .u8 5)], .agg [.lit (.string [99, 114, 97, 122, 121, 104, 111, 117, 115, 101]), .agg [.lit (.bool true), .lit (.bool true)], .lit (.bool true), .lit (.bool true), .lit (.bool true), .lit (.int .u8 5)], .agg [.lit (.string [97, 116, 111, 109, 105, 99]), .agg [.lit (.bool true), .lit (.bool true)], .lit (.bool true), .lit (.bool false), .lit (.bool true), .lit (.int .u8 5)], .agg [.lit (.string [97, 110, 116, 105, 99, 104, 101, 115, 115]), .agg [.lit (.bool false), .lit (.bool false)], .lit (.bool false), .lit (.bool false), .lit (.bool true), .lit (.int .u8 6)], .agg [.lit (.string [116, 104, 114, 101, 101, 99, 104, 101, 99, 107]), .agg [.lit (.bool true), .lit (.bool true)], .lit (.bool true), .lit (.bool false), .lit (.bool true), .lit (.int .u8 5)], .agg [.lit (.string [107, 105, 110, 103, 104, 105, 108, 108]), .agg [.lit (.bool true), .lit (.bool true)], .lit (.bool true), .lit (.bool false), .lit (.bool true), .lit (.int .u8 5)], .agg [.lit (.string [104, 111, 114, 100, 101]), .agg [.lit (.bool false), .lit (.bool true)], .lit (.bool true), .lit (.bool false), .lit (.bool true), .lit (.int .u8 5)], .agg [.lit (.string [114, 97, 99, 105, 110, 103]), .agg [.lit (.bool true), .lit (.bool true)], .lit (.bool false), .lit (.bool false), .lit (.bool false), .lit (.int .u8 0)]]
def laid_kibitzer_rules_knights {H : Type} : DataW H := .agg [.agg [.lit (.int .i64 0), .lit (.int .i64 1)], .agg [.lit (.int .i64 0), .lit (.int .i64 2)], .agg [.lit (.int .i64 0), .lit (.int .i64 3)], .agg [.lit (.int .i64 0), .lit (.int .i64 4)], .agg [.lit (.int .i64 1), .lit (.int .i64 2)], .agg [.lit (.int .i64 1), .lit (.int .i64 3)], .agg [.lit (.int .i64 1), .lit (.int .i64 4)], .agg [.lit (.int .i64 2), .lit (.int .i64 3)], .agg [.lit (.int .i64 2), .lit (.int .i64 4)], .agg [.lit (.int .i64 3), .lit (.int .i64 4)]]

/-- 'kibitzerlaw07.RulesNames': WHATEVER THE INPUT: true; the input reads as it did. -/
def rulesNamesSpec : ChangeSpec := { name := "rulesNames", fn := fun _ => fun
  | [d1, d2, d3] => { results := [.lit (.bool true)], args := [d1, d2, d3] }
  | _ => none }
def rulesNamesRow : OpenClaim := { program := "ytkeoadcckbcccaadoor", sum := "e28b15f77f99e0c5ff6bf9658e31a5573abe94667f3dca174a08df7019502ab5", func := "kibitzer/kibitzerlaw07.RulesNames", spec := "rulesNames", named := ["kibitzer/rules.variants"], apart := false, laid := [("kibitzer/rules.variants", laid_kibitzer_rules_variants)] }
def RulesNamesSaid : Prop := rulesNamesRow.holds Tryd.pinned (OpenSpec.ofChange rulesNamesSpec)

/-- ITS FALSE NEIGHBOUR: 'it returns false'. Refute it at one input. -/
def rulesNamesWrong : ChangeSpec := { name := "rulesNames", fn := fun _ => fun
  | [d1, d2, d3] => { results := [.lit (.bool false)], args := [d1, d2, d3] }
  | _ => none }
def RulesNamesWrongFalsely : Prop := rulesNamesRow.holds Tryd.pinned (OpenSpec.ofChange rulesNamesWrong)

/-- 'kibitzerlaw07.RulesHave': WHATEVER THE INPUT: true; the input reads as it did. -/
def rulesHaveSpec : ChangeSpec := { name := "rulesHave", fn := fun _ => fun
  | [d1, d2] => { results := [.lit (.bool true)], args := [d1, d2] }
  | _ => none }
def rulesHaveRow : OpenClaim := { program := "ytkeoadcckbcccaadoor", sum := "e28b15f77f99e0c5ff6bf9658e31a5573abe94667f3dca174a08df7019502ab5", func := "kibitzer/kibitzerlaw07.RulesHave", spec := "rulesHave", named := ["kibitzer/rules.variants"], apart := false, laid := [("kibitzer/rules.variants", laid_kibitzer_rules_variants)] }
def RulesHaveSaid : Prop := rulesHaveRow.holds Tryd.pinned (OpenSpec.ofChange rulesHaveSpec)

/-- ITS FALSE NEIGHBOUR: 'it returns false'. Refute it at one input. -/
def rulesHaveWrong : ChangeSpec := { name := "rulesHave", fn := fun _ => fun
  | [d1, d2] => { results := [.lit (.bool false)], args := [d1, d2] }
  | _ => none }
def RulesHaveWrongFalsely : Prop := rulesHaveRow.holds Tryd.pinned (OpenSpec.ofChange rulesHaveWrong)

/-- 'kibitzerlaw07.RulesStart': WHATEVER THE INPUT: true; the input reads as it did. -/
def rulesStartSpec : ChangeSpec := { name := "rulesStart", fn := fun _ => fun
  | [d1, d2] => { results := [.lit (.bool true)], args := [d1, d2] }
  | _ => none }
def rulesStartRow : OpenClaim := { program := "ytkeoadcckbcccaadoor", sum := "e28b15f77f99e0c5ff6bf9658e31a5573abe94667f3dca174a08df7019502ab5", func := "kibitzer/kibitzerlaw07.RulesStart", spec := "rulesStart", named := ["kibitzer/rules.knights", "kibitzer/rules.variants"], apart := false, laid := [("kibitzer/rules.variants", laid_kibitzer_rules_variants), ("kibitzer/rules.knights", laid_kibitzer_rules_knights)] }
def RulesStartSaid : Prop := rulesStartRow.holds Tryd.pinned (OpenSpec.ofChange rulesStartSpec)

/-- ITS FALSE NEIGHBOUR: 'it returns false'. Refute it at one input. -/
def rulesStartWrong : ChangeSpec := { name := "rulesStart", fn := fun _ => fun
  | [d1, d2] => { results := [.lit (.bool false)], args := [d1, d2] }
  | _ => none }
def RulesStartWrongFalsely : Prop := rulesStartRow.holds Tryd.pinned (OpenSpec.ofChange rulesStartWrong)

/-- 'kibitzerlaw07.Rules960': WHATEVER THE INPUT: true; the input reads as it did. -/
def rules960Spec : ChangeSpec := { name := "rules960", fn := fun _ => fun
  | [d1, d2] => { results := [.lit (.bool true)], args := [d1, d2] }
  | _ => none }
def rules960Row : OpenClaim := { program := "ytkeoadcckbcccaadoor", sum := "e28b15f77f99e0c5ff6bf9658e31a5573abe94667f3dca174a08df7019502ab5", func := "kibitzer/kibitzerlaw07.Rules960", spec := "rules960", named := ["kibitzer/rules.knights", "kibitzer/rules.variants"], apart := false, laid := [("kibitzer/rules.variants", laid_kibitzer_rules_variants), ("kibitzer/rules.knights", laid_kibitzer_rules_knights)] }
def Rules960Said : Prop := rules960Row.holds Tryd.pinned (OpenSpec.ofChange rules960Spec)

/-- ITS FALSE NEIGHBOUR: 'it returns false'. Refute it at one input. -/
def rules960Wrong : ChangeSpec := { name := "rules960", fn := fun _ => fun
  | [d1, d2] => { results := [.lit (.bool false)], args := [d1, d2] }
  | _ => none }
def Rules960WrongFalsely : Prop := rules960Row.holds Tryd.pinned (OpenSpec.ofChange rules960Wrong)

/-- 'kibitzerlaw07.RulesRoundTrip': WHATEVER THE INPUT: true; the input reads as it did. -/
def rulesRoundTripSpec : ChangeSpec := { name := "rulesRoundTrip", fn := fun _ => fun
  | [d1, d2] => { results := [.lit (.bool true)], args := [d1, d2] }
  | _ => none }
def rulesRoundTripRow : OpenClaim := { program := "ytkeoadcckbcccaadoor", sum := "e28b15f77f99e0c5ff6bf9658e31a5573abe94667f3dca174a08df7019502ab5", func := "kibitzer/kibitzerlaw07.RulesRoundTrip", spec := "rulesRoundTrip", named := ["kibitzer/rules.variants", "kibitzer/rules.knights"], apart := false, laid := [("kibitzer/rules.variants", laid_kibitzer_rules_variants), ("kibitzer/rules.knights", laid_kibitzer_rules_knights)] }
def RulesRoundTripSaid : Prop := rulesRoundTripRow.holds Tryd.pinned (OpenSpec.ofChange rulesRoundTripSpec)

/-- ITS FALSE NEIGHBOUR: 'it returns false'. Refute it at one input. -/
def rulesRoundTripWrong : ChangeSpec := { name := "rulesRoundTrip", fn := fun _ => fun
  | [d1, d2] => { results := [.lit (.bool false)], args := [d1, d2] }
  | _ => none }
def RulesRoundTripWrongFalsely : Prop := rulesRoundTripRow.holds Tryd.pinned (OpenSpec.ofChange rulesRoundTripWrong)

/-- 'kibitzerlaw07.RulesCounts': WHATEVER THE INPUT: true; the input reads as it did. -/
def rulesCountsSpec : ChangeSpec := { name := "rulesCounts", fn := fun _ => fun
  | [d] => { results := [.lit (.bool true)], args := [d] }
  | _ => none }
def rulesCountsRow : OpenClaim := { program := "ytkeoadcckbcccaadoor", sum := "e28b15f77f99e0c5ff6bf9658e31a5573abe94667f3dca174a08df7019502ab5", func := "kibitzer/kibitzerlaw07.RulesCounts", spec := "rulesCounts", named := ["kibitzer/rules.knights", "kibitzer/rules.variants"], apart := false, laid := [("kibitzer/rules.variants", laid_kibitzer_rules_variants), ("kibitzer/rules.knights", laid_kibitzer_rules_knights)] }
def RulesCountsSaid : Prop := rulesCountsRow.holds Tryd.pinned (OpenSpec.ofChange rulesCountsSpec)

/-- ITS FALSE NEIGHBOUR: 'it returns false'. Refute it at one input. -/
def rulesCountsWrong : ChangeSpec := { name := "rulesCounts", fn := fun _ => fun
  | [d] => { results := [.lit (.bool false)], args := [d] }
  | _ => none }
def RulesCountsWrongFalsely : Prop := rulesCountsRow.holds Tryd.pinned (OpenSpec.ofChange rulesCountsWrong)

/- THE SECOND FORM. 'bulk': how many values and letters a reading holds, each counted each time it is reached (what is shared counts as often as it is met; a slice's spare places count too). A statement '..UptoSaid' is the law's where the arguments, and the package variables that the reading takes, are together of bulk at most 1048576: NARROWER than '..Said'. Prove '..Said' where nothing that the law and all that it calls make is longer than what came in: it says more and counts as full. Else prove '..UptoSaid'. A law counts once. -/
mutual
def uptoBulk {H : Type} : DataW H → Nat
  | .lit (.string bytes) => bytes.length + 1
  | .lit _ => 1
  | .nil => 1
  | .ptr d => uptoBulk d + 1
  | .slice elems spare => uptoBulkAll elems + uptoBulkAll spare + 1
  | .agg parts => uptoBulkAll parts + 1
  | .iface _ d => uptoBulk d + 1
  | .map entries => uptoBulkEntries entries + 1
  | .held _ => 1
def uptoBulkAll {H : Type} : List (DataW H) → Nat
  | [] => 0
  | d :: r => uptoBulk d + uptoBulkAll r
def uptoBulkEntries {H : Type} : List (Lit × DataW H) → Nat
  | [] => 0
  | x :: r => uptoBulkEntry x + uptoBulkEntries r
def uptoBulkEntry {H : Type} : Lit × DataW H → Nat
  | (.string bytes, d) => bytes.length + uptoBulk d + 1
  | (_, d) => uptoBulk d + 1
 end
def uptoSmall : (H : Type) → List (DataW H) → Bool := fun _ ds => decide (uptoBulkAll ds ≤ 1048576)
def OpenSpec.upto (s : _root_.Go.ChangeSpec) : _root_.Go.OpenSpec := { _root_.Go.OpenSpec.ofChange s with cond := some uptoSmall }

/-- 'kibitzerlaw07.RulesNames', WHERE WHAT IT READS IS OF BULK AT MOST 1048576: true; the input reads as it did. -/
def rulesNamesUptoRow : OpenClaim := { program := "ytkeoadcckbcccaadoor", sum := "e28b15f77f99e0c5ff6bf9658e31a5573abe94667f3dca174a08df7019502ab5", func := "kibitzer/kibitzerlaw07.RulesNames", spec := "rulesNames", named := ["kibitzer/rules.variants"], apart := false, laid := [("kibitzer/rules.variants", laid_kibitzer_rules_variants)], narrowed := true }
def RulesNamesUptoSaid : Prop := rulesNamesUptoRow.holds Tryd.pinned (OpenSpec.upto rulesNamesSpec)

/-- 'kibitzerlaw07.RulesHave', WHERE WHAT IT READS IS OF BULK AT MOST 1048576: true; the input reads as it did. -/
def rulesHaveUptoRow : OpenClaim := { program := "ytkeoadcckbcccaadoor", sum := "e28b15f77f99e0c5ff6bf9658e31a5573abe94667f3dca174a08df7019502ab5", func := "kibitzer/kibitzerlaw07.RulesHave", spec := "rulesHave", named := ["kibitzer/rules.variants"], apart := false, laid := [("kibitzer/rules.variants", laid_kibitzer_rules_variants)], narrowed := true }
def RulesHaveUptoSaid : Prop := rulesHaveUptoRow.holds Tryd.pinned (OpenSpec.upto rulesHaveSpec)

/-- 'kibitzerlaw07.RulesStart', WHERE WHAT IT READS IS OF BULK AT MOST 1048576: true; the input reads as it did. -/
def rulesStartUptoRow : OpenClaim := { program := "ytkeoadcckbcccaadoor", sum := "e28b15f77f99e0c5ff6bf9658e31a5573abe94667f3dca174a08df7019502ab5", func := "kibitzer/kibitzerlaw07.RulesStart", spec := "rulesStart", named := ["kibitzer/rules.knights", "kibitzer/rules.variants"], apart := false, laid := [("kibitzer/rules.variants", laid_kibitzer_rules_variants), ("kibitzer/rules.knights", laid_kibitzer_rules_knights)], narrowed := true }
def RulesStartUptoSaid : Prop := rulesStartUptoRow.holds Tryd.pinned (OpenSpec.upto rulesStartSpec)

/-- 'kibitzerlaw07.Rules960', WHERE WHAT IT READS IS OF BULK AT MOST 1048576: true; the input reads as it did. -/
def rules960UptoRow : OpenClaim := { program := "ytkeoadcckbcccaadoor", sum := "e28b15f77f99e0c5ff6bf9658e31a5573abe94667f3dca174a08df7019502ab5", func := "kibitzer/kibitzerlaw07.Rules960", spec := "rules960", named := ["kibitzer/rules.knights", "kibitzer/rules.variants"], apart := false, laid := [("kibitzer/rules.variants", laid_kibitzer_rules_variants), ("kibitzer/rules.knights", laid_kibitzer_rules_knights)], narrowed := true }
def Rules960UptoSaid : Prop := rules960UptoRow.holds Tryd.pinned (OpenSpec.upto rules960Spec)

/-- 'kibitzerlaw07.RulesRoundTrip', WHERE WHAT IT READS IS OF BULK AT MOST 1048576: true; the input reads as it did. -/
def rulesRoundTripUptoRow : OpenClaim := { program := "ytkeoadcckbcccaadoor", sum := "e28b15f77f99e0c5ff6bf9658e31a5573abe94667f3dca174a08df7019502ab5", func := "kibitzer/kibitzerlaw07.RulesRoundTrip", spec := "rulesRoundTrip", named := ["kibitzer/rules.variants", "kibitzer/rules.knights"], apart := false, laid := [("kibitzer/rules.variants", laid_kibitzer_rules_variants), ("kibitzer/rules.knights", laid_kibitzer_rules_knights)], narrowed := true }
def RulesRoundTripUptoSaid : Prop := rulesRoundTripUptoRow.holds Tryd.pinned (OpenSpec.upto rulesRoundTripSpec)

/-- 'kibitzerlaw07.RulesCounts', WHERE WHAT IT READS IS OF BULK AT MOST 1048576: true; the input reads as it did. -/
def rulesCountsUptoRow : OpenClaim := { program := "ytkeoadcckbcccaadoor", sum := "e28b15f77f99e0c5ff6bf9658e31a5573abe94667f3dca174a08df7019502ab5", func := "kibitzer/kibitzerlaw07.RulesCounts", spec := "rulesCounts", named := ["kibitzer/rules.knights", "kibitzer/rules.variants"], apart := false, laid := [("kibitzer/rules.variants", laid_kibitzer_rules_variants), ("kibitzer/rules.knights", laid_kibitzer_rules_knights)], narrowed := true }
def RulesCountsUptoSaid : Prop := rulesCountsUptoRow.holds Tryd.pinned (OpenSpec.upto rulesCountsSpec)

end Rows
end Go.Proofs.YtkeoadcckbcccaaDoor
