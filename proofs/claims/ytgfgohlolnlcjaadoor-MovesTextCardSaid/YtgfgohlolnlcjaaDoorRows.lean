/-
  NARROWER THAN 'FOR EVERY INPUT', by the rows' own cells (each row's printed sentence says how): MovesText: laid · MovesParse: laid · MovesBack: laid · MovesOne: laid · MovesPlain: laid · MovesDrops: laid.
  DERIVED. THE GIVEN ROWS OF THIS SEAT. 6 by the template 'for every input the law returns true; each argument reads behind the call as it read before'; 0 by the template 'total and deterministic' (their statements: YtgfgohlolnlcjaaDoorTotals.lean).
  GIVEN WITH THE SEED: the statements are not yours to turn. If you find one false, say at which input.
  Laid BY PROGRAM, IN A SANDBOX (cutbox-rows.mjs): the forced cells as the released guide's own fill.sh prints them over the translation 99201d89e9bcd3d5… (all of the seat's roots in one cut). By AI agents, Wed Nov 11 2026. No macro, syntax, notation, axiom, sorry.
-/
import Derived.Test.YtgfgohlolnlcjaaDoorChecked
import GoSem.Claim
import GoSem.ClaimJoined
import GoSem.ClaimMapViews
import Derived.JoinedTies
import Derived.KernelRfl
namespace Go.Proofs.YtgfgohlolnlcjaaDoor
/- THE CELL 'sum', in the pinned program and in every row, IS THE sha256 OF THE DUMP (.gsa) THAT YtgfgohlolnlcjaaDoorProg.lean LOADS. Nothing in Lean hashes anything: it is a label: what it is worth is what the hold of that sum in a sandbox is worth. -/
noncomputable def Tryd.pinned : Pinned := { name := "ytgfgohlolnlcjaadoor", sum := "99201d89e9bcd3d5b804de30399cbbadd17be927d36ce106052dd39cdd1b250c", checked := Tryd.checked }
namespace Rows
def none {H : Type} : Left H := { results := [], args := [] }

/- WHAT THE LISTED PACKAGE-LEVEL VARIABLES READ AS WHEN THE CALL BEGINS. Each datum BY PROGRAM (the guide's laid-datum.mjs) off the statement by which the dump's own 'gosem.cut.vars' lays the variable. In a bare row this is a premise. The card (YtgfgohlolnlcjaaDoorCards.lean) ties it to the program's text. -/
def laid_kibitzer_moves_goals {H : Type} : DataW H := .agg [.lit (.int .i64 6), .lit (.int .i64 2)]
def laid_kibitzer_rules_variants {H : Type} : DataW H := .agg [.agg [.lit (.string [115, 116, 97, 110, 100, 97, 114, 100]), .agg [.lit (.bool true), .lit (.bool true)], .lit (.bool true), .lit (.bool false), .lit (.bool true), .lit (.int .u8 5)], .agg [.lit (.string [99, 104, 101, 115, 115, 57, 54, 48]), .agg [.lit (.bool true), .lit (.bool true)], .lit (.bool true), .lit (.bool false), .lit (.bool true), .lit (.int .u8 5)], .agg [.lit (.string [99, 114, 97, 122, 121, 104, 111, 117, 115, 101]), .agg [.lit (.bool true), .lit (.bool true)], .lit (.bool true), .lit (.bool true), .lit (.bool true), .lit (.int .u8 5)], .agg [.lit (.string [97, 116, 111, 109, 105, 99]), .agg [.lit (.bool true), .lit (.bool true)], .lit (.bool true), .lit (.bool false), .lit (.bool true), .lit (.int .u8 5)], .agg [.lit (.string [97, 110, 116, 105, 99, 104, 101, 115, 115]), .agg [.lit (.bool false), .lit (.bool false)], .lit (.bool false), .lit (.bool false), .lit (.bool true), .lit (.int .u8 6)], .agg [.lit (.string [116, 104, 114, 101, 101, 99, 104, 101, 99, 107]), .agg [.lit (.bool true), .lit (.bool true)], .lit (.bool true), .lit (.bool false), .lit (.bool true), .lit (.int .u8 5)], .agg [.lit (.string [107, 105, 110, 103, 104, 105, 108, 108]), .agg [.lit (.bool true), .lit (.bool true)], .lit (.bool true), .lit (.bool false), .lit (.bool true), .lit (.int .u8 5)], .agg [.lit (.string [104, 111, 114, 100, 101]), .agg [.lit (.bool false), .lit (.bool true)], .lit (.bool true), .lit (.bool false), .lit (.bool true), .lit (.int .u8 5)], .agg [.lit (.string [114, 97, 99, 105, 110, 103]), .agg [.lit (.bool true), .lit (.bool true)], .lit (.bool false), .lit (.bool false), .lit (.bool false), .lit (.int .u8 0)]]
def laid_kibitzer_rules_knights {H : Type} : DataW H := .agg [.agg [.lit (.int .i64 0), .lit (.int .i64 1)], .agg [.lit (.int .i64 0), .lit (.int .i64 2)], .agg [.lit (.int .i64 0), .lit (.int .i64 3)], .agg [.lit (.int .i64 0), .lit (.int .i64 4)], .agg [.lit (.int .i64 1), .lit (.int .i64 2)], .agg [.lit (.int .i64 1), .lit (.int .i64 3)], .agg [.lit (.int .i64 1), .lit (.int .i64 4)], .agg [.lit (.int .i64 2), .lit (.int .i64 3)], .agg [.lit (.int .i64 2), .lit (.int .i64 4)], .agg [.lit (.int .i64 3), .lit (.int .i64 4)]]

/-- 'kibitzerlaw11.MovesText': WHATEVER THE INPUT: true; the input reads as it did. -/
def movesTextSpec : ChangeSpec := { name := "movesText", fn := fun _ => fun
  | [d1, d2] => { results := [.lit (.bool true)], args := [d1, d2] }
  | _ => none }
def movesTextRow : OpenClaim := { program := "ytgfgohlolnlcjaadoor", sum := "99201d89e9bcd3d5b804de30399cbbadd17be927d36ce106052dd39cdd1b250c", func := "kibitzer/kibitzerlaw11.MovesText", spec := "movesText", named := ["kibitzer/moves.goals"], apart := false, laid := [("kibitzer/moves.goals", laid_kibitzer_moves_goals)] }
def MovesTextSaid : Prop := movesTextRow.holds Tryd.pinned (OpenSpec.ofChange movesTextSpec)

/-- ITS FALSE NEIGHBOUR: 'it returns false'. Refute it at one input. -/
def movesTextWrong : ChangeSpec := { name := "movesText", fn := fun _ => fun
  | [d1, d2] => { results := [.lit (.bool false)], args := [d1, d2] }
  | _ => none }
def MovesTextWrongFalsely : Prop := movesTextRow.holds Tryd.pinned (OpenSpec.ofChange movesTextWrong)

/-- 'kibitzerlaw11.MovesParse': WHATEVER THE INPUT: true; the input reads as it did. -/
def movesParseSpec : ChangeSpec := { name := "movesParse", fn := fun _ => fun
  | [d1, d2] => { results := [.lit (.bool true)], args := [d1, d2] }
  | _ => none }
def movesParseRow : OpenClaim := { program := "ytgfgohlolnlcjaadoor", sum := "99201d89e9bcd3d5b804de30399cbbadd17be927d36ce106052dd39cdd1b250c", func := "kibitzer/kibitzerlaw11.MovesParse", spec := "movesParse", inPlace := ["internal/bytealg.IndexByteString", "internal/bytealg.IndexString"], unfollowed := true, recurses := true, named := ["kibitzer/moves.goals", "internal/bytealg.MaxLen"], apart := false, laid := [("kibitzer/moves.goals", laid_kibitzer_moves_goals)] }
def MovesParseSaid : Prop := movesParseRow.holds Tryd.pinned (OpenSpec.ofChange movesParseSpec)

/-- ITS FALSE NEIGHBOUR: 'it returns false'. Refute it at one input. -/
def movesParseWrong : ChangeSpec := { name := "movesParse", fn := fun _ => fun
  | [d1, d2] => { results := [.lit (.bool false)], args := [d1, d2] }
  | _ => none }
def MovesParseWrongFalsely : Prop := movesParseRow.holds Tryd.pinned (OpenSpec.ofChange movesParseWrong)

/-- 'kibitzerlaw11.MovesBack': WHATEVER THE INPUT: true; the input reads as it did. -/
def movesBackSpec : ChangeSpec := { name := "movesBack", fn := fun _ => fun
  | [d1, d2, d3] => { results := [.lit (.bool true)], args := [d1, d2, d3] }
  | _ => none }
def movesBackRow : OpenClaim := { program := "ytgfgohlolnlcjaadoor", sum := "99201d89e9bcd3d5b804de30399cbbadd17be927d36ce106052dd39cdd1b250c", func := "kibitzer/kibitzerlaw11.MovesBack", spec := "movesBack", inPlace := ["internal/bytealg.IndexByteString", "internal/bytealg.IndexString"], unfollowed := true, recurses := true, named := ["kibitzer/rules.knights", "kibitzer/rules.variants", "kibitzer/moves.goals", "internal/bytealg.MaxLen"], apart := false, laid := [("kibitzer/rules.variants", laid_kibitzer_rules_variants), ("kibitzer/rules.knights", laid_kibitzer_rules_knights), ("kibitzer/moves.goals", laid_kibitzer_moves_goals)] }
def MovesBackSaid : Prop := movesBackRow.holds Tryd.pinned (OpenSpec.ofChange movesBackSpec)

/-- ITS FALSE NEIGHBOUR: 'it returns false'. Refute it at one input. -/
def movesBackWrong : ChangeSpec := { name := "movesBack", fn := fun _ => fun
  | [d1, d2, d3] => { results := [.lit (.bool false)], args := [d1, d2, d3] }
  | _ => none }
def MovesBackWrongFalsely : Prop := movesBackRow.holds Tryd.pinned (OpenSpec.ofChange movesBackWrong)

/-- 'kibitzerlaw11.MovesOne': WHATEVER THE INPUT: true; the input reads as it did. -/
def movesOneSpec : ChangeSpec := { name := "movesOne", fn := fun _ => fun
  | [d1, d2, d3] => { results := [.lit (.bool true)], args := [d1, d2, d3] }
  | _ => none }
def movesOneRow : OpenClaim := { program := "ytgfgohlolnlcjaadoor", sum := "99201d89e9bcd3d5b804de30399cbbadd17be927d36ce106052dd39cdd1b250c", func := "kibitzer/kibitzerlaw11.MovesOne", spec := "movesOne", inPlace := ["internal/bytealg.IndexByteString", "internal/bytealg.IndexString"], unfollowed := true, recurses := true, named := ["kibitzer/rules.knights", "kibitzer/rules.variants", "kibitzer/moves.goals", "internal/bytealg.MaxLen"], apart := false, laid := [("kibitzer/rules.variants", laid_kibitzer_rules_variants), ("kibitzer/rules.knights", laid_kibitzer_rules_knights), ("kibitzer/moves.goals", laid_kibitzer_moves_goals)] }
def MovesOneSaid : Prop := movesOneRow.holds Tryd.pinned (OpenSpec.ofChange movesOneSpec)

/-- ITS FALSE NEIGHBOUR: 'it returns false'. Refute it at one input. -/
def movesOneWrong : ChangeSpec := { name := "movesOne", fn := fun _ => fun
  | [d1, d2, d3] => { results := [.lit (.bool false)], args := [d1, d2, d3] }
  | _ => none }
def MovesOneWrongFalsely : Prop := movesOneRow.holds Tryd.pinned (OpenSpec.ofChange movesOneWrong)

/-- 'kibitzerlaw11.MovesPlain': WHATEVER THE INPUT: true; the input reads as it did. -/
def movesPlainSpec : ChangeSpec := { name := "movesPlain", fn := fun _ => fun
  | [d1, d2, d3, d4] => { results := [.lit (.bool true)], args := [d1, d2, d3, d4] }
  | _ => none }
def movesPlainRow : OpenClaim := { program := "ytgfgohlolnlcjaadoor", sum := "99201d89e9bcd3d5b804de30399cbbadd17be927d36ce106052dd39cdd1b250c", func := "kibitzer/kibitzerlaw11.MovesPlain", spec := "movesPlain", inPlace := ["internal/bytealg.IndexByteString", "internal/bytealg.IndexString"], unfollowed := true, recurses := true, named := ["kibitzer/rules.knights", "kibitzer/rules.variants", "kibitzer/moves.goals", "internal/bytealg.MaxLen"], apart := false, laid := [("kibitzer/rules.variants", laid_kibitzer_rules_variants), ("kibitzer/rules.knights", laid_kibitzer_rules_knights), ("kibitzer/moves.goals", laid_kibitzer_moves_goals)] }
def MovesPlainSaid : Prop := movesPlainRow.holds Tryd.pinned (OpenSpec.ofChange movesPlainSpec)

/-- ITS FALSE NEIGHBOUR: 'it returns false'. Refute it at one input. -/
def movesPlainWrong : ChangeSpec := { name := "movesPlain", fn := fun _ => fun
  | [d1, d2, d3, d4] => { results := [.lit (.bool false)], args := [d1, d2, d3, d4] }
  | _ => none }
def MovesPlainWrongFalsely : Prop := movesPlainRow.holds Tryd.pinned (OpenSpec.ofChange movesPlainWrong)

/-- 'kibitzerlaw11.MovesDrops': WHATEVER THE INPUT: true; the input reads as it did. -/
def movesDropsSpec : ChangeSpec := { name := "movesDrops", fn := fun _ => fun
  | [d1, d2, d3, d4] => { results := [.lit (.bool true)], args := [d1, d2, d3, d4] }
  | _ => none }
def movesDropsRow : OpenClaim := { program := "ytgfgohlolnlcjaadoor", sum := "99201d89e9bcd3d5b804de30399cbbadd17be927d36ce106052dd39cdd1b250c", func := "kibitzer/kibitzerlaw11.MovesDrops", spec := "movesDrops", inPlace := ["internal/bytealg.IndexByteString", "internal/bytealg.IndexString"], unfollowed := true, recurses := true, named := ["kibitzer/rules.knights", "kibitzer/rules.variants", "kibitzer/moves.goals", "internal/bytealg.MaxLen"], apart := false, laid := [("kibitzer/rules.variants", laid_kibitzer_rules_variants), ("kibitzer/rules.knights", laid_kibitzer_rules_knights), ("kibitzer/moves.goals", laid_kibitzer_moves_goals)] }
def MovesDropsSaid : Prop := movesDropsRow.holds Tryd.pinned (OpenSpec.ofChange movesDropsSpec)

/-- ITS FALSE NEIGHBOUR: 'it returns false'. Refute it at one input. -/
def movesDropsWrong : ChangeSpec := { name := "movesDrops", fn := fun _ => fun
  | [d1, d2, d3, d4] => { results := [.lit (.bool false)], args := [d1, d2, d3, d4] }
  | _ => none }
def MovesDropsWrongFalsely : Prop := movesDropsRow.holds Tryd.pinned (OpenSpec.ofChange movesDropsWrong)

/- THE SECOND FORM. 'bulk': how many values and letters a reading holds, each counted each time it is reached (what is shared counts as often as it is met; a slice's spare places count too). A statement '..UptoSaid' is the law's where the arguments, and the package variables that the reading takes, are together of bulk at most 1048576: NARROWER than '..Said'. Prove '..Said' where nothing that the law and all that it calls make is longer than what came in: it says more and counts as full. Else prove '..UptoSaid'. A law counts once. -/
mutual
def uptoBulk {H : Type} : DataW H → Nat
  | .lit (.string bytes) => bytes.length + 1
  | .lit _ => 1
  | .nil => 1
  | .ptr d => uptoBulk d + 1
  | .slice elems spare => uptoBulkAll elems + uptoBulkAll spare + 1
  | .agg parts => uptoBulkAll parts + 1
  | .iface _ d => uptoBulk d + 1
  | .map entries => uptoBulkEntries entries + 1
  | .held _ => 1
def uptoBulkAll {H : Type} : List (DataW H) → Nat
  | [] => 0
  | d :: r => uptoBulk d + uptoBulkAll r
def uptoBulkEntries {H : Type} : List (Lit × DataW H) → Nat
  | [] => 0
  | x :: r => uptoBulkEntry x + uptoBulkEntries r
def uptoBulkEntry {H : Type} : Lit × DataW H → Nat
  | (.string bytes, d) => bytes.length + uptoBulk d + 1
  | (_, d) => uptoBulk d + 1
 end
def uptoSmall : (H : Type) → List (DataW H) → Bool := fun _ ds => decide (uptoBulkAll ds ≤ 1048576)
def OpenSpec.upto (s : _root_.Go.ChangeSpec) : _root_.Go.OpenSpec := { _root_.Go.OpenSpec.ofChange s with cond := some uptoSmall }

/-- 'kibitzerlaw11.MovesText', WHERE WHAT IT READS IS OF BULK AT MOST 1048576: true; the input reads as it did. -/
def movesTextUptoRow : OpenClaim := { program := "ytgfgohlolnlcjaadoor", sum := "99201d89e9bcd3d5b804de30399cbbadd17be927d36ce106052dd39cdd1b250c", func := "kibitzer/kibitzerlaw11.MovesText", spec := "movesText", named := ["kibitzer/moves.goals"], apart := false, laid := [("kibitzer/moves.goals", laid_kibitzer_moves_goals)], narrowed := true }
def MovesTextUptoSaid : Prop := movesTextUptoRow.holds Tryd.pinned (OpenSpec.upto movesTextSpec)

/-- 'kibitzerlaw11.MovesParse', WHERE WHAT IT READS IS OF BULK AT MOST 1048576: true; the input reads as it did. -/
def movesParseUptoRow : OpenClaim := { program := "ytgfgohlolnlcjaadoor", sum := "99201d89e9bcd3d5b804de30399cbbadd17be927d36ce106052dd39cdd1b250c", func := "kibitzer/kibitzerlaw11.MovesParse", spec := "movesParse", inPlace := ["internal/bytealg.IndexByteString", "internal/bytealg.IndexString"], unfollowed := true, recurses := true, named := ["kibitzer/moves.goals", "internal/bytealg.MaxLen"], apart := false, laid := [("kibitzer/moves.goals", laid_kibitzer_moves_goals)], narrowed := true }
def MovesParseUptoSaid : Prop := movesParseUptoRow.holds Tryd.pinned (OpenSpec.upto movesParseSpec)

/-- 'kibitzerlaw11.MovesBack', WHERE WHAT IT READS IS OF BULK AT MOST 1048576: true; the input reads as it did. -/
def movesBackUptoRow : OpenClaim := { program := "ytgfgohlolnlcjaadoor", sum := "99201d89e9bcd3d5b804de30399cbbadd17be927d36ce106052dd39cdd1b250c", func := "kibitzer/kibitzerlaw11.MovesBack", spec := "movesBack", inPlace := ["internal/bytealg.IndexByteString", "internal/bytealg.IndexString"], unfollowed := true, recurses := true, named := ["kibitzer/rules.knights", "kibitzer/rules.variants", "kibitzer/moves.goals", "internal/bytealg.MaxLen"], apart := false, laid := [("kibitzer/rules.variants", laid_kibitzer_rules_variants), ("kibitzer/rules.knights", laid_kibitzer_rules_knights), ("kibitzer/moves.goals", laid_kibitzer_moves_goals)], narrowed := true }
def MovesBackUptoSaid : Prop := movesBackUptoRow.holds Tryd.pinned (OpenSpec.upto movesBackSpec)

/-- 'kibitzerlaw11.MovesOne', WHERE WHAT IT READS IS OF BULK AT MOST 1048576: true; the input reads as it did. -/
def movesOneUptoRow : OpenClaim := { program := "ytgfgohlolnlcjaadoor", sum := "99201d89e9bcd3d5b804de30399cbbadd17be927d36ce106052dd39cdd1b250c", func := "kibitzer/kibitzerlaw11.MovesOne", spec := "movesOne", inPlace := ["internal/bytealg.IndexByteString", "internal/bytealg.IndexString"], unfollowed := true, recurses := true, named := ["kibitzer/rules.knights", "kibitzer/rules.variants", "kibitzer/moves.goals", "internal/bytealg.MaxLen"], apart := false, laid := [("kibitzer/rules.variants", laid_kibitzer_rules_variants), ("kibitzer/rules.knights", laid_kibitzer_rules_knights), ("kibitzer/moves.goals", laid_kibitzer_moves_goals)], narrowed := true }
def MovesOneUptoSaid : Prop := movesOneUptoRow.holds Tryd.pinned (OpenSpec.upto movesOneSpec)

/-- 'kibitzerlaw11.MovesPlain', WHERE WHAT IT READS IS OF BULK AT MOST 1048576: true; the input reads as it did. -/
def movesPlainUptoRow : OpenClaim := { program := "ytgfgohlolnlcjaadoor", sum := "99201d89e9bcd3d5b804de30399cbbadd17be927d36ce106052dd39cdd1b250c", func := "kibitzer/kibitzerlaw11.MovesPlain", spec := "movesPlain", inPlace := ["internal/bytealg.IndexByteString", "internal/bytealg.IndexString"], unfollowed := true, recurses := true, named := ["kibitzer/rules.knights", "kibitzer/rules.variants", "kibitzer/moves.goals", "internal/bytealg.MaxLen"], apart := false, laid := [("kibitzer/rules.variants", laid_kibitzer_rules_variants), ("kibitzer/rules.knights", laid_kibitzer_rules_knights), ("kibitzer/moves.goals", laid_kibitzer_moves_goals)], narrowed := true }
def MovesPlainUptoSaid : Prop := movesPlainUptoRow.holds Tryd.pinned (OpenSpec.upto movesPlainSpec)

/-- 'kibitzerlaw11.MovesDrops', WHERE WHAT IT READS IS OF BULK AT MOST 1048576: true; the input reads as it did. -/
def movesDropsUptoRow : OpenClaim := { program := "ytgfgohlolnlcjaadoor", sum := "99201d89e9bcd3d5b804de30399cbbadd17be927d36ce106052dd39cdd1b250c", func := "kibitzer/kibitzerlaw11.MovesDrops", spec := "movesDrops", inPlace := ["internal/bytealg.IndexByteString", "internal/bytealg.IndexString"], unfollowed := true, recurses := true, named := ["kibitzer/rules.knights", "kibitzer/rules.variants", "kibitzer/moves.goals", "internal/bytealg.MaxLen"], apart := false, laid := [("kibitzer/rules.variants", laid_kibitzer_rules_variants), ("kibitzer/rules.knights", laid_kibitzer_rules_knights), ("kibitzer/moves.goals", laid_kibitzer_moves_goals)], narrowed := true }
def MovesDropsUptoSaid : Prop := movesDropsUptoRow.holds Tryd.pinned (OpenSpec.upto movesDropsSpec)

end Rows
end Go.Proofs.YtgfgohlolnlcjaaDoor
