/-
  NARROWER THAN 'FOR EVERY INPUT', by the rows' own cells (each row's printed sentence says how): MovesArg: laid.
  DERIVED. THE GIVEN ROWS OF THIS SEAT. 1 by the template 'for every input the law returns true; each argument reads behind the call as it read before'; 0 by the template 'total and deterministic' (their statements: YtgfgohlolnlcjabDoorTotals.lean).
  GIVEN WITH THE SEED: the statements are not yours to turn. If you find one false, say at which input.
  Laid BY PROGRAM, IN A SANDBOX (cutbox-rows.mjs): the forced cells as the released guide's own fill.sh prints them over the translation 44222e68b7daa3fc… (all of the seat's roots in one cut). By AI agents, Wed Nov 11 2026. No macro, syntax, notation, axiom, sorry.
-/
import Derived.Test.YtgfgohlolnlcjabDoorChecked
import GoSem.Claim
import GoSem.ClaimJoined
import GoSem.ClaimMapViews
import Derived.JoinedTies
import Derived.KernelRfl
namespace Go.Proofs.YtgfgohlolnlcjabDoor
/- THE CELL 'sum', in the pinned program and in every row, IS THE sha256 OF THE DUMP (.gsa) THAT YtgfgohlolnlcjabDoorProg.lean LOADS. Nothing in Lean hashes anything: it is a label: what it is worth is what the hold of that sum in a sandbox is worth. -/
noncomputable def Tryd.pinned : Pinned := { name := "ytgfgohlolnlcjabdoor", sum := "44222e68b7daa3fcf88c590361bb708bd4cde080bb1df19965b84423eff319ea", checked := Tryd.checked }
namespace Rows
def none {H : Type} : Left H := { results := [], args := [] }

/- WHAT THE LISTED PACKAGE-LEVEL VARIABLES READ AS WHEN THE CALL BEGINS. Each datum BY PROGRAM (the guide's laid-datum.mjs) off the statement by which the dump's own 'gosem.cut.vars' lays the variable. In a bare row this is a premise. The card (YtgfgohlolnlcjabDoorCards.lean) ties it to the program's text. -/
def laid_kibitzer_rules_variants {H : Type} : DataW H := .agg [.agg [.lit (.string [115, 116, 97, 110, 100, 97, 114, 100]), .agg [.lit (.bool true), .lit (.bool true)], .lit (.bool true), .lit (.bool false), .lit (.bool true), .lit (.int .u8 5)], .agg [.lit (.string [99, 104, 101, 115, 115, 57, 54, 48]), .agg [.lit (.bool true), .lit (.bool true)], .lit (.bool true), .lit (.bool false), .lit (.bool true), .lit (.int .u8 5)], .agg [.lit (.string [99, 114, 97, 122, 121, 104, 111, 117, 115, 101]), .agg [.lit (.bool true), .lit (.bool true)], .lit (.bool true), .lit (.bool true), .lit (.bool true), .lit (.int .u8 5)], .agg [.lit (.string [97, 116, 111, 109, 105, 99]), .agg [.lit (.bool true), .lit (.bool true)], .lit (.bool true), .lit (.bool false), .lit (.bool true), .lit (.int .u8 5)], .agg [.lit (.string [97, 110, 116, 105, 99, 104, 101, 115, 115]), .agg [.lit (.bool false), .lit (.bool false)], .lit (.bool false), .lit (.bool false), .lit (.bool true), .lit (.int .u8 6)], .agg [.lit (.string [116, 104, 114, 101, 101, 99, 104, 101, 99, 107]), .agg [.lit (.bool true), .lit (.bool true)], .lit (.bool true), .lit (.bool false), .lit (.bool true), .lit (.int .u8 5)], .agg [.lit (.string [107, 105, 110, 103, 104, 105, 108, 108]), .agg [.lit (.bool true), .lit (.bool true)], .lit (.bool true), .lit (.bool false), .lit (.bool true), .lit (.int .u8 5)], .agg [.lit (.string [104, 111, 114, 100, 101]), .agg [.lit (.bool false), .lit (.bool true)], .lit (.bool true), .lit (.bool false), .lit (.bool true), .lit (.int .u8 5)], .agg [.lit (.string [114, 97, 99, 105, 110, 103]), .agg [.lit (.bool true), .lit (.bool true)], .lit (.bool false), .lit (.bool false), .lit (.bool false), .lit (.int .u8 0)]]
def laid_kibitzer_rules_knights {H : Type} : DataW H := .agg [.agg [.lit (.int .i64 0), .lit (.int .i64 1)], .agg [.lit (.int .i64 0), .lit (.int .i64 2)], .agg [.lit (.int .i64 0), .lit (.int .i64 3)], .agg [.lit (.int .i64 0), .lit (.int .i64 4)], .agg [.lit (.int .i64 1), .lit (.int .i64 2)], .agg [.lit (.int .i64 1), .lit (.int .i64 3)], .agg [.lit (.int .i64 1), .lit (.int .i64 4)], .agg [.lit (.int .i64 2), .lit (.int .i64 3)], .agg [.lit (.int .i64 2), .lit (.int .i64 4)], .agg [.lit (.int .i64 3), .lit (.int .i64 4)]]
def laid_kibitzer_moves_goals {H : Type} : DataW H := .agg [.lit (.int .i64 6), .lit (.int .i64 2)]

/-- 'kibitzerlaw11.MovesArg': WHATEVER THE INPUT: true; the input reads as it did. -/
def movesArgSpec : ChangeSpec := { name := "movesArg", fn := fun _ => fun
  | [d1, d2, d3, d4, d5] => { results := [.lit (.bool true)], args := [d1, d2, d3, d4, d5] }
  | _ => none }
def movesArgRow : OpenClaim := { program := "ytgfgohlolnlcjabdoor", sum := "44222e68b7daa3fcf88c590361bb708bd4cde080bb1df19965b84423eff319ea", func := "kibitzer/kibitzerlaw11.MovesArg", spec := "movesArg", inPlace := ["internal/bytealg.IndexByteString", "internal/bytealg.IndexString"], unfollowed := true, recurses := true, named := ["kibitzer/rules.knights", "kibitzer/rules.variants", "kibitzer/moves.goals", "internal/bytealg.MaxLen"], apart := false, laid := [("kibitzer/rules.variants", laid_kibitzer_rules_variants), ("kibitzer/rules.knights", laid_kibitzer_rules_knights), ("kibitzer/moves.goals", laid_kibitzer_moves_goals)] }
def MovesArgSaid : Prop := movesArgRow.holds Tryd.pinned (OpenSpec.ofChange movesArgSpec)

/-- ITS FALSE NEIGHBOUR: 'it returns false'. Refute it at one input. -/
def movesArgWrong : ChangeSpec := { name := "movesArg", fn := fun _ => fun
  | [d1, d2, d3, d4, d5] => { results := [.lit (.bool false)], args := [d1, d2, d3, d4, d5] }
  | _ => none }
def MovesArgWrongFalsely : Prop := movesArgRow.holds Tryd.pinned (OpenSpec.ofChange movesArgWrong)

/- THE SECOND FORM. 'bulk': how many values and letters a reading holds, each counted each time it is reached (what is shared counts as often as it is met; a slice's spare places count too). A statement '..UptoSaid' is the law's where the arguments, and the package variables that the reading takes, are together of bulk at most 1048576: NARROWER than '..Said'. Prove '..Said' where nothing that the law and all that it calls make is longer than what came in: it says more and counts as full. Else prove '..UptoSaid'. A law counts once. -/
mutual
def uptoBulk {H : Type} : DataW H → Nat
  | .lit (.string bytes) => bytes.length + 1
  | .lit _ => 1
  | .nil => 1
  | .ptr d => uptoBulk d + 1
  | .slice elems spare => uptoBulkAll elems + uptoBulkAll spare + 1
  | .agg parts => uptoBulkAll parts + 1
  | .iface _ d => uptoBulk d + 1
  | .map entries => uptoBulkEntries entries + 1
  | .held _ => 1
def uptoBulkAll {H : Type} : List (DataW H) → Nat
  | [] => 0
  | d :: r => uptoBulk d + uptoBulkAll r
def uptoBulkEntries {H : Type} : List (Lit × DataW H) → Nat
  | [] => 0
  | x :: r => uptoBulkEntry x + uptoBulkEntries r
def uptoBulkEntry {H : Type} : Lit × DataW H → Nat
  | (.string bytes, d) => bytes.length + uptoBulk d + 1
  | (_, d) => uptoBulk d + 1
 end
def uptoSmall : (H : Type) → List (DataW H) → Bool := fun _ ds => decide (uptoBulkAll ds ≤ 1048576)
def OpenSpec.upto (s : _root_.Go.ChangeSpec) : _root_.Go.OpenSpec := { _root_.Go.OpenSpec.ofChange s with cond := some uptoSmall }

/-- 'kibitzerlaw11.MovesArg', WHERE WHAT IT READS IS OF BULK AT MOST 1048576: true; the input reads as it did. -/
def movesArgUptoRow : OpenClaim := { program := "ytgfgohlolnlcjabdoor", sum := "44222e68b7daa3fcf88c590361bb708bd4cde080bb1df19965b84423eff319ea", func := "kibitzer/kibitzerlaw11.MovesArg", spec := "movesArg", inPlace := ["internal/bytealg.IndexByteString", "internal/bytealg.IndexString"], unfollowed := true, recurses := true, named := ["kibitzer/rules.knights", "kibitzer/rules.variants", "kibitzer/moves.goals", "internal/bytealg.MaxLen"], apart := false, laid := [("kibitzer/rules.variants", laid_kibitzer_rules_variants), ("kibitzer/rules.knights", laid_kibitzer_rules_knights), ("kibitzer/moves.goals", laid_kibitzer_moves_goals)], narrowed := true }
def MovesArgUptoSaid : Prop := movesArgUptoRow.holds Tryd.pinned (OpenSpec.upto movesArgSpec)

end Rows
end Go.Proofs.YtgfgohlolnlcjabDoor
