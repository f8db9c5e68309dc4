/-
  NARROWER THAN 'FOR EVERY INPUT', by the rows' own cells (each row's printed sentence says how): HashParts: laid · HashRights: laid · HashKey: laid · HashPiece: laid · HashOthers: laid · HashClocks: laid · HashNothing: laid.
  DERIVED. THE GIVEN ROWS OF THIS SEAT. 7 by the template 'for every input the law returns true; each argument reads behind the call as it read before'; 0 by the template 'total and deterministic' (their statements: YtboopdmgphhemaaDoorTotals.lean).
  GIVEN WITH THE SEED: the statements are not yours to turn. If you find one false, say at which input.
  Laid BY PROGRAM, IN A SANDBOX (cutbox-rows.mjs): the forced cells as the released guide's own fill.sh prints them over the translation d57cc440e79a67c9… (all of the seat's roots in one cut). By AI agents, Wed Nov 11 2026. No macro, syntax, notation, axiom, sorry.
-/
import Derived.Test.YtboopdmgphhemaaDoorChecked
import GoSem.Claim
import GoSem.ClaimJoined
import GoSem.ClaimMapViews
import Derived.JoinedTies
import Derived.KernelRfl
namespace Go.Proofs.YtboopdmgphhemaaDoor
/- THE CELL 'sum', in the pinned program and in every row, IS THE sha256 OF THE DUMP (.gsa) THAT YtboopdmgphhemaaDoorProg.lean LOADS. Nothing in Lean hashes anything: it is a label: what it is worth is what the hold of that sum in a sandbox is worth. -/
noncomputable def Tryd.pinned : Pinned := { name := "ytboopdmgphhemaadoor", sum := "d57cc440e79a67c9eb5ce5d4883b954369536845d4ea1a6c5a280be96cefd36a", checked := Tryd.checked }
namespace Rows
def none {H : Type} : Left H := { results := [], args := [] }

/- WHAT THE LISTED PACKAGE-LEVEL VARIABLES READ AS WHEN THE CALL BEGINS. Each datum BY PROGRAM (the guide's laid-datum.mjs) off the statement by which the dump's own 'gosem.cut.vars' lays the variable. In a bare row this is a premise. The card (YtboopdmgphhemaaDoorCards.lean) ties it to the program's text. -/
def laid_kibitzer_hash_mixing {H : Type} : DataW H := .agg [.agg [.lit (.int .u64 30), .lit (.int .u64 13787848793156543929)], .agg [.lit (.int .u64 27), .lit (.int .u64 10723151780598845931)], .agg [.lit (.int .u64 31), .lit (.int .u64 1)]]

/-- 'kibitzerlaw09.HashParts': WHATEVER THE INPUT: true; the input reads as it did. -/
def hashPartsSpec : ChangeSpec := { name := "hashParts", fn := fun _ => fun
  | [d1, d2, d3, d4] => { results := [.lit (.bool true)], args := [d1, d2, d3, d4] }
  | _ => none }
def hashPartsRow : OpenClaim := { program := "ytboopdmgphhemaadoor", sum := "d57cc440e79a67c9eb5ce5d4883b954369536845d4ea1a6c5a280be96cefd36a", func := "kibitzer/kibitzerlaw09.HashParts", spec := "hashParts", named := ["kibitzer/hash.mixing"], apart := false, laid := [("kibitzer/hash.mixing", laid_kibitzer_hash_mixing)] }
def HashPartsSaid : Prop := hashPartsRow.holds Tryd.pinned (OpenSpec.ofChange hashPartsSpec)

/-- ITS FALSE NEIGHBOUR: 'it returns false'. Refute it at one input. -/
def hashPartsWrong : ChangeSpec := { name := "hashParts", fn := fun _ => fun
  | [d1, d2, d3, d4] => { results := [.lit (.bool false)], args := [d1, d2, d3, d4] }
  | _ => none }
def HashPartsWrongFalsely : Prop := hashPartsRow.holds Tryd.pinned (OpenSpec.ofChange hashPartsWrong)

/-- 'kibitzerlaw09.HashRights': WHATEVER THE INPUT: true; the input reads as it did. -/
def hashRightsSpec : ChangeSpec := { name := "hashRights", fn := fun _ => fun
  | [d1, d2, d3, d4, d5, d6] => { results := [.lit (.bool true)], args := [d1, d2, d3, d4, d5, d6] }
  | _ => none }
def hashRightsRow : OpenClaim := { program := "ytboopdmgphhemaadoor", sum := "d57cc440e79a67c9eb5ce5d4883b954369536845d4ea1a6c5a280be96cefd36a", func := "kibitzer/kibitzerlaw09.HashRights", spec := "hashRights", unfollowed := true, recurses := true, named := ["kibitzer/hash.mixing"], apart := false, laid := [("kibitzer/hash.mixing", laid_kibitzer_hash_mixing)] }
def HashRightsSaid : Prop := hashRightsRow.holds Tryd.pinned (OpenSpec.ofChange hashRightsSpec)

/-- ITS FALSE NEIGHBOUR: 'it returns false'. Refute it at one input. -/
def hashRightsWrong : ChangeSpec := { name := "hashRights", fn := fun _ => fun
  | [d1, d2, d3, d4, d5, d6] => { results := [.lit (.bool false)], args := [d1, d2, d3, d4, d5, d6] }
  | _ => none }
def HashRightsWrongFalsely : Prop := hashRightsRow.holds Tryd.pinned (OpenSpec.ofChange hashRightsWrong)

/-- 'kibitzerlaw09.HashKey': WHATEVER THE INPUT: true; the input reads as it did. -/
def hashKeySpec : ChangeSpec := { name := "hashKey", fn := fun _ => fun
  | [d] => { results := [.lit (.bool true)], args := [d] }
  | _ => none }
def hashKeyRow : OpenClaim := { program := "ytboopdmgphhemaadoor", sum := "d57cc440e79a67c9eb5ce5d4883b954369536845d4ea1a6c5a280be96cefd36a", func := "kibitzer/kibitzerlaw09.HashKey", spec := "hashKey", unfollowed := true, recurses := true, named := ["kibitzer/hash.mixing"], apart := false, laid := [("kibitzer/hash.mixing", laid_kibitzer_hash_mixing)] }
def HashKeySaid : Prop := hashKeyRow.holds Tryd.pinned (OpenSpec.ofChange hashKeySpec)

/-- ITS FALSE NEIGHBOUR: 'it returns false'. Refute it at one input. -/
def hashKeyWrong : ChangeSpec := { name := "hashKey", fn := fun _ => fun
  | [d] => { results := [.lit (.bool false)], args := [d] }
  | _ => none }
def HashKeyWrongFalsely : Prop := hashKeyRow.holds Tryd.pinned (OpenSpec.ofChange hashKeyWrong)

/-- 'kibitzerlaw09.HashPiece': WHATEVER THE INPUT: true; the input reads as it did. -/
def hashPieceSpec : ChangeSpec := { name := "hashPiece", fn := fun _ => fun
  | [d1, d2, d3] => { results := [.lit (.bool true)], args := [d1, d2, d3] }
  | _ => none }
def hashPieceRow : OpenClaim := { program := "ytboopdmgphhemaadoor", sum := "d57cc440e79a67c9eb5ce5d4883b954369536845d4ea1a6c5a280be96cefd36a", func := "kibitzer/kibitzerlaw09.HashPiece", spec := "hashPiece", unfollowed := true, recurses := true, named := ["kibitzer/hash.mixing"], apart := false, laid := [("kibitzer/hash.mixing", laid_kibitzer_hash_mixing)] }
def HashPieceSaid : Prop := hashPieceRow.holds Tryd.pinned (OpenSpec.ofChange hashPieceSpec)

/-- ITS FALSE NEIGHBOUR: 'it returns false'. Refute it at one input. -/
def hashPieceWrong : ChangeSpec := { name := "hashPiece", fn := fun _ => fun
  | [d1, d2, d3] => { results := [.lit (.bool false)], args := [d1, d2, d3] }
  | _ => none }
def HashPieceWrongFalsely : Prop := hashPieceRow.holds Tryd.pinned (OpenSpec.ofChange hashPieceWrong)

/-- 'kibitzerlaw09.HashOthers': WHATEVER THE INPUT: true; the input reads as it did. -/
def hashOthersSpec : ChangeSpec := { name := "hashOthers", fn := fun _ => fun
  | [d1, d2, d3, d4, d5] => { results := [.lit (.bool true)], args := [d1, d2, d3, d4, d5] }
  | _ => none }
def hashOthersRow : OpenClaim := { program := "ytboopdmgphhemaadoor", sum := "d57cc440e79a67c9eb5ce5d4883b954369536845d4ea1a6c5a280be96cefd36a", func := "kibitzer/kibitzerlaw09.HashOthers", spec := "hashOthers", unfollowed := true, recurses := true, named := ["kibitzer/hash.mixing"], apart := false, laid := [("kibitzer/hash.mixing", laid_kibitzer_hash_mixing)] }
def HashOthersSaid : Prop := hashOthersRow.holds Tryd.pinned (OpenSpec.ofChange hashOthersSpec)

/-- ITS FALSE NEIGHBOUR: 'it returns false'. Refute it at one input. -/
def hashOthersWrong : ChangeSpec := { name := "hashOthers", fn := fun _ => fun
  | [d1, d2, d3, d4, d5] => { results := [.lit (.bool false)], args := [d1, d2, d3, d4, d5] }
  | _ => none }
def HashOthersWrongFalsely : Prop := hashOthersRow.holds Tryd.pinned (OpenSpec.ofChange hashOthersWrong)

/-- 'kibitzerlaw09.HashClocks': WHATEVER THE INPUT: true; the input reads as it did. -/
def hashClocksSpec : ChangeSpec := { name := "hashClocks", fn := fun _ => fun
  | [d1, d2, d3] => { results := [.lit (.bool true)], args := [d1, d2, d3] }
  | _ => none }
def hashClocksRow : OpenClaim := { program := "ytboopdmgphhemaadoor", sum := "d57cc440e79a67c9eb5ce5d4883b954369536845d4ea1a6c5a280be96cefd36a", func := "kibitzer/kibitzerlaw09.HashClocks", spec := "hashClocks", unfollowed := true, recurses := true, named := ["kibitzer/hash.mixing"], apart := false, laid := [("kibitzer/hash.mixing", laid_kibitzer_hash_mixing)] }
def HashClocksSaid : Prop := hashClocksRow.holds Tryd.pinned (OpenSpec.ofChange hashClocksSpec)

/-- ITS FALSE NEIGHBOUR: 'it returns false'. Refute it at one input. -/
def hashClocksWrong : ChangeSpec := { name := "hashClocks", fn := fun _ => fun
  | [d1, d2, d3] => { results := [.lit (.bool false)], args := [d1, d2, d3] }
  | _ => none }
def HashClocksWrongFalsely : Prop := hashClocksRow.holds Tryd.pinned (OpenSpec.ofChange hashClocksWrong)

/-- 'kibitzerlaw09.HashNothing': WHATEVER THE INPUT: true; the input reads as it did. -/
def hashNothingSpec : ChangeSpec := { name := "hashNothing", fn := fun _ => fun
  | [d1, d2, d3, d4, d5, d6] => { results := [.lit (.bool true)], args := [d1, d2, d3, d4, d5, d6] }
  | _ => none }
def hashNothingRow : OpenClaim := { program := "ytboopdmgphhemaadoor", sum := "d57cc440e79a67c9eb5ce5d4883b954369536845d4ea1a6c5a280be96cefd36a", func := "kibitzer/kibitzerlaw09.HashNothing", spec := "hashNothing", unfollowed := true, recurses := true, named := ["kibitzer/hash.mixing"], apart := false, laid := [("kibitzer/hash.mixing", laid_kibitzer_hash_mixing)] }
def HashNothingSaid : Prop := hashNothingRow.holds Tryd.pinned (OpenSpec.ofChange hashNothingSpec)

/-- ITS FALSE NEIGHBOUR: 'it returns false'. Refute it at one input. -/
def hashNothingWrong : ChangeSpec := { name := "hashNothing", fn := fun _ => fun
  | [d1, d2, d3, d4, d5, d6] => { results := [.lit (.bool false)], args := [d1, d2, d3, d4, d5, d6] }
  | _ => none }
def HashNothingWrongFalsely : Prop := hashNothingRow.holds Tryd.pinned (OpenSpec.ofChange hashNothingWrong)

/- THE SECOND FORM. 'bulk': how many values and letters a reading holds, each counted each time it is reached (what is shared counts as often as it is met; a slice's spare places count too). A statement '..UptoSaid' is the law's where the arguments, and the package variables that the reading takes, are together of bulk at most 1048576: NARROWER than '..Said'. Prove '..Said' where nothing that the law and all that it calls make is longer than what came in: it says more and counts as full. Else prove '..UptoSaid'. A law counts once. -/
mutual
def uptoBulk {H : Type} : DataW H → Nat
  | .lit (.string bytes) => bytes.length + 1
  | .lit _ => 1
  | .nil => 1
  | .ptr d => uptoBulk d + 1
  | .slice elems spare => uptoBulkAll elems + uptoBulkAll spare + 1
  | .agg parts => uptoBulkAll parts + 1
  | .iface _ d => uptoBulk d + 1
  | .map entries => uptoBulkEntries entries + 1
  | .held _ => 1
def uptoBulkAll {H : Type} : List (DataW H) → Nat
  | [] => 0
  | d :: r => uptoBulk d + uptoBulkAll r
def uptoBulkEntries {H : Type} : List (Lit × DataW H) → Nat
  | [] => 0
  | x :: r => uptoBulkEntry x + uptoBulkEntries r
def uptoBulkEntry {H : Type} : Lit × DataW H → Nat
  | (.string bytes, d) => bytes.length + uptoBulk d + 1
  | (_, d) => uptoBulk d + 1
 end
def uptoSmall : (H : Type) → List (DataW H) → Bool := fun _ ds => decide (uptoBulkAll ds ≤ 1048576)
def OpenSpec.upto (s : _root_.Go.ChangeSpec) : _root_.Go.OpenSpec := { _root_.Go.OpenSpec.ofChange s with cond := some uptoSmall }

/-- 'kibitzerlaw09.HashParts', WHERE WHAT IT READS IS OF BULK AT MOST 1048576: true; the input reads as it did. -/
def hashPartsUptoRow : OpenClaim := { program := "ytboopdmgphhemaadoor", sum := "d57cc440e79a67c9eb5ce5d4883b954369536845d4ea1a6c5a280be96cefd36a", func := "kibitzer/kibitzerlaw09.HashParts", spec := "hashParts", named := ["kibitzer/hash.mixing"], apart := false, laid := [("kibitzer/hash.mixing", laid_kibitzer_hash_mixing)], narrowed := true }
def HashPartsUptoSaid : Prop := hashPartsUptoRow.holds Tryd.pinned (OpenSpec.upto hashPartsSpec)

/-- 'kibitzerlaw09.HashRights', WHERE WHAT IT READS IS OF BULK AT MOST 1048576: true; the input reads as it did. -/
def hashRightsUptoRow : OpenClaim := { program := "ytboopdmgphhemaadoor", sum := "d57cc440e79a67c9eb5ce5d4883b954369536845d4ea1a6c5a280be96cefd36a", func := "kibitzer/kibitzerlaw09.HashRights", spec := "hashRights", unfollowed := true, recurses := true, named := ["kibitzer/hash.mixing"], apart := false, laid := [("kibitzer/hash.mixing", laid_kibitzer_hash_mixing)], narrowed := true }
def HashRightsUptoSaid : Prop := hashRightsUptoRow.holds Tryd.pinned (OpenSpec.upto hashRightsSpec)

/-- 'kibitzerlaw09.HashKey', WHERE WHAT IT READS IS OF BULK AT MOST 1048576: true; the input reads as it did. -/
def hashKeyUptoRow : OpenClaim := { program := "ytboopdmgphhemaadoor", sum := "d57cc440e79a67c9eb5ce5d4883b954369536845d4ea1a6c5a280be96cefd36a", func := "kibitzer/kibitzerlaw09.HashKey", spec := "hashKey", unfollowed := true, recurses := true, named := ["kibitzer/hash.mixing"], apart := false, laid := [("kibitzer/hash.mixing", laid_kibitzer_hash_mixing)], narrowed := true }
def HashKeyUptoSaid : Prop := hashKeyUptoRow.holds Tryd.pinned (OpenSpec.upto hashKeySpec)

/-- 'kibitzerlaw09.HashPiece', WHERE WHAT IT READS IS OF BULK AT MOST 1048576: true; the input reads as it did. -/
def hashPieceUptoRow : OpenClaim := { program := "ytboopdmgphhemaadoor", sum := "d57cc440e79a67c9eb5ce5d4883b954369536845d4ea1a6c5a280be96cefd36a", func := "kibitzer/kibitzerlaw09.HashPiece", spec := "hashPiece", unfollowed := true, recurses := true, named := ["kibitzer/hash.mixing"], apart := false, laid := [("kibitzer/hash.mixing", laid_kibitzer_hash_mixing)], narrowed := true }
def HashPieceUptoSaid : Prop := hashPieceUptoRow.holds Tryd.pinned (OpenSpec.upto hashPieceSpec)

/-- 'kibitzerlaw09.HashOthers', WHERE WHAT IT READS IS OF BULK AT MOST 1048576: true; the input reads as it did. -/
def hashOthersUptoRow : OpenClaim := { program := "ytboopdmgphhemaadoor", sum := "d57cc440e79a67c9eb5ce5d4883b954369536845d4ea1a6c5a280be96cefd36a", func := "kibitzer/kibitzerlaw09.HashOthers", spec := "hashOthers", unfollowed := true, recurses := true, named := ["kibitzer/hash.mixing"], apart := false, laid := [("kibitzer/hash.mixing", laid_kibitzer_hash_mixing)], narrowed := true }
def HashOthersUptoSaid : Prop := hashOthersUptoRow.holds Tryd.pinned (OpenSpec.upto hashOthersSpec)

/-- 'kibitzerlaw09.HashClocks', WHERE WHAT IT READS IS OF BULK AT MOST 1048576: true; the input reads as it did. -/
def hashClocksUptoRow : OpenClaim := { program := "ytboopdmgphhemaadoor", sum := "d57cc440e79a67c9eb5ce5d4883b954369536845d4ea1a6c5a280be96cefd36a", func := "kibitzer/kibitzerlaw09.HashClocks", spec := "hashClocks", unfollowed := true, recurses := true, named := ["kibitzer/hash.mixing"], apart := false, laid := [("kibitzer/hash.mixing", laid_kibitzer_hash_mixing)], narrowed := true }
def HashClocksUptoSaid : Prop := hashClocksUptoRow.holds Tryd.pinned (OpenSpec.upto hashClocksSpec)

/-- 'kibitzerlaw09.HashNothing', WHERE WHAT IT READS IS OF BULK AT MOST 1048576: true; the input reads as it did. -/
def hashNothingUptoRow : OpenClaim := { program := "ytboopdmgphhemaadoor", sum := "d57cc440e79a67c9eb5ce5d4883b954369536845d4ea1a6c5a280be96cefd36a", func := "kibitzer/kibitzerlaw09.HashNothing", spec := "hashNothing", unfollowed := true, recurses := true, named := ["kibitzer/hash.mixing"], apart := false, laid := [("kibitzer/hash.mixing", laid_kibitzer_hash_mixing)], narrowed := true }
def HashNothingUptoSaid : Prop := hashNothingUptoRow.holds Tryd.pinned (OpenSpec.upto hashNothingSpec)

end Rows
end Go.Proofs.YtboopdmgphhemaaDoor
