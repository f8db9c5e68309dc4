/-
  NARROWER THAN 'FOR EVERY INPUT', by the rows' own cells (each row's printed sentence says how): BitsLists: laid · BitsSteps: laid · BitsOne: laid · BitsAll: laid · BitsBack: laid · BitsBoth: laid · BitsFlipped: laid.
  DERIVED. THE GIVEN ROWS OF THIS SEAT. 7 by the template 'for every input the law returns true; each argument reads behind the call as it read before'; 0 by the template 'total and deterministic' (their statements: YtpglfcjkjomcjaaDoorTotals.lean).
  GIVEN WITH THE SEED: the statements are not yours to turn. If you find one false, say at which input.
  Laid BY PROGRAM, IN A SANDBOX (cutbox-rows.mjs): the forced cells as the released guide's own fill.sh prints them over the translation cb2bf200793d4ed6… (all of the seat's roots in one cut). By AI agents, Wed Nov 11 2026. No macro, syntax, notation, axiom, sorry.
-/
import Derived.Test.YtpglfcjkjomcjaaDoorChecked
import GoSem.Claim
import GoSem.ClaimJoined
import GoSem.ClaimMapViews
import Derived.JoinedTies
import Derived.KernelRfl
namespace Go.Proofs.YtpglfcjkjomcjaaDoor
/- THE CELL 'sum', in the pinned program and in every row, IS THE sha256 OF THE DUMP (.gsa) THAT YtpglfcjkjomcjaaDoorProg.lean LOADS. Nothing in Lean hashes anything: it is a label: what it is worth is what the hold of that sum in a sandbox is worth. -/
noncomputable def Tryd.pinned : Pinned := { name := "ytpglfcjkjomcjaadoor", sum := "cb2bf200793d4ed676ef367449a3dbadee97fb3b4d036a33c892ede1db4a7e9d", checked := Tryd.checked }
namespace Rows
def none {H : Type} : Left H := { results := [], args := [] }

/- WHAT THE LISTED PACKAGE-LEVEL VARIABLES READ AS WHEN THE CALL BEGINS. Each datum BY PROGRAM (the guide's laid-datum.mjs) off the statement by which the dump's own 'gosem.cut.vars' lays the variable. In a bare row this is a premise. The card (YtpglfcjkjomcjaaDoorCards.lean) ties it to the program's text. -/
def laid_math_bits_deBruijn64tab {H : Type} : DataW H := .agg [.lit (.int .u8 0), .lit (.int .u8 1), .lit (.int .u8 56), .lit (.int .u8 2), .lit (.int .u8 57), .lit (.int .u8 49), .lit (.int .u8 28), .lit (.int .u8 3), .lit (.int .u8 61), .lit (.int .u8 58), .lit (.int .u8 42), .lit (.int .u8 50), .lit (.int .u8 38), .lit (.int .u8 29), .lit (.int .u8 17), .lit (.int .u8 4), .lit (.int .u8 62), .lit (.int .u8 47), .lit (.int .u8 59), .lit (.int .u8 36), .lit (.int .u8 45), .lit (.int .u8 43), .lit (.int .u8 51), .lit (.int .u8 22), .lit (.int .u8 53), .lit (.int .u8 39), .lit (.int .u8 33), .lit (.int .u8 30), .lit (.int .u8 24), .lit (.int .u8 18), .lit (.int .u8 12), .lit (.int .u8 5), .lit (.int .u8 63), .lit (.int .u8 55), .lit (.int .u8 48), .lit (.int .u8 27), .lit (.int .u8 60), .lit (.int .u8 41), .lit (.int .u8 37), .lit (.int .u8 16), .lit (.int .u8 46), .lit (.int .u8 35), .lit (.int .u8 44), .lit (.int .u8 21), .lit (.int .u8 52), .lit (.int .u8 32), .lit (.int .u8 23), .lit (.int .u8 11), .lit (.int .u8 54), .lit (.int .u8 26), .lit (.int .u8 40), .lit (.int .u8 15), .lit (.int .u8 34), .lit (.int .u8 20), .lit (.int .u8 31), .lit (.int .u8 10), .lit (.int .u8 25), .lit (.int .u8 14), .lit (.int .u8 19), .lit (.int .u8 9), .lit (.int .u8 13), .lit (.int .u8 8), .lit (.int .u8 7), .lit (.int .u8 6)]
def laid_kibitzer_bits_leads {H : Type} : DataW H := .agg [.lit (.int .i64 8), .lit (.int .i64 9), .lit (.int .i64 1), .lit (.int .i64 (-7)), .lit (.int .i64 (-8)), .lit (.int .i64 (-9)), .lit (.int .i64 (-1)), .lit (.int .i64 7)]

/-- 'kibitzerlaw01.BitsLists': WHATEVER THE INPUT: true; the input reads as it did. -/
def bitsListsSpec : ChangeSpec := { name := "bitsLists", fn := fun _ => fun
  | [d] => { results := [.lit (.bool true)], args := [d] }
  | _ => none }
def bitsListsRow : OpenClaim := { program := "ytpglfcjkjomcjaadoor", sum := "cb2bf200793d4ed676ef367449a3dbadee97fb3b4d036a33c892ede1db4a7e9d", func := "kibitzer/kibitzerlaw01.BitsLists", spec := "bitsLists", unfollowed := true, recurses := true, named := ["math/bits.deBruijn64tab"], apart := false, laid := [("math/bits.deBruijn64tab", laid_math_bits_deBruijn64tab)] }
def BitsListsSaid : Prop := bitsListsRow.holds Tryd.pinned (OpenSpec.ofChange bitsListsSpec)

/-- ITS FALSE NEIGHBOUR: 'it returns false'. Refute it at one input. -/
def bitsListsWrong : ChangeSpec := { name := "bitsLists", fn := fun _ => fun
  | [d] => { results := [.lit (.bool false)], args := [d] }
  | _ => none }
def BitsListsWrongFalsely : Prop := bitsListsRow.holds Tryd.pinned (OpenSpec.ofChange bitsListsWrong)

/-- 'kibitzerlaw01.BitsSteps': WHATEVER THE INPUT: true; the input reads as it did. -/
def bitsStepsSpec : ChangeSpec := { name := "bitsSteps", fn := fun _ => fun
  | [d1, d2] => { results := [.lit (.bool true)], args := [d1, d2] }
  | _ => none }
def bitsStepsRow : OpenClaim := { program := "ytpglfcjkjomcjaadoor", sum := "cb2bf200793d4ed676ef367449a3dbadee97fb3b4d036a33c892ede1db4a7e9d", func := "kibitzer/kibitzerlaw01.BitsSteps", spec := "bitsSteps", named := ["kibitzer/bits.leads"], apart := false, laid := [("kibitzer/bits.leads", laid_kibitzer_bits_leads)] }
def BitsStepsSaid : Prop := bitsStepsRow.holds Tryd.pinned (OpenSpec.ofChange bitsStepsSpec)

/-- ITS FALSE NEIGHBOUR: 'it returns false'. Refute it at one input. -/
def bitsStepsWrong : ChangeSpec := { name := "bitsSteps", fn := fun _ => fun
  | [d1, d2] => { results := [.lit (.bool false)], args := [d1, d2] }
  | _ => none }
def BitsStepsWrongFalsely : Prop := bitsStepsRow.holds Tryd.pinned (OpenSpec.ofChange bitsStepsWrong)

/-- 'kibitzerlaw01.BitsOne': WHATEVER THE INPUT: true; the input reads as it did. -/
def bitsOneSpec : ChangeSpec := { name := "bitsOne", fn := fun _ => fun
  | [d1, d2, d3] => { results := [.lit (.bool true)], args := [d1, d2, d3] }
  | _ => none }
def bitsOneRow : OpenClaim := { program := "ytpglfcjkjomcjaadoor", sum := "cb2bf200793d4ed676ef367449a3dbadee97fb3b4d036a33c892ede1db4a7e9d", func := "kibitzer/kibitzerlaw01.BitsOne", spec := "bitsOne", unfollowed := true, recurses := true, named := ["math/bits.deBruijn64tab", "kibitzer/bits.leads"], apart := false, laid := [("math/bits.deBruijn64tab", laid_math_bits_deBruijn64tab), ("kibitzer/bits.leads", laid_kibitzer_bits_leads)] }
def BitsOneSaid : Prop := bitsOneRow.holds Tryd.pinned (OpenSpec.ofChange bitsOneSpec)

/-- ITS FALSE NEIGHBOUR: 'it returns false'. Refute it at one input. -/
def bitsOneWrong : ChangeSpec := { name := "bitsOne", fn := fun _ => fun
  | [d1, d2, d3] => { results := [.lit (.bool false)], args := [d1, d2, d3] }
  | _ => none }
def BitsOneWrongFalsely : Prop := bitsOneRow.holds Tryd.pinned (OpenSpec.ofChange bitsOneWrong)

/-- 'kibitzerlaw01.BitsAll': WHATEVER THE INPUT: true; the input reads as it did. -/
def bitsAllSpec : ChangeSpec := { name := "bitsAll", fn := fun _ => fun
  | [d] => { results := [.lit (.bool true)], args := [d] }
  | _ => none }
def bitsAllRow : OpenClaim := { program := "ytpglfcjkjomcjaadoor", sum := "cb2bf200793d4ed676ef367449a3dbadee97fb3b4d036a33c892ede1db4a7e9d", func := "kibitzer/kibitzerlaw01.BitsAll", spec := "bitsAll", unfollowed := true, recurses := true, named := ["math/bits.deBruijn64tab", "kibitzer/bits.leads"], apart := false, laid := [("math/bits.deBruijn64tab", laid_math_bits_deBruijn64tab), ("kibitzer/bits.leads", laid_kibitzer_bits_leads)] }
def BitsAllSaid : Prop := bitsAllRow.holds Tryd.pinned (OpenSpec.ofChange bitsAllSpec)

/-- ITS FALSE NEIGHBOUR: 'it returns false'. Refute it at one input. -/
def bitsAllWrong : ChangeSpec := { name := "bitsAll", fn := fun _ => fun
  | [d] => { results := [.lit (.bool false)], args := [d] }
  | _ => none }
def BitsAllWrongFalsely : Prop := bitsAllRow.holds Tryd.pinned (OpenSpec.ofChange bitsAllWrong)

/-- 'kibitzerlaw01.BitsBack': WHATEVER THE INPUT: true; the input reads as it did. -/
def bitsBackSpec : ChangeSpec := { name := "bitsBack", fn := fun _ => fun
  | [d1, d2] => { results := [.lit (.bool true)], args := [d1, d2] }
  | _ => none }
def bitsBackRow : OpenClaim := { program := "ytpglfcjkjomcjaadoor", sum := "cb2bf200793d4ed676ef367449a3dbadee97fb3b4d036a33c892ede1db4a7e9d", func := "kibitzer/kibitzerlaw01.BitsBack", spec := "bitsBack", unfollowed := true, recurses := true, named := ["math/bits.deBruijn64tab", "kibitzer/bits.leads"], apart := false, laid := [("math/bits.deBruijn64tab", laid_math_bits_deBruijn64tab), ("kibitzer/bits.leads", laid_kibitzer_bits_leads)] }
def BitsBackSaid : Prop := bitsBackRow.holds Tryd.pinned (OpenSpec.ofChange bitsBackSpec)

/-- ITS FALSE NEIGHBOUR: 'it returns false'. Refute it at one input. -/
def bitsBackWrong : ChangeSpec := { name := "bitsBack", fn := fun _ => fun
  | [d1, d2] => { results := [.lit (.bool false)], args := [d1, d2] }
  | _ => none }
def BitsBackWrongFalsely : Prop := bitsBackRow.holds Tryd.pinned (OpenSpec.ofChange bitsBackWrong)

/-- 'kibitzerlaw01.BitsBoth': WHATEVER THE INPUT: true; the input reads as it did. -/
def bitsBothSpec : ChangeSpec := { name := "bitsBoth", fn := fun _ => fun
  | [d1, d2, d3] => { results := [.lit (.bool true)], args := [d1, d2, d3] }
  | _ => none }
def bitsBothRow : OpenClaim := { program := "ytpglfcjkjomcjaadoor", sum := "cb2bf200793d4ed676ef367449a3dbadee97fb3b4d036a33c892ede1db4a7e9d", func := "kibitzer/kibitzerlaw01.BitsBoth", spec := "bitsBoth", unfollowed := true, recurses := true, named := ["math/bits.deBruijn64tab", "kibitzer/bits.leads"], apart := false, laid := [("math/bits.deBruijn64tab", laid_math_bits_deBruijn64tab), ("kibitzer/bits.leads", laid_kibitzer_bits_leads)] }
def BitsBothSaid : Prop := bitsBothRow.holds Tryd.pinned (OpenSpec.ofChange bitsBothSpec)

/-- ITS FALSE NEIGHBOUR: 'it returns false'. Refute it at one input. -/
def bitsBothWrong : ChangeSpec := { name := "bitsBoth", fn := fun _ => fun
  | [d1, d2, d3] => { results := [.lit (.bool false)], args := [d1, d2, d3] }
  | _ => none }
def BitsBothWrongFalsely : Prop := bitsBothRow.holds Tryd.pinned (OpenSpec.ofChange bitsBothWrong)

/-- 'kibitzerlaw01.BitsFlipped': WHATEVER THE INPUT: true; the input reads as it did. -/
def bitsFlippedSpec : ChangeSpec := { name := "bitsFlipped", fn := fun _ => fun
  | [d1, d2] => { results := [.lit (.bool true)], args := [d1, d2] }
  | _ => none }
def bitsFlippedRow : OpenClaim := { program := "ytpglfcjkjomcjaadoor", sum := "cb2bf200793d4ed676ef367449a3dbadee97fb3b4d036a33c892ede1db4a7e9d", func := "kibitzer/kibitzerlaw01.BitsFlipped", spec := "bitsFlipped", unfollowed := true, recurses := true, named := ["math/bits.deBruijn64tab", "kibitzer/bits.leads"], apart := false, laid := [("math/bits.deBruijn64tab", laid_math_bits_deBruijn64tab), ("kibitzer/bits.leads", laid_kibitzer_bits_leads)] }
def BitsFlippedSaid : Prop := bitsFlippedRow.holds Tryd.pinned (OpenSpec.ofChange bitsFlippedSpec)

/-- ITS FALSE NEIGHBOUR: 'it returns false'. Refute it at one input. -/
def bitsFlippedWrong : ChangeSpec := { name := "bitsFlipped", fn := fun _ => fun
  | [d1, d2] => { results := [.lit (.bool false)], args := [d1, d2] }
  | _ => none }
def BitsFlippedWrongFalsely : Prop := bitsFlippedRow.holds Tryd.pinned (OpenSpec.ofChange bitsFlippedWrong)

/- THE SECOND FORM. 'bulk': how many values and letters a reading holds, each counted each time it is reached (what is shared counts as often as it is met; a slice's spare places count too). A statement '..UptoSaid' is the law's where the arguments, and the package variables that the reading takes, are together of bulk at most 1048576: NARROWER than '..Said'. Prove '..Said' where nothing that the law and all that it calls make is longer than what came in: it says more and counts as full. Else prove '..UptoSaid'. A law counts once. -/
mutual
def uptoBulk {H : Type} : DataW H → Nat
  | .lit (.string bytes) => bytes.length + 1
  | .lit _ => 1
  | .nil => 1
  | .ptr d => uptoBulk d + 1
  | .slice elems spare => uptoBulkAll elems + uptoBulkAll spare + 1
  | .agg parts => uptoBulkAll parts + 1
  | .iface _ d => uptoBulk d + 1
  | .map entries => uptoBulkEntries entries + 1
  | .held _ => 1
def uptoBulkAll {H : Type} : List (DataW H) → Nat
  | [] => 0
  | d :: r => uptoBulk d + uptoBulkAll r
def uptoBulkEntries {H : Type} : List (Lit × DataW H) → Nat
  | [] => 0
  | x :: r => uptoBulkEntry x + uptoBulkEntries r
def uptoBulkEntry {H : Type} : Lit × DataW H → Nat
  | (.string bytes, d) => bytes.length + uptoBulk d + 1
  | (_, d) => uptoBulk d + 1
 end
def uptoSmall : (H : Type) → List (DataW H) → Bool := fun _ ds => decide (uptoBulkAll ds ≤ 1048576)
def OpenSpec.upto (s : _root_.Go.ChangeSpec) : _root_.Go.OpenSpec := { _root_.Go.OpenSpec.ofChange s with cond := some uptoSmall }

/-- 'kibitzerlaw01.BitsLists', WHERE WHAT IT READS IS OF BULK AT MOST 1048576: true; the input reads as it did. -/
def bitsListsUptoRow : OpenClaim := { program := "ytpglfcjkjomcjaadoor", sum := "cb2bf200793d4ed676ef367449a3dbadee97fb3b4d036a33c892ede1db4a7e9d", func := "kibitzer/kibitzerlaw01.BitsLists", spec := "bitsLists", unfollowed := true, recurses := true, named := ["math/bits.deBruijn64tab"], apart := false, laid := [("math/bits.deBruijn64tab", laid_math_bits_deBruijn64tab)], narrowed := true }
def BitsListsUptoSaid : Prop := bitsListsUptoRow.holds Tryd.pinned (OpenSpec.upto bitsListsSpec)

/-- 'kibitzerlaw01.BitsSteps', WHERE WHAT IT READS IS OF BULK AT MOST 1048576: true; the input reads as it did. -/
def bitsStepsUptoRow : OpenClaim := { program := "ytpglfcjkjomcjaadoor", sum := "cb2bf200793d4ed676ef367449a3dbadee97fb3b4d036a33c892ede1db4a7e9d", func := "kibitzer/kibitzerlaw01.BitsSteps", spec := "bitsSteps", named := ["kibitzer/bits.leads"], apart := false, laid := [("kibitzer/bits.leads", laid_kibitzer_bits_leads)], narrowed := true }
def BitsStepsUptoSaid : Prop := bitsStepsUptoRow.holds Tryd.pinned (OpenSpec.upto bitsStepsSpec)

/-- 'kibitzerlaw01.BitsOne', WHERE WHAT IT READS IS OF BULK AT MOST 1048576: true; the input reads as it did. -/
def bitsOneUptoRow : OpenClaim := { program := "ytpglfcjkjomcjaadoor", sum := "cb2bf200793d4ed676ef367449a3dbadee97fb3b4d036a33c892ede1db4a7e9d", func := "kibitzer/kibitzerlaw01.BitsOne", spec := "bitsOne", unfollowed := true, recurses := true, named := ["math/bits.deBruijn64tab", "kibitzer/bits.leads"], apart := false, laid := [("math/bits.deBruijn64tab", laid_math_bits_deBruijn64tab), ("kibitzer/bits.leads", laid_kibitzer_bits_leads)], narrowed := true }
def BitsOneUptoSaid : Prop := bitsOneUptoRow.holds Tryd.pinned (OpenSpec.upto bitsOneSpec)

/-- 'kibitzerlaw01.BitsAll', WHERE WHAT IT READS IS OF BULK AT MOST 1048576: true; the input reads as it did. -/
def bitsAllUptoRow : OpenClaim := { program := "ytpglfcjkjomcjaadoor", sum := "cb2bf200793d4ed676ef367449a3dbadee97fb3b4d036a33c892ede1db4a7e9d", func := "kibitzer/kibitzerlaw01.BitsAll", spec := "bitsAll", unfollowed := true, recurses := true, named := ["math/bits.deBruijn64tab", "kibitzer/bits.leads"], apart := false, laid := [("math/bits.deBruijn64tab", laid_math_bits_deBruijn64tab), ("kibitzer/bits.leads", laid_kibitzer_bits_leads)], narrowed := true }
def BitsAllUptoSaid : Prop := bitsAllUptoRow.holds Tryd.pinned (OpenSpec.upto bitsAllSpec)

/-- 'kibitzerlaw01.BitsBack', WHERE WHAT IT READS IS OF BULK AT MOST 1048576: true; the input reads as it did. -/
def bitsBackUptoRow : OpenClaim := { program := "ytpglfcjkjomcjaadoor", sum := "cb2bf200793d4ed676ef367449a3dbadee97fb3b4d036a33c892ede1db4a7e9d", func := "kibitzer/kibitzerlaw01.BitsBack", spec := "bitsBack", unfollowed := true, recurses := true, named := ["math/bits.deBruijn64tab", "kibitzer/bits.leads"], apart := false, laid := [("math/bits.deBruijn64tab", laid_math_bits_deBruijn64tab), ("kibitzer/bits.leads", laid_kibitzer_bits_leads)], narrowed := true }
def BitsBackUptoSaid : Prop := bitsBackUptoRow.holds Tryd.pinned (OpenSpec.upto bitsBackSpec)

/-- 'kibitzerlaw01.BitsBoth', WHERE WHAT IT READS IS OF BULK AT MOST 1048576: true; the input reads as it did. -/
def bitsBothUptoRow : OpenClaim := { program := "ytpglfcjkjomcjaadoor", sum := "cb2bf200793d4ed676ef367449a3dbadee97fb3b4d036a33c892ede1db4a7e9d", func := "kibitzer/kibitzerlaw01.BitsBoth", spec := "bitsBoth", unfollowed := true, recurses := true, named := ["math/bits.deBruijn64tab", "kibitzer/bits.leads"], apart := false, laid := [("math/bits.deBruijn64tab", laid_math_bits_deBruijn64tab), ("kibitzer/bits.leads", laid_kibitzer_bits_leads)], narrowed := true }
def BitsBothUptoSaid : Prop := bitsBothUptoRow.holds Tryd.pinned (OpenSpec.upto bitsBothSpec)

/-- 'kibitzerlaw01.BitsFlipped', WHERE WHAT IT READS IS OF BULK AT MOST 1048576: true; the input reads as it did. -/
def bitsFlippedUptoRow : OpenClaim := { program := "ytpglfcjkjomcjaadoor", sum := "cb2bf200793d4ed676ef367449a3dbadee97fb3b4d036a33c892ede1db4a7e9d", func := "kibitzer/kibitzerlaw01.BitsFlipped", spec := "bitsFlipped", unfollowed := true, recurses := true, named := ["math/bits.deBruijn64tab", "kibitzer/bits.leads"], apart := false, laid := [("math/bits.deBruijn64tab", laid_math_bits_deBruijn64tab), ("kibitzer/bits.leads", laid_kibitzer_bits_leads)], narrowed := true }
def BitsFlippedUptoSaid : Prop := bitsFlippedUptoRow.holds Tryd.pinned (OpenSpec.upto bitsFlippedSpec)

end Rows
end Go.Proofs.YtpglfcjkjomcjaaDoor
