/-
  NARROWER THAN 'FOR EVERY INPUT', by the rows' own cells (each row's printed sentence says how): RaysSteps: laid · RaysRays: laid · RaysLines: laid · RaysTurned: laid · RaysOneLine: laid · RaysParts: laid · RaysFlipped: laid · RaysNone: laid.
  DERIVED. THE GIVEN ROWS OF THIS SEAT. 8 by the template 'for every input the law returns true; each argument reads behind the call as it read before'; 0 by the template 'total and deterministic' (their statements: YtheaknnipbbnbaaDoorTotals.lean).
  GIVEN WITH THE SEED: the statements are not yours to turn. If you find one false, say at which input.
  Laid BY PROGRAM, IN A SANDBOX (cutbox-rows.mjs): the forced cells as the released guide's own fill.sh prints them over the translation 4ba789d94fec84c1… (all of the seat's roots in one cut). By AI agents, Wed Nov 11 2026. No macro, syntax, notation, axiom, sorry.
-/
import Derived.Test.YtheaknnipbbnbaaDoorChecked
import GoSem.Claim
import GoSem.ClaimJoined
import GoSem.ClaimMapViews
import Derived.JoinedTies
import Derived.KernelRfl
namespace Go.Proofs.YtheaknnipbbnbaaDoor
/- THE CELL 'sum', in the pinned program and in every row, IS THE sha256 OF THE DUMP (.gsa) THAT YtheaknnipbbnbaaDoorProg.lean LOADS. Nothing in Lean hashes anything: it is a label: what it is worth is what the hold of that sum in a sandbox is worth. -/
noncomputable def Tryd.pinned : Pinned := { name := "ytheaknnipbbnbaadoor", sum := "4ba789d94fec84c11cc28df6b702e2903c34864073c185c09cd12fba7a8a1da0", checked := Tryd.checked }
namespace Rows
def none {H : Type} : Left H := { results := [], args := [] }

/- WHAT THE LISTED PACKAGE-LEVEL VARIABLES READ AS WHEN THE CALL BEGINS. Each datum BY PROGRAM (the guide's laid-datum.mjs) off the statement by which the dump's own 'gosem.cut.vars' lays the variable. In a bare row this is a premise. The card (YtheaknnipbbnbaaDoorCards.lean) ties it to the program's text. -/
def laid_kibitzer_bits_leads {H : Type} : DataW H := .agg [.lit (.int .i64 8), .lit (.int .i64 9), .lit (.int .i64 1), .lit (.int .i64 (-7)), .lit (.int .i64 (-8)), .lit (.int .i64 (-9)), .lit (.int .i64 (-1)), .lit (.int .i64 7)]

/-- 'kibitzerlaw03.RaysSteps': WHATEVER THE INPUT: true; the input reads as it did. -/
def raysStepsSpec : ChangeSpec := { name := "raysSteps", fn := fun _ => fun
  | [d1, d2] => { results := [.lit (.bool true)], args := [d1, d2] }
  | _ => none }
def raysStepsRow : OpenClaim := { program := "ytheaknnipbbnbaadoor", sum := "4ba789d94fec84c11cc28df6b702e2903c34864073c185c09cd12fba7a8a1da0", func := "kibitzer/kibitzerlaw03.RaysSteps", spec := "raysSteps", named := ["kibitzer/bits.leads"], apart := false, laid := [("kibitzer/bits.leads", laid_kibitzer_bits_leads)] }
def RaysStepsSaid : Prop := raysStepsRow.holds Tryd.pinned (OpenSpec.ofChange raysStepsSpec)

/-- ITS FALSE NEIGHBOUR: 'it returns false'. Refute it at one input. -/
def raysStepsWrong : ChangeSpec := { name := "raysSteps", fn := fun _ => fun
  | [d1, d2] => { results := [.lit (.bool false)], args := [d1, d2] }
  | _ => none }
def RaysStepsWrongFalsely : Prop := raysStepsRow.holds Tryd.pinned (OpenSpec.ofChange raysStepsWrong)

/-- 'kibitzerlaw03.RaysRays': WHATEVER THE INPUT: true; the input reads as it did. -/
def raysRaysSpec : ChangeSpec := { name := "raysRays", fn := fun _ => fun
  | [d1, d2] => { results := [.lit (.bool true)], args := [d1, d2] }
  | _ => none }
def raysRaysRow : OpenClaim := { program := "ytheaknnipbbnbaadoor", sum := "4ba789d94fec84c11cc28df6b702e2903c34864073c185c09cd12fba7a8a1da0", func := "kibitzer/kibitzerlaw03.RaysRays", spec := "raysRays", unfollowed := true, recurses := true, named := ["kibitzer/bits.leads"], apart := false, laid := [("kibitzer/bits.leads", laid_kibitzer_bits_leads)] }
def RaysRaysSaid : Prop := raysRaysRow.holds Tryd.pinned (OpenSpec.ofChange raysRaysSpec)

/-- ITS FALSE NEIGHBOUR: 'it returns false'. Refute it at one input. -/
def raysRaysWrong : ChangeSpec := { name := "raysRays", fn := fun _ => fun
  | [d1, d2] => { results := [.lit (.bool false)], args := [d1, d2] }
  | _ => none }
def RaysRaysWrongFalsely : Prop := raysRaysRow.holds Tryd.pinned (OpenSpec.ofChange raysRaysWrong)

/-- 'kibitzerlaw03.RaysLines': WHATEVER THE INPUT: true; the input reads as it did. -/
def raysLinesSpec : ChangeSpec := { name := "raysLines", fn := fun _ => fun
  | [d1, d2] => { results := [.lit (.bool true)], args := [d1, d2] }
  | _ => none }
def raysLinesRow : OpenClaim := { program := "ytheaknnipbbnbaadoor", sum := "4ba789d94fec84c11cc28df6b702e2903c34864073c185c09cd12fba7a8a1da0", func := "kibitzer/kibitzerlaw03.RaysLines", spec := "raysLines", unfollowed := true, recurses := true, named := ["kibitzer/bits.leads"], apart := false, laid := [("kibitzer/bits.leads", laid_kibitzer_bits_leads)] }
def RaysLinesSaid : Prop := raysLinesRow.holds Tryd.pinned (OpenSpec.ofChange raysLinesSpec)

/-- ITS FALSE NEIGHBOUR: 'it returns false'. Refute it at one input. -/
def raysLinesWrong : ChangeSpec := { name := "raysLines", fn := fun _ => fun
  | [d1, d2] => { results := [.lit (.bool false)], args := [d1, d2] }
  | _ => none }
def RaysLinesWrongFalsely : Prop := raysLinesRow.holds Tryd.pinned (OpenSpec.ofChange raysLinesWrong)

/-- 'kibitzerlaw03.RaysTurned': WHATEVER THE INPUT: true; the input reads as it did. -/
def raysTurnedSpec : ChangeSpec := { name := "raysTurned", fn := fun _ => fun
  | [d1, d2] => { results := [.lit (.bool true)], args := [d1, d2] }
  | _ => none }
def raysTurnedRow : OpenClaim := { program := "ytheaknnipbbnbaadoor", sum := "4ba789d94fec84c11cc28df6b702e2903c34864073c185c09cd12fba7a8a1da0", func := "kibitzer/kibitzerlaw03.RaysTurned", spec := "raysTurned", unfollowed := true, recurses := true, named := ["kibitzer/bits.leads"], apart := false, laid := [("kibitzer/bits.leads", laid_kibitzer_bits_leads)] }
def RaysTurnedSaid : Prop := raysTurnedRow.holds Tryd.pinned (OpenSpec.ofChange raysTurnedSpec)

/-- ITS FALSE NEIGHBOUR: 'it returns false'. Refute it at one input. -/
def raysTurnedWrong : ChangeSpec := { name := "raysTurned", fn := fun _ => fun
  | [d1, d2] => { results := [.lit (.bool false)], args := [d1, d2] }
  | _ => none }
def RaysTurnedWrongFalsely : Prop := raysTurnedRow.holds Tryd.pinned (OpenSpec.ofChange raysTurnedWrong)

/-- 'kibitzerlaw03.RaysOneLine': WHATEVER THE INPUT: true; the input reads as it did. -/
def raysOneLineSpec : ChangeSpec := { name := "raysOneLine", fn := fun _ => fun
  | [d1, d2, d3] => { results := [.lit (.bool true)], args := [d1, d2, d3] }
  | _ => none }
def raysOneLineRow : OpenClaim := { program := "ytheaknnipbbnbaadoor", sum := "4ba789d94fec84c11cc28df6b702e2903c34864073c185c09cd12fba7a8a1da0", func := "kibitzer/kibitzerlaw03.RaysOneLine", spec := "raysOneLine", unfollowed := true, recurses := true, named := ["kibitzer/bits.leads"], apart := false, laid := [("kibitzer/bits.leads", laid_kibitzer_bits_leads)] }
def RaysOneLineSaid : Prop := raysOneLineRow.holds Tryd.pinned (OpenSpec.ofChange raysOneLineSpec)

/-- ITS FALSE NEIGHBOUR: 'it returns false'. Refute it at one input. -/
def raysOneLineWrong : ChangeSpec := { name := "raysOneLine", fn := fun _ => fun
  | [d1, d2, d3] => { results := [.lit (.bool false)], args := [d1, d2, d3] }
  | _ => none }
def RaysOneLineWrongFalsely : Prop := raysOneLineRow.holds Tryd.pinned (OpenSpec.ofChange raysOneLineWrong)

/-- 'kibitzerlaw03.RaysParts': WHATEVER THE INPUT: true; the input reads as it did. -/
def raysPartsSpec : ChangeSpec := { name := "raysParts", fn := fun _ => fun
  | [d1, d2] => { results := [.lit (.bool true)], args := [d1, d2] }
  | _ => none }
def raysPartsRow : OpenClaim := { program := "ytheaknnipbbnbaadoor", sum := "4ba789d94fec84c11cc28df6b702e2903c34864073c185c09cd12fba7a8a1da0", func := "kibitzer/kibitzerlaw03.RaysParts", spec := "raysParts", unfollowed := true, recurses := true, named := ["kibitzer/bits.leads"], apart := false, laid := [("kibitzer/bits.leads", laid_kibitzer_bits_leads)] }
def RaysPartsSaid : Prop := raysPartsRow.holds Tryd.pinned (OpenSpec.ofChange raysPartsSpec)

/-- ITS FALSE NEIGHBOUR: 'it returns false'. Refute it at one input. -/
def raysPartsWrong : ChangeSpec := { name := "raysParts", fn := fun _ => fun
  | [d1, d2] => { results := [.lit (.bool false)], args := [d1, d2] }
  | _ => none }
def RaysPartsWrongFalsely : Prop := raysPartsRow.holds Tryd.pinned (OpenSpec.ofChange raysPartsWrong)

/-- 'kibitzerlaw03.RaysFlipped': WHATEVER THE INPUT: true; the input reads as it did. -/
def raysFlippedSpec : ChangeSpec := { name := "raysFlipped", fn := fun _ => fun
  | [d1, d2, d3] => { results := [.lit (.bool true)], args := [d1, d2, d3] }
  | _ => none }
def raysFlippedRow : OpenClaim := { program := "ytheaknnipbbnbaadoor", sum := "4ba789d94fec84c11cc28df6b702e2903c34864073c185c09cd12fba7a8a1da0", func := "kibitzer/kibitzerlaw03.RaysFlipped", spec := "raysFlipped", unfollowed := true, recurses := true, named := ["kibitzer/bits.leads"], apart := false, laid := [("kibitzer/bits.leads", laid_kibitzer_bits_leads)] }
def RaysFlippedSaid : Prop := raysFlippedRow.holds Tryd.pinned (OpenSpec.ofChange raysFlippedSpec)

/-- ITS FALSE NEIGHBOUR: 'it returns false'. Refute it at one input. -/
def raysFlippedWrong : ChangeSpec := { name := "raysFlipped", fn := fun _ => fun
  | [d1, d2, d3] => { results := [.lit (.bool false)], args := [d1, d2, d3] }
  | _ => none }
def RaysFlippedWrongFalsely : Prop := raysFlippedRow.holds Tryd.pinned (OpenSpec.ofChange raysFlippedWrong)

/-- 'kibitzerlaw03.RaysNone': WHATEVER THE INPUT: true; the input reads as it did. -/
def raysNoneSpec : ChangeSpec := { name := "raysNone", fn := fun _ => fun
  | [d1, d2, d3] => { results := [.lit (.bool true)], args := [d1, d2, d3] }
  | _ => none }
def raysNoneRow : OpenClaim := { program := "ytheaknnipbbnbaadoor", sum := "4ba789d94fec84c11cc28df6b702e2903c34864073c185c09cd12fba7a8a1da0", func := "kibitzer/kibitzerlaw03.RaysNone", spec := "raysNone", unfollowed := true, recurses := true, named := ["kibitzer/bits.leads"], apart := false, laid := [("kibitzer/bits.leads", laid_kibitzer_bits_leads)] }
def RaysNoneSaid : Prop := raysNoneRow.holds Tryd.pinned (OpenSpec.ofChange raysNoneSpec)

/-- ITS FALSE NEIGHBOUR: 'it returns false'. Refute it at one input. -/
def raysNoneWrong : ChangeSpec := { name := "raysNone", fn := fun _ => fun
  | [d1, d2, d3] => { results := [.lit (.bool false)], args := [d1, d2, d3] }
  | _ => none }
def RaysNoneWrongFalsely : Prop := raysNoneRow.holds Tryd.pinned (OpenSpec.ofChange raysNoneWrong)

/- THE SECOND FORM. 'bulk': how many values and letters a reading holds, each counted each time it is reached (what is shared counts as often as it is met; a slice's spare places count too). A statement '..UptoSaid' is the law's where the arguments, and the package variables that the reading takes, are together of bulk at most 1048576: NARROWER than '..Said'. Prove '..Said' where nothing that the law and all that it calls make is longer than what came in: it says more and counts as full. Else prove '..UptoSaid'. A law counts once. -/
mutual
def uptoBulk {H : Type} : DataW H → Nat
  | .lit (.string bytes) => bytes.length + 1
  | .lit _ => 1
  | .nil => 1
  | .ptr d => uptoBulk d + 1
  | .slice elems spare => uptoBulkAll elems + uptoBulkAll spare + 1
  | .agg parts => uptoBulkAll parts + 1
  | .iface _ d => uptoBulk d + 1
  | .map entries => uptoBulkEntries entries + 1
  | .held _ => 1
def uptoBulkAll {H : Type} : List (DataW H) → Nat
  | [] => 0
  | d :: r => uptoBulk d + uptoBulkAll r
def uptoBulkEntries {H : Type} : List (Lit × DataW H) → Nat
  | [] => 0
  | x :: r => uptoBulkEntry x + uptoBulkEntries r
def uptoBulkEntry {H : Type} : Lit × DataW H → Nat
  | (.string bytes, d) => bytes.length + uptoBulk d + 1
  | (_, d) => uptoBulk d + 1
 end
def uptoSmall : (H : Type) → List (DataW H) → Bool := fun _ ds => decide (uptoBulkAll ds ≤ 1048576)
def OpenSpec.upto (s : _root_.Go.ChangeSpec) : _root_.Go.OpenSpec := { _root_.Go.OpenSpec.ofChange s with cond := some uptoSmall }

/-- 'kibitzerlaw03.RaysSteps', WHERE WHAT IT READS IS OF BULK AT MOST 1048576: true; the input reads as it did. -/
def raysStepsUptoRow : OpenClaim := { program := "ytheaknnipbbnbaadoor", sum := "4ba789d94fec84c11cc28df6b702e2903c34864073c185c09cd12fba7a8a1da0", func := "kibitzer/kibitzerlaw03.RaysSteps", spec := "raysSteps", named := ["kibitzer/bits.leads"], apart := false, laid := [("kibitzer/bits.leads", laid_kibitzer_bits_leads)], narrowed := true }
def RaysStepsUptoSaid : Prop := raysStepsUptoRow.holds Tryd.pinned (OpenSpec.upto raysStepsSpec)

/-- 'kibitzerlaw03.RaysRays', WHERE WHAT IT READS IS OF BULK AT MOST 1048576: true; the input reads as it did. -/
def raysRaysUptoRow : OpenClaim := { program := "ytheaknnipbbnbaadoor", sum := "4ba789d94fec84c11cc28df6b702e2903c34864073c185c09cd12fba7a8a1da0", func := "kibitzer/kibitzerlaw03.RaysRays", spec := "raysRays", unfollowed := true, recurses := true, named := ["kibitzer/bits.leads"], apart := false, laid := [("kibitzer/bits.leads", laid_kibitzer_bits_leads)], narrowed := true }
def RaysRaysUptoSaid : Prop := raysRaysUptoRow.holds Tryd.pinned (OpenSpec.upto raysRaysSpec)

/-- 'kibitzerlaw03.RaysLines', WHERE WHAT IT READS IS OF BULK AT MOST 1048576: true; the input reads as it did. -/
def raysLinesUptoRow : OpenClaim := { program := "ytheaknnipbbnbaadoor", sum := "4ba789d94fec84c11cc28df6b702e2903c34864073c185c09cd12fba7a8a1da0", func := "kibitzer/kibitzerlaw03.RaysLines", spec := "raysLines", unfollowed := true, recurses := true, named := ["kibitzer/bits.leads"], apart := false, laid := [("kibitzer/bits.leads", laid_kibitzer_bits_leads)], narrowed := true }
def RaysLinesUptoSaid : Prop := raysLinesUptoRow.holds Tryd.pinned (OpenSpec.upto raysLinesSpec)

/-- 'kibitzerlaw03.RaysTurned', WHERE WHAT IT READS IS OF BULK AT MOST 1048576: true; the input reads as it did. -/
def raysTurnedUptoRow : OpenClaim := { program := "ytheaknnipbbnbaadoor", sum := "4ba789d94fec84c11cc28df6b702e2903c34864073c185c09cd12fba7a8a1da0", func := "kibitzer/kibitzerlaw03.RaysTurned", spec := "raysTurned", unfollowed := true, recurses := true, named := ["kibitzer/bits.leads"], apart := false, laid := [("kibitzer/bits.leads", laid_kibitzer_bits_leads)], narrowed := true }
def RaysTurnedUptoSaid : Prop := raysTurnedUptoRow.holds Tryd.pinned (OpenSpec.upto raysTurnedSpec)

/-- 'kibitzerlaw03.RaysOneLine', WHERE WHAT IT READS IS OF BULK AT MOST 1048576: true; the input reads as it did. -/
def raysOneLineUptoRow : OpenClaim := { program := "ytheaknnipbbnbaadoor", sum := "4ba789d94fec84c11cc28df6b702e2903c34864073c185c09cd12fba7a8a1da0", func := "kibitzer/kibitzerlaw03.RaysOneLine", spec := "raysOneLine", unfollowed := true, recurses := true, named := ["kibitzer/bits.leads"], apart := false, laid := [("kibitzer/bits.leads", laid_kibitzer_bits_leads)], narrowed := true }
def RaysOneLineUptoSaid : Prop := raysOneLineUptoRow.holds Tryd.pinned (OpenSpec.upto raysOneLineSpec)

/-- 'kibitzerlaw03.RaysParts', WHERE WHAT IT READS IS OF BULK AT MOST 1048576: true; the input reads as it did. -/
def raysPartsUptoRow : OpenClaim := { program := "ytheaknnipbbnbaadoor", sum := "4ba789d94fec84c11cc28df6b702e2903c34864073c185c09cd12fba7a8a1da0", func := "kibitzer/kibitzerlaw03.RaysParts", spec := "raysParts", unfollowed := true, recurses := true, named := ["kibitzer/bits.leads"], apart := false, laid := [("kibitzer/bits.leads", laid_kibitzer_bits_leads)], narrowed := true }
def RaysPartsUptoSaid : Prop := raysPartsUptoRow.holds Tryd.pinned (OpenSpec.upto raysPartsSpec)

/-- 'kibitzerlaw03.RaysFlipped', WHERE WHAT IT READS IS OF BULK AT MOST 1048576: true; the input reads as it did. -/
def raysFlippedUptoRow : OpenClaim := { program := "ytheaknnipbbnbaadoor", sum := "4ba789d94fec84c11cc28df6b702e2903c34864073c185c09cd12fba7a8a1da0", func := "kibitzer/kibitzerlaw03.RaysFlipped", spec := "raysFlipped", unfollowed := true, recurses := true, named := ["kibitzer/bits.leads"], apart := false, laid := [("kibitzer/bits.leads", laid_kibitzer_bits_leads)], narrowed := true }
def RaysFlippedUptoSaid : Prop := raysFlippedUptoRow.holds Tryd.pinned (OpenSpec.upto raysFlippedSpec)

/-- 'kibitzerlaw03.RaysNone', WHERE WHAT IT READS IS OF BULK AT MOST 1048576: true; the input reads as it did. -/
def raysNoneUptoRow : OpenClaim := { program := "ytheaknnipbbnbaadoor", sum := "4ba789d94fec84c11cc28df6b702e2903c34864073c185c09cd12fba7a8a1da0", func := "kibitzer/kibitzerlaw03.RaysNone", spec := "raysNone", unfollowed := true, recurses := true, named := ["kibitzer/bits.leads"], apart := false, laid := [("kibitzer/bits.leads", laid_kibitzer_bits_leads)], narrowed := true }
def RaysNoneUptoSaid : Prop := raysNoneUptoRow.holds Tryd.pinned (OpenSpec.upto raysNoneSpec)

end Rows
end Go.Proofs.YtheaknnipbbnbaaDoor
