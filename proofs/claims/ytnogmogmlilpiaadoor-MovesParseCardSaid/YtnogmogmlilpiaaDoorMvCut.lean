/-
  Go's library as layer 11's reader calls it: a text cut at one byte (the kit's shelf's contract in our words); what the world's own shape says of the library's variable.
-/
import Derived.Handed
import Derived.Shelf.Vars
import Derived.Test.YtnogmogmlilpiaaDoorShelfB
import Derived.Test.YtnogmogmlilpiaaDoorCutMath
namespace Go.Proofs.YtnogmogmlilpiaaDoor
open Go.RowKit
set_option linter.unusedVariables false

theorem bz_dataM (l : List UInt8) : (bz l).data.toList = l := by simp [bz]
theorem idx_eqM {b x : UInt8} {l : List UInt8} (h : (b == x) = true) : Lib.index (x :: l) [b] = 0 := by
  unfold Lib.index; rw [if_pos (by simp [List.isPrefixOf, h])]
theorem idx_neM {b x : UInt8} {l : List UInt8} (h : (b == x) = false) : Lib.index (x :: l) [b] = if Lib.index l [b] == -1 then -1 else Lib.index l [b] + 1 := by
  rw [Lib.index, if_neg (by simp [List.isPrefixOf, h])]
theorem idx_nilM (b : UInt8) : Lib.index [] [b] = -1 := rfl
theorem cut_oneM (b : UInt8) : ∀ l, (Lib.cut l [b]).1 = cutA b l ∧ (Lib.cut l [b]).2.1 = cutB b l
  | [] => by unfold Lib.cut; rw [idx_nilM]; exact ⟨rfl, rfl⟩
  | x :: l => by
    obtain ⟨h1, h2⟩ := cut_oneM b l
    cases hx : (b == x)
    · have hge := Lib.index_ge l [b]
      have hi0 := idx_neM (l := l) hx
      rw [cutA, cutB, hx]
      by_cases h : Lib.index l [b] = -1
      · rw [h, show ((-1 : Int) == -1) = true from rfl, if_pos rfl] at hi0
        unfold Lib.cut at h1 h2 ⊢
        rw [h, if_neg (by decide)] at h1 h2
        rw [hi0, if_neg (by decide)]
        exact ⟨congrArg (x :: ·) h1, h2⟩
      · obtain ⟨i, hi⟩ : ∃ i : Nat, Lib.index l [b] = (i : Int) := ⟨(Lib.index l [b]).toNat, by omega⟩
        rw [hi, show (((i : Nat) : Int) == -1) = false by rw [beq_eq_false_iff_ne]; omega, if_neg (by simp)] at hi0
        unfold Lib.cut at h1 h2 ⊢
        rw [hi, if_pos (by omega), Int.toNat_natCast] at h1 h2
        rw [hi0, if_pos (by omega), show ((i : Int) + 1).toNat = i + 1 by omega]
        exact ⟨congrArg (x :: ·) h1, h2⟩
    · unfold Lib.cut
      rw [cutA, cutB, hx, idx_eqM hx]
      exact ⟨rfl, rfl⟩
/-- The library's own variable of the longest needle holds some number. -/
def TabMv (w : World) : Prop := ∃ m, w.cell? ⟨1, 0, none⟩ = some (.int .i64 m)
theorem TabMv.on {w w' : World} (h : TabMv w) (hb : Below w.heap.size w w') : TabMv w' := by
  obtain ⟨m, h⟩ := h
  have hlt : 1 < w.heap.size := World.block_lt_of_cell? w _ h
  exact ⟨m, by rw [← h]; exact hb.cell (p := ⟨1, 0, none⟩) hlt⟩
theorem cutM_any (b : UInt8) (l : List UInt8) (w : World) (hl : l.length ≤ 10000) (hT : TabMv w) : Calls Tryd.prog 33 #[.string (bz l), .string (bz [b])] w fun e w' => (∃ f, e = .returned (.tuple #[.string (bz (cutA b l)), .string (bz (cutB b l)), .bool f])) ∧ ∃ n, w' = w.drewN n := by
  obtain ⟨m, hm⟩ := hT
  refine (Any.strings_Cut Tryd.lays145 (bz l) (bz [b]) m w (by rw [bz_size]; omega) hm).mono ?_
  rintro e w' ⟨rfl, n, rfl⟩
  refine ⟨⟨(Lib.cut (bz l).data.toList (bz [b]).data.toList).2.2, ?_⟩, n, rfl⟩
  rw [bz_dataM, bz_dataM, (cut_oneM b l).1, (cut_oneM b l).2]
  rfl
set_option maxRecDepth 100000 in
theorem handed_openM {H : Type} {enc : TypeId × Value → H} {os : Os} {f : FuncId} {fn : Func} {s : ChangeSpec} {apart fresh handsOn again : Bool} {X : World → Array Value → Prop}
    (hX : ∀ (w w' : World) (args : Array Value), w.heap = w'.heap → X w args → X w' args)
    (own : ownKnob Tryd.prog.godebug = none) (started : os.Started) (noInit : Tryd.prog.inits.idxOf? f = none) (hfn : Tryd.prog.funcs[f]? = some fn)
    (witness : ∃ (w : World) (tape : Tape) (i : Input), w.os = os ∧ (w.forCall tape i).Shaped Tryd.prog ∧ i.vars = [] ∧ Input.okWide Tryd.prog (w.forCall tape i) .any w.heap.size f i ∧
      ((s.pre enc Tryd.prog fn [] apart (w.forCall tape i).memory i.args ∧ X (w.forCall tape i).memory i.args) ∧ sizedMet enc Tryd.prog fn (OpenSpec.ofChange s) apart (w.forCall tape i).memory i.args) ∧ ({} : Assume).holds Tryd.prog (lone (Frame.enter Tryd.prog f i.args .normal) [] (w.forCall tape i)))
    (walk : ∀ (W : World) (base : Nat) (args : Array Value) (ds gs : List (DataW H)) (before : List MemPlace),
      (∀ (j : Nat) t v, fn.params[j]? = some t → args[j]? = some v → Value.okWide Tryd.prog W .any base t v) → DataW.Whole enc Tryd.prog fn.params.toList s.vars apart W args.toList ds gs before → X W args → W.ShapedOpen Tryd.prog →
      Calls Tryd.prog f args W fun e W' => ∃ v, e = .returned v ∧ s.post enc Tryd.prog fn apart fresh handsOn again W args v W') :
    ReturnsInHanded {} Tryd.checked os f .any (fun w args => (s.pre enc Tryd.prog fn [] apart w args ∧ X w args) ∧ sizedMet enc Tryd.prog fn (OpenSpec.ofChange s) apart w args) (s.post enc Tryd.prog fn apart fresh handsOn again) := by
  refine returnsInHanded_of_calls own started noInit witness ?_
  intro w tape i _ hshape _ hok hpre _
  obtain ⟨_, _, _, fn', hfn', _, _, _, _, hval⟩ := hok
  obtain rfl : fn' = fn := Option.some.inj (hfn'.symm.trans hfn)
  obtain ⟨⟨⟨ds, gs, before, hw, _⟩, hx⟩, _⟩ := hpre
  refine (walk (w.forCall tape i) w.heap.size i.args ds gs before hval (DataW.Whole.of_heap (w' := w.forCall tape i) (by rfl) hw) (hX _ _ _ (by rfl) hx) hshape).mono fun e W' ⟨v, he, hp⟩ => ?_
  subst he
  exact ChangeSpec.post_blind hp

set_option maxRecDepth 100000 in
theorem mv_of_shape {w : World} (h : w.ShapedOpen Tryd.prog) : TabMv w :=
  cell_of_shapedOpen_int (t := 3) (zero := #[.int .i64 0]) h (of_decide_eq_true (by kernel_rfl)) (by kernel_rfl) (by kernel_rfl) (by kernel_rfl) (by kernel_rfl) Tryd.underlying3
end Go.Proofs.YtnogmogmlilpiaaDoor
