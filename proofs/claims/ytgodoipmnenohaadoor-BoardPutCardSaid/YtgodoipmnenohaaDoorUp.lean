/-
  A region that draws its order, whose operations only read and whose callees may make memory: one walk, over all worlds above the first one.
-/
import Derived.Test.YtgodoipmnenohaaDoorBoOfRef
import Derived.Deep.Quiet
namespace Go.Proofs.YtgodoipmnenohaaDoor
open Go.RowKit
set_option linter.unusedVariables false

/-- A world above w. -/
structure Up (w : World) where
  val : World
  above : Below w.heap.size w val
instance (w : World) : Nonempty (Up w) := ⟨⟨w, Below.refl _ _⟩⟩
theorem wp_region_up {P : Program} {id : Nat} {Q : Exit → Act → World → Prop} {a : Act} {w : World} {l : List Oper} (hm : P.follows .mixedOrders = true) (hB : Region.lexB .any l.toArray = true)
    (h : wpQuiet P l.toArray (fun w' => ∃ x : Up w, w' = x.val) (fun a' => ∀ w', (∃ x : Up w, w' = x.val) → Q .normal a' w') l a) : (Code.region id l.toArray true).wp P Q a w :=
  wp_region_quiet (C := fun w' => ∃ x : Up w, w' = x.val) hm hB ⟨⟨_, (Below.refl _ w).drew⟩, rfl⟩ (by simpa using h)
theorem up_c {P : Program} {f : FuncId} {args : Array Value} {w : World} {x : Up w} {v : Value} (h : Calls P f args x.val (fun e w'' => e = .returned v ∧ Below x.val.heap.size x.val w'')) :
    Calls P f args x.val (fun e w'' => e = .returned v ∧ ∃ y : Up w, w'' = y.val) :=
  h.mono fun e w'' ⟨he, hb⟩ => ⟨he, ⟨w'', below_on x.above hb⟩, rfl⟩
theorem up_s {P : Program} {f : FuncId} {args : Array Value} {w : World} {x : Up w} {v : Value} (h : Calls P f args x.val (fun e w'' => e = .returned v ∧ x.val = w'')) :
    Calls P f args x.val (fun e w'' => e = .returned v ∧ ∃ y : Up w, w'' = y.val) :=
  h.mono fun e w'' ⟨he, hb⟩ => ⟨he, x, hb.symm⟩
theorem up_load {o : Oper} {a : Act} {w : World} {K : Act → Prop} (x : Operand) (ho : o.op = .load 31 x) (b : Nat) (hx : a.eval x = .pointer (some ⟨b, 0, none⟩)) (p : Nat → Int) (hr : Row w b p)
    (h : K (a.put o.dst (.agg (posA p)))) : o.quiet Tryd.prog a (fun w' => ∃ x : Up w, w' = x.val) K :=
  ⟨_, fun w' hw' => by
    obtain ⟨y, rfl⟩ := hw'
    have hl := run_loadVar_row y.val b 31 31 (posA p) (0, 0) _ (hr.later y.above) Tryd.underlying31 rfl (by rw [posA_size]; exact size31)
    unfold Oper.quietAt execOp
    simp only [ho, hx, Instr.loadAt, Instr.sureAddr, Sem.run_bind, Sem.run_pure, Result.andThen_ok, hl]
    exact ⟨rfl, rfl⟩, h⟩
theorem all_or {p : Nat → Int} : (ofN p 0 0 ||| ofN p 1 0 : Nat) = allN p := by
  apply eq_of_bits (Nat.or_lt_two_pow (n := 64) (ofN_lt _ _ _) (ofN_lt _ _ _)) (allN_lt _)
  intro i hi
  rw [Nat.testBit_or, ofN_testBit _ _ _ i hi, ofN_testBit _ _ _ i hi, allN_testBit _ i hi]
  unfold ofB
  cases h : pcB (p (1 + i))
  · rfl
  · rw [colZ_yes h]
    rw [pcB_true] at h
    rcases h with h | h
    · rw [show p (1 + i) / 8 = 0 by omega]; rfl
    · rw [show p (1 + i) / 8 = 1 by omega]; rfl
set_option maxRecDepth 100000 in
theorem rall_any (p : Nat → Int) (w : World) (hp : BdR p) : Calls Tryd.prog 15 #[.agg (posA p)] w (U64Post (allN p) w) := by
  have HP := Lib.hid hp
  have HO := Lib.hid ((or_nat (ofN_lt p 0 0) (ofN_lt p 1 0)).trans (congrArg Int.ofNat (all_or (p := p))))
  clear hp
  go_enter Tryd.func15, Tryd.ntmps15
  go_wp2_with (refine step_box rfl _ rfl p rfl ?_; intro b1 w1 N1 R1; have HN1 := Lib.hid N1; have HR1 := Lib.hid R1; clear N1 R1)
  refine wp_region_up (by kernel_rfl) (by kernel_rfl) ?_
  go_big_quiet_want; refine up_load _ rfl _ rfl p HR1.out ?_; simp only [Act.put, List.setIfInBounds_toArray, List.set_cons_zero, List.set_cons_succ]; go_big_quiet_on
  go_big_quiet_want; go_big_quiet_op; apply Exists.intro; refine ⟨fun xu => ?_, ?_⟩; exact up_c (rof_any _ _ _ _ HP.out); go_big_quiet_on
  go_big_quiet_want; refine up_load _ rfl _ rfl p HR1.out ?_; simp only [Act.put, List.setIfInBounds_toArray, List.set_cons_zero, List.set_cons_succ]; go_big_quiet_on
  go_big_quiet_want; go_big_quiet_op; apply Exists.intro; refine ⟨fun xu => ?_, ?_⟩; exact up_c (rof_any _ _ _ _ HP.out); go_big_quiet_on
  go_big_quiet_want; go_big_quiet_op; go_big_quiet_on
  go_big_quiet_want; go_big_quiet_op; go_big_quiet_on
  refine wpQuiet_nil ?_
  intro w2 hw2
  obtain ⟨⟨w3, hb3⟩, rfl⟩ := hw2
  have HB := Lib.hid (below_on HN1.out.below hb3)
  clear hb3
  go_wp2_with fail
  go_ret
  exact ⟨by rw [HO.out]; rfl, HB.out⟩
end Go.Proofs.YtgodoipmnenohaaDoor
