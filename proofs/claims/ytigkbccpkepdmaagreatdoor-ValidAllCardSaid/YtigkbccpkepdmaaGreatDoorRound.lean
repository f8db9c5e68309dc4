/-
 A region that draws its order, in a round of a loop over an iterator: what yields one value as long as only blocks of X change is taken first; the rest comes one by one.
-/
import Derived.Test.YtigkbccpkepdmaaGreatDoorKept
import Derived.Test.YtigkbccpkepdmaaGreatDoorAtBase
import Derived.Deep.RegionHeld
import Derived.OrdersIn
namespace Go.Proofs.YtigkbccpkepdmaaGreatDoor
open Go.RowKit
set_option linter.unusedVariables false
section
variable {X : Nat → Prop} {r n : Nat} {P : Program} {ops : Array Oper} {Q : Exit → Act → World → Prop} {md : Region.Mode}
theorem opIn_of {o : Oper} {a : Act} {w : World} {K : Act → World → Prop} (hd : ∀ c, o.op ≠ .defer c) (h : o.uponIn (Fence.wide.inRound r) n P a K Q ((execOp a.eval o).run P w)) : o.wpIn (Fence.wide.inRound r) n P a w K Q :=
 ⟨fun _ _ => trivial, by rw [Oper.semAt_eq _ _ _ hd]; exact h⟩
theorem opIn_to {o : Oper} {a : Act} {w : World} {K : Act → World → Prop} (hd : ∀ c, o.op ≠ .defer c) (h : o.wpIn (Fence.wide.inRound r) n P a w K Q) : o.uponIn (Fence.wide.inRound r) n P a K Q ((execOp a.eval o).run P w) := by
 have := h.2
 rwa [Oper.semAt_eq _ _ _ hd] at this
/-- Whatever order is drawn from here on; behind each operation the rest may begin in any world in which what lay is as it lay. -/
def wpMid (X : Nat → Prop) (r n : Nat) (P : Program) (md : Region.Mode) (ops : Array Oper) (Q : Exit → Act → World → Prop) : Nat → Array Bool → Act → World → Prop
 | 0, listed, a, w => Region.ready md ops listed = [] ∧ Q .normal a w
 | k + 1, listed, a, w => (Region.ready md ops listed = [] → Q .normal a w) ∧
  ∀ i ∈ Region.ready md ops listed, wpOpIn (Fence.wide.inRound r) n P ops Q i (fun a' w' => Kept X w w' ∧ ∀ w'', Below w'.heap.size w' w'' → wpMid X r n P md ops Q k (listed.setIfInBounds i true) a' w'') a w
theorem wpAnyIn_of_mid : ∀ (k : Nat) (listed : Array Bool) (a : Act) (w : World), wpMid X r n P md ops Q k listed a w → wpAnyIn (Fence.wide.inRound r) n P md ops Q k listed a w
 | 0, _, _, _, h => h
 | k + 1, listed, _, _, h => ⟨h.1, fun i hi => wpOpIn_mono (fun a' w' h' => wpAnyIn_of_mid k _ a' w' (h'.2 w' (Below.refl _ _))) (h.2 i hi)⟩
/-- As long as only blocks of X change, the operation yields v and changes nothing; or its guard isn't met. -/
def MidIs (X : Nat → Prop) (P : Program) (ops : Array Oper) (o : Oper) (v : Value) (a : Act) (w : World) : Prop :=
 (Region.wanted o (yielded ops a.tmps) = true ∧ ∀ w', Kept X w w' → (execOp a.eval o).run P w' = .ok (.value v) w') ∨ (Region.wanted o (yielded ops a.tmps) = false ∧ v = undef)
theorem MidIs.later {o : Oper} {v : Value} {a : Act} {w w' : World} (h : MidIs X P ops o v a w) (hw : Kept X w w') : MidIs X P ops o v a w' := h.imp (fun ⟨h1, h2⟩ => ⟨h1, fun _ hl => h2 _ (hw.trans hl)⟩) id
theorem MidIs.same {o : Oper} {v : Value} {a a' : Act} {w : World} (h : MidIs X P ops o v a w) (he : execOp a'.eval o = execOp a.eval o)
  (hw : Region.wanted o (yielded ops a'.tmps) = Region.wanted o (yielded ops a.tmps)) : MidIs X P ops o v a' w := by
 unfold MidIs at *
 rw [he, hw]
 exact h
theorem MidIs.op {i : Nat} {o : Oper} {v : Value} {a : Act} {w : World} (hd : ∀ c, o.op ≠ .defer c) (hi : ops[i]? = some o) (hy : MidIs X P ops o v a w) {K : Act → World → Prop} (h : K (a.put o.dst v) w) : wpOpIn (Fence.wide.inRound r) n P ops Q i K a w := by
 unfold wpOpIn
 rw [hi]
 rcases hy with ⟨hw, hv⟩ | ⟨hw, rfl⟩
 ·simp only [hw, if_true]
  exact opIn_of hd (by rw [hv w (Kept.refl _ _)]; exact h)
 ·simp only [hw, Bool.false_eq_true, if_false]; exact ⟨fun _ _ => trivial, h⟩
theorem mid_behind {j : Nat} {oi oj : Oper} {v : Value} (hj : ops[j]? = some oj) (hap : oi.apart ops oj = true) (hsj : ∀ cs b, oj.op ≠ .select cs b) (hdj : ∀ c, oj.op ≠ .defer c)
  (hQ : ∀ c a w, Q (.panic c) (a.put oi.dst v) w → Q (.panic c) a w) (G : Act → Prop) (gp : ∀ a u, G a → G (a.put oj.dst u)) (gd : ∀ (a : Act) d, G a → G { a with defers := d :: a.defers })
  {K : Act → World → Prop} {a : Act} {w : World} (ha : G a) (h : wpOpIn (Fence.wide.inRound r) n P ops Q j K (a.put oi.dst v) w) :
  wpOpIn (Fence.wide.inRound r) n P ops Q j (fun a' w' => G a' ∧ K (a'.put oi.dst v) w') a w := by
 obtain ⟨h1, h2, _⟩ := Oper.apart_spec hap
 have key : ∀ u w', K ((a.put oi.dst v).put oj.dst u) w' → G (a.put oj.dst u) ∧ K ((a.put oj.dst u).put oi.dst v) w' := fun u w' hk =>
  ⟨gp a u ha, by rw [← Act.put_comm a v u h2]; exact hk⟩
 unfold wpOpIn at *
 rw [hj] at h ⊢
 simp only [wanted_put oj a oi.dst v h1] at h ⊢
 by_cases hw : Region.wanted oj (yielded ops a.tmps) = true
 ·rw [if_pos hw] at h ⊢
  have h := opIn_to hdj h
  refine opIn_of hdj ?_
  rw [execOp_put oj hsj a oi.dst v h1] at h
  cases hr : (execOp a.eval oj).run P w with
  | ok m w' =>
   rw [hr] at h
   cases m <;> simp only [Oper.uponIn] at h ⊢
   case value u => exact key _ _ h
   case skip => exact key _ _ h
   case defer d =>
    refine ⟨gp _ _ (gd a _ ha), ?_⟩
    rw [← Act.put_comm _ v undef h2, ← Act.put_defers]
    exact h
   case enter f args =>
    refine ⟨h.1, CallsIn.mono h.2 fun e w'' he => ?_⟩
    cases e with
    | returned u => exact key _ _ he
    | panicked c => exact hQ _ _ _ he
    | outgrown => exact he
   case row row args => exact ⟨h.1, RowsIn.mono h.2 fun u w'' he => key _ _ he⟩
   case round l f tmps assign body =>
    refine ⟨h.1, RoundIn.mono h.2 fun e w'' he => ?_⟩
    cases e with
    | returned u => exact key _ _ he
    | panicked c => exact hQ _ _ _ he
    | outgrown => exact he
  | halt x w' =>
   rw [hr] at h
   cases x <;> simp only [Oper.uponIn] at h ⊢
   case panic u => exact hQ _ _ _ h
 ·rw [if_neg hw] at h ⊢
  exact ⟨fun _ _ => trivial, key _ _ h.2⟩
theorem mid_first {i : Nat} {oi : Oper} {v : Value} (hi : ops[i]? = some oi) (hsel : ∀ (j : Nat) (o : Oper) cs b, ops[j]? = some o → o.op ≠ .select cs b) (hdef : ∀ (j : Nat) (o : Oper) c, ops[j]? = some o → o.op ≠ .defer c)
  (hQ : ∀ c a w, Q (.panic c) (a.put oi.dst v) w → Q (.panic c) a w) :
  ∀ (k : Nat) (listed : Array Bool) (a : Act) (w : World),
   (∀ j oj, ops[j]? = some oj → j ≠ i → listed.getD j true = false → (∀ e ∈ oj.after, Region.binds md e = true → e.on ≠ i) → oi.apart ops oj = true) →
   i ∈ Region.ready md ops listed → MidIs X P ops oi v a w →
   (∀ w', Below w.heap.size w w' → wpMid X r n P md ops Q k (listed.setIfInBounds i true) (a.put oi.dst v) w') → wpMid X r n P md ops Q (k + 1) listed a w := by
 intro k
 induction k with
 | zero =>
  intro listed a w _ hr hy H
  refine ⟨fun h => absurd hr (by rw [h]; simp), fun j hj => ?_⟩
  by_cases e : j = i
  ·subst e; exact hy.op (hdef _ _ · hi) hi ⟨Kept.refl _ _, fun w' hw' => H w' hw'⟩
  ·have := ready_mono hj e
   rw [(H w (Below.refl _ _)).1] at this
   cases this
 | succ k ih =>
  intro listed a w hfree hr hy H
  refine ⟨fun h => absurd hr (by rw [h]; simp), fun j hj => ?_⟩
  by_cases e : j = i
  ·subst e; exact hy.op (hdef _ _ · hi) hi ⟨Kept.refl _ _, fun w' hw' => H w' hw'⟩
  ·have h1 := (H w (Below.refl _ _)).2 j (ready_mono hj e)
   obtain ⟨hun, oj, hoj, hall⟩ := mem_ready.1 hj
   have hno : ∀ x ∈ oj.after, Region.binds md x = true → x.on ≠ i := fun x hx hb he => by
    have h3 := hall x hx hb
    have h4 := (mem_ready.1 hr).1
    rw [he] at h3
    rcases Nat.lt_or_ge i listed.size with hl | hl
    ·simp [hl] at h3 h4; rw [h4] at h3; cases h3
    ·simp [Array.getElem?_eq_none hl] at h3
   have hap := hfree j oj hoj e hun hno
   obtain ⟨_, _, hd⟩ := Oper.apart_spec hap
   have hk := mid_behind (G := fun a' => execOp a'.eval oi = execOp a.eval oi ∧ Region.wanted oi (yielded ops a'.tmps) = Region.wanted oi (yielded ops a.tmps)) hoj hap (fun cs b => hsel j oj cs b hoj) (hdef j oj · hoj) hQ
    (fun a' u hg => ⟨(execOp_put oi (fun cs b => hsel i oi cs b hi) a' oj.dst u hd).trans hg.1, (wanted_put oi a' oj.dst u hd).trans hg.2⟩) (fun a' d hg => hg) ⟨rfl, rfl⟩ h1
   refine wpOpIn_mono (fun a' w' hg => ⟨hg.2.1, fun w'' hw'' => ?_⟩) hk
   refine ih (listed.setIfInBounds j true) a' w'' (fun m om hom hmi hmun hmno => hfree m om hom hmi ?_ hmno) (ready_mono hr (Ne.symm e)) ((hy.same hg.1.1 hg.1.2).later (hg.2.1.trans (Kept.of_call _ hw''))) ?_
   ·by_cases hjm : j = m
    ·subst hjm; exact hun
    ·rwa [getD_set_ne true hjm] at hmun
   ·intro w3 hw3
    rw [Array.setIfInBounds_comm _ _ e]
    exact hg.2.2 w3 (hw''.trans (hw3.mono hw''.size))
/-- From here on, in every world in which what lay is as it lay. -/
def Mid (X : Nat → Prop) (r n : Nat) (P : Program) (md : Region.Mode) (ops : Array Oper) (Q : Exit → Act → World → Prop) (k : Nat) (listed : Array Bool) (a : Act) (w : World) : Prop := ∀ w', Below w.heap.size w w' → wpMid X r n P md ops Q k listed a w'
def noDefer (ops : Array Oper) : Bool := ops.all fun o => match o.op with | .defer _ => false | _ => true
theorem noDefer_spec (h : noDefer ops = true) (j : Nat) (o : Oper) (c : Call) (ho : ops[j]? = some o) : o.op ≠ .defer c := fun e => by
 obtain ⟨hj, rfl⟩ := Array.getElem?_eq_some_iff.1 ho
 have := (Array.all_eq_true.1 h) j hj
 rw [e] at this
 cases this
theorem mid_begin {id : Nat} {a : Act} {w : World} (hm : P.follows .mixedOrders = true) (h : Mid X r n P .any ops Q ops.size (Array.replicate ops.size false) a w) : (Code.region id ops true).wpIn (Fence.wide.inRound r) n P Q a w :=
 wpIn_region_any hm (wpAnyIn_of_mid _ _ _ _ (h _ (Below.refl _ w).drew))
theorem mid_take (i : Nat) {k : Nat} {listed : Array Bool} {a : Act} {w : World} (hs : Region.noSelect ops = true) (hd : noDefer ops = true) (hf : Region.free md ops listed i = true) (hr : (Region.ready md ops listed).contains i = true) (hz : (ops[i]?).isSome = true)
  (hQ : ∀ c a d v w, Q (.panic c) (Act.put a d v) w → Q (.panic c) a w)
  (h : ∀ o : Oper, ops[i]? = some o → ∃ v, MidIs X P ops o v a w ∧ Mid X r n P md ops Q k (listed.setIfInBounds i true) (a.put o.dst v) w) : Mid X r n P md ops Q (k + 1) listed a w := by
 obtain ⟨o, ho⟩ := Option.isSome_iff_exists.1 hz
 obtain ⟨v, hy, h⟩ := h o ho
 exact fun w' hw' => mid_first ho (Region.noSelect_spec hs) (noDefer_spec hd) (fun c a w => hQ c a o.dst v w) k listed a w' (Region.free_spec ho hf) (by simpa using hr) (hy.later (Kept.of_call _ hw')) (fun w2 hw2 => h w2 (hw'.trans (hw2.mono hw'.size)))
theorem mid_end {listed : Array Bool} {a : Act} {w : World} {k : Nat} (hr : Region.ready md ops listed = []) (h : ∀ w', Below w.heap.size w w' → Q .normal a w') : Mid X r n P md ops Q k listed a w := fun w' hw' =>
 match k with
 | 0 => ⟨hr, h w' hw'⟩
 | _ + 1 => ⟨fun _ => h w' hw', fun i hi => (by rw [hr] at hi; cases hi)⟩
/-- One operation's step, in a shape that no unification lays open. -/
structure WpR (r n : Nat) (P : Program) (o : Oper) (a : Act) (w : World) (K : Act → World → Prop) (Q : Exit → Act → World → Prop) : Prop where
 out : o.uponIn (Fence.wide.inRound r) n P a K Q ((execOp a.eval o).run P w)
theorem mid_one (i : Nat) {k : Nat} {listed : Array Bool} {a : Act} {w : World} (hd : noDefer ops = true) (hr : Region.ready md ops listed = [i]) (hz : (ops[i]?).isSome = true)
  (h : ∀ o : Oper, ops[i]? = some o → Region.wanted o (yielded ops a.tmps) = true ∧ ∀ w', Below w.heap.size w w' → ∀ K : Act → World → Prop, Shut (∀ a2 w2, Kept X w' w2 → Mid X r n P md ops Q k (listed.setIfInBounds i true) a2 w2 → K a2 w2) → WpR r n P o a w' K Q) : Mid X r n P md ops Q (k + 1) listed a w := fun w' hw' =>
 ⟨fun h0 => (by rw [hr] at h0; cases h0), fun j hj => by
  rw [hr] at hj
  obtain rfl : j = i := by simpa using hj
  obtain ⟨o, ho⟩ := Option.isSome_iff_exists.1 hz
  obtain ⟨hw, h⟩ := h o ho
  unfold wpOpIn
  rw [ho]
  simp only [hw, if_true]
  exact opIn_of (noDefer_spec hd _ _ · ho) (h w' hw' _ fun a2 w2 hl hk => ⟨hl, hk⟩).out⟩
theorem mid_call {o : Oper} {a : Act} {w : World} {K : Act → World → Prop} (f : FuncId) (args : Array Value) (he : (execOp a.eval o).run P w = .ok (.enter f args) w)
  (h : Calls P f args w (fun e w' => ∃ v, e = .returned v ∧ K (a.put o.dst v) w')) : WpR r n P o a w K Q := ⟨by
 rw [he]
 exact ⟨fun h => (by cases h), ((callsIn_wide.2 h).inRound r).mono fun e w' ⟨v, hv, hk⟩ => by subst hv; exact hk⟩⟩
theorem round_any {F : Fence} (hF : F.depth = none) {n m l : Nat} {f : FuncId} {tmps : Array Value} {assign body : Code} {w : World} {R : Ending → World → Prop} (h : RoundIn F n P l f tmps assign body w R) : RoundIn F m P l f tmps assign body w R :=
 ⟨h.1, fun c cs _ => h.2 c cs (fun d hd => by rw [hF] at hd; cases hd)⟩
theorem mid_yield {o : Oper} {a : Act} {w : World} {K : Act → World → Prop} (m l : Nat) (args : Array Value) (he : ∀ w', (execOp a.eval o).run P w' = (Instr.yield l args).run P w') {R : Ending → World → Prop} (hy : YieldAt Fence.wide m P l args w R)
  (h : ∀ e w', R e w' → ∃ v, e = .returned v ∧ K (a.put o.dst v) w') : WpR r n P o a w K Q := ⟨by
 obtain ⟨fn, tmps, assign, body, hy, hR⟩ := hy
 rw [he, hy]
 refine ⟨fun h => (by cases h), ?_⟩
 have h2 : RoundIn (Fence.wide.inRound r) (n - 1) P l fn tmps assign body w R := round_any (F := Fence.wide) rfl hR
 exact h2.mono fun e w' hr => by obtain ⟨v, rfl, hk⟩ := h e w' hr; exact hk⟩
end
end Go.Proofs.YtigkbccpkepdmaaGreatDoor
