/-
  A region that draws its order, of which some operations yield one value in every later world, whenever they come up: these are taken first; what hands back memory of its own is carried out when nothing else may come up.
-/
import Derived.Test.YtdjnniohoicppaaDoorAtBase
import Derived.Deep.RegionHeld
namespace Go.Proofs.YtdjnniohoicppaaDoor
open Go.RowKit
set_option linter.unusedVariables false
/-- A later world. -/
def Later (w w' : World) : Prop := Below w.heap.size w w'
theorem Later.refl (w : World) : Later w w := Below.refl _ _
theorem Later.trans {a b c : World} (h : Later a b) (k : Later b c) : Later a c := below_on h k
section
variable {L : Nat} {P : Program} {ops : Array Oper} {Q : Exit → Act → World → Prop} {md : Region.Mode}
/-- Whatever order is drawn from here on; behind each operation the rest may begin in any later world. Number L (a store) comes up when all else has. -/
def wpLate (L : Nat) (P : Program) (md : Region.Mode) (ops : Array Oper) (Q : Exit → Act → World → Prop) : Nat → Array Bool → Act → World → Prop
  | 0, listed, a, w => Region.ready md ops listed = [] ∧ Q .normal a w
  | n + 1, listed, a, w => (Region.ready md ops listed = [] → Q .normal a w) ∧
    ∀ i ∈ Region.ready md ops listed, wpOp P ops Q i (fun a' w' => if i = L then wpAny P md ops Q n (listed.setIfInBounds i true) a' w'
      else Later w w' ∧ ∀ w'', Later w' w'' → wpLate L P md ops Q n (listed.setIfInBounds i true) a' w'') a w
theorem wpAny_of_late : ∀ (n : Nat) (listed : Array Bool) (a : Act) (w : World), wpLate L P md ops Q n listed a w → wpAny P md ops Q n listed a w
  | 0, _, _, _, h => h
  | n + 1, listed, _, _, h => ⟨h.1, fun i hi => wpOp_mono (fun a' w' h' => by
      by_cases e : i = L
      · rw [if_pos e] at h'; exact h'
      · rw [if_neg e] at h'
        exact wpAny_of_late n _ a' w' (h'.2 w' (Later.refl _))) (h.2 i hi)⟩
/-- Number L waits for number i. -/
def waits (md : Region.Mode) (ops : Array Oper) (L i : Nat) : Bool := match ops[L]? with
  | none => true
  | some o => o.after.any fun e => Region.binds md e && e.on == i
theorem waits_spec {i : Nat} (h : waits md ops L i = true) {listed : Array Bool} (hi : i ∈ Region.ready md ops listed) : L ∉ Region.ready md ops listed := fun hL => by
  obtain ⟨_, o, ho, hall⟩ := mem_ready.1 hL
  unfold waits at h
  rw [ho] at h
  simp only [Array.any_eq_true', Bool.and_eq_true, beq_iff_eq] at h
  obtain ⟨e, he, hb, rfl⟩ := h
  have h1 := hall e he hb
  have h2 := (mem_ready.1 hi).1
  rcases Nat.lt_or_ge e.on listed.size with hl | hl
  · simp [hl] at h1 h2; rw [h2] at h1; cases h1
  · simp [Array.getElem?_eq_none hl] at h1
/-- In every world later than w the operation yields v, and leaves a later world. -/
def LateIs (P : Program) (ops : Array Oper) (o : Oper) (v : Value) (a : Act) (w : World) : Prop :=
  (Region.wanted o (yielded ops a.tmps) = true ∧ ∀ w', Later w w' → (execOp a.eval o).run P w' = .ok (.value v) w' ∨
    ∃ f args, (execOp a.eval o).run P w' = .ok (.enter f args) w' ∧ Calls P f args w' (fun e w'' => e = .returned v ∧ Later w' w'')) ∨
  (Region.wanted o (yielded ops a.tmps) = false ∧ v = undef)
theorem LateIs.later {o : Oper} {v : Value} {a : Act} {w w' : World} (h : LateIs P ops o v a w) (hw : Later w w') : LateIs P ops o v a w' :=
  h.imp (fun ⟨h1, h2⟩ => ⟨h1, fun _ hl => h2 _ (hw.trans hl)⟩) id
theorem LateIs.same {o : Oper} {v : Value} {a a' : Act} {w : World} (h : LateIs P ops o v a w) (he : execOp a'.eval o = execOp a.eval o)
    (hw : Region.wanted o (yielded ops a'.tmps) = Region.wanted o (yielded ops a.tmps)) : LateIs P ops o v a' w := by
  unfold LateIs at *
  rw [he, hw]
  exact h
theorem LateIs.wpOp {i : Nat} {o : Oper} {v : Value} {a : Act} {w : World} (hi : ops[i]? = some o) (hy : LateIs P ops o v a w) {K : Act → World → Prop}
    (h : ∀ w', Later w w' → K (a.put o.dst v) w') : wpOp P ops Q i K a w := by
  unfold Go.wpOp
  rw [hi]
  rcases hy with ⟨hw, hv⟩ | ⟨hw, rfl⟩
  · simp only [hw, if_true]
    refine .inl ?_
    unfold Oper.wp
    rcases hv w (Later.refl w) with hr | ⟨f, args, hr, hc⟩
    · rw [hr]; exact h w (Later.refl w)
    · rw [hr]
      exact hc.mono fun e w'' ⟨he, hl⟩ => by subst he; exact h _ hl
  · simp only [hw, Bool.false_eq_true, if_false]; exact h w (Later.refl w)
/-- Whether a value lies already in the slot of an operation that is apart makes no difference. -/
theorem wpOp_behind {j : Nat} {oi oj : Oper} {v : Value} (hj : ops[j]? = some oj) (hap : oi.apart ops oj = true) (hsj : ∀ cs b, oj.op ≠ .select cs b)
    (hQ : ∀ c a w, Q (.panic c) (a.put oi.dst v) w → Q (.panic c) a w) (G : Act → Prop) (gp : ∀ a u, G a → G (a.put oj.dst u)) (gd : ∀ (a : Act) d, G a → G { a with defers := d :: a.defers })
    {K : Act → World → Prop} {a : Act} {w : World} (ha : G a) (h : wpOp P ops Q j K (a.put oi.dst v) w) :
    wpOp P ops Q j (fun a' w' => G a' ∧ K (a'.put oi.dst v) w') a w := by
  obtain ⟨h1, h2, _⟩ := Oper.apart_spec hap
  have key : ∀ u w', K ((a.put oi.dst v).put oj.dst u) w' → G (a.put oj.dst u) ∧ K ((a.put oj.dst u).put oi.dst v) w' := fun u w' hk =>
    ⟨gp a u ha, by rw [← Act.put_comm a v u h2]; exact hk⟩
  unfold wpOp at *
  rw [hj] at h ⊢
  simp only [wanted_put oj a oi.dst v h1] at h ⊢
  by_cases hw : Region.wanted oj (yielded ops a.tmps) = true
  · rw [if_pos hw] at h ⊢
    rcases h with h | ⟨h3, h4⟩
    · refine .inl ?_
      unfold Oper.wp at *
      rw [execOp_put oj hsj a oi.dst v h1] at h
      cases hr : (execOp a.eval oj).run P w with
      | ok n w' =>
        rw [hr] at h
        cases n <;> simp only [Oper.upon] at h ⊢
        · exact key _ _ h
        · exact key _ _ h
        · refine Calls.mono h fun e w'' he => ?_
          cases e with
          | returned u => exact key _ _ he
          | panicked c => exact hQ _ _ _ he
          | outgrown => exact he
        · refine ⟨gp _ _ (gd a _ ha), ?_⟩
          rw [← Act.put_comm _ v undef h2, ← Act.put_defers]
          exact h
        all_goals exact Rows.mono h fun u w'' he => key _ _ he
      | halt x w' =>
        rw [hr] at h
        cases x <;> simp only [Oper.upon] at h ⊢
        exact hQ _ _ _ h
    · exact .inr ⟨by unfold Oper.asks at *; rw [execOp_put oj hsj a oi.dst v h1] at h3; exact h3, h4⟩
  · rw [if_neg hw] at h ⊢
    exact key _ _ h
theorem wpLate_first {i : Nat} {oi : Oper} {v : Value} (hi : ops[i]? = some oi) (hsel : ∀ (j : Nat) (o : Oper) cs b, ops[j]? = some o → o.op ≠ .select cs b)
    (hQ : ∀ c a w, Q (.panic c) (a.put oi.dst v) w → Q (.panic c) a w) :
    ∀ (n : Nat) (listed : Array Bool) (a : Act) (w : World),
      waits md ops L i = true → i ≠ L → (∀ j oj, ops[j]? = some oj → j ≠ i → listed.getD j true = false → (∀ e ∈ oj.after, Region.binds md e = true → e.on ≠ i) → oi.apart ops oj = true) →
      i ∈ Region.ready md ops listed → LateIs P ops oi v a w →
      (∀ w', Later w w' → wpLate L P md ops Q n (listed.setIfInBounds i true) (a.put oi.dst v) w') → wpLate L P md ops Q (n + 1) listed a w := by
  intro n
  induction n with
  | zero =>
    intro listed a w hwt hiL _ hr hy H
    refine ⟨fun h => absurd hr (by rw [h]; simp), fun j hj => ?_⟩
    by_cases e : j = i
    · subst e; refine hy.wpOp hi fun w' hw' => ?_; rw [if_neg hiL]; exact ⟨hw', fun w'' hw'' => H w'' (hw'.trans hw'')⟩
    · have := ready_mono hj e
      rw [(H w (Later.refl w)).1] at this
      cases this
  | succ n ih =>
    intro listed a w hwt hiL hfree hr hy H
    refine ⟨fun h => absurd hr (by rw [h]; simp), fun j hj => ?_⟩
    by_cases e : j = i
    · subst e; refine hy.wpOp hi fun w' hw' => ?_; rw [if_neg hiL]; exact ⟨hw', fun w'' hw'' => H w'' (hw'.trans hw'')⟩
    · have h1 := (H w (Later.refl w)).2 j (ready_mono hj e)
      obtain ⟨hun, oj, hoj, hall⟩ := mem_ready.1 hj
      have hno : ∀ x ∈ oj.after, Region.binds md x = true → x.on ≠ i := fun x hx hb he => by
        have h3 := hall x hx hb
        have h4 := (mem_ready.1 hr).1
        rw [he] at h3
        rcases Nat.lt_or_ge i listed.size with hl | hl
        · simp [hl] at h3 h4; rw [h4] at h3; cases h3
        · simp [Array.getElem?_eq_none hl] at h3
      have hjL : j ≠ L := fun hjl => waits_spec hwt hr (hjl ▸ hj)
      have hap := hfree j oj hoj e hun hno
      obtain ⟨_, _, hd⟩ := Oper.apart_spec hap
      have hk := wpOp_behind (G := fun a' => execOp a'.eval oi = execOp a.eval oi ∧ Region.wanted oi (yielded ops a'.tmps) = Region.wanted oi (yielded ops a.tmps)) hoj hap (fun cs b => hsel j oj cs b hoj) hQ
        (fun a' u hg => ⟨(execOp_put oi (fun cs b => hsel i oi cs b hi) a' oj.dst u hd).trans hg.1, (wanted_put oi a' oj.dst u hd).trans hg.2⟩) (fun a' d hg => hg) ⟨rfl, rfl⟩ h1
      refine wpOp_mono (fun a' w' hg => ?_) hk
      rw [if_neg hjL] at hg ⊢
      refine ⟨hg.2.1, fun w'' hw'' => ?_⟩
      refine ih (listed.setIfInBounds j true) a' w'' hwt hiL (fun k ok hok hki hkun hkno => hfree k ok hok hki ?_ hkno) (ready_mono hr (Ne.symm e)) ((hy.same hg.1.1 hg.1.2).later (hg.2.1.trans hw'')) ?_
      · by_cases hjk : j = k
        · subst hjk; exact hun
        · rwa [getD_set_ne true hjk] at hkun
      · intro w3 hw3
        rw [Array.setIfInBounds_comm _ _ e]
        exact hg.2.2 w3 (hw''.trans hw3)
theorem any_end {n : Nat} {listed : Array Bool} {a : Act} {w : World} (he : Region.ready md ops listed = []) (hq : Q .normal a w) : wpAny P md ops Q n listed a w := by
  cases n with
  | zero => exact ⟨he, hq⟩
  | succ n => exact ⟨fun _ => hq, fun j hj => (by rw [he] at hj; cases hj)⟩
/-! The moves of a walk: from 'in every world later than w' to the same with one operation more. -/
def Late (L : Nat) (P : Program) (md : Region.Mode) (ops : Array Oper) (Q : Exit → Act → World → Prop) (n : Nat) (listed : Array Bool) (a : Act) (w : World) : Prop := ∀ w', Later w w' → wpLate L P md ops Q n listed a w'
theorem late_begin (L : Nat) {id : Nat} {a : Act} {w : World} (hm : P.follows .mixedOrders = true)
    (h : Late L P .any ops Q ops.size (Array.replicate ops.size false) a w) : (Code.region id ops true).wp P Q a w :=
  wp_region_any hm (wpAny_of_late _ _ _ _ (h _ (Below.refl _ w).drew))
theorem late_take (i : Nat) {n : Nat} {listed : Array Bool} {a : Act} {w : World} (hwt : (waits md ops L i && i != L) = true) (hs : Region.noSelect ops = true) (hf : Region.free md ops listed i = true) (hr : (Region.ready md ops listed).contains i = true) (hz : (ops[i]?).isSome = true)
    (hQ : ∀ c a d v w, Q (.panic c) (Act.put a d v) w → Q (.panic c) a w)
    (h : ∀ o : Oper, ops[i]? = some o → ∃ v, LateIs P ops o v a w ∧ Late L P md ops Q n (listed.setIfInBounds i true) (a.put o.dst v) w) : Late L P md ops Q (n + 1) listed a w := by
  obtain ⟨o, ho⟩ := Option.isSome_iff_exists.1 hz
  obtain ⟨v, hy, h⟩ := h o ho
  exact fun w' hw' => wpLate_first ho (Region.noSelect_spec hs) (fun c a w => hQ c a o.dst v w) n listed a w' (by simp at hwt; exact hwt.1) (by simp at hwt; exact hwt.2) (Region.free_spec ho hf) (by simpa using hr) (hy.later hw') (fun w2 hw2 => h w2 (hw'.trans hw2))
theorem late_val {o : Oper} {a : Act} {w : World} {v : Value} {K : Prop} (hw : Region.wanted o (yielded ops a.tmps) = true) (h : ∀ w', Later w w' → (execOp a.eval o).run P w' = .ok (.value v) w') (k : K) :
    LateIs P ops o v a w ∧ K := ⟨.inl ⟨hw, fun w' hl => .inl (h w' hl)⟩, k⟩
theorem late_off {o : Oper} {a : Act} {w : World} {K : Value → Prop} (hw : Region.wanted o (yielded ops a.tmps) = false) (k : K undef) :
    ∃ v, LateIs P ops o v a w ∧ K v := ⟨undef, .inr ⟨hw, rfl⟩, k⟩
theorem late_end {listed : Array Bool} {a : Act} {w : World} {n : Nat} (hr : Region.ready md ops listed = []) (h : ∀ w', Later w w' → Q .normal a w') : Late L P md ops Q n listed a w := fun w' hw' =>
  match n with
  | 0 => ⟨hr, h w' hw'⟩
  | _ + 1 => ⟨fun _ => h w' hw', fun i hi => (by rw [hr] at hi; cases hi)⟩
theorem run_load {o : Oper} {a : Act} {w : World} (x : Operand) (ho : o.op = .load 31 x) (b : Nat) (hx : a.eval x = .pointer (some ⟨b, 0, none⟩)) (p : Nat → Int) (hr : Row w b p) :
    (execOp a.eval o).run Tryd.prog w = .ok (.value (.agg (posA p))) w := by
  have hl := run_loadVar_row w b 31 31 (posA p) (0, 0) _ hr Tryd.underlying31 rfl (by rw [posA_size]; exact size31)
  unfold execOp
  simp only [ho, hx, Instr.loadAt, Instr.sureAddr, Sem.run_bind, Sem.run_pure, Result.andThen_ok, hl]
/-- One operation's step, in a shape that no unification lays open. -/
structure Wp (P : Program) (o : Oper) (a : Act) (w : World) (K : Act → World → Prop) (Q : Exit → Act → World → Prop) : Prop where
  out : Oper.wp P o a w K Q
/-- One step of whatever kind, when it is one of those that may come up. -/
def LateStep (L : Nat) (P : Program) (md : Region.Mode) (ops : Array Oper) (Q : Exit → Act → World → Prop) (n : Nat) (listed : Array Bool) (a : Act) (w : World) (i : Nat) : Prop :=
  ∀ o : Oper, ops[i]? = some o → Region.wanted o (yielded ops a.tmps) = true ∧ ∀ w', Later w w' → ∀ K : Act → World → Prop, Shut (∀ a2 w2, Later w' w2 → Late L P md ops Q n (listed.setIfInBounds i true) a2 w2 → K a2 w2) → Wp P o a w' K Q
theorem late_step {n : Nat} {listed : Array Bool} {a : Act} {w : World} {i : Nat} (hz : ((ops[i]?).isSome && i != L) = true) (h : LateStep L P md ops Q n listed a w i) {w' : World} (hw' : Later w w') :
    wpOp P ops Q i (fun a' w2 => if i = L then wpAny P md ops Q n (listed.setIfInBounds i true) a' w2 else Later w' w2 ∧ ∀ w3, Later w2 w3 → wpLate L P md ops Q n (listed.setIfInBounds i true) a' w3) a w' := by
  rw [Bool.and_eq_true, bne_iff_ne] at hz
  obtain ⟨o, ho⟩ := Option.isSome_iff_exists.1 hz.1
  obtain ⟨hw, h⟩ := h o ho
  unfold wpOp
  rw [ho]
  simp only [hw, if_true, if_neg hz.2]
  exact .inl (h w' hw' _ fun a2 w2 hl hk => ⟨hl, hk⟩).out
theorem late_one (i : Nat) {n : Nat} {listed : Array Bool} {a : Act} {w : World} (hr : Region.ready md ops listed = [i]) (hz : ((ops[i]?).isSome && i != L) = true)
    (h : LateStep L P md ops Q n listed a w i) : Late L P md ops Q (n + 1) listed a w := fun w' hw' =>
  ⟨fun h0 => (by rw [hr] at h0; cases h0), fun j hj => (by
    rw [hr] at hj
    obtain rfl : j = i := by simpa using hj
    exact late_step hz h hw')⟩
theorem late_fork (i j : Nat) {n : Nat} {listed : Array Bool} {a : Act} {w : World} (hr : Region.ready md ops listed = [i, j]) (hz : ((ops[i]?).isSome && i != L) = true) (hz' : ((ops[j]?).isSome && j != L) = true)
    (h : LateStep L P md ops Q n listed a w i) (h' : LateStep L P md ops Q n listed a w j) : Late L P md ops Q (n + 1) listed a w := fun w' hw' =>
  ⟨fun h0 => (by rw [hr] at h0; cases h0), fun k hk => (by
    rw [hr] at hk
    have hk : k = i ∨ k = j := by simpa using hk
    rcases hk with rfl | rfl
    · exact late_step hz h hw'
    · exact late_step hz' h' hw')⟩
/-- Number L, the last one. -/
theorem late_last (L : Nat) {n : Nat} {listed : Array Bool} {a : Act} {w : World} (hr : Region.ready md ops listed = [L]) (hz : (ops[L]?).isSome = true) (he : Region.ready md ops (listed.setIfInBounds L true) = [])
    (h : ∀ o : Oper, ops[L]? = some o → Region.wanted o (yielded ops a.tmps) = true ∧ ∀ w', Later w w' → ∀ K : Act → World → Prop, Shut (∀ a2 w2, Q .normal a2 w2 → K a2 w2) → Wp P o a w' K Q) : Late L P md ops Q (n + 1) listed a w := fun w' hw' =>
  ⟨fun h0 => (by rw [hr] at h0; cases h0), fun j hj => (by
    rw [hr] at hj
    obtain rfl : j = L := by simpa using hj
    obtain ⟨o, ho⟩ := Option.isSome_iff_exists.1 hz
    obtain ⟨hw, h⟩ := h o ho
    unfold wpOp
    rw [ho]
    simp only [hw, if_true]
    exact .inl (h w' hw' _ fun a2 w2 hk => any_end he hk).out)⟩
/-- Number L, and behind it whatever order is left. -/
theorem late_then (L : Nat) {n : Nat} {listed : Array Bool} {a : Act} {w : World} (hr : Region.ready md ops listed = [L]) (hz : (ops[L]?).isSome = true)
    (h : ∀ o : Oper, ops[L]? = some o → Region.wanted o (yielded ops a.tmps) = true ∧ ∀ w', Later w w' → ∀ K : Act → World → Prop, Shut (∀ a2 w2, wpAny P md ops Q n (listed.setIfInBounds L true) a2 w2 → K a2 w2) → Wp P o a w' K Q) : Late L P md ops Q (n + 1) listed a w := fun w' hw' =>
  ⟨fun h0 => (by rw [hr] at h0; cases h0), fun j hj => (by
    rw [hr] at hj
    obtain rfl : j = L := by simpa using hj
    obtain ⟨o, ho⟩ := Option.isSome_iff_exists.1 hz
    obtain ⟨hw, h⟩ := h o ho
    unfold wpOp
    rw [ho]
    simp only [hw, if_true]
    exact .inl (h w' hw' _ fun a2 w2 hk => hk).out)⟩
/-- The one operation that is ready, in whatever order is left. -/
theorem any_one (i : Nat) {n : Nat} {listed : Array Bool} {a : Act} {w : World} (hr : Region.ready md ops listed = [i]) (hz : (ops[i]?).isSome = true)
    (h : ∀ o : Oper, ops[i]? = some o → Region.wanted o (yielded ops a.tmps) = true ∧ ∀ K : Act → World → Prop, Shut (∀ a2 w2, wpAny P md ops Q n (listed.setIfInBounds i true) a2 w2 → K a2 w2) → Wp P o a w K Q) : wpAny P md ops Q (n + 1) listed a w :=
  ⟨fun h0 => (by rw [hr] at h0; cases h0), fun j hj => (by
    rw [hr] at hj
    obtain rfl : j = i := by simpa using hj
    obtain ⟨o, ho⟩ := Option.isSome_iff_exists.1 hz
    obtain ⟨hw, h⟩ := h o ho
    unfold wpOp
    rw [ho]
    simp only [hw, if_true]
    exact .inl (h _ fun a2 w2 hk => hk).out)⟩
theorem wp_value {o : Oper} {a : Act} {w : World} {K : Act → World → Prop} {v : Value} (hrun : (execOp a.eval o).run P w = .ok (.value v) w) (h : K (a.put o.dst v) w) : Wp P o a w K Q := ⟨by
  unfold Oper.wp
  rw [hrun]
  exact h⟩
theorem wp_enter {o : Oper} {a : Act} {w : World} {K : Act → World → Prop} (f : FuncId) (args : Array Value) (he : (execOp a.eval o).run P w = .ok (.enter f args) w)
    (h : Calls P f args w (fun e w' => ∃ v, e = .returned v ∧ K (a.put o.dst v) w')) : Wp P o a w K Q := ⟨by
  unfold Oper.wp
  rw [he]
  exact h.mono fun e w' ⟨v, hv, hk⟩ => by subst hv; exact hk⟩
theorem late_whole {o : Oper} {a : Act} {w : World} {K : Act → World → Prop} (x y : Operand) (ho : o.op = .store 31 x y) (b : Nat) (hx : a.eval x = .pointer (some ⟨b, 0, none⟩)) (p q : Nat → Int) (hy : a.eval y = .agg (posA q)) (hr : Row w b p)
    (h : ∀ w', Upd b w w' → Row w' b q → K (a.put o.dst undef) w') : Wp Tryd.prog o a w K Q :=
  ⟨wp_store_mid 31 x y ho b 0 (posA q) hx hy (by rw [posA_size]; exact hr.there 0 88 (by omega)) (by rw [posA_size]; exact size31) (posA_one q) (h _ (Upd.setCells _ _ _ _) hr.whole)⟩
theorem late_alloc {o : Oper} {a : Act} {w : World} {K : Act → World → Prop} (ho : o.op = .alloc 31) (h : ∀ b w', New b w w' → Row w' b zeroP → K (a.put o.dst (.pointer (some ⟨b, 0, none⟩))) w') : Wp Tryd.prog o a w K Q := ⟨by
  have hk := h _ _ (New.alloc w _) (heap_alloc_new w (.cells (posA zeroP) 31))
  have hz : ∀ w, (zeroValue 31).run Tryd.prog w = .ok (.agg (posA zeroP)) w := fun w => by
    cases hq : Tryd.prog.info? 31 with
    | none => have := info31; simp [hq] at this
    | some i => have := info31; simp [hq] at this; simp [zeroValue, typeInfo, hq, this.1]
  unfold Oper.wp execOp
  simp only [ho, Instr.alloc, Sem.run_bind, Sem.run_pure, Result.andThen_ok, hz]
  exact hk⟩
end
end Go.Proofs.YtdjnniohoicppaaDoor
