/-
 Several texts in one: Kept, LaterD, Seq, SeqB, SeqC, Round, RoundW, RuCmp, Mv0, CsL, RuNm, RuProm, PosOpen.
-/
import Derived.Test.YteblmnbagbdiiaaGreatDoorChecked
import Derived.RangeFuncBox
import Derived.RangeFuncNested
import Derived.RangeFuncLeaves
import Derived.RangeFuncBound
import Derived.RangeFuncCalls
import Derived.Shelf.Abstract
import Derived.OwnWalkIn
import Derived.TacticsInMore
import Derived.LoopNIn
import Derived.LoopIn
import Derived.WalkKit
import Derived.Lib.Hide
import Derived.Test.YteblmnbagbdiiaaGreatDoorVaBaseB
import Derived.Test.YteblmnbagbdiiaaGreatDoorAtBase
import Derived.Deep.RegionHeld
import Derived.OrdersIn
import Derived.DeepKeys2
import Derived.Maps.OwnIn
import Derived.Deep.Onto
import Derived.IntWalk
import Derived.Deep.QuietTactic
import Derived.BigQuiet
import Derived.Carry
import Derived.OpenShut
/-
 A loop over an iterator that is itself a caller of another iterator: what changes and what stays is said block by block; the caller's loop, by an iterator's contract of this kind.
-/
set_option maxRecDepth 100000
set_option maxHeartbeats 1000000
namespace Go.Proofs.YteblmnbagbdiiaaGreatDoor
open Go.RowKit Go.Shelf
set_option linter.unusedVariables false

structure Kept (X : Nat → Prop) (w w' : World) : Prop where
 base : Below 0 w w'
 same : ∀ k, k < w.heap.size → ¬ X k → w'.heap[k]? = w.heap[k]?
section
variable {X Y : Nat → Prop} {w w' w'' : World}
theorem Kept.size (h : Kept X w w') : w.heap.size ≤ w'.heap.size := h.base.size
theorem Kept.refl (X : Nat → Prop) (w : World) : Kept X w w := ⟨Below.refl _ _, fun _ _ _ => rfl⟩
theorem Kept.trans (h : Kept X w w') (k : Kept X w' w'') : Kept X w w'' := ⟨h.base.trans k.base, fun i hi hx => (k.same i (Nat.lt_of_lt_of_le hi h.size) hx).trans (h.same i hi hx)⟩
theorem Kept.mono (h : Kept X w w') (hs : ∀ k, X k → Y k) : Kept Y w w' := ⟨h.base, fun k hk hy => h.same k hk fun hx => hy (hs k hx)⟩
theorem Kept.since {B : Nat} (h : Kept X w w') (k : Kept (B ≤ ·) w' w'') (hB : w.heap.size ≤ B) : Kept X w w'' :=
 ⟨h.base.trans k.base, fun i hi hx => (k.same i (Nat.lt_of_lt_of_le hi h.size) (by omega)).trans (h.same i hi hx)⟩
theorem Kept.of_below {B : Nat} (h : Below B w w') : Kept (B ≤ ·) w w' := ⟨h.mono (Nat.zero_le _), fun k _ hx => h.block k (by omega)⟩
theorem Kept.of_call (X : Nat → Prop) (h : Below w.heap.size w w') : Kept X w w' := ⟨h.mono (Nat.zero_le _), fun k hk _ => h.block k hk⟩
theorem Kept.below {B : Nat} (h : Kept X w w') (hx : ∀ k, X k → B ≤ k) (hB : B ≤ w.heap.size) : Below B w w' :=
 ⟨h.base.os, h.base.tape, h.base.output, h.size, fun k hk => h.same k (by omega) fun hk' => by have := hx k hk'; omega⟩
theorem Kept.obj {k : Nat} {o : Obj} (h : Kept X w w') (ho : w.heap[k]? = some o) (hx : ¬ X k) : w'.heap[k]? = some o := (h.same k (Array.getElem?_eq_some_iff.1 ho).1 hx).trans ho
theorem cell_block {W : World} {a : Addr} {v : Value} (h : W.cell? a = some v) : a.block < W.heap.size := World.block_lt_of_cell? W a h
theorem Kept.cell {a : Addr} {v : Value} (h : Kept X w w') (hc : w.cell? a = some v) (hx : ¬ X a.block) : w'.cell? a = some v :=
 (World.cell?_of_block (h.same a.block (cell_block hc) hx)).trans hc
theorem Kept.putObj (l : Nat) (o : Obj) (w : World) : Kept (· = l) w (w.putObj l o) := ⟨⟨rfl, rfl, rfl, by simp, fun k hk => by omega⟩, fun k _ hx => World.putObj_heap_other hx⟩
theorem Kept.setCell (b i : Nat) (v : Value) (w : World) : Kept (· = b) w (w.setCell ⟨b, i, none⟩ v) := ⟨⟨rfl, rfl, rfl, by simp [World.setCell], fun k hk => by omega⟩, fun k _ hx => Below.heap_setCell _ _ _ _ hx⟩
end

def Lasts {β : Type} (B : Nat) (J : β → World → Prop) : Prop := ∀ s A A', J s A → Kept (B ≤ ·) A A' → J s A'
theorem Lasts.mono {β : Type} {B B' : Nat} {J : β → World → Prop} (h : Lasts B J) (hB : B ≤ B') : Lasts B' J := fun s A A' hs k => h s A A' hs (k.mono fun _ hk => Nat.le_trans hB hk)
def Xs (Y : Nat → Prop) (w W : World) : Nat → Prop := fun k => Y k ∨ (w.heap.size ≤ k ∧ k < W.heap.size)

def SeqK (n g : Nat) (lb : Array Value) (Y : Nat → Prop) (L : List Nat) (w : World) : Prop :=
 ∀ (l : Nat) (J Jx : List Nat → World → Prop) (W : World), Below w.heap.size w W → Lasts W.heap.size J → Lasts W.heap.size Jx →
  (∀ pre x W1, J pre W1 → pre ++ [x] <+: L → YieldAt Fence.wide n Tryz.prog l #[.int .i64 ((x : Nat) : Int)] W1 fun e W' =>
   ∃ b : Bool, e = .returned (.bool b) ∧ Kept (Xs Y w W) W1 W' ∧ (if b = true then J (pre ++ [x]) W' else Jx (pre ++ [x]) W')) →
  J [] W →
  CallsIn Fence.wide n Tryz.prog g (#[.func (.yield l) #[] #[]] ++ lb) W fun e W' => (∃ v, e = .returned v) ∧ (J L W' ∨ ∃ pre, pre ≠ [] ∧ pre <+: L ∧ Jx pre W')

def keptPost (Y : Nat → Prop) (I Ix : List Nat → World → Prop) (xs : List Nat) (W : World) : Exit → Act → World → Prop
 | .normal, _, W' => Kept Y W W' ∧ I xs W'
 | .ret, _, W' => Kept Y W W' ∧ Ix xs W'
 | _, _, _ => False

theorem range_kept {n : Nat} {g : Operand} {pt : Tmp} {assign body : Code} {Q : Exit → Act → World → Prop} {a : Act} {w : World}
  {gf : Nat} {lb : Array Value} (hg : a.eval g = .func (.func gf) #[] lb) (eg : ∀ args w, (callFunc gf args).run Tryz.prog w = .ok (.enter gf args) w)
  (Y : Nat → Prop) (hY : ∀ k, Y k → k < w.heap.size) (L : List Nat) (hseq : SeqK (n - 1) gf lb Y L w)
  (I Ix : List Nat → World → Prop) (hI : Lasts w.heap.size I) (hIx : Lasts w.heap.size Ix) (h0 : I [] w) (a₁ : Nat → Act)
  (hassign : ∀ (l x : Nat) (W : World) (K : Act → World → Prop), K (a₁ x) W →
   assign.wpIn (Fence.wide.inRound l) (n - 1) Tryz.prog (Exit.then K (fun _ _ _ => False)) { tmps := (#[pt].zip #[Value.int .i64 (x : Int)]).foldl (fun t (p, v) => t.setIfInBounds p v) a.tmps, defers := [] } W)
  (hbody : ∀ (l : Nat) (pre : List Nat) (x : Nat) (W : World), I pre W → pre ++ [x] <+: L → body.wpIn (Fence.wide.inRound l) (n - 1) Tryz.prog (keptPost Y I Ix (pre ++ [x]) W) (a₁ x) W)
  (hdone : ∀ W, I L W → W.heap[w.heap.size]? = some (.deferred (some [])) → Q .normal { a with defers := { target := .collected w.heap.size, args := #[] } :: a.defers } W)
  (hstop : ∀ pre W, pre ≠ [] → pre <+: L → Ix pre W → W.heap[w.heap.size]? = some (.deferred (some [])) → Code.ret.wpIn Fence.wide n Tryz.prog Q { a with defers := { target := .collected w.heap.size, args := #[] } :: a.defers } W) :
  (Code.rangeFunc g #[pt] assign body).wpIn Fence.wide n Tryz.prog Q a w := by
 refine wpIn_rangeFunc fun fn hfn => ?_
 obtain ⟨rec, hrec⟩ : ∃ rec : LoopState → Option Code → Loop, rec = fun st pe => { state := st, pending := pe, fn, tmps := a.tmps, params := #[pt], assign, body, defers := w.heap.size } := ⟨_, rfl⟩
 obtain ⟨S, hS⟩ : ∃ S, S = w.heap.size := ⟨_, rfl⟩
 obtain ⟨W1, hW1⟩ : ∃ W1, W1 = (w.alloc (.deferred (some []))).alloc (.loop (rec .ready none)) := ⟨_, rfl⟩
 have hs1 : W1.heap.size = S + 2 := by rw [hW1, hS]; simp
 have hb1 : Below w.heap.size w W1 := by rw [hW1]; exact ((Below.refl _ w).alloc (Nat.le_refl _) _).alloc (by simp) _
 have hl1 : W1.heap[S + 1]? = some (.loop (rec .ready none)) := by
  have := World.alloc_heap_new (w.alloc (.deferred (some []))) (.loop (rec .ready none)); rw [World.size_alloc] at this; rw [hW1, hS]; exact this
 have hd1 : W1.heap[S]? = some (.deferred (some [])) := by rw [hW1, hS]; exact (Below.heap_alloc _ _ _ (by simp)).trans (World.alloc_heap_new w _)
 -- what holds from round to round, and when a round has said no
 let G (st : LoopState) (pe : Option Code) (V : World) : Prop := V.heap[S + 1]? = some (.loop (rec st pe)) ∧ V.heap[S]? = some (.deferred (some []))
 have hG : ∀ {st pe} {V V' : World} {Z : Nat → Prop}, G st pe V → Kept Z V V' → ¬ Z (S + 1) → ¬ Z S → G st pe V' := fun h k z1 z0 => ⟨k.obj h.1 z1, k.obj h.2 z0⟩
 have hturn : ∀ {st pe} (st' pe') {V : World}, G st pe V → G st' pe' (V.putObj (S + 1) (.loop (rec st' pe'))) := fun st' pe' V h =>
  ⟨World.putObj_heap_same (Array.getElem?_eq_some_iff.1 h.1).1, (World.putObj_heap_other (by omega)).trans h.2⟩
 have hput : ∀ (o : Obj) (V : World), Kept (w.heap.size ≤ ·) V (V.putObj (S + 1) o) := fun o V => (Kept.putObj _ _ _).mono fun k e => by show w.heap.size ≤ k; omega
 have hputX : ∀ (o : Obj) (V : World), Kept (Xs Y w W1) V (V.putObj (S + 1) o) := fun o V => (Kept.putObj _ _ _).mono fun k e => .inr (by omega)
 refine ⟨S + 1, [{ target := .collected S, args := #[] }], W1, { target := .fn (.func gf) lb, args := #[.func (.yield (S + 1)) #[] #[]] }, W1, gf, #[.func (.yield (S + 1)) #[] #[]] ++ lb, W1, ?_, ?_, ?_, ?_, fun h => (by cases h), ?_⟩
 ·rw [hW1, hS, hrec]; exact run_enterLoop_outer _ _ _ _ _
 ·simp only [resolve, hg]; simp [go_sem]
 ·exact fun _ _ => trivial
 ·simp [invoke, go_sem, eg]
 refine (hseq (S + 1) (fun pre V => I pre V ∧ G .ready none V) (fun pre V => Ix pre V ∧ G .done (some .ret) V) W1 hb1
  (fun s A A' h k => ⟨(hI.mono (by omega)) s A A' h.1 k, hG h.2 k (by omega) (by omega)⟩) (fun s A A' h k => ⟨(hIx.mono (by omega)) s A A' h.1 k, hG h.2 k (by omega) (by omega)⟩) ?_
  ⟨hI _ _ _ h0 (Kept.of_below hb1), hl1, hd1⟩).mono ?_
 ·rintro pre x V ⟨hi, hgv⟩ hpre
  have hy := run_yield (P := Tryz.prog) (args := #[.int .i64 (x : Int)]) hgv.1 (by rw [hrec]; rfl)
  rw [hrec] at hy
  refine ⟨fn, _, assign, body, hy, roundIn_of_wpIn trivial ?_⟩
  refine hassign _ x V _ ?_
  refine ⟨_, run_beginRound hgv.1 (by rw [hrec]), ?_⟩
  have e0 : ({ rec .ready none with state := .busy } : Loop) = rec .busy none := by rw [hrec]
  rw [e0]
  obtain ⟨V1, hV1⟩ : ∃ V1, V1 = V.putObj (S + 1) (.loop (rec .busy none)) := ⟨_, rfl⟩
  rw [← hV1]
  have hg1 : G .busy none V1 := by rw [hV1]; exact hturn _ _ hgv
  have hk1 : Kept (Xs Y w W1) V V1 := by rw [hV1]; exact hputX _ _
  refine wpIn_mono (hbody (S + 1) pre x V1 (by rw [hV1]; exact hI _ _ _ hi (hput _ _)) hpre) ?_
  have hsY : ∀ k, Y k → k < S := fun k hk => by have := hY k hk; omega
  rintro e a3 V3 hp
  cases e with
  | normal =>
   obtain ⟨hk3, hi3⟩ := hp
   have hg3 : G .busy none V3 := hG hg1 hk3 (fun h => by have := hsY _ h; omega) (fun h => by have := hsY _ h; omega)
   have hr := run_endRound (P := Tryz.prog) none hg3.1
   have e1 : ({ rec .busy none with state := if (none : Option Code).isNone = true then .ready else .done, pending := none } : Loop) = rec .ready none := by rw [hrec]; rfl
   rw [e1] at hr
   exact ⟨_, _, hr, true, rfl, (hk1.trans (hk3.mono fun k hk => .inl hk)).trans (hputX _ _), hI _ _ _ hi3 (hput _ _), hturn _ _ hg3⟩
  | ret =>
   obtain ⟨hk3, hi3⟩ := hp
   have hg3 : G .busy none V3 := hG hg1 hk3 (fun h => by have := hsY _ h; omega) (fun h => by have := hsY _ h; omega)
   have hr := run_endRound (P := Tryz.prog) (some .ret) hg3.1
   have e1 : ({ rec .busy none with state := if (some Code.ret).isNone = true then .ready else .done, pending := some .ret } : Loop) = rec .done (some .ret) := by rw [hrec]; rfl
   rw [e1] at hr
   exact ⟨_, _, hr, false, rfl, (hk1.trans (hk3.mono fun k hk => .inl hk)).trans (hputX _ _), hIx _ _ _ hi3 (hput _ _), hturn _ _ hg3⟩
  | exit id => exact hp.elim
  | goto t => exact hp.elim
  | panic ch => exact hp.elim
  | outgrown => exact hp.elim
 ·rintro e V ⟨⟨v, rfl⟩, (⟨hi, hgv⟩ | ⟨pre, hne, hpre, hi, hgv⟩)⟩
  ·have hr := run_endLoop (P := Tryz.prog) hgv.1 (by rw [hrec]; simp)
   rw [show (rec .ready none).pending = none by rw [hrec]] at hr
   refine ⟨none, _, hr, ?_⟩
   have hd := hgv.2
   subst hS
   exact hdone _ (hI _ _ _ hi (hput _ _)) ((World.putObj_heap_other (by omega)).trans hd)
  ·have hr := run_endLoop (P := Tryz.prog) hgv.1 (by rw [hrec]; simp)
   rw [show (rec .done (some .ret)).pending = some .ret by rw [hrec]] at hr
   refine ⟨some .ret, _, hr, ?_⟩
   have hd := hgv.2
   subst hS
   exact hstop pre _ hne hpre (hIx _ _ _ hi (hput _ _)) ((World.putObj_heap_other (by omega)).trans hd)

def Marks (lo : Nat) : Nat → List Deferred → World → Prop
 | _, [], _ => True
 | hi, d :: ds, w => ∃ D, d = { target := .collected D, args := #[] } ∧ lo ≤ D ∧ D < hi ∧ w.heap[D]? = some (.deferred (some [])) ∧ Marks lo D ds w
theorem Marks.kept {lo : Nat} {X : Nat → Prop} : ∀ {hi : Nat} {ds : List Deferred} {w w' : World}, Marks lo hi ds w → Kept X w w' → (∀ k, lo ≤ k → k < hi → ¬ X k) → Marks lo hi ds w'
 | _, [], _, _, _, _, _ => trivial
 | _, _ :: _, _, _, ⟨D, e, h1, h2, h3, h4⟩, k, hx => ⟨D, e, h1, h2, k.obj h3 (hx D h1 h2), h4.kept k fun i a b => hx i a (by omega)⟩
theorem Marks.mono {lo hi hi' : Nat} {ds : List Deferred} {w : World} (h : Marks lo hi ds w) (hh : hi ≤ hi') : Marks lo hi' ds w := by
 cases ds with
 | nil => trivial
 | cons d ds => obtain ⟨D, e, h1, h2, h3, h4⟩ := h; exact ⟨D, e, h1, by omega, h3, h4⟩
theorem marks_leave {n lo : Nat} {fn : Func} {tmps : Array Value} {R : Ending → World → Prop} : ∀ {hi : Nat} {ds : List Deferred} {w : World}, Marks lo hi ds w →
  (∀ w', Kept (lo ≤ ·) w w' → LeavesInM Fence.wide n Tryz.prog fn tmps R [] .returning w') → LeavesInM Fence.wide n Tryz.prog fn tmps R ds .returning w
 | _, [], w, _, h => h w (Kept.refl _ _)
 | _, _ :: _, w, ⟨D, e, h1, h2, h3, h4⟩, h => by
  refine ⟨by simp, .inl ⟨D, _, by rw [e], run_takeDeferred h3, ?_⟩⟩
  have k : Kept (· = D) w (w.putObj D (.deferred none)) := Kept.putObj _ _ _
  exact marks_leave (h4.kept k fun i _ b => by omega) fun w' k' => h w' ((k.mono fun i e => by show lo ≤ i; omega).trans k')
end Go.Proofs.YteblmnbagbdiiaaGreatDoor
/-
 XLater's first move for a last operation that waits for others by way of others.
-/
namespace Go.Proofs.YteblmnbagbdiiaaGreatDoor
open Go.RowKit
set_option linter.unusedVariables false
section
variable {L : Nat} {P : Program} {ops : Array Oper} {Q : Exit → Act → World → Prop} {md : Region.Mode}
def stuckD (md : Region.Mode) (ops : Array Oper) (i : Nat) (D : List Nat) : Bool := D.all fun k => match ops[k]? with
 | none => false
 | some o => o.after.any fun e => Region.binds md e && (e.on == i || D.contains e.on)
theorem stuckD_spec {i k : Nat} {D : List Nat} {listed : Array Bool} (h : stuckD md ops i D = true) (hk : k ∈ D) (hi : i ∈ Region.ready md ops listed) (hD : ∀ k ∈ D, listed.getD k true = false) : k ∉ Region.ready md ops listed := fun hr => by
 obtain ⟨_, o, ho, hall⟩ := mem_ready.1 hr
 unfold stuckD at h
 have h := List.all_eq_true.1 h k hk
 rw [ho] at h
 simp only [Array.any_eq_true', Bool.and_eq_true, Bool.or_eq_true, beq_iff_eq, List.contains_iff_mem] at h
 obtain ⟨e, he, hb, h⟩ := h
 have h1 := hall e he hb
 have h2 : listed.getD e.on true = false := by
  rcases h with rfl | h
  ·exact (mem_ready.1 hi).1
  ·exact hD _ h
 rcases Nat.lt_or_ge e.on listed.size with hl | hl
 ·simp [hl] at h1 h2; rw [h2] at h1; cases h1
 ·simp [Array.getElem?_eq_none hl] at h1
theorem wpLate_firstD {i : Nat} {oi : Oper} {v : Value} (hi : ops[i]? = some oi) (D : List Nat) (hst : stuckD md ops i D = true) (hLD : L ∈ D) (hsel : ∀ (j : Nat) (o : Oper) cs b, ops[j]? = some o → o.op ≠ .select cs b)
  (hQ : ∀ c a w, Q (.panic c) (a.put oi.dst v) w → Q (.panic c) a w) :
  ∀ (n : Nat) (listed : Array Bool) (a : Act) (w : World),
   (∀ k ∈ D, listed.getD k true = false) → i ≠ L → (∀ j oj, ops[j]? = some oj → j ≠ i → listed.getD j true = false → (∀ e ∈ oj.after, Region.binds md e = true → e.on ≠ i) → oi.apart ops oj = true) →
   i ∈ Region.ready md ops listed → LateIs P ops oi v a w →
   (∀ w', Later w w' → wpLate L P md ops Q n (listed.setIfInBounds i true) (a.put oi.dst v) w') → wpLate L P md ops Q (n + 1) listed a w := by
 intro n
 induction n with
 | zero =>
  intro listed a w hD hiL _ hr hy H
  refine ⟨fun h => absurd hr (by rw [h]; simp), fun j hj => ?_⟩
  by_cases e : j = i
  ·subst e; refine hy.wpOp hi fun w' hw' => ?_; rw [if_neg hiL]; exact ⟨hw', fun w'' hw'' => H w'' (hw'.trans hw'')⟩
  ·have := ready_mono hj e
   rw [(H w (Later.refl w)).1] at this
   cases this
 | succ n ih =>
  intro listed a w hD hiL hfree hr hy H
  refine ⟨fun h => absurd hr (by rw [h]; simp), fun j hj => ?_⟩
  by_cases e : j = i
  ·subst e; refine hy.wpOp hi fun w' hw' => ?_; rw [if_neg hiL]; exact ⟨hw', fun w'' hw'' => H w'' (hw'.trans hw'')⟩
  ·have h1 := (H w (Later.refl w)).2 j (ready_mono hj e)
   obtain ⟨hun, oj, hoj, hall⟩ := mem_ready.1 hj
   have hno : ∀ x ∈ oj.after, Region.binds md x = true → x.on ≠ i := fun x hx hb he => by
    have h3 := hall x hx hb
    have h4 := (mem_ready.1 hr).1
    rw [he] at h3
    rcases Nat.lt_or_ge i listed.size with hl | hl
    ·simp [hl] at h3 h4; rw [h4] at h3; cases h3
    ·simp [Array.getElem?_eq_none hl] at h3
   have hjD : j ∉ D := fun hjd => stuckD_spec hst hjd hr hD hj
   have hjL : j ≠ L := fun hjl => hjD (hjl ▸ hLD)
   have hap := hfree j oj hoj e hun hno
   obtain ⟨_, _, hd⟩ := Oper.apart_spec hap
   have hk := wpOp_behind (G := fun a' => execOp a'.eval oi = execOp a.eval oi ∧ Region.wanted oi (yielded ops a'.tmps) = Region.wanted oi (yielded ops a.tmps)) hoj hap (fun cs b => hsel j oj cs b hoj) hQ
    (fun a' u hg => ⟨(execOp_put oi (fun cs b => hsel i oi cs b hi) a' oj.dst u hd).trans hg.1, (wanted_put oi a' oj.dst u hd).trans hg.2⟩) (fun a' d hg => hg) ⟨rfl, rfl⟩ h1
   refine wpOp_mono (fun a' w' hg => ?_) hk
   rw [if_neg hjL] at hg ⊢
   refine ⟨hg.2.1, fun w'' hw'' => ?_⟩
   refine ih (listed.setIfInBounds j true) a' w'' (fun k hk => (getD_set_ne true (fun (e : j = k) => hjD (by rw [e]; exact hk))).trans (hD k hk)) hiL (fun k ok hok hki hkun hkno => hfree k ok hok hki ?_ hkno) (ready_mono hr (Ne.symm e)) ((hy.same hg.1.1 hg.1.2).later (hg.2.1.trans hw'')) ?_
   ·by_cases hjk : j = k
    ·subst hjk; exact hun
    ·rwa [getD_set_ne true hjk] at hkun
   ·intro w3 hw3
    rw [Array.setIfInBounds_comm _ _ e]
    exact hg.2.2 w3 (hw''.trans hw3)

theorem late_takeD (i : Nat) (D : List Nat) {n : Nat} {listed : Array Bool} {a : Act} {w : World} (hst : (stuckD md ops i D && D.contains L && i != L && D.all fun k => listed.getD k true == false) = true) (hs : Region.noSelect ops = true) (hf : Region.free md ops listed i = true) (hr : (Region.ready md ops listed).contains i = true) (hz : (ops[i]?).isSome = true)
  (hQ : ∀ c a d v w, Q (.panic c) (Act.put a d v) w → Q (.panic c) a w)
  (h : ∀ o : Oper, ops[i]? = some o → ∃ v, LateIs P ops o v a w ∧ Late L P md ops Q n (listed.setIfInBounds i true) (a.put o.dst v) w) : Late L P md ops Q (n + 1) listed a w := by
 obtain ⟨o, ho⟩ := Option.isSome_iff_exists.1 hz
 obtain ⟨v, hy, h⟩ := h o ho
 simp only [Bool.and_eq_true, List.contains_iff_mem, bne_iff_ne, List.all_eq_true, beq_iff_eq] at hst
 obtain ⟨⟨⟨h1, h2⟩, h3⟩, h4⟩ := hst
 exact fun w' hw' => wpLate_firstD ho D h1 h2 (Region.noSelect_spec hs) (fun c a w => hQ c a o.dst v w) n listed a w' h4 h3 (Region.free_spec ho hf) (by simpa using hr) (hy.later hw') (fun w2 hw2 => h w2 (hw'.trans hw2))
end
end Go.Proofs.YteblmnbagbdiiaaGreatDoor
/-
 A loop over an iterator of whatever values (numbers of whatever kind, structs): the iterator's contract, and the caller's loop; the shape of XKept's, whose values are squares.
-/
namespace Go.Proofs.YteblmnbagbdiiaaGreatDoor
open Go.RowKit Go.Shelf
set_option linter.unusedVariables false

def SeqV {α : Type} (val : α → Value) (n g : Nat) (lb : Array Value) (Y : Nat → Prop) (L : List α) (w : World) : Prop :=
 ∀ (l : Nat) (J Jx : List α → World → Prop) (W : World), Below w.heap.size w W → Lasts W.heap.size J → Lasts W.heap.size Jx →
  (∀ pre x W1, J pre W1 → pre ++ [x] <+: L → YieldAt Fence.wide n Tryz.prog l #[val x] W1 fun e W' =>
   ∃ b : Bool, e = .returned (.bool b) ∧ Kept (Xs Y w W) W1 W' ∧ (if b = true then J (pre ++ [x]) W' else Jx (pre ++ [x]) W')) →
  J [] W →
  CallsIn Fence.wide n Tryz.prog g (#[.func (.yield l) #[] #[]] ++ lb) W fun e W' => (∃ v, e = .returned v) ∧ (J L W' ∨ ∃ pre, pre ≠ [] ∧ pre <+: L ∧ Jx pre W')

def postV {α : Type} (Y : Nat → Prop) (I Ix : List α → World → Prop) (xs : List α) (W : World) : Exit → Act → World → Prop
 | .normal, _, W' => Kept Y W W' ∧ I xs W'
 | .ret, _, W' => Kept Y W W' ∧ Ix xs W'
 | _, _, _ => False

theorem range_seq {α : Type} {val : α → Value} {n : Nat} {g : Operand} {pt : Tmp} {assign body : Code} {Q : Exit → Act → World → Prop} {a : Act} {w : World}
  {gf : Nat} {lb : Array Value} (hg : a.eval g = .func (.func gf) #[] lb) (eg : ∀ args w, (callFunc gf args).run Tryz.prog w = .ok (.enter gf args) w)
  (Y : Nat → Prop) (hY : ∀ k, Y k → k < w.heap.size) (L : List α) (hseq : SeqV val (n - 1) gf lb Y L w)
  (I Ix : List α → World → Prop) (hI : Lasts w.heap.size I) (hIx : Lasts w.heap.size Ix) (h0 : I [] w) (a₁ : α → Act)
  (hassign : ∀ (l : Nat) (x : α) (W : World) (K : Act → World → Prop), K (a₁ x) W →
   assign.wpIn (Fence.wide.inRound l) (n - 1) Tryz.prog (Exit.then K (fun _ _ _ => False)) { tmps := (#[pt].zip #[val x]).foldl (fun t (p, v) => t.setIfInBounds p v) a.tmps, defers := [] } W)
  (hbody : ∀ (l : Nat) (pre : List α) (x : α) (W : World), I pre W → pre ++ [x] <+: L → body.wpIn (Fence.wide.inRound l) (n - 1) Tryz.prog (postV Y I Ix (pre ++ [x]) W) (a₁ x) W)
  (hdone : ∀ W, I L W → W.heap[w.heap.size]? = some (.deferred (some [])) → Q .normal { a with defers := { target := .collected w.heap.size, args := #[] } :: a.defers } W)
  (hstop : ∀ pre W, pre ≠ [] → pre <+: L → Ix pre W → W.heap[w.heap.size]? = some (.deferred (some [])) → Code.ret.wpIn Fence.wide n Tryz.prog Q { a with defers := { target := .collected w.heap.size, args := #[] } :: a.defers } W) :
  (Code.rangeFunc g #[pt] assign body).wpIn Fence.wide n Tryz.prog Q a w := by
 refine wpIn_rangeFunc fun fn hfn => ?_
 obtain ⟨rec, hrec⟩ : ∃ rec : LoopState → Option Code → Loop, rec = fun st pe => { state := st, pending := pe, fn, tmps := a.tmps, params := #[pt], assign, body, defers := w.heap.size } := ⟨_, rfl⟩
 obtain ⟨S, hS⟩ : ∃ S, S = w.heap.size := ⟨_, rfl⟩
 obtain ⟨W1, hW1⟩ : ∃ W1, W1 = (w.alloc (.deferred (some []))).alloc (.loop (rec .ready none)) := ⟨_, rfl⟩
 have hs1 : W1.heap.size = S + 2 := by rw [hW1, hS]; simp
 have hb1 : Below w.heap.size w W1 := by rw [hW1]; exact ((Below.refl _ w).alloc (Nat.le_refl _) _).alloc (by simp) _
 have hl1 : W1.heap[S + 1]? = some (.loop (rec .ready none)) := by
  have := World.alloc_heap_new (w.alloc (.deferred (some []))) (.loop (rec .ready none)); rw [World.size_alloc] at this; rw [hW1, hS]; exact this
 have hd1 : W1.heap[S]? = some (.deferred (some [])) := by rw [hW1, hS]; exact (Below.heap_alloc _ _ _ (by simp)).trans (World.alloc_heap_new w _)
 -- what holds from round to round, and when a round has said no
 let G (st : LoopState) (pe : Option Code) (V : World) : Prop := V.heap[S + 1]? = some (.loop (rec st pe)) ∧ V.heap[S]? = some (.deferred (some []))
 have hG : ∀ {st pe} {V V' : World} {Z : Nat → Prop}, G st pe V → Kept Z V V' → ¬ Z (S + 1) → ¬ Z S → G st pe V' := fun h k z1 z0 => ⟨k.obj h.1 z1, k.obj h.2 z0⟩
 have hturn : ∀ {st pe} (st' pe') {V : World}, G st pe V → G st' pe' (V.putObj (S + 1) (.loop (rec st' pe'))) := fun st' pe' V h =>
  ⟨World.putObj_heap_same (Array.getElem?_eq_some_iff.1 h.1).1, (World.putObj_heap_other (by omega)).trans h.2⟩
 have hput : ∀ (o : Obj) (V : World), Kept (w.heap.size ≤ ·) V (V.putObj (S + 1) o) := fun o V => (Kept.putObj _ _ _).mono fun k e => by show w.heap.size ≤ k; omega
 have hputX : ∀ (o : Obj) (V : World), Kept (Xs Y w W1) V (V.putObj (S + 1) o) := fun o V => (Kept.putObj _ _ _).mono fun k e => .inr (by omega)
 refine ⟨S + 1, [{ target := .collected S, args := #[] }], W1, { target := .fn (.func gf) lb, args := #[.func (.yield (S + 1)) #[] #[]] }, W1, gf, #[.func (.yield (S + 1)) #[] #[]] ++ lb, W1, ?_, ?_, ?_, ?_, fun h => (by cases h), ?_⟩
 ·rw [hW1, hS, hrec]; exact run_enterLoop_outer _ _ _ _ _
 ·simp only [resolve, hg]; simp [go_sem]
 ·exact fun _ _ => trivial
 ·simp [invoke, go_sem, eg]
 refine (hseq (S + 1) (fun pre V => I pre V ∧ G .ready none V) (fun pre V => Ix pre V ∧ G .done (some .ret) V) W1 hb1
  (fun s A A' h k => ⟨(hI.mono (by omega)) s A A' h.1 k, hG h.2 k (by omega) (by omega)⟩) (fun s A A' h k => ⟨(hIx.mono (by omega)) s A A' h.1 k, hG h.2 k (by omega) (by omega)⟩) ?_
  ⟨hI _ _ _ h0 (Kept.of_below hb1), hl1, hd1⟩).mono ?_
 ·rintro pre x V ⟨hi, hgv⟩ hpre
  have hy := run_yield (P := Tryz.prog) (args := #[val x]) hgv.1 (by rw [hrec]; rfl)
  rw [hrec] at hy
  refine ⟨fn, _, assign, body, hy, roundIn_of_wpIn trivial ?_⟩
  refine hassign _ x V _ ?_
  refine ⟨_, run_beginRound hgv.1 (by rw [hrec]), ?_⟩
  have e0 : ({ rec .ready none with state := .busy } : Loop) = rec .busy none := by rw [hrec]
  rw [e0]
  obtain ⟨V1, hV1⟩ : ∃ V1, V1 = V.putObj (S + 1) (.loop (rec .busy none)) := ⟨_, rfl⟩
  rw [← hV1]
  have hg1 : G .busy none V1 := by rw [hV1]; exact hturn _ _ hgv
  have hk1 : Kept (Xs Y w W1) V V1 := by rw [hV1]; exact hputX _ _
  refine wpIn_mono (hbody (S + 1) pre x V1 (by rw [hV1]; exact hI _ _ _ hi (hput _ _)) hpre) ?_
  have hsY : ∀ k, Y k → k < S := fun k hk => by have := hY k hk; omega
  rintro e a3 V3 hp
  cases e with
  | normal =>
   obtain ⟨hk3, hi3⟩ := hp
   have hg3 : G .busy none V3 := hG hg1 hk3 (fun h => by have := hsY _ h; omega) (fun h => by have := hsY _ h; omega)
   have hr := run_endRound (P := Tryz.prog) none hg3.1
   have e1 : ({ rec .busy none with state := if (none : Option Code).isNone = true then .ready else .done, pending := none } : Loop) = rec .ready none := by rw [hrec]; rfl
   rw [e1] at hr
   exact ⟨_, _, hr, true, rfl, (hk1.trans (hk3.mono fun k hk => .inl hk)).trans (hputX _ _), hI _ _ _ hi3 (hput _ _), hturn _ _ hg3⟩
  | ret =>
   obtain ⟨hk3, hi3⟩ := hp
   have hg3 : G .busy none V3 := hG hg1 hk3 (fun h => by have := hsY _ h; omega) (fun h => by have := hsY _ h; omega)
   have hr := run_endRound (P := Tryz.prog) (some .ret) hg3.1
   have e1 : ({ rec .busy none with state := if (some Code.ret).isNone = true then .ready else .done, pending := some .ret } : Loop) = rec .done (some .ret) := by rw [hrec]; rfl
   rw [e1] at hr
   exact ⟨_, _, hr, false, rfl, (hk1.trans (hk3.mono fun k hk => .inl hk)).trans (hputX _ _), hIx _ _ _ hi3 (hput _ _), hturn _ _ hg3⟩
  | exit id => exact hp.elim
  | goto t => exact hp.elim
  | panic ch => exact hp.elim
  | outgrown => exact hp.elim
 ·rintro e V ⟨⟨v, rfl⟩, (⟨hi, hgv⟩ | ⟨pre, hne, hpre, hi, hgv⟩)⟩
  ·have hr := run_endLoop (P := Tryz.prog) hgv.1 (by rw [hrec]; simp)
   rw [show (rec .ready none).pending = none by rw [hrec]] at hr
   refine ⟨none, _, hr, ?_⟩
   have hd := hgv.2
   subst hS
   exact hdone _ (hI _ _ _ hi (hput _ _)) ((World.putObj_heap_other (by omega)).trans hd)
  ·have hr := run_endLoop (P := Tryz.prog) hgv.1 (by rw [hrec]; simp)
   rw [show (rec .done (some .ret)).pending = some .ret by rw [hrec]] at hr
   refine ⟨some .ret, _, hr, ?_⟩
   have hd := hgv.2
   subst hS
   exact hstop pre _ hne hpre (hIx _ _ _ hi (hput _ _)) ((World.putObj_heap_other (by omega)).trans hd)
end Go.Proofs.YteblmnbagbdiiaaGreatDoor
/-
 A loop over an iterator whose variable lies in memory: XSeq's loop, with a block for the variable in each round.
-/
namespace Go.Proofs.YteblmnbagbdiiaaGreatDoor
open Go.RowKit Go.Shelf
set_option linter.unusedVariables false

end Go.Proofs.YteblmnbagbdiiaaGreatDoor
/-
 A loop over an iterator, whose rounds make memory that later rounds change again (a list that grows): what the rounds own is a set of blocks, which the iterator leaves alone.
-/
namespace Go.Proofs.YteblmnbagbdiiaaGreatDoor
open Go.RowKit Go.Shelf
set_option linter.unusedVariables false

def LastsC {β : Type} (B : Nat) (J : β → (Nat → Prop) → World → Prop) : Prop := ∀ s C A A', J s C A → Kept (fun k => B ≤ k ∧ ¬ C k) A A' → J s C A'
def SeqC {α : Type} (val : α → Value) (n g : Nat) (lb : Array Value) (Y : Nat → Prop) (L : List α) (w : World) : Prop :=
 ∀ (l : Nat) (J Jx : List α → (Nat → Prop) → World → Prop) (W : World), Below w.heap.size w W → LastsC W.heap.size J → LastsC W.heap.size Jx →
  (∀ pre x C W1, J pre C W1 → (∀ k, C k → W.heap.size ≤ k ∧ k < W1.heap.size) → pre ++ [x] <+: L → YieldAt Fence.wide n Tryz.prog l #[val x] W1 fun e W' =>
   ∃ (b : Bool) (C' : Nat → Prop), e = .returned (.bool b) ∧ Kept (fun k => Xs Y w W k ∨ C k) W1 W' ∧ (∀ k, C' k → (C k ∨ W1.heap.size ≤ k) ∧ k < W'.heap.size) ∧ (if b = true then J (pre ++ [x]) C' W' else Jx (pre ++ [x]) C' W')) →
  J [] (fun _ => False) W →
  CallsIn Fence.wide n Tryz.prog g (#[.func (.yield l) #[] #[]] ++ lb) W fun e W' => (∃ v, e = .returned v) ∧ ((∃ C, J L C W') ∨ ∃ pre C, pre ≠ [] ∧ pre <+: L ∧ Jx pre C W')
theorem Kept.thenC {X C : Nat → Prop} {w w' w'' : World} (h : Kept X w w') (k : Kept (fun i => X i ∨ C i) w' w'') (hC : ∀ i, C i → w.heap.size ≤ i) : Kept X w w'' :=
 ⟨h.base.trans k.base, fun i hi hx => (k.same i (Nat.lt_of_lt_of_le hi h.size) (by rintro (g | g); { exact hx g }; { have := hC i g; omega })).trans (h.same i hi hx)⟩
def postC {α : Type} (Y : Nat → Prop) (I Ix : List α → (Nat → Prop) → World → Prop) (xs : List α) (C : Nat → Prop) (W : World) : Exit → Act → World → Prop
 | .normal, _, W' => ∃ C', Kept (fun k => Y k ∨ C k) W W' ∧ (∀ k, C' k → (C k ∨ W.heap.size ≤ k) ∧ k < W'.heap.size) ∧ I xs C' W'
 | .ret, _, W' => ∃ C', Kept (fun k => Y k ∨ C k) W W' ∧ (∀ k, C' k → (C k ∨ W.heap.size ≤ k) ∧ k < W'.heap.size) ∧ Ix xs C' W'
 | _, _, _ => False
theorem range_boxC {α : Type} {val : α → Value} {n : Nat} {g : Operand} {pt : Tmp} {assign body : Code} {Q : Exit → Act → World → Prop} {a : Act} {w : World}
  {gf : Nat} {lb : Array Value} (hg : a.eval g = .func (.func gf) #[] lb) (eg : ∀ args w, (callFunc gf args).run Tryz.prog w = .ok (.enter gf args) w)
  (Y : Nat → Prop) (hY : ∀ k, Y k → k < w.heap.size) (L : List α) (hseq : SeqC val (n - 1) gf lb Y L w)
  (I Ix : List α → (Nat → Prop) → World → Prop) (hI : LastsC w.heap.size I) (hIx : LastsC w.heap.size Ix) (h0 : I [] (fun _ => False) w) (T : TypeId) (cs : α → Array Value) (a₁ : α → Nat → Act)
  (hassign : ∀ (l : Nat) (x : α) (W : World) (K : Act → World → Prop), K (a₁ x W.heap.size) (W.alloc (.cells (cs x) T)) →
   assign.wpIn (Fence.wide.inRound l) (n - 1) Tryz.prog (Exit.then K (fun _ _ _ => False)) { tmps := (#[pt].zip #[val x]).foldl (fun t (p, v) => t.setIfInBounds p v) a.tmps, defers := [] } W)
  (hbody : ∀ (l b : Nat) (pre : List α) (x : α) (C : Nat → Prop) (W : World), I pre C W → (∀ k, C k → w.heap.size ≤ k ∧ k < W.heap.size ∧ k ≠ b) → w.heap.size ≤ b → Blk W b T (cs x) → pre ++ [x] <+: L → body.wpIn (Fence.wide.inRound l) (n - 1) Tryz.prog (postC Y I Ix (pre ++ [x]) C W) (a₁ x b) W)
  (hdone : ∀ C W, I L C W → (∀ k, C k → w.heap.size ≤ k ∧ k < W.heap.size ∧ k ≠ w.heap.size) → W.heap[w.heap.size]? = some (.deferred (some [])) → Q .normal { a with defers := { target := .collected w.heap.size, args := #[] } :: a.defers } W)
  (hstop : ∀ pre C W, pre ≠ [] → pre <+: L → Ix pre C W → (∀ k, C k → w.heap.size ≤ k ∧ k < W.heap.size ∧ k ≠ w.heap.size) → W.heap[w.heap.size]? = some (.deferred (some [])) → Code.ret.wpIn Fence.wide n Tryz.prog Q { a with defers := { target := .collected w.heap.size, args := #[] } :: a.defers } W) :
  (Code.rangeFunc g #[pt] assign body).wpIn Fence.wide n Tryz.prog Q a w := by
 refine wpIn_rangeFunc fun fn hfn => ?_
 obtain ⟨rec, hrec⟩ : ∃ rec : LoopState → Option Code → Loop, rec = fun st pe => { state := st, pending := pe, fn, tmps := a.tmps, params := #[pt], assign, body, defers := w.heap.size } := ⟨_, rfl⟩
 obtain ⟨S, hS⟩ : ∃ S, S = w.heap.size := ⟨_, rfl⟩
 obtain ⟨W1, hW1⟩ : ∃ W1, W1 = (w.alloc (.deferred (some []))).alloc (.loop (rec .ready none)) := ⟨_, rfl⟩
 have hs1 : W1.heap.size = S + 2 := by rw [hW1, hS]; simp
 have hb1 : Below w.heap.size w W1 := by rw [hW1]; exact ((Below.refl _ w).alloc (Nat.le_refl _) _).alloc (by simp) _
 have hl1 : W1.heap[S + 1]? = some (.loop (rec .ready none)) := by
  have := World.alloc_heap_new (w.alloc (.deferred (some []))) (.loop (rec .ready none)); rw [World.size_alloc] at this; rw [hW1, hS]; exact this
 have hd1 : W1.heap[S]? = some (.deferred (some [])) := by rw [hW1, hS]; exact (Below.heap_alloc _ _ _ (by simp)).trans (World.alloc_heap_new w _)
 -- what holds from round to round, and when a round has said no
 let G (st : LoopState) (pe : Option Code) (V : World) : Prop := V.heap[S + 1]? = some (.loop (rec st pe)) ∧ V.heap[S]? = some (.deferred (some []))
 have hG : ∀ {st pe} {V V' : World} {Z : Nat → Prop}, G st pe V → Kept Z V V' → ¬ Z (S + 1) → ¬ Z S → G st pe V' := fun h k z1 z0 => ⟨k.obj h.1 z1, k.obj h.2 z0⟩
 have hturn : ∀ {st pe} (st' pe') {V : World}, G st pe V → G st' pe' (V.putObj (S + 1) (.loop (rec st' pe'))) := fun st' pe' V h =>
  ⟨World.putObj_heap_same (Array.getElem?_eq_some_iff.1 h.1).1, (World.putObj_heap_other (by omega)).trans h.2⟩
 have hput : ∀ (o : Obj) (V : World) (C : Nat → Prop), (∀ k, C k → S + 2 ≤ k ∧ k < V.heap.size) → Kept (fun k => w.heap.size ≤ k ∧ ¬ C k) V (V.putObj (S + 1) o) := fun o V C hc => (Kept.putObj _ _ _).mono fun k e => ⟨by omega, fun g => by have := hc k g; omega⟩
 have hputX : ∀ (o : Obj) (V : World) (C : Nat → Prop), Kept (fun k => Xs Y w W1 k ∨ C k) V (V.putObj (S + 1) o) := fun o V C => (Kept.putObj _ _ _).mono fun k e => .inl (.inr (by omega))
 have hsz : ∀ (o : Obj) (V : World), (V.putObj (S + 1) o).heap.size = V.heap.size := fun o V => by simp
 refine ⟨S + 1, [{ target := .collected S, args := #[] }], W1, { target := .fn (.func gf) lb, args := #[.func (.yield (S + 1)) #[] #[]] }, W1, gf, #[.func (.yield (S + 1)) #[] #[]] ++ lb, W1, ?_, ?_, ?_, ?_, fun h => (by cases h), ?_⟩
 ·rw [hW1, hS, hrec]; exact run_enterLoop_outer _ _ _ _ _
 ·simp only [resolve, hg]; simp [go_sem]
 ·exact fun _ _ => trivial
 ·simp [invoke, go_sem, eg]
 refine (hseq (S + 1) (fun pre C V => I pre C V ∧ G .ready none V ∧ ∀ k, C k → S + 2 ≤ k ∧ k < V.heap.size) (fun pre C V => Ix pre C V ∧ G .done (some .ret) V ∧ ∀ k, C k → S + 2 ≤ k ∧ k < V.heap.size) W1 hb1
  (fun s C A A' h k => ⟨hI _ _ _ _ h.1 (k.mono fun i hi => ⟨by omega, hi.2⟩), hG h.2.1 k (by omega) (by omega), fun i hi => ⟨(h.2.2 i hi).1, Nat.lt_of_lt_of_le (h.2.2 i hi).2 k.size⟩⟩)
  (fun s C A A' h k => ⟨hIx _ _ _ _ h.1 (k.mono fun i hi => ⟨by omega, hi.2⟩), hG h.2.1 k (by omega) (by omega), fun i hi => ⟨(h.2.2 i hi).1, Nat.lt_of_lt_of_le (h.2.2 i hi).2 k.size⟩⟩) ?_
  ⟨hI _ _ _ _ h0 ((Kept.of_below hb1).mono fun k hk => ⟨hk, id⟩), ⟨hl1, hd1⟩, fun k hk => hk.elim⟩).mono ?_
 ·rintro pre x C V ⟨hi, hgv, hcb⟩ hcw hpre
  have hy := run_yield (P := Tryz.prog) (args := #[val x]) hgv.1 (by rw [hrec]; rfl)
  rw [hrec] at hy
  refine ⟨fn, _, assign, body, hy, roundIn_of_wpIn trivial ?_⟩
  refine hassign _ x V _ ?_
  obtain ⟨V0, hV0⟩ : ∃ V0, V0 = V.alloc (.cells (cs x) T) := ⟨_, rfl⟩
  have hb0 : Blk V0 V.heap.size T (cs x) := by rw [hV0]; exact heap_alloc_new V _
  have hs0 : V0.heap.size = V.heap.size + 1 := by rw [hV0]; simp
  have hbel : Below V.heap.size V V0 := by rw [hV0]; exact (Below.refl _ _).alloc (Nat.le_refl _) _
  have hsv : S + 1 < V.heap.size := (Array.getElem?_eq_some_iff.1 hgv.1).1
  rw [← hV0]
  have hk0 : ∀ Z : Nat → Prop, Kept Z V V0 := fun Z => Kept.of_call Z hbel
  have hgv0 : G .ready none V0 := hG hgv (hk0 (fun _ => False)) id id
  have hi0 : I pre C V0 := hI _ _ _ _ hi (hk0 _)
  have hcb0 : ∀ k, C k → S + 2 ≤ k ∧ k < V0.heap.size := fun k hk => by have := hcb k hk; omega
  refine ⟨_, run_beginRound hgv0.1 (by rw [hrec]), ?_⟩
  have e0 : ({ rec .ready none with state := .busy } : Loop) = rec .busy none := by rw [hrec]
  rw [e0]
  obtain ⟨V1, hV1⟩ : ∃ V1, V1 = V0.putObj (S + 1) (.loop (rec .busy none)) := ⟨_, rfl⟩
  rw [← hV1]
  have hs1' : V1.heap.size = V.heap.size + 1 := by rw [hV1, hsz, hs0]
  have hg1 : G .busy none V1 := by rw [hV1]; exact hturn _ _ hgv0
  have hk1 : Kept (fun k => Xs Y w W1 k ∨ C k) V V1 := (hk0 _).trans (by rw [hV1]; exact hputX _ _ _)
  have hb1' : Blk V1 V.heap.size T (cs x) := by rw [hV1]; exact (World.putObj_heap_other (by omega)).trans hb0
  refine wpIn_mono (hbody (S + 1) V.heap.size pre x C V1 (by rw [hV1]; exact hI _ _ _ _ hi0 (hput _ _ _ hcb0)) (fun k hk => by have := hcb k hk; omega) (by omega) hb1' hpre) ?_
  have hsY : ∀ k, Y k → k < S := fun k hk => by have := hY k hk; omega
  rintro e a3 V3 hp
  have both : ∀ (Z : List α → (Nat → Prop) → World → Prop) (hZ : LastsC w.heap.size Z) (st' : LoopState) (pe' : Option Code) (C' : Nat → Prop), Kept (fun k => Y k ∨ C k) V1 V3 → (∀ k, C' k → (C k ∨ V1.heap.size ≤ k) ∧ k < V3.heap.size) → Z (pre ++ [x]) C' V3 →
    Kept (fun k => Xs Y w W1 k ∨ C k) V (V3.putObj (S + 1) (.loop (rec st' pe'))) ∧ (∀ k, C' k → (C k ∨ V.heap.size ≤ k) ∧ k < (V3.putObj (S + 1) (.loop (rec st' pe'))).heap.size) ∧
    (Z (pre ++ [x]) C' (V3.putObj (S + 1) (.loop (rec st' pe'))) ∧ G st' pe' (V3.putObj (S + 1) (.loop (rec st' pe'))) ∧ ∀ k, C' k → S + 2 ≤ k ∧ k < (V3.putObj (S + 1) (.loop (rec st' pe'))).heap.size) := fun Z hZ st' pe' C' hk3 hc3 hz => by
   have hg3 : G .busy none V3 := hG hg1 hk3 (by rintro (h | h); { have := hsY _ h; omega }; { have := hcb _ h; omega }) (by rintro (h | h); { have := hsY _ h; omega }; { have := hcb _ h; omega })
   have hcc : ∀ k, C' k → S + 2 ≤ k ∧ k < V3.heap.size := fun k hk => by
    obtain ⟨h | h, h2⟩ := hc3 k hk
    ·have := hcb k h; omega
    ·omega
   refine ⟨(hk1.trans (hk3.mono fun k hk => hk.imp .inl id)).trans (hputX _ _ _), fun k hk => ?_, hZ _ _ _ _ hz (hput _ _ _ hcc), hturn _ _ hg3, fun k hk => by rw [hsz]; exact hcc k hk⟩
   rw [hsz]
   obtain ⟨h | h, h2⟩ := hc3 k hk
   ·exact ⟨.inl h, h2⟩
   ·exact ⟨.inr (by omega), h2⟩
  cases e with
  | normal =>
   obtain ⟨C', hk3, hc3, hi3⟩ := hp
   obtain ⟨r1, r2, r3⟩ := both I hI .ready none C' hk3 hc3 hi3
   have hg3 : G .busy none V3 := hG hg1 hk3 (by rintro (h | h); { have := hsY _ h; omega }; { have := hcb _ h; omega }) (by rintro (h | h); { have := hsY _ h; omega }; { have := hcb _ h; omega })
   have hr := run_endRound (P := Tryz.prog) none hg3.1
   have e1 : ({ rec .busy none with state := if (none : Option Code).isNone = true then .ready else .done, pending := none } : Loop) = rec .ready none := by rw [hrec]; rfl
   rw [e1] at hr
   exact ⟨_, _, hr, true, C', rfl, r1, r2, r3⟩
  | ret =>
   obtain ⟨C', hk3, hc3, hi3⟩ := hp
   obtain ⟨r1, r2, r3⟩ := both Ix hIx .done (some .ret) C' hk3 hc3 hi3
   have hg3 : G .busy none V3 := hG hg1 hk3 (by rintro (h | h); { have := hsY _ h; omega }; { have := hcb _ h; omega }) (by rintro (h | h); { have := hsY _ h; omega }; { have := hcb _ h; omega })
   have hr := run_endRound (P := Tryz.prog) (some .ret) hg3.1
   have e1 : ({ rec .busy none with state := if (some Code.ret).isNone = true then .ready else .done, pending := some .ret } : Loop) = rec .done (some .ret) := by rw [hrec]; rfl
   rw [e1] at hr
   exact ⟨_, _, hr, false, C', rfl, r1, r2, r3⟩
  | exit id => exact hp.elim
  | goto t => exact hp.elim
  | panic ch => exact hp.elim
  | outgrown => exact hp.elim
 ·rintro e V ⟨⟨v, rfl⟩, (⟨C, hi, hgv, hcb⟩ | ⟨pre, C, hne, hpre, hi, hgv, hcb⟩)⟩
  ·have hr := run_endLoop (P := Tryz.prog) hgv.1 (by rw [hrec]; simp)
   rw [show (rec .ready none).pending = none by rw [hrec]] at hr
   refine ⟨none, _, hr, ?_⟩
   have hd := hgv.2
   subst hS
   exact hdone C _ (hI _ _ _ _ hi (hput _ _ _ hcb)) (fun k hk => by rw [hsz]; have := hcb k hk; omega) ((World.putObj_heap_other (by omega)).trans hd)
  ·have hr := run_endLoop (P := Tryz.prog) hgv.1 (by rw [hrec]; simp)
   rw [show (rec .done (some .ret)).pending = some .ret by rw [hrec]] at hr
   refine ⟨some .ret, _, hr, ?_⟩
   have hd := hgv.2
   subst hS
   exact hstop pre C _ hne hpre (hIx _ _ _ _ hi (hput _ _ _ hcb)) (fun k hk => by rw [hsz]; have := hcb k hk; omega) ((World.putObj_heap_other (by omega)).trans hd)
end Go.Proofs.YteblmnbagbdiiaaGreatDoor
/-
 A region that draws its order, in a round of a loop over an iterator: what yields one value as long as only blocks of X change is taken first; the rest comes one by one.
-/
namespace Go.Proofs.YteblmnbagbdiiaaGreatDoor
open Go.RowKit
set_option linter.unusedVariables false
section
variable {X : Nat → Prop} {r n : Nat} {P : Program} {ops : Array Oper} {Q : Exit → Act → World → Prop} {md : Region.Mode}
theorem opIn_of {o : Oper} {a : Act} {w : World} {K : Act → World → Prop} (hd : ∀ c, o.op ≠ .defer c) (h : o.uponIn (Fence.wide.inRound r) n P a K Q ((execOp a.eval o).run P w)) : o.wpIn (Fence.wide.inRound r) n P a w K Q :=
 ⟨fun _ _ => trivial, by rw [Oper.semAt_eq _ _ _ hd]; exact h⟩
theorem opIn_to {o : Oper} {a : Act} {w : World} {K : Act → World → Prop} (hd : ∀ c, o.op ≠ .defer c) (h : o.wpIn (Fence.wide.inRound r) n P a w K Q) : o.uponIn (Fence.wide.inRound r) n P a K Q ((execOp a.eval o).run P w) := by
 have := h.2
 rwa [Oper.semAt_eq _ _ _ hd] at this
def wpMid (X : Nat → Prop) (r n : Nat) (P : Program) (md : Region.Mode) (ops : Array Oper) (Q : Exit → Act → World → Prop) : Nat → Array Bool → Act → World → Prop
 | 0, listed, a, w => Region.ready md ops listed = [] ∧ Q .normal a w
 | k + 1, listed, a, w => (Region.ready md ops listed = [] → Q .normal a w) ∧
  ∀ i ∈ Region.ready md ops listed, wpOpIn (Fence.wide.inRound r) n P ops Q i (fun a' w' => Kept X w w' ∧ ∀ w'', Below w'.heap.size w' w'' → wpMid X r n P md ops Q k (listed.setIfInBounds i true) a' w'') a w
theorem wpAnyIn_of_mid : ∀ (k : Nat) (listed : Array Bool) (a : Act) (w : World), wpMid X r n P md ops Q k listed a w → wpAnyIn (Fence.wide.inRound r) n P md ops Q k listed a w
 | 0, _, _, _, h => h
 | k + 1, listed, _, _, h => ⟨h.1, fun i hi => wpOpIn_mono (fun a' w' h' => wpAnyIn_of_mid k _ a' w' (h'.2 w' (Below.refl _ _))) (h.2 i hi)⟩
def MidIs (X : Nat → Prop) (P : Program) (ops : Array Oper) (o : Oper) (v : Value) (a : Act) (w : World) : Prop :=
 (Region.wanted o (yielded ops a.tmps) = true ∧ ∀ w', Kept X w w' → (execOp a.eval o).run P w' = .ok (.value v) w') ∨ (Region.wanted o (yielded ops a.tmps) = false ∧ v = undef)
theorem MidIs.later {o : Oper} {v : Value} {a : Act} {w w' : World} (h : MidIs X P ops o v a w) (hw : Kept X w w') : MidIs X P ops o v a w' := h.imp (fun ⟨h1, h2⟩ => ⟨h1, fun _ hl => h2 _ (hw.trans hl)⟩) id
theorem MidIs.same {o : Oper} {v : Value} {a a' : Act} {w : World} (h : MidIs X P ops o v a w) (he : execOp a'.eval o = execOp a.eval o)
  (hw : Region.wanted o (yielded ops a'.tmps) = Region.wanted o (yielded ops a.tmps)) : MidIs X P ops o v a' w := by
 unfold MidIs at *
 rw [he, hw]
 exact h
theorem MidIs.op {i : Nat} {o : Oper} {v : Value} {a : Act} {w : World} (hd : ∀ c, o.op ≠ .defer c) (hi : ops[i]? = some o) (hy : MidIs X P ops o v a w) {K : Act → World → Prop} (h : K (a.put o.dst v) w) : wpOpIn (Fence.wide.inRound r) n P ops Q i K a w := by
 unfold wpOpIn
 rw [hi]
 rcases hy with ⟨hw, hv⟩ | ⟨hw, rfl⟩
 ·simp only [hw, if_true]
  exact opIn_of hd (by rw [hv w (Kept.refl _ _)]; exact h)
 ·simp only [hw, Bool.false_eq_true, if_false]; exact ⟨fun _ _ => trivial, h⟩
theorem mid_behind {j : Nat} {oi oj : Oper} {v : Value} (hj : ops[j]? = some oj) (hap : oi.apart ops oj = true) (hsj : ∀ cs b, oj.op ≠ .select cs b) (hdj : ∀ c, oj.op ≠ .defer c)
  (hQ : ∀ c a w, Q (.panic c) (a.put oi.dst v) w → Q (.panic c) a w) (G : Act → Prop) (gp : ∀ a u, G a → G (a.put oj.dst u)) (gd : ∀ (a : Act) d, G a → G { a with defers := d :: a.defers })
  {K : Act → World → Prop} {a : Act} {w : World} (ha : G a) (h : wpOpIn (Fence.wide.inRound r) n P ops Q j K (a.put oi.dst v) w) :
  wpOpIn (Fence.wide.inRound r) n P ops Q j (fun a' w' => G a' ∧ K (a'.put oi.dst v) w') a w := by
 obtain ⟨h1, h2, _⟩ := Oper.apart_spec hap
 have key : ∀ u w', K ((a.put oi.dst v).put oj.dst u) w' → G (a.put oj.dst u) ∧ K ((a.put oj.dst u).put oi.dst v) w' := fun u w' hk =>
  ⟨gp a u ha, by rw [← Act.put_comm a v u h2]; exact hk⟩
 unfold wpOpIn at *
 rw [hj] at h ⊢
 simp only [wanted_put oj a oi.dst v h1] at h ⊢
 by_cases hw : Region.wanted oj (yielded ops a.tmps) = true
 ·rw [if_pos hw] at h ⊢
  have h := opIn_to hdj h
  refine opIn_of hdj ?_
  rw [execOp_put oj hsj a oi.dst v h1] at h
  cases hr : (execOp a.eval oj).run P w with
  | ok m w' =>
   rw [hr] at h
   cases m <;> simp only [Oper.uponIn] at h ⊢
   case value u => exact key _ _ h
   case skip => exact key _ _ h
   case defer d =>
    refine ⟨gp _ _ (gd a _ ha), ?_⟩
    rw [← Act.put_comm _ v undef h2, ← Act.put_defers]
    exact h
   case enter f args =>
    refine ⟨h.1, CallsIn.mono h.2 fun e w'' he => ?_⟩
    cases e with
    | returned u => exact key _ _ he
    | panicked c => exact hQ _ _ _ he
    | outgrown => exact he
   case row row args => exact ⟨h.1, RowsIn.mono h.2 fun u w'' he => key _ _ he⟩
   case round l f tmps assign body =>
    refine ⟨h.1, RoundIn.mono h.2 fun e w'' he => ?_⟩
    cases e with
    | returned u => exact key _ _ he
    | panicked c => exact hQ _ _ _ he
    | outgrown => exact he
  | halt x w' =>
   rw [hr] at h
   cases x <;> simp only [Oper.uponIn] at h ⊢
   case panic u => exact hQ _ _ _ h
 ·rw [if_neg hw] at h ⊢
  exact ⟨fun _ _ => trivial, key _ _ h.2⟩
theorem mid_first {i : Nat} {oi : Oper} {v : Value} (hi : ops[i]? = some oi) (hsel : ∀ (j : Nat) (o : Oper) cs b, ops[j]? = some o → o.op ≠ .select cs b) (hdef : ∀ (j : Nat) (o : Oper) c, ops[j]? = some o → o.op ≠ .defer c)
  (hQ : ∀ c a w, Q (.panic c) (a.put oi.dst v) w → Q (.panic c) a w) :
  ∀ (k : Nat) (listed : Array Bool) (a : Act) (w : World),
   (∀ j oj, ops[j]? = some oj → j ≠ i → listed.getD j true = false → (∀ e ∈ oj.after, Region.binds md e = true → e.on ≠ i) → oi.apart ops oj = true) →
   i ∈ Region.ready md ops listed → MidIs X P ops oi v a w →
   (∀ w', Below w.heap.size w w' → wpMid X r n P md ops Q k (listed.setIfInBounds i true) (a.put oi.dst v) w') → wpMid X r n P md ops Q (k + 1) listed a w := by
 intro k
 induction k with
 | zero =>
  intro listed a w _ hr hy H
  refine ⟨fun h => absurd hr (by rw [h]; simp), fun j hj => ?_⟩
  by_cases e : j = i
  ·subst e; exact hy.op (hdef _ _ · hi) hi ⟨Kept.refl _ _, fun w' hw' => H w' hw'⟩
  ·have := ready_mono hj e
   rw [(H w (Below.refl _ _)).1] at this
   cases this
 | succ k ih =>
  intro listed a w hfree hr hy H
  refine ⟨fun h => absurd hr (by rw [h]; simp), fun j hj => ?_⟩
  by_cases e : j = i
  ·subst e; exact hy.op (hdef _ _ · hi) hi ⟨Kept.refl _ _, fun w' hw' => H w' hw'⟩
  ·have h1 := (H w (Below.refl _ _)).2 j (ready_mono hj e)
   obtain ⟨hun, oj, hoj, hall⟩ := mem_ready.1 hj
   have hno : ∀ x ∈ oj.after, Region.binds md x = true → x.on ≠ i := fun x hx hb he => by
    have h3 := hall x hx hb
    have h4 := (mem_ready.1 hr).1
    rw [he] at h3
    rcases Nat.lt_or_ge i listed.size with hl | hl
    ·simp [hl] at h3 h4; rw [h4] at h3; cases h3
    ·simp [Array.getElem?_eq_none hl] at h3
   have hap := hfree j oj hoj e hun hno
   obtain ⟨_, _, hd⟩ := Oper.apart_spec hap
   have hk := mid_behind (G := fun a' => execOp a'.eval oi = execOp a.eval oi ∧ Region.wanted oi (yielded ops a'.tmps) = Region.wanted oi (yielded ops a.tmps)) hoj hap (fun cs b => hsel j oj cs b hoj) (hdef j oj · hoj) hQ
    (fun a' u hg => ⟨(execOp_put oi (fun cs b => hsel i oi cs b hi) a' oj.dst u hd).trans hg.1, (wanted_put oi a' oj.dst u hd).trans hg.2⟩) (fun a' d hg => hg) ⟨rfl, rfl⟩ h1
   refine wpOpIn_mono (fun a' w' hg => ⟨hg.2.1, fun w'' hw'' => ?_⟩) hk
   refine ih (listed.setIfInBounds j true) a' w'' (fun m om hom hmi hmun hmno => hfree m om hom hmi ?_ hmno) (ready_mono hr (Ne.symm e)) ((hy.same hg.1.1 hg.1.2).later (hg.2.1.trans (Kept.of_call _ hw''))) ?_
   ·by_cases hjm : j = m
    ·subst hjm; exact hun
    ·rwa [getD_set_ne true hjm] at hmun
   ·intro w3 hw3
    rw [Array.setIfInBounds_comm _ _ e]
    exact hg.2.2 w3 (hw''.trans (hw3.mono hw''.size))
def Mid (X : Nat → Prop) (r n : Nat) (P : Program) (md : Region.Mode) (ops : Array Oper) (Q : Exit → Act → World → Prop) (k : Nat) (listed : Array Bool) (a : Act) (w : World) : Prop := ∀ w', Below w.heap.size w w' → wpMid X r n P md ops Q k listed a w'
def noDefer (ops : Array Oper) : Bool := ops.all fun o => match o.op with | .defer _ => false | _ => true
theorem noDefer_spec (h : noDefer ops = true) (j : Nat) (o : Oper) (c : Call) (ho : ops[j]? = some o) : o.op ≠ .defer c := fun e => by
 obtain ⟨hj, rfl⟩ := Array.getElem?_eq_some_iff.1 ho
 have := (Array.all_eq_true.1 h) j hj
 rw [e] at this
 cases this
theorem mid_begin {id : Nat} {a : Act} {w : World} (hm : P.follows .mixedOrders = true) (h : Mid X r n P .any ops Q ops.size (Array.replicate ops.size false) a w) : (Code.region id ops true).wpIn (Fence.wide.inRound r) n P Q a w :=
 wpIn_region_any hm (wpAnyIn_of_mid _ _ _ _ (h _ (Below.refl _ w).drew))
theorem mid_take (i : Nat) {k : Nat} {listed : Array Bool} {a : Act} {w : World} (hs : Region.noSelect ops = true) (hd : noDefer ops = true) (hf : Region.free md ops listed i = true) (hr : (Region.ready md ops listed).contains i = true) (hz : (ops[i]?).isSome = true)
  (hQ : ∀ c a d v w, Q (.panic c) (Act.put a d v) w → Q (.panic c) a w)
  (h : ∀ o : Oper, ops[i]? = some o → ∃ v, MidIs X P ops o v a w ∧ Mid X r n P md ops Q k (listed.setIfInBounds i true) (a.put o.dst v) w) : Mid X r n P md ops Q (k + 1) listed a w := by
 obtain ⟨o, ho⟩ := Option.isSome_iff_exists.1 hz
 obtain ⟨v, hy, h⟩ := h o ho
 exact fun w' hw' => mid_first ho (Region.noSelect_spec hs) (noDefer_spec hd) (fun c a w => hQ c a o.dst v w) k listed a w' (Region.free_spec ho hf) (by simpa using hr) (hy.later (Kept.of_call _ hw')) (fun w2 hw2 => h w2 (hw'.trans (hw2.mono hw'.size)))
theorem mid_end {listed : Array Bool} {a : Act} {w : World} {k : Nat} (hr : Region.ready md ops listed = []) (h : ∀ w', Below w.heap.size w w' → Q .normal a w') : Mid X r n P md ops Q k listed a w := fun w' hw' =>
 match k with
 | 0 => ⟨hr, h w' hw'⟩
 | _ + 1 => ⟨fun _ => h w' hw', fun i hi => (by rw [hr] at hi; cases hi)⟩
structure WpR (r n : Nat) (P : Program) (o : Oper) (a : Act) (w : World) (K : Act → World → Prop) (Q : Exit → Act → World → Prop) : Prop where
 out : o.uponIn (Fence.wide.inRound r) n P a K Q ((execOp a.eval o).run P w)
theorem mid_one (i : Nat) {k : Nat} {listed : Array Bool} {a : Act} {w : World} (hd : noDefer ops = true) (hr : Region.ready md ops listed = [i]) (hz : (ops[i]?).isSome = true)
  (h : ∀ o : Oper, ops[i]? = some o → Region.wanted o (yielded ops a.tmps) = true ∧ ∀ w', Below w.heap.size w w' → ∀ K : Act → World → Prop, Shut (∀ a2 w2, Kept X w' w2 → Mid X r n P md ops Q k (listed.setIfInBounds i true) a2 w2 → K a2 w2) → WpR r n P o a w' K Q) : Mid X r n P md ops Q (k + 1) listed a w := fun w' hw' =>
 ⟨fun h0 => (by rw [hr] at h0; cases h0), fun j hj => by
  rw [hr] at hj
  obtain rfl : j = i := by simpa using hj
  obtain ⟨o, ho⟩ := Option.isSome_iff_exists.1 hz
  obtain ⟨hw, h⟩ := h o ho
  unfold wpOpIn
  rw [ho]
  simp only [hw, if_true]
  exact opIn_of (noDefer_spec hd _ _ · ho) (h w' hw' _ fun a2 w2 hl hk => ⟨hl, hk⟩).out⟩
theorem mid_call {o : Oper} {a : Act} {w : World} {K : Act → World → Prop} (f : FuncId) (args : Array Value) (he : (execOp a.eval o).run P w = .ok (.enter f args) w)
  (h : Calls P f args w (fun e w' => ∃ v, e = .returned v ∧ K (a.put o.dst v) w')) : WpR r n P o a w K Q := ⟨by
 rw [he]
 exact ⟨fun h => (by cases h), ((callsIn_wide.2 h).inRound r).mono fun e w' ⟨v, hv, hk⟩ => by subst hv; exact hk⟩⟩
theorem round_any {F : Fence} (hF : F.depth = none) {n m l : Nat} {f : FuncId} {tmps : Array Value} {assign body : Code} {w : World} {R : Ending → World → Prop} (h : RoundIn F n P l f tmps assign body w R) : RoundIn F m P l f tmps assign body w R :=
 ⟨h.1, fun c cs _ => h.2 c cs (fun d hd => by rw [hF] at hd; cases hd)⟩
theorem mid_yield {o : Oper} {a : Act} {w : World} {K : Act → World → Prop} (m l : Nat) (args : Array Value) (he : ∀ w', (execOp a.eval o).run P w' = (Instr.yield l args).run P w') {R : Ending → World → Prop} (hy : YieldAt Fence.wide m P l args w R)
  (h : ∀ e w', R e w' → ∃ v, e = .returned v ∧ K (a.put o.dst v) w') : WpR r n P o a w K Q := ⟨by
 obtain ⟨fn, tmps, assign, body, hy, hR⟩ := hy
 rw [he, hy]
 refine ⟨fun h => (by cases h), ?_⟩
 have h2 : RoundIn (Fence.wide.inRound r) (n - 1) P l fn tmps assign body w R := round_any (F := Fence.wide) rfl hR
 exact h2.mono fun e w' hr => by obtain ⟨v, rfl, hk⟩ := h e w' hr; exact hk⟩
end
end Go.Proofs.YteblmnbagbdiiaaGreatDoor
/-
 A region that draws its order, outside any round, which hands values to an iterator's caller: what yields one value as long as only blocks of X change is taken first; the rest comes one by one.
-/
namespace Go.Proofs.YteblmnbagbdiiaaGreatDoor.Wid
open Go.RowKit
set_option linter.unusedVariables false
section
variable {X : Nat → Prop} {n : Nat} {P : Program} {ops : Array Oper} {Q : Exit → Act → World → Prop} {md : Region.Mode}
theorem opIn_of {o : Oper} {a : Act} {w : World} {K : Act → World → Prop} (hd : ∀ c, o.op ≠ .defer c) (h : o.uponIn Fence.wide n P a K Q ((execOp a.eval o).run P w)) : o.wpIn Fence.wide n P a w K Q :=
 ⟨fun _ _ => trivial, by rw [Oper.semAt_eq _ _ _ hd]; exact h⟩
theorem opIn_to {o : Oper} {a : Act} {w : World} {K : Act → World → Prop} (hd : ∀ c, o.op ≠ .defer c) (h : o.wpIn Fence.wide n P a w K Q) : o.uponIn Fence.wide n P a K Q ((execOp a.eval o).run P w) := by
 have := h.2
 rwa [Oper.semAt_eq _ _ _ hd] at this
def wpMid (X : Nat → Prop) (n : Nat) (P : Program) (md : Region.Mode) (ops : Array Oper) (Q : Exit → Act → World → Prop) : Nat → Array Bool → Act → World → Prop
 | 0, listed, a, w => Region.ready md ops listed = [] ∧ Q .normal a w
 | k + 1, listed, a, w => (Region.ready md ops listed = [] → Q .normal a w) ∧
  ∀ i ∈ Region.ready md ops listed, wpOpIn Fence.wide n P ops Q i (fun a' w' => Kept X w w' ∧ ∀ w'', Below w'.heap.size w' w'' → wpMid X n P md ops Q k (listed.setIfInBounds i true) a' w'') a w
theorem wpAnyIn_of_mid : ∀ (k : Nat) (listed : Array Bool) (a : Act) (w : World), wpMid X n P md ops Q k listed a w → wpAnyIn Fence.wide n P md ops Q k listed a w
 | 0, _, _, _, h => h
 | k + 1, listed, _, _, h => ⟨h.1, fun i hi => wpOpIn_mono (fun a' w' h' => wpAnyIn_of_mid k _ a' w' (h'.2 w' (Below.refl _ _))) (h.2 i hi)⟩
def MidIs (X : Nat → Prop) (P : Program) (ops : Array Oper) (o : Oper) (v : Value) (a : Act) (w : World) : Prop :=
 (Region.wanted o (yielded ops a.tmps) = true ∧ ∀ w', Kept X w w' → (execOp a.eval o).run P w' = .ok (.value v) w') ∨ (Region.wanted o (yielded ops a.tmps) = false ∧ v = undef)
theorem MidIs.later {o : Oper} {v : Value} {a : Act} {w w' : World} (h : MidIs X P ops o v a w) (hw : Kept X w w') : MidIs X P ops o v a w' := h.imp (fun ⟨h1, h2⟩ => ⟨h1, fun _ hl => h2 _ (hw.trans hl)⟩) id
theorem MidIs.same {o : Oper} {v : Value} {a a' : Act} {w : World} (h : MidIs X P ops o v a w) (he : execOp a'.eval o = execOp a.eval o)
  (hw : Region.wanted o (yielded ops a'.tmps) = Region.wanted o (yielded ops a.tmps)) : MidIs X P ops o v a' w := by
 unfold MidIs at *
 rw [he, hw]
 exact h
theorem MidIs.op {i : Nat} {o : Oper} {v : Value} {a : Act} {w : World} (hd : ∀ c, o.op ≠ .defer c) (hi : ops[i]? = some o) (hy : MidIs X P ops o v a w) {K : Act → World → Prop} (h : K (a.put o.dst v) w) : wpOpIn Fence.wide n P ops Q i K a w := by
 unfold wpOpIn
 rw [hi]
 rcases hy with ⟨hw, hv⟩ | ⟨hw, rfl⟩
 ·simp only [hw, if_true]
  exact opIn_of hd (by rw [hv w (Kept.refl _ _)]; exact h)
 ·simp only [hw, Bool.false_eq_true, if_false]; exact ⟨fun _ _ => trivial, h⟩
theorem mid_behind {j : Nat} {oi oj : Oper} {v : Value} (hj : ops[j]? = some oj) (hap : oi.apart ops oj = true) (hsj : ∀ cs b, oj.op ≠ .select cs b) (hdj : ∀ c, oj.op ≠ .defer c)
  (hQ : ∀ c a w, Q (.panic c) (a.put oi.dst v) w → Q (.panic c) a w) (G : Act → Prop) (gp : ∀ a u, G a → G (a.put oj.dst u)) (gd : ∀ (a : Act) d, G a → G { a with defers := d :: a.defers })
  {K : Act → World → Prop} {a : Act} {w : World} (ha : G a) (h : wpOpIn Fence.wide n P ops Q j K (a.put oi.dst v) w) :
  wpOpIn Fence.wide n P ops Q j (fun a' w' => G a' ∧ K (a'.put oi.dst v) w') a w := by
 obtain ⟨h1, h2, _⟩ := Oper.apart_spec hap
 have key : ∀ u w', K ((a.put oi.dst v).put oj.dst u) w' → G (a.put oj.dst u) ∧ K ((a.put oj.dst u).put oi.dst v) w' := fun u w' hk =>
  ⟨gp a u ha, by rw [← Act.put_comm a v u h2]; exact hk⟩
 unfold wpOpIn at *
 rw [hj] at h ⊢
 simp only [wanted_put oj a oi.dst v h1] at h ⊢
 by_cases hw : Region.wanted oj (yielded ops a.tmps) = true
 ·rw [if_pos hw] at h ⊢
  have h := opIn_to hdj h
  refine opIn_of hdj ?_
  rw [execOp_put oj hsj a oi.dst v h1] at h
  cases hr : (execOp a.eval oj).run P w with
  | ok m w' =>
   rw [hr] at h
   cases m <;> simp only [Oper.uponIn] at h ⊢
   case value u => exact key _ _ h
   case skip => exact key _ _ h
   case defer d =>
    refine ⟨gp _ _ (gd a _ ha), ?_⟩
    rw [← Act.put_comm _ v undef h2, ← Act.put_defers]
    exact h
   case enter f args =>
    refine ⟨h.1, CallsIn.mono h.2 fun e w'' he => ?_⟩
    cases e with
    | returned u => exact key _ _ he
    | panicked c => exact hQ _ _ _ he
    | outgrown => exact he
   case row row args => exact ⟨h.1, RowsIn.mono h.2 fun u w'' he => key _ _ he⟩
   case round l f tmps assign body =>
    refine ⟨h.1, RoundIn.mono h.2 fun e w'' he => ?_⟩
    cases e with
    | returned u => exact key _ _ he
    | panicked c => exact hQ _ _ _ he
    | outgrown => exact he
  | halt x w' =>
   rw [hr] at h
   cases x <;> simp only [Oper.uponIn] at h ⊢
   case panic u => exact hQ _ _ _ h
 ·rw [if_neg hw] at h ⊢
  exact ⟨fun _ _ => trivial, key _ _ h.2⟩
theorem mid_first {i : Nat} {oi : Oper} {v : Value} (hi : ops[i]? = some oi) (hsel : ∀ (j : Nat) (o : Oper) cs b, ops[j]? = some o → o.op ≠ .select cs b) (hdef : ∀ (j : Nat) (o : Oper) c, ops[j]? = some o → o.op ≠ .defer c)
  (hQ : ∀ c a w, Q (.panic c) (a.put oi.dst v) w → Q (.panic c) a w) :
  ∀ (k : Nat) (listed : Array Bool) (a : Act) (w : World),
   (∀ j oj, ops[j]? = some oj → j ≠ i → listed.getD j true = false → (∀ e ∈ oj.after, Region.binds md e = true → e.on ≠ i) → oi.apart ops oj = true) →
   i ∈ Region.ready md ops listed → MidIs X P ops oi v a w →
   (∀ w', Below w.heap.size w w' → wpMid X n P md ops Q k (listed.setIfInBounds i true) (a.put oi.dst v) w') → wpMid X n P md ops Q (k + 1) listed a w := by
 intro k
 induction k with
 | zero =>
  intro listed a w _ hr hy H
  refine ⟨fun h => absurd hr (by rw [h]; simp), fun j hj => ?_⟩
  by_cases e : j = i
  ·subst e; exact hy.op (hdef _ _ · hi) hi ⟨Kept.refl _ _, fun w' hw' => H w' hw'⟩
  ·have := ready_mono hj e
   rw [(H w (Below.refl _ _)).1] at this
   cases this
 | succ k ih =>
  intro listed a w hfree hr hy H
  refine ⟨fun h => absurd hr (by rw [h]; simp), fun j hj => ?_⟩
  by_cases e : j = i
  ·subst e; exact hy.op (hdef _ _ · hi) hi ⟨Kept.refl _ _, fun w' hw' => H w' hw'⟩
  ·have h1 := (H w (Below.refl _ _)).2 j (ready_mono hj e)
   obtain ⟨hun, oj, hoj, hall⟩ := mem_ready.1 hj
   have hno : ∀ x ∈ oj.after, Region.binds md x = true → x.on ≠ i := fun x hx hb he => by
    have h3 := hall x hx hb
    have h4 := (mem_ready.1 hr).1
    rw [he] at h3
    rcases Nat.lt_or_ge i listed.size with hl | hl
    ·simp [hl] at h3 h4; rw [h4] at h3; cases h3
    ·simp [Array.getElem?_eq_none hl] at h3
   have hap := hfree j oj hoj e hun hno
   obtain ⟨_, _, hd⟩ := Oper.apart_spec hap
   have hk := mid_behind (G := fun a' => execOp a'.eval oi = execOp a.eval oi ∧ Region.wanted oi (yielded ops a'.tmps) = Region.wanted oi (yielded ops a.tmps)) hoj hap (fun cs b => hsel j oj cs b hoj) (hdef j oj · hoj) hQ
    (fun a' u hg => ⟨(execOp_put oi (fun cs b => hsel i oi cs b hi) a' oj.dst u hd).trans hg.1, (wanted_put oi a' oj.dst u hd).trans hg.2⟩) (fun a' d hg => hg) ⟨rfl, rfl⟩ h1
   refine wpOpIn_mono (fun a' w' hg => ⟨hg.2.1, fun w'' hw'' => ?_⟩) hk
   refine ih (listed.setIfInBounds j true) a' w'' (fun m om hom hmi hmun hmno => hfree m om hom hmi ?_ hmno) (ready_mono hr (Ne.symm e)) ((hy.same hg.1.1 hg.1.2).later (hg.2.1.trans (Kept.of_call _ hw''))) ?_
   ·by_cases hjm : j = m
    ·subst hjm; exact hun
    ·rwa [getD_set_ne true hjm] at hmun
   ·intro w3 hw3
    rw [Array.setIfInBounds_comm _ _ e]
    exact hg.2.2 w3 (hw''.trans (hw3.mono hw''.size))
def Mid (X : Nat → Prop) (n : Nat) (P : Program) (md : Region.Mode) (ops : Array Oper) (Q : Exit → Act → World → Prop) (k : Nat) (listed : Array Bool) (a : Act) (w : World) : Prop := ∀ w', Below w.heap.size w w' → wpMid X n P md ops Q k listed a w'
def noDefer (ops : Array Oper) : Bool := ops.all fun o => match o.op with | .defer _ => false | _ => true
theorem noDefer_spec (h : noDefer ops = true) (j : Nat) (o : Oper) (c : Call) (ho : ops[j]? = some o) : o.op ≠ .defer c := fun e => by
 obtain ⟨hj, rfl⟩ := Array.getElem?_eq_some_iff.1 ho
 have := (Array.all_eq_true.1 h) j hj
 rw [e] at this
 cases this
theorem mid_begin {id : Nat} {a : Act} {w : World} (hm : P.follows .mixedOrders = true) (h : Mid X n P .any ops Q ops.size (Array.replicate ops.size false) a w) : (Code.region id ops true).wpIn Fence.wide n P Q a w :=
 wpIn_region_any hm (wpAnyIn_of_mid _ _ _ _ (h _ (Below.refl _ w).drew))
theorem mid_take (i : Nat) {k : Nat} {listed : Array Bool} {a : Act} {w : World} (hs : Region.noSelect ops = true) (hd : noDefer ops = true) (hf : Region.free md ops listed i = true) (hr : (Region.ready md ops listed).contains i = true) (hz : (ops[i]?).isSome = true)
  (hQ : ∀ c a d v w, Q (.panic c) (Act.put a d v) w → Q (.panic c) a w)
  (h : ∀ o : Oper, ops[i]? = some o → ∃ v, MidIs X P ops o v a w ∧ Mid X n P md ops Q k (listed.setIfInBounds i true) (a.put o.dst v) w) : Mid X n P md ops Q (k + 1) listed a w := by
 obtain ⟨o, ho⟩ := Option.isSome_iff_exists.1 hz
 obtain ⟨v, hy, h⟩ := h o ho
 exact fun w' hw' => mid_first ho (Region.noSelect_spec hs) (noDefer_spec hd) (fun c a w => hQ c a o.dst v w) k listed a w' (Region.free_spec ho hf) (by simpa using hr) (hy.later (Kept.of_call _ hw')) (fun w2 hw2 => h w2 (hw'.trans (hw2.mono hw'.size)))
theorem mid_end {listed : Array Bool} {a : Act} {w : World} {k : Nat} (hr : Region.ready md ops listed = []) (h : ∀ w', Below w.heap.size w w' → Q .normal a w') : Mid X n P md ops Q k listed a w := fun w' hw' =>
 match k with
 | 0 => ⟨hr, h w' hw'⟩
 | _ + 1 => ⟨fun _ => h w' hw', fun i hi => (by rw [hr] at hi; cases hi)⟩
structure WpR (n : Nat) (P : Program) (o : Oper) (a : Act) (w : World) (K : Act → World → Prop) (Q : Exit → Act → World → Prop) : Prop where
 out : o.uponIn Fence.wide n P a K Q ((execOp a.eval o).run P w)
theorem mid_one (i : Nat) {k : Nat} {listed : Array Bool} {a : Act} {w : World} (hd : noDefer ops = true) (hr : Region.ready md ops listed = [i]) (hz : (ops[i]?).isSome = true)
  (h : ∀ o : Oper, ops[i]? = some o → Region.wanted o (yielded ops a.tmps) = true ∧ ∀ w', Below w.heap.size w w' → ∀ K : Act → World → Prop, Shut (∀ a2 w2, Kept X w' w2 → Mid X n P md ops Q k (listed.setIfInBounds i true) a2 w2 → K a2 w2) → WpR n P o a w' K Q) : Mid X n P md ops Q (k + 1) listed a w := fun w' hw' =>
 ⟨fun h0 => (by rw [hr] at h0; cases h0), fun j hj => by
  rw [hr] at hj
  obtain rfl : j = i := by simpa using hj
  obtain ⟨o, ho⟩ := Option.isSome_iff_exists.1 hz
  obtain ⟨hw, h⟩ := h o ho
  unfold wpOpIn
  rw [ho]
  simp only [hw, if_true]
  exact opIn_of (noDefer_spec hd _ _ · ho) (h w' hw' _ fun a2 w2 hl hk => ⟨hl, hk⟩).out⟩
theorem mid_call {o : Oper} {a : Act} {w : World} {K : Act → World → Prop} (f : FuncId) (args : Array Value) (he : (execOp a.eval o).run P w = .ok (.enter f args) w)
  (h : Calls P f args w (fun e w' => ∃ v, e = .returned v ∧ K (a.put o.dst v) w')) : WpR n P o a w K Q := ⟨by
 rw [he]
 exact ⟨fun h => (by cases h), (callsIn_wide.2 h).mono fun e w' ⟨v, hv, hk⟩ => by subst hv; exact hk⟩⟩
theorem round_any {F : Fence} (hF : F.depth = none) {n m l : Nat} {f : FuncId} {tmps : Array Value} {assign body : Code} {w : World} {R : Ending → World → Prop} (h : RoundIn F n P l f tmps assign body w R) : RoundIn F m P l f tmps assign body w R :=
 ⟨h.1, fun c cs _ => h.2 c cs (fun d hd => by rw [hF] at hd; cases hd)⟩
theorem mid_yield {o : Oper} {a : Act} {w : World} {K : Act → World → Prop} (m l : Nat) (args : Array Value) (he : ∀ w', (execOp a.eval o).run P w' = (Instr.yield l args).run P w') {R : Ending → World → Prop} (hy : YieldAt Fence.wide m P l args w R)
  (h : ∀ e w', R e w' → ∃ v, e = .returned v ∧ K (a.put o.dst v) w') : WpR n P o a w K Q := ⟨by
 obtain ⟨fn, tmps, assign, body, hy, hR⟩ := hy
 rw [he, hy]
 refine ⟨fun h => (by cases h), ?_⟩
 have h2 : RoundIn Fence.wide (n - 1) P l fn tmps assign body w R := round_any (F := Fence.wide) rfl hR
 exact h2.mono fun e w' hr => by obtain ⟨v, rfl, hk⟩ := h e w' hr; exact hk⟩
end
end Go.Proofs.YteblmnbagbdiiaaGreatDoor.Wid
/-
 Comparisons of positions, as steps of a walk.
-/
namespace Go.Proofs.YteblmnbagbdiiaaGreatDoor
open Go.RowKit
set_option linter.unusedVariables false
theorem posA_inj {p q : Nat → Int} (h : posA p = posA q) (i : Nat) (hi : i < 88) : p i = q i := by
 have a := posA_get p i hi
 rw [h, posA_get q i hi] at a
 exact (Value.int.inj (Option.some.inj a)).2.symm
theorem WfP.of {p q : Nat → Int} (h : WfP p) (e : posA p = posA q) : WfP q := fun i hi => by rw [← posA_inj e i hi]; exact h i hi
section laws
variable {ops : Array Oper} {rest : List Oper} {op : Oper} {a : Act} {w : World} {Q : Exit → Act → World → Prop}
end laws
end Go.Proofs.YteblmnbagbdiiaaGreatDoor
/-
 Moves as records, and compared.
-/
namespace Go.Proofs.YteblmnbagbdiiaaGreatDoor
open Go.RowKit
set_option linter.unusedVariables false
set_option linter.unusedSimpArgs false

structure Mv where
 f : Int
 t : Int
 pr : Int
 dr : Int
 ca : Bool
def mvA (m : Mv) : Array Value := #[.int .i8 m.f, .int .i8 m.t, .int .u8 m.pr, .int .u8 m.dr, .bool m.ca]
def mv0 : Mv := ⟨0, 0, 0, 0, false⟩
theorem Mv.ext' {a b : Mv} (h1 : a.f = b.f) (h2 : a.t = b.t) (h3 : a.pr = b.pr) (h4 : a.dr = b.dr) (h5 : a.ca = b.ca) : a = b := by
 cases a; cases b; simp_all
structure FitV (m : Mv) : Prop where
 f : -128 ≤ m.f ∧ m.f ≤ 127
 t : -128 ≤ m.t ∧ m.t ≤ 127
 pr : 0 ≤ m.pr ∧ m.pr ≤ 255
 dr : 0 ≤ m.dr ∧ m.dr ≤ 255
theorem sizeMv : (Tryz.prog.info? 40).map (·.size) = some 5 := by kernel_rfl
theorem zeroMv : (Tryz.prog.info? 40).map (fun i => (i.zero, i.size)) = some (some (.agg (mvA mv0)), 5) := by kernel_rfl
theorem mv_one (m : Mv) : (mvA m).all (·.oneCell') = true := by simp [mvA, Value.oneCell']
theorem mvA_inj {a b : Mv} (h : mvA a = mvA b) : a = b := by
 have h' := congrArg Array.toList h
 simp only [mvA, List.cons.injEq, Value.int.injEq, Value.bool.injEq, true_and, and_true] at h'
 exact Mv.ext' h'.1 h'.2.1 h'.2.2.1 h'.2.2.2.1 h'.2.2.2.2
def mvE (a b : Mv) : Bool := (a.f == b.f) && (a.t == b.t) && (a.pr == b.pr) && (a.dr == b.dr) && (a.ca == b.ca)
theorem mvE_true {a b : Mv} : mvE a b = true ↔ a = b := by
 unfold mvE
 simp only [Bool.and_eq_true, beq_iff_eq]
 constructor
 ·rintro ⟨⟨⟨⟨h1, h2⟩, h3⟩, h4⟩, h5⟩; exact Mv.ext' h1 h2 h3 h4 h5
 ·rintro rfl; exact ⟨⟨⟨⟨rfl, rfl⟩, rfl⟩, rfl⟩, rfl⟩
theorem wf_i8 {x : Int} (h : -128 ≤ x ∧ x ≤ 127) : (Lit.int .i8 x).wf = true := by
 simp only [Lit.wf, Bool.and_eq_true, decide_eq_true_eq]; exact h
theorem wf_u8 {x : Int} (h : 0 ≤ x ∧ x ≤ 255) : (Lit.int .u8 x).wf = true := by
 simp only [Lit.wf, Bool.and_eq_true, decide_eq_true_eq]; exact h
theorem guardMv : Tryz.prog.eqGuardType Tryz.prog.depth 40 = false := by kernel_rfl
theorem keyMv : Tryz.prog.keyTypeAt 3 40 = true := by kernel_rfl
theorem formedMv (m : Mv) : (Value.agg (mvA m)).formed Tryz.prog 40 = true := by kernel_rfl
theorem tiledMv : Tryz.prog.tiled 3 40 = true := by kernel_rfl
theorem lit_int {d : Nat} {t : TypeId} {k : IntKind} {x : Int} (hu : Tryz.prog.underlying t = some (.int k)) (h : (Lit.int k x).wf = true) : (Tryz.prog.keyLits (d + 1) t [.int k x]).isSome = true := by
 unfold Program.keyLits
 rw [hu]
 simp [h]
theorem lit_bool {d : Nat} {t : TypeId} {x : Bool} (hu : Tryz.prog.underlying t = some .bool) : (Tryz.prog.keyLits (d + 1) t [.bool x]).isSome = true := by
 unfold Program.keyLits
 rw [hu]
 simp
theorem litsMv {m : Mv} (h : FitV m) : (Tryz.prog.keyLits 2 40 (mvA m).toList).isSome = true := by
 have c5 : Tryz.prog.cellsOf 5 = 1 := by kernel_rfl
 have c26 : Tryz.prog.cellsOf 26 = 1 := by kernel_rfl
 have c4 : Tryz.prog.cellsOf 4 = 1 := by kernel_rfl
 have cm : Tryz.prog.cellsOf 40 = 5 := by kernel_rfl
 obtain ⟨l, hl⟩ : ∃ l, (mvA m).toList = l := ⟨_, rfl⟩
 have hlen : l.length = 5 := by rw [← hl]; rfl
 rw [hl]
 unfold Program.keyLits
 rw [Tryz.underlying40]
 simp only [cm, hlen, true_and]
 rw [if_pos (by kernel_rfl), Option.isSome_map]
 refine mapM_some _ _ fun f hf => ?_
 rw [← hl]
 simp only [List.mem_cons, List.not_mem_nil, or_false] at hf
 rcases hf with rfl | rfl | rfl | rfl | rfl
 ·simp only [c26]; exact lit_int Tryz.underlying26 (wf_i8 h.f)
 ·simp only [c26]; exact lit_int Tryz.underlying26 (wf_i8 h.t)
 ·simp only [c5]; exact lit_int Tryz.underlying5 (wf_u8 h.pr)
 ·simp only [c5]; exact lit_int Tryz.underlying5 (wf_u8 h.dr)
 ·simp only [c4]; exact lit_bool Tryz.underlying4
theorem run_mveq {a b : Mv} (ha : FitV a) (hb : FitV b) (w : World) : (Op.equalIn 10000 40 (.agg (mvA a)) (.agg (mvA b))).run Tryz.prog w = .ok (mvE a b) w := by
 obtain ⟨la, hl⟩ := Option.isSome_iff_exists.1 (litsMv ha)
 obtain ⟨lb, kl⟩ := Option.isSome_iff_exists.1 (litsMv hb)
 obtain ⟨r, hr, hi⟩ := run_equalIn_deep 9997 3 40 keyMv w 2 2 (.agg (mvA a)) (.agg (mvA b)) la lb (formedMv a) (formedMv b) hl kl
 have e : r = mvE a b := by
  rw [Bool.eq_iff_iff, mvE_true]
  refine hi.trans ⟨fun e => ?_, fun e => ?_⟩
  ·have x := cells_of_lits 3 40 tiledMv _ _ _ hl
   have y := cells_of_lits 3 40 tiledMv _ _ _ kl
   rw [e, ← y] at x
   exact mvA_inj (Array.ext' x)
  ·rw [e] at hl
   exact Option.some.inj (hl.symm.trans kl)
 rw [hr, e]
section laws
variable {ops : Array Oper} {rest : List Oper} {op : Oper} {a : Act} {w : World} {Q : Exit → Act → World → Prop}
end laws
end Go.Proofs.YteblmnbagbdiiaaGreatDoor
/-
 Lists of moves: where they lie, made by append, read by index; two that are held against one another.
-/
namespace Go.Proofs.YteblmnbagbdiiaaGreatDoor
open Go.RowKit Go.Shelf
set_option linter.unusedVariables false
set_option linter.unusedSimpArgs false
attribute [local go_sem] Oper.semAt_some

def cmL (l : List Mv) : List Value := l.flatMap fun m => (mvA m).toList
theorem cmL_snoc (l : List Mv) (m : Mv) : cmL (l ++ [m]) = cmL l ++ (mvA m).toList := by unfold cmL; simp
def MvsO (B : Nat) (L : List Mv) (v : Value) (w : World) : Prop := w.ownsRow B 40 5 v L.length (cmL L)
theorem MvsO.keep {B : Nat} {L : List Mv} {v : Value} {w w' : World} (h : MvsO B L v w) (hb : ∀ g, v.ownBlock = some g → w'.heap[g]? = w.heap[g]?) : MvsO B L v w' := by
 refine ⟨h.1, ?_⟩
 rcases h.2 with hn | ⟨g, cap, cur, hv, hB, hg, rest⟩
 ·exact .inl hn
 ·exact .inr ⟨g, cap, cur, hv, hB, (hb g (by rw [hv]; rfl)).trans hg, rest⟩
theorem infoMv : (Tryz.prog.info? 40).map (fun i => (i.zero, i.size, i.bytes)) = some (some (.agg (mvA mv0)), 5, 5) := by kernel_rfl
theorem mcells_new (W : World) (cs : Array Value) (t : TypeId) (j : Nat) (u : Value) (h : cs.toList[j]? = some u) : (W.alloc (.cells cs t)).cell? ((⟨W.heap.size, 0, none⟩ : Addr).add j) = some u := by
 have e : ((⟨W.heap.size, 0, none⟩ : Addr).add j) = ⟨W.heap.size, j, none⟩ := by simp [Addr.add]; try exact fun h => h.symm
 rw [e, cell_of_row _ _ _ _ _ _ (heap_alloc_new W (.cells cs t))]
 simpa using h
theorem mkept_grown {w w' : World} {row : Option Nat} (h : w.grownBy w' row) : Kept (fun k => row = some k) w w' := ⟨⟨h.os, h.tape, h.output, h.size, fun k hk => by omega⟩, fun k hk hx => h.block k hk fun e => hx e.symm⟩
def Mvs (L : List Mv) (a : Option Addr) (w : World) : Prop := ∀ (i : Nat) (m : Mv), L[i]? = some m → ∃ g cur, a = some ⟨g, 0, none⟩ ∧ Blk w g 40 cur ∧ ∀ j, j < 5 → cur[5 * i + j]? = (mvA m)[j]?
theorem Mvs.later {L : List Mv} {a : Option Addr} {w w' : World} (h : Mvs L a w) (hl : Below w.heap.size w w') : Mvs L a w' := fun i m hm => by
 obtain ⟨g, cur, e, hb, hc⟩ := h i m hm
 exact ⟨g, cur, e, hb.later hl, hc⟩
theorem cmL_get : ∀ (L : List Mv) (i : Nat) (m : Mv) (j : Nat), L[i]? = some m → j < 5 → (cmL L)[5 * i + j]? = (mvA m)[j]?
 | [], i, m, j, h, _ => by simp at h
 | x :: L, 0, m, j, h, hj => by
  obtain rfl : x = m := by simpa using h
  have hl : (mvA x).toList.length = 5 := rfl
  show ((mvA x).toList ++ cmL L)[5 * 0 + j]? = _
  rw [Nat.mul_zero, Nat.zero_add, List.getElem?_append_left (by rw [hl]; exact hj)]; simp
 | x :: L, i + 1, m, j, h, hj => by
  have hl : (mvA x).toList.length = 5 := rfl
  show ((mvA x).toList ++ cmL L)[5 * (i + 1) + j]? = _
  rw [List.getElem?_append_right (by rw [hl]; omega), hl, show 5 * (i + 1) + j - 5 = 5 * i + j by omega]
  exact cmL_get L i m j (by simpa using h) hj
theorem mvs_of {L : List Mv} {B : Nat} {v : Value} {w : World} (h : MvsO B L v w) : ∃ a cap, v = .slice a L.length cap ∧ Mvs L a w := by
 rcases h.2 with ⟨rfl, hn⟩ | ⟨g, cap, cur, rfl, hB, hg, h1, h2, h3, h4⟩
 ·refine ⟨none, 0, by rw [hn], fun i x hx => ?_⟩
  have := List.length_eq_zero_iff.1 hn
  rw [this] at hx; cases hx
 ·refine ⟨some ⟨g, 0, none⟩, cap, rfl, fun i x hx => ⟨g, cur, rfl, hg, fun j hj => ?_⟩⟩
  have hi := (List.getElem?_eq_some_iff.1 hx).1
  have := congrArg (·[5 * i + j]?) h4
  rw [List.getElem?_take_of_lt (by omega)] at this
  rw [← cmL_get L i x j hx hj, ← this]
  simp
theorem Mvs.at {L : List Mv} {a : Option Addr} {w : World} (h : Mvs L a w) {i : Nat} {m : Mv} (hm : L[i]? = some m) : ∃ g, a = some ⟨g, 0, none⟩ ∧ w.rangeAt g (5 * i) (mvA m).toList := by
 obtain ⟨g, cur, e, hb, hc⟩ := h i m hm
 refine ⟨g, e, fun j v hv => ?_⟩
 have hj : j < 5 := (List.getElem?_eq_some_iff.1 hv).1
 rw [hb.cell, hc j hj, ← hv]; simp
theorem Mvs.get {L : List Mv} {g : Nat} {w : World} (h : Mvs L (some ⟨g, 0, none⟩) w) {i : Nat} {m : Mv} (hm : L[i]? = some m) : w.rangeAt g (5 * i) (mvA m).toList := by
 obtain ⟨g', e, hr⟩ := h.at hm
 have : g = g' := by injection e with e; injection e
 subst this; exact hr
theorem Mvs.lt {L : List Mv} {g : Nat} {w : World} (h : Mvs L (some ⟨g, 0, none⟩) w) {m : Mv} {i : Nat} (hm : L[i]? = some m) : g < w.heap.size := by
 obtain ⟨g', cur, e, hb, _⟩ := h i m hm
 have : g = g' := by injection e with e; injection e
 subst this; exact Blk.lt hb
theorem Mvs.upd {L : List Mv} {g b : Nat} {w w' : World} (h : Mvs L (some ⟨g, 0, none⟩) w) (U : Upd b w w') (hn : g ≠ b) : Mvs L (some ⟨g, 0, none⟩) w' := fun i m hm => by
 obtain ⟨g', cur, e, hb, hc⟩ := h i m hm
 have : g = g' := by injection e with e; injection e
 subst this
 exact ⟨g, cur, rfl, Blk.apart hb U hn, hc⟩
theorem Mvs.cell {L : List Mv} {g : Nat} {w : World} (h : Mvs L (some ⟨g, 0, none⟩) w) {i : Nat} {m : Mv} (hm : L[i]? = some m) (j off : Nat) (hj : j < 5) (ho : off = i * 5 + j) : w.cell? ⟨g, off, none⟩ = (mvA m)[j]? := by
 subst ho
 have e : i * 5 + j = 5 * i + j := by omega
 have hs : j < (mvA m).toList.length := by show j < 5; exact hj
 have := h.get hm j _ (List.getElem?_eq_getElem hs)
 rw [e, this, ← List.getElem?_eq_getElem hs]; simp
theorem MvsO.grow {B : Nat} {L : List Mv} {v v' : Value} {w w' : World} {m : Mv} (h : MvsO B L v w) (hown : w'.ownsRow B 40 5 v' (L.length + 1) (cmL L ++ (mvA m).toList)) : MvsO B (L ++ [m]) v' w' := by
 unfold MvsO; rw [cmL_snoc, List.length_append]; exact hown
theorem MvsO.from {B : Nat} {L : List Mv} {v : Value} {w : World} (h : MvsO B L v w) {k : Nat} (hk : v.ownBlock = some k) : B ≤ k := by
 rcases h.2 with ⟨rfl, _⟩ | ⟨g, cap, cur, rfl, hB, _⟩
 ·cases hk
 ·simp [Value.ownBlock] at hk; omega
theorem MvsO.later {B : Nat} {L : List Mv} {v : Value} {w w' : World} (h : MvsO B L v w) (hb : Below w.heap.size w w') : MvsO B L v w' := by
 refine ⟨h.1, ?_⟩
 rcases h.2 with hn | ⟨g, cap, cur, hv, hB, hg, rest⟩
 ·exact .inl hn
 ·exact .inr ⟨g, cap, cur, hv, hB, (hb.block g (Array.getElem?_eq_some_iff.1 hg).1).trans hg, rest⟩
theorem run_mvK {o : Oper} {a : Act} {w : World} (x : Operand) (ho : o.op = .load 40 x) (g i off : Nat) (hx : a.eval x = .pointer (some ⟨g, off, none⟩)) (hi : off = 5 * i) (m : Mv) (hr : w.rangeAt g (5 * i) (mvA m).toList) : (execOp a.eval o).run Tryz.prog w = .ok (.value (.agg (mvA m))) w := by
 subst hi
 have hl := run_loadVar_mid (P := Tryz.prog) w g (5 * i) 40 (mvA m).toList _ hr Tryz.underlying40 rfl sizeMv
 unfold execOp
 simp only [ho, hx, Instr.loadAt, Instr.sureAddr, Sem.run_bind, Sem.run_pure, Result.andThen_ok, hl]
theorem step_mvI {ops : Array Oper} {rest : List Oper} {op : Oper} {a : Act} {w : World} {Q : Exit → Act → World → Prop} (hw : Region.wanted op (yielded ops a.tmps) = true) (x : Operand) (ho : op.op = .load 40 x) (g i off : Nat) (hx : a.eval x = .pointer (some ⟨g, off, none⟩)) (hi : off = 5 * i) (m : Mv) (hr : w.rangeAt g (5 * i) (mvA m).toList)
  (h : wpList Tryz.prog ops Q rest (a.put op.dst (.agg (mvA m))) w) : wpList Tryz.prog ops Q (op :: rest) a w := by
 subst hi
 exact wpList_want hw fun _ hK => wp_load_mid 40 x ho g (5 * i) hx (mvA m).toList _ hr Tryz.underlying40 rfl sizeMv (hK _ _ h)
theorem run_mvN {o : Oper} {a : Act} {w : World} (x y : Operand) (ho : o.op = .binOp .neq 40 x y 40) (m n : Mv) (hx : a.eval x = .agg (mvA m)) (hy : a.eval y = .agg (mvA n)) (hm : FitV m) (hn : FitV n) (b : Bool) (hb : mvE m n = b) :
  (execOp a.eval o).run Tryz.prog w = .ok (.value (.bool (!b))) w := by
 have hr : (binOp .neq 40 (.agg (mvA m)) (.agg (mvA n))).run Tryz.prog w = .ok (.bool (!b)) w := by
  rw [run_neq_struct, run_mveq hm hn, hb]; rfl
 unfold execOp
 simp only [ho, hx, hy, Sem.run_bind, run_eqGuard_agg w _ _ _ _ _ _ guardMv, Result.andThen_ok, hr]
 rfl
theorem run_mvQ {o : Oper} {a : Act} {w : World} (x y : Operand) (ho : o.op = .binOp .eql 40 x y 40) (m n : Mv) (hx : a.eval x = .agg (mvA m)) (hy : a.eval y = .agg (mvA n)) (hm : FitV m) (hn : FitV n) (b : Bool) (hb : mvE m n = b) :
  (execOp a.eval o).run Tryz.prog w = .ok (.value (.bool b)) w := by
 have hr : (binOp .eql 40 (.agg (mvA m)) (.agg (mvA n))).run Tryz.prog w = .ok (.bool b) w := by
  rw [run_eql_struct, run_mveq hm hn, hb]; rfl
 unfold execOp
 simp only [ho, hx, hy, Sem.run_bind, run_eqGuard_agg w _ _ _ _ _ _ guardMv, Result.andThen_ok, hr]
 rfl
end Go.Proofs.YteblmnbagbdiiaaGreatDoor
/-
 Names of variants: the number of a name, told as the program does and as the law does; contracts of ByName and of the document's Name.
-/
namespace Go.Proofs.YteblmnbagbdiiaaGreatDoor
open Go.RowKit
set_option linter.unusedVariables false

end Go.Proofs.YteblmnbagbdiiaaGreatDoor
/-
 Contracts of what the document says a variant has; of Promotes, by the program and by the document.
-/
namespace Go.Proofs.YteblmnbagbdiiaaGreatDoor
open Go.RowKit
set_option linter.unusedVariables false

theorem int_beq (v n : Nat) : ((v : Int) == (n : Int)) = Nat.beq v n := by
 rw [Bool.eq_iff_iff]; simp; omega
theorem poc_int (v : Nat) : pocB v = ((v : Int) == 2) := by
 rw [show (2 : Int) = ((2 : Nat) : Int) from rfl, int_beq]; rfl
def upN (n : Nat) : List Nat := (List.range n).map (· + 2)
theorem upN_snoc (n : Nat) : upN (n + 1) = upN n ++ [n + 2] := by simp [upN, List.range_succ]
theorem upN_len (n : Nat) : (upN n).length = n := by simp [upN]
def prL (v : Nat) : List Nat := upN (hiN v - 1)
theorem hi_cases (v : Nat) : hiN v = 0 ∨ hiN v = 5 ∨ hiN v = 6 := by
 unfold hiN
 cases Nat.beq v 4
 ·cases Nat.blt v 8
  ·exact .inl rfl
  ·exact .inr (.inl rfl)
 ·exact .inr (.inr rfl)
theorem prom_any (v : Nat) (w : World) (hv : v ≤ 255) (hT : TabVar w) : Calls Tryz.prog 228 #[.int .u8 (v : Int)] w (ListK .u8 5 (prL v) w) := by
 have HT := H_ hT
 clear hT
 obtain ⟨i0, hi, hz0, hz1, hz2⟩ := info_parts infoU8
 obtain ⟨h, Hh⟩ : ∃ h, Hid (hiN v = h) := ⟨_, H_ rfl⟩
 have hc : h = 0 ∨ h = 5 ∨ h = 6 := by rw [← Hh.out]; exact hi_cases v
 go_enter Tryz.func228, Tryz.ntmps228
 go_wp2
 go_loopw [3, 4] (fun l i wr => ∃ k : Nat, 2 ≤ k ∧ k ≤ 7 ∧ k - 2 ≤ h - 1 ∧ i = .int .u8 (k : Int) ∧ ListedK .u8 5 w.heap.size (upN (k - 2)) l wr ∧ Below w.heap.size w wr) (fun _ i _ => 8 - (intOf i).toNat)
 case atStart => exact ⟨2, by omega, by omega, by omega, rfl, listedK_nil _ _ _ _, Below.refl _ _⟩
 case round =>
  obtain ⟨k, hk2, hk7, hkh, rfl, hl, hb⟩ := hrel
  have HL := H_ hl
  have HB := H_ hb
  clear hl hb
  by_cases hlt : k ≤ h
  ·have g0 : decide ((k : Int) ≤ (h : Int)) = true := decide_eq_true (by omega)
   have HU := H_ (show upN (k + 1 - 2) = upN (k - 2) ++ [k] by rw [show k + 1 - 2 = (k - 2) + 1 by omega, upN_snoc, show k - 2 + 2 = k by omega])
   have hlen := upN_len (k - 2)
   go_wp2_with fail
   refine (of_row v _ hv (HT.out.on HB.out)).mono ?_; rintro e w2 ⟨rfl, hb2⟩
   have HB2 := H_ (below_on HB.out hb2)
   have HL2 := H_ (listedK_below HL.out hb2)
   have hsz := HB2.out.size
   clear hb2 HB HL
   rw [Hh.out]
   go_wp2_with (first
    | (refine step_field rfl 61 _ 5 rfl _ rfl Tryz.underlying61 rfl Tryz.underlying5 rfl (.int .u8 (h : Int)) rfl ?_)
    | (at_builtin; refine wpList_append_own _ rfl _ _ 152 rfl w.heap.size 5 i0 (.int .u8 0) 1 1 Tryz.underlying152 hi hz0 hz1 hz2 rfl (by decide) _ _ _ rfl (HL2.out.alloc _) ⟨_, 0, none⟩ 1 1 [.int .u8 (k : Int)] rfl rfl ?c1 ?c2 ?c3 ?c4 ?c5 ?_))
   case c1 => exact cell_one_new _ _ _
   case c2 => simp [Value.oneCell']
   case c3 => unfold maxLen; omega
   case c4 => omega
   case c5 => simp; omega
   intro v' w1 hown' hgrow _
   have HG := H_ (listedK_grow HL2.out HB2.out HB2.out.size (by rw [upN_len]; exact hown') hgrow)
   clear hown' hgrow
   go_wp2
   go_roundw
   case rel => exact ⟨k + 1, by omega, by omega, by omega, by go_num, by rw [HU.out]; exact HG.out.1, HG.out.2⟩
   case measure => simp [intOf]; omega
  ·have g0 : decide ((k : Int) ≤ (h : Int)) = false := decide_eq_false (by omega)
   have HE := H_ (show upN (k - 2) = prL v by unfold prL; rw [Hh.out, show k - 2 = h - 1 by omega])
   go_wp2_with fail
   refine (of_row v _ hv (HT.out.on HB.out)).mono ?_; rintro e w2 ⟨rfl, hb2⟩
   have HB2 := H_ (below_on HB.out hb2)
   have HL2 := H_ (listedK_below HL.out hb2)
   clear hb2 HB HL
   rw [Hh.out]
   go_wp2_with (refine step_field rfl 61 _ 5 rfl _ rfl Tryz.underlying61 rfl Tryz.underlying5 rfl (.int .u8 (h : Int)) rfl ?_)
   go_ret
   exact ⟨_, rfl, by rw [← HE.out]; exact HL2.out, HB2.out⟩
end Go.Proofs.YteblmnbagbdiiaaGreatDoor
/-
 A position as an argument: it is opened to its 88 numbers, and reads behind the call as it did.
-/
namespace Go.Proofs.YteblmnbagbdiiaaGreatDoor
open Go.ChangeShapes Go.WideShapes Go.RowKit
set_option linter.unusedVariables false
section
variable {H : Type} {enc : TypeId × Value → H} {w : World} {base : Nat} {spare : Nat → Bool} {held : Bool}
def Leafy (enc : TypeId × Value → H) (w : World) (base : Nat) (spare : Nat → Bool) (held : Bool) (t : TypeId) (K : Nat → IntKind) : Prop :=
 ∀ (fuel : Nat) (cs : List Value) (x : DataW H × List MemPlace), DataW.trod enc Tryz.prog w base spare held fuel t cs = some x → x.2 = [] ∧ ∀ j, j < Tryz.prog.cellsOf t → ∃ n, cs[j]? = some (.int (K j) n) ∧ (Lit.int (K j) n).wf = true
theorem leafy_int {t : TypeId} {k : IntKind} (hu : Tryz.prog.underlying t = some (.int k)) (hc : Tryz.prog.cellsOf t = 1) : Leafy enc w base spare held t (fun _ => k) := by
 intro fuel cs x h
 obtain ⟨n, rfl, rfl, hw⟩ := DataW.trod_int hu h
 refine ⟨rfl, fun j hj => ⟨n, ?_, hw⟩⟩
 rw [hc] at hj
 obtain rfl : j = 0 := by omega
 rfl
theorem sub_get {cs : List Value} {o m j : Nat} {v : Value} (hj : j < m) (h : ((cs.drop o).take m)[j]? = some v) : cs[o + j]? = some v := by
 rwa [List.getElem?_take_of_lt hj, List.getElem?_drop] at h
theorem flat_nil {xs : List (DataW H × List MemPlace)} (h : ∀ x ∈ xs, x.2 = []) : xs.flatMap (·.2) = [] := by
 rw [List.flatMap_eq_nil_iff]; exact h
theorem leafy_array {t e : TypeId} {n : Nat} {K : Nat → IntKind} (hu : Tryz.prog.underlying t = some (.array n e)) (hc : Tryz.prog.cellsOf t = n * Tryz.prog.cellsOf e) (h0 : 0 < Tryz.prog.cellsOf e) (h : Leafy enc w base spare held e K) :
  Leafy enc w base spare held t (fun j => K (j % Tryz.prog.cellsOf e)) := by
 intro fuel cs x hx
 obtain ⟨xs, m, _, rfl, hl, hn, hi⟩ := DataW.trod_array hu hx
 refine ⟨flat_nil fun y hy => ?_, fun j hj => ?_⟩
 ·obtain ⟨i, hi', rfl⟩ := List.mem_iff_getElem.1 hy
  have := hi i (by omega)
  rw [List.getElem?_eq_getElem hi'] at this
  exact (h _ _ _ this).1
 ·have hd : j / Tryz.prog.cellsOf e < n := by rw [Nat.div_lt_iff_lt_mul h0, ← hc]; exact hj
  have ht := hi _ hd
  rw [List.getElem?_eq_getElem (by omega)] at ht
  obtain ⟨v, hv, hw⟩ := (h _ _ _ ht).2 (j % Tryz.prog.cellsOf e) (Nat.mod_lt _ h0)
  refine ⟨v, ?_, hw⟩
  have := sub_get (Nat.mod_lt _ h0) hv
  rwa [Nat.mul_comm, Nat.div_add_mod] at this
theorem leafy_field {fuel : Nat} {cs : List Value} {xs : List (DataW H × List MemPlace)} {m i : Nat} {t : TypeId} {o : Nat} {K : Nat → IntKind} (h : Leafy enc w base spare held t K)
  (hx : DataW.trod enc Tryz.prog w base spare held m t ((cs.drop o).take (Tryz.prog.cellsOf t)) = xs[i]?) (hi : i < xs.length) :
  (xs[i]'hi).2 = [] ∧ ∀ j, o ≤ j → j < o + Tryz.prog.cellsOf t → ∃ n, cs[j]? = some (.int (K (j - o)) n) ∧ (Lit.int (K (j - o)) n).wf = true := by
 rw [List.getElem?_eq_getElem hi] at hx
 obtain ⟨h1, h2⟩ := h _ _ _ hx
 refine ⟨h1, fun j h3 h4 => ?_⟩
 obtain ⟨n, hn, hw⟩ := h2 (j - o) (by omega)
 refine ⟨n, ?_, hw⟩
 have := sub_get (by omega) hn
 rwa [show o + (j - o) = j by omega] at this
theorem leafy31 : Leafy enc w base spare held 31 kAt := by
 intro fuel cs x hx
 obtain ⟨xs, m, _, rfl, hl, hn, hi⟩ := DataW.trod_struct Tryz.underlying31 hx
 have hn' : xs.length = 10 := hn
 have c5 : Tryz.prog.cellsOf 5 = 1 := by kernel_rfl
 have c26 : Tryz.prog.cellsOf 26 = 1 := by kernel_rfl
 have c23 : Tryz.prog.cellsOf 23 = 1 := by kernel_rfl
 have c3 : Tryz.prog.cellsOf 3 = 1 := by kernel_rfl
 have c24 : Tryz.prog.cellsOf 24 = 6 := by kernel_rfl
 have c27 : Tryz.prog.cellsOf 27 = 2 := by kernel_rfl
 have c22 : Tryz.prog.cellsOf 22 = 64 := by kernel_rfl
 have c25 : Tryz.prog.cellsOf 25 = 12 := by kernel_rfl
 have c28 : Tryz.prog.cellsOf 28 = 4 := by kernel_rfl
 have c29 : Tryz.prog.cellsOf 29 = 2 := by kernel_rfl
 have l5 : Leafy enc w base spare held 5 (fun _ => .u8) := leafy_int Tryz.underlying5 c5
 have l26 : Leafy enc w base spare held 26 (fun _ => .i8) := leafy_int Tryz.underlying26 c26
 have l23 : Leafy enc w base spare held 23 (fun _ => .u64) := leafy_int Tryz.underlying23 c23
 have l3 : Leafy enc w base spare held 3 (fun _ => .i64) := leafy_int Tryz.underlying3 c3
 have l22 : Leafy enc w base spare held 22 (fun _ => .u8) := leafy_array Tryz.underlying22 (by rw [c22, c5]) (by rw [c5]; decide) l5
 have l24 : Leafy enc w base spare held 24 (fun _ => .u8) := leafy_array Tryz.underlying24 (by rw [c24, c5]) (by rw [c5]; decide) l5
 have l25 : Leafy enc w base spare held 25 (fun _ => .u8) := leafy_array Tryz.underlying25 (by rw [c25, c24]) (by rw [c24]; decide) l24
 have l27 : Leafy enc w base spare held 27 (fun _ => .i8) := leafy_array Tryz.underlying27 (by rw [c27, c26]) (by rw [c26]; decide) l26
 have l28 : Leafy enc w base spare held 28 (fun _ => .i8) := leafy_array Tryz.underlying28 (by rw [c28, c27]) (by rw [c27]; decide) l27
 have l29 : Leafy enc w base spare held 29 (fun _ => .u8) := leafy_array Tryz.underlying29 (by rw [c29, c5]) (by rw [c5]; decide) l5
 obtain ⟨n0, f0⟩ := leafy_field (fuel := fuel) (o := 0) l5 (hi 0 _ rfl) (by omega)
 obtain ⟨n1, f1⟩ := leafy_field (fuel := fuel) (o := 1) l22 (hi 1 _ rfl) (by omega)
 obtain ⟨n2, f2⟩ := leafy_field (fuel := fuel) (o := 65) l23 (hi 2 _ rfl) (by omega)
 obtain ⟨n3, f3⟩ := leafy_field (fuel := fuel) (o := 66) l25 (hi 3 _ rfl) (by omega)
 obtain ⟨n4, f4⟩ := leafy_field (fuel := fuel) (o := 78) l5 (hi 4 _ rfl) (by omega)
 obtain ⟨n5, f5⟩ := leafy_field (fuel := fuel) (o := 79) l28 (hi 5 _ rfl) (by omega)
 obtain ⟨n6, f6⟩ := leafy_field (fuel := fuel) (o := 83) l26 (hi 6 _ rfl) (by omega)
 obtain ⟨n7, f7⟩ := leafy_field (fuel := fuel) (o := 84) l29 (hi 7 _ rfl) (by omega)
 obtain ⟨n8, f8⟩ := leafy_field (fuel := fuel) (o := 86) l3 (hi 8 _ rfl) (by omega)
 obtain ⟨n9, f9⟩ := leafy_field (fuel := fuel) (o := 87) l3 (hi 9 _ rfl) (by omega)
 refine ⟨flat_nil fun y hy => ?_, fun j hj => ?_⟩
 ·obtain ⟨i, hi', rfl⟩ := List.mem_iff_getElem.1 hy
  rw [hn'] at hi'
  match i, hi' with
  | 0, _ => exact n0
  | 1, _ => exact n1
  | 2, _ => exact n2
  | 3, _ => exact n3
  | 4, _ => exact n4
  | 5, _ => exact n5
  | 6, _ => exact n6
  | 7, _ => exact n7
  | 8, _ => exact n8
  | 9, _ => exact n9
 ·rw [show Tryz.prog.cellsOf 31 = 88 by kernel_rfl] at hj
  simp only [c5, c22, c23, c25, c28, c26, c29, c3] at f0 f1 f2 f3 f4 f5 f6 f7 f8 f9
  by_cases a0 : j = 0
  ·have := f0 j (by omega) (by omega); rwa [show kAt j = .u8 by subst a0; rfl]
  by_cases a1 : j < 65
  ·have := f1 j (by omega) (by omega); rwa [show kAt j = .u8 by unfold kAt; rw [if_neg (by omega), if_neg (by omega), if_neg (by omega)]]
  by_cases a2 : j = 65
  ·have := f2 j (by omega) (by omega); rwa [show kAt j = .u64 by subst a2; rfl]
  by_cases a3 : j < 78
  ·have := f3 j (by omega) (by omega); rwa [show kAt j = .u8 by unfold kAt; rw [if_neg (by omega), if_neg (by omega), if_neg (by omega)]]
  by_cases a4 : j = 78
  ·have := f4 j (by omega) (by omega); rwa [show kAt j = .u8 by subst a4; rfl]
  by_cases a5 : j < 83
  ·have := f5 j (by omega) (by omega); rwa [show kAt j = .i8 by unfold kAt; rw [if_neg (by omega), if_pos (by omega)]]
  by_cases a6 : j = 83
  ·have := f6 j (by omega) (by omega); rwa [show kAt j = .i8 by subst a6; rfl]
  by_cases a7 : j < 86
  ·have := f7 j (by omega) (by omega); rwa [show kAt j = .u8 by unfold kAt; rw [if_neg (by omega), if_neg (by omega), if_neg (by omega)]]
  by_cases a8 : j = 86
  ·have := f8 j (by omega) (by omega); rwa [show kAt j = .i64 by subst a8; rfl]
  ·have := f9 j (by omega) (by omega); rwa [show kAt j = .i64 by unfold kAt; rw [if_neg (by omega), if_neg (by omega), if_pos (by omega)]]
theorem open_pos {r : Reach} {b0 : Nat} {v : Value} {d : DataW H} {ps : List MemPlace} (hv : Value.okWide Tryz.prog w r b0 31 v) (h : DataW.Trod enc Tryz.prog w base spare held 31 v d ps) :
  ∃ p : Nat → Int, v = .agg (posA p) ∧ ps = [] ∧ WfP p := by
 obtain ⟨cs, rfl, hsz⟩ := okWide_struct Tryz.underlying31 hv
 obtain ⟨fuel, hf⟩ := h
 obtain ⟨h1, h2⟩ := leafy31 _ _ _ hf
 rw [show Tryz.prog.cellsOf 31 = 88 by kernel_rfl] at h2 hsz
 have hg : ∀ j, j < 88 → ∃ n, cs[j]? = some (.int (kAt j) n) ∧ (Lit.int (kAt j) n).wf = true := fun j hj => by
  obtain ⟨n, hn, hw⟩ := h2 j hj
  exact ⟨n, by rw [← hn]; show cs[j]? = cs.toList[j]?; simp, hw⟩
 refine ⟨fun j => intOf (cs[j]?.getD (.bool false)), ?_, h1, fun j hj => ?_⟩
 ·refine congrArg Value.agg ?_
  apply Array.ext_getElem?
  intro j
  by_cases hj : j < 88
  ·obtain ⟨n, hn, _⟩ := hg j hj
   rw [posA_get _ j hj, hn]; rfl
  ·rw [Array.getElem?_eq_none (by omega), Array.getElem?_eq_none (by rw [posA_size]; omega)]
 ·obtain ⟨n, hn, hw⟩ := hg j hj
  simp only [hn]
  exact hw
end
theorem laidOut6 : laidOutB Tryz.prog = true := by kernel_rfl
theorem shut_pos {H : Type} {enc : TypeId × Value → H} {W W' : World} {v : Value} {d : DataW H} (h : DataW.Trod enc Tryz.prog W 0 (fun _ => true) true 31 v d []) (hb : Below W.heap.size W W') :
  DataW.Trod enc Tryz.prog W' 0 (fun b => decide (b < W.heap.size)) true 31 v d [] :=
 Below.trod laidOut6 (by kernel_rfl) (of_decide_eq_true (by kernel_rfl)) h hb (fun x hx => by cases hx)
end Go.Proofs.YteblmnbagbdiiaaGreatDoor
