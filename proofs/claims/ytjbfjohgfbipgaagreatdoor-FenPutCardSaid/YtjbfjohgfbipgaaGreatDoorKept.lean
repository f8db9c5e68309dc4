/-
  A loop over an iterator that is itself a caller of another iterator: what changes and what stays is said block by block; the caller's loop, by an iterator's contract of this kind.
-/
import Derived.Test.YtjbfjohgfbipgaaGreatDoorChecked
import Derived.RangeFuncBox
import Derived.RangeFuncNested
import Derived.RangeFuncLeaves
import Derived.RangeFuncBound
import Derived.RangeFuncCalls
import Derived.Shelf.Abstract
import Derived.OwnWalkIn
import Derived.TacticsInMore
import Derived.LoopNIn
import Derived.LoopIn
import Derived.WalkKit
import Derived.Lib.Hide
namespace Go.Proofs.YtjbfjohgfbipgaaGreatDoor
open Go.RowKit Go.Shelf
set_option linter.unusedVariables false

/-- Only blocks of X (and new ones) have changed. -/
structure Kept (X : Nat → Prop) (w w' : World) : Prop where
  base : Below 0 w w'
  same : ∀ k, k < w.heap.size → ¬ X k → w'.heap[k]? = w.heap[k]?
section
variable {X Y : Nat → Prop} {w w' w'' : World}
theorem Kept.size (h : Kept X w w') : w.heap.size ≤ w'.heap.size := h.base.size
theorem Kept.refl (X : Nat → Prop) (w : World) : Kept X w w := ⟨Below.refl _ _, fun _ _ _ => rfl⟩
theorem Kept.trans (h : Kept X w w') (k : Kept X w' w'') : Kept X w w'' := ⟨h.base.trans k.base, fun i hi hx => (k.same i (Nat.lt_of_lt_of_le hi h.size) hx).trans (h.same i hi hx)⟩
theorem Kept.mono (h : Kept X w w') (hs : ∀ k, X k → Y k) : Kept Y w w' := ⟨h.base, fun k hk hy => h.same k hk fun hx => hy (hs k hx)⟩
/-- Only what is new at a later point has changed: so nothing of X's complement that lay there earlier. -/
theorem Kept.since {B : Nat} (h : Kept X w w') (k : Kept (B ≤ ·) w' w'') (hB : w.heap.size ≤ B) : Kept X w w'' :=
  ⟨h.base.trans k.base, fun i hi hx => (k.same i (Nat.lt_of_lt_of_le hi h.size) (by omega)).trans (h.same i hi hx)⟩
theorem Kept.of_below {B : Nat} (h : Below B w w') : Kept (B ≤ ·) w w' := ⟨h.mono (Nat.zero_le _), fun k _ hx => h.block k (by omega)⟩
theorem Kept.of_call (X : Nat → Prop) (h : Below w.heap.size w w') : Kept X w w' := ⟨h.mono (Nat.zero_le _), fun k hk _ => h.block k hk⟩
theorem Kept.below {B : Nat} (h : Kept X w w') (hx : ∀ k, X k → B ≤ k) (hB : B ≤ w.heap.size) : Below B w w' :=
  ⟨h.base.os, h.base.tape, h.base.output, h.size, fun k hk => h.same k (by omega) fun hk' => by have := hx k hk'; omega⟩
theorem Kept.obj {k : Nat} {o : Obj} (h : Kept X w w') (ho : w.heap[k]? = some o) (hx : ¬ X k) : w'.heap[k]? = some o := (h.same k (Array.getElem?_eq_some_iff.1 ho).1 hx).trans ho
theorem cell_block {W : World} {a : Addr} {v : Value} (h : W.cell? a = some v) : a.block < W.heap.size := World.block_lt_of_cell? W a h
theorem Kept.cell {a : Addr} {v : Value} (h : Kept X w w') (hc : w.cell? a = some v) (hx : ¬ X a.block) : w'.cell? a = some v :=
  (World.cell?_of_block (h.same a.block (cell_block hc) hx)).trans hc
theorem Kept.putObj (l : Nat) (o : Obj) (w : World) : Kept (· = l) w (w.putObj l o) := ⟨⟨rfl, rfl, rfl, by simp, fun k hk => by omega⟩, fun k _ hx => World.putObj_heap_other hx⟩
theorem Kept.setCell (b i : Nat) (v : Value) (w : World) : Kept (· = b) w (w.setCell ⟨b, i, none⟩ v) := ⟨⟨rfl, rfl, rfl, by simp [World.setCell], fun k hk => by omega⟩, fun k _ hx => Below.heap_setCell _ _ _ _ hx⟩
end

/-- What is said of the world hangs on no block from B on. -/
def Lasts {β : Type} (B : Nat) (J : β → World → Prop) : Prop := ∀ s A A', J s A → Kept (B ≤ ·) A A' → J s A'
theorem Lasts.mono {β : Type} {B B' : Nat} {J : β → World → Prop} (h : Lasts B J) (hB : B ≤ B') : Lasts B' J := fun s A A' hs k => h s A A' hs (k.mono fun _ hk => Nat.le_trans hB hk)
/-- The blocks that a round of a loop begun in w may change, while its iterator runs from W on: Y, and what the loop laid itself. -/
def Xs (Y : Nat → Prop) (w W : World) : Nat → Prop := fun k => Y k ∨ (w.heap.size ≤ k ∧ k < W.heap.size)

/-- An iterator tells the squares of L, one by one, as long as it is asked to go on. -/
def SeqK (n g : Nat) (lb : Array Value) (Y : Nat → Prop) (L : List Nat) (w : World) : Prop :=
  ∀ (l : Nat) (J Jx : List Nat → World → Prop) (W : World), Below w.heap.size w W → Lasts W.heap.size J → Lasts W.heap.size Jx →
    (∀ pre x W1, J pre W1 → pre ++ [x] <+: L → YieldAt Fence.wide n Tryz.prog l #[.int .i64 ((x : Nat) : Int)] W1 fun e W' =>
      ∃ b : Bool, e = .returned (.bool b) ∧ Kept (Xs Y w W) W1 W' ∧ (if b = true then J (pre ++ [x]) W' else Jx (pre ++ [x]) W')) →
    J [] W →
    CallsIn Fence.wide n Tryz.prog g (#[.func (.yield l) #[] #[]] ++ lb) W fun e W' => (∃ v, e = .returned v) ∧ (J L W' ∨ ∃ pre, pre ≠ [] ∧ pre <+: L ∧ Jx pre W')

/-- How a round's body may be left. -/
def keptPost (Y : Nat → Prop) (I Ix : List Nat → World → Prop) (xs : List Nat) (W : World) : Exit → Act → World → Prop
  | .normal, _, W' => Kept Y W W' ∧ I xs W'
  | .ret, _, W' => Kept Y W W' ∧ Ix xs W'
  | _, _, _ => False

/-- The loop of the caller. -/
theorem range_kept {n : Nat} {g : Operand} {pt : Tmp} {assign body : Code} {Q : Exit → Act → World → Prop} {a : Act} {w : World}
    {gf : Nat} {lb : Array Value} (hg : a.eval g = .func (.func gf) #[] lb) (eg : ∀ args w, (callFunc gf args).run Tryz.prog w = .ok (.enter gf args) w)
    (Y : Nat → Prop) (hY : ∀ k, Y k → k < w.heap.size) (L : List Nat) (hseq : SeqK (n - 1) gf lb Y L w)
    (I Ix : List Nat → World → Prop) (hI : Lasts w.heap.size I) (hIx : Lasts w.heap.size Ix) (h0 : I [] w) (a₁ : Nat → Act)
    (hassign : ∀ (l x : Nat) (W : World) (K : Act → World → Prop), K (a₁ x) W →
      assign.wpIn (Fence.wide.inRound l) (n - 1) Tryz.prog (Exit.then K (fun _ _ _ => False)) { tmps := (#[pt].zip #[Value.int .i64 (x : Int)]).foldl (fun t (p, v) => t.setIfInBounds p v) a.tmps, defers := [] } W)
    (hbody : ∀ (l : Nat) (pre : List Nat) (x : Nat) (W : World), I pre W → pre ++ [x] <+: L → body.wpIn (Fence.wide.inRound l) (n - 1) Tryz.prog (keptPost Y I Ix (pre ++ [x]) W) (a₁ x) W)
    (hdone : ∀ W, I L W → W.heap[w.heap.size]? = some (.deferred (some [])) → Q .normal { a with defers := { target := .collected w.heap.size, args := #[] } :: a.defers } W)
    (hstop : ∀ pre W, pre ≠ [] → pre <+: L → Ix pre W → W.heap[w.heap.size]? = some (.deferred (some [])) → Code.ret.wpIn Fence.wide n Tryz.prog Q { a with defers := { target := .collected w.heap.size, args := #[] } :: a.defers } W) :
    (Code.rangeFunc g #[pt] assign body).wpIn Fence.wide n Tryz.prog Q a w := by
  refine wpIn_rangeFunc fun fn hfn => ?_
  obtain ⟨rec, hrec⟩ : ∃ rec : LoopState → Option Code → Loop, rec = fun st pe => { state := st, pending := pe, fn, tmps := a.tmps, params := #[pt], assign, body, defers := w.heap.size } := ⟨_, rfl⟩
  obtain ⟨S, hS⟩ : ∃ S, S = w.heap.size := ⟨_, rfl⟩
  obtain ⟨W1, hW1⟩ : ∃ W1, W1 = (w.alloc (.deferred (some []))).alloc (.loop (rec .ready none)) := ⟨_, rfl⟩
  have hs1 : W1.heap.size = S + 2 := by rw [hW1, hS]; simp
  have hb1 : Below w.heap.size w W1 := by rw [hW1]; exact ((Below.refl _ w).alloc (Nat.le_refl _) _).alloc (by simp) _
  have hl1 : W1.heap[S + 1]? = some (.loop (rec .ready none)) := by
    have := World.alloc_heap_new (w.alloc (.deferred (some []))) (.loop (rec .ready none)); rw [World.size_alloc] at this; rw [hW1, hS]; exact this
  have hd1 : W1.heap[S]? = some (.deferred (some [])) := by rw [hW1, hS]; exact (Below.heap_alloc _ _ _ (by simp)).trans (World.alloc_heap_new w _)
  -- what holds from round to round, and when a round has said no
  let G (st : LoopState) (pe : Option Code) (V : World) : Prop := V.heap[S + 1]? = some (.loop (rec st pe)) ∧ V.heap[S]? = some (.deferred (some []))
  have hG : ∀ {st pe} {V V' : World} {Z : Nat → Prop}, G st pe V → Kept Z V V' → ¬ Z (S + 1) → ¬ Z S → G st pe V' := fun h k z1 z0 => ⟨k.obj h.1 z1, k.obj h.2 z0⟩
  have hturn : ∀ {st pe} (st' pe') {V : World}, G st pe V → G st' pe' (V.putObj (S + 1) (.loop (rec st' pe'))) := fun st' pe' V h =>
    ⟨World.putObj_heap_same (Array.getElem?_eq_some_iff.1 h.1).1, (World.putObj_heap_other (by omega)).trans h.2⟩
  have hput : ∀ (o : Obj) (V : World), Kept (w.heap.size ≤ ·) V (V.putObj (S + 1) o) := fun o V => (Kept.putObj _ _ _).mono fun k e => by show w.heap.size ≤ k; omega
  have hputX : ∀ (o : Obj) (V : World), Kept (Xs Y w W1) V (V.putObj (S + 1) o) := fun o V => (Kept.putObj _ _ _).mono fun k e => .inr (by omega)
  refine ⟨S + 1, [{ target := .collected S, args := #[] }], W1, { target := .fn (.func gf) lb, args := #[.func (.yield (S + 1)) #[] #[]] }, W1, gf, #[.func (.yield (S + 1)) #[] #[]] ++ lb, W1, ?_, ?_, ?_, ?_, fun h => (by cases h), ?_⟩
  · rw [hW1, hS, hrec]; exact run_enterLoop_outer _ _ _ _ _
  · simp only [resolve, hg]; simp [go_sem]
  · exact fun _ _ => trivial
  · simp [invoke, go_sem, eg]
  refine (hseq (S + 1) (fun pre V => I pre V ∧ G .ready none V) (fun pre V => Ix pre V ∧ G .done (some .ret) V) W1 hb1
    (fun s A A' h k => ⟨(hI.mono (by omega)) s A A' h.1 k, hG h.2 k (by omega) (by omega)⟩) (fun s A A' h k => ⟨(hIx.mono (by omega)) s A A' h.1 k, hG h.2 k (by omega) (by omega)⟩) ?_
    ⟨hI _ _ _ h0 (Kept.of_below hb1), hl1, hd1⟩).mono ?_
  · rintro pre x V ⟨hi, hgv⟩ hpre
    have hy := run_yield (P := Tryz.prog) (args := #[.int .i64 (x : Int)]) hgv.1 (by rw [hrec]; rfl)
    rw [hrec] at hy
    refine ⟨fn, _, assign, body, hy, roundIn_of_wpIn trivial ?_⟩
    refine hassign _ x V _ ?_
    refine ⟨_, run_beginRound hgv.1 (by rw [hrec]), ?_⟩
    have e0 : ({ rec .ready none with state := .busy } : Loop) = rec .busy none := by rw [hrec]
    rw [e0]
    obtain ⟨V1, hV1⟩ : ∃ V1, V1 = V.putObj (S + 1) (.loop (rec .busy none)) := ⟨_, rfl⟩
    rw [← hV1]
    have hg1 : G .busy none V1 := by rw [hV1]; exact hturn _ _ hgv
    have hk1 : Kept (Xs Y w W1) V V1 := by rw [hV1]; exact hputX _ _
    refine wpIn_mono (hbody (S + 1) pre x V1 (by rw [hV1]; exact hI _ _ _ hi (hput _ _)) hpre) ?_
    have hsY : ∀ k, Y k → k < S := fun k hk => by have := hY k hk; omega
    rintro e a3 V3 hp
    cases e with
    | normal =>
      obtain ⟨hk3, hi3⟩ := hp
      have hg3 : G .busy none V3 := hG hg1 hk3 (fun h => by have := hsY _ h; omega) (fun h => by have := hsY _ h; omega)
      have hr := run_endRound (P := Tryz.prog) none hg3.1
      have e1 : ({ rec .busy none with state := if (none : Option Code).isNone = true then .ready else .done, pending := none } : Loop) = rec .ready none := by rw [hrec]; rfl
      rw [e1] at hr
      exact ⟨_, _, hr, true, rfl, (hk1.trans (hk3.mono fun k hk => .inl hk)).trans (hputX _ _), hI _ _ _ hi3 (hput _ _), hturn _ _ hg3⟩
    | ret =>
      obtain ⟨hk3, hi3⟩ := hp
      have hg3 : G .busy none V3 := hG hg1 hk3 (fun h => by have := hsY _ h; omega) (fun h => by have := hsY _ h; omega)
      have hr := run_endRound (P := Tryz.prog) (some .ret) hg3.1
      have e1 : ({ rec .busy none with state := if (some Code.ret).isNone = true then .ready else .done, pending := some .ret } : Loop) = rec .done (some .ret) := by rw [hrec]; rfl
      rw [e1] at hr
      exact ⟨_, _, hr, false, rfl, (hk1.trans (hk3.mono fun k hk => .inl hk)).trans (hputX _ _), hIx _ _ _ hi3 (hput _ _), hturn _ _ hg3⟩
    | exit id => exact hp.elim
    | goto t => exact hp.elim
    | panic ch => exact hp.elim
    | outgrown => exact hp.elim
  · rintro e V ⟨⟨v, rfl⟩, (⟨hi, hgv⟩ | ⟨pre, hne, hpre, hi, hgv⟩)⟩
    · have hr := run_endLoop (P := Tryz.prog) hgv.1 (by rw [hrec]; simp)
      rw [show (rec .ready none).pending = none by rw [hrec]] at hr
      refine ⟨none, _, hr, ?_⟩
      have hd := hgv.2
      subst hS
      exact hdone _ (hI _ _ _ hi (hput _ _)) ((World.putObj_heap_other (by omega)).trans hd)
    · have hr := run_endLoop (P := Tryz.prog) hgv.1 (by rw [hrec]; simp)
      rw [show (rec .done (some .ret)).pending = some .ret by rw [hrec]] at hr
      refine ⟨some .ret, _, hr, ?_⟩
      have hd := hgv.2
      subst hS
      exact hstop pre _ hne hpre (hIx _ _ _ hi (hput _ _)) ((World.putObj_heap_other (by omega)).trans hd)

/-- The loops that ended left a mark each, the newest one first. -/
def Marks (lo : Nat) : Nat → List Deferred → World → Prop
  | _, [], _ => True
  | hi, d :: ds, w => ∃ D, d = { target := .collected D, args := #[] } ∧ lo ≤ D ∧ D < hi ∧ w.heap[D]? = some (.deferred (some [])) ∧ Marks lo D ds w
theorem Marks.kept {lo : Nat} {X : Nat → Prop} : ∀ {hi : Nat} {ds : List Deferred} {w w' : World}, Marks lo hi ds w → Kept X w w' → (∀ k, lo ≤ k → k < hi → ¬ X k) → Marks lo hi ds w'
  | _, [], _, _, _, _, _ => trivial
  | _, _ :: _, _, _, ⟨D, e, h1, h2, h3, h4⟩, k, hx => ⟨D, e, h1, h2, k.obj h3 (hx D h1 h2), h4.kept k fun i a b => hx i a (by omega)⟩
theorem Marks.mono {lo hi hi' : Nat} {ds : List Deferred} {w : World} (h : Marks lo hi ds w) (hh : hi ≤ hi') : Marks lo hi' ds w := by
  cases ds with
  | nil => trivial
  | cons d ds => obtain ⟨D, e, h1, h2, h3, h4⟩ := h; exact ⟨D, e, h1, by omega, h3, h4⟩
theorem marks_leave {n lo : Nat} {fn : Func} {tmps : Array Value} {R : Ending → World → Prop} : ∀ {hi : Nat} {ds : List Deferred} {w : World}, Marks lo hi ds w →
    (∀ w', Kept (lo ≤ ·) w w' → LeavesInM Fence.wide n Tryz.prog fn tmps R [] .returning w') → LeavesInM Fence.wide n Tryz.prog fn tmps R ds .returning w
  | _, [], w, _, h => h w (Kept.refl _ _)
  | _, _ :: _, w, ⟨D, e, h1, h2, h3, h4⟩, h => by
    refine ⟨by simp, .inl ⟨D, _, by rw [e], run_takeDeferred h3, ?_⟩⟩
    have k : Kept (· = D) w (w.putObj D (.deferred none)) := Kept.putObj _ _ _
    exact marks_leave (h4.kept k fun i _ b => by omega) fun w' k' => h w' ((k.mono fun i e => by show lo ≤ i; omega).trans k')
end Go.Proofs.YtjbfjohgfbipgaaGreatDoor
