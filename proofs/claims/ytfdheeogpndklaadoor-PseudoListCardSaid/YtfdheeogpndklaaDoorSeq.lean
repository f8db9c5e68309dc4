/-
  A loop over an iterator of whatever values (numbers of whatever kind, structs): the iterator's contract, and the caller's loop; the shape of XKept's, whose values are squares.
-/
import Derived.Test.YtfdheeogpndklaaDoorKept
namespace Go.Proofs.YtfdheeogpndklaaDoor
open Go.RowKit Go.Shelf
set_option linter.unusedVariables false

/-- An iterator tells the values of L, one by one, as long as it is asked to go on. -/
def SeqV {α : Type} (val : α → Value) (n g : Nat) (lb : Array Value) (Y : Nat → Prop) (L : List α) (w : World) : Prop :=
  ∀ (l : Nat) (J Jx : List α → World → Prop) (W : World), Below w.heap.size w W → Lasts W.heap.size J → Lasts W.heap.size Jx →
    (∀ pre x W1, J pre W1 → pre ++ [x] <+: L → YieldAt Fence.wide n Tryd.prog l #[val x] W1 fun e W' =>
      ∃ b : Bool, e = .returned (.bool b) ∧ Kept (Xs Y w W) W1 W' ∧ (if b = true then J (pre ++ [x]) W' else Jx (pre ++ [x]) W')) →
    J [] W →
    CallsIn Fence.wide n Tryd.prog g (#[.func (.yield l) #[] #[]] ++ lb) W fun e W' => (∃ v, e = .returned v) ∧ (J L W' ∨ ∃ pre, pre ≠ [] ∧ pre <+: L ∧ Jx pre W')

/-- How a round's body may be left. -/
def postV {α : Type} (Y : Nat → Prop) (I Ix : List α → World → Prop) (xs : List α) (W : World) : Exit → Act → World → Prop
  | .normal, _, W' => Kept Y W W' ∧ I xs W'
  | .ret, _, W' => Kept Y W W' ∧ Ix xs W'
  | _, _, _ => False

/-- The loop of the caller. -/
theorem range_seq {α : Type} {val : α → Value} {n : Nat} {g : Operand} {pt : Tmp} {assign body : Code} {Q : Exit → Act → World → Prop} {a : Act} {w : World}
    {gf : Nat} {lb : Array Value} (hg : a.eval g = .func (.func gf) #[] lb) (eg : ∀ args w, (callFunc gf args).run Tryd.prog w = .ok (.enter gf args) w)
    (Y : Nat → Prop) (hY : ∀ k, Y k → k < w.heap.size) (L : List α) (hseq : SeqV val (n - 1) gf lb Y L w)
    (I Ix : List α → World → Prop) (hI : Lasts w.heap.size I) (hIx : Lasts w.heap.size Ix) (h0 : I [] w) (a₁ : α → Act)
    (hassign : ∀ (l : Nat) (x : α) (W : World) (K : Act → World → Prop), K (a₁ x) W →
      assign.wpIn (Fence.wide.inRound l) (n - 1) Tryd.prog (Exit.then K (fun _ _ _ => False)) { tmps := (#[pt].zip #[val x]).foldl (fun t (p, v) => t.setIfInBounds p v) a.tmps, defers := [] } W)
    (hbody : ∀ (l : Nat) (pre : List α) (x : α) (W : World), I pre W → pre ++ [x] <+: L → body.wpIn (Fence.wide.inRound l) (n - 1) Tryd.prog (postV Y I Ix (pre ++ [x]) W) (a₁ x) W)
    (hdone : ∀ W, I L W → W.heap[w.heap.size]? = some (.deferred (some [])) → Q .normal { a with defers := { target := .collected w.heap.size, args := #[] } :: a.defers } W)
    (hstop : ∀ pre W, pre ≠ [] → pre <+: L → Ix pre W → W.heap[w.heap.size]? = some (.deferred (some [])) → Code.ret.wpIn Fence.wide n Tryd.prog Q { a with defers := { target := .collected w.heap.size, args := #[] } :: a.defers } W) :
    (Code.rangeFunc g #[pt] assign body).wpIn Fence.wide n Tryd.prog Q a w := by
  refine wpIn_rangeFunc fun fn hfn => ?_
  obtain ⟨rec, hrec⟩ : ∃ rec : LoopState → Option Code → Loop, rec = fun st pe => { state := st, pending := pe, fn, tmps := a.tmps, params := #[pt], assign, body, defers := w.heap.size } := ⟨_, rfl⟩
  obtain ⟨S, hS⟩ : ∃ S, S = w.heap.size := ⟨_, rfl⟩
  obtain ⟨W1, hW1⟩ : ∃ W1, W1 = (w.alloc (.deferred (some []))).alloc (.loop (rec .ready none)) := ⟨_, rfl⟩
  have hs1 : W1.heap.size = S + 2 := by rw [hW1, hS]; simp
  have hb1 : Below w.heap.size w W1 := by rw [hW1]; exact ((Below.refl _ w).alloc (Nat.le_refl _) _).alloc (by simp) _
  have hl1 : W1.heap[S + 1]? = some (.loop (rec .ready none)) := by
    have := World.alloc_heap_new (w.alloc (.deferred (some []))) (.loop (rec .ready none)); rw [World.size_alloc] at this; rw [hW1, hS]; exact this
  have hd1 : W1.heap[S]? = some (.deferred (some [])) := by rw [hW1, hS]; exact (Below.heap_alloc _ _ _ (by simp)).trans (World.alloc_heap_new w _)
  -- what holds from round to round, and when a round has said no
  let G (st : LoopState) (pe : Option Code) (V : World) : Prop := V.heap[S + 1]? = some (.loop (rec st pe)) ∧ V.heap[S]? = some (.deferred (some []))
  have hG : ∀ {st pe} {V V' : World} {Z : Nat → Prop}, G st pe V → Kept Z V V' → ¬ Z (S + 1) → ¬ Z S → G st pe V' := fun h k z1 z0 => ⟨k.obj h.1 z1, k.obj h.2 z0⟩
  have hturn : ∀ {st pe} (st' pe') {V : World}, G st pe V → G st' pe' (V.putObj (S + 1) (.loop (rec st' pe'))) := fun st' pe' V h =>
    ⟨World.putObj_heap_same (Array.getElem?_eq_some_iff.1 h.1).1, (World.putObj_heap_other (by omega)).trans h.2⟩
  have hput : ∀ (o : Obj) (V : World), Kept (w.heap.size ≤ ·) V (V.putObj (S + 1) o) := fun o V => (Kept.putObj _ _ _).mono fun k e => by show w.heap.size ≤ k; omega
  have hputX : ∀ (o : Obj) (V : World), Kept (Xs Y w W1) V (V.putObj (S + 1) o) := fun o V => (Kept.putObj _ _ _).mono fun k e => .inr (by omega)
  refine ⟨S + 1, [{ target := .collected S, args := #[] }], W1, { target := .fn (.func gf) lb, args := #[.func (.yield (S + 1)) #[] #[]] }, W1, gf, #[.func (.yield (S + 1)) #[] #[]] ++ lb, W1, ?_, ?_, ?_, ?_, fun h => (by cases h), ?_⟩
  · rw [hW1, hS, hrec]; exact run_enterLoop_outer _ _ _ _ _
  · simp only [resolve, hg]; simp [go_sem]
  · exact fun _ _ => trivial
  · simp [invoke, go_sem, eg]
  refine (hseq (S + 1) (fun pre V => I pre V ∧ G .ready none V) (fun pre V => Ix pre V ∧ G .done (some .ret) V) W1 hb1
    (fun s A A' h k => ⟨(hI.mono (by omega)) s A A' h.1 k, hG h.2 k (by omega) (by omega)⟩) (fun s A A' h k => ⟨(hIx.mono (by omega)) s A A' h.1 k, hG h.2 k (by omega) (by omega)⟩) ?_
    ⟨hI _ _ _ h0 (Kept.of_below hb1), hl1, hd1⟩).mono ?_
  · rintro pre x V ⟨hi, hgv⟩ hpre
    have hy := run_yield (P := Tryd.prog) (args := #[val x]) hgv.1 (by rw [hrec]; rfl)
    rw [hrec] at hy
    refine ⟨fn, _, assign, body, hy, roundIn_of_wpIn trivial ?_⟩
    refine hassign _ x V _ ?_
    refine ⟨_, run_beginRound hgv.1 (by rw [hrec]), ?_⟩
    have e0 : ({ rec .ready none with state := .busy } : Loop) = rec .busy none := by rw [hrec]
    rw [e0]
    obtain ⟨V1, hV1⟩ : ∃ V1, V1 = V.putObj (S + 1) (.loop (rec .busy none)) := ⟨_, rfl⟩
    rw [← hV1]
    have hg1 : G .busy none V1 := by rw [hV1]; exact hturn _ _ hgv
    have hk1 : Kept (Xs Y w W1) V V1 := by rw [hV1]; exact hputX _ _
    refine wpIn_mono (hbody (S + 1) pre x V1 (by rw [hV1]; exact hI _ _ _ hi (hput _ _)) hpre) ?_
    have hsY : ∀ k, Y k → k < S := fun k hk => by have := hY k hk; omega
    rintro e a3 V3 hp
    cases e with
    | normal =>
      obtain ⟨hk3, hi3⟩ := hp
      have hg3 : G .busy none V3 := hG hg1 hk3 (fun h => by have := hsY _ h; omega) (fun h => by have := hsY _ h; omega)
      have hr := run_endRound (P := Tryd.prog) none hg3.1
      have e1 : ({ rec .busy none with state := if (none : Option Code).isNone = true then .ready else .done, pending := none } : Loop) = rec .ready none := by rw [hrec]; rfl
      rw [e1] at hr
      exact ⟨_, _, hr, true, rfl, (hk1.trans (hk3.mono fun k hk => .inl hk)).trans (hputX _ _), hI _ _ _ hi3 (hput _ _), hturn _ _ hg3⟩
    | ret =>
      obtain ⟨hk3, hi3⟩ := hp
      have hg3 : G .busy none V3 := hG hg1 hk3 (fun h => by have := hsY _ h; omega) (fun h => by have := hsY _ h; omega)
      have hr := run_endRound (P := Tryd.prog) (some .ret) hg3.1
      have e1 : ({ rec .busy none with state := if (some Code.ret).isNone = true then .ready else .done, pending := some .ret } : Loop) = rec .done (some .ret) := by rw [hrec]; rfl
      rw [e1] at hr
      exact ⟨_, _, hr, false, rfl, (hk1.trans (hk3.mono fun k hk => .inl hk)).trans (hputX _ _), hIx _ _ _ hi3 (hput _ _), hturn _ _ hg3⟩
    | exit id => exact hp.elim
    | goto t => exact hp.elim
    | panic ch => exact hp.elim
    | outgrown => exact hp.elim
  · rintro e V ⟨⟨v, rfl⟩, (⟨hi, hgv⟩ | ⟨pre, hne, hpre, hi, hgv⟩)⟩
    · have hr := run_endLoop (P := Tryd.prog) hgv.1 (by rw [hrec]; simp)
      rw [show (rec .ready none).pending = none by rw [hrec]] at hr
      refine ⟨none, _, hr, ?_⟩
      have hd := hgv.2
      subst hS
      exact hdone _ (hI _ _ _ hi (hput _ _)) ((World.putObj_heap_other (by omega)).trans hd)
    · have hr := run_endLoop (P := Tryd.prog) hgv.1 (by rw [hrec]; simp)
      rw [show (rec .done (some .ret)).pending = some .ret by rw [hrec]] at hr
      refine ⟨some .ret, _, hr, ?_⟩
      have hd := hgv.2
      subst hS
      exact hstop pre _ hne hpre (hIx _ _ _ hi (hput _ _)) ((World.putObj_heap_other (by omega)).trans hd)
end Go.Proofs.YtfdheeogpndklaaDoor
