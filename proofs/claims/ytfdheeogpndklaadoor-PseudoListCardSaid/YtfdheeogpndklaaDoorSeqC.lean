/-
  A loop over an iterator, whose rounds make memory that later rounds change again (a list that grows): what the rounds own is a set of blocks, which the iterator leaves alone.
-/
import Derived.Test.YtfdheeogpndklaaDoorSeqB
namespace Go.Proofs.YtfdheeogpndklaaDoor
open Go.RowKit Go.Shelf
set_option linter.unusedVariables false

/-- What is said hangs, from B on, on the blocks of C alone. -/
def LastsC {β : Type} (B : Nat) (J : β → (Nat → Prop) → World → Prop) : Prop := ∀ s C A A', J s C A → Kept (fun k => B ≤ k ∧ ¬ C k) A A' → J s C A'
/-- An iterator tells the values of L, one by one, as long as it is asked to go on; it leaves alone what its caller's rounds own. -/
def SeqC {α : Type} (val : α → Value) (n g : Nat) (lb : Array Value) (Y : Nat → Prop) (L : List α) (w : World) : Prop :=
  ∀ (l : Nat) (J Jx : List α → (Nat → Prop) → World → Prop) (W : World), Below w.heap.size w W → LastsC W.heap.size J → LastsC W.heap.size Jx →
    (∀ pre x C W1, J pre C W1 → (∀ k, C k → W.heap.size ≤ k ∧ k < W1.heap.size) → pre ++ [x] <+: L → YieldAt Fence.wide n Tryd.prog l #[val x] W1 fun e W' =>
      ∃ (b : Bool) (C' : Nat → Prop), e = .returned (.bool b) ∧ Kept (fun k => Xs Y w W k ∨ C k) W1 W' ∧ (∀ k, C' k → (C k ∨ W1.heap.size ≤ k) ∧ k < W'.heap.size) ∧ (if b = true then J (pre ++ [x]) C' W' else Jx (pre ++ [x]) C' W')) →
    J [] (fun _ => False) W →
    CallsIn Fence.wide n Tryd.prog g (#[.func (.yield l) #[] #[]] ++ lb) W fun e W' => (∃ v, e = .returned v) ∧ ((∃ C, J L C W') ∨ ∃ pre C, pre ≠ [] ∧ pre <+: L ∧ Jx pre C W')
/-- What the rounds own counts as nothing to whom came first. -/
theorem Kept.thenC {X C : Nat → Prop} {w w' w'' : World} (h : Kept X w w') (k : Kept (fun i => X i ∨ C i) w' w'') (hC : ∀ i, C i → w.heap.size ≤ i) : Kept X w w'' :=
  ⟨h.base.trans k.base, fun i hi hx => (k.same i (Nat.lt_of_lt_of_le hi h.size) (by rintro (g | g); { exact hx g }; { have := hC i g; omega })).trans (h.same i hi hx)⟩
def postC {α : Type} (Y : Nat → Prop) (I Ix : List α → (Nat → Prop) → World → Prop) (xs : List α) (C : Nat → Prop) (W : World) : Exit → Act → World → Prop
  | .normal, _, W' => ∃ C', Kept (fun k => Y k ∨ C k) W W' ∧ (∀ k, C' k → (C k ∨ W.heap.size ≤ k) ∧ k < W'.heap.size) ∧ I xs C' W'
  | .ret, _, W' => ∃ C', Kept (fun k => Y k ∨ C k) W W' ∧ (∀ k, C' k → (C k ∨ W.heap.size ≤ k) ∧ k < W'.heap.size) ∧ Ix xs C' W'
  | _, _, _ => False
/-- The loop of the caller, whose variable lies in a block of its own, a new one each round. -/
theorem range_boxC {α : Type} {val : α → Value} {n : Nat} {g : Operand} {pt : Tmp} {assign body : Code} {Q : Exit → Act → World → Prop} {a : Act} {w : World}
    {gf : Nat} {lb : Array Value} (hg : a.eval g = .func (.func gf) #[] lb) (eg : ∀ args w, (callFunc gf args).run Tryd.prog w = .ok (.enter gf args) w)
    (Y : Nat → Prop) (hY : ∀ k, Y k → k < w.heap.size) (L : List α) (hseq : SeqC val (n - 1) gf lb Y L w)
    (I Ix : List α → (Nat → Prop) → World → Prop) (hI : LastsC w.heap.size I) (hIx : LastsC w.heap.size Ix) (h0 : I [] (fun _ => False) w) (T : TypeId) (cs : α → Array Value) (a₁ : α → Nat → Act)
    (hassign : ∀ (l : Nat) (x : α) (W : World) (K : Act → World → Prop), K (a₁ x W.heap.size) (W.alloc (.cells (cs x) T)) →
      assign.wpIn (Fence.wide.inRound l) (n - 1) Tryd.prog (Exit.then K (fun _ _ _ => False)) { tmps := (#[pt].zip #[val x]).foldl (fun t (p, v) => t.setIfInBounds p v) a.tmps, defers := [] } W)
    (hbody : ∀ (l b : Nat) (pre : List α) (x : α) (C : Nat → Prop) (W : World), I pre C W → (∀ k, C k → w.heap.size ≤ k ∧ k < W.heap.size ∧ k ≠ b) → w.heap.size ≤ b → Blk W b T (cs x) → pre ++ [x] <+: L → body.wpIn (Fence.wide.inRound l) (n - 1) Tryd.prog (postC Y I Ix (pre ++ [x]) C W) (a₁ x b) W)
    (hdone : ∀ C W, I L C W → (∀ k, C k → w.heap.size ≤ k ∧ k < W.heap.size ∧ k ≠ w.heap.size) → W.heap[w.heap.size]? = some (.deferred (some [])) → Q .normal { a with defers := { target := .collected w.heap.size, args := #[] } :: a.defers } W)
    (hstop : ∀ pre C W, pre ≠ [] → pre <+: L → Ix pre C W → (∀ k, C k → w.heap.size ≤ k ∧ k < W.heap.size ∧ k ≠ w.heap.size) → W.heap[w.heap.size]? = some (.deferred (some [])) → Code.ret.wpIn Fence.wide n Tryd.prog Q { a with defers := { target := .collected w.heap.size, args := #[] } :: a.defers } W) :
    (Code.rangeFunc g #[pt] assign body).wpIn Fence.wide n Tryd.prog Q a w := by
  refine wpIn_rangeFunc fun fn hfn => ?_
  obtain ⟨rec, hrec⟩ : ∃ rec : LoopState → Option Code → Loop, rec = fun st pe => { state := st, pending := pe, fn, tmps := a.tmps, params := #[pt], assign, body, defers := w.heap.size } := ⟨_, rfl⟩
  obtain ⟨S, hS⟩ : ∃ S, S = w.heap.size := ⟨_, rfl⟩
  obtain ⟨W1, hW1⟩ : ∃ W1, W1 = (w.alloc (.deferred (some []))).alloc (.loop (rec .ready none)) := ⟨_, rfl⟩
  have hs1 : W1.heap.size = S + 2 := by rw [hW1, hS]; simp
  have hb1 : Below w.heap.size w W1 := by rw [hW1]; exact ((Below.refl _ w).alloc (Nat.le_refl _) _).alloc (by simp) _
  have hl1 : W1.heap[S + 1]? = some (.loop (rec .ready none)) := by
    have := World.alloc_heap_new (w.alloc (.deferred (some []))) (.loop (rec .ready none)); rw [World.size_alloc] at this; rw [hW1, hS]; exact this
  have hd1 : W1.heap[S]? = some (.deferred (some [])) := by rw [hW1, hS]; exact (Below.heap_alloc _ _ _ (by simp)).trans (World.alloc_heap_new w _)
  -- what holds from round to round, and when a round has said no
  let G (st : LoopState) (pe : Option Code) (V : World) : Prop := V.heap[S + 1]? = some (.loop (rec st pe)) ∧ V.heap[S]? = some (.deferred (some []))
  have hG : ∀ {st pe} {V V' : World} {Z : Nat → Prop}, G st pe V → Kept Z V V' → ¬ Z (S + 1) → ¬ Z S → G st pe V' := fun h k z1 z0 => ⟨k.obj h.1 z1, k.obj h.2 z0⟩
  have hturn : ∀ {st pe} (st' pe') {V : World}, G st pe V → G st' pe' (V.putObj (S + 1) (.loop (rec st' pe'))) := fun st' pe' V h =>
    ⟨World.putObj_heap_same (Array.getElem?_eq_some_iff.1 h.1).1, (World.putObj_heap_other (by omega)).trans h.2⟩
  have hput : ∀ (o : Obj) (V : World) (C : Nat → Prop), (∀ k, C k → S + 2 ≤ k ∧ k < V.heap.size) → Kept (fun k => w.heap.size ≤ k ∧ ¬ C k) V (V.putObj (S + 1) o) := fun o V C hc => (Kept.putObj _ _ _).mono fun k e => ⟨by omega, fun g => by have := hc k g; omega⟩
  have hputX : ∀ (o : Obj) (V : World) (C : Nat → Prop), Kept (fun k => Xs Y w W1 k ∨ C k) V (V.putObj (S + 1) o) := fun o V C => (Kept.putObj _ _ _).mono fun k e => .inl (.inr (by omega))
  have hsz : ∀ (o : Obj) (V : World), (V.putObj (S + 1) o).heap.size = V.heap.size := fun o V => by simp
  refine ⟨S + 1, [{ target := .collected S, args := #[] }], W1, { target := .fn (.func gf) lb, args := #[.func (.yield (S + 1)) #[] #[]] }, W1, gf, #[.func (.yield (S + 1)) #[] #[]] ++ lb, W1, ?_, ?_, ?_, ?_, fun h => (by cases h), ?_⟩
  · rw [hW1, hS, hrec]; exact run_enterLoop_outer _ _ _ _ _
  · simp only [resolve, hg]; simp [go_sem]
  · exact fun _ _ => trivial
  · simp [invoke, go_sem, eg]
  refine (hseq (S + 1) (fun pre C V => I pre C V ∧ G .ready none V ∧ ∀ k, C k → S + 2 ≤ k ∧ k < V.heap.size) (fun pre C V => Ix pre C V ∧ G .done (some .ret) V ∧ ∀ k, C k → S + 2 ≤ k ∧ k < V.heap.size) W1 hb1
    (fun s C A A' h k => ⟨hI _ _ _ _ h.1 (k.mono fun i hi => ⟨by omega, hi.2⟩), hG h.2.1 k (by omega) (by omega), fun i hi => ⟨(h.2.2 i hi).1, Nat.lt_of_lt_of_le (h.2.2 i hi).2 k.size⟩⟩)
    (fun s C A A' h k => ⟨hIx _ _ _ _ h.1 (k.mono fun i hi => ⟨by omega, hi.2⟩), hG h.2.1 k (by omega) (by omega), fun i hi => ⟨(h.2.2 i hi).1, Nat.lt_of_lt_of_le (h.2.2 i hi).2 k.size⟩⟩) ?_
    ⟨hI _ _ _ _ h0 ((Kept.of_below hb1).mono fun k hk => ⟨hk, id⟩), ⟨hl1, hd1⟩, fun k hk => hk.elim⟩).mono ?_
  · rintro pre x C V ⟨hi, hgv, hcb⟩ hcw hpre
    have hy := run_yield (P := Tryd.prog) (args := #[val x]) hgv.1 (by rw [hrec]; rfl)
    rw [hrec] at hy
    refine ⟨fn, _, assign, body, hy, roundIn_of_wpIn trivial ?_⟩
    refine hassign _ x V _ ?_
    obtain ⟨V0, hV0⟩ : ∃ V0, V0 = V.alloc (.cells (cs x) T) := ⟨_, rfl⟩
    have hb0 : Blk V0 V.heap.size T (cs x) := by rw [hV0]; exact heap_alloc_new V _
    have hs0 : V0.heap.size = V.heap.size + 1 := by rw [hV0]; simp
    have hbel : Below V.heap.size V V0 := by rw [hV0]; exact (Below.refl _ _).alloc (Nat.le_refl _) _
    have hsv : S + 1 < V.heap.size := (Array.getElem?_eq_some_iff.1 hgv.1).1
    rw [← hV0]
    have hk0 : ∀ Z : Nat → Prop, Kept Z V V0 := fun Z => Kept.of_call Z hbel
    have hgv0 : G .ready none V0 := hG hgv (hk0 (fun _ => False)) id id
    have hi0 : I pre C V0 := hI _ _ _ _ hi (hk0 _)
    have hcb0 : ∀ k, C k → S + 2 ≤ k ∧ k < V0.heap.size := fun k hk => by have := hcb k hk; omega
    refine ⟨_, run_beginRound hgv0.1 (by rw [hrec]), ?_⟩
    have e0 : ({ rec .ready none with state := .busy } : Loop) = rec .busy none := by rw [hrec]
    rw [e0]
    obtain ⟨V1, hV1⟩ : ∃ V1, V1 = V0.putObj (S + 1) (.loop (rec .busy none)) := ⟨_, rfl⟩
    rw [← hV1]
    have hs1' : V1.heap.size = V.heap.size + 1 := by rw [hV1, hsz, hs0]
    have hg1 : G .busy none V1 := by rw [hV1]; exact hturn _ _ hgv0
    have hk1 : Kept (fun k => Xs Y w W1 k ∨ C k) V V1 := (hk0 _).trans (by rw [hV1]; exact hputX _ _ _)
    have hb1' : Blk V1 V.heap.size T (cs x) := by rw [hV1]; exact (World.putObj_heap_other (by omega)).trans hb0
    refine wpIn_mono (hbody (S + 1) V.heap.size pre x C V1 (by rw [hV1]; exact hI _ _ _ _ hi0 (hput _ _ _ hcb0)) (fun k hk => by have := hcb k hk; omega) (by omega) hb1' hpre) ?_
    have hsY : ∀ k, Y k → k < S := fun k hk => by have := hY k hk; omega
    rintro e a3 V3 hp
    have both : ∀ (Z : List α → (Nat → Prop) → World → Prop) (hZ : LastsC w.heap.size Z) (st' : LoopState) (pe' : Option Code) (C' : Nat → Prop), Kept (fun k => Y k ∨ C k) V1 V3 → (∀ k, C' k → (C k ∨ V1.heap.size ≤ k) ∧ k < V3.heap.size) → Z (pre ++ [x]) C' V3 →
        Kept (fun k => Xs Y w W1 k ∨ C k) V (V3.putObj (S + 1) (.loop (rec st' pe'))) ∧ (∀ k, C' k → (C k ∨ V.heap.size ≤ k) ∧ k < (V3.putObj (S + 1) (.loop (rec st' pe'))).heap.size) ∧
        (Z (pre ++ [x]) C' (V3.putObj (S + 1) (.loop (rec st' pe'))) ∧ G st' pe' (V3.putObj (S + 1) (.loop (rec st' pe'))) ∧ ∀ k, C' k → S + 2 ≤ k ∧ k < (V3.putObj (S + 1) (.loop (rec st' pe'))).heap.size) := fun Z hZ st' pe' C' hk3 hc3 hz => by
      have hg3 : G .busy none V3 := hG hg1 hk3 (by rintro (h | h); { have := hsY _ h; omega }; { have := hcb _ h; omega }) (by rintro (h | h); { have := hsY _ h; omega }; { have := hcb _ h; omega })
      have hcc : ∀ k, C' k → S + 2 ≤ k ∧ k < V3.heap.size := fun k hk => by
        obtain ⟨h | h, h2⟩ := hc3 k hk
        · have := hcb k h; omega
        · omega
      refine ⟨(hk1.trans (hk3.mono fun k hk => hk.imp .inl id)).trans (hputX _ _ _), fun k hk => ?_, hZ _ _ _ _ hz (hput _ _ _ hcc), hturn _ _ hg3, fun k hk => by rw [hsz]; exact hcc k hk⟩
      rw [hsz]
      obtain ⟨h | h, h2⟩ := hc3 k hk
      · exact ⟨.inl h, h2⟩
      · exact ⟨.inr (by omega), h2⟩
    cases e with
    | normal =>
      obtain ⟨C', hk3, hc3, hi3⟩ := hp
      obtain ⟨r1, r2, r3⟩ := both I hI .ready none C' hk3 hc3 hi3
      have hg3 : G .busy none V3 := hG hg1 hk3 (by rintro (h | h); { have := hsY _ h; omega }; { have := hcb _ h; omega }) (by rintro (h | h); { have := hsY _ h; omega }; { have := hcb _ h; omega })
      have hr := run_endRound (P := Tryd.prog) none hg3.1
      have e1 : ({ rec .busy none with state := if (none : Option Code).isNone = true then .ready else .done, pending := none } : Loop) = rec .ready none := by rw [hrec]; rfl
      rw [e1] at hr
      exact ⟨_, _, hr, true, C', rfl, r1, r2, r3⟩
    | ret =>
      obtain ⟨C', hk3, hc3, hi3⟩ := hp
      obtain ⟨r1, r2, r3⟩ := both Ix hIx .done (some .ret) C' hk3 hc3 hi3
      have hg3 : G .busy none V3 := hG hg1 hk3 (by rintro (h | h); { have := hsY _ h; omega }; { have := hcb _ h; omega }) (by rintro (h | h); { have := hsY _ h; omega }; { have := hcb _ h; omega })
      have hr := run_endRound (P := Tryd.prog) (some .ret) hg3.1
      have e1 : ({ rec .busy none with state := if (some Code.ret).isNone = true then .ready else .done, pending := some .ret } : Loop) = rec .done (some .ret) := by rw [hrec]; rfl
      rw [e1] at hr
      exact ⟨_, _, hr, false, C', rfl, r1, r2, r3⟩
    | exit id => exact hp.elim
    | goto t => exact hp.elim
    | panic ch => exact hp.elim
    | outgrown => exact hp.elim
  · rintro e V ⟨⟨v, rfl⟩, (⟨C, hi, hgv, hcb⟩ | ⟨pre, C, hne, hpre, hi, hgv, hcb⟩)⟩
    · have hr := run_endLoop (P := Tryd.prog) hgv.1 (by rw [hrec]; simp)
      rw [show (rec .ready none).pending = none by rw [hrec]] at hr
      refine ⟨none, _, hr, ?_⟩
      have hd := hgv.2
      subst hS
      exact hdone C _ (hI _ _ _ _ hi (hput _ _ _ hcb)) (fun k hk => by rw [hsz]; have := hcb k hk; omega) ((World.putObj_heap_other (by omega)).trans hd)
    · have hr := run_endLoop (P := Tryd.prog) hgv.1 (by rw [hrec]; simp)
      rw [show (rec .done (some .ret)).pending = some .ret by rw [hrec]] at hr
      refine ⟨some .ret, _, hr, ?_⟩
      have hd := hgv.2
      subst hS
      exact hstop pre C _ hne hpre (hIx _ _ _ _ hi (hput _ _ _ hcb)) (fun k hk => by rw [hsz]; have := hcb k hk; omega) ((World.putObj_heap_other (by omega)).trans hd)
end Go.Proofs.YtfdheeogpndklaaDoor
