/-
  XLater's first move for a last operation that waits for others by way of others.
-/
import Derived.Test.YtjbfjohgfbipgaaGreatDoorFnBaseC
namespace Go.Proofs.YtjbfjohgfbipgaaGreatDoor
open Go.RowKit
set_option linter.unusedVariables false
section
variable {L : Nat} {P : Program} {ops : Array Oper} {Q : Exit → Act → World → Prop} {md : Region.Mode}
/-- Each of D waits for number i, or for another one of D. -/
def stuckD (md : Region.Mode) (ops : Array Oper) (i : Nat) (D : List Nat) : Bool := D.all fun k => match ops[k]? with
  | none => false
  | some o => o.after.any fun e => Region.binds md e && (e.on == i || D.contains e.on)
theorem stuckD_spec {i k : Nat} {D : List Nat} {listed : Array Bool} (h : stuckD md ops i D = true) (hk : k ∈ D) (hi : i ∈ Region.ready md ops listed) (hD : ∀ k ∈ D, listed.getD k true = false) : k ∉ Region.ready md ops listed := fun hr => by
  obtain ⟨_, o, ho, hall⟩ := mem_ready.1 hr
  unfold stuckD at h
  have h := List.all_eq_true.1 h k hk
  rw [ho] at h
  simp only [Array.any_eq_true', Bool.and_eq_true, Bool.or_eq_true, beq_iff_eq, List.contains_iff_mem] at h
  obtain ⟨e, he, hb, h⟩ := h
  have h1 := hall e he hb
  have h2 : listed.getD e.on true = false := by
    rcases h with rfl | h
    · exact (mem_ready.1 hi).1
    · exact hD _ h
  rcases Nat.lt_or_ge e.on listed.size with hl | hl
  · simp [hl] at h1 h2; rw [h2] at h1; cases h1
  · simp [Array.getElem?_eq_none hl] at h1
theorem wpLate_firstD {i : Nat} {oi : Oper} {v : Value} (hi : ops[i]? = some oi) (D : List Nat) (hst : stuckD md ops i D = true) (hLD : L ∈ D) (hsel : ∀ (j : Nat) (o : Oper) cs b, ops[j]? = some o → o.op ≠ .select cs b)
    (hQ : ∀ c a w, Q (.panic c) (a.put oi.dst v) w → Q (.panic c) a w) :
    ∀ (n : Nat) (listed : Array Bool) (a : Act) (w : World),
      (∀ k ∈ D, listed.getD k true = false) → i ≠ L → (∀ j oj, ops[j]? = some oj → j ≠ i → listed.getD j true = false → (∀ e ∈ oj.after, Region.binds md e = true → e.on ≠ i) → oi.apart ops oj = true) →
      i ∈ Region.ready md ops listed → LateIs P ops oi v a w →
      (∀ w', Later w w' → wpLate L P md ops Q n (listed.setIfInBounds i true) (a.put oi.dst v) w') → wpLate L P md ops Q (n + 1) listed a w := by
  intro n
  induction n with
  | zero =>
    intro listed a w hD hiL _ hr hy H
    refine ⟨fun h => absurd hr (by rw [h]; simp), fun j hj => ?_⟩
    by_cases e : j = i
    · subst e; refine hy.wpOp hi fun w' hw' => ?_; rw [if_neg hiL]; exact ⟨hw', fun w'' hw'' => H w'' (hw'.trans hw'')⟩
    · have := ready_mono hj e
      rw [(H w (Later.refl w)).1] at this
      cases this
  | succ n ih =>
    intro listed a w hD hiL hfree hr hy H
    refine ⟨fun h => absurd hr (by rw [h]; simp), fun j hj => ?_⟩
    by_cases e : j = i
    · subst e; refine hy.wpOp hi fun w' hw' => ?_; rw [if_neg hiL]; exact ⟨hw', fun w'' hw'' => H w'' (hw'.trans hw'')⟩
    · have h1 := (H w (Later.refl w)).2 j (ready_mono hj e)
      obtain ⟨hun, oj, hoj, hall⟩ := mem_ready.1 hj
      have hno : ∀ x ∈ oj.after, Region.binds md x = true → x.on ≠ i := fun x hx hb he => by
        have h3 := hall x hx hb
        have h4 := (mem_ready.1 hr).1
        rw [he] at h3
        rcases Nat.lt_or_ge i listed.size with hl | hl
        · simp [hl] at h3 h4; rw [h4] at h3; cases h3
        · simp [Array.getElem?_eq_none hl] at h3
      have hjD : j ∉ D := fun hjd => stuckD_spec hst hjd hr hD hj
      have hjL : j ≠ L := fun hjl => hjD (hjl ▸ hLD)
      have hap := hfree j oj hoj e hun hno
      obtain ⟨_, _, hd⟩ := Oper.apart_spec hap
      have hk := wpOp_behind (G := fun a' => execOp a'.eval oi = execOp a.eval oi ∧ Region.wanted oi (yielded ops a'.tmps) = Region.wanted oi (yielded ops a.tmps)) hoj hap (fun cs b => hsel j oj cs b hoj) hQ
        (fun a' u hg => ⟨(execOp_put oi (fun cs b => hsel i oi cs b hi) a' oj.dst u hd).trans hg.1, (wanted_put oi a' oj.dst u hd).trans hg.2⟩) (fun a' d hg => hg) ⟨rfl, rfl⟩ h1
      refine wpOp_mono (fun a' w' hg => ?_) hk
      rw [if_neg hjL] at hg ⊢
      refine ⟨hg.2.1, fun w'' hw'' => ?_⟩
      refine ih (listed.setIfInBounds j true) a' w'' (fun k hk => (getD_set_ne true (fun (e : j = k) => hjD (by rw [e]; exact hk))).trans (hD k hk)) hiL (fun k ok hok hki hkun hkno => hfree k ok hok hki ?_ hkno) (ready_mono hr (Ne.symm e)) ((hy.same hg.1.1 hg.1.2).later (hg.2.1.trans hw'')) ?_
      · by_cases hjk : j = k
        · subst hjk; exact hun
        · rwa [getD_set_ne true hjk] at hkun
      · intro w3 hw3
        rw [Array.setIfInBounds_comm _ _ e]
        exact hg.2.2 w3 (hw''.trans hw3)

theorem late_takeD (i : Nat) (D : List Nat) {n : Nat} {listed : Array Bool} {a : Act} {w : World} (hst : (stuckD md ops i D && D.contains L && i != L && D.all fun k => listed.getD k true == false) = true) (hs : Region.noSelect ops = true) (hf : Region.free md ops listed i = true) (hr : (Region.ready md ops listed).contains i = true) (hz : (ops[i]?).isSome = true)
    (hQ : ∀ c a d v w, Q (.panic c) (Act.put a d v) w → Q (.panic c) a w)
    (h : ∀ o : Oper, ops[i]? = some o → ∃ v, LateIs P ops o v a w ∧ Late L P md ops Q n (listed.setIfInBounds i true) (a.put o.dst v) w) : Late L P md ops Q (n + 1) listed a w := by
  obtain ⟨o, ho⟩ := Option.isSome_iff_exists.1 hz
  obtain ⟨v, hy, h⟩ := h o ho
  simp only [Bool.and_eq_true, List.contains_iff_mem, bne_iff_ne, List.all_eq_true, beq_iff_eq] at hst
  obtain ⟨⟨⟨h1, h2⟩, h3⟩, h4⟩ := hst
  exact fun w' hw' => wpLate_firstD ho D h1 h2 (Region.noSelect_spec hs) (fun c a w => hQ c a o.dst v w) n listed a w' h4 h3 (Region.free_spec ho hf) (by simpa using hr) (hy.later hw') (fun w2 hw2 => h w2 (hw'.trans hw2))
end
end Go.Proofs.YtjbfjohgfbipgaaGreatDoor
