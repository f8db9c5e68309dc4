/-
  Positions that are the same but for their rights; what is left of a list.
-/
import Derived.Test.YtmlmilmfnioheaaDoorCsJ
import Derived.Test.YtmlmilmfnioheaaDoorRoundW
namespace Go.Proofs.YtmlmilmfnioheaaDoor
open Go.RowKit Go.Shelf
set_option linter.unusedVariables false
set_option linter.unusedSimpArgs false
attribute [local go_sem] Oper.semAt_some

/-- The same but for rights, passing, checks and clocks. -/
def Agr (p q : Nat → Int) : Prop := ∀ i, i < 79 → q i = p i
theorem Agr.ofN {p q : Nat → Int} (h : Agr p q) (c k : Int) : ofN q c k = ofN p c k := by
  apply eq_of_bits (ofN_lt _ _ _) (ofN_lt _ _ _)
  intro i hi
  rw [ofN_testBit _ _ _ _ hi, ofN_testBit _ _ _ _ hi, h _ (by omega)]
theorem Agr.occ {p q : Nat → Int} (h : Agr p q) : occN q = occN p := by
  unfold occN
  apply eq_of_bits (setN_lt _ _) (setN_lt _ _)
  intro i hi
  rw [setN_testBit _ _ i hi, setN_testBit _ _ i hi, h _ (by omega)]
theorem Agr.at {p q : Nat → Int} (h : Agr p q) (s : Int) : atZ q s = atZ p s := by
  unfold atZ
  by_cases g : sq s = true
  · obtain ⟨n, hn, rfl⟩ := nat_of_sq g
    rw [Int.toNat_natCast, h _ (by omega)]
  · rw [if_neg g, if_neg g]
theorem Agr.by {p q : Nat → Int} (h : Agr p q) (s c : Int) : byN q s c = byN p s c := by
  apply eq_of_bits (byN_lt _ _ _) (byN_lt _ _ _)
  intro i hi
  rw [byN_testBit _ _ _ _ hi, byN_testBit _ _ _ _ hi, h.occ, h _ (by omega)]
  unfold kdN
  rw [h _ (by omega)]
theorem Agr.bd {p q : Nat → Int} (h : Agr p q) (s : Int) : bdC q s = bdC p s := by
  unfold bdC anyB shelB
  rw [h 78 (by omega), h 0 (by omega), h.by, h.ofN]
theorem Agr.free {p q : Nat → Int} (h : Agr p q) (a b : Int) : freeC q a b = freeC p a b := by
  unfold freeC
  congr 1; funext s; rw [h.at]
theorem Agr.safe {p q : Nat → Int} (h : Agr p q) (a b : Int) : safeC q a b = safeC p a b := by
  unfold safeC
  congr 1; funext s; rw [h.bd]
theorem Agr.put {p q : Nat → Int} (h : Agr p q) (s x : Int) : Agr (putP p s x) (putP q s x) := fun i hi => by
  unfold putP
  cases putB s x
  · exact h i hi
  · show upd q _ x i = upd p _ x i
    unfold upd
    split
    · rfl
    · exact h i hi
theorem Agr.bare {p q : Nat → Int} (h : Agr p q) (a b : Int) : Agr (bareC p a b) (bareC q a b) := (h.put a 0).put b 0
theorem Agr.may {p q : Nat → Int} (h : Agr p q) (m : Mv) : mayC q m = mayC p m := by
  unfold mayC
  rw [h 78 (by omega), (h.bare _ _).free, (h.bare _ _).free, (h.bare _ _).safe]
theorem Agr.king {p q : Nat → Int} (h : Agr p q) (c : Int) : kingZ q c = kingZ p c := by unfold kingZ; rw [h.ofN]
theorem Agr.one {p q : Nat → Int} (h : Agr p q) {n : Nat} (hf : flC q n = flC p n) : oneC q n = oneC p n := by
  have hm : mvC q n = mvC p n := by unfold mvC; rw [h 78 (by omega), h.king, hf]
  unfold oneC inC namC flB
  rw [hm, h.may, hf, h 78 (by omega), h.ofN]
theorem Agr.th {p q : Nat → Int} (h : Agr p q) : thC q = thC p := by unfold thC; rw [h 78 (by omega), h 0 (by omega)]
theorem one_no {p : Nat → Int} {n : Nat} (h : flC p n = -1) : oneC p n = [] := by
  have : namC p n = false := by unfold namC flB; rw [h]; rfl
  unfold oneC inC; rw [this]; rfl
theorem agr_upd {p : Nat → Int} {i : Nat} {v : Int} (h : 79 ≤ i) : Agr p (upd p i v) := fun j hj => upd_other _ _ _ _ (by omega)
theorem Agr.trans {p q r : Nat → Int} (h : Agr p q) (k : Agr q r) : Agr p r := fun i hi => (k i hi).trans (h i hi)
theorem one_sd {p : Nat → Int} (ht : 0 ≤ p 78) {n : Nat} (h1 : p 78 ≤ 1) {m : Mv} (h : m ∈ oneC p n) : sdC (p 78) m = (n : Int) := by
  unfold oneC at h
  cases g : inC p n
  · rw [g] at h; cases h
  · rw [g, cond_true, List.mem_singleton] at h
    subst h
    unfold inC at g
    rw [Bool.and_eq_true] at g
    exact (fit_mvC (c := (p 78).toNat) (by omega) g.1).2
def notK (p : Nat → Int) (k : Nat) (m : Mv) : Bool := !(sdC (p 78) m == (k : Int))
theorem filt_all {α : Type} {f : α → Bool} {l : List α} (h : ∀ x ∈ l, f x = true) : l.filter f = l := List.filter_eq_self.2 h
theorem filt_none {α : Type} {f : α → Bool} {l : List α} (h : ∀ x ∈ l, f x = false) : l.filter f = [] := List.filter_eq_nil_iff.2 fun x hx => by rw [h x hx]; decide
/-- Without the right to side k. -/
theorem cam_less {p q : Nat → Int} (ht : 0 ≤ p 78) {k : Nat} (hk : k < 2) (h : Agr p q) (h1 : flC q k = -1) (h2 : flC q (1 - k) = flC p (1 - k)) : camL q = (camL p).filter (notK p k) := by
  unfold camL
  rw [h.th]
  cases g : thC p
  · rfl
  · have h78 : p 78 ≤ 1 := by unfold thC at g; rw [Bool.and_eq_true, decide_eq_true_eq] at g; exact g.1
    rw [cond_true, cond_true, List.filter_append]
    have hy : ∀ n, n ≠ k → (oneC p n).filter (notK p k) = oneC p n := fun n hn => filt_all fun x hx => by
      unfold notK; rw [one_sd ht h78 hx, beq_eq_false_iff_ne.2 (by omega)]; rfl
    have hz : (oneC p k).filter (notK p k) = [] := filt_none fun x hx => by
      unfold notK; rw [one_sd ht h78 hx, beq_self_eq_true]; rfl
    rcases (by omega : k = 0 ∨ k = 1) with rfl | rfl
    · rw [hy 1 (by decide), hz, one_no h1, h.one h2]
    · rw [hy 0 (by decide), hz, one_no h1, h.one h2]
theorem cam_none {p q : Nat → Int} (h : Agr p q) (h1 : flC q 0 = -1) (h2 : flC q 1 = -1) : camL q = [] := by
  unfold camL
  rw [one_no h1, one_no h2]; cases thC q <;> rfl
theorem fl_len {α : Type} (f : α → Bool) (L : List α) (i : Nat) : ((L.take i).filter f).length ≤ (L.filter f).length := by
  have : (L.take i).filter f <+: L.filter f := (List.take_prefix i L).filter f
  exact this.length_le
theorem fl_no {α : Type} {f : α → Bool} {L : List α} {i : Nat} {x : α} (h : L[i]? = some x) (hx : f x = false) : (L.take (i + 1)).filter f = (L.take i).filter f := by
  rw [List.take_add_one, h, List.filter_append]; simp [hx]
theorem fl_yes {α : Type} {f : α → Bool} {L : List α} {i : Nat} {x : α} (h : L[i]? = some x) (hx : f x = true) : (L.take (i + 1)).filter f = (L.take i).filter f ++ [x] := by
  rw [List.take_add_one, h, List.filter_append]; simp [hx]
theorem fl_at {α : Type} {f : α → Bool} {L : List α} {i : Nat} {x : α} (h : L[i]? = some x) (hx : f x = true) : (L.filter f)[((L.take i).filter f).length]? = some x := by
  have hp : (L.take (i + 1)).filter f <+: L.filter f := (List.take_prefix (i + 1) L).filter f
  rw [fl_yes h hx] at hp
  obtain ⟨t, ht⟩ := hp
  rw [← ht, List.append_assoc, List.getElem?_append_right (Nat.le_refl _)]; simp
theorem mm_part {c : Nat} (hc : c < 2) : (#[.int .i8 (-1), .int .i8 (-1)] : Array Value) = (partL (fun _ => -1) (79 + c * 2) 2).toArray := by
  rcases (by omega : c = 0 ∨ c = 1) with rfl | rfl <;> rfl
theorem size27c : (Tryd.prog.info? 27).map (·.size) = some 2 := by kernel_rfl
theorem size26c : (Tryd.prog.info? 26).map (·.size) = some 1 := by kernel_rfl
theorem CsR.agr {p q : Nat → Int} (h : CsR p) (ha : Agr p q) (hr : ∀ i, i < 4 → -128 ≤ q (79 + i) ∧ q (79 + i) ≤ 127) : CsR q :=
  ⟨⟨fun i hi => by rw [ha _ (by omega)]; exact h.at_.bd i hi, by rw [ha _ (by omega)]; exact h.at_.var, by rw [ha _ (by omega)]; exact h.at_.turn⟩, hr⟩
theorem fl_eq {p : Nat → Int} {c : Nat} (hc : p 78 = (c : Int)) (n : Nat) : flC p n = p (79 + c * 2 + n) := by unfold flC; rw [hc, Int.toNat_natCast]
theorem run_posS {o : Oper} {a : Act} {w : World} (x : Operand) (ho : o.op = .load 31 x) (b : Nat) (hx : a.eval x = .pointer (some ⟨b, 0, none⟩)) (p : Nat → Int) (hr : Row w b p) : (execOp a.eval o).run Tryd.prog w = .ok (.value (.agg (posA p))) w := run_load x ho b hx p hr
section
variable {X : Nat → Prop} {n : Nat} {P : Program} {ops : Array Oper} {Q : Exit → Act → World → Prop} {md : Region.Mode}
/-- Whatever of these comes first. -/
theorem mid_some (rs : List Nat) {k : Nat} {listed : Array Bool} {a : Act} {w : World} (hd : Wid.noDefer ops = true) (hr : Region.ready md ops listed = rs) (hne : rs ≠ []) (hz : rs.all (fun i => (ops[i]?).isSome) = true)
    (h : ∀ i, i ∈ rs → ∀ o : Oper, ops[i]? = some o → Region.wanted o (yielded ops a.tmps) = true ∧ ∀ w', Below w.heap.size w w' → ∀ K : Act → World → Prop, Shut (∀ a2 w2, Kept X w' w2 → Wid.Mid X n P md ops Q k (listed.setIfInBounds i true) a2 w2 → K a2 w2) → Wid.WpR n P o a w' K Q) : Wid.Mid X n P md ops Q (k + 1) listed a w := fun w' hw' =>
  ⟨fun h0 => (by rw [hr] at h0; exact absurd h0 hne), fun j hj => by
    rw [hr] at hj
    obtain ⟨o, ho⟩ := Option.isSome_iff_exists.1 (List.all_eq_true.1 hz j hj)
    obtain ⟨hw, h⟩ := h j hj o ho
    unfold wpOpIn
    rw [ho]
    simp only [hw, if_true]
    exact Wid.opIn_of (Wid.noDefer_spec hd _ _ · ho) (h w' hw' _ fun a2 w2 hl hk => ⟨hl, hk⟩).out⟩
end
theorem run_allocP {o : Oper} {a : Act} {w : World} (ho : o.op = .alloc 31) : (execOp a.eval o).run Tryd.prog w = .ok (.value (.pointer (some ⟨w.heap.size, 0, none⟩))) (w.alloc (.cells (posA zeroP) 31)) := by
  have hz : ∀ w, (zeroValue 31).run Tryd.prog w = .ok (.agg (posA zeroP)) w := fun w => by
    cases hq : Tryd.prog.info? 31 with
    | none => have := info31; simp [hq] at this
    | some i => have := info31; simp [hq] at this; simp [zeroValue, typeInfo, hq, this.1]
  unfold execOp
  simp only [ho, Instr.alloc, Sem.run_bind, Sem.run_pure, Result.andThen_ok, hz]
  rfl
theorem mid_allocP {o : Oper} {a : Act} {w : World} {n : Nat} {K : Act → World → Prop} {Q : Exit → Act → World → Prop} (ho : o.op = .alloc 31) (h : ∀ b w', New b w w' → Row w' b zeroP → K (a.put o.dst (.pointer (some ⟨b, 0, none⟩))) w') : Wid.WpR n Tryd.prog o a w K Q := ⟨by
  rw [run_allocP ho]
  exact h _ _ (New.alloc w _) (heap_alloc_new w (.cells (posA zeroP) 31))⟩
theorem mid_storeP {o : Oper} {a : Act} {w : World} {n : Nat} {K : Act → World → Prop} {Q : Exit → Act → World → Prop} (x y : Operand) (ho : o.op = .store 31 x y) (b : Nat) (hx : a.eval x = .pointer (some ⟨b, 0, none⟩)) (p q : Nat → Int) (hy : a.eval y = .agg (posA q)) (hr : Row w b p)
    (h : ∀ w', Upd b w w' → Row w' b q → K (a.put o.dst undef) w') : Wid.WpR n Tryd.prog o a w K Q := ⟨by
  have hrun := run_storeVar_mid (P := Tryd.prog) w b 0 31 (posA q) (by rw [posA_size]; exact hr.there 0 88 (by omega)) (by rw [posA_size]; exact size31) (posA_one q)
  have hk := h _ (Upd.setCells _ _ _ _) hr.whole
  unfold execOp
  simp only [ho, hx, hy, Instr.storeAt, Instr.sureAddr, Sem.run_bind, Sem.run_pure, Result.andThen_ok, hrun]
  exact hk⟩
theorem kept_upd {b B : Nat} {w w' : World} (h : Upd b w w') (hb : B ≤ b) : Kept (B ≤ ·) w w' := Kept.of_below (h.below hb)
end Go.Proofs.YtmlmilmfnioheaaDoor
