/-
  What follows of the numbers of positions: one place changed, the number changes by what was there and what is there now.
-/
import Derived.Test.YtboopdmgphhemaaDoorHaAwake
import Derived.Test.YtboopdmgphhemaaDoorHaRefB
import Derived.Test.YtboopdmgphhemaaDoorPosEq
import Derived.IntWalk
namespace Go.Proofs.YtboopdmgphhemaaDoor
open Go.RowKit
set_option linter.unusedVariables false

/-- The values of a function up to n. -/
def tabL (f : Nat → Nat) : Nat → List Nat
  | 0 => []
  | n + 1 => tabL f n ++ [f n]
def tabX (f : Nat → Nat) (n : Nat) : Nat := xorL (tabL f n)
theorem tabX_succ (f : Nat → Nat) (n : Nat) : tabX f (n + 1) = tabX f n ^^^ f n := by unfold tabX; rw [tabL, xorL_snoc]
theorem tabX_same {f g : Nat → Nat} : ∀ {n : Nat}, (∀ i, i < n → f i = g i) → tabX f n = tabX g n
  | 0, _ => rfl
  | n + 1, h => by rw [tabX_succ, tabX_succ, tabX_same fun i hi => h i (by omega), h n (by omega)]
theorem xor_back (a b : Nat) : a ^^^ b ^^^ b = a := by rw [Nat.xor_assoc, Nat.xor_self, Nat.xor_zero]
theorem ac_left (T a b y : Nat) : T ^^^ (a ^^^ b) ^^^ y = T ^^^ y ^^^ (a ^^^ b) := by ac_rfl
theorem ac_pair (A B f g : Nat) : A ^^^ B ^^^ (f ^^^ g) = A ^^^ f ^^^ (B ^^^ g) := by ac_rfl
theorem ac_board (T y x C D : Nat) : T ^^^ (y ^^^ x) ^^^ C ^^^ D = T ^^^ C ^^^ D ^^^ y ^^^ x := by ac_rfl
theorem ac_last (T C B y x : Nat) : T ^^^ C ^^^ (B ^^^ y ^^^ x) = T ^^^ C ^^^ B ^^^ y ^^^ x := by ac_rfl
theorem ac_prom (T C B y x : Nat) : T ^^^ C ^^^ (B ^^^ y ^^^ x) = T ^^^ C ^^^ B ^^^ (y ^^^ x) := by ac_rfl
theorem ac_col0 (T C D B y x : Nat) : T ^^^ (C ^^^ (y ^^^ x) ^^^ D) ^^^ B = T ^^^ (C ^^^ D) ^^^ B ^^^ y ^^^ x := by ac_rfl
theorem ac_col1 (T C D B y x : Nat) : T ^^^ (C ^^^ (D ^^^ (y ^^^ x))) ^^^ B = T ^^^ (C ^^^ D) ^^^ B ^^^ y ^^^ x := by ac_rfl
theorem ac_r (R y x P C : Nat) : R ^^^ (y ^^^ x) ^^^ P ^^^ C = R ^^^ P ^^^ C ^^^ (y ^^^ x) := by ac_rfl
theorem ac_p (R P y x C : Nat) : R ^^^ (P ^^^ (y ^^^ x)) ^^^ C = R ^^^ P ^^^ C ^^^ (y ^^^ x) := by ac_rfl
theorem ac_c (R P y x : Nat) : R ^^^ P ^^^ x = R ^^^ P ^^^ y ^^^ (y ^^^ x) := by rw [← Nat.xor_assoc, xor_back]
theorem swap1 (t s r q x : Nat) : x ^^^ s ^^^ r ^^^ q = t ^^^ s ^^^ r ^^^ q ^^^ t ^^^ x := by
  apply Nat.eq_of_testBit_eq; intro i; simp only [Nat.testBit_xor]
  cases t.testBit i <;> cases s.testBit i <;> cases r.testBit i <;> cases q.testBit i <;> cases x.testBit i <;> rfl
theorem swap2 (t s r q x : Nat) : t ^^^ x ^^^ r ^^^ q = t ^^^ s ^^^ r ^^^ q ^^^ s ^^^ x := by
  apply Nat.eq_of_testBit_eq; intro i; simp only [Nat.testBit_xor]
  cases t.testBit i <;> cases s.testBit i <;> cases r.testBit i <;> cases q.testBit i <;> cases x.testBit i <;> rfl
theorem swap3 (t s r q x : Nat) : t ^^^ s ^^^ x ^^^ q = t ^^^ s ^^^ r ^^^ q ^^^ r ^^^ x := by
  apply Nat.eq_of_testBit_eq; intro i; simp only [Nat.testBit_xor]
  cases t.testBit i <;> cases s.testBit i <;> cases r.testBit i <;> cases q.testBit i <;> cases x.testBit i <;> rfl
theorem tabX_change {f g : Nat → Nat} {j : Nat} (h : ∀ i, i ≠ j → g i = f i) : ∀ {n : Nat}, j < n → tabX g n = tabX f n ^^^ (f j ^^^ g j)
  | 0, hj => by omega
  | n + 1, hj => by
    rw [tabX_succ, tabX_succ]
    by_cases e : n = j
    · subst e
      rw [tabX_same (f := g) (g := f) fun i hi => h i (by omega), ← Nat.xor_assoc, xor_back]
    · rw [tabX_change h (n := n) (by omega), h n e]; exact ac_left _ _ _ _
theorem tabX_xor (f g : Nat → Nat) : ∀ n, tabX (fun i => f i ^^^ g i) n = tabX f n ^^^ tabX g n
  | 0 => by show xorL [] = xorL [] ^^^ xorL []; rw [xorL_nil]; rfl
  | n + 1 => by rw [tabX_succ, tabX_succ, tabX_succ, tabX_xor]; exact ac_pair _ _ _ _

def boF (p : Nat → Int) (s : Nat) : Nat := pieceN (p (1 + s)) (s : Int)
def roF (p : Nat → Int) (c d : Nat) : Nat := rookHN (c : Int) (d : Int) (p (79 + c * 2 + d))
def poF (p : Nat → Int) (c k : Nat) : Nat := pockN (c : Int) (k : Int) (p (66 + c * 6 + k))
def coF (p : Nat → Int) (c : Nat) : Nat := tabX (roF p c) 2 ^^^ tabX (poF p c) 6 ^^^ chkHN (c : Int) (p (84 + c))
theorem boL_tab (p : Nat → Int) : ∀ n, boL p n = tabL (boF p) n
  | 0 => rfl
  | n + 1 => by unfold boL tabL; rw [boL_tab]; rfl
theorem roL_tab (p : Nat → Int) (c : Nat) : ∀ n, roL p c n = tabL (roF p c) n
  | 0 => rfl
  | n + 1 => by unfold roL tabL; rw [roL_tab]; rfl
theorem poL_tab (p : Nat → Int) (c : Nat) : ∀ n, poL p c n = tabL (poF p c) n
  | 0 => rfl
  | n + 1 => by unfold poL tabL; rw [poL_tab]; rfl
theorem coL_tab (p : Nat → Int) (c : Nat) : xorL (coL p c) = coF p c := by
  unfold coL coF tabX; rw [xorL_snoc, xorL_append, roL_tab, poL_tab]
theorem key_form (p : Nat → Int) : keyN p = tabX (boF p) 64 ^^^ (coF p 0 ^^^ coF p 1) ^^^ bgN p := by
  have e : coTo p 2 = [] ++ coL p 0 ++ coL p 1 := rfl
  unfold keyN paL
  rw [xorL_append, xorL_append, xorL_last, boL_tab, e, xorL_append, xorL_append, coL_tab, coL_tab, xorL_nil, Nat.zero_xor]
  rfl
/-- What no change of these places touches. -/
theorem boF_same {p q : Nat → Int} (h : ∀ i, 1 ≤ i → i < 65 → q i = p i) : tabX (boF q) 64 = tabX (boF p) 64 := tabX_same fun i hi => by unfold boF; rw [h (1 + i) (by omega) (by omega)]
theorem roF_same {p q : Nat → Int} (c : Nat) (hc : c < 2) (h : ∀ i, 79 ≤ i → i < 83 → q i = p i) : tabX (roF q c) 2 = tabX (roF p c) 2 := tabX_same fun i hi => by unfold roF; rw [h (79 + c * 2 + i) (by omega) (by omega)]
theorem poF_same {p q : Nat → Int} (c : Nat) (hc : c < 2) (h : ∀ i, 66 ≤ i → i < 78 → q i = p i) : tabX (poF q c) 6 = tabX (poF p c) 6 := tabX_same fun i hi => by unfold poF; rw [h (66 + c * 6 + i) (by omega) (by omega)]
theorem coF_same {p q : Nat → Int} (c : Nat) (hc : c < 2) (h1 : ∀ i, 79 ≤ i → i < 83 → q i = p i) (h2 : ∀ i, 66 ≤ i → i < 78 → q i = p i) (h3 : ∀ i, 84 ≤ i → i < 86 → q i = p i) : coF q c = coF p c := by
  unfold coF; rw [roF_same c hc h1, poF_same c hc h2, h3 (84 + c) (by omega) (by omega)]
theorem bgN_same {p q : Nat → Int} (h0 : q 0 = p 0) (h1 : q 65 = p 65) (h2 : q 78 = p 78) (h3 : q 83 = p 83) : bgN q = bgN p := by unfold bgN; rw [h0, h1, h2, h3]
theorem upd_off {p : Nat → Int} {i j : Nat} {v : Int} (h : j ≠ i) : upd p i v j = p j := upd_other p i j v h

theorem key_board (p : Nat → Int) (s : Nat) (hs : s < 64) (x : Int) : keyN (upd p (1 + s) x) = keyN p ^^^ pieceN (p (1 + s)) (s : Int) ^^^ pieceN x (s : Int) := by
  have e : tabX (boF (upd p (1 + s) x)) 64 = tabX (boF p) 64 ^^^ (boF p s ^^^ boF (upd p (1 + s) x) s) :=
    tabX_change (fun i hi => by unfold boF; rw [upd_off (by omega)]) hs
  have e2 : boF (upd p (1 + s) x) s = pieceN x (s : Int) := by unfold boF; rw [upd_same]
  rw [key_form, key_form p, e, e2, coF_same 0 (by decide) (fun i _ _ => upd_off (by omega)) (fun i _ _ => upd_off (by omega)) (fun i _ _ => upd_off (by omega)),
    coF_same 1 (by decide) (fun i _ _ => upd_off (by omega)) (fun i _ _ => upd_off (by omega)) (fun i _ _ => upd_off (by omega)), bgN_same (upd_off (by omega)) (upd_off (by omega)) (upd_off (by omega)) (upd_off (by omega))]
  exact ac_board _ _ _ _ _
theorem key_turn (p : Nat → Int) (x : Int) : keyN (upd p 78 x) = keyN p ^^^ turnN (p 78) ^^^ turnN x := by
  have e : bgN (upd p 78 x) = bgN p ^^^ turnN (p 78) ^^^ turnN x := by
    unfold bgN
    rw [upd_same, upd_off (by decide), upd_off (by decide), upd_off (by decide)]
    exact swap1 _ _ _ _ _
  rw [key_form, key_form p, e, boF_same (fun i _ _ => upd_off (by omega)), coF_same 0 (by decide) (fun i _ _ => upd_off (by omega)) (fun i _ _ => upd_off (by omega)) (fun i _ _ => upd_off (by omega)),
    coF_same 1 (by decide) (fun i _ _ => upd_off (by omega)) (fun i _ _ => upd_off (by omega)) (fun i _ _ => upd_off (by omega))]
  exact ac_last _ _ _ _ _
theorem key_pass (p : Nat → Int) (x : Int) : keyN (upd p 83 x) = keyN p ^^^ psgN (p 83) ^^^ psgN x := by
  have e : bgN (upd p 83 x) = bgN p ^^^ psgN (p 83) ^^^ psgN x := by
    unfold bgN
    rw [upd_same, upd_off (by decide), upd_off (by decide), upd_off (by decide)]
    exact swap2 _ _ _ _ _
  rw [key_form, key_form p, e, boF_same (fun i _ _ => upd_off (by omega)), coF_same 0 (by decide) (fun i _ _ => upd_off (by omega)) (fun i _ _ => upd_off (by omega)) (fun i _ _ => upd_off (by omega)),
    coF_same 1 (by decide) (fun i _ _ => upd_off (by omega)) (fun i _ _ => upd_off (by omega)) (fun i _ _ => upd_off (by omega))]
  exact ac_last _ _ _ _ _
theorem key_prom (p : Nat → Int) (x : Int) : keyN (upd p 65 x) = keyN p ^^^ (promN (p 65).toNat ^^^ promN x.toNat) := by
  have e : bgN (upd p 65 x) = bgN p ^^^ promN (p 65).toNat ^^^ promN x.toNat := by
    unfold bgN
    rw [upd_same, upd_off (by decide), upd_off (by decide), upd_off (by decide)]
    exact swap3 _ _ _ _ _
  rw [key_form, key_form p, e, boF_same (fun i _ _ => upd_off (by omega)), coF_same 0 (by decide) (fun i _ _ => upd_off (by omega)) (fun i _ _ => upd_off (by omega)) (fun i _ _ => upd_off (by omega)),
    coF_same 1 (by decide) (fun i _ _ => upd_off (by omega)) (fun i _ _ => upd_off (by omega)) (fun i _ _ => upd_off (by omega))]
  exact ac_prom _ _ _ _ _
/-- A change of what one color has. -/
theorem key_col {p q : Nat → Int} {c a b : Nat} (hc : c < 2) (h0 : ∀ i, i < 66 → q i = p i) (h1 : q 78 = p 78) (h2 : q 83 = p 83) (ho : ∀ c', c' < 2 → c' ≠ c → coF q c' = coF p c') (h : coF q c = coF p c ^^^ (a ^^^ b)) : keyN q = keyN p ^^^ a ^^^ b := by
  rw [key_form, key_form p, boF_same (fun i _ hi => h0 i (by omega)), bgN_same (h0 0 (by omega)) (h0 65 (by omega)) h1 h2]
  have : c = 0 ∨ c = 1 := by omega
  rcases this with rfl | rfl
  · rw [h, ho 1 (by decide) (by decide)]; exact ac_col0 _ _ _ _ _ _
  · rw [h, ho 0 (by decide) (by decide)]; exact ac_col1 _ _ _ _ _ _
theorem key_rook (p : Nat → Int) {c d : Nat} (hc : c < 2) (hd : d < 2) (x : Int) : keyN (upd p (79 + c * 2 + d) x) = keyN p ^^^ rookHN (c : Int) (d : Int) (p (79 + c * 2 + d)) ^^^ rookHN (c : Int) (d : Int) x := by
  refine key_col hc (fun i hi => upd_off (by omega)) (upd_off (by omega)) (upd_off (by omega)) (fun c' h1 h2 => ?_) ?_
  · unfold coF
    rw [tabX_same (f := roF (upd p (79 + c * 2 + d) x) c') (g := roF p c') (fun i hi => by unfold roF; rw [upd_off (by omega)]), poF_same c' h1 (fun i _ _ => upd_off (by omega)), upd_off (by omega)]
  · have e : tabX (roF (upd p (79 + c * 2 + d) x) c) 2 = tabX (roF p c) 2 ^^^ (roF p c d ^^^ roF (upd p (79 + c * 2 + d) x) c d) := tabX_change (fun i hi => by unfold roF; rw [upd_off (by omega)]) hd
    have e2 : roF (upd p (79 + c * 2 + d) x) c d = rookHN (c : Int) (d : Int) x := by unfold roF; rw [upd_same]
    unfold coF
    rw [e, e2, poF_same c hc (fun i _ _ => upd_off (by omega)), upd_off (by omega)]
    exact ac_r _ _ _ _ _
theorem key_pock (p : Nat → Int) {c k : Nat} (hc : c < 2) (hk : k < 6) (x : Int) : keyN (upd p (66 + c * 6 + k) x) = keyN p ^^^ pockN (c : Int) (k : Int) (p (66 + c * 6 + k)) ^^^ pockN (c : Int) (k : Int) x := by
  refine key_col hc (fun i hi => upd_off (by omega)) (upd_off (by omega)) (upd_off (by omega)) (fun c' h1 h2 => ?_) ?_
  · unfold coF
    rw [tabX_same (f := poF (upd p (66 + c * 6 + k) x) c') (g := poF p c') (fun i hi => by unfold poF; rw [upd_off (by omega)]), roF_same c' h1 (fun i _ _ => upd_off (by omega)), upd_off (by omega)]
  · have e : tabX (poF (upd p (66 + c * 6 + k) x) c) 6 = tabX (poF p c) 6 ^^^ (poF p c k ^^^ poF (upd p (66 + c * 6 + k) x) c k) := tabX_change (fun i hi => by unfold poF; rw [upd_off (by omega)]) hk
    have e2 : poF (upd p (66 + c * 6 + k) x) c k = pockN (c : Int) (k : Int) x := by unfold poF; rw [upd_same]
    unfold coF
    rw [e, e2, roF_same c hc (fun i _ _ => upd_off (by omega)), upd_off (by omega)]
    exact ac_p _ _ _ _ _
theorem key_chk (p : Nat → Int) {c : Nat} (hc : c < 2) (x : Int) : keyN (upd p (84 + c) x) = keyN p ^^^ chkHN (c : Int) (p (84 + c)) ^^^ chkHN (c : Int) x := by
  refine key_col hc (fun i hi => upd_off (by omega)) (upd_off (by omega)) (upd_off (by omega)) (fun c' h1 h2 => ?_) ?_
  · unfold coF
    rw [roF_same c' h1 (fun i _ _ => upd_off (by omega)), poF_same c' h1 (fun i _ _ => upd_off (by omega)), upd_off (by omega)]
  · unfold coF
    rw [roF_same c hc (fun i _ _ => upd_off (by omega)), poF_same c hc (fun i _ _ => upd_off (by omega)), upd_same]
    exact ac_c _ _ _ _
theorem key_rest {p q : Nat → Int} (h : ∀ i, i < 86 → q i = p i) : keyN q = keyN p := by
  rw [key_form, key_form p, boF_same (fun i _ hi => h i (by omega)), bgN_same (h 0 (by omega)) (h 65 (by omega)) (h 78 (by omega)) (h 83 (by omega)),
    coF_same 0 (by decide) (fun i _ hi => h i (by omega)) (fun i _ hi => h i (by omega)) (fun i _ hi => h i (by omega)), coF_same 1 (by decide) (fun i _ hi => h i (by omega)) (fun i _ hi => h i (by omega)) (fun i _ hi => h i (by omega))]
/-- The squares of two sets that are in one of them alone. -/
def prF (b s : Nat) : Nat := bif b.testBit s then ptN 7 (s : Int) else 0
theorem prF_yes {b s : Nat} (h : b.testBit s = true) : prF b s = ptN 7 (s : Int) := bif_t h
theorem prF_no {b s : Nat} (h : b.testBit s = false) : prF b s = 0 := bif_f h
theorem mkL_nil (b : Nat) : mkL b 0 = [] := rfl
theorem tabX_nil (f : Nat → Nat) : tabX f 0 = 0 := xorL_nil
theorem mkL_step (b n : Nat) (h : xorL (mkL b n) = tabX (prF b) n) : xorL (mkL b (n + 1)) = tabX (prF b) (n + 1) := by
  rw [tabX_succ, ← h]
  cases hb : b.testBit n
  · rw [mkL_no hb, prF_no hb, Nat.xor_zero]
  · rw [mkL_yes hb, xorL_snoc, prF_yes hb]
theorem mkL_tab (b n : Nat) : xorL (mkL b n) = tabX (prF b) n := by
  induction n with
  | zero => rw [mkL_nil, xorL_nil, tabX_nil]
  | succ n ih => exact mkL_step b n ih
theorem bif_xor (u v : Bool) (x : Nat) : (bif (u ^^ v) then x else 0) = (bif u then x else 0) ^^^ (bif v then x else 0) := by
  cases u <;> cases v <;> simp
theorem prF_xor (a b s : Nat) : prF (a ^^^ b) s = prF a s ^^^ prF b s := by
  unfold prF
  rw [Nat.testBit_xor]
  exact bif_xor _ _ _
theorem promN_xor (a b : Nat) : promN (a ^^^ b) = promN a ^^^ promN b := by
  have e : ∀ n, promN n = tabX (prF n) 64 := fun n => mkL_tab n 64
  rw [e, e, e, ← tabX_xor]
  exact tabX_same fun i _ => prF_xor a b i
theorem WfP.set {p : Nat → Int} (h : WfP p) {i : Nat} {x : Int} (hx : (Lit.int (kAt i) x).wf = true) : WfP (upd p i x) := fun j hj => by
  by_cases e : j = i
  · subst e; rw [upd_same]; exact hx
  · rw [upd_off e]; exact h j hj
theorem sizeI64a : (Tryd.prog.info? 3).map (·.size) = some 1 := by kernel_rfl
/-! Numbers of the laws' own, cut to their ranges. -/
theorem sqOf (a : Int) : ∃ n : Nat, n < 64 ∧ wrap64 ((IntKind.u64.wrap a).tmod 64) = (n : Int) := by
  have h0 : 0 ≤ IntKind.u64.wrap a := by rw [IntKind.wrap_u64]; omega
  refine ⟨(IntKind.u64.wrap a % 64).toNat, by omega, ?_⟩
  rw [Int.tmod_eq_emod_of_nonneg h0, IntWalk.wrap64_in _ ⟨by omega, by omega⟩]
  omega
theorem sdOf (a : Int) : ∃ n : Nat, n < 2 ∧ wrap64 ((IntKind.u64.wrap a).tmod 2) = (n : Int) := by
  have h0 : 0 ≤ IntKind.u64.wrap a := by rw [IntKind.wrap_u64]; omega
  refine ⟨(IntKind.u64.wrap a % 2).toNat, by omega, ?_⟩
  rw [Int.tmod_eq_emod_of_nonneg h0, IntWalk.wrap64_in _ ⟨by omega, by omega⟩]
  omega
theorem pushed_ne {b c : Nat} {w w' : World} {p : Nat → Int} (N : New b w w') (h : Row w c p) : c ≠ b := by have := h.lt; have := N.at_; omega
theorem pushed_row {b c : Nat} {w w' : World} {p : Nat → Int} (N : New b w w') (h : Row w c p) : Row w' c p := h.next N.below h.lt
theorem Row.kept {w w' : World} {b : Nat} {p : Nat → Int} {X : Nat → Prop} (h : Row w b p) (k : Kept X w w') (hx : ¬ X b) : Row w' b p := (k.same b h.lt hx).trans h
/-- A place of a position is stored. -/
theorem run_cell {o : Oper} {a : Act} {w : World} (ty : TypeId) (x y : Operand) (ho : o.op = .store ty x y) (b i : Nat) (hx : a.eval x = .pointer (some ⟨b, i, none⟩)) (k : IntKind) (v : Int) (hy : a.eval y = .int k v)
    (p : Nat → Int) (hr : Row w b p) (hi : i < 88) (hk : kAt i = k) (hs : (Tryd.prog.info? ty).map (·.size) = some 1) : (execOp a.eval o).run Tryd.prog w = .ok .skip (w.setCell ⟨b, i, none⟩ (.int k v)) := by
  subst hk
  have hrun : (storeVar ty ⟨b, i, none⟩ (.int (kAt i) v)).run Tryd.prog w = .ok () (w.setCell ⟨b, i, none⟩ (.int (kAt i) v)) :=
    run_storeVar_mid w b i ty #[.int (kAt i) v] (hr.there i 1 (by omega)) hs (by simp [Value.oneCell'])
  unfold execOp
  simp only [ho, hx, hy, Instr.storeAt, Instr.sureAddr, Sem.run_bind, Sem.run_pure, Result.andThen_ok, hrun]
theorem late_cellP {o : Oper} {a : Act} {w : World} {K : Act → World → Prop} {Q : Exit → Act → World → Prop} (ty : TypeId) (x y : Operand) (ho : o.op = .store ty x y) (b i : Nat) (hx : a.eval x = .pointer (some ⟨b, i, none⟩)) (k : IntKind) (v : Int) (hy : a.eval y = .int k v)
    (p : Nat → Int) (hr : Row w b p) (hi : i < 88) (hk : kAt i = k) (hs : (Tryd.prog.info? ty).map (·.size) = some 1) (h : ∀ w', Upd b w w' → Row w' b (upd p i v) → K (a.put o.dst undef) w') : Wp Tryd.prog o a w K Q := ⟨by
  unfold Oper.wp
  rw [run_cell ty x y ho b i hx k v hy p hr hi hk hs]
  subst hk
  exact h _ (Upd.setCell w b i _) (hr.set i v hi)⟩
theorem mid_cellP {o : Oper} {a : Act} {w : World} {n : Nat} {K : Act → World → Prop} {Q : Exit → Act → World → Prop} (ty : TypeId) (x y : Operand) (ho : o.op = .store ty x y) (b i : Nat) (hx : a.eval x = .pointer (some ⟨b, i, none⟩)) (k : IntKind) (v : Int) (hy : a.eval y = .int k v)
    (p : Nat → Int) (hr : Row w b p) (hi : i < 88) (hk : kAt i = k) (hs : (Tryd.prog.info? ty).map (·.size) = some 1) (h : ∀ w', Upd b w w' → Kept (· = b) w w' → Row w' b (upd p i v) → K (a.put o.dst undef) w') : Wid.WpR n Tryd.prog o a w K Q := ⟨by
  rw [run_cell ty x y ho b i hx k v hy p hr hi hk hs]
  subst hk
  exact h _ (Upd.setCell w b i _) (Kept.setCell _ _ _ _) (hr.set i v hi)⟩
end Go.Proofs.YtboopdmgphhemaaDoor
