/-
  Contracts of the reading of a text: the closure that catches what is thrown (its two ways), and read (layer 10).
-/
import Derived.Test.YtjbfjohgfbipgaaGreatDoorRdOrder
import Derived.Defers
import Derived.Recover
import Derived.Laws.Pointers
namespace Go.Proofs.YtjbfjohgfbipgaaGreatDoor
open Go.RowKit
set_option linter.unusedVariables false
set_option linter.unusedSimpArgs false

section
variable {ops : Array Oper} {rest : List Oper} {op : Oper} {a : Act} {w : World} {Q : Exit → Act → World → Prop}
/-- A variable of one cell. -/
theorem blk_alloc1 (hw : Region.wanted op (yielded ops a.tmps) = true) (T : TypeId) (ho : op.op = .alloc T) (K : IntKind) (v : Int) (hz : (Tryz.prog.info? T).map (fun i => i.zero) = some (some (.int K v)))
    (h : ∀ b w', New b w w' → Blk w' b T #[.int K v] → wpList Tryz.prog ops Q rest (a.put op.dst (.pointer (some ⟨b, 0, none⟩))) w') : wpList Tryz.prog ops Q (op :: rest) a w :=
  wpList_want hw fun K' hK => by
    have hk := hK _ _ (h _ _ (New.alloc w _) (heap_alloc_new w (.cells #[.int K v] T)))
    have hzr : ∀ w, (zeroValue T).run Tryz.prog w = .ok (.int K v) w := fun w => by
      cases hq : Tryz.prog.info? T with
      | none => simp [hq] at hz
      | some i => simp [hq] at hz; simp [zeroValue, typeInfo, hq, hz]
    unfold Oper.wp execOp
    simp only [ho, Instr.alloc, Sem.run_bind, Sem.run_pure, Result.andThen_ok, hzr]
    exact hk
theorem infoFun : (Tryz.prog.info? 1).map (fun i => (i.zero, i.size)) = some (some .nilFunc, 1) := by kernel_rfl
theorem fill7 (a b c d e f g : Value) (ha : a.cells = #[a]) (hb : b.cells = #[b]) (hc : c.cells = #[c]) (hd : d.cells = #[d]) (he : e.cells = #[e]) (hf : f.cells = #[f]) (hg : g.cells = #[g]) : Instr.fill (fun i => some (i * 1, 1)) ((Array.range (7 * 1)).map ((Value.nilFunc).cells[· % (Value.nilFunc).cells.size]!)) [(0, a), (1, b), (2, c), (3, d), (4, e), (5, f), (6, g)] = some #[a, b, c, d, e, f, g] := by
  have h0 : (Array.map (fun x => Value.nilFunc.cells[x % Value.nilFunc.cells.size]!) (Array.range 7)) = #[.nilFunc, .nilFunc, .nilFunc, .nilFunc, .nilFunc, .nilFunc, .nilFunc] := by kernel_rfl
  simp [Instr.fill, ha, hb, hc, hd, he, hf, hg, h0]
/-- A slice of functions, made of seven. -/
theorem step_funs (hw : Region.wanted op (yielded ops a.tmps) = true) (parts : Array (Nat × Operand)) (ho : op.op = .buildSlice 96 7 parts) (cs : Array Value)
    (ps : List (Nat × Value)) (hps : (parts.map fun (i, x) => (i, a.eval x)).toList = ps) (hp : Instr.fill (fun i => some (i * 1, 1)) ((Array.range (7 * 1)).map ((Value.nilFunc).cells[· % (Value.nilFunc).cells.size]!)) ps = some cs)
    (h : ∀ b w', New b w w' → Blk w' b 1 cs → wpList Tryz.prog ops Q rest (a.put op.dst (.slice (some ⟨b, 0, none⟩) 7 7)) w') : wpList Tryz.prog ops Q (op :: rest) a w :=
  wpList_want hw fun K hK => by
    have hk := hK _ _ (h _ _ (New.alloc w _) (heap_alloc_new w (.cells cs 1)))
    cases hq : Tryz.prog.info? 1 with
    | none => have := infoFun; simp [hq] at this
    | some i =>
      have hi := infoFun
      simp only [hq, Option.map_some, Option.some.injEq, Prod.mk.injEq] at hi
      refine wp_buildSlice 96 1 7 parts ho cs i .nilFunc Tryz.underlying96 hq hi.1 (by rw [hi.2]; omega) (by rw [hi.2]; omega) ?_ hk
      rw [hi.2, hps]
      exact hp
end
theorem results_cp {fn : Func} {i j : Tmp} (h : fn.results = #[.cell i 31, .tmp j]) (tmps : Array Value) (w : World) (b : Nat) (p : Nat → Int) (x : Value) (hp : tmps.getD i undef = .pointer (some ⟨b, 0, none⟩)) (hx : tmps.getD j undef = x) (hr : Row w b p) :
    (results fn tmps).run Tryz.prog w = .ok (.tuple #[.agg (posA p), x]) w := by
  have hl := run_loadVar_row w b 31 31 (posA p) (0, 0) _ hr Tryz.underlying31 rfl (by rw [posA_size]; exact size31)
  have hp' : tmps[i]?.getD undef = .pointer (some ⟨b, 0, none⟩) := by simpa using hp
  have hx' : tmps[j]?.getD undef = x := by simpa using hx
  simp [results, h, hp', hx', asAddr, hl]
theorem results_cc {fn : Func} {i j : Tmp} (h : fn.results = #[.cell i 31, .cell j 43]) (tmps : Array Value) (w : World) (b c : Nat) (p : Nat → Int) (x : Int) (hp : tmps.getD i undef = .pointer (some ⟨b, 0, none⟩)) (hx : tmps.getD j undef = .pointer (some ⟨c, 0, none⟩)) (hr : Row w b p)
    (hc : Blk w c 43 #[.int .i64 x]) : (results fn tmps).run Tryz.prog w = .ok (.tuple #[.agg (posA p), .int .i64 x]) w := by
  have hl := run_loadVar_row w b 31 31 (posA p) (0, 0) _ hr Tryz.underlying31 rfl (by rw [posA_size]; exact size31)
  have hp' : tmps[i]?.getD undef = .pointer (some ⟨b, 0, none⟩) := by simpa using hp
  have hx' : tmps[j]?.getD undef = .pointer (some ⟨c, 0, none⟩) := by simpa using hx
  have hcell : w.cell? ⟨c, 0, none⟩ = some (.int .i64 x) := by rw [Blk.cell hc]; rfl
  have hl2 : (loadVar 43 ⟨c, 0, none⟩).run Tryz.prog w = .ok (.int .i64 x) w := by
    simp [go_sem, hcell]
  simp [results, h, hp', hx', asAddr, hl, hl2]
/-- What is thrown is caught: the position is empty, the answer is 5. -/
theorem catch_pan (b c : Nat) (p : Nat → Int) (x : Int) (u : TypeId) (pv : Value) (w : World) (hr : Row w b p) (hc : Blk w c 43 #[.int .i64 x]) (hne : b ≠ c) :
    CallsD Tryz.prog 51 #[.pointer (some ⟨b, 0, none⟩), .pointer (some ⟨c, 0, none⟩)] (.panicking [{ v := .iface u pv, recovered := false }]) w fun e u' w' =>
      e = .returned (.tuple #[]) ∧ u' = .panicking [{ v := .iface u pv, recovered := true }] ∧ Row w' b zeroP ∧ Blk w' c 43 #[.int .i64 5] ∧ ∃ wm, Upd b w wm ∧ Upd c wm w' := by
  have HR := Lib.hid hr
  have HC := Lib.hid hc
  have HNe := Lib.hid hne
  clear hr hc hne
  refine callsD_of_wpS Tryz.func51 rfl fun c₀ cs hu => ?_
  apply wpS_seq
  apply wpS_region
  simp [wpOpsS, go_sem, recoverD, hu, Tryz.ntmps51, Exit.thenS]
  refine wpS_cond (t := true) (by simp [Act.eval, Array.replicate]) ?_
  simp only [if_true]
  refine wpS_of_wp ?_
  go_wp2_with (first
    | (refine step_build rfl 31 _ rfl (posA zeroP) (by kernel_rfl) ?_)
    | (refine step_store rfl _ _ rfl b rfl _ zeroP rfl HR.out ?_; intro w2 U R; have HU := Lib.hid U; have HR := Lib.hid R; have HC := Lib.hid (HC.out.apart U (Ne.symm HNe.out)); have hfz := HC.out.frozen 0; have hcl : w2.cell? ⟨c, 0, none⟩ = some (.int .i64 x) := (by rw [Blk.cell HC.out]; rfl); clear U R)
    | (refine blk_cell rfl 43 _ _ rfl c 0 rfl .i64 5 rfl 43 _ HC.out (by decide) (by kernel_rfl) ?_; intro w3 U R; have HV := Lib.hid U; have HC := Lib.hid R; have HR := Lib.hid (HR.out.apart U HNe.out); clear U R))
  refine ⟨rfl, _, rfl, .tuple #[], results_none rfl _ _ _, rfl, rfl, HR.out.apart (Upd.setCell w2 c 0 _) HNe.out, HC.out.set 0 (.int .i64 5), w2, HU.out, Upd.setCell w2 c 0 _⟩
theorem catch_idle (b c : Nat) (w : World) :
    CallsD Tryz.prog 51 #[.pointer (some ⟨b, 0, none⟩), .pointer (some ⟨c, 0, none⟩)] .returning w fun e u' w' => e = .returned (.tuple #[]) ∧ u' = .returning ∧ w' = w := by
  refine callsD_of_wpS Tryz.func51 rfl fun c₀ cs hu => ?_
  apply wpS_seq
  apply wpS_region
  simp [wpOpsS, go_sem, recoverD, hu, Tryz.ntmps51, Exit.thenS]
  refine wpS_cond (t := false) (by simp [Act.eval, Array.replicate]) ?_
  simp only [Bool.false_eq_true, if_false]
  refine wpS_of_wp (wp_skip ?_)
  cases c₀
  simp_all [bodyPostS, results]
/-- A text's reading, or nothing. -/
def RdO (n : Int) : Option (Nat → Int) → Array Value
  | some q => #[.agg (posA q), .int .i64 0]
  | none => #[.agg (posA zeroP), .int .i64 n]
def ReadP (n : Int) (o : Option (Nat → Int)) (w : World) (e : Ending) (w' : World) : Prop := e = .returned (.tuple (RdO n o)) ∧ Below w.heap.size w w'
theorem infoRd : (Tryz.prog.info? 71).map (fun i => (i.zero, i.size)) = some (some (.agg (rdA zeroP [])), (rdA zeroP []).size) := by kernel_rfl
theorem sizeRd : (Tryz.prog.info? 71).map (·.size) = some 89 := by kernel_rfl
theorem rdA_one (p : Nat → Int) (s : List UInt8) : (rdA p s).all (·.oneCell') = true := by
  rw [Array.all_eq_true]
  intro i hi
  rw [rdA_size] at hi
  by_cases h : i < 88
  · have := rdA_get p s h
    obtain ⟨h1, h2⟩ := Array.getElem?_eq_some_iff.1 this
    rw [h2]; rfl
  · obtain rfl : i = 88 := by omega
    have := rdA_rest p s
    obtain ⟨h1, h2⟩ := Array.getElem?_eq_some_iff.1 this
    rw [h2]; rfl
set_option maxRecDepth 100000 in
theorem built_rd (p : Nat → Int) (t : List UInt8) : Tryz.prog.built 71 [(0, .agg (posA p)), (1, .string (bz t))] = some (rdA p t) := by
  kernel_rfl
theorem step_reader {ops : Array Oper} {rest : List Oper} {op : Oper} {a : Act} {w : World} {Q : Exit → Act → World → Prop} (hw : Region.wanted op (yielded ops a.tmps) = true) (x y : Operand) (ho : op.op = .build 71 #[(0, x), (1, y)]) (p : Nat → Int) (t : List UInt8) (hx : a.eval x = .agg (posA p)) (hy : a.eval y = .string (bz t))
    (h : wpList Tryz.prog ops Q rest (a.put op.dst (.agg (rdA p t))) w) : wpList Tryz.prog ops Q (op :: rest) a w :=
  step_build hw 71 _ ho (rdA p t) (by
    have e : (#[(0, x), (1, y)].map fun (i, x) => (i, a.eval x)).toList = [(0, .agg (posA p)), (1, .string (bz t))] := by simp [hx, hy]
    rw [e]; exact built_rd p t) h
theorem TabMx.lt {w : World} (h : TabMx w) : 5 < w.heap.size := let ⟨_, hc⟩ := h; World.block_lt_of_cell? w _ hc
theorem ErrAt.lt {g : Nat} {w : World} (h : ErrAt g w) : g < w.heap.size := let ⟨_, hc, _⟩ := h; World.block_lt_of_cell? w _ hc
theorem TabCorn.lt {w : World} (h : TabCorn w) : 0 < w.heap.size := by
  have := h 0 (by decide) 0 _ (by rfl)
  exact World.block_lt_of_cell? w _ this
theorem funsAt_new {w : World} {b g : Nat} (h : Blk w g 1 #[rdFn b 0, rdFn b 1, rdFn b 2, rdFn b 3, rdFn b 4, rdFn b 5, rdFn b 6]) : FunsAt w g b := fun k hk => by
  rw [Blk.cell h]
  rcases (by omega : k = 0 ∨ k = 1 ∨ k = 2 ∨ k = 3 ∨ k = 4 ∨ k = 5 ∨ k = 6) with rfl | rfl | rfl | rfl | rfl | rfl | rfl <;> rfl
end Go.Proofs.YtjbfjohgfbipgaaGreatDoor
