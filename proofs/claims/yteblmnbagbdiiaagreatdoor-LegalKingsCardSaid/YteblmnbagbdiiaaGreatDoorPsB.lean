/-
 Layer 13: what a pawn may become, handed on by a closure; lists of kinds in their cells.
-/
import Derived.Test.YteblmnbagbdiiaaGreatDoorPsA
import Derived.Test.YteblmnbagbdiiaaGreatDoorAfBaseK
set_option maxRecDepth 100000
set_option maxHeartbeats 8000000
namespace Go.Proofs.YteblmnbagbdiiaaGreatDoor
open Go.RowKit Go.Shelf
set_option linter.unusedVariables false
set_option linter.unusedSimpArgs false

def Lst (B : Nat) (L : List Nat) (v : Value) (w : World) : Prop := ∃ a cap, v = .slice a L.length cap ∧ ∀ (i x : Nat), L[i]? = some x → ∃ g, B ≤ g ∧ a = some ⟨g, 0, none⟩ ∧ w.cell? ⟨g, i, none⟩ = some (.int .u8 (x : Int))
theorem Lst.kept {B : Nat} {L : List Nat} {v : Value} {w w' : World} {X : Nat → Prop} (h : Lst B L v w) (k : Kept X w w') (hx : ∀ i, B ≤ i → ¬ X i) : Lst B L v w' := by
 obtain ⟨a, cap, e, h⟩ := h
 refine ⟨a, cap, e, fun i x hi => ?_⟩
 obtain ⟨g, hg, e2, hc⟩ := h i x hi
 exact ⟨g, hg, e2, k.cell hc (hx g hg)⟩
theorem Lst.later {B : Nat} {L : List Nat} {v : Value} {w w' : World} (h : Lst B L v w) (hb : Below w.heap.size w w') : Lst B L v w' := h.kept (Kept.of_call (fun _ => False) hb) (fun _ _ => id)
theorem lst_of {B : Nat} {L : List Nat} {v : Value} {w : World} (h : ListedK .u8 5 B L v w) : Lst B L v w := by
 rcases h.2 with ⟨rfl, hn⟩ | ⟨g, cap, cur, rfl, hB, hg, h1, h2, h3, h4⟩
 ·refine ⟨none, 0, by rw [hn], fun i x hx => ?_⟩
  have := List.length_eq_zero_iff.1 hn
  rw [this] at hx; cases hx
 ·refine ⟨some ⟨g, 0, none⟩, cap, rfl, fun i x hx => ⟨g, hB, rfl, ?_⟩⟩
  have hi := (List.getElem?_eq_some_iff.1 hx).1
  have := congrArg (·[i]?) h4
  simp only [Nat.mul_one, List.getElem?_take_of_lt hi] at this
  have e : cur[i]? = cur.toList[i]? := by simp
  rw [cell_of_row w g i _ _ _ hg, e, this, rowK, List.getElem?_map, hx]; rfl
def BecIs (B : Nat) (p : Nat → Int) (s : Int) (v : Value) (w : World) : Prop :=
 ∃ F lb, v = .func (.func F) #[] lb ∧ (∀ args w, (callFunc F args).run Tryz.prog w = .ok (.enter F args) w) ∧
  ∀ b : Nat, b < 64 → ∃ v', Lst B (becL p s b) v' w ∧ ∀ (X : Nat → Prop) (w' : World), Kept X w w' → (∀ k, B ≤ k → ¬ X k) →
   Calls Tryz.prog F (#[.int .i64 (b : Int)] ++ lb) w' fun e w'' => e = .returned v' ∧ w' = w''
theorem BecIs.kept {B : Nat} {p : Nat → Int} {s : Int} {v : Value} {w w' : World} {X : Nat → Prop} (h : BecIs B p s v w) (k : Kept X w w') (hx : ∀ i, B ≤ i → ¬ X i) : BecIs B p s v w' := by
 obtain ⟨F, lb, e, he, h⟩ := h
 refine ⟨F, lb, e, he, fun b hb => ?_⟩
 obtain ⟨v', hl, hc⟩ := h b hb
 exact ⟨v', hl.kept k hx, fun Y w2 hk hy => hc (fun i => X i ∨ Y i) w2 ((k.mono fun _ => .inl).trans (hk.mono fun _ => .inr)) (fun i hi g => g.elim (hx i hi) (hy i hi))⟩
theorem ps_zero (sB B : Nat) (sv : Value) (w : World) (b : Nat) (hc : w.cell? ⟨sB, 0, none⟩ = some sv) :
  Calls Tryz.prog 227 #[.int .i64 (b : Int), .pointer (some ⟨sB, 0, none⟩)] w fun e w'' => e = .returned sv ∧ w = w'' := by
 go_enter Tryz.func227, Tryz.ntmps227
 go_wp2_with (refine step_get rfl 152 _ rfl sB 0 rfl Tryz.underlying152 rfl sv hc ?_)
 go_ret
 exact ⟨rfl, rfl⟩
theorem ps_two (lB kB sB : Nat) (h : Int) (kv sv : Value) (w : World) (b : Nat) (hb : b < 64) (g : Bool) (hg : (((b / 8 : Nat) : Int) == h) = g) (hl : w.cell? ⟨lB, 0, none⟩ = some (.int .i64 h)) (hk : w.cell? ⟨kB, 0, none⟩ = some kv) (hc : w.cell? ⟨sB, 0, none⟩ = some sv) :
  Calls Tryz.prog 230 #[.int .i64 (b : Int), .pointer (some ⟨lB, 0, none⟩), .pointer (some ⟨kB, 0, none⟩), .pointer (some ⟨sB, 0, none⟩)] w fun e w'' => e = .returned (bif g then kv else sv) ∧ w = w'' := by
 have hq := ps_quo b hb
 cases g
 all_goals
  go_enter Tryz.func230, Tryz.ntmps230
  go_wp2_with (first
   | (refine step_get rfl 152 _ rfl sB 0 rfl Tryz.underlying152 rfl sv hc ?_)
   | (refine step_get rfl 152 _ rfl kB 0 rfl Tryz.underlying152 rfl kv hk ?_))
  go_ret
  exact ⟨rfl, rfl⟩
def PsC (w : World) (b : Nat) (v : Value) : Prop := w.cell? ⟨b, 0, none⟩ = some v
theorem PsC.kept {w w' : World} {b : Nat} {v : Value} {X : Nat → Prop} (h : PsC w b v) (k : Kept X w w') (hx : ¬ X b) : PsC w' b v := k.cell h hx
theorem PsC.later {w w' : World} {b : Nat} {v : Value} (h : PsC w b v) (k : Below w.heap.size w w') : PsC w' b v := (k.cell (cell_block h)).trans h
theorem Lst.mono {B B' : Nat} {L : List Nat} {v : Value} {w : World} (h : Lst B L v w) (hb : B' ≤ B) : Lst B' L v w := by
 obtain ⟨a, cap, e, h⟩ := h
 exact ⟨a, cap, e, fun i x hi => by obtain ⟨g, hg, r⟩ := h i x hi; exact ⟨g, Nat.le_trans hb hg, r⟩⟩
theorem late_fork3 {L : Nat} {P : Program} {md : Region.Mode} {ops : Array Oper} {Q : Exit → Act → World → Prop} (i j k : Nat) {n : Nat} {listed : Array Bool} {a : Act} {w : World} (hr : Region.ready md ops listed = [i, j, k]) (hz : ((ops[i]?).isSome && i != L) = true) (hz' : ((ops[j]?).isSome && j != L) = true) (hz2 : ((ops[k]?).isSome && k != L) = true)
  (h : LateStep L P md ops Q n listed a w i) (h' : LateStep L P md ops Q n listed a w j) (h2 : LateStep L P md ops Q n listed a w k) : Late L P md ops Q (n + 1) listed a w := fun w' hw' =>
 ⟨fun h0 => (by rw [hr] at h0; cases h0), fun m hm => (by
  rw [hr] at hm
  have hm : m = i ∨ m = j ∨ m = k := by simpa using hm
  rcases hm with rfl | rfl | rfl
  ·exact late_step hz h hw'
  ·exact late_step hz' h' hw'
  ·exact late_step hz2 h2 hw')⟩
theorem late_allocS {o : Oper} {a : Act} {w : World} {K : Act → World → Prop} {Q : Exit → Act → World → Prop} (T : TypeId) (ho : o.op = .alloc T) (hz : (Tryz.prog.info? T).map (·.zero) = some (some (.slice none 0 0)))
  (h : ∀ b w', New b w w' → Blk w' b T #[.slice none 0 0] → K (a.put o.dst (.pointer (some ⟨b, 0, none⟩))) w') : Wp Tryz.prog o a w K Q := ⟨by
 have hk := h _ _ (New.alloc w _) (heap_alloc_new w (.cells #[.slice none 0 0] T))
 have hzr : ∀ w, (zeroValue T).run Tryz.prog w = .ok (.slice none 0 0) w := fun w => by
  cases hq : Tryz.prog.info? T with
  | none => simp [hq] at hz
  | some i => simp [hq] at hz; simp [zeroValue, typeInfo, hq, hz]
 unfold Oper.wp execOp
 simp only [ho, Instr.alloc, Sem.run_bind, Sem.run_pure, Result.andThen_ok, hzr]
 exact hk⟩
theorem late_allocI {o : Oper} {a : Act} {w : World} {K : Act → World → Prop} {Q : Exit → Act → World → Prop} (T : TypeId) (ho : o.op = .alloc T) (k : IntKind) (hz : (Tryz.prog.info? T).map (·.zero) = some (some (.int k 0)))
  (h : ∀ b w', New b w w' → Blk w' b T #[.int k 0] → K (a.put o.dst (.pointer (some ⟨b, 0, none⟩))) w') : Wp Tryz.prog o a w K Q := ⟨by
 have hk := h _ _ (New.alloc w _) (heap_alloc_new w (.cells #[.int k 0] T))
 have hzr : ∀ w, (zeroValue T).run Tryz.prog w = .ok (.int k 0) w := fun w => by
  cases hq : Tryz.prog.info? T with
  | none => simp [hq] at hz
  | some i => simp [hq] at hz; simp [zeroValue, typeInfo, hq, hz]
 unfold Oper.wp execOp
 simp only [ho, Instr.alloc, Sem.run_bind, Sem.run_pure, Result.andThen_ok, hzr]
 exact hk⟩
theorem late_blks {o : Oper} {a : Act} {w : World} {K : Act → World → Prop} {Q : Exit → Act → World → Prop} (ty : TypeId) (x y : Operand) (ho : o.op = .store ty x y) (b : Nat) (hx : a.eval x = .pointer (some ⟨b, 0, none⟩)) (p : Option Addr) (l c : Nat) (hy : a.eval y = .slice p l c)
  (T : TypeId) (u : Value) (hr : Blk w b T #[u]) (hs : (Tryz.prog.info? ty).map (·.size) = some 1)
  (h : ∀ w', Upd b w w' → Blk w' b T #[.slice p l c] → K (a.put o.dst undef) w') : Wp Tryz.prog o a w K Q := ⟨by
 have hk := h _ (Upd.setCell w b 0 (.slice p l c)) (hr.set 0 _)
 have hrun : (storeVar ty ⟨b, 0, none⟩ (.slice p l c)).run Tryz.prog w = .ok () (w.setCell ⟨b, 0, none⟩ (.slice p l c)) :=
  run_storeVar_mid w b 0 ty #[.slice p l c] (hr.there 0 1 (by simp)) hs (by simp [Value.oneCell'])
 unfold Oper.wp execOp
 simp only [ho, hx, hy, Instr.storeAt, Instr.sureAddr, Sem.run_bind, Sem.run_pure, Result.andThen_ok, hrun]
 exact hk⟩
theorem late_blki {o : Oper} {a : Act} {w : World} {K : Act → World → Prop} {Q : Exit → Act → World → Prop} (ty : TypeId) (x y : Operand) (ho : o.op = .store ty x y) (b : Nat) (hx : a.eval x = .pointer (some ⟨b, 0, none⟩)) (k : IntKind) (v : Int) (hy : a.eval y = .int k v)
  (T : TypeId) (u : Value) (hr : Blk w b T #[u]) (hs : (Tryz.prog.info? ty).map (·.size) = some 1)
  (h : ∀ w', Upd b w w' → Blk w' b T #[.int k v] → K (a.put o.dst undef) w') : Wp Tryz.prog o a w K Q := ⟨by
 have hk := h _ (Upd.setCell w b 0 (.int k v)) (hr.set 0 _)
 have hrun : (storeVar ty ⟨b, 0, none⟩ (.int k v)).run Tryz.prog w = .ok () (w.setCell ⟨b, 0, none⟩ (.int k v)) :=
  run_storeVar_mid w b 0 ty #[.int k v] (hr.there 0 1 (by simp)) hs (by simp [Value.oneCell'])
 unfold Oper.wp execOp
 simp only [ho, hx, hy, Instr.storeAt, Instr.sureAddr, Sem.run_bind, Sem.run_pure, Result.andThen_ok, hrun]
 exact hk⟩
theorem pushed_two {w w1 : World} (hb : Below w.heap.size w w1) (T S : TypeId) (a v : Value) : ∃ W, W = (w1.alloc (.cells #[a] T)).alloc (.cells #[v] S) ∧ Below w.heap.size w W ∧
  W.cell? ⟨w1.heap.size, 0, none⟩ = some a ∧ W.cell? ⟨w1.heap.size + 1, 0, none⟩ = some v ∧ ∀ b p o t, GR w1 b p o t → GR W b p o t := by
 have h1 : (w1.alloc (.cells #[a] T)).heap.size = w1.heap.size + 1 := by simp
 have c1 : (w1.alloc (.cells #[a] T)).cell? ⟨w1.heap.size, 0, none⟩ = some a := by rw [World.cell?_alloc_new]; rfl
 have c2 : ((w1.alloc (.cells #[a] T)).alloc (.cells #[v] S)).cell? ⟨(w1.alloc (.cells #[a] T)).heap.size, 0, none⟩ = some v := by rw [World.cell?_alloc_new]; rfl
 rw [h1] at c2
 exact ⟨_, rfl, below_on hb (below_on (box_below _ _) (box_below _ _)), ((box_below _ _).cell (cell_block c1)).trans c1, c2, fun b p o t h => (h.later (box_below _ _)).later (box_below _ _)⟩
theorem lst_zero {B g : Nat} {w : World} (hg : B ≤ g) (hc : w.cell? ⟨g, 0, none⟩ = some (.int .u8 0)) : Lst B [0] (.slice (some ⟨g, 0, none⟩) 1 1) w :=
 ⟨_, 1, rfl, fun i x hx => by
  obtain rfl : i = 0 := by have := (List.getElem?_eq_some_iff.1 hx).1; simp at this; exact this
  have : x = 0 := by simpa using hx.symm
  subst this
  exact ⟨g, hg, rfl, hc⟩⟩
theorem Lst.apart {B b : Nat} {L : List Nat} {v u : Value} {T : TypeId} {w w' : World} (h : Lst B L v w) (hr : Blk w b T #[u]) (hu : ∀ x : Int, u ≠ .int .u8 x) (U : Upd b w w') : Lst B L v w' := by
 obtain ⟨a, cap, e, h⟩ := h
 refine ⟨a, cap, e, fun i x hi => ?_⟩
 obtain ⟨g, hg, e2, hc⟩ := h i x hi
 refine ⟨g, hg, e2, ?_⟩
 by_cases gb : g = b
 ·subst gb
  rw [hr.cell i] at hc
  cases i with
  | zero => exact absurd (Option.some.inj hc) (hu _)
  | succ i => simp at hc
 ·exact (World.cell?_of_block (U.block g gb)).trans hc
theorem PsC.apart {w w' : World} {b c : Nat} {v : Value} (h : PsC w c v) (U : Upd b w w') (hn : c ≠ b) : PsC w' c v := (World.cell?_of_block (U.block c hn)).trans h
theorem becIs_two {B b6 b7 sB : Nat} {p : Nat → Int} {s : Int} {kv sv : Value} {w : World} (hG : (knP p s == 1) = true) (h6 : w.cell? ⟨b6, 0, none⟩ = some kv) (h7 : w.cell? ⟨b7, 0, none⟩ = some (.int .i64 (homZ (oth (p 78))))) (hs : PsC w sB sv)
  (hk : Lst B (prL (p 0).toNat) kv w) (hz : Lst B [0] sv w) (g6 : B ≤ b6) (g7 : B ≤ b7) (gs : B ≤ sB) :
  BecIs B p s (.func (.func 230) #[] #[.pointer (some ⟨b7, 0, none⟩), .pointer (some ⟨b6, 0, none⟩), .pointer (some ⟨sB, 0, none⟩)]) w := by
 refine ⟨_, _, rfl, enters_of Tryz.func230 (by kernel_rfl) rfl, fun b hb => ⟨_, ?_, fun X w' hK hx => ps_two b7 b6 sB _ kv sv w' b hb _ rfl (hK.cell h7 (hx _ g7)) (hK.cell h6 (hx _ g6)) (hK.cell hs (hx _ gs))⟩⟩
 unfold becL
 rw [hG, Bool.true_and]
 cases (((b / 8 : Nat) : Int) == homZ (oth (p 78)))
 ·exact hz
 ·exact hk
def BecPost (p : Nat → Int) (s : Int) (w : World) (e : Ending) (w' : World) : Prop := ∃ v, e = .returned v ∧ BecIs w.heap.size p s v w' ∧ Below w.heap.size w w'
theorem ps_bec (p : Nat → Int) (o t : Nat) (s : Int) (w : World) (hp : PsR p) (hT : TabVar w) : Calls Tryz.prog 177 #[.agg (grA p o t), .int .i64 s] w (BecPost p s w) := by
 have HP := H_ hp
 have HT := H_ hT
 clear hp hT
 have HB := H_ (Below.refl w.heap.size w)
 obtain ⟨g, HG⟩ : ∃ g, Hid ((knP p s == 1) = g) := ⟨_, H_ rfl⟩
 have HPw := H_ (show ∀ w1, Calls Tryz.prog 180 #[.agg (grA p o t), .int .i64 s] w1 (BoL g w1) from fun w1 => HG.out ▸ ps_pawn p o t s w1 HP.out.bd)
 cases g
 ·go_enter Tryz.func177, Tryz.ntmps177
  go_wp2_with (first
   | (refine gr_box rfl _ rfl p o t rfl ?_; intro b1 w1 N R; have HB := H_ (HB.out.trans (N.below.mono HB.out.size)); have HR := H_ R; have HS1 := H_ HB.out.size; clear N R)
   | (refine gr_load rfl _ rfl b1 rfl p o t ((HR.out.later (box_below _ _)).later (box_below _ _)) ?_)
   | (go_at_call 180; obtain ⟨w3, hw3, hb3, hc3, hd3, _⟩ := pushed_two HB.out 5 152 (.int .u8 0) (.slice (some ⟨w1.heap.size, 0, none⟩) 1 1); rw [← hw3]; refine (HPw.out _).mono ?_; rintro e w4 ⟨rfl, hb⟩; have HB := H_ (below_on hb3 hb); have HC := H_ ((hb.cell (cell_block hc3)).trans hc3); have HD := H_ ((hb.cell (cell_block hd3)).trans hd3); clear hw3 hb3 hc3 hd3 hb))
  go_ret
  refine ⟨_, rfl, ⟨227, #[.pointer (some ⟨w1.heap.size + 1, 0, none⟩)], rfl, enters_of Tryz.func227 (by kernel_rfl) rfl, fun b _ => ⟨.slice (some ⟨w1.heap.size, 0, none⟩) 1 1, ?_, fun X w' hk hx => ps_zero (w1.heap.size + 1) w.heap.size _ w' b (hk.cell HD.out (hx _ (by show w.heap.size ≤ w1.heap.size + 1; have := HS1.out; omega)))⟩⟩, HB.out⟩
  have : becL p s b = [0] := by unfold becL; rw [HG.out]; rfl
  rw [this]
  exact lst_zero HS1.out HC.out
 ·go_enter Tryz.func177, Tryz.ntmps177
  obtain ⟨v0, Hv0⟩ : ∃ v0 : Nat, Hid (p 0 = (v0 : Int)) := ⟨(p 0).toNat, H_ (by have := HP.out.var; omega)⟩
  have HV := H_ (show v0 ≤ 255 by have := HP.out.var; have := Hv0.out; omega)
  have HV2 := H_ (show (p 0).toNat = v0 by rw [Hv0.out, Int.toNat_natCast])
  go_wp2_with (first
   | (refine gr_box rfl _ rfl p o t rfl ?_; intro b1 w1 N R; have HB := H_ (HB.out.trans (N.below.mono HB.out.size)); have HR := H_ R; have HS1 := H_ HB.out.size; clear N R)
   | (refine gr_load rfl _ rfl b1 rfl p o t ((HR.out.later (box_below _ _)).later (box_below _ _)) ?_)
   | (go_at_call 180; obtain ⟨w3, hw3, hb3, hc3, hd3, hg3⟩ := pushed_two HB.out 5 152 (.int .u8 0) (.slice (some ⟨w1.heap.size, 0, none⟩) 1 1); go_loud (have hr3 := hg3 _ _ _ _ HR.out; rw [← hw3]; refine (HPw.out _).mono ?_; rintro e w4 ⟨rfl, hb⟩; have HB := H_ (below_on hb3 hb); have HZ := H_ (lst_zero HS1.out ((hb.cell (cell_block hc3)).trans hc3)); have HSc := H_ (show PsC w4 (w1.heap.size + 1) _ from (hb.cell (cell_block hd3)).trans hd3); have HR := H_ (hr3.later hb); clear hw3 hb3 hc3 hd3 hg3 hr3 hb)))
  obtain ⟨sB, hsB⟩ : ∃ x, x = w1.heap.size + 1 := ⟨_, rfl⟩
  have HSb := H_ (show w.heap.size ≤ sB by have := HS1.out; omega)
  rw [← hsB] at HSc ⊢
  clear hsB HS1
  refine late_begin 11 (by kernel_rfl) ?_
  refine lw 0 rfl ?_
  simp only [Act.put, pa, pb, pc]
  refine lw 1 rfl ?_
  simp only [Act.put, pa, pb, pc]
  refine lv 2 rfl ⟨_, fun w' hl => (run_get 5 _ rfl b1 0 rfl Tryz.underlying5 rfl (.int .u8 (v0 : Int)) (((HR.out.later hl).cell 0 (by decide)).trans (by rw [Hv0.out]; rfl))), ?_⟩
  simp only [Act.put, pa, pb, pc]
  refine late_takeD 4 [5, 6, 7, 8, 11] (by kernel_rfl) (by kernel_rfl) (by kernel_rfl) (by kernel_rfl) (by kernel_rfl) (fun _ _ d _ _ h => by cases d <;> exact h) (fun o ho => ?_)
  simp only [qa, qb, qc, qd] at ho; subst ho
  apply Exists.intro
  refine ⟨Or.inl ⟨by kernel_rfl, fun w' hl => Or.inl ?_⟩, ?_⟩
  ·(go_simp; try with_reducible rfl)
  simp only [Act.put, pa, pb, pc]
  refine late_takeD 5 [6, 7, 8, 11] (by kernel_rfl) (by kernel_rfl) (by kernel_rfl) (by kernel_rfl) (by kernel_rfl) (fun _ _ d _ _ h => by cases d <;> exact h) (fun o ho => ?_)
  simp only [qa, qb, qc, qd] at ho; subst ho
  apply Exists.intro
  refine ⟨Or.inl ⟨by kernel_rfl, fun w' hl => Or.inl ?_⟩, ?_⟩
  ·(go_simp; try with_reducible rfl)
  simp only [Act.put, pa, pb, pc]
  refine late_takeD 6 [7, 8, 11] (by kernel_rfl) (by kernel_rfl) (by kernel_rfl) (by kernel_rfl) (by kernel_rfl) (fun _ _ d _ _ h => by cases d <;> exact h) (fun o ho => ?_)
  simp only [qa, qb, qc, qd] at ho; subst ho
  refine ⟨_, Or.inl ⟨by kernel_rfl, fun w' hl => Or.inl (run_get 5 _ rfl b1 78 rfl Tryz.underlying5 rfl (.int .u8 (p 78)) ((HR.out.later hl).cell 78 (by decide)))⟩, ?_⟩
  simp only [Act.put, pa, pb, pc]
  refine late_fork3 3 9 10 (by kernel_rfl) (by kernel_rfl) (by kernel_rfl) (by kernel_rfl) (fun o ho => ?_) (fun o ho => ?_) (fun o ho => ?_)
  ·simp only [qa, qb, qc, qd] at ho; subst ho
   refine ⟨by kernel_rfl, fun wn hl K hK => ?_⟩
   have HR := H_ (HR.out.later hl); have HZ := H_ (HZ.out.later hl); have HSc := H_ (HSc.out.later hl); have HB := H_ (below_on HB.out hl); clear hl
   refine we ?_
   refine (prom_any v0 _ HV.out (HT.out.on HB.out)).mono ?_; rintro e wm ⟨v, rfl, hv, hb⟩; have HKn := H_ ((lst_of hv).mono HB.out.size); clear hv; obtain ⟨ka, kc, rfl, hkl⟩ := HKn.out; clear hkl; refine ⟨_, rfl, ?_⟩
   refine hK.out _ _ hb ?_
   have HR := H_ (HR.out.later hb); have HZ := H_ (HZ.out.later hb); have HSc := H_ (HSc.out.later hb); have HB := H_ (below_on HB.out hb); clear hb
   have HKl := HKn; clear HKn
   clear hK K
   simp only [Act.put, pa, pb, pc]
   refine late_takeD 7 [8, 11] (by kernel_rfl) (by kernel_rfl) (by kernel_rfl) (by kernel_rfl) (by kernel_rfl) (fun _ _ d _ _ h => by cases d <;> exact h) (fun o ho => ?_)
   simp only [qa, qb, qc, qd] at ho; subst ho
   refine ⟨.int .u8 (oth (p 78)), Or.inl ⟨by kernel_rfl, fun w' hl => Or.inr ⟨_, _, (by go_simp), (ps_oth (p 78) w').mono (by rintro e w2 ⟨rfl, rfl⟩; exact ⟨rfl, Later.refl _⟩)⟩⟩, ?_⟩
   simp only [Act.put, pa, pb, pc]
   refine ltk 8 (by kernel_rfl) (fun _ _ d _ _ h => by cases d <;> exact h) (fun o ho => ?_)
   simp only [qa, qb, qc, qd] at ho; subst ho
   refine ⟨.int .i64 (homZ (oth (p 78))), Or.inl ⟨by kernel_rfl, fun w' hl => Or.inr ⟨_, _, (by go_simp), (ps_home (oth (p 78)) w').mono (by rintro e w2 ⟨rfl, rfl⟩; exact ⟨rfl, Later.refl _⟩)⟩⟩, ?_⟩
   simp only [Act.put, pa, pb, pc]
   refine late_fork 9 10 (by kernel_rfl) (by kernel_rfl) (by kernel_rfl) (fun o ho => ?_) (fun o ho => ?_)
   ·simp only [qa, qb, qc, qd] at ho; subst ho
    refine ⟨by kernel_rfl, fun wn hl K hK => ?_⟩
    have HR := H_ (HR.out.later hl); have HZ := H_ (HZ.out.later hl); have HSc := H_ (HSc.out.later hl); have HKl := H_ (HKl.out.later hl); have HB := H_ (below_on HB.out hl); clear hl
    refine late_allocS 152 rfl (by kernel_rfl) ?_; intro b6 wm N R
    have HK6g := H_ (nA HB.out N)
    have HS6 := H_ (show sB ≠ b6 from Nat.ne_of_lt (by have h1 : sB < _ := cell_block HSc.out; have := N.at_; omega))
    have hb := N.below
    have HRn := H_ R
    clear N R
    refine hK.out _ _ hb ?_
    have HR := H_ (HR.out.later hb); have HZ := H_ (HZ.out.later hb); have HSc := H_ (HSc.out.later hb); have HKl := H_ (HKl.out.later hb); have HB := H_ (below_on HB.out hb); clear hb
    have HK6 := HRn; clear HRn
    clear hK K
    simp only [Act.put, pa, pb, pc]
    refine l1 10 rfl fun wn hl K hK => ?_
    have HR := H_ (HR.out.later hl); have HZ := H_ (HZ.out.later hl); have HSc := H_ (HSc.out.later hl); have HKl := H_ (HKl.out.later hl); have HK6 := H_ (HK6.out.later hl); have HB := H_ (below_on HB.out hl); clear hl
    refine late_allocI 3 rfl .i64 (by kernel_rfl) ?_; intro b7 wm N R
    have HK7g := H_ (nA HB.out N)
    have HK7d := H_ (show b7 ≠ b6 by have := HK6.out.lt; have := N.at_; omega)
    have HS7 := H_ (show sB ≠ b7 from Nat.ne_of_lt (by have h1 : sB < _ := cell_block HSc.out; have := N.at_; omega))
    have hb := N.below
    have HRn := H_ R
    clear N R
    refine hK.out _ _ hb ?_
    have HR := H_ (HR.out.later hb); have HZ := H_ (HZ.out.later hb); have HSc := H_ (HSc.out.later hb); have HKl := H_ (HKl.out.later hb); have HK6 := H_ (HK6.out.later hb); have HB := H_ (below_on HB.out hb); clear hb
    have HK7 := HRn; clear HRn
    clear hK K
    simp only [Act.put, pa, pb, pc]
    refine late_then 11 (by kernel_rfl) (by kernel_rfl) (fun o ho => ?_)
    simp only [qa, qb, qc, qd] at ho; subst ho
    refine ⟨by kernel_rfl, fun wn hl K hK => ?_⟩
    have HR := H_ (HR.out.later hl); have HZ := H_ (HZ.out.later hl); have HSc := H_ (HSc.out.later hl); have HKl := H_ (HKl.out.later hl); have HK6 := H_ (HK6.out.later hl); have HK7 := H_ (HK7.out.later hl); have HB := H_ (below_on HB.out hl); clear hl
    refine late_blks 152 _ _ rfl b6 rfl ka (prL v0).length kc rfl _ _ HK6.out (by kernel_rfl) ?_; intro w5 U5 R5
    have HZ := H_ (HZ.out.apart HK6.out (by intro x; simp) U5); have HKl := H_ (HKl.out.apart HK6.out (by intro x; simp) U5); have HSc := H_ (HSc.out.apart U5 HS6.out)
    have HK7 := H_ (HK7.out.apart U5 HK7d.out); have HB := H_ (HB.out.trans (U5.below HK6g.out)); have HK6 := H_ R5; clear U5 R5
    refine hK.out _ _ ?_
    clear hK K
    simp only [Act.put, pa, pb, pc]
    refine any_one 12 (by kernel_rfl) (by kernel_rfl) (fun o ho => ?_)
    simp only [qa, qb, qc, qd] at ho; subst ho
    refine ⟨by kernel_rfl, fun K hK => ?_⟩
    refine late_blki 3 _ _ rfl b7 rfl .i64 (homZ (oth (p 78))) rfl _ _ HK7.out (by kernel_rfl) ?_; intro w6 U6 R6
    have HZ := H_ (HZ.out.apart HK7.out (by intro x; simp) U6); have HKl := H_ (HKl.out.apart HK7.out (by intro x; simp) U6); have HSc := H_ (HSc.out.apart U6 HS7.out)
    have HK6 := H_ (HK6.out.apart U6 (Ne.symm HK7d.out)); have HB := H_ (HB.out.trans (U6.below HK7g.out)); have HK7 := H_ R6; clear U6 R6
    refine hK.out _ _ ?_
    clear hK K
    simp only [Act.put, pa, pb, pc]
    refine any_end (by kernel_rfl) ?_
    go_wp2_with fail
    go_ret
    exact ⟨_, rfl, becIs_two HG.out (HK6.out.cell 0) (HK7.out.cell 0) HSc.out (by rw [HV2.out]; exact HKl.out) HZ.out HK6g.out HK7g.out HSb.out, HB.out⟩
   ·simp only [qa, qb, qc, qd] at ho; subst ho
    refine ⟨by kernel_rfl, fun wn hl K hK => ?_⟩
    have HR := H_ (HR.out.later hl); have HZ := H_ (HZ.out.later hl); have HSc := H_ (HSc.out.later hl); have HKl := H_ (HKl.out.later hl); have HB := H_ (below_on HB.out hl); clear hl
    refine late_allocI 3 rfl .i64 (by kernel_rfl) ?_; intro b7 wm N R
    have HK7g := H_ (nA HB.out N)
    have HS7 := H_ (show sB ≠ b7 from Nat.ne_of_lt (by have h1 : sB < _ := cell_block HSc.out; have := N.at_; omega))
    have hb := N.below
    have HRn := H_ R
    clear N R
    refine hK.out _ _ hb ?_
    have HR := H_ (HR.out.later hb); have HZ := H_ (HZ.out.later hb); have HSc := H_ (HSc.out.later hb); have HKl := H_ (HKl.out.later hb); have HB := H_ (below_on HB.out hb); clear hb
    have HK7 := HRn; clear HRn
    clear hK K
    simp only [Act.put, pa, pb, pc]
    refine l1 9 rfl fun wn hl K hK => ?_
    have HR := H_ (HR.out.later hl); have HZ := H_ (HZ.out.later hl); have HSc := H_ (HSc.out.later hl); have HKl := H_ (HKl.out.later hl); have HK7 := H_ (HK7.out.later hl); have HB := H_ (below_on HB.out hl); clear hl
    refine late_allocS 152 rfl (by kernel_rfl) ?_; intro b6 wm N R
    have HK6g := H_ (nA HB.out N)
    have HK7d := H_ (show b7 ≠ b6 by have := HK7.out.lt; have := N.at_; omega)
    have HS6 := H_ (show sB ≠ b6 from Nat.ne_of_lt (by have h1 : sB < _ := cell_block HSc.out; have := N.at_; omega))
    have hb := N.below
    have HRn := H_ R
    clear N R
    refine hK.out _ _ hb ?_
    have HR := H_ (HR.out.later hb); have HZ := H_ (HZ.out.later hb); have HSc := H_ (HSc.out.later hb); have HKl := H_ (HKl.out.later hb); have HK7 := H_ (HK7.out.later hb); have HB := H_ (below_on HB.out hb); clear hb
    have HK6 := HRn; clear HRn
    clear hK K
    simp only [Act.put, pa, pb, pc]
    refine late_then 11 (by kernel_rfl) (by kernel_rfl) (fun o ho => ?_)
    simp only [qa, qb, qc, qd] at ho; subst ho
    refine ⟨by kernel_rfl, fun wn hl K hK => ?_⟩
    have HR := H_ (HR.out.later hl); have HZ := H_ (HZ.out.later hl); have HSc := H_ (HSc.out.later hl); have HKl := H_ (HKl.out.later hl); have HK7 := H_ (HK7.out.later hl); have HK6 := H_ (HK6.out.later hl); have HB := H_ (below_on HB.out hl); clear hl
    refine late_blks 152 _ _ rfl b6 rfl ka (prL v0).length kc rfl _ _ HK6.out (by kernel_rfl) ?_; intro w5 U5 R5
    have HZ := H_ (HZ.out.apart HK6.out (by intro x; simp) U5); have HKl := H_ (HKl.out.apart HK6.out (by intro x; simp) U5); have HSc := H_ (HSc.out.apart U5 HS6.out)
    have HK7 := H_ (HK7.out.apart U5 HK7d.out); have HB := H_ (HB.out.trans (U5.below HK6g.out)); have HK6 := H_ R5; clear U5 R5
    refine hK.out _ _ ?_
    clear hK K
    simp only [Act.put, pa, pb, pc]
    refine any_one 12 (by kernel_rfl) (by kernel_rfl) (fun o ho => ?_)
    simp only [qa, qb, qc, qd] at ho; subst ho
    refine ⟨by kernel_rfl, fun K hK => ?_⟩
    refine late_blki 3 _ _ rfl b7 rfl .i64 (homZ (oth (p 78))) rfl _ _ HK7.out (by kernel_rfl) ?_; intro w6 U6 R6
    have HZ := H_ (HZ.out.apart HK7.out (by intro x; simp) U6); have HKl := H_ (HKl.out.apart HK7.out (by intro x; simp) U6); have HSc := H_ (HSc.out.apart U6 HS7.out)
    have HK6 := H_ (HK6.out.apart U6 (Ne.symm HK7d.out)); have HB := H_ (HB.out.trans (U6.below HK7g.out)); have HK7 := H_ R6; clear U6 R6
    refine hK.out _ _ ?_
    clear hK K
    simp only [Act.put, pa, pb, pc]
    refine any_end (by kernel_rfl) ?_
    go_wp2_with fail
    go_ret
    exact ⟨_, rfl, becIs_two HG.out (HK6.out.cell 0) (HK7.out.cell 0) HSc.out (by rw [HV2.out]; exact HKl.out) HZ.out HK6g.out HK7g.out HSb.out, HB.out⟩
  ·simp only [qa, qb, qc, qd] at ho; subst ho
   refine ⟨by kernel_rfl, fun wn hl K hK => ?_⟩
   have HR := H_ (HR.out.later hl); have HZ := H_ (HZ.out.later hl); have HSc := H_ (HSc.out.later hl); have HB := H_ (below_on HB.out hl); clear hl
   refine late_allocS 152 rfl (by kernel_rfl) ?_; intro b6 wm N R
   have HK6g := H_ (nA HB.out N)
   have HS6 := H_ (show sB ≠ b6 from Nat.ne_of_lt (by have h1 : sB < _ := cell_block HSc.out; have := N.at_; omega))
   have hb := N.below
   have HRn := H_ R
   clear N R
   refine hK.out _ _ hb ?_
   have HR := H_ (HR.out.later hb); have HZ := H_ (HZ.out.later hb); have HSc := H_ (HSc.out.later hb); have HB := H_ (below_on HB.out hb); clear hb
   have HK6 := HRn; clear HRn
   clear hK K
   simp only [Act.put, pa, pb, pc]
   refine late_fork 3 10 (by kernel_rfl) (by kernel_rfl) (by kernel_rfl) (fun o ho => ?_) (fun o ho => ?_)
   ·simp only [qa, qb, qc, qd] at ho; subst ho
    refine ⟨by kernel_rfl, fun wn hl K hK => ?_⟩
    have HR := H_ (HR.out.later hl); have HZ := H_ (HZ.out.later hl); have HSc := H_ (HSc.out.later hl); have HK6 := H_ (HK6.out.later hl); have HB := H_ (below_on HB.out hl); clear hl
    refine we ?_
    refine (prom_any v0 _ HV.out (HT.out.on HB.out)).mono ?_; rintro e wm ⟨v, rfl, hv, hb⟩; have HKn := H_ ((lst_of hv).mono HB.out.size); clear hv; obtain ⟨ka, kc, rfl, hkl⟩ := HKn.out; clear hkl; refine ⟨_, rfl, ?_⟩
    refine hK.out _ _ hb ?_
    have HR := H_ (HR.out.later hb); have HZ := H_ (HZ.out.later hb); have HSc := H_ (HSc.out.later hb); have HK6 := H_ (HK6.out.later hb); have HB := H_ (below_on HB.out hb); clear hb
    have HKl := HKn; clear HKn
    clear hK K
    simp only [Act.put, pa, pb, pc]
    refine late_takeD 7 [8, 11] (by kernel_rfl) (by kernel_rfl) (by kernel_rfl) (by kernel_rfl) (by kernel_rfl) (fun _ _ d _ _ h => by cases d <;> exact h) (fun o ho => ?_)
    simp only [qa, qb, qc, qd] at ho; subst ho
    refine ⟨.int .u8 (oth (p 78)), Or.inl ⟨by kernel_rfl, fun w' hl => Or.inr ⟨_, _, (by go_simp), (ps_oth (p 78) w').mono (by rintro e w2 ⟨rfl, rfl⟩; exact ⟨rfl, Later.refl _⟩)⟩⟩, ?_⟩
    simp only [Act.put, pa, pb, pc]
    refine ltk 8 (by kernel_rfl) (fun _ _ d _ _ h => by cases d <;> exact h) (fun o ho => ?_)
    simp only [qa, qb, qc, qd] at ho; subst ho
    refine ⟨.int .i64 (homZ (oth (p 78))), Or.inl ⟨by kernel_rfl, fun w' hl => Or.inr ⟨_, _, (by go_simp), (ps_home (oth (p 78)) w').mono (by rintro e w2 ⟨rfl, rfl⟩; exact ⟨rfl, Later.refl _⟩)⟩⟩, ?_⟩
    simp only [Act.put, pa, pb, pc]
    refine l1 10 rfl fun wn hl K hK => ?_
    have HR := H_ (HR.out.later hl); have HZ := H_ (HZ.out.later hl); have HSc := H_ (HSc.out.later hl); have HK6 := H_ (HK6.out.later hl); have HKl := H_ (HKl.out.later hl); have HB := H_ (below_on HB.out hl); clear hl
    refine late_allocI 3 rfl .i64 (by kernel_rfl) ?_; intro b7 wm N R
    have HK7g := H_ (nA HB.out N)
    have HK7d := H_ (show b7 ≠ b6 by have := HK6.out.lt; have := N.at_; omega)
    have HS7 := H_ (show sB ≠ b7 from Nat.ne_of_lt (by have h1 : sB < _ := cell_block HSc.out; have := N.at_; omega))
    have hb := N.below
    have HRn := H_ R
    clear N R
    refine hK.out _ _ hb ?_
    have HR := H_ (HR.out.later hb); have HZ := H_ (HZ.out.later hb); have HSc := H_ (HSc.out.later hb); have HK6 := H_ (HK6.out.later hb); have HKl := H_ (HKl.out.later hb); have HB := H_ (below_on HB.out hb); clear hb
    have HK7 := HRn; clear HRn
    clear hK K
    simp only [Act.put, pa, pb, pc]
    refine late_then 11 (by kernel_rfl) (by kernel_rfl) (fun o ho => ?_)
    simp only [qa, qb, qc, qd] at ho; subst ho
    refine ⟨by kernel_rfl, fun wn hl K hK => ?_⟩
    have HR := H_ (HR.out.later hl); have HZ := H_ (HZ.out.later hl); have HSc := H_ (HSc.out.later hl); have HK6 := H_ (HK6.out.later hl); have HKl := H_ (HKl.out.later hl); have HK7 := H_ (HK7.out.later hl); have HB := H_ (below_on HB.out hl); clear hl
    refine late_blks 152 _ _ rfl b6 rfl ka (prL v0).length kc rfl _ _ HK6.out (by kernel_rfl) ?_; intro w5 U5 R5
    have HZ := H_ (HZ.out.apart HK6.out (by intro x; simp) U5); have HKl := H_ (HKl.out.apart HK6.out (by intro x; simp) U5); have HSc := H_ (HSc.out.apart U5 HS6.out)
    have HK7 := H_ (HK7.out.apart U5 HK7d.out); have HB := H_ (HB.out.trans (U5.below HK6g.out)); have HK6 := H_ R5; clear U5 R5
    refine hK.out _ _ ?_
    clear hK K
    simp only [Act.put, pa, pb, pc]
    refine any_one 12 (by kernel_rfl) (by kernel_rfl) (fun o ho => ?_)
    simp only [qa, qb, qc, qd] at ho; subst ho
    refine ⟨by kernel_rfl, fun K hK => ?_⟩
    refine late_blki 3 _ _ rfl b7 rfl .i64 (homZ (oth (p 78))) rfl _ _ HK7.out (by kernel_rfl) ?_; intro w6 U6 R6
    have HZ := H_ (HZ.out.apart HK7.out (by intro x; simp) U6); have HKl := H_ (HKl.out.apart HK7.out (by intro x; simp) U6); have HSc := H_ (HSc.out.apart U6 HS7.out)
    have HK6 := H_ (HK6.out.apart U6 (Ne.symm HK7d.out)); have HB := H_ (HB.out.trans (U6.below HK7g.out)); have HK7 := H_ R6; clear U6 R6
    refine hK.out _ _ ?_
    clear hK K
    simp only [Act.put, pa, pb, pc]
    refine any_end (by kernel_rfl) ?_
    go_wp2_with fail
    go_ret
    exact ⟨_, rfl, becIs_two HG.out (HK6.out.cell 0) (HK7.out.cell 0) HSc.out (by rw [HV2.out]; exact HKl.out) HZ.out HK6g.out HK7g.out HSb.out, HB.out⟩
   ·simp only [qa, qb, qc, qd] at ho; subst ho
    refine ⟨by kernel_rfl, fun wn hl K hK => ?_⟩
    have HR := H_ (HR.out.later hl); have HZ := H_ (HZ.out.later hl); have HSc := H_ (HSc.out.later hl); have HK6 := H_ (HK6.out.later hl); have HB := H_ (below_on HB.out hl); clear hl
    refine late_allocI 3 rfl .i64 (by kernel_rfl) ?_; intro b7 wm N R
    have HK7g := H_ (nA HB.out N)
    have HK7d := H_ (show b7 ≠ b6 by have := HK6.out.lt; have := N.at_; omega)
    have HS7 := H_ (show sB ≠ b7 from Nat.ne_of_lt (by have h1 : sB < _ := cell_block HSc.out; have := N.at_; omega))
    have hb := N.below
    have HRn := H_ R
    clear N R
    refine hK.out _ _ hb ?_
    have HR := H_ (HR.out.later hb); have HZ := H_ (HZ.out.later hb); have HSc := H_ (HSc.out.later hb); have HK6 := H_ (HK6.out.later hb); have HB := H_ (below_on HB.out hb); clear hb
    have HK7 := HRn; clear HRn
    clear hK K
    simp only [Act.put, pa, pb, pc]
    refine l1 3 rfl fun wn hl K hK => ?_
    have HR := H_ (HR.out.later hl); have HZ := H_ (HZ.out.later hl); have HSc := H_ (HSc.out.later hl); have HK6 := H_ (HK6.out.later hl); have HK7 := H_ (HK7.out.later hl); have HB := H_ (below_on HB.out hl); clear hl
    refine we ?_
    refine (prom_any v0 _ HV.out (HT.out.on HB.out)).mono ?_; rintro e wm ⟨v, rfl, hv, hb⟩; have HKn := H_ ((lst_of hv).mono HB.out.size); clear hv; obtain ⟨ka, kc, rfl, hkl⟩ := HKn.out; clear hkl; refine ⟨_, rfl, ?_⟩
    refine hK.out _ _ hb ?_
    have HR := H_ (HR.out.later hb); have HZ := H_ (HZ.out.later hb); have HSc := H_ (HSc.out.later hb); have HK6 := H_ (HK6.out.later hb); have HK7 := H_ (HK7.out.later hb); have HB := H_ (below_on HB.out hb); clear hb
    have HKl := HKn; clear HKn
    clear hK K
    simp only [Act.put, pa, pb, pc]
    refine late_takeD 7 [8, 11] (by kernel_rfl) (by kernel_rfl) (by kernel_rfl) (by kernel_rfl) (by kernel_rfl) (fun _ _ d _ _ h => by cases d <;> exact h) (fun o ho => ?_)
    simp only [qa, qb, qc, qd] at ho; subst ho
    refine ⟨.int .u8 (oth (p 78)), Or.inl ⟨by kernel_rfl, fun w' hl => Or.inr ⟨_, _, (by go_simp), (ps_oth (p 78) w').mono (by rintro e w2 ⟨rfl, rfl⟩; exact ⟨rfl, Later.refl _⟩)⟩⟩, ?_⟩
    simp only [Act.put, pa, pb, pc]
    refine ltk 8 (by kernel_rfl) (fun _ _ d _ _ h => by cases d <;> exact h) (fun o ho => ?_)
    simp only [qa, qb, qc, qd] at ho; subst ho
    refine ⟨.int .i64 (homZ (oth (p 78))), Or.inl ⟨by kernel_rfl, fun w' hl => Or.inr ⟨_, _, (by go_simp), (ps_home (oth (p 78)) w').mono (by rintro e w2 ⟨rfl, rfl⟩; exact ⟨rfl, Later.refl _⟩)⟩⟩, ?_⟩
    simp only [Act.put, pa, pb, pc]
    refine late_then 11 (by kernel_rfl) (by kernel_rfl) (fun o ho => ?_)
    simp only [qa, qb, qc, qd] at ho; subst ho
    refine ⟨by kernel_rfl, fun wn hl K hK => ?_⟩
    have HR := H_ (HR.out.later hl); have HZ := H_ (HZ.out.later hl); have HSc := H_ (HSc.out.later hl); have HK6 := H_ (HK6.out.later hl); have HK7 := H_ (HK7.out.later hl); have HKl := H_ (HKl.out.later hl); have HB := H_ (below_on HB.out hl); clear hl
    refine late_blks 152 _ _ rfl b6 rfl ka (prL v0).length kc rfl _ _ HK6.out (by kernel_rfl) ?_; intro w5 U5 R5
    have HZ := H_ (HZ.out.apart HK6.out (by intro x; simp) U5); have HKl := H_ (HKl.out.apart HK6.out (by intro x; simp) U5); have HSc := H_ (HSc.out.apart U5 HS6.out)
    have HK7 := H_ (HK7.out.apart U5 HK7d.out); have HB := H_ (HB.out.trans (U5.below HK6g.out)); have HK6 := H_ R5; clear U5 R5
    refine hK.out _ _ ?_
    clear hK K
    simp only [Act.put, pa, pb, pc]
    refine any_one 12 (by kernel_rfl) (by kernel_rfl) (fun o ho => ?_)
    simp only [qa, qb, qc, qd] at ho; subst ho
    refine ⟨by kernel_rfl, fun K hK => ?_⟩
    refine late_blki 3 _ _ rfl b7 rfl .i64 (homZ (oth (p 78))) rfl _ _ HK7.out (by kernel_rfl) ?_; intro w6 U6 R6
    have HZ := H_ (HZ.out.apart HK7.out (by intro x; simp) U6); have HKl := H_ (HKl.out.apart HK7.out (by intro x; simp) U6); have HSc := H_ (HSc.out.apart U6 HS7.out)
    have HK6 := H_ (HK6.out.apart U6 (Ne.symm HK7d.out)); have HB := H_ (HB.out.trans (U6.below HK7g.out)); have HK7 := H_ R6; clear U6 R6
    refine hK.out _ _ ?_
    clear hK K
    simp only [Act.put, pa, pb, pc]
    refine any_end (by kernel_rfl) ?_
    go_wp2_with fail
    go_ret
    exact ⟨_, rfl, becIs_two HG.out (HK6.out.cell 0) (HK7.out.cell 0) HSc.out (by rw [HV2.out]; exact HKl.out) HZ.out HK6g.out HK7g.out HSb.out, HB.out⟩
  ·simp only [qa, qb, qc, qd] at ho; subst ho
   refine ⟨by kernel_rfl, fun wn hl K hK => ?_⟩
   have HR := H_ (HR.out.later hl); have HZ := H_ (HZ.out.later hl); have HSc := H_ (HSc.out.later hl); have HB := H_ (below_on HB.out hl); clear hl
   refine late_allocI 3 rfl .i64 (by kernel_rfl) ?_; intro b7 wm N R
   have HK7g := H_ (nA HB.out N)
   have HS7 := H_ (show sB ≠ b7 from Nat.ne_of_lt (by have h1 : sB < _ := cell_block HSc.out; have := N.at_; omega))
   have hb := N.below
   have HRn := H_ R
   clear N R
   refine hK.out _ _ hb ?_
   have HR := H_ (HR.out.later hb); have HZ := H_ (HZ.out.later hb); have HSc := H_ (HSc.out.later hb); have HB := H_ (below_on HB.out hb); clear hb
   have HK7 := HRn; clear HRn
   clear hK K
   simp only [Act.put, pa, pb, pc]
   refine late_fork 3 9 (by kernel_rfl) (by kernel_rfl) (by kernel_rfl) (fun o ho => ?_) (fun o ho => ?_)
   ·simp only [qa, qb, qc, qd] at ho; subst ho
    refine ⟨by kernel_rfl, fun wn hl K hK => ?_⟩
    have HR := H_ (HR.out.later hl); have HZ := H_ (HZ.out.later hl); have HSc := H_ (HSc.out.later hl); have HK7 := H_ (HK7.out.later hl); have HB := H_ (below_on HB.out hl); clear hl
    refine we ?_
    refine (prom_any v0 _ HV.out (HT.out.on HB.out)).mono ?_; rintro e wm ⟨v, rfl, hv, hb⟩; have HKn := H_ ((lst_of hv).mono HB.out.size); clear hv; obtain ⟨ka, kc, rfl, hkl⟩ := HKn.out; clear hkl; refine ⟨_, rfl, ?_⟩
    refine hK.out _ _ hb ?_
    have HR := H_ (HR.out.later hb); have HZ := H_ (HZ.out.later hb); have HSc := H_ (HSc.out.later hb); have HK7 := H_ (HK7.out.later hb); have HB := H_ (below_on HB.out hb); clear hb
    have HKl := HKn; clear HKn
    clear hK K
    simp only [Act.put, pa, pb, pc]
    refine late_takeD 7 [8, 11] (by kernel_rfl) (by kernel_rfl) (by kernel_rfl) (by kernel_rfl) (by kernel_rfl) (fun _ _ d _ _ h => by cases d <;> exact h) (fun o ho => ?_)
    simp only [qa, qb, qc, qd] at ho; subst ho
    refine ⟨.int .u8 (oth (p 78)), Or.inl ⟨by kernel_rfl, fun w' hl => Or.inr ⟨_, _, (by go_simp), (ps_oth (p 78) w').mono (by rintro e w2 ⟨rfl, rfl⟩; exact ⟨rfl, Later.refl _⟩)⟩⟩, ?_⟩
    simp only [Act.put, pa, pb, pc]
    refine ltk 8 (by kernel_rfl) (fun _ _ d _ _ h => by cases d <;> exact h) (fun o ho => ?_)
    simp only [qa, qb, qc, qd] at ho; subst ho
    refine ⟨.int .i64 (homZ (oth (p 78))), Or.inl ⟨by kernel_rfl, fun w' hl => Or.inr ⟨_, _, (by go_simp), (ps_home (oth (p 78)) w').mono (by rintro e w2 ⟨rfl, rfl⟩; exact ⟨rfl, Later.refl _⟩)⟩⟩, ?_⟩
    simp only [Act.put, pa, pb, pc]
    refine l1 9 rfl fun wn hl K hK => ?_
    have HR := H_ (HR.out.later hl); have HZ := H_ (HZ.out.later hl); have HSc := H_ (HSc.out.later hl); have HK7 := H_ (HK7.out.later hl); have HKl := H_ (HKl.out.later hl); have HB := H_ (below_on HB.out hl); clear hl
    refine late_allocS 152 rfl (by kernel_rfl) ?_; intro b6 wm N R
    have HK6g := H_ (nA HB.out N)
    have HK7d := H_ (show b7 ≠ b6 by have := HK7.out.lt; have := N.at_; omega)
    have HS6 := H_ (show sB ≠ b6 from Nat.ne_of_lt (by have h1 : sB < _ := cell_block HSc.out; have := N.at_; omega))
    have hb := N.below
    have HRn := H_ R
    clear N R
    refine hK.out _ _ hb ?_
    have HR := H_ (HR.out.later hb); have HZ := H_ (HZ.out.later hb); have HSc := H_ (HSc.out.later hb); have HK7 := H_ (HK7.out.later hb); have HKl := H_ (HKl.out.later hb); have HB := H_ (below_on HB.out hb); clear hb
    have HK6 := HRn; clear HRn
    clear hK K
    simp only [Act.put, pa, pb, pc]
    refine late_then 11 (by kernel_rfl) (by kernel_rfl) (fun o ho => ?_)
    simp only [qa, qb, qc, qd] at ho; subst ho
    refine ⟨by kernel_rfl, fun wn hl K hK => ?_⟩
    have HR := H_ (HR.out.later hl); have HZ := H_ (HZ.out.later hl); have HSc := H_ (HSc.out.later hl); have HK7 := H_ (HK7.out.later hl); have HKl := H_ (HKl.out.later hl); have HK6 := H_ (HK6.out.later hl); have HB := H_ (below_on HB.out hl); clear hl
    refine late_blks 152 _ _ rfl b6 rfl ka (prL v0).length kc rfl _ _ HK6.out (by kernel_rfl) ?_; intro w5 U5 R5
    have HZ := H_ (HZ.out.apart HK6.out (by intro x; simp) U5); have HKl := H_ (HKl.out.apart HK6.out (by intro x; simp) U5); have HSc := H_ (HSc.out.apart U5 HS6.out)
    have HK7 := H_ (HK7.out.apart U5 HK7d.out); have HB := H_ (HB.out.trans (U5.below HK6g.out)); have HK6 := H_ R5; clear U5 R5
    refine hK.out _ _ ?_
    clear hK K
    simp only [Act.put, pa, pb, pc]
    refine any_one 12 (by kernel_rfl) (by kernel_rfl) (fun o ho => ?_)
    simp only [qa, qb, qc, qd] at ho; subst ho
    refine ⟨by kernel_rfl, fun K hK => ?_⟩
    refine late_blki 3 _ _ rfl b7 rfl .i64 (homZ (oth (p 78))) rfl _ _ HK7.out (by kernel_rfl) ?_; intro w6 U6 R6
    have HZ := H_ (HZ.out.apart HK7.out (by intro x; simp) U6); have HKl := H_ (HKl.out.apart HK7.out (by intro x; simp) U6); have HSc := H_ (HSc.out.apart U6 HS7.out)
    have HK6 := H_ (HK6.out.apart U6 (Ne.symm HK7d.out)); have HB := H_ (HB.out.trans (U6.below HK7g.out)); have HK7 := H_ R6; clear U6 R6
    refine hK.out _ _ ?_
    clear hK K
    simp only [Act.put, pa, pb, pc]
    refine any_end (by kernel_rfl) ?_
    go_wp2_with fail
    go_ret
    exact ⟨_, rfl, becIs_two HG.out (HK6.out.cell 0) (HK7.out.cell 0) HSc.out (by rw [HV2.out]; exact HKl.out) HZ.out HK6g.out HK7g.out HSb.out, HB.out⟩
   ·simp only [qa, qb, qc, qd] at ho; subst ho
    refine ⟨by kernel_rfl, fun wn hl K hK => ?_⟩
    have HR := H_ (HR.out.later hl); have HZ := H_ (HZ.out.later hl); have HSc := H_ (HSc.out.later hl); have HK7 := H_ (HK7.out.later hl); have HB := H_ (below_on HB.out hl); clear hl
    refine late_allocS 152 rfl (by kernel_rfl) ?_; intro b6 wm N R
    have HK6g := H_ (nA HB.out N)
    have HK7d := H_ (show b7 ≠ b6 by have := HK7.out.lt; have := N.at_; omega)
    have HS6 := H_ (show sB ≠ b6 from Nat.ne_of_lt (by have h1 : sB < _ := cell_block HSc.out; have := N.at_; omega))
    have hb := N.below
    have HRn := H_ R
    clear N R
    refine hK.out _ _ hb ?_
    have HR := H_ (HR.out.later hb); have HZ := H_ (HZ.out.later hb); have HSc := H_ (HSc.out.later hb); have HK7 := H_ (HK7.out.later hb); have HB := H_ (below_on HB.out hb); clear hb
    have HK6 := HRn; clear HRn
    clear hK K
    simp only [Act.put, pa, pb, pc]
    refine l1 3 rfl fun wn hl K hK => ?_
    have HR := H_ (HR.out.later hl); have HZ := H_ (HZ.out.later hl); have HSc := H_ (HSc.out.later hl); have HK7 := H_ (HK7.out.later hl); have HK6 := H_ (HK6.out.later hl); have HB := H_ (below_on HB.out hl); clear hl
    refine we ?_
    refine (prom_any v0 _ HV.out (HT.out.on HB.out)).mono ?_; rintro e wm ⟨v, rfl, hv, hb⟩; have HKn := H_ ((lst_of hv).mono HB.out.size); clear hv; obtain ⟨ka, kc, rfl, hkl⟩ := HKn.out; clear hkl; refine ⟨_, rfl, ?_⟩
    refine hK.out _ _ hb ?_
    have HR := H_ (HR.out.later hb); have HZ := H_ (HZ.out.later hb); have HSc := H_ (HSc.out.later hb); have HK7 := H_ (HK7.out.later hb); have HK6 := H_ (HK6.out.later hb); have HB := H_ (below_on HB.out hb); clear hb
    have HKl := HKn; clear HKn
    clear hK K
    simp only [Act.put, pa, pb, pc]
    refine late_takeD 7 [8, 11] (by kernel_rfl) (by kernel_rfl) (by kernel_rfl) (by kernel_rfl) (by kernel_rfl) (fun _ _ d _ _ h => by cases d <;> exact h) (fun o ho => ?_)
    simp only [qa, qb, qc, qd] at ho; subst ho
    refine ⟨.int .u8 (oth (p 78)), Or.inl ⟨by kernel_rfl, fun w' hl => Or.inr ⟨_, _, (by go_simp), (ps_oth (p 78) w').mono (by rintro e w2 ⟨rfl, rfl⟩; exact ⟨rfl, Later.refl _⟩)⟩⟩, ?_⟩
    simp only [Act.put, pa, pb, pc]
    refine ltk 8 (by kernel_rfl) (fun _ _ d _ _ h => by cases d <;> exact h) (fun o ho => ?_)
    simp only [qa, qb, qc, qd] at ho; subst ho
    refine ⟨.int .i64 (homZ (oth (p 78))), Or.inl ⟨by kernel_rfl, fun w' hl => Or.inr ⟨_, _, (by go_simp), (ps_home (oth (p 78)) w').mono (by rintro e w2 ⟨rfl, rfl⟩; exact ⟨rfl, Later.refl _⟩)⟩⟩, ?_⟩
    simp only [Act.put, pa, pb, pc]
    refine late_then 11 (by kernel_rfl) (by kernel_rfl) (fun o ho => ?_)
    simp only [qa, qb, qc, qd] at ho; subst ho
    refine ⟨by kernel_rfl, fun wn hl K hK => ?_⟩
    have HR := H_ (HR.out.later hl); have HZ := H_ (HZ.out.later hl); have HSc := H_ (HSc.out.later hl); have HK7 := H_ (HK7.out.later hl); have HK6 := H_ (HK6.out.later hl); have HKl := H_ (HKl.out.later hl); have HB := H_ (below_on HB.out hl); clear hl
    refine late_blks 152 _ _ rfl b6 rfl ka (prL v0).length kc rfl _ _ HK6.out (by kernel_rfl) ?_; intro w5 U5 R5
    have HZ := H_ (HZ.out.apart HK6.out (by intro x; simp) U5); have HKl := H_ (HKl.out.apart HK6.out (by intro x; simp) U5); have HSc := H_ (HSc.out.apart U5 HS6.out)
    have HK7 := H_ (HK7.out.apart U5 HK7d.out); have HB := H_ (HB.out.trans (U5.below HK6g.out)); have HK6 := H_ R5; clear U5 R5
    refine hK.out _ _ ?_
    clear hK K
    simp only [Act.put, pa, pb, pc]
    refine any_one 12 (by kernel_rfl) (by kernel_rfl) (fun o ho => ?_)
    simp only [qa, qb, qc, qd] at ho; subst ho
    refine ⟨by kernel_rfl, fun K hK => ?_⟩
    refine late_blki 3 _ _ rfl b7 rfl .i64 (homZ (oth (p 78))) rfl _ _ HK7.out (by kernel_rfl) ?_; intro w6 U6 R6
    have HZ := H_ (HZ.out.apart HK7.out (by intro x; simp) U6); have HKl := H_ (HKl.out.apart HK7.out (by intro x; simp) U6); have HSc := H_ (HSc.out.apart U6 HS7.out)
    have HK6 := H_ (HK6.out.apart U6 (Ne.symm HK7d.out)); have HB := H_ (HB.out.trans (U6.below HK7g.out)); have HK7 := H_ R6; clear U6 R6
    refine hK.out _ _ ?_
    clear hK K
    simp only [Act.put, pa, pb, pc]
    refine any_end (by kernel_rfl) ?_
    go_wp2_with fail
    go_ret
    exact ⟨_, rfl, becIs_two HG.out (HK6.out.cell 0) (HK7.out.cell 0) HSc.out (by rw [HV2.out]; exact HKl.out) HZ.out HK6g.out HK7g.out HSb.out, HB.out⟩
end Go.Proofs.YteblmnbagbdiiaaGreatDoor
