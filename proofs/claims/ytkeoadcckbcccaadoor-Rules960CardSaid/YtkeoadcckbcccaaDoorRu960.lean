/-
  What Rules960 asks of a row, told over all 960 numbers; two lists that grow in turns; a few steps of late worlds.
-/
import Derived.Test.YtkeoadcckbcccaaDoorRuCount
import Derived.Great.BuildSlice
namespace Go.Proofs.YtkeoadcckbcccaaDoor
open Go.RowKit
set_option linter.unusedVariables false
theorem beq_ne {a b : Nat} (h : a ≠ b) : Nat.beq a b = false := by
  cases g : Nat.beq a b
  · rfl
  · exact absurd (Nat.eq_of_beq_eq_true g) h
/-- The places below k of a number. -/
def ixL (L : List Nat) (x : Nat) : Nat → List Nat
  | 0 => []
  | k + 1 => bif Nat.beq (L.getD k 0) x then ixL L x k ++ [k] else ixL L x k
theorem ix_yes {L : List Nat} {x k : Nat} (h : L.getD k 0 = x) : ixL L x (k + 1) = ixL L x k ++ [k] := by
  rw [ixL, h, show Nat.beq x x = true by simp]; rfl
theorem ix_no {L : List Nat} {x k : Nat} (h : L.getD k 0 ≠ x) : ixL L x (k + 1) = ixL L x k := by
  rw [ixL, beq_ne h]; rfl
theorem ix_len (L : List Nat) (x : Nat) : ∀ k, (ixL L x k).length ≤ k
  | 0 => Nat.le_refl _
  | k + 1 => by
    have := ix_len L x k
    unfold ixL
    cases Nat.beq (L.getD k 0) x
    · simp only [cond_false]; omega
    · simp only [cond_true, List.length_append, List.length_singleton]; omega
def kgZ (L : List Nat) : Nat → Int
  | 0 => -1
  | k + 1 => bif Nat.beq (L.getD k 0) 6 then (k : Int) else kgZ L k
theorem kg_yes {L : List Nat} {k : Nat} (h : L.getD k 0 = 6) : kgZ L (k + 1) = (k : Int) := by
  rw [kgZ, h]; rfl
theorem kg_no {L : List Nat} {k : Nat} (h : L.getD k 0 ≠ 6) : kgZ L (k + 1) = kgZ L k := by
  rw [kgZ, beq_ne h]; rfl
def cnF (L : List Nat) (c : Nat) : Nat → Int
  | 0 => 0
  | k + 1 => bif Nat.beq (L.getD k 0) c then cnF L c k + 1 else cnF L c k
theorem cn_rng (L : List Nat) (c : Nat) : ∀ k, 0 ≤ cnF L c k ∧ cnF L c k ≤ k
  | 0 => by unfold cnF; omega
  | k + 1 => by
    have := cn_rng L c k
    unfold cnF
    cases Nat.beq (L.getD k 0) c
    · simp only [cond_false]; omega
    · simp only [cond_true]; omega
theorem cn_step {L : List Nat} {k x : Nat} (h : L.getD k 0 = x) (c : Nat) : upd (fun c => cnF L c k) x (cnF L x k + 1) c = cnF L c (k + 1) := by
  rw [cnF, h]
  by_cases e : c = x
  · subst e
    rw [upd_same, show Nat.beq c c = true by simp]; rfl
  · rw [upd_other _ _ _ _ e, beq_ne (Ne.symm e)]; rfl
set_option maxRecDepth 100000 in
theorem row_kinds : ∀ n : Fin 960, ((rowL n.val).all fun x => Nat.ble 2 x && Nat.ble x 6) = true := by decide +kernel
set_option maxRecDepth 100000 in
theorem row_lists : ∀ n : Fin 960, (ixL (rowL n.val) 4 8).length = 2 ∧ (ixL (rowL n.val) 3 8).length = 2 ∧ ((ixL (rowL n.val) 4 8).all fun x => Nat.blt x 8) = true ∧ ((ixL (rowL n.val) 3 8).all fun x => Nat.blt x 8) = true := by decide +kernel
set_option maxRecDepth 100000 in
theorem row_king : ∀ n : Fin 960, decide (kgZ (rowL n.val) 8 < (((ixL (rowL n.val) 4 8).getD 0 0 : Nat) : Int)) = false ∧ decide ((((ixL (rowL n.val) 4 8).getD 1 0 : Nat) : Int) < kgZ (rowL n.val) 8) = false ∧
    (((((ixL (rowL n.val) 3 8).getD 0 0 : Nat) : Int) + (((ixL (rowL n.val) 3 8).getD 1 0 : Nat) : Int)) % 2 == 0) = false := by decide +kernel
set_option maxRecDepth 100000 in
theorem row_counts : ∀ n : Fin 960, cnF (rowL n.val) 0 8 = 0 ∧ cnF (rowL n.val) 1 8 = 0 ∧ cnF (rowL n.val) 2 8 = 2 ∧ cnF (rowL n.val) 3 8 = 2 ∧ cnF (rowL n.val) 4 8 = 2 ∧ cnF (rowL n.val) 5 8 = 1 ∧ cnF (rowL n.val) 6 8 = 1 := by decide +kernel
set_option maxRecDepth 100000 in
theorem row_files : ∀ n : Fin 960, rf0 (ofL (rowL n.val)) 8 = (((ixL (rowL n.val) 4 8).getD 1 0 : Nat) : Int) ∧ rf1 (ofL (rowL n.val)) 8 = (((ixL (rowL n.val) 4 8).getD 0 0 : Nat) : Int) := by decide +kernel
/-- A row's number. -/
def nxF (l : List Nat) (x : Nat) : Nat := l.findIdx fun y => Nat.beq y x
def nxG (l : List Nat) (x : Nat) : Nat := nxF l x + 1 + nxF (l.drop (nxF l x + 1)) x
def cB (a : Nat) : Nat := [0, 4, 7, 9, 10].getD a 0
def decL (l : List Nat) : Nat :=
  (bif Nat.beq (nxF l 3 % 2) 1 then (nxF l 3 - 1) / 2 + 4 * (nxG l 3 / 2) else (nxG l 3 - 1) / 2 + 4 * (nxF l 3 / 2)) + 16 * ((l.take (nxF l 5)).filter fun x => !Nat.beq x 3).length +
    96 * (cB (nxF (l.filter fun x => !Nat.beq x 3 && !Nat.beq x 5) 2) + (nxG (l.filter fun x => !Nat.beq x 3 && !Nat.beq x 5) 2 - nxF (l.filter fun x => !Nat.beq x 3 && !Nat.beq x 5) 2 - 1))
set_option maxRecDepth 100000 in
theorem dec_row : ∀ n : Fin 960, decL (rowL n.val) = n.val := by decide +kernel
theorem posN_inj {n m : Nat} (hn : n < 960) (hm : m < 960) (h : posA (posN n) = posA (posN m)) : n = m := by
  have e : rowL n = rowL m := by
    apply List.ext_getElem
    · rw [(rowZ_rep n).len, (rowZ_rep m).len]
    · intro j h1 h2
      have hj : j < 8 := by rwa [(rowZ_rep n).len] at h1
      have := posA_inj h (1 + j) (by omega)
      rw [posN_up n j hj, posN_up m j hj, List.getD_eq_getElem?_getD, List.getD_eq_getElem?_getD, List.getElem?_eq_getElem h1, List.getElem?_eq_getElem h2] at this
      simp only [Option.getD_some] at this
      omega
  have a := dec_row ⟨n, hn⟩
  have b := dec_row ⟨m, hm⟩
  simp only at a b
  rw [← a, ← b, e]
/-- The cells of a first position, rank by rank. -/
theorem posN_lo (n j : Nat) (hj : j < 8) : posN n (1 + (56 + j)) = ((8 + (rowL n).getD j 0 : Nat) : Int) := by
  show bothP 1 (rowZ n) _ = _
  rw [both_lin _ _ (by omega)]
  have := (rowZ_rep n).at_ j hj
  unfold linG loR
  rw [if_neg (by omega), if_neg (by omega), if_neg (by omega), if_neg (by omega), if_neg (by omega), if_pos (by omega), show 1 + (56 + j) - 57 = j by omega, this]
  omega
theorem posN_p1 (n j : Nat) (hj : j < 8) : posN n (1 + (8 + j)) = 1 := by
  show bothP 1 (rowZ n) _ = _
  rw [both_lin _ _ (by omega)]
  unfold linG
  rw [if_neg (by omega), if_neg (by omega), if_pos (by omega)]
theorem posN_p9 (n j : Nat) (hj : j < 8) : posN n (1 + (48 + j)) = 9 := by
  show bothP 1 (rowZ n) _ = _
  rw [both_lin _ _ (by omega)]
  unfold linG
  rw [if_neg (by omega), if_neg (by omega), if_neg (by omega), if_neg (by omega), if_pos (by omega)]
theorem posN_mid (n s : Nat) (h0 : 16 ≤ s) (h1 : s < 48) : posN n (1 + s) = 0 := by
  show bothP 1 (rowZ n) _ = _
  rw [both_lin _ _ (by omega)]
  unfold linG
  rw [if_neg (by omega), if_neg (by omega), if_neg (by omega), if_pos (by omega)]
theorem posN_rk (n : Nat) (hn : n < 960) : posN n 79 = (((ixL (rowL n) 4 8).getD 1 0 : Nat) : Int) ∧ posN n 80 = (((ixL (rowL n) 4 8).getD 0 0 : Nat) : Int) ∧ posN n 81 = (((ixL (rowL n) 4 8).getD 1 0 : Nat) : Int) ∧ posN n 82 = (((ixL (rowL n) 4 8).getD 0 0 : Nat) : Int) := by
  obtain ⟨h0, h1⟩ := row_files ⟨n, hn⟩
  simp only at h0 h1
  have e0 : rf0 (rowZ n) 8 = rf0 (ofL (rowL n)) 8 := rf0_ext 8 fun j hj => (rowZ_rep n).at_ j hj
  have e1 : rf1 (rowZ n) 8 = rf1 (ofL (rowL n)) 8 := rf1_ext 8 fun j hj => (rowZ_rep n).at_ j hj
  rw [← h0, ← h1, ← e0, ← e1]
  refine ⟨?_, ?_, ?_, ?_⟩ <;> (show bothP 1 (rowZ n) _ = _; rw [both_lin _ _ (by omega)]; rfl)
/-- Standard's first position is that of 518 but for the variant. -/
theorem std_518 : posA (startP 0) = posA (upd (posN 518) 0 0) := posA_ext fun i hi => by
  have e : posN 518 i = bothP 1 chR i := by
    have := start_Q 1 i hi
    rw [start_1] at this
    exact this
  have key : ∀ i : Fin 88, startP 0 i.val = upd (bothP 1 chR) 0 0 i.val := by decide +kernel
  have k := key ⟨i, hi⟩
  simp only at k
  rw [k]
  unfold upd
  by_cases h : i = 0
  · rw [if_pos h, if_pos h]
  · rw [if_neg h, if_neg h, e]
theorem wf_zero (p : Nat → Int) (h : WfP p) : WfP (upd p 0 0) := fun i hi => by
  by_cases e : i = 0
  · subst e; rw [upd_same]; rfl
  · rw [upd_other _ _ _ _ e]; exact h i hi
/-! Two lists that grow in turns. -/
theorem listedK_keep {K : IntKind} {e : TypeId} {B : Nat} {l : List Nat} {v : Value} {w w' : World} (h : ListedK K e B l v w) (hb : ∀ g, v.ownBlock = some g → w'.heap[g]? = w.heap[g]?) : ListedK K e B l v w' := by
  refine ⟨h.1, ?_⟩
  rcases h.2 with hn | ⟨g, cap, cur, hv, hB, hg, rest⟩
  · exact .inl hn
  · exact .inr ⟨g, cap, cur, hv, hB, (hb g (by rw [hv]; rfl)).trans hg, rest⟩
def Asunder (u v : Value) : Prop := ∀ g, u.ownBlock = some g → v.ownBlock = some g → False
theorem Asunder.symm {u v : Value} (h : Asunder u v) : Asunder v u := fun g a b => h g b a
theorem two_grow {K : IntKind} {e : TypeId} {B k : Nat} {l m : List Nat} {u u' v : Value} {wr w1 : World} {o : Obj} (h : ListedK K e B l u wr) (h2 : ListedK K e B m v wr) (ha : Asunder u v) (hB : B ≤ wr.heap.size)
    (hown' : w1.ownsRow B e 1 u' (l.length + 1) (rowK K l ++ [.int K (k : Int)])) (hgrow : (wr.alloc o).grownBy w1 u.ownBlock) (hnew : u'.ownBlock = u.ownBlock ∨ u'.ownBlock = some (wr.heap.size + 1)) :
    ListedK K e B (l ++ [k]) u' w1 ∧ ListedK K e B m v w1 ∧ Asunder u' v ∧ Below B wr w1 := by
  obtain ⟨h3, h4⟩ := listedK_grow h (Below.refl B wr) hB hown' hgrow
  have hs : (wr.alloc o).heap.size = wr.heap.size + 1 := by show (wr.heap.push o).size = _; simp
  refine ⟨h3, listedK_keep h2 fun g hg => ?_, fun g hg hv => ?_, h4⟩
  · have hlt := (World.ownsRow.lt h2 g hg).2
    rw [hgrow.block g (by omega) (fun e => ha g e.symm hg)]
    exact heap_alloc_old wr o hlt
  · have hlt := (World.ownsRow.lt h2 g hv).2
    rcases hnew with h5 | h5
    · exact ha g (h5.symm.trans hg) hv
    · rw [h5] at hg
      have := Option.some.inj hg
      omega
theorem listedK_apart {K : IntKind} {e : TypeId} {B c : Nat} {l : List Nat} {v : Value} {w w' : World} (h : ListedK K e B l v w) (hu : Upd c w w') (hc : c < B) : ListedK K e B l v w' :=
  listedK_keep h fun g hg => hu.block g (by have := (World.ownsRow.lt h g hg).1; omega)
/-! Late steps. -/
theorem late_allocB {o : Oper} {a : Act} {w : World} {K : Act → World → Prop} {Q : Exit → Act → World → Prop} (T : TypeId) (ho : o.op = .alloc T) (zs : Array Value) (hz : (Tryd.prog.info? T).map (fun i => (i.zero, i.size)) = some (some (.agg zs), zs.size))
    (h : ∀ b w', New b w w' → Blk w' b T zs → K (a.put o.dst (.pointer (some ⟨b, 0, none⟩))) w') : Wp Tryd.prog o a w K Q := ⟨by
  have hk := h _ _ (New.alloc w _) (heap_alloc_new w (.cells zs T))
  have hzr : ∀ w, (zeroValue T).run Tryd.prog w = .ok (.agg zs) w := fun w => by
    cases hq : Tryd.prog.info? T with
    | none => simp [hq] at hz
    | some i => simp [hq] at hz; simp [zeroValue, typeInfo, hq, hz.1]
  unfold Oper.wp execOp
  simp only [ho, Instr.alloc, Sem.run_bind, Sem.run_pure, Result.andThen_ok, hzr]
  exact hk⟩
theorem late_storeB {o : Oper} {a : Act} {w : World} {K : Act → World → Prop} {Q : Exit → Act → World → Prop} (T : TypeId) (x y : Operand) (ho : o.op = .store T x y) (b : Nat) (hx : a.eval x = .pointer (some ⟨b, 0, none⟩)) (cs ds : Array Value) (hy : a.eval y = .agg ds) (hr : Blk w b T cs)
    (hs : ds.size = cs.size) (h1 : ds.all (·.oneCell') = true) (hi : (Tryd.prog.info? T).map (·.size) = some ds.size)
    (h : ∀ w', Upd b w w' → Blk w' b T ds → K (a.put o.dst undef) w') : Wp Tryd.prog o a w K Q :=
  ⟨wp_store_mid T x y ho b 0 ds hx hy (hr.there 0 ds.size (by omega)) hi h1 (h _ (Upd.setCells _ _ _ _) (hr.whole hs))⟩
theorem run_neqA {o : Oper} {a : Act} {w : World} (T : TypeId) (x y : Operand) (ho : o.op = .binOp .neq T x y T) (cs : Array Value) (hx : a.eval x = .agg cs) (hy : a.eval y = .agg cs) (hg : Tryd.prog.eqGuardType Tryd.prog.depth T = false)
    (m : Nat) (hk : Tryd.prog.keyTypeAt m T = true) (hm : m ≤ 10000) (hf : (Value.agg cs).formed Tryd.prog T = true) (hl : (Tryd.prog.keyLits m T cs.toList).isSome = true) : (execOp a.eval o).run Tryd.prog w = .ok (.value (.bool false)) w := by
  unfold execOp
  simp only [ho, hx, hy, Sem.run_bind, run_eqGuard_agg w _ _ _ _ _ _ hg, Result.andThen_ok, (same_agg hk hm hf hl w).2]
  rfl
def cn7 : Array Value := #[.int .i64 0, .int .i64 0, .int .i64 2, .int .i64 2, .int .i64 2, .int .i64 1, .int .i64 1]
theorem arr_seven (f : Nat → Int) : arrA 7 .i64 f = #[.int .i64 (f 0), .int .i64 (f 1), .int .i64 (f 2), .int .i64 (f 3), .int .i64 (f 4), .int .i64 (f 5), .int .i64 (f 6)] := by kernel_rfl
theorem size46 : (Tryd.prog.info? 46).map (·.size) = some 7 := by kernel_rfl
theorem zero46 : (Tryd.prog.info? 46).map (fun i => (i.zero, i.size)) = some (some (.agg (arrA 7 .i64 zeroP)), 7) := by kernel_rfl
theorem guard46 : Tryd.prog.eqGuardType Tryd.prog.depth 46 = false := by kernel_rfl
theorem guard35 : Tryd.prog.eqGuardType Tryd.prog.depth 35 = false := by kernel_rfl
theorem lits35 (a b : Nat) (ha : a < 8) (hb : b < 8) : (Tryd.prog.keyLits 2 35 [.int .i8 (a : Int), .int .i8 (b : Int)]).isSome = true := by
  have key : ∀ a b : Fin 8, (Tryd.prog.keyLits 2 35 [.int .i8 (a.val : Int), .int .i8 (b.val : Int)]).isSome = true := by decide +kernel
  exact key ⟨a, ha⟩ ⟨b, hb⟩
theorem part_two {p : Nat → Int} {o : Nat} {x y : Int} (ho : o = 79 ∨ o = 81) (h0 : p o = x) (h1 : p (o + 1) = y) : partL p o 2 = [.int .i8 x, .int .i8 y] := by
  show [Value.int (kAt o) (p o), .int (kAt (o + 1)) (p (o + 1))] = _
  rw [h0, h1]
  rcases ho with rfl | rfl <;> rfl
theorem all_lt {l : List Nat} {m i : Nat} (h : (l.all fun x => Nat.blt x m) = true) (hi : i < l.length) : l.getD i 0 < m := by
  have := List.all_eq_true.1 h (l[i]) (List.getElem_mem hi)
  rw [List.getD_eq_getElem?_getD, List.getElem?_eq_getElem hi]
  simpa using this
theorem row_rng (n j : Nat) (hn : n < 960) (hj : j < 8) : 2 ≤ (rowL n).getD j 0 ∧ (rowL n).getD j 0 ≤ 6 := by
  have hl : j < (rowL n).length := by rw [(rowZ_rep n).len]; exact hj
  have := List.all_eq_true.1 (row_kinds ⟨n, hn⟩) ((rowL n)[j]) (List.getElem_mem hl)
  rw [List.getD_eq_getElem?_getD, List.getElem?_eq_getElem hl]
  simpa using this
end Go.Proofs.YtkeoadcckbcccaaDoor
