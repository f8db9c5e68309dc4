/-
  Contract of the program's written (layer 10): a position's fields, put together.
-/
import Derived.Test.YtjbfjohgfbipgaaGreatDoorFpBaseB
import Derived.Test.YtjbfjohgfbipgaaGreatDoorFpCanF
import Derived.Great.BuildSlice
import Derived.Test.YtjbfjohgfbipgaaGreatDoorLaterD
namespace Go.Proofs.YtjbfjohgfbipgaaGreatDoor
open Go.RowKit
set_option linter.unusedVariables false
set_option linter.unusedSimpArgs false

def trT (p : Nat → Int) : List UInt8 := bif p 78 == 0 then [119] else [98]
def paT (p : Nat → Int) : List UInt8 := bif p 83 == -1 then [45] else sqL (p 83)
def ckF (p : Nat → Int) : Nat → Int := fun j => p (84 + j)
def fldA (p : Nat → Int) : List (List UInt8) := [bdL p 8 ++ poX p, trT p, roT p, paT p]
def fldB (p : Nat → Int) : List (List UInt8) := bif p 0 == 5 then fldA p ++ [ckT (ckF p) 2] else fldA p
def fldC (p : Nat → Int) : List (List UInt8) := fldB p ++ [digL (p 86).toNat] ++ [digL (p 87).toNat]
theorem fld_join (p : Nat → Int) (h : -1 ≤ p 83) : [(32 : UInt8)].intercalate (fldC p) = fenT6 p := by
  have h83 : decide (p 83 < 0) = (p 83 == -1) := by
    rw [Bool.eq_iff_iff, decide_eq_true_eq, beq_iff_eq]; omega
  unfold fldC fldB fldA fenT6 fenT5 fenT4 fenT3 fenT2 fenT1 trT paT
  rw [h83]
  have e1 : (bif p 0 == 2 then poT p else []) = poX p := rfl
  rw [e1]
  have e2 : ckT (ckF p) 2 = [43] ++ digL (p 84).toNat ++ [43] ++ digL (p 85).toNat := by
    show ([] ++ (43 :: digL (p 84).toNat)) ++ (43 :: digL (p 85).toNat) = _
    simp
  rw [e2]
  cases (p 0 == 5) <;> cases (p 78 == 0) <;> cases (p 83 == -1) <;> simp [List.intercalate, List.intersperse]
theorem ListedS.later {e : TypeId} {B : Nat} {ls : List (List UInt8)} {v : Value} {w w' : World} (h : ListedS e B ls v w) (hb : Below w.heap.size w w') : ListedS e B ls v w' := listedS_below h hb
theorem infoStr2 : (Tryz.prog.info? 9).map (fun i => (i.zero, i.size)) = some (some (.string ⟨#[]⟩), 1) := by kernel_rfl
theorem fill2 (a b : ByteArray) : Instr.fill (fun i => some (i * 1, 1)) ((Array.range (2 * 1)).map ((Value.string ⟨#[]⟩).cells[· % (Value.string ⟨#[]⟩).cells.size]!)) [(0, .string a), (1, .string b)] = some #[.string a, .string b] := by kernel_rfl
theorem fill4 (a b c d : ByteArray) : Instr.fill (fun i => some (i * 1, 1)) ((Array.range (4 * 1)).map ((Value.string ⟨#[]⟩).cells[· % (Value.string ⟨#[]⟩).cells.size]!)) [(0, .string a), (1, .string b), (2, .string c), (3, .string d)] = some #[.string a, .string b, .string c, .string d] := by kernel_rfl
/-- A slice of texts, made of them. -/
theorem late_strs {o : Oper} {a : Act} {w : World} {K : Act → World → Prop} {Q : Exit → Act → World → Prop} (n : Nat) (hn : 0 < n ∧ n ≤ 100) (parts : Array (Nat × Operand)) (ho : o.op = .buildSlice 42 n parts) (cs : Array Value)
    (ps : List (Nat × Value)) (hps : (parts.map fun (i, x) => (i, a.eval x)).toList = ps) (hp : Instr.fill (fun i => some (i * 1, 1)) ((Array.range (n * 1)).map ((Value.string ⟨#[]⟩).cells[· % (Value.string ⟨#[]⟩).cells.size]!)) ps = some cs)
    (h : ∀ b w', New b w w' → Blk w' b 9 cs → K (a.put o.dst (.slice (some ⟨b, 0, none⟩) n n)) w') : Wp Tryz.prog o a w K Q := ⟨by
  have hk := h _ _ (New.alloc w _) (heap_alloc_new w (.cells cs 9))
  cases hq : Tryz.prog.info? 9 with
  | none => have := infoStr2; simp [hq] at this
  | some i =>
    have hi := infoStr2
    simp only [hq, Option.map_some, Option.some.injEq, Prod.mk.injEq] at hi
    refine wp_buildSlice 42 9 n parts ho cs i (.string ⟨#[]⟩) Tryz.underlying42 hq hi.1 (by rw [hi.2]; omega) (by rw [hi.2]; omega) ?_ hk
    rw [hi.2, hps]
    exact hp⟩
theorem listedS_new {w : World} {b B n : Nat} {ls : List (List UInt8)} (hb : Blk w b 9 (rowS ls).toArray) (hB : B ≤ b) (hn : n = ls.length) (hl : ls.length ≤ 100) : ListedS 9 B ls (.slice (some ⟨b, 0, none⟩) n n) w := by
  subst hn
  refine ⟨by simp [rowS], .inr ⟨b, ls.length, _, rfl, hB, hb, Nat.le_refl _, by unfold maxLen; omega, by simp [rowS], ?_⟩⟩
  rw [List.take_of_length_le (by simp [rowS])]
theorem grown_two {e : TypeId} {B : Nat} {ls : List (List UInt8)} {v v' : Value} {l m : List UInt8} {w wr w1 : World} (h : ListedS e B ls v wr) (hb : Below B w wr) (hB : B ≤ wr.heap.size)
    (hown' : w1.ownsRow B e 1 v' (ls.length + 2) (rowS ls ++ [.string (bz l), .string (bz m)])) (hgrow : wr.grownBy w1 v.ownBlock) :
    ListedS e B (ls ++ [l] ++ [m]) v' w1 ∧ Below B w w1 := by
  refine ⟨?_, hb.grown hgrow hB (fun j hj => (h.lt j hj).1)⟩
  unfold ListedS
  rw [rowS_snoc, rowS_snoc, List.append_assoc]; simpa using hown'
theorem poX_len {p : Nat → Int} (hp : FitF p) : (poX p).length ≤ 5001 := by
  have := poT_len hp
  unfold poX
  cases (p 0 == 2)
  · exact Nat.zero_le _
  · exact this
theorem wrB_parts {p : Nat → Int} (h : wrB p = true) : p 0 < 9 ∧ p 78 ≤ 1 ∧ -1 ≤ p 83 ∧ ckAll p = true := by
  rw [can_eq] at h
  simp only [Bool.and_eq_true, decide_eq_true_eq] at h
  exact ⟨h.1, h.2.1, h.2.2.1.1, h.2.2.2.2.2.2.2.1⟩
theorem wrB_pass {p : Nat → Int} (h : wrB p = true) : -1 ≤ p 83 := (wrB_parts h).2.2.1
theorem wrB_turn {p : Nat → Int} (h : wrB p = true) : p 78 ≤ 1 := (wrB_parts h).2.1
theorem wrB_chk {p : Nat → Int} (h : wrB p = true) (k : Nat) (hk : k < 2) : p (84 + k) ≤ 3 := by
  have hc := (wrB_parts h).2.2.2
  unfold ckAll at hc
  rw [Bool.and_eq_true] at hc
  have key : ∀ k, wrG p k = true → p (84 + k) ≤ 3 := fun k hg => by
    unfold wrG at hg
    simp only [Bool.not_eq_true', Bool.or_eq_false_iff, decide_eq_false_iff_not] at hg
    omega
  have : k = 0 ∨ k = 1 := by omega
  rcases this with rfl | rfl
  · exact key 0 hc.1
  · exact key 1 hc.2
theorem kat_ck : ∀ j, j < 2 → kAt (84 + j) = .u8 := fun j hj => kf_u8 (by omega)
theorem cells_two {w : World} {b : Nat} {T : TypeId} {x y : Value} (h : Blk w b T #[x, y]) : ∀ j u, [x, y][j]? = some u → w.cell? ((⟨b, 0, none⟩ : Addr).add j) = some u := fun j u hj => by
  have := h.cell j
  rw [show (#[x, y] : Array Value)[j]? = [x, y][j]? by simp, hj] at this
  rw [← this]
  show w.cell? (Addr.add ⟨b, 0, none⟩ j) = _
  unfold Addr.add
  by_cases h0 : j = 0
  · subst h0; rfl
  · simp [h0]
theorem fldC_len {p : Nat → Int} (h : (fldB p).length ≤ 5) : 0 < (fldC p).length ∧ (fldC p).length ≤ 7 := by
  unfold fldC; simp only [List.length_append, List.length_singleton]; omega
set_option maxRecDepth 100000 in
set_option maxHeartbeats 8000000 in
theorem written_any (p : Nat → Int) (w : World) (hp : FitF p) (hw : wrB p = true) (hT : TabVar w) (hC : TabCorn w) (hPw : TabPow w) : Calls Tryz.prog 16 #[.agg (posA p)] w (StL (bz (fenT6 p)) w) := by
  have HP := Lib.hid hp
  have HT := Lib.hid hT
  have HC := Lib.hid hC
  have HPw := Lib.hid hPw
  have HF := Lib.hid (by kernel_rfl : Tryz.prog.follows .mixedOrders = true)
  have hcl := wrB_clock hw
  have HRk := Lib.hid (wrB_rook hw)
  have hps : -1 ≤ p 83 := by have := wrB_pass hw; omega
  have htn : p 78 = 0 ∨ p 78 = 1 := by have := wrB_turn hw; have := hp.turn; omega
  have HJ := Lib.hid (fld_join p hps)
  have HL6 := Lib.hid (T6_len hp)
  obtain ⟨i0, hi, hz0, hz1, hz2⟩ := info_parts infoStr
  obtain ⟨x78, h78⟩ : ∃ x, p 78 = x := ⟨_, rfl⟩
  obtain ⟨x83, h83⟩ : ∃ x, p 83 = x := ⟨_, rfl⟩
  obtain ⟨hn, h86⟩ : ∃ n : Nat, p 86 = (n : Int) := ⟨(p 86).toNat, (Int.toNat_of_nonneg hcl.1).symm⟩
  obtain ⟨fn, h87⟩ : ∃ n : Nat, p 87 = (n : Int) := ⟨(p 87).toNat, (Int.toNat_of_nonneg hcl.2.1).symm⟩
  obtain ⟨v, h0⟩ : ∃ x, p 0 = x := ⟨_, rfl⟩
  have H78 := Lib.hid h78
  have H83 := Lib.hid h83
  have H86 := Lib.hid h86
  have H87 := Lib.hid h87
  have H0 := Lib.hid h0
  have HTn := Lib.hid (show x78 = 0 ∨ x78 = 1 by rw [← h78]; exact htn)
  have HPs := Lib.hid (show -1 ≤ x83 ∧ x83 ≤ 63 by rw [← h83]; exact ⟨hps, hcl.2.2.2.2⟩)
  have HHn := Lib.hid (show hn < 10 ^ 18 by omega)
  have HFn := Lib.hid (show fn < 10 ^ 18 by omega)
  have HCk := Lib.hid (show ∀ k, k < 2 → 0 ≤ ckF p k ∧ ckF p k ≤ 99 from fun k hk => ⟨(hp.chk (84 + k) (by omega) (by omega)).1, by have := wrB_chk hw k hk; show p (84 + k) ≤ 99; omega⟩)
  obtain ⟨t1, ht1⟩ : ∃ t, bz (bdL p 8) = t := ⟨_, rfl⟩
  obtain ⟨t2, ht2⟩ : ∃ t, bz (poX p) = t := ⟨_, rfl⟩
  obtain ⟨t3, ht3⟩ : ∃ t, bz (trT p) = t := ⟨_, rfl⟩
  obtain ⟨t4, ht4⟩ : ∃ t, bz (roT p) = t := ⟨_, rfl⟩
  obtain ⟨t5, ht5⟩ : ∃ t, bz (paT p) = t := ⟨_, rfl⟩
  obtain ⟨t6, ht6⟩ : ∃ t, bz (digL hn) = t := ⟨_, rfl⟩
  obtain ⟨t7, ht7⟩ : ∃ t, bz (digL fn) = t := ⟨_, rfl⟩
  have H1 := Lib.hid ht1
  have H2 := Lib.hid ht2
  have H3 := Lib.hid (show bz (bif x78 == 0 then [119] else [98]) = t3 by rw [← h78]; exact ht3)
  have H4 := Lib.hid ht4
  have H5 := Lib.hid (show bz (bif x83 == -1 then [45] else sqL x83) = t5 by rw [← h83]; exact ht5)
  have H6 := Lib.hid ht6
  have H7 := Lib.hid ht7
  have k1 := cat_ok (a := t1) (b := t2) (by rw [← ht1, bz_size]; have := bdL_len p 8; omega) (by rw [← ht2, bz_size]; have := poX_len hp; omega)
  have HA := Lib.hid (show rowS (fldA p) = [.string (t1 ++ t2), .string t3, .string t4, .string t5] by
    show [Value.string (bz (bdL p 8 ++ poX p)), .string (bz (trT p)), .string (bz (roT p)), .string (bz (paT p))] = _
    rw [← bz_app, ht1, ht2, ht3, ht4, ht5])
  have HBf := Lib.hid (show (p 0 == 5) = true → fldB p = fldA p ++ [ckT (ckF p) 2] from fun h => by unfold fldB; rw [h]; rfl)
  have HBn := Lib.hid (show (p 0 == 5) = false → fldB p = fldA p from fun h => by unfold fldB; rw [h]; rfl)
  have HCf := Lib.hid (show fldC p = fldB p ++ [digL hn] ++ [digL fn] by unfold fldC; rw [h86, h87, Int.toNat_natCast, Int.toNat_natCast])
  have HBl5 := Lib.hid (show (fldB p).length ≤ 5 by unfold fldB; cases (p 0 == 5) <;> simp [fldA])
  clear hp hw hT hC hPw hcl hps htn h78 h83 h86 h87 h0 ht1 ht2 ht3 ht4 ht5 ht6 ht7
  go_enter Tryz.func16, Tryz.ntmps16
  go_wp2_with (refine step_box rfl _ rfl p rfl ?_; intro b1 w1 N R; have HB0 := Lib.hid N.below; have HR := Lib.hid R; clear N R)
  have HB := Lib.hid (Below.refl w1.heap.size w1)
  have HRw1 := HR
  have HB1 := Lib.hid (show b1 < w1.heap.size from HR.out.lt)
  have HW1 := Lib.hid (show w1.heap.size ≤ w1.heap.size from Nat.le_refl _)
  refine late_begin 15 (by kernel_rfl) ?_
  refine late_take 0 (by kernel_rfl) (by kernel_rfl) (by kernel_rfl) (by kernel_rfl) (by kernel_rfl) (fun _ _ d _ _ h => by cases d <;> exact h) (fun o ho => ?_)
  simp only [List.getElem?_toArray, List.getElem?_cons_zero, List.getElem?_cons_succ, Option.some.injEq] at ho; subst ho
  refine ⟨_, Or.inl ⟨by kernel_rfl, fun w' hl => Or.inl (run_load _ rfl _ rfl (p) (HR.out.later hl))⟩, ?_⟩
  simp only [Act.put, List.setIfInBounds_toArray, List.set_cons_zero, List.set_cons_succ]
  refine late_take 2 (by kernel_rfl) (by kernel_rfl) (by kernel_rfl) (by kernel_rfl) (by kernel_rfl) (fun _ _ d _ _ h => by cases d <;> exact h) (fun o ho => ?_)
  simp only [List.getElem?_toArray, List.getElem?_cons_zero, List.getElem?_cons_succ, Option.some.injEq] at ho; subst ho
  refine ⟨_, Or.inl ⟨by kernel_rfl, fun w' hl => Or.inl (run_load _ rfl _ rfl (p) (HR.out.later hl))⟩, ?_⟩
  simp only [Act.put, List.setIfInBounds_toArray, List.set_cons_zero, List.set_cons_succ]
  refine late_take 5 (by kernel_rfl) (by kernel_rfl) (by kernel_rfl) (by kernel_rfl) (by kernel_rfl) (fun _ _ d _ _ h => by cases d <;> exact h) (fun o ho => ?_)
  simp only [List.getElem?_toArray, List.getElem?_cons_zero, List.getElem?_cons_succ, Option.some.injEq] at ho; subst ho
  refine ⟨.pointer (some ⟨b1, 78, none⟩), Or.inl ⟨by kernel_rfl, fun w' hl => Or.inl ?_⟩, ?_⟩
  · (go_simp; first | done | (with_reducible rfl) | (intro hbad; exfalso; omega))
  simp only [Act.put, List.setIfInBounds_toArray, List.set_cons_zero, List.set_cons_succ]
  refine late_take 6 (by kernel_rfl) (by kernel_rfl) (by kernel_rfl) (by kernel_rfl) (by kernel_rfl) (fun _ _ d _ _ h => by cases d <;> exact h) (fun o ho => ?_)
  simp only [List.getElem?_toArray, List.getElem?_cons_zero, List.getElem?_cons_succ, Option.some.injEq] at ho; subst ho
  refine ⟨.int .u8 x78, Or.inl ⟨by kernel_rfl, fun w' hl => Or.inl (run_get 5 _ rfl b1 78 rfl Tryz.underlying5 rfl (.int .u8 x78) (by rw [(HR.out.later hl).cell 78 (by decide), show kAt 78 = .u8 from rfl, H78.out]))⟩, ?_⟩
  simp only [Act.put, List.setIfInBounds_toArray, List.set_cons_zero, List.set_cons_succ]
  refine late_take 8 (by kernel_rfl) (by kernel_rfl) (by kernel_rfl) (by kernel_rfl) (by kernel_rfl) (fun _ _ d _ _ h => by cases d <;> exact h) (fun o ho => ?_)
  simp only [List.getElem?_toArray, List.getElem?_cons_zero, List.getElem?_cons_succ, Option.some.injEq] at ho; subst ho
  refine ⟨_, Or.inl ⟨by kernel_rfl, fun w' hl => Or.inl (run_load _ rfl _ rfl (p) (HR.out.later hl))⟩, ?_⟩
  simp only [Act.put, List.setIfInBounds_toArray, List.set_cons_zero, List.set_cons_succ]
  refine late_take 10 (by kernel_rfl) (by kernel_rfl) (by kernel_rfl) (by kernel_rfl) (by kernel_rfl) (fun _ _ d _ _ h => by cases d <;> exact h) (fun o ho => ?_)
  simp only [List.getElem?_toArray, List.getElem?_cons_zero, List.getElem?_cons_succ, Option.some.injEq] at ho; subst ho
  refine ⟨.pointer (some ⟨b1, 83, none⟩), Or.inl ⟨by kernel_rfl, fun w' hl => Or.inl ?_⟩, ?_⟩
  · (go_simp; first | done | (with_reducible rfl) | (intro hbad; exfalso; omega))
  simp only [Act.put, List.setIfInBounds_toArray, List.set_cons_zero, List.set_cons_succ]
  refine late_take 11 (by kernel_rfl) (by kernel_rfl) (by kernel_rfl) (by kernel_rfl) (by kernel_rfl) (fun _ _ d _ _ h => by cases d <;> exact h) (fun o ho => ?_)
  simp only [List.getElem?_toArray, List.getElem?_cons_zero, List.getElem?_cons_succ, Option.some.injEq] at ho; subst ho
  refine ⟨.int .i8 x83, Or.inl ⟨by kernel_rfl, fun w' hl => Or.inl (run_get 26 _ rfl b1 83 rfl Tryz.underlying26 rfl (.int .i8 x83) (by rw [(HR.out.later hl).cell 83 (by decide), show kAt 83 = .i8 from rfl, H83.out]))⟩, ?_⟩
  simp only [Act.put, List.setIfInBounds_toArray, List.set_cons_zero, List.set_cons_succ]
  refine late_one 1 (by kernel_rfl) (by kernel_rfl) (fun o ho => ?_)
  simp only [List.getElem?_toArray, List.getElem?_cons_zero, List.getElem?_cons_succ, Option.some.injEq] at ho; subst ho
  refine ⟨by kernel_rfl, fun wn hl K hK => ?_⟩
  have HR := Lib.hid (HR.out.later hl); have HB := Lib.hid (below_on HB.out hl); clear hl
  refine wp_enter _ _ (by go_simp; exact ⟨rfl, rfl⟩) ?_
  refine (boardText_any p _ HP.out.bd HP.out.prom).mono ?_; rintro e wm ⟨rfl, hb⟩; refine ⟨_, rfl, ?_⟩
  rw [H1.out]
  refine hK.out _ _ hb ?_
  have HR := Lib.hid (HR.out.later hb); have HB := Lib.hid (below_on HB.out hb); clear hb
  clear hK K
  simp only [Act.put, List.setIfInBounds_toArray, List.set_cons_zero, List.set_cons_succ]
  refine late_one 3 (by kernel_rfl) (by kernel_rfl) (fun o ho => ?_)
  simp only [List.getElem?_toArray, List.getElem?_cons_zero, List.getElem?_cons_succ, Option.some.injEq] at ho; subst ho
  refine ⟨by kernel_rfl, fun wn hl K hK => ?_⟩
  have HR := Lib.hid (HR.out.later hl); have HB := Lib.hid (below_on HB.out hl); clear hl
  refine wp_enter _ _ (by go_simp; exact ⟨rfl, rfl⟩) ?_
  refine (pocketsText_any p _ HP.out (HT.out.on (HB0.out.trans (HB.out.mono HB0.out.size)))).mono ?_; rintro e wm ⟨rfl, hb⟩; refine ⟨_, rfl, ?_⟩
  rw [H2.out]
  refine hK.out _ _ hb ?_
  have HR := Lib.hid (HR.out.later hb); have HB := Lib.hid (below_on HB.out hb); clear hb
  clear hK K
  simp only [Act.put, List.setIfInBounds_toArray, List.set_cons_zero, List.set_cons_succ]
  refine late_take 4 (by kernel_rfl) (by kernel_rfl) (by kernel_rfl) (by kernel_rfl) (by kernel_rfl) (fun _ _ d _ _ h => by cases d <;> exact h) (fun o ho => ?_)
  simp only [List.getElem?_toArray, List.getElem?_cons_zero, List.getElem?_cons_succ, Option.some.injEq] at ho; subst ho
  refine ⟨.string (t1 ++ t2), Or.inl ⟨by kernel_rfl, fun w' hl => Or.inl ?_⟩, ?_⟩
  · (go_simp <;> omega)
  simp only [Act.put, List.setIfInBounds_toArray, List.set_cons_zero, List.set_cons_succ]
  refine late_one 7 (by kernel_rfl) (by kernel_rfl) (fun o ho => ?_)
  simp only [List.getElem?_toArray, List.getElem?_cons_zero, List.getElem?_cons_succ, Option.some.injEq] at ho; subst ho
  refine ⟨by kernel_rfl, fun wn hl K hK => ?_⟩
  have HR := Lib.hid (HR.out.later hl); have HB := Lib.hid (below_on HB.out hl); clear hl
  refine wp_enter _ _ (by go_simp; exact ⟨rfl, rfl⟩) ?_
  refine (turnText_any x78 _ HTn.out).mono ?_; rintro e wm ⟨rfl, rfl⟩; refine ⟨_, rfl, ?_⟩
  rw [H3.out]
  refine hK.out _ _ (Later.refl _) ?_
  clear hK K
  simp only [Act.put, List.setIfInBounds_toArray, List.set_cons_zero, List.set_cons_succ]
  refine late_one 9 (by kernel_rfl) (by kernel_rfl) (fun o ho => ?_)
  simp only [List.getElem?_toArray, List.getElem?_cons_zero, List.getElem?_cons_succ, Option.some.injEq] at ho; subst ho
  refine ⟨by kernel_rfl, fun wn hl K hK => ?_⟩
  have HR := Lib.hid (HR.out.later hl); have HB := Lib.hid (below_on HB.out hl); clear hl
  refine wp_enter _ _ (by go_simp; exact ⟨rfl, rfl⟩) ?_
  refine (rooksText_any p _ HRk.out (HC.out.on (HB0.out.trans (HB.out.mono HB0.out.size)))).mono ?_; rintro e wm ⟨rfl, hb⟩; refine ⟨_, rfl, ?_⟩
  rw [H4.out]
  refine hK.out _ _ hb ?_
  have HR := Lib.hid (HR.out.later hb); have HB := Lib.hid (below_on HB.out hb); clear hb
  clear hK K
  simp only [Act.put, List.setIfInBounds_toArray, List.set_cons_zero, List.set_cons_succ]
  refine late_one 12 (by kernel_rfl) (by kernel_rfl) (fun o ho => ?_)
  simp only [List.getElem?_toArray, List.getElem?_cons_zero, List.getElem?_cons_succ, Option.some.injEq] at ho; subst ho
  refine ⟨by kernel_rfl, fun wn hl K hK => ?_⟩
  have HR := Lib.hid (HR.out.later hl); have HB := Lib.hid (below_on HB.out hl); clear hl
  refine wp_enter _ _ (by go_simp; exact ⟨rfl, rfl⟩) ?_
  refine (passingText_any x83 _ HPs.out.1 HPs.out.2).mono ?_; rintro e wm ⟨rfl, hb⟩; refine ⟨_, rfl, ?_⟩
  rw [H5.out]
  refine hK.out _ _ hb ?_
  have HR := Lib.hid (HR.out.later hb); have HB := Lib.hid (below_on HB.out hb); clear hb
  clear hK K
  simp only [Act.put, List.setIfInBounds_toArray, List.set_cons_zero, List.set_cons_succ]
  refine late_one 13 (by kernel_rfl) (by kernel_rfl) (fun o ho => ?_)
  simp only [List.getElem?_toArray, List.getElem?_cons_zero, List.getElem?_cons_succ, Option.some.injEq] at ho; subst ho
  refine ⟨by kernel_rfl, fun wn hl K hK => ?_⟩
  have HR := Lib.hid (HR.out.later hl); have HB := Lib.hid (below_on HB.out hl); clear hl
  refine late_strs 4 (by decide) _ rfl #[.string (t1 ++ t2), .string (t3), .string (t4), .string (t5)] _ (by kernel_rfl) (fill4 (t1 ++ t2) (t3) (t4) (t5)) ?_; intro b2 wm N R
  have hb := N.below
  have HGe := Lib.hid (show w1.heap.size ≤ b2 by have := HB.out.size; have := N.at_; omega)
  have HZ := Lib.hid R; clear N R
  refine hK.out _ _ hb ?_
  have HR := Lib.hid (HR.out.later hb); have HB := Lib.hid (below_on HB.out hb); clear hb
  clear hK K
  simp only [Act.put, List.setIfInBounds_toArray, List.set_cons_zero, List.set_cons_succ]
  refine late_take 14 (by kernel_rfl) (by kernel_rfl) (by kernel_rfl) (by kernel_rfl) (by kernel_rfl) (fun _ _ d _ _ h => by cases d <;> exact h) (fun o ho => ?_)
  simp only [List.getElem?_toArray, List.getElem?_cons_zero, List.getElem?_cons_succ, Option.some.injEq] at ho; subst ho
  apply Exists.intro
  refine ⟨Or.inl ⟨by kernel_rfl, fun w' hl => Or.inl ?_⟩, ?_⟩
  · (go_simp; try with_reducible rfl)
  simp only [Act.put, List.setIfInBounds_toArray, List.set_cons_zero, List.set_cons_succ]
  refine late_end (by kernel_rfl) (fun wn hl => ?_)
  have HR := Lib.hid (HR.out.later hl); have HZ := Lib.hid (HZ.out.later hl); have HB := Lib.hid (below_on HB.out hl); clear hl
  have HL := Lib.hid (listedS_new (B := w1.heap.size) (ls := fldA p) (n := 4) (show Blk wn b2 9 (rowS (fldA p)).toArray by rw [HA.out]; exact HZ.out) HGe.out rfl (by show (4 : Nat) ≤ 100; decide))
  have HCell := Lib.hid (show wn.cell? ⟨b1, 0, none⟩ = some (.int .u8 v) by rw [HR.out.cell 0 (by decide), H0.out]; rfl)
  clear HZ HGe
  have k0 := HCell.out
  cases h5 : (v == 5)
  · have HL := Lib.hid (show ListedS 9 w1.heap.size (fldB p) (.slice (some ⟨b2, 0, none⟩) 4 4) wn by rw [HBn.out (by rw [H0.out]; exact h5)]; exact HL.out)
    clear HCell
    go_wp2_with fail
    refine late_begin 8 (by kernel_rfl) ?_
    refine late_take 0 (by kernel_rfl) (by kernel_rfl) (by kernel_rfl) (by kernel_rfl) (by kernel_rfl) (fun _ _ d _ _ h => by cases d <;> exact h) (fun o ho => ?_)
    simp only [List.getElem?_toArray, List.getElem?_cons_zero, List.getElem?_cons_succ, Option.some.injEq] at ho; subst ho
    apply Exists.intro
    refine ⟨Or.inl ⟨by kernel_rfl, fun w' hl => Or.inl ?_⟩, ?_⟩
    · (go_simp; try with_reducible rfl)
    simp only [Act.put, List.setIfInBounds_toArray, List.set_cons_zero, List.set_cons_succ]
    refine late_takeD 1 [2, 3, 6, 7, 8] (by kernel_rfl) (by kernel_rfl) (by kernel_rfl) (by kernel_rfl) (by kernel_rfl) (fun _ _ d _ _ h => by cases d <;> exact h) (fun o ho => ?_)
    simp only [List.getElem?_toArray, List.getElem?_cons_zero, List.getElem?_cons_succ, Option.some.injEq] at ho; subst ho
    refine ⟨.pointer (some ⟨b1, 86, none⟩), Or.inl ⟨by kernel_rfl, fun w' hl => Or.inl ?_⟩, ?_⟩
    · (go_simp; first | done | (with_reducible rfl) | (intro hbad; exfalso; omega))
    simp only [Act.put, List.setIfInBounds_toArray, List.set_cons_zero, List.set_cons_succ]
    refine late_takeD 2 [3, 6, 7, 8] (by kernel_rfl) (by kernel_rfl) (by kernel_rfl) (by kernel_rfl) (by kernel_rfl) (fun _ _ d _ _ h => by cases d <;> exact h) (fun o ho => ?_)
    simp only [List.getElem?_toArray, List.getElem?_cons_zero, List.getElem?_cons_succ, Option.some.injEq] at ho; subst ho
    refine ⟨.int .i64 (hn : Int), Or.inl ⟨by kernel_rfl, fun w' hl => Or.inl (run_get 3 _ rfl b1 86 rfl Tryz.underlying3 rfl (.int .i64 (hn : Int)) (by rw [(HR.out.later hl).cell 86 (by decide), show kAt 86 = .i64 from rfl, H86.out]))⟩, ?_⟩
    simp only [Act.put, List.setIfInBounds_toArray, List.set_cons_zero, List.set_cons_succ]
    refine late_takeD 4 [5, 6, 7, 8] (by kernel_rfl) (by kernel_rfl) (by kernel_rfl) (by kernel_rfl) (by kernel_rfl) (fun _ _ d _ _ h => by cases d <;> exact h) (fun o ho => ?_)
    simp only [List.getElem?_toArray, List.getElem?_cons_zero, List.getElem?_cons_succ, Option.some.injEq] at ho; subst ho
    refine ⟨.pointer (some ⟨b1, 87, none⟩), Or.inl ⟨by kernel_rfl, fun w' hl => Or.inl ?_⟩, ?_⟩
    · (go_simp; first | done | (with_reducible rfl) | (intro hbad; exfalso; omega))
    simp only [Act.put, List.setIfInBounds_toArray, List.set_cons_zero, List.set_cons_succ]
    refine late_takeD 5 [6, 7, 8] (by kernel_rfl) (by kernel_rfl) (by kernel_rfl) (by kernel_rfl) (by kernel_rfl) (fun _ _ d _ _ h => by cases d <;> exact h) (fun o ho => ?_)
    simp only [List.getElem?_toArray, List.getElem?_cons_zero, List.getElem?_cons_succ, Option.some.injEq] at ho; subst ho
    refine ⟨.int .i64 (fn : Int), Or.inl ⟨by kernel_rfl, fun w' hl => Or.inl (run_get 3 _ rfl b1 87 rfl Tryz.underlying3 rfl (.int .i64 (fn : Int)) (by rw [(HR.out.later hl).cell 87 (by decide), show kAt 87 = .i64 from rfl, H87.out]))⟩, ?_⟩
    simp only [Act.put, List.setIfInBounds_toArray, List.set_cons_zero, List.set_cons_succ]
    refine late_one 3 (by kernel_rfl) (by kernel_rfl) (fun o ho => ?_)
    simp only [List.getElem?_toArray, List.getElem?_cons_zero, List.getElem?_cons_succ, Option.some.injEq] at ho; subst ho
    refine ⟨by kernel_rfl, fun wn hl K hK => ?_⟩
    have HR := Lib.hid (HR.out.later hl); have HL := Lib.hid (HL.out.later hl); have HB := Lib.hid (below_on HB.out hl); clear hl
    refine wp_enter _ _ (by go_simp; exact ⟨rfl, rfl⟩) ?_
    refine (itoa_any hn _ HHn.out (HPw.out.on (HB0.out.trans (HB.out.mono HB0.out.size)))).mono ?_; rintro e wm ⟨rfl, hb⟩; refine ⟨_, rfl, ?_⟩
    rw [H6.out]
    refine hK.out _ _ hb ?_
    have HR := Lib.hid (HR.out.later hb); have HL := Lib.hid (HL.out.later hb); have HB := Lib.hid (below_on HB.out hb); clear hb
    clear hK K
    simp only [Act.put, List.setIfInBounds_toArray, List.set_cons_zero, List.set_cons_succ]
    refine late_one 6 (by kernel_rfl) (by kernel_rfl) (fun o ho => ?_)
    simp only [List.getElem?_toArray, List.getElem?_cons_zero, List.getElem?_cons_succ, Option.some.injEq] at ho; subst ho
    refine ⟨by kernel_rfl, fun wn hl K hK => ?_⟩
    have HR := Lib.hid (HR.out.later hl); have HL := Lib.hid (HL.out.later hl); have HB := Lib.hid (below_on HB.out hl); clear hl
    refine wp_enter _ _ (by go_simp; exact ⟨rfl, rfl⟩) ?_
    refine (itoa_any fn _ HFn.out (HPw.out.on (HB0.out.trans (HB.out.mono HB0.out.size)))).mono ?_; rintro e wm ⟨rfl, hb⟩; refine ⟨_, rfl, ?_⟩
    rw [H7.out]
    refine hK.out _ _ hb ?_
    have HR := Lib.hid (HR.out.later hb); have HL := Lib.hid (HL.out.later hb); have HB := Lib.hid (below_on HB.out hb); clear hb
    clear hK K
    simp only [Act.put, List.setIfInBounds_toArray, List.set_cons_zero, List.set_cons_succ]
    refine late_one 7 (by kernel_rfl) (by kernel_rfl) (fun o ho => ?_)
    simp only [List.getElem?_toArray, List.getElem?_cons_zero, List.getElem?_cons_succ, Option.some.injEq] at ho; subst ho
    refine ⟨by kernel_rfl, fun wn hl K hK => ?_⟩
    have HR := Lib.hid (HR.out.later hl); have HL := Lib.hid (HL.out.later hl); have HB := Lib.hid (below_on HB.out hl); clear hl
    refine late_strs 2 (by decide) _ rfl #[.string (t6), .string (t7)] _ (by kernel_rfl) (fill2 (t6) (t7)) ?_; intro b2 wm N R
    have hb := N.below
    have HZ := Lib.hid R; clear N R
    refine hK.out _ _ hb ?_
    have HR := Lib.hid (HR.out.later hb); have HL := Lib.hid (HL.out.later hb); have HB := Lib.hid (below_on HB.out hb); clear hb
    clear hK K
    simp only [Act.put, List.setIfInBounds_toArray, List.set_cons_zero, List.set_cons_succ]
    refine late_then 8 (by kernel_rfl) (by kernel_rfl) (fun o ho => ?_)
    simp only [List.getElem?_toArray, List.getElem?_cons_zero, List.getElem?_cons_succ, Option.some.injEq] at ho; subst ho
    refine ⟨by kernel_rfl, fun wn hl K hK => ?_⟩
    have HR := Lib.hid (HR.out.later hl); have HL := Lib.hid (HL.out.later hl); have HZ := Lib.hid (HZ.out.later hl); have HB := Lib.hid (below_on HB.out hl); clear hl
    refine ⟨wp_append_own _ _ _ 42 rfl w1.heap.size 9 i0 (.string ⟨#[]⟩) 1 16 Tryz.underlying42 hi hz0 hz1 hz2 rfl (by decide) _ _ _ rfl HL.out ⟨b2, 0, none⟩ 2 2 [.string t6, .string t7] rfl rfl (cells_two HZ.out) (by simp [Value.oneCell']) (by have := HBl5.out; unfold maxLen; omega) (by have := HBl5.out; omega) HB.out.size ?_⟩
    intro v' wm hown hgr _
    rw [← H6.out, ← H7.out] at hown
    have HG := Lib.hid (grown_two HL.out HB.out HB.out.size hown hgr)
    rw [← HCf.out] at HG
    clear hown hgr
    refine hK.out _ _ ?_
    clear hK K
    simp only [Act.put, List.setIfInBounds_toArray, List.set_cons_zero, List.set_cons_succ]
    refine any_one 9 (by kernel_rfl) (by kernel_rfl) (fun o ho => ?_)
    simp only [List.getElem?_toArray, List.getElem?_cons_zero, List.getElem?_cons_succ, Option.some.injEq] at ho; subst ho
    refine ⟨by kernel_rfl, fun K hK => ?_⟩
    refine wp_value (by go_simp; try with_reducible rfl) ?_
    refine hK.out _ _ ?_
    clear hK K
    simp only [Act.put, List.setIfInBounds_toArray, List.set_cons_zero, List.set_cons_succ]
    refine any_end (by kernel_rfl) ?_
    obtain ⟨g, cap, hv, hg, hcap, hcells⟩ := listedS_open HG.out.1 (fldC_len HBl5.out).1
    subst hv
    have HJn := Lib.hid (join_any g cap (fldC p) [32] _ wm rfl hcells hg (by have := (fldC_len HBl5.out).2; omega) hcap (by rw [HJ.out]; have := HL6.out; omega))
    rw [HJ.out] at HJn
    clear hcells hg hcap
    go_wp2_with (go_at_call 40; refine HJn.out.mono ?_; rintro e' w' ⟨rfl, hb9⟩; have HB := Lib.hid (HG.out.2.trans (hb9.mono HG.out.2.size)); clear hb9)
    go_ret
    exact ⟨rfl, HB0.out.trans (HB.out.mono HB0.out.size)⟩
  · have HS5 := Lib.hid (HBf.out (by rw [H0.out]; exact h5))
    go_wp2_with (first
      | (refine step_part rfl 29 _ rfl b1 84 2 .u8 rfl p HR.out (by decide) kat_ck _ Tryz.underlying29 rfl size29 ?_)
      | (go_at_call 38; refine (checksText_any (ckF p) _ HCk.out).mono ?_; rintro e' w5 ⟨rfl, hb9⟩; have HR := Lib.hid (HR.out.later hb9); have HL := Lib.hid (HL.out.later hb9); have HB := Lib.hid (below_on HB.out hb9); clear hb9 k0 HCell; have hsz := HB.out.size)
      | (at_builtin; refine wpList_append_own _ rfl _ _ 42 rfl w1.heap.size 9 i0 (.string ⟨#[]⟩) 1 16 Tryz.underlying42 hi hz0 hz1 hz2 rfl (by decide) _ _ _ rfl (HL.out.alloc _) ⟨_, 0, none⟩ 1 1 [.string (bz (ckT (ckF p) 2))] rfl rfl ?c1 ?c2 ?c3 ?c4 ?c5 ?_))
    case c1 => exact cell_one_new _ _ _
    case c2 => simp [Value.oneCell']
    case c3 => simp only [fldA, List.length_cons, List.length_nil]; unfold maxLen; omega
    case c4 => simp only [fldA, List.length_cons, List.length_nil]; omega
    case c5 => simp; omega
    intro v' w6 hown' hgrow _
    skip
    have HG := Lib.hid (listedS_grow HL.out HB.out hsz hown' hgrow)
    have HL := Lib.hid (show ListedS 9 w1.heap.size (fldB p) v' w6 by rw [HS5.out]; exact HG.out.1)
    have HB := Lib.hid HG.out.2
    have HR := Lib.hid (HRw1.out.next HG.out.2 HB1.out)
    clear hown' hgrow HG hsz
    go_wp2_with fail
    refine late_begin 8 (by kernel_rfl) ?_
    refine late_take 0 (by kernel_rfl) (by kernel_rfl) (by kernel_rfl) (by kernel_rfl) (by kernel_rfl) (fun _ _ d _ _ h => by cases d <;> exact h) (fun o ho => ?_)
    simp only [List.getElem?_toArray, List.getElem?_cons_zero, List.getElem?_cons_succ, Option.some.injEq] at ho; subst ho
    apply Exists.intro
    refine ⟨Or.inl ⟨by kernel_rfl, fun w' hl => Or.inl ?_⟩, ?_⟩
    · (go_simp; try with_reducible rfl)
    simp only [Act.put, List.setIfInBounds_toArray, List.set_cons_zero, List.set_cons_succ]
    refine late_takeD 1 [2, 3, 6, 7, 8] (by kernel_rfl) (by kernel_rfl) (by kernel_rfl) (by kernel_rfl) (by kernel_rfl) (fun _ _ d _ _ h => by cases d <;> exact h) (fun o ho => ?_)
    simp only [List.getElem?_toArray, List.getElem?_cons_zero, List.getElem?_cons_succ, Option.some.injEq] at ho; subst ho
    refine ⟨.pointer (some ⟨b1, 86, none⟩), Or.inl ⟨by kernel_rfl, fun w' hl => Or.inl ?_⟩, ?_⟩
    · (go_simp; first | done | (with_reducible rfl) | (intro hbad; exfalso; omega))
    simp only [Act.put, List.setIfInBounds_toArray, List.set_cons_zero, List.set_cons_succ]
    refine late_takeD 2 [3, 6, 7, 8] (by kernel_rfl) (by kernel_rfl) (by kernel_rfl) (by kernel_rfl) (by kernel_rfl) (fun _ _ d _ _ h => by cases d <;> exact h) (fun o ho => ?_)
    simp only [List.getElem?_toArray, List.getElem?_cons_zero, List.getElem?_cons_succ, Option.some.injEq] at ho; subst ho
    refine ⟨.int .i64 (hn : Int), Or.inl ⟨by kernel_rfl, fun w' hl => Or.inl (run_get 3 _ rfl b1 86 rfl Tryz.underlying3 rfl (.int .i64 (hn : Int)) (by rw [(HR.out.later hl).cell 86 (by decide), show kAt 86 = .i64 from rfl, H86.out]))⟩, ?_⟩
    simp only [Act.put, List.setIfInBounds_toArray, List.set_cons_zero, List.set_cons_succ]
    refine late_takeD 4 [5, 6, 7, 8] (by kernel_rfl) (by kernel_rfl) (by kernel_rfl) (by kernel_rfl) (by kernel_rfl) (fun _ _ d _ _ h => by cases d <;> exact h) (fun o ho => ?_)
    simp only [List.getElem?_toArray, List.getElem?_cons_zero, List.getElem?_cons_succ, Option.some.injEq] at ho; subst ho
    refine ⟨.pointer (some ⟨b1, 87, none⟩), Or.inl ⟨by kernel_rfl, fun w' hl => Or.inl ?_⟩, ?_⟩
    · (go_simp; first | done | (with_reducible rfl) | (intro hbad; exfalso; omega))
    simp only [Act.put, List.setIfInBounds_toArray, List.set_cons_zero, List.set_cons_succ]
    refine late_takeD 5 [6, 7, 8] (by kernel_rfl) (by kernel_rfl) (by kernel_rfl) (by kernel_rfl) (by kernel_rfl) (fun _ _ d _ _ h => by cases d <;> exact h) (fun o ho => ?_)
    simp only [List.getElem?_toArray, List.getElem?_cons_zero, List.getElem?_cons_succ, Option.some.injEq] at ho; subst ho
    refine ⟨.int .i64 (fn : Int), Or.inl ⟨by kernel_rfl, fun w' hl => Or.inl (run_get 3 _ rfl b1 87 rfl Tryz.underlying3 rfl (.int .i64 (fn : Int)) (by rw [(HR.out.later hl).cell 87 (by decide), show kAt 87 = .i64 from rfl, H87.out]))⟩, ?_⟩
    simp only [Act.put, List.setIfInBounds_toArray, List.set_cons_zero, List.set_cons_succ]
    refine late_one 3 (by kernel_rfl) (by kernel_rfl) (fun o ho => ?_)
    simp only [List.getElem?_toArray, List.getElem?_cons_zero, List.getElem?_cons_succ, Option.some.injEq] at ho; subst ho
    refine ⟨by kernel_rfl, fun wn hl K hK => ?_⟩
    have HR := Lib.hid (HR.out.later hl); have HL := Lib.hid (HL.out.later hl); have HB := Lib.hid (below_on HB.out hl); clear hl
    refine wp_enter _ _ (by go_simp; exact ⟨rfl, rfl⟩) ?_
    refine (itoa_any hn _ HHn.out (HPw.out.on (HB0.out.trans (HB.out.mono HB0.out.size)))).mono ?_; rintro e wm ⟨rfl, hb⟩; refine ⟨_, rfl, ?_⟩
    rw [H6.out]
    refine hK.out _ _ hb ?_
    have HR := Lib.hid (HR.out.later hb); have HL := Lib.hid (HL.out.later hb); have HB := Lib.hid (below_on HB.out hb); clear hb
    clear hK K
    simp only [Act.put, List.setIfInBounds_toArray, List.set_cons_zero, List.set_cons_succ]
    refine late_one 6 (by kernel_rfl) (by kernel_rfl) (fun o ho => ?_)
    simp only [List.getElem?_toArray, List.getElem?_cons_zero, List.getElem?_cons_succ, Option.some.injEq] at ho; subst ho
    refine ⟨by kernel_rfl, fun wn hl K hK => ?_⟩
    have HR := Lib.hid (HR.out.later hl); have HL := Lib.hid (HL.out.later hl); have HB := Lib.hid (below_on HB.out hl); clear hl
    refine wp_enter _ _ (by go_simp; exact ⟨rfl, rfl⟩) ?_
    refine (itoa_any fn _ HFn.out (HPw.out.on (HB0.out.trans (HB.out.mono HB0.out.size)))).mono ?_; rintro e wm ⟨rfl, hb⟩; refine ⟨_, rfl, ?_⟩
    rw [H7.out]
    refine hK.out _ _ hb ?_
    have HR := Lib.hid (HR.out.later hb); have HL := Lib.hid (HL.out.later hb); have HB := Lib.hid (below_on HB.out hb); clear hb
    clear hK K
    simp only [Act.put, List.setIfInBounds_toArray, List.set_cons_zero, List.set_cons_succ]
    refine late_one 7 (by kernel_rfl) (by kernel_rfl) (fun o ho => ?_)
    simp only [List.getElem?_toArray, List.getElem?_cons_zero, List.getElem?_cons_succ, Option.some.injEq] at ho; subst ho
    refine ⟨by kernel_rfl, fun wn hl K hK => ?_⟩
    have HR := Lib.hid (HR.out.later hl); have HL := Lib.hid (HL.out.later hl); have HB := Lib.hid (below_on HB.out hl); clear hl
    refine late_strs 2 (by decide) _ rfl #[.string (t6), .string (t7)] _ (by kernel_rfl) (fill2 (t6) (t7)) ?_; intro b2 wm N R
    have hb := N.below
    have HZ := Lib.hid R; clear N R
    refine hK.out _ _ hb ?_
    have HR := Lib.hid (HR.out.later hb); have HL := Lib.hid (HL.out.later hb); have HB := Lib.hid (below_on HB.out hb); clear hb
    clear hK K
    simp only [Act.put, List.setIfInBounds_toArray, List.set_cons_zero, List.set_cons_succ]
    refine late_then 8 (by kernel_rfl) (by kernel_rfl) (fun o ho => ?_)
    simp only [List.getElem?_toArray, List.getElem?_cons_zero, List.getElem?_cons_succ, Option.some.injEq] at ho; subst ho
    refine ⟨by kernel_rfl, fun wn hl K hK => ?_⟩
    have HR := Lib.hid (HR.out.later hl); have HL := Lib.hid (HL.out.later hl); have HZ := Lib.hid (HZ.out.later hl); have HB := Lib.hid (below_on HB.out hl); clear hl
    refine ⟨wp_append_own _ _ _ 42 rfl w1.heap.size 9 i0 (.string ⟨#[]⟩) 1 16 Tryz.underlying42 hi hz0 hz1 hz2 rfl (by decide) _ _ _ rfl HL.out ⟨b2, 0, none⟩ 2 2 [.string t6, .string t7] rfl rfl (cells_two HZ.out) (by simp [Value.oneCell']) (by have := HBl5.out; unfold maxLen; omega) (by have := HBl5.out; omega) HB.out.size ?_⟩
    intro v' wm hown hgr _
    rw [← H6.out, ← H7.out] at hown
    have HG := Lib.hid (grown_two HL.out HB.out HB.out.size hown hgr)
    rw [← HCf.out] at HG
    clear hown hgr
    refine hK.out _ _ ?_
    clear hK K
    simp only [Act.put, List.setIfInBounds_toArray, List.set_cons_zero, List.set_cons_succ]
    refine any_one 9 (by kernel_rfl) (by kernel_rfl) (fun o ho => ?_)
    simp only [List.getElem?_toArray, List.getElem?_cons_zero, List.getElem?_cons_succ, Option.some.injEq] at ho; subst ho
    refine ⟨by kernel_rfl, fun K hK => ?_⟩
    refine wp_value (by go_simp; try with_reducible rfl) ?_
    refine hK.out _ _ ?_
    clear hK K
    simp only [Act.put, List.setIfInBounds_toArray, List.set_cons_zero, List.set_cons_succ]
    refine any_end (by kernel_rfl) ?_
    obtain ⟨g, cap, hv, hg, hcap, hcells⟩ := listedS_open HG.out.1 (fldC_len HBl5.out).1
    subst hv
    have HJn := Lib.hid (join_any g cap (fldC p) [32] _ wm rfl hcells hg (by have := (fldC_len HBl5.out).2; omega) hcap (by rw [HJ.out]; have := HL6.out; omega))
    rw [HJ.out] at HJn
    clear hcells hg hcap
    go_wp2_with (go_at_call 40; refine HJn.out.mono ?_; rintro e' w' ⟨rfl, hb9⟩; have HB := Lib.hid (HG.out.2.trans (hb9.mono HG.out.2.size)); clear hb9)
    go_ret
    exact ⟨rfl, HB0.out.trans (HB.out.mono HB0.out.size)⟩
end Go.Proofs.YtjbfjohgfbipgaaGreatDoor
