/-
  Contracts of the program's tests of a position that can be written, fourth part (layer 10): checks, pockets, the board.
-/
import Derived.Test.YtokojkgfekbjdaaGreatDoorFpCan
import Derived.Test.YtokojkgfekbjdaaGreatDoorRu
import Derived.Test.YtokojkgfekbjdaaGreatDoorPosEq
import Derived.DeepKeys2
namespace Go.Proofs.YtokojkgfekbjdaaGreatDoor
open Go.RowKit
set_option linter.unusedVariables false
set_option linter.unusedSimpArgs false

/-! Checks. -/
def ckAll (p : Nat → Int) : Bool := wrG p 0 && wrG p 1
def mx2 (x y : Int) : Int := if y > x then y else x
theorem run_mxU {P : Program} (w : World) (x y : Int) : (Builtin.max_ #[5, 5] 5 #[.int .u8 x, .int .u8 y]).run P w = .ok (.int .u8 (mx2 x y)) w := by
  simp [Builtin.max_, Builtin.max2, mx2]
theorem ck_eq (p : Nat → Int) (h0 : 0 ≤ p 84) (h1 : 0 ≤ p 85) : ckAll p = decide (mx2 (p 84) (p 85) ≤ (bif p 0 == 5 then 3 else 0)) := by
  unfold ckAll wrG mx2
  rw [show 84 + 0 = 84 from rfl, show 84 + 1 = 85 from rfl]
  rw [Bool.eq_iff_iff]
  cases h5 : (p 0 == 5)
  · have : (p 0 != 5) = true := by rw [bne, h5]; rfl
    rw [this]
    simp only [Bool.and_true, Bool.and_eq_true, Bool.not_eq_true', Bool.or_eq_false_iff, decide_eq_false_iff_not, decide_eq_true_eq, cond_false]
    split <;> omega
  · have : (p 0 != 5) = false := by rw [bne, h5]; rfl
    rw [this]
    simp only [Bool.and_false, Bool.or_false, Bool.and_eq_true, Bool.not_eq_true', decide_eq_false_iff_not, decide_eq_true_eq, cond_true]
    split <;> omega
set_option maxRecDepth 100000 in
set_option maxHeartbeats 1000000 in
theorem checksCan_any (p : Nat → Int) (w : World) (h0 : 0 ≤ p 84) (h1 : 0 ≤ p 85) : Calls Tryz.prog 55 #[.agg (posA p)] w (BoL (ckAll p) w) := by
  have he := ck_eq p h0 h1
  obtain ⟨b, hb⟩ : ∃ b, ckAll p = b := ⟨_, rfl⟩
  rw [hb] at he
  rw [hb]
  obtain ⟨v, hv⟩ : ∃ v, p 0 = v := ⟨_, rfl⟩
  obtain ⟨x, hx⟩ : ∃ x, p 84 = x := ⟨_, rfl⟩
  obtain ⟨y, hy⟩ : ∃ y, p 85 = y := ⟨_, rfl⟩
  rw [hv, hx, hy] at he
  have HCs := Lib.hid (fun (W : World) (b1 : Nat) (h : Row W b1 p) => show W.cell? ⟨b1, 0, none⟩ = some (.int .u8 v) ∧ W.cell? ⟨b1, 84, none⟩ = some (.int .u8 x) ∧ W.cell? ⟨b1, 85, none⟩ = some (.int .u8 y) from
    ⟨by rw [h.cell 0 (by decide), hv]; rfl, by rw [h.cell 84 (by decide), hx]; rfl, by rw [h.cell 85 (by decide), hy]; rfl⟩)
  clear hb hv hx hy h0 h1
  obtain ⟨m, hm⟩ : ∃ m, mx2 x y = m := ⟨_, rfl⟩
  have hmx := fun w => run_mxU (P := Tryz.prog) w x y
  rw [hm] at he hmx
  clear hm
  cases h5 : (v == 5)
  · have HE := Lib.hid (show decide (m ≤ 0) = b by rw [he, h5]; rfl)
    clear he
    go_enter Tryz.func55, Tryz.ntmps55
    go_wp2_with (refine step_box rfl _ rfl p rfl ?_; intro b1 w1 N R; have HB := Lib.hid N.below; obtain ⟨k0, k84, k85⟩ := HCs.out _ _ R; clear N R)
    go_ret
    exact ⟨pc_bool HE.out, HB.out⟩
  · have HE := Lib.hid (show decide (m ≤ 3) = b by rw [he, h5]; rfl)
    clear he
    go_enter Tryz.func55, Tryz.ntmps55
    go_wp2_with (refine step_box rfl _ rfl p rfl ?_; intro b1 w1 N R; have HB := Lib.hid N.below; obtain ⟨k0, k84, k85⟩ := HCs.out _ _ R; clear N R)
    go_ret
    exact ⟨pc_bool HE.out, HB.out⟩

/-! Pockets. -/
def pkAll (p : Nat → Int) : Bool := allB (wrK p 0) 6 && allB (wrK p 1) 6
theorem fpGuard : Tryz.prog.eqGuardType Tryz.prog.depth 25 = false := by kernel_rfl
theorem fpKey : Tryz.prog.keyTypeAt 3 25 = true := by kernel_rfl
theorem fpTiled : Tryz.prog.tiled 5 25 = true := by kernel_rfl
theorem fpSize : (Tryz.prog.info? 25).map (·.size) = some 12 := by kernel_rfl
theorem fpFormed (p : Nat → Int) : (Value.agg (partL p 66 12).toArray).formed Tryz.prog 25 = true := by kernel_rfl
theorem wf_u8 {x : Int} (h : 0 ≤ x ∧ x ≤ 255) : (Lit.int .u8 x).wf = true := by simp only [Lit.wf, decide_eq_true_eq, Bool.and_eq_true]; exact h
theorem fpLits {p : Nat → Int} (h : ∀ i, 66 ≤ i → i < 78 → 0 ≤ p i ∧ p i ≤ 255) : (Tryz.prog.keyLits 3 25 (partL p 66 12)).isSome = true := by
  have g : Good p 3 25 66 :=
    good_array (e := 24) (n := 2) Tryz.underlying25 (by kernel_rfl) fun i hi =>
      good_array (e := 5) (n := 6) Tryz.underlying24 (by kernel_rfl) fun j hj =>
        good_int (k := .u8) Tryz.underlying5 (by kernel_rfl) (kf_u8 (.inr (.inl (by rw [show Tryz.prog.cellsOf 24 = 6 by kernel_rfl, show Tryz.prog.cellsOf 5 = 1 by kernel_rfl]; omega)))) (by
          rw [show Tryz.prog.cellsOf 24 = 6 by kernel_rfl, show Tryz.prog.cellsOf 5 = 1 by kernel_rfl]
          rw [kf_u8 (.inr (.inl (by omega)))]
          exact wf_u8 (h _ (by omega) (by omega)))
  unfold Good at g
  rwa [show Tryz.prog.cellsOf 25 = 12 by kernel_rfl] at g
theorem fp_same {p : Nat → Int} (h : ∀ i, 66 ≤ i → i < 78 → 0 ≤ p i ∧ p i ≤ 255) (w : World) (r : Bool) (hr : r = true ↔ ∀ i, 66 ≤ i → i < 78 → p i = 0) :
    (binOp .eql 25 (.agg (partL p 66 12).toArray) (.agg (partL zeroP 66 12).toArray)).run Tryz.prog w = .ok (.bool r) w := by
  obtain ⟨la, hl⟩ := Option.isSome_iff_exists.1 (fpLits h)
  obtain ⟨lb, kl⟩ := Option.isSome_iff_exists.1 (fpLits (p := zeroP) (fun i _ _ => ⟨Int.le_refl 0, show (0 : Int) ≤ 255 by decide⟩))
  obtain ⟨s, hs, hi⟩ := run_equalIn_deep 9997 3 25 fpKey w 3 3 (.agg (partL p 66 12).toArray) (.agg (partL zeroP 66 12).toArray) la lb (fpFormed p) (fpFormed zeroP) hl kl
  have e : s = r := by
    rw [Bool.eq_iff_iff, hi, hr]
    constructor
    · intro e i h1 h2
      have a := cells_of_lits 5 25 fpTiled _ _ _ hl
      have b := cells_of_lits 5 25 fpTiled _ _ _ kl
      rw [e] at a
      have a := a.trans b.symm
      have c := congrArg (fun l : List Value => l[i - 66]?) a
      have l12 : i - 66 < 12 := by omega
      simp only [partL, List.getElem?_map, List.getElem?_range l12, Option.map_some] at c
      have := (Value.int.inj (Option.some.inj c)).2
      rw [show 66 + (i - 66) = i by omega] at this
      exact this
    · intro e
      have : partL p 66 12 = partL zeroP 66 12 := by
        unfold partL
        apply List.map_congr_left
        intro j hj
        have hj := List.mem_range.1 hj
        rw [e (66 + j) (by omega) (by omega)]; rfl
      rw [this] at hl
      exact Option.some.inj (hl.symm.trans kl)
  rw [run_eql_struct, hs, e]; rfl
theorem step_pk {ops : Array Oper} {rest : List Oper} {op : Oper} {a : Act} {w : World} {Q : Exit → Act → World → Prop} (hw : Region.wanted op (yielded ops a.tmps) = true) (x y : Operand) (ho : op.op = .binOp .eql 25 x y 25) (p : Nat → Int) (hx : a.eval x = .agg (partL p 66 12).toArray) (hy : a.eval y = .agg (partL zeroP 66 12).toArray)
    (h : ∀ i, 66 ≤ i → i < 78 → 0 ≤ p i ∧ p i ≤ 255) (r : Bool) (hr : r = true ↔ ∀ i, 66 ≤ i → i < 78 → p i = 0)
    (hk : wpList Tryz.prog ops Q rest (a.put op.dst (.bool r)) w) : wpList Tryz.prog ops Q (op :: rest) a w :=
  wpList_want hw fun K hK => by
    have hk := hK _ _ hk
    unfold Oper.wp execOp
    simp only [ho, hx, hy, Sem.run_bind, run_eqGuard_agg w _ _ _ _ _ _ fpGuard, Result.andThen_ok, fp_same h w r hr]
    exact hk
theorem pk_no {p : Nat → Int} (h : ∀ i, 66 ≤ i → i < 78 → 0 ≤ p i ∧ p i ≤ 255) (hv : p 0 ≠ 2) : pkAll p = true ↔ ∀ i, 66 ≤ i → i < 78 → p i = 0 := by
  have hb : (p 0 != 2) = true := by simpa using hv
  unfold pkAll
  rw [Bool.and_eq_true, allB_true, allB_true]
  constructor
  · rintro ⟨a, b⟩ i h1 h2
    have := h i h1 h2
    by_cases e : i < 72
    · have c := a (i - 66) (by omega)
      unfold wrK at c
      rw [hb, show 66 + 0 * 6 + (i - 66) = i by omega] at c
      simp at c; omega
    · have c := b (i - 72) (by omega)
      unfold wrK at c
      rw [hb, show 66 + 1 * 6 + (i - 72) = i by omega] at c
      simp at c; omega
  · intro a
    exact ⟨fun k hk => by unfold wrK; rw [a (66 + 0 * 6 + k) (by omega) (by omega)]; rfl, fun k hk => by unfold wrK; rw [a (66 + 1 * 6 + k) (by omega) (by omega)]; rfl⟩
theorem pk_yes {p : Nat → Int} (h : ∀ i, 66 ≤ i → i < 78 → 0 ≤ p i ∧ p i ≤ 255) (hv : p 0 = 2) : pkAll p = ((p 66 == 0) && (p 72 == 0)) := by
  have hb : (p 0 != 2) = false := by simp [hv]
  have h6 := h 66 (by decide) (by decide)
  have h7 := h 72 (by decide) (by decide)
  unfold pkAll
  rw [Bool.eq_iff_iff, Bool.and_eq_true, Bool.and_eq_true, allB_true, allB_true, beq_iff_eq, beq_iff_eq]
  constructor
  · rintro ⟨a, b⟩
    have a := a 0 (by decide)
    have b := b 0 (by decide)
    unfold wrK at a b
    rw [hb] at a b
    simp at a b
    omega
  · rintro ⟨a, b⟩
    constructor
    · intro k hk
      unfold wrK
      rw [hb]
      by_cases e : k = 0
      · subst e; simp [a]
      · simp; right; omega
    · intro k hk
      unfold wrK
      rw [hb]
      by_cases e : k = 0
      · subst e; simp [b]
      · simp; right; omega
set_option maxRecDepth 100000 in
set_option maxHeartbeats 1000000 in
theorem pocketsCan_any (p : Nat → Int) (w : World) (h : ∀ i, 66 ≤ i → i < 78 → 0 ≤ p i ∧ p i ≤ 255) (hv : 0 ≤ p 0 ∧ p 0 ≤ 255) (hT : TabVar w) : Calls Tryz.prog 54 #[.agg (posA p)] w (BoL (pkAll p) w) := by
  have HH := Lib.hid h
  have HT := Lib.hid hT
  obtain ⟨v, hvv⟩ : ∃ v : Nat, p 0 = (v : Int) := ⟨(p 0).toNat, (Int.toNat_of_nonneg hv.1).symm⟩
  have HV := Lib.hid (show v ≤ 255 by omega)
  obtain ⟨q, hq⟩ : ∃ q, pocB v = q := ⟨_, rfl⟩
  have HQ := Lib.hid hq
  cases q
  · have hn : p 0 ≠ 2 := by rw [hvv]; intro e; have : v = 2 := by omega
                            subst this; cases hq
    have HE := Lib.hid (pk_no h hn)
    obtain ⟨b, hb⟩ : ∃ b, pkAll p = b := ⟨_, rfl⟩
    rw [hb] at HE
    rw [hb]
    have HCs := Lib.hid (fun (W : World) (b1 : Nat) (h : Row W b1 p) => show W.cell? ⟨b1, 0, none⟩ = some (.int .u8 (v : Int)) by rw [h.cell 0 (by decide), hvv]; rfl)
    clear hb hq hn h hT hv hvv
    go_enter Tryz.func54, Tryz.ntmps54
    go_wp2_with (first
      | (refine step_box rfl _ rfl p rfl ?_; intro b1 w1 N R; have HB := Lib.hid N.below; have HR := Lib.hid R; have k0 := HCs.out _ _ R; clear N R)
      | (go_at_call 93; refine (poc_any _ _ HV.out (HT.out.on HB.out)).mono ?_; rintro e w' ⟨rfl, hb9⟩; rw [HQ.out]; have HR := Lib.hid (HR.out.later hb9); have HB := Lib.hid (below_on HB.out hb9); clear hb9 k0)
      | (refine step_read rfl 25 _ rfl b1 66 12 rfl p HR.out (by decide) _ Tryz.underlying25 rfl fpSize ?_)
      | (refine step_build rfl 25 _ rfl (partL zeroP 66 12).toArray (by kernel_rfl) ?_)
      | (refine step_pk rfl _ _ rfl p rfl rfl HH.out _ HE.out ?_))
    go_ret
    exact ⟨rfl, HB.out⟩
  · have hn : p 0 = 2 := by rw [hvv]; have : v = 2 := by simpa [pocB] using hq
                            omega
    obtain ⟨x, hx⟩ : ∃ x, p 66 = x := ⟨_, rfl⟩
    obtain ⟨y, hy⟩ : ∃ y, p 72 = y := ⟨_, rfl⟩
    have he := pk_yes h hn
    obtain ⟨b, hb⟩ : ∃ b, pkAll p = b := ⟨_, rfl⟩
    rw [hb, hx, hy] at he
    rw [hb]
    have HCs := Lib.hid (fun (W : World) (b1 : Nat) (h : Row W b1 p) => show W.cell? ⟨b1, 0, none⟩ = some (.int .u8 (v : Int)) ∧ W.cell? ⟨b1, 66, none⟩ = some (.int .u8 x) ∧ W.cell? ⟨b1, 72, none⟩ = some (.int .u8 y) from
      ⟨by rw [h.cell 0 (by decide), hvv]; rfl, by rw [h.cell 66 (by decide), hx]; rfl, by rw [h.cell 72 (by decide), hy]; rfl⟩)
    clear hb hq hn h hT hv hvv hx hy
    cases hz : (x == 0)
    · have HE := Lib.hid (show false = b by rw [he, hz]; rfl)
      clear he
      go_enter Tryz.func54, Tryz.ntmps54
      go_wp2_with (first
        | (refine step_box rfl _ rfl p rfl ?_; intro b1 w1 N R; have HB := Lib.hid N.below; have HR := Lib.hid R; obtain ⟨k0, k66, k72⟩ := HCs.out _ _ R; clear N R)
        | (go_at_call 93; refine (poc_any _ _ HV.out (HT.out.on HB.out)).mono ?_; rintro e w' ⟨rfl, hb9⟩; rw [HQ.out]; have HR := Lib.hid (HR.out.later hb9); have HB := Lib.hid (below_on HB.out hb9); clear hb9 k0 k66 k72; obtain ⟨k0, k66, k72⟩ := HCs.out _ _ HR.out))
      go_ret
      exact ⟨pc_bool HE.out, HB.out⟩
    · have HE := Lib.hid (show (y == 0) = b by rw [he, hz]; rfl)
      clear he
      go_enter Tryz.func54, Tryz.ntmps54
      go_wp2_with (first
        | (refine step_box rfl _ rfl p rfl ?_; intro b1 w1 N R; have HB := Lib.hid N.below; have HR := Lib.hid R; obtain ⟨k0, k66, k72⟩ := HCs.out _ _ R; clear N R)
        | (go_at_call 93; refine (poc_any _ _ HV.out (HT.out.on HB.out)).mono ?_; rintro e w' ⟨rfl, hb9⟩; rw [HQ.out]; have HR := Lib.hid (HR.out.later hb9); have HB := Lib.hid (below_on HB.out hb9); clear hb9 k0 k66 k72; obtain ⟨k0, k66, k72⟩ := HCs.out _ _ HR.out))
      go_ret
      exact ⟨pc_bool HE.out, HB.out⟩
end Go.Proofs.YtokojkgfekbjdaaGreatDoor
