/-
  Contract of the reader's checks (layer 10).
-/
import Derived.Test.YtjbfjohgfbipgaaGreatDoorRdRooksA
import Derived.Test.YtjbfjohgfbipgaaGreatDoorFpWr
namespace Go.Proofs.YtjbfjohgfbipgaaGreatDoor
open Go.RowKit
set_option linter.unusedVariables false
set_option linter.unusedSimpArgs false

theorem rd_part {ops : Array Oper} {rest : List Oper} {op : Oper} {a : Act} {w : World} {Q : Exit → Act → World → Prop} (hw : Region.wanted op (yielded ops a.tmps) = true) (ty : TypeId) (x : Operand) (ho : op.op = .load ty x) (b o n : Nat) (K : IntKind) (hx : a.eval x = .pointer (some ⟨b, o, none⟩)) (p : Nat → Int) (s : List UInt8) (hr : RowR w b p s) (hn : o + n ≤ 88) (hk : ∀ j, j < n → kAt (o + j) = K)
    (d : TypeDesc) (hu : Tryz.prog.underlying ty = some d) (hd : d.isRow = true) (hi : (Tryz.prog.info? ty).map (·.size) = some n)
    (h : wpList Tryz.prog ops Q rest (a.put op.dst (.agg (arrA n K fun j => p (o + j)))) w) : wpList Tryz.prog ops Q (op :: rest) a w :=
  wpList_want hw fun _ hK => wp_load_mid ty x ho b o hx (partL p o n) d (hr.range o n hn) hu hd (by rw [partL_len]; exact hi) (hK _ _ (by rw [fp_arr p o n K hk]; exact h))
/-- The checks, digit by digit. -/
def ckQ (l : List UInt8) (p : Nat → Int) : Nat → Nat → Int
  | 0 => p
  | k + 1 => upd (ckQ l p k) (84 + k) (IntKind.u8.wrap (((l.getD (2 * k + 1) 0).toNat : Int) - 48))
def rdChk (p : Nat → Int) (s : List UInt8) : Option ((Nat → Int) × List UInt8) := bif p 0 == 5 then (bif (fdF s).length == 4 then some (ckQ (fdF s) p 2, fdR s) else none) else some (p, s)
theorem FitF.ck {p : Nat → Int} (h : FitF p) {i : Nat} (hi : 84 ≤ i ∧ i < 86) {v : Int} (hv : 0 ≤ v ∧ v ≤ 255) : FitF (upd p i v) := by
  refine ⟨?_, fun j hj => ?_, ?_, fun j h1 h2 => ?_, ?_, fun j h1 h2 => ?_, ?_, fun j h1 h2 => ?_⟩
  · rw [upd_other _ _ _ _ (by omega)]; exact h.var
  · rw [upd_other _ _ _ _ (by omega)]; exact h.bd j hj
  · rw [upd_other _ _ _ _ (by omega)]; exact h.prom
  · rw [upd_other _ _ _ _ (by omega)]; exact h.pock j h1 h2
  · rw [upd_other _ _ _ _ (by omega)]; exact h.turn
  · rw [upd_other _ _ _ _ (by omega)]; exact h.rook j h1 h2
  · rw [upd_other _ _ _ _ (by omega)]; exact h.pass
  · by_cases e : j = i
    · rw [e, upd_same]; exact hv
    · rw [upd_other _ _ _ _ e]; exact h.chk j h1 h2
theorem ckQ_fit {l : List UInt8} {p : Nat → Int} (hp : FitF p) : ∀ k, k ≤ 2 → FitF (ckQ l p k)
  | 0, _ => hp
  | k + 1, h => (ckQ_fit hp k (by omega)).ck (by omega) (u8_wrap_rng _)
theorem bz_at {l : List UInt8} {i : Nat} {x : UInt8} (h : l[i]? = some x) {j : Int} (hj : j.toNat = i) (hb : j.toNat < (bz l).size) : (bz l)[j.toNat]'hb = x := by
  subst hj
  obtain ⟨hi, hx⟩ := List.getElem?_eq_some_iff.1 h
  rw [← hx]; rfl
set_option maxRecDepth 100000 in
set_option maxHeartbeats 4000000 in
theorem rd_checks (b : Nat) (p : Nat → Int) (s : List UInt8) (w : World) (hr : RowR w b p s) (hs : s.length ≤ 10000) (hp : FitF p) (hM : TabMx w) (h84 : p 84 = 0) (h85 : p 85 = 0) :
    Calls Tryz.prog 58 #[.pointer (some ⟨b, 0, none⟩)] w (RdP b (rdChk p s) w) := by
  have HR := Lib.hid hr
  have HS := Lib.hid hs
  have HP := Lib.hid hp
  have HM := Lib.hid hM
  have HFm := Lib.hid (by kernel_rfl : Tryz.prog.follows .mixedOrders = true)
  obtain ⟨v, hv⟩ : ∃ v, p 0 = v := ⟨_, rfl⟩
  obtain ⟨o, ho⟩ : ∃ o, rdChk p s = o := ⟨_, rfl⟩
  rw [ho]
  have hob : o = bif v == 5 then (bif (fdF s).length == 4 then some (ckQ (fdF s) p 2, fdR s) else none) else some (p, s) := by rw [← ho]; unfold rdChk; rw [hv]
  have k0 : w.cell? ⟨b, 0, none⟩ = some (.int .u8 v) := by rw [hr.cell (i := 0) (by decide), hv]; rfl
  have HCk := Lib.hid (show ∀ k, k < 2 → 0 ≤ ckF p k ∧ ckF p k ≤ 99 from fun k hk => by
    have : k = 0 ∨ k = 1 := by omega
    rcases this with rfl | rfl
    · show 0 ≤ p 84 ∧ p 84 ≤ 99; omega
    · show 0 ≤ p 85 ∧ p 85 ≤ 99; omega)
  obtain ⟨tt, htt⟩ : ∃ tt, bz (ckT (ckF p) 2) = tt := ⟨_, rfl⟩
  have HTt := Lib.hid htt
  have h4 : tt.size = 4 := by
    rw [← htt, bz_size]
    show (([] ++ (43 :: digL (p 84).toNat)) ++ (43 :: digL (p 85).toNat)).length = 4
    rw [h84, h85]; decide
  clear hr hs hp hM ho hv htt h84 h85
  cases h5 : (v == 5)
  · have HE := Lib.hid (show o = some (p, s) by rw [hob, h5]; rfl)
    have g5 : (v != 5) = true := by have := no_beq h5; simp; omega
    clear hob h5
    go_enter Tryz.func58, Tryz.ntmps58
    go_wp2_with fail
    rw [HE.out]
    first | go_end0 | refine bodyPost_ret (results_none rfl _ _ _) rfl ?_
    exact ⟨rfl, HR.out, Kb.refl _ _⟩
  · have g5 : (v != 5) = false := by have := yes_beq h5; simp; omega
    obtain ⟨l, hl⟩ : ∃ l, fdF s = l := ⟨_, rfl⟩
    have HL := Lib.hid hl
    rw [hl] at hob
    have hlz : (bz l).size = l.length := bz_size l
    obtain ⟨n, hn⟩ : ∃ n, l.length = n := ⟨_, rfl⟩
    rw [hn] at hob hlz
    cases hn4 : (n == 4)
    · have HE := Lib.hid (show o = none by rw [hob, h5, hn4]; rfl)
      have g4 : ((n : Int) == 4) = false := by
        have : n ≠ 4 := by simpa using hn4
        simp; omega
      clear hob h5 hl hn hn4
      go_enter Tryz.func58, Tryz.ntmps58
      go_wp2_with (first
        | (go_at_call 82; refine (rd_next b p s _ HR.out HS.out HM.out).mono ?_; rintro e w1 ⟨rfl, h1, h2⟩; rw [HL.out]; have HR := Lib.hid h1; have HK := Lib.hid h2; clear h1 h2 k0)
        | (refine rd_part rfl 29 _ rfl b 84 2 .u8 rfl p (fdR s) ?_ (by decide) kat_ck _ Tryz.underlying29 rfl size29 ?_; exact HR.out)
        | (go_at_call 38; refine (checksText_any (ckF p) _ HCk.out).mono ?_; rintro e' w5 ⟨rfl, hb9⟩; rw [HTt.out]; have HR := Lib.hid (HR.out.later hb9); have HK := Lib.hid (HK.out.trans (Kb.of_call b hb9)); clear hb9)
        | (go_at_call 61; refine (demand_no _).mono ?_; rintro e w3 ⟨⟨u, pv, rfl⟩, rfl⟩))
      rw [HE.out]
      exact ⟨rfl, ⟨_, _, rfl⟩, HK.out⟩
    · obtain rfl : n = 4 := by simpa using hn4
      have HE := Lib.hid (show o = some (ckQ l p 2, fdR s) by rw [hob, h5, hn4]; rfl)
      have HLn := Lib.hid hn
      clear hob h5 hl hn hn4
      go_enter Tryz.func58, Tryz.ntmps58
      go_wp2_with (first
        | (go_at_call 82; refine (rd_next b p s _ HR.out HS.out HM.out).mono ?_; rintro e w1 ⟨rfl, h1, h2⟩; rw [HL.out]; have HR := Lib.hid h1; have HK := Lib.hid h2; clear h1 h2 k0)
        | (refine rd_part rfl 29 _ rfl b 84 2 .u8 rfl p (fdR s) ?_ (by decide) kat_ck _ Tryz.underlying29 rfl size29 ?_; exact HR.out)
        | (go_at_call 38; refine (checksText_any (ckF p) _ HCk.out).mono ?_; rintro e' w5 ⟨rfl, hb9⟩; rw [HTt.out]; have HR := Lib.hid (HR.out.later hb9); have HK := Lib.hid (HK.out.trans (Kb.of_call b hb9)); clear hb9)
        | (go_at_call 61; refine (demand_yes _).mono ?_; rintro e w3 ⟨rfl, rfl⟩))
      go_loopw [23] (fun i wr => ∃ k : Nat, k ≤ 2 ∧ i = .int .i64 (k : Int) ∧ RowR wr b (ckQ l p k) (fdR s) ∧ Kb b w wr) (fun i _ => 2 - (intOf i).toNat)
      case atStart => exact ⟨0, by omega, rfl, HR.out, HK.out⟩
      case round =>
        obtain ⟨k, hk, rfl, hrow, hkb⟩ := hrel
        have HR := Lib.hid hrow
        have HK := Lib.hid hkb
        clear hrow hkb
        by_cases hk2 : k < 2
        · have lk : (k : Int) < 2 := by omega
          have k0 : (0 : Int) ≤ (k : Int) := by omega
          have HK2 := Lib.hid hk2
          obtain ⟨x, hx⟩ : ∃ x, l[2 * k + 1]? = some x := ⟨_, List.getElem?_eq_getElem (by rw [HLn.out]; omega)⟩
          have hix := fun hb => bz_at hx (j := 2 * (k : Int) + 1) (by omega) hb
          have HN := Lib.hid (show ckQ l p (k + 1) = upd (ckQ l p k) (84 + k) (IntKind.u8.wrap ((x.toNat : Int) - 48)) by rw [ckQ]; rw [List.getD_eq_getElem?_getD, hx]; rfl)
          have HW1 := Lib.hid (show IntKind.i64.wrap (2 * (k : Int)) = 2 * (k : Int) by rw [IntKind.wrap_i64]; omega)
          have HW2 := Lib.hid (show IntKind.i64.wrap (2 * (k : Int) + 1) = 2 * (k : Int) + 1 by rw [IntKind.wrap_i64]; omega)
          obtain ⟨q, hq⟩ : ∃ q, ckQ l p k = q := ⟨_, rfl⟩
          rw [hq] at HR HN
          clear hq hx hk hk2
          go_wp2_with fail
          refine late_begin 12 HFm.out ?_
          refine late_take 0 (by kernel_rfl) (by kernel_rfl) (by kernel_rfl) (by kernel_rfl) (by kernel_rfl) (fun _ _ d _ _ h => by cases d <;> exact h) (fun o ho => ?_)
          simp only [List.getElem?_toArray, List.getElem?_cons_zero, List.getElem?_cons_succ, Option.some.injEq] at ho; subst ho
          apply Exists.intro
          refine ⟨Or.inl ⟨by kernel_rfl, fun w' hl => Or.inl ?_⟩, ?_⟩
          · (go_simp; try with_reducible rfl)
          simp only [Act.put, List.setIfInBounds_toArray, List.set_cons_zero, List.set_cons_succ]
          refine late_take 1 (by kernel_rfl) (by kernel_rfl) (by kernel_rfl) (by kernel_rfl) (by kernel_rfl) (fun _ _ d _ _ h => by cases d <;> exact h) (fun o ho => ?_)
          simp only [List.getElem?_toArray, List.getElem?_cons_zero, List.getElem?_cons_succ, Option.some.injEq] at ho; subst ho
          apply Exists.intro
          refine ⟨Or.inl ⟨by kernel_rfl, fun w' hl => Or.inl ?_⟩, ?_⟩
          · (go_simp; try with_reducible rfl)
          simp only [Act.put, List.setIfInBounds_toArray, List.set_cons_zero, List.set_cons_succ]
          refine late_take 2 (by kernel_rfl) (by kernel_rfl) (by kernel_rfl) (by kernel_rfl) (by kernel_rfl) (fun _ _ d _ _ h => by cases d <;> exact h) (fun o ho => ?_)
          simp only [List.getElem?_toArray, List.getElem?_cons_zero, List.getElem?_cons_succ, Option.some.injEq] at ho; subst ho
          apply Exists.intro
          refine ⟨Or.inl ⟨by kernel_rfl, fun w' hl => Or.inl ?_⟩, ?_⟩
          · (go_simp; try with_reducible rfl)
          simp only [Act.put, List.setIfInBounds_toArray, List.set_cons_zero, List.set_cons_succ]
          refine late_take 3 (by kernel_rfl) (by kernel_rfl) (by kernel_rfl) (by kernel_rfl) (by kernel_rfl) (fun _ _ d _ _ h => by cases d <;> exact h) (fun o ho => ?_)
          simp only [List.getElem?_toArray, List.getElem?_cons_zero, List.getElem?_cons_succ, Option.some.injEq] at ho; subst ho
          apply Exists.intro
          refine ⟨Or.inl ⟨by kernel_rfl, fun w' hl => Or.inl ?_⟩, ?_⟩
          · (go_simp; try with_reducible rfl)
          simp only [Act.put, List.setIfInBounds_toArray, List.set_cons_zero, List.set_cons_succ]
          refine late_take 4 (by kernel_rfl) (by kernel_rfl) (by kernel_rfl) (by kernel_rfl) (by kernel_rfl) (fun _ _ d _ _ h => by cases d <;> exact h) (fun o ho => ?_)
          simp only [List.getElem?_toArray, List.getElem?_cons_zero, List.getElem?_cons_succ, Option.some.injEq] at ho; subst ho
          refine ⟨.int .i64 (2 * (k : Int)), Or.inl ⟨by kernel_rfl, fun w' hl => Or.inl ?_⟩, ?_⟩
          · (go_simp; first | done | (rw [HW1.out]))
          simp only [Act.put, List.setIfInBounds_toArray, List.set_cons_zero, List.set_cons_succ]
          refine late_take 5 (by kernel_rfl) (by kernel_rfl) (by kernel_rfl) (by kernel_rfl) (by kernel_rfl) (fun _ _ d _ _ h => by cases d <;> exact h) (fun o ho => ?_)
          simp only [List.getElem?_toArray, List.getElem?_cons_zero, List.getElem?_cons_succ, Option.some.injEq] at ho; subst ho
          refine ⟨.int .i64 (((2 * k + 1 : Nat)) : Int), Or.inl ⟨by kernel_rfl, fun w' hl => Or.inl ?_⟩, ?_⟩
          · (go_simp; first | done | (rw [HW2.out]))
          simp only [Act.put, List.setIfInBounds_toArray, List.set_cons_zero, List.set_cons_succ]
          refine late_take 6 (by kernel_rfl) (by kernel_rfl) (by kernel_rfl) (by kernel_rfl) (by kernel_rfl) (fun _ _ d _ _ h => by cases d <;> exact h) (fun o ho => ?_)
          simp only [List.getElem?_toArray, List.getElem?_cons_zero, List.getElem?_cons_succ, Option.some.injEq] at ho; subst ho
          refine ⟨.int .u8 (x.toNat : Int), Or.inl ⟨by kernel_rfl, fun w' hl => Or.inl ?_⟩, ?_⟩
          · (go_simp; intro hbad; exfalso; have := HK2.out; omega)
          simp only [Act.put, List.setIfInBounds_toArray, List.set_cons_zero, List.set_cons_succ]
          refine late_take 7 (by kernel_rfl) (by kernel_rfl) (by kernel_rfl) (by kernel_rfl) (by kernel_rfl) (fun _ _ d _ _ h => by cases d <;> exact h) (fun o ho => ?_)
          simp only [List.getElem?_toArray, List.getElem?_cons_zero, List.getElem?_cons_succ, Option.some.injEq] at ho; subst ho
          apply Exists.intro
          refine ⟨Or.inl ⟨by kernel_rfl, fun w' hl => Or.inl ?_⟩, ?_⟩
          · (go_simp; try with_reducible rfl)
          simp only [Act.put, List.setIfInBounds_toArray, List.set_cons_zero, List.set_cons_succ]
          refine late_takeD 8 [9, 10, 11, 12] (by kernel_rfl) (by kernel_rfl) (by kernel_rfl) (by kernel_rfl) (by kernel_rfl) (fun _ _ d _ _ h => by cases d <;> exact h) (fun o ho => ?_)
          simp only [List.getElem?_toArray, List.getElem?_cons_zero, List.getElem?_cons_succ, Option.some.injEq] at ho; subst ho
          apply Exists.intro
          refine ⟨Or.inl ⟨by kernel_rfl, fun w' hl => Or.inl ?_⟩, ?_⟩
          · (go_simp; try with_reducible rfl)
          simp only [Act.put, List.setIfInBounds_toArray, List.set_cons_zero, List.set_cons_succ]
          refine late_takeD 9 [10, 11, 12] (by kernel_rfl) (by kernel_rfl) (by kernel_rfl) (by kernel_rfl) (by kernel_rfl) (fun _ _ d _ _ h => by cases d <;> exact h) (fun o ho => ?_)
          simp only [List.getElem?_toArray, List.getElem?_cons_zero, List.getElem?_cons_succ, Option.some.injEq] at ho; subst ho
          apply Exists.intro
          refine ⟨Or.inl ⟨by kernel_rfl, fun w' hl => Or.inl ?_⟩, ?_⟩
          · (go_simp; try with_reducible rfl)
          simp only [Act.put, List.setIfInBounds_toArray, List.set_cons_zero, List.set_cons_succ]
          refine late_takeD 10 [11, 12] (by kernel_rfl) (by kernel_rfl) (by kernel_rfl) (by kernel_rfl) (by kernel_rfl) (fun _ _ d _ _ h => by cases d <;> exact h) (fun o ho => ?_)
          simp only [List.getElem?_toArray, List.getElem?_cons_zero, List.getElem?_cons_succ, Option.some.injEq] at ho; subst ho
          apply Exists.intro
          refine ⟨Or.inl ⟨by kernel_rfl, fun w' hl => Or.inl ?_⟩, ?_⟩
          · (go_simp; try with_reducible rfl)
          simp only [Act.put, List.setIfInBounds_toArray, List.set_cons_zero, List.set_cons_succ]
          refine late_take 11 (by kernel_rfl) (by kernel_rfl) (by kernel_rfl) (by kernel_rfl) (by kernel_rfl) (fun _ _ d _ _ h => by cases d <;> exact h) (fun o ho => ?_)
          simp only [List.getElem?_toArray, List.getElem?_cons_zero, List.getElem?_cons_succ, Option.some.injEq] at ho; subst ho
          refine ⟨.pointer (some ⟨b, 84 + k, none⟩), Or.inl ⟨by kernel_rfl, fun w' hl => Or.inl ?_⟩, ?_⟩
          · (go_simp; first | done | (with_reducible rfl) | (intro hbad; exfalso; omega))
          simp only [Act.put, List.setIfInBounds_toArray, List.set_cons_zero, List.set_cons_succ]
          refine late_last 12 (by kernel_rfl) (by kernel_rfl) (by kernel_rfl) (fun o ho => ?_)
          simp only [List.getElem?_toArray, List.getElem?_cons_zero, List.getElem?_cons_succ, Option.some.injEq] at ho; subst ho
          refine ⟨by kernel_rfl, fun wn hl K hK => ?_⟩
          have HR := Lib.hid (HR.out.later hl); have HK := Lib.hid (HK.out.trans (Kb.of_call b hl)); clear hl
          refine late_put 5 _ _ rfl b (84 + k) rfl .u8 (IntKind.u8.wrap ((x.toNat : Int) - 48)) rfl q (fdR s) HR.out (by have := HK2.out; omega) (kf_u8 (by have := HK2.out; omega)) size5 ?_; intro wm hr hk
          have HR := Lib.hid hr; have HK := Lib.hid (HK.out.trans hk); clear hr hk
          refine hK.out _ _ ?_
          clear hK K
          simp only [Act.put, List.setIfInBounds_toArray, List.set_cons_zero, List.set_cons_succ]
          go_wp2_with fail
          go_roundw
          case rel => exact ⟨k + 1, by have := HK2.out; omega, by go_num, by rw [HN.out]; exact HR.out, HK.out⟩
          case measure => simp [intOf]; have := HK2.out; omega
        · obtain rfl : k = 2 := by omega
          go_wp2_with fail
          rw [HE.out]
          go_end0
          exact ⟨rfl, HR.out, HK.out⟩
end Go.Proofs.YtjbfjohgfbipgaaGreatDoor
