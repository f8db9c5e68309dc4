/-
  Contracts of the document's Letter and empties.
-/
import Derived.Test.YtkeoadcckbcccaaDoorRuList
import Derived.Test.YtkeoadcckbcccaaDoorRuPos
import Derived.Test.YtkeoadcckbcccaaDoorRuRow
import Derived.IntWalk
namespace Go.Proofs.YtkeoadcckbcccaaDoor
open Go.RowKit
set_option linter.unusedVariables false
set_option linter.unusedSimpArgs false
section laws
variable {ops : Array Oper} {rest : List Oper} {op : Oper} {a : Act} {w : World} {Q : Exit → Act → World → Prop}
theorem step_char (hw : Region.wanted op (yielded ops a.tmps) = true) (x y : Operand) (ho : op.op = .index 9 x y) (s : ByteArray) (hx : a.eval x = .string s) (k : Nat) (hy : a.eval y = .int .i64 (k : Int)) (b : UInt8) (hb : s[k]? = some b) (v : Nat) (hv : b.toNat = v)
    (h : wpList Tryd.prog ops Q rest (a.put op.dst (.int .u8 (v : Int))) w) : wpList Tryd.prog ops Q (op :: rest) a w :=
  wpList_want hw fun K' hK' => by
    subst hv
    have hk' := hK' _ _ h
    have h0 : (0 : Int) ≤ (k : Int) := by omega
    unfold Oper.wp execOp
    simp only [ho, hx, hy, Instr.index, asIntOf, Sem.run_bind, Sem.run_pure, Result.andThen_ok, run_underlying Tryd.underlying9, h0, if_true, Int.toNat_natCast, hb]
    exact hk'
end laws
theorem lt_at (k : Nat) (h : k < 15) : (⟨#[46, 80, 78, 66, 82, 81, 75, 46, 46, 112, 110, 98, 114, 113, 107]⟩ : ByteArray)[k]? = some (UInt8.ofNat (ltL.getD k 0)) := by
  match k, h with
  | 0, _ => rfl
  | 1, _ => rfl
  | 2, _ => rfl
  | 3, _ => rfl
  | 4, _ => rfl
  | 5, _ => rfl
  | 6, _ => rfl
  | 7, _ => rfl
  | 8, _ => rfl
  | 9, _ => rfl
  | 10, _ => rfl
  | 11, _ => rfl
  | 12, _ => rfl
  | 13, _ => rfl
  | 14, _ => rfl
theorem lt_byte (k : Nat) (h : k < 15) : (UInt8.ofNat (ltL.getD k 0)).toNat = ltL.getD k 0 := by
  have key : ∀ k : Fin 15, (UInt8.ofNat (ltL.getD k.val 0)).toNat = ltL.getD k.val 0 := by decide +kernel
  exact key ⟨k, h⟩
set_option maxHeartbeats 1000000 in
theorem letter_any (c : Nat) (w : World) (hc : c < 256) : Calls Tryd.prog 40 #[.int .u8 (c : Int)] w (U8E ((letN c : Nat) : Int) w) := by
  go_enter Tryd.func40, Tryd.ntmps40
  go_wp2
  go_loop [4] (fun i => ∃ k : Nat, 1 ≤ k ∧ k ≤ 15 ∧ i = .int .i64 (k : Int) ∧ (c ≠ 46 → ∀ j, 1 ≤ j → j < k → ltL.getD j 0 ≠ c)) (fun i => 15 - (intOf i).toNat)
  case atStart => exact ⟨1, by omega, by omega, rfl, fun _ j h1 h2 => by omega⟩
  case round =>
    obtain ⟨k, h1, h15, rfl, hm⟩ := hrel
    have HM := Lib.hid hm
    clear hm
    by_cases hlt : k < 15
    · obtain ⟨x, Hx⟩ : ∃ x, Hid (ltL.getD k 0 = x) := ⟨_, Lib.hid rfl⟩
      have HA := Lib.hid (lt_at k hlt)
      have HV := Lib.hid ((lt_byte k hlt).trans Hx.out)
      cases g : ((x : Int) == (c : Int))
      · have hne : x ≠ c := by intro e; rw [e] at g; simp at g
        go_wp2_with (refine step_char rfl _ _ rfl _ rfl k rfl _ HA.out x HV.out ?_)
        go_round
        case rel =>
          refine ⟨k + 1, by omega, by omega, by go_num, fun h46 j hj1 hj2 => ?_⟩
          by_cases e : j = k
          · subst e; rw [Hx.out]; exact hne
          · exact HM.out h46 j hj1 (by omega)
        case measure => simp [intOf]; omega
      · have HQ := Lib.hid (show x = c by simp at g; omega)
        cases g2 : ((c : Int) != 46)
        · have H46 := Lib.hid (show c = 46 by simp at g2; omega)
          go_wp2_with (refine step_char rfl _ _ rfl _ rfl k rfl _ HA.out x HV.out ?_)
          go_round
          case rel => exact ⟨k + 1, by omega, by omega, by go_num, fun h => absurd H46.out h⟩
          case measure => simp [intOf]; omega
        · have h46 : c ≠ 46 := by simp at g2; omega
          have HL := Lib.hid (let_hit h1 hlt h46 (Hx.out.trans HQ.out))
          go_wp2_with (refine step_char rfl _ _ rfl _ rfl k rfl _ HA.out x HV.out ?_)
          go_ret
          exact ⟨by rw [HL.out]; go_num, rfl⟩
    · obtain rfl : k = 15 := by omega
      have HL := Lib.hid (let_miss hc fun h46 j hj1 hj2 => HM.out h46 j hj1 hj2)
      go_wp2
      go_ret
      exact ⟨by rw [HL.out]; rfl, rfl⟩
theorem em_yes {r : Nat → Int} {k : Nat} (h : (r k == 0) = true) : emR r (k + 1) = emR r k ++ [k] := by rw [emR, h]; rfl
theorem em_no {r : Nat → Int} {k : Nat} (h : (r k == 0) = false) : emR r (k + 1) = emR r k := by rw [emR, h]; rfl
theorem em_len (r : Nat → Int) : ∀ k, (emR r k).length ≤ k
  | 0 => Nat.le_refl _
  | k + 1 => by
    have := em_len r k
    unfold emR
    cases (r k == 0)
    · simp only [cond_false]; omega
    · simp only [cond_true, List.length_append, List.length_singleton]; omega
set_option maxHeartbeats 1000000 in
theorem empties_any (r : Nat → Int) (w : World) : Calls Tryd.prog 33 #[.agg (arrA 8 .u8 r)] w (ListK .i64 3 (emR r 8) w) := by
  obtain ⟨i0, hi, hz0, hz1, hz2⟩ := info_parts infoI64
  go_enter Tryd.func33, Tryd.ntmps33
  go_wp2_with (refine blk_box rfl 58 _ rfl (arrA 8 .u8 r) rfl ?_; intro b1 w1 N R; have HN := Lib.hid N; have HR := Lib.hid R; clear N R)
  go_loopw [3, 4] (fun l i wr => ∃ k : Nat, k ≤ 8 ∧ i = .int .i64 (k : Int) ∧ ListedK .i64 3 w1.heap.size (emR r k) l wr ∧ Below w1.heap.size w1 wr) (fun _ i _ => 8 - (intOf i).toNat)
  case atStart => exact ⟨0, by omega, rfl, listedK_nil _ _ _ _, Below.refl _ _⟩
  case round =>
    obtain ⟨k, hk, rfl, hl, hb⟩ := hrel
    have HL := Lib.hid hl
    have HB := Lib.hid hb
    have HR' := Lib.hid (HR.out.later hb)
    have hsz := hb.size
    clear hl hb
    by_cases hlt : k < 8
    · obtain ⟨x, Hx⟩ : ∃ x, Hid (r k = x) := ⟨_, Lib.hid rfl⟩
      have hc := HR'.out.at k hlt
      rw [Hx.out] at hc
      have hlen := em_len r k
      cases g : (x == 0)
      · have HE := Lib.hid (em_no (r := r) (k := k) (by rw [Hx.out]; exact g))
        go_wp2_with fail
        clear hc
        go_roundw
        case rel => exact ⟨k + 1, by omega, by go_num, by rw [HE.out]; exact HL.out, HB.out⟩
        case measure => simp [intOf]; omega
      · have HE := Lib.hid (em_yes (r := r) (k := k) (by rw [Hx.out]; exact g))
        go_wp2_with (at_builtin; refine wpList_append_own _ rfl _ _ 47 rfl w1.heap.size 3 i0 (.int .i64 0) 1 8 Tryd.underlying47 hi hz0 hz1 hz2 rfl (by decide) _ _ _ rfl (HL.out.alloc _) ⟨_, 0, none⟩ 1 1 [.int .i64 (k : Int)] rfl rfl ?c1 ?c2 ?c3 ?c4 ?c5 ?_)
        case c1 => exact cell_one_new _ _ _
        case c2 => simp [Value.oneCell']
        case c3 => unfold maxLen; omega
        case c4 => omega
        case c5 => simp; omega
        intro v' w2 hown' hgrow _
        have HG := Lib.hid (listedK_grow HL.out HB.out hsz hown' hgrow)
        clear hown' hgrow hc
        go_wp2
        go_roundw
        case rel => exact ⟨k + 1, by omega, by go_num, by rw [HE.out]; exact HG.out.1, HG.out.2⟩
        case measure => simp [intOf]; omega
    · obtain rfl : k = 8 := by omega
      have h1 := HN.out.size
      have h2 := HN.out.at_
      go_wp2
      go_ret
      exact ⟨_, rfl, World.ownsRow.mono HL.out (by omega), below_on HN.out.below HB.out⟩
end Go.Proofs.YtkeoadcckbcccaaDoor
