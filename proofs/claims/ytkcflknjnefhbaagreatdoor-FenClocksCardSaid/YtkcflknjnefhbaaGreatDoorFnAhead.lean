/-
  Contracts of what layer 10's statements ask of texts: a byte of a text; digits, ahead, space.
-/
import Derived.Test.YtkcflknjnefhbaaGreatDoorFnSame
import Derived.Test.YtkcflknjnefhbaaGreatDoorFnBaseB
import Derived.IntWalk
namespace Go.Proofs.YtkcflknjnefhbaaGreatDoor
open Go.RowKit
set_option linter.unusedVariables false
set_option linter.unusedSimpArgs false

set_option maxRecDepth 100000 in
theorem step_at {ops : Array Oper} {rest : List Oper} {op : Oper} {a : Act} {w : World} {Q : Exit → Act → World → Prop} (hw : Region.wanted op (yielded ops a.tmps) = true) (x y : Operand) (ho : op.op = .index 9 x y) (t : ByteArray) (l : List UInt8) (K : IntKind) (k : Nat) (j : Int) (hj : j = (k : Int)) (hx : a.eval x = .string t) (hy : a.eval y = .int K j) (ht : t = bz l) (b : UInt8) (hb : l[k]? = some b)
    (h : wpList Tryz.prog ops Q rest (a.put op.dst (.int .u8 (b.toNat : Int))) w) : wpList Tryz.prog ops Q (op :: rest) a w :=
  wpList_want hw fun K' hK' => by
    have hk' := hK' _ _ h
    obtain ⟨h1, h2⟩ := List.getElem?_eq_some_iff.1 hb
    have hsz : t.size = l.length := by rw [ht, bz_size]
    have hr : (Instr.index 9 (.string t) (.int K j)).run Tryz.prog w = .ok (.int .u8 (b.toNat : Int)) w := by
      rw [run_index_string w 9 t K j Tryz.underlying9, dif_pos ⟨by omega, by omega⟩]
      have e : ∀ hb' : j.toNat < t.size, t[j.toNat]'hb' = b := by
        subst ht hj
        intro hb'
        rw [← h2]; rfl
      rw [e]
    unfold Oper.wp execOp
    simp only [ho, hx, hy, Sem.run_bind, hr, Result.andThen_ok]
    exact hk'
set_option maxRecDepth 100000 in
set_option maxHeartbeats 1000000 in
theorem digits_any (n : Nat) (w : World) (hn : n < 10 ^ 18) : Calls Tryz.prog 14 #[.int .i64 (n : Int)] w (StL (bz (digL n)) w) := by
  have HN := Lib.hid hn
  have hcv := conv1
  clear hn
  go_enter Tryz.func14, Tryz.ntmps14
  go_wp2
  go_loopw [0, 3] (fun v s wr => ∃ (m : Nat) (l : List UInt8), v = .int .i64 (m : Int) ∧ s = .string (bz l) ∧ m ≤ n ∧ finL m l = digL n ∧ Below w.heap.size w wr) (fun v s _ => (intOf v).toNat + emptyV s)
  case atStart => exact ⟨n, [], rfl, rfl, Nat.le_refl _, finL_nil n, Below.refl _ _⟩
  case round =>
    obtain ⟨m, l, rfl, rfl, hm, hf, hb⟩ := hrel
    have h0 : (0 : Int) ≤ (m : Int) := by omega
    have hl : l.length ≤ 20 := by have h1 := finL_len m l; rw [hf] at h1; have h2 := digL_len n; omega
    have HW := Lib.hid (show wrap64 ((m : Int) / 10) = ((m / 10 : Nat) : Int) by have := HN.out; rw [IntWalk.wrap64_in _ ⟨by omega, by omega⟩]; omega)
    obtain ⟨t, ht⟩ : ∃ t, bz l = t := ⟨_, rfl⟩
    have hE : t.toList.isEmpty = l.isEmpty := by rw [← ht, bz_toList]
    have hcat : ∀ x, ¬ (9223372036854775807 < (bz [x]).size + t.size) := fun x => cat_ok (by rw [bz_size]; simp) (by rw [← ht, bz_size]; omega)
    have HTt := Lib.hid ht
    have HB := Lib.hid hb
    have HFf := Lib.hid hf
    have hm19 : m < 10 ^ 19 := Nat.lt_of_le_of_lt hm (Nat.lt_trans HN.out (by decide))
    have HM := Lib.hid hm
    have HL := Lib.hid hl
    have HS := Lib.hid (fun h => finL_step (m := m) (s := l) hm19 h)
    have HD := Lib.hid (fun h => finL_done (m := m) (s := l) h)
    rw [ht]
    clear ht hb hf hm hl hm19
    cases he : t.toList.isEmpty
    · rw [he] at hE
      have HE := Lib.hid hE
      clear hE
      cases hz : decide (0 < m)
      · have HR := Lib.hid (HD.out (by rw [← HE.out, hz]; rfl))
        go_wp2_with fail
        go_ret
        refine ⟨?_, HB.out⟩
        show Ending.returned (.string t) = Ending.returned (.string (bz (digL n)))
        rw [← HTt.out, ← HFf.out, HR.out]
      · have HR := Lib.hid (HS.out (by rw [← HE.out, hz]; rfl))
        go_wp2_with fail
        go_roundw
        case rel => exact ⟨m / 10, dgZ m :: l, by rw [HW.out], by rw [← HTt.out, bz_app]; rfl, by have := HM.out; omega, by rw [HR.out]; exact HFf.out, HB.out.alloc HB.out.size _⟩
        case measure =>
          rw [HW.out, show emptyV (.string (bz [byZ (48 + (m : Int) % 10)] ++ t)) = 0 by rw [← HTt.out, bz_app]; exact emptyV_cons _ _]
          simp [intOf]; simp at hz; omega
    · rw [he] at hE
      have HR := Lib.hid (HS.out (by rw [← hE]; rfl))
      clear hE
      go_wp2_with fail
      go_roundw
      case rel => exact ⟨m / 10, dgZ m :: l, by rw [HW.out], by rw [← HTt.out, bz_app]; rfl, by have := HM.out; omega, by rw [HR.out]; exact HFf.out, HB.out.alloc HB.out.size _⟩
      case measure =>
        rw [HW.out, show emptyV (.string (bz [byZ (48 + (m : Int) % 10)] ++ t)) = 0 by rw [← HTt.out, bz_app]; exact emptyV_cons _ _]
        simp [intOf, emptyV, he]; omega
theorem fn_strS {a b : ByteArray} (h : a = b) : Ending.returned (.string a) = .returned (.string b) := by rw [h]
theorem take_bz (l : List UInt8) (k : Nat) : (bz l).extract 0 k = bz (l.take k) := by
  rw [← bz_of ((bz l).extract _ _)]
  congr 1
  rw [ByteArray.data_extract, Array.toList_extract, bz_data]
  simp [List.extract]
theorem goE_some {l : List UInt8} {e m : Nat} {b : UInt8} (hm : 0 < m) (hb : l[e]? = some b) : goE l (e + 1) m = bif b == 32 then goE l e (m - 1) else goE l e m := by
  rw [goE, show (m == 0) = false by simp; omega, List.getD_eq_getElem?_getD, hb]; rfl
set_option maxRecDepth 100000 in
set_option maxHeartbeats 1000000 in
theorem ahead_any (l : List UInt8) (n : Nat) (w : World) (hl : l.length ≤ 1000000) (hn : n ≤ 1000000) (hn0 : 0 < n) : Calls Tryz.prog 13 #[.string (bz l), .int .i64 (n : Int)] w (StL (bz (ahL n l)) w) := by
  obtain ⟨t, ht⟩ : ∃ t, bz l = t := ⟨_, rfl⟩
  have hs : t.size = l.length := by rw [← ht, bz_size]
  have HT := Lib.hid ht.symm
  have HS := Lib.hid hs
  have HL := Lib.hid hl
  have HN := Lib.hid hn0
  have HN1 := Lib.hid hn
  rw [ht]
  clear ht hs hl hn0 hn
  go_enter Tryz.func13, Tryz.ntmps13
  go_wp2
  go_loopw [1, 5] (fun v s wr => ∃ (m e : Nat), v = .int .i64 (m : Int) ∧ s = .int .i64 (e : Int) ∧ m ≤ 1000000 ∧ e ≤ l.length ∧ goE l e m = goE l l.length n ∧ (0 < m ∨ e < l.length) ∧ Below w.heap.size w wr) (fun v s _ => (intOf s).toNat)
  case atStart => exact ⟨n, l.length, rfl, by rw [HS.out], HN1.out, Nat.le_refl _, rfl, .inl HN.out, Below.refl _ _⟩
  case round =>
    obtain ⟨m, e, rfl, rfl, hm, he, hg, ho, hb⟩ := hrel
    have HB := Lib.hid hb
    have HG := Lib.hid hg
    have HO := Lib.hid ho
    have HE := Lib.hid he
    have e0 : (0 : Int) ≤ (e : Int) := by omega
    have e1 : (e : Int) ≤ 1000000 := by have := HL.out; omega
    have m0 : (0 : Int) ≤ (m : Int) := by omega
    have m1 : (m : Int) ≤ 1000000 := by omega
    clear hb hg ho he hm
    cases g1 : decide (0 < m)
    · have hge : goE l l.length n = e := by
        have : m = 0 := by have := of_decide_eq_false g1; omega
        rw [← HG.out, this, goE_done]
      have HA := Lib.hid hge
      clear hge
      by_cases g2 : e = 0
      · subst g2
        go_wp2_with fail
        go_ret
        refine ⟨fn_strS ?_, HB.out⟩
        unfold ahL
        rw [HA.out]
        rfl
      · have g3 : ((e : Int) == 0) = false := by rw [beq_eq_false_iff_ne]; omega
        have hsz : ((e : Int) + 1) ≤ (t.size : Int) := by
          have := HO.out; have := HS.out; have := of_decide_eq_false g1; omega
        have hx : (0 : Int) ≤ (e : Int) + 1 := by omega
        have HX3 := Lib.hid g2
        clear g2
        go_wp2_with fail
        go_ret
        refine ⟨fn_strS ?_, HB.out⟩
        unfold ahL
        rw [HA.out, show (e == 0) = false by rw [beq_eq_false_iff_ne]; exact HX3.out, HT.out, take_bz]
        rfl
    · cases g2 : decide (0 < e)
      · have hge : goE l l.length n = 0 := by
          have : e = 0 := by have := of_decide_eq_false g2; omega
          rw [← HG.out, this]; rfl
        have HA := Lib.hid hge
        obtain rfl : e = 0 := by have := of_decide_eq_false g2; omega
        clear hge g2
        go_wp2_with fail
        go_ret
        refine ⟨fn_strS ?_, HB.out⟩
        unfold ahL
        rw [HA.out]
        rfl
      · obtain ⟨e', he'⟩ : ∃ e', e = e' + 1 := ⟨e - 1, by have := of_decide_eq_true g2; omega⟩
        obtain ⟨m', hm'⟩ : ∃ m', m = m' + 1 := ⟨m - 1, by have := of_decide_eq_true g1; omega⟩
        have hlt : e' < l.length := by have := HE.out; omega
        obtain ⟨b, hb⟩ : ∃ b, l[e']? = some b := ⟨_, List.getElem?_eq_getElem hlt⟩
        have hst := goE_some (m := m) (by have := of_decide_eq_true g1; omega) hb
        rw [← he'] at hst
        have HX := Lib.hid (show (e : Int) - 1 = (e' : Int) by omega)
        have HXm := Lib.hid (show (m : Int) - 1 = (m' : Int) by omega)
        have HBb := Lib.hid hb
        have HLT := Lib.hid hlt
        have HEe := Lib.hid he'
        have HMm := Lib.hid hm'
        have HST := Lib.hid hst
        have HM1 := Lib.hid m1
        clear hb hst hlt he' hm'
        cases g3 : ((b.toNat : Int) == 32)
        · have HG3 := Lib.hid (show (b == 32) = false by
            rw [beq_eq_false_iff_ne] at g3 ⊢; intro h; rw [h] at g3; exact g3 rfl)
          go_wp2_with (first | (refine step_at rfl _ _ rfl t l .i64 e' ((e : Int) - 1) HX.out rfl rfl HT.out b HBb.out ?_))
          go_roundw
          case rel => exact ⟨m, e', rfl, by rw [HX.out], by have := HM1.out; omega, by have := HLT.out; omega, by rw [← HG.out, HST.out, HG3.out]; rfl, .inl (by have := HMm.out; omega), HB.out⟩
          case measure => have := HEe.out; simp [intOf]; omega
        · have HG3 := Lib.hid (show (b == 32) = true by
            rw [beq_iff_eq] at g3 ⊢; exact UInt8.toNat_inj.1 (by have : b.toNat = 32 := by omega
                                                                 rw [this]; rfl))
          go_wp2_with (first | (refine step_at rfl _ _ rfl t l .i64 e' ((e : Int) - 1) HX.out rfl rfl HT.out b HBb.out ?_))
          go_roundw
          case rel => exact ⟨m', e', by rw [HXm.out], by rw [HX.out], by have := HM1.out; have := HMm.out; omega, by have := HLT.out; omega, by rw [← HG.out, HST.out, HG3.out, HMm.out]; rfl, .inr HLT.out, HB.out⟩
          case measure => have := HEe.out; simp [intOf]; omega
end Go.Proofs.YtkcflknjnefhbaaGreatDoor
