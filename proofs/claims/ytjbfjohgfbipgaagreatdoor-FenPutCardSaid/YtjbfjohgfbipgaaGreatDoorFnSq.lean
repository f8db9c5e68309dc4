/-
  Layer 10's statements: the contract of 'space'; the two slices at it.
-/
import Derived.Test.YtjbfjohgfbipgaaGreatDoorFnAhead
import Derived.Test.YtjbfjohgfbipgaaGreatDoorFnSp
namespace Go.Proofs.YtjbfjohgfbipgaaGreatDoor
open Go.RowKit
set_option linter.unusedVariables false
set_option linter.unusedSimpArgs false

theorem drop_bz (l : List UInt8) (k : Nat) : (bz l).extract k (bz l).size = bz (l.drop k) := by
  rw [← bz_of ((bz l).extract _ _)]
  congr 1
  rw [ByteArray.data_extract, Array.toList_extract, bz_data, bz_size]
  simp only [List.extract]
  exact List.take_of_length_le (by simp)
set_option maxRecDepth 100000 in
set_option maxHeartbeats 1000000 in
theorem space_any (l : List UInt8) (w : World) (hl : l.length ≤ 1000000) : Calls Tryz.prog 8 #[.string (bz l)] w (IntL ((spF l : Nat) : Int) w) := by
  obtain ⟨t, ht⟩ : ∃ t, bz l = t := ⟨_, rfl⟩
  have hs : t.size = l.length := by rw [← ht, bz_size]
  have HT := Lib.hid ht.symm
  have HS := Lib.hid hs
  have HL := Lib.hid hl
  have HB := Lib.hid (Below.refl w.heap.size w)
  rw [ht]
  clear ht hs hl
  go_enter Tryz.func8, Tryz.ntmps8
  go_wp2
  go_loopw [3] (fun i wr => ∃ k : Nat, k ≤ l.length ∧ i = .int .i64 (k : Int) ∧ (∀ j, j < k → l[j]? ≠ some 32) ∧ Below w.heap.size w wr) (fun i _ => l.length - (intOf i).toNat)
  case atStart => exact ⟨0, by omega, rfl, fun j hj => by omega, HB.out⟩
  case round =>
    clear HB
    obtain ⟨k, hk, rfl, hn, hb⟩ := hrel
    have HB := Lib.hid hb
    have HN := Lib.hid hn
    clear hb hn
    by_cases hlt : k < l.length
    · obtain ⟨b, hb⟩ : ∃ b, l[k]? = some b := ⟨_, List.getElem?_eq_getElem hlt⟩
      have HX := Lib.hid hb
      have gk : (k : Int) < (t.size : Int) := by have := HS.out; omega
      have hk1 : (k : Int) ≤ 1000000 := by have := HL.out; omega
      clear hb
      by_cases h32 : b = 32
      · have g1 : (((b.toNat : Nat) : Int) == 32) = true := by rw [h32]; rfl
        have HE := Lib.hid (show spF l = k from spF_is HN.out (Or.inl (by rw [HX.out, h32])))
        clear h32
        go_wp2_with (first
          | (refine step_at rfl _ _ rfl t l .i64 k (k : Int) rfl rfl rfl HT.out b HX.out ?_))
        go_ret
        exact ⟨ret_int (by rw [HE.out]), HB.out⟩
      · have g1 : (((b.toNat : Nat) : Int) == 32) = false := by
          rw [beq_eq_false_iff_ne]
          intro h
          exact h32 (UInt8.toNat_inj.1 (by show b.toNat = 32; omega))
        have HN2 := Lib.hid (show ∀ j, j < k + 1 → l[j]? ≠ some 32 from fun j hj => by
          by_cases e : j = k
          · subst e; rw [HX.out]; intro h; exact h32 (Option.some.inj h)
          · exact HN.out j (by omega))
        clear h32
        go_wp2_with (first
          | (refine step_at rfl _ _ rfl t l .i64 k (k : Int) rfl rfl rfl HT.out b HX.out ?_))
        go_roundw
        case rel => exact ⟨k + 1, by omega, by go_num, HN2.out, HB.out⟩
        case measure => simp [intOf]; omega
    · have gk : ¬ ((k : Int) < (t.size : Int)) := by have := HS.out; omega
      have HE := Lib.hid (show spF l = k from spF_is HN.out (Or.inr (by omega)))
      obtain rfl : k = l.length := by omega
      go_wp2
      go_ret
      exact ⟨ret_int (by rw [HE.out, HS.out]), HB.out⟩
theorem run_tail {o : Oper} {a : Act} {w : World} (x y : Operand) (ho : o.op = .slice 9 x (some y) none none) (l : List UInt8) (k : Nat) (hx : a.eval x = .string (bz l)) (hy : a.eval y = .int .i64 (k : Int)) (hk : k ≤ l.length) : (execOp a.eval o).run Tryz.prog w = .ok (.value (.string (bz (l.drop k)))) w := by
  have h := run_slice_string_l (P := Tryz.prog) w 9 (bz l) Tryz.underlying9 .i64 (k : Int) (by omega) (by rw [bz_size]; omega)
  rw [Int.toNat_natCast, drop_bz] at h
  generalize a.eval = ev at hx hy ⊢
  unfold execOp
  simp only [ho, hx, hy, Option.map_some, Option.map_none, Instr.sliceAt, Sem.run_bind, Sem.run_pure, run_underlying Tryz.underlying9, Result.andThen_ok, h]
theorem run_head {o : Oper} {a : Act} {w : World} (x y : Operand) (ho : o.op = .slice 9 x none (some y) none) (l : List UInt8) (k : Nat) (hx : a.eval x = .string (bz l)) (hy : a.eval y = .int .i64 (k : Int)) (hk : k ≤ l.length) : (execOp a.eval o).run Tryz.prog w = .ok (.value (.string (bz (l.take k)))) w := by
  have h := run_slice_string_h (P := Tryz.prog) w 9 (bz l) Tryz.underlying9 .i64 (k : Int) (by omega) (by rw [bz_size]; omega)
  rw [Int.toNat_natCast, take_bz] at h
  generalize a.eval = ev at hx hy ⊢
  unfold execOp
  simp only [ho, hx, hy, Option.map_some, Option.map_none, Instr.sliceAt, Sem.run_bind, Sem.run_pure, run_underlying Tryz.underlying9, Result.andThen_ok, h]
end Go.Proofs.YtjbfjohgfbipgaaGreatDoor
