/-
  Contracts of the reader's fields in order, and of the position of which none has been read (layer 10).
-/
import Derived.Test.YtjbfjohgfbipgaaGreatDoorRdFit
namespace Go.Proofs.YtjbfjohgfbipgaaGreatDoor
open Go.RowKit
set_option linter.unusedVariables false
set_option linter.unusedSimpArgs false

set_option maxRecDepth 100000 in
theorem nak_any (v : Int) (w : World) : Calls Tryz.prog 52 #[.int .u8 v] w fun e w' => e = .returned (.agg (posA (nakP v))) ∧ Below w.heap.size w w' := by
  go_enter Tryz.func52, Tryz.ntmps52
  go_wp2_with (first
    | (refine step_alloc rfl rfl ?_; intro b1 w1 N R; have HG := Lib.hid (Nat.le_of_eq N.at_.symm); have HR := Lib.hid R; have HB := Lib.hid N.below; clear N R)
    | (refine step_build rfl 27 _ rfl (arrA 2 .i8 fun _ => -1) (by kernel_rfl) ?_)
    | (refine step_build rfl 28 _ rfl (arrA 4 .i8 fun _ => -1) (by kernel_rfl) ?_)
    | (refine step_build rfl 31 _ rfl (posA (nakP v)) (by kernel_rfl) ?_)
    | (refine step_store rfl _ _ rfl b1 rfl _ (nakP v) rfl HR.out ?_; intro w2 U R; have HR := Lib.hid R; have HB := Lib.hid (HB.out.trans (U.below HG.out)); clear U R))
  refine bodyPost_ret (v := .agg (posA (nakP v))) (results_row rfl _ _ _ _ rfl HR.out) rfl ⟨rfl, HB.out⟩
/-- The fields' functions, bound to the reader. -/
def rdFn (b : Nat) (k : Nat) : Value := .func (.func (match k with
  | 0 => 54
  | 1 => 55
  | 2 => 56
  | 3 => 57
  | 4 => 58
  | 5 => 59
  | _ => 60)) #[.pointer (some ⟨b, 0, none⟩)] #[]
def FunsAt (w : World) (g b : Nat) : Prop := ∀ k, k < 7 → w.cell? ⟨g, k, none⟩ = some (rdFn b k)
set_option maxRecDepth 100000 in
set_option maxHeartbeats 4000000 in
theorem in_order (b g c : Nat) (v : Int) (p : Nat → Int) (s : List UInt8) (w : World) (hr : RowR w b p s) (hi : RdI 0 v p s) (hM : TabMx w) (hT : TabErr w) (hC : TabCorn w) (hb : 7 ≠ b ∧ 8 ≠ b) (hm : 5 ≠ b) (hc : 0 ≠ b) (hg : g ≠ b) (hf : FunsAt w g b) :
    Calls Tryz.prog 53 #[.slice (some ⟨g, 0, none⟩) 7 c] w (RdP b (rdUp 7 p s) w) := by
  have HR0 := Lib.hid hr
  have HI0 := Lib.hid hi
  have HM := Lib.hid hM
  have HT := Lib.hid hT
  have HC := Lib.hid hC
  have HBn := Lib.hid hb
  have HBm := Lib.hid hm
  have HBc := Lib.hid hc
  have HG := Lib.hid hg
  have HFu := Lib.hid hf
  obtain ⟨o, ho⟩ : ∃ o, rdUp 7 p s = o := ⟨_, rfl⟩
  have HO := Lib.hid ho
  rw [ho]
  clear hr hi hM hT hC hb hm hc hg hf ho
  go_enter Tryz.func53, Tryz.ntmps53
  go_wp2_with fail
  go_loopw [6] (fun i wr => ∃ (k : Nat) (q : Nat → Int) (t : List UInt8), k ≤ 7 ∧ i = .int .i64 (k : Int) ∧ RowR wr b q t ∧ rdUp k p s = some (q, t) ∧ RdI k v q t ∧ Kb b w wr) (fun i _ => 7 - (intOf i).toNat)
  case atStart => exact ⟨0, p, s, by omega, rfl, HR0.out, rfl, HI0.out, Kb.refl _ _⟩
  case round =>
    obtain ⟨k, q, t, hk, rfl, hrow, heq, hinv, hkb⟩ := hrel
    have HR := Lib.hid hrow
    have HEq := Lib.hid heq
    have HI := Lib.hid hinv
    have HK := Lib.hid hkb
    clear hrow heq hinv hkb
    by_cases hk7 : k < 7
    · have lk : (k : Int) < 7 := by omega
      have k0 : (0 : Int) ≤ (k : Int) := by omega
      have HK7 := Lib.hid hk7
      have HSt := Lib.hid (rdUp_step HEq.out)
      have HFk := Lib.hid (HK.out.cell (HFu.out k hk7) HG.out)
      have HDn := Lib.hid (fun h : rdUp (k + 1) p s = none => show o = none by
        have h7 := rdUp_none h (7 - (k + 1))
        rw [show k + 1 + (7 - (k + 1)) = 7 by omega, HO.out] at h7
        exact h7)
      rcases (by omega : k = 0 ∨ k = 1 ∨ k = 2 ∨ k = 3 ∨ k = 4 ∨ k = 5 ∨ k = 6) with hkK | hkK | hkK | hkK | hkK | hkK | hkK
      · have HkK := Lib.hid hkK
        have hck : wr.cell? ⟨g, k, none⟩ = some (.func (.func 54) #[.pointer (some ⟨b, 0, none⟩)] #[]) := by rw [HFk.out, hkK]; rfl
        cases hq : rdBoard q t with
        | none =>
          have HE := Lib.hid (HDn.out (by rw [HSt.out, hkK]; exact hq))
          have HN := Lib.hid hq
          clear hq hkK hk hk7
          go_wp2_with (go_at_call 54; refine (rd_board b q t _ HR.out HI.out.2.1 HI.out.1 (HM.out.kept HK.out HBm.out) (HT.out.kept HK.out HBn.out) HBn.out HBm.out).mono ?_; intro e w5 hrd; rw [HN.out] at hrd; obtain ⟨⟨u, pv, rfl⟩, h2⟩ := hrd; have HK := Lib.hid (HK.out.trans h2); clear h2)
          try rw [HE.out]
          exact ⟨rfl, ⟨_, _, rfl⟩, HK.out⟩
        | some st =>
          obtain ⟨q', t'⟩ := st
          have HE := Lib.hid (show rdUp (k + 1) p s = some (q', t') by rw [HSt.out, hkK]; exact hq)
          have HI' := Lib.hid (rdStep_ok (st := (q', t')) HK7.out HI.out (by rw [hkK]; exact hq))
          have HN := Lib.hid hq
          clear hq hkK hk hk7
          go_wp2_with (go_at_call 54; refine (rd_board b q t _ HR.out HI.out.2.1 HI.out.1 (HM.out.kept HK.out HBm.out) (HT.out.kept HK.out HBn.out) HBn.out HBm.out).mono ?_; intro e w5 hrd; rw [HN.out] at hrd; obtain ⟨rfl, h1, h2⟩ := hrd; have HR := Lib.hid h1; have HK := Lib.hid (HK.out.trans h2); clear h1 h2)
          go_roundw
          case rel => exact ⟨k + 1, q', t', by have := HK7.out; omega, by go_num, HR.out, HE.out, HI'.out, HK.out⟩
          case measure => simp [intOf]; have := HK7.out; omega
      · have HkK := Lib.hid hkK
        have hck : wr.cell? ⟨g, k, none⟩ = some (.func (.func 55) #[.pointer (some ⟨b, 0, none⟩)] #[]) := by rw [HFk.out, hkK]; rfl
        cases hq : rdTurn q t with
        | none =>
          have HE := Lib.hid (HDn.out (by rw [HSt.out, hkK]; exact hq))
          have HN := Lib.hid hq
          clear hq hkK hk hk7
          go_wp2_with (go_at_call 55; refine (rd_turn b q t _ HR.out HI.out.2.1 (HM.out.kept HK.out HBm.out)).mono ?_; intro e w5 hrd; rw [HN.out] at hrd; obtain ⟨⟨u, pv, rfl⟩, h2⟩ := hrd; have HK := Lib.hid (HK.out.trans h2); clear h2)
          try rw [HE.out]
          exact ⟨rfl, ⟨_, _, rfl⟩, HK.out⟩
        | some st =>
          obtain ⟨q', t'⟩ := st
          have HE := Lib.hid (show rdUp (k + 1) p s = some (q', t') by rw [HSt.out, hkK]; exact hq)
          have HI' := Lib.hid (rdStep_ok (st := (q', t')) HK7.out HI.out (by rw [hkK]; exact hq))
          have HN := Lib.hid hq
          clear hq hkK hk hk7
          go_wp2_with (go_at_call 55; refine (rd_turn b q t _ HR.out HI.out.2.1 (HM.out.kept HK.out HBm.out)).mono ?_; intro e w5 hrd; rw [HN.out] at hrd; obtain ⟨rfl, h1, h2⟩ := hrd; have HR := Lib.hid h1; have HK := Lib.hid (HK.out.trans h2); clear h1 h2)
          go_roundw
          case rel => exact ⟨k + 1, q', t', by have := HK7.out; omega, by go_num, HR.out, HE.out, HI'.out, HK.out⟩
          case measure => simp [intOf]; have := HK7.out; omega
      · have HkK := Lib.hid hkK
        have hck : wr.cell? ⟨g, k, none⟩ = some (.func (.func 56) #[.pointer (some ⟨b, 0, none⟩)] #[]) := by rw [HFk.out, hkK]; rfl
        cases hq : rdRooks q t with
        | none =>
          have HE := Lib.hid (HDn.out (by rw [HSt.out, hkK]; exact hq))
          have HN := Lib.hid hq
          clear hq hkK hk hk7
          go_wp2_with (go_at_call 56; refine (rd_rooks b q t _ HR.out HI.out.2.1 HI.out.1 (HM.out.kept HK.out HBm.out) (HC.out.kept HK.out HBc.out) HBc.out).mono ?_; intro e w5 hrd; rw [HN.out] at hrd; obtain ⟨⟨u, pv, rfl⟩, h2⟩ := hrd; have HK := Lib.hid (HK.out.trans h2); clear h2)
          try rw [HE.out]
          exact ⟨rfl, ⟨_, _, rfl⟩, HK.out⟩
        | some st =>
          obtain ⟨q', t'⟩ := st
          have HE := Lib.hid (show rdUp (k + 1) p s = some (q', t') by rw [HSt.out, hkK]; exact hq)
          have HI' := Lib.hid (rdStep_ok (st := (q', t')) HK7.out HI.out (by rw [hkK]; exact hq))
          have HN := Lib.hid hq
          clear hq hkK hk hk7
          go_wp2_with (go_at_call 56; refine (rd_rooks b q t _ HR.out HI.out.2.1 HI.out.1 (HM.out.kept HK.out HBm.out) (HC.out.kept HK.out HBc.out) HBc.out).mono ?_; intro e w5 hrd; rw [HN.out] at hrd; obtain ⟨rfl, h1, h2⟩ := hrd; have HR := Lib.hid h1; have HK := Lib.hid (HK.out.trans h2); clear h1 h2)
          go_roundw
          case rel => exact ⟨k + 1, q', t', by have := HK7.out; omega, by go_num, HR.out, HE.out, HI'.out, HK.out⟩
          case measure => simp [intOf]; have := HK7.out; omega
      · have HkK := Lib.hid hkK
        have hck : wr.cell? ⟨g, k, none⟩ = some (.func (.func 57) #[.pointer (some ⟨b, 0, none⟩)] #[]) := by rw [HFk.out, hkK]; rfl
        cases hq : rdPass q t with
        | none =>
          have HE := Lib.hid (HDn.out (by rw [HSt.out, hkK]; exact hq))
          have HN := Lib.hid hq
          clear hq hkK hk hk7
          go_wp2_with (go_at_call 57; refine (rd_pass b q t _ HR.out HI.out.2.1 (HM.out.kept HK.out HBm.out)).mono ?_; intro e w5 hrd; rw [HN.out] at hrd; obtain ⟨⟨u, pv, rfl⟩, h2⟩ := hrd; have HK := Lib.hid (HK.out.trans h2); clear h2)
          try rw [HE.out]
          exact ⟨rfl, ⟨_, _, rfl⟩, HK.out⟩
        | some st =>
          obtain ⟨q', t'⟩ := st
          have HE := Lib.hid (show rdUp (k + 1) p s = some (q', t') by rw [HSt.out, hkK]; exact hq)
          have HI' := Lib.hid (rdStep_ok (st := (q', t')) HK7.out HI.out (by rw [hkK]; exact hq))
          have HN := Lib.hid hq
          clear hq hkK hk hk7
          go_wp2_with (go_at_call 57; refine (rd_pass b q t _ HR.out HI.out.2.1 (HM.out.kept HK.out HBm.out)).mono ?_; intro e w5 hrd; rw [HN.out] at hrd; obtain ⟨rfl, h1, h2⟩ := hrd; have HR := Lib.hid h1; have HK := Lib.hid (HK.out.trans h2); clear h1 h2)
          go_roundw
          case rel => exact ⟨k + 1, q', t', by have := HK7.out; omega, by go_num, HR.out, HE.out, HI'.out, HK.out⟩
          case measure => simp [intOf]; have := HK7.out; omega
      · have HkK := Lib.hid hkK
        have hck : wr.cell? ⟨g, k, none⟩ = some (.func (.func 58) #[.pointer (some ⟨b, 0, none⟩)] #[]) := by rw [HFk.out, hkK]; rfl
        cases hq : rdChk q t with
        | none =>
          have HE := Lib.hid (HDn.out (by rw [HSt.out, hkK]; exact hq))
          have HN := Lib.hid hq
          clear hq hkK hk hk7
          go_wp2_with (go_at_call 58; refine (rd_checks b q t _ HR.out HI.out.2.1 HI.out.1 (HM.out.kept HK.out HBm.out) (HI.out.2.2.2 (by have := HkK.out; omega)).1 (HI.out.2.2.2 (by have := HkK.out; omega)).2).mono ?_; intro e w5 hrd; rw [HN.out] at hrd; obtain ⟨⟨u, pv, rfl⟩, h2⟩ := hrd; have HK := Lib.hid (HK.out.trans h2); clear h2)
          try rw [HE.out]
          exact ⟨rfl, ⟨_, _, rfl⟩, HK.out⟩
        | some st =>
          obtain ⟨q', t'⟩ := st
          have HE := Lib.hid (show rdUp (k + 1) p s = some (q', t') by rw [HSt.out, hkK]; exact hq)
          have HI' := Lib.hid (rdStep_ok (st := (q', t')) HK7.out HI.out (by rw [hkK]; exact hq))
          have HN := Lib.hid hq
          clear hq hkK hk hk7
          go_wp2_with (go_at_call 58; refine (rd_checks b q t _ HR.out HI.out.2.1 HI.out.1 (HM.out.kept HK.out HBm.out) (HI.out.2.2.2 (by have := HkK.out; omega)).1 (HI.out.2.2.2 (by have := HkK.out; omega)).2).mono ?_; intro e w5 hrd; rw [HN.out] at hrd; obtain ⟨rfl, h1, h2⟩ := hrd; have HR := Lib.hid h1; have HK := Lib.hid (HK.out.trans h2); clear h1 h2)
          go_roundw
          case rel => exact ⟨k + 1, q', t', by have := HK7.out; omega, by go_num, HR.out, HE.out, HI'.out, HK.out⟩
          case measure => simp [intOf]; have := HK7.out; omega
      · have HkK := Lib.hid hkK
        have hck : wr.cell? ⟨g, k, none⟩ = some (.func (.func 59) #[.pointer (some ⟨b, 0, none⟩)] #[]) := by rw [HFk.out, hkK]; rfl
        cases hq : rdNum 86 q t with
        | none =>
          have HE := Lib.hid (HDn.out (by rw [HSt.out, hkK]; exact hq))
          have HN := Lib.hid hq
          clear hq hkK hk hk7
          go_wp2_with (go_at_call 59; refine (rd_half b q t _ HR.out HI.out.2.1 (HM.out.kept HK.out HBm.out) (HT.out.kept HK.out HBn.out) HBn.out).mono ?_; intro e w5 hrd; rw [HN.out] at hrd; obtain ⟨⟨u, pv, rfl⟩, h2⟩ := hrd; have HK := Lib.hid (HK.out.trans h2); clear h2)
          try rw [HE.out]
          exact ⟨rfl, ⟨_, _, rfl⟩, HK.out⟩
        | some st =>
          obtain ⟨q', t'⟩ := st
          have HE := Lib.hid (show rdUp (k + 1) p s = some (q', t') by rw [HSt.out, hkK]; exact hq)
          have HI' := Lib.hid (rdStep_ok (st := (q', t')) HK7.out HI.out (by rw [hkK]; exact hq))
          have HN := Lib.hid hq
          clear hq hkK hk hk7
          go_wp2_with (go_at_call 59; refine (rd_half b q t _ HR.out HI.out.2.1 (HM.out.kept HK.out HBm.out) (HT.out.kept HK.out HBn.out) HBn.out).mono ?_; intro e w5 hrd; rw [HN.out] at hrd; obtain ⟨rfl, h1, h2⟩ := hrd; have HR := Lib.hid h1; have HK := Lib.hid (HK.out.trans h2); clear h1 h2)
          go_roundw
          case rel => exact ⟨k + 1, q', t', by have := HK7.out; omega, by go_num, HR.out, HE.out, HI'.out, HK.out⟩
          case measure => simp [intOf]; have := HK7.out; omega
      · have HkK := Lib.hid hkK
        have hck : wr.cell? ⟨g, k, none⟩ = some (.func (.func 60) #[.pointer (some ⟨b, 0, none⟩)] #[]) := by rw [HFk.out, hkK]; rfl
        cases hq : rdNum 87 q t with
        | none =>
          have HE := Lib.hid (HDn.out (by rw [HSt.out, hkK]; exact hq))
          have HN := Lib.hid hq
          clear hq hkK hk hk7
          go_wp2_with (go_at_call 60; refine (rd_full b q t _ HR.out HI.out.2.1 (HM.out.kept HK.out HBm.out) (HT.out.kept HK.out HBn.out) HBn.out).mono ?_; intro e w5 hrd; rw [HN.out] at hrd; obtain ⟨⟨u, pv, rfl⟩, h2⟩ := hrd; have HK := Lib.hid (HK.out.trans h2); clear h2)
          try rw [HE.out]
          exact ⟨rfl, ⟨_, _, rfl⟩, HK.out⟩
        | some st =>
          obtain ⟨q', t'⟩ := st
          have HE := Lib.hid (show rdUp (k + 1) p s = some (q', t') by rw [HSt.out, hkK]; exact hq)
          have HI' := Lib.hid (rdStep_ok (st := (q', t')) HK7.out HI.out (by rw [hkK]; exact hq))
          have HN := Lib.hid hq
          clear hq hkK hk hk7
          go_wp2_with (go_at_call 60; refine (rd_full b q t _ HR.out HI.out.2.1 (HM.out.kept HK.out HBm.out) (HT.out.kept HK.out HBn.out) HBn.out).mono ?_; intro e w5 hrd; rw [HN.out] at hrd; obtain ⟨rfl, h1, h2⟩ := hrd; have HR := Lib.hid h1; have HK := Lib.hid (HK.out.trans h2); clear h1 h2)
          go_roundw
          case rel => exact ⟨k + 1, q', t', by have := HK7.out; omega, by go_num, HR.out, HE.out, HI'.out, HK.out⟩
          case measure => simp [intOf]; have := HK7.out; omega
    · obtain rfl : k = 7 := by omega
      have HE := Lib.hid (show o = some (q, t) by rw [← HO.out]; exact HEq.out)
      go_wp2_with fail
      rw [HE.out]
      go_end0
      exact ⟨rfl, HR.out, HK.out⟩
end Go.Proofs.YtjbfjohgfbipgaaGreatDoor
