/-
  Contracts of what the document says a variant has; of Promotes, by the program and by the document.
-/
import Derived.Test.YtkeoadcckbcccaaDoorRuNm
import Derived.Deep.QuietTactic
import Derived.BigQuiet
namespace Go.Proofs.YtkeoadcckbcccaaDoor
open Go.RowKit
set_option linter.unusedVariables false

def BoE (b : Bool) (w : World) (e : Ending) (w' : World) : Prop := e = .returned (.bool b) ∧ w = w'
theorem int_lt (v n : Nat) : decide ((v : Int) < (n : Int)) = Nat.blt v n := by
  rw [Bool.eq_iff_iff]; simp [Nat.blt_eq]
theorem int_beq (v n : Nat) : ((v : Int) == (n : Int)) = Nat.beq v n := by
  rw [Bool.eq_iff_iff]; simp; omega
theorem int_bne (v n : Nat) : ((v : Int) != (n : Int)) = !Nat.beq v n := by
  unfold bne; rw [int_beq]
theorem ry_int (v c : Nat) : ryB v c = (decide ((v : Int) < 9) && (decide ((c : Int) < 2) && (((v : Int) != 4) && (((v : Int) != 7) || ((c : Int) == 1))))) := by
  rw [show (9 : Int) = ((9 : Nat) : Int) from rfl, show (2 : Int) = ((2 : Nat) : Int) from rfl, show (4 : Int) = ((4 : Nat) : Int) from rfl, show (7 : Int) = ((7 : Nat) : Int) from rfl, show (1 : Int) = ((1 : Nat) : Int) from rfl, int_lt, int_lt, int_bne, int_bne, int_beq]
  unfold ryB
  simp only [Bool.and_assoc]
theorem cas_int (v : Nat) : casB v = (decide ((v : Int) < 9) && (((v : Int) != 4) && ((v : Int) != 8))) := by
  rw [show (9 : Int) = ((9 : Nat) : Int) from rfl, show (4 : Int) = ((4 : Nat) : Int) from rfl, show (8 : Int) = ((8 : Nat) : Int) from rfl, int_lt, int_bne, int_bne]
  unfold casB
  simp only [Bool.and_assoc]
theorem poc_int (v : Nat) : pocB v = ((v : Int) == 2) := by
  rw [show (2 : Int) = ((2 : Nat) : Int) from rfl, int_beq]; rfl
theorem paw_int (v : Nat) : pawB v = decide ((v : Int) < 8) := by
  rw [show (8 : Int) = ((8 : Nat) : Int) from rfl, int_lt]; rfl
theorem rroyal_any (v c : Nat) (w : World) : Calls Tryd.prog 15 #[.int .u8 (v : Int), .int .u8 (c : Int)] w (BoE (ryB v c) w) := by
  cases g1 : decide ((v : Int) < 9)
  · have HS := Lib.hid (show ryB v c = false by rw [ry_int, g1]; rfl)
    go_enter Tryd.func15, Tryd.ntmps15
    go_wp2_with fail
    go_ret
    exact ⟨by rw [HS.out]; rfl, rfl⟩
  · cases g2 : decide ((c : Int) < 2)
    · have HS := Lib.hid (show ryB v c = false by rw [ry_int, g1, g2]; rfl)
      go_enter Tryd.func15, Tryd.ntmps15
      go_wp2_with fail
      go_ret
      exact ⟨by rw [HS.out]; rfl, rfl⟩
    · cases g3 : ((v : Int) != 4)
      · have HS := Lib.hid (show ryB v c = false by rw [ry_int, g1, g2, g3]; rfl)
        go_enter Tryd.func15, Tryd.ntmps15
        go_wp2_with fail
        go_ret
        exact ⟨by rw [HS.out]; rfl, rfl⟩
      · cases g4 : ((v : Int) != 7)
        · cases g5 : ((c : Int) == 1)
          · have HS := Lib.hid (show ryB v c = false by rw [ry_int, g1, g2, g3, g4, g5]; rfl)
            go_enter Tryd.func15, Tryd.ntmps15
            go_wp2_with fail
            go_ret
            exact ⟨by rw [HS.out]; rfl, rfl⟩
          · have HS := Lib.hid (show ryB v c = true by rw [ry_int, g1, g2, g3, g4, g5]; rfl)
            go_enter Tryd.func15, Tryd.ntmps15
            go_wp2_with fail
            go_ret
            exact ⟨by rw [HS.out]; rfl, rfl⟩
        · have HS := Lib.hid (show ryB v c = true by rw [ry_int, g1, g2, g3, g4]; rfl)
          go_enter Tryd.func15, Tryd.ntmps15
          go_wp2_with fail
          go_ret
          exact ⟨by rw [HS.out]; rfl, rfl⟩
theorem rcas_any (v : Nat) (w : World) : Calls Tryd.prog 17 #[.int .u8 (v : Int)] w (BoE (casB v) w) := by
  cases g1 : decide ((v : Int) < 9)
  · have HS := Lib.hid (show casB v = false by rw [cas_int, g1]; rfl)
    go_enter Tryd.func17, Tryd.ntmps17
    go_wp2_with fail
    go_ret
    exact ⟨by rw [HS.out]; rfl, rfl⟩
  · cases g2 : ((v : Int) != 4)
    · have HS := Lib.hid (show casB v = false by rw [cas_int, g1, g2]; rfl)
      go_enter Tryd.func17, Tryd.ntmps17
      go_wp2_with fail
      go_ret
      exact ⟨by rw [HS.out]; rfl, rfl⟩
    · cases g3 : ((v : Int) != 8)
      · have HS := Lib.hid (show casB v = false by rw [cas_int, g1, g2, g3]; rfl)
        go_enter Tryd.func17, Tryd.ntmps17
        go_wp2_with fail
        go_ret
        exact ⟨by rw [HS.out]; rfl, rfl⟩
      · have HS := Lib.hid (show casB v = true by rw [cas_int, g1, g2, g3]; rfl)
        go_enter Tryd.func17, Tryd.ntmps17
        go_wp2_with fail
        go_ret
        exact ⟨by rw [HS.out]; rfl, rfl⟩
theorem rpoc_any (v : Nat) (w : World) : Calls Tryd.prog 19 #[.int .u8 (v : Int)] w (BoE (pocB v) w) := by
  cases g1 : ((v : Int) == 2)
  · have HS := Lib.hid (show pocB v = false by rw [poc_int, g1])
    go_enter Tryd.func19, Tryd.ntmps19
    go_wp2_with fail
    go_ret
    exact ⟨by rw [HS.out]; rfl, rfl⟩
  · have HS := Lib.hid (show pocB v = true by rw [poc_int, g1])
    go_enter Tryd.func19, Tryd.ntmps19
    go_wp2_with fail
    go_ret
    exact ⟨by rw [HS.out]; rfl, rfl⟩
theorem rpaw_any (v : Nat) (w : World) : Calls Tryd.prog 21 #[.int .u8 (v : Int)] w (BoE (pawB v) w) := by
  cases g1 : decide ((v : Int) < 8)
  · have HS := Lib.hid (show pawB v = false by rw [paw_int, g1])
    go_enter Tryd.func21, Tryd.ntmps21
    go_wp2_with fail
    go_ret
    exact ⟨by rw [HS.out]; rfl, rfl⟩
  · have HS := Lib.hid (show pawB v = true by rw [paw_int, g1])
    go_enter Tryd.func21, Tryd.ntmps21
    go_wp2_with fail
    go_ret
    exact ⟨by rw [HS.out]; rfl, rfl⟩
/-- The kinds from the knight on, n of them. -/
def upN (n : Nat) : List Nat := (List.range n).map (· + 2)
theorem upN_snoc (n : Nat) : upN (n + 1) = upN n ++ [n + 2] := by simp [upN, List.range_succ]
theorem upN_len (n : Nat) : (upN n).length = n := by simp [upN]
theorem upN_at (n i : Nat) (h : i < (upN n).length) : (upN n)[i] = i + 2 := by simp [upN]
def prL (v : Nat) : List Nat := upN (hiN v - 1)
theorem hi_cases (v : Nat) : hiN v = 0 ∨ hiN v = 5 ∨ hiN v = 6 := by
  unfold hiN
  cases Nat.beq v 4
  · cases Nat.blt v 8
    · exact .inl rfl
    · exact .inr (.inl rfl)
  · exact .inr (.inr rfl)
set_option maxHeartbeats 1000000 in
theorem prom_any (v : Nat) (w : World) (hv : v ≤ 255) (hT : TabVar w) : Calls Tryd.prog 12 #[.int .u8 (v : Int)] w (ListK .u8 5 (prL v) w) := by
  have HT := Lib.hid hT
  clear hT
  obtain ⟨i0, hi, hz0, hz1, hz2⟩ := info_parts infoU8
  obtain ⟨h, Hh⟩ : ∃ h, Hid (hiN v = h) := ⟨_, Lib.hid rfl⟩
  have hc : h = 0 ∨ h = 5 ∨ h = 6 := by rw [← Hh.out]; exact hi_cases v
  go_enter Tryd.func12, Tryd.ntmps12
  go_wp2
  go_loopw [3, 4] (fun l i wr => ∃ k : Nat, 2 ≤ k ∧ k ≤ 7 ∧ k - 2 ≤ h - 1 ∧ i = .int .u8 (k : Int) ∧ ListedK .u8 5 w.heap.size (upN (k - 2)) l wr ∧ Below w.heap.size w wr) (fun _ i _ => 8 - (intOf i).toNat)
  case atStart => exact ⟨2, by omega, by omega, by omega, rfl, listedK_nil _ _ _ _, Below.refl _ _⟩
  case round =>
    obtain ⟨k, hk2, hk7, hkh, rfl, hl, hb⟩ := hrel
    have HL := Lib.hid hl
    have HB := Lib.hid hb
    clear hl hb
    by_cases hlt : k ≤ h
    · have g0 : decide ((k : Int) ≤ (h : Int)) = true := decide_eq_true (by omega)
      have HU := Lib.hid (show upN (k + 1 - 2) = upN (k - 2) ++ [k] by rw [show k + 1 - 2 = (k - 2) + 1 by omega, upN_snoc, show k - 2 + 2 = k by omega])
      have hlen := upN_len (k - 2)
      go_wp2_with fail
      refine (of_row v _ hv (HT.out.on HB.out)).mono ?_; rintro e w2 ⟨rfl, hb2⟩
      have HB2 := Lib.hid (below_on HB.out hb2)
      have HL2 := Lib.hid (listedK_below HL.out hb2)
      have hsz := HB2.out.size
      clear hb2 HB HL
      rw [Hh.out]
      go_wp2_with (first
        | (refine step_field rfl 54 _ 5 rfl _ rfl Tryd.underlying54 rfl Tryd.underlying5 rfl (.int .u8 (h : Int)) rfl ?_)
        | (at_builtin; refine wpList_append_own _ rfl _ _ 26 rfl w.heap.size 5 i0 (.int .u8 0) 1 1 Tryd.underlying26 hi hz0 hz1 hz2 rfl (by decide) _ _ _ rfl (HL2.out.alloc _) ⟨_, 0, none⟩ 1 1 [.int .u8 (k : Int)] rfl rfl ?c1 ?c2 ?c3 ?c4 ?c5 ?_))
      case c1 => exact cell_one_new _ _ _
      case c2 => simp [Value.oneCell']
      case c3 => unfold maxLen; omega
      case c4 => omega
      case c5 => simp; omega
      intro v' w1 hown' hgrow _
      have HG := Lib.hid (listedK_grow HL2.out HB2.out HB2.out.size (by rw [upN_len]; exact hown') hgrow)
      clear hown' hgrow
      go_wp2
      go_roundw
      case rel => exact ⟨k + 1, by omega, by omega, by omega, by go_num, by rw [HU.out]; exact HG.out.1, HG.out.2⟩
      case measure => simp [intOf]; omega
    · have g0 : decide ((k : Int) ≤ (h : Int)) = false := decide_eq_false (by omega)
      have HE := Lib.hid (show upN (k - 2) = prL v by unfold prL; rw [Hh.out, show k - 2 = h - 1 by omega])
      go_wp2_with fail
      refine (of_row v _ hv (HT.out.on HB.out)).mono ?_; rintro e w2 ⟨rfl, hb2⟩
      have HB2 := Lib.hid (below_on HB.out hb2)
      have HL2 := Lib.hid (listedK_below HL.out hb2)
      clear hb2 HB HL
      rw [Hh.out]
      go_wp2_with (refine step_field rfl 54 _ 5 rfl _ rfl Tryd.underlying54 rfl Tryd.underlying5 rfl (.int .u8 (h : Int)) rfl ?_)
      go_ret
      exact ⟨_, rfl, by rw [← HE.out]; exact HL2.out, HB2.out⟩
theorem listed_new {w : World} {l : List Nat} {cs : Array Value} {n : Nat} (h : cs.toList = rowK .u8 l) (hl : l.length = n) (hm : n ≤ maxLen) :
    ListedK .u8 5 w.heap.size l (.slice (some ⟨w.heap.size, 0, none⟩) n n) (w.alloc (.cells cs 5)) := by
  subst hl
  have e : cs.size = l.length := by
    have := congrArg List.length h
    simpa [rowK] using this
  refine ⟨by simp [rowK], .inr ⟨w.heap.size, l.length, cs, rfl, Nat.le_refl _, heap_alloc_new w _, Nat.le_refl _, hm, by omega, ?_⟩⟩
  rw [h]
  exact List.take_of_length_le (by simp [rowK])
theorem pr_4 {v : Nat} (h : ((v : Int) == 4) = true) : prL v = upN 5 := by
  rw [show (4 : Int) = ((4 : Nat) : Int) from rfl, int_beq] at h
  unfold prL hiN; rw [h]; rfl
theorem pr_8 {v : Nat} (h : ((v : Int) == 4) = false) (g : decide ((v : Int) < 8) = true) : prL v = upN 4 := by
  rw [show (4 : Int) = ((4 : Nat) : Int) from rfl, int_beq] at h
  rw [show (8 : Int) = ((8 : Nat) : Int) from rfl, int_lt] at g
  unfold prL hiN; rw [h, g]; rfl
theorem pr_9 {v : Nat} (h : ((v : Int) == 4) = false) (g : decide ((v : Int) < 8) = false) : prL v = upN 0 := by
  rw [show (4 : Int) = ((4 : Nat) : Int) from rfl, int_beq] at h
  rw [show (8 : Int) = ((8 : Nat) : Int) from rfl, int_lt] at g
  unfold prL hiN; rw [h, g]; rfl
theorem rprom_any (v : Nat) (w : World) : Calls Tryd.prog 13 #[.int .u8 (v : Int)] w (ListK .u8 5 (prL v) w) := by
  cases g1 : ((v : Int) == 4)
  · cases g2 : decide ((v : Int) < 8)
    · have HE := Lib.hid (pr_9 g1 g2)
      go_enter Tryd.func13, Tryd.ntmps13
      go_wp2_with fail
      go_ret
      exact ⟨_, rfl, by rw [HE.out]; exact listedK_nil _ _ _ _, Below.refl _ _⟩
    · have HE := Lib.hid (pr_8 g1 g2)
      go_enter Tryd.func13, Tryd.ntmps13
      go_wp2_with fail
      go_ret
      exact ⟨_, rfl, by rw [HE.out]; exact listed_new rfl rfl (by decide), (Below.refl _ _).alloc (Nat.le_refl _) _⟩
  · have HE := Lib.hid (pr_4 g1)
    go_enter Tryd.func13, Tryd.ntmps13
    go_wp2_with fail
    go_ret
    exact ⟨_, rfl, by rw [HE.out]; exact listed_new rfl rfl (by decide), (Below.refl _ _).alloc (Nat.le_refl _) _⟩
end Go.Proofs.YtkeoadcckbcccaaDoor
