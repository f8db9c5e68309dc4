/-
  The walk of BitsBack.
-/
import Derived.Test.YtpglfcjkjomcjaaDoorAwake
import Derived.Test.YtpglfcjkjomcjaaDoorMathD
import Derived.WalkKit
import Derived.OpenShut
namespace Go.Proofs.YtpglfcjkjomcjaaDoor.bitsBack
open Go.RowKit
set_option linter.unusedVariables false
theorem sub_bit (b c i : Nat) : (b ^^^ (b &&& c)).testBit i = (b.testBit i && !c.testBit i) := by
  rw [Nat.testBit_xor, Nat.testBit_and]; cases b.testBit i <;> cases c.testBit i <;> rfl
theorem sub_lt {b : Nat} (c : Nat) (hb : b < W64) : b ^^^ (b &&& c) < W64 := Nat.xor_lt_two_pow (n := 64) hb (Nat.lt_of_le_of_lt Nat.and_le_left hb)
theorem back_in {b : Nat} (d : Nat) (hd : d < 8) (hb : b < W64) : (bits .andNot .u64 ((backN b d : Nat) : Int) (b : Int) != 0) = false := by
  have hl : backN b d < W64 := shiftN_lt _ _
  rw [andNot_nat hl hb]
  have e : backN b d ^^^ (backN b d &&& b) = 0 := by
    apply eq_of_bits (sub_lt _ hl) (by decide)
    intro i hi
    rw [sub_bit, back_testBit b d hd i hi, Nat.zero_testBit]
    cases b.testBit i <;> simp
  rw [e]; rfl
theorem left_edge {b d s : Nat} (hd : d < 8) (h : s ∈ listN (b ^^^ (b &&& backN b d))) : s < 64 ∧ ((s : Int) % 8 + fileD (d : Int) < 0 ∨ 8 ≤ (s : Int) % 8 + fileD (d : Int) ∨ (s : Int) / 8 + rankD (d : Int) < 0 ∨ 8 ≤ (s : Int) / 8 + rankD (d : Int)) := by
  rw [mem_listN] at h
  refine ⟨h.1, ?_⟩
  have h2 := h.2
  rw [sub_bit, back_testBit b d hd s h.1, Bool.and_eq_true] at h2
  have h3 := h2.2
  rw [h2.1, Bool.true_and, Bool.not_eq_true', onB_false] at h3
  exact h3
theorem bne_of {a b : Int} (h : a = b) : (a != b) = false := by rw [h]; simp
theorem list_of {a : Int} (b : Nat) (ha : (b : Int) = a) (hb : b < W64) (w : World) (hT : TabDb w) : Calls Tryd.prog 11 #[.int .u64 a] w (ListPost b w) := by
  subst ha; exact list_any b w hb hT
set_option maxRecDepth 100000 in
set_option maxHeartbeats 2000000 in
theorem walk_0 (b : Nat) (a1 : Int) (hd : wrap64 ((IntKind.u64.wrap a1).tmod 8) = 0) (hb : b < W64) (w : World) (T0 : TabDb w) (T1 : TabLead w) :
    Calls Tryd.prog 7 #[.int .u64 (b : Int), .int .i64 a1] w fun e w' => e = .returned (.bool true) ∧ Below w.heap.size w w' := by
  have x1 : (bits .andNot .u64 ((shiftN (shiftN b 0) 4 : Nat) : Int) (b : Int) != 0) = false := back_in 0 (by decide) hb
  have x2 : ((((listN (shiftN (shiftN b 0) 4)).length : Nat) : Int) != (((listN (shiftN b 0)).length : Nat) : Int)) = false := bne_of (congrArg Int.ofNat (count_back b 0 (by decide)))
  obtain ⟨c, hc0, hclt⟩ : ∃ c, c = b ^^^ (b &&& shiftN (shiftN b 0) 4) ∧ c < W64 := ⟨_, rfl, sub_lt _ hb⟩
  have HA := Lib.hid (andNot_nat hb (shiftN_lt (shiftN b 0) 4))
  rw [← hc0] at HA
  have HE : Hid (∀ s, s ∈ listN c → s < 64 ∧ ((s : Int) % 8 + fileD (0 : Nat) < 0 ∨ 8 ≤ (s : Int) % 8 + fileD (0 : Nat) ∨ (s : Int) / 8 + rankD (0 : Nat) < 0 ∨ 8 ≤ (s : Int) / 8 + rankD (0 : Nat))) := fun s hs => left_edge (b := b) (d := 0) (by decide) (by rw [hc0] at hs; exact hs)
  have HC := Lib.hid hclt
  have HB := Lib.hid hb
  have HT := Lib.hid T0
  have HL := Lib.hid T1
  have hlen := listN_len c
  clear hb hc0 hclt T0 T1
  go_enter Tryd.func7, Tryd.ntmps7
  go_wp2_with fail
  refine (awake_any _ HT.out HL.out).mono ?_; rintro e w1 ⟨rfl, hb1⟩
  have HT1 := Lib.hid (HT.out.later HT.out.lt hb1)
  have HL1 := Lib.hid (HL.out.later HL.out.lt hb1)
  have HB1 := Lib.hid hb1
  clear hb1
  go_wp2_with fail
  refine (shift_any b _ _ HB.out HL1.out).mono ?_; rintro e w' ⟨rfl, rfl⟩
  go_wp2_with fail
  refine (shift_any _ _ _ (shiftN_lt _ _) HL1.out).mono ?_; rintro e w' ⟨rfl, rfl⟩
  go_wp2_with fail
  refine (count_any _ _ (shiftN_lt _ _)).mono ?_; rintro e w' ⟨rfl, rfl⟩
  go_wp2_with fail
  refine (count_any _ _ (shiftN_lt _ _)).mono ?_; rintro e w' ⟨rfl, rfl⟩
  go_wp2_with fail
  refine (list_of c HA.out.symm HC.out _ HT1.out).mono ?_; rintro e w2 ⟨v, rfl, hL, hb2⟩
  obtain ⟨p, cap, rfl, hp⟩ := listed_open hL
  have HP := Lib.hid hp
  have HB2 := Lib.hid hb2
  clear hL hp hb2 x1 x2
  go_wp2_with fail
  go_loopw [8] (fun i wr => ∃ k : Nat, k ≤ (listN c).length ∧ i = .int .i64 k ∧ Below w2.heap.size w2 wr) (fun i _ => (listN c).length - (intOf i).toNat)
  case atStart => exact ⟨0, Nat.zero_le _, rfl, Below.refl _ _⟩
  case round =>
    obtain ⟨k, hk, rfl, hbel⟩ := hrel
    have HBl := Lib.hid hbel
    have HPl := Lib.hid (HP.out.later hbel)
    clear hbel
    by_cases hlt : k < (listN c).length
    · obtain ⟨s, HS⟩ : ∃ s, Hid ((listN c)[k]? = some s) := ⟨_, Lib.hid (List.getElem?_eq_getElem hlt)⟩
      obtain ⟨g, rfl, hg1, hg2, hg3⟩ := HPl.out (by omega)
      have hc := (hg3 k s HS.out).1
      have hs := HE.out s (List.mem_of_getElem? HS.out)
      have hs64 : s < 64 := hs.1
      have he := hs.2
      have ef : fileD (0 : Nat) = 0 := by decide
      have er : rankD (0 : Nat) = 1 := by decide
      rw [ef, er] at he
      clear hg3 hs ef er
      have q : ((s : Int) / 8 == 7) = true := by rw [beq_iff_eq]; omega
      clear he
      · go_wp2
        go_quiet (fail)
        go_wp2
        go_roundw
        case rel => exact ⟨k + 1, by omega, by go_num, below_drewN HBl.out _⟩
        case measure => simp [intOf]; omega
    · go_wp2
      go_ret
      exact ⟨rfl, HB1.out.trans ((HB2.out.trans (HBl.out.mono HB2.out.size)).mono HB1.out.size)⟩
set_option maxRecDepth 100000 in
set_option maxHeartbeats 2000000 in
theorem walk_1 (b : Nat) (a1 : Int) (hd : wrap64 ((IntKind.u64.wrap a1).tmod 8) = 1) (hb : b < W64) (w : World) (T0 : TabDb w) (T1 : TabLead w) :
    Calls Tryd.prog 7 #[.int .u64 (b : Int), .int .i64 a1] w fun e w' => e = .returned (.bool true) ∧ Below w.heap.size w w' := by
  have x1 : (bits .andNot .u64 ((shiftN (shiftN b 1) 5 : Nat) : Int) (b : Int) != 0) = false := back_in 1 (by decide) hb
  have x2 : ((((listN (shiftN (shiftN b 1) 5)).length : Nat) : Int) != (((listN (shiftN b 1)).length : Nat) : Int)) = false := bne_of (congrArg Int.ofNat (count_back b 1 (by decide)))
  obtain ⟨c, hc0, hclt⟩ : ∃ c, c = b ^^^ (b &&& shiftN (shiftN b 1) 5) ∧ c < W64 := ⟨_, rfl, sub_lt _ hb⟩
  have HA := Lib.hid (andNot_nat hb (shiftN_lt (shiftN b 1) 5))
  rw [← hc0] at HA
  have HE : Hid (∀ s, s ∈ listN c → s < 64 ∧ ((s : Int) % 8 + fileD (1 : Nat) < 0 ∨ 8 ≤ (s : Int) % 8 + fileD (1 : Nat) ∨ (s : Int) / 8 + rankD (1 : Nat) < 0 ∨ 8 ≤ (s : Int) / 8 + rankD (1 : Nat))) := fun s hs => left_edge (b := b) (d := 1) (by decide) (by rw [hc0] at hs; exact hs)
  have HC := Lib.hid hclt
  have HB := Lib.hid hb
  have HT := Lib.hid T0
  have HL := Lib.hid T1
  have hlen := listN_len c
  clear hb hc0 hclt T0 T1
  go_enter Tryd.func7, Tryd.ntmps7
  go_wp2_with fail
  refine (awake_any _ HT.out HL.out).mono ?_; rintro e w1 ⟨rfl, hb1⟩
  have HT1 := Lib.hid (HT.out.later HT.out.lt hb1)
  have HL1 := Lib.hid (HL.out.later HL.out.lt hb1)
  have HB1 := Lib.hid hb1
  clear hb1
  go_wp2_with fail
  refine (shift_any b _ _ HB.out HL1.out).mono ?_; rintro e w' ⟨rfl, rfl⟩
  go_wp2_with fail
  refine (shift_any _ _ _ (shiftN_lt _ _) HL1.out).mono ?_; rintro e w' ⟨rfl, rfl⟩
  go_wp2_with fail
  refine (count_any _ _ (shiftN_lt _ _)).mono ?_; rintro e w' ⟨rfl, rfl⟩
  go_wp2_with fail
  refine (count_any _ _ (shiftN_lt _ _)).mono ?_; rintro e w' ⟨rfl, rfl⟩
  go_wp2_with fail
  refine (list_of c HA.out.symm HC.out _ HT1.out).mono ?_; rintro e w2 ⟨v, rfl, hL, hb2⟩
  obtain ⟨p, cap, rfl, hp⟩ := listed_open hL
  have HP := Lib.hid hp
  have HB2 := Lib.hid hb2
  clear hL hp hb2 x1 x2
  go_wp2_with fail
  go_loopw [8] (fun i wr => ∃ k : Nat, k ≤ (listN c).length ∧ i = .int .i64 k ∧ Below w2.heap.size w2 wr) (fun i _ => (listN c).length - (intOf i).toNat)
  case atStart => exact ⟨0, Nat.zero_le _, rfl, Below.refl _ _⟩
  case round =>
    obtain ⟨k, hk, rfl, hbel⟩ := hrel
    have HBl := Lib.hid hbel
    have HPl := Lib.hid (HP.out.later hbel)
    clear hbel
    by_cases hlt : k < (listN c).length
    · obtain ⟨s, HS⟩ : ∃ s, Hid ((listN c)[k]? = some s) := ⟨_, Lib.hid (List.getElem?_eq_getElem hlt)⟩
      obtain ⟨g, rfl, hg1, hg2, hg3⟩ := HPl.out (by omega)
      have hc := (hg3 k s HS.out).1
      have hs := HE.out s (List.mem_of_getElem? HS.out)
      have hs64 : s < 64 := hs.1
      have he := hs.2
      have ef : fileD (1 : Nat) = 1 := by decide
      have er : rankD (1 : Nat) = 1 := by decide
      rw [ef, er] at he
      clear hg3 hs ef er
      by_cases q : ((s : Int) / 8 == 7) = true
      · clear he
        go_wp2
        go_quiet (fail)
        go_wp2
        go_roundw
        case rel => exact ⟨k + 1, by omega, by go_num, below_drewN HBl.out _⟩
        case measure => simp [intOf]; omega
      · have q' : ((s : Int) / 8 == 7) = false := by simpa using q
        have q2 : ((s : Int) % 8 == 7) = true := by rw [beq_iff_eq]; rw [beq_eq_false_iff_ne] at q'; omega
        clear he q
        go_wp2
        go_quiet (fail)
        go_wp2
        go_roundw
        case rel => exact ⟨k + 1, by omega, by go_num, below_drewN HBl.out _⟩
        case measure => simp [intOf]; omega
    · go_wp2
      go_ret
      exact ⟨rfl, HB1.out.trans ((HB2.out.trans (HBl.out.mono HB2.out.size)).mono HB1.out.size)⟩
set_option maxRecDepth 100000 in
set_option maxHeartbeats 2000000 in
theorem walk_2 (b : Nat) (a1 : Int) (hd : wrap64 ((IntKind.u64.wrap a1).tmod 8) = 2) (hb : b < W64) (w : World) (T0 : TabDb w) (T1 : TabLead w) :
    Calls Tryd.prog 7 #[.int .u64 (b : Int), .int .i64 a1] w fun e w' => e = .returned (.bool true) ∧ Below w.heap.size w w' := by
  have x1 : (bits .andNot .u64 ((shiftN (shiftN b 2) 6 : Nat) : Int) (b : Int) != 0) = false := back_in 2 (by decide) hb
  have x2 : ((((listN (shiftN (shiftN b 2) 6)).length : Nat) : Int) != (((listN (shiftN b 2)).length : Nat) : Int)) = false := bne_of (congrArg Int.ofNat (count_back b 2 (by decide)))
  obtain ⟨c, hc0, hclt⟩ : ∃ c, c = b ^^^ (b &&& shiftN (shiftN b 2) 6) ∧ c < W64 := ⟨_, rfl, sub_lt _ hb⟩
  have HA := Lib.hid (andNot_nat hb (shiftN_lt (shiftN b 2) 6))
  rw [← hc0] at HA
  have HE : Hid (∀ s, s ∈ listN c → s < 64 ∧ ((s : Int) % 8 + fileD (2 : Nat) < 0 ∨ 8 ≤ (s : Int) % 8 + fileD (2 : Nat) ∨ (s : Int) / 8 + rankD (2 : Nat) < 0 ∨ 8 ≤ (s : Int) / 8 + rankD (2 : Nat))) := fun s hs => left_edge (b := b) (d := 2) (by decide) (by rw [hc0] at hs; exact hs)
  have HC := Lib.hid hclt
  have HB := Lib.hid hb
  have HT := Lib.hid T0
  have HL := Lib.hid T1
  have hlen := listN_len c
  clear hb hc0 hclt T0 T1
  go_enter Tryd.func7, Tryd.ntmps7
  go_wp2_with fail
  refine (awake_any _ HT.out HL.out).mono ?_; rintro e w1 ⟨rfl, hb1⟩
  have HT1 := Lib.hid (HT.out.later HT.out.lt hb1)
  have HL1 := Lib.hid (HL.out.later HL.out.lt hb1)
  have HB1 := Lib.hid hb1
  clear hb1
  go_wp2_with fail
  refine (shift_any b _ _ HB.out HL1.out).mono ?_; rintro e w' ⟨rfl, rfl⟩
  go_wp2_with fail
  refine (shift_any _ _ _ (shiftN_lt _ _) HL1.out).mono ?_; rintro e w' ⟨rfl, rfl⟩
  go_wp2_with fail
  refine (count_any _ _ (shiftN_lt _ _)).mono ?_; rintro e w' ⟨rfl, rfl⟩
  go_wp2_with fail
  refine (count_any _ _ (shiftN_lt _ _)).mono ?_; rintro e w' ⟨rfl, rfl⟩
  go_wp2_with fail
  refine (list_of c HA.out.symm HC.out _ HT1.out).mono ?_; rintro e w2 ⟨v, rfl, hL, hb2⟩
  obtain ⟨p, cap, rfl, hp⟩ := listed_open hL
  have HP := Lib.hid hp
  have HB2 := Lib.hid hb2
  clear hL hp hb2 x1 x2
  go_wp2_with fail
  go_loopw [8] (fun i wr => ∃ k : Nat, k ≤ (listN c).length ∧ i = .int .i64 k ∧ Below w2.heap.size w2 wr) (fun i _ => (listN c).length - (intOf i).toNat)
  case atStart => exact ⟨0, Nat.zero_le _, rfl, Below.refl _ _⟩
  case round =>
    obtain ⟨k, hk, rfl, hbel⟩ := hrel
    have HBl := Lib.hid hbel
    have HPl := Lib.hid (HP.out.later hbel)
    clear hbel
    by_cases hlt : k < (listN c).length
    · obtain ⟨s, HS⟩ : ∃ s, Hid ((listN c)[k]? = some s) := ⟨_, Lib.hid (List.getElem?_eq_getElem hlt)⟩
      obtain ⟨g, rfl, hg1, hg2, hg3⟩ := HPl.out (by omega)
      have hc := (hg3 k s HS.out).1
      have hs := HE.out s (List.mem_of_getElem? HS.out)
      have hs64 : s < 64 := hs.1
      have he := hs.2
      have ef : fileD (2 : Nat) = 1 := by decide
      have er : rankD (2 : Nat) = 0 := by decide
      rw [ef, er] at he
      clear hg3 hs ef er
      have q : ((s : Int) % 8 == 7) = true := by rw [beq_iff_eq]; omega
      clear he
      · go_wp2
        go_quiet (fail)
        go_wp2
        go_roundw
        case rel => exact ⟨k + 1, by omega, by go_num, below_drewN HBl.out _⟩
        case measure => simp [intOf]; omega
    · go_wp2
      go_ret
      exact ⟨rfl, HB1.out.trans ((HB2.out.trans (HBl.out.mono HB2.out.size)).mono HB1.out.size)⟩
set_option maxRecDepth 100000 in
set_option maxHeartbeats 2000000 in
theorem walk_3 (b : Nat) (a1 : Int) (hd : wrap64 ((IntKind.u64.wrap a1).tmod 8) = 3) (hb : b < W64) (w : World) (T0 : TabDb w) (T1 : TabLead w) :
    Calls Tryd.prog 7 #[.int .u64 (b : Int), .int .i64 a1] w fun e w' => e = .returned (.bool true) ∧ Below w.heap.size w w' := by
  have x1 : (bits .andNot .u64 ((shiftN (shiftN b 3) 7 : Nat) : Int) (b : Int) != 0) = false := back_in 3 (by decide) hb
  have x2 : ((((listN (shiftN (shiftN b 3) 7)).length : Nat) : Int) != (((listN (shiftN b 3)).length : Nat) : Int)) = false := bne_of (congrArg Int.ofNat (count_back b 3 (by decide)))
  obtain ⟨c, hc0, hclt⟩ : ∃ c, c = b ^^^ (b &&& shiftN (shiftN b 3) 7) ∧ c < W64 := ⟨_, rfl, sub_lt _ hb⟩
  have HA := Lib.hid (andNot_nat hb (shiftN_lt (shiftN b 3) 7))
  rw [← hc0] at HA
  have HE : Hid (∀ s, s ∈ listN c → s < 64 ∧ ((s : Int) % 8 + fileD (3 : Nat) < 0 ∨ 8 ≤ (s : Int) % 8 + fileD (3 : Nat) ∨ (s : Int) / 8 + rankD (3 : Nat) < 0 ∨ 8 ≤ (s : Int) / 8 + rankD (3 : Nat))) := fun s hs => left_edge (b := b) (d := 3) (by decide) (by rw [hc0] at hs; exact hs)
  have HC := Lib.hid hclt
  have HB := Lib.hid hb
  have HT := Lib.hid T0
  have HL := Lib.hid T1
  have hlen := listN_len c
  clear hb hc0 hclt T0 T1
  go_enter Tryd.func7, Tryd.ntmps7
  go_wp2_with fail
  refine (awake_any _ HT.out HL.out).mono ?_; rintro e w1 ⟨rfl, hb1⟩
  have HT1 := Lib.hid (HT.out.later HT.out.lt hb1)
  have HL1 := Lib.hid (HL.out.later HL.out.lt hb1)
  have HB1 := Lib.hid hb1
  clear hb1
  go_wp2_with fail
  refine (shift_any b _ _ HB.out HL1.out).mono ?_; rintro e w' ⟨rfl, rfl⟩
  go_wp2_with fail
  refine (shift_any _ _ _ (shiftN_lt _ _) HL1.out).mono ?_; rintro e w' ⟨rfl, rfl⟩
  go_wp2_with fail
  refine (count_any _ _ (shiftN_lt _ _)).mono ?_; rintro e w' ⟨rfl, rfl⟩
  go_wp2_with fail
  refine (count_any _ _ (shiftN_lt _ _)).mono ?_; rintro e w' ⟨rfl, rfl⟩
  go_wp2_with fail
  refine (list_of c HA.out.symm HC.out _ HT1.out).mono ?_; rintro e w2 ⟨v, rfl, hL, hb2⟩
  obtain ⟨p, cap, rfl, hp⟩ := listed_open hL
  have HP := Lib.hid hp
  have HB2 := Lib.hid hb2
  clear hL hp hb2 x1 x2
  go_wp2_with fail
  go_loopw [8] (fun i wr => ∃ k : Nat, k ≤ (listN c).length ∧ i = .int .i64 k ∧ Below w2.heap.size w2 wr) (fun i _ => (listN c).length - (intOf i).toNat)
  case atStart => exact ⟨0, Nat.zero_le _, rfl, Below.refl _ _⟩
  case round =>
    obtain ⟨k, hk, rfl, hbel⟩ := hrel
    have HBl := Lib.hid hbel
    have HPl := Lib.hid (HP.out.later hbel)
    clear hbel
    by_cases hlt : k < (listN c).length
    · obtain ⟨s, HS⟩ : ∃ s, Hid ((listN c)[k]? = some s) := ⟨_, Lib.hid (List.getElem?_eq_getElem hlt)⟩
      obtain ⟨g, rfl, hg1, hg2, hg3⟩ := HPl.out (by omega)
      have hc := (hg3 k s HS.out).1
      have hs := HE.out s (List.mem_of_getElem? HS.out)
      have hs64 : s < 64 := hs.1
      have he := hs.2
      have ef : fileD (3 : Nat) = 1 := by decide
      have er : rankD (3 : Nat) = -1 := by decide
      rw [ef, er] at he
      clear hg3 hs ef er
      by_cases q : ((s : Int) / 8 == 0) = true
      · clear he
        go_wp2
        go_quiet (fail)
        go_wp2
        go_roundw
        case rel => exact ⟨k + 1, by omega, by go_num, below_drewN HBl.out _⟩
        case measure => simp [intOf]; omega
      · have q' : ((s : Int) / 8 == 0) = false := by simpa using q
        have q2 : ((s : Int) % 8 == 7) = true := by rw [beq_iff_eq]; rw [beq_eq_false_iff_ne] at q'; omega
        clear he q
        go_wp2
        go_quiet (fail)
        go_wp2
        go_roundw
        case rel => exact ⟨k + 1, by omega, by go_num, below_drewN HBl.out _⟩
        case measure => simp [intOf]; omega
    · go_wp2
      go_ret
      exact ⟨rfl, HB1.out.trans ((HB2.out.trans (HBl.out.mono HB2.out.size)).mono HB1.out.size)⟩
set_option maxRecDepth 100000 in
set_option maxHeartbeats 2000000 in
theorem walk_4 (b : Nat) (a1 : Int) (hd : wrap64 ((IntKind.u64.wrap a1).tmod 8) = 4) (hb : b < W64) (w : World) (T0 : TabDb w) (T1 : TabLead w) :
    Calls Tryd.prog 7 #[.int .u64 (b : Int), .int .i64 a1] w fun e w' => e = .returned (.bool true) ∧ Below w.heap.size w w' := by
  have x1 : (bits .andNot .u64 ((shiftN (shiftN b 4) 0 : Nat) : Int) (b : Int) != 0) = false := back_in 4 (by decide) hb
  have x2 : ((((listN (shiftN (shiftN b 4) 0)).length : Nat) : Int) != (((listN (shiftN b 4)).length : Nat) : Int)) = false := bne_of (congrArg Int.ofNat (count_back b 4 (by decide)))
  obtain ⟨c, hc0, hclt⟩ : ∃ c, c = b ^^^ (b &&& shiftN (shiftN b 4) 0) ∧ c < W64 := ⟨_, rfl, sub_lt _ hb⟩
  have HA := Lib.hid (andNot_nat hb (shiftN_lt (shiftN b 4) 0))
  rw [← hc0] at HA
  have HE : Hid (∀ s, s ∈ listN c → s < 64 ∧ ((s : Int) % 8 + fileD (4 : Nat) < 0 ∨ 8 ≤ (s : Int) % 8 + fileD (4 : Nat) ∨ (s : Int) / 8 + rankD (4 : Nat) < 0 ∨ 8 ≤ (s : Int) / 8 + rankD (4 : Nat))) := fun s hs => left_edge (b := b) (d := 4) (by decide) (by rw [hc0] at hs; exact hs)
  have HC := Lib.hid hclt
  have HB := Lib.hid hb
  have HT := Lib.hid T0
  have HL := Lib.hid T1
  have hlen := listN_len c
  clear hb hc0 hclt T0 T1
  go_enter Tryd.func7, Tryd.ntmps7
  go_wp2_with fail
  refine (awake_any _ HT.out HL.out).mono ?_; rintro e w1 ⟨rfl, hb1⟩
  have HT1 := Lib.hid (HT.out.later HT.out.lt hb1)
  have HL1 := Lib.hid (HL.out.later HL.out.lt hb1)
  have HB1 := Lib.hid hb1
  clear hb1
  go_wp2_with fail
  refine (shift_any b _ _ HB.out HL1.out).mono ?_; rintro e w' ⟨rfl, rfl⟩
  go_wp2_with fail
  refine (shift_any _ _ _ (shiftN_lt _ _) HL1.out).mono ?_; rintro e w' ⟨rfl, rfl⟩
  go_wp2_with fail
  refine (count_any _ _ (shiftN_lt _ _)).mono ?_; rintro e w' ⟨rfl, rfl⟩
  go_wp2_with fail
  refine (count_any _ _ (shiftN_lt _ _)).mono ?_; rintro e w' ⟨rfl, rfl⟩
  go_wp2_with fail
  refine (list_of c HA.out.symm HC.out _ HT1.out).mono ?_; rintro e w2 ⟨v, rfl, hL, hb2⟩
  obtain ⟨p, cap, rfl, hp⟩ := listed_open hL
  have HP := Lib.hid hp
  have HB2 := Lib.hid hb2
  clear hL hp hb2 x1 x2
  go_wp2_with fail
  go_loopw [8] (fun i wr => ∃ k : Nat, k ≤ (listN c).length ∧ i = .int .i64 k ∧ Below w2.heap.size w2 wr) (fun i _ => (listN c).length - (intOf i).toNat)
  case atStart => exact ⟨0, Nat.zero_le _, rfl, Below.refl _ _⟩
  case round =>
    obtain ⟨k, hk, rfl, hbel⟩ := hrel
    have HBl := Lib.hid hbel
    have HPl := Lib.hid (HP.out.later hbel)
    clear hbel
    by_cases hlt : k < (listN c).length
    · obtain ⟨s, HS⟩ : ∃ s, Hid ((listN c)[k]? = some s) := ⟨_, Lib.hid (List.getElem?_eq_getElem hlt)⟩
      obtain ⟨g, rfl, hg1, hg2, hg3⟩ := HPl.out (by omega)
      have hc := (hg3 k s HS.out).1
      have hs := HE.out s (List.mem_of_getElem? HS.out)
      have hs64 : s < 64 := hs.1
      have he := hs.2
      have ef : fileD (4 : Nat) = 0 := by decide
      have er : rankD (4 : Nat) = -1 := by decide
      rw [ef, er] at he
      clear hg3 hs ef er
      have q : ((s : Int) / 8 == 0) = true := by rw [beq_iff_eq]; omega
      clear he
      · go_wp2
        go_quiet (fail)
        go_wp2
        go_roundw
        case rel => exact ⟨k + 1, by omega, by go_num, below_drewN HBl.out _⟩
        case measure => simp [intOf]; omega
    · go_wp2
      go_ret
      exact ⟨rfl, HB1.out.trans ((HB2.out.trans (HBl.out.mono HB2.out.size)).mono HB1.out.size)⟩
set_option maxRecDepth 100000 in
set_option maxHeartbeats 2000000 in
theorem walk_5 (b : Nat) (a1 : Int) (hd : wrap64 ((IntKind.u64.wrap a1).tmod 8) = 5) (hb : b < W64) (w : World) (T0 : TabDb w) (T1 : TabLead w) :
    Calls Tryd.prog 7 #[.int .u64 (b : Int), .int .i64 a1] w fun e w' => e = .returned (.bool true) ∧ Below w.heap.size w w' := by
  have x1 : (bits .andNot .u64 ((shiftN (shiftN b 5) 1 : Nat) : Int) (b : Int) != 0) = false := back_in 5 (by decide) hb
  have x2 : ((((listN (shiftN (shiftN b 5) 1)).length : Nat) : Int) != (((listN (shiftN b 5)).length : Nat) : Int)) = false := bne_of (congrArg Int.ofNat (count_back b 5 (by decide)))
  obtain ⟨c, hc0, hclt⟩ : ∃ c, c = b ^^^ (b &&& shiftN (shiftN b 5) 1) ∧ c < W64 := ⟨_, rfl, sub_lt _ hb⟩
  have HA := Lib.hid (andNot_nat hb (shiftN_lt (shiftN b 5) 1))
  rw [← hc0] at HA
  have HE : Hid (∀ s, s ∈ listN c → s < 64 ∧ ((s : Int) % 8 + fileD (5 : Nat) < 0 ∨ 8 ≤ (s : Int) % 8 + fileD (5 : Nat) ∨ (s : Int) / 8 + rankD (5 : Nat) < 0 ∨ 8 ≤ (s : Int) / 8 + rankD (5 : Nat))) := fun s hs => left_edge (b := b) (d := 5) (by decide) (by rw [hc0] at hs; exact hs)
  have HC := Lib.hid hclt
  have HB := Lib.hid hb
  have HT := Lib.hid T0
  have HL := Lib.hid T1
  have hlen := listN_len c
  clear hb hc0 hclt T0 T1
  go_enter Tryd.func7, Tryd.ntmps7
  go_wp2_with fail
  refine (awake_any _ HT.out HL.out).mono ?_; rintro e w1 ⟨rfl, hb1⟩
  have HT1 := Lib.hid (HT.out.later HT.out.lt hb1)
  have HL1 := Lib.hid (HL.out.later HL.out.lt hb1)
  have HB1 := Lib.hid hb1
  clear hb1
  go_wp2_with fail
  refine (shift_any b _ _ HB.out HL1.out).mono ?_; rintro e w' ⟨rfl, rfl⟩
  go_wp2_with fail
  refine (shift_any _ _ _ (shiftN_lt _ _) HL1.out).mono ?_; rintro e w' ⟨rfl, rfl⟩
  go_wp2_with fail
  refine (count_any _ _ (shiftN_lt _ _)).mono ?_; rintro e w' ⟨rfl, rfl⟩
  go_wp2_with fail
  refine (count_any _ _ (shiftN_lt _ _)).mono ?_; rintro e w' ⟨rfl, rfl⟩
  go_wp2_with fail
  refine (list_of c HA.out.symm HC.out _ HT1.out).mono ?_; rintro e w2 ⟨v, rfl, hL, hb2⟩
  obtain ⟨p, cap, rfl, hp⟩ := listed_open hL
  have HP := Lib.hid hp
  have HB2 := Lib.hid hb2
  clear hL hp hb2 x1 x2
  go_wp2_with fail
  go_loopw [8] (fun i wr => ∃ k : Nat, k ≤ (listN c).length ∧ i = .int .i64 k ∧ Below w2.heap.size w2 wr) (fun i _ => (listN c).length - (intOf i).toNat)
  case atStart => exact ⟨0, Nat.zero_le _, rfl, Below.refl _ _⟩
  case round =>
    obtain ⟨k, hk, rfl, hbel⟩ := hrel
    have HBl := Lib.hid hbel
    have HPl := Lib.hid (HP.out.later hbel)
    clear hbel
    by_cases hlt : k < (listN c).length
    · obtain ⟨s, HS⟩ : ∃ s, Hid ((listN c)[k]? = some s) := ⟨_, Lib.hid (List.getElem?_eq_getElem hlt)⟩
      obtain ⟨g, rfl, hg1, hg2, hg3⟩ := HPl.out (by omega)
      have hc := (hg3 k s HS.out).1
      have hs := HE.out s (List.mem_of_getElem? HS.out)
      have hs64 : s < 64 := hs.1
      have he := hs.2
      have ef : fileD (5 : Nat) = -1 := by decide
      have er : rankD (5 : Nat) = -1 := by decide
      rw [ef, er] at he
      clear hg3 hs ef er
      by_cases q : ((s : Int) / 8 == 0) = true
      · clear he
        go_wp2
        go_quiet (fail)
        go_wp2
        go_roundw
        case rel => exact ⟨k + 1, by omega, by go_num, below_drewN HBl.out _⟩
        case measure => simp [intOf]; omega
      · have q' : ((s : Int) / 8 == 0) = false := by simpa using q
        have q2 : ((s : Int) % 8 == 0) = true := by rw [beq_iff_eq]; rw [beq_eq_false_iff_ne] at q'; omega
        clear he q
        go_wp2
        go_quiet (fail)
        go_wp2
        go_roundw
        case rel => exact ⟨k + 1, by omega, by go_num, below_drewN HBl.out _⟩
        case measure => simp [intOf]; omega
    · go_wp2
      go_ret
      exact ⟨rfl, HB1.out.trans ((HB2.out.trans (HBl.out.mono HB2.out.size)).mono HB1.out.size)⟩
set_option maxRecDepth 100000 in
set_option maxHeartbeats 2000000 in
theorem walk_6 (b : Nat) (a1 : Int) (hd : wrap64 ((IntKind.u64.wrap a1).tmod 8) = 6) (hb : b < W64) (w : World) (T0 : TabDb w) (T1 : TabLead w) :
    Calls Tryd.prog 7 #[.int .u64 (b : Int), .int .i64 a1] w fun e w' => e = .returned (.bool true) ∧ Below w.heap.size w w' := by
  have x1 : (bits .andNot .u64 ((shiftN (shiftN b 6) 2 : Nat) : Int) (b : Int) != 0) = false := back_in 6 (by decide) hb
  have x2 : ((((listN (shiftN (shiftN b 6) 2)).length : Nat) : Int) != (((listN (shiftN b 6)).length : Nat) : Int)) = false := bne_of (congrArg Int.ofNat (count_back b 6 (by decide)))
  obtain ⟨c, hc0, hclt⟩ : ∃ c, c = b ^^^ (b &&& shiftN (shiftN b 6) 2) ∧ c < W64 := ⟨_, rfl, sub_lt _ hb⟩
  have HA := Lib.hid (andNot_nat hb (shiftN_lt (shiftN b 6) 2))
  rw [← hc0] at HA
  have HE : Hid (∀ s, s ∈ listN c → s < 64 ∧ ((s : Int) % 8 + fileD (6 : Nat) < 0 ∨ 8 ≤ (s : Int) % 8 + fileD (6 : Nat) ∨ (s : Int) / 8 + rankD (6 : Nat) < 0 ∨ 8 ≤ (s : Int) / 8 + rankD (6 : Nat))) := fun s hs => left_edge (b := b) (d := 6) (by decide) (by rw [hc0] at hs; exact hs)
  have HC := Lib.hid hclt
  have HB := Lib.hid hb
  have HT := Lib.hid T0
  have HL := Lib.hid T1
  have hlen := listN_len c
  clear hb hc0 hclt T0 T1
  go_enter Tryd.func7, Tryd.ntmps7
  go_wp2_with fail
  refine (awake_any _ HT.out HL.out).mono ?_; rintro e w1 ⟨rfl, hb1⟩
  have HT1 := Lib.hid (HT.out.later HT.out.lt hb1)
  have HL1 := Lib.hid (HL.out.later HL.out.lt hb1)
  have HB1 := Lib.hid hb1
  clear hb1
  go_wp2_with fail
  refine (shift_any b _ _ HB.out HL1.out).mono ?_; rintro e w' ⟨rfl, rfl⟩
  go_wp2_with fail
  refine (shift_any _ _ _ (shiftN_lt _ _) HL1.out).mono ?_; rintro e w' ⟨rfl, rfl⟩
  go_wp2_with fail
  refine (count_any _ _ (shiftN_lt _ _)).mono ?_; rintro e w' ⟨rfl, rfl⟩
  go_wp2_with fail
  refine (count_any _ _ (shiftN_lt _ _)).mono ?_; rintro e w' ⟨rfl, rfl⟩
  go_wp2_with fail
  refine (list_of c HA.out.symm HC.out _ HT1.out).mono ?_; rintro e w2 ⟨v, rfl, hL, hb2⟩
  obtain ⟨p, cap, rfl, hp⟩ := listed_open hL
  have HP := Lib.hid hp
  have HB2 := Lib.hid hb2
  clear hL hp hb2 x1 x2
  go_wp2_with fail
  go_loopw [8] (fun i wr => ∃ k : Nat, k ≤ (listN c).length ∧ i = .int .i64 k ∧ Below w2.heap.size w2 wr) (fun i _ => (listN c).length - (intOf i).toNat)
  case atStart => exact ⟨0, Nat.zero_le _, rfl, Below.refl _ _⟩
  case round =>
    obtain ⟨k, hk, rfl, hbel⟩ := hrel
    have HBl := Lib.hid hbel
    have HPl := Lib.hid (HP.out.later hbel)
    clear hbel
    by_cases hlt : k < (listN c).length
    · obtain ⟨s, HS⟩ : ∃ s, Hid ((listN c)[k]? = some s) := ⟨_, Lib.hid (List.getElem?_eq_getElem hlt)⟩
      obtain ⟨g, rfl, hg1, hg2, hg3⟩ := HPl.out (by omega)
      have hc := (hg3 k s HS.out).1
      have hs := HE.out s (List.mem_of_getElem? HS.out)
      have hs64 : s < 64 := hs.1
      have he := hs.2
      have ef : fileD (6 : Nat) = -1 := by decide
      have er : rankD (6 : Nat) = 0 := by decide
      rw [ef, er] at he
      clear hg3 hs ef er
      have q : ((s : Int) % 8 == 0) = true := by rw [beq_iff_eq]; omega
      clear he
      · go_wp2
        go_quiet (fail)
        go_wp2
        go_roundw
        case rel => exact ⟨k + 1, by omega, by go_num, below_drewN HBl.out _⟩
        case measure => simp [intOf]; omega
    · go_wp2
      go_ret
      exact ⟨rfl, HB1.out.trans ((HB2.out.trans (HBl.out.mono HB2.out.size)).mono HB1.out.size)⟩
set_option maxRecDepth 100000 in
set_option maxHeartbeats 2000000 in
theorem walk_7 (b : Nat) (a1 : Int) (hd : wrap64 ((IntKind.u64.wrap a1).tmod 8) = 7) (hb : b < W64) (w : World) (T0 : TabDb w) (T1 : TabLead w) :
    Calls Tryd.prog 7 #[.int .u64 (b : Int), .int .i64 a1] w fun e w' => e = .returned (.bool true) ∧ Below w.heap.size w w' := by
  have x1 : (bits .andNot .u64 ((shiftN (shiftN b 7) 3 : Nat) : Int) (b : Int) != 0) = false := back_in 7 (by decide) hb
  have x2 : ((((listN (shiftN (shiftN b 7) 3)).length : Nat) : Int) != (((listN (shiftN b 7)).length : Nat) : Int)) = false := bne_of (congrArg Int.ofNat (count_back b 7 (by decide)))
  obtain ⟨c, hc0, hclt⟩ : ∃ c, c = b ^^^ (b &&& shiftN (shiftN b 7) 3) ∧ c < W64 := ⟨_, rfl, sub_lt _ hb⟩
  have HA := Lib.hid (andNot_nat hb (shiftN_lt (shiftN b 7) 3))
  rw [← hc0] at HA
  have HE : Hid (∀ s, s ∈ listN c → s < 64 ∧ ((s : Int) % 8 + fileD (7 : Nat) < 0 ∨ 8 ≤ (s : Int) % 8 + fileD (7 : Nat) ∨ (s : Int) / 8 + rankD (7 : Nat) < 0 ∨ 8 ≤ (s : Int) / 8 + rankD (7 : Nat))) := fun s hs => left_edge (b := b) (d := 7) (by decide) (by rw [hc0] at hs; exact hs)
  have HC := Lib.hid hclt
  have HB := Lib.hid hb
  have HT := Lib.hid T0
  have HL := Lib.hid T1
  have hlen := listN_len c
  clear hb hc0 hclt T0 T1
  go_enter Tryd.func7, Tryd.ntmps7
  go_wp2_with fail
  refine (awake_any _ HT.out HL.out).mono ?_; rintro e w1 ⟨rfl, hb1⟩
  have HT1 := Lib.hid (HT.out.later HT.out.lt hb1)
  have HL1 := Lib.hid (HL.out.later HL.out.lt hb1)
  have HB1 := Lib.hid hb1
  clear hb1
  go_wp2_with fail
  refine (shift_any b _ _ HB.out HL1.out).mono ?_; rintro e w' ⟨rfl, rfl⟩
  go_wp2_with fail
  refine (shift_any _ _ _ (shiftN_lt _ _) HL1.out).mono ?_; rintro e w' ⟨rfl, rfl⟩
  go_wp2_with fail
  refine (count_any _ _ (shiftN_lt _ _)).mono ?_; rintro e w' ⟨rfl, rfl⟩
  go_wp2_with fail
  refine (count_any _ _ (shiftN_lt _ _)).mono ?_; rintro e w' ⟨rfl, rfl⟩
  go_wp2_with fail
  refine (list_of c HA.out.symm HC.out _ HT1.out).mono ?_; rintro e w2 ⟨v, rfl, hL, hb2⟩
  obtain ⟨p, cap, rfl, hp⟩ := listed_open hL
  have HP := Lib.hid hp
  have HB2 := Lib.hid hb2
  clear hL hp hb2 x1 x2
  go_wp2_with fail
  go_loopw [8] (fun i wr => ∃ k : Nat, k ≤ (listN c).length ∧ i = .int .i64 k ∧ Below w2.heap.size w2 wr) (fun i _ => (listN c).length - (intOf i).toNat)
  case atStart => exact ⟨0, Nat.zero_le _, rfl, Below.refl _ _⟩
  case round =>
    obtain ⟨k, hk, rfl, hbel⟩ := hrel
    have HBl := Lib.hid hbel
    have HPl := Lib.hid (HP.out.later hbel)
    clear hbel
    by_cases hlt : k < (listN c).length
    · obtain ⟨s, HS⟩ : ∃ s, Hid ((listN c)[k]? = some s) := ⟨_, Lib.hid (List.getElem?_eq_getElem hlt)⟩
      obtain ⟨g, rfl, hg1, hg2, hg3⟩ := HPl.out (by omega)
      have hc := (hg3 k s HS.out).1
      have hs := HE.out s (List.mem_of_getElem? HS.out)
      have hs64 : s < 64 := hs.1
      have he := hs.2
      have ef : fileD (7 : Nat) = -1 := by decide
      have er : rankD (7 : Nat) = 1 := by decide
      rw [ef, er] at he
      clear hg3 hs ef er
      by_cases q : ((s : Int) / 8 == 7) = true
      · clear he
        go_wp2
        go_quiet (fail)
        go_wp2
        go_roundw
        case rel => exact ⟨k + 1, by omega, by go_num, below_drewN HBl.out _⟩
        case measure => simp [intOf]; omega
      · have q' : ((s : Int) / 8 == 7) = false := by simpa using q
        have q2 : ((s : Int) % 8 == 0) = true := by rw [beq_iff_eq]; rw [beq_eq_false_iff_ne] at q'; omega
        clear he q
        go_wp2
        go_quiet (fail)
        go_wp2
        go_roundw
        case rel => exact ⟨k + 1, by omega, by go_num, below_drewN HBl.out _⟩
        case measure => simp [intOf]; omega
    · go_wp2
      go_ret
      exact ⟨rfl, HB1.out.trans ((HB2.out.trans (HBl.out.mono HB2.out.size)).mono HB1.out.size)⟩
theorem walk (a0 : Int) (a1 : Int) (w0 : (Lit.int .u64 a0).wf = true) (w1 : (Lit.int .i64 a1).wf = true) (w : World) (T0 : TabDb w) (T1 : TabLead w) :
    Calls Tryd.prog 7 #[.int .u64 a0, .int .i64 a1] w fun e w' => e = .returned (.bool true) ∧ Below w.heap.size w w' := by
  obtain ⟨b, rfl⟩ := Int.eq_ofNat_of_zero_le (a := a0) (bounds_u64 w0).1
  have hb : b < W64 := by have := (bounds_u64 w0).2; unfold W64; omega
  obtain ⟨d, hd8, hd⟩ := dir8 a1
  have : d = 0 ∨ d = 1 ∨ d = 2 ∨ d = 3 ∨ d = 4 ∨ d = 5 ∨ d = 6 ∨ d = 7 := by omega
  rcases this with rfl | rfl | rfl | rfl | rfl | rfl | rfl | rfl
  · exact walk_0 b a1 hd hb w T0 T1
  · exact walk_1 b a1 hd hb w T0 T1
  · exact walk_2 b a1 hd hb w T0 T1
  · exact walk_3 b a1 hd hb w T0 T1
  · exact walk_4 b a1 hd hb w T0 T1
  · exact walk_5 b a1 hd hb w T0 T1
  · exact walk_6 b a1 hd hb w T0 T1
  · exact walk_7 b a1 hd hb w T0 T1
end Go.Proofs.YtpglfcjkjomcjaaDoor.bitsBack
