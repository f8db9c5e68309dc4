/-
  The walk of BitsAll.
-/
import Derived.Test.YtpglfcjkjomcjaaDoorAwake
import Derived.Test.YtpglfcjkjomcjaaDoorMathD
import Derived.WalkKit
import Derived.OpenShut
namespace Go.Proofs.YtpglfcjkjomcjaaDoor.bitsAll
open Go.RowKit
set_option linter.unusedVariables false
theorem acc_all {b : Nat} (hb : b < W64) : accN (fun x => x) (listN b) (listN b).length = b := by
  rw [accN_all]
  apply eq_of_bits (ofList_lt _) hb
  intro i hi
  rw [ofList_testBit, Bool.eq_iff_iff]
  simp only [decide_eq_true_eq, List.mem_map, mem_listN]
  constructor
  · rintro ⟨_, j, ⟨_, hj⟩, e⟩
    obtain rfl : j = i := by omega
    exact hj
  · intro h
    exact ⟨hi, i, ⟨hi, h⟩, rfl⟩
theorem beq_of {a b : Int} (h : a = b) : (a == b) = true := by rw [h]; simp
theorem rises {b k s s' : Nat} (h : (listN b)[k]? = some s) (h' : (listN b)[k - 1]? = some s') (hk : 0 < k) : s' < s := by
  have hs := listN_sorted b
  rw [List.pairwise_iff_getElem] at hs
  obtain ⟨h1, rfl⟩ := List.getElem?_eq_some_iff.1 h
  obtain ⟨h2, rfl⟩ := List.getElem?_eq_some_iff.1 h'
  exact hs (k - 1) k h2 h1 (by omega)
set_option maxRecDepth 100000 in
set_option maxHeartbeats 2000000 in
theorem walk (a0 : Int) (w0 : (Lit.int .u64 a0).wf = true) (w : World) (T0 : TabDb w) (T1 : TabLead w) :
    Calls Tryd.prog 6 #[.int .u64 a0] w fun e w' => e = .returned (.bool true) ∧ Below w.heap.size w w' := by
  obtain ⟨b, rfl⟩ := Int.eq_ofNat_of_zero_le (a := a0) (bounds_u64 w0).1
  have hb : b < W64 := by have := (bounds_u64 w0).2; unfold W64; omega
  have HF := Lib.hid (beq_of (congrArg Int.ofNat (acc_all hb)))
  have HB := Lib.hid hb
  have HT := Lib.hid T0
  have HL := Lib.hid T1
  clear hb w0 T0 T1
  go_enter Tryd.func6, Tryd.ntmps6
  go_wp2_with fail
  refine (awake_any _ HT.out HL.out).mono ?_; rintro e w1 ⟨rfl, hb1⟩
  have HT1 := Lib.hid (HT.out.later HT.out.lt hb1)
  have HB1 := Lib.hid hb1
  clear hb1
  go_wp2_with fail
  refine (list_any b _ HB.out HT1.out).mono ?_; rintro e w2 ⟨v, rfl, hL, hb2⟩
  obtain ⟨p, cap, rfl, hp⟩ := listed_open hL
  have HP := Lib.hid hp
  have HB2 := Lib.hid hb2
  have HT2 := Lib.hid (HT1.out.later HT1.out.lt hb2)
  clear hL hp hb2
  have hlen := listN_len b
  go_wp2_with fail
  go_loopw [4, 5] (fun x i wr => ∃ k : Nat, k ≤ (listN b).length ∧ i = .int .i64 k ∧ x = .int .u64 (accN (fun x => x) (listN b) k : Nat) ∧ Below w2.heap.size w2 wr) (fun _ i _ => (listN b).length - (intOf i).toNat)
  case atStart => exact ⟨0, Nat.zero_le _, rfl, rfl, Below.refl _ _⟩
  case round =>
    obtain ⟨k, hk, rfl, rfl, hbel⟩ := hrel
    have HBl := Lib.hid hbel
    have HPl := Lib.hid (HP.out.later hbel)
    have HTl := Lib.hid (HT2.out.later HT2.out.lt hbel)
    clear hbel
    by_cases hlt : k < (listN b).length
    · obtain ⟨s, HS⟩ : ∃ s, Hid ((listN b)[k]? = some s) := ⟨_, Lib.hid (List.getElem?_eq_getElem hlt)⟩
      obtain ⟨g, rfl, hg1, hg2, hg3⟩ := HPl.out (by omega)
      have hc := (hg3 k s HS.out).1
      have HX := Lib.hid (accN_lt (fun x => x) (listN b) k)
      have HY := Lib.hid (accN_succ (fun x => x) (listN b) k s HS.out)
      by_cases h0 : 0 < k
      · obtain ⟨s', HS'⟩ : ∃ s', Hid ((listN b)[k - 1]? = some s') := ⟨_, Lib.hid (List.getElem?_eq_getElem (by omega))⟩
        have hc' := (hg3 (k - 1) s' HS'.out).1
        have hr := rises HS.out HS'.out h0
        have d0 : decide (0 < k) = true := decide_eq_true h0
        have d1 : decide (s ≤ s') = false := decide_eq_false (by omega)
        clear hg3
        go_wp2
        go_quiet (fail)
        go_wp2_with (go_at_call 20; refine (put_any _ _ _ HX.out).mono ?_; rintro e w' ⟨rfl, rfl⟩)
        go_roundw
        case rel => exact ⟨k + 1, by omega, by go_num, by rw [← HY.out], below_drewN HBl.out _⟩
        case measure => simp [intOf]; omega
      · have d0 : decide (0 < k) = false := decide_eq_false h0
        clear hg3
        go_wp2
        go_quiet (fail)
        go_wp2_with (go_at_call 20; refine (put_any _ _ _ HX.out).mono ?_; rintro e w' ⟨rfl, rfl⟩)
        go_roundw
        case rel => exact ⟨k + 1, by omega, by go_num, by rw [← HY.out], below_drewN HBl.out _⟩
        case measure => simp [intOf]; omega
    · obtain rfl : k = (listN b).length := by omega
      have hf : (((accN (fun x => x) (listN b) (listN b).length : Nat) : Int) == (b : Int)) = true := HF.out
      by_cases h0 : 0 < (listN b).length
      · obtain ⟨s, HS⟩ : ∃ s, Hid ((listN b)[0]? = some s) := ⟨_, Lib.hid (List.getElem?_eq_getElem h0)⟩
        obtain ⟨g, rfl, hg1, hg2, hg3⟩ := HPl.out (by omega)
        have hc := (hg3 0 s HS.out).1
        have e0 : (((listN b).length : Int) == 0) = false := by simp; intro e; rw [e] at h0; simp at h0
        have e1 : (firstN b == (s : Int)) = true := by
          have := HS.out
          unfold firstN
          revert this
          cases listN b with
          | nil => intro h; cases h
          | cons x l => intro h; simp at h; subst h; simp
        clear hg3
        go_wp2
        go_quiet ((first | (go_at_call 13; exact quiet_c (count_any _ _ HB.out)) | (go_at_call 14; exact quiet_c (first_any _ _ HB.out (HTl.out.drewN _)))))
        go_wp2
        go_ret
        exact ⟨rfl, HB1.out.trans ((HB2.out.trans ((below_drewN HBl.out _).mono HB2.out.size)).mono HB1.out.size)⟩
      · have e0 : (((listN b).length : Int) == 0) = true := by simp; simpa using h0
        go_wp2
        go_quiet ((go_at_call 13; exact quiet_c (count_any _ _ HB.out)))
        go_wp2
        go_ret
        exact ⟨rfl, HB1.out.trans ((HB2.out.trans ((below_drewN HBl.out _).mono HB2.out.size)).mono HB1.out.size)⟩
end Go.Proofs.YtpglfcjkjomcjaaDoor.bitsAll
