/-
  The walk of BitsLists.
-/
import Derived.Test.YtpglfcjkjomcjaaDoorAwake
import Derived.Test.YtpglfcjkjomcjaaDoorMathD
import Derived.WalkKit
import Derived.OpenShut
namespace Go.Proofs.YtpglfcjkjomcjaaDoor.bitsLists
open Go.RowKit
set_option linter.unusedVariables false
/-- The cells of a list of the call's own can be written. -/
def Writable (g n : Nat) (w : World) : Prop := ∀ j, j < n → (∃ v, w.cell? ⟨g, j, none⟩ = some v) ∧ w.frozen? ⟨g, j, none⟩ = false
theorem Writable.set {g n : Nat} {w : World} (h : Writable g n w) (k : Nat) (u : Value) : Writable g n (w.setCell ⟨g, k, none⟩ u) := by
  intro j hj
  obtain ⟨⟨v, hv⟩, hf⟩ := h j hj
  refine ⟨?_, (World.frozen?_setCell _ _ _ _).trans hf⟩
  by_cases e : j = k
  · subst e; exact ⟨u, World.cell?_setCell_same _ _ _ hv⟩
  · exact ⟨v, (World.cell?_setCell_other _ _ _ _ (by simp)).trans hv⟩
def Open (B n : Nat) (p : Option Addr) (w : World) : Prop := 0 < n → ∃ g, p = some ⟨g, 0, none⟩ ∧ B ≤ g ∧ Writable g n w
theorem open_of {B : Nat} {l : List Nat} {p : Option Addr} {w : World} (h : Cells B l p w) : Open B l.length p w := by
  intro h0
  obtain ⟨g, h1, h2, _, h4⟩ := h h0
  exact ⟨g, h1, h2, fun j hj => ⟨⟨_, (h4 j _ (List.getElem?_eq_getElem hj)).1⟩, (h4 j _ (List.getElem?_eq_getElem hj)).2⟩⟩
theorem Open.drewN {B n : Nat} {p : Option Addr} {w : World} (h : Open B n p w) (m : Nat) : Open B n p (w.drewN m) := h
theorem bne_of {a b : Int} (h : a = b) : (a != b) = false := by rw [h]; simp

set_option maxRecDepth 100000 in
set_option maxHeartbeats 2000000 in
/-- The two turns, whatever the first square is. -/
theorem turns (b : Nat) (f : Int) (w : World) (HB : Hid (b < W64)) (HT : Hid (TabDb w)) (hf : (firstN b != f) = false) (h0 : (0 < (listN b).length ∧ ∃ s : Nat, f = (s : Int) ∧ (listN b)[0]? = some s) ∨ ((listN b).length = 0 ∧ f = -1)) :
    Calls Tryd.prog 3 #[.int .u64 (b : Int)] w fun e w' => e = .returned (.bool true) ∧ Below w.heap.size w w' := by
  have hlen := listN_len b
  have H0 := Lib.hid h0
  have Hf := Lib.hid hf
  clear h0 hf
  go_enter Tryd.func3, Tryd.ntmps3
  go_wp2_with fail
  refine (rlist_any b _ HB.out).mono ?_; rintro e w1 ⟨v, rfl, hL, hb1⟩
  obtain ⟨p, cap, rfl, hp⟩ := listed_open hL
  have HP := Lib.hid hp
  have HB1 := Lib.hid hb1
  have HT1 := Lib.hid (HT.out.later HT.out.lt hb1)
  clear hL hp hb1
  rcases H0.out with ⟨hpos, s, rfl, hs⟩ | ⟨hz, rfl⟩
  · obtain ⟨g, rfl, _, _, hg3⟩ := HP.out hpos
    have hc := (hg3 0 s hs).1
    clear H0 hg3 hs
    go_wp2_with fail
    go_loopw [5] (fun i wr => ∃ t : Nat, t ≤ 2 ∧ i = .int .i64 t ∧ Below w1.heap.size w1 wr) (fun i _ => 2 - (intOf i).toNat)
    case atStart => exact ⟨0, by omega, rfl, Below.refl _ _⟩
    case round =>
      obtain ⟨t, ht, rfl, hbel⟩ := hrel
      obtain ⟨wo, rfl⟩ : ∃ wo : World, wo = wr := ⟨_, rfl⟩
      have HBl := Lib.hid hbel
      have HTl := Lib.hid (HT1.out.later HT1.out.lt hbel)
      have HPl := Lib.hid (HP.out.later hbel)
      clear hbel
      by_cases hlt : t < 2
      · go_wp2_with fail
        refine (list_any b _ HB.out HTl.out).mono ?_; rintro e w2 ⟨v, rfl, hL, hb2⟩
        obtain ⟨p2, cap2, rfl, hp2⟩ := listed_open hL
        have HP2 := Lib.hid hp2
        have HT2 := Lib.hid (HTl.out.later HTl.out.lt hb2)
        have HB2 := Lib.hid hb2
        clear hL hp2 hb2
        go_wp2_with fail
        refine (same_any (listN b) _ _ _ _ _ _ _ hlen HP2.out (HPl.out.later HB2.out)).mono ?_; rintro e w3 ⟨rfl, n, rfl⟩
        go_wp2_with fail
        refine (count_any b _ HB.out).mono ?_; rintro e w' ⟨rfl, rfl⟩
        go_wp2_with fail
        refine (first_any b _ HB.out (HT2.out.drewN n)).mono ?_; rintro e w' ⟨rfl, rfl⟩
        have hf := Hf.out
        go_wp2_with fail
        clear hf
        go_loopw [7] (fun i wi => ∃ k : Nat, k ≤ (listN b).length ∧ i = .int .i64 k ∧ Open wo.heap.size (listN b).length p2 wi ∧ Below wo.heap.size wo wi) (fun i _ => (listN b).length - (intOf i).toNat)
        case atStart => exact ⟨0, Nat.zero_le _, rfl, open_of HP2.out, below_drewN HB2.out _⟩
        case round =>
          obtain ⟨k, hk, rfl, ho, hbi⟩ := hrel
          have HO := Lib.hid ho
          have HBi := Lib.hid hbi
          clear ho hbi
          by_cases hlk : k < (listN b).length
          · obtain ⟨g2, rfl, hg4, hw⟩ := HO.out (by omega)
            obtain ⟨⟨u, hu⟩, hfz⟩ := hw k hlk
            have HW := Lib.hid hw
            clear hw
            go_wp2_with fail
            go_roundw
            case rel => exact ⟨k + 1, by omega, by go_num, fun _ => ⟨g2, rfl, hg4, HW.out.set k _⟩, HBi.out.setCell (p := ⟨g2, k, none⟩) hg4 _⟩
            case measure => simp [intOf]; omega
          · go_wp2_with fail
            go_roundw
            case rel => exact ⟨t + 1, by omega, by go_num, HBl.out.trans (HBi.out.mono HBl.out.size)⟩
            case measure => simp [intOf]; omega
      · go_wp2_with fail
        go_ret
        exact ⟨rfl, HB1.out.trans (HBl.out.mono HB1.out.size)⟩
  · have hz0 : ¬ 0 < (listN b).length := by omega
    have d0 : decide (0 < (listN b).length) = false := decide_eq_false hz0
    clear H0 hz
    go_wp2_with fail
    go_loopw [5] (fun i wr => ∃ t : Nat, t ≤ 2 ∧ i = .int .i64 t ∧ Below w1.heap.size w1 wr) (fun i _ => 2 - (intOf i).toNat)
    case atStart => exact ⟨0, by omega, rfl, Below.refl _ _⟩
    case round =>
      obtain ⟨t, ht, rfl, hbel⟩ := hrel
      obtain ⟨wo, rfl⟩ : ∃ wo : World, wo = wr := ⟨_, rfl⟩
      have HBl := Lib.hid hbel
      have HTl := Lib.hid (HT1.out.later HT1.out.lt hbel)
      have HPl := Lib.hid (HP.out.later hbel)
      clear hbel
      by_cases hlt : t < 2
      · go_wp2_with fail
        refine (list_any b _ HB.out HTl.out).mono ?_; rintro e w2 ⟨v, rfl, hL, hb2⟩
        obtain ⟨p2, cap2, rfl, hp2⟩ := listed_open hL
        have HP2 := Lib.hid hp2
        have HT2 := Lib.hid (HTl.out.later HTl.out.lt hb2)
        have HB2 := Lib.hid hb2
        clear hL hp2 hb2
        go_wp2_with fail
        refine (same_any (listN b) _ _ _ _ _ _ _ hlen HP2.out (HPl.out.later HB2.out)).mono ?_; rintro e w3 ⟨rfl, n, rfl⟩
        go_wp2_with fail
        refine (count_any b _ HB.out).mono ?_; rintro e w' ⟨rfl, rfl⟩
        go_wp2_with fail
        refine (first_any b _ HB.out (HT2.out.drewN n)).mono ?_; rintro e w' ⟨rfl, rfl⟩
        have hf := Hf.out
        go_wp2_with fail
        clear hf
        go_loopw [7] (fun i wi => ∃ k : Nat, k ≤ (listN b).length ∧ i = .int .i64 k ∧ Open wo.heap.size (listN b).length p2 wi ∧ Below wo.heap.size wo wi) (fun i _ => (listN b).length - (intOf i).toNat)
        case atStart => exact ⟨0, Nat.zero_le _, rfl, open_of HP2.out, below_drewN HB2.out _⟩
        case round =>
          obtain ⟨k, hk, rfl, ho, hbi⟩ := hrel
          have HO := Lib.hid ho
          have HBi := Lib.hid hbi
          clear ho hbi
          by_cases hlk : k < (listN b).length
          · exact absurd hlk (by omega)
          · go_wp2_with fail
            go_roundw
            case rel => exact ⟨t + 1, by omega, by go_num, HBl.out.trans (HBi.out.mono HBl.out.size)⟩
            case measure => simp [intOf]; omega
      · go_wp2_with fail
        go_ret
        exact ⟨rfl, HB1.out.trans (HBl.out.mono HB1.out.size)⟩

theorem walk (a0 : Int) (w0 : (Lit.int .u64 a0).wf = true) (w : World) (T0 : TabDb w) :
    Calls Tryd.prog 3 #[.int .u64 a0] w fun e w' => e = .returned (.bool true) ∧ Below w.heap.size w w' := by
  obtain ⟨b, rfl⟩ := Int.eq_ofNat_of_zero_le (a := a0) (bounds_u64 w0).1
  have hb : b < W64 := by have := (bounds_u64 w0).2; unfold W64; omega
  cases h : listN b with
  | nil => exact turns b (-1) w (Lib.hid hb) (Lib.hid T0) (bne_of (by unfold firstN; rw [h])) (.inr ⟨by rw [h]; rfl, rfl⟩)
  | cons s l => exact turns b (s : Int) w (Lib.hid hb) (Lib.hid T0) (bne_of (by unfold firstN; rw [h])) (.inl ⟨by rw [h]; simp, s, rfl, by rw [h]; rfl⟩)
end Go.Proofs.YtpglfcjkjomcjaaDoor.bitsLists
