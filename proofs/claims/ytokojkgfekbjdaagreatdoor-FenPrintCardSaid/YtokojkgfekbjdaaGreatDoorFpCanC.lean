/-
  Contracts of the program's tests of a position that can be written, third part (layer 10): all rooks.
-/
import Derived.Test.YtokojkgfekbjdaaGreatDoorFpCanB
namespace Go.Proofs.YtokojkgfekbjdaaGreatDoor
open Go.RowKit
set_option linter.unusedVariables false
set_option linter.unusedSimpArgs false

def roAll (p : Nat → Int) : Bool := allB (fun c => allB (wrR p c) 2) 2
theorem roAll_no {p : Nat → Int} {c d : Nat} (hc : c < 2) (hd : d < 2) (h : wrR p c d = false) : roAll p = false := allB_no (f := fun c => allB (wrR p c) 2) (k := c) (allB_no h hd) hc
theorem roAll_yes {p : Nat → Int} (h : ∀ c, c < 2 → allB (wrR p c) 2 = true) : roAll p = true := allB_true.2 h
theorem size26 : (Tryz.prog.info? 26).map (·.size) = some 1 := by kernel_rfl
theorem size27 : (Tryz.prog.info? 27).map (·.size) = some 2 := by kernel_rfl
theorem kat_rk (c : Nat) (hc : c < 2) : ∀ j, j < 2 → kAt (79 + c * 2 + j) = .i8 := fun j hj => kf_i8 (by omega) (by omega)
set_option maxRecDepth 100000 in
set_option maxHeartbeats 4000000 in
theorem rooksCan_any (p : Nat → Int) (w : World) (hp : BdR p) (hq : ∀ i, 79 ≤ i → i < 83 → -128 ≤ p i ∧ p i ≤ 127) : Calls Tryz.prog 56 #[.agg (posA p)] w (BoL (roAll p) w) := by
  have HP := Lib.hid hp
  have HQ := Lib.hid hq
  obtain ⟨b, hb⟩ : ∃ b, roAll p = b := ⟨_, rfl⟩
  have HBb := Lib.hid hb
  rw [hb]
  clear hb hp hq
  go_enter Tryz.func56, Tryz.ntmps56
  go_wp2_with (refine step_box rfl _ rfl p rfl ?_; intro b1 w1 N R; have HB := Lib.hid N.below; have HR := Lib.hid R; clear N R)
  have HI := Lib.hid (show b1 < w1.heap.size from HR.out.lt)
  go_loopw [3] (fun c wr => ∃ n : Nat, n ≤ 2 ∧ c = .int .u8 n ∧ (∀ c', c' < n → allB (wrR p c') 2 = true) ∧ Below w1.heap.size w1 wr) (fun c _ => 2 - (intOf c).toNat)
  case atStart => exact ⟨0, by omega, rfl, fun _ h => by omega, Below.refl _ _⟩
  case round =>
    obtain ⟨n, hn, rfl, hall, hbel⟩ := hrel
    have HAl := Lib.hid hall
    have HBl := Lib.hid hbel
    have HRw := Lib.hid (HR.out.next hbel HI.out)
    clear hall hbel
    by_cases hn2 : n < 2
    · have ln : (n : Int) ≤ 1 := by omega
      have ln2 : (n : Int) < 2 := by omega
      have n0 : (0 : Int) ≤ (n : Int) := by omega
      have HN2 := Lib.hid hn2
      have HN01 := Lib.hid (show (n : Int) = 0 ∨ (n : Int) = 1 by omega)
      clear hn hn2
      go_wp2_with (refine step_part rfl 27 _ rfl b1 (79 + n * 2) 2 .i8 rfl p HRw.out (by have := HN2.out; omega) (kat_rk n HN2.out) _ Tryz.underlying27 rfl size27 ?_)
      go_loopw [14] (fun i wr2 => ∃ d : Nat, d ≤ 2 ∧ i = .int .i64 d ∧ (∀ d', d' < d → wrR p n d' = true) ∧ Below w1.heap.size w1 wr2) (fun i _ => 2 - (intOf i).toNat)
      case atStart => exact ⟨0, by omega, rfl, fun _ h => by omega, HBl.out⟩
      case round =>
        obtain ⟨d, hd, rfl, hall2, hbel2⟩ := hrel
        have HAd := Lib.hid hall2
        have HBm := Lib.hid hbel2
        have HRm := Lib.hid (HR.out.next hbel2 HI.out)
        clear hall2 hbel2
        by_cases hd2 : d < 2
        · have ld : (d : Int) < 2 := by omega
          have d0 : (0 : Int) ≤ (d : Int) := by omega
          have HD2 := Lib.hid hd2
          clear hd hd2
          obtain ⟨x, hx⟩ : ∃ x, p (79 + n * 2 + d) = x := ⟨_, rfl⟩
          obtain ⟨x0, x1⟩ : -128 ≤ x ∧ x ≤ 127 := by rw [← hx]; exact HQ.out _ (by omega) (by have := HN2.out; have := HD2.out; omega)
          have HX := Lib.hid hx
          have hr : wrR p n d = !((x != -1) && !rightB p n d x) := by unfold wrR; rw [hx]
          obtain ⟨g, hg⟩ : ∃ g, rightB p n d x = g := ⟨_, rfl⟩
          have HG := Lib.hid hg
          rw [hg] at hr
          clear hx hg
          cases hz : (x != -1)
          · have HT := Lib.hid (show wrR p n d = true by rw [hr, hz]; rfl)
            clear hr
            go_wp2_with (refine arr_index rfl 27 26 _ _ rfl 2 .i8 _ rfl d rfl HD2.out Tryz.underlying27 Tryz.underlying26 size26 ?_; dsimp only; rw [HX.out])
            go_roundw
            case rel => exact ⟨d + 1, by have := HD2.out; omega, by go_num, fun d' h => if e : d' = d then by subst e; exact HT.out else HAd.out d' (by omega), HBm.out⟩
            case measure => simp [intOf]; have := HD2.out; omega
          · cases g
            · have HN := Lib.hid (show false = b by rw [← HBb.out]; exact (roAll_no (c := n) (d := d) HN2.out HD2.out (by rw [hr, hz]; rfl)).symm)
              clear hr
              go_wp2_with (first
                | (refine arr_index rfl 27 26 _ _ rfl 2 .i8 _ rfl d rfl HD2.out Tryz.underlying27 Tryz.underlying26 size26 ?_; dsimp only; rw [HX.out])
                | (refine step_load rfl _ rfl b1 rfl p HRm.out ?_)
                | (go_at_call 94; refine (rookCan_any p _ _ _ _ HP.out HN01.out).mono ?_; rintro e w' ⟨rfl, hb9⟩; have HBm := Lib.hid (below_on HBm.out hb9); clear hb9; rw [HG.out]))
              go_ret
              exact ⟨pc_bool HN.out, HB.out.trans (HBm.out.mono HB.out.size)⟩
            · have HT := Lib.hid (show wrR p n d = true by rw [hr, hz]; rfl)
              clear hr
              go_wp2_with (first
                | (refine arr_index rfl 27 26 _ _ rfl 2 .i8 _ rfl d rfl HD2.out Tryz.underlying27 Tryz.underlying26 size26 ?_; dsimp only; rw [HX.out])
                | (refine step_load rfl _ rfl b1 rfl p HRm.out ?_)
                | (go_at_call 94; refine (rookCan_any p _ _ _ _ HP.out HN01.out).mono ?_; rintro e w' ⟨rfl, hb9⟩; have HBm := Lib.hid (below_on HBm.out hb9); clear hb9; rw [HG.out]))
              go_roundw
              case rel => exact ⟨d + 1, by have := HD2.out; omega, by go_num, fun d' h => if e : d' = d then by subst e; exact HT.out else HAd.out d' (by omega), HBm.out⟩
              case measure => simp [intOf]; have := HD2.out; omega
        · obtain rfl : d = 2 := by omega
          go_wp2_with fail
          go_roundw
          case rel => exact ⟨n + 1, by have := HN2.out; omega, by go_num, fun c' h => if e : c' = n then by subst e; exact allB_true.2 HAd.out else HAl.out c' (by omega), HBm.out⟩
          case measure => simp [intOf]; have := HN2.out; omega
    · obtain rfl : n = 2 := by omega
      have HN := Lib.hid (show true = b by rw [← HBb.out]; exact (roAll_yes HAl.out).symm)
      go_wp2_with fail
      go_ret
      exact ⟨pc_bool HN.out, HB.out.trans (HBl.out.mono HB.out.size)⟩
end Go.Proofs.YtokojkgfekbjdaaGreatDoor
