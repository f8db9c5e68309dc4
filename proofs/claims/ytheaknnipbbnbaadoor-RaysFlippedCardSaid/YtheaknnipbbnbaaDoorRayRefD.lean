/-
  Contracts of the document's own layer 3, fourth part: Between, Line.
-/
import Derived.Test.YtheaknnipbbnbaaDoorRayRefC
import Derived.Test.YtheaknnipbbnbaaDoorRayLaw
namespace Go.Proofs.YtheaknnipbbnbaaDoor
open Go.RowKit

theorem below_next {w a b : World} (h : Below w.heap.size w a) (k : Below a.heap.size a b) : Below w.heap.size w b := h.trans (k.mono h.size)
theorem ray_miss {a b : Int} {d k : Nat} (hoff : sq (goN a (d : Int) (k + 1)) = false) (hno : ∀ j, j < k → ((((goN a (d : Int) (j + 1)).toNat : Nat) : Int) == b) = false) : hasN (rayN a (d : Int)) b = false := by
  cases e : hasN (rayN a (d : Int)) b
  · rfl
  · obtain ⟨j, _, h1, h2⟩ := (has_ray a (d : Int) b).1 e
    by_cases hj : j < k
    · have h3 := hno j hj
      rw [sq_true] at h1
      rw [show (((goN a (d : Int) (j + 1)).toNat : Nat) : Int) = b by omega] at h3
      simp at h3
    · have := (pass_off hoff (j - k)).2
      rw [show k + (j - k) + 1 = j + 1 by omega, h1] at this
      cases this
theorem between_found {a b d : Int} {k m : Nat} (hon : ∀ j, j < k → sq (goN a d (j + 1)) = true) (hm : m < k) (h : ((((goN a d (m + 1)).toNat : Nat) : Int) == b) = true) : accN (fun x => x) (walkTo a d k) m = betweenN a b := by
  rw [walk_acc a d k m (by omega) hon]
  have h1 := hon m hm
  have h2 := sq_true.1 h1
  have e : goN a d (m + 1) = b := by
    have := beq_iff_eq.1 h
    omega
  rw [← e]
  exact (between_walk h1).symm
set_option maxHeartbeats 2000000 in
theorem rbetween_any (a b : Int) (w : World) : Calls Tryd.prog 20 #[.int .i64 a, .int .i64 b] w (U64L (betweenN a b) w) := by
  go_enter Tryd.func20, Tryd.ntmps20
  go_wp2
  go_loopw [5] (fun i wr => ∃ d : Nat, d ≤ 8 ∧ i = .int .i64 (d : Int) ∧ (∀ j : Nat, j < d → hasN (rayN a (j : Int)) b = false) ∧ Below w.heap.size w wr) (fun i _ => 8 - (intOf i).toNat)
  case atStart => exact ⟨0, by omega, rfl, fun j h => by omega, Below.refl _ _⟩
  case round =>
    obtain ⟨d, hd, rfl, hm, hbel⟩ := hrel
    have HM := Lib.hid hm
    have HBl := Lib.hid hbel
    clear hm hbel
    by_cases hlt : d < 8
    · go_wp2_with fail
      refine (rwalk_any _ _ _).mono ?_; rintro e w1 ⟨v, k, hk, hon, hoff, rfl, hL, hb⟩
      obtain ⟨p, cap, rfl, hcap, hp⟩ := listed_cap hL
      have hlen := walkTo_len a (d : Int) k
      have HP := Lib.hid hp
      have HB := Lib.hid hb
      have HOn := Lib.hid hon
      have HOff := Lib.hid hoff
      rw [hlen] at hcap
      rw [hlen]
      clear hL hp hb hon hoff
      go_wp2
      go_loop [7] (fun i => ∃ m : Nat, m ≤ k ∧ i = .int .i64 (m : Int) ∧ ∀ j, j < m → ((((goN a (d : Int) (j + 1)).toNat : Nat) : Int) == b) = false) (fun i => k - (intOf i).toNat)
      case atStart => exact ⟨0, by omega, rfl, fun j h => by omega⟩
      case round =>
        obtain ⟨m, hmk, rfl, hno⟩ := hrel
        have HN := Lib.hid hno
        clear hno
        by_cases hlm : m < k
        · obtain ⟨x, HX⟩ : ∃ x : Nat, Hid (x = (goN a (d : Int) (m + 1)).toNat) := ⟨_, Lib.hid rfl⟩
          obtain ⟨g, rfl, hg1, hg2, hg3⟩ := HP.out (by omega)
          have hcell := (hg3 m x (by rw [HX.out]; exact walkTo_at a (d : Int) k m hlm)).1
          clear hg1 hg2 hg3
          cases hq : ((x : Int) == b)
          · have HQ := Lib.hid hq
            go_wp2
            go_round
            case rel =>
              refine ⟨m + 1, by omega, by go_num, fun j hj => ?_⟩
              by_cases e : j = m
              · subst e; rw [← HX.out]; exact HQ.out
              · exact HN.out j (by omega)
            case measure => simp [intOf]; omega
          · have HR := Lib.hid (between_found HOn.out hlm (by rw [← HX.out]; exact hq))
            go_wp2_with fail
            refine (roflist_any _ _ _ (walkTo a (d : Int) k) _ _ (by omega) (by omega) HP.out).mono ?_; rintro e w' ⟨rfl, rfl⟩
            go_wp2
            go_ret
            exact ⟨ret_int (by rw [HR.out]), HBl.out.trans (HB.out.mono HBl.out.size)⟩
        · obtain rfl : m = k := by omega
          have HF := Lib.hid (ray_miss HOff.out HN.out)
          go_wp2
          go_roundw
          case rel =>
            refine ⟨d + 1, by omega, by go_num, fun j hj => ?_, HBl.out.trans (HB.out.mono HBl.out.size)⟩
            by_cases e : j = d
            · subst e; exact HF.out
            · exact HM.out j (by omega)
          case measure => simp [intOf]; omega
    · have HZ := Lib.hid (between_miss (a := a) (b := b) (fun j hj => HM.out j (by omega))).1
      go_wp2
      go_ret
      exact ⟨ret_int (by rw [HZ.out]; rfl), HBl.out⟩

theorem opp_nat (d : Nat) : ((d : Int) + 4) % 8 = (((d + 4) % 8 : Nat) : Int) := by omega
set_option maxHeartbeats 2000000 in
theorem rline_any (a b : Int) (w : World) : Calls Tryd.prog 22 #[.int .i64 a, .int .i64 b] w (U64L (lineN a b) w) := by
  go_enter Tryd.func22, Tryd.ntmps22
  go_wp2
  go_loopw [5] (fun i wr => ∃ d : Nat, d ≤ 8 ∧ i = .int .i64 (d : Int) ∧ (∀ j : Nat, j < d → hasN (rayN a (j : Int)) b = false) ∧ Below w.heap.size w wr) (fun i _ => 8 - (intOf i).toNat)
  case atStart => exact ⟨0, by omega, rfl, fun j h => by omega, Below.refl _ _⟩
  case round =>
    obtain ⟨d, hd, rfl, hm, hbel⟩ := hrel
    have HM := Lib.hid hm
    have HBl := Lib.hid hbel
    clear hm hbel
    by_cases hlt : d < 8
    · have HR := Lib.hid (rayN_lt a (d : Int))
      cases h1 : hasN (rayN a (d : Int)) b
      · have H1 := Lib.hid h1
        go_wp2_with fail
        refine (rray_any _ _ _).mono ?_; rintro e w1 ⟨rfl, hb1⟩
        have HB := Lib.hid hb1
        clear hb1
        go_wp2_with fail
        refine (rhas_any _ _ _ HR.out).mono ?_; rintro e w' ⟨rfl, rfl⟩
        go_wp2
        go_roundw
        case rel =>
          refine ⟨d + 1, by omega, by go_num, fun j hj => ?_, HBl.out.trans (HB.out.mono HBl.out.size)⟩
          by_cases e : j = d
          · subst e; exact H1.out
          · exact HM.out j (by omega)
        case measure => simp [intOf]; omega
      · have HL := Lib.hid (line_ref hlt h1 HM.out)
        have ho := opp_nat d
        have HX := Lib.hid (or_nat (rayN_lt a (d : Int)) (rayN_lt a (((d + 4) % 8 : Nat) : Int)))
        have HY := Lib.hid (or_nat (or_lt (rayN_lt a (d : Int)) (rayN_lt a (((d + 4) % 8 : Nat) : Int))) (rayN_lt b (d : Int)))
        have HZ := Lib.hid (or_nat (or_lt (or_lt (rayN_lt a (d : Int)) (rayN_lt a (((d + 4) % 8 : Nat) : Int))) (rayN_lt b (d : Int))) (rayN_lt b (((d + 4) % 8 : Nat) : Int)))
        have HW := Lib.hid (or_lt (or_lt (or_lt (rayN_lt a (d : Int)) (rayN_lt a (((d + 4) % 8 : Nat) : Int))) (rayN_lt b (d : Int))) (rayN_lt b (((d + 4) % 8 : Nat) : Int)))
        generalize (d + 4) % 8 = o at *
        go_wp2_with fail
        refine (rray_any _ _ _).mono ?_; rintro e w1 ⟨rfl, hb1⟩
        have HB1 := Lib.hid hb1
        clear hb1
        go_wp2_with fail
        refine (rhas_any _ _ _ HR.out).mono ?_; rintro e w' ⟨rfl, rfl⟩
        go_wp2_with fail
        refine (rray_any _ _ _).mono ?_; rintro e w2 ⟨rfl, hb2⟩
        have HB2 := Lib.hid hb2
        clear hb2
        go_wp2_with fail
        refine (rray_any _ _ _).mono ?_; rintro e w3 ⟨rfl, hb3⟩
        have HB3 := Lib.hid hb3
        clear hb3
        go_wp2_with fail
        rw [HX.out]
        refine (rray_any _ _ _).mono ?_; rintro e w4 ⟨rfl, hb4⟩
        have HB4 := Lib.hid hb4
        clear hb4
        go_wp2_with fail
        refine (rray_any _ _ _).mono ?_; rintro e w5 ⟨rfl, hb5⟩
        have HB5 := Lib.hid hb5
        clear hb5
        go_wp2_with fail
        rw [HY.out, HZ.out]
        refine (rput_any _ _ _ HW.out).mono ?_; rintro e w' ⟨rfl, rfl⟩
        go_wp2
        go_ret
        exact ⟨ret_int (by rw [HL.out]), below_next (below_next (below_next (below_next (below_next HBl.out HB1.out) HB2.out) HB3.out) HB4.out) HB5.out⟩
    · have HZ := Lib.hid (between_miss (a := a) (b := b) (fun j hj => HM.out j (by omega))).2
      go_wp2
      go_ret
      exact ⟨ret_int (by rw [HZ.out]; rfl), HBl.out⟩
end Go.Proofs.YtheaknnipbbnbaaDoor
