/-
 The document's own There, Empty, Own, Up, Rank, pawn, May of layer 13.
-/
import Derived.Test.YtidgfadbdgheiaaGreatDoorAfPrA
import Derived.Test.YtidgfadbdgheiaaGreatDoorAtHits
set_option maxRecDepth 100000
set_option maxHeartbeats 4000000
namespace Go.Proofs.YtidgfadbdgheiaaGreatDoor
open Go.RowKit Go.Shelf
set_option linter.unusedVariables false
set_option linter.unusedSimpArgs false
attribute [local go_sem] Oper.semAt_some

theorem pr_there (p : Nat → Int) (w : World) : Calls Tryz.prog 49 #[.agg (posA p)] w (BoL (decide (p 0 < 9) && decide (p 78 < 2)) w) := by
 have HB := H_ (Below.refl w.heap.size w)
 cases g : decide (p 0 < 9)
 ·skip
  go_enter Tryz.func49, Tryz.ntmps49
  go_wp2_with (first
   | (guard_target = gB 1; refine step_box rfl _ rfl p rfl ?_; intro b1 w1 N R; have HG1 := H_ (nA HB.out N); have HB := H_ (below_on HB.out N.below); have HR1 := H_ R; clear N R)
   | (guard_target = gL 3; refine gU rfl 5 _ rfl Tryz.underlying5 HR1.out 0 (by decide) rfl rfl ?_)
   | (guard_target = gL 7; refine gU rfl 5 _ rfl Tryz.underlying5 HR1.out 78 (by decide) rfl rfl ?_))
  go_ret
  exact ⟨rfl, HB.out⟩
 ·skip
  go_enter Tryz.func49, Tryz.ntmps49
  go_wp2_with (first
   | (guard_target = gB 1; refine step_box rfl _ rfl p rfl ?_; intro b1 w1 N R; have HG1 := H_ (nA HB.out N); have HB := H_ (below_on HB.out N.below); have HR1 := H_ R; clear N R)
   | (guard_target = gL 3; refine gU rfl 5 _ rfl Tryz.underlying5 HR1.out 0 (by decide) rfl rfl ?_)
   | (guard_target = gL 7; refine gU rfl 5 _ rfl Tryz.underlying5 HR1.out 78 (by decide) rfl rfl ?_))
  go_ret
  exact ⟨rfl, HB.out⟩
theorem pr_empty (p : Nat → Int) (s : Nat) (hs : s < 64) (w : World) (hp : BdR p) : Calls Tryz.prog 97 #[.agg (posA p), .int .i64 (s : Int)] w (BoL (emB p s) w) := by
 have HP := H_ hp
 clear hp
 have HB := H_ (Below.refl w.heap.size w)
 go_enter Tryz.func97, Tryz.ntmps97
 go_wp2_with (first
   | (guard_target = gB 2; refine step_box rfl _ rfl p rfl ?_; intro b2 w1 N R; have HG2 := H_ (nA HB.out N); have HB := H_ (below_on HB.out N.below); have HR2 := H_ R; clear N R)
   | (guard_target = gL 7; refine step_get rfl 5 _ rfl b2 (1 + s) rfl Tryz.underlying5 rfl (.int .u8 (p (1 + s))) ?_ ?_; exact (HR2.out.cell (1 + s) (by omega)).trans (by rw [kAt_board (Nat.zero_le _) (by omega)]))
   | (go_at_call 28; refine (rkind_any _ _ (HP.out s (by omega)).1 (HP.out s (by omega)).2).mono ?_; rintro e w3 ⟨rfl, rfl⟩))
 go_ret
 exact ⟨rfl, HB.out⟩
theorem emK {p : Nat → Int} {s : Nat} {b : Bool} (h : emB p s = b) (hs : s < 64) (w : World) (hp : BdR p) : Calls Tryz.prog 97 #[.agg (posA p), .int .i64 (s : Int)] w (BoL b w) := h ▸ pr_empty p s hs w hp
theorem pr_own (p : Nat → Int) (s : Nat) (c : Int) (hs : s < 64) (w : World) (hp : BdR p) : Calls Tryz.prog 94 #[.agg (posA p), .int .i64 (s : Int), .int .u8 c] w (BoL (owB p s c) w) := by
 have HP := H_ hp
 clear hp
 have HB := H_ (Below.refl w.heap.size w)
 obtain ⟨em, hem⟩ : ∃ em, emB p s = em := ⟨_, rfl⟩
 have HE := H_ hem
 have HS := H_ (show owB p s c = (!em && (p (1 + s) / 8 == c)) by unfold owB; rw [hem])
 clear hem
 cases em
 ·skip
  go_enter Tryz.func94, Tryz.ntmps94
  go_wp2_with (first
   | (guard_target = gB 3; refine step_box rfl _ rfl p rfl ?_; intro b3 w1 N R; have HG3 := H_ (nA HB.out N); have HB := H_ (below_on HB.out N.below); have HR3 := H_ R; clear N R)
   | (guard_target = gL 3; refine step_load rfl _ rfl b3 rfl p HR3.out ?_)
   | (go_at_call 97; refine (emK HE.out (by omega) _ HP.out).mono ?_; rintro e w3 ⟨rfl, hb⟩; have HR3 := H_ (HR3.out.later hb); have HB := H_ (below_on HB.out hb); clear hb)
   | (guard_target = gL 14; refine step_get rfl 5 _ rfl b3 (1 + s) rfl Tryz.underlying5 rfl (.int .u8 (p (1 + s))) ?_ ?_; exact (HR3.out.cell (1 + s) (by omega)).trans (by rw [kAt_board (Nat.zero_le _) (by omega)]))
   | (go_at_call 144; refine (rcolor_any _ _ (HP.out s (by omega)).1 (HP.out s (by omega)).2).mono ?_; rintro e w3 ⟨rfl, rfl⟩))
  go_ret
  exact ⟨by rw [HS.out]; rfl, HB.out⟩
 ·skip
  go_enter Tryz.func94, Tryz.ntmps94
  go_wp2_with (first
   | (guard_target = gB 3; refine step_box rfl _ rfl p rfl ?_; intro b3 w1 N R; have HG3 := H_ (nA HB.out N); have HB := H_ (below_on HB.out N.below); have HR3 := H_ R; clear N R)
   | (guard_target = gL 3; refine step_load rfl _ rfl b3 rfl p HR3.out ?_)
   | (go_at_call 97; refine (emK HE.out (by omega) _ HP.out).mono ?_; rintro e w3 ⟨rfl, hb⟩; have HR3 := H_ (HR3.out.later hb); have HB := H_ (below_on HB.out hb); clear hb))
  go_ret
  exact ⟨by rw [HS.out]; rfl, HB.out⟩
theorem pr_up (c : Int) (w : World) : Calls Tryz.prog 145 #[.int .u8 c] w (fun e w' => e = .returned (.int .i64 (upC c)) ∧ w = w') := by
 unfold upC
 cases g : (c == 0)
 all_goals
  go_enter Tryz.func145, Tryz.ntmps145
  go_wp2
  go_ret
  exact ⟨rfl, rfl⟩
theorem pr_quo7 : ∀ n : Nat, n < 64 → wrap64 (7 - wrap64 ((n : Int) / 8)) = 7 - ((n / 8 : Nat) : Int) := by decide +kernel
theorem pr_rank (c : Int) (s : Nat) (hs : s < 64) (w : World) : Calls Tryz.prog 51 #[.int .u8 c, .int .i64 (s : Int)] w (fun e w' => e = .returned (.int .i64 (rnkC c s)) ∧ w = w') := by
 have HQ := H_ (ps_quo s hs)
 have HQ7 := H_ (pr_quo7 s hs)
 clear hs
 unfold rnkC
 cases g : (c == 0)
 all_goals
  go_enter Tryz.func51, Tryz.ntmps51
  go_wp2
  go_ret
  exact ⟨by first | exact congrArg (fun x => Ending.returned (.int .i64 x)) HQ.out | exact congrArg (fun x => Ending.returned (.int .i64 x)) HQ7.out, rfl⟩
theorem hiK {p : Nat → Int} {a b : Nat} {x : Bool} (h : hiB p a b = x) (w : World) (hp : BdR p) (ha : a < 64) (hb : b < 64) : Calls Tryz.prog 96 #[.agg (posA p), .int .i64 (a : Int), .int .i64 (b : Int)] w (BoL x w) := h ▸ rhits_any p a b w hp ha hb
theorem upK {c u : Int} (h : upC c = u) (w : World) : Calls Tryz.prog 145 #[.int .u8 c] w (fun e w' => e = .returned (.int .i64 u) ∧ w = w') := h ▸ pr_up c w
theorem owK {p : Nat → Int} {s : Nat} {c : Int} {x : Bool} (h : owB p s c = x) (hs : s < 64) (w : World) (hp : BdR p) : Calls Tryz.prog 94 #[.agg (posA p), .int .i64 (s : Int), .int .u8 c] w (BoL x w) := h ▸ pr_own p s c hs w hp
theorem rkK {c r : Int} {s : Nat} (h : rnkC c s = r) (hs : s < 64) (w : World) : Calls Tryz.prog 51 #[.int .u8 c, .int .i64 (s : Int)] w (fun e w' => e = .returned (.int .i64 r) ∧ w = w') := h ▸ pr_rank c s hs w
theorem pr_pawn (p : Nat → Int) (a b : Nat) (ha : a < 64) (hb : b < 64) (w : World) (hp : BdR p) (h83 : -128 ≤ p 83 ∧ p 83 ≤ 127) : Calls Tryz.prog 95 #[.agg (posA p), .int .i64 (a : Int), .int .i64 (b : Int)] w (BoL (paB p a b) w) := by
 have HP := H_ hp
 clear hp
 have HB := H_ (Below.refl w.heap.size w)
 obtain ⟨u, hu⟩ : ∃ u, upC (p 78) = u := ⟨_, rfl⟩
 have huc : u = 8 ∨ u = -8 := by rw [← hu]; exact up_cases _
 have HU := H_ hu
 have ho : IntKind.u8.wrap (1 - p 78) = oth (p 78) := by rw [IntKind.wrap_u8]; unfold oth; omega
 obtain ⟨hi, hhi⟩ : ∃ hi, hiB p a b = hi := ⟨_, rfl⟩
 have HH := H_ hhi
 obtain ⟨ob, hob⟩ : ∃ ob, owB p b (oth (p 78)) = ob := ⟨_, rfl⟩
 have HOb := H_ hob
 obtain ⟨eb, heb⟩ : ∃ eb, emB p b = eb := ⟨_, rfl⟩
 have HEb := H_ heb
 obtain ⟨r, hr⟩ : ∃ r, rnkC (p 78) a = r := ⟨_, rfl⟩
 have HRk := H_ hr
 have hpa : paB p a b = (bif hi then ob || (p 83 == (b : Int)) else bif (b : Int) == (a : Int) + u then eb else ((b : Int) == (a : Int) + 2 * u) && ((r == 1 || (r == 0 && ((p 0 == 7) && (p 78 == 0)))) && (emZ p ((a : Int) + u) && eb))) := by
  unfold paB frB; rw [hhi, hob, heb, hu, hr]
 have hw1 : wrap64 ((a : Int) + u) = (a : Int) + u := IntWalk.wrap64_in _ ⟨by omega, by omega⟩
 have hw2 : wrap64 (2 * u) = 2 * u := IntWalk.wrap64_in _ ⟨by omega, by omega⟩
 have hw3 : wrap64 ((a : Int) + 2 * u) = (a : Int) + 2 * u := IntWalk.wrap64_in _ ⟨by omega, by omega⟩
 clear hu hhi hob heb hr
 cases hi
 ·cases g1 : ((b : Int) == (a : Int) + u)
  ·cases g2 : ((b : Int) == (a : Int) + 2 * u)
   ·have HS := H_ (show paB p a b = false by rw [hpa, g1, g2]; rfl)
    clear hpa
    cases g3 : (r == 1)
    ·cases g4 : (r == 0)
     ·skip
      go_enter Tryz.func95, Tryz.ntmps95
      go_wp2_with (first
       | (guard_target = gB 3; refine step_box rfl _ rfl p rfl ?_; intro b3 w1 N R; have HG3 := H_ (nA HB.out N); have HB := H_ (below_on HB.out N.below); have HR3 := H_ R; clear N R)
       | (go_at_call 145; refine (upK HU.out _).mono ?_; rintro e w3 ⟨rfl, rfl⟩)
       | (guard_target = gL 3; refine step_load rfl _ rfl b3 rfl p HR3.out ?_)
       | (go_at_call 96; refine (hiK HH.out _ HP.out (by omega) (by omega)).mono ?_; rintro e w3 ⟨rfl, hb⟩; have HR3 := H_ (HR3.out.later hb); have HB := H_ (below_on HB.out hb); clear hb)
       | (go_at_call 94; guard_target = Go.Calls _ _ #[_, Go.Value.int _ (b : Int), _] _ _; refine (owK HOb.out (by omega) _ HP.out).mono ?_; rintro e w3 ⟨rfl, hb⟩; have HR3 := H_ (HR3.out.later hb); have HB := H_ (below_on HB.out hb); clear hb)
       | (go_at_call 51; refine (rkK HRk.out (by omega) _).mono ?_; rintro e w3 ⟨rfl, rfl⟩)
       | (guard_target = gL 48; refine gU rfl 5 _ rfl Tryz.underlying5 HR3.out 0 (by decide) rfl rfl ?_)
       | (guard_target = gL 24; refine step_get rfl 26 _ rfl b3 83 rfl Tryz.underlying26 rfl (.int .i8 (p 83)) ?_ ?_; exact HR3.out.cell 83 (by decide))
       | (guard_target = gL 10; refine gU rfl 5 _ rfl Tryz.underlying5 HR3.out 78 (by decide) rfl rfl ?_)
       | (guard_target = gL 19; refine gU rfl 5 _ rfl Tryz.underlying5 HR3.out 78 (by decide) rfl rfl ?_)
       | (guard_target = gL 38; refine gU rfl 5 _ rfl Tryz.underlying5 HR3.out 78 (by decide) rfl rfl ?_)
       | (guard_target = gL 53; refine gU rfl 5 _ rfl Tryz.underlying5 HR3.out 78 (by decide) rfl rfl ?_))
      go_ret
      exact ⟨by rw [HS.out]; rfl, HB.out⟩
     ·cases g5 : (p 0 == 7)
      ·skip
       go_enter Tryz.func95, Tryz.ntmps95
       go_wp2_with (first
        | (guard_target = gB 3; refine step_box rfl _ rfl p rfl ?_; intro b3 w1 N R; have HG3 := H_ (nA HB.out N); have HB := H_ (below_on HB.out N.below); have HR3 := H_ R; clear N R)
        | (go_at_call 145; refine (upK HU.out _).mono ?_; rintro e w3 ⟨rfl, rfl⟩)
        | (guard_target = gL 3; refine step_load rfl _ rfl b3 rfl p HR3.out ?_)
        | (go_at_call 96; refine (hiK HH.out _ HP.out (by omega) (by omega)).mono ?_; rintro e w3 ⟨rfl, hb⟩; have HR3 := H_ (HR3.out.later hb); have HB := H_ (below_on HB.out hb); clear hb)
        | (go_at_call 94; guard_target = Go.Calls _ _ #[_, Go.Value.int _ (b : Int), _] _ _; refine (owK HOb.out (by omega) _ HP.out).mono ?_; rintro e w3 ⟨rfl, hb⟩; have HR3 := H_ (HR3.out.later hb); have HB := H_ (below_on HB.out hb); clear hb)
        | (go_at_call 51; refine (rkK HRk.out (by omega) _).mono ?_; rintro e w3 ⟨rfl, rfl⟩)
        | (guard_target = gL 48; refine gU rfl 5 _ rfl Tryz.underlying5 HR3.out 0 (by decide) rfl rfl ?_)
        | (guard_target = gL 24; refine step_get rfl 26 _ rfl b3 83 rfl Tryz.underlying26 rfl (.int .i8 (p 83)) ?_ ?_; exact HR3.out.cell 83 (by decide))
        | (guard_target = gL 10; refine gU rfl 5 _ rfl Tryz.underlying5 HR3.out 78 (by decide) rfl rfl ?_)
        | (guard_target = gL 19; refine gU rfl 5 _ rfl Tryz.underlying5 HR3.out 78 (by decide) rfl rfl ?_)
        | (guard_target = gL 38; refine gU rfl 5 _ rfl Tryz.underlying5 HR3.out 78 (by decide) rfl rfl ?_)
        | (guard_target = gL 53; refine gU rfl 5 _ rfl Tryz.underlying5 HR3.out 78 (by decide) rfl rfl ?_))
       go_ret
       exact ⟨by rw [HS.out]; rfl, HB.out⟩
      ·cases g6 : (p 78 == 0)
       ·skip
        go_enter Tryz.func95, Tryz.ntmps95
        go_wp2_with (first
         | (guard_target = gB 3; refine step_box rfl _ rfl p rfl ?_; intro b3 w1 N R; have HG3 := H_ (nA HB.out N); have HB := H_ (below_on HB.out N.below); have HR3 := H_ R; clear N R)
         | (go_at_call 145; refine (upK HU.out _).mono ?_; rintro e w3 ⟨rfl, rfl⟩)
         | (guard_target = gL 3; refine step_load rfl _ rfl b3 rfl p HR3.out ?_)
         | (go_at_call 96; refine (hiK HH.out _ HP.out (by omega) (by omega)).mono ?_; rintro e w3 ⟨rfl, hb⟩; have HR3 := H_ (HR3.out.later hb); have HB := H_ (below_on HB.out hb); clear hb)
         | (go_at_call 94; guard_target = Go.Calls _ _ #[_, Go.Value.int _ (b : Int), _] _ _; refine (owK HOb.out (by omega) _ HP.out).mono ?_; rintro e w3 ⟨rfl, hb⟩; have HR3 := H_ (HR3.out.later hb); have HB := H_ (below_on HB.out hb); clear hb)
         | (go_at_call 51; refine (rkK HRk.out (by omega) _).mono ?_; rintro e w3 ⟨rfl, rfl⟩)
         | (guard_target = gL 48; refine gU rfl 5 _ rfl Tryz.underlying5 HR3.out 0 (by decide) rfl rfl ?_)
         | (guard_target = gL 24; refine step_get rfl 26 _ rfl b3 83 rfl Tryz.underlying26 rfl (.int .i8 (p 83)) ?_ ?_; exact HR3.out.cell 83 (by decide))
         | (guard_target = gL 10; refine gU rfl 5 _ rfl Tryz.underlying5 HR3.out 78 (by decide) rfl rfl ?_)
         | (guard_target = gL 19; refine gU rfl 5 _ rfl Tryz.underlying5 HR3.out 78 (by decide) rfl rfl ?_)
         | (guard_target = gL 38; refine gU rfl 5 _ rfl Tryz.underlying5 HR3.out 78 (by decide) rfl rfl ?_)
         | (guard_target = gL 53; refine gU rfl 5 _ rfl Tryz.underlying5 HR3.out 78 (by decide) rfl rfl ?_))
        go_ret
        exact ⟨by rw [HS.out]; rfl, HB.out⟩
       ·skip
        go_enter Tryz.func95, Tryz.ntmps95
        go_wp2_with (first
         | (guard_target = gB 3; refine step_box rfl _ rfl p rfl ?_; intro b3 w1 N R; have HG3 := H_ (nA HB.out N); have HB := H_ (below_on HB.out N.below); have HR3 := H_ R; clear N R)
         | (go_at_call 145; refine (upK HU.out _).mono ?_; rintro e w3 ⟨rfl, rfl⟩)
         | (guard_target = gL 3; refine step_load rfl _ rfl b3 rfl p HR3.out ?_)
         | (go_at_call 96; refine (hiK HH.out _ HP.out (by omega) (by omega)).mono ?_; rintro e w3 ⟨rfl, hb⟩; have HR3 := H_ (HR3.out.later hb); have HB := H_ (below_on HB.out hb); clear hb)
         | (go_at_call 94; guard_target = Go.Calls _ _ #[_, Go.Value.int _ (b : Int), _] _ _; refine (owK HOb.out (by omega) _ HP.out).mono ?_; rintro e w3 ⟨rfl, hb⟩; have HR3 := H_ (HR3.out.later hb); have HB := H_ (below_on HB.out hb); clear hb)
         | (go_at_call 51; refine (rkK HRk.out (by omega) _).mono ?_; rintro e w3 ⟨rfl, rfl⟩)
         | (guard_target = gL 48; refine gU rfl 5 _ rfl Tryz.underlying5 HR3.out 0 (by decide) rfl rfl ?_)
         | (guard_target = gL 24; refine step_get rfl 26 _ rfl b3 83 rfl Tryz.underlying26 rfl (.int .i8 (p 83)) ?_ ?_; exact HR3.out.cell 83 (by decide))
         | (guard_target = gL 10; refine gU rfl 5 _ rfl Tryz.underlying5 HR3.out 78 (by decide) rfl rfl ?_)
         | (guard_target = gL 19; refine gU rfl 5 _ rfl Tryz.underlying5 HR3.out 78 (by decide) rfl rfl ?_)
         | (guard_target = gL 38; refine gU rfl 5 _ rfl Tryz.underlying5 HR3.out 78 (by decide) rfl rfl ?_)
         | (guard_target = gL 53; refine gU rfl 5 _ rfl Tryz.underlying5 HR3.out 78 (by decide) rfl rfl ?_))
        go_ret
        exact ⟨by rw [HS.out]; rfl, HB.out⟩
    ·skip
     go_enter Tryz.func95, Tryz.ntmps95
     go_wp2_with (first
      | (guard_target = gB 3; refine step_box rfl _ rfl p rfl ?_; intro b3 w1 N R; have HG3 := H_ (nA HB.out N); have HB := H_ (below_on HB.out N.below); have HR3 := H_ R; clear N R)
      | (go_at_call 145; refine (upK HU.out _).mono ?_; rintro e w3 ⟨rfl, rfl⟩)
      | (guard_target = gL 3; refine step_load rfl _ rfl b3 rfl p HR3.out ?_)
      | (go_at_call 96; refine (hiK HH.out _ HP.out (by omega) (by omega)).mono ?_; rintro e w3 ⟨rfl, hb⟩; have HR3 := H_ (HR3.out.later hb); have HB := H_ (below_on HB.out hb); clear hb)
      | (go_at_call 94; guard_target = Go.Calls _ _ #[_, Go.Value.int _ (b : Int), _] _ _; refine (owK HOb.out (by omega) _ HP.out).mono ?_; rintro e w3 ⟨rfl, hb⟩; have HR3 := H_ (HR3.out.later hb); have HB := H_ (below_on HB.out hb); clear hb)
      | (go_at_call 51; refine (rkK HRk.out (by omega) _).mono ?_; rintro e w3 ⟨rfl, rfl⟩)
      | (guard_target = gL 48; refine gU rfl 5 _ rfl Tryz.underlying5 HR3.out 0 (by decide) rfl rfl ?_)
      | (guard_target = gL 24; refine step_get rfl 26 _ rfl b3 83 rfl Tryz.underlying26 rfl (.int .i8 (p 83)) ?_ ?_; exact HR3.out.cell 83 (by decide))
      | (guard_target = gL 10; refine gU rfl 5 _ rfl Tryz.underlying5 HR3.out 78 (by decide) rfl rfl ?_)
      | (guard_target = gL 19; refine gU rfl 5 _ rfl Tryz.underlying5 HR3.out 78 (by decide) rfl rfl ?_)
      | (guard_target = gL 38; refine gU rfl 5 _ rfl Tryz.underlying5 HR3.out 78 (by decide) rfl rfl ?_)
      | (guard_target = gL 53; refine gU rfl 5 _ rfl Tryz.underlying5 HR3.out 78 (by decide) rfl rfl ?_))
     go_ret
     exact ⟨by rw [HS.out]; rfl, HB.out⟩
   ·obtain ⟨m, hm⟩ : ∃ m : Nat, (a : Int) + u = (m : Int) := ⟨((a : Int) + u).toNat, by have := beq_iff_eq.1 g2; omega⟩
    have hm64 : m < 64 := by have := beq_iff_eq.1 g2; omega
    have hez : emZ p ((a : Int) + u) = emB p m := by unfold emZ emB; rw [hm, Int.toNat_natCast]
    obtain ⟨em, hem⟩ : ∃ em, emB p m = em := ⟨_, rfl⟩
    have HEm := H_ hem
    rw [hez, hem, g1, g2] at hpa
    clear hez hem
    obtain ⟨fr, hfr⟩ : ∃ fr, (r == 1 || (r == 0 && ((p 0 == 7) && (p 78 == 0)))) = fr := ⟨_, rfl⟩
    rw [hfr] at hpa
    have HS := H_ (show paB p a b = (fr && (em && eb)) by rw [hpa]; rfl)
    clear hpa
    cases g3 : (r == 1)
    ·cases g4 : (r == 0)
     ·obtain rfl : fr = false := by rw [← hfr, g3, g4]; rfl
      clear hfr
      go_enter Tryz.func95, Tryz.ntmps95
      go_wp2_with (first
       | (guard_target = gB 3; refine step_box rfl _ rfl p rfl ?_; intro b3 w1 N R; have HG3 := H_ (nA HB.out N); have HB := H_ (below_on HB.out N.below); have HR3 := H_ R; clear N R)
       | (go_at_call 145; refine (upK HU.out _).mono ?_; rintro e w3 ⟨rfl, rfl⟩)
       | (guard_target = gL 3; refine step_load rfl _ rfl b3 rfl p HR3.out ?_)
       | (go_at_call 96; refine (hiK HH.out _ HP.out (by omega) (by omega)).mono ?_; rintro e w3 ⟨rfl, hb⟩; have HR3 := H_ (HR3.out.later hb); have HB := H_ (below_on HB.out hb); clear hb)
       | (go_at_call 94; guard_target = Go.Calls _ _ #[_, Go.Value.int _ (b : Int), _] _ _; refine (owK HOb.out (by omega) _ HP.out).mono ?_; rintro e w3 ⟨rfl, hb⟩; have HR3 := H_ (HR3.out.later hb); have HB := H_ (below_on HB.out hb); clear hb)
       | (go_at_call 51; refine (rkK HRk.out (by omega) _).mono ?_; rintro e w3 ⟨rfl, rfl⟩)
       | (guard_target = gL 48; refine gU rfl 5 _ rfl Tryz.underlying5 HR3.out 0 (by decide) rfl rfl ?_)
       | (guard_target = gL 24; refine step_get rfl 26 _ rfl b3 83 rfl Tryz.underlying26 rfl (.int .i8 (p 83)) ?_ ?_; exact HR3.out.cell 83 (by decide))
       | (guard_target = gL 10; refine gU rfl 5 _ rfl Tryz.underlying5 HR3.out 78 (by decide) rfl rfl ?_)
       | (guard_target = gL 19; refine gU rfl 5 _ rfl Tryz.underlying5 HR3.out 78 (by decide) rfl rfl ?_)
       | (guard_target = gL 38; refine gU rfl 5 _ rfl Tryz.underlying5 HR3.out 78 (by decide) rfl rfl ?_)
       | (guard_target = gL 53; refine gU rfl 5 _ rfl Tryz.underlying5 HR3.out 78 (by decide) rfl rfl ?_))
      go_ret
      exact ⟨by rw [HS.out]; rfl, HB.out⟩
     ·cases g5 : (p 0 == 7)
      ·obtain rfl : fr = false := by rw [← hfr, g3, g4, g5]; rfl
       clear hfr
       go_enter Tryz.func95, Tryz.ntmps95
       go_wp2_with (first
        | (guard_target = gB 3; refine step_box rfl _ rfl p rfl ?_; intro b3 w1 N R; have HG3 := H_ (nA HB.out N); have HB := H_ (below_on HB.out N.below); have HR3 := H_ R; clear N R)
        | (go_at_call 145; refine (upK HU.out _).mono ?_; rintro e w3 ⟨rfl, rfl⟩)
        | (guard_target = gL 3; refine step_load rfl _ rfl b3 rfl p HR3.out ?_)
        | (go_at_call 96; refine (hiK HH.out _ HP.out (by omega) (by omega)).mono ?_; rintro e w3 ⟨rfl, hb⟩; have HR3 := H_ (HR3.out.later hb); have HB := H_ (below_on HB.out hb); clear hb)
        | (go_at_call 94; guard_target = Go.Calls _ _ #[_, Go.Value.int _ (b : Int), _] _ _; refine (owK HOb.out (by omega) _ HP.out).mono ?_; rintro e w3 ⟨rfl, hb⟩; have HR3 := H_ (HR3.out.later hb); have HB := H_ (below_on HB.out hb); clear hb)
        | (go_at_call 51; refine (rkK HRk.out (by omega) _).mono ?_; rintro e w3 ⟨rfl, rfl⟩)
        | (guard_target = gL 48; refine gU rfl 5 _ rfl Tryz.underlying5 HR3.out 0 (by decide) rfl rfl ?_)
        | (guard_target = gL 24; refine step_get rfl 26 _ rfl b3 83 rfl Tryz.underlying26 rfl (.int .i8 (p 83)) ?_ ?_; exact HR3.out.cell 83 (by decide))
        | (guard_target = gL 10; refine gU rfl 5 _ rfl Tryz.underlying5 HR3.out 78 (by decide) rfl rfl ?_)
        | (guard_target = gL 19; refine gU rfl 5 _ rfl Tryz.underlying5 HR3.out 78 (by decide) rfl rfl ?_)
        | (guard_target = gL 38; refine gU rfl 5 _ rfl Tryz.underlying5 HR3.out 78 (by decide) rfl rfl ?_)
        | (guard_target = gL 53; refine gU rfl 5 _ rfl Tryz.underlying5 HR3.out 78 (by decide) rfl rfl ?_))
       go_ret
       exact ⟨by rw [HS.out]; rfl, HB.out⟩
      ·cases g6 : (p 78 == 0)
       ·obtain rfl : fr = false := by rw [← hfr, g3, g4, g5, g6]; rfl
        clear hfr
        go_enter Tryz.func95, Tryz.ntmps95
        go_wp2_with (first
         | (guard_target = gB 3; refine step_box rfl _ rfl p rfl ?_; intro b3 w1 N R; have HG3 := H_ (nA HB.out N); have HB := H_ (below_on HB.out N.below); have HR3 := H_ R; clear N R)
         | (go_at_call 145; refine (upK HU.out _).mono ?_; rintro e w3 ⟨rfl, rfl⟩)
         | (guard_target = gL 3; refine step_load rfl _ rfl b3 rfl p HR3.out ?_)
         | (go_at_call 96; refine (hiK HH.out _ HP.out (by omega) (by omega)).mono ?_; rintro e w3 ⟨rfl, hb⟩; have HR3 := H_ (HR3.out.later hb); have HB := H_ (below_on HB.out hb); clear hb)
         | (go_at_call 94; guard_target = Go.Calls _ _ #[_, Go.Value.int _ (b : Int), _] _ _; refine (owK HOb.out (by omega) _ HP.out).mono ?_; rintro e w3 ⟨rfl, hb⟩; have HR3 := H_ (HR3.out.later hb); have HB := H_ (below_on HB.out hb); clear hb)
         | (go_at_call 51; refine (rkK HRk.out (by omega) _).mono ?_; rintro e w3 ⟨rfl, rfl⟩)
         | (guard_target = gL 48; refine gU rfl 5 _ rfl Tryz.underlying5 HR3.out 0 (by decide) rfl rfl ?_)
         | (guard_target = gL 24; refine step_get rfl 26 _ rfl b3 83 rfl Tryz.underlying26 rfl (.int .i8 (p 83)) ?_ ?_; exact HR3.out.cell 83 (by decide))
         | (guard_target = gL 10; refine gU rfl 5 _ rfl Tryz.underlying5 HR3.out 78 (by decide) rfl rfl ?_)
         | (guard_target = gL 19; refine gU rfl 5 _ rfl Tryz.underlying5 HR3.out 78 (by decide) rfl rfl ?_)
         | (guard_target = gL 38; refine gU rfl 5 _ rfl Tryz.underlying5 HR3.out 78 (by decide) rfl rfl ?_)
         | (guard_target = gL 53; refine gU rfl 5 _ rfl Tryz.underlying5 HR3.out 78 (by decide) rfl rfl ?_))
        go_ret
        exact ⟨by rw [HS.out]; rfl, HB.out⟩
       ·obtain rfl : fr = true := by rw [← hfr, g3, g4, g5, g6]; rfl
        clear hfr
        cases em
        all_goals
         go_enter Tryz.func95, Tryz.ntmps95
         go_wp2_with (first
          | (guard_target = gB 3; refine step_box rfl _ rfl p rfl ?_; intro b3 w1 N R; have HG3 := H_ (nA HB.out N); have HB := H_ (below_on HB.out N.below); have HR3 := H_ R; clear N R)
          | (go_at_call 145; refine (upK HU.out _).mono ?_; rintro e w3 ⟨rfl, rfl⟩)
          | (guard_target = gL 3; refine step_load rfl _ rfl b3 rfl p HR3.out ?_)
          | (go_at_call 96; refine (hiK HH.out _ HP.out (by omega) (by omega)).mono ?_; rintro e w3 ⟨rfl, hb⟩; have HR3 := H_ (HR3.out.later hb); have HB := H_ (below_on HB.out hb); clear hb)
          | (go_at_call 94; guard_target = Go.Calls _ _ #[_, Go.Value.int _ (b : Int), _] _ _; refine (owK HOb.out (by omega) _ HP.out).mono ?_; rintro e w3 ⟨rfl, hb⟩; have HR3 := H_ (HR3.out.later hb); have HB := H_ (below_on HB.out hb); clear hb)
          | (go_at_call 51; refine (rkK HRk.out (by omega) _).mono ?_; rintro e w3 ⟨rfl, rfl⟩)
          | (guard_target = gL 48; refine gU rfl 5 _ rfl Tryz.underlying5 HR3.out 0 (by decide) rfl rfl ?_)
          | (guard_target = gL 24; refine step_get rfl 26 _ rfl b3 83 rfl Tryz.underlying26 rfl (.int .i8 (p 83)) ?_ ?_; exact HR3.out.cell 83 (by decide))
          | (guard_target = gL 10; refine gU rfl 5 _ rfl Tryz.underlying5 HR3.out 78 (by decide) rfl rfl ?_)
          | (guard_target = gL 19; refine gU rfl 5 _ rfl Tryz.underlying5 HR3.out 78 (by decide) rfl rfl ?_)
          | (guard_target = gL 38; refine gU rfl 5 _ rfl Tryz.underlying5 HR3.out 78 (by decide) rfl rfl ?_)
          | (guard_target = gL 53; refine gU rfl 5 _ rfl Tryz.underlying5 HR3.out 78 (by decide) rfl rfl ?_)
          | (go_at_call 97; guard_target = Go.Calls _ _ #[_, Go.Value.int _ (m : Int)] _ _; refine (emK HEm.out (by omega) _ HP.out).mono ?_; rintro e w3 ⟨rfl, hb⟩; have HR3 := H_ (HR3.out.later hb); have HB := H_ (below_on HB.out hb); clear hb)
          | (go_at_call 97; guard_target = Go.Calls _ _ #[_, Go.Value.int _ (b : Int)] _ _; refine (emK HEb.out (by omega) _ HP.out).mono ?_; rintro e w3 ⟨rfl, hb⟩; have HR3 := H_ (HR3.out.later hb); have HB := H_ (below_on HB.out hb); clear hb))
         go_ret
         exact ⟨by rw [HS.out]; rfl, HB.out⟩
    ·obtain rfl : fr = true := by rw [← hfr, g3]; rfl
     clear hfr
     cases em
     all_goals
      go_enter Tryz.func95, Tryz.ntmps95
      go_wp2_with (first
       | (guard_target = gB 3; refine step_box rfl _ rfl p rfl ?_; intro b3 w1 N R; have HG3 := H_ (nA HB.out N); have HB := H_ (below_on HB.out N.below); have HR3 := H_ R; clear N R)
       | (go_at_call 145; refine (upK HU.out _).mono ?_; rintro e w3 ⟨rfl, rfl⟩)
       | (guard_target = gL 3; refine step_load rfl _ rfl b3 rfl p HR3.out ?_)
       | (go_at_call 96; refine (hiK HH.out _ HP.out (by omega) (by omega)).mono ?_; rintro e w3 ⟨rfl, hb⟩; have HR3 := H_ (HR3.out.later hb); have HB := H_ (below_on HB.out hb); clear hb)
       | (go_at_call 94; guard_target = Go.Calls _ _ #[_, Go.Value.int _ (b : Int), _] _ _; refine (owK HOb.out (by omega) _ HP.out).mono ?_; rintro e w3 ⟨rfl, hb⟩; have HR3 := H_ (HR3.out.later hb); have HB := H_ (below_on HB.out hb); clear hb)
       | (go_at_call 51; refine (rkK HRk.out (by omega) _).mono ?_; rintro e w3 ⟨rfl, rfl⟩)
       | (guard_target = gL 48; refine gU rfl 5 _ rfl Tryz.underlying5 HR3.out 0 (by decide) rfl rfl ?_)
       | (guard_target = gL 24; refine step_get rfl 26 _ rfl b3 83 rfl Tryz.underlying26 rfl (.int .i8 (p 83)) ?_ ?_; exact HR3.out.cell 83 (by decide))
       | (guard_target = gL 10; refine gU rfl 5 _ rfl Tryz.underlying5 HR3.out 78 (by decide) rfl rfl ?_)
       | (guard_target = gL 19; refine gU rfl 5 _ rfl Tryz.underlying5 HR3.out 78 (by decide) rfl rfl ?_)
       | (guard_target = gL 38; refine gU rfl 5 _ rfl Tryz.underlying5 HR3.out 78 (by decide) rfl rfl ?_)
       | (guard_target = gL 53; refine gU rfl 5 _ rfl Tryz.underlying5 HR3.out 78 (by decide) rfl rfl ?_)
       | (go_at_call 97; guard_target = Go.Calls _ _ #[_, Go.Value.int _ (m : Int)] _ _; refine (emK HEm.out (by omega) _ HP.out).mono ?_; rintro e w3 ⟨rfl, hb⟩; have HR3 := H_ (HR3.out.later hb); have HB := H_ (below_on HB.out hb); clear hb)
       | (go_at_call 97; guard_target = Go.Calls _ _ #[_, Go.Value.int _ (b : Int)] _ _; refine (emK HEb.out (by omega) _ HP.out).mono ?_; rintro e w3 ⟨rfl, hb⟩; have HR3 := H_ (HR3.out.later hb); have HB := H_ (below_on HB.out hb); clear hb))
      go_ret
      exact ⟨by rw [HS.out]; rfl, HB.out⟩
  ·have HS := H_ (show paB p a b = eb by rw [hpa, g1]; rfl)
   clear hpa
   go_enter Tryz.func95, Tryz.ntmps95
   go_wp2_with (first
    | (guard_target = gB 3; refine step_box rfl _ rfl p rfl ?_; intro b3 w1 N R; have HG3 := H_ (nA HB.out N); have HB := H_ (below_on HB.out N.below); have HR3 := H_ R; clear N R)
    | (go_at_call 145; refine (upK HU.out _).mono ?_; rintro e w3 ⟨rfl, rfl⟩)
    | (guard_target = gL 3; refine step_load rfl _ rfl b3 rfl p HR3.out ?_)
    | (go_at_call 96; refine (hiK HH.out _ HP.out (by omega) (by omega)).mono ?_; rintro e w3 ⟨rfl, hb⟩; have HR3 := H_ (HR3.out.later hb); have HB := H_ (below_on HB.out hb); clear hb)
    | (go_at_call 94; guard_target = Go.Calls _ _ #[_, Go.Value.int _ (b : Int), _] _ _; refine (owK HOb.out (by omega) _ HP.out).mono ?_; rintro e w3 ⟨rfl, hb⟩; have HR3 := H_ (HR3.out.later hb); have HB := H_ (below_on HB.out hb); clear hb)
    | (go_at_call 51; refine (rkK HRk.out (by omega) _).mono ?_; rintro e w3 ⟨rfl, rfl⟩)
    | (guard_target = gL 48; refine gU rfl 5 _ rfl Tryz.underlying5 HR3.out 0 (by decide) rfl rfl ?_)
    | (guard_target = gL 24; refine step_get rfl 26 _ rfl b3 83 rfl Tryz.underlying26 rfl (.int .i8 (p 83)) ?_ ?_; exact HR3.out.cell 83 (by decide))
    | (guard_target = gL 10; refine gU rfl 5 _ rfl Tryz.underlying5 HR3.out 78 (by decide) rfl rfl ?_)
    | (guard_target = gL 19; refine gU rfl 5 _ rfl Tryz.underlying5 HR3.out 78 (by decide) rfl rfl ?_)
    | (guard_target = gL 38; refine gU rfl 5 _ rfl Tryz.underlying5 HR3.out 78 (by decide) rfl rfl ?_)
    | (guard_target = gL 53; refine gU rfl 5 _ rfl Tryz.underlying5 HR3.out 78 (by decide) rfl rfl ?_)
    | (go_at_call 97; guard_target = Go.Calls _ _ #[_, Go.Value.int _ (b : Int)] _ _; refine (emK HEb.out (by omega) _ HP.out).mono ?_; rintro e w3 ⟨rfl, hb⟩; have HR3 := H_ (HR3.out.later hb); have HB := H_ (below_on HB.out hb); clear hb))
   go_ret
   exact ⟨by rw [HS.out]; rfl, HB.out⟩
 ·have HS := H_ (show paB p a b = (ob || (p 83 == (b : Int))) by rw [hpa]; rfl)
  clear hpa
  cases ob
  all_goals
   go_enter Tryz.func95, Tryz.ntmps95
   go_wp2_with (first
    | (guard_target = gB 3; refine step_box rfl _ rfl p rfl ?_; intro b3 w1 N R; have HG3 := H_ (nA HB.out N); have HB := H_ (below_on HB.out N.below); have HR3 := H_ R; clear N R)
    | (go_at_call 145; refine (upK HU.out _).mono ?_; rintro e w3 ⟨rfl, rfl⟩)
    | (guard_target = gL 3; refine step_load rfl _ rfl b3 rfl p HR3.out ?_)
    | (go_at_call 96; refine (hiK HH.out _ HP.out (by omega) (by omega)).mono ?_; rintro e w3 ⟨rfl, hb⟩; have HR3 := H_ (HR3.out.later hb); have HB := H_ (below_on HB.out hb); clear hb)
    | (go_at_call 94; guard_target = Go.Calls _ _ #[_, Go.Value.int _ (b : Int), _] _ _; refine (owK HOb.out (by omega) _ HP.out).mono ?_; rintro e w3 ⟨rfl, hb⟩; have HR3 := H_ (HR3.out.later hb); have HB := H_ (below_on HB.out hb); clear hb)
    | (go_at_call 51; refine (rkK HRk.out (by omega) _).mono ?_; rintro e w3 ⟨rfl, rfl⟩)
    | (guard_target = gL 48; refine gU rfl 5 _ rfl Tryz.underlying5 HR3.out 0 (by decide) rfl rfl ?_)
    | (guard_target = gL 24; refine step_get rfl 26 _ rfl b3 83 rfl Tryz.underlying26 rfl (.int .i8 (p 83)) ?_ ?_; exact HR3.out.cell 83 (by decide))
    | (guard_target = gL 10; refine gU rfl 5 _ rfl Tryz.underlying5 HR3.out 78 (by decide) rfl rfl ?_)
    | (guard_target = gL 19; refine gU rfl 5 _ rfl Tryz.underlying5 HR3.out 78 (by decide) rfl rfl ?_)
    | (guard_target = gL 38; refine gU rfl 5 _ rfl Tryz.underlying5 HR3.out 78 (by decide) rfl rfl ?_)
    | (guard_target = gL 53; refine gU rfl 5 _ rfl Tryz.underlying5 HR3.out 78 (by decide) rfl rfl ?_))
   go_ret
   exact ⟨by rw [HS.out]; rfl, HB.out⟩
theorem paK {p : Nat → Int} {a b : Nat} {x : Bool} (h : paB p a b = x) (ha : a < 64) (hb : b < 64) (w : World) (hp : BdR p) (h83 : -128 ≤ p 83 ∧ p 83 ≤ 127) : Calls Tryz.prog 95 #[.agg (posA p), .int .i64 (a : Int), .int .i64 (b : Int)] w (BoL x w) := h ▸ pr_pawn p a b ha hb w hp h83
theorem pr_may (p : Nat → Int) (a b : Nat) (ha : a < 64) (hb : b < 64) (w : World) (hp : BdR p) (h83 : -128 ≤ p 83 ∧ p 83 ≤ 127) : Calls Tryz.prog 50 #[.agg (posA p), .int .i64 (a : Int), .int .i64 (b : Int)] w (BoL (maB p a b) w) := by
 have H83 := H_ h83
 have HP := H_ hp
 clear hp
 have HB := H_ (Below.refl w.heap.size w)
 obtain ⟨kd, hkd⟩ : ∃ kd, kndZ (p (1 + a)) = kd := ⟨_, rfl⟩
 have HKd := H_ hkd
 obtain ⟨hi, hhi⟩ : ∃ hi, hiB p a b = hi := ⟨_, rfl⟩
 have HH := H_ hhi
 obtain ⟨oa, hoa⟩ : ∃ oa, owB p a (p 78) = oa := ⟨_, rfl⟩
 have HOa := H_ hoa
 obtain ⟨ob, hob⟩ : ∃ ob, owB p b (p 78) = ob := ⟨_, rfl⟩
 have HOb := H_ hob
 obtain ⟨eb, heb⟩ : ∃ eb, emB p b = eb := ⟨_, rfl⟩
 have HEb := H_ heb
 obtain ⟨pa, hpa⟩ : ∃ pa, paB p a b = pa := ⟨_, rfl⟩
 have HPa := H_ hpa
 have hma : maB p a b = (!(a == b) && (oa && (!ob && (bif kd == 1 then pa else bif kd == 6 then hi && (!(p 0 == 3) || eb) else hi)))) := by unfold maB; rw [hkd, hhi, hoa, hob, heb, hpa]
 clear hkd hhi hoa hob heb hpa h83
 by_cases g1 : a = b
 ·have q1 : (a == b) = true := beq_iff_eq.2 g1
  have q1' : ((a : Int) == (b : Int)) = true := beq_iff_eq.2 (by omega)
  have HS := H_ (show maB p a b = false by rw [hma, q1]; rfl)
  clear hma g1
  go_enter Tryz.func50, Tryz.ntmps50
  go_wp2_with (first
   | (guard_target = gB 3; refine step_box rfl _ rfl p rfl ?_; intro b3 w1 N R; have HG3 := H_ (nA HB.out N); have HB := H_ (below_on HB.out N.below); have HR3 := H_ R; clear N R)
   | (guard_target = gL 3; refine step_load rfl _ rfl b3 rfl p HR3.out ?_)
   | (go_at_call 94; guard_target = Go.Calls _ _ #[_, Go.Value.int _ (a : Int), _] _ _; refine (owK HOa.out (by omega) _ HP.out).mono ?_; rintro e w3 ⟨rfl, hb⟩; have HR3 := H_ (HR3.out.later hb); have HB := H_ (below_on HB.out hb); clear hb)
   | (go_at_call 94; guard_target = Go.Calls _ _ #[_, Go.Value.int _ (b : Int), _] _ _; refine (owK HOb.out (by omega) _ HP.out).mono ?_; rintro e w3 ⟨rfl, hb⟩; have HR3 := H_ (HR3.out.later hb); have HB := H_ (below_on HB.out hb); clear hb)
   | (guard_target = gL2 28 27; refine step_get rfl 5 _ rfl b3 (1 + a) rfl Tryz.underlying5 rfl (.int .u8 (p (1 + a))) ?_ ?_; exact (HR3.out.cell (1 + a) (by omega)).trans (by rw [kAt_board (Nat.zero_le _) (by omega)]))
   | (go_at_call 28; refine (rkind_any _ _ (HP.out a (by omega)).1 (HP.out a (by omega)).2).mono ?_; rintro e w3 ⟨rfl, rfl⟩; rw [HKd.out])
   | (go_at_call 95; refine (paK HPa.out (by omega) (by omega) _ HP.out H83.out).mono ?_; rintro e w3 ⟨rfl, hb⟩; have HR3 := H_ (HR3.out.later hb); have HB := H_ (below_on HB.out hb); clear hb)
   | (go_at_call 96; refine (hiK HH.out _ HP.out (by omega) (by omega)).mono ?_; rintro e w3 ⟨rfl, hb⟩; have HR3 := H_ (HR3.out.later hb); have HB := H_ (below_on HB.out hb); clear hb)
   | (go_at_call 97; guard_target = Go.Calls _ _ #[_, Go.Value.int _ (b : Int)] _ _; refine (emK HEb.out (by omega) _ HP.out).mono ?_; rintro e w3 ⟨rfl, hb⟩; have HR3 := H_ (HR3.out.later hb); have HB := H_ (below_on HB.out hb); clear hb)
   | (guard_target = gL 13; refine gU rfl 5 _ rfl Tryz.underlying5 HR3.out 78 (by decide) rfl rfl ?_)
   | (guard_target = gL 21; refine gU rfl 5 _ rfl Tryz.underlying5 HR3.out 78 (by decide) rfl rfl ?_)
   | (guard_target = gL 43; refine gU rfl 5 _ rfl Tryz.underlying5 HR3.out 0 (by decide) rfl rfl ?_))
  go_ret
  exact ⟨by rw [HS.out]; rfl, HB.out⟩
 ·have q1 : (a == b) = false := beq_eq_false_iff_ne.2 g1
  have q1' : ((a : Int) == (b : Int)) = false := beq_eq_false_iff_ne.2 (by omega)
  cases oa
  ·have HS := H_ (show maB p a b = false by rw [hma, q1]; rfl)
   clear hma g1
   go_enter Tryz.func50, Tryz.ntmps50
   go_wp2_with (first
   | (guard_target = gB 3; refine step_box rfl _ rfl p rfl ?_; intro b3 w1 N R; have HG3 := H_ (nA HB.out N); have HB := H_ (below_on HB.out N.below); have HR3 := H_ R; clear N R)
   | (guard_target = gL 3; refine step_load rfl _ rfl b3 rfl p HR3.out ?_)
   | (go_at_call 94; guard_target = Go.Calls _ _ #[_, Go.Value.int _ (a : Int), _] _ _; refine (owK HOa.out (by omega) _ HP.out).mono ?_; rintro e w3 ⟨rfl, hb⟩; have HR3 := H_ (HR3.out.later hb); have HB := H_ (below_on HB.out hb); clear hb)
   | (go_at_call 94; guard_target = Go.Calls _ _ #[_, Go.Value.int _ (b : Int), _] _ _; refine (owK HOb.out (by omega) _ HP.out).mono ?_; rintro e w3 ⟨rfl, hb⟩; have HR3 := H_ (HR3.out.later hb); have HB := H_ (below_on HB.out hb); clear hb)
   | (guard_target = gL2 28 27; refine step_get rfl 5 _ rfl b3 (1 + a) rfl Tryz.underlying5 rfl (.int .u8 (p (1 + a))) ?_ ?_; exact (HR3.out.cell (1 + a) (by omega)).trans (by rw [kAt_board (Nat.zero_le _) (by omega)]))
   | (go_at_call 28; refine (rkind_any _ _ (HP.out a (by omega)).1 (HP.out a (by omega)).2).mono ?_; rintro e w3 ⟨rfl, rfl⟩; rw [HKd.out])
   | (go_at_call 95; refine (paK HPa.out (by omega) (by omega) _ HP.out H83.out).mono ?_; rintro e w3 ⟨rfl, hb⟩; have HR3 := H_ (HR3.out.later hb); have HB := H_ (below_on HB.out hb); clear hb)
   | (go_at_call 96; refine (hiK HH.out _ HP.out (by omega) (by omega)).mono ?_; rintro e w3 ⟨rfl, hb⟩; have HR3 := H_ (HR3.out.later hb); have HB := H_ (below_on HB.out hb); clear hb)
   | (go_at_call 97; guard_target = Go.Calls _ _ #[_, Go.Value.int _ (b : Int)] _ _; refine (emK HEb.out (by omega) _ HP.out).mono ?_; rintro e w3 ⟨rfl, hb⟩; have HR3 := H_ (HR3.out.later hb); have HB := H_ (below_on HB.out hb); clear hb)
   | (guard_target = gL 13; refine gU rfl 5 _ rfl Tryz.underlying5 HR3.out 78 (by decide) rfl rfl ?_)
   | (guard_target = gL 21; refine gU rfl 5 _ rfl Tryz.underlying5 HR3.out 78 (by decide) rfl rfl ?_)
   | (guard_target = gL 43; refine gU rfl 5 _ rfl Tryz.underlying5 HR3.out 0 (by decide) rfl rfl ?_))
   go_ret
   exact ⟨by rw [HS.out]; rfl, HB.out⟩
  ·cases ob
   ·cases g2 : (kd == 1)
    ·cases g3 : (kd == 6)
     ·have HS := H_ (show maB p a b = hi by rw [hma, q1, g2, g3]; rfl)
      clear hma g1
      go_enter Tryz.func50, Tryz.ntmps50
      go_wp2_with (first
       | (guard_target = gB 3; refine step_box rfl _ rfl p rfl ?_; intro b3 w1 N R; have HG3 := H_ (nA HB.out N); have HB := H_ (below_on HB.out N.below); have HR3 := H_ R; clear N R)
       | (guard_target = gL 3; refine step_load rfl _ rfl b3 rfl p HR3.out ?_)
       | (go_at_call 94; guard_target = Go.Calls _ _ #[_, Go.Value.int _ (a : Int), _] _ _; refine (owK HOa.out (by omega) _ HP.out).mono ?_; rintro e w3 ⟨rfl, hb⟩; have HR3 := H_ (HR3.out.later hb); have HB := H_ (below_on HB.out hb); clear hb)
       | (go_at_call 94; guard_target = Go.Calls _ _ #[_, Go.Value.int _ (b : Int), _] _ _; refine (owK HOb.out (by omega) _ HP.out).mono ?_; rintro e w3 ⟨rfl, hb⟩; have HR3 := H_ (HR3.out.later hb); have HB := H_ (below_on HB.out hb); clear hb)
       | (guard_target = gL2 28 27; refine step_get rfl 5 _ rfl b3 (1 + a) rfl Tryz.underlying5 rfl (.int .u8 (p (1 + a))) ?_ ?_; exact (HR3.out.cell (1 + a) (by omega)).trans (by rw [kAt_board (Nat.zero_le _) (by omega)]))
       | (go_at_call 28; refine (rkind_any _ _ (HP.out a (by omega)).1 (HP.out a (by omega)).2).mono ?_; rintro e w3 ⟨rfl, rfl⟩; rw [HKd.out])
       | (go_at_call 95; refine (paK HPa.out (by omega) (by omega) _ HP.out H83.out).mono ?_; rintro e w3 ⟨rfl, hb⟩; have HR3 := H_ (HR3.out.later hb); have HB := H_ (below_on HB.out hb); clear hb)
       | (go_at_call 96; refine (hiK HH.out _ HP.out (by omega) (by omega)).mono ?_; rintro e w3 ⟨rfl, hb⟩; have HR3 := H_ (HR3.out.later hb); have HB := H_ (below_on HB.out hb); clear hb)
       | (go_at_call 97; guard_target = Go.Calls _ _ #[_, Go.Value.int _ (b : Int)] _ _; refine (emK HEb.out (by omega) _ HP.out).mono ?_; rintro e w3 ⟨rfl, hb⟩; have HR3 := H_ (HR3.out.later hb); have HB := H_ (below_on HB.out hb); clear hb)
       | (guard_target = gL 13; refine gU rfl 5 _ rfl Tryz.underlying5 HR3.out 78 (by decide) rfl rfl ?_)
       | (guard_target = gL 21; refine gU rfl 5 _ rfl Tryz.underlying5 HR3.out 78 (by decide) rfl rfl ?_)
       | (guard_target = gL 43; refine gU rfl 5 _ rfl Tryz.underlying5 HR3.out 0 (by decide) rfl rfl ?_))
      go_ret
      exact ⟨by rw [HS.out]; rfl, HB.out⟩
     ·have HS := H_ (show maB p a b = (hi && (!(p 0 == 3) || eb)) by rw [hma, q1, g2, g3]; rfl)
      clear hma g1
      cases hi
      ·skip
       go_enter Tryz.func50, Tryz.ntmps50
       go_wp2_with (first
        | (guard_target = gB 3; refine step_box rfl _ rfl p rfl ?_; intro b3 w1 N R; have HG3 := H_ (nA HB.out N); have HB := H_ (below_on HB.out N.below); have HR3 := H_ R; clear N R)
        | (guard_target = gL 3; refine step_load rfl _ rfl b3 rfl p HR3.out ?_)
        | (go_at_call 94; guard_target = Go.Calls _ _ #[_, Go.Value.int _ (a : Int), _] _ _; refine (owK HOa.out (by omega) _ HP.out).mono ?_; rintro e w3 ⟨rfl, hb⟩; have HR3 := H_ (HR3.out.later hb); have HB := H_ (below_on HB.out hb); clear hb)
        | (go_at_call 94; guard_target = Go.Calls _ _ #[_, Go.Value.int _ (b : Int), _] _ _; refine (owK HOb.out (by omega) _ HP.out).mono ?_; rintro e w3 ⟨rfl, hb⟩; have HR3 := H_ (HR3.out.later hb); have HB := H_ (below_on HB.out hb); clear hb)
        | (guard_target = gL2 28 27; refine step_get rfl 5 _ rfl b3 (1 + a) rfl Tryz.underlying5 rfl (.int .u8 (p (1 + a))) ?_ ?_; exact (HR3.out.cell (1 + a) (by omega)).trans (by rw [kAt_board (Nat.zero_le _) (by omega)]))
        | (go_at_call 28; refine (rkind_any _ _ (HP.out a (by omega)).1 (HP.out a (by omega)).2).mono ?_; rintro e w3 ⟨rfl, rfl⟩; rw [HKd.out])
        | (go_at_call 95; refine (paK HPa.out (by omega) (by omega) _ HP.out H83.out).mono ?_; rintro e w3 ⟨rfl, hb⟩; have HR3 := H_ (HR3.out.later hb); have HB := H_ (below_on HB.out hb); clear hb)
        | (go_at_call 96; refine (hiK HH.out _ HP.out (by omega) (by omega)).mono ?_; rintro e w3 ⟨rfl, hb⟩; have HR3 := H_ (HR3.out.later hb); have HB := H_ (below_on HB.out hb); clear hb)
        | (go_at_call 97; guard_target = Go.Calls _ _ #[_, Go.Value.int _ (b : Int)] _ _; refine (emK HEb.out (by omega) _ HP.out).mono ?_; rintro e w3 ⟨rfl, hb⟩; have HR3 := H_ (HR3.out.later hb); have HB := H_ (below_on HB.out hb); clear hb)
        | (guard_target = gL 13; refine gU rfl 5 _ rfl Tryz.underlying5 HR3.out 78 (by decide) rfl rfl ?_)
        | (guard_target = gL 21; refine gU rfl 5 _ rfl Tryz.underlying5 HR3.out 78 (by decide) rfl rfl ?_)
        | (guard_target = gL 43; refine gU rfl 5 _ rfl Tryz.underlying5 HR3.out 0 (by decide) rfl rfl ?_))
       go_ret
       exact ⟨by rw [HS.out]; rfl, HB.out⟩
      ·cases g4 : (p 0 == 3)
       ·have g4' : (p 0 != 3) = true := by rw [bne, g4]; rfl
        have HS := H_ (show maB p a b = true by rw [HS.out, g4]; rfl)
        go_enter Tryz.func50, Tryz.ntmps50
        go_wp2_with (first
         | (guard_target = gB 3; refine step_box rfl _ rfl p rfl ?_; intro b3 w1 N R; have HG3 := H_ (nA HB.out N); have HB := H_ (below_on HB.out N.below); have HR3 := H_ R; clear N R)
         | (guard_target = gL 3; refine step_load rfl _ rfl b3 rfl p HR3.out ?_)
         | (go_at_call 94; guard_target = Go.Calls _ _ #[_, Go.Value.int _ (a : Int), _] _ _; refine (owK HOa.out (by omega) _ HP.out).mono ?_; rintro e w3 ⟨rfl, hb⟩; have HR3 := H_ (HR3.out.later hb); have HB := H_ (below_on HB.out hb); clear hb)
         | (go_at_call 94; guard_target = Go.Calls _ _ #[_, Go.Value.int _ (b : Int), _] _ _; refine (owK HOb.out (by omega) _ HP.out).mono ?_; rintro e w3 ⟨rfl, hb⟩; have HR3 := H_ (HR3.out.later hb); have HB := H_ (below_on HB.out hb); clear hb)
         | (guard_target = gL2 28 27; refine step_get rfl 5 _ rfl b3 (1 + a) rfl Tryz.underlying5 rfl (.int .u8 (p (1 + a))) ?_ ?_; exact (HR3.out.cell (1 + a) (by omega)).trans (by rw [kAt_board (Nat.zero_le _) (by omega)]))
         | (go_at_call 28; refine (rkind_any _ _ (HP.out a (by omega)).1 (HP.out a (by omega)).2).mono ?_; rintro e w3 ⟨rfl, rfl⟩; rw [HKd.out])
         | (go_at_call 95; refine (paK HPa.out (by omega) (by omega) _ HP.out H83.out).mono ?_; rintro e w3 ⟨rfl, hb⟩; have HR3 := H_ (HR3.out.later hb); have HB := H_ (below_on HB.out hb); clear hb)
         | (go_at_call 96; refine (hiK HH.out _ HP.out (by omega) (by omega)).mono ?_; rintro e w3 ⟨rfl, hb⟩; have HR3 := H_ (HR3.out.later hb); have HB := H_ (below_on HB.out hb); clear hb)
         | (go_at_call 97; guard_target = Go.Calls _ _ #[_, Go.Value.int _ (b : Int)] _ _; refine (emK HEb.out (by omega) _ HP.out).mono ?_; rintro e w3 ⟨rfl, hb⟩; have HR3 := H_ (HR3.out.later hb); have HB := H_ (below_on HB.out hb); clear hb)
         | (guard_target = gL 13; refine gU rfl 5 _ rfl Tryz.underlying5 HR3.out 78 (by decide) rfl rfl ?_)
         | (guard_target = gL 21; refine gU rfl 5 _ rfl Tryz.underlying5 HR3.out 78 (by decide) rfl rfl ?_)
         | (guard_target = gL 43; refine gU rfl 5 _ rfl Tryz.underlying5 HR3.out 0 (by decide) rfl rfl ?_))
        go_ret
        exact ⟨by rw [HS.out]; rfl, HB.out⟩
       ·have g4' : (p 0 != 3) = false := by rw [bne, g4]; rfl
        have HS := H_ (show maB p a b = eb by rw [HS.out, g4]; simp)
        go_enter Tryz.func50, Tryz.ntmps50
        go_wp2_with (first
         | (guard_target = gB 3; refine step_box rfl _ rfl p rfl ?_; intro b3 w1 N R; have HG3 := H_ (nA HB.out N); have HB := H_ (below_on HB.out N.below); have HR3 := H_ R; clear N R)
         | (guard_target = gL 3; refine step_load rfl _ rfl b3 rfl p HR3.out ?_)
         | (go_at_call 94; guard_target = Go.Calls _ _ #[_, Go.Value.int _ (a : Int), _] _ _; refine (owK HOa.out (by omega) _ HP.out).mono ?_; rintro e w3 ⟨rfl, hb⟩; have HR3 := H_ (HR3.out.later hb); have HB := H_ (below_on HB.out hb); clear hb)
         | (go_at_call 94; guard_target = Go.Calls _ _ #[_, Go.Value.int _ (b : Int), _] _ _; refine (owK HOb.out (by omega) _ HP.out).mono ?_; rintro e w3 ⟨rfl, hb⟩; have HR3 := H_ (HR3.out.later hb); have HB := H_ (below_on HB.out hb); clear hb)
         | (guard_target = gL2 28 27; refine step_get rfl 5 _ rfl b3 (1 + a) rfl Tryz.underlying5 rfl (.int .u8 (p (1 + a))) ?_ ?_; exact (HR3.out.cell (1 + a) (by omega)).trans (by rw [kAt_board (Nat.zero_le _) (by omega)]))
         | (go_at_call 28; refine (rkind_any _ _ (HP.out a (by omega)).1 (HP.out a (by omega)).2).mono ?_; rintro e w3 ⟨rfl, rfl⟩; rw [HKd.out])
         | (go_at_call 95; refine (paK HPa.out (by omega) (by omega) _ HP.out H83.out).mono ?_; rintro e w3 ⟨rfl, hb⟩; have HR3 := H_ (HR3.out.later hb); have HB := H_ (below_on HB.out hb); clear hb)
         | (go_at_call 96; refine (hiK HH.out _ HP.out (by omega) (by omega)).mono ?_; rintro e w3 ⟨rfl, hb⟩; have HR3 := H_ (HR3.out.later hb); have HB := H_ (below_on HB.out hb); clear hb)
         | (go_at_call 97; guard_target = Go.Calls _ _ #[_, Go.Value.int _ (b : Int)] _ _; refine (emK HEb.out (by omega) _ HP.out).mono ?_; rintro e w3 ⟨rfl, hb⟩; have HR3 := H_ (HR3.out.later hb); have HB := H_ (below_on HB.out hb); clear hb)
         | (guard_target = gL 13; refine gU rfl 5 _ rfl Tryz.underlying5 HR3.out 78 (by decide) rfl rfl ?_)
         | (guard_target = gL 21; refine gU rfl 5 _ rfl Tryz.underlying5 HR3.out 78 (by decide) rfl rfl ?_)
         | (guard_target = gL 43; refine gU rfl 5 _ rfl Tryz.underlying5 HR3.out 0 (by decide) rfl rfl ?_))
        go_ret
        exact ⟨by rw [HS.out]; rfl, HB.out⟩
    ·have HS := H_ (show maB p a b = pa by rw [hma, q1, g2]; rfl)
     clear hma g1
     go_enter Tryz.func50, Tryz.ntmps50
     go_wp2_with (first
      | (guard_target = gB 3; refine step_box rfl _ rfl p rfl ?_; intro b3 w1 N R; have HG3 := H_ (nA HB.out N); have HB := H_ (below_on HB.out N.below); have HR3 := H_ R; clear N R)
      | (guard_target = gL 3; refine step_load rfl _ rfl b3 rfl p HR3.out ?_)
      | (go_at_call 94; guard_target = Go.Calls _ _ #[_, Go.Value.int _ (a : Int), _] _ _; refine (owK HOa.out (by omega) _ HP.out).mono ?_; rintro e w3 ⟨rfl, hb⟩; have HR3 := H_ (HR3.out.later hb); have HB := H_ (below_on HB.out hb); clear hb)
      | (go_at_call 94; guard_target = Go.Calls _ _ #[_, Go.Value.int _ (b : Int), _] _ _; refine (owK HOb.out (by omega) _ HP.out).mono ?_; rintro e w3 ⟨rfl, hb⟩; have HR3 := H_ (HR3.out.later hb); have HB := H_ (below_on HB.out hb); clear hb)
      | (guard_target = gL2 28 27; refine step_get rfl 5 _ rfl b3 (1 + a) rfl Tryz.underlying5 rfl (.int .u8 (p (1 + a))) ?_ ?_; exact (HR3.out.cell (1 + a) (by omega)).trans (by rw [kAt_board (Nat.zero_le _) (by omega)]))
      | (go_at_call 28; refine (rkind_any _ _ (HP.out a (by omega)).1 (HP.out a (by omega)).2).mono ?_; rintro e w3 ⟨rfl, rfl⟩; rw [HKd.out])
      | (go_at_call 95; refine (paK HPa.out (by omega) (by omega) _ HP.out H83.out).mono ?_; rintro e w3 ⟨rfl, hb⟩; have HR3 := H_ (HR3.out.later hb); have HB := H_ (below_on HB.out hb); clear hb)
      | (go_at_call 96; refine (hiK HH.out _ HP.out (by omega) (by omega)).mono ?_; rintro e w3 ⟨rfl, hb⟩; have HR3 := H_ (HR3.out.later hb); have HB := H_ (below_on HB.out hb); clear hb)
      | (go_at_call 97; guard_target = Go.Calls _ _ #[_, Go.Value.int _ (b : Int)] _ _; refine (emK HEb.out (by omega) _ HP.out).mono ?_; rintro e w3 ⟨rfl, hb⟩; have HR3 := H_ (HR3.out.later hb); have HB := H_ (below_on HB.out hb); clear hb)
      | (guard_target = gL 13; refine gU rfl 5 _ rfl Tryz.underlying5 HR3.out 78 (by decide) rfl rfl ?_)
      | (guard_target = gL 21; refine gU rfl 5 _ rfl Tryz.underlying5 HR3.out 78 (by decide) rfl rfl ?_)
      | (guard_target = gL 43; refine gU rfl 5 _ rfl Tryz.underlying5 HR3.out 0 (by decide) rfl rfl ?_))
     go_ret
     exact ⟨by rw [HS.out]; rfl, HB.out⟩
   ·have HS := H_ (show maB p a b = false by rw [hma, q1]; rfl)
    clear hma g1
    go_enter Tryz.func50, Tryz.ntmps50
    go_wp2_with (first
     | (guard_target = gB 3; refine step_box rfl _ rfl p rfl ?_; intro b3 w1 N R; have HG3 := H_ (nA HB.out N); have HB := H_ (below_on HB.out N.below); have HR3 := H_ R; clear N R)
     | (guard_target = gL 3; refine step_load rfl _ rfl b3 rfl p HR3.out ?_)
     | (go_at_call 94; guard_target = Go.Calls _ _ #[_, Go.Value.int _ (a : Int), _] _ _; refine (owK HOa.out (by omega) _ HP.out).mono ?_; rintro e w3 ⟨rfl, hb⟩; have HR3 := H_ (HR3.out.later hb); have HB := H_ (below_on HB.out hb); clear hb)
     | (go_at_call 94; guard_target = Go.Calls _ _ #[_, Go.Value.int _ (b : Int), _] _ _; refine (owK HOb.out (by omega) _ HP.out).mono ?_; rintro e w3 ⟨rfl, hb⟩; have HR3 := H_ (HR3.out.later hb); have HB := H_ (below_on HB.out hb); clear hb)
     | (guard_target = gL2 28 27; refine step_get rfl 5 _ rfl b3 (1 + a) rfl Tryz.underlying5 rfl (.int .u8 (p (1 + a))) ?_ ?_; exact (HR3.out.cell (1 + a) (by omega)).trans (by rw [kAt_board (Nat.zero_le _) (by omega)]))
     | (go_at_call 28; refine (rkind_any _ _ (HP.out a (by omega)).1 (HP.out a (by omega)).2).mono ?_; rintro e w3 ⟨rfl, rfl⟩; rw [HKd.out])
     | (go_at_call 95; refine (paK HPa.out (by omega) (by omega) _ HP.out H83.out).mono ?_; rintro e w3 ⟨rfl, hb⟩; have HR3 := H_ (HR3.out.later hb); have HB := H_ (below_on HB.out hb); clear hb)
     | (go_at_call 96; refine (hiK HH.out _ HP.out (by omega) (by omega)).mono ?_; rintro e w3 ⟨rfl, hb⟩; have HR3 := H_ (HR3.out.later hb); have HB := H_ (below_on HB.out hb); clear hb)
     | (go_at_call 97; guard_target = Go.Calls _ _ #[_, Go.Value.int _ (b : Int)] _ _; refine (emK HEb.out (by omega) _ HP.out).mono ?_; rintro e w3 ⟨rfl, hb⟩; have HR3 := H_ (HR3.out.later hb); have HB := H_ (below_on HB.out hb); clear hb)
     | (guard_target = gL 13; refine gU rfl 5 _ rfl Tryz.underlying5 HR3.out 78 (by decide) rfl rfl ?_)
     | (guard_target = gL 21; refine gU rfl 5 _ rfl Tryz.underlying5 HR3.out 78 (by decide) rfl rfl ?_)
     | (guard_target = gL 43; refine gU rfl 5 _ rfl Tryz.underlying5 HR3.out 0 (by decide) rfl rfl ?_))
    go_ret
    exact ⟨by rw [HS.out]; rfl, HB.out⟩
end Go.Proofs.YtidgfadbdgheiaaGreatDoor
