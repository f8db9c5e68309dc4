/-
  What layer 11's rows list, as our walks ask it; what is read fits; how long texts are.
-/
import Derived.Test.YtnogmogmlilpiaaDoorRows
import Derived.Test.YtnogmogmlilpiaaDoorMvF
import Derived.LaidMore
namespace Go.Proofs.YtnogmogmlilpiaaDoor
open Go.RowKit
set_option linter.unusedVariables false

theorem tab_kibitzer_moves_goals {W : World} {nm : String} {rest : List (String × DataW Unit)} (h : laidMet Tryd.prog ((nm, Rows.laid_kibitzer_moves_goals) :: rest) W) (hn : Tryd.prog.globalNamed nm = some 0) : TabGo W := by
  have t := cells_of_laid (g := 0) (t := 74) hn (by kernel_rfl) (by kernel_rfl) (by kernel_rfl) h
  have e : ((Rows.laid_kibitzer_moves_goals (H := Unit)).flat.map Lit.toCell) = goL := by kernel_rfl
  rw [e] at t
  intro j x hx
  rw [t]
  rw [Nat.zero_add]
  exact hx
theorem FitM.of {p : Nat → Int} (h : WfP p) : FitM p := by
  have a := u8_rng (h 0 (by omega))
  have b := u8_rng (h 78 (by omega))
  refine ⟨a, b, fun i h1 h2 => ?_⟩
  have c := h i (by omega)
  rw [show kAt i = .i8 by unfold kAt; rw [if_neg (by omega), if_pos (by omega)]] at c
  simp only [Lit.wf, Bool.and_eq_true, decide_eq_true_eq] at c
  exact c
theorem mvP_fit {p : Nat → Int} (hp : FitM p) {l : List UInt8} {m : Mv} (h : mvP p l = some m) : FitV m := by
  unfold mvP at h
  cases hs : smB p
  · rw [hs] at h; cases h
  · rw [hs] at h
    have h : mvR p l = some m := h
    unfold mvR at h
    cases h1 : coB p l
    · rw [h1] at h
      have h : (bif isW (mvT p (plM l)) l then some (plM l) else bif isW (mvT p (drM l)) l then some (drM l) else none) = some m := h
      cases h2 : isW (mvT p (plM l)) l
      · rw [h2] at h
        have h : (bif isW (mvT p (drM l)) l then some (drM l) else none) = some m := h
        cases h3 : isW (mvT p (drM l)) l
        · rw [h3] at h; cases h
        · rw [h3] at h
          obtain rfl : drM l = m := Option.some.inj h
          exact drM_fit l
      · rw [h2] at h
        obtain rfl : plM l = m := Option.some.inj h
        exact plM_fit l
    · rw [h1] at h
      obtain rfl : coM p l = m := Option.some.inj h
      exact coM_fit hp hs l
theorem sqM_len (s : Int) : (sqM s).length ≤ 2 := by
  have := sqM_size s
  rwa [sqM_bz, bz_size] at this
theorem csT_len (p : Nat → Int) (m : Mv) : (csT p m).length ≤ 4 := by
  unfold csT
  cases ((m.pr == 0) && csB p m.f m.t)
  · exact Nat.zero_le _
  · show (csG p m.f m.t).length ≤ 4
    unfold csG
    cases (p 0 == 1)
    · exact enL_len _ _
    · exact enL_len _ _
theorem mvT_len (p : Nat → Int) (m : Mv) : (mvT p m).length ≤ 5 := by
  unfold mvT
  cases smB p
  · exact Nat.zero_le _
  · show (bif m.dr != 0 then drT m else bif m.ca then csT p m else plT p m).length ≤ 5
    cases (m.dr != 0)
    · show (bif m.ca then csT p m else plT p m).length ≤ 5
      cases m.ca
      · show (plT p m).length ≤ 5
        unfold plT
        cases ((sqB m.f && sqB m.t && (m.f != m.t)) && !((m.pr == 1) || decide (6 < m.pr)))
        · exact Nat.zero_le _
        · show (bif coB p (enL m.f m.t ++ leF (mkZ 1 m.pr)) then [] else enL m.f m.t ++ leF (mkZ 1 m.pr)).length ≤ 5
          cases coB p (enL m.f m.t ++ leF (mkZ 1 m.pr))
          · show (enL m.f m.t ++ leF (mkZ 1 m.pr)).length ≤ 5
            have h1 := enL_len m.f m.t
            have h2 := leF_len (mkZ 1 m.pr)
            rw [List.length_append]; omega
          · exact Nat.zero_le _
      · exact Nat.le_trans (csT_len p m) (by omega)
    · show (drT m).length ≤ 5
      unfold drT
      cases drB m
      · exact Nat.zero_le _
      · show (leF (mkZ 0 m.dr) ++ 64 :: sqM m.f).length ≤ 5
        have h1 := leF_len (mkZ 0 m.dr)
        have h2 := sqM_len m.f
        rw [List.length_append, List.length_cons]; omega
theorem mvA_fit_pr {m : Mv} (h : FitV m) : 0 ≤ m.pr := h.pr.1
/-- Two moves of one text are the same. -/
theorem mv_same {p : Nat → Int} (h0 : 0 ≤ p 78) {m v : Mv} (hm : 0 ≤ m.pr) (hv : 0 ≤ v.pr) (hl : mvT p m ≠ []) : (mvT p m == mvT p v) = mvE m v := by
  rw [Bool.eq_iff_iff, beq_iff_eq, mvE_true]
  constructor
  · intro h
    have h1 := mv_back h0 hm rfl hl
    have h2 := mv_back h0 hv h.symm hl
    rw [h1] at h2
    exact Option.some.inj h2
  · rintro rfl; rfl
end Go.Proofs.YtnogmogmlilpiaaDoor
