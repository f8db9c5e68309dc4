/-
  The contract of the document's own Find.
-/
import Derived.Test.YtgodoipmnenohaaDoorUp
import Derived.Test.YtgodoipmnenohaaDoorShiftRef
import Derived.Outline
namespace Go.Proofs.YtgodoipmnenohaaDoor
open Go.RowKit
set_option linter.unusedVariables false
theorem firstN_nil {b : Nat} (h : (listN b).length = 0) : firstN b = -1 := by
  unfold firstN
  rw [List.length_eq_zero_iff.1 h]
theorem firstN_get {b s : Nat} (h : (listN b)[0]? = some s) : firstN b = (s : Int) := by
  unfold firstN
  cases e : listN b with
  | nil => rw [e] at h; cases h
  | cons a t => rw [e] at h; simp at h; rw [h]
set_option maxRecDepth 100000 in
theorem rfind_any (p : Nat → Int) (c k : Int) (w : World) (hp : BdR p) : Calls Tryd.prog 17 #[.agg (posA p), .int .u8 c, .int .u8 k] w (IntL (firstN (ofN p c k)) w) := by
  have HP := Lib.hid hp
  clear hp
  go_enter Tryd.func17, Tryd.ntmps17
  go_wp2_with (first
    | (refine step_box rfl _ rfl p rfl ?_; intro b1 w1 N1 R1; have HB := Lib.hid N1.below; have HR1 := Lib.hid R1; clear N1 R1)
    | (refine step_load rfl _ rfl _ rfl p HR1.out ?_))
  refine (rof_any p _ _ _ HP.out).mono ?_; rintro e wn ⟨rfl, hb⟩; have HB := Lib.hid (below_on HB.out hb); clear hb
  go_wp2_with fail
  refine (rlist_any _ _ (ofN_lt p c k)).mono ?_; rintro e wn ⟨v, rfl, hL, hb⟩
  obtain ⟨q, cap, rfl, hq⟩ := listed_open hL
  have HB := Lib.hid (below_on HB.out hb)
  have HQ := Lib.hid hq
  have hlen := listN_len (ofN p c k)
  clear hL hq hb
  obtain ⟨b, HBb⟩ : ∃ b : Nat, Hid (ofN p c k = b) := ⟨_, Lib.hid rfl⟩
  rw [HBb.out] at HQ hlen ⊢
  by_cases h0 : (listN b).length = 0
  · have HF := Lib.hid (firstN_nil h0)
    rw [h0]
    go_wp2_with fail
    go_ret
    exact ⟨ret_int (by rw [HBb.out, HF.out]), HB.out⟩
  · have hpos : 0 < (listN b).length := by omega
    obtain ⟨s, HS⟩ : ∃ s, Hid ((listN b)[0]? = some s) := ⟨_, Lib.hid (List.getElem?_eq_getElem hpos)⟩
    have HF := Lib.hid (firstN_get HS.out)
    obtain ⟨g, rfl, hg1, hg2, hg3⟩ := HQ.out hpos
    have hc := (hg3 0 s HS.out).1
    have h1 : ((((listN b).length : Nat) : Int) == 0) = false := by rw [beq_eq_false_iff_ne]; omega
    have h2 : (0 : Int) < ((listN b).length : Nat) := by omega
    clear hg1 hg2 hg3
    go_wp2_with fail
    go_ret
    exact ⟨ret_int (by rw [HBb.out, HF.out]), HB.out⟩
end Go.Proofs.YtgodoipmnenohaaDoor
