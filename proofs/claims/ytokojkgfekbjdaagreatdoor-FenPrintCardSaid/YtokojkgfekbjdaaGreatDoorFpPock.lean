/-
  Contract of the program's pocketsText (layer 10).
-/
import Derived.Test.YtokojkgfekbjdaaGreatDoorFpRank
import Derived.Test.YtokojkgfekbjdaaGreatDoorFpCanD
import Derived.Test.YtokojkgfekbjdaaGreatDoorFpCanE
import Derived.Test.YtokojkgfekbjdaaGreatDoorFnPrint
namespace Go.Proofs.YtokojkgfekbjdaaGreatDoor
open Go.RowKit
set_option linter.unusedVariables false
set_option linter.unusedSimpArgs false

theorem rep_snoc (l : List UInt8) : ∀ n, Lib.repeatL l n ++ l = l ++ Lib.repeatL l n
  | 0 => by simp [Lib.repeatL]
  | n + 1 => by rw [Lib.repeatL, List.append_assoc, rep_snoc l n]
theorem rep_pk (c k : Nat) : ∀ n, Lib.repeatL (leF (mkZ (c : Int) (k : Int))) n = pkN c k n
  | 0 => rfl
  | n + 1 => by rw [pkN, ← rep_pk c k n, rep_snoc, Lib.repeatL]
theorem size24 : (Tryz.prog.info? 24).map (·.size) = some 6 := by kernel_rfl
theorem kat_pk (c : Nat) (hc : c < 2) : ∀ j, j < 6 → kAt (66 + c * 6 + j) = .u8 := fun j hj => kf_u8 (.inr (.inl (by omega)))
theorem ptK_len {p : Nat → Int} (hp : ∀ i, 66 ≤ i → i < 78 → 0 ≤ p i ∧ p i ≤ 255) {c k : Nat} (hc : c < 2) (hk : k ≤ 6) : (ptK p c k).length ≤ 5000 := by
  have h1 := pkC_len hp c (by omega)
  have h2 := pkK_len hp hc k hk
  unfold ptK ptC
  simp only [List.length_append, List.length_cons]
  omega
/-- The pockets' text: none, but of a variant with pockets. -/
def poX (p : Nat → Int) : List UInt8 := bif p 0 == 2 then poT p else []
set_option maxRecDepth 100000 in
set_option maxHeartbeats 4000000 in
theorem pocketsText_any (p : Nat → Int) (w : World) (hp : FitF p) (hT : TabVar w) : Calls Tryz.prog 58 #[.agg (posA p)] w (StL (bz (poX p)) w) := by
  have HP := Lib.hid hp
  have HT := Lib.hid hT
  obtain ⟨v, hvv⟩ : ∃ v : Nat, p 0 = (v : Int) := ⟨(p 0).toNat, (Int.toNat_of_nonneg hp.var.1).symm⟩
  have HV := Lib.hid (show v ≤ 255 by have := hp.var.2; omega)
  obtain ⟨q, hq⟩ : ∃ q, pocB v = q := ⟨_, rfl⟩
  have HQ := Lib.hid hq
  have h2 : (p 0 == 2) = q := by
    have h := poc_two hvv
    rw [hq] at h
    cases q
    · simpa [bne] using h
    · simpa [bne] using h
  have HCs := Lib.hid (fun (W : World) (b1 : Nat) (h : Row W b1 p) => show W.cell? ⟨b1, 0, none⟩ = some (.int .u8 (v : Int)) by rw [h.cell 0 (by decide), hvv]; rfl)
  clear hq hvv hp hT
  cases q
  · have HE := Lib.hid (show poX p = [] by unfold poX; rw [h2]; rfl)
    clear h2
    go_enter Tryz.func58, Tryz.ntmps58
    go_wp2_with (first
      | (refine step_box rfl _ rfl p rfl ?_; intro b1 w1 N R; have HB := Lib.hid N.below; have k0 := HCs.out _ _ R; clear N R)
      | (go_at_call 93; refine (poc_any _ _ HV.out (HT.out.on HB.out)).mono ?_; rintro e w' ⟨rfl, hb9⟩; rw [HQ.out]; have HB := Lib.hid (below_on HB.out hb9); clear hb9 k0))
    go_ret
    exact ⟨by rw [HE.out]; rfl, HB.out⟩
  · have HE := Lib.hid (show poX p = poT p by unfold poX; rw [h2]; rfl)
    rw [HE.out]
    clear h2
    go_enter Tryz.func58, Tryz.ntmps58
    go_wp2_with (first
      | (refine step_box rfl _ rfl p rfl ?_; intro b1 w1 N R; have HB := Lib.hid N.below; have HR := Lib.hid R; have k0 := HCs.out _ _ R; clear N R)
      | (go_at_call 93; refine (poc_any _ _ HV.out (HT.out.on HB.out)).mono ?_; rintro e w2 ⟨rfl, hb9⟩; rw [HQ.out]; have HR := Lib.hid (HR.out.later hb9); have HB := Lib.hid (below_on HB.out hb9); clear hb9 k0))
    have HI := Lib.hid (show b1 < w2.heap.size from HR.out.lt)
    go_loopw [3, 4] (fun t c wr => ∃ n : Nat, n ≤ 2 ∧ c = .int .u8 n ∧ t = .string (bz (ptC p n)) ∧ Below w2.heap.size w2 wr) (fun _ c _ => 2 - (intOf c).toNat)
    case atStart => exact ⟨0, by omega, rfl, rfl, Below.refl _ _⟩
    case round =>
      obtain ⟨n, hn, rfl, rfl, hbel⟩ := hrel
      have HBl := Lib.hid hbel
      have HRw := Lib.hid (HR.out.next hbel HI.out)
      clear hbel
      by_cases hn2 : n < 2
      · have ln : (n : Int) ≤ 1 := by omega
        have ln2 : (n : Int) < 2 := by omega
        have n0 : (0 : Int) ≤ (n : Int) := by omega
        have HN2 := Lib.hid hn2
        have HS0 := Lib.hid (show ptC p n = ptK p n 0 from ptC_zero p n)
        clear hn hn2
        go_wp2_with (refine step_part rfl 24 _ rfl b1 (66 + n * 6) 6 .u8 rfl p HRw.out (by have := HN2.out; omega) (kat_pk n HN2.out) _ Tryz.underlying24 rfl size24 ?_)
        go_loopw [3, 19] (fun t i wr2 => ∃ k : Nat, k ≤ 6 ∧ i = .int .i64 k ∧ t = .string (bz (ptK p n k)) ∧ Below w2.heap.size w2 wr2) (fun _ i _ => 6 - (intOf i).toNat)
        case atStart => exact ⟨0, by omega, rfl, by rw [HS0.out], HBl.out⟩
        case round =>
          obtain ⟨k, hk, rfl, rfl, hbel2⟩ := hrel
          have HBm := Lib.hid hbel2
          clear hbel2
          by_cases hk6 : k < 6
          · have lk : (k : Int) < 6 := by omega
            have k0 : (0 : Int) ≤ (k : Int) := by omega
            have k255 : (k : Int) ≤ 255 := by omega
            have HK6 := Lib.hid hk6
            obtain ⟨x, hx⟩ : ∃ x : Nat, p (66 + n * 6 + k) = (x : Int) := ⟨(p (66 + n * 6 + k)).toNat, (Int.toNat_of_nonneg (HP.out.pock _ (by omega) (by have := HN2.out; omega)).1).symm⟩
            have HX := Lib.hid hx
            have HX255 := Lib.hid (show x ≤ 255 by have := (HP.out.pock (66 + n * 6 + k) (by omega) (by have := HN2.out; omega)).2; omega)
            have x0 : (0 : Int) ≤ (x : Int) := by omega
            have x255 : (x : Int) ≤ 255 := by have := HX255.out; omega
            obtain ⟨m, hm⟩ : ∃ m, mkZ (n : Int) (k : Int) = m := ⟨_, rfl⟩
            have HM := Lib.hid hm
            have hmr : 0 ≤ m ∧ m ≤ 255 := by
              rw [← hm]
              have key : ∀ (a : Fin 2) (b : Fin 6), 0 ≤ mkZ (a.val : Int) (b.val : Int) ∧ mkZ (a.val : Int) (b.val : Int) ≤ 255 := by decide +kernel
              exact key ⟨n, HN2.out⟩ ⟨k, hk6⟩
            have HMr := Lib.hid hmr
            obtain ⟨t, ht⟩ : ∃ t, bz (ptK p n k) = t := ⟨_, rfl⟩
            have htz : t.size ≤ 5000 := by rw [← ht, bz_size]; exact ptK_len HP.out.pock HN2.out hk
            obtain ⟨d, hd⟩ : ∃ d, bz (pkN n k x) = d := ⟨_, rfl⟩
            have hdz : d.size ≤ 255 := by rw [← hd, bz_size]; exact Nat.le_trans (pkN_len _ _ _) HX255.out
            have HS := Lib.hid (show bz (ptK p n (k + 1)) = t ++ d by rw [ptK_succ p n k x (by rw [hx, Int.toNat_natCast])]; unfold ptS; rw [← bz_app, ht, hd])
            have HRp := Lib.hid (fun W => show Calls Tryz.prog 96 #[.string (letZ m), .int .i64 (x : Int)] W (StL d W) by
              have h := repeat_any (leF m) x W HX255.out (Nat.le_trans (leF_len m) (by decide))
              rw [← leF_bz, ← hm, rep_pk, hd, hm] at h
              exact h)
            have k1 := cat_ok (a := t) (b := d) (by omega) (by omega)
            rw [ht]
            clear ht htz hd hdz hx hm hmr hk hk6
            go_wp2_with (first
              | (refine arr_index rfl 24 5 _ _ rfl 6 .u8 _ rfl k rfl HK6.out Tryz.underlying24 Tryz.underlying5 size5 ?_; dsimp only; rw [HX.out])
              | (go_at_call 50; refine (mk_any _ _ _ n0 k0).mono ?_; rintro e w' ⟨rfl, rfl⟩; rw [HM.out])
              | (go_at_call 97; refine (let_any _ _ HMr.out.1 HMr.out.2).mono ?_; rintro e w' ⟨rfl, rfl⟩)
              | (go_at_call 96; refine (HRp.out _).mono ?_; rintro e w' ⟨rfl, hb9⟩; have HBm := Lib.hid (below_on HBm.out hb9); clear hb9))
            go_roundw
            case rel => exact ⟨k + 1, by have := HK6.out; omega, by go_num, by rw [HS.out], HBm.out⟩
            case measure => simp [intOf]; have := HK6.out; omega
          · obtain rfl : k = 6 := by omega
            have HSn := Lib.hid (show ptK p n 6 = ptC p (n + 1) from rfl)
            go_wp2_with fail
            go_roundw
            case rel => exact ⟨n + 1, by have := HN2.out; omega, by go_num, by rw [HSn.out], HBm.out⟩
            case measure => simp [intOf]; have := HN2.out; omega
      · obtain rfl : n = 2 := by omega
        have k1 := cat_ok (a := bz (ptC p 2)) (b := ⟨#[93]⟩) (by rw [bz_size]; have := ptC_len HP.out.pock; omega) (by decide)
        have HSn := Lib.hid (show bz (poT p) = bz (ptC p 2) ++ ⟨#[93]⟩ by unfold poT; rw [← bz_app]; rfl)
        go_wp2_with fail
        go_ret
        exact ⟨by rw [HSn.out]; rfl, HB.out.trans (HBl.out.mono HB.out.size)⟩
end Go.Proofs.YtokojkgfekbjdaaGreatDoor
