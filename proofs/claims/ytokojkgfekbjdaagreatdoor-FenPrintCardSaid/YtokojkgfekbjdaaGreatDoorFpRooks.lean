/-
  Contracts of the program's passingText, checksText, rookLetter, rooksText (layer 10).
-/
import Derived.Test.YtokojkgfekbjdaaGreatDoorFpRank
import Derived.Test.YtokojkgfekbjdaaGreatDoorFpCanC
import Derived.Test.YtokojkgfekbjdaaGreatDoorFnPrint
import Derived.Test.YtokojkgfekbjdaaGreatDoorFnBaseA
namespace Go.Proofs.YtokojkgfekbjdaaGreatDoor
open Go.RowKit
set_option linter.unusedVariables false
set_option linter.unusedSimpArgs false

theorem passingText_any (s : Int) (w : World) (h0 : -1 ≤ s) (h1 : s ≤ 63) : Calls Tryz.prog 61 #[.int .i8 s] w (StL (bz (bif s == -1 then [45] else sqL s)) w) := by
  cases hz : (s == -1)
  · have hs0 : 0 ≤ s := by have := no_beq hz; omega
    clear h0
    go_enter Tryz.func61, Tryz.ntmps61
    go_wp2_with (go_at_call 99; refine (text_any _ _).mono ?_; rintro e' w' ⟨rfl, hb9⟩; have HB := Lib.hid hb9; clear hb9)
    go_ret
    exact ⟨congrArg (fun t => Ending.returned (.string t)) (bz_of (textZ s)).symm, HB.out⟩
  · obtain rfl := yes_beq hz
    go_enter Tryz.func61, Tryz.ntmps61
    go_wp2_with fail
    go_ret
    exact ⟨rfl, Below.refl _ _⟩

/-! Checks. -/
def ckT (c : Nat → Int) : Nat → List UInt8
  | 0 => []
  | k + 1 => ckT c k ++ (43 :: digL (c k).toNat)
theorem ckT_len (c : Nat → Int) : ∀ k, (ckT c k).length ≤ 21 * k
  | 0 => Nat.le_refl _
  | k + 1 => by have h := ckT_len c k; have g := digL_len (c k).toNat; rw [ckT, List.length_append, List.length_cons]; omega
theorem size29 : (Tryz.prog.info? 29).map (·.size) = some 2 := by kernel_rfl
set_option maxRecDepth 100000 in
set_option maxHeartbeats 1000000 in
theorem checksText_any (c : Nat → Int) (w : World) (hc : ∀ k, k < 2 → 0 ≤ c k ∧ c k ≤ 99) : Calls Tryz.prog 62 #[.agg (arrA 2 .u8 c)] w (StL (bz (ckT c 2)) w) := by
  have HC := Lib.hid hc
  clear hc
  go_enter Tryz.func62, Tryz.ntmps62
  go_wp2_with (first
    | (refine blk_box rfl 29 _ rfl (arrA 2 .u8 c) rfl ?_; intro b1 w1 N R; have HN := Lib.hid N.below; have HR := Lib.hid R; clear N R)
    | (refine arr_load rfl 29 _ rfl b1 rfl 2 .u8 c HR.out _ Tryz.underlying29 rfl size29 ?_))
  go_loopw [3, 7] (fun t i wr => ∃ k : Nat, k ≤ 2 ∧ i = .int .i64 (k : Int) ∧ t = .string (bz (ckT c k)) ∧ Below w.heap.size w wr) (fun _ i _ => 2 - (intOf i).toNat)
  case atStart => exact ⟨0, by omega, rfl, rfl, HN.out⟩
  case round =>
    obtain ⟨k, hk, rfl, rfl, hb⟩ := hrel
    have HB := Lib.hid hb
    clear hb
    by_cases hk2 : k < 2
    · have lk : (k : Int) < 2 := by omega
      have k0 : (0 : Int) ≤ (k : Int) := by omega
      have HK := Lib.hid hk2
      obtain ⟨x, hx⟩ : ∃ x : Nat, c k = (x : Int) := ⟨(c k).toNat, (Int.toNat_of_nonneg (HC.out k hk2).1).symm⟩
      have HX := Lib.hid hx
      have x99 : (x : Int) ≤ 99 := by have := (HC.out k hk2).2; omega
      have x0 : (0 : Int) ≤ (x : Int) := by omega
      obtain ⟨t, ht⟩ : ∃ t, bz (ckT c k) = t := ⟨_, rfl⟩
      obtain ⟨d, hd⟩ : ∃ d, bz (digL x) = d := ⟨_, rfl⟩
      have htz : t.size ≤ 100 := by rw [← ht, bz_size]; have := ckT_len c k; omega
      have hdz : d.size ≤ 20 := by rw [← hd, bz_size]; exact digL_len x
      have HS := Lib.hid (show bz (ckT c (k + 1)) = t ++ (⟨#[43]⟩ ++ d) by rw [ckT, ← bz_app, ht, hx, Int.toNat_natCast, show (43 :: digL x : List UInt8) = [43] ++ digL x from rfl, ← bz_app, hd]; rfl)
      have HI := Lib.hid (fun W => show Calls Tryz.prog 63 #[.int .i64 (x : Int)] W (StS d W) from hd ▸ itoaS_any x W (by omega))
      have k1 := cat_ok (a := ⟨#[43]⟩) (b := d) (by decide) (by omega)
      have k2 := cat_ok (a := t) (b := ⟨#[43]⟩ ++ d) (by omega) (by rw [ByteArray.size_append]; show 1 + d.size ≤ _; omega)
      rw [ht]
      clear ht hd hx htz hdz hk2 hk
      go_wp2_with (first
        | (refine arr_index rfl 29 5 _ _ rfl 2 .u8 _ rfl k rfl HK.out Tryz.underlying29 Tryz.underlying5 size5 ?_; dsimp only; rw [HX.out])
        | (go_at_call 63; refine (HI.out _).mono ?_; rintro e' w' ⟨rfl, rfl⟩))
      go_roundw
      case rel => exact ⟨k + 1, by have := HK.out; omega, by go_num, by rw [HS.out], HB.out⟩
      case measure => simp [intOf]; have := HK.out; omega
    · obtain rfl : k = 2 := by omega
      go_wp2_with fail
      go_ret
      exact ⟨rfl, HB.out⟩

/-! Rooks. -/
def coF (d : Nat) : Int := bif d == 0 then 7 else 0
def coL (d : Nat) : UInt8 := bif d == 0 then 107 else 113
def cornL (d : Nat) : List Value := [.int .i64 (coF d), .string (bz [coL d])]
def TabCorn (w : World) : Prop := ∀ d, d < 2 → w.rangeAt 0 (d * 2) (cornL d)
theorem TabCorn.on {w w' : World} (h : TabCorn w) (hb : Below w.heap.size w w') : TabCorn w' := fun d hd => range_on (h d hd) hb
theorem sizeCo : (Tryz.prog.info? 133).map (·.size) = some 2 := by kernel_rfl
theorem zeroCo : (Tryz.prog.info? 133).map (fun i => (i.zero, i.size)) = some (some (.agg #[.int .i64 0, .string ⟨#[]⟩]), 2) := by kernel_rfl
theorem corn_one (d : Nat) : (cornL d).toArray.all (·.oneCell') = true := by simp [cornL, Value.oneCell']
/-- The letter in lower case. -/
def loF (d : Nat) (f : Nat) : UInt8 := bif (f : Int) == coF d then coL d else byZ (97 + (f : Int))
theorem lo_rk : ∀ (d : Fin 2) (f : Fin 8), [loF d.val f.val] = [byZ (rkF 1 d.val (f.val : Int))] ∧ Lib.toUpperA [loF d.val f.val] = [byZ (rkF 0 d.val (f.val : Int))] ∧ (loF d.val f.val).toNat < 128 := by decide +kernel
theorem cut_text (f : Nat) (w : World) (h : f < 8) : (Instr.slice 9 (.string (textZ (f : Int))) none (some (.int .i64 1)) none).run Tryz.prog w = .ok (.string (bz [byZ (97 + (f : Int))])) w := by
  have hs : (textZ (f : Int)).size = 2 := by rw [textZ_yes (sqB_true.2 ⟨by omega, by omega⟩)]; rfl
  have hx : (textZ (f : Int)).extract 0 1 = bz [byZ (97 + (f : Int))] := by
    have key : ∀ f : Fin 8, (textZ (f.val : Int)).extract 0 1 = bz [byZ (97 + (f.val : Int))] := by decide +kernel
    exact key ⟨f, h⟩
  rw [run_slice_string_h w 9 _ Tryz.underlying9 .i64 1 (by decide) (by rw [hs]; decide), show (1 : Int).toNat = 1 from rfl, hx]
theorem text_same {f : Nat} (h : f < 8) (w : World) : Calls Tryz.prog 99 #[.int .i64 (f : Int)] w (StL (textZ (f : Int)) w) := text_any (f : Int) w
set_option maxRecDepth 100000 in
set_option maxHeartbeats 1000000 in
theorem rookLetter_any (c : Int) (d f : Nat) (w : World) (hc : c = 0 ∨ c = 1) (hd : d < 2) (hf : f < 8) (hT : TabCorn w) : Calls Tryz.prog 98 #[.int .u8 c, .int .i64 (d : Int), .int .i64 (f : Int)] w (StL (bz [byZ (rkF c.toNat d (f : Int))]) w) := by
  have HT := Lib.hid hT
  have HD := Lib.hid hd
  have HF := Lib.hid hf
  have d0 : (0 : Int) ≤ (d : Int) := by omega
  have d2 : (d : Int) < 2 := by omega
  have hlo : loF d f = (bif (f : Int) == coF d then coL d else byZ (97 + (f : Int))) := rfl
  have hall := lo_rk ⟨d, hd⟩ ⟨f, hf⟩
  dsimp only at hall
  obtain ⟨l, hl⟩ : ∃ l, loF d f = l := ⟨_, rfl⟩
  rw [hl] at hall hlo
  obtain ⟨h1, h2, h3⟩ := hall
  have HU := Lib.hid (fun W => show Calls Tryz.prog 134 #[.string (bz [l])] W (StL (bz [byZ (rkF 0 d (f : Int))]) W) from h2 ▸ upper_any [l] W (show (1 : Nat) ≤ 10 by decide) (fun b hb => by rw [List.mem_singleton] at hb; subst hb; exact h3))
  have H1 := Lib.hid h1
  obtain ⟨cf, hcf⟩ : ∃ cf, coF d = cf := ⟨_, rfl⟩
  obtain ⟨cl, hcl⟩ : ∃ cl, coL d = cl := ⟨_, rfl⟩
  have HCs := Lib.hid (show cornL d = [.int .i64 cf, .string (bz [cl])] by unfold cornL; rw [hcf, hcl])
  have hcut := fun w => cut_text f w hf
  obtain ⟨y, hy⟩ : ∃ y, byZ (97 + (f : Int)) = y := ⟨_, rfl⟩
  obtain ⟨tt, htt⟩ : ∃ tt, textZ (f : Int) = tt := ⟨_, rfl⟩
  have HTx := Lib.hid (fun W => show Calls Tryz.prog 99 #[.int .i64 (f : Int)] W (StL tt W) from htt ▸ text_same hf W)
  rw [hy, htt] at hcut
  rw [hcf, hcl, hy] at hlo
  clear h1 h2 h3 hl hcf hcl hy htt hT hd hf
  rcases hc with rfl | rfl
  · cases hz : ((f : Int) == cf)
    · rw [hz] at hlo
      dsimp only [cond_true, cond_false] at hlo
      subst hlo
      go_enter Tryz.func98, Tryz.ntmps98
      go_wp2_with (first
        | (go_at_call 99; refine (HTx.out _).mono ?_; rintro e' w1 ⟨rfl, hb9⟩; have HB := Lib.hid hb9; clear hb9)
        | (refine step_range rfl 133 _ rfl 0 (d * 2) rfl (cornL d) (range_on (HT.out d HD.out) HB.out) _ Tryz.underlying133 rfl sizeCo ?_)
        | (refine blk_alloc rfl 133 rfl #[.int .i64 0, .string ⟨#[]⟩] zeroCo ?_; intro b1 w2 N R; have HG := Lib.hid (Nat.le_trans HB.out.size (Nat.le_of_eq N.at_.symm)); have HR := Lib.hid R; have HB := Lib.hid (below_on HB.out N.below); clear N R)
        | (refine blk_store rfl 133 _ _ rfl b1 rfl _ (cornL d).toArray rfl HR.out rfl (corn_one _) sizeCo ?_; intro w3 U R; have HR := Lib.hid R; have HB := Lib.hid (HB.out.trans (U.below HG.out)); have k0 := R.cell 0; have k1 := R.cell 1; rw [HCs.out] at k0 k1; simp at k0 k1; clear U R)
        | (go_at_call 134; refine (HU.out _).mono ?_; rintro e' w4 ⟨rfl, hb9⟩; have HB := Lib.hid (below_on HB.out hb9); clear hb9 k0 k1))
      go_ret
      exact ⟨rfl, HB.out⟩
    · rw [hz] at hlo
      dsimp only [cond_true, cond_false] at hlo
      subst hlo
      go_enter Tryz.func98, Tryz.ntmps98
      go_wp2_with (first
        | (go_at_call 99; refine (HTx.out _).mono ?_; rintro e' w1 ⟨rfl, hb9⟩; have HB := Lib.hid hb9; clear hb9)
        | (refine step_range rfl 133 _ rfl 0 (d * 2) rfl (cornL d) (range_on (HT.out d HD.out) HB.out) _ Tryz.underlying133 rfl sizeCo ?_)
        | (refine blk_alloc rfl 133 rfl #[.int .i64 0, .string ⟨#[]⟩] zeroCo ?_; intro b1 w2 N R; have HG := Lib.hid (Nat.le_trans HB.out.size (Nat.le_of_eq N.at_.symm)); have HR := Lib.hid R; have HB := Lib.hid (below_on HB.out N.below); clear N R)
        | (refine blk_store rfl 133 _ _ rfl b1 rfl _ (cornL d).toArray rfl HR.out rfl (corn_one _) sizeCo ?_; intro w3 U R; have HR := Lib.hid R; have HB := Lib.hid (HB.out.trans (U.below HG.out)); have k0 := R.cell 0; have k1 := R.cell 1; rw [HCs.out] at k0 k1; simp at k0 k1; clear U R)
        | (go_at_call 134; refine (HU.out _).mono ?_; rintro e' w4 ⟨rfl, hb9⟩; have HB := Lib.hid (below_on HB.out hb9); clear hb9 k0 k1))
      go_ret
      exact ⟨rfl, HB.out⟩
  · cases hz : ((f : Int) == cf)
    · rw [hz] at hlo
      dsimp only [cond_true, cond_false] at hlo
      subst hlo
      go_enter Tryz.func98, Tryz.ntmps98
      go_wp2_with (first
        | (go_at_call 99; refine (HTx.out _).mono ?_; rintro e' w1 ⟨rfl, hb9⟩; have HB := Lib.hid hb9; clear hb9)
        | (refine step_range rfl 133 _ rfl 0 (d * 2) rfl (cornL d) (range_on (HT.out d HD.out) HB.out) _ Tryz.underlying133 rfl sizeCo ?_)
        | (refine blk_alloc rfl 133 rfl #[.int .i64 0, .string ⟨#[]⟩] zeroCo ?_; intro b1 w2 N R; have HG := Lib.hid (Nat.le_trans HB.out.size (Nat.le_of_eq N.at_.symm)); have HR := Lib.hid R; have HB := Lib.hid (below_on HB.out N.below); clear N R)
        | (refine blk_store rfl 133 _ _ rfl b1 rfl _ (cornL d).toArray rfl HR.out rfl (corn_one _) sizeCo ?_; intro w3 U R; have HR := Lib.hid R; have HB := Lib.hid (HB.out.trans (U.below HG.out)); have k0 := R.cell 0; have k1 := R.cell 1; rw [HCs.out] at k0 k1; simp at k0 k1; clear U R)
        | (go_at_call 134; refine (HU.out _).mono ?_; rintro e' w4 ⟨rfl, hb9⟩; have HB := Lib.hid (below_on HB.out hb9); clear hb9 k0 k1))
      go_ret
      exact ⟨by show _ = Ending.returned (.string (bz [byZ (rkF 1 d (f : Int))])); rw [← H1.out]; rfl, HB.out⟩
    · rw [hz] at hlo
      dsimp only [cond_true, cond_false] at hlo
      subst hlo
      go_enter Tryz.func98, Tryz.ntmps98
      go_wp2_with (first
        | (go_at_call 99; refine (HTx.out _).mono ?_; rintro e' w1 ⟨rfl, hb9⟩; have HB := Lib.hid hb9; clear hb9)
        | (refine step_range rfl 133 _ rfl 0 (d * 2) rfl (cornL d) (range_on (HT.out d HD.out) HB.out) _ Tryz.underlying133 rfl sizeCo ?_)
        | (refine blk_alloc rfl 133 rfl #[.int .i64 0, .string ⟨#[]⟩] zeroCo ?_; intro b1 w2 N R; have HG := Lib.hid (Nat.le_trans HB.out.size (Nat.le_of_eq N.at_.symm)); have HR := Lib.hid R; have HB := Lib.hid (below_on HB.out N.below); clear N R)
        | (refine blk_store rfl 133 _ _ rfl b1 rfl _ (cornL d).toArray rfl HR.out rfl (corn_one _) sizeCo ?_; intro w3 U R; have HR := Lib.hid R; have HB := Lib.hid (HB.out.trans (U.below HG.out)); have k0 := R.cell 0; have k1 := R.cell 1; rw [HCs.out] at k0 k1; simp at k0 k1; clear U R)
        | (go_at_call 134; refine (HU.out _).mono ?_; rintro e' w4 ⟨rfl, hb9⟩; have HB := Lib.hid (below_on HB.out hb9); clear hb9 k0 k1))
      go_ret
      exact ⟨by show _ = Ending.returned (.string (bz [byZ (rkF 1 d (f : Int))])); rw [← H1.out]; rfl, HB.out⟩
end Go.Proofs.YtokojkgfekbjdaaGreatDoor
