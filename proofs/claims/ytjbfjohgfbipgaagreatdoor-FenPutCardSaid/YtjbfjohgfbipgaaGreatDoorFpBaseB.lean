/-
  Several texts in one: FpRooks, PosEq, FpLaid, FpList, FpBoard, FpRooksT, FpCanD, FpCanE, FpPock.
-/
import Derived.Test.YtjbfjohgfbipgaaGreatDoorFpBaseA
import Derived.Test.YtjbfjohgfbipgaaGreatDoorFnPrint
import Derived.Test.YtjbfjohgfbipgaaGreatDoorFnBaseA
import Derived.DeepKeys
import Derived.Test.YtjbfjohgfbipgaaGreatDoorRows
import Derived.Lay
import Derived.LaidMore
import Derived.Test.YtjbfjohgfbipgaaGreatDoorFnBaseC
import Derived.DeepKeys2
/-
  Contracts of the program's passingText, checksText, rookLetter, rooksText (layer 10).
-/
namespace Go.Proofs.YtjbfjohgfbipgaaGreatDoor
open Go.RowKit
set_option linter.unusedVariables false
set_option linter.unusedSimpArgs false

theorem passingText_any (s : Int) (w : World) (h0 : -1 ≤ s) (h1 : s ≤ 63) : Calls Tryz.prog 37 #[.int .i8 s] w (StL (bz (bif s == -1 then [45] else sqL s)) w) := by
  cases hz : (s == -1)
  · have hs0 : 0 ≤ s := by have := no_beq hz; omega
    clear h0
    go_enter Tryz.func37, Tryz.ntmps37
    go_wp2_with (go_at_call 69; refine (text_any _ _).mono ?_; rintro e' w' ⟨rfl, hb9⟩; have HB := Lib.hid hb9; clear hb9)
    go_ret
    exact ⟨congrArg (fun t => Ending.returned (.string t)) (bz_of (textZ s)).symm, HB.out⟩
  · obtain rfl := yes_beq hz
    go_enter Tryz.func37, Tryz.ntmps37
    go_wp2_with fail
    go_ret
    exact ⟨rfl, Below.refl _ _⟩

/-! Checks. -/
def ckT (c : Nat → Int) : Nat → List UInt8
  | 0 => []
  | k + 1 => ckT c k ++ (43 :: digL (c k).toNat)
theorem ckT_len (c : Nat → Int) : ∀ k, (ckT c k).length ≤ 21 * k
  | 0 => Nat.le_refl _
  | k + 1 => by have h := ckT_len c k; have g := digL_len (c k).toNat; rw [ckT, List.length_append, List.length_cons]; omega
theorem size29 : (Tryz.prog.info? 29).map (·.size) = some 2 := by kernel_rfl
set_option maxRecDepth 100000 in
set_option maxHeartbeats 1000000 in
theorem checksText_any (c : Nat → Int) (w : World) (hc : ∀ k, k < 2 → 0 ≤ c k ∧ c k ≤ 99) : Calls Tryz.prog 38 #[.agg (arrA 2 .u8 c)] w (StL (bz (ckT c 2)) w) := by
  have HC := Lib.hid hc
  clear hc
  go_enter Tryz.func38, Tryz.ntmps38
  go_wp2_with (first
    | (refine blk_box rfl 29 _ rfl (arrA 2 .u8 c) rfl ?_; intro b1 w1 N R; have HN := Lib.hid N.below; have HR := Lib.hid R; clear N R)
    | (refine arr_load rfl 29 _ rfl b1 rfl 2 .u8 c HR.out _ Tryz.underlying29 rfl size29 ?_))
  go_loopw [3, 7] (fun t i wr => ∃ k : Nat, k ≤ 2 ∧ i = .int .i64 (k : Int) ∧ t = .string (bz (ckT c k)) ∧ Below w.heap.size w wr) (fun _ i _ => 2 - (intOf i).toNat)
  case atStart => exact ⟨0, by omega, rfl, rfl, HN.out⟩
  case round =>
    obtain ⟨k, hk, rfl, rfl, hb⟩ := hrel
    have HB := Lib.hid hb
    clear hb
    by_cases hk2 : k < 2
    · have lk : (k : Int) < 2 := by omega
      have k0 : (0 : Int) ≤ (k : Int) := by omega
      have HK := Lib.hid hk2
      obtain ⟨x, hx⟩ : ∃ x : Nat, c k = (x : Int) := ⟨(c k).toNat, (Int.toNat_of_nonneg (HC.out k hk2).1).symm⟩
      have HX := Lib.hid hx
      have x99 : (x : Int) ≤ 99 := by have := (HC.out k hk2).2; omega
      have x0 : (0 : Int) ≤ (x : Int) := by omega
      obtain ⟨t, ht⟩ : ∃ t, bz (ckT c k) = t := ⟨_, rfl⟩
      obtain ⟨d, hd⟩ : ∃ d, bz (digL x) = d := ⟨_, rfl⟩
      have htz : t.size ≤ 100 := by rw [← ht, bz_size]; have := ckT_len c k; omega
      have hdz : d.size ≤ 20 := by rw [← hd, bz_size]; exact digL_len x
      have HS := Lib.hid (show bz (ckT c (k + 1)) = t ++ (⟨#[43]⟩ ++ d) by rw [ckT, ← bz_app, ht, hx, Int.toNat_natCast, show (43 :: digL x : List UInt8) = [43] ++ digL x from rfl, ← bz_app, hd]; rfl)
      have HI := Lib.hid (fun W => show Calls Tryz.prog 39 #[.int .i64 (x : Int)] W (StS d W) from hd ▸ itoaS_any x W (by omega))
      have k1 := cat_ok (a := ⟨#[43]⟩) (b := d) (by decide) (by omega)
      have k2 := cat_ok (a := t) (b := ⟨#[43]⟩ ++ d) (by omega) (by rw [ByteArray.size_append]; show 1 + d.size ≤ _; omega)
      rw [ht]
      clear ht hd hx htz hdz hk2 hk
      go_wp2_with (first
        | (refine arr_index rfl 29 5 _ _ rfl 2 .u8 _ rfl k rfl HK.out Tryz.underlying29 Tryz.underlying5 size5 ?_; dsimp only; rw [HX.out])
        | (go_at_call 39; refine (HI.out _).mono ?_; rintro e' w' ⟨rfl, rfl⟩))
      go_roundw
      case rel => exact ⟨k + 1, by have := HK.out; omega, by go_num, by rw [HS.out], HB.out⟩
      case measure => simp [intOf]; have := HK.out; omega
    · obtain rfl : k = 2 := by omega
      go_wp2_with fail
      go_ret
      exact ⟨rfl, HB.out⟩

/-! Rooks. -/
def coF (d : Nat) : Int := bif d == 0 then 7 else 0
def coL (d : Nat) : UInt8 := bif d == 0 then 107 else 113
def cornL (d : Nat) : List Value := [.int .i64 (coF d), .string (bz [coL d])]
def TabCorn (w : World) : Prop := ∀ d, d < 2 → w.rangeAt 0 (d * 2) (cornL d)
theorem TabCorn.on {w w' : World} (h : TabCorn w) (hb : Below w.heap.size w w') : TabCorn w' := fun d hd => range_on (h d hd) hb
theorem sizeCo : (Tryz.prog.info? 118).map (·.size) = some 2 := by kernel_rfl
theorem zeroCo : (Tryz.prog.info? 118).map (fun i => (i.zero, i.size)) = some (some (.agg #[.int .i64 0, .string ⟨#[]⟩]), 2) := by kernel_rfl
theorem corn_one (d : Nat) : (cornL d).toArray.all (·.oneCell') = true := by simp [cornL, Value.oneCell']
/-- The letter in lower case. -/
def loF (d : Nat) (f : Nat) : UInt8 := bif (f : Int) == coF d then coL d else byZ (97 + (f : Int))
theorem lo_rk : ∀ (d : Fin 2) (f : Fin 8), [loF d.val f.val] = [byZ (rkF 1 d.val (f.val : Int))] ∧ Lib.toUpperA [loF d.val f.val] = [byZ (rkF 0 d.val (f.val : Int))] ∧ (loF d.val f.val).toNat < 128 := by decide +kernel
theorem cut_text (f : Nat) (w : World) (h : f < 8) : (Instr.slice 9 (.string (textZ (f : Int))) none (some (.int .i64 1)) none).run Tryz.prog w = .ok (.string (bz [byZ (97 + (f : Int))])) w := by
  have hs : (textZ (f : Int)).size = 2 := by rw [textZ_yes (sqB_true.2 ⟨by omega, by omega⟩)]; rfl
  have hx : (textZ (f : Int)).extract 0 1 = bz [byZ (97 + (f : Int))] := by
    have key : ∀ f : Fin 8, (textZ (f.val : Int)).extract 0 1 = bz [byZ (97 + (f.val : Int))] := by decide +kernel
    exact key ⟨f, h⟩
  rw [run_slice_string_h w 9 _ Tryz.underlying9 .i64 1 (by decide) (by rw [hs]; decide), show (1 : Int).toNat = 1 from rfl, hx]
theorem text_same {f : Nat} (h : f < 8) (w : World) : Calls Tryz.prog 69 #[.int .i64 (f : Int)] w (StL (textZ (f : Int)) w) := text_any (f : Int) w
set_option maxRecDepth 100000 in
set_option maxHeartbeats 1000000 in
theorem rookLetter_any (c : Int) (d f : Nat) (w : World) (hc : c = 0 ∨ c = 1) (hd : d < 2) (hf : f < 8) (hT : TabCorn w) : Calls Tryz.prog 68 #[.int .u8 c, .int .i64 (d : Int), .int .i64 (f : Int)] w (StL (bz [byZ (rkF c.toNat d (f : Int))]) w) := by
  have HT := Lib.hid hT
  have HD := Lib.hid hd
  have HF := Lib.hid hf
  have d0 : (0 : Int) ≤ (d : Int) := by omega
  have d2 : (d : Int) < 2 := by omega
  have hlo : loF d f = (bif (f : Int) == coF d then coL d else byZ (97 + (f : Int))) := rfl
  have hall := lo_rk ⟨d, hd⟩ ⟨f, hf⟩
  dsimp only at hall
  obtain ⟨l, hl⟩ : ∃ l, loF d f = l := ⟨_, rfl⟩
  rw [hl] at hall hlo
  obtain ⟨h1, h2, h3⟩ := hall
  have HU := Lib.hid (fun W => show Calls Tryz.prog 101 #[.string (bz [l])] W (StL (bz [byZ (rkF 0 d (f : Int))]) W) from h2 ▸ upper_any [l] W (show (1 : Nat) ≤ 10 by decide) (fun b hb => by rw [List.mem_singleton] at hb; subst hb; exact h3))
  have H1 := Lib.hid h1
  obtain ⟨cf, hcf⟩ : ∃ cf, coF d = cf := ⟨_, rfl⟩
  obtain ⟨cl, hcl⟩ : ∃ cl, coL d = cl := ⟨_, rfl⟩
  have HCs := Lib.hid (show cornL d = [.int .i64 cf, .string (bz [cl])] by unfold cornL; rw [hcf, hcl])
  have hcut := fun w => cut_text f w hf
  obtain ⟨y, hy⟩ : ∃ y, byZ (97 + (f : Int)) = y := ⟨_, rfl⟩
  obtain ⟨tt, htt⟩ : ∃ tt, textZ (f : Int) = tt := ⟨_, rfl⟩
  have HTx := Lib.hid (fun W => show Calls Tryz.prog 69 #[.int .i64 (f : Int)] W (StL tt W) from htt ▸ text_same hf W)
  rw [hy, htt] at hcut
  rw [hcf, hcl, hy] at hlo
  clear h1 h2 h3 hl hcf hcl hy htt hT hd hf
  rcases hc with rfl | rfl
  · cases hz : ((f : Int) == cf)
    · rw [hz] at hlo
      dsimp only [cond_true, cond_false] at hlo
      subst hlo
      go_enter Tryz.func68, Tryz.ntmps68
      go_wp2_with (first
        | (go_at_call 69; refine (HTx.out _).mono ?_; rintro e' w1 ⟨rfl, hb9⟩; have HB := Lib.hid hb9; clear hb9)
        | (refine step_range rfl 118 _ rfl 0 (d * 2) rfl (cornL d) (range_on (HT.out d HD.out) HB.out) _ Tryz.underlying118 rfl sizeCo ?_)
        | (refine blk_alloc rfl 118 rfl #[.int .i64 0, .string ⟨#[]⟩] zeroCo ?_; intro b1 w2 N R; have HG := Lib.hid (Nat.le_trans HB.out.size (Nat.le_of_eq N.at_.symm)); have HR := Lib.hid R; have HB := Lib.hid (below_on HB.out N.below); clear N R)
        | (refine blk_store rfl 118 _ _ rfl b1 rfl _ (cornL d).toArray rfl HR.out rfl (corn_one _) sizeCo ?_; intro w3 U R; have HR := Lib.hid R; have HB := Lib.hid (HB.out.trans (U.below HG.out)); have k0 := R.cell 0; have k1 := R.cell 1; rw [HCs.out] at k0 k1; simp at k0 k1; clear U R)
        | (go_at_call 101; refine (HU.out _).mono ?_; rintro e' w4 ⟨rfl, hb9⟩; have HB := Lib.hid (below_on HB.out hb9); clear hb9 k0 k1))
      go_ret
      exact ⟨rfl, HB.out⟩
    · rw [hz] at hlo
      dsimp only [cond_true, cond_false] at hlo
      subst hlo
      go_enter Tryz.func68, Tryz.ntmps68
      go_wp2_with (first
        | (go_at_call 69; refine (HTx.out _).mono ?_; rintro e' w1 ⟨rfl, hb9⟩; have HB := Lib.hid hb9; clear hb9)
        | (refine step_range rfl 118 _ rfl 0 (d * 2) rfl (cornL d) (range_on (HT.out d HD.out) HB.out) _ Tryz.underlying118 rfl sizeCo ?_)
        | (refine blk_alloc rfl 118 rfl #[.int .i64 0, .string ⟨#[]⟩] zeroCo ?_; intro b1 w2 N R; have HG := Lib.hid (Nat.le_trans HB.out.size (Nat.le_of_eq N.at_.symm)); have HR := Lib.hid R; have HB := Lib.hid (below_on HB.out N.below); clear N R)
        | (refine blk_store rfl 118 _ _ rfl b1 rfl _ (cornL d).toArray rfl HR.out rfl (corn_one _) sizeCo ?_; intro w3 U R; have HR := Lib.hid R; have HB := Lib.hid (HB.out.trans (U.below HG.out)); have k0 := R.cell 0; have k1 := R.cell 1; rw [HCs.out] at k0 k1; simp at k0 k1; clear U R)
        | (go_at_call 101; refine (HU.out _).mono ?_; rintro e' w4 ⟨rfl, hb9⟩; have HB := Lib.hid (below_on HB.out hb9); clear hb9 k0 k1))
      go_ret
      exact ⟨rfl, HB.out⟩
  · cases hz : ((f : Int) == cf)
    · rw [hz] at hlo
      dsimp only [cond_true, cond_false] at hlo
      subst hlo
      go_enter Tryz.func68, Tryz.ntmps68
      go_wp2_with (first
        | (go_at_call 69; refine (HTx.out _).mono ?_; rintro e' w1 ⟨rfl, hb9⟩; have HB := Lib.hid hb9; clear hb9)
        | (refine step_range rfl 118 _ rfl 0 (d * 2) rfl (cornL d) (range_on (HT.out d HD.out) HB.out) _ Tryz.underlying118 rfl sizeCo ?_)
        | (refine blk_alloc rfl 118 rfl #[.int .i64 0, .string ⟨#[]⟩] zeroCo ?_; intro b1 w2 N R; have HG := Lib.hid (Nat.le_trans HB.out.size (Nat.le_of_eq N.at_.symm)); have HR := Lib.hid R; have HB := Lib.hid (below_on HB.out N.below); clear N R)
        | (refine blk_store rfl 118 _ _ rfl b1 rfl _ (cornL d).toArray rfl HR.out rfl (corn_one _) sizeCo ?_; intro w3 U R; have HR := Lib.hid R; have HB := Lib.hid (HB.out.trans (U.below HG.out)); have k0 := R.cell 0; have k1 := R.cell 1; rw [HCs.out] at k0 k1; simp at k0 k1; clear U R)
        | (go_at_call 101; refine (HU.out _).mono ?_; rintro e' w4 ⟨rfl, hb9⟩; have HB := Lib.hid (below_on HB.out hb9); clear hb9 k0 k1))
      go_ret
      exact ⟨by show _ = Ending.returned (.string (bz [byZ (rkF 1 d (f : Int))])); rw [← H1.out]; rfl, HB.out⟩
    · rw [hz] at hlo
      dsimp only [cond_true, cond_false] at hlo
      subst hlo
      go_enter Tryz.func68, Tryz.ntmps68
      go_wp2_with (first
        | (go_at_call 69; refine (HTx.out _).mono ?_; rintro e' w1 ⟨rfl, hb9⟩; have HB := Lib.hid hb9; clear hb9)
        | (refine step_range rfl 118 _ rfl 0 (d * 2) rfl (cornL d) (range_on (HT.out d HD.out) HB.out) _ Tryz.underlying118 rfl sizeCo ?_)
        | (refine blk_alloc rfl 118 rfl #[.int .i64 0, .string ⟨#[]⟩] zeroCo ?_; intro b1 w2 N R; have HG := Lib.hid (Nat.le_trans HB.out.size (Nat.le_of_eq N.at_.symm)); have HR := Lib.hid R; have HB := Lib.hid (below_on HB.out N.below); clear N R)
        | (refine blk_store rfl 118 _ _ rfl b1 rfl _ (cornL d).toArray rfl HR.out rfl (corn_one _) sizeCo ?_; intro w3 U R; have HR := Lib.hid R; have HB := Lib.hid (HB.out.trans (U.below HG.out)); have k0 := R.cell 0; have k1 := R.cell 1; rw [HCs.out] at k0 k1; simp at k0 k1; clear U R)
        | (go_at_call 101; refine (HU.out _).mono ?_; rintro e' w4 ⟨rfl, hb9⟩; have HB := Lib.hid (below_on HB.out hb9); clear hb9 k0 k1))
      go_ret
      exact ⟨by show _ = Ending.returned (.string (bz [byZ (rkF 1 d (f : Int))])); rw [← H1.out]; rfl, HB.out⟩
end Go.Proofs.YtjbfjohgfbipgaaGreatDoor
/-
  Two positions that are the same compare as such.
-/
namespace Go.Proofs.YtjbfjohgfbipgaaGreatDoor
open Go.RowKit
set_option linter.unusedVariables false
def WfP (p : Nat → Int) : Prop := ∀ i, i < 88 → (Lit.int (kAt i) (p i)).wf = true
theorem mapM_some {α β : Type} (f : α → Option β) : ∀ l : List α, (∀ x ∈ l, (f x).isSome = true) → (l.mapM f).isSome = true
  | [], _ => by simp
  | a :: l, h => by
    obtain ⟨x, hx⟩ := Option.isSome_iff_exists.1 (h a (by simp))
    obtain ⟨y, hy⟩ := Option.isSome_iff_exists.1 (mapM_some f l fun z hz => h z (by simp [hz]))
    rw [List.mapM_cons]
    simp [hx, hy]
theorem partL_sub (p : Nat → Int) (o n k m : Nat) (h : k + m ≤ n) : ((partL p o n).drop k).take m = partL p (o + k) m := by
  apply List.ext_getElem?
  intro i
  by_cases hi : i < m
  · rw [List.getElem?_take_of_lt hi, List.getElem?_drop]
    have e1 : (partL p o n)[k + i]? = some (.int (kAt (o + (k + i))) (p (o + (k + i)))) := by simp [partL, show k + i < n by omega]
    have e2 : (partL p (o + k) m)[i]? = some (.int (kAt (o + k + i)) (p (o + k + i))) := by simp [partL, hi]
    rw [e1, e2, Nat.add_assoc]
  · rw [List.getElem?_eq_none (by rw [List.length_take]; omega), List.getElem?_eq_none (by rw [partL_len]; omega)]
/-- The part of type t from place o on has its letters. -/
def Good (p : Nat → Int) (d : Nat) (t : TypeId) (o : Nat) : Prop := (Tryz.prog.keyLits d t (partL p o (Tryz.prog.cellsOf t))).isSome = true
theorem good_int {p : Nat → Int} {d : Nat} {t : TypeId} {o : Nat} {k : IntKind} (hu : Tryz.prog.underlying t = some (.int k)) (hc : Tryz.prog.cellsOf t = 1) (hk : kAt o = k) (hw : (Lit.int (kAt o) (p o)).wf = true) : Good p (d + 1) t o := by
  unfold Good Program.keyLits
  have e : partL p o 1 = [.int (kAt o) (p o)] := rfl
  rw [hu, hc, e]
  subst hk
  simp [hw]
theorem good_array {p : Nat → Int} {d : Nat} {t e : TypeId} {o n : Nat} (hu : Tryz.prog.underlying t = some (.array n e)) (hc : Tryz.prog.cellsOf t = n * Tryz.prog.cellsOf e) (h : ∀ i, i < n → Good p d e (o + i * Tryz.prog.cellsOf e)) : Good p (d + 1) t o := by
  unfold Good Program.keyLits
  rw [hu]
  simp only [partL_len, if_true, Option.isSome_map]
  refine mapM_some _ _ fun i hi => ?_
  have hi' : i < n := by simpa using hi
  rw [partL_sub]
  · exact h i hi'
  · rw [hc, ← Nat.succ_mul]; exact Nat.mul_le_mul_right _ hi'
theorem good_struct {p : Nat → Int} {d : Nat} {t : TypeId} {fs : Array Field} {o : Nat} (hu : Tryz.prog.underlying t = some (.struct fs)) (hn : fs.all (·.name != "_") = true)
    (h : ∀ f ∈ fs.toList, f.offset + Tryz.prog.cellsOf f.type ≤ Tryz.prog.cellsOf t ∧ Good p d f.type (o + f.offset)) : Good p (d + 1) t o := by
  unfold Good Program.keyLits
  rw [hu]
  simp only [partL_len, hn, and_self, if_true, Option.isSome_map]
  refine mapM_some _ _ fun f hf => ?_
  obtain ⟨h1, h2⟩ := h f hf
  rw [partL_sub _ _ _ _ _ h1]
  exact h2
theorem good31 {p : Nat → Int} (hp : WfP p) : Good p 4 31 0 := by
  have u8 : ∀ d o, o < 88 → kAt o = .u8 → Good p (d + 1) 5 o := fun d o h k => good_int Tryz.underlying5 (by kernel_rfl) k (hp o h)
  have i8 : ∀ d o, o < 88 → kAt o = .i8 → Good p (d + 1) 26 o := fun d o h k => good_int Tryz.underlying26 (by kernel_rfl) k (hp o h)
  have c5 : Tryz.prog.cellsOf 5 = 1 := by kernel_rfl
  have c26 : Tryz.prog.cellsOf 26 = 1 := by kernel_rfl
  have c24 : Tryz.prog.cellsOf 24 = 6 := by kernel_rfl
  have c27 : Tryz.prog.cellsOf 27 = 2 := by kernel_rfl
  have ku : ∀ o, o < 88 → (o < 65 ∨ 66 ≤ o ∧ o < 79 ∨ o = 84 ∨ o = 85) → kAt o = .u8 := fun o h k => by unfold kAt; rw [if_neg (by omega), if_neg (by omega), if_neg (by omega)]
  have ki : ∀ o, 79 ≤ o → o ≤ 83 → kAt o = .i8 := fun o h k => by unfold kAt; rw [if_neg (by omega), if_pos ⟨h, k⟩]
  refine good_struct Tryz.underlying31 (by kernel_rfl) ?_
  intro f hf
  simp only [List.mem_cons, List.not_mem_nil, or_false] at hf
  rcases hf with rfl | rfl | rfl | rfl | rfl | rfl | rfl | rfl | rfl | rfl
  · exact ⟨by decide +kernel, u8 _ _ (by decide) rfl⟩
  · exact ⟨by decide +kernel, good_array Tryz.underlying22 (by kernel_rfl) fun i hi => by rw [c5]; exact u8 _ _ (by simp; omega) (ku _ (by simp; omega) (by simp; omega))⟩
  · exact ⟨by decide +kernel, good_int Tryz.underlying23 (by kernel_rfl) rfl (hp 65 (by decide))⟩
  · exact ⟨by decide +kernel, good_array Tryz.underlying25 (by kernel_rfl) fun i hi => good_array Tryz.underlying24 (by kernel_rfl) fun j hj => by rw [c24, c5]; exact u8 _ _ (by simp; omega) (ku _ (by simp; omega) (by simp; omega))⟩
  · exact ⟨by decide +kernel, u8 _ _ (by decide) rfl⟩
  · exact ⟨by decide +kernel, good_array Tryz.underlying28 (by kernel_rfl) fun i hi => good_array Tryz.underlying27 (by kernel_rfl) fun j hj => by rw [c27, c26]; exact i8 _ _ (by simp; omega) (ki _ (by simp; omega) (by simp; omega))⟩
  · exact ⟨by decide +kernel, i8 _ _ (by decide) rfl⟩
  · exact ⟨by decide +kernel, good_array Tryz.underlying29 (by kernel_rfl) fun i hi => by rw [c5]; exact u8 _ _ (by simp; omega) (ku _ (by simp; omega) (by simp; omega))⟩
  · exact ⟨by decide +kernel, good_int Tryz.underlying3 (by kernel_rfl) rfl (hp 86 (by decide))⟩
  · exact ⟨by decide +kernel, good_int Tryz.underlying3 (by kernel_rfl) rfl (hp 87 (by decide))⟩
theorem key31 : Tryz.prog.keyTypeAt 5 31 = true := by kernel_rfl
theorem formed31 (p : Nat → Int) : (Value.agg (posA p)).formed Tryz.prog 31 = true := by kernel_rfl
theorem equal_same {p : Nat → Int} (hp : WfP p) (w : World) : (Op.equalIn 10000 31 (.agg (posA p)) (.agg (posA p))).run Tryz.prog w = .ok true w := by
  have hg := good31 hp
  unfold Good at hg
  rw [show Tryz.prog.cellsOf 31 = 88 by kernel_rfl, partL_all] at hg
  obtain ⟨la, hl⟩ := Option.isSome_iff_exists.1 hg
  obtain ⟨r, hr, hi⟩ := run_equalIn_deep 9995 5 31 key31 w 4 4 (.agg (posA p)) (.agg (posA p)) la la (formed31 p) (formed31 p) hl hl
  rw [hi.2 rfl] at hr
  exact hr
theorem WfP.zero : WfP zeroP := fun i hi => by
  unfold kAt zeroP
  split
  · rfl
  · split
    · rfl
    · split <;> rfl
end Go.Proofs.YtjbfjohgfbipgaaGreatDoor
/-
  What layer 10's rows list, as our walks ask it; a position's numbers fit.
-/
namespace Go.Proofs.YtjbfjohgfbipgaaGreatDoor
open Go.RowKit
set_option linter.unusedVariables false

theorem tab_internal_strconv_uint64pow10 {W : World} {nm : String} {rest : List (String × DataW Unit)} (h : laidMet Tryz.prog ((nm, Rows.laid_internal_strconv_uint64pow10) :: rest) W) (hn : Tryz.prog.globalNamed nm = some 4) : TabPow W := by
  have h' : laidMet Tryz.prog ((nm, Lib.tabData .u64 Lib.pow10Tab) :: rest) W := h
  have t := Lib.tabIs_of_head (g := 4) hn (by kernel_rfl) Tryz.underlying159 Tryz.underlying23 (by kernel_rfl) (by kernel_rfl) h'
  unfold Lib.TabIs World.var? at t
  rw [hn] at t
  simp only [Option.bind_some] at t
  cases hh : W.heap[4]? with
  | none => rw [hh] at t; cases t
  | some o =>
    rw [hh] at t
    cases o with
    | cells cs ty x => exact ⟨ty, x, by rw [hh]; simp only [Option.some.injEq] at t; rw [t]⟩
    | _ => cases t
theorem tab_kibitzer_fen_corners {W : World} {nm : String} {rest : List (String × DataW Unit)} (h : laidMet Tryz.prog ((nm, Rows.laid_kibitzer_fen_corners) :: rest) W) (hn : Tryz.prog.globalNamed nm = some 0) : TabCorn W := by
  have t := cells_of_laid (g := 0) (t := 119) hn (by kernel_rfl) (by kernel_rfl) (by kernel_rfl) h
  have e : ((Rows.laid_kibitzer_fen_corners (H := Unit)).flat.map Lit.toCell) = ((List.range 2).map cornL).flatten := by kernel_rfl
  rw [e] at t
  intro d hd j x hx
  rw [t]
  exact flat_at cornL 2 (fun _ => rfl) 2 d j x hd hx
theorem ff_wf {k : IntKind} {x : Int} (h : (Lit.int k x).wf = true) : k.min ≤ x ∧ x ≤ k.max := by
  simpa only [Lit.wf, Bool.and_eq_true, decide_eq_true_eq] using h
theorem ff_u8 {o : Nat} {x : Int} (h : (Lit.int (kAt o) x).wf = true) (k : kAt o = .u8) : 0 ≤ x ∧ x ≤ 255 := by rw [k] at h; exact ff_wf h
theorem ff_i8 {o : Nat} {x : Int} (h : (Lit.int (kAt o) x).wf = true) (k : kAt o = .i8) : -128 ≤ x ∧ x ≤ 127 := by rw [k] at h; exact ff_wf h
theorem FitF.of {p : Nat → Int} (h : WfP p) : FitF p := by
  refine ⟨ff_u8 (h 0 (by omega)) rfl, fun i hi => ff_u8 (h (1 + i) (by omega)) (kAt_board (Nat.zero_le _) hi), ?_, fun i h1 h2 => ff_u8 (h i (by omega)) (kf_u8 (by omega)), ff_u8 (h 78 (by omega)) rfl, fun i h1 h2 => ff_i8 (h i (by omega)) (kf_i8 (by omega) (by omega)), ff_i8 (h 83 (by omega)) rfl, fun i h1 h2 => ff_u8 (h i (by omega)) (kf_u8 (by omega))⟩
  have := h 65 (by omega)
  rw [show kAt 65 = .u64 from rfl] at this
  have := ff_wf this
  have a : IntKind.u64.min = 0 := by decide
  have b : IntKind.u64.max = 18446744073709551615 := by decide
  unfold W64; omega
end Go.Proofs.YtjbfjohgfbipgaaGreatDoor
/-
  Lists of texts that a call makes by append.
-/
namespace Go.Proofs.YtjbfjohgfbipgaaGreatDoor
open Go.RowKit
set_option linter.unusedVariables false
theorem infoStr : (Tryz.prog.info? 9).map (fun i => (i.zero, i.size, i.bytes)) = some (some (.string ⟨#[]⟩), 1, 16) := by kernel_rfl
def rowS (ls : List (List UInt8)) : List Value := ls.map fun l => Value.string (bz l)
theorem rowS_snoc (ls : List (List UInt8)) (l : List UInt8) : rowS (ls ++ [l]) = rowS ls ++ [.string (bz l)] := by simp [rowS]
/-- The value is a list of texts of the call's own, made at or beyond block B. -/
def ListedS (e : TypeId) (B : Nat) (ls : List (List UInt8)) (v : Value) (w : World) : Prop := w.ownsRow B e 1 v ls.length (rowS ls)
theorem listedS_nil (e : TypeId) (B : Nat) (w : World) : ListedS e B [] (.slice none 0 0) w := World.ownsRow_nil _ _ _ _
theorem listedS_grow {e : TypeId} {B : Nat} {ls : List (List UInt8)} {v v' : Value} {l : List UInt8} {w wr w1 : World} {o : Obj} (h : ListedS e B ls v wr) (hb : Below B w wr) (hB : B ≤ wr.heap.size)
    (hown' : w1.ownsRow B e 1 v' (ls.length + 1) (rowS ls ++ [.string (bz l)])) (hgrow : (wr.alloc o).grownBy w1 v.ownBlock) :
    ListedS e B (ls ++ [l]) v' w1 ∧ Below B w w1 := by
  refine ⟨?_, (hb.alloc hB o).grown hgrow (by simp; omega) (fun j hj => (h.lt j hj).1)⟩
  unfold ListedS
  rw [rowS_snoc]; simpa using hown'
theorem listedS_below {e : TypeId} {B : Nat} {ls : List (List UInt8)} {v : Value} {w w' : World} (h : ListedS e B ls v w) (hb : Below w.heap.size w w') : ListedS e B ls v w' := by
  refine ⟨h.1, ?_⟩
  rcases h.2 with hn | ⟨g, cap, cur, hv, hB, hg, rest⟩
  · exact .inl hn
  · exact .inr ⟨g, cap, cur, hv, hB, (hb.block g (Array.getElem?_eq_some_iff.1 hg).1).trans hg, rest⟩
theorem listedS_open {e : TypeId} {B : Nat} {ls : List (List UInt8)} {v : Value} {w : World} (h : ListedS e B ls v w) (hl : 0 < ls.length) : ∃ g cap, v = .slice (some ⟨g, 0, none⟩) ls.length cap ∧ g < w.heap.size ∧ ls.length ≤ cap ∧ StrsAt w g ls := by
  rcases h.2 with ⟨_, hn⟩ | ⟨g, cap, cur, hv, hB, hg, h1, h2, h3, h4⟩
  · omega
  · refine ⟨g, cap, hv, (Array.getElem?_eq_some_iff.1 hg).1, h1, fun i l hi => ?_⟩
    have hlt : i < ls.length := (List.getElem?_eq_some_iff.1 hi).1
    have := congrArg (·[i]?) h4
    simp only [Nat.mul_one, List.getElem?_take_of_lt hlt] at this
    rw [cell_of_row w g i _ _ _ hg, show cur[i]? = cur.toList[i]? by simp, this]
    simp [rowS, hi]
end Go.Proofs.YtjbfjohgfbipgaaGreatDoor
/-
  Contract of the program's boardText (layer 10).
-/
namespace Go.Proofs.YtjbfjohgfbipgaaGreatDoor
open Go.RowKit
set_option linter.unusedVariables false
set_option linter.unusedSimpArgs false

/-- The texts of the first j ranks, from the rank 7 down. -/
def rkLs (p : Nat → Int) (j : Nat) : List (List UInt8) := (List.range j).map fun i => rkL p (7 - i)
theorem rkLs_succ (p : Nat → Int) (j : Nat) : rkLs p (j + 1) = rkLs p j ++ [rkL p (7 - j)] := by simp [rkLs, List.range_succ]
theorem rkLs_len (p : Nat → Int) (j : Nat) : (rkLs p j).length = j := by simp [rkLs]
theorem bdL_join (p : Nat → Int) : [(47 : UInt8)].intercalate (rkLs p 8) = bdL p 8 := by
  simp [rkLs, List.range_succ, bdL, List.intercalate, List.intersperse]
set_option maxRecDepth 100000 in
set_option maxHeartbeats 4000000 in
theorem boardText_any (p : Nat → Int) (w : World) (hp : BdR p) (hm : 0 ≤ p 65 ∧ (p 65).toNat < W64) : Calls Tryz.prog 33 #[.agg (posA p)] w (StL (bz (bdL p 8)) w) := by
  have HP := Lib.hid hp
  have HM := Lib.hid hm
  obtain ⟨i0, hi, hz0, hz1, hz2⟩ := info_parts infoStr
  clear hp hm
  go_enter Tryz.func33, Tryz.ntmps33
  go_wp2_with (refine step_box rfl _ rfl p rfl ?_; intro b1 w1 N R; have HN := Lib.hid N.below; have HR := Lib.hid R; clear N R)
  have HI := Lib.hid (show b1 < w1.heap.size from HR.out.lt)
  go_loopw [3, 4] (fun l i wr => ∃ j : Nat, j ≤ 8 ∧ i = .int .i64 (7 - (j : Int)) ∧ ListedS 9 w1.heap.size (rkLs p j) l wr ∧ Below w1.heap.size w1 wr) (fun _ i _ => (intOf i + 1).toNat)
  case atStart => exact ⟨0, by omega, rfl, listedS_nil _ _ _, Below.refl _ _⟩
  case round =>
    obtain ⟨j, hj, rfl, hl, hb⟩ := hrel
    have HL := Lib.hid hl
    have HB := Lib.hid hb
    have HRw := Lib.hid (HR.out.next hb HI.out)
    have hsz := hb.size
    clear hl hb
    by_cases h8 : j < 8
    · obtain ⟨r, hr⟩ : ∃ r : Nat, r = 7 - j := ⟨_, rfl⟩
      have hri : (7 - (j : Int)) = (r : Int) := by omega
      have HJ := Lib.hid h8
      have HRj := Lib.hid hr
      have g0 : decide ((0 : Int) ≤ (r : Int)) = true := decide_eq_true (by omega)
      have r0 : (0 : Int) ≤ (r : Int) := by omega
      have HR8 := Lib.hid (show r < 8 by omega)
      have HWr := Lib.hid (show wrap64 ((r : Int) - 1) = (r : Int) - 1 from IntWalk.wrap64_in _ ⟨by omega, by omega⟩)
      rw [hri]
      clear hri hr h8 hj
      go_wp2_with (first
        | (refine step_load rfl _ rfl b1 rfl p HRw.out ?_)
        | (go_at_call 65; refine (rankText_any p r _ HR8.out HP.out HM.out).mono ?_; rintro e' w' ⟨rfl, hb9⟩; have HB := Lib.hid (HB.out.trans (hb9.mono HB.out.size)); have HL := Lib.hid (listedS_below HL.out hb9); have hsz := HB.out.size; clear hb9 HRw)
        | (at_builtin; refine wpList_append_own _ rfl _ _ 42 rfl w1.heap.size 9 i0 (.string ⟨#[]⟩) 1 16 Tryz.underlying42 hi hz0 hz1 hz2 rfl (by decide) _ _ _ rfl (HL.out.alloc _) ⟨_, 0, none⟩ 1 1 [.string (bz (rkL p r))] rfl rfl ?c1 ?c2 ?c3 ?c4 ?c5 ?_))
      case c1 => exact cell_one_new _ _ _
      case c2 => simp [Value.oneCell']
      case c3 => have := HJ.out; rw [rkLs_len]; unfold maxLen; omega
      case c4 => have := HJ.out; rw [rkLs_len]; omega
      case c5 => simp; omega
      intro v' w2 hown' hgrow _
      have HG := Lib.hid (listedS_grow HL.out HB.out hsz hown' hgrow)
      clear hown' hgrow
      go_wp2
      go_roundw
      case rel => exact ⟨j + 1, by have := HJ.out; omega, by rw [show (7 : Int) - ((j + 1 : Nat) : Int) = (r : Int) - 1 by have := HJ.out; have := HRj.out; omega, HWr.out], by rw [rkLs_succ, ← HRj.out]; exact HG.out.1, HG.out.2⟩
      case measure => simp [intOf, HWr.out]
    · obtain rfl : j = 8 := by omega
      obtain ⟨g, cap, hv, hg, hcap, hcells⟩ := listedS_open HL.out (by rw [rkLs_len]; decide)
      rw [rkLs_len] at hv hcap
      subst hv
      have HJn := Lib.hid (join_any g cap (rkLs p 8) [47] 8 wr (by rw [rkLs_len]) hcells hg (by rw [rkLs_len]; decide) (by rw [rkLs_len]; exact hcap) (by rw [bdL_join]; have := bdL_len p 8; omega))
      clear hcells hg hcap
      go_wp2_with (go_at_call 40; refine HJn.out.mono ?_; rintro e' w' ⟨rfl, hb9⟩; rw [bdL_join]; have HB := Lib.hid (HB.out.trans (hb9.mono HB.out.size)); clear hb9)
      go_ret
      exact ⟨rfl, HN.out.trans (HB.out.mono HN.out.size)⟩
end Go.Proofs.YtjbfjohgfbipgaaGreatDoor
/-
  Contract of the program's rooksText (layer 10).
-/
namespace Go.Proofs.YtjbfjohgfbipgaaGreatDoor
open Go.RowKit
set_option linter.unusedVariables false
set_option linter.unusedSimpArgs false

theorem no_beqn {a b : Int} (h : (a != b) = true) : a ≠ b := by simpa using h
theorem yes_beqn {a b : Int} (h : (a != b) = false) : a = b := by simpa using h
theorem rc_len (p : Nat → Int) (n d : Nat) (hn : n ≤ 2) (hd : d ≤ 2) : (rcL p n ++ rdL p n d).length ≤ 10 := by
  have := rcL_len p n; have := rdL_len p n d; rw [List.length_append]; omega
set_option maxRecDepth 100000 in
set_option maxHeartbeats 4000000 in
theorem rooksText_any (p : Nat → Int) (w : World) (hq : ∀ i, i < 4 → -1 ≤ p (79 + i) ∧ p (79 + i) ≤ 7) (hT : TabCorn w) : Calls Tryz.prog 36 #[.agg (posA p)] w (StL (bz (roT p)) w) := by
  have HQ := Lib.hid hq
  have HT := Lib.hid hT
  clear hq hT
  go_enter Tryz.func36, Tryz.ntmps36
  go_wp2_with (refine step_box rfl _ rfl p rfl ?_; intro b1 w1 N R; have HB := Lib.hid N.below; have HR := Lib.hid R; clear N R)
  have HI := Lib.hid (show b1 < w1.heap.size from HR.out.lt)
  go_loopw [3, 4] (fun t c wr => ∃ n : Nat, n ≤ 2 ∧ c = .int .u8 n ∧ t = .string (bz (rcL p n)) ∧ Below w1.heap.size w1 wr) (fun _ c _ => 2 - (intOf c).toNat)
  case atStart => exact ⟨0, by omega, rfl, rfl, Below.refl _ _⟩
  case round =>
    obtain ⟨n, hn, rfl, rfl, hbel⟩ := hrel
    have HBl := Lib.hid hbel
    have HRw := Lib.hid (HR.out.next hbel HI.out)
    clear hbel
    by_cases hn2 : n < 2
    · have ln : (n : Int) ≤ 1 := by omega
      have ln2 : (n : Int) < 2 := by omega
      have n0 : (0 : Int) ≤ (n : Int) := by omega
      have HN2 := Lib.hid hn2
      have HN01 := Lib.hid (show (n : Int) = 0 ∨ (n : Int) = 1 by omega)
      have HS0 := Lib.hid (show bz (rcL p n) = bz (rcL p n ++ rdL p n 0) by rw [show rdL p n 0 = [] from rfl, List.append_nil])
      clear hn hn2
      go_wp2_with (refine step_part rfl 27 _ rfl b1 (79 + n * 2) 2 .i8 rfl p HRw.out (by have := HN2.out; omega) (kat_rk n HN2.out) _ Tryz.underlying27 rfl size27 ?_)
      go_loopw [3, 15] (fun t i wr2 => ∃ d : Nat, d ≤ 2 ∧ i = .int .i64 d ∧ t = .string (bz (rcL p n ++ rdL p n d)) ∧ Below w1.heap.size w1 wr2) (fun _ i _ => 2 - (intOf i).toNat)
      case atStart => exact ⟨0, by omega, rfl, by rw [HS0.out], HBl.out⟩
      case round =>
        obtain ⟨d, hd, rfl, rfl, hbel2⟩ := hrel
        have HBm := Lib.hid hbel2
        clear hbel2
        by_cases hd2 : d < 2
        · have ld : (d : Int) < 2 := by omega
          have d0 : (0 : Int) ≤ (d : Int) := by omega
          have HD2 := Lib.hid hd2
          obtain ⟨x, hx⟩ : ∃ x, p (79 + n * 2 + d) = x := ⟨_, rfl⟩
          obtain ⟨x0, x1⟩ : -1 ≤ x ∧ x ≤ 7 := by rw [← hx, show 79 + n * 2 + d = 79 + (n * 2 + d) by omega]; exact HQ.out _ (by have := HN2.out; omega)
          have HX := Lib.hid hx
          have hr : rdL p n (d + 1) = rdL p n d ++ rfL n d x := by rw [rdL, hx]
          obtain ⟨t, ht⟩ : ∃ t, bz (rcL p n ++ rdL p n d) = t := ⟨_, rfl⟩
          have htz : t.size ≤ 10 := by rw [← ht, bz_size]; exact rc_len p n d (by have := HN2.out; omega) hd
          clear hx hd hd2
          cases hz : (x != -1)
          · have hxm : x < 0 := by have := yes_beqn hz; omega
            have HSn := Lib.hid (show bz (rcL p n ++ rdL p n (d + 1)) = t by
              rw [hr]; unfold rfL; rw [decide_eq_true hxm]
              show bz (rcL p n ++ (rdL p n d ++ [])) = t
              rw [List.append_nil, ht])
            rw [ht]
            clear hr ht htz hxm
            go_wp2_with (refine arr_index rfl 27 26 _ _ rfl 2 .i8 _ rfl d rfl HD2.out Tryz.underlying27 Tryz.underlying26 size26 ?_; dsimp only; rw [HX.out])
            go_roundw
            case rel => exact ⟨d + 1, by have := HD2.out; omega, by go_num, by rw [HSn.out], HBm.out⟩
            case measure => simp [intOf]; have := HD2.out; omega
          · have hx0 : 0 ≤ x := by have := no_beqn hz; omega
            obtain ⟨f, hf⟩ : ∃ f : Nat, x = (f : Int) := ⟨x.toNat, (Int.toNat_of_nonneg hx0).symm⟩
            subst hf
            have HF := Lib.hid (show f < 8 by omega)
            obtain ⟨l, hl⟩ : ∃ l, bz [byZ (rkF n d (f : Int))] = l := ⟨_, rfl⟩
            have hlz : l.size ≤ 1 := by rw [← hl, bz_size]; exact Nat.le_refl 1
            have HSn := Lib.hid (show bz (rcL p n ++ rdL p n (d + 1)) = t ++ l by
              rw [hr]; unfold rfL; rw [decide_eq_false (show ¬ (f : Int) < 0 by omega)]
              show bz (rcL p n ++ (rdL p n d ++ [byZ (rkF n d (f : Int))])) = t ++ l
              rw [← List.append_assoc, ← bz_app, ht, hl])
            have HL := Lib.hid (show bz [byZ (rkF (n : Int).toNat d (f : Int))] = l by rw [Int.toNat_natCast]; exact hl)
            have k1 := cat_ok (a := t) (b := l) (by omega) (by omega)
            rw [ht]
            clear hr ht htz hl hlz hx0
            go_wp2_with (first
              | (refine arr_index rfl 27 26 _ _ rfl 2 .i8 _ rfl d rfl HD2.out Tryz.underlying27 Tryz.underlying26 size26 ?_; dsimp only; rw [HX.out])
              | (go_at_call 68; refine (rookLetter_any _ d f _ HN01.out HD2.out HF.out (HT.out.on (HB.out.trans (HBm.out.mono HB.out.size)))).mono ?_; rintro e w' ⟨rfl, hb9⟩; have HBm := Lib.hid (below_on HBm.out hb9); clear hb9; rw [HL.out]))
            go_roundw
            case rel => exact ⟨d + 1, by have := HD2.out; omega, by go_num, by rw [HSn.out], HBm.out⟩
            case measure => simp [intOf]; have := HD2.out; omega
        · obtain rfl : d = 2 := by omega
          have HSn := Lib.hid (show rcL p n ++ rdL p n 2 = rcL p (n + 1) from rfl)
          go_wp2_with fail
          go_roundw
          case rel => exact ⟨n + 1, by have := HN2.out; omega, by go_num, by rw [HSn.out], HBm.out⟩
          case measure => simp [intOf]; have := HN2.out; omega
    · obtain rfl : n = 2 := by omega
      cases hrc : rcL p 2 with
      | nil =>
        have HE := Lib.hid (show roT p = [45] by unfold roT; rw [hrc]; rfl)
        have hem : (bz []).toList.isEmpty = true := by rw [bz_toList]; rfl
        go_wp2_with fail
        go_ret
        exact ⟨by rw [HE.out]; rfl, HB.out.trans (HBl.out.mono HB.out.size)⟩
      | cons a l =>
        have HE := Lib.hid (show roT p = a :: l by unfold roT; rw [hrc]; rfl)
        have hem : (bz (a :: l)).toList.isEmpty = false := by rw [bz_toList]; rfl
        go_wp2_with fail
        go_ret
        exact ⟨by rw [HE.out]; rfl, HB.out.trans (HBl.out.mono HB.out.size)⟩
end Go.Proofs.YtjbfjohgfbipgaaGreatDoor
/-
  Contracts of the program's tests of a position that can be written, fourth part (layer 10): checks, pockets, the board.
-/
namespace Go.Proofs.YtjbfjohgfbipgaaGreatDoor
open Go.RowKit
set_option linter.unusedVariables false
set_option linter.unusedSimpArgs false

/-! Checks. -/
def ckAll (p : Nat → Int) : Bool := wrG p 0 && wrG p 1
def mx2 (x y : Int) : Int := if y > x then y else x
theorem run_mxU {P : Program} (w : World) (x y : Int) : (Builtin.max_ #[5, 5] 5 #[.int .u8 x, .int .u8 y]).run P w = .ok (.int .u8 (mx2 x y)) w := by
  simp [Builtin.max_, Builtin.max2, mx2]
theorem ck_eq (p : Nat → Int) (h0 : 0 ≤ p 84) (h1 : 0 ≤ p 85) : ckAll p = decide (mx2 (p 84) (p 85) ≤ (bif p 0 == 5 then 3 else 0)) := by
  unfold ckAll wrG mx2
  rw [show 84 + 0 = 84 from rfl, show 84 + 1 = 85 from rfl]
  rw [Bool.eq_iff_iff]
  cases h5 : (p 0 == 5)
  · have : (p 0 != 5) = true := by rw [bne, h5]; rfl
    rw [this]
    simp only [Bool.and_true, Bool.and_eq_true, Bool.not_eq_true', Bool.or_eq_false_iff, decide_eq_false_iff_not, decide_eq_true_eq, cond_false]
    split <;> omega
  · have : (p 0 != 5) = false := by rw [bne, h5]; rfl
    rw [this]
    simp only [Bool.and_false, Bool.or_false, Bool.and_eq_true, Bool.not_eq_true', decide_eq_false_iff_not, decide_eq_true_eq, cond_true]
    split <;> omega
set_option maxRecDepth 100000 in
set_option maxHeartbeats 1000000 in
theorem checksCan_any (p : Nat → Int) (w : World) (h0 : 0 ≤ p 84) (h1 : 0 ≤ p 85) : Calls Tryz.prog 31 #[.agg (posA p)] w (BoL (ckAll p) w) := by
  have he := ck_eq p h0 h1
  obtain ⟨b, hb⟩ : ∃ b, ckAll p = b := ⟨_, rfl⟩
  rw [hb] at he
  rw [hb]
  obtain ⟨v, hv⟩ : ∃ v, p 0 = v := ⟨_, rfl⟩
  obtain ⟨x, hx⟩ : ∃ x, p 84 = x := ⟨_, rfl⟩
  obtain ⟨y, hy⟩ : ∃ y, p 85 = y := ⟨_, rfl⟩
  rw [hv, hx, hy] at he
  have HCs := Lib.hid (fun (W : World) (b1 : Nat) (h : Row W b1 p) => show W.cell? ⟨b1, 0, none⟩ = some (.int .u8 v) ∧ W.cell? ⟨b1, 84, none⟩ = some (.int .u8 x) ∧ W.cell? ⟨b1, 85, none⟩ = some (.int .u8 y) from
    ⟨by rw [h.cell 0 (by decide), hv]; rfl, by rw [h.cell 84 (by decide), hx]; rfl, by rw [h.cell 85 (by decide), hy]; rfl⟩)
  clear hb hv hx hy h0 h1
  obtain ⟨m, hm⟩ : ∃ m, mx2 x y = m := ⟨_, rfl⟩
  have hmx := fun w => run_mxU (P := Tryz.prog) w x y
  rw [hm] at he hmx
  clear hm
  cases h5 : (v == 5)
  · have HE := Lib.hid (show decide (m ≤ 0) = b by rw [he, h5]; rfl)
    clear he
    go_enter Tryz.func31, Tryz.ntmps31
    go_wp2_with (refine step_box rfl _ rfl p rfl ?_; intro b1 w1 N R; have HB := Lib.hid N.below; obtain ⟨k0, k84, k85⟩ := HCs.out _ _ R; clear N R)
    go_ret
    exact ⟨pc_bool HE.out, HB.out⟩
  · have HE := Lib.hid (show decide (m ≤ 3) = b by rw [he, h5]; rfl)
    clear he
    go_enter Tryz.func31, Tryz.ntmps31
    go_wp2_with (refine step_box rfl _ rfl p rfl ?_; intro b1 w1 N R; have HB := Lib.hid N.below; obtain ⟨k0, k84, k85⟩ := HCs.out _ _ R; clear N R)
    go_ret
    exact ⟨pc_bool HE.out, HB.out⟩

/-! Pockets. -/
def pkAll (p : Nat → Int) : Bool := allB (wrK p 0) 6 && allB (wrK p 1) 6
theorem fpGuard : Tryz.prog.eqGuardType Tryz.prog.depth 25 = false := by kernel_rfl
theorem fpKey : Tryz.prog.keyTypeAt 3 25 = true := by kernel_rfl
theorem fpTiled : Tryz.prog.tiled 5 25 = true := by kernel_rfl
theorem fpSize : (Tryz.prog.info? 25).map (·.size) = some 12 := by kernel_rfl
theorem fpFormed (p : Nat → Int) : (Value.agg (partL p 66 12).toArray).formed Tryz.prog 25 = true := by kernel_rfl
theorem wf_u8 {x : Int} (h : 0 ≤ x ∧ x ≤ 255) : (Lit.int .u8 x).wf = true := by simp only [Lit.wf, decide_eq_true_eq, Bool.and_eq_true]; exact h
theorem fpLits {p : Nat → Int} (h : ∀ i, 66 ≤ i → i < 78 → 0 ≤ p i ∧ p i ≤ 255) : (Tryz.prog.keyLits 3 25 (partL p 66 12)).isSome = true := by
  have g : Good p 3 25 66 :=
    good_array (e := 24) (n := 2) Tryz.underlying25 (by kernel_rfl) fun i hi =>
      good_array (e := 5) (n := 6) Tryz.underlying24 (by kernel_rfl) fun j hj =>
        good_int (k := .u8) Tryz.underlying5 (by kernel_rfl) (kf_u8 (.inr (.inl (by rw [show Tryz.prog.cellsOf 24 = 6 by kernel_rfl, show Tryz.prog.cellsOf 5 = 1 by kernel_rfl]; omega)))) (by
          rw [show Tryz.prog.cellsOf 24 = 6 by kernel_rfl, show Tryz.prog.cellsOf 5 = 1 by kernel_rfl]
          rw [kf_u8 (.inr (.inl (by omega)))]
          exact wf_u8 (h _ (by omega) (by omega)))
  unfold Good at g
  rwa [show Tryz.prog.cellsOf 25 = 12 by kernel_rfl] at g
theorem fp_same {p : Nat → Int} (h : ∀ i, 66 ≤ i → i < 78 → 0 ≤ p i ∧ p i ≤ 255) (w : World) (r : Bool) (hr : r = true ↔ ∀ i, 66 ≤ i → i < 78 → p i = 0) :
    (binOp .eql 25 (.agg (partL p 66 12).toArray) (.agg (partL zeroP 66 12).toArray)).run Tryz.prog w = .ok (.bool r) w := by
  obtain ⟨la, hl⟩ := Option.isSome_iff_exists.1 (fpLits h)
  obtain ⟨lb, kl⟩ := Option.isSome_iff_exists.1 (fpLits (p := zeroP) (fun i _ _ => ⟨Int.le_refl 0, show (0 : Int) ≤ 255 by decide⟩))
  obtain ⟨s, hs, hi⟩ := run_equalIn_deep 9997 3 25 fpKey w 3 3 (.agg (partL p 66 12).toArray) (.agg (partL zeroP 66 12).toArray) la lb (fpFormed p) (fpFormed zeroP) hl kl
  have e : s = r := by
    rw [Bool.eq_iff_iff, hi, hr]
    constructor
    · intro e i h1 h2
      have a := cells_of_lits 5 25 fpTiled _ _ _ hl
      have b := cells_of_lits 5 25 fpTiled _ _ _ kl
      rw [e] at a
      have a := a.trans b.symm
      have c := congrArg (fun l : List Value => l[i - 66]?) a
      have l12 : i - 66 < 12 := by omega
      simp only [partL, List.getElem?_map, List.getElem?_range l12, Option.map_some] at c
      have := (Value.int.inj (Option.some.inj c)).2
      rw [show 66 + (i - 66) = i by omega] at this
      exact this
    · intro e
      have : partL p 66 12 = partL zeroP 66 12 := by
        unfold partL
        apply List.map_congr_left
        intro j hj
        have hj := List.mem_range.1 hj
        rw [e (66 + j) (by omega) (by omega)]; rfl
      rw [this] at hl
      exact Option.some.inj (hl.symm.trans kl)
  rw [run_eql_struct, hs, e]; rfl
theorem step_pk {ops : Array Oper} {rest : List Oper} {op : Oper} {a : Act} {w : World} {Q : Exit → Act → World → Prop} (hw : Region.wanted op (yielded ops a.tmps) = true) (x y : Operand) (ho : op.op = .binOp .eql 25 x y 25) (p : Nat → Int) (hx : a.eval x = .agg (partL p 66 12).toArray) (hy : a.eval y = .agg (partL zeroP 66 12).toArray)
    (h : ∀ i, 66 ≤ i → i < 78 → 0 ≤ p i ∧ p i ≤ 255) (r : Bool) (hr : r = true ↔ ∀ i, 66 ≤ i → i < 78 → p i = 0)
    (hk : wpList Tryz.prog ops Q rest (a.put op.dst (.bool r)) w) : wpList Tryz.prog ops Q (op :: rest) a w :=
  wpList_want hw fun K hK => by
    have hk := hK _ _ hk
    unfold Oper.wp execOp
    simp only [ho, hx, hy, Sem.run_bind, run_eqGuard_agg w _ _ _ _ _ _ fpGuard, Result.andThen_ok, fp_same h w r hr]
    exact hk
theorem pk_no {p : Nat → Int} (h : ∀ i, 66 ≤ i → i < 78 → 0 ≤ p i ∧ p i ≤ 255) (hv : p 0 ≠ 2) : pkAll p = true ↔ ∀ i, 66 ≤ i → i < 78 → p i = 0 := by
  have hb : (p 0 != 2) = true := by simpa using hv
  unfold pkAll
  rw [Bool.and_eq_true, allB_true, allB_true]
  constructor
  · rintro ⟨a, b⟩ i h1 h2
    have := h i h1 h2
    by_cases e : i < 72
    · have c := a (i - 66) (by omega)
      unfold wrK at c
      rw [hb, show 66 + 0 * 6 + (i - 66) = i by omega] at c
      simp at c; omega
    · have c := b (i - 72) (by omega)
      unfold wrK at c
      rw [hb, show 66 + 1 * 6 + (i - 72) = i by omega] at c
      simp at c; omega
  · intro a
    exact ⟨fun k hk => by unfold wrK; rw [a (66 + 0 * 6 + k) (by omega) (by omega)]; rfl, fun k hk => by unfold wrK; rw [a (66 + 1 * 6 + k) (by omega) (by omega)]; rfl⟩
theorem pk_yes {p : Nat → Int} (h : ∀ i, 66 ≤ i → i < 78 → 0 ≤ p i ∧ p i ≤ 255) (hv : p 0 = 2) : pkAll p = ((p 66 == 0) && (p 72 == 0)) := by
  have hb : (p 0 != 2) = false := by simp [hv]
  have h6 := h 66 (by decide) (by decide)
  have h7 := h 72 (by decide) (by decide)
  unfold pkAll
  rw [Bool.eq_iff_iff, Bool.and_eq_true, Bool.and_eq_true, allB_true, allB_true, beq_iff_eq, beq_iff_eq]
  constructor
  · rintro ⟨a, b⟩
    have a := a 0 (by decide)
    have b := b 0 (by decide)
    unfold wrK at a b
    rw [hb] at a b
    simp at a b
    omega
  · rintro ⟨a, b⟩
    constructor
    · intro k hk
      unfold wrK
      rw [hb]
      by_cases e : k = 0
      · subst e; simp [a]
      · simp; right; omega
    · intro k hk
      unfold wrK
      rw [hb]
      by_cases e : k = 0
      · subst e; simp [b]
      · simp; right; omega
set_option maxRecDepth 100000 in
set_option maxHeartbeats 1000000 in
theorem pocketsCan_any (p : Nat → Int) (w : World) (h : ∀ i, 66 ≤ i → i < 78 → 0 ≤ p i ∧ p i ≤ 255) (hv : 0 ≤ p 0 ∧ p 0 ≤ 255) (hT : TabVar w) : Calls Tryz.prog 30 #[.agg (posA p)] w (BoL (pkAll p) w) := by
  have HH := Lib.hid h
  have HT := Lib.hid hT
  obtain ⟨v, hvv⟩ : ∃ v : Nat, p 0 = (v : Int) := ⟨(p 0).toNat, (Int.toNat_of_nonneg hv.1).symm⟩
  have HV := Lib.hid (show v ≤ 255 by omega)
  obtain ⟨q, hq⟩ : ∃ q, pocB v = q := ⟨_, rfl⟩
  have HQ := Lib.hid hq
  cases q
  · have hn : p 0 ≠ 2 := by rw [hvv]; intro e; have : v = 2 := by omega
                            subst this; cases hq
    have HE := Lib.hid (pk_no h hn)
    obtain ⟨b, hb⟩ : ∃ b, pkAll p = b := ⟨_, rfl⟩
    rw [hb] at HE
    rw [hb]
    have HCs := Lib.hid (fun (W : World) (b1 : Nat) (h : Row W b1 p) => show W.cell? ⟨b1, 0, none⟩ = some (.int .u8 (v : Int)) by rw [h.cell 0 (by decide), hvv]; rfl)
    clear hb hq hn h hT hv hvv
    go_enter Tryz.func30, Tryz.ntmps30
    go_wp2_with (first
      | (refine step_box rfl _ rfl p rfl ?_; intro b1 w1 N R; have HB := Lib.hid N.below; have HR := Lib.hid R; have k0 := HCs.out _ _ R; clear N R)
      | (go_at_call 63; refine (poc_any _ _ HV.out (HT.out.on HB.out)).mono ?_; rintro e w' ⟨rfl, hb9⟩; rw [HQ.out]; have HR := Lib.hid (HR.out.later hb9); have HB := Lib.hid (below_on HB.out hb9); clear hb9 k0)
      | (refine step_read rfl 25 _ rfl b1 66 12 rfl p HR.out (by decide) _ Tryz.underlying25 rfl fpSize ?_)
      | (refine step_build rfl 25 _ rfl (partL zeroP 66 12).toArray (by kernel_rfl) ?_)
      | (refine step_pk rfl _ _ rfl p rfl rfl HH.out _ HE.out ?_))
    go_ret
    exact ⟨rfl, HB.out⟩
  · have hn : p 0 = 2 := by rw [hvv]; have : v = 2 := by simpa [pocB] using hq
                            omega
    obtain ⟨x, hx⟩ : ∃ x, p 66 = x := ⟨_, rfl⟩
    obtain ⟨y, hy⟩ : ∃ y, p 72 = y := ⟨_, rfl⟩
    have he := pk_yes h hn
    obtain ⟨b, hb⟩ : ∃ b, pkAll p = b := ⟨_, rfl⟩
    rw [hb, hx, hy] at he
    rw [hb]
    have HCs := Lib.hid (fun (W : World) (b1 : Nat) (h : Row W b1 p) => show W.cell? ⟨b1, 0, none⟩ = some (.int .u8 (v : Int)) ∧ W.cell? ⟨b1, 66, none⟩ = some (.int .u8 x) ∧ W.cell? ⟨b1, 72, none⟩ = some (.int .u8 y) from
      ⟨by rw [h.cell 0 (by decide), hvv]; rfl, by rw [h.cell 66 (by decide), hx]; rfl, by rw [h.cell 72 (by decide), hy]; rfl⟩)
    clear hb hq hn h hT hv hvv hx hy
    cases hz : (x == 0)
    · have HE := Lib.hid (show false = b by rw [he, hz]; rfl)
      clear he
      go_enter Tryz.func30, Tryz.ntmps30
      go_wp2_with (first
        | (refine step_box rfl _ rfl p rfl ?_; intro b1 w1 N R; have HB := Lib.hid N.below; have HR := Lib.hid R; obtain ⟨k0, k66, k72⟩ := HCs.out _ _ R; clear N R)
        | (go_at_call 63; refine (poc_any _ _ HV.out (HT.out.on HB.out)).mono ?_; rintro e w' ⟨rfl, hb9⟩; rw [HQ.out]; have HR := Lib.hid (HR.out.later hb9); have HB := Lib.hid (below_on HB.out hb9); clear hb9 k0 k66 k72; obtain ⟨k0, k66, k72⟩ := HCs.out _ _ HR.out))
      go_ret
      exact ⟨pc_bool HE.out, HB.out⟩
    · have HE := Lib.hid (show (y == 0) = b by rw [he, hz]; rfl)
      clear he
      go_enter Tryz.func30, Tryz.ntmps30
      go_wp2_with (first
        | (refine step_box rfl _ rfl p rfl ?_; intro b1 w1 N R; have HB := Lib.hid N.below; have HR := Lib.hid R; obtain ⟨k0, k66, k72⟩ := HCs.out _ _ R; clear N R)
        | (go_at_call 63; refine (poc_any _ _ HV.out (HT.out.on HB.out)).mono ?_; rintro e w' ⟨rfl, hb9⟩; rw [HQ.out]; have HR := Lib.hid (HR.out.later hb9); have HB := Lib.hid (below_on HB.out hb9); clear hb9 k0 k66 k72; obtain ⟨k0, k66, k72⟩ := HCs.out _ _ HR.out))
      go_ret
      exact ⟨pc_bool HE.out, HB.out⟩
end Go.Proofs.YtjbfjohgfbipgaaGreatDoor
/-
  Contracts of the program's tests of a position that can be written, fifth part (layer 10): the board.
-/
namespace Go.Proofs.YtjbfjohgfbipgaaGreatDoor
open Go.RowKit
set_option linter.unusedVariables false
set_option linter.unusedSimpArgs false

theorem poc_two {v : Nat} {p : Nat → Int} (h : p 0 = (v : Int)) : (p 0 != 2) = !pocB v := by
  unfold pocB
  by_cases e : v = 2
  · subst e; rw [h]; rfl
  · have h1 : Nat.beq v 2 = false := by cases g : Nat.beq v 2 with | false => rfl | true => exact absurd (Nat.eq_of_beq_eq_true g) e
    rw [h1, h]; simp; omega
set_option maxRecDepth 100000 in
set_option maxHeartbeats 4000000 in
theorem boardCan_any (p : Nat → Int) (w : World) (hp : FitF p) (hT : TabVar w) : Calls Tryz.prog 29 #[.agg (posA p)] w (BoL (allB (wrS p) 64) w) := by
  have HP := Lib.hid hp
  have HT := Lib.hid hT
  obtain ⟨v, hvv⟩ : ∃ v : Nat, p 0 = (v : Int) := ⟨(p 0).toNat, (Int.toNat_of_nonneg hp.var.1).symm⟩
  have HV := Lib.hid (show v ≤ 255 by have := hp.var.2; omega)
  obtain ⟨q, hq⟩ : ∃ q, pocB v = q := ⟨_, rfl⟩
  have HQ := Lib.hid hq
  have H2 := Lib.hid (show (p 0 != 2) = !q by rw [poc_two hvv, hq])
  obtain ⟨b, hb⟩ : ∃ b, allB (wrS p) 64 = b := ⟨_, rfl⟩
  have HBb := Lib.hid hb
  rw [hb]
  have HCs := Lib.hid (fun (W : World) (b1 : Nat) (h : Row W b1 p) => show W.cell? ⟨b1, 0, none⟩ = some (.int .u8 (v : Int)) by rw [h.cell 0 (by decide), hvv]; rfl)
  clear hb hq hvv hp hT
  go_enter Tryz.func29, Tryz.ntmps29
  go_wp2_with (first
    | (refine step_box rfl _ rfl p rfl ?_; intro b1 w1 N R; have HB := Lib.hid N.below; have HR := Lib.hid R; clear N R)
    | (refine step_part rfl 22 _ rfl b1 1 64 .u8 rfl p HR.out (by decide) kat_bd _ Tryz.underlying22 rfl (by kernel_rfl) ?_))
  have HI := Lib.hid (show b1 < w1.heap.size from HR.out.lt)
  go_loopw [8] (fun i wr => ∃ s : Nat, s ≤ 64 ∧ i = .int .i64 s ∧ (∀ j, j < s → wrS p j = true) ∧ Below w1.heap.size w1 wr) (fun i _ => 64 - (intOf i).toNat)
  case atStart => exact ⟨0, by omega, rfl, fun j hj => by omega, Below.refl _ _⟩
  case round =>
    obtain ⟨s, hs64, rfl, hall, hbel⟩ := hrel
    have HAl := Lib.hid hall
    have HBl := Lib.hid hbel
    have HRw := Lib.hid (HR.out.next hbel HI.out)
    clear hall hbel
    by_cases hs : s < 64
    · have hls : (s : Int) < 64 := by omega
      have hs0 : (0 : Int) ≤ (s : Int) := by omega
      have HS := Lib.hid hs
      obtain ⟨x, hx⟩ : ∃ x, p (1 + s) = x := ⟨_, rfl⟩
      have HX := Lib.hid hx
      obtain ⟨x0, x1⟩ := HP.out.bd s hs
      rw [hx] at x0 x1
      obtain ⟨h, hh⟩ : ∃ h, hasN (p 65).toNat (s : Int) = h := ⟨_, rfl⟩
      have HH := Lib.hid hh
      have hw : wrS p s = (!((x != 0) && !pcB x) && !(h && ((x == 0) || !q))) := by unfold wrS; rw [hx, hh, H2.out]
      clear hx hh hs hs64
      have k0 := HCs.out _ _ HRw.out
      have HFin := Lib.hid (fun (W : World) (hW : Below w1.heap.size w1 W) => HB.out.trans (hW.mono HB.out.size))
      by_cases hz : x = 0
      · subst hz
        cases h
        · skip
          have HT1 := Lib.hid (show wrS p s = true by rw [hw]; simp [])
          clear hw
          go_wp2_with (first
            | (refine arr_index rfl 22 5 _ _ rfl 64 .u8 _ rfl s rfl HS.out Tryz.underlying22 Tryz.underlying5 size5 ?_; dsimp only; rw [HX.out])
            | (refine step_load rfl _ rfl b1 rfl p HRw.out ?_)
            | (go_at_call 11; refine (is_any _ _ x0 x1).mono ?_; rintro e w' ⟨rfl, rfl⟩)
            | (go_at_call 62; refine (isPromoted_any p s _ HS.out HP.out.prom).mono ?_; rintro e w' ⟨rfl, hb9⟩; rw [HH.out]; have HBl := Lib.hid (below_on HBl.out hb9); have HRw := Lib.hid (HRw.out.later hb9); clear hb9 k0; have k0 := HCs.out _ _ HRw.out)
            | (go_at_call 63; refine (poc_any _ _ HV.out (HT.out.on (HFin.out _ HBl.out))).mono ?_; rintro e w' ⟨rfl, hb9⟩; rw [HQ.out]; have HBl := Lib.hid (below_on HBl.out hb9); clear hb9))
          go_roundw
          case rel => exact ⟨s + 1, by have := HS.out; omega, by go_num, fun j hj => if e : j = s then by subst e; exact HT1.out else HAl.out j (by omega), HBl.out⟩
          case measure => simp [intOf]; have := HS.out; omega
        · skip
          have HN1 := Lib.hid (show false = b by rw [← HBb.out]; exact (allB_no (by rw [hw]; simp []) HS.out).symm)
          clear hw
          go_wp2_with (first
            | (refine arr_index rfl 22 5 _ _ rfl 64 .u8 _ rfl s rfl HS.out Tryz.underlying22 Tryz.underlying5 size5 ?_; dsimp only; rw [HX.out])
            | (refine step_load rfl _ rfl b1 rfl p HRw.out ?_)
            | (go_at_call 11; refine (is_any _ _ x0 x1).mono ?_; rintro e w' ⟨rfl, rfl⟩)
            | (go_at_call 62; refine (isPromoted_any p s _ HS.out HP.out.prom).mono ?_; rintro e w' ⟨rfl, hb9⟩; rw [HH.out]; have HBl := Lib.hid (below_on HBl.out hb9); have HRw := Lib.hid (HRw.out.later hb9); clear hb9 k0; have k0 := HCs.out _ _ HRw.out)
            | (go_at_call 63; refine (poc_any _ _ HV.out (HT.out.on (HFin.out _ HBl.out))).mono ?_; rintro e w' ⟨rfl, hb9⟩; rw [HQ.out]; have HBl := Lib.hid (below_on HBl.out hb9); clear hb9))
          go_ret
          exact ⟨pc_bool HN1.out, HFin.out _ HBl.out⟩
      · have gz : (x == 0) = false := by simp [hz]
        have gn : (x != 0) = true := by simp [hz]
        clear hz
        cases hpc : pcB x
        · skip
          have HN1 := Lib.hid (show false = b by rw [← HBb.out]; exact (allB_no (by rw [hw]; simp [gn, hpc]) HS.out).symm)
          clear hw
          go_wp2_with (first
            | (refine arr_index rfl 22 5 _ _ rfl 64 .u8 _ rfl s rfl HS.out Tryz.underlying22 Tryz.underlying5 size5 ?_; dsimp only; rw [HX.out])
            | (refine step_load rfl _ rfl b1 rfl p HRw.out ?_)
            | (go_at_call 11; refine (is_any _ _ x0 x1).mono ?_; rintro e w' ⟨rfl, rfl⟩)
            | (go_at_call 62; refine (isPromoted_any p s _ HS.out HP.out.prom).mono ?_; rintro e w' ⟨rfl, hb9⟩; rw [HH.out]; have HBl := Lib.hid (below_on HBl.out hb9); have HRw := Lib.hid (HRw.out.later hb9); clear hb9 k0; have k0 := HCs.out _ _ HRw.out)
            | (go_at_call 63; refine (poc_any _ _ HV.out (HT.out.on (HFin.out _ HBl.out))).mono ?_; rintro e w' ⟨rfl, hb9⟩; rw [HQ.out]; have HBl := Lib.hid (below_on HBl.out hb9); clear hb9))
          go_ret
          exact ⟨pc_bool HN1.out, HFin.out _ HBl.out⟩
        · cases h
          · skip
            have HT1 := Lib.hid (show wrS p s = true by rw [hw]; simp [gn, hpc])
            clear hw
            go_wp2_with (first
              | (refine arr_index rfl 22 5 _ _ rfl 64 .u8 _ rfl s rfl HS.out Tryz.underlying22 Tryz.underlying5 size5 ?_; dsimp only; rw [HX.out])
              | (refine step_load rfl _ rfl b1 rfl p HRw.out ?_)
              | (go_at_call 11; refine (is_any _ _ x0 x1).mono ?_; rintro e w' ⟨rfl, rfl⟩)
              | (go_at_call 62; refine (isPromoted_any p s _ HS.out HP.out.prom).mono ?_; rintro e w' ⟨rfl, hb9⟩; rw [HH.out]; have HBl := Lib.hid (below_on HBl.out hb9); have HRw := Lib.hid (HRw.out.later hb9); clear hb9 k0; have k0 := HCs.out _ _ HRw.out)
              | (go_at_call 63; refine (poc_any _ _ HV.out (HT.out.on (HFin.out _ HBl.out))).mono ?_; rintro e w' ⟨rfl, hb9⟩; rw [HQ.out]; have HBl := Lib.hid (below_on HBl.out hb9); clear hb9))
            go_roundw
            case rel => exact ⟨s + 1, by have := HS.out; omega, by go_num, fun j hj => if e : j = s then by subst e; exact HT1.out else HAl.out j (by omega), HBl.out⟩
            case measure => simp [intOf]; have := HS.out; omega
          · cases q
            · skip
              have HN1 := Lib.hid (show false = b by rw [← HBb.out]; exact (allB_no (by rw [hw]; simp [gn, gz, hpc]) HS.out).symm)
              clear hw
              go_wp2_with (first
                | (refine arr_index rfl 22 5 _ _ rfl 64 .u8 _ rfl s rfl HS.out Tryz.underlying22 Tryz.underlying5 size5 ?_; dsimp only; rw [HX.out])
                | (refine step_load rfl _ rfl b1 rfl p HRw.out ?_)
                | (go_at_call 11; refine (is_any _ _ x0 x1).mono ?_; rintro e w' ⟨rfl, rfl⟩)
                | (go_at_call 62; refine (isPromoted_any p s _ HS.out HP.out.prom).mono ?_; rintro e w' ⟨rfl, hb9⟩; rw [HH.out]; have HBl := Lib.hid (below_on HBl.out hb9); have HRw := Lib.hid (HRw.out.later hb9); clear hb9 k0; have k0 := HCs.out _ _ HRw.out)
                | (go_at_call 63; refine (poc_any _ _ HV.out (HT.out.on (HFin.out _ HBl.out))).mono ?_; rintro e w' ⟨rfl, hb9⟩; rw [HQ.out]; have HBl := Lib.hid (below_on HBl.out hb9); clear hb9))
              go_ret
              exact ⟨pc_bool HN1.out, HFin.out _ HBl.out⟩
            · skip
              have HT1 := Lib.hid (show wrS p s = true by rw [hw]; simp [gn, gz, hpc])
              clear hw
              go_wp2_with (first
                | (refine arr_index rfl 22 5 _ _ rfl 64 .u8 _ rfl s rfl HS.out Tryz.underlying22 Tryz.underlying5 size5 ?_; dsimp only; rw [HX.out])
                | (refine step_load rfl _ rfl b1 rfl p HRw.out ?_)
                | (go_at_call 11; refine (is_any _ _ x0 x1).mono ?_; rintro e w' ⟨rfl, rfl⟩)
                | (go_at_call 62; refine (isPromoted_any p s _ HS.out HP.out.prom).mono ?_; rintro e w' ⟨rfl, hb9⟩; rw [HH.out]; have HBl := Lib.hid (below_on HBl.out hb9); have HRw := Lib.hid (HRw.out.later hb9); clear hb9 k0; have k0 := HCs.out _ _ HRw.out)
                | (go_at_call 63; refine (poc_any _ _ HV.out (HT.out.on (HFin.out _ HBl.out))).mono ?_; rintro e w' ⟨rfl, hb9⟩; rw [HQ.out]; have HBl := Lib.hid (below_on HBl.out hb9); clear hb9))
              go_roundw
              case rel => exact ⟨s + 1, by have := HS.out; omega, by go_num, fun j hj => if e : j = s then by subst e; exact HT1.out else HAl.out j (by omega), HBl.out⟩
              case measure => simp [intOf]; have := HS.out; omega
    · obtain rfl : s = 64 := by omega
      have HN := Lib.hid (show true = b by rw [← HBb.out]; exact (allB_true.2 HAl.out).symm)
      go_wp2_with fail
      go_ret
      exact ⟨pc_bool HN.out, HB.out.trans (HBl.out.mono HB.out.size)⟩
end Go.Proofs.YtjbfjohgfbipgaaGreatDoor
/-
  Contract of the program's pocketsText (layer 10).
-/
namespace Go.Proofs.YtjbfjohgfbipgaaGreatDoor
open Go.RowKit
set_option linter.unusedVariables false
set_option linter.unusedSimpArgs false

theorem rep_snoc (l : List UInt8) : ∀ n, Lib.repeatL l n ++ l = l ++ Lib.repeatL l n
  | 0 => by simp [Lib.repeatL]
  | n + 1 => by rw [Lib.repeatL, List.append_assoc, rep_snoc l n]
theorem rep_pk (c k : Nat) : ∀ n, Lib.repeatL (leF (mkZ (c : Int) (k : Int))) n = pkN c k n
  | 0 => rfl
  | n + 1 => by rw [pkN, ← rep_pk c k n, rep_snoc, Lib.repeatL]
theorem size24 : (Tryz.prog.info? 24).map (·.size) = some 6 := by kernel_rfl
theorem kat_pk (c : Nat) (hc : c < 2) : ∀ j, j < 6 → kAt (66 + c * 6 + j) = .u8 := fun j hj => kf_u8 (.inr (.inl (by omega)))
theorem ptK_len {p : Nat → Int} (hp : ∀ i, 66 ≤ i → i < 78 → 0 ≤ p i ∧ p i ≤ 255) {c k : Nat} (hc : c < 2) (hk : k ≤ 6) : (ptK p c k).length ≤ 5000 := by
  have h1 := pkC_len hp c (by omega)
  have h2 := pkK_len hp hc k hk
  unfold ptK ptC
  simp only [List.length_append, List.length_cons]
  omega
/-- The pockets' text: none, but of a variant with pockets. -/
def poX (p : Nat → Int) : List UInt8 := bif p 0 == 2 then poT p else []
set_option maxRecDepth 100000 in
set_option maxHeartbeats 4000000 in
theorem pocketsText_any (p : Nat → Int) (w : World) (hp : FitF p) (hT : TabVar w) : Calls Tryz.prog 34 #[.agg (posA p)] w (StL (bz (poX p)) w) := by
  have HP := Lib.hid hp
  have HT := Lib.hid hT
  obtain ⟨v, hvv⟩ : ∃ v : Nat, p 0 = (v : Int) := ⟨(p 0).toNat, (Int.toNat_of_nonneg hp.var.1).symm⟩
  have HV := Lib.hid (show v ≤ 255 by have := hp.var.2; omega)
  obtain ⟨q, hq⟩ : ∃ q, pocB v = q := ⟨_, rfl⟩
  have HQ := Lib.hid hq
  have h2 : (p 0 == 2) = q := by
    have h := poc_two hvv
    rw [hq] at h
    cases q
    · simpa [bne] using h
    · simpa [bne] using h
  have HCs := Lib.hid (fun (W : World) (b1 : Nat) (h : Row W b1 p) => show W.cell? ⟨b1, 0, none⟩ = some (.int .u8 (v : Int)) by rw [h.cell 0 (by decide), hvv]; rfl)
  clear hq hvv hp hT
  cases q
  · have HE := Lib.hid (show poX p = [] by unfold poX; rw [h2]; rfl)
    clear h2
    go_enter Tryz.func34, Tryz.ntmps34
    go_wp2_with (first
      | (refine step_box rfl _ rfl p rfl ?_; intro b1 w1 N R; have HB := Lib.hid N.below; have k0 := HCs.out _ _ R; clear N R)
      | (go_at_call 63; refine (poc_any _ _ HV.out (HT.out.on HB.out)).mono ?_; rintro e w' ⟨rfl, hb9⟩; rw [HQ.out]; have HB := Lib.hid (below_on HB.out hb9); clear hb9 k0))
    go_ret
    exact ⟨by rw [HE.out]; rfl, HB.out⟩
  · have HE := Lib.hid (show poX p = poT p by unfold poX; rw [h2]; rfl)
    rw [HE.out]
    clear h2
    go_enter Tryz.func34, Tryz.ntmps34
    go_wp2_with (first
      | (refine step_box rfl _ rfl p rfl ?_; intro b1 w1 N R; have HB := Lib.hid N.below; have HR := Lib.hid R; have k0 := HCs.out _ _ R; clear N R)
      | (go_at_call 63; refine (poc_any _ _ HV.out (HT.out.on HB.out)).mono ?_; rintro e w2 ⟨rfl, hb9⟩; rw [HQ.out]; have HR := Lib.hid (HR.out.later hb9); have HB := Lib.hid (below_on HB.out hb9); clear hb9 k0))
    have HI := Lib.hid (show b1 < w2.heap.size from HR.out.lt)
    go_loopw [3, 4] (fun t c wr => ∃ n : Nat, n ≤ 2 ∧ c = .int .u8 n ∧ t = .string (bz (ptC p n)) ∧ Below w2.heap.size w2 wr) (fun _ c _ => 2 - (intOf c).toNat)
    case atStart => exact ⟨0, by omega, rfl, rfl, Below.refl _ _⟩
    case round =>
      obtain ⟨n, hn, rfl, rfl, hbel⟩ := hrel
      have HBl := Lib.hid hbel
      have HRw := Lib.hid (HR.out.next hbel HI.out)
      clear hbel
      by_cases hn2 : n < 2
      · have ln : (n : Int) ≤ 1 := by omega
        have ln2 : (n : Int) < 2 := by omega
        have n0 : (0 : Int) ≤ (n : Int) := by omega
        have HN2 := Lib.hid hn2
        have HS0 := Lib.hid (show ptC p n = ptK p n 0 from ptC_zero p n)
        clear hn hn2
        go_wp2_with (refine step_part rfl 24 _ rfl b1 (66 + n * 6) 6 .u8 rfl p HRw.out (by have := HN2.out; omega) (kat_pk n HN2.out) _ Tryz.underlying24 rfl size24 ?_)
        go_loopw [3, 19] (fun t i wr2 => ∃ k : Nat, k ≤ 6 ∧ i = .int .i64 k ∧ t = .string (bz (ptK p n k)) ∧ Below w2.heap.size w2 wr2) (fun _ i _ => 6 - (intOf i).toNat)
        case atStart => exact ⟨0, by omega, rfl, by rw [HS0.out], HBl.out⟩
        case round =>
          obtain ⟨k, hk, rfl, rfl, hbel2⟩ := hrel
          have HBm := Lib.hid hbel2
          clear hbel2
          by_cases hk6 : k < 6
          · have lk : (k : Int) < 6 := by omega
            have k0 : (0 : Int) ≤ (k : Int) := by omega
            have k255 : (k : Int) ≤ 255 := by omega
            have HK6 := Lib.hid hk6
            obtain ⟨x, hx⟩ : ∃ x : Nat, p (66 + n * 6 + k) = (x : Int) := ⟨(p (66 + n * 6 + k)).toNat, (Int.toNat_of_nonneg (HP.out.pock _ (by omega) (by have := HN2.out; omega)).1).symm⟩
            have HX := Lib.hid hx
            have HX255 := Lib.hid (show x ≤ 255 by have := (HP.out.pock (66 + n * 6 + k) (by omega) (by have := HN2.out; omega)).2; omega)
            have x0 : (0 : Int) ≤ (x : Int) := by omega
            have x255 : (x : Int) ≤ 255 := by have := HX255.out; omega
            obtain ⟨m, hm⟩ : ∃ m, mkZ (n : Int) (k : Int) = m := ⟨_, rfl⟩
            have HM := Lib.hid hm
            have hmr : 0 ≤ m ∧ m ≤ 255 := by
              rw [← hm]
              have key : ∀ (a : Fin 2) (b : Fin 6), 0 ≤ mkZ (a.val : Int) (b.val : Int) ∧ mkZ (a.val : Int) (b.val : Int) ≤ 255 := by decide +kernel
              exact key ⟨n, HN2.out⟩ ⟨k, hk6⟩
            have HMr := Lib.hid hmr
            obtain ⟨t, ht⟩ : ∃ t, bz (ptK p n k) = t := ⟨_, rfl⟩
            have htz : t.size ≤ 5000 := by rw [← ht, bz_size]; exact ptK_len HP.out.pock HN2.out hk
            obtain ⟨d, hd⟩ : ∃ d, bz (pkN n k x) = d := ⟨_, rfl⟩
            have hdz : d.size ≤ 255 := by rw [← hd, bz_size]; exact Nat.le_trans (pkN_len _ _ _) HX255.out
            have HS := Lib.hid (show bz (ptK p n (k + 1)) = t ++ d by rw [ptK_succ p n k x (by rw [hx, Int.toNat_natCast])]; unfold ptS; rw [← bz_app, ht, hd])
            have HRp := Lib.hid (fun W => show Calls Tryz.prog 66 #[.string (letZ m), .int .i64 (x : Int)] W (StL d W) by
              have h := repeat_any (leF m) x W HX255.out (Nat.le_trans (leF_len m) (by decide))
              rw [← leF_bz, ← hm, rep_pk, hd, hm] at h
              exact h)
            have k1 := cat_ok (a := t) (b := d) (by omega) (by omega)
            rw [ht]
            clear ht htz hd hdz hx hm hmr hk hk6
            go_wp2_with (first
              | (refine arr_index rfl 24 5 _ _ rfl 6 .u8 _ rfl k rfl HK6.out Tryz.underlying24 Tryz.underlying5 size5 ?_; dsimp only; rw [HX.out])
              | (go_at_call 24; refine (mk_any _ _ _ n0 k0).mono ?_; rintro e w' ⟨rfl, rfl⟩; rw [HM.out])
              | (go_at_call 67; refine (let_any _ _ HMr.out.1 HMr.out.2).mono ?_; rintro e w' ⟨rfl, rfl⟩)
              | (go_at_call 66; refine (HRp.out _).mono ?_; rintro e w' ⟨rfl, hb9⟩; have HBm := Lib.hid (below_on HBm.out hb9); clear hb9))
            go_roundw
            case rel => exact ⟨k + 1, by have := HK6.out; omega, by go_num, by rw [HS.out], HBm.out⟩
            case measure => simp [intOf]; have := HK6.out; omega
          · obtain rfl : k = 6 := by omega
            have HSn := Lib.hid (show ptK p n 6 = ptC p (n + 1) from rfl)
            go_wp2_with fail
            go_roundw
            case rel => exact ⟨n + 1, by have := HN2.out; omega, by go_num, by rw [HSn.out], HBm.out⟩
            case measure => simp [intOf]; have := HN2.out; omega
      · obtain rfl : n = 2 := by omega
        have k1 := cat_ok (a := bz (ptC p 2)) (b := ⟨#[93]⟩) (by rw [bz_size]; have := ptC_len HP.out.pock; omega) (by decide)
        have HSn := Lib.hid (show bz (poT p) = bz (ptC p 2) ++ ⟨#[93]⟩ by unfold poT; rw [← bz_app]; rfl)
        go_wp2_with fail
        go_ret
        exact ⟨by rw [HSn.out]; rfl, HB.out.trans (HBl.out.mono HB.out.size)⟩
end Go.Proofs.YtjbfjohgfbipgaaGreatDoor
