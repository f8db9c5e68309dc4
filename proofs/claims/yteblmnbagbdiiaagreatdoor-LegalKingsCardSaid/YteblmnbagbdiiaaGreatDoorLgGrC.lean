/-
 Several texts in one: LgC, LgD.
-/
import Derived.Test.YteblmnbagbdiiaaGreatDoorLgB
/-
 Layer 17: legal's won, going, first, the wins of the variants but Racing's.
-/
set_option maxRecDepth 100000
set_option maxHeartbeats 4000000
namespace Go.Proofs.YteblmnbagbdiiaaGreatDoor
open Go.RowKit Go.Shelf
set_option linter.unusedVariables false
set_option linter.unusedSimpArgs false
attribute [local go_sem] Oper.semAt_some

def rsA (r : Int × Int) : Array Value := #[.int .u8 r.1, .int .u8 r.2]
def ResL (r : Int × Int) (w : World) (e : Ending) (w' : World) : Prop := e = .returned (.agg (rsA r)) ∧ Below w.heap.size w w'
theorem rs_one (r : Int × Int) : (rsA r).all (·.oneCell') = true := by simp [rsA, Value.oneCell']
theorem rsZero : (Tryz.prog.info? 44).map (fun i => (i.zero, i.size)) = some (some (.agg (rsA (0, 0))), 2) := by kernel_rfl
theorem rsSize : (Tryz.prog.info? 44).map (·.size) = some 2 := by kernel_rfl
def wnZ (c y : Int) : Int × Int := (bif c == 0 then 1 else 2, y)
def firZ (a y : Int) (h : Int → Bool) : Int × Int := bif h a then wnZ a y else bif h (oth a) then wnZ (oth a) y else (0, 0)
def hilB (s : Int) : Bool := [27, 28, 35, 36].contains s
theorem lg_going (w : World) : Calls Tryz.prog 21 #[] w (ResL (0, 0) w) := by
 have HB := H_ (Below.refl w.heap.size w)
 go_enter Tryz.func21, Tryz.ntmps21
 go_wp2_with (first
   | (guard_target = gA 0; refine blk_alloc (op := ⟨some 0, _, _, _, _, _⟩) rfl 44 rfl (rsA (0, 0)) rsZero ?_; intro b0 wn N R; have HG0 := H_ (nA HB.out N); have HR0 := H_ R; have HB := H_ (below_on HB.out N.below); clear N R)
   | (guard_target = Go.wpList _ _ _ ((⟨some _, .build _ _, _, _, _, _⟩ : Go.Oper) :: _) _ _; refine step_build rfl 44 _ rfl (rsA (0, 0)) (by kernel_rfl) ?_)
   | (guard_target = gS 0; refine blk_store (op := ⟨none, .store _ (.tmp 0) _, _, _, _, _⟩) rfl 44 _ _ rfl b0 rfl (rsA (0, 0)) (rsA (0, 0)) rfl HR0.out rfl (rs_one _) rsSize ?_; intro wn U R; have HR0 := H_ R; have HB := H_ (HB.out.trans (U.below HG0.out)); clear U R))
 refine bodyPost_ret (v := .agg (rsA (0, 0))) (results_blk rfl _ _ _ _ rfl HR0.out Tryz.underlying44 rfl rsSize rfl) rfl ⟨rfl, HB.out⟩
theorem lg_won (c y : Int) (w : World) : Calls Tryz.prog 166 #[.int .u8 c, .int .u8 y] w (ResL (wnZ c y) w) := by
 have HB := H_ (Below.refl w.heap.size w)
 cases g : c == 0
 ·have HE := H_ (show wnZ c y = (2, y) by unfold wnZ; rw [g]; rfl)
  go_enter Tryz.func166, Tryz.ntmps166
  go_wp2_with (first
   | (guard_target = gA 4; refine blk_alloc (op := ⟨some 4, _, _, _, _, _⟩) rfl 44 rfl (rsA (0, 0)) rsZero ?_; intro b4 wn N R; have HG4 := H_ (nA HB.out N); have HR4 := H_ R; have HB := H_ (below_on HB.out N.below); clear N R)
   | (guard_target = Go.wpList _ _ _ ((⟨some _, .build _ _, _, _, _, _⟩ : Go.Oper) :: _) _ _; refine step_build rfl 44 _ rfl (rsA (2, y)) (by kernel_rfl) ?_)
   | (guard_target = gS 4; refine blk_store (op := ⟨none, .store _ (.tmp 4) _, _, _, _, _⟩) rfl 44 _ _ rfl b4 rfl (rsA (0, 0)) (rsA (2, y)) rfl HR4.out rfl (rs_one _) rsSize ?_; intro wn U R; have HR4 := H_ R; have HB := H_ (HB.out.trans (U.below HG4.out)); clear U R))
  refine bodyPost_ret (v := .agg (rsA (2, y))) (results_blk rfl _ _ _ _ rfl HR4.out Tryz.underlying44 rfl rsSize rfl) rfl ⟨by rw [HE.out], HB.out⟩
 ·have HE := H_ (show wnZ c y = (1, y) by unfold wnZ; rw [g]; rfl)
  go_enter Tryz.func166, Tryz.ntmps166
  go_wp2_with (first
   | (guard_target = gA 4; refine blk_alloc (op := ⟨some 4, _, _, _, _, _⟩) rfl 44 rfl (rsA (0, 0)) rsZero ?_; intro b4 wn N R; have HG4 := H_ (nA HB.out N); have HR4 := H_ R; have HB := H_ (below_on HB.out N.below); clear N R)
   | (guard_target = Go.wpList _ _ _ ((⟨some _, .build _ _, _, _, _, _⟩ : Go.Oper) :: _) _ _; refine step_build rfl 44 _ rfl (rsA (1, y)) (by kernel_rfl) ?_)
   | (guard_target = gS 4; refine blk_store (op := ⟨none, .store _ (.tmp 4) _, _, _, _, _⟩) rfl 44 _ _ rfl b4 rfl (rsA (0, 0)) (rsA (1, y)) rfl HR4.out rfl (rs_one _) rsSize ?_; intro wn U R; have HR4 := H_ R; have HB := H_ (HB.out.trans (U.below HG4.out)); clear U R))
  refine bodyPost_ret (v := .agg (rsA (1, y))) (results_blk rfl _ _ _ _ rfl HR4.out Tryz.underlying44 rfl rsSize rfl) rfl ⟨by rw [HE.out], HB.out⟩
def ColB (N : FuncId) (lb : Array Value) (h : Int → Bool) (a : Int) (w : World) : Prop := ∀ (W : World) (c : Int), Below w.heap.size w W → (c = a ∨ c = oth a) → Calls Tryz.prog N (#[.int .u8 c] ++ lb) W (BoL (h c) W)
theorem ColB.on {N : FuncId} {lb : Array Value} {h : Int → Bool} {a : Int} {w w' : World} (k : ColB N lb h a w) (hb : Below w.heap.size w w') : ColB N lb h a w' := fun W c g e => k W c (below_on hb g) e
theorem lg_first {N : FuncId} {lb : Array Value} {h : Int → Bool} (eN : ∀ args w, (callFunc N args).run Tryz.prog w = .ok (.enter N args) w) (a y : Int) (w : World) (hc : ColB N lb h a w) :
  Calls Tryz.prog 167 #[.int .u8 a, .int .u8 y, .func (.func N) #[] lb] w (ResL (firZ a y h) w) := by
 have HC := H_ hc
 clear hc
 obtain ⟨d, hd⟩ : ∃ d, oth a = d := ⟨_, rfl⟩
 have HO := H_ hd
 obtain ⟨x1, h1⟩ : ∃ x, h a = x := ⟨_, rfl⟩
 obtain ⟨x2, h2⟩ : ∃ x, h d = x := ⟨_, rfl⟩
 have H1 := H_ h1
 have H2 := H_ h2
 have HE := H_ (show firZ a y h = bif x1 then wnZ a y else bif x2 then wnZ d y else (0, 0) by unfold firZ; rw [hd, h1, h2])
 clear hd h1 h2
 have HB := H_ (Below.refl w.heap.size w)
 go_enter Tryz.func167, Tryz.ntmps167
 go_wp2_with (first
   | (guard_target = gA 6; refine blk_alloc (op := ⟨some 6, _, _, _, _, _⟩) rfl 44 rfl (rsA (0, 0)) rsZero ?_; intro b6 wn N R; have HG6 := H_ (nA HB.out N); have HR6 := H_ R; have HB := H_ (below_on HB.out N.below); clear N R)
   | (go_at_call 96; refine (otherK HO.out _).mono ?_; rintro e w3 ⟨rfl, rfl⟩; skip)
   | (guard_target = gD 12; refine step_build (op := ⟨some 12, .build _ _, _, _, _, _⟩) rfl 29 _ rfl #[.int .u8 a, .int .u8 d] (by kernel_rfl) ?_; have HC := H_ (HC.out.on HB.out)))
 go_loopw [8, 13] (fun _ i wr => ∃ k : Nat, k ≤ 2 ∧ i = .int .i64 (k : Int) ∧ (0 < k → x1 = false) ∧ (1 < k → x2 = false) ∧ Blk wr b6 44 (rsA (0, 0)) ∧ ColB N lb h a wr ∧ Below w.heap.size w wr) (fun _ i _ => 2 - (intOf i).toNat)
 case atStart => exact ⟨0, by omega, rfl, fun h => by omega, fun h => by omega, HR6.out, HC.out, HB.out⟩
 case round =>
  clear HR6 HC HB
  obtain ⟨k, hk, rfl, hx1, hx2, hr, hc, hb⟩ := hrel
  have HR6 := H_ hr
  have HC := H_ hc
  have HB := H_ hb
  have HX1 := H_ hx1
  have HX2 := H_ hx2
  clear hr hc hb hx1 hx2
  by_cases hlt : k < 2
  ·by_cases ek : k = 0
   ·cases x1
    ·go_wp2_with (first
      | (guard_target = gI 15; refine step_index (op := ⟨some 15, .index _ _ _, _, _, _, _⟩) rfl 29 5 _ _ rfl 2 _ rfl .i64 k rfl (by omega) Tryz.underlying29 Tryz.underlying5 rfl size5 (.int .u8 (a)) (by rw [ek]; rfl) ?_)
      | (go_at_fn N; refine (HC.out _ _ (Below.refl _ _) (Or.inl rfl)).mono ?_; rintro e w3 ⟨rfl, hb⟩; rw [H1.out]; have HR6 := H_ (Blk.later HR6.out hb); have HC := H_ (HC.out.on hb); have HB := H_ (below_on HB.out hb); clear hb))
     go_roundw
     case rel => exact ⟨k + 1, by omega, by go_num, (by intros; first | rfl | trivial), fun h => by omega, HR6.out, HC.out, HB.out⟩
     case measure => simp [intOf]; omega
    ·go_wp2_with (first
      | (guard_target = gI 15; refine step_index (op := ⟨some 15, .index _ _ _, _, _, _, _⟩) rfl 29 5 _ _ rfl 2 _ rfl .i64 k rfl (by omega) Tryz.underlying29 Tryz.underlying5 rfl size5 (.int .u8 (a)) (by rw [ek]; rfl) ?_)
      | (go_at_fn N; refine (HC.out _ _ (Below.refl _ _) (Or.inl rfl)).mono ?_; rintro e w3 ⟨rfl, hb⟩; rw [H1.out]; have HR6 := H_ (Blk.later HR6.out hb); have HC := H_ (HC.out.on hb); have HB := H_ (below_on HB.out hb); clear hb)
      | (go_at_call 166; refine (lg_won (a) y _).mono ?_; rintro e w3 ⟨rfl, hb⟩; have HR6 := H_ (Blk.later HR6.out hb); have HB := H_ (below_on HB.out hb); clear hb)
      | (guard_target = gS 6; refine blk_store (op := ⟨none, .store _ (.tmp 6) _, _, _, _, _⟩) rfl 44 _ _ rfl b6 rfl (rsA (0, 0)) (rsA (wnZ a y)) rfl HR6.out rfl (rs_one _) rsSize ?_; intro wn U R; have HR6 := H_ R; have HB := H_ (HB.out.trans (U.below HG6.out)); clear U R))
     refine bodyPost_ret (v := .agg (rsA (wnZ a y))) (results_blk rfl _ _ _ _ rfl HR6.out Tryz.underlying44 rfl rsSize rfl) rfl ⟨by rw [HE.out]; rfl, HB.out⟩
   ·have ek1 : k = 1 := by omega
    have HX := H_ (HX1.out (by omega))
    clear ek
    have ek := ek1
    cases x2
    ·go_wp2_with (first
      | (guard_target = gI 15; refine step_index (op := ⟨some 15, .index _ _ _, _, _, _, _⟩) rfl 29 5 _ _ rfl 2 _ rfl .i64 k rfl (by omega) Tryz.underlying29 Tryz.underlying5 rfl size5 (.int .u8 (d)) (by rw [ek]; rfl) ?_)
      | (go_at_fn N; refine (HC.out _ _ (Below.refl _ _) (Or.inr HO.out.symm)).mono ?_; rintro e w3 ⟨rfl, hb⟩; rw [H2.out]; have HR6 := H_ (Blk.later HR6.out hb); have HC := H_ (HC.out.on hb); have HB := H_ (below_on HB.out hb); clear hb))
     go_roundw
     case rel => exact ⟨k + 1, by omega, by go_num, fun _ => HX.out, (by intros; first | rfl | trivial), HR6.out, HC.out, HB.out⟩
     case measure => simp [intOf]; omega
    ·go_wp2_with (first
      | (guard_target = gI 15; refine step_index (op := ⟨some 15, .index _ _ _, _, _, _, _⟩) rfl 29 5 _ _ rfl 2 _ rfl .i64 k rfl (by omega) Tryz.underlying29 Tryz.underlying5 rfl size5 (.int .u8 (d)) (by rw [ek]; rfl) ?_)
      | (go_at_fn N; refine (HC.out _ _ (Below.refl _ _) (Or.inr HO.out.symm)).mono ?_; rintro e w3 ⟨rfl, hb⟩; rw [H2.out]; have HR6 := H_ (Blk.later HR6.out hb); have HC := H_ (HC.out.on hb); have HB := H_ (below_on HB.out hb); clear hb)
      | (go_at_call 166; refine (lg_won (d) y _).mono ?_; rintro e w3 ⟨rfl, hb⟩; have HR6 := H_ (Blk.later HR6.out hb); have HB := H_ (below_on HB.out hb); clear hb)
      | (guard_target = gS 6; refine blk_store (op := ⟨none, .store _ (.tmp 6) _, _, _, _, _⟩) rfl 44 _ _ rfl b6 rfl (rsA (0, 0)) (rsA (wnZ d y)) rfl HR6.out rfl (rs_one _) rsSize ?_; intro wn U R; have HR6 := H_ R; have HB := H_ (HB.out.trans (U.below HG6.out)); clear U R))
     refine bodyPost_ret (v := .agg (rsA (wnZ d y))) (results_blk rfl _ _ _ _ rfl HR6.out Tryz.underlying44 rfl rsSize rfl) rfl ⟨by rw [HE.out, HX.out]; rfl, HB.out⟩
  ·have HX := H_ (HX1.out (by omega))
   have HY := H_ (HX2.out (by omega))
   go_wp2_with (first
    | (go_at_call 21; refine (lg_going _).mono ?_; rintro e w3 ⟨rfl, hb⟩; have HR6 := H_ (Blk.later HR6.out hb); have HB := H_ (below_on HB.out hb); clear hb)
    | (guard_target = gS 6; refine blk_store (op := ⟨none, .store _ (.tmp 6) _, _, _, _, _⟩) rfl 44 _ _ rfl b6 rfl (rsA (0, 0)) (rsA (0, 0)) rfl HR6.out rfl (rs_one _) rsSize ?_; intro wn U R; have HR6 := H_ R; have HB := H_ (HB.out.trans (U.below HG6.out)); clear U R))
   refine bodyPost_ret (v := .agg (rsA (0, 0))) (results_blk rfl _ _ _ _ rfl HR6.out Tryz.underlying44 rfl rsSize rfl) rfl ⟨by rw [HE.out, HX.out, HY.out]; rfl, HB.out⟩
end Go.Proofs.YteblmnbagbdiiaaGreatDoor
/-
 Layer 17: the wins of the variants but Racing's.
-/
namespace Go.Proofs.YteblmnbagbdiiaaGreatDoor
open Go.RowKit Go.Shelf
set_option linter.unusedVariables false
set_option linter.unusedSimpArgs false
attribute [local go_sem] Oper.semAt_some

theorem ixi_any (l : List Int) (g cap : Nat) (x : Int) (w : World) (hl : l.length ≤ 100) (hc : IntCells g l w) :
  Calls Tryz.prog 244 #[.slice (some ⟨g, 0, none⟩) l.length cap, .int .i64 x] w (fun e w' => ∃ r : Int, e = .returned (.int .i64 r) ∧ decide (0 ≤ r) = l.contains x ∧ Below w.heap.size w w') := by
 have HC := H_ hc
 have HB := H_ (Below.refl w.heap.size w)
 clear hc
 go_enter Tryz.func244, Tryz.ntmps244
 go_wp2
 go_loopw [5, 8] (fun _ i wr => ∃ k : Nat, k ≤ l.length ∧ i = .int .i64 (k : Int) ∧ (l.take k).contains x = false ∧ IntCells g l wr ∧ Below w.heap.size w wr) (fun _ i _ => l.length - (intOf i).toNat)
 case atStart => exact ⟨0, by omega, rfl, by simp, HC.out, HB.out⟩
 case round =>
  clear HC HB
  obtain ⟨k, hk, rfl, hn, hc, hb⟩ := hrel
  have HC := H_ hc
  have HB := H_ hb
  have HN := H_ hn
  clear hc hb hn
  by_cases hlt : k < l.length
  ·obtain ⟨d, HK⟩ : ∃ d, Hid (l[k]? = some d) := ⟨_, H_ (List.getElem?_eq_getElem hlt)⟩
   have hcell := HC.out k d HK.out
   cases e : x == d
   ·have HX := H_ (show (l.take (k + 1)).contains x = false by rw [List.take_add_one, HK.out, List.contains_append, HN.out]; show (false || ([d].contains x)) = false; rw [List.contains_cons, e]; rfl)
    have HBf := H_ (HB.out)
    go_wp2
    go_roundw
    case rel => exact ⟨k + 1, by omega, by go_num, HX.out, HC.out, HB.out⟩
    case measure => simp [intOf]; omega
   ·have HX := H_ (show l.contains x = true by rw [List.contains_iff_mem]; rw [beq_iff_eq.1 e]; exact List.mem_of_getElem? HK.out)
    go_wp2
    go_ret
    exact ⟨_, rfl, by rw [HX.out]; exact decide_eq_true (by omega), HB.out⟩
  ·go_wp2
   go_ret
   obtain rfl : k = l.length := by omega
   exact ⟨_, rfl, by have := HN.out; rw [List.take_length] at this; rw [this]; rfl, HB.out⟩
theorem cti_any (l : List Int) (g cap : Nat) (x : Int) (w : World) (hl : l.length ≤ 100) (hc : IntCells g l w) : Calls Tryz.prog 225 #[.slice (some ⟨g, 0, none⟩) l.length cap, .int .i64 x] w (BoL (l.contains x) w) := by
 have HC := H_ (ixi_any l g cap x w hl hc)
 clear hc
 go_enter Tryz.func225, Tryz.ntmps225
 go_wp2_with (go_at_call 244; refine HC.out.mono ?_; rintro e w3 ⟨r, rfl, hr, hb⟩; have HR := H_ hr; have HB := H_ hb; clear hr hb)
 go_ret
 exact ⟨by rw [← HR.out]; rfl, HB.out⟩
theorem lg_hill (s : Int) (w : World) : Calls Tryz.prog 172 #[.int .i64 s] w (BoL (hilB s) w) := by
 have HS := H_ (show [27, 28, 35, 36].contains s = hilB s from rfl)
 go_enter Tryz.func172, Tryz.ntmps172
 go_wp2_with fail
 refine (cti_any [27, 28, 35, 36] _ 4 s _ (by decide) (cells_new _ _ _ _ rfl)).mono ?_; rw [HS.out]; rintro e w' ⟨rfl, hb⟩
 have HB := H_ (below_on (below_new _ _) hb)
 clear hb
 go_wp2
 go_ret
 exact ⟨rfl, HB.out⟩
theorem findK {p : Nat → Int} {c k : Int} {v : Int} (e : firstN (ofN p c k) = v) (w : World) (hp : WfP p) (hD : TabDb w) : Calls Tryz.prog 31 #[.agg (posA p), .int .u8 c, .int .u8 k] w (IntL v w) := e ▸ find_set p c k w (AtR.of hp).bd hD
theorem lg_c8 (p : Nat → Int) (c : Int) (b : Nat) (w : World) (hp : WfP p) (hr : Row w b p) : Calls Tryz.prog 168 #[.int .u8 c, .pointer (some ⟨b, 0, none⟩)] w (BoL (!menB p c) w) := by
 have HP := H_ hp
 have HRb := H_ hr
 obtain ⟨x, hx⟩ : ∃ x, menB p c = x := ⟨_, rfl⟩
 have HX := H_ hx
 rw [hx]
 clear hx
 clear hp hr
 have HB := H_ (Below.refl w.heap.size w)
 go_enter Tryz.func168, Tryz.ntmps168
 go_wp2_with (first
   | (guard_target = gL 1; refine step_load rfl _ rfl b rfl p HRb.out ?_)
   | (go_at_call 169; refine (menK HX.out _ HP.out).mono ?_; rintro e w3 ⟨rfl, hb⟩; have HB := H_ (below_on HB.out hb); clear hb))
 go_ret
 exact ⟨rfl, HB.out⟩
theorem lg_c6 (p : Nat → Int) (c : Int) (b : Nat) (w : World) (hp : WfP p) (hD : TabDb w) (hr : Row w b p) : Calls Tryz.prog 171 #[.int .u8 c, .pointer (some ⟨b, 0, none⟩)] w (BoL (hilB (kingZ p c)) w) := by
 have HP := H_ hp
 have HRb := H_ hr
 have HD := H_ hD
 obtain ⟨x, hx⟩ : ∃ x, kingZ p c = x := ⟨_, rfl⟩
 have HX := H_ (show firstN (ofN p c 6) = x from hx)
 rw [hx]
 clear hx
 clear hp hr
 have HB := H_ (Below.refl w.heap.size w)
 go_enter Tryz.func171, Tryz.ntmps171
 go_wp2_with (first
   | (guard_target = gL 1; refine step_load rfl _ rfl b rfl p HRb.out ?_)
   | (go_at_call 31; refine (findK HX.out _ HP.out (HD.out.next HB.out)).mono ?_; rintro e w3 ⟨rfl, hb⟩; have HB := H_ (below_on HB.out hb); clear hb)
   | (go_at_call 172; refine (lg_hill x _).mono ?_; rintro e w3 ⟨rfl, hb⟩; have HB := H_ (below_on HB.out hb); clear hb))
 go_ret
 exact ⟨rfl, HB.out⟩
theorem lg_c70 (p : Nat → Int) (b : Nat) (w : World) (hp : WfP p) (hr : Row w b p) : Calls Tryz.prog 170 #[.int .u8 0, .pointer (some ⟨b, 0, none⟩)] w (BoL (decide (3 ≤ p 84)) w) := by
 have HRb := H_ hr
 clear hp hr
 have HB := H_ (Below.refl w.heap.size w)
 go_enter Tryz.func170, Tryz.ntmps170
 go_wp2_with (first
   | (guard_target = gL1 7; refine step_get (op := ⟨some 7, .load _ _, _, _, _, _⟩) rfl 5 _ rfl b 84 rfl Tryz.underlying5 rfl (.int .u8 (p 84)) (HRb.out.cell 84 (by decide)) ?_))
 go_ret
 exact ⟨rfl, HB.out⟩
theorem lg_c71 (p : Nat → Int) (b : Nat) (w : World) (hp : WfP p) (hr : Row w b p) : Calls Tryz.prog 170 #[.int .u8 1, .pointer (some ⟨b, 0, none⟩)] w (BoL (decide (3 ≤ p 85)) w) := by
 have HRb := H_ hr
 clear hp hr
 have HB := H_ (Below.refl w.heap.size w)
 go_enter Tryz.func170, Tryz.ntmps170
 go_wp2_with (first
   | (guard_target = gL1 7; refine step_get (op := ⟨some 7, .load _ _, _, _, _, _⟩) rfl 5 _ rfl b 85 rfl Tryz.underlying5 rfl (.int .u8 (p 85)) (HRb.out.cell 85 (by decide)) ?_))
 go_ret
 exact ⟨rfl, HB.out⟩
theorem lg_c7 (p : Nat → Int) (c : Int) (b : Nat) (w : World) (hp : WfP p) (hc : c = 0 ∨ c = 1) (hr : Row w b p) : Calls Tryz.prog 170 #[.int .u8 c, .pointer (some ⟨b, 0, none⟩)] w (BoL (decide (3 ≤ p (84 + c.toNat))) w) := by
 rcases hc with rfl | rfl
 ·exact lg_c70 p b w hp hr
 ·exact lg_c71 p b w hp hr
theorem ent_withoutMen : ∀ args w, (callFunc 168 args).run Tryz.prog w = .ok (.enter 168 args) w := enters_of Tryz.func168 (by kernel_rfl) rfl
theorem ent_onHill : ∀ args w, (callFunc 171 args).run Tryz.prog w = .ok (.enter 171 args) w := enters_of Tryz.func171 (by kernel_rfl) rfl
theorem ent_byChecks : ∀ args w, (callFunc 170 args).run Tryz.prog w = .ok (.enter 170 args) w := enters_of Tryz.func170 (by kernel_rfl) rfl
theorem col_ok {a c : Int} (ha : a = 0 ∨ a = 1) (h : c = a ∨ c = oth a) : c = 0 ∨ c = 1 := by
 rcases ha with rfl | rfl <;> rcases h with rfl | rfl <;> decide
theorem col_8 {p : Nat → Int} {b1 : Nat} {w : World} (a : Int) (hp : WfP p) (h1 : Row w b1 p) : ColB 168 #[.pointer (some ⟨b1, 0, none⟩)] (fun c => !menB p c) a w := fun W c hb _ => lg_c8 p c b1 W hp (h1.later hb)
theorem col_7 {p : Nat → Int} {b1 : Nat} {w : World} {a : Int} (ha : a = 0 ∨ a = 1) (hp : WfP p) (h1 : Row w b1 p) : ColB 170 #[.pointer (some ⟨b1, 0, none⟩)] (fun c => decide (3 ≤ p (84 + c.toNat))) a w := fun W c hb hc => lg_c7 p c b1 W hp (col_ok ha hc) (h1.later hb)
theorem col_6 {p : Nat → Int} {b1 : Nat} {w : World} (a : Int) (hp : WfP p) (hT : CsT w) (h1 : Row w b1 p) : ColB 171 #[.pointer (some ⟨b1, 0, none⟩)] (fun c => hilB (kingZ p c)) a w := fun W c hb _ => lg_c6 p c b1 W hp (hT.on hb).db (h1.later hb)
theorem win_3 (p : Nat → Int) (w : World) (hp : WfP p) (ht : p 78 = 0 ∨ p 78 = 1) (hT : CsT w) : Calls Tryz.prog 87 #[.agg (posA p)] w (ResL (bif !hkB p (p 78) then wnZ (oth (p 78)) 6 else (0, 0)) w) := by
 have HP := H_ hp
 have HTu := H_ ht
 have HT := H_ hT
 clear hp ht hT
 obtain ⟨x, hx⟩ : ∃ x, hkB p (p 78) = x := ⟨_, rfl⟩
 have HX := H_ hx
 obtain ⟨d, hd⟩ : ∃ d, oth (p 78) = d := ⟨_, rfl⟩
 have HO := H_ hd
 rw [hx, hd]
 clear hx hd
 have HB := H_ (Below.refl w.heap.size w)
 cases x
 ·skip
  go_enter Tryz.func87, Tryz.ntmps87
  go_wp2_with (first
   | (guard_target = gB 1; refine step_box rfl _ rfl p rfl ?_; intro b1 w1 N R; have HG1 := H_ (nA HB.out N); have HB := H_ (below_on HB.out N.below); have HR1 := H_ R; clear N R)
   | (guard_target = gA 2; refine blk_alloc (op := ⟨some 2, _, _, _, _, _⟩) rfl 44 rfl (rsA (0, 0)) rsZero ?_; intro b2 wn N R; have HG2 := H_ (nA HB.out N); have HD12 := H_ (show b1 ≠ b2 by have := HR1.out.lt; have := N.at_; omega); have HR1 := H_ (HR1.out.later N.below); have HR2 := H_ R; have HB := H_ (below_on HB.out N.below); clear N R)
   | (guard_target = gL 1; refine step_load rfl _ rfl b1 rfl p HR1.out ?_)
   | (guard_target = gL 4; refine gU rfl 5 _ rfl Tryz.underlying5 HR1.out 78 (by decide) rfl rfl ?_)
   | (go_at_call 165; refine (kingK HX.out _ HP.out (HT.out.on HB.out).db).mono ?_; rintro e w3 ⟨rfl, hb⟩; have HR1 := H_ (HR1.out.later hb); have HR2 := H_ (Blk.later HR2.out hb); have HB := H_ (below_on HB.out hb); clear hb)
   | (guard_target = gL 8; refine gU rfl 5 _ rfl Tryz.underlying5 HR1.out 78 (by decide) rfl rfl ?_)
   | (go_at_call 96; refine (otherK HO.out _).mono ?_; rintro e w3 ⟨rfl, rfl⟩; skip)
   | (go_at_call 166; refine (lg_won d 6 _).mono ?_; rintro e w3 ⟨rfl, hb⟩; have HR1 := H_ (HR1.out.later hb); have HR2 := H_ (Blk.later HR2.out hb); have HB := H_ (below_on HB.out hb); clear hb)
   | (guard_target = gS 2; refine blk_store (op := ⟨none, .store _ (.tmp 2) _, _, _, _, _⟩) rfl 44 _ _ rfl b2 rfl (rsA (0, 0)) (rsA (wnZ d 6)) rfl HR2.out rfl (rs_one _) rsSize ?_; intro wn U R; have HR1 := H_ (HR1.out.apart U HD12.out); have HR2 := H_ R; have HB := H_ (HB.out.trans (U.below HG2.out)); clear U R))
  refine bodyPost_ret (v := .agg (rsA (wnZ d 6))) (results_blk rfl _ _ _ _ rfl HR2.out Tryz.underlying44 rfl rsSize rfl) rfl ⟨rfl, HB.out⟩
 ·skip
  go_enter Tryz.func87, Tryz.ntmps87
  go_wp2_with (first
   | (guard_target = gB 1; refine step_box rfl _ rfl p rfl ?_; intro b1 w1 N R; have HG1 := H_ (nA HB.out N); have HB := H_ (below_on HB.out N.below); have HR1 := H_ R; clear N R)
   | (guard_target = gA 2; refine blk_alloc (op := ⟨some 2, _, _, _, _, _⟩) rfl 44 rfl (rsA (0, 0)) rsZero ?_; intro b2 wn N R; have HG2 := H_ (nA HB.out N); have HD12 := H_ (show b1 ≠ b2 by have := HR1.out.lt; have := N.at_; omega); have HR1 := H_ (HR1.out.later N.below); have HR2 := H_ R; have HB := H_ (below_on HB.out N.below); clear N R)
   | (guard_target = gL 1; refine step_load rfl _ rfl b1 rfl p HR1.out ?_)
   | (guard_target = gL 4; refine gU rfl 5 _ rfl Tryz.underlying5 HR1.out 78 (by decide) rfl rfl ?_)
   | (go_at_call 165; refine (kingK HX.out _ HP.out (HT.out.on HB.out).db).mono ?_; rintro e w3 ⟨rfl, hb⟩; have HR1 := H_ (HR1.out.later hb); have HR2 := H_ (Blk.later HR2.out hb); have HB := H_ (below_on HB.out hb); clear hb)
   | (go_at_call 21; refine (lg_going _).mono ?_; rintro e w3 ⟨rfl, hb⟩; have HR1 := H_ (HR1.out.later hb); have HR2 := H_ (Blk.later HR2.out hb); have HB := H_ (below_on HB.out hb); clear hb)
   | (guard_target = gS 2; refine blk_store (op := ⟨none, .store _ (.tmp 2) _, _, _, _, _⟩) rfl 44 _ _ rfl b2 rfl (rsA (0, 0)) (rsA (0, 0)) rfl HR2.out rfl (rs_one _) rsSize ?_; intro wn U R; have HR1 := H_ (HR1.out.apart U HD12.out); have HR2 := H_ R; have HB := H_ (HB.out.trans (U.below HG2.out)); clear U R))
  refine bodyPost_ret (v := .agg (rsA (0, 0))) (results_blk rfl _ _ _ _ rfl HR2.out Tryz.underlying44 rfl rsSize rfl) rfl ⟨rfl, HB.out⟩
theorem firK {N : FuncId} {lb : Array Value} {h : Int → Bool} {a y : Int} {r : Int × Int} (e : firZ a y h = r) (eN : ∀ args w, (callFunc N args).run Tryz.prog w = .ok (.enter N args) w) (w : World) (hc : ColB N lb h a w) :
  Calls Tryz.prog 167 #[.int .u8 a, .int .u8 y, .func (.func N) #[] lb] w (ResL r w) := e ▸ lg_first eN a y w hc
theorem win_4 (p : Nat → Int) (w : World) (hp : WfP p) (ht : p 78 = 0 ∨ p 78 = 1) (hT : CsT w) : Calls Tryz.prog 88 #[.agg (posA p)] w (ResL (firZ (p 78) 8 (fun c => !menB p c)) w) := by
 have HP := H_ hp
 have HTu := H_ ht
 have HT := H_ hT
 clear hp ht hT
 obtain ⟨r, hr⟩ : ∃ r, firZ (p 78) 8 (fun c => !menB p c) = r := ⟨_, rfl⟩
 have HF := H_ hr
 rw [hr]
 clear hr
 have HB := H_ (Below.refl w.heap.size w)
 go_enter Tryz.func88, Tryz.ntmps88
 go_wp2_with (first
   | (guard_target = gB 1; refine step_box rfl _ rfl p rfl ?_; intro b1 w1 N R; have HG1 := H_ (nA HB.out N); have HB := H_ (below_on HB.out N.below); have HR1 := H_ R; clear N R)
   | (guard_target = gA 2; refine blk_alloc (op := ⟨some 2, _, _, _, _, _⟩) rfl 44 rfl (rsA (0, 0)) rsZero ?_; intro b2 wn N R; have HG2 := H_ (nA HB.out N); have HD12 := H_ (show b1 ≠ b2 by have := HR1.out.lt; have := N.at_; omega); have HR1 := H_ (HR1.out.later N.below); have HR2 := H_ R; have HB := H_ (below_on HB.out N.below); clear N R)
   | (guard_target = gL 3; refine gU rfl 5 _ rfl Tryz.underlying5 HR1.out 78 (by decide) rfl rfl ?_)
   | (go_at_call 167; refine (firK HF.out ent_withoutMen _ (col_8 _ HP.out HR1.out)).mono ?_; rintro e w3 ⟨rfl, hb⟩; have HR1 := H_ (HR1.out.later hb); have HR2 := H_ (Blk.later HR2.out hb); have HB := H_ (below_on HB.out hb); clear hb)
   | (guard_target = gS 2; refine blk_store (op := ⟨none, .store _ (.tmp 2) _, _, _, _, _⟩) rfl 44 _ _ rfl b2 rfl (rsA (0, 0)) (rsA r) rfl HR2.out rfl (rs_one _) rsSize ?_; intro wn U R; have HR1 := H_ (HR1.out.apart U HD12.out); have HR2 := H_ R; have HB := H_ (HB.out.trans (U.below HG2.out)); clear U R))
 refine bodyPost_ret (v := .agg (rsA r)) (results_blk rfl _ _ _ _ rfl HR2.out Tryz.underlying44 rfl rsSize rfl) rfl ⟨rfl, HB.out⟩
theorem win_5 (p : Nat → Int) (w : World) (hp : WfP p) (ht : p 78 = 0 ∨ p 78 = 1) (hT : CsT w) : Calls Tryz.prog 89 #[.agg (posA p)] w (ResL (firZ (oth (p 78)) 7 (fun c => decide (3 ≤ p (84 + c.toNat)))) w) := by
 have HP := H_ hp
 have HTu := H_ ht
 have HT := H_ hT
 clear hp ht hT
 obtain ⟨d, hd⟩ : ∃ d, oth (p 78) = d := ⟨_, rfl⟩
 have HO := H_ hd
 have HDu := H_ (show d = 0 ∨ d = 1 by rw [← hd]; rcases HTu.out with e | e <;> rw [e] <;> decide)
 rw [hd]
 clear hd
 obtain ⟨r, hr⟩ : ∃ r, firZ (d) 7 (fun c => decide (3 ≤ p (84 + c.toNat))) = r := ⟨_, rfl⟩
 have HF := H_ hr
 rw [hr]
 clear hr
 have HB := H_ (Below.refl w.heap.size w)
 go_enter Tryz.func89, Tryz.ntmps89
 go_wp2_with (first
   | (guard_target = gB 1; refine step_box rfl _ rfl p rfl ?_; intro b1 w1 N R; have HG1 := H_ (nA HB.out N); have HB := H_ (below_on HB.out N.below); have HR1 := H_ R; clear N R)
   | (guard_target = gA 2; refine blk_alloc (op := ⟨some 2, _, _, _, _, _⟩) rfl 44 rfl (rsA (0, 0)) rsZero ?_; intro b2 wn N R; have HG2 := H_ (nA HB.out N); have HD12 := H_ (show b1 ≠ b2 by have := HR1.out.lt; have := N.at_; omega); have HR1 := H_ (HR1.out.later N.below); have HR2 := H_ R; have HB := H_ (below_on HB.out N.below); clear N R)
   | (guard_target = gL 3; refine gU rfl 5 _ rfl Tryz.underlying5 HR1.out 78 (by decide) rfl rfl ?_)
   | (go_at_call 96; refine (otherK HO.out _).mono ?_; rintro e w3 ⟨rfl, rfl⟩; skip)
   | (go_at_call 167; refine (firK HF.out ent_byChecks _ (col_7 HDu.out HP.out HR1.out)).mono ?_; rintro e w3 ⟨rfl, hb⟩; have HR1 := H_ (HR1.out.later hb); have HR2 := H_ (Blk.later HR2.out hb); have HB := H_ (below_on HB.out hb); clear hb)
   | (guard_target = gS 2; refine blk_store (op := ⟨none, .store _ (.tmp 2) _, _, _, _, _⟩) rfl 44 _ _ rfl b2 rfl (rsA (0, 0)) (rsA r) rfl HR2.out rfl (rs_one _) rsSize ?_; intro wn U R; have HR1 := H_ (HR1.out.apart U HD12.out); have HR2 := H_ R; have HB := H_ (HB.out.trans (U.below HG2.out)); clear U R))
 refine bodyPost_ret (v := .agg (rsA r)) (results_blk rfl _ _ _ _ rfl HR2.out Tryz.underlying44 rfl rsSize rfl) rfl ⟨rfl, HB.out⟩
theorem win_6 (p : Nat → Int) (w : World) (hp : WfP p) (ht : p 78 = 0 ∨ p 78 = 1) (hT : CsT w) : Calls Tryz.prog 90 #[.agg (posA p)] w (ResL (firZ (oth (p 78)) 6 (fun c => hilB (kingZ p c))) w) := by
 have HP := H_ hp
 have HTu := H_ ht
 have HT := H_ hT
 clear hp ht hT
 obtain ⟨d, hd⟩ : ∃ d, oth (p 78) = d := ⟨_, rfl⟩
 have HO := H_ hd
 have HDu := H_ (show d = 0 ∨ d = 1 by rw [← hd]; rcases HTu.out with e | e <;> rw [e] <;> decide)
 rw [hd]
 clear hd
 obtain ⟨r, hr⟩ : ∃ r, firZ (d) 6 (fun c => hilB (kingZ p c)) = r := ⟨_, rfl⟩
 have HF := H_ hr
 rw [hr]
 clear hr
 have HB := H_ (Below.refl w.heap.size w)
 go_enter Tryz.func90, Tryz.ntmps90
 go_wp2_with (first
   | (guard_target = gB 1; refine step_box rfl _ rfl p rfl ?_; intro b1 w1 N R; have HG1 := H_ (nA HB.out N); have HB := H_ (below_on HB.out N.below); have HR1 := H_ R; clear N R)
   | (guard_target = gA 2; refine blk_alloc (op := ⟨some 2, _, _, _, _, _⟩) rfl 44 rfl (rsA (0, 0)) rsZero ?_; intro b2 wn N R; have HG2 := H_ (nA HB.out N); have HD12 := H_ (show b1 ≠ b2 by have := HR1.out.lt; have := N.at_; omega); have HR1 := H_ (HR1.out.later N.below); have HR2 := H_ R; have HB := H_ (below_on HB.out N.below); clear N R)
   | (guard_target = gL 3; refine gU rfl 5 _ rfl Tryz.underlying5 HR1.out 78 (by decide) rfl rfl ?_)
   | (go_at_call 96; refine (otherK HO.out _).mono ?_; rintro e w3 ⟨rfl, rfl⟩; skip)
   | (go_at_call 167; refine (firK HF.out ent_onHill _ (col_6 _ HP.out (HT.out.on HB.out) HR1.out)).mono ?_; rintro e w3 ⟨rfl, hb⟩; have HR1 := H_ (HR1.out.later hb); have HR2 := H_ (Blk.later HR2.out hb); have HB := H_ (below_on HB.out hb); clear hb)
   | (guard_target = gS 2; refine blk_store (op := ⟨none, .store _ (.tmp 2) _, _, _, _, _⟩) rfl 44 _ _ rfl b2 rfl (rsA (0, 0)) (rsA r) rfl HR2.out rfl (rs_one _) rsSize ?_; intro wn U R; have HR1 := H_ (HR1.out.apart U HD12.out); have HR2 := H_ R; have HB := H_ (HB.out.trans (U.below HG2.out)); clear U R))
 refine bodyPost_ret (v := .agg (rsA r)) (results_blk rfl _ _ _ _ rfl HR2.out Tryz.underlying44 rfl rsSize rfl) rfl ⟨rfl, HB.out⟩
theorem win_7 (p : Nat → Int) (w : World) (hp : WfP p) (ht : p 78 = 0 ∨ p 78 = 1) (hT : CsT w) : Calls Tryz.prog 91 #[.agg (posA p)] w (ResL (bif !menB p 0 then wnZ 1 8 else (0, 0)) w) := by
 have HP := H_ hp
 have HTu := H_ ht
 have HT := H_ hT
 clear hp ht hT
 obtain ⟨x, hx⟩ : ∃ x, menB p 0 = x := ⟨_, rfl⟩
 have HX := H_ hx
 rw [hx]
 clear hx
 have HB := H_ (Below.refl w.heap.size w)
 cases x
 ·skip
  go_enter Tryz.func91, Tryz.ntmps91
  go_wp2_with (first
   | (guard_target = gB 1; refine step_box rfl _ rfl p rfl ?_; intro b1 w1 N R; have HG1 := H_ (nA HB.out N); have HB := H_ (below_on HB.out N.below); have HR1 := H_ R; clear N R)
   | (guard_target = gA 2; refine blk_alloc (op := ⟨some 2, _, _, _, _, _⟩) rfl 44 rfl (rsA (0, 0)) rsZero ?_; intro b2 wn N R; have HG2 := H_ (nA HB.out N); have HD12 := H_ (show b1 ≠ b2 by have := HR1.out.lt; have := N.at_; omega); have HR1 := H_ (HR1.out.later N.below); have HR2 := H_ R; have HB := H_ (below_on HB.out N.below); clear N R)
   | (guard_target = gL 1; refine step_load rfl _ rfl b1 rfl p HR1.out ?_)
   | (go_at_call 169; refine (menK HX.out _ HP.out).mono ?_; rintro e w3 ⟨rfl, hb⟩; have HR1 := H_ (HR1.out.later hb); have HR2 := H_ (Blk.later HR2.out hb); have HB := H_ (below_on HB.out hb); clear hb)
   | (go_at_call 166; refine (lg_won 1 8 _).mono ?_; rintro e w3 ⟨rfl, hb⟩; have HR1 := H_ (HR1.out.later hb); have HR2 := H_ (Blk.later HR2.out hb); have HB := H_ (below_on HB.out hb); clear hb)
   | (guard_target = gS 2; refine blk_store (op := ⟨none, .store _ (.tmp 2) _, _, _, _, _⟩) rfl 44 _ _ rfl b2 rfl (rsA (0, 0)) (rsA (wnZ 1 8)) rfl HR2.out rfl (rs_one _) rsSize ?_; intro wn U R; have HR1 := H_ (HR1.out.apart U HD12.out); have HR2 := H_ R; have HB := H_ (HB.out.trans (U.below HG2.out)); clear U R))
  refine bodyPost_ret (v := .agg (rsA (wnZ 1 8))) (results_blk rfl _ _ _ _ rfl HR2.out Tryz.underlying44 rfl rsSize rfl) rfl ⟨rfl, HB.out⟩
 ·skip
  go_enter Tryz.func91, Tryz.ntmps91
  go_wp2_with (first
   | (guard_target = gB 1; refine step_box rfl _ rfl p rfl ?_; intro b1 w1 N R; have HG1 := H_ (nA HB.out N); have HB := H_ (below_on HB.out N.below); have HR1 := H_ R; clear N R)
   | (guard_target = gA 2; refine blk_alloc (op := ⟨some 2, _, _, _, _, _⟩) rfl 44 rfl (rsA (0, 0)) rsZero ?_; intro b2 wn N R; have HG2 := H_ (nA HB.out N); have HD12 := H_ (show b1 ≠ b2 by have := HR1.out.lt; have := N.at_; omega); have HR1 := H_ (HR1.out.later N.below); have HR2 := H_ R; have HB := H_ (below_on HB.out N.below); clear N R)
   | (guard_target = gL 1; refine step_load rfl _ rfl b1 rfl p HR1.out ?_)
   | (go_at_call 169; refine (menK HX.out _ HP.out).mono ?_; rintro e w3 ⟨rfl, hb⟩; have HR1 := H_ (HR1.out.later hb); have HR2 := H_ (Blk.later HR2.out hb); have HB := H_ (below_on HB.out hb); clear hb)
   | (go_at_call 21; refine (lg_going _).mono ?_; rintro e w3 ⟨rfl, hb⟩; have HR1 := H_ (HR1.out.later hb); have HR2 := H_ (Blk.later HR2.out hb); have HB := H_ (below_on HB.out hb); clear hb)
   | (guard_target = gS 2; refine blk_store (op := ⟨none, .store _ (.tmp 2) _, _, _, _, _⟩) rfl 44 _ _ rfl b2 rfl (rsA (0, 0)) (rsA (0, 0)) rfl HR2.out rfl (rs_one _) rsSize ?_; intro wn U R; have HR1 := H_ (HR1.out.apart U HD12.out); have HR2 := H_ R; have HB := H_ (HB.out.trans (U.below HG2.out)); clear U R))
  refine bodyPost_ret (v := .agg (rsA (0, 0))) (results_blk rfl _ _ _ _ rfl HR2.out Tryz.underlying44 rfl rsSize rfl) rfl ⟨rfl, HB.out⟩
end Go.Proofs.YteblmnbagbdiiaaGreatDoor
