/-
 The document's own All of layer 12.
-/
import Derived.Test.YtigkbccpkepdmaaGreatDoorVrC
import Derived.Test.YtigkbccpkepdmaaGreatDoorVrD
import Derived.Test.YtigkbccpkepdmaaGreatDoorVrE
import Derived.Test.YtigkbccpkepdmaaGreatDoorVrF
import Derived.Test.YtigkbccpkepdmaaGreatDoorVrP
import Derived.Test.YtigkbccpkepdmaaGreatDoorVaG
import Derived.Maps.AppendAt
import Derived.Deep.Onto
namespace Go.Proofs.YtigkbccpkepdmaaGreatDoor
open Go.RowKit Go.Shelf
set_option linter.unusedVariables false
set_option linter.unusedSimpArgs false
attribute [local go_sem] Oper.semAt_some

/-- A list of errors made by append, at or beyond block B. -/
def ErO (B : Nat) (L : List Int) (v : Value) (w : World) : Prop := w.ownsRow B 34 1 v L.length (L.map errV)
theorem ErO.later {B : Nat} {L : List Int} {v : Value} {w w' : World} (h : ErO B L v w) (hb : Below w.heap.size w w') : ErO B L v w' := by
 refine ⟨h.1, ?_⟩
 rcases h.2 with hn | ⟨g, cap, cur, hv, hB, hg, rest⟩
 ·exact .inl hn
 ·exact .inr ⟨g, cap, cur, hv, hB, (hb.block g (Array.getElem?_eq_some_iff.1 hg).1).trans hg, rest⟩
theorem ErO.from {B : Nat} {L : List Int} {v : Value} {w : World} (h : ErO B L v w) {k : Nat} (hk : v.ownBlock = some k) : B ≤ k := by
 rcases h.2 with ⟨rfl, _⟩ | ⟨g, cap, cur, rfl, hB, _⟩
 ·cases hk
 ·simp [Value.ownBlock] at hk; omega
theorem ErO.grow {B : Nat} {L : List Int} {v v' : Value} {w w' : World} {x : Int} (h : ErO B L v w) (hown : w'.ownsRow B 34 1 v' (L.length + 1) (L.map errV ++ [.int .i64 x])) : ErO B (L ++ [x]) v' w' := by
 unfold ErO; rw [List.map_append, List.length_append]; exact hown
theorem ekept_grown {w w' : World} {row : Option Nat} (h : w.grownBy w' row) : Kept (fun k => row = some k) w w' := ⟨⟨h.os, h.tape, h.output, h.size, fun k hk => by omega⟩, fun k hk hx => h.block k hk fun e => hx e.symm⟩
theorem erO_len (p : Nat → Int) (k : Nat) : (erL p k).length ≤ k := by
 unfold erL
 rw [List.length_map]
 have := List.length_filter_le (fun j => !okN p j) (List.range k)
 rwa [List.length_range] at this
theorem erO_yes {p : Nat → Int} {k : Nat} (h : okN p k = true) : erL p (k + 1) = erL p k := by rw [erL_succ, h, cond_true, List.append_nil]
theorem erO_no {p : Nat → Int} {k : Nat} (h : okN p k = false) : erL p (k + 1) = erL p k ++ [cdZ k] := by rw [erL_succ, h, cond_false]
theorem g_kings {p : Nat → Int} {x : Bool} (h : kgB p = x) (w : World) (hp : FitP p) : Calls Tryz.prog 14 #[.agg (posA p)] w (BoL x w) := h ▸ vr_kings p w hp
theorem g_pawns {p : Nat → Int} {x : Bool} (h : pwnB p 64 = x) (w : World) (hp : FitP p) (h9 : p 0 < 9) : Calls Tryz.prog 15 #[.agg (posA p)] w (BoL x w) := h ▸ vr_pawns p w hp h9
theorem g_pock {p : Nat → Int} {x : Bool} (h : pkB p = x) (w : World) (hp : FitP p) : Calls Tryz.prog 16 #[.agg (posA p)] w (BoL x w) := h ▸ vr_pockets p w hp
theorem g_pass {p : Nat → Int} {x : Bool} (h : pasB p = x) (w : World) (hp : FitP p) (h1 : p 78 ≤ 1) (hr : -1 ≤ p 83 ∧ p 83 < 64) : Calls Tryz.prog 18 #[.agg (posA p)] w (BoL x w) := h ▸ vr_pass p w hp h1 hr
theorem g_chk {p : Nat → Int} {x : Bool} (h : chB p = x) (w : World) (hp : FitP p) (h1 : p 78 ≤ 1) : Calls Tryz.prog 19 #[.agg (posA p)] w (BoL x w) := h ▸ vr_check p w hp h1
theorem g_plain {p : Nat → Int} {x : Bool} (h : argB p = x) (w : World) (hp : FitP p) : Calls Tryz.prog 13 #[.agg (posA p)] w (BoL x w) := h ▸ vr_plain p w hp
theorem g_rt00 {p : Nat → Int} {x : Bool} (h : rkB p 0 0 = x) (w : World) (hp : FitP p) (hr : -1 ≤ roA p 0 0 ∧ roA p 0 0 < 8) : Calls Tryz.prog 17 #[.agg (posA p), .int .u8 0, .int .i64 0] w (BoL x w) := h ▸ vr_right00 p w hp hr
theorem g_rt01 {p : Nat → Int} {x : Bool} (h : rkB p 0 1 = x) (w : World) (hp : FitP p) (hr : -1 ≤ roA p 0 1 ∧ roA p 0 1 < 8) : Calls Tryz.prog 17 #[.agg (posA p), .int .u8 0, .int .i64 1] w (BoL x w) := h ▸ vr_right01 p w hp hr
theorem g_rt10 {p : Nat → Int} {x : Bool} (h : rkB p 1 0 = x) (w : World) (hp : FitP p) (hr : -1 ≤ roA p 1 0 ∧ roA p 1 0 < 8) : Calls Tryz.prog 17 #[.agg (posA p), .int .u8 1, .int .i64 0] w (BoL x w) := h ▸ vr_right10 p w hp hr
theorem g_rt11 {p : Nat → Int} {x : Bool} (h : rkB p 1 1 = x) (w : World) (hp : FitP p) (hr : -1 ≤ roA p 1 1 ∧ roA p 1 1 < 8) : Calls Tryz.prog 17 #[.agg (posA p), .int .u8 1, .int .i64 1] w (BoL x w) := h ▸ vr_right11 p w hp hr
/-- What is known of a frame of All's: its first four slots. -/
structure KnA (p : Nat → Int) (b1 : Nat) (v : Value) (a : Act) : Prop where
 df : a.defers = []
 size : a.tmps.size = 83
 s0 : a.tmps[0]? = some (.agg (posA p))
 s1 : a.tmps[1]? = some (.pointer (some ⟨b1, 0, none⟩))
 s2 : a.tmps[2]? = some (.slice none 0 0)
 s3 : a.tmps[3]? = some v
theorem getA_d (t : Array Value) (k : Nat) (h : k < t.size) : t[k]? = some (t.getD k undef) := by simp [Array.getD, h]
theorem arrA83 (t : Array Value) (h : t.size = 83) : t = #[t.getD 0 undef, t.getD 1 undef, t.getD 2 undef, t.getD 3 undef, t.getD 4 undef, t.getD 5 undef, t.getD 6 undef, t.getD 7 undef, t.getD 8 undef, t.getD 9 undef, t.getD 10 undef, t.getD 11 undef, t.getD 12 undef, t.getD 13 undef, t.getD 14 undef, t.getD 15 undef, t.getD 16 undef, t.getD 17 undef, t.getD 18 undef, t.getD 19 undef, t.getD 20 undef, t.getD 21 undef, t.getD 22 undef, t.getD 23 undef, t.getD 24 undef, t.getD 25 undef, t.getD 26 undef, t.getD 27 undef, t.getD 28 undef, t.getD 29 undef, t.getD 30 undef, t.getD 31 undef, t.getD 32 undef, t.getD 33 undef, t.getD 34 undef, t.getD 35 undef, t.getD 36 undef, t.getD 37 undef, t.getD 38 undef, t.getD 39 undef, t.getD 40 undef, t.getD 41 undef, t.getD 42 undef, t.getD 43 undef, t.getD 44 undef, t.getD 45 undef, t.getD 46 undef, t.getD 47 undef, t.getD 48 undef, t.getD 49 undef, t.getD 50 undef, t.getD 51 undef, t.getD 52 undef, t.getD 53 undef, t.getD 54 undef, t.getD 55 undef, t.getD 56 undef, t.getD 57 undef, t.getD 58 undef, t.getD 59 undef, t.getD 60 undef, t.getD 61 undef, t.getD 62 undef, t.getD 63 undef, t.getD 64 undef, t.getD 65 undef, t.getD 66 undef, t.getD 67 undef, t.getD 68 undef, t.getD 69 undef, t.getD 70 undef, t.getD 71 undef, t.getD 72 undef, t.getD 73 undef, t.getD 74 undef, t.getD 75 undef, t.getD 76 undef, t.getD 77 undef, t.getD 78 undef, t.getD 79 undef, t.getD 80 undef, t.getD 81 undef, t.getD 82 undef] := by
 apply Array.ext_getElem?
 intro i
 match i with
 | 0 => exact getA_d t 0 (by omega)
 | 1 => exact getA_d t 1 (by omega)
 | 2 => exact getA_d t 2 (by omega)
 | 3 => exact getA_d t 3 (by omega)
 | 4 => exact getA_d t 4 (by omega)
 | 5 => exact getA_d t 5 (by omega)
 | 6 => exact getA_d t 6 (by omega)
 | 7 => exact getA_d t 7 (by omega)
 | 8 => exact getA_d t 8 (by omega)
 | 9 => exact getA_d t 9 (by omega)
 | 10 => exact getA_d t 10 (by omega)
 | 11 => exact getA_d t 11 (by omega)
 | 12 => exact getA_d t 12 (by omega)
 | 13 => exact getA_d t 13 (by omega)
 | 14 => exact getA_d t 14 (by omega)
 | 15 => exact getA_d t 15 (by omega)
 | 16 => exact getA_d t 16 (by omega)
 | 17 => exact getA_d t 17 (by omega)
 | 18 => exact getA_d t 18 (by omega)
 | 19 => exact getA_d t 19 (by omega)
 | 20 => exact getA_d t 20 (by omega)
 | 21 => exact getA_d t 21 (by omega)
 | 22 => exact getA_d t 22 (by omega)
 | 23 => exact getA_d t 23 (by omega)
 | 24 => exact getA_d t 24 (by omega)
 | 25 => exact getA_d t 25 (by omega)
 | 26 => exact getA_d t 26 (by omega)
 | 27 => exact getA_d t 27 (by omega)
 | 28 => exact getA_d t 28 (by omega)
 | 29 => exact getA_d t 29 (by omega)
 | 30 => exact getA_d t 30 (by omega)
 | 31 => exact getA_d t 31 (by omega)
 | 32 => exact getA_d t 32 (by omega)
 | 33 => exact getA_d t 33 (by omega)
 | 34 => exact getA_d t 34 (by omega)
 | 35 => exact getA_d t 35 (by omega)
 | 36 => exact getA_d t 36 (by omega)
 | 37 => exact getA_d t 37 (by omega)
 | 38 => exact getA_d t 38 (by omega)
 | 39 => exact getA_d t 39 (by omega)
 | 40 => exact getA_d t 40 (by omega)
 | 41 => exact getA_d t 41 (by omega)
 | 42 => exact getA_d t 42 (by omega)
 | 43 => exact getA_d t 43 (by omega)
 | 44 => exact getA_d t 44 (by omega)
 | 45 => exact getA_d t 45 (by omega)
 | 46 => exact getA_d t 46 (by omega)
 | 47 => exact getA_d t 47 (by omega)
 | 48 => exact getA_d t 48 (by omega)
 | 49 => exact getA_d t 49 (by omega)
 | 50 => exact getA_d t 50 (by omega)
 | 51 => exact getA_d t 51 (by omega)
 | 52 => exact getA_d t 52 (by omega)
 | 53 => exact getA_d t 53 (by omega)
 | 54 => exact getA_d t 54 (by omega)
 | 55 => exact getA_d t 55 (by omega)
 | 56 => exact getA_d t 56 (by omega)
 | 57 => exact getA_d t 57 (by omega)
 | 58 => exact getA_d t 58 (by omega)
 | 59 => exact getA_d t 59 (by omega)
 | 60 => exact getA_d t 60 (by omega)
 | 61 => exact getA_d t 61 (by omega)
 | 62 => exact getA_d t 62 (by omega)
 | 63 => exact getA_d t 63 (by omega)
 | 64 => exact getA_d t 64 (by omega)
 | 65 => exact getA_d t 65 (by omega)
 | 66 => exact getA_d t 66 (by omega)
 | 67 => exact getA_d t 67 (by omega)
 | 68 => exact getA_d t 68 (by omega)
 | 69 => exact getA_d t 69 (by omega)
 | 70 => exact getA_d t 70 (by omega)
 | 71 => exact getA_d t 71 (by omega)
 | 72 => exact getA_d t 72 (by omega)
 | 73 => exact getA_d t 73 (by omega)
 | 74 => exact getA_d t 74 (by omega)
 | 75 => exact getA_d t 75 (by omega)
 | 76 => exact getA_d t 76 (by omega)
 | 77 => exact getA_d t 77 (by omega)
 | 78 => exact getA_d t 78 (by omega)
 | 79 => exact getA_d t 79 (by omega)
 | 80 => exact getA_d t 80 (by omega)
 | 81 => exact getA_d t 81 (by omega)
 | 82 => exact getA_d t 82 (by omega)
 | n + 83 =>
  rw [Array.getElem?_eq_none (by omega), Array.getElem?_eq_none (by show 83 ≤ n + 83; omega)]
theorem KnA.open {p : Nat → Int} {b1 : Nat} {v : Value} {a : Act} (h : KnA p b1 v a) : ∃ f : Nat → Value, a = { tmps := #[.agg (posA p), .pointer (some ⟨b1, 0, none⟩), .slice none 0 0, v, f 4, f 5, f 6, f 7, f 8, f 9, f 10, f 11, f 12, f 13, f 14, f 15, f 16, f 17, f 18, f 19, f 20, f 21, f 22, f 23, f 24, f 25, f 26, f 27, f 28, f 29, f 30, f 31, f 32, f 33, f 34, f 35, f 36, f 37, f 38, f 39, f 40, f 41, f 42, f 43, f 44, f 45, f 46, f 47, f 48, f 49, f 50, f 51, f 52, f 53, f 54, f 55, f 56, f 57, f 58, f 59, f 60, f 61, f 62, f 63, f 64, f 65, f 66, f 67, f 68, f 69, f 70, f 71, f 72, f 73, f 74, f 75, f 76, f 77, f 78, f 79, f 80, f 81, f 82], defers := [] } := by
 refine ⟨fun i => a.tmps.getD i undef, ?_⟩
 obtain ⟨t, d⟩ := a
 obtain ⟨h1, h2, h3, h4, h5, h6⟩ := h
 dsimp only at h1 h2 h3 h4 h5 h6 ⊢
 subst h1
 have e0 : t.getD 0 undef = .agg (posA p) := by have := getA_d t 0 (by omega); rw [h3] at this; exact (Option.some.inj this).symm
 have e1 : t.getD 1 undef = .pointer (some ⟨b1, 0, none⟩) := by have := getA_d t 1 (by omega); rw [h4] at this; exact (Option.some.inj this).symm
 have e2 : t.getD 2 undef = .slice none 0 0 := by have := getA_d t 2 (by omega); rw [h5] at this; exact (Option.some.inj this).symm
 have e3 : t.getD 3 undef = v := by have := getA_d t 3 (by omega); rw [h6] at this; exact (Option.some.inj this).symm
 have := arrA83 t h2
 rw [e0, e1, e2, e3] at this
 exact congrArg (fun x => ({ tmps := x, defers := [] } : Act)) this
set_option maxRecDepth 100000 in
set_option maxHeartbeats 8000000 in
theorem vr_all_no (p : Nat → Int) (w : World) (hp : FitP p) (ha : argB p = false) : Calls Tryz.prog 6 #[.agg (posA p)] w (ErP (wrL p) w) := by
 have HP := Lib.hid hp
 have HA := Lib.hid ha
 have HW := Lib.hid (show wrL p = [2] by unfold wrL; rw [ha]; rfl)
 obtain ⟨i0, hi, hz0, hz1, hz2⟩ : ∃ i, Tryz.prog.info? 34 = some i ∧ i.zero = some (.int .i64 0) ∧ i.size = 1 ∧ i.bytes = 8 := by
  cases h : Tryz.prog.info? 34 with
  | none => have := infoEr; rw [h] at this; cases this
  | some i => have := infoEr; rw [h] at this; simp at this; exact ⟨i, rfl, this.1, this.2.1, this.2.2⟩
 clear hp ha
 have HB := Lib.hid (Below.refl w.heap.size w)
 go_enter Tryz.func6, Tryz.ntmps6
 go_wp2_with (first
   | (guard_target = Go.wpList _ _ _ ((⟨some 1, .box _ _, _, _, _, _⟩ : Go.Oper) :: _) _ _; refine step_box rfl _ rfl p rfl ?_; intro b1 w1 N R; have HG1 := Lib.hid (show w.heap.size ≤ b1 by have := HB.out.size; have := N.at_; omega); have HB := Lib.hid (below_on HB.out N.below); have HR1 := Lib.hid R; clear N R)
   | (guard_target = Go.wpList _ _ _ ((⟨some 4, .load _ (.tmp 1), _, _, _, _⟩ : Go.Oper) :: _) _ _; refine step_load (op := ⟨some 4, .load _ (.tmp 1), _, _, _, _⟩) rfl _ rfl b1 rfl p HR1.out ?_)
   | (go_at_call 13; refine (g_plain HA.out _ HP.out).mono ?_; rintro e w3 ⟨rfl, hb⟩; have HR1 := Lib.hid (HR1.out.later hb); have HB := Lib.hid (below_on HB.out hb); clear hb)
   | (at_builtin; refine wpList_append_own_at _ rfl _ _ 32 rfl w.heap.size 34 i0 (.int .i64 0) 1 8 Tryz.underlying32 hi hz0 hz1 hz2 rfl (by decide) _ _ _ rfl (World.ownsRow_nil _ _ _ _) ⟨_, 0, none⟩ 1 1 [.int .i64 2] rfl rfl ?c1 ?c2 ?c3 ?c4 ?c5 ?_))
 case c1 => exact cell_one_new _ _ _
 case c2 => simp [Value.oneCell']
 case c3 => unfold maxLen; omega
 case c4 => omega
 case c5 => have := HB.out.size; simp; omega
 intro v' w8 hown' hgrow _ hat
 have hkp := (Kept.of_call (fun k => (Value.slice none 0 0).ownBlock = some k) (box_below _ _)).trans (ekept_grown hgrow)
 have HBn := Lib.hid (HB.out.trans (hkp.below (fun i hi => by cases hi) HB.out.size))
 have HO := Lib.hid (show World.ownsRow w8 w.heap.size 34 1 v' ([2] : List Int).length (([2] : List Int).map errV) from hown')
 clear hkp hown' hgrow hat
 go_wp2_with fail
 exact bodyPost_ret (results_tmp rfl _ _ _) rfl ⟨_, rfl, by rw [HW.out]; exact HO.out, HBn.out⟩
set_option maxRecDepth 100000 in
set_option maxHeartbeats 8000000 in
theorem vr_all_yes (p : Nat → Int) (w : World) (hp : FitP p) (ha : argB p = true) : Calls Tryz.prog 6 #[.agg (posA p)] w (ErP (wrL p) w) := by
 have HP := Lib.hid hp
 have HA := Lib.hid ha
 have HW := Lib.hid (show wrL p = erL p 8 by unfold wrL; rw [ha]; rfl)
 have H9 := Lib.hid (argB_var ha).1
 have H1 := Lib.hid (argB_var ha).2.1
 have HPr := Lib.hid (show -1 ≤ p 83 ∧ p 83 < 64 from ⟨(argB_var ha).2.2.1, (argB_var ha).2.2.2.1⟩)
 have HRk := Lib.hid (fun (c s : Nat) (hc : c < 2) (hs : s < 2) => show -1 ≤ roA p c s ∧ roA p c s < 8 by
  have := filB_at (argB_var ha).2.2.2.2.2.1 (c * 2 + s) (by omega)
  unfold roA
  rwa [← Nat.add_assoc] at this)
 have HE0 := Lib.hid (show erL p 1 = [] from erO_yes (show okN p 0 = true from ha))
 obtain ⟨i0, hi, hz0, hz1, hz2⟩ : ∃ i, Tryz.prog.info? 34 = some i ∧ i.zero = some (.int .i64 0) ∧ i.size = 1 ∧ i.bytes = 8 := by
  cases h : Tryz.prog.info? 34 with
  | none => have := infoEr; rw [h] at this; cases this
  | some i => have := infoEr; rw [h] at this; simp at this; exact ⟨i, rfl, this.1, this.2.1, this.2.2⟩
 clear hp ha
 have HB := Lib.hid (Below.refl w.heap.size w)
 go_enter Tryz.func6, Tryz.ntmps6
 refine wp_cutV (fun a w' => ∃ b1 : Nat, KnA p b1 undef a ∧ w.heap.size ≤ b1 ∧ Row w' b1 p ∧ Below w.heap.size w w') (fun K hK => ?_) ?_
 ·go_wp2_with (first
   | (guard_target = Go.wpList _ _ _ ((⟨some 1, .box _ _, _, _, _, _⟩ : Go.Oper) :: _) _ _; refine step_box rfl _ rfl p rfl ?_; intro b1 w1 N R; have HG1 := Lib.hid (show w.heap.size ≤ b1 by have := HB.out.size; have := N.at_; omega); have HB := Lib.hid (below_on HB.out N.below); have HR1 := Lib.hid R; clear N R))
  exact hK.out _ _ ⟨b1, ⟨rfl, rfl, rfl, rfl, rfl, rfl⟩, HG1.out, HR1.out, HB.out⟩
 clear HB
 rintro a wm ⟨b1, hkn, hg, hr1, hb⟩
 obtain ⟨f, rfl⟩ := hkn.open
 have HG1 := Lib.hid hg
 have HR1 := Lib.hid hr1
 have HB := Lib.hid hb
 clear hg hr1 hb hkn
 refine wp_cutV (fun a w' => KnA p b1 (.slice none 0 0) a ∧ Row w' b1 p ∧ Below w.heap.size w w') (fun K hK => ?_) ?_
 ·go_wp2_with fail
  exact hK.out _ _ ⟨⟨rfl, rfl, rfl, rfl, rfl, rfl⟩, HR1.out, HB.out⟩
 clear HR1 HB f
 rintro a wm ⟨hkn, hr1, hb⟩
 obtain ⟨f, rfl⟩ := hkn.open
 have HR1 := Lib.hid hr1
 have HB := Lib.hid hb
 clear hr1 hb hkn
 refine wp_cutV (fun a w' => ∃ v, KnA p b1 v a ∧ ErO (b1 + 1) (erL p 1) v w' ∧ Row w' b1 p ∧ Below w.heap.size w w' ∧ b1 + 1 ≤ w'.heap.size) (fun K hK => ?_) ?_
 ·have HE := Lib.hid (show ErO (b1 + 1) (erL p 1) (.slice none 0 0) wm by rw [HE0.out]; exact World.ownsRow_nil _ _ _ _)
  have HS := Lib.hid (show b1 + 1 ≤ wm.heap.size from HR1.out.lt)
  go_wp2_with (first
   | (guard_target = Go.wpList _ _ _ ((⟨some 4, .load _ (.tmp 1), _, _, _, _⟩ : Go.Oper) :: _) _ _; refine step_load (op := ⟨some 4, .load _ (.tmp 1), _, _, _, _⟩) rfl _ rfl b1 rfl p HR1.out ?_)
   | (go_at_call 13; refine (g_plain HA.out _ HP.out).mono ?_; rintro e w3 ⟨rfl, hb⟩; have HR1 := Lib.hid (HR1.out.later hb); have HE := Lib.hid (HE.out.later hb); have HS := Lib.hid (Nat.le_trans HS.out hb.size); have HB := Lib.hid (below_on HB.out hb); clear hb))
  exact hK.out _ _ ⟨_, ⟨rfl, rfl, rfl, rfl, rfl, rfl⟩, HE.out, HR1.out, HB.out, HS.out⟩
 clear HR1 HB f
 rintro a wm ⟨v, hkn, he, hr1, hb, hs⟩
 obtain ⟨f, rfl⟩ := hkn.open
 clear hkn
 have HE := Lib.hid he
 have HR1 := Lib.hid hr1
 have HB := Lib.hid hb
 have HS := Lib.hid hs
 clear he hr1 hb hs
 refine wp_cutV (fun a w' => ∃ v, KnA p b1 v a ∧ ErO (b1 + 1) (erL p 2) v w' ∧ Row w' b1 p ∧ Below w.heap.size w w' ∧ b1 + 1 ≤ w'.heap.size) (fun K hK => ?_) ?_
 ·skip
  by_cases h1 : p 86 < 0
  ·have g0 : decide (p 86 < 0) = true := decide_eq_true h1
   have hok : okN p 1 = false := by show clkB p = false; unfold clkB nrZ; rw [Bool.eq_iff_iff]; simp only [Bool.and_eq_true, beq_iff_eq, Bool.false_eq_true, iff_false]; omega
   clear h1
   have HN := Lib.hid (show erL p 2 = erL p 1 ++ [125] from erO_no hok)
   clear hok
   have HLn := Lib.hid (erO_len p 1)
   go_wp2_with (first
    | (guard_target = Go.wpList _ _ _ ((⟨some _, .load _ (.tmp 10), _, _, _, _⟩ : Go.Oper) :: _) _ _; refine step_get rfl 3 _ rfl b1 86 rfl Tryz.underlying3 rfl (.int .i64 (p 86)) ?_ ?_; exact HR1.out.cell 86 (by decide))
    | (at_builtin; refine wpList_append_own_at _ rfl _ _ 32 rfl (b1 + 1) 34 i0 (.int .i64 0) 1 8 Tryz.underlying32 hi hz0 hz1 hz2 rfl (by decide) _ _ _ rfl (World.ownsRow.alloc HE.out _) ⟨_, 0, none⟩ 1 1 [.int .i64 125] rfl rfl ?c1 ?c2 ?c3 ?c4 ?c5 ?_))
   case c1 => exact cell_one_new _ _ _
   case c2 => simp [Value.oneCell']
   case c3 => unfold maxLen; have := HLn.out; omega
   case c4 => have := HLn.out; omega
   case c5 => have := HS.out; simp; omega
   intro v' w8 hown' hgrow _ hat
   have HEn := Lib.hid (HE.out.grow hown')
   have hkp := (Kept.of_call (fun k => v.ownBlock = some k) (box_below _ _)).trans (ekept_grown hgrow)
   have HR1n := Lib.hid (hkp.obj (show _ = _ from HR1.out) (fun e => by have h1 := HE.out.from e; omega))
   have HBn := Lib.hid (HB.out.trans (hkp.below (fun i hi => by have h1 := HE.out.from hi; have := HG1.out; omega) HB.out.size))
   have HSn := Lib.hid (Nat.le_trans HS.out hkp.size)
   clear hkp hown' hgrow hat
   go_wp2_with fail
   exact hK.out _ _ ⟨_, ⟨rfl, rfl, rfl, rfl, rfl, rfl⟩, by rw [HN.out]; exact HEn.out, HR1n.out, HBn.out, HSn.out⟩
  ·have g0 : decide (p 86 < 0) = false := decide_eq_false h1
   by_cases h2 : 10000 < p 86
   ·have g1 : decide (10000 < p 86) = true := decide_eq_true h2
    have hok : okN p 1 = false := by show clkB p = false; unfold clkB nrZ; rw [Bool.eq_iff_iff]; simp only [Bool.and_eq_true, beq_iff_eq, Bool.false_eq_true, iff_false]; omega
    clear h1 h2
    have HN := Lib.hid (show erL p 2 = erL p 1 ++ [125] from erO_no hok)
    clear hok
    have HLn := Lib.hid (erO_len p 1)
    go_wp2_with (first
     | (guard_target = Go.wpList _ _ _ ((⟨some _, .load _ (.tmp 10), _, _, _, _⟩ : Go.Oper) :: _) _ _; refine step_get rfl 3 _ rfl b1 86 rfl Tryz.underlying3 rfl (.int .i64 (p 86)) ?_ ?_; exact HR1.out.cell 86 (by decide))
     | (guard_target = Go.wpList _ _ _ ((⟨some _, .load _ (.tmp 14), _, _, _, _⟩ : Go.Oper) :: _) _ _; refine step_get rfl 3 _ rfl b1 86 rfl Tryz.underlying3 rfl (.int .i64 (p 86)) ?_ ?_; exact HR1.out.cell 86 (by decide))
     | (at_builtin; refine wpList_append_own_at _ rfl _ _ 32 rfl (b1 + 1) 34 i0 (.int .i64 0) 1 8 Tryz.underlying32 hi hz0 hz1 hz2 rfl (by decide) _ _ _ rfl (World.ownsRow.alloc HE.out _) ⟨_, 0, none⟩ 1 1 [.int .i64 125] rfl rfl ?c1 ?c2 ?c3 ?c4 ?c5 ?_))
    case c1 => exact cell_one_new _ _ _
    case c2 => simp [Value.oneCell']
    case c3 => unfold maxLen; have := HLn.out; omega
    case c4 => have := HLn.out; omega
    case c5 => have := HS.out; simp; omega
    intro v' w8 hown' hgrow _ hat
    have HEn := Lib.hid (HE.out.grow hown')
    have hkp := (Kept.of_call (fun k => v.ownBlock = some k) (box_below _ _)).trans (ekept_grown hgrow)
    have HR1n := Lib.hid (hkp.obj (show _ = _ from HR1.out) (fun e => by have h1 := HE.out.from e; omega))
    have HBn := Lib.hid (HB.out.trans (hkp.below (fun i hi => by have h1 := HE.out.from hi; have := HG1.out; omega) HB.out.size))
    have HSn := Lib.hid (Nat.le_trans HS.out hkp.size)
    clear hkp hown' hgrow hat
    go_wp2_with fail
    exact hK.out _ _ ⟨_, ⟨rfl, rfl, rfl, rfl, rfl, rfl⟩, by rw [HN.out]; exact HEn.out, HR1n.out, HBn.out, HSn.out⟩
   ·have g1 : decide (10000 < p 86) = false := decide_eq_false h2
    by_cases h3 : p 87 < 1
    ·have g2 : decide (p 87 < 1) = true := decide_eq_true h3
     have hok : okN p 1 = false := by show clkB p = false; unfold clkB nrZ; rw [Bool.eq_iff_iff]; simp only [Bool.and_eq_true, beq_iff_eq, Bool.false_eq_true, iff_false]; omega
     clear h1 h2 h3
     have HN := Lib.hid (show erL p 2 = erL p 1 ++ [125] from erO_no hok)
     clear hok
     have HLn := Lib.hid (erO_len p 1)
     go_wp2_with (first
      | (guard_target = Go.wpList _ _ _ ((⟨some _, .load _ (.tmp 10), _, _, _, _⟩ : Go.Oper) :: _) _ _; refine step_get rfl 3 _ rfl b1 86 rfl Tryz.underlying3 rfl (.int .i64 (p 86)) ?_ ?_; exact HR1.out.cell 86 (by decide))
      | (guard_target = Go.wpList _ _ _ ((⟨some _, .load _ (.tmp 14), _, _, _, _⟩ : Go.Oper) :: _) _ _; refine step_get rfl 3 _ rfl b1 86 rfl Tryz.underlying3 rfl (.int .i64 (p 86)) ?_ ?_; exact HR1.out.cell 86 (by decide))
      | (guard_target = Go.wpList _ _ _ ((⟨some _, .load _ (.tmp 19), _, _, _, _⟩ : Go.Oper) :: _) _ _; refine step_get rfl 3 _ rfl b1 87 rfl Tryz.underlying3 rfl (.int .i64 (p 87)) ?_ ?_; exact HR1.out.cell 87 (by decide))
      | (at_builtin; refine wpList_append_own_at _ rfl _ _ 32 rfl (b1 + 1) 34 i0 (.int .i64 0) 1 8 Tryz.underlying32 hi hz0 hz1 hz2 rfl (by decide) _ _ _ rfl (World.ownsRow.alloc HE.out _) ⟨_, 0, none⟩ 1 1 [.int .i64 125] rfl rfl ?c1 ?c2 ?c3 ?c4 ?c5 ?_))
     case c1 => exact cell_one_new _ _ _
     case c2 => simp [Value.oneCell']
     case c3 => unfold maxLen; have := HLn.out; omega
     case c4 => have := HLn.out; omega
     case c5 => have := HS.out; simp; omega
     intro v' w8 hown' hgrow _ hat
     have HEn := Lib.hid (HE.out.grow hown')
     have hkp := (Kept.of_call (fun k => v.ownBlock = some k) (box_below _ _)).trans (ekept_grown hgrow)
     have HR1n := Lib.hid (hkp.obj (show _ = _ from HR1.out) (fun e => by have h1 := HE.out.from e; omega))
     have HBn := Lib.hid (HB.out.trans (hkp.below (fun i hi => by have h1 := HE.out.from hi; have := HG1.out; omega) HB.out.size))
     have HSn := Lib.hid (Nat.le_trans HS.out hkp.size)
     clear hkp hown' hgrow hat
     go_wp2_with fail
     exact hK.out _ _ ⟨_, ⟨rfl, rfl, rfl, rfl, rfl, rfl⟩, by rw [HN.out]; exact HEn.out, HR1n.out, HBn.out, HSn.out⟩
    ·have g2 : decide (p 87 < 1) = false := decide_eq_false h3
     by_cases h4 : 10000 < p 87
     ·have g3 : decide (10000 < p 87) = true := decide_eq_true h4
      have hok : okN p 1 = false := by show clkB p = false; unfold clkB nrZ; rw [Bool.eq_iff_iff]; simp only [Bool.and_eq_true, beq_iff_eq, Bool.false_eq_true, iff_false]; omega
      clear h1 h2 h3 h4
      have HN := Lib.hid (show erL p 2 = erL p 1 ++ [125] from erO_no hok)
      clear hok
      have HLn := Lib.hid (erO_len p 1)
      go_wp2_with (first
       | (guard_target = Go.wpList _ _ _ ((⟨some _, .load _ (.tmp 10), _, _, _, _⟩ : Go.Oper) :: _) _ _; refine step_get rfl 3 _ rfl b1 86 rfl Tryz.underlying3 rfl (.int .i64 (p 86)) ?_ ?_; exact HR1.out.cell 86 (by decide))
       | (guard_target = Go.wpList _ _ _ ((⟨some _, .load _ (.tmp 14), _, _, _, _⟩ : Go.Oper) :: _) _ _; refine step_get rfl 3 _ rfl b1 86 rfl Tryz.underlying3 rfl (.int .i64 (p 86)) ?_ ?_; exact HR1.out.cell 86 (by decide))
       | (guard_target = Go.wpList _ _ _ ((⟨some _, .load _ (.tmp 19), _, _, _, _⟩ : Go.Oper) :: _) _ _; refine step_get rfl 3 _ rfl b1 87 rfl Tryz.underlying3 rfl (.int .i64 (p 87)) ?_ ?_; exact HR1.out.cell 87 (by decide))
       | (guard_target = Go.wpList _ _ _ ((⟨some _, .load _ (.tmp 24), _, _, _, _⟩ : Go.Oper) :: _) _ _; refine step_get rfl 3 _ rfl b1 87 rfl Tryz.underlying3 rfl (.int .i64 (p 87)) ?_ ?_; exact HR1.out.cell 87 (by decide))
       | (at_builtin; refine wpList_append_own_at _ rfl _ _ 32 rfl (b1 + 1) 34 i0 (.int .i64 0) 1 8 Tryz.underlying32 hi hz0 hz1 hz2 rfl (by decide) _ _ _ rfl (World.ownsRow.alloc HE.out _) ⟨_, 0, none⟩ 1 1 [.int .i64 125] rfl rfl ?c1 ?c2 ?c3 ?c4 ?c5 ?_))
      case c1 => exact cell_one_new _ _ _
      case c2 => simp [Value.oneCell']
      case c3 => unfold maxLen; have := HLn.out; omega
      case c4 => have := HLn.out; omega
      case c5 => have := HS.out; simp; omega
      intro v' w8 hown' hgrow _ hat
      have HEn := Lib.hid (HE.out.grow hown')
      have hkp := (Kept.of_call (fun k => v.ownBlock = some k) (box_below _ _)).trans (ekept_grown hgrow)
      have HR1n := Lib.hid (hkp.obj (show _ = _ from HR1.out) (fun e => by have h1 := HE.out.from e; omega))
      have HBn := Lib.hid (HB.out.trans (hkp.below (fun i hi => by have h1 := HE.out.from hi; have := HG1.out; omega) HB.out.size))
      have HSn := Lib.hid (Nat.le_trans HS.out hkp.size)
      clear hkp hown' hgrow hat
      go_wp2_with fail
      exact hK.out _ _ ⟨_, ⟨rfl, rfl, rfl, rfl, rfl, rfl⟩, by rw [HN.out]; exact HEn.out, HR1n.out, HBn.out, HSn.out⟩
     ·have g3 : decide (10000 < p 87) = false := decide_eq_false h4
      have hok : okN p 1 = true := by show clkB p = true; unfold clkB nrZ; rw [Bool.eq_iff_iff]; simp only [Bool.and_eq_true, beq_iff_eq, iff_true]; omega
      clear h1 h2 h3 h4
      have HN := Lib.hid (show erL p 2 = erL p 1 from erO_yes hok)
      clear hok
      go_wp2_with (first
       | (guard_target = Go.wpList _ _ _ ((⟨some _, .load _ (.tmp 10), _, _, _, _⟩ : Go.Oper) :: _) _ _; refine step_get rfl 3 _ rfl b1 86 rfl Tryz.underlying3 rfl (.int .i64 (p 86)) ?_ ?_; exact HR1.out.cell 86 (by decide))
       | (guard_target = Go.wpList _ _ _ ((⟨some _, .load _ (.tmp 14), _, _, _, _⟩ : Go.Oper) :: _) _ _; refine step_get rfl 3 _ rfl b1 86 rfl Tryz.underlying3 rfl (.int .i64 (p 86)) ?_ ?_; exact HR1.out.cell 86 (by decide))
       | (guard_target = Go.wpList _ _ _ ((⟨some _, .load _ (.tmp 19), _, _, _, _⟩ : Go.Oper) :: _) _ _; refine step_get rfl 3 _ rfl b1 87 rfl Tryz.underlying3 rfl (.int .i64 (p 87)) ?_ ?_; exact HR1.out.cell 87 (by decide))
       | (guard_target = Go.wpList _ _ _ ((⟨some _, .load _ (.tmp 24), _, _, _, _⟩ : Go.Oper) :: _) _ _; refine step_get rfl 3 _ rfl b1 87 rfl Tryz.underlying3 rfl (.int .i64 (p 87)) ?_ ?_; exact HR1.out.cell 87 (by decide)))
      exact hK.out _ _ ⟨_, ⟨rfl, rfl, rfl, rfl, rfl, rfl⟩, by rw [HN.out]; exact HE.out, HR1.out, HB.out, HS.out⟩
 clear HE HR1 HB HS f v
 rintro a wm ⟨v, hkn, he, hr1, hb, hs⟩
 obtain ⟨f, rfl⟩ := hkn.open
 clear hkn
 have HE := Lib.hid he
 have HR1 := Lib.hid hr1
 have HB := Lib.hid hb
 have HS := Lib.hid hs
 clear he hr1 hb hs
 refine wp_cutV (fun a w' => ∃ v, KnA p b1 v a ∧ ErO (b1 + 1) (erL p 3) v w' ∧ Row w' b1 p ∧ Below w.heap.size w w' ∧ b1 + 1 ≤ w'.heap.size) (fun K hK => ?_) ?_
 ·skip
  cases hq : kgB p
  ·have HQ := Lib.hid hq
   have hok : okN p 2 = false := hq
   clear hq
   have HN := Lib.hid (show erL p 3 = erL p 2 ++ [120] from erO_no hok)
   clear hok
   have HLn := Lib.hid (erO_len p 2)
   go_wp2_with (first
    | (guard_target = Go.wpList _ _ _ ((⟨some 31, .load _ (.tmp 1), _, _, _, _⟩ : Go.Oper) :: _) _ _; refine step_load (op := ⟨some 31, .load _ (.tmp 1), _, _, _, _⟩) rfl _ rfl b1 rfl p HR1.out ?_)
    | (go_at_call 14; refine (g_kings HQ.out _ HP.out).mono ?_; rintro e w3 ⟨rfl, hb⟩; have HR1 := Lib.hid (HR1.out.later hb); have HE := Lib.hid (HE.out.later hb); have HS := Lib.hid (Nat.le_trans HS.out hb.size); have HB := Lib.hid (below_on HB.out hb); clear hb)
    | (at_builtin; refine wpList_append_own_at _ rfl _ _ 32 rfl (b1 + 1) 34 i0 (.int .i64 0) 1 8 Tryz.underlying32 hi hz0 hz1 hz2 rfl (by decide) _ _ _ rfl (World.ownsRow.alloc HE.out _) ⟨_, 0, none⟩ 1 1 [.int .i64 120] rfl rfl ?c1 ?c2 ?c3 ?c4 ?c5 ?_))
   case c1 => exact cell_one_new _ _ _
   case c2 => simp [Value.oneCell']
   case c3 => unfold maxLen; have := HLn.out; omega
   case c4 => have := HLn.out; omega
   case c5 => have := HS.out; simp; omega
   intro v' w8 hown' hgrow _ hat
   have HEn := Lib.hid (HE.out.grow hown')
   have hkp := (Kept.of_call (fun k => v.ownBlock = some k) (box_below _ _)).trans (ekept_grown hgrow)
   have HR1n := Lib.hid (hkp.obj (show _ = _ from HR1.out) (fun e => by have h1 := HE.out.from e; omega))
   have HBn := Lib.hid (HB.out.trans (hkp.below (fun i hi => by have h1 := HE.out.from hi; have := HG1.out; omega) HB.out.size))
   have HSn := Lib.hid (Nat.le_trans HS.out hkp.size)
   clear hkp hown' hgrow hat
   go_wp2_with fail
   exact hK.out _ _ ⟨_, ⟨rfl, rfl, rfl, rfl, rfl, rfl⟩, by rw [HN.out]; exact HEn.out, HR1n.out, HBn.out, HSn.out⟩
  ·have HQ := Lib.hid hq
   have hok : okN p 2 = true := hq
   clear hq
   have HN := Lib.hid (show erL p 3 = erL p 2 from erO_yes hok)
   clear hok
   go_wp2_with (first
    | (guard_target = Go.wpList _ _ _ ((⟨some 31, .load _ (.tmp 1), _, _, _, _⟩ : Go.Oper) :: _) _ _; refine step_load (op := ⟨some 31, .load _ (.tmp 1), _, _, _, _⟩) rfl _ rfl b1 rfl p HR1.out ?_)
    | (go_at_call 14; refine (g_kings HQ.out _ HP.out).mono ?_; rintro e w3 ⟨rfl, hb⟩; have HR1 := Lib.hid (HR1.out.later hb); have HE := Lib.hid (HE.out.later hb); have HS := Lib.hid (Nat.le_trans HS.out hb.size); have HB := Lib.hid (below_on HB.out hb); clear hb))
   exact hK.out _ _ ⟨_, ⟨rfl, rfl, rfl, rfl, rfl, rfl⟩, by rw [HN.out]; exact HE.out, HR1.out, HB.out, HS.out⟩
 clear HE HR1 HB HS f v
 rintro a wm ⟨v, hkn, he, hr1, hb, hs⟩
 obtain ⟨f, rfl⟩ := hkn.open
 clear hkn
 have HE := Lib.hid he
 have HR1 := Lib.hid hr1
 have HB := Lib.hid hb
 have HS := Lib.hid hs
 clear he hr1 hb hs
 refine wp_cutV (fun a w' => ∃ v, KnA p b1 v a ∧ ErO (b1 + 1) (erL p 4) v w' ∧ Row w' b1 p ∧ Below w.heap.size w w' ∧ b1 + 1 ≤ w'.heap.size) (fun K hK => ?_) ?_
 ·skip
  cases hq : pwnB p 64
  ·have HQ := Lib.hid hq
   have hok : okN p 3 = false := hq
   clear hq
   have HN := Lib.hid (show erL p 4 = erL p 3 ++ [121] from erO_no hok)
   clear hok
   have HLn := Lib.hid (erO_len p 3)
   go_wp2_with (first
    | (guard_target = Go.wpList _ _ _ ((⟨some 37, .load _ (.tmp 1), _, _, _, _⟩ : Go.Oper) :: _) _ _; refine step_load (op := ⟨some 37, .load _ (.tmp 1), _, _, _, _⟩) rfl _ rfl b1 rfl p HR1.out ?_)
    | (go_at_call 15; refine (g_pawns HQ.out _ HP.out H9.out).mono ?_; rintro e w3 ⟨rfl, hb⟩; have HR1 := Lib.hid (HR1.out.later hb); have HE := Lib.hid (HE.out.later hb); have HS := Lib.hid (Nat.le_trans HS.out hb.size); have HB := Lib.hid (below_on HB.out hb); clear hb)
    | (at_builtin; refine wpList_append_own_at _ rfl _ _ 32 rfl (b1 + 1) 34 i0 (.int .i64 0) 1 8 Tryz.underlying32 hi hz0 hz1 hz2 rfl (by decide) _ _ _ rfl (World.ownsRow.alloc HE.out _) ⟨_, 0, none⟩ 1 1 [.int .i64 121] rfl rfl ?c1 ?c2 ?c3 ?c4 ?c5 ?_))
   case c1 => exact cell_one_new _ _ _
   case c2 => simp [Value.oneCell']
   case c3 => unfold maxLen; have := HLn.out; omega
   case c4 => have := HLn.out; omega
   case c5 => have := HS.out; simp; omega
   intro v' w8 hown' hgrow _ hat
   have HEn := Lib.hid (HE.out.grow hown')
   have hkp := (Kept.of_call (fun k => v.ownBlock = some k) (box_below _ _)).trans (ekept_grown hgrow)
   have HR1n := Lib.hid (hkp.obj (show _ = _ from HR1.out) (fun e => by have h1 := HE.out.from e; omega))
   have HBn := Lib.hid (HB.out.trans (hkp.below (fun i hi => by have h1 := HE.out.from hi; have := HG1.out; omega) HB.out.size))
   have HSn := Lib.hid (Nat.le_trans HS.out hkp.size)
   clear hkp hown' hgrow hat
   go_wp2_with fail
   exact hK.out _ _ ⟨_, ⟨rfl, rfl, rfl, rfl, rfl, rfl⟩, by rw [HN.out]; exact HEn.out, HR1n.out, HBn.out, HSn.out⟩
  ·have HQ := Lib.hid hq
   have hok : okN p 3 = true := hq
   clear hq
   have HN := Lib.hid (show erL p 4 = erL p 3 from erO_yes hok)
   clear hok
   go_wp2_with (first
    | (guard_target = Go.wpList _ _ _ ((⟨some 37, .load _ (.tmp 1), _, _, _, _⟩ : Go.Oper) :: _) _ _; refine step_load (op := ⟨some 37, .load _ (.tmp 1), _, _, _, _⟩) rfl _ rfl b1 rfl p HR1.out ?_)
    | (go_at_call 15; refine (g_pawns HQ.out _ HP.out H9.out).mono ?_; rintro e w3 ⟨rfl, hb⟩; have HR1 := Lib.hid (HR1.out.later hb); have HE := Lib.hid (HE.out.later hb); have HS := Lib.hid (Nat.le_trans HS.out hb.size); have HB := Lib.hid (below_on HB.out hb); clear hb))
   exact hK.out _ _ ⟨_, ⟨rfl, rfl, rfl, rfl, rfl, rfl⟩, by rw [HN.out]; exact HE.out, HR1.out, HB.out, HS.out⟩
 clear HE HR1 HB HS f v
 rintro a wm ⟨v, hkn, he, hr1, hb, hs⟩
 obtain ⟨f, rfl⟩ := hkn.open
 clear hkn
 have HE := Lib.hid he
 have HR1 := Lib.hid hr1
 have HB := Lib.hid hb
 have HS := Lib.hid hs
 clear he hr1 hb hs
 refine wp_cutV (fun a w' => ∃ v, KnA p b1 v a ∧ ErO (b1 + 1) (erL p 5) v w' ∧ Row w' b1 p ∧ Below w.heap.size w w' ∧ b1 + 1 ≤ w'.heap.size) (fun K hK => ?_) ?_
 ·skip
  cases hq : pkB p
  ·have HQ := Lib.hid hq
   have hok : okN p 4 = false := hq
   clear hq
   have HN := Lib.hid (show erL p 5 = erL p 4 ++ [122] from erO_no hok)
   clear hok
   have HLn := Lib.hid (erO_len p 4)
   go_wp2_with (first
    | (guard_target = Go.wpList _ _ _ ((⟨some 43, .load _ (.tmp 1), _, _, _, _⟩ : Go.Oper) :: _) _ _; refine step_load (op := ⟨some 43, .load _ (.tmp 1), _, _, _, _⟩) rfl _ rfl b1 rfl p HR1.out ?_)
    | (go_at_call 16; refine (g_pock HQ.out _ HP.out).mono ?_; rintro e w3 ⟨rfl, hb⟩; have HR1 := Lib.hid (HR1.out.later hb); have HE := Lib.hid (HE.out.later hb); have HS := Lib.hid (Nat.le_trans HS.out hb.size); have HB := Lib.hid (below_on HB.out hb); clear hb)
    | (at_builtin; refine wpList_append_own_at _ rfl _ _ 32 rfl (b1 + 1) 34 i0 (.int .i64 0) 1 8 Tryz.underlying32 hi hz0 hz1 hz2 rfl (by decide) _ _ _ rfl (World.ownsRow.alloc HE.out _) ⟨_, 0, none⟩ 1 1 [.int .i64 122] rfl rfl ?c1 ?c2 ?c3 ?c4 ?c5 ?_))
   case c1 => exact cell_one_new _ _ _
   case c2 => simp [Value.oneCell']
   case c3 => unfold maxLen; have := HLn.out; omega
   case c4 => have := HLn.out; omega
   case c5 => have := HS.out; simp; omega
   intro v' w8 hown' hgrow _ hat
   have HEn := Lib.hid (HE.out.grow hown')
   have hkp := (Kept.of_call (fun k => v.ownBlock = some k) (box_below _ _)).trans (ekept_grown hgrow)
   have HR1n := Lib.hid (hkp.obj (show _ = _ from HR1.out) (fun e => by have h1 := HE.out.from e; omega))
   have HBn := Lib.hid (HB.out.trans (hkp.below (fun i hi => by have h1 := HE.out.from hi; have := HG1.out; omega) HB.out.size))
   have HSn := Lib.hid (Nat.le_trans HS.out hkp.size)
   clear hkp hown' hgrow hat
   go_wp2_with fail
   exact hK.out _ _ ⟨_, ⟨rfl, rfl, rfl, rfl, rfl, rfl⟩, by rw [HN.out]; exact HEn.out, HR1n.out, HBn.out, HSn.out⟩
  ·have HQ := Lib.hid hq
   have hok : okN p 4 = true := hq
   clear hq
   have HN := Lib.hid (show erL p 5 = erL p 4 from erO_yes hok)
   clear hok
   go_wp2_with (first
    | (guard_target = Go.wpList _ _ _ ((⟨some 43, .load _ (.tmp 1), _, _, _, _⟩ : Go.Oper) :: _) _ _; refine step_load (op := ⟨some 43, .load _ (.tmp 1), _, _, _, _⟩) rfl _ rfl b1 rfl p HR1.out ?_)
    | (go_at_call 16; refine (g_pock HQ.out _ HP.out).mono ?_; rintro e w3 ⟨rfl, hb⟩; have HR1 := Lib.hid (HR1.out.later hb); have HE := Lib.hid (HE.out.later hb); have HS := Lib.hid (Nat.le_trans HS.out hb.size); have HB := Lib.hid (below_on HB.out hb); clear hb))
   exact hK.out _ _ ⟨_, ⟨rfl, rfl, rfl, rfl, rfl, rfl⟩, by rw [HN.out]; exact HE.out, HR1.out, HB.out, HS.out⟩
 clear HE HR1 HB HS f v
 rintro a wm ⟨v, hkn, he, hr1, hb, hs⟩
 obtain ⟨f, rfl⟩ := hkn.open
 clear hkn
 have HE := Lib.hid he
 have HR1 := Lib.hid hr1
 have HB := Lib.hid hb
 have HS := Lib.hid hs
 clear he hr1 hb hs
 refine wp_cutV (fun a w' => ∃ v, KnA p b1 v a ∧ ErO (b1 + 1) (erL p 6) v w' ∧ Row w' b1 p ∧ Below w.heap.size w w' ∧ b1 + 1 ≤ w'.heap.size) (fun K hK => ?_) ?_
 ·skip
  cases q00 : rkB p 0 0
  ·have HQ00 := Lib.hid q00
   have hok : okN p 5 = false := by show rksB p = false; unfold rksB; rw [q00]; rfl
   clear q00
   have HN := Lib.hid (show erL p 6 = erL p 5 ++ [123] from erO_no hok)
   clear hok
   have HLn := Lib.hid (erO_len p 5)
   go_wp2_with (first
    | (guard_target = Go.wpList _ _ _ ((⟨some 49, .load _ (.tmp 1), _, _, _, _⟩ : Go.Oper) :: _) _ _; refine step_load (op := ⟨some 49, .load _ (.tmp 1), _, _, _, _⟩) rfl _ rfl b1 rfl p HR1.out ?_)
    | (go_at_call 17; guard_target = Go.Calls _ _ #[_, Go.Value.int _ 0, Go.Value.int _ 0] _ _; refine (g_rt00 HQ00.out _ HP.out (HRk.out 0 0 (by decide) (by decide))).mono ?_; rintro e w3 ⟨rfl, hb⟩; have HR1 := Lib.hid (HR1.out.later hb); have HE := Lib.hid (HE.out.later hb); have HS := Lib.hid (Nat.le_trans HS.out hb.size); have HB := Lib.hid (below_on HB.out hb); clear hb)
    | (at_builtin; refine wpList_append_own_at _ rfl _ _ 32 rfl (b1 + 1) 34 i0 (.int .i64 0) 1 8 Tryz.underlying32 hi hz0 hz1 hz2 rfl (by decide) _ _ _ rfl (World.ownsRow.alloc HE.out _) ⟨_, 0, none⟩ 1 1 [.int .i64 123] rfl rfl ?c1 ?c2 ?c3 ?c4 ?c5 ?_))
   case c1 => exact cell_one_new _ _ _
   case c2 => simp [Value.oneCell']
   case c3 => unfold maxLen; have := HLn.out; omega
   case c4 => have := HLn.out; omega
   case c5 => have := HS.out; simp; omega
   intro v' w8 hown' hgrow _ hat
   have HEn := Lib.hid (HE.out.grow hown')
   have hkp := (Kept.of_call (fun k => v.ownBlock = some k) (box_below _ _)).trans (ekept_grown hgrow)
   have HR1n := Lib.hid (hkp.obj (show _ = _ from HR1.out) (fun e => by have h1 := HE.out.from e; omega))
   have HBn := Lib.hid (HB.out.trans (hkp.below (fun i hi => by have h1 := HE.out.from hi; have := HG1.out; omega) HB.out.size))
   have HSn := Lib.hid (Nat.le_trans HS.out hkp.size)
   clear hkp hown' hgrow hat
   go_wp2_with fail
   exact hK.out _ _ ⟨_, ⟨rfl, rfl, rfl, rfl, rfl, rfl⟩, by rw [HN.out]; exact HEn.out, HR1n.out, HBn.out, HSn.out⟩
  ·have HQ00 := Lib.hid q00
   cases q01 : rkB p 0 1
   ·have HQ01 := Lib.hid q01
    have hok : okN p 5 = false := by show rksB p = false; unfold rksB; rw [q00, q01]; rfl
    clear q00 q01
    have HN := Lib.hid (show erL p 6 = erL p 5 ++ [123] from erO_no hok)
    clear hok
    have HLn := Lib.hid (erO_len p 5)
    go_wp2_with (first
     | (guard_target = Go.wpList _ _ _ ((⟨some 49, .load _ (.tmp 1), _, _, _, _⟩ : Go.Oper) :: _) _ _; refine step_load (op := ⟨some 49, .load _ (.tmp 1), _, _, _, _⟩) rfl _ rfl b1 rfl p HR1.out ?_)
     | (guard_target = Go.wpList _ _ _ ((⟨some 53, .load _ (.tmp 1), _, _, _, _⟩ : Go.Oper) :: _) _ _; refine step_load (op := ⟨some 53, .load _ (.tmp 1), _, _, _, _⟩) rfl _ rfl b1 rfl p HR1.out ?_)
     | (go_at_call 17; guard_target = Go.Calls _ _ #[_, Go.Value.int _ 0, Go.Value.int _ 0] _ _; refine (g_rt00 HQ00.out _ HP.out (HRk.out 0 0 (by decide) (by decide))).mono ?_; rintro e w3 ⟨rfl, hb⟩; have HR1 := Lib.hid (HR1.out.later hb); have HE := Lib.hid (HE.out.later hb); have HS := Lib.hid (Nat.le_trans HS.out hb.size); have HB := Lib.hid (below_on HB.out hb); clear hb)
     | (go_at_call 17; guard_target = Go.Calls _ _ #[_, Go.Value.int _ 0, Go.Value.int _ 1] _ _; refine (g_rt01 HQ01.out _ HP.out (HRk.out 0 1 (by decide) (by decide))).mono ?_; rintro e w3 ⟨rfl, hb⟩; have HR1 := Lib.hid (HR1.out.later hb); have HE := Lib.hid (HE.out.later hb); have HS := Lib.hid (Nat.le_trans HS.out hb.size); have HB := Lib.hid (below_on HB.out hb); clear hb)
     | (at_builtin; refine wpList_append_own_at _ rfl _ _ 32 rfl (b1 + 1) 34 i0 (.int .i64 0) 1 8 Tryz.underlying32 hi hz0 hz1 hz2 rfl (by decide) _ _ _ rfl (World.ownsRow.alloc HE.out _) ⟨_, 0, none⟩ 1 1 [.int .i64 123] rfl rfl ?c1 ?c2 ?c3 ?c4 ?c5 ?_))
    case c1 => exact cell_one_new _ _ _
    case c2 => simp [Value.oneCell']
    case c3 => unfold maxLen; have := HLn.out; omega
    case c4 => have := HLn.out; omega
    case c5 => have := HS.out; simp; omega
    intro v' w8 hown' hgrow _ hat
    have HEn := Lib.hid (HE.out.grow hown')
    have hkp := (Kept.of_call (fun k => v.ownBlock = some k) (box_below _ _)).trans (ekept_grown hgrow)
    have HR1n := Lib.hid (hkp.obj (show _ = _ from HR1.out) (fun e => by have h1 := HE.out.from e; omega))
    have HBn := Lib.hid (HB.out.trans (hkp.below (fun i hi => by have h1 := HE.out.from hi; have := HG1.out; omega) HB.out.size))
    have HSn := Lib.hid (Nat.le_trans HS.out hkp.size)
    clear hkp hown' hgrow hat
    go_wp2_with fail
    exact hK.out _ _ ⟨_, ⟨rfl, rfl, rfl, rfl, rfl, rfl⟩, by rw [HN.out]; exact HEn.out, HR1n.out, HBn.out, HSn.out⟩
   ·have HQ01 := Lib.hid q01
    cases q10 : rkB p 1 0
    ·have HQ10 := Lib.hid q10
     have hok : okN p 5 = false := by show rksB p = false; unfold rksB; rw [q00, q01, q10]; rfl
     clear q00 q01 q10
     have HN := Lib.hid (show erL p 6 = erL p 5 ++ [123] from erO_no hok)
     clear hok
     have HLn := Lib.hid (erO_len p 5)
     go_wp2_with (first
      | (guard_target = Go.wpList _ _ _ ((⟨some 49, .load _ (.tmp 1), _, _, _, _⟩ : Go.Oper) :: _) _ _; refine step_load (op := ⟨some 49, .load _ (.tmp 1), _, _, _, _⟩) rfl _ rfl b1 rfl p HR1.out ?_)
      | (guard_target = Go.wpList _ _ _ ((⟨some 53, .load _ (.tmp 1), _, _, _, _⟩ : Go.Oper) :: _) _ _; refine step_load (op := ⟨some 53, .load _ (.tmp 1), _, _, _, _⟩) rfl _ rfl b1 rfl p HR1.out ?_)
      | (guard_target = Go.wpList _ _ _ ((⟨some 58, .load _ (.tmp 1), _, _, _, _⟩ : Go.Oper) :: _) _ _; refine step_load (op := ⟨some 58, .load _ (.tmp 1), _, _, _, _⟩) rfl _ rfl b1 rfl p HR1.out ?_)
      | (go_at_call 17; guard_target = Go.Calls _ _ #[_, Go.Value.int _ 0, Go.Value.int _ 0] _ _; refine (g_rt00 HQ00.out _ HP.out (HRk.out 0 0 (by decide) (by decide))).mono ?_; rintro e w3 ⟨rfl, hb⟩; have HR1 := Lib.hid (HR1.out.later hb); have HE := Lib.hid (HE.out.later hb); have HS := Lib.hid (Nat.le_trans HS.out hb.size); have HB := Lib.hid (below_on HB.out hb); clear hb)
      | (go_at_call 17; guard_target = Go.Calls _ _ #[_, Go.Value.int _ 0, Go.Value.int _ 1] _ _; refine (g_rt01 HQ01.out _ HP.out (HRk.out 0 1 (by decide) (by decide))).mono ?_; rintro e w3 ⟨rfl, hb⟩; have HR1 := Lib.hid (HR1.out.later hb); have HE := Lib.hid (HE.out.later hb); have HS := Lib.hid (Nat.le_trans HS.out hb.size); have HB := Lib.hid (below_on HB.out hb); clear hb)
      | (go_at_call 17; guard_target = Go.Calls _ _ #[_, Go.Value.int _ 1, Go.Value.int _ 0] _ _; refine (g_rt10 HQ10.out _ HP.out (HRk.out 1 0 (by decide) (by decide))).mono ?_; rintro e w3 ⟨rfl, hb⟩; have HR1 := Lib.hid (HR1.out.later hb); have HE := Lib.hid (HE.out.later hb); have HS := Lib.hid (Nat.le_trans HS.out hb.size); have HB := Lib.hid (below_on HB.out hb); clear hb)
      | (at_builtin; refine wpList_append_own_at _ rfl _ _ 32 rfl (b1 + 1) 34 i0 (.int .i64 0) 1 8 Tryz.underlying32 hi hz0 hz1 hz2 rfl (by decide) _ _ _ rfl (World.ownsRow.alloc HE.out _) ⟨_, 0, none⟩ 1 1 [.int .i64 123] rfl rfl ?c1 ?c2 ?c3 ?c4 ?c5 ?_))
     case c1 => exact cell_one_new _ _ _
     case c2 => simp [Value.oneCell']
     case c3 => unfold maxLen; have := HLn.out; omega
     case c4 => have := HLn.out; omega
     case c5 => have := HS.out; simp; omega
     intro v' w8 hown' hgrow _ hat
     have HEn := Lib.hid (HE.out.grow hown')
     have hkp := (Kept.of_call (fun k => v.ownBlock = some k) (box_below _ _)).trans (ekept_grown hgrow)
     have HR1n := Lib.hid (hkp.obj (show _ = _ from HR1.out) (fun e => by have h1 := HE.out.from e; omega))
     have HBn := Lib.hid (HB.out.trans (hkp.below (fun i hi => by have h1 := HE.out.from hi; have := HG1.out; omega) HB.out.size))
     have HSn := Lib.hid (Nat.le_trans HS.out hkp.size)
     clear hkp hown' hgrow hat
     go_wp2_with fail
     exact hK.out _ _ ⟨_, ⟨rfl, rfl, rfl, rfl, rfl, rfl⟩, by rw [HN.out]; exact HEn.out, HR1n.out, HBn.out, HSn.out⟩
    ·have HQ10 := Lib.hid q10
     cases q11 : rkB p 1 1
     ·have HQ11 := Lib.hid q11
      have hok : okN p 5 = false := by show rksB p = false; unfold rksB; rw [q00, q01, q10, q11]; rfl
      clear q00 q01 q10 q11
      have HN := Lib.hid (show erL p 6 = erL p 5 ++ [123] from erO_no hok)
      clear hok
      have HLn := Lib.hid (erO_len p 5)
      go_wp2_with (first
       | (guard_target = Go.wpList _ _ _ ((⟨some 49, .load _ (.tmp 1), _, _, _, _⟩ : Go.Oper) :: _) _ _; refine step_load (op := ⟨some 49, .load _ (.tmp 1), _, _, _, _⟩) rfl _ rfl b1 rfl p HR1.out ?_)
       | (guard_target = Go.wpList _ _ _ ((⟨some 53, .load _ (.tmp 1), _, _, _, _⟩ : Go.Oper) :: _) _ _; refine step_load (op := ⟨some 53, .load _ (.tmp 1), _, _, _, _⟩) rfl _ rfl b1 rfl p HR1.out ?_)
       | (guard_target = Go.wpList _ _ _ ((⟨some 58, .load _ (.tmp 1), _, _, _, _⟩ : Go.Oper) :: _) _ _; refine step_load (op := ⟨some 58, .load _ (.tmp 1), _, _, _, _⟩) rfl _ rfl b1 rfl p HR1.out ?_)
       | (guard_target = Go.wpList _ _ _ ((⟨some 63, .load _ (.tmp 1), _, _, _, _⟩ : Go.Oper) :: _) _ _; refine step_load (op := ⟨some 63, .load _ (.tmp 1), _, _, _, _⟩) rfl _ rfl b1 rfl p HR1.out ?_)
       | (go_at_call 17; guard_target = Go.Calls _ _ #[_, Go.Value.int _ 0, Go.Value.int _ 0] _ _; refine (g_rt00 HQ00.out _ HP.out (HRk.out 0 0 (by decide) (by decide))).mono ?_; rintro e w3 ⟨rfl, hb⟩; have HR1 := Lib.hid (HR1.out.later hb); have HE := Lib.hid (HE.out.later hb); have HS := Lib.hid (Nat.le_trans HS.out hb.size); have HB := Lib.hid (below_on HB.out hb); clear hb)
       | (go_at_call 17; guard_target = Go.Calls _ _ #[_, Go.Value.int _ 0, Go.Value.int _ 1] _ _; refine (g_rt01 HQ01.out _ HP.out (HRk.out 0 1 (by decide) (by decide))).mono ?_; rintro e w3 ⟨rfl, hb⟩; have HR1 := Lib.hid (HR1.out.later hb); have HE := Lib.hid (HE.out.later hb); have HS := Lib.hid (Nat.le_trans HS.out hb.size); have HB := Lib.hid (below_on HB.out hb); clear hb)
       | (go_at_call 17; guard_target = Go.Calls _ _ #[_, Go.Value.int _ 1, Go.Value.int _ 0] _ _; refine (g_rt10 HQ10.out _ HP.out (HRk.out 1 0 (by decide) (by decide))).mono ?_; rintro e w3 ⟨rfl, hb⟩; have HR1 := Lib.hid (HR1.out.later hb); have HE := Lib.hid (HE.out.later hb); have HS := Lib.hid (Nat.le_trans HS.out hb.size); have HB := Lib.hid (below_on HB.out hb); clear hb)
       | (go_at_call 17; guard_target = Go.Calls _ _ #[_, Go.Value.int _ 1, Go.Value.int _ 1] _ _; refine (g_rt11 HQ11.out _ HP.out (HRk.out 1 1 (by decide) (by decide))).mono ?_; rintro e w3 ⟨rfl, hb⟩; have HR1 := Lib.hid (HR1.out.later hb); have HE := Lib.hid (HE.out.later hb); have HS := Lib.hid (Nat.le_trans HS.out hb.size); have HB := Lib.hid (below_on HB.out hb); clear hb)
       | (at_builtin; refine wpList_append_own_at _ rfl _ _ 32 rfl (b1 + 1) 34 i0 (.int .i64 0) 1 8 Tryz.underlying32 hi hz0 hz1 hz2 rfl (by decide) _ _ _ rfl (World.ownsRow.alloc HE.out _) ⟨_, 0, none⟩ 1 1 [.int .i64 123] rfl rfl ?c1 ?c2 ?c3 ?c4 ?c5 ?_))
      case c1 => exact cell_one_new _ _ _
      case c2 => simp [Value.oneCell']
      case c3 => unfold maxLen; have := HLn.out; omega
      case c4 => have := HLn.out; omega
      case c5 => have := HS.out; simp; omega
      intro v' w8 hown' hgrow _ hat
      have HEn := Lib.hid (HE.out.grow hown')
      have hkp := (Kept.of_call (fun k => v.ownBlock = some k) (box_below _ _)).trans (ekept_grown hgrow)
      have HR1n := Lib.hid (hkp.obj (show _ = _ from HR1.out) (fun e => by have h1 := HE.out.from e; omega))
      have HBn := Lib.hid (HB.out.trans (hkp.below (fun i hi => by have h1 := HE.out.from hi; have := HG1.out; omega) HB.out.size))
      have HSn := Lib.hid (Nat.le_trans HS.out hkp.size)
      clear hkp hown' hgrow hat
      go_wp2_with fail
      exact hK.out _ _ ⟨_, ⟨rfl, rfl, rfl, rfl, rfl, rfl⟩, by rw [HN.out]; exact HEn.out, HR1n.out, HBn.out, HSn.out⟩
     ·have HQ11 := Lib.hid q11
      have hok : okN p 5 = true := by show rksB p = true; unfold rksB; rw [q00, q01, q10, q11]; rfl
      clear q00 q01 q10 q11
      have HN := Lib.hid (show erL p 6 = erL p 5 from erO_yes hok)
      clear hok
      go_wp2_with (first
       | (guard_target = Go.wpList _ _ _ ((⟨some 49, .load _ (.tmp 1), _, _, _, _⟩ : Go.Oper) :: _) _ _; refine step_load (op := ⟨some 49, .load _ (.tmp 1), _, _, _, _⟩) rfl _ rfl b1 rfl p HR1.out ?_)
       | (guard_target = Go.wpList _ _ _ ((⟨some 53, .load _ (.tmp 1), _, _, _, _⟩ : Go.Oper) :: _) _ _; refine step_load (op := ⟨some 53, .load _ (.tmp 1), _, _, _, _⟩) rfl _ rfl b1 rfl p HR1.out ?_)
       | (guard_target = Go.wpList _ _ _ ((⟨some 58, .load _ (.tmp 1), _, _, _, _⟩ : Go.Oper) :: _) _ _; refine step_load (op := ⟨some 58, .load _ (.tmp 1), _, _, _, _⟩) rfl _ rfl b1 rfl p HR1.out ?_)
       | (guard_target = Go.wpList _ _ _ ((⟨some 63, .load _ (.tmp 1), _, _, _, _⟩ : Go.Oper) :: _) _ _; refine step_load (op := ⟨some 63, .load _ (.tmp 1), _, _, _, _⟩) rfl _ rfl b1 rfl p HR1.out ?_)
       | (go_at_call 17; guard_target = Go.Calls _ _ #[_, Go.Value.int _ 0, Go.Value.int _ 0] _ _; refine (g_rt00 HQ00.out _ HP.out (HRk.out 0 0 (by decide) (by decide))).mono ?_; rintro e w3 ⟨rfl, hb⟩; have HR1 := Lib.hid (HR1.out.later hb); have HE := Lib.hid (HE.out.later hb); have HS := Lib.hid (Nat.le_trans HS.out hb.size); have HB := Lib.hid (below_on HB.out hb); clear hb)
       | (go_at_call 17; guard_target = Go.Calls _ _ #[_, Go.Value.int _ 0, Go.Value.int _ 1] _ _; refine (g_rt01 HQ01.out _ HP.out (HRk.out 0 1 (by decide) (by decide))).mono ?_; rintro e w3 ⟨rfl, hb⟩; have HR1 := Lib.hid (HR1.out.later hb); have HE := Lib.hid (HE.out.later hb); have HS := Lib.hid (Nat.le_trans HS.out hb.size); have HB := Lib.hid (below_on HB.out hb); clear hb)
       | (go_at_call 17; guard_target = Go.Calls _ _ #[_, Go.Value.int _ 1, Go.Value.int _ 0] _ _; refine (g_rt10 HQ10.out _ HP.out (HRk.out 1 0 (by decide) (by decide))).mono ?_; rintro e w3 ⟨rfl, hb⟩; have HR1 := Lib.hid (HR1.out.later hb); have HE := Lib.hid (HE.out.later hb); have HS := Lib.hid (Nat.le_trans HS.out hb.size); have HB := Lib.hid (below_on HB.out hb); clear hb)
       | (go_at_call 17; guard_target = Go.Calls _ _ #[_, Go.Value.int _ 1, Go.Value.int _ 1] _ _; refine (g_rt11 HQ11.out _ HP.out (HRk.out 1 1 (by decide) (by decide))).mono ?_; rintro e w3 ⟨rfl, hb⟩; have HR1 := Lib.hid (HR1.out.later hb); have HE := Lib.hid (HE.out.later hb); have HS := Lib.hid (Nat.le_trans HS.out hb.size); have HB := Lib.hid (below_on HB.out hb); clear hb))
      exact hK.out _ _ ⟨_, ⟨rfl, rfl, rfl, rfl, rfl, rfl⟩, by rw [HN.out]; exact HE.out, HR1.out, HB.out, HS.out⟩
 clear HE HR1 HB HS f v
 rintro a wm ⟨v, hkn, he, hr1, hb, hs⟩
 obtain ⟨f, rfl⟩ := hkn.open
 clear hkn
 have HE := Lib.hid he
 have HR1 := Lib.hid hr1
 have HB := Lib.hid hb
 have HS := Lib.hid hs
 clear he hr1 hb hs
 refine wp_cutV (fun a w' => ∃ v, KnA p b1 v a ∧ ErO (b1 + 1) (erL p 7) v w' ∧ Row w' b1 p ∧ Below w.heap.size w w' ∧ b1 + 1 ≤ w'.heap.size) (fun K hK => ?_) ?_
 ·skip
  cases hq : pasB p
  ·have HQ := Lib.hid hq
   have hok : okN p 6 = false := hq
   clear hq
   have HN := Lib.hid (show erL p 7 = erL p 6 ++ [124] from erO_no hok)
   clear hok
   have HLn := Lib.hid (erO_len p 6)
   go_wp2_with (first
    | (guard_target = Go.wpList _ _ _ ((⟨some 70, .load _ (.tmp 1), _, _, _, _⟩ : Go.Oper) :: _) _ _; refine step_load (op := ⟨some 70, .load _ (.tmp 1), _, _, _, _⟩) rfl _ rfl b1 rfl p HR1.out ?_)
    | (go_at_call 18; refine (g_pass HQ.out _ HP.out H1.out HPr.out).mono ?_; rintro e w3 ⟨rfl, hb⟩; have HR1 := Lib.hid (HR1.out.later hb); have HE := Lib.hid (HE.out.later hb); have HS := Lib.hid (Nat.le_trans HS.out hb.size); have HB := Lib.hid (below_on HB.out hb); clear hb)
    | (at_builtin; refine wpList_append_own_at _ rfl _ _ 32 rfl (b1 + 1) 34 i0 (.int .i64 0) 1 8 Tryz.underlying32 hi hz0 hz1 hz2 rfl (by decide) _ _ _ rfl (World.ownsRow.alloc HE.out _) ⟨_, 0, none⟩ 1 1 [.int .i64 124] rfl rfl ?c1 ?c2 ?c3 ?c4 ?c5 ?_))
   case c1 => exact cell_one_new _ _ _
   case c2 => simp [Value.oneCell']
   case c3 => unfold maxLen; have := HLn.out; omega
   case c4 => have := HLn.out; omega
   case c5 => have := HS.out; simp; omega
   intro v' w8 hown' hgrow _ hat
   have HEn := Lib.hid (HE.out.grow hown')
   have hkp := (Kept.of_call (fun k => v.ownBlock = some k) (box_below _ _)).trans (ekept_grown hgrow)
   have HR1n := Lib.hid (hkp.obj (show _ = _ from HR1.out) (fun e => by have h1 := HE.out.from e; omega))
   have HBn := Lib.hid (HB.out.trans (hkp.below (fun i hi => by have h1 := HE.out.from hi; have := HG1.out; omega) HB.out.size))
   have HSn := Lib.hid (Nat.le_trans HS.out hkp.size)
   clear hkp hown' hgrow hat
   go_wp2_with fail
   exact hK.out _ _ ⟨_, ⟨rfl, rfl, rfl, rfl, rfl, rfl⟩, by rw [HN.out]; exact HEn.out, HR1n.out, HBn.out, HSn.out⟩
  ·have HQ := Lib.hid hq
   have hok : okN p 6 = true := hq
   clear hq
   have HN := Lib.hid (show erL p 7 = erL p 6 from erO_yes hok)
   clear hok
   go_wp2_with (first
    | (guard_target = Go.wpList _ _ _ ((⟨some 70, .load _ (.tmp 1), _, _, _, _⟩ : Go.Oper) :: _) _ _; refine step_load (op := ⟨some 70, .load _ (.tmp 1), _, _, _, _⟩) rfl _ rfl b1 rfl p HR1.out ?_)
    | (go_at_call 18; refine (g_pass HQ.out _ HP.out H1.out HPr.out).mono ?_; rintro e w3 ⟨rfl, hb⟩; have HR1 := Lib.hid (HR1.out.later hb); have HE := Lib.hid (HE.out.later hb); have HS := Lib.hid (Nat.le_trans HS.out hb.size); have HB := Lib.hid (below_on HB.out hb); clear hb))
   exact hK.out _ _ ⟨_, ⟨rfl, rfl, rfl, rfl, rfl, rfl⟩, by rw [HN.out]; exact HE.out, HR1.out, HB.out, HS.out⟩
 clear HE HR1 HB HS f v
 rintro a wm ⟨v, hkn, he, hr1, hb, hs⟩
 obtain ⟨f, rfl⟩ := hkn.open
 clear hkn
 have HE := Lib.hid he
 have HR1 := Lib.hid hr1
 have HB := Lib.hid hb
 have HS := Lib.hid hs
 clear he hr1 hb hs
 refine wp_cutV (fun a w' => ∃ v, KnA p b1 v a ∧ ErO (b1 + 1) (erL p 8) v w' ∧ Row w' b1 p ∧ Below w.heap.size w w' ∧ b1 + 1 ≤ w'.heap.size) (fun K hK => ?_) ?_
 ·skip
  cases hq : chB p
  ·have HQ := Lib.hid hq
   have hok : okN p 7 = false := hq
   clear hq
   have HN := Lib.hid (show erL p 8 = erL p 7 ++ [126] from erO_no hok)
   clear hok
   have HLn := Lib.hid (erO_len p 7)
   go_wp2_with (first
    | (guard_target = Go.wpList _ _ _ ((⟨some 76, .load _ (.tmp 1), _, _, _, _⟩ : Go.Oper) :: _) _ _; refine step_load (op := ⟨some 76, .load _ (.tmp 1), _, _, _, _⟩) rfl _ rfl b1 rfl p HR1.out ?_)
    | (go_at_call 19; refine (g_chk HQ.out _ HP.out H1.out).mono ?_; rintro e w3 ⟨rfl, hb⟩; have HR1 := Lib.hid (HR1.out.later hb); have HE := Lib.hid (HE.out.later hb); have HS := Lib.hid (Nat.le_trans HS.out hb.size); have HB := Lib.hid (below_on HB.out hb); clear hb)
    | (at_builtin; refine wpList_append_own_at _ rfl _ _ 32 rfl (b1 + 1) 34 i0 (.int .i64 0) 1 8 Tryz.underlying32 hi hz0 hz1 hz2 rfl (by decide) _ _ _ rfl (World.ownsRow.alloc HE.out _) ⟨_, 0, none⟩ 1 1 [.int .i64 126] rfl rfl ?c1 ?c2 ?c3 ?c4 ?c5 ?_))
   case c1 => exact cell_one_new _ _ _
   case c2 => simp [Value.oneCell']
   case c3 => unfold maxLen; have := HLn.out; omega
   case c4 => have := HLn.out; omega
   case c5 => have := HS.out; simp; omega
   intro v' w8 hown' hgrow _ hat
   have HEn := Lib.hid (HE.out.grow hown')
   have hkp := (Kept.of_call (fun k => v.ownBlock = some k) (box_below _ _)).trans (ekept_grown hgrow)
   have HR1n := Lib.hid (hkp.obj (show _ = _ from HR1.out) (fun e => by have h1 := HE.out.from e; omega))
   have HBn := Lib.hid (HB.out.trans (hkp.below (fun i hi => by have h1 := HE.out.from hi; have := HG1.out; omega) HB.out.size))
   have HSn := Lib.hid (Nat.le_trans HS.out hkp.size)
   clear hkp hown' hgrow hat
   go_wp2_with fail
   exact hK.out _ _ ⟨_, ⟨rfl, rfl, rfl, rfl, rfl, rfl⟩, by rw [HN.out]; exact HEn.out, HR1n.out, HBn.out, HSn.out⟩
  ·have HQ := Lib.hid hq
   have hok : okN p 7 = true := hq
   clear hq
   have HN := Lib.hid (show erL p 8 = erL p 7 from erO_yes hok)
   clear hok
   go_wp2_with (first
    | (guard_target = Go.wpList _ _ _ ((⟨some 76, .load _ (.tmp 1), _, _, _, _⟩ : Go.Oper) :: _) _ _; refine step_load (op := ⟨some 76, .load _ (.tmp 1), _, _, _, _⟩) rfl _ rfl b1 rfl p HR1.out ?_)
    | (go_at_call 19; refine (g_chk HQ.out _ HP.out H1.out).mono ?_; rintro e w3 ⟨rfl, hb⟩; have HR1 := Lib.hid (HR1.out.later hb); have HE := Lib.hid (HE.out.later hb); have HS := Lib.hid (Nat.le_trans HS.out hb.size); have HB := Lib.hid (below_on HB.out hb); clear hb))
   exact hK.out _ _ ⟨_, ⟨rfl, rfl, rfl, rfl, rfl, rfl⟩, by rw [HN.out]; exact HE.out, HR1.out, HB.out, HS.out⟩
 clear HE HR1 HB HS f v
 rintro a wm ⟨v, hkn, he, hr1, hb, hs⟩
 obtain ⟨f, rfl⟩ := hkn.open
 clear hkn
 have HE := Lib.hid he
 have HR1 := Lib.hid hr1
 have HB := Lib.hid hb
 have HS := Lib.hid hs
 clear he hr1 hb hs
 go_wp2_with fail
 exact bodyPost_ret (results_tmp rfl _ _ _) rfl ⟨_, rfl, by rw [HW.out]; exact World.ownsRow.mono HE.out (Nat.le_succ_of_le HG1.out), HB.out⟩
theorem vr_all (p : Nat → Int) (w : World) (hp : FitP p) : Calls Tryz.prog 6 #[.agg (posA p)] w (ErP (wrL p) w) := by
 cases ha : argB p
 ·exact vr_all_no p w hp ha
 ·exact vr_all_yes p w hp ha
end Go.Proofs.YtigkbccpkepdmaaGreatDoor
