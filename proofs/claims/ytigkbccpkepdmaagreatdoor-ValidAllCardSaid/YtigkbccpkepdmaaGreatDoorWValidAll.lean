/-
 The walk of ValidAll.
-/
import Derived.Test.YtigkbccpkepdmaaGreatDoorVrG
import Derived.Test.YtigkbccpkepdmaaGreatDoorVaI
import Derived.WalkKit
import Derived.OpenShut
namespace Go.Proofs.YtigkbccpkepdmaaGreatDoor.validAll
open Go.RowKit
set_option linter.unusedVariables false
set_option linter.unusedSimpArgs false
/-- Where a list of errors lies. -/
def Ers (L : List Int) (a : Option Addr) (w : World) : Prop := ∀ (i : Nat) (x : Int), L[i]? = some x → ∃ g cur, a = some ⟨g, 0, none⟩ ∧ Blk w g 34 cur ∧ cur[i]? = some (errV x)
theorem Ers.later {L : List Int} {a : Option Addr} {w w' : World} (h : Ers L a w) (hl : Later w w') : Ers L a w' := fun i x hx => by
 obtain ⟨g, cur, e, hb, hc⟩ := h i x hx
 exact ⟨g, cur, e, hb.later hl, hc⟩
theorem Ers.cell {L : List Int} {a : Option Addr} {w : World} (h : Ers L a w) {i : Nat} {x : Int} (hx : L[i]? = some x) : ∃ g, a = some ⟨g, 0, none⟩ ∧ w.cell? ⟨g, i, none⟩ = some (.int .i64 x) := by
 obtain ⟨g, cur, e, hb, hc⟩ := h i x hx
 exact ⟨g, e, by rw [hb.cell, hc]; rfl⟩
theorem ers_of {L : List Int} {B : Nat} {v : Value} {w : World} (h : w.ownsRow B 34 1 v L.length (L.map errV)) : ∃ a cap, v = .slice a L.length cap ∧ Ers L a w := by
 rcases h.2 with ⟨rfl, hn⟩ | ⟨g, cap, cur, rfl, hB, hg, h1, h2, h3, h4⟩
 ·refine ⟨none, 0, by rw [hn], fun i x hx => ?_⟩
  have := List.length_eq_zero_iff.1 hn
  rw [this] at hx; cases hx
 ·refine ⟨some ⟨g, 0, none⟩, cap, rfl, fun i x hx => ⟨g, cur, rfl, hg, ?_⟩⟩
  have hi := (List.getElem?_eq_some_iff.1 hx).1
  have := congrArg (·[i]?) h4
  simp only [Nat.mul_one, List.getElem?_take_of_lt hi] at this
  have e : cur[i]? = cur.toList[i]? := by simp
  rw [e, this, List.getElem?_map, hx]; rfl
theorem ers_cell {L : List Int} {g : Nat} {w : World} (h : Ers L (some ⟨g, 0, none⟩) w) {i : Nat} {x : Int} (hx : L[i]? = some x) : w.cell? ⟨g, i, none⟩ = some (.int .i64 x) := by
 obtain ⟨g', e, hc⟩ := h.cell hx
 have : g = g' := by injection e with e; injection e
 subst this; exact hc
theorem wr_lenQ (p : Nat → Int) : (wrL p).length ≤ 8 := by
 unfold wrL
 cases argB p
 ·exact (show ([2] : List Int).length ≤ 8 by decide)
 ·exact erO_len p 8
theorem chkQ {p : Nat → Int} {z : Int} (e : hdZ (wrL p) = z) (w : World) (hp : FitP p) (hT : TabVar w) (hD : TabDb w) (hL : TabLead w) (hU : TabUs w) : Calls Tryz.prog 7 #[.agg (posA p)] w (IntL z w) := e ▸ vcheck_any p w hp hT hD hL hU
set_option maxRecDepth 100000 in
set_option maxHeartbeats 4000000 in
theorem walk (p : Nat → Int) (w0 : WfP p) (w : World) (hD : TabDb w) (hL : TabLead w) (hT : TabVar w) (hK : TabKn w) (hU : TabUs w) : Calls Tryz.prog 3 #[.agg (posA p)] w fun e w' => e = .returned (.bool true) ∧ Below w.heap.size w w' := by
 have HT := Lib.hid hT
 have HK := Lib.hid hK
 have HD := Lib.hid hD
 have HL := Lib.hid hL
 have HU := Lib.hid hU
 have HP := Lib.hid (FitP.of w0)
 obtain ⟨L, hLe⟩ : ∃ L, wrL p = L := ⟨_, rfl⟩
 have HLe := Lib.hid hLe
 have HLn := Lib.hid (show L.length ≤ 8 by rw [← hLe]; exact wr_lenQ p)
 clear hT hK hD hL hU w0 hLe
 have HB := Lib.hid (Below.refl w.heap.size w)
 go_enter Tryz.func3, Tryz.ntmps3
 go_wp2_with (first
   | (guard_target = Go.wpList _ _ _ ((⟨some 1, .box _ _, _, _, _, _⟩ : Go.Oper) :: _) _ _; refine step_box rfl _ rfl p rfl ?_; intro b1 w1 N R; have HG1 := Lib.hid (show w.heap.size ≤ b1 by have := HB.out.size; have := N.at_; omega); have HB := Lib.hid (below_on HB.out N.below); have HR1 := Lib.hid R; clear N R))
 refine late_begin 6 (by kernel_rfl) ?_
 refine ltk 0 (by kernel_rfl) (fun _ _ d _ _ h => by cases d <;> exact h) (fun o ho => ?_)
 simp only [qa, qb, qc, qd] at ho; subst ho
 refine ⟨_, Or.inl ⟨by kernel_rfl, fun w' hl => Or.inl (run_load _ rfl _ rfl (p) (HR1.out.later hl))⟩, ?_⟩
 simp only [Act.put, pa, pb, pc]
 refine ltk 2 (by kernel_rfl) (fun _ _ d _ _ h => by cases d <;> exact h) (fun o ho => ?_)
 simp only [qa, qb, qc, qd] at ho; subst ho
 refine ⟨_, Or.inl ⟨by kernel_rfl, fun w' hl => Or.inl (run_load _ rfl _ rfl (p) (HR1.out.later hl))⟩, ?_⟩
 simp only [Act.put, pa, pb, pc]
 refine late_one 1 (by kernel_rfl) (by kernel_rfl) (fun o ho => ?_)
 simp only [qa, qb, qc, qd] at ho; subst ho
 refine ⟨by kernel_rfl, fun wn hl K hK => ?_⟩
 have HR1 := Lib.hid (HR1.out.later hl); have HB := Lib.hid (below_on HB.out hl); clear hl
 refine wp_enter _ _ (by go_simp; exact ⟨rfl, rfl⟩) ?_
 refine (all_any12 p _ HP.out (HT.out.on HB.out) (HD.out.next HB.out) (HL.out.next HB.out) (HU.out.on HB.out)).mono ?_; rintro e wm ⟨v, rfl, hv, hb⟩; refine ⟨_, rfl, ?_⟩
 rw [HLe.out] at hv; obtain ⟨a3, c3, rfl, hE⟩ := ers_of hv; have HE3n := Lib.hid hE; clear hv hE
 refine hK.out _ _ hb ?_
 have HR1 := Lib.hid (HR1.out.later hb); have HB := Lib.hid (below_on HB.out hb); clear hb
 have HE3 := HE3n; clear HE3n
 clear hK K
 simp only [Act.put, pa, pb, pc]
 refine late_one 3 (by kernel_rfl) (by kernel_rfl) (fun o ho => ?_)
 simp only [qa, qb, qc, qd] at ho; subst ho
 refine ⟨by kernel_rfl, fun wn hl K hK => ?_⟩
 have HR1 := Lib.hid (HR1.out.later hl); have HE3 := Lib.hid (HE3.out.later hl); have HB := Lib.hid (below_on HB.out hl); clear hl
 refine wp_enter _ _ (by go_simp; exact ⟨rfl, rfl⟩) ?_
 refine (vr_all p _ HP.out).mono ?_; rintro e wm ⟨v, rfl, hv, hb⟩; refine ⟨_, rfl, ?_⟩
 rw [HLe.out] at hv; obtain ⟨a4, c4, rfl, hE⟩ := ers_of hv; have HE4n := Lib.hid hE; clear hv hE
 refine hK.out _ _ hb ?_
 have HR1 := Lib.hid (HR1.out.later hb); have HE3 := Lib.hid (HE3.out.later hb); have HB := Lib.hid (below_on HB.out hb); clear hb
 have HE4 := HE4n; clear HE4n
 clear hK K
 simp only [Act.put, pa, pb, pc]
 refine ltk 4 (by kernel_rfl) (fun _ _ d _ _ h => by cases d <;> exact h) (fun o ho => ?_)
 simp only [qa, qb, qc, qd] at ho; subst ho
 apply Exists.intro
 refine ⟨Or.inl ⟨by kernel_rfl, fun w' hl => Or.inl ?_⟩, ?_⟩
 ·(go_simp; try with_reducible rfl)
 simp only [Act.put, pa, pb, pc]
 refine ltk 5 (by kernel_rfl) (fun _ _ d _ _ h => by cases d <;> exact h) (fun o ho => ?_)
 simp only [qa, qb, qc, qd] at ho; subst ho
 apply Exists.intro
 refine ⟨Or.inl ⟨by kernel_rfl, fun w' hl => Or.inl ?_⟩, ?_⟩
 ·(go_simp; try with_reducible rfl)
 simp only [Act.put, pa, pb, pc]
 refine late_end (by kernel_rfl) (fun wn hl => ?_)
 have HR1 := Lib.hid (HR1.out.later hl); have HE3 := Lib.hid (HE3.out.later hl); have HE4 := Lib.hid (HE4.out.later hl); have HB := Lib.hid (below_on HB.out hl); clear hl
 go_wp2_with fail
 go_loopw [5] (fun i wr => ∃ k : Nat, k ≤ L.length ∧ i = .int .i64 (k : Int) ∧ Ers L a3 wr ∧ Ers L a4 wr ∧ Row wr b1 p ∧ Below w.heap.size w wr) (fun i _ => L.length - (intOf i).toNat)
 case atStart => exact ⟨0, by omega, rfl, HE3.out, HE4.out, HR1.out, HB.out⟩
 case round =>
  clear HE3 HE4 HR1 HB
  obtain ⟨k, hk, rfl, he3, he4, hr1, hb⟩ := hrel
  have HE3 := Lib.hid he3
  have HE4 := Lib.hid he4
  have HR1 := Lib.hid hr1
  have HB := Lib.hid hb
  clear he3 he4 hr1 hb
  by_cases hlt : k < L.length
  ·obtain ⟨x, hx⟩ : ∃ x, L[k]? = some x := ⟨_, List.getElem?_eq_getElem hlt⟩
   obtain ⟨g3, rfl, _⟩ := HE3.out.cell hx
   obtain ⟨g4, rfl, _⟩ := HE4.out.cell hx
   have HX := Lib.hid hx
   have hw1 : (k : Int) < 8 := by have := HLn.out; omega
   have HLt := Lib.hid hlt
   clear hx
   go_wp2_with fail
   refine late_begin 9 (by kernel_rfl) ?_
   refine ltk 0 (by kernel_rfl) (fun _ _ d _ _ h => by cases d <;> exact h) (fun o ho => ?_)
   simp only [qa, qb, qc, qd] at ho; subst ho
   apply Exists.intro
   refine ⟨Or.inl ⟨by kernel_rfl, fun w' hl => Or.inl ?_⟩, ?_⟩
   ·(go_simp; try with_reducible rfl)
   simp only [Act.put, pa, pb, pc]
   refine ltk 1 (by kernel_rfl) (fun _ _ d _ _ h => by cases d <;> exact h) (fun o ho => ?_)
   simp only [qa, qb, qc, qd] at ho; subst ho
   apply Exists.intro
   refine ⟨Or.inl ⟨by kernel_rfl, fun w' hl => Or.inl ?_⟩, ?_⟩
   ·(go_simp; try with_reducible rfl)
   simp only [Act.put, pa, pb, pc]
   refine ltk 2 (by kernel_rfl) (fun _ _ d _ _ h => by cases d <;> exact h) (fun o ho => ?_)
   simp only [qa, qb, qc, qd] at ho; subst ho
   refine ⟨.pointer (some ⟨g3, k, none⟩), Or.inl ⟨by kernel_rfl, fun w' hl => Or.inl ?_⟩, ?_⟩
   ·(go_simp <;> (intro hbad; omega))
   simp only [Act.put, pa, pb, pc]
   refine ltk 3 (by kernel_rfl) (fun _ _ d _ _ h => by cases d <;> exact h) (fun o ho => ?_)
   simp only [qa, qb, qc, qd] at ho; subst ho
   refine ⟨.int .i64 x, Or.inl ⟨by kernel_rfl, fun w' hl => Or.inl (run_get 34 _ rfl g3 k rfl Tryz.underlying34 rfl (.int .i64 x) (ers_cell (HE3.out.later hl) HX.out))⟩, ?_⟩
   simp only [Act.put, pa, pb, pc]
   refine ltk 4 (by kernel_rfl) (fun _ _ d _ _ h => by cases d <;> exact h) (fun o ho => ?_)
   simp only [qa, qb, qc, qd] at ho; subst ho
   apply Exists.intro
   refine ⟨Or.inl ⟨by kernel_rfl, fun w' hl => Or.inl ?_⟩, ?_⟩
   ·(go_simp; try with_reducible rfl)
   simp only [Act.put, pa, pb, pc]
   refine ltk 5 (by kernel_rfl) (fun _ _ d _ _ h => by cases d <;> exact h) (fun o ho => ?_)
   simp only [qa, qb, qc, qd] at ho; subst ho
   apply Exists.intro
   refine ⟨Or.inl ⟨by kernel_rfl, fun w' hl => Or.inl ?_⟩, ?_⟩
   ·(go_simp; try with_reducible rfl)
   simp only [Act.put, pa, pb, pc]
   refine ltk 6 (by kernel_rfl) (fun _ _ d _ _ h => by cases d <;> exact h) (fun o ho => ?_)
   simp only [qa, qb, qc, qd] at ho; subst ho
   refine ⟨.pointer (some ⟨g4, k, none⟩), Or.inl ⟨by kernel_rfl, fun w' hl => Or.inl ?_⟩, ?_⟩
   ·(go_simp <;> (intro hbad; omega))
   simp only [Act.put, pa, pb, pc]
   refine ltk 7 (by kernel_rfl) (fun _ _ d _ _ h => by cases d <;> exact h) (fun o ho => ?_)
   simp only [qa, qb, qc, qd] at ho; subst ho
   refine ⟨.int .i64 x, Or.inl ⟨by kernel_rfl, fun w' hl => Or.inl (run_get 34 _ rfl g4 k rfl Tryz.underlying34 rfl (.int .i64 x) (ers_cell (HE4.out.later hl) HX.out))⟩, ?_⟩
   simp only [Act.put, pa, pb, pc]
   refine ltk 8 (by kernel_rfl) (fun _ _ d _ _ h => by cases d <;> exact h) (fun o ho => ?_)
   simp only [qa, qb, qc, qd] at ho; subst ho
   refine ⟨.bool false, Or.inl ⟨by kernel_rfl, fun w' hl => Or.inl ?_⟩, ?_⟩
   ·(go_simp; try simp)
   simp only [Act.put, pa, pb, pc]
   refine late_end (by kernel_rfl) (fun wn hl => ?_)
   have HE3 := Lib.hid (HE3.out.later hl); have HE4 := Lib.hid (HE4.out.later hl); have HR1 := Lib.hid (HR1.out.later hl); have HB := Lib.hid (below_on HB.out hl); clear hl
   go_wp2_with fail
   go_roundw
   case rel => exact ⟨k + 1, by have := HLt.out; omega, by go_num, HE3.out, HE4.out, HR1.out, HB.out⟩
   case measure => simp [intOf]; have := HLt.out; omega
  ·have e9 : k = L.length := by omega
   have q1 : decide (k < L.length) = false := decide_eq_false hlt
   have q2 : decide ((k : Int) < (L.length : Int)) = false := decide_eq_false (by omega)
   clear e9 hlt hk
   by_cases hl0 : 0 < L.length
   ·obtain ⟨x, hx⟩ : ∃ x, L[0]? = some x := ⟨_, List.getElem?_eq_getElem hl0⟩
    obtain ⟨g4, rfl, _⟩ := HE4.out.cell hx
    have HX := Lib.hid hx
    have HZ := Lib.hid (show hdZ (wrL p) = x by rw [HLe.out]; cases L with | nil => cases hx | cons y l => exact Option.some.inj hx)
    have q3 : decide (0 < L.length) = true := decide_eq_true hl0
    have q4 : decide (0 < (L.length : Int)) = true := decide_eq_true (by omega)
    have q5 : (x == x) = true := beq_self_eq_true x
    clear hx
    go_wp2_with (first
     | (guard_target = Go.wpList _ _ _ ((⟨some 36, .load _ (.tmp 35), _, _, _, _⟩ : Go.Oper) :: _) _ _; refine step_get rfl 34 _ rfl g4 0 rfl Tryz.underlying34 rfl (.int .i64 x) ?_ ?_; exact ers_cell HE4.out HX.out)
     | (guard_target = Go.wpList _ _ _ ((⟨some 37, .load _ (.tmp 1), _, _, _, _⟩ : Go.Oper) :: _) _ _; refine step_load (op := ⟨some 37, .load _ (.tmp 1), _, _, _, _⟩) rfl _ rfl b1 rfl p HR1.out ?_)
     | (go_at_call 7; refine (chkQ HZ.out _ HP.out (HT.out.on HB.out) (HD.out.next HB.out) (HL.out.next HB.out) (HU.out.on HB.out)).mono ?_; rintro e w6 ⟨rfl, hb⟩; have HB := Lib.hid (below_on HB.out hb); clear hb)
     | (go_at_call 8; refine (va_awake _ (HT.out.on HB.out) (HK.out.on HB.out) (HD.out.next HB.out) (HL.out.next HB.out) (HU.out.on HB.out)).mono ?_; rintro e w6 ⟨rfl, hb⟩; have HB := Lib.hid (below_on HB.out hb); clear hb))
    go_ret
    exact ⟨rfl, HB.out⟩
   ·have HZ := Lib.hid (show hdZ (wrL p) = 0 by rw [HLe.out]; cases L with | nil => rfl | cons y l => exact absurd (Nat.succ_pos _) hl0)
    have q3 : decide (0 < L.length) = false := decide_eq_false hl0
    have q4 : decide (0 < (L.length : Int)) = false := decide_eq_false (by omega)
    clear hl0
    go_wp2_with (first
     | (guard_target = Go.wpList _ _ _ ((⟨some 37, .load _ (.tmp 1), _, _, _, _⟩ : Go.Oper) :: _) _ _; refine step_load (op := ⟨some 37, .load _ (.tmp 1), _, _, _, _⟩) rfl _ rfl b1 rfl p HR1.out ?_)
     | (go_at_call 7; refine (chkQ HZ.out _ HP.out (HT.out.on HB.out) (HD.out.next HB.out) (HL.out.next HB.out) (HU.out.on HB.out)).mono ?_; rintro e w6 ⟨rfl, hb⟩; have HB := Lib.hid (below_on HB.out hb); clear hb)
     | (go_at_call 8; refine (va_awake _ (HT.out.on HB.out) (HK.out.on HB.out) (HD.out.next HB.out) (HL.out.next HB.out) (HU.out.on HB.out)).mono ?_; rintro e w6 ⟨rfl, hb⟩; have HB := Lib.hid (below_on HB.out hb); clear hb))
    go_ret
    exact ⟨rfl, HB.out⟩
end Go.Proofs.YtigkbccpkepdmaaGreatDoor.validAll
