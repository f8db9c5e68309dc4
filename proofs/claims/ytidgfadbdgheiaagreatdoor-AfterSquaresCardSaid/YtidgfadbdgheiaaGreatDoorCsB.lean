/-
 The squares from the one to the other one, as an iterator: castle's span.
-/
import Derived.Test.YtidgfadbdgheiaaGreatDoorCsA
import Derived.Test.YtidgfadbdgheiaaGreatDoorAtMake
namespace Go.Proofs.YtidgfadbdgheiaaGreatDoor
open Go.RowKit Go.Shelf
set_option linter.unusedVariables false
set_option linter.unusedSimpArgs false
attribute [local go_sem] Oper.semAt_some

theorem take_next {α : Type} {L : List α} {i : Nat} {x : α} (h : L[i]? = some x) : L.take (i + 1) = L.take i ++ [x] := by rw [List.take_add_one, h]; rfl
theorem take_pre {α : Type} (L : List α) (i : Nat) : L.take i <+: L := List.take_prefix i L
def i64V (s : Int) : Value := .int .i64 s
theorem span_box (x y : Int) (w : World) : Calls Tryz.prog 138 #[.int .i64 x, .int .i64 y] w fun e w' => e = .returned (.func (.func 169) #[] #[.pointer (some ⟨w.heap.size, 0, none⟩), .pointer (some ⟨w.heap.size + 1, 0, none⟩)]) ∧ w' = (w.alloc (.cells #[.int .i64 x] 3)).alloc (.cells #[.int .i64 y] 3) := by
 go_enter Tryz.func138, Tryz.ntmps138
 go_wp2_with fail
 go_ret
 exact ⟨by simp, rfl⟩
set_option maxRecDepth 100000 in
set_option maxHeartbeats 1000000 in
theorem span_seq (n b c : Nat) (x y : Int) (hn : 1 ≤ n) (Y : Nat → Prop) (w : World) (hx : -1000 ≤ x ∧ x ≤ 1000) (hy : -1000 ≤ y ∧ y ≤ 1000) (hb : w.cell? ⟨b, 0, none⟩ = some (.int .i64 x)) (hc : w.cell? ⟨c, 0, none⟩ = some (.int .i64 y)) (hYb : ¬ Y b) (hYc : ¬ Y c) :
  SeqV i64V n 169 #[.pointer (some ⟨b, 0, none⟩), .pointer (some ⟨c, 0, none⟩)] Y (spL x y) w := by
 intro l J Jx W hW hJ hJx hyd h0
 have hcb : W.cell? ⟨b, 0, none⟩ = some (.int .i64 x) := (hW.cell (p := ⟨b, 0, none⟩) (cell_block hb)).trans hb
 have hcc : W.cell? ⟨c, 0, none⟩ = some (.int .i64 y) := (hW.cell (p := ⟨c, 0, none⟩) (cell_block hc)).trans hc
 have hXb : ¬ Xs Y w W b := by rintro (h | h); { exact hYb h }; { have := cell_block hb; simp at this; omega }
 have hXc : ¬ Xs Y w W c := by rintro (h | h); { exact hYc h }; { have := cell_block hc; simp at this; omega }
 simp only [i64V] at hyd
 have HY := Lib.hid hyd
 have HXb := Lib.hid hXb
 have HXc := Lib.hid hXc
 have HJ := Lib.hid h0
 obtain ⟨lo, hlo⟩ : ∃ lo, min x y = lo := ⟨_, rfl⟩
 obtain ⟨hi, hhi⟩ : ∃ hi, max x y = hi := ⟨_, rfl⟩
 have h1 : -1000 ≤ lo := by omega
 have h2 : lo ≤ hi := by omega
 have h3 : hi ≤ 1000 := by omega
 have HL := Lib.hid (show ((spL x y).length : Int) = hi - lo + 1 by rw [spL_len, hlo, hhi])
 have HG := Lib.hid (show ∀ i : Nat, (i : Int) < hi - lo + 1 → (spL x y)[i]? = some (lo + (i : Int)) by rw [← hlo, ← hhi]; exact fun i h => spL_get h)
 obtain ⟨L, hL⟩ : ∃ L, spL x y = L := ⟨_, rfl⟩
 rw [hL] at HL HG HY
 rw [hL]
 have hmin : (if x ≤ y then x else y) = lo := by split <;> omega
 have hmax : (if x ≤ y then y else x) = hi := by split <;> omega
 clear hyd h0 hb hc hW hJ hJx hXb hXc hYb hYc hL
 show CallsIn Fence.wide n Tryz.prog _ #[.func (.yield l) #[] #[], .pointer (some ⟨b, 0, none⟩), .pointer (some ⟨c, 0, none⟩)] W _
 refine callsIn_of_wp Tryz.func169 rfl trivial ?_ rfl
 simp only [Tryz.ntmps169, List.size_toArray, List.length_cons, List.length_nil, Nat.reduceAdd, Nat.reduceSub, Array.replicate_succ, Array.replicate_zero, List.push_toArray, List.append_toArray, List.nil_append, List.cons_append]
 gi_wp2
 gi_loopw [4] (fun p wr => ∃ i : Nat, p = .int .i64 (lo + (i : Int)) ∧ (i : Int) ≤ hi - lo + 1 ∧ wr.cell? ⟨b, 0, none⟩ = some (.int .i64 x) ∧ wr.cell? ⟨c, 0, none⟩ = some (.int .i64 y) ∧ J (L.take i) wr) (fun p _ => (hi + 1 - intOf p).toNat)
 case atStart => exact ⟨0, by simp, by simp; omega, hcb, hcc, by simpa using HJ.out⟩
 case round =>
  clear hcb hcc
  obtain ⟨i, rfl, hi1, hcb, hcc, hj⟩ := hrel
  by_cases h0 : (i : Int) ≤ hi - lo
  ·have hg := HG.out i (by omega)
   have ht := take_next hg
   have hp : L.take i ++ [lo + (i : Int)] <+: L := by rw [← ht]; exact take_pre _ _
   obtain ⟨fn, tmps, assign, body, hyy, hR⟩ := HY.out (L.take i) _ wr hj hp
   have hR : RoundIn Fence.wide (n - 1) Tryz.prog l fn tmps assign body wr _ := ⟨trivial, fun c cs _ => hR.2 c cs (room_wide _)⟩
   have gle : decide (lo + (i : Int) ≤ hi) = true := decide_eq_true (by omega)
   have hw1 : wrap64 (lo + (i : Int) + 1) = lo + (i : Int) + 1 := IntWalk.wrap64_in _ ⟨by omega, by omega⟩
   have HRr := Lib.hid hR
   have HT := Lib.hid ht
   have HP := Lib.hid hp
   have HI := Lib.hid hi1
   have H0 := Lib.hid h0
   have HCb := Lib.hid hcb
   have HCc := Lib.hid hcc
   clear hg ht hp hR hj hi1 h0
   gi_wp2
   refine HRr.out.mono ?_
   rintro e W3 ⟨bb, rfl, hk, hJ3⟩
   cases bb
   ·rw [if_neg (by simp)] at hJ3
    have Hj := Lib.hid hJ3
    clear hJ3 hk
    gi_wp2
    refine bodyPost_ret (results_none rfl _ _ _) rfl ?_
    exact ⟨⟨_, rfl⟩, .inr ⟨L.take i ++ [lo + (i : Int)], by simp, HP.out, Hj.out⟩⟩
   ·rw [if_pos rfl] at hJ3
    have Hj := Lib.hid hJ3
    have Hb3 := Lib.hid (hk.cell HCb.out HXb.out)
    have Hc3 := Lib.hid (hk.cell HCc.out HXc.out)
    clear hJ3 hk hcb hcc
    gi_wp2
    go_roundw
    case rel => exact ⟨i + 1, by congr 1; have := H0.out; first | omega | (push_cast; omega), by have := H0.out; omega, Hb3.out, Hc3.out, by rw [HT.out]; exact Hj.out⟩
    case measure => simp only [intOf]; have := H0.out; omega
  ·have gle : decide (lo + (i : Int) ≤ hi) = false := decide_eq_false (by omega)
   have Hj := Lib.hid (show J L wr by have e : L.take i = L := List.take_of_length_le (by have := HL.out; omega); rw [← e]; exact hj)
   clear hj
   gi_wp2
   go_end0
   exact ⟨⟨_, rfl⟩, .inl Hj.out⟩
end Go.Proofs.YtidgfadbdgheiaaGreatDoor
