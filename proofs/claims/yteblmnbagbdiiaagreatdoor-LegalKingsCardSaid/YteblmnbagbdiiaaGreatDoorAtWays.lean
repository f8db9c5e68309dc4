/-
 Contracts of the program's ways, other, each: how each kind attacks; the squares of a set, gone through.
-/
import Derived.Test.YteblmnbagbdiiaaGreatDoorSlides
import Derived.Test.YteblmnbagbdiiaaGreatDoorAtMath
import Derived.Test.YteblmnbagbdiiaaGreatDoorAfBaseK
import Derived.Test.YteblmnbagbdiiaaGreatDoorVaBaseB
set_option maxRecDepth 100000
set_option maxHeartbeats 1000000
namespace Go.Proofs.YteblmnbagbdiiaaGreatDoor
open Go.RowKit Go.Shelf
set_option linter.unusedVariables false

def U8S (n : Int) (w : World) (e : Ending) (w' : World) : Prop := e = .returned (.int .u8 n) ∧ w = w'
theorem oth_wrap (c : Int) : IntKind.u8.wrap (1 - c) = oth c := by
 unfold oth; rfl
theorem other_any (c : Int) (w : World) : Calls Tryz.prog 34 #[.int .u8 c] w (U8S (oth c) w) := by
 have HO := H_ (oth_wrap c)
 go_enter Tryz.func34, Tryz.ntmps34
 go_wp2_with fail
 go_ret
 exact ⟨ret_int (by rw [← HO.out]; rfl), rfl⟩
theorem way0 (c s : Int) (occ : Nat) (w : World) (hc : 0 ≤ c) (ho : occ < W64) (hD : TabDb w) (hL : TabLead w) : Calls Tryz.prog 204 #[.int .u8 c, .int .i64 s, .int .u64 (occ : Int)] w (U64L (atkN c 0 s occ) w) := by
 have HO := H_ ho
 have HD := H_ hD
 have HL := H_ hL
 clear ho hD hL
 go_enter Tryz.func204, Tryz.ntmps204
 go_wp2_with fail
 go_ret
 exact ⟨rfl, Below.refl _ _⟩
theorem way1 (c s : Int) (occ : Nat) (w : World) (hc : 0 ≤ c) (ho : occ < W64) (hD : TabDb w) (hL : TabLead w) : Calls Tryz.prog 205 #[.int .u8 c, .int .i64 s, .int .u64 (occ : Int)] w (U64L (atkN c 1 s occ) w) := by
 have HO := H_ ho
 have HD := H_ hD
 have HL := H_ hL
 clear ho hD hL
 go_enter Tryz.func205, Tryz.ntmps205
 go_wp2_with fail
 refine (pawn_any c s _ HL.out hc).mono ?_; rintro e w1 ⟨rfl, hb⟩
 have HB := H_ hb; clear hb
 go_wp2_with fail
 go_ret
 exact ⟨rfl, HB.out⟩
theorem way2 (c s : Int) (occ : Nat) (w : World) (hc : 0 ≤ c) (ho : occ < W64) (hD : TabDb w) (hL : TabLead w) : Calls Tryz.prog 207 #[.int .u8 c, .int .i64 s, .int .u64 (occ : Int)] w (U64L (atkN c 2 s occ) w) := by
 have HO := H_ ho
 have HD := H_ hD
 have HL := H_ hL
 clear ho hD hL
 go_enter Tryz.func207, Tryz.ntmps207
 go_wp2_with fail
 refine (knight_any s _ HL.out).mono ?_; rintro e w1 ⟨rfl, hb⟩
 have HB := H_ hb; clear hb
 go_wp2_with fail
 go_ret
 exact ⟨rfl, HB.out⟩
theorem way3 (c s : Int) (occ : Nat) (w : World) (hc : 0 ≤ c) (ho : occ < W64) (hD : TabDb w) (hL : TabLead w) : Calls Tryz.prog 209 #[.int .u8 c, .int .i64 s, .int .u64 (occ : Int)] w (U64L (atkN c 3 s occ) w) := by
 have HO := H_ ho
 have HD := H_ hD
 have HL := H_ hL
 clear ho hD hL
 go_enter Tryz.func209, Tryz.ntmps209
 go_wp2_with fail
 refine (bish_any s occ _ HO.out HD.out HL.out).mono ?_; rintro e w1 ⟨rfl, hb⟩
 have HB := H_ hb; clear hb
 go_wp2_with fail
 go_ret
 exact ⟨rfl, HB.out⟩
theorem way4 (c s : Int) (occ : Nat) (w : World) (hc : 0 ≤ c) (ho : occ < W64) (hD : TabDb w) (hL : TabLead w) : Calls Tryz.prog 211 #[.int .u8 c, .int .i64 s, .int .u64 (occ : Int)] w (U64L (atkN c 4 s occ) w) := by
 have HO := H_ ho
 have HD := H_ hD
 have HL := H_ hL
 clear ho hD hL
 go_enter Tryz.func211, Tryz.ntmps211
 go_wp2_with fail
 refine (rook_any s occ _ HO.out HD.out HL.out).mono ?_; rintro e w1 ⟨rfl, hb⟩
 have HB := H_ hb; clear hb
 go_wp2_with fail
 go_ret
 exact ⟨rfl, HB.out⟩
theorem way5 (c s : Int) (occ : Nat) (w : World) (hc : 0 ≤ c) (ho : occ < W64) (hD : TabDb w) (hL : TabLead w) : Calls Tryz.prog 213 #[.int .u8 c, .int .i64 s, .int .u64 (occ : Int)] w (U64L (atkN c 5 s occ) w) := by
 have HO := H_ ho
 have HD := H_ hD
 have HL := H_ hL
 clear ho hD hL
 go_enter Tryz.func213, Tryz.ntmps213
 go_wp2_with fail
 refine (queen_any s occ _ HO.out HD.out HL.out).mono ?_; rintro e w1 ⟨rfl, hb⟩
 have HB := H_ hb; clear hb
 go_wp2_with fail
 go_ret
 exact ⟨rfl, HB.out⟩
theorem way6 (c s : Int) (occ : Nat) (w : World) (hc : 0 ≤ c) (ho : occ < W64) (hD : TabDb w) (hL : TabLead w) : Calls Tryz.prog 215 #[.int .u8 c, .int .i64 s, .int .u64 (occ : Int)] w (U64L (atkN c 6 s occ) w) := by
 have HO := H_ ho
 have HD := H_ hD
 have HL := H_ hL
 clear ho hD hL
 go_enter Tryz.func215, Tryz.ntmps215
 go_wp2_with fail
 refine (king_any s _ HL.out).mono ?_; rintro e w1 ⟨rfl, hb⟩
 have HB := H_ hb; clear hb
 go_wp2_with fail
 go_ret
 exact ⟨rfl, HB.out⟩
def wayF (k : Nat) : Nat := [204, 205, 207, 209, 211, 213, 215].getD k 0
theorem way_any (k : Nat) (hk : k < 7) (c s : Int) (occ : Nat) (w : World) (hc : 0 ≤ c) (ho : occ < W64) (hD : TabDb w) (hL : TabLead w) : Calls Tryz.prog (wayF k) #[.int .u8 c, .int .i64 s, .int .u64 (occ : Int)] w (U64L (atkN c k s occ) w) := by
 have : k = 0 ∨ k = 1 ∨ k = 2 ∨ k = 3 ∨ k = 4 ∨ k = 5 ∨ k = 6 := by omega
 rcases this with rfl | rfl | rfl | rfl | rfl | rfl | rfl
 ·exact way0 c s occ w hc ho hD hL
 ·exact way1 c s occ w hc ho hD hL
 ·exact way2 c s occ w hc ho hD hL
 ·exact way3 c s occ w hc ho hD hL
 ·exact way4 c s occ w hc ho hD hL
 ·exact way5 c s occ w hc ho hD hL
 ·exact way6 c s occ w hc ho hD hL
theorem way_enters (k : Nat) (hk : k < 7) (args : Array Value) (w : World) : (callFunc (wayF k) args).run Tryz.prog w = .ok (.enter (wayF k) args) w := by
 have : k = 0 ∨ k = 1 ∨ k = 2 ∨ k = 3 ∨ k = 4 ∨ k = 5 ∨ k = 6 := by omega
 rcases this with rfl | rfl | rfl | rfl | rfl | rfl | rfl
 ·exact enters_of Tryz.func204 (by kernel_rfl) rfl args w
 ·exact enters_of Tryz.func205 (by kernel_rfl) rfl args w
 ·exact enters_of Tryz.func207 (by kernel_rfl) rfl args w
 ·exact enters_of Tryz.func209 (by kernel_rfl) rfl args w
 ·exact enters_of Tryz.func211 (by kernel_rfl) rfl args w
 ·exact enters_of Tryz.func213 (by kernel_rfl) rfl args w
 ·exact enters_of Tryz.func215 (by kernel_rfl) rfl args w
def waysA : Array Value := #[.func (.func 204) #[] #[], .func (.func 205) #[] #[], .func (.func 207) #[] #[], .func (.func 209) #[] #[], .func (.func 211) #[] #[], .func (.func 213) #[] #[], .func (.func 215) #[] #[]]
theorem waysA_one : waysA.all (·.oneCell') = true := by simp [waysA, Value.oneCell']
theorem size53 : (Tryz.prog.info? 142).map (·.size) = some 7 := by kernel_rfl
def nilWays : Array Value := #[.nilFunc, .nilFunc, .nilFunc, .nilFunc, .nilFunc, .nilFunc, .nilFunc]
theorem zero53 : (Tryz.prog.info? 142).map (fun i => (i.zero, i.size)) = some (some (.agg nilWays), 7) := by kernel_rfl
theorem each_box (b : Nat) (w : World) : Calls Tryz.prog 152 #[.int .u64 (b : Int)] w fun e w' => e = .returned (.func (.func 216) #[] #[.pointer (some ⟨w.heap.size, 0, none⟩)]) ∧ w' = w.alloc (.cells #[.int .u64 (b : Int)] 23) := by
 go_enter Tryz.func152, Tryz.ntmps152
 go_wp2_with fail
 go_ret
 exact ⟨rfl, rfl⟩
theorem clear_rest (r : Nat) (hr : r < W64) (h0 : r ≠ 0) : clearN r ((Lib.ctz 64 r : Nat) : Int) = restN r := by
 have hl := listN_rest r hr h0
 have hp := listN_sorted r
 have hm : ∀ i, i < 64 → ((restN r).testBit i = true ↔ r.testBit i = true ∧ i ≠ Lib.ctz 64 r) := fun i hi => by
  have e1 : r.testBit i = true ↔ i ∈ listN r := by rw [mem_listN]; simp [hi]
  have e2 : (restN r).testBit i = true ↔ i ∈ listN (restN r) := by rw [mem_listN]; simp [hi]
  rw [e1, e2, hl]
  rw [hl, List.pairwise_cons] at hp
  constructor
  ·intro h; exact ⟨List.mem_cons_of_mem _ h, fun e => by have := hp.1 i h; omega⟩
  ·rintro ⟨h, hne⟩; rcases List.mem_cons.1 h with h | h
   ·exact absurd h hne
   ·exact h
 have hc : Lib.ctz 64 r < 64 := by
  have : Lib.ctz 64 r ∈ listN r := by rw [hl]; exact List.mem_cons_self
  exact (mem_listN.1 this).1
 apply eq_of_bits (clearN_lt hr _) (restN_lt hr)
 intro i hi
 rw [Bool.eq_iff_iff, hm i hi, clearN_testBit, Bool.and_eq_true]
 have hs : sq ((Lib.ctz 64 r : Nat) : Int) = true := sq_true.2 (by omega)
 rw [hs, Bool.true_and]
 simp only [Bool.not_eq_true', decide_eq_false_iff_not]
 constructor
 ·rintro ⟨h1, h2⟩; exact ⟨h1, fun e => h2 (by omega)⟩
 ·rintro ⟨h1, h2⟩; exact ⟨h1, fun e => h2 (by omega)⟩

attribute [local go_sem] Oper.semAt_some
theorem snoc_pre {α : Type} {L pre : List α} {c : α} {t : List α} (h : L = pre ++ c :: t) : pre ++ [c] <+: L := ⟨t, by rw [h]; simp⟩
theorem each_seq (n Bn b : Nat) (hn : 1 ≤ n) (Y : Nat → Prop) (w : World) (hb : b < W64) (hBn : w.cell? ⟨Bn, 0, none⟩ = some (.int .u64 (b : Int))) (hT : TabDb w) (hY : ¬ Y 2) :
  SeqK n 216 #[.pointer (some ⟨Bn, 0, none⟩)] Y (listN b) w := by
 intro l J Jx W hW hJ hJx hyd h0
 have hcb : W.cell? ⟨Bn, 0, none⟩ = some (.int .u64 (b : Int)) := (hW.cell (p := ⟨Bn, 0, none⟩) (cell_block hBn)).trans hBn
 have hX : ¬ Xs Y w W 2 := by rintro (h | h); { exact hY h }; { have := hT.lt; omega }
 have HT := H_ (hT.next hW)
 have HY := H_ hyd
 have HX := H_ hX
 have HB := H_ hb
 have HJ := H_ h0
 clear hT hyd hb h0 hBn hW hJ hJx hX hY
 show CallsIn Fence.wide n Tryz.prog _ #[.func (.yield l) #[] #[], .pointer (some ⟨Bn, 0, none⟩)] W _
 refine callsIn_of_wp Tryz.func216 rfl trivial ?_ rfl
 simp only [Tryz.ntmps216, List.size_toArray, List.length_cons, List.length_nil, Nat.reduceAdd, Nat.reduceSub, Array.replicate_succ, Array.replicate_zero, List.push_toArray, List.append_toArray, List.nil_append, List.cons_append]
 gi_wp2
 gi_loopw [3] (fun p wr => ∃ (pre : List Nat) (r : Nat), p = .int .u64 (r : Int) ∧ r < W64 ∧ listN b = pre ++ listN r ∧ TabDb wr ∧ J pre wr) (fun p _ => (listN (intOf p).toNat).length)
 case atStart => exact ⟨[], b, rfl, HB.out, rfl, HT.out, HJ.out⟩
 case round =>
  obtain ⟨pre, r, rfl, hr, hx, ht, hj⟩ := hrel
  by_cases h0 : r = 0
  ·subst h0
   have HX := H_ hx
   have Hj := H_ hj
   clear hx hj ht hr
   gi_wp2
   go_end0
   exact ⟨⟨_, rfl⟩, .inl (by have e := HX.out; rw [listN_zero, List.append_nil] at e; rw [e]; exact Hj.out)⟩
  ·have hl := listN_rest r hr h0
   have hfc := firstN_ctz r hr h0
   have hne : ((r : Int) != 0) = true := by simp; omega
   have hcr := clear_rest r hr h0
   obtain ⟨c, hc⟩ : ∃ c, c = Lib.ctz 64 r := ⟨_, rfl⟩
   rw [← hc] at hl hfc hcr
   rw [hl] at hx
   have hp := snoc_pre hx
   obtain ⟨fn, tmps, assign, body, hy, hR⟩ := HY.out pre c wr hj hp
   have h1r : 1 ≤ r := by omega
   have hrl : r ≤ 18446744073709551615 := by unfold W64 at hr; omega
   have hR : RoundIn Fence.wide (n - 1) Tryz.prog l fn tmps assign body wr _ := ⟨trivial, fun c cs _ => hR.2 c cs (room_wide _)⟩
   have HC := H_ hcr
   have HH := H_ hx
   have HP := H_ hp
   have HL := H_ hl
   have Ht := H_ ht
   have Hr := H_ hr
   have Hf := H_ hfc
   have HRr := H_ hR
   clear hx hl ht hr hfc h0 hj hR hcr hc hp
   gi_wp2_with (refine ⟨trivial, ?_⟩; gi_at_call 71; refine (callsIn_wide.2 (first_any _ _ Hr.out Ht.out)).mono ?_; rintro e w' ⟨rfl, rfl⟩; rw [Hf.out])
   refine HRr.out.mono ?_
   rintro e W3 ⟨bb, rfl, hk, hJ3⟩
   cases bb
   ·rw [if_neg (by simp)] at hJ3
    have Hj := H_ hJ3
    clear hJ3 hk
    gi_wp2
    refine bodyPost_ret (results_none rfl _ _ _) rfl ?_
    exact ⟨⟨_, rfl⟩, .inr ⟨pre ++ [c], by simp, HP.out, Hj.out⟩⟩
   ·rw [if_pos rfl] at hJ3
    have Hj := H_ hJ3
    have Ht2 := H_ (show TabDb W3 from fun j hj => hk.cell (Ht.out j hj) HX.out)
    clear hJ3 hk
    gi_wp2_with (refine ⟨trivial, ?_⟩; gi_at_call 217; refine (callsIn_wide.2 (clear_any _ _ _ Hr.out)).mono ?_; rintro e w' ⟨rfl, rfl⟩; rw [HC.out])
    go_roundw
    case rel => exact ⟨pre ++ [c], restN r, rfl, restN_lt Hr.out, by rw [HH.out]; simp, Ht2.out, Hj.out⟩
    case measure =>
     have e1 : (intOf (.int .u64 ((restN r : Nat) : Int))).toNat = restN r := by simp [intOf]
     have e2 : (intOf (.int .u64 (r : Int))).toNat = r := by simp [intOf]
     rw [e1, e2, HL.out]; simp
end Go.Proofs.YteblmnbagbdiiaaGreatDoor
