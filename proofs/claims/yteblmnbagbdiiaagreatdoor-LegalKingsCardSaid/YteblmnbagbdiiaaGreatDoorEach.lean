/-
 The iterator over the squares of a set, and the program's List: a range over a function.
-/
import Derived.Test.YteblmnbagbdiiaaGreatDoorVaBaseA
import Derived.Test.YteblmnbagbdiiaaGreatDoorAtBase
import Derived.RangeFuncBox
import Derived.RangeFuncLeaves
import Derived.Shelf.Abstract
import Derived.OwnWalkIn
import Derived.TacticsInMore
import Derived.LoopNIn
import Derived.LoopIn
import Derived.Maps.AppendAt
set_option maxRecDepth 100000
set_option maxHeartbeats 2000000
namespace Go.Proofs.YteblmnbagbdiiaaGreatDoor
open Go.RowKit Go.Shelf

attribute [local go_sem] Oper.semAt_some

theorem TabDb.later {n₀ : Nat} {A B : World} (h : TabDb A) (h1 : 2 < n₀) (hb : Below n₀ A B) : TabDb B := fun j hj => (hb.cell (p := ⟨2, j, none⟩) h1).trans (h j hj)
theorem TabDb.lt {w : World} (h : TabDb w) : 2 < w.heap.size := World.block_lt_of_cell? w _ (h 0 (by decide))
theorem rest_and (r : Nat) (hr : r < W64) (h0 : r ≠ 0) : bits .and .u64 (r : Int) ((r : Int) - 1) = ((restN r : Nat) : Int) := by
 have e : ((r : Int) - 1) = ((r - 1 : Nat) : Int) := by omega
 rw [e, and_nat hr (Nat.lt_of_le_of_lt (Nat.sub_le _ _) hr)]; rfl

theorem each1_in (n : Nat) (hn : 1 ≤ n) (l Bn n₀ b : Nat) (hb : b < W64) (J Jx : List Nat → World → Prop)
  (hY : ∀ pre x W, J pre W → pre.length < (listN b).length → YieldAt Fence.wide (n - 1) Tryz.prog l #[.int .i64 ((x : Nat) : Int)] W fun e W' =>
   (e = .returned (.bool true) ∧ J (pre ++ [x]) W' ∧ Below n₀ W W') ∨ (e = .returned (.bool false) ∧ Jx (pre ++ [x]) W'))
  (W : World) (hBn : W.cell? ⟨Bn, 0, none⟩ = some (.int .u64 (b : Int))) (hT : TabDb W) (h1 : 2 < n₀) (h0 : J [] W) :
  CallsIn Fence.wide n Tryz.prog 223 #[.func (.yield l) #[] #[], .pointer (some ⟨Bn, 0, none⟩)] W fun e W' => (∃ v, e = .returned v) ∧
   ((∃ ys, ys = listN b ∧ J ys W') ∨ (∃ pre, pre <+: listN b ∧ Jx pre W')) := by
 have HT := H_ hT
 have HY := H_ hY
 have HB := H_ hb
 have HJ := H_ h0
 clear hT hY hb h0
 refine callsIn_of_wp Tryz.func223 rfl trivial ?_ rfl
 simp only [Tryz.ntmps223, List.size_toArray, List.length_cons, List.length_nil, Nat.reduceAdd, Nat.reduceSub, Array.replicate_succ, Array.replicate_zero, List.push_toArray, List.append_toArray, List.nil_append, List.cons_append]
 gi_wp2
 gi_loopw [3] (fun p wr => ∃ (pre : List Nat) (r : Nat), p = .int .u64 (r : Int) ∧ r < W64 ∧ listN b = pre ++ listN r ∧ TabDb wr ∧ J pre wr) (fun p _ => (listN (intOf p).toNat).length)
 case atStart => exact ⟨[], b, rfl, HB.out, rfl, HT.out, HJ.out⟩
 case round =>
  obtain ⟨pre, r, rfl, hr, hx, ht, hj⟩ := hrel
  by_cases h0 : r = 0
  ·subst h0
   have HX := H_ hx
   have Hj := H_ hj
   clear hx hj ht hr
   gi_wp2
   go_end0
   exact ⟨⟨_, rfl⟩, .inl ⟨pre, by rw [HX.out, listN_zero, List.append_nil], Hj.out⟩⟩
  ·have hl := listN_rest r hr h0
   have hfc := firstN_ctz r hr h0
   have hne : ((r : Int) != 0) = true := by simp; omega
   obtain ⟨c, hc⟩ : ∃ c, c = Lib.ctz 64 r := ⟨_, rfl⟩
   rw [← hc] at hl hfc
   rw [hl] at hx
   obtain ⟨fn, tmps, assign, body, hy, hR⟩ := HY.out pre c wr hj (by rw [hx]; simp)
   have h1r : 1 ≤ r := by omega
   have hrl : r ≤ 18446744073709551615 := by unfold W64 at hr; omega
   have HA := H_ (rest_and r hr h0)
   have HC := H_ hc
   have HX := H_ hx
   have HL := H_ hl
   have Ht := H_ ht
   have Hr := H_ hr
   have Hf := H_ hfc
   have HRr := H_ hR
   clear hc hx hl ht hr hfc h0 hj hR
   gi_wp2_with (refine ⟨trivial, ?_⟩; gi_at_call 71; refine (callsIn_wide.2 (first_any _ _ Hr.out Ht.out)).mono ?_; rintro e w' ⟨rfl, rfl⟩; rw [Hf.out])
   refine HRr.out.mono ?_
   rintro e W3 (⟨rfl, hJ3, hk3⟩ | ⟨rfl, hJx3⟩)
   ·have Hj := H_ hJ3
    have Hk := H_ hk3
    clear hJ3 hk3
    gi_wp2
    go_roundw
    case rel => exact ⟨pre ++ [c], restN r, by rw [HA.out], restN_lt Hr.out, by rw [HX.out]; simp, Ht.out.later h1 Hk.out, Hj.out⟩
    case measure =>
     have e1 : (intOf (.int .u64 (bits .and .u64 (r : Int) ((r : Int) - 1)))).toNat = restN r := by rw [HA.out]; simp [intOf]
     have e2 : (intOf (.int .u64 (r : Int))).toNat = r := by simp [intOf]
     rw [e1, e2, HL.out]; simp
   ·have Hj := H_ hJx3
    clear hJx3
    gi_wp2
    refine bodyPost_ret (results_none rfl _ _ _) rfl ?_
    exact ⟨⟨_, rfl⟩, .inr ⟨pre ++ [c], ⟨listN (restN r), by rw [HX.out]; simp⟩, Hj.out⟩⟩

theorem each_in (n b : Nat) (w : World) :
  CallsIn Fence.wide n Tryz.prog 164 #[.int .u64 (b : Int)] w fun e w' => e = .returned (.func (.func 223) #[] #[.pointer (some ⟨w.heap.size, 0, none⟩)]) ∧ w' = w.alloc (.cells #[.int .u64 (b : Int)] 23) := by
 refine callsIn_of_wp Tryz.func164 rfl trivial ?_ rfl
 simp only [Tryz.ntmps164, List.size_toArray, List.length_cons, List.length_nil, Nat.reduceAdd, Nat.reduceSub, Array.replicate_succ, Array.replicate_zero, List.push_toArray, List.append_toArray, List.nil_append, List.cons_append]
 gi_wp2
 go_ret
 exact ⟨rfl, rfl⟩

theorem each_stops (n : Nat) (hn : 1 ≤ n) (Bn n₀ b : Nat) (hb : b < W64) (w : World) (hBn : Bn < w.heap.size) (hn₀ : n₀ ≤ w.heap.size) (h1 : 2 < n₀)
  (hc : w.cell? ⟨Bn, 0, none⟩ = some (.int .u64 (b : Int))) (hT : TabDb w) :
  SeqStopsK Fence.wide n Tryz.prog 223 #[.pointer (some ⟨Bn, 0, none⟩)] (fun x : Nat => #[Value.int .i64 (x : Int)]) (Below n₀) (fun ys => ys = listN b) (fun pre => pre <+: listN b) (listN b).length w := fun l J Jx W hW _ _ hY h0 =>
 each1_in n hn l Bn n₀ b hb J Jx hY W ((hW.cell (p := ⟨Bn, 0, none⟩) hBn).trans hc) (hT.later h1 (hW.mono hn₀)) h1 h0

theorem list_in (n b : Nat) (hn : 3 ≤ n) (w : World) (hb : b < W64) (hT : TabDb w) :
  CallsIn Fence.wide n Tryz.prog 84 #[.int .u64 (b : Int)] w (ListPost b w) := by
 have h1 : 1 ≤ n := by omega
 have hlen := listN_len b
 have HB := H_ hb
 have HT := H_ hT
 clear hb hT
 obtain ⟨i0, hi, hz0, hz1, hz2⟩ := info_parts infoInt
 refine callsIn_of_wp_marks Tryz.func84 rfl trivial ?_ rfl
 simp only [Tryz.ntmps84, List.size_toArray, List.length_cons, List.length_nil, Nat.reduceAdd, Nat.reduceSub, Array.replicate_succ, Array.replicate_zero, List.push_toArray, List.append_toArray, List.nil_append, List.cons_append]
 gi_wp2_with (first | (refine ⟨trivial, ?_⟩; gi_at_call 163; refine (callsIn_wide.2 (count_any _ _ HB.out)).mono ?_; rintro e w' ⟨rfl, rfl⟩) | (refine ⟨trivial, ?_⟩; gi_at_call 164; refine (each_in (n - 1) _ _).mono ?_; rintro e w' ⟨rfl, rfl⟩) | (gi_at_make; refine wpListIn_make_own _ rfl _ _ 106 rfl w.heap.size 3 i0 (.int .i64 0) 1 Tryz.underlying106 hi hz0 hz1 .i64 .i64 _ (listN b).length rfl rfl rfl (by rw [hz2]; omega) (by unfold maxLen; omega) (Nat.le_refl _) ?_; intro w1 hown hgrow; have HO := H_ hown; have HG := H_ hgrow; clear hown hgrow))
 have hg1 : w.heap.size ≤ w1.heap.size := HG.out.size
 have bO := Boxed.new w1 106 (.slice (some ⟨w.heap.size, 0, none⟩) 0 (listN b).length)
 have bN := Boxed.new (w1.alloc (.cells #[.slice (some ⟨w.heap.size, 0, none⟩) 0 (listN b).length] 106)) 23 (.int .u64 (b : Int))
 rw [World.size_alloc] at bN
 have hB1 : Below w.heap.size w w1 := (Below.refl _ w).grown HG.out (Nat.le_refl _) (fun k h => by cases h)
 have hB0 : Below w.heap.size w ((w1.alloc (.cells #[.slice (some ⟨w.heap.size, 0, none⟩) 0 (listN b).length] 106)).alloc (.cells #[.int .u64 (b : Int)] 23)) := (hB1.alloc hg1 _).alloc (by simp; omega) _
 refine wpIn_rangeFunc_ownG rfl h1 (gf := 223) (lb := #[.pointer (some ⟨w1.heap.size + 1, 0, none⟩)]) rfl trivial (enters_of Tryz.func223 (by kernel_rfl) rfl)
  (each_stops (n - 1) (by omega) (w1.heap.size + 1) w.heap.size b HB.out _ (by simp) (by simp; omega) HT.out.lt bN.cell (HT.out.later HT.out.lt hB0)) belowK_t (belowK_b (by simp; omega)) (Below.refl _ _) (fun _ => rfl)
  (fun pre W => (∃ v, Boxed W w1.heap.size 106 v ∧ W.ownsRow w.heap.size 3 1 v pre.length (rowOf pre) ∧ True) ∧ Below w.heap.size w W)
  (fun _ _ _ => False)
  (OwnFrom.and (Own.from (holdsRow_own w.heap.size w1.heap.size 106 3 1 (fun pre : List Nat => pre.length) (fun pre => rowOf pre) (fun _ _ => True)) _) (ownFrom_below (Nat.le_refl _) (by simp; omega)))
  (fun _ _ _ _ _ hs _ _ => hs)
  ⟨⟨_, bO.alloc _, (HO.out.alloc _).alloc _, trivial⟩, hB0⟩
  (fun x => { tmps := #[.int .u64 (b : Int), undef, .slice none 0 0, .pointer (some ⟨w1.heap.size, 0, none⟩), .int .i64 (x : Int), .int .u64 (b : Int), .int .i64 ((listN b).length : Nat), .slice (some ⟨w.heap.size, 0, none⟩) 0 (listN b).length, .int .u64 (b : Int), .func (.func 223) #[] #[.pointer (some ⟨w1.heap.size + 1, 0, none⟩)], .int .i64 (x : Int), undef, undef, undef, undef, undef], defers := [] }) ?assign ?body ?done ?stop
 case assign =>
  intro l x W K hK
  gi_wp2
  exact hK
 case body =>
  rintro l pre x W ⟨⟨v, hv, hrow, _⟩, hB⟩ hlt
  have hc := hv.cell
  clear hB0 hB1 bO bN
  gi_wp2_with (gi_at_builtin; refine wpListIn_append_own _ rfl _ _ 106 rfl w.heap.size 3 i0 (.int .i64 0) 1 8 Tryz.underlying106 hi hz0 hz1 hz2 rfl (by decide) _ _ _ rfl (hrow.alloc _) ⟨W.heap.size, 0, none⟩ 1 1 [.int .i64 (x : Int)] rfl rfl (cell_one_new _ _ _) (by simp [Value.oneCell']) (by unfold maxLen; omega) (by omega) (by have := hB.size; simp; omega) ?_; intro v' w2 hown' hgrow _; obtain ⟨g', cap', rfl⟩ := ownsRow_succ hown'; obtain ⟨hv1, hv2, hr2, hk2, hb2⟩ := hv.appended (by decide) hrow hB.size hg1 hown' hgrow; have hc1 := hv1.cell; have hf1 := hv1.frozen)
  exact ⟨hk2.from _, hb2, ⟨_, hv2, by rw [rowOf_snoc]; simpa using hr2, trivial⟩, hB.trans hb2⟩
 case done =>
  rintro D ys W hD rfl ⟨⟨v, hv, hrow, _⟩, hB⟩ hK
  have hc := hv.cell
  gi_wp2
  refine ⟨by simp, .inl ⟨_, _, rfl, run_takeDeferred hK, ?_⟩⟩
  exact ⟨_, results_tmp rfl _ _ _, v, rfl, ownsRow_putObj hrow _ hK rfl, hB.trans (belowK_b (w := w) (Nat.le_refl _) W D _ _ (by simp at hD; omega) hK rfl rfl)⟩
 case stop =>
  rintro D c pre W _ _ h _
  exact h.elim
theorem list_any (b : Nat) (w : World) (hb : b < W64) (hT : TabDb w) : Calls Tryz.prog 84 #[.int .u64 (b : Int)] w (ListPost b w) :=
 callsIn_wide.1 (list_in 3 b (Nat.le_refl _) w hb hT)
end Go.Proofs.YteblmnbagbdiiaaGreatDoor
