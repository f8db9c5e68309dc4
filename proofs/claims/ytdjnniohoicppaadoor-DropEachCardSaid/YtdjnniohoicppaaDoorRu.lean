/-
  Contracts of what a variant has, by the program: of, Name, Royal, Castles, Pockets, Pawns.
-/
import Derived.Test.YtdjnniohoicppaaDoorAtBase
import Derived.Test.YtdjnniohoicppaaDoorArr
import Derived.Test.YtdjnniohoicppaaDoorRuTab
import Derived.Test.YtdjnniohoicppaaDoorRuList
import Derived.WalkMore
import Derived.Deep.LoopGhost
import Derived.Deep.Draws
namespace Go.Proofs.YtdjnniohoicppaaDoor
open Go.RowKit
set_option linter.unusedVariables false

theorem drewN_on (w : World) (n : Nat) : Below w.heap.size w (w.drewN n) := ⟨rfl, rfl, rfl, Nat.le_refl _, fun _ _ => rfl⟩
theorem rz {T : TypeId} {n : Nat} (h : (Tryd.prog.info? T).map (·.size) = some n) : (Tryd.prog.info? T).map (·.size) = some n := h
theorem results_blk {fn : Func} {i : Tmp} {T : TypeId} {d : TypeDesc} {n : Nat} (h : fn.results = #[.cell i T]) (tmps : Array Value) (w : World) (b : Nat) (cs : Array Value) (hp : tmps.getD i undef = .pointer (some ⟨b, 0, none⟩)) (hr : Blk w b T cs)
    (hu : Tryd.prog.underlying T = some d) (hd : d.isRow = true) (hi : (Tryd.prog.info? T).map (·.size) = some n) (hn : cs.size = n) : (results fn tmps).run Tryd.prog w = .ok (.agg cs) w :=
  results_cell_row h tmps w b T cs (0, 0) d hp hr hu (by cases d <;> first | rfl | cases hd) (by rw [hi, hn])
theorem sizeTr : (Tryd.prog.info? 58).map (·.size) = some 7 := by kernel_rfl
theorem trL_one (v : Nat) : (trL v).toArray.all (·.oneCell') = true := by simp [trL, Value.oneCell']
theorem zeroTr : (Tryd.prog.info? 58).map (fun i => (i.zero, i.size)) = some (some (.agg (trL 9).toArray), 7) := by kernel_rfl

set_option maxRecDepth 100000 in
theorem ofv_any (v : Nat) (w : World) (hv : v ≤ 255) (hT : TabVar w) : Calls Tryd.prog 28 #[.int .u8 (v : Int)] w (AggL (trL v).toArray w) := by
  by_cases h9 : 9 ≤ v
  · have HE := Lib.hid (show trL v = trL 9 by rw [trL_none h9]; rfl)
    have g0 : decide ((9 : Int) ≤ (v : Int)) = true := decide_eq_true (by omega)
    clear h9
    go_enter Tryd.func28, Tryd.ntmps28
    go_wp2_with (first
      | (refine blk_alloc rfl 58 rfl (trL 9).toArray zeroTr ?_; intro b1 w1 N R; have HG := Lib.hid (Nat.le_of_eq N.at_.symm); have HR := Lib.hid R; have HB := Lib.hid N.below; clear N R)
      | (refine blk_store rfl 58 _ _ rfl b1 rfl _ (trL 9).toArray rfl HR.out rfl (trL_one _) sizeTr ?_; intro w2 U R; have HR := Lib.hid R; have HB := Lib.hid (HB.out.trans (U.below HG.out)); clear U R))
    refine bodyPost_ret (v := .agg (trL 9).toArray) (results_blk rfl _ _ _ _ rfl HR.out Tryd.underlying58 rfl sizeTr rfl) rfl ⟨by rw [HE.out], HB.out⟩
  · have HT := Lib.hid (hT v (by omega))
    have g0 : decide ((9 : Int) ≤ (v : Int)) = false := decide_eq_false (by omega)
    have g1 : (v : Int) < 9 := by omega
    clear hT
    go_enter Tryd.func28, Tryd.ntmps28
    go_wp2_with (first
      | (refine blk_alloc rfl 58 rfl (trL 9).toArray zeroTr ?_; intro b1 w1 N R; have HG := Lib.hid (Nat.le_of_eq N.at_.symm); have HR := Lib.hid R; have HB := Lib.hid N.below; clear N R)
      | (refine step_range rfl 58 _ rfl 0 (v * 7) rfl (trL v) (range_on HT.out HB.out) _ Tryd.underlying58 rfl sizeTr ?_)
      | (refine blk_store rfl 58 _ _ rfl b1 rfl _ (trL v).toArray rfl HR.out rfl (trL_one _) sizeTr ?_; intro w2 U R; have HR := Lib.hid R; have HB := Lib.hid (HB.out.trans (U.below HG.out)); clear U R))
    refine bodyPost_ret (v := .agg (trL v).toArray) (results_blk rfl _ _ _ _ rfl HR.out Tryd.underlying58 rfl sizeTr rfl) rfl ⟨rfl, HB.out⟩
theorem of_row (v : Nat) (w : World) (hv : v ≤ 255) (hT : TabVar w) : Calls Tryd.prog 28 #[.int .u8 (v : Int)] w (AggL #[.string (nmZ v), .bool (ryB v 0), .bool (ryB v 1), .bool (casB v), .bool (pocB v), .bool (pawB v), .int .u8 (hiN v : Nat)] w) := ofv_any v w hv hT
theorem cas_any (v : Nat) (w : World) (hv : v ≤ 255) (hT : TabVar w) : Calls Tryd.prog 50 #[.int .u8 (v : Int)] w (BoL (casB v) w) := by
  have HT := Lib.hid hT
  clear hT
  go_enter Tryd.func50, Tryd.ntmps50
  go_wp2_with fail
  refine (of_row v _ hv HT.out).mono ?_; rintro e w1 ⟨rfl, hb⟩
  have HB := Lib.hid hb
  clear hb
  go_wp2_with (refine step_field rfl 58 _ 2 rfl _ rfl Tryd.underlying58 rfl Tryd.underlying4 rfl (.bool (casB v)) rfl ?_)
  go_ret
  exact ⟨rfl, HB.out⟩
theorem poc_any (v : Nat) (w : World) (hv : v ≤ 255) (hT : TabVar w) : Calls Tryd.prog 19 #[.int .u8 (v : Int)] w (BoL (pocB v) w) := by
  have HT := Lib.hid hT
  clear hT
  go_enter Tryd.func19, Tryd.ntmps19
  go_wp2_with fail
  refine (of_row v _ hv HT.out).mono ?_; rintro e w1 ⟨rfl, hb⟩
  have HB := Lib.hid hb
  clear hb
  go_wp2_with (refine step_field rfl 58 _ 3 rfl _ rfl Tryd.underlying58 rfl Tryd.underlying4 rfl (.bool (pocB v)) rfl ?_)
  go_ret
  exact ⟨rfl, HB.out⟩
end Go.Proofs.YtdjnniohoicppaaDoor
