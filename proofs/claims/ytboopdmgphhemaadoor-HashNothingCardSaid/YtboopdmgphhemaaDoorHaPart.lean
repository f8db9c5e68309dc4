/-
  Contracts of the program's layer 9, first part: Part, with the table of the mixing.
-/
import Derived.Test.YtboopdmgphhemaaDoorHaMath
import Derived.Test.YtboopdmgphhemaaDoorBase
import Derived.Test.YtboopdmgphhemaaDoorRuTab
import Derived.Test.YtboopdmgphhemaaDoorArr
namespace Go.Proofs.YtboopdmgphhemaaDoor
open Go.RowKit
set_option linter.unusedVariables false

/-- The table of shifts and factors. -/
def mixL : List Value := [.int .u64 30, .int .u64 13787848793156543929, .int .u64 27, .int .u64 10723151780598845931, .int .u64 31, .int .u64 1]
def mixA : Array Value := mixL.toArray
def stpA (k : Nat) : Array Value := #[.int .u64 (shN k : Nat), .int .u64 (fcN k : Nat)]
def TabMix (w : World) : Prop := w.rangeAt 0 0 mixL
theorem TabMix.on {w w' : World} (h : TabMix w) (hb : Below w.heap.size w w') : TabMix w' := range_on h hb
theorem TabMix.lt {w : World} (h : TabMix w) : 0 < w.heap.size := World.block_lt_of_cell? w ⟨0, 0, none⟩ (h 0 (.int .u64 30) rfl)
theorem tab_kibitzer_hash_mixing {W : World} {nm : String} {rest : List (String × DataW Unit)} (h : laidMet Tryd.prog ((nm, Rows.laid_kibitzer_hash_mixing) :: rest) W) (hn : Tryd.prog.globalNamed nm = some 0) : TabMix W := by
  have t := cells_of_laid (g := 0) (t := 51) hn (by kernel_rfl) (by kernel_rfl) (by kernel_rfl) h
  have e : ((Rows.laid_kibitzer_hash_mixing (H := Unit)).flat.map Lit.toCell) = mixL := by kernel_rfl
  rw [e] at t
  intro j x hx
  rw [t, Nat.zero_add]; exact hx
theorem sizeStp : (Tryd.prog.info? 50).map (·.size) = some 2 := by kernel_rfl
theorem sizeMix : (Tryd.prog.info? 51).map (·.size) = some 6 := by kernel_rfl
def nilStp : Array Value := #[.int .u64 0, .int .u64 0]
theorem zeroStp : (Tryd.prog.info? 50).map (fun i => (i.zero, i.size)) = some (some (.agg nilStp), 2) := by kernel_rfl
theorem stp_one (k : Nat) : (stpA k).all (·.oneCell') = true := by simp [stpA, Value.oneCell']
theorem mix_at (k : Nat) (hk : k < 3) : mixA.extract (k * 2) (k * 2 + 2) = stpA k := by
  have : k = 0 ∨ k = 1 ∨ k = 2 := by omega
  rcases this with rfl | rfl | rfl <;> rfl
theorem shN_le (k : Nat) : shN k ≤ 63 := by unfold shN; cases Nat.beq k 0 <;> cases Nat.beq k 1 <;> decide
theorem fcN_lt (k : Nat) : fcN k < W64 := by unfold fcN; cases Nat.beq k 0 <;> cases Nat.beq k 1 <;> decide
theorem raw_wrap (t n : Int) : IntKind.u64.wrap (IntKind.u64.wrap (IntKind.u64.wrap (4096 * IntKind.u64.wrap t) + IntKind.u64.wrap n) + 11400714819323198485) = ((rawN t n : Nat) : Int) := by
  rw [rawN_eq]; simp only [IntKind.wrap_u64]; omega

theorem mix_val {x sh fc y : Nat} (hx : x < W64) (h : ((x ^^^ (x / 2 ^ sh)) * fc) % W64 = y) : IntKind.u64.wrap (bits .xor .u64 (x : Int) ((x : Int) / 2 ^ sh) * (fc : Int)) = (y : Int) := by
  have e : ((x : Int) / 2 ^ sh) = ((x / 2 ^ sh : Nat) : Int) := by simp
  rw [e, xor_nat hx (halfW_lt hx sh), IntKind.wrap_u64, ← h, show W64 = 18446744073709551616 from rfl]; omega
set_option maxRecDepth 100000 in
set_option maxHeartbeats 1000000 in
theorem part_any (t n : Int) (w : World) (hT : TabMix w) : Calls Tryd.prog 10 #[.int .i64 t, .int .i64 n] w (U64L (ptN t n) w) := by
  have HT := Lib.hid hT
  have HR := Lib.hid (raw_wrap t n)
  clear hT
  go_enter Tryd.func10, Tryd.ntmps10
  go_wp2_with (refine step_range rfl 51 _ rfl 0 0 rfl mixL HT.out _ Tryd.underlying51 rfl sizeMix ?_)
  rw [HR.out]
  go_loopw [5, 16] (fun x i wr => ∃ k : Nat, k ≤ 3 ∧ i = .int .i64 (k : Int) ∧ x = .int .u64 ((mixN (rawN t n) k : Nat) : Int) ∧ Below w.heap.size w wr) (fun _ i _ => 3 - (intOf i).toNat)
  case atStart => exact ⟨0, by omega, rfl, rfl, Below.refl _ _⟩
  case round =>
    obtain ⟨k, hk, rfl, rfl, hb⟩ := hrel
    have HB := Lib.hid hb
    clear hb
    by_cases hlt : k < 3
    · have hlk : (k : Int) < 3 := by omega
      have HX := Lib.hid (mixN_lt (rawN_lt t n) k)
      have HS := Lib.hid (show stN k (mixN (rawN t n) k) = mixN (rawN t n) (k + 1) from rfl)
      have HA := Lib.hid (show stpA k = #[.int .u64 (shN k : Nat), .int .u64 (fcN k : Nat)] from rfl)
      have hs63 := shN_le k
      have hf64 := fcN_lt k
      unfold stN at HS
      generalize mixN (rawN t n) k = x at HX HS ⊢
      obtain ⟨y, hy⟩ : ∃ y, mixN (rawN t n) (k + 1) = y := ⟨_, rfl⟩
      rw [hy] at HS
      have HY := Lib.hid hy
      clear hy
      generalize shN k = sh at HA HS hs63
      generalize fcN k = fc at HA HS hf64
      have HBz := Lib.hid (show w.heap.size ≤ wr.heap.size from HB.out.size)
      go_wp2_with (first
        | (refine step_indexA rfl 51 50 _ _ rfl 3 2 mixA rfl .i64 k rfl hlt Tryd.underlying51 Tryd.underlying50 rfl sizeStp (stpA k) (mix_at k hlt) ?_)
        | (refine blk_alloc rfl 50 rfl nilStp zeroStp ?_; intro b1 w1 N R; have HG := Lib.hid (Nat.le_of_eq N.at_.symm); have HR := Lib.hid R; have HB := Lib.hid (HB.out.trans (N.below.mono HB.out.size)); clear N R)
        | (refine blk_store rfl 50 _ _ rfl b1 rfl _ (stpA k) rfl HR.out rfl (stp_one k) sizeStp ?_; intro w2 U R; have HR := Lib.hid R; have HB := Lib.hid (HB.out.trans (U.below (Nat.le_trans HBz.out HG.out))); clear U R; have hc0 : w2.cell? ⟨b1, 0, none⟩ = some (.int .u64 (sh : Int)) := (by rw [HR.out.cell, HA.out]; rfl); have hc1 : w2.cell? ⟨b1, 1, none⟩ = some (.int .u64 (fc : Int)) := (by rw [HR.out.cell, HA.out]; rfl)))
      have HV := Lib.hid (mix_val HX.out HS.out)
      go_roundw
      case rel => exact ⟨k + 1, by omega, by go_num, by rw [HV.out, HY.out], HB.out⟩
      case measure => simp [intOf]; omega
    · obtain rfl : k = 3 := by omega
      go_wp2_with fail
      go_ret
      exact ⟨rfl, HB.out⟩
end Go.Proofs.YtboopdmgphhemaaDoor
