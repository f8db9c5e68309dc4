/-
 Contracts of the program's and the document's Put.
-/
import Derived.Test.YteblmnbagbdiiaaGreatDoorVaBaseA
set_option maxRecDepth 100000
set_option maxHeartbeats 1000000
namespace Go.Proofs.YteblmnbagbdiiaaGreatDoor
open Go.RowKit
set_option linter.unusedVariables false

def mayPut (x : Int) : Bool := (x == 0) || pcB x
def putB (s x : Int) : Bool := sq s && mayPut x
def putP (p : Nat → Int) (s x : Int) : Nat → Int := bif putB s x then upd p (1 + s.toNat) x else p
theorem putP_no {p : Nat → Int} {s x : Int} (h : putB s x = false) : putP p s x = p := by simp [putP, h]
theorem putP_yes {p : Nat → Int} {n : Nat} {x : Int} (h : putB (n : Int) x = true) : putP p (n : Int) x = upd p (1 + n) x := by simp [putP, h]
theorem results_pos {fn : Func} {i : Tmp} (h : fn.results = #[.cell i 31]) (tmps : Array Value) (w : World) (b : Nat) (p : Nat → Int) (hp : tmps.getD i undef = .pointer (some ⟨b, 0, none⟩)) (hr : Row w b p) :
  (results fn tmps).run Tryz.prog w = .ok (.agg (posA p)) w :=
 results_cell_row h tmps w b 31 (posA p) (0, 0) _ hp hr Tryz.underlying31 rfl (by rw [posA_size]; exact size31)
theorem New.row {b c : Nat} {w w' : World} {p : Nat → Int} (h : New b w w') (hr : Row w c p) : Row w' c p := hr.later h.below
theorem New.ne {b c : Nat} {w w' : World} {p : Nat → Int} (h : New b w w') (hr : Row w c p) : c ≠ b := by have := hr.lt; have := h.at_; omega

theorem put_pos (p : Nat → Int) (s x : Int) (w : World) (h0 : 0 ≤ x) (h1 : x ≤ 255) : Calls Tryz.prog 159 #[.agg (posA p), .int .i64 s, .int .u8 x] w (PosL (putP p s x) w) := by
 cases g0 : sq s
 ·have HS := H_ (putP_no (p := p) (show putB s x = false by simp [putB, g0]))
  go_enter Tryz.func159, Tryz.ntmps159
  go_wp2_with (first
   | (refine step_box rfl _ rfl p rfl ?_; intro b3 w3 N3 R3; have HN3 := H_ N3; have HR3 := H_ R3; clear N3 R3)
   | (refine step_alloc rfl rfl ?_; intro b6 w6 N6 R6; have HN6 := H_ N6; have HR6 := H_ R6; have HR3b := H_ (N6.row HR3.out); have HD := H_ (N6.ne HR3.out); have HB6 := H_ (below_on HN3.out.below N6.below); have HG := H_ (show w.heap.size ≤ b3 ∧ w.heap.size ≤ b6 by have := HN3.out.at_; have := N6.at_; have := HN3.out.size; omega); clear N6 R6))
  refine (isq_any _ _).mono ?_; rintro e w7 ⟨rfl, rfl⟩
  go_wp2_with (first
   | (refine step_load rfl _ rfl _ rfl p HR3b.out ?_)
   | (refine step_store rfl _ _ rfl _ rfl _ _ rfl HR6.out ?_; intro w8 U8 R8; have HU8 := H_ U8; have HR8 := H_ R8; clear U8 R8))
  refine bodyPost_ret (v := .agg (posA p)) (results_pos rfl _ _ _ _ rfl HR8.out) rfl ⟨by rw [HS.out], ?_⟩
  exact HB6.out.trans (HU8.out.below HG.out.2)
 ·cases g1 : (x == 0)
  ·cases g2 : pcB x
   ·have HS := H_ (putP_no (p := p) (show putB s x = false by simp [putB, mayPut, g1, g2]))
    go_enter Tryz.func159, Tryz.ntmps159
    go_wp2_with (first
     | (refine step_box rfl _ rfl p rfl ?_; intro b3 w3 N3 R3; have HN3 := H_ N3; have HR3 := H_ R3; clear N3 R3)
     | (refine step_alloc rfl rfl ?_; intro b6 w6 N6 R6; have HN6 := H_ N6; have HR6 := H_ R6; have HR3b := H_ (N6.row HR3.out); have HD := H_ (N6.ne HR3.out); have HB6 := H_ (below_on HN3.out.below N6.below); have HG := H_ (show w.heap.size ≤ b3 ∧ w.heap.size ≤ b6 by have := HN3.out.at_; have := N6.at_; have := HN3.out.size; omega); clear N6 R6))
    refine (isq_any _ _).mono ?_; rintro e w7 ⟨rfl, rfl⟩
    go_wp2_with fail
    refine (is_any _ _ h0 h1).mono ?_; rintro e w7 ⟨rfl, rfl⟩
    go_wp2_with (first
     | (refine step_load rfl _ rfl _ rfl p HR3b.out ?_)
     | (refine step_store rfl _ _ rfl _ rfl _ _ rfl HR6.out ?_; intro w8 U8 R8; have HU8 := H_ U8; have HR8 := H_ R8; clear U8 R8))
    refine bodyPost_ret (v := .agg (posA p)) (results_pos rfl _ _ _ _ rfl HR8.out) rfl ⟨by rw [HS.out], ?_⟩
    exact HB6.out.trans (HU8.out.below HG.out.2)
   ·obtain ⟨n, rfl⟩ := Int.eq_ofNat_of_zero_le (sq_true.1 g0).1
    have hn : n < 64 := by have := (sq_true.1 g0).2; omega
    have HK := H_ (kAt_board (Nat.zero_le _) hn)
    have HI := H_ (show 1 + n < 88 by omega)
    have HS := H_ (putP_yes (p := p) (show putB (n : Int) x = true by simp [putB, mayPut, g0, g2]))
    have g3 : (0 : Int) ≤ (n : Int) := by omega
    have g4 : (n : Int) < 64 := by omega
    go_enter Tryz.func159, Tryz.ntmps159
    go_wp2_with (first
     | (refine step_box rfl _ rfl p rfl ?_; intro b3 w3 N3 R3; have HN3 := H_ N3; have HR3 := H_ R3; clear N3 R3)
     | (refine step_alloc rfl rfl ?_; intro b6 w6 N6 R6; have HN6 := H_ N6; have HR6 := H_ R6; have HR3b := H_ (N6.row HR3.out); have HD := H_ (N6.ne HR3.out); have HB6 := H_ (below_on HN3.out.below N6.below); have HG := H_ (show w.heap.size ≤ b3 ∧ w.heap.size ≤ b6 by have := HN3.out.at_; have := N6.at_; have := HN3.out.size; omega); clear N6 R6))
    refine (isq_any _ _).mono ?_; rintro e w7 ⟨rfl, rfl⟩
    go_wp2_with fail
    refine (is_any _ _ h0 h1).mono ?_; rintro e w7 ⟨rfl, rfl⟩
    go_wp2_with (first
     | (refine step_cell rfl 5 _ _ rfl _ _ rfl _ _ rfl p HR3b.out HI.out HK.out size5 ?_; intro w9 U9 R9; have HU9 := H_ U9; have HR9 := H_ R9; have HR6b := H_ (HR6.out.apart U9 (Ne.symm HD.out)); clear U9 R9)
     | (refine step_load rfl _ rfl _ rfl _ HR9.out ?_)
     | (refine step_store rfl _ _ rfl _ rfl _ _ rfl HR6b.out ?_; intro w8 U8 R8; have HU8 := H_ U8; have HR8 := H_ R8; clear U8 R8))
    refine bodyPost_ret (v := .agg (posA (upd p (1 + n) x))) (results_pos rfl _ _ _ _ rfl HR8.out) rfl ⟨by rw [HS.out], ?_⟩
    exact HB6.out.trans ((HU9.out.below HG.out.1).trans (HU8.out.below HG.out.2))
  ·obtain ⟨n, rfl⟩ := Int.eq_ofNat_of_zero_le (sq_true.1 g0).1
   have hn : n < 64 := by have := (sq_true.1 g0).2; omega
   have HK := H_ (kAt_board (Nat.zero_le _) hn)
   have HI := H_ (show 1 + n < 88 by omega)
   have HS := H_ (putP_yes (p := p) (show putB (n : Int) x = true by simp only [putB, mayPut, g0, g1]; rfl))
   have g3 : (0 : Int) ≤ (n : Int) := by omega
   have g4 : (n : Int) < 64 := by omega
   go_enter Tryz.func159, Tryz.ntmps159
   go_wp2_with (first
    | (refine step_box rfl _ rfl p rfl ?_; intro b3 w3 N3 R3; have HN3 := H_ N3; have HR3 := H_ R3; clear N3 R3)
    | (refine step_alloc rfl rfl ?_; intro b6 w6 N6 R6; have HN6 := H_ N6; have HR6 := H_ R6; have HR3b := H_ (N6.row HR3.out); have HD := H_ (N6.ne HR3.out); have HB6 := H_ (below_on HN3.out.below N6.below); have HG := H_ (show w.heap.size ≤ b3 ∧ w.heap.size ≤ b6 by have := HN3.out.at_; have := N6.at_; have := HN3.out.size; omega); clear N6 R6))
   refine (isq_any _ _).mono ?_; rintro e w7 ⟨rfl, rfl⟩
   go_wp2_with (first
    | (refine step_cell rfl 5 _ _ rfl _ _ rfl _ _ rfl p HR3b.out HI.out HK.out size5 ?_; intro w9 U9 R9; have HU9 := H_ U9; have HR9 := H_ R9; have HR6b := H_ (HR6.out.apart U9 (Ne.symm HD.out)); clear U9 R9)
    | (refine step_load rfl _ rfl _ rfl _ HR9.out ?_)
    | (refine step_store rfl _ _ rfl _ rfl _ _ rfl HR6b.out ?_; intro w8 U8 R8; have HU8 := H_ U8; have HR8 := H_ R8; clear U8 R8))
   refine bodyPost_ret (v := .agg (posA (upd p (1 + n) x))) (results_pos rfl _ _ _ _ rfl HR8.out) rfl ⟨by rw [HS.out], ?_⟩
   exact HB6.out.trans ((HU9.out.below HG.out.1).trans (HU8.out.below HG.out.2))
end Go.Proofs.YteblmnbagbdiiaaGreatDoor
