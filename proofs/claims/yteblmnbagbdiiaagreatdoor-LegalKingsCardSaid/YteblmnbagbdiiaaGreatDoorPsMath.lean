/-
 Plain functions of layer 13: where a piece may go, in which order moves are told; a position as who is to move sees it.
-/
import Derived.Test.YteblmnbagbdiiaaGreatDoorAtMath
import Derived.Test.YteblmnbagbdiiaaGreatDoorSlides
import Derived.Test.YteblmnbagbdiiaaGreatDoorVaBaseB
import Derived.Test.YteblmnbagbdiiaaGreatDoorAfBaseK
namespace Go.Proofs.YteblmnbagbdiiaaGreatDoor
open Go.RowKit
set_option linter.unusedVariables false
set_option linter.unusedSimpArgs false

structure PsR (p : Nat → Int) : Prop where
 bd : BdR p
 var : 0 ≤ p 0 ∧ p 0 ≤ 255
 turn : 0 ≤ p 78 ∧ p 78 ≤ 255
 pass : -128 ≤ p 83 ∧ p 83 ≤ 127
theorem ps_wf {k : IntKind} {n : Int} (h : (Lit.int k n).wf = true) : k.min ≤ n ∧ n ≤ k.max := by simpa [Lit.wf] using h
theorem ps_u8 {k : IntKind} {n : Int} (h : (Lit.int k n).wf = true) (e : k = .u8) : 0 ≤ n ∧ n ≤ 255 := by
 subst e
 have h := ps_wf h
 have a : IntKind.u8.min = 0 := by decide
 have b : IntKind.u8.max = 255 := by decide
 omega
theorem PsR.of {p : Nat → Int} (h : WfP p) : PsR p := by
 refine ⟨fun i hi => ps_u8 (h (1 + i) (by omega)) (kAt_board (Nat.zero_le _) hi), ps_u8 (h 0 (by omega)) rfl, ps_u8 (h 78 (by omega)) rfl, ?_⟩
 have := ps_wf (h 83 (by omega)); have e : kAt 83 = .i8 := rfl; rw [e] at this
 have a : IntKind.i8.min = -128 := by decide
 have b : IntKind.i8.max = 127 := by decide
 omega
def offN (a b : Nat) : Nat := a ^^^ (a &&& b)
theorem offN_lt {a b : Nat} (h : a < W64) : offN a b < W64 := Nat.xor_lt_two_pow (n := 64) h (Nat.lt_of_le_of_lt Nat.and_le_left h)
theorem offN_bits {a b : Nat} (ha : a < W64) (hb : b < W64) : bits .andNot .u64 (a : Int) (b : Int) = ((offN a b : Nat) : Int) := andNot_nat ha hb
def vrB (p : Nat → Int) : Bool := decide (p 0 < 9)
def ownN (p : Nat → Int) : Nat := bif vrB p then ofN p (p 78) 0 else 0
def theN (p : Nat → Int) : Nat := bif vrB p then ofN p (oth (p 78)) 0 else 0
theorem ownN_lt (p : Nat → Int) : ownN p < W64 := by unfold ownN; cases vrB p; { exact show (0 : Nat) < W64 by decide }; { exact ofN_lt _ _ _ }
theorem theN_lt (p : Nat → Int) : theN p < W64 := by unfold theN; cases vrB p; { exact show (0 : Nat) < W64 by decide }; { exact ofN_lt _ _ _ }
def homZ (c : Int) : Int := bif c == 0 then 0 else 7
def ahdZ (c : Int) : Int := bif c == 0 then 1 else 6
def dirZ (p : Nat → Int) : Int := bif p 78 == 1 then 4 else 0
def stpN (p : Nat → Int) (o t b : Nat) : Nat := offN (shiftN b (dirZ p)) (o ||| t)
theorem ors_lt {a b : Nat} (ha : a < W64) (hb : b < W64) : a ||| b < W64 := Nat.or_lt_two_pow (n := 64) ha hb
theorem stpN_lt (p : Nat → Int) (o t b : Nat) : stpN p o t b < W64 := offN_lt (shiftN_lt _ _)
def mayB (p : Nat → Int) (n : Nat) : Bool := bif ((n / 8 : Nat) : Int) == homZ (p 78) then (p 0 == 7) && (p 78 == 0) else ((n / 8 : Nat) : Int) == ahdZ (p 78)
def onceN (p : Nat → Int) (o t n : Nat) : Nat := stpN p o t (putN 0 (n : Int))
def ahN (p : Nat → Int) (o t n : Nat) : Nat := bif mayB p n then onceN p o t n ||| stpN p o t (onceN p o t n) else onceN p o t n
def asN (p : Nat → Int) (t n : Nat) : Nat := pawnN (p 78) (n : Int) &&& putN t (p 83)
def kgN (p : Nat → Int) (t n : Nat) : Nat := bif p 0 == 3 then offN (kingN (n : Int)) t else kingN (n : Int)
def knP (p : Nat → Int) (s : Int) : Int := kndZ (atZ p s)
def rchN (p : Nat → Int) (o t n : Nat) : Nat :=
 bif knP p (n : Int) == 1 then ahN p o t n ||| asN p t n else bif knP p (n : Int) == 2 then knightN (n : Int) else bif knP p (n : Int) == 3 then bishN (n : Int) (o ||| t)
 else bif knP p (n : Int) == 4 then rookN (n : Int) (o ||| t) else bif knP p (n : Int) == 5 then queenN (n : Int) (o ||| t) else kgN p t n
theorem ahN_lt (p : Nat → Int) (o t n : Nat) : ahN p o t n < W64 := by unfold ahN; cases mayB p n; { exact stpN_lt _ _ _ _ }; { exact ors_lt (stpN_lt _ _ _ _) (stpN_lt _ _ _ _) }
theorem asN_lt (p : Nat → Int) (t n : Nat) : asN p t n < W64 := Nat.lt_of_le_of_lt Nat.and_le_left (pawnN_lt _ _)
theorem kgN_lt (p : Nat → Int) (t n : Nat) : kgN p t n < W64 := by unfold kgN; cases (p 0 == 3); { exact kingN_lt _ }; { exact offN_lt (kingN_lt _) }
theorem rchN_lt (p : Nat → Int) (o t n : Nat) : rchN p o t n < W64 := by
 unfold rchN
 rcases Bool.eq_false_or_eq_true (knP p (n : Int) == 1) with g | g <;> rw [g]; { exact ors_lt (ahN_lt _ _ _ _) (asN_lt _ _ _) }
 rcases Bool.eq_false_or_eq_true (knP p (n : Int) == 2) with g | g <;> rw [g]; { exact knightN_lt _ }
 rcases Bool.eq_false_or_eq_true (knP p (n : Int) == 3) with g | g <;> rw [g]; { exact bishN_lt _ _ }
 rcases Bool.eq_false_or_eq_true (knP p (n : Int) == 4) with g | g <;> rw [g]; { exact rookN_lt _ _ }
 rcases Bool.eq_false_or_eq_true (knP p (n : Int) == 5) with g | g <;> rw [g]; { exact queenN_lt _ _ }
 exact kgN_lt _ _ _
def golN (p : Nat → Int) (o t : Nat) (s : Int) : Nat := bif hasN o s then offN (rchN p o t s.toNat) o else 0
theorem golN_lt (p : Nat → Int) (o t : Nat) (s : Int) : golN p o t s < W64 := by unfold golN; cases hasN o s; { exact show (0 : Nat) < W64 by decide }; { exact offN_lt (rchN_lt _ _ _ _) }
def becL (p : Nat → Int) (s : Int) (b : Nat) : List Nat := bif (knP p s == 1) && (((b / 8 : Nat) : Int) == homZ (oth (p 78))) then prL (p 0).toNat else [0]
structure Pm where
 f : Int
 t : Nat
 k : Nat
def pmA (m : Pm) : Array Value := #[.int .i8 m.f, .int .i8 (m.t : Int), .int .u8 (m.k : Int), .int .u8 0, .bool false]
def pmV (m : Pm) : Value := .agg (pmA m)
def mvO (p : Nat → Int) (s : Int) (b : Nat) : List Pm := (becL p s b).map fun k => ⟨s, b, k⟩
def mvsL (p : Nat → Int) (o t : Nat) (s : Int) : List Pm := (listN (golN p o t s)).flatMap (mvO p s)
def allL (p : Nat → Int) : List Pm := (listN (ownN p)).flatMap fun a : Nat => mvsL p (ownN p) (theN p) (a : Int)
theorem ps_has_sq {b : Nat} {s : Int} (h : hasN b s = true) : sq s = true := by unfold hasN at h; rw [Bool.and_eq_true] at h; exact h.1
theorem ps_oth_rng (c : Int) : 0 ≤ oth c ∧ oth c ≤ 255 := by unfold oth; omega
theorem ps_atZ {p : Nat → Int} (hp : BdR p) (s : Int) : 0 ≤ atZ p s ∧ atZ p s ≤ 255 := by
 unfold atZ
 by_cases h : sq s = true
 ·rw [if_pos h]
  obtain ⟨n, hn, rfl⟩ := nat_of_sq h
  rw [Int.toNat_natCast]
  by_cases g : pcB (p (1 + n)) = true
  ·rw [if_pos g]; exact hp n hn
  ·rw [if_neg g]; omega
 ·rw [if_neg h]; omega
theorem fm_take {α β : Type} {f : α → List β} {L : List α} {k : Nat} {x : α} (h : L[k]? = some x) : (L.take (k + 1)).flatMap f = (L.take k).flatMap f ++ f x := by
 rw [List.take_add_one, h, List.flatMap_append]; simp
theorem fm_pre {α β : Type} {f : α → List β} {L : List α} {k : Nat} {x : α} (h : L[k]? = some x) {q : List β} (hq : q <+: f x) : (L.take k).flatMap f ++ q <+: L.flatMap f := by
 obtain ⟨t, ht⟩ := hq
 obtain ⟨hk, rfl⟩ := List.getElem?_eq_some_iff.1 h
 have e : L = L.take k ++ L[k] :: L.drop (k + 1) := by rw [← List.drop_eq_getElem_cons hk, List.take_append_drop]
 refine ⟨t ++ (L.drop (k + 1)).flatMap f, ?_⟩
 have : L.flatMap f = (L.take k ++ L[k] :: L.drop (k + 1)).flatMap f := by rw [← e]
 rw [this, List.flatMap_append, List.flatMap_cons, ← ht]
 simp [List.append_assoc]
theorem mvO_take (p : Nat → Int) (s : Int) (b : Nat) {j k : Nat} (h : (becL p s b)[j]? = some k) : (mvO p s b).take (j + 1) = (mvO p s b).take j ++ [⟨s, b, k⟩] := by
 have : (mvO p s b)[j]? = some ⟨s, b, k⟩ := by unfold mvO; rw [List.getElem?_map, h]; rfl
 rw [List.take_add_one, this]; rfl

/-! A position as who is to move sees it: its cells. -/
def grA (p : Nat → Int) (o t : Nat) : Array Value := (partL p 0 88 ++ [Value.int .u64 (o : Int), Value.int .u64 (t : Int)]).toArray
theorem grA_size (p : Nat → Int) (o t : Nat) : (grA p o t).size = 90 := by unfold grA; rw [List.size_toArray, List.length_append, partL_len]; rfl
def GR (w : World) (b : Nat) (p : Nat → Int) (o t : Nat) : Prop := Blk w b 110 (grA p o t)
theorem GR.lt {w : World} {b : Nat} {p : Nat → Int} {o t : Nat} (h : GR w b p o t) : b < w.heap.size := Blk.lt h
theorem GR.later {w w' : World} {b : Nat} {p : Nat → Int} {o t : Nat} (h : GR w b p o t) (hb : Below w.heap.size w w') : GR w' b p o t := Blk.later h hb
theorem grA_get (p : Nat → Int) (o t i : Nat) (h : i < 88) : (grA p o t)[i]? = some (.int (kAt i) (p i)) := by
 unfold grA
 rw [List.getElem?_toArray, List.getElem?_append_left (by rw [partL_len]; exact h)]
 simp [partL, h]
theorem GR.cell {w : World} {b : Nat} {p : Nat → Int} {o t : Nat} (h : GR w b p o t) (i : Nat) (hi : i < 88) : w.cell? ⟨b, i, none⟩ = some (.int (kAt i) (p i)) := by
 rw [Blk.cell h i, grA_get p o t i hi]
theorem GR.own {w : World} {b : Nat} {p : Nat → Int} {o t : Nat} (h : GR w b p o t) : w.cell? ⟨b, 88, none⟩ = some (.int .u64 (o : Int)) := by
 rw [Blk.cell h 88]; unfold grA
 rw [List.getElem?_toArray, List.getElem?_append_right (by rw [partL_len]; omega), partL_len]; rfl
theorem GR.the {w : World} {b : Nat} {p : Nat → Int} {o t : Nat} (h : GR w b p o t) : w.cell? ⟨b, 89, none⟩ = some (.int .u64 (t : Int)) := by
 rw [Blk.cell h 89]; unfold grA
 rw [List.getElem?_toArray, List.getElem?_append_right (by rw [partL_len]; omega), partL_len]; rfl
theorem GR.range {w : World} {b : Nat} {p : Nat → Int} {o t : Nat} (h : GR w b p o t) (off n : Nat) (hn : off + n ≤ 88) : w.rangeAt b off (partL p off n) := fun j v hv => by
 have hj : j < n := by have := (List.getElem?_eq_some_iff.1 hv).1; rwa [partL_len] at this
 have e : (partL p off n)[j]? = some (.int (kAt (off + j)) (p (off + j))) := by simp [partL, hj]
 rw [e] at hv
 rw [h.cell _ (by omega), Option.some.inj hv]
theorem sizeGr : (Tryz.prog.info? 110).map (·.size) = some 90 := by kernel_rfl
theorem gr_part (p : Nat → Int) : (partL p 0 88).toArray = posA p := by rw [partL_all]
section laws
variable {ops : Array Oper} {rest : List Oper} {op : Oper} {a : Act} {w : World} {Q : Exit → Act → World → Prop}
theorem gr_load (hw : Region.wanted op (yielded ops a.tmps) = true) (x : Operand) (ho : op.op = .load 110 x) (b : Nat) (hx : a.eval x = .pointer (some ⟨b, 0, none⟩)) (p : Nat → Int) (o t : Nat) (hr : GR w b p o t)
  (h : wpList Tryz.prog ops Q rest (a.put op.dst (.agg (grA p o t))) w) : wpList Tryz.prog ops Q (op :: rest) a w :=
 blk_load hw 110 x ho b hx (grA p o t) hr _ Tryz.underlying110 rfl (by rw [grA_size]; exact sizeGr) h
theorem gr_in (hw : Region.wanted op (yielded ops a.tmps) = true) (x : Operand) (ho : op.op = .load 31 x) (b : Nat) (hx : a.eval x = .pointer (some ⟨b, 0, none⟩)) (p : Nat → Int) (o t : Nat) (hr : GR w b p o t)
  (h : wpList Tryz.prog ops Q rest (a.put op.dst (.agg (posA p))) w) : wpList Tryz.prog ops Q (op :: rest) a w :=
 wpList_want hw fun _ hK => wp_load_mid 31 x ho b 0 hx (partL p 0 88) _ (hr.range 0 88 (by omega)) Tryz.underlying31 rfl (by rw [partL_len]; exact size31) (hK _ _ (by rw [gr_part]; exact h))
theorem gr_box (hw : Region.wanted op (yielded ops a.tmps) = true) (x : Operand) (ho : op.op = .box 110 x) (p : Nat → Int) (o t : Nat) (hx : a.eval x = .agg (grA p o t))
  (h : ∀ b w', New b w w' → GR w' b p o t → wpList Tryz.prog ops Q rest (a.put op.dst (.pointer (some ⟨b, 0, none⟩))) w') : wpList Tryz.prog ops Q (op :: rest) a w :=
 blk_box hw 110 x ho (grA p o t) hx h
end laws
theorem run_gr {op : Oper} {a : Act} {w : World} (x : Operand) (ho : op.op = .load 110 x) (b : Nat) (hx : a.eval x = .pointer (some ⟨b, 0, none⟩)) (p : Nat → Int) (o t : Nat) (hr : GR w b p o t) : (execOp a.eval op).run Tryz.prog w = .ok (.value (.agg (grA p o t))) w :=
 run_blk 110 x ho b hx (grA p o t) hr _ Tryz.underlying110 rfl (by rw [grA_size]; exact sizeGr)
end Go.Proofs.YteblmnbagbdiiaaGreatDoor
