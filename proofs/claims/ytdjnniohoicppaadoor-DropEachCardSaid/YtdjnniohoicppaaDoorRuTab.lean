/-
  The table of the variants, and of the pairs of knights, as the walks read them.
-/
import Derived.Test.YtdjnniohoicppaaDoorAtBase
import Derived.Test.YtdjnniohoicppaaDoorRows
import Derived.Test.YtdjnniohoicppaaDoorRuMath
import Derived.Lib.LaidTab
import Derived.Stop.LaidErr
import Derived.LaidMore
import Derived.MapViews
import Derived.DeepKeys2
namespace Go.Proofs.YtdjnniohoicppaaDoor
open Go.RowKit
set_option linter.unusedVariables false

/-- The variants' names, as bytes. -/
def nmL : Nat → List UInt8
  | 0 => [115, 116, 97, 110, 100, 97, 114, 100]
  | 1 => [99, 104, 101, 115, 115, 57, 54, 48]
  | 2 => [99, 114, 97, 122, 121, 104, 111, 117, 115, 101]
  | 3 => [97, 116, 111, 109, 105, 99]
  | 4 => [97, 110, 116, 105, 99, 104, 101, 115, 115]
  | 5 => [116, 104, 114, 101, 101, 99, 104, 101, 99, 107]
  | 6 => [107, 105, 110, 103, 104, 105, 108, 108]
  | 7 => [104, 111, 114, 100, 101]
  | 8 => [114, 97, 99, 105, 110, 103]
  | _ => []
def nmZ (v : Nat) : ByteArray := ⟨(nmL v).toArray⟩
def ryB (v c : Nat) : Bool := Nat.blt v 9 && Nat.blt c 2 && !Nat.beq v 4 && (!Nat.beq v 7 || Nat.beq c 1)
def casB (v : Nat) : Bool := Nat.blt v 9 && !Nat.beq v 4 && !Nat.beq v 8
def pocB (v : Nat) : Bool := Nat.beq v 2
def pawB (v : Nat) : Bool := Nat.blt v 8
def hiN (v : Nat) : Nat := bif Nat.beq v 4 then 6 else bif Nat.blt v 8 then 5 else 0
/-- A variant's row; of none, one in which nothing stands. -/
def trL (v : Nat) : List Value := [.string (nmZ v), .bool (ryB v 0), .bool (ryB v 1), .bool (casB v), .bool (pocB v), .bool (pawB v), .int .u8 (hiN v : Nat)]
theorem trL_none {v : Nat} (h : 9 ≤ v) : trL v = [.string ⟨#[]⟩, .bool false, .bool false, .bool false, .bool false, .bool false, .int .u8 0] := by
  match v, h with
  | n + 9, _ => rfl
def TabVar (w : World) : Prop := ∀ v, v < 9 → w.rangeAt 0 (v * 7) (trL v)
def knL (k : Nat) : List Value := [.int .i64 (knA k : Nat), .int .i64 (knB k : Nat)]
def TabKn (w : World) : Prop := ∀ k, k < 10 → w.rangeAt 1 (k * 2) (knL k)
theorem cells_of_laid {W : World} {nm : String} {d : DataW Unit} {rest : List (String × DataW Unit)} {g t : Nat} (hg : Tryd.prog.globalNamed nm = some g) (hty : (Tryd.prog.globals[g]?).map (·.type) = some t) (hk : Tryd.prog.keyTypeAt 5 t = true) (ht : Tryd.prog.tiled 5 t = true)
    (h : laidMet Tryd.prog ((nm, d) :: rest) W) : ∀ i, W.cell? ⟨g, i, none⟩ = (d.flat.map Lit.toCell)[i]? := by
  obtain ⟨ps, ⟨g', t', cs, fuel, p, q, hg', ht', hvar, hd, _, _⟩, _⟩ := h
  obtain rfl := Option.some.inj (hg.symm.trans hg')
  obtain rfl := Option.some.inj (hty.symm.trans ht')
  have h1 := (keyLits_of_trod 5 _ hk _ _ _ hd).1
  have h2 := cells_of_lits 5 _ ht _ _ _ h1
  intro i
  have := World.var?_cell hg hvar i
  rw [this, ← h2]
  simp
/-- What lies in a range lies there behind a call that only makes memory. -/
theorem range_on {w w' : World} {b o : Nat} {cs : List Value} (h : w.rangeAt b o cs) (hb : Below w.heap.size w w') : w'.rangeAt b o cs := fun j x hx => by
  have h1 := h j x hx
  have hlt : b < w.heap.size := by
    rcases Nat.lt_or_ge b w.heap.size with g | g
    · exact g
    · exfalso
      simp [World.cell?, Array.getElem?_eq_none g] at h1
  rw [← h1]
  exact hb.cell (p := ⟨b, o + j, none⟩) hlt
theorem TabVar.on {w w' : World} (h : TabVar w) (hb : Below w.heap.size w w') : TabVar w' := fun v hv => range_on (h v hv) hb
theorem TabKn.on {w w' : World} (h : TabKn w) (hb : Below w.heap.size w w') : TabKn w' := fun v hv => range_on (h v hv) hb
section laws
variable {ops : Array Oper} {rest : List Oper} {op : Oper} {a : Act} {w : World} {Q : Exit → Act → World → Prop}
theorem step_range (hw : Region.wanted op (yielded ops a.tmps) = true) (T : TypeId) (x : Operand) (ho : op.op = .load T x) (b o : Nat) (hx : a.eval x = .pointer (some ⟨b, o, none⟩)) (cs : List Value) (hr : w.rangeAt b o cs)
    (d : TypeDesc) (hu : Tryd.prog.underlying T = some d) (hd : d.isRow = true) (hi : (Tryd.prog.info? T).map (·.size) = some cs.length)
    (h : wpList Tryd.prog ops Q rest (a.put op.dst (.agg cs.toArray)) w) : wpList Tryd.prog ops Q (op :: rest) a w :=
  wpList_want hw fun _ hK => wp_load_mid T x ho b o hx cs d hr hu hd hi (hK _ _ h)
end laws
/-- Rows of one length, laid one behind the other. -/
theorem flat_at {α : Type} (f : Nat → List α) (m : Nat) (hf : ∀ v, (f v).length = m) : ∀ (n v j : Nat) (x : α), v < n → (f v)[j]? = some x → ((List.range n).map f).flatten[v * m + j]? = some x
  | 0, v, j, x, hv, _ => by omega
  | n + 1, v, j, x, hv, h => by
    have hl : ∀ n, ((List.range n).map f).flatten.length = n * m := fun n => by
      induction n with
      | zero => simp
      | succ n ih => rw [List.range_succ, List.map_append, List.flatten_append, List.length_append, ih]; simp [hf, Nat.succ_mul]
    have hj : j < m := by have := (List.getElem?_eq_some_iff.1 h).1; rwa [hf] at this
    rw [List.range_succ, List.map_append, List.flatten_append]
    by_cases e : v = n
    · subst e
      rw [List.getElem?_append_right (by rw [hl]; omega), hl, show v * m + j - v * m = j by omega]
      simpa using h
    · have h1 : (v + 1) * m ≤ n * m := Nat.mul_le_mul_right m (by omega)
      rw [Nat.succ_mul] at h1
      rw [List.getElem?_append_left (by rw [hl]; omega)]
      exact flat_at f m hf n v j x (by omega) h
theorem tab_kibitzer_rules_variants {W : World} {nm : String} {rest : List (String × DataW Unit)} (h : laidMet Tryd.prog ((nm, Rows.laid_kibitzer_rules_variants) :: rest) W) (hn : Tryd.prog.globalNamed nm = some 0) : TabVar W := by
  have t := cells_of_laid (g := 0) (t := 69) hn (by kernel_rfl) (by kernel_rfl) (by kernel_rfl) h
  have e : ((Rows.laid_kibitzer_rules_variants (H := Unit)).flat.map Lit.toCell) = ((List.range 9).map trL).flatten := by kernel_rfl
  rw [e] at t
  intro v hv j x hx
  rw [t]
  exact flat_at trL 7 (fun _ => rfl) 9 v j x hv hx
theorem tab_kibitzer_rules_knights {W : World} {nm : String} {rest : List (String × DataW Unit)} (h : laidMet Tryd.prog ((nm, Rows.laid_kibitzer_rules_knights) :: rest) W) (hn : Tryd.prog.globalNamed nm = some 1) : TabKn W := by
  have t := cells_of_laid (g := 1) (t := 84) hn (by kernel_rfl) (by kernel_rfl) (by kernel_rfl) h
  have e : ((Rows.laid_kibitzer_rules_knights (H := Unit)).flat.map Lit.toCell) = ((List.range 10).map knL).flatten := by kernel_rfl
  rw [e] at t
  intro k hk j x hx
  rw [t]
  exact flat_at knL 2 (fun _ => rfl) 10 k j x hk hx
end Go.Proofs.YtdjnniohoicppaaDoor
