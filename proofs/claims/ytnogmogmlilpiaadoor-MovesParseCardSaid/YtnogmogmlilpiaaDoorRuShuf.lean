/-
  Contracts of the program's shuffled, both, Start960.
-/
import Derived.Test.YtnogmogmlilpiaaDoorRuArmy
import Derived.Test.YtnogmogmlilpiaaDoorRuLater
namespace Go.Proofs.YtnogmogmlilpiaaDoor
open Go.RowKit
set_option linter.unusedVariables false
set_option linter.unusedSimpArgs false
theorem kn_le (k : Nat) (hk : k < 10) : knA k ≤ 8 ∧ knB k ≤ 8 := by
  have key : ∀ k : Fin 10, knA k.val ≤ 8 ∧ knB k.val ≤ 8 := by decide +kernel
  exact key ⟨k, hk⟩
def sh1 (n : Nat) : Nat → Int := upd zeroP (2 * (n % 4) + 1) 3
def sh2 (n : Nat) : Nat → Int := upd (sh1 n) (2 * (n / 4 % 4)) 3
def sh3 (n : Nat) : Nat → Int := placeR (sh2 n) (n / 4 / 4 % 6) 5
def sh4 (n k : Nat) : Nat → Int := placeR (sh3 n) (knB k) 2
def sh5 (n k : Nat) : Nat → Int := placeR (sh4 n k) (knA k) 2
/-- The rooks and the king, in order. -/
def sh6 (n k : Nat) : Nat → Nat → Int
  | 0 => sh5 n k
  | i + 1 => placeR (sh6 n k i) 0 (([4, 6, 4].getD i 0 : Nat) : Int)
theorem sh_all (n : Nat) : sh6 n (n / 4 / 4 / 6) 3 = rowZ n := rfl
theorem three_at (j : Nat) (h : j < 3) : (#[.int .u8 4, .int .u8 6, .int .u8 4] : Array Value)[j]? = some (.int .u8 (([4, 6, 4].getD j 0 : Nat) : Int)) := by
  match j, h with
  | 0, _ => rfl
  | 1, _ => rfl
  | 2, _ => rfl
theorem armyP_zero (v : Nat) (p : Nat → Int) (c : Nat) (r : Nat → Int) : armyP v p c r 0 = p 0 := by
  unfold armyP
  cases casB v
  · exact armyN_zero _ _ _ _ _ _
  · show rookP _ _ _ _ 0 = _
    unfold rookP
    rw [upd_other _ _ _ _ (by omega), upd_other _ _ _ _ (by omega)]
    exact armyN_zero _ _ _ _ _ _
/-- Both colors lined up. -/
def bothP (v : Nat) (r : Nat → Int) : Nat → Int := armyP v (armyP v (bareP v) 0 r) 1 r
/-- A position and a yes or no. -/
def PosB (q : Nat → Int) (b : Bool) (w : World) (e : Ending) (w' : World) : Prop := e = .returned (.tuple #[.agg (posA q), .bool b]) ∧ Below w.heap.size w w'
theorem results_two {fn : Func} {i j : Tmp} (h : fn.results = #[.cell i 31, .tmp j]) (tmps : Array Value) (w : World) (b : Nat) (p : Nat → Int) (x : Value) (hp : tmps.getD i undef = .pointer (some ⟨b, 0, none⟩)) (hx : tmps.getD j undef = x) (hr : Row w b p) :
    (results fn tmps).run Tryd.prog w = .ok (.tuple #[.agg (posA p), x]) w := by
  have hl := run_loadVar_row w b 31 31 (posA p) (0, 0) _ hr Tryd.underlying31 rfl (by rw [posA_size]; exact size31)
  have hp' : tmps[i]?.getD undef = .pointer (some ⟨b, 0, none⟩) := by simpa using hp
  have hx' : tmps[j]?.getD undef = x := by simpa using hx
  simp [results, h, hp', hx', asAddr, hl]
theorem kinds_row (n : Nat) (hn : n < 960) : Kinds15 (rowZ n) := fun i hi => by
  refine ⟨(rowL n).getD i 0, ?_, (rowZ_rep n).at_ i hi⟩
  have key : ∀ n : Fin 960, ((rowL n.val).all fun x => Nat.ble x 7) = true := by decide +kernel
  have := List.all_eq_true.1 (key ⟨n, hn⟩)
  have hl : i < (rowL n).length := by rw [(rowZ_rep n).len]; exact hi
  have h2 := this ((rowL n)[i]) (List.getElem_mem hl)
  rw [List.getD_eq_getElem?_getD, List.getElem?_eq_getElem hl]
  simpa using h2
/-- The first position of a number of chess960. -/
def posN (n : Nat) : Nat → Int := bothP 1 (rowZ n)
end Go.Proofs.YtnogmogmlilpiaaDoor
