/-
  Contract of the document's own Print (layer 10).
-/
import Derived.Test.YtjbfjohgfbipgaaGreatDoorFnWrit
import Derived.Test.YtjbfjohgfbipgaaGreatDoorFpBaseA
namespace Go.Proofs.YtjbfjohgfbipgaaGreatDoor
open Go.RowKit
set_option linter.unusedVariables false
set_option linter.unusedSimpArgs false

theorem wp_cutP {P : Program} {Q : Exit → Act → World → Prop} {a : Act} {w : World} {x y : Code} (M : Act → World → Prop) (h1 : ∀ K : Act → World → Prop, Shut (∀ a w, M a w → K a w) → x.wp P (Exit.then K Q) a w) (h2 : ∀ a w, M a w → y.wp P Q a w) : (Code.seq x y).wp P Q a w :=
  wp_seq_k fun K hK => h1 K (fun a w hm => hK _ _ (h2 a w hm))
/-- What is known of a frame of Print's: its first four slots. -/
structure Kn (p : Nat → Int) (b1 : Nat) (s : Value) (a : Act) : Prop where
  df : a.defers = []
  size : a.tmps.size = 85
  s0 : a.tmps[0]? = some (.agg (posA p))
  s1 : a.tmps[1]? = some (.pointer (some ⟨b1, 0, none⟩))
  s2 : a.tmps[2]? = some (.string ⟨#[]⟩)
  s3 : a.tmps[3]? = some s
theorem get_d (t : Array Value) (k : Nat) (h : k < t.size) : t[k]? = some (t.getD k undef) := by simp [Array.getD, h]
theorem arr85 (t : Array Value) (h : t.size = 85) : t = #[t.getD 0 undef, t.getD 1 undef, t.getD 2 undef, t.getD 3 undef, t.getD 4 undef, t.getD 5 undef, t.getD 6 undef, t.getD 7 undef, t.getD 8 undef, t.getD 9 undef, t.getD 10 undef, t.getD 11 undef, t.getD 12 undef, t.getD 13 undef, t.getD 14 undef, t.getD 15 undef, t.getD 16 undef, t.getD 17 undef, t.getD 18 undef, t.getD 19 undef, t.getD 20 undef, t.getD 21 undef, t.getD 22 undef, t.getD 23 undef, t.getD 24 undef, t.getD 25 undef, t.getD 26 undef, t.getD 27 undef, t.getD 28 undef, t.getD 29 undef, t.getD 30 undef, t.getD 31 undef, t.getD 32 undef, t.getD 33 undef, t.getD 34 undef, t.getD 35 undef, t.getD 36 undef, t.getD 37 undef, t.getD 38 undef, t.getD 39 undef, t.getD 40 undef, t.getD 41 undef, t.getD 42 undef, t.getD 43 undef, t.getD 44 undef, t.getD 45 undef, t.getD 46 undef, t.getD 47 undef, t.getD 48 undef, t.getD 49 undef, t.getD 50 undef, t.getD 51 undef, t.getD 52 undef, t.getD 53 undef, t.getD 54 undef, t.getD 55 undef, t.getD 56 undef, t.getD 57 undef, t.getD 58 undef, t.getD 59 undef, t.getD 60 undef, t.getD 61 undef, t.getD 62 undef, t.getD 63 undef, t.getD 64 undef, t.getD 65 undef, t.getD 66 undef, t.getD 67 undef, t.getD 68 undef, t.getD 69 undef, t.getD 70 undef, t.getD 71 undef, t.getD 72 undef, t.getD 73 undef, t.getD 74 undef, t.getD 75 undef, t.getD 76 undef, t.getD 77 undef, t.getD 78 undef, t.getD 79 undef, t.getD 80 undef, t.getD 81 undef, t.getD 82 undef, t.getD 83 undef, t.getD 84 undef] := by
  apply Array.ext_getElem?
  intro i
  match i with
  | 0 => exact get_d t 0 (by omega)
  | 1 => exact get_d t 1 (by omega)
  | 2 => exact get_d t 2 (by omega)
  | 3 => exact get_d t 3 (by omega)
  | 4 => exact get_d t 4 (by omega)
  | 5 => exact get_d t 5 (by omega)
  | 6 => exact get_d t 6 (by omega)
  | 7 => exact get_d t 7 (by omega)
  | 8 => exact get_d t 8 (by omega)
  | 9 => exact get_d t 9 (by omega)
  | 10 => exact get_d t 10 (by omega)
  | 11 => exact get_d t 11 (by omega)
  | 12 => exact get_d t 12 (by omega)
  | 13 => exact get_d t 13 (by omega)
  | 14 => exact get_d t 14 (by omega)
  | 15 => exact get_d t 15 (by omega)
  | 16 => exact get_d t 16 (by omega)
  | 17 => exact get_d t 17 (by omega)
  | 18 => exact get_d t 18 (by omega)
  | 19 => exact get_d t 19 (by omega)
  | 20 => exact get_d t 20 (by omega)
  | 21 => exact get_d t 21 (by omega)
  | 22 => exact get_d t 22 (by omega)
  | 23 => exact get_d t 23 (by omega)
  | 24 => exact get_d t 24 (by omega)
  | 25 => exact get_d t 25 (by omega)
  | 26 => exact get_d t 26 (by omega)
  | 27 => exact get_d t 27 (by omega)
  | 28 => exact get_d t 28 (by omega)
  | 29 => exact get_d t 29 (by omega)
  | 30 => exact get_d t 30 (by omega)
  | 31 => exact get_d t 31 (by omega)
  | 32 => exact get_d t 32 (by omega)
  | 33 => exact get_d t 33 (by omega)
  | 34 => exact get_d t 34 (by omega)
  | 35 => exact get_d t 35 (by omega)
  | 36 => exact get_d t 36 (by omega)
  | 37 => exact get_d t 37 (by omega)
  | 38 => exact get_d t 38 (by omega)
  | 39 => exact get_d t 39 (by omega)
  | 40 => exact get_d t 40 (by omega)
  | 41 => exact get_d t 41 (by omega)
  | 42 => exact get_d t 42 (by omega)
  | 43 => exact get_d t 43 (by omega)
  | 44 => exact get_d t 44 (by omega)
  | 45 => exact get_d t 45 (by omega)
  | 46 => exact get_d t 46 (by omega)
  | 47 => exact get_d t 47 (by omega)
  | 48 => exact get_d t 48 (by omega)
  | 49 => exact get_d t 49 (by omega)
  | 50 => exact get_d t 50 (by omega)
  | 51 => exact get_d t 51 (by omega)
  | 52 => exact get_d t 52 (by omega)
  | 53 => exact get_d t 53 (by omega)
  | 54 => exact get_d t 54 (by omega)
  | 55 => exact get_d t 55 (by omega)
  | 56 => exact get_d t 56 (by omega)
  | 57 => exact get_d t 57 (by omega)
  | 58 => exact get_d t 58 (by omega)
  | 59 => exact get_d t 59 (by omega)
  | 60 => exact get_d t 60 (by omega)
  | 61 => exact get_d t 61 (by omega)
  | 62 => exact get_d t 62 (by omega)
  | 63 => exact get_d t 63 (by omega)
  | 64 => exact get_d t 64 (by omega)
  | 65 => exact get_d t 65 (by omega)
  | 66 => exact get_d t 66 (by omega)
  | 67 => exact get_d t 67 (by omega)
  | 68 => exact get_d t 68 (by omega)
  | 69 => exact get_d t 69 (by omega)
  | 70 => exact get_d t 70 (by omega)
  | 71 => exact get_d t 71 (by omega)
  | 72 => exact get_d t 72 (by omega)
  | 73 => exact get_d t 73 (by omega)
  | 74 => exact get_d t 74 (by omega)
  | 75 => exact get_d t 75 (by omega)
  | 76 => exact get_d t 76 (by omega)
  | 77 => exact get_d t 77 (by omega)
  | 78 => exact get_d t 78 (by omega)
  | 79 => exact get_d t 79 (by omega)
  | 80 => exact get_d t 80 (by omega)
  | 81 => exact get_d t 81 (by omega)
  | 82 => exact get_d t 82 (by omega)
  | 83 => exact get_d t 83 (by omega)
  | 84 => exact get_d t 84 (by omega)
  | n + 85 => rw [Array.getElem?_eq_none (by omega)]; rfl
theorem Kn.open {p : Nat → Int} {b1 : Nat} {s : Value} {a : Act} (h : Kn p b1 s a) : ∃ f : Nat → Value, a = { tmps := #[.agg (posA p), .pointer (some ⟨b1, 0, none⟩), .string ⟨#[]⟩, s, f 4, f 5, f 6, f 7, f 8, f 9, f 10, f 11, f 12, f 13, f 14, f 15, f 16, f 17, f 18, f 19, f 20, f 21, f 22, f 23, f 24, f 25, f 26, f 27, f 28, f 29, f 30, f 31, f 32, f 33, f 34, f 35, f 36, f 37, f 38, f 39, f 40, f 41, f 42, f 43, f 44, f 45, f 46, f 47, f 48, f 49, f 50, f 51, f 52, f 53, f 54, f 55, f 56, f 57, f 58, f 59, f 60, f 61, f 62, f 63, f 64, f 65, f 66, f 67, f 68, f 69, f 70, f 71, f 72, f 73, f 74, f 75, f 76, f 77, f 78, f 79, f 80, f 81, f 82, f 83, f 84], defers := [] } := by
  refine ⟨fun i => a.tmps.getD i undef, ?_⟩
  obtain ⟨t, d⟩ := a
  obtain ⟨h1, h2, h3, h4, h5, h6⟩ := h
  dsimp only at h1 h2 h3 h4 h5 h6 ⊢
  subst h1
  have e0 : t.getD 0 undef = .agg (posA p) := by have := get_d t 0 (by omega); rw [h3] at this; exact (Option.some.inj this).symm
  have e1 : t.getD 1 undef = .pointer (some ⟨b1, 0, none⟩) := by have := get_d t 1 (by omega); rw [h4] at this; exact (Option.some.inj this).symm
  have e2 : t.getD 2 undef = .string ⟨#[]⟩ := by have := get_d t 2 (by omega); rw [h5] at this; exact (Option.some.inj this).symm
  have e3 : t.getD 3 undef = s := by have := get_d t 3 (by omega); rw [h6] at this; exact (Option.some.inj this).symm
  have := arr85 t h2
  rw [e0, e1, e2, e3] at this
  exact congrArg (fun x => ({ tmps := x, defers := [] } : Act)) this

/-- The board's text, from the rank 7 down. -/
def bdL (p : Nat → Int) : Nat → List UInt8
  | 0 => []
  | j + 1 => bdL p j ++ rkL p (7 - j) ++ (bif decide (j < 7) then [47] else [])
def sqL (s : Int) : List UInt8 := (textZ s).data.toList
def fenT1 (p : Nat → Int) : List UInt8 := bdL p 8 ++ (bif p 0 == 2 then poT p else [])
def fenT2 (p : Nat → Int) : List UInt8 := fenT1 p ++ (bif p 78 == 0 then [32, 119, 32] else [32, 98, 32])
def fenT3 (p : Nat → Int) : List UInt8 := fenT2 p ++ roT p
def fenT4 (p : Nat → Int) : List UInt8 := fenT3 p ++ (bif decide (p 83 < 0) then [32, 45, 32] else [32] ++ sqL (p 83) ++ [32])
def fenT5 (p : Nat → Int) : List UInt8 := fenT4 p ++ (bif p 0 == 5 then [43] ++ digL (p 84).toNat ++ [43] ++ digL (p 85).toNat ++ [32] else [])
def fenT6 (p : Nat → Int) : List UInt8 := fenT5 p ++ digL (p 86).toNat ++ [32] ++ digL (p 87).toNat
/-- A position's text; the empty one, if it can't be written. -/
def fenL (p : Nat → Int) : List UInt8 := bif wrB p && decide ((fenT6 p).length ≤ 200) then fenT6 p else []
theorem bdL_len (p : Nat → Int) : ∀ j, (bdL p j).length ≤ 201 * j
  | 0 => Nat.le_refl _
  | j + 1 => by
    have h := bdL_len p j
    have g := rkL_len p (7 - j)
    rw [bdL, List.length_append, List.length_append]
    cases decide (j < 7) <;> simp <;> omega
theorem poT_len {p : Nat → Int} (hp : FitF p) : (poT p).length ≤ 5001 := by
  have := ptC_len hp.pock; unfold poT; rw [List.length_append, List.length_singleton]; omega
theorem roT_len (p : Nat → Int) : (roT p).length ≤ 4 := by
  have := rcL_len p 2; unfold roT; cases (rcL p 2).isEmpty
  · exact this
  · show (1 : Nat) ≤ 4; decide
theorem sqL_len (s : Int) : (sqL s).length ≤ 2 := by
  unfold sqL textZ; cases sqB s
  · show (0 : Nat) ≤ 2; decide
  · show (two _ _).data.toList.length ≤ 2; simp [two]
theorem T1_len {p : Nat → Int} (hp : FitF p) : (fenT1 p).length ≤ 7000 := by
  have h := bdL_len p 8; have g := poT_len hp; unfold fenT1; rw [List.length_append]; cases (p 0 == 2) <;> simp <;> omega
theorem T2_len {p : Nat → Int} (hp : FitF p) : (fenT2 p).length ≤ 7010 := by
  have h := T1_len hp; unfold fenT2; rw [List.length_append]; cases (p 78 == 0) <;> simp <;> omega
theorem T3_len {p : Nat → Int} (hp : FitF p) : (fenT3 p).length ≤ 7020 := by
  have h := T2_len hp; have g := roT_len p; unfold fenT3; rw [List.length_append]; omega
theorem T4_len {p : Nat → Int} (hp : FitF p) : (fenT4 p).length ≤ 7030 := by
  have h := T3_len hp; have g := sqL_len (p 83); unfold fenT4; rw [List.length_append]; cases decide (p 83 < 0) <;> simp <;> omega
theorem T5_len {p : Nat → Int} (hp : FitF p) : (fenT5 p).length ≤ 7080 := by
  have h := T4_len hp; have g := digL_len (p 84).toNat; have k := digL_len (p 85).toNat; unfold fenT5; rw [List.length_append]; cases (p 0 == 5) <;> simp <;> omega
theorem T6_len {p : Nat → Int} (hp : FitF p) : (fenT6 p).length ≤ 7130 := by
  have h := T5_len hp; have g := digL_len (p 86).toNat; have k := digL_len (p 87).toNat; unfold fenT6; simp only [List.length_append, List.length_singleton]; omega
theorem again {p : Nat → Int} {b1 j : Nat} {a : Act} {w wr : World} (hj : j ≤ 8) (hk : Kn p b1 (.string (bz (bdL p j))) a) (h4 : a.tmps[4]? = some (.int .i64 (7 - (j : Int)))) (hr : Row wr b1 p) (hb : Below w.heap.size w wr) :
    ∃ (j : Nat) (f : Nat → Value), j ≤ 8 ∧ a = { tmps := #[.agg (posA p), .pointer (some ⟨b1, 0, none⟩), .string ⟨#[]⟩, .string (bz (bdL p j)), .int .i64 (7 - (j : Int)), f 5, f 6, f 7, f 8, f 9, f 10, f 11, f 12, f 13, f 14, f 15, f 16, f 17, f 18, f 19, f 20, f 21, f 22, f 23, f 24, f 25, f 26, f 27, f 28, f 29, f 30, f 31, f 32, f 33, f 34, f 35, f 36, f 37, f 38, f 39, f 40, f 41, f 42, f 43, f 44, f 45, f 46, f 47, f 48, f 49, f 50, f 51, f 52, f 53, f 54, f 55, f 56, f 57, f 58, f 59, f 60, f 61, f 62, f 63, f 64, f 65, f 66, f 67, f 68, f 69, f 70, f 71, f 72, f 73, f 74, f 75, f 76, f 77, f 78, f 79, f 80, f 81, f 82, f 83, f 84], defers := [] } ∧ Row wr b1 p ∧ Below w.heap.size w wr := by
  obtain ⟨f, rfl⟩ := hk.open
  have e : f 4 = .int .i64 (7 - (j : Int)) := Option.some.inj h4
  exact ⟨j, f, hj, by rw [← e], hr, hb⟩
theorem wrB_head {p : Nat → Int} (h : wrB p = true) : wrH p = true := by unfold wrB at h; rw [Bool.and_eq_true, Bool.and_eq_true] at h; exact h.1.1
theorem wrB_clock {p : Nat → Int} (h : wrB p = true) : 0 ≤ p 86 ∧ 0 ≤ p 87 ∧ p 86 ≤ 10000 ∧ p 87 ≤ 10000 ∧ p 83 ≤ 63 := by
  have := wrB_head h
  unfold wrH at this
  simp at this
  omega
theorem wrB_rook {p : Nat → Int} (h : wrB p = true) (i : Nat) (hi : i < 4) : -1 ≤ p (79 + i) ∧ p (79 + i) ≤ 7 := by
  unfold wrB at h
  rw [Bool.and_eq_true, Bool.and_eq_true] at h
  have hc := allB_true.1 h.2 (i / 2) (by omega)
  unfold wrC at hc
  rw [Bool.and_eq_true] at hc
  have hr := allB_true.1 hc.2 (i % 2) (by omega)
  unfold wrR at hr
  rw [show 79 + i = 79 + i / 2 * 2 + i % 2 by omega]
  generalize p (79 + i / 2 * 2 + i % 2) = f at hr ⊢
  generalize i / 2 = c at hr
  simp only [Bool.not_eq_true', Bool.and_eq_false_iff] at hr
  rcases hr with hr | hr
  · simp at hr; omega
  · have h1 : rightB p (c : Int) ((i % 2 : Nat) : Int) f = true := by simpa using hr
    unfold rightB at h1
    rw [Bool.and_eq_true] at h1
    have h2 := h1.1
    simp at h2
    omega
end Go.Proofs.YtjbfjohgfbipgaaGreatDoor
