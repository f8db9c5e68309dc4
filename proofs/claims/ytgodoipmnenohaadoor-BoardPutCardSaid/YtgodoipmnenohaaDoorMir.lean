/-
  A position turned about, as a plain function; what follows of it.
-/
import Derived.Test.YtgodoipmnenohaaDoorBoEx
namespace Go.Proofs.YtgodoipmnenohaaDoor
open Go.RowKit
set_option linter.unusedVariables false

def flN (i : Nat) : Nat := 8 * (7 - i / 8) + i % 8
theorem flN_lt {i : Nat} (h : i < 64) : flN i < 64 := by unfold flN; omega
theorem flN_flN {i : Nat} (h : i < 64) : flN (flN i) = i := by unfold flN; omega
theorem flipS_nat {i : Nat} (h : i < 64) : flipS (i : Int) = ((flN i : Nat) : Int) := by unfold flipS flN; omega
theorem flipN_bit (b i : Nat) (hi : i < 64) : (flipN b).testBit i = b.testBit (flN i) := by rw [flipN_testBit b i hi, flipS_nat hi]; rfl
/-- What each color has is the other one's. -/
def exP (p : Nat → Int) (j : Nat) : Int :=
  if 66 ≤ j ∧ j < 72 then p (j + 6) else if 72 ≤ j ∧ j < 78 then p (j - 6) else if 79 ≤ j ∧ j < 81 then p (j + 2) else if 81 ≤ j ∧ j < 83 then p (j - 2) else if j = 84 then p 85 else if j = 85 then p 84 else p j
def turnZ (t : Int) : Int := if t ≤ 1 then 1 - t else t
def passZ (s : Int) : Int := if sq s = true then flipS s else s
def mirP (p : Nat → Int) (j : Nat) : Int :=
  if 1 ≤ j ∧ j ≤ 64 then othZ (p (1 + flN (j - 1))) else if j = 65 then ((flipN (p 65).toNat : Nat) : Int) else if j = 78 then turnZ (p 78) else if j = 83 then passZ (p 83) else exP p j
theorem mirP_bd (p : Nat → Int) (i : Nat) (h : i < 64) : mirP p (1 + i) = othZ (p (1 + flN i)) := by unfold mirP; rw [if_pos (by omega), show 1 + i - 1 = i by omega]
theorem mirP_65 (p : Nat → Int) : mirP p 65 = ((flipN (p 65).toNat : Nat) : Int) := by unfold mirP; rw [if_neg (by omega), if_pos rfl]
theorem mirP_78 (p : Nat → Int) : mirP p 78 = turnZ (p 78) := by unfold mirP; rw [if_neg (by omega), if_neg (by omega), if_pos rfl]
theorem mirP_83 (p : Nat → Int) : mirP p 83 = passZ (p 83) := by unfold mirP; rw [if_neg (by omega), if_neg (by omega), if_neg (by omega), if_pos rfl]
theorem mirP_ex (p : Nat → Int) (j : Nat) (h : j = 0 ∨ 66 ≤ j) (h1 : j ≠ 78) (h2 : j ≠ 83) : mirP p j = exP p j := by unfold mirP; rw [if_neg (by omega), if_neg (by omega), if_neg h1, if_neg h2]

/-- The numbers' ranges. -/
structure PosR (p : Nat → Int) : Prop where
  bd : BdR p
  prom : 0 ≤ p 65 ∧ (p 65).toNat < W64
  turn : 0 ≤ p 78 ∧ p 78 ≤ 255
  pass : -128 ≤ p 83 ∧ p 83 ≤ 127
theorem PosR.mir {p : Nat → Int} (h : PosR p) : PosR (mirP p) := by
  refine ⟨fun i hi => ?_, ?_, ?_, ?_⟩
  · rw [mirP_bd p i hi]; have := oth_rng (p (1 + flN i)); omega
  · rw [mirP_65]; exact ⟨by omega, by rw [Int.toNat_natCast]; exact flipN_lt _⟩
  · rw [mirP_78]; unfold turnZ; have := h.turn; split <;> omega
  · rw [mirP_83]; unfold passZ; have := h.pass; split
    · rename_i hs; rw [sq_true] at hs; unfold flipS; omega
    · exact this
theorem PosR.put {p : Nat → Int} (h : PosR p) (s x : Int) (h0 : 0 ≤ x) (h1 : x ≤ 255) : PosR (putP p s x) := by
  unfold putP
  cases g : putB s x
  · exact h
  · have hs : sq s = true := by unfold putB at g; rw [Bool.and_eq_true] at g; exact g.1
    rw [sq_true] at hs
    refine ⟨fun i hi => ?_, ?_, ?_, ?_⟩
    · show 0 ≤ upd p (1 + s.toNat) x (1 + i) ∧ upd p (1 + s.toNat) x (1 + i) ≤ 255
      by_cases e : 1 + i = 1 + s.toNat
      · rw [e, upd_same]; omega
      · rw [upd_other _ _ _ _ e]; exact h.bd i hi
    · show 0 ≤ upd p (1 + s.toNat) x 65 ∧ _ ; rw [show (bif true then upd p (1 + s.toNat) x else p) = upd p (1 + s.toNat) x from rfl, upd_other _ _ _ _ (by omega)]; exact h.prom
    · rw [show (bif true then upd p (1 + s.toNat) x else p) = upd p (1 + s.toNat) x from rfl, upd_other _ _ _ _ (by omega)]; exact h.turn
    · rw [show (bif true then upd p (1 + s.toNat) x else p) = upd p (1 + s.toNat) x from rfl, upd_other _ _ _ _ (by omega)]; exact h.pass

/-- The board after k rounds. -/
def mirTo (p : Nat → Int) : Nat → (Nat → Int)
  | 0 => p
  | k + 1 => upd (mirTo p k) (1 + flN k) (othZ (p (1 + k)))
theorem mirTo_out (p : Nat → Int) : ∀ k, k ≤ 64 → ∀ j, j = 0 ∨ 65 ≤ j → mirTo p k j = p j
  | 0, _, j, _ => rfl
  | k + 1, hk, j, hj => by
    have := flN_lt (show k < 64 by omega)
    show upd (mirTo p k) (1 + flN k) (othZ (p (1 + k))) j = p j
    rw [upd_other _ _ _ _ (by omega)]; exact mirTo_out p k (by omega) j hj
theorem mirTo_in (p : Nat → Int) : ∀ k, k ≤ 64 → ∀ i, i < 64 → mirTo p k (1 + i) = if flN i < k then othZ (p (1 + flN i)) else p (1 + i)
  | 0, _, i, _ => by rw [if_neg (by omega)]; rfl
  | k + 1, hk, i, hi => by
    show upd (mirTo p k) (1 + flN k) (othZ (p (1 + k))) (1 + i) = _
    by_cases e : i = flN k
    · subst e; rw [upd_same, flN_flN (by omega), if_pos (by omega)]
    · have e2 : flN i ≠ k := fun h => e (by rw [← h, flN_flN hi])
      rw [upd_other _ _ _ _ (by omega), mirTo_in p k (by omega) i hi]
      by_cases h : flN i < k
      · rw [if_pos h, if_pos (by omega)]
      · rw [if_neg h, if_neg (by omega)]
theorem mirTo_all (p : Nat → Int) (i : Nat) (hi : i < 64) : mirTo p 64 (1 + i) = othZ (p (1 + flN i)) := by rw [mirTo_in p 64 (Nat.le_refl _) i hi, if_pos (flN_lt hi)]
/-- The rest, one by one. -/
def mir5m (p : Nat → Int) (m : Nat) : Nat → Int := over (over (over (upd (mirTo p 64) 65 ((flipN m : Nat) : Int)) 66 12 (exP p)) 79 4 (exP p)) 84 2 (exP p)
def mir5 (p : Nat → Int) : Nat → Int := mir5m p (p 65).toNat
theorem mir5_m {p : Nat → Int} {m : Nat} (h : p 65 = (m : Int)) : mir5 p = mir5m p m := by unfold mir5; rw [h]; rfl
theorem mir5_at (p : Nat → Int) (j : Nat) (hj : j < 88) (h1 : j ≠ 78) (h2 : j ≠ 83) : mir5 p j = mirP p j := by
  unfold mir5 mir5m over
  by_cases a : 84 ≤ j ∧ j < 84 + 2
  · rw [if_pos a, mirP_ex p j (by omega) h1 h2]
  · rw [if_neg a]
    by_cases b : 79 ≤ j ∧ j < 79 + 4
    · rw [if_pos b, mirP_ex p j (by omega) h1 h2]
    · rw [if_neg b]
      by_cases c : 66 ≤ j ∧ j < 66 + 12
      · rw [if_pos c, mirP_ex p j (by omega) h1 h2]
      · rw [if_neg c]
        by_cases d : j = 65
        · subst d; rw [upd_same, mirP_65]
        · rw [upd_other _ _ _ _ d]
          by_cases e : 1 ≤ j ∧ j ≤ 64
          · obtain ⟨i, rfl⟩ : ∃ i, j = 1 + i := ⟨j - 1, by omega⟩
            rw [mirTo_all p i (by omega), mirP_bd p i (by omega)]
          · rw [mirTo_out p 64 (Nat.le_refl _) j (by omega), mirP_ex p j (by omega) h1 h2]
            unfold exP; rw [if_neg (by omega), if_neg (by omega), if_neg (by omega), if_neg (by omega), if_neg (by omega), if_neg (by omega)]
theorem mir5_78 (p : Nat → Int) : mir5 p 78 = p 78 := by
  unfold mir5 mir5m over; rw [if_neg (by omega), if_neg (by omega), if_neg (by omega), upd_other _ _ _ _ (by omega), mirTo_out p 64 (Nat.le_refl _) 78 (by omega)]
theorem mir5_83 (p : Nat → Int) : mir5 p 83 = p 83 := by
  unfold mir5 mir5m over; rw [if_neg (by omega), if_neg (by omega), if_neg (by omega), upd_other _ _ _ _ (by omega), mirTo_out p 64 (Nat.le_refl _) 83 (by omega)]
/-- The four ends. -/
theorem mir_end {p r : Nat → Int} (h : ∀ j, j ≠ 78 → j ≠ 83 → r j = mir5 p j) (h1 : r 78 = turnZ (p 78)) (h2 : r 83 = passZ (p 83)) : posA r = posA (mirP p) := posA_ext fun j hj => by
  by_cases a : j = 78
  · subst a; rw [h1, mirP_78]
  · by_cases b : j = 83
    · subst b; rw [h2, mirP_83]
    · rw [h j a b, mir5_at p j hj a b]
theorem mir_yy {p : Nat → Int} (t : p 78 ≤ 1) (s : sq (p 83) = true) : posA (upd (upd (mir5 p) 78 (1 - p 78)) 83 (flipS (p 83))) = posA (mirP p) :=
  mir_end (fun j a b => by rw [upd_other _ _ _ _ b, upd_other _ _ _ _ a]) (by rw [upd_other _ _ _ _ (by omega), upd_same, turnZ, if_pos t]) (by rw [upd_same, passZ, if_pos s])
theorem mir_yn {p : Nat → Int} (t : p 78 ≤ 1) (s : sq (p 83) = false) : posA (upd (mir5 p) 78 (1 - p 78)) = posA (mirP p) :=
  mir_end (fun j a b => by rw [upd_other _ _ _ _ a]) (by rw [upd_same, turnZ, if_pos t]) (by rw [upd_other _ _ _ _ (by omega), mir5_83, passZ, if_neg (by rw [s]; simp)])
theorem mir_ny {p : Nat → Int} (t : ¬ p 78 ≤ 1) (s : sq (p 83) = true) : posA (upd (mir5 p) 83 (flipS (p 83))) = posA (mirP p) :=
  mir_end (fun j a b => by rw [upd_other _ _ _ _ b]) (by rw [upd_other _ _ _ _ (by omega), mir5_78, turnZ, if_neg t]) (by rw [upd_same, passZ, if_pos s])
theorem mir_nn {p : Nat → Int} (t : ¬ p 78 ≤ 1) (s : sq (p 83) = false) : posA (mir5 p) = posA (mirP p) :=
  mir_end (fun j a b => rfl) (by rw [mir5_78, turnZ, if_neg t]) (by rw [mir5_83, passZ, if_neg (by rw [s]; simp)])
theorem results_eq {fn : Func} {i : Tmp} (h : fn.results = #[.cell i 31]) (tmps : Array Value) (w : World) (b : Nat) (p q : Nat → Int) (hp : tmps.getD i undef = .pointer (some ⟨b, 0, none⟩)) (hr : Row w b p) (he : posA p = posA q) :
    (results fn tmps).run Tryd.prog w = .ok (.agg (posA q)) w := by rw [← he]; exact results_pos h tmps w b p hp hr
theorem part12 (p : Nat → Int) : (partL p 66 12).toArray = #[.int .u8 (p 66), .int .u8 (p 67), .int .u8 (p 68), .int .u8 (p 69), .int .u8 (p 70), .int .u8 (p 71), .int .u8 (p 72), .int .u8 (p 73), .int .u8 (p 74), .int .u8 (p 75), .int .u8 (p 76), .int .u8 (p 77)] := rfl
theorem part4 (p : Nat → Int) : (partL p 79 4).toArray = #[.int .i8 (p 79), .int .i8 (p 80), .int .i8 (p 81), .int .i8 (p 82)] := rfl
theorem part2 (p : Nat → Int) : (partL p 84 2).toArray = #[.int .u8 (p 84), .int .u8 (p 85)] := rfl
theorem ex12_p (p : Nat → Int) (w : World) : Calls Tryd.prog 44 #[.agg (partL p 66 12).toArray] w (AggL (partL (exP p) 66 12).toArray w) := by
  rw [part12, part12]; exact ex12_any _ _ _ _ _ _ _ _ _ _ _ _ _
theorem ex4_p (p : Nat → Int) (w : World) : Calls Tryd.prog 45 #[.agg (partL p 79 4).toArray] w (AggL (partL (exP p) 79 4).toArray w) := by
  rw [part4, part4]; exact ex4_any _ _ _ _ _
theorem ex2_p (p : Nat → Int) (w : World) : Calls Tryd.prog 46 #[.agg (partL p 84 2).toArray] w (AggL (partL (exP p) 84 2).toArray w) := by
  rw [part2, part2]; exact ex2_any _ _ _
end Go.Proofs.YtgodoipmnenohaaDoor
