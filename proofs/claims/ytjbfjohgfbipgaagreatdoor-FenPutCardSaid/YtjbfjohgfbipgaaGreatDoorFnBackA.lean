/-
  Several texts in one: FnNum, FnBack, FnBackR, FnBackB, FnBackC, FnBackD, FnBackE, FnBackF.
-/
import Derived.Test.YtjbfjohgfbipgaaGreatDoorFnCur
import Derived.Test.YtjbfjohgfbipgaaGreatDoorFnPrint
/-
  Contract of the reader's number (layer 10).
-/
namespace Go.Proofs.YtjbfjohgfbipgaaGreatDoor
open Go.RowKit
set_option linter.unusedVariables false
set_option linter.unusedSimpArgs false

/-- At most so many digits, and how far they are read. -/
def nuS (t : ByteArray) (d : Bool) : Nat → Int → Nat → Int × Nat
  | 0, n, i => (n, i)
  | k + 1, n, i => bif decide (48 ≤ nxA t i d) && decide (nxA t i d ≤ 57) then nuS t d k (10 * n + (nxA t i d - 48)) (i + 1) else (n, i)
theorem nuS_go {t : ByteArray} {d : Bool} {k : Nat} {n x : Int} {i : Nat} (hx : nxA t i d = x) (h0 : 48 ≤ x) (h1 : x ≤ 57) : nuS t d (k + 1) n i = nuS t d k (10 * n + (x - 48)) (i + 1) := by
  rw [nuS, hx, decide_eq_true h0, decide_eq_true h1]; rfl
theorem nuS_low {t : ByteArray} {d : Bool} {k : Nat} {n x : Int} {i : Nat} (hx : nxA t i d = x) (h : ¬ 48 ≤ x) : nuS t d (k + 1) n i = (n, i) := by
  rw [nuS, hx, decide_eq_false h]; rfl
theorem nuS_high {t : ByteArray} {d : Bool} {k : Nat} {n x : Int} {i : Nat} (hx : nxA t i d = x) (h : ¬ x ≤ 57) : nuS t d (k + 1) n i = (n, i) := by
  rw [nuS, hx, decide_eq_false h, Bool.and_false]; rfl
theorem nuS_at (t : ByteArray) (d : Bool) : ∀ (k : Nat) (n : Int) (i : Nat), i ≤ (nuS t d k n i).2 ∧ (nuS t d k n i).2 ≤ i + k
  | 0, n, i => ⟨Nat.le_refl _, Nat.le_refl _⟩
  | k + 1, n, i => by
    rw [nuS]
    cases decide (48 ≤ nxA t i d) && decide (nxA t i d ≤ 57)
    · exact ⟨Nat.le_refl _, Nat.le_add_right _ _⟩
    · have := nuS_at t d k (10 * n + (nxA t i d - 48)) (i + 1); simp only [cond_true]; omega
def NuP (v : Int × Nat) (b : Nat) (t : ByteArray) (d : Bool) (w : World) (e : Ending) (w' : World) : Prop := e = .returned (.int .i64 v.1) ∧ Kept (· = b) w w' ∧ Cur w' b t v.2 d
end Go.Proofs.YtjbfjohgfbipgaaGreatDoor
/-
  There and back (layer 10): what is printed is read again. Numbers.
-/
namespace Go.Proofs.YtjbfjohgfbipgaaGreatDoor
set_option linter.unusedVariables false

/-- The text from a place on. -/
def fromA (t : ByteArray) (i : Nat) : List UInt8 := t.data.toList.drop i
def hdA : List UInt8 → Int
  | [] => 0
  | b :: _ => (b.toNat : Int)
theorem nxA_from {t : ByteArray} {i : Nat} {L : List UInt8} (h : fromA t i = L) : nxA t i false = hdA L := by
  unfold fromA at h
  show chA t i = _
  unfold chA
  rw [← Array.getElem?_toList]
  have e : t.data.toList[i]? = L[0]? := by rw [← h, List.getElem?_drop, Nat.add_zero]
  rw [e]
  cases L <;> rfl
theorem from_tail {t : ByteArray} {i : Nat} {b : UInt8} {L : List UInt8} (h : fromA t i = b :: L) : fromA t (i + 1) = L := by
  unfold fromA at h ⊢
  rw [show List.drop (i + 1) t.data.toList = List.drop 1 (List.drop i t.data.toList) by rw [List.drop_drop], h]; rfl
theorem from_app {t : ByteArray} : ∀ {A : List UInt8} {i : Nat} {L : List UInt8}, fromA t i = A ++ L → fromA t (i + A.length) = L
  | [], i, L, h => h
  | a :: A, i, L, h => by
    have := from_app (A := A) (i := i + 1) (from_tail h)
    rw [List.length_cons, show i + (A.length + 1) = i + 1 + A.length by omega]; exact this
theorem from_bz (l : List UInt8) : fromA (bz l) 0 = l := by unfold fromA bz; simp
/-- A list of digits, read on from a number. -/
def vaL : Int → List UInt8 → Int
  | n, [] => n
  | n, b :: l => vaL (10 * n + ((b.toNat : Int) - 48)) l
def digs (l : List UInt8) : Prop := ∀ b ∈ l, 48 ≤ b.toNat ∧ b.toNat ≤ 57
theorem vaL_app : ∀ (l m : List UInt8) (n : Int), vaL n (l ++ m) = vaL (vaL n l) m
  | [], m, n => rfl
  | b :: l, m, n => vaL_app l m _
theorem nuS_digs {t : ByteArray} : ∀ {l : List UInt8} {k : Nat} {n : Int} {i : Nat} {L : List UInt8}, digs l → l.length ≤ k → fromA t i = l ++ L → (hdA L < 48 ∨ 57 < hdA L) → nuS t false k n i = (vaL n l, i + l.length)
  | [], 0, n, i, L, _, _, _, _ => rfl
  | [], k + 1, n, i, L, _, _, hf, hL => by
    have hx := nxA_from hf
    rcases hL with h | h
    · exact nuS_low hx (show ¬ 48 ≤ hdA L by omega)
    · exact nuS_high hx (show ¬ hdA L ≤ 57 by omega)
  | b :: l, 0, n, i, L, _, hk, _, _ => absurd hk (by simp)
  | b :: l, k + 1, n, i, L, hd, hk, hf, hL => by
    obtain ⟨h0, h1⟩ := hd b (List.mem_cons_self ..)
    have hx : nxA t i false = (b.toNat : Int) := nxA_from hf
    rw [nuS_go hx (by omega) (by omega), nuS_digs (fun c hc => hd c (List.mem_cons_of_mem _ hc)) (by simpa using hk) (from_tail hf) hL, List.length_cons]
    exact Prod.ext rfl (by show i + 1 + l.length = i + (l.length + 1); omega)
theorem byZ_nat {x : Int} (h0 : 0 ≤ x) (h1 : x ≤ 255) : ((byZ x).toNat : Int) = x := by
  unfold byZ
  rw [UInt8.toNat_ofNat', Nat.mod_eq_of_lt (show x.toNat < 2 ^ 8 by omega)]
  omega
theorem dgZ_nat (n : Nat) : ((dgZ n).toNat : Int) = 48 + (n : Int) % 10 := byZ_nat (by omega) (by omega)
theorem dig_back : ∀ (f n : Nat), n < 10 ^ f → digs (digF (f + 1) n) ∧ vaL 0 (digF (f + 1) n) = (n : Int)
  | f, n, hn => by
    have hb : 48 ≤ (dgZ n).toNat ∧ (dgZ n).toNat ≤ 57 := by have := dgZ_nat n; omega
    by_cases h : n < 10
    · rw [digF_small h]
      refine ⟨fun b hb' => ?_, ?_⟩
      · rw [List.mem_singleton] at hb'; subst hb'; exact hb
      · show 10 * 0 + (((dgZ n).toNat : Int) - 48) = _
        rw [dgZ_nat]; omega
    · rw [digF_great (by omega)]
      match f, hn with
      | 0, hn => exact absurd hn (by simp; omega)
      | f + 1, hn =>
        rw [Nat.pow_succ] at hn
        obtain ⟨h1, h2⟩ := dig_back f (n / 10) (by omega)
        refine ⟨fun b hb' => ?_, ?_⟩
        · rcases List.mem_append.1 hb' with g | g
          · exact h1 b g
          · rw [List.mem_singleton] at g; subst g; exact hb
        · rw [vaL_app, h2]
          show 10 * ((n / 10 : Nat) : Int) + (((dgZ n).toNat : Int) - 48) = _
          rw [dgZ_nat]; omega
theorem dig_short {n : Nat} (h : n < 10 ^ 6) : (digL n).length ≤ 6 := by
  have step : ∀ m : Nat, m < 10 ^ 19 → (digL m).length ≤ (digL (m / 10)).length + 1 := fun m hm => by
    by_cases g : m < 10
    · rw [digL_small g, List.length_singleton]; omega
    · rw [digL_great (by omega) hm, List.length_append, List.length_singleton]; exact Nat.le_refl _
  have e0 : (digL (n / 10 / 10 / 10 / 10 / 10)).length = 1 := by rw [digL_small (by omega)]; rfl
  have e1 := step n (by omega)
  have e2 := step (n / 10) (by omega)
  have e3 := step (n / 10 / 10) (by omega)
  have e4 := step (n / 10 / 10 / 10) (by omega)
  have e5 := step (n / 10 / 10 / 10 / 10) (by omega)
  omega
/-- A number that is printed is read again, whatever but a digit stands behind it. -/
theorem num_back {t : ByteArray} {n i : Nat} {L : List UInt8} (hn : n < 10 ^ 6) (hf : fromA t i = digL n ++ L) (hL : hdA L < 48 ∨ 57 < hdA L) : nuS t false 6 0 i = ((n : Int), i + (digL n).length) := by
  obtain ⟨h1, h2⟩ := dig_back 19 n (by omega)
  rw [nuS_digs (l := digL n) h1 (dig_short hn) hf hL]
  exact Prod.ext h2 rfl
end Go.Proofs.YtjbfjohgfbipgaaGreatDoor
/-
  There and back (layer 10): the rooks that may castle.
-/
namespace Go.Proofs.YtjbfjohgfbipgaaGreatDoor
set_option linter.unusedVariables false

def roB (x : Int) : Int := bif decide (97 ≤ x) then x - 32 else x
def roC (x : Int) : Nat := bif decide (97 ≤ x) then 1 else 0
def roF (x : Int) : Int := bif roB x == 81 then 0 else bif roB x == 75 then 7 else roB x - 65
/-- The letters of rooks, read one by one. -/
def roS (t : ByteArray) : Nat → (Nat → Int) → Nat → Bool → (Nat → Int) × Nat × Bool
  | 0, p, i, d => (p, i, d)
  | k + 1, p, i, d =>
    bif (nxA t i d != 32) && !d then
      bif rightB p (roC (nxA t i d)) 0 (roF (nxA t i d)) then roS t k (upd p (79 + roC (nxA t i d) * 2) (roF (nxA t i d))) (i + 1) (tkD t i d)
      else bif rightB p (roC (nxA t i d)) 1 (roF (nxA t i d)) then roS t k (upd p (79 + roC (nxA t i d) * 2 + 1) (roF (nxA t i d))) (i + 1) (tkD t i d)
      else roS t k p (i + 1) true
    else (p, i, d)
theorem right_same {p q : Nat → Int} (h : ∀ s, s < 64 → p (1 + s) = q (1 + s)) (c d f : Int) : rightB p c d f = rightB q c d f := by
  have e : kinF p c = kinF q c := by
    unfold kinF ofN
    rw [eq_of_bits (setN_lt (ofB c 6) p) (setN_lt (ofB c 6) q) fun i hi => by rw [setN_testBit _ _ i hi, setN_testBit _ _ i hi, h i hi]]
  unfold rightB
  rw [e]
theorem right_one {p : Nat → Int} {c f : Int} (h : rightB p c 1 f = true) : rightB p c 0 f = false := by
  unfold rightB at h ⊢
  rw [Bool.and_eq_true] at h
  have h2 := of_decide_eq_true (show decide (f < fileZ (kinF p c)) = true from h.2)
  rw [show (bif (0 : Int) == 0 then decide (fileZ (kinF p c) < f) else decide (f < fileZ (kinF p c))) = false from decide_eq_false (by omega), Bool.and_false]
theorem right_file {p : Nat → Int} {c d f : Int} (h : rightB p c d f = true) : 0 ≤ f ∧ f ≤ 7 := by
  unfold rightB at h
  rw [Bool.and_eq_true] at h
  have := h.1
  simp at this
  omega
theorem ro_letter : ∀ c : Nat, c < 2 → ∀ d : Nat, d < 2 → ∀ n : Nat, n < 8 → roC (rkF c d (n : Int)) = c ∧ roF (rkF c d (n : Int)) = (n : Int) ∧ 65 ≤ rkF c d (n : Int) ∧ rkF c d (n : Int) ≤ 122 := by decide
theorem ro_back {c d : Nat} {f : Int} (hc : c < 2) (hd : d < 2) (h0 : 0 ≤ f) (h7 : f ≤ 7) : roC (rkF c d f) = c ∧ roF (rkF c d f) = f ∧ 65 ≤ rkF c d f ∧ rkF c d f ≤ 122 := by
  obtain ⟨n, rfl⟩ : ∃ n : Nat, f = (n : Int) := ⟨f.toNat, by omega⟩
  exact ro_letter c hc d hd n (by omega)
/-- What one letter does. -/
def roU (p : Nat → Int) (c d : Nat) (f : Int) : Nat → Int := bif decide (f < 0) then p else upd p (79 + c * 2 + d) f
theorem roS_one {t : ByteArray} {k c d i : Nat} {q : Nat → Int} {f : Int} {L : List UInt8} (hc : c < 2) (hd : d < 2) (h0 : 0 ≤ f) (hr : rightB q c d f = true) (hf : fromA t i = byZ (rkF c d f) :: L) :
    roS t (k + 1) q i false = roS t k (upd q (79 + c * 2 + d) f) (i + 1) false := by
  obtain ⟨_, h7⟩ := right_file hr
  obtain ⟨e1, e2, e3, e4⟩ := ro_back hc hd h0 h7
  have hx : nxA t i false = rkF c d f := (nxA_from hf).trans (byZ_nat (by omega) (by omega))
  have ht : tkD t i false = false := by unfold tkD; rw [hx, show (rkF c d f == 0) = false by simp; omega]; rfl
  rw [roS, ht, hx, e1, e2, show ((rkF c d f != 32) && !false) = true by simp; omega]
  match d, hd with
  | 0, _ => rw [show rightB q (c : Int) 0 f = true from hr]; rfl
  | 1, _ => rw [right_one hr, show rightB q (c : Int) 1 f = true from hr]; rfl
theorem roS_end {t : ByteArray} {k i : Nat} {q : Nat → Int} {L : List UInt8} (hf : fromA t i = L) (hL : hdA L = 32) : roS t k q i false = (q, i, false) := by
  match k with
  | 0 => rfl
  | k + 1 => rw [roS, nxA_from hf, hL]; rfl
/-- Letter by letter: the rooks of p, from those of q on. -/
def roM (p : Nat → Int) : List (Nat × Nat) → (Nat → Int) → (Nat → Int)
  | [], q => q
  | (c, d) :: r, q => roM p r (roU q c d (p (79 + c * 2 + d)))
def roX (p : Nat → Int) : List (Nat × Nat) → List UInt8
  | [] => []
  | (c, d) :: r => rfL c d (p (79 + c * 2 + d)) ++ roX p r
theorem roS_all {t : ByteArray} {p : Nat → Int} (hp : ∀ c d : Nat, c < 2 → d < 2 → p (79 + c * 2 + d) < 0 ∨ rightB p c d (p (79 + c * 2 + d)) = true) : ∀ {r : List (Nat × Nat)} {k : Nat} {q : Nat → Int} {i : Nat} {L : List UInt8}, (∀ x ∈ r, x.1 < 2 ∧ x.2 < 2) → r.length ≤ k → (∀ s, s < 64 → q (1 + s) = p (1 + s)) → fromA t i = roX p r ++ L → hdA L = 32 →
    roS t k q i false = (roM p r q, i + (roX p r).length, false)
  | [], k, q, i, L, _, _, _, hf, hL => roS_end hf hL
  | (c, d) :: r, k, q, i, L, hr, hk, hq, hf, hL => by
    obtain ⟨hc, hd⟩ := hr (c, d) (List.mem_cons_self ..)
    have hr' : ∀ x ∈ r, x.1 < 2 ∧ x.2 < 2 := fun x hx => hr x (List.mem_cons_of_mem _ hx)
    rw [List.length_cons] at hk
    rw [roM, roX]
    rw [roX] at hf
    generalize hv : p (79 + c * 2 + d) = v at hf ⊢
    by_cases h0 : v < 0
    · have e1 : rfL c d v = [] := by unfold rfL; rw [decide_eq_true h0]; rfl
      have e2 : roU q c d v = q := by unfold roU; rw [decide_eq_true h0]; rfl
      rw [e1, List.nil_append] at hf
      rw [e1, e2, List.nil_append]
      exact roS_all hp hr' (by omega) hq hf hL
    · have hb := (hp c d hc hd).resolve_left (by rw [hv]; exact h0)
      rw [hv, ← right_same hq] at hb
      have e1 : rfL c d v = [byZ (rkF c d v)] := by unfold rfL; rw [decide_eq_false h0]; rfl
      have e2 : roU q c d v = upd q (79 + c * 2 + d) v := by unfold roU; rw [decide_eq_false h0]; rfl
      rw [e1, List.append_assoc] at hf
      rw [e1, e2]
      obtain ⟨k, rfl⟩ : ∃ k', k = k' + 1 := ⟨k - 1, by omega⟩
      rw [roS_one hc hd (by omega) hb hf, roS_all hp (k := k) hr' (by omega) (fun s hs => by rw [upd_other _ _ _ _ (by omega)]; exact hq s hs) (from_tail hf) hL]
      simp only [List.length_append, List.length_singleton, Nat.add_assoc]
end Go.Proofs.YtjbfjohgfbipgaaGreatDoor
/-
  There and back (layer 10): a rank, the board.
-/
namespace Go.Proofs.YtjbfjohgfbipgaaGreatDoor
set_option linter.unusedVariables false

/-- A rank, read file by file. -/
def rkR (t : ByteArray) : Nat → (Nat → Int) → Nat → Nat → Nat → Bool → (Nat → Int) × Nat × Nat × Bool
  | 0, p, s, f, i, d => (p, s, i, d)
  | k + 1, p, s, f, i, d =>
    bif decide (f < 8) && !d then
      bif pcA (nxA t i d) != 0 then
        bif nxA t (i + 1) (tkD t i d) == 126 then rkR t k (upd (upd p (1 + s) (pcA (nxA t i d))) 65 (putN (p 65).toNat (s : Int) : Nat)) (s + 1) (f + 1) (i + 2) (tkD t i d)
        else rkR t k (upd p (1 + s) (pcA (nxA t i d))) (s + 1) (f + 1) (i + 1) (tkD t i d)
      else bif decide (nxA t i d < 49) || decide (56 < nxA t i d) || decide (8 < (f : Int) + (nxA t i d - 48)) then (p, s, i + 1, true)
      else rkR t k p (s + (nxA t i d - 48).toNat) (f + (nxA t i d - 48).toNat) (i + 1) (tkD t i d)
    else (p, s, i, d)
theorem rkR_done {t : ByteArray} {k : Nat} {p : Nat → Int} {s i : Nat} {d : Bool} : rkR t k p s 8 i d = (p, s, i, d) := by
  match k with
  | 0 => rfl
  | k + 1 => rw [rkR]; rfl
theorem le_back {x : Int} (h : pcB x = true) : ∃ b : UInt8, leF x = [b] ∧ pcA (b.toNat : Int) = x ∧ 65 ≤ b.toNat ∧ b.toNat ≤ 122 := by
  have : x = 1 ∨ x = 2 ∨ x = 3 ∨ x = 4 ∨ x = 5 ∨ x = 6 ∨ x = 9 ∨ x = 10 ∨ x = 11 ∨ x = 12 ∨ x = 13 ∨ x = 14 := by rw [pcB_true] at h; omega
  rcases this with rfl | rfl | rfl | rfl | rfl | rfl | rfl | rfl | rfl | rfl | rfl | rfl
  · exact ⟨80, by decide +kernel⟩
  · exact ⟨78, by decide +kernel⟩
  · exact ⟨66, by decide +kernel⟩
  · exact ⟨82, by decide +kernel⟩
  · exact ⟨81, by decide +kernel⟩
  · exact ⟨75, by decide +kernel⟩
  · exact ⟨112, by decide +kernel⟩
  · exact ⟨110, by decide +kernel⟩
  · exact ⟨98, by decide +kernel⟩
  · exact ⟨114, by decide +kernel⟩
  · exact ⟨113, by decide +kernel⟩
  · exact ⟨107, by decide +kernel⟩
theorem dg_none : ∀ e : Nat, e < 9 → pcA (48 + (e : Int)) = 0 := by decide +kernel
/-- The rest of a rank's text, e empty squares being pending, k squares to come. -/
def rkT (p : Nat → Int) (r : Nat) : Nat → Nat → List UInt8
  | 0, e => emL2 e
  | k + 1, e => bif p (1 + (8 * r + (7 - k))) == 0 then rkT p r k (e + 1) else emL2 e ++ (clL p (8 * r + (7 - k)) ++ rkT p r k 0)
theorem rkT_rest (p : Nat → Int) (r : Nat) : ∀ k, k ≤ 8 → (rkS p r (8 - k)).1 ++ rkT p r k (rkS p r (8 - k)).2 = rkL p r
  | 0, _ => rfl
  | k + 1, hk => by
    have ih := rkT_rest p r k (by omega)
    rw [show 8 - (k + 1) = 7 - k by omega]
    rw [show 8 - k = 7 - k + 1 by omega] at ih
    rw [rkT]
    cases h : (p (1 + (8 * r + (7 - k))) == 0)
    · rw [rkS_piece h] at ih
      rw [← ih]
      simp only [cond_false, List.append_assoc]
    · rw [rkS_empty h] at ih
      exact ih
/-- What one square gives. -/
def bdU (p : Nat → Int) (s : Nat) (q : Nat → Int) : Nat → Int :=
  bif p (1 + s) == 0 then q else bif hasN (p 65).toNat (s : Int) then upd (upd q (1 + s) (p (1 + s))) 65 (putN (q 65).toNat (s : Int) : Nat) else upd q (1 + s) (p (1 + s))
def rkW (p : Nat → Int) (r : Nat) : Nat → (Nat → Int) → (Nat → Int)
  | 0, q => q
  | k + 1, q => rkW p r k (bdU p (8 * r + (7 - k)) q)
theorem em_one {e : Nat} (h0 : 0 < e) (h8 : e ≤ 8) : emL2 e = [dgZ e] := by
  unfold emL2; rw [decide_eq_true h0]; exact digL_small (by omega)
theorem rkR_dig {t : ByteArray} {k : Nat} {q : Nat → Int} {s f e i : Nat} {L : List UInt8} (h0 : 0 < e) (h8 : f + e ≤ 8) (hf : fromA t i = emL2 e ++ L) : rkR t (k + 1) q s f i false = rkR t k q (s + e) (f + e) (i + (emL2 e).length) false := by
  rw [em_one h0 (by omega)] at hf ⊢
  have hx : nxA t i false = 48 + (e : Int) := by rw [nxA_from hf]; show ((dgZ e).toNat : Int) = _; rw [dgZ_nat]; omega
  have ht : tkD t i false = false := by unfold tkD; rw [hx, show (48 + (e : Int) == 0) = false by simp; omega]; rfl
  rw [rkR, ht, hx, dg_none e (by omega), show (decide (f < 8) && !false) = true by simp; omega, decide_eq_false (show ¬ 48 + (e : Int) < 49 by omega), decide_eq_false (show ¬ (56 < 48 + (e : Int)) by omega), decide_eq_false (show ¬ (8 < (f : Int) + (48 + (e : Int) - 48)) by omega), show (48 + (e : Int) - 48).toNat = e by omega]
  rfl
theorem hd_em {e : Nat} {L : List UInt8} (h8 : e ≤ 8) (hL : hdA L ≠ 126) : hdA (emL2 e ++ L) ≠ 126 := by
  by_cases h0 : 0 < e
  · rw [em_one h0 h8]; show ((dgZ e).toNat : Int) ≠ 126; rw [dgZ_nat]; omega
  · obtain rfl : e = 0 := by omega
    exact hL
theorem hd_rk {p : Nat → Int} {r : Nat} {L : List UInt8} (hb : ∀ s, s < 64 → p (1 + s) = 0 ∨ pcB (p (1 + s)) = true) (hr : r < 8) (hL : hdA L ≠ 126) : ∀ k e, e + k ≤ 8 → hdA (rkT p r k e ++ L) ≠ 126
  | 0, e, he => hd_em (by omega) hL
  | k + 1, e, he => by
    rw [rkT]
    cases h : (p (1 + (8 * r + (7 - k))) == 0)
    · have hp := (hb (8 * r + (7 - k)) (by omega)).resolve_left (by simpa using h)
      obtain ⟨b, e1, e2, e3, e4⟩ := le_back hp
      simp only [cond_false, List.append_assoc]
      refine hd_em (by omega) ?_
      unfold clL
      rw [e1]
      show (b.toNat : Int) ≠ 126
      omega
    · exact hd_rk hb hr hL k (e + 1) (by omega)
theorem rkR_back {t : ByteArray} {p : Nat → Int} {r : Nat} {L : List UInt8} (hb : ∀ s, s < 64 → p (1 + s) = 0 ∨ pcB (p (1 + s)) = true) (hr : r < 8) (hL : hdA L ≠ 126) : ∀ k e fuel q i, e + k ≤ 8 → e + k ≤ fuel → fromA t i = rkT p r k e ++ L →
    rkR t fuel q (8 * r + (8 - k - e)) (8 - k - e) i false = (rkW p r k q, 8 * r + 8, i + (rkT p r k e).length, false)
  | 0, e, fuel, q, i, he, hfu, hf => by
    rw [rkT] at hf ⊢
    by_cases h0 : 0 < e
    · obtain ⟨k, rfl⟩ : ∃ k', fuel = k' + 1 := ⟨fuel - 1, by omega⟩
      rw [rkR_dig h0 (by omega) hf, show 8 - 0 - e + e = 8 by omega, show 8 * r + (8 - 0 - e) + e = 8 * r + 8 by omega, rkR_done]
      rfl
    · obtain rfl : e = 0 := by omega
      exact rkR_done
  | k + 1, e, fuel, q, i, he, hfu, hf => by
    have ih := rkR_back (t := t) hb hr hL k
    rw [rkT] at hf ⊢
    rw [rkW]
    cases h : (p (1 + (8 * r + (7 - k))) == 0)
    · have hp := (hb (8 * r + (7 - k)) (by omega)).resolve_left (by simpa using h)
      obtain ⟨b, e1, e2, e3, e4⟩ := le_back hp
      rw [h] at hf
      simp only [cond_false] at hf ⊢
      -- the piece
      have piece : ∀ (fu j : Nat), k + 1 ≤ fu → fromA t j = clL p (8 * r + (7 - k)) ++ (rkT p r k 0 ++ L) → rkR t fu q (8 * r + (7 - k)) (7 - k) j false = (rkW p r k (bdU p (8 * r + (7 - k)) q), 8 * r + 8, j + (clL p (8 * r + (7 - k))).length + (rkT p r k 0).length, false) := fun fu j hfu hj => by
        obtain ⟨fu, rfl⟩ : ∃ k', fu = k' + 1 := ⟨fu - 1, by omega⟩
        have hrest := hd_rk hb hr hL k 0 (by omega)
        unfold clL at hj ⊢
        rw [e1] at hj ⊢
        have hx : nxA t j false = (b.toNat : Int) := nxA_from hj
        have ht : tkD t j false = false := by unfold tkD; rw [hx, show ((b.toNat : Int) == 0) = false by simp; omega]; rfl
        have hne : (p (1 + (8 * r + (7 - k))) != 0) = true := by rw [bne, h]; rfl
        rw [rkR, ht, hx, e2, hne, show (decide (7 - k < 8) && !false) = true by simp; omega]
        unfold bdU
        rw [h]
        cases hh : hasN (p 65).toNat ((8 * r + (7 - k) : Nat) : Int)
        · rw [hh] at hj
          have h2 : nxA t (j + 1) false = hdA (rkT p r k 0 ++ L) := nxA_from (from_tail hj)
          rw [h2, show (hdA (rkT p r k 0 ++ L) == 126) = false by simpa using hrest]
          have := ih 0 fu (upd q (1 + (8 * r + (7 - k))) (p (1 + (8 * r + (7 - k))))) (j + 1) (by omega) (by omega) (from_tail hj)
          rw [show 8 - k - 0 = 7 - k + 1 by omega, show 8 * r + (7 - k + 1) = 8 * r + (7 - k) + 1 by omega] at this
          exact this
        · rw [hh] at hj
          have h2 : nxA t (j + 1) false = 126 := nxA_from (from_tail hj)
          rw [h2]
          have := ih 0 fu (upd (upd q (1 + (8 * r + (7 - k))) (p (1 + (8 * r + (7 - k))))) 65 (putN (q 65).toNat ((8 * r + (7 - k) : Nat) : Int) : Nat)) (j + 2) (by omega) (by omega) (from_tail (from_tail hj))
          rw [show 8 - k - 0 = 7 - k + 1 by omega, show 8 * r + (7 - k + 1) = 8 * r + (7 - k) + 1 by omega] at this
          exact this
      rw [List.append_assoc, List.append_assoc] at hf
      by_cases h0 : 0 < e
      · obtain ⟨fu, rfl⟩ : ∃ k', fuel = k' + 1 := ⟨fuel - 1, by omega⟩
        rw [rkR_dig h0 (by omega) hf, show 8 - (k + 1) - e + e = 7 - k by omega, show 8 * r + (8 - (k + 1) - e) + e = 8 * r + (7 - k) by omega, piece fu _ (by omega) (from_app hf)]
        simp only [List.length_append, Nat.add_assoc]
      · obtain rfl : e = 0 := by omega
        rw [show 8 - (k + 1) - 0 = 7 - k by omega, piece fuel i (by omega) hf]
        simp only [List.length_append, Nat.add_assoc, show (emL2 0).length = 0 from rfl, Nat.zero_add]
    · rw [h] at hf
      have hz : bdU p (8 * r + (7 - k)) q = q := by unfold bdU; rw [h]; rfl
      rw [hz, show 8 - (k + 1) - e = 8 - k - (e + 1) by omega]
      exact ih (e + 1) fuel q i (by omega) (by omega) hf
end Go.Proofs.YtjbfjohgfbipgaaGreatDoor
/-
  There and back (layer 10): the board, rank by rank.
-/
namespace Go.Proofs.YtjbfjohgfbipgaaGreatDoor
set_option linter.unusedVariables false

/-- The board, read rank by rank. -/
def boS (t : ByteArray) : Nat → (Nat → Int) → Int → Nat → Bool → (Nat → Int) × Nat × Bool
  | 0, p, s, i, d => (p, i, d)
  | k + 1, p, s, i, d =>
    bif decide (0 ≤ s) && !d then
      bif decide (8 < (rkR t 8 p s.toNat 0 i d).2.1) then
        boS t k (rkR t 8 p s.toNat 0 i d).1 (((rkR t 8 p s.toNat 0 i d).2.1 : Nat) - 16 : Int) ((rkR t 8 p s.toNat 0 i d).2.2.1 + 1) (ndD t (rkR t 8 p s.toNat 0 i d).2.2.1 (rkR t 8 p s.toNat 0 i d).2.2.2 47)
      else boS t k (rkR t 8 p s.toNat 0 i d).1 (((rkR t 8 p s.toNat 0 i d).2.1 : Nat) - 16 : Int) (rkR t 8 p s.toNat 0 i d).2.2.1 (rkR t 8 p s.toNat 0 i d).2.2.2
    else (p, i, d)
/-- The text of the lowest j ranks. -/
def btT (p : Nat → Int) : Nat → List UInt8
  | 0 => []
  | j + 1 => rkL p j ++ (bif decide (0 < j) then 47 :: btT p j else [])
theorem btT_rest (p : Nat → Int) : ∀ j, j ≤ 8 → bdL p (8 - j) ++ btT p j = bdL p 8
  | 0, _ => by rw [btT, List.append_nil]
  | j + 1, hj => by
    have ih := btT_rest p j (by omega)
    rw [show 8 - (j + 1) = 7 - j by omega, btT]
    rw [show 8 - j = 7 - j + 1 by omega, bdL, show 7 - (7 - j) = j by omega] at ih
    rw [← ih]
    by_cases h : 0 < j
    · rw [decide_eq_true h, decide_eq_true (show 7 - j < 7 by omega)]
      simp
    · obtain rfl : j = 0 := by omega
      simp [btT]
def bdW (p : Nat → Int) : Nat → (Nat → Int) → (Nat → Int)
  | 0, q => q
  | j + 1, q => bdW p j (rkW p j 8 q)
theorem rk_read {t : ByteArray} {p q : Nat → Int} {r i : Nat} {L : List UInt8} (hb : ∀ s, s < 64 → p (1 + s) = 0 ∨ pcB (p (1 + s)) = true) (hr : r < 8) (hL : hdA L ≠ 126) (hf : fromA t i = rkL p r ++ L) :
    rkR t 8 q (8 * r) 0 i false = (rkW p r 8 q, 8 * r + 8, i + (rkL p r).length, false) := by
  have e : rkT p r 8 0 = rkL p r := rkT_rest p r 8 (Nat.le_refl _)
  have := rkR_back (t := t) hb hr hL 8 0 8 q i (by omega) (by omega) (by rw [e]; exact hf)
  rw [e] at this
  exact this
theorem boS_back {t : ByteArray} {p : Nat → Int} {L : List UInt8} (hb : ∀ s, s < 64 → p (1 + s) = 0 ∨ pcB (p (1 + s)) = true) (hL : hdA L ≠ 126) : ∀ j fuel q i, j ≤ 8 → j ≤ fuel → fromA t i = btT p j ++ L →
    boS t fuel q (8 * (j : Int) - 8) i false = (bdW p j q, i + (btT p j).length, false)
  | 0, fuel, q, i, _, _, hf => by
    match fuel with
    | 0 => rfl
    | k + 1 => rw [boS]; rfl
  | j + 1, fuel, q, i, hj, hfu, hf => by
    obtain ⟨fu, rfl⟩ : ∃ k', fuel = k' + 1 := ⟨fuel - 1, by omega⟩
    have hs : (8 * ((j + 1 : Nat) : Int) - 8).toNat = 8 * j := by omega
    have h0 : (decide (0 ≤ 8 * ((j + 1 : Nat) : Int) - 8) && !false) = true := by simp; omega
    rw [btT, List.append_assoc] at hf
    rw [boS, hs, h0, btT, bdW]
    by_cases h : 0 < j
    · rw [decide_eq_true h] at hf ⊢
      simp only [cond_true] at hf ⊢
      have hr := rk_read (q := q) hb (show j < 8 by omega) (show hdA (47 :: btT p j ++ L) ≠ 126 from (by decide : (47 : Int) ≠ 126)) hf
      rw [hr]
      have hf2 := from_app hf
      have hx : nxA t (i + (rkL p j).length) false = 47 := nxA_from hf2
      have hn : ndD t (i + (rkL p j).length) false 47 = false := by unfold ndD tkD; rw [hx]; rfl
      simp only [hn]
      rw [decide_eq_true (show 8 < 8 * j + 8 by omega)]
      have ih := boS_back hb hL j fu (rkW p j 8 q) (i + (rkL p j).length + 1) (by omega) (by omega) (from_tail hf2)
      rw [show (((8 * j + 8 : Nat) : Int) - 16 : Int) = 8 * (j : Int) - 8 by omega]
      simp only [cond_true, ih, List.length_append, List.length_cons]
      rw [show i + (rkL p j).length + 1 + (btT p j).length = i + ((rkL p j).length + ((btT p j).length + 1)) by omega]
    · obtain rfl : j = 0 := by omega
      rw [decide_eq_false h] at hf ⊢
      simp only [cond_false, List.nil_append, List.append_nil] at hf ⊢
      have hr := rk_read (q := q) hb (show 0 < 8 by omega) hL hf
      rw [hr]
      have ih := boS_back hb hL 0 fu (rkW p 0 8 q) (i + (rkL p 0).length) (by omega) (by omega) (from_app hf)
      exact ih
end Go.Proofs.YtjbfjohgfbipgaaGreatDoor
/-
  There and back (layer 10): what the board that is read comes to.
-/
namespace Go.Proofs.YtjbfjohgfbipgaaGreatDoor
set_option linter.unusedVariables false

def fdU (p : Nat → Int) : List Nat → (Nat → Int) → (Nat → Int)
  | [], q => q
  | s :: l, q => fdU p l (bdU p s q)
theorem fdU_app (p : Nat → Int) : ∀ (l m : List Nat) (q : Nat → Int), fdU p (l ++ m) q = fdU p m (fdU p l q)
  | [], m, q => rfl
  | s :: l, m, q => fdU_app p l m _
def rkQ (r : Nat) : Nat → List Nat
  | 0 => []
  | k + 1 => (8 * r + (7 - k)) :: rkQ r k
theorem rkW_list (p : Nat → Int) (r : Nat) : ∀ (k : Nat) (q : Nat → Int), rkW p r k q = fdU p (rkQ r k) q
  | 0, q => rfl
  | k + 1, q => rkW_list p r k _
def bdQ : Nat → List Nat
  | 0 => []
  | j + 1 => rkQ j 8 ++ bdQ j
theorem bdW_list (p : Nat → Int) : ∀ (j : Nat) (q : Nat → Int), bdW p j q = fdU p (bdQ j) q
  | 0, q => rfl
  | j + 1, q => by rw [bdW, bdQ, fdU_app, bdW_list p j, rkW_list]
theorem bdQ_all : ∀ s, s < 64 → s ∈ bdQ 8 := by decide
theorem bdQ_lt : ∀ s ∈ bdQ 8, s < 64 := by decide
theorem bdU_out {p q : Nat → Int} {s j : Nat} (h : j ≠ 65) (hj : j ≠ 1 + s) : bdU p s q j = q j := by
  unfold bdU
  cases p (1 + s) == 0
  · cases hasN (p 65).toNat (s : Int)
    · exact upd_other _ _ _ _ hj
    · show upd (upd q (1 + s) (p (1 + s))) 65 _ j = _
      rw [upd_other _ _ _ _ h, upd_other _ _ _ _ hj]
  · rfl
theorem bdU_in {p q : Nat → Int} {s : Nat} (hs : s < 64) : bdU p s q (1 + s) = bif p (1 + s) == 0 then q (1 + s) else p (1 + s) := by
  unfold bdU
  cases p (1 + s) == 0
  · cases hasN (p 65).toNat (s : Int)
    · exact upd_same _ _ _
    · show upd (upd q (1 + s) (p (1 + s))) 65 _ (1 + s) = _
      rw [upd_other _ _ _ _ (by omega)]; exact upd_same _ _ _
  · rfl
theorem fdU_out {p : Nat → Int} {j : Nat} (h : j ≠ 65) : ∀ (l : List Nat) (q : Nat → Int), (∀ s ∈ l, j ≠ 1 + s) → fdU p l q j = q j
  | [], q, _ => rfl
  | s :: l, q, hl => by rw [fdU, fdU_out h l _ fun x hx => hl x (List.mem_cons_of_mem _ hx), bdU_out h (hl s (List.mem_cons_self ..))]
theorem fdU_in {p : Nat → Int} {s : Nat} (hs : s < 64) : ∀ (l : List Nat) (q : Nat → Int), (s ∈ l ∨ q (1 + s) = p (1 + s)) → (q (1 + s) = 0 ∨ q (1 + s) = p (1 + s)) → fdU p l q (1 + s) = p (1 + s)
  | [], q, h, _ => h.resolve_left (by simp)
  | x :: l, q, h, h2 => by
    rw [fdU]
    by_cases e : x = s
    · subst e
      have e1 : bdU p x q (1 + x) = p (1 + x) := by
        rw [bdU_in hs]
        cases g : (p (1 + x) == 0)
        · rfl
        · have : p (1 + x) = 0 := by simpa using g
          rcases h2 with h2 | h2
          · exact h2.trans this.symm
          · exact h2
      exact fdU_in hs l _ (.inr e1) (.inr e1)
    · have e1 : bdU p x q (1 + s) = q (1 + s) := bdU_out (by omega) (by omega)
      refine fdU_in hs l _ ?_ (by rw [e1]; exact h2)
      rw [e1]
      refine h.imp (fun h => ?_) id
      rcases List.mem_cons.1 h with g | g
      · exact absurd g.symm e
      · exact g
/-- The promoted squares: bit by bit. -/
theorem bdU_prom {p q : Nat → Int} {s : Nat} (hs : s < 64) (h0 : 0 ≤ q 65) : 0 ≤ bdU p s q 65 ∧ ∀ i, i < 64 → (bdU p s q 65).toNat.testBit i = ((q 65).toNat.testBit i || (decide (i = s) && (p (1 + s) != 0) && hasN (p 65).toNat (s : Int))) := by
  unfold bdU
  cases hz : p (1 + s) == 0
  · rw [show (p (1 + s) != 0) = true by rw [bne, hz]; rfl]
    cases hh : hasN (p 65).toNat (s : Int)
    · simp only [cond_false, Bool.and_false, Bool.or_false]
      rw [upd_other _ _ _ _ (by omega)]
      exact ⟨h0, fun _ _ => rfl⟩
    · simp only [cond_false, cond_true, Bool.and_true]
      rw [upd_same]
      refine ⟨Int.natCast_nonneg _, fun i hi => ?_⟩
      rw [Int.toNat_natCast, putN_testBit, sq_true.2 (show 0 ≤ (s : Int) ∧ (s : Int) < 64 by omega), Bool.true_and]
      exact congrArg _ (decide_eq_decide.2 (by omega))
  · rw [show (p (1 + s) != 0) = false by rw [bne, hz]; rfl]
    simp only [cond_true, Bool.and_false, Bool.false_and, Bool.or_false]
    exact ⟨h0, fun _ _ => trivial⟩
theorem bdU_lt {p q : Nat → Int} {s : Nat} (h : (q 65).toNat < W64) (hs : s < 64) : (bdU p s q 65).toNat < W64 := by
  unfold bdU
  cases hz : p (1 + s) == 0
  · cases hh : hasN (p 65).toNat (s : Int)
    · simp only [cond_false]
      rw [upd_other _ _ _ _ (by omega)]
      exact h
    · simp only [cond_false, cond_true]
      rw [upd_same, Int.toNat_natCast]
      exact putN_lt h _
  · exact h
theorem fdU_lt {p : Nat → Int} : ∀ (l : List Nat) (q : Nat → Int), (∀ s ∈ l, s < 64) → (q 65).toNat < W64 → (fdU p l q 65).toNat < W64
  | [], q, _, h => h
  | s :: l, q, hl, h => fdU_lt l _ (fun x hx => hl x (List.mem_cons_of_mem _ hx)) (bdU_lt h (hl s (List.mem_cons_self ..)))
theorem fdU_prom {p : Nat → Int} : ∀ (l : List Nat) (q : Nat → Int), (∀ s ∈ l, s < 64) → 0 ≤ q 65 → 0 ≤ fdU p l q 65 ∧ ∀ i, i < 64 → (fdU p l q 65).toNat.testBit i = ((q 65).toNat.testBit i || (decide (i ∈ l) && (p (1 + i) != 0) && hasN (p 65).toNat (i : Int)))
  | [], q, _, h0 => ⟨h0, fun i _ => by simp [fdU]⟩
  | s :: l, q, hl, h0 => by
    obtain ⟨g0, g1⟩ := bdU_prom (p := p) (q := q) (hl s (List.mem_cons_self ..)) h0
    obtain ⟨k0, k1⟩ := fdU_prom (p := p) l (bdU p s q) (fun x hx => hl x (List.mem_cons_of_mem _ hx)) g0
    refine ⟨k0, fun i hi => ?_⟩
    rw [fdU, k1 i hi, g1 i hi]
    by_cases e : i = s
    · subst e
      cases p (1 + i) != 0 <;> cases hasN (p 65).toNat (i : Int) <;> simp
    · rw [decide_eq_false e, show decide (i ∈ s :: l) = decide (i ∈ l) from decide_eq_decide.2 (by simp [e])]
      simp
/-- What the board that is read comes to. -/
theorem bdW_out {p q : Nat → Int} {j : Nat} (h : j = 0 ∨ 65 < j) : bdW p 8 q j = q j := by
  rw [bdW_list]
  exact fdU_out (by omega) _ _ fun s hs => by have := bdQ_lt s hs; omega
theorem bdW_in {p q : Nat → Int} {s : Nat} (hs : s < 64) (hq : q (1 + s) = 0) : bdW p 8 q (1 + s) = p (1 + s) := by
  rw [bdW_list]
  exact fdU_in hs _ _ (.inl (bdQ_all s hs)) (.inl hq)
theorem bdW_prom {p q : Nat → Int} (hq : q 65 = 0) (h0 : 0 ≤ p 65) (h1 : (p 65).toNat < W64) (hb : ∀ s : Nat, s < 64 → hasN (p 65).toNat (s : Int) = true → p (1 + s) ≠ 0) : bdW p 8 q 65 = p 65 := by
  rw [bdW_list]
  obtain ⟨k0, k1⟩ := fdU_prom (p := p) (bdQ 8) q bdQ_lt (by rw [hq]; decide)
  have hlt : (fdU p (bdQ 8) q 65).toNat < W64 := fdU_lt _ _ bdQ_lt (by rw [hq]; exact Nat.lt_of_le_of_lt (Nat.zero_le _) h1)
  have := eq_of_bits hlt h1 fun i hi => by
    rw [k1 i hi, hq, decide_eq_true (bdQ_all i hi), hasN_nat _ _ hi]
    cases g : (p 65).toNat.testBit i
    · simp
    · have := hb i hi (by rw [hasN_nat _ _ hi]; exact g)
      rw [show (p (1 + i) != 0) = true by simpa using this]; simp
  omega
end Go.Proofs.YtjbfjohgfbipgaaGreatDoor
/-
  There and back (layer 10): what the rooks that are read come to; the pockets.
-/
namespace Go.Proofs.YtjbfjohgfbipgaaGreatDoor
set_option linter.unusedVariables false

def roQ : List (Nat × Nat) := [(0, 0), (0, 1), (1, 0), (1, 1)]
theorem roX_all (p : Nat → Int) : roX p roQ = rcL p 2 := by
  simp [roX, roQ, rcL, rdL]
theorem roU_at (q : Nat → Int) (c d : Nat) (f : Int) (j : Nat) : roU q c d f j = if j = 79 + c * 2 + d ∧ 0 ≤ f then f else q j := by
  unfold roU
  by_cases h : f < 0
  · rw [decide_eq_true h, if_neg (by omega)]; rfl
  · rw [decide_eq_false h]
    by_cases g : j = 79 + c * 2 + d
    · subst g; rw [if_pos ⟨rfl, by omega⟩]; exact upd_same _ _ _
    · rw [if_neg (fun h => g h.1)]; exact upd_other _ _ _ _ g
theorem roM_at {p q : Nat → Int} (j : Nat) (hp : ∀ k, 79 ≤ k → k < 83 → -1 ≤ p k) (hq : ∀ k, 79 ≤ k → k < 83 → q k = -1) : roM p roQ q j = if 79 ≤ j ∧ j < 83 then p j else q j := by
  show roU (roU (roU (roU q 0 0 (p 79)) 0 1 (p 80)) 1 0 (p 81)) 1 1 (p 82) j = _
  rw [roU_at, roU_at, roU_at, roU_at]
  by_cases h : 79 ≤ j ∧ j < 83
  · rw [if_pos h]
    have h1 := hp j h.1 h.2
    have h2 := hq j h.1 h.2
    have : j = 79 ∨ j = 80 ∨ j = 81 ∨ j = 82 := by omega
    rcases this with rfl | rfl | rfl | rfl <;> simp <;> omega
  · rw [if_neg h, if_neg (by omega), if_neg (by omega), if_neg (by omega), if_neg (by omega)]
/-- One more in a pocket. -/
def inP (q : Nat → Int) (x : Int) : Nat → Int := upd q (66 + ((colZ x).toNat * 6 + (kndZ x).toNat)) ((q (66 + ((colZ x).toNat * 6 + (kndZ x).toNat)) + 1) % 256)
/-- The pockets, read letter by letter. -/
def poS (t : ByteArray) : Nat → (Nat → Int) → Nat → Bool → (Nat → Int) × Nat × Bool
  | 0, p, i, d => (p, i, d)
  | k + 1, p, i, d =>
    bif (nxA t i d != 93) && !d then
      bif (pcA (nxA t i d) == 0) || (kndZ (pcA (nxA t i d)) == 6) then (p, i + 1, true)
      else poS t k (inP p (pcA (nxA t i d))) (i + 1) (tkD t i d)
    else (p, i, d)
def leQ : List Int → List UInt8
  | [] => []
  | x :: l => leF x ++ leQ l
theorem poS_list {t : ByteArray} {L : List UInt8} (hL : hdA L = 93) : ∀ (xs : List Int) (k : Nat) (q : Nat → Int) (i : Nat), (∀ x ∈ xs, pcB x = true ∧ kndZ x ≠ 6) → xs.length ≤ k → fromA t i = leQ xs ++ L → poS t k q i false = (xs.foldl inP q, i + (leQ xs).length, false)
  | [], k, q, i, _, _, hf => by
    match k with
    | 0 => rfl
    | k + 1 => rw [poS, nxA_from hf, show hdA (leQ [] ++ L) = 93 from hL]; rfl
  | x :: l, k, q, i, hx, hk, hf => by
    obtain ⟨k, rfl⟩ : ∃ k', k = k' + 1 := ⟨k - 1, by simp at hk; omega⟩
    obtain ⟨h1, h2⟩ := hx x (List.mem_cons_self ..)
    obtain ⟨b, e1, e2, e3, e4⟩ := le_back h1
    rw [leQ, List.append_assoc, e1] at hf
    rw [leQ, e1]
    have hn : nxA t i false = (b.toNat : Int) := nxA_from hf
    have ht : tkD t i false = false := by unfold tkD; rw [hn, show ((b.toNat : Int) == 0) = false by simp; omega]; rfl
    have hne : (x == 0) = false := by rw [pcB_true] at h1; simp; omega
    have h93 : pcA 93 = 0 := by decide +kernel
    have hb : (b.toNat : Int) ≠ 93 := fun e => by rw [e, h93] at e2; rw [← e2] at hne; cases hne
    rw [poS, ht, hn, e2, hne, show (kndZ x == 6) = false by simpa using h2, show ((b.toNat : Int) != 93) = true by simpa using hb]
    have ih := poS_list hL l k (inP q x) (i + 1) (fun y hy => hx y (List.mem_cons_of_mem _ hy)) (by simpa using hk) (from_tail hf)
    simp only [Bool.not_false, Bool.and_true, Bool.or_false, cond_true, cond_false, ih, List.foldl_cons, List.length_append, List.length_singleton, Nat.add_assoc]
end Go.Proofs.YtjbfjohgfbipgaaGreatDoor
/-
  There and back (layer 10): what the pockets that are read come to.
-/
namespace Go.Proofs.YtjbfjohgfbipgaaGreatDoor
set_option linter.unusedVariables false

theorem leQ_app : ∀ (l m : List Int), leQ (l ++ m) = leQ l ++ leQ m
  | [], m => rfl
  | x :: l, m => by rw [List.cons_append, leQ, leQ, leQ_app l m, List.append_assoc]
theorem leQ_rep (c k : Nat) : ∀ n, leQ (List.replicate n (mkZ (c : Int) (k : Int))) = pkN c k n
  | 0 => rfl
  | n + 1 => by rw [List.replicate_succ', leQ_app, leQ_rep c k n, pkN, leQ, leQ, List.append_nil]
def pcM (c k : Nat) : Nat := 66 + (c * 6 + k)
/-- A pocket's pieces: for each color and kind as many as there are. -/
def pkQ (p : Nat → Int) : List (Nat × Nat) → List Int
  | [] => []
  | (c, k) :: r => List.replicate (p (66 + c * 6 + k)).toNat (mkZ (c : Int) (k : Int)) ++ pkQ p r
def alQ : List (Nat × Nat) := [(0, 0), (0, 1), (0, 2), (0, 3), (0, 4), (0, 5), (1, 0), (1, 1), (1, 2), (1, 3), (1, 4), (1, 5)]
theorem pkQ_cons (p : Nat → Int) (c k : Nat) (r : List (Nat × Nat)) : leQ (pkQ p ((c, k) :: r)) = pkN c k (p (66 + c * 6 + k)).toNat ++ leQ (pkQ p r) := by
  rw [pkQ, leQ_app, leQ_rep]
theorem pkQ_all (p : Nat → Int) : leQ (pkQ p alQ) = pkC p 2 := by
  simp only [alQ, pkQ_cons, pkC, pkK, List.nil_append, List.append_assoc, show leQ (pkQ p []) = [] from rfl, List.append_nil]
theorem mkQ_at : ∀ c : Nat, c < 2 → ∀ k : Nat, k < 6 → 0 < k → pcB (mkZ (c : Int) (k : Int)) = true ∧ kndZ (mkZ (c : Int) (k : Int)) = (k : Int) ∧ colZ (mkZ (c : Int) (k : Int)) = (c : Int) := by decide
theorem in_rep {x : Int} {m : Nat} (hm : 66 + ((colZ x).toNat * 6 + (kndZ x).toNat) = m) : ∀ (n : Nat) (q : Nat → Int), 0 ≤ q m → q m + n ≤ 255 → ∀ j, (List.replicate n x).foldl inP q j = if j = m then q m + n else q j
  | 0, q, _, _, j => by
    show q j = _
    by_cases h : j = m
    · subst h; rw [if_pos rfl]; simp
    · rw [if_neg h]
  | n + 1, q, h0, h1, j => by
    have e : inP q x = upd q m (q m + 1) := by unfold inP; rw [hm, Int.emod_eq_of_lt (by omega) (by omega)]
    rw [List.replicate_succ, List.foldl_cons, e, in_rep hm n _ (by rw [upd_same]; omega) (by rw [upd_same]; omega) j, upd_same]
    by_cases h : j = m
    · rw [if_pos h, if_pos h]; omega
    · rw [if_neg h, if_neg h, upd_other _ _ _ _ h]
theorem pk_fold {p : Nat → Int} : ∀ (r : List (Nat × Nat)) (q : Nat → Int), (∀ x ∈ r, x.1 < 2 ∧ x.2 < 6 ∧ 0 ≤ p (66 + x.1 * 6 + x.2) ∧ p (66 + x.1 * 6 + x.2) ≤ 255 ∧ (x.2 = 0 → p (66 + x.1 * 6 + x.2) = 0)) → (r.map fun x => 66 + x.1 * 6 + x.2).Nodup → (∀ x ∈ r, q (66 + x.1 * 6 + x.2) = 0) → ∀ j, (pkQ p r).foldl inP q j = if j ∈ r.map (fun x => 66 + x.1 * 6 + x.2) then p j else q j
  | [], q, _, _, _, j => by simp [pkQ]
  | (c, k) :: r, q, hr, hn, hq, j => by
    obtain ⟨hc, hk, h0, h1, hz⟩ := hr (c, k) (List.mem_cons_self ..)
    have hq0 : q (66 + c * 6 + k) = 0 := hq (c, k) (List.mem_cons_self ..)
    dsimp only at hc hk h0 h1 hz
    rw [List.map_cons, List.nodup_cons] at hn
    rw [pkQ, List.foldl_append]
    have e : ∀ j, (List.replicate (p (66 + c * 6 + k)).toNat (mkZ (c : Int) (k : Int))).foldl inP q j = if j = 66 + c * 6 + k then p (66 + c * 6 + k) else q j := fun j => by
      by_cases hk0 : k = 0
      · rw [hz hk0]
        show q j = _
        by_cases g : j = 66 + c * 6 + k
        · rw [if_pos g, g]; exact hq0
        · rw [if_neg g]
      · obtain ⟨a1, a2, a3⟩ := mkQ_at c hc k hk (by omega)
        have := in_rep (x := mkZ (c : Int) (k : Int)) (m := 66 + c * 6 + k) (by rw [a2, a3]; omega) (p (66 + c * 6 + k)).toNat q (by omega) (by omega) j
        rw [this]
        by_cases g : j = 66 + c * 6 + k
        · rw [if_pos g, if_pos g]; omega
        · rw [if_neg g, if_neg g]
    have ih := pk_fold r ((List.replicate (p (66 + c * 6 + k)).toNat (mkZ (c : Int) (k : Int))).foldl inP q) (fun x hx => hr x (List.mem_cons_of_mem _ hx)) hn.2 (fun x hx => by
      rw [e, if_neg (fun g => hn.1 (by rw [← g]; exact List.mem_map_of_mem hx))]
      exact hq x (List.mem_cons_of_mem _ hx)) j
    rw [ih, e, List.map_cons]
    by_cases g : j = 66 + c * 6 + k
    · rw [if_pos (show j ∈ (66 + c * 6 + k) :: _ from g ▸ List.mem_cons_self ..), if_pos g]
      by_cases h : j ∈ r.map (fun x => 66 + x.1 * 6 + x.2)
      · rw [if_pos h]
      · rw [if_neg h, g]
    · rw [if_neg g]
      by_cases h : j ∈ r.map (fun x => 66 + x.1 * 6 + x.2)
      · rw [if_pos h, if_pos (List.mem_cons_of_mem _ h)]
      · rw [if_neg h, if_neg (fun h' => (List.mem_cons.1 h').elim g h)]
end Go.Proofs.YtjbfjohgfbipgaaGreatDoor
