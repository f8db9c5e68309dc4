/-
  Names of variants: the number of a name, told as the program does and as the law does; contracts of ByName and of the document's Name.
-/
import Derived.Test.YtkeoadcckbcccaaDoorRu
namespace Go.Proofs.YtkeoadcckbcccaaDoor
open Go.RowKit
set_option linter.unusedVariables false

/-- The first of the first k variants that has this name. -/
def byK (s : ByteArray) : Nat → Option Nat
  | 0 => none
  | k + 1 => match byK s k with
    | some j => some j
    | none => if nmZ k = s then some k else none
/-- The last one. -/
def lastK (s : ByteArray) : Nat → Option Nat
  | 0 => none
  | k + 1 => if nmZ k = s then some k else lastK s k
theorem last_no {s : ByteArray} {k : Nat} (h : nmZ k ≠ s) : lastK s (k + 1) = lastK s k := if_neg h
theorem last_yes {s : ByteArray} {k : Nat} (h : nmZ k = s) : lastK s (k + 1) = some k := if_pos h
def oN (o : Option Nat) : Int := (o.getD 0 : Nat)
def oB (o : Option Nat) : Bool := o.isSome
theorem byK_miss {s : ByteArray} : ∀ {k : Nat}, (∀ j, j < k → nmZ j ≠ s) → byK s k = none
  | 0, _ => rfl
  | k + 1, h => by
    unfold byK
    rw [byK_miss fun j hj => h j (by omega)]
    simp only
    rw [if_neg (h k (by omega))]
theorem byK_more {s : ByteArray} {k j : Nat} (h : byK s k = some j) : ∀ d, byK s (k + d) = some j
  | 0 => h
  | d + 1 => by
    show byK s (k + d + 1) = _
    unfold byK
    rw [byK_more h d]
theorem byK_hit {s : ByteArray} {k : Nat} (hk : k < 9) (hm : ∀ j, j < k → nmZ j ≠ s) (h : nmZ k = s) : byK s 9 = some k := by
  have h1 : byK s (k + 1) = some k := by
    unfold byK
    rw [byK_miss hm]
    simp only
    rw [if_pos h]
  have := byK_more h1 (9 - (k + 1))
  rwa [show k + 1 + (9 - (k + 1)) = 9 by omega] at this
theorem byK_is {s : ByteArray} : ∀ {k j : Nat}, byK s k = some j → j < k ∧ nmZ j = s
  | 0, j, h => by cases h
  | k + 1, j, h => by
    unfold byK at h
    cases hb : byK s k with
    | some i =>
      rw [hb] at h
      simp only [Option.some.injEq] at h
      subst h
      have := byK_is hb
      exact ⟨by omega, this.2⟩
    | none =>
      rw [hb] at h
      simp only at h
      by_cases e : nmZ k = s
      · rw [if_pos e] at h
        simp only [Option.some.injEq] at h
        subst h
        exact ⟨by omega, e⟩
      · rw [if_neg e] at h; cases h
theorem nm_inj {i j : Nat} (hi : i < 9) (hj : j < 9) (h : nmZ i = nmZ j) : i = j := by
  have key : ∀ i j : Fin 9, nmL i.val = nmL j.val → i.val = j.val := by decide +kernel
  refine key ⟨i, hi⟩ ⟨j, hj⟩ ?_
  have := congrArg (fun s : ByteArray => s.data.toList) h
  simpa [nmZ] using this
theorem nm_none {v : Nat} (h : 9 ≤ v) : nmZ v = ⟨#[]⟩ := by
  match v, h with
  | n + 9, _ => rfl
theorem nm_some {v : Nat} (h : v < 9) : nmZ v ≠ ⟨#[]⟩ := by
  have key : ∀ i : Fin 9, nmL i.val ≠ [] := by decide +kernel
  intro e
  have := congrArg (fun s : ByteArray => s.data.toList) e
  exact key ⟨v, h⟩ (by simpa [nmZ] using this)
theorem last_eq {s : ByteArray} : ∀ k, k ≤ 9 → lastK s k = byK s k
  | 0, _ => rfl
  | k + 1, hk => by
    unfold lastK byK
    rw [last_eq k (by omega)]
    cases hb : byK s k with
    | some j =>
      have := byK_is hb
      by_cases e : nmZ k = s
      · exact absurd (nm_inj (by omega) (by omega) (this.2.trans e.symm)) (by omega)
      · rw [if_neg e]
    | none => rfl
theorem by_name {v : Nat} (h : v < 9) : byK (nmZ v) 9 = some v := byK_hit h (fun j hj e => absurd (nm_inj (by omega) h e) (by omega)) rfl
theorem by_none : byK ⟨#[]⟩ 9 = none := byK_miss fun j hj => nm_some hj
def PairL (n : Int) (b : Bool) (w : World) (e : Ending) (w' : World) : Prop := e = .returned (.tuple #[.int .u8 n, .bool b]) ∧ Below w.heap.size w w'
set_option maxHeartbeats 1000000 in
theorem byname_any (s : ByteArray) (w : World) (hT : TabVar w) : Calls Tryd.prog 10 #[.string s] w (PairL (oN (byK s 9)) (oB (byK s 9)) w) := by
  have HT := Lib.hid hT
  clear hT
  go_enter Tryd.func10, Tryd.ntmps10
  go_wp2
  go_step3
  go_wp2
  go_step3
  go_wp2
  go_loopw [4, 5, 7] (fun f o v wr => ∃ k : Nat, k ≤ 9 ∧ f = .int .u8 0 ∧ o = .bool false ∧ v = .int .u8 (k : Int) ∧ (∀ j, j < k → nmZ j ≠ s) ∧ Below w.heap.size w wr) (fun _ _ v _ => 9 - (intOf v).toNat)
  case atStart => exact ⟨0, by omega, rfl, rfl, rfl, fun j h => by omega, Below.refl _ _⟩
  case round =>
    obtain ⟨k, hk, rfl, rfl, rfl, hm, hb⟩ := hrel
    have HM := Lib.hid hm
    have HB := Lib.hid hb
    clear hm hb
    by_cases hlt : k < 9
    · cases he : ((nmZ k).toList == s.toList)
      · go_wp2_with (go_at_call 11; refine (name_any k _ (by omega) (HT.out.on HB.out)).mono ?_; rintro e w2 ⟨rfl, hb2⟩; have HB2 := Lib.hid (below_on HB.out hb2); clear hb2)
        go_roundw
        case rel =>
          refine ⟨k + 1, by omega, rfl, rfl, by go_num, fun j hj => ?_, HB2.out⟩
          by_cases e : j = k
          · subst e; exact str_ne.1 he
          · exact HM.out j (by omega)
        case measure => simp [intOf]; omega
      · have HE := Lib.hid (byK_hit hlt HM.out (str_eq.1 he))
        go_wp2_with (go_at_call 11; refine (name_any k _ (by omega) (HT.out.on HB.out)).mono ?_; rintro e w2 ⟨rfl, hb2⟩; have HB2 := Lib.hid (below_on HB.out hb2); clear hb2)
        go_ret2
        exact ⟨by rw [HE.out]; rfl, HB2.out⟩
    · obtain rfl : k = 9 := by omega
      have HE := Lib.hid (byK_miss HM.out)
      go_wp2
      go_ret2
      exact ⟨by rw [HE.out]; rfl, HB.out⟩
theorem nm_cell (v : Nat) (h : v < 9) : #[Value.string (nmZ 0), .string (nmZ 1), .string (nmZ 2), .string (nmZ 3), .string (nmZ 4), .string (nmZ 5), .string (nmZ 6), .string (nmZ 7), .string (nmZ 8)][v]? = some (.string (nmZ v)) := by
  match v, h with
  | 0, _ => rfl
  | 1, _ => rfl
  | 2, _ => rfl
  | 3, _ => rfl
  | 4, _ => rfl
  | 5, _ => rfl
  | 6, _ => rfl
  | 7, _ => rfl
  | 8, _ => rfl
theorem rname_any (v : Nat) (w : World) (hv : v ≤ 255) : Calls Tryd.prog 9 #[.int .u8 (v : Int)] w (StL (nmZ v) w) := by
  by_cases h9 : 9 ≤ v
  · have HE := Lib.hid (nm_none h9)
    have g0 : decide ((9 : Int) ≤ (v : Int)) = true := decide_eq_true (by omega)
    clear h9
    go_enter Tryd.func9, Tryd.ntmps9
    go_wp2_with fail
    go_ret
    exact ⟨by rw [HE.out]; rfl, (Below.refl _ _).alloc (Nat.le_refl _) _⟩
  · have h9' : v < 9 := by omega
    have HN := Lib.hid (nm_cell v h9')
    have g0 : decide ((9 : Int) ≤ (v : Int)) = false := decide_eq_false (by omega)
    have g1 : (v : Int) < 9 := by omega
    clear h9 h9'
    go_enter Tryd.func9, Tryd.ntmps9
    go_wp2_with (refine step_get rfl 9 _ rfl w.heap.size v rfl Tryd.underlying9 rfl (.string (nmZ v)) (by rw [World.cell?_alloc_new]; exact HN.out) ?_)
    go_ret
    exact ⟨rfl, (Below.refl _ _).alloc (Nat.le_refl _) _⟩
end Go.Proofs.YtkeoadcckbcccaaDoor
