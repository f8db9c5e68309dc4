/-
  Contracts of the document's own layer 3, third part: Walk, Of, Ray.
-/
import Derived.Test.YtomhacepoeecjaaDoorRayWalk
import Derived.Test.YtomhacepoeecjaaDoorShiftRef
namespace Go.Proofs.YtomhacepoeecjaaDoor
open Go.RowKit

theorem listed_later {B : Nat} {l : List Nat} {v : Value} {w w' : World} (h : Listed B l v w) (hb : Below w.heap.size w w') : Listed B l v w' := by
  refine ⟨h.1, ?_⟩
  rcases h.2 with h0 | ⟨g, cap, cur, h1, h2, h3, h4⟩
  · exact .inl h0
  · exact .inr ⟨g, cap, cur, h1, h2, (hb.block g (Array.getElem?_eq_some_iff.1 h3).1).trans h3, h4⟩
theorem listed_cap {B : Nat} {l : List Nat} {v : Value} {w : World} (h : Listed B l v w) : ∃ p cap, v = .slice p l.length cap ∧ l.length ≤ cap ∧ Cells B l p w := by
  obtain ⟨p, cap, rfl, hp⟩ := listed_open h
  refine ⟨p, cap, rfl, ?_, hp⟩
  rcases h.2 with ⟨h0, h1⟩ | ⟨g, cap', cur, h1, h2, h3, h4, _⟩
  · injection h0 with _ _ h3; omega
  · injection h1 with _ _ h5; omega
/-- The first squares of a walk. -/
def walkTo (s d : Int) : Nat → List Nat
  | 0 => []
  | k + 1 => walkTo s d k ++ [(goN s d (k + 1)).toNat]
theorem walkTo_len (s d : Int) : ∀ k, (walkTo s d k).length = k
  | 0 => rfl
  | k + 1 => by rw [walkTo, List.length_append, walkTo_len s d k]; rfl
theorem walkTo_at (s d : Int) : ∀ k j, j < k → (walkTo s d k)[j]? = some (goN s d (j + 1)).toNat
  | 0, _, h => by omega
  | k + 1, j, h => by
    rw [walkTo]
    by_cases e : j = k
    · subst e; rw [List.getElem?_append_right (by rw [walkTo_len]; omega), walkTo_len]; simp
    · rw [List.getElem?_append_left (by rw [walkTo_len]; omega)]; exact walkTo_at s d k j (by omega)
theorem walkTo_take (s d : Int) : ∀ k i, i ≤ k → (walkTo s d k).take i = walkTo s d i
  | 0, i, h => by obtain rfl : i = 0 := by omega
                  rfl
  | k + 1, i, h => by
    by_cases e : i = k + 1
    · subst e; exact List.take_of_length_le (by rw [walkTo_len]; omega)
    · rw [walkTo, List.take_append_of_le_length (by rw [walkTo_len]; omega)]; exact walkTo_take s d k i (by omega)
theorem walk_of (s d : Int) : ∀ k, (∀ j, j < k → sq (goN s d (j + 1)) = true) → ofList ((walkTo s d k).map fun i : Nat => (i : Int)) = passN s d k
  | 0, _ => rfl
  | k + 1, h => by
    rw [walkTo, List.map_append, List.map_cons, List.map_nil, ofList_snoc, walk_of s d k (fun j hj => h j (by omega))]
    have := h k (by omega)
    rw [sq_true] at this
    rw [show (((goN s d (k + 1)).toNat : Nat) : Int) = goN s d (k + 1) by omega]
    rfl
theorem walk_acc (s d : Int) (k i : Nat) (hi : i ≤ k) (h : ∀ j, j < k → sq (goN s d (j + 1)) = true) : accN (fun x => x) (walkTo s d k) i = passN s d i := by
  unfold accN
  rw [walkTo_take s d k i hi]
  exact walk_of s d i (fun j hj => h j (by omega))
theorem step_cases (s d : Int) : stepN s d = -1 ∨ sq (stepN s d) = true := by
  unfold stepN
  split
  · split
    · rename_i h; rw [onB_true] at h; right; rw [sq_true]; omega
    · exact .inl rfl
  · exact .inl rfl

def WalkPost (s d : Int) (w : World) (e : Ending) (w' : World) : Prop :=
  ∃ v k, k ≤ 7 ∧ (∀ j, j < k → sq (goN s d (j + 1)) = true) ∧ sq (goN s d (k + 1)) = false ∧ e = .returned v ∧ Listed w.heap.size (walkTo s d k) v w' ∧ Below w.heap.size w w'
set_option maxHeartbeats 1000000 in
theorem rwalk_any (s d : Int) (w : World) : Calls Tryd.prog 35 #[.int .i64 s, .int .i64 d] w (WalkPost s d w) := by
  obtain ⟨i0, hi, hz0, hz1, hz2⟩ := info_parts infoInt
  go_enter Tryd.func35, Tryd.ntmps35
  go_wp2_with fail
  refine (step_any _ _ _).mono ?_; rintro e w1 ⟨rfl, hb1⟩
  have HB1 := Lib.hid hb1
  clear hb1
  go_wp2
  go_loopw [5, 6] (fun v t wr => ∃ k : Nat, k ≤ 7 ∧ (∀ j, j < k → sq (goN s d (j + 1)) = true) ∧ t = .int .i64 (goN s d (k + 1)) ∧ Listed w.heap.size (walkTo s d k) v wr ∧ Below w.heap.size w wr) (fun _ t _ => farN (onlyN (intOf t)) d)
  case atStart => exact ⟨0, Nat.zero_le _, fun j h => by omega, rfl, World.ownsRow_nil _ _ _ _, HB1.out⟩
  case round =>
    obtain ⟨k, hk, hon, rfl, hL, hbel⟩ := hrel
    have hsz := hbel.size
    have hlen := walkTo_len s d k
    cases hs : sq (goN s d (k + 1))
    · have e1 : goN s d (k + 1) = -1 := by
        rcases step_cases (goN s d k) d with e | e
        · exact e
        · have : sq (goN s d (k + 1)) = true := e
          rw [hs] at this; cases this
      have HS := Lib.hid hs
      have HO := Lib.hid hon
      have HL := Lib.hid hL
      have HBl := Lib.hid hbel
      rw [e1]
      clear hs hon hL hbel e1
      go_wp2
      go_ret
      exact ⟨_, k, hk, HO.out, HS.out, rfl, HL.out, HBl.out⟩
    · have h7 := go_lt hs
      have hfar := Lib.hid (far_less (d := d) hs)
      have hsq := sq_true.1 hs
      have HT := Lib.hid (show goN s d (k + 1) = (((goN s d (k + 1)).toNat : Nat) : Int) by omega)
      have d0 : decide (0 ≤ goN s d (k + 1)) = true := by simpa using hsq.1
      have HS := Lib.hid hs
      have HO := Lib.hid hon
      have HH := Lib.hid hL
      have HBl := Lib.hid hbel
      clear hs hon hL hbel hsq
      go_wp2_with (first | (at_builtin; refine wpList_append_own _ rfl _ _ 31 rfl w.heap.size 3 i0 (.int .i64 0) 1 8 Tryd.underlying31 hi hz0 hz1 hz2 rfl (by decide) _ _ _ rfl (HH.out.alloc _) ⟨_, 0, none⟩ 1 1 [.int .i64 (goN s d (k + 1))] rfl rfl ?c1 ?c2 ?c3 ?c4 ?c5 ?_))
      case c1 => exact cell_one_new _ _ _
      case c2 => simp [Value.oneCell']
      case c3 => unfold maxLen; omega
      case c4 => omega
      case c5 => simp; omega
      intro v' w2 hown' hgrow _
      rw [HT.out] at hown'
      have HG := Lib.hid (listed_grow (v' := v') (k := (goN s d (k + 1)).toNat) HH.out HBl.out hsz (by rw [hlen]; exact hown') hgrow)
      clear hown' hgrow
      go_wp2_with fail
      refine (step_any _ _ _).mono ?_; rintro e w3 ⟨rfl, hb3⟩
      have HB3 := Lib.hid hb3
      clear hb3
      go_wp2
      go_roundw
      case rel =>
        refine ⟨k + 1, by omega, fun j hj => ?_, rfl, listed_later HG.out.1 HB3.out, HG.out.2.trans (HB3.out.mono HG.out.2.size)⟩
        by_cases e : j = k
        · subst e; exact HS.out
        · exact HO.out j (by omega)
      case measure => exact hfar.out

end Go.Proofs.YtomhacepoeecjaaDoor
