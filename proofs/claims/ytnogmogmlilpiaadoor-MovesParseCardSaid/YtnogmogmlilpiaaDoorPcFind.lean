/-
  Contract of the document's own find (layer 5).
-/
import Derived.Test.YtnogmogmlilpiaaDoorPcRef
namespace Go.Proofs.YtnogmogmlilpiaaDoor
open Go.RowKit

theorem pc_cell {B : Nat} {W w1 : World} (hb : Below B W w1) : (∀ b o, b < B → w1.cell? ⟨b, o, none⟩ = W.cell? ⟨b, o, none⟩) ∧ (∀ b o, b < B → w1.frozen? ⟨b, o, none⟩ = W.frozen? ⟨b, o, none⟩) :=
  ⟨fun b o h => hb.cell (p := ⟨b, o, none⟩) h, fun b o h => hb.frozen (p := ⟨b, o, none⟩) h⟩
/-- A piece's entry. -/
def entV (p : Int) : Value := .agg #[.int .u8 (bif pcB p then p else 0), .int .u8 (colZ p), .int .u8 (kndZ p), .string (letZ p)]
theorem ent_hit {k : Nat} {p : Int} (hk : k < 12) (h : (atP k == p) = true) : Ending.returned (.tuple #[.agg #[.int .u8 (atP k), .int .u8 (colZ (atP k)), .int .u8 (kndZ (atP k)), .string (letZ (atP k))], .bool true]) = .returned (.tuple #[entV p, .bool (pcB p)]) := by
  rw [beq_iff_eq] at h
  subst h
  rw [entV, atP_pc hk]; rfl
theorem ent_miss {p : Int} (h : ∀ j : Nat, j < 12 → (atP j == p) = false) : Ending.returned (.tuple #[.agg #[.int .u8 0, .int .u8 2, .int .u8 0, .string ⟨#[]⟩], .bool false]) = .returned (.tuple #[entV p, .bool (pcB p)]) := by
  have e : pcB p = false := by
    cases e : pcB p
    · rfl
    · obtain ⟨k, hk, rfl⟩ := pc_at e
      have := h k hk
      simp at this
  rw [entV, colZ_no e, kndZ_no e, letZ_no e, e]; rfl
def FindPost (p : Int) (w : World) (e : Ending) (w' : World) : Prop := e = .returned (.tuple #[entV p, .bool (pcB p)]) ∧ Below w.heap.size w w'
set_option maxHeartbeats 1000000 in
theorem find_any (p : Int) (w : World) : Calls Tryd.prog 36 #[.int .u8 p] w (FindPost p w) := by
  go_enter Tryd.func36, Tryd.ntmps36
  go_wp2_with fail
  refine (all_at (w.heap.size + 1) _ (by simp)).mono ?_; rintro e w1 ⟨rfl, hT, hb⟩
  have hsz := hb.size
  have hfr := (pc_cell hb).2 w.heap.size
  have hcl := (pc_cell hb).1 w.heap.size
  have HF := Lib.hid hfr
  have HC := Lib.hid hcl
  have HT := Lib.hid hT
  have HL := Lib.hid (show Below w.heap.size w w1 from ((Below.refl w.heap.size w).alloc (Nat.le_refl _) _).trans (hb.mono (by omega)))
  clear hT hb hfr hcl hsz
  go_wp2
  go_loop [5] (fun i => ∃ k : Nat, k ≤ 12 ∧ i = .int .i64 (k : Int) ∧ ∀ j : Nat, j < k → (atP j == p) = false) (fun i => 12 - (intOf i).toNat)
  case atStart => exact ⟨0, by omega, rfl, fun j h => by omega⟩
  case round =>
    obtain ⟨k, hk, rfl, hm⟩ := hrel
    have HM := Lib.hid hm
    clear hm
    by_cases hlt : k < 12
    · obtain ⟨c0, c1, c2, c3⟩ := HT.out k hlt
      cases he : (atP k == p)
      · go_wp2
        go_round
        case rel => 
          refine ⟨k + 1, by omega, by go_num, fun j hj => ?_⟩
          by_cases e : j = k
          · subst e; exact he
          · exact HM.out j (by omega)
        case measure => simp [intOf]; omega
      · have HE := Lib.hid (ent_hit hlt he)
        have hfr := HF.out
        have hcl := HC.out
        go_wp2
        refine bodyPost_ret (v := .tuple #[.agg #[.int .u8 (atP k), .int .u8 (colZ (atP k)), .int .u8 (kndZ (atP k)), .string (letZ (atP k))], .bool true]) (by simp [results, Tryd.results36, go_sem, hcl]) rfl ⟨?_, ?_⟩
        · exact HE.out
        · exact HL.out.setCell (Nat.le_refl _) _ |>.setCell (Nat.le_refl _) _ |>.setCell (Nat.le_refl _) _ |>.setCell (Nat.le_refl _) _
    · obtain rfl : k = 12 := by omega
      have HE := Lib.hid (ent_miss HM.out)
      have hfr := HF.out
      have hcl := HC.out
      go_wp2
      refine bodyPost_ret (v := .tuple #[.agg #[.int .u8 0, .int .u8 2, .int .u8 0, .string ⟨#[]⟩], .bool false]) (by simp [results, Tryd.results36, go_sem, hcl]) rfl ⟨?_, ?_⟩
      · exact HE.out
      · exact HL.out.setCell (Nat.le_refl _) _ |>.setCell (Nat.le_refl _) _ |>.setCell (Nat.le_refl _) _ |>.setCell (Nat.le_refl _) _
end Go.Proofs.YtnogmogmlilpiaaDoor
