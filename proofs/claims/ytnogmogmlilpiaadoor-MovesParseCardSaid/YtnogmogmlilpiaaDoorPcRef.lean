/-
  Contracts of the document's own layer 5, first part: all, find.
-/
import Derived.Test.YtnogmogmlilpiaaDoorPcText
namespace Go.Proofs.YtnogmogmlilpiaaDoor
open Go.RowKit

/-- The cells of the table of all twelve. -/
def twCells : Array Value := #[.int .u8 1, .int .u8 0, .int .u8 1, .string ⟨#[80]⟩, .int .u8 2, .int .u8 0, .int .u8 2, .string ⟨#[78]⟩, .int .u8 3, .int .u8 0, .int .u8 3, .string ⟨#[66]⟩, .int .u8 4, .int .u8 0, .int .u8 4, .string ⟨#[82]⟩, .int .u8 5, .int .u8 0, .int .u8 5, .string ⟨#[81]⟩, .int .u8 6, .int .u8 0, .int .u8 6, .string ⟨#[75]⟩, .int .u8 9, .int .u8 1, .int .u8 1, .string ⟨#[112]⟩, .int .u8 10, .int .u8 1, .int .u8 2, .string ⟨#[110]⟩, .int .u8 11, .int .u8 1, .int .u8 3, .string ⟨#[98]⟩, .int .u8 12, .int .u8 1, .int .u8 4, .string ⟨#[114]⟩, .int .u8 13, .int .u8 1, .int .u8 5, .string ⟨#[113]⟩, .int .u8 14, .int .u8 1, .int .u8 6, .string ⟨#[107]⟩]
theorem tw_at (k : Nat) (h : k < 12) : twCells[k * 4]? = some (.int .u8 (atP k)) ∧ twCells[k * 4 + 1]? = some (.int .u8 (colZ (atP k))) ∧ twCells[k * 4 + 2]? = some (.int .u8 (kndZ (atP k))) ∧ twCells[k * 4 + 3]? = some (.string (letZ (atP k))) := by
  match k, h with
  | 0, _ => exact ⟨by kernel_rfl, by kernel_rfl, by kernel_rfl, by kernel_rfl⟩
  | 1, _ => exact ⟨by kernel_rfl, by kernel_rfl, by kernel_rfl, by kernel_rfl⟩
  | 2, _ => exact ⟨by kernel_rfl, by kernel_rfl, by kernel_rfl, by kernel_rfl⟩
  | 3, _ => exact ⟨by kernel_rfl, by kernel_rfl, by kernel_rfl, by kernel_rfl⟩
  | 4, _ => exact ⟨by kernel_rfl, by kernel_rfl, by kernel_rfl, by kernel_rfl⟩
  | 5, _ => exact ⟨by kernel_rfl, by kernel_rfl, by kernel_rfl, by kernel_rfl⟩
  | 6, _ => exact ⟨by kernel_rfl, by kernel_rfl, by kernel_rfl, by kernel_rfl⟩
  | 7, _ => exact ⟨by kernel_rfl, by kernel_rfl, by kernel_rfl, by kernel_rfl⟩
  | 8, _ => exact ⟨by kernel_rfl, by kernel_rfl, by kernel_rfl, by kernel_rfl⟩
  | 9, _ => exact ⟨by kernel_rfl, by kernel_rfl, by kernel_rfl, by kernel_rfl⟩
  | 10, _ => exact ⟨by kernel_rfl, by kernel_rfl, by kernel_rfl, by kernel_rfl⟩
  | 11, _ => exact ⟨by kernel_rfl, by kernel_rfl, by kernel_rfl, by kernel_rfl⟩
/-- The four cells of the piece at a place of the table. -/
def Twelve (g : Nat) (w : World) : Prop := ∀ k : Nat, k < 12 → w.cell? ⟨g, k * 4, none⟩ = some (.int .u8 (atP k)) ∧ w.cell? ⟨g, k * 4 + 1, none⟩ = some (.int .u8 (colZ (atP k))) ∧ w.cell? ⟨g, k * 4 + 2, none⟩ = some (.int .u8 (kndZ (atP k))) ∧ w.cell? ⟨g, k * 4 + 3, none⟩ = some (.string (letZ (atP k)))
theorem twelve_new (w : World) (t : TypeId) : Twelve w.heap.size (w.alloc (.cells twCells t)) := fun k h => by
  obtain ⟨h0, h1, h2, h3⟩ := tw_at k h
  refine ⟨?_, ?_, ?_, ?_⟩ <;> rw [World.cell?_alloc_new] <;> simp only [*]
def AllPost (w : World) (e : Ending) (w' : World) : Prop := e = .returned (.slice (some ⟨w.heap.size, 0, none⟩) 12 12) ∧ Twelve w.heap.size w' ∧ Below w.heap.size w w'
set_option maxHeartbeats 1000000 in
theorem all_any (w : World) : Calls Tryd.prog 35 #[] w (AllPost w) := by
  go_enter Tryd.func35, Tryd.ntmps35
  go_wp2
  go_ret
  exact ⟨rfl, twelve_new w _, (Below.refl _ _).alloc (Nat.le_refl _) _⟩
theorem all_at (g : Nat) (w : World) (hg : w.heap.size = g) : Calls Tryd.prog 35 #[] w fun e w' => e = .returned (.slice (some ⟨g, 0, none⟩) 12 12) ∧ Twelve g w' ∧ Below g w w' := by
  subst hg; exact all_any w
end Go.Proofs.YtnogmogmlilpiaaDoor
