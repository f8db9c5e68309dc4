/-
  Two positions that are the same compare as such.
-/
import Derived.Test.YtdjnniohoicppaaDoorAtBase
import Derived.DeepKeys
namespace Go.Proofs.YtdjnniohoicppaaDoor
open Go.RowKit
set_option linter.unusedVariables false
def WfP (p : Nat → Int) : Prop := ∀ i, i < 88 → (Lit.int (kAt i) (p i)).wf = true
theorem mapM_some {α β : Type} (f : α → Option β) : ∀ l : List α, (∀ x ∈ l, (f x).isSome = true) → (l.mapM f).isSome = true
  | [], _ => by simp
  | a :: l, h => by
    obtain ⟨x, hx⟩ := Option.isSome_iff_exists.1 (h a (by simp))
    obtain ⟨y, hy⟩ := Option.isSome_iff_exists.1 (mapM_some f l fun z hz => h z (by simp [hz]))
    rw [List.mapM_cons]
    simp [hx, hy]
theorem partL_sub (p : Nat → Int) (o n k m : Nat) (h : k + m ≤ n) : ((partL p o n).drop k).take m = partL p (o + k) m := by
  apply List.ext_getElem?
  intro i
  by_cases hi : i < m
  · rw [List.getElem?_take_of_lt hi, List.getElem?_drop]
    have e1 : (partL p o n)[k + i]? = some (.int (kAt (o + (k + i))) (p (o + (k + i)))) := by simp [partL, show k + i < n by omega]
    have e2 : (partL p (o + k) m)[i]? = some (.int (kAt (o + k + i)) (p (o + k + i))) := by simp [partL, hi]
    rw [e1, e2, Nat.add_assoc]
  · rw [List.getElem?_eq_none (by rw [List.length_take]; omega), List.getElem?_eq_none (by rw [partL_len]; omega)]
/-- The part of type t from place o on has its letters. -/
def Good (p : Nat → Int) (d : Nat) (t : TypeId) (o : Nat) : Prop := (Tryd.prog.keyLits d t (partL p o (Tryd.prog.cellsOf t))).isSome = true
theorem good_int {p : Nat → Int} {d : Nat} {t : TypeId} {o : Nat} {k : IntKind} (hu : Tryd.prog.underlying t = some (.int k)) (hc : Tryd.prog.cellsOf t = 1) (hk : kAt o = k) (hw : (Lit.int (kAt o) (p o)).wf = true) : Good p (d + 1) t o := by
  unfold Good Program.keyLits
  have e : partL p o 1 = [.int (kAt o) (p o)] := rfl
  rw [hu, hc, e]
  subst hk
  simp [hw]
theorem good_array {p : Nat → Int} {d : Nat} {t e : TypeId} {o n : Nat} (hu : Tryd.prog.underlying t = some (.array n e)) (hc : Tryd.prog.cellsOf t = n * Tryd.prog.cellsOf e) (h : ∀ i, i < n → Good p d e (o + i * Tryd.prog.cellsOf e)) : Good p (d + 1) t o := by
  unfold Good Program.keyLits
  rw [hu]
  simp only [partL_len, if_true, Option.isSome_map]
  refine mapM_some _ _ fun i hi => ?_
  have hi' : i < n := by simpa using hi
  rw [partL_sub]
  · exact h i hi'
  · rw [hc, ← Nat.succ_mul]; exact Nat.mul_le_mul_right _ hi'
theorem good_struct {p : Nat → Int} {d : Nat} {t : TypeId} {fs : Array Field} {o : Nat} (hu : Tryd.prog.underlying t = some (.struct fs)) (hn : fs.all (·.name != "_") = true)
    (h : ∀ f ∈ fs.toList, f.offset + Tryd.prog.cellsOf f.type ≤ Tryd.prog.cellsOf t ∧ Good p d f.type (o + f.offset)) : Good p (d + 1) t o := by
  unfold Good Program.keyLits
  rw [hu]
  simp only [partL_len, hn, and_self, if_true, Option.isSome_map]
  refine mapM_some _ _ fun f hf => ?_
  obtain ⟨h1, h2⟩ := h f hf
  rw [partL_sub _ _ _ _ _ h1]
  exact h2
theorem good31 {p : Nat → Int} (hp : WfP p) : Good p 4 31 0 := by
  have u8 : ∀ d o, o < 88 → kAt o = .u8 → Good p (d + 1) 5 o := fun d o h k => good_int Tryd.underlying5 (by kernel_rfl) k (hp o h)
  have i8 : ∀ d o, o < 88 → kAt o = .i8 → Good p (d + 1) 26 o := fun d o h k => good_int Tryd.underlying26 (by kernel_rfl) k (hp o h)
  have c5 : Tryd.prog.cellsOf 5 = 1 := by kernel_rfl
  have c26 : Tryd.prog.cellsOf 26 = 1 := by kernel_rfl
  have c24 : Tryd.prog.cellsOf 24 = 6 := by kernel_rfl
  have c27 : Tryd.prog.cellsOf 27 = 2 := by kernel_rfl
  have ku : ∀ o, o < 88 → (o < 65 ∨ 66 ≤ o ∧ o < 79 ∨ o = 84 ∨ o = 85) → kAt o = .u8 := fun o h k => by unfold kAt; rw [if_neg (by omega), if_neg (by omega), if_neg (by omega)]
  have ki : ∀ o, 79 ≤ o → o ≤ 83 → kAt o = .i8 := fun o h k => by unfold kAt; rw [if_neg (by omega), if_pos ⟨h, k⟩]
  refine good_struct Tryd.underlying31 (by kernel_rfl) ?_
  intro f hf
  simp only [List.mem_cons, List.not_mem_nil, or_false] at hf
  rcases hf with rfl | rfl | rfl | rfl | rfl | rfl | rfl | rfl | rfl | rfl
  · exact ⟨by decide +kernel, u8 _ _ (by decide) rfl⟩
  · exact ⟨by decide +kernel, good_array Tryd.underlying22 (by kernel_rfl) fun i hi => by rw [c5]; exact u8 _ _ (by simp; omega) (ku _ (by simp; omega) (by simp; omega))⟩
  · exact ⟨by decide +kernel, good_int Tryd.underlying23 (by kernel_rfl) rfl (hp 65 (by decide))⟩
  · exact ⟨by decide +kernel, good_array Tryd.underlying25 (by kernel_rfl) fun i hi => good_array Tryd.underlying24 (by kernel_rfl) fun j hj => by rw [c24, c5]; exact u8 _ _ (by simp; omega) (ku _ (by simp; omega) (by simp; omega))⟩
  · exact ⟨by decide +kernel, u8 _ _ (by decide) rfl⟩
  · exact ⟨by decide +kernel, good_array Tryd.underlying28 (by kernel_rfl) fun i hi => good_array Tryd.underlying27 (by kernel_rfl) fun j hj => by rw [c27, c26]; exact i8 _ _ (by simp; omega) (ki _ (by simp; omega) (by simp; omega))⟩
  · exact ⟨by decide +kernel, i8 _ _ (by decide) rfl⟩
  · exact ⟨by decide +kernel, good_array Tryd.underlying29 (by kernel_rfl) fun i hi => by rw [c5]; exact u8 _ _ (by simp; omega) (ku _ (by simp; omega) (by simp; omega))⟩
  · exact ⟨by decide +kernel, good_int Tryd.underlying3 (by kernel_rfl) rfl (hp 86 (by decide))⟩
  · exact ⟨by decide +kernel, good_int Tryd.underlying3 (by kernel_rfl) rfl (hp 87 (by decide))⟩
theorem key31 : Tryd.prog.keyTypeAt 5 31 = true := by kernel_rfl
theorem formed31 (p : Nat → Int) : (Value.agg (posA p)).formed Tryd.prog 31 = true := by kernel_rfl
theorem equal_same {p : Nat → Int} (hp : WfP p) (w : World) : (Op.equalIn 10000 31 (.agg (posA p)) (.agg (posA p))).run Tryd.prog w = .ok true w := by
  have hg := good31 hp
  unfold Good at hg
  rw [show Tryd.prog.cellsOf 31 = 88 by kernel_rfl, partL_all] at hg
  obtain ⟨la, hl⟩ := Option.isSome_iff_exists.1 hg
  obtain ⟨r, hr, hi⟩ := run_equalIn_deep 9995 5 31 key31 w 4 4 (.agg (posA p)) (.agg (posA p)) la la (formed31 p) (formed31 p) hl hl
  rw [hi.2 rfl] at hr
  exact hr
theorem WfP.zero : WfP zeroP := fun i hi => by
  unfold kAt zeroP
  split
  · rfl
  · split
    · rfl
    · split <;> rfl
end Go.Proofs.YtdjnniohoicppaaDoor
