/-
  Go's library as layer 10's program calls it: numbers to texts, texts put together, upper case: contracts of the kit's shelf in our words.
-/
import Derived.Test.YtokojkgfekbjdaaGreatDoorShelf
import Derived.Test.YtokojkgfekbjdaaGreatDoorFnBaseA
import Derived.Test.YtokojkgfekbjdaaGreatDoorRuTab
import Derived.WalkSmall
namespace Go.Proofs.YtokojkgfekbjdaaGreatDoor
open Go.RowKit
set_option linter.unusedVariables false

theorem bz_data (l : List UInt8) : (bz l).data.toList = l := by simp [bz]
theorem dec_digit {n : Nat} : [UInt8.ofNat (48 + n % 10)] = [dgZ n] := by
  unfold dgZ byZ
  congr 2
theorem dec_dig : ∀ (f n : Nat), n < 10 ^ (f + 1) → Lib.decDigits n = digF (f + 1) n
  | 0, n, h => by
    rw [Lib.decDigits, dif_pos (by omega), digF_small (by omega), ← dec_digit, Nat.mod_eq_of_lt (by omega)]
  | f + 1, n, h => by
    by_cases hn : n < 10
    · rw [Lib.decDigits, dif_pos hn, digF_small hn, ← dec_digit, Nat.mod_eq_of_lt hn]
    · rw [Lib.decDigits, dif_neg hn, digF_great (by omega), dec_dig f (n / 10) (by rw [Nat.pow_succ] at h; omega), dec_digit]
theorem dec_digL {n : Nat} (h : n < 10 ^ 20) : Lib.decDigits n = digL n := dec_dig 19 n h
def StS (t : ByteArray) (w : World) (e : Ending) (w' : World) : Prop := e = .returned (.string t) ∧ w = w'
theorem itoaS_any (n : Nat) (w : World) (h : n < 100) : Calls Tryz.prog 63 #[.int .i64 (n : Int)] w (StS (bz (digL n)) w) := by
  refine (Any.strconv_Itoa_small Tryz.lays171 n h w).mono ?_
  rintro e w' ⟨rfl, rfl⟩
  exact ⟨by rw [dec_digL (by omega)]; rfl, rfl⟩
/-- The powers of ten. -/
def TabPow (w : World) : Prop := ∃ t x, w.heap[4]? = some (.cells (Lib.pow10Tab.map fun z => Value.int .u64 z).toArray t x)
theorem TabPow.on {w w' : World} (h : TabPow w) (hb : Below w.heap.size w w') : TabPow w' := by
  obtain ⟨t, x, h⟩ := h
  exact ⟨t, x, (hb.block _ (Array.getElem?_eq_some_iff.1 h).1).trans h⟩
theorem tabIs_of {nm : String} {w : World} (hg : Tryz.prog.globalNamed nm = some 4) (h : TabPow w) : Lib.TabIs Tryz.prog w nm .u64 Lib.pow10Tab := by
  obtain ⟨t, x, h⟩ := h
  unfold Lib.TabIs World.var?
  rw [hg]
  simp only [Option.bind_some, h]
theorem below_grow (w : World) (k : Nat) (os : Array Obj) : Below w.heap.size w (Sort.grow (w.drewN k) os) := by
  have hd := below_drewN (Below.refl w.heap.size w) k
  refine ⟨hd.os, hd.tape, hd.output, by rw [Sort.size_grow]; exact Nat.le_trans hd.size (Nat.le_add_right _ _), fun j hj => ?_⟩
  show ((w.drewN k).heap ++ os)[j]? = _
  rw [Array.getElem?_append_left (Nat.lt_of_lt_of_le hj hd.size)]
  exact hd.block j hj
theorem itoa_any (n : Nat) (w : World) (h : n < 10 ^ 18) (hT : TabPow w) : Calls Tryz.prog 63 #[.int .i64 (n : Int)] w (StL (bz (digL n)) w) := by
  refine (Any.strconv_Itoa Tryz.laysM171 (n : Int) (by omega) (by omega) w (tabIs_of (by kernel_rfl) hT)).mono ?_
  rintro e w' ⟨rfl, k, os, rfl⟩
  refine ⟨?_, below_grow _ _ _⟩
  unfold Lib.itoa
  rw [if_neg (by omega), Int.toNat_natCast, dec_digL (by omega)]; rfl
theorem repeat_any (l : List UInt8) (c : Nat) (w : World) (hc : c ≤ 255) (hl : l.length ≤ 10) : Calls Tryz.prog 96 #[.string (bz l), .int .i64 (c : Int)] w (StL (bz (Lib.repeatL l c)) w) := by
  refine (Any.strings_Repeat Tryz.lays105 Tryz.Builder_Extra_105 (bz l) c w (by omega) (by
    rw [bz_size]
    calc l.length * c ≤ 10 * 255 := Nat.mul_le_mul hl hc
      _ ≤ _ := by decide)).mono ?_
  rintro e w' ⟨rfl, hb⟩
  exact ⟨by rw [bz_data]; rfl, hb⟩
theorem upper_any (l : List UInt8) (w : World) (hl : l.length ≤ 10) (ha : ∀ b ∈ l, b.toNat < 128) : Calls Tryz.prog 134 #[.string (bz l)] w (StL (bz (Lib.toUpperA l)) w) := by
  refine (Any.strings_ToUpper_ascii Tryz.lays158 Tryz.Builder_Extra_158 (bz l) w (by rw [bz_size]; omega) (fun j b hj => ha b (by rw [bz_data] at hj; exact List.mem_of_getElem? hj))).mono ?_
  rintro e w' ⟨rfl, hb⟩
  exact ⟨by rw [bz_data]; rfl, hb⟩
/-- Strings in the cells of a slice. -/
def StrsAt (w : World) (bk : Nat) (ls : List (List UInt8)) : Prop := ∀ (j : Nat) l, ls[j]? = some l → w.cell? ⟨bk, j, none⟩ = some (.string (bz l))
theorem join_any (bk c : Nat) (ls : List (List UInt8)) (sep : List UInt8) (n : Nat) (w : World) (hn : n = ls.length) (hcells : StrsAt w bk ls) (hbk : bk < w.heap.size) (hN : ls.length ≤ 1000) (hcap : ls.length ≤ c) (hlen : (sep.intercalate ls).length ≤ 1000000) :
    Calls Tryz.prog 64 #[.slice (some ⟨bk, 0, none⟩) n c, .string (bz sep)] w (StL (bz (sep.intercalate ls)) w) := by
  subst hn
  have he : (ls.map bz).map (·.data.toList) = ls := by
    rw [List.map_map]
    conv => rhs; rw [← List.map_id ls]
    apply List.map_congr_left
    intro l _
    exact bz_data l
  have hj : Lib.join ((ls.map bz).map (·.data.toList)) (bz sep).data.toList = sep.intercalate ls := by rw [he, bz_data]; rfl
  have h := Any.strings_Join Tryz.lays156 Tryz.Builder_Extra_156 bk 0 c (ls.map bz) (bz sep) w (fun j x hx => by
    rw [List.getElem?_map] at hx
    cases hl : ls[j]? with
    | none => rw [hl] at hx; cases hx
    | some l =>
      rw [hl] at hx
      cases hx
      rw [Nat.zero_add]
      exact hcells j l hl) hbk (by rw [List.length_map]; omega) (by rw [List.length_map]; omega) (by rw [hj]; omega)
  rw [List.length_map, hj] at h
  exact h
end Go.Proofs.YtokojkgfekbjdaaGreatDoor
