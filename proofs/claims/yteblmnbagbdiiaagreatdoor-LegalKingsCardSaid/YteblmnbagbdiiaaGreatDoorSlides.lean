/-
 Contracts of the program's layer 4: last, asked, Dir, seen, Rook, Bishop, Queen.
-/
import Derived.Test.YteblmnbagbdiiaaGreatDoorVaBaseC
import Derived.Test.YteblmnbagbdiiaaGreatDoorAfSl
import Derived.Test.YteblmnbagbdiiaaGreatDoorLen
import Derived.Test.YteblmnbagbdiiaaGreatDoorEach
import Derived.Laws.EntriesVeiled
namespace Go.Proofs.YteblmnbagbdiiaaGreatDoor
open Go.RowKit

theorem TabDb.next {A B : World} (h : TabDb A) (hb : Below A.heap.size A B) : TabDb B := h.later h.lt hb
theorem TabDb.alloc {A : World} (h : TabDb A) (o : Obj) : TabDb (A.alloc o) := h.next (below_new A o)
theorem below_step {w a b : World} (h : Below w.heap.size w a) (k : Below a.heap.size a b) : Below w.heap.size w b := h.trans (k.mono h.size)

theorem len_any (b : Nat) (w : World) (hb : b < W64) : Calls Tryz.prog 259 #[.int .u64 (b : Int)] w fun e w' => e = .returned (.int .i64 (Lib.bitLen b : Nat)) ∧ w = w' := by
 have h := len_int (b : Int) w (by omega) (by unfold W64 at hb; omega)
 simpa using h
theorem last_len (b : Nat) (hb : b < W64) : ((Lib.bitLen b : Nat) : Int) - 1 = lastN b ∧ Lib.bitLen b ≤ 64 := by
 by_cases h0 : b = 0
 ·subst h0; exact ⟨by decide, by decide⟩
 ·obtain ⟨e, h1, h2, _, _⟩ := last_spec h0 hb
  have h3 : lastN b = (b.log2 : Int) := by simp [lastN, h0]
  rw [bitLen_pos h0 hb]
  omega
theorem last_any (b : Nat) (w : World) (hb : b < W64) : Calls Tryz.prog 257 #[.int .u64 (b : Int)] w fun e w' => e = .returned (.int .i64 (lastN b)) ∧ w = w' := by
 obtain ⟨h1, h2⟩ := last_len b hb
 have HB := H_ hb
 have H1 := H_ h1
 clear hb h1
 go_enter Tryz.func257, Tryz.ntmps257
 go_wp2_with (go_at_call 259; refine (len_any _ _ HB.out).mono ?_; rintro e w' ⟨rfl, rfl⟩)
 go_ret
 exact ⟨ret_int (by rw [← H1.out]), rfl⟩

theorem asked_up (d : Int) (w : World) (h : upB d = true) : Calls Tryz.prog 254 #[.int .i64 d] w fun e w' => e = .returned (.func (.func 71) #[] #[]) ∧ Below w.heap.size w w' := by
 have : d = 7 ∨ d = 0 ∨ d = 1 ∨ d = 2 := by simpa [upB, or_assoc] using h
 clear h
 rcases this with rfl | rfl | rfl | rfl
 all_goals
  go_enter Tryz.func254, Tryz.ntmps254
  go_wp2
  go_ret
  exact ⟨rfl, below_new _ _⟩
theorem asked_down (d : Int) (w : World) (h : upB d = false) : Calls Tryz.prog 254 #[.int .i64 d] w fun e w' => e = .returned (.func (.func 257) #[] #[]) ∧ Below w.heap.size w w' := by
 unfold upB at h
 simp only [Bool.or_eq_false_iff] at h
 obtain ⟨⟨⟨e7, e0⟩, e1⟩, e2⟩ := h
 go_enter Tryz.func254, Tryz.ntmps254
 go_wp2
 go_ret
 exact ⟨rfl, below_new _ _⟩

theorem dir_any (s d : Int) (occ : Nat) (w : World) (ho : occ < W64) (hD : TabDb w) (hT : TabLead w) :
  Calls Tryz.prog 250 #[.int .i64 s, .int .i64 d, .int .u64 (occ : Int)] w (U64L (seenN s d occ) w) := by
 have HT := H_ hT
 have HD := H_ hD
 have HA := H_ (and_nat (rayN_lt s d) ho)
 have HM := H_ (show rayN s d &&& occ < W64 from and_lt ho)
 have HE := H_ (dir_end s d occ)
 have HN := H_ (andNot_nat (rayN_lt s d) (rayN_lt (endN d (rayN s d &&& occ)) d))
 clear hT hD ho
 cases hu : upB d
 ·have HL := H_ (show endN d (rayN s d &&& occ) = lastN (rayN s d &&& occ) by simp [endN, hu])
  have HU := H_ hu
  clear hu
  go_enter Tryz.func250, Tryz.ntmps250
  go_wp2_with fail
  refine (ray_any _ _ _ HT.out).mono ?_; rintro e w1 ⟨rfl, hb1⟩
  have HB1 := H_ hb1; have HT1 := H_ (HT.out.next hb1); clear hb1
  go_wp2_with fail
  refine (asked_down _ _ HU.out).mono ?_; rintro e w2 ⟨rfl, hb2⟩
  have HB2 := H_ (below_step HB1.out hb2); have HT2 := H_ (HT1.out.next hb2); clear hb2
  go_wp2_with fail
  rw [HA.out]
  refine (last_any _ _ HM.out).mono ?_; rintro e w' ⟨rfl, rfl⟩
  go_wp2_with fail
  refine (ray_any _ _ _ HT2.out).mono ?_; rintro e w3 ⟨rfl, hb3⟩
  have HB3 := H_ (below_step HB2.out hb3); clear hb3
  go_wp2
  go_ret
  exact ⟨ret_int (by rw [← HL.out, HN.out, HE.out]), HB3.out⟩
 ·have HL := H_ (show endN d (rayN s d &&& occ) = firstN (rayN s d &&& occ) by simp [endN, hu])
  have HU := H_ hu
  clear hu
  go_enter Tryz.func250, Tryz.ntmps250
  go_wp2_with fail
  refine (ray_any _ _ _ HT.out).mono ?_; rintro e w1 ⟨rfl, hb1⟩
  have HB1 := H_ hb1; have HT1 := H_ (HT.out.next hb1); have HD1 := H_ (HD.out.next hb1); clear hb1
  go_wp2_with fail
  refine (asked_up _ _ HU.out).mono ?_; rintro e w2 ⟨rfl, hb2⟩
  have HB2 := H_ (below_step HB1.out hb2); have HT2 := H_ (HT1.out.next hb2); have HD2 := H_ (HD1.out.next hb2); clear hb2
  go_wp2_with fail
  rw [HA.out]
  refine (first_any _ _ HM.out HD2.out).mono ?_; rintro e w' ⟨rfl, rfl⟩
  go_wp2_with fail
  refine (ray_any _ _ _ HT2.out).mono ?_; rintro e w3 ⟨rfl, hb3⟩
  have HB3 := H_ (below_step HB2.out hb3); clear hb3
  go_wp2
  go_ret
  exact ⟨ret_int (by rw [← HL.out, HN.out, HE.out]), HB3.out⟩

theorem IntCells.next {g : Nat} {l : List Int} {A B : World} (h : IntCells g l A) (hb : Below A.heap.size A B) : IntCells g l B := fun k d hk =>
 (hb.cell (p := ⟨g, k, none⟩) (World.block_lt_of_cell? A _ (h k d hk))).trans (h k d hk)
theorem seen_any (s : Int) (occ g cap : Nat) (l : List Int) (w : World) (ho : occ < W64) (hD : TabDb w) (hT : TabLead w) (hl : l.length ≤ 8) (hc : IntCells g l w) :
  Calls Tryz.prog 242 #[.int .i64 s, .int .u64 (occ : Int), .slice (some ⟨g, 0, none⟩) l.length cap] w (U64L (seenAll s occ l) w) := by
 have HO := H_ ho
 have HD := H_ hD
 have HT := H_ hT
 have HC := H_ hc
 clear ho hD hT hc
 go_enter Tryz.func242, Tryz.ntmps242
 go_wp2
 go_loopw [7, 12] (fun x i wr => ∃ k : Nat, k ≤ l.length ∧ i = .int .i64 k ∧ x = .int .u64 (seenAll s occ (l.take k) : Nat) ∧ Below w.heap.size w wr) (fun _ i _ => l.length - (intOf i).toNat)
 case atStart => exact ⟨0, Nat.zero_le _, rfl, rfl, Below.refl _ _⟩
 case round =>
  obtain ⟨k, hk, rfl, rfl, hbel⟩ := hrel
  have HBl := H_ hbel
  have HTl := H_ (HT.out.next hbel)
  have HDl := H_ (HD.out.next hbel)
  have HCl := H_ (HC.out.next hbel)
  clear hbel
  by_cases hlt : k < l.length
  ·obtain ⟨d, HK⟩ : ∃ d, Hid (l[k]? = some d) := ⟨_, H_ (List.getElem?_eq_getElem hlt)⟩
   have hcell := HCl.out k d HK.out
   have HX := H_ (or_nat (seenAll_lt s occ (l.take k)) (seenN_lt s d occ))
   have HS := H_ (seenAll_take s occ l k d HK.out)
   go_wp2_with fail
   refine (dir_any _ _ _ _ HO.out HDl.out HTl.out).mono ?_; rintro e w1 ⟨rfl, hb1⟩
   have HB1 := H_ (below_step HBl.out hb1); clear hb1
   go_wp2
   go_roundw
   case rel => exact ⟨k + 1, by omega, by go_num, by rw [← HS.out, ← HX.out], HB1.out⟩
   case measure => simp [intOf]; omega
  ·go_wp2
   go_ret
   obtain rfl : k = l.length := by omega
   exact ⟨ret_int (by rw [List.take_length]), HBl.out⟩
theorem rook_any (s : Int) (occ : Nat) (w : World) (ho : occ < W64) (hD : TabDb w) (hT : TabLead w) : Calls Tryz.prog 212 #[.int .i64 s, .int .u64 (occ : Int)] w (U64L (rookN s occ) w) := by
 have HO := H_ ho
 have HD := H_ hD
 have HT := H_ hT
 clear ho hD hT
 go_enter Tryz.func212, Tryz.ntmps212
 go_wp2_with fail
 refine (seen_any s occ _ 4 rookDs _ HO.out (HD.out.alloc _) (HT.out.alloc _) (by decide) (cells_new _ _ _ _ rfl)).mono ?_; rintro e w1 ⟨rfl, hb1⟩
 have HB1 := H_ (below_step (below_new _ _) hb1); clear hb1
 go_wp2
 go_ret
 exact ⟨rfl, HB1.out⟩
theorem bish_any (s : Int) (occ : Nat) (w : World) (ho : occ < W64) (hD : TabDb w) (hT : TabLead w) : Calls Tryz.prog 210 #[.int .i64 s, .int .u64 (occ : Int)] w (U64L (bishN s occ) w) := by
 have HO := H_ ho
 have HD := H_ hD
 have HT := H_ hT
 clear ho hD hT
 go_enter Tryz.func210, Tryz.ntmps210
 go_wp2_with fail
 refine (seen_any s occ _ 4 bishDs _ HO.out (HD.out.alloc _) (HT.out.alloc _) (by decide) (cells_new _ _ _ _ rfl)).mono ?_; rintro e w1 ⟨rfl, hb1⟩
 have HB1 := H_ (below_step (below_new _ _) hb1); clear hb1
 go_wp2
 go_ret
 exact ⟨rfl, HB1.out⟩
theorem queen_any (s : Int) (occ : Nat) (w : World) (ho : occ < W64) (hD : TabDb w) (hT : TabLead w) : Calls Tryz.prog 214 #[.int .i64 s, .int .u64 (occ : Int)] w (U64L (queenN s occ) w) := by
 have HO := H_ ho
 have HD := H_ hD
 have HT := H_ hT
 clear ho hD hT
 go_enter Tryz.func214, Tryz.ntmps214
 go_wp2_with fail
 refine (seen_any s occ _ 8 queenDs _ HO.out (HD.out.alloc _) (HT.out.alloc _) (by decide) (cells_new _ _ _ _ rfl)).mono ?_; rintro e w1 ⟨rfl, hb1⟩
 have HB1 := H_ (below_step (below_new _ _) hb1); clear hb1
 go_wp2
 go_ret
 exact ⟨rfl, HB1.out⟩
end Go.Proofs.YteblmnbagbdiiaaGreatDoor
