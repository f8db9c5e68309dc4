/-
  Contract of kibitzerlaw09.awake: the chapter's examples hold.
-/
import Derived.Test.YtboopdmgphhemaaDoorHaKey
namespace Go.Proofs.YtboopdmgphhemaaDoor
open Go.RowKit
set_option linter.unusedVariables false
set_option linter.unusedSimpArgs false

theorem known_part : ptN 0 0 = 16294208416658607535 := by decide +kernel
theorem known_piece : pieceN 1 8 = ptN 1 72 := by decide +kernel
theorem key_zero : keyN zeroP = ptN 3 0 ^^^ ptN 4 0 ^^^ ptN 4 16 ^^^ ptN 4 32 ^^^ ptN 4 48 ^^^ ptN 8 0 := by decide +kernel
theorem fit_zero : FitP zeroP := ⟨by decide, fun _ _ => (show (0 : Int) ≤ 0 ∧ (0 : Int) ≤ 255 by decide), by decide, fun _ _ _ => (show (0 : Int) ≤ 0 ∧ (0 : Int) ≤ 255 by decide), by decide, fun _ _ _ => (show -128 ≤ (0 : Int) ∧ (0 : Int) ≤ 127 by decide), by decide, fun _ _ _ => (show (0 : Int) ≤ 0 ∧ (0 : Int) ≤ 255 by decide)⟩
/-- The answer is this number. -/
def U64I (n : Int) (w : World) (e : Ending) (w' : World) : Prop := e = .returned (.int .u64 n) ∧ Below w.heap.size w w'
theorem u64_is {n : Nat} {v : Int} {f : FuncId} {args : Array Value} {w : World} (h : Calls Tryd.prog f args w (U64L n w)) (hv : (n : Int) = v) : Calls Tryd.prog f args w (U64I v w) :=
  h.mono fun e w' ⟨h1, h2⟩ => ⟨by rw [h1, hv], h2⟩
theorem part_at (t n : Int) (v : Int) (w : World) (hT : TabMix w) (h : ((ptN t n : Nat) : Int) = v) : Calls Tryd.prog 10 #[.int .i64 t, .int .i64 n] w (U64I v w) := u64_is (part_any t n w hT) h
theorem part_00 (w : World) (hT : TabMix w) : Calls Tryd.prog 10 #[.int .i64 0, .int .i64 0] w (U64I 16294208416658607535 w) := u64_is (part_any 0 0 w hT) (by rw [known_part]; rfl)
theorem piece_05 (w : World) (hT : TabMix w) : Calls Tryd.prog 12 #[.int .u8 0, .int .i64 5] w (U64I 0 w) := u64_is (piece_any 0 5 w (by decide) (by decide) hT) (by rw [pieceN_no (by decide)]; rfl)
theorem piece_75 (w : World) (hT : TabMix w) : Calls Tryd.prog 12 #[.int .u8 7, .int .i64 5] w (U64I 0 w) := u64_is (piece_any 7 5 w (by decide) (by decide) hT) (by rw [pieceN_no (by decide)]; rfl)
theorem piece_164 (w : World) (hT : TabMix w) : Calls Tryd.prog 12 #[.int .u8 1, .int .i64 64] w (U64I 0 w) := u64_is (piece_any 1 64 w (by decide) (by decide) hT) (by rw [pieceN_off (by decide)]; rfl)
theorem piece_18 (w : World) (v : Int) (hT : TabMix w) (h : ((ptN 1 72 : Nat) : Int) = v) : Calls Tryd.prog 12 #[.int .u8 1, .int .i64 8] w (U64I v w) := u64_is (piece_any 1 8 w (by decide) (by decide) hT) (by rw [known_piece]; exact h)
theorem turn_0 (w : World) (hT : TabMix w) : Calls Tryd.prog 14 #[.int .u8 0] w (U64I 0 w) := u64_is (turn_any 0 w hT) (by rw [turnN_no (by decide)]; rfl)
theorem passing_m1 (w : World) (hT : TabMix w) : Calls Tryd.prog 16 #[.int .i64 (-1)] w (U64I 0 w) := u64_is (passing_any (-1) w hT) (by rw [psgN_no (by decide)]; rfl)
theorem rook_m1 (w : World) (hT : TabMix w) : Calls Tryd.prog 18 #[.int .u8 0, .int .i64 0, .int .i64 (-1)] w (U64I 0 w) := u64_is (rook_nany 0 0 (-1) w (by decide) hT) (by rw [rookHN_file (by decide)]; rfl)
theorem pocket_010 (w : World) (hT : TabMix w) : Calls Tryd.prog 20 #[.int .u8 0, .int .u8 1, .int .u8 0] w (U64I 0 w) := u64_is (pocket_any 0 1 0 w (by decide) (by decide) (by decide) hT) (by rw [pockN_nil rfl]; rfl)
theorem key_at (w : World) (v : Int) (hT : TabMix w) (h : ((keyN zeroP : Nat) : Int) = v) : Calls Tryd.prog 26 #[.agg (posA zeroP)] w (U64I v w) := u64_is (key_any zeroP w fit_zero hT) h
theorem zero_xor : bits .xor .u64 (bits .xor .u64 (bits .xor .u64 (bits .xor .u64 (bits .xor .u64 ((ptN 3 0 : Nat) : Int) ((ptN 4 0 : Nat) : Int)) ((ptN 4 16 : Nat) : Int)) ((ptN 4 32 : Nat) : Int)) ((ptN 4 48 : Nat) : Int)) ((ptN 8 0 : Nat) : Int) = ((keyN zeroP : Nat) : Int) := by
  rw [xor_nat (ptN_lt _ _) (ptN_lt _ _), xor_nat (xor_lt64 (ptN_lt _ _) (ptN_lt _ _)) (ptN_lt _ _), xor_nat (xor_lt64 (xor_lt64 (ptN_lt _ _) (ptN_lt _ _)) (ptN_lt _ _)) (ptN_lt _ _),
    xor_nat (xor_lt64 (xor_lt64 (xor_lt64 (ptN_lt _ _) (ptN_lt _ _)) (ptN_lt _ _)) (ptN_lt _ _)) (ptN_lt _ _), xor_nat (xor_lt64 (xor_lt64 (xor_lt64 (xor_lt64 (ptN_lt _ _) (ptN_lt _ _)) (ptN_lt _ _)) (ptN_lt _ _)) (ptN_lt _ _)) (ptN_lt _ _), key_zero]
set_option maxRecDepth 100000 in
set_option maxHeartbeats 2000000 in
theorem ha_awake (w : World) (hT : TabMix w) : Calls Tryd.prog 28 #[] w (BoL true w) := by
  have HT := Lib.hid hT
  have HB := Lib.hid (Below.refl w.heap.size w)
  clear hT
  obtain ⟨a0, h0⟩ : ∃ a : Int, ((ptN 3 0 : Nat) : Int) = a := ⟨_, rfl⟩
  obtain ⟨a1, h1⟩ : ∃ a : Int, ((ptN 4 0 : Nat) : Int) = a := ⟨_, rfl⟩
  obtain ⟨a2, h2⟩ : ∃ a : Int, ((ptN 4 16 : Nat) : Int) = a := ⟨_, rfl⟩
  obtain ⟨a3, h3⟩ : ∃ a : Int, ((ptN 4 32 : Nat) : Int) = a := ⟨_, rfl⟩
  obtain ⟨a4, h4⟩ : ∃ a : Int, ((ptN 4 48 : Nat) : Int) = a := ⟨_, rfl⟩
  obtain ⟨a5, h5⟩ : ∃ a : Int, ((ptN 8 0 : Nat) : Int) = a := ⟨_, rfl⟩
  obtain ⟨b, hb0⟩ : ∃ a : Int, ((ptN 1 72 : Nat) : Int) = a := ⟨_, rfl⟩
  obtain ⟨z, hz⟩ : ∃ a : Int, ((keyN zeroP : Nat) : Int) = a := ⟨_, rfl⟩
  have hx := zero_xor
  rw [h0, h1, h2, h3, h4, h5, hz] at hx
  have HX := Lib.hid hx
  have H0 := Lib.hid h0
  have H1 := Lib.hid h1
  have H2 := Lib.hid h2
  have H3 := Lib.hid h3
  have H4 := Lib.hid h4
  have H5 := Lib.hid h5
  have Hb := Lib.hid hb0
  have Hz := Lib.hid hz
  clear h0 h1 h2 h3 h4 h5 hb0 hz hx
  go_enter Tryd.func28, Tryd.ntmps28
  go_wp2_with fail
  refine (part_at 3 0 a0 _ (HT.out.on HB.out) H0.out).mono ?_; rintro e wn ⟨rfl, hb⟩; have HB := Lib.hid (below_on HB.out hb); clear hb
  go_wp2_with fail
  refine (part_at 4 0 a1 _ (HT.out.on HB.out) H1.out).mono ?_; rintro e wn ⟨rfl, hb⟩; have HB := Lib.hid (below_on HB.out hb); clear hb
  go_wp2_with fail
  refine (part_at 4 16 a2 _ (HT.out.on HB.out) H2.out).mono ?_; rintro e wn ⟨rfl, hb⟩; have HB := Lib.hid (below_on HB.out hb); clear hb
  go_wp2_with fail
  refine (part_at 4 32 a3 _ (HT.out.on HB.out) H3.out).mono ?_; rintro e wn ⟨rfl, hb⟩; have HB := Lib.hid (below_on HB.out hb); clear hb
  go_wp2_with fail
  refine (part_at 4 48 a4 _ (HT.out.on HB.out) H4.out).mono ?_; rintro e wn ⟨rfl, hb⟩; have HB := Lib.hid (below_on HB.out hb); clear hb
  go_wp2_with fail
  refine (part_at 8 0 a5 _ (HT.out.on HB.out) H5.out).mono ?_; rintro e wn ⟨rfl, hb⟩; have HB := Lib.hid (below_on HB.out hb); clear hb
  go_wp2_with fail
  try rw [HX.out]
  refine (part_00 _ (HT.out.on HB.out)).mono ?_; rintro e wn ⟨rfl, hb⟩; have HB := Lib.hid (below_on HB.out hb); clear hb
  go_wp2_with fail
  refine (piece_05 _ (HT.out.on HB.out)).mono ?_; rintro e wn ⟨rfl, hb⟩; have HB := Lib.hid (below_on HB.out hb); clear hb
  go_wp2_with fail
  refine (piece_75 _ (HT.out.on HB.out)).mono ?_; rintro e wn ⟨rfl, hb⟩; have HB := Lib.hid (below_on HB.out hb); clear hb
  go_wp2_with fail
  refine (piece_164 _ (HT.out.on HB.out)).mono ?_; rintro e wn ⟨rfl, hb⟩; have HB := Lib.hid (below_on HB.out hb); clear hb
  go_wp2_with fail
  refine (turn_0 _ (HT.out.on HB.out)).mono ?_; rintro e wn ⟨rfl, hb⟩; have HB := Lib.hid (below_on HB.out hb); clear hb
  go_wp2_with fail
  refine (passing_m1 _ (HT.out.on HB.out)).mono ?_; rintro e wn ⟨rfl, hb⟩; have HB := Lib.hid (below_on HB.out hb); clear hb
  go_wp2_with fail
  refine (rook_m1 _ (HT.out.on HB.out)).mono ?_; rintro e wn ⟨rfl, hb⟩; have HB := Lib.hid (below_on HB.out hb); clear hb
  go_wp2_with fail
  refine (pocket_010 _ (HT.out.on HB.out)).mono ?_; rintro e wn ⟨rfl, hb⟩; have HB := Lib.hid (below_on HB.out hb); clear hb
  go_wp2_with fail
  refine (piece_18 _ b (HT.out.on HB.out) Hb.out).mono ?_; rintro e wn ⟨rfl, hb⟩; have HB := Lib.hid (below_on HB.out hb); clear hb
  go_wp2_with fail
  refine (part_at 1 72 b _ (HT.out.on HB.out) Hb.out).mono ?_; rintro e wn ⟨rfl, hb⟩; have HB := Lib.hid (below_on HB.out hb); clear hb
  go_wp2_with (refine step_build rfl 41 _ rfl (posA zeroP) (by kernel_rfl) ?_)
  refine (key_at _ z (HT.out.on HB.out) Hz.out).mono ?_; rintro e wn ⟨rfl, hb⟩; have HB := Lib.hid (below_on HB.out hb); clear hb
  go_wp2_with fail
  go_ret
  exact ⟨rfl, HB.out⟩
end Go.Proofs.YtboopdmgphhemaaDoor
