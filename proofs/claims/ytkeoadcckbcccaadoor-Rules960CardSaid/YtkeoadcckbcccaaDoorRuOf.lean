/-
  Contract of the document's Of: a position of eight rows of letters.
-/
import Derived.Test.YtkeoadcckbcccaaDoorRuRefA
import Derived.Test.YtkeoadcckbcccaaDoorRuArmy
namespace Go.Proofs.YtkeoadcckbcccaaDoor
open Go.RowKit
set_option linter.unusedVariables false
set_option linter.unusedSimpArgs false
def strA (L : List ByteArray) : Array Value := (L.map fun s => Value.string s).toArray
theorem strA_get (L : List ByteArray) (i : Nat) (h : i < L.length) : (strA L)[i]? = some (.string (L.getD i ⟨#[]⟩)) := by
  unfold strA
  rw [List.getElem?_toArray, List.getElem?_map, List.getD_eq_getElem?_getD, List.getElem?_eq_getElem h]; rfl
def byteAt (s : ByteArray) (j : Nat) : Nat := (s.data.toList.getD j 0).toNat
theorem byteAt_lt (s : ByteArray) (j : Nat) : byteAt s j < 256 := (s.data.toList.getD j 0).toNat_lt
theorem char_at (s : ByteArray) (j : Nat) (h : j < s.size) : s[j]? = some (s.data.toList.getD j 0) := by
  obtain ⟨⟨l⟩⟩ := s
  have h' : j < l.length := h
  show (if h : j < (ByteArray.mk ⟨l⟩).size then some ((ByteArray.mk ⟨l⟩)[j]) else none) = _
  rw [dif_pos h]
  show some (l[j]) = _
  rw [List.getD_eq_getElem?_getD, List.getElem?_eq_getElem h']; rfl
/-- Behind j letters of a row. -/
def ofJ (p : Nat → Int) (s : ByteArray) (i : Nat) : Nat → Nat → Int
  | 0 => p
  | j + 1 => upd (ofJ p s i j) (1 + (8 * (7 - i) + j)) ((letN (byteAt s j) : Nat) : Int)
/-- Behind i rows. -/
def ofI (p : Nat → Int) (L : List ByteArray) : Nat → Nat → Int
  | 0 => p
  | i + 1 => ofJ (ofI p L i) (L.getD i ⟨#[]⟩) i (L.getD i ⟨#[]⟩).size
/-- The position of a variant and rows of letters, the last rank first. -/
def ofP (v : Int) (L : List ByteArray) : Nat → Int := ofI (bareP v) L 8
def of0 (v : Int) : Nat → Int := fun i => if i = 0 then v else if i = 83 then -1 else if i = 87 then 1 else 0
theorem of0_rooks (v : Int) : over (of0 v) 79 4 (bareP v) = bareP v := by
  funext j
  unfold over of0 bareP
  by_cases h : 79 ≤ j ∧ j < 79 + 4
  · rw [if_pos h]
  · rw [if_neg h]
    have e : (79 ≤ j ∧ j ≤ 83) ↔ j = 83 := by omega
    simp only [e]
theorem size36 : (Tryd.prog.info? 36).map (·.size) = some 4 := by kernel_rfl
theorem no_rooks (v : Int) : Value.agg #[.int .i8 (-1), .int .i8 (-1), .int .i8 (-1), .int .i8 (-1)] = .agg (partL (bareP v) 79 4).toArray := by kernel_rfl
set_option maxRecDepth 100000 in
set_option maxHeartbeats 2000000 in
theorem ofrows_any (v : Int) (L : List ByteArray) (g cap : Nat) (w : World) (hL : L.length = 8) (hs : ∀ i, i < 8 → (L.getD i ⟨#[]⟩).size ≤ 8) (hg : Blk w g 9 (strA L)) :
    Calls Tryd.prog 34 #[.int .u8 v, .slice (some ⟨g, 0, none⟩) 8 cap] w (PosL (ofP v L) w) := by
  have HL := Lib.hid hL
  have HS := Lib.hid hs
  have HS0 := Lib.hid hg
  clear hL hs hg
  go_enter Tryd.func34, Tryd.ntmps34
  go_wp2_with (first
    | (refine step_alloc (op := ⟨some 4, _, _, _, _, _⟩) rfl rfl ?_; intro b4 w1 N R; have HG4 := Lib.hid (Nat.le_of_eq N.at_.symm); have HR4 := Lib.hid R; have HS0 := Lib.hid (HS0.out.later N.below); have HB := Lib.hid N.below; clear N R)
    | (refine step_alloc rfl rfl ?_; intro b5 w1 N R; have HG5 := Lib.hid (show w.heap.size ≤ b5 by have := N.at_; have := HB.out.size; omega); have HD := Lib.hid (show b4 ≠ b5 by have := N.at_; have := HR4.out.lt; omega); have HDg := Lib.hid (show g ≠ b5 by have := N.at_; have := HS0.out.lt; omega); have HR4 := Lib.hid (HR4.out.later N.below); have HS0 := Lib.hid (HS0.out.later N.below); have HR5 := Lib.hid R; have HB := Lib.hid (below_on HB.out N.below); clear N R)
    | (refine step_build rfl 39 _ rfl (posA (of0 v)) (by kernel_rfl) ?_)
    | (refine step_store rfl _ _ rfl b5 rfl zeroP (of0 v) rfl ?_ ?_; exact HR5.out; intro w2 U R; have HR4 := Lib.hid (HR4.out.apart U HD.out); have HS0 := Lib.hid (HS0.out.apart U HDg.out); have HR5 := Lib.hid R; have HB := Lib.hid (HB.out.trans (U.below HG5.out)); clear U R)
    | (refine step_write rfl 36 _ _ rfl b5 79 4 rfl (of0 v) (bareP v) (no_rooks v) ?_ (by omega) size36 ?_; exact HR5.out; intro w2 U R; rw [of0_rooks] at R; have HR4 := Lib.hid (HR4.out.apart U HD.out); have HS0 := Lib.hid (HS0.out.apart U HDg.out); have HR5 := Lib.hid R; have HB := Lib.hid (HB.out.trans (U.below HG5.out)); clear U R))
  go_loopw [6] (fun i wr => ∃ k : Nat, k ≤ 8 ∧ i = .int .i64 (k : Int) ∧ Row wr b5 (ofI (bareP v) L k) ∧ Row wr b4 zeroP ∧ Blk wr g 9 (strA L) ∧ Below w.heap.size w wr) (fun i _ => 8 - (intOf i).toNat)
  case atStart => exact ⟨0, by omega, rfl, HR5.out, HR4.out, HS0.out, HB.out⟩
  case round =>
    clear HR5 HR4 HS0 HB
    obtain ⟨k, hk, rfl, h5, h4, hs0, hb⟩ := hrel
    have HR5 := Lib.hid h5
    have HR4 := Lib.hid h4
    have HS0 := Lib.hid hs0
    have HB := Lib.hid hb
    clear h5 h4 hs0 hb
    by_cases hlt : k < 8
    · obtain ⟨p, Hp⟩ : ∃ q, Hid (ofI (bareP v) L k = q) := ⟨_, Lib.hid rfl⟩
      obtain ⟨s, Hs⟩ : ∃ s, Hid (L.getD k ⟨#[]⟩ = s) := ⟨_, Lib.hid rfl⟩
      have HN := Lib.hid (show ofI (bareP v) L (k + 1) = ofJ p s k s.size by rw [← Hp.out, ← Hs.out]; rfl)
      have hsz : s.size ≤ 8 := by rw [← Hs.out]; exact HS.out k hlt
      have HC := Lib.hid ((strA_get L k (by rw [HL.out]; exact hlt)).trans (by rw [Hs.out]))
      rw [Hp.out] at HR5
      go_wp2_with fail
      go_loopw [7] (fun f wr => ∃ j : Nat, j ≤ s.size ∧ f = .int .i64 (j : Int) ∧ Row wr b5 (ofJ p s k j) ∧ Row wr b4 zeroP ∧ Blk wr g 9 (strA L) ∧ Below w.heap.size w wr) (fun f _ => 8 - (intOf f).toNat)
      case atStart => exact ⟨0, by omega, rfl, HR5.out, HR4.out, HS0.out, HB.out⟩
      case round =>
        clear HR5 HR4 HS0 HB
        obtain ⟨j, hj, rfl, h5, h4, hs0, hb⟩ := hrel
        have HR5 := Lib.hid h5
        have HR4 := Lib.hid h4
        have HS0 := Lib.hid hs0
        have HB := Lib.hid hb
        have hc : wr.cell? ⟨g, k, none⟩ = some (.string s) := by rw [HS0.out.cell]; exact HC.out
        clear h5 h4 hs0 hb
        by_cases hlt' : j < s.size
        · obtain ⟨q, Hq⟩ : ∃ q, Hid (ofJ p s k j = q) := ⟨_, Lib.hid rfl⟩
          obtain ⟨b, Hb⟩ : ∃ b, Hid (byteAt s j = b) := ⟨_, Lib.hid rfl⟩
          obtain ⟨x, Hx⟩ : ∃ x, Hid (letN b = x) := ⟨_, Lib.hid rfl⟩
          have hb : b < 256 := by rw [← Hb.out]; exact byteAt_lt s j
          obtain ⟨d, Hd⟩ : ∃ d, Hid (8 * (7 - k) + j = d) := ⟨_, Lib.hid rfl⟩
          have ld : d < 64 := by have := Hd.out; omega
          have ld' : (d : Int) < 64 := by omega
          have HK := Lib.hid (kAt_board (Nat.zero_le _) ld)
          have HM := Lib.hid (show ofJ p s k (j + 1) = upd q (1 + d) (x : Int) by
            show upd _ _ _ = _
            rw [Hq.out, Hb.out, Hx.out, Hd.out])
          have HA := Lib.hid (char_at s j hlt')
          have HY := Lib.hid (show (s.data.toList.getD j 0).toNat = b from Hb.out)
          rw [Hq.out] at HR5
          go_wp2_with (refine step_char rfl _ _ rfl s rfl j rfl _ HA.out b HY.out ?_)
          refine (letter_any b _ hb).mono ?_; rintro e wn ⟨rfl, rfl⟩; rw [Hx.out]
          rw [show (8 * (7 - (k : Int)) + (j : Int)) = (d : Int) by have := Hd.out; omega]
          go_wp2_with (refine step_cell rfl 5 _ _ rfl b5 (1 + d) rfl .u8 (x : Int) rfl q ?_ (by omega) HK.out size5 ?_; exact HR5.out; intro w2 U R; clear hc; have HR4 := Lib.hid (HR4.out.apart U HD.out); have HS0 := Lib.hid (HS0.out.apart U HDg.out); have HR5 := Lib.hid R; have HB := Lib.hid (HB.out.trans (U.below HG5.out)); clear U R)
          go_roundw
          case rel => exact ⟨j + 1, by omega, by go_num, by rw [HM.out]; exact HR5.out, HR4.out, HS0.out, HB.out⟩
          case measure => simp [intOf]; omega
        · obtain rfl : j = s.size := by omega
          rw [← HN.out] at HR5
          go_wp2_with fail
          clear hc
          go_roundw
          case rel => exact ⟨k + 1, by omega, by go_num, HR5.out, HR4.out, HS0.out, HB.out⟩
          case measure => simp [intOf]; omega
    · obtain rfl : k = 8 := by omega
      have HE := Lib.hid (show ofP v L = ofI (bareP v) L 8 from rfl)
      obtain ⟨q, Hq⟩ : ∃ q, Hid (ofI (bareP v) L 8 = q) := ⟨_, Lib.hid rfl⟩
      rw [Hq.out] at HR5
      go_wp2_with (first
        | (refine step_load rfl _ rfl b5 rfl q ?_ ?_; exact HR5.out)
        | (refine step_store rfl _ _ rfl b4 rfl zeroP q rfl ?_ ?_; exact HR4.out; intro w2 U R; have HR4 := Lib.hid R; have HB := Lib.hid (HB.out.trans (U.below HG4.out)); clear U R))
      refine bodyPost_ret (v := .agg (posA q)) (results_row rfl _ _ _ _ rfl HR4.out) rfl ⟨by rw [HE.out, Hq.out], HB.out⟩
end Go.Proofs.YtkeoadcckbcccaaDoor
