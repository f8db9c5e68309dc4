/-
  Contracts of the program's Text and Parse (layer 2).
-/
import Derived.Test.YtnogmogmlilpiaaDoorSq
import Derived.Laws.BytesString
import Derived.Laws.RangeAny
namespace Go.Proofs.YtnogmogmlilpiaaDoor
open Go.RowKit

def StrL (t : ByteArray) (w : World) (e : Ending) (w' : World) : Prop := e = .returned (.string t) ∧ Below w.heap.size w w'
theorem sq_str {a b : ByteArray} (h : a = b) : Ending.returned (.string a) = .returned (.string b) := by rw [h]

theorem conv2 (w : World) (x y : Int) : (convert 81 9 (.slice (some ⟨w.heap.size, 0, none⟩) 2 2)).run Tryd.prog (w.alloc (.cells #[.int .u8 x, .int .u8 y] 5)) = .ok (.string (two x.toNat y.toNat)) (w.alloc (.cells #[.int .u8 x, .int .u8 y] 5)) := by
  rw [run_convert_bytes_string _ _ _ 5 _ _ _ Tryd.underlying81 Tryd.underlying5 Tryd.underlying9]
  rw [run_bytesToString _ _ _ _ [x, y] (by simp [loadCells, go_sem])]
  rfl
theorem text_any (s : Int) (w : World) : Calls Tryd.prog 39 #[.int .i64 s] w (StrL (textZ s) w) := by
  cases h : sqB s
  · have HS := Lib.hid (textZ_no h)
    go_enter Tryd.func39, Tryd.ntmps39
    go_wp2_with (go_at_call 47; refine (isSq_any _ _).mono ?_; rintro e w' ⟨rfl, rfl⟩)
    go_ret
    exact ⟨sq_str HS.out.symm, Below.refl _ _⟩
  · have HS := Lib.hid (textZ_yes h)
    have HF := Lib.hid (fileZ_yes h)
    have HR := Lib.hid (rankZ_yes h)
    have HQ := Lib.hid (sqB_true.1 h)
    obtain ⟨h0, h1⟩ := fileZ_rng s
    obtain ⟨h2, h3⟩ := rankZ_rng s
    have hcv := conv2
    go_enter Tryd.func39, Tryd.ntmps39
    go_wp2_with (first | (go_at_call 47; refine (isSq_any _ _).mono ?_; rintro e w' ⟨rfl, rfl⟩) | (go_at_call 48; refine (file_any _ _).mono ?_; rintro e w' ⟨rfl, rfl⟩) | (go_at_call 49; refine (rank_any _ _).mono ?_; rintro e w' ⟨rfl, rfl⟩))
    go_ret
    refine ⟨sq_str ?_, (Below.refl w.heap.size w).alloc (Nat.le_refl _) _⟩
    obtain ⟨q0, q1⟩ := HQ.out
    rw [HS.out, HF.out, HR.out, show (97 + s % 8).toNat = 97 + (s % 8).toNat by omega, show (49 + s / 8).toNat = 49 + (s / 8).toNat by omega]

def PairL (n : Int) (b : Bool) (w : World) (e : Ending) (w' : World) : Prop := e = .returned (.tuple #[.int .i64 n, .bool b]) ∧ Below w.heap.size w w'
theorem of_bad {f r : Int} (h : lnB f = false) : ofOk f r = false ∧ ofZ f r = 0 := by
  have e : ofOk f r = false := by simp [ofOk, h]
  exact ⟨e, ofZ_no e⟩
theorem of_bad' {f r : Int} (h : lnB r = false) : ofOk f r = false ∧ ofZ f r = 0 := by
  have e : ofOk f r = false := by simp [ofOk, h]
  exact ⟨e, ofZ_no e⟩
theorem byteAt_lt (t : ByteArray) (i : Nat) (h : i < t.size) : byteAt t i = ((t[i]'h).toNat : Int) := by
  unfold byteAt
  have : t.data[i]? = some (t[i]'h) := Array.getElem?_eq_getElem h
  rw [this]
theorem rune_at (t : ByteArray) (i r d : Nat) (h : i < t.size) (e : Utf8.decode t i = (r, d)) : 1 ≤ d ∧ r ≤ 2147483647 ∧ (((r : Int) = byteAt t i ∧ d = 1) ∨ (128 ≤ r ∧ 128 ≤ byteAt t i)) := by
  have hl := decode_le t i
  rw [e] at hl
  by_cases ha : (t[i]'h).toNat < 128
  · have := decode_ascii t i h ha
    rw [e] at this
    obtain ⟨rfl, rfl⟩ := Prod.mk.inj this
    exact ⟨Nat.le_refl _, hl, .inl ⟨(byteAt_lt t i h).symm, rfl⟩⟩
  · have := decode_high t i h (by omega)
    rw [e] at this
    exact ⟨this.2, hl, .inr ⟨this.1, by rw [byteAt_lt t i h]; omega⟩⟩
theorem parse_two {t : ByteArray} (h : t.size = 2) : parseOk t = ofOk (byteAt t 0 - 97) (byteAt t 1 - 49) ∧ parseZ t = ofZ (byteAt t 0 - 97) (byteAt t 1 - 49) := by
  simp [parseOk, parseZ, h]
theorem parse_one {t : ByteArray} {r d : Nat} (h : t.size = 2) (e : Utf8.decode t 0 = (r, d)) (hd : 2 ≤ d) : ofOk ((r : Int) - 97) (-1) = parseOk t ∧ ofZ ((r : Int) - 97) (-1) = parseZ t := by
  obtain ⟨p1, p2⟩ := parse_two h
  rw [p1, p2]
  obtain ⟨_, _, h3⟩ := rune_at t 0 r d (by omega) e
  rcases h3 with ⟨_, h4⟩ | ⟨h4, h5⟩
  · omega
  · have a1 := of_bad (f := (r : Int) - 97) (r := -1) (lnB_false.2 (by omega))
    have a2 := of_bad (f := byteAt t 0 - 97) (r := byteAt t 1 - 49) (lnB_false.2 (by omega))
    rw [a1.1, a1.2, a2.1, a2.2]; exact ⟨rfl, rfl⟩
theorem parse_both {t : ByteArray} {r d r' d' : Nat} (h : t.size = 2) (e : Utf8.decode t 0 = (r, d)) (e' : Utf8.decode t 1 = (r', d')) : ofOk ((r : Int) - 97) ((r' : Int) - 49) = parseOk t ∧ ofZ ((r : Int) - 97) ((r' : Int) - 49) = parseZ t := by
  obtain ⟨p1, p2⟩ := parse_two h
  rw [p1, p2]
  obtain ⟨_, _, h3⟩ := rune_at t 0 r d (by omega) e
  obtain ⟨_, _, h3'⟩ := rune_at t 1 r' d' (by omega) e'
  rcases h3 with ⟨h4, _⟩ | ⟨h4, h5⟩
  · rcases h3' with ⟨h4', _⟩ | ⟨h4', h5'⟩
    · rw [h4, h4']; exact ⟨rfl, rfl⟩
    · have a1 := of_bad' (f := (r : Int) - 97) (r := (r' : Int) - 49) (lnB_false.2 (by omega))
      have a2 := of_bad' (f := byteAt t 0 - 97) (r := byteAt t 1 - 49) (lnB_false.2 (by omega))
      rw [a1.1, a1.2, a2.1, a2.2]; exact ⟨rfl, rfl⟩
  · have a1 := of_bad (f := (r : Int) - 97) (r := (r' : Int) - 49) (lnB_false.2 (by omega))
    have a2 := of_bad (f := byteAt t 0 - 97) (r := byteAt t 1 - 49) (lnB_false.2 (by omega))
    rw [a1.1, a1.2, a2.1, a2.2]; exact ⟨rfl, rfl⟩
theorem parse_not {t : ByteArray} (h : ¬ t.size = 2) : parseOk t = false ∧ parseZ t = 0 := by
  simp [parseOk, parseZ, h]
theorem next_at (w : World) (t : ByteArray) (pos r d : Nat) (ty : TypeId) (h : pos < t.size) (e : Utf8.decode t pos = (r, d)) :
    (Instr.next (.pointer (some ⟨w.heap.size, 0, none⟩)) true ty).run Tryd.prog (w.iter t pos) = .ok (.tuple #[.bool true, .int .i64 pos, .int .i32 r]) (w.iter t (pos + d)) := by
  rw [run_next_any w t pos ty h, e]
/-- How far the loop over the text has come: nothing read yet; the first letter; two of them. -/
def Read (t : ByteArray) (w : World) (r d r' d' : Nat) (f g : Value) (wr : World) : Prop :=
  (wr = w.iter t 0 ∧ f = .int .i64 (-1) ∧ g = .int .i64 (-1)) ∨ (wr = w.iter t d ∧ f = .int .i64 ((r : Int) - 97) ∧ g = .int .i64 (-1)) ∨ (wr = w.iter t (1 + d') ∧ f = .int .i64 ((r : Int) - 97) ∧ g = .int .i64 ((r' : Int) - 49))
set_option maxHeartbeats 1000000 in
theorem parse_any (t : ByteArray) (w : World) : Calls Tryd.prog 34 #[.string t] w (PairL (parseZ t) (parseOk t) w) := by
  by_cases h : t.size = 2
  · have g0 : ((t.size : Int) != 2) = false := by rw [h]; rfl
    obtain ⟨r, d, e0⟩ : ∃ r d, Utf8.decode t 0 = (r, d) := ⟨_, _, rfl⟩
    obtain ⟨r', d', e1⟩ : ∃ r d, Utf8.decode t 1 = (r, d) := ⟨_, _, rfl⟩
    obtain ⟨hd, hr, _⟩ := rune_at t 0 r d (by omega) e0
    obtain ⟨hd', hr', _⟩ := rune_at t 1 r' d' (by omega) e1
    have H1 := Lib.hid (fun hd2 : 2 ≤ d => parse_one h e0 hd2)
    have H2 := Lib.hid (parse_both h e0 e1)
    have N0 := Lib.hid (fun ty => next_at w t 0 r d ty (by omega) e0)
    have N1 := Lib.hid (fun ty => next_at w t 1 r' d' ty (by omega) e1)
    have NE := Lib.hid (fun (pos : Nat) (hp : 2 ≤ pos) ty => run_next_end (P := Tryd.prog) w t pos ty (by omega))
    clear e0 e1 h
    go_enter Tryd.func34, Tryd.ntmps34
    go_wp2
    go_loopw [4, 5] (fun f g wr => Read t w r d r' d' f g wr) (fun _ _ wr => 2 - wr.iterPos w.heap.size)
    case atStart => exact .inl ⟨rfl, rfl, rfl⟩
    case round =>
      rcases hrel with ⟨rfl, rfl, rfl⟩ | ⟨rfl, rfl, rfl⟩ | ⟨rfl, rfl, rfl⟩
      · have hn := N0.out
        go_wp2
        go_roundw
        case rel => exact .inr (.inl ⟨by simp, rfl, rfl⟩)
        case measure => simp; omega
      · by_cases hd2 : 2 ≤ d
        · have hn := NE.out d hd2
          have HE := Lib.hid (H1.out hd2)
          go_wp2_with (go_at_call 42; refine (sqof_any _ _ _).mono ?_; rintro e w' ⟨rfl, rfl⟩)
          go_ret2
          exact ⟨sq_pair HE.out.2 HE.out.1, (Below.refl w.heap.size w).alloc (Nat.le_refl _) _⟩
        · obtain rfl : d = 1 := by omega
          have hn := N1.out
          go_wp2
          go_roundw
          case rel => exact .inr (.inr ⟨by simp, rfl, rfl⟩)
          case measure => simp; omega
      · have hn := NE.out (1 + d') (by omega)
        go_wp2_with (go_at_call 42; refine (sqof_any _ _ _).mono ?_; rintro e w' ⟨rfl, rfl⟩)
        go_ret2
        exact ⟨sq_pair H2.out.2 H2.out.1, (Below.refl w.heap.size w).alloc (Nat.le_refl _) _⟩
  · have g0 : ((t.size : Int) != 2) = true := by simp; omega
    have HN := Lib.hid (parse_not h)
    clear h
    go_enter Tryd.func34, Tryd.ntmps34
    go_wp2
    go_ret2
    exact ⟨sq_pair HN.out.2.symm HN.out.1.symm, Below.refl _ _⟩
end Go.Proofs.YtnogmogmlilpiaaDoor
