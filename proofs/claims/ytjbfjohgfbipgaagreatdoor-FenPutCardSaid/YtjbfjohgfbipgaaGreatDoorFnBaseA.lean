/-
  Several texts in one: SqMath, Sq, SqText, PcMath, Base, Pos, Math, FnMath, Pc, PcText, PcRef, PcFind, PcRefB, Square, SquareRef.
-/
import Derived.Test.YtjbfjohgfbipgaaGreatDoorChecked
import Derived.WalkKit
import Derived.Lib.Hide
import Derived.Deep.QuietTactic
import Derived.BigQuiet
import Derived.Laws.BytesString
import Derived.Laws.RangeAny
import Derived.Lib.Strings
import Derived.Laws.Rows
import Derived.Deep.MidRow
import Derived.WalkMore
import Derived.Deep.LoopGhost
/-
  Plain functions of layer 2: which numbers are squares, files, ranks; a square's file, rank, text; the square of a text; how far two are apart; flipped.
-/
namespace Go.Proofs.YtjbfjohgfbipgaaGreatDoor
open Go.RowKit

def sqB (s : Int) : Bool := decide (0 ≤ s) && decide (s < 64)
def lnB (n : Int) : Bool := decide (0 ≤ n) && decide (n < 8)
def fileZ (s : Int) : Int := bif sqB s then s % 8 else -1
def rankZ (s : Int) : Int := bif sqB s then s / 8 else -1
def ofOk (f r : Int) : Bool := lnB f && lnB r
def ofZ (f r : Int) : Int := bif ofOk f r then 8 * r + f else 0
def byteAt (t : ByteArray) (i : Nat) : Int := match t.data[i]? with | some b => (b.toNat : Int) | none => -1
def two (x y : Nat) : ByteArray := ⟨#[UInt8.ofNat x, UInt8.ofNat y]⟩
def textZ (s : Int) : ByteArray := bif sqB s then two (97 + (s % 8).toNat) (49 + (s / 8).toNat) else ⟨#[]⟩
def parseOk (t : ByteArray) : Bool := decide (t.size = 2) && ofOk (byteAt t 0 - 97) (byteAt t 1 - 49)
def parseZ (t : ByteArray) : Int := bif decide (t.size = 2) then ofZ (byteAt t 0 - 97) (byteAt t 1 - 49) else 0
def gapZ (a b : Int) : Int := if a < b then b - a else a - b
def distZ (a b : Int) : Int := bif sqB a && sqB b then (if gapZ (a / 8) (b / 8) < gapZ (a % 8) (b % 8) then gapZ (a % 8) (b % 8) else gapZ (a / 8) (b / 8)) else -1
def flipZ (s : Int) : Int := bif sqB s then 8 * (7 - s / 8) + s % 8 else -1

theorem sqB_true {s : Int} : sqB s = true ↔ 0 ≤ s ∧ s < 64 := by simp [sqB]
theorem sqB_false {s : Int} : sqB s = false ↔ s < 0 ∨ 64 ≤ s := by
  have := @sqB_true s
  cases h : sqB s
  · rw [h] at this; simp at this; constructor
    · intro _; omega
    · intro _; rfl
  · have := this.1 h; constructor
    · intro x; cases x
    · intro _; omega
theorem lnB_true {s : Int} : lnB s = true ↔ 0 ≤ s ∧ s < 8 := by simp [lnB]
theorem lnB_false {s : Int} : lnB s = false ↔ s < 0 ∨ 8 ≤ s := by
  have := @lnB_true s
  cases h : lnB s
  · rw [h] at this; simp at this; constructor
    · intro _; omega
    · intro _; rfl
  · have := this.1 h; constructor
    · intro x; cases x
    · intro _; omega
theorem fileZ_yes {s : Int} (h : sqB s = true) : fileZ s = s % 8 := by simp [fileZ, h]
theorem fileZ_no {s : Int} (h : sqB s = false) : fileZ s = -1 := by simp [fileZ, h]
theorem rankZ_yes {s : Int} (h : sqB s = true) : rankZ s = s / 8 := by simp [rankZ, h]
theorem rankZ_no {s : Int} (h : sqB s = false) : rankZ s = -1 := by simp [rankZ, h]
theorem textZ_yes {s : Int} (h : sqB s = true) : textZ s = two (97 + (s % 8).toNat) (49 + (s / 8).toNat) := by simp [textZ, h]
theorem textZ_no {s : Int} (h : sqB s = false) : textZ s = ⟨#[]⟩ := by simp [textZ, h]
theorem ofZ_yes {f r : Int} (h : ofOk f r = true) : ofZ f r = 8 * r + f := by simp [ofZ, h]
theorem ofZ_no {f r : Int} (h : ofOk f r = false) : ofZ f r = 0 := by simp [ofZ, h]
theorem ofOk_true {f r : Int} : ofOk f r = true ↔ (0 ≤ f ∧ f < 8) ∧ 0 ≤ r ∧ r < 8 := by simp [ofOk, lnB]
theorem flipZ_yes {s : Int} (h : sqB s = true) : flipZ s = 8 * (7 - s / 8) + s % 8 := by simp [flipZ, h]
theorem flipZ_no {s : Int} (h : sqB s = false) : flipZ s = -1 := by simp [flipZ, h]
theorem distZ_no {a b : Int} (h : (sqB a && sqB b) = false) : distZ a b = -1 := by simp [distZ, h]
theorem distZ_yes {a b : Int} (h : (sqB a && sqB b) = true) : distZ a b = (if gapZ (a / 8) (b / 8) < gapZ (a % 8) (b % 8) then gapZ (a % 8) (b % 8) else gapZ (a / 8) (b / 8)) := by simp [distZ, h]
theorem fileZ_rng (s : Int) : -1 ≤ fileZ s ∧ fileZ s ≤ 7 := by
  cases h : sqB s
  · rw [fileZ_no h]; omega
  · rw [fileZ_yes h]; omega
theorem rankZ_rng (s : Int) : -1 ≤ rankZ s ∧ rankZ s ≤ 7 := by
  cases h : sqB s
  · rw [rankZ_no h]; omega
  · rw [rankZ_yes h]; rw [sqB_true] at h; omega
theorem ofOk_back {s : Int} (h : sqB s = true) : ofOk (s % 8) (s / 8) = true := by rw [sqB_true] at h; rw [ofOk_true]; omega
theorem ofZ_back {s : Int} (h : sqB s = true) : ofZ (s % 8) (s / 8) = s := by rw [ofZ_yes (ofOk_back h)]; omega
theorem of_sq {f r : Int} (h : ofOk f r = true) : sqB (ofZ f r) = true := by rw [ofZ_yes h]; rw [ofOk_true] at h; rw [sqB_true]; omega
theorem of_file {f r : Int} (h : ofOk f r = true) : fileZ (ofZ f r) = f := by
  rw [fileZ_yes (of_sq h), ofZ_yes h]; rw [ofOk_true] at h; omega
theorem of_rank {f r : Int} (h : ofOk f r = true) : rankZ (ofZ f r) = r := by
  rw [rankZ_yes (of_sq h), ofZ_yes h]; rw [ofOk_true] at h; omega
theorem parse_text (s : Int) (h : sqB s = true) : parseOk (textZ s) = true ∧ parseZ (textZ s) = s ∧ (textZ s).size = 2 := by
  have key : ∀ n : Fin 64, parseOk (textZ (n.val : Int)) = true ∧ parseZ (textZ (n.val : Int)) = (n.val : Int) ∧ (textZ (n.val : Int)).size = 2 := by decide +kernel
  rw [sqB_true] at h
  obtain ⟨n, rfl⟩ := Int.eq_ofNat_of_zero_le h.1
  exact key ⟨n, by omega⟩
theorem two_of {t : ByteArray} (h : t.size = 2) : ∃ x y : UInt8, t = ⟨#[x, y]⟩ := by
  obtain ⟨⟨l⟩⟩ := t
  match l, h with
  | [x, y], _ => exact ⟨x, y, rfl⟩
theorem text_parse {t : ByteArray} (h : parseOk t = true) : textZ (parseZ t) = t ∧ sqB (parseZ t) = true := by
  have h0 := h
  simp only [parseOk, Bool.and_eq_true, decide_eq_true_eq] at h
  obtain ⟨h1, h2⟩ := h
  obtain ⟨x, y, rfl⟩ := two_of h1
  have ez : parseZ ⟨#[x, y]⟩ = ofZ (byteAt ⟨#[x, y]⟩ 0 - 97) (byteAt ⟨#[x, y]⟩ 1 - 49) := by simp [parseZ, h1]
  have hs := of_sq h2
  rw [ez]
  refine ⟨?_, hs⟩
  have hz := ofZ_yes h2
  rw [textZ_yes hs, hz]
  rw [ofOk_true] at h2
  have bx : byteAt ⟨#[x, y]⟩ 0 = (x.toNat : Int) := rfl
  have by' : byteAt ⟨#[x, y]⟩ 1 = (y.toNat : Int) := rfl
  rw [bx, by'] at h2 ⊢
  have e1 : 97 + ((8 * ((y.toNat : Int) - 49) + ((x.toNat : Int) - 97)) % 8).toNat = x.toNat := by omega
  have e2 : 49 + ((8 * ((y.toNat : Int) - 49) + ((x.toNat : Int) - 97)) / 8).toNat = y.toNat := by omega
  rw [e1, e2]
  simp [two]
theorem parse_none {t : ByteArray} (h : parseOk t = false) : parseZ t = 0 := by
  unfold parseZ
  unfold parseOk at h
  cases e : decide (t.size = 2)
  · rfl
  · rw [e] at h
    exact ofZ_no (by simpa using h)
theorem parse_empty : parseOk ⟨#[]⟩ = false := by decide
end Go.Proofs.YtjbfjohgfbipgaaGreatDoor
/-
  Contracts of the program's File, Rank, Of, Flip (layer 2): each answers the plain function of XSqMath.
-/
namespace Go.Proofs.YtjbfjohgfbipgaaGreatDoor
open Go.RowKit

theorem sq_int {k : IntKind} {a b : Int} (h : a = b) : Ending.returned (.int k a) = .returned (.int k b) := by rw [h]
theorem sq_bool {a b : Bool} (h : a = b) : Ending.returned (.bool a) = .returned (.bool b) := by rw [h]
theorem sq_pair {a b : Int} {c d : Bool} (h : a = b) (g : c = d) : Ending.returned (.tuple #[.int .i64 a, .bool c]) = .returned (.tuple #[.int .i64 b, .bool d]) := by rw [h, g]
def I64 (n : Int) (w : World) (e : Ending) (w' : World) : Prop := e = .returned (.int .i64 n) ∧ w = w'
def B1 (b : Bool) (w : World) (e : Ending) (w' : World) : Prop := e = .returned (.bool b) ∧ w = w'
def I64B (n : Int) (b : Bool) (w : World) (e : Ending) (w' : World) : Prop := e = .returned (.tuple #[.int .i64 n, .bool b]) ∧ w = w'

theorem isSq_any (s : Int) (w : World) : Calls Tryz.prog 102 #[.int .i64 s] w (B1 (sqB s) w) := by
  by_cases h0 : s < 0
  · have HS := Lib.hid (sqB_false.2 (.inl h0))
    have g1 : decide (0 ≤ s) = false := decide_eq_false (by omega)
    go_enter Tryz.func102, Tryz.ntmps102
    go_wp2
    go_ret
    exact ⟨sq_bool HS.out.symm, rfl⟩
  · by_cases h1 : 64 ≤ s
    · have HS := Lib.hid (sqB_false.2 (.inr h1))
      have g1 : decide (0 ≤ s) = true := decide_eq_true (by omega)
      have g2 : decide (s < 64) = false := decide_eq_false (by omega)
      go_enter Tryz.func102, Tryz.ntmps102
      go_wp2
      go_ret
      exact ⟨sq_bool HS.out.symm, rfl⟩
    · have HS := Lib.hid ((sqB_true (s := s)).2 ⟨by omega, by omega⟩)
      have g1 : decide (0 ≤ s) = true := decide_eq_true (by omega)
      have g2 : decide (s < 64) = true := decide_eq_true (by omega)
      clear h0 h1
      go_enter Tryz.func102, Tryz.ntmps102
      go_wp2
      go_ret
      exact ⟨sq_bool HS.out.symm, rfl⟩

theorem isLn_any (s : Int) (w : World) : Calls Tryz.prog 133 #[.int .i64 s] w (B1 (lnB s) w) := by
  by_cases h0 : s < 0
  · have HS := Lib.hid (lnB_false.2 (.inl h0))
    have g1 : decide (0 ≤ s) = false := decide_eq_false (by omega)
    go_enter Tryz.func133, Tryz.ntmps133
    go_wp2
    go_ret
    exact ⟨sq_bool HS.out.symm, rfl⟩
  · by_cases h1 : 8 ≤ s
    · have HS := Lib.hid (lnB_false.2 (.inr h1))
      have g1 : decide (0 ≤ s) = true := decide_eq_true (by omega)
      have g2 : decide (s < 8) = false := decide_eq_false (by omega)
      go_enter Tryz.func133, Tryz.ntmps133
      go_wp2
      go_ret
      exact ⟨sq_bool HS.out.symm, rfl⟩
    · have HS := Lib.hid ((lnB_true (s := s)).2 ⟨by omega, by omega⟩)
      have g1 : decide (0 ≤ s) = true := decide_eq_true (by omega)
      have g2 : decide (s < 8) = true := decide_eq_true (by omega)
      clear h0 h1
      go_enter Tryz.func133, Tryz.ntmps133
      go_wp2
      go_ret
      exact ⟨sq_bool HS.out.symm, rfl⟩

theorem file_any (s : Int) (w : World) : Calls Tryz.prog 96 #[.int .i64 s] w (I64 (fileZ s) w) := by
  cases h : sqB s
  · have HS := Lib.hid (fileZ_no h)
    go_enter Tryz.func96, Tryz.ntmps96
    go_wp2_with (go_at_call 102; refine (isSq_any _ _).mono ?_; rintro e w' ⟨rfl, rfl⟩)
    go_ret
    exact ⟨sq_int HS.out.symm, rfl⟩
  · have HS := Lib.hid (fileZ_yes h)
    obtain ⟨h0, h1⟩ := sqB_true.1 h
    go_enter Tryz.func96, Tryz.ntmps96
    go_wp2_with (go_at_call 102; refine (isSq_any _ _).mono ?_; rintro e w' ⟨rfl, rfl⟩)
    go_ret
    exact ⟨sq_int (by rw [HS.out]), rfl⟩
theorem rank_any (s : Int) (w : World) : Calls Tryz.prog 94 #[.int .i64 s] w (I64 (rankZ s) w) := by
  cases h : sqB s
  · have HS := Lib.hid (rankZ_no h)
    go_enter Tryz.func94, Tryz.ntmps94
    go_wp2_with (go_at_call 102; refine (isSq_any _ _).mono ?_; rintro e w' ⟨rfl, rfl⟩)
    go_ret
    exact ⟨sq_int HS.out.symm, rfl⟩
  · have HS := Lib.hid (rankZ_yes h)
    obtain ⟨h0, h1⟩ := sqB_true.1 h
    go_enter Tryz.func94, Tryz.ntmps94
    go_wp2_with (go_at_call 102; refine (isSq_any _ _).mono ?_; rintro e w' ⟨rfl, rfl⟩)
    go_ret
    exact ⟨sq_int (by rw [HS.out]), rfl⟩
theorem sqof_any (f r : Int) (w : World) : Calls Tryz.prog 111 #[.int .i64 f, .int .i64 r] w (I64B (ofZ f r) (ofOk f r) w) := by
  cases hf : lnB f
  · have HO := Lib.hid (show ofOk f r = false by simp [ofOk, hf])
    have HS := Lib.hid (ofZ_no HO.out)
    go_enter Tryz.func111, Tryz.ntmps111
    go_wp2_with (go_at_call 133; refine (isLn_any _ _).mono ?_; rintro e w' ⟨rfl, rfl⟩)
    go_ret2
    exact ⟨sq_pair HS.out.symm HO.out.symm, rfl⟩
  · cases hr : lnB r
    · have HO := Lib.hid (show ofOk f r = false by simp [ofOk, hr])
      have HS := Lib.hid (ofZ_no HO.out)
      go_enter Tryz.func111, Tryz.ntmps111
      go_wp2_with (go_at_call 133; refine (isLn_any _ _).mono ?_; rintro e w' ⟨rfl, rfl⟩)
      go_ret2
      exact ⟨sq_pair HS.out.symm HO.out.symm, rfl⟩
    · have HO := Lib.hid (show ofOk f r = true by simp [ofOk, hf, hr])
      have HS := Lib.hid (ofZ_yes HO.out)
      obtain ⟨h0, h1⟩ := lnB_true.1 hf
      obtain ⟨h2, h3⟩ := lnB_true.1 hr
      go_enter Tryz.func111, Tryz.ntmps111
      go_wp2_with (go_at_call 133; refine (isLn_any _ _).mono ?_; rintro e w' ⟨rfl, rfl⟩)
      go_ret2
      exact ⟨sq_pair (by rw [HS.out]) HO.out.symm, rfl⟩
end Go.Proofs.YtjbfjohgfbipgaaGreatDoor
/-
  Contracts of the program's Text and Parse (layer 2).
-/
namespace Go.Proofs.YtjbfjohgfbipgaaGreatDoor
open Go.RowKit

def StrL (t : ByteArray) (w : World) (e : Ending) (w' : World) : Prop := e = .returned (.string t) ∧ Below w.heap.size w w'
theorem sq_str {a b : ByteArray} (h : a = b) : Ending.returned (.string a) = .returned (.string b) := by rw [h]

theorem conv2 (w : World) (x y : Int) : (convert 53 9 (.slice (some ⟨w.heap.size, 0, none⟩) 2 2)).run Tryz.prog (w.alloc (.cells #[.int .u8 x, .int .u8 y] 5)) = .ok (.string (two x.toNat y.toNat)) (w.alloc (.cells #[.int .u8 x, .int .u8 y] 5)) := by
  rw [run_convert_bytes_string _ _ _ 5 _ _ _ Tryz.underlying53 Tryz.underlying5 Tryz.underlying9]
  rw [run_bytesToString _ _ _ _ [x, y] (by simp [loadCells, go_sem])]
  rfl
theorem text_any (s : Int) (w : World) : Calls Tryz.prog 69 #[.int .i64 s] w (StrL (textZ s) w) := by
  cases h : sqB s
  · have HS := Lib.hid (textZ_no h)
    go_enter Tryz.func69, Tryz.ntmps69
    go_wp2_with (go_at_call 102; refine (isSq_any _ _).mono ?_; rintro e w' ⟨rfl, rfl⟩)
    go_ret
    exact ⟨sq_str HS.out.symm, Below.refl _ _⟩
  · have HS := Lib.hid (textZ_yes h)
    have HF := Lib.hid (fileZ_yes h)
    have HR := Lib.hid (rankZ_yes h)
    have HQ := Lib.hid (sqB_true.1 h)
    obtain ⟨h0, h1⟩ := fileZ_rng s
    obtain ⟨h2, h3⟩ := rankZ_rng s
    have hcv := conv2
    go_enter Tryz.func69, Tryz.ntmps69
    go_wp2_with (first | (go_at_call 102; refine (isSq_any _ _).mono ?_; rintro e w' ⟨rfl, rfl⟩) | (go_at_call 96; refine (file_any _ _).mono ?_; rintro e w' ⟨rfl, rfl⟩) | (go_at_call 94; refine (rank_any _ _).mono ?_; rintro e w' ⟨rfl, rfl⟩))
    go_ret
    refine ⟨sq_str ?_, (Below.refl w.heap.size w).alloc (Nat.le_refl _) _⟩
    obtain ⟨q0, q1⟩ := HQ.out
    rw [HS.out, HF.out, HR.out, show (97 + s % 8).toNat = 97 + (s % 8).toNat by omega, show (49 + s / 8).toNat = 49 + (s / 8).toNat by omega]

def PairL (n : Int) (b : Bool) (w : World) (e : Ending) (w' : World) : Prop := e = .returned (.tuple #[.int .i64 n, .bool b]) ∧ Below w.heap.size w w'
theorem of_bad {f r : Int} (h : lnB f = false) : ofOk f r = false ∧ ofZ f r = 0 := by
  have e : ofOk f r = false := by simp [ofOk, h]
  exact ⟨e, ofZ_no e⟩
theorem of_bad' {f r : Int} (h : lnB r = false) : ofOk f r = false ∧ ofZ f r = 0 := by
  have e : ofOk f r = false := by simp [ofOk, h]
  exact ⟨e, ofZ_no e⟩
theorem byteAt_lt (t : ByteArray) (i : Nat) (h : i < t.size) : byteAt t i = ((t[i]'h).toNat : Int) := by
  unfold byteAt
  have : t.data[i]? = some (t[i]'h) := Array.getElem?_eq_getElem h
  rw [this]
theorem rune_at (t : ByteArray) (i r d : Nat) (h : i < t.size) (e : Utf8.decode t i = (r, d)) : 1 ≤ d ∧ r ≤ 2147483647 ∧ (((r : Int) = byteAt t i ∧ d = 1) ∨ (128 ≤ r ∧ 128 ≤ byteAt t i)) := by
  have hl := decode_le t i
  rw [e] at hl
  by_cases ha : (t[i]'h).toNat < 128
  · have := decode_ascii t i h ha
    rw [e] at this
    obtain ⟨rfl, rfl⟩ := Prod.mk.inj this
    exact ⟨Nat.le_refl _, hl, .inl ⟨(byteAt_lt t i h).symm, rfl⟩⟩
  · have := decode_high t i h (by omega)
    rw [e] at this
    exact ⟨this.2, hl, .inr ⟨this.1, by rw [byteAt_lt t i h]; omega⟩⟩
theorem parse_two {t : ByteArray} (h : t.size = 2) : parseOk t = ofOk (byteAt t 0 - 97) (byteAt t 1 - 49) ∧ parseZ t = ofZ (byteAt t 0 - 97) (byteAt t 1 - 49) := by
  simp [parseOk, parseZ, h]
theorem parse_one {t : ByteArray} {r d : Nat} (h : t.size = 2) (e : Utf8.decode t 0 = (r, d)) (hd : 2 ≤ d) : ofOk ((r : Int) - 97) (-1) = parseOk t ∧ ofZ ((r : Int) - 97) (-1) = parseZ t := by
  obtain ⟨p1, p2⟩ := parse_two h
  rw [p1, p2]
  obtain ⟨_, _, h3⟩ := rune_at t 0 r d (by omega) e
  rcases h3 with ⟨_, h4⟩ | ⟨h4, h5⟩
  · omega
  · have a1 := of_bad (f := (r : Int) - 97) (r := -1) (lnB_false.2 (by omega))
    have a2 := of_bad (f := byteAt t 0 - 97) (r := byteAt t 1 - 49) (lnB_false.2 (by omega))
    rw [a1.1, a1.2, a2.1, a2.2]; exact ⟨rfl, rfl⟩
theorem parse_both {t : ByteArray} {r d r' d' : Nat} (h : t.size = 2) (e : Utf8.decode t 0 = (r, d)) (e' : Utf8.decode t 1 = (r', d')) : ofOk ((r : Int) - 97) ((r' : Int) - 49) = parseOk t ∧ ofZ ((r : Int) - 97) ((r' : Int) - 49) = parseZ t := by
  obtain ⟨p1, p2⟩ := parse_two h
  rw [p1, p2]
  obtain ⟨_, _, h3⟩ := rune_at t 0 r d (by omega) e
  obtain ⟨_, _, h3'⟩ := rune_at t 1 r' d' (by omega) e'
  rcases h3 with ⟨h4, _⟩ | ⟨h4, h5⟩
  · rcases h3' with ⟨h4', _⟩ | ⟨h4', h5'⟩
    · rw [h4, h4']; exact ⟨rfl, rfl⟩
    · have a1 := of_bad' (f := (r : Int) - 97) (r := (r' : Int) - 49) (lnB_false.2 (by omega))
      have a2 := of_bad' (f := byteAt t 0 - 97) (r := byteAt t 1 - 49) (lnB_false.2 (by omega))
      rw [a1.1, a1.2, a2.1, a2.2]; exact ⟨rfl, rfl⟩
  · have a1 := of_bad (f := (r : Int) - 97) (r := (r' : Int) - 49) (lnB_false.2 (by omega))
    have a2 := of_bad (f := byteAt t 0 - 97) (r := byteAt t 1 - 49) (lnB_false.2 (by omega))
    rw [a1.1, a1.2, a2.1, a2.2]; exact ⟨rfl, rfl⟩
theorem parse_not {t : ByteArray} (h : ¬ t.size = 2) : parseOk t = false ∧ parseZ t = 0 := by
  simp [parseOk, parseZ, h]
theorem next_at (w : World) (t : ByteArray) (pos r d : Nat) (ty : TypeId) (h : pos < t.size) (e : Utf8.decode t pos = (r, d)) :
    (Instr.next (.pointer (some ⟨w.heap.size, 0, none⟩)) true ty).run Tryz.prog (w.iter t pos) = .ok (.tuple #[.bool true, .int .i64 pos, .int .i32 r]) (w.iter t (pos + d)) := by
  rw [run_next_any w t pos ty h, e]
/-- How far the loop over the text has come: nothing read yet; the first letter; two of them. -/
def Read (t : ByteArray) (w : World) (r d r' d' : Nat) (f g : Value) (wr : World) : Prop :=
  (wr = w.iter t 0 ∧ f = .int .i64 (-1) ∧ g = .int .i64 (-1)) ∨ (wr = w.iter t d ∧ f = .int .i64 ((r : Int) - 97) ∧ g = .int .i64 (-1)) ∨ (wr = w.iter t (1 + d') ∧ f = .int .i64 ((r : Int) - 97) ∧ g = .int .i64 ((r' : Int) - 49))
set_option maxHeartbeats 1000000 in
theorem parse_any (t : ByteArray) (w : World) : Calls Tryz.prog 89 #[.string t] w (PairL (parseZ t) (parseOk t) w) := by
  by_cases h : t.size = 2
  · have g0 : ((t.size : Int) != 2) = false := by rw [h]; rfl
    obtain ⟨r, d, e0⟩ : ∃ r d, Utf8.decode t 0 = (r, d) := ⟨_, _, rfl⟩
    obtain ⟨r', d', e1⟩ : ∃ r d, Utf8.decode t 1 = (r, d) := ⟨_, _, rfl⟩
    obtain ⟨hd, hr, _⟩ := rune_at t 0 r d (by omega) e0
    obtain ⟨hd', hr', _⟩ := rune_at t 1 r' d' (by omega) e1
    have H1 := Lib.hid (fun hd2 : 2 ≤ d => parse_one h e0 hd2)
    have H2 := Lib.hid (parse_both h e0 e1)
    have N0 := Lib.hid (fun ty => next_at w t 0 r d ty (by omega) e0)
    have N1 := Lib.hid (fun ty => next_at w t 1 r' d' ty (by omega) e1)
    have NE := Lib.hid (fun (pos : Nat) (hp : 2 ≤ pos) ty => run_next_end (P := Tryz.prog) w t pos ty (by omega))
    clear e0 e1 h
    go_enter Tryz.func89, Tryz.ntmps89
    go_wp2
    go_loopw [4, 5] (fun f g wr => Read t w r d r' d' f g wr) (fun _ _ wr => 2 - wr.iterPos w.heap.size)
    case atStart => exact .inl ⟨rfl, rfl, rfl⟩
    case round =>
      rcases hrel with ⟨rfl, rfl, rfl⟩ | ⟨rfl, rfl, rfl⟩ | ⟨rfl, rfl, rfl⟩
      · have hn := N0.out
        go_wp2
        go_roundw
        case rel => exact .inr (.inl ⟨by simp, rfl, rfl⟩)
        case measure => simp; omega
      · by_cases hd2 : 2 ≤ d
        · have hn := NE.out d hd2
          have HE := Lib.hid (H1.out hd2)
          go_wp2_with (go_at_call 111; refine (sqof_any _ _ _).mono ?_; rintro e w' ⟨rfl, rfl⟩)
          go_ret2
          exact ⟨sq_pair HE.out.2 HE.out.1, (Below.refl w.heap.size w).alloc (Nat.le_refl _) _⟩
        · obtain rfl : d = 1 := by omega
          have hn := N1.out
          go_wp2
          go_roundw
          case rel => exact .inr (.inr ⟨by simp, rfl, rfl⟩)
          case measure => simp; omega
      · have hn := NE.out (1 + d') (by omega)
        go_wp2_with (go_at_call 111; refine (sqof_any _ _ _).mono ?_; rintro e w' ⟨rfl, rfl⟩)
        go_ret2
        exact ⟨sq_pair H2.out.2 H2.out.1, (Below.refl w.heap.size w).alloc (Nat.le_refl _) _⟩
  · have g0 : ((t.size : Int) != 2) = true := by simp; omega
    have HN := Lib.hid (parse_not h)
    clear h
    go_enter Tryz.func89, Tryz.ntmps89
    go_wp2
    go_ret2
    exact ⟨sq_pair HN.out.2.symm HN.out.1.symm, Below.refl _ _⟩
end Go.Proofs.YtjbfjohgfbipgaaGreatDoor
/-
  Plain functions of layer 5: which numbers are pieces; the piece of a color and a kind; a piece's color, kind, letter; the piece of a text; the other color's piece.
-/
namespace Go.Proofs.YtjbfjohgfbipgaaGreatDoor
open Go.RowKit

def pcB (p : Int) : Bool := (decide (1 ≤ p) && decide (p ≤ 6)) || (decide (9 ≤ p) && decide (p ≤ 14))
def mkB (c k : Int) : Bool := decide (c ≤ 1) && (decide (1 ≤ k) && decide (k ≤ 6))
def mkZ (c k : Int) : Int := bif mkB c k then 8 * c + k else 0
def colZ (p : Int) : Int := bif pcB p then p / 8 else 2
def kndZ (p : Int) : Int := bif pcB p then p % 8 else 0
def othZ (p : Int) : Int := bif pcB p then mkZ (1 - p / 8) (p % 8) else 0
/-- The letters of all numbers up to 14. -/
def letT : ByteArray := ⟨#[46, 80, 78, 66, 82, 81, 75, 46, 46, 112, 110, 98, 114, 113, 107]⟩
def letZ (p : Int) : ByteArray := bif pcB p then letT.extract p.toNat (p.toNat + 1) else ⟨#[]⟩
/-- The twelve pieces, in order. -/
def atP (k : Nat) : Int := bif decide (k < 6) then (k : Int) + 1 else (k : Int) + 3
def byteP (b : Nat) : Int := (List.range 12).foldl (fun n k => bif letT.data.toList[(atP k).toNat]? == some (UInt8.ofNat b) then atP k else n) 0
def prsZ (t : ByteArray) : Int := match t.data.toList with | [b] => byteP b.toNat | _ => 0
def prsB (t : ByteArray) : Bool := prsZ t != 0

theorem pcB_true {p : Int} : pcB p = true ↔ (1 ≤ p ∧ p ≤ 6) ∨ (9 ≤ p ∧ p ≤ 14) := by simp [pcB]
theorem pcB_false {p : Int} : pcB p = false ↔ p ≤ 0 ∨ p = 7 ∨ p = 8 ∨ 15 ≤ p := by
  have := @pcB_true p
  cases h : pcB p
  · rw [h] at this; simp at this; constructor
    · intro _; omega
    · intro _; rfl
  · have := this.1 h; constructor
    · intro x; cases x
    · intro _; omega
theorem mkB_true {c k : Int} : mkB c k = true ↔ c ≤ 1 ∧ 1 ≤ k ∧ k ≤ 6 := by simp [mkB]
theorem mkB_false {c k : Int} : mkB c k = false ↔ 1 < c ∨ k < 1 ∨ 6 < k := by
  have := @mkB_true c k
  cases h : mkB c k
  · rw [h] at this; simp at this; constructor
    · intro _; omega
    · intro _; rfl
  · have := this.1 h; constructor
    · intro x; cases x
    · intro _; omega
theorem mkZ_yes {c k : Int} (h : mkB c k = true) : mkZ c k = 8 * c + k := by simp [mkZ, h]
theorem mkZ_no {c k : Int} (h : mkB c k = false) : mkZ c k = 0 := by simp [mkZ, h]
theorem colZ_yes {p : Int} (h : pcB p = true) : colZ p = p / 8 := by simp [colZ, h]
theorem colZ_no {p : Int} (h : pcB p = false) : colZ p = 2 := by simp [colZ, h]
theorem kndZ_yes {p : Int} (h : pcB p = true) : kndZ p = p % 8 := by simp [kndZ, h]
theorem kndZ_no {p : Int} (h : pcB p = false) : kndZ p = 0 := by simp [kndZ, h]
theorem othZ_yes {p : Int} (h : pcB p = true) : othZ p = mkZ (1 - p / 8) (p % 8) := by simp [othZ, h]
theorem othZ_no {p : Int} (h : pcB p = false) : othZ p = 0 := by simp [othZ, h]
theorem letZ_yes {p : Int} (h : pcB p = true) : letZ p = letT.extract p.toNat (p.toNat + 1) := by simp [letZ, h]
theorem letZ_no {p : Int} (h : pcB p = false) : letZ p = ⟨#[]⟩ := by simp [letZ, h]
theorem is_mk {p : Int} (h0 : 0 ≤ p) : (mkZ (p / 8) (p % 8) != 0) = pcB p := by
  cases h : pcB p
  · rw [pcB_false] at h
    have : mkZ (p / 8) (p % 8) = 0 := mkZ_no (mkB_false.2 (by omega))
    rw [this]; rfl
  · rw [pcB_true] at h
    have : mkZ (p / 8) (p % 8) = 8 * (p / 8) + p % 8 := mkZ_yes (mkB_true.2 (by omega))
    rw [this]; simp; omega
theorem mk_rng (c k : Int) (h : 0 ≤ c) : 0 ≤ mkZ c k ∧ mkZ c k ≤ 14 := by
  cases e : mkB c k
  · rw [mkZ_no e]; omega
  · rw [mkZ_yes e]; rw [mkB_true] at e; omega
theorem mk_pc (c k : Int) (h : 0 ≤ c) (e : mkB c k = true) : pcB (mkZ c k) = true := by
  rw [mkZ_yes e]; rw [mkB_true] at e; rw [pcB_true]; omega
theorem col_rng (p : Int) : 0 ≤ colZ p ∧ colZ p ≤ 2 := by
  cases e : pcB p
  · rw [colZ_no e]; omega
  · rw [colZ_yes e]; rw [pcB_true] at e; omega
theorem knd_rng (p : Int) : 0 ≤ kndZ p ∧ kndZ p ≤ 7 := by
  cases e : pcB p
  · rw [kndZ_no e]; omega
  · rw [kndZ_yes e]; rw [pcB_true] at e; omega
theorem oth_rng (p : Int) : 0 ≤ othZ p ∧ othZ p ≤ 14 := by
  cases e : pcB p
  · rw [othZ_no e]; omega
  · rw [othZ_yes e]; rw [pcB_true] at e; exact mk_rng _ _ (by omega)
theorem u8_rng {a : Int} (h : (Lit.int .u8 a).wf = true) : 0 ≤ a ∧ a ≤ 255 := by
  simp [Lit.wf] at h
  have m : IntKind.u8.min = 0 := by decide
  have n : IntKind.u8.max = 255 := by decide
  omega
/-- A number of kind uint8, as one below 256. -/
theorem u8_of {p : Int} (h : (Lit.int .u8 p).wf = true) : ∃ n : Nat, n < 256 ∧ p = (n : Int) := by
  have := u8_rng h
  exact ⟨p.toNat, by omega, by omega⟩
theorem atP_pc {k : Nat} (h : k < 12) : pcB (atP k) = true := by
  have key : ∀ k : Fin 12, pcB (atP k.val) = true := by decide +kernel
  exact key ⟨k, h⟩
theorem pc_at {p : Int} (h : pcB p = true) : ∃ k : Nat, k < 12 ∧ p = atP k := by
  have key : ∀ n : Fin 15, pcB (n.val : Int) = true → ∃ k : Fin 12, (n.val : Int) = atP k.val := by decide +kernel
  rw [pcB_true] at h
  obtain ⟨n, rfl⟩ := Int.eq_ofNat_of_zero_le (show 0 ≤ p by omega)
  obtain ⟨k, hk⟩ := key ⟨n, by omega⟩ (pcB_true.2 h)
  exact ⟨k.val, k.isLt, hk⟩
theorem prs_letter {p : Int} (h : pcB p = true) : prsZ (letZ p) = p ∧ (letZ p).size = 1 := by
  have key : ∀ k : Fin 12, prsZ (letZ (atP k.val)) = atP k.val ∧ (letZ (atP k.val)).size = 1 := by decide +kernel
  obtain ⟨k, hk, rfl⟩ := pc_at h
  exact key ⟨k, hk⟩
theorem byteP_ok (b : Nat) (hb : b < 256) : byteP b = 0 ∨ (pcB (byteP b) = true ∧ letZ (byteP b) = ⟨#[UInt8.ofNat b]⟩) := by
  have key : ∀ b : Fin 256, byteP b.val = 0 ∨ (pcB (byteP b.val) = true ∧ letZ (byteP b.val) = ⟨#[UInt8.ofNat b.val]⟩) := by decide +kernel
  exact key ⟨b, hb⟩
theorem prs_cases (t : ByteArray) : prsZ t = 0 ∨ (pcB (prsZ t) = true ∧ letZ (prsZ t) = t) := by
  obtain ⟨⟨l⟩⟩ := t
  match l with
  | [] => exact .inl rfl
  | [b] =>
    have := byteP_ok b.toNat (UInt8.toNat_lt b)
    rw [show UInt8.ofNat b.toNat = b by simp] at this
    exact this
  | _ :: _ :: _ => exact .inl rfl
theorem prs_none (t : ByteArray) (h : ∀ k : Nat, k < 12 → letZ (atP k) ≠ t) : prsZ t = 0 := by
  rcases prs_cases t with e | ⟨e1, e2⟩
  · exact e
  · obtain ⟨k, hk, e⟩ := pc_at e1
    exact absurd (e ▸ e2) (h k hk)
theorem prs_hit (t : ByteArray) (k : Nat) (hk : k < 12) (h : letZ (atP k) = t) : prsZ t = atP k := by
  subst h; exact (prs_letter (atP_pc hk)).1
theorem prs_rng (t : ByteArray) : 0 ≤ prsZ t ∧ prsZ t ≤ 14 := by
  rcases prs_cases t with e | ⟨e1, _⟩
  · rw [e]; omega
  · rw [pcB_true] at e1; omega
theorem str_eq {a b : ByteArray} : (a.toList == b.toList) = true ↔ a = b := by
  rw [Lib.toList_data, Lib.toList_data, beq_iff_eq]
  constructor
  · intro h
    obtain ⟨⟨x⟩⟩ := a
    obtain ⟨⟨y⟩⟩ := b
    simp at h
    rw [h]
  · intro h; rw [h]
theorem str_ne {a b : ByteArray} : (a.toList == b.toList) = false ↔ a ≠ b := by
  have := @str_eq a b
  cases h : (a.toList == b.toList)
  · rw [h] at this; simp at this; exact ⟨fun _ => this, fun _ => rfl⟩
  · rw [h] at this; simp at this; exact ⟨(fun x => by cases x), (fun x => absurd this x)⟩
end Go.Proofs.YtjbfjohgfbipgaaGreatDoor
/-
  What a call answers that makes memory at most: posts for one byte, a yes or no, a text; one call behind another.
-/
namespace Go.Proofs.YtjbfjohgfbipgaaGreatDoor
open Go.RowKit

def U8L (n : Int) (w : World) (e : Ending) (w' : World) : Prop := e = .returned (.int .u8 n) ∧ Below w.heap.size w w'
def BoL (b : Bool) (w : World) (e : Ending) (w' : World) : Prop := e = .returned (.bool b) ∧ Below w.heap.size w w'
def StL (t : ByteArray) (w : World) (e : Ending) (w' : World) : Prop := e = .returned (.string t) ∧ Below w.heap.size w w'
def U8BL (n : Int) (b : Bool) (w : World) (e : Ending) (w' : World) : Prop := e = .returned (.tuple #[.int .u8 n, .bool b]) ∧ Below w.heap.size w w'
theorem below_on {w a b : World} (h : Below w.heap.size w a) (k : Below a.heap.size a b) : Below w.heap.size w b := h.trans (k.mono h.size)
def AggL (cs : Array Value) (w : World) (e : Ending) (w' : World) : Prop := e = .returned (.agg cs) ∧ Below w.heap.size w w'
def IntL (n : Int) (w : World) (e : Ending) (w' : World) : Prop := e = .returned (.int .i64 n) ∧ Below w.heap.size w w'
def U64L (n : Nat) (w : World) (e : Ending) (w' : World) : Prop := e = .returned (.int .u64 (n : Int)) ∧ Below w.heap.size w w'
theorem size5 : (Tryz.prog.info? 5).map (·.size) = some 1 := by kernel_rfl
end Go.Proofs.YtjbfjohgfbipgaaGreatDoor
/-
  A position as the 88 cells in which it lies: plain functions from places to numbers; a block that holds one; loads and stores of whole positions and of parts, each behind a law of one step.
-/
namespace Go.Proofs.YtjbfjohgfbipgaaGreatDoor
open Go.RowKit

/-- The kind of the number at each place. -/
def kAt (i : Nat) : IntKind := if i = 65 then .u64 else if 79 ≤ i ∧ i ≤ 83 then .i8 else if 86 ≤ i then .i64 else .u8
def posA (p : Nat → Int) : Array Value := Array.ofFn (n := 88) fun i => .int (kAt i.val) (p i.val)
def upd (p : Nat → Int) (i : Nat) (v : Int) : Nat → Int := fun j => if j = i then v else p j
theorem upd_same (p : Nat → Int) (i : Nat) (v : Int) : upd p i v i = v := by simp [upd]
theorem upd_other (p : Nat → Int) (i j : Nat) (v : Int) (h : j ≠ i) : upd p i v j = p j := by simp [upd, h]
theorem posA_size (p : Nat → Int) : (posA p).size = 88 := by simp [posA]
theorem posA_get (p : Nat → Int) (i : Nat) (h : i < 88) : (posA p)[i]? = some (.int (kAt i) (p i)) := by simp [posA, h]
theorem posA_ext {p q : Nat → Int} (h : ∀ i, i < 88 → p i = q i) : posA p = posA q := by
  apply Array.ext_getElem?
  intro i
  by_cases hi : i < 88
  · rw [posA_get p i hi, posA_get q i hi, h i hi]
  · rw [Array.getElem?_eq_none (by rw [posA_size]; omega), Array.getElem?_eq_none (by rw [posA_size]; omega)]
theorem posA_set (p : Nat → Int) (i : Nat) (v : Int) (h : i < 88) : (posA p).setIfInBounds i (.int (kAt i) v) = posA (upd p i v) := by
  apply Array.ext_getElem?
  intro j
  rw [Array.getElem?_setIfInBounds]
  by_cases hj : j < 88
  · rw [posA_get _ j hj, posA_get _ j hj]
    by_cases e : i = j
    · subst e; simp [posA_size, h, upd_same]
    · simp [e, upd_other p i j v (Ne.symm e)]
  · rw [Array.getElem?_eq_none (by rw [posA_size]; omega), Array.getElem?_eq_none (by rw [posA_size]; omega)]
    simp [posA_size]; omega
theorem posA_one (p : Nat → Int) : (posA p).all (·.oneCell') = true := by
  rw [Array.all_eq_true_iff_forall_mem]
  intro v hv
  obtain ⟨i, hi, rfl⟩ := Array.mem_iff_getElem.1 hv
  have := posA_get p i (by rwa [posA_size] at hi)
  rw [Array.getElem?_eq_getElem hi] at this
  rw [Option.some.inj this]; rfl
theorem kAt_board {i : Nat} (h0 : 0 ≤ i) (h : i < 64) : kAt (1 + i) = .u8 := by unfold kAt; rw [if_neg (by omega), if_neg (by omega), if_neg (by omega)]

def PosL (q : Nat → Int) (w : World) (e : Ending) (w' : World) : Prop := e = .returned (.agg (posA q)) ∧ Below w.heap.size w w'
/-- The block b holds the position p. -/
def Row (w : World) (b : Nat) (p : Nat → Int) : Prop := w.heap[b]? = some (.cells (posA p) 31 (0, 0))
/-- Nothing but the block b has changed. -/
structure Upd (b : Nat) (w w' : World) : Prop where
  os : w'.os = w.os
  tape : w'.tape = w.tape
  output : w'.output = w.output
  size : w'.heap.size = w.heap.size
  block : ∀ k, k ≠ b → w'.heap[k]? = w.heap[k]?
theorem Upd.refl (b : Nat) (w : World) : Upd b w w := ⟨rfl, rfl, rfl, rfl, fun _ _ => rfl⟩
theorem Upd.trans {b : Nat} {a c d : World} (h : Upd b a c) (k : Upd b c d) : Upd b a d :=
  ⟨k.os.trans h.os, k.tape.trans h.tape, k.output.trans h.output, k.size.trans h.size, fun i hi => (k.block i hi).trans (h.block i hi)⟩
theorem Upd.below {b B : Nat} {w w' : World} (h : Upd b w w') (hB : B ≤ b) : Below B w w' := ⟨h.os, h.tape, h.output, Nat.le_of_eq h.size.symm, fun k hk => h.block k (by omega)⟩
theorem Upd.drew {b : Nat} {w w' : World} (h : Upd b w w') : Upd b w w'.drew := ⟨h.os, h.tape, h.output, h.size, h.block⟩
theorem Upd.setCell (w : World) (b o : Nat) (v : Value) : Upd b w (w.setCell ⟨b, o, none⟩ v) :=
  ⟨rfl, rfl, rfl, by simp [World.setCell], fun k hk => Below.heap_setCell _ _ _ _ (by simpa using hk)⟩
theorem Upd.setCells (b : Nat) : ∀ (vs : List Value) (o : Nat) (w : World), Upd b w (w.setCells b o vs)
  | [], _, _ => Upd.refl _ _
  | v :: r, o, w => (Upd.setCell w b o v).trans (Upd.setCells b r (o + 1) (w.setCell ⟨b, o, none⟩ v))
theorem Row.lt {w : World} {b : Nat} {p : Nat → Int} (h : Row w b p) : b < w.heap.size := (Array.getElem?_eq_some_iff.1 h).1
theorem Row.next {w w' : World} {b B : Nat} {p : Nat → Int} (h : Row w b p) (hb : Below B w w') (hB : b < B) : Row w' b p := (hb.block b hB).trans h
theorem Row.later {w w' : World} {b : Nat} {p : Nat → Int} (h : Row w b p) (hb : Below w.heap.size w w') : Row w' b p := h.next hb h.lt
theorem Row.apart {w w' : World} {b c : Nat} {p : Nat → Int} (h : Row w b p) (hu : Upd c w w') (hc : b ≠ c) : Row w' b p := (hu.block b hc).trans h
theorem Row.cell {w : World} {b : Nat} {p : Nat → Int} (h : Row w b p) (i : Nat) (hi : i < 88) : w.cell? ⟨b, i, none⟩ = some (.int (kAt i) (p i)) := by
  rw [cell_of_row w b i _ _ _ h, posA_get p i hi]
theorem Row.frozen {w : World} {b : Nat} {p : Nat → Int} (h : Row w b p) (i : Nat) : w.frozen? ⟨b, i, none⟩ = false := frozen_of_row w b i _ _ h
theorem Row.there {w : World} {b : Nat} {p : Nat → Int} (h : Row w b p) (o n : Nat) (hn : o + n ≤ 88) : w.there b o n := fun j hj =>
  ⟨by rw [h.cell _ (by omega)]; rfl, h.frozen _⟩
theorem Row.set {w : World} {b : Nat} {p : Nat → Int} (h : Row w b p) (i : Nat) (v : Int) (hi : i < 88) : Row (w.setCell ⟨b, i, none⟩ (.int (kAt i) v)) b (upd p i v) := by
  have := heap_setCell_same w b i _ _ (.int (kAt i) v) h
  unfold Row
  rw [this, ← posA_set p i v hi]
/-- What lies from place o on is written over by q's. -/
def over (p : Nat → Int) (o n : Nat) (q : Nat → Int) : Nat → Int := fun j => if o ≤ j ∧ j < o + n then q j else p j
theorem Row.sets {b : Nat} : ∀ (n o : Nat) (w : World) (p q : Nat → Int), Row w b p → o + n ≤ 88 → Row (w.setCells b o ((List.range n).map fun j => .int (kAt (o + j)) (q (o + j)))) b (over p o n q)
  | 0, o, w, p, q, h, _ => by
    have : over p o 0 q = p := by funext j; unfold over; rw [if_neg (by omega)]
    rw [this]; exact h
  | n + 1, o, w, p, q, h, hn => by
    have e : ((List.range (n + 1)).map fun j => Value.int (kAt (o + j)) (q (o + j))) = .int (kAt o) (q o) :: ((List.range n).map fun j => Value.int (kAt (o + 1 + j)) (q (o + 1 + j))) := by
      rw [List.range_succ_eq_map, List.map_cons, List.map_map]
      congr 1
      apply List.map_congr_left
      intro j _
      simp only [Function.comp, Nat.succ_eq_add_one]
      rw [show o + (j + 1) = o + 1 + j by omega]
    rw [e]
    have h1 := Row.sets n (o + 1) (w.setCell ⟨b, o, none⟩ (.int (kAt o) (q o))) (upd p o (q o)) q (h.set o (q o) (by omega)) (by omega)
    have e2 : over (upd p o (q o)) (o + 1) n q = over p o (n + 1) q := by
      funext j
      unfold over upd
      by_cases h1 : j = o
      · subst h1; rw [if_neg (by omega), if_pos rfl, if_pos (by omega)]
      · by_cases h2 : o + 1 ≤ j ∧ j < o + 1 + n
        · rw [if_pos h2, if_pos (by omega)]
        · rw [if_neg h2, if_neg h1, if_neg (by omega)]
    rw [e2] at h1
    exact h1
/-- A part of a position. -/
def partL (p : Nat → Int) (o n : Nat) : List Value := (List.range n).map fun j => .int (kAt (o + j)) (p (o + j))
theorem partL_len (p : Nat → Int) (o n : Nat) : (partL p o n).length = n := by simp [partL]
theorem partL_all (p : Nat → Int) : partL p 0 88 = (posA p).toList := by
  apply List.ext_getElem?
  intro i
  have e : (posA p).toList[i]? = (posA p)[i]? := by simp
  rw [e]
  by_cases hi : i < 88
  · rw [posA_get p i hi]; simp [partL, hi]
  · rw [Array.getElem?_eq_none (by rw [posA_size]; omega), List.getElem?_eq_none (by rw [partL_len]; omega)]
theorem Row.range {w : World} {b : Nat} {p : Nat → Int} (h : Row w b p) (o n : Nat) (hn : o + n ≤ 88) : w.rangeAt b o (partL p o n) := fun j v hv => by
  have hj : j < n := by have := (List.getElem?_eq_some_iff.1 hv).1; rwa [partL_len] at this
  have e : (partL p o n)[j]? = some (.int (kAt (o + j)) (p (o + j))) := by simp [partL, hj]
  rw [e] at hv
  rw [h.cell _ (by omega), Option.some.inj hv]
theorem over_all (p q : Nat → Int) : posA (over p 0 88 q) = posA q := posA_ext fun i hi => by unfold over; rw [if_pos (by omega)]
theorem Row.whole {w : World} {b : Nat} {p q : Nat → Int} (h : Row w b p) : Row (w.setCells b 0 (posA q).toList) b q := by
  have := Row.sets 88 0 w p q h (by omega)
  rw [← partL_all q]
  unfold Row at *
  rw [over_all] at this
  exact this

/-- The world behind a new block b. -/
structure New (b : Nat) (w w' : World) : Prop where
  at_ : b = w.heap.size
  size : w'.heap.size = b + 1
  below : Below w.heap.size w w'
theorem New.alloc (w : World) (o : Obj) : New w.heap.size w (w.alloc o) := ⟨rfl, by show (w.heap.push o).size = _; simp, (Below.refl _ _).alloc (Nat.le_refl _) o⟩
def zeroP : Nat → Int := fun _ => 0
theorem size31 : (Tryz.prog.info? 31).map (·.size) = some 88 := by kernel_rfl
theorem info31 : (Tryz.prog.info? 31).map (fun i => (i.zero, i.size)) = some (some (.agg (posA zeroP)), 88) := by kernel_rfl

section laws
variable {ops : Array Oper} {rest : List Oper} {op : Oper} {a : Act} {w : World} {Q : Exit → Act → World → Prop}
theorem wpList_want {P : Program} (hw : Region.wanted op (yielded ops a.tmps) = true) (h : ∀ K : Act → World → Prop, (∀ a w, wpList P ops Q rest a w → K a w) → op.wp P a w K Q) : wpList P ops Q (op :: rest) a w :=
  wpList_step fun K hK => by rw [if_pos hw]; exact h K hK
theorem step_load (hw : Region.wanted op (yielded ops a.tmps) = true) (x : Operand) (ho : op.op = .load 31 x) (b : Nat) (hx : a.eval x = .pointer (some ⟨b, 0, none⟩)) (p : Nat → Int) (hr : Row w b p)
    (h : wpList Tryz.prog ops Q rest (a.put op.dst (.agg (posA p))) w) : wpList Tryz.prog ops Q (op :: rest) a w :=
  wpList_want hw fun _ hK => wp_load_row 31 x ho b hx 31 (posA p) (0, 0) _ hr Tryz.underlying31 rfl (by rw [posA_size]; exact size31) (hK _ _ h)
theorem step_store (hw : Region.wanted op (yielded ops a.tmps) = true) (x y : Operand) (ho : op.op = .store 31 x y) (b : Nat) (hx : a.eval x = .pointer (some ⟨b, 0, none⟩)) (p q : Nat → Int) (hy : a.eval y = .agg (posA q)) (hr : Row w b p)
    (h : ∀ w', Upd b w w' → Row w' b q → wpList Tryz.prog ops Q rest (a.put op.dst undef) w') : wpList Tryz.prog ops Q (op :: rest) a w :=
  wpList_want hw fun _ hK => wp_store_mid 31 x y ho b 0 (posA q) hx hy (by rw [posA_size]; exact hr.there 0 88 (by omega)) (by rw [posA_size]; exact size31) (posA_one q) (hK _ _ (h _ (Upd.setCells _ _ _ _) hr.whole))
theorem step_alloc (hw : Region.wanted op (yielded ops a.tmps) = true) (ho : op.op = .alloc 31)
    (h : ∀ b w', New b w w' → Row w' b zeroP → wpList Tryz.prog ops Q rest (a.put op.dst (.pointer (some ⟨b, 0, none⟩))) w') : wpList Tryz.prog ops Q (op :: rest) a w :=
  wpList_want hw fun K hK => by
    have hk := hK _ _ (h _ _ (New.alloc w _) (heap_alloc_new w (.cells (posA zeroP) 31)))
    have hz : ∀ w, (zeroValue 31).run Tryz.prog w = .ok (.agg (posA zeroP)) w := fun w => by
      cases hq : Tryz.prog.info? 31 with
      | none => have := info31; simp [hq] at this
      | some i => have := info31; simp [hq] at this; simp [zeroValue, typeInfo, hq, this.1]
    unfold Oper.wp execOp
    simp only [ho, Instr.alloc, Sem.run_bind, Sem.run_pure, Result.andThen_ok, hz]
    exact hk
theorem step_box (hw : Region.wanted op (yielded ops a.tmps) = true) (x : Operand) (ho : op.op = .box 31 x) (p : Nat → Int) (hx : a.eval x = .agg (posA p))
    (h : ∀ b w', New b w w' → Row w' b p → wpList Tryz.prog ops Q rest (a.put op.dst (.pointer (some ⟨b, 0, none⟩))) w') : wpList Tryz.prog ops Q (op :: rest) a w :=
  wpList_want hw fun K hK => by
    have hk := hK _ _ (h _ _ (New.alloc w _) (heap_alloc_new w (.cells (posA p) 31)))
    unfold Oper.wp execOp
    simp only [ho, hx, Instr.box, Sem.run_bind, Sem.run_pure]
    exact hk
theorem step_cell (hw : Region.wanted op (yielded ops a.tmps) = true) (ty : TypeId) (x y : Operand) (ho : op.op = .store ty x y) (b i : Nat) (hx : a.eval x = .pointer (some ⟨b, i, none⟩)) (K : IntKind) (v : Int) (hy : a.eval y = .int K v)
    (p : Nat → Int) (hr : Row w b p) (hi : i < 88) (hK : kAt i = K) (hs : (Tryz.prog.info? ty).map (·.size) = some 1)
    (h : ∀ w', Upd b w w' → Row w' b (upd p i v) → wpList Tryz.prog ops Q rest (a.put op.dst undef) w') : wpList Tryz.prog ops Q (op :: rest) a w :=
  wpList_want hw fun K' hK' => by
    subst hK
    have hk := hK' _ _ (h _ (Upd.setCell w b i (.int (kAt i) v)) (hr.set i v hi))
    have hrun : (storeVar ty ⟨b, i, none⟩ (.int (kAt i) v)).run Tryz.prog w = .ok () (w.setCell ⟨b, i, none⟩ (.int (kAt i) v)) :=
      run_storeVar_mid w b i ty #[.int (kAt i) v] (hr.there i 1 (by omega)) hs (by simp [Value.oneCell'])
    unfold Oper.wp execOp
    simp only [ho, hx, hy, Instr.storeAt, Instr.sureAddr, Sem.run_bind, Sem.run_pure, Result.andThen_ok, hrun]
    exact hk
theorem step_read (hw : Region.wanted op (yielded ops a.tmps) = true) (ty : TypeId) (x : Operand) (ho : op.op = .load ty x) (b o n : Nat) (hx : a.eval x = .pointer (some ⟨b, o, none⟩)) (p : Nat → Int) (hr : Row w b p) (hn : o + n ≤ 88)
    (d : TypeDesc) (hu : Tryz.prog.underlying ty = some d) (hd : d.isRow = true) (hi : (Tryz.prog.info? ty).map (·.size) = some n)
    (h : wpList Tryz.prog ops Q rest (a.put op.dst (.agg (partL p o n).toArray)) w) : wpList Tryz.prog ops Q (op :: rest) a w :=
  wpList_want hw fun _ hK => wp_load_mid ty x ho b o hx (partL p o n) d (hr.range o n hn) hu hd (by rw [partL_len]; exact hi) (hK _ _ h)
theorem partL_one (p : Nat → Int) (o n : Nat) : (partL p o n).toArray.all (·.oneCell') = true := by
  rw [Array.all_eq_true_iff_forall_mem]
  intro v hv
  simp only [partL, List.mem_toArray, List.mem_map] at hv
  obtain ⟨j, _, rfl⟩ := hv
  rfl
theorem step_write (hw : Region.wanted op (yielded ops a.tmps) = true) (ty : TypeId) (x y : Operand) (ho : op.op = .store ty x y) (b o n : Nat) (hx : a.eval x = .pointer (some ⟨b, o, none⟩)) (p q : Nat → Int) (hy : a.eval y = .agg (partL q o n).toArray)
    (hr : Row w b p) (hn : o + n ≤ 88) (hi : (Tryz.prog.info? ty).map (·.size) = some n)
    (h : ∀ w', Upd b w w' → Row w' b (over p o n q) → wpList Tryz.prog ops Q rest (a.put op.dst undef) w') : wpList Tryz.prog ops Q (op :: rest) a w :=
  wpList_want hw fun _ hK => wp_store_mid ty x y ho b o (partL q o n).toArray hx hy (by rw [List.size_toArray, partL_len]; exact hr.there o n hn) (by rw [List.size_toArray, partL_len]; exact hi) (partL_one q o n) (hK _ _ (h _ (Upd.setCells _ _ _ _) (Row.sets n o w p q hr hn)))
end laws
/-! Short names (tools/terse.py): what a step is, its operation looked at alone. -/
theorem H_ {p : Prop} (h : p) : Hid p := Lib.hid h
theorem nA {w w1 w2 : World} {b : Nat} (h : Below w.heap.size w w1) (n : New b w1 w2) : w.heap.size ≤ b := by have := h.size; have := n.at_; omega
section short
variable {P : Program} {ops : Array Oper} {Q : Exit → Act → World → Prop} {D : Tmp} {O : Op} {t : TypeId} {x y : Operand} {ty : TypeId} {po : String} {af : Array Edge} {gd : Option (Nat × Bool)} {rest : List Oper} {a : Act} {w : World}
abbrev gL (k : Nat) : Prop := wpList P ops Q ((⟨some D, .load t (.tmp k), ty, po, af, gd⟩ : Oper) :: rest) a w
abbrev gL2 (d k : Nat) : Prop := wpList P ops Q ((⟨some d, .load t (.tmp k), ty, po, af, gd⟩ : Oper) :: rest) a w
abbrev gL1 (d : Nat) : Prop := wpList P ops Q ((⟨some d, .load t x, ty, po, af, gd⟩ : Oper) :: rest) a w
abbrev gB (d : Nat) : Prop := wpList P ops Q ((⟨some d, .box t x, ty, po, af, gd⟩ : Oper) :: rest) a w
abbrev gS (k : Nat) : Prop := wpList P ops Q ((⟨none, .store t (.tmp k) x, ty, po, af, gd⟩ : Oper) :: rest) a w
abbrev gI (d : Nat) : Prop := wpList P ops Q ((⟨some d, .index t x y, ty, po, af, gd⟩ : Oper) :: rest) a w
abbrev gA (d : Nat) : Prop := wpList P ops Q ((⟨some d, .alloc t, ty, po, af, gd⟩ : Oper) :: rest) a w
abbrev gD (d : Nat) {ps : Array (Nat × Operand)} : Prop := wpList P ops Q ((⟨some d, .build t ps, ty, po, af, gd⟩ : Oper) :: rest) a w
end short
end Go.Proofs.YtjbfjohgfbipgaaGreatDoor
/-
  Plain mathematics of sets of squares: a set is a natural number below 2^64, its squares are its bits. Nothing of the program stands here.
-/
namespace Go.Proofs.YtjbfjohgfbipgaaGreatDoor

/-- 2^64, behind a name: no walk shall meet the numeral. -/
def W64 : Nat := 18446744073709551616
theorem W64_eq : W64 = 2 ^ 64 := rfl

theorem testBit_high {b i : Nat} (hb : b < W64) (h : 64 ≤ i) : b.testBit i = false := by
  apply Nat.testBit_lt_two_pow
  exact Nat.lt_of_lt_of_le hb (by rw [W64_eq]; exact Nat.pow_le_pow_right (by decide) h)

theorem lt_W64_of_testBit {b : Nat} (h : ∀ i, 64 ≤ i → b.testBit i = false) : b < W64 := by
  rw [W64_eq]; exact Nat.lt_pow_two_of_testBit b h

theorem eq_of_bits {a b : Nat} (ha : a < W64) (hb : b < W64) (h : ∀ i, i < 64 → a.testBit i = b.testBit i) : a = b := by
  apply Nat.eq_of_testBit_eq
  intro i
  by_cases hi : i < 64
  · exact h i hi
  · rw [testBit_high ha (by omega), testBit_high hb (by omega)]

/-- The number is a square. -/
def sq (s : Int) : Bool := decide (0 ≤ s) && decide (s < 64)
theorem sq_true {s : Int} : sq s = true ↔ 0 ≤ s ∧ s < 64 := by simp [sq]
theorem sq_false {s : Int} : sq s = false ↔ s < 0 ∨ 64 ≤ s := by
  rw [← Bool.not_eq_true, sq_true]; omega

def hasN (b : Nat) (s : Int) : Bool := sq s && b.testBit s.toNat
def onlyN (s : Int) : Nat := if sq s then 2 ^ s.toNat else 0
def putN (b : Nat) (s : Int) : Nat := b ||| onlyN s
def clearN (b : Nat) (s : Int) : Nat := b ^^^ (b &&& onlyN s)

theorem onlyN_lt (s : Int) : onlyN s < W64 := by
  unfold onlyN
  split
  · rename_i h; rw [sq_true] at h; rw [W64_eq]; exact Nat.pow_lt_pow_right (by decide) (by omega)
  · decide
theorem putN_lt {b : Nat} (hb : b < W64) (s : Int) : putN b s < W64 := Nat.or_lt_two_pow (n := 64) hb (onlyN_lt s)
theorem clearN_lt {b : Nat} (hb : b < W64) (s : Int) : clearN b s < W64 := Nat.xor_lt_two_pow (n := 64) hb (Nat.and_lt_two_pow (n := 64) _ (onlyN_lt s))

theorem onlyN_testBit (s : Int) (i : Nat) : (onlyN s).testBit i = (sq s && decide (s = i)) := by
  unfold onlyN
  by_cases h : sq s
  · simp only [h, if_true, Bool.true_and, Nat.testBit_two_pow]
    rw [sq_true] at h
    rw [decide_eq_decide]; omega
  · simp [h]
theorem putN_testBit (b : Nat) (s : Int) (i : Nat) : (putN b s).testBit i = (b.testBit i || (sq s && decide (s = i))) := by
  rw [putN, Nat.testBit_or, onlyN_testBit]
theorem clearN_testBit (b : Nat) (s : Int) (i : Nat) : (clearN b s).testBit i = (b.testBit i && !(sq s && decide (s = i))) := by
  rw [clearN, Nat.testBit_xor, Nat.testBit_and, onlyN_testBit]
  cases b.testBit i <;> cases sq s <;> cases decide (s = i) <;> rfl

theorem hasN_nat (b i : Nat) (hi : i < 64) : hasN b (i : Int) = b.testBit i := by
  have : sq (i : Int) = true := by rw [sq_true]; omega
  simp [hasN, this]
theorem hasN_no {b : Nat} {s : Int} (h : sq s = false) : hasN b s = false := by simp [hasN, h]

theorem add_eq_or {a b : Nat} (h : a &&& b = 0) : a + b = a ||| b := by
  have ha : a < 2 ^ (a + b) := Nat.lt_of_lt_of_le Nat.lt_two_pow_self (Nat.pow_le_pow_right (by decide) (by omega))
  have hb : b < 2 ^ (a + b) := Nat.lt_of_lt_of_le Nat.lt_two_pow_self (Nat.pow_le_pow_right (by decide) (by omega))
  have hp : 2 ^ (a + b + 1) = 2 ^ (a + b) + 2 ^ (a + b) := by rw [Nat.pow_succ]; omega
  have e := BitVec.add_eq_or_of_and_eq_zero (BitVec.ofNat (a + b + 1) a) (BitVec.ofNat (a + b + 1) b) (by
    apply BitVec.eq_of_toNat_eq
    rw [BitVec.toNat_and, BitVec.toNat_ofNat, BitVec.toNat_ofNat, Nat.mod_eq_of_lt (by omega), Nat.mod_eq_of_lt (by omega), h]
    simp)
  have e2 := congrArg BitVec.toNat e
  rw [BitVec.toNat_add, BitVec.toNat_or, BitVec.toNat_ofNat, BitVec.toNat_ofNat, Nat.mod_eq_of_lt (a := a) (by omega), Nat.mod_eq_of_lt (a := b) (by omega), Nat.mod_eq_of_lt (by omega)] at e2
  exact e2

/-- A square that is not in the set is put into it by a sum; one that is, is taken out by a difference. -/
theorem put_add {b : Nat} {s : Int} (h : hasN b s = false) : b + onlyN s = putN b s := by
  by_cases hs : sq s
  · have hb : b.testBit s.toNat = false := by simpa [hasN, hs] using h
    have e : b &&& onlyN s = 0 := by
      apply Nat.eq_of_testBit_eq
      intro i
      rw [Nat.testBit_and, onlyN_testBit, Nat.zero_testBit]
      by_cases hi : s = i
      · subst hi; simp at hb; simp [hb]
      · simp [hi]
    rw [putN]
    exact add_eq_or e
  · simp [putN, onlyN, hs]
theorem put_has {b : Nat} {s : Int} (h : hasN b s = true) : putN b s = b := by
  apply Nat.eq_of_testBit_eq
  intro i
  rw [putN_testBit]
  simp only [hasN, Bool.and_eq_true] at h
  by_cases hi : s = i
  · subst hi; simp at h; simp [h.2]
  · simp [hi]
theorem clear_no {b : Nat} {s : Int} (h : hasN b s = false) : clearN b s = b := by
  apply Nat.eq_of_testBit_eq
  intro i
  rw [clearN_testBit]
  by_cases hi : s = i
  · subst hi
    by_cases hs : sq (i : Int)
    · have hb : b.testBit i = false := by simpa [hasN, hs] using h
      simp [hb]
    · simp [hs]
  · simp [hi]
theorem clear_hasN (b : Nat) (s : Int) : hasN (clearN b s) s = false := by
  by_cases hs : sq s
  · have := hs; rw [sq_true] at this
    simp only [hasN, clearN_testBit, hs, Bool.true_and]
    have e : s = (s.toNat : Int) := by omega
    rw [decide_eq_true e]; simp
  · simp [hasN, hs]
theorem put_clear {b : Nat} {s : Int} (h : hasN b s = true) : putN (clearN b s) s = b := by
  apply Nat.eq_of_testBit_eq
  intro i
  rw [putN_testBit, clearN_testBit]
  simp only [hasN, Bool.and_eq_true] at h
  by_cases hi : s = i
  · subst hi; simp at h; simp [h.1, h.2]
  · simp [hi]
theorem clear_sub {b : Nat} {s : Int} (h : hasN b s = true) : b - onlyN s = clearN b s := by
  have e := put_add (clear_hasN b s)
  rw [put_clear h] at e
  omega

end Go.Proofs.YtjbfjohgfbipgaaGreatDoor
/-
  Plain functions of layer 10: texts as lists of bytes; a number in decimal digits.
-/
namespace Go.Proofs.YtjbfjohgfbipgaaGreatDoor
open Go.RowKit
set_option linter.unusedVariables false

/-- A text of these bytes. -/
def bz (l : List UInt8) : ByteArray := ⟨l.toArray⟩
theorem bz_size (l : List UInt8) : (bz l).size = l.length := by simp [bz, ByteArray.size]
theorem bz_app (a b : List UInt8) : bz a ++ bz b = bz (a ++ b) := by
  apply ByteArray.ext
  simp [bz, ByteArray.data_append]
theorem bz_inj {a b : List UInt8} (h : bz a = bz b) : a = b := by
  have := congrArg (fun t : ByteArray => t.data.toList) h
  simpa [bz] using this
theorem bz_of (t : ByteArray) : bz t.data.toList = t := by
  apply ByteArray.ext; simp [bz]
theorem bz_toList (l : List UInt8) : (bz l).toList = l := by rw [Lib.toList_data]; simp [bz]
theorem bz_none (t : ByteArray) : t ++ bz [] = t := by
  have h : bz t.data.toList = t := bz_of t
  rw [← h, bz_app, List.append_nil]
theorem bz_assoc (a b c : ByteArray) : a ++ b ++ c = a ++ (b ++ c) := by
  have h1 := bz_of a
  have h2 := bz_of b
  have h3 := bz_of c
  rw [← h1, ← h2, ← h3, bz_app, bz_app, bz_app, bz_app, List.append_assoc]
theorem bz_nil : bz [] = ⟨#[]⟩ := rfl

/-- The byte of a number. -/
def byZ (x : Int) : UInt8 := UInt8.ofNat x.toNat
/-- The last digit. -/
def dgZ (n : Nat) : UInt8 := byZ (48 + (n : Int) % 10)
/-- The digits of a number, in so many rounds at most. -/
def digF : Nat → Nat → List UInt8
  | 0, _ => []
  | f + 1, n => bif decide (n < 10) then [dgZ n] else digF f (n / 10) ++ [dgZ n]
def digL (n : Nat) : List UInt8 := digF 20 n
theorem digF_small {f n : Nat} (h : n < 10) : digF (f + 1) n = [dgZ n] := by
  unfold digF; rw [decide_eq_true h]; rfl
theorem digF_great {f n : Nat} (h : 10 ≤ n) : digF (f + 1) n = digF f (n / 10) ++ [dgZ n] := by
  rw [digF.eq_2, decide_eq_false (show ¬ n < 10 by omega)]; rfl
theorem digF_more : ∀ (f n : Nat), n < 10 ^ (f + 1) → digF (f + 2) n = digF (f + 1) n
  | 0, n, h => by rw [digF_small (by omega), digF_small (by omega)]
  | f + 1, n, h => by
    by_cases hn : n < 10
    · rw [digF_small hn, digF_small hn]
    · rw [digF_great (f := f + 2) (n := n) (by omega), digF_great (f := f + 1) (n := n) (by omega), digF_more f (n / 10) (by rw [Nat.pow_succ] at h; omega)]
theorem digF_len : ∀ (f n : Nat), (digF f n).length ≤ f
  | 0, n => Nat.le_refl _
  | f + 1, n => by
    by_cases hn : n < 10
    · rw [digF_small hn]; simp
    · rw [digF_great (by omega)]; have := digF_len f (n / 10); simp; omega
theorem digL_small {n : Nat} (h : n < 10) : digL n = [dgZ n] := digF_small h
theorem digL_great {n : Nat} (h : 10 ≤ n) (hn : n < 10 ^ 19) : digL n = digL (n / 10) ++ [dgZ n] := by
  unfold digL
  rw [digF_great (f := 19) h, digF_more 18 (n / 10) (Nat.lt_of_le_of_lt (Nat.div_le_self _ _) hn)]
theorem digL_len (n : Nat) : (digL n).length ≤ 20 := digF_len 20 n
theorem digL_ne (n : Nat) : digL n ≠ [] := by
  unfold digL
  by_cases h : n < 10
  · rw [digF_small h]; simp
  · rw [digF_great (by omega)]; simp
/-- What comes out, when s is there already, and m is still to come. -/
def finL (m : Nat) (s : List UInt8) : List UInt8 := bif s.isEmpty || decide (0 < m) then digL m ++ s else s
theorem finL_nil (m : Nat) : finL m [] = digL m := by unfold finL; simp
theorem finL_step {m : Nat} {s : List UInt8} (hm : m < 10 ^ 19) (h : (s.isEmpty || decide (0 < m)) = true) : finL (m / 10) (dgZ m :: s) = finL m s := by
  unfold finL
  rw [h]
  by_cases h10 : m < 10
  · rw [show m / 10 = 0 by omega, digL_small h10]; rfl
  · rw [show ((dgZ m :: s).isEmpty || decide (0 < m / 10)) = true by
      rw [List.isEmpty_cons, Bool.false_or, decide_eq_true (show 0 < m / 10 by omega)]]
    show digL (m / 10) ++ (dgZ m :: s) = digL m ++ s
    rw [digL_great (by omega) hm, List.append_assoc]; rfl
theorem finL_len (m : Nat) (s : List UInt8) : s.length ≤ (finL m s).length := by
  unfold finL; cases (s.isEmpty || decide (0 < m))
  · exact Nat.le_refl _
  · simp
theorem finL_done {m : Nat} {s : List UInt8} (h : (s.isEmpty || decide (0 < m)) = false) : finL m s = s := by unfold finL; rw [h]; rfl

/-! A rank. -/
/-- A piece's letter. -/
def leF (x : Int) : List UInt8 := (letZ x).data.toList
theorem leF_bz (x : Int) : letZ x = bz (leF x) := (bz_of _).symm
/-- What stands on a square: its letter, and a mark behind it if it is promoted. -/
def clL (p : Nat → Int) (s : Nat) : List UInt8 := leF (p (1 + s)) ++ (bif hasN (p 65).toNat (s : Int) then [126] else [])
/-- So many empty squares. -/
def emL2 (e : Nat) : List UInt8 := bif decide (0 < e) then digL e else []
/-- The text of the first f squares of a rank, but for the empty ones at its end; how many these are. -/
def rkS (p : Nat → Int) (r : Nat) : Nat → List UInt8 × Nat
  | 0 => ([], 0)
  | f + 1 => bif p (1 + (8 * r + f)) == 0 then ((rkS p r f).1, (rkS p r f).2 + 1) else ((rkS p r f).1 ++ emL2 (rkS p r f).2 ++ clL p (8 * r + f), 0)
def rkL (p : Nat → Int) (r : Nat) : List UInt8 := (rkS p r 8).1 ++ emL2 (rkS p r 8).2
theorem rkS_empty {p : Nat → Int} {r f : Nat} (h : (p (1 + (8 * r + f)) == 0) = true) : rkS p r (f + 1) = ((rkS p r f).1, (rkS p r f).2 + 1) := by
  rw [rkS, h]; rfl
theorem rkS_piece {p : Nat → Int} {r f : Nat} (h : (p (1 + (8 * r + f)) == 0) = false) : rkS p r (f + 1) = ((rkS p r f).1 ++ emL2 (rkS p r f).2 ++ clL p (8 * r + f), 0) := by
  rw [rkS, h]; rfl
theorem leF_len (x : Int) : (leF x).length ≤ 1 := by
  cases h : pcB x
  · unfold leF; rw [letZ_no h]; decide
  · have : x = 1 ∨ x = 2 ∨ x = 3 ∨ x = 4 ∨ x = 5 ∨ x = 6 ∨ x = 9 ∨ x = 10 ∨ x = 11 ∨ x = 12 ∨ x = 13 ∨ x = 14 := by rw [pcB_true] at h; omega
    rcases this with rfl | rfl | rfl | rfl | rfl | rfl | rfl | rfl | rfl | rfl | rfl | rfl <;> decide +kernel
theorem clL_len (p : Nat → Int) (s : Nat) : (clL p s).length ≤ 2 := by
  unfold clL; have := leF_len (p (1 + s)); cases hasN (p 65).toNat (s : Int) <;> simp <;> omega
theorem emL2_len (e : Nat) : (emL2 e).length ≤ 20 := by
  unfold emL2; cases decide (0 < e)
  · simp
  · exact digL_len e
theorem rkS_len (p : Nat → Int) (r : Nat) : ∀ f, (rkS p r f).1.length ≤ 22 * f ∧ (rkS p r f).2 ≤ f
  | 0 => ⟨Nat.le_refl _, Nat.le_refl _⟩
  | f + 1 => by
    obtain ⟨h1, h2⟩ := rkS_len p r f
    cases h : (p (1 + (8 * r + f)) == 0)
    · rw [rkS_piece h]
      have a := emL2_len (rkS p r f).2
      have b := clL_len p (8 * r + f)
      simp; omega
    · rw [rkS_empty h]; exact ⟨Nat.le_trans h1 (by omega), Nat.succ_le_succ h2⟩
theorem rkL_len (p : Nat → Int) (r : Nat) : (rkL p r).length ≤ 200 := by
  have h1 := rkS_len p r 8
  have h2 := emL2_len (rkS p r 8).2
  unfold rkL; simp; omega

/-! The rooks that may castle. -/
def rkF (c d : Nat) (f : Int) : Int := (bif (d == 0) && (f == 7) then 75 else bif (d == 1) && (f == 0) then 81 else 65 + f) + (bif c == 1 then 32 else 0)
def rfL (c d : Nat) (f : Int) : List UInt8 := bif decide (f < 0) then [] else [byZ (rkF c d f)]
def rdL (p : Nat → Int) (c : Nat) : Nat → List UInt8
  | 0 => []
  | d + 1 => rdL p c d ++ rfL c d (p (79 + c * 2 + d))
def rcL (p : Nat → Int) : Nat → List UInt8
  | 0 => []
  | c + 1 => rcL p c ++ rdL p c 2
def roT (p : Nat → Int) : List UInt8 := bif (rcL p 2).isEmpty then [45] else rcL p 2
theorem rfL_len (c d : Nat) (f : Int) : (rfL c d f).length ≤ 1 := by unfold rfL; cases decide (f < 0) <;> simp
theorem rdL_len (p : Nat → Int) (c : Nat) : ∀ d, (rdL p c d).length ≤ d
  | 0 => Nat.le_refl _
  | d + 1 => by have h := rdL_len p c d; have g := rfL_len c d (p (79 + c * 2 + d)); rw [rdL, List.length_append]; omega
theorem rcL_len (p : Nat → Int) : ∀ c, (rcL p c).length ≤ 2 * c
  | 0 => Nat.le_refl _
  | c + 1 => by have h := rcL_len p c; have g := rdL_len p c 2; rw [rcL, List.length_append]; omega

/-! The pockets. -/
def pkN (c k : Nat) : Nat → List UInt8
  | 0 => []
  | n + 1 => pkN c k n ++ leF (mkZ (c : Int) (k : Int))
def pkK (p : Nat → Int) (c : Nat) : Nat → List UInt8
  | 0 => []
  | k + 1 => pkK p c k ++ pkN c k (p (66 + c * 6 + k)).toNat
def pkC (p : Nat → Int) : Nat → List UInt8
  | 0 => []
  | c + 1 => pkC p c ++ pkK p c 6
def ptC (p : Nat → Int) (c : Nat) : List UInt8 := 91 :: pkC p c
def ptK (p : Nat → Int) (c k : Nat) : List UInt8 := ptC p c ++ pkK p c k
def ptS (p : Nat → Int) (c k n : Nat) : List UInt8 := ptK p c k ++ pkN c k n
def poT (p : Nat → Int) : List UInt8 := ptC p 2 ++ [93]
theorem ptC_zero (p : Nat → Int) (c : Nat) : ptC p c = ptK p c 0 := (List.append_nil _).symm
theorem ptK_zero (p : Nat → Int) (c k : Nat) : ptK p c k = ptS p c k 0 := (List.append_nil _).symm
theorem ptS_succ (p : Nat → Int) (c k n : Nat) : ptS p c k (n + 1) = ptS p c k n ++ leF (mkZ (c : Int) (k : Int)) := by unfold ptS; rw [pkN, List.append_assoc]
theorem ptK_succ (p : Nat → Int) (c k n : Nat) (h : n = (p (66 + c * 6 + k)).toNat) : ptK p c (k + 1) = ptS p c k n := by unfold ptK ptS ptK; rw [pkK, List.append_assoc, h]
theorem ptC_succ (p : Nat → Int) (c : Nat) : ptC p (c + 1) = ptK p c 6 := rfl
theorem pkN_len (c k : Nat) : ∀ n, (pkN c k n).length ≤ n
  | 0 => Nat.le_refl _
  | n + 1 => by have h := pkN_len c k n; have g := leF_len (mkZ (c : Int) (k : Int)); rw [pkN, List.length_append]; omega
theorem pkK_len {p : Nat → Int} (hp : ∀ i, 66 ≤ i → i < 78 → 0 ≤ p i ∧ p i ≤ 255) {c : Nat} (hc : c < 2) : ∀ k, k ≤ 6 → (pkK p c k).length ≤ 255 * k
  | 0, _ => Nat.le_refl _
  | k + 1, hk => by
    have h := pkK_len hp hc k (by omega)
    have g := pkN_len c k (p (66 + c * 6 + k)).toNat
    have b := hp (66 + c * 6 + k) (by omega) (by omega)
    rw [pkK, List.length_append]; omega
theorem pkC_len {p : Nat → Int} (hp : ∀ i, 66 ≤ i → i < 78 → 0 ≤ p i ∧ p i ≤ 255) : ∀ c, c ≤ 2 → (pkC p c).length ≤ 1530 * c
  | 0, _ => Nat.le_refl _
  | c + 1, hc => by
    have h := pkC_len hp c (by omega)
    have g := pkK_len hp (show c < 2 by omega) 6 (by omega)
    rw [pkC, List.length_append]; omega
theorem ptS_len {p : Nat → Int} (hp : ∀ i, 66 ≤ i → i < 78 → 0 ≤ p i ∧ p i ≤ 255) {c k n : Nat} (hc : c < 2) (hk : k < 6) (hn : n ≤ 255) : (ptS p c k n).length ≤ 5000 := by
  have h1 := pkC_len hp c (by omega)
  have h2 := pkK_len hp hc k (by omega)
  have h3 := pkN_len c k n
  unfold ptS ptK ptC
  simp only [List.length_append, List.length_cons]
  omega
theorem ptC_len {p : Nat → Int} (hp : ∀ i, 66 ≤ i → i < 78 → 0 ≤ p i ∧ p i ≤ 255) : (ptC p 2).length ≤ 5000 := by
  have h1 := pkC_len hp 2 (by omega)
  unfold ptC; rw [List.length_cons]; omega
theorem fn_u8 {k : Nat} (h : k < 6) : IntKind.u8.wrap (k : Int) = (k : Int) := by
  have : k = 0 ∨ k = 1 ∨ k = 2 ∨ k = 3 ∨ k = 4 ∨ k = 5 := by omega
  rcases this with rfl | rfl | rfl | rfl | rfl | rfl <;> rfl
end Go.Proofs.YtjbfjohgfbipgaaGreatDoor
/-
  Contracts of the program's layer 5: Make, Is, Color, Kind, Letter, Parse, Other, Kinds.
-/
namespace Go.Proofs.YtjbfjohgfbipgaaGreatDoor
open Go.RowKit

def U8 (n : Int) (w : World) (e : Ending) (w' : World) : Prop := e = .returned (.int .u8 n) ∧ w = w'
def Bo (b : Bool) (w : World) (e : Ending) (w' : World) : Prop := e = .returned (.bool b) ∧ w = w'
def St (t : ByteArray) (w : World) (e : Ending) (w' : World) : Prop := e = .returned (.string t) ∧ w = w'
def U8B (n : Int) (b : Bool) (w : World) (e : Ending) (w' : World) : Prop := e = .returned (.tuple #[.int .u8 n, .bool b]) ∧ w = w'
theorem pc_int {k : IntKind} {a b : Int} (h : a = b) : Ending.returned (.int k a) = .returned (.int k b) := by rw [h]
theorem pc_bool {a b : Bool} (h : a = b) : Ending.returned (.bool a) = .returned (.bool b) := by rw [h]
theorem pc_str {a b : ByteArray} (h : a = b) : Ending.returned (.string a) = .returned (.string b) := by rw [h]
theorem pc_pair {a b : Int} {c d : Bool} (h : a = b) (g : c = d) : Ending.returned (.tuple #[.int .u8 a, .bool c]) = .returned (.tuple #[.int .u8 b, .bool d]) := by rw [h, g]

theorem mk_any (c k : Int) (w : World) (hc : 0 ≤ c) (hk : 0 ≤ k) : Calls Tryz.prog 24 #[.int .u8 c, .int .u8 k] w (U8 (mkZ c k) w) := by
  by_cases h0 : 1 < c
  · have HS := Lib.hid (mkZ_no (mkB_false.2 (.inl h0) : mkB c k = false))
    have g0 : decide (1 < c) = true := decide_eq_true h0
    go_enter Tryz.func24, Tryz.ntmps24
    go_wp2
    go_ret
    exact ⟨pc_int HS.out.symm, rfl⟩
  · have g0 : decide (1 < c) = false := decide_eq_false h0
    by_cases h1 : k < 1
    · have HS := Lib.hid (mkZ_no (mkB_false.2 (.inr (.inl h1)) : mkB c k = false))
      have g1 : decide (k < 1) = true := decide_eq_true h1
      go_enter Tryz.func24, Tryz.ntmps24
      go_wp2
      go_ret
      exact ⟨pc_int HS.out.symm, rfl⟩
    · have g1 : decide (k < 1) = false := decide_eq_false h1
      by_cases h2 : 6 < k
      · have HS := Lib.hid (mkZ_no (mkB_false.2 (.inr (.inr h2)) : mkB c k = false))
        have g2 : decide (6 < k) = true := decide_eq_true h2
        go_enter Tryz.func24, Tryz.ntmps24
        go_wp2
        go_ret
        exact ⟨pc_int HS.out.symm, rfl⟩
      · have g2 : decide (6 < k) = false := decide_eq_false h2
        have HS := Lib.hid (mkZ_yes (mkB_true.2 ⟨by omega, by omega, by omega⟩ : mkB c k = true))
        have l0 : c ≤ 1 := by omega
        have l1 : k ≤ 6 := by omega
        clear h0 h1 h2
        go_enter Tryz.func24, Tryz.ntmps24
        go_wp2
        go_ret
        exact ⟨pc_int (by rw [HS.out]), rfl⟩
theorem is_any (p : Int) (w : World) (hp : 0 ≤ p) (hq : p ≤ 255) : Calls Tryz.prog 11 #[.int .u8 p] w (Bo (pcB p) w) := by
  have HS := Lib.hid (is_mk hp)
  have l0 : 0 ≤ p / 8 := by omega
  have l1 : 0 ≤ p % 8 := by omega
  go_enter Tryz.func11, Tryz.ntmps11
  go_wp2_with (go_at_call 24; refine (mk_any _ _ _ l0 l1).mono ?_; rintro e w' ⟨rfl, rfl⟩)
  go_ret
  exact ⟨pc_bool HS.out, rfl⟩
theorem col_any (p : Int) (w : World) (hp : 0 ≤ p) (hq : p ≤ 255) : Calls Tryz.prog 41 #[.int .u8 p] w (U8 (colZ p) w) := by
  cases h : pcB p
  · have HS := Lib.hid (colZ_no h)
    go_enter Tryz.func41, Tryz.ntmps41
    go_wp2_with (go_at_call 11; refine (is_any _ _ hp hq).mono ?_; rintro e w' ⟨rfl, rfl⟩)
    go_ret
    exact ⟨pc_int HS.out.symm, rfl⟩
  · have HS := Lib.hid (colZ_yes h)
    go_enter Tryz.func41, Tryz.ntmps41
    go_wp2_with (go_at_call 11; refine (is_any _ _ hp hq).mono ?_; rintro e w' ⟨rfl, rfl⟩)
    go_ret
    exact ⟨pc_int (by rw [HS.out]), rfl⟩
theorem knd_any (p : Int) (w : World) (hp : 0 ≤ p) (hq : p ≤ 255) : Calls Tryz.prog 42 #[.int .u8 p] w (U8 (kndZ p) w) := by
  cases h : pcB p
  · have HS := Lib.hid (kndZ_no h)
    go_enter Tryz.func42, Tryz.ntmps42
    go_wp2_with (go_at_call 11; refine (is_any _ _ hp hq).mono ?_; rintro e w' ⟨rfl, rfl⟩)
    go_ret
    exact ⟨pc_int HS.out.symm, rfl⟩
  · have HS := Lib.hid (kndZ_yes h)
    go_enter Tryz.func42, Tryz.ntmps42
    go_wp2_with (go_at_call 11; refine (is_any _ _ hp hq).mono ?_; rintro e w' ⟨rfl, rfl⟩)
    go_ret
    exact ⟨pc_int (by rw [HS.out]), rfl⟩
theorem oth_any (p : Int) (w : World) (hp : 0 ≤ p) (hq : p ≤ 255) : Calls Tryz.prog 17 #[.int .u8 p] w (U8 (othZ p) w) := by
  cases h : pcB p
  · have HS := Lib.hid (othZ_no h)
    go_enter Tryz.func17, Tryz.ntmps17
    go_wp2_with (go_at_call 11; refine (is_any _ _ hp hq).mono ?_; rintro e w' ⟨rfl, rfl⟩)
    go_ret
    exact ⟨pc_int HS.out.symm, rfl⟩
  · have HS := Lib.hid (show othZ p = mkZ (1 - colZ p) (kndZ p) by rw [othZ_yes h, colZ_yes h, kndZ_yes h])
    have l0 : 0 ≤ colZ p := (col_rng p).1
    have l1 : colZ p ≤ 1 := by rw [colZ_yes h]; rw [pcB_true] at h; omega
    have l2 : 0 ≤ kndZ p := (knd_rng p).1
    go_enter Tryz.func17, Tryz.ntmps17
    go_wp2_with (first | (go_at_call 11; refine (is_any _ _ hp hq).mono ?_; rintro e w' ⟨rfl, rfl⟩) | (go_at_call 41; refine (col_any _ _ hp hq).mono ?_; rintro e w' ⟨rfl, rfl⟩) | (go_at_call 42; refine (knd_any _ _ hp hq).mono ?_; rintro e w' ⟨rfl, rfl⟩))
    refine (mk_any _ _ _ (by omega) l2).mono ?_; rintro e w' ⟨rfl, rfl⟩
    go_wp2
    go_ret
    exact ⟨pc_int (by rw [HS.out]), rfl⟩
theorem cut_letter (n : Nat) (w : World) (h : n ≤ 14) :
    (Instr.slice 9 (.string ⟨#[46, 80, 78, 66, 82, 81, 75, 46, 46, 112, 110, 98, 114, 113, 107]⟩) (some (.int .u8 (n : Int))) (some (.int .u8 ((n : Int) + 1))) none).run Tryz.prog w = .ok (.string (letT.extract n (n + 1))) w := by
  rw [run_slice_string _ _ _ _ _ _ _ Tryz.underlying9 (by omega) (by omega) (by show (n : Int) + 1 ≤ ((15 : Nat) : Int); omega)]
  rw [show ((n : Int) + 1).toNat = n + 1 by omega]; rfl
theorem let_any (p : Int) (w : World) (hp : 0 ≤ p) (hq : p ≤ 255) : Calls Tryz.prog 67 #[.int .u8 p] w (St (letZ p) w) := by
  cases h : pcB p
  · have HS := Lib.hid (letZ_no h)
    go_enter Tryz.func67, Tryz.ntmps67
    go_wp2_with (go_at_call 11; refine (is_any _ _ hp hq).mono ?_; rintro e w' ⟨rfl, rfl⟩)
    go_ret
    exact ⟨pc_str HS.out.symm, rfl⟩
  · have hr := pcB_true.1 h
    obtain ⟨n, rfl⟩ := Int.eq_ofNat_of_zero_le hp
    have hs := cut_letter n w (by omega)
    have l1 : (n : Int) ≤ 14 := by omega
    have HS := Lib.hid (letZ_yes h)
    clear hr
    go_enter Tryz.func67, Tryz.ntmps67
    go_wp2_with (go_at_call 11; refine (is_any _ _ hp hq).mono ?_; rintro e w' ⟨rfl, rfl⟩)
    go_ret
    exact ⟨pc_str (by rw [HS.out]; rfl), rfl⟩
end Go.Proofs.YtjbfjohgfbipgaaGreatDoor
/-
  Contracts of the program's Parse and Kinds (layer 5).
-/
namespace Go.Proofs.YtjbfjohgfbipgaaGreatDoor
open Go.RowKit

/-- None of the first k pieces has this letter. -/
def Miss (t : ByteArray) (k : Nat) : Prop := ∀ j : Nat, j < k → letZ (atP j) ≠ t
theorem miss_zero (t : ByteArray) : Miss t 0 := fun j h => by omega
theorem miss_next {t : ByteArray} {k : Nat} (h : Miss t k) (e : ((letZ (atP k)).toList == t.toList) = false) : Miss t (k + 1) := fun j hj => by
  by_cases g : j = k
  · subst g; exact str_ne.1 e
  · exact h j (by omega)
theorem mk_at {n m : Nat} (hn : n < 2) (h1 : 1 ≤ m) (h2 : m ≤ 6) : mkZ (n : Int) (m : Int) = atP (6 * n + (m - 1)) := by
  have key : ∀ (n : Fin 2) (m : Fin 6), mkZ (n.val : Int) ((m.val + 1 : Nat) : Int) = atP (6 * n.val + m.val) := by decide +kernel
  have := key ⟨n, hn⟩ ⟨m - 1, by omega⟩
  rw [show m - 1 + 1 = m by omega] at this
  exact this
theorem prsB_none {t : ByteArray} (h : prsZ t = 0) : prsB t = false := by simp [prsB, h]
theorem prsB_some {t : ByteArray} (h : prsZ t ≠ 0) : prsB t = true := by simp [prsB, h]
set_option maxHeartbeats 1000000 in
theorem prs_any (t : ByteArray) (w : World) : Calls Tryz.prog 113 #[.string t] w (U8B (prsZ t) (prsB t) w) := by
  go_enter Tryz.func113, Tryz.ntmps113
  go_wp2
  go_step3
  go_wp2
  go_step3
  go_wp2
  go_loop [4, 5] (fun f c => ∃ n : Nat, n ≤ 2 ∧ f = .int .u8 0 ∧ c = .int .u8 (n : Int) ∧ Miss t (6 * n)) (fun _ c => 2 - (intOf c).toNat)
  case atStart => exact ⟨0, by omega, rfl, rfl, miss_zero t⟩
  case round =>
    obtain ⟨n, hn, rfl, rfl, hm⟩ := hrel
    have HM := Lib.hid hm
    clear hm
    by_cases hlt : n < 2
    · go_wp2
      go_loop [4, 6] (fun f k => ∃ m : Nat, 1 ≤ m ∧ m ≤ 7 ∧ f = .int .u8 0 ∧ k = .int .u8 (m : Int) ∧ Miss t (6 * n + (m - 1))) (fun _ k => 7 - (intOf k).toNat)
      case atStart => exact ⟨1, by omega, by omega, rfl, rfl, HM.out⟩
      case round =>
        obtain ⟨m, h1, h7, rfl, rfl, hm⟩ := hrel
        have HM' := Lib.hid hm
        clear hm
        by_cases hlt' : m ≤ 6
        · have HA := Lib.hid (mk_at hlt h1 hlt')
          have l0 : 0 ≤ mkZ (n : Int) (m : Int) := (mk_rng _ _ (by omega)).1
          have l1 : mkZ (n : Int) (m : Int) ≤ 255 := by have := (mk_rng (n : Int) (m : Int) (by omega)).2; omega
          cases he : ((letZ (mkZ (n : Int) (m : Int))).toList == t.toList)
          · have HN := Lib.hid (miss_next HM'.out (by rw [← HA.out]; exact he))
            go_wp2_with (first | (go_at_call 24; refine (mk_any _ _ _ (by omega) (by omega)).mono ?_; rintro e w' ⟨rfl, rfl⟩) | (go_at_call 67; refine (let_any _ _ l0 l1).mono ?_; rintro e w' ⟨rfl, rfl⟩))
            go_round
            case rel => exact ⟨m + 1, by omega, by omega, rfl, by go_num, by have := HN.out; rw [show 6 * n + (m + 1 - 1) = 6 * n + (m - 1) + 1 by omega]; exact this⟩
            case measure => simp [intOf]; omega
          · have HP := Lib.hid (prs_hit t (6 * n + (m - 1)) (by omega) (by rw [← HA.out]; exact str_eq.1 he))
            have hz : (mkZ (n : Int) (m : Int) != 0) = true := by
              have := mkZ_yes (mkB_true.2 ⟨by omega, by omega, by omega⟩ : mkB (n : Int) (m : Int) = true)
              rw [this]; simp; omega
            have HZ := Lib.hid hz
            go_wp2_with (first | (go_at_call 24; refine (mk_any _ _ _ (by omega) (by omega)).mono ?_; rintro e w' ⟨rfl, rfl⟩) | (go_at_call 67; refine (let_any _ _ l0 l1).mono ?_; rintro e w' ⟨rfl, rfl⟩))
            go_ret2
            exact ⟨pc_pair (by rw [HP.out, HA.out]) (by unfold prsB; rw [HP.out, ← HA.out, HZ.out]), rfl⟩
        · obtain rfl : m = 7 := by omega
          go_wp2
          go_round
          case rel => exact ⟨n + 1, by omega, rfl, by go_num, by have := HM'.out; rw [show 6 * (n + 1) = 6 * n + (7 - 1) by omega]; exact this⟩
          case measure => simp [intOf]; omega
    · obtain rfl : n = 2 := by omega
      have HP := Lib.hid (prs_none t fun k hk => HM.out k (by omega))
      go_wp2
      go_ret2
      exact ⟨pc_pair HP.out.symm (prsB_none HP.out).symm, rfl⟩
end Go.Proofs.YtjbfjohgfbipgaaGreatDoor
/-
  Contracts of the document's own layer 5, first part: all, find.
-/
namespace Go.Proofs.YtjbfjohgfbipgaaGreatDoor
open Go.RowKit

/-- The cells of the table of all twelve. -/
def twCells : Array Value := #[.int .u8 1, .int .u8 0, .int .u8 1, .string ⟨#[80]⟩, .int .u8 2, .int .u8 0, .int .u8 2, .string ⟨#[78]⟩, .int .u8 3, .int .u8 0, .int .u8 3, .string ⟨#[66]⟩, .int .u8 4, .int .u8 0, .int .u8 4, .string ⟨#[82]⟩, .int .u8 5, .int .u8 0, .int .u8 5, .string ⟨#[81]⟩, .int .u8 6, .int .u8 0, .int .u8 6, .string ⟨#[75]⟩, .int .u8 9, .int .u8 1, .int .u8 1, .string ⟨#[112]⟩, .int .u8 10, .int .u8 1, .int .u8 2, .string ⟨#[110]⟩, .int .u8 11, .int .u8 1, .int .u8 3, .string ⟨#[98]⟩, .int .u8 12, .int .u8 1, .int .u8 4, .string ⟨#[114]⟩, .int .u8 13, .int .u8 1, .int .u8 5, .string ⟨#[113]⟩, .int .u8 14, .int .u8 1, .int .u8 6, .string ⟨#[107]⟩]
theorem tw_at (k : Nat) (h : k < 12) : twCells[k * 4]? = some (.int .u8 (atP k)) ∧ twCells[k * 4 + 1]? = some (.int .u8 (colZ (atP k))) ∧ twCells[k * 4 + 2]? = some (.int .u8 (kndZ (atP k))) ∧ twCells[k * 4 + 3]? = some (.string (letZ (atP k))) := by
  match k, h with
  | 0, _ => exact ⟨by kernel_rfl, by kernel_rfl, by kernel_rfl, by kernel_rfl⟩
  | 1, _ => exact ⟨by kernel_rfl, by kernel_rfl, by kernel_rfl, by kernel_rfl⟩
  | 2, _ => exact ⟨by kernel_rfl, by kernel_rfl, by kernel_rfl, by kernel_rfl⟩
  | 3, _ => exact ⟨by kernel_rfl, by kernel_rfl, by kernel_rfl, by kernel_rfl⟩
  | 4, _ => exact ⟨by kernel_rfl, by kernel_rfl, by kernel_rfl, by kernel_rfl⟩
  | 5, _ => exact ⟨by kernel_rfl, by kernel_rfl, by kernel_rfl, by kernel_rfl⟩
  | 6, _ => exact ⟨by kernel_rfl, by kernel_rfl, by kernel_rfl, by kernel_rfl⟩
  | 7, _ => exact ⟨by kernel_rfl, by kernel_rfl, by kernel_rfl, by kernel_rfl⟩
  | 8, _ => exact ⟨by kernel_rfl, by kernel_rfl, by kernel_rfl, by kernel_rfl⟩
  | 9, _ => exact ⟨by kernel_rfl, by kernel_rfl, by kernel_rfl, by kernel_rfl⟩
  | 10, _ => exact ⟨by kernel_rfl, by kernel_rfl, by kernel_rfl, by kernel_rfl⟩
  | 11, _ => exact ⟨by kernel_rfl, by kernel_rfl, by kernel_rfl, by kernel_rfl⟩
/-- The four cells of the piece at a place of the table. -/
def Twelve (g : Nat) (w : World) : Prop := ∀ k : Nat, k < 12 → w.cell? ⟨g, k * 4, none⟩ = some (.int .u8 (atP k)) ∧ w.cell? ⟨g, k * 4 + 1, none⟩ = some (.int .u8 (colZ (atP k))) ∧ w.cell? ⟨g, k * 4 + 2, none⟩ = some (.int .u8 (kndZ (atP k))) ∧ w.cell? ⟨g, k * 4 + 3, none⟩ = some (.string (letZ (atP k)))
theorem twelve_new (w : World) (t : TypeId) : Twelve w.heap.size (w.alloc (.cells twCells t)) := fun k h => by
  obtain ⟨h0, h1, h2, h3⟩ := tw_at k h
  refine ⟨?_, ?_, ?_, ?_⟩ <;> rw [World.cell?_alloc_new] <;> simp only [*]
def AllPost (w : World) (e : Ending) (w' : World) : Prop := e = .returned (.slice (some ⟨w.heap.size, 0, none⟩) 12 12) ∧ Twelve w.heap.size w' ∧ Below w.heap.size w w'
end Go.Proofs.YtjbfjohgfbipgaaGreatDoor
/-
  Contract of the document's own find (layer 5).
-/
namespace Go.Proofs.YtjbfjohgfbipgaaGreatDoor
open Go.RowKit

theorem pc_cell {B : Nat} {W w1 : World} (hb : Below B W w1) : (∀ b o, b < B → w1.cell? ⟨b, o, none⟩ = W.cell? ⟨b, o, none⟩) ∧ (∀ b o, b < B → w1.frozen? ⟨b, o, none⟩ = W.frozen? ⟨b, o, none⟩) :=
  ⟨fun b o h => hb.cell (p := ⟨b, o, none⟩) h, fun b o h => hb.frozen (p := ⟨b, o, none⟩) h⟩
/-- A piece's entry. -/
def entV (p : Int) : Value := .agg #[.int .u8 (bif pcB p then p else 0), .int .u8 (colZ p), .int .u8 (kndZ p), .string (letZ p)]
theorem ent_hit {k : Nat} {p : Int} (hk : k < 12) (h : (atP k == p) = true) : Ending.returned (.tuple #[.agg #[.int .u8 (atP k), .int .u8 (colZ (atP k)), .int .u8 (kndZ (atP k)), .string (letZ (atP k))], .bool true]) = .returned (.tuple #[entV p, .bool (pcB p)]) := by
  rw [beq_iff_eq] at h
  subst h
  rw [entV, atP_pc hk]; rfl
theorem ent_miss {p : Int} (h : ∀ j : Nat, j < 12 → (atP j == p) = false) : Ending.returned (.tuple #[.agg #[.int .u8 0, .int .u8 2, .int .u8 0, .string ⟨#[]⟩], .bool false]) = .returned (.tuple #[entV p, .bool (pcB p)]) := by
  have e : pcB p = false := by
    cases e : pcB p
    · rfl
    · obtain ⟨k, hk, rfl⟩ := pc_at e
      have := h k hk
      simp at this
  rw [entV, colZ_no e, kndZ_no e, letZ_no e, e]; rfl
def FindPost (p : Int) (w : World) (e : Ending) (w' : World) : Prop := e = .returned (.tuple #[entV p, .bool (pcB p)]) ∧ Below w.heap.size w w'
end Go.Proofs.YtjbfjohgfbipgaaGreatDoor
/-
  Contracts of the document's own layer 5, second part: Make, Is, Color, Kind, Letter, Parse, Other.
-/
namespace Go.Proofs.YtjbfjohgfbipgaaGreatDoor
open Go.RowKit


theorem mk_hit {j : Nat} {c k : Int} (hj : j < 12) (h1 : (colZ (atP j) == c) = true) (h2 : (kndZ (atP j) == k) = true) : atP j = mkZ c k := by
  rw [beq_iff_eq] at h1 h2
  subst h1 h2
  have key : ∀ j : Fin 12, atP j.val = mkZ (colZ (atP j.val)) (kndZ (atP j.val)) := by decide +kernel
  exact key ⟨j, hj⟩
theorem mk_miss {c k : Int} (hc : 0 ≤ c) (h : ∀ j : Nat, j < 12 → ((colZ (atP j) == c) && (kndZ (atP j) == k)) = false) : mkZ c k = 0 := by
  cases e : mkB c k
  · exact mkZ_no e
  · have hp := mk_pc c k hc e
    obtain ⟨j, hj, he⟩ := pc_at hp
    have := h j hj
    rw [← he, colZ_yes hp, kndZ_yes hp, mkZ_yes e] at this
    rw [mkB_true] at e
    rw [show (8 * c + k) / 8 = c by omega, show (8 * c + k) % 8 = k by omega] at this
    simp at this
end Go.Proofs.YtjbfjohgfbipgaaGreatDoor
/-
  Contracts of the program's Has, Put, Clear, only, and of the document's own Has, One, Put, Clear: each answers the plain function of XMath.
-/
namespace Go.Proofs.YtjbfjohgfbipgaaGreatDoor
open Go.RowKit

theorem ret_int {k : IntKind} {a b : Int} (h : a = b) : Ending.returned (.int k a) = .returned (.int k b) := by rw [h]
theorem ret_bool {a b : Bool} (h : a = b) : Ending.returned (.bool a) = .returned (.bool b) := by rw [h]

theorem wrap_nat (n : Nat) (h : n < W64) : IntKind.u64.wrap (n : Int) = (n : Int) := by
  rw [IntKind.wrap_u64]; unfold W64 at h; omega
theorem wrap_pow (n : Nat) (h : n < 64) : IntKind.u64.wrap (2 ^ n) = ((2 ^ n : Nat) : Int) := by
  have e : ((2 : Int) ^ n) = ((2 ^ n : Nat) : Int) := by simp
  rw [e]; exact wrap_nat _ (Nat.pow_lt_pow_right (by decide) h)
theorem and_nat {a b : Nat} (ha : a < W64) (hb : b < W64) : bits .and .u64 (a : Int) (b : Int) = ((a &&& b : Nat) : Int) := bits_and_u64_nat a b ha hb
theorem or_nat {a b : Nat} (ha : a < W64) (hb : b < W64) : bits .or .u64 (a : Int) (b : Int) = ((a ||| b : Nat) : Int) := bits_or_u64_nat a b ha hb
theorem andNot_nat {a b : Nat} (ha : a < W64) (hb : b < W64) : bits .andNot .u64 (a : Int) (b : Int) = ((a ^^^ (a &&& b) : Nat) : Int) := by
  have h1 : (BitVec.ofInt 64 (a : Int)).toNat = a := by
    rw [BitVec.ofInt_natCast, BitVec.toNat_ofNat]; exact Nat.mod_eq_of_lt (by unfold W64 at ha; omega)
  have h2 : (BitVec.ofInt 64 (b : Int)).toNat = b := by
    rw [BitVec.ofInt_natCast, BitVec.toNat_ofNat]; exact Nat.mod_eq_of_lt (by unfold W64 at hb; omega)
  have e : (BitVec.ofInt 64 (a : Int) &&& ~~~BitVec.ofInt 64 (b : Int)) = BitVec.ofInt 64 (a : Int) ^^^ (BitVec.ofInt 64 (a : Int) &&& BitVec.ofInt 64 (b : Int)) := by
    apply BitVec.eq_of_getLsbD_eq
    intro i hi
    simp only [BitVec.getLsbD_and, BitVec.getLsbD_not, BitVec.getLsbD_xor, hi, decide_true, Bool.true_and]
    cases (BitVec.ofInt 64 (a : Int)).getLsbD i <;> cases (BitVec.ofInt 64 (b : Int)).getLsbD i <;> rfl
  show IntKind.u64.wrap ((BitVec.ofInt 64 (a : Int) &&& ~~~BitVec.ofInt 64 (b : Int)).toNat : Int) = _
  rw [e, BitVec.toNat_xor, BitVec.toNat_and, h1, h2]
  exact wrap_nat _ (Nat.xor_lt_two_pow (n := 64) ha (Nat.and_lt_two_pow (n := 64) _ hb))

theorem onlyN_no {s : Int} (h : s < 0 ∨ 64 ≤ s) : onlyN s = 0 := by simp [onlyN, sq_false.2 h]
theorem onlyN_yes {s : Int} (h : 0 ≤ s ∧ s < 64) : onlyN s = 2 ^ s.toNat := by simp [onlyN, sq_true.2 h]

theorem only_any (s : Int) (w : World) :
    Calls Tryz.prog 75 #[.int .i64 s] w fun e w' => e = .returned (.int .u64 (onlyN s : Nat)) ∧ w = w' := by
  by_cases h0 : s < 0
  · have HS := Lib.hid (onlyN_no (.inl h0))
    go_enter Tryz.func75, Tryz.ntmps75
    go_wp2
    go_ret
    exact ⟨ret_int (by rw [HS.out]; rfl), rfl⟩
  · by_cases h1 : 64 ≤ s
    · have HS := Lib.hid (onlyN_no (.inr h1))
      go_enter Tryz.func75, Tryz.ntmps75
      go_wp2
      go_ret
      exact ⟨ret_int (by rw [HS.out]; rfl), rfl⟩
    · have h2 : 0 ≤ s := by omega
      have h3 : s ≤ 63 := by omega
      have HS := Lib.hid (onlyN_yes (s := s) ⟨by omega, by omega⟩)
      clear h0 h1
      go_enter Tryz.func75, Tryz.ntmps75
      go_wp2
      go_ret
      exact ⟨ret_int (by rw [HS.out, ← wrap_pow _ (by omega)]), rfl⟩

theorem hasB (b : Nat) (s : Int) (hb : b < W64) : ((bits .and .u64 (b : Int) (onlyN s : Nat)) != 0) = hasN b s := by
  rw [and_nat hb (onlyN_lt s)]
  rw [Bool.eq_iff_iff]
  simp only [bne_iff_ne, ne_eq]
  constructor
  · intro h
    by_cases hh : hasN b s = true
    · exact hh
    · exfalso; apply h
      have e := clear_no (b := b) (s := s) (by simpa using hh)
      have : b &&& onlyN s = 0 := by
        apply Nat.eq_of_testBit_eq
        intro i
        have e2 := congrArg (fun n => n.testBit i) e
        simp only [clearN, Nat.testBit_xor] at e2
        rw [Nat.zero_testBit]
        cases h1 : b.testBit i <;> cases h2 : (b &&& onlyN s).testBit i <;> simp_all
      rw [this]; rfl
  · intro h e
    have e' : b &&& onlyN s = 0 := by exact_mod_cast e
    have e2 := congrArg (fun n => n.testBit s.toNat) e'
    simp only [hasN, Bool.and_eq_true] at h
    have h1 := h.1; rw [sq_true] at h1
    simp only [Nat.testBit_and, onlyN_testBit, h.1, h.2, Nat.zero_testBit, Bool.true_and] at e2
    have : s = (s.toNat : Int) := by omega
    rw [decide_eq_true this] at e2
    cases e2

theorem put_any (b : Nat) (s : Int) (w : World) (hb : b < W64) :
    Calls Tryz.prog 44 #[.int .u64 (b : Int), .int .i64 s] w fun e w' => e = .returned (.int .u64 (putN b s : Nat)) ∧ w = w' := by
  have HB := Lib.hid (or_nat hb (onlyN_lt s))
  clear hb
  go_enter Tryz.func44, Tryz.ntmps44
  go_wp2_with (go_at_call 75; refine (only_any _ _).mono ?_; rintro e w' ⟨rfl, rfl⟩)
  go_ret
  exact ⟨ret_int HB.out, rfl⟩
end Go.Proofs.YtjbfjohgfbipgaaGreatDoor
/-
  Contracts of the document's own Has, One, Put, Clear (the package that holds the chapter's answers): each answers the plain function of XMath.
-/
namespace Go.Proofs.YtjbfjohgfbipgaaGreatDoor
open Go.RowKit

def halves (b k : Nat) : Nat := b / 2 ^ k
theorem halves_zero (b : Nat) : halves b 0 = b := by simp [halves]
theorem halves_succ (b k : Nat) : halves b k / 2 = halves b (k + 1) := by
  unfold halves; rw [Nat.div_div_eq_div_mul, Nat.pow_succ]
theorem halves_le (b k : Nat) : halves b k ≤ b := Nat.div_le_self _ _
theorem halves_bit (b k : Nat) : ((halves b k : Int) % 2 == 1) = b.testBit k := by
  rw [Nat.testBit_eq_decide_div_mod_eq]
  show ((halves b k : Int) % 2 == 1) = decide (halves b k % 2 = 1)
  rw [Bool.eq_iff_iff, beq_iff_eq, decide_eq_true_iff]; omega
def powN (k : Nat) : Nat := 2 ^ k
theorem powN_succ (k : Nat) : powN k * 2 = powN (k + 1) := by unfold powN; rw [Nat.pow_succ]
theorem powN_lt {k : Nat} (h : k < 64) : powN k < W64 := by unfold powN; rw [W64_eq]; exact Nat.pow_lt_pow_right (by decide) h
theorem hasN_yes {b : Nat} {s : Int} (h : 0 ≤ s ∧ s < 64) : hasN b s = b.testBit s.toNat := by simp [hasN, sq_true.2 h]

end Go.Proofs.YtjbfjohgfbipgaaGreatDoor
