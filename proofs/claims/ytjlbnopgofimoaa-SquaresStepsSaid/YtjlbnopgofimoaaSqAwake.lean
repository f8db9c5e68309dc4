/-
  The chapter's examples (layer 2), as the statements' own function 'awake' asks them: they are answered as they should be.
-/
import Derived.Test.YtjlbnopgofimoaaSqText
import Derived.Test.YtjlbnopgofimoaaSqDist
namespace Go.Proofs.Ytjlbnopgofimoaa
open Go.RowKit

def TrueL (w : World) (e : Ending) (w' : World) : Prop := e = .returned (.bool true) ∧ Below w.heap.size w w'
theorem file_i {s : Int} (r : Int) (hr : fileZ s = r) (w : World) : Calls Try.prog 12 #[.int .i64 s] w (I64 r w) := by
  subst hr; exact file_any s w
theorem rank_i {s : Int} (r : Int) (hr : rankZ s = r) (w : World) : Calls Try.prog 14 #[.int .i64 s] w (I64 r w) := by
  subst hr; exact rank_any s w
theorem of_i {f g : Int} (r : Int) (b : Bool) (hr : ofZ f g = r) (hb : ofOk f g = b) (w : World) : Calls Try.prog 10 #[.int .i64 f, .int .i64 g] w (I64B r b w) := by
  subst hr hb; exact of_any f g w
theorem sflip_i {s : Int} (r : Int) (hr : flipZ s = r) (w : World) : Calls Try.prog 22 #[.int .i64 s] w (I64 r w) := by
  subst hr; exact sflip_any s w
theorem dist_i {a b : Int} (r : Int) (hr : distZ a b = r) (w : World) : Calls Try.prog 20 #[.int .i64 a, .int .i64 b] w (I64L r w) := by
  subst hr; exact dist_any a b w
theorem text_i {s : Int} (r : ByteArray) (hr : textZ s = r) (w : World) : Calls Try.prog 18 #[.int .i64 s] w (StrL r w) := by
  subst hr; exact text_any s w
theorem parse_i {t : ByteArray} (r : Int) (b : Bool) (hr : parseZ t = r) (hb : parseOk t = b) (w : World) : Calls Try.prog 16 #[.string t] w (PairL r b w) := by
  subst hr hb; exact parse_any t w
theorem sq_next {a b c : World} (h : Below a.heap.size a b) (g : Below b.heap.size b c) : Below a.heap.size a c := h.trans (g.mono h.size)

set_option maxRecDepth 100000 in
set_option maxHeartbeats 1000000 in
theorem awake_any (w : World) : Calls Try.prog 24 #[] w (TrueL w) := by
  go_enter Try.func24, Try.ntmps24
  go_wp2_with fail
  refine (of_i 28 true (by decide +kernel) (by decide +kernel) _).mono ?_; rintro e w' ⟨rfl, rfl⟩
  go_wp2_with fail
  refine (of_i 0 false (by decide +kernel) (by decide +kernel) _).mono ?_; rintro e w' ⟨rfl, rfl⟩
  go_wp2_with fail
  refine (parse_i 28 true (by decide +kernel) (by decide +kernel) _).mono ?_; rintro e w1 ⟨rfl, hb1⟩
  have HB1 := Lib.hid hb1; clear hb1
  go_wp2_with fail
  refine (parse_i 0 false (by decide +kernel) (by decide +kernel) _).mono ?_; rintro e w2 ⟨rfl, hb2⟩
  have HB2 := Lib.hid (sq_next HB1.out hb2); clear hb2
  go_wp2_with fail
  refine (parse_i 0 false (by decide +kernel) (by decide +kernel) _).mono ?_; rintro e w3 ⟨rfl, hb3⟩
  have HB3 := Lib.hid (sq_next HB2.out hb3); clear hb3
  go_wp2_with fail
  refine (file_i 4 (by decide +kernel) _).mono ?_; rintro e w' ⟨rfl, rfl⟩
  go_wp2_with fail
  refine (rank_i 3 (by decide +kernel) _).mono ?_; rintro e w' ⟨rfl, rfl⟩
  go_wp2_with fail
  refine (file_i (-1) (by decide +kernel) _).mono ?_; rintro e w' ⟨rfl, rfl⟩
  go_wp2_with fail
  refine (text_i ⟨#[97, 49]⟩ (by decide +kernel) _).mono ?_; rintro e w4 ⟨rfl, hb4⟩
  have HB4 := Lib.hid (sq_next HB3.out hb4); clear hb4
  go_wp2_with fail
  refine (text_i ⟨#[104, 56]⟩ (by decide +kernel) _).mono ?_; rintro e w5 ⟨rfl, hb5⟩
  have HB5 := Lib.hid (sq_next HB4.out hb5); clear hb5
  go_wp2_with fail
  refine (text_i ⟨#[]⟩ (by decide +kernel) _).mono ?_; rintro e w6 ⟨rfl, hb6⟩
  have HB6 := Lib.hid (sq_next HB5.out hb6); clear hb6
  go_wp2_with fail
  refine (dist_i 7 (by decide +kernel) _).mono ?_; rintro e w7 ⟨rfl, hb7⟩
  have HB7 := Lib.hid (sq_next HB6.out hb7); clear hb7
  go_wp2_with fail
  refine (dist_i 0 (by decide +kernel) _).mono ?_; rintro e w8 ⟨rfl, hb8⟩
  have HB8 := Lib.hid (sq_next HB7.out hb8); clear hb8
  go_wp2_with fail
  refine (dist_i (-1) (by decide +kernel) _).mono ?_; rintro e w9 ⟨rfl, hb9⟩
  have HB9 := Lib.hid (sq_next HB8.out hb9); clear hb9
  go_wp2_with fail
  refine (sflip_i 36 (by decide +kernel) _).mono ?_; rintro e w' ⟨rfl, rfl⟩
  go_wp2
  go_ret
  exact ⟨rfl, HB9.out⟩
end Go.Proofs.Ytjlbnopgofimoaa
