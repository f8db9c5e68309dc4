/-
  The chapter's examples (layer 5), as the statements' own function 'awake' asks them: they are answered as they should be.
-/
import Derived.Test.YthnfgailffdnjaaPcText
namespace Go.Proofs.Ythnfgailffdnjaa
open Go.RowKit

theorem mk_i {c k : Int} (r : Int) (hr : mkZ c k = r) (hc : 0 ≤ c) (hk : 0 ≤ k) (w : World) : Calls Try.prog 10 #[.int .u8 c, .int .u8 k] w (U8 r w) := by
  subst hr; exact mk_any c k w hc hk
theorem col_i {p : Int} (r : Int) (hr : colZ p = r) (hp : 0 ≤ p) (hq : p ≤ 255) (w : World) : Calls Try.prog 14 #[.int .u8 p] w (U8 r w) := by
  subst hr; exact col_any p w hp hq
theorem knd_i {p : Int} (r : Int) (hr : kndZ p = r) (hp : 0 ≤ p) (hq : p ≤ 255) (w : World) : Calls Try.prog 16 #[.int .u8 p] w (U8 r w) := by
  subst hr; exact knd_any p w hp hq
theorem oth_i {p : Int} (r : Int) (hr : othZ p = r) (hp : 0 ≤ p) (hq : p ≤ 255) (w : World) : Calls Try.prog 23 #[.int .u8 p] w (U8 r w) := by
  subst hr; exact oth_any p w hp hq
theorem let_i {p : Int} (r : ByteArray) (hr : letZ p = r) (hp : 0 ≤ p) (hq : p ≤ 255) (w : World) : Calls Try.prog 21 #[.int .u8 p] w (St r w) := by
  subst hr; exact let_any p w hp hq
theorem prs_i {t : ByteArray} (r : Int) (b : Bool) (hr : prsZ t = r) (hb : prsB t = b) (w : World) : Calls Try.prog 18 #[.string t] w (U8B r b w) := by
  subst hr hb; exact prs_any t w
set_option maxRecDepth 100000 in
set_option maxHeartbeats 1000000 in
theorem pawake_any (w : World) : Calls Try.prog 25 #[] w (Bo true w) := by
  go_enter Try.func25, Try.ntmps25
  go_wp2_with fail
  refine (prs_i 13 true (by decide +kernel) (by decide +kernel) _).mono ?_; rintro e w' ⟨rfl, rfl⟩
  go_wp2_with fail
  refine (prs_i 6 true (by decide +kernel) (by decide +kernel) _).mono ?_; rintro e w' ⟨rfl, rfl⟩
  go_wp2_with fail
  refine (prs_i 0 false (by decide +kernel) (by decide +kernel) _).mono ?_; rintro e w' ⟨rfl, rfl⟩
  go_wp2_with fail
  refine (prs_i 0 false (by decide +kernel) (by decide +kernel) _).mono ?_; rintro e w' ⟨rfl, rfl⟩
  go_wp2_with fail
  refine (mk_i 1 (by decide +kernel) (by decide) (by decide) _).mono ?_; rintro e w' ⟨rfl, rfl⟩
  go_wp2_with fail
  refine (mk_i 14 (by decide +kernel) (by decide) (by decide) _).mono ?_; rintro e w' ⟨rfl, rfl⟩
  go_wp2_with fail
  refine (mk_i 0 (by decide +kernel) (by decide) (by decide) _).mono ?_; rintro e w' ⟨rfl, rfl⟩
  go_wp2_with fail
  refine (mk_i 0 (by decide +kernel) (by decide) (by decide) _).mono ?_; rintro e w' ⟨rfl, rfl⟩
  go_wp2_with fail
  refine (col_i 1 (by decide +kernel) (by decide) (by decide) _).mono ?_; rintro e w' ⟨rfl, rfl⟩
  go_wp2_with fail
  refine (knd_i 6 (by decide +kernel) (by decide) (by decide) _).mono ?_; rintro e w' ⟨rfl, rfl⟩
  go_wp2_with fail
  refine (col_i 2 (by decide +kernel) (by decide) (by decide) _).mono ?_; rintro e w' ⟨rfl, rfl⟩
  go_wp2_with fail
  refine (knd_i 0 (by decide +kernel) (by decide) (by decide) _).mono ?_; rintro e w' ⟨rfl, rfl⟩
  go_wp2_with fail
  refine (let_i ⟨#[78]⟩ (by decide +kernel) (by decide) (by decide) _).mono ?_; rintro e w' ⟨rfl, rfl⟩
  go_wp2_with fail
  refine (let_i ⟨#[110]⟩ (by decide +kernel) (by decide) (by decide) _).mono ?_; rintro e w' ⟨rfl, rfl⟩
  go_wp2_with fail
  refine (let_i ⟨#[]⟩ (by decide +kernel) (by decide) (by decide) _).mono ?_; rintro e w' ⟨rfl, rfl⟩
  go_wp2_with fail
  refine (oth_i 11 (by decide +kernel) (by decide) (by decide) _).mono ?_; rintro e w' ⟨rfl, rfl⟩
  go_wp2_with fail
  refine (oth_i 0 (by decide +kernel) (by decide) (by decide) _).mono ?_; rintro e w' ⟨rfl, rfl⟩
  go_wp2
  go_ret
  exact ⟨rfl, rfl⟩
end Go.Proofs.Ythnfgailffdnjaa
