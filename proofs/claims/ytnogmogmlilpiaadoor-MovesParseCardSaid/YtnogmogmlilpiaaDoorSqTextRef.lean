/-
  Contracts of the document's own Text and Parse (layer 2).
-/
import Derived.Test.YtnogmogmlilpiaaDoorSqRef
import Derived.Test.YtnogmogmlilpiaaDoorSqText
import Derived.Test.YtnogmogmlilpiaaDoorPcMath
import Derived.WalkSpells
import Derived.Lib.Strings
namespace Go.Proofs.YtnogmogmlilpiaaDoor
open Go.RowKit

theorem sq_quiet {P : Program} {f : FuncId} {args : Array Value} {w : World} {n : Nat} {v : Value}
    (h : Calls P f args (w.drewN n) fun e w' => e = .returned v ∧ w.drewN n = w') : Calls P f args (w.drewN n) fun e w'' => e = .returned v ∧ ∃ m, w'' = w.drewN m :=
  h.mono fun _ _ ⟨he, hm⟩ => ⟨he, n, hm.symm⟩
theorem sq_drewN {B : Nat} {a w : World} (h : Below B a w) (n : Nat) : Below B a (w.drewN n) := h.trans ⟨rfl, rfl, rfl, Nat.le_refl _, fun _ _ => rfl⟩
def abc : ByteArray := ⟨#[97, 98, 99, 100, 101, 102, 103, 104]⟩
def num : ByteArray := ⟨#[49, 50, 51, 52, 53, 54, 55, 56]⟩
theorem abc_num {f r : Nat} (hf : f < 8) (hr : r < 8) : abc.extract f (f + 1) ++ num.extract r (r + 1) = two (97 + f) (49 + r) := by
  have key : ∀ f r : Fin 8, (abc.extract f.val (f.val + 1) ++ num.extract r.val (r.val + 1)) = two (97 + f.val) (49 + r.val) := by decide +kernel
  exact key ⟨f, hf⟩ ⟨r, hr⟩
set_option maxHeartbeats 1000000 in
theorem rtext_any (s : Int) (w : World) : Calls Tryd.prog 9 #[.int .i64 s] w (StrL (textZ s) w) := by
  by_cases h0 : s < 0
  · have HS := Lib.hid (textZ_no (sqB_false.2 (.inl h0)))
    have g0 : decide (s < 0) = true := decide_eq_true h0
    go_enter Tryd.func9, Tryd.ntmps9
    go_wp2
    go_ret
    exact ⟨sq_str HS.out.symm, Below.refl _ _⟩
  · by_cases h1 : 63 < s
    · have HS := Lib.hid (textZ_no (sqB_false.2 (.inr (show 64 ≤ s by omega))))
      have g0 : decide (s < 0) = false := decide_eq_false h0
      have g1 : decide (63 < s) = true := decide_eq_true h1
      go_enter Tryd.func9, Tryd.ntmps9
      go_wp2
      go_ret
      exact ⟨sq_str HS.out.symm, Below.refl _ _⟩
    · have hs : sqB s = true := sqB_true.2 ⟨by omega, by omega⟩
      have g0 : decide (s < 0) = false := decide_eq_false h0
      have g1 : decide (63 < s) = false := decide_eq_false h1
      obtain ⟨f, hf⟩ : ∃ f : Nat, fileZ s = (f : Int) := ⟨(s % 8).toNat, by rw [fileZ_yes hs]; omega⟩
      obtain ⟨r, hr⟩ : ∃ r : Nat, rankZ s = (r : Int) := ⟨(s / 8).toNat, by rw [rankZ_yes hs]; omega⟩
      have f8 : f < 8 := by have := fileZ_rng s; omega
      have r8 : r < 8 := by have := rankZ_rng s; omega
      have HS := Lib.hid (show textZ s = abc.extract f (f + 1) ++ num.extract r (r + 1) by
        rw [fileZ_yes hs] at hf
        rw [rankZ_yes hs] at hr
        rw [abc_num f8 r8, textZ_yes hs, hf, hr, Int.toNat_natCast, Int.toNat_natCast])
      clear h0 h1 hs
      go_enter Tryd.func9, Tryd.ntmps9
      go_wp2
      go_quiet ((first | (go_at_call 21; exact sq_quiet (rfile_any _ _)) | (go_at_call 22; exact sq_quiet (rrank_any _ _))))
      go_wp2
      go_ret
      exact ⟨sq_str (by rw [HS.out]; rfl), sq_drewN (Below.refl _ _) _⟩

theorem parse_hit {t : ByteArray} {k : Nat} (hk : k < 64) (h : ((textZ (k : Int)).toList == t.toList) = true) : parseOk t = true ∧ parseZ t = (k : Int) := by
  rw [str_eq] at h
  subst h
  have := parse_text (k : Int) (sqB_true.2 ⟨by omega, by omega⟩)
  exact ⟨this.1, this.2.1⟩
theorem parse_miss {t : ByteArray} (h : ∀ k : Nat, k < 64 → ((textZ (k : Int)).toList == t.toList) = false) : parseOk t = false := by
  cases e : parseOk t
  · rfl
  · obtain ⟨h1, h2⟩ := text_parse e
    rw [sqB_true] at h2
    have := h (parseZ t).toNat (by omega)
    rw [show (((parseZ t).toNat : Nat) : Int) = parseZ t by omega, str_eq.2 h1] at this
    cases this
end Go.Proofs.YtnogmogmlilpiaaDoor
