/-
  The chapter's examples, as the statements' own function 'awake' asks them: they are answered as they should be.
-/
import Derived.Test.YtpglfcjkjomcjaaDoorEach
import Derived.Test.YtpglfcjkjomcjaaDoorShiftRef
namespace Go.Proofs.YtpglfcjkjomcjaaDoor
open Go.RowKit

def TruePost (w : World) (e : Ending) (w' : World) : Prop := e = .returned (.bool true) ∧ Below w.heap.size w w'
def aw : Nat := 9223372036854775813
def IntIs (k : IntKind) (r : Int) (w : World) (e : Ending) (w' : World) : Prop := e = .returned (.int k r) ∧ w = w'
def BoolIs (r : Bool) (w : World) (e : Ending) (w' : World) : Prop := e = .returned (.bool r) ∧ w = w'

theorem put_i {a s r : Int} (b : Nat) (ha : (b : Int) = a) (hb : b < W64) (hr : ((putN b s : Nat) : Int) = r) (w : World) : Calls Tryd.prog 20 #[.int .u64 a, .int .i64 s] w (IntIs .u64 r w) := by
  subst ha hr; exact put_any b s w hb
theorem has_i {a s : Int} {r : Bool} (b : Nat) (ha : (b : Int) = a) (hb : b < W64) (hr : hasN b s = r) (w : World) : Calls Tryd.prog 22 #[.int .u64 a, .int .i64 s] w (BoolIs r w) := by
  subst ha hr; exact has_any b s w hb
theorem count_i {a r : Int} (b : Nat) (ha : (b : Int) = a) (hb : b < W64) (hr : (((listN b).length : Nat) : Int) = r) (w : World) : Calls Tryd.prog 13 #[.int .u64 a] w (IntIs .i64 r w) := by
  subst ha hr; exact count_any b w hb
theorem first_i {a r : Int} (b : Nat) (ha : (b : Int) = a) (hb : b < W64) (hr : firstN b = r) (w : World) (hT : TabDb w) : Calls Tryd.prog 14 #[.int .u64 a] w (IntIs .i64 r w) := by
  subst ha hr; exact first_any b w hb hT
theorem shift_i {a d r : Int} (b : Nat) (ha : (b : Int) = a) (hb : b < W64) (hr : ((shiftN b d : Nat) : Int) = r) (w : World) (hT : TabLead w) : Calls Tryd.prog 15 #[.int .u64 a, .int .i64 d] w (IntIs .u64 r w) := by
  subst ha hr; exact shift_any b d w hb hT
theorem flip_i {a r : Int} (b : Nat) (ha : (b : Int) = a) (hb : b < W64) (hr : ((flipN b : Nat) : Int) = r) (w : World) : Calls Tryd.prog 17 #[.int .u64 a] w (IntIs .u64 r w) := by
  subst ha hr; exact flip_any b w hb
theorem list_i (w : World) (hT : TabDb w) : Calls Tryd.prog 11 #[.int .u64 (aw : Int)] w fun e w' => ∃ g cap, e = .returned (.slice (some ⟨g, 0, none⟩) 3 cap) ∧ w'.cell? ⟨g, 0, none⟩ = some (.int .i64 0) ∧ w'.cell? ⟨g, 1, none⟩ = some (.int .i64 2) ∧ w'.cell? ⟨g, 2, none⟩ = some (.int .i64 63) ∧ Below w.heap.size w w' := by
  refine (list_any aw w (by decide) hT).mono ?_
  rintro e w' ⟨v, rfl, hL, hb⟩
  have e1 : listN aw = [0, 2, 63] := by decide +kernel
  rw [e1] at hL
  obtain ⟨p, cap, rfl, hp⟩ := listed_open hL
  obtain ⟨g, rfl, _, _, hc⟩ := hp (by decide)
  exact ⟨g, cap, rfl, (hc 0 0 rfl).1, (hc 1 2 rfl).1, (hc 2 63 rfl).1, hb⟩
theorem TabDb.drewN {w : World} (h : TabDb w) (n : Nat) : TabDb (w.drewN n) := h.later h.lt (below_drewN (Below.refl _ _) n)
theorem TabLead.later {n₀ : Nat} {A B : World} (h : TabLead A) (h1 : 0 < n₀) (hb : Below n₀ A B) : TabLead B := fun j hj => (hb.cell (p := ⟨0, j, none⟩) h1).trans (h j hj)
theorem TabLead.lt {w : World} (h : TabLead w) : 0 < w.heap.size := World.block_lt_of_cell? w _ (h 0 (by decide))

/-- A direction out of any number, as the statements make it. -/
theorem dir8 (a : Int) : ∃ d : Nat, d < 8 ∧ wrap64 ((IntKind.u64.wrap a).tmod 8) = (d : Int) := by
  have h0 : 0 ≤ IntKind.u64.wrap a := wrap_u64_nonneg a
  refine ⟨(IntKind.u64.wrap a % 8).toNat, by omega, ?_⟩
  rw [Int.tmod_eq_emod_of_nonneg h0, IntWalk.wrap64_in _ ⟨by omega, by omega⟩]
  omega
theorem turn8 (d : Nat) (h : d < 8) : (12 - (d : Int)) % 8 = (((12 - d) % 8 : Nat) : Int) := by omega
theorem opp8 (d : Nat) (_ : d < 8) : ((d : Int) + 4) % 8 = (((d + 4) % 8 : Nat) : Int) := by omega
set_option maxRecDepth 100000 in
set_option maxHeartbeats 1000000 in
theorem awake_any (w : World) (hT : TabDb w) (hL : TabLead w) : Calls Tryd.prog 19 #[] w (TruePost w) := by
  have HT := Lib.hid hT
  have HL := Lib.hid hL
  clear hT hL
  go_enter Tryd.func19, Tryd.ntmps19
  go_wp2_with fail
  refine (put_i (r := 1) 0 rfl (by decide) (by decide +kernel) _).mono ?_; rintro e w' ⟨rfl, rfl⟩
  go_wp2_with fail
  refine (put_i (r := 5) 1 rfl (by decide) (by decide +kernel) _).mono ?_; rintro e w' ⟨rfl, rfl⟩
  go_wp2_with fail
  refine (put_i (r := (aw : Int)) 5 rfl (by decide) (by decide +kernel) _).mono ?_; rintro e w' ⟨rfl, rfl⟩
  go_wp2_with fail
  refine (list_i _ HT.out).mono ?_; rintro e w1 ⟨g, cap, rfl, c0, c1, c2, hb1⟩
  have HT1 := Lib.hid (HT.out.later HT.out.lt hb1)
  have HL1 := Lib.hid (HL.out.later HL.out.lt hb1)
  have HB1 := Lib.hid hb1
  clear hb1
  go_wp2_with fail
  refine (count_i (r := 3) aw rfl (by decide) (by decide +kernel) _).mono ?_; rintro e w' ⟨rfl, rfl⟩
  go_wp2_with fail
  refine (first_i (r := 0) aw rfl (by decide) (by decide +kernel) _ HT1.out).mono ?_; rintro e w' ⟨rfl, rfl⟩
  go_wp2_with fail
  refine (first_i (r := -1) 0 rfl (by decide) (by decide +kernel) _ HT1.out).mono ?_; rintro e w' ⟨rfl, rfl⟩
  go_wp2_with fail
  refine (has_i (r := true) aw rfl (by decide) (by decide +kernel) _).mono ?_; rintro e w' ⟨rfl, rfl⟩
  go_wp2_with fail
  refine (has_i (r := false) aw rfl (by decide) (by decide +kernel) _).mono ?_; rintro e w' ⟨rfl, rfl⟩
  go_wp2_with fail
  refine (has_i (r := false) aw rfl (by decide) (by decide +kernel) _).mono ?_; rintro e w' ⟨rfl, rfl⟩
  go_wp2_with fail
  refine (put_i (r := (aw : Int)) aw rfl (by decide) (by decide +kernel) _).mono ?_; rintro e w' ⟨rfl, rfl⟩
  go_wp2_with fail
  refine (put_i (r := 128) 0 rfl (by decide) (by decide +kernel) _).mono ?_; rintro e w' ⟨rfl, rfl⟩
  go_wp2_with fail
  refine (put_i (r := 1) 0 rfl (by decide) (by decide +kernel) _).mono ?_; rintro e w' ⟨rfl, rfl⟩
  go_wp2_with fail
  refine (put_i (r := 512) 0 rfl (by decide) (by decide +kernel) _).mono ?_; rintro e w' ⟨rfl, rfl⟩
  go_wp2_with fail
  refine (shift_i (r := 0) 128 rfl (by decide) (by decide +kernel) _ HL1.out).mono ?_; rintro e w' ⟨rfl, rfl⟩
  go_wp2_with fail
  refine (shift_i (r := 32768) 128 rfl (by decide) (by decide +kernel) _ HL1.out).mono ?_; rintro e w' ⟨rfl, rfl⟩
  go_wp2_with fail
  refine (put_i (r := 32768) 0 rfl (by decide) (by decide +kernel) _).mono ?_; rintro e w' ⟨rfl, rfl⟩
  go_wp2_with fail
  refine (shift_i (r := 0) 1 rfl (by decide) (by decide +kernel) _ HL1.out).mono ?_; rintro e w' ⟨rfl, rfl⟩
  go_wp2_with fail
  refine (shift_i (r := 65536) 512 rfl (by decide) (by decide +kernel) _ HL1.out).mono ?_; rintro e w' ⟨rfl, rfl⟩
  go_wp2_with fail
  refine (put_i (r := 65536) 0 rfl (by decide) (by decide +kernel) _).mono ?_; rintro e w' ⟨rfl, rfl⟩
  go_wp2_with fail
  refine (shift_i (r := 0) 1 rfl (by decide) (by decide +kernel) _ HL1.out).mono ?_; rintro e w' ⟨rfl, rfl⟩
  go_wp2_with fail
  refine (flip_i (r := 72057594037927936) 1 rfl (by decide) (by decide +kernel) _).mono ?_; rintro e w' ⟨rfl, rfl⟩
  go_wp2_with fail
  refine (put_i (r := 72057594037927936) 0 rfl (by decide) (by decide +kernel) _).mono ?_; rintro e w' ⟨rfl, rfl⟩
  go_wp2_with fail
  refine (put_i (r := 134217728) 0 rfl (by decide) (by decide +kernel) _).mono ?_; rintro e w' ⟨rfl, rfl⟩
  go_wp2_with fail
  refine (flip_i (r := 34359738368) 134217728 rfl (by decide) (by decide +kernel) _).mono ?_; rintro e w' ⟨rfl, rfl⟩
  go_wp2_with fail
  refine (put_i (r := 34359738368) 0 rfl (by decide) (by decide +kernel) _).mono ?_; rintro e w' ⟨rfl, rfl⟩
  go_wp2_with fail
  go_ret
  exact ⟨rfl, HB1.out⟩
end Go.Proofs.YtpglfcjkjomcjaaDoor
