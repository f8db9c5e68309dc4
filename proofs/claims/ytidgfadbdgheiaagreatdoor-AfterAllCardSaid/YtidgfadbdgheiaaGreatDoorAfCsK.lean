/-
 Several texts in one: CsK, CsM, CsN.
-/
import Derived.Test.YtidgfadbdgheiaaGreatDoorAfCsF
import Derived.Test.YtidgfadbdgheiaaGreatDoorAfAtR
import Derived.Test.YtidgfadbdgheiaaGreatDoorAfCs
/-
 The document's own within and safe of layer 14.
-/
set_option maxRecDepth 100000
set_option maxHeartbeats 4000000
namespace Go.Proofs.YtidgfadbdgheiaaGreatDoor
open Go.RowKit Go.Shelf
set_option linter.unusedVariables false
set_option linter.unusedSimpArgs false
attribute [local go_sem] Oper.semAt_some

def wiB (s a b : Int) : Bool := (decide (a ≤ s) && decide (s ≤ b)) || (decide (b ≤ s) && decide (s ≤ a))
theorem wi_sp {s a b : Int} : wiB s a b = true ↔ s ∈ spL a b := by
 unfold wiB
 simp only [Bool.or_eq_true, Bool.and_eq_true, decide_eq_true_eq]
 constructor
 ·intro h; exact mem_spL (by omega)
 ·intro h; have := spL_mem h; omega
theorem cs_within (s a b : Int) (w : World) : Calls Tryz.prog 102 #[.int .i64 s, .int .i64 a, .int .i64 b] w (fun e w' => e = .returned (.bool (wiB s a b)) ∧ w = w') := by
 unfold wiB
 cases g1 : decide (a ≤ s) <;> cases g2 : decide (s ≤ b) <;> cases g3 : decide (b ≤ s) <;> cases g4 : decide (s ≤ a)
 all_goals
  go_enter Tryz.func102, Tryz.ntmps102
  go_wp2_with fail
  go_ret
  exact ⟨rfl, rfl⟩
theorem king_besC {a b : Nat} (ha : a < 64) (hb : b < 64) : (kingN (b : Int)).testBit a = besB a b := by
 have g := geoB_all a ha b hb
 simp only [geoB, Bool.and_eq_true, beq_iff_eq] at g
 have t := (turned_all (a : Int) (b : Int)).1
 rw [hasN_nat _ _ hb, hasN_nat _ _ ha] at t
 rw [← t]
 have e : kingN (a : Int) = kingT a := kingN_nat ha
 rw [e]; exact g.1.1.1.2
theorem shel_anyC {p : Nat → Int} {s : Nat} (hs : s < 64) (h3 : p 0 = 3) : shelB p (s : Int) (p 78) = true ↔ ∃ a, a < 64 ∧ (kndZ (p (1 + a)) == 6 && p (1 + a) / 8 == oth (p 78)) = true ∧ besB a s = true := by
 unfold shelB
 rw [h3, beq_self_eq_true, Bool.true_and, bne_iff_ne]
 constructor
 ·intro h
  obtain ⟨a, ha⟩ := Nat.exists_testBit_of_ne_zero h
  rw [Nat.testBit_and, Bool.and_eq_true] at ha
  have ha64 := bit_lt (kingN_lt _) ha.1
  refine ⟨a, ha64, ?_, ?_⟩
  ·rw [is_of, ← ofN_testBit _ _ _ _ ha64]; exact ha.2
  ·rw [← king_besC ha64 hs]; exact ha.1
 ·rintro ⟨a, ha, h1, h2⟩ e
  have : (kingN (s : Int) &&& ofN p (oth (p 78)) 6).testBit a = true := by
   rw [Nat.testBit_and, king_besC ha hs, h2, ofN_testBit _ _ _ _ ha, ← is_of, h1]; rfl
  rw [e, Nat.zero_testBit] at this; cases this
theorem shel_noC {p : Nat → Int} {s : Nat} (h3 : p 0 ≠ 3) : shelB p (s : Int) (p 78) = false := by
 unfold shelB; rw [beq_eq_false_iff_ne.2 h3]; rfl
theorem cs_rsafe (p : Nat → Int) (s : Nat) (hs : s < 64) (w : World) (hp : BdR p) : Calls Tryz.prog 103 #[.agg (posA p), .int .i64 (s : Int)] w (BoL (!bdC p (s : Int)) w) := by
 have HP := H_ hp
 have HS64 := H_ hs
 have HO := H_ (show 0 ≤ oth (p 78) by unfold oth; omega)
 have ho : IntKind.u8.wrap (1 - p 78) = oth (p 78) := by rw [IntKind.wrap_u8]; unfold oth; omega
 clear hp
 have HB := H_ (Below.refl w.heap.size w)
 cases g3 : (p 0 == 3)
 ·have HS := H_ (show (!bdC p (s : Int)) = (byN p (s : Int) (oth (p 78)) == 0) by unfold bdC anyB; rw [shel_noC (beq_eq_false_iff_ne.1 g3)]; simp [bne])
  go_enter Tryz.func103, Tryz.ntmps103
  go_wp2_with (guard_target = gB 2; refine step_box rfl _ rfl p rfl ?_; intro b2 w1 N R; have HG2 := H_ (nA HB.out N); have HB := H_ (below_on HB.out N.below); have HR2 := H_ R; clear N R)
  go_loopw [5] (fun i wr => i = .int .i64 ((0 : Nat) : Int) ∧ Row wr b2 p ∧ Below w.heap.size w wr) (fun _ _ => 0)
  case atStart => exact ⟨rfl, HR2.out, HB.out⟩
  case round =>
   clear HR2 HB
   obtain ⟨rfl, hr, hb⟩ := hrel
   have HR2 := H_ hr
   have HB := H_ hb
   clear hr hb
   go_wp2_with (first
    | (guard_target = gL 9; refine gU rfl 5 _ rfl Tryz.underlying5 HR2.out 0 (by decide) rfl rfl ?_)
    | (guard_target = gL 17; refine gU rfl 5 _ rfl Tryz.underlying5 HR2.out 78 (by decide) rfl rfl ?_)
    | (guard_target = gL 28; refine gU rfl 5 _ rfl Tryz.underlying5 HR2.out 78 (by decide) rfl rfl ?_)
    | (guard_target = gL 2; refine step_load rfl _ rfl b2 rfl p HR2.out ?_)
    | (go_at_call 147; refine (rby_any p (s : Int) (oth (p 78)) _ HP.out HO.out).mono ?_; rintro e w3 ⟨rfl, hb⟩; have HR2 := H_ (HR2.out.later hb); have HB := H_ (below_on HB.out hb); clear hb))
   go_ret
   refine ⟨?_, HB.out⟩
   show Ending.returned (Value.bool (((byN p (s : Int) (oth (p 78)) : Nat) : Int) == 0)) = _
   rw [HS.out]
   congr 2
   rw [Bool.eq_iff_iff]; simp
 ·have h3 := beq_iff_eq.1 g3
  go_enter Tryz.func103, Tryz.ntmps103
  go_wp2_with (guard_target = gB 2; refine step_box rfl _ rfl p rfl ?_; intro b2 w1 N R; have HG2 := H_ (nA HB.out N); have HB := H_ (below_on HB.out N.below); have HR2 := H_ R; clear N R)
  go_loopw [5] (fun i wr => ∃ k : Nat, k ≤ 64 ∧ i = .int .i64 (k : Int) ∧ Hid (∀ a, a < k → ((kndZ (p (1 + a)) == 6 && p (1 + a) / 8 == oth (p 78)) && besB a s) = false) ∧ Row wr b2 p ∧ Below w.heap.size w wr) (fun i _ => 64 - (intOf i).toNat)
  case atStart => exact ⟨0, by omega, rfl, H_ (fun j h => by omega), HR2.out, HB.out⟩
  case round =>
   clear HR2 HB
   obtain ⟨k, hk, rfl, Hi, hr, hb⟩ := hrel
   have HR2 := H_ hr
   have HB := H_ hb
   have H3 := H_ h3
   clear hr hb
   by_cases hlt : k < 64
   ·have Hlt := H_ hlt
    have gk : decide ((k : Int) < 64) = true := decide_eq_true (by omega)
    have gk2 : decide (k < 64) = true := decide_eq_true (by omega)
    obtain ⟨r, HIs⟩ : ∃ r, Hid ((kndZ (p (1 + k)) == 6 && p (1 + k) / 8 == oth (p 78)) = r) := ⟨_, H_ rfl⟩
    obtain ⟨q, HBs⟩ : ∃ q, Hid (besB k s = q) := ⟨_, H_ rfl⟩
    clear hlt
    cases r
    ·have HN := H_ (show ((kndZ (p (1 + k)) == 6 && p (1 + k) / 8 == oth (p 78)) && besB k s) = false by rw [HIs.out]; rfl)
     go_wp2_with (first
      | (guard_target = gL 9; refine gU rfl 5 _ rfl Tryz.underlying5 HR2.out 0 (by decide) rfl rfl ?_)
      | (guard_target = gL 17; refine gU rfl 5 _ rfl Tryz.underlying5 HR2.out 78 (by decide) rfl rfl ?_)
      | (guard_target = gL 28; refine gU rfl 5 _ rfl Tryz.underlying5 HR2.out 78 (by decide) rfl rfl ?_)
      | (guard_target = gL 2; refine step_load rfl _ rfl b2 rfl p HR2.out ?_)
      | (go_at_call 100; refine (ris_any p k (oth (p 78)) 6 _ HP.out Hlt.out).mono ?_; rintro e w3 ⟨rfl, hb⟩; rw [HIs.out]; have HR2 := H_ (HR2.out.later hb); have HB := H_ (below_on HB.out hb); clear hb))
     go_roundw
     case rel => exact ⟨k + 1, by have := Hlt.out; omega, by go_num, H_ (fun j h => by
      by_cases e : j = k
      ·rw [e]; exact HN.out
      ·exact Hi.out j (by omega)), HR2.out, HB.out⟩
     case measure => simp [intOf]; have := Hlt.out; omega
    ·cases q
     ·have HN := H_ (show ((kndZ (p (1 + k)) == 6 && p (1 + k) / 8 == oth (p 78)) && besB k s) = false by rw [HIs.out, HBs.out]; rfl)
      go_wp2_with (first
       | (guard_target = gL 9; refine gU rfl 5 _ rfl Tryz.underlying5 HR2.out 0 (by decide) rfl rfl ?_)
       | (guard_target = gL 17; refine gU rfl 5 _ rfl Tryz.underlying5 HR2.out 78 (by decide) rfl rfl ?_)
       | (guard_target = gL 28; refine gU rfl 5 _ rfl Tryz.underlying5 HR2.out 78 (by decide) rfl rfl ?_)
       | (guard_target = gL 2; refine step_load rfl _ rfl b2 rfl p HR2.out ?_)
       | (go_at_call 100; refine (ris_any p k (oth (p 78)) 6 _ HP.out Hlt.out).mono ?_; rintro e w3 ⟨rfl, hb⟩; rw [HIs.out]; have HR2 := H_ (HR2.out.later hb); have HB := H_ (below_on HB.out hb); clear hb)
       | (go_at_call 29; refine (rbeside_any k s _ Hlt.out HS64.out).mono ?_; rintro e w3 ⟨rfl, rfl⟩; rw [HBs.out]))
      go_roundw
      case rel => exact ⟨k + 1, by have := Hlt.out; omega, by go_num, H_ (fun j h => by
       by_cases e : j = k
       ·rw [e]; exact HN.out
       ·exact Hi.out j (by omega)), HR2.out, HB.out⟩
      case measure => simp [intOf]; have := Hlt.out; omega
     ·have HS := H_ (show (!bdC p (s : Int)) = true by unfold bdC; rw [(shel_anyC HS64.out H3.out).2 ⟨k, Hlt.out, HIs.out, HBs.out⟩]; simp)
      go_wp2_with (first
       | (guard_target = gL 9; refine gU rfl 5 _ rfl Tryz.underlying5 HR2.out 0 (by decide) rfl rfl ?_)
       | (guard_target = gL 17; refine gU rfl 5 _ rfl Tryz.underlying5 HR2.out 78 (by decide) rfl rfl ?_)
       | (guard_target = gL 28; refine gU rfl 5 _ rfl Tryz.underlying5 HR2.out 78 (by decide) rfl rfl ?_)
       | (guard_target = gL 2; refine step_load rfl _ rfl b2 rfl p HR2.out ?_)
       | (go_at_call 100; refine (ris_any p k (oth (p 78)) 6 _ HP.out Hlt.out).mono ?_; rintro e w3 ⟨rfl, hb⟩; rw [HIs.out]; have HR2 := H_ (HR2.out.later hb); have HB := H_ (below_on HB.out hb); clear hb)
       | (go_at_call 29; refine (rbeside_any k s _ Hlt.out HS64.out).mono ?_; rintro e w3 ⟨rfl, rfl⟩; rw [HBs.out]))
      go_ret
      exact ⟨by rw [HS.out]; rfl, HB.out⟩
   ·obtain rfl : k = 64 := by omega
    have HS := H_ (show (!bdC p (s : Int)) = (byN p (s : Int) (oth (p 78)) == 0) by
     have hn : shelB p (s : Int) (p 78) = false := by
      rw [Bool.eq_false_iff]
      intro e
      obtain ⟨a, ha, h1, h2⟩ := (shel_anyC HS64.out H3.out).1 e
      have := Hi.out a ha
      rw [h1, h2] at this; cases this
     unfold bdC anyB; rw [hn]; simp [bne])
    go_wp2_with (first
     | (guard_target = gL 9; refine gU rfl 5 _ rfl Tryz.underlying5 HR2.out 0 (by decide) rfl rfl ?_)
     | (guard_target = gL 17; refine gU rfl 5 _ rfl Tryz.underlying5 HR2.out 78 (by decide) rfl rfl ?_)
     | (guard_target = gL 28; refine gU rfl 5 _ rfl Tryz.underlying5 HR2.out 78 (by decide) rfl rfl ?_)
     | (guard_target = gL 2; refine step_load rfl _ rfl b2 rfl p HR2.out ?_)
     | (go_at_call 147; refine (rby_any p (s : Int) (oth (p 78)) _ HP.out HO.out).mono ?_; rintro e w3 ⟨rfl, hb⟩; have HR2 := H_ (HR2.out.later hb); have HB := H_ (below_on HB.out hb); clear hb))
    go_ret
    refine ⟨?_, HB.out⟩
    show Ending.returned (Value.bool (((byN p (s : Int) (oth (p 78)) : Nat) : Int) == 0)) = _
    rw [HS.out]
    congr 2
    rw [Bool.eq_iff_iff]; simp
end Go.Proofs.YtidgfadbdgheiaaGreatDoor
/-
 The document's own May of layer 14.
-/
namespace Go.Proofs.YtidgfadbdgheiaaGreatDoor
open Go.RowKit Go.Shelf
set_option linter.unusedVariables false
set_option linter.unusedSimpArgs false
attribute [local go_sem] Oper.semAt_some

theorem rgK2 {n a b : Int} (h1 : gkC n = a) (h2 : grC n = b) (w : World) : Calls Tryz.prog 101 #[.int .i64 n] w (IntPL a b w) := by
 rw [← h1, ← h2]; exact cs_rgoals n w
theorem is_ofk {c k x : Int} (hk : k ≠ 0) : (kndZ x == k && x / 8 == c) = ofB c k x := by
 unfold ofB
 rw [Bool.eq_iff_iff]
 simp only [Bool.and_eq_true, Bool.or_eq_true, beq_iff_eq]
 unfold kndZ colZ
 cases g : pcB x
 ·simp only [cond_false]
  constructor
  ·rintro ⟨h, _⟩; exact absurd h.symm hk
  ·rintro ⟨h, _⟩; cases h
 ·simp only [cond_true]
  constructor
  ·rintro ⟨h1, h2⟩; exact ⟨trivial, h2, .inr h1⟩
  ·rintro ⟨_, h2, h1⟩; exact ⟨h1.resolve_left hk, h2⟩
theorem nam_at {p : Nat → Int} {n : Nat} (hn : n < 2) (h : namC p n = true) : 0 ≤ flC p n ∧ flC p n < 8 ∧ hasN (ofN p (p 78) 4) (hmC (p 78) + flC p n) = true ∧ hmC (p 78) ≤ kingZ p (p 78) ∧ kingZ p (p 78) < hmC (p 78) + 8 ∧ (if n = 0 then kingZ p (p 78) < hmC (p 78) + flC p n else hmC (p 78) + flC p n < kingZ p (p 78)) := by
 unfold namC flB at h
 simp only [Bool.and_eq_true, decide_eq_true_eq, beq_iff_eq] at h
 obtain ⟨⟨h1, h2⟩, h3, hsd⟩ := h
 obtain ⟨g1, g2, g3, g4, g5, g6, g7⟩ := sdC_at (c := p 78) (m := mvC p n) (by rw [hsd]; omega)
 refine ⟨h1, h2, h3, g4, g5, ?_⟩
 rw [sdC_yes' g1 g2 g3 ⟨g4, g5⟩ ⟨g6, g7⟩] at hsd
 have g2' : kingZ p (p 78) ≠ hmC (p 78) + flC p n := g2
 by_cases e : kingZ p (p 78) < hmC (p 78) + flC p n
 ·have e' : decide ((mvC p n).f < (mvC p n).t) = true := decide_eq_true e
  rw [e', cond_true] at hsd
  rw [if_pos (by omega)]; exact e
 ·have e' : decide ((mvC p n).f < (mvC p n).t) = false := decide_eq_false e
  rw [e', cond_false] at hsd
  rw [if_neg (by omega)]; omega
theorem nam_of {p : Nat → Int} {n : Nat} (hn : n < 2) (ht : p 78 ≤ 1) (h1 : 0 ≤ flC p n ∧ flC p n < 8) (h3 : hasN (ofN p (p 78) 4) (hmC (p 78) + flC p n) = true) (h4 : hmC (p 78) ≤ kingZ p (p 78) ∧ kingZ p (p 78) < hmC (p 78) + 8) (h5 : if n = 0 then kingZ p (p 78) < hmC (p 78) + flC p n else hmC (p 78) + flC p n < kingZ p (p 78)) : namC p n = true := by
 have hsd : sdC (p 78) (mvC p n) = (n : Int) := by
  have g2 : (mvC p n).f ≠ (mvC p n).t := by
   show kingZ p (p 78) ≠ hmC (p 78) + flC p n
   split at h5 <;> omega
  rw [sdC_yes' (c := p 78) (m := mvC p n) rfl g2 ht h4 (by show hmC (p 78) ≤ hmC (p 78) + flC p n ∧ hmC (p 78) + flC p n < hmC (p 78) + 8; omega)]
  by_cases e : kingZ p (p 78) < hmC (p 78) + flC p n
  ·have e' : decide ((mvC p n).f < (mvC p n).t) = true := decide_eq_true e
   rw [e', cond_true]
   split at h5 <;> omega
  ·have e' : decide ((mvC p n).f < (mvC p n).t) = false := decide_eq_false e
   rw [e', cond_false]
   split at h5 <;> omega
 unfold namC flB
 rw [decide_eq_true h1.1, decide_eq_true h1.2, h3, hsd, beq_self_eq_true]; rfl
def okC (q : Nat → Int) (f K r R : Int) (s : Nat) : Bool := !(((wiB (s : Int) f K || wiB (s : Int) r R) && (kndZ (q (1 + s)) != 0)) || (wiB (s : Int) f K && bdC q (s : Int)))
theorem at_knd (q : Nat → Int) {s : Nat} (hs : s < 64) : (atZ q (s : Int) == 0) = !(kndZ (q (1 + s)) != 0) := by
 rw [atZ_nat q hs]
 unfold kndZ
 cases g : pcB (q (1 + s))
 ·simp
 ·have := pcB_true.1 g
  rw [if_pos rfl, cond_true, Bool.eq_iff_iff]
  simp
  omega
theorem ok_all {q : Nat → Int} {f K r R : Int} {h : Nat} (hh : h ≤ 56) (hf : (h : Int) ≤ f ∧ f < h + 8) (hK : (h : Int) ≤ K ∧ K < h + 8) (hr : (h : Int) ≤ r ∧ r < h + 8) (hR : (h : Int) ≤ R ∧ R < h + 8) :
  (freeC q f K && (freeC q r R && safeC q f K)) = true ↔ ∀ j, j < 8 → okC q f K r R (h + j) = true := by
 unfold freeC safeC
 simp only [Bool.and_eq_true, List.all_eq_true]
 constructor
 ·rintro ⟨h1, h2, h3⟩ j hj
  unfold okC
  have hs : h + j < 64 := by omega
  have hk := at_knd q hs
  cases g1 : wiB ((h + j : Nat) : Int) f K
  ·cases g2 : wiB ((h + j : Nat) : Int) r R
   ·rfl
   ·rw [h2 _ (wi_sp.1 g2)] at hk
    have : (kndZ (q (1 + (h + j))) != 0) = false := by cases e : (kndZ (q (1 + (h + j))) != 0); { rfl }; { rw [e] at hk; cases hk }
    rw [this]; rfl
  ·rw [h1 _ (wi_sp.1 g1)] at hk
   have : (kndZ (q (1 + (h + j))) != 0) = false := by cases e : (kndZ (q (1 + (h + j))) != 0); { rfl }; { rw [e] at hk; cases hk }
   have hb := h3 _ (wi_sp.1 g1)
   rw [Bool.not_eq_true'] at hb
   rw [this, hb]; simp
 ·intro hall
  have key : ∀ x : Int, (h : Int) ≤ x ∧ x < h + 8 → ∃ j, j < 8 ∧ x = ((h + j : Nat) : Int) := fun x hx => ⟨(x - h).toNat, by omega, by omega⟩
  refine ⟨fun x hx => ?_, fun x hx => ?_, fun x hx => ?_⟩
  ·have := spL_mem hx
   obtain ⟨j, hj, rfl⟩ := key x (by omega)
   have ho := hall j hj
   unfold okC at ho
   rw [wi_sp.2 hx] at ho
   rw [at_knd q (by omega)]
   cases e : (kndZ (q (1 + (h + j))) != 0)
   ·rfl
   ·rw [e] at ho; simp at ho
  ·have := spL_mem hx
   obtain ⟨j, hj, rfl⟩ := key x (by omega)
   have ho := hall j hj
   unfold okC at ho
   rw [wi_sp.2 hx] at ho
   rw [at_knd q (by omega)]
   cases e : (kndZ (q (1 + (h + j))) != 0)
   ·rfl
   ·rw [e] at ho; simp at ho
  ·have := spL_mem hx
   obtain ⟨j, hj, rfl⟩ := key x (by omega)
   have ho := hall j hj
   unfold okC at ho
   rw [wi_sp.2 hx] at ho
   cases e : bdC q ((h + j : Nat) : Int)
   ·rfl
   ·rw [e] at ho; simp at ho
def mayB' (p : Nat → Int) (n : Nat) : Bool := thC p && inC p n
def RMayL (p : Nat → Int) (n : Nat) (w : World) (e : Ending) (w' : World) : Prop := e = .returned (.tuple #[.int .i64 (bif mayB' p n then (mvC p n).f else 0), .int .i64 (bif mayB' p n then (mvC p n).t else 0), .bool (mayB' p n)]) ∧ Below w.heap.size w w'
theorem rcasK {p : Nat → Int} {b : Bool} (hp : 0 ≤ p 0 ∧ p 0 ≤ 255) (h : casB (p 0).toNat = b) (w : World) : Calls Tryz.prog 98 #[.int .u8 (p 0)] w (BoE b w) := by
 have e : p 0 = ((p 0).toNat : Int) := by omega
 rw [e, ← h]
 exact rcas_any _ w
theorem rfndK {p : Nat → Int} {c k : Int} (e : kingZ p c = k) (w : World) (hp : BdR p) : Calls Tryz.prog 99 #[.agg (posA p), .int .u8 c, .int .u8 6] w (IntL k w) := e ▸ rfind_any p c w hp
theorem bare_upd {p : Nat → Int} {f r : Nat} (hf : f < 64) (hr : r < 64) : bareC p (f : Int) (r : Int) = upd (upd p (1 + f) 0) (1 + r) 0 := by
 have h : ∀ i : Nat, i < 64 → putB (i : Int) 0 = true := fun i hi => by unfold putB; rw [sq_true.2 ⟨by omega, by omega⟩]; rfl
 unfold bareC
 rw [putP_yes (h f hf), putP_yes (h r hr)]
theorem nth_no {p : Nat → Int} (h : thC p = false) (n : Nat) : mayB' p n = false := by unfold mayB'; rw [h]; rfl
theorem nam_no {p : Nat → Int} {n : Nat} (h : namC p n ≠ true) : mayB' p n = false := by unfold mayB' inC; rw [Bool.eq_false_iff.2 h]; simp
theorem if0 {a b : Prop} : (if (0 : Nat) = 0 then a else b) = a := rfl
theorem if1 {a b : Prop} : (if (1 : Nat) = 0 then a else b) = b := rfl
theorem cs_rmay0 (p : Nat → Int) (w : World) (hp : CsR p) : Calls Tryz.prog 53 #[.agg (posA p), .int .i64 0] w (RMayL p 0 w) := by
 have HP := H_ hp.at_.bd
 have HV := H_ hp.at_.var
 have ht0 := hp.at_.turn.1
 unfold RMayL
 have HB := H_ (Below.refl w.heap.size w)
 by_cases h78 : 1 < p 78
 ·have q0 : decide (1 < p 78) = true := decide_eq_true h78
  have HS := H_ (nth_no (p := p) (by unfold thC; rw [decide_eq_false (by omega)]; rfl) 0)
  clear hp h78
  go_enter Tryz.func53, Tryz.ntmps53
  go_wp2_with (first
   | (guard_target = gB 2; refine step_box rfl _ rfl p rfl ?_; intro b2 w1 N R; have HG2 := H_ (nA HB.out N); have HB := H_ (below_on HB.out N.below); have HR2 := H_ R; clear N R)
   | (guard_target = gL 16; refine gU rfl 5 _ rfl Tryz.underlying5 HR2.out 78 (by decide) rfl rfl ?_))
  go_ret3
  exact ⟨by rw [HS.out]; rfl, HB.out⟩
 ·cases hcas : casB (p 0).toNat
  ·have q0 : decide (1 < p 78) = false := decide_eq_false h78
   have HCas := H_ hcas
   have HS := H_ (nth_no (p := p) (by unfold thC; rw [hcas, Bool.and_false]) 0)
   clear hp h78 hcas
   go_enter Tryz.func53, Tryz.ntmps53
   go_wp2_with (first
   | (guard_target = gB 2; refine step_box rfl _ rfl p rfl ?_; intro b2 w1 N R; have HG2 := H_ (nA HB.out N); have HB := H_ (below_on HB.out N.below); have HR2 := H_ R; clear N R)
   | (guard_target = gL 16; refine gU rfl 5 _ rfl Tryz.underlying5 HR2.out 78 (by decide) rfl rfl ?_)
   | (guard_target = gL 20; refine gU rfl 5 _ rfl Tryz.underlying5 HR2.out 0 (by decide) rfl rfl ?_)
   | (go_at_call 98; refine (rcasK HV.out HCas.out _).mono ?_; rintro e w3 ⟨rfl, rfl⟩))
   go_ret3
   exact ⟨by rw [HS.out]; rfl, HB.out⟩
  ·have q0 : decide (1 < p 78) = false := decide_eq_false h78
   have HCas := H_ hcas
   have hth : thC p = true := by unfold thC; rw [hcas, decide_eq_true (show p 78 ≤ 1 by omega)]; rfl
   obtain ⟨c, hc⟩ : ∃ c : Nat, p 78 = (c : Int) := ⟨(p 78).toNat, by omega⟩
   have hc2 : c < 2 := by omega
   have HC := H_ hc
   have HC2 := H_ hc2
   obtain ⟨h, hh⟩ : ∃ h : Nat, 56 * c = h := ⟨_, rfl⟩
   have hhI : 56 * (c : Int) = (h : Int) := by omega
   have hhm : hmC (p 78) = (h : Int) := by rw [hc, ← hhI]; rcases (by omega : c = 0 ∨ c = 1) with rfl | rfl <;> rfl
   have hh56 : h ≤ 56 := by omega
   obtain ⟨r, hr⟩ : ∃ r, flC p 0 = r := ⟨_, rfl⟩
   have hr' : p (79 + c * 2 + 0) = r := by rw [← hr]; unfold flC; rw [hc, Int.toNat_natCast]
   have HRr := H_ hr'
   have hrr : -128 ≤ r ∧ r ≤ 127 := by rw [← hr']; exact hp.rk (c * 2 + 0) (by omega)
   obtain ⟨kz, hkz⟩ : ∃ kz, kingZ p (c : Int) = kz := ⟨_, rfl⟩
   have hkr : -1 ≤ kz ∧ kz ≤ 63 := by rw [← hkz]; exact king_rng _ _
   have HKz := H_ hkz
   have hna := nam_at (p := p) (n := 0) (by decide)
   have hno := nam_of (p := p) (n := 0) (by decide) (by omega)
   rw [hc] at hna hno
   rw [hkz, hr, show hmC (c : Int) = (h : Int) by rw [← hc]; exact hhm] at hna hno
   rw [if0] at hna hno
   have hmv : mvC p 0 = ⟨kz, (h : Int) + r, 0, 0, true⟩ := by unfold mvC; rw [hhm, hr, hc, hkz]
   have HA := H_ hp.at_
   have HTh := H_ hth
   have HMv := H_ hmv
   have HNa := H_ hna
   have HNo := H_ hno
   have HRl := H_ hhm
   clear hp h78 hcas hth hr hr' hkz hmv hc hna hno hh
   by_cases g1 : kz < (h : Int)
   ·have q1 : decide (kz < (h : Int)) = true := decide_eq_true g1
    have HS := H_ (nam_no (p := p) (n := 0) (fun e => by have := HNa.out e; omega))
    clear hhm
    go_enter Tryz.func53, Tryz.ntmps53
    go_wp2_with (first
     | (guard_target = gB 2; refine step_box rfl _ rfl p rfl ?_; intro b2 w1 N R; have HG2 := H_ (nA HB.out N); have HB := H_ (below_on HB.out N.below); have HR2 := H_ R; clear N R)
     | (guard_target = gL 16; refine gU rfl 5 _ rfl Tryz.underlying5 HR2.out 78 (by decide) rfl rfl ?_)
     | (guard_target = gL 20; refine gU rfl 5 _ rfl Tryz.underlying5 HR2.out 0 (by decide) rfl rfl ?_)
     | (go_at_call 98; refine (rcasK HV.out HCas.out _).mono ?_; rintro e w3 ⟨rfl, rfl⟩)
     | (guard_target = gL 25; refine step_get rfl 5 _ rfl b2 78 rfl Tryz.underlying5 rfl (.int .u8 (c : Int)) ?_ ?_; exact (HR2.out.cell 78 (by decide)).trans (by rw [HC.out]; rfl))
     | (guard_target = gL 30; refine step_get rfl 5 _ rfl b2 78 rfl Tryz.underlying5 rfl (.int .u8 (c : Int)) ?_ ?_; exact (HR2.out.cell 78 (by decide)).trans (by rw [HC.out]; rfl))
     | (guard_target = gL 33; refine step_get rfl 5 _ rfl b2 78 rfl Tryz.underlying5 rfl (.int .u8 (c : Int)) ?_ ?_; exact (HR2.out.cell 78 (by decide)).trans (by rw [HC.out]; rfl))
     | (guard_target = gL 2; refine step_load rfl _ rfl b2 rfl p HR2.out ?_)
     | (go_at_call 99; refine (rfndK HKz.out _ HP.out).mono ?_; rintro e w3 ⟨rfl, hb⟩; have HR2 := H_ (HR2.out.later hb); have HB := H_ (below_on HB.out hb); clear hb)
     | (guard_target = gL2 39 38; refine step_get rfl 26 _ rfl b2 (79 + c * 2 + 0) rfl Tryz.underlying26 rfl (.int .i8 r) ?_ ?_; exact (HR2.out.cell (79 + c * 2 + 0) (by omega)).trans (by rw [kAt_rk HC2.out (by decide), HRr.out])))
    go_ret3
    exact ⟨by rw [HS.out]; rfl, HB.out⟩
   ·have q1 : decide (kz < (h : Int)) = false := decide_eq_false g1
    by_cases g2 : (h : Int) + 7 < kz
    ·have q2 : decide ((h : Int) + 7 < kz) = true := decide_eq_true g2
     have HS := H_ (nam_no (p := p) (n := 0) (fun e => by have := HNa.out e; omega))
     clear hhm
     go_enter Tryz.func53, Tryz.ntmps53
     go_wp2_with (first
      | (guard_target = gB 2; refine step_box rfl _ rfl p rfl ?_; intro b2 w1 N R; have HG2 := H_ (nA HB.out N); have HB := H_ (below_on HB.out N.below); have HR2 := H_ R; clear N R)
      | (guard_target = gL 16; refine gU rfl 5 _ rfl Tryz.underlying5 HR2.out 78 (by decide) rfl rfl ?_)
      | (guard_target = gL 20; refine gU rfl 5 _ rfl Tryz.underlying5 HR2.out 0 (by decide) rfl rfl ?_)
      | (go_at_call 98; refine (rcasK HV.out HCas.out _).mono ?_; rintro e w3 ⟨rfl, rfl⟩)
      | (guard_target = gL 25; refine step_get rfl 5 _ rfl b2 78 rfl Tryz.underlying5 rfl (.int .u8 (c : Int)) ?_ ?_; exact (HR2.out.cell 78 (by decide)).trans (by rw [HC.out]; rfl))
      | (guard_target = gL 30; refine step_get rfl 5 _ rfl b2 78 rfl Tryz.underlying5 rfl (.int .u8 (c : Int)) ?_ ?_; exact (HR2.out.cell 78 (by decide)).trans (by rw [HC.out]; rfl))
      | (guard_target = gL 33; refine step_get rfl 5 _ rfl b2 78 rfl Tryz.underlying5 rfl (.int .u8 (c : Int)) ?_ ?_; exact (HR2.out.cell 78 (by decide)).trans (by rw [HC.out]; rfl))
      | (guard_target = gL 2; refine step_load rfl _ rfl b2 rfl p HR2.out ?_)
      | (go_at_call 99; refine (rfndK HKz.out _ HP.out).mono ?_; rintro e w3 ⟨rfl, hb⟩; have HR2 := H_ (HR2.out.later hb); have HB := H_ (below_on HB.out hb); clear hb)
      | (guard_target = gL2 39 38; refine step_get rfl 26 _ rfl b2 (79 + c * 2 + 0) rfl Tryz.underlying26 rfl (.int .i8 r) ?_ ?_; exact (HR2.out.cell (79 + c * 2 + 0) (by omega)).trans (by rw [kAt_rk HC2.out (by decide), HRr.out])))
     go_ret3
     exact ⟨by rw [HS.out]; rfl, HB.out⟩
    ·have q2 : decide ((h : Int) + 7 < kz) = false := decide_eq_false g2
     by_cases g3 : r < 0
     ·have q3 : decide (r < 0) = true := decide_eq_true g3
      have HS := H_ (nam_no (p := p) (n := 0) (fun e => by have := HNa.out e; omega))
      clear hhm
      go_enter Tryz.func53, Tryz.ntmps53
      go_wp2_with (first
       | (guard_target = gB 2; refine step_box rfl _ rfl p rfl ?_; intro b2 w1 N R; have HG2 := H_ (nA HB.out N); have HB := H_ (below_on HB.out N.below); have HR2 := H_ R; clear N R)
       | (guard_target = gL 16; refine gU rfl 5 _ rfl Tryz.underlying5 HR2.out 78 (by decide) rfl rfl ?_)
       | (guard_target = gL 20; refine gU rfl 5 _ rfl Tryz.underlying5 HR2.out 0 (by decide) rfl rfl ?_)
       | (go_at_call 98; refine (rcasK HV.out HCas.out _).mono ?_; rintro e w3 ⟨rfl, rfl⟩)
       | (guard_target = gL 25; refine step_get rfl 5 _ rfl b2 78 rfl Tryz.underlying5 rfl (.int .u8 (c : Int)) ?_ ?_; exact (HR2.out.cell 78 (by decide)).trans (by rw [HC.out]; rfl))
       | (guard_target = gL 30; refine step_get rfl 5 _ rfl b2 78 rfl Tryz.underlying5 rfl (.int .u8 (c : Int)) ?_ ?_; exact (HR2.out.cell 78 (by decide)).trans (by rw [HC.out]; rfl))
       | (guard_target = gL 33; refine step_get rfl 5 _ rfl b2 78 rfl Tryz.underlying5 rfl (.int .u8 (c : Int)) ?_ ?_; exact (HR2.out.cell 78 (by decide)).trans (by rw [HC.out]; rfl))
       | (guard_target = gL 2; refine step_load rfl _ rfl b2 rfl p HR2.out ?_)
       | (go_at_call 99; refine (rfndK HKz.out _ HP.out).mono ?_; rintro e w3 ⟨rfl, hb⟩; have HR2 := H_ (HR2.out.later hb); have HB := H_ (below_on HB.out hb); clear hb)
       | (guard_target = gL2 39 38; refine step_get rfl 26 _ rfl b2 (79 + c * 2 + 0) rfl Tryz.underlying26 rfl (.int .i8 r) ?_ ?_; exact (HR2.out.cell (79 + c * 2 + 0) (by omega)).trans (by rw [kAt_rk HC2.out (by decide), HRr.out])))
      go_ret3
      exact ⟨by rw [HS.out]; rfl, HB.out⟩
     ·have q3 : decide (r < 0) = false := decide_eq_false g3
      by_cases g4 : 7 < r
      ·have q4 : decide (7 < r) = true := decide_eq_true g4
       have HS := H_ (nam_no (p := p) (n := 0) (fun e => by have := HNa.out e; omega))
       clear hhm
       go_enter Tryz.func53, Tryz.ntmps53
       go_wp2_with (first
        | (guard_target = gB 2; refine step_box rfl _ rfl p rfl ?_; intro b2 w1 N R; have HG2 := H_ (nA HB.out N); have HB := H_ (below_on HB.out N.below); have HR2 := H_ R; clear N R)
        | (guard_target = gL 16; refine gU rfl 5 _ rfl Tryz.underlying5 HR2.out 78 (by decide) rfl rfl ?_)
        | (guard_target = gL 20; refine gU rfl 5 _ rfl Tryz.underlying5 HR2.out 0 (by decide) rfl rfl ?_)
        | (go_at_call 98; refine (rcasK HV.out HCas.out _).mono ?_; rintro e w3 ⟨rfl, rfl⟩)
        | (guard_target = gL 25; refine step_get rfl 5 _ rfl b2 78 rfl Tryz.underlying5 rfl (.int .u8 (c : Int)) ?_ ?_; exact (HR2.out.cell 78 (by decide)).trans (by rw [HC.out]; rfl))
        | (guard_target = gL 30; refine step_get rfl 5 _ rfl b2 78 rfl Tryz.underlying5 rfl (.int .u8 (c : Int)) ?_ ?_; exact (HR2.out.cell 78 (by decide)).trans (by rw [HC.out]; rfl))
        | (guard_target = gL 33; refine step_get rfl 5 _ rfl b2 78 rfl Tryz.underlying5 rfl (.int .u8 (c : Int)) ?_ ?_; exact (HR2.out.cell 78 (by decide)).trans (by rw [HC.out]; rfl))
        | (guard_target = gL 2; refine step_load rfl _ rfl b2 rfl p HR2.out ?_)
        | (go_at_call 99; refine (rfndK HKz.out _ HP.out).mono ?_; rintro e w3 ⟨rfl, hb⟩; have HR2 := H_ (HR2.out.later hb); have HB := H_ (below_on HB.out hb); clear hb)
        | (guard_target = gL2 39 38; refine step_get rfl 26 _ rfl b2 (79 + c * 2 + 0) rfl Tryz.underlying26 rfl (.int .i8 r) ?_ ?_; exact (HR2.out.cell (79 + c * 2 + 0) (by omega)).trans (by rw [kAt_rk HC2.out (by decide), HRr.out])))
       go_ret3
       exact ⟨by rw [HS.out]; rfl, HB.out⟩
      ·have q4 : decide (7 < r) = false := decide_eq_false g4
       obtain ⟨fN, hfN⟩ : ∃ fN : Nat, kz = (fN : Int) := ⟨kz.toNat, by omega⟩
       obtain ⟨rN, hrN⟩ : ∃ rN : Nat, (h : Int) + r = (rN : Int) := ⟨((h : Int) + r).toNat, by omega⟩
       subst hfN
       have q1n : decide (fN < h) = false := decide_eq_false (by omega)
       have q2n : decide (h + 7 < fN) = false := decide_eq_false (by omega)
       have hf64 : fN < 64 := by omega
       have hr64 : rN < 64 := by omega
       obtain ⟨is, HIs⟩ : ∃ is, Hid ((kndZ (p (1 + rN)) == 4 && p (1 + rN) / 8 == (c : Int)) = is) := ⟨_, H_ rfl⟩
       have HHas := H_ (show hasN (ofN p (c : Int) 4) ((h : Int) + r) = is by rw [hrN, hasN_nat _ _ hr64, ofN_testBit _ _ _ _ hr64, ← is_ofk (by decide)]; exact HIs.out)
       clear hhm
       cases is
       ·have HS := H_ (nam_no (p := p) (n := 0) (fun e => by have := (HNa.out e).2.2.1; rw [HHas.out] at this; cases this))
        go_enter Tryz.func53, Tryz.ntmps53
        go_wp2_with (first
         | (guard_target = gB 2; refine step_box rfl _ rfl p rfl ?_; intro b2 w1 N R; have HG2 := H_ (nA HB.out N); have HB := H_ (below_on HB.out N.below); have HR2 := H_ R; clear N R)
         | (guard_target = gL 16; refine gU rfl 5 _ rfl Tryz.underlying5 HR2.out 78 (by decide) rfl rfl ?_)
         | (guard_target = gL 20; refine gU rfl 5 _ rfl Tryz.underlying5 HR2.out 0 (by decide) rfl rfl ?_)
         | (go_at_call 98; refine (rcasK HV.out HCas.out _).mono ?_; rintro e w3 ⟨rfl, rfl⟩)
         | (guard_target = gL 25; refine step_get rfl 5 _ rfl b2 78 rfl Tryz.underlying5 rfl (.int .u8 (c : Int)) ?_ ?_; exact (HR2.out.cell 78 (by decide)).trans (by rw [HC.out]; rfl))
         | (guard_target = gL 30; refine step_get rfl 5 _ rfl b2 78 rfl Tryz.underlying5 rfl (.int .u8 (c : Int)) ?_ ?_; exact (HR2.out.cell 78 (by decide)).trans (by rw [HC.out]; rfl))
         | (guard_target = gL 33; refine step_get rfl 5 _ rfl b2 78 rfl Tryz.underlying5 rfl (.int .u8 (c : Int)) ?_ ?_; exact (HR2.out.cell 78 (by decide)).trans (by rw [HC.out]; rfl))
         | (guard_target = gL 2; refine step_load rfl _ rfl b2 rfl p HR2.out ?_)
         | (go_at_call 99; refine (rfndK HKz.out _ HP.out).mono ?_; rintro e w3 ⟨rfl, hb⟩; have HR2 := H_ (HR2.out.later hb); have HB := H_ (below_on HB.out hb); clear hb)
         | (guard_target = gL2 39 38; refine step_get rfl 26 _ rfl b2 (79 + c * 2 + 0) rfl Tryz.underlying26 rfl (.int .i8 r) ?_ ?_; exact (HR2.out.cell (79 + c * 2 + 0) (by omega)).trans (by rw [kAt_rk HC2.out (by decide), HRr.out]))
         | (guard_target = gL 63; refine step_get rfl 5 _ rfl b2 78 rfl Tryz.underlying5 rfl (.int .u8 (c : Int)) ?_ ?_; exact (HR2.out.cell 78 (by decide)).trans (by rw [HC.out]; rfl))
         | (go_at_call 100; refine (ris_any p rN (c : Int) 4 _ HP.out (by omega)).mono ?_; rintro e w3 ⟨rfl, hb⟩; rw [HIs.out]; have HR2 := H_ (HR2.out.later hb); have HB := H_ (below_on HB.out hb); clear hb))
        go_ret3
        exact ⟨by rw [HS.out]; rfl, HB.out⟩
       ·have hne : fN ≠ rN := fun e => by
         have h1 := (first_bit (ofN_lt p (c : Int) 6) HKz.out)
         have h2 := of_at (p := p) (by decide) h1.1 h1.2
         have h3 := of_at (p := p) (c := (c : Int)) (k := 4) (by decide) hr64 (by rw [← hasN_nat _ _ hr64, ← hrN]; exact HHas.out)
         rw [e] at h2
         omega
        by_cases g5 : rN < fN
        ·have q5 : decide (rN < fN) = true := decide_eq_true g5
         have q5' : decide ((rN : Int) < (fN : Int)) = true := decide_eq_true (by omega)
         have HS := H_ (nam_no (p := p) (n := 0) (fun e => by have := (HNa.out e).2.2.2.2.2; omega))
         go_enter Tryz.func53, Tryz.ntmps53
         go_wp2_with (first
          | (guard_target = gB 2; refine step_box rfl _ rfl p rfl ?_; intro b2 w1 N R; have HG2 := H_ (nA HB.out N); have HB := H_ (below_on HB.out N.below); have HR2 := H_ R; clear N R)
          | (guard_target = gL 16; refine gU rfl 5 _ rfl Tryz.underlying5 HR2.out 78 (by decide) rfl rfl ?_)
          | (guard_target = gL 20; refine gU rfl 5 _ rfl Tryz.underlying5 HR2.out 0 (by decide) rfl rfl ?_)
          | (go_at_call 98; refine (rcasK HV.out HCas.out _).mono ?_; rintro e w3 ⟨rfl, rfl⟩)
          | (guard_target = gL 25; refine step_get rfl 5 _ rfl b2 78 rfl Tryz.underlying5 rfl (.int .u8 (c : Int)) ?_ ?_; exact (HR2.out.cell 78 (by decide)).trans (by rw [HC.out]; rfl))
          | (guard_target = gL 30; refine step_get rfl 5 _ rfl b2 78 rfl Tryz.underlying5 rfl (.int .u8 (c : Int)) ?_ ?_; exact (HR2.out.cell 78 (by decide)).trans (by rw [HC.out]; rfl))
          | (guard_target = gL 33; refine step_get rfl 5 _ rfl b2 78 rfl Tryz.underlying5 rfl (.int .u8 (c : Int)) ?_ ?_; exact (HR2.out.cell 78 (by decide)).trans (by rw [HC.out]; rfl))
          | (guard_target = gL 2; refine step_load rfl _ rfl b2 rfl p HR2.out ?_)
          | (go_at_call 99; refine (rfndK HKz.out _ HP.out).mono ?_; rintro e w3 ⟨rfl, hb⟩; have HR2 := H_ (HR2.out.later hb); have HB := H_ (below_on HB.out hb); clear hb)
          | (guard_target = gL2 39 38; refine step_get rfl 26 _ rfl b2 (79 + c * 2 + 0) rfl Tryz.underlying26 rfl (.int .i8 r) ?_ ?_; exact (HR2.out.cell (79 + c * 2 + 0) (by omega)).trans (by rw [kAt_rk HC2.out (by decide), HRr.out]))
          | (guard_target = gL 63; refine step_get rfl 5 _ rfl b2 78 rfl Tryz.underlying5 rfl (.int .u8 (c : Int)) ?_ ?_; exact (HR2.out.cell 78 (by decide)).trans (by rw [HC.out]; rfl))
          | (go_at_call 100; refine (ris_any p rN (c : Int) 4 _ HP.out (by omega)).mono ?_; rintro e w3 ⟨rfl, hb⟩; rw [HIs.out]; have HR2 := H_ (HR2.out.later hb); have HB := H_ (below_on HB.out hb); clear hb))
         go_ret3
         exact ⟨by rw [HS.out]; rfl, HB.out⟩
        ·have q5 : decide (rN < fN) = false := decide_eq_false g5
         have q5' : decide ((rN : Int) < (fN : Int)) = false := decide_eq_false (by omega)
         have HNam := H_ (HNo.out (by omega) HHas.out (by omega) (by omega))
         obtain ⟨Q0, hQ0⟩ : ∃ Q0, upd (upd p (1 + fN) 0) (1 + rN) 0 = Q0 := ⟨_, rfl⟩
         have HQ0 := H_ hQ0
         have HAQ := H_ (show BdR Q0 by rw [← hQ0]; exact ((HA.out.put _ _ ⟨by decide, by decide⟩).put _ _ ⟨by decide, by decide⟩).bd)
         have hmay : mayC p (mvC p 0) = (freeC Q0 (fN : Int) ((h : Int) + 6) && (freeC Q0 (rN : Int) ((h : Int) + 5) && safeC Q0 (fN : Int) ((h : Int) + 6))) := by
          have hsd := (fit_mvC HC.out HNam.out).2
          unfold mayC
          rw [hsd, HMv.out, HRl.out, hrN, bare_upd hf64 hr64, hQ0]; rfl
         have HOk := H_ (ok_all (q := Q0) (f := (fN : Int)) (K := (h : Int) + 6) (r := (rN : Int)) (R := (h : Int) + 5) (h := h) hh56 (by omega) (by omega) (by omega) (by omega))
         have HMay := H_ hmay
         clear hQ0 hmay
         go_enter Tryz.func53, Tryz.ntmps53
         go_wp2_with (first
          | (guard_target = gB 2; refine step_box rfl _ rfl p rfl ?_; intro b2 w1 N R; have HG2 := H_ (nA HB.out N); have HB := H_ (below_on HB.out N.below); have HR2 := H_ R; clear N R)
          | (guard_target = gL 16; refine gU rfl 5 _ rfl Tryz.underlying5 HR2.out 78 (by decide) rfl rfl ?_)
          | (guard_target = gL 20; refine gU rfl 5 _ rfl Tryz.underlying5 HR2.out 0 (by decide) rfl rfl ?_)
          | (go_at_call 98; refine (rcasK HV.out HCas.out _).mono ?_; rintro e w3 ⟨rfl, rfl⟩)
          | (guard_target = gL 25; refine step_get rfl 5 _ rfl b2 78 rfl Tryz.underlying5 rfl (.int .u8 (c : Int)) ?_ ?_; exact (HR2.out.cell 78 (by decide)).trans (by rw [HC.out]; rfl))
          | (guard_target = gL 30; refine step_get rfl 5 _ rfl b2 78 rfl Tryz.underlying5 rfl (.int .u8 (c : Int)) ?_ ?_; exact (HR2.out.cell 78 (by decide)).trans (by rw [HC.out]; rfl))
          | (guard_target = gL 33; refine step_get rfl 5 _ rfl b2 78 rfl Tryz.underlying5 rfl (.int .u8 (c : Int)) ?_ ?_; exact (HR2.out.cell 78 (by decide)).trans (by rw [HC.out]; rfl))
          | (guard_target = gL 2; refine step_load rfl _ rfl b2 rfl p HR2.out ?_)
          | (go_at_call 99; refine (rfndK HKz.out _ HP.out).mono ?_; rintro e w3 ⟨rfl, hb⟩; have HR2 := H_ (HR2.out.later hb); have HB := H_ (below_on HB.out hb); clear hb)
          | (guard_target = gL2 39 38; refine step_get rfl 26 _ rfl b2 (79 + c * 2 + 0) rfl Tryz.underlying26 rfl (.int .i8 r) ?_ ?_; exact (HR2.out.cell (79 + c * 2 + 0) (by omega)).trans (by rw [kAt_rk HC2.out (by decide), HRr.out]))
          | (guard_target = gL 63; refine step_get rfl 5 _ rfl b2 78 rfl Tryz.underlying5 rfl (.int .u8 (c : Int)) ?_ ?_; exact (HR2.out.cell 78 (by decide)).trans (by rw [HC.out]; rfl))
          | (go_at_call 100; refine (ris_any p rN (c : Int) 4 _ HP.out (by omega)).mono ?_; rintro e w3 ⟨rfl, hb⟩; rw [HIs.out]; have HR2 := H_ (HR2.out.later hb); have HB := H_ (below_on HB.out hb); clear hb)
          | (go_at_call 101; refine (rgK2 (n := 0) (a := 6) (b := 5) rfl rfl _).mono ?_; rintro e w3 ⟨rfl, rfl⟩)
          | (guard_target = gA 13; refine step_alloc (op := ⟨some 13, _, _, _, _, _⟩) rfl rfl ?_; intro b13 wn N R; have HG13 := H_ (nA HB.out N); have HR13 := H_ R; have HY13 := H_ (show b2 ≠ b13 from Nat.ne_of_lt (by have h1 := HR2.out.lt; have := N.at_; omega)); have HR2 := H_ (HR2.out.later N.below); have HB := H_ (below_on HB.out N.below); clear N R)
          | (guard_target = gS 13; refine step_store (op := ⟨none, .store _ (.tmp 13) _, _, _, _, _⟩) rfl _ _ rfl b13 rfl zeroP p rfl HR13.out ?_; intro wn U R; have HR2 := H_ (HR2.out.apart U HY13.out); have HR13 := H_ R; have HB := H_ (HB.out.trans (U.below HG13.out)); clear U R)
          | (guard_target = gS 93; refine step_cell (op := ⟨none, .store _ (.tmp 93) _, _, _, _, _⟩) rfl 5 _ _ rfl b13 (1 + fN) rfl .u8 0 rfl _ HR13.out (by omega) (kAt_board (Nat.zero_le _) (by omega)) size5 ?_; intro wn U R; have HR2 := H_ (HR2.out.apart U HY13.out); have HR13 := H_ R; have HB := H_ (HB.out.trans (U.below HG13.out)); clear U R)
          | (guard_target = gS 96; refine step_cell (op := ⟨none, .store _ (.tmp 96) _, _, _, _, _⟩) rfl 5 _ _ rfl b13 (1 + rN) rfl .u8 0 rfl _ HR13.out (by omega) (kAt_board (Nat.zero_le _) (by omega)) size5 ?_; intro wn U R; rw [HQ0.out] at R; have HR2 := H_ (HR2.out.apart U HY13.out); have HR13 := H_ R; have HB := H_ (HB.out.trans (U.below HG13.out)); clear U R))
         clear HR2
         go_loopw [14] (fun i wr => ∃ (j s : Nat), j ≤ 8 ∧ i = .int .i64 (s : Int) ∧ s = h + j ∧ Hid (∀ i, i < j → okC Q0 (fN : Int) ((h : Int) + 6) (rN : Int) ((h : Int) + 5) (h + i) = true) ∧ Row wr b13 Q0 ∧ Below w.heap.size w wr) (fun i _ => h + 8 - (intOf i).toNat)
         case atStart => exact ⟨0, h, by omega, rfl, by omega, H_ (fun i h9 => by omega), HR13.out, HB.out⟩
         case round =>
          clear HR13 HB
          obtain ⟨j, s, hj, rfl, hsj, Hall, hr13, hb⟩ := hrel
          have HR13 := H_ hr13
          have HB := H_ hb
          clear hr13 hb
          by_cases hl : j < 8
          ·have q6 : decide (s < h + 8) = true := decide_eq_true (by omega)
           have q6' : decide ((s : Int) < (h : Int) + 8) = true := decide_eq_true (by omega)
           have hs64 : s < 64 := by omega
           obtain ⟨w1, HW1⟩ : ∃ w1, Hid (wiB (s : Int) (fN : Int) ((h : Int) + 6) = w1) := ⟨_, H_ rfl⟩
           obtain ⟨w2, HW2⟩ : ∃ w2, Hid (wiB (s : Int) (rN : Int) ((h : Int) + 5) = w2) := ⟨_, H_ rfl⟩
           obtain ⟨bd, hbd⟩ : ∃ bd, bdC Q0 (s : Int) = bd := ⟨_, rfl⟩
           have HBd := H_ (show (!bdC Q0 (s : Int)) = !bd by rw [hbd])
           have HBe := H_ hbd
           have HSJ := H_ hsj
           have HJ8 := H_ hl
           clear hbd hsj
           cases w1
           ·cases w2
            ·have HOj := H_ (show okC Q0 (fN : Int) ((h : Int) + 6) (rN : Int) ((h : Int) + 5) (h + j) = true by rw [← HSJ.out]; unfold okC; rw [HW1.out, HW2.out]; rfl)
             go_wp2_with (first
              | (go_at_call 102; guard_target = Go.Calls _ _ #[_, Go.Value.int _ (fN : Int), _] _ _; refine (cs_within (s : Int) (fN : Int) ((h : Int) + 6) _).mono ?_; rintro e w3 ⟨rfl, rfl⟩; rw [HW1.out])
              | (go_at_call 102; guard_target = Go.Calls _ _ #[_, Go.Value.int _ (rN : Int), _] _ _; refine (cs_within (s : Int) (rN : Int) ((h : Int) + 5) _).mono ?_; rintro e w3 ⟨rfl, rfl⟩; rw [HW2.out]))
             go_roundw
             case rel => exact ⟨j + 1, s + 1, by have := HJ8.out; omega, by go_num, by have := HSJ.out; omega, H_ (fun i h9 => by
              by_cases e : i = j
              ·rw [e]; exact HOj.out
              ·exact Hall.out i (by omega)), HR13.out, HB.out⟩
             case measure => simp [intOf]; have := HSJ.out; have := HJ8.out; omega
            ·cases q7 : (kndZ (Q0 (1 + s)) != 0)
             ·have HOj := H_ (show okC Q0 (fN : Int) ((h : Int) + 6) (rN : Int) ((h : Int) + 5) (h + j) = true by rw [← HSJ.out]; unfold okC; rw [HW1.out, HW2.out, q7]; rfl)
              go_wp2_with (first
               | (go_at_call 102; guard_target = Go.Calls _ _ #[_, Go.Value.int _ (fN : Int), _] _ _; refine (cs_within (s : Int) (fN : Int) ((h : Int) + 6) _).mono ?_; rintro e w3 ⟨rfl, rfl⟩; rw [HW1.out])
               | (go_at_call 102; guard_target = Go.Calls _ _ #[_, Go.Value.int _ (rN : Int), _] _ _; refine (cs_within (s : Int) (rN : Int) ((h : Int) + 5) _).mono ?_; rintro e w3 ⟨rfl, rfl⟩; rw [HW2.out])
               | (guard_target = gL2 123 122; refine step_get rfl 5 _ rfl b13 (1 + s) rfl Tryz.underlying5 rfl (.int .u8 (Q0 (1 + s))) ?_ ?_; exact (HR13.out.cell (1 + s) (by omega)).trans (by rw [kAt_board (Nat.zero_le _) (by omega)]))
               | (go_at_call 28; refine (rkind_any _ _ (HAQ.out s (by omega)).1 (HAQ.out s (by omega)).2).mono ?_; rintro e w3 ⟨rfl, rfl⟩))
              go_roundw
              case rel => exact ⟨j + 1, s + 1, by have := HJ8.out; omega, by go_num, by have := HSJ.out; omega, H_ (fun i h9 => by
               by_cases e : i = j
               ·rw [e]; exact HOj.out
               ·exact Hall.out i (by omega)), HR13.out, HB.out⟩
              case measure => simp [intOf]; have := HSJ.out; have := HJ8.out; omega
             ·have HOj := H_ (show okC Q0 (fN : Int) ((h : Int) + 6) (rN : Int) ((h : Int) + 5) s = false by unfold okC; rw [HW1.out, HW2.out, q7]; rfl)
              have HS := H_ (show mayB' p 0 = false by unfold mayB' inC; rw [HNam.out, HTh.out, HMay.out, Bool.true_and, Bool.true_and, Bool.eq_false_iff]; exact fun e => by have := HOk.out.1 e j HJ8.out; rw [← HSJ.out, HOj.out] at this; cases this)
              go_wp2_with (first
               | (go_at_call 102; guard_target = Go.Calls _ _ #[_, Go.Value.int _ (fN : Int), _] _ _; refine (cs_within (s : Int) (fN : Int) ((h : Int) + 6) _).mono ?_; rintro e w3 ⟨rfl, rfl⟩; rw [HW1.out])
               | (go_at_call 102; guard_target = Go.Calls _ _ #[_, Go.Value.int _ (rN : Int), _] _ _; refine (cs_within (s : Int) (rN : Int) ((h : Int) + 5) _).mono ?_; rintro e w3 ⟨rfl, rfl⟩; rw [HW2.out])
               | (guard_target = gL2 123 122; refine step_get rfl 5 _ rfl b13 (1 + s) rfl Tryz.underlying5 rfl (.int .u8 (Q0 (1 + s))) ?_ ?_; exact (HR13.out.cell (1 + s) (by omega)).trans (by rw [kAt_board (Nat.zero_le _) (by omega)]))
               | (go_at_call 28; refine (rkind_any _ _ (HAQ.out s (by omega)).1 (HAQ.out s (by omega)).2).mono ?_; rintro e w3 ⟨rfl, rfl⟩))
              go_ret3
              exact ⟨by rw [HS.out]; rfl, HB.out⟩
           ·cases q7 : (kndZ (Q0 (1 + s)) != 0)
            ·cases bd
             ·have HOj := H_ (show okC Q0 (fN : Int) ((h : Int) + 6) (rN : Int) ((h : Int) + 5) (h + j) = true by rw [← HSJ.out]; unfold okC; rw [HW1.out, q7, HBe.out]; rfl)
              go_wp2_with (first
               | (go_at_call 102; guard_target = Go.Calls _ _ #[_, Go.Value.int _ (fN : Int), _] _ _; refine (cs_within (s : Int) (fN : Int) ((h : Int) + 6) _).mono ?_; rintro e w3 ⟨rfl, rfl⟩; rw [HW1.out])
               | (guard_target = gL2 123 122; refine step_get rfl 5 _ rfl b13 (1 + s) rfl Tryz.underlying5 rfl (.int .u8 (Q0 (1 + s))) ?_ ?_; exact (HR13.out.cell (1 + s) (by omega)).trans (by rw [kAt_board (Nat.zero_le _) (by omega)]))
               | (go_at_call 28; refine (rkind_any _ _ (HAQ.out s (by omega)).1 (HAQ.out s (by omega)).2).mono ?_; rintro e w3 ⟨rfl, rfl⟩)
               | (guard_target = gL 13; refine step_load rfl _ rfl b13 rfl Q0 HR13.out ?_)
               | (go_at_call 103; refine (cs_rsafe Q0 s (by omega) _ HAQ.out).mono ?_; rintro e w3 ⟨rfl, hb⟩; rw [HBd.out]; have HR13 := H_ (HR13.out.later hb); have HB := H_ (below_on HB.out hb); clear hb))
              go_roundw
              case rel => exact ⟨j + 1, s + 1, by have := HJ8.out; omega, by go_num, by have := HSJ.out; omega, H_ (fun i h9 => by
               by_cases e : i = j
               ·rw [e]; exact HOj.out
               ·exact Hall.out i (by omega)), HR13.out, HB.out⟩
              case measure => simp [intOf]; have := HSJ.out; have := HJ8.out; omega
             ·have HOj := H_ (show okC Q0 (fN : Int) ((h : Int) + 6) (rN : Int) ((h : Int) + 5) s = false by unfold okC; rw [HW1.out, q7, HBe.out]; rfl)
              have HS := H_ (show mayB' p 0 = false by unfold mayB' inC; rw [HNam.out, HTh.out, HMay.out, Bool.true_and, Bool.true_and, Bool.eq_false_iff]; exact fun e => by have := HOk.out.1 e j HJ8.out; rw [← HSJ.out, HOj.out] at this; cases this)
              go_wp2_with (first
               | (go_at_call 102; guard_target = Go.Calls _ _ #[_, Go.Value.int _ (fN : Int), _] _ _; refine (cs_within (s : Int) (fN : Int) ((h : Int) + 6) _).mono ?_; rintro e w3 ⟨rfl, rfl⟩; rw [HW1.out])
               | (guard_target = gL2 123 122; refine step_get rfl 5 _ rfl b13 (1 + s) rfl Tryz.underlying5 rfl (.int .u8 (Q0 (1 + s))) ?_ ?_; exact (HR13.out.cell (1 + s) (by omega)).trans (by rw [kAt_board (Nat.zero_le _) (by omega)]))
               | (go_at_call 28; refine (rkind_any _ _ (HAQ.out s (by omega)).1 (HAQ.out s (by omega)).2).mono ?_; rintro e w3 ⟨rfl, rfl⟩)
               | (guard_target = gL 13; refine step_load rfl _ rfl b13 rfl Q0 HR13.out ?_)
               | (go_at_call 103; refine (cs_rsafe Q0 s (by omega) _ HAQ.out).mono ?_; rintro e w3 ⟨rfl, hb⟩; rw [HBd.out]; have HR13 := H_ (HR13.out.later hb); have HB := H_ (below_on HB.out hb); clear hb))
              go_ret3
              exact ⟨by rw [HS.out]; rfl, HB.out⟩
            ·have HOj := H_ (show okC Q0 (fN : Int) ((h : Int) + 6) (rN : Int) ((h : Int) + 5) s = false by unfold okC; rw [HW1.out, q7]; rfl)
             have HS := H_ (show mayB' p 0 = false by unfold mayB' inC; rw [HNam.out, HTh.out, HMay.out, Bool.true_and, Bool.true_and, Bool.eq_false_iff]; exact fun e => by have := HOk.out.1 e j HJ8.out; rw [← HSJ.out, HOj.out] at this; cases this)
             go_wp2_with (first
              | (go_at_call 102; guard_target = Go.Calls _ _ #[_, Go.Value.int _ (fN : Int), _] _ _; refine (cs_within (s : Int) (fN : Int) ((h : Int) + 6) _).mono ?_; rintro e w3 ⟨rfl, rfl⟩; rw [HW1.out])
              | (guard_target = gL2 123 122; refine step_get rfl 5 _ rfl b13 (1 + s) rfl Tryz.underlying5 rfl (.int .u8 (Q0 (1 + s))) ?_ ?_; exact (HR13.out.cell (1 + s) (by omega)).trans (by rw [kAt_board (Nat.zero_le _) (by omega)]))
              | (go_at_call 28; refine (rkind_any _ _ (HAQ.out s (by omega)).1 (HAQ.out s (by omega)).2).mono ?_; rintro e w3 ⟨rfl, rfl⟩))
             go_ret3
             exact ⟨by rw [HS.out]; rfl, HB.out⟩
          ·obtain rfl : j = 8 := by omega
           have q6 : decide (s < h + 8) = false := decide_eq_false (by omega)
           have q6' : decide ((s : Int) < (h : Int) + 8) = false := decide_eq_false (by omega)
           have HS := H_ (show mayB' p 0 = true by unfold mayB' inC; rw [HNam.out, HTh.out, HMay.out, HOk.out.2 Hall.out]; rfl)
           go_wp2_with fail
           go_ret3
           exact ⟨by rw [HS.out, HMv.out, hrN]; rfl, HB.out⟩
theorem cs_rmay1 (p : Nat → Int) (w : World) (hp : CsR p) : Calls Tryz.prog 53 #[.agg (posA p), .int .i64 1] w (RMayL p 1 w) := by
 have HP := H_ hp.at_.bd
 have HV := H_ hp.at_.var
 have ht0 := hp.at_.turn.1
 unfold RMayL
 have HB := H_ (Below.refl w.heap.size w)
 by_cases h78 : 1 < p 78
 ·have q0 : decide (1 < p 78) = true := decide_eq_true h78
  have HS := H_ (nth_no (p := p) (by unfold thC; rw [decide_eq_false (by omega)]; rfl) 1)
  clear hp h78
  go_enter Tryz.func53, Tryz.ntmps53
  go_wp2_with (first
   | (guard_target = gB 2; refine step_box rfl _ rfl p rfl ?_; intro b2 w1 N R; have HG2 := H_ (nA HB.out N); have HB := H_ (below_on HB.out N.below); have HR2 := H_ R; clear N R)
   | (guard_target = gL 16; refine gU rfl 5 _ rfl Tryz.underlying5 HR2.out 78 (by decide) rfl rfl ?_))
  go_ret3
  exact ⟨by rw [HS.out]; rfl, HB.out⟩
 ·cases hcas : casB (p 0).toNat
  ·have q0 : decide (1 < p 78) = false := decide_eq_false h78
   have HCas := H_ hcas
   have HS := H_ (nth_no (p := p) (by unfold thC; rw [hcas, Bool.and_false]) 1)
   clear hp h78 hcas
   go_enter Tryz.func53, Tryz.ntmps53
   go_wp2_with (first
   | (guard_target = gB 2; refine step_box rfl _ rfl p rfl ?_; intro b2 w1 N R; have HG2 := H_ (nA HB.out N); have HB := H_ (below_on HB.out N.below); have HR2 := H_ R; clear N R)
   | (guard_target = gL 16; refine gU rfl 5 _ rfl Tryz.underlying5 HR2.out 78 (by decide) rfl rfl ?_)
   | (guard_target = gL 20; refine gU rfl 5 _ rfl Tryz.underlying5 HR2.out 0 (by decide) rfl rfl ?_)
   | (go_at_call 98; refine (rcasK HV.out HCas.out _).mono ?_; rintro e w3 ⟨rfl, rfl⟩))
   go_ret3
   exact ⟨by rw [HS.out]; rfl, HB.out⟩
  ·have q0 : decide (1 < p 78) = false := decide_eq_false h78
   have HCas := H_ hcas
   have hth : thC p = true := by unfold thC; rw [hcas, decide_eq_true (show p 78 ≤ 1 by omega)]; rfl
   obtain ⟨c, hc⟩ : ∃ c : Nat, p 78 = (c : Int) := ⟨(p 78).toNat, by omega⟩
   have hc2 : c < 2 := by omega
   have HC := H_ hc
   have HC2 := H_ hc2
   obtain ⟨h, hh⟩ : ∃ h : Nat, 56 * c = h := ⟨_, rfl⟩
   have hhI : 56 * (c : Int) = (h : Int) := by omega
   have hhm : hmC (p 78) = (h : Int) := by rw [hc, ← hhI]; rcases (by omega : c = 0 ∨ c = 1) with rfl | rfl <;> rfl
   have hh56 : h ≤ 56 := by omega
   obtain ⟨r, hr⟩ : ∃ r, flC p 1 = r := ⟨_, rfl⟩
   have hr' : p (79 + c * 2 + 1) = r := by rw [← hr]; unfold flC; rw [hc, Int.toNat_natCast]
   have HRr := H_ hr'
   have hrr : -128 ≤ r ∧ r ≤ 127 := by rw [← hr']; exact hp.rk (c * 2 + 1) (by omega)
   obtain ⟨kz, hkz⟩ : ∃ kz, kingZ p (c : Int) = kz := ⟨_, rfl⟩
   have hkr : -1 ≤ kz ∧ kz ≤ 63 := by rw [← hkz]; exact king_rng _ _
   have HKz := H_ hkz
   have hna := nam_at (p := p) (n := 1) (by decide)
   have hno := nam_of (p := p) (n := 1) (by decide) (by omega)
   rw [hc] at hna hno
   rw [hkz, hr, show hmC (c : Int) = (h : Int) by rw [← hc]; exact hhm] at hna hno
   rw [if1] at hna hno
   have hmv : mvC p 1 = ⟨kz, (h : Int) + r, 0, 0, true⟩ := by unfold mvC; rw [hhm, hr, hc, hkz]
   have HA := H_ hp.at_
   have HTh := H_ hth
   have HMv := H_ hmv
   have HNa := H_ hna
   have HNo := H_ hno
   have HRl := H_ hhm
   clear hp h78 hcas hth hr hr' hkz hmv hc hna hno hh
   by_cases g1 : kz < (h : Int)
   ·have q1 : decide (kz < (h : Int)) = true := decide_eq_true g1
    have HS := H_ (nam_no (p := p) (n := 1) (fun e => by have := HNa.out e; omega))
    clear hhm
    go_enter Tryz.func53, Tryz.ntmps53
    go_wp2_with (first
     | (guard_target = gB 2; refine step_box rfl _ rfl p rfl ?_; intro b2 w1 N R; have HG2 := H_ (nA HB.out N); have HB := H_ (below_on HB.out N.below); have HR2 := H_ R; clear N R)
     | (guard_target = gL 16; refine gU rfl 5 _ rfl Tryz.underlying5 HR2.out 78 (by decide) rfl rfl ?_)
     | (guard_target = gL 20; refine gU rfl 5 _ rfl Tryz.underlying5 HR2.out 0 (by decide) rfl rfl ?_)
     | (go_at_call 98; refine (rcasK HV.out HCas.out _).mono ?_; rintro e w3 ⟨rfl, rfl⟩)
     | (guard_target = gL 25; refine step_get rfl 5 _ rfl b2 78 rfl Tryz.underlying5 rfl (.int .u8 (c : Int)) ?_ ?_; exact (HR2.out.cell 78 (by decide)).trans (by rw [HC.out]; rfl))
     | (guard_target = gL 30; refine step_get rfl 5 _ rfl b2 78 rfl Tryz.underlying5 rfl (.int .u8 (c : Int)) ?_ ?_; exact (HR2.out.cell 78 (by decide)).trans (by rw [HC.out]; rfl))
     | (guard_target = gL 33; refine step_get rfl 5 _ rfl b2 78 rfl Tryz.underlying5 rfl (.int .u8 (c : Int)) ?_ ?_; exact (HR2.out.cell 78 (by decide)).trans (by rw [HC.out]; rfl))
     | (guard_target = gL 2; refine step_load rfl _ rfl b2 rfl p HR2.out ?_)
     | (go_at_call 99; refine (rfndK HKz.out _ HP.out).mono ?_; rintro e w3 ⟨rfl, hb⟩; have HR2 := H_ (HR2.out.later hb); have HB := H_ (below_on HB.out hb); clear hb)
     | (guard_target = gL2 39 38; refine step_get rfl 26 _ rfl b2 (79 + c * 2 + 1) rfl Tryz.underlying26 rfl (.int .i8 r) ?_ ?_; exact (HR2.out.cell (79 + c * 2 + 1) (by omega)).trans (by rw [kAt_rk HC2.out (by decide), HRr.out])))
    go_ret3
    exact ⟨by rw [HS.out]; rfl, HB.out⟩
   ·have q1 : decide (kz < (h : Int)) = false := decide_eq_false g1
    by_cases g2 : (h : Int) + 7 < kz
    ·have q2 : decide ((h : Int) + 7 < kz) = true := decide_eq_true g2
     have HS := H_ (nam_no (p := p) (n := 1) (fun e => by have := HNa.out e; omega))
     clear hhm
     go_enter Tryz.func53, Tryz.ntmps53
     go_wp2_with (first
      | (guard_target = gB 2; refine step_box rfl _ rfl p rfl ?_; intro b2 w1 N R; have HG2 := H_ (nA HB.out N); have HB := H_ (below_on HB.out N.below); have HR2 := H_ R; clear N R)
      | (guard_target = gL 16; refine gU rfl 5 _ rfl Tryz.underlying5 HR2.out 78 (by decide) rfl rfl ?_)
      | (guard_target = gL 20; refine gU rfl 5 _ rfl Tryz.underlying5 HR2.out 0 (by decide) rfl rfl ?_)
      | (go_at_call 98; refine (rcasK HV.out HCas.out _).mono ?_; rintro e w3 ⟨rfl, rfl⟩)
      | (guard_target = gL 25; refine step_get rfl 5 _ rfl b2 78 rfl Tryz.underlying5 rfl (.int .u8 (c : Int)) ?_ ?_; exact (HR2.out.cell 78 (by decide)).trans (by rw [HC.out]; rfl))
      | (guard_target = gL 30; refine step_get rfl 5 _ rfl b2 78 rfl Tryz.underlying5 rfl (.int .u8 (c : Int)) ?_ ?_; exact (HR2.out.cell 78 (by decide)).trans (by rw [HC.out]; rfl))
      | (guard_target = gL 33; refine step_get rfl 5 _ rfl b2 78 rfl Tryz.underlying5 rfl (.int .u8 (c : Int)) ?_ ?_; exact (HR2.out.cell 78 (by decide)).trans (by rw [HC.out]; rfl))
      | (guard_target = gL 2; refine step_load rfl _ rfl b2 rfl p HR2.out ?_)
      | (go_at_call 99; refine (rfndK HKz.out _ HP.out).mono ?_; rintro e w3 ⟨rfl, hb⟩; have HR2 := H_ (HR2.out.later hb); have HB := H_ (below_on HB.out hb); clear hb)
      | (guard_target = gL2 39 38; refine step_get rfl 26 _ rfl b2 (79 + c * 2 + 1) rfl Tryz.underlying26 rfl (.int .i8 r) ?_ ?_; exact (HR2.out.cell (79 + c * 2 + 1) (by omega)).trans (by rw [kAt_rk HC2.out (by decide), HRr.out])))
     go_ret3
     exact ⟨by rw [HS.out]; rfl, HB.out⟩
    ·have q2 : decide ((h : Int) + 7 < kz) = false := decide_eq_false g2
     by_cases g3 : r < 0
     ·have q3 : decide (r < 0) = true := decide_eq_true g3
      have HS := H_ (nam_no (p := p) (n := 1) (fun e => by have := HNa.out e; omega))
      clear hhm
      go_enter Tryz.func53, Tryz.ntmps53
      go_wp2_with (first
       | (guard_target = gB 2; refine step_box rfl _ rfl p rfl ?_; intro b2 w1 N R; have HG2 := H_ (nA HB.out N); have HB := H_ (below_on HB.out N.below); have HR2 := H_ R; clear N R)
       | (guard_target = gL 16; refine gU rfl 5 _ rfl Tryz.underlying5 HR2.out 78 (by decide) rfl rfl ?_)
       | (guard_target = gL 20; refine gU rfl 5 _ rfl Tryz.underlying5 HR2.out 0 (by decide) rfl rfl ?_)
       | (go_at_call 98; refine (rcasK HV.out HCas.out _).mono ?_; rintro e w3 ⟨rfl, rfl⟩)
       | (guard_target = gL 25; refine step_get rfl 5 _ rfl b2 78 rfl Tryz.underlying5 rfl (.int .u8 (c : Int)) ?_ ?_; exact (HR2.out.cell 78 (by decide)).trans (by rw [HC.out]; rfl))
       | (guard_target = gL 30; refine step_get rfl 5 _ rfl b2 78 rfl Tryz.underlying5 rfl (.int .u8 (c : Int)) ?_ ?_; exact (HR2.out.cell 78 (by decide)).trans (by rw [HC.out]; rfl))
       | (guard_target = gL 33; refine step_get rfl 5 _ rfl b2 78 rfl Tryz.underlying5 rfl (.int .u8 (c : Int)) ?_ ?_; exact (HR2.out.cell 78 (by decide)).trans (by rw [HC.out]; rfl))
       | (guard_target = gL 2; refine step_load rfl _ rfl b2 rfl p HR2.out ?_)
       | (go_at_call 99; refine (rfndK HKz.out _ HP.out).mono ?_; rintro e w3 ⟨rfl, hb⟩; have HR2 := H_ (HR2.out.later hb); have HB := H_ (below_on HB.out hb); clear hb)
       | (guard_target = gL2 39 38; refine step_get rfl 26 _ rfl b2 (79 + c * 2 + 1) rfl Tryz.underlying26 rfl (.int .i8 r) ?_ ?_; exact (HR2.out.cell (79 + c * 2 + 1) (by omega)).trans (by rw [kAt_rk HC2.out (by decide), HRr.out])))
      go_ret3
      exact ⟨by rw [HS.out]; rfl, HB.out⟩
     ·have q3 : decide (r < 0) = false := decide_eq_false g3
      by_cases g4 : 7 < r
      ·have q4 : decide (7 < r) = true := decide_eq_true g4
       have HS := H_ (nam_no (p := p) (n := 1) (fun e => by have := HNa.out e; omega))
       clear hhm
       go_enter Tryz.func53, Tryz.ntmps53
       go_wp2_with (first
        | (guard_target = gB 2; refine step_box rfl _ rfl p rfl ?_; intro b2 w1 N R; have HG2 := H_ (nA HB.out N); have HB := H_ (below_on HB.out N.below); have HR2 := H_ R; clear N R)
        | (guard_target = gL 16; refine gU rfl 5 _ rfl Tryz.underlying5 HR2.out 78 (by decide) rfl rfl ?_)
        | (guard_target = gL 20; refine gU rfl 5 _ rfl Tryz.underlying5 HR2.out 0 (by decide) rfl rfl ?_)
        | (go_at_call 98; refine (rcasK HV.out HCas.out _).mono ?_; rintro e w3 ⟨rfl, rfl⟩)
        | (guard_target = gL 25; refine step_get rfl 5 _ rfl b2 78 rfl Tryz.underlying5 rfl (.int .u8 (c : Int)) ?_ ?_; exact (HR2.out.cell 78 (by decide)).trans (by rw [HC.out]; rfl))
        | (guard_target = gL 30; refine step_get rfl 5 _ rfl b2 78 rfl Tryz.underlying5 rfl (.int .u8 (c : Int)) ?_ ?_; exact (HR2.out.cell 78 (by decide)).trans (by rw [HC.out]; rfl))
        | (guard_target = gL 33; refine step_get rfl 5 _ rfl b2 78 rfl Tryz.underlying5 rfl (.int .u8 (c : Int)) ?_ ?_; exact (HR2.out.cell 78 (by decide)).trans (by rw [HC.out]; rfl))
        | (guard_target = gL 2; refine step_load rfl _ rfl b2 rfl p HR2.out ?_)
        | (go_at_call 99; refine (rfndK HKz.out _ HP.out).mono ?_; rintro e w3 ⟨rfl, hb⟩; have HR2 := H_ (HR2.out.later hb); have HB := H_ (below_on HB.out hb); clear hb)
        | (guard_target = gL2 39 38; refine step_get rfl 26 _ rfl b2 (79 + c * 2 + 1) rfl Tryz.underlying26 rfl (.int .i8 r) ?_ ?_; exact (HR2.out.cell (79 + c * 2 + 1) (by omega)).trans (by rw [kAt_rk HC2.out (by decide), HRr.out])))
       go_ret3
       exact ⟨by rw [HS.out]; rfl, HB.out⟩
      ·have q4 : decide (7 < r) = false := decide_eq_false g4
       obtain ⟨fN, hfN⟩ : ∃ fN : Nat, kz = (fN : Int) := ⟨kz.toNat, by omega⟩
       obtain ⟨rN, hrN⟩ : ∃ rN : Nat, (h : Int) + r = (rN : Int) := ⟨((h : Int) + r).toNat, by omega⟩
       subst hfN
       have q1n : decide (fN < h) = false := decide_eq_false (by omega)
       have q2n : decide (h + 7 < fN) = false := decide_eq_false (by omega)
       have hf64 : fN < 64 := by omega
       have hr64 : rN < 64 := by omega
       obtain ⟨is, HIs⟩ : ∃ is, Hid ((kndZ (p (1 + rN)) == 4 && p (1 + rN) / 8 == (c : Int)) = is) := ⟨_, H_ rfl⟩
       have HHas := H_ (show hasN (ofN p (c : Int) 4) ((h : Int) + r) = is by rw [hrN, hasN_nat _ _ hr64, ofN_testBit _ _ _ _ hr64, ← is_ofk (by decide)]; exact HIs.out)
       clear hhm
       cases is
       ·have HS := H_ (nam_no (p := p) (n := 1) (fun e => by have := (HNa.out e).2.2.1; rw [HHas.out] at this; cases this))
        go_enter Tryz.func53, Tryz.ntmps53
        go_wp2_with (first
         | (guard_target = gB 2; refine step_box rfl _ rfl p rfl ?_; intro b2 w1 N R; have HG2 := H_ (nA HB.out N); have HB := H_ (below_on HB.out N.below); have HR2 := H_ R; clear N R)
         | (guard_target = gL 16; refine gU rfl 5 _ rfl Tryz.underlying5 HR2.out 78 (by decide) rfl rfl ?_)
         | (guard_target = gL 20; refine gU rfl 5 _ rfl Tryz.underlying5 HR2.out 0 (by decide) rfl rfl ?_)
         | (go_at_call 98; refine (rcasK HV.out HCas.out _).mono ?_; rintro e w3 ⟨rfl, rfl⟩)
         | (guard_target = gL 25; refine step_get rfl 5 _ rfl b2 78 rfl Tryz.underlying5 rfl (.int .u8 (c : Int)) ?_ ?_; exact (HR2.out.cell 78 (by decide)).trans (by rw [HC.out]; rfl))
         | (guard_target = gL 30; refine step_get rfl 5 _ rfl b2 78 rfl Tryz.underlying5 rfl (.int .u8 (c : Int)) ?_ ?_; exact (HR2.out.cell 78 (by decide)).trans (by rw [HC.out]; rfl))
         | (guard_target = gL 33; refine step_get rfl 5 _ rfl b2 78 rfl Tryz.underlying5 rfl (.int .u8 (c : Int)) ?_ ?_; exact (HR2.out.cell 78 (by decide)).trans (by rw [HC.out]; rfl))
         | (guard_target = gL 2; refine step_load rfl _ rfl b2 rfl p HR2.out ?_)
         | (go_at_call 99; refine (rfndK HKz.out _ HP.out).mono ?_; rintro e w3 ⟨rfl, hb⟩; have HR2 := H_ (HR2.out.later hb); have HB := H_ (below_on HB.out hb); clear hb)
         | (guard_target = gL2 39 38; refine step_get rfl 26 _ rfl b2 (79 + c * 2 + 1) rfl Tryz.underlying26 rfl (.int .i8 r) ?_ ?_; exact (HR2.out.cell (79 + c * 2 + 1) (by omega)).trans (by rw [kAt_rk HC2.out (by decide), HRr.out]))
         | (guard_target = gL 63; refine step_get rfl 5 _ rfl b2 78 rfl Tryz.underlying5 rfl (.int .u8 (c : Int)) ?_ ?_; exact (HR2.out.cell 78 (by decide)).trans (by rw [HC.out]; rfl))
         | (go_at_call 100; refine (ris_any p rN (c : Int) 4 _ HP.out (by omega)).mono ?_; rintro e w3 ⟨rfl, hb⟩; rw [HIs.out]; have HR2 := H_ (HR2.out.later hb); have HB := H_ (below_on HB.out hb); clear hb))
        go_ret3
        exact ⟨by rw [HS.out]; rfl, HB.out⟩
       ·have hne : fN ≠ rN := fun e => by
         have h1 := (first_bit (ofN_lt p (c : Int) 6) HKz.out)
         have h2 := of_at (p := p) (by decide) h1.1 h1.2
         have h3 := of_at (p := p) (c := (c : Int)) (k := 4) (by decide) hr64 (by rw [← hasN_nat _ _ hr64, ← hrN]; exact HHas.out)
         rw [e] at h2
         omega
        by_cases g5 : fN < rN
        ·have q5 : decide (fN < rN) = true := decide_eq_true g5
         have q5' : decide ((fN : Int) < (rN : Int)) = true := decide_eq_true (by omega)
         have HS := H_ (nam_no (p := p) (n := 1) (fun e => by have := (HNa.out e).2.2.2.2.2; omega))
         go_enter Tryz.func53, Tryz.ntmps53
         go_wp2_with (first
          | (guard_target = gB 2; refine step_box rfl _ rfl p rfl ?_; intro b2 w1 N R; have HG2 := H_ (nA HB.out N); have HB := H_ (below_on HB.out N.below); have HR2 := H_ R; clear N R)
          | (guard_target = gL 16; refine gU rfl 5 _ rfl Tryz.underlying5 HR2.out 78 (by decide) rfl rfl ?_)
          | (guard_target = gL 20; refine gU rfl 5 _ rfl Tryz.underlying5 HR2.out 0 (by decide) rfl rfl ?_)
          | (go_at_call 98; refine (rcasK HV.out HCas.out _).mono ?_; rintro e w3 ⟨rfl, rfl⟩)
          | (guard_target = gL 25; refine step_get rfl 5 _ rfl b2 78 rfl Tryz.underlying5 rfl (.int .u8 (c : Int)) ?_ ?_; exact (HR2.out.cell 78 (by decide)).trans (by rw [HC.out]; rfl))
          | (guard_target = gL 30; refine step_get rfl 5 _ rfl b2 78 rfl Tryz.underlying5 rfl (.int .u8 (c : Int)) ?_ ?_; exact (HR2.out.cell 78 (by decide)).trans (by rw [HC.out]; rfl))
          | (guard_target = gL 33; refine step_get rfl 5 _ rfl b2 78 rfl Tryz.underlying5 rfl (.int .u8 (c : Int)) ?_ ?_; exact (HR2.out.cell 78 (by decide)).trans (by rw [HC.out]; rfl))
          | (guard_target = gL 2; refine step_load rfl _ rfl b2 rfl p HR2.out ?_)
          | (go_at_call 99; refine (rfndK HKz.out _ HP.out).mono ?_; rintro e w3 ⟨rfl, hb⟩; have HR2 := H_ (HR2.out.later hb); have HB := H_ (below_on HB.out hb); clear hb)
          | (guard_target = gL2 39 38; refine step_get rfl 26 _ rfl b2 (79 + c * 2 + 1) rfl Tryz.underlying26 rfl (.int .i8 r) ?_ ?_; exact (HR2.out.cell (79 + c * 2 + 1) (by omega)).trans (by rw [kAt_rk HC2.out (by decide), HRr.out]))
          | (guard_target = gL 63; refine step_get rfl 5 _ rfl b2 78 rfl Tryz.underlying5 rfl (.int .u8 (c : Int)) ?_ ?_; exact (HR2.out.cell 78 (by decide)).trans (by rw [HC.out]; rfl))
          | (go_at_call 100; refine (ris_any p rN (c : Int) 4 _ HP.out (by omega)).mono ?_; rintro e w3 ⟨rfl, hb⟩; rw [HIs.out]; have HR2 := H_ (HR2.out.later hb); have HB := H_ (below_on HB.out hb); clear hb))
         go_ret3
         exact ⟨by rw [HS.out]; rfl, HB.out⟩
        ·have q5 : decide (fN < rN) = false := decide_eq_false g5
         have q5' : decide ((fN : Int) < (rN : Int)) = false := decide_eq_false (by omega)
         have HNam := H_ (HNo.out (by omega) HHas.out (by omega) (by omega))
         obtain ⟨Q0, hQ0⟩ : ∃ Q0, upd (upd p (1 + fN) 0) (1 + rN) 0 = Q0 := ⟨_, rfl⟩
         have HQ0 := H_ hQ0
         have HAQ := H_ (show BdR Q0 by rw [← hQ0]; exact ((HA.out.put _ _ ⟨by decide, by decide⟩).put _ _ ⟨by decide, by decide⟩).bd)
         have hmay : mayC p (mvC p 1) = (freeC Q0 (fN : Int) ((h : Int) + 2) && (freeC Q0 (rN : Int) ((h : Int) + 3) && safeC Q0 (fN : Int) ((h : Int) + 2))) := by
          have hsd := (fit_mvC HC.out HNam.out).2
          unfold mayC
          rw [hsd, HMv.out, HRl.out, hrN, bare_upd hf64 hr64, hQ0]; rfl
         have HOk := H_ (ok_all (q := Q0) (f := (fN : Int)) (K := (h : Int) + 2) (r := (rN : Int)) (R := (h : Int) + 3) (h := h) hh56 (by omega) (by omega) (by omega) (by omega))
         have HMay := H_ hmay
         clear hQ0 hmay
         go_enter Tryz.func53, Tryz.ntmps53
         go_wp2_with (first
          | (guard_target = gB 2; refine step_box rfl _ rfl p rfl ?_; intro b2 w1 N R; have HG2 := H_ (nA HB.out N); have HB := H_ (below_on HB.out N.below); have HR2 := H_ R; clear N R)
          | (guard_target = gL 16; refine gU rfl 5 _ rfl Tryz.underlying5 HR2.out 78 (by decide) rfl rfl ?_)
          | (guard_target = gL 20; refine gU rfl 5 _ rfl Tryz.underlying5 HR2.out 0 (by decide) rfl rfl ?_)
          | (go_at_call 98; refine (rcasK HV.out HCas.out _).mono ?_; rintro e w3 ⟨rfl, rfl⟩)
          | (guard_target = gL 25; refine step_get rfl 5 _ rfl b2 78 rfl Tryz.underlying5 rfl (.int .u8 (c : Int)) ?_ ?_; exact (HR2.out.cell 78 (by decide)).trans (by rw [HC.out]; rfl))
          | (guard_target = gL 30; refine step_get rfl 5 _ rfl b2 78 rfl Tryz.underlying5 rfl (.int .u8 (c : Int)) ?_ ?_; exact (HR2.out.cell 78 (by decide)).trans (by rw [HC.out]; rfl))
          | (guard_target = gL 33; refine step_get rfl 5 _ rfl b2 78 rfl Tryz.underlying5 rfl (.int .u8 (c : Int)) ?_ ?_; exact (HR2.out.cell 78 (by decide)).trans (by rw [HC.out]; rfl))
          | (guard_target = gL 2; refine step_load rfl _ rfl b2 rfl p HR2.out ?_)
          | (go_at_call 99; refine (rfndK HKz.out _ HP.out).mono ?_; rintro e w3 ⟨rfl, hb⟩; have HR2 := H_ (HR2.out.later hb); have HB := H_ (below_on HB.out hb); clear hb)
          | (guard_target = gL2 39 38; refine step_get rfl 26 _ rfl b2 (79 + c * 2 + 1) rfl Tryz.underlying26 rfl (.int .i8 r) ?_ ?_; exact (HR2.out.cell (79 + c * 2 + 1) (by omega)).trans (by rw [kAt_rk HC2.out (by decide), HRr.out]))
          | (guard_target = gL 63; refine step_get rfl 5 _ rfl b2 78 rfl Tryz.underlying5 rfl (.int .u8 (c : Int)) ?_ ?_; exact (HR2.out.cell 78 (by decide)).trans (by rw [HC.out]; rfl))
          | (go_at_call 100; refine (ris_any p rN (c : Int) 4 _ HP.out (by omega)).mono ?_; rintro e w3 ⟨rfl, hb⟩; rw [HIs.out]; have HR2 := H_ (HR2.out.later hb); have HB := H_ (below_on HB.out hb); clear hb)
          | (go_at_call 101; refine (rgK2 (n := 1) (a := 2) (b := 3) rfl rfl _).mono ?_; rintro e w3 ⟨rfl, rfl⟩)
          | (guard_target = gA 13; refine step_alloc (op := ⟨some 13, _, _, _, _, _⟩) rfl rfl ?_; intro b13 wn N R; have HG13 := H_ (nA HB.out N); have HR13 := H_ R; have HY13 := H_ (show b2 ≠ b13 from Nat.ne_of_lt (by have h1 := HR2.out.lt; have := N.at_; omega)); have HR2 := H_ (HR2.out.later N.below); have HB := H_ (below_on HB.out N.below); clear N R)
          | (guard_target = gS 13; refine step_store (op := ⟨none, .store _ (.tmp 13) _, _, _, _, _⟩) rfl _ _ rfl b13 rfl zeroP p rfl HR13.out ?_; intro wn U R; have HR2 := H_ (HR2.out.apart U HY13.out); have HR13 := H_ R; have HB := H_ (HB.out.trans (U.below HG13.out)); clear U R)
          | (guard_target = gS 93; refine step_cell (op := ⟨none, .store _ (.tmp 93) _, _, _, _, _⟩) rfl 5 _ _ rfl b13 (1 + fN) rfl .u8 0 rfl _ HR13.out (by omega) (kAt_board (Nat.zero_le _) (by omega)) size5 ?_; intro wn U R; have HR2 := H_ (HR2.out.apart U HY13.out); have HR13 := H_ R; have HB := H_ (HB.out.trans (U.below HG13.out)); clear U R)
          | (guard_target = gS 96; refine step_cell (op := ⟨none, .store _ (.tmp 96) _, _, _, _, _⟩) rfl 5 _ _ rfl b13 (1 + rN) rfl .u8 0 rfl _ HR13.out (by omega) (kAt_board (Nat.zero_le _) (by omega)) size5 ?_; intro wn U R; rw [HQ0.out] at R; have HR2 := H_ (HR2.out.apart U HY13.out); have HR13 := H_ R; have HB := H_ (HB.out.trans (U.below HG13.out)); clear U R))
         clear HR2
         go_loopw [14] (fun i wr => ∃ (j s : Nat), j ≤ 8 ∧ i = .int .i64 (s : Int) ∧ s = h + j ∧ Hid (∀ i, i < j → okC Q0 (fN : Int) ((h : Int) + 2) (rN : Int) ((h : Int) + 3) (h + i) = true) ∧ Row wr b13 Q0 ∧ Below w.heap.size w wr) (fun i _ => h + 8 - (intOf i).toNat)
         case atStart => exact ⟨0, h, by omega, rfl, by omega, H_ (fun i h9 => by omega), HR13.out, HB.out⟩
         case round =>
          clear HR13 HB
          obtain ⟨j, s, hj, rfl, hsj, Hall, hr13, hb⟩ := hrel
          have HR13 := H_ hr13
          have HB := H_ hb
          clear hr13 hb
          by_cases hl : j < 8
          ·have q6 : decide (s < h + 8) = true := decide_eq_true (by omega)
           have q6' : decide ((s : Int) < (h : Int) + 8) = true := decide_eq_true (by omega)
           have hs64 : s < 64 := by omega
           obtain ⟨w1, HW1⟩ : ∃ w1, Hid (wiB (s : Int) (fN : Int) ((h : Int) + 2) = w1) := ⟨_, H_ rfl⟩
           obtain ⟨w2, HW2⟩ : ∃ w2, Hid (wiB (s : Int) (rN : Int) ((h : Int) + 3) = w2) := ⟨_, H_ rfl⟩
           obtain ⟨bd, hbd⟩ : ∃ bd, bdC Q0 (s : Int) = bd := ⟨_, rfl⟩
           have HBd := H_ (show (!bdC Q0 (s : Int)) = !bd by rw [hbd])
           have HBe := H_ hbd
           have HSJ := H_ hsj
           have HJ8 := H_ hl
           clear hbd hsj
           cases w1
           ·cases w2
            ·have HOj := H_ (show okC Q0 (fN : Int) ((h : Int) + 2) (rN : Int) ((h : Int) + 3) (h + j) = true by rw [← HSJ.out]; unfold okC; rw [HW1.out, HW2.out]; rfl)
             go_wp2_with (first
              | (go_at_call 102; guard_target = Go.Calls _ _ #[_, Go.Value.int _ (fN : Int), _] _ _; refine (cs_within (s : Int) (fN : Int) ((h : Int) + 2) _).mono ?_; rintro e w3 ⟨rfl, rfl⟩; rw [HW1.out])
              | (go_at_call 102; guard_target = Go.Calls _ _ #[_, Go.Value.int _ (rN : Int), _] _ _; refine (cs_within (s : Int) (rN : Int) ((h : Int) + 3) _).mono ?_; rintro e w3 ⟨rfl, rfl⟩; rw [HW2.out]))
             go_roundw
             case rel => exact ⟨j + 1, s + 1, by have := HJ8.out; omega, by go_num, by have := HSJ.out; omega, H_ (fun i h9 => by
              by_cases e : i = j
              ·rw [e]; exact HOj.out
              ·exact Hall.out i (by omega)), HR13.out, HB.out⟩
             case measure => simp [intOf]; have := HSJ.out; have := HJ8.out; omega
            ·cases q7 : (kndZ (Q0 (1 + s)) != 0)
             ·have HOj := H_ (show okC Q0 (fN : Int) ((h : Int) + 2) (rN : Int) ((h : Int) + 3) (h + j) = true by rw [← HSJ.out]; unfold okC; rw [HW1.out, HW2.out, q7]; rfl)
              go_wp2_with (first
               | (go_at_call 102; guard_target = Go.Calls _ _ #[_, Go.Value.int _ (fN : Int), _] _ _; refine (cs_within (s : Int) (fN : Int) ((h : Int) + 2) _).mono ?_; rintro e w3 ⟨rfl, rfl⟩; rw [HW1.out])
               | (go_at_call 102; guard_target = Go.Calls _ _ #[_, Go.Value.int _ (rN : Int), _] _ _; refine (cs_within (s : Int) (rN : Int) ((h : Int) + 3) _).mono ?_; rintro e w3 ⟨rfl, rfl⟩; rw [HW2.out])
               | (guard_target = gL2 123 122; refine step_get rfl 5 _ rfl b13 (1 + s) rfl Tryz.underlying5 rfl (.int .u8 (Q0 (1 + s))) ?_ ?_; exact (HR13.out.cell (1 + s) (by omega)).trans (by rw [kAt_board (Nat.zero_le _) (by omega)]))
               | (go_at_call 28; refine (rkind_any _ _ (HAQ.out s (by omega)).1 (HAQ.out s (by omega)).2).mono ?_; rintro e w3 ⟨rfl, rfl⟩))
              go_roundw
              case rel => exact ⟨j + 1, s + 1, by have := HJ8.out; omega, by go_num, by have := HSJ.out; omega, H_ (fun i h9 => by
               by_cases e : i = j
               ·rw [e]; exact HOj.out
               ·exact Hall.out i (by omega)), HR13.out, HB.out⟩
              case measure => simp [intOf]; have := HSJ.out; have := HJ8.out; omega
             ·have HOj := H_ (show okC Q0 (fN : Int) ((h : Int) + 2) (rN : Int) ((h : Int) + 3) s = false by unfold okC; rw [HW1.out, HW2.out, q7]; rfl)
              have HS := H_ (show mayB' p 1 = false by unfold mayB' inC; rw [HNam.out, HTh.out, HMay.out, Bool.true_and, Bool.true_and, Bool.eq_false_iff]; exact fun e => by have := HOk.out.1 e j HJ8.out; rw [← HSJ.out, HOj.out] at this; cases this)
              go_wp2_with (first
               | (go_at_call 102; guard_target = Go.Calls _ _ #[_, Go.Value.int _ (fN : Int), _] _ _; refine (cs_within (s : Int) (fN : Int) ((h : Int) + 2) _).mono ?_; rintro e w3 ⟨rfl, rfl⟩; rw [HW1.out])
               | (go_at_call 102; guard_target = Go.Calls _ _ #[_, Go.Value.int _ (rN : Int), _] _ _; refine (cs_within (s : Int) (rN : Int) ((h : Int) + 3) _).mono ?_; rintro e w3 ⟨rfl, rfl⟩; rw [HW2.out])
               | (guard_target = gL2 123 122; refine step_get rfl 5 _ rfl b13 (1 + s) rfl Tryz.underlying5 rfl (.int .u8 (Q0 (1 + s))) ?_ ?_; exact (HR13.out.cell (1 + s) (by omega)).trans (by rw [kAt_board (Nat.zero_le _) (by omega)]))
               | (go_at_call 28; refine (rkind_any _ _ (HAQ.out s (by omega)).1 (HAQ.out s (by omega)).2).mono ?_; rintro e w3 ⟨rfl, rfl⟩))
              go_ret3
              exact ⟨by rw [HS.out]; rfl, HB.out⟩
           ·cases q7 : (kndZ (Q0 (1 + s)) != 0)
            ·cases bd
             ·have HOj := H_ (show okC Q0 (fN : Int) ((h : Int) + 2) (rN : Int) ((h : Int) + 3) (h + j) = true by rw [← HSJ.out]; unfold okC; rw [HW1.out, q7, HBe.out]; rfl)
              go_wp2_with (first
               | (go_at_call 102; guard_target = Go.Calls _ _ #[_, Go.Value.int _ (fN : Int), _] _ _; refine (cs_within (s : Int) (fN : Int) ((h : Int) + 2) _).mono ?_; rintro e w3 ⟨rfl, rfl⟩; rw [HW1.out])
               | (guard_target = gL2 123 122; refine step_get rfl 5 _ rfl b13 (1 + s) rfl Tryz.underlying5 rfl (.int .u8 (Q0 (1 + s))) ?_ ?_; exact (HR13.out.cell (1 + s) (by omega)).trans (by rw [kAt_board (Nat.zero_le _) (by omega)]))
               | (go_at_call 28; refine (rkind_any _ _ (HAQ.out s (by omega)).1 (HAQ.out s (by omega)).2).mono ?_; rintro e w3 ⟨rfl, rfl⟩)
               | (guard_target = gL 13; refine step_load rfl _ rfl b13 rfl Q0 HR13.out ?_)
               | (go_at_call 103; refine (cs_rsafe Q0 s (by omega) _ HAQ.out).mono ?_; rintro e w3 ⟨rfl, hb⟩; rw [HBd.out]; have HR13 := H_ (HR13.out.later hb); have HB := H_ (below_on HB.out hb); clear hb))
              go_roundw
              case rel => exact ⟨j + 1, s + 1, by have := HJ8.out; omega, by go_num, by have := HSJ.out; omega, H_ (fun i h9 => by
               by_cases e : i = j
               ·rw [e]; exact HOj.out
               ·exact Hall.out i (by omega)), HR13.out, HB.out⟩
              case measure => simp [intOf]; have := HSJ.out; have := HJ8.out; omega
             ·have HOj := H_ (show okC Q0 (fN : Int) ((h : Int) + 2) (rN : Int) ((h : Int) + 3) s = false by unfold okC; rw [HW1.out, q7, HBe.out]; rfl)
              have HS := H_ (show mayB' p 1 = false by unfold mayB' inC; rw [HNam.out, HTh.out, HMay.out, Bool.true_and, Bool.true_and, Bool.eq_false_iff]; exact fun e => by have := HOk.out.1 e j HJ8.out; rw [← HSJ.out, HOj.out] at this; cases this)
              go_wp2_with (first
               | (go_at_call 102; guard_target = Go.Calls _ _ #[_, Go.Value.int _ (fN : Int), _] _ _; refine (cs_within (s : Int) (fN : Int) ((h : Int) + 2) _).mono ?_; rintro e w3 ⟨rfl, rfl⟩; rw [HW1.out])
               | (guard_target = gL2 123 122; refine step_get rfl 5 _ rfl b13 (1 + s) rfl Tryz.underlying5 rfl (.int .u8 (Q0 (1 + s))) ?_ ?_; exact (HR13.out.cell (1 + s) (by omega)).trans (by rw [kAt_board (Nat.zero_le _) (by omega)]))
               | (go_at_call 28; refine (rkind_any _ _ (HAQ.out s (by omega)).1 (HAQ.out s (by omega)).2).mono ?_; rintro e w3 ⟨rfl, rfl⟩)
               | (guard_target = gL 13; refine step_load rfl _ rfl b13 rfl Q0 HR13.out ?_)
               | (go_at_call 103; refine (cs_rsafe Q0 s (by omega) _ HAQ.out).mono ?_; rintro e w3 ⟨rfl, hb⟩; rw [HBd.out]; have HR13 := H_ (HR13.out.later hb); have HB := H_ (below_on HB.out hb); clear hb))
              go_ret3
              exact ⟨by rw [HS.out]; rfl, HB.out⟩
            ·have HOj := H_ (show okC Q0 (fN : Int) ((h : Int) + 2) (rN : Int) ((h : Int) + 3) s = false by unfold okC; rw [HW1.out, q7]; rfl)
             have HS := H_ (show mayB' p 1 = false by unfold mayB' inC; rw [HNam.out, HTh.out, HMay.out, Bool.true_and, Bool.true_and, Bool.eq_false_iff]; exact fun e => by have := HOk.out.1 e j HJ8.out; rw [← HSJ.out, HOj.out] at this; cases this)
             go_wp2_with (first
              | (go_at_call 102; guard_target = Go.Calls _ _ #[_, Go.Value.int _ (fN : Int), _] _ _; refine (cs_within (s : Int) (fN : Int) ((h : Int) + 2) _).mono ?_; rintro e w3 ⟨rfl, rfl⟩; rw [HW1.out])
              | (guard_target = gL2 123 122; refine step_get rfl 5 _ rfl b13 (1 + s) rfl Tryz.underlying5 rfl (.int .u8 (Q0 (1 + s))) ?_ ?_; exact (HR13.out.cell (1 + s) (by omega)).trans (by rw [kAt_board (Nat.zero_le _) (by omega)]))
              | (go_at_call 28; refine (rkind_any _ _ (HAQ.out s (by omega)).1 (HAQ.out s (by omega)).2).mono ?_; rintro e w3 ⟨rfl, rfl⟩))
             go_ret3
             exact ⟨by rw [HS.out]; rfl, HB.out⟩
          ·obtain rfl : j = 8 := by omega
           have q6 : decide (s < h + 8) = false := decide_eq_false (by omega)
           have q6' : decide ((s : Int) < (h : Int) + 8) = false := decide_eq_false (by omega)
           have HS := H_ (show mayB' p 1 = true by unfold mayB' inC; rw [HNam.out, HTh.out, HMay.out, HOk.out.2 Hall.out]; rfl)
           go_wp2_with fail
           go_ret3
           exact ⟨by rw [HS.out, HMv.out, hrN]; rfl, HB.out⟩
end Go.Proofs.YtidgfadbdgheiaaGreatDoor
/-
 The document's own List of layer 14; lists held against one another.
-/
namespace Go.Proofs.YtidgfadbdgheiaaGreatDoor
open Go.RowKit Go.Shelf
set_option linter.unusedVariables false
set_option linter.unusedSimpArgs false
attribute [local go_sem] Oper.semAt_some

def rOne (p : Nat → Int) (n : Nat) : List Mv := bif mayB' p n then [mvC p n] else []
theorem rone_cam (p : Nat → Int) : rOne p 1 ++ rOne p 0 = camL p := by
 unfold rOne camL oneC mayB'
 cases thC p
 ·rfl
 ·simp only [Bool.true_and, cond_true]
def rPre (p : Nat → Int) (k : Nat) : List Mv := bif k == 0 then [] else bif k == 1 then rOne p 1 else rOne p 1 ++ rOne p 0
theorem rpre_len (p : Nat → Int) {k : Nat} (h : k ≤ 2) : (rPre p k).length ≤ 2 := by
 have ho : ∀ n, (rOne p n).length ≤ 1 := fun n => by unfold rOne; cases mayB' p n <;> simp
 have h1 := ho 1; have h0 := ho 0
 rcases (by omega : k = 0 ∨ k = 1 ∨ k = 2) with rfl | rfl | rfl
 ·exact Nat.zero_le _
 ·show (rOne p 1).length ≤ 2; omega
 ·show (rOne p 1 ++ rOne p 0).length ≤ 2; rw [List.length_append]; omega
def TupL (f t : Int) (b : Bool) (w : World) (e : Ending) (w' : World) : Prop := e = .returned (.tuple #[.int .i64 f, .int .i64 t, .bool b]) ∧ Below w.heap.size w w'
theorem may_fit {p : Nat → Int} (ht : 0 ≤ p 78) {n : Nat} (h : mayB' p n = true) : -128 ≤ (mvC p n).f ∧ (mvC p n).f ≤ 127 ∧ -128 ≤ (mvC p n).t ∧ (mvC p n).t ≤ 127 := by
 unfold mayB' inC thC at h
 simp only [Bool.and_eq_true, decide_eq_true_eq] at h
 have := (fit_mvC (c := (p 78).toNat) (by omega) h.2.1).1
 exact ⟨this.f.1, this.f.2, this.t.1, this.t.2⟩
theorem rmayK0 {p : Nat → Int} {b : Bool} {f t : Int} (hb : mayB' p 0 = b) (hf : (bif b then (mvC p 0).f else 0) = f) (ht : (bif b then (mvC p 0).t else 0) = t) (w : World) (hp : CsR p) : Calls Tryz.prog 53 #[.agg (posA p), .int .i64 0] w (TupL f t b w) := by
 subst hb hf ht; exact cs_rmay0 p w hp
theorem rmayK1 {p : Nat → Int} {b : Bool} {f t : Int} (hb : mayB' p 1 = b) (hf : (bif b then (mvC p 1).f else 0) = f) (ht : (bif b then (mvC p 1).t else 0) = t) (w : World) (hp : CsR p) : Calls Tryz.prog 53 #[.agg (posA p), .int .i64 1] w (TupL f t b w) := by
 subst hb hf ht; exact cs_rmay1 p w hp
theorem rlist_cs (p : Nat → Int) (w : World) (hp : CsR p) : Calls Tryz.prog 21 #[.agg (posA p)] w (CamL p w) := by
 have HP := H_ hp
 clear hp
 have HB := H_ (Below.refl w.heap.size w)
 obtain ⟨i0, hi, hz0, hz1, hz2⟩ : ∃ i, Tryz.prog.info? 40 = some i ∧ i.zero = some (.agg (mvA mv0)) ∧ i.size = 5 ∧ i.bytes = 5 := by
  cases h : Tryz.prog.info? 40 with
  | none => have := infoMv; rw [h] at this; cases this
  | some i => have := infoMv; rw [h] at this; simp at this; exact ⟨i, rfl, this.1, this.2.1, this.2.2⟩
 go_enter Tryz.func21, Tryz.ntmps21
 go_wp2_with (first
   | (guard_target = gB 1; refine step_box rfl _ rfl p rfl ?_; intro b1 w1 N R; have HG1 := H_ (nA HB.out N); have HB := H_ (below_on HB.out N.below); have HR1 := H_ R; clear N R))
 obtain ⟨B1, hB1⟩ : ∃ B1, B1 = w1.heap.size := ⟨_, rfl⟩
 have HLt := H_ (show b1 < B1 by rw [hB1]; exact HR1.out.lt)
 have HLw := H_ (show w.heap.size ≤ B1 by rw [hB1]; exact HB.out.size)
 go_loopw [3, 4] (fun v i wr => ∃ k : Nat, k ≤ 2 ∧ i = .int .i64 (1 - (k : Int)) ∧ MvsO B1 (rPre p k) v wr ∧ Row wr b1 p ∧ Below w.heap.size w wr ∧ B1 ≤ wr.heap.size) (fun _ i _ => (intOf i + 1).toNat)
 case atStart => exact ⟨0, by omega, rfl, World.ownsRow_nil _ _ _ _, HR1.out, HB.out, by rw [hB1]; exact Nat.le_refl _⟩
 case round =>
  clear HR1 HB hB1
  obtain ⟨k, hk, rfl, hv, hr1, hb, hs⟩ := hrel
  have HV := H_ hv
  have HR1 := H_ hr1
  have HB := H_ hb
  have HS := H_ hs
  clear hv hr1 hb hs
  rcases (by omega : k = 0 ∨ k = 1 ∨ k = 2) with rfl | rfl | rfl
  ·obtain ⟨mb, HMb⟩ : ∃ mb, Hid (mayB' p 1 = mb) := ⟨_, H_ rfl⟩
   obtain ⟨f, HMf⟩ : ∃ f, Hid ((bif mb then (mvC p 1).f else 0) = f) := ⟨_, H_ rfl⟩
   obtain ⟨t, HMt⟩ : ∃ t, Hid ((bif mb then (mvC p 1).t else 0) = t) := ⟨_, H_ rfl⟩
   cases mb
   ·have HOn := H_ (show rOne p 1 = [] by unfold rOne; rw [HMb.out]; rfl)
    go_wp2_with (first
     | (guard_target = gL 1; refine step_load rfl _ rfl b1 rfl p HR1.out ?_)
     | (go_at_call 53; refine (rmayK1 HMb.out HMf.out HMt.out _ HP.out).mono ?_; rintro e w3 ⟨rfl, hb⟩; have HR1 := H_ (HR1.out.later hb); have HV := H_ (HV.out.later hb); have HS := H_ (Nat.le_trans HS.out hb.size); have HB := H_ (below_on HB.out hb); clear hb))
    go_roundw
    case rel => exact ⟨1, by decide, rfl, by rw [show rPre p 1 = rPre p 0 ++ rOne p 1 from rfl, HOn.out, List.append_nil]; exact HV.out, HR1.out, HB.out, HS.out⟩
    case measure => simp [intOf]
   ·have hfit := may_fit HP.out.at_.turn.1 HMb.out
    have hfe : (mvC p 1).f = f := HMf.out
    have hte : (mvC p 1).t = t := HMt.out
    rw [hfe, hte] at hfit
    have hw1 : IntKind.i8.wrap f = f := wrap_i8c (by omega)
    have hw2 : IntKind.i8.wrap t = t := wrap_i8c (by omega)
    have HOn := H_ (show rOne p 1 = [⟨f, t, 0, 0, true⟩] by unfold rOne; rw [HMb.out, cond_true, ← hfe, ← hte]; rfl)
    have HLn := H_ (rpre_len p (k := 0) (by decide))
    clear hfe hte hfit
    go_wp2_with (first
     | (guard_target = gL 1; refine step_load rfl _ rfl b1 rfl p HR1.out ?_)
     | (go_at_call 53; refine (rmayK1 HMb.out HMf.out HMt.out _ HP.out).mono ?_; rintro e w3 ⟨rfl, hb⟩; have HR1 := H_ (HR1.out.later hb); have HV := H_ (HV.out.later hb); have HS := H_ (Nat.le_trans HS.out hb.size); have HB := H_ (below_on HB.out hb); clear hb)
     | (guard_target = gD 25; refine step_build (op := ⟨some 25, .build _ _, _, _, _, _⟩) rfl 40 _ rfl (mvA ⟨f, t, 0, 0, true⟩) (by kernel_rfl) ?_; show wpList _ _ _ _ (Act.put _ _ (Value.agg #[.int .i8 f, .int .i8 t, .int .u8 0, .int .u8 0, .bool true])) _)
     | (at_builtin; refine wpList_append_own _ rfl _ _ 33 rfl B1 40 i0 (.agg (mvA mv0)) 5 5 Tryz.underlying33 hi hz0 hz1 hz2 rfl (by decide) _ _ _ rfl (World.ownsRow.alloc HV.out _) ⟨_, 0, none⟩ 1 1 (mvA ⟨f, t, 0, 0, true⟩).toList rfl rfl ?c1 ?c2 ?c3 ?c4 ?c5 ?_))
    case c1 => exact mcells_new _ (mvA ⟨f, t, 0, 0, true⟩) _
    case c2 => simp [mvA, Value.oneCell']
    case c3 => unfold maxLen; have := HLn.out; omega
    case c4 => have := HLn.out; omega
    case c5 => have := HS.out; simp; omega
    intro v' w2 hown' hgrow _
    have HVn := H_ (HV.out.grow hown')
    have hkp := (Kept.of_call (fun k => u3.ownBlock = some k) (box_below _ _)).trans (mkept_grown hgrow)
    have HR1n := H_ (row_keptE HR1.out hkp (fun e => by have h1 := HV.out.from e; have := HLt.out; omega))
    have HBn := H_ (HB.out.trans (hkp.below (fun i hi => by have h1 := HV.out.from hi; have := HLw.out; omega) HB.out.size))
    have HSn := H_ (Nat.le_trans HS.out hkp.size)
    clear hkp hown' hgrow
    go_wp2_with fail
    go_roundw
    case rel => exact ⟨1, by decide, rfl, by rw [show rPre p 1 = rPre p 0 ++ rOne p 1 from rfl, HOn.out]; exact HVn.out, HR1n.out, HBn.out, HSn.out⟩
    case measure => simp [intOf]
  ·obtain ⟨mb, HMb⟩ : ∃ mb, Hid (mayB' p 0 = mb) := ⟨_, H_ rfl⟩
   obtain ⟨f, HMf⟩ : ∃ f, Hid ((bif mb then (mvC p 0).f else 0) = f) := ⟨_, H_ rfl⟩
   obtain ⟨t, HMt⟩ : ∃ t, Hid ((bif mb then (mvC p 0).t else 0) = t) := ⟨_, H_ rfl⟩
   cases mb
   ·have HOn := H_ (show rOne p 0 = [] by unfold rOne; rw [HMb.out]; rfl)
    go_wp2_with (first
     | (guard_target = gL 1; refine step_load rfl _ rfl b1 rfl p HR1.out ?_)
     | (go_at_call 53; refine (rmayK0 HMb.out HMf.out HMt.out _ HP.out).mono ?_; rintro e w3 ⟨rfl, hb⟩; have HR1 := H_ (HR1.out.later hb); have HV := H_ (HV.out.later hb); have HS := H_ (Nat.le_trans HS.out hb.size); have HB := H_ (below_on HB.out hb); clear hb))
    go_roundw
    case rel => exact ⟨2, by decide, rfl, by rw [show rPre p 2 = rPre p 1 ++ rOne p 0 from rfl, HOn.out, List.append_nil]; exact HV.out, HR1.out, HB.out, HS.out⟩
    case measure => simp [intOf]
   ·have hfit := may_fit HP.out.at_.turn.1 HMb.out
    have hfe : (mvC p 0).f = f := HMf.out
    have hte : (mvC p 0).t = t := HMt.out
    rw [hfe, hte] at hfit
    have hw1 : IntKind.i8.wrap f = f := wrap_i8c (by omega)
    have hw2 : IntKind.i8.wrap t = t := wrap_i8c (by omega)
    have HOn := H_ (show rOne p 0 = [⟨f, t, 0, 0, true⟩] by unfold rOne; rw [HMb.out, cond_true, ← hfe, ← hte]; rfl)
    have HLn := H_ (rpre_len p (k := 1) (by decide))
    clear hfe hte hfit
    go_wp2_with (first
     | (guard_target = gL 1; refine step_load rfl _ rfl b1 rfl p HR1.out ?_)
     | (go_at_call 53; refine (rmayK0 HMb.out HMf.out HMt.out _ HP.out).mono ?_; rintro e w3 ⟨rfl, hb⟩; have HR1 := H_ (HR1.out.later hb); have HV := H_ (HV.out.later hb); have HS := H_ (Nat.le_trans HS.out hb.size); have HB := H_ (below_on HB.out hb); clear hb)
     | (guard_target = gD 25; refine step_build (op := ⟨some 25, .build _ _, _, _, _, _⟩) rfl 40 _ rfl (mvA ⟨f, t, 0, 0, true⟩) (by kernel_rfl) ?_; show wpList _ _ _ _ (Act.put _ _ (Value.agg #[.int .i8 f, .int .i8 t, .int .u8 0, .int .u8 0, .bool true])) _)
     | (at_builtin; refine wpList_append_own _ rfl _ _ 33 rfl B1 40 i0 (.agg (mvA mv0)) 5 5 Tryz.underlying33 hi hz0 hz1 hz2 rfl (by decide) _ _ _ rfl (World.ownsRow.alloc HV.out _) ⟨_, 0, none⟩ 1 1 (mvA ⟨f, t, 0, 0, true⟩).toList rfl rfl ?c1 ?c2 ?c3 ?c4 ?c5 ?_))
    case c1 => exact mcells_new _ (mvA ⟨f, t, 0, 0, true⟩) _
    case c2 => simp [mvA, Value.oneCell']
    case c3 => unfold maxLen; have := HLn.out; omega
    case c4 => have := HLn.out; omega
    case c5 => have := HS.out; simp; omega
    intro v' w2 hown' hgrow _
    have HVn := H_ (HV.out.grow hown')
    have hkp := (Kept.of_call (fun k => u3.ownBlock = some k) (box_below _ _)).trans (mkept_grown hgrow)
    have HR1n := H_ (row_keptE HR1.out hkp (fun e => by have h1 := HV.out.from e; have := HLt.out; omega))
    have HBn := H_ (HB.out.trans (hkp.below (fun i hi => by have h1 := HV.out.from hi; have := HLw.out; omega) HB.out.size))
    have HSn := H_ (Nat.le_trans HS.out hkp.size)
    clear hkp hown' hgrow
    go_wp2_with fail
    go_roundw
    case rel => exact ⟨2, by decide, rfl, by rw [show rPre p 2 = rPre p 1 ++ rOne p 0 from rfl, HOn.out]; exact HVn.out, HR1n.out, HBn.out, HSn.out⟩
    case measure => simp [intOf]
  ·go_wp2_with fail
   exact bodyPost_ret (results_tmp rfl _ _ _) rfl ⟨_, rfl, by rw [← rone_cam]; exact World.ownsRow.mono HV.out HLw.out, HB.out⟩
end Go.Proofs.YtidgfadbdgheiaaGreatDoor
