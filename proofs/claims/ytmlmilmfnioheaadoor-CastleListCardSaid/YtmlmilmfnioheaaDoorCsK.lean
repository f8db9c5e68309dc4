/-
  The document's own within and safe of layer 14.
-/
import Derived.Test.YtmlmilmfnioheaaDoorCsJ
import Derived.Test.YtmlmilmfnioheaaDoorAtRefC
namespace Go.Proofs.YtmlmilmfnioheaaDoor
open Go.RowKit Go.Shelf
set_option linter.unusedVariables false
set_option linter.unusedSimpArgs false
attribute [local go_sem] Oper.semAt_some

def wiB (s a b : Int) : Bool := (decide (a ≤ s) && decide (s ≤ b)) || (decide (b ≤ s) && decide (s ≤ a))
theorem wi_sp {s a b : Int} : wiB s a b = true ↔ s ∈ spL a b := by
  unfold wiB
  simp only [Bool.or_eq_true, Bool.and_eq_true, decide_eq_true_eq]
  constructor
  · intro h; exact mem_spL (by omega)
  · intro h; have := spL_mem h; omega
theorem cs_within (s a b : Int) (w : World) : Calls Tryd.prog 40 #[.int .i64 s, .int .i64 a, .int .i64 b] w (fun e w' => e = .returned (.bool (wiB s a b)) ∧ w = w') := by
  unfold wiB
  cases g1 : decide (a ≤ s) <;> cases g2 : decide (s ≤ b) <;> cases g3 : decide (b ≤ s) <;> cases g4 : decide (s ≤ a)
  all_goals
    go_enter Tryd.func40, Tryd.ntmps40
    go_wp2_with fail
    go_ret
    exact ⟨rfl, rfl⟩
theorem king_besC {a b : Nat} (ha : a < 64) (hb : b < 64) : (kingN (b : Int)).testBit a = besB a b := by
  have g := geoB_all a ha b hb
  simp only [geoB, Bool.and_eq_true, beq_iff_eq] at g
  have t := (turned_all (a : Int) (b : Int)).1
  rw [hasN_nat _ _ hb, hasN_nat _ _ ha] at t
  rw [← t]
  have e : kingN (a : Int) = kingT a := kingN_nat ha
  rw [e]; exact g.1.1.1.2
theorem shel_anyC {p : Nat → Int} {s : Nat} (hs : s < 64) (h3 : p 0 = 3) : shelB p (s : Int) (p 78) = true ↔ ∃ a, a < 64 ∧ (kndZ (p (1 + a)) == 6 && p (1 + a) / 8 == oth (p 78)) = true ∧ besB a s = true := by
  unfold shelB
  rw [h3, beq_self_eq_true, Bool.true_and, bne_iff_ne]
  constructor
  · intro h
    obtain ⟨a, ha⟩ := Nat.exists_testBit_of_ne_zero h
    rw [Nat.testBit_and, Bool.and_eq_true] at ha
    have ha64 := bit_lt (kingN_lt _) ha.1
    refine ⟨a, ha64, ?_, ?_⟩
    · rw [is_of, ← ofN_testBit _ _ _ _ ha64]; exact ha.2
    · rw [← king_besC ha64 hs]; exact ha.1
  · rintro ⟨a, ha, h1, h2⟩ e
    have : (kingN (s : Int) &&& ofN p (oth (p 78)) 6).testBit a = true := by
      rw [Nat.testBit_and, king_besC ha hs, h2, ofN_testBit _ _ _ _ ha, ← is_of, h1]; rfl
    rw [e, Nat.zero_testBit] at this; cases this
theorem shel_noC {p : Nat → Int} {s : Nat} (h3 : p 0 ≠ 3) : shelB p (s : Int) (p 78) = false := by
  unfold shelB; rw [beq_eq_false_iff_ne.2 h3]; rfl
set_option maxRecDepth 100000 in
set_option maxHeartbeats 4000000 in
theorem cs_rsafe (p : Nat → Int) (s : Nat) (hs : s < 64) (w : World) (hp : BdR p) : Calls Tryd.prog 42 #[.agg (posA p), .int .i64 (s : Int)] w (BoL (!bdC p (s : Int)) w) := by
  have HP := Lib.hid hp
  have HS64 := Lib.hid hs
  have HO := Lib.hid (show 0 ≤ oth (p 78) by unfold oth; omega)
  have ho : IntKind.u8.wrap (1 - p 78) = oth (p 78) := by rw [IntKind.wrap_u8]; unfold oth; omega
  clear hp
  have HB := Lib.hid (Below.refl w.heap.size w)
  cases g3 : (p 0 == 3)
  · have HS := Lib.hid (show (!bdC p (s : Int)) = (byN p (s : Int) (oth (p 78)) == 0) by unfold bdC anyB; rw [shel_noC (beq_eq_false_iff_ne.1 g3)]; simp [bne])
    go_enter Tryd.func42, Tryd.ntmps42
    go_wp2_with (guard_target = Go.wpList _ _ _ ((⟨some 2, .box _ _, _, _, _, _⟩ : Go.Oper) :: _) _ _; refine step_box rfl _ rfl p rfl ?_; intro b2 w1 N R; have HG2 := Lib.hid (show w.heap.size ≤ b2 by have := HB.out.size; have := N.at_; omega); have HB := Lib.hid (below_on HB.out N.below); have HR2 := Lib.hid R; clear N R)
    go_loopw [5] (fun i wr => i = .int .i64 ((0 : Nat) : Int) ∧ Row wr b2 p ∧ Below w.heap.size w wr) (fun _ _ => 0)
    case atStart => exact ⟨rfl, HR2.out, HB.out⟩
    case round =>
      clear HR2 HB
      obtain ⟨rfl, hr, hb⟩ := hrel
      have HR2 := Lib.hid hr
      have HB := Lib.hid hb
      clear hr hb
      go_wp2_with (first
        | (guard_target = Go.wpList _ _ _ ((⟨some _, .load _ (.tmp 9), _, _, _, _⟩ : Go.Oper) :: _) _ _; refine step_get rfl 5 _ rfl b2 0 rfl Tryd.underlying5 rfl (.int .u8 (p 0)) ?_ ?_; exact HR2.out.cell 0 (by decide))
        | (guard_target = Go.wpList _ _ _ ((⟨some _, .load _ (.tmp 17), _, _, _, _⟩ : Go.Oper) :: _) _ _; refine step_get rfl 5 _ rfl b2 78 rfl Tryd.underlying5 rfl (.int .u8 (p 78)) ?_ ?_; exact HR2.out.cell 78 (by decide))
        | (guard_target = Go.wpList _ _ _ ((⟨some _, .load _ (.tmp 28), _, _, _, _⟩ : Go.Oper) :: _) _ _; refine step_get rfl 5 _ rfl b2 78 rfl Tryd.underlying5 rfl (.int .u8 (p 78)) ?_ ?_; exact HR2.out.cell 78 (by decide))
        | (guard_target = Go.wpList _ _ _ ((⟨some _, .load _ (.tmp 2), _, _, _, _⟩ : Go.Oper) :: _) _ _; refine step_load rfl _ rfl b2 rfl p HR2.out ?_)
        | (go_at_call 60; refine (rby_any p (s : Int) (oth (p 78)) _ HP.out HO.out).mono ?_; rintro e w3 ⟨rfl, hb⟩; have HR2 := Lib.hid (HR2.out.later hb); have HB := Lib.hid (below_on HB.out hb); clear hb))
      go_ret
      refine ⟨?_, HB.out⟩
      show Ending.returned (Value.bool (((byN p (s : Int) (oth (p 78)) : Nat) : Int) == 0)) = _
      rw [HS.out]
      congr 2
      rw [Bool.eq_iff_iff]; simp
  · have h3 := beq_iff_eq.1 g3
    go_enter Tryd.func42, Tryd.ntmps42
    go_wp2_with (guard_target = Go.wpList _ _ _ ((⟨some 2, .box _ _, _, _, _, _⟩ : Go.Oper) :: _) _ _; refine step_box rfl _ rfl p rfl ?_; intro b2 w1 N R; have HG2 := Lib.hid (show w.heap.size ≤ b2 by have := HB.out.size; have := N.at_; omega); have HB := Lib.hid (below_on HB.out N.below); have HR2 := Lib.hid R; clear N R)
    go_loopw [5] (fun i wr => ∃ k : Nat, k ≤ 64 ∧ i = .int .i64 (k : Int) ∧ Hid (∀ a, a < k → ((kndZ (p (1 + a)) == 6 && p (1 + a) / 8 == oth (p 78)) && besB a s) = false) ∧ Row wr b2 p ∧ Below w.heap.size w wr) (fun i _ => 64 - (intOf i).toNat)
    case atStart => exact ⟨0, by omega, rfl, Lib.hid (fun j h => by omega), HR2.out, HB.out⟩
    case round =>
      clear HR2 HB
      obtain ⟨k, hk, rfl, Hi, hr, hb⟩ := hrel
      have HR2 := Lib.hid hr
      have HB := Lib.hid hb
      have H3 := Lib.hid h3
      clear hr hb
      by_cases hlt : k < 64
      · have Hlt := Lib.hid hlt
        have gk : decide ((k : Int) < 64) = true := decide_eq_true (by omega)
        have gk2 : decide (k < 64) = true := decide_eq_true (by omega)
        obtain ⟨r, HIs⟩ : ∃ r, Hid ((kndZ (p (1 + k)) == 6 && p (1 + k) / 8 == oth (p 78)) = r) := ⟨_, Lib.hid rfl⟩
        obtain ⟨q, HBs⟩ : ∃ q, Hid (besB k s = q) := ⟨_, Lib.hid rfl⟩
        clear hlt
        cases r
        · have HN := Lib.hid (show ((kndZ (p (1 + k)) == 6 && p (1 + k) / 8 == oth (p 78)) && besB k s) = false by rw [HIs.out]; rfl)
          go_wp2_with (first
            | (guard_target = Go.wpList _ _ _ ((⟨some _, .load _ (.tmp 9), _, _, _, _⟩ : Go.Oper) :: _) _ _; refine step_get rfl 5 _ rfl b2 0 rfl Tryd.underlying5 rfl (.int .u8 (p 0)) ?_ ?_; exact HR2.out.cell 0 (by decide))
            | (guard_target = Go.wpList _ _ _ ((⟨some _, .load _ (.tmp 17), _, _, _, _⟩ : Go.Oper) :: _) _ _; refine step_get rfl 5 _ rfl b2 78 rfl Tryd.underlying5 rfl (.int .u8 (p 78)) ?_ ?_; exact HR2.out.cell 78 (by decide))
            | (guard_target = Go.wpList _ _ _ ((⟨some _, .load _ (.tmp 28), _, _, _, _⟩ : Go.Oper) :: _) _ _; refine step_get rfl 5 _ rfl b2 78 rfl Tryd.underlying5 rfl (.int .u8 (p 78)) ?_ ?_; exact HR2.out.cell 78 (by decide))
            | (guard_target = Go.wpList _ _ _ ((⟨some _, .load _ (.tmp 2), _, _, _, _⟩ : Go.Oper) :: _) _ _; refine step_load rfl _ rfl b2 rfl p HR2.out ?_)
            | (go_at_call 39; refine (ris_any p k (oth (p 78)) 6 _ HP.out Hlt.out).mono ?_; rintro e w3 ⟨rfl, hb⟩; rw [HIs.out]; have HR2 := Lib.hid (HR2.out.later hb); have HB := Lib.hid (below_on HB.out hb); clear hb))
          go_roundw
          case rel => exact ⟨k + 1, by have := Hlt.out; omega, by go_num, Lib.hid (fun j h => by
            by_cases e : j = k
            · rw [e]; exact HN.out
            · exact Hi.out j (by omega)), HR2.out, HB.out⟩
          case measure => simp [intOf]; have := Hlt.out; omega
        · cases q
          · have HN := Lib.hid (show ((kndZ (p (1 + k)) == 6 && p (1 + k) / 8 == oth (p 78)) && besB k s) = false by rw [HIs.out, HBs.out]; rfl)
            go_wp2_with (first
              | (guard_target = Go.wpList _ _ _ ((⟨some _, .load _ (.tmp 9), _, _, _, _⟩ : Go.Oper) :: _) _ _; refine step_get rfl 5 _ rfl b2 0 rfl Tryd.underlying5 rfl (.int .u8 (p 0)) ?_ ?_; exact HR2.out.cell 0 (by decide))
              | (guard_target = Go.wpList _ _ _ ((⟨some _, .load _ (.tmp 17), _, _, _, _⟩ : Go.Oper) :: _) _ _; refine step_get rfl 5 _ rfl b2 78 rfl Tryd.underlying5 rfl (.int .u8 (p 78)) ?_ ?_; exact HR2.out.cell 78 (by decide))
              | (guard_target = Go.wpList _ _ _ ((⟨some _, .load _ (.tmp 28), _, _, _, _⟩ : Go.Oper) :: _) _ _; refine step_get rfl 5 _ rfl b2 78 rfl Tryd.underlying5 rfl (.int .u8 (p 78)) ?_ ?_; exact HR2.out.cell 78 (by decide))
              | (guard_target = Go.wpList _ _ _ ((⟨some _, .load _ (.tmp 2), _, _, _, _⟩ : Go.Oper) :: _) _ _; refine step_load rfl _ rfl b2 rfl p HR2.out ?_)
              | (go_at_call 39; refine (ris_any p k (oth (p 78)) 6 _ HP.out Hlt.out).mono ?_; rintro e w3 ⟨rfl, hb⟩; rw [HIs.out]; have HR2 := Lib.hid (HR2.out.later hb); have HB := Lib.hid (below_on HB.out hb); clear hb)
              | (go_at_call 59; refine (rbeside_any k s _ Hlt.out HS64.out).mono ?_; rintro e w3 ⟨rfl, rfl⟩; rw [HBs.out]))
            go_roundw
            case rel => exact ⟨k + 1, by have := Hlt.out; omega, by go_num, Lib.hid (fun j h => by
              by_cases e : j = k
              · rw [e]; exact HN.out
              · exact Hi.out j (by omega)), HR2.out, HB.out⟩
            case measure => simp [intOf]; have := Hlt.out; omega
          · have HS := Lib.hid (show (!bdC p (s : Int)) = true by unfold bdC; rw [(shel_anyC HS64.out H3.out).2 ⟨k, Hlt.out, HIs.out, HBs.out⟩]; simp)
            go_wp2_with (first
              | (guard_target = Go.wpList _ _ _ ((⟨some _, .load _ (.tmp 9), _, _, _, _⟩ : Go.Oper) :: _) _ _; refine step_get rfl 5 _ rfl b2 0 rfl Tryd.underlying5 rfl (.int .u8 (p 0)) ?_ ?_; exact HR2.out.cell 0 (by decide))
              | (guard_target = Go.wpList _ _ _ ((⟨some _, .load _ (.tmp 17), _, _, _, _⟩ : Go.Oper) :: _) _ _; refine step_get rfl 5 _ rfl b2 78 rfl Tryd.underlying5 rfl (.int .u8 (p 78)) ?_ ?_; exact HR2.out.cell 78 (by decide))
              | (guard_target = Go.wpList _ _ _ ((⟨some _, .load _ (.tmp 28), _, _, _, _⟩ : Go.Oper) :: _) _ _; refine step_get rfl 5 _ rfl b2 78 rfl Tryd.underlying5 rfl (.int .u8 (p 78)) ?_ ?_; exact HR2.out.cell 78 (by decide))
              | (guard_target = Go.wpList _ _ _ ((⟨some _, .load _ (.tmp 2), _, _, _, _⟩ : Go.Oper) :: _) _ _; refine step_load rfl _ rfl b2 rfl p HR2.out ?_)
              | (go_at_call 39; refine (ris_any p k (oth (p 78)) 6 _ HP.out Hlt.out).mono ?_; rintro e w3 ⟨rfl, hb⟩; rw [HIs.out]; have HR2 := Lib.hid (HR2.out.later hb); have HB := Lib.hid (below_on HB.out hb); clear hb)
              | (go_at_call 59; refine (rbeside_any k s _ Hlt.out HS64.out).mono ?_; rintro e w3 ⟨rfl, rfl⟩; rw [HBs.out]))
            go_ret
            exact ⟨by rw [HS.out]; rfl, HB.out⟩
      · obtain rfl : k = 64 := by omega
        have HS := Lib.hid (show (!bdC p (s : Int)) = (byN p (s : Int) (oth (p 78)) == 0) by
          have hn : shelB p (s : Int) (p 78) = false := by
            rw [Bool.eq_false_iff]
            intro e
            obtain ⟨a, ha, h1, h2⟩ := (shel_anyC HS64.out H3.out).1 e
            have := Hi.out a ha
            rw [h1, h2] at this; cases this
          unfold bdC anyB; rw [hn]; simp [bne])
        go_wp2_with (first
          | (guard_target = Go.wpList _ _ _ ((⟨some _, .load _ (.tmp 9), _, _, _, _⟩ : Go.Oper) :: _) _ _; refine step_get rfl 5 _ rfl b2 0 rfl Tryd.underlying5 rfl (.int .u8 (p 0)) ?_ ?_; exact HR2.out.cell 0 (by decide))
          | (guard_target = Go.wpList _ _ _ ((⟨some _, .load _ (.tmp 17), _, _, _, _⟩ : Go.Oper) :: _) _ _; refine step_get rfl 5 _ rfl b2 78 rfl Tryd.underlying5 rfl (.int .u8 (p 78)) ?_ ?_; exact HR2.out.cell 78 (by decide))
          | (guard_target = Go.wpList _ _ _ ((⟨some _, .load _ (.tmp 28), _, _, _, _⟩ : Go.Oper) :: _) _ _; refine step_get rfl 5 _ rfl b2 78 rfl Tryd.underlying5 rfl (.int .u8 (p 78)) ?_ ?_; exact HR2.out.cell 78 (by decide))
          | (guard_target = Go.wpList _ _ _ ((⟨some _, .load _ (.tmp 2), _, _, _, _⟩ : Go.Oper) :: _) _ _; refine step_load rfl _ rfl b2 rfl p HR2.out ?_)
          | (go_at_call 60; refine (rby_any p (s : Int) (oth (p 78)) _ HP.out HO.out).mono ?_; rintro e w3 ⟨rfl, hb⟩; have HR2 := Lib.hid (HR2.out.later hb); have HB := Lib.hid (below_on HB.out hb); clear hb))
        go_ret
        refine ⟨?_, HB.out⟩
        show Ending.returned (Value.bool (((byN p (s : Int) (oth (p 78)) : Nat) : Int) == 0)) = _
        rw [HS.out]
        congr 2
        rw [Bool.eq_iff_iff]; simp
end Go.Proofs.YtmlmilmfnioheaaDoor
