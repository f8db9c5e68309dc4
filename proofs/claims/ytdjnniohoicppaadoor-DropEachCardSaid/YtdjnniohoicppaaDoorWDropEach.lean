/-
  The walk of DropEach.
-/
import Derived.Test.YtdjnniohoicppaaDoorDrF
import Derived.WalkKit
import Derived.OpenShut
namespace Go.Proofs.YtdjnniohoicppaaDoor.dropEach
open Go.RowKit
set_option linter.unusedVariables false
set_option linter.unusedSimpArgs false
set_option maxRecDepth 100000 in
set_option maxHeartbeats 8000000 in
theorem walk (p : Nat → Int) (w0 : WfP p) (w : World) (hD : TabDb w) (hV : TabVar w) (hKn : TabKn w) : Calls Tryd.prog 6 #[.agg (posA p)] w fun e w' => e = .returned (.bool true) ∧ Below w.heap.size w w' := by
  have hT : DrT w := ⟨hV, hD⟩
  have HT := Lib.hid hT
  have HK := Lib.hid hKn
  have hp0 := DrR.of w0
  obtain ⟨Q1, hQ1⟩ : ∃ Q1, upd p 0 2 = Q1 := ⟨_, rfl⟩
  obtain ⟨q, hq⟩ : ∃ q, upd Q1 78 ((p 78).tmod 2) = q := ⟨_, rfl⟩
  have HQ1 := Lib.hid hQ1
  have HQ := Lib.hid hq
  have HQ78 := Lib.hid (show Q1 78 = p 78 by rw [← hQ1]; exact upd_other _ _ _ _ (by decide))
  have ht := hp0.turn
  have hq78 : q 78 = p 78 % 2 := by rw [← hq, upd_same]; exact Int.tmod_eq_emod_of_nonneg ht.1
  have hq0 : q 0 = 2 := by rw [← hq, upd_other _ _ _ _ (by decide), ← hQ1]; exact upd_same _ _ _
  have hqo : ∀ i, i ≠ 0 → i ≠ 78 → q i = p i := fun i h0 h1 => by rw [← hq, upd_other _ _ _ _ h1, ← hQ1]; exact upd_other _ _ _ _ h0
  have hp : DrR q := ⟨fun i hi => by rw [hqo _ (by omega) (by omega)]; exact hp0.bd i hi, by rw [hq0]; exact ⟨by decide, by decide⟩, by rw [hq78]; omega, fun i h0 h1 => by rw [hqo i (by omega) (by omega)]; exact hp0.pk i h0 h1⟩
  have HP := Lib.hid hp
  obtain ⟨t, htu⟩ : ∃ t : Nat, p 78 % 2 = (t : Int) := Int.eq_ofNat_of_zero_le (by omega)
  have ht1 : t ≤ 1 := by omega
  have HTu := Lib.hid (show q 78 = (t : Int) by rw [hq78, htu])
  obtain ⟨L, hL0⟩ : ∃ L, drL q = L := ⟨_, rfl⟩
  have HL := Lib.hid hL0
  have HLn := Lib.hid (show L.length ≤ 384 by rw [← hL0]; exact drL_len q)
  have HWl := Lib.hid (show wantT q 6 = ((L.length : Nat) : Int) by rw [← wantT_len, ← hL0]; unfold drL; rw [hq0]; rfl)
  clear hD hV hKn w0 hT hp hp0 hq78 hqo hq0 hQ1 hq hL0 ht htu
  have HB := Lib.hid (Below.refl w.heap.size w)
  go_enter Tryd.func6, Tryd.ntmps6
  go_wp2_with (first
    | (guard_target = Go.wpList _ _ _ ((⟨some 1, .box _ _, _, _, _, _⟩ : Go.Oper) :: _) _ _; refine step_box rfl _ rfl p rfl ?_; intro b1 w1 N R; have HG1 := Lib.hid (show w.heap.size ≤ b1 by have := HB.out.size; have := N.at_; omega); have HB := Lib.hid (below_on HB.out N.below); have HR1 := Lib.hid R; clear N R)
    | (guard_target = Go.wpList _ _ _ ((⟨none, .store _ (.tmp 12) _, _, _, _, _⟩ : Go.Oper) :: _) _ _; refine step_cell (op := ⟨none, .store _ (.tmp 12) _, _, _, _, _⟩) rfl 5 _ _ rfl b1 0 rfl .u8 2 rfl p HR1.out (by decide) rfl size5 ?_; intro wn U R; rw [HQ1.out] at R; have HR1 := Lib.hid R; have HB := Lib.hid (HB.out.trans (U.below HG1.out)); clear U R)
    | (guard_target = Go.wpList _ _ _ ((⟨some _, .load _ (.tmp 13), _, _, _, _⟩ : Go.Oper) :: _) _ _; refine step_get rfl 5 _ rfl b1 78 rfl Tryd.underlying5 rfl (.int .u8 (p 78)) ?_ ?_; exact (HR1.out.cell 78 (by decide)).trans (by rw [HQ78.out]; rfl))
    | (guard_target = Go.wpList _ _ _ ((⟨none, .store _ (.tmp 16) _, _, _, _, _⟩ : Go.Oper) :: _) _ _; refine step_cell (op := ⟨none, .store _ (.tmp 16) _, _, _, _, _⟩) rfl 5 _ _ rfl b1 78 rfl .u8 ((p 78).tmod 2) rfl Q1 HR1.out (by decide) rfl size5 ?_; intro wn U R; rw [HQ.out] at R; have HR1 := Lib.hid R; have HB := Lib.hid (HB.out.trans (U.below HG1.out)); clear U R))
  go_loopw [3, 4, 5] (fun e m i wr => ∃ s : Nat, s ≤ 64 ∧ e = .int .i64 (cK q 2 s) ∧ m = .int .i64 (cK q 1 s) ∧ i = .int .i64 (s : Int) ∧ (∀ j, j < s → pcB (q (1 + j)) = false → q (1 + j) = 0) ∧ Row wr b1 q ∧ Below w.heap.size w wr) (fun _ _ i _ => 64 - (intOf i).toNat)
  case atStart => exact ⟨0, by omega, rfl, rfl, rfl, fun j hj => absurd hj (Nat.not_lt_zero j), HR1.out, HB.out⟩
  case round =>
    clear HR1 HB
    obtain ⟨s, hs0, rfl, rfl, rfl, hok, hr1, hb⟩ := hrel
    have HOk := Lib.hid hok
    clear hok
    have HR1 := Lib.hid hr1
    have HB := Lib.hid hb
    clear hr1 hb
    by_cases hs2 : s < 64
    · have HSq := Lib.hid hs2
      have gs : decide (s < 64) = true := decide_eq_true hs2
      have gs2 : decide ((s : Int) < 64) = true := decide_eq_true (by omega)
      have hyr := HP.out.bd s hs2
      have hcer := cK_rng q 2 s
      have hcmr := cK_rng q 1 s
      obtain ⟨y, hy⟩ : ∃ y, q (1 + s) = y := ⟨_, rfl⟩
      have HY := Lib.hid hy
      rw [hy] at hyr
      obtain ⟨ce, hce⟩ : ∃ ce, cK q 2 s = ce := ⟨_, rfl⟩
      obtain ⟨cm, hcm⟩ : ∃ cm, cK q 1 s = cm := ⟨_, rfl⟩
      rw [hce] at hcer
      rw [hcm] at hcmr
      have hcer : 0 ≤ ce ∧ ce < 64 := by omega
      have hcmr : 0 ≤ cm ∧ cm < 64 := by omega
      have hpc0 : pcB (q (1 + s)) = pcB y := by rw [hy]
      rw [hce, hcm]
      clear hy
      by_cases hz : y = 0
      · have hpc : pcB (q (1 + s)) = false := by rw [hpc0, hz]; rfl
        have z1 : (y != 0) = false := by rw [hz]; rfl
        have z2 : (y == 0) = true := by rw [hz]; rfl
        clear hpc0
        have hz := Lib.hid hz
        by_cases h8 : s < 8
        · have n8 : decide (s < 8) = true := decide_eq_true h8
          have n8' : decide (8 ≤ s) = false := decide_eq_false (by omega)
          have n8'' : decide (8 ≤ (s : Int)) = false := decide_eq_false (by omega)
          have n55 : decide (55 < s) = false := decide_eq_false (by omega)
          have HNe := Lib.hid (show cK q 2 (s + 1) = ce + 1 by unfold cK; rw [hce]; unfold skB; rw [hpc]; rfl)
          have HNm := Lib.hid (show cK q 1 (s + 1) = cm by unfold cK; rw [hcm]; unfold skB; rw [hpc, n8, n55]; simp)
          have HOn := Lib.hid (show ∀ j, j < s + 1 → pcB (q (1 + j)) = false → q (1 + j) = 0 by
            intro j hj hp
            by_cases e : j = s
            · subst e; rw [HY.out]; exact hz.out
            · exact HOk.out j (by omega) hp)
          clear hpc hce hcm
          go_wp2_with (first
            | (guard_target = Go.wpList _ _ _ ((⟨some _, .load _ (.tmp 23), _, _, _, _⟩ : Go.Oper) :: _) _ _; refine step_get rfl 5 _ rfl b1 (1 + s) rfl Tryd.underlying5 rfl (.int .u8 y) ?_ ?_; exact (HR1.out.cell (1 + s) (by have := HSq.out; omega)).trans (by rw [kAt_board (Nat.zero_le _) HSq.out, HY.out])))
          go_roundw
          case rel => exact ⟨s + 1, by have := HSq.out; omega, by rw [HNe.out], by rw [HNm.out], by go_num, HOn.out, HR1.out, HB.out⟩
          case measure => simp [intOf]; have := HSq.out; omega
        · have n8 : decide (s < 8) = false := decide_eq_false h8
          have n8' : decide (8 ≤ s) = true := decide_eq_true (by omega)
          have n8'' : decide (8 ≤ (s : Int)) = true := decide_eq_true (by omega)
          by_cases h55 : 55 < s
          · have n55 : decide (55 < s) = true := decide_eq_true h55
            have n55' : decide (s < 56) = false := decide_eq_false (by omega)
            have n55'' : decide ((s : Int) < 56) = false := decide_eq_false (by omega)
            have HNe := Lib.hid (show cK q 2 (s + 1) = ce + 1 by unfold cK; rw [hce]; unfold skB; rw [hpc]; rfl)
            have HNm := Lib.hid (show cK q 1 (s + 1) = cm by unfold cK; rw [hcm]; unfold skB; rw [hpc, n8, n55]; simp)
            have HOn := Lib.hid (show ∀ j, j < s + 1 → pcB (q (1 + j)) = false → q (1 + j) = 0 by
              intro j hj hp
              by_cases e : j = s
              · subst e; rw [HY.out]; exact hz.out
              · exact HOk.out j (by omega) hp)
            clear hpc hce hcm
            go_wp2_with (first
              | (guard_target = Go.wpList _ _ _ ((⟨some _, .load _ (.tmp 23), _, _, _, _⟩ : Go.Oper) :: _) _ _; refine step_get rfl 5 _ rfl b1 (1 + s) rfl Tryd.underlying5 rfl (.int .u8 y) ?_ ?_; exact (HR1.out.cell (1 + s) (by have := HSq.out; omega)).trans (by rw [kAt_board (Nat.zero_le _) HSq.out, HY.out])))
            go_roundw
            case rel => exact ⟨s + 1, by have := HSq.out; omega, by rw [HNe.out], by rw [HNm.out], by go_num, HOn.out, HR1.out, HB.out⟩
            case measure => simp [intOf]; have := HSq.out; omega
          · have n55 : decide (55 < s) = false := decide_eq_false h55
            have n55' : decide (s < 56) = true := decide_eq_true (by omega)
            have n55'' : decide ((s : Int) < 56) = true := decide_eq_true (by omega)
            have HNe := Lib.hid (show cK q 2 (s + 1) = ce + 1 by unfold cK; rw [hce]; unfold skB; rw [hpc]; rfl)
            have HNm := Lib.hid (show cK q 1 (s + 1) = cm + 1 by unfold cK; rw [hcm]; unfold skB; rw [hpc, n8, n55]; rfl)
            have HOn := Lib.hid (show ∀ j, j < s + 1 → pcB (q (1 + j)) = false → q (1 + j) = 0 by
              intro j hj hp
              by_cases e : j = s
              · subst e; rw [HY.out]; exact hz.out
              · exact HOk.out j (by omega) hp)
            clear hpc hce hcm
            go_wp2_with (first
              | (guard_target = Go.wpList _ _ _ ((⟨some _, .load _ (.tmp 23), _, _, _, _⟩ : Go.Oper) :: _) _ _; refine step_get rfl 5 _ rfl b1 (1 + s) rfl Tryd.underlying5 rfl (.int .u8 y) ?_ ?_; exact (HR1.out.cell (1 + s) (by have := HSq.out; omega)).trans (by rw [kAt_board (Nat.zero_le _) HSq.out, HY.out])))
            go_roundw
            case rel => exact ⟨s + 1, by have := HSq.out; omega, by rw [HNe.out], by rw [HNm.out], by go_num, HOn.out, HR1.out, HB.out⟩
            case measure => simp [intOf]; have := HSq.out; omega
      · have z1 : (y != 0) = true := by rw [bne_iff_ne]; exact hz
        have z2 : (y == 0) = false := by rw [beq_eq_false_iff_ne]; exact hz
        by_cases h15 : 15 < y
        · have a15 : decide (15 < y) = true := decide_eq_true h15
          clear hpc0 hce hcm hz
          go_wp2_with (first
            | (guard_target = Go.wpList _ _ _ ((⟨some _, .load _ (.tmp 23), _, _, _, _⟩ : Go.Oper) :: _) _ _; refine step_get rfl 5 _ rfl b1 (1 + s) rfl Tryd.underlying5 rfl (.int .u8 y) ?_ ?_; exact (HR1.out.cell (1 + s) (by have := HSq.out; omega)).trans (by rw [kAt_board (Nat.zero_le _) HSq.out, HY.out]))
            | (go_at_call 12; refine (dr_awake _ (HT.out.on HB.out) (HK.out.on HB.out)).mono ?_; rintro e w6 ⟨rfl, hb⟩; have HB := Lib.hid (below_on HB.out hb); clear hb))
          go_ret
          exact ⟨rfl, HB.out⟩
        · have a15 : decide (15 < y) = false := decide_eq_false h15
          by_cases h1 : y % 8 < 1
          · have a1 : decide (y % 8 < 1) = true := decide_eq_true h1
            clear hpc0 hce hcm hz
            go_wp2_with (first
              | (guard_target = Go.wpList _ _ _ ((⟨some _, .load _ (.tmp 23), _, _, _, _⟩ : Go.Oper) :: _) _ _; refine step_get rfl 5 _ rfl b1 (1 + s) rfl Tryd.underlying5 rfl (.int .u8 y) ?_ ?_; exact (HR1.out.cell (1 + s) (by have := HSq.out; omega)).trans (by rw [kAt_board (Nat.zero_le _) HSq.out, HY.out]))
              | (go_at_call 12; refine (dr_awake _ (HT.out.on HB.out) (HK.out.on HB.out)).mono ?_; rintro e w6 ⟨rfl, hb⟩; have HB := Lib.hid (below_on HB.out hb); clear hb))
            go_ret
            exact ⟨rfl, HB.out⟩
          · have a1 : decide (y % 8 < 1) = false := decide_eq_false h1
            by_cases h6 : 6 < y % 8
            · have a6 : decide (6 < y % 8) = true := decide_eq_true h6
              clear hpc0 hce hcm hz
              go_wp2_with (first
                | (guard_target = Go.wpList _ _ _ ((⟨some _, .load _ (.tmp 23), _, _, _, _⟩ : Go.Oper) :: _) _ _; refine step_get rfl 5 _ rfl b1 (1 + s) rfl Tryd.underlying5 rfl (.int .u8 y) ?_ ?_; exact (HR1.out.cell (1 + s) (by have := HSq.out; omega)).trans (by rw [kAt_board (Nat.zero_le _) HSq.out, HY.out]))
                | (go_at_call 12; refine (dr_awake _ (HT.out.on HB.out) (HK.out.on HB.out)).mono ?_; rintro e w6 ⟨rfl, hb⟩; have HB := Lib.hid (below_on HB.out hb); clear hb))
              go_ret
              exact ⟨rfl, HB.out⟩
            · have a6 : decide (6 < y % 8) = false := decide_eq_false h6
              have hpc : pcB (q (1 + s)) = true := by rw [hpc0]; exact pcB_true.2 (by omega)
              clear hpc0 hz
              have HNe := Lib.hid (show cK q 2 (s + 1) = ce by unfold cK; rw [hce]; unfold skB; rw [hpc]; simp)
              have HNm := Lib.hid (show cK q 1 (s + 1) = cm by unfold cK; rw [hcm]; unfold skB; rw [hpc]; simp)
              have HOn := Lib.hid (show ∀ j, j < s + 1 → pcB (q (1 + j)) = false → q (1 + j) = 0 by
                intro j hj hp
                by_cases e : j = s
                · subst e; rw [hpc] at hp; cases hp
                · exact HOk.out j (by omega) hp)
              clear hpc hce hcm
              go_wp2_with (first
                | (guard_target = Go.wpList _ _ _ ((⟨some _, .load _ (.tmp 23), _, _, _, _⟩ : Go.Oper) :: _) _ _; refine step_get rfl 5 _ rfl b1 (1 + s) rfl Tryd.underlying5 rfl (.int .u8 y) ?_ ?_; exact (HR1.out.cell (1 + s) (by have := HSq.out; omega)).trans (by rw [kAt_board (Nat.zero_le _) HSq.out, HY.out])))
              go_roundw
              case rel => exact ⟨s + 1, by have := HSq.out; omega, by rw [HNe.out], by rw [HNm.out], by go_num, HOn.out, HR1.out, HB.out⟩
              case measure => simp [intOf]; have := HSq.out; omega
    · have e64 : s = 64 := by omega
      have gs : decide (s < 64) = false := decide_eq_false hs2
      have gs2 : decide ((s : Int) < 64) = false := decide_eq_false (by omega)
      have HOk := Lib.hid (show ∀ j, j < 64 → pcB (q (1 + j)) = false → q (1 + j) = 0 by rw [← e64]; exact HOk.out)
      rw [show cK q 2 s = cK q 2 64 by rw [e64], show cK q 1 s = cK q 1 64 by rw [e64]]
      clear e64 hs2 hs0
      obtain ⟨E, hE0⟩ : ∃ E, cK q 2 64 = E := ⟨_, rfl⟩
      obtain ⟨M, hM0⟩ : ∃ M, cK q 1 64 = M := ⟨_, rfl⟩
      have hEr := cK_rng q 2 64
      have hMr := cK_rng q 1 64
      rw [hE0] at hEr
      rw [hM0] at hMr
      have hEr : 0 ≤ E ∧ E ≤ 64 := by omega
      have hMr : 0 ≤ M ∧ M ≤ 64 := by omega
      rw [hE0, hM0]
      have HE0 := Lib.hid hE0
      have HM0 := Lib.hid hM0
      clear hE0 hM0
      go_wp2_with fail
      go_loopw [7, 8] (fun n i wr => ∃ k : Nat, 1 ≤ k ∧ k ≤ 6 ∧ n = .int .i64 (wantT q k) ∧ i = .int .i64 (k : Int) ∧ Row wr b1 q ∧ Below w.heap.size w wr) (fun _ i _ => 6 - (intOf i).toNat)
      case atStart => exact ⟨1, by omega, by omega, by rw [wantT_1], rfl, HR1.out, HB.out⟩
      case round =>
        clear HR1 HB
        obtain ⟨k, hk1, hk, rfl, rfl, hr1, hb⟩ := hrel
        have HR1 := Lib.hid hr1
        have HB := Lib.hid hb
        clear hr1 hb
        by_cases hlt : k < 6
        · have gk : decide (k ≤ 5) = true := decide_eq_true (by omega)
          have gk2 : decide ((k : Int) ≤ 5) = true := decide_eq_true (by omega)
          have HK6 := Lib.hid hlt
          have HK7 := Lib.hid (show 66 + t * 6 + k < 78 by omega)
          have hv : helC q (q 78) (k : Int) = q (66 + t * 6 + k) := by rw [HTu.out, helC_yes (hasP_true.2 (by omega)), pkJ_at]
          have hwr := wantT_rng q k
          have hW : wantT q (k + 1) = wantT q k + (bif q (66 + t * 6 + k) == 0 then 0 else bif k == 1 then cK q 1 64 else cK q 2 64) := by rw [← hv]; rfl
          rw [HE0.out, HM0.out] at hW
          obtain ⟨x, hx⟩ : ∃ x, q (66 + t * 6 + k) = x := ⟨_, rfl⟩
          have HX := Lib.hid hx
          rw [hx] at hW
          obtain ⟨wv, hwv⟩ : ∃ wv, wantT q k = wv := ⟨_, rfl⟩
          rw [hwv] at hwr hW
          have hwr : 0 ≤ wv ∧ wv ≤ 400 := by omega
          rw [hwv]
          clear hx hv hwv
          cases gx : (x == 0)
          · rw [gx] at hW
            cases g1 : (k == 1)
            · have g1' : ((k : Int) == 1) = false := by rw [beq_eq_false_iff_ne] at g1 ⊢; omega
              have HW := Lib.hid (show wantT q (k + 1) = wv + E by rw [hW, g1]; rfl)
              clear hW
              go_wp2_with (first
                | (guard_target = Go.wpList _ _ _ ((⟨some _, .load _ (.tmp 58), _, _, _, _⟩ : Go.Oper) :: _) _ _; refine step_get rfl 5 _ rfl b1 78 rfl Tryd.underlying5 rfl (.int .u8 ((t : Nat) : Int)) ?_ ?_; exact (HR1.out.cell 78 (by decide)).trans (by rw [HTu.out]; rfl))
                | (guard_target = Go.wpList _ _ _ ((⟨some _, .load _ (.tmp 63), _, _, _, _⟩ : Go.Oper) :: _) _ _; refine step_get rfl 5 _ rfl b1 (66 + t * 6 + k) rfl Tryd.underlying5 rfl (.int .u8 x) ?_ ?_; exact (HR1.out.cell (66 + t * 6 + k) (by have := HK7.out; omega)).trans (by rw [kAt_pk (by omega) (by have := HK7.out; omega), HX.out])))
              go_roundw
              case rel => exact ⟨k + 1, by omega, by have := HK6.out; omega, by rw [HW.out]; skip, by go_num, HR1.out, HB.out⟩
              case measure => simp [intOf]; have := HK6.out; omega
            · have g1' : ((k : Int) == 1) = true := by rw [beq_iff_eq] at g1 ⊢; omega
              have HW := Lib.hid (show wantT q (k + 1) = wv + M by rw [hW, g1]; rfl)
              clear hW
              go_wp2_with (first
                | (guard_target = Go.wpList _ _ _ ((⟨some _, .load _ (.tmp 58), _, _, _, _⟩ : Go.Oper) :: _) _ _; refine step_get rfl 5 _ rfl b1 78 rfl Tryd.underlying5 rfl (.int .u8 ((t : Nat) : Int)) ?_ ?_; exact (HR1.out.cell 78 (by decide)).trans (by rw [HTu.out]; rfl))
                | (guard_target = Go.wpList _ _ _ ((⟨some _, .load _ (.tmp 63), _, _, _, _⟩ : Go.Oper) :: _) _ _; refine step_get rfl 5 _ rfl b1 (66 + t * 6 + k) rfl Tryd.underlying5 rfl (.int .u8 x) ?_ ?_; exact (HR1.out.cell (66 + t * 6 + k) (by have := HK7.out; omega)).trans (by rw [kAt_pk (by omega) (by have := HK7.out; omega), HX.out])))
              go_roundw
              case rel => exact ⟨k + 1, by omega, by have := HK6.out; omega, by rw [HW.out]; skip, by go_num, HR1.out, HB.out⟩
              case measure => simp [intOf]; have := HK6.out; omega
          · have HW := Lib.hid (show wantT q (k + 1) = wv by rw [hW, gx]; exact Int.add_zero _)
            clear hW
            go_wp2_with (first
              | (guard_target = Go.wpList _ _ _ ((⟨some _, .load _ (.tmp 58), _, _, _, _⟩ : Go.Oper) :: _) _ _; refine step_get rfl 5 _ rfl b1 78 rfl Tryd.underlying5 rfl (.int .u8 ((t : Nat) : Int)) ?_ ?_; exact (HR1.out.cell 78 (by decide)).trans (by rw [HTu.out]; rfl))
              | (guard_target = Go.wpList _ _ _ ((⟨some _, .load _ (.tmp 63), _, _, _, _⟩ : Go.Oper) :: _) _ _; refine step_get rfl 5 _ rfl b1 (66 + t * 6 + k) rfl Tryd.underlying5 rfl (.int .u8 x) ?_ ?_; exact (HR1.out.cell (66 + t * 6 + k) (by have := HK7.out; omega)).trans (by rw [kAt_pk (by omega) (by have := HK7.out; omega), HX.out])))
            go_roundw
            case rel => exact ⟨k + 1, by omega, by have := HK6.out; omega, by rw [HW.out]; skip, by go_num, HR1.out, HB.out⟩
            case measure => simp [intOf]; have := HK6.out; omega
        · have e6 : k = 6 := by omega
          have gk : decide (k ≤ 5) = false := decide_eq_false (by omega)
          have gk2 : decide ((k : Int) ≤ 5) = false := decide_eq_false (by omega)
          rw [show wantT q k = ((L.length : Nat) : Int) by rw [e6]; exact HWl.out]
          clear e6 hlt hk hk1
          go_wp2_with (first
            | (guard_target = Go.wpList _ _ _ ((⟨some _, .load _ (.tmp 1), _, _, _, _⟩ : Go.Oper) :: _) _ _; refine step_load rfl _ rfl b1 rfl q HR1.out ?_)
            | (go_at_call 10; refine (list_dr q _ HP.out (HT.out.on HB.out)).mono ?_; rintro e w5 ⟨v, rfl, hv, hb⟩; rw [HL.out] at hv; obtain ⟨a9, c9, rfl, hE⟩ := mvs_of hv; have HE := Lib.hid hE; have HR1 := Lib.hid (HR1.out.later hb); have HB := Lib.hid (below_on HB.out hb); clear hE hv hb))
          go_loopw [10] (fun j wr => ∃ i : Nat, i ≤ L.length ∧ j = .int .i64 (i : Int) ∧ Mvs L a9 wr ∧ Row wr b1 q ∧ Below w.heap.size w wr) (fun j _ => L.length - (intOf j).toNat)
          case atStart => exact ⟨0, by omega, rfl, HE.out, HR1.out, HB.out⟩
          case round =>
            clear HE HR1 HB
            obtain ⟨i, hi, rfl, he, hr1, hb⟩ := hrel
            have HE := Lib.hid he
            have HR1 := Lib.hid hr1
            have HB := Lib.hid hb
            clear he hr1 hb
            by_cases hlt : i < L.length
            · obtain ⟨m, hm⟩ : ∃ m, L[i]? = some m := ⟨_, List.getElem?_eq_getElem hlt⟩
              obtain ⟨k, s, hk1, hk6, hs, rfl, hh, hz⟩ := drL_at (p := q) (i := i) (by rw [HL.out]; exact hm)
              obtain ⟨g9, rfl, _⟩ := HE.out.at hm
              have HX := Lib.hid hm
              have HIl := Lib.hid hlt
              have HSq := Lib.hid hs
              have HI := Lib.hid (show 66 + t * 6 + k < 78 by omega)
              have HZ := Lib.hid (show q (1 + s) = 0 from HOk.out s hs hz)
              have hv : helC q (q 78) (k : Int) = q (66 + t * 6 + k) := by rw [HTu.out, helC_yes (hasP_true.2 (by omega)), pkJ_at]
              obtain ⟨x, hx⟩ : ∃ x, q (66 + t * 6 + k) = x := ⟨_, rfl⟩
              have HXp := Lib.hid hx
              have hxn : x ≠ 0 := by rw [← hx, ← hv]; exact hh
              have HXz := Lib.hid hxn
              have HXn := Lib.hid (show (x == 0) = false by rw [beq_eq_false_iff_ne]; exact hxn)
              have hw1 : (i : Int) < 384 := by have := HLn.out; omega
              have q1 : decide ((k : Int) < 1) = false := decide_eq_false (by omega)
              have q2 : decide (k < 1) = false := decide_eq_false (by omega)
              have q3 : decide (5 < (k : Int)) = false := decide_eq_false (by omega)
              have q4 : decide (5 < k) = false := decide_eq_false (by omega)
              clear hv hx hxn hh hz
              go_wp2_with (first
                | (guard_target = Go.wpList _ _ _ ((⟨some 11, .alloc _, _, _, _, _⟩ : Go.Oper) :: _) _ _; refine blk_alloc (op := ⟨some 11, .alloc _, _, _, _, _⟩) rfl 45 rfl (mvA mv0) zeroMv ?_; intro b11 wn N R; have HG11 := Lib.hid (show w.heap.size ≤ b11 by have := HB.out.size; have := N.at_; omega); have HD1 := Lib.hid (show b1 ≠ b11 by have := HR1.out.lt; have := N.at_; omega); have HDg := Lib.hid (show g9 ≠ b11 by have := HE.out.lt HX.out; have := N.at_; omega); have HR1 := Lib.hid (HR1.out.later N.below); have HE := Lib.hid (HE.out.later N.below); have HM := Lib.hid R; have HB := Lib.hid (below_on HB.out N.below); clear N R)
                | (guard_target = Go.wpList _ _ _ ((⟨none, .store _ (.tmp 11) _, _, _, _, _⟩ : Go.Oper) :: _) _ _; refine blk_store (op := ⟨none, .store _ (.tmp 11) _, _, _, _, _⟩) rfl 45 _ _ rfl b11 rfl (mvA mv0) (mvA (dmv k s)) rfl HM.out rfl (mv_one _) sizeMv ?_; intro wn U R; have HR1 := Lib.hid (HR1.out.apart U HD1.out); have HE := Lib.hid (HE.out.upd U HDg.out); have HM := Lib.hid R; have HB := Lib.hid (HB.out.trans (U.below HG11.out)); clear U R)
                | (guard_target = Go.wpList _ _ _ ((⟨some 85, .load _ (.tmp 84), _, _, _, _⟩ : Go.Oper) :: _) _ _; refine step_mvI (op := ⟨some 85, .load _ (.tmp 84), _, _, _, _⟩) rfl _ rfl g9 i (i * 5) rfl (by omega) (dmv k s) (HE.out.get HX.out) ?_))
              refine late_begin 43 (by kernel_rfl) ?_
              refine ltk 0 (by kernel_rfl) (fun _ _ d _ _ h => by cases d <;> exact h) (fun o ho => ?_)
              simp only [qa, qb, qc, qd] at ho; subst ho
              apply Exists.intro
              refine ⟨Or.inl ⟨by kernel_rfl, fun w' hl => Or.inl ?_⟩, ?_⟩
              · (go_simp; try with_reducible rfl)
              simp only [Act.put, pa, pb, pc]
              refine ltk 1 (by kernel_rfl) (fun _ _ d _ _ h => by cases d <;> exact h) (fun o ho => ?_)
              simp only [qa, qb, qc, qd] at ho; subst ho
              refine ⟨.int .i8 (s : Int), Or.inl ⟨by kernel_rfl, fun w' hl => Or.inl (run_get 26 _ rfl b11 0 rfl Tryd.underlying26 rfl (.int .i8 (s : Int)) (((HM.out.later hl).cell 0).trans rfl))⟩, ?_⟩
              simp only [Act.put, pa, pb, pc]
              refine ltk 2 (by kernel_rfl) (fun _ _ d _ _ h => by cases d <;> exact h) (fun o ho => ?_)
              simp only [qa, qb, qc, qd] at ho; subst ho
              apply Exists.intro
              refine ⟨Or.inl ⟨by kernel_rfl, fun w' hl => Or.inl ?_⟩, ?_⟩
              · (go_simp; try with_reducible rfl)
              simp only [Act.put, pa, pb, pc]
              refine ltk 3 (by kernel_rfl) (fun _ _ d _ _ h => by cases d <;> exact h) (fun o ho => ?_)
              simp only [qa, qb, qc, qd] at ho; subst ho
              refine ⟨.int .i8 (s : Int), Or.inl ⟨by kernel_rfl, fun w' hl => Or.inl (run_get 26 _ rfl b11 1 rfl Tryd.underlying26 rfl (.int .i8 (s : Int)) (((HM.out.later hl).cell 1).trans rfl))⟩, ?_⟩
              simp only [Act.put, pa, pb, pc]
              refine ltk 4 (by kernel_rfl) (fun _ _ d _ _ h => by cases d <;> exact h) (fun o ho => ?_)
              simp only [qa, qb, qc, qd] at ho; subst ho
              refine ⟨.bool false, Or.inl ⟨by kernel_rfl, fun w' hl => Or.inl ?_⟩, ?_⟩
              · go_simp; try simp
              simp only [Act.put, pa, pb, pc]
              refine ltk 5 (by kernel_rfl) (fun _ _ d _ _ h => by cases d <;> exact h) (fun o ho => ?_)
              simp only [qa, qb, qc, qd] at ho; subst ho
              apply Exists.intro
              refine ⟨Or.inl ⟨by kernel_rfl, fun w' hl => Or.inl ?_⟩, ?_⟩
              · (go_simp; try with_reducible rfl)
              simp only [Act.put, pa, pb, pc]
              refine ltk 6 (by kernel_rfl) (fun _ _ d _ _ h => by cases d <;> exact h) (fun o ho => ?_)
              simp only [qa, qb, qc, qd] at ho; subst ho
              apply Exists.intro
              refine ⟨Or.inl ⟨by kernel_rfl, fun w' hl => Or.inl ?_⟩, ?_⟩
              · (go_simp; try with_reducible rfl)
              simp only [Act.put, pa, pb, pc]
              refine ltk 7 (by kernel_rfl) (fun _ _ d _ _ h => by cases d <;> exact h) (fun o ho => ?_)
              simp only [qa, qb, qc, qd] at ho; subst ho
              refine ⟨.int .u8 (k : Int), Or.inl ⟨by kernel_rfl, fun w' hl => Or.inl (run_get 5 _ rfl b11 3 rfl Tryd.underlying5 rfl (.int .u8 (k : Int)) (((HM.out.later hl).cell 3).trans rfl))⟩, ?_⟩
              simp only [Act.put, pa, pb, pc]
              refine ltk 8 (by kernel_rfl) (fun _ _ d _ _ h => by cases d <;> exact h) (fun o ho => ?_)
              simp only [qa, qb, qc, qd] at ho; subst ho
              refine ⟨.bool false, Or.inl ⟨by kernel_rfl, fun w' hl => Or.inl ?_⟩, ?_⟩
              · go_simp; try simp; try omega
              simp only [Act.put, pa, pb, pc]
              refine ltk 9 (by kernel_rfl) (fun _ _ d _ _ h => by cases d <;> exact h) (fun o ho => ?_)
              simp only [qa, qb, qc, qd] at ho; subst ho
              apply Exists.intro
              refine ⟨Or.inl ⟨by kernel_rfl, fun w' hl => Or.inl ?_⟩, ?_⟩
              · (go_simp; try with_reducible rfl)
              simp only [Act.put, pa, pb, pc]
              refine ltk 10 (by kernel_rfl) (fun _ _ d _ _ h => by cases d <;> exact h) (fun o ho => ?_)
              simp only [qa, qb, qc, qd] at ho; subst ho
              apply Exists.intro
              refine ⟨Or.inl ⟨by kernel_rfl, fun w' hl => Or.inl ?_⟩, ?_⟩
              · (go_simp; try with_reducible rfl)
              simp only [Act.put, pa, pb, pc]
              refine ltk 11 (by kernel_rfl) (fun _ _ d _ _ h => by cases d <;> exact h) (fun o ho => ?_)
              simp only [qa, qb, qc, qd] at ho; subst ho
              apply Exists.intro
              refine ⟨Or.inl ⟨by kernel_rfl, fun w' hl => Or.inl ?_⟩, ?_⟩
              · (go_simp; try with_reducible rfl)
              simp only [Act.put, pa, pb, pc]
              refine ltk 12 (by kernel_rfl) (fun _ _ d _ _ h => by cases d <;> exact h) (fun o ho => ?_)
              simp only [qa, qb, qc, qd] at ho; subst ho
              refine ⟨.int .u8 (k : Int), Or.inl ⟨by kernel_rfl, fun w' hl => Or.inl (run_get 5 _ rfl b11 3 rfl Tryd.underlying5 rfl (.int .u8 (k : Int)) (((HM.out.later hl).cell 3).trans rfl))⟩, ?_⟩
              simp only [Act.put, pa, pb, pc]
              refine ltk 13 (by kernel_rfl) (fun _ _ d _ _ h => by cases d <;> exact h) (fun o ho => ?_)
              simp only [qa, qb, qc, qd] at ho; subst ho
              refine ⟨.bool false, Or.inl ⟨by kernel_rfl, fun w' hl => Or.inl ?_⟩, ?_⟩
              · go_simp; try simp; try omega
              simp only [Act.put, pa, pb, pc]
              refine ltk 14 (by kernel_rfl) (fun _ _ d _ _ h => by cases d <;> exact h) (fun o ho => ?_)
              simp only [qa, qb, qc, qd] at ho; subst ho
              apply Exists.intro
              refine ⟨Or.inl ⟨by kernel_rfl, fun w' hl => Or.inl ?_⟩, ?_⟩
              · (go_simp; try with_reducible rfl)
              simp only [Act.put, pa, pb, pc]
              refine ltk 15 (by kernel_rfl) (fun _ _ d _ _ h => by cases d <;> exact h) (fun o ho => ?_)
              simp only [qa, qb, qc, qd] at ho; subst ho
              apply Exists.intro
              refine ⟨Or.inl ⟨by kernel_rfl, fun w' hl => Or.inl ?_⟩, ?_⟩
              · (go_simp; try with_reducible rfl)
              simp only [Act.put, pa, pb, pc]
              refine ltk 16 (by kernel_rfl) (fun _ _ d _ _ h => by cases d <;> exact h) (fun o ho => ?_)
              simp only [qa, qb, qc, qd] at ho; subst ho
              apply Exists.intro
              refine ⟨Or.inl ⟨by kernel_rfl, fun w' hl => Or.inl ?_⟩, ?_⟩
              · (go_simp; try with_reducible rfl)
              simp only [Act.put, pa, pb, pc]
              refine ltk 17 (by kernel_rfl) (fun _ _ d _ _ h => by cases d <;> exact h) (fun o ho => ?_)
              simp only [qa, qb, qc, qd] at ho; subst ho
              refine ⟨.int .u8 ((t : Nat) : Int), Or.inl ⟨by kernel_rfl, fun w' hl => Or.inl (run_get 5 _ rfl b1 78 rfl Tryd.underlying5 rfl (.int .u8 ((t : Nat) : Int)) (((HR1.out.later hl).cell 78 (by decide)).trans (by rw [HTu.out]; rfl)))⟩, ?_⟩
              simp only [Act.put, pa, pb, pc]
              refine ltk 18 (by kernel_rfl) (fun _ _ d _ _ h => by cases d <;> exact h) (fun o ho => ?_)
              simp only [qa, qb, qc, qd] at ho; subst ho
              apply Exists.intro
              refine ⟨Or.inl ⟨by kernel_rfl, fun w' hl => Or.inl ?_⟩, ?_⟩
              · (go_simp; try with_reducible rfl)
              simp only [Act.put, pa, pb, pc]
              refine ltk 19 (by kernel_rfl) (fun _ _ d _ _ h => by cases d <;> exact h) (fun o ho => ?_)
              simp only [qa, qb, qc, qd] at ho; subst ho
              refine ⟨.int .u8 (k : Int), Or.inl ⟨by kernel_rfl, fun w' hl => Or.inl (run_get 5 _ rfl b11 3 rfl Tryd.underlying5 rfl (.int .u8 (k : Int)) (((HM.out.later hl).cell 3).trans rfl))⟩, ?_⟩
              simp only [Act.put, pa, pb, pc]
              refine ltk 20 (by kernel_rfl) (fun _ _ d _ _ h => by cases d <;> exact h) (fun o ho => ?_)
              simp only [qa, qb, qc, qd] at ho; subst ho
              apply Exists.intro
              refine ⟨Or.inl ⟨by kernel_rfl, fun w' hl => Or.inl ?_⟩, ?_⟩
              · (go_simp; try with_reducible rfl)
              simp only [Act.put, pa, pb, pc]
              refine ltk 21 (by kernel_rfl) (fun _ _ d _ _ h => by cases d <;> exact h) (fun o ho => ?_)
              simp only [qa, qb, qc, qd] at ho; subst ho
              refine ⟨.pointer (some ⟨b1, 66 + t * 6, none⟩), Or.inl ⟨by kernel_rfl, fun w' hl => Or.inl ?_⟩, ?_⟩
              · (go_simp; first | done | (with_reducible rfl) | (intro hbad; exfalso; omega))
              simp only [Act.put, pa, pb, pc]
              refine ltk 22 (by kernel_rfl) (fun _ _ d _ _ h => by cases d <;> exact h) (fun o ho => ?_)
              simp only [qa, qb, qc, qd] at ho; subst ho
              refine ⟨.pointer (some ⟨b1, 66 + t * 6 + k, none⟩), Or.inl ⟨by kernel_rfl, fun w' hl => Or.inl ?_⟩, ?_⟩
              · (go_simp; first | done | (with_reducible rfl) | (intro hbad; exfalso; omega))
              simp only [Act.put, pa, pb, pc]
              refine ltk 23 (by kernel_rfl) (fun _ _ d _ _ h => by cases d <;> exact h) (fun o ho => ?_)
              simp only [qa, qb, qc, qd] at ho; subst ho
              refine ⟨.int .u8 x, Or.inl ⟨by kernel_rfl, fun w' hl => Or.inl (run_get 5 _ rfl b1 (66 + t * 6 + k) rfl Tryd.underlying5 rfl (.int .u8 x) (((HR1.out.later hl).cell (66 + t * 6 + k) (by have := HI.out; have := HSq.out; omega)).trans (by rw [kAt_pk (by omega) HI.out, HXp.out])))⟩, ?_⟩
              simp only [Act.put, pa, pb, pc]
              refine ltk 24 (by kernel_rfl) (fun _ _ d _ _ h => by cases d <;> exact h) (fun o ho => ?_)
              simp only [qa, qb, qc, qd] at ho; subst ho
              refine ⟨.bool false, Or.inl ⟨by kernel_rfl, fun w' hl => Or.inl ?_⟩, ?_⟩
              · go_simp; first | exact HXn.out | exact HXz.out
              simp only [Act.put, pa, pb, pc]
              refine ltk 25 (by kernel_rfl) (fun _ _ d _ _ h => by cases d <;> exact h) (fun o ho => ?_)
              simp only [qa, qb, qc, qd] at ho; subst ho
              apply Exists.intro
              refine ⟨Or.inl ⟨by kernel_rfl, fun w' hl => Or.inl ?_⟩, ?_⟩
              · (go_simp; try with_reducible rfl)
              simp only [Act.put, pa, pb, pc]
              refine ltk 26 (by kernel_rfl) (fun _ _ d _ _ h => by cases d <;> exact h) (fun o ho => ?_)
              simp only [qa, qb, qc, qd] at ho; subst ho
              apply Exists.intro
              refine ⟨Or.inl ⟨by kernel_rfl, fun w' hl => Or.inl ?_⟩, ?_⟩
              · (go_simp; try with_reducible rfl)
              simp only [Act.put, pa, pb, pc]
              refine ltk 27 (by kernel_rfl) (fun _ _ d _ _ h => by cases d <;> exact h) (fun o ho => ?_)
              simp only [qa, qb, qc, qd] at ho; subst ho
              apply Exists.intro
              refine ⟨Or.inl ⟨by kernel_rfl, fun w' hl => Or.inl ?_⟩, ?_⟩
              · (go_simp; try with_reducible rfl)
              simp only [Act.put, pa, pb, pc]
              refine ltk 28 (by kernel_rfl) (fun _ _ d _ _ h => by cases d <;> exact h) (fun o ho => ?_)
              simp only [qa, qb, qc, qd] at ho; subst ho
              refine ⟨.int .i8 (s : Int), Or.inl ⟨by kernel_rfl, fun w' hl => Or.inl (run_get 26 _ rfl b11 1 rfl Tryd.underlying26 rfl (.int .i8 (s : Int)) (((HM.out.later hl).cell 1).trans rfl))⟩, ?_⟩
              simp only [Act.put, pa, pb, pc]
              refine ltk 29 (by kernel_rfl) (fun _ _ d _ _ h => by cases d <;> exact h) (fun o ho => ?_)
              simp only [qa, qb, qc, qd] at ho; subst ho
              apply Exists.intro
              refine ⟨Or.inl ⟨by kernel_rfl, fun w' hl => Or.inl ?_⟩, ?_⟩
              · (go_simp; try with_reducible rfl)
              simp only [Act.put, pa, pb, pc]
              refine ltk 30 (by kernel_rfl) (fun _ _ d _ _ h => by cases d <;> exact h) (fun o ho => ?_)
              simp only [qa, qb, qc, qd] at ho; subst ho
              refine ⟨.pointer (some ⟨b1, 1 + s, none⟩), Or.inl ⟨by kernel_rfl, fun w' hl => Or.inl ?_⟩, ?_⟩
              · (go_simp; first | done | (with_reducible rfl) | (intro hbad; exfalso; omega))
              simp only [Act.put, pa, pb, pc]
              refine ltk 31 (by kernel_rfl) (fun _ _ d _ _ h => by cases d <;> exact h) (fun o ho => ?_)
              simp only [qa, qb, qc, qd] at ho; subst ho
              refine ⟨.int .u8 0, Or.inl ⟨by kernel_rfl, fun w' hl => Or.inl (run_get 5 _ rfl b1 (1 + s) rfl Tryd.underlying5 rfl (.int .u8 0) (((HR1.out.later hl).cell (1 + s) (by have := HI.out; have := HSq.out; omega)).trans (by rw [kAt_board (Nat.zero_le _) HSq.out, HZ.out])))⟩, ?_⟩
              simp only [Act.put, pa, pb, pc]
              refine ltk 32 (by kernel_rfl) (fun _ _ d _ _ h => by cases d <;> exact h) (fun o ho => ?_)
              simp only [qa, qb, qc, qd] at ho; subst ho
              refine ⟨.bool false, Or.inl ⟨by kernel_rfl, fun w' hl => Or.inl ?_⟩, ?_⟩
              · go_simp; try simp
              simp only [Act.put, pa, pb, pc]
              refine ltk 33 (by kernel_rfl) (fun _ _ d _ _ h => by cases d <;> exact h) (fun o ho => ?_)
              simp only [qa, qb, qc, qd] at ho; subst ho
              apply Exists.intro
              refine ⟨Or.inl ⟨by kernel_rfl, fun w' hl => Or.inl ?_⟩, ?_⟩
              · (go_simp; try with_reducible rfl)
              simp only [Act.put, pa, pb, pc]
              refine ltk 34 (by kernel_rfl) (fun _ _ d _ _ h => by cases d <;> exact h) (fun o ho => ?_)
              simp only [qa, qb, qc, qd] at ho; subst ho
              apply Exists.intro
              refine ⟨Or.inl ⟨by kernel_rfl, fun w' hl => Or.inl ?_⟩, ?_⟩
              · (go_simp; try with_reducible rfl)
              simp only [Act.put, pa, pb, pc]
              refine ltk 35 (by kernel_rfl) (fun _ _ d _ _ h => by cases d <;> exact h) (fun o ho => ?_)
              simp only [qa, qb, qc, qd] at ho; subst ho
              apply Exists.intro
              refine ⟨Or.inl ⟨by kernel_rfl, fun w' hl => Or.inl ?_⟩, ?_⟩
              · (go_simp; try with_reducible rfl)
              simp only [Act.put, pa, pb, pc]
              refine ltk 36 (by kernel_rfl) (fun _ _ d _ _ h => by cases d <;> exact h) (fun o ho => ?_)
              simp only [qa, qb, qc, qd] at ho; subst ho
              refine ⟨.bool false, Or.inl ⟨by kernel_rfl, fun w' hl => Or.inl (run_get 4 _ rfl b11 4 rfl Tryd.underlying4 rfl (.bool false) (((HM.out.later hl).cell 4).trans rfl))⟩, ?_⟩
              simp only [Act.put, pa, pb, pc]
              refine ltk 37 (by kernel_rfl) (fun _ _ d _ _ h => by cases d <;> exact h) (fun o ho => ?_)
              simp only [qa, qb, qc, qd] at ho; subst ho
              apply Exists.intro
              refine ⟨Or.inl ⟨by kernel_rfl, fun w' hl => Or.inl ?_⟩, ?_⟩
              · (go_simp; try with_reducible rfl)
              simp only [Act.put, pa, pb, pc]
              refine ltk 38 (by kernel_rfl) (fun _ _ d _ _ h => by cases d <;> exact h) (fun o ho => ?_)
              simp only [qa, qb, qc, qd] at ho; subst ho
              apply Exists.intro
              refine ⟨Or.inl ⟨by kernel_rfl, fun w' hl => Or.inl ?_⟩, ?_⟩
              · (go_simp; try with_reducible rfl)
              simp only [Act.put, pa, pb, pc]
              refine ltk 39 (by kernel_rfl) (fun _ _ d _ _ h => by cases d <;> exact h) (fun o ho => ?_)
              simp only [qa, qb, qc, qd] at ho; subst ho
              apply Exists.intro
              refine ⟨Or.inl ⟨by kernel_rfl, fun w' hl => Or.inl ?_⟩, ?_⟩
              · (go_simp; try with_reducible rfl)
              simp only [Act.put, pa, pb, pc]
              refine ltk 40 (by kernel_rfl) (fun _ _ d _ _ h => by cases d <;> exact h) (fun o ho => ?_)
              simp only [qa, qb, qc, qd] at ho; subst ho
              refine ⟨.int .u8 0, Or.inl ⟨by kernel_rfl, fun w' hl => Or.inl (run_get 5 _ rfl b11 2 rfl Tryd.underlying5 rfl (.int .u8 0) (((HM.out.later hl).cell 2).trans rfl))⟩, ?_⟩
              simp only [Act.put, pa, pb, pc]
              refine ltk 41 (by kernel_rfl) (fun _ _ d _ _ h => by cases d <;> exact h) (fun o ho => ?_)
              simp only [qa, qb, qc, qd] at ho; subst ho
              refine ⟨.bool false, Or.inl ⟨by kernel_rfl, fun w' hl => Or.inl ?_⟩, ?_⟩
              · go_simp; try simp
              simp only [Act.put, pa, pb, pc]
              refine ltk 42 (by kernel_rfl) (fun _ _ d _ _ h => by cases d <;> exact h) (fun o ho => ?_)
              simp only [qa, qb, qc, qd] at ho; subst ho
              apply Exists.intro
              refine ⟨Or.inl ⟨by kernel_rfl, fun w' hl => Or.inl ?_⟩, ?_⟩
              · (go_simp; try with_reducible rfl)
              simp only [Act.put, pa, pb, pc]
              refine late_end (by kernel_rfl) (fun wn hl => ?_)
              have HR1 := Lib.hid (HR1.out.later hl); have HE := Lib.hid (HE.out.later hl); have HM := Lib.hid (HM.out.later hl); have HB := Lib.hid (below_on HB.out hl); clear hl
              go_wp2_with fail
              rcases Nat.eq_zero_or_pos i with hi0 | hpos
              · have p1 : decide (0 < (i : Int)) = false := decide_eq_false (by omega)
                have p2 : decide (0 < i) = false := decide_eq_false (by omega)
                clear hm hi0
                refine late_begin 35 (by kernel_rfl) ?_
                refine ltk 0 (by kernel_rfl) (fun _ _ d _ _ h => by cases d <;> exact h) (fun o ho => ?_)
                simp only [qa, qb, qc, qd] at ho; subst ho
                apply Exists.intro
                refine ⟨Or.inl ⟨by kernel_rfl, fun w' hl => Or.inl ?_⟩, ?_⟩
                · (go_simp; try with_reducible rfl)
                simp only [Act.put, pa, pb, pc]
                refine ltk 1 (by kernel_rfl) (fun _ _ d _ _ h => by cases d <;> exact h) (fun o ho => ?_)
                simp only [qa, qb, qc, qd] at ho; subst ho
                apply Exists.intro
                refine ⟨Or.inl ⟨by kernel_rfl, fun w' hl => Or.inl ?_⟩, ?_⟩
                · (go_simp; try with_reducible rfl)
                simp only [Act.put, pa, pb, pc]
                refine ltk 2 (by kernel_rfl) (fun _ _ d _ _ h => by cases d <;> exact h) (fun o ho => ?_)
                simp only [qa, qb, qc, qd] at ho; subst ho
                apply Exists.intro
                refine ⟨Or.inl ⟨by kernel_rfl, fun w' hl => Or.inl ?_⟩, ?_⟩
                · (go_simp; try with_reducible rfl)
                simp only [Act.put, pa, pb, pc]
                refine ltk 3 (by kernel_rfl) (fun _ _ d _ _ h => by cases d <;> exact h) (fun o ho => ?_)
                simp only [qa, qb, qc, qd] at ho; subst ho
                refine ⟨_, Or.inr ⟨by kernel_rfl, rfl⟩, ?_⟩
                simp only [Act.put, pa, pb, pc]
                refine ltk 4 (by kernel_rfl) (fun _ _ d _ _ h => by cases d <;> exact h) (fun o ho => ?_)
                simp only [qa, qb, qc, qd] at ho; subst ho
                refine ⟨_, Or.inr ⟨by kernel_rfl, rfl⟩, ?_⟩
                simp only [Act.put, pa, pb, pc]
                refine ltk 5 (by kernel_rfl) (fun _ _ d _ _ h => by cases d <;> exact h) (fun o ho => ?_)
                simp only [qa, qb, qc, qd] at ho; subst ho
                refine ⟨_, Or.inr ⟨by kernel_rfl, rfl⟩, ?_⟩
                simp only [Act.put, pa, pb, pc]
                refine ltk 6 (by kernel_rfl) (fun _ _ d _ _ h => by cases d <;> exact h) (fun o ho => ?_)
                simp only [qa, qb, qc, qd] at ho; subst ho
                refine ⟨_, Or.inr ⟨by kernel_rfl, rfl⟩, ?_⟩
                simp only [Act.put, pa, pb, pc]
                refine ltk 7 (by kernel_rfl) (fun _ _ d _ _ h => by cases d <;> exact h) (fun o ho => ?_)
                simp only [qa, qb, qc, qd] at ho; subst ho
                refine ⟨_, Or.inr ⟨by kernel_rfl, rfl⟩, ?_⟩
                simp only [Act.put, pa, pb, pc]
                refine ltk 8 (by kernel_rfl) (fun _ _ d _ _ h => by cases d <;> exact h) (fun o ho => ?_)
                simp only [qa, qb, qc, qd] at ho; subst ho
                refine ⟨_, Or.inr ⟨by kernel_rfl, rfl⟩, ?_⟩
                simp only [Act.put, pa, pb, pc]
                refine ltk 9 (by kernel_rfl) (fun _ _ d _ _ h => by cases d <;> exact h) (fun o ho => ?_)
                simp only [qa, qb, qc, qd] at ho; subst ho
                refine ⟨_, Or.inr ⟨by kernel_rfl, rfl⟩, ?_⟩
                simp only [Act.put, pa, pb, pc]
                refine ltk 10 (by kernel_rfl) (fun _ _ d _ _ h => by cases d <;> exact h) (fun o ho => ?_)
                simp only [qa, qb, qc, qd] at ho; subst ho
                refine ⟨_, Or.inr ⟨by kernel_rfl, rfl⟩, ?_⟩
                simp only [Act.put, pa, pb, pc]
                refine ltk 11 (by kernel_rfl) (fun _ _ d _ _ h => by cases d <;> exact h) (fun o ho => ?_)
                simp only [qa, qb, qc, qd] at ho; subst ho
                refine ⟨_, Or.inr ⟨by kernel_rfl, rfl⟩, ?_⟩
                simp only [Act.put, pa, pb, pc]
                refine ltk 12 (by kernel_rfl) (fun _ _ d _ _ h => by cases d <;> exact h) (fun o ho => ?_)
                simp only [qa, qb, qc, qd] at ho; subst ho
                refine ⟨_, Or.inr ⟨by kernel_rfl, rfl⟩, ?_⟩
                simp only [Act.put, pa, pb, pc]
                refine ltk 13 (by kernel_rfl) (fun _ _ d _ _ h => by cases d <;> exact h) (fun o ho => ?_)
                simp only [qa, qb, qc, qd] at ho; subst ho
                refine ⟨_, Or.inr ⟨by kernel_rfl, rfl⟩, ?_⟩
                simp only [Act.put, pa, pb, pc]
                refine ltk 14 (by kernel_rfl) (fun _ _ d _ _ h => by cases d <;> exact h) (fun o ho => ?_)
                simp only [qa, qb, qc, qd] at ho; subst ho
                refine ⟨_, Or.inr ⟨by kernel_rfl, rfl⟩, ?_⟩
                simp only [Act.put, pa, pb, pc]
                refine ltk 15 (by kernel_rfl) (fun _ _ d _ _ h => by cases d <;> exact h) (fun o ho => ?_)
                simp only [qa, qb, qc, qd] at ho; subst ho
                refine ⟨_, Or.inr ⟨by kernel_rfl, rfl⟩, ?_⟩
                simp only [Act.put, pa, pb, pc]
                refine ltk 16 (by kernel_rfl) (fun _ _ d _ _ h => by cases d <;> exact h) (fun o ho => ?_)
                simp only [qa, qb, qc, qd] at ho; subst ho
                refine ⟨_, Or.inr ⟨by kernel_rfl, rfl⟩, ?_⟩
                simp only [Act.put, pa, pb, pc]
                refine ltk 17 (by kernel_rfl) (fun _ _ d _ _ h => by cases d <;> exact h) (fun o ho => ?_)
                simp only [qa, qb, qc, qd] at ho; subst ho
                refine ⟨_, Or.inr ⟨by kernel_rfl, rfl⟩, ?_⟩
                simp only [Act.put, pa, pb, pc]
                refine ltk 18 (by kernel_rfl) (fun _ _ d _ _ h => by cases d <;> exact h) (fun o ho => ?_)
                simp only [qa, qb, qc, qd] at ho; subst ho
                refine ⟨_, Or.inr ⟨by kernel_rfl, rfl⟩, ?_⟩
                simp only [Act.put, pa, pb, pc]
                refine ltk 19 (by kernel_rfl) (fun _ _ d _ _ h => by cases d <;> exact h) (fun o ho => ?_)
                simp only [qa, qb, qc, qd] at ho; subst ho
                refine ⟨_, Or.inr ⟨by kernel_rfl, rfl⟩, ?_⟩
                simp only [Act.put, pa, pb, pc]
                refine ltk 20 (by kernel_rfl) (fun _ _ d _ _ h => by cases d <;> exact h) (fun o ho => ?_)
                simp only [qa, qb, qc, qd] at ho; subst ho
                refine ⟨_, Or.inr ⟨by kernel_rfl, rfl⟩, ?_⟩
                simp only [Act.put, pa, pb, pc]
                refine ltk 21 (by kernel_rfl) (fun _ _ d _ _ h => by cases d <;> exact h) (fun o ho => ?_)
                simp only [qa, qb, qc, qd] at ho; subst ho
                refine ⟨_, Or.inr ⟨by kernel_rfl, rfl⟩, ?_⟩
                simp only [Act.put, pa, pb, pc]
                refine ltk 22 (by kernel_rfl) (fun _ _ d _ _ h => by cases d <;> exact h) (fun o ho => ?_)
                simp only [qa, qb, qc, qd] at ho; subst ho
                refine ⟨_, Or.inr ⟨by kernel_rfl, rfl⟩, ?_⟩
                simp only [Act.put, pa, pb, pc]
                refine ltk 23 (by kernel_rfl) (fun _ _ d _ _ h => by cases d <;> exact h) (fun o ho => ?_)
                simp only [qa, qb, qc, qd] at ho; subst ho
                refine ⟨_, Or.inr ⟨by kernel_rfl, rfl⟩, ?_⟩
                simp only [Act.put, pa, pb, pc]
                refine ltk 24 (by kernel_rfl) (fun _ _ d _ _ h => by cases d <;> exact h) (fun o ho => ?_)
                simp only [qa, qb, qc, qd] at ho; subst ho
                refine ⟨_, Or.inr ⟨by kernel_rfl, rfl⟩, ?_⟩
                simp only [Act.put, pa, pb, pc]
                refine ltk 25 (by kernel_rfl) (fun _ _ d _ _ h => by cases d <;> exact h) (fun o ho => ?_)
                simp only [qa, qb, qc, qd] at ho; subst ho
                refine ⟨_, Or.inr ⟨by kernel_rfl, rfl⟩, ?_⟩
                simp only [Act.put, pa, pb, pc]
                refine ltk 26 (by kernel_rfl) (fun _ _ d _ _ h => by cases d <;> exact h) (fun o ho => ?_)
                simp only [qa, qb, qc, qd] at ho; subst ho
                refine ⟨_, Or.inr ⟨by kernel_rfl, rfl⟩, ?_⟩
                simp only [Act.put, pa, pb, pc]
                refine ltk 27 (by kernel_rfl) (fun _ _ d _ _ h => by cases d <;> exact h) (fun o ho => ?_)
                simp only [qa, qb, qc, qd] at ho; subst ho
                refine ⟨_, Or.inr ⟨by kernel_rfl, rfl⟩, ?_⟩
                simp only [Act.put, pa, pb, pc]
                refine ltk 28 (by kernel_rfl) (fun _ _ d _ _ h => by cases d <;> exact h) (fun o ho => ?_)
                simp only [qa, qb, qc, qd] at ho; subst ho
                refine ⟨_, Or.inr ⟨by kernel_rfl, rfl⟩, ?_⟩
                simp only [Act.put, pa, pb, pc]
                refine ltk 29 (by kernel_rfl) (fun _ _ d _ _ h => by cases d <;> exact h) (fun o ho => ?_)
                simp only [qa, qb, qc, qd] at ho; subst ho
                refine ⟨_, Or.inr ⟨by kernel_rfl, rfl⟩, ?_⟩
                simp only [Act.put, pa, pb, pc]
                refine ltk 30 (by kernel_rfl) (fun _ _ d _ _ h => by cases d <;> exact h) (fun o ho => ?_)
                simp only [qa, qb, qc, qd] at ho; subst ho
                refine ⟨_, Or.inr ⟨by kernel_rfl, rfl⟩, ?_⟩
                simp only [Act.put, pa, pb, pc]
                refine ltk 31 (by kernel_rfl) (fun _ _ d _ _ h => by cases d <;> exact h) (fun o ho => ?_)
                simp only [qa, qb, qc, qd] at ho; subst ho
                refine ⟨_, Or.inr ⟨by kernel_rfl, rfl⟩, ?_⟩
                simp only [Act.put, pa, pb, pc]
                refine ltk 32 (by kernel_rfl) (fun _ _ d _ _ h => by cases d <;> exact h) (fun o ho => ?_)
                simp only [qa, qb, qc, qd] at ho; subst ho
                refine ⟨_, Or.inr ⟨by kernel_rfl, rfl⟩, ?_⟩
                simp only [Act.put, pa, pb, pc]
                refine ltk 33 (by kernel_rfl) (fun _ _ d _ _ h => by cases d <;> exact h) (fun o ho => ?_)
                simp only [qa, qb, qc, qd] at ho; subst ho
                refine ⟨_, Or.inr ⟨by kernel_rfl, rfl⟩, ?_⟩
                simp only [Act.put, pa, pb, pc]
                refine ltk 34 (by kernel_rfl) (fun _ _ d _ _ h => by cases d <;> exact h) (fun o ho => ?_)
                simp only [qa, qb, qc, qd] at ho; subst ho
                apply Exists.intro
                refine ⟨Or.inl ⟨by kernel_rfl, fun w' hl => Or.inl ?_⟩, ?_⟩
                · (go_simp; try with_reducible rfl)
                simp only [Act.put, pa, pb, pc]
                refine late_end (by kernel_rfl) (fun wn hl => ?_)
                have HR1 := Lib.hid (HR1.out.later hl); have HE := Lib.hid (HE.out.later hl); have HM := Lib.hid (HM.out.later hl); have HB := Lib.hid (below_on HB.out hl); clear hl
                go_wp2_with fail
                go_roundw
                case rel => exact ⟨i + 1, by have := HIl.out; omega, by go_num, HE.out, HR1.out, HB.out⟩
                case measure => simp [intOf]; have := HIl.out; omega
              · obtain ⟨j, hj⟩ : ∃ j, j + 1 = i := ⟨i - 1, by omega⟩
                obtain ⟨m1, hm1⟩ : ∃ m1, L[j]? = some m1 := ⟨_, List.getElem?_eq_getElem (by omega)⟩
                obtain ⟨k1, s1, hk11, hk16, hs1, rfl, _⟩ := drL_at (p := q) (i := j) (by rw [HL.out]; exact hm1)
                have hlex : Lex (dmv k1 s1) (dmv k s) := drL_next (p := q) (i := j) (by rw [HL.out]; exact hm1) (by rw [HL.out, hj]; exact hm)
                have HX0 := Lib.hid hm1
                have HJi := Lib.hid (show IntKind.i64.wrap ((i : Int) - 1) = (j : Int) by rw [IntWalk.i64_in _ (by omega)]; omega)
                have hjl : j < L.length := by omega
                have p1 : decide (0 < (i : Int)) = true := decide_eq_true (by omega)
                have p2 : decide (0 < i) = true := decide_eq_true (by omega)
                have hlex : (k1 : Int) < k ∨ ((k1 : Int) = k ∧ (s1 : Int) < s) := hlex
                have r1 : decide ((k : Int) < (k1 : Int)) = false := decide_eq_false (by omega)
                have r2 : decide (k < k1) = false := decide_eq_false (by omega)
                rcases hlex with hlt1 | ⟨heq, hlt1⟩
                · have r3 : ((k1 : Int) == (k : Int)) = false := by rw [beq_eq_false_iff_ne]; omega
                  have r4 : (k1 == k) = false := by rw [beq_eq_false_iff_ne]; omega
                  clear hm hm1 hj
                  refine late_begin 35 (by kernel_rfl) ?_
                  refine ltk 0 (by kernel_rfl) (fun _ _ d _ _ h => by cases d <;> exact h) (fun o ho => ?_)
                  simp only [qa, qb, qc, qd] at ho; subst ho
                  apply Exists.intro
                  refine ⟨Or.inl ⟨by kernel_rfl, fun w' hl => Or.inl ?_⟩, ?_⟩
                  · (go_simp; try with_reducible rfl)
                  simp only [Act.put, pa, pb, pc]
                  refine ltk 1 (by kernel_rfl) (fun _ _ d _ _ h => by cases d <;> exact h) (fun o ho => ?_)
                  simp only [qa, qb, qc, qd] at ho; subst ho
                  apply Exists.intro
                  refine ⟨Or.inl ⟨by kernel_rfl, fun w' hl => Or.inl ?_⟩, ?_⟩
                  · (go_simp; try with_reducible rfl)
                  simp only [Act.put, pa, pb, pc]
                  refine ltk 2 (by kernel_rfl) (fun _ _ d _ _ h => by cases d <;> exact h) (fun o ho => ?_)
                  simp only [qa, qb, qc, qd] at ho; subst ho
                  apply Exists.intro
                  refine ⟨Or.inl ⟨by kernel_rfl, fun w' hl => Or.inl ?_⟩, ?_⟩
                  · (go_simp; try with_reducible rfl)
                  simp only [Act.put, pa, pb, pc]
                  refine ltk 3 (by kernel_rfl) (fun _ _ d _ _ h => by cases d <;> exact h) (fun o ho => ?_)
                  simp only [qa, qb, qc, qd] at ho; subst ho
                  apply Exists.intro
                  refine ⟨Or.inl ⟨by kernel_rfl, fun w' hl => Or.inl ?_⟩, ?_⟩
                  · (go_simp; try with_reducible rfl)
                  simp only [Act.put, pa, pb, pc]
                  refine ltk 4 (by kernel_rfl) (fun _ _ d _ _ h => by cases d <;> exact h) (fun o ho => ?_)
                  simp only [qa, qb, qc, qd] at ho; subst ho
                  apply Exists.intro
                  refine ⟨Or.inl ⟨by kernel_rfl, fun w' hl => Or.inl ?_⟩, ?_⟩
                  · (go_simp; try with_reducible rfl)
                  simp only [Act.put, pa, pb, pc]
                  refine ltk 5 (by kernel_rfl) (fun _ _ d _ _ h => by cases d <;> exact h) (fun o ho => ?_)
                  simp only [qa, qb, qc, qd] at ho; subst ho
                  refine ⟨.int .i64 (j : Int), Or.inl ⟨by kernel_rfl, fun w' hl => Or.inl ?_⟩, ?_⟩
                  · go_simp; first | done | exact HJi.out | (rw [HJi.out])
                  simp only [Act.put, pa, pb, pc]
                  refine ltk 6 (by kernel_rfl) (fun _ _ d _ _ h => by cases d <;> exact h) (fun o ho => ?_)
                  simp only [qa, qb, qc, qd] at ho; subst ho
                  refine ⟨.pointer (some ⟨g9, j * 5, none⟩), Or.inl ⟨by kernel_rfl, fun w' hl => Or.inl ?_⟩, ?_⟩
                  · (go_simp; first | done | (with_reducible rfl) | (intro hbad; exfalso; omega))
                  simp only [Act.put, pa, pb, pc]
                  refine ltk 7 (by kernel_rfl) (fun _ _ d _ _ h => by cases d <;> exact h) (fun o ho => ?_)
                  simp only [qa, qb, qc, qd] at ho; subst ho
                  refine ⟨.pointer (some ⟨g9, j * 5 + 3, none⟩), Or.inl ⟨by kernel_rfl, fun w' hl => Or.inl ?_⟩, ?_⟩
                  · (go_simp; first | done | (with_reducible rfl) | (intro hbad; exfalso; omega))
                  simp only [Act.put, pa, pb, pc]
                  refine ltk 8 (by kernel_rfl) (fun _ _ d _ _ h => by cases d <;> exact h) (fun o ho => ?_)
                  simp only [qa, qb, qc, qd] at ho; subst ho
                  refine ⟨.int .u8 (k1 : Int), Or.inl ⟨by kernel_rfl, fun w' hl => Or.inl (run_get 5 _ rfl g9 (j * 5 + 3) rfl Tryd.underlying5 rfl (.int .u8 (k1 : Int)) (((HE.out.later hl).cell HX0.out 3 _ (by decide) rfl).trans rfl))⟩, ?_⟩
                  simp only [Act.put, pa, pb, pc]
                  refine ltk 9 (by kernel_rfl) (fun _ _ d _ _ h => by cases d <;> exact h) (fun o ho => ?_)
                  simp only [qa, qb, qc, qd] at ho; subst ho
                  apply Exists.intro
                  refine ⟨Or.inl ⟨by kernel_rfl, fun w' hl => Or.inl ?_⟩, ?_⟩
                  · (go_simp; try with_reducible rfl)
                  simp only [Act.put, pa, pb, pc]
                  refine ltk 10 (by kernel_rfl) (fun _ _ d _ _ h => by cases d <;> exact h) (fun o ho => ?_)
                  simp only [qa, qb, qc, qd] at ho; subst ho
                  refine ⟨.int .u8 (k : Int), Or.inl ⟨by kernel_rfl, fun w' hl => Or.inl (run_get 5 _ rfl b11 3 rfl Tryd.underlying5 rfl (.int .u8 (k : Int)) (((HM.out.later hl).cell 3).trans rfl))⟩, ?_⟩
                  simp only [Act.put, pa, pb, pc]
                  refine ltk 11 (by kernel_rfl) (fun _ _ d _ _ h => by cases d <;> exact h) (fun o ho => ?_)
                  simp only [qa, qb, qc, qd] at ho; subst ho
                  apply Exists.intro
                  refine ⟨Or.inl ⟨by kernel_rfl, fun w' hl => Or.inl ?_⟩, ?_⟩
                  · (go_simp; try with_reducible rfl)
                  simp only [Act.put, pa, pb, pc]
                  refine ltk 12 (by kernel_rfl) (fun _ _ d _ _ h => by cases d <;> exact h) (fun o ho => ?_)
                  simp only [qa, qb, qc, qd] at ho; subst ho
                  apply Exists.intro
                  refine ⟨Or.inl ⟨by kernel_rfl, fun w' hl => Or.inl ?_⟩, ?_⟩
                  · (go_simp; try with_reducible rfl)
                  simp only [Act.put, pa, pb, pc]
                  refine ltk 13 (by kernel_rfl) (fun _ _ d _ _ h => by cases d <;> exact h) (fun o ho => ?_)
                  simp only [qa, qb, qc, qd] at ho; subst ho
                  apply Exists.intro
                  refine ⟨Or.inl ⟨by kernel_rfl, fun w' hl => Or.inl ?_⟩, ?_⟩
                  · (go_simp; try with_reducible rfl)
                  simp only [Act.put, pa, pb, pc]
                  refine ltk 14 (by kernel_rfl) (fun _ _ d _ _ h => by cases d <;> exact h) (fun o ho => ?_)
                  simp only [qa, qb, qc, qd] at ho; subst ho
                  apply Exists.intro
                  refine ⟨Or.inl ⟨by kernel_rfl, fun w' hl => Or.inl ?_⟩, ?_⟩
                  · (go_simp; try with_reducible rfl)
                  simp only [Act.put, pa, pb, pc]
                  refine ltk 15 (by kernel_rfl) (fun _ _ d _ _ h => by cases d <;> exact h) (fun o ho => ?_)
                  simp only [qa, qb, qc, qd] at ho; subst ho
                  refine ⟨.int .i64 (j : Int), Or.inl ⟨by kernel_rfl, fun w' hl => Or.inl ?_⟩, ?_⟩
                  · go_simp; first | done | exact HJi.out | (rw [HJi.out])
                  simp only [Act.put, pa, pb, pc]
                  refine ltk 16 (by kernel_rfl) (fun _ _ d _ _ h => by cases d <;> exact h) (fun o ho => ?_)
                  simp only [qa, qb, qc, qd] at ho; subst ho
                  refine ⟨.pointer (some ⟨g9, j * 5, none⟩), Or.inl ⟨by kernel_rfl, fun w' hl => Or.inl ?_⟩, ?_⟩
                  · (go_simp; first | done | (with_reducible rfl) | (intro hbad; exfalso; omega))
                  simp only [Act.put, pa, pb, pc]
                  refine ltk 17 (by kernel_rfl) (fun _ _ d _ _ h => by cases d <;> exact h) (fun o ho => ?_)
                  simp only [qa, qb, qc, qd] at ho; subst ho
                  refine ⟨.pointer (some ⟨g9, j * 5 + 3, none⟩), Or.inl ⟨by kernel_rfl, fun w' hl => Or.inl ?_⟩, ?_⟩
                  · (go_simp; first | done | (with_reducible rfl) | (intro hbad; exfalso; omega))
                  simp only [Act.put, pa, pb, pc]
                  refine ltk 18 (by kernel_rfl) (fun _ _ d _ _ h => by cases d <;> exact h) (fun o ho => ?_)
                  simp only [qa, qb, qc, qd] at ho; subst ho
                  refine ⟨.int .u8 (k1 : Int), Or.inl ⟨by kernel_rfl, fun w' hl => Or.inl (run_get 5 _ rfl g9 (j * 5 + 3) rfl Tryd.underlying5 rfl (.int .u8 (k1 : Int)) (((HE.out.later hl).cell HX0.out 3 _ (by decide) rfl).trans rfl))⟩, ?_⟩
                  simp only [Act.put, pa, pb, pc]
                  refine ltk 19 (by kernel_rfl) (fun _ _ d _ _ h => by cases d <;> exact h) (fun o ho => ?_)
                  simp only [qa, qb, qc, qd] at ho; subst ho
                  apply Exists.intro
                  refine ⟨Or.inl ⟨by kernel_rfl, fun w' hl => Or.inl ?_⟩, ?_⟩
                  · (go_simp; try with_reducible rfl)
                  simp only [Act.put, pa, pb, pc]
                  refine ltk 20 (by kernel_rfl) (fun _ _ d _ _ h => by cases d <;> exact h) (fun o ho => ?_)
                  simp only [qa, qb, qc, qd] at ho; subst ho
                  refine ⟨.int .u8 (k : Int), Or.inl ⟨by kernel_rfl, fun w' hl => Or.inl (run_get 5 _ rfl b11 3 rfl Tryd.underlying5 rfl (.int .u8 (k : Int)) (((HM.out.later hl).cell 3).trans rfl))⟩, ?_⟩
                  simp only [Act.put, pa, pb, pc]
                  refine ltk 21 (by kernel_rfl) (fun _ _ d _ _ h => by cases d <;> exact h) (fun o ho => ?_)
                  simp only [qa, qb, qc, qd] at ho; subst ho
                  apply Exists.intro
                  refine ⟨Or.inl ⟨by kernel_rfl, fun w' hl => Or.inl ?_⟩, ?_⟩
                  · (go_simp; try with_reducible rfl)
                  simp only [Act.put, pa, pb, pc]
                  refine ltk 22 (by kernel_rfl) (fun _ _ d _ _ h => by cases d <;> exact h) (fun o ho => ?_)
                  simp only [qa, qb, qc, qd] at ho; subst ho
                  apply Exists.intro
                  refine ⟨Or.inl ⟨by kernel_rfl, fun w' hl => Or.inl ?_⟩, ?_⟩
                  · (go_simp; try with_reducible rfl)
                  simp only [Act.put, pa, pb, pc]
                  refine ltk 23 (by kernel_rfl) (fun _ _ d _ _ h => by cases d <;> exact h) (fun o ho => ?_)
                  simp only [qa, qb, qc, qd] at ho; subst ho
                  refine ⟨_, Or.inr ⟨by kernel_rfl, rfl⟩, ?_⟩
                  simp only [Act.put, pa, pb, pc]
                  refine ltk 24 (by kernel_rfl) (fun _ _ d _ _ h => by cases d <;> exact h) (fun o ho => ?_)
                  simp only [qa, qb, qc, qd] at ho; subst ho
                  refine ⟨_, Or.inr ⟨by kernel_rfl, rfl⟩, ?_⟩
                  simp only [Act.put, pa, pb, pc]
                  refine ltk 25 (by kernel_rfl) (fun _ _ d _ _ h => by cases d <;> exact h) (fun o ho => ?_)
                  simp only [qa, qb, qc, qd] at ho; subst ho
                  refine ⟨_, Or.inr ⟨by kernel_rfl, rfl⟩, ?_⟩
                  simp only [Act.put, pa, pb, pc]
                  refine ltk 26 (by kernel_rfl) (fun _ _ d _ _ h => by cases d <;> exact h) (fun o ho => ?_)
                  simp only [qa, qb, qc, qd] at ho; subst ho
                  refine ⟨_, Or.inr ⟨by kernel_rfl, rfl⟩, ?_⟩
                  simp only [Act.put, pa, pb, pc]
                  refine ltk 27 (by kernel_rfl) (fun _ _ d _ _ h => by cases d <;> exact h) (fun o ho => ?_)
                  simp only [qa, qb, qc, qd] at ho; subst ho
                  refine ⟨_, Or.inr ⟨by kernel_rfl, rfl⟩, ?_⟩
                  simp only [Act.put, pa, pb, pc]
                  refine ltk 28 (by kernel_rfl) (fun _ _ d _ _ h => by cases d <;> exact h) (fun o ho => ?_)
                  simp only [qa, qb, qc, qd] at ho; subst ho
                  refine ⟨_, Or.inr ⟨by kernel_rfl, rfl⟩, ?_⟩
                  simp only [Act.put, pa, pb, pc]
                  refine ltk 29 (by kernel_rfl) (fun _ _ d _ _ h => by cases d <;> exact h) (fun o ho => ?_)
                  simp only [qa, qb, qc, qd] at ho; subst ho
                  refine ⟨_, Or.inr ⟨by kernel_rfl, rfl⟩, ?_⟩
                  simp only [Act.put, pa, pb, pc]
                  refine ltk 30 (by kernel_rfl) (fun _ _ d _ _ h => by cases d <;> exact h) (fun o ho => ?_)
                  simp only [qa, qb, qc, qd] at ho; subst ho
                  refine ⟨_, Or.inr ⟨by kernel_rfl, rfl⟩, ?_⟩
                  simp only [Act.put, pa, pb, pc]
                  refine ltk 31 (by kernel_rfl) (fun _ _ d _ _ h => by cases d <;> exact h) (fun o ho => ?_)
                  simp only [qa, qb, qc, qd] at ho; subst ho
                  refine ⟨_, Or.inr ⟨by kernel_rfl, rfl⟩, ?_⟩
                  simp only [Act.put, pa, pb, pc]
                  refine ltk 32 (by kernel_rfl) (fun _ _ d _ _ h => by cases d <;> exact h) (fun o ho => ?_)
                  simp only [qa, qb, qc, qd] at ho; subst ho
                  apply Exists.intro
                  refine ⟨Or.inl ⟨by kernel_rfl, fun w' hl => Or.inl ?_⟩, ?_⟩
                  · (go_simp; try with_reducible rfl)
                  simp only [Act.put, pa, pb, pc]
                  refine ltk 33 (by kernel_rfl) (fun _ _ d _ _ h => by cases d <;> exact h) (fun o ho => ?_)
                  simp only [qa, qb, qc, qd] at ho; subst ho
                  apply Exists.intro
                  refine ⟨Or.inl ⟨by kernel_rfl, fun w' hl => Or.inl ?_⟩, ?_⟩
                  · (go_simp; try with_reducible rfl)
                  simp only [Act.put, pa, pb, pc]
                  refine ltk 34 (by kernel_rfl) (fun _ _ d _ _ h => by cases d <;> exact h) (fun o ho => ?_)
                  simp only [qa, qb, qc, qd] at ho; subst ho
                  apply Exists.intro
                  refine ⟨Or.inl ⟨by kernel_rfl, fun w' hl => Or.inl ?_⟩, ?_⟩
                  · (go_simp; try with_reducible rfl)
                  simp only [Act.put, pa, pb, pc]
                  refine late_end (by kernel_rfl) (fun wn hl => ?_)
                  have HR1 := Lib.hid (HR1.out.later hl); have HE := Lib.hid (HE.out.later hl); have HM := Lib.hid (HM.out.later hl); have HB := Lib.hid (below_on HB.out hl); clear hl
                  go_wp2_with fail
                  go_roundw
                  case rel => exact ⟨i + 1, by have := HIl.out; omega, by go_num, HE.out, HR1.out, HB.out⟩
                  case measure => simp [intOf]; have := HIl.out; omega
                · obtain rfl : k = k1 := by omega
                  have r5 : decide ((s : Int) ≤ (s1 : Int)) = false := decide_eq_false (by omega)
                  have r6 : decide (s ≤ s1) = false := decide_eq_false (by omega)
                  clear hm hm1 hj heq
                  refine late_begin 35 (by kernel_rfl) ?_
                  refine ltk 0 (by kernel_rfl) (fun _ _ d _ _ h => by cases d <;> exact h) (fun o ho => ?_)
                  simp only [qa, qb, qc, qd] at ho; subst ho
                  apply Exists.intro
                  refine ⟨Or.inl ⟨by kernel_rfl, fun w' hl => Or.inl ?_⟩, ?_⟩
                  · (go_simp; try with_reducible rfl)
                  simp only [Act.put, pa, pb, pc]
                  refine ltk 1 (by kernel_rfl) (fun _ _ d _ _ h => by cases d <;> exact h) (fun o ho => ?_)
                  simp only [qa, qb, qc, qd] at ho; subst ho
                  apply Exists.intro
                  refine ⟨Or.inl ⟨by kernel_rfl, fun w' hl => Or.inl ?_⟩, ?_⟩
                  · (go_simp; try with_reducible rfl)
                  simp only [Act.put, pa, pb, pc]
                  refine ltk 2 (by kernel_rfl) (fun _ _ d _ _ h => by cases d <;> exact h) (fun o ho => ?_)
                  simp only [qa, qb, qc, qd] at ho; subst ho
                  apply Exists.intro
                  refine ⟨Or.inl ⟨by kernel_rfl, fun w' hl => Or.inl ?_⟩, ?_⟩
                  · (go_simp; try with_reducible rfl)
                  simp only [Act.put, pa, pb, pc]
                  refine ltk 3 (by kernel_rfl) (fun _ _ d _ _ h => by cases d <;> exact h) (fun o ho => ?_)
                  simp only [qa, qb, qc, qd] at ho; subst ho
                  apply Exists.intro
                  refine ⟨Or.inl ⟨by kernel_rfl, fun w' hl => Or.inl ?_⟩, ?_⟩
                  · (go_simp; try with_reducible rfl)
                  simp only [Act.put, pa, pb, pc]
                  refine ltk 4 (by kernel_rfl) (fun _ _ d _ _ h => by cases d <;> exact h) (fun o ho => ?_)
                  simp only [qa, qb, qc, qd] at ho; subst ho
                  apply Exists.intro
                  refine ⟨Or.inl ⟨by kernel_rfl, fun w' hl => Or.inl ?_⟩, ?_⟩
                  · (go_simp; try with_reducible rfl)
                  simp only [Act.put, pa, pb, pc]
                  refine ltk 5 (by kernel_rfl) (fun _ _ d _ _ h => by cases d <;> exact h) (fun o ho => ?_)
                  simp only [qa, qb, qc, qd] at ho; subst ho
                  refine ⟨.int .i64 (j : Int), Or.inl ⟨by kernel_rfl, fun w' hl => Or.inl ?_⟩, ?_⟩
                  · go_simp; first | done | exact HJi.out | (rw [HJi.out])
                  simp only [Act.put, pa, pb, pc]
                  refine ltk 6 (by kernel_rfl) (fun _ _ d _ _ h => by cases d <;> exact h) (fun o ho => ?_)
                  simp only [qa, qb, qc, qd] at ho; subst ho
                  refine ⟨.pointer (some ⟨g9, j * 5, none⟩), Or.inl ⟨by kernel_rfl, fun w' hl => Or.inl ?_⟩, ?_⟩
                  · (go_simp; first | done | (with_reducible rfl) | (intro hbad; exfalso; omega))
                  simp only [Act.put, pa, pb, pc]
                  refine ltk 7 (by kernel_rfl) (fun _ _ d _ _ h => by cases d <;> exact h) (fun o ho => ?_)
                  simp only [qa, qb, qc, qd] at ho; subst ho
                  refine ⟨.pointer (some ⟨g9, j * 5 + 3, none⟩), Or.inl ⟨by kernel_rfl, fun w' hl => Or.inl ?_⟩, ?_⟩
                  · (go_simp; first | done | (with_reducible rfl) | (intro hbad; exfalso; omega))
                  simp only [Act.put, pa, pb, pc]
                  refine ltk 8 (by kernel_rfl) (fun _ _ d _ _ h => by cases d <;> exact h) (fun o ho => ?_)
                  simp only [qa, qb, qc, qd] at ho; subst ho
                  refine ⟨.int .u8 (k : Int), Or.inl ⟨by kernel_rfl, fun w' hl => Or.inl (run_get 5 _ rfl g9 (j * 5 + 3) rfl Tryd.underlying5 rfl (.int .u8 (k : Int)) (((HE.out.later hl).cell HX0.out 3 _ (by decide) rfl).trans rfl))⟩, ?_⟩
                  simp only [Act.put, pa, pb, pc]
                  refine ltk 9 (by kernel_rfl) (fun _ _ d _ _ h => by cases d <;> exact h) (fun o ho => ?_)
                  simp only [qa, qb, qc, qd] at ho; subst ho
                  apply Exists.intro
                  refine ⟨Or.inl ⟨by kernel_rfl, fun w' hl => Or.inl ?_⟩, ?_⟩
                  · (go_simp; try with_reducible rfl)
                  simp only [Act.put, pa, pb, pc]
                  refine ltk 10 (by kernel_rfl) (fun _ _ d _ _ h => by cases d <;> exact h) (fun o ho => ?_)
                  simp only [qa, qb, qc, qd] at ho; subst ho
                  refine ⟨.int .u8 (k : Int), Or.inl ⟨by kernel_rfl, fun w' hl => Or.inl (run_get 5 _ rfl b11 3 rfl Tryd.underlying5 rfl (.int .u8 (k : Int)) (((HM.out.later hl).cell 3).trans rfl))⟩, ?_⟩
                  simp only [Act.put, pa, pb, pc]
                  refine ltk 11 (by kernel_rfl) (fun _ _ d _ _ h => by cases d <;> exact h) (fun o ho => ?_)
                  simp only [qa, qb, qc, qd] at ho; subst ho
                  apply Exists.intro
                  refine ⟨Or.inl ⟨by kernel_rfl, fun w' hl => Or.inl ?_⟩, ?_⟩
                  · (go_simp; try with_reducible rfl)
                  simp only [Act.put, pa, pb, pc]
                  refine ltk 12 (by kernel_rfl) (fun _ _ d _ _ h => by cases d <;> exact h) (fun o ho => ?_)
                  simp only [qa, qb, qc, qd] at ho; subst ho
                  apply Exists.intro
                  refine ⟨Or.inl ⟨by kernel_rfl, fun w' hl => Or.inl ?_⟩, ?_⟩
                  · (go_simp; try with_reducible rfl)
                  simp only [Act.put, pa, pb, pc]
                  refine ltk 13 (by kernel_rfl) (fun _ _ d _ _ h => by cases d <;> exact h) (fun o ho => ?_)
                  simp only [qa, qb, qc, qd] at ho; subst ho
                  apply Exists.intro
                  refine ⟨Or.inl ⟨by kernel_rfl, fun w' hl => Or.inl ?_⟩, ?_⟩
                  · (go_simp; try with_reducible rfl)
                  simp only [Act.put, pa, pb, pc]
                  refine ltk 14 (by kernel_rfl) (fun _ _ d _ _ h => by cases d <;> exact h) (fun o ho => ?_)
                  simp only [qa, qb, qc, qd] at ho; subst ho
                  apply Exists.intro
                  refine ⟨Or.inl ⟨by kernel_rfl, fun w' hl => Or.inl ?_⟩, ?_⟩
                  · (go_simp; try with_reducible rfl)
                  simp only [Act.put, pa, pb, pc]
                  refine ltk 15 (by kernel_rfl) (fun _ _ d _ _ h => by cases d <;> exact h) (fun o ho => ?_)
                  simp only [qa, qb, qc, qd] at ho; subst ho
                  refine ⟨.int .i64 (j : Int), Or.inl ⟨by kernel_rfl, fun w' hl => Or.inl ?_⟩, ?_⟩
                  · go_simp; first | done | exact HJi.out | (rw [HJi.out])
                  simp only [Act.put, pa, pb, pc]
                  refine ltk 16 (by kernel_rfl) (fun _ _ d _ _ h => by cases d <;> exact h) (fun o ho => ?_)
                  simp only [qa, qb, qc, qd] at ho; subst ho
                  refine ⟨.pointer (some ⟨g9, j * 5, none⟩), Or.inl ⟨by kernel_rfl, fun w' hl => Or.inl ?_⟩, ?_⟩
                  · (go_simp; first | done | (with_reducible rfl) | (intro hbad; exfalso; omega))
                  simp only [Act.put, pa, pb, pc]
                  refine ltk 17 (by kernel_rfl) (fun _ _ d _ _ h => by cases d <;> exact h) (fun o ho => ?_)
                  simp only [qa, qb, qc, qd] at ho; subst ho
                  refine ⟨.pointer (some ⟨g9, j * 5 + 3, none⟩), Or.inl ⟨by kernel_rfl, fun w' hl => Or.inl ?_⟩, ?_⟩
                  · (go_simp; first | done | (with_reducible rfl) | (intro hbad; exfalso; omega))
                  simp only [Act.put, pa, pb, pc]
                  refine ltk 18 (by kernel_rfl) (fun _ _ d _ _ h => by cases d <;> exact h) (fun o ho => ?_)
                  simp only [qa, qb, qc, qd] at ho; subst ho
                  refine ⟨.int .u8 (k : Int), Or.inl ⟨by kernel_rfl, fun w' hl => Or.inl (run_get 5 _ rfl g9 (j * 5 + 3) rfl Tryd.underlying5 rfl (.int .u8 (k : Int)) (((HE.out.later hl).cell HX0.out 3 _ (by decide) rfl).trans rfl))⟩, ?_⟩
                  simp only [Act.put, pa, pb, pc]
                  refine ltk 19 (by kernel_rfl) (fun _ _ d _ _ h => by cases d <;> exact h) (fun o ho => ?_)
                  simp only [qa, qb, qc, qd] at ho; subst ho
                  apply Exists.intro
                  refine ⟨Or.inl ⟨by kernel_rfl, fun w' hl => Or.inl ?_⟩, ?_⟩
                  · (go_simp; try with_reducible rfl)
                  simp only [Act.put, pa, pb, pc]
                  refine ltk 20 (by kernel_rfl) (fun _ _ d _ _ h => by cases d <;> exact h) (fun o ho => ?_)
                  simp only [qa, qb, qc, qd] at ho; subst ho
                  refine ⟨.int .u8 (k : Int), Or.inl ⟨by kernel_rfl, fun w' hl => Or.inl (run_get 5 _ rfl b11 3 rfl Tryd.underlying5 rfl (.int .u8 (k : Int)) (((HM.out.later hl).cell 3).trans rfl))⟩, ?_⟩
                  simp only [Act.put, pa, pb, pc]
                  refine ltk 21 (by kernel_rfl) (fun _ _ d _ _ h => by cases d <;> exact h) (fun o ho => ?_)
                  simp only [qa, qb, qc, qd] at ho; subst ho
                  apply Exists.intro
                  refine ⟨Or.inl ⟨by kernel_rfl, fun w' hl => Or.inl ?_⟩, ?_⟩
                  · (go_simp; try with_reducible rfl)
                  simp only [Act.put, pa, pb, pc]
                  refine ltk 22 (by kernel_rfl) (fun _ _ d _ _ h => by cases d <;> exact h) (fun o ho => ?_)
                  simp only [qa, qb, qc, qd] at ho; subst ho
                  apply Exists.intro
                  refine ⟨Or.inl ⟨by kernel_rfl, fun w' hl => Or.inl ?_⟩, ?_⟩
                  · (go_simp; try with_reducible rfl)
                  simp only [Act.put, pa, pb, pc]
                  refine ltk 23 (by kernel_rfl) (fun _ _ d _ _ h => by cases d <;> exact h) (fun o ho => ?_)
                  simp only [qa, qb, qc, qd] at ho; subst ho
                  apply Exists.intro
                  refine ⟨Or.inl ⟨by kernel_rfl, fun w' hl => Or.inl ?_⟩, ?_⟩
                  · (go_simp; try with_reducible rfl)
                  simp only [Act.put, pa, pb, pc]
                  refine ltk 24 (by kernel_rfl) (fun _ _ d _ _ h => by cases d <;> exact h) (fun o ho => ?_)
                  simp only [qa, qb, qc, qd] at ho; subst ho
                  apply Exists.intro
                  refine ⟨Or.inl ⟨by kernel_rfl, fun w' hl => Or.inl ?_⟩, ?_⟩
                  · (go_simp; try with_reducible rfl)
                  simp only [Act.put, pa, pb, pc]
                  refine ltk 25 (by kernel_rfl) (fun _ _ d _ _ h => by cases d <;> exact h) (fun o ho => ?_)
                  simp only [qa, qb, qc, qd] at ho; subst ho
                  refine ⟨.int .i64 (j : Int), Or.inl ⟨by kernel_rfl, fun w' hl => Or.inl ?_⟩, ?_⟩
                  · go_simp; first | done | exact HJi.out | (rw [HJi.out])
                  simp only [Act.put, pa, pb, pc]
                  refine ltk 26 (by kernel_rfl) (fun _ _ d _ _ h => by cases d <;> exact h) (fun o ho => ?_)
                  simp only [qa, qb, qc, qd] at ho; subst ho
                  refine ⟨.pointer (some ⟨g9, j * 5, none⟩), Or.inl ⟨by kernel_rfl, fun w' hl => Or.inl ?_⟩, ?_⟩
                  · (go_simp; first | done | (with_reducible rfl) | (intro hbad; exfalso; omega))
                  simp only [Act.put, pa, pb, pc]
                  refine ltk 27 (by kernel_rfl) (fun _ _ d _ _ h => by cases d <;> exact h) (fun o ho => ?_)
                  simp only [qa, qb, qc, qd] at ho; subst ho
                  refine ⟨.pointer (some ⟨g9, j * 5 + 1, none⟩), Or.inl ⟨by kernel_rfl, fun w' hl => Or.inl ?_⟩, ?_⟩
                  · (go_simp; first | done | (with_reducible rfl) | (intro hbad; exfalso; omega))
                  simp only [Act.put, pa, pb, pc]
                  refine ltk 28 (by kernel_rfl) (fun _ _ d _ _ h => by cases d <;> exact h) (fun o ho => ?_)
                  simp only [qa, qb, qc, qd] at ho; subst ho
                  refine ⟨.int .i8 (s1 : Int), Or.inl ⟨by kernel_rfl, fun w' hl => Or.inl (run_get 26 _ rfl g9 (j * 5 + 1) rfl Tryd.underlying26 rfl (.int .i8 (s1 : Int)) (((HE.out.later hl).cell HX0.out 1 _ (by decide) rfl).trans rfl))⟩, ?_⟩
                  simp only [Act.put, pa, pb, pc]
                  refine ltk 29 (by kernel_rfl) (fun _ _ d _ _ h => by cases d <;> exact h) (fun o ho => ?_)
                  simp only [qa, qb, qc, qd] at ho; subst ho
                  apply Exists.intro
                  refine ⟨Or.inl ⟨by kernel_rfl, fun w' hl => Or.inl ?_⟩, ?_⟩
                  · (go_simp; try with_reducible rfl)
                  simp only [Act.put, pa, pb, pc]
                  refine ltk 30 (by kernel_rfl) (fun _ _ d _ _ h => by cases d <;> exact h) (fun o ho => ?_)
                  simp only [qa, qb, qc, qd] at ho; subst ho
                  refine ⟨.int .i8 (s : Int), Or.inl ⟨by kernel_rfl, fun w' hl => Or.inl (run_get 26 _ rfl b11 1 rfl Tryd.underlying26 rfl (.int .i8 (s : Int)) (((HM.out.later hl).cell 1).trans rfl))⟩, ?_⟩
                  simp only [Act.put, pa, pb, pc]
                  refine ltk 31 (by kernel_rfl) (fun _ _ d _ _ h => by cases d <;> exact h) (fun o ho => ?_)
                  simp only [qa, qb, qc, qd] at ho; subst ho
                  apply Exists.intro
                  refine ⟨Or.inl ⟨by kernel_rfl, fun w' hl => Or.inl ?_⟩, ?_⟩
                  · (go_simp; try with_reducible rfl)
                  simp only [Act.put, pa, pb, pc]
                  refine ltk 32 (by kernel_rfl) (fun _ _ d _ _ h => by cases d <;> exact h) (fun o ho => ?_)
                  simp only [qa, qb, qc, qd] at ho; subst ho
                  apply Exists.intro
                  refine ⟨Or.inl ⟨by kernel_rfl, fun w' hl => Or.inl ?_⟩, ?_⟩
                  · (go_simp; try with_reducible rfl)
                  simp only [Act.put, pa, pb, pc]
                  refine ltk 33 (by kernel_rfl) (fun _ _ d _ _ h => by cases d <;> exact h) (fun o ho => ?_)
                  simp only [qa, qb, qc, qd] at ho; subst ho
                  apply Exists.intro
                  refine ⟨Or.inl ⟨by kernel_rfl, fun w' hl => Or.inl ?_⟩, ?_⟩
                  · (go_simp; try with_reducible rfl)
                  simp only [Act.put, pa, pb, pc]
                  refine ltk 34 (by kernel_rfl) (fun _ _ d _ _ h => by cases d <;> exact h) (fun o ho => ?_)
                  simp only [qa, qb, qc, qd] at ho; subst ho
                  apply Exists.intro
                  refine ⟨Or.inl ⟨by kernel_rfl, fun w' hl => Or.inl ?_⟩, ?_⟩
                  · (go_simp; try with_reducible rfl)
                  simp only [Act.put, pa, pb, pc]
                  refine late_end (by kernel_rfl) (fun wn hl => ?_)
                  have HR1 := Lib.hid (HR1.out.later hl); have HE := Lib.hid (HE.out.later hl); have HM := Lib.hid (HM.out.later hl); have HB := Lib.hid (below_on HB.out hl); clear hl
                  go_wp2_with fail
                  go_roundw
                  case rel => exact ⟨i + 1, by have := HIl.out; omega, by go_num, HE.out, HR1.out, HB.out⟩
                  case measure => simp [intOf]; have := HIl.out; omega
            · obtain rfl : i = L.length := by omega
              have e1 : ((L.length : Int) == (L.length : Int)) = true := beq_self_eq_true _
              go_wp2_with (first
                | (go_at_call 12; refine (dr_awake _ (HT.out.on HB.out) (HK.out.on HB.out)).mono ?_; rintro e w6 ⟨rfl, hb⟩; have HB := Lib.hid (below_on HB.out hb); clear hb))
              go_ret
              exact ⟨rfl, HB.out⟩
end Go.Proofs.YtdjnniohoicppaaDoor.dropEach
