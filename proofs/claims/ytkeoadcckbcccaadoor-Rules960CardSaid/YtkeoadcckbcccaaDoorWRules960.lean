/-
  The walk of Rules960.
-/
import Derived.Test.YtkeoadcckbcccaaDoorRu960
import Derived.IntWalk
import Derived.WalkKit
import Derived.OpenShut
namespace Go.Proofs.YtkeoadcckbcccaaDoor.rules960
open Go.RowKit
set_option linter.unusedVariables false
set_option linter.unusedSimpArgs false
theorem num_of (a : Int) : ∃ n : Nat, n < 960 ∧ wrap64 ((IntKind.u64.wrap a).tmod 960) = (n : Int) := by
  have h : 0 ≤ IntKind.u64.wrap a := by
    simp [IntKind.wrap, IntKind.bits, IntKind.signed]; omega
  rw [Int.tmod_eq_emod_of_nonneg h]
  exact ⟨(IntKind.u64.wrap a % 960).toNat, by omega, by rw [IntWalk.wrap64_in _ (by omega)]; omega⟩
set_option maxRecDepth 100000 in
set_option maxHeartbeats 8000000 in
theorem r960 (a b : Int) (n m : Nat) (w : World) (hn : n < 960) (hm : m < 960) (ea : wrap64 ((IntKind.u64.wrap a).tmod 960) = (n : Int)) (eb : wrap64 ((IntKind.u64.wrap b).tmod 960) = (m : Int)) (hT : TabVar w) (hK : TabKn w) :
    Calls Tryd.prog 6 #[.int .i64 a, .int .i64 b] w fun e w' => e = .returned (.bool true) ∧ Below w.heap.size w w' := by
  have HT := Lib.hid hT
  have HK := Lib.hid hK
  clear hT hK
  obtain ⟨i0, hi, hz0, hz1, hz2⟩ := info_parts infoI64
  obtain ⟨p, Hp⟩ : ∃ p, Hid (posN n = p) := ⟨_, Lib.hid rfl⟩
  obtain ⟨q, Hq⟩ : ∃ p, Hid (posN m = p) := ⟨_, Lib.hid rfl⟩
  have HWp := Lib.hid (show WfP p by rw [← Hp.out]; exact wf_posN n hn)
  have HWq := Lib.hid (show WfP q by rw [← Hq.out]; exact wf_posN m hm)
  obtain ⟨r, gi⟩ : ∃ r : Bool, ((n : Int) == (m : Int)) = r := ⟨_, rfl⟩
  have HI := Lib.hid (show r = true ↔ posA p = posA q by
    rw [← gi, ← Hp.out, ← Hq.out]
    constructor
    · intro h
      have : n = m := by simp at h; omega
      rw [this]
    · intro h
      rw [posN_inj hn hm h]; simp)
  obtain ⟨L, HLr⟩ : ∃ L, Hid (rowL n = L) := ⟨_, Lib.hid rfl⟩
  have PU := Lib.hid (show ∀ j, j < 8 → p (1 + j) = ((L.getD j 0 : Nat) : Int) by rw [← Hp.out, ← HLr.out]; exact posN_up n)
  have PLo := Lib.hid (show ∀ j, j < 8 → p (1 + (56 + j)) = ((8 + L.getD j 0 : Nat) : Int) by rw [← Hp.out, ← HLr.out]; exact posN_lo n)
  have P1 := Lib.hid (show ∀ j, j < 8 → p (1 + (8 + j)) = 1 by rw [← Hp.out]; exact posN_p1 n)
  have P9 := Lib.hid (show ∀ j, j < 8 → p (1 + (48 + j)) = 9 by rw [← Hp.out]; exact posN_p9 n)
  have PM := Lib.hid (show ∀ s, 16 ≤ s → s < 48 → p (1 + s) = 0 by rw [← Hp.out]; exact posN_mid n)
  have LK := Lib.hid (show ∀ j, j < 8 → 2 ≤ L.getD j 0 ∧ L.getD j 0 ≤ 6 by rw [← HLr.out]; exact fun j hj => row_rng n j hn hj)
  obtain ⟨r0, HUd0⟩ : ∃ e, Hid ((ixL L 4 8).getD 0 0 = e) := ⟨_, Lib.hid rfl⟩
  obtain ⟨r1, HUd1⟩ : ∃ e, Hid ((ixL L 4 8).getD 1 0 = e) := ⟨_, Lib.hid rfl⟩
  obtain ⟨s0, HVd0⟩ : ∃ e, Hid ((ixL L 3 8).getD 0 0 = e) := ⟨_, Lib.hid rfl⟩
  obtain ⟨s1, HVd1⟩ : ∃ e, Hid ((ixL L 3 8).getD 1 0 = e) := ⟨_, Lib.hid rfl⟩
  obtain ⟨kg, Hkg⟩ : ∃ e, Hid (kgZ L 8 = e) := ⟨_, Lib.hid rfl⟩
  obtain ⟨l1, l2, l3, l4⟩ := row_lists ⟨n, hn⟩
  obtain ⟨x1, x2, x3⟩ := row_king ⟨n, hn⟩
  obtain ⟨y0, y1, y2, y3⟩ := posN_rk n hn
  obtain ⟨z0, z1, z2, z3, z4, z5, z6⟩ := row_counts ⟨n, hn⟩
  simp only at l1 l2 l3 l4 x1 x2 x3 z0 z1 z2 z3 z4 z5 z6
  rw [HLr.out] at l1 l2 l3 l4 x1 x2 x3 y0 y1 y2 y3 z0 z1 z2 z3 z4 z5 z6
  have lr0 : r0 < 8 := by rw [← HUd0.out]; exact all_lt l3 (by omega)
  have lr1 : r1 < 8 := by rw [← HUd1.out]; exact all_lt l3 (by omega)
  have ls0 : s0 < 8 := by rw [← HVd0.out]; exact all_lt l4 (by omega)
  have ls1 : s1 < 8 := by rw [← HVd1.out]; exact all_lt l4 (by omega)
  rw [HUd0.out, Hkg.out] at x1
  rw [HUd1.out, Hkg.out] at x2
  rw [HVd0.out, HVd1.out] at x3
  rw [HUd1.out] at y0 y2
  rw [HUd0.out] at y1 y3
  rw [Hp.out] at y0 y1 y2 y3
  have HK1 := Lib.hid x1
  have HK2 := Lib.hid x2
  have HK3 := Lib.hid x3
  have HUn := Lib.hid l1
  have HVn := Lib.hid l2
  have HP0 := Lib.hid (part_two (.inl rfl) y0 y1)
  have HP1 := Lib.hid (part_two (.inr rfl) y2 y3)
  have HC7 := Lib.hid (show arrA 7 .i64 (fun c => cnF L c 8) = cn7 by rw [arr_seven]; simp only [z0, z1, z2, z3, z4, z5, z6]; rfl)
  clear l1 l2 l3 l4 x1 x2 x3 y0 y1 y2 y3 z0 z1 z2 z3 z4 z5 z6
  go_enter Tryd.func6, Tryd.ntmps6
  go_wp2_with fail
  rw [ea, eb]
  clear ea eb
  refine (start960_any n _ hn HT.out HK.out).mono ?_; rintro e w1 ⟨rfl, hb⟩; have HB := Lib.hid hb; clear hb
  rw [Hp.out]
  go_wp2_with (first
    | (refine step_alloc (op := ⟨some 5, _, _, _, _, _⟩) rfl rfl ?_; intro b5 wn N R; have HG5 := Lib.hid (show w.heap.size ≤ b5 by have := N.at_; have := HB.out.size; omega); have HR5 := Lib.hid R; have HB := Lib.hid (below_on HB.out N.below); clear N R)
    | (refine step_store rfl _ _ rfl b5 rfl zeroP p rfl ?_ ?_; exact HR5.out; intro w2 U R; have HR5 := Lib.hid R; have HB := Lib.hid (HB.out.trans (U.below HG5.out)); clear U R))
  refine (start960_any m _ hm (HT.out.on HB.out) (HK.out.on HB.out)).mono ?_; rintro e wn ⟨rfl, hb⟩; have HR5 := Lib.hid (HR5.out.later hb); have HB := Lib.hid (below_on HB.out hb); clear hb
  rw [Hq.out]
  go_wp2_with (first
    | (refine step_alloc (op := ⟨some 7, _, _, _, _, _⟩) rfl rfl ?_; intro b7 wn N R; have HG7 := Lib.hid (show w.heap.size ≤ b7 by have := N.at_; have := HB.out.size; omega); have HD57 := Lib.hid (show b5 ≠ b7 by have := N.at_; have := HR5.out.lt; omega); have HR5 := Lib.hid (HR5.out.later N.below); have HR7 := Lib.hid R; have HB := Lib.hid (below_on HB.out N.below); clear N R)
    | (refine step_store rfl _ _ rfl b7 rfl zeroP q rfl ?_ ?_; exact HR7.out; intro w2 U R; have HR5 := Lib.hid (HR5.out.apart U HD57.out); have HR7 := Lib.hid R; have HB := Lib.hid (HB.out.trans (U.below HG7.out)); clear U R)
    | (refine step_load rfl _ rfl b5 rfl p ?_ ?_; exact HR5.out)
    | (refine step_load rfl _ rfl b7 rfl q ?_ ?_; exact HR7.out)
    | (refine step_cmp rfl _ _ rfl p q ?_ ?_ HWp.out HWq.out r HI.out ?_; rfl; rfl)
    | (refine arr_alloc rfl 46 rfl 7 .i64 zero46 ?_; intro b9 w9 N R; have HG9 := Lib.hid (show w.heap.size ≤ b9 by have := N.at_; have := HB.out.size; omega); have HD59 := Lib.hid (show b5 ≠ b9 by have := N.at_; have := HR5.out.lt; omega); have HL5 := Lib.hid (show b5 < w9.heap.size by have := N.size; have := N.at_; have := HR5.out.lt; omega); have HL9 := Lib.hid (show b9 < w9.heap.size by have := N.size; omega); have HBB := Lib.hid (show w.heap.size ≤ w9.heap.size by have := N.size; have := HG9.out; omega); have HR5 := Lib.hid (HR5.out.later N.below); have HR9 := Lib.hid R; have HB := Lib.hid (below_on HB.out N.below); clear N R))
  clear gi
  go_loopw [10, 11, 12, 13] (fun u v kg f wr => ∃ k : Nat, k ≤ 8 ∧ f = .int .i64 (k : Int) ∧ kg = .int .i64 (kgZ L k) ∧ ListedK .i64 3 w9.heap.size (ixL L 4 k) u wr ∧ ListedK .i64 3 w9.heap.size (ixL L 3 k) v wr ∧ Asunder u v ∧ Row wr b5 p ∧ Blk wr b9 46 (arrA 7 .i64 (fun c => cnF L c k)) ∧ w9.heap.size ≤ wr.heap.size ∧ Below w.heap.size w wr) (fun _ _ _ f _ => 8 - (intOf f).toNat)
  case atStart => exact ⟨0, by omega, rfl, rfl, listedK_nil _ _ _ _, listedK_nil _ _ _ _, fun _ h _ => (by cases h), HR5.out, HR9.out, Nat.le_refl _, HB.out⟩
  case round =>
    clear HB HR5 HR9
    obtain ⟨k, hk, rfl, rfl, hu, hv, ha, h5, h9, hsz, hb⟩ := hrel
    have HU := Lib.hid hu
    have HV := Lib.hid hv
    have HA := Lib.hid ha
    have HR5 := Lib.hid h5
    have HR9 := Lib.hid h9
    have HB := Lib.hid hb
    clear hu hv ha h5 h9 hb
    by_cases hlt : k < 8
    · obtain ⟨x, Hx⟩ : ∃ x, Hid (L.getD k 0 = x) := ⟨_, Lib.hid rfl⟩
      have hxr := LK.out k hlt
      rw [Hx.out] at hxr
      obtain ⟨hx2, hx6⟩ := hxr
      have lx7 : x < 7 := by omega
      have hlen4 := ix_len L 4 k
      have hlen3 := ix_len L 3 k
      obtain ⟨f9, Hf9⟩ : ∃ f, Hid ((fun c => cnF L c k) = f) := ⟨_, Lib.hid rfl⟩
      obtain ⟨y, Hy⟩ : ∃ y, Hid (f9 x = y) := ⟨_, Lib.hid rfl⟩
      have hy := cn_rng L x k
      rw [show cnF L x k = y by rw [← Hy.out, ← Hf9.out]] at hy
      obtain ⟨hy0, hy1⟩ := hy
      have HM := Lib.hid (show ∀ c, upd f9 x (y + 1) c = cnF L c (k + 1) by
        intro c; have := cn_step Hx.out c; rw [← Hy.out, ← Hf9.out]; exact this)
      rw [Hf9.out] at HR9
      have hcm := HR9.out.at x lx7
      rw [Hy.out] at hcm
      have gx2 : decide ((x : Int) < 2) = false := decide_eq_false (by omega)
      have gx6 : decide ((6 : Int) < (x : Int)) = false := decide_eq_false (by omega)
      by_cases h4 : x = 4
      · have g4 : ((x : Int) == 4) = true := by rw [h4]; rfl
        have I4 := Lib.hid (ix_yes (L := L) (k := k) (x := 4) (by rw [Hx.out]; omega))
        have I3 := Lib.hid (ix_no (L := L) (k := k) (x := 3) (by rw [Hx.out]; omega))
        have IK := Lib.hid (kg_no (L := L) (k := k) (by rw [Hx.out]; omega))
        clear h4
        go_wp2_with (first
          | (refine step_get rfl 5 _ rfl b5 (1 + k) rfl Tryd.underlying5 rfl (.int .u8 (x : Int)) (by have h := HR5.out.cell (1 + k) (by omega); rwa [kAt_board (Nat.zero_le _) (by omega), PU.out k hlt, Hx.out] at h) ?_)
          | (refine step_get rfl 5 _ rfl b5 (1 + (56 + k)) rfl Tryd.underlying5 rfl (.int .u8 (8 + (x : Int))) (by have h := HR5.out.cell (1 + (56 + k)) (by omega); rwa [kAt_board (Nat.zero_le _) (by omega), PLo.out k hlt, Hx.out, show ((8 + x : Nat) : Int) = 8 + (x : Int) by omega] at h) ?_)
          | (refine step_get rfl 5 _ rfl b5 (1 + (8 + k)) rfl Tryd.underlying5 rfl (.int .u8 1) (by have h := HR5.out.cell (1 + (8 + k)) (by omega); rwa [kAt_board (Nat.zero_le _) (by omega), P1.out k hlt] at h) ?_)
          | (refine step_get rfl 5 _ rfl b5 (1 + (48 + k)) rfl Tryd.underlying5 rfl (.int .u8 9) (by have h := HR5.out.cell (1 + (48 + k)) (by omega); rwa [kAt_board (Nat.zero_le _) (by omega), P9.out k hlt] at h) ?_)
          | (refine arr_cell rfl 3 _ _ rfl b9 x rfl .i64 (y + 1) rfl 46 7 f9 ?_ lx7 size3 ?_; exact HR9.out; intro w2 U R; clear hcm; have HR5 := Lib.hid (HR5.out.apart U HD59.out); have HU := Lib.hid (listedK_apart HU.out U HL9.out); have HV := Lib.hid (listedK_apart HV.out U HL9.out); have hsz : w9.heap.size ≤ w2.heap.size := (by have := U.size; omega); have HR9 := Lib.hid R; have HB := Lib.hid (HB.out.trans (U.below HG9.out)); clear U R)
          | (at_builtin; refine wpList_append_own_at _ rfl _ _ 47 rfl w9.heap.size 3 i0 (.int .i64 0) 1 8 Tryd.underlying47 hi hz0 hz1 hz2 rfl (by decide) _ _ _ rfl (HU.out.alloc _) ⟨_, 0, none⟩ 1 1 [.int .i64 (k : Int)] rfl rfl ?c1 ?c2 ?c3 ?c4 ?c5 ?_))
        case c1 => exact cell_one_new _ _ _
        case c2 => simp [Value.oneCell']
        case c3 => unfold maxLen; omega
        case c4 => omega
        case c5 => simp; omega
        intro u' w3 hown' hgrow _ hnew
        obtain ⟨q1, q2, q3, q4⟩ := two_grow HU.out HV.out HA.out hsz hown' hgrow hnew
        have HR5 := Lib.hid (HR5.out.next q4 HL5.out); have HR9 := Lib.hid (HR9.out.next q4 HL9.out); have HB := Lib.hid (HB.out.trans (q4.mono HBB.out)); have hsz : w9.heap.size ≤ w3.heap.size := Nat.le_trans hsz q4.size; have HA := Lib.hid (q3); have HU := Lib.hid q1; have HV := Lib.hid q2; clear q1 q2 q3 q4 hown' hgrow hnew
        go_wp2
        go_roundw
        case rel => exact ⟨k + 1, by omega, by go_num, by rw [IK.out], by rw [I4.out]; exact HU.out, by rw [I3.out]; exact HV.out, HA.out, HR5.out, by rw [← arrA_ext fun c _ => HM.out c]; exact HR9.out, hsz, HB.out⟩
        case measure => simp [intOf]; omega
      · by_cases h3 : x = 3
        · have g4 : ((x : Int) == 4) = false := by simp; omega
          have g3 : ((x : Int) == 3) = true := by rw [h3]; rfl
          have I4 := Lib.hid (ix_no (L := L) (k := k) (x := 4) (by rw [Hx.out]; omega))
          have I3 := Lib.hid (ix_yes (L := L) (k := k) (x := 3) (by rw [Hx.out]; omega))
          have IK := Lib.hid (kg_no (L := L) (k := k) (by rw [Hx.out]; omega))
          clear h4 h3
          go_wp2_with (first
            | (refine step_get rfl 5 _ rfl b5 (1 + k) rfl Tryd.underlying5 rfl (.int .u8 (x : Int)) (by have h := HR5.out.cell (1 + k) (by omega); rwa [kAt_board (Nat.zero_le _) (by omega), PU.out k hlt, Hx.out] at h) ?_)
            | (refine step_get rfl 5 _ rfl b5 (1 + (56 + k)) rfl Tryd.underlying5 rfl (.int .u8 (8 + (x : Int))) (by have h := HR5.out.cell (1 + (56 + k)) (by omega); rwa [kAt_board (Nat.zero_le _) (by omega), PLo.out k hlt, Hx.out, show ((8 + x : Nat) : Int) = 8 + (x : Int) by omega] at h) ?_)
            | (refine step_get rfl 5 _ rfl b5 (1 + (8 + k)) rfl Tryd.underlying5 rfl (.int .u8 1) (by have h := HR5.out.cell (1 + (8 + k)) (by omega); rwa [kAt_board (Nat.zero_le _) (by omega), P1.out k hlt] at h) ?_)
            | (refine step_get rfl 5 _ rfl b5 (1 + (48 + k)) rfl Tryd.underlying5 rfl (.int .u8 9) (by have h := HR5.out.cell (1 + (48 + k)) (by omega); rwa [kAt_board (Nat.zero_le _) (by omega), P9.out k hlt] at h) ?_)
            | (refine arr_cell rfl 3 _ _ rfl b9 x rfl .i64 (y + 1) rfl 46 7 f9 ?_ lx7 size3 ?_; exact HR9.out; intro w2 U R; clear hcm; have HR5 := Lib.hid (HR5.out.apart U HD59.out); have HU := Lib.hid (listedK_apart HU.out U HL9.out); have HV := Lib.hid (listedK_apart HV.out U HL9.out); have hsz : w9.heap.size ≤ w2.heap.size := (by have := U.size; omega); have HR9 := Lib.hid R; have HB := Lib.hid (HB.out.trans (U.below HG9.out)); clear U R)
            | (at_builtin; refine wpList_append_own_at _ rfl _ _ 47 rfl w9.heap.size 3 i0 (.int .i64 0) 1 8 Tryd.underlying47 hi hz0 hz1 hz2 rfl (by decide) _ _ _ rfl (HV.out.alloc _) ⟨_, 0, none⟩ 1 1 [.int .i64 (k : Int)] rfl rfl ?c1 ?c2 ?c3 ?c4 ?c5 ?_))
          case c1 => exact cell_one_new _ _ _
          case c2 => simp [Value.oneCell']
          case c3 => unfold maxLen; omega
          case c4 => omega
          case c5 => simp; omega
          intro u' w3 hown' hgrow _ hnew
          obtain ⟨q1, q2, q3, q4⟩ := two_grow HV.out HU.out HA.out.symm hsz hown' hgrow hnew
          have HR5 := Lib.hid (HR5.out.next q4 HL5.out); have HR9 := Lib.hid (HR9.out.next q4 HL9.out); have HB := Lib.hid (HB.out.trans (q4.mono HBB.out)); have hsz : w9.heap.size ≤ w3.heap.size := Nat.le_trans hsz q4.size; have HA := Lib.hid (Asunder.symm q3); have HV := Lib.hid q1; have HU := Lib.hid q2; clear q1 q2 q3 q4 hown' hgrow hnew
          go_wp2
          go_roundw
          case rel => exact ⟨k + 1, by omega, by go_num, by rw [IK.out], by rw [I4.out]; exact HU.out, by rw [I3.out]; exact HV.out, HA.out, HR5.out, by rw [← arrA_ext fun c _ => HM.out c]; exact HR9.out, hsz, HB.out⟩
          case measure => simp [intOf]; omega
        · by_cases h6 : x = 6
          · have g4 : ((x : Int) == 4) = false := by simp; omega
            have g3 : ((x : Int) == 3) = false := by simp; omega
            have g6 : ((x : Int) == 6) = true := by rw [h6]; rfl
            have I4 := Lib.hid (ix_no (L := L) (k := k) (x := 4) (by rw [Hx.out]; omega))
            have I3 := Lib.hid (ix_no (L := L) (k := k) (x := 3) (by rw [Hx.out]; omega))
            have IK := Lib.hid (kg_yes (L := L) (k := k) (by rw [Hx.out]; omega))
            clear h4 h3 h6
            go_wp2_with (first
              | (refine step_get rfl 5 _ rfl b5 (1 + k) rfl Tryd.underlying5 rfl (.int .u8 (x : Int)) (by have h := HR5.out.cell (1 + k) (by omega); rwa [kAt_board (Nat.zero_le _) (by omega), PU.out k hlt, Hx.out] at h) ?_)
              | (refine step_get rfl 5 _ rfl b5 (1 + (56 + k)) rfl Tryd.underlying5 rfl (.int .u8 (8 + (x : Int))) (by have h := HR5.out.cell (1 + (56 + k)) (by omega); rwa [kAt_board (Nat.zero_le _) (by omega), PLo.out k hlt, Hx.out, show ((8 + x : Nat) : Int) = 8 + (x : Int) by omega] at h) ?_)
              | (refine step_get rfl 5 _ rfl b5 (1 + (8 + k)) rfl Tryd.underlying5 rfl (.int .u8 1) (by have h := HR5.out.cell (1 + (8 + k)) (by omega); rwa [kAt_board (Nat.zero_le _) (by omega), P1.out k hlt] at h) ?_)
              | (refine step_get rfl 5 _ rfl b5 (1 + (48 + k)) rfl Tryd.underlying5 rfl (.int .u8 9) (by have h := HR5.out.cell (1 + (48 + k)) (by omega); rwa [kAt_board (Nat.zero_le _) (by omega), P9.out k hlt] at h) ?_)
              | (refine arr_cell rfl 3 _ _ rfl b9 x rfl .i64 (y + 1) rfl 46 7 f9 ?_ lx7 size3 ?_; exact HR9.out; intro w2 U R; clear hcm; have HR5 := Lib.hid (HR5.out.apart U HD59.out); have HU := Lib.hid (listedK_apart HU.out U HL9.out); have HV := Lib.hid (listedK_apart HV.out U HL9.out); have hsz : w9.heap.size ≤ w2.heap.size := (by have := U.size; omega); have HR9 := Lib.hid R; have HB := Lib.hid (HB.out.trans (U.below HG9.out)); clear U R))
            go_roundw
            case rel => exact ⟨k + 1, by omega, by go_num, by rw [IK.out], by rw [I4.out]; exact HU.out, by rw [I3.out]; exact HV.out, HA.out, HR5.out, by rw [← arrA_ext fun c _ => HM.out c]; exact HR9.out, hsz, HB.out⟩
            case measure => simp [intOf]; omega
          · have g4 : ((x : Int) == 4) = false := by simp; omega
            have g3 : ((x : Int) == 3) = false := by simp; omega
            have g6 : ((x : Int) == 6) = false := by simp; omega
            have I4 := Lib.hid (ix_no (L := L) (k := k) (x := 4) (by rw [Hx.out]; omega))
            have I3 := Lib.hid (ix_no (L := L) (k := k) (x := 3) (by rw [Hx.out]; omega))
            have IK := Lib.hid (kg_no (L := L) (k := k) (by rw [Hx.out]; omega))
            clear h4 h3 h6
            go_wp2_with (first
              | (refine step_get rfl 5 _ rfl b5 (1 + k) rfl Tryd.underlying5 rfl (.int .u8 (x : Int)) (by have h := HR5.out.cell (1 + k) (by omega); rwa [kAt_board (Nat.zero_le _) (by omega), PU.out k hlt, Hx.out] at h) ?_)
              | (refine step_get rfl 5 _ rfl b5 (1 + (56 + k)) rfl Tryd.underlying5 rfl (.int .u8 (8 + (x : Int))) (by have h := HR5.out.cell (1 + (56 + k)) (by omega); rwa [kAt_board (Nat.zero_le _) (by omega), PLo.out k hlt, Hx.out, show ((8 + x : Nat) : Int) = 8 + (x : Int) by omega] at h) ?_)
              | (refine step_get rfl 5 _ rfl b5 (1 + (8 + k)) rfl Tryd.underlying5 rfl (.int .u8 1) (by have h := HR5.out.cell (1 + (8 + k)) (by omega); rwa [kAt_board (Nat.zero_le _) (by omega), P1.out k hlt] at h) ?_)
              | (refine step_get rfl 5 _ rfl b5 (1 + (48 + k)) rfl Tryd.underlying5 rfl (.int .u8 9) (by have h := HR5.out.cell (1 + (48 + k)) (by omega); rwa [kAt_board (Nat.zero_le _) (by omega), P9.out k hlt] at h) ?_)
              | (refine arr_cell rfl 3 _ _ rfl b9 x rfl .i64 (y + 1) rfl 46 7 f9 ?_ lx7 size3 ?_; exact HR9.out; intro w2 U R; clear hcm; have HR5 := Lib.hid (HR5.out.apart U HD59.out); have HU := Lib.hid (listedK_apart HU.out U HL9.out); have HV := Lib.hid (listedK_apart HV.out U HL9.out); have hsz : w9.heap.size ≤ w2.heap.size := (by have := U.size; omega); have HR9 := Lib.hid R; have HB := Lib.hid (HB.out.trans (U.below HG9.out)); clear U R))
            go_roundw
            case rel => exact ⟨k + 1, by omega, by go_num, by rw [IK.out], by rw [I4.out]; exact HU.out, by rw [I3.out]; exact HV.out, HA.out, HR5.out, by rw [← arrA_ext fun c _ => HM.out c]; exact HR9.out, hsz, HB.out⟩
            case measure => simp [intOf]; omega
    · obtain rfl : k = 8 := by omega
      obtain ⟨g10, c10, x10, L0⟩ := listedK_open HU.out (by rw [HUn.out]; omega)
      obtain rfl := L0.val
      have HU := Lib.hid L0.zero
      clear L0
      obtain ⟨g11, c11, x11, L0⟩ := listedK_open HV.out (by rw [HVn.out]; omega)
      obtain rfl := L0.val
      have HV := Lib.hid L0.zero
      clear L0
      rw [HC7.out] at HR9
      rw [HUn.out, HVn.out, Hkg.out, show ((8 : Nat) : Int) = 8 from rfl]
      go_wp2_with fail
      go_loopw [15] (fun s wr => ∃ k : Nat, 16 ≤ k ∧ k ≤ 48 ∧ s = .int .i64 (k : Int) ∧ Row wr b5 p ∧ Blk wr b9 46 cn7 ∧ Lies .i64 3 0 (ixL L 4 8) (.slice (some ⟨g10, 0, none⟩) (ixL L 4 8).length c10) g10 c10 x10 wr ∧ Lies .i64 3 0 (ixL L 3 8) (.slice (some ⟨g11, 0, none⟩) (ixL L 3 8).length c11) g11 c11 x11 wr ∧ Below w.heap.size w wr) (fun s _ => 48 - (intOf s).toNat)
      case atStart => exact ⟨16, by omega, by omega, rfl, HR5.out, HR9.out, HU.out, HV.out, HB.out⟩
      case round =>
        clear HB HR5 HR9 HU HV hsz
        obtain ⟨k, hk0, hk, rfl, h5, h9, hu, hv, hb⟩ := hrel
        have HR5 := Lib.hid h5
        have HR9 := Lib.hid h9
        have HU := Lib.hid hu
        have HV := Lib.hid hv
        have HB := Lib.hid hb
        clear h5 h9 hu hv hb
        by_cases hlt : k < 48
        · have hc := HR5.out.cell (1 + k) (by omega)
          rw [kAt_board (Nat.zero_le _) (by omega), PM.out k hk0 hlt] at hc
          go_wp2_with fail
          clear hc
          go_roundw
          case rel => exact ⟨k + 1, by omega, by omega, by go_num, HR5.out, HR9.out, HU.out, HV.out, HB.out⟩
          case measure => simp [intOf]; omega
        · obtain rfl : k = 48 := by omega
          rw [show ((48 : Nat) : Int) = 48 from rfl]
          have q1 := HK1.out
          have q2 := HK2.out
          have q3 := HK3.out
          have q4 : IntKind.i64.wrap ((s0 : Int) + (s1 : Int)) = (s0 : Int) + (s1 : Int) := IntWalk.i64_in _ (by omega)
          have q5 : ((s0 : Int) + (s1 : Int)).tmod 2 = ((s0 : Int) + (s1 : Int)) % 2 := Int.tmod_eq_emod_of_nonneg (by omega)
          go_wp2_with fail
          refine late_begin 28 (by kernel_rfl) ?_
          refine late_take 0 (by kernel_rfl) (by kernel_rfl) (by kernel_rfl) (by kernel_rfl) (by kernel_rfl) (fun _ _ d _ _ h => by cases d <;> exact h) (fun o ho => ?_)
          simp only [List.getElem?_toArray, List.getElem?_cons_zero, List.getElem?_cons_succ, Option.some.injEq] at ho; subst ho
          refine ⟨.agg cn7, Or.inl ⟨by kernel_rfl, fun w' hl => Or.inl (run_blk 46 _ rfl b9 rfl cn7 (HR9.out.later hl) _ Tryd.underlying46 rfl size46)⟩, ?_⟩
          simp only [Act.put, List.setIfInBounds_toArray, List.set_cons_zero, List.set_cons_succ]
          refine late_take 1 (by kernel_rfl) (by kernel_rfl) (by kernel_rfl) (by kernel_rfl) (by kernel_rfl) (fun _ _ d _ _ h => by cases d <;> exact h) (fun o ho => ?_)
          simp only [List.getElem?_toArray, List.getElem?_cons_zero, List.getElem?_cons_succ, Option.some.injEq] at ho; subst ho
          refine ⟨.agg cn7, Or.inl ⟨by kernel_rfl, fun w' hl => Or.inl (run_built 46 _ rfl cn7 (by kernel_rfl))⟩, ?_⟩
          simp only [Act.put, List.setIfInBounds_toArray, List.set_cons_zero, List.set_cons_succ]
          refine late_take 2 (by kernel_rfl) (by kernel_rfl) (by kernel_rfl) (by kernel_rfl) (by kernel_rfl) (fun _ _ d _ _ h => by cases d <;> exact h) (fun o ho => ?_)
          simp only [List.getElem?_toArray, List.getElem?_cons_zero, List.getElem?_cons_succ, Option.some.injEq] at ho; subst ho
          refine ⟨.bool false, Or.inl ⟨by kernel_rfl, fun w' hl => Or.inl (run_neqA 46 _ _ rfl cn7 rfl rfl guard46 2 (by kernel_rfl) (by decide) (by kernel_rfl) (by kernel_rfl))⟩, ?_⟩
          simp only [Act.put, List.setIfInBounds_toArray, List.set_cons_zero, List.set_cons_succ]
          refine late_take 3 (by kernel_rfl) (by kernel_rfl) (by kernel_rfl) (by kernel_rfl) (by kernel_rfl) (fun _ _ d _ _ h => by cases d <;> exact h) (fun o ho => ?_)
          simp only [List.getElem?_toArray, List.getElem?_cons_zero, List.getElem?_cons_succ, Option.some.injEq] at ho; subst ho
          apply Exists.intro
          refine ⟨Or.inl ⟨by kernel_rfl, fun w' hl => Or.inl ?_⟩, ?_⟩
          · (go_simp; try with_reducible rfl)
          simp only [Act.put, List.setIfInBounds_toArray, List.set_cons_zero, List.set_cons_succ]
          refine late_take 4 (by kernel_rfl) (by kernel_rfl) (by kernel_rfl) (by kernel_rfl) (by kernel_rfl) (fun _ _ d _ _ h => by cases d <;> exact h) (fun o ho => ?_)
          simp only [List.getElem?_toArray, List.getElem?_cons_zero, List.getElem?_cons_succ, Option.some.injEq] at ho; subst ho
          apply Exists.intro
          refine ⟨Or.inl ⟨by kernel_rfl, fun w' hl => Or.inl ?_⟩, ?_⟩
          · (go_simp; try with_reducible rfl)
          simp only [Act.put, List.setIfInBounds_toArray, List.set_cons_zero, List.set_cons_succ]
          refine late_take 5 (by kernel_rfl) (by kernel_rfl) (by kernel_rfl) (by kernel_rfl) (by kernel_rfl) (fun _ _ d _ _ h => by cases d <;> exact h) (fun o ho => ?_)
          simp only [List.getElem?_toArray, List.getElem?_cons_zero, List.getElem?_cons_succ, Option.some.injEq] at ho; subst ho
          apply Exists.intro
          refine ⟨Or.inl ⟨by kernel_rfl, fun w' hl => Or.inl ?_⟩, ?_⟩
          · (go_simp; try with_reducible rfl)
          simp only [Act.put, List.setIfInBounds_toArray, List.set_cons_zero, List.set_cons_succ]
          refine late_take 6 (by kernel_rfl) (by kernel_rfl) (by kernel_rfl) (by kernel_rfl) (by kernel_rfl) (fun _ _ d _ _ h => by cases d <;> exact h) (fun o ho => ?_)
          simp only [List.getElem?_toArray, List.getElem?_cons_zero, List.getElem?_cons_succ, Option.some.injEq] at ho; subst ho
          refine ⟨.int .i64 (r0 : Int), Or.inl ⟨by kernel_rfl, fun w' hl => Or.inl (run_get 3 _ rfl g10 0 rfl Tryd.underlying3 rfl _ (lies_at (HU.out.later hl) 0 r0 (by rw [HUn.out]; omega) HUd0.out))⟩, ?_⟩
          simp only [Act.put, List.setIfInBounds_toArray, List.set_cons_zero, List.set_cons_succ]
          refine late_take 7 (by kernel_rfl) (by kernel_rfl) (by kernel_rfl) (by kernel_rfl) (by kernel_rfl) (fun _ _ d _ _ h => by cases d <;> exact h) (fun o ho => ?_)
          simp only [List.getElem?_toArray, List.getElem?_cons_zero, List.getElem?_cons_succ, Option.some.injEq] at ho; subst ho
          apply Exists.intro
          refine ⟨Or.inl ⟨by kernel_rfl, fun w' hl => Or.inl ?_⟩, ?_⟩
          · (go_simp; try with_reducible rfl)
          simp only [Act.put, List.setIfInBounds_toArray, List.set_cons_zero, List.set_cons_succ]
          refine late_take 8 (by kernel_rfl) (by kernel_rfl) (by kernel_rfl) (by kernel_rfl) (by kernel_rfl) (fun _ _ d _ _ h => by cases d <;> exact h) (fun o ho => ?_)
          simp only [List.getElem?_toArray, List.getElem?_cons_zero, List.getElem?_cons_succ, Option.some.injEq] at ho; subst ho
          apply Exists.intro
          refine ⟨Or.inl ⟨by kernel_rfl, fun w' hl => Or.inl ?_⟩, ?_⟩
          · (go_simp; try with_reducible rfl)
          simp only [Act.put, List.setIfInBounds_toArray, List.set_cons_zero, List.set_cons_succ]
          refine late_take 9 (by kernel_rfl) (by kernel_rfl) (by kernel_rfl) (by kernel_rfl) (by kernel_rfl) (fun _ _ d _ _ h => by cases d <;> exact h) (fun o ho => ?_)
          simp only [List.getElem?_toArray, List.getElem?_cons_zero, List.getElem?_cons_succ, Option.some.injEq] at ho; subst ho
          apply Exists.intro
          refine ⟨Or.inl ⟨by kernel_rfl, fun w' hl => Or.inl ?_⟩, ?_⟩
          · (go_simp; try with_reducible rfl)
          simp only [Act.put, List.setIfInBounds_toArray, List.set_cons_zero, List.set_cons_succ]
          refine late_take 10 (by kernel_rfl) (by kernel_rfl) (by kernel_rfl) (by kernel_rfl) (by kernel_rfl) (fun _ _ d _ _ h => by cases d <;> exact h) (fun o ho => ?_)
          simp only [List.getElem?_toArray, List.getElem?_cons_zero, List.getElem?_cons_succ, Option.some.injEq] at ho; subst ho
          apply Exists.intro
          refine ⟨Or.inl ⟨by kernel_rfl, fun w' hl => Or.inl ?_⟩, ?_⟩
          · (go_simp; try with_reducible rfl)
          simp only [Act.put, List.setIfInBounds_toArray, List.set_cons_zero, List.set_cons_succ]
          refine late_take 11 (by kernel_rfl) (by kernel_rfl) (by kernel_rfl) (by kernel_rfl) (by kernel_rfl) (fun _ _ d _ _ h => by cases d <;> exact h) (fun o ho => ?_)
          simp only [List.getElem?_toArray, List.getElem?_cons_zero, List.getElem?_cons_succ, Option.some.injEq] at ho; subst ho
          apply Exists.intro
          refine ⟨Or.inl ⟨by kernel_rfl, fun w' hl => Or.inl ?_⟩, ?_⟩
          · (go_simp; try with_reducible rfl)
          simp only [Act.put, List.setIfInBounds_toArray, List.set_cons_zero, List.set_cons_succ]
          refine late_take 12 (by kernel_rfl) (by kernel_rfl) (by kernel_rfl) (by kernel_rfl) (by kernel_rfl) (fun _ _ d _ _ h => by cases d <;> exact h) (fun o ho => ?_)
          simp only [List.getElem?_toArray, List.getElem?_cons_zero, List.getElem?_cons_succ, Option.some.injEq] at ho; subst ho
          apply Exists.intro
          refine ⟨Or.inl ⟨by kernel_rfl, fun w' hl => Or.inl ?_⟩, ?_⟩
          · (go_simp; try with_reducible rfl)
          simp only [Act.put, List.setIfInBounds_toArray, List.set_cons_zero, List.set_cons_succ]
          refine late_take 13 (by kernel_rfl) (by kernel_rfl) (by kernel_rfl) (by kernel_rfl) (by kernel_rfl) (fun _ _ d _ _ h => by cases d <;> exact h) (fun o ho => ?_)
          simp only [List.getElem?_toArray, List.getElem?_cons_zero, List.getElem?_cons_succ, Option.some.injEq] at ho; subst ho
          refine ⟨.int .i64 (r1 : Int), Or.inl ⟨by kernel_rfl, fun w' hl => Or.inl (run_get 3 _ rfl g10 1 rfl Tryd.underlying3 rfl _ (lies_at (HU.out.later hl) 1 r1 (by rw [HUn.out]; omega) HUd1.out))⟩, ?_⟩
          simp only [Act.put, List.setIfInBounds_toArray, List.set_cons_zero, List.set_cons_succ]
          refine late_take 14 (by kernel_rfl) (by kernel_rfl) (by kernel_rfl) (by kernel_rfl) (by kernel_rfl) (fun _ _ d _ _ h => by cases d <;> exact h) (fun o ho => ?_)
          simp only [List.getElem?_toArray, List.getElem?_cons_zero, List.getElem?_cons_succ, Option.some.injEq] at ho; subst ho
          apply Exists.intro
          refine ⟨Or.inl ⟨by kernel_rfl, fun w' hl => Or.inl ?_⟩, ?_⟩
          · (go_simp; try with_reducible rfl)
          simp only [Act.put, List.setIfInBounds_toArray, List.set_cons_zero, List.set_cons_succ]
          refine late_take 15 (by kernel_rfl) (by kernel_rfl) (by kernel_rfl) (by kernel_rfl) (by kernel_rfl) (fun _ _ d _ _ h => by cases d <;> exact h) (fun o ho => ?_)
          simp only [List.getElem?_toArray, List.getElem?_cons_zero, List.getElem?_cons_succ, Option.some.injEq] at ho; subst ho
          apply Exists.intro
          refine ⟨Or.inl ⟨by kernel_rfl, fun w' hl => Or.inl ?_⟩, ?_⟩
          · (go_simp; try with_reducible rfl)
          simp only [Act.put, List.setIfInBounds_toArray, List.set_cons_zero, List.set_cons_succ]
          refine late_take 16 (by kernel_rfl) (by kernel_rfl) (by kernel_rfl) (by kernel_rfl) (by kernel_rfl) (fun _ _ d _ _ h => by cases d <;> exact h) (fun o ho => ?_)
          simp only [List.getElem?_toArray, List.getElem?_cons_zero, List.getElem?_cons_succ, Option.some.injEq] at ho; subst ho
          apply Exists.intro
          refine ⟨Or.inl ⟨by kernel_rfl, fun w' hl => Or.inl ?_⟩, ?_⟩
          · (go_simp; try with_reducible rfl)
          simp only [Act.put, List.setIfInBounds_toArray, List.set_cons_zero, List.set_cons_succ]
          refine late_take 17 (by kernel_rfl) (by kernel_rfl) (by kernel_rfl) (by kernel_rfl) (by kernel_rfl) (fun _ _ d _ _ h => by cases d <;> exact h) (fun o ho => ?_)
          simp only [List.getElem?_toArray, List.getElem?_cons_zero, List.getElem?_cons_succ, Option.some.injEq] at ho; subst ho
          apply Exists.intro
          refine ⟨Or.inl ⟨by kernel_rfl, fun w' hl => Or.inl ?_⟩, ?_⟩
          · (go_simp; try with_reducible rfl)
          simp only [Act.put, List.setIfInBounds_toArray, List.set_cons_zero, List.set_cons_succ]
          refine late_take 18 (by kernel_rfl) (by kernel_rfl) (by kernel_rfl) (by kernel_rfl) (by kernel_rfl) (fun _ _ d _ _ h => by cases d <;> exact h) (fun o ho => ?_)
          simp only [List.getElem?_toArray, List.getElem?_cons_zero, List.getElem?_cons_succ, Option.some.injEq] at ho; subst ho
          apply Exists.intro
          refine ⟨Or.inl ⟨by kernel_rfl, fun w' hl => Or.inl ?_⟩, ?_⟩
          · (go_simp; try with_reducible rfl)
          simp only [Act.put, List.setIfInBounds_toArray, List.set_cons_zero, List.set_cons_succ]
          refine late_take 19 (by kernel_rfl) (by kernel_rfl) (by kernel_rfl) (by kernel_rfl) (by kernel_rfl) (fun _ _ d _ _ h => by cases d <;> exact h) (fun o ho => ?_)
          simp only [List.getElem?_toArray, List.getElem?_cons_zero, List.getElem?_cons_succ, Option.some.injEq] at ho; subst ho
          apply Exists.intro
          refine ⟨Or.inl ⟨by kernel_rfl, fun w' hl => Or.inl ?_⟩, ?_⟩
          · (go_simp; try with_reducible rfl)
          simp only [Act.put, List.setIfInBounds_toArray, List.set_cons_zero, List.set_cons_succ]
          refine late_take 20 (by kernel_rfl) (by kernel_rfl) (by kernel_rfl) (by kernel_rfl) (by kernel_rfl) (fun _ _ d _ _ h => by cases d <;> exact h) (fun o ho => ?_)
          simp only [List.getElem?_toArray, List.getElem?_cons_zero, List.getElem?_cons_succ, Option.some.injEq] at ho; subst ho
          refine ⟨.int .i64 (s0 : Int), Or.inl ⟨by kernel_rfl, fun w' hl => Or.inl (run_get 3 _ rfl g11 0 rfl Tryd.underlying3 rfl _ (lies_at (HV.out.later hl) 0 s0 (by rw [HVn.out]; omega) HVd0.out))⟩, ?_⟩
          simp only [Act.put, List.setIfInBounds_toArray, List.set_cons_zero, List.set_cons_succ]
          refine late_take 21 (by kernel_rfl) (by kernel_rfl) (by kernel_rfl) (by kernel_rfl) (by kernel_rfl) (fun _ _ d _ _ h => by cases d <;> exact h) (fun o ho => ?_)
          simp only [List.getElem?_toArray, List.getElem?_cons_zero, List.getElem?_cons_succ, Option.some.injEq] at ho; subst ho
          apply Exists.intro
          refine ⟨Or.inl ⟨by kernel_rfl, fun w' hl => Or.inl ?_⟩, ?_⟩
          · (go_simp; try with_reducible rfl)
          simp only [Act.put, List.setIfInBounds_toArray, List.set_cons_zero, List.set_cons_succ]
          refine late_take 22 (by kernel_rfl) (by kernel_rfl) (by kernel_rfl) (by kernel_rfl) (by kernel_rfl) (fun _ _ d _ _ h => by cases d <;> exact h) (fun o ho => ?_)
          simp only [List.getElem?_toArray, List.getElem?_cons_zero, List.getElem?_cons_succ, Option.some.injEq] at ho; subst ho
          apply Exists.intro
          refine ⟨Or.inl ⟨by kernel_rfl, fun w' hl => Or.inl ?_⟩, ?_⟩
          · (go_simp; try with_reducible rfl)
          simp only [Act.put, List.setIfInBounds_toArray, List.set_cons_zero, List.set_cons_succ]
          refine late_take 23 (by kernel_rfl) (by kernel_rfl) (by kernel_rfl) (by kernel_rfl) (by kernel_rfl) (fun _ _ d _ _ h => by cases d <;> exact h) (fun o ho => ?_)
          simp only [List.getElem?_toArray, List.getElem?_cons_zero, List.getElem?_cons_succ, Option.some.injEq] at ho; subst ho
          refine ⟨.int .i64 (s1 : Int), Or.inl ⟨by kernel_rfl, fun w' hl => Or.inl (run_get 3 _ rfl g11 1 rfl Tryd.underlying3 rfl _ (lies_at (HV.out.later hl) 1 s1 (by rw [HVn.out]; omega) HVd1.out))⟩, ?_⟩
          simp only [Act.put, List.setIfInBounds_toArray, List.set_cons_zero, List.set_cons_succ]
          refine late_take 24 (by kernel_rfl) (by kernel_rfl) (by kernel_rfl) (by kernel_rfl) (by kernel_rfl) (fun _ _ d _ _ h => by cases d <;> exact h) (fun o ho => ?_)
          simp only [List.getElem?_toArray, List.getElem?_cons_zero, List.getElem?_cons_succ, Option.some.injEq] at ho; subst ho
          apply Exists.intro
          refine ⟨Or.inl ⟨by kernel_rfl, fun w' hl => Or.inl ?_⟩, ?_⟩
          · (go_simp; try with_reducible rfl)
          simp only [Act.put, List.setIfInBounds_toArray, List.set_cons_zero, List.set_cons_succ]
          refine late_take 25 (by kernel_rfl) (by kernel_rfl) (by kernel_rfl) (by kernel_rfl) (by kernel_rfl) (fun _ _ d _ _ h => by cases d <;> exact h) (fun o ho => ?_)
          simp only [List.getElem?_toArray, List.getElem?_cons_zero, List.getElem?_cons_succ, Option.some.injEq] at ho; subst ho
          apply Exists.intro
          refine ⟨Or.inl ⟨by kernel_rfl, fun w' hl => Or.inl ?_⟩, ?_⟩
          · (go_simp; try with_reducible rfl)
          simp only [Act.put, List.setIfInBounds_toArray, List.set_cons_zero, List.set_cons_succ]
          refine late_take 26 (by kernel_rfl) (by kernel_rfl) (by kernel_rfl) (by kernel_rfl) (by kernel_rfl) (fun _ _ d _ _ h => by cases d <;> exact h) (fun o ho => ?_)
          simp only [List.getElem?_toArray, List.getElem?_cons_zero, List.getElem?_cons_succ, Option.some.injEq] at ho; subst ho
          apply Exists.intro
          refine ⟨Or.inl ⟨by kernel_rfl, fun w' hl => Or.inl ?_⟩, ?_⟩
          · (go_simp; try with_reducible rfl)
          simp only [Act.put, List.setIfInBounds_toArray, List.set_cons_zero, List.set_cons_succ]
          refine late_take 27 (by kernel_rfl) (by kernel_rfl) (by kernel_rfl) (by kernel_rfl) (by kernel_rfl) (fun _ _ d _ _ h => by cases d <;> exact h) (fun o ho => ?_)
          simp only [List.getElem?_toArray, List.getElem?_cons_zero, List.getElem?_cons_succ, Option.some.injEq] at ho; subst ho
          apply Exists.intro
          refine ⟨Or.inl ⟨by kernel_rfl, fun w' hl => Or.inl ?_⟩, ?_⟩
          · (go_simp; try with_reducible rfl)
          simp only [Act.put, List.setIfInBounds_toArray, List.set_cons_zero, List.set_cons_succ]
          refine late_end (by kernel_rfl) (fun wn hl => ?_)
          have HR5 := Lib.hid (HR5.out.later hl); have HR9 := Lib.hid (HR9.out.later hl); have HU := Lib.hid (HU.out.later hl); have HV := Lib.hid (HV.out.later hl); have HB := Lib.hid (below_on HB.out hl); clear hl
          clear q1 q2 q3 q4 q5
          go_wp2_with fail
          have hw0 : IntKind.i8.wrap (r0 : Int) = (r0 : Int) := IntWalk.i8_in _ (by omega)
          have hw1 : IntKind.i8.wrap (r1 : Int) = (r1 : Int) := IntWalk.i8_in _ (by omega)
          refine late_begin 10 (by kernel_rfl) ?_
          refine late_take 0 (by kernel_rfl) (by kernel_rfl) (by kernel_rfl) (by kernel_rfl) (by kernel_rfl) (fun _ _ d _ _ h => by cases d <;> exact h) (fun o ho => ?_)
          simp only [List.getElem?_toArray, List.getElem?_cons_zero, List.getElem?_cons_succ, Option.some.injEq] at ho; subst ho
          apply Exists.intro
          refine ⟨Or.inl ⟨by kernel_rfl, fun w' hl => Or.inl ?_⟩, ?_⟩
          · (go_simp; try with_reducible rfl)
          simp only [Act.put, List.setIfInBounds_toArray, List.set_cons_zero, List.set_cons_succ]
          refine late_take 1 (by kernel_rfl) (by kernel_rfl) (by kernel_rfl) (by kernel_rfl) (by kernel_rfl) (fun _ _ d _ _ h => by cases d <;> exact h) (fun o ho => ?_)
          simp only [List.getElem?_toArray, List.getElem?_cons_zero, List.getElem?_cons_succ, Option.some.injEq] at ho; subst ho
          apply Exists.intro
          refine ⟨Or.inl ⟨by kernel_rfl, fun w' hl => Or.inl ?_⟩, ?_⟩
          · (go_simp; try with_reducible rfl)
          simp only [Act.put, List.setIfInBounds_toArray, List.set_cons_zero, List.set_cons_succ]
          refine late_take 2 (by kernel_rfl) (by kernel_rfl) (by kernel_rfl) (by kernel_rfl) (by kernel_rfl) (fun _ _ d _ _ h => by cases d <;> exact h) (fun o ho => ?_)
          simp only [List.getElem?_toArray, List.getElem?_cons_zero, List.getElem?_cons_succ, Option.some.injEq] at ho; subst ho
          refine ⟨.int .i64 (r1 : Int), Or.inl ⟨by kernel_rfl, fun w' hl => Or.inl (run_get 3 _ rfl g10 1 rfl Tryd.underlying3 rfl _ (lies_at (HU.out.later hl) 1 r1 (by rw [HUn.out]; omega) HUd1.out))⟩, ?_⟩
          simp only [Act.put, List.setIfInBounds_toArray, List.set_cons_zero, List.set_cons_succ]
          refine late_take 3 (by kernel_rfl) (by kernel_rfl) (by kernel_rfl) (by kernel_rfl) (by kernel_rfl) (fun _ _ d _ _ h => by cases d <;> exact h) (fun o ho => ?_)
          simp only [List.getElem?_toArray, List.getElem?_cons_zero, List.getElem?_cons_succ, Option.some.injEq] at ho; subst ho
          apply Exists.intro
          refine ⟨Or.inl ⟨by kernel_rfl, fun w' hl => Or.inl ?_⟩, ?_⟩
          · (go_simp; try with_reducible rfl)
          simp only [Act.put, List.setIfInBounds_toArray, List.set_cons_zero, List.set_cons_succ]
          refine late_take 4 (by kernel_rfl) (by kernel_rfl) (by kernel_rfl) (by kernel_rfl) (by kernel_rfl) (fun _ _ d _ _ h => by cases d <;> exact h) (fun o ho => ?_)
          simp only [List.getElem?_toArray, List.getElem?_cons_zero, List.getElem?_cons_succ, Option.some.injEq] at ho; subst ho
          apply Exists.intro
          refine ⟨Or.inl ⟨by kernel_rfl, fun w' hl => Or.inl ?_⟩, ?_⟩
          · (go_simp; try with_reducible rfl)
          simp only [Act.put, List.setIfInBounds_toArray, List.set_cons_zero, List.set_cons_succ]
          refine late_take 5 (by kernel_rfl) (by kernel_rfl) (by kernel_rfl) (by kernel_rfl) (by kernel_rfl) (fun _ _ d _ _ h => by cases d <;> exact h) (fun o ho => ?_)
          simp only [List.getElem?_toArray, List.getElem?_cons_zero, List.getElem?_cons_succ, Option.some.injEq] at ho; subst ho
          apply Exists.intro
          refine ⟨Or.inl ⟨by kernel_rfl, fun w' hl => Or.inl ?_⟩, ?_⟩
          · (go_simp; try with_reducible rfl)
          simp only [Act.put, List.setIfInBounds_toArray, List.set_cons_zero, List.set_cons_succ]
          refine late_take 6 (by kernel_rfl) (by kernel_rfl) (by kernel_rfl) (by kernel_rfl) (by kernel_rfl) (fun _ _ d _ _ h => by cases d <;> exact h) (fun o ho => ?_)
          simp only [List.getElem?_toArray, List.getElem?_cons_zero, List.getElem?_cons_succ, Option.some.injEq] at ho; subst ho
          refine ⟨.int .i64 (r0 : Int), Or.inl ⟨by kernel_rfl, fun w' hl => Or.inl (run_get 3 _ rfl g10 0 rfl Tryd.underlying3 rfl _ (lies_at (HU.out.later hl) 0 r0 (by rw [HUn.out]; omega) HUd0.out))⟩, ?_⟩
          simp only [Act.put, List.setIfInBounds_toArray, List.set_cons_zero, List.set_cons_succ]
          refine late_take 7 (by kernel_rfl) (by kernel_rfl) (by kernel_rfl) (by kernel_rfl) (by kernel_rfl) (fun _ _ d _ _ h => by cases d <;> exact h) (fun o ho => ?_)
          simp only [List.getElem?_toArray, List.getElem?_cons_zero, List.getElem?_cons_succ, Option.some.injEq] at ho; subst ho
          apply Exists.intro
          refine ⟨Or.inl ⟨by kernel_rfl, fun w' hl => Or.inl ?_⟩, ?_⟩
          · (go_simp; try with_reducible rfl)
          simp only [Act.put, List.setIfInBounds_toArray, List.set_cons_zero, List.set_cons_succ]
          refine late_take 8 (by kernel_rfl) (by kernel_rfl) (by kernel_rfl) (by kernel_rfl) (by kernel_rfl) (fun _ _ d _ _ h => by cases d <;> exact h) (fun o ho => ?_)
          simp only [List.getElem?_toArray, List.getElem?_cons_zero, List.getElem?_cons_succ, Option.some.injEq] at ho; subst ho
          refine ⟨.agg #[.int .i8 (r1 : Int), .int .i8 (r0 : Int)], Or.inl ⟨by kernel_rfl, fun w' hl => Or.inl (run_built 35 _ rfl _ (by kernel_rfl))⟩, ?_⟩
          simp only [Act.put, List.setIfInBounds_toArray, List.set_cons_zero, List.set_cons_succ]
          refine late_one 9 (by kernel_rfl) (by kernel_rfl) (fun o ho => ?_)
          simp only [List.getElem?_toArray, List.getElem?_cons_zero, List.getElem?_cons_succ, Option.some.injEq] at ho; subst ho
          refine ⟨by kernel_rfl, fun wn hl K hK => ?_⟩
          have HR5 := Lib.hid (HR5.out.later hl); have HR9 := Lib.hid (HR9.out.later hl); have HU := Lib.hid (HU.out.later hl); have HV := Lib.hid (HV.out.later hl); have HB := Lib.hid (below_on HB.out hl); clear hl
          refine late_allocB 35 rfl #[.int .i8 0, .int .i8 0] zero35 ?_; intro b16 wm N R
          have HD516 := Lib.hid (show b5 ≠ b16 by have := N.at_; have := HR5.out.lt; omega)
          have HG16 := Lib.hid (show w.heap.size ≤ b16 by have := HB.out.size; have := N.at_; omega)
          have hb := N.below
          have HRn := Lib.hid R
          clear N R
          refine hK.out _ _ hb ?_
          have HR5 := Lib.hid (HR5.out.later hb); have HR9 := Lib.hid (HR9.out.later hb); have HU := Lib.hid (HU.out.later hb); have HV := Lib.hid (HV.out.later hb); have HB := Lib.hid (below_on HB.out hb); clear hb
          have HR16 := HRn; clear HRn
          clear hK K
          simp only [Act.put, List.setIfInBounds_toArray, List.set_cons_zero, List.set_cons_succ]
          refine late_last 10 (by kernel_rfl) (by kernel_rfl) (by kernel_rfl) (fun o ho => ?_)
          simp only [List.getElem?_toArray, List.getElem?_cons_zero, List.getElem?_cons_succ, Option.some.injEq] at ho; subst ho
          refine ⟨by kernel_rfl, fun wn hl K hK => ?_⟩
          have HR5 := Lib.hid (HR5.out.later hl); have HR9 := Lib.hid (HR9.out.later hl); have HU := Lib.hid (HU.out.later hl); have HV := Lib.hid (HV.out.later hl); have HR16 := Lib.hid (HR16.out.later hl); have HB := Lib.hid (below_on HB.out hl); clear hl
          refine late_storeB 35 _ _ rfl b16 rfl #[.int .i8 0, .int .i8 0] #[.int .i8 (r1 : Int), .int .i8 (r0 : Int)] rfl HR16.out rfl (two_one _ _) size35 ?_; intro wm U R
          have HR5 := Lib.hid (HR5.out.apart U HD516.out); have HR16 := Lib.hid R; have HB := Lib.hid (HB.out.trans (U.below HG16.out)); clear U R
          refine hK.out _ _ ?_
          clear hK K
          simp only [Act.put, List.setIfInBounds_toArray, List.set_cons_zero, List.set_cons_succ]
          clear hw0 hw1
          have HQ := Lib.hid (lits35 r1 r0 lr1 lr0)
          go_wp2_with (first
            | (refine step_range rfl 35 _ rfl b5 79 rfl [.int .i8 (r1 : Int), .int .i8 (r0 : Int)] (by rw [← HP0.out]; exact HR5.out.range 79 2 (by omega)) _ Tryd.underlying35 rfl size35 ?_)
            | (refine step_range rfl 35 _ rfl b5 81 rfl [.int .i8 (r1 : Int), .int .i8 (r0 : Int)] (by rw [← HP1.out]; exact HR5.out.range 81 2 (by omega)) _ Tryd.underlying35 rfl size35 ?_)
            | (refine blk_load rfl 35 _ rfl b16 rfl #[.int .i8 (r1 : Int), .int .i8 (r0 : Int)] ?_ _ Tryd.underlying35 rfl size35 ?_; exact HR16.out)
            | (refine step_neqA rfl 35 _ _ rfl #[.int .i8 (r1 : Int), .int .i8 (r0 : Int)] ?_ ?_ guard35 2 (by kernel_rfl) (by decide) (by kernel_rfl) HQ.out ?_; rfl; rfl))
          refine (start_in 0 _ (by omega) (HT.out.on HB.out) (HK.out.on HB.out)).mono ?_; rintro e wn ⟨rfl, hb⟩; have HB := Lib.hid (below_on HB.out hb); clear hb
          obtain ⟨p0, Hp0⟩ : ∃ p, Hid (startP 0 = p) := ⟨_, Lib.hid rfl⟩
          obtain ⟨p5, Hp5⟩ : ∃ p, Hid (posN 518 = p) := ⟨_, Lib.hid rfl⟩
          have HW0 := Lib.hid (show WfP p0 by rw [← Hp0.out]; exact wf_start 0)
          have HW5 := Lib.hid (show WfP (upd p5 0 0) by rw [← Hp5.out]; exact wf_zero _ (wf_posN 518 (by omega)))
          have HE5 := Lib.hid (show posA p0 = posA (upd p5 0 0) by rw [← Hp0.out, ← Hp5.out]; exact std_518)
          rw [Hp0.out]
          go_wp2_with (first
            | (refine step_alloc (op := ⟨some 17, _, _, _, _, _⟩) rfl rfl ?_; intro b17 wn N R; have HG17 := Lib.hid (show w.heap.size ≤ b17 by have := N.at_; have := HB.out.size; omega); have HR17 := Lib.hid R; have HB := Lib.hid (below_on HB.out N.below); clear N R)
            | (refine step_store rfl _ _ rfl b17 rfl zeroP p0 rfl ?_ ?_; exact HR17.out; intro w2 U R; have HR17 := Lib.hid R; have HB := Lib.hid (HB.out.trans (U.below HG17.out)); clear U R))
          refine (start960_any 518 _ (by omega) (HT.out.on HB.out) (HK.out.on HB.out)).mono ?_; rintro e wn ⟨rfl, hb⟩; have HR17 := Lib.hid (HR17.out.later hb); have HB := Lib.hid (below_on HB.out hb); clear hb
          rw [Hp5.out]
          obtain ⟨p6, Hp6⟩ : ∃ p, Hid (upd p5 0 0 = p) := ⟨_, Lib.hid rfl⟩
          rw [Hp6.out] at HW5 HE5
          go_wp2_with (first
            | (refine step_alloc (op := ⟨some 19, _, _, _, _, _⟩) rfl rfl ?_; intro b19 wn N R; have HG19 := Lib.hid (show w.heap.size ≤ b19 by have := N.at_; have := HB.out.size; omega); have HD := Lib.hid (show b17 ≠ b19 by have := N.at_; have := HR17.out.lt; omega); have HR17 := Lib.hid (HR17.out.later N.below); have HR19 := Lib.hid R; have HB := Lib.hid (below_on HB.out N.below); clear N R)
            | (refine step_store rfl _ _ rfl b19 rfl zeroP p5 rfl ?_ ?_; exact HR19.out; intro w2 U R; have HR17 := Lib.hid (HR17.out.apart U HD.out); have HR19 := Lib.hid R; have HB := Lib.hid (HB.out.trans (U.below HG19.out)); clear U R)
            | (refine step_cell rfl 5 _ _ rfl b19 0 rfl .u8 0 rfl p5 ?_ (by omega) rfl size5 ?_; exact HR19.out; intro w2 U R; rw [Hp6.out] at R; have HR17 := Lib.hid (HR17.out.apart U HD.out); have HR19 := Lib.hid R; have HB := Lib.hid (HB.out.trans (U.below HG19.out)); clear U R)
            | (refine step_load rfl _ rfl b17 rfl p0 ?_ ?_; exact HR17.out)
            | (refine step_load rfl _ rfl b19 rfl p6 ?_ ?_; exact HR19.out)
            | (refine step_cmp rfl _ _ rfl p0 p6 ?_ ?_ HW0.out HW5.out true ⟨fun _ => HE5.out, fun _ => rfl⟩ ?_; rfl; rfl))
          refine (rawake_any _ (HT.out.on HB.out) (HK.out.on HB.out)).mono ?_; rintro e wn ⟨rfl, hb⟩; have HB := Lib.hid (below_on HB.out hb); clear hb
          go_wp2_with fail
          go_ret
          exact ⟨rfl, HB.out⟩
theorem walk (a0 a1 : Int) (w0 : (Lit.int .i64 a0).wf = true) (w1 : (Lit.int .i64 a1).wf = true) (w : World) (hT : TabVar w) (hK : TabKn w) :
    Calls Tryd.prog 6 #[.int .i64 a0, .int .i64 a1] w fun e w' => e = .returned (.bool true) ∧ Below w.heap.size w w' := by
  obtain ⟨n, hn, ea⟩ := num_of a0
  obtain ⟨m, hm, eb⟩ := num_of a1
  exact r960 a0 a1 n m w hn hm ea eb hT hK
end Go.Proofs.YtkeoadcckbcccaaDoor.rules960
