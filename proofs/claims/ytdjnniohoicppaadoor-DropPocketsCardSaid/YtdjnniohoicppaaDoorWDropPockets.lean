/-
  The walk of DropPockets.
-/
import Derived.Test.YtdjnniohoicppaaDoorDrE
import Derived.Test.YtdjnniohoicppaaDoorRoundW
import Derived.WalkKit
import Derived.OpenShut
namespace Go.Proofs.YtdjnniohoicppaaDoor.dropPockets
open Go.RowKit
set_option linter.unusedVariables false
set_option linter.unusedSimpArgs false
section
variable {X : Nat → Prop} {n : Nat} {P : Program} {ops : Array Oper} {Q : Exit → Act → World → Prop} {md : Region.Mode}
/-- Whatever of these comes first. -/
theorem mid_some (rs : List Nat) {k : Nat} {listed : Array Bool} {a : Act} {w : World} (hd : Wid.noDefer ops = true) (hr : Region.ready md ops listed = rs) (hne : rs ≠ []) (hz : rs.all (fun i => (ops[i]?).isSome) = true)
    (h : ∀ i, i ∈ rs → ∀ o : Oper, ops[i]? = some o → Region.wanted o (yielded ops a.tmps) = true ∧ ∀ w', Below w.heap.size w w' → ∀ K : Act → World → Prop, Shut (∀ a2 w2, Kept X w' w2 → Wid.Mid X n P md ops Q k (listed.setIfInBounds i true) a2 w2 → K a2 w2) → Wid.WpR n P o a w' K Q) : Wid.Mid X n P md ops Q (k + 1) listed a w := fun w' hw' =>
  ⟨fun h0 => (by rw [hr] at h0; exact absurd h0 hne), fun j hj => by
    rw [hr] at hj
    obtain ⟨o, ho⟩ := Option.isSome_iff_exists.1 (List.all_eq_true.1 hz j hj)
    obtain ⟨hw, h⟩ := h j hj o ho
    unfold wpOpIn
    rw [ho]
    simp only [hw, if_true]
    exact Wid.opIn_of (Wid.noDefer_spec hd _ _ · ho) (h w' hw' _ fun a2 w2 hl hk => ⟨hl, hk⟩).out⟩
end
theorem run_allocP {o : Oper} {a : Act} {w : World} (ho : o.op = .alloc 31) : (execOp a.eval o).run Tryd.prog w = .ok (.value (.pointer (some ⟨w.heap.size, 0, none⟩))) (w.alloc (.cells (posA zeroP) 31)) := by
  have hz : ∀ w, (zeroValue 31).run Tryd.prog w = .ok (.agg (posA zeroP)) w := fun w => by
    cases hq : Tryd.prog.info? 31 with
    | none => have := info31; simp [hq] at this
    | some i => have := info31; simp [hq] at this; simp [zeroValue, typeInfo, hq, this.1]
  unfold execOp
  simp only [ho, Instr.alloc, Sem.run_bind, Sem.run_pure, Result.andThen_ok, hz]
  rfl
theorem mid_allocP {o : Oper} {a : Act} {w : World} {n : Nat} {K : Act → World → Prop} {Q : Exit → Act → World → Prop} (ho : o.op = .alloc 31) (h : ∀ b w', New b w w' → Row w' b zeroP → K (a.put o.dst (.pointer (some ⟨b, 0, none⟩))) w') : Wid.WpR n Tryd.prog o a w K Q := ⟨by
  rw [run_allocP ho]
  exact h _ _ (New.alloc w _) (heap_alloc_new w (.cells (posA zeroP) 31))⟩
theorem mid_storeP {o : Oper} {a : Act} {w : World} {n : Nat} {K : Act → World → Prop} {Q : Exit → Act → World → Prop} (x y : Operand) (ho : o.op = .store 31 x y) (b : Nat) (hx : a.eval x = .pointer (some ⟨b, 0, none⟩)) (p q : Nat → Int) (hy : a.eval y = .agg (posA q)) (hr : Row w b p)
    (h : ∀ w', Upd b w w' → Row w' b q → K (a.put o.dst undef) w') : Wid.WpR n Tryd.prog o a w K Q := ⟨by
  have hrun := run_storeVar_mid (P := Tryd.prog) w b 0 31 (posA q) (by rw [posA_size]; exact hr.there 0 88 (by omega)) (by rw [posA_size]; exact size31) (posA_one q)
  have hk := h _ (Upd.setCells _ _ _ _) hr.whole
  unfold execOp
  simp only [ho, hx, hy, Instr.storeAt, Instr.sureAddr, Sem.run_bind, Sem.run_pure, Result.andThen_ok, hrun]
  exact hk⟩
theorem kept_upd {b B : Nat} {w w' : World} (h : Upd b w w') (hb : B ≤ b) : Kept (B ≤ ·) w w' := Kept.of_below (h.below hb)
set_option maxRecDepth 100000 in
set_option maxHeartbeats 4000000 in
theorem no_c (p : Nat → Int) (c k : Int) (w0 : WfP p) (w : World) (hT : DrT w) (hK : TabKn w) (hc : 0 ≤ c) (h : 2 ≤ c) : Calls Tryd.prog 5 #[.agg (posA p), .int .u8 c, .int .u8 k] w fun e w' => e = .returned (.bool true) ∧ Below w.heap.size w w' := by
  have HT := Lib.hid hT
  have HK := Lib.hid hK
  have hp := DrR.of w0
  have HP := Lib.hid hp
  have HC := Lib.hid hc
  obtain ⟨QA, hQA⟩ : ∃ QA, p = QA := ⟨_, rfl⟩
  obtain ⟨QT, hQT⟩ : ∃ QT, p = QT := ⟨_, rfl⟩
  have HEA := Lib.hid hQA
  have HET := Lib.hid hQT
  have gh : hasP c k = false := hasP_false.2 (by omega)
  have HAd := Lib.hid (show addP p c k = QA by unfold addP; rw [gh]; exact hQA)
  have HNo := Lib.hid (show (helC p c k == 0) = true by rw [helC_out gh]; rfl)
  have HTk := Lib.hid (show takP p c k = QT by unfold takP; rw [HNo.out]; exact hQT)
  have HWA := Lib.hid (show WfP QA from hQA ▸ w0)
  have HWT := Lib.hid (show WfP QT from hQT ▸ w0)
  have f1 : decide (c < 2) = false := decide_eq_false (by omega)
  clear hT hK hp w0 hc gh hQA hQT
  have HB := Lib.hid (Below.refl w.heap.size w)
  go_enter Tryd.func5, Tryd.ntmps5
  go_wp2_with (first
    | (guard_target = Go.wpList _ _ _ ((⟨some 3, .box _ _, _, _, _, _⟩ : Go.Oper) :: _) _ _; refine step_box rfl _ rfl p rfl ?_; intro b3 w1 N R; have HG3 := Lib.hid (show w.heap.size ≤ b3 by have := HB.out.size; have := N.at_; omega); have HB := Lib.hid (below_on HB.out N.below); have HR3 := Lib.hid R; clear N R)
    | (guard_target = Go.wpList _ _ _ ((⟨some _, .load _ (.tmp 3), _, _, _, _⟩ : Go.Oper) :: _) _ _; refine step_load rfl _ rfl b3 rfl p HR3.out ?_)
    | (go_at_call 17; refine (addK HAd.out _ HC.out HP.out).mono ?_; rintro e w6 ⟨rfl, hb⟩; have HR3 := Lib.hid (HR3.out.later hb); have HB := Lib.hid (below_on HB.out hb); clear hb)
    | (guard_target = Go.wpList _ _ _ ((⟨some 7, .alloc _, _, _, _, _⟩ : Go.Oper) :: _) _ _; refine step_alloc (op := ⟨some 7, _, _, _, _, _⟩) rfl rfl ?_; intro b7 wn N R; have HG7 := Lib.hid (show w.heap.size ≤ b7 by have := HB.out.size; have := N.at_; omega); have HD3_7 := Lib.hid (show b3 ≠ b7 by have := HR3.out.lt; have := N.at_; omega); have HR3 := Lib.hid (HR3.out.later N.below); have HR7 := Lib.hid R; have HB := Lib.hid (below_on HB.out N.below); clear N R)
    | (guard_target = Go.wpList _ _ _ ((⟨none, .store _ (.tmp 7) _, _, _, _, _⟩ : Go.Oper) :: _) _ _; refine step_store (op := ⟨none, .store _ (.tmp 7) _, _, _, _, _⟩) rfl _ _ rfl b7 rfl zeroP QA rfl HR7.out ?_; intro wn U R; have HR3 := Lib.hid (HR3.out.apart U HD3_7.out); have HR7 := Lib.hid R; have HB := Lib.hid (HB.out.trans (U.below HG7.out)); clear U R)
    | (go_at_call 18; refine (takK HTk.out HNo.out _ HC.out HP.out).mono ?_; rintro e w6 ⟨rfl, hb⟩; have HR3 := Lib.hid (HR3.out.later hb); have HR7 := Lib.hid (HR7.out.later hb); have HB := Lib.hid (below_on HB.out hb); clear hb)
    | (guard_target = Go.wpList _ _ _ ((⟨some 8, .alloc _, _, _, _, _⟩ : Go.Oper) :: _) _ _; refine step_alloc (op := ⟨some 8, _, _, _, _, _⟩) rfl rfl ?_; intro b8 wn N R; have HG8 := Lib.hid (show w.heap.size ≤ b8 by have := HB.out.size; have := N.at_; omega); have HD3_8 := Lib.hid (show b3 ≠ b8 by have := HR3.out.lt; have := N.at_; omega); have HD7_8 := Lib.hid (show b7 ≠ b8 by have := HR7.out.lt; have := N.at_; omega); have HR3 := Lib.hid (HR3.out.later N.below); have HR7 := Lib.hid (HR7.out.later N.below); have HR8 := Lib.hid R; have HB := Lib.hid (below_on HB.out N.below); clear N R)
    | (guard_target = Go.wpList _ _ _ ((⟨none, .store _ (.tmp 8) _, _, _, _, _⟩ : Go.Oper) :: _) _ _; refine step_store (op := ⟨none, .store _ (.tmp 8) _, _, _, _, _⟩) rfl _ _ rfl b8 rfl zeroP QT rfl HR8.out ?_; intro wn U R; have HR3 := Lib.hid (HR3.out.apart U HD3_8.out); have HR7 := Lib.hid (HR7.out.apart U HD7_8.out); have HR8 := Lib.hid R; have HB := Lib.hid (HB.out.trans (U.below HG8.out)); clear U R))
  obtain ⟨wx0, hwx⟩ : ∃ wx0, wx0 = wn := ⟨_, rfl⟩
  have HW0 := Lib.hid (show w.heap.size ≤ wx0.heap.size by rw [hwx]; exact HB.out.size)
  have HL1 := Lib.hid (show b3 < wx0.heap.size by rw [hwx]; exact HR3.out.lt)
  have HX0 := Lib.hid (show Below wx0.heap.size wx0 wn by rw [hwx]; exact Below.refl _ _)
  clear hwx
  have HFm := Lib.hid (by kernel_rfl : Tryd.prog.follows .mixedOrders = true)
  refine (wpIn_wide (n := 1)).1 ?_
  refine Wid.mid_begin (X := (wx0.heap.size ≤ ·)) HFm.out ?_
  refine Wid.mid_take 0 (by kernel_rfl) (by kernel_rfl) (by kernel_rfl) (by kernel_rfl) (by kernel_rfl) (fun _ _ d _ _ h => by cases d <;> exact h) (fun o ho => ?_)
  simp only [qa, qb, qc, qd] at ho; subst ho
  refine ⟨_, Or.inl ⟨by kernel_rfl, fun w' hl => run_load _ rfl _ rfl p (show Row w' b3 p from (hl.same b3 HR3.out.lt (Nat.not_le.2 HL1.out)).trans HR3.out)⟩, ?_⟩
  simp only [Act.put, pa, pb, pc]
  refine Wid.mid_take 1 (by kernel_rfl) (by kernel_rfl) (by kernel_rfl) (by kernel_rfl) (by kernel_rfl) (fun _ _ d _ _ h => by cases d <;> exact h) (fun o ho => ?_)
  simp only [qa, qb, qc, qd] at ho; subst ho
  refine ⟨_, Or.inl ⟨by kernel_rfl, fun w' hl => run_load _ rfl _ rfl p (show Row w' b3 p from (hl.same b3 HR3.out.lt (Nat.not_le.2 HL1.out)).trans HR3.out)⟩, ?_⟩
  simp only [Act.put, pa, pb, pc]
  refine mid_some [2, 3] (by kernel_rfl) (by kernel_rfl) (by simp) (by kernel_rfl) (fun i hi => ?_)
  simp only [List.mem_cons, List.not_mem_nil, or_false] at hi
  rcases hi with rfl | rfl
  · intro o ho
    simp only [qa, qb, qc, qd] at ho; subst ho
    refine ⟨by kernel_rfl, fun wn hl Kx hKx => ?_⟩
    have HX0 := Lib.hid (HX0.out.trans (hl.mono HX0.out.size))
    have HR3 := Lib.hid (HR3.out.later hl); have HR7 := Lib.hid (HR7.out.later hl); have HR8 := Lib.hid (HR8.out.later hl); have HB := Lib.hid (below_on HB.out hl); clear hl
    refine mid_allocP rfl ?_; intro b11 wm N R
    have HD3_11 := Lib.hid (show b3 ≠ b11 from Nat.ne_of_lt (by have h1 := HR3.out.lt; have := N.at_; omega))
    have HD7_11 := Lib.hid (show b7 ≠ b11 from Nat.ne_of_lt (by have h1 := HR7.out.lt; have := N.at_; omega))
    have HD8_11 := Lib.hid (show b8 ≠ b11 from Nat.ne_of_lt (by have h1 := HR8.out.lt; have := N.at_; omega))
    have HG11 := Lib.hid (show wx0.heap.size ≤ b11 by have := HX0.out.size; have := N.at_; omega)
    have hb := N.below
    have HRn := Lib.hid R
    clear N R
    refine hKx.out _ _ (Kept.of_call _ hb) ?_
    have HX0 := Lib.hid (HX0.out.trans (hb.mono HX0.out.size))
    have HR3 := Lib.hid (HR3.out.later hb); have HR7 := Lib.hid (HR7.out.later hb); have HR8 := Lib.hid (HR8.out.later hb); have HB := Lib.hid (below_on HB.out hb); clear hb
    have HR11 := HRn; clear HRn
    clear hKx Kx
    simp only [Act.put, pa, pb, pc]
    refine Wid.mid_one 3 (by kernel_rfl) (by kernel_rfl) (by kernel_rfl) (fun o ho => ?_)
    simp only [qa, qb, qc, qd] at ho; subst ho
    refine ⟨by kernel_rfl, fun wn hl Kx hKx => ?_⟩
    have HX0 := Lib.hid (HX0.out.trans (hl.mono HX0.out.size))
    have HR3 := Lib.hid (HR3.out.later hl); have HR7 := Lib.hid (HR7.out.later hl); have HR8 := Lib.hid (HR8.out.later hl); have HR11 := Lib.hid (HR11.out.later hl); have HB := Lib.hid (below_on HB.out hl); clear hl
    refine mid_allocP rfl ?_; intro b12 wm N R
    have HD3_12 := Lib.hid (show b3 ≠ b12 from Nat.ne_of_lt (by have h1 := HR3.out.lt; have := N.at_; omega))
    have HD7_12 := Lib.hid (show b7 ≠ b12 from Nat.ne_of_lt (by have h1 := HR7.out.lt; have := N.at_; omega))
    have HD8_12 := Lib.hid (show b8 ≠ b12 from Nat.ne_of_lt (by have h1 := HR8.out.lt; have := N.at_; omega))
    have HD11_12 := Lib.hid (show b11 ≠ b12 from Nat.ne_of_lt (by have h1 := HR11.out.lt; have := N.at_; omega))
    have HG12 := Lib.hid (show wx0.heap.size ≤ b12 by have := HX0.out.size; have := N.at_; omega)
    have hb := N.below
    have HRn := Lib.hid R
    clear N R
    refine hKx.out _ _ (Kept.of_call _ hb) ?_
    have HX0 := Lib.hid (HX0.out.trans (hb.mono HX0.out.size))
    have HR3 := Lib.hid (HR3.out.later hb); have HR7 := Lib.hid (HR7.out.later hb); have HR8 := Lib.hid (HR8.out.later hb); have HR11 := Lib.hid (HR11.out.later hb); have HB := Lib.hid (below_on HB.out hb); clear hb
    have HR12 := HRn; clear HRn
    clear hKx Kx
    simp only [Act.put, pa, pb, pc]
    have HD12_11 := Lib.hid (Ne.symm HD11_12.out)
    refine Wid.mid_one 4 (by kernel_rfl) (by kernel_rfl) (by kernel_rfl) (fun o ho => ?_)
    simp only [qa, qb, qc, qd] at ho; subst ho
    refine ⟨by kernel_rfl, fun wn hl Kx hKx => ?_⟩
    have HR3 := Lib.hid (HR3.out.later hl); have HR7 := Lib.hid (HR7.out.later hl); have HR8 := Lib.hid (HR8.out.later hl); have HR11 := Lib.hid (HR11.out.later hl); have HR12 := Lib.hid (HR12.out.later hl); have HB := Lib.hid (below_on HB.out hl); clear hl
    refine mid_storeP _ _ rfl b11 rfl zeroP p rfl HR11.out ?_; intro wm U R
    have HR3 := Lib.hid (HR3.out.apart U HD3_11.out)
    have HR7 := Lib.hid (HR7.out.apart U HD7_11.out)
    have HR8 := Lib.hid (HR8.out.apart U HD8_11.out)
    have HR12 := Lib.hid (HR12.out.apart U HD12_11.out)
    refine hKx.out _ _ (kept_upd U HG11.out) ?_
    have HR11 := Lib.hid R; have HB := Lib.hid (HB.out.trans (U.below (Nat.le_trans HW0.out HG11.out))); clear U R
    clear hKx Kx
    simp only [Act.put, pa, pb, pc]
    refine Wid.mid_one 5 (by kernel_rfl) (by kernel_rfl) (by kernel_rfl) (fun o ho => ?_)
    simp only [qa, qb, qc, qd] at ho; subst ho
    refine ⟨by kernel_rfl, fun wn hl Kx hKx => ?_⟩
    have HR3 := Lib.hid (HR3.out.later hl); have HR7 := Lib.hid (HR7.out.later hl); have HR8 := Lib.hid (HR8.out.later hl); have HR11 := Lib.hid (HR11.out.later hl); have HR12 := Lib.hid (HR12.out.later hl); have HB := Lib.hid (below_on HB.out hl); clear hl
    refine mid_storeP _ _ rfl b12 rfl zeroP p rfl HR12.out ?_; intro wm U R
    have HR3 := Lib.hid (HR3.out.apart U HD3_12.out)
    have HR7 := Lib.hid (HR7.out.apart U HD7_12.out)
    have HR8 := Lib.hid (HR8.out.apart U HD8_12.out)
    have HR11 := Lib.hid (HR11.out.apart U HD11_12.out)
    refine hKx.out _ _ (kept_upd U HG12.out) ?_
    have HR12 := Lib.hid R; have HB := Lib.hid (HB.out.trans (U.below (Nat.le_trans HW0.out HG12.out))); clear U R
    clear hKx Kx
    simp only [Act.put, pa, pb, pc]
    refine Wid.mid_end (by kernel_rfl) (fun wn hl => ?_)
    have HR3 := Lib.hid (HR3.out.later hl); have HR7 := Lib.hid (HR7.out.later hl); have HR8 := Lib.hid (HR8.out.later hl); have HR11 := Lib.hid (HR11.out.later hl); have HR12 := Lib.hid (HR12.out.later hl); have HB := Lib.hid (below_on HB.out hl); clear hl
    have HR11 := Lib.hid (show Row _ b11 QA from HEA.out ▸ HR11.out)
    have HR12 := Lib.hid (show Row _ b12 QT from HET.out ▸ HR12.out)
    go_wp2_with (first
      | (guard_target = Go.wpList _ _ _ ((⟨some _, .load _ (.tmp 7), _, _, _, _⟩ : Go.Oper) :: _) _ _; refine step_load rfl _ rfl b7 rfl QA HR7.out ?_)
      | (guard_target = Go.wpList _ _ _ ((⟨some _, .load _ (.tmp 11), _, _, _, _⟩ : Go.Oper) :: _) _ _; refine step_load rfl _ rfl b11 rfl QA HR11.out ?_)
      | (guard_target = Go.wpList _ _ _ ((⟨some _, .load _ (.tmp 8), _, _, _, _⟩ : Go.Oper) :: _) _ _; refine step_load rfl _ rfl b8 rfl QT HR8.out ?_)
      | (guard_target = Go.wpList _ _ _ ((⟨some _, .load _ (.tmp 12), _, _, _, _⟩ : Go.Oper) :: _) _ _; refine step_load rfl _ rfl b12 rfl QT HR12.out ?_)
      | (guard_target = Go.wpList _ _ _ ((⟨some 80, .binOp _ _ _ _ _, _, _, _, _⟩ : Go.Oper) :: _) _ _; refine step_cmp (op := ⟨some 80, .binOp _ _ _ _ _, _, _, _, _⟩) rfl _ _ rfl QA QA rfl rfl HWA.out HWA.out true ⟨fun _ => rfl, fun _ => rfl⟩ ?_; simp only [Act.put, pa, pb, pc, Bool.not_false, Bool.not_true])
      | (guard_target = Go.wpList _ _ _ ((⟨some 84, .binOp _ _ _ _ _, _, _, _, _⟩ : Go.Oper) :: _) _ _; refine step_cmp (op := ⟨some 84, .binOp _ _ _ _ _, _, _, _, _⟩) rfl _ _ rfl QT QT rfl rfl HWT.out HWT.out true ⟨fun _ => rfl, fun _ => rfl⟩ ?_; simp only [Act.put, pa, pb, pc, Bool.not_false, Bool.not_true])
      | (go_at_call 12; refine (dr_awake _ (HT.out.on HB.out) (HK.out.on HB.out)).mono ?_; rintro e w6 ⟨rfl, hb⟩; have HB := Lib.hid (below_on HB.out hb); clear hb))
    go_ret
    exact ⟨rfl, HB.out⟩
  · intro o ho
    simp only [qa, qb, qc, qd] at ho; subst ho
    refine ⟨by kernel_rfl, fun wn hl Kx hKx => ?_⟩
    have HX0 := Lib.hid (HX0.out.trans (hl.mono HX0.out.size))
    have HR3 := Lib.hid (HR3.out.later hl); have HR7 := Lib.hid (HR7.out.later hl); have HR8 := Lib.hid (HR8.out.later hl); have HB := Lib.hid (below_on HB.out hl); clear hl
    refine mid_allocP rfl ?_; intro b12 wm N R
    have HD3_12 := Lib.hid (show b3 ≠ b12 from Nat.ne_of_lt (by have h1 := HR3.out.lt; have := N.at_; omega))
    have HD7_12 := Lib.hid (show b7 ≠ b12 from Nat.ne_of_lt (by have h1 := HR7.out.lt; have := N.at_; omega))
    have HD8_12 := Lib.hid (show b8 ≠ b12 from Nat.ne_of_lt (by have h1 := HR8.out.lt; have := N.at_; omega))
    have HG12 := Lib.hid (show wx0.heap.size ≤ b12 by have := HX0.out.size; have := N.at_; omega)
    have hb := N.below
    have HRn := Lib.hid R
    clear N R
    refine hKx.out _ _ (Kept.of_call _ hb) ?_
    have HX0 := Lib.hid (HX0.out.trans (hb.mono HX0.out.size))
    have HR3 := Lib.hid (HR3.out.later hb); have HR7 := Lib.hid (HR7.out.later hb); have HR8 := Lib.hid (HR8.out.later hb); have HB := Lib.hid (below_on HB.out hb); clear hb
    have HR12 := HRn; clear HRn
    clear hKx Kx
    simp only [Act.put, pa, pb, pc]
    refine Wid.mid_one 2 (by kernel_rfl) (by kernel_rfl) (by kernel_rfl) (fun o ho => ?_)
    simp only [qa, qb, qc, qd] at ho; subst ho
    refine ⟨by kernel_rfl, fun wn hl Kx hKx => ?_⟩
    have HX0 := Lib.hid (HX0.out.trans (hl.mono HX0.out.size))
    have HR3 := Lib.hid (HR3.out.later hl); have HR7 := Lib.hid (HR7.out.later hl); have HR8 := Lib.hid (HR8.out.later hl); have HR12 := Lib.hid (HR12.out.later hl); have HB := Lib.hid (below_on HB.out hl); clear hl
    refine mid_allocP rfl ?_; intro b11 wm N R
    have HD3_11 := Lib.hid (show b3 ≠ b11 from Nat.ne_of_lt (by have h1 := HR3.out.lt; have := N.at_; omega))
    have HD7_11 := Lib.hid (show b7 ≠ b11 from Nat.ne_of_lt (by have h1 := HR7.out.lt; have := N.at_; omega))
    have HD8_11 := Lib.hid (show b8 ≠ b11 from Nat.ne_of_lt (by have h1 := HR8.out.lt; have := N.at_; omega))
    have HD12_11 := Lib.hid (show b12 ≠ b11 from Nat.ne_of_lt (by have h1 := HR12.out.lt; have := N.at_; omega))
    have HG11 := Lib.hid (show wx0.heap.size ≤ b11 by have := HX0.out.size; have := N.at_; omega)
    have hb := N.below
    have HRn := Lib.hid R
    clear N R
    refine hKx.out _ _ (Kept.of_call _ hb) ?_
    have HX0 := Lib.hid (HX0.out.trans (hb.mono HX0.out.size))
    have HR3 := Lib.hid (HR3.out.later hb); have HR7 := Lib.hid (HR7.out.later hb); have HR8 := Lib.hid (HR8.out.later hb); have HR12 := Lib.hid (HR12.out.later hb); have HB := Lib.hid (below_on HB.out hb); clear hb
    have HR11 := HRn; clear HRn
    clear hKx Kx
    simp only [Act.put, pa, pb, pc]
    have HD11_12 := Lib.hid (Ne.symm HD12_11.out)
    refine Wid.mid_one 4 (by kernel_rfl) (by kernel_rfl) (by kernel_rfl) (fun o ho => ?_)
    simp only [qa, qb, qc, qd] at ho; subst ho
    refine ⟨by kernel_rfl, fun wn hl Kx hKx => ?_⟩
    have HR3 := Lib.hid (HR3.out.later hl); have HR7 := Lib.hid (HR7.out.later hl); have HR8 := Lib.hid (HR8.out.later hl); have HR11 := Lib.hid (HR11.out.later hl); have HR12 := Lib.hid (HR12.out.later hl); have HB := Lib.hid (below_on HB.out hl); clear hl
    refine mid_storeP _ _ rfl b11 rfl zeroP p rfl HR11.out ?_; intro wm U R
    have HR3 := Lib.hid (HR3.out.apart U HD3_11.out)
    have HR7 := Lib.hid (HR7.out.apart U HD7_11.out)
    have HR8 := Lib.hid (HR8.out.apart U HD8_11.out)
    have HR12 := Lib.hid (HR12.out.apart U HD12_11.out)
    refine hKx.out _ _ (kept_upd U HG11.out) ?_
    have HR11 := Lib.hid R; have HB := Lib.hid (HB.out.trans (U.below (Nat.le_trans HW0.out HG11.out))); clear U R
    clear hKx Kx
    simp only [Act.put, pa, pb, pc]
    refine Wid.mid_one 5 (by kernel_rfl) (by kernel_rfl) (by kernel_rfl) (fun o ho => ?_)
    simp only [qa, qb, qc, qd] at ho; subst ho
    refine ⟨by kernel_rfl, fun wn hl Kx hKx => ?_⟩
    have HR3 := Lib.hid (HR3.out.later hl); have HR7 := Lib.hid (HR7.out.later hl); have HR8 := Lib.hid (HR8.out.later hl); have HR11 := Lib.hid (HR11.out.later hl); have HR12 := Lib.hid (HR12.out.later hl); have HB := Lib.hid (below_on HB.out hl); clear hl
    refine mid_storeP _ _ rfl b12 rfl zeroP p rfl HR12.out ?_; intro wm U R
    have HR3 := Lib.hid (HR3.out.apart U HD3_12.out)
    have HR7 := Lib.hid (HR7.out.apart U HD7_12.out)
    have HR8 := Lib.hid (HR8.out.apart U HD8_12.out)
    have HR11 := Lib.hid (HR11.out.apart U HD11_12.out)
    refine hKx.out _ _ (kept_upd U HG12.out) ?_
    have HR12 := Lib.hid R; have HB := Lib.hid (HB.out.trans (U.below (Nat.le_trans HW0.out HG12.out))); clear U R
    clear hKx Kx
    simp only [Act.put, pa, pb, pc]
    refine Wid.mid_end (by kernel_rfl) (fun wn hl => ?_)
    have HR3 := Lib.hid (HR3.out.later hl); have HR7 := Lib.hid (HR7.out.later hl); have HR8 := Lib.hid (HR8.out.later hl); have HR11 := Lib.hid (HR11.out.later hl); have HR12 := Lib.hid (HR12.out.later hl); have HB := Lib.hid (below_on HB.out hl); clear hl
    have HR11 := Lib.hid (show Row _ b11 QA from HEA.out ▸ HR11.out)
    have HR12 := Lib.hid (show Row _ b12 QT from HET.out ▸ HR12.out)
    go_wp2_with (first
      | (guard_target = Go.wpList _ _ _ ((⟨some _, .load _ (.tmp 7), _, _, _, _⟩ : Go.Oper) :: _) _ _; refine step_load rfl _ rfl b7 rfl QA HR7.out ?_)
      | (guard_target = Go.wpList _ _ _ ((⟨some _, .load _ (.tmp 11), _, _, _, _⟩ : Go.Oper) :: _) _ _; refine step_load rfl _ rfl b11 rfl QA HR11.out ?_)
      | (guard_target = Go.wpList _ _ _ ((⟨some _, .load _ (.tmp 8), _, _, _, _⟩ : Go.Oper) :: _) _ _; refine step_load rfl _ rfl b8 rfl QT HR8.out ?_)
      | (guard_target = Go.wpList _ _ _ ((⟨some _, .load _ (.tmp 12), _, _, _, _⟩ : Go.Oper) :: _) _ _; refine step_load rfl _ rfl b12 rfl QT HR12.out ?_)
      | (guard_target = Go.wpList _ _ _ ((⟨some 80, .binOp _ _ _ _ _, _, _, _, _⟩ : Go.Oper) :: _) _ _; refine step_cmp (op := ⟨some 80, .binOp _ _ _ _ _, _, _, _, _⟩) rfl _ _ rfl QA QA rfl rfl HWA.out HWA.out true ⟨fun _ => rfl, fun _ => rfl⟩ ?_; simp only [Act.put, pa, pb, pc, Bool.not_false, Bool.not_true])
      | (guard_target = Go.wpList _ _ _ ((⟨some 84, .binOp _ _ _ _ _, _, _, _, _⟩ : Go.Oper) :: _) _ _; refine step_cmp (op := ⟨some 84, .binOp _ _ _ _ _, _, _, _, _⟩) rfl _ _ rfl QT QT rfl rfl HWT.out HWT.out true ⟨fun _ => rfl, fun _ => rfl⟩ ?_; simp only [Act.put, pa, pb, pc, Bool.not_false, Bool.not_true])
      | (go_at_call 12; refine (dr_awake _ (HT.out.on HB.out) (HK.out.on HB.out)).mono ?_; rintro e w6 ⟨rfl, hb⟩; have HB := Lib.hid (below_on HB.out hb); clear hb))
    go_ret
    exact ⟨rfl, HB.out⟩
set_option maxRecDepth 100000 in
set_option maxHeartbeats 4000000 in
theorem no_k (p : Nat → Int) (c k : Int) (w0 : WfP p) (w : World) (hT : DrT w) (hK : TabKn w) (hc : 0 ≤ c) (h0 : c < 2) (h : k < 1) : Calls Tryd.prog 5 #[.agg (posA p), .int .u8 c, .int .u8 k] w fun e w' => e = .returned (.bool true) ∧ Below w.heap.size w w' := by
  have HT := Lib.hid hT
  have HK := Lib.hid hK
  have hp := DrR.of w0
  have HP := Lib.hid hp
  have HC := Lib.hid hc
  obtain ⟨QA, hQA⟩ : ∃ QA, p = QA := ⟨_, rfl⟩
  obtain ⟨QT, hQT⟩ : ∃ QT, p = QT := ⟨_, rfl⟩
  have HEA := Lib.hid hQA
  have HET := Lib.hid hQT
  have gh : hasP c k = false := hasP_false.2 (by omega)
  have HAd := Lib.hid (show addP p c k = QA by unfold addP; rw [gh]; exact hQA)
  have HNo := Lib.hid (show (helC p c k == 0) = true by rw [helC_out gh]; rfl)
  have HTk := Lib.hid (show takP p c k = QT by unfold takP; rw [HNo.out]; exact hQT)
  have HWA := Lib.hid (show WfP QA from hQA ▸ w0)
  have HWT := Lib.hid (show WfP QT from hQT ▸ w0)
  have f1 : decide (c < 2) = true := decide_eq_true (by omega)
  have f3 : decide (1 ≤ k) = false := decide_eq_false (by omega)
  clear hT hK hp w0 hc gh hQA hQT
  have HB := Lib.hid (Below.refl w.heap.size w)
  go_enter Tryd.func5, Tryd.ntmps5
  go_wp2_with (first
    | (guard_target = Go.wpList _ _ _ ((⟨some 3, .box _ _, _, _, _, _⟩ : Go.Oper) :: _) _ _; refine step_box rfl _ rfl p rfl ?_; intro b3 w1 N R; have HG3 := Lib.hid (show w.heap.size ≤ b3 by have := HB.out.size; have := N.at_; omega); have HB := Lib.hid (below_on HB.out N.below); have HR3 := Lib.hid R; clear N R)
    | (guard_target = Go.wpList _ _ _ ((⟨some _, .load _ (.tmp 3), _, _, _, _⟩ : Go.Oper) :: _) _ _; refine step_load rfl _ rfl b3 rfl p HR3.out ?_)
    | (go_at_call 17; refine (addK HAd.out _ HC.out HP.out).mono ?_; rintro e w6 ⟨rfl, hb⟩; have HR3 := Lib.hid (HR3.out.later hb); have HB := Lib.hid (below_on HB.out hb); clear hb)
    | (guard_target = Go.wpList _ _ _ ((⟨some 7, .alloc _, _, _, _, _⟩ : Go.Oper) :: _) _ _; refine step_alloc (op := ⟨some 7, _, _, _, _, _⟩) rfl rfl ?_; intro b7 wn N R; have HG7 := Lib.hid (show w.heap.size ≤ b7 by have := HB.out.size; have := N.at_; omega); have HD3_7 := Lib.hid (show b3 ≠ b7 by have := HR3.out.lt; have := N.at_; omega); have HR3 := Lib.hid (HR3.out.later N.below); have HR7 := Lib.hid R; have HB := Lib.hid (below_on HB.out N.below); clear N R)
    | (guard_target = Go.wpList _ _ _ ((⟨none, .store _ (.tmp 7) _, _, _, _, _⟩ : Go.Oper) :: _) _ _; refine step_store (op := ⟨none, .store _ (.tmp 7) _, _, _, _, _⟩) rfl _ _ rfl b7 rfl zeroP QA rfl HR7.out ?_; intro wn U R; have HR3 := Lib.hid (HR3.out.apart U HD3_7.out); have HR7 := Lib.hid R; have HB := Lib.hid (HB.out.trans (U.below HG7.out)); clear U R)
    | (go_at_call 18; refine (takK HTk.out HNo.out _ HC.out HP.out).mono ?_; rintro e w6 ⟨rfl, hb⟩; have HR3 := Lib.hid (HR3.out.later hb); have HR7 := Lib.hid (HR7.out.later hb); have HB := Lib.hid (below_on HB.out hb); clear hb)
    | (guard_target = Go.wpList _ _ _ ((⟨some 8, .alloc _, _, _, _, _⟩ : Go.Oper) :: _) _ _; refine step_alloc (op := ⟨some 8, _, _, _, _, _⟩) rfl rfl ?_; intro b8 wn N R; have HG8 := Lib.hid (show w.heap.size ≤ b8 by have := HB.out.size; have := N.at_; omega); have HD3_8 := Lib.hid (show b3 ≠ b8 by have := HR3.out.lt; have := N.at_; omega); have HD7_8 := Lib.hid (show b7 ≠ b8 by have := HR7.out.lt; have := N.at_; omega); have HR3 := Lib.hid (HR3.out.later N.below); have HR7 := Lib.hid (HR7.out.later N.below); have HR8 := Lib.hid R; have HB := Lib.hid (below_on HB.out N.below); clear N R)
    | (guard_target = Go.wpList _ _ _ ((⟨none, .store _ (.tmp 8) _, _, _, _, _⟩ : Go.Oper) :: _) _ _; refine step_store (op := ⟨none, .store _ (.tmp 8) _, _, _, _, _⟩) rfl _ _ rfl b8 rfl zeroP QT rfl HR8.out ?_; intro wn U R; have HR3 := Lib.hid (HR3.out.apart U HD3_8.out); have HR7 := Lib.hid (HR7.out.apart U HD7_8.out); have HR8 := Lib.hid R; have HB := Lib.hid (HB.out.trans (U.below HG8.out)); clear U R))
  obtain ⟨wx0, hwx⟩ : ∃ wx0, wx0 = wn := ⟨_, rfl⟩
  have HW0 := Lib.hid (show w.heap.size ≤ wx0.heap.size by rw [hwx]; exact HB.out.size)
  have HL1 := Lib.hid (show b3 < wx0.heap.size by rw [hwx]; exact HR3.out.lt)
  have HX0 := Lib.hid (show Below wx0.heap.size wx0 wn by rw [hwx]; exact Below.refl _ _)
  clear hwx
  have HFm := Lib.hid (by kernel_rfl : Tryd.prog.follows .mixedOrders = true)
  refine (wpIn_wide (n := 1)).1 ?_
  refine Wid.mid_begin (X := (wx0.heap.size ≤ ·)) HFm.out ?_
  refine Wid.mid_take 0 (by kernel_rfl) (by kernel_rfl) (by kernel_rfl) (by kernel_rfl) (by kernel_rfl) (fun _ _ d _ _ h => by cases d <;> exact h) (fun o ho => ?_)
  simp only [qa, qb, qc, qd] at ho; subst ho
  refine ⟨_, Or.inl ⟨by kernel_rfl, fun w' hl => run_load _ rfl _ rfl p (show Row w' b3 p from (hl.same b3 HR3.out.lt (Nat.not_le.2 HL1.out)).trans HR3.out)⟩, ?_⟩
  simp only [Act.put, pa, pb, pc]
  refine Wid.mid_take 1 (by kernel_rfl) (by kernel_rfl) (by kernel_rfl) (by kernel_rfl) (by kernel_rfl) (fun _ _ d _ _ h => by cases d <;> exact h) (fun o ho => ?_)
  simp only [qa, qb, qc, qd] at ho; subst ho
  refine ⟨_, Or.inl ⟨by kernel_rfl, fun w' hl => run_load _ rfl _ rfl p (show Row w' b3 p from (hl.same b3 HR3.out.lt (Nat.not_le.2 HL1.out)).trans HR3.out)⟩, ?_⟩
  simp only [Act.put, pa, pb, pc]
  refine mid_some [2, 3] (by kernel_rfl) (by kernel_rfl) (by simp) (by kernel_rfl) (fun i hi => ?_)
  simp only [List.mem_cons, List.not_mem_nil, or_false] at hi
  rcases hi with rfl | rfl
  · intro o ho
    simp only [qa, qb, qc, qd] at ho; subst ho
    refine ⟨by kernel_rfl, fun wn hl Kx hKx => ?_⟩
    have HX0 := Lib.hid (HX0.out.trans (hl.mono HX0.out.size))
    have HR3 := Lib.hid (HR3.out.later hl); have HR7 := Lib.hid (HR7.out.later hl); have HR8 := Lib.hid (HR8.out.later hl); have HB := Lib.hid (below_on HB.out hl); clear hl
    refine mid_allocP rfl ?_; intro b11 wm N R
    have HD3_11 := Lib.hid (show b3 ≠ b11 from Nat.ne_of_lt (by have h1 := HR3.out.lt; have := N.at_; omega))
    have HD7_11 := Lib.hid (show b7 ≠ b11 from Nat.ne_of_lt (by have h1 := HR7.out.lt; have := N.at_; omega))
    have HD8_11 := Lib.hid (show b8 ≠ b11 from Nat.ne_of_lt (by have h1 := HR8.out.lt; have := N.at_; omega))
    have HG11 := Lib.hid (show wx0.heap.size ≤ b11 by have := HX0.out.size; have := N.at_; omega)
    have hb := N.below
    have HRn := Lib.hid R
    clear N R
    refine hKx.out _ _ (Kept.of_call _ hb) ?_
    have HX0 := Lib.hid (HX0.out.trans (hb.mono HX0.out.size))
    have HR3 := Lib.hid (HR3.out.later hb); have HR7 := Lib.hid (HR7.out.later hb); have HR8 := Lib.hid (HR8.out.later hb); have HB := Lib.hid (below_on HB.out hb); clear hb
    have HR11 := HRn; clear HRn
    clear hKx Kx
    simp only [Act.put, pa, pb, pc]
    refine Wid.mid_one 3 (by kernel_rfl) (by kernel_rfl) (by kernel_rfl) (fun o ho => ?_)
    simp only [qa, qb, qc, qd] at ho; subst ho
    refine ⟨by kernel_rfl, fun wn hl Kx hKx => ?_⟩
    have HX0 := Lib.hid (HX0.out.trans (hl.mono HX0.out.size))
    have HR3 := Lib.hid (HR3.out.later hl); have HR7 := Lib.hid (HR7.out.later hl); have HR8 := Lib.hid (HR8.out.later hl); have HR11 := Lib.hid (HR11.out.later hl); have HB := Lib.hid (below_on HB.out hl); clear hl
    refine mid_allocP rfl ?_; intro b12 wm N R
    have HD3_12 := Lib.hid (show b3 ≠ b12 from Nat.ne_of_lt (by have h1 := HR3.out.lt; have := N.at_; omega))
    have HD7_12 := Lib.hid (show b7 ≠ b12 from Nat.ne_of_lt (by have h1 := HR7.out.lt; have := N.at_; omega))
    have HD8_12 := Lib.hid (show b8 ≠ b12 from Nat.ne_of_lt (by have h1 := HR8.out.lt; have := N.at_; omega))
    have HD11_12 := Lib.hid (show b11 ≠ b12 from Nat.ne_of_lt (by have h1 := HR11.out.lt; have := N.at_; omega))
    have HG12 := Lib.hid (show wx0.heap.size ≤ b12 by have := HX0.out.size; have := N.at_; omega)
    have hb := N.below
    have HRn := Lib.hid R
    clear N R
    refine hKx.out _ _ (Kept.of_call _ hb) ?_
    have HX0 := Lib.hid (HX0.out.trans (hb.mono HX0.out.size))
    have HR3 := Lib.hid (HR3.out.later hb); have HR7 := Lib.hid (HR7.out.later hb); have HR8 := Lib.hid (HR8.out.later hb); have HR11 := Lib.hid (HR11.out.later hb); have HB := Lib.hid (below_on HB.out hb); clear hb
    have HR12 := HRn; clear HRn
    clear hKx Kx
    simp only [Act.put, pa, pb, pc]
    have HD12_11 := Lib.hid (Ne.symm HD11_12.out)
    refine Wid.mid_one 4 (by kernel_rfl) (by kernel_rfl) (by kernel_rfl) (fun o ho => ?_)
    simp only [qa, qb, qc, qd] at ho; subst ho
    refine ⟨by kernel_rfl, fun wn hl Kx hKx => ?_⟩
    have HR3 := Lib.hid (HR3.out.later hl); have HR7 := Lib.hid (HR7.out.later hl); have HR8 := Lib.hid (HR8.out.later hl); have HR11 := Lib.hid (HR11.out.later hl); have HR12 := Lib.hid (HR12.out.later hl); have HB := Lib.hid (below_on HB.out hl); clear hl
    refine mid_storeP _ _ rfl b11 rfl zeroP p rfl HR11.out ?_; intro wm U R
    have HR3 := Lib.hid (HR3.out.apart U HD3_11.out)
    have HR7 := Lib.hid (HR7.out.apart U HD7_11.out)
    have HR8 := Lib.hid (HR8.out.apart U HD8_11.out)
    have HR12 := Lib.hid (HR12.out.apart U HD12_11.out)
    refine hKx.out _ _ (kept_upd U HG11.out) ?_
    have HR11 := Lib.hid R; have HB := Lib.hid (HB.out.trans (U.below (Nat.le_trans HW0.out HG11.out))); clear U R
    clear hKx Kx
    simp only [Act.put, pa, pb, pc]
    refine Wid.mid_one 5 (by kernel_rfl) (by kernel_rfl) (by kernel_rfl) (fun o ho => ?_)
    simp only [qa, qb, qc, qd] at ho; subst ho
    refine ⟨by kernel_rfl, fun wn hl Kx hKx => ?_⟩
    have HR3 := Lib.hid (HR3.out.later hl); have HR7 := Lib.hid (HR7.out.later hl); have HR8 := Lib.hid (HR8.out.later hl); have HR11 := Lib.hid (HR11.out.later hl); have HR12 := Lib.hid (HR12.out.later hl); have HB := Lib.hid (below_on HB.out hl); clear hl
    refine mid_storeP _ _ rfl b12 rfl zeroP p rfl HR12.out ?_; intro wm U R
    have HR3 := Lib.hid (HR3.out.apart U HD3_12.out)
    have HR7 := Lib.hid (HR7.out.apart U HD7_12.out)
    have HR8 := Lib.hid (HR8.out.apart U HD8_12.out)
    have HR11 := Lib.hid (HR11.out.apart U HD11_12.out)
    refine hKx.out _ _ (kept_upd U HG12.out) ?_
    have HR12 := Lib.hid R; have HB := Lib.hid (HB.out.trans (U.below (Nat.le_trans HW0.out HG12.out))); clear U R
    clear hKx Kx
    simp only [Act.put, pa, pb, pc]
    refine Wid.mid_end (by kernel_rfl) (fun wn hl => ?_)
    have HR3 := Lib.hid (HR3.out.later hl); have HR7 := Lib.hid (HR7.out.later hl); have HR8 := Lib.hid (HR8.out.later hl); have HR11 := Lib.hid (HR11.out.later hl); have HR12 := Lib.hid (HR12.out.later hl); have HB := Lib.hid (below_on HB.out hl); clear hl
    have HR11 := Lib.hid (show Row _ b11 QA from HEA.out ▸ HR11.out)
    have HR12 := Lib.hid (show Row _ b12 QT from HET.out ▸ HR12.out)
    go_wp2_with (first
      | (guard_target = Go.wpList _ _ _ ((⟨some _, .load _ (.tmp 7), _, _, _, _⟩ : Go.Oper) :: _) _ _; refine step_load rfl _ rfl b7 rfl QA HR7.out ?_)
      | (guard_target = Go.wpList _ _ _ ((⟨some _, .load _ (.tmp 11), _, _, _, _⟩ : Go.Oper) :: _) _ _; refine step_load rfl _ rfl b11 rfl QA HR11.out ?_)
      | (guard_target = Go.wpList _ _ _ ((⟨some _, .load _ (.tmp 8), _, _, _, _⟩ : Go.Oper) :: _) _ _; refine step_load rfl _ rfl b8 rfl QT HR8.out ?_)
      | (guard_target = Go.wpList _ _ _ ((⟨some _, .load _ (.tmp 12), _, _, _, _⟩ : Go.Oper) :: _) _ _; refine step_load rfl _ rfl b12 rfl QT HR12.out ?_)
      | (guard_target = Go.wpList _ _ _ ((⟨some 80, .binOp _ _ _ _ _, _, _, _, _⟩ : Go.Oper) :: _) _ _; refine step_cmp (op := ⟨some 80, .binOp _ _ _ _ _, _, _, _, _⟩) rfl _ _ rfl QA QA rfl rfl HWA.out HWA.out true ⟨fun _ => rfl, fun _ => rfl⟩ ?_; simp only [Act.put, pa, pb, pc, Bool.not_false, Bool.not_true])
      | (guard_target = Go.wpList _ _ _ ((⟨some 84, .binOp _ _ _ _ _, _, _, _, _⟩ : Go.Oper) :: _) _ _; refine step_cmp (op := ⟨some 84, .binOp _ _ _ _ _, _, _, _, _⟩) rfl _ _ rfl QT QT rfl rfl HWT.out HWT.out true ⟨fun _ => rfl, fun _ => rfl⟩ ?_; simp only [Act.put, pa, pb, pc, Bool.not_false, Bool.not_true])
      | (go_at_call 12; refine (dr_awake _ (HT.out.on HB.out) (HK.out.on HB.out)).mono ?_; rintro e w6 ⟨rfl, hb⟩; have HB := Lib.hid (below_on HB.out hb); clear hb))
    go_ret
    exact ⟨rfl, HB.out⟩
  · intro o ho
    simp only [qa, qb, qc, qd] at ho; subst ho
    refine ⟨by kernel_rfl, fun wn hl Kx hKx => ?_⟩
    have HX0 := Lib.hid (HX0.out.trans (hl.mono HX0.out.size))
    have HR3 := Lib.hid (HR3.out.later hl); have HR7 := Lib.hid (HR7.out.later hl); have HR8 := Lib.hid (HR8.out.later hl); have HB := Lib.hid (below_on HB.out hl); clear hl
    refine mid_allocP rfl ?_; intro b12 wm N R
    have HD3_12 := Lib.hid (show b3 ≠ b12 from Nat.ne_of_lt (by have h1 := HR3.out.lt; have := N.at_; omega))
    have HD7_12 := Lib.hid (show b7 ≠ b12 from Nat.ne_of_lt (by have h1 := HR7.out.lt; have := N.at_; omega))
    have HD8_12 := Lib.hid (show b8 ≠ b12 from Nat.ne_of_lt (by have h1 := HR8.out.lt; have := N.at_; omega))
    have HG12 := Lib.hid (show wx0.heap.size ≤ b12 by have := HX0.out.size; have := N.at_; omega)
    have hb := N.below
    have HRn := Lib.hid R
    clear N R
    refine hKx.out _ _ (Kept.of_call _ hb) ?_
    have HX0 := Lib.hid (HX0.out.trans (hb.mono HX0.out.size))
    have HR3 := Lib.hid (HR3.out.later hb); have HR7 := Lib.hid (HR7.out.later hb); have HR8 := Lib.hid (HR8.out.later hb); have HB := Lib.hid (below_on HB.out hb); clear hb
    have HR12 := HRn; clear HRn
    clear hKx Kx
    simp only [Act.put, pa, pb, pc]
    refine Wid.mid_one 2 (by kernel_rfl) (by kernel_rfl) (by kernel_rfl) (fun o ho => ?_)
    simp only [qa, qb, qc, qd] at ho; subst ho
    refine ⟨by kernel_rfl, fun wn hl Kx hKx => ?_⟩
    have HX0 := Lib.hid (HX0.out.trans (hl.mono HX0.out.size))
    have HR3 := Lib.hid (HR3.out.later hl); have HR7 := Lib.hid (HR7.out.later hl); have HR8 := Lib.hid (HR8.out.later hl); have HR12 := Lib.hid (HR12.out.later hl); have HB := Lib.hid (below_on HB.out hl); clear hl
    refine mid_allocP rfl ?_; intro b11 wm N R
    have HD3_11 := Lib.hid (show b3 ≠ b11 from Nat.ne_of_lt (by have h1 := HR3.out.lt; have := N.at_; omega))
    have HD7_11 := Lib.hid (show b7 ≠ b11 from Nat.ne_of_lt (by have h1 := HR7.out.lt; have := N.at_; omega))
    have HD8_11 := Lib.hid (show b8 ≠ b11 from Nat.ne_of_lt (by have h1 := HR8.out.lt; have := N.at_; omega))
    have HD12_11 := Lib.hid (show b12 ≠ b11 from Nat.ne_of_lt (by have h1 := HR12.out.lt; have := N.at_; omega))
    have HG11 := Lib.hid (show wx0.heap.size ≤ b11 by have := HX0.out.size; have := N.at_; omega)
    have hb := N.below
    have HRn := Lib.hid R
    clear N R
    refine hKx.out _ _ (Kept.of_call _ hb) ?_
    have HX0 := Lib.hid (HX0.out.trans (hb.mono HX0.out.size))
    have HR3 := Lib.hid (HR3.out.later hb); have HR7 := Lib.hid (HR7.out.later hb); have HR8 := Lib.hid (HR8.out.later hb); have HR12 := Lib.hid (HR12.out.later hb); have HB := Lib.hid (below_on HB.out hb); clear hb
    have HR11 := HRn; clear HRn
    clear hKx Kx
    simp only [Act.put, pa, pb, pc]
    have HD11_12 := Lib.hid (Ne.symm HD12_11.out)
    refine Wid.mid_one 4 (by kernel_rfl) (by kernel_rfl) (by kernel_rfl) (fun o ho => ?_)
    simp only [qa, qb, qc, qd] at ho; subst ho
    refine ⟨by kernel_rfl, fun wn hl Kx hKx => ?_⟩
    have HR3 := Lib.hid (HR3.out.later hl); have HR7 := Lib.hid (HR7.out.later hl); have HR8 := Lib.hid (HR8.out.later hl); have HR11 := Lib.hid (HR11.out.later hl); have HR12 := Lib.hid (HR12.out.later hl); have HB := Lib.hid (below_on HB.out hl); clear hl
    refine mid_storeP _ _ rfl b11 rfl zeroP p rfl HR11.out ?_; intro wm U R
    have HR3 := Lib.hid (HR3.out.apart U HD3_11.out)
    have HR7 := Lib.hid (HR7.out.apart U HD7_11.out)
    have HR8 := Lib.hid (HR8.out.apart U HD8_11.out)
    have HR12 := Lib.hid (HR12.out.apart U HD12_11.out)
    refine hKx.out _ _ (kept_upd U HG11.out) ?_
    have HR11 := Lib.hid R; have HB := Lib.hid (HB.out.trans (U.below (Nat.le_trans HW0.out HG11.out))); clear U R
    clear hKx Kx
    simp only [Act.put, pa, pb, pc]
    refine Wid.mid_one 5 (by kernel_rfl) (by kernel_rfl) (by kernel_rfl) (fun o ho => ?_)
    simp only [qa, qb, qc, qd] at ho; subst ho
    refine ⟨by kernel_rfl, fun wn hl Kx hKx => ?_⟩
    have HR3 := Lib.hid (HR3.out.later hl); have HR7 := Lib.hid (HR7.out.later hl); have HR8 := Lib.hid (HR8.out.later hl); have HR11 := Lib.hid (HR11.out.later hl); have HR12 := Lib.hid (HR12.out.later hl); have HB := Lib.hid (below_on HB.out hl); clear hl
    refine mid_storeP _ _ rfl b12 rfl zeroP p rfl HR12.out ?_; intro wm U R
    have HR3 := Lib.hid (HR3.out.apart U HD3_12.out)
    have HR7 := Lib.hid (HR7.out.apart U HD7_12.out)
    have HR8 := Lib.hid (HR8.out.apart U HD8_12.out)
    have HR11 := Lib.hid (HR11.out.apart U HD11_12.out)
    refine hKx.out _ _ (kept_upd U HG12.out) ?_
    have HR12 := Lib.hid R; have HB := Lib.hid (HB.out.trans (U.below (Nat.le_trans HW0.out HG12.out))); clear U R
    clear hKx Kx
    simp only [Act.put, pa, pb, pc]
    refine Wid.mid_end (by kernel_rfl) (fun wn hl => ?_)
    have HR3 := Lib.hid (HR3.out.later hl); have HR7 := Lib.hid (HR7.out.later hl); have HR8 := Lib.hid (HR8.out.later hl); have HR11 := Lib.hid (HR11.out.later hl); have HR12 := Lib.hid (HR12.out.later hl); have HB := Lib.hid (below_on HB.out hl); clear hl
    have HR11 := Lib.hid (show Row _ b11 QA from HEA.out ▸ HR11.out)
    have HR12 := Lib.hid (show Row _ b12 QT from HET.out ▸ HR12.out)
    go_wp2_with (first
      | (guard_target = Go.wpList _ _ _ ((⟨some _, .load _ (.tmp 7), _, _, _, _⟩ : Go.Oper) :: _) _ _; refine step_load rfl _ rfl b7 rfl QA HR7.out ?_)
      | (guard_target = Go.wpList _ _ _ ((⟨some _, .load _ (.tmp 11), _, _, _, _⟩ : Go.Oper) :: _) _ _; refine step_load rfl _ rfl b11 rfl QA HR11.out ?_)
      | (guard_target = Go.wpList _ _ _ ((⟨some _, .load _ (.tmp 8), _, _, _, _⟩ : Go.Oper) :: _) _ _; refine step_load rfl _ rfl b8 rfl QT HR8.out ?_)
      | (guard_target = Go.wpList _ _ _ ((⟨some _, .load _ (.tmp 12), _, _, _, _⟩ : Go.Oper) :: _) _ _; refine step_load rfl _ rfl b12 rfl QT HR12.out ?_)
      | (guard_target = Go.wpList _ _ _ ((⟨some 80, .binOp _ _ _ _ _, _, _, _, _⟩ : Go.Oper) :: _) _ _; refine step_cmp (op := ⟨some 80, .binOp _ _ _ _ _, _, _, _, _⟩) rfl _ _ rfl QA QA rfl rfl HWA.out HWA.out true ⟨fun _ => rfl, fun _ => rfl⟩ ?_; simp only [Act.put, pa, pb, pc, Bool.not_false, Bool.not_true])
      | (guard_target = Go.wpList _ _ _ ((⟨some 84, .binOp _ _ _ _ _, _, _, _, _⟩ : Go.Oper) :: _) _ _; refine step_cmp (op := ⟨some 84, .binOp _ _ _ _ _, _, _, _, _⟩) rfl _ _ rfl QT QT rfl rfl HWT.out HWT.out true ⟨fun _ => rfl, fun _ => rfl⟩ ?_; simp only [Act.put, pa, pb, pc, Bool.not_false, Bool.not_true])
      | (go_at_call 12; refine (dr_awake _ (HT.out.on HB.out) (HK.out.on HB.out)).mono ?_; rintro e w6 ⟨rfl, hb⟩; have HB := Lib.hid (below_on HB.out hb); clear hb))
    go_ret
    exact ⟨rfl, HB.out⟩
set_option maxRecDepth 100000 in
set_option maxHeartbeats 4000000 in
theorem no_6 (p : Nat → Int) (c k : Int) (w0 : WfP p) (w : World) (hT : DrT w) (hK : TabKn w) (hc : 0 ≤ c) (h0 : c < 2) (h1 : 1 ≤ k) (h : 6 ≤ k) : Calls Tryd.prog 5 #[.agg (posA p), .int .u8 c, .int .u8 k] w fun e w' => e = .returned (.bool true) ∧ Below w.heap.size w w' := by
  have HT := Lib.hid hT
  have HK := Lib.hid hK
  have hp := DrR.of w0
  have HP := Lib.hid hp
  have HC := Lib.hid hc
  obtain ⟨QA, hQA⟩ : ∃ QA, p = QA := ⟨_, rfl⟩
  obtain ⟨QT, hQT⟩ : ∃ QT, p = QT := ⟨_, rfl⟩
  have HEA := Lib.hid hQA
  have HET := Lib.hid hQT
  have gh : hasP c k = false := hasP_false.2 (by omega)
  have HAd := Lib.hid (show addP p c k = QA by unfold addP; rw [gh]; exact hQA)
  have HNo := Lib.hid (show (helC p c k == 0) = true by rw [helC_out gh]; rfl)
  have HTk := Lib.hid (show takP p c k = QT by unfold takP; rw [HNo.out]; exact hQT)
  have HWA := Lib.hid (show WfP QA from hQA ▸ w0)
  have HWT := Lib.hid (show WfP QT from hQT ▸ w0)
  have f1 : decide (c < 2) = true := decide_eq_true (by omega)
  have f3 : decide (1 ≤ k) = true := decide_eq_true (by omega)
  have f5 : decide (k ≤ 5) = false := decide_eq_false (by omega)
  clear hT hK hp w0 hc gh hQA hQT
  have HB := Lib.hid (Below.refl w.heap.size w)
  go_enter Tryd.func5, Tryd.ntmps5
  go_wp2_with (first
    | (guard_target = Go.wpList _ _ _ ((⟨some 3, .box _ _, _, _, _, _⟩ : Go.Oper) :: _) _ _; refine step_box rfl _ rfl p rfl ?_; intro b3 w1 N R; have HG3 := Lib.hid (show w.heap.size ≤ b3 by have := HB.out.size; have := N.at_; omega); have HB := Lib.hid (below_on HB.out N.below); have HR3 := Lib.hid R; clear N R)
    | (guard_target = Go.wpList _ _ _ ((⟨some _, .load _ (.tmp 3), _, _, _, _⟩ : Go.Oper) :: _) _ _; refine step_load rfl _ rfl b3 rfl p HR3.out ?_)
    | (go_at_call 17; refine (addK HAd.out _ HC.out HP.out).mono ?_; rintro e w6 ⟨rfl, hb⟩; have HR3 := Lib.hid (HR3.out.later hb); have HB := Lib.hid (below_on HB.out hb); clear hb)
    | (guard_target = Go.wpList _ _ _ ((⟨some 7, .alloc _, _, _, _, _⟩ : Go.Oper) :: _) _ _; refine step_alloc (op := ⟨some 7, _, _, _, _, _⟩) rfl rfl ?_; intro b7 wn N R; have HG7 := Lib.hid (show w.heap.size ≤ b7 by have := HB.out.size; have := N.at_; omega); have HD3_7 := Lib.hid (show b3 ≠ b7 by have := HR3.out.lt; have := N.at_; omega); have HR3 := Lib.hid (HR3.out.later N.below); have HR7 := Lib.hid R; have HB := Lib.hid (below_on HB.out N.below); clear N R)
    | (guard_target = Go.wpList _ _ _ ((⟨none, .store _ (.tmp 7) _, _, _, _, _⟩ : Go.Oper) :: _) _ _; refine step_store (op := ⟨none, .store _ (.tmp 7) _, _, _, _, _⟩) rfl _ _ rfl b7 rfl zeroP QA rfl HR7.out ?_; intro wn U R; have HR3 := Lib.hid (HR3.out.apart U HD3_7.out); have HR7 := Lib.hid R; have HB := Lib.hid (HB.out.trans (U.below HG7.out)); clear U R)
    | (go_at_call 18; refine (takK HTk.out HNo.out _ HC.out HP.out).mono ?_; rintro e w6 ⟨rfl, hb⟩; have HR3 := Lib.hid (HR3.out.later hb); have HR7 := Lib.hid (HR7.out.later hb); have HB := Lib.hid (below_on HB.out hb); clear hb)
    | (guard_target = Go.wpList _ _ _ ((⟨some 8, .alloc _, _, _, _, _⟩ : Go.Oper) :: _) _ _; refine step_alloc (op := ⟨some 8, _, _, _, _, _⟩) rfl rfl ?_; intro b8 wn N R; have HG8 := Lib.hid (show w.heap.size ≤ b8 by have := HB.out.size; have := N.at_; omega); have HD3_8 := Lib.hid (show b3 ≠ b8 by have := HR3.out.lt; have := N.at_; omega); have HD7_8 := Lib.hid (show b7 ≠ b8 by have := HR7.out.lt; have := N.at_; omega); have HR3 := Lib.hid (HR3.out.later N.below); have HR7 := Lib.hid (HR7.out.later N.below); have HR8 := Lib.hid R; have HB := Lib.hid (below_on HB.out N.below); clear N R)
    | (guard_target = Go.wpList _ _ _ ((⟨none, .store _ (.tmp 8) _, _, _, _, _⟩ : Go.Oper) :: _) _ _; refine step_store (op := ⟨none, .store _ (.tmp 8) _, _, _, _, _⟩) rfl _ _ rfl b8 rfl zeroP QT rfl HR8.out ?_; intro wn U R; have HR3 := Lib.hid (HR3.out.apart U HD3_8.out); have HR7 := Lib.hid (HR7.out.apart U HD7_8.out); have HR8 := Lib.hid R; have HB := Lib.hid (HB.out.trans (U.below HG8.out)); clear U R))
  obtain ⟨wx0, hwx⟩ : ∃ wx0, wx0 = wn := ⟨_, rfl⟩
  have HW0 := Lib.hid (show w.heap.size ≤ wx0.heap.size by rw [hwx]; exact HB.out.size)
  have HL1 := Lib.hid (show b3 < wx0.heap.size by rw [hwx]; exact HR3.out.lt)
  have HX0 := Lib.hid (show Below wx0.heap.size wx0 wn by rw [hwx]; exact Below.refl _ _)
  clear hwx
  have HFm := Lib.hid (by kernel_rfl : Tryd.prog.follows .mixedOrders = true)
  refine (wpIn_wide (n := 1)).1 ?_
  refine Wid.mid_begin (X := (wx0.heap.size ≤ ·)) HFm.out ?_
  refine Wid.mid_take 0 (by kernel_rfl) (by kernel_rfl) (by kernel_rfl) (by kernel_rfl) (by kernel_rfl) (fun _ _ d _ _ h => by cases d <;> exact h) (fun o ho => ?_)
  simp only [qa, qb, qc, qd] at ho; subst ho
  refine ⟨_, Or.inl ⟨by kernel_rfl, fun w' hl => run_load _ rfl _ rfl p (show Row w' b3 p from (hl.same b3 HR3.out.lt (Nat.not_le.2 HL1.out)).trans HR3.out)⟩, ?_⟩
  simp only [Act.put, pa, pb, pc]
  refine Wid.mid_take 1 (by kernel_rfl) (by kernel_rfl) (by kernel_rfl) (by kernel_rfl) (by kernel_rfl) (fun _ _ d _ _ h => by cases d <;> exact h) (fun o ho => ?_)
  simp only [qa, qb, qc, qd] at ho; subst ho
  refine ⟨_, Or.inl ⟨by kernel_rfl, fun w' hl => run_load _ rfl _ rfl p (show Row w' b3 p from (hl.same b3 HR3.out.lt (Nat.not_le.2 HL1.out)).trans HR3.out)⟩, ?_⟩
  simp only [Act.put, pa, pb, pc]
  refine mid_some [2, 3] (by kernel_rfl) (by kernel_rfl) (by simp) (by kernel_rfl) (fun i hi => ?_)
  simp only [List.mem_cons, List.not_mem_nil, or_false] at hi
  rcases hi with rfl | rfl
  · intro o ho
    simp only [qa, qb, qc, qd] at ho; subst ho
    refine ⟨by kernel_rfl, fun wn hl Kx hKx => ?_⟩
    have HX0 := Lib.hid (HX0.out.trans (hl.mono HX0.out.size))
    have HR3 := Lib.hid (HR3.out.later hl); have HR7 := Lib.hid (HR7.out.later hl); have HR8 := Lib.hid (HR8.out.later hl); have HB := Lib.hid (below_on HB.out hl); clear hl
    refine mid_allocP rfl ?_; intro b11 wm N R
    have HD3_11 := Lib.hid (show b3 ≠ b11 from Nat.ne_of_lt (by have h1 := HR3.out.lt; have := N.at_; omega))
    have HD7_11 := Lib.hid (show b7 ≠ b11 from Nat.ne_of_lt (by have h1 := HR7.out.lt; have := N.at_; omega))
    have HD8_11 := Lib.hid (show b8 ≠ b11 from Nat.ne_of_lt (by have h1 := HR8.out.lt; have := N.at_; omega))
    have HG11 := Lib.hid (show wx0.heap.size ≤ b11 by have := HX0.out.size; have := N.at_; omega)
    have hb := N.below
    have HRn := Lib.hid R
    clear N R
    refine hKx.out _ _ (Kept.of_call _ hb) ?_
    have HX0 := Lib.hid (HX0.out.trans (hb.mono HX0.out.size))
    have HR3 := Lib.hid (HR3.out.later hb); have HR7 := Lib.hid (HR7.out.later hb); have HR8 := Lib.hid (HR8.out.later hb); have HB := Lib.hid (below_on HB.out hb); clear hb
    have HR11 := HRn; clear HRn
    clear hKx Kx
    simp only [Act.put, pa, pb, pc]
    refine Wid.mid_one 3 (by kernel_rfl) (by kernel_rfl) (by kernel_rfl) (fun o ho => ?_)
    simp only [qa, qb, qc, qd] at ho; subst ho
    refine ⟨by kernel_rfl, fun wn hl Kx hKx => ?_⟩
    have HX0 := Lib.hid (HX0.out.trans (hl.mono HX0.out.size))
    have HR3 := Lib.hid (HR3.out.later hl); have HR7 := Lib.hid (HR7.out.later hl); have HR8 := Lib.hid (HR8.out.later hl); have HR11 := Lib.hid (HR11.out.later hl); have HB := Lib.hid (below_on HB.out hl); clear hl
    refine mid_allocP rfl ?_; intro b12 wm N R
    have HD3_12 := Lib.hid (show b3 ≠ b12 from Nat.ne_of_lt (by have h1 := HR3.out.lt; have := N.at_; omega))
    have HD7_12 := Lib.hid (show b7 ≠ b12 from Nat.ne_of_lt (by have h1 := HR7.out.lt; have := N.at_; omega))
    have HD8_12 := Lib.hid (show b8 ≠ b12 from Nat.ne_of_lt (by have h1 := HR8.out.lt; have := N.at_; omega))
    have HD11_12 := Lib.hid (show b11 ≠ b12 from Nat.ne_of_lt (by have h1 := HR11.out.lt; have := N.at_; omega))
    have HG12 := Lib.hid (show wx0.heap.size ≤ b12 by have := HX0.out.size; have := N.at_; omega)
    have hb := N.below
    have HRn := Lib.hid R
    clear N R
    refine hKx.out _ _ (Kept.of_call _ hb) ?_
    have HX0 := Lib.hid (HX0.out.trans (hb.mono HX0.out.size))
    have HR3 := Lib.hid (HR3.out.later hb); have HR7 := Lib.hid (HR7.out.later hb); have HR8 := Lib.hid (HR8.out.later hb); have HR11 := Lib.hid (HR11.out.later hb); have HB := Lib.hid (below_on HB.out hb); clear hb
    have HR12 := HRn; clear HRn
    clear hKx Kx
    simp only [Act.put, pa, pb, pc]
    have HD12_11 := Lib.hid (Ne.symm HD11_12.out)
    refine Wid.mid_one 4 (by kernel_rfl) (by kernel_rfl) (by kernel_rfl) (fun o ho => ?_)
    simp only [qa, qb, qc, qd] at ho; subst ho
    refine ⟨by kernel_rfl, fun wn hl Kx hKx => ?_⟩
    have HR3 := Lib.hid (HR3.out.later hl); have HR7 := Lib.hid (HR7.out.later hl); have HR8 := Lib.hid (HR8.out.later hl); have HR11 := Lib.hid (HR11.out.later hl); have HR12 := Lib.hid (HR12.out.later hl); have HB := Lib.hid (below_on HB.out hl); clear hl
    refine mid_storeP _ _ rfl b11 rfl zeroP p rfl HR11.out ?_; intro wm U R
    have HR3 := Lib.hid (HR3.out.apart U HD3_11.out)
    have HR7 := Lib.hid (HR7.out.apart U HD7_11.out)
    have HR8 := Lib.hid (HR8.out.apart U HD8_11.out)
    have HR12 := Lib.hid (HR12.out.apart U HD12_11.out)
    refine hKx.out _ _ (kept_upd U HG11.out) ?_
    have HR11 := Lib.hid R; have HB := Lib.hid (HB.out.trans (U.below (Nat.le_trans HW0.out HG11.out))); clear U R
    clear hKx Kx
    simp only [Act.put, pa, pb, pc]
    refine Wid.mid_one 5 (by kernel_rfl) (by kernel_rfl) (by kernel_rfl) (fun o ho => ?_)
    simp only [qa, qb, qc, qd] at ho; subst ho
    refine ⟨by kernel_rfl, fun wn hl Kx hKx => ?_⟩
    have HR3 := Lib.hid (HR3.out.later hl); have HR7 := Lib.hid (HR7.out.later hl); have HR8 := Lib.hid (HR8.out.later hl); have HR11 := Lib.hid (HR11.out.later hl); have HR12 := Lib.hid (HR12.out.later hl); have HB := Lib.hid (below_on HB.out hl); clear hl
    refine mid_storeP _ _ rfl b12 rfl zeroP p rfl HR12.out ?_; intro wm U R
    have HR3 := Lib.hid (HR3.out.apart U HD3_12.out)
    have HR7 := Lib.hid (HR7.out.apart U HD7_12.out)
    have HR8 := Lib.hid (HR8.out.apart U HD8_12.out)
    have HR11 := Lib.hid (HR11.out.apart U HD11_12.out)
    refine hKx.out _ _ (kept_upd U HG12.out) ?_
    have HR12 := Lib.hid R; have HB := Lib.hid (HB.out.trans (U.below (Nat.le_trans HW0.out HG12.out))); clear U R
    clear hKx Kx
    simp only [Act.put, pa, pb, pc]
    refine Wid.mid_end (by kernel_rfl) (fun wn hl => ?_)
    have HR3 := Lib.hid (HR3.out.later hl); have HR7 := Lib.hid (HR7.out.later hl); have HR8 := Lib.hid (HR8.out.later hl); have HR11 := Lib.hid (HR11.out.later hl); have HR12 := Lib.hid (HR12.out.later hl); have HB := Lib.hid (below_on HB.out hl); clear hl
    have HR11 := Lib.hid (show Row _ b11 QA from HEA.out ▸ HR11.out)
    have HR12 := Lib.hid (show Row _ b12 QT from HET.out ▸ HR12.out)
    go_wp2_with (first
      | (guard_target = Go.wpList _ _ _ ((⟨some _, .load _ (.tmp 7), _, _, _, _⟩ : Go.Oper) :: _) _ _; refine step_load rfl _ rfl b7 rfl QA HR7.out ?_)
      | (guard_target = Go.wpList _ _ _ ((⟨some _, .load _ (.tmp 11), _, _, _, _⟩ : Go.Oper) :: _) _ _; refine step_load rfl _ rfl b11 rfl QA HR11.out ?_)
      | (guard_target = Go.wpList _ _ _ ((⟨some _, .load _ (.tmp 8), _, _, _, _⟩ : Go.Oper) :: _) _ _; refine step_load rfl _ rfl b8 rfl QT HR8.out ?_)
      | (guard_target = Go.wpList _ _ _ ((⟨some _, .load _ (.tmp 12), _, _, _, _⟩ : Go.Oper) :: _) _ _; refine step_load rfl _ rfl b12 rfl QT HR12.out ?_)
      | (guard_target = Go.wpList _ _ _ ((⟨some 80, .binOp _ _ _ _ _, _, _, _, _⟩ : Go.Oper) :: _) _ _; refine step_cmp (op := ⟨some 80, .binOp _ _ _ _ _, _, _, _, _⟩) rfl _ _ rfl QA QA rfl rfl HWA.out HWA.out true ⟨fun _ => rfl, fun _ => rfl⟩ ?_; simp only [Act.put, pa, pb, pc, Bool.not_false, Bool.not_true])
      | (guard_target = Go.wpList _ _ _ ((⟨some 84, .binOp _ _ _ _ _, _, _, _, _⟩ : Go.Oper) :: _) _ _; refine step_cmp (op := ⟨some 84, .binOp _ _ _ _ _, _, _, _, _⟩) rfl _ _ rfl QT QT rfl rfl HWT.out HWT.out true ⟨fun _ => rfl, fun _ => rfl⟩ ?_; simp only [Act.put, pa, pb, pc, Bool.not_false, Bool.not_true])
      | (go_at_call 12; refine (dr_awake _ (HT.out.on HB.out) (HK.out.on HB.out)).mono ?_; rintro e w6 ⟨rfl, hb⟩; have HB := Lib.hid (below_on HB.out hb); clear hb))
    go_ret
    exact ⟨rfl, HB.out⟩
  · intro o ho
    simp only [qa, qb, qc, qd] at ho; subst ho
    refine ⟨by kernel_rfl, fun wn hl Kx hKx => ?_⟩
    have HX0 := Lib.hid (HX0.out.trans (hl.mono HX0.out.size))
    have HR3 := Lib.hid (HR3.out.later hl); have HR7 := Lib.hid (HR7.out.later hl); have HR8 := Lib.hid (HR8.out.later hl); have HB := Lib.hid (below_on HB.out hl); clear hl
    refine mid_allocP rfl ?_; intro b12 wm N R
    have HD3_12 := Lib.hid (show b3 ≠ b12 from Nat.ne_of_lt (by have h1 := HR3.out.lt; have := N.at_; omega))
    have HD7_12 := Lib.hid (show b7 ≠ b12 from Nat.ne_of_lt (by have h1 := HR7.out.lt; have := N.at_; omega))
    have HD8_12 := Lib.hid (show b8 ≠ b12 from Nat.ne_of_lt (by have h1 := HR8.out.lt; have := N.at_; omega))
    have HG12 := Lib.hid (show wx0.heap.size ≤ b12 by have := HX0.out.size; have := N.at_; omega)
    have hb := N.below
    have HRn := Lib.hid R
    clear N R
    refine hKx.out _ _ (Kept.of_call _ hb) ?_
    have HX0 := Lib.hid (HX0.out.trans (hb.mono HX0.out.size))
    have HR3 := Lib.hid (HR3.out.later hb); have HR7 := Lib.hid (HR7.out.later hb); have HR8 := Lib.hid (HR8.out.later hb); have HB := Lib.hid (below_on HB.out hb); clear hb
    have HR12 := HRn; clear HRn
    clear hKx Kx
    simp only [Act.put, pa, pb, pc]
    refine Wid.mid_one 2 (by kernel_rfl) (by kernel_rfl) (by kernel_rfl) (fun o ho => ?_)
    simp only [qa, qb, qc, qd] at ho; subst ho
    refine ⟨by kernel_rfl, fun wn hl Kx hKx => ?_⟩
    have HX0 := Lib.hid (HX0.out.trans (hl.mono HX0.out.size))
    have HR3 := Lib.hid (HR3.out.later hl); have HR7 := Lib.hid (HR7.out.later hl); have HR8 := Lib.hid (HR8.out.later hl); have HR12 := Lib.hid (HR12.out.later hl); have HB := Lib.hid (below_on HB.out hl); clear hl
    refine mid_allocP rfl ?_; intro b11 wm N R
    have HD3_11 := Lib.hid (show b3 ≠ b11 from Nat.ne_of_lt (by have h1 := HR3.out.lt; have := N.at_; omega))
    have HD7_11 := Lib.hid (show b7 ≠ b11 from Nat.ne_of_lt (by have h1 := HR7.out.lt; have := N.at_; omega))
    have HD8_11 := Lib.hid (show b8 ≠ b11 from Nat.ne_of_lt (by have h1 := HR8.out.lt; have := N.at_; omega))
    have HD12_11 := Lib.hid (show b12 ≠ b11 from Nat.ne_of_lt (by have h1 := HR12.out.lt; have := N.at_; omega))
    have HG11 := Lib.hid (show wx0.heap.size ≤ b11 by have := HX0.out.size; have := N.at_; omega)
    have hb := N.below
    have HRn := Lib.hid R
    clear N R
    refine hKx.out _ _ (Kept.of_call _ hb) ?_
    have HX0 := Lib.hid (HX0.out.trans (hb.mono HX0.out.size))
    have HR3 := Lib.hid (HR3.out.later hb); have HR7 := Lib.hid (HR7.out.later hb); have HR8 := Lib.hid (HR8.out.later hb); have HR12 := Lib.hid (HR12.out.later hb); have HB := Lib.hid (below_on HB.out hb); clear hb
    have HR11 := HRn; clear HRn
    clear hKx Kx
    simp only [Act.put, pa, pb, pc]
    have HD11_12 := Lib.hid (Ne.symm HD12_11.out)
    refine Wid.mid_one 4 (by kernel_rfl) (by kernel_rfl) (by kernel_rfl) (fun o ho => ?_)
    simp only [qa, qb, qc, qd] at ho; subst ho
    refine ⟨by kernel_rfl, fun wn hl Kx hKx => ?_⟩
    have HR3 := Lib.hid (HR3.out.later hl); have HR7 := Lib.hid (HR7.out.later hl); have HR8 := Lib.hid (HR8.out.later hl); have HR11 := Lib.hid (HR11.out.later hl); have HR12 := Lib.hid (HR12.out.later hl); have HB := Lib.hid (below_on HB.out hl); clear hl
    refine mid_storeP _ _ rfl b11 rfl zeroP p rfl HR11.out ?_; intro wm U R
    have HR3 := Lib.hid (HR3.out.apart U HD3_11.out)
    have HR7 := Lib.hid (HR7.out.apart U HD7_11.out)
    have HR8 := Lib.hid (HR8.out.apart U HD8_11.out)
    have HR12 := Lib.hid (HR12.out.apart U HD12_11.out)
    refine hKx.out _ _ (kept_upd U HG11.out) ?_
    have HR11 := Lib.hid R; have HB := Lib.hid (HB.out.trans (U.below (Nat.le_trans HW0.out HG11.out))); clear U R
    clear hKx Kx
    simp only [Act.put, pa, pb, pc]
    refine Wid.mid_one 5 (by kernel_rfl) (by kernel_rfl) (by kernel_rfl) (fun o ho => ?_)
    simp only [qa, qb, qc, qd] at ho; subst ho
    refine ⟨by kernel_rfl, fun wn hl Kx hKx => ?_⟩
    have HR3 := Lib.hid (HR3.out.later hl); have HR7 := Lib.hid (HR7.out.later hl); have HR8 := Lib.hid (HR8.out.later hl); have HR11 := Lib.hid (HR11.out.later hl); have HR12 := Lib.hid (HR12.out.later hl); have HB := Lib.hid (below_on HB.out hl); clear hl
    refine mid_storeP _ _ rfl b12 rfl zeroP p rfl HR12.out ?_; intro wm U R
    have HR3 := Lib.hid (HR3.out.apart U HD3_12.out)
    have HR7 := Lib.hid (HR7.out.apart U HD7_12.out)
    have HR8 := Lib.hid (HR8.out.apart U HD8_12.out)
    have HR11 := Lib.hid (HR11.out.apart U HD11_12.out)
    refine hKx.out _ _ (kept_upd U HG12.out) ?_
    have HR12 := Lib.hid R; have HB := Lib.hid (HB.out.trans (U.below (Nat.le_trans HW0.out HG12.out))); clear U R
    clear hKx Kx
    simp only [Act.put, pa, pb, pc]
    refine Wid.mid_end (by kernel_rfl) (fun wn hl => ?_)
    have HR3 := Lib.hid (HR3.out.later hl); have HR7 := Lib.hid (HR7.out.later hl); have HR8 := Lib.hid (HR8.out.later hl); have HR11 := Lib.hid (HR11.out.later hl); have HR12 := Lib.hid (HR12.out.later hl); have HB := Lib.hid (below_on HB.out hl); clear hl
    have HR11 := Lib.hid (show Row _ b11 QA from HEA.out ▸ HR11.out)
    have HR12 := Lib.hid (show Row _ b12 QT from HET.out ▸ HR12.out)
    go_wp2_with (first
      | (guard_target = Go.wpList _ _ _ ((⟨some _, .load _ (.tmp 7), _, _, _, _⟩ : Go.Oper) :: _) _ _; refine step_load rfl _ rfl b7 rfl QA HR7.out ?_)
      | (guard_target = Go.wpList _ _ _ ((⟨some _, .load _ (.tmp 11), _, _, _, _⟩ : Go.Oper) :: _) _ _; refine step_load rfl _ rfl b11 rfl QA HR11.out ?_)
      | (guard_target = Go.wpList _ _ _ ((⟨some _, .load _ (.tmp 8), _, _, _, _⟩ : Go.Oper) :: _) _ _; refine step_load rfl _ rfl b8 rfl QT HR8.out ?_)
      | (guard_target = Go.wpList _ _ _ ((⟨some _, .load _ (.tmp 12), _, _, _, _⟩ : Go.Oper) :: _) _ _; refine step_load rfl _ rfl b12 rfl QT HR12.out ?_)
      | (guard_target = Go.wpList _ _ _ ((⟨some 80, .binOp _ _ _ _ _, _, _, _, _⟩ : Go.Oper) :: _) _ _; refine step_cmp (op := ⟨some 80, .binOp _ _ _ _ _, _, _, _, _⟩) rfl _ _ rfl QA QA rfl rfl HWA.out HWA.out true ⟨fun _ => rfl, fun _ => rfl⟩ ?_; simp only [Act.put, pa, pb, pc, Bool.not_false, Bool.not_true])
      | (guard_target = Go.wpList _ _ _ ((⟨some 84, .binOp _ _ _ _ _, _, _, _, _⟩ : Go.Oper) :: _) _ _; refine step_cmp (op := ⟨some 84, .binOp _ _ _ _ _, _, _, _, _⟩) rfl _ _ rfl QT QT rfl rfl HWT.out HWT.out true ⟨fun _ => rfl, fun _ => rfl⟩ ?_; simp only [Act.put, pa, pb, pc, Bool.not_false, Bool.not_true])
      | (go_at_call 12; refine (dr_awake _ (HT.out.on HB.out) (HK.out.on HB.out)).mono ?_; rintro e w6 ⟨rfl, hb⟩; have HB := Lib.hid (below_on HB.out hb); clear hb))
    go_ret
    exact ⟨rfl, HB.out⟩
set_option maxRecDepth 100000 in
set_option maxHeartbeats 4000000 in
theorem yes_t (p : Nat → Int) (c k : Nat) (w0 : WfP p) (w : World) (hT : DrT w) (hK : TabKn w) (hc1 : c ≤ 1) (hk1 : 1 ≤ k) (hk6 : k < 6) (hxx : 255 ≤ p (66 + c * 6 + k)) : Calls Tryd.prog 5 #[.agg (posA p), .int .u8 (c : Int), .int .u8 (k : Int)] w fun e w' => e = .returned (.bool true) ∧ Below w.heap.size w w' := by
  have HT := Lib.hid hT
  have HK := Lib.hid hK
  have hp := DrR.of w0
  have HP := Lib.hid hp
  have HC := Lib.hid (show 0 ≤ (c : Int) by omega)
  have HI := Lib.hid (show 66 ≤ 66 + c * 6 + k by omega)
  have HI2 := Lib.hid (show 66 + c * 6 + k < 78 by omega)
  have hr := hp.pk (66 + c * 6 + k) (by omega) (by omega)
  obtain ⟨x, hx⟩ : ∃ x, p (66 + c * 6 + k) = x := ⟨_, rfl⟩
  have HX := Lib.hid hx
  rw [hx] at hr hxx
  obtain ⟨QA, hQA⟩ : ∃ QA, p = QA := ⟨_, rfl⟩
  obtain ⟨QT, hQT⟩ : ∃ QT, upd p (66 + c * 6 + k) (x - 1) = QT := ⟨_, rfl⟩
  have HEA := Lib.hid hQA
  have HET := Lib.hid hQT
  have gh : hasP (c : Int) (k : Int) = true := hasP_true.2 (by omega)
  have gv : helC p (c : Int) (k : Int) = x := by rw [helC_yes gh, pkJ_at, hx]
  have gl : decide (x < 255) = false := decide_eq_false (by omega)
  have gg : decide (0 < x) = true := decide_eq_true (by omega)
  have HAd := Lib.hid (show addP p (c : Int) (k : Int) = QA by unfold addP; rw [gh, pkJ_at, hx, gl]; exact hQA)
  have HNo := Lib.hid (show (helC p (c : Int) (k : Int) == 0) = false by rw [gv]; rw [beq_eq_false_iff_ne]; omega)
  have HTk := Lib.hid (show takP p (c : Int) (k : Int) = QT by unfold takP; rw [HNo.out, pkJ_at, hx]; exact hQT)
  have HWA := Lib.hid (show WfP QA from hQA ▸ w0)
  have HWT := Lib.hid (show WfP QT from hQT ▸ wfP_pk w0 (by omega) (by omega) (by omega))
  have f1 : decide ((c : Int) < 2) = true := decide_eq_true (by omega)
  have f2 : decide (c < 2) = true := decide_eq_true (by omega)
  have f3 : decide (1 ≤ (k : Int)) = true := decide_eq_true (by omega)
  have f4 : decide (1 ≤ k) = true := decide_eq_true hk1
  have f5 : decide ((k : Int) ≤ 5) = true := decide_eq_true (by omega)
  have f6 : decide (k ≤ 5) = true := decide_eq_true (by omega)
  clear hT hK hp w0 gh hQA hQT hx gv
  have HB := Lib.hid (Below.refl w.heap.size w)
  go_enter Tryd.func5, Tryd.ntmps5
  go_wp2_with (first
    | (guard_target = Go.wpList _ _ _ ((⟨some 3, .box _ _, _, _, _, _⟩ : Go.Oper) :: _) _ _; refine step_box rfl _ rfl p rfl ?_; intro b3 w1 N R; have HG3 := Lib.hid (show w.heap.size ≤ b3 by have := HB.out.size; have := N.at_; omega); have HB := Lib.hid (below_on HB.out N.below); have HR3 := Lib.hid R; clear N R)
    | (guard_target = Go.wpList _ _ _ ((⟨some _, .load _ (.tmp 3), _, _, _, _⟩ : Go.Oper) :: _) _ _; refine step_load rfl _ rfl b3 rfl p HR3.out ?_)
    | (go_at_call 17; refine (addK HAd.out _ HC.out HP.out).mono ?_; rintro e w6 ⟨rfl, hb⟩; have HR3 := Lib.hid (HR3.out.later hb); have HB := Lib.hid (below_on HB.out hb); clear hb)
    | (guard_target = Go.wpList _ _ _ ((⟨some 7, .alloc _, _, _, _, _⟩ : Go.Oper) :: _) _ _; refine step_alloc (op := ⟨some 7, _, _, _, _, _⟩) rfl rfl ?_; intro b7 wn N R; have HG7 := Lib.hid (show w.heap.size ≤ b7 by have := HB.out.size; have := N.at_; omega); have HD3_7 := Lib.hid (show b3 ≠ b7 by have := HR3.out.lt; have := N.at_; omega); have HR3 := Lib.hid (HR3.out.later N.below); have HR7 := Lib.hid R; have HB := Lib.hid (below_on HB.out N.below); clear N R)
    | (guard_target = Go.wpList _ _ _ ((⟨none, .store _ (.tmp 7) _, _, _, _, _⟩ : Go.Oper) :: _) _ _; refine step_store (op := ⟨none, .store _ (.tmp 7) _, _, _, _, _⟩) rfl _ _ rfl b7 rfl zeroP QA rfl HR7.out ?_; intro wn U R; have HR3 := Lib.hid (HR3.out.apart U HD3_7.out); have HR7 := Lib.hid R; have HB := Lib.hid (HB.out.trans (U.below HG7.out)); clear U R)
    | (go_at_call 18; refine (takK HTk.out HNo.out _ HC.out HP.out).mono ?_; rintro e w6 ⟨rfl, hb⟩; have HR3 := Lib.hid (HR3.out.later hb); have HR7 := Lib.hid (HR7.out.later hb); have HB := Lib.hid (below_on HB.out hb); clear hb)
    | (guard_target = Go.wpList _ _ _ ((⟨some 8, .alloc _, _, _, _, _⟩ : Go.Oper) :: _) _ _; refine step_alloc (op := ⟨some 8, _, _, _, _, _⟩) rfl rfl ?_; intro b8 wn N R; have HG8 := Lib.hid (show w.heap.size ≤ b8 by have := HB.out.size; have := N.at_; omega); have HD3_8 := Lib.hid (show b3 ≠ b8 by have := HR3.out.lt; have := N.at_; omega); have HD7_8 := Lib.hid (show b7 ≠ b8 by have := HR7.out.lt; have := N.at_; omega); have HR3 := Lib.hid (HR3.out.later N.below); have HR7 := Lib.hid (HR7.out.later N.below); have HR8 := Lib.hid R; have HB := Lib.hid (below_on HB.out N.below); clear N R)
    | (guard_target = Go.wpList _ _ _ ((⟨none, .store _ (.tmp 8) _, _, _, _, _⟩ : Go.Oper) :: _) _ _; refine step_store (op := ⟨none, .store _ (.tmp 8) _, _, _, _, _⟩) rfl _ _ rfl b8 rfl zeroP QT rfl HR8.out ?_; intro wn U R; have HR3 := Lib.hid (HR3.out.apart U HD3_8.out); have HR7 := Lib.hid (HR7.out.apart U HD7_8.out); have HR8 := Lib.hid R; have HB := Lib.hid (HB.out.trans (U.below HG8.out)); clear U R))
  obtain ⟨wx0, hwx⟩ : ∃ wx0, wx0 = wn := ⟨_, rfl⟩
  have HW0 := Lib.hid (show w.heap.size ≤ wx0.heap.size by rw [hwx]; exact HB.out.size)
  have HL1 := Lib.hid (show b3 < wx0.heap.size by rw [hwx]; exact HR3.out.lt)
  have HX0 := Lib.hid (show Below wx0.heap.size wx0 wn by rw [hwx]; exact Below.refl _ _)
  clear hwx
  have HFm := Lib.hid (by kernel_rfl : Tryd.prog.follows .mixedOrders = true)
  refine (wpIn_wide (n := 1)).1 ?_
  refine Wid.mid_begin (X := (wx0.heap.size ≤ ·)) HFm.out ?_
  refine Wid.mid_take 0 (by kernel_rfl) (by kernel_rfl) (by kernel_rfl) (by kernel_rfl) (by kernel_rfl) (fun _ _ d _ _ h => by cases d <;> exact h) (fun o ho => ?_)
  simp only [qa, qb, qc, qd] at ho; subst ho
  refine ⟨_, Or.inl ⟨by kernel_rfl, fun w' hl => run_load _ rfl _ rfl p (show Row w' b3 p from (hl.same b3 HR3.out.lt (Nat.not_le.2 HL1.out)).trans HR3.out)⟩, ?_⟩
  simp only [Act.put, pa, pb, pc]
  refine Wid.mid_take 1 (by kernel_rfl) (by kernel_rfl) (by kernel_rfl) (by kernel_rfl) (by kernel_rfl) (fun _ _ d _ _ h => by cases d <;> exact h) (fun o ho => ?_)
  simp only [qa, qb, qc, qd] at ho; subst ho
  refine ⟨_, Or.inl ⟨by kernel_rfl, fun w' hl => run_load _ rfl _ rfl p (show Row w' b3 p from (hl.same b3 HR3.out.lt (Nat.not_le.2 HL1.out)).trans HR3.out)⟩, ?_⟩
  simp only [Act.put, pa, pb, pc]
  refine mid_some [2, 3] (by kernel_rfl) (by kernel_rfl) (by simp) (by kernel_rfl) (fun i hi => ?_)
  simp only [List.mem_cons, List.not_mem_nil, or_false] at hi
  rcases hi with rfl | rfl
  · intro o ho
    simp only [qa, qb, qc, qd] at ho; subst ho
    refine ⟨by kernel_rfl, fun wn hl Kx hKx => ?_⟩
    have HX0 := Lib.hid (HX0.out.trans (hl.mono HX0.out.size))
    have HR3 := Lib.hid (HR3.out.later hl); have HR7 := Lib.hid (HR7.out.later hl); have HR8 := Lib.hid (HR8.out.later hl); have HB := Lib.hid (below_on HB.out hl); clear hl
    refine mid_allocP rfl ?_; intro b11 wm N R
    have HD3_11 := Lib.hid (show b3 ≠ b11 from Nat.ne_of_lt (by have h1 := HR3.out.lt; have := N.at_; omega))
    have HD7_11 := Lib.hid (show b7 ≠ b11 from Nat.ne_of_lt (by have h1 := HR7.out.lt; have := N.at_; omega))
    have HD8_11 := Lib.hid (show b8 ≠ b11 from Nat.ne_of_lt (by have h1 := HR8.out.lt; have := N.at_; omega))
    have HG11 := Lib.hid (show wx0.heap.size ≤ b11 by have := HX0.out.size; have := N.at_; omega)
    have hb := N.below
    have HRn := Lib.hid R
    clear N R
    refine hKx.out _ _ (Kept.of_call _ hb) ?_
    have HX0 := Lib.hid (HX0.out.trans (hb.mono HX0.out.size))
    have HR3 := Lib.hid (HR3.out.later hb); have HR7 := Lib.hid (HR7.out.later hb); have HR8 := Lib.hid (HR8.out.later hb); have HB := Lib.hid (below_on HB.out hb); clear hb
    have HR11 := HRn; clear HRn
    clear hKx Kx
    simp only [Act.put, pa, pb, pc]
    refine Wid.mid_one 3 (by kernel_rfl) (by kernel_rfl) (by kernel_rfl) (fun o ho => ?_)
    simp only [qa, qb, qc, qd] at ho; subst ho
    refine ⟨by kernel_rfl, fun wn hl Kx hKx => ?_⟩
    have HX0 := Lib.hid (HX0.out.trans (hl.mono HX0.out.size))
    have HR3 := Lib.hid (HR3.out.later hl); have HR7 := Lib.hid (HR7.out.later hl); have HR8 := Lib.hid (HR8.out.later hl); have HR11 := Lib.hid (HR11.out.later hl); have HB := Lib.hid (below_on HB.out hl); clear hl
    refine mid_allocP rfl ?_; intro b12 wm N R
    have HD3_12 := Lib.hid (show b3 ≠ b12 from Nat.ne_of_lt (by have h1 := HR3.out.lt; have := N.at_; omega))
    have HD7_12 := Lib.hid (show b7 ≠ b12 from Nat.ne_of_lt (by have h1 := HR7.out.lt; have := N.at_; omega))
    have HD8_12 := Lib.hid (show b8 ≠ b12 from Nat.ne_of_lt (by have h1 := HR8.out.lt; have := N.at_; omega))
    have HD11_12 := Lib.hid (show b11 ≠ b12 from Nat.ne_of_lt (by have h1 := HR11.out.lt; have := N.at_; omega))
    have HG12 := Lib.hid (show wx0.heap.size ≤ b12 by have := HX0.out.size; have := N.at_; omega)
    have hb := N.below
    have HRn := Lib.hid R
    clear N R
    refine hKx.out _ _ (Kept.of_call _ hb) ?_
    have HX0 := Lib.hid (HX0.out.trans (hb.mono HX0.out.size))
    have HR3 := Lib.hid (HR3.out.later hb); have HR7 := Lib.hid (HR7.out.later hb); have HR8 := Lib.hid (HR8.out.later hb); have HR11 := Lib.hid (HR11.out.later hb); have HB := Lib.hid (below_on HB.out hb); clear hb
    have HR12 := HRn; clear HRn
    clear hKx Kx
    simp only [Act.put, pa, pb, pc]
    have HD12_11 := Lib.hid (Ne.symm HD11_12.out)
    refine Wid.mid_one 4 (by kernel_rfl) (by kernel_rfl) (by kernel_rfl) (fun o ho => ?_)
    simp only [qa, qb, qc, qd] at ho; subst ho
    refine ⟨by kernel_rfl, fun wn hl Kx hKx => ?_⟩
    have HR3 := Lib.hid (HR3.out.later hl); have HR7 := Lib.hid (HR7.out.later hl); have HR8 := Lib.hid (HR8.out.later hl); have HR11 := Lib.hid (HR11.out.later hl); have HR12 := Lib.hid (HR12.out.later hl); have HB := Lib.hid (below_on HB.out hl); clear hl
    refine mid_storeP _ _ rfl b11 rfl zeroP p rfl HR11.out ?_; intro wm U R
    have HR3 := Lib.hid (HR3.out.apart U HD3_11.out)
    have HR7 := Lib.hid (HR7.out.apart U HD7_11.out)
    have HR8 := Lib.hid (HR8.out.apart U HD8_11.out)
    have HR12 := Lib.hid (HR12.out.apart U HD12_11.out)
    refine hKx.out _ _ (kept_upd U HG11.out) ?_
    have HR11 := Lib.hid R; have HB := Lib.hid (HB.out.trans (U.below (Nat.le_trans HW0.out HG11.out))); clear U R
    clear hKx Kx
    simp only [Act.put, pa, pb, pc]
    refine Wid.mid_one 5 (by kernel_rfl) (by kernel_rfl) (by kernel_rfl) (fun o ho => ?_)
    simp only [qa, qb, qc, qd] at ho; subst ho
    refine ⟨by kernel_rfl, fun wn hl Kx hKx => ?_⟩
    have HR3 := Lib.hid (HR3.out.later hl); have HR7 := Lib.hid (HR7.out.later hl); have HR8 := Lib.hid (HR8.out.later hl); have HR11 := Lib.hid (HR11.out.later hl); have HR12 := Lib.hid (HR12.out.later hl); have HB := Lib.hid (below_on HB.out hl); clear hl
    refine mid_storeP _ _ rfl b12 rfl zeroP p rfl HR12.out ?_; intro wm U R
    have HR3 := Lib.hid (HR3.out.apart U HD3_12.out)
    have HR7 := Lib.hid (HR7.out.apart U HD7_12.out)
    have HR8 := Lib.hid (HR8.out.apart U HD8_12.out)
    have HR11 := Lib.hid (HR11.out.apart U HD11_12.out)
    refine hKx.out _ _ (kept_upd U HG12.out) ?_
    have HR12 := Lib.hid R; have HB := Lib.hid (HB.out.trans (U.below (Nat.le_trans HW0.out HG12.out))); clear U R
    clear hKx Kx
    simp only [Act.put, pa, pb, pc]
    refine Wid.mid_end (by kernel_rfl) (fun wn hl => ?_)
    have HR3 := Lib.hid (HR3.out.later hl); have HR7 := Lib.hid (HR7.out.later hl); have HR8 := Lib.hid (HR8.out.later hl); have HR11 := Lib.hid (HR11.out.later hl); have HR12 := Lib.hid (HR12.out.later hl); have HB := Lib.hid (below_on HB.out hl); clear hl
    have HR11 := Lib.hid (show Row _ b11 QA from HEA.out ▸ HR11.out)
    go_wp2_with (first
      | (guard_target = Go.wpList _ _ _ ((⟨some _, .load _ (.tmp 43), _, _, _, _⟩ : Go.Oper) :: _) _ _; refine step_get rfl 5 _ rfl b3 (66 + c * 6 + k) rfl Tryd.underlying5 rfl (.int .u8 x) ?_ ?_; exact (HR3.out.cell (66 + c * 6 + k) (by have := HI2.out; omega)).trans (by rw [kAt_pk HI.out HI2.out, HX.out]))
      | (guard_target = Go.wpList _ _ _ ((⟨some _, .load _ (.tmp 63), _, _, _, _⟩ : Go.Oper) :: _) _ _; refine step_get rfl 5 _ rfl b3 (66 + c * 6 + k) rfl Tryd.underlying5 rfl (.int .u8 x) ?_ ?_; exact (HR3.out.cell (66 + c * 6 + k) (by have := HI2.out; omega)).trans (by rw [kAt_pk HI.out HI2.out, HX.out])))
    refine late_begin 10 (by kernel_rfl) ?_
    refine ltk 0 (by kernel_rfl) (fun _ _ d _ _ h => by cases d <;> exact h) (fun o ho => ?_)
    simp only [qa, qb, qc, qd] at ho; subst ho
    apply Exists.intro
    refine ⟨Or.inl ⟨by kernel_rfl, fun w' hl => Or.inl ?_⟩, ?_⟩
    · (go_simp; try with_reducible rfl)
    simp only [Act.put, pa, pb, pc]
    refine ltk 1 (by kernel_rfl) (fun _ _ d _ _ h => by cases d <;> exact h) (fun o ho => ?_)
    simp only [qa, qb, qc, qd] at ho; subst ho
    apply Exists.intro
    refine ⟨Or.inl ⟨by kernel_rfl, fun w' hl => Or.inl ?_⟩, ?_⟩
    · (go_simp; try with_reducible rfl)
    simp only [Act.put, pa, pb, pc]
    refine ltk 2 (by kernel_rfl) (fun _ _ d _ _ h => by cases d <;> exact h) (fun o ho => ?_)
    simp only [qa, qb, qc, qd] at ho; subst ho
    apply Exists.intro
    refine ⟨Or.inl ⟨by kernel_rfl, fun w' hl => Or.inl ?_⟩, ?_⟩
    · (go_simp; try with_reducible rfl)
    simp only [Act.put, pa, pb, pc]
    refine ltk 3 (by kernel_rfl) (fun _ _ d _ _ h => by cases d <;> exact h) (fun o ho => ?_)
    simp only [qa, qb, qc, qd] at ho; subst ho
    refine ⟨.pointer (some ⟨b12, 66 + c * 6, none⟩), Or.inl ⟨by kernel_rfl, fun w' hl => Or.inl ?_⟩, ?_⟩
    · (go_simp; first | done | (with_reducible rfl) | (intro hbad; exfalso; omega))
    simp only [Act.put, pa, pb, pc]
    refine ltk 4 (by kernel_rfl) (fun _ _ d _ _ h => by cases d <;> exact h) (fun o ho => ?_)
    simp only [qa, qb, qc, qd] at ho; subst ho
    refine ⟨.pointer (some ⟨b12, 66 + c * 6 + k, none⟩), Or.inl ⟨by kernel_rfl, fun w' hl => Or.inl ?_⟩, ?_⟩
    · (go_simp; first | done | (with_reducible rfl) | (intro hbad; exfalso; omega))
    simp only [Act.put, pa, pb, pc]
    refine ltk 5 (by kernel_rfl) (fun _ _ d _ _ h => by cases d <;> exact h) (fun o ho => ?_)
    simp only [qa, qb, qc, qd] at ho; subst ho
    refine ⟨.int .u8 x, Or.inl ⟨by kernel_rfl, fun w' hl => Or.inl (run_get 5 _ rfl b12 (66 + c * 6 + k) rfl Tryd.underlying5 rfl (.int .u8 x) (((HR12.out.later hl).cell (66 + c * 6 + k) (by have := HI2.out; omega)).trans (by rw [kAt_pk HI.out HI2.out, HX.out])))⟩, ?_⟩
    simp only [Act.put, pa, pb, pc]
    refine ltk 6 (by kernel_rfl) (fun _ _ d _ _ h => by cases d <;> exact h) (fun o ho => ?_)
    simp only [qa, qb, qc, qd] at ho; subst ho
    refine ⟨.int .u8 (x - 1), Or.inl ⟨by kernel_rfl, fun w' hl => Or.inl ?_⟩, ?_⟩
    · go_simp; exact IntWalk.u8_in _ (by omega)
    simp only [Act.put, pa, pb, pc]
    refine late_takeD 7 [8, 9, 10] (by kernel_rfl) (by kernel_rfl) (by kernel_rfl) (by kernel_rfl) (by kernel_rfl) (fun _ _ d _ _ h => by cases d <;> exact h) (fun o ho => ?_)
    simp only [qa, qb, qc, qd] at ho; subst ho
    apply Exists.intro
    refine ⟨Or.inl ⟨by kernel_rfl, fun w' hl => Or.inl ?_⟩, ?_⟩
    · (go_simp; try with_reducible rfl)
    simp only [Act.put, pa, pb, pc]
    refine late_takeD 8 [9, 10] (by kernel_rfl) (by kernel_rfl) (by kernel_rfl) (by kernel_rfl) (by kernel_rfl) (fun _ _ d _ _ h => by cases d <;> exact h) (fun o ho => ?_)
    simp only [qa, qb, qc, qd] at ho; subst ho
    refine ⟨.pointer (some ⟨b12, 66 + c * 6, none⟩), Or.inl ⟨by kernel_rfl, fun w' hl => Or.inl ?_⟩, ?_⟩
    · (go_simp; first | done | (with_reducible rfl) | (intro hbad; exfalso; omega))
    simp only [Act.put, pa, pb, pc]
    refine ltk 9 (by kernel_rfl) (fun _ _ d _ _ h => by cases d <;> exact h) (fun o ho => ?_)
    simp only [qa, qb, qc, qd] at ho; subst ho
    refine ⟨.pointer (some ⟨b12, 66 + c * 6 + k, none⟩), Or.inl ⟨by kernel_rfl, fun w' hl => Or.inl ?_⟩, ?_⟩
    · (go_simp; first | done | (with_reducible rfl) | (intro hbad; exfalso; omega))
    simp only [Act.put, pa, pb, pc]
    refine late_last 10 (by kernel_rfl) (by kernel_rfl) (by kernel_rfl) (fun o ho => ?_)
    simp only [qa, qb, qc, qd] at ho; subst ho
    refine ⟨by kernel_rfl, fun wn hl K hK => ?_⟩
    have HR3 := Lib.hid (HR3.out.later hl); have HR7 := Lib.hid (HR7.out.later hl); have HR8 := Lib.hid (HR8.out.later hl); have HR11 := Lib.hid (HR11.out.later hl); have HR12 := Lib.hid (HR12.out.later hl); have HB := Lib.hid (below_on HB.out hl); clear hl
    refine late_cellD 5 _ _ rfl b12 (66 + c * 6 + k) rfl .u8 (x - 1) rfl p HR12.out (by have := HI2.out; omega) (kAt_pk HI.out HI2.out) size5 ?_; intro wm U R
    have HR3 := Lib.hid (HR3.out.apart U HD3_12.out)
    have HR7 := Lib.hid (HR7.out.apart U HD7_12.out)
    have HR8 := Lib.hid (HR8.out.apart U HD8_12.out)
    have HR11 := Lib.hid (HR11.out.apart U HD11_12.out)
    have HR12 := Lib.hid R; have HB := Lib.hid (HB.out.trans (U.below (Nat.le_trans HW0.out HG12.out))); clear U R
    refine hK.out _ _ ?_
    clear hK K
    simp only [Act.put, pa, pb, pc]
    have HR12 := Lib.hid (show Row _ b12 QT from HET.out ▸ HR12.out)
    go_wp2_with (first
      | (guard_target = Go.wpList _ _ _ ((⟨some _, .load _ (.tmp 7), _, _, _, _⟩ : Go.Oper) :: _) _ _; refine step_load rfl _ rfl b7 rfl QA HR7.out ?_)
      | (guard_target = Go.wpList _ _ _ ((⟨some _, .load _ (.tmp 11), _, _, _, _⟩ : Go.Oper) :: _) _ _; refine step_load rfl _ rfl b11 rfl QA HR11.out ?_)
      | (guard_target = Go.wpList _ _ _ ((⟨some _, .load _ (.tmp 8), _, _, _, _⟩ : Go.Oper) :: _) _ _; refine step_load rfl _ rfl b8 rfl QT HR8.out ?_)
      | (guard_target = Go.wpList _ _ _ ((⟨some _, .load _ (.tmp 12), _, _, _, _⟩ : Go.Oper) :: _) _ _; refine step_load rfl _ rfl b12 rfl QT HR12.out ?_)
      | (guard_target = Go.wpList _ _ _ ((⟨some 80, .binOp _ _ _ _ _, _, _, _, _⟩ : Go.Oper) :: _) _ _; refine step_cmp (op := ⟨some 80, .binOp _ _ _ _ _, _, _, _, _⟩) rfl _ _ rfl QA QA rfl rfl HWA.out HWA.out true ⟨fun _ => rfl, fun _ => rfl⟩ ?_; simp only [Act.put, pa, pb, pc, Bool.not_false, Bool.not_true])
      | (guard_target = Go.wpList _ _ _ ((⟨some 84, .binOp _ _ _ _ _, _, _, _, _⟩ : Go.Oper) :: _) _ _; refine step_cmp (op := ⟨some 84, .binOp _ _ _ _ _, _, _, _, _⟩) rfl _ _ rfl QT QT rfl rfl HWT.out HWT.out true ⟨fun _ => rfl, fun _ => rfl⟩ ?_; simp only [Act.put, pa, pb, pc, Bool.not_false, Bool.not_true])
      | (go_at_call 12; refine (dr_awake _ (HT.out.on HB.out) (HK.out.on HB.out)).mono ?_; rintro e w6 ⟨rfl, hb⟩; have HB := Lib.hid (below_on HB.out hb); clear hb)
      | (guard_target = Go.wpList _ _ _ ((⟨some _, .load _ (.tmp 43), _, _, _, _⟩ : Go.Oper) :: _) _ _; refine step_get rfl 5 _ rfl b3 (66 + c * 6 + k) rfl Tryd.underlying5 rfl (.int .u8 x) ?_ ?_; exact (HR3.out.cell (66 + c * 6 + k) (by have := HI2.out; omega)).trans (by rw [kAt_pk HI.out HI2.out, HX.out]))
      | (guard_target = Go.wpList _ _ _ ((⟨some _, .load _ (.tmp 63), _, _, _, _⟩ : Go.Oper) :: _) _ _; refine step_get rfl 5 _ rfl b3 (66 + c * 6 + k) rfl Tryd.underlying5 rfl (.int .u8 x) ?_ ?_; exact (HR3.out.cell (66 + c * 6 + k) (by have := HI2.out; omega)).trans (by rw [kAt_pk HI.out HI2.out, HX.out])))
    go_ret
    exact ⟨rfl, HB.out⟩
  · intro o ho
    simp only [qa, qb, qc, qd] at ho; subst ho
    refine ⟨by kernel_rfl, fun wn hl Kx hKx => ?_⟩
    have HX0 := Lib.hid (HX0.out.trans (hl.mono HX0.out.size))
    have HR3 := Lib.hid (HR3.out.later hl); have HR7 := Lib.hid (HR7.out.later hl); have HR8 := Lib.hid (HR8.out.later hl); have HB := Lib.hid (below_on HB.out hl); clear hl
    refine mid_allocP rfl ?_; intro b12 wm N R
    have HD3_12 := Lib.hid (show b3 ≠ b12 from Nat.ne_of_lt (by have h1 := HR3.out.lt; have := N.at_; omega))
    have HD7_12 := Lib.hid (show b7 ≠ b12 from Nat.ne_of_lt (by have h1 := HR7.out.lt; have := N.at_; omega))
    have HD8_12 := Lib.hid (show b8 ≠ b12 from Nat.ne_of_lt (by have h1 := HR8.out.lt; have := N.at_; omega))
    have HG12 := Lib.hid (show wx0.heap.size ≤ b12 by have := HX0.out.size; have := N.at_; omega)
    have hb := N.below
    have HRn := Lib.hid R
    clear N R
    refine hKx.out _ _ (Kept.of_call _ hb) ?_
    have HX0 := Lib.hid (HX0.out.trans (hb.mono HX0.out.size))
    have HR3 := Lib.hid (HR3.out.later hb); have HR7 := Lib.hid (HR7.out.later hb); have HR8 := Lib.hid (HR8.out.later hb); have HB := Lib.hid (below_on HB.out hb); clear hb
    have HR12 := HRn; clear HRn
    clear hKx Kx
    simp only [Act.put, pa, pb, pc]
    refine Wid.mid_one 2 (by kernel_rfl) (by kernel_rfl) (by kernel_rfl) (fun o ho => ?_)
    simp only [qa, qb, qc, qd] at ho; subst ho
    refine ⟨by kernel_rfl, fun wn hl Kx hKx => ?_⟩
    have HX0 := Lib.hid (HX0.out.trans (hl.mono HX0.out.size))
    have HR3 := Lib.hid (HR3.out.later hl); have HR7 := Lib.hid (HR7.out.later hl); have HR8 := Lib.hid (HR8.out.later hl); have HR12 := Lib.hid (HR12.out.later hl); have HB := Lib.hid (below_on HB.out hl); clear hl
    refine mid_allocP rfl ?_; intro b11 wm N R
    have HD3_11 := Lib.hid (show b3 ≠ b11 from Nat.ne_of_lt (by have h1 := HR3.out.lt; have := N.at_; omega))
    have HD7_11 := Lib.hid (show b7 ≠ b11 from Nat.ne_of_lt (by have h1 := HR7.out.lt; have := N.at_; omega))
    have HD8_11 := Lib.hid (show b8 ≠ b11 from Nat.ne_of_lt (by have h1 := HR8.out.lt; have := N.at_; omega))
    have HD12_11 := Lib.hid (show b12 ≠ b11 from Nat.ne_of_lt (by have h1 := HR12.out.lt; have := N.at_; omega))
    have HG11 := Lib.hid (show wx0.heap.size ≤ b11 by have := HX0.out.size; have := N.at_; omega)
    have hb := N.below
    have HRn := Lib.hid R
    clear N R
    refine hKx.out _ _ (Kept.of_call _ hb) ?_
    have HX0 := Lib.hid (HX0.out.trans (hb.mono HX0.out.size))
    have HR3 := Lib.hid (HR3.out.later hb); have HR7 := Lib.hid (HR7.out.later hb); have HR8 := Lib.hid (HR8.out.later hb); have HR12 := Lib.hid (HR12.out.later hb); have HB := Lib.hid (below_on HB.out hb); clear hb
    have HR11 := HRn; clear HRn
    clear hKx Kx
    simp only [Act.put, pa, pb, pc]
    have HD11_12 := Lib.hid (Ne.symm HD12_11.out)
    refine Wid.mid_one 4 (by kernel_rfl) (by kernel_rfl) (by kernel_rfl) (fun o ho => ?_)
    simp only [qa, qb, qc, qd] at ho; subst ho
    refine ⟨by kernel_rfl, fun wn hl Kx hKx => ?_⟩
    have HR3 := Lib.hid (HR3.out.later hl); have HR7 := Lib.hid (HR7.out.later hl); have HR8 := Lib.hid (HR8.out.later hl); have HR11 := Lib.hid (HR11.out.later hl); have HR12 := Lib.hid (HR12.out.later hl); have HB := Lib.hid (below_on HB.out hl); clear hl
    refine mid_storeP _ _ rfl b11 rfl zeroP p rfl HR11.out ?_; intro wm U R
    have HR3 := Lib.hid (HR3.out.apart U HD3_11.out)
    have HR7 := Lib.hid (HR7.out.apart U HD7_11.out)
    have HR8 := Lib.hid (HR8.out.apart U HD8_11.out)
    have HR12 := Lib.hid (HR12.out.apart U HD12_11.out)
    refine hKx.out _ _ (kept_upd U HG11.out) ?_
    have HR11 := Lib.hid R; have HB := Lib.hid (HB.out.trans (U.below (Nat.le_trans HW0.out HG11.out))); clear U R
    clear hKx Kx
    simp only [Act.put, pa, pb, pc]
    refine Wid.mid_one 5 (by kernel_rfl) (by kernel_rfl) (by kernel_rfl) (fun o ho => ?_)
    simp only [qa, qb, qc, qd] at ho; subst ho
    refine ⟨by kernel_rfl, fun wn hl Kx hKx => ?_⟩
    have HR3 := Lib.hid (HR3.out.later hl); have HR7 := Lib.hid (HR7.out.later hl); have HR8 := Lib.hid (HR8.out.later hl); have HR11 := Lib.hid (HR11.out.later hl); have HR12 := Lib.hid (HR12.out.later hl); have HB := Lib.hid (below_on HB.out hl); clear hl
    refine mid_storeP _ _ rfl b12 rfl zeroP p rfl HR12.out ?_; intro wm U R
    have HR3 := Lib.hid (HR3.out.apart U HD3_12.out)
    have HR7 := Lib.hid (HR7.out.apart U HD7_12.out)
    have HR8 := Lib.hid (HR8.out.apart U HD8_12.out)
    have HR11 := Lib.hid (HR11.out.apart U HD11_12.out)
    refine hKx.out _ _ (kept_upd U HG12.out) ?_
    have HR12 := Lib.hid R; have HB := Lib.hid (HB.out.trans (U.below (Nat.le_trans HW0.out HG12.out))); clear U R
    clear hKx Kx
    simp only [Act.put, pa, pb, pc]
    refine Wid.mid_end (by kernel_rfl) (fun wn hl => ?_)
    have HR3 := Lib.hid (HR3.out.later hl); have HR7 := Lib.hid (HR7.out.later hl); have HR8 := Lib.hid (HR8.out.later hl); have HR11 := Lib.hid (HR11.out.later hl); have HR12 := Lib.hid (HR12.out.later hl); have HB := Lib.hid (below_on HB.out hl); clear hl
    have HR11 := Lib.hid (show Row _ b11 QA from HEA.out ▸ HR11.out)
    go_wp2_with (first
      | (guard_target = Go.wpList _ _ _ ((⟨some _, .load _ (.tmp 43), _, _, _, _⟩ : Go.Oper) :: _) _ _; refine step_get rfl 5 _ rfl b3 (66 + c * 6 + k) rfl Tryd.underlying5 rfl (.int .u8 x) ?_ ?_; exact (HR3.out.cell (66 + c * 6 + k) (by have := HI2.out; omega)).trans (by rw [kAt_pk HI.out HI2.out, HX.out]))
      | (guard_target = Go.wpList _ _ _ ((⟨some _, .load _ (.tmp 63), _, _, _, _⟩ : Go.Oper) :: _) _ _; refine step_get rfl 5 _ rfl b3 (66 + c * 6 + k) rfl Tryd.underlying5 rfl (.int .u8 x) ?_ ?_; exact (HR3.out.cell (66 + c * 6 + k) (by have := HI2.out; omega)).trans (by rw [kAt_pk HI.out HI2.out, HX.out])))
    refine late_begin 10 (by kernel_rfl) ?_
    refine ltk 0 (by kernel_rfl) (fun _ _ d _ _ h => by cases d <;> exact h) (fun o ho => ?_)
    simp only [qa, qb, qc, qd] at ho; subst ho
    apply Exists.intro
    refine ⟨Or.inl ⟨by kernel_rfl, fun w' hl => Or.inl ?_⟩, ?_⟩
    · (go_simp; try with_reducible rfl)
    simp only [Act.put, pa, pb, pc]
    refine ltk 1 (by kernel_rfl) (fun _ _ d _ _ h => by cases d <;> exact h) (fun o ho => ?_)
    simp only [qa, qb, qc, qd] at ho; subst ho
    apply Exists.intro
    refine ⟨Or.inl ⟨by kernel_rfl, fun w' hl => Or.inl ?_⟩, ?_⟩
    · (go_simp; try with_reducible rfl)
    simp only [Act.put, pa, pb, pc]
    refine ltk 2 (by kernel_rfl) (fun _ _ d _ _ h => by cases d <;> exact h) (fun o ho => ?_)
    simp only [qa, qb, qc, qd] at ho; subst ho
    apply Exists.intro
    refine ⟨Or.inl ⟨by kernel_rfl, fun w' hl => Or.inl ?_⟩, ?_⟩
    · (go_simp; try with_reducible rfl)
    simp only [Act.put, pa, pb, pc]
    refine ltk 3 (by kernel_rfl) (fun _ _ d _ _ h => by cases d <;> exact h) (fun o ho => ?_)
    simp only [qa, qb, qc, qd] at ho; subst ho
    refine ⟨.pointer (some ⟨b12, 66 + c * 6, none⟩), Or.inl ⟨by kernel_rfl, fun w' hl => Or.inl ?_⟩, ?_⟩
    · (go_simp; first | done | (with_reducible rfl) | (intro hbad; exfalso; omega))
    simp only [Act.put, pa, pb, pc]
    refine ltk 4 (by kernel_rfl) (fun _ _ d _ _ h => by cases d <;> exact h) (fun o ho => ?_)
    simp only [qa, qb, qc, qd] at ho; subst ho
    refine ⟨.pointer (some ⟨b12, 66 + c * 6 + k, none⟩), Or.inl ⟨by kernel_rfl, fun w' hl => Or.inl ?_⟩, ?_⟩
    · (go_simp; first | done | (with_reducible rfl) | (intro hbad; exfalso; omega))
    simp only [Act.put, pa, pb, pc]
    refine ltk 5 (by kernel_rfl) (fun _ _ d _ _ h => by cases d <;> exact h) (fun o ho => ?_)
    simp only [qa, qb, qc, qd] at ho; subst ho
    refine ⟨.int .u8 x, Or.inl ⟨by kernel_rfl, fun w' hl => Or.inl (run_get 5 _ rfl b12 (66 + c * 6 + k) rfl Tryd.underlying5 rfl (.int .u8 x) (((HR12.out.later hl).cell (66 + c * 6 + k) (by have := HI2.out; omega)).trans (by rw [kAt_pk HI.out HI2.out, HX.out])))⟩, ?_⟩
    simp only [Act.put, pa, pb, pc]
    refine ltk 6 (by kernel_rfl) (fun _ _ d _ _ h => by cases d <;> exact h) (fun o ho => ?_)
    simp only [qa, qb, qc, qd] at ho; subst ho
    refine ⟨.int .u8 (x - 1), Or.inl ⟨by kernel_rfl, fun w' hl => Or.inl ?_⟩, ?_⟩
    · go_simp; exact IntWalk.u8_in _ (by omega)
    simp only [Act.put, pa, pb, pc]
    refine late_takeD 7 [8, 9, 10] (by kernel_rfl) (by kernel_rfl) (by kernel_rfl) (by kernel_rfl) (by kernel_rfl) (fun _ _ d _ _ h => by cases d <;> exact h) (fun o ho => ?_)
    simp only [qa, qb, qc, qd] at ho; subst ho
    apply Exists.intro
    refine ⟨Or.inl ⟨by kernel_rfl, fun w' hl => Or.inl ?_⟩, ?_⟩
    · (go_simp; try with_reducible rfl)
    simp only [Act.put, pa, pb, pc]
    refine late_takeD 8 [9, 10] (by kernel_rfl) (by kernel_rfl) (by kernel_rfl) (by kernel_rfl) (by kernel_rfl) (fun _ _ d _ _ h => by cases d <;> exact h) (fun o ho => ?_)
    simp only [qa, qb, qc, qd] at ho; subst ho
    refine ⟨.pointer (some ⟨b12, 66 + c * 6, none⟩), Or.inl ⟨by kernel_rfl, fun w' hl => Or.inl ?_⟩, ?_⟩
    · (go_simp; first | done | (with_reducible rfl) | (intro hbad; exfalso; omega))
    simp only [Act.put, pa, pb, pc]
    refine ltk 9 (by kernel_rfl) (fun _ _ d _ _ h => by cases d <;> exact h) (fun o ho => ?_)
    simp only [qa, qb, qc, qd] at ho; subst ho
    refine ⟨.pointer (some ⟨b12, 66 + c * 6 + k, none⟩), Or.inl ⟨by kernel_rfl, fun w' hl => Or.inl ?_⟩, ?_⟩
    · (go_simp; first | done | (with_reducible rfl) | (intro hbad; exfalso; omega))
    simp only [Act.put, pa, pb, pc]
    refine late_last 10 (by kernel_rfl) (by kernel_rfl) (by kernel_rfl) (fun o ho => ?_)
    simp only [qa, qb, qc, qd] at ho; subst ho
    refine ⟨by kernel_rfl, fun wn hl K hK => ?_⟩
    have HR3 := Lib.hid (HR3.out.later hl); have HR7 := Lib.hid (HR7.out.later hl); have HR8 := Lib.hid (HR8.out.later hl); have HR11 := Lib.hid (HR11.out.later hl); have HR12 := Lib.hid (HR12.out.later hl); have HB := Lib.hid (below_on HB.out hl); clear hl
    refine late_cellD 5 _ _ rfl b12 (66 + c * 6 + k) rfl .u8 (x - 1) rfl p HR12.out (by have := HI2.out; omega) (kAt_pk HI.out HI2.out) size5 ?_; intro wm U R
    have HR3 := Lib.hid (HR3.out.apart U HD3_12.out)
    have HR7 := Lib.hid (HR7.out.apart U HD7_12.out)
    have HR8 := Lib.hid (HR8.out.apart U HD8_12.out)
    have HR11 := Lib.hid (HR11.out.apart U HD11_12.out)
    have HR12 := Lib.hid R; have HB := Lib.hid (HB.out.trans (U.below (Nat.le_trans HW0.out HG12.out))); clear U R
    refine hK.out _ _ ?_
    clear hK K
    simp only [Act.put, pa, pb, pc]
    have HR12 := Lib.hid (show Row _ b12 QT from HET.out ▸ HR12.out)
    go_wp2_with (first
      | (guard_target = Go.wpList _ _ _ ((⟨some _, .load _ (.tmp 7), _, _, _, _⟩ : Go.Oper) :: _) _ _; refine step_load rfl _ rfl b7 rfl QA HR7.out ?_)
      | (guard_target = Go.wpList _ _ _ ((⟨some _, .load _ (.tmp 11), _, _, _, _⟩ : Go.Oper) :: _) _ _; refine step_load rfl _ rfl b11 rfl QA HR11.out ?_)
      | (guard_target = Go.wpList _ _ _ ((⟨some _, .load _ (.tmp 8), _, _, _, _⟩ : Go.Oper) :: _) _ _; refine step_load rfl _ rfl b8 rfl QT HR8.out ?_)
      | (guard_target = Go.wpList _ _ _ ((⟨some _, .load _ (.tmp 12), _, _, _, _⟩ : Go.Oper) :: _) _ _; refine step_load rfl _ rfl b12 rfl QT HR12.out ?_)
      | (guard_target = Go.wpList _ _ _ ((⟨some 80, .binOp _ _ _ _ _, _, _, _, _⟩ : Go.Oper) :: _) _ _; refine step_cmp (op := ⟨some 80, .binOp _ _ _ _ _, _, _, _, _⟩) rfl _ _ rfl QA QA rfl rfl HWA.out HWA.out true ⟨fun _ => rfl, fun _ => rfl⟩ ?_; simp only [Act.put, pa, pb, pc, Bool.not_false, Bool.not_true])
      | (guard_target = Go.wpList _ _ _ ((⟨some 84, .binOp _ _ _ _ _, _, _, _, _⟩ : Go.Oper) :: _) _ _; refine step_cmp (op := ⟨some 84, .binOp _ _ _ _ _, _, _, _, _⟩) rfl _ _ rfl QT QT rfl rfl HWT.out HWT.out true ⟨fun _ => rfl, fun _ => rfl⟩ ?_; simp only [Act.put, pa, pb, pc, Bool.not_false, Bool.not_true])
      | (go_at_call 12; refine (dr_awake _ (HT.out.on HB.out) (HK.out.on HB.out)).mono ?_; rintro e w6 ⟨rfl, hb⟩; have HB := Lib.hid (below_on HB.out hb); clear hb)
      | (guard_target = Go.wpList _ _ _ ((⟨some _, .load _ (.tmp 43), _, _, _, _⟩ : Go.Oper) :: _) _ _; refine step_get rfl 5 _ rfl b3 (66 + c * 6 + k) rfl Tryd.underlying5 rfl (.int .u8 x) ?_ ?_; exact (HR3.out.cell (66 + c * 6 + k) (by have := HI2.out; omega)).trans (by rw [kAt_pk HI.out HI2.out, HX.out]))
      | (guard_target = Go.wpList _ _ _ ((⟨some _, .load _ (.tmp 63), _, _, _, _⟩ : Go.Oper) :: _) _ _; refine step_get rfl 5 _ rfl b3 (66 + c * 6 + k) rfl Tryd.underlying5 rfl (.int .u8 x) ?_ ?_; exact (HR3.out.cell (66 + c * 6 + k) (by have := HI2.out; omega)).trans (by rw [kAt_pk HI.out HI2.out, HX.out])))
    go_ret
    exact ⟨rfl, HB.out⟩
set_option maxRecDepth 100000 in
set_option maxHeartbeats 4000000 in
theorem yes_a (p : Nat → Int) (c k : Nat) (w0 : WfP p) (w : World) (hT : DrT w) (hK : TabKn w) (hc1 : c ≤ 1) (hk1 : 1 ≤ k) (hk6 : k < 6) (hxx : p (66 + c * 6 + k) = 0) : Calls Tryd.prog 5 #[.agg (posA p), .int .u8 (c : Int), .int .u8 (k : Int)] w fun e w' => e = .returned (.bool true) ∧ Below w.heap.size w w' := by
  have HT := Lib.hid hT
  have HK := Lib.hid hK
  have hp := DrR.of w0
  have HP := Lib.hid hp
  have HC := Lib.hid (show 0 ≤ (c : Int) by omega)
  have HI := Lib.hid (show 66 ≤ 66 + c * 6 + k by omega)
  have HI2 := Lib.hid (show 66 + c * 6 + k < 78 by omega)
  have hr := hp.pk (66 + c * 6 + k) (by omega) (by omega)
  obtain ⟨x, hx⟩ : ∃ x, p (66 + c * 6 + k) = x := ⟨_, rfl⟩
  have HX := Lib.hid hx
  rw [hx] at hr hxx
  obtain ⟨QA, hQA⟩ : ∃ QA, upd p (66 + c * 6 + k) (x + 1) = QA := ⟨_, rfl⟩
  obtain ⟨QT, hQT⟩ : ∃ QT, p = QT := ⟨_, rfl⟩
  have HEA := Lib.hid hQA
  have HET := Lib.hid hQT
  have gh : hasP (c : Int) (k : Int) = true := hasP_true.2 (by omega)
  have gv : helC p (c : Int) (k : Int) = x := by rw [helC_yes gh, pkJ_at, hx]
  have gl : decide (x < 255) = true := decide_eq_true (by omega)
  have gg : decide (0 < x) = false := decide_eq_false (by omega)
  have HAd := Lib.hid (show addP p (c : Int) (k : Int) = QA by unfold addP; rw [gh, pkJ_at, hx, gl]; exact hQA)
  have HNo := Lib.hid (show (helC p (c : Int) (k : Int) == 0) = true by rw [gv]; rw [beq_iff_eq]; omega)
  have HTk := Lib.hid (show takP p (c : Int) (k : Int) = QT by unfold takP; rw [HNo.out]; exact hQT)
  have HWA := Lib.hid (show WfP QA from hQA ▸ wfP_pk w0 (by omega) (by omega) (by omega))
  have HWT := Lib.hid (show WfP QT from hQT ▸ w0)
  have f1 : decide ((c : Int) < 2) = true := decide_eq_true (by omega)
  have f2 : decide (c < 2) = true := decide_eq_true (by omega)
  have f3 : decide (1 ≤ (k : Int)) = true := decide_eq_true (by omega)
  have f4 : decide (1 ≤ k) = true := decide_eq_true hk1
  have f5 : decide ((k : Int) ≤ 5) = true := decide_eq_true (by omega)
  have f6 : decide (k ≤ 5) = true := decide_eq_true (by omega)
  clear hT hK hp w0 gh hQA hQT hx gv
  have HB := Lib.hid (Below.refl w.heap.size w)
  go_enter Tryd.func5, Tryd.ntmps5
  go_wp2_with (first
    | (guard_target = Go.wpList _ _ _ ((⟨some 3, .box _ _, _, _, _, _⟩ : Go.Oper) :: _) _ _; refine step_box rfl _ rfl p rfl ?_; intro b3 w1 N R; have HG3 := Lib.hid (show w.heap.size ≤ b3 by have := HB.out.size; have := N.at_; omega); have HB := Lib.hid (below_on HB.out N.below); have HR3 := Lib.hid R; clear N R)
    | (guard_target = Go.wpList _ _ _ ((⟨some _, .load _ (.tmp 3), _, _, _, _⟩ : Go.Oper) :: _) _ _; refine step_load rfl _ rfl b3 rfl p HR3.out ?_)
    | (go_at_call 17; refine (addK HAd.out _ HC.out HP.out).mono ?_; rintro e w6 ⟨rfl, hb⟩; have HR3 := Lib.hid (HR3.out.later hb); have HB := Lib.hid (below_on HB.out hb); clear hb)
    | (guard_target = Go.wpList _ _ _ ((⟨some 7, .alloc _, _, _, _, _⟩ : Go.Oper) :: _) _ _; refine step_alloc (op := ⟨some 7, _, _, _, _, _⟩) rfl rfl ?_; intro b7 wn N R; have HG7 := Lib.hid (show w.heap.size ≤ b7 by have := HB.out.size; have := N.at_; omega); have HD3_7 := Lib.hid (show b3 ≠ b7 by have := HR3.out.lt; have := N.at_; omega); have HR3 := Lib.hid (HR3.out.later N.below); have HR7 := Lib.hid R; have HB := Lib.hid (below_on HB.out N.below); clear N R)
    | (guard_target = Go.wpList _ _ _ ((⟨none, .store _ (.tmp 7) _, _, _, _, _⟩ : Go.Oper) :: _) _ _; refine step_store (op := ⟨none, .store _ (.tmp 7) _, _, _, _, _⟩) rfl _ _ rfl b7 rfl zeroP QA rfl HR7.out ?_; intro wn U R; have HR3 := Lib.hid (HR3.out.apart U HD3_7.out); have HR7 := Lib.hid R; have HB := Lib.hid (HB.out.trans (U.below HG7.out)); clear U R)
    | (go_at_call 18; refine (takK HTk.out HNo.out _ HC.out HP.out).mono ?_; rintro e w6 ⟨rfl, hb⟩; have HR3 := Lib.hid (HR3.out.later hb); have HR7 := Lib.hid (HR7.out.later hb); have HB := Lib.hid (below_on HB.out hb); clear hb)
    | (guard_target = Go.wpList _ _ _ ((⟨some 8, .alloc _, _, _, _, _⟩ : Go.Oper) :: _) _ _; refine step_alloc (op := ⟨some 8, _, _, _, _, _⟩) rfl rfl ?_; intro b8 wn N R; have HG8 := Lib.hid (show w.heap.size ≤ b8 by have := HB.out.size; have := N.at_; omega); have HD3_8 := Lib.hid (show b3 ≠ b8 by have := HR3.out.lt; have := N.at_; omega); have HD7_8 := Lib.hid (show b7 ≠ b8 by have := HR7.out.lt; have := N.at_; omega); have HR3 := Lib.hid (HR3.out.later N.below); have HR7 := Lib.hid (HR7.out.later N.below); have HR8 := Lib.hid R; have HB := Lib.hid (below_on HB.out N.below); clear N R)
    | (guard_target = Go.wpList _ _ _ ((⟨none, .store _ (.tmp 8) _, _, _, _, _⟩ : Go.Oper) :: _) _ _; refine step_store (op := ⟨none, .store _ (.tmp 8) _, _, _, _, _⟩) rfl _ _ rfl b8 rfl zeroP QT rfl HR8.out ?_; intro wn U R; have HR3 := Lib.hid (HR3.out.apart U HD3_8.out); have HR7 := Lib.hid (HR7.out.apart U HD7_8.out); have HR8 := Lib.hid R; have HB := Lib.hid (HB.out.trans (U.below HG8.out)); clear U R))
  obtain ⟨wx0, hwx⟩ : ∃ wx0, wx0 = wn := ⟨_, rfl⟩
  have HW0 := Lib.hid (show w.heap.size ≤ wx0.heap.size by rw [hwx]; exact HB.out.size)
  have HL1 := Lib.hid (show b3 < wx0.heap.size by rw [hwx]; exact HR3.out.lt)
  have HX0 := Lib.hid (show Below wx0.heap.size wx0 wn by rw [hwx]; exact Below.refl _ _)
  clear hwx
  have HFm := Lib.hid (by kernel_rfl : Tryd.prog.follows .mixedOrders = true)
  refine (wpIn_wide (n := 1)).1 ?_
  refine Wid.mid_begin (X := (wx0.heap.size ≤ ·)) HFm.out ?_
  refine Wid.mid_take 0 (by kernel_rfl) (by kernel_rfl) (by kernel_rfl) (by kernel_rfl) (by kernel_rfl) (fun _ _ d _ _ h => by cases d <;> exact h) (fun o ho => ?_)
  simp only [qa, qb, qc, qd] at ho; subst ho
  refine ⟨_, Or.inl ⟨by kernel_rfl, fun w' hl => run_load _ rfl _ rfl p (show Row w' b3 p from (hl.same b3 HR3.out.lt (Nat.not_le.2 HL1.out)).trans HR3.out)⟩, ?_⟩
  simp only [Act.put, pa, pb, pc]
  refine Wid.mid_take 1 (by kernel_rfl) (by kernel_rfl) (by kernel_rfl) (by kernel_rfl) (by kernel_rfl) (fun _ _ d _ _ h => by cases d <;> exact h) (fun o ho => ?_)
  simp only [qa, qb, qc, qd] at ho; subst ho
  refine ⟨_, Or.inl ⟨by kernel_rfl, fun w' hl => run_load _ rfl _ rfl p (show Row w' b3 p from (hl.same b3 HR3.out.lt (Nat.not_le.2 HL1.out)).trans HR3.out)⟩, ?_⟩
  simp only [Act.put, pa, pb, pc]
  refine mid_some [2, 3] (by kernel_rfl) (by kernel_rfl) (by simp) (by kernel_rfl) (fun i hi => ?_)
  simp only [List.mem_cons, List.not_mem_nil, or_false] at hi
  rcases hi with rfl | rfl
  · intro o ho
    simp only [qa, qb, qc, qd] at ho; subst ho
    refine ⟨by kernel_rfl, fun wn hl Kx hKx => ?_⟩
    have HX0 := Lib.hid (HX0.out.trans (hl.mono HX0.out.size))
    have HR3 := Lib.hid (HR3.out.later hl); have HR7 := Lib.hid (HR7.out.later hl); have HR8 := Lib.hid (HR8.out.later hl); have HB := Lib.hid (below_on HB.out hl); clear hl
    refine mid_allocP rfl ?_; intro b11 wm N R
    have HD3_11 := Lib.hid (show b3 ≠ b11 from Nat.ne_of_lt (by have h1 := HR3.out.lt; have := N.at_; omega))
    have HD7_11 := Lib.hid (show b7 ≠ b11 from Nat.ne_of_lt (by have h1 := HR7.out.lt; have := N.at_; omega))
    have HD8_11 := Lib.hid (show b8 ≠ b11 from Nat.ne_of_lt (by have h1 := HR8.out.lt; have := N.at_; omega))
    have HG11 := Lib.hid (show wx0.heap.size ≤ b11 by have := HX0.out.size; have := N.at_; omega)
    have hb := N.below
    have HRn := Lib.hid R
    clear N R
    refine hKx.out _ _ (Kept.of_call _ hb) ?_
    have HX0 := Lib.hid (HX0.out.trans (hb.mono HX0.out.size))
    have HR3 := Lib.hid (HR3.out.later hb); have HR7 := Lib.hid (HR7.out.later hb); have HR8 := Lib.hid (HR8.out.later hb); have HB := Lib.hid (below_on HB.out hb); clear hb
    have HR11 := HRn; clear HRn
    clear hKx Kx
    simp only [Act.put, pa, pb, pc]
    refine Wid.mid_one 3 (by kernel_rfl) (by kernel_rfl) (by kernel_rfl) (fun o ho => ?_)
    simp only [qa, qb, qc, qd] at ho; subst ho
    refine ⟨by kernel_rfl, fun wn hl Kx hKx => ?_⟩
    have HX0 := Lib.hid (HX0.out.trans (hl.mono HX0.out.size))
    have HR3 := Lib.hid (HR3.out.later hl); have HR7 := Lib.hid (HR7.out.later hl); have HR8 := Lib.hid (HR8.out.later hl); have HR11 := Lib.hid (HR11.out.later hl); have HB := Lib.hid (below_on HB.out hl); clear hl
    refine mid_allocP rfl ?_; intro b12 wm N R
    have HD3_12 := Lib.hid (show b3 ≠ b12 from Nat.ne_of_lt (by have h1 := HR3.out.lt; have := N.at_; omega))
    have HD7_12 := Lib.hid (show b7 ≠ b12 from Nat.ne_of_lt (by have h1 := HR7.out.lt; have := N.at_; omega))
    have HD8_12 := Lib.hid (show b8 ≠ b12 from Nat.ne_of_lt (by have h1 := HR8.out.lt; have := N.at_; omega))
    have HD11_12 := Lib.hid (show b11 ≠ b12 from Nat.ne_of_lt (by have h1 := HR11.out.lt; have := N.at_; omega))
    have HG12 := Lib.hid (show wx0.heap.size ≤ b12 by have := HX0.out.size; have := N.at_; omega)
    have hb := N.below
    have HRn := Lib.hid R
    clear N R
    refine hKx.out _ _ (Kept.of_call _ hb) ?_
    have HX0 := Lib.hid (HX0.out.trans (hb.mono HX0.out.size))
    have HR3 := Lib.hid (HR3.out.later hb); have HR7 := Lib.hid (HR7.out.later hb); have HR8 := Lib.hid (HR8.out.later hb); have HR11 := Lib.hid (HR11.out.later hb); have HB := Lib.hid (below_on HB.out hb); clear hb
    have HR12 := HRn; clear HRn
    clear hKx Kx
    simp only [Act.put, pa, pb, pc]
    have HD12_11 := Lib.hid (Ne.symm HD11_12.out)
    refine Wid.mid_one 4 (by kernel_rfl) (by kernel_rfl) (by kernel_rfl) (fun o ho => ?_)
    simp only [qa, qb, qc, qd] at ho; subst ho
    refine ⟨by kernel_rfl, fun wn hl Kx hKx => ?_⟩
    have HR3 := Lib.hid (HR3.out.later hl); have HR7 := Lib.hid (HR7.out.later hl); have HR8 := Lib.hid (HR8.out.later hl); have HR11 := Lib.hid (HR11.out.later hl); have HR12 := Lib.hid (HR12.out.later hl); have HB := Lib.hid (below_on HB.out hl); clear hl
    refine mid_storeP _ _ rfl b11 rfl zeroP p rfl HR11.out ?_; intro wm U R
    have HR3 := Lib.hid (HR3.out.apart U HD3_11.out)
    have HR7 := Lib.hid (HR7.out.apart U HD7_11.out)
    have HR8 := Lib.hid (HR8.out.apart U HD8_11.out)
    have HR12 := Lib.hid (HR12.out.apart U HD12_11.out)
    refine hKx.out _ _ (kept_upd U HG11.out) ?_
    have HR11 := Lib.hid R; have HB := Lib.hid (HB.out.trans (U.below (Nat.le_trans HW0.out HG11.out))); clear U R
    clear hKx Kx
    simp only [Act.put, pa, pb, pc]
    refine Wid.mid_one 5 (by kernel_rfl) (by kernel_rfl) (by kernel_rfl) (fun o ho => ?_)
    simp only [qa, qb, qc, qd] at ho; subst ho
    refine ⟨by kernel_rfl, fun wn hl Kx hKx => ?_⟩
    have HR3 := Lib.hid (HR3.out.later hl); have HR7 := Lib.hid (HR7.out.later hl); have HR8 := Lib.hid (HR8.out.later hl); have HR11 := Lib.hid (HR11.out.later hl); have HR12 := Lib.hid (HR12.out.later hl); have HB := Lib.hid (below_on HB.out hl); clear hl
    refine mid_storeP _ _ rfl b12 rfl zeroP p rfl HR12.out ?_; intro wm U R
    have HR3 := Lib.hid (HR3.out.apart U HD3_12.out)
    have HR7 := Lib.hid (HR7.out.apart U HD7_12.out)
    have HR8 := Lib.hid (HR8.out.apart U HD8_12.out)
    have HR11 := Lib.hid (HR11.out.apart U HD11_12.out)
    refine hKx.out _ _ (kept_upd U HG12.out) ?_
    have HR12 := Lib.hid R; have HB := Lib.hid (HB.out.trans (U.below (Nat.le_trans HW0.out HG12.out))); clear U R
    clear hKx Kx
    simp only [Act.put, pa, pb, pc]
    refine Wid.mid_end (by kernel_rfl) (fun wn hl => ?_)
    have HR3 := Lib.hid (HR3.out.later hl); have HR7 := Lib.hid (HR7.out.later hl); have HR8 := Lib.hid (HR8.out.later hl); have HR11 := Lib.hid (HR11.out.later hl); have HR12 := Lib.hid (HR12.out.later hl); have HB := Lib.hid (below_on HB.out hl); clear hl
    have HR12 := Lib.hid (show Row _ b12 QT from HET.out ▸ HR12.out)
    go_wp2_with (first
      | (guard_target = Go.wpList _ _ _ ((⟨some _, .load _ (.tmp 43), _, _, _, _⟩ : Go.Oper) :: _) _ _; refine step_get rfl 5 _ rfl b3 (66 + c * 6 + k) rfl Tryd.underlying5 rfl (.int .u8 x) ?_ ?_; exact (HR3.out.cell (66 + c * 6 + k) (by have := HI2.out; omega)).trans (by rw [kAt_pk HI.out HI2.out, HX.out]))
      | (guard_target = Go.wpList _ _ _ ((⟨some _, .load _ (.tmp 63), _, _, _, _⟩ : Go.Oper) :: _) _ _; refine step_get rfl 5 _ rfl b3 (66 + c * 6 + k) rfl Tryd.underlying5 rfl (.int .u8 x) ?_ ?_; exact (HR3.out.cell (66 + c * 6 + k) (by have := HI2.out; omega)).trans (by rw [kAt_pk HI.out HI2.out, HX.out])))
    refine late_begin 10 (by kernel_rfl) ?_
    refine ltk 0 (by kernel_rfl) (fun _ _ d _ _ h => by cases d <;> exact h) (fun o ho => ?_)
    simp only [qa, qb, qc, qd] at ho; subst ho
    apply Exists.intro
    refine ⟨Or.inl ⟨by kernel_rfl, fun w' hl => Or.inl ?_⟩, ?_⟩
    · (go_simp; try with_reducible rfl)
    simp only [Act.put, pa, pb, pc]
    refine ltk 1 (by kernel_rfl) (fun _ _ d _ _ h => by cases d <;> exact h) (fun o ho => ?_)
    simp only [qa, qb, qc, qd] at ho; subst ho
    apply Exists.intro
    refine ⟨Or.inl ⟨by kernel_rfl, fun w' hl => Or.inl ?_⟩, ?_⟩
    · (go_simp; try with_reducible rfl)
    simp only [Act.put, pa, pb, pc]
    refine ltk 2 (by kernel_rfl) (fun _ _ d _ _ h => by cases d <;> exact h) (fun o ho => ?_)
    simp only [qa, qb, qc, qd] at ho; subst ho
    apply Exists.intro
    refine ⟨Or.inl ⟨by kernel_rfl, fun w' hl => Or.inl ?_⟩, ?_⟩
    · (go_simp; try with_reducible rfl)
    simp only [Act.put, pa, pb, pc]
    refine ltk 3 (by kernel_rfl) (fun _ _ d _ _ h => by cases d <;> exact h) (fun o ho => ?_)
    simp only [qa, qb, qc, qd] at ho; subst ho
    refine ⟨.pointer (some ⟨b11, 66 + c * 6, none⟩), Or.inl ⟨by kernel_rfl, fun w' hl => Or.inl ?_⟩, ?_⟩
    · (go_simp; first | done | (with_reducible rfl) | (intro hbad; exfalso; omega))
    simp only [Act.put, pa, pb, pc]
    refine ltk 4 (by kernel_rfl) (fun _ _ d _ _ h => by cases d <;> exact h) (fun o ho => ?_)
    simp only [qa, qb, qc, qd] at ho; subst ho
    refine ⟨.pointer (some ⟨b11, 66 + c * 6 + k, none⟩), Or.inl ⟨by kernel_rfl, fun w' hl => Or.inl ?_⟩, ?_⟩
    · (go_simp; first | done | (with_reducible rfl) | (intro hbad; exfalso; omega))
    simp only [Act.put, pa, pb, pc]
    refine ltk 5 (by kernel_rfl) (fun _ _ d _ _ h => by cases d <;> exact h) (fun o ho => ?_)
    simp only [qa, qb, qc, qd] at ho; subst ho
    refine ⟨.int .u8 x, Or.inl ⟨by kernel_rfl, fun w' hl => Or.inl (run_get 5 _ rfl b11 (66 + c * 6 + k) rfl Tryd.underlying5 rfl (.int .u8 x) (((HR11.out.later hl).cell (66 + c * 6 + k) (by have := HI2.out; omega)).trans (by rw [kAt_pk HI.out HI2.out, HX.out])))⟩, ?_⟩
    simp only [Act.put, pa, pb, pc]
    refine ltk 6 (by kernel_rfl) (fun _ _ d _ _ h => by cases d <;> exact h) (fun o ho => ?_)
    simp only [qa, qb, qc, qd] at ho; subst ho
    refine ⟨.int .u8 (x + 1), Or.inl ⟨by kernel_rfl, fun w' hl => Or.inl ?_⟩, ?_⟩
    · go_simp; exact IntWalk.u8_in _ (by omega)
    simp only [Act.put, pa, pb, pc]
    refine late_takeD 7 [8, 9, 10] (by kernel_rfl) (by kernel_rfl) (by kernel_rfl) (by kernel_rfl) (by kernel_rfl) (fun _ _ d _ _ h => by cases d <;> exact h) (fun o ho => ?_)
    simp only [qa, qb, qc, qd] at ho; subst ho
    apply Exists.intro
    refine ⟨Or.inl ⟨by kernel_rfl, fun w' hl => Or.inl ?_⟩, ?_⟩
    · (go_simp; try with_reducible rfl)
    simp only [Act.put, pa, pb, pc]
    refine late_takeD 8 [9, 10] (by kernel_rfl) (by kernel_rfl) (by kernel_rfl) (by kernel_rfl) (by kernel_rfl) (fun _ _ d _ _ h => by cases d <;> exact h) (fun o ho => ?_)
    simp only [qa, qb, qc, qd] at ho; subst ho
    refine ⟨.pointer (some ⟨b11, 66 + c * 6, none⟩), Or.inl ⟨by kernel_rfl, fun w' hl => Or.inl ?_⟩, ?_⟩
    · (go_simp; first | done | (with_reducible rfl) | (intro hbad; exfalso; omega))
    simp only [Act.put, pa, pb, pc]
    refine ltk 9 (by kernel_rfl) (fun _ _ d _ _ h => by cases d <;> exact h) (fun o ho => ?_)
    simp only [qa, qb, qc, qd] at ho; subst ho
    refine ⟨.pointer (some ⟨b11, 66 + c * 6 + k, none⟩), Or.inl ⟨by kernel_rfl, fun w' hl => Or.inl ?_⟩, ?_⟩
    · (go_simp; first | done | (with_reducible rfl) | (intro hbad; exfalso; omega))
    simp only [Act.put, pa, pb, pc]
    refine late_last 10 (by kernel_rfl) (by kernel_rfl) (by kernel_rfl) (fun o ho => ?_)
    simp only [qa, qb, qc, qd] at ho; subst ho
    refine ⟨by kernel_rfl, fun wn hl K hK => ?_⟩
    have HR3 := Lib.hid (HR3.out.later hl); have HR7 := Lib.hid (HR7.out.later hl); have HR8 := Lib.hid (HR8.out.later hl); have HR11 := Lib.hid (HR11.out.later hl); have HR12 := Lib.hid (HR12.out.later hl); have HB := Lib.hid (below_on HB.out hl); clear hl
    refine late_cellD 5 _ _ rfl b11 (66 + c * 6 + k) rfl .u8 (x + 1) rfl p HR11.out (by have := HI2.out; omega) (kAt_pk HI.out HI2.out) size5 ?_; intro wm U R
    have HR3 := Lib.hid (HR3.out.apart U HD3_11.out)
    have HR7 := Lib.hid (HR7.out.apart U HD7_11.out)
    have HR8 := Lib.hid (HR8.out.apart U HD8_11.out)
    have HR12 := Lib.hid (HR12.out.apart U HD12_11.out)
    have HR11 := Lib.hid R; have HB := Lib.hid (HB.out.trans (U.below (Nat.le_trans HW0.out HG11.out))); clear U R
    refine hK.out _ _ ?_
    clear hK K
    simp only [Act.put, pa, pb, pc]
    have HR11 := Lib.hid (show Row _ b11 QA from HEA.out ▸ HR11.out)
    go_wp2_with (first
      | (guard_target = Go.wpList _ _ _ ((⟨some _, .load _ (.tmp 7), _, _, _, _⟩ : Go.Oper) :: _) _ _; refine step_load rfl _ rfl b7 rfl QA HR7.out ?_)
      | (guard_target = Go.wpList _ _ _ ((⟨some _, .load _ (.tmp 11), _, _, _, _⟩ : Go.Oper) :: _) _ _; refine step_load rfl _ rfl b11 rfl QA HR11.out ?_)
      | (guard_target = Go.wpList _ _ _ ((⟨some _, .load _ (.tmp 8), _, _, _, _⟩ : Go.Oper) :: _) _ _; refine step_load rfl _ rfl b8 rfl QT HR8.out ?_)
      | (guard_target = Go.wpList _ _ _ ((⟨some _, .load _ (.tmp 12), _, _, _, _⟩ : Go.Oper) :: _) _ _; refine step_load rfl _ rfl b12 rfl QT HR12.out ?_)
      | (guard_target = Go.wpList _ _ _ ((⟨some 80, .binOp _ _ _ _ _, _, _, _, _⟩ : Go.Oper) :: _) _ _; refine step_cmp (op := ⟨some 80, .binOp _ _ _ _ _, _, _, _, _⟩) rfl _ _ rfl QA QA rfl rfl HWA.out HWA.out true ⟨fun _ => rfl, fun _ => rfl⟩ ?_; simp only [Act.put, pa, pb, pc, Bool.not_false, Bool.not_true])
      | (guard_target = Go.wpList _ _ _ ((⟨some 84, .binOp _ _ _ _ _, _, _, _, _⟩ : Go.Oper) :: _) _ _; refine step_cmp (op := ⟨some 84, .binOp _ _ _ _ _, _, _, _, _⟩) rfl _ _ rfl QT QT rfl rfl HWT.out HWT.out true ⟨fun _ => rfl, fun _ => rfl⟩ ?_; simp only [Act.put, pa, pb, pc, Bool.not_false, Bool.not_true])
      | (go_at_call 12; refine (dr_awake _ (HT.out.on HB.out) (HK.out.on HB.out)).mono ?_; rintro e w6 ⟨rfl, hb⟩; have HB := Lib.hid (below_on HB.out hb); clear hb)
      | (guard_target = Go.wpList _ _ _ ((⟨some _, .load _ (.tmp 43), _, _, _, _⟩ : Go.Oper) :: _) _ _; refine step_get rfl 5 _ rfl b3 (66 + c * 6 + k) rfl Tryd.underlying5 rfl (.int .u8 x) ?_ ?_; exact (HR3.out.cell (66 + c * 6 + k) (by have := HI2.out; omega)).trans (by rw [kAt_pk HI.out HI2.out, HX.out]))
      | (guard_target = Go.wpList _ _ _ ((⟨some _, .load _ (.tmp 63), _, _, _, _⟩ : Go.Oper) :: _) _ _; refine step_get rfl 5 _ rfl b3 (66 + c * 6 + k) rfl Tryd.underlying5 rfl (.int .u8 x) ?_ ?_; exact (HR3.out.cell (66 + c * 6 + k) (by have := HI2.out; omega)).trans (by rw [kAt_pk HI.out HI2.out, HX.out])))
    go_ret
    exact ⟨rfl, HB.out⟩
  · intro o ho
    simp only [qa, qb, qc, qd] at ho; subst ho
    refine ⟨by kernel_rfl, fun wn hl Kx hKx => ?_⟩
    have HX0 := Lib.hid (HX0.out.trans (hl.mono HX0.out.size))
    have HR3 := Lib.hid (HR3.out.later hl); have HR7 := Lib.hid (HR7.out.later hl); have HR8 := Lib.hid (HR8.out.later hl); have HB := Lib.hid (below_on HB.out hl); clear hl
    refine mid_allocP rfl ?_; intro b12 wm N R
    have HD3_12 := Lib.hid (show b3 ≠ b12 from Nat.ne_of_lt (by have h1 := HR3.out.lt; have := N.at_; omega))
    have HD7_12 := Lib.hid (show b7 ≠ b12 from Nat.ne_of_lt (by have h1 := HR7.out.lt; have := N.at_; omega))
    have HD8_12 := Lib.hid (show b8 ≠ b12 from Nat.ne_of_lt (by have h1 := HR8.out.lt; have := N.at_; omega))
    have HG12 := Lib.hid (show wx0.heap.size ≤ b12 by have := HX0.out.size; have := N.at_; omega)
    have hb := N.below
    have HRn := Lib.hid R
    clear N R
    refine hKx.out _ _ (Kept.of_call _ hb) ?_
    have HX0 := Lib.hid (HX0.out.trans (hb.mono HX0.out.size))
    have HR3 := Lib.hid (HR3.out.later hb); have HR7 := Lib.hid (HR7.out.later hb); have HR8 := Lib.hid (HR8.out.later hb); have HB := Lib.hid (below_on HB.out hb); clear hb
    have HR12 := HRn; clear HRn
    clear hKx Kx
    simp only [Act.put, pa, pb, pc]
    refine Wid.mid_one 2 (by kernel_rfl) (by kernel_rfl) (by kernel_rfl) (fun o ho => ?_)
    simp only [qa, qb, qc, qd] at ho; subst ho
    refine ⟨by kernel_rfl, fun wn hl Kx hKx => ?_⟩
    have HX0 := Lib.hid (HX0.out.trans (hl.mono HX0.out.size))
    have HR3 := Lib.hid (HR3.out.later hl); have HR7 := Lib.hid (HR7.out.later hl); have HR8 := Lib.hid (HR8.out.later hl); have HR12 := Lib.hid (HR12.out.later hl); have HB := Lib.hid (below_on HB.out hl); clear hl
    refine mid_allocP rfl ?_; intro b11 wm N R
    have HD3_11 := Lib.hid (show b3 ≠ b11 from Nat.ne_of_lt (by have h1 := HR3.out.lt; have := N.at_; omega))
    have HD7_11 := Lib.hid (show b7 ≠ b11 from Nat.ne_of_lt (by have h1 := HR7.out.lt; have := N.at_; omega))
    have HD8_11 := Lib.hid (show b8 ≠ b11 from Nat.ne_of_lt (by have h1 := HR8.out.lt; have := N.at_; omega))
    have HD12_11 := Lib.hid (show b12 ≠ b11 from Nat.ne_of_lt (by have h1 := HR12.out.lt; have := N.at_; omega))
    have HG11 := Lib.hid (show wx0.heap.size ≤ b11 by have := HX0.out.size; have := N.at_; omega)
    have hb := N.below
    have HRn := Lib.hid R
    clear N R
    refine hKx.out _ _ (Kept.of_call _ hb) ?_
    have HX0 := Lib.hid (HX0.out.trans (hb.mono HX0.out.size))
    have HR3 := Lib.hid (HR3.out.later hb); have HR7 := Lib.hid (HR7.out.later hb); have HR8 := Lib.hid (HR8.out.later hb); have HR12 := Lib.hid (HR12.out.later hb); have HB := Lib.hid (below_on HB.out hb); clear hb
    have HR11 := HRn; clear HRn
    clear hKx Kx
    simp only [Act.put, pa, pb, pc]
    have HD11_12 := Lib.hid (Ne.symm HD12_11.out)
    refine Wid.mid_one 4 (by kernel_rfl) (by kernel_rfl) (by kernel_rfl) (fun o ho => ?_)
    simp only [qa, qb, qc, qd] at ho; subst ho
    refine ⟨by kernel_rfl, fun wn hl Kx hKx => ?_⟩
    have HR3 := Lib.hid (HR3.out.later hl); have HR7 := Lib.hid (HR7.out.later hl); have HR8 := Lib.hid (HR8.out.later hl); have HR11 := Lib.hid (HR11.out.later hl); have HR12 := Lib.hid (HR12.out.later hl); have HB := Lib.hid (below_on HB.out hl); clear hl
    refine mid_storeP _ _ rfl b11 rfl zeroP p rfl HR11.out ?_; intro wm U R
    have HR3 := Lib.hid (HR3.out.apart U HD3_11.out)
    have HR7 := Lib.hid (HR7.out.apart U HD7_11.out)
    have HR8 := Lib.hid (HR8.out.apart U HD8_11.out)
    have HR12 := Lib.hid (HR12.out.apart U HD12_11.out)
    refine hKx.out _ _ (kept_upd U HG11.out) ?_
    have HR11 := Lib.hid R; have HB := Lib.hid (HB.out.trans (U.below (Nat.le_trans HW0.out HG11.out))); clear U R
    clear hKx Kx
    simp only [Act.put, pa, pb, pc]
    refine Wid.mid_one 5 (by kernel_rfl) (by kernel_rfl) (by kernel_rfl) (fun o ho => ?_)
    simp only [qa, qb, qc, qd] at ho; subst ho
    refine ⟨by kernel_rfl, fun wn hl Kx hKx => ?_⟩
    have HR3 := Lib.hid (HR3.out.later hl); have HR7 := Lib.hid (HR7.out.later hl); have HR8 := Lib.hid (HR8.out.later hl); have HR11 := Lib.hid (HR11.out.later hl); have HR12 := Lib.hid (HR12.out.later hl); have HB := Lib.hid (below_on HB.out hl); clear hl
    refine mid_storeP _ _ rfl b12 rfl zeroP p rfl HR12.out ?_; intro wm U R
    have HR3 := Lib.hid (HR3.out.apart U HD3_12.out)
    have HR7 := Lib.hid (HR7.out.apart U HD7_12.out)
    have HR8 := Lib.hid (HR8.out.apart U HD8_12.out)
    have HR11 := Lib.hid (HR11.out.apart U HD11_12.out)
    refine hKx.out _ _ (kept_upd U HG12.out) ?_
    have HR12 := Lib.hid R; have HB := Lib.hid (HB.out.trans (U.below (Nat.le_trans HW0.out HG12.out))); clear U R
    clear hKx Kx
    simp only [Act.put, pa, pb, pc]
    refine Wid.mid_end (by kernel_rfl) (fun wn hl => ?_)
    have HR3 := Lib.hid (HR3.out.later hl); have HR7 := Lib.hid (HR7.out.later hl); have HR8 := Lib.hid (HR8.out.later hl); have HR11 := Lib.hid (HR11.out.later hl); have HR12 := Lib.hid (HR12.out.later hl); have HB := Lib.hid (below_on HB.out hl); clear hl
    have HR12 := Lib.hid (show Row _ b12 QT from HET.out ▸ HR12.out)
    go_wp2_with (first
      | (guard_target = Go.wpList _ _ _ ((⟨some _, .load _ (.tmp 43), _, _, _, _⟩ : Go.Oper) :: _) _ _; refine step_get rfl 5 _ rfl b3 (66 + c * 6 + k) rfl Tryd.underlying5 rfl (.int .u8 x) ?_ ?_; exact (HR3.out.cell (66 + c * 6 + k) (by have := HI2.out; omega)).trans (by rw [kAt_pk HI.out HI2.out, HX.out]))
      | (guard_target = Go.wpList _ _ _ ((⟨some _, .load _ (.tmp 63), _, _, _, _⟩ : Go.Oper) :: _) _ _; refine step_get rfl 5 _ rfl b3 (66 + c * 6 + k) rfl Tryd.underlying5 rfl (.int .u8 x) ?_ ?_; exact (HR3.out.cell (66 + c * 6 + k) (by have := HI2.out; omega)).trans (by rw [kAt_pk HI.out HI2.out, HX.out])))
    refine late_begin 10 (by kernel_rfl) ?_
    refine ltk 0 (by kernel_rfl) (fun _ _ d _ _ h => by cases d <;> exact h) (fun o ho => ?_)
    simp only [qa, qb, qc, qd] at ho; subst ho
    apply Exists.intro
    refine ⟨Or.inl ⟨by kernel_rfl, fun w' hl => Or.inl ?_⟩, ?_⟩
    · (go_simp; try with_reducible rfl)
    simp only [Act.put, pa, pb, pc]
    refine ltk 1 (by kernel_rfl) (fun _ _ d _ _ h => by cases d <;> exact h) (fun o ho => ?_)
    simp only [qa, qb, qc, qd] at ho; subst ho
    apply Exists.intro
    refine ⟨Or.inl ⟨by kernel_rfl, fun w' hl => Or.inl ?_⟩, ?_⟩
    · (go_simp; try with_reducible rfl)
    simp only [Act.put, pa, pb, pc]
    refine ltk 2 (by kernel_rfl) (fun _ _ d _ _ h => by cases d <;> exact h) (fun o ho => ?_)
    simp only [qa, qb, qc, qd] at ho; subst ho
    apply Exists.intro
    refine ⟨Or.inl ⟨by kernel_rfl, fun w' hl => Or.inl ?_⟩, ?_⟩
    · (go_simp; try with_reducible rfl)
    simp only [Act.put, pa, pb, pc]
    refine ltk 3 (by kernel_rfl) (fun _ _ d _ _ h => by cases d <;> exact h) (fun o ho => ?_)
    simp only [qa, qb, qc, qd] at ho; subst ho
    refine ⟨.pointer (some ⟨b11, 66 + c * 6, none⟩), Or.inl ⟨by kernel_rfl, fun w' hl => Or.inl ?_⟩, ?_⟩
    · (go_simp; first | done | (with_reducible rfl) | (intro hbad; exfalso; omega))
    simp only [Act.put, pa, pb, pc]
    refine ltk 4 (by kernel_rfl) (fun _ _ d _ _ h => by cases d <;> exact h) (fun o ho => ?_)
    simp only [qa, qb, qc, qd] at ho; subst ho
    refine ⟨.pointer (some ⟨b11, 66 + c * 6 + k, none⟩), Or.inl ⟨by kernel_rfl, fun w' hl => Or.inl ?_⟩, ?_⟩
    · (go_simp; first | done | (with_reducible rfl) | (intro hbad; exfalso; omega))
    simp only [Act.put, pa, pb, pc]
    refine ltk 5 (by kernel_rfl) (fun _ _ d _ _ h => by cases d <;> exact h) (fun o ho => ?_)
    simp only [qa, qb, qc, qd] at ho; subst ho
    refine ⟨.int .u8 x, Or.inl ⟨by kernel_rfl, fun w' hl => Or.inl (run_get 5 _ rfl b11 (66 + c * 6 + k) rfl Tryd.underlying5 rfl (.int .u8 x) (((HR11.out.later hl).cell (66 + c * 6 + k) (by have := HI2.out; omega)).trans (by rw [kAt_pk HI.out HI2.out, HX.out])))⟩, ?_⟩
    simp only [Act.put, pa, pb, pc]
    refine ltk 6 (by kernel_rfl) (fun _ _ d _ _ h => by cases d <;> exact h) (fun o ho => ?_)
    simp only [qa, qb, qc, qd] at ho; subst ho
    refine ⟨.int .u8 (x + 1), Or.inl ⟨by kernel_rfl, fun w' hl => Or.inl ?_⟩, ?_⟩
    · go_simp; exact IntWalk.u8_in _ (by omega)
    simp only [Act.put, pa, pb, pc]
    refine late_takeD 7 [8, 9, 10] (by kernel_rfl) (by kernel_rfl) (by kernel_rfl) (by kernel_rfl) (by kernel_rfl) (fun _ _ d _ _ h => by cases d <;> exact h) (fun o ho => ?_)
    simp only [qa, qb, qc, qd] at ho; subst ho
    apply Exists.intro
    refine ⟨Or.inl ⟨by kernel_rfl, fun w' hl => Or.inl ?_⟩, ?_⟩
    · (go_simp; try with_reducible rfl)
    simp only [Act.put, pa, pb, pc]
    refine late_takeD 8 [9, 10] (by kernel_rfl) (by kernel_rfl) (by kernel_rfl) (by kernel_rfl) (by kernel_rfl) (fun _ _ d _ _ h => by cases d <;> exact h) (fun o ho => ?_)
    simp only [qa, qb, qc, qd] at ho; subst ho
    refine ⟨.pointer (some ⟨b11, 66 + c * 6, none⟩), Or.inl ⟨by kernel_rfl, fun w' hl => Or.inl ?_⟩, ?_⟩
    · (go_simp; first | done | (with_reducible rfl) | (intro hbad; exfalso; omega))
    simp only [Act.put, pa, pb, pc]
    refine ltk 9 (by kernel_rfl) (fun _ _ d _ _ h => by cases d <;> exact h) (fun o ho => ?_)
    simp only [qa, qb, qc, qd] at ho; subst ho
    refine ⟨.pointer (some ⟨b11, 66 + c * 6 + k, none⟩), Or.inl ⟨by kernel_rfl, fun w' hl => Or.inl ?_⟩, ?_⟩
    · (go_simp; first | done | (with_reducible rfl) | (intro hbad; exfalso; omega))
    simp only [Act.put, pa, pb, pc]
    refine late_last 10 (by kernel_rfl) (by kernel_rfl) (by kernel_rfl) (fun o ho => ?_)
    simp only [qa, qb, qc, qd] at ho; subst ho
    refine ⟨by kernel_rfl, fun wn hl K hK => ?_⟩
    have HR3 := Lib.hid (HR3.out.later hl); have HR7 := Lib.hid (HR7.out.later hl); have HR8 := Lib.hid (HR8.out.later hl); have HR11 := Lib.hid (HR11.out.later hl); have HR12 := Lib.hid (HR12.out.later hl); have HB := Lib.hid (below_on HB.out hl); clear hl
    refine late_cellD 5 _ _ rfl b11 (66 + c * 6 + k) rfl .u8 (x + 1) rfl p HR11.out (by have := HI2.out; omega) (kAt_pk HI.out HI2.out) size5 ?_; intro wm U R
    have HR3 := Lib.hid (HR3.out.apart U HD3_11.out)
    have HR7 := Lib.hid (HR7.out.apart U HD7_11.out)
    have HR8 := Lib.hid (HR8.out.apart U HD8_11.out)
    have HR12 := Lib.hid (HR12.out.apart U HD12_11.out)
    have HR11 := Lib.hid R; have HB := Lib.hid (HB.out.trans (U.below (Nat.le_trans HW0.out HG11.out))); clear U R
    refine hK.out _ _ ?_
    clear hK K
    simp only [Act.put, pa, pb, pc]
    have HR11 := Lib.hid (show Row _ b11 QA from HEA.out ▸ HR11.out)
    go_wp2_with (first
      | (guard_target = Go.wpList _ _ _ ((⟨some _, .load _ (.tmp 7), _, _, _, _⟩ : Go.Oper) :: _) _ _; refine step_load rfl _ rfl b7 rfl QA HR7.out ?_)
      | (guard_target = Go.wpList _ _ _ ((⟨some _, .load _ (.tmp 11), _, _, _, _⟩ : Go.Oper) :: _) _ _; refine step_load rfl _ rfl b11 rfl QA HR11.out ?_)
      | (guard_target = Go.wpList _ _ _ ((⟨some _, .load _ (.tmp 8), _, _, _, _⟩ : Go.Oper) :: _) _ _; refine step_load rfl _ rfl b8 rfl QT HR8.out ?_)
      | (guard_target = Go.wpList _ _ _ ((⟨some _, .load _ (.tmp 12), _, _, _, _⟩ : Go.Oper) :: _) _ _; refine step_load rfl _ rfl b12 rfl QT HR12.out ?_)
      | (guard_target = Go.wpList _ _ _ ((⟨some 80, .binOp _ _ _ _ _, _, _, _, _⟩ : Go.Oper) :: _) _ _; refine step_cmp (op := ⟨some 80, .binOp _ _ _ _ _, _, _, _, _⟩) rfl _ _ rfl QA QA rfl rfl HWA.out HWA.out true ⟨fun _ => rfl, fun _ => rfl⟩ ?_; simp only [Act.put, pa, pb, pc, Bool.not_false, Bool.not_true])
      | (guard_target = Go.wpList _ _ _ ((⟨some 84, .binOp _ _ _ _ _, _, _, _, _⟩ : Go.Oper) :: _) _ _; refine step_cmp (op := ⟨some 84, .binOp _ _ _ _ _, _, _, _, _⟩) rfl _ _ rfl QT QT rfl rfl HWT.out HWT.out true ⟨fun _ => rfl, fun _ => rfl⟩ ?_; simp only [Act.put, pa, pb, pc, Bool.not_false, Bool.not_true])
      | (go_at_call 12; refine (dr_awake _ (HT.out.on HB.out) (HK.out.on HB.out)).mono ?_; rintro e w6 ⟨rfl, hb⟩; have HB := Lib.hid (below_on HB.out hb); clear hb)
      | (guard_target = Go.wpList _ _ _ ((⟨some _, .load _ (.tmp 43), _, _, _, _⟩ : Go.Oper) :: _) _ _; refine step_get rfl 5 _ rfl b3 (66 + c * 6 + k) rfl Tryd.underlying5 rfl (.int .u8 x) ?_ ?_; exact (HR3.out.cell (66 + c * 6 + k) (by have := HI2.out; omega)).trans (by rw [kAt_pk HI.out HI2.out, HX.out]))
      | (guard_target = Go.wpList _ _ _ ((⟨some _, .load _ (.tmp 63), _, _, _, _⟩ : Go.Oper) :: _) _ _; refine step_get rfl 5 _ rfl b3 (66 + c * 6 + k) rfl Tryd.underlying5 rfl (.int .u8 x) ?_ ?_; exact (HR3.out.cell (66 + c * 6 + k) (by have := HI2.out; omega)).trans (by rw [kAt_pk HI.out HI2.out, HX.out])))
    go_ret
    exact ⟨rfl, HB.out⟩
set_option maxRecDepth 100000 in
set_option maxHeartbeats 4000000 in
theorem yes_at (p : Nat → Int) (c k : Nat) (w0 : WfP p) (w : World) (hT : DrT w) (hK : TabKn w) (hc1 : c ≤ 1) (hk1 : 1 ≤ k) (hk6 : k < 6) (hxx : 0 < p (66 + c * 6 + k) ∧ p (66 + c * 6 + k) < 255) : Calls Tryd.prog 5 #[.agg (posA p), .int .u8 (c : Int), .int .u8 (k : Int)] w fun e w' => e = .returned (.bool true) ∧ Below w.heap.size w w' := by
  have HT := Lib.hid hT
  have HK := Lib.hid hK
  have hp := DrR.of w0
  have HP := Lib.hid hp
  have HC := Lib.hid (show 0 ≤ (c : Int) by omega)
  have HI := Lib.hid (show 66 ≤ 66 + c * 6 + k by omega)
  have HI2 := Lib.hid (show 66 + c * 6 + k < 78 by omega)
  have hr := hp.pk (66 + c * 6 + k) (by omega) (by omega)
  obtain ⟨x, hx⟩ : ∃ x, p (66 + c * 6 + k) = x := ⟨_, rfl⟩
  have HX := Lib.hid hx
  rw [hx] at hr hxx
  obtain ⟨QA, hQA⟩ : ∃ QA, upd p (66 + c * 6 + k) (x + 1) = QA := ⟨_, rfl⟩
  obtain ⟨QT, hQT⟩ : ∃ QT, upd p (66 + c * 6 + k) (x - 1) = QT := ⟨_, rfl⟩
  have HEA := Lib.hid hQA
  have HET := Lib.hid hQT
  have gh : hasP (c : Int) (k : Int) = true := hasP_true.2 (by omega)
  have gv : helC p (c : Int) (k : Int) = x := by rw [helC_yes gh, pkJ_at, hx]
  have gl : decide (x < 255) = true := decide_eq_true (by omega)
  have gg : decide (0 < x) = true := decide_eq_true (by omega)
  have HAd := Lib.hid (show addP p (c : Int) (k : Int) = QA by unfold addP; rw [gh, pkJ_at, hx, gl]; exact hQA)
  have HNo := Lib.hid (show (helC p (c : Int) (k : Int) == 0) = false by rw [gv]; rw [beq_eq_false_iff_ne]; omega)
  have HTk := Lib.hid (show takP p (c : Int) (k : Int) = QT by unfold takP; rw [HNo.out, pkJ_at, hx]; exact hQT)
  have HWA := Lib.hid (show WfP QA from hQA ▸ wfP_pk w0 (by omega) (by omega) (by omega))
  have HWT := Lib.hid (show WfP QT from hQT ▸ wfP_pk w0 (by omega) (by omega) (by omega))
  have f1 : decide ((c : Int) < 2) = true := decide_eq_true (by omega)
  have f2 : decide (c < 2) = true := decide_eq_true (by omega)
  have f3 : decide (1 ≤ (k : Int)) = true := decide_eq_true (by omega)
  have f4 : decide (1 ≤ k) = true := decide_eq_true hk1
  have f5 : decide ((k : Int) ≤ 5) = true := decide_eq_true (by omega)
  have f6 : decide (k ≤ 5) = true := decide_eq_true (by omega)
  clear hT hK hp w0 gh hQA hQT hx gv
  have HB := Lib.hid (Below.refl w.heap.size w)
  go_enter Tryd.func5, Tryd.ntmps5
  go_wp2_with (first
    | (guard_target = Go.wpList _ _ _ ((⟨some 3, .box _ _, _, _, _, _⟩ : Go.Oper) :: _) _ _; refine step_box rfl _ rfl p rfl ?_; intro b3 w1 N R; have HG3 := Lib.hid (show w.heap.size ≤ b3 by have := HB.out.size; have := N.at_; omega); have HB := Lib.hid (below_on HB.out N.below); have HR3 := Lib.hid R; clear N R)
    | (guard_target = Go.wpList _ _ _ ((⟨some _, .load _ (.tmp 3), _, _, _, _⟩ : Go.Oper) :: _) _ _; refine step_load rfl _ rfl b3 rfl p HR3.out ?_)
    | (go_at_call 17; refine (addK HAd.out _ HC.out HP.out).mono ?_; rintro e w6 ⟨rfl, hb⟩; have HR3 := Lib.hid (HR3.out.later hb); have HB := Lib.hid (below_on HB.out hb); clear hb)
    | (guard_target = Go.wpList _ _ _ ((⟨some 7, .alloc _, _, _, _, _⟩ : Go.Oper) :: _) _ _; refine step_alloc (op := ⟨some 7, _, _, _, _, _⟩) rfl rfl ?_; intro b7 wn N R; have HG7 := Lib.hid (show w.heap.size ≤ b7 by have := HB.out.size; have := N.at_; omega); have HD3_7 := Lib.hid (show b3 ≠ b7 by have := HR3.out.lt; have := N.at_; omega); have HR3 := Lib.hid (HR3.out.later N.below); have HR7 := Lib.hid R; have HB := Lib.hid (below_on HB.out N.below); clear N R)
    | (guard_target = Go.wpList _ _ _ ((⟨none, .store _ (.tmp 7) _, _, _, _, _⟩ : Go.Oper) :: _) _ _; refine step_store (op := ⟨none, .store _ (.tmp 7) _, _, _, _, _⟩) rfl _ _ rfl b7 rfl zeroP QA rfl HR7.out ?_; intro wn U R; have HR3 := Lib.hid (HR3.out.apart U HD3_7.out); have HR7 := Lib.hid R; have HB := Lib.hid (HB.out.trans (U.below HG7.out)); clear U R)
    | (go_at_call 18; refine (takK HTk.out HNo.out _ HC.out HP.out).mono ?_; rintro e w6 ⟨rfl, hb⟩; have HR3 := Lib.hid (HR3.out.later hb); have HR7 := Lib.hid (HR7.out.later hb); have HB := Lib.hid (below_on HB.out hb); clear hb)
    | (guard_target = Go.wpList _ _ _ ((⟨some 8, .alloc _, _, _, _, _⟩ : Go.Oper) :: _) _ _; refine step_alloc (op := ⟨some 8, _, _, _, _, _⟩) rfl rfl ?_; intro b8 wn N R; have HG8 := Lib.hid (show w.heap.size ≤ b8 by have := HB.out.size; have := N.at_; omega); have HD3_8 := Lib.hid (show b3 ≠ b8 by have := HR3.out.lt; have := N.at_; omega); have HD7_8 := Lib.hid (show b7 ≠ b8 by have := HR7.out.lt; have := N.at_; omega); have HR3 := Lib.hid (HR3.out.later N.below); have HR7 := Lib.hid (HR7.out.later N.below); have HR8 := Lib.hid R; have HB := Lib.hid (below_on HB.out N.below); clear N R)
    | (guard_target = Go.wpList _ _ _ ((⟨none, .store _ (.tmp 8) _, _, _, _, _⟩ : Go.Oper) :: _) _ _; refine step_store (op := ⟨none, .store _ (.tmp 8) _, _, _, _, _⟩) rfl _ _ rfl b8 rfl zeroP QT rfl HR8.out ?_; intro wn U R; have HR3 := Lib.hid (HR3.out.apart U HD3_8.out); have HR7 := Lib.hid (HR7.out.apart U HD7_8.out); have HR8 := Lib.hid R; have HB := Lib.hid (HB.out.trans (U.below HG8.out)); clear U R))
  obtain ⟨wx0, hwx⟩ : ∃ wx0, wx0 = wn := ⟨_, rfl⟩
  have HW0 := Lib.hid (show w.heap.size ≤ wx0.heap.size by rw [hwx]; exact HB.out.size)
  have HL1 := Lib.hid (show b3 < wx0.heap.size by rw [hwx]; exact HR3.out.lt)
  have HX0 := Lib.hid (show Below wx0.heap.size wx0 wn by rw [hwx]; exact Below.refl _ _)
  clear hwx
  have HFm := Lib.hid (by kernel_rfl : Tryd.prog.follows .mixedOrders = true)
  refine (wpIn_wide (n := 1)).1 ?_
  refine Wid.mid_begin (X := (wx0.heap.size ≤ ·)) HFm.out ?_
  refine Wid.mid_take 0 (by kernel_rfl) (by kernel_rfl) (by kernel_rfl) (by kernel_rfl) (by kernel_rfl) (fun _ _ d _ _ h => by cases d <;> exact h) (fun o ho => ?_)
  simp only [qa, qb, qc, qd] at ho; subst ho
  refine ⟨_, Or.inl ⟨by kernel_rfl, fun w' hl => run_load _ rfl _ rfl p (show Row w' b3 p from (hl.same b3 HR3.out.lt (Nat.not_le.2 HL1.out)).trans HR3.out)⟩, ?_⟩
  simp only [Act.put, pa, pb, pc]
  refine Wid.mid_take 1 (by kernel_rfl) (by kernel_rfl) (by kernel_rfl) (by kernel_rfl) (by kernel_rfl) (fun _ _ d _ _ h => by cases d <;> exact h) (fun o ho => ?_)
  simp only [qa, qb, qc, qd] at ho; subst ho
  refine ⟨_, Or.inl ⟨by kernel_rfl, fun w' hl => run_load _ rfl _ rfl p (show Row w' b3 p from (hl.same b3 HR3.out.lt (Nat.not_le.2 HL1.out)).trans HR3.out)⟩, ?_⟩
  simp only [Act.put, pa, pb, pc]
  refine mid_some [2, 3] (by kernel_rfl) (by kernel_rfl) (by simp) (by kernel_rfl) (fun i hi => ?_)
  simp only [List.mem_cons, List.not_mem_nil, or_false] at hi
  rcases hi with rfl | rfl
  · intro o ho
    simp only [qa, qb, qc, qd] at ho; subst ho
    refine ⟨by kernel_rfl, fun wn hl Kx hKx => ?_⟩
    have HX0 := Lib.hid (HX0.out.trans (hl.mono HX0.out.size))
    have HR3 := Lib.hid (HR3.out.later hl); have HR7 := Lib.hid (HR7.out.later hl); have HR8 := Lib.hid (HR8.out.later hl); have HB := Lib.hid (below_on HB.out hl); clear hl
    refine mid_allocP rfl ?_; intro b11 wm N R
    have HD3_11 := Lib.hid (show b3 ≠ b11 from Nat.ne_of_lt (by have h1 := HR3.out.lt; have := N.at_; omega))
    have HD7_11 := Lib.hid (show b7 ≠ b11 from Nat.ne_of_lt (by have h1 := HR7.out.lt; have := N.at_; omega))
    have HD8_11 := Lib.hid (show b8 ≠ b11 from Nat.ne_of_lt (by have h1 := HR8.out.lt; have := N.at_; omega))
    have HG11 := Lib.hid (show wx0.heap.size ≤ b11 by have := HX0.out.size; have := N.at_; omega)
    have hb := N.below
    have HRn := Lib.hid R
    clear N R
    refine hKx.out _ _ (Kept.of_call _ hb) ?_
    have HX0 := Lib.hid (HX0.out.trans (hb.mono HX0.out.size))
    have HR3 := Lib.hid (HR3.out.later hb); have HR7 := Lib.hid (HR7.out.later hb); have HR8 := Lib.hid (HR8.out.later hb); have HB := Lib.hid (below_on HB.out hb); clear hb
    have HR11 := HRn; clear HRn
    clear hKx Kx
    simp only [Act.put, pa, pb, pc]
    refine Wid.mid_one 3 (by kernel_rfl) (by kernel_rfl) (by kernel_rfl) (fun o ho => ?_)
    simp only [qa, qb, qc, qd] at ho; subst ho
    refine ⟨by kernel_rfl, fun wn hl Kx hKx => ?_⟩
    have HX0 := Lib.hid (HX0.out.trans (hl.mono HX0.out.size))
    have HR3 := Lib.hid (HR3.out.later hl); have HR7 := Lib.hid (HR7.out.later hl); have HR8 := Lib.hid (HR8.out.later hl); have HR11 := Lib.hid (HR11.out.later hl); have HB := Lib.hid (below_on HB.out hl); clear hl
    refine mid_allocP rfl ?_; intro b12 wm N R
    have HD3_12 := Lib.hid (show b3 ≠ b12 from Nat.ne_of_lt (by have h1 := HR3.out.lt; have := N.at_; omega))
    have HD7_12 := Lib.hid (show b7 ≠ b12 from Nat.ne_of_lt (by have h1 := HR7.out.lt; have := N.at_; omega))
    have HD8_12 := Lib.hid (show b8 ≠ b12 from Nat.ne_of_lt (by have h1 := HR8.out.lt; have := N.at_; omega))
    have HD11_12 := Lib.hid (show b11 ≠ b12 from Nat.ne_of_lt (by have h1 := HR11.out.lt; have := N.at_; omega))
    have HG12 := Lib.hid (show wx0.heap.size ≤ b12 by have := HX0.out.size; have := N.at_; omega)
    have hb := N.below
    have HRn := Lib.hid R
    clear N R
    refine hKx.out _ _ (Kept.of_call _ hb) ?_
    have HX0 := Lib.hid (HX0.out.trans (hb.mono HX0.out.size))
    have HR3 := Lib.hid (HR3.out.later hb); have HR7 := Lib.hid (HR7.out.later hb); have HR8 := Lib.hid (HR8.out.later hb); have HR11 := Lib.hid (HR11.out.later hb); have HB := Lib.hid (below_on HB.out hb); clear hb
    have HR12 := HRn; clear HRn
    clear hKx Kx
    simp only [Act.put, pa, pb, pc]
    have HD12_11 := Lib.hid (Ne.symm HD11_12.out)
    refine Wid.mid_one 4 (by kernel_rfl) (by kernel_rfl) (by kernel_rfl) (fun o ho => ?_)
    simp only [qa, qb, qc, qd] at ho; subst ho
    refine ⟨by kernel_rfl, fun wn hl Kx hKx => ?_⟩
    have HR3 := Lib.hid (HR3.out.later hl); have HR7 := Lib.hid (HR7.out.later hl); have HR8 := Lib.hid (HR8.out.later hl); have HR11 := Lib.hid (HR11.out.later hl); have HR12 := Lib.hid (HR12.out.later hl); have HB := Lib.hid (below_on HB.out hl); clear hl
    refine mid_storeP _ _ rfl b11 rfl zeroP p rfl HR11.out ?_; intro wm U R
    have HR3 := Lib.hid (HR3.out.apart U HD3_11.out)
    have HR7 := Lib.hid (HR7.out.apart U HD7_11.out)
    have HR8 := Lib.hid (HR8.out.apart U HD8_11.out)
    have HR12 := Lib.hid (HR12.out.apart U HD12_11.out)
    refine hKx.out _ _ (kept_upd U HG11.out) ?_
    have HR11 := Lib.hid R; have HB := Lib.hid (HB.out.trans (U.below (Nat.le_trans HW0.out HG11.out))); clear U R
    clear hKx Kx
    simp only [Act.put, pa, pb, pc]
    refine Wid.mid_one 5 (by kernel_rfl) (by kernel_rfl) (by kernel_rfl) (fun o ho => ?_)
    simp only [qa, qb, qc, qd] at ho; subst ho
    refine ⟨by kernel_rfl, fun wn hl Kx hKx => ?_⟩
    have HR3 := Lib.hid (HR3.out.later hl); have HR7 := Lib.hid (HR7.out.later hl); have HR8 := Lib.hid (HR8.out.later hl); have HR11 := Lib.hid (HR11.out.later hl); have HR12 := Lib.hid (HR12.out.later hl); have HB := Lib.hid (below_on HB.out hl); clear hl
    refine mid_storeP _ _ rfl b12 rfl zeroP p rfl HR12.out ?_; intro wm U R
    have HR3 := Lib.hid (HR3.out.apart U HD3_12.out)
    have HR7 := Lib.hid (HR7.out.apart U HD7_12.out)
    have HR8 := Lib.hid (HR8.out.apart U HD8_12.out)
    have HR11 := Lib.hid (HR11.out.apart U HD11_12.out)
    refine hKx.out _ _ (kept_upd U HG12.out) ?_
    have HR12 := Lib.hid R; have HB := Lib.hid (HB.out.trans (U.below (Nat.le_trans HW0.out HG12.out))); clear U R
    clear hKx Kx
    simp only [Act.put, pa, pb, pc]
    refine Wid.mid_end (by kernel_rfl) (fun wn hl => ?_)
    have HR3 := Lib.hid (HR3.out.later hl); have HR7 := Lib.hid (HR7.out.later hl); have HR8 := Lib.hid (HR8.out.later hl); have HR11 := Lib.hid (HR11.out.later hl); have HR12 := Lib.hid (HR12.out.later hl); have HB := Lib.hid (below_on HB.out hl); clear hl
    go_wp2_with (first
      | (guard_target = Go.wpList _ _ _ ((⟨some _, .load _ (.tmp 43), _, _, _, _⟩ : Go.Oper) :: _) _ _; refine step_get rfl 5 _ rfl b3 (66 + c * 6 + k) rfl Tryd.underlying5 rfl (.int .u8 x) ?_ ?_; exact (HR3.out.cell (66 + c * 6 + k) (by have := HI2.out; omega)).trans (by rw [kAt_pk HI.out HI2.out, HX.out]))
      | (guard_target = Go.wpList _ _ _ ((⟨some _, .load _ (.tmp 63), _, _, _, _⟩ : Go.Oper) :: _) _ _; refine step_get rfl 5 _ rfl b3 (66 + c * 6 + k) rfl Tryd.underlying5 rfl (.int .u8 x) ?_ ?_; exact (HR3.out.cell (66 + c * 6 + k) (by have := HI2.out; omega)).trans (by rw [kAt_pk HI.out HI2.out, HX.out])))
    refine late_begin 10 (by kernel_rfl) ?_
    refine ltk 0 (by kernel_rfl) (fun _ _ d _ _ h => by cases d <;> exact h) (fun o ho => ?_)
    simp only [qa, qb, qc, qd] at ho; subst ho
    apply Exists.intro
    refine ⟨Or.inl ⟨by kernel_rfl, fun w' hl => Or.inl ?_⟩, ?_⟩
    · (go_simp; try with_reducible rfl)
    simp only [Act.put, pa, pb, pc]
    refine ltk 1 (by kernel_rfl) (fun _ _ d _ _ h => by cases d <;> exact h) (fun o ho => ?_)
    simp only [qa, qb, qc, qd] at ho; subst ho
    apply Exists.intro
    refine ⟨Or.inl ⟨by kernel_rfl, fun w' hl => Or.inl ?_⟩, ?_⟩
    · (go_simp; try with_reducible rfl)
    simp only [Act.put, pa, pb, pc]
    refine ltk 2 (by kernel_rfl) (fun _ _ d _ _ h => by cases d <;> exact h) (fun o ho => ?_)
    simp only [qa, qb, qc, qd] at ho; subst ho
    apply Exists.intro
    refine ⟨Or.inl ⟨by kernel_rfl, fun w' hl => Or.inl ?_⟩, ?_⟩
    · (go_simp; try with_reducible rfl)
    simp only [Act.put, pa, pb, pc]
    refine ltk 3 (by kernel_rfl) (fun _ _ d _ _ h => by cases d <;> exact h) (fun o ho => ?_)
    simp only [qa, qb, qc, qd] at ho; subst ho
    refine ⟨.pointer (some ⟨b11, 66 + c * 6, none⟩), Or.inl ⟨by kernel_rfl, fun w' hl => Or.inl ?_⟩, ?_⟩
    · (go_simp; first | done | (with_reducible rfl) | (intro hbad; exfalso; omega))
    simp only [Act.put, pa, pb, pc]
    refine ltk 4 (by kernel_rfl) (fun _ _ d _ _ h => by cases d <;> exact h) (fun o ho => ?_)
    simp only [qa, qb, qc, qd] at ho; subst ho
    refine ⟨.pointer (some ⟨b11, 66 + c * 6 + k, none⟩), Or.inl ⟨by kernel_rfl, fun w' hl => Or.inl ?_⟩, ?_⟩
    · (go_simp; first | done | (with_reducible rfl) | (intro hbad; exfalso; omega))
    simp only [Act.put, pa, pb, pc]
    refine ltk 5 (by kernel_rfl) (fun _ _ d _ _ h => by cases d <;> exact h) (fun o ho => ?_)
    simp only [qa, qb, qc, qd] at ho; subst ho
    refine ⟨.int .u8 x, Or.inl ⟨by kernel_rfl, fun w' hl => Or.inl (run_get 5 _ rfl b11 (66 + c * 6 + k) rfl Tryd.underlying5 rfl (.int .u8 x) (((HR11.out.later hl).cell (66 + c * 6 + k) (by have := HI2.out; omega)).trans (by rw [kAt_pk HI.out HI2.out, HX.out])))⟩, ?_⟩
    simp only [Act.put, pa, pb, pc]
    refine ltk 6 (by kernel_rfl) (fun _ _ d _ _ h => by cases d <;> exact h) (fun o ho => ?_)
    simp only [qa, qb, qc, qd] at ho; subst ho
    refine ⟨.int .u8 (x + 1), Or.inl ⟨by kernel_rfl, fun w' hl => Or.inl ?_⟩, ?_⟩
    · go_simp; exact IntWalk.u8_in _ (by omega)
    simp only [Act.put, pa, pb, pc]
    refine late_takeD 7 [8, 9, 10] (by kernel_rfl) (by kernel_rfl) (by kernel_rfl) (by kernel_rfl) (by kernel_rfl) (fun _ _ d _ _ h => by cases d <;> exact h) (fun o ho => ?_)
    simp only [qa, qb, qc, qd] at ho; subst ho
    apply Exists.intro
    refine ⟨Or.inl ⟨by kernel_rfl, fun w' hl => Or.inl ?_⟩, ?_⟩
    · (go_simp; try with_reducible rfl)
    simp only [Act.put, pa, pb, pc]
    refine late_takeD 8 [9, 10] (by kernel_rfl) (by kernel_rfl) (by kernel_rfl) (by kernel_rfl) (by kernel_rfl) (fun _ _ d _ _ h => by cases d <;> exact h) (fun o ho => ?_)
    simp only [qa, qb, qc, qd] at ho; subst ho
    refine ⟨.pointer (some ⟨b11, 66 + c * 6, none⟩), Or.inl ⟨by kernel_rfl, fun w' hl => Or.inl ?_⟩, ?_⟩
    · (go_simp; first | done | (with_reducible rfl) | (intro hbad; exfalso; omega))
    simp only [Act.put, pa, pb, pc]
    refine ltk 9 (by kernel_rfl) (fun _ _ d _ _ h => by cases d <;> exact h) (fun o ho => ?_)
    simp only [qa, qb, qc, qd] at ho; subst ho
    refine ⟨.pointer (some ⟨b11, 66 + c * 6 + k, none⟩), Or.inl ⟨by kernel_rfl, fun w' hl => Or.inl ?_⟩, ?_⟩
    · (go_simp; first | done | (with_reducible rfl) | (intro hbad; exfalso; omega))
    simp only [Act.put, pa, pb, pc]
    refine late_last 10 (by kernel_rfl) (by kernel_rfl) (by kernel_rfl) (fun o ho => ?_)
    simp only [qa, qb, qc, qd] at ho; subst ho
    refine ⟨by kernel_rfl, fun wn hl K hK => ?_⟩
    have HR3 := Lib.hid (HR3.out.later hl); have HR7 := Lib.hid (HR7.out.later hl); have HR8 := Lib.hid (HR8.out.later hl); have HR11 := Lib.hid (HR11.out.later hl); have HR12 := Lib.hid (HR12.out.later hl); have HB := Lib.hid (below_on HB.out hl); clear hl
    refine late_cellD 5 _ _ rfl b11 (66 + c * 6 + k) rfl .u8 (x + 1) rfl p HR11.out (by have := HI2.out; omega) (kAt_pk HI.out HI2.out) size5 ?_; intro wm U R
    have HR3 := Lib.hid (HR3.out.apart U HD3_11.out)
    have HR7 := Lib.hid (HR7.out.apart U HD7_11.out)
    have HR8 := Lib.hid (HR8.out.apart U HD8_11.out)
    have HR12 := Lib.hid (HR12.out.apart U HD12_11.out)
    have HR11 := Lib.hid R; have HB := Lib.hid (HB.out.trans (U.below (Nat.le_trans HW0.out HG11.out))); clear U R
    refine hK.out _ _ ?_
    clear hK K
    simp only [Act.put, pa, pb, pc]
    have HR11 := Lib.hid (show Row _ b11 QA from HEA.out ▸ HR11.out)
    go_wp2_with (first
      | (guard_target = Go.wpList _ _ _ ((⟨some _, .load _ (.tmp 43), _, _, _, _⟩ : Go.Oper) :: _) _ _; refine step_get rfl 5 _ rfl b3 (66 + c * 6 + k) rfl Tryd.underlying5 rfl (.int .u8 x) ?_ ?_; exact (HR3.out.cell (66 + c * 6 + k) (by have := HI2.out; omega)).trans (by rw [kAt_pk HI.out HI2.out, HX.out]))
      | (guard_target = Go.wpList _ _ _ ((⟨some _, .load _ (.tmp 63), _, _, _, _⟩ : Go.Oper) :: _) _ _; refine step_get rfl 5 _ rfl b3 (66 + c * 6 + k) rfl Tryd.underlying5 rfl (.int .u8 x) ?_ ?_; exact (HR3.out.cell (66 + c * 6 + k) (by have := HI2.out; omega)).trans (by rw [kAt_pk HI.out HI2.out, HX.out])))
    refine late_begin 10 (by kernel_rfl) ?_
    refine ltk 0 (by kernel_rfl) (fun _ _ d _ _ h => by cases d <;> exact h) (fun o ho => ?_)
    simp only [qa, qb, qc, qd] at ho; subst ho
    apply Exists.intro
    refine ⟨Or.inl ⟨by kernel_rfl, fun w' hl => Or.inl ?_⟩, ?_⟩
    · (go_simp; try with_reducible rfl)
    simp only [Act.put, pa, pb, pc]
    refine ltk 1 (by kernel_rfl) (fun _ _ d _ _ h => by cases d <;> exact h) (fun o ho => ?_)
    simp only [qa, qb, qc, qd] at ho; subst ho
    apply Exists.intro
    refine ⟨Or.inl ⟨by kernel_rfl, fun w' hl => Or.inl ?_⟩, ?_⟩
    · (go_simp; try with_reducible rfl)
    simp only [Act.put, pa, pb, pc]
    refine ltk 2 (by kernel_rfl) (fun _ _ d _ _ h => by cases d <;> exact h) (fun o ho => ?_)
    simp only [qa, qb, qc, qd] at ho; subst ho
    apply Exists.intro
    refine ⟨Or.inl ⟨by kernel_rfl, fun w' hl => Or.inl ?_⟩, ?_⟩
    · (go_simp; try with_reducible rfl)
    simp only [Act.put, pa, pb, pc]
    refine ltk 3 (by kernel_rfl) (fun _ _ d _ _ h => by cases d <;> exact h) (fun o ho => ?_)
    simp only [qa, qb, qc, qd] at ho; subst ho
    refine ⟨.pointer (some ⟨b12, 66 + c * 6, none⟩), Or.inl ⟨by kernel_rfl, fun w' hl => Or.inl ?_⟩, ?_⟩
    · (go_simp; first | done | (with_reducible rfl) | (intro hbad; exfalso; omega))
    simp only [Act.put, pa, pb, pc]
    refine ltk 4 (by kernel_rfl) (fun _ _ d _ _ h => by cases d <;> exact h) (fun o ho => ?_)
    simp only [qa, qb, qc, qd] at ho; subst ho
    refine ⟨.pointer (some ⟨b12, 66 + c * 6 + k, none⟩), Or.inl ⟨by kernel_rfl, fun w' hl => Or.inl ?_⟩, ?_⟩
    · (go_simp; first | done | (with_reducible rfl) | (intro hbad; exfalso; omega))
    simp only [Act.put, pa, pb, pc]
    refine ltk 5 (by kernel_rfl) (fun _ _ d _ _ h => by cases d <;> exact h) (fun o ho => ?_)
    simp only [qa, qb, qc, qd] at ho; subst ho
    refine ⟨.int .u8 x, Or.inl ⟨by kernel_rfl, fun w' hl => Or.inl (run_get 5 _ rfl b12 (66 + c * 6 + k) rfl Tryd.underlying5 rfl (.int .u8 x) (((HR12.out.later hl).cell (66 + c * 6 + k) (by have := HI2.out; omega)).trans (by rw [kAt_pk HI.out HI2.out, HX.out])))⟩, ?_⟩
    simp only [Act.put, pa, pb, pc]
    refine ltk 6 (by kernel_rfl) (fun _ _ d _ _ h => by cases d <;> exact h) (fun o ho => ?_)
    simp only [qa, qb, qc, qd] at ho; subst ho
    refine ⟨.int .u8 (x - 1), Or.inl ⟨by kernel_rfl, fun w' hl => Or.inl ?_⟩, ?_⟩
    · go_simp; exact IntWalk.u8_in _ (by omega)
    simp only [Act.put, pa, pb, pc]
    refine late_takeD 7 [8, 9, 10] (by kernel_rfl) (by kernel_rfl) (by kernel_rfl) (by kernel_rfl) (by kernel_rfl) (fun _ _ d _ _ h => by cases d <;> exact h) (fun o ho => ?_)
    simp only [qa, qb, qc, qd] at ho; subst ho
    apply Exists.intro
    refine ⟨Or.inl ⟨by kernel_rfl, fun w' hl => Or.inl ?_⟩, ?_⟩
    · (go_simp; try with_reducible rfl)
    simp only [Act.put, pa, pb, pc]
    refine late_takeD 8 [9, 10] (by kernel_rfl) (by kernel_rfl) (by kernel_rfl) (by kernel_rfl) (by kernel_rfl) (fun _ _ d _ _ h => by cases d <;> exact h) (fun o ho => ?_)
    simp only [qa, qb, qc, qd] at ho; subst ho
    refine ⟨.pointer (some ⟨b12, 66 + c * 6, none⟩), Or.inl ⟨by kernel_rfl, fun w' hl => Or.inl ?_⟩, ?_⟩
    · (go_simp; first | done | (with_reducible rfl) | (intro hbad; exfalso; omega))
    simp only [Act.put, pa, pb, pc]
    refine ltk 9 (by kernel_rfl) (fun _ _ d _ _ h => by cases d <;> exact h) (fun o ho => ?_)
    simp only [qa, qb, qc, qd] at ho; subst ho
    refine ⟨.pointer (some ⟨b12, 66 + c * 6 + k, none⟩), Or.inl ⟨by kernel_rfl, fun w' hl => Or.inl ?_⟩, ?_⟩
    · (go_simp; first | done | (with_reducible rfl) | (intro hbad; exfalso; omega))
    simp only [Act.put, pa, pb, pc]
    refine late_last 10 (by kernel_rfl) (by kernel_rfl) (by kernel_rfl) (fun o ho => ?_)
    simp only [qa, qb, qc, qd] at ho; subst ho
    refine ⟨by kernel_rfl, fun wn hl K hK => ?_⟩
    have HR3 := Lib.hid (HR3.out.later hl); have HR7 := Lib.hid (HR7.out.later hl); have HR8 := Lib.hid (HR8.out.later hl); have HR11 := Lib.hid (HR11.out.later hl); have HR12 := Lib.hid (HR12.out.later hl); have HB := Lib.hid (below_on HB.out hl); clear hl
    refine late_cellD 5 _ _ rfl b12 (66 + c * 6 + k) rfl .u8 (x - 1) rfl p HR12.out (by have := HI2.out; omega) (kAt_pk HI.out HI2.out) size5 ?_; intro wm U R
    have HR3 := Lib.hid (HR3.out.apart U HD3_12.out)
    have HR7 := Lib.hid (HR7.out.apart U HD7_12.out)
    have HR8 := Lib.hid (HR8.out.apart U HD8_12.out)
    have HR11 := Lib.hid (HR11.out.apart U HD11_12.out)
    have HR12 := Lib.hid R; have HB := Lib.hid (HB.out.trans (U.below (Nat.le_trans HW0.out HG12.out))); clear U R
    refine hK.out _ _ ?_
    clear hK K
    simp only [Act.put, pa, pb, pc]
    have HR12 := Lib.hid (show Row _ b12 QT from HET.out ▸ HR12.out)
    go_wp2_with (first
      | (guard_target = Go.wpList _ _ _ ((⟨some _, .load _ (.tmp 7), _, _, _, _⟩ : Go.Oper) :: _) _ _; refine step_load rfl _ rfl b7 rfl QA HR7.out ?_)
      | (guard_target = Go.wpList _ _ _ ((⟨some _, .load _ (.tmp 11), _, _, _, _⟩ : Go.Oper) :: _) _ _; refine step_load rfl _ rfl b11 rfl QA HR11.out ?_)
      | (guard_target = Go.wpList _ _ _ ((⟨some _, .load _ (.tmp 8), _, _, _, _⟩ : Go.Oper) :: _) _ _; refine step_load rfl _ rfl b8 rfl QT HR8.out ?_)
      | (guard_target = Go.wpList _ _ _ ((⟨some _, .load _ (.tmp 12), _, _, _, _⟩ : Go.Oper) :: _) _ _; refine step_load rfl _ rfl b12 rfl QT HR12.out ?_)
      | (guard_target = Go.wpList _ _ _ ((⟨some 80, .binOp _ _ _ _ _, _, _, _, _⟩ : Go.Oper) :: _) _ _; refine step_cmp (op := ⟨some 80, .binOp _ _ _ _ _, _, _, _, _⟩) rfl _ _ rfl QA QA rfl rfl HWA.out HWA.out true ⟨fun _ => rfl, fun _ => rfl⟩ ?_; simp only [Act.put, pa, pb, pc, Bool.not_false, Bool.not_true])
      | (guard_target = Go.wpList _ _ _ ((⟨some 84, .binOp _ _ _ _ _, _, _, _, _⟩ : Go.Oper) :: _) _ _; refine step_cmp (op := ⟨some 84, .binOp _ _ _ _ _, _, _, _, _⟩) rfl _ _ rfl QT QT rfl rfl HWT.out HWT.out true ⟨fun _ => rfl, fun _ => rfl⟩ ?_; simp only [Act.put, pa, pb, pc, Bool.not_false, Bool.not_true])
      | (go_at_call 12; refine (dr_awake _ (HT.out.on HB.out) (HK.out.on HB.out)).mono ?_; rintro e w6 ⟨rfl, hb⟩; have HB := Lib.hid (below_on HB.out hb); clear hb)
      | (guard_target = Go.wpList _ _ _ ((⟨some _, .load _ (.tmp 43), _, _, _, _⟩ : Go.Oper) :: _) _ _; refine step_get rfl 5 _ rfl b3 (66 + c * 6 + k) rfl Tryd.underlying5 rfl (.int .u8 x) ?_ ?_; exact (HR3.out.cell (66 + c * 6 + k) (by have := HI2.out; omega)).trans (by rw [kAt_pk HI.out HI2.out, HX.out]))
      | (guard_target = Go.wpList _ _ _ ((⟨some _, .load _ (.tmp 63), _, _, _, _⟩ : Go.Oper) :: _) _ _; refine step_get rfl 5 _ rfl b3 (66 + c * 6 + k) rfl Tryd.underlying5 rfl (.int .u8 x) ?_ ?_; exact (HR3.out.cell (66 + c * 6 + k) (by have := HI2.out; omega)).trans (by rw [kAt_pk HI.out HI2.out, HX.out])))
    go_ret
    exact ⟨rfl, HB.out⟩
  · intro o ho
    simp only [qa, qb, qc, qd] at ho; subst ho
    refine ⟨by kernel_rfl, fun wn hl Kx hKx => ?_⟩
    have HX0 := Lib.hid (HX0.out.trans (hl.mono HX0.out.size))
    have HR3 := Lib.hid (HR3.out.later hl); have HR7 := Lib.hid (HR7.out.later hl); have HR8 := Lib.hid (HR8.out.later hl); have HB := Lib.hid (below_on HB.out hl); clear hl
    refine mid_allocP rfl ?_; intro b12 wm N R
    have HD3_12 := Lib.hid (show b3 ≠ b12 from Nat.ne_of_lt (by have h1 := HR3.out.lt; have := N.at_; omega))
    have HD7_12 := Lib.hid (show b7 ≠ b12 from Nat.ne_of_lt (by have h1 := HR7.out.lt; have := N.at_; omega))
    have HD8_12 := Lib.hid (show b8 ≠ b12 from Nat.ne_of_lt (by have h1 := HR8.out.lt; have := N.at_; omega))
    have HG12 := Lib.hid (show wx0.heap.size ≤ b12 by have := HX0.out.size; have := N.at_; omega)
    have hb := N.below
    have HRn := Lib.hid R
    clear N R
    refine hKx.out _ _ (Kept.of_call _ hb) ?_
    have HX0 := Lib.hid (HX0.out.trans (hb.mono HX0.out.size))
    have HR3 := Lib.hid (HR3.out.later hb); have HR7 := Lib.hid (HR7.out.later hb); have HR8 := Lib.hid (HR8.out.later hb); have HB := Lib.hid (below_on HB.out hb); clear hb
    have HR12 := HRn; clear HRn
    clear hKx Kx
    simp only [Act.put, pa, pb, pc]
    refine Wid.mid_one 2 (by kernel_rfl) (by kernel_rfl) (by kernel_rfl) (fun o ho => ?_)
    simp only [qa, qb, qc, qd] at ho; subst ho
    refine ⟨by kernel_rfl, fun wn hl Kx hKx => ?_⟩
    have HX0 := Lib.hid (HX0.out.trans (hl.mono HX0.out.size))
    have HR3 := Lib.hid (HR3.out.later hl); have HR7 := Lib.hid (HR7.out.later hl); have HR8 := Lib.hid (HR8.out.later hl); have HR12 := Lib.hid (HR12.out.later hl); have HB := Lib.hid (below_on HB.out hl); clear hl
    refine mid_allocP rfl ?_; intro b11 wm N R
    have HD3_11 := Lib.hid (show b3 ≠ b11 from Nat.ne_of_lt (by have h1 := HR3.out.lt; have := N.at_; omega))
    have HD7_11 := Lib.hid (show b7 ≠ b11 from Nat.ne_of_lt (by have h1 := HR7.out.lt; have := N.at_; omega))
    have HD8_11 := Lib.hid (show b8 ≠ b11 from Nat.ne_of_lt (by have h1 := HR8.out.lt; have := N.at_; omega))
    have HD12_11 := Lib.hid (show b12 ≠ b11 from Nat.ne_of_lt (by have h1 := HR12.out.lt; have := N.at_; omega))
    have HG11 := Lib.hid (show wx0.heap.size ≤ b11 by have := HX0.out.size; have := N.at_; omega)
    have hb := N.below
    have HRn := Lib.hid R
    clear N R
    refine hKx.out _ _ (Kept.of_call _ hb) ?_
    have HX0 := Lib.hid (HX0.out.trans (hb.mono HX0.out.size))
    have HR3 := Lib.hid (HR3.out.later hb); have HR7 := Lib.hid (HR7.out.later hb); have HR8 := Lib.hid (HR8.out.later hb); have HR12 := Lib.hid (HR12.out.later hb); have HB := Lib.hid (below_on HB.out hb); clear hb
    have HR11 := HRn; clear HRn
    clear hKx Kx
    simp only [Act.put, pa, pb, pc]
    have HD11_12 := Lib.hid (Ne.symm HD12_11.out)
    refine Wid.mid_one 4 (by kernel_rfl) (by kernel_rfl) (by kernel_rfl) (fun o ho => ?_)
    simp only [qa, qb, qc, qd] at ho; subst ho
    refine ⟨by kernel_rfl, fun wn hl Kx hKx => ?_⟩
    have HR3 := Lib.hid (HR3.out.later hl); have HR7 := Lib.hid (HR7.out.later hl); have HR8 := Lib.hid (HR8.out.later hl); have HR11 := Lib.hid (HR11.out.later hl); have HR12 := Lib.hid (HR12.out.later hl); have HB := Lib.hid (below_on HB.out hl); clear hl
    refine mid_storeP _ _ rfl b11 rfl zeroP p rfl HR11.out ?_; intro wm U R
    have HR3 := Lib.hid (HR3.out.apart U HD3_11.out)
    have HR7 := Lib.hid (HR7.out.apart U HD7_11.out)
    have HR8 := Lib.hid (HR8.out.apart U HD8_11.out)
    have HR12 := Lib.hid (HR12.out.apart U HD12_11.out)
    refine hKx.out _ _ (kept_upd U HG11.out) ?_
    have HR11 := Lib.hid R; have HB := Lib.hid (HB.out.trans (U.below (Nat.le_trans HW0.out HG11.out))); clear U R
    clear hKx Kx
    simp only [Act.put, pa, pb, pc]
    refine Wid.mid_one 5 (by kernel_rfl) (by kernel_rfl) (by kernel_rfl) (fun o ho => ?_)
    simp only [qa, qb, qc, qd] at ho; subst ho
    refine ⟨by kernel_rfl, fun wn hl Kx hKx => ?_⟩
    have HR3 := Lib.hid (HR3.out.later hl); have HR7 := Lib.hid (HR7.out.later hl); have HR8 := Lib.hid (HR8.out.later hl); have HR11 := Lib.hid (HR11.out.later hl); have HR12 := Lib.hid (HR12.out.later hl); have HB := Lib.hid (below_on HB.out hl); clear hl
    refine mid_storeP _ _ rfl b12 rfl zeroP p rfl HR12.out ?_; intro wm U R
    have HR3 := Lib.hid (HR3.out.apart U HD3_12.out)
    have HR7 := Lib.hid (HR7.out.apart U HD7_12.out)
    have HR8 := Lib.hid (HR8.out.apart U HD8_12.out)
    have HR11 := Lib.hid (HR11.out.apart U HD11_12.out)
    refine hKx.out _ _ (kept_upd U HG12.out) ?_
    have HR12 := Lib.hid R; have HB := Lib.hid (HB.out.trans (U.below (Nat.le_trans HW0.out HG12.out))); clear U R
    clear hKx Kx
    simp only [Act.put, pa, pb, pc]
    refine Wid.mid_end (by kernel_rfl) (fun wn hl => ?_)
    have HR3 := Lib.hid (HR3.out.later hl); have HR7 := Lib.hid (HR7.out.later hl); have HR8 := Lib.hid (HR8.out.later hl); have HR11 := Lib.hid (HR11.out.later hl); have HR12 := Lib.hid (HR12.out.later hl); have HB := Lib.hid (below_on HB.out hl); clear hl
    go_wp2_with (first
      | (guard_target = Go.wpList _ _ _ ((⟨some _, .load _ (.tmp 43), _, _, _, _⟩ : Go.Oper) :: _) _ _; refine step_get rfl 5 _ rfl b3 (66 + c * 6 + k) rfl Tryd.underlying5 rfl (.int .u8 x) ?_ ?_; exact (HR3.out.cell (66 + c * 6 + k) (by have := HI2.out; omega)).trans (by rw [kAt_pk HI.out HI2.out, HX.out]))
      | (guard_target = Go.wpList _ _ _ ((⟨some _, .load _ (.tmp 63), _, _, _, _⟩ : Go.Oper) :: _) _ _; refine step_get rfl 5 _ rfl b3 (66 + c * 6 + k) rfl Tryd.underlying5 rfl (.int .u8 x) ?_ ?_; exact (HR3.out.cell (66 + c * 6 + k) (by have := HI2.out; omega)).trans (by rw [kAt_pk HI.out HI2.out, HX.out])))
    refine late_begin 10 (by kernel_rfl) ?_
    refine ltk 0 (by kernel_rfl) (fun _ _ d _ _ h => by cases d <;> exact h) (fun o ho => ?_)
    simp only [qa, qb, qc, qd] at ho; subst ho
    apply Exists.intro
    refine ⟨Or.inl ⟨by kernel_rfl, fun w' hl => Or.inl ?_⟩, ?_⟩
    · (go_simp; try with_reducible rfl)
    simp only [Act.put, pa, pb, pc]
    refine ltk 1 (by kernel_rfl) (fun _ _ d _ _ h => by cases d <;> exact h) (fun o ho => ?_)
    simp only [qa, qb, qc, qd] at ho; subst ho
    apply Exists.intro
    refine ⟨Or.inl ⟨by kernel_rfl, fun w' hl => Or.inl ?_⟩, ?_⟩
    · (go_simp; try with_reducible rfl)
    simp only [Act.put, pa, pb, pc]
    refine ltk 2 (by kernel_rfl) (fun _ _ d _ _ h => by cases d <;> exact h) (fun o ho => ?_)
    simp only [qa, qb, qc, qd] at ho; subst ho
    apply Exists.intro
    refine ⟨Or.inl ⟨by kernel_rfl, fun w' hl => Or.inl ?_⟩, ?_⟩
    · (go_simp; try with_reducible rfl)
    simp only [Act.put, pa, pb, pc]
    refine ltk 3 (by kernel_rfl) (fun _ _ d _ _ h => by cases d <;> exact h) (fun o ho => ?_)
    simp only [qa, qb, qc, qd] at ho; subst ho
    refine ⟨.pointer (some ⟨b11, 66 + c * 6, none⟩), Or.inl ⟨by kernel_rfl, fun w' hl => Or.inl ?_⟩, ?_⟩
    · (go_simp; first | done | (with_reducible rfl) | (intro hbad; exfalso; omega))
    simp only [Act.put, pa, pb, pc]
    refine ltk 4 (by kernel_rfl) (fun _ _ d _ _ h => by cases d <;> exact h) (fun o ho => ?_)
    simp only [qa, qb, qc, qd] at ho; subst ho
    refine ⟨.pointer (some ⟨b11, 66 + c * 6 + k, none⟩), Or.inl ⟨by kernel_rfl, fun w' hl => Or.inl ?_⟩, ?_⟩
    · (go_simp; first | done | (with_reducible rfl) | (intro hbad; exfalso; omega))
    simp only [Act.put, pa, pb, pc]
    refine ltk 5 (by kernel_rfl) (fun _ _ d _ _ h => by cases d <;> exact h) (fun o ho => ?_)
    simp only [qa, qb, qc, qd] at ho; subst ho
    refine ⟨.int .u8 x, Or.inl ⟨by kernel_rfl, fun w' hl => Or.inl (run_get 5 _ rfl b11 (66 + c * 6 + k) rfl Tryd.underlying5 rfl (.int .u8 x) (((HR11.out.later hl).cell (66 + c * 6 + k) (by have := HI2.out; omega)).trans (by rw [kAt_pk HI.out HI2.out, HX.out])))⟩, ?_⟩
    simp only [Act.put, pa, pb, pc]
    refine ltk 6 (by kernel_rfl) (fun _ _ d _ _ h => by cases d <;> exact h) (fun o ho => ?_)
    simp only [qa, qb, qc, qd] at ho; subst ho
    refine ⟨.int .u8 (x + 1), Or.inl ⟨by kernel_rfl, fun w' hl => Or.inl ?_⟩, ?_⟩
    · go_simp; exact IntWalk.u8_in _ (by omega)
    simp only [Act.put, pa, pb, pc]
    refine late_takeD 7 [8, 9, 10] (by kernel_rfl) (by kernel_rfl) (by kernel_rfl) (by kernel_rfl) (by kernel_rfl) (fun _ _ d _ _ h => by cases d <;> exact h) (fun o ho => ?_)
    simp only [qa, qb, qc, qd] at ho; subst ho
    apply Exists.intro
    refine ⟨Or.inl ⟨by kernel_rfl, fun w' hl => Or.inl ?_⟩, ?_⟩
    · (go_simp; try with_reducible rfl)
    simp only [Act.put, pa, pb, pc]
    refine late_takeD 8 [9, 10] (by kernel_rfl) (by kernel_rfl) (by kernel_rfl) (by kernel_rfl) (by kernel_rfl) (fun _ _ d _ _ h => by cases d <;> exact h) (fun o ho => ?_)
    simp only [qa, qb, qc, qd] at ho; subst ho
    refine ⟨.pointer (some ⟨b11, 66 + c * 6, none⟩), Or.inl ⟨by kernel_rfl, fun w' hl => Or.inl ?_⟩, ?_⟩
    · (go_simp; first | done | (with_reducible rfl) | (intro hbad; exfalso; omega))
    simp only [Act.put, pa, pb, pc]
    refine ltk 9 (by kernel_rfl) (fun _ _ d _ _ h => by cases d <;> exact h) (fun o ho => ?_)
    simp only [qa, qb, qc, qd] at ho; subst ho
    refine ⟨.pointer (some ⟨b11, 66 + c * 6 + k, none⟩), Or.inl ⟨by kernel_rfl, fun w' hl => Or.inl ?_⟩, ?_⟩
    · (go_simp; first | done | (with_reducible rfl) | (intro hbad; exfalso; omega))
    simp only [Act.put, pa, pb, pc]
    refine late_last 10 (by kernel_rfl) (by kernel_rfl) (by kernel_rfl) (fun o ho => ?_)
    simp only [qa, qb, qc, qd] at ho; subst ho
    refine ⟨by kernel_rfl, fun wn hl K hK => ?_⟩
    have HR3 := Lib.hid (HR3.out.later hl); have HR7 := Lib.hid (HR7.out.later hl); have HR8 := Lib.hid (HR8.out.later hl); have HR11 := Lib.hid (HR11.out.later hl); have HR12 := Lib.hid (HR12.out.later hl); have HB := Lib.hid (below_on HB.out hl); clear hl
    refine late_cellD 5 _ _ rfl b11 (66 + c * 6 + k) rfl .u8 (x + 1) rfl p HR11.out (by have := HI2.out; omega) (kAt_pk HI.out HI2.out) size5 ?_; intro wm U R
    have HR3 := Lib.hid (HR3.out.apart U HD3_11.out)
    have HR7 := Lib.hid (HR7.out.apart U HD7_11.out)
    have HR8 := Lib.hid (HR8.out.apart U HD8_11.out)
    have HR12 := Lib.hid (HR12.out.apart U HD12_11.out)
    have HR11 := Lib.hid R; have HB := Lib.hid (HB.out.trans (U.below (Nat.le_trans HW0.out HG11.out))); clear U R
    refine hK.out _ _ ?_
    clear hK K
    simp only [Act.put, pa, pb, pc]
    have HR11 := Lib.hid (show Row _ b11 QA from HEA.out ▸ HR11.out)
    go_wp2_with (first
      | (guard_target = Go.wpList _ _ _ ((⟨some _, .load _ (.tmp 43), _, _, _, _⟩ : Go.Oper) :: _) _ _; refine step_get rfl 5 _ rfl b3 (66 + c * 6 + k) rfl Tryd.underlying5 rfl (.int .u8 x) ?_ ?_; exact (HR3.out.cell (66 + c * 6 + k) (by have := HI2.out; omega)).trans (by rw [kAt_pk HI.out HI2.out, HX.out]))
      | (guard_target = Go.wpList _ _ _ ((⟨some _, .load _ (.tmp 63), _, _, _, _⟩ : Go.Oper) :: _) _ _; refine step_get rfl 5 _ rfl b3 (66 + c * 6 + k) rfl Tryd.underlying5 rfl (.int .u8 x) ?_ ?_; exact (HR3.out.cell (66 + c * 6 + k) (by have := HI2.out; omega)).trans (by rw [kAt_pk HI.out HI2.out, HX.out])))
    refine late_begin 10 (by kernel_rfl) ?_
    refine ltk 0 (by kernel_rfl) (fun _ _ d _ _ h => by cases d <;> exact h) (fun o ho => ?_)
    simp only [qa, qb, qc, qd] at ho; subst ho
    apply Exists.intro
    refine ⟨Or.inl ⟨by kernel_rfl, fun w' hl => Or.inl ?_⟩, ?_⟩
    · (go_simp; try with_reducible rfl)
    simp only [Act.put, pa, pb, pc]
    refine ltk 1 (by kernel_rfl) (fun _ _ d _ _ h => by cases d <;> exact h) (fun o ho => ?_)
    simp only [qa, qb, qc, qd] at ho; subst ho
    apply Exists.intro
    refine ⟨Or.inl ⟨by kernel_rfl, fun w' hl => Or.inl ?_⟩, ?_⟩
    · (go_simp; try with_reducible rfl)
    simp only [Act.put, pa, pb, pc]
    refine ltk 2 (by kernel_rfl) (fun _ _ d _ _ h => by cases d <;> exact h) (fun o ho => ?_)
    simp only [qa, qb, qc, qd] at ho; subst ho
    apply Exists.intro
    refine ⟨Or.inl ⟨by kernel_rfl, fun w' hl => Or.inl ?_⟩, ?_⟩
    · (go_simp; try with_reducible rfl)
    simp only [Act.put, pa, pb, pc]
    refine ltk 3 (by kernel_rfl) (fun _ _ d _ _ h => by cases d <;> exact h) (fun o ho => ?_)
    simp only [qa, qb, qc, qd] at ho; subst ho
    refine ⟨.pointer (some ⟨b12, 66 + c * 6, none⟩), Or.inl ⟨by kernel_rfl, fun w' hl => Or.inl ?_⟩, ?_⟩
    · (go_simp; first | done | (with_reducible rfl) | (intro hbad; exfalso; omega))
    simp only [Act.put, pa, pb, pc]
    refine ltk 4 (by kernel_rfl) (fun _ _ d _ _ h => by cases d <;> exact h) (fun o ho => ?_)
    simp only [qa, qb, qc, qd] at ho; subst ho
    refine ⟨.pointer (some ⟨b12, 66 + c * 6 + k, none⟩), Or.inl ⟨by kernel_rfl, fun w' hl => Or.inl ?_⟩, ?_⟩
    · (go_simp; first | done | (with_reducible rfl) | (intro hbad; exfalso; omega))
    simp only [Act.put, pa, pb, pc]
    refine ltk 5 (by kernel_rfl) (fun _ _ d _ _ h => by cases d <;> exact h) (fun o ho => ?_)
    simp only [qa, qb, qc, qd] at ho; subst ho
    refine ⟨.int .u8 x, Or.inl ⟨by kernel_rfl, fun w' hl => Or.inl (run_get 5 _ rfl b12 (66 + c * 6 + k) rfl Tryd.underlying5 rfl (.int .u8 x) (((HR12.out.later hl).cell (66 + c * 6 + k) (by have := HI2.out; omega)).trans (by rw [kAt_pk HI.out HI2.out, HX.out])))⟩, ?_⟩
    simp only [Act.put, pa, pb, pc]
    refine ltk 6 (by kernel_rfl) (fun _ _ d _ _ h => by cases d <;> exact h) (fun o ho => ?_)
    simp only [qa, qb, qc, qd] at ho; subst ho
    refine ⟨.int .u8 (x - 1), Or.inl ⟨by kernel_rfl, fun w' hl => Or.inl ?_⟩, ?_⟩
    · go_simp; exact IntWalk.u8_in _ (by omega)
    simp only [Act.put, pa, pb, pc]
    refine late_takeD 7 [8, 9, 10] (by kernel_rfl) (by kernel_rfl) (by kernel_rfl) (by kernel_rfl) (by kernel_rfl) (fun _ _ d _ _ h => by cases d <;> exact h) (fun o ho => ?_)
    simp only [qa, qb, qc, qd] at ho; subst ho
    apply Exists.intro
    refine ⟨Or.inl ⟨by kernel_rfl, fun w' hl => Or.inl ?_⟩, ?_⟩
    · (go_simp; try with_reducible rfl)
    simp only [Act.put, pa, pb, pc]
    refine late_takeD 8 [9, 10] (by kernel_rfl) (by kernel_rfl) (by kernel_rfl) (by kernel_rfl) (by kernel_rfl) (fun _ _ d _ _ h => by cases d <;> exact h) (fun o ho => ?_)
    simp only [qa, qb, qc, qd] at ho; subst ho
    refine ⟨.pointer (some ⟨b12, 66 + c * 6, none⟩), Or.inl ⟨by kernel_rfl, fun w' hl => Or.inl ?_⟩, ?_⟩
    · (go_simp; first | done | (with_reducible rfl) | (intro hbad; exfalso; omega))
    simp only [Act.put, pa, pb, pc]
    refine ltk 9 (by kernel_rfl) (fun _ _ d _ _ h => by cases d <;> exact h) (fun o ho => ?_)
    simp only [qa, qb, qc, qd] at ho; subst ho
    refine ⟨.pointer (some ⟨b12, 66 + c * 6 + k, none⟩), Or.inl ⟨by kernel_rfl, fun w' hl => Or.inl ?_⟩, ?_⟩
    · (go_simp; first | done | (with_reducible rfl) | (intro hbad; exfalso; omega))
    simp only [Act.put, pa, pb, pc]
    refine late_last 10 (by kernel_rfl) (by kernel_rfl) (by kernel_rfl) (fun o ho => ?_)
    simp only [qa, qb, qc, qd] at ho; subst ho
    refine ⟨by kernel_rfl, fun wn hl K hK => ?_⟩
    have HR3 := Lib.hid (HR3.out.later hl); have HR7 := Lib.hid (HR7.out.later hl); have HR8 := Lib.hid (HR8.out.later hl); have HR11 := Lib.hid (HR11.out.later hl); have HR12 := Lib.hid (HR12.out.later hl); have HB := Lib.hid (below_on HB.out hl); clear hl
    refine late_cellD 5 _ _ rfl b12 (66 + c * 6 + k) rfl .u8 (x - 1) rfl p HR12.out (by have := HI2.out; omega) (kAt_pk HI.out HI2.out) size5 ?_; intro wm U R
    have HR3 := Lib.hid (HR3.out.apart U HD3_12.out)
    have HR7 := Lib.hid (HR7.out.apart U HD7_12.out)
    have HR8 := Lib.hid (HR8.out.apart U HD8_12.out)
    have HR11 := Lib.hid (HR11.out.apart U HD11_12.out)
    have HR12 := Lib.hid R; have HB := Lib.hid (HB.out.trans (U.below (Nat.le_trans HW0.out HG12.out))); clear U R
    refine hK.out _ _ ?_
    clear hK K
    simp only [Act.put, pa, pb, pc]
    have HR12 := Lib.hid (show Row _ b12 QT from HET.out ▸ HR12.out)
    go_wp2_with (first
      | (guard_target = Go.wpList _ _ _ ((⟨some _, .load _ (.tmp 7), _, _, _, _⟩ : Go.Oper) :: _) _ _; refine step_load rfl _ rfl b7 rfl QA HR7.out ?_)
      | (guard_target = Go.wpList _ _ _ ((⟨some _, .load _ (.tmp 11), _, _, _, _⟩ : Go.Oper) :: _) _ _; refine step_load rfl _ rfl b11 rfl QA HR11.out ?_)
      | (guard_target = Go.wpList _ _ _ ((⟨some _, .load _ (.tmp 8), _, _, _, _⟩ : Go.Oper) :: _) _ _; refine step_load rfl _ rfl b8 rfl QT HR8.out ?_)
      | (guard_target = Go.wpList _ _ _ ((⟨some _, .load _ (.tmp 12), _, _, _, _⟩ : Go.Oper) :: _) _ _; refine step_load rfl _ rfl b12 rfl QT HR12.out ?_)
      | (guard_target = Go.wpList _ _ _ ((⟨some 80, .binOp _ _ _ _ _, _, _, _, _⟩ : Go.Oper) :: _) _ _; refine step_cmp (op := ⟨some 80, .binOp _ _ _ _ _, _, _, _, _⟩) rfl _ _ rfl QA QA rfl rfl HWA.out HWA.out true ⟨fun _ => rfl, fun _ => rfl⟩ ?_; simp only [Act.put, pa, pb, pc, Bool.not_false, Bool.not_true])
      | (guard_target = Go.wpList _ _ _ ((⟨some 84, .binOp _ _ _ _ _, _, _, _, _⟩ : Go.Oper) :: _) _ _; refine step_cmp (op := ⟨some 84, .binOp _ _ _ _ _, _, _, _, _⟩) rfl _ _ rfl QT QT rfl rfl HWT.out HWT.out true ⟨fun _ => rfl, fun _ => rfl⟩ ?_; simp only [Act.put, pa, pb, pc, Bool.not_false, Bool.not_true])
      | (go_at_call 12; refine (dr_awake _ (HT.out.on HB.out) (HK.out.on HB.out)).mono ?_; rintro e w6 ⟨rfl, hb⟩; have HB := Lib.hid (below_on HB.out hb); clear hb)
      | (guard_target = Go.wpList _ _ _ ((⟨some _, .load _ (.tmp 43), _, _, _, _⟩ : Go.Oper) :: _) _ _; refine step_get rfl 5 _ rfl b3 (66 + c * 6 + k) rfl Tryd.underlying5 rfl (.int .u8 x) ?_ ?_; exact (HR3.out.cell (66 + c * 6 + k) (by have := HI2.out; omega)).trans (by rw [kAt_pk HI.out HI2.out, HX.out]))
      | (guard_target = Go.wpList _ _ _ ((⟨some _, .load _ (.tmp 63), _, _, _, _⟩ : Go.Oper) :: _) _ _; refine step_get rfl 5 _ rfl b3 (66 + c * 6 + k) rfl Tryd.underlying5 rfl (.int .u8 x) ?_ ?_; exact (HR3.out.cell (66 + c * 6 + k) (by have := HI2.out; omega)).trans (by rw [kAt_pk HI.out HI2.out, HX.out])))
    go_ret
    exact ⟨rfl, HB.out⟩
theorem walk (p : Nat → Int) (c k : Int) (w0 : WfP p) (w1 : (Lit.int .u8 c).wf = true) (w2 : (Lit.int .u8 k).wf = true) (w : World) (hD : TabDb w) (hV : TabVar w) (hKn : TabKn w) : Calls Tryd.prog 5 #[.agg (posA p), .int .u8 c, .int .u8 k] w fun e w' => e = .returned (.bool true) ∧ Below w.heap.size w w' := by
  have hc := (u8_rng w1).1
  have hT : DrT w := ⟨hV, hD⟩
  cases gh : hasP c k
  · rcases hasP_false.1 gh with h | h | h
    · exact no_c p c k w0 w hT hKn hc (by omega)
    · by_cases h0 : c < 2
      · exact no_k p c k w0 w hT hKn hc h0 h
      · exact no_c p c k w0 w hT hKn hc (by omega)
    · by_cases h0 : c < 2
      · exact no_6 p c k w0 w hT hKn hc h0 (by omega) h
      · exact no_c p c k w0 w hT hKn hc (by omega)
  · obtain ⟨a, b, rfl, rfl, ha, hb1, hb6⟩ := hasP_nat hc gh
    have hr := (DrR.of w0).pk (66 + a * 6 + b) (by omega) (by omega)
    by_cases h1 : 255 ≤ p (66 + a * 6 + b)
    · exact yes_t p a b w0 w hT hKn ha hb1 hb6 h1
    · by_cases h2 : p (66 + a * 6 + b) = 0
      · exact yes_a p a b w0 w hT hKn ha hb1 hb6 h2
      · exact yes_at p a b w0 w hT hKn ha hb1 hb6 ⟨by omega, by omega⟩
end Go.Proofs.YtdjnniohoicppaaDoor.dropPockets
