/-
  Contracts of the program's partsOf: the parts that a color has for itself, told one by one.
-/
import Derived.Test.YtboopdmgphhemaaDoorHaXor
import Derived.Test.YtboopdmgphhemaaDoorPosEq
namespace Go.Proofs.YtboopdmgphhemaaDoor
open Go.RowKit Go.Shelf
set_option linter.unusedVariables false
set_option linter.unusedSimpArgs false
attribute [local go_sem] Oper.semAt_some

/-- The numbers of a position fit their kinds. -/
structure FitP (p : Nat → Int) : Prop where
  var : 0 ≤ p 0 ∧ p 0 ≤ 255
  bd : ∀ i, i < 64 → 0 ≤ p (1 + i) ∧ p (1 + i) ≤ 255
  prom : 0 ≤ p 65 ∧ (p 65).toNat < W64
  pock : ∀ i, 66 ≤ i → i < 78 → 0 ≤ p i ∧ p i ≤ 255
  turn : 0 ≤ p 78 ∧ p 78 ≤ 255
  rook : ∀ i, 79 ≤ i → i < 83 → -128 ≤ p i ∧ p i ≤ 127
  pass : -128 ≤ p 83 ∧ p 83 ≤ 127
  chk : ∀ i, 84 ≤ i → i < 86 → 0 ≤ p i ∧ p i ≤ 255
theorem fit_wf {k : IntKind} {n : Int} (h : (Lit.int k n).wf = true) : k.min ≤ n ∧ n ≤ k.max := by simpa [Lit.wf] using h
theorem fit_u8 {k : IntKind} {n : Int} (h : (Lit.int k n).wf = true) (e : k = .u8) : 0 ≤ n ∧ n ≤ 255 := by
  subst e
  have h := fit_wf h
  have a : IntKind.u8.min = 0 := by decide
  have b : IntKind.u8.max = 255 := by decide
  omega
theorem fit_i8 {k : IntKind} {n : Int} (h : (Lit.int k n).wf = true) (e : k = .i8) : -128 ≤ n ∧ n ≤ 127 := by
  subst e
  have h := fit_wf h
  have a : IntKind.i8.min = -128 := by decide
  have b : IntKind.i8.max = 127 := by decide
  omega
theorem fit_u64 {n : Int} (h : (Lit.int .u64 n).wf = true) : ∃ m : Nat, m < W64 ∧ n = (m : Int) := by
  have h := fit_wf h
  have a : IntKind.u64.min = 0 := by decide
  have b : IntKind.u64.max = 18446744073709551615 := by decide
  exact ⟨n.toNat, by unfold W64; omega, by omega⟩
theorem k_u8 {o : Nat} (k : o < 65 ∨ 66 ≤ o ∧ o < 79 ∨ o = 84 ∨ o = 85) : kAt o = .u8 := by unfold kAt; rw [if_neg (by omega), if_neg (by omega), if_neg (by omega)]
theorem k_i8 {o : Nat} (h : 79 ≤ o) (k : o ≤ 83) : kAt o = .i8 := by unfold kAt; rw [if_neg (by omega), if_pos ⟨h, k⟩]
theorem FitP.of {p : Nat → Int} (h : WfP p) : FitP p := by
  refine ⟨fit_u8 (h 0 (by omega)) rfl, fun i hi => fit_u8 (h (1 + i) (by omega)) (k_u8 (by omega)), ?_, fun i h1 h2 => fit_u8 (h i (by omega)) (k_u8 (by omega)), fit_u8 (h 78 (by omega)) rfl, fun i h1 h2 => fit_i8 (h i (by omega)) (k_i8 (by omega) (by omega)), fit_i8 (h 83 (by omega)) rfl, fun i h1 h2 => fit_u8 (h i (by omega)) (k_u8 (by omega))⟩
  have := fit_wf (h 65 (by omega)); have e : kAt 65 = .u64 := rfl; rw [e] at this
  have a : IntKind.u64.min = 0 := by decide
  have b : IntKind.u64.max = 18446744073709551615 := by decide
  unfold W64; omega

/-! Steps of a walk inside the widest fence. -/
theorem stepI {n : Nat} {P : Program} {ops : Array Oper} {Q : Exit → Act → World → Prop} {rest : List Oper} {o : Oper} {a : Act} {w w' : World} {v : Value} (hg : o.guard = none) (hr : (execOp a.eval o).run P w = .ok (.value v) w')
    (h : wpListIn Fence.wide n P ops Q rest (a.put o.dst v) w') : wpListIn Fence.wide n P ops Q (o :: rest) a w :=
  wpListIn_plain hg fun K hK => ⟨fun _ _ => trivial, by
    show o.uponIn Fence.wide n P a K Q ((execOp a.eval o).run P w)
    rw [hr]; exact hK _ _ h⟩
theorem part_arr (p : Nat → Int) (off n : Nat) (K : IntKind) (hk : ∀ j, j < n → kAt (off + j) = K) : (partL p off n).toArray = arrA n K (fun j => p (off + j)) := by
  apply Array.ext_getElem?
  intro i
  by_cases hi : i < n
  · rw [arrA_get _ _ _ _ hi]; simp [partL, hi, hk i hi]
  · rw [Array.getElem?_eq_none (by rw [List.size_toArray, partL_len]; omega), Array.getElem?_eq_none (by rw [arrA_size]; omega)]
theorem run_part {o : Oper} {a : Act} {w : World} (T : TypeId) (x : Operand) (ho : o.op = .load T x) (b off n : Nat) (hx : a.eval x = .pointer (some ⟨b, off, none⟩)) (K : IntKind) (p : Nat → Int) (hr : Row w b p) (hn : off + n ≤ 88) (hk : ∀ j, j < n → kAt (off + j) = K)
    (d : TypeDesc) (hu : Tryd.prog.underlying T = some d) (hd : d.isRow = true) (hi : (Tryd.prog.info? T).map (·.size) = some n) :
    (execOp a.eval o).run Tryd.prog w = .ok (.value (.agg (arrA n K fun j => p (off + j)))) w := by
  have hl := run_loadVar_mid (P := Tryd.prog) w b off T (partL p off n) d (hr.range off n hn) hu hd (by rw [partL_len]; exact hi)
  rw [part_arr p off n K hk] at hl
  unfold execOp
  simp only [ho, hx, Instr.loadAt, Instr.sureAddr, Sem.run_bind, Sem.run_pure, Result.andThen_ok, hl]
theorem run_pick {o : Oper} {a : Act} {w : World} (T e : TypeId) (x y : Operand) (ho : o.op = .index T x y) (n : Nat) (K : IntKind) (p : Nat → Int) (hx : a.eval x = .agg (arrA n K p)) (k : Nat) (hy : a.eval y = .int .i64 (k : Int)) (hk : k < n)
    (hu : Tryd.prog.underlying T = some (.array n e)) (he : Tryd.prog.underlying e = some (.int K)) (hs : (Tryd.prog.info? e).map (·.size) = some 1) :
    (execOp a.eval o).run Tryd.prog w = .ok (.value (.int K (p k))) w := by
  unfold execOp
  simp only [ho, hx, hy, Sem.run_bind, run_at hu he hs k hk w, Result.andThen_ok]
  rfl
theorem sizeI8x2 : (Tryd.prog.info? 37).map (·.size) = some 2 := by kernel_rfl
theorem sizeI8 : (Tryd.prog.info? 36).map (·.size) = some 1 := by kernel_rfl
theorem sizeU8x6 : (Tryd.prog.info? 34).map (·.size) = some 6 := by kernel_rfl
theorem sizeU8x64 : (Tryd.prog.info? 33).map (·.size) = some 64 := by kernel_rfl
theorem sizeU8a : (Tryd.prog.info? 5).map (·.size) = some 1 := by kernel_rfl

/-- What the iterator reads: its position, its color, the table. -/
structure OfIn (p : Nat → Int) (c pB cB : Nat) (w : World) : Prop where
  row : Row w pB p
  col : CellAt w cB 0 (.int .u8 (c : Int))
  tab : TabMix w
def OfOff (pB cB : Nat) (X : Nat → Prop) : Prop := ¬ X pB ∧ ¬ X cB ∧ ¬ X 0
theorem OfIn.kept {p : Nat → Int} {c pB cB : Nat} {w w' : World} {X : Nat → Prop} (h : OfIn p c pB cB w) (k : Kept X w w') (ho : OfOff pB cB X) : OfIn p c pB cB w' :=
  ⟨(k.same pB h.row.lt ho.1).trans h.row, h.col.kept k ho.2.1, h.tab.kept k ho.2.2⟩
theorem OfIn.on {p : Nat → Int} {c pB cB : Nat} {w w' : World} (h : OfIn p c pB cB w) (k : Below w.heap.size w w') : OfIn p c pB cB w' := ⟨h.row.later k, h.col.on k, h.tab.on k⟩
theorem OfIn.later {p : Nat → Int} {c pB cB : Nat} {w w' : World} (h : OfIn p c pB cB w) (k : Below w.heap.size w w') : OfIn p c pB cB w' := h.on k
theorem OfIn.off {p : Nat → Int} {c pB cB : Nat} {w W : World} {Y : Nat → Prop} (h : OfIn p c pB cB w) (ho : OfOff pB cB Y) : OfOff pB cB (Xs Y w W) := ⟨xs_off ho.1 h.row.lt, xs_off ho.2.1 h.col.lt, xs_off ho.2.2 h.tab.lt⟩
def OfPost (p : Nat → Int) (c : Nat) (w : World) (e : Ending) (w' : World) : Prop :=
  ∃ b, w.heap.size ≤ b ∧ e = .returned (.func (.func 43) #[] #[.pointer (some ⟨b, 0, none⟩), .pointer (some ⟨b + 1, 0, none⟩)]) ∧ Below w.heap.size w w' ∧ Row w' b p ∧ CellAt w' (b + 1) 0 (.int .u8 (c : Int)) ∧ w'.heap.size = b + 2
theorem row_pushed {w : World} {b : Nat} {p : Nat → Int} (h : Row w b p) (o : Obj) : Row (w.alloc o) b p := h.later (boxed_below w o)
theorem cell_pushed (w : World) (v : Value) (t : TypeId) : CellAt (w.alloc (.cells #[v] t)) w.heap.size 0 v := by show World.cell? _ _ = _; rw [World.cell?_alloc_new]; rfl
theorem partsOf_box (p : Nat → Int) (c : Nat) (w : World) : Calls Tryd.prog 41 #[.agg (posA p), .int .u8 (c : Int)] w (OfPost p c w) := by
  go_enter Tryd.func41, Tryd.ntmps41
  go_wp2_with (refine step_box rfl _ rfl p rfl ?_; intro b1 w1 N R; have HN := Lib.hid N; have HR := Lib.hid R; clear N R)
  go_ret
  have e2 := HN.out.size
  exact ⟨b1, by rw [HN.out.at_]; exact Nat.le_refl _, by rw [← e2]; rfl, (HN.out.below.alloc HN.out.below.size _), row_pushed HR.out _, by rw [← e2]; exact cell_pushed _ _ _, by rw [size_pushed, e2]⟩

theorem roL_in (p : Nat → Int) (c : Nat) {d : Nat} (h : d < 2) : roL p c d ++ [rookHN (c : Int) (d : Int) (p (79 + c * 2 + d))] <+: coL p c := by
  have e : roL p c (d + 1) <+: roL p c 2 := roL_pre p c (by omega)
  unfold coL; rw [List.append_assoc]; exact e.trans (List.prefix_append _ _)
theorem poL_in (p : Nat → Int) (c : Nat) {k : Nat} (h : k < 6) : (roL p c 2 ++ poL p c k) ++ [pockN (c : Int) (k : Int) (p (66 + c * 6 + k))] <+: coL p c := by
  have e : poL p c (k + 1) <+: poL p c 6 := poL_pre p c (by omega)
  unfold coL; rw [List.append_assoc, List.append_assoc]
  exact (List.prefix_append_right_inj _).2 (e.trans (List.prefix_append _ _))
theorem wrap_u8_small {k : Nat} (h : k < 6) : IntKind.u8.wrap (k : Int) = (k : Int) := by
  have : k = 0 ∨ k = 1 ∨ k = 2 ∨ k = 3 ∨ k = 4 ∨ k = 5 := by omega
  rcases this with rfl | rfl | rfl | rfl | rfl | rfl <;> rfl
set_option maxRecDepth 100000 in
set_option maxHeartbeats 2000000 in
theorem partsOf_seq (n pB cB c : Nat) (hn : 1 ≤ n) (hc : c < 2) (p : Nat → Int) (hp : FitP p) (Y : Nat → Prop) (w : World) (hI : OfIn p c pB cB w) (hO : OfOff pB cB Y) :
    SeqV u64V n 43 #[.pointer (some ⟨pB, 0, none⟩), .pointer (some ⟨cB, 0, none⟩)] Y (coL p c) w := by
  intro l J Jx W hW hJ hJx hyd h0
  have HO := Lib.hid (hI.off (W := W) hO)
  have HI := Lib.hid (hI.on hW)
  have HY := Lib.hid hyd
  have HP := Lib.hid hp
  have HJ := Lib.hid hJ
  have HJx := Lib.hid hJx
  have H0 := Lib.hid h0
  have HF := Lib.hid (by kernel_rfl : Tryd.prog.follows .mixedOrders = true)
  clear hI hO hyd hp h0 hW hJ hJx
  show CallsIn Fence.wide n Tryd.prog _ #[.func (.yield l) #[] #[], .pointer (some ⟨pB, 0, none⟩), .pointer (some ⟨cB, 0, none⟩)] W _
  refine callsIn_of_wp Tryd.func43 rfl trivial ?_ rfl
  simp only [Tryd.ntmps43, List.size_toArray, List.length_cons, List.length_nil, Nat.reduceAdd, Nat.reduceSub, Array.replicate_succ, Array.replicate_zero, List.push_toArray, List.append_toArray, List.nil_append, List.cons_append]
  have hcc : W.cell? ⟨cB, 0, none⟩ = some (.int .u8 (c : Int)) := HI.out.col
  have c0 : (0 : Int) ≤ (c : Int) := by omega
  have c1 : (c : Int) < 2 := by omega
  gi_wp2_with (refine stepI rfl (run_part 37 _ rfl pB (79 + c * 2) 2 rfl .i8 p HI.out.row (by omega) (fun j hj => k_i8 (by omega) (by omega)) _ Tryd.underlying37 rfl sizeI8x2) ?_)
  gi_loopw [12] (fun i wr => ∃ d : Nat, d ≤ 2 ∧ i = .int .i64 (d : Int) ∧ W.heap.size ≤ wr.heap.size ∧ OfIn p c pB cB wr ∧ J (roL p c d) wr) (fun i _ => 2 - (intOf i).toNat)
  case atStart => exact ⟨0, by omega, rfl, Nat.le_refl _, HI.out, H0.out⟩
  case round =>
    obtain ⟨d, hd, rfl, hs, hi, hj⟩ := hrel
    have Hs := Lib.hid hs
    have Hi := Lib.hid hi
    have Hj := Lib.hid hj
    have hcr : wr.cell? ⟨cB, 0, none⟩ = some (.int .u8 (c : Int)) := Hi.out.col
    clear hs hi hj hcc
    by_cases h2 : d < 2
    · have hld : (d : Int) < 2 := by omega
      have hd0 : (0 : Int) ≤ (d : Int) := by omega
      obtain ⟨f0, f1⟩ := HP.out.rook (79 + c * 2 + d) (by omega) (by omega)
      gi_wp2_with (first
        | (refine stepI rfl (run_pick 37 36 _ _ rfl 2 .i8 (fun j => p (79 + c * 2 + j)) rfl d rfl h2 Tryd.underlying37 Tryd.underlying36 sizeI8) ?_)
        | (refine ⟨trivial, ?_⟩; gi_at_call 18; refine (callsIn_wide.2 (rook_nany _ _ _ _ c0 Hi.out.tab)).mono ?_; rintro e wm ⟨rfl, hb⟩; obtain ⟨fn, tmps, assign, body, hy, hR⟩ := HY.out (roL p c d) (rookHN (c : Int) (d : Int) (p (79 + c * 2 + d))) wm (HJ.out _ _ _ Hj.out ((Kept.of_below hb).mono fun i hi => Nat.le_trans Hs.out hi)) (roL_in p c h2); simp only [u64V] at hy; have HB2 := Lib.hid hb; have HRr := Lib.hid (show RoundIn Fence.wide (n - 1) Tryd.prog l fn tmps assign body wm _ from ⟨trivial, fun c cs _ => hR.2 c cs (room_wide _)⟩); clear hb hR))
      refine HRr.out.mono ?_
      rintro e W3 ⟨bb, rfl, hk3, hJ3⟩
      have HK3 := Lib.hid hk3
      cases bb
      · rw [if_neg (by simp)] at hJ3
        have Hj3 := Lib.hid hJ3
        clear hJ3 hk3 Hj
        gi_wp2_with fail
        refine bodyPost_ret (results_none rfl _ _ _) rfl ?_
        exact ⟨⟨_, rfl⟩, .inr ⟨(roL p c d) ++ [rookHN (c : Int) (d : Int) (p (79 + c * 2 + d))], by simp, roL_in p c h2, Hj3.out⟩⟩
      · rw [if_pos rfl] at hJ3
        have Hj3 := Lib.hid hJ3
        have Hi3 := Lib.hid ((Hi.out.on HB2.out).kept HK3.out HO.out)
        have Hs3 := Lib.hid (show W.heap.size ≤ W3.heap.size from Nat.le_trans Hs.out (Nat.le_trans HB2.out.size HK3.out.size))
        clear hJ3 hk3 Hj
        gi_wp2_with fail
        go_roundw
        case rel => exact ⟨d + 1, by omega, by go_num, Hs3.out, Hi3.out, Hj3.out⟩
        case measure => simp [intOf]; omega
    · obtain rfl : d = 2 := by omega
      gi_wp2_with (refine stepI rfl (run_part 34 _ rfl pB (66 + c * 6) 6 rfl .u8 p Hi.out.row (by omega) (fun j hj => k_u8 (by omega)) _ Tryd.underlying34 rfl sizeU8x6) ?_)
      gi_loopw [29] (fun i wq => ∃ k : Nat, k ≤ 6 ∧ i = .int .i64 (k : Int) ∧ W.heap.size ≤ wq.heap.size ∧ OfIn p c pB cB wq ∧ J (roL p c 2 ++ poL p c k) wq) (fun i _ => 6 - (intOf i).toNat)
      case atStart => exact ⟨0, by omega, rfl, Hs.out, Hi.out, by rw [show poL p c 0 = [] from rfl, List.append_nil]; exact Hj.out⟩
      case round =>
        clear Hs Hi Hj hcr
        obtain ⟨k, hk, rfl, hs, hi, hj⟩ := hrel
        have Hs := Lib.hid hs
        have Hi := Lib.hid hi
        have Hj := Lib.hid hj
        clear hs hi hj
        by_cases h6 : k < 6
        · have hcr := Hi.out.col
          unfold CellAt at hcr
          have hlk : (k : Int) < 6 := by omega
          have hk0 : (0 : Int) ≤ (k : Int) := by omega
          have hwk := wrap_u8_small h6
          obtain ⟨f0, f1⟩ := HP.out.pock (66 + c * 6 + k) (by omega) (by omega)
          gi_wp2_with (first
            | (refine stepI rfl (run_pick 34 5 _ _ rfl 6 .u8 (fun j => p (66 + c * 6 + j)) rfl k rfl h6 Tryd.underlying34 Tryd.underlying5 sizeU8a) ?_)
            | (refine ⟨trivial, ?_⟩; gi_at_call 20; refine (callsIn_wide.2 (pocket_any _ _ _ _ c0 f0 f1 Hi.out.tab)).mono ?_; rintro e wm ⟨rfl, hb⟩; obtain ⟨fn, tmps, assign, body, hy, hR⟩ := HY.out (roL p c 2 ++ poL p c k) (pockN (c : Int) (k : Int) (p (66 + c * 6 + k))) wm (HJ.out _ _ _ Hj.out ((Kept.of_below hb).mono fun i hi => Nat.le_trans Hs.out hi)) (poL_in p c h6); simp only [u64V] at hy; have HB2 := Lib.hid hb; have HRr := Lib.hid (show RoundIn Fence.wide (n - 1) Tryd.prog l fn tmps assign body wm _ from ⟨trivial, fun c cs _ => hR.2 c cs (room_wide _)⟩); clear hb hR))
          refine HRr.out.mono ?_
          rintro e W3 ⟨bb, rfl, hk3, hJ3⟩
          have HK3 := Lib.hid hk3
          cases bb
          · rw [if_neg (by simp)] at hJ3
            have Hj3 := Lib.hid hJ3
            clear hJ3 hk3 Hj
            gi_wp2_with fail
            refine bodyPost_ret (results_none rfl _ _ _) rfl ?_
            exact ⟨⟨_, rfl⟩, .inr ⟨(roL p c 2 ++ poL p c k) ++ [pockN (c : Int) (k : Int) (p (66 + c * 6 + k))], by simp, poL_in p c h6, Hj3.out⟩⟩
          · rw [if_pos rfl] at hJ3
            have Hj3 := Lib.hid hJ3
            have Hi3 := Lib.hid ((Hi.out.on HB2.out).kept HK3.out HO.out)
            have Hs3 := Lib.hid (show W.heap.size ≤ W3.heap.size from Nat.le_trans Hs.out (Nat.le_trans HB2.out.size HK3.out.size))
            clear hJ3 hk3 Hj
            gi_wp2_with fail
            go_roundw
            case rel => exact ⟨k + 1, by omega, by go_num, Hs3.out, Hi3.out, by rw [show poL p c (k + 1) = poL p c k ++ [pockN (c : Int) (k : Int) (p (66 + c * 6 + k))] from rfl, ← List.append_assoc]; exact Hj3.out⟩
            case measure => simp [intOf]; omega
        · obtain rfl : k = 6 := by omega
          gi_wp2_with fail
          clear HI
          have HI := Hi
          refine Wid.mid_begin (X := Xs Y w W) HF.out ?_
          have HQ := Lib.hid (Kept.refl (Xs Y w W) wr)
          have HB := Lib.hid (Below.refl wr.heap.size wr)
          refine Wid.mid_take 0 (by kernel_rfl) (by kernel_rfl) (by kernel_rfl) (by kernel_rfl) (by kernel_rfl) (fun _ _ d _ _ h => by cases d <;> exact h) (fun o ho => ?_)
          simp only [List.getElem?_toArray, List.getElem?_cons_zero, List.getElem?_cons_succ, Option.some.injEq] at ho; subst ho
          apply Exists.intro
          refine ⟨Or.inl ⟨by kernel_rfl, fun w' hl => ?_⟩, ?_⟩
          · (go_simp; try with_reducible rfl)
          simp only [Act.put, List.setIfInBounds_toArray, List.set_cons_zero, List.set_cons_succ]
          refine Wid.mid_take 1 (by kernel_rfl) (by kernel_rfl) (by kernel_rfl) (by kernel_rfl) (by kernel_rfl) (fun _ _ d _ _ h => by cases d <;> exact h) (fun o ho => ?_)
          simp only [List.getElem?_toArray, List.getElem?_cons_zero, List.getElem?_cons_succ, Option.some.injEq] at ho; subst ho
          refine ⟨_, Or.inl ⟨by kernel_rfl, fun w' hl => run_get 5 _ rfl cB 0 rfl Tryd.underlying5 rfl (.int .u8 (c : Int)) (HI.out.kept hl HO.out).col⟩, ?_⟩
          simp only [Act.put, List.setIfInBounds_toArray, List.set_cons_zero, List.set_cons_succ]
          refine Wid.mid_take 2 (by kernel_rfl) (by kernel_rfl) (by kernel_rfl) (by kernel_rfl) (by kernel_rfl) (fun _ _ d _ _ h => by cases d <;> exact h) (fun o ho => ?_)
          simp only [List.getElem?_toArray, List.getElem?_cons_zero, List.getElem?_cons_succ, Option.some.injEq] at ho; subst ho
          refine ⟨_, Or.inl ⟨by kernel_rfl, fun w' hl => run_get 5 _ rfl cB 0 rfl Tryd.underlying5 rfl (.int .u8 (c : Int)) (HI.out.kept hl HO.out).col⟩, ?_⟩
          simp only [Act.put, List.setIfInBounds_toArray, List.set_cons_zero, List.set_cons_succ]
          refine Wid.mid_take 3 (by kernel_rfl) (by kernel_rfl) (by kernel_rfl) (by kernel_rfl) (by kernel_rfl) (fun _ _ d _ _ h => by cases d <;> exact h) (fun o ho => ?_)
          simp only [List.getElem?_toArray, List.getElem?_cons_zero, List.getElem?_cons_succ, Option.some.injEq] at ho; subst ho
          apply Exists.intro
          refine ⟨Or.inl ⟨by kernel_rfl, fun w' hl => ?_⟩, ?_⟩
          · (go_simp; try with_reducible rfl)
          simp only [Act.put, List.setIfInBounds_toArray, List.set_cons_zero, List.set_cons_succ]
          refine Wid.mid_take 4 (by kernel_rfl) (by kernel_rfl) (by kernel_rfl) (by kernel_rfl) (by kernel_rfl) (fun _ _ d _ _ h => by cases d <;> exact h) (fun o ho => ?_)
          simp only [List.getElem?_toArray, List.getElem?_cons_zero, List.getElem?_cons_succ, Option.some.injEq] at ho; subst ho
          refine ⟨.pointer (some ⟨pB, 84 + c, none⟩), Or.inl ⟨by kernel_rfl, fun w' hl => ?_⟩, ?_⟩
          · (go_simp; try with_reducible rfl)
          simp only [Act.put, List.setIfInBounds_toArray, List.set_cons_zero, List.set_cons_succ]
          refine Wid.mid_take 5 (by kernel_rfl) (by kernel_rfl) (by kernel_rfl) (by kernel_rfl) (by kernel_rfl) (fun _ _ d _ _ h => by cases d <;> exact h) (fun o ho => ?_)
          simp only [List.getElem?_toArray, List.getElem?_cons_zero, List.getElem?_cons_succ, Option.some.injEq] at ho; subst ho
          refine ⟨_, Or.inl ⟨by kernel_rfl, fun w' hl => run_get 5 _ rfl pB (84 + c) rfl Tryd.underlying5 rfl (.int .u8 (p (84 + c))) (by rw [(HI.out.kept hl HO.out).row.cell (84 + c) (by omega), k_u8 (by omega)])⟩, ?_⟩
          simp only [Act.put, List.setIfInBounds_toArray, List.set_cons_zero, List.set_cons_succ]
          refine Wid.mid_one 6 (by kernel_rfl) (by kernel_rfl) (by kernel_rfl) (fun o ho => ?_)
          simp only [List.getElem?_toArray, List.getElem?_cons_zero, List.getElem?_cons_succ, Option.some.injEq] at ho; subst ho
          refine ⟨by kernel_rfl, fun wq hl K2 hK2 => ?_⟩
          have HQ := Lib.hid (HQ.out.trans (Kept.of_call _ hl)); have HB := Lib.hid (below_on HB.out hl); clear hl
          refine Wid.mid_call _ _ (by go_simp; exact ⟨rfl, rfl⟩) ?_
          refine (checks_nany (c : Int) (p (84 + c)) _ c0 (HP.out.chk (84 + c) (by omega) (by omega)).1 (HP.out.chk (84 + c) (by omega) (by omega)).2 (HI.out.kept HQ.out HO.out).tab).mono ?_; rintro e wm ⟨rfl, hb⟩; refine ⟨_, rfl, ?_⟩
          refine hK2.out _ _ (Kept.of_call _ hb) ?_
          have HQ := Lib.hid (HQ.out.trans (Kept.of_call _ hb)); have HB := Lib.hid (below_on HB.out hb); clear hb
          clear hK2 K2
          simp only [Act.put, List.setIfInBounds_toArray, List.set_cons_zero, List.set_cons_succ]
          refine Wid.mid_one 7 (by kernel_rfl) (by kernel_rfl) (by kernel_rfl) (fun o ho => ?_)
          simp only [List.getElem?_toArray, List.getElem?_cons_zero, List.getElem?_cons_succ, Option.some.injEq] at ho; subst ho
          refine ⟨by kernel_rfl, fun wq hl K2 hK2 => ?_⟩
          have HQ := Lib.hid (HQ.out.trans (Kept.of_call _ hl)); have HB := Lib.hid (below_on HB.out hl); clear hl
          refine Wid.mid_yield n l #[u64V (chkHN (c : Int) (p (84 + c)))] (fun w' => by go_simp; rfl) (HY.out (roL p c 2 ++ poL p c 6) (chkHN (c : Int) (p (84 + c))) _ (HJ.out _ _ _ Hj.out ((Kept.of_below HB.out).mono (fun i hi => Nat.le_trans Hs.out hi))) (by unfold coL; exact List.prefix_rfl)) ?_
          rintro e w5 ⟨bb, rfl, hk5, hj5⟩; refine ⟨_, rfl, ?_⟩
          refine hK2.out _ _ hk5 ?_
          have HQ := Lib.hid (HQ.out.trans hk5); have HJ5 := Lib.hid hj5; have HS5 := Lib.hid (Nat.le_trans HB.out.size hk5.size); clear hk5 hj5
          clear hK2 K2
          simp only [Act.put, List.setIfInBounds_toArray, List.set_cons_zero, List.set_cons_succ]
          refine Wid.mid_end (by kernel_rfl) (fun wz hz => ?_)
          have hz2 : Kept (W.heap.size ≤ ·) w5 wz := (Kept.of_below hz).mono (fun i hi => Nat.le_trans Hs.out (Nat.le_trans HS5.out hi))
          have HZ := Lib.hid hz2
          clear hz hz2
          gi_wp2_with fail
          go_end0
          refine ⟨⟨_, rfl⟩, ?_⟩
          have h5 := HJ5.out
          cases bb
          · exact .inr ⟨coL p c, by unfold coL; simp, List.prefix_rfl, HJx.out _ _ _ (by rw [if_neg (by simp)] at h5; exact h5) HZ.out⟩
          · exact .inl (HJ.out _ _ _ (by rw [if_pos rfl] at h5; exact h5) HZ.out)
end Go.Proofs.YtboopdmgphhemaaDoor
