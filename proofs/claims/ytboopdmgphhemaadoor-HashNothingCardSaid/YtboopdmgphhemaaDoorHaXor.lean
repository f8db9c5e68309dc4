/-
  Contracts of the program's marks (an iterator), xored (which ranges over one), Promoted.
-/
import Derived.Test.YtboopdmgphhemaaDoorHaParts
import Derived.Test.YtboopdmgphhemaaDoorSeq
import Derived.Test.YtboopdmgphhemaaDoorRoundW
import Derived.Test.YtboopdmgphhemaaDoorRound
import Derived.Test.YtboopdmgphhemaaDoorRuLater
namespace Go.Proofs.YtboopdmgphhemaaDoor
open Go.RowKit Go.Shelf
set_option linter.unusedVariables false
set_option linter.unusedSimpArgs false
attribute [local go_sem] Oper.semAt_some

/-- A set, a number, as it is told. -/
def u64V (x : Nat) : Value := .int .u64 (x : Int)
theorem bit_at {n a : Nat} (hn : n < W64) : (bits .and .u64 ((n : Int) / 2 ^ a) 1 == 1) = n.testBit a := by
  have e : ((n : Int) / 2 ^ a) = ((n / 2 ^ a : Nat) : Int) := by simp
  rw [e, show (1 : Int) = ((1 : Nat) : Int) from rfl, and_nat (Nat.lt_of_le_of_lt (Nat.div_le_self _ _) hn) (by decide)]
  rw [Nat.and_one_is_mod, Nat.testBit_eq_decide_div_mod_eq]
  rw [Bool.eq_iff_iff, beq_iff_eq, decide_eq_true_eq]; omega
theorem TabMix.kept {w w' : World} {X : Nat → Prop} (h : TabMix w) (k : Kept X w w') (hx : ¬ X 0) : TabMix w' := fun j x hj => k.cell (h j x hj) hx
theorem xs_off {Y : Nat → Prop} {w W : World} {b : Nat} (hY : ¬ Y b) (hb : b < w.heap.size) : ¬ Xs Y w W b := by rintro (h | h); { exact hY h }; { omega }
/-- A cell that holds this, alone in its block. -/
def CellAt (w : World) (b i : Nat) (v : Value) : Prop := w.cell? ⟨b, i, none⟩ = some v
theorem CellAt.lt {w : World} {b i : Nat} {v : Value} (h : CellAt w b i v) : b < w.heap.size := cell_block h
theorem CellAt.on {w w' : World} {b i : Nat} {v : Value} (h : CellAt w b i v) (k : Below w.heap.size w w') : CellAt w' b i v := (k.cell (cell_block h)).trans h
theorem CellAt.later {w w' : World} {b i : Nat} {v : Value} (h : CellAt w b i v) (k : Below w.heap.size w w') : CellAt w' b i v := h.on k
theorem CellAt.kept {w w' : World} {b i : Nat} {v : Value} {X : Nat → Prop} (h : CellAt w b i v) (k : Kept X w w') (hx : ¬ X b) : CellAt w' b i v := k.cell h hx
theorem size_pushed (w : World) (o : Obj) : (w.alloc o).heap.size = w.heap.size + 1 := by show (w.heap.push o).size = _; simp
theorem boxed_below (w : World) (o : Obj) : Below w.heap.size w (w.alloc o) := (Below.refl _ _).alloc (Nat.le_refl _) o

theorem boxed_on {w w' : World} {X : Nat → Prop} {b : Nat} {t : TypeId} {v : Value} (h : Boxed w b t v) (k : Kept X w w') (hx : ¬ X b) : Boxed w' b t v := k.obj (show w.heap[b]? = _ from h) hx
/-- The numbers of the squares of a set, up to square k. -/
def mkL (b : Nat) (k : Nat) : List Nat := (listTo b k).map fun s : Nat => ptN 7 (s : Int)
theorem mkL_yes {b k : Nat} (h : b.testBit k = true) : mkL b (k + 1) = mkL b k ++ [ptN 7 (k : Int)] := by unfold mkL; rw [listTo_yes h, List.map_append]; rfl
theorem mkL_no {b k : Nat} (h : b.testBit k = false) : mkL b (k + 1) = mkL b k := by unfold mkL; rw [listTo_no h]
theorem mkL_pre (b : Nat) {k m : Nat} (h : k ≤ m) : mkL b k <+: mkL b m := by
  induction m with
  | zero => obtain rfl : k = 0 := by omega
            exact List.prefix_rfl
  | succ m ih =>
    by_cases e : k = m + 1
    · subst e; exact List.prefix_rfl
    · refine (ih (by omega)).trans ?_
      cases hb : b.testBit m
      · rw [mkL_no hb]; exact List.prefix_rfl
      · rw [mkL_yes hb]; exact List.prefix_append _ _
theorem mkL_lt (b k : Nat) : ∀ x, x ∈ mkL b k → x < W64 := fun x hx => by
  obtain ⟨s, _, rfl⟩ := List.mem_map.1 hx; exact ptN_lt _ _

theorem marks_box (b : Nat) (w : World) : Calls Tryd.prog 33 #[.int .u64 (b : Int)] w fun e w' => e = .returned (.func (.func 38) #[] #[.pointer (some ⟨w.heap.size, 0, none⟩)]) ∧ w' = w.alloc (.cells #[.int .u64 (b : Int)] 22) := by
  go_enter Tryd.func33, Tryd.ntmps33
  go_wp2_with fail
  go_ret
  exact ⟨rfl, rfl⟩

set_option maxRecDepth 100000 in
set_option maxHeartbeats 1000000 in
theorem marks_seq (n Bn b : Nat) (hn : 1 ≤ n) (Y : Nat → Prop) (w : World) (hb : b < W64) (hBn : CellAt w Bn 0 (.int .u64 (b : Int))) (hT : TabMix w) (hY : ¬ Y 0) (hYb : ¬ Y Bn) :
    SeqV u64V n 38 #[.pointer (some ⟨Bn, 0, none⟩)] Y (mkL b 64) w := by
  intro l J Jx W hW hJ hJx hyd h0
  have HX := Lib.hid (xs_off (W := W) hY hT.lt)
  have HXb := Lib.hid (xs_off (W := W) hYb hBn.lt)
  have HC := Lib.hid (hBn.on hW)
  have HT := Lib.hid (hT.on hW)
  have HY := Lib.hid hyd
  have HB := Lib.hid hb
  have HJ := Lib.hid hJ
  have HJx := Lib.hid hJx
  have H0 := Lib.hid h0
  clear hT hyd hb h0 hBn hW hJ hJx hY hYb
  show CallsIn Fence.wide n Tryd.prog _ #[.func (.yield l) #[] #[], .pointer (some ⟨Bn, 0, none⟩)] W _
  refine callsIn_of_wp Tryd.func38 rfl trivial ?_ rfl
  simp only [Tryd.ntmps38, List.size_toArray, List.length_cons, List.length_nil, Nat.reduceAdd, Nat.reduceSub, Array.replicate_succ, Array.replicate_zero, List.push_toArray, List.append_toArray, List.nil_append, List.cons_append]
  gi_wp2
  gi_loopw [4] (fun p wr => ∃ k : Nat, k ≤ 64 ∧ p = .int .i64 (k : Int) ∧ W.heap.size ≤ wr.heap.size ∧ CellAt wr Bn 0 (.int .u64 (b : Int)) ∧ TabMix wr ∧ J (mkL b k) wr) (fun p _ => 64 - (intOf p).toNat)
  case atStart => exact ⟨0, by omega, rfl, Nat.le_refl _, HC.out, HT.out, H0.out⟩
  case round =>
    obtain ⟨k, hk, rfl, hs, hc, ht, hj⟩ := hrel
    by_cases h64 : k < 64
    · have hlk : (k : Int) < 64 := by omega
      have h0k : (0 : Int) ≤ (k : Int) := by omega
      have hcv : wr.cell? ⟨Bn, 0, none⟩ = some (.int .u64 (b : Int)) := hc
      have Hs := Lib.hid hs
      have Hc := Lib.hid hc
      have Ht := Lib.hid ht
      have Hj := Lib.hid hj
      have HBt := Lib.hid (bit_at (a := k) HB.out)
      clear hs hc ht hj
      cases hbit : b.testBit k
      · have hbb : (bits .and .u64 ((b : Int) / 2 ^ k) 1 == 1) = false := by rw [HBt.out]; exact hbit
        have HL := Lib.hid (mkL_no hbit)
        clear hbit
        gi_wp2_with (refine ⟨trivial, ?_⟩)
        refine ⟨fun _ h => (by cases h), ?_⟩
        gi_wp2_with fail
        go_roundw
        case rel => exact ⟨k + 1, by omega, by go_num, Hs.out, Hc.out, Ht.out, by rw [HL.out]; exact Hj.out⟩
        case measure => simp [intOf]; omega
      · have hbb : (bits .and .u64 ((b : Int) / 2 ^ k) 1 == 1) = true := by rw [HBt.out]; exact hbit
        have HL := Lib.hid (mkL_yes hbit)
        have HP := Lib.hid (show mkL b k ++ [ptN 7 (k : Int)] <+: mkL b 64 by rw [← mkL_yes hbit]; exact mkL_pre b (by omega))
        clear hbit
        gi_wp2_with (refine ⟨trivial, ?_⟩; gi_at_call 10; refine (callsIn_wide.2 (part_any _ _ _ Ht.out)).mono ?_; rintro e wm ⟨rfl, hb⟩; obtain ⟨fn, tmps, assign, body, hy, hR⟩ := HY.out (mkL b k) (ptN 7 (k : Int)) wm (HJ.out _ _ _ Hj.out ((Kept.of_below hb).mono fun i hi => Nat.le_trans Hs.out hi)) HP.out; simp only [u64V] at hy; have HB2 := Lib.hid hb; have HRr := Lib.hid (show RoundIn Fence.wide (n - 1) Tryd.prog l fn tmps assign body wm _ from ⟨trivial, fun c cs _ => hR.2 c cs (room_wide _)⟩); clear hb hR)
        refine HRr.out.mono ?_
        rintro e W3 ⟨bb, rfl, hk3, hJ3⟩
        have HK3 := Lib.hid hk3
        cases bb
        · rw [if_neg (by simp)] at hJ3
          have Hj3 := Lib.hid hJ3
          clear hJ3 hk3
          gi_wp2_with (first | (refine ⟨trivial, ?_⟩) | (refine ⟨fun _ h => by cases h, ?_⟩))
          refine bodyPost_ret (results_none rfl _ _ _) rfl ?_
          exact ⟨⟨_, rfl⟩, .inr ⟨mkL b k ++ [ptN 7 (k : Int)], by simp, HP.out, Hj3.out⟩⟩
        · rw [if_pos rfl] at hJ3
          have Hj3 := Lib.hid hJ3
          have Ht3 := Lib.hid ((Ht.out.on HB2.out).kept HK3.out HX.out)
          have Hc3 := Lib.hid ((Hc.out.on HB2.out).kept HK3.out HXb.out)
          have Hs3 := Lib.hid (show W.heap.size ≤ W3.heap.size from Nat.le_trans Hs.out (Nat.le_trans HB2.out.size HK3.out.size))
          clear hJ3 hk3
          gi_wp2_with (first | (refine ⟨trivial, ?_⟩) | (refine ⟨fun _ h => by cases h, ?_⟩))
          go_roundw
          case rel => exact ⟨k + 1, by omega, by go_num, Hs3.out, Hc3.out, Ht3.out, by rw [HL.out]; exact Hj3.out⟩
          case measure => simp [intOf]; omega
    · obtain rfl : k = 64 := by omega
      have HJ64 := Lib.hid hj
      clear hs hc ht hj
      gi_wp2
      go_end0
      exact ⟨⟨_, rfl⟩, .inl HJ64.out⟩

set_option maxRecDepth 100000 in
set_option maxHeartbeats 2000000 in
theorem xored_in (gf : Nat) (lb : Array Value) (L : List Nat) (w : World) (eg : ∀ args w, (callFunc gf args).run Tryd.prog w = .ok (.enter gf args) w) (hL : ∀ x, x ∈ L → x < W64)
    (hseq : ∀ w1, Below w.heap.size w w1 → w.heap.size < w1.heap.size → SeqV u64V 6 gf lb (· = w.heap.size) L w1) :
    CallsIn Fence.wide 7 Tryd.prog 32 #[.func (.func gf) #[] lb] w (U64L (xorL L) w) := by
  have HL := Lib.hid hL
  have HQ := Lib.hid hseq
  have HE := Lib.hid eg
  clear hL hseq eg
  refine callsIn_of_wp_marks Tryd.func32 rfl trivial ?_ rfl
  simp only [Tryd.ntmps32, List.size_toArray, List.length_cons, List.length_nil, Nat.reduceAdd, Nat.reduceSub, Array.replicate_succ, Array.replicate_zero, List.push_toArray, List.append_toArray, List.nil_append, List.cons_append]
  gi_wp2_with fail
  obtain ⟨w1, hw1⟩ : ∃ w1, w1 = w.alloc (.cells #[.int .u64 0] 22) := ⟨_, rfl⟩
  have hx1 : Boxed w1 w.heap.size 22 (.int .u64 ((xorL [] : Nat) : Int)) := by rw [hw1]; exact Boxed.new _ _ _
  have hs1 : w1.heap.size = w.heap.size + 1 := by rw [hw1, size_pushed]
  have hb1 : Below w.heap.size w w1 := by rw [hw1]; exact boxed_below _ _
  rw [← hw1]
  clear hw1
  have HS := Lib.hid hs1
  have hq := HQ.out w1 hb1 (by omega)
  refine range_seq (n := 7) rfl HE.out (· = w.heap.size) (fun k e => by have := HS.out; omega) L hq
    (fun pre A => Boxed A w.heap.size 22 (.int .u64 ((xorL pre : Nat) : Int)) ∧ Below w.heap.size w A) (fun _ _ => False) ?hI (fun _ _ _ h _ => h) ⟨hx1, hb1⟩
    (fun x => { tmps := #[.func (.func gf) #[] lb, undef, .int .u64 0, .pointer (some ⟨w.heap.size, 0, none⟩), u64V x, .func (.func gf) #[] lb, u64V x, undef, undef, undef, undef], defers := [] }) ?assign ?body ?done ?stop
  case hI => exact fun q A A' h k => ⟨boxed_on h.1 k (by have := HS.out; omega), h.2.trans (k.below (fun i hi => by have := HS.out; omega) h.2.size)⟩
  case assign =>
    intro l x W K hK
    gi_wp2
    exact hK
  case body =>
    rintro l pre x A ⟨hv, hB⟩ hpre
    have hcv := hv.cell
    have hfv := hv.frozen
    have hxl : x < W64 := HL.out x (by obtain ⟨t, ht⟩ := hpre; rw [← ht]; simp)
    have hpl : xorL pre < W64 := xorL_lt fun y hy => HL.out y (by obtain ⟨t, ht⟩ := hpre; rw [← ht]; simp [hy])
    have HX := Lib.hid (xor_nat hpl hxl)
    have Hv := Lib.hid hv
    have HB := Lib.hid hB
    clear hx1 hb1 hq hv hB hpre hxl hpl
    simp only [u64V]
    gi_wp2_with fail
    rw [HX.out]
    exact ⟨Kept.setCell _ _ _ _, by rw [xorL_snoc]; exact Hv.out.set _, HB.out.setCell (p := ⟨w.heap.size, 0, none⟩) (Nat.le_refl _) _⟩
  case done =>
    rintro W ⟨hv, hB⟩ hK
    have hcv := hv.cell
    have HB := Lib.hid hB
    have HK := Lib.hid hK
    clear hx1 hb1 hq hB hK
    gi_wp2_with fail
    refine marks_leave (lo := w.heap.size) (hi := w1.heap.size + 1) ⟨w1.heap.size, rfl, by have := HS.out; omega, by omega, HK.out, trivial⟩ (fun w' hk => ?_)
    exact ⟨_, results_tmp rfl _ _ _, rfl, HB.out.trans (hk.below (fun i hi => hi) HB.out.size)⟩
  case stop =>
    rintro pre W _ _ h _
    exact h.elim
theorem xored_any (gf : Nat) (lb : Array Value) (L : List Nat) (w : World) (eg : ∀ args w, (callFunc gf args).run Tryd.prog w = .ok (.enter gf args) w) (hL : ∀ x, x ∈ L → x < W64)
    (hseq : ∀ w1, Below w.heap.size w w1 → w.heap.size < w1.heap.size → SeqV u64V 6 gf lb (· = w.heap.size) L w1) :
    Calls Tryd.prog 32 #[.func (.func gf) #[] lb] w (U64L (xorL L) w) := callsIn_wide.1 (xored_in gf lb L w eg hL hseq)
theorem promoted_any (b : Nat) (w : World) (hb : b < W64) (hT : TabMix w) : Calls Tryd.prog 24 #[.int .u64 (b : Int)] w (U64L (promN b) w) := by
  have HB := Lib.hid hb
  have HT := Lib.hid hT
  clear hb hT
  go_enter Tryd.func24, Tryd.ntmps24
  go_wp2_with fail
  refine (marks_box b _).mono ?_; rintro e w1 ⟨rfl, hw1⟩
  have hc : CellAt w1 w.heap.size 0 (.int .u64 (b : Int)) := by rw [hw1]; show World.cell? _ _ = _; rw [World.cell?_alloc_new]; rfl
  have hb1 : Below w.heap.size w w1 := by rw [hw1]; exact boxed_below _ _
  have hs1 : w1.heap.size = w.heap.size + 1 := by rw [hw1, size_pushed]
  have HC := Lib.hid hc
  have HB1 := Lib.hid hb1
  have HT1 := Lib.hid (HT.out.on hb1)
  have HS1 := Lib.hid hs1
  clear hc hb1 hs1 hw1
  go_wp2_with fail
  refine (xored_any _ _ (mkL b 64) w1 (enters_of Tryd.func38 (by kernel_rfl) rfl) (mkL_lt b 64) (fun w2 h2 _ => marks_seq 6 w.heap.size b (by omega) _ w2 HB.out (HC.out.on h2) (HT1.out.on h2) (fun e => by have := HT1.out.lt; omega) (fun e => by have := HS1.out; omega))).mono ?_
  rintro e w2 ⟨rfl, hb2⟩
  have HB2 := Lib.hid (below_on HB1.out hb2)
  clear hb2
  go_wp2_with fail
  go_ret
  exact ⟨rfl, HB2.out⟩
end Go.Proofs.YtboopdmgphhemaaDoor
