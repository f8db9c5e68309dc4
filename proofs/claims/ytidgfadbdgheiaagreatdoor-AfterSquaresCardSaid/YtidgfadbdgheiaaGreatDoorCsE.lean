/-
 Castle's List.
-/
import Derived.Test.YtidgfadbdgheiaaGreatDoorCsD
import Derived.Test.YtidgfadbdgheiaaGreatDoorAfBaseK
import Derived.Test.YtidgfadbdgheiaaGreatDoorVaBaseB
namespace Go.Proofs.YtidgfadbdgheiaaGreatDoor
open Go.RowKit Go.Shelf
set_option linter.unusedVariables false
set_option linter.unusedSimpArgs false
attribute [local go_sem] Oper.semAt_some

/-- The list when k sides have been asked. -/
def preC (p : Nat → Int) (k : Nat) : List Mv := bif k == 0 then [] else bif k == 1 then oneC p 1 else oneC p 1 ++ oneC p 0
theorem pre_next (p : Nat → Int) {k : Nat} (h : k < 2) : preC p (k + 1) = preC p k ++ oneC p (1 - k) := by
 rcases (by omega : k = 0 ∨ k = 1) with rfl | rfl
 ·rfl
 ·rfl
theorem pre_len (p : Nat → Int) {k : Nat} (h : k ≤ 2) : (preC p k).length ≤ 2 := by
 have ho : ∀ n, (oneC p n).length ≤ 1 := fun n => by unfold oneC; cases inC p n <;> simp
 have h1 := ho 1; have h0 := ho 0
 rcases (by omega : k = 0 ∨ k = 1 ∨ k = 2) with rfl | rfl | rfl
 ·exact Nat.zero_le _
 ·show (oneC p 1).length ≤ 2; omega
 ·show (oneC p 1 ++ oneC p 0).length ≤ 2; rw [List.length_append]; omega
def CamL (p : Nat → Int) (w : World) (e : Ending) (w' : World) : Prop := ∃ v, e = .returned v ∧ MvsO w.heap.size (camL p) v w' ∧ Below w.heap.size w w'
theorem casK {p : Nat → Int} {b : Bool} (hp : 0 ≤ p 0 ∧ p 0 ≤ 255) (h : casB (p 0).toNat = b) (w : World) (hT : TabVar w) : Calls Tryz.prog 42 #[.int .u8 (p 0)] w (BoL b w) := by
 have e : p 0 = ((p 0).toNat : Int) := by omega
 rw [e, ← h]
 exact cas_any _ w (by omega) hT
theorem namK {p : Nat → Int} {c n : Nat} {b : Bool} {m : Mv} (h1 : namC p n = b) (h2 : (bif b then mvC p n else mv0) = m) (hc : c < 2) (hn : n < 2) (w : World) (hp : CsR p) (h78 : p 78 = (c : Int)) (hT : CsT w) : Calls Tryz.prog 43 #[.agg (posA p), .int .i64 (n : Int)] w (NamL m b w) := by
 rw [← h2, ← h1]; exact cs_named p c n hc hn w hp h78 hT
theorem mayK {p : Nat → Int} {m : Mv} {n : Nat} {b : Bool} (hb : mayC p m = b) (hn : n < 2) (w : World) (hp : AtR p) (hm : FitV m) (hs : sdC (p 78) m = (n : Int)) (hT : CsT w) : Calls Tryz.prog 44 #[.agg (posA p), .agg (mvA m)] w (BoL b w) := hb ▸ cs_may p m n hn w hp hm hs hT
theorem fit_mvC {p : Nat → Int} {c n : Nat} (hc : p 78 = (c : Int)) (h : namC p n = true) : FitV (mvC p n) ∧ sdC (p 78) (mvC p n) = (n : Int) := by
 unfold namC flB at h
 simp only [Bool.and_eq_true, decide_eq_true_eq, beq_iff_eq] at h
 have hk := king_rng p (p 78)
 have hh := hmC_rng (p 78)
 refine ⟨⟨?_, ?_, ?_, ?_⟩, h.2.2⟩
 ·show -128 ≤ kingZ p (p 78) ∧ kingZ p (p 78) ≤ 127; omega
 ·show -128 ≤ hmC (p 78) + flC p n ∧ hmC (p 78) + flC p n ≤ 127; omega
 ·show (0 : Int) ≤ 0 ∧ (0 : Int) ≤ 255; omega
 ·show (0 : Int) ≤ 0 ∧ (0 : Int) ≤ 255; omega
theorem MvsO.lt' {B : Nat} {L : List Mv} {v : Value} {w : World} (h : MvsO B L v w) {k : Nat} (hk : v.ownBlock = some k) : k < w.heap.size := by
 rcases h.2 with ⟨rfl, _⟩ | ⟨g, cap, cur, rfl, _, hg, _⟩
 ·cases hk
 ·simp [Value.ownBlock] at hk; subst hk; exact (Array.getElem?_eq_some_iff.1 hg).1
theorem row_keptE {w w' : World} {X : Nat → Prop} {b : Nat} {p : Nat → Int} (h : Row w b p) (k : Kept X w w') (hx : ¬ X b) : Row w' b p := row_kept h k hx
set_option maxRecDepth 100000 in
set_option maxHeartbeats 8000000 in
theorem list_cs (p : Nat → Int) (w : World) (hp : CsR p) (hT : CsT w) : Calls Tryz.prog 18 #[.agg (posA p)] w (CamL p w) := by
 have HP := Lib.hid hp
 have HT := Lib.hid hT
 have HV := Lib.hid hp.at_.var
 have ht := hp.at_.turn
 clear hp hT
 have HB := Lib.hid (Below.refl w.heap.size w)
 cases g1 : decide (1 < p 78)
 ·have h78 : p 78 ≤ 1 := by have := of_decide_eq_false g1; omega
  cases hcas : casB (p 0).toNat
  ·have HCas := Lib.hid hcas
   have HSp := Lib.hid (show camL p = [] by unfold camL thC; rw [hcas, Bool.and_false]; rfl)
   clear hcas h78
   go_enter Tryz.func18, Tryz.ntmps18
   go_wp2_with (first
   | (guard_target = Go.wpList _ _ _ ((⟨some 1, .box _ _, _, _, _, _⟩ : Go.Oper) :: _) _ _; refine step_box rfl _ rfl p rfl ?_; intro b1 w1 N R; have HG1 := Lib.hid (show w.heap.size ≤ b1 by have := HB.out.size; have := N.at_; omega); have HB := Lib.hid (below_on HB.out N.below); have HR1 := Lib.hid R; clear N R)
   | (guard_target = Go.wpList _ _ _ ((⟨some 9, .load _ (.tmp 8), _, _, _, _⟩ : Go.Oper) :: _) _ _; refine step_get rfl 5 _ rfl b1 78 rfl Tryz.underlying5 rfl (.int .u8 (p 78)) ?_ ?_; exact HR1.out.cell 78 (by decide))
   | (guard_target = Go.wpList _ _ _ ((⟨some 13, .load _ (.tmp 12), _, _, _, _⟩ : Go.Oper) :: _) _ _; refine step_get rfl 5 _ rfl b1 0 rfl Tryz.underlying5 rfl (.int .u8 (p 0)) ?_ ?_; exact HR1.out.cell 0 (by decide))
   | (go_at_call 42; refine (casK HV.out HCas.out _ (HT.out.on HB.out).var).mono ?_; rintro e w3 ⟨rfl, hb⟩; have HR1 := Lib.hid (HR1.out.later hb); have HB := Lib.hid (below_on HB.out hb); clear hb))
   exact bodyPost_ret (results_tmp rfl _ _ _) rfl ⟨_, rfl, by rw [HSp.out]; exact World.ownsRow_nil _ _ _ _, HB.out⟩
  ·have HCas := Lib.hid hcas
   obtain ⟨c, hc2⟩ : ∃ c : Nat, p 78 = (c : Int) := ⟨(p 78).toNat, by omega⟩
   have HC := Lib.hid hc2
   have HC2 := Lib.hid (show c < 2 by omega)
   have HSp := Lib.hid (show camL p = preC p 2 by unfold camL thC; rw [hcas, decide_eq_true h78]; rfl)
   clear hcas h78 hc2
   obtain ⟨i0, hi, hz0, hz1, hz2⟩ : ∃ i, Tryz.prog.info? 40 = some i ∧ i.zero = some (.agg (mvA mv0)) ∧ i.size = 5 ∧ i.bytes = 5 := by
    cases h : Tryz.prog.info? 40 with
    | none => have := infoMv; rw [h] at this; cases this
    | some i => have := infoMv; rw [h] at this; simp at this; exact ⟨i, rfl, this.1, this.2.1, this.2.2⟩
   go_enter Tryz.func18, Tryz.ntmps18
   go_wp2_with (first
   | (guard_target = Go.wpList _ _ _ ((⟨some 1, .box _ _, _, _, _, _⟩ : Go.Oper) :: _) _ _; refine step_box rfl _ rfl p rfl ?_; intro b1 w1 N R; have HG1 := Lib.hid (show w.heap.size ≤ b1 by have := HB.out.size; have := N.at_; omega); have HB := Lib.hid (below_on HB.out N.below); have HR1 := Lib.hid R; clear N R)
   | (guard_target = Go.wpList _ _ _ ((⟨some 9, .load _ (.tmp 8), _, _, _, _⟩ : Go.Oper) :: _) _ _; refine step_get rfl 5 _ rfl b1 78 rfl Tryz.underlying5 rfl (.int .u8 (p 78)) ?_ ?_; exact HR1.out.cell 78 (by decide))
   | (guard_target = Go.wpList _ _ _ ((⟨some 13, .load _ (.tmp 12), _, _, _, _⟩ : Go.Oper) :: _) _ _; refine step_get rfl 5 _ rfl b1 0 rfl Tryz.underlying5 rfl (.int .u8 (p 0)) ?_ ?_; exact HR1.out.cell 0 (by decide))
   | (go_at_call 42; refine (casK HV.out HCas.out _ (HT.out.on HB.out).var).mono ?_; rintro e w3 ⟨rfl, hb⟩; have HR1 := Lib.hid (HR1.out.later hb); have HB := Lib.hid (below_on HB.out hb); clear hb))
   obtain ⟨B1, hB1⟩ : ∃ B1, B1 = w3.heap.size := ⟨_, rfl⟩
   have HLt := Lib.hid (show b1 < B1 by rw [hB1]; exact HR1.out.lt)
   have HLw := Lib.hid (show w.heap.size ≤ B1 by rw [hB1]; exact HB.out.size)
   go_loopw [3, 18] (fun v i wr => ∃ k : Nat, k ≤ 2 ∧ i = .int .i64 (k : Int) ∧ MvsO B1 (preC p k) v wr ∧ Row wr b1 p ∧ Below w.heap.size w wr ∧ B1 ≤ wr.heap.size) (fun _ i _ => 2 - (intOf i).toNat)
   case atStart => exact ⟨0, by omega, rfl, World.ownsRow_nil _ _ _ _, HR1.out, HB.out, by rw [hB1]; exact Nat.le_refl _⟩
   case round =>
    clear HR1 HB hB1 HV
    obtain ⟨k, hk, rfl, hv, hr1, hb, hs⟩ := hrel
    have HV := Lib.hid hv
    have HR1 := Lib.hid hr1
    have HB := Lib.hid hb
    have HS := Lib.hid hs
    clear hv hr1 hb hs
    rcases (by omega : k = 0 ∨ k = 1 ∨ k = 2) with e | e | e
    ·have EK := Lib.hid e
     have HK2 := Lib.hid (show k < 2 by omega)
     have gk : decide (k < 2) = true := decide_eq_true HK2.out
     have gk' : decide ((k : Int) < 2) = true := decide_eq_true (by have := HK2.out; omega)
     clear e
     obtain ⟨nb, HNb⟩ : ∃ nb, Hid (namC p 1 = nb) := ⟨_, Lib.hid rfl⟩
     obtain ⟨M, HNm⟩ : ∃ M, Hid ((bif nb then mvC p 1 else mv0) = M) := ⟨_, Lib.hid rfl⟩
     cases nb
     ·have HOn := Lib.hid (show oneC p 1 = [] by unfold oneC inC; rw [HNb.out]; rfl)
      go_wp2_with (first
       | (guard_target = Go.wpList _ _ _ ((⟨some 20, .index _ _ _, _, _, _, _⟩ : Go.Oper) :: _) _ _; refine step_index (op := ⟨some 20, .index _ _ _, _, _, _, _⟩) rfl 70 3 _ _ rfl 2 #[.int .i64 1, .int .i64 0] rfl .i64 k rfl HK2.out Tryz.underlying70 Tryz.underlying3 rfl (by kernel_rfl) (.int .i64 (1 : Int)) (by rw [EK.out]; rfl) ?_)
       | (guard_target = Go.wpList _ _ _ ((⟨some _, .load _ (.tmp 1), _, _, _, _⟩ : Go.Oper) :: _) _ _; refine step_load rfl _ rfl b1 rfl p HR1.out ?_)
       | (go_at_call 43; refine (namK (n := 1) HNb.out HNm.out HC2.out (by decide) _ HP.out HC.out (HT.out.on HB.out)).mono ?_; rintro e w3 ⟨rfl, hb⟩; have HR1 := Lib.hid (HR1.out.later hb); have HV := Lib.hid (HV.out.later hb); have HS := Lib.hid (Nat.le_trans HS.out hb.size); have HB := Lib.hid (below_on HB.out hb); clear hb)
       | (guard_target = Go.wpList _ _ _ ((⟨some 6, .alloc _, _, _, _, _⟩ : Go.Oper) :: _) _ _; refine blk_alloc rfl 40 rfl (mvA mv0) zeroMv ?_; intro b6 wn N R; have HG6 := Lib.hid (show w.heap.size ≤ b6 by have := HB.out.size; have := N.at_; omega); have HY6 := Lib.hid (show b1 ≠ b6 from Nat.ne_of_lt (by have h1 := HR1.out.lt; have := N.at_; omega)); have HX6 := Lib.hid (show u3.ownBlock ≠ some b6 from fun e => by have h1 := HV.out.lt' e; have := N.at_; omega); have HR1 := Lib.hid (HR1.out.later N.below); have HV := Lib.hid (HV.out.later N.below); have HS := Lib.hid (Nat.le_trans HS.out N.below.size); have HR6 := Lib.hid R; have HB := Lib.hid (below_on HB.out N.below); clear N R)
       | (guard_target = Go.wpList _ _ _ ((⟨none, .store _ (.tmp 6) _, _, _, _, _⟩ : Go.Oper) :: _) _ _; refine blk_store rfl 40 _ _ rfl b6 rfl (mvA mv0) (mvA M) rfl HR6.out rfl (mv_one _) sizeMv ?_; intro wn U R; have HR1 := Lib.hid (HR1.out.apart U HY6.out); have HV := Lib.hid (HV.out.keep fun g hg => U.block g (fun e => HX6.out (e ▸ hg))); have HS := Lib.hid (show B1 ≤ wn.heap.size by rw [U.size]; exact HS.out); have HR6 := Lib.hid R; have HB := Lib.hid (HB.out.trans (U.below HG6.out)); clear U R))
      go_roundw
      case rel => exact ⟨k + 1, by have := HK2.out; omega, by go_num, by rw [pre_next p HK2.out, show 1 - k = 1 by rw [EK.out], HOn.out, List.append_nil]; exact HV.out, HR1.out, HB.out, HS.out⟩
      case measure => simp [intOf]; have := HK2.out; omega
     ·obtain ⟨HFm', HSd'⟩ := fit_mvC HC.out HNb.out
      have HFm := Lib.hid (show FitV M by rw [← HNm.out]; exact HFm')
      have HSd := Lib.hid (show sdC (p 78) M = ((1 : Nat) : Int) by rw [← HNm.out]; exact HSd')
      clear HFm' HSd'
      obtain ⟨mb, HMb⟩ : ∃ mb, Hid (mayC p M = mb) := ⟨_, Lib.hid rfl⟩
      have HI := Lib.hid (show inC p 1 = mb by unfold inC; rw [HNb.out, Bool.true_and, ← HMb.out, ← HNm.out]; rfl)
      cases mb
      ·have HOn := Lib.hid (show oneC p 1 = [] by unfold oneC; rw [HI.out]; rfl)
       go_wp2_with (first
        | (guard_target = Go.wpList _ _ _ ((⟨some 20, .index _ _ _, _, _, _, _⟩ : Go.Oper) :: _) _ _; refine step_index (op := ⟨some 20, .index _ _ _, _, _, _, _⟩) rfl 70 3 _ _ rfl 2 #[.int .i64 1, .int .i64 0] rfl .i64 k rfl HK2.out Tryz.underlying70 Tryz.underlying3 rfl (by kernel_rfl) (.int .i64 (1 : Int)) (by rw [EK.out]; rfl) ?_)
        | (guard_target = Go.wpList _ _ _ ((⟨some _, .load _ (.tmp 1), _, _, _, _⟩ : Go.Oper) :: _) _ _; refine step_load rfl _ rfl b1 rfl p HR1.out ?_)
        | (go_at_call 43; refine (namK (n := 1) HNb.out HNm.out HC2.out (by decide) _ HP.out HC.out (HT.out.on HB.out)).mono ?_; rintro e w3 ⟨rfl, hb⟩; have HR1 := Lib.hid (HR1.out.later hb); have HV := Lib.hid (HV.out.later hb); have HS := Lib.hid (Nat.le_trans HS.out hb.size); have HB := Lib.hid (below_on HB.out hb); clear hb)
        | (guard_target = Go.wpList _ _ _ ((⟨some 6, .alloc _, _, _, _, _⟩ : Go.Oper) :: _) _ _; refine blk_alloc rfl 40 rfl (mvA mv0) zeroMv ?_; intro b6 wn N R; have HG6 := Lib.hid (show w.heap.size ≤ b6 by have := HB.out.size; have := N.at_; omega); have HY6 := Lib.hid (show b1 ≠ b6 from Nat.ne_of_lt (by have h1 := HR1.out.lt; have := N.at_; omega)); have HX6 := Lib.hid (show u3.ownBlock ≠ some b6 from fun e => by have h1 := HV.out.lt' e; have := N.at_; omega); have HR1 := Lib.hid (HR1.out.later N.below); have HV := Lib.hid (HV.out.later N.below); have HS := Lib.hid (Nat.le_trans HS.out N.below.size); have HR6 := Lib.hid R; have HB := Lib.hid (below_on HB.out N.below); clear N R)
        | (guard_target = Go.wpList _ _ _ ((⟨none, .store _ (.tmp 6) _, _, _, _, _⟩ : Go.Oper) :: _) _ _; refine blk_store rfl 40 _ _ rfl b6 rfl (mvA mv0) (mvA M) rfl HR6.out rfl (mv_one _) sizeMv ?_; intro wn U R; have HR1 := Lib.hid (HR1.out.apart U HY6.out); have HV := Lib.hid (HV.out.keep fun g hg => U.block g (fun e => HX6.out (e ▸ hg))); have HS := Lib.hid (show B1 ≤ wn.heap.size by rw [U.size]; exact HS.out); have HR6 := Lib.hid R; have HB := Lib.hid (HB.out.trans (U.below HG6.out)); clear U R)
        | (guard_target = Go.wpList _ _ _ ((⟨some _, .load _ (.tmp 6), _, _, _, _⟩ : Go.Oper) :: _) _ _; refine blk_load rfl 40 _ rfl b6 rfl (mvA M) HR6.out _ Tryz.underlying40 rfl sizeMv ?_)
        | (go_at_call 44; refine (mayK (n := 1) HMb.out (by decide) _ HP.out.at_ HFm.out HSd.out (HT.out.on HB.out)).mono ?_; rintro e w3 ⟨rfl, hb⟩; have HR1 := Lib.hid (HR1.out.later hb); have HR6 := Lib.hid (HR6.out.later hb); have HV := Lib.hid (HV.out.later hb); have HS := Lib.hid (Nat.le_trans HS.out hb.size); have HB := Lib.hid (below_on HB.out hb); clear hb))
       go_roundw
       case rel => exact ⟨k + 1, by have := HK2.out; omega, by go_num, by rw [pre_next p HK2.out, show 1 - k = 1 by rw [EK.out], HOn.out, List.append_nil]; exact HV.out, HR1.out, HB.out, HS.out⟩
       case measure => simp [intOf]; have := HK2.out; omega
      ·have HOn := Lib.hid (show oneC p 1 = [M] by unfold oneC; rw [HI.out, cond_true, ← HNm.out]; rfl)
       have HLn := Lib.hid (pre_len p (k := k) (by have := HK2.out; omega))
       go_wp2_with (first
        | (guard_target = Go.wpList _ _ _ ((⟨some 20, .index _ _ _, _, _, _, _⟩ : Go.Oper) :: _) _ _; refine step_index (op := ⟨some 20, .index _ _ _, _, _, _, _⟩) rfl 70 3 _ _ rfl 2 #[.int .i64 1, .int .i64 0] rfl .i64 k rfl HK2.out Tryz.underlying70 Tryz.underlying3 rfl (by kernel_rfl) (.int .i64 (1 : Int)) (by rw [EK.out]; rfl) ?_)
        | (guard_target = Go.wpList _ _ _ ((⟨some _, .load _ (.tmp 1), _, _, _, _⟩ : Go.Oper) :: _) _ _; refine step_load rfl _ rfl b1 rfl p HR1.out ?_)
        | (go_at_call 43; refine (namK (n := 1) HNb.out HNm.out HC2.out (by decide) _ HP.out HC.out (HT.out.on HB.out)).mono ?_; rintro e w3 ⟨rfl, hb⟩; have HR1 := Lib.hid (HR1.out.later hb); have HV := Lib.hid (HV.out.later hb); have HS := Lib.hid (Nat.le_trans HS.out hb.size); have HB := Lib.hid (below_on HB.out hb); clear hb)
        | (guard_target = Go.wpList _ _ _ ((⟨some 6, .alloc _, _, _, _, _⟩ : Go.Oper) :: _) _ _; refine blk_alloc rfl 40 rfl (mvA mv0) zeroMv ?_; intro b6 wn N R; have HG6 := Lib.hid (show w.heap.size ≤ b6 by have := HB.out.size; have := N.at_; omega); have HY6 := Lib.hid (show b1 ≠ b6 from Nat.ne_of_lt (by have h1 := HR1.out.lt; have := N.at_; omega)); have HX6 := Lib.hid (show u3.ownBlock ≠ some b6 from fun e => by have h1 := HV.out.lt' e; have := N.at_; omega); have HR1 := Lib.hid (HR1.out.later N.below); have HV := Lib.hid (HV.out.later N.below); have HS := Lib.hid (Nat.le_trans HS.out N.below.size); have HR6 := Lib.hid R; have HB := Lib.hid (below_on HB.out N.below); clear N R)
        | (guard_target = Go.wpList _ _ _ ((⟨none, .store _ (.tmp 6) _, _, _, _, _⟩ : Go.Oper) :: _) _ _; refine blk_store rfl 40 _ _ rfl b6 rfl (mvA mv0) (mvA M) rfl HR6.out rfl (mv_one _) sizeMv ?_; intro wn U R; have HR1 := Lib.hid (HR1.out.apart U HY6.out); have HV := Lib.hid (HV.out.keep fun g hg => U.block g (fun e => HX6.out (e ▸ hg))); have HS := Lib.hid (show B1 ≤ wn.heap.size by rw [U.size]; exact HS.out); have HR6 := Lib.hid R; have HB := Lib.hid (HB.out.trans (U.below HG6.out)); clear U R)
        | (guard_target = Go.wpList _ _ _ ((⟨some _, .load _ (.tmp 6), _, _, _, _⟩ : Go.Oper) :: _) _ _; refine blk_load rfl 40 _ rfl b6 rfl (mvA M) HR6.out _ Tryz.underlying40 rfl sizeMv ?_; show wpList _ _ _ _ (Act.put _ _ (Value.agg #[.int .i8 M.f, .int .i8 M.t, .int .u8 M.pr, .int .u8 M.dr, .bool M.ca])) _)
        | (go_at_call 44; refine (mayK (n := 1) HMb.out (by decide) _ HP.out.at_ HFm.out HSd.out (HT.out.on HB.out)).mono ?_; rintro e w3 ⟨rfl, hb⟩; have HR1 := Lib.hid (HR1.out.later hb); have HR6 := Lib.hid (HR6.out.later hb); have HV := Lib.hid (HV.out.later hb); have HS := Lib.hid (Nat.le_trans HS.out hb.size); have HB := Lib.hid (below_on HB.out hb); clear hb)
        | (at_builtin; refine wpList_append_own _ rfl _ _ 33 rfl B1 40 i0 (.agg (mvA mv0)) 5 5 Tryz.underlying33 hi hz0 hz1 hz2 rfl (by decide) _ _ _ rfl (World.ownsRow.alloc HV.out _) ⟨_, 0, none⟩ 1 1 (mvA M).toList rfl rfl ?c1 ?c2 ?c3 ?c4 ?c5 ?_))
       case c1 => exact mcells_new _ (mvA M) _
       case c2 => simp [mvA, Value.oneCell']
       case c3 => unfold maxLen; have := HLn.out; omega
       case c4 => have := HLn.out; omega
       case c5 => have := HS.out; simp; omega
       intro v' w2 hown' hgrow _
       have HVn := Lib.hid (HV.out.grow hown')
       have hkp := (Kept.of_call (fun k => u3.ownBlock = some k) (box_below _ _)).trans (mkept_grown hgrow)
       have HR1n := Lib.hid (row_keptE HR1.out hkp (fun e => by have h1 := HV.out.from e; have := HLt.out; omega))
       have HBn := Lib.hid (HB.out.trans (hkp.below (fun i hi => by have h1 := HV.out.from hi; have := HLw.out; omega) HB.out.size))
       have HSn := Lib.hid (Nat.le_trans HS.out hkp.size)
       clear hkp hown' hgrow
       go_wp2_with fail
       go_roundw
       case rel => exact ⟨k + 1, by have := HK2.out; omega, by go_num, by rw [pre_next p HK2.out, show 1 - k = 1 by rw [EK.out], HOn.out]; exact HVn.out, HR1n.out, HBn.out, HSn.out⟩
       case measure => simp [intOf]; have := HK2.out; omega
    ·have EK := Lib.hid e
     have HK2 := Lib.hid (show k < 2 by omega)
     have gk : decide (k < 2) = true := decide_eq_true HK2.out
     have gk' : decide ((k : Int) < 2) = true := decide_eq_true (by have := HK2.out; omega)
     clear e
     obtain ⟨nb, HNb⟩ : ∃ nb, Hid (namC p 0 = nb) := ⟨_, Lib.hid rfl⟩
     obtain ⟨M, HNm⟩ : ∃ M, Hid ((bif nb then mvC p 0 else mv0) = M) := ⟨_, Lib.hid rfl⟩
     cases nb
     ·have HOn := Lib.hid (show oneC p 0 = [] by unfold oneC inC; rw [HNb.out]; rfl)
      go_wp2_with (first
       | (guard_target = Go.wpList _ _ _ ((⟨some 20, .index _ _ _, _, _, _, _⟩ : Go.Oper) :: _) _ _; refine step_index (op := ⟨some 20, .index _ _ _, _, _, _, _⟩) rfl 70 3 _ _ rfl 2 #[.int .i64 1, .int .i64 0] rfl .i64 k rfl HK2.out Tryz.underlying70 Tryz.underlying3 rfl (by kernel_rfl) (.int .i64 (0 : Int)) (by rw [EK.out]; rfl) ?_)
       | (guard_target = Go.wpList _ _ _ ((⟨some _, .load _ (.tmp 1), _, _, _, _⟩ : Go.Oper) :: _) _ _; refine step_load rfl _ rfl b1 rfl p HR1.out ?_)
       | (go_at_call 43; refine (namK (n := 0) HNb.out HNm.out HC2.out (by decide) _ HP.out HC.out (HT.out.on HB.out)).mono ?_; rintro e w3 ⟨rfl, hb⟩; have HR1 := Lib.hid (HR1.out.later hb); have HV := Lib.hid (HV.out.later hb); have HS := Lib.hid (Nat.le_trans HS.out hb.size); have HB := Lib.hid (below_on HB.out hb); clear hb)
       | (guard_target = Go.wpList _ _ _ ((⟨some 6, .alloc _, _, _, _, _⟩ : Go.Oper) :: _) _ _; refine blk_alloc rfl 40 rfl (mvA mv0) zeroMv ?_; intro b6 wn N R; have HG6 := Lib.hid (show w.heap.size ≤ b6 by have := HB.out.size; have := N.at_; omega); have HY6 := Lib.hid (show b1 ≠ b6 from Nat.ne_of_lt (by have h1 := HR1.out.lt; have := N.at_; omega)); have HX6 := Lib.hid (show u3.ownBlock ≠ some b6 from fun e => by have h1 := HV.out.lt' e; have := N.at_; omega); have HR1 := Lib.hid (HR1.out.later N.below); have HV := Lib.hid (HV.out.later N.below); have HS := Lib.hid (Nat.le_trans HS.out N.below.size); have HR6 := Lib.hid R; have HB := Lib.hid (below_on HB.out N.below); clear N R)
       | (guard_target = Go.wpList _ _ _ ((⟨none, .store _ (.tmp 6) _, _, _, _, _⟩ : Go.Oper) :: _) _ _; refine blk_store rfl 40 _ _ rfl b6 rfl (mvA mv0) (mvA M) rfl HR6.out rfl (mv_one _) sizeMv ?_; intro wn U R; have HR1 := Lib.hid (HR1.out.apart U HY6.out); have HV := Lib.hid (HV.out.keep fun g hg => U.block g (fun e => HX6.out (e ▸ hg))); have HS := Lib.hid (show B1 ≤ wn.heap.size by rw [U.size]; exact HS.out); have HR6 := Lib.hid R; have HB := Lib.hid (HB.out.trans (U.below HG6.out)); clear U R))
      go_roundw
      case rel => exact ⟨k + 1, by have := HK2.out; omega, by go_num, by rw [pre_next p HK2.out, show 1 - k = 0 by rw [EK.out], HOn.out, List.append_nil]; exact HV.out, HR1.out, HB.out, HS.out⟩
      case measure => simp [intOf]; have := HK2.out; omega
     ·obtain ⟨HFm', HSd'⟩ := fit_mvC HC.out HNb.out
      have HFm := Lib.hid (show FitV M by rw [← HNm.out]; exact HFm')
      have HSd := Lib.hid (show sdC (p 78) M = ((0 : Nat) : Int) by rw [← HNm.out]; exact HSd')
      clear HFm' HSd'
      obtain ⟨mb, HMb⟩ : ∃ mb, Hid (mayC p M = mb) := ⟨_, Lib.hid rfl⟩
      have HI := Lib.hid (show inC p 0 = mb by unfold inC; rw [HNb.out, Bool.true_and, ← HMb.out, ← HNm.out]; rfl)
      cases mb
      ·have HOn := Lib.hid (show oneC p 0 = [] by unfold oneC; rw [HI.out]; rfl)
       go_wp2_with (first
        | (guard_target = Go.wpList _ _ _ ((⟨some 20, .index _ _ _, _, _, _, _⟩ : Go.Oper) :: _) _ _; refine step_index (op := ⟨some 20, .index _ _ _, _, _, _, _⟩) rfl 70 3 _ _ rfl 2 #[.int .i64 1, .int .i64 0] rfl .i64 k rfl HK2.out Tryz.underlying70 Tryz.underlying3 rfl (by kernel_rfl) (.int .i64 (0 : Int)) (by rw [EK.out]; rfl) ?_)
        | (guard_target = Go.wpList _ _ _ ((⟨some _, .load _ (.tmp 1), _, _, _, _⟩ : Go.Oper) :: _) _ _; refine step_load rfl _ rfl b1 rfl p HR1.out ?_)
        | (go_at_call 43; refine (namK (n := 0) HNb.out HNm.out HC2.out (by decide) _ HP.out HC.out (HT.out.on HB.out)).mono ?_; rintro e w3 ⟨rfl, hb⟩; have HR1 := Lib.hid (HR1.out.later hb); have HV := Lib.hid (HV.out.later hb); have HS := Lib.hid (Nat.le_trans HS.out hb.size); have HB := Lib.hid (below_on HB.out hb); clear hb)
        | (guard_target = Go.wpList _ _ _ ((⟨some 6, .alloc _, _, _, _, _⟩ : Go.Oper) :: _) _ _; refine blk_alloc rfl 40 rfl (mvA mv0) zeroMv ?_; intro b6 wn N R; have HG6 := Lib.hid (show w.heap.size ≤ b6 by have := HB.out.size; have := N.at_; omega); have HY6 := Lib.hid (show b1 ≠ b6 from Nat.ne_of_lt (by have h1 := HR1.out.lt; have := N.at_; omega)); have HX6 := Lib.hid (show u3.ownBlock ≠ some b6 from fun e => by have h1 := HV.out.lt' e; have := N.at_; omega); have HR1 := Lib.hid (HR1.out.later N.below); have HV := Lib.hid (HV.out.later N.below); have HS := Lib.hid (Nat.le_trans HS.out N.below.size); have HR6 := Lib.hid R; have HB := Lib.hid (below_on HB.out N.below); clear N R)
        | (guard_target = Go.wpList _ _ _ ((⟨none, .store _ (.tmp 6) _, _, _, _, _⟩ : Go.Oper) :: _) _ _; refine blk_store rfl 40 _ _ rfl b6 rfl (mvA mv0) (mvA M) rfl HR6.out rfl (mv_one _) sizeMv ?_; intro wn U R; have HR1 := Lib.hid (HR1.out.apart U HY6.out); have HV := Lib.hid (HV.out.keep fun g hg => U.block g (fun e => HX6.out (e ▸ hg))); have HS := Lib.hid (show B1 ≤ wn.heap.size by rw [U.size]; exact HS.out); have HR6 := Lib.hid R; have HB := Lib.hid (HB.out.trans (U.below HG6.out)); clear U R)
        | (guard_target = Go.wpList _ _ _ ((⟨some _, .load _ (.tmp 6), _, _, _, _⟩ : Go.Oper) :: _) _ _; refine blk_load rfl 40 _ rfl b6 rfl (mvA M) HR6.out _ Tryz.underlying40 rfl sizeMv ?_)
        | (go_at_call 44; refine (mayK (n := 0) HMb.out (by decide) _ HP.out.at_ HFm.out HSd.out (HT.out.on HB.out)).mono ?_; rintro e w3 ⟨rfl, hb⟩; have HR1 := Lib.hid (HR1.out.later hb); have HR6 := Lib.hid (HR6.out.later hb); have HV := Lib.hid (HV.out.later hb); have HS := Lib.hid (Nat.le_trans HS.out hb.size); have HB := Lib.hid (below_on HB.out hb); clear hb))
       go_roundw
       case rel => exact ⟨k + 1, by have := HK2.out; omega, by go_num, by rw [pre_next p HK2.out, show 1 - k = 0 by rw [EK.out], HOn.out, List.append_nil]; exact HV.out, HR1.out, HB.out, HS.out⟩
       case measure => simp [intOf]; have := HK2.out; omega
      ·have HOn := Lib.hid (show oneC p 0 = [M] by unfold oneC; rw [HI.out, cond_true, ← HNm.out]; rfl)
       have HLn := Lib.hid (pre_len p (k := k) (by have := HK2.out; omega))
       go_wp2_with (first
        | (guard_target = Go.wpList _ _ _ ((⟨some 20, .index _ _ _, _, _, _, _⟩ : Go.Oper) :: _) _ _; refine step_index (op := ⟨some 20, .index _ _ _, _, _, _, _⟩) rfl 70 3 _ _ rfl 2 #[.int .i64 1, .int .i64 0] rfl .i64 k rfl HK2.out Tryz.underlying70 Tryz.underlying3 rfl (by kernel_rfl) (.int .i64 (0 : Int)) (by rw [EK.out]; rfl) ?_)
        | (guard_target = Go.wpList _ _ _ ((⟨some _, .load _ (.tmp 1), _, _, _, _⟩ : Go.Oper) :: _) _ _; refine step_load rfl _ rfl b1 rfl p HR1.out ?_)
        | (go_at_call 43; refine (namK (n := 0) HNb.out HNm.out HC2.out (by decide) _ HP.out HC.out (HT.out.on HB.out)).mono ?_; rintro e w3 ⟨rfl, hb⟩; have HR1 := Lib.hid (HR1.out.later hb); have HV := Lib.hid (HV.out.later hb); have HS := Lib.hid (Nat.le_trans HS.out hb.size); have HB := Lib.hid (below_on HB.out hb); clear hb)
        | (guard_target = Go.wpList _ _ _ ((⟨some 6, .alloc _, _, _, _, _⟩ : Go.Oper) :: _) _ _; refine blk_alloc rfl 40 rfl (mvA mv0) zeroMv ?_; intro b6 wn N R; have HG6 := Lib.hid (show w.heap.size ≤ b6 by have := HB.out.size; have := N.at_; omega); have HY6 := Lib.hid (show b1 ≠ b6 from Nat.ne_of_lt (by have h1 := HR1.out.lt; have := N.at_; omega)); have HX6 := Lib.hid (show u3.ownBlock ≠ some b6 from fun e => by have h1 := HV.out.lt' e; have := N.at_; omega); have HR1 := Lib.hid (HR1.out.later N.below); have HV := Lib.hid (HV.out.later N.below); have HS := Lib.hid (Nat.le_trans HS.out N.below.size); have HR6 := Lib.hid R; have HB := Lib.hid (below_on HB.out N.below); clear N R)
        | (guard_target = Go.wpList _ _ _ ((⟨none, .store _ (.tmp 6) _, _, _, _, _⟩ : Go.Oper) :: _) _ _; refine blk_store rfl 40 _ _ rfl b6 rfl (mvA mv0) (mvA M) rfl HR6.out rfl (mv_one _) sizeMv ?_; intro wn U R; have HR1 := Lib.hid (HR1.out.apart U HY6.out); have HV := Lib.hid (HV.out.keep fun g hg => U.block g (fun e => HX6.out (e ▸ hg))); have HS := Lib.hid (show B1 ≤ wn.heap.size by rw [U.size]; exact HS.out); have HR6 := Lib.hid R; have HB := Lib.hid (HB.out.trans (U.below HG6.out)); clear U R)
        | (guard_target = Go.wpList _ _ _ ((⟨some _, .load _ (.tmp 6), _, _, _, _⟩ : Go.Oper) :: _) _ _; refine blk_load rfl 40 _ rfl b6 rfl (mvA M) HR6.out _ Tryz.underlying40 rfl sizeMv ?_; show wpList _ _ _ _ (Act.put _ _ (Value.agg #[.int .i8 M.f, .int .i8 M.t, .int .u8 M.pr, .int .u8 M.dr, .bool M.ca])) _)
        | (go_at_call 44; refine (mayK (n := 0) HMb.out (by decide) _ HP.out.at_ HFm.out HSd.out (HT.out.on HB.out)).mono ?_; rintro e w3 ⟨rfl, hb⟩; have HR1 := Lib.hid (HR1.out.later hb); have HR6 := Lib.hid (HR6.out.later hb); have HV := Lib.hid (HV.out.later hb); have HS := Lib.hid (Nat.le_trans HS.out hb.size); have HB := Lib.hid (below_on HB.out hb); clear hb)
        | (at_builtin; refine wpList_append_own _ rfl _ _ 33 rfl B1 40 i0 (.agg (mvA mv0)) 5 5 Tryz.underlying33 hi hz0 hz1 hz2 rfl (by decide) _ _ _ rfl (World.ownsRow.alloc HV.out _) ⟨_, 0, none⟩ 1 1 (mvA M).toList rfl rfl ?c1 ?c2 ?c3 ?c4 ?c5 ?_))
       case c1 => exact mcells_new _ (mvA M) _
       case c2 => simp [mvA, Value.oneCell']
       case c3 => unfold maxLen; have := HLn.out; omega
       case c4 => have := HLn.out; omega
       case c5 => have := HS.out; simp; omega
       intro v' w2 hown' hgrow _
       have HVn := Lib.hid (HV.out.grow hown')
       have hkp := (Kept.of_call (fun k => u3.ownBlock = some k) (box_below _ _)).trans (mkept_grown hgrow)
       have HR1n := Lib.hid (row_keptE HR1.out hkp (fun e => by have h1 := HV.out.from e; have := HLt.out; omega))
       have HBn := Lib.hid (HB.out.trans (hkp.below (fun i hi => by have h1 := HV.out.from hi; have := HLw.out; omega) HB.out.size))
       have HSn := Lib.hid (Nat.le_trans HS.out hkp.size)
       clear hkp hown' hgrow
       go_wp2_with fail
       go_roundw
       case rel => exact ⟨k + 1, by have := HK2.out; omega, by go_num, by rw [pre_next p HK2.out, show 1 - k = 0 by rw [EK.out], HOn.out]; exact HVn.out, HR1n.out, HBn.out, HSn.out⟩
       case measure => simp [intOf]; have := HK2.out; omega
    ·subst e
     go_wp2_with fail
     exact bodyPost_ret (results_tmp rfl _ _ _) rfl ⟨_, rfl, by rw [HSp.out]; exact World.ownsRow.mono HV.out HLw.out, HB.out⟩
 ·have HSp := Lib.hid (show camL p = [] by unfold camL thC; rw [decide_eq_false (by have := of_decide_eq_true g1; omega), Bool.false_and]; rfl)
  go_enter Tryz.func18, Tryz.ntmps18
  go_wp2_with (first
   | (guard_target = Go.wpList _ _ _ ((⟨some 1, .box _ _, _, _, _, _⟩ : Go.Oper) :: _) _ _; refine step_box rfl _ rfl p rfl ?_; intro b1 w1 N R; have HG1 := Lib.hid (show w.heap.size ≤ b1 by have := HB.out.size; have := N.at_; omega); have HB := Lib.hid (below_on HB.out N.below); have HR1 := Lib.hid R; clear N R)
   | (guard_target = Go.wpList _ _ _ ((⟨some 9, .load _ (.tmp 8), _, _, _, _⟩ : Go.Oper) :: _) _ _; refine step_get rfl 5 _ rfl b1 78 rfl Tryz.underlying5 rfl (.int .u8 (p 78)) ?_ ?_; exact HR1.out.cell 78 (by decide))
   | (guard_target = Go.wpList _ _ _ ((⟨some 13, .load _ (.tmp 12), _, _, _, _⟩ : Go.Oper) :: _) _ _; refine step_get rfl 5 _ rfl b1 0 rfl Tryz.underlying5 rfl (.int .u8 (p 0)) ?_ ?_; exact HR1.out.cell 0 (by decide)))
  exact bodyPost_ret (results_tmp rfl _ _ _) rfl ⟨_, rfl, by rw [HSp.out]; exact World.ownsRow_nil _ _ _ _, HB.out⟩
end Go.Proofs.YtidgfadbdgheiaaGreatDoor
