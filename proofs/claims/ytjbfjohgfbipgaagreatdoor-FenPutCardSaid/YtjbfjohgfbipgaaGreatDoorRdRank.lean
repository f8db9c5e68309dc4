/-
  Contract of the reader's rank (layer 10).
-/
import Derived.Test.YtjbfjohgfbipgaaGreatDoorRdBaseA
namespace Go.Proofs.YtjbfjohgfbipgaaGreatDoor
open Go.RowKit
set_option linter.unusedVariables false
set_option linter.unusedSimpArgs false

theorem less_one (x y : UInt8) : Op.bytesLess [x] [y] = decide (x.toNat < y.toNat) := by
  unfold Op.bytesLess
  rw [Bool.eq_iff_iff]
  simp only [Bool.or_eq_true, Bool.and_eq_true, decide_eq_true_eq, beq_iff_eq, Op.bytesLess]
  simp [UInt8.lt_iff_toNat_lt]
/-- What a rank's reading leaves. -/
def rkO (s : List UInt8) : Option (Nat → Int) → Option ((Nat → Int) × List UInt8)
  | none => none
  | some q => some (q, s)
theorem FitF.put {p : Nat → Int} (h : FitF p) {i : Nat} (hi : 1 ≤ i ∧ i ≤ 64) {v : Int} (hv : 0 ≤ v ∧ v ≤ 255) : FitF (upd p i v) := by
  refine ⟨?_, fun j hj => ?_, ?_, fun j h1 h2 => ?_, ?_, fun j h1 h2 => ?_, ?_, fun j h1 h2 => ?_⟩
  · rw [upd_other _ _ _ _ (by omega)]; exact h.var
  · by_cases e : 1 + j = i
    · rw [e, upd_same]; exact hv
    · rw [upd_other _ _ _ _ e]; exact h.bd j hj
  · rw [upd_other _ _ _ _ (by omega)]; exact h.prom
  · rw [upd_other _ _ _ _ (by omega)]; exact h.pock j h1 h2
  · rw [upd_other _ _ _ _ (by omega)]; exact h.turn
  · rw [upd_other _ _ _ _ (by omega)]; exact h.rook j h1 h2
  · rw [upd_other _ _ _ _ (by omega)]; exact h.pass
  · rw [upd_other _ _ _ _ (by omega)]; exact h.chk j h1 h2
theorem FitF.mark {p : Nat → Int} (h : FitF p) {m : Nat} (hm : m < W64) : FitF (upd p 65 (m : Int)) := by
  refine ⟨?_, fun j hj => ?_, ?_, fun j h1 h2 => ?_, ?_, fun j h1 h2 => ?_, ?_, fun j h1 h2 => ?_⟩
  · rw [upd_other _ _ _ _ (by omega)]; exact h.var
  · rw [upd_other _ _ _ _ (by omega)]; exact h.bd j hj
  · rw [upd_same]; exact ⟨by omega, by rw [Int.toNat_natCast]; exact hm⟩
  · rw [upd_other _ _ _ _ (by omega)]; exact h.pock j h1 h2
  · rw [upd_other _ _ _ _ (by omega)]; exact h.turn
  · rw [upd_other _ _ _ _ (by omega)]; exact h.rook j h1 h2
  · rw [upd_other _ _ _ _ (by omega)]; exact h.pass
  · rw [upd_other _ _ _ _ (by omega)]; exact h.chk j h1 h2
theorem or_put {m k : Nat} (hm : m < W64) (hk : k < 64) : bits .or .u64 (m : Int) (IntKind.u64.wrap (2 ^ k)) = ((putN m (k : Int) : Nat) : Int) := by
  have key : ∀ y : Nat, y < 18446744073709551616 → IntKind.u64.wrap (y : Int) = (y : Int) := fun y hy => by rw [IntKind.wrap_u64]; omega
  have h2 : (2 : Nat) ^ k < W64 := Nat.pow_lt_pow_right (by decide) hk
  rw [show IntKind.u64.wrap ((2 : Int) ^ k) = ((2 ^ k : Nat) : Int) by
    rw [show ((2 : Int) ^ k) = ((2 ^ k : Nat) : Int) by simp]
    exact key _ h2]
  rw [or_nat hm h2]
  unfold putN onlyN
  rw [show sq (k : Int) = true by simp [sq]; omega]
  simp
theorem prsZ_rng (t : ByteArray) : 0 ≤ prsZ t ∧ prsZ t ≤ 255 := by
  have key : ∀ n : Fin 256, 0 ≤ byteP n.val ∧ byteP n.val ≤ 255 := by decide +kernel
  unfold prsZ
  split
  · exact key ⟨_, UInt8.toNat_lt _⟩
  · decide
theorem digit_n {x : UInt8} (h0 : 49 ≤ x.toNat) (h1 : x.toNat ≤ 56) : atN [x] = some ((x.toNat : Int) - 48) := by
  have key : ∀ y : Fin 256, 49 ≤ y.val → y.val ≤ 56 → atN [UInt8.ofNat y.val] = some ((y.val : Int) - 48) := by decide +kernel
  have := key ⟨x.toNat, x.toNat_lt⟩ h0 h1
  rwa [show UInt8.ofNat x.toNat = x by simp] at this
set_option maxRecDepth 100000 in
set_option maxHeartbeats 8000000 in
theorem rd_rank (b r : Nat) (l : List UInt8) (p : Nat → Int) (s : List UInt8) (w : World) (hr : RowR w b p s) (hr8 : r < 8) (hl : l.length ≤ 10000) (hp : FitF p) (hT : TabErr w) (hb : 7 ≠ b ∧ 8 ≠ b) :
    Calls Tryz.prog 84 #[.pointer (some ⟨b, 0, none⟩), .int .i64 (r : Int), .string (bz l)] w (RdP b (rkO s (rdRank r l p)) w) := by
  have HR := Lib.hid hr
  have HR8 := Lib.hid hr8
  have HP := Lib.hid hp
  have HT := Lib.hid hT
  have HBn := Lib.hid hb
  have HFm := Lib.hid (by kernel_rfl : Tryz.prog.follows .mixedOrders = true)
  have r0 : (0 : Int) ≤ (r : Int) := by omega
  have r8 : (r : Int) < 8 := by omega
  have hsz : (bz l).size = l.length := bz_size l
  have hlen : (l.length : Int) ≤ 10000 := by omega
  obtain ⟨o, ho⟩ : ∃ o, rkO s (rdRank r l p) = o := ⟨_, rfl⟩
  have HO := Lib.hid ho
  obtain ⟨n, hn⟩ : ∃ n, l.length = n := ⟨_, rfl⟩
  have HNl := Lib.hid hn
  rw [hn] at hsz hlen
  rw [ho]
  clear hr hr8 hl hp hT hb hn ho
  go_enter Tryz.func84, Tryz.ntmps84
  go_wp2_with fail
  go_loopw [6, 11] (fun fv i wr => ∃ (k : Nat) (f : Int) (q : Nat → Int), k ≤ n ∧ i = .int .i64 (k : Int) ∧ fv = .int .i64 f ∧ 0 ≤ f ∧ f ≤ 8 * (k : Int) ∧ RowR wr b q s ∧ FitF q ∧ rdRk r l 0 p = rdRk r (l.drop k) f q ∧ Kb b w wr) (fun _ i _ => n - (intOf i).toNat)
  case atStart => exact ⟨0, 0, p, by omega, rfl, rfl, by omega, by omega, HR.out, HP.out, rfl, Kb.refl _ _⟩
  case round =>
    obtain ⟨k, f, q, hk, rfl, rfl, f0, f8, hrow, hfit, heq, hkb⟩ := hrel
    have HR := Lib.hid hrow
    have HQ := Lib.hid hfit
    have HK := Lib.hid hkb
    have HEq := Lib.hid heq
    have HF8 := Lib.hid f8
    clear hrow hfit heq hkb
    by_cases hkn : k < n
    · have lk : (k : Int) < (n : Int) := by omega
      have k0 : (0 : Int) ≤ (k : Int) := by omega
      have fmax : f ≤ 80000 := by omega
      have HKn := Lib.hid hkn
      obtain ⟨x, hx⟩ : ∃ x, l[k]? = some x := ⟨_, List.getElem?_eq_getElem (by rw [HNl.out]; exact hkn)⟩
      have hcut := fun w => run_cut l k x hx w
      have HD := Lib.hid (show l.drop k = x :: l.drop (k + 1) by
        have hk' : k < l.length := by rw [HNl.out]; exact hkn
        rw [drop_at hk', (List.getElem?_eq_some_iff.1 hx).2])
      obtain ⟨t, ht⟩ : ∃ t, bz [x] = t := ⟨_, rfl⟩
      have HTt := Lib.hid ht
      have hxl : ∀ m, (t.toList == m) = ([x] == m) := fun m => by rw [← ht, bz_toList]
      have hxb : ∀ y, Op.bytesLess t.toList [y] = decide (x.toNat < y.toNat) := fun y => by rw [← ht, bz_toList, less_one]
      rw [ht] at hcut
      have HNone := Lib.hid (fun h : rdSt r x f q = none => show o = none by rw [← HO.out]; unfold rdRank; rw [HEq.out, HD.out, rdRk_none h]; rfl)
      have HSome := Lib.hid (fun (f' : Int) (q' : Nat → Int) (h : rdSt r x f q = some (f', q')) => show rdRk r l 0 p = rdRk r (l.drop (k + 1)) f' q' by rw [HEq.out, HD.out, rdRk_some h])
      have hst : rdSt r x f q = (bif x == 126 then (bif ofOk (f - 1) (r : Int) then some (f, upd q 65 ((putN (q 65).toNat (ofZ (f - 1) (r : Int)) : Nat) : Int)) else none) else bif decide (49 ≤ x.toNat) && decide (x.toNat ≤ 56) then some (f + ((x.toNat : Int) - 48), q) else bif ofOk f (r : Int) then (bif prsB t then some (f + 1, upd q (1 + (ofZ f (r : Int)).toNat) (prsZ t)) else none) else none) := by unfold rdSt; rw [ht]
      clear hx ht hkn hk
      cases h1 : (x == 126)
      · have g1 : (t.toList == [126]) = false := by rw [hxl]; simpa using h1
        by_cases h2 : x.toNat < 49
        · have h23 : (decide (49 ≤ x.toNat) && decide (x.toNat ≤ 56)) = false := by rw [decide_eq_false (by omega)]; rfl
          cases h4 : ofOk f (r : Int)
          · have HOk := Lib.hid h4
            have gA : Op.bytesLess t.toList [49] = true := by rw [hxb]; exact decide_eq_true h2
            have HE := Lib.hid (HNone.out (by rw [hst, h1, h23, h4]; rfl))
            clear hst hxl hxb h1 h23 h4 HSome HNone
            go_wp2_with fail
            refine late_begin 16 HFm.out ?_
            refine late_take 0 (by kernel_rfl) (by kernel_rfl) (by kernel_rfl) (by kernel_rfl) (by kernel_rfl) (fun _ _ d _ _ h => by cases d <;> exact h) (fun o ho => ?_)
            simp only [List.getElem?_toArray, List.getElem?_cons_zero, List.getElem?_cons_succ, Option.some.injEq] at ho; subst ho
            apply Exists.intro
            refine ⟨Or.inl ⟨by kernel_rfl, fun w' hl => Or.inl ?_⟩, ?_⟩
            · (go_simp; try with_reducible rfl)
            simp only [Act.put, List.setIfInBounds_toArray, List.set_cons_zero, List.set_cons_succ]
            refine late_take 1 (by kernel_rfl) (by kernel_rfl) (by kernel_rfl) (by kernel_rfl) (by kernel_rfl) (fun _ _ d _ _ h => by cases d <;> exact h) (fun o ho => ?_)
            simp only [List.getElem?_toArray, List.getElem?_cons_zero, List.getElem?_cons_succ, Option.some.injEq] at ho; subst ho
            apply Exists.intro
            refine ⟨Or.inl ⟨by kernel_rfl, fun w' hl => Or.inl ?_⟩, ?_⟩
            · (go_simp; try with_reducible rfl)
            simp only [Act.put, List.setIfInBounds_toArray, List.set_cons_zero, List.set_cons_succ]
            refine late_take 2 (by kernel_rfl) (by kernel_rfl) (by kernel_rfl) (by kernel_rfl) (by kernel_rfl) (fun _ _ d _ _ h => by cases d <;> exact h) (fun o ho => ?_)
            simp only [List.getElem?_toArray, List.getElem?_cons_zero, List.getElem?_cons_succ, Option.some.injEq] at ho; subst ho
            apply Exists.intro
            refine ⟨Or.inl ⟨by kernel_rfl, fun w' hl => Or.inl ?_⟩, ?_⟩
            · (go_simp; try with_reducible rfl)
            simp only [Act.put, List.setIfInBounds_toArray, List.set_cons_zero, List.set_cons_succ]
            refine late_take 7 (by kernel_rfl) (by kernel_rfl) (by kernel_rfl) (by kernel_rfl) (by kernel_rfl) (fun _ _ d _ _ h => by cases d <;> exact h) (fun o ho => ?_)
            simp only [List.getElem?_toArray, List.getElem?_cons_zero, List.getElem?_cons_succ, Option.some.injEq] at ho; subst ho
            apply Exists.intro
            refine ⟨Or.inl ⟨by kernel_rfl, fun w' hl => Or.inl ?_⟩, ?_⟩
            · (go_simp; try with_reducible rfl)
            simp only [Act.put, List.setIfInBounds_toArray, List.set_cons_zero, List.set_cons_succ]
            refine late_takeD 12 [13, 14, 15, 16] (by kernel_rfl) (by kernel_rfl) (by kernel_rfl) (by kernel_rfl) (by kernel_rfl) (fun _ _ d _ _ h => by cases d <;> exact h) (fun o ho => ?_)
            simp only [List.getElem?_toArray, List.getElem?_cons_zero, List.getElem?_cons_succ, Option.some.injEq] at ho; subst ho
            apply Exists.intro
            refine ⟨Or.inl ⟨by kernel_rfl, fun w' hl => Or.inl ?_⟩, ?_⟩
            · (go_simp; try with_reducible rfl)
            simp only [Act.put, List.setIfInBounds_toArray, List.set_cons_zero, List.set_cons_succ]
            refine late_takeD 13 [14, 15, 16] (by kernel_rfl) (by kernel_rfl) (by kernel_rfl) (by kernel_rfl) (by kernel_rfl) (fun _ _ d _ _ h => by cases d <;> exact h) (fun o ho => ?_)
            simp only [List.getElem?_toArray, List.getElem?_cons_zero, List.getElem?_cons_succ, Option.some.injEq] at ho; subst ho
            apply Exists.intro
            refine ⟨Or.inl ⟨by kernel_rfl, fun w' hl => Or.inl ?_⟩, ?_⟩
            · (go_simp; try with_reducible rfl)
            simp only [Act.put, List.setIfInBounds_toArray, List.set_cons_zero, List.set_cons_succ]
            refine late_takeD 14 [15, 16] (by kernel_rfl) (by kernel_rfl) (by kernel_rfl) (by kernel_rfl) (by kernel_rfl) (fun _ _ d _ _ h => by cases d <;> exact h) (fun o ho => ?_)
            simp only [List.getElem?_toArray, List.getElem?_cons_zero, List.getElem?_cons_succ, Option.some.injEq] at ho; subst ho
            apply Exists.intro
            refine ⟨Or.inl ⟨by kernel_rfl, fun w' hl => Or.inl ?_⟩, ?_⟩
            · (go_simp; try with_reducible rfl)
            simp only [Act.put, List.setIfInBounds_toArray, List.set_cons_zero, List.set_cons_succ]
            refine late_one 3 (by kernel_rfl) (by kernel_rfl) (fun o ho => ?_)
            simp only [List.getElem?_toArray, List.getElem?_cons_zero, List.getElem?_cons_succ, Option.some.injEq] at ho; subst ho
            refine ⟨by kernel_rfl, fun wn hl K hK => ?_⟩
            have HR := Lib.hid (HR.out.later hl); have HK := Lib.hid (HK.out.trans (Kb.of_call b hl)); clear hl
            refine wp_enter _ _ (by go_simp; exact ⟨rfl, rfl⟩) ?_
            refine (sqof_any _ _ _).mono ?_; rintro e wm ⟨rfl, rfl⟩; refine ⟨_, rfl, ?_⟩
            rw [HOk.out]
            refine hK.out _ _ (Later.refl _) ?_
            clear hK K
            simp only [Act.put, List.setIfInBounds_toArray, List.set_cons_zero, List.set_cons_succ]
            refine late_take 4 (by kernel_rfl) (by kernel_rfl) (by kernel_rfl) (by kernel_rfl) (by kernel_rfl) (fun _ _ d _ _ h => by cases d <;> exact h) (fun o ho => ?_)
            simp only [List.getElem?_toArray, List.getElem?_cons_zero, List.getElem?_cons_succ, Option.some.injEq] at ho; subst ho
            apply Exists.intro
            refine ⟨Or.inl ⟨by kernel_rfl, fun w' hl => Or.inl ?_⟩, ?_⟩
            · (go_simp; try with_reducible rfl)
            simp only [Act.put, List.setIfInBounds_toArray, List.set_cons_zero, List.set_cons_succ]
            refine late_take 5 (by kernel_rfl) (by kernel_rfl) (by kernel_rfl) (by kernel_rfl) (by kernel_rfl) (fun _ _ d _ _ h => by cases d <;> exact h) (fun o ho => ?_)
            simp only [List.getElem?_toArray, List.getElem?_cons_zero, List.getElem?_cons_succ, Option.some.injEq] at ho; subst ho
            apply Exists.intro
            refine ⟨Or.inl ⟨by kernel_rfl, fun w' hl => Or.inl ?_⟩, ?_⟩
            · (go_simp; try with_reducible rfl)
            simp only [Act.put, List.setIfInBounds_toArray, List.set_cons_zero, List.set_cons_succ]
            refine late_one 6 (by kernel_rfl) (by kernel_rfl) (fun o ho => ?_)
            simp only [List.getElem?_toArray, List.getElem?_cons_zero, List.getElem?_cons_succ, Option.some.injEq] at ho; subst ho
            refine ⟨by kernel_rfl, fun wn hl K hK => ?_⟩
            have HR := Lib.hid (HR.out.later hl); have HK := Lib.hid (HK.out.trans (Kb.of_call b hl)); clear hl
            refine wp_throw _ _ (by go_simp; exact ⟨rfl, rfl⟩) ?_
            refine (mustI_no _ _).mono ?_; rintro e wm ⟨⟨u, pv, rfl⟩, rfl⟩; refine ⟨_, rfl, ?_⟩
            go_wp2_with fail
            rw [HE.out]
            exact ⟨rfl, ⟨_, _, rfl⟩, HK.out⟩
          · have HOk := Lib.hid h4
            obtain ⟨⟨hf0, hf8⟩, _⟩ := ofOk_true.1 h4
            obtain ⟨g, hg⟩ : ∃ g : Nat, ofZ f (r : Int) = (g : Int) := ⟨(ofZ f (r : Int)).toNat, (Int.toNat_of_nonneg (ofZ_rng _ _).1).symm⟩
            have HG := Lib.hid hg
            have g64 : (g : Int) < 64 := by have := (ofZ_rng f (r : Int)).2; omega
            have g0 : (0 : Int) ≤ (g : Int) := by omega
            have HG64 := Lib.hid (show g < 64 by omega)
            obtain ⟨z, hz⟩ : ∃ z, prsZ t = z := ⟨_, rfl⟩
            have HZ := Lib.hid hz
            have HZr := Lib.hid (show 0 ≤ z ∧ z ≤ 255 by rw [← hz]; exact prsZ_rng t)
            cases h5 : prsB t
            · have HBo := Lib.hid h5
              have gA : Op.bytesLess t.toList [49] = true := by rw [hxb]; exact decide_eq_true h2
              have HE := Lib.hid (HNone.out (by rw [hst, h1, h23, h4, h5]; rfl))
              clear hst hxl hxb h1 h23 h4 h5 HSome HNone hg hz hf0 hf8
              go_wp2_with fail
              refine late_begin 16 HFm.out ?_
              refine late_take 0 (by kernel_rfl) (by kernel_rfl) (by kernel_rfl) (by kernel_rfl) (by kernel_rfl) (fun _ _ d _ _ h => by cases d <;> exact h) (fun o ho => ?_)
              simp only [List.getElem?_toArray, List.getElem?_cons_zero, List.getElem?_cons_succ, Option.some.injEq] at ho; subst ho
              apply Exists.intro
              refine ⟨Or.inl ⟨by kernel_rfl, fun w' hl => Or.inl ?_⟩, ?_⟩
              · (go_simp; try with_reducible rfl)
              simp only [Act.put, List.setIfInBounds_toArray, List.set_cons_zero, List.set_cons_succ]
              refine late_take 1 (by kernel_rfl) (by kernel_rfl) (by kernel_rfl) (by kernel_rfl) (by kernel_rfl) (fun _ _ d _ _ h => by cases d <;> exact h) (fun o ho => ?_)
              simp only [List.getElem?_toArray, List.getElem?_cons_zero, List.getElem?_cons_succ, Option.some.injEq] at ho; subst ho
              apply Exists.intro
              refine ⟨Or.inl ⟨by kernel_rfl, fun w' hl => Or.inl ?_⟩, ?_⟩
              · (go_simp; try with_reducible rfl)
              simp only [Act.put, List.setIfInBounds_toArray, List.set_cons_zero, List.set_cons_succ]
              refine late_take 2 (by kernel_rfl) (by kernel_rfl) (by kernel_rfl) (by kernel_rfl) (by kernel_rfl) (fun _ _ d _ _ h => by cases d <;> exact h) (fun o ho => ?_)
              simp only [List.getElem?_toArray, List.getElem?_cons_zero, List.getElem?_cons_succ, Option.some.injEq] at ho; subst ho
              apply Exists.intro
              refine ⟨Or.inl ⟨by kernel_rfl, fun w' hl => Or.inl ?_⟩, ?_⟩
              · (go_simp; try with_reducible rfl)
              simp only [Act.put, List.setIfInBounds_toArray, List.set_cons_zero, List.set_cons_succ]
              refine late_take 7 (by kernel_rfl) (by kernel_rfl) (by kernel_rfl) (by kernel_rfl) (by kernel_rfl) (fun _ _ d _ _ h => by cases d <;> exact h) (fun o ho => ?_)
              simp only [List.getElem?_toArray, List.getElem?_cons_zero, List.getElem?_cons_succ, Option.some.injEq] at ho; subst ho
              apply Exists.intro
              refine ⟨Or.inl ⟨by kernel_rfl, fun w' hl => Or.inl ?_⟩, ?_⟩
              · (go_simp; try with_reducible rfl)
              simp only [Act.put, List.setIfInBounds_toArray, List.set_cons_zero, List.set_cons_succ]
              refine late_takeD 12 [13, 14, 15, 16] (by kernel_rfl) (by kernel_rfl) (by kernel_rfl) (by kernel_rfl) (by kernel_rfl) (fun _ _ d _ _ h => by cases d <;> exact h) (fun o ho => ?_)
              simp only [List.getElem?_toArray, List.getElem?_cons_zero, List.getElem?_cons_succ, Option.some.injEq] at ho; subst ho
              apply Exists.intro
              refine ⟨Or.inl ⟨by kernel_rfl, fun w' hl => Or.inl ?_⟩, ?_⟩
              · (go_simp; try with_reducible rfl)
              simp only [Act.put, List.setIfInBounds_toArray, List.set_cons_zero, List.set_cons_succ]
              refine late_takeD 13 [14, 15, 16] (by kernel_rfl) (by kernel_rfl) (by kernel_rfl) (by kernel_rfl) (by kernel_rfl) (fun _ _ d _ _ h => by cases d <;> exact h) (fun o ho => ?_)
              simp only [List.getElem?_toArray, List.getElem?_cons_zero, List.getElem?_cons_succ, Option.some.injEq] at ho; subst ho
              apply Exists.intro
              refine ⟨Or.inl ⟨by kernel_rfl, fun w' hl => Or.inl ?_⟩, ?_⟩
              · (go_simp; try with_reducible rfl)
              simp only [Act.put, List.setIfInBounds_toArray, List.set_cons_zero, List.set_cons_succ]
              refine late_takeD 14 [15, 16] (by kernel_rfl) (by kernel_rfl) (by kernel_rfl) (by kernel_rfl) (by kernel_rfl) (fun _ _ d _ _ h => by cases d <;> exact h) (fun o ho => ?_)
              simp only [List.getElem?_toArray, List.getElem?_cons_zero, List.getElem?_cons_succ, Option.some.injEq] at ho; subst ho
              apply Exists.intro
              refine ⟨Or.inl ⟨by kernel_rfl, fun w' hl => Or.inl ?_⟩, ?_⟩
              · (go_simp; try with_reducible rfl)
              simp only [Act.put, List.setIfInBounds_toArray, List.set_cons_zero, List.set_cons_succ]
              refine late_one 3 (by kernel_rfl) (by kernel_rfl) (fun o ho => ?_)
              simp only [List.getElem?_toArray, List.getElem?_cons_zero, List.getElem?_cons_succ, Option.some.injEq] at ho; subst ho
              refine ⟨by kernel_rfl, fun wn hl K hK => ?_⟩
              have HR := Lib.hid (HR.out.later hl); have HK := Lib.hid (HK.out.trans (Kb.of_call b hl)); clear hl
              refine wp_enter _ _ (by go_simp; exact ⟨rfl, rfl⟩) ?_
              refine (sqof_any _ _ _).mono ?_; rintro e wm ⟨rfl, rfl⟩; refine ⟨_, rfl, ?_⟩
              rw [HOk.out, HG.out]
              refine hK.out _ _ (Later.refl _) ?_
              clear hK K
              simp only [Act.put, List.setIfInBounds_toArray, List.set_cons_zero, List.set_cons_succ]
              refine late_take 4 (by kernel_rfl) (by kernel_rfl) (by kernel_rfl) (by kernel_rfl) (by kernel_rfl) (fun _ _ d _ _ h => by cases d <;> exact h) (fun o ho => ?_)
              simp only [List.getElem?_toArray, List.getElem?_cons_zero, List.getElem?_cons_succ, Option.some.injEq] at ho; subst ho
              apply Exists.intro
              refine ⟨Or.inl ⟨by kernel_rfl, fun w' hl => Or.inl ?_⟩, ?_⟩
              · (go_simp; try with_reducible rfl)
              simp only [Act.put, List.setIfInBounds_toArray, List.set_cons_zero, List.set_cons_succ]
              refine late_take 5 (by kernel_rfl) (by kernel_rfl) (by kernel_rfl) (by kernel_rfl) (by kernel_rfl) (fun _ _ d _ _ h => by cases d <;> exact h) (fun o ho => ?_)
              simp only [List.getElem?_toArray, List.getElem?_cons_zero, List.getElem?_cons_succ, Option.some.injEq] at ho; subst ho
              apply Exists.intro
              refine ⟨Or.inl ⟨by kernel_rfl, fun w' hl => Or.inl ?_⟩, ?_⟩
              · (go_simp; try with_reducible rfl)
              simp only [Act.put, List.setIfInBounds_toArray, List.set_cons_zero, List.set_cons_succ]
              refine late_one 6 (by kernel_rfl) (by kernel_rfl) (fun o ho => ?_)
              simp only [List.getElem?_toArray, List.getElem?_cons_zero, List.getElem?_cons_succ, Option.some.injEq] at ho; subst ho
              refine ⟨by kernel_rfl, fun wn hl K hK => ?_⟩
              have HR := Lib.hid (HR.out.later hl); have HK := Lib.hid (HK.out.trans (Kb.of_call b hl)); clear hl
              refine wp_enter _ _ (by go_simp; exact ⟨rfl, rfl⟩) ?_
              refine (mustI_yes _ _).mono ?_; rintro e wm ⟨rfl, rfl⟩; refine ⟨_, rfl, ?_⟩
              refine hK.out _ _ (Later.refl _) ?_
              clear hK K
              simp only [Act.put, List.setIfInBounds_toArray, List.set_cons_zero, List.set_cons_succ]
              refine late_one 8 (by kernel_rfl) (by kernel_rfl) (fun o ho => ?_)
              simp only [List.getElem?_toArray, List.getElem?_cons_zero, List.getElem?_cons_succ, Option.some.injEq] at ho; subst ho
              refine ⟨by kernel_rfl, fun wn hl K hK => ?_⟩
              have HR := Lib.hid (HR.out.later hl); have HK := Lib.hid (HK.out.trans (Kb.of_call b hl)); clear hl
              refine wp_enter _ _ (by go_simp; exact ⟨rfl, rfl⟩) ?_
              refine (prs_any t _).mono ?_; rintro e wm ⟨rfl, rfl⟩; refine ⟨_, rfl, ?_⟩
              rw [HBo.out, HZ.out]
              refine hK.out _ _ (Later.refl _) ?_
              clear hK K
              simp only [Act.put, List.setIfInBounds_toArray, List.set_cons_zero, List.set_cons_succ]
              refine late_take 9 (by kernel_rfl) (by kernel_rfl) (by kernel_rfl) (by kernel_rfl) (by kernel_rfl) (fun _ _ d _ _ h => by cases d <;> exact h) (fun o ho => ?_)
              simp only [List.getElem?_toArray, List.getElem?_cons_zero, List.getElem?_cons_succ, Option.some.injEq] at ho; subst ho
              apply Exists.intro
              refine ⟨Or.inl ⟨by kernel_rfl, fun w' hl => Or.inl ?_⟩, ?_⟩
              · (go_simp; try with_reducible rfl)
              simp only [Act.put, List.setIfInBounds_toArray, List.set_cons_zero, List.set_cons_succ]
              refine late_take 10 (by kernel_rfl) (by kernel_rfl) (by kernel_rfl) (by kernel_rfl) (by kernel_rfl) (fun _ _ d _ _ h => by cases d <;> exact h) (fun o ho => ?_)
              simp only [List.getElem?_toArray, List.getElem?_cons_zero, List.getElem?_cons_succ, Option.some.injEq] at ho; subst ho
              apply Exists.intro
              refine ⟨Or.inl ⟨by kernel_rfl, fun w' hl => Or.inl ?_⟩, ?_⟩
              · (go_simp; try with_reducible rfl)
              simp only [Act.put, List.setIfInBounds_toArray, List.set_cons_zero, List.set_cons_succ]
              refine late_one 11 (by kernel_rfl) (by kernel_rfl) (fun o ho => ?_)
              simp only [List.getElem?_toArray, List.getElem?_cons_zero, List.getElem?_cons_succ, Option.some.injEq] at ho; subst ho
              refine ⟨by kernel_rfl, fun wn hl K hK => ?_⟩
              have HR := Lib.hid (HR.out.later hl); have HK := Lib.hid (HK.out.trans (Kb.of_call b hl)); clear hl
              refine wp_throw _ _ (by go_simp; exact ⟨rfl, rfl⟩) ?_
              refine (mustU_no _ _).mono ?_; rintro e wm ⟨⟨u, pv, rfl⟩, rfl⟩; refine ⟨_, rfl, ?_⟩
              go_wp2_with fail
              rw [HE.out]
              exact ⟨rfl, ⟨_, _, rfl⟩, HK.out⟩
            · have HBo := Lib.hid h5
              have gA : Op.bytesLess t.toList [49] = true := by rw [hxb]; exact decide_eq_true h2
              have HE := Lib.hid (HSome.out (f + 1) (upd q (1 + g) z) (by rw [hst, h1, h23, h4, h5, hg, hz, Int.toNat_natCast]; rfl))
              have HWf := Lib.hid (show wrap64 (f + 1) = f + 1 from IntWalk.wrap64_in _ ⟨by omega, by omega⟩)
              clear hst hxl hxb h1 h23 h4 h5 HSome HNone hg hz hf0 hf8
              go_wp2_with fail
              refine late_begin 16 HFm.out ?_
              refine late_take 0 (by kernel_rfl) (by kernel_rfl) (by kernel_rfl) (by kernel_rfl) (by kernel_rfl) (fun _ _ d _ _ h => by cases d <;> exact h) (fun o ho => ?_)
              simp only [List.getElem?_toArray, List.getElem?_cons_zero, List.getElem?_cons_succ, Option.some.injEq] at ho; subst ho
              apply Exists.intro
              refine ⟨Or.inl ⟨by kernel_rfl, fun w' hl => Or.inl ?_⟩, ?_⟩
              · (go_simp; try with_reducible rfl)
              simp only [Act.put, List.setIfInBounds_toArray, List.set_cons_zero, List.set_cons_succ]
              refine late_take 1 (by kernel_rfl) (by kernel_rfl) (by kernel_rfl) (by kernel_rfl) (by kernel_rfl) (fun _ _ d _ _ h => by cases d <;> exact h) (fun o ho => ?_)
              simp only [List.getElem?_toArray, List.getElem?_cons_zero, List.getElem?_cons_succ, Option.some.injEq] at ho; subst ho
              apply Exists.intro
              refine ⟨Or.inl ⟨by kernel_rfl, fun w' hl => Or.inl ?_⟩, ?_⟩
              · (go_simp; try with_reducible rfl)
              simp only [Act.put, List.setIfInBounds_toArray, List.set_cons_zero, List.set_cons_succ]
              refine late_take 2 (by kernel_rfl) (by kernel_rfl) (by kernel_rfl) (by kernel_rfl) (by kernel_rfl) (fun _ _ d _ _ h => by cases d <;> exact h) (fun o ho => ?_)
              simp only [List.getElem?_toArray, List.getElem?_cons_zero, List.getElem?_cons_succ, Option.some.injEq] at ho; subst ho
              apply Exists.intro
              refine ⟨Or.inl ⟨by kernel_rfl, fun w' hl => Or.inl ?_⟩, ?_⟩
              · (go_simp; try with_reducible rfl)
              simp only [Act.put, List.setIfInBounds_toArray, List.set_cons_zero, List.set_cons_succ]
              refine late_take 7 (by kernel_rfl) (by kernel_rfl) (by kernel_rfl) (by kernel_rfl) (by kernel_rfl) (fun _ _ d _ _ h => by cases d <;> exact h) (fun o ho => ?_)
              simp only [List.getElem?_toArray, List.getElem?_cons_zero, List.getElem?_cons_succ, Option.some.injEq] at ho; subst ho
              apply Exists.intro
              refine ⟨Or.inl ⟨by kernel_rfl, fun w' hl => Or.inl ?_⟩, ?_⟩
              · (go_simp; try with_reducible rfl)
              simp only [Act.put, List.setIfInBounds_toArray, List.set_cons_zero, List.set_cons_succ]
              refine late_takeD 12 [13, 14, 15, 16] (by kernel_rfl) (by kernel_rfl) (by kernel_rfl) (by kernel_rfl) (by kernel_rfl) (fun _ _ d _ _ h => by cases d <;> exact h) (fun o ho => ?_)
              simp only [List.getElem?_toArray, List.getElem?_cons_zero, List.getElem?_cons_succ, Option.some.injEq] at ho; subst ho
              apply Exists.intro
              refine ⟨Or.inl ⟨by kernel_rfl, fun w' hl => Or.inl ?_⟩, ?_⟩
              · (go_simp; try with_reducible rfl)
              simp only [Act.put, List.setIfInBounds_toArray, List.set_cons_zero, List.set_cons_succ]
              refine late_takeD 13 [14, 15, 16] (by kernel_rfl) (by kernel_rfl) (by kernel_rfl) (by kernel_rfl) (by kernel_rfl) (fun _ _ d _ _ h => by cases d <;> exact h) (fun o ho => ?_)
              simp only [List.getElem?_toArray, List.getElem?_cons_zero, List.getElem?_cons_succ, Option.some.injEq] at ho; subst ho
              apply Exists.intro
              refine ⟨Or.inl ⟨by kernel_rfl, fun w' hl => Or.inl ?_⟩, ?_⟩
              · (go_simp; try with_reducible rfl)
              simp only [Act.put, List.setIfInBounds_toArray, List.set_cons_zero, List.set_cons_succ]
              refine late_takeD 14 [15, 16] (by kernel_rfl) (by kernel_rfl) (by kernel_rfl) (by kernel_rfl) (by kernel_rfl) (fun _ _ d _ _ h => by cases d <;> exact h) (fun o ho => ?_)
              simp only [List.getElem?_toArray, List.getElem?_cons_zero, List.getElem?_cons_succ, Option.some.injEq] at ho; subst ho
              apply Exists.intro
              refine ⟨Or.inl ⟨by kernel_rfl, fun w' hl => Or.inl ?_⟩, ?_⟩
              · (go_simp; try with_reducible rfl)
              simp only [Act.put, List.setIfInBounds_toArray, List.set_cons_zero, List.set_cons_succ]
              refine late_one 3 (by kernel_rfl) (by kernel_rfl) (fun o ho => ?_)
              simp only [List.getElem?_toArray, List.getElem?_cons_zero, List.getElem?_cons_succ, Option.some.injEq] at ho; subst ho
              refine ⟨by kernel_rfl, fun wn hl K hK => ?_⟩
              have HR := Lib.hid (HR.out.later hl); have HK := Lib.hid (HK.out.trans (Kb.of_call b hl)); clear hl
              refine wp_enter _ _ (by go_simp; exact ⟨rfl, rfl⟩) ?_
              refine (sqof_any _ _ _).mono ?_; rintro e wm ⟨rfl, rfl⟩; refine ⟨_, rfl, ?_⟩
              rw [HOk.out, HG.out]
              refine hK.out _ _ (Later.refl _) ?_
              clear hK K
              simp only [Act.put, List.setIfInBounds_toArray, List.set_cons_zero, List.set_cons_succ]
              refine late_take 4 (by kernel_rfl) (by kernel_rfl) (by kernel_rfl) (by kernel_rfl) (by kernel_rfl) (fun _ _ d _ _ h => by cases d <;> exact h) (fun o ho => ?_)
              simp only [List.getElem?_toArray, List.getElem?_cons_zero, List.getElem?_cons_succ, Option.some.injEq] at ho; subst ho
              apply Exists.intro
              refine ⟨Or.inl ⟨by kernel_rfl, fun w' hl => Or.inl ?_⟩, ?_⟩
              · (go_simp; try with_reducible rfl)
              simp only [Act.put, List.setIfInBounds_toArray, List.set_cons_zero, List.set_cons_succ]
              refine late_take 5 (by kernel_rfl) (by kernel_rfl) (by kernel_rfl) (by kernel_rfl) (by kernel_rfl) (fun _ _ d _ _ h => by cases d <;> exact h) (fun o ho => ?_)
              simp only [List.getElem?_toArray, List.getElem?_cons_zero, List.getElem?_cons_succ, Option.some.injEq] at ho; subst ho
              apply Exists.intro
              refine ⟨Or.inl ⟨by kernel_rfl, fun w' hl => Or.inl ?_⟩, ?_⟩
              · (go_simp; try with_reducible rfl)
              simp only [Act.put, List.setIfInBounds_toArray, List.set_cons_zero, List.set_cons_succ]
              refine late_one 6 (by kernel_rfl) (by kernel_rfl) (fun o ho => ?_)
              simp only [List.getElem?_toArray, List.getElem?_cons_zero, List.getElem?_cons_succ, Option.some.injEq] at ho; subst ho
              refine ⟨by kernel_rfl, fun wn hl K hK => ?_⟩
              have HR := Lib.hid (HR.out.later hl); have HK := Lib.hid (HK.out.trans (Kb.of_call b hl)); clear hl
              refine wp_enter _ _ (by go_simp; exact ⟨rfl, rfl⟩) ?_
              refine (mustI_yes _ _).mono ?_; rintro e wm ⟨rfl, rfl⟩; refine ⟨_, rfl, ?_⟩
              refine hK.out _ _ (Later.refl _) ?_
              clear hK K
              simp only [Act.put, List.setIfInBounds_toArray, List.set_cons_zero, List.set_cons_succ]
              refine late_one 8 (by kernel_rfl) (by kernel_rfl) (fun o ho => ?_)
              simp only [List.getElem?_toArray, List.getElem?_cons_zero, List.getElem?_cons_succ, Option.some.injEq] at ho; subst ho
              refine ⟨by kernel_rfl, fun wn hl K hK => ?_⟩
              have HR := Lib.hid (HR.out.later hl); have HK := Lib.hid (HK.out.trans (Kb.of_call b hl)); clear hl
              refine wp_enter _ _ (by go_simp; exact ⟨rfl, rfl⟩) ?_
              refine (prs_any t _).mono ?_; rintro e wm ⟨rfl, rfl⟩; refine ⟨_, rfl, ?_⟩
              rw [HBo.out, HZ.out]
              refine hK.out _ _ (Later.refl _) ?_
              clear hK K
              simp only [Act.put, List.setIfInBounds_toArray, List.set_cons_zero, List.set_cons_succ]
              refine late_take 9 (by kernel_rfl) (by kernel_rfl) (by kernel_rfl) (by kernel_rfl) (by kernel_rfl) (fun _ _ d _ _ h => by cases d <;> exact h) (fun o ho => ?_)
              simp only [List.getElem?_toArray, List.getElem?_cons_zero, List.getElem?_cons_succ, Option.some.injEq] at ho; subst ho
              apply Exists.intro
              refine ⟨Or.inl ⟨by kernel_rfl, fun w' hl => Or.inl ?_⟩, ?_⟩
              · (go_simp; try with_reducible rfl)
              simp only [Act.put, List.setIfInBounds_toArray, List.set_cons_zero, List.set_cons_succ]
              refine late_take 10 (by kernel_rfl) (by kernel_rfl) (by kernel_rfl) (by kernel_rfl) (by kernel_rfl) (fun _ _ d _ _ h => by cases d <;> exact h) (fun o ho => ?_)
              simp only [List.getElem?_toArray, List.getElem?_cons_zero, List.getElem?_cons_succ, Option.some.injEq] at ho; subst ho
              apply Exists.intro
              refine ⟨Or.inl ⟨by kernel_rfl, fun w' hl => Or.inl ?_⟩, ?_⟩
              · (go_simp; try with_reducible rfl)
              simp only [Act.put, List.setIfInBounds_toArray, List.set_cons_zero, List.set_cons_succ]
              refine late_one 11 (by kernel_rfl) (by kernel_rfl) (fun o ho => ?_)
              simp only [List.getElem?_toArray, List.getElem?_cons_zero, List.getElem?_cons_succ, Option.some.injEq] at ho; subst ho
              refine ⟨by kernel_rfl, fun wn hl K hK => ?_⟩
              have HR := Lib.hid (HR.out.later hl); have HK := Lib.hid (HK.out.trans (Kb.of_call b hl)); clear hl
              refine wp_enter _ _ (by go_simp; exact ⟨rfl, rfl⟩) ?_
              refine (mustU_yes _ _).mono ?_; rintro e wm ⟨rfl, rfl⟩; refine ⟨_, rfl, ?_⟩
              refine hK.out _ _ (Later.refl _) ?_
              clear hK K
              simp only [Act.put, List.setIfInBounds_toArray, List.set_cons_zero, List.set_cons_succ]
              refine late_take 15 (by kernel_rfl) (by kernel_rfl) (by kernel_rfl) (by kernel_rfl) (by kernel_rfl) (fun _ _ d _ _ h => by cases d <;> exact h) (fun o ho => ?_)
              simp only [List.getElem?_toArray, List.getElem?_cons_zero, List.getElem?_cons_succ, Option.some.injEq] at ho; subst ho
              refine ⟨.pointer (some ⟨b, 1 + g, none⟩), Or.inl ⟨by kernel_rfl, fun w' hl => Or.inl ?_⟩, ?_⟩
              · (go_simp; first | done | (with_reducible rfl) | (intro hbad; exfalso; omega))
              simp only [Act.put, List.setIfInBounds_toArray, List.set_cons_zero, List.set_cons_succ]
              refine late_last 16 (by kernel_rfl) (by kernel_rfl) (by kernel_rfl) (fun o ho => ?_)
              simp only [List.getElem?_toArray, List.getElem?_cons_zero, List.getElem?_cons_succ, Option.some.injEq] at ho; subst ho
              refine ⟨by kernel_rfl, fun wn hl K hK => ?_⟩
              have HR := Lib.hid (HR.out.later hl); have HK := Lib.hid (HK.out.trans (Kb.of_call b hl)); clear hl
              refine late_put 5 _ _ rfl b (1 + g) rfl .u8 z rfl q s HR.out (by have := HG64.out; omega) (kAt_board (Nat.zero_le _) HG64.out) size5 ?_; intro wm hr hk
              have HR := Lib.hid hr; have HK := Lib.hid (HK.out.trans hk); clear hr hk
              refine hK.out _ _ ?_
              clear hK K
              simp only [Act.put, List.setIfInBounds_toArray, List.set_cons_zero, List.set_cons_succ]
              go_wp2_with fail
              go_roundw
              case rel => exact ⟨k + 1, f + 1, upd q (1 + g) z, by have := HKn.out; omega, by go_num, by first | rw [HWf.out] | rfl, by omega, by have := HF8.out; omega, HR.out, HQ.out.put (by have := HG64.out; omega) HZr.out, HE.out, HK.out⟩
              case measure => simp [intOf]; have := HKn.out; omega
        · have gA : Op.bytesLess t.toList [49] = false := by rw [hxb]; exact decide_eq_false h2
          by_cases h3 : 56 < x.toNat
          · have h23 : (decide (49 ≤ x.toNat) && decide (x.toNat ≤ 56)) = false := by rw [decide_eq_false (show ¬ x.toNat ≤ 56 by omega), Bool.and_false]
            cases h4 : ofOk f (r : Int)
            · have HOk := Lib.hid h4
              have gB : Op.bytesLess t.toList [56] = false := by rw [hxb]; exact decide_eq_false (show ¬ x.toNat < 56 by omega)
              have gC : (t.toList == [56]) = false := by rw [hxl]; simp; intro e; subst e; exact absurd h3 (by decide)
              have HE := Lib.hid (HNone.out (by rw [hst, h1, h23, h4]; rfl))
              clear hst hxl hxb h1 h23 h4 HSome HNone
              go_wp2_with fail
              refine late_begin 16 HFm.out ?_
              refine late_take 0 (by kernel_rfl) (by kernel_rfl) (by kernel_rfl) (by kernel_rfl) (by kernel_rfl) (fun _ _ d _ _ h => by cases d <;> exact h) (fun o ho => ?_)
              simp only [List.getElem?_toArray, List.getElem?_cons_zero, List.getElem?_cons_succ, Option.some.injEq] at ho; subst ho
              apply Exists.intro
              refine ⟨Or.inl ⟨by kernel_rfl, fun w' hl => Or.inl ?_⟩, ?_⟩
              · (go_simp; try with_reducible rfl)
              simp only [Act.put, List.setIfInBounds_toArray, List.set_cons_zero, List.set_cons_succ]
              refine late_take 1 (by kernel_rfl) (by kernel_rfl) (by kernel_rfl) (by kernel_rfl) (by kernel_rfl) (fun _ _ d _ _ h => by cases d <;> exact h) (fun o ho => ?_)
              simp only [List.getElem?_toArray, List.getElem?_cons_zero, List.getElem?_cons_succ, Option.some.injEq] at ho; subst ho
              apply Exists.intro
              refine ⟨Or.inl ⟨by kernel_rfl, fun w' hl => Or.inl ?_⟩, ?_⟩
              · (go_simp; try with_reducible rfl)
              simp only [Act.put, List.setIfInBounds_toArray, List.set_cons_zero, List.set_cons_succ]
              refine late_take 2 (by kernel_rfl) (by kernel_rfl) (by kernel_rfl) (by kernel_rfl) (by kernel_rfl) (fun _ _ d _ _ h => by cases d <;> exact h) (fun o ho => ?_)
              simp only [List.getElem?_toArray, List.getElem?_cons_zero, List.getElem?_cons_succ, Option.some.injEq] at ho; subst ho
              apply Exists.intro
              refine ⟨Or.inl ⟨by kernel_rfl, fun w' hl => Or.inl ?_⟩, ?_⟩
              · (go_simp; try with_reducible rfl)
              simp only [Act.put, List.setIfInBounds_toArray, List.set_cons_zero, List.set_cons_succ]
              refine late_take 7 (by kernel_rfl) (by kernel_rfl) (by kernel_rfl) (by kernel_rfl) (by kernel_rfl) (fun _ _ d _ _ h => by cases d <;> exact h) (fun o ho => ?_)
              simp only [List.getElem?_toArray, List.getElem?_cons_zero, List.getElem?_cons_succ, Option.some.injEq] at ho; subst ho
              apply Exists.intro
              refine ⟨Or.inl ⟨by kernel_rfl, fun w' hl => Or.inl ?_⟩, ?_⟩
              · (go_simp; try with_reducible rfl)
              simp only [Act.put, List.setIfInBounds_toArray, List.set_cons_zero, List.set_cons_succ]
              refine late_takeD 12 [13, 14, 15, 16] (by kernel_rfl) (by kernel_rfl) (by kernel_rfl) (by kernel_rfl) (by kernel_rfl) (fun _ _ d _ _ h => by cases d <;> exact h) (fun o ho => ?_)
              simp only [List.getElem?_toArray, List.getElem?_cons_zero, List.getElem?_cons_succ, Option.some.injEq] at ho; subst ho
              apply Exists.intro
              refine ⟨Or.inl ⟨by kernel_rfl, fun w' hl => Or.inl ?_⟩, ?_⟩
              · (go_simp; try with_reducible rfl)
              simp only [Act.put, List.setIfInBounds_toArray, List.set_cons_zero, List.set_cons_succ]
              refine late_takeD 13 [14, 15, 16] (by kernel_rfl) (by kernel_rfl) (by kernel_rfl) (by kernel_rfl) (by kernel_rfl) (fun _ _ d _ _ h => by cases d <;> exact h) (fun o ho => ?_)
              simp only [List.getElem?_toArray, List.getElem?_cons_zero, List.getElem?_cons_succ, Option.some.injEq] at ho; subst ho
              apply Exists.intro
              refine ⟨Or.inl ⟨by kernel_rfl, fun w' hl => Or.inl ?_⟩, ?_⟩
              · (go_simp; try with_reducible rfl)
              simp only [Act.put, List.setIfInBounds_toArray, List.set_cons_zero, List.set_cons_succ]
              refine late_takeD 14 [15, 16] (by kernel_rfl) (by kernel_rfl) (by kernel_rfl) (by kernel_rfl) (by kernel_rfl) (fun _ _ d _ _ h => by cases d <;> exact h) (fun o ho => ?_)
              simp only [List.getElem?_toArray, List.getElem?_cons_zero, List.getElem?_cons_succ, Option.some.injEq] at ho; subst ho
              apply Exists.intro
              refine ⟨Or.inl ⟨by kernel_rfl, fun w' hl => Or.inl ?_⟩, ?_⟩
              · (go_simp; try with_reducible rfl)
              simp only [Act.put, List.setIfInBounds_toArray, List.set_cons_zero, List.set_cons_succ]
              refine late_one 3 (by kernel_rfl) (by kernel_rfl) (fun o ho => ?_)
              simp only [List.getElem?_toArray, List.getElem?_cons_zero, List.getElem?_cons_succ, Option.some.injEq] at ho; subst ho
              refine ⟨by kernel_rfl, fun wn hl K hK => ?_⟩
              have HR := Lib.hid (HR.out.later hl); have HK := Lib.hid (HK.out.trans (Kb.of_call b hl)); clear hl
              refine wp_enter _ _ (by go_simp; exact ⟨rfl, rfl⟩) ?_
              refine (sqof_any _ _ _).mono ?_; rintro e wm ⟨rfl, rfl⟩; refine ⟨_, rfl, ?_⟩
              rw [HOk.out]
              refine hK.out _ _ (Later.refl _) ?_
              clear hK K
              simp only [Act.put, List.setIfInBounds_toArray, List.set_cons_zero, List.set_cons_succ]
              refine late_take 4 (by kernel_rfl) (by kernel_rfl) (by kernel_rfl) (by kernel_rfl) (by kernel_rfl) (fun _ _ d _ _ h => by cases d <;> exact h) (fun o ho => ?_)
              simp only [List.getElem?_toArray, List.getElem?_cons_zero, List.getElem?_cons_succ, Option.some.injEq] at ho; subst ho
              apply Exists.intro
              refine ⟨Or.inl ⟨by kernel_rfl, fun w' hl => Or.inl ?_⟩, ?_⟩
              · (go_simp; try with_reducible rfl)
              simp only [Act.put, List.setIfInBounds_toArray, List.set_cons_zero, List.set_cons_succ]
              refine late_take 5 (by kernel_rfl) (by kernel_rfl) (by kernel_rfl) (by kernel_rfl) (by kernel_rfl) (fun _ _ d _ _ h => by cases d <;> exact h) (fun o ho => ?_)
              simp only [List.getElem?_toArray, List.getElem?_cons_zero, List.getElem?_cons_succ, Option.some.injEq] at ho; subst ho
              apply Exists.intro
              refine ⟨Or.inl ⟨by kernel_rfl, fun w' hl => Or.inl ?_⟩, ?_⟩
              · (go_simp; try with_reducible rfl)
              simp only [Act.put, List.setIfInBounds_toArray, List.set_cons_zero, List.set_cons_succ]
              refine late_one 6 (by kernel_rfl) (by kernel_rfl) (fun o ho => ?_)
              simp only [List.getElem?_toArray, List.getElem?_cons_zero, List.getElem?_cons_succ, Option.some.injEq] at ho; subst ho
              refine ⟨by kernel_rfl, fun wn hl K hK => ?_⟩
              have HR := Lib.hid (HR.out.later hl); have HK := Lib.hid (HK.out.trans (Kb.of_call b hl)); clear hl
              refine wp_throw _ _ (by go_simp; exact ⟨rfl, rfl⟩) ?_
              refine (mustI_no _ _).mono ?_; rintro e wm ⟨⟨u, pv, rfl⟩, rfl⟩; refine ⟨_, rfl, ?_⟩
              go_wp2_with fail
              rw [HE.out]
              exact ⟨rfl, ⟨_, _, rfl⟩, HK.out⟩
            · have HOk := Lib.hid h4
              obtain ⟨⟨hf0, hf8⟩, _⟩ := ofOk_true.1 h4
              obtain ⟨g, hg⟩ : ∃ g : Nat, ofZ f (r : Int) = (g : Int) := ⟨(ofZ f (r : Int)).toNat, (Int.toNat_of_nonneg (ofZ_rng _ _).1).symm⟩
              have HG := Lib.hid hg
              have g64 : (g : Int) < 64 := by have := (ofZ_rng f (r : Int)).2; omega
              have g0 : (0 : Int) ≤ (g : Int) := by omega
              have HG64 := Lib.hid (show g < 64 by omega)
              obtain ⟨z, hz⟩ : ∃ z, prsZ t = z := ⟨_, rfl⟩
              have HZ := Lib.hid hz
              have HZr := Lib.hid (show 0 ≤ z ∧ z ≤ 255 by rw [← hz]; exact prsZ_rng t)
              cases h5 : prsB t
              · have HBo := Lib.hid h5
                have gB : Op.bytesLess t.toList [56] = false := by rw [hxb]; exact decide_eq_false (show ¬ x.toNat < 56 by omega)
                have gC : (t.toList == [56]) = false := by rw [hxl]; simp; intro e; subst e; exact absurd h3 (by decide)
                have HE := Lib.hid (HNone.out (by rw [hst, h1, h23, h4, h5]; rfl))
                clear hst hxl hxb h1 h23 h4 h5 HSome HNone hg hz hf0 hf8
                go_wp2_with fail
                refine late_begin 16 HFm.out ?_
                refine late_take 0 (by kernel_rfl) (by kernel_rfl) (by kernel_rfl) (by kernel_rfl) (by kernel_rfl) (fun _ _ d _ _ h => by cases d <;> exact h) (fun o ho => ?_)
                simp only [List.getElem?_toArray, List.getElem?_cons_zero, List.getElem?_cons_succ, Option.some.injEq] at ho; subst ho
                apply Exists.intro
                refine ⟨Or.inl ⟨by kernel_rfl, fun w' hl => Or.inl ?_⟩, ?_⟩
                · (go_simp; try with_reducible rfl)
                simp only [Act.put, List.setIfInBounds_toArray, List.set_cons_zero, List.set_cons_succ]
                refine late_take 1 (by kernel_rfl) (by kernel_rfl) (by kernel_rfl) (by kernel_rfl) (by kernel_rfl) (fun _ _ d _ _ h => by cases d <;> exact h) (fun o ho => ?_)
                simp only [List.getElem?_toArray, List.getElem?_cons_zero, List.getElem?_cons_succ, Option.some.injEq] at ho; subst ho
                apply Exists.intro
                refine ⟨Or.inl ⟨by kernel_rfl, fun w' hl => Or.inl ?_⟩, ?_⟩
                · (go_simp; try with_reducible rfl)
                simp only [Act.put, List.setIfInBounds_toArray, List.set_cons_zero, List.set_cons_succ]
                refine late_take 2 (by kernel_rfl) (by kernel_rfl) (by kernel_rfl) (by kernel_rfl) (by kernel_rfl) (fun _ _ d _ _ h => by cases d <;> exact h) (fun o ho => ?_)
                simp only [List.getElem?_toArray, List.getElem?_cons_zero, List.getElem?_cons_succ, Option.some.injEq] at ho; subst ho
                apply Exists.intro
                refine ⟨Or.inl ⟨by kernel_rfl, fun w' hl => Or.inl ?_⟩, ?_⟩
                · (go_simp; try with_reducible rfl)
                simp only [Act.put, List.setIfInBounds_toArray, List.set_cons_zero, List.set_cons_succ]
                refine late_take 7 (by kernel_rfl) (by kernel_rfl) (by kernel_rfl) (by kernel_rfl) (by kernel_rfl) (fun _ _ d _ _ h => by cases d <;> exact h) (fun o ho => ?_)
                simp only [List.getElem?_toArray, List.getElem?_cons_zero, List.getElem?_cons_succ, Option.some.injEq] at ho; subst ho
                apply Exists.intro
                refine ⟨Or.inl ⟨by kernel_rfl, fun w' hl => Or.inl ?_⟩, ?_⟩
                · (go_simp; try with_reducible rfl)
                simp only [Act.put, List.setIfInBounds_toArray, List.set_cons_zero, List.set_cons_succ]
                refine late_takeD 12 [13, 14, 15, 16] (by kernel_rfl) (by kernel_rfl) (by kernel_rfl) (by kernel_rfl) (by kernel_rfl) (fun _ _ d _ _ h => by cases d <;> exact h) (fun o ho => ?_)
                simp only [List.getElem?_toArray, List.getElem?_cons_zero, List.getElem?_cons_succ, Option.some.injEq] at ho; subst ho
                apply Exists.intro
                refine ⟨Or.inl ⟨by kernel_rfl, fun w' hl => Or.inl ?_⟩, ?_⟩
                · (go_simp; try with_reducible rfl)
                simp only [Act.put, List.setIfInBounds_toArray, List.set_cons_zero, List.set_cons_succ]
                refine late_takeD 13 [14, 15, 16] (by kernel_rfl) (by kernel_rfl) (by kernel_rfl) (by kernel_rfl) (by kernel_rfl) (fun _ _ d _ _ h => by cases d <;> exact h) (fun o ho => ?_)
                simp only [List.getElem?_toArray, List.getElem?_cons_zero, List.getElem?_cons_succ, Option.some.injEq] at ho; subst ho
                apply Exists.intro
                refine ⟨Or.inl ⟨by kernel_rfl, fun w' hl => Or.inl ?_⟩, ?_⟩
                · (go_simp; try with_reducible rfl)
                simp only [Act.put, List.setIfInBounds_toArray, List.set_cons_zero, List.set_cons_succ]
                refine late_takeD 14 [15, 16] (by kernel_rfl) (by kernel_rfl) (by kernel_rfl) (by kernel_rfl) (by kernel_rfl) (fun _ _ d _ _ h => by cases d <;> exact h) (fun o ho => ?_)
                simp only [List.getElem?_toArray, List.getElem?_cons_zero, List.getElem?_cons_succ, Option.some.injEq] at ho; subst ho
                apply Exists.intro
                refine ⟨Or.inl ⟨by kernel_rfl, fun w' hl => Or.inl ?_⟩, ?_⟩
                · (go_simp; try with_reducible rfl)
                simp only [Act.put, List.setIfInBounds_toArray, List.set_cons_zero, List.set_cons_succ]
                refine late_one 3 (by kernel_rfl) (by kernel_rfl) (fun o ho => ?_)
                simp only [List.getElem?_toArray, List.getElem?_cons_zero, List.getElem?_cons_succ, Option.some.injEq] at ho; subst ho
                refine ⟨by kernel_rfl, fun wn hl K hK => ?_⟩
                have HR := Lib.hid (HR.out.later hl); have HK := Lib.hid (HK.out.trans (Kb.of_call b hl)); clear hl
                refine wp_enter _ _ (by go_simp; exact ⟨rfl, rfl⟩) ?_
                refine (sqof_any _ _ _).mono ?_; rintro e wm ⟨rfl, rfl⟩; refine ⟨_, rfl, ?_⟩
                rw [HOk.out, HG.out]
                refine hK.out _ _ (Later.refl _) ?_
                clear hK K
                simp only [Act.put, List.setIfInBounds_toArray, List.set_cons_zero, List.set_cons_succ]
                refine late_take 4 (by kernel_rfl) (by kernel_rfl) (by kernel_rfl) (by kernel_rfl) (by kernel_rfl) (fun _ _ d _ _ h => by cases d <;> exact h) (fun o ho => ?_)
                simp only [List.getElem?_toArray, List.getElem?_cons_zero, List.getElem?_cons_succ, Option.some.injEq] at ho; subst ho
                apply Exists.intro
                refine ⟨Or.inl ⟨by kernel_rfl, fun w' hl => Or.inl ?_⟩, ?_⟩
                · (go_simp; try with_reducible rfl)
                simp only [Act.put, List.setIfInBounds_toArray, List.set_cons_zero, List.set_cons_succ]
                refine late_take 5 (by kernel_rfl) (by kernel_rfl) (by kernel_rfl) (by kernel_rfl) (by kernel_rfl) (fun _ _ d _ _ h => by cases d <;> exact h) (fun o ho => ?_)
                simp only [List.getElem?_toArray, List.getElem?_cons_zero, List.getElem?_cons_succ, Option.some.injEq] at ho; subst ho
                apply Exists.intro
                refine ⟨Or.inl ⟨by kernel_rfl, fun w' hl => Or.inl ?_⟩, ?_⟩
                · (go_simp; try with_reducible rfl)
                simp only [Act.put, List.setIfInBounds_toArray, List.set_cons_zero, List.set_cons_succ]
                refine late_one 6 (by kernel_rfl) (by kernel_rfl) (fun o ho => ?_)
                simp only [List.getElem?_toArray, List.getElem?_cons_zero, List.getElem?_cons_succ, Option.some.injEq] at ho; subst ho
                refine ⟨by kernel_rfl, fun wn hl K hK => ?_⟩
                have HR := Lib.hid (HR.out.later hl); have HK := Lib.hid (HK.out.trans (Kb.of_call b hl)); clear hl
                refine wp_enter _ _ (by go_simp; exact ⟨rfl, rfl⟩) ?_
                refine (mustI_yes _ _).mono ?_; rintro e wm ⟨rfl, rfl⟩; refine ⟨_, rfl, ?_⟩
                refine hK.out _ _ (Later.refl _) ?_
                clear hK K
                simp only [Act.put, List.setIfInBounds_toArray, List.set_cons_zero, List.set_cons_succ]
                refine late_one 8 (by kernel_rfl) (by kernel_rfl) (fun o ho => ?_)
                simp only [List.getElem?_toArray, List.getElem?_cons_zero, List.getElem?_cons_succ, Option.some.injEq] at ho; subst ho
                refine ⟨by kernel_rfl, fun wn hl K hK => ?_⟩
                have HR := Lib.hid (HR.out.later hl); have HK := Lib.hid (HK.out.trans (Kb.of_call b hl)); clear hl
                refine wp_enter _ _ (by go_simp; exact ⟨rfl, rfl⟩) ?_
                refine (prs_any t _).mono ?_; rintro e wm ⟨rfl, rfl⟩; refine ⟨_, rfl, ?_⟩
                rw [HBo.out, HZ.out]
                refine hK.out _ _ (Later.refl _) ?_
                clear hK K
                simp only [Act.put, List.setIfInBounds_toArray, List.set_cons_zero, List.set_cons_succ]
                refine late_take 9 (by kernel_rfl) (by kernel_rfl) (by kernel_rfl) (by kernel_rfl) (by kernel_rfl) (fun _ _ d _ _ h => by cases d <;> exact h) (fun o ho => ?_)
                simp only [List.getElem?_toArray, List.getElem?_cons_zero, List.getElem?_cons_succ, Option.some.injEq] at ho; subst ho
                apply Exists.intro
                refine ⟨Or.inl ⟨by kernel_rfl, fun w' hl => Or.inl ?_⟩, ?_⟩
                · (go_simp; try with_reducible rfl)
                simp only [Act.put, List.setIfInBounds_toArray, List.set_cons_zero, List.set_cons_succ]
                refine late_take 10 (by kernel_rfl) (by kernel_rfl) (by kernel_rfl) (by kernel_rfl) (by kernel_rfl) (fun _ _ d _ _ h => by cases d <;> exact h) (fun o ho => ?_)
                simp only [List.getElem?_toArray, List.getElem?_cons_zero, List.getElem?_cons_succ, Option.some.injEq] at ho; subst ho
                apply Exists.intro
                refine ⟨Or.inl ⟨by kernel_rfl, fun w' hl => Or.inl ?_⟩, ?_⟩
                · (go_simp; try with_reducible rfl)
                simp only [Act.put, List.setIfInBounds_toArray, List.set_cons_zero, List.set_cons_succ]
                refine late_one 11 (by kernel_rfl) (by kernel_rfl) (fun o ho => ?_)
                simp only [List.getElem?_toArray, List.getElem?_cons_zero, List.getElem?_cons_succ, Option.some.injEq] at ho; subst ho
                refine ⟨by kernel_rfl, fun wn hl K hK => ?_⟩
                have HR := Lib.hid (HR.out.later hl); have HK := Lib.hid (HK.out.trans (Kb.of_call b hl)); clear hl
                refine wp_throw _ _ (by go_simp; exact ⟨rfl, rfl⟩) ?_
                refine (mustU_no _ _).mono ?_; rintro e wm ⟨⟨u, pv, rfl⟩, rfl⟩; refine ⟨_, rfl, ?_⟩
                go_wp2_with fail
                rw [HE.out]
                exact ⟨rfl, ⟨_, _, rfl⟩, HK.out⟩
              · have HBo := Lib.hid h5
                have gB : Op.bytesLess t.toList [56] = false := by rw [hxb]; exact decide_eq_false (show ¬ x.toNat < 56 by omega)
                have gC : (t.toList == [56]) = false := by rw [hxl]; simp; intro e; subst e; exact absurd h3 (by decide)
                have HE := Lib.hid (HSome.out (f + 1) (upd q (1 + g) z) (by rw [hst, h1, h23, h4, h5, hg, hz, Int.toNat_natCast]; rfl))
                have HWf := Lib.hid (show wrap64 (f + 1) = f + 1 from IntWalk.wrap64_in _ ⟨by omega, by omega⟩)
                clear hst hxl hxb h1 h23 h4 h5 HSome HNone hg hz hf0 hf8
                go_wp2_with fail
                refine late_begin 16 HFm.out ?_
                refine late_take 0 (by kernel_rfl) (by kernel_rfl) (by kernel_rfl) (by kernel_rfl) (by kernel_rfl) (fun _ _ d _ _ h => by cases d <;> exact h) (fun o ho => ?_)
                simp only [List.getElem?_toArray, List.getElem?_cons_zero, List.getElem?_cons_succ, Option.some.injEq] at ho; subst ho
                apply Exists.intro
                refine ⟨Or.inl ⟨by kernel_rfl, fun w' hl => Or.inl ?_⟩, ?_⟩
                · (go_simp; try with_reducible rfl)
                simp only [Act.put, List.setIfInBounds_toArray, List.set_cons_zero, List.set_cons_succ]
                refine late_take 1 (by kernel_rfl) (by kernel_rfl) (by kernel_rfl) (by kernel_rfl) (by kernel_rfl) (fun _ _ d _ _ h => by cases d <;> exact h) (fun o ho => ?_)
                simp only [List.getElem?_toArray, List.getElem?_cons_zero, List.getElem?_cons_succ, Option.some.injEq] at ho; subst ho
                apply Exists.intro
                refine ⟨Or.inl ⟨by kernel_rfl, fun w' hl => Or.inl ?_⟩, ?_⟩
                · (go_simp; try with_reducible rfl)
                simp only [Act.put, List.setIfInBounds_toArray, List.set_cons_zero, List.set_cons_succ]
                refine late_take 2 (by kernel_rfl) (by kernel_rfl) (by kernel_rfl) (by kernel_rfl) (by kernel_rfl) (fun _ _ d _ _ h => by cases d <;> exact h) (fun o ho => ?_)
                simp only [List.getElem?_toArray, List.getElem?_cons_zero, List.getElem?_cons_succ, Option.some.injEq] at ho; subst ho
                apply Exists.intro
                refine ⟨Or.inl ⟨by kernel_rfl, fun w' hl => Or.inl ?_⟩, ?_⟩
                · (go_simp; try with_reducible rfl)
                simp only [Act.put, List.setIfInBounds_toArray, List.set_cons_zero, List.set_cons_succ]
                refine late_take 7 (by kernel_rfl) (by kernel_rfl) (by kernel_rfl) (by kernel_rfl) (by kernel_rfl) (fun _ _ d _ _ h => by cases d <;> exact h) (fun o ho => ?_)
                simp only [List.getElem?_toArray, List.getElem?_cons_zero, List.getElem?_cons_succ, Option.some.injEq] at ho; subst ho
                apply Exists.intro
                refine ⟨Or.inl ⟨by kernel_rfl, fun w' hl => Or.inl ?_⟩, ?_⟩
                · (go_simp; try with_reducible rfl)
                simp only [Act.put, List.setIfInBounds_toArray, List.set_cons_zero, List.set_cons_succ]
                refine late_takeD 12 [13, 14, 15, 16] (by kernel_rfl) (by kernel_rfl) (by kernel_rfl) (by kernel_rfl) (by kernel_rfl) (fun _ _ d _ _ h => by cases d <;> exact h) (fun o ho => ?_)
                simp only [List.getElem?_toArray, List.getElem?_cons_zero, List.getElem?_cons_succ, Option.some.injEq] at ho; subst ho
                apply Exists.intro
                refine ⟨Or.inl ⟨by kernel_rfl, fun w' hl => Or.inl ?_⟩, ?_⟩
                · (go_simp; try with_reducible rfl)
                simp only [Act.put, List.setIfInBounds_toArray, List.set_cons_zero, List.set_cons_succ]
                refine late_takeD 13 [14, 15, 16] (by kernel_rfl) (by kernel_rfl) (by kernel_rfl) (by kernel_rfl) (by kernel_rfl) (fun _ _ d _ _ h => by cases d <;> exact h) (fun o ho => ?_)
                simp only [List.getElem?_toArray, List.getElem?_cons_zero, List.getElem?_cons_succ, Option.some.injEq] at ho; subst ho
                apply Exists.intro
                refine ⟨Or.inl ⟨by kernel_rfl, fun w' hl => Or.inl ?_⟩, ?_⟩
                · (go_simp; try with_reducible rfl)
                simp only [Act.put, List.setIfInBounds_toArray, List.set_cons_zero, List.set_cons_succ]
                refine late_takeD 14 [15, 16] (by kernel_rfl) (by kernel_rfl) (by kernel_rfl) (by kernel_rfl) (by kernel_rfl) (fun _ _ d _ _ h => by cases d <;> exact h) (fun o ho => ?_)
                simp only [List.getElem?_toArray, List.getElem?_cons_zero, List.getElem?_cons_succ, Option.some.injEq] at ho; subst ho
                apply Exists.intro
                refine ⟨Or.inl ⟨by kernel_rfl, fun w' hl => Or.inl ?_⟩, ?_⟩
                · (go_simp; try with_reducible rfl)
                simp only [Act.put, List.setIfInBounds_toArray, List.set_cons_zero, List.set_cons_succ]
                refine late_one 3 (by kernel_rfl) (by kernel_rfl) (fun o ho => ?_)
                simp only [List.getElem?_toArray, List.getElem?_cons_zero, List.getElem?_cons_succ, Option.some.injEq] at ho; subst ho
                refine ⟨by kernel_rfl, fun wn hl K hK => ?_⟩
                have HR := Lib.hid (HR.out.later hl); have HK := Lib.hid (HK.out.trans (Kb.of_call b hl)); clear hl
                refine wp_enter _ _ (by go_simp; exact ⟨rfl, rfl⟩) ?_
                refine (sqof_any _ _ _).mono ?_; rintro e wm ⟨rfl, rfl⟩; refine ⟨_, rfl, ?_⟩
                rw [HOk.out, HG.out]
                refine hK.out _ _ (Later.refl _) ?_
                clear hK K
                simp only [Act.put, List.setIfInBounds_toArray, List.set_cons_zero, List.set_cons_succ]
                refine late_take 4 (by kernel_rfl) (by kernel_rfl) (by kernel_rfl) (by kernel_rfl) (by kernel_rfl) (fun _ _ d _ _ h => by cases d <;> exact h) (fun o ho => ?_)
                simp only [List.getElem?_toArray, List.getElem?_cons_zero, List.getElem?_cons_succ, Option.some.injEq] at ho; subst ho
                apply Exists.intro
                refine ⟨Or.inl ⟨by kernel_rfl, fun w' hl => Or.inl ?_⟩, ?_⟩
                · (go_simp; try with_reducible rfl)
                simp only [Act.put, List.setIfInBounds_toArray, List.set_cons_zero, List.set_cons_succ]
                refine late_take 5 (by kernel_rfl) (by kernel_rfl) (by kernel_rfl) (by kernel_rfl) (by kernel_rfl) (fun _ _ d _ _ h => by cases d <;> exact h) (fun o ho => ?_)
                simp only [List.getElem?_toArray, List.getElem?_cons_zero, List.getElem?_cons_succ, Option.some.injEq] at ho; subst ho
                apply Exists.intro
                refine ⟨Or.inl ⟨by kernel_rfl, fun w' hl => Or.inl ?_⟩, ?_⟩
                · (go_simp; try with_reducible rfl)
                simp only [Act.put, List.setIfInBounds_toArray, List.set_cons_zero, List.set_cons_succ]
                refine late_one 6 (by kernel_rfl) (by kernel_rfl) (fun o ho => ?_)
                simp only [List.getElem?_toArray, List.getElem?_cons_zero, List.getElem?_cons_succ, Option.some.injEq] at ho; subst ho
                refine ⟨by kernel_rfl, fun wn hl K hK => ?_⟩
                have HR := Lib.hid (HR.out.later hl); have HK := Lib.hid (HK.out.trans (Kb.of_call b hl)); clear hl
                refine wp_enter _ _ (by go_simp; exact ⟨rfl, rfl⟩) ?_
                refine (mustI_yes _ _).mono ?_; rintro e wm ⟨rfl, rfl⟩; refine ⟨_, rfl, ?_⟩
                refine hK.out _ _ (Later.refl _) ?_
                clear hK K
                simp only [Act.put, List.setIfInBounds_toArray, List.set_cons_zero, List.set_cons_succ]
                refine late_one 8 (by kernel_rfl) (by kernel_rfl) (fun o ho => ?_)
                simp only [List.getElem?_toArray, List.getElem?_cons_zero, List.getElem?_cons_succ, Option.some.injEq] at ho; subst ho
                refine ⟨by kernel_rfl, fun wn hl K hK => ?_⟩
                have HR := Lib.hid (HR.out.later hl); have HK := Lib.hid (HK.out.trans (Kb.of_call b hl)); clear hl
                refine wp_enter _ _ (by go_simp; exact ⟨rfl, rfl⟩) ?_
                refine (prs_any t _).mono ?_; rintro e wm ⟨rfl, rfl⟩; refine ⟨_, rfl, ?_⟩
                rw [HBo.out, HZ.out]
                refine hK.out _ _ (Later.refl _) ?_
                clear hK K
                simp only [Act.put, List.setIfInBounds_toArray, List.set_cons_zero, List.set_cons_succ]
                refine late_take 9 (by kernel_rfl) (by kernel_rfl) (by kernel_rfl) (by kernel_rfl) (by kernel_rfl) (fun _ _ d _ _ h => by cases d <;> exact h) (fun o ho => ?_)
                simp only [List.getElem?_toArray, List.getElem?_cons_zero, List.getElem?_cons_succ, Option.some.injEq] at ho; subst ho
                apply Exists.intro
                refine ⟨Or.inl ⟨by kernel_rfl, fun w' hl => Or.inl ?_⟩, ?_⟩
                · (go_simp; try with_reducible rfl)
                simp only [Act.put, List.setIfInBounds_toArray, List.set_cons_zero, List.set_cons_succ]
                refine late_take 10 (by kernel_rfl) (by kernel_rfl) (by kernel_rfl) (by kernel_rfl) (by kernel_rfl) (fun _ _ d _ _ h => by cases d <;> exact h) (fun o ho => ?_)
                simp only [List.getElem?_toArray, List.getElem?_cons_zero, List.getElem?_cons_succ, Option.some.injEq] at ho; subst ho
                apply Exists.intro
                refine ⟨Or.inl ⟨by kernel_rfl, fun w' hl => Or.inl ?_⟩, ?_⟩
                · (go_simp; try with_reducible rfl)
                simp only [Act.put, List.setIfInBounds_toArray, List.set_cons_zero, List.set_cons_succ]
                refine late_one 11 (by kernel_rfl) (by kernel_rfl) (fun o ho => ?_)
                simp only [List.getElem?_toArray, List.getElem?_cons_zero, List.getElem?_cons_succ, Option.some.injEq] at ho; subst ho
                refine ⟨by kernel_rfl, fun wn hl K hK => ?_⟩
                have HR := Lib.hid (HR.out.later hl); have HK := Lib.hid (HK.out.trans (Kb.of_call b hl)); clear hl
                refine wp_enter _ _ (by go_simp; exact ⟨rfl, rfl⟩) ?_
                refine (mustU_yes _ _).mono ?_; rintro e wm ⟨rfl, rfl⟩; refine ⟨_, rfl, ?_⟩
                refine hK.out _ _ (Later.refl _) ?_
                clear hK K
                simp only [Act.put, List.setIfInBounds_toArray, List.set_cons_zero, List.set_cons_succ]
                refine late_take 15 (by kernel_rfl) (by kernel_rfl) (by kernel_rfl) (by kernel_rfl) (by kernel_rfl) (fun _ _ d _ _ h => by cases d <;> exact h) (fun o ho => ?_)
                simp only [List.getElem?_toArray, List.getElem?_cons_zero, List.getElem?_cons_succ, Option.some.injEq] at ho; subst ho
                refine ⟨.pointer (some ⟨b, 1 + g, none⟩), Or.inl ⟨by kernel_rfl, fun w' hl => Or.inl ?_⟩, ?_⟩
                · (go_simp; first | done | (with_reducible rfl) | (intro hbad; exfalso; omega))
                simp only [Act.put, List.setIfInBounds_toArray, List.set_cons_zero, List.set_cons_succ]
                refine late_last 16 (by kernel_rfl) (by kernel_rfl) (by kernel_rfl) (fun o ho => ?_)
                simp only [List.getElem?_toArray, List.getElem?_cons_zero, List.getElem?_cons_succ, Option.some.injEq] at ho; subst ho
                refine ⟨by kernel_rfl, fun wn hl K hK => ?_⟩
                have HR := Lib.hid (HR.out.later hl); have HK := Lib.hid (HK.out.trans (Kb.of_call b hl)); clear hl
                refine late_put 5 _ _ rfl b (1 + g) rfl .u8 z rfl q s HR.out (by have := HG64.out; omega) (kAt_board (Nat.zero_le _) HG64.out) size5 ?_; intro wm hr hk
                have HR := Lib.hid hr; have HK := Lib.hid (HK.out.trans hk); clear hr hk
                refine hK.out _ _ ?_
                clear hK K
                simp only [Act.put, List.setIfInBounds_toArray, List.set_cons_zero, List.set_cons_succ]
                go_wp2_with fail
                go_roundw
                case rel => exact ⟨k + 1, f + 1, upd q (1 + g) z, by have := HKn.out; omega, by go_num, by first | rw [HWf.out] | rfl, by omega, by have := HF8.out; omega, HR.out, HQ.out.put (by have := HG64.out; omega) HZr.out, HE.out, HK.out⟩
                case measure => simp [intOf]; have := HKn.out; omega
          · have h23 : (decide (49 ≤ x.toNat) && decide (x.toNat ≤ 56)) = true := by rw [decide_eq_true (show 49 ≤ x.toNat by omega), decide_eq_true (show x.toNat ≤ 56 by omega)]; rfl
            have HN := Lib.hid (digit_n (x := x) (by omega) (by omega))
            obtain ⟨v, hv⟩ : ∃ v, (x.toNat : Int) - 48 = v := ⟨_, rfl⟩
            have hvr : 1 ≤ v ∧ v ≤ 8 := by omega
            have HVr := Lib.hid hvr
            rw [hv] at HN
            have HE := Lib.hid (HSome.out (f + v) q (by rw [hst, h1, h23, hv]; rfl))
            have HWf := Lib.hid (show wrap64 (f + v) = f + v from IntWalk.wrap64_in _ ⟨by omega, by omega⟩)
            by_cases h4 : x.toNat < 56
            · have gB : Op.bytesLess t.toList [56] = true := by rw [hxb]; exact decide_eq_true h4
              clear h2 h3 h4
              clear hst hxl hxb h1 h23 HSome HNone hv hvr
              go_wp2_with (go_at_call 90; refine (HTt.out ▸ number_any [x] _ (show (1 : Nat) ≤ 10000 by decide) (HT.out.kept HK.out HBn.out)).mono ?_; rintro e w2 ⟨hv, hb9⟩; rw [HN.out] at hv; obtain rfl := hv; have HR := Lib.hid (HR.out.later hb9); have HK := Lib.hid (HK.out.trans (Kb.of_call b hb9)); clear hb9)
              go_roundw
              case rel => exact ⟨k + 1, f + v, q, by have := HKn.out; omega, by go_num, by rw [HWf.out], by have := HVr.out; omega, by have := HVr.out; have := HF8.out; omega, HR.out, HQ.out, HE.out, HK.out⟩
              case measure => simp [intOf]; have := HKn.out; omega
            · have gB : Op.bytesLess t.toList [56] = false := by rw [hxb]; exact decide_eq_false h4
              have gC : (t.toList == [56]) = true := by
                rw [hxl]
                have : x = 56 := UInt8.toNat_inj.1 (show x.toNat = 56 by omega)
                rw [this]; rfl
              clear h2 h3 h4
              clear hst hxl hxb h1 h23 HSome HNone hv hvr
              go_wp2_with (go_at_call 90; refine (HTt.out ▸ number_any [x] _ (show (1 : Nat) ≤ 10000 by decide) (HT.out.kept HK.out HBn.out)).mono ?_; rintro e w2 ⟨hv, hb9⟩; rw [HN.out] at hv; obtain rfl := hv; have HR := Lib.hid (HR.out.later hb9); have HK := Lib.hid (HK.out.trans (Kb.of_call b hb9)); clear hb9)
              go_roundw
              case rel => exact ⟨k + 1, f + v, q, by have := HKn.out; omega, by go_num, by rw [HWf.out], by have := HVr.out; omega, by have := HVr.out; have := HF8.out; omega, HR.out, HQ.out, HE.out, HK.out⟩
              case measure => simp [intOf]; have := HKn.out; omega
      · have g1 : (t.toList == [126]) = true := by rw [hxl]; simpa using h1
        obtain ⟨m, hm⟩ : ∃ m : Nat, q 65 = (m : Int) := ⟨(q 65).toNat, (Int.toNat_of_nonneg HQ.out.prom.1).symm⟩
        have HM := Lib.hid hm
        have HMl := Lib.hid (show m < W64 by have := HQ.out.prom.2; rw [hm] at this; exact this)
        have HWg := Lib.hid (show IntKind.i64.wrap (f - 1) = f - 1 by rw [IntKind.wrap_i64]; omega)
        cases h4 : ofOk (f - 1) (r : Int)
        · have HOk := Lib.hid h4
          have HE := Lib.hid (HNone.out (by rw [hst, h1, h4]; rfl))
          clear hst hxl hxb h1 h4 HSome HNone hm
          go_wp2_with fail
          refine late_begin 17 HFm.out ?_
          refine late_take 0 (by kernel_rfl) (by kernel_rfl) (by kernel_rfl) (by kernel_rfl) (by kernel_rfl) (fun _ _ d _ _ h => by cases d <;> exact h) (fun o ho => ?_)
          simp only [List.getElem?_toArray, List.getElem?_cons_zero, List.getElem?_cons_succ, Option.some.injEq] at ho; subst ho
          apply Exists.intro
          refine ⟨Or.inl ⟨by kernel_rfl, fun w' hl => Or.inl ?_⟩, ?_⟩
          · (go_simp; try with_reducible rfl)
          simp only [Act.put, List.setIfInBounds_toArray, List.set_cons_zero, List.set_cons_succ]
          refine late_take 1 (by kernel_rfl) (by kernel_rfl) (by kernel_rfl) (by kernel_rfl) (by kernel_rfl) (fun _ _ d _ _ h => by cases d <;> exact h) (fun o ho => ?_)
          simp only [List.getElem?_toArray, List.getElem?_cons_zero, List.getElem?_cons_succ, Option.some.injEq] at ho; subst ho
          apply Exists.intro
          refine ⟨Or.inl ⟨by kernel_rfl, fun w' hl => Or.inl ?_⟩, ?_⟩
          · (go_simp; try with_reducible rfl)
          simp only [Act.put, List.setIfInBounds_toArray, List.set_cons_zero, List.set_cons_succ]
          refine late_take 2 (by kernel_rfl) (by kernel_rfl) (by kernel_rfl) (by kernel_rfl) (by kernel_rfl) (fun _ _ d _ _ h => by cases d <;> exact h) (fun o ho => ?_)
          simp only [List.getElem?_toArray, List.getElem?_cons_zero, List.getElem?_cons_succ, Option.some.injEq] at ho; subst ho
          apply Exists.intro
          refine ⟨Or.inl ⟨by kernel_rfl, fun w' hl => Or.inl ?_⟩, ?_⟩
          · (go_simp; try with_reducible rfl)
          simp only [Act.put, List.setIfInBounds_toArray, List.set_cons_zero, List.set_cons_succ]
          refine late_take 3 (by kernel_rfl) (by kernel_rfl) (by kernel_rfl) (by kernel_rfl) (by kernel_rfl) (fun _ _ d _ _ h => by cases d <;> exact h) (fun o ho => ?_)
          simp only [List.getElem?_toArray, List.getElem?_cons_zero, List.getElem?_cons_succ, Option.some.injEq] at ho; subst ho
          apply Exists.intro
          refine ⟨Or.inl ⟨by kernel_rfl, fun w' hl => Or.inl ?_⟩, ?_⟩
          · (go_simp; try with_reducible rfl)
          simp only [Act.put, List.setIfInBounds_toArray, List.set_cons_zero, List.set_cons_succ]
          refine late_take 4 (by kernel_rfl) (by kernel_rfl) (by kernel_rfl) (by kernel_rfl) (by kernel_rfl) (fun _ _ d _ _ h => by cases d <;> exact h) (fun o ho => ?_)
          simp only [List.getElem?_toArray, List.getElem?_cons_zero, List.getElem?_cons_succ, Option.some.injEq] at ho; subst ho
          refine ⟨.int .u64 (m : Int), Or.inl ⟨by kernel_rfl, fun w' hl => Or.inl (run_get 23 _ rfl b 65 rfl Tryz.underlying23 rfl (.int .u64 (m : Int)) (by rw [(HR.out.later hl).cell (i := 65) (by decide), show kAt 65 = .u64 from rfl, HM.out]))⟩, ?_⟩
          simp only [Act.put, List.setIfInBounds_toArray, List.set_cons_zero, List.set_cons_succ]
          refine late_take 5 (by kernel_rfl) (by kernel_rfl) (by kernel_rfl) (by kernel_rfl) (by kernel_rfl) (fun _ _ d _ _ h => by cases d <;> exact h) (fun o ho => ?_)
          simp only [List.getElem?_toArray, List.getElem?_cons_zero, List.getElem?_cons_succ, Option.some.injEq] at ho; subst ho
          apply Exists.intro
          refine ⟨Or.inl ⟨by kernel_rfl, fun w' hl => Or.inl ?_⟩, ?_⟩
          · (go_simp; try with_reducible rfl)
          simp only [Act.put, List.setIfInBounds_toArray, List.set_cons_zero, List.set_cons_succ]
          refine late_take 6 (by kernel_rfl) (by kernel_rfl) (by kernel_rfl) (by kernel_rfl) (by kernel_rfl) (fun _ _ d _ _ h => by cases d <;> exact h) (fun o ho => ?_)
          simp only [List.getElem?_toArray, List.getElem?_cons_zero, List.getElem?_cons_succ, Option.some.injEq] at ho; subst ho
          refine ⟨.int .i64 (f - 1), Or.inl ⟨by kernel_rfl, fun w' hl => Or.inl ?_⟩, ?_⟩
          · (go_simp; first | done | rw [HWg.out])
          simp only [Act.put, List.setIfInBounds_toArray, List.set_cons_zero, List.set_cons_succ]
          refine late_take 7 (by kernel_rfl) (by kernel_rfl) (by kernel_rfl) (by kernel_rfl) (by kernel_rfl) (fun _ _ d _ _ h => by cases d <;> exact h) (fun o ho => ?_)
          simp only [List.getElem?_toArray, List.getElem?_cons_zero, List.getElem?_cons_succ, Option.some.injEq] at ho; subst ho
          apply Exists.intro
          refine ⟨Or.inl ⟨by kernel_rfl, fun w' hl => Or.inl ?_⟩, ?_⟩
          · (go_simp; try with_reducible rfl)
          simp only [Act.put, List.setIfInBounds_toArray, List.set_cons_zero, List.set_cons_succ]
          refine late_one 8 (by kernel_rfl) (by kernel_rfl) (fun o ho => ?_)
          simp only [List.getElem?_toArray, List.getElem?_cons_zero, List.getElem?_cons_succ, Option.some.injEq] at ho; subst ho
          refine ⟨by kernel_rfl, fun wn hl K hK => ?_⟩
          have HR := Lib.hid (HR.out.later hl); have HK := Lib.hid (HK.out.trans (Kb.of_call b hl)); clear hl
          refine wp_enter _ _ (by go_simp; exact ⟨rfl, rfl⟩) ?_
          refine (sqof_any _ _ _).mono ?_; rintro e wm ⟨rfl, rfl⟩; refine ⟨_, rfl, ?_⟩
          rw [HOk.out]
          refine hK.out _ _ (Later.refl _) ?_
          clear hK K
          simp only [Act.put, List.setIfInBounds_toArray, List.set_cons_zero, List.set_cons_succ]
          refine late_take 9 (by kernel_rfl) (by kernel_rfl) (by kernel_rfl) (by kernel_rfl) (by kernel_rfl) (fun _ _ d _ _ h => by cases d <;> exact h) (fun o ho => ?_)
          simp only [List.getElem?_toArray, List.getElem?_cons_zero, List.getElem?_cons_succ, Option.some.injEq] at ho; subst ho
          apply Exists.intro
          refine ⟨Or.inl ⟨by kernel_rfl, fun w' hl => Or.inl ?_⟩, ?_⟩
          · (go_simp; try with_reducible rfl)
          simp only [Act.put, List.setIfInBounds_toArray, List.set_cons_zero, List.set_cons_succ]
          refine late_take 10 (by kernel_rfl) (by kernel_rfl) (by kernel_rfl) (by kernel_rfl) (by kernel_rfl) (fun _ _ d _ _ h => by cases d <;> exact h) (fun o ho => ?_)
          simp only [List.getElem?_toArray, List.getElem?_cons_zero, List.getElem?_cons_succ, Option.some.injEq] at ho; subst ho
          apply Exists.intro
          refine ⟨Or.inl ⟨by kernel_rfl, fun w' hl => Or.inl ?_⟩, ?_⟩
          · (go_simp; try with_reducible rfl)
          simp only [Act.put, List.setIfInBounds_toArray, List.set_cons_zero, List.set_cons_succ]
          refine late_one 11 (by kernel_rfl) (by kernel_rfl) (fun o ho => ?_)
          simp only [List.getElem?_toArray, List.getElem?_cons_zero, List.getElem?_cons_succ, Option.some.injEq] at ho; subst ho
          refine ⟨by kernel_rfl, fun wn hl K hK => ?_⟩
          have HR := Lib.hid (HR.out.later hl); have HK := Lib.hid (HK.out.trans (Kb.of_call b hl)); clear hl
          refine wp_throw _ _ (by go_simp; exact ⟨rfl, rfl⟩) ?_
          refine (mustI_no _ _).mono ?_; rintro e wm ⟨⟨u, pv, rfl⟩, rfl⟩; refine ⟨_, rfl, ?_⟩
          go_wp2_with fail
          rw [HE.out]
          exact ⟨rfl, ⟨_, _, rfl⟩, HK.out⟩
        · have HOk := Lib.hid h4
          obtain ⟨g, hg⟩ : ∃ g : Nat, ofZ (f - 1) (r : Int) = (g : Int) := ⟨(ofZ (f - 1) (r : Int)).toNat, (Int.toNat_of_nonneg (ofZ_rng _ _).1).symm⟩
          have HG := Lib.hid hg
          have HG64 := Lib.hid (show g < 64 by have := (ofZ_rng (f - 1) (r : Int)).2; omega)
          have g0 : (0 : Int) ≤ (g : Int) := by omega
          have g64 : (g : Int) < 64 := by have := HG64.out; omega
          have HE := Lib.hid (HSome.out f (upd q 65 ((putN m (g : Int) : Nat) : Int)) (by rw [hst, h1, h4, hg, hm, Int.toNat_natCast]; rfl))
          have HPt := Lib.hid (or_put HMl.out HG64.out)
          clear hst hxl hxb h1 h4 HSome HNone hm hg
          go_wp2_with fail
          refine late_begin 17 HFm.out ?_
          refine late_take 0 (by kernel_rfl) (by kernel_rfl) (by kernel_rfl) (by kernel_rfl) (by kernel_rfl) (fun _ _ d _ _ h => by cases d <;> exact h) (fun o ho => ?_)
          simp only [List.getElem?_toArray, List.getElem?_cons_zero, List.getElem?_cons_succ, Option.some.injEq] at ho; subst ho
          apply Exists.intro
          refine ⟨Or.inl ⟨by kernel_rfl, fun w' hl => Or.inl ?_⟩, ?_⟩
          · (go_simp; try with_reducible rfl)
          simp only [Act.put, List.setIfInBounds_toArray, List.set_cons_zero, List.set_cons_succ]
          refine late_take 1 (by kernel_rfl) (by kernel_rfl) (by kernel_rfl) (by kernel_rfl) (by kernel_rfl) (fun _ _ d _ _ h => by cases d <;> exact h) (fun o ho => ?_)
          simp only [List.getElem?_toArray, List.getElem?_cons_zero, List.getElem?_cons_succ, Option.some.injEq] at ho; subst ho
          apply Exists.intro
          refine ⟨Or.inl ⟨by kernel_rfl, fun w' hl => Or.inl ?_⟩, ?_⟩
          · (go_simp; try with_reducible rfl)
          simp only [Act.put, List.setIfInBounds_toArray, List.set_cons_zero, List.set_cons_succ]
          refine late_take 2 (by kernel_rfl) (by kernel_rfl) (by kernel_rfl) (by kernel_rfl) (by kernel_rfl) (fun _ _ d _ _ h => by cases d <;> exact h) (fun o ho => ?_)
          simp only [List.getElem?_toArray, List.getElem?_cons_zero, List.getElem?_cons_succ, Option.some.injEq] at ho; subst ho
          apply Exists.intro
          refine ⟨Or.inl ⟨by kernel_rfl, fun w' hl => Or.inl ?_⟩, ?_⟩
          · (go_simp; try with_reducible rfl)
          simp only [Act.put, List.setIfInBounds_toArray, List.set_cons_zero, List.set_cons_succ]
          refine late_take 3 (by kernel_rfl) (by kernel_rfl) (by kernel_rfl) (by kernel_rfl) (by kernel_rfl) (fun _ _ d _ _ h => by cases d <;> exact h) (fun o ho => ?_)
          simp only [List.getElem?_toArray, List.getElem?_cons_zero, List.getElem?_cons_succ, Option.some.injEq] at ho; subst ho
          apply Exists.intro
          refine ⟨Or.inl ⟨by kernel_rfl, fun w' hl => Or.inl ?_⟩, ?_⟩
          · (go_simp; try with_reducible rfl)
          simp only [Act.put, List.setIfInBounds_toArray, List.set_cons_zero, List.set_cons_succ]
          refine late_take 4 (by kernel_rfl) (by kernel_rfl) (by kernel_rfl) (by kernel_rfl) (by kernel_rfl) (fun _ _ d _ _ h => by cases d <;> exact h) (fun o ho => ?_)
          simp only [List.getElem?_toArray, List.getElem?_cons_zero, List.getElem?_cons_succ, Option.some.injEq] at ho; subst ho
          refine ⟨.int .u64 (m : Int), Or.inl ⟨by kernel_rfl, fun w' hl => Or.inl (run_get 23 _ rfl b 65 rfl Tryz.underlying23 rfl (.int .u64 (m : Int)) (by rw [(HR.out.later hl).cell (i := 65) (by decide), show kAt 65 = .u64 from rfl, HM.out]))⟩, ?_⟩
          simp only [Act.put, List.setIfInBounds_toArray, List.set_cons_zero, List.set_cons_succ]
          refine late_take 5 (by kernel_rfl) (by kernel_rfl) (by kernel_rfl) (by kernel_rfl) (by kernel_rfl) (fun _ _ d _ _ h => by cases d <;> exact h) (fun o ho => ?_)
          simp only [List.getElem?_toArray, List.getElem?_cons_zero, List.getElem?_cons_succ, Option.some.injEq] at ho; subst ho
          apply Exists.intro
          refine ⟨Or.inl ⟨by kernel_rfl, fun w' hl => Or.inl ?_⟩, ?_⟩
          · (go_simp; try with_reducible rfl)
          simp only [Act.put, List.setIfInBounds_toArray, List.set_cons_zero, List.set_cons_succ]
          refine late_take 6 (by kernel_rfl) (by kernel_rfl) (by kernel_rfl) (by kernel_rfl) (by kernel_rfl) (fun _ _ d _ _ h => by cases d <;> exact h) (fun o ho => ?_)
          simp only [List.getElem?_toArray, List.getElem?_cons_zero, List.getElem?_cons_succ, Option.some.injEq] at ho; subst ho
          refine ⟨.int .i64 (f - 1), Or.inl ⟨by kernel_rfl, fun w' hl => Or.inl ?_⟩, ?_⟩
          · (go_simp; first | done | rw [HWg.out])
          simp only [Act.put, List.setIfInBounds_toArray, List.set_cons_zero, List.set_cons_succ]
          refine late_take 7 (by kernel_rfl) (by kernel_rfl) (by kernel_rfl) (by kernel_rfl) (by kernel_rfl) (fun _ _ d _ _ h => by cases d <;> exact h) (fun o ho => ?_)
          simp only [List.getElem?_toArray, List.getElem?_cons_zero, List.getElem?_cons_succ, Option.some.injEq] at ho; subst ho
          apply Exists.intro
          refine ⟨Or.inl ⟨by kernel_rfl, fun w' hl => Or.inl ?_⟩, ?_⟩
          · (go_simp; try with_reducible rfl)
          simp only [Act.put, List.setIfInBounds_toArray, List.set_cons_zero, List.set_cons_succ]
          refine late_one 8 (by kernel_rfl) (by kernel_rfl) (fun o ho => ?_)
          simp only [List.getElem?_toArray, List.getElem?_cons_zero, List.getElem?_cons_succ, Option.some.injEq] at ho; subst ho
          refine ⟨by kernel_rfl, fun wn hl K hK => ?_⟩
          have HR := Lib.hid (HR.out.later hl); have HK := Lib.hid (HK.out.trans (Kb.of_call b hl)); clear hl
          refine wp_enter _ _ (by go_simp; exact ⟨rfl, rfl⟩) ?_
          refine (sqof_any _ _ _).mono ?_; rintro e wm ⟨rfl, rfl⟩; refine ⟨_, rfl, ?_⟩
          rw [HOk.out, HG.out]
          refine hK.out _ _ (Later.refl _) ?_
          clear hK K
          simp only [Act.put, List.setIfInBounds_toArray, List.set_cons_zero, List.set_cons_succ]
          refine late_take 9 (by kernel_rfl) (by kernel_rfl) (by kernel_rfl) (by kernel_rfl) (by kernel_rfl) (fun _ _ d _ _ h => by cases d <;> exact h) (fun o ho => ?_)
          simp only [List.getElem?_toArray, List.getElem?_cons_zero, List.getElem?_cons_succ, Option.some.injEq] at ho; subst ho
          apply Exists.intro
          refine ⟨Or.inl ⟨by kernel_rfl, fun w' hl => Or.inl ?_⟩, ?_⟩
          · (go_simp; try with_reducible rfl)
          simp only [Act.put, List.setIfInBounds_toArray, List.set_cons_zero, List.set_cons_succ]
          refine late_take 10 (by kernel_rfl) (by kernel_rfl) (by kernel_rfl) (by kernel_rfl) (by kernel_rfl) (fun _ _ d _ _ h => by cases d <;> exact h) (fun o ho => ?_)
          simp only [List.getElem?_toArray, List.getElem?_cons_zero, List.getElem?_cons_succ, Option.some.injEq] at ho; subst ho
          apply Exists.intro
          refine ⟨Or.inl ⟨by kernel_rfl, fun w' hl => Or.inl ?_⟩, ?_⟩
          · (go_simp; try with_reducible rfl)
          simp only [Act.put, List.setIfInBounds_toArray, List.set_cons_zero, List.set_cons_succ]
          refine late_one 11 (by kernel_rfl) (by kernel_rfl) (fun o ho => ?_)
          simp only [List.getElem?_toArray, List.getElem?_cons_zero, List.getElem?_cons_succ, Option.some.injEq] at ho; subst ho
          refine ⟨by kernel_rfl, fun wn hl K hK => ?_⟩
          have HR := Lib.hid (HR.out.later hl); have HK := Lib.hid (HK.out.trans (Kb.of_call b hl)); clear hl
          refine wp_enter _ _ (by go_simp; exact ⟨rfl, rfl⟩) ?_
          refine (mustI_yes _ _).mono ?_; rintro e wm ⟨rfl, rfl⟩; refine ⟨_, rfl, ?_⟩
          refine hK.out _ _ (Later.refl _) ?_
          clear hK K
          simp only [Act.put, List.setIfInBounds_toArray, List.set_cons_zero, List.set_cons_succ]
          refine late_take 12 (by kernel_rfl) (by kernel_rfl) (by kernel_rfl) (by kernel_rfl) (by kernel_rfl) (fun _ _ d _ _ h => by cases d <;> exact h) (fun o ho => ?_)
          simp only [List.getElem?_toArray, List.getElem?_cons_zero, List.getElem?_cons_succ, Option.some.injEq] at ho; subst ho
          apply Exists.intro
          refine ⟨Or.inl ⟨by kernel_rfl, fun w' hl => Or.inl ?_⟩, ?_⟩
          · (go_simp; try with_reducible rfl)
          simp only [Act.put, List.setIfInBounds_toArray, List.set_cons_zero, List.set_cons_succ]
          refine late_take 13 (by kernel_rfl) (by kernel_rfl) (by kernel_rfl) (by kernel_rfl) (by kernel_rfl) (fun _ _ d _ _ h => by cases d <;> exact h) (fun o ho => ?_)
          simp only [List.getElem?_toArray, List.getElem?_cons_zero, List.getElem?_cons_succ, Option.some.injEq] at ho; subst ho
          apply Exists.intro
          refine ⟨Or.inl ⟨by kernel_rfl, fun w' hl => Or.inl ?_⟩, ?_⟩
          · (go_simp; try with_reducible rfl)
          simp only [Act.put, List.setIfInBounds_toArray, List.set_cons_zero, List.set_cons_succ]
          refine late_takeD 14 [15, 16, 17] (by kernel_rfl) (by kernel_rfl) (by kernel_rfl) (by kernel_rfl) (by kernel_rfl) (fun _ _ d _ _ h => by cases d <;> exact h) (fun o ho => ?_)
          simp only [List.getElem?_toArray, List.getElem?_cons_zero, List.getElem?_cons_succ, Option.some.injEq] at ho; subst ho
          apply Exists.intro
          refine ⟨Or.inl ⟨by kernel_rfl, fun w' hl => Or.inl ?_⟩, ?_⟩
          · (go_simp; try with_reducible rfl)
          simp only [Act.put, List.setIfInBounds_toArray, List.set_cons_zero, List.set_cons_succ]
          refine late_takeD 15 [16, 17] (by kernel_rfl) (by kernel_rfl) (by kernel_rfl) (by kernel_rfl) (by kernel_rfl) (fun _ _ d _ _ h => by cases d <;> exact h) (fun o ho => ?_)
          simp only [List.getElem?_toArray, List.getElem?_cons_zero, List.getElem?_cons_succ, Option.some.injEq] at ho; subst ho
          apply Exists.intro
          refine ⟨Or.inl ⟨by kernel_rfl, fun w' hl => Or.inl ?_⟩, ?_⟩
          · (go_simp; try with_reducible rfl)
          simp only [Act.put, List.setIfInBounds_toArray, List.set_cons_zero, List.set_cons_succ]
          refine late_take 16 (by kernel_rfl) (by kernel_rfl) (by kernel_rfl) (by kernel_rfl) (by kernel_rfl) (fun _ _ d _ _ h => by cases d <;> exact h) (fun o ho => ?_)
          simp only [List.getElem?_toArray, List.getElem?_cons_zero, List.getElem?_cons_succ, Option.some.injEq] at ho; subst ho
          apply Exists.intro
          refine ⟨Or.inl ⟨by kernel_rfl, fun w' hl => Or.inl ?_⟩, ?_⟩
          · (go_simp; try with_reducible rfl)
          simp only [Act.put, List.setIfInBounds_toArray, List.set_cons_zero, List.set_cons_succ]
          refine late_last 17 (by kernel_rfl) (by kernel_rfl) (by kernel_rfl) (fun o ho => ?_)
          simp only [List.getElem?_toArray, List.getElem?_cons_zero, List.getElem?_cons_succ, Option.some.injEq] at ho; subst ho
          refine ⟨by kernel_rfl, fun wn hl K hK => ?_⟩
          have HR := Lib.hid (HR.out.later hl); have HK := Lib.hid (HK.out.trans (Kb.of_call b hl)); clear hl
          refine late_put 23 _ _ rfl b 65 rfl .u64 _ rfl q s HR.out (by decide) rfl (by kernel_rfl) ?_; intro wm hr hk
          rw [HPt.out] at hr
          have HR := Lib.hid hr; have HK := Lib.hid (HK.out.trans hk); clear hr hk
          refine hK.out _ _ ?_
          clear hK K
          simp only [Act.put, List.setIfInBounds_toArray, List.set_cons_zero, List.set_cons_succ]
          go_wp2_with fail
          go_roundw
          case rel => exact ⟨k + 1, f, _, by have := HKn.out; omega, by go_num, rfl, by omega, by have := HF8.out; omega, HR.out, HQ.out.mark (putN_lt HMl.out _), HE.out, HK.out⟩
          case measure => simp [intOf]; have := HKn.out; omega
    · obtain rfl : k = n := by omega
      have lk : ¬ ((k : Int) < (k : Int)) := by omega
      have HDn := Lib.hid (show l.drop k = [] by rw [← HNl.out]; exact List.drop_length)
      cases h8 : (f == 8)
      · have HE := Lib.hid (show o = none by rw [← HO.out]; unfold rdRank; rw [HEq.out, HDn.out, rdRk]; show rkO s (bif f == 8 then some q else none) = none; rw [h8]; rfl)
        go_wp2_with (go_at_call 61; refine (demand_no _).mono ?_; rintro e w' ⟨⟨u, pv, rfl⟩, rfl⟩)
        rw [HE.out]
        exact ⟨rfl, ⟨_, _, rfl⟩, HK.out⟩
      · have HE := Lib.hid (show o = some (q, s) by rw [← HO.out]; unfold rdRank; rw [HEq.out, HDn.out, rdRk]; show rkO s (bif f == 8 then some q else none) = _; rw [h8]; rfl)
        go_wp2_with (go_at_call 61; refine (demand_yes _).mono ?_; rintro e w' ⟨rfl, rfl⟩)
        rw [HE.out]
        go_end0
        exact ⟨rfl, HR.out, HK.out⟩
end Go.Proofs.YtjbfjohgfbipgaaGreatDoor
