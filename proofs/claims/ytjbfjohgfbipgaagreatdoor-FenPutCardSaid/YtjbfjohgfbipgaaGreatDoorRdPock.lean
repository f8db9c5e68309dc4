/-
  Contracts of the reader's pockets, checks (layer 10).
-/
import Derived.Test.YtjbfjohgfbipgaaGreatDoorRdRank
namespace Go.Proofs.YtjbfjohgfbipgaaGreatDoor
open Go.RowKit
set_option linter.unusedVariables false
set_option linter.unusedSimpArgs false

def pkI (z : Int) : Nat := 66 + (colZ z).toNat * 6 + (kndZ z).toNat
def pkSt (x : UInt8) (p : Nat → Int) : Option (Nat → Int) := bif prsB (bz [x]) then (bif kndZ (prsZ (bz [x])) == 6 then none else some (upd p (pkI (prsZ (bz [x]))) (IntKind.u8.wrap (p (pkI (prsZ (bz [x]))) + 1)))) else none
def rdPk : List UInt8 → (Nat → Int) → Option (Nat → Int)
  | [], p => some p
  | x :: l, p => match pkSt x p with
    | none => none
    | some q => rdPk l q
theorem rdPk_some {x : UInt8} {l : List UInt8} {p q : Nat → Int} (h : pkSt x p = some q) : rdPk (x :: l) p = rdPk l q := by rw [rdPk, h]
theorem rdPk_none {x : UInt8} {l : List UInt8} {p : Nat → Int} (h : pkSt x p = none) : rdPk (x :: l) p = none := by rw [rdPk, h]
theorem FitF.pocket {p : Nat → Int} (h : FitF p) {i : Nat} (hi : 66 ≤ i ∧ i < 78) {v : Int} (hv : 0 ≤ v ∧ v ≤ 255) : FitF (upd p i v) := by
  refine ⟨?_, fun j hj => ?_, ?_, fun j h1 h2 => ?_, ?_, fun j h1 h2 => ?_, ?_, fun j h1 h2 => ?_⟩
  · rw [upd_other _ _ _ _ (by omega)]; exact h.var
  · rw [upd_other _ _ _ _ (by omega)]; exact h.bd j hj
  · rw [upd_other _ _ _ _ (by omega)]; exact h.prom
  · by_cases e : j = i
    · rw [e, upd_same]; exact hv
    · rw [upd_other _ _ _ _ e]; exact h.pock j h1 h2
  · rw [upd_other _ _ _ _ (by omega)]; exact h.turn
  · rw [upd_other _ _ _ _ (by omega)]; exact h.rook j h1 h2
  · rw [upd_other _ _ _ _ (by omega)]; exact h.pass
  · rw [upd_other _ _ _ _ (by omega)]; exact h.chk j h1 h2
theorem u8_wrap_rng (v : Int) : 0 ≤ IntKind.u8.wrap v ∧ IntKind.u8.wrap v ≤ 255 := by
  have : IntKind.u8.wrap v = v % 256 := by simp [IntKind.wrap, IntKind.bits, IntKind.signed]
  omega
theorem pc_parts {t : ByteArray} (h : prsB t = true) : ∃ c kn : Nat, c < 2 ∧ 1 ≤ kn ∧ kn ≤ 6 ∧ colZ (prsZ t) = (c : Int) ∧ kndZ (prsZ t) = (kn : Int) ∧ pcB (prsZ t) = true := by
  have key : ∀ n : Fin 256, (byteP n.val != 0) = true → (decide ((colZ (byteP n.val)).toNat < 2) && decide (1 ≤ (kndZ (byteP n.val)).toNat) && decide ((kndZ (byteP n.val)).toNat ≤ 6) && (colZ (byteP n.val) == ((colZ (byteP n.val)).toNat : Int)) && (kndZ (byteP n.val) == ((kndZ (byteP n.val)).toNat : Int)) && pcB (byteP n.val)) = true := by decide +kernel
  unfold prsB at h
  unfold prsZ at h ⊢
  split at h
  · rename_i b hb
    have := key ⟨b.toNat, b.toNat_lt⟩ h
    simp only [Bool.and_eq_true, decide_eq_true_eq, beq_iff_eq] at this
    obtain ⟨⟨⟨⟨⟨h1, h2⟩, h3⟩, h4⟩, h5⟩, h6⟩ := this
    exact ⟨_, _, h1, h2, h3, h4, h5, h6⟩
  · simp at h
set_option maxRecDepth 100000 in
set_option maxHeartbeats 4000000 in
theorem rd_pockets (b : Nat) (l : List UInt8) (p : Nat → Int) (s : List UInt8) (w : World) (hr : RowR w b p s) (hl : l.length ≤ 10000) (hp : FitF p) :
    Calls Tryz.prog 85 #[.pointer (some ⟨b, 0, none⟩), .string (bz l)] w (RdP b (rkO s (rdPk l p)) w) := by
  have HR := Lib.hid hr
  have HP := Lib.hid hp
  have HFm := Lib.hid (by kernel_rfl : Tryz.prog.follows .mixedOrders = true)
  have hsz : (bz l).size = l.length := bz_size l
  have hlen : (l.length : Int) ≤ 10000 := by omega
  obtain ⟨o, ho⟩ : ∃ o, rkO s (rdPk l p) = o := ⟨_, rfl⟩
  have HO := Lib.hid ho
  obtain ⟨n, hn⟩ : ∃ n, l.length = n := ⟨_, rfl⟩
  have HNl := Lib.hid hn
  rw [hn] at hsz hlen
  rw [ho]
  clear hr hl hp hn ho
  go_enter Tryz.func85, Tryz.ntmps85
  go_wp2_with fail
  go_loopw [10] (fun i wr => ∃ (k : Nat) (q : Nat → Int), k ≤ n ∧ i = .int .i64 (k : Int) ∧ RowR wr b q s ∧ FitF q ∧ rdPk l p = rdPk (l.drop k) q ∧ Kb b w wr) (fun i _ => n - (intOf i).toNat)
  case atStart => exact ⟨0, p, by omega, rfl, HR.out, HP.out, rfl, Kb.refl _ _⟩
  case round =>
    obtain ⟨k, q, hk, rfl, hrow, hfit, heq, hkb⟩ := hrel
    have HR := Lib.hid hrow
    have HQ := Lib.hid hfit
    have HK := Lib.hid hkb
    have HEq := Lib.hid heq
    clear hrow hfit heq hkb
    by_cases hkn : k < n
    · have lk : (k : Int) < (n : Int) := by omega
      have k0 : (0 : Int) ≤ (k : Int) := by omega
      have HKn := Lib.hid hkn
      obtain ⟨x, hx⟩ : ∃ x, l[k]? = some x := ⟨_, List.getElem?_eq_getElem (by rw [HNl.out]; exact hkn)⟩
      have hcut := fun w => run_cut l k x hx w
      have HD := Lib.hid (show l.drop k = x :: l.drop (k + 1) by
        have hk' : k < l.length := by rw [HNl.out]; exact hkn
        rw [drop_at hk', (List.getElem?_eq_some_iff.1 hx).2])
      obtain ⟨t, ht⟩ : ∃ t, bz [x] = t := ⟨_, rfl⟩
      rw [ht] at hcut
      have HNone := Lib.hid (fun h : pkSt x q = none => show o = none by rw [← HO.out, HEq.out, HD.out, rdPk_none h]; rfl)
      have HSome := Lib.hid (fun (q' : Nat → Int) (h : pkSt x q = some q') => show rdPk l p = rdPk (l.drop (k + 1)) q' by rw [HEq.out, HD.out, rdPk_some h])
      have hst : pkSt x q = (bif prsB t then (bif kndZ (prsZ t) == 6 then none else some (upd q (pkI (prsZ t)) (IntKind.u8.wrap (q (pkI (prsZ t)) + 1)))) else none) := by unfold pkSt; rw [ht]
      clear hx ht hkn hk
      obtain ⟨z, hz⟩ : ∃ z, prsZ t = z := ⟨_, rfl⟩
      have HZ := Lib.hid hz
      cases h5 : prsB t
      · have HBo := Lib.hid h5
        have HE := Lib.hid (HNone.out (by rw [hst, h5]; rfl))
        clear hst h5 hz
        go_wp2_with (first
          | (go_at_call 113; refine (prs_any t _).mono ?_; rintro e wm ⟨rfl, rfl⟩; rw [HBo.out, HZ.out])
          | (go_at_call 112; refine (mustU_no _ _).mono ?_; rintro e wm ⟨⟨u, pv, rfl⟩, rfl⟩))
        rw [HE.out]
        exact ⟨rfl, ⟨_, _, rfl⟩, HK.out⟩
      · have HBo := Lib.hid h5
        obtain ⟨c, kn, hc2, hk1, hk6, hcz, hkz, hpc⟩ := pc_parts h5
        rw [hz] at hcz hkz hpc
        have hzr := pcB_true.1 hpc
        have HCz := Lib.hid hcz
        have HKz := Lib.hid hkz
        have HZr := Lib.hid (show 0 ≤ z ∧ z ≤ 255 by omega)
        have HC2 := Lib.hid hc2
        have HK6 := Lib.hid hk6
        have c0 : (0 : Int) ≤ (c : Int) := by omega
        have c1 : (c : Int) ≤ 1 := by omega
        have c2 : (c : Int) < 2 := by omega
        have n0 : (0 : Int) ≤ (kn : Int) := by omega
        cases h6 : ((kn : Int) == 6)
        · have hk5 : kn < 6 := by have := no_beq h6; omega
          have n6 : (kn : Int) < 6 := by omega
          have hpk : pkI z = 66 + c * 6 + kn := by unfold pkI; rw [hcz, hkz, Int.toNat_natCast, Int.toNat_natCast]
          obtain ⟨y, hy⟩ : ∃ y, q (66 + c * 6 + kn) = y := ⟨_, rfl⟩
          have HY := Lib.hid hy
          have hyr : 0 ≤ y ∧ y ≤ 255 := by rw [← hy]; exact HQ.out.pock _ (by omega) (by omega)
          have HYr := Lib.hid hyr
          have HE := Lib.hid (HSome.out (upd q (66 + c * 6 + kn) (IntKind.u8.wrap (y + 1))) (by rw [hst, h5, hz, hkz, h6, hpk, hy]; rfl))
          have g6 : ((kn : Int) != 6) = true := by simp; omega
          clear hst h5 hz hcz hkz hpc hzr hpk hy hyr h6
          go_wp2_with (first
            | (go_at_call 113; refine (prs_any t _).mono ?_; rintro e wm ⟨rfl, rfl⟩; rw [HBo.out, HZ.out])
            | (go_at_call 112; refine (mustU_yes _ _).mono ?_; rintro e wm ⟨rfl, rfl⟩)
            | (go_at_call 41; refine (col_any _ _ HZr.out.1 HZr.out.2).mono ?_; rintro e wm ⟨rfl, rfl⟩; rw [HCz.out])
            | (go_at_call 42; refine (knd_any _ _ HZr.out.1 HZr.out.2).mono ?_; rintro e wm ⟨rfl, rfl⟩; rw [HKz.out])
            | (go_at_call 61; refine (demand_yes _).mono ?_; rintro e wm ⟨rfl, rfl⟩))
          refine late_begin 15 HFm.out ?_
          refine late_take 0 (by kernel_rfl) (by kernel_rfl) (by kernel_rfl) (by kernel_rfl) (by kernel_rfl) (fun _ _ d _ _ h => by cases d <;> exact h) (fun o ho => ?_)
          simp only [List.getElem?_toArray, List.getElem?_cons_zero, List.getElem?_cons_succ, Option.some.injEq] at ho; subst ho
          apply Exists.intro
          refine ⟨Or.inl ⟨by kernel_rfl, fun w' hl => Or.inl ?_⟩, ?_⟩
          · (go_simp; try with_reducible rfl)
          simp only [Act.put, List.setIfInBounds_toArray, List.set_cons_zero, List.set_cons_succ]
          refine late_take 1 (by kernel_rfl) (by kernel_rfl) (by kernel_rfl) (by kernel_rfl) (by kernel_rfl) (fun _ _ d _ _ h => by cases d <;> exact h) (fun o ho => ?_)
          simp only [List.getElem?_toArray, List.getElem?_cons_zero, List.getElem?_cons_succ, Option.some.injEq] at ho; subst ho
          apply Exists.intro
          refine ⟨Or.inl ⟨by kernel_rfl, fun w' hl => Or.inl ?_⟩, ?_⟩
          · (go_simp; try with_reducible rfl)
          simp only [Act.put, List.setIfInBounds_toArray, List.set_cons_zero, List.set_cons_succ]
          refine late_take 2 (by kernel_rfl) (by kernel_rfl) (by kernel_rfl) (by kernel_rfl) (by kernel_rfl) (fun _ _ d _ _ h => by cases d <;> exact h) (fun o ho => ?_)
          simp only [List.getElem?_toArray, List.getElem?_cons_zero, List.getElem?_cons_succ, Option.some.injEq] at ho; subst ho
          apply Exists.intro
          refine ⟨Or.inl ⟨by kernel_rfl, fun w' hl => Or.inl ?_⟩, ?_⟩
          · (go_simp; try with_reducible rfl)
          simp only [Act.put, List.setIfInBounds_toArray, List.set_cons_zero, List.set_cons_succ]
          refine late_take 3 (by kernel_rfl) (by kernel_rfl) (by kernel_rfl) (by kernel_rfl) (by kernel_rfl) (fun _ _ d _ _ h => by cases d <;> exact h) (fun o ho => ?_)
          simp only [List.getElem?_toArray, List.getElem?_cons_zero, List.getElem?_cons_succ, Option.some.injEq] at ho; subst ho
          apply Exists.intro
          refine ⟨Or.inl ⟨by kernel_rfl, fun w' hl => Or.inl ?_⟩, ?_⟩
          · (go_simp; try with_reducible rfl)
          simp only [Act.put, List.setIfInBounds_toArray, List.set_cons_zero, List.set_cons_succ]
          refine late_take 4 (by kernel_rfl) (by kernel_rfl) (by kernel_rfl) (by kernel_rfl) (by kernel_rfl) (fun _ _ d _ _ h => by cases d <;> exact h) (fun o ho => ?_)
          simp only [List.getElem?_toArray, List.getElem?_cons_zero, List.getElem?_cons_succ, Option.some.injEq] at ho; subst ho
          apply Exists.intro
          refine ⟨Or.inl ⟨by kernel_rfl, fun w' hl => Or.inl ?_⟩, ?_⟩
          · (go_simp; try with_reducible rfl)
          simp only [Act.put, List.setIfInBounds_toArray, List.set_cons_zero, List.set_cons_succ]
          refine late_take 5 (by kernel_rfl) (by kernel_rfl) (by kernel_rfl) (by kernel_rfl) (by kernel_rfl) (fun _ _ d _ _ h => by cases d <;> exact h) (fun o ho => ?_)
          simp only [List.getElem?_toArray, List.getElem?_cons_zero, List.getElem?_cons_succ, Option.some.injEq] at ho; subst ho
          apply Exists.intro
          refine ⟨Or.inl ⟨by kernel_rfl, fun w' hl => Or.inl ?_⟩, ?_⟩
          · (go_simp; try with_reducible rfl)
          simp only [Act.put, List.setIfInBounds_toArray, List.set_cons_zero, List.set_cons_succ]
          refine late_take 6 (by kernel_rfl) (by kernel_rfl) (by kernel_rfl) (by kernel_rfl) (by kernel_rfl) (fun _ _ d _ _ h => by cases d <;> exact h) (fun o ho => ?_)
          simp only [List.getElem?_toArray, List.getElem?_cons_zero, List.getElem?_cons_succ, Option.some.injEq] at ho; subst ho
          refine ⟨.pointer (some ⟨b, 66 + c * 6, none⟩), Or.inl ⟨by kernel_rfl, fun w' hl => Or.inl ?_⟩, ?_⟩
          · (go_simp; first | done | (with_reducible rfl) | (intro hbad; exfalso; omega))
          simp only [Act.put, List.setIfInBounds_toArray, List.set_cons_zero, List.set_cons_succ]
          refine late_take 7 (by kernel_rfl) (by kernel_rfl) (by kernel_rfl) (by kernel_rfl) (by kernel_rfl) (fun _ _ d _ _ h => by cases d <;> exact h) (fun o ho => ?_)
          simp only [List.getElem?_toArray, List.getElem?_cons_zero, List.getElem?_cons_succ, Option.some.injEq] at ho; subst ho
          refine ⟨.pointer (some ⟨b, 66 + c * 6 + kn, none⟩), Or.inl ⟨by kernel_rfl, fun w' hl => Or.inl ?_⟩, ?_⟩
          · (go_simp; first | done | (with_reducible rfl) | (intro hbad; exfalso; omega))
          simp only [Act.put, List.setIfInBounds_toArray, List.set_cons_zero, List.set_cons_succ]
          refine late_take 8 (by kernel_rfl) (by kernel_rfl) (by kernel_rfl) (by kernel_rfl) (by kernel_rfl) (fun _ _ d _ _ h => by cases d <;> exact h) (fun o ho => ?_)
          simp only [List.getElem?_toArray, List.getElem?_cons_zero, List.getElem?_cons_succ, Option.some.injEq] at ho; subst ho
          refine ⟨.int .u8 y, Or.inl ⟨by kernel_rfl, fun w' hl => Or.inl (run_get 5 _ rfl b (66 + c * 6 + kn) rfl Tryz.underlying5 rfl (.int .u8 y) (by rw [(HR.out.later hl).cell (i := 66 + c * 6 + kn) (by omega), kf_u8 (by omega), HY.out]))⟩, ?_⟩
          simp only [Act.put, List.setIfInBounds_toArray, List.set_cons_zero, List.set_cons_succ]
          refine late_take 9 (by kernel_rfl) (by kernel_rfl) (by kernel_rfl) (by kernel_rfl) (by kernel_rfl) (fun _ _ d _ _ h => by cases d <;> exact h) (fun o ho => ?_)
          simp only [List.getElem?_toArray, List.getElem?_cons_zero, List.getElem?_cons_succ, Option.some.injEq] at ho; subst ho
          apply Exists.intro
          refine ⟨Or.inl ⟨by kernel_rfl, fun w' hl => Or.inl ?_⟩, ?_⟩
          · (go_simp; try with_reducible rfl)
          simp only [Act.put, List.setIfInBounds_toArray, List.set_cons_zero, List.set_cons_succ]
          refine late_takeD 10 [11, 12, 13, 14, 15] (by kernel_rfl) (by kernel_rfl) (by kernel_rfl) (by kernel_rfl) (by kernel_rfl) (fun _ _ d _ _ h => by cases d <;> exact h) (fun o ho => ?_)
          simp only [List.getElem?_toArray, List.getElem?_cons_zero, List.getElem?_cons_succ, Option.some.injEq] at ho; subst ho
          apply Exists.intro
          refine ⟨Or.inl ⟨by kernel_rfl, fun w' hl => Or.inl ?_⟩, ?_⟩
          · (go_simp; try with_reducible rfl)
          simp only [Act.put, List.setIfInBounds_toArray, List.set_cons_zero, List.set_cons_succ]
          refine late_takeD 11 [12, 13, 14, 15] (by kernel_rfl) (by kernel_rfl) (by kernel_rfl) (by kernel_rfl) (by kernel_rfl) (fun _ _ d _ _ h => by cases d <;> exact h) (fun o ho => ?_)
          simp only [List.getElem?_toArray, List.getElem?_cons_zero, List.getElem?_cons_succ, Option.some.injEq] at ho; subst ho
          apply Exists.intro
          refine ⟨Or.inl ⟨by kernel_rfl, fun w' hl => Or.inl ?_⟩, ?_⟩
          · (go_simp; try with_reducible rfl)
          simp only [Act.put, List.setIfInBounds_toArray, List.set_cons_zero, List.set_cons_succ]
          refine late_takeD 12 [13, 14, 15] (by kernel_rfl) (by kernel_rfl) (by kernel_rfl) (by kernel_rfl) (by kernel_rfl) (fun _ _ d _ _ h => by cases d <;> exact h) (fun o ho => ?_)
          simp only [List.getElem?_toArray, List.getElem?_cons_zero, List.getElem?_cons_succ, Option.some.injEq] at ho; subst ho
          apply Exists.intro
          refine ⟨Or.inl ⟨by kernel_rfl, fun w' hl => Or.inl ?_⟩, ?_⟩
          · (go_simp; try with_reducible rfl)
          simp only [Act.put, List.setIfInBounds_toArray, List.set_cons_zero, List.set_cons_succ]
          refine late_takeD 13 [14, 15] (by kernel_rfl) (by kernel_rfl) (by kernel_rfl) (by kernel_rfl) (by kernel_rfl) (fun _ _ d _ _ h => by cases d <;> exact h) (fun o ho => ?_)
          simp only [List.getElem?_toArray, List.getElem?_cons_zero, List.getElem?_cons_succ, Option.some.injEq] at ho; subst ho
          refine ⟨.pointer (some ⟨b, 66 + c * 6, none⟩), Or.inl ⟨by kernel_rfl, fun w' hl => Or.inl ?_⟩, ?_⟩
          · (go_simp; first | done | (with_reducible rfl) | (intro hbad; exfalso; omega))
          simp only [Act.put, List.setIfInBounds_toArray, List.set_cons_zero, List.set_cons_succ]
          refine late_take 14 (by kernel_rfl) (by kernel_rfl) (by kernel_rfl) (by kernel_rfl) (by kernel_rfl) (fun _ _ d _ _ h => by cases d <;> exact h) (fun o ho => ?_)
          simp only [List.getElem?_toArray, List.getElem?_cons_zero, List.getElem?_cons_succ, Option.some.injEq] at ho; subst ho
          refine ⟨.pointer (some ⟨b, 66 + c * 6 + kn, none⟩), Or.inl ⟨by kernel_rfl, fun w' hl => Or.inl ?_⟩, ?_⟩
          · (go_simp; first | done | (with_reducible rfl) | (intro hbad; exfalso; omega))
          simp only [Act.put, List.setIfInBounds_toArray, List.set_cons_zero, List.set_cons_succ]
          refine late_last 15 (by kernel_rfl) (by kernel_rfl) (by kernel_rfl) (fun o ho => ?_)
          simp only [List.getElem?_toArray, List.getElem?_cons_zero, List.getElem?_cons_succ, Option.some.injEq] at ho; subst ho
          refine ⟨by kernel_rfl, fun wn hl K hK => ?_⟩
          have HR := Lib.hid (HR.out.later hl); have HK := Lib.hid (HK.out.trans (Kb.of_call b hl)); clear hl
          refine late_put 5 _ _ rfl b (66 + c * 6 + kn) rfl .u8 (IntKind.u8.wrap (y + 1)) rfl q s HR.out (by omega) (kf_u8 (by omega)) size5 ?_; intro wm hr hk
          have HR := Lib.hid hr; have HK := Lib.hid (HK.out.trans hk); clear hr hk
          refine hK.out _ _ ?_
          clear hK K
          simp only [Act.put, List.setIfInBounds_toArray, List.set_cons_zero, List.set_cons_succ]
          go_wp2_with fail
          go_roundw
          case rel => exact ⟨k + 1, _, by have := HKn.out; omega, by go_num, HR.out, HQ.out.pocket (by omega) (u8_wrap_rng _), HE.out, HK.out⟩
          case measure => simp [intOf]; have := HKn.out; omega
        · have HE := Lib.hid (HNone.out (by rw [hst, h5, hz, hkz, h6]; rfl))
          have g6 : ((kn : Int) != 6) = false := by have := yes_beq h6; simp; omega
          clear hst h5 hz hcz hkz hpc hzr h6
          go_wp2_with (first
            | (go_at_call 113; refine (prs_any t _).mono ?_; rintro e wm ⟨rfl, rfl⟩; rw [HBo.out, HZ.out])
            | (go_at_call 112; refine (mustU_yes _ _).mono ?_; rintro e wm ⟨rfl, rfl⟩)
            | (go_at_call 41; refine (col_any _ _ HZr.out.1 HZr.out.2).mono ?_; rintro e wm ⟨rfl, rfl⟩; rw [HCz.out])
            | (go_at_call 42; refine (knd_any _ _ HZr.out.1 HZr.out.2).mono ?_; rintro e wm ⟨rfl, rfl⟩; rw [HKz.out])
            | (go_at_call 61; refine (demand_no _).mono ?_; rintro e wm ⟨⟨u, pv, rfl⟩, rfl⟩))
          rw [HE.out]
          exact ⟨rfl, ⟨_, _, rfl⟩, HK.out⟩
    · obtain rfl : k = n := by omega
      have lk : ¬ ((k : Int) < (k : Int)) := by omega
      have HE := Lib.hid (show o = some (q, s) by rw [← HO.out, HEq.out, show l.drop k = [] by rw [← HNl.out]; exact List.drop_length]; rfl)
      go_wp2_with fail
      rw [HE.out]
      go_end0
      exact ⟨rfl, HR.out, HK.out⟩
end Go.Proofs.YtjbfjohgfbipgaaGreatDoor
