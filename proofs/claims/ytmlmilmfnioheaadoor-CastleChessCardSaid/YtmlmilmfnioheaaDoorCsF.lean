/-
  Layer 14's law: with, first, both.
-/
import Derived.Test.YtmlmilmfnioheaaDoorCsE
namespace Go.Proofs.YtmlmilmfnioheaaDoor
open Go.RowKit Go.Shelf
set_option linter.unusedVariables false
set_option linter.unusedSimpArgs false
attribute [local go_sem] Oper.semAt_some

theorem Mvs.of {B : Nat} {L : List Mv} {v : Value} {w : World} (h : MvsO B L v w) : ∃ a cap, v = .slice a L.length cap ∧ Mvs L a w := mvs_of h
theorem one_fit {p : Nat → Int} {c : Nat} (hc : p 78 = (c : Int)) {n : Nat} {m : Mv} (h : m ∈ oneC p n) : m = mvC p n ∧ inC p n = true := by
  unfold oneC at h
  cases g : inC p n
  · rw [g] at h; cases h
  · rw [g, cond_true, List.mem_singleton] at h; exact ⟨h, rfl⟩
theorem cam_mem {p : Nat → Int} {m : Mv} (h : m ∈ camL p) : p 78 ≤ 1 ∧ ∃ n, n < 2 ∧ m = mvC p n ∧ inC p n = true := by
  unfold camL at h
  cases g : thC p
  · rw [g] at h; cases h
  · rw [g, cond_true, List.mem_append] at h
    unfold thC at g
    rw [Bool.and_eq_true, decide_eq_true_eq] at g
    refine ⟨g.1, ?_⟩
    have key : ∀ n, m ∈ oneC p n → m = mvC p n ∧ inC p n = true := fun n h => by
      unfold oneC at h
      cases g : inC p n
      · rw [g] at h; cases h
      · rw [g, cond_true, List.mem_singleton] at h; exact ⟨h, rfl⟩
    rcases h with h | h
    · exact ⟨1, by decide, key 1 h⟩
    · exact ⟨0, by decide, key 0 h⟩
theorem cam_fit {p : Nat → Int} (ht : 0 ≤ p 78) {m : Mv} (h : m ∈ camL p) : FitV m := by
  obtain ⟨h1, n, hn, rfl, hi⟩ := cam_mem h
  unfold inC at hi
  rw [Bool.and_eq_true] at hi
  exact (fit_mvC (c := (p 78).toNat) (by omega) hi.1).1
theorem cam_len (p : Nat → Int) : (camL p).length ≤ 2 := by
  unfold camL
  cases thC p
  · exact Nat.zero_le _
  · exact pre_len p (k := 2) (Nat.le_refl _)
theorem any_nextC {α : Type} {f : α → Bool} {L : List α} {i : Nat} {m : α} (h : L[i]? = some m) : (L.take (i + 1)).any f = ((L.take i).any f || f m) := by
  rw [List.take_add_one, h, List.any_append]; simp
set_option maxRecDepth 100000 in
set_option maxHeartbeats 1000000 in
theorem cs_with (p : Nat → Int) (s : Nat) (hs : s < 64) (x : Int) (w : World) : Calls Tryd.prog 24 #[.agg (posA p), .int .i64 (s : Int), .int .u8 x] w (PosL (upd p (1 + s) x) w) := by
  obtain ⟨Q, hQ⟩ : ∃ Q, upd p (1 + s) x = Q := ⟨_, rfl⟩
  have HQ := Lib.hid hQ
  rw [hQ]
  clear hQ
  have HB := Lib.hid (Below.refl w.heap.size w)
  go_enter Tryd.func24, Tryd.ntmps24
  go_wp2_with (first
      | (guard_target = Go.wpList _ _ _ ((⟨some 3, .box _ _, _, _, _, _⟩ : Go.Oper) :: _) _ _; refine step_box rfl _ rfl p rfl ?_; intro b3 w1 N R; have HG3 := Lib.hid (show w.heap.size ≤ b3 by have := HB.out.size; have := N.at_; omega); have HB := Lib.hid (below_on HB.out N.below); have HR3 := Lib.hid R; clear N R)
      | (guard_target = Go.wpList _ _ _ ((⟨some 6, .alloc _, _, _, _, _⟩ : Go.Oper) :: _) _ _; refine step_alloc (op := ⟨some 6, _, _, _, _, _⟩) rfl rfl ?_; intro b6 wn N R; have HG6 := Lib.hid (show w.heap.size ≤ b6 by have := HB.out.size; have := N.at_; omega); have HY6 := Lib.hid (show b3 ≠ b6 from Nat.ne_of_lt (by have h1 := HR3.out.lt; have := N.at_; omega)); have HR3 := Lib.hid (HR3.out.later N.below); have HR6 := Lib.hid R; have HB := Lib.hid (below_on HB.out N.below); clear N R)
      | (guard_target = Go.wpList _ _ _ ((⟨none, .store _ (.tmp 10) _, _, _, _, _⟩ : Go.Oper) :: _) _ _; refine step_cell (op := ⟨none, .store _ (.tmp 10) _, _, _, _, _⟩) rfl 5 _ _ rfl b3 (1 + s) rfl .u8 x rfl _ HR3.out (by omega) (kAt_board (Nat.zero_le _) hs) size5 ?_; intro wn U R; rw [HQ.out] at R; have HR6 := Lib.hid (HR6.out.apart U HY6.out.symm); have HR3 := Lib.hid R; have HB := Lib.hid (HB.out.trans (U.below HG3.out)); clear U R)
      | (guard_target = Go.wpList _ _ _ ((⟨some _, .load _ (.tmp 3), _, _, _, _⟩ : Go.Oper) :: _) _ _; refine step_load rfl _ rfl b3 rfl Q HR3.out ?_)
      | (guard_target = Go.wpList _ _ _ ((⟨none, .store _ (.tmp 6) _, _, _, _, _⟩ : Go.Oper) :: _) _ _; refine step_store (op := ⟨none, .store _ (.tmp 6) _, _, _, _, _⟩) rfl _ _ rfl b6 rfl zeroP Q rfl HR6.out ?_; intro wn U R; have HR6 := Lib.hid R; have HB := Lib.hid (HB.out.trans (U.below HG6.out)); clear U R))
  exact bodyPost_ret (v := .agg (posA Q)) (results_pos rfl _ _ _ _ rfl HR6.out) rfl ⟨rfl, HB.out⟩
/-- White's king e1, rooks a1, h1, both rights; Black's king e8. -/
def fp0 : Nat → Int := upd (upd (upd (upd (upd zeroP 79 7) 81 (-1)) 82 (-1)) 83 (-1)) 87 1
def fpC : Nat → Int := upd (upd (upd (upd fp0 (1 + 4) 6) (1 + 0) 4) (1 + 7) 4) (1 + 60) 14
set_option maxRecDepth 100000 in
set_option maxHeartbeats 1000000 in
theorem cs_first (w : World) : Calls Tryd.prog 16 #[] w (PosL fpC w) := by
  have HB := Lib.hid (Below.refl w.heap.size w)
  go_enter Tryd.func16, Tryd.ntmps16
  go_wp2_with (first
      | (guard_target = Go.wpList _ _ _ ((⟨some 0, .alloc _, _, _, _, _⟩ : Go.Oper) :: _) _ _; refine step_alloc (op := ⟨some 0, _, _, _, _, _⟩) rfl rfl ?_; intro b0 wn N R; have HG0 := Lib.hid (show w.heap.size ≤ b0 by have := HB.out.size; have := N.at_; omega); have HR0 := Lib.hid R; have HB := Lib.hid (below_on HB.out N.below); clear N R)
      | (guard_target = Go.wpList _ _ _ ((⟨some 2, .build _ _, _, _, _, _⟩ : Go.Oper) :: _) _ _; refine step_build (op := ⟨some 2, .build _ _, _, _, _, _⟩) rfl 27 _ rfl (#[.int .i8 (7), .int .i8 (0)]) (by kernel_rfl) ?_)
      | (guard_target = Go.wpList _ _ _ ((⟨some 3, .build _ _, _, _, _, _⟩ : Go.Oper) :: _) _ _; refine step_build (op := ⟨some 3, .build _ _, _, _, _, _⟩) rfl 27 _ rfl (#[.int .i8 (-1), .int .i8 (-1)]) (by kernel_rfl) ?_)
      | (guard_target = Go.wpList _ _ _ ((⟨some 4, .build _ _, _, _, _, _⟩ : Go.Oper) :: _) _ _; refine step_build (op := ⟨some 4, .build _ _, _, _, _, _⟩) rfl 28 _ rfl (#[.int .i8 (7), .int .i8 (0), .int .i8 (-1), .int .i8 (-1)]) (by kernel_rfl) ?_)
      | (guard_target = Go.wpList _ _ _ ((⟨some 5, .build _ _, _, _, _, _⟩ : Go.Oper) :: _) _ _; refine step_build (op := ⟨some 5, .build _ _, _, _, _, _⟩) rfl 31 _ rfl (posA fp0) (by kernel_rfl) ?_)
      | (guard_target = Go.wpList _ _ _ ((⟨some 1, .alloc _, _, _, _, _⟩ : Go.Oper) :: _) _ _; refine step_alloc (op := ⟨some 1, _, _, _, _, _⟩) rfl rfl ?_; intro b1 wn N R; have HG1 := Lib.hid (show w.heap.size ≤ b1 by have := HB.out.size; have := N.at_; omega); have HY1 := Lib.hid (show b0 ≠ b1 from Nat.ne_of_lt (by have h1 := HR0.out.lt; have := N.at_; omega)); have HR0 := Lib.hid (HR0.out.later N.below); have HR1 := Lib.hid R; have HB := Lib.hid (below_on HB.out N.below); clear N R)
      | (guard_target = Go.wpList _ _ _ ((⟨none, .store _ (.tmp 1) _, _, _, _, _⟩ : Go.Oper) :: _) _ _; refine step_store (op := ⟨none, .store _ (.tmp 1) _, _, _, _, _⟩) rfl _ _ rfl b1 rfl zeroP fp0 rfl HR1.out ?_; intro wn U R; have HR0 := Lib.hid (HR0.out.apart U HY1.out); have HR1 := Lib.hid R; have HB := Lib.hid (HB.out.trans (U.below HG1.out)); clear U R)
      | (guard_target = Go.wpList _ _ _ ((⟨none, .store _ (.tmp 7) _, _, _, _, _⟩ : Go.Oper) :: _) _ _; refine step_cell (op := ⟨none, .store _ (.tmp 7) _, _, _, _, _⟩) rfl 5 _ _ rfl b1 (1 + 4) rfl .u8 6 rfl _ HR1.out (by decide) rfl size5 ?_; intro wn U R; have HR0 := Lib.hid (HR0.out.apart U HY1.out); have HR1 := Lib.hid R; have HB := Lib.hid (HB.out.trans (U.below HG1.out)); clear U R)
      | (guard_target = Go.wpList _ _ _ ((⟨none, .store _ (.tmp 9) _, _, _, _, _⟩ : Go.Oper) :: _) _ _; refine step_cell (op := ⟨none, .store _ (.tmp 9) _, _, _, _, _⟩) rfl 5 _ _ rfl b1 (1 + 0) rfl .u8 4 rfl _ HR1.out (by decide) rfl size5 ?_; intro wn U R; have HR0 := Lib.hid (HR0.out.apart U HY1.out); have HR1 := Lib.hid R; have HB := Lib.hid (HB.out.trans (U.below HG1.out)); clear U R)
      | (guard_target = Go.wpList _ _ _ ((⟨none, .store _ (.tmp 11) _, _, _, _, _⟩ : Go.Oper) :: _) _ _; refine step_cell (op := ⟨none, .store _ (.tmp 11) _, _, _, _, _⟩) rfl 5 _ _ rfl b1 (1 + 7) rfl .u8 4 rfl _ HR1.out (by decide) rfl size5 ?_; intro wn U R; have HR0 := Lib.hid (HR0.out.apart U HY1.out); have HR1 := Lib.hid R; have HB := Lib.hid (HB.out.trans (U.below HG1.out)); clear U R)
      | (guard_target = Go.wpList _ _ _ ((⟨none, .store _ (.tmp 13) _, _, _, _, _⟩ : Go.Oper) :: _) _ _; refine step_cell (op := ⟨none, .store _ (.tmp 13) _, _, _, _, _⟩) rfl 5 _ _ rfl b1 (1 + 60) rfl .u8 14 rfl _ HR1.out (by decide) rfl size5 ?_; intro wn U R; have HR0 := Lib.hid (HR0.out.apart U HY1.out); have HR1 := Lib.hid R; have HB := Lib.hid (HB.out.trans (U.below HG1.out)); clear U R)
      | (guard_target = Go.wpList _ _ _ ((⟨some _, .load _ (.tmp 1), _, _, _, _⟩ : Go.Oper) :: _) _ _; refine step_load rfl _ rfl b1 rfl fpC HR1.out ?_)
      | (guard_target = Go.wpList _ _ _ ((⟨none, .store _ (.tmp 0) _, _, _, _, _⟩ : Go.Oper) :: _) _ _; refine step_store (op := ⟨none, .store _ (.tmp 0) _, _, _, _, _⟩) rfl _ _ rfl b0 rfl zeroP fpC rfl HR0.out ?_; intro wn U R; have HR0 := Lib.hid R; have HB := Lib.hid (HB.out.trans (U.below HG0.out)); clear U R))
  exact bodyPost_ret (v := .agg (posA fpC)) (results_pos rfl _ _ _ _ rfl HR0.out) rfl ⟨rfl, HB.out⟩
def mvK (t : Int) : Mv := ⟨4, t, 0, 0, true⟩
def nAH (a h : Bool) : Nat := (bif a then 1 else 0) + (bif h then 1 else 0)
def bothV (L : List Mv) (a h : Bool) : Bool := (L.any (fun m => mvE m (mvK 0)) == a) && ((L.any (fun m => mvE m (mvK 7)) == h) && (L.length == nAH a h))
set_option maxRecDepth 100000 in
set_option maxHeartbeats 4000000 in
theorem cs_both (p : Nat → Int) (a h : Bool) (w : World) (hp : CsR p) (hT : CsT w) : Calls Tryd.prog 19 #[.agg (posA p), .bool a, .bool h] w (BoL (bothV (camL p) a h) w) := by
  have HP := Lib.hid hp
  have HT := Lib.hid hT
  obtain ⟨L, hL⟩ : ∃ L, camL p = L := ⟨_, rfl⟩
  have HL := Lib.hid hL
  have HV := Lib.hid (show ∀ (i : Nat) (m : Mv), L[i]? = some m → FitV m by rw [← hL]; exact fun i m h => cam_fit hp.at_.turn.1 (List.mem_of_getElem? h))
  have HLn := Lib.hid (show L.length ≤ 2 by rw [← hL]; exact cam_len p)
  rw [hL]
  have HF0 := Lib.hid (show FitV ⟨4, 0, 0, 0, true⟩ from ⟨by decide, by decide, by decide, by decide⟩)
  have HF7 := Lib.hid (show FitV ⟨4, 7, 0, 0, true⟩ from ⟨by decide, by decide, by decide, by decide⟩)
  obtain ⟨f0, HFa⟩ : ∃ f0 : Mv → Bool, Hid (∀ x, f0 x = mvE x (mvK 0)) := ⟨_, Lib.hid fun _ => rfl⟩
  obtain ⟨f7, HFb⟩ : ∃ f7 : Mv → Bool, Hid (∀ x, f7 x = mvE x (mvK 7)) := ⟨_, Lib.hid fun _ => rfl⟩
  clear hp hT hL
  have HB := Lib.hid (Below.refl w.heap.size w)
  go_enter Tryd.func19, Tryd.ntmps19
  go_wp2_with (first
      | (guard_target = Go.wpList _ _ _ ((⟨some 3, .box _ _, _, _, _, _⟩ : Go.Oper) :: _) _ _; refine step_box rfl _ rfl p rfl ?_; intro b3 w1 N R; have HG3 := Lib.hid (show w.heap.size ≤ b3 by have := HB.out.size; have := N.at_; omega); have HB := Lib.hid (below_on HB.out N.below); have HR3 := Lib.hid R; clear N R)
      | (guard_target = Go.wpList _ _ _ ((⟨some _, .load _ (.tmp 3), _, _, _, _⟩ : Go.Oper) :: _) _ _; refine step_load rfl _ rfl b3 rfl p HR3.out ?_)
      | (go_at_call 8; refine (list_cs p _ HP.out (HT.out.on HB.out)).mono ?_; rintro e w5 ⟨v, rfl, hv, hb⟩; rw [HL.out] at hv; obtain ⟨a4, c4, rfl, hE⟩ := mvs_of hv; have HE := Lib.hid hE; have HR3 := Lib.hid (HR3.out.later hb); have HB := Lib.hid (below_on HB.out hb); clear hE hv hb))
  go_loopw [8, 9, 10] (fun x y i wr => ∃ j : Nat, j ≤ L.length ∧ i = .int .i64 (j : Int) ∧ x = .bool ((L.take j).any f0) ∧ y = .bool ((L.take j).any f7) ∧ Mvs L a4 wr ∧ Below w.heap.size w wr) (fun _ _ i _ => L.length - (intOf i).toNat)
  case atStart => exact ⟨0, by omega, rfl, rfl, rfl, HE.out, HB.out⟩
  case round =>
    clear HE HB HR3
    obtain ⟨i, hi, rfl, rfl, rfl, he, hb⟩ := hrel
    have HE := Lib.hid he
    have HB := Lib.hid hb
    clear he hb
    by_cases hl2 : i < L.length
    · obtain ⟨m4, hm4⟩ : ∃ m4, L[i]? = some m4 := ⟨_, List.getElem?_eq_getElem hl2⟩
      obtain ⟨g4, rfl, _⟩ := HE.out.at hm4
      have HX := Lib.hid hm4
      have HV4 := Lib.hid (HV.out i m4 hm4)
      have HNa := Lib.hid (any_nextC (f := f0) hm4)
      have HNb := Lib.hid (any_nextC (f := f7) hm4)
      have HLt := Lib.hid hl2
      have hw1 : (i : Int) < 2 := by have := HLn.out; omega
      obtain ⟨r0, hr0⟩ : ∃ r, f0 m4 = r := ⟨_, rfl⟩
      obtain ⟨r7, hr7⟩ : ∃ r, f7 m4 = r := ⟨_, rfl⟩
      have HG0 := Lib.hid (show mvE m4 ⟨4, 0, 0, 0, true⟩ = r0 by rw [← hr0, HFa.out]; rfl)
      have HG7 := Lib.hid (show mvE m4 ⟨4, 7, 0, 0, true⟩ = r7 by rw [← hr7, HFb.out]; rfl)
      have HR0 := Lib.hid hr0
      have HR7 := Lib.hid hr7
      obtain ⟨xa, hxa⟩ : ∃ xa, (L.take i).any f0 = xa := ⟨_, rfl⟩
      obtain ⟨xb, hxb⟩ : ∃ xb, (L.take i).any f7 = xb := ⟨_, rfl⟩
      have HXa := Lib.hid hxa
      have HXb := Lib.hid hxb
      rw [hxa, hxb]
      clear hm4 hr0 hr7 hxa hxb
      cases xa
      · cases xb
        · go_wp2_with (first
            | (guard_target = Go.wpList _ _ _ ((⟨some 25, .load _ (.tmp 24), _, _, _, _⟩ : Go.Oper) :: _) _ _; refine step_mvI rfl _ rfl g4 i _ rfl (by first | omega | (simp; omega)) m4 (HE.out.get HX.out) ?_)
            | (guard_target = Go.wpList _ _ _ ((⟨some 26, .build _ _, _, _, _, _⟩ : Go.Oper) :: _) _ _; refine step_build (op := ⟨some 26, .build _ _, _, _, _, _⟩) rfl 36 _ rfl (mvA ⟨4, 0, 0, 0, true⟩) (by kernel_rfl) ?_)
            | (guard_target = Go.wpList _ _ _ ((⟨some 27, .binOp _ _ _ _ _, _, _, _, _⟩ : Go.Oper) :: _) _ _; refine step_mv rfl _ _ rfl m4 ⟨4, 0, 0, 0, true⟩ rfl rfl HV4.out HF0.out _ HG0.out ?_)
            | (guard_target = Go.wpList _ _ _ ((⟨some 34, .load _ (.tmp 33), _, _, _, _⟩ : Go.Oper) :: _) _ _; refine step_mvI rfl _ rfl g4 i _ rfl (by first | omega | (simp; omega)) m4 (HE.out.get HX.out) ?_)
            | (guard_target = Go.wpList _ _ _ ((⟨some 35, .build _ _, _, _, _, _⟩ : Go.Oper) :: _) _ _; refine step_build (op := ⟨some 35, .build _ _, _, _, _, _⟩) rfl 36 _ rfl (mvA ⟨4, 7, 0, 0, true⟩) (by kernel_rfl) ?_)
            | (guard_target = Go.wpList _ _ _ ((⟨some 36, .binOp _ _ _ _ _, _, _, _, _⟩ : Go.Oper) :: _) _ _; refine step_mv rfl _ _ rfl m4 ⟨4, 7, 0, 0, true⟩ rfl rfl HV4.out HF7.out _ HG7.out ?_))
          go_roundw
          case rel => exact ⟨i + 1, by have := HLt.out; omega, by go_num, by rw [HNa.out, HXa.out, HR0.out]; rfl, by rw [HNb.out, HXb.out, HR7.out]; rfl, HE.out, HB.out⟩
          case measure => simp [intOf]; have := HLt.out; omega
        · go_wp2_with (first
            | (guard_target = Go.wpList _ _ _ ((⟨some 25, .load _ (.tmp 24), _, _, _, _⟩ : Go.Oper) :: _) _ _; refine step_mvI rfl _ rfl g4 i _ rfl (by first | omega | (simp; omega)) m4 (HE.out.get HX.out) ?_)
            | (guard_target = Go.wpList _ _ _ ((⟨some 26, .build _ _, _, _, _, _⟩ : Go.Oper) :: _) _ _; refine step_build (op := ⟨some 26, .build _ _, _, _, _, _⟩) rfl 36 _ rfl (mvA ⟨4, 0, 0, 0, true⟩) (by kernel_rfl) ?_)
            | (guard_target = Go.wpList _ _ _ ((⟨some 27, .binOp _ _ _ _ _, _, _, _, _⟩ : Go.Oper) :: _) _ _; refine step_mv rfl _ _ rfl m4 ⟨4, 0, 0, 0, true⟩ rfl rfl HV4.out HF0.out _ HG0.out ?_))
          go_roundw
          case rel => exact ⟨i + 1, by have := HLt.out; omega, by go_num, by rw [HNa.out, HXa.out, HR0.out]; rfl, by rw [HNb.out, HXb.out]; rfl, HE.out, HB.out⟩
          case measure => simp [intOf]; have := HLt.out; omega
      · cases xb
        · go_wp2_with (first
            | (guard_target = Go.wpList _ _ _ ((⟨some 34, .load _ (.tmp 33), _, _, _, _⟩ : Go.Oper) :: _) _ _; refine step_mvI rfl _ rfl g4 i _ rfl (by first | omega | (simp; omega)) m4 (HE.out.get HX.out) ?_)
            | (guard_target = Go.wpList _ _ _ ((⟨some 35, .build _ _, _, _, _, _⟩ : Go.Oper) :: _) _ _; refine step_build (op := ⟨some 35, .build _ _, _, _, _, _⟩) rfl 36 _ rfl (mvA ⟨4, 7, 0, 0, true⟩) (by kernel_rfl) ?_)
            | (guard_target = Go.wpList _ _ _ ((⟨some 36, .binOp _ _ _ _ _, _, _, _, _⟩ : Go.Oper) :: _) _ _; refine step_mv rfl _ _ rfl m4 ⟨4, 7, 0, 0, true⟩ rfl rfl HV4.out HF7.out _ HG7.out ?_))
          go_roundw
          case rel => exact ⟨i + 1, by have := HLt.out; omega, by go_num, by rw [HNa.out, HXa.out]; rfl, by rw [HNb.out, HXb.out, HR7.out]; rfl, HE.out, HB.out⟩
          case measure => simp [intOf]; have := HLt.out; omega
        · go_wp2_with fail
          go_roundw
          case rel => exact ⟨i + 1, by have := HLt.out; omega, by go_num, by rw [HNa.out, HXa.out]; rfl, by rw [HNb.out, HXb.out]; rfl, HE.out, HB.out⟩
          case measure => simp [intOf]; have := HLt.out; omega
    · obtain rfl : i = L.length := by omega
      have HS := Lib.hid (show bothV L a h = ((L.any f0 == a) && ((L.any f7 == h) && (L.length == nAH a h))) by unfold bothV; rw [← funext HFa.out, ← funext HFb.out])
      rw [List.take_length]
      obtain ⟨xa, hxa⟩ : ∃ xa, L.any f0 = xa := ⟨_, rfl⟩
      obtain ⟨xh, hxh⟩ : ∃ xh, L.any f7 = xh := ⟨_, rfl⟩
      rw [hxa, hxh]
      rw [hxa, hxh] at HS
      clear hxa hxh hi hl2
      obtain ⟨n, hn⟩ : ∃ n, L.length = n := ⟨_, rfl⟩
      rw [hn]
      rw [hn] at HS
      have hnn : n ≤ 2 := by rw [← hn]; exact HLn.out
      clear hn
      have e0 : (n == 0) = decide (n = 0) := by rw [Bool.eq_iff_iff]; simp
      cases a
      all_goals
        cases h
        all_goals
          cases xa
          all_goals
            cases xh
            all_goals
              go_wp2_with fail
              go_ret
              refine ⟨?_, HB.out⟩
              rw [HS.out]
              first | rfl | (show Ending.returned (.bool _) = Ending.returned (.bool _); congr 2; rw [Bool.eq_iff_iff]; simp [nAH]; first | done | omega)
end Go.Proofs.YtmlmilmfnioheaaDoor
