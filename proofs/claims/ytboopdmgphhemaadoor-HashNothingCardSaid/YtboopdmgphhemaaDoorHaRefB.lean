/-
  Contracts of the document's own layer 9, second part: Promoted, Key.
-/
import Derived.Test.YtboopdmgphhemaaDoorHaRef
import Derived.Test.YtboopdmgphhemaaDoorHaOf
import Derived.Test.YtboopdmgphhemaaDoorHaKey
import Derived.Test.YtboopdmgphhemaaDoorShiftRef
namespace Go.Proofs.YtboopdmgphhemaaDoor
open Go.RowKit
set_option linter.unusedVariables false
set_option linter.unusedSimpArgs false

/-- The xor after k squares. -/
def accX (l : List Nat) (k : Nat) : Nat := xorL ((l.take k).map fun s : Nat => ptN 7 (s : Int))
theorem accX_lt (l : List Nat) (k : Nat) : accX l k < W64 := xorL_lt fun x hx => by
  obtain ⟨s, _, rfl⟩ := List.mem_map.1 hx; exact ptN_lt _ _
theorem accX_succ {l : List Nat} {k s : Nat} (h : l[k]? = some s) : bits .xor .u64 (accX l k : Int) (ptN 7 (s : Int) : Nat) = ((accX l (k + 1) : Nat) : Int) := by
  rw [xor_nat (accX_lt _ _) (ptN_lt _ _)]
  unfold accX
  rw [take_snoc l k s h, List.map_append, List.map_cons, List.map_nil, xorL_snoc]
theorem accX_all (b : Nat) : accX (listN b) (listN b).length = promN b := by unfold accX promN; rw [List.take_length]
theorem rpromoted_any (b : Nat) (w : World) (hb : b < W64) : Calls Tryd.prog 25 #[.int .u64 (b : Int)] w (U64L (promN b) w) := by
  have HB := Lib.hid hb
  clear hb
  go_enter Tryd.func25, Tryd.ntmps25
  go_wp2_with (go_at_call 34; refine (rlist_any _ _ HB.out).mono ?_; rintro e w1 ⟨v, rfl, hL, hb1⟩; obtain ⟨p, cap, rfl, hp⟩ := listed_open hL; have HP := Lib.hid hp; have HB1 := Lib.hid hb1; clear hL hp hb1)
  have hlen := listN_len b
  go_loopw [3, 5] (fun x i wr => ∃ k : Nat, k ≤ (listN b).length ∧ i = .int .i64 k ∧ x = .int .u64 ((accX (listN b) k : Nat) : Int) ∧ Below w1.heap.size w1 wr) (fun _ i _ => (listN b).length - (intOf i).toNat)
  case atStart => exact ⟨0, Nat.zero_le _, rfl, rfl, Below.refl _ _⟩
  case round =>
    obtain ⟨k, hk, rfl, rfl, hbel⟩ := hrel
    by_cases hlt : k < (listN b).length
    · obtain ⟨s, HS⟩ : ∃ s, Hid ((listN b)[k]? = some s) := ⟨_, Lib.hid (List.getElem?_eq_getElem hlt)⟩
      obtain ⟨g, rfl, hg1, hg2, hg3⟩ := (HP.out.later hbel) (by omega)
      have hc := (hg3 k s HS.out).1
      have HY := Lib.hid (accX_succ HS.out)
      have HBl := Lib.hid hbel
      clear hg3 hbel
      go_wp2_with (go_at_call 11; refine (rpart_any _ _ _).mono ?_; rintro e w2 ⟨rfl, rfl⟩)
      go_roundw
      case rel => exact ⟨k + 1, by omega, by go_num, by rw [← HY.out], HBl.out⟩
      case measure => simp [intOf]; omega
    · have HBl := Lib.hid hbel
      clear hbel
      go_wp2
      go_ret
      obtain rfl : k = (listN b).length := by omega
      exact ⟨ret_u64 (accX_all b), HB1.out.trans (HBl.out.mono HB1.out.size)⟩

/-- What the reckoning begins with, and the parts that have come. -/
def xAc (x : Nat) (l : List Nat) : Nat := x ^^^ xorL l
theorem xAc_lt {x : Nat} {l : List Nat} (hx : x < W64) (hl : ∀ y, y ∈ l → y < W64) : xAc x l < W64 := xor_lt64 hx (xorL_lt hl)
theorem xAc_snoc {x y : Nat} {l : List Nat} (hx : x < W64) (hl : ∀ y, y ∈ l → y < W64) (hy : y < W64) : bits .xor .u64 (xAc x l : Int) (y : Int) = ((xAc x (l ++ [y]) : Nat) : Int) := by
  rw [xor_nat (xAc_lt hx hl) hy]; unfold xAc; rw [xorL_snoc, Nat.xor_assoc]
theorem xAc_nil (x : Nat) : xAc x [] = x := by unfold xAc; rw [xorL_nil, Nat.xor_zero]
def bgN (p : Nat → Int) : Nat := turnN (p 78) ^^^ psgN (p 83) ^^^ promN (p 65).toNat ^^^ ptN 8 (p 0)
theorem bgN_lt (p : Nat → Int) : bgN p < W64 := xor_lt64 (xor_lt64 (xor_lt64 (turnN_lt _) (psgN_lt _)) (promN_lt _)) (ptN_lt _ _)
theorem xor4 (a b c d : Nat) : xorL ([] ++ [vec4 a b c d 0] ++ [vec4 a b c d 1] ++ [vec4 a b c d 2] ++ [vec4 a b c d 3]) = a ^^^ b ^^^ c ^^^ d := by
  rw [xorL_snoc, xorL_snoc, xorL_snoc, xorL_snoc, xorL_nil, Nat.zero_xor]; rfl
theorem laL_four (p : Nat → Int) : laL p 4 = [] ++ [lastV p 0] ++ [lastV p 1] ++ [lastV p 2] ++ [lastV p 3] := rfl
theorem xorL_last (p : Nat → Int) : xorL (laL p 4) = bgN p := by
  rw [laL_four]; unfold lastV bgN; exact xor4 _ _ _ _
theorem xAc_all (p : Nat → Int) : xAc (bgN p) (boL p 64 ++ coTo p 2) = keyN p := by
  unfold xAc keyN paL
  rw [xorL_append _ (laL p 4), xorL_last, Nat.xor_comm]

/-- The parts that have come: of the board and so many colors; of rooks, too; of pockets, too. -/
def cL (p : Nat → Int) (c : Nat) : List Nat := boL p 64 ++ coTo p c
def dL (p : Nat → Int) (c d : Nat) : List Nat := cL p c ++ roL p c d
def kL (p : Nat → Int) (c k : Nat) : List Nat := dL p c 2 ++ poL p c k
theorem cL_zero (p : Nat → Int) : boL p 64 = cL p 0 := (List.append_nil _).symm
theorem dL_zero (p : Nat → Int) (c : Nat) : cL p c = dL p c 0 := (List.append_nil _).symm
theorem kL_zero (p : Nat → Int) (c : Nat) : dL p c 2 = kL p c 0 := (List.append_nil _).symm
theorem dL_succ (p : Nat → Int) (c d : Nat) : dL p c (d + 1) = dL p c d ++ [rookHN (c : Int) (d : Int) (p (79 + c * 2 + d))] := (List.append_assoc _ _ _).symm
theorem kL_succ (p : Nat → Int) (c k : Nat) : kL p c (k + 1) = kL p c k ++ [pockN (c : Int) (k : Int) (p (66 + c * 6 + k))] := (List.append_assoc _ _ _).symm
theorem cL_succ (p : Nat → Int) (c : Nat) : cL p (c + 1) = kL p c 6 ++ [chkHN (c : Int) (p (84 + c))] := by
  show boL p 64 ++ (coTo p c ++ (roL p c 2 ++ poL p c 6 ++ [chkHN (c : Int) (p (84 + c))])) = boL p 64 ++ coTo p c ++ roL p c 2 ++ poL p c 6 ++ _
  simp only [List.append_assoc]
theorem cL_lt (p : Nat → Int) (c : Nat) : ∀ y, y ∈ cL p c → y < W64 := fun y hy => (List.mem_append.1 hy).elim (boL_lt p 64 y) (coTo_lt p c y)
theorem dL_lt (p : Nat → Int) (c d : Nat) : ∀ y, y ∈ dL p c d → y < W64 := fun y hy => (List.mem_append.1 hy).elim (cL_lt p c y) (roL_lt p c d y)
theorem kL_lt (p : Nat → Int) (c k : Nat) : ∀ y, y ∈ kL p c k → y < W64 := fun y hy => (List.mem_append.1 hy).elim (dL_lt p c 2 y) (poL_lt p c k y)
set_option maxRecDepth 100000 in
set_option maxHeartbeats 4000000 in
theorem rkey_any (p : Nat → Int) (w : World) (hp : FitP p) : Calls Tryd.prog 27 #[.agg (posA p)] w (U64L (keyN p) w) := by
  have HP := Lib.hid hp
  have HBg := Lib.hid (bgN_lt p)
  have HF := Lib.hid (by kernel_rfl : Tryd.prog.follows .mixedOrders = true)
  clear hp
  go_enter Tryd.func27, Tryd.ntmps27
  go_wp2_with (refine step_box rfl _ rfl p rfl ?_; intro b1 w1 N R; have HB := Lib.hid N.below; have HI := Lib.hid R; clear N R)
  obtain ⟨m, hm⟩ : ∃ m, (p 65).toNat = m := ⟨_, rfl⟩
  have HN65 := Lib.hid (show p 65 = (m : Int) by have := HP.out.prom.1; omega)
  have HMl := Lib.hid (show m < W64 by rw [← hm]; exact HP.out.prom.2)
  have HW83 := Lib.hid (wrap_i64 (x := p 83) (by have := HP.out.pass; omega) (by have := HP.out.pass; omega))
  have HW0 := Lib.hid (wrap_i64 (x := p 0) (by have := HP.out.var; omega) (by have := HP.out.var; omega))
  obtain ⟨n0, hn0⟩ : ∃ n0, turnN (p 78) = n0 := ⟨_, rfl⟩
  obtain ⟨n1, hn1⟩ : ∃ n1, psgN (p 83) = n1 := ⟨_, rfl⟩
  obtain ⟨n2, hn2⟩ : ∃ n2, promN m = n2 := ⟨_, rfl⟩
  obtain ⟨n3, hn3⟩ : ∃ n3, ptN 8 (p 0) = n3 := ⟨_, rfl⟩
  have HV := Lib.hid (show n0 ^^^ n1 ^^^ n2 ^^^ n3 = bgN p by unfold bgN; rw [hm, hn0, hn1, hn2, hn3])
  have l0 : n0 < W64 := hn0 ▸ turnN_lt _
  have l1 : n1 < W64 := hn1 ▸ psgN_lt _
  have l2 : n2 < W64 := hn2 ▸ promN_lt _
  have l3 : n3 < W64 := hn3 ▸ ptN_lt _ _
  have HX1 := Lib.hid (xor_nat l0 l1)
  have HX2 := Lib.hid (xor_nat (xor_lt64 l0 l1) l2)
  have HX3 := Lib.hid (xor_nat (xor_lt64 (xor_lt64 l0 l1) l2) l3)
  have HN0 := Lib.hid hn0
  have HN1 := Lib.hid hn1
  have HN2 := Lib.hid hn2
  have HN3 := Lib.hid hn3
  clear hn0 hn1 hn2 hn3 l0 l1 l2 l3 hm
  refine late_begin 18 (by kernel_rfl) ?_
  refine late_take 0 (by kernel_rfl) (by kernel_rfl) (by kernel_rfl) (by kernel_rfl) (by kernel_rfl) (fun _ _ d _ _ h => by cases d <;> exact h) (fun o ho => ?_)
  simp only [List.getElem?_toArray, List.getElem?_cons_zero, List.getElem?_cons_succ, Option.some.injEq] at ho; subst ho
  apply Exists.intro
  refine ⟨Or.inl ⟨by kernel_rfl, fun w' hl => Or.inl ?_⟩, ?_⟩
  · (go_simp; try with_reducible rfl)
  simp only [Act.put, List.setIfInBounds_toArray, List.set_cons_zero, List.set_cons_succ]
  refine late_take 1 (by kernel_rfl) (by kernel_rfl) (by kernel_rfl) (by kernel_rfl) (by kernel_rfl) (fun _ _ d _ _ h => by cases d <;> exact h) (fun o ho => ?_)
  simp only [List.getElem?_toArray, List.getElem?_cons_zero, List.getElem?_cons_succ, Option.some.injEq] at ho; subst ho
  refine ⟨.int .u8 (p 78), Or.inl ⟨by kernel_rfl, fun w' hl => Or.inl (run_get 5 _ rfl b1 78 rfl Tryd.underlying5 rfl (.int .u8 (p 78)) (by rw [(HI.out.later hl).cell 78 (by omega), k_u8 (by omega)]))⟩, ?_⟩
  simp only [Act.put, List.setIfInBounds_toArray, List.set_cons_zero, List.set_cons_succ]
  refine late_take 3 (by kernel_rfl) (by kernel_rfl) (by kernel_rfl) (by kernel_rfl) (by kernel_rfl) (fun _ _ d _ _ h => by cases d <;> exact h) (fun o ho => ?_)
  simp only [List.getElem?_toArray, List.getElem?_cons_zero, List.getElem?_cons_succ, Option.some.injEq] at ho; subst ho
  apply Exists.intro
  refine ⟨Or.inl ⟨by kernel_rfl, fun w' hl => Or.inl ?_⟩, ?_⟩
  · (go_simp; try with_reducible rfl)
  simp only [Act.put, List.setIfInBounds_toArray, List.set_cons_zero, List.set_cons_succ]
  refine late_take 4 (by kernel_rfl) (by kernel_rfl) (by kernel_rfl) (by kernel_rfl) (by kernel_rfl) (fun _ _ d _ _ h => by cases d <;> exact h) (fun o ho => ?_)
  simp only [List.getElem?_toArray, List.getElem?_cons_zero, List.getElem?_cons_succ, Option.some.injEq] at ho; subst ho
  refine ⟨.int .i8 (p 83), Or.inl ⟨by kernel_rfl, fun w' hl => Or.inl (run_get 36 _ rfl b1 83 rfl Tryd.underlying36 rfl (.int .i8 (p 83)) (by rw [(HI.out.later hl).cell 83 (by omega), k_i8 (by omega) (by omega)]))⟩, ?_⟩
  simp only [Act.put, List.setIfInBounds_toArray, List.set_cons_zero, List.set_cons_succ]
  refine late_take 5 (by kernel_rfl) (by kernel_rfl) (by kernel_rfl) (by kernel_rfl) (by kernel_rfl) (fun _ _ d _ _ h => by cases d <;> exact h) (fun o ho => ?_)
  simp only [List.getElem?_toArray, List.getElem?_cons_zero, List.getElem?_cons_succ, Option.some.injEq] at ho; subst ho
  refine ⟨.int .i64 (p 83), Or.inl ⟨by kernel_rfl, fun w' hl => Or.inl ?_⟩, ?_⟩
  · (go_simp; rw [HW83.out])
  simp only [Act.put, List.setIfInBounds_toArray, List.set_cons_zero, List.set_cons_succ]
  refine late_take 8 (by kernel_rfl) (by kernel_rfl) (by kernel_rfl) (by kernel_rfl) (by kernel_rfl) (fun _ _ d _ _ h => by cases d <;> exact h) (fun o ho => ?_)
  simp only [List.getElem?_toArray, List.getElem?_cons_zero, List.getElem?_cons_succ, Option.some.injEq] at ho; subst ho
  apply Exists.intro
  refine ⟨Or.inl ⟨by kernel_rfl, fun w' hl => Or.inl ?_⟩, ?_⟩
  · (go_simp; try with_reducible rfl)
  simp only [Act.put, List.setIfInBounds_toArray, List.set_cons_zero, List.set_cons_succ]
  refine late_take 9 (by kernel_rfl) (by kernel_rfl) (by kernel_rfl) (by kernel_rfl) (by kernel_rfl) (fun _ _ d _ _ h => by cases d <;> exact h) (fun o ho => ?_)
  simp only [List.getElem?_toArray, List.getElem?_cons_zero, List.getElem?_cons_succ, Option.some.injEq] at ho; subst ho
  refine ⟨.int .u64 (m : Int), Or.inl ⟨by kernel_rfl, fun w' hl => Or.inl (run_get 22 _ rfl b1 65 rfl Tryd.underlying22 rfl (.int .u64 (m : Int)) (by rw [(HI.out.later hl).cell 65 (by omega), show kAt 65 = .u64 from rfl, HN65.out]))⟩, ?_⟩
  simp only [Act.put, List.setIfInBounds_toArray, List.set_cons_zero, List.set_cons_succ]
  refine late_take 12 (by kernel_rfl) (by kernel_rfl) (by kernel_rfl) (by kernel_rfl) (by kernel_rfl) (fun _ _ d _ _ h => by cases d <;> exact h) (fun o ho => ?_)
  simp only [List.getElem?_toArray, List.getElem?_cons_zero, List.getElem?_cons_succ, Option.some.injEq] at ho; subst ho
  apply Exists.intro
  refine ⟨Or.inl ⟨by kernel_rfl, fun w' hl => Or.inl ?_⟩, ?_⟩
  · (go_simp; try with_reducible rfl)
  simp only [Act.put, List.setIfInBounds_toArray, List.set_cons_zero, List.set_cons_succ]
  refine late_take 13 (by kernel_rfl) (by kernel_rfl) (by kernel_rfl) (by kernel_rfl) (by kernel_rfl) (fun _ _ d _ _ h => by cases d <;> exact h) (fun o ho => ?_)
  simp only [List.getElem?_toArray, List.getElem?_cons_zero, List.getElem?_cons_succ, Option.some.injEq] at ho; subst ho
  refine ⟨.int .u8 (p 0), Or.inl ⟨by kernel_rfl, fun w' hl => Or.inl (run_get 5 _ rfl b1 0 rfl Tryd.underlying5 rfl (.int .u8 (p 0)) (by rw [(HI.out.later hl).cell 0 (by omega), k_u8 (by omega)]))⟩, ?_⟩
  simp only [Act.put, List.setIfInBounds_toArray, List.set_cons_zero, List.set_cons_succ]
  refine late_take 14 (by kernel_rfl) (by kernel_rfl) (by kernel_rfl) (by kernel_rfl) (by kernel_rfl) (fun _ _ d _ _ h => by cases d <;> exact h) (fun o ho => ?_)
  simp only [List.getElem?_toArray, List.getElem?_cons_zero, List.getElem?_cons_succ, Option.some.injEq] at ho; subst ho
  refine ⟨.int .i64 (p 0), Or.inl ⟨by kernel_rfl, fun w' hl => Or.inl ?_⟩, ?_⟩
  · (go_simp; rw [HW0.out])
  simp only [Act.put, List.setIfInBounds_toArray, List.set_cons_zero, List.set_cons_succ]
  refine late_one 2 (by kernel_rfl) (by kernel_rfl) (fun o ho => ?_)
  simp only [List.getElem?_toArray, List.getElem?_cons_zero, List.getElem?_cons_succ, Option.some.injEq] at ho; subst ho
  refine ⟨by kernel_rfl, fun wn hl K hK => ?_⟩
  have HI := Lib.hid (HI.out.later hl); have HB := Lib.hid (below_on HB.out hl); clear hl
  refine wp_enter _ _ (by go_simp; exact ⟨rfl, rfl⟩) ?_
  refine (rturn_any (p 78) _).mono ?_; rintro e wm ⟨rfl, rfl⟩; refine ⟨_, rfl, ?_⟩
  rw [HN0.out]
  refine hK.out _ _ (Later.refl _) ?_
  clear hK K
  simp only [Act.put, List.setIfInBounds_toArray, List.set_cons_zero, List.set_cons_succ]
  refine late_one 6 (by kernel_rfl) (by kernel_rfl) (fun o ho => ?_)
  simp only [List.getElem?_toArray, List.getElem?_cons_zero, List.getElem?_cons_succ, Option.some.injEq] at ho; subst ho
  refine ⟨by kernel_rfl, fun wn hl K hK => ?_⟩
  have HI := Lib.hid (HI.out.later hl); have HB := Lib.hid (below_on HB.out hl); clear hl
  refine wp_enter _ _ (by go_simp; exact ⟨rfl, rfl⟩) ?_
  refine (rpassing_any (p 83) _).mono ?_; rintro e wm ⟨rfl, rfl⟩; refine ⟨_, rfl, ?_⟩
  rw [HN1.out]
  refine hK.out _ _ (Later.refl _) ?_
  clear hK K
  simp only [Act.put, List.setIfInBounds_toArray, List.set_cons_zero, List.set_cons_succ]
  refine late_take 7 (by kernel_rfl) (by kernel_rfl) (by kernel_rfl) (by kernel_rfl) (by kernel_rfl) (fun _ _ d _ _ h => by cases d <;> exact h) (fun o ho => ?_)
  simp only [List.getElem?_toArray, List.getElem?_cons_zero, List.getElem?_cons_succ, Option.some.injEq] at ho; subst ho
  refine ⟨.int .u64 ((n0 ^^^ n1 : Nat) : Int), Or.inl ⟨by kernel_rfl, fun w' hl => Or.inl ?_⟩, ?_⟩
  · (go_simp; rw [HX1.out])
  simp only [Act.put, List.setIfInBounds_toArray, List.set_cons_zero, List.set_cons_succ]
  refine late_one 10 (by kernel_rfl) (by kernel_rfl) (fun o ho => ?_)
  simp only [List.getElem?_toArray, List.getElem?_cons_zero, List.getElem?_cons_succ, Option.some.injEq] at ho; subst ho
  refine ⟨by kernel_rfl, fun wn hl K hK => ?_⟩
  have HI := Lib.hid (HI.out.later hl); have HB := Lib.hid (below_on HB.out hl); clear hl
  refine wp_enter _ _ (by go_simp; exact ⟨rfl, rfl⟩) ?_
  refine (rpromoted_any m _ HMl.out).mono ?_; rintro e wm ⟨rfl, hb⟩; refine ⟨_, rfl, ?_⟩
  rw [HN2.out]
  refine hK.out _ _ hb ?_
  have HI := Lib.hid (HI.out.later hb); have HB := Lib.hid (below_on HB.out hb); clear hb
  clear hK K
  simp only [Act.put, List.setIfInBounds_toArray, List.set_cons_zero, List.set_cons_succ]
  refine late_take 11 (by kernel_rfl) (by kernel_rfl) (by kernel_rfl) (by kernel_rfl) (by kernel_rfl) (fun _ _ d _ _ h => by cases d <;> exact h) (fun o ho => ?_)
  simp only [List.getElem?_toArray, List.getElem?_cons_zero, List.getElem?_cons_succ, Option.some.injEq] at ho; subst ho
  refine ⟨.int .u64 ((n0 ^^^ n1 ^^^ n2 : Nat) : Int), Or.inl ⟨by kernel_rfl, fun w' hl => Or.inl ?_⟩, ?_⟩
  · (go_simp; rw [HX2.out])
  simp only [Act.put, List.setIfInBounds_toArray, List.set_cons_zero, List.set_cons_succ]
  refine late_one 15 (by kernel_rfl) (by kernel_rfl) (fun o ho => ?_)
  simp only [List.getElem?_toArray, List.getElem?_cons_zero, List.getElem?_cons_succ, Option.some.injEq] at ho; subst ho
  refine ⟨by kernel_rfl, fun wn hl K hK => ?_⟩
  have HI := Lib.hid (HI.out.later hl); have HB := Lib.hid (below_on HB.out hl); clear hl
  refine wp_enter _ _ (by go_simp; exact ⟨rfl, rfl⟩) ?_
  refine (rpart_any 8 (p 0) _).mono ?_; rintro e wm ⟨rfl, rfl⟩; refine ⟨_, rfl, ?_⟩
  rw [HN3.out]
  refine hK.out _ _ (Later.refl _) ?_
  clear hK K
  simp only [Act.put, List.setIfInBounds_toArray, List.set_cons_zero, List.set_cons_succ]
  refine late_take 16 (by kernel_rfl) (by kernel_rfl) (by kernel_rfl) (by kernel_rfl) (by kernel_rfl) (fun _ _ d _ _ h => by cases d <;> exact h) (fun o ho => ?_)
  simp only [List.getElem?_toArray, List.getElem?_cons_zero, List.getElem?_cons_succ, Option.some.injEq] at ho; subst ho
  refine ⟨.int .u64 ((n0 ^^^ n1 ^^^ n2 ^^^ n3 : Nat) : Int), Or.inl ⟨by kernel_rfl, fun w' hl => Or.inl ?_⟩, ?_⟩
  · (go_simp; rw [HX3.out])
  simp only [Act.put, List.setIfInBounds_toArray, List.set_cons_zero, List.set_cons_succ]
  refine late_take 17 (by kernel_rfl) (by kernel_rfl) (by kernel_rfl) (by kernel_rfl) (by kernel_rfl) (fun _ _ d _ _ h => by cases d <;> exact h) (fun o ho => ?_)
  simp only [List.getElem?_toArray, List.getElem?_cons_zero, List.getElem?_cons_succ, Option.some.injEq] at ho; subst ho
  apply Exists.intro
  refine ⟨Or.inl ⟨by kernel_rfl, fun w' hl => Or.inl ?_⟩, ?_⟩
  · (go_simp; try with_reducible rfl)
  simp only [Act.put, List.setIfInBounds_toArray, List.set_cons_zero, List.set_cons_succ]
  refine late_end (by kernel_rfl) (fun wn hl => ?_)
  have HI := Lib.hid (HI.out.later hl); have HB := Lib.hid (below_on HB.out hl); clear hl
  rw [HV.out]
  have HBn := HB
  clear HX1 HX2 HX3 HN0 HN1 HN2 HN3 HV HN65 HMl HW83 HW0
  obtain ⟨g, hg⟩ : ∃ g, bgN p = g := ⟨_, rfl⟩
  have HE := Lib.hid (show xAc g (cL p 2) = keyN p by rw [← hg]; exact xAc_all p)
  rw [hg] at HBg ⊢
  clear hg
  have HI0 := Lib.hid (show b1 < wn.heap.size from HI.out.lt)
  go_wp2_with fail
  go_loopw [3, 4] (fun x i wr => ∃ k : Nat, k ≤ 64 ∧ i = .int .i64 k ∧ x = .int .u64 ((xAc g (boL p k) : Nat) : Int) ∧ Below wn.heap.size wn wr) (fun _ i _ => 64 - (intOf i).toNat)
  case atStart => exact ⟨0, by omega, rfl, by rw [show boL p 0 = [] from rfl, xAc_nil], Below.refl _ _⟩
  case round =>
    obtain ⟨k, hk, rfl, rfl, hbel⟩ := hrel
    have HBl := Lib.hid hbel
    have HRw := Lib.hid (HI.out.next hbel HI0.out)
    clear hbel
    by_cases h64 : k < 64
    · have hlk : (k : Int) < 64 := by omega
      have hk0 : (0 : Int) ≤ (k : Int) := by omega
      have hc : wr.cell? ⟨b1, 1 + k, none⟩ = some (.int .u8 (p (1 + k))) := by rw [HRw.out.cell _ (by omega), k_u8 (by omega)]
      have HY := Lib.hid (xAc_snoc HBg.out (boL_lt p k) (pieceN_lt (p (1 + k)) (k : Int)))
      obtain ⟨f0, f1⟩ := HP.out.bd k h64
      go_wp2_with (go_at_call 13; refine (rpiece_any _ _ _ f0 f1).mono ?_; rintro e w2 ⟨rfl, hb2⟩; have HB2 := Lib.hid hb2; clear hb2)
      go_roundw
      case rel => exact ⟨k + 1, by omega, by go_num, by rw [show boL p (k + 1) = boL p k ++ [pieceN (p (1 + k)) (k : Int)] from rfl, ← HY.out], HBl.out.trans (HB2.out.mono HBl.out.size)⟩
      case measure => simp [intOf]; omega
    · have e64 : k = 64 := by omega
      have h64f : decide ((k : Int) < 64) = false := decide_eq_false (by omega)
      rw [show boL p k = cL p 0 by rw [e64]; exact cL_zero p]
      clear hk h64 e64 HRw
      go_wp2_with fail
      go_loopw [3, 5] (fun x i wr => ∃ c : Nat, c ≤ 2 ∧ i = .int .i64 c ∧ x = .int .u64 ((xAc g (cL p c) : Nat) : Int) ∧ Below wn.heap.size wn wr) (fun _ i _ => 2 - (intOf i).toNat)
      case atStart => exact ⟨0, by omega, rfl, rfl, HBl.out⟩
      case round =>
        clear HBl
        obtain ⟨c, hc2, rfl, rfl, hbel⟩ := hrel
        have HBl := Lib.hid hbel
        clear hbel
        by_cases h2 : c < 2
        · have hlc : (c : Int) < 2 := by omega
          have hc0 : (0 : Int) ≤ (c : Int) := by omega
          have hwc : IntKind.u8.wrap (c : Int) = (c : Int) := wrap_u8_small (by omega)
          rw [dL_zero p c]
          go_wp2_with fail
          go_loopw [3, 6] (fun x i wr => ∃ d : Nat, d ≤ 2 ∧ i = .int .i64 d ∧ x = .int .u64 ((xAc g (dL p c d) : Nat) : Int) ∧ Below wn.heap.size wn wr) (fun _ i _ => 2 - (intOf i).toNat)
          case atStart => exact ⟨0, by omega, rfl, rfl, HBl.out⟩
          case round =>
            clear HBl
            obtain ⟨d, hd2, rfl, rfl, hbel⟩ := hrel
            have HBl := Lib.hid hbel
            have HRw := Lib.hid (HI.out.next hbel HI0.out)
            clear hbel
            by_cases hd : d < 2
            · have hld : (d : Int) < 2 := by omega
              have hd0 : (0 : Int) ≤ (d : Int) := by omega
              have hc : wr.cell? ⟨b1, 79 + c * 2 + d, none⟩ = some (.int .i8 (p (79 + c * 2 + d))) := by rw [HRw.out.cell _ (by omega), k_i8 (by omega) (by omega)]
              have HY := Lib.hid (xAc_snoc HBg.out (dL_lt p c d) (rookHN_lt (c : Int) (d : Int) (p (79 + c * 2 + d))))
              obtain ⟨f0, f1⟩ := HP.out.rook (79 + c * 2 + d) (by omega) (by omega)
              go_wp2_with (go_at_call 19; refine (rrook_nany _ _ _ _ hc0).mono ?_; rintro e w2 ⟨rfl, rfl⟩)
              go_roundw
              case rel => exact ⟨d + 1, by omega, by go_num, by rw [dL_succ, ← HY.out], HBl.out⟩
              case measure => simp [intOf]; omega
            · have e2 : d = 2 := by omega
              have h2f : decide ((d : Int) < 2) = false := decide_eq_false (by omega)
              rw [show dL p c d = kL p c 0 by rw [e2]; exact kL_zero p c]
              clear hd2 hd e2
              go_wp2_with fail
              go_loopw [3, 7] (fun x i wr => ∃ k : Nat, k ≤ 6 ∧ i = .int .i64 k ∧ x = .int .u64 ((xAc g (kL p c k) : Nat) : Int) ∧ Below wn.heap.size wn wr) (fun _ i _ => 6 - (intOf i).toNat)
              case atStart => exact ⟨0, by omega, rfl, rfl, HBl.out⟩
              case round =>
                clear HBl HRw
                obtain ⟨k2, hk6, rfl, rfl, hbel⟩ := hrel
                have HBl := Lib.hid hbel
                have HRw := Lib.hid (HI.out.next hbel HI0.out)
                clear hbel
                by_cases h6 : k2 < 6
                · have hlk : (k2 : Int) < 6 := by omega
                  have hk0 : (0 : Int) ≤ (k2 : Int) := by omega
                  have hwk : IntKind.u8.wrap (k2 : Int) = (k2 : Int) := wrap_u8_small h6
                  have hc : wr.cell? ⟨b1, 66 + c * 6 + k2, none⟩ = some (.int .u8 (p (66 + c * 6 + k2))) := by rw [HRw.out.cell _ (by omega), k_u8 (by omega)]
                  have HY := Lib.hid (xAc_snoc HBg.out (kL_lt p c k2) (pockN_lt (c : Int) (k2 : Int) (p (66 + c * 6 + k2))))
                  obtain ⟨f0, f1⟩ := HP.out.pock (66 + c * 6 + k2) (by omega) (by omega)
                  go_wp2_with (go_at_call 21; refine (rpocket_any _ _ _ _ hc0 f0 f1).mono ?_; rintro e w2 ⟨rfl, rfl⟩)
                  go_roundw
                  case rel => exact ⟨k2 + 1, by omega, by go_num, by rw [kL_succ, ← HY.out], HBl.out⟩
                  case measure => simp [intOf]; omega
                · have e6 : k2 = 6 := by omega
                  have h6f : decide ((k2 : Int) < 6) = false := decide_eq_false (by omega)
                  rw [show kL p c k2 = kL p c 6 by rw [e6]]
                  clear hk6 h6 e6
                  have hc : wr.cell? ⟨b1, 84 + c, none⟩ = some (.int .u8 (p (84 + c))) := by rw [HRw.out.cell _ (by omega), k_u8 (by omega)]
                  have HY := Lib.hid (xAc_snoc HBg.out (kL_lt p c 6) (chkHN_lt (c : Int) (p (84 + c))))
                  obtain ⟨f0, f1⟩ := HP.out.chk (84 + c) (by omega) (by omega)
                  go_wp2_with (go_at_call 23; refine (rchecks_nany _ _ _ hc0 f0 f1).mono ?_; rintro e w2 ⟨rfl, rfl⟩)
                  go_roundw
                  case rel => exact ⟨c + 1, by omega, by go_num, by rw [cL_succ, ← HY.out], HBl.out⟩
                  case measure => simp [intOf]; omega
        · obtain rfl : c = 2 := by omega
          go_wp2_with fail
          go_ret
          exact ⟨ret_u64 HE.out, HBn.out.trans (HBl.out.mono HBn.out.size)⟩
end Go.Proofs.YtboopdmgphhemaaDoor
