/-
 Several texts in one: LgI, LgJ.
-/
import Derived.Test.YteblmnbagbdiiaaGreatDoorAfGrF
import Derived.Lib.SliceRun
import Derived.Deep.MidRow
/-
 Layer 17: slices.IndexFunc, ContainsFunc, DeleteFunc of moves, by any function value that tells of a move.
-/
set_option maxRecDepth 100000
set_option maxHeartbeats 4000000
namespace Go.Proofs.YteblmnbagbdiiaaGreatDoor
open Go.RowKit Go.Shelf
set_option linter.unusedVariables false
set_option linter.unusedSimpArgs false
attribute [local go_sem] Oper.semAt_some

def PredB (N : FuncId) (lb : Array Value) (f : Mv → Bool) (B : Nat) (w : World) : Prop :=
 ∀ (W : World) (m : Mv), Below B w W → FitV m → Calls Tryz.prog N (#[.agg (mvA m)] ++ lb) W (BoL (f m) W)
theorem PredB.on {N : FuncId} {lb : Array Value} {f : Mv → Bool} {B : Nat} {w w' : World} (h : PredB N lb f B w) (hb : Below B w w') : PredB N lb f B w' := fun W m k hm => h W m (hb.trans k) hm
theorem PredB.up {N : FuncId} {lb : Array Value} {f : Mv → Bool} {B C : Nat} {w : World} (h : PredB N lb f B w) (hc : B ≤ C) : PredB N lb f C w := fun W m k hm => h W m (k.mono hc) hm
def IdxF (f : Mv → Bool) (L : List Mv) (w : World) (e : Ending) (w' : World) : Prop :=
 ∃ r : Int, e = .returned (.int .i64 r) ∧ ((r = -1 ∧ L.any f = false) ∨ ∃ (k : Nat) (x : Mv), r = (k : Int) ∧ L[k]? = some x ∧ f x = true ∧ (L.take k).any f = false) ∧ Below w.heap.size w w'
theorem below_down {B : Nat} {w w' : World} (h : Below w.heap.size w w') (hB : B ≤ w.heap.size) : Below B w w' := h.mono hB
theorem indexF {N : FuncId} {lb : Array Value} {f : Mv → Bool} (eN : ∀ args w, (callFunc N args).run Tryz.prog w = .ok (.enter N args) w) (B : Nat) (L : List Mv) (a : Option Addr) (c : Nat) (w : World) (hB : B ≤ w.heap.size) (hn : L.length ≤ 1000000)
  (hv : ∀ (i : Nat) (m : Mv), L[i]? = some m → FitV m) (h1 : Mvs L a w) (hp : PredB N lb f B w) :
  Calls Tryz.prog 101 #[.slice a L.length c, .func (.func N) #[] lb] w (IdxF f L w) := by
 have HL := H_ h1
 have HV := H_ hv
 have HP := H_ hp
 have HN := H_ hn
 have HBz := H_ hB
 have HB := H_ (Below.refl w.heap.size w)
 clear h1 hv hp hn hB
 go_enter Tryz.func101, Tryz.ntmps101
 go_wp2
 go_loopw [5, 8] (fun _ i wr => ∃ k : Nat, k ≤ L.length ∧ i = .int .i64 (k : Int) ∧ (L.take k).any f = false ∧ Mvs L a wr ∧ Below w.heap.size w wr) (fun _ i _ => L.length - (intOf i).toNat)
 case atStart => exact ⟨0, by omega, rfl, by simp, HL.out, HB.out⟩
 case round =>
  clear HL HB
  obtain ⟨k, hk, rfl, hany, hl, hb⟩ := hrel
  have HL := H_ hl
  have HB := H_ hb
  have HA := H_ hany
  clear hl hb hany
  by_cases hlt : k < L.length
  ·obtain ⟨x, hx⟩ : ∃ x, L[k]? = some x := ⟨_, List.getElem?_eq_getElem hlt⟩
   obtain ⟨g, rfl, _⟩ := HL.out.at hx
   have HX := H_ hx
   have HVx := H_ (HV.out k x hx)
   have hw1 : (k : Int) < 1000000 := by have := HN.out; omega
   have hcall := HP.out _ x (below_down HB.out HBz.out) HVx.out
   clear hx
   obtain ⟨e, he⟩ : ∃ e, f x = e := ⟨_, rfl⟩
   have HE := H_ he
   rw [he] at hcall
   clear he
   cases e
   ·go_wp2_with (first
     | (refine step_mvI rfl _ rfl g k _ rfl (by first | omega | (simp; omega)) x (HL.out.get HX.out) ?_)
     | (go_at_fn N; refine hcall.mono ?_; rintro e w3 ⟨rfl, hb⟩; have HL := H_ (HL.out.later hb); have HB := H_ (below_on HB.out hb); clear hb))
    go_roundw
    case rel => exact ⟨k + 1, by omega, by go_num, take_any HX.out HA.out HE.out, HL.out, HB.out⟩
    case measure => simp [intOf]; omega
   ·go_wp2_with (first
     | (refine step_mvI rfl _ rfl g k _ rfl (by first | omega | (simp; omega)) x (HL.out.get HX.out) ?_)
     | (go_at_fn N; refine hcall.mono ?_; rintro e w3 ⟨rfl, hb⟩; have HL := H_ (HL.out.later hb); have HB := H_ (below_on HB.out hb); clear hb))
    go_ret
    exact ⟨_, rfl, Or.inr ⟨k, x, rfl, HX.out, HE.out, HA.out⟩, HB.out⟩
  ·go_wp2
   go_ret
   obtain rfl : k = L.length := by omega
   exact ⟨_, rfl, Or.inl ⟨rfl, by have := HA.out; rwa [List.take_length] at this⟩, HB.out⟩
theorem containsF {N : FuncId} {lb : Array Value} {f : Mv → Bool} (eN : ∀ args w, (callFunc N args).run Tryz.prog w = .ok (.enter N args) w) (B : Nat) (L : List Mv) (a : Option Addr) (c : Nat) (w : World) (hB : B ≤ w.heap.size) (hn : L.length ≤ 1000000)
  (hv : ∀ (i : Nat) (m : Mv), L[i]? = some m → FitV m) (h1 : Mvs L a w) (hp : PredB N lb f B w) :
  Calls Tryz.prog 100 #[.slice a L.length c, .func (.func N) #[] lb] w (BoL (L.any f) w) := by
 have HI := H_ (indexF eN B L a c w hB hn hv h1 hp)
 clear h1 hv hp hn hB
 go_enter Tryz.func100, Tryz.ntmps100
 go_wp2_with (go_at_call 101; refine HI.out.mono ?_; rintro e w3 ⟨r, rfl, hr, hb⟩; have HB := H_ hb; have HR := H_ hr; clear hb hr)
 go_ret
 refine ⟨?_, HB.out⟩
 rcases HR.out with ⟨rfl, h⟩ | ⟨k, x, rfl, hx, hf, _⟩
 ·rw [h]; rfl
 ·rw [hit_any hx hf, decide_eq_true (by omega)]; rfl
end Go.Proofs.YteblmnbagbdiiaaGreatDoor
/-
 Layer 17: slices.DeleteFunc of moves: what is kept, in the list's own block.
-/
namespace Go.Proofs.YteblmnbagbdiiaaGreatDoor
open Go.RowKit Go.Shelf
set_option linter.unusedVariables false
set_option linter.unusedSimpArgs false
attribute [local go_sem] Oper.semAt_some

theorem cmL_length (L : List Mv) : (cmL L).length = 5 * L.length := by
 induction L with
 | nil => rfl
 | cons x L ih =>
  have e : cmL (x :: L) = (mvA x).toList ++ cmL L := rfl
  have h5 : (mvA x).toList.length = 5 := rfl
  rw [e, List.length_append, ih, h5, List.length_cons]; omega
theorem cmL_take (L : List Mv) (k : Nat) : (cmL L).take (5 * k) = cmL (L.take k) := by
 induction L generalizing k with
 | nil => simp [cmL]
 | cons x L ih =>
  cases k with
  | zero => simp [cmL]
  | succ k =>
   have e : cmL (x :: L) = (mvA x).toList ++ cmL L := rfl
   have e2 : cmL ((x :: L).take (k + 1)) = (mvA x).toList ++ cmL (L.take k) := rfl
   have h5 : (mvA x).toList.length = 5 := rfl
   rw [e, e2, List.take_append, h5, show 5 * (k + 1) - 5 = 5 * k by omega, ih, List.take_of_length_le (by rw [h5]; omega)]
def MvsG (g : Nat) (M : List Mv) (n c : Nat) (w : World) : Prop := ∃ cur, Blk w g 40 cur ∧ n ≤ c ∧ c ≤ maxLen ∧ cur.size = c * 5 ∧ M.length = n ∧ cur.toList.take (5 * n) = cmL M
theorem MvsG.later {g n c : Nat} {M : List Mv} {w w' : World} (h : MvsG g M n c w) (hb : Below w.heap.size w w') : MvsG g M n c w' := by
 obtain ⟨cur, h1, h2⟩ := h
 exact ⟨cur, Blk.later h1 hb, h2⟩
theorem MvsG.upd {g n c b : Nat} {M : List Mv} {w w' : World} (h : MvsG g M n c w) (U : Upd b w w') (hn : g ≠ b) : MvsG g M n c w' := by
 obtain ⟨cur, h1, h2⟩ := h
 exact ⟨cur, Blk.apart h1 U hn, h2⟩
theorem MvsG.lt {g n c : Nat} {M : List Mv} {w : World} (h : MvsG g M n c w) : g < w.heap.size := by
 obtain ⟨cur, h1, _⟩ := h
 exact Blk.lt h1
theorem MvsG.len {g n c : Nat} {M : List Mv} {w : World} (h : MvsG g M n c w) : M.length = n := by
 obtain ⟨_, _, _, _, _, h5, _⟩ := h; exact h5
theorem MvsG.cap {g n c : Nat} {M : List Mv} {w : World} (h : MvsG g M n c w) : n ≤ c ∧ c ≤ maxLen := by
 obtain ⟨_, _, h2, h3, _⟩ := h; exact ⟨h2, h3⟩
theorem MvsG.own {B g n c : Nat} {M : List Mv} {w : World} (h : MvsG g M n c w) (hB : B ≤ g) : MvsO B M (.slice (some ⟨g, 0, none⟩) n c) w := by
 obtain ⟨cur, h1, h2, h3, h4, h5, h6⟩ := h
 exact ⟨by rw [cmL_length]; omega, .inr ⟨g, c, cur, by rw [h5], hB, h1, by omega, h3, h4, by rw [Nat.mul_comm, h5]; exact h6⟩⟩
theorem MvsG.of {B : Nat} {M : List Mv} {v : Value} {w : World} (h : MvsO B M v w) (hv : M ≠ []) : ∃ g c, v = .slice (some ⟨g, 0, none⟩) M.length c ∧ B ≤ g ∧ MvsG g M M.length c w := by
 rcases h.2 with ⟨_, hn⟩ | ⟨g, cap, cur, e, hB, hg, h1, h2, h3, h4⟩
 ·exact absurd (List.length_eq_zero_iff.1 hn) hv
 ·exact ⟨g, cap, e, hB, cur, hg, h1, h2, h3, rfl, by rw [Nat.mul_comm]; exact h4⟩
theorem MvsG.mvs {g n c : Nat} {M : List Mv} {w : World} (h : MvsG g M n c w) : Mvs M (some ⟨g, 0, none⟩) w := by
 have hl : M.length = n := by obtain ⟨_, _, _, _, _, h5, _⟩ := h; exact h5
 obtain ⟨a, c', e, hm⟩ := mvs_of (h.own (Nat.le_refl g))
 obtain rfl : a = some ⟨g, 0, none⟩ := by injection e with e; exact e.symm
 exact hm
theorem MvsG.there {g n c : Nat} {M : List Mv} {w : World} (h : MvsG g M n c w) {i k : Nat} (hi : 5 * i + k ≤ 5 * n) : w.there g (5 * i) k := by
 obtain ⟨cur, h1, h2, _, h4, _⟩ := h
 exact h1.there _ _ (by omega)
theorem MvsG.set {g n c : Nat} {M : List Mv} {w : World} (h : MvsG g M n c w) {i : Nat} (hi : i < n) (m : Mv) : MvsG g (M.set i m) n c (w.setCells g (5 * i) (mvA m).toList) := by
 obtain ⟨cur, h1, h2, h3, h4, h5, h6⟩ := h
 have hsz : (mvA m).toList.length = 5 := rfl
 refine ⟨putsA (mvA m).toList (5 * i) cur, h1.sets _ _, h2, h3, by rw [putsA_size]; exact h4, by simp [h5], ?_⟩
 apply List.ext_getElem?
 intro j
 by_cases hj : j < 5 * n
 ·rw [List.getElem?_take_of_lt hj, Array.getElem?_toList, putsA_get _ _ _ _ (by rw [hsz]; omega)]
  have hq : j / 5 < n := by omega
  have hr : j % 5 < 5 := by omega
  have ej : j = 5 * (j / 5) + j % 5 := by omega
  obtain ⟨x, hx⟩ : ∃ x, M[j / 5]? = some x := ⟨_, List.getElem?_eq_getElem (by omega)⟩
  by_cases e : j / 5 = i
  ·have hin : 5 * i ≤ j ∧ j < 5 * i + (mvA m).toList.length := by rw [hsz]; omega
   have hm : (M.set i m)[j / 5]? = some m := by rw [e, List.getElem?_set_self (by omega)]
   have := cmL_get _ _ m (j % 5) hm hr
   rw [← ej] at this
   rw [if_pos hin, this, show j - 5 * i = j % 5 by omega, Array.getElem?_toList]
  ·have hout : ¬ (5 * i ≤ j ∧ j < 5 * i + (mvA m).toList.length) := by rw [hsz]; omega
   have hm : (M.set i m)[j / 5]? = some x := by rw [List.getElem?_set_ne (fun h => e h.symm)]; exact hx
   have h7 := cmL_get _ _ x (j % 5) hm hr
   have h8 := cmL_get _ _ x (j % 5) hx hr
   rw [← ej] at h7 h8
   rw [if_neg hout, h7, ← h8, ← h6, List.getElem?_take_of_lt hj, Array.getElem?_toList]
 ·rw [List.getElem?_eq_none (by rw [List.length_take]; omega), List.getElem?_eq_none (by rw [cmL_length, List.length_set]; omega)]
theorem MvsG.cut {g n c : Nat} {M : List Mv} {w : World} (h : MvsG g M n c w) {i : Nat} (hi : i ≤ n) (Z : List Value) : MvsG g (M.take i) i c (w.setCells g (5 * i) Z) := by
 obtain ⟨cur, h1, h2, h3, h4, h5, h6⟩ := h
 refine ⟨putsA Z (5 * i) cur, h1.sets _ _, by omega, h3, by rw [putsA_size]; exact h4, by rw [List.length_take]; omega, ?_⟩
 rw [← cmL_take, ← h6, List.take_take, Nat.min_eq_left (by omega)]
 apply List.ext_getElem?
 intro j
 by_cases hj : j < 5 * i
 ·rw [List.getElem?_take_of_lt hj, List.getElem?_take_of_lt hj, Array.getElem?_toList, Array.getElem?_toList]
  have : ∀ (vs : List Value) (o : Nat) (cs : Array Value), j < o → (putsA vs o cs)[j]? = cs[j]? := by
   intro vs
   induction vs with
   | nil => intro o cs _; rfl
   | cons v r ih =>
    intro o cs ho
    unfold putsA
    rw [ih (o + 1) _ (by omega), Array.getElem?_setIfInBounds, if_neg (by omega)]
  exact this _ _ _ hj
 ·rw [List.getElem?_eq_none (by rw [List.length_take]; omega), List.getElem?_eq_none (by rw [List.length_take]; omega)]
theorem step_mvS {ops : Array Oper} {rest : List Oper} {op : Oper} {a : Act} {w : World} {Q : Exit → Act → World → Prop} (hw : Region.wanted op (yielded ops a.tmps) = true) (x y : Operand) (ho : op.op = .store 40 x y) (g i off : Nat) (hx : a.eval x = .pointer (some ⟨g, off, none⟩)) (hi : off = 5 * i) (m : Mv) (hy : a.eval y = .agg (mvA m))
  {n c : Nat} {M : List Mv} (hr : MvsG g M n c w) (hlt : i < n) (h : ∀ w', Upd g w w' → MvsG g (M.set i m) n c w' → wpList Tryz.prog ops Q rest (a.put op.dst undef) w') : wpList Tryz.prog ops Q (op :: rest) a w := by
 subst hi
 exact wpList_want hw fun _ hK => wp_store_mid 40 x y ho g (5 * i) (mvA m) hx hy (hr.there (by have : (mvA m).size = 5 := rfl; omega)) sizeMv (mv_one _) (hK _ _ (h _ (Upd.setCells _ _ _ _) (hr.set hlt m)))
theorem run_clearM (w : World) (ty : TypeId) (g i k c : Nat) (hk : 0 < k) (ht : w.there g (5 * i) (5 * k)) :
  ∃ Z, (Builtin.clear_ #[33] ty #[.slice (some ⟨g, 5 * i, none⟩) k c]).run Tryz.prog w = .ok (.tuple #[]) (w.setCells g (5 * i) Z) := by
 obtain ⟨i0, hi0, hz0, hs0, hb0⟩ := infoMvA
 have hv : ∀ w, (zeroValue 40).run Tryz.prog w = .ok (.agg (mvA mv0)) w := fun w => by simp [zeroValue, typeInfo, hi0, hz0]
 have hZ : (Builtin.zeroCells (mvA mv0) k).toList.length = 5 * k := by show ((Array.range (k * 5)).map _).toList.length = _; simp; omega
 have hst := run_storeCells_cells (P := Tryz.prog) g (5 * i) (Builtin.zeroCells (mvA mv0) k).toList 0 w (fun j hj => by rw [hZ] at hj; simpa using (ht j hj).1) (fun j hj => by rw [hZ] at hj; simpa using (ht j hj).2)
  (fun v hv => by
   simp only [Builtin.zeroCells, Array.toList_map, List.mem_map] at hv
   obtain ⟨j, _, rfl⟩ := hv
   have h5 : (mvA mv0).size = 5 := rfl
   have : ∀ t, t < 5 → ((mvA mv0)[t]!).oneCell' = true := by decide
   rw [h5]
   exact this _ (Nat.mod_lt _ (by decide)))
 simp only [Nat.add_zero] at hst
 obtain ⟨m, rfl⟩ : ∃ m, k = m + 1 := ⟨k - 1, by omega⟩
 exact ⟨(Builtin.zeroCells (mvA mv0) (m + 1)).toList, by simp [Builtin.clear_, run_underlying Tryz.underlying33, hv, Value.cells, hst]⟩
theorem take_filter {α : Type} {f : α → Bool} {L : List α} {k : Nat} {x : α} (h : L[k]? = some x) : (L.take (k + 1)).filter f = (L.take k).filter f ++ (if f x = true then [x] else []) := by
 rw [List.take_add_one, h, List.filter_append]
 cases e : f x <;> simp [e]
theorem keep_all {α : Type} {f : α → Bool} {L : List α} {k : Nat} (h : (L.take k).any f = false) : (L.take k).filter (fun x => !f x) = L.take k :=
 List.filter_eq_self.2 fun x hx => by have := List.any_eq_false.1 h x hx; simpa using this
theorem take_put {α : Type} {M : List α} {i : Nat} (x : α) (h : i < M.length) : (M.set i x).take (i + 1) = M.take i ++ [x] := by
 rw [List.take_add_one, List.getElem?_set_self h, List.take_set_of_le (Nat.le_refl i)]; rfl
def DelL (K : List Mv) (B : Nat) (w : World) (e : Ending) (w' : World) : Prop := ∃ v, e = .returned v ∧ MvsO B K v w' ∧ Below B w w'
theorem deleteF {N : FuncId} {lb : Array Value} {f : Mv → Bool} (eN : ∀ args w, (callFunc N args).run Tryz.prog w = .ok (.enter N args) w) (B : Nat) (L : List Mv) (v : Value) (w : World) (hB : B ≤ w.heap.size) (hn : L.length ≤ 1000000)
  (hv : ∀ (i : Nat) (m : Mv), L[i]? = some m → FitV m) (h1 : MvsO B L v w) (hp : PredB N lb f B w) :
  Calls Tryz.prog 43 #[v, .func (.func N) #[] lb] w (DelL (L.filter fun m => !f m) B w) := by
 obtain ⟨a, c, rfl, hm⟩ := mvs_of h1
 have hI := indexF eN B L a c w hB hn hv hm hp
 have HI := H_ hI
 have HO := H_ h1
 have HV := H_ hv
 have HP := H_ hp
 have HN := H_ hn
 have HBz := H_ hB
 clear hI h1 hv hp hn hm hB
 go_enter Tryz.func43, Tryz.ntmps43
 go_wp2_with fail
 refine HI.out.mono ?_
 rintro e w3 ⟨r, rfl, hr, hb⟩
 have HO := H_ (HO.out.later hb)
 have HB := H_ (below_down hb HBz.out)
 clear hb
 rcases hr with ⟨rfl, h0⟩ | ⟨k, x, rfl, hx, hf, hk⟩
 ·have HK := H_ (show (L.filter fun m => !f m) = L by have := keep_all (k := L.length) (by rw [List.take_length]; exact h0); rwa [List.take_length] at this)
  clear h0
  go_wp2
  go_ret
  exact ⟨_, rfl, by rw [HK.out]; exact HO.out, HB.out⟩
 ·obtain ⟨g, c', e, hg, hG⟩ := MvsG.of HO.out (by rintro rfl; cases hx)
  obtain ⟨rfl, rfl⟩ : a = some ⟨g, 0, none⟩ ∧ c = c' := by injection e with e1 e2 e3; exact ⟨e1, e3⟩
  obtain ⟨n, hn⟩ : ∃ n, L.length = n := ⟨_, rfl⟩
  have hkn : k < n := by rw [← hn]; exact (List.getElem?_eq_some_iff.1 hx).1
  have HG := H_ hG
  have HGB := H_ hg
  have HK := H_ (show L.take k = (L.take (k + 1)).filter (fun m => !f m) by rw [take_filter hx, hf]; simp only [Bool.not_true, Bool.false_eq_true, if_false, List.append_nil]; exact (keep_all hk).symm)
  have HNn := H_ hn
  have hn1 : (n : Int) ≤ 1000000 := by have := HN.out; omega
  have hne : ((k : Int) == -1) = false := beq_eq_false_iff_ne.2 (by omega)
  rw [hn] at HG ⊢
  clear hG hg hk hx hf e hn
  go_wp2_with fail
  go_loopw [5, 6, 7] (fun i j _ wr => ∃ (ii jj : Nat) (M : List Mv), i = .int .i64 (ii : Int) ∧ j = .int .i64 (jj : Int) ∧ ii < jj ∧ jj ≤ n ∧ M.take ii = (L.take jj).filter (fun m => !f m) ∧ M.drop jj = L.drop jj ∧ MvsG g M n c wr ∧ Below B w wr) (fun _ j _ _ => n - (intOf j).toNat)
  case atStart => exact ⟨k, k + 1, L, rfl, by go_num, by omega, by omega, HK.out, rfl, HG.out, HB.out⟩
  case round =>
   clear HG HB HK
   obtain ⟨ii, jj, M, rfl, rfl, hij, hjn, ht, hd, hg, hb⟩ := hrel
   have HG := H_ hg
   have HB := H_ hb
   have HK := H_ ht
   have HD := H_ hd
   clear hg hb ht hd
   by_cases hlt : jj < n
   ·obtain ⟨x, hx⟩ : ∃ x, L[jj]? = some x := ⟨_, List.getElem?_eq_getElem (by have := HNn.out; omega)⟩
    have hxm : M[jj]? = some x := by
     have h7 : (M.drop jj)[0]? = (L.drop jj)[0]? := by rw [HD.out]
     rwa [List.getElem?_drop, List.getElem?_drop, Nat.add_zero, hx] at h7
    have HX := H_ hxm
    clear hxm
    have HVx := H_ (HV.out jj x hx)
    have hcall := fun W h => HP.out W x h HVx.out
    have HC := H_ hcall
    have HT := H_ (take_filter (f := fun m => !f m) hx)
    have HDr := H_ (show M.drop (jj + 1) = L.drop (jj + 1) by have := congrArg (List.drop 1) HD.out; rwa [List.drop_drop, List.drop_drop] at this)
    have hlj : (jj : Int) < (n : Int) := by omega
    clear hx hcall
    obtain ⟨e, he⟩ : ∃ e, f x = e := ⟨_, rfl⟩
    have HE := H_ he
    cases e
    ·go_wp2_with (first
      | (refine step_mvI rfl _ rfl g jj _ rfl (by first | omega | (simp; omega)) x (HG.out.mvs.get HX.out) ?_)
      | (guard_target = gA 7; refine blk_alloc rfl 40 rfl (mvA mv0) zeroMv ?_; intro b7 wn Nw R; have HG7 := H_ (show g ≠ b7 by have := HG.out.lt; have := Nw.at_; omega); have HGb := H_ (show B ≤ b7 by have := HB.out.size; have := HBz.out; have := Nw.at_; omega); have HG := H_ (HG.out.later Nw.below); have HB := H_ (HB.out.trans (below_down Nw.below (by have := HB.out.size; have := HBz.out; omega))); have HR7 := H_ R; clear Nw R)
      | (guard_target = gS 7; refine blk_store rfl 40 _ _ rfl b7 rfl (mvA mv0) (mvA x) rfl HR7.out rfl (mv_one _) sizeMv ?_; intro wn U R; have HG := H_ (HG.out.upd U HG7.out); have HB := H_ (HB.out.trans (U.below HGb.out)); have HR7 := H_ R; clear U R)
      | (guard_target = gL 7; refine blk_load rfl 40 _ rfl b7 rfl (mvA x) HR7.out _ Tryz.underlying40 rfl sizeMv ?_)
      | (go_at_fn N; refine (HC.out _ HB.out).mono ?_; rintro e w4 ⟨rfl, hb⟩; rw [he]; have HG := H_ (HG.out.later hb); have HR7 := H_ (Blk.later HR7.out hb); have HB := H_ (HB.out.trans (below_down hb (by have := HB.out.size; have := HBz.out; omega))); clear hb)
      | (guard_target = gS 33; refine step_mvS rfl _ _ rfl g ii _ rfl (by first | omega | (simp; omega)) x rfl HG.out (by omega) ?_; intro wn U R; have HG := H_ R; have HB := H_ (HB.out.trans (U.below HGB.out)); clear U R))
     go_roundw
     case rel =>
      have hl := HG.out.len
      have hl2 : M.length = n := by rw [← hl, List.length_set]
      refine ⟨ii + 1, jj + 1, M.set ii x, by go_num, by go_num, by omega, by omega, ?_, ?_, HG.out, HB.out⟩
      ·rw [take_put x (by rw [hl2]; omega), HK.out, HT.out, he]; rfl
      ·rw [List.drop_set_of_lt (by omega)]; exact HDr.out
     case measure => simp [intOf]; omega
    ·go_wp2_with (first
      | (refine step_mvI rfl _ rfl g jj _ rfl (by first | omega | (simp; omega)) x (HG.out.mvs.get HX.out) ?_)
      | (guard_target = gA 7; refine blk_alloc rfl 40 rfl (mvA mv0) zeroMv ?_; intro b7 wn Nw R; have HG7 := H_ (show g ≠ b7 by have := HG.out.lt; have := Nw.at_; omega); have HGb := H_ (show B ≤ b7 by have := HB.out.size; have := HBz.out; have := Nw.at_; omega); have HG := H_ (HG.out.later Nw.below); have HB := H_ (HB.out.trans (below_down Nw.below (by have := HB.out.size; have := HBz.out; omega))); have HR7 := H_ R; clear Nw R)
      | (guard_target = gS 7; refine blk_store rfl 40 _ _ rfl b7 rfl (mvA mv0) (mvA x) rfl HR7.out rfl (mv_one _) sizeMv ?_; intro wn U R; have HG := H_ (HG.out.upd U HG7.out); have HB := H_ (HB.out.trans (U.below HGb.out)); have HR7 := H_ R; clear U R)
      | (guard_target = gL 7; refine blk_load rfl 40 _ rfl b7 rfl (mvA x) HR7.out _ Tryz.underlying40 rfl sizeMv ?_)
      | (go_at_fn N; refine (HC.out _ HB.out).mono ?_; rintro e w4 ⟨rfl, hb⟩; rw [he]; have HG := H_ (HG.out.later hb); have HB := H_ (HB.out.trans (below_down hb (by have := HB.out.size; have := HBz.out; omega))); clear hb))
     go_roundw
     case rel => exact ⟨ii, jj + 1, M, rfl, by go_num, by omega, by omega, by rw [HK.out, HT.out, he]; simp, HDr.out, HG.out, HB.out⟩
     case measure => simp [intOf]; omega
   ·obtain rfl : jj = n := by omega
    have hii : (ii : Int) < (jj : Int) := by omega
    have hl := HG.out.len
    have hcap := HG.out.cap
    obtain ⟨Z, hZ⟩ := run_clearM wr 0 g ii (jj - ii) (c - ii) (by omega) (HG.out.there (by omega))
    rw [show 5 * ii = ii * 5 by omega] at hZ
    go_wp2
    go_ret
    have hd : L.take jj = L := List.take_of_length_le (by have := HNn.out; omega)
    have HG2 := HG.out.cut (i := ii) (by omega) Z
    rw [HK.out, hd] at HG2
    exact ⟨_, rfl, by rw [show ii * 5 = 5 * ii by omega]; exact HG2.own HGB.out, HB.out.trans ((Upd.setCells g Z (ii * 5) _).below HGB.out)⟩
end Go.Proofs.YteblmnbagbdiiaaGreatDoor
