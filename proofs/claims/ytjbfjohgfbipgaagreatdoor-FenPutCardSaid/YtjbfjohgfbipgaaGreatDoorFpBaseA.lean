/-
  Several texts in one: FpCan, FpShelf, FpRank, FpCanB, FpCanC, FnRooks, FnPocket, SqTextRef.
-/
import Derived.Test.YtjbfjohgfbipgaaGreatDoorFnWrit
import Derived.Test.YtjbfjohgfbipgaaGreatDoorFnBaseC
import Derived.Test.YtjbfjohgfbipgaaGreatDoorFnBaseB
import Derived.Test.YtjbfjohgfbipgaaGreatDoorShelf
import Derived.Test.YtjbfjohgfbipgaaGreatDoorFnBaseA
import Derived.WalkSmall
import Derived.Deep.QuietTactic
import Derived.Deep.RegionHeld
import Derived.WalkSpells
import Derived.Lib.Strings
/-
  Contracts of the program's tests of a position that can be written, first part (layer 10).
-/
namespace Go.Proofs.YtjbfjohgfbipgaaGreatDoor
open Go.RowKit
set_option linter.unusedVariables false
set_option linter.unusedSimpArgs false

theorem isPassing_any (s : Int) (w : World) : Calls Tryz.prog 27 #[.int .i8 s] w (Bo (decide (-1 ≤ s) && decide (s < 64)) w) := by
  cases g0 : decide (-1 ≤ s)
  · go_enter Tryz.func27, Tryz.ntmps27
    go_wp2
    go_ret
    exact ⟨pc_bool rfl, rfl⟩
  · have HS := Lib.hid (show True from trivial)
    cases g1 : decide (s < 64)
    · go_enter Tryz.func27, Tryz.ntmps27
      go_wp2
      go_ret
      exact ⟨pc_bool rfl, rfl⟩
    · go_enter Tryz.func27, Tryz.ntmps27
      go_wp2
      go_ret
      exact ⟨pc_bool rfl, rfl⟩
theorem isClock_any (s : Int) (w : World) : Calls Tryz.prog 28 #[.int .i64 s] w (Bo (decide (0 ≤ s) && decide (s ≤ 10000)) w) := by
  cases g0 : decide (0 ≤ s)
  · go_enter Tryz.func28, Tryz.ntmps28
    go_wp2
    go_ret
    exact ⟨pc_bool rfl, rfl⟩
  · cases g1 : decide (s ≤ 10000)
    · go_enter Tryz.func28, Tryz.ntmps28
      go_wp2
      go_ret
      exact ⟨pc_bool rfl, rfl⟩
    · go_enter Tryz.func28, Tryz.ntmps28
      go_wp2
      go_ret
      exact ⟨pc_bool rfl, rfl⟩
theorem isFile_any (s : Int) (w : World) : Calls Tryz.prog 93 #[.int .i64 s] w (Bo (decide (0 ≤ s) && decide (s < 8)) w) := by
  cases g0 : decide (0 ≤ s)
  · go_enter Tryz.func93, Tryz.ntmps93
    go_wp2
    go_ret
    exact ⟨pc_bool rfl, rfl⟩
  · cases g1 : decide (s < 8)
    · go_enter Tryz.func93, Tryz.ntmps93
      go_wp2
      go_ret
      exact ⟨pc_bool rfl, rfl⟩
    · go_enter Tryz.func93, Tryz.ntmps93
      go_wp2
      go_ret
      exact ⟨pc_bool rfl, rfl⟩
def I64E (n : Int) (w : World) (e : Ending) (w' : World) : Prop := e = .returned (.int .i64 n) ∧ w = w'
theorem home_any (c : Int) (w : World) (hc : c = 0 ∨ c = 1) : Calls Tryz.prog 95 #[.int .u8 c] w (I64E (7 * c) w) := by
  rcases hc with rfl | rfl
  · go_enter Tryz.func95, Tryz.ntmps95
    go_wp2
    go_ret
    exact ⟨rfl, rfl⟩
  · go_enter Tryz.func95, Tryz.ntmps95
    go_wp2
    go_ret
    exact ⟨rfl, rfl⟩
theorem fp_arr (p : Nat → Int) (off n : Nat) (K : IntKind) (hk : ∀ j, j < n → kAt (off + j) = K) : (partL p off n).toArray = arrA n K (fun j => p (off + j)) := by
  apply Array.ext_getElem?
  intro i
  by_cases hi : i < n
  · rw [arrA_get _ _ _ _ hi]; simp [partL, hi, hk i hi]
  · rw [Array.getElem?_eq_none (by rw [List.size_toArray, partL_len]; omega), Array.getElem?_eq_none (by rw [arrA_size]; omega)]
/-- The array of a position's field, read at once. -/
theorem step_part {ops : Array Oper} {rest : List Oper} {op : Oper} {a : Act} {w : World} {Q : Exit → Act → World → Prop} (hw : Region.wanted op (yielded ops a.tmps) = true) (ty : TypeId) (x : Operand) (ho : op.op = .load ty x) (b o n : Nat) (K : IntKind) (hx : a.eval x = .pointer (some ⟨b, o, none⟩)) (p : Nat → Int) (hr : Row w b p) (hn : o + n ≤ 88) (hk : ∀ j, j < n → kAt (o + j) = K)
    (d : TypeDesc) (hu : Tryz.prog.underlying ty = some d) (hd : d.isRow = true) (hi : (Tryz.prog.info? ty).map (·.size) = some n)
    (h : wpList Tryz.prog ops Q rest (a.put op.dst (.agg (arrA n K fun j => p (o + j)))) w) : wpList Tryz.prog ops Q (op :: rest) a w :=
  step_read hw ty x ho b o n hx p hr hn d hu hd hi (by rw [fp_arr p o n K hk]; exact h)
theorem kat_bd : ∀ j, j < 64 → kAt (1 + j) = .u8 := fun j hj => kAt_board (Nat.zero_le _) hj
theorem shr_bitF {n a : Nat} (hn : n < W64) : (bits .and .u64 ((n : Int) / 2 ^ a) 1 == 1) = n.testBit a := by
  rw [show ((n : Int) / 2 ^ a) = ((n / 2 ^ a : Nat) : Int) by simp, show (1 : Int) = ((1 : Nat) : Int) from rfl, and_nat (Nat.lt_of_le_of_lt (Nat.div_le_self _ _) hn) (by decide)]
  rw [Nat.and_one_is_mod, Nat.testBit_eq_decide_div_mod_eq]
  rw [Bool.eq_iff_iff, beq_iff_eq, decide_eq_true_eq]; omega
theorem firstF_at {n j : Nat} (hj : n.testBit j = true) (hj64 : j < 64) (h : ∀ i, i < j → n.testBit i = false) : firstN n = (j : Int) := by
  have hm : j ∈ listN n := mem_listN.2 ⟨hj64, hj⟩
  unfold firstN
  cases hl : listN n with
  | nil => rw [hl] at hm; cases hm
  | cons a t =>
    have ha := (mem_listN.1 (show a ∈ listN n by rw [hl]; simp)).2
    have hs := listN_sorted n
    rw [hl] at hs hm
    show (a : Int) = j
    rcases List.mem_cons.1 hm with rfl | hm
    · rfl
    · have h1 := (List.pairwise_cons.1 hs).1 j hm
      rw [h a h1] at ha; cases ha
theorem firstF_none {n : Nat} (h : ∀ i, i < 64 → n.testBit i = false) : firstN n = -1 := by
  unfold firstN
  cases hl : listN n with
  | nil => rfl
  | cons a t =>
    have ha := mem_listN.1 (show a ∈ listN n by rw [hl]; simp)
    rw [h a ha.1] at ha; cases ha.2
theorem ofB_king {c x : Int} (hc : c = 0 ∨ c = 1) : ofB c 6 x = (x == 8 * c + 6) := by
  rw [Bool.eq_iff_iff, beq_iff_eq]
  unfold ofB
  constructor
  · intro h
    rw [Bool.and_eq_true, Bool.and_eq_true, Bool.or_eq_true, beq_iff_eq, beq_iff_eq, beq_iff_eq] at h
    obtain ⟨h1, h2, h3⟩ := h
    have h3 := h3.resolve_left (by decide)
    rw [colZ_yes h1] at h2
    rw [kndZ_yes h1] at h3
    omega
  · rintro rfl
    rcases hc with rfl | rfl <;> decide +kernel
theorem isPromoted_any (p : Nat → Int) (s : Nat) (w : World) (hs : s < 64) (hm : 0 ≤ p 65 ∧ (p 65).toNat < W64) : Calls Tryz.prog 62 #[.agg (posA p), .int .i64 (s : Int)] w (BoL (hasN (p 65).toNat (s : Int)) w) := by
  obtain ⟨m, hmm⟩ : ∃ m : Nat, p 65 = (m : Int) := ⟨(p 65).toNat, (Int.toNat_of_nonneg hm.1).symm⟩
  have HM := Lib.hid (show m < W64 by have := hm.2; rw [hmm] at this; exact this)
  have HB := Lib.hid (show (bits .and .u64 ((m : Int) / 2 ^ s) 1 == 1) = hasN (p 65).toNat (s : Int) by rw [shr_bitF HM.out, hasN_nat _ _ hs, hmm]; rfl)
  have s0 : (0 : Int) ≤ (s : Int) := by omega
  have s64 : (s : Int) < 64 := by omega
  have g0 : decide ((s : Int) < 0) = false := decide_eq_false (by omega)
  have HK := Lib.hid (fun (W : World) (b : Nat) (R : Row W b p) => show W.cell? ⟨b, 65, none⟩ = some (.int .u64 (m : Int)) by rw [R.cell 65 (by decide), hmm]; rfl)
  obtain ⟨r, hr⟩ : ∃ r, hasN (p 65).toNat (s : Int) = r := ⟨_, rfl⟩
  rw [hr] at HB
  rw [hr]
  clear hr hm hmm
  go_enter Tryz.func62, Tryz.ntmps62
  go_wp2_with (refine step_box rfl _ rfl p rfl ?_; intro b1 w1 N R; have HN := Lib.hid N.below; have hc := HK.out _ _ R; clear N R)
  go_ret
  exact ⟨pc_bool (by simpa using HB.out), HN.out⟩
theorem no_beq {a b : Int} (h : (a == b) = false) : a ≠ b := by simpa using h
theorem yes_beq {a b : Int} (h : (a == b) = true) : a = b := by simpa using h
set_option maxRecDepth 100000 in
set_option maxHeartbeats 1000000 in
theorem firstKing_any (p : Nat → Int) (c : Int) (w : World) (hp : BdR p) (hc : c = 0 ∨ c = 1) : Calls Tryz.prog 92 #[.agg (posA p), .int .u8 c] w (IntL (kinF p c) w) := by
  have HP := Lib.hid hp
  have HC := Lib.hid hc
  obtain ⟨q, hq⟩ : ∃ q, mkZ c 6 = q := ⟨_, rfl⟩
  have HQ := Lib.hid (show q = 8 * c + 6 by rw [← hq]; rcases hc with rfl | rfl <;> decide)
  have HAt := Lib.hid (fun (j : Nat) (hj : j < 64) (h1 : p (1 + j) = q) (h : ∀ i, i < j → p (1 + i) ≠ q) => show kinF p c = (j : Int) from firstF_at (by rw [ofN_testBit _ _ _ _ hj, ofB_king hc, h1, HQ.out]; simp) hj (fun i hi => by rw [ofN_testBit _ _ _ _ (by omega), ofB_king hc, ← HQ.out]; simpa using h i hi))
  have HNo := Lib.hid (fun (h : ∀ i, i < 64 → p (1 + i) ≠ q) => show kinF p c = -1 from firstF_none (fun i hi => by rw [ofN_testBit _ _ _ _ hi, ofB_king hc, ← HQ.out]; simpa using h i hi))
  have HMk := Lib.hid hq
  have HC0 := Lib.hid (show 0 ≤ c by omega)
  clear hq hc hp
  go_enter Tryz.func92, Tryz.ntmps92
  go_wp2_with (first
    | (refine step_box rfl _ rfl p rfl ?_; intro b1 w1 N R; have HB := Lib.hid N.below; have HR := Lib.hid R; clear N R)
    | (go_at_call 24; refine (mk_any _ _ _ HC0.out (by decide)).mono ?_; rintro e w' ⟨rfl, rfl⟩; rw [HMk.out])
    | (refine step_part rfl 22 _ rfl b1 1 64 .u8 rfl p HR.out (by decide) kat_bd _ Tryz.underlying22 rfl (by kernel_rfl) ?_))
  go_loopw [12] (fun i wr => ∃ s : Nat, s ≤ 64 ∧ i = .int .i64 s ∧ (∀ j, j < s → p (1 + j) ≠ q) ∧ wr = w1) (fun i _ => 64 - (intOf i).toNat)
  case atStart => exact ⟨0, by omega, rfl, fun j hj => by omega, rfl⟩
  case round =>
    obtain ⟨s, hs64, rfl, hall, rfl⟩ := hrel
    have HAl := Lib.hid hall
    clear hall
    by_cases hs : s < 64
    · have hls : (s : Int) < 64 := by omega
      have hs0 : (0 : Int) ≤ (s : Int) := by omega
      have HS := Lib.hid hs
      obtain ⟨x, hx⟩ : ∃ x, p (1 + s) = x := ⟨_, rfl⟩
      have HX := Lib.hid hx
      clear hx
      cases hz : (x == q)
      · go_wp2_with (refine arr_index rfl 22 5 _ _ rfl 64 .u8 _ rfl s rfl HS.out Tryz.underlying22 Tryz.underlying5 size5 ?_; dsimp only; rw [HX.out])
        go_roundw
        case rel => exact ⟨s + 1, by have := HS.out; omega, by go_num, fun j hj => if e : j = s then by subst e; rw [HX.out]; exact no_beq hz else HAl.out j (by omega), trivial⟩
        case measure => simp [intOf]; have := HS.out; omega
      · go_wp2_with (refine arr_index rfl 22 5 _ _ rfl 64 .u8 _ rfl s rfl HS.out Tryz.underlying22 Tryz.underlying5 size5 ?_; dsimp only; rw [HX.out])
        go_ret
        exact ⟨by rw [HAt.out s HS.out (by rw [HX.out]; exact yes_beq hz) HAl.out]; rfl, HB.out⟩
    · obtain rfl : s = 64 := by omega
      go_wp2_with fail
      go_ret
      exact ⟨by rw [HNo.out HAl.out]; rfl, HB.out⟩
end Go.Proofs.YtjbfjohgfbipgaaGreatDoor
/-
  Go's library as layer 10's program calls it: numbers to texts, texts put together, upper case: contracts of the kit's shelf in our words.
-/
namespace Go.Proofs.YtjbfjohgfbipgaaGreatDoor
open Go.RowKit
set_option linter.unusedVariables false

theorem bz_data (l : List UInt8) : (bz l).data.toList = l := by simp [bz]
theorem dec_digit {n : Nat} : [UInt8.ofNat (48 + n % 10)] = [dgZ n] := by
  unfold dgZ byZ
  congr 2
theorem dec_dig : ∀ (f n : Nat), n < 10 ^ (f + 1) → Lib.decDigits n = digF (f + 1) n
  | 0, n, h => by
    rw [Lib.decDigits, dif_pos (by omega), digF_small (by omega), ← dec_digit, Nat.mod_eq_of_lt (by omega)]
  | f + 1, n, h => by
    by_cases hn : n < 10
    · rw [Lib.decDigits, dif_pos hn, digF_small hn, ← dec_digit, Nat.mod_eq_of_lt hn]
    · rw [Lib.decDigits, dif_neg hn, digF_great (by omega), dec_dig f (n / 10) (by rw [Nat.pow_succ] at h; omega), dec_digit]
theorem dec_digL {n : Nat} (h : n < 10 ^ 20) : Lib.decDigits n = digL n := dec_dig 19 n h
def StS (t : ByteArray) (w : World) (e : Ending) (w' : World) : Prop := e = .returned (.string t) ∧ w = w'
theorem itoaS_any (n : Nat) (w : World) (h : n < 100) : Calls Tryz.prog 39 #[.int .i64 (n : Int)] w (StS (bz (digL n)) w) := by
  refine (Any.strconv_Itoa_small Tryz.lays171 n h w).mono ?_
  rintro e w' ⟨rfl, rfl⟩
  exact ⟨by rw [dec_digL (by omega)]; rfl, rfl⟩
/-- The powers of ten. -/
def TabPow (w : World) : Prop := ∃ t x, w.heap[4]? = some (.cells (Lib.pow10Tab.map fun z => Value.int .u64 z).toArray t x)
theorem TabPow.on {w w' : World} (h : TabPow w) (hb : Below w.heap.size w w') : TabPow w' := by
  obtain ⟨t, x, h⟩ := h
  exact ⟨t, x, (hb.block _ (Array.getElem?_eq_some_iff.1 h).1).trans h⟩
theorem tabIs_of {nm : String} {w : World} (hg : Tryz.prog.globalNamed nm = some 4) (h : TabPow w) : Lib.TabIs Tryz.prog w nm .u64 Lib.pow10Tab := by
  obtain ⟨t, x, h⟩ := h
  unfold Lib.TabIs World.var?
  rw [hg]
  simp only [Option.bind_some, h]
theorem below_grow (w : World) (k : Nat) (os : Array Obj) : Below w.heap.size w (Sort.grow (w.drewN k) os) := by
  have hd := below_drewN (Below.refl w.heap.size w) k
  refine ⟨hd.os, hd.tape, hd.output, by rw [Sort.size_grow]; exact Nat.le_trans hd.size (Nat.le_add_right _ _), fun j hj => ?_⟩
  show ((w.drewN k).heap ++ os)[j]? = _
  rw [Array.getElem?_append_left (Nat.lt_of_lt_of_le hj hd.size)]
  exact hd.block j hj
theorem itoa_any (n : Nat) (w : World) (h : n < 10 ^ 18) (hT : TabPow w) : Calls Tryz.prog 39 #[.int .i64 (n : Int)] w (StL (bz (digL n)) w) := by
  refine (Any.strconv_Itoa Tryz.laysM171 (n : Int) (by omega) (by omega) w (tabIs_of (by kernel_rfl) hT)).mono ?_
  rintro e w' ⟨rfl, k, os, rfl⟩
  refine ⟨?_, below_grow _ _ _⟩
  unfold Lib.itoa
  rw [if_neg (by omega), Int.toNat_natCast, dec_digL (by omega)]; rfl
theorem repeat_any (l : List UInt8) (c : Nat) (w : World) (hc : c ≤ 255) (hl : l.length ≤ 10) : Calls Tryz.prog 66 #[.string (bz l), .int .i64 (c : Int)] w (StL (bz (Lib.repeatL l c)) w) := by
  refine (Any.strings_Repeat Tryz.lays105 Tryz.Builder_Extra_105 (bz l) c w (by omega) (by
    rw [bz_size]
    calc l.length * c ≤ 10 * 255 := Nat.mul_le_mul hl hc
      _ ≤ _ := by decide)).mono ?_
  rintro e w' ⟨rfl, hb⟩
  exact ⟨by rw [bz_data]; rfl, hb⟩
theorem upper_any (l : List UInt8) (w : World) (hl : l.length ≤ 10) (ha : ∀ b ∈ l, b.toNat < 128) : Calls Tryz.prog 101 #[.string (bz l)] w (StL (bz (Lib.toUpperA l)) w) := by
  refine (Any.strings_ToUpper_ascii Tryz.lays158 Tryz.Builder_Extra_158 (bz l) w (by rw [bz_size]; omega) (fun j b hj => ha b (by rw [bz_data] at hj; exact List.mem_of_getElem? hj))).mono ?_
  rintro e w' ⟨rfl, hb⟩
  exact ⟨by rw [bz_data]; rfl, hb⟩
/-- Strings in the cells of a slice. -/
def StrsAt (w : World) (bk : Nat) (ls : List (List UInt8)) : Prop := ∀ (j : Nat) l, ls[j]? = some l → w.cell? ⟨bk, j, none⟩ = some (.string (bz l))
theorem join_any (bk c : Nat) (ls : List (List UInt8)) (sep : List UInt8) (n : Nat) (w : World) (hn : n = ls.length) (hcells : StrsAt w bk ls) (hbk : bk < w.heap.size) (hN : ls.length ≤ 1000) (hcap : ls.length ≤ c) (hlen : (sep.intercalate ls).length ≤ 1000000) :
    Calls Tryz.prog 40 #[.slice (some ⟨bk, 0, none⟩) n c, .string (bz sep)] w (StL (bz (sep.intercalate ls)) w) := by
  subst hn
  have he : (ls.map bz).map (·.data.toList) = ls := by
    rw [List.map_map]
    conv => rhs; rw [← List.map_id ls]
    apply List.map_congr_left
    intro l _
    exact bz_data l
  have hj : Lib.join ((ls.map bz).map (·.data.toList)) (bz sep).data.toList = sep.intercalate ls := by rw [he, bz_data]; rfl
  have h := Any.strings_Join Tryz.lays156 Tryz.Builder_Extra_156 bk 0 c (ls.map bz) (bz sep) w (fun j x hx => by
    rw [List.getElem?_map] at hx
    cases hl : ls[j]? with
    | none => rw [hl] at hx; cases hx
    | some l =>
      rw [hl] at hx
      cases hx
      rw [Nat.zero_add]
      exact hcells j l hl) hbk (by rw [List.length_map]; omega) (by rw [List.length_map]; omega) (by rw [hj]; omega)
  rw [List.length_map, hj] at h
  exact h
end Go.Proofs.YtjbfjohgfbipgaaGreatDoor
/-
  Contracts of the program's gapText, turnText, rankText (layer 10).
-/
namespace Go.Proofs.YtjbfjohgfbipgaaGreatDoor
open Go.RowKit
set_option linter.unusedVariables false
set_option linter.unusedSimpArgs false

theorem gapText_any (e : Nat) (w : World) (he : e ≤ 9) : Calls Tryz.prog 97 #[.int .i64 (e : Int)] w (StS (bz (emL2 e)) w) := by
  by_cases h : e = 0
  · subst h
    go_enter Tryz.func97, Tryz.ntmps97
    go_wp2_with fail
    go_ret
    exact ⟨rfl, rfl⟩
  · have h0 : ((e : Int) == 0) = false := by simp; omega
    have HE := Lib.hid (show emL2 e = digL e by unfold emL2; rw [decide_eq_true (show 0 < e by omega)]; rfl)
    have HL := Lib.hid (show e < 100 by omega)
    clear h he
    go_enter Tryz.func97, Tryz.ntmps97
    go_wp2_with (go_at_call 39; refine (itoaS_any e _ HL.out).mono ?_; rintro e' w' ⟨rfl, rfl⟩)
    go_ret
    exact ⟨by rw [HE.out]; rfl, rfl⟩
theorem turnText_any (c : Int) (w : World) (hc : c = 0 ∨ c = 1) : Calls Tryz.prog 35 #[.int .u8 c] w (StS (bz (bif c == 0 then [119] else [98])) w) := by
  rcases hc with rfl | rfl
  · go_enter Tryz.func35, Tryz.ntmps35
    go_wp2_with fail
    go_ret
    exact ⟨rfl, rfl⟩
  · go_enter Tryz.func35, Tryz.ntmps35
    go_wp2_with fail
    go_ret
    exact ⟨rfl, rfl⟩
theorem bz_snocF {t : ByteArray} {l m : List UInt8} (h : bz l = t) : t ++ bz m = bz (l ++ m) := by rw [← h, bz_app]
set_option maxRecDepth 100000 in
set_option maxHeartbeats 4000000 in
theorem rankText_any (p : Nat → Int) (r : Nat) (w : World) (hr : r < 8) (hp : BdR p) (hm : 0 ≤ p 65 ∧ (p 65).toNat < W64) : Calls Tryz.prog 65 #[.agg (posA p), .int .i64 (r : Int)] w (StL (bz (rkL p r)) w) := by
  have HP := Lib.hid hp
  have HM := Lib.hid hm
  have r0 : (0 : Int) ≤ (r : Int) := by omega
  have r7 : (r : Int) ≤ 7 := by omega
  have HRr := Lib.hid hr
  clear hp hm hr
  go_enter Tryz.func65, Tryz.ntmps65
  go_wp2_with (refine step_box rfl _ rfl p rfl ?_; intro b1 w1 N R; have HB := Lib.hid N.below; have HR1 := Lib.hid R; clear N R)
  go_loopw [5, 6, 7] (fun t e i wr => ∃ f s : Nat, f ≤ 8 ∧ s = 8 * r + f ∧ i = .int .i64 (s : Int) ∧ t = .string (bz (rkS p r f).1) ∧ e = .int .i64 (((rkS p r f).2 : Nat) : Int) ∧ Row wr b1 p ∧ Below w.heap.size w wr) (fun _ _ i _ => 8 * r + 8 - (intOf i).toNat)
  case atStart => exact ⟨0, 8 * r, by omega, rfl, by go_num, rfl, rfl, HR1.out, HB.out⟩
  case round =>
    obtain ⟨f, s, hf8, hs, rfl, rfl, rfl, hrow, hbel⟩ := hrel
    have HRw := Lib.hid hrow
    have HBl := Lib.hid hbel
    clear hrow hbel
    obtain ⟨t, ht⟩ : ∃ t, bz (rkS p r f).1 = t := ⟨_, rfl⟩
    obtain ⟨e, he⟩ : ∃ e, (rkS p r f).2 = e := ⟨_, rfl⟩
    have hlen := rkS_len p r f
    rw [he] at hlen
    have HE9 := Lib.hid (show e ≤ 9 by omega)
    have htz : t.size ≤ 400 := by rw [← ht, bz_size]; omega
    obtain ⟨d, hd⟩ : ∃ d, bz (emL2 e) = d := ⟨_, rfl⟩
    have hdz : d.size ≤ 20 := by rw [← hd, bz_size]; exact emL2_len e
    have HD := Lib.hid hd
    by_cases h8 : f < 8
    · have HSs := Lib.hid (show s = 8 * r + f from hs)
      have l1 : (s : Int) < 8 * ((r : Int) + 1) := by omega
      have s0 : (0 : Int) ≤ (s : Int) := by omega
      have s64 : (s : Int) < 64 := by have := HRr.out; omega
      have HS64 := Lib.hid (show s < 64 by have := HRr.out; omega)
      have HF8 := Lib.hid h8
      obtain ⟨x, hx⟩ : ∃ x, p (1 + s) = x := ⟨_, rfl⟩
      obtain ⟨x0, x1⟩ := HP.out s HS64.out
      rw [hx] at x0 x1
      have HC := Lib.hid (fun (W : World) (h : Row W b1 p) => show W.cell? ⟨b1, 1 + s, none⟩ = some (.int .u8 x) by rw [h.cell _ (by have := HS64.out; omega), kAt_board (Nat.zero_le _) HS64.out, hx])
      have hc := HC.out _ HRw.out
      rw [ht, he]
      cases hz : (x == 0)
      · obtain ⟨y, hy⟩ : ∃ y, letZ x = y := ⟨_, rfl⟩
        have hyz : y.size ≤ 1 := by rw [← hy, leF_bz, bz_size]; exact leF_len x
        have HY := Lib.hid hy
        obtain ⟨b, hb⟩ : ∃ b, hasN (p 65).toNat (s : Int) = b := ⟨_, rfl⟩
        have HH := Lib.hid hb
        have HN := Lib.hid (show (rkS p r (f + 1)).2 = 0 ∧ bz (rkS p r (f + 1)).1 = t ++ (d ++ y) ++ bz (bif b then [126] else []) by
          rw [rkS_piece (by rw [← hs, hx]; exact hz)]
          refine ⟨rfl, ?_⟩
          show bz ((rkS p r f).1 ++ emL2 (rkS p r f).2 ++ clL p (8 * r + f)) = _
          rw [← bz_app, ← bz_app, ht, he, hd]
          unfold clL
          rw [← hs, hx, ← bz_app, ← leF_bz, hy, hb]
          rw [bz_assoc, bz_assoc, bz_assoc])
        have k1 : ¬ (9223372036854775807 < d.size + y.size) := cat_ok (by omega) (by omega)
        have k2 : ¬ (9223372036854775807 < t.size + (d ++ y).size) := cat_ok (by omega) (by rw [ByteArray.size_append]; omega)
        have k3 := cat_ok (a := t ++ (d ++ y)) (b := ⟨#[126]⟩) (by rw [ByteArray.size_append, ByteArray.size_append]; omega) (by decide)
        clear hx hs ht he hlen htz hd hdz hy hyz hb h8 hf8
        have HG9 := Lib.hid (fun W => show Calls Tryz.prog 97 #[.int .i64 (e : Int)] W (StS d W) from HD.out ▸ gapText_any e W HE9.out)
        have HL9 := Lib.hid (fun W => show Calls Tryz.prog 67 #[.int .u8 x] W (StS y W) from HY.out ▸ let_any x W x0 x1)
        go_wp2_with fail
        go_quiet ((first | (go_at_call 97; exact quiet_c (HG9.out _)) | (go_at_call 67; exact quiet_c (HL9.out _))))
        have HRw := Lib.hid (HRw.out.later (below_drewN (Below.refl wr.heap.size wr) nq))
        have HBl := Lib.hid (below_drewN HBl.out nq)
        clear hc
        cases b
        · have HN1 := Lib.hid (show bz (rkS p r (f + 1)).1 = t ++ (d ++ y) by rw [HN.out.2]; exact bz_none _)
          go_wp2_with (first
            | (refine step_load rfl _ rfl b1 rfl p HRw.out ?_)
            | (go_at_call 62; refine (isPromoted_any p s _ HS64.out HM.out).mono ?_; rintro e' w' ⟨rfl, hb9⟩; rw [HH.out]; have HRw := Lib.hid (HRw.out.later hb9); have HBl := Lib.hid (below_on HBl.out hb9); clear hb9))
          go_roundw
          case rel => exact ⟨f + 1, s + 1, by have := HF8.out; omega, by have := HSs.out; omega, by go_num, by rw [HN1.out], by rw [HN.out.1]; rfl, HRw.out, HBl.out⟩
          case measure => simp [intOf]; have := HSs.out; have := HF8.out; omega
        · have HN1 := Lib.hid (show bz (rkS p r (f + 1)).1 = t ++ (d ++ y) ++ ⟨#[126]⟩ by rw [HN.out.2]; rfl)
          go_wp2_with (first
            | (refine step_load rfl _ rfl b1 rfl p HRw.out ?_)
            | (go_at_call 62; refine (isPromoted_any p s _ HS64.out HM.out).mono ?_; rintro e' w' ⟨rfl, hb9⟩; rw [HH.out]; have HRw := Lib.hid (HRw.out.later hb9); have HBl := Lib.hid (below_on HBl.out hb9); clear hb9))
          go_roundw
          case rel => exact ⟨f + 1, s + 1, by have := HF8.out; omega, by have := HSs.out; omega, by go_num, by rw [HN1.out], by rw [HN.out.1]; rfl, HRw.out, HBl.out⟩
          case measure => simp [intOf]; have := HSs.out; have := HF8.out; omega
      · have HN := Lib.hid (show (rkS p r (f + 1)).1 = (rkS p r f).1 ∧ (rkS p r (f + 1)).2 = e + 1 by rw [rkS_empty (by rw [← hs, hx]; exact hz), he]; exact ⟨rfl, rfl⟩)
        have HEw := Lib.hid (show wrap64 ((e : Int) + 1) = ((e + 1 : Nat) : Int) by rw [IntWalk.wrap64_in _ ⟨by omega, by omega⟩]; rfl)
        have HT := Lib.hid ht
        clear hx hs ht he hlen htz hd hdz h8 hf8
        go_wp2_with fail
        go_roundw
        case rel => exact ⟨f + 1, s + 1, by have := HF8.out; omega, by have := HSs.out; omega, by go_num, by rw [HN.out.1, HT.out], by rw [HN.out.2, HEw.out], HRw.out, HBl.out⟩
        case measure => simp [intOf]; have := HSs.out; have := HF8.out; omega
    · obtain rfl : f = 8 := by omega
      have l1 : ¬ ((s : Int) < 8 * ((r : Int) + 1)) := by omega
      have HN := Lib.hid (show bz (rkL p r) = t ++ d by unfold rkL; rw [he, ← bz_app, ht, hd])
      have k1 : ¬ (9223372036854775807 < t.size + d.size) := cat_ok (by omega) (by omega)
      rw [ht, he]
      clear hs ht he hlen htz hd hdz h8 hf8
      go_wp2_with (go_at_call 97; refine (gapText_any e _ HE9.out).mono ?_; rintro e' w' ⟨rfl, rfl⟩; rw [HD.out])
      go_ret
      exact ⟨by rw [HN.out]; rfl, HBl.out⟩
end Go.Proofs.YtjbfjohgfbipgaaGreatDoor
/-
  Contracts of the program's tests of a position that can be written, second part (layer 10): one rook, all rooks, checks, pockets, the board, all.
-/
namespace Go.Proofs.YtjbfjohgfbipgaaGreatDoor
open Go.RowKit
set_option linter.unusedVariables false
set_option linter.unusedSimpArgs false

theorem rookCan_eq (p : Nat → Int) (c d f : Int) (hc : c = 0 ∨ c = 1) : rightB p c d f = ((decide (0 ≤ f) && decide (f < 8)) && !(rankZ (kinF p c) != 7 * c) && (bif d == 0 then decide (fileZ (kinF p c) < f) else decide (f < fileZ (kinF p c)))) := by
  have hk := kinF_rng p c
  unfold rightB
  by_cases h : kinF p c < 0
  · have e : kinF p c = -1 := by omega
    rw [e, show rankZ (-1) = -1 from rfl, show ((-1 : Int) != 7 * c) = true by rcases hc with rfl | rfl <;> rfl]
    simp
  · rw [decide_eq_false h]
    by_cases h0 : f < 0
    · rw [decide_eq_true h0, decide_eq_false (show ¬ 0 ≤ f by omega)]; simp
    · rw [decide_eq_false h0, decide_eq_true (show 0 ≤ f by omega)]
      by_cases h8 : f < 8
      · rw [decide_eq_true h8, decide_eq_false (show ¬ 7 < f by omega)]; simp
      · rw [decide_eq_false h8, decide_eq_true (show 7 < f by omega)]; simp
set_option maxRecDepth 100000 in
set_option maxHeartbeats 1000000 in
theorem rookCan_any (p : Nat → Int) (c d f : Int) (w : World) (hp : BdR p) (hc : c = 0 ∨ c = 1) : Calls Tryz.prog 64 #[.agg (posA p), .int .u8 c, .int .i64 d, .int .i64 f] w (BoL (rightB p c d f) w) := by
  have HP := Lib.hid hp
  have HC := Lib.hid hc
  obtain ⟨b, hb⟩ : ∃ b, rightB p c d f = b := ⟨_, rfl⟩
  have he := rookCan_eq p c d f hc
  rw [hb] at he
  rw [hb]
  obtain ⟨k, hk⟩ : ∃ k, kinF p c = k := ⟨_, rfl⟩
  have HK := Lib.hid hk
  rw [hk] at he
  obtain ⟨g, hg⟩ : ∃ g, rankZ k = g := ⟨_, rfl⟩
  have HG := Lib.hid hg
  rw [hg] at he
  obtain ⟨h, hh⟩ : ∃ h, fileZ k = h := ⟨_, rfl⟩
  have HH := Lib.hid hh
  rw [hh] at he
  clear hp hc hb hk hg hh
  have HD := Lib.hid (show True from trivial)
  obtain ⟨i, hi⟩ : ∃ i, (decide (0 ≤ f) && decide (f < 8)) = i := ⟨_, rfl⟩
  have HI := Lib.hid hi
  rw [hi] at he
  clear hi
  cases i
  · have HE := Lib.hid (show false = b by rw [he]; rfl)
    clear he
    go_enter Tryz.func64, Tryz.ntmps64
    go_wp2_with (first
      | (refine step_box rfl _ rfl p rfl ?_; intro b1 w1 N R; have HB := Lib.hid N.below; have HR := Lib.hid R; clear N R)
      | (refine step_load rfl _ rfl b1 rfl p HR.out ?_)
      | (go_at_call 92; refine (firstKing_any p _ _ HP.out HC.out).mono ?_; rintro e w' ⟨rfl, hb9⟩; rw [HK.out]; have HB := Lib.hid (HB.out.trans (hb9.mono HB.out.size)); clear hb9 HR)
      | (go_at_call 93; refine (isFile_any _ _).mono ?_; rintro e w' ⟨rfl, rfl⟩; rw [HI.out])
      | (go_at_call 94; refine (rank_any _ _).mono ?_; rintro e w' ⟨rfl, rfl⟩; rw [HG.out])
      | (go_at_call 96; refine (file_any _ _).mono ?_; rintro e w' ⟨rfl, rfl⟩; rw [HH.out])
      | (go_at_call 95; refine (home_any _ _ HC.out).mono ?_; rintro e w' ⟨rfl, rfl⟩))
    go_ret
    exact ⟨pc_bool HE.out, HB.out⟩
  · cases e2 : (g != 7 * c)
    · cases e3 : (d == 0)
      · have HE := Lib.hid (show decide (f < h) = b by rw [he, e2, e3]; rfl)
        clear he
        go_enter Tryz.func64, Tryz.ntmps64
        go_wp2_with (first
          | (refine step_box rfl _ rfl p rfl ?_; intro b1 w1 N R; have HB := Lib.hid N.below; have HR := Lib.hid R; clear N R)
          | (refine step_load rfl _ rfl b1 rfl p HR.out ?_)
          | (go_at_call 92; refine (firstKing_any p _ _ HP.out HC.out).mono ?_; rintro e w' ⟨rfl, hb9⟩; rw [HK.out]; have HB := Lib.hid (HB.out.trans (hb9.mono HB.out.size)); clear hb9 HR)
          | (go_at_call 93; refine (isFile_any _ _).mono ?_; rintro e w' ⟨rfl, rfl⟩; rw [HI.out])
          | (go_at_call 94; refine (rank_any _ _).mono ?_; rintro e w' ⟨rfl, rfl⟩; rw [HG.out])
          | (go_at_call 96; refine (file_any _ _).mono ?_; rintro e w' ⟨rfl, rfl⟩; rw [HH.out])
          | (go_at_call 95; refine (home_any _ _ HC.out).mono ?_; rintro e w' ⟨rfl, rfl⟩))
        go_ret
        exact ⟨pc_bool HE.out, HB.out⟩
      · have HE := Lib.hid (show decide (h < f) = b by rw [he, e2, e3]; rfl)
        clear he
        go_enter Tryz.func64, Tryz.ntmps64
        go_wp2_with (first
          | (refine step_box rfl _ rfl p rfl ?_; intro b1 w1 N R; have HB := Lib.hid N.below; have HR := Lib.hid R; clear N R)
          | (refine step_load rfl _ rfl b1 rfl p HR.out ?_)
          | (go_at_call 92; refine (firstKing_any p _ _ HP.out HC.out).mono ?_; rintro e w' ⟨rfl, hb9⟩; rw [HK.out]; have HB := Lib.hid (HB.out.trans (hb9.mono HB.out.size)); clear hb9 HR)
          | (go_at_call 93; refine (isFile_any _ _).mono ?_; rintro e w' ⟨rfl, rfl⟩; rw [HI.out])
          | (go_at_call 94; refine (rank_any _ _).mono ?_; rintro e w' ⟨rfl, rfl⟩; rw [HG.out])
          | (go_at_call 96; refine (file_any _ _).mono ?_; rintro e w' ⟨rfl, rfl⟩; rw [HH.out])
          | (go_at_call 95; refine (home_any _ _ HC.out).mono ?_; rintro e w' ⟨rfl, rfl⟩))
        go_ret
        exact ⟨pc_bool HE.out, HB.out⟩
    · have HE := Lib.hid (show false = b by rw [he, e2]; rfl)
      clear he
      go_enter Tryz.func64, Tryz.ntmps64
      go_wp2_with (first
        | (refine step_box rfl _ rfl p rfl ?_; intro b1 w1 N R; have HB := Lib.hid N.below; have HR := Lib.hid R; clear N R)
        | (refine step_load rfl _ rfl b1 rfl p HR.out ?_)
        | (go_at_call 92; refine (firstKing_any p _ _ HP.out HC.out).mono ?_; rintro e w' ⟨rfl, hb9⟩; rw [HK.out]; have HB := Lib.hid (HB.out.trans (hb9.mono HB.out.size)); clear hb9 HR)
        | (go_at_call 93; refine (isFile_any _ _).mono ?_; rintro e w' ⟨rfl, rfl⟩; rw [HI.out])
        | (go_at_call 94; refine (rank_any _ _).mono ?_; rintro e w' ⟨rfl, rfl⟩; rw [HG.out])
        | (go_at_call 96; refine (file_any _ _).mono ?_; rintro e w' ⟨rfl, rfl⟩; rw [HH.out])
        | (go_at_call 95; refine (home_any _ _ HC.out).mono ?_; rintro e w' ⟨rfl, rfl⟩))
      go_ret
      exact ⟨pc_bool HE.out, HB.out⟩

end Go.Proofs.YtjbfjohgfbipgaaGreatDoor
/-
  Contracts of the program's tests of a position that can be written, third part (layer 10): all rooks.
-/
namespace Go.Proofs.YtjbfjohgfbipgaaGreatDoor
open Go.RowKit
set_option linter.unusedVariables false
set_option linter.unusedSimpArgs false

def roAll (p : Nat → Int) : Bool := allB (fun c => allB (wrR p c) 2) 2
theorem roAll_no {p : Nat → Int} {c d : Nat} (hc : c < 2) (hd : d < 2) (h : wrR p c d = false) : roAll p = false := allB_no (f := fun c => allB (wrR p c) 2) (k := c) (allB_no h hd) hc
theorem roAll_yes {p : Nat → Int} (h : ∀ c, c < 2 → allB (wrR p c) 2 = true) : roAll p = true := allB_true.2 h
theorem size26 : (Tryz.prog.info? 26).map (·.size) = some 1 := by kernel_rfl
theorem size27 : (Tryz.prog.info? 27).map (·.size) = some 2 := by kernel_rfl
theorem kat_rk (c : Nat) (hc : c < 2) : ∀ j, j < 2 → kAt (79 + c * 2 + j) = .i8 := fun j hj => kf_i8 (by omega) (by omega)
set_option maxRecDepth 100000 in
set_option maxHeartbeats 4000000 in
theorem rooksCan_any (p : Nat → Int) (w : World) (hp : BdR p) (hq : ∀ i, 79 ≤ i → i < 83 → -128 ≤ p i ∧ p i ≤ 127) : Calls Tryz.prog 32 #[.agg (posA p)] w (BoL (roAll p) w) := by
  have HP := Lib.hid hp
  have HQ := Lib.hid hq
  obtain ⟨b, hb⟩ : ∃ b, roAll p = b := ⟨_, rfl⟩
  have HBb := Lib.hid hb
  rw [hb]
  clear hb hp hq
  go_enter Tryz.func32, Tryz.ntmps32
  go_wp2_with (refine step_box rfl _ rfl p rfl ?_; intro b1 w1 N R; have HB := Lib.hid N.below; have HR := Lib.hid R; clear N R)
  have HI := Lib.hid (show b1 < w1.heap.size from HR.out.lt)
  go_loopw [3] (fun c wr => ∃ n : Nat, n ≤ 2 ∧ c = .int .u8 n ∧ (∀ c', c' < n → allB (wrR p c') 2 = true) ∧ Below w1.heap.size w1 wr) (fun c _ => 2 - (intOf c).toNat)
  case atStart => exact ⟨0, by omega, rfl, fun _ h => by omega, Below.refl _ _⟩
  case round =>
    obtain ⟨n, hn, rfl, hall, hbel⟩ := hrel
    have HAl := Lib.hid hall
    have HBl := Lib.hid hbel
    have HRw := Lib.hid (HR.out.next hbel HI.out)
    clear hall hbel
    by_cases hn2 : n < 2
    · have ln : (n : Int) ≤ 1 := by omega
      have ln2 : (n : Int) < 2 := by omega
      have n0 : (0 : Int) ≤ (n : Int) := by omega
      have HN2 := Lib.hid hn2
      have HN01 := Lib.hid (show (n : Int) = 0 ∨ (n : Int) = 1 by omega)
      clear hn hn2
      go_wp2_with (refine step_part rfl 27 _ rfl b1 (79 + n * 2) 2 .i8 rfl p HRw.out (by have := HN2.out; omega) (kat_rk n HN2.out) _ Tryz.underlying27 rfl size27 ?_)
      go_loopw [14] (fun i wr2 => ∃ d : Nat, d ≤ 2 ∧ i = .int .i64 d ∧ (∀ d', d' < d → wrR p n d' = true) ∧ Below w1.heap.size w1 wr2) (fun i _ => 2 - (intOf i).toNat)
      case atStart => exact ⟨0, by omega, rfl, fun _ h => by omega, HBl.out⟩
      case round =>
        obtain ⟨d, hd, rfl, hall2, hbel2⟩ := hrel
        have HAd := Lib.hid hall2
        have HBm := Lib.hid hbel2
        have HRm := Lib.hid (HR.out.next hbel2 HI.out)
        clear hall2 hbel2
        by_cases hd2 : d < 2
        · have ld : (d : Int) < 2 := by omega
          have d0 : (0 : Int) ≤ (d : Int) := by omega
          have HD2 := Lib.hid hd2
          clear hd hd2
          obtain ⟨x, hx⟩ : ∃ x, p (79 + n * 2 + d) = x := ⟨_, rfl⟩
          obtain ⟨x0, x1⟩ : -128 ≤ x ∧ x ≤ 127 := by rw [← hx]; exact HQ.out _ (by omega) (by have := HN2.out; have := HD2.out; omega)
          have HX := Lib.hid hx
          have hr : wrR p n d = !((x != -1) && !rightB p n d x) := by unfold wrR; rw [hx]
          obtain ⟨g, hg⟩ : ∃ g, rightB p n d x = g := ⟨_, rfl⟩
          have HG := Lib.hid hg
          rw [hg] at hr
          clear hx hg
          cases hz : (x != -1)
          · have HT := Lib.hid (show wrR p n d = true by rw [hr, hz]; rfl)
            clear hr
            go_wp2_with (refine arr_index rfl 27 26 _ _ rfl 2 .i8 _ rfl d rfl HD2.out Tryz.underlying27 Tryz.underlying26 size26 ?_; dsimp only; rw [HX.out])
            go_roundw
            case rel => exact ⟨d + 1, by have := HD2.out; omega, by go_num, fun d' h => if e : d' = d then by subst e; exact HT.out else HAd.out d' (by omega), HBm.out⟩
            case measure => simp [intOf]; have := HD2.out; omega
          · cases g
            · have HN := Lib.hid (show false = b by rw [← HBb.out]; exact (roAll_no (c := n) (d := d) HN2.out HD2.out (by rw [hr, hz]; rfl)).symm)
              clear hr
              go_wp2_with (first
                | (refine arr_index rfl 27 26 _ _ rfl 2 .i8 _ rfl d rfl HD2.out Tryz.underlying27 Tryz.underlying26 size26 ?_; dsimp only; rw [HX.out])
                | (refine step_load rfl _ rfl b1 rfl p HRm.out ?_)
                | (go_at_call 64; refine (rookCan_any p _ _ _ _ HP.out HN01.out).mono ?_; rintro e w' ⟨rfl, hb9⟩; have HBm := Lib.hid (below_on HBm.out hb9); clear hb9; rw [HG.out]))
              go_ret
              exact ⟨pc_bool HN.out, HB.out.trans (HBm.out.mono HB.out.size)⟩
            · have HT := Lib.hid (show wrR p n d = true by rw [hr, hz]; rfl)
              clear hr
              go_wp2_with (first
                | (refine arr_index rfl 27 26 _ _ rfl 2 .i8 _ rfl d rfl HD2.out Tryz.underlying27 Tryz.underlying26 size26 ?_; dsimp only; rw [HX.out])
                | (refine step_load rfl _ rfl b1 rfl p HRm.out ?_)
                | (go_at_call 64; refine (rookCan_any p _ _ _ _ HP.out HN01.out).mono ?_; rintro e w' ⟨rfl, hb9⟩; have HBm := Lib.hid (below_on HBm.out hb9); clear hb9; rw [HG.out]))
              go_roundw
              case rel => exact ⟨d + 1, by have := HD2.out; omega, by go_num, fun d' h => if e : d' = d then by subst e; exact HT.out else HAd.out d' (by omega), HBm.out⟩
              case measure => simp [intOf]; have := HD2.out; omega
        · obtain rfl : d = 2 := by omega
          go_wp2_with fail
          go_roundw
          case rel => exact ⟨n + 1, by have := HN2.out; omega, by go_num, fun c' h => if e : c' = n then by subst e; exact allB_true.2 HAd.out else HAl.out c' (by omega), HBm.out⟩
          case measure => simp [intOf]; have := HN2.out; omega
    · obtain rfl : n = 2 := by omega
      have HN := Lib.hid (show true = b by rw [← HBb.out]; exact (roAll_yes HAl.out).symm)
      go_wp2_with fail
      go_ret
      exact ⟨pc_bool HN.out, HB.out.trans (HBl.out.mono HB.out.size)⟩
end Go.Proofs.YtjbfjohgfbipgaaGreatDoor
/-
  Contract of the document's own rooks (layer 10).
-/
namespace Go.Proofs.YtjbfjohgfbipgaaGreatDoor
open Go.RowKit
set_option linter.unusedVariables false

theorem loop_p {P : Program} {c : Code} {Q : Exit → Act → World → Prop} {a : Act} {w : World} (I : Act → World → Prop) (μ : Act → World → Nat) (h₀ : I a w)
    (round : ∀ a w, I a w → ∀ K : Act → World → Prop, Shut (∀ a' w', I a' w' → μ a' w' < μ a w → K a' w') → c.wp P (Exit.then K Q) a w) : (Code.loop c).wp P Q a w :=
  wp_loop I μ h₀ fun a w h => round a w h _ fun a' w' hi hm => ⟨hi, hm⟩
theorem rfL_is {c d : Nat} {f v : Int} (h : decide (f < 0) = false) (hv : rkF c d f = v) : rfL c d f = [byZ v] := by unfold rfL; rw [h, hv]; rfl
theorem alloc_below (w : World) (o : Obj) : Below w.heap.size w (w.alloc o) := (Below.refl _ _).alloc (Nat.le_refl _) o
end Go.Proofs.YtjbfjohgfbipgaaGreatDoor
/-
  Contract of the document's own pocket (layer 10).
-/
namespace Go.Proofs.YtjbfjohgfbipgaaGreatDoor
open Go.RowKit
set_option linter.unusedVariables false

end Go.Proofs.YtjbfjohgfbipgaaGreatDoor
/-
  Contracts of the document's own Text and Parse (layer 2).
-/
namespace Go.Proofs.YtjbfjohgfbipgaaGreatDoor
open Go.RowKit

theorem sq_quiet {P : Program} {f : FuncId} {args : Array Value} {w : World} {n : Nat} {v : Value}
    (h : Calls P f args (w.drewN n) fun e w' => e = .returned v ∧ w.drewN n = w') : Calls P f args (w.drewN n) fun e w'' => e = .returned v ∧ ∃ m, w'' = w.drewN m :=
  h.mono fun _ _ ⟨he, hm⟩ => ⟨he, n, hm.symm⟩
theorem sq_drewN {B : Nat} {a w : World} (h : Below B a w) (n : Nat) : Below B a (w.drewN n) := h.trans ⟨rfl, rfl, rfl, Nat.le_refl _, fun _ _ => rfl⟩
def abc : ByteArray := ⟨#[97, 98, 99, 100, 101, 102, 103, 104]⟩
def num : ByteArray := ⟨#[49, 50, 51, 52, 53, 54, 55, 56]⟩
theorem abc_num {f r : Nat} (hf : f < 8) (hr : r < 8) : abc.extract f (f + 1) ++ num.extract r (r + 1) = two (97 + f) (49 + r) := by
  have key : ∀ f r : Fin 8, (abc.extract f.val (f.val + 1) ++ num.extract r.val (r.val + 1)) = two (97 + f.val) (49 + r.val) := by decide +kernel
  exact key ⟨f, hf⟩ ⟨r, hr⟩
theorem parse_hit {t : ByteArray} {k : Nat} (hk : k < 64) (h : ((textZ (k : Int)).toList == t.toList) = true) : parseOk t = true ∧ parseZ t = (k : Int) := by
  rw [str_eq] at h
  subst h
  have := parse_text (k : Int) (sqB_true.2 ⟨by omega, by omega⟩)
  exact ⟨this.1, this.2.1⟩
theorem parse_miss {t : ByteArray} (h : ∀ k : Nat, k < 64 → ((textZ (k : Int)).toList == t.toList) = false) : parseOk t = false := by
  cases e : parseOk t
  · rfl
  · obtain ⟨h1, h2⟩ := text_parse e
    rw [sqB_true] at h2
    have := h (parseZ t).toNat (by omega)
    rw [show (((parseZ t).toNat : Nat) : Int) = parseZ t by omega, str_eq.2 h1] at this
    cases this
end Go.Proofs.YtjbfjohgfbipgaaGreatDoor
