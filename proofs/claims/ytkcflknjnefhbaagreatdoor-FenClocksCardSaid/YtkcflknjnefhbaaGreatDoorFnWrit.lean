/-
  Contract of the document's own Writable (layer 10).
-/
import Derived.Test.YtkcflknjnefhbaaGreatDoorFnBaseC
namespace Go.Proofs.YtkcflknjnefhbaaGreatDoor
open Go.RowKit
set_option linter.unusedVariables false
set_option linter.unusedSimpArgs false

def allB (f : Nat → Bool) : Nat → Bool
  | 0 => true
  | n + 1 => allB f n && f n
theorem allB_succ {f : Nat → Bool} {n : Nat} (h : allB f n = true) (g : f n = true) : allB f (n + 1) = true := by rw [allB, h, g]; rfl
theorem allB_no {f : Nat → Bool} {k : Nat} (h : f k = false) : ∀ {n : Nat}, k < n → allB f n = false
  | 0, hk => by omega
  | n + 1, hk => by
    rw [allB]
    by_cases e : k = n
    · subst e; rw [h, Bool.and_false]
    · rw [allB_no h (n := n) (by omega), Bool.false_and]
theorem allB_true {f : Nat → Bool} : ∀ {n : Nat}, allB f n = true ↔ ∀ k, k < n → f k = true
  | 0 => ⟨fun _ k hk => by omega, fun _ => rfl⟩
  | n + 1 => by
    rw [allB, Bool.and_eq_true, allB_true]
    constructor
    · rintro ⟨h1, h2⟩ k hk
      by_cases e : k = n
      · subst e; exact h2
      · exact h1 k (by omega)
    · exact fun h => ⟨fun k hk => h k (by omega), h n (by omega)⟩
def wrH (p : Nat → Int) : Bool := !(decide (8 < p 0) || decide (1 < p 78) || decide (p 83 < -1) || decide (63 < p 83) || decide (p 86 < 0) || decide (p 87 < 0) || decide (10000 < p 86) || decide (10000 < p 87))
def wrS (p : Nat → Int) (s : Nat) : Bool := !((p (1 + s) != 0) && !pcB (p (1 + s))) && !(hasN (p 65).toNat (s : Int) && ((p (1 + s) == 0) || (p 0 != 2)))
def wrK (p : Nat → Int) (c k : Nat) : Bool := !(decide (0 < p (66 + c * 6 + k)) && ((p 0 != 2) || ((k : Int) == 0)))
def wrG (p : Nat → Int) (c : Nat) : Bool := !(decide (3 < p (84 + c)) || (decide (0 < p (84 + c)) && (p 0 != 5)))
def wrR (p : Nat → Int) (c d : Nat) : Bool := !((p (79 + c * 2 + d) != -1) && !rightB p (c : Int) (d : Int) (p (79 + c * 2 + d)))
def wrC (p : Nat → Int) (c : Nat) : Bool := allB (wrK p c) 6 && wrG p c && allB (wrR p c) 2
/-- A position that can be written, but for how long its text is. -/
def wrB (p : Nat → Int) : Bool := wrH p && allB (wrS p) 64 && allB (wrC p) 2
theorem wr_noS {p : Nat → Int} {s : Nat} (hs : s < 64) (h : wrS p s = false) : wrB p = false := by unfold wrB; rw [allB_no h hs, Bool.and_false, Bool.false_and]
theorem wr_noC {p : Nat → Int} {c : Nat} (hc : c < 2) (h : wrC p c = false) : wrB p = false := by unfold wrB; rw [allB_no h hc, Bool.and_false]
theorem wr_noK {p : Nat → Int} {c k : Nat} (hc : c < 2) (hk : k < 6) (h : wrK p c k = false) : wrB p = false := wr_noC hc (by unfold wrC; rw [allB_no h hk, Bool.false_and, Bool.false_and])
theorem wr_noG {p : Nat → Int} {c : Nat} (hc : c < 2) (h : wrG p c = false) : wrB p = false := wr_noC hc (by unfold wrC; rw [h, Bool.and_false, Bool.false_and])
theorem wr_noR {p : Nat → Int} {c d : Nat} (hc : c < 2) (hd : d < 2) (h : wrR p c d = false) : wrB p = false := wr_noC hc (by unfold wrC; rw [allB_no h hd, Bool.and_false])
/-- The numbers of a position fit their kinds (layer 10's). -/
structure FitF (p : Nat → Int) : Prop where
  var : 0 ≤ p 0 ∧ p 0 ≤ 255
  bd : BdR p
  prom : 0 ≤ p 65 ∧ (p 65).toNat < W64
  pock : ∀ i, 66 ≤ i → i < 78 → 0 ≤ p i ∧ p i ≤ 255
  turn : 0 ≤ p 78 ∧ p 78 ≤ 255
  rook : ∀ i, 79 ≤ i → i < 83 → -128 ≤ p i ∧ p i ≤ 127
  pass : -128 ≤ p 83 ∧ p 83 ≤ 127
  chk : ∀ i, 84 ≤ i → i < 86 → 0 ≤ p i ∧ p i ≤ 255
theorem kf_u8 {o : Nat} (k : o < 65 ∨ 66 ≤ o ∧ o < 79 ∨ o = 84 ∨ o = 85) : kAt o = .u8 := by unfold kAt; rw [if_neg (by omega), if_neg (by omega), if_neg (by omega)]
theorem kf_i8 {o : Nat} (h : 79 ≤ o) (k : o ≤ 83) : kAt o = .i8 := by unfold kAt; rw [if_neg (by omega), if_pos ⟨h, k⟩]
set_option maxRecDepth 100000 in
set_option maxHeartbeats 8000000 in
theorem rwritable_any (p : Nat → Int) (w : World) (hp : FitF p) : Calls Tryz.prog 60 #[.agg (posA p)] w (BoL (wrB p) w) := by
  have HP := Lib.hid hp
  have HF := Lib.hid (by kernel_rfl : Tryz.prog.follows .mixedOrders = true)
  obtain ⟨m, hm⟩ : ∃ m : Nat, p 65 = (m : Int) := ⟨(p 65).toNat, (Int.toNat_of_nonneg hp.prom.1).symm⟩
  have HM := Lib.hid hm
  have HMl := Lib.hid (show m < W64 by have := hp.prom.2; rw [hm] at this; exact this)
  have HMt := Lib.hid (show (p 65).toNat = m by rw [hm]; rfl)
  obtain ⟨b, hb⟩ : ∃ b, wrB p = b := ⟨_, rfl⟩
  have HBb := Lib.hid hb
  obtain ⟨v, hv⟩ : ∃ v, p 0 = v := ⟨_, rfl⟩
  have HV := Lib.hid hv
  rw [hb]
  clear hp hm hb hv
  go_enter Tryz.func60, Tryz.ntmps60
  have hcells : ∀ (W : World) (b1 : Nat), Row W b1 p → W.cell? ⟨b1, 0, none⟩ = some (.int .u8 v) ∧ W.cell? ⟨b1, 65, none⟩ = some (.int .u64 (m : Int)) := fun W b1 h =>
    ⟨by rw [h.cell 0 (by decide), show kAt 0 = .u8 from rfl, HV.out], by rw [h.cell 65 (by decide), show kAt 65 = .u64 from rfl, HM.out]⟩
  obtain ⟨x78, h78⟩ : ∃ x, p 78 = x := ⟨_, rfl⟩
  obtain ⟨x83, h83⟩ : ∃ x, p 83 = x := ⟨_, rfl⟩
  obtain ⟨x86, h86⟩ : ∃ x, p 86 = x := ⟨_, rfl⟩
  obtain ⟨x87, h87⟩ : ∃ x, p 87 = x := ⟨_, rfl⟩
  have HH := Lib.hid (show wrH p = !(decide (8 < v) || decide (1 < x78) || decide (x83 < -1) || decide (63 < x83) || decide (x86 < 0) || decide (x87 < 0) || decide (10000 < x86) || decide (10000 < x87)) by unfold wrH; rw [HV.out, h78, h83, h86, h87])
  have HNo := Lib.hid (fun h : wrH p = false => show false = b by rw [← HBb.out]; unfold wrB; rw [h]; rfl)
  have hcs : ∀ (W : World) (b1 : Nat), Row W b1 p → W.cell? ⟨b1, 78, none⟩ = some (.int .u8 x78) ∧ W.cell? ⟨b1, 83, none⟩ = some (.int .i8 x83) ∧ W.cell? ⟨b1, 86, none⟩ = some (.int .i64 x86) ∧ W.cell? ⟨b1, 87, none⟩ = some (.int .i64 x87) := fun W b1 h =>
    ⟨by rw [h.cell 78 (by decide), show kAt 78 = .u8 from rfl, h78], by rw [h.cell 83 (by decide), show kAt 83 = .i8 from rfl, h83], by rw [h.cell 86 (by decide), show kAt 86 = .i64 from rfl, h86], by rw [h.cell 87 (by decide), show kAt 87 = .i64 from rfl, h87]⟩
  have HCs := Lib.hid hcells
  have HCt := Lib.hid hcs
  clear hcells hcs h78 h83 h86 h87
  cases g0 : decide (8 < v)
  · cases g1 : decide (1 < x78)
    · cases g2 : decide (x83 < -1)
      · cases g3 : decide (63 < x83)
        · cases g4 : decide (x86 < 0)
          · cases g5 : decide (x87 < 0)
            · cases g6 : decide (10000 < x86)
              · cases g7 : decide (10000 < x87)
                · have HOk := Lib.hid (show wrH p = true by rw [HH.out, g0, g1, g2, g3, g4, g5, g6, g7]; rfl)
                  clear HH HNo
                  go_wp2_with (refine step_box (op := ⟨some 1, _, _, _, _, _⟩) rfl _ rfl p rfl ?_; intro b1 w1 N R; have HB := Lib.hid N.below; have HR1 := Lib.hid R; obtain ⟨k0, k65⟩ := HCs.out _ _ R; obtain ⟨k78, k83, k86, k87⟩ := HCt.out _ _ R; clear N R)
                  clear HCt k0 k65 k78 k83 k86 k87
                  have HI := Lib.hid (show b1 < w1.heap.size from HR1.out.lt)
                  go_loopw [3] (fun i wr => ∃ s : Nat, s ≤ 64 ∧ i = .int .i64 s ∧ allB (wrS p) s = true ∧ Below w1.heap.size w1 wr) (fun i _ => 64 - (intOf i).toNat)
                  case atStart => exact ⟨0, by omega, rfl, rfl, Below.refl _ _⟩
                  case round =>
                    obtain ⟨s, hs64, rfl, hall, hbel⟩ := hrel
                    have HBl := Lib.hid hbel
                    have HRw := Lib.hid (HR1.out.next hbel HI.out)
                    have HAl := Lib.hid hall
                    clear hbel hall
                    by_cases hs : s < 64
                    · have hls : (s : Int) < 64 := by omega
                      have hs0 : (0 : Int) ≤ (s : Int) := by omega
                      have HS := Lib.hid hs
                      obtain ⟨x, hx⟩ : ∃ x, p (1 + s) = x := ⟨_, rfl⟩
                      obtain ⟨x0, x1⟩ := HP.out.bd s hs
                      rw [hx] at x0 x1
                      obtain ⟨hb, hhb⟩ : ∃ hb, hasN m (s : Int) = hb := ⟨_, rfl⟩
                      have HW := Lib.hid (show wrS p s = (!((x != 0) && !pcB x) && !(hb && ((x == 0) || (v != 2)))) by unfold wrS; rw [hx, HMt.out, hhb, HV.out])
                      have HHb := Lib.hid hhb
                      obtain ⟨k0, k65⟩ := HCs.out _ _ HRw.out
                      have kx : wr.cell? ⟨b1, 1 + s, none⟩ = some (.int .u8 x) := by rw [HRw.out.cell _ (by omega), kAt_board (Nat.zero_le _) hs, hx]
                      have HX := Lib.hid (show True from trivial)
                      clear hx hhb hs hs64
                      by_cases hz : x = 0
                      · subst hz
                        cases hb
                        · have HOk1 := Lib.hid (show wrS p s = true by rw [HW.out]; rfl)
                          go_wp2_with (go_at_call 95; refine (rhas_any _ _ _ HMl.out).mono ?_; rintro e w' ⟨rfl, rfl⟩; rw [HHb.out])
                          go_roundw
                          case rel => exact ⟨s + 1, by have := HS.out; omega, by go_num, allB_succ HAl.out HOk1.out, HBl.out⟩
                          case measure => simp [intOf]; have := HS.out; omega
                        · have HNo1 := Lib.hid (show false = b by rw [← HBb.out]; exact (wr_noS HS.out (by rw [HW.out]; rfl)).symm)
                          go_wp2_with (go_at_call 95; refine (rhas_any _ _ _ HMl.out).mono ?_; rintro e w' ⟨rfl, rfl⟩; rw [HHb.out])
                          go_ret
                          exact ⟨by rw [← HNo1.out]; rfl, HB.out.trans (HBl.out.mono HB.out.size)⟩
                      · have gz : (x == 0) = false := by simp [hz]
                        have gn : (x != 0) = true := by simp [hz]
                        clear hz
                        cases hpc : pcB x
                        · have HNo1 := Lib.hid (show false = b by rw [← HBb.out]; exact (wr_noS HS.out (by rw [HW.out, gn, hpc]; rfl)).symm)
                          go_wp2_with (go_at_call 101; refine (ris_any _ _).mono ?_; rintro e w2 ⟨rfl, hb9⟩; have HBl := Lib.hid (HBl.out.trans (hb9.mono HBl.out.size)); clear hb9)
                          go_ret
                          exact ⟨by rw [← HNo1.out]; rfl, HB.out.trans (HBl.out.mono HB.out.size)⟩
                        · cases hb
                          · have HOk1 := Lib.hid (show wrS p s = true by rw [HW.out, gn, hpc]; rfl)
                            go_wp2_with fail
                            refine (ris_any _ _).mono ?_; rintro e w2 ⟨rfl, hb9⟩
                            have HRw := Lib.hid (HRw.out.later hb9); have HBl := Lib.hid (HBl.out.trans (hb9.mono HBl.out.size)); clear hb9 k0 k65 kx
                            obtain ⟨k0, k65⟩ := HCs.out _ _ HRw.out
                            go_wp2_with (go_at_call 95; refine (rhas_any _ _ _ HMl.out).mono ?_; rintro e w' ⟨rfl, rfl⟩; rw [HHb.out])
                            go_roundw
                            case rel => exact ⟨s + 1, by have := HS.out; omega, by go_num, allB_succ HAl.out HOk1.out, HBl.out⟩
                            case measure => simp [intOf]; have := HS.out; omega
                          · cases gv : (v != 2)
                            · have HOk1 := Lib.hid (show wrS p s = true by rw [HW.out, gn, hpc, gz, gv]; rfl)
                              have HGv := Lib.hid gv
                              clear HV
                              go_wp2_with fail
                              refine (ris_any _ _).mono ?_; rintro e w2 ⟨rfl, hb9⟩
                              have HRw := Lib.hid (HRw.out.later hb9); have HBl := Lib.hid (HBl.out.trans (hb9.mono HBl.out.size)); clear hb9 k0 k65 kx
                              obtain ⟨k0, k65⟩ := HCs.out _ _ HRw.out
                              go_wp2_with (go_at_call 95; refine (rhas_any _ _ _ HMl.out).mono ?_; rintro e w' ⟨rfl, rfl⟩; rw [HHb.out])
                              go_roundw
                              case rel => exact ⟨s + 1, by have := HS.out; omega, by go_num, allB_succ HAl.out HOk1.out, HBl.out⟩
                              case measure => simp [intOf]; have := HS.out; omega
                            · have HNo1 := Lib.hid (show false = b by rw [← HBb.out]; exact (wr_noS HS.out (by rw [HW.out, gn, hpc, gz, gv]; rfl)).symm)
                              go_wp2_with fail
                              refine (ris_any _ _).mono ?_; rintro e w2 ⟨rfl, hb9⟩
                              have HRw := Lib.hid (HRw.out.later hb9); have HBl := Lib.hid (HBl.out.trans (hb9.mono HBl.out.size)); clear hb9 k0 k65 kx
                              obtain ⟨k0, k65⟩ := HCs.out _ _ HRw.out
                              go_wp2_with (go_at_call 95; refine (rhas_any _ _ _ HMl.out).mono ?_; rintro e w' ⟨rfl, rfl⟩; rw [HHb.out])
                              go_ret
                              exact ⟨by rw [← HNo1.out]; rfl, HB.out.trans (HBl.out.mono HB.out.size)⟩
                    · have e64 : s = 64 := by omega
                      have h64f : decide ((s : Int) < 64) = false := decide_eq_false (by omega)
                      have HA64 := Lib.hid (show allB (wrS p) 64 = true by rw [← e64]; exact HAl.out)
                      clear hs64 hs e64 HAl HRw
                      go_wp2_with fail
                      go_loopw [5] (fun i wr => ∃ c : Nat, c ≤ 2 ∧ i = .int .i64 c ∧ allB (wrC p) c = true ∧ Below w1.heap.size w1 wr) (fun i _ => 2 - (intOf i).toNat)
                      case atStart => exact ⟨0, by omega, rfl, rfl, HBl.out⟩
                      case round =>
                        clear HBl
                        obtain ⟨c, hc2, rfl, hallc, hbel⟩ := hrel
                        have HBl := Lib.hid hbel
                        have HAc := Lib.hid hallc
                        clear hbel hallc
                        by_cases h2 : c < 2
                        · have hlc : (c : Int) < 2 := by omega
                          have hc0 : (0 : Int) ≤ (c : Int) := by omega
                          have HC2 := Lib.hid h2
                          clear h2 hc2
                          go_wp2_with fail
                          go_loopw [6] (fun i wr => ∃ k : Nat, k ≤ 6 ∧ i = .int .i64 k ∧ allB (wrK p c) k = true ∧ Below w1.heap.size w1 wr) (fun i _ => 6 - (intOf i).toNat)
                          case atStart => exact ⟨0, by omega, rfl, rfl, HBl.out⟩
                          case round =>
                            clear HBl
                            obtain ⟨k, hk6, rfl, hallk, hbel⟩ := hrel
                            have HBl := Lib.hid hbel
                            have HRw := Lib.hid (HR1.out.next hbel HI.out)
                            have HAk := Lib.hid hallk
                            clear hbel hallk
                            obtain ⟨k0, k65⟩ := HCs.out _ _ HRw.out
                            by_cases h6 : k < 6
                            · have hlk : (k : Int) < 6 := by omega
                              have hk0 : (0 : Int) ≤ (k : Int) := by omega
                              have HK6 := Lib.hid h6
                              obtain ⟨y, hy⟩ : ∃ y, p (66 + c * 6 + k) = y := ⟨_, rfl⟩
                              have ky : wr.cell? ⟨b1, 66 + c * 6 + k, none⟩ = some (.int .u8 y) := by rw [HRw.out.cell _ (by have := HC2.out; omega), kf_u8 (by have := HC2.out; omega), hy]
                              have HW := Lib.hid (show wrK p c k = (!(decide (0 < y) && ((v != 2) || ((k : Int) == 0)))) by unfold wrK; rw [hy, HV.out])
                              clear hy h6 hk6
                              cases gy : decide (0 < y)
                              · have HOk1 := Lib.hid (show wrK p c k = true by rw [HW.out, gy]; rfl)
                                go_wp2_with fail
                                go_roundw
                                case rel => exact ⟨k + 1, by have := HK6.out; omega, by go_num, allB_succ HAk.out HOk1.out, HBl.out⟩
                                case measure => simp [intOf]; have := HK6.out; omega
                              · cases gv : (v != 2)
                                · cases gk : ((k : Int) == 0)
                                  · have HOk1 := Lib.hid (show wrK p c k = true by rw [HW.out, gy, gv, gk]; rfl)
                                    have gk' : ¬ (k : Int) = 0 := by simpa using gk
                                    clear HV HW
                                    go_wp2_with fail
                                    go_roundw
                                    case rel => exact ⟨k + 1, by have := HK6.out; omega, by go_num, allB_succ HAk.out HOk1.out, HBl.out⟩
                                    case measure => simp [intOf]; have := HK6.out; omega
                                  · have HNo1 := Lib.hid (show false = b by rw [← HBb.out]; exact (wr_noK HC2.out HK6.out (by rw [HW.out, gy, gv, gk]; rfl)).symm)
                                    clear HV HW
                                    go_wp2_with fail
                                    go_ret
                                    exact ⟨by rw [← HNo1.out]; rfl, HB.out.trans (HBl.out.mono HB.out.size)⟩
                                · have HNo1 := Lib.hid (show false = b by rw [← HBb.out]; exact (wr_noK HC2.out HK6.out (by rw [HW.out, gy, gv]; rfl)).symm)
                                  go_wp2_with fail
                                  go_ret
                                  exact ⟨by rw [← HNo1.out]; rfl, HB.out.trans (HBl.out.mono HB.out.size)⟩
                            · have e6 : k = 6 := by omega
                              have h6f : decide ((k : Int) < 6) = false := decide_eq_false (by omega)
                              have HAk6 := Lib.hid (show allB (wrK p c) 6 = true by rw [← e6]; exact HAk.out)
                              clear hk6 h6 e6 HAk
                              obtain ⟨z, hz⟩ : ∃ z, p (84 + c) = z := ⟨_, rfl⟩
                              have kz : wr.cell? ⟨b1, 84 + c, none⟩ = some (.int .u8 z) := by rw [HRw.out.cell _ (by have := HC2.out; omega), kf_u8 (by have := HC2.out; omega), hz]
                              have HW := Lib.hid (show wrG p c = (!(decide (3 < z) || (decide (0 < z) && (v != 5)))) by unfold wrG; rw [hz, HV.out])
                              clear hz
                              cases g3 : decide (3 < z)
                              · cases g0z : decide (0 < z)
                                · have HGc := Lib.hid (show wrG p c = true by rw [HW.out, g3, g0z]; rfl)
                                  go_wp2_with fail
                                  go_loopw [7] (fun i wr => ∃ d : Nat, d ≤ 2 ∧ i = .int .i64 d ∧ allB (wrR p c) d = true ∧ Below w1.heap.size w1 wr) (fun i _ => 2 - (intOf i).toNat)
                                  case atStart => exact ⟨0, by omega, rfl, rfl, HBl.out⟩
                                  case round =>
                                    clear HBl HRw
                                    obtain ⟨d, hd2, rfl, halld, hbel⟩ := hrel
                                    have HBl := Lib.hid hbel
                                    have HRw := Lib.hid (HR1.out.next hbel HI.out)
                                    have HAd := Lib.hid halld
                                    clear hbel halld
                                    by_cases hd : d < 2
                                    · have hld : (d : Int) < 2 := by omega
                                      have hd0 : (0 : Int) ≤ (d : Int) := by omega
                                      have HD2 := Lib.hid hd
                                      obtain ⟨f, hf⟩ : ∃ f, p (79 + c * 2 + d) = f := ⟨_, rfl⟩
                                      obtain ⟨f0, f1⟩ := HP.out.rook (79 + c * 2 + d) (by omega) (by have := HC2.out; omega)
                                      rw [hf] at f0 f1
                                      obtain ⟨rt, hrt⟩ : ∃ rt, rightB p (c : Int) (d : Int) f = rt := ⟨_, rfl⟩
                                      have HW := Lib.hid (show wrR p c d = (!((f != -1) && !rt)) by unfold wrR; rw [hf, hrt])
                                      have HFf := Lib.hid hf
                                      have HRt := Lib.hid hrt
                                      have HWf := Lib.hid (show IntKind.i64.wrap f = f by rw [IntKind.wrap_i64]; omega)
                                      have HWc := Lib.hid (show IntKind.u8.wrap (c : Int) = (c : Int) from fn_u8 (by have := HC2.out; omega))
                                      have HC0 := Lib.hid hc0
                                      have HC255 := Lib.hid (show (c : Int) ≤ 255 by have := HC2.out; omega)
                                      have hlc : (c : Int) < 2 := by have := HC2.out; omega
                                      clear hf hrt hd hd2
                                      have HB' := HB
                                      have HB := HBl
                                      by_cases hf1 : f = -1
                                      · subst hf1
                                        have HOk1 := Lib.hid (show wrR p c d = true by rw [HW.out]; rfl)
                                        go_wp2_with fail
                                        have HBs := HBl
                                        have HB := Lib.hid (Below.refl wr.heap.size wr)
                                        refine late_begin 22 (by kernel_rfl) ?_
                                        refine late_take 0 (by kernel_rfl) (by kernel_rfl) (by kernel_rfl) (by kernel_rfl) (by kernel_rfl) (fun _ _ d _ _ h => by cases d <;> exact h) (fun o ho => ?_)
                                        simp only [List.getElem?_toArray, List.getElem?_cons_zero, List.getElem?_cons_succ, Option.some.injEq] at ho; subst ho
                                        apply Exists.intro
                                        refine ⟨Or.inl ⟨by kernel_rfl, fun w' hl => Or.inl ?_⟩, ?_⟩
                                        · (go_simp; try with_reducible rfl)
                                        simp only [Act.put, List.setIfInBounds_toArray, List.set_cons_zero, List.set_cons_succ]
                                        refine late_take 1 (by kernel_rfl) (by kernel_rfl) (by kernel_rfl) (by kernel_rfl) (by kernel_rfl) (fun _ _ d _ _ h => by cases d <;> exact h) (fun o ho => ?_)
                                        simp only [List.getElem?_toArray, List.getElem?_cons_zero, List.getElem?_cons_succ, Option.some.injEq] at ho; subst ho
                                        apply Exists.intro
                                        refine ⟨Or.inl ⟨by kernel_rfl, fun w' hl => Or.inl ?_⟩, ?_⟩
                                        · (go_simp; try with_reducible rfl)
                                        simp only [Act.put, List.setIfInBounds_toArray, List.set_cons_zero, List.set_cons_succ]
                                        refine late_take 2 (by kernel_rfl) (by kernel_rfl) (by kernel_rfl) (by kernel_rfl) (by kernel_rfl) (fun _ _ d _ _ h => by cases d <;> exact h) (fun o ho => ?_)
                                        simp only [List.getElem?_toArray, List.getElem?_cons_zero, List.getElem?_cons_succ, Option.some.injEq] at ho; subst ho
                                        apply Exists.intro
                                        refine ⟨Or.inl ⟨by kernel_rfl, fun w' hl => Or.inl ?_⟩, ?_⟩
                                        · (go_simp; try with_reducible rfl)
                                        simp only [Act.put, List.setIfInBounds_toArray, List.set_cons_zero, List.set_cons_succ]
                                        refine late_take 3 (by kernel_rfl) (by kernel_rfl) (by kernel_rfl) (by kernel_rfl) (by kernel_rfl) (fun _ _ d _ _ h => by cases d <;> exact h) (fun o ho => ?_)
                                        simp only [List.getElem?_toArray, List.getElem?_cons_zero, List.getElem?_cons_succ, Option.some.injEq] at ho; subst ho
                                        refine ⟨.pointer (some ⟨b1, 79 + c * 2, none⟩), Or.inl ⟨by kernel_rfl, fun w' hl => Or.inl ?_⟩, ?_⟩
                                        · (go_simp; first | done | (with_reducible rfl) | (intro hbad; exfalso; omega))
                                        simp only [Act.put, List.setIfInBounds_toArray, List.set_cons_zero, List.set_cons_succ]
                                        refine late_take 4 (by kernel_rfl) (by kernel_rfl) (by kernel_rfl) (by kernel_rfl) (by kernel_rfl) (fun _ _ d _ _ h => by cases d <;> exact h) (fun o ho => ?_)
                                        simp only [List.getElem?_toArray, List.getElem?_cons_zero, List.getElem?_cons_succ, Option.some.injEq] at ho; subst ho
                                        refine ⟨.pointer (some ⟨b1, 79 + c * 2 + d, none⟩), Or.inl ⟨by kernel_rfl, fun w' hl => Or.inl ?_⟩, ?_⟩
                                        · (go_simp; first | done | (with_reducible rfl) | (intro hbad; exfalso; omega))
                                        simp only [Act.put, List.setIfInBounds_toArray, List.set_cons_zero, List.set_cons_succ]
                                        refine late_take 5 (by kernel_rfl) (by kernel_rfl) (by kernel_rfl) (by kernel_rfl) (by kernel_rfl) (fun _ _ d _ _ h => by cases d <;> exact h) (fun o ho => ?_)
                                        simp only [List.getElem?_toArray, List.getElem?_cons_zero, List.getElem?_cons_succ, Option.some.injEq] at ho; subst ho
                                        refine ⟨.int .i8 (-1), Or.inl ⟨by kernel_rfl, fun w' hl => Or.inl (run_get 26 _ rfl b1 (79 + c * 2 + d) rfl Tryz.underlying26 rfl (.int .i8 (-1)) (by rw [(HRw.out.later hl).cell (79 + c * 2 + d) (by have := HC2.out; have := HD2.out; omega), kf_i8 (by omega) (by have := HC2.out; have := HD2.out; omega), HFf.out]))⟩, ?_⟩
                                        simp only [Act.put, List.setIfInBounds_toArray, List.set_cons_zero, List.set_cons_succ]
                                        refine late_take 6 (by kernel_rfl) (by kernel_rfl) (by kernel_rfl) (by kernel_rfl) (by kernel_rfl) (fun _ _ d _ _ h => by cases d <;> exact h) (fun o ho => ?_)
                                        simp only [List.getElem?_toArray, List.getElem?_cons_zero, List.getElem?_cons_succ, Option.some.injEq] at ho; subst ho
                                        refine ⟨.bool false, Or.inl ⟨by kernel_rfl, fun w' hl => Or.inl ?_⟩, ?_⟩
                                        · (go_simp; try with_reducible rfl)
                                        simp only [Act.put, List.setIfInBounds_toArray, List.set_cons_zero, List.set_cons_succ]
                                        refine late_take 7 (by kernel_rfl) (by kernel_rfl) (by kernel_rfl) (by kernel_rfl) (by kernel_rfl) (fun _ _ d _ _ h => by cases d <;> exact h) (fun o ho => ?_)
                                        simp only [List.getElem?_toArray, List.getElem?_cons_zero, List.getElem?_cons_succ, Option.some.injEq] at ho; subst ho
                                        apply Exists.intro
                                        refine ⟨Or.inl ⟨by kernel_rfl, fun w' hl => Or.inl ?_⟩, ?_⟩
                                        · (go_simp; try with_reducible rfl)
                                        simp only [Act.put, List.setIfInBounds_toArray, List.set_cons_zero, List.set_cons_succ]
                                        refine late_take 8 (by kernel_rfl) (by kernel_rfl) (by kernel_rfl) (by kernel_rfl) (by kernel_rfl) (fun _ _ d _ _ h => by cases d <;> exact h) (fun o ho => ?_)
                                        simp only [List.getElem?_toArray, List.getElem?_cons_zero, List.getElem?_cons_succ, Option.some.injEq] at ho; subst ho
                                        refine ⟨_, Or.inr ⟨by kernel_rfl, rfl⟩, ?_⟩
                                        simp only [Act.put, List.setIfInBounds_toArray, List.set_cons_zero, List.set_cons_succ]
                                        refine late_take 9 (by kernel_rfl) (by kernel_rfl) (by kernel_rfl) (by kernel_rfl) (by kernel_rfl) (fun _ _ d _ _ h => by cases d <;> exact h) (fun o ho => ?_)
                                        simp only [List.getElem?_toArray, List.getElem?_cons_zero, List.getElem?_cons_succ, Option.some.injEq] at ho; subst ho
                                        refine ⟨_, Or.inr ⟨by kernel_rfl, rfl⟩, ?_⟩
                                        simp only [Act.put, List.setIfInBounds_toArray, List.set_cons_zero, List.set_cons_succ]
                                        refine late_take 10 (by kernel_rfl) (by kernel_rfl) (by kernel_rfl) (by kernel_rfl) (by kernel_rfl) (fun _ _ d _ _ h => by cases d <;> exact h) (fun o ho => ?_)
                                        simp only [List.getElem?_toArray, List.getElem?_cons_zero, List.getElem?_cons_succ, Option.some.injEq] at ho; subst ho
                                        refine ⟨_, Or.inr ⟨by kernel_rfl, rfl⟩, ?_⟩
                                        simp only [Act.put, List.setIfInBounds_toArray, List.set_cons_zero, List.set_cons_succ]
                                        refine late_take 11 (by kernel_rfl) (by kernel_rfl) (by kernel_rfl) (by kernel_rfl) (by kernel_rfl) (fun _ _ d _ _ h => by cases d <;> exact h) (fun o ho => ?_)
                                        simp only [List.getElem?_toArray, List.getElem?_cons_zero, List.getElem?_cons_succ, Option.some.injEq] at ho; subst ho
                                        refine ⟨_, Or.inr ⟨by kernel_rfl, rfl⟩, ?_⟩
                                        simp only [Act.put, List.setIfInBounds_toArray, List.set_cons_zero, List.set_cons_succ]
                                        refine late_take 12 (by kernel_rfl) (by kernel_rfl) (by kernel_rfl) (by kernel_rfl) (by kernel_rfl) (fun _ _ d _ _ h => by cases d <;> exact h) (fun o ho => ?_)
                                        simp only [List.getElem?_toArray, List.getElem?_cons_zero, List.getElem?_cons_succ, Option.some.injEq] at ho; subst ho
                                        refine ⟨_, Or.inr ⟨by kernel_rfl, rfl⟩, ?_⟩
                                        simp only [Act.put, List.setIfInBounds_toArray, List.set_cons_zero, List.set_cons_succ]
                                        refine late_take 13 (by kernel_rfl) (by kernel_rfl) (by kernel_rfl) (by kernel_rfl) (by kernel_rfl) (fun _ _ d _ _ h => by cases d <;> exact h) (fun o ho => ?_)
                                        simp only [List.getElem?_toArray, List.getElem?_cons_zero, List.getElem?_cons_succ, Option.some.injEq] at ho; subst ho
                                        refine ⟨_, Or.inr ⟨by kernel_rfl, rfl⟩, ?_⟩
                                        simp only [Act.put, List.setIfInBounds_toArray, List.set_cons_zero, List.set_cons_succ]
                                        refine late_take 14 (by kernel_rfl) (by kernel_rfl) (by kernel_rfl) (by kernel_rfl) (by kernel_rfl) (fun _ _ d _ _ h => by cases d <;> exact h) (fun o ho => ?_)
                                        simp only [List.getElem?_toArray, List.getElem?_cons_zero, List.getElem?_cons_succ, Option.some.injEq] at ho; subst ho
                                        refine ⟨_, Or.inr ⟨by kernel_rfl, rfl⟩, ?_⟩
                                        simp only [Act.put, List.setIfInBounds_toArray, List.set_cons_zero, List.set_cons_succ]
                                        refine late_take 15 (by kernel_rfl) (by kernel_rfl) (by kernel_rfl) (by kernel_rfl) (by kernel_rfl) (fun _ _ d _ _ h => by cases d <;> exact h) (fun o ho => ?_)
                                        simp only [List.getElem?_toArray, List.getElem?_cons_zero, List.getElem?_cons_succ, Option.some.injEq] at ho; subst ho
                                        refine ⟨_, Or.inr ⟨by kernel_rfl, rfl⟩, ?_⟩
                                        simp only [Act.put, List.setIfInBounds_toArray, List.set_cons_zero, List.set_cons_succ]
                                        refine late_take 16 (by kernel_rfl) (by kernel_rfl) (by kernel_rfl) (by kernel_rfl) (by kernel_rfl) (fun _ _ d _ _ h => by cases d <;> exact h) (fun o ho => ?_)
                                        simp only [List.getElem?_toArray, List.getElem?_cons_zero, List.getElem?_cons_succ, Option.some.injEq] at ho; subst ho
                                        refine ⟨_, Or.inr ⟨by kernel_rfl, rfl⟩, ?_⟩
                                        simp only [Act.put, List.setIfInBounds_toArray, List.set_cons_zero, List.set_cons_succ]
                                        refine late_take 17 (by kernel_rfl) (by kernel_rfl) (by kernel_rfl) (by kernel_rfl) (by kernel_rfl) (fun _ _ d _ _ h => by cases d <;> exact h) (fun o ho => ?_)
                                        simp only [List.getElem?_toArray, List.getElem?_cons_zero, List.getElem?_cons_succ, Option.some.injEq] at ho; subst ho
                                        refine ⟨_, Or.inr ⟨by kernel_rfl, rfl⟩, ?_⟩
                                        simp only [Act.put, List.setIfInBounds_toArray, List.set_cons_zero, List.set_cons_succ]
                                        refine late_take 18 (by kernel_rfl) (by kernel_rfl) (by kernel_rfl) (by kernel_rfl) (by kernel_rfl) (fun _ _ d _ _ h => by cases d <;> exact h) (fun o ho => ?_)
                                        simp only [List.getElem?_toArray, List.getElem?_cons_zero, List.getElem?_cons_succ, Option.some.injEq] at ho; subst ho
                                        refine ⟨_, Or.inr ⟨by kernel_rfl, rfl⟩, ?_⟩
                                        simp only [Act.put, List.setIfInBounds_toArray, List.set_cons_zero, List.set_cons_succ]
                                        refine late_take 19 (by kernel_rfl) (by kernel_rfl) (by kernel_rfl) (by kernel_rfl) (by kernel_rfl) (fun _ _ d _ _ h => by cases d <;> exact h) (fun o ho => ?_)
                                        simp only [List.getElem?_toArray, List.getElem?_cons_zero, List.getElem?_cons_succ, Option.some.injEq] at ho; subst ho
                                        refine ⟨_, Or.inr ⟨by kernel_rfl, rfl⟩, ?_⟩
                                        simp only [Act.put, List.setIfInBounds_toArray, List.set_cons_zero, List.set_cons_succ]
                                        refine late_take 20 (by kernel_rfl) (by kernel_rfl) (by kernel_rfl) (by kernel_rfl) (by kernel_rfl) (fun _ _ d _ _ h => by cases d <;> exact h) (fun o ho => ?_)
                                        simp only [List.getElem?_toArray, List.getElem?_cons_zero, List.getElem?_cons_succ, Option.some.injEq] at ho; subst ho
                                        refine ⟨_, Or.inr ⟨by kernel_rfl, rfl⟩, ?_⟩
                                        simp only [Act.put, List.setIfInBounds_toArray, List.set_cons_zero, List.set_cons_succ]
                                        refine late_take 21 (by kernel_rfl) (by kernel_rfl) (by kernel_rfl) (by kernel_rfl) (by kernel_rfl) (fun _ _ d _ _ h => by cases d <;> exact h) (fun o ho => ?_)
                                        simp only [List.getElem?_toArray, List.getElem?_cons_zero, List.getElem?_cons_succ, Option.some.injEq] at ho; subst ho
                                        apply Exists.intro
                                        refine ⟨Or.inl ⟨by kernel_rfl, fun w' hl => Or.inl ?_⟩, ?_⟩
                                        · (go_simp; try with_reducible rfl)
                                        simp only [Act.put, List.setIfInBounds_toArray, List.set_cons_zero, List.set_cons_succ]
                                        refine late_end (by kernel_rfl) (fun wn hl => ?_)
                                        have HRw := Lib.hid (HRw.out.later hl); have HB := Lib.hid (below_on HB.out hl); clear hl
                                        go_wp2_with fail
                                        go_roundw
                                        case rel => exact ⟨d + 1, by have := HD2.out; omega, by go_num, allB_succ HAd.out HOk1.out, HBs.out.trans (HB.out.mono HBs.out.size)⟩
                                        case measure => simp [intOf]; have := HD2.out; omega
                                      · have gf : (f != -1) = true := by simp [hf1]
                                        have HGf := Lib.hid gf
                                        clear hf1
                                        cases rt
                                        · have HNo1 := Lib.hid (show false = b by rw [← HBb.out]; exact (wr_noR HC2.out HD2.out (by rw [HW.out, gf]; rfl)).symm)
                                          go_wp2_with fail
                                          have HBs := HBl
                                          have HB := Lib.hid (Below.refl wr.heap.size wr)
                                          refine late_begin 22 (by kernel_rfl) ?_
                                          refine late_take 0 (by kernel_rfl) (by kernel_rfl) (by kernel_rfl) (by kernel_rfl) (by kernel_rfl) (fun _ _ d _ _ h => by cases d <;> exact h) (fun o ho => ?_)
                                          simp only [List.getElem?_toArray, List.getElem?_cons_zero, List.getElem?_cons_succ, Option.some.injEq] at ho; subst ho
                                          apply Exists.intro
                                          refine ⟨Or.inl ⟨by kernel_rfl, fun w' hl => Or.inl ?_⟩, ?_⟩
                                          · (go_simp; try with_reducible rfl)
                                          simp only [Act.put, List.setIfInBounds_toArray, List.set_cons_zero, List.set_cons_succ]
                                          refine late_take 1 (by kernel_rfl) (by kernel_rfl) (by kernel_rfl) (by kernel_rfl) (by kernel_rfl) (fun _ _ d _ _ h => by cases d <;> exact h) (fun o ho => ?_)
                                          simp only [List.getElem?_toArray, List.getElem?_cons_zero, List.getElem?_cons_succ, Option.some.injEq] at ho; subst ho
                                          apply Exists.intro
                                          refine ⟨Or.inl ⟨by kernel_rfl, fun w' hl => Or.inl ?_⟩, ?_⟩
                                          · (go_simp; try with_reducible rfl)
                                          simp only [Act.put, List.setIfInBounds_toArray, List.set_cons_zero, List.set_cons_succ]
                                          refine late_take 2 (by kernel_rfl) (by kernel_rfl) (by kernel_rfl) (by kernel_rfl) (by kernel_rfl) (fun _ _ d _ _ h => by cases d <;> exact h) (fun o ho => ?_)
                                          simp only [List.getElem?_toArray, List.getElem?_cons_zero, List.getElem?_cons_succ, Option.some.injEq] at ho; subst ho
                                          apply Exists.intro
                                          refine ⟨Or.inl ⟨by kernel_rfl, fun w' hl => Or.inl ?_⟩, ?_⟩
                                          · (go_simp; try with_reducible rfl)
                                          simp only [Act.put, List.setIfInBounds_toArray, List.set_cons_zero, List.set_cons_succ]
                                          refine late_take 3 (by kernel_rfl) (by kernel_rfl) (by kernel_rfl) (by kernel_rfl) (by kernel_rfl) (fun _ _ d _ _ h => by cases d <;> exact h) (fun o ho => ?_)
                                          simp only [List.getElem?_toArray, List.getElem?_cons_zero, List.getElem?_cons_succ, Option.some.injEq] at ho; subst ho
                                          refine ⟨.pointer (some ⟨b1, 79 + c * 2, none⟩), Or.inl ⟨by kernel_rfl, fun w' hl => Or.inl ?_⟩, ?_⟩
                                          · (go_simp; first | done | (with_reducible rfl) | (intro hbad; exfalso; omega))
                                          simp only [Act.put, List.setIfInBounds_toArray, List.set_cons_zero, List.set_cons_succ]
                                          refine late_take 4 (by kernel_rfl) (by kernel_rfl) (by kernel_rfl) (by kernel_rfl) (by kernel_rfl) (fun _ _ d _ _ h => by cases d <;> exact h) (fun o ho => ?_)
                                          simp only [List.getElem?_toArray, List.getElem?_cons_zero, List.getElem?_cons_succ, Option.some.injEq] at ho; subst ho
                                          refine ⟨.pointer (some ⟨b1, 79 + c * 2 + d, none⟩), Or.inl ⟨by kernel_rfl, fun w' hl => Or.inl ?_⟩, ?_⟩
                                          · (go_simp; first | done | (with_reducible rfl) | (intro hbad; exfalso; omega))
                                          simp only [Act.put, List.setIfInBounds_toArray, List.set_cons_zero, List.set_cons_succ]
                                          refine late_take 5 (by kernel_rfl) (by kernel_rfl) (by kernel_rfl) (by kernel_rfl) (by kernel_rfl) (fun _ _ d _ _ h => by cases d <;> exact h) (fun o ho => ?_)
                                          simp only [List.getElem?_toArray, List.getElem?_cons_zero, List.getElem?_cons_succ, Option.some.injEq] at ho; subst ho
                                          refine ⟨.int .i8 f, Or.inl ⟨by kernel_rfl, fun w' hl => Or.inl (run_get 26 _ rfl b1 (79 + c * 2 + d) rfl Tryz.underlying26 rfl (.int .i8 f) (by rw [(HRw.out.later hl).cell (79 + c * 2 + d) (by have := HC2.out; have := HD2.out; omega), kf_i8 (by omega) (by have := HC2.out; have := HD2.out; omega), HFf.out]))⟩, ?_⟩
                                          simp only [Act.put, List.setIfInBounds_toArray, List.set_cons_zero, List.set_cons_succ]
                                          refine late_take 6 (by kernel_rfl) (by kernel_rfl) (by kernel_rfl) (by kernel_rfl) (by kernel_rfl) (fun _ _ d _ _ h => by cases d <;> exact h) (fun o ho => ?_)
                                          simp only [List.getElem?_toArray, List.getElem?_cons_zero, List.getElem?_cons_succ, Option.some.injEq] at ho; subst ho
                                          refine ⟨.bool true, Or.inl ⟨by kernel_rfl, fun w' hl => Or.inl ?_⟩, ?_⟩
                                          · (go_simp; first | done | rw [HGf.out])
                                          simp only [Act.put, List.setIfInBounds_toArray, List.set_cons_zero, List.set_cons_succ]
                                          refine late_take 7 (by kernel_rfl) (by kernel_rfl) (by kernel_rfl) (by kernel_rfl) (by kernel_rfl) (fun _ _ d _ _ h => by cases d <;> exact h) (fun o ho => ?_)
                                          simp only [List.getElem?_toArray, List.getElem?_cons_zero, List.getElem?_cons_succ, Option.some.injEq] at ho; subst ho
                                          apply Exists.intro
                                          refine ⟨Or.inl ⟨by kernel_rfl, fun w' hl => Or.inl ?_⟩, ?_⟩
                                          · (go_simp; try with_reducible rfl)
                                          simp only [Act.put, List.setIfInBounds_toArray, List.set_cons_zero, List.set_cons_succ]
                                          refine late_take 8 (by kernel_rfl) (by kernel_rfl) (by kernel_rfl) (by kernel_rfl) (by kernel_rfl) (fun _ _ d _ _ h => by cases d <;> exact h) (fun o ho => ?_)
                                          simp only [List.getElem?_toArray, List.getElem?_cons_zero, List.getElem?_cons_succ, Option.some.injEq] at ho; subst ho
                                          refine ⟨_, Or.inl ⟨by kernel_rfl, fun w' hl => Or.inl (run_load _ rfl _ rfl (p) (HRw.out.later hl))⟩, ?_⟩
                                          simp only [Act.put, List.setIfInBounds_toArray, List.set_cons_zero, List.set_cons_succ]
                                          refine late_take 9 (by kernel_rfl) (by kernel_rfl) (by kernel_rfl) (by kernel_rfl) (by kernel_rfl) (fun _ _ d _ _ h => by cases d <;> exact h) (fun o ho => ?_)
                                          simp only [List.getElem?_toArray, List.getElem?_cons_zero, List.getElem?_cons_succ, Option.some.injEq] at ho; subst ho
                                          apply Exists.intro
                                          refine ⟨Or.inl ⟨by kernel_rfl, fun w' hl => Or.inl ?_⟩, ?_⟩
                                          · (go_simp; try with_reducible rfl)
                                          simp only [Act.put, List.setIfInBounds_toArray, List.set_cons_zero, List.set_cons_succ]
                                          refine late_take 10 (by kernel_rfl) (by kernel_rfl) (by kernel_rfl) (by kernel_rfl) (by kernel_rfl) (fun _ _ d _ _ h => by cases d <;> exact h) (fun o ho => ?_)
                                          simp only [List.getElem?_toArray, List.getElem?_cons_zero, List.getElem?_cons_succ, Option.some.injEq] at ho; subst ho
                                          refine ⟨.int .u8 (c : Int), Or.inl ⟨by kernel_rfl, fun w' hl => Or.inl ?_⟩, ?_⟩
                                          · (go_simp; rw [HWc.out])
                                          simp only [Act.put, List.setIfInBounds_toArray, List.set_cons_zero, List.set_cons_succ]
                                          refine late_take 11 (by kernel_rfl) (by kernel_rfl) (by kernel_rfl) (by kernel_rfl) (by kernel_rfl) (fun _ _ d _ _ h => by cases d <;> exact h) (fun o ho => ?_)
                                          simp only [List.getElem?_toArray, List.getElem?_cons_zero, List.getElem?_cons_succ, Option.some.injEq] at ho; subst ho
                                          apply Exists.intro
                                          refine ⟨Or.inl ⟨by kernel_rfl, fun w' hl => Or.inl ?_⟩, ?_⟩
                                          · (go_simp; try with_reducible rfl)
                                          simp only [Act.put, List.setIfInBounds_toArray, List.set_cons_zero, List.set_cons_succ]
                                          refine late_take 12 (by kernel_rfl) (by kernel_rfl) (by kernel_rfl) (by kernel_rfl) (by kernel_rfl) (fun _ _ d _ _ h => by cases d <;> exact h) (fun o ho => ?_)
                                          simp only [List.getElem?_toArray, List.getElem?_cons_zero, List.getElem?_cons_succ, Option.some.injEq] at ho; subst ho
                                          apply Exists.intro
                                          refine ⟨Or.inl ⟨by kernel_rfl, fun w' hl => Or.inl ?_⟩, ?_⟩
                                          · (go_simp; try with_reducible rfl)
                                          simp only [Act.put, List.setIfInBounds_toArray, List.set_cons_zero, List.set_cons_succ]
                                          refine late_take 13 (by kernel_rfl) (by kernel_rfl) (by kernel_rfl) (by kernel_rfl) (by kernel_rfl) (fun _ _ d _ _ h => by cases d <;> exact h) (fun o ho => ?_)
                                          simp only [List.getElem?_toArray, List.getElem?_cons_zero, List.getElem?_cons_succ, Option.some.injEq] at ho; subst ho
                                          apply Exists.intro
                                          refine ⟨Or.inl ⟨by kernel_rfl, fun w' hl => Or.inl ?_⟩, ?_⟩
                                          · (go_simp; try with_reducible rfl)
                                          simp only [Act.put, List.setIfInBounds_toArray, List.set_cons_zero, List.set_cons_succ]
                                          refine late_take 14 (by kernel_rfl) (by kernel_rfl) (by kernel_rfl) (by kernel_rfl) (by kernel_rfl) (fun _ _ d _ _ h => by cases d <;> exact h) (fun o ho => ?_)
                                          simp only [List.getElem?_toArray, List.getElem?_cons_zero, List.getElem?_cons_succ, Option.some.injEq] at ho; subst ho
                                          apply Exists.intro
                                          refine ⟨Or.inl ⟨by kernel_rfl, fun w' hl => Or.inl ?_⟩, ?_⟩
                                          · (go_simp; try with_reducible rfl)
                                          simp only [Act.put, List.setIfInBounds_toArray, List.set_cons_zero, List.set_cons_succ]
                                          refine late_take 15 (by kernel_rfl) (by kernel_rfl) (by kernel_rfl) (by kernel_rfl) (by kernel_rfl) (fun _ _ d _ _ h => by cases d <;> exact h) (fun o ho => ?_)
                                          simp only [List.getElem?_toArray, List.getElem?_cons_zero, List.getElem?_cons_succ, Option.some.injEq] at ho; subst ho
                                          refine ⟨.pointer (some ⟨b1, 79 + c * 2, none⟩), Or.inl ⟨by kernel_rfl, fun w' hl => Or.inl ?_⟩, ?_⟩
                                          · (go_simp; first | done | (with_reducible rfl) | (intro hbad; exfalso; omega))
                                          simp only [Act.put, List.setIfInBounds_toArray, List.set_cons_zero, List.set_cons_succ]
                                          refine late_take 16 (by kernel_rfl) (by kernel_rfl) (by kernel_rfl) (by kernel_rfl) (by kernel_rfl) (fun _ _ d _ _ h => by cases d <;> exact h) (fun o ho => ?_)
                                          simp only [List.getElem?_toArray, List.getElem?_cons_zero, List.getElem?_cons_succ, Option.some.injEq] at ho; subst ho
                                          refine ⟨.pointer (some ⟨b1, 79 + c * 2 + d, none⟩), Or.inl ⟨by kernel_rfl, fun w' hl => Or.inl ?_⟩, ?_⟩
                                          · (go_simp; first | done | (with_reducible rfl) | (intro hbad; exfalso; omega))
                                          simp only [Act.put, List.setIfInBounds_toArray, List.set_cons_zero, List.set_cons_succ]
                                          refine late_take 17 (by kernel_rfl) (by kernel_rfl) (by kernel_rfl) (by kernel_rfl) (by kernel_rfl) (fun _ _ d _ _ h => by cases d <;> exact h) (fun o ho => ?_)
                                          simp only [List.getElem?_toArray, List.getElem?_cons_zero, List.getElem?_cons_succ, Option.some.injEq] at ho; subst ho
                                          refine ⟨.int .i8 f, Or.inl ⟨by kernel_rfl, fun w' hl => Or.inl (run_get 26 _ rfl b1 (79 + c * 2 + d) rfl Tryz.underlying26 rfl (.int .i8 f) (by rw [(HRw.out.later hl).cell (79 + c * 2 + d) (by have := HC2.out; have := HD2.out; omega), kf_i8 (by omega) (by have := HC2.out; have := HD2.out; omega), HFf.out]))⟩, ?_⟩
                                          simp only [Act.put, List.setIfInBounds_toArray, List.set_cons_zero, List.set_cons_succ]
                                          refine late_take 18 (by kernel_rfl) (by kernel_rfl) (by kernel_rfl) (by kernel_rfl) (by kernel_rfl) (fun _ _ d _ _ h => by cases d <;> exact h) (fun o ho => ?_)
                                          simp only [List.getElem?_toArray, List.getElem?_cons_zero, List.getElem?_cons_succ, Option.some.injEq] at ho; subst ho
                                          refine ⟨.int .i64 f, Or.inl ⟨by kernel_rfl, fun w' hl => Or.inl ?_⟩, ?_⟩
                                          · (go_simp; rw [HWf.out])
                                          simp only [Act.put, List.setIfInBounds_toArray, List.set_cons_zero, List.set_cons_succ]
                                          refine late_one 19 (by kernel_rfl) (by kernel_rfl) (fun o ho => ?_)
                                          simp only [List.getElem?_toArray, List.getElem?_cons_zero, List.getElem?_cons_succ, Option.some.injEq] at ho; subst ho
                                          refine ⟨by kernel_rfl, fun wn hl K hK => ?_⟩
                                          have HRw := Lib.hid (HRw.out.later hl); have HB := Lib.hid (below_on HB.out hl); clear hl
                                          refine wp_enter _ _ (by go_simp; exact ⟨rfl, rfl⟩) ?_
                                          refine (rright_any p (c : Int) (d : Int) f _ HP.out.bd HC0.out HC255.out).mono ?_; rintro e wm ⟨rfl, hb⟩; refine ⟨_, rfl, ?_⟩
                                          rw [HRt.out]
                                          refine hK.out _ _ hb ?_
                                          have HRw := Lib.hid (HRw.out.later hb); have HB := Lib.hid (below_on HB.out hb); clear hb
                                          clear hK K
                                          simp only [Act.put, List.setIfInBounds_toArray, List.set_cons_zero, List.set_cons_succ]
                                          refine late_take 20 (by kernel_rfl) (by kernel_rfl) (by kernel_rfl) (by kernel_rfl) (by kernel_rfl) (fun _ _ d _ _ h => by cases d <;> exact h) (fun o ho => ?_)
                                          simp only [List.getElem?_toArray, List.getElem?_cons_zero, List.getElem?_cons_succ, Option.some.injEq] at ho; subst ho
                                          apply Exists.intro
                                          refine ⟨Or.inl ⟨by kernel_rfl, fun w' hl => Or.inl ?_⟩, ?_⟩
                                          · (go_simp; try with_reducible rfl)
                                          simp only [Act.put, List.setIfInBounds_toArray, List.set_cons_zero, List.set_cons_succ]
                                          refine late_take 21 (by kernel_rfl) (by kernel_rfl) (by kernel_rfl) (by kernel_rfl) (by kernel_rfl) (fun _ _ d _ _ h => by cases d <;> exact h) (fun o ho => ?_)
                                          simp only [List.getElem?_toArray, List.getElem?_cons_zero, List.getElem?_cons_succ, Option.some.injEq] at ho; subst ho
                                          apply Exists.intro
                                          refine ⟨Or.inl ⟨by kernel_rfl, fun w' hl => Or.inl ?_⟩, ?_⟩
                                          · (go_simp; try with_reducible rfl)
                                          simp only [Act.put, List.setIfInBounds_toArray, List.set_cons_zero, List.set_cons_succ]
                                          refine late_end (by kernel_rfl) (fun wn hl => ?_)
                                          have HRw := Lib.hid (HRw.out.later hl); have HB := Lib.hid (below_on HB.out hl); clear hl
                                          go_wp2_with fail
                                          go_ret
                                          exact ⟨by rw [← HNo1.out]; rfl, HB'.out.trans ((HBs.out.trans (HB.out.mono HBs.out.size)).mono HB'.out.size)⟩
                                        · have HOk1 := Lib.hid (show wrR p c d = true by rw [HW.out, gf]; rfl)
                                          go_wp2_with fail
                                          have HBs := HBl
                                          have HB := Lib.hid (Below.refl wr.heap.size wr)
                                          refine late_begin 22 (by kernel_rfl) ?_
                                          refine late_take 0 (by kernel_rfl) (by kernel_rfl) (by kernel_rfl) (by kernel_rfl) (by kernel_rfl) (fun _ _ d _ _ h => by cases d <;> exact h) (fun o ho => ?_)
                                          simp only [List.getElem?_toArray, List.getElem?_cons_zero, List.getElem?_cons_succ, Option.some.injEq] at ho; subst ho
                                          apply Exists.intro
                                          refine ⟨Or.inl ⟨by kernel_rfl, fun w' hl => Or.inl ?_⟩, ?_⟩
                                          · (go_simp; try with_reducible rfl)
                                          simp only [Act.put, List.setIfInBounds_toArray, List.set_cons_zero, List.set_cons_succ]
                                          refine late_take 1 (by kernel_rfl) (by kernel_rfl) (by kernel_rfl) (by kernel_rfl) (by kernel_rfl) (fun _ _ d _ _ h => by cases d <;> exact h) (fun o ho => ?_)
                                          simp only [List.getElem?_toArray, List.getElem?_cons_zero, List.getElem?_cons_succ, Option.some.injEq] at ho; subst ho
                                          apply Exists.intro
                                          refine ⟨Or.inl ⟨by kernel_rfl, fun w' hl => Or.inl ?_⟩, ?_⟩
                                          · (go_simp; try with_reducible rfl)
                                          simp only [Act.put, List.setIfInBounds_toArray, List.set_cons_zero, List.set_cons_succ]
                                          refine late_take 2 (by kernel_rfl) (by kernel_rfl) (by kernel_rfl) (by kernel_rfl) (by kernel_rfl) (fun _ _ d _ _ h => by cases d <;> exact h) (fun o ho => ?_)
                                          simp only [List.getElem?_toArray, List.getElem?_cons_zero, List.getElem?_cons_succ, Option.some.injEq] at ho; subst ho
                                          apply Exists.intro
                                          refine ⟨Or.inl ⟨by kernel_rfl, fun w' hl => Or.inl ?_⟩, ?_⟩
                                          · (go_simp; try with_reducible rfl)
                                          simp only [Act.put, List.setIfInBounds_toArray, List.set_cons_zero, List.set_cons_succ]
                                          refine late_take 3 (by kernel_rfl) (by kernel_rfl) (by kernel_rfl) (by kernel_rfl) (by kernel_rfl) (fun _ _ d _ _ h => by cases d <;> exact h) (fun o ho => ?_)
                                          simp only [List.getElem?_toArray, List.getElem?_cons_zero, List.getElem?_cons_succ, Option.some.injEq] at ho; subst ho
                                          refine ⟨.pointer (some ⟨b1, 79 + c * 2, none⟩), Or.inl ⟨by kernel_rfl, fun w' hl => Or.inl ?_⟩, ?_⟩
                                          · (go_simp; first | done | (with_reducible rfl) | (intro hbad; exfalso; omega))
                                          simp only [Act.put, List.setIfInBounds_toArray, List.set_cons_zero, List.set_cons_succ]
                                          refine late_take 4 (by kernel_rfl) (by kernel_rfl) (by kernel_rfl) (by kernel_rfl) (by kernel_rfl) (fun _ _ d _ _ h => by cases d <;> exact h) (fun o ho => ?_)
                                          simp only [List.getElem?_toArray, List.getElem?_cons_zero, List.getElem?_cons_succ, Option.some.injEq] at ho; subst ho
                                          refine ⟨.pointer (some ⟨b1, 79 + c * 2 + d, none⟩), Or.inl ⟨by kernel_rfl, fun w' hl => Or.inl ?_⟩, ?_⟩
                                          · (go_simp; first | done | (with_reducible rfl) | (intro hbad; exfalso; omega))
                                          simp only [Act.put, List.setIfInBounds_toArray, List.set_cons_zero, List.set_cons_succ]
                                          refine late_take 5 (by kernel_rfl) (by kernel_rfl) (by kernel_rfl) (by kernel_rfl) (by kernel_rfl) (fun _ _ d _ _ h => by cases d <;> exact h) (fun o ho => ?_)
                                          simp only [List.getElem?_toArray, List.getElem?_cons_zero, List.getElem?_cons_succ, Option.some.injEq] at ho; subst ho
                                          refine ⟨.int .i8 f, Or.inl ⟨by kernel_rfl, fun w' hl => Or.inl (run_get 26 _ rfl b1 (79 + c * 2 + d) rfl Tryz.underlying26 rfl (.int .i8 f) (by rw [(HRw.out.later hl).cell (79 + c * 2 + d) (by have := HC2.out; have := HD2.out; omega), kf_i8 (by omega) (by have := HC2.out; have := HD2.out; omega), HFf.out]))⟩, ?_⟩
                                          simp only [Act.put, List.setIfInBounds_toArray, List.set_cons_zero, List.set_cons_succ]
                                          refine late_take 6 (by kernel_rfl) (by kernel_rfl) (by kernel_rfl) (by kernel_rfl) (by kernel_rfl) (fun _ _ d _ _ h => by cases d <;> exact h) (fun o ho => ?_)
                                          simp only [List.getElem?_toArray, List.getElem?_cons_zero, List.getElem?_cons_succ, Option.some.injEq] at ho; subst ho
                                          refine ⟨.bool true, Or.inl ⟨by kernel_rfl, fun w' hl => Or.inl ?_⟩, ?_⟩
                                          · (go_simp; first | done | rw [HGf.out])
                                          simp only [Act.put, List.setIfInBounds_toArray, List.set_cons_zero, List.set_cons_succ]
                                          refine late_take 7 (by kernel_rfl) (by kernel_rfl) (by kernel_rfl) (by kernel_rfl) (by kernel_rfl) (fun _ _ d _ _ h => by cases d <;> exact h) (fun o ho => ?_)
                                          simp only [List.getElem?_toArray, List.getElem?_cons_zero, List.getElem?_cons_succ, Option.some.injEq] at ho; subst ho
                                          apply Exists.intro
                                          refine ⟨Or.inl ⟨by kernel_rfl, fun w' hl => Or.inl ?_⟩, ?_⟩
                                          · (go_simp; try with_reducible rfl)
                                          simp only [Act.put, List.setIfInBounds_toArray, List.set_cons_zero, List.set_cons_succ]
                                          refine late_take 8 (by kernel_rfl) (by kernel_rfl) (by kernel_rfl) (by kernel_rfl) (by kernel_rfl) (fun _ _ d _ _ h => by cases d <;> exact h) (fun o ho => ?_)
                                          simp only [List.getElem?_toArray, List.getElem?_cons_zero, List.getElem?_cons_succ, Option.some.injEq] at ho; subst ho
                                          refine ⟨_, Or.inl ⟨by kernel_rfl, fun w' hl => Or.inl (run_load _ rfl _ rfl (p) (HRw.out.later hl))⟩, ?_⟩
                                          simp only [Act.put, List.setIfInBounds_toArray, List.set_cons_zero, List.set_cons_succ]
                                          refine late_take 9 (by kernel_rfl) (by kernel_rfl) (by kernel_rfl) (by kernel_rfl) (by kernel_rfl) (fun _ _ d _ _ h => by cases d <;> exact h) (fun o ho => ?_)
                                          simp only [List.getElem?_toArray, List.getElem?_cons_zero, List.getElem?_cons_succ, Option.some.injEq] at ho; subst ho
                                          apply Exists.intro
                                          refine ⟨Or.inl ⟨by kernel_rfl, fun w' hl => Or.inl ?_⟩, ?_⟩
                                          · (go_simp; try with_reducible rfl)
                                          simp only [Act.put, List.setIfInBounds_toArray, List.set_cons_zero, List.set_cons_succ]
                                          refine late_take 10 (by kernel_rfl) (by kernel_rfl) (by kernel_rfl) (by kernel_rfl) (by kernel_rfl) (fun _ _ d _ _ h => by cases d <;> exact h) (fun o ho => ?_)
                                          simp only [List.getElem?_toArray, List.getElem?_cons_zero, List.getElem?_cons_succ, Option.some.injEq] at ho; subst ho
                                          refine ⟨.int .u8 (c : Int), Or.inl ⟨by kernel_rfl, fun w' hl => Or.inl ?_⟩, ?_⟩
                                          · (go_simp; rw [HWc.out])
                                          simp only [Act.put, List.setIfInBounds_toArray, List.set_cons_zero, List.set_cons_succ]
                                          refine late_take 11 (by kernel_rfl) (by kernel_rfl) (by kernel_rfl) (by kernel_rfl) (by kernel_rfl) (fun _ _ d _ _ h => by cases d <;> exact h) (fun o ho => ?_)
                                          simp only [List.getElem?_toArray, List.getElem?_cons_zero, List.getElem?_cons_succ, Option.some.injEq] at ho; subst ho
                                          apply Exists.intro
                                          refine ⟨Or.inl ⟨by kernel_rfl, fun w' hl => Or.inl ?_⟩, ?_⟩
                                          · (go_simp; try with_reducible rfl)
                                          simp only [Act.put, List.setIfInBounds_toArray, List.set_cons_zero, List.set_cons_succ]
                                          refine late_take 12 (by kernel_rfl) (by kernel_rfl) (by kernel_rfl) (by kernel_rfl) (by kernel_rfl) (fun _ _ d _ _ h => by cases d <;> exact h) (fun o ho => ?_)
                                          simp only [List.getElem?_toArray, List.getElem?_cons_zero, List.getElem?_cons_succ, Option.some.injEq] at ho; subst ho
                                          apply Exists.intro
                                          refine ⟨Or.inl ⟨by kernel_rfl, fun w' hl => Or.inl ?_⟩, ?_⟩
                                          · (go_simp; try with_reducible rfl)
                                          simp only [Act.put, List.setIfInBounds_toArray, List.set_cons_zero, List.set_cons_succ]
                                          refine late_take 13 (by kernel_rfl) (by kernel_rfl) (by kernel_rfl) (by kernel_rfl) (by kernel_rfl) (fun _ _ d _ _ h => by cases d <;> exact h) (fun o ho => ?_)
                                          simp only [List.getElem?_toArray, List.getElem?_cons_zero, List.getElem?_cons_succ, Option.some.injEq] at ho; subst ho
                                          apply Exists.intro
                                          refine ⟨Or.inl ⟨by kernel_rfl, fun w' hl => Or.inl ?_⟩, ?_⟩
                                          · (go_simp; try with_reducible rfl)
                                          simp only [Act.put, List.setIfInBounds_toArray, List.set_cons_zero, List.set_cons_succ]
                                          refine late_take 14 (by kernel_rfl) (by kernel_rfl) (by kernel_rfl) (by kernel_rfl) (by kernel_rfl) (fun _ _ d _ _ h => by cases d <;> exact h) (fun o ho => ?_)
                                          simp only [List.getElem?_toArray, List.getElem?_cons_zero, List.getElem?_cons_succ, Option.some.injEq] at ho; subst ho
                                          apply Exists.intro
                                          refine ⟨Or.inl ⟨by kernel_rfl, fun w' hl => Or.inl ?_⟩, ?_⟩
                                          · (go_simp; try with_reducible rfl)
                                          simp only [Act.put, List.setIfInBounds_toArray, List.set_cons_zero, List.set_cons_succ]
                                          refine late_take 15 (by kernel_rfl) (by kernel_rfl) (by kernel_rfl) (by kernel_rfl) (by kernel_rfl) (fun _ _ d _ _ h => by cases d <;> exact h) (fun o ho => ?_)
                                          simp only [List.getElem?_toArray, List.getElem?_cons_zero, List.getElem?_cons_succ, Option.some.injEq] at ho; subst ho
                                          refine ⟨.pointer (some ⟨b1, 79 + c * 2, none⟩), Or.inl ⟨by kernel_rfl, fun w' hl => Or.inl ?_⟩, ?_⟩
                                          · (go_simp; first | done | (with_reducible rfl) | (intro hbad; exfalso; omega))
                                          simp only [Act.put, List.setIfInBounds_toArray, List.set_cons_zero, List.set_cons_succ]
                                          refine late_take 16 (by kernel_rfl) (by kernel_rfl) (by kernel_rfl) (by kernel_rfl) (by kernel_rfl) (fun _ _ d _ _ h => by cases d <;> exact h) (fun o ho => ?_)
                                          simp only [List.getElem?_toArray, List.getElem?_cons_zero, List.getElem?_cons_succ, Option.some.injEq] at ho; subst ho
                                          refine ⟨.pointer (some ⟨b1, 79 + c * 2 + d, none⟩), Or.inl ⟨by kernel_rfl, fun w' hl => Or.inl ?_⟩, ?_⟩
                                          · (go_simp; first | done | (with_reducible rfl) | (intro hbad; exfalso; omega))
                                          simp only [Act.put, List.setIfInBounds_toArray, List.set_cons_zero, List.set_cons_succ]
                                          refine late_take 17 (by kernel_rfl) (by kernel_rfl) (by kernel_rfl) (by kernel_rfl) (by kernel_rfl) (fun _ _ d _ _ h => by cases d <;> exact h) (fun o ho => ?_)
                                          simp only [List.getElem?_toArray, List.getElem?_cons_zero, List.getElem?_cons_succ, Option.some.injEq] at ho; subst ho
                                          refine ⟨.int .i8 f, Or.inl ⟨by kernel_rfl, fun w' hl => Or.inl (run_get 26 _ rfl b1 (79 + c * 2 + d) rfl Tryz.underlying26 rfl (.int .i8 f) (by rw [(HRw.out.later hl).cell (79 + c * 2 + d) (by have := HC2.out; have := HD2.out; omega), kf_i8 (by omega) (by have := HC2.out; have := HD2.out; omega), HFf.out]))⟩, ?_⟩
                                          simp only [Act.put, List.setIfInBounds_toArray, List.set_cons_zero, List.set_cons_succ]
                                          refine late_take 18 (by kernel_rfl) (by kernel_rfl) (by kernel_rfl) (by kernel_rfl) (by kernel_rfl) (fun _ _ d _ _ h => by cases d <;> exact h) (fun o ho => ?_)
                                          simp only [List.getElem?_toArray, List.getElem?_cons_zero, List.getElem?_cons_succ, Option.some.injEq] at ho; subst ho
                                          refine ⟨.int .i64 f, Or.inl ⟨by kernel_rfl, fun w' hl => Or.inl ?_⟩, ?_⟩
                                          · (go_simp; rw [HWf.out])
                                          simp only [Act.put, List.setIfInBounds_toArray, List.set_cons_zero, List.set_cons_succ]
                                          refine late_one 19 (by kernel_rfl) (by kernel_rfl) (fun o ho => ?_)
                                          simp only [List.getElem?_toArray, List.getElem?_cons_zero, List.getElem?_cons_succ, Option.some.injEq] at ho; subst ho
                                          refine ⟨by kernel_rfl, fun wn hl K hK => ?_⟩
                                          have HRw := Lib.hid (HRw.out.later hl); have HB := Lib.hid (below_on HB.out hl); clear hl
                                          refine wp_enter _ _ (by go_simp; exact ⟨rfl, rfl⟩) ?_
                                          refine (rright_any p (c : Int) (d : Int) f _ HP.out.bd HC0.out HC255.out).mono ?_; rintro e wm ⟨rfl, hb⟩; refine ⟨_, rfl, ?_⟩
                                          rw [HRt.out]
                                          refine hK.out _ _ hb ?_
                                          have HRw := Lib.hid (HRw.out.later hb); have HB := Lib.hid (below_on HB.out hb); clear hb
                                          clear hK K
                                          simp only [Act.put, List.setIfInBounds_toArray, List.set_cons_zero, List.set_cons_succ]
                                          refine late_take 20 (by kernel_rfl) (by kernel_rfl) (by kernel_rfl) (by kernel_rfl) (by kernel_rfl) (fun _ _ d _ _ h => by cases d <;> exact h) (fun o ho => ?_)
                                          simp only [List.getElem?_toArray, List.getElem?_cons_zero, List.getElem?_cons_succ, Option.some.injEq] at ho; subst ho
                                          apply Exists.intro
                                          refine ⟨Or.inl ⟨by kernel_rfl, fun w' hl => Or.inl ?_⟩, ?_⟩
                                          · (go_simp; try with_reducible rfl)
                                          simp only [Act.put, List.setIfInBounds_toArray, List.set_cons_zero, List.set_cons_succ]
                                          refine late_take 21 (by kernel_rfl) (by kernel_rfl) (by kernel_rfl) (by kernel_rfl) (by kernel_rfl) (fun _ _ d _ _ h => by cases d <;> exact h) (fun o ho => ?_)
                                          simp only [List.getElem?_toArray, List.getElem?_cons_zero, List.getElem?_cons_succ, Option.some.injEq] at ho; subst ho
                                          apply Exists.intro
                                          refine ⟨Or.inl ⟨by kernel_rfl, fun w' hl => Or.inl ?_⟩, ?_⟩
                                          · (go_simp; try with_reducible rfl)
                                          simp only [Act.put, List.setIfInBounds_toArray, List.set_cons_zero, List.set_cons_succ]
                                          refine late_end (by kernel_rfl) (fun wn hl => ?_)
                                          have HRw := Lib.hid (HRw.out.later hl); have HB := Lib.hid (below_on HB.out hl); clear hl
                                          go_wp2_with fail
                                          go_roundw
                                          case rel => exact ⟨d + 1, by have := HD2.out; omega, by go_num, allB_succ HAd.out HOk1.out, HBs.out.trans (HB.out.mono HBs.out.size)⟩
                                          case measure => simp [intOf]; have := HD2.out; omega
                                    · have e2 : d = 2 := by omega
                                      have h2f : decide ((d : Int) < 2) = false := decide_eq_false (by omega)
                                      have HC := Lib.hid (show wrC p c = true by unfold wrC; rw [HAk6.out, HGc.out, show allB (wrR p c) 2 = true by rw [← e2]; exact HAd.out]; rfl)
                                      clear hd2 hd e2
                                      go_wp2_with fail
                                      go_roundw
                                      case rel => exact ⟨c + 1, by have := HC2.out; omega, by go_num, allB_succ HAc.out HC.out, HBl.out⟩
                                      case measure => simp [intOf]; have := HC2.out; omega
                                · cases g5 : (v != 5)
                                  · have HGc := Lib.hid (show wrG p c = true by rw [HW.out, g3, g0z, g5]; rfl)
                                    clear HV HW
                                    go_wp2_with fail
                                    go_loopw [7] (fun i wr => ∃ d : Nat, d ≤ 2 ∧ i = .int .i64 d ∧ allB (wrR p c) d = true ∧ Below w1.heap.size w1 wr) (fun i _ => 2 - (intOf i).toNat)
                                    case atStart => exact ⟨0, by omega, rfl, rfl, HBl.out⟩
                                    case round =>
                                      clear HBl HRw
                                      obtain ⟨d, hd2, rfl, halld, hbel⟩ := hrel
                                      have HBl := Lib.hid hbel
                                      have HRw := Lib.hid (HR1.out.next hbel HI.out)
                                      have HAd := Lib.hid halld
                                      clear hbel halld
                                      by_cases hd : d < 2
                                      · have hld : (d : Int) < 2 := by omega
                                        have hd0 : (0 : Int) ≤ (d : Int) := by omega
                                        have HD2 := Lib.hid hd
                                        obtain ⟨f, hf⟩ : ∃ f, p (79 + c * 2 + d) = f := ⟨_, rfl⟩
                                        obtain ⟨f0, f1⟩ := HP.out.rook (79 + c * 2 + d) (by omega) (by have := HC2.out; omega)
                                        rw [hf] at f0 f1
                                        obtain ⟨rt, hrt⟩ : ∃ rt, rightB p (c : Int) (d : Int) f = rt := ⟨_, rfl⟩
                                        have HW := Lib.hid (show wrR p c d = (!((f != -1) && !rt)) by unfold wrR; rw [hf, hrt])
                                        have HFf := Lib.hid hf
                                        have HRt := Lib.hid hrt
                                        have HWf := Lib.hid (show IntKind.i64.wrap f = f by rw [IntKind.wrap_i64]; omega)
                                        have HWc := Lib.hid (show IntKind.u8.wrap (c : Int) = (c : Int) from fn_u8 (by have := HC2.out; omega))
                                        have HC0 := Lib.hid hc0
                                        have HC255 := Lib.hid (show (c : Int) ≤ 255 by have := HC2.out; omega)
                                        have hlc : (c : Int) < 2 := by have := HC2.out; omega
                                        clear hf hrt hd hd2
                                        have HB' := HB
                                        have HB := HBl
                                        by_cases hf1 : f = -1
                                        · subst hf1
                                          have HOk1 := Lib.hid (show wrR p c d = true by rw [HW.out]; rfl)
                                          go_wp2_with fail
                                          have HBs := HBl
                                          have HB := Lib.hid (Below.refl wr.heap.size wr)
                                          refine late_begin 22 (by kernel_rfl) ?_
                                          refine late_take 0 (by kernel_rfl) (by kernel_rfl) (by kernel_rfl) (by kernel_rfl) (by kernel_rfl) (fun _ _ d _ _ h => by cases d <;> exact h) (fun o ho => ?_)
                                          simp only [List.getElem?_toArray, List.getElem?_cons_zero, List.getElem?_cons_succ, Option.some.injEq] at ho; subst ho
                                          apply Exists.intro
                                          refine ⟨Or.inl ⟨by kernel_rfl, fun w' hl => Or.inl ?_⟩, ?_⟩
                                          · (go_simp; try with_reducible rfl)
                                          simp only [Act.put, List.setIfInBounds_toArray, List.set_cons_zero, List.set_cons_succ]
                                          refine late_take 1 (by kernel_rfl) (by kernel_rfl) (by kernel_rfl) (by kernel_rfl) (by kernel_rfl) (fun _ _ d _ _ h => by cases d <;> exact h) (fun o ho => ?_)
                                          simp only [List.getElem?_toArray, List.getElem?_cons_zero, List.getElem?_cons_succ, Option.some.injEq] at ho; subst ho
                                          apply Exists.intro
                                          refine ⟨Or.inl ⟨by kernel_rfl, fun w' hl => Or.inl ?_⟩, ?_⟩
                                          · (go_simp; try with_reducible rfl)
                                          simp only [Act.put, List.setIfInBounds_toArray, List.set_cons_zero, List.set_cons_succ]
                                          refine late_take 2 (by kernel_rfl) (by kernel_rfl) (by kernel_rfl) (by kernel_rfl) (by kernel_rfl) (fun _ _ d _ _ h => by cases d <;> exact h) (fun o ho => ?_)
                                          simp only [List.getElem?_toArray, List.getElem?_cons_zero, List.getElem?_cons_succ, Option.some.injEq] at ho; subst ho
                                          apply Exists.intro
                                          refine ⟨Or.inl ⟨by kernel_rfl, fun w' hl => Or.inl ?_⟩, ?_⟩
                                          · (go_simp; try with_reducible rfl)
                                          simp only [Act.put, List.setIfInBounds_toArray, List.set_cons_zero, List.set_cons_succ]
                                          refine late_take 3 (by kernel_rfl) (by kernel_rfl) (by kernel_rfl) (by kernel_rfl) (by kernel_rfl) (fun _ _ d _ _ h => by cases d <;> exact h) (fun o ho => ?_)
                                          simp only [List.getElem?_toArray, List.getElem?_cons_zero, List.getElem?_cons_succ, Option.some.injEq] at ho; subst ho
                                          refine ⟨.pointer (some ⟨b1, 79 + c * 2, none⟩), Or.inl ⟨by kernel_rfl, fun w' hl => Or.inl ?_⟩, ?_⟩
                                          · (go_simp; first | done | (with_reducible rfl) | (intro hbad; exfalso; omega))
                                          simp only [Act.put, List.setIfInBounds_toArray, List.set_cons_zero, List.set_cons_succ]
                                          refine late_take 4 (by kernel_rfl) (by kernel_rfl) (by kernel_rfl) (by kernel_rfl) (by kernel_rfl) (fun _ _ d _ _ h => by cases d <;> exact h) (fun o ho => ?_)
                                          simp only [List.getElem?_toArray, List.getElem?_cons_zero, List.getElem?_cons_succ, Option.some.injEq] at ho; subst ho
                                          refine ⟨.pointer (some ⟨b1, 79 + c * 2 + d, none⟩), Or.inl ⟨by kernel_rfl, fun w' hl => Or.inl ?_⟩, ?_⟩
                                          · (go_simp; first | done | (with_reducible rfl) | (intro hbad; exfalso; omega))
                                          simp only [Act.put, List.setIfInBounds_toArray, List.set_cons_zero, List.set_cons_succ]
                                          refine late_take 5 (by kernel_rfl) (by kernel_rfl) (by kernel_rfl) (by kernel_rfl) (by kernel_rfl) (fun _ _ d _ _ h => by cases d <;> exact h) (fun o ho => ?_)
                                          simp only [List.getElem?_toArray, List.getElem?_cons_zero, List.getElem?_cons_succ, Option.some.injEq] at ho; subst ho
                                          refine ⟨.int .i8 (-1), Or.inl ⟨by kernel_rfl, fun w' hl => Or.inl (run_get 26 _ rfl b1 (79 + c * 2 + d) rfl Tryz.underlying26 rfl (.int .i8 (-1)) (by rw [(HRw.out.later hl).cell (79 + c * 2 + d) (by have := HC2.out; have := HD2.out; omega), kf_i8 (by omega) (by have := HC2.out; have := HD2.out; omega), HFf.out]))⟩, ?_⟩
                                          simp only [Act.put, List.setIfInBounds_toArray, List.set_cons_zero, List.set_cons_succ]
                                          refine late_take 6 (by kernel_rfl) (by kernel_rfl) (by kernel_rfl) (by kernel_rfl) (by kernel_rfl) (fun _ _ d _ _ h => by cases d <;> exact h) (fun o ho => ?_)
                                          simp only [List.getElem?_toArray, List.getElem?_cons_zero, List.getElem?_cons_succ, Option.some.injEq] at ho; subst ho
                                          refine ⟨.bool false, Or.inl ⟨by kernel_rfl, fun w' hl => Or.inl ?_⟩, ?_⟩
                                          · (go_simp; try with_reducible rfl)
                                          simp only [Act.put, List.setIfInBounds_toArray, List.set_cons_zero, List.set_cons_succ]
                                          refine late_take 7 (by kernel_rfl) (by kernel_rfl) (by kernel_rfl) (by kernel_rfl) (by kernel_rfl) (fun _ _ d _ _ h => by cases d <;> exact h) (fun o ho => ?_)
                                          simp only [List.getElem?_toArray, List.getElem?_cons_zero, List.getElem?_cons_succ, Option.some.injEq] at ho; subst ho
                                          apply Exists.intro
                                          refine ⟨Or.inl ⟨by kernel_rfl, fun w' hl => Or.inl ?_⟩, ?_⟩
                                          · (go_simp; try with_reducible rfl)
                                          simp only [Act.put, List.setIfInBounds_toArray, List.set_cons_zero, List.set_cons_succ]
                                          refine late_take 8 (by kernel_rfl) (by kernel_rfl) (by kernel_rfl) (by kernel_rfl) (by kernel_rfl) (fun _ _ d _ _ h => by cases d <;> exact h) (fun o ho => ?_)
                                          simp only [List.getElem?_toArray, List.getElem?_cons_zero, List.getElem?_cons_succ, Option.some.injEq] at ho; subst ho
                                          refine ⟨_, Or.inr ⟨by kernel_rfl, rfl⟩, ?_⟩
                                          simp only [Act.put, List.setIfInBounds_toArray, List.set_cons_zero, List.set_cons_succ]
                                          refine late_take 9 (by kernel_rfl) (by kernel_rfl) (by kernel_rfl) (by kernel_rfl) (by kernel_rfl) (fun _ _ d _ _ h => by cases d <;> exact h) (fun o ho => ?_)
                                          simp only [List.getElem?_toArray, List.getElem?_cons_zero, List.getElem?_cons_succ, Option.some.injEq] at ho; subst ho
                                          refine ⟨_, Or.inr ⟨by kernel_rfl, rfl⟩, ?_⟩
                                          simp only [Act.put, List.setIfInBounds_toArray, List.set_cons_zero, List.set_cons_succ]
                                          refine late_take 10 (by kernel_rfl) (by kernel_rfl) (by kernel_rfl) (by kernel_rfl) (by kernel_rfl) (fun _ _ d _ _ h => by cases d <;> exact h) (fun o ho => ?_)
                                          simp only [List.getElem?_toArray, List.getElem?_cons_zero, List.getElem?_cons_succ, Option.some.injEq] at ho; subst ho
                                          refine ⟨_, Or.inr ⟨by kernel_rfl, rfl⟩, ?_⟩
                                          simp only [Act.put, List.setIfInBounds_toArray, List.set_cons_zero, List.set_cons_succ]
                                          refine late_take 11 (by kernel_rfl) (by kernel_rfl) (by kernel_rfl) (by kernel_rfl) (by kernel_rfl) (fun _ _ d _ _ h => by cases d <;> exact h) (fun o ho => ?_)
                                          simp only [List.getElem?_toArray, List.getElem?_cons_zero, List.getElem?_cons_succ, Option.some.injEq] at ho; subst ho
                                          refine ⟨_, Or.inr ⟨by kernel_rfl, rfl⟩, ?_⟩
                                          simp only [Act.put, List.setIfInBounds_toArray, List.set_cons_zero, List.set_cons_succ]
                                          refine late_take 12 (by kernel_rfl) (by kernel_rfl) (by kernel_rfl) (by kernel_rfl) (by kernel_rfl) (fun _ _ d _ _ h => by cases d <;> exact h) (fun o ho => ?_)
                                          simp only [List.getElem?_toArray, List.getElem?_cons_zero, List.getElem?_cons_succ, Option.some.injEq] at ho; subst ho
                                          refine ⟨_, Or.inr ⟨by kernel_rfl, rfl⟩, ?_⟩
                                          simp only [Act.put, List.setIfInBounds_toArray, List.set_cons_zero, List.set_cons_succ]
                                          refine late_take 13 (by kernel_rfl) (by kernel_rfl) (by kernel_rfl) (by kernel_rfl) (by kernel_rfl) (fun _ _ d _ _ h => by cases d <;> exact h) (fun o ho => ?_)
                                          simp only [List.getElem?_toArray, List.getElem?_cons_zero, List.getElem?_cons_succ, Option.some.injEq] at ho; subst ho
                                          refine ⟨_, Or.inr ⟨by kernel_rfl, rfl⟩, ?_⟩
                                          simp only [Act.put, List.setIfInBounds_toArray, List.set_cons_zero, List.set_cons_succ]
                                          refine late_take 14 (by kernel_rfl) (by kernel_rfl) (by kernel_rfl) (by kernel_rfl) (by kernel_rfl) (fun _ _ d _ _ h => by cases d <;> exact h) (fun o ho => ?_)
                                          simp only [List.getElem?_toArray, List.getElem?_cons_zero, List.getElem?_cons_succ, Option.some.injEq] at ho; subst ho
                                          refine ⟨_, Or.inr ⟨by kernel_rfl, rfl⟩, ?_⟩
                                          simp only [Act.put, List.setIfInBounds_toArray, List.set_cons_zero, List.set_cons_succ]
                                          refine late_take 15 (by kernel_rfl) (by kernel_rfl) (by kernel_rfl) (by kernel_rfl) (by kernel_rfl) (fun _ _ d _ _ h => by cases d <;> exact h) (fun o ho => ?_)
                                          simp only [List.getElem?_toArray, List.getElem?_cons_zero, List.getElem?_cons_succ, Option.some.injEq] at ho; subst ho
                                          refine ⟨_, Or.inr ⟨by kernel_rfl, rfl⟩, ?_⟩
                                          simp only [Act.put, List.setIfInBounds_toArray, List.set_cons_zero, List.set_cons_succ]
                                          refine late_take 16 (by kernel_rfl) (by kernel_rfl) (by kernel_rfl) (by kernel_rfl) (by kernel_rfl) (fun _ _ d _ _ h => by cases d <;> exact h) (fun o ho => ?_)
                                          simp only [List.getElem?_toArray, List.getElem?_cons_zero, List.getElem?_cons_succ, Option.some.injEq] at ho; subst ho
                                          refine ⟨_, Or.inr ⟨by kernel_rfl, rfl⟩, ?_⟩
                                          simp only [Act.put, List.setIfInBounds_toArray, List.set_cons_zero, List.set_cons_succ]
                                          refine late_take 17 (by kernel_rfl) (by kernel_rfl) (by kernel_rfl) (by kernel_rfl) (by kernel_rfl) (fun _ _ d _ _ h => by cases d <;> exact h) (fun o ho => ?_)
                                          simp only [List.getElem?_toArray, List.getElem?_cons_zero, List.getElem?_cons_succ, Option.some.injEq] at ho; subst ho
                                          refine ⟨_, Or.inr ⟨by kernel_rfl, rfl⟩, ?_⟩
                                          simp only [Act.put, List.setIfInBounds_toArray, List.set_cons_zero, List.set_cons_succ]
                                          refine late_take 18 (by kernel_rfl) (by kernel_rfl) (by kernel_rfl) (by kernel_rfl) (by kernel_rfl) (fun _ _ d _ _ h => by cases d <;> exact h) (fun o ho => ?_)
                                          simp only [List.getElem?_toArray, List.getElem?_cons_zero, List.getElem?_cons_succ, Option.some.injEq] at ho; subst ho
                                          refine ⟨_, Or.inr ⟨by kernel_rfl, rfl⟩, ?_⟩
                                          simp only [Act.put, List.setIfInBounds_toArray, List.set_cons_zero, List.set_cons_succ]
                                          refine late_take 19 (by kernel_rfl) (by kernel_rfl) (by kernel_rfl) (by kernel_rfl) (by kernel_rfl) (fun _ _ d _ _ h => by cases d <;> exact h) (fun o ho => ?_)
                                          simp only [List.getElem?_toArray, List.getElem?_cons_zero, List.getElem?_cons_succ, Option.some.injEq] at ho; subst ho
                                          refine ⟨_, Or.inr ⟨by kernel_rfl, rfl⟩, ?_⟩
                                          simp only [Act.put, List.setIfInBounds_toArray, List.set_cons_zero, List.set_cons_succ]
                                          refine late_take 20 (by kernel_rfl) (by kernel_rfl) (by kernel_rfl) (by kernel_rfl) (by kernel_rfl) (fun _ _ d _ _ h => by cases d <;> exact h) (fun o ho => ?_)
                                          simp only [List.getElem?_toArray, List.getElem?_cons_zero, List.getElem?_cons_succ, Option.some.injEq] at ho; subst ho
                                          refine ⟨_, Or.inr ⟨by kernel_rfl, rfl⟩, ?_⟩
                                          simp only [Act.put, List.setIfInBounds_toArray, List.set_cons_zero, List.set_cons_succ]
                                          refine late_take 21 (by kernel_rfl) (by kernel_rfl) (by kernel_rfl) (by kernel_rfl) (by kernel_rfl) (fun _ _ d _ _ h => by cases d <;> exact h) (fun o ho => ?_)
                                          simp only [List.getElem?_toArray, List.getElem?_cons_zero, List.getElem?_cons_succ, Option.some.injEq] at ho; subst ho
                                          apply Exists.intro
                                          refine ⟨Or.inl ⟨by kernel_rfl, fun w' hl => Or.inl ?_⟩, ?_⟩
                                          · (go_simp; try with_reducible rfl)
                                          simp only [Act.put, List.setIfInBounds_toArray, List.set_cons_zero, List.set_cons_succ]
                                          refine late_end (by kernel_rfl) (fun wn hl => ?_)
                                          have HRw := Lib.hid (HRw.out.later hl); have HB := Lib.hid (below_on HB.out hl); clear hl
                                          go_wp2_with fail
                                          go_roundw
                                          case rel => exact ⟨d + 1, by have := HD2.out; omega, by go_num, allB_succ HAd.out HOk1.out, HBs.out.trans (HB.out.mono HBs.out.size)⟩
                                          case measure => simp [intOf]; have := HD2.out; omega
                                        · have gf : (f != -1) = true := by simp [hf1]
                                          have HGf := Lib.hid gf
                                          clear hf1
                                          cases rt
                                          · have HNo1 := Lib.hid (show false = b by rw [← HBb.out]; exact (wr_noR HC2.out HD2.out (by rw [HW.out, gf]; rfl)).symm)
                                            go_wp2_with fail
                                            have HBs := HBl
                                            have HB := Lib.hid (Below.refl wr.heap.size wr)
                                            refine late_begin 22 (by kernel_rfl) ?_
                                            refine late_take 0 (by kernel_rfl) (by kernel_rfl) (by kernel_rfl) (by kernel_rfl) (by kernel_rfl) (fun _ _ d _ _ h => by cases d <;> exact h) (fun o ho => ?_)
                                            simp only [List.getElem?_toArray, List.getElem?_cons_zero, List.getElem?_cons_succ, Option.some.injEq] at ho; subst ho
                                            apply Exists.intro
                                            refine ⟨Or.inl ⟨by kernel_rfl, fun w' hl => Or.inl ?_⟩, ?_⟩
                                            · (go_simp; try with_reducible rfl)
                                            simp only [Act.put, List.setIfInBounds_toArray, List.set_cons_zero, List.set_cons_succ]
                                            refine late_take 1 (by kernel_rfl) (by kernel_rfl) (by kernel_rfl) (by kernel_rfl) (by kernel_rfl) (fun _ _ d _ _ h => by cases d <;> exact h) (fun o ho => ?_)
                                            simp only [List.getElem?_toArray, List.getElem?_cons_zero, List.getElem?_cons_succ, Option.some.injEq] at ho; subst ho
                                            apply Exists.intro
                                            refine ⟨Or.inl ⟨by kernel_rfl, fun w' hl => Or.inl ?_⟩, ?_⟩
                                            · (go_simp; try with_reducible rfl)
                                            simp only [Act.put, List.setIfInBounds_toArray, List.set_cons_zero, List.set_cons_succ]
                                            refine late_take 2 (by kernel_rfl) (by kernel_rfl) (by kernel_rfl) (by kernel_rfl) (by kernel_rfl) (fun _ _ d _ _ h => by cases d <;> exact h) (fun o ho => ?_)
                                            simp only [List.getElem?_toArray, List.getElem?_cons_zero, List.getElem?_cons_succ, Option.some.injEq] at ho; subst ho
                                            apply Exists.intro
                                            refine ⟨Or.inl ⟨by kernel_rfl, fun w' hl => Or.inl ?_⟩, ?_⟩
                                            · (go_simp; try with_reducible rfl)
                                            simp only [Act.put, List.setIfInBounds_toArray, List.set_cons_zero, List.set_cons_succ]
                                            refine late_take 3 (by kernel_rfl) (by kernel_rfl) (by kernel_rfl) (by kernel_rfl) (by kernel_rfl) (fun _ _ d _ _ h => by cases d <;> exact h) (fun o ho => ?_)
                                            simp only [List.getElem?_toArray, List.getElem?_cons_zero, List.getElem?_cons_succ, Option.some.injEq] at ho; subst ho
                                            refine ⟨.pointer (some ⟨b1, 79 + c * 2, none⟩), Or.inl ⟨by kernel_rfl, fun w' hl => Or.inl ?_⟩, ?_⟩
                                            · (go_simp; first | done | (with_reducible rfl) | (intro hbad; exfalso; omega))
                                            simp only [Act.put, List.setIfInBounds_toArray, List.set_cons_zero, List.set_cons_succ]
                                            refine late_take 4 (by kernel_rfl) (by kernel_rfl) (by kernel_rfl) (by kernel_rfl) (by kernel_rfl) (fun _ _ d _ _ h => by cases d <;> exact h) (fun o ho => ?_)
                                            simp only [List.getElem?_toArray, List.getElem?_cons_zero, List.getElem?_cons_succ, Option.some.injEq] at ho; subst ho
                                            refine ⟨.pointer (some ⟨b1, 79 + c * 2 + d, none⟩), Or.inl ⟨by kernel_rfl, fun w' hl => Or.inl ?_⟩, ?_⟩
                                            · (go_simp; first | done | (with_reducible rfl) | (intro hbad; exfalso; omega))
                                            simp only [Act.put, List.setIfInBounds_toArray, List.set_cons_zero, List.set_cons_succ]
                                            refine late_take 5 (by kernel_rfl) (by kernel_rfl) (by kernel_rfl) (by kernel_rfl) (by kernel_rfl) (fun _ _ d _ _ h => by cases d <;> exact h) (fun o ho => ?_)
                                            simp only [List.getElem?_toArray, List.getElem?_cons_zero, List.getElem?_cons_succ, Option.some.injEq] at ho; subst ho
                                            refine ⟨.int .i8 f, Or.inl ⟨by kernel_rfl, fun w' hl => Or.inl (run_get 26 _ rfl b1 (79 + c * 2 + d) rfl Tryz.underlying26 rfl (.int .i8 f) (by rw [(HRw.out.later hl).cell (79 + c * 2 + d) (by have := HC2.out; have := HD2.out; omega), kf_i8 (by omega) (by have := HC2.out; have := HD2.out; omega), HFf.out]))⟩, ?_⟩
                                            simp only [Act.put, List.setIfInBounds_toArray, List.set_cons_zero, List.set_cons_succ]
                                            refine late_take 6 (by kernel_rfl) (by kernel_rfl) (by kernel_rfl) (by kernel_rfl) (by kernel_rfl) (fun _ _ d _ _ h => by cases d <;> exact h) (fun o ho => ?_)
                                            simp only [List.getElem?_toArray, List.getElem?_cons_zero, List.getElem?_cons_succ, Option.some.injEq] at ho; subst ho
                                            refine ⟨.bool true, Or.inl ⟨by kernel_rfl, fun w' hl => Or.inl ?_⟩, ?_⟩
                                            · (go_simp; first | done | rw [HGf.out])
                                            simp only [Act.put, List.setIfInBounds_toArray, List.set_cons_zero, List.set_cons_succ]
                                            refine late_take 7 (by kernel_rfl) (by kernel_rfl) (by kernel_rfl) (by kernel_rfl) (by kernel_rfl) (fun _ _ d _ _ h => by cases d <;> exact h) (fun o ho => ?_)
                                            simp only [List.getElem?_toArray, List.getElem?_cons_zero, List.getElem?_cons_succ, Option.some.injEq] at ho; subst ho
                                            apply Exists.intro
                                            refine ⟨Or.inl ⟨by kernel_rfl, fun w' hl => Or.inl ?_⟩, ?_⟩
                                            · (go_simp; try with_reducible rfl)
                                            simp only [Act.put, List.setIfInBounds_toArray, List.set_cons_zero, List.set_cons_succ]
                                            refine late_take 8 (by kernel_rfl) (by kernel_rfl) (by kernel_rfl) (by kernel_rfl) (by kernel_rfl) (fun _ _ d _ _ h => by cases d <;> exact h) (fun o ho => ?_)
                                            simp only [List.getElem?_toArray, List.getElem?_cons_zero, List.getElem?_cons_succ, Option.some.injEq] at ho; subst ho
                                            refine ⟨_, Or.inl ⟨by kernel_rfl, fun w' hl => Or.inl (run_load _ rfl _ rfl (p) (HRw.out.later hl))⟩, ?_⟩
                                            simp only [Act.put, List.setIfInBounds_toArray, List.set_cons_zero, List.set_cons_succ]
                                            refine late_take 9 (by kernel_rfl) (by kernel_rfl) (by kernel_rfl) (by kernel_rfl) (by kernel_rfl) (fun _ _ d _ _ h => by cases d <;> exact h) (fun o ho => ?_)
                                            simp only [List.getElem?_toArray, List.getElem?_cons_zero, List.getElem?_cons_succ, Option.some.injEq] at ho; subst ho
                                            apply Exists.intro
                                            refine ⟨Or.inl ⟨by kernel_rfl, fun w' hl => Or.inl ?_⟩, ?_⟩
                                            · (go_simp; try with_reducible rfl)
                                            simp only [Act.put, List.setIfInBounds_toArray, List.set_cons_zero, List.set_cons_succ]
                                            refine late_take 10 (by kernel_rfl) (by kernel_rfl) (by kernel_rfl) (by kernel_rfl) (by kernel_rfl) (fun _ _ d _ _ h => by cases d <;> exact h) (fun o ho => ?_)
                                            simp only [List.getElem?_toArray, List.getElem?_cons_zero, List.getElem?_cons_succ, Option.some.injEq] at ho; subst ho
                                            refine ⟨.int .u8 (c : Int), Or.inl ⟨by kernel_rfl, fun w' hl => Or.inl ?_⟩, ?_⟩
                                            · (go_simp; rw [HWc.out])
                                            simp only [Act.put, List.setIfInBounds_toArray, List.set_cons_zero, List.set_cons_succ]
                                            refine late_take 11 (by kernel_rfl) (by kernel_rfl) (by kernel_rfl) (by kernel_rfl) (by kernel_rfl) (fun _ _ d _ _ h => by cases d <;> exact h) (fun o ho => ?_)
                                            simp only [List.getElem?_toArray, List.getElem?_cons_zero, List.getElem?_cons_succ, Option.some.injEq] at ho; subst ho
                                            apply Exists.intro
                                            refine ⟨Or.inl ⟨by kernel_rfl, fun w' hl => Or.inl ?_⟩, ?_⟩
                                            · (go_simp; try with_reducible rfl)
                                            simp only [Act.put, List.setIfInBounds_toArray, List.set_cons_zero, List.set_cons_succ]
                                            refine late_take 12 (by kernel_rfl) (by kernel_rfl) (by kernel_rfl) (by kernel_rfl) (by kernel_rfl) (fun _ _ d _ _ h => by cases d <;> exact h) (fun o ho => ?_)
                                            simp only [List.getElem?_toArray, List.getElem?_cons_zero, List.getElem?_cons_succ, Option.some.injEq] at ho; subst ho
                                            apply Exists.intro
                                            refine ⟨Or.inl ⟨by kernel_rfl, fun w' hl => Or.inl ?_⟩, ?_⟩
                                            · (go_simp; try with_reducible rfl)
                                            simp only [Act.put, List.setIfInBounds_toArray, List.set_cons_zero, List.set_cons_succ]
                                            refine late_take 13 (by kernel_rfl) (by kernel_rfl) (by kernel_rfl) (by kernel_rfl) (by kernel_rfl) (fun _ _ d _ _ h => by cases d <;> exact h) (fun o ho => ?_)
                                            simp only [List.getElem?_toArray, List.getElem?_cons_zero, List.getElem?_cons_succ, Option.some.injEq] at ho; subst ho
                                            apply Exists.intro
                                            refine ⟨Or.inl ⟨by kernel_rfl, fun w' hl => Or.inl ?_⟩, ?_⟩
                                            · (go_simp; try with_reducible rfl)
                                            simp only [Act.put, List.setIfInBounds_toArray, List.set_cons_zero, List.set_cons_succ]
                                            refine late_take 14 (by kernel_rfl) (by kernel_rfl) (by kernel_rfl) (by kernel_rfl) (by kernel_rfl) (fun _ _ d _ _ h => by cases d <;> exact h) (fun o ho => ?_)
                                            simp only [List.getElem?_toArray, List.getElem?_cons_zero, List.getElem?_cons_succ, Option.some.injEq] at ho; subst ho
                                            apply Exists.intro
                                            refine ⟨Or.inl ⟨by kernel_rfl, fun w' hl => Or.inl ?_⟩, ?_⟩
                                            · (go_simp; try with_reducible rfl)
                                            simp only [Act.put, List.setIfInBounds_toArray, List.set_cons_zero, List.set_cons_succ]
                                            refine late_take 15 (by kernel_rfl) (by kernel_rfl) (by kernel_rfl) (by kernel_rfl) (by kernel_rfl) (fun _ _ d _ _ h => by cases d <;> exact h) (fun o ho => ?_)
                                            simp only [List.getElem?_toArray, List.getElem?_cons_zero, List.getElem?_cons_succ, Option.some.injEq] at ho; subst ho
                                            refine ⟨.pointer (some ⟨b1, 79 + c * 2, none⟩), Or.inl ⟨by kernel_rfl, fun w' hl => Or.inl ?_⟩, ?_⟩
                                            · (go_simp; first | done | (with_reducible rfl) | (intro hbad; exfalso; omega))
                                            simp only [Act.put, List.setIfInBounds_toArray, List.set_cons_zero, List.set_cons_succ]
                                            refine late_take 16 (by kernel_rfl) (by kernel_rfl) (by kernel_rfl) (by kernel_rfl) (by kernel_rfl) (fun _ _ d _ _ h => by cases d <;> exact h) (fun o ho => ?_)
                                            simp only [List.getElem?_toArray, List.getElem?_cons_zero, List.getElem?_cons_succ, Option.some.injEq] at ho; subst ho
                                            refine ⟨.pointer (some ⟨b1, 79 + c * 2 + d, none⟩), Or.inl ⟨by kernel_rfl, fun w' hl => Or.inl ?_⟩, ?_⟩
                                            · (go_simp; first | done | (with_reducible rfl) | (intro hbad; exfalso; omega))
                                            simp only [Act.put, List.setIfInBounds_toArray, List.set_cons_zero, List.set_cons_succ]
                                            refine late_take 17 (by kernel_rfl) (by kernel_rfl) (by kernel_rfl) (by kernel_rfl) (by kernel_rfl) (fun _ _ d _ _ h => by cases d <;> exact h) (fun o ho => ?_)
                                            simp only [List.getElem?_toArray, List.getElem?_cons_zero, List.getElem?_cons_succ, Option.some.injEq] at ho; subst ho
                                            refine ⟨.int .i8 f, Or.inl ⟨by kernel_rfl, fun w' hl => Or.inl (run_get 26 _ rfl b1 (79 + c * 2 + d) rfl Tryz.underlying26 rfl (.int .i8 f) (by rw [(HRw.out.later hl).cell (79 + c * 2 + d) (by have := HC2.out; have := HD2.out; omega), kf_i8 (by omega) (by have := HC2.out; have := HD2.out; omega), HFf.out]))⟩, ?_⟩
                                            simp only [Act.put, List.setIfInBounds_toArray, List.set_cons_zero, List.set_cons_succ]
                                            refine late_take 18 (by kernel_rfl) (by kernel_rfl) (by kernel_rfl) (by kernel_rfl) (by kernel_rfl) (fun _ _ d _ _ h => by cases d <;> exact h) (fun o ho => ?_)
                                            simp only [List.getElem?_toArray, List.getElem?_cons_zero, List.getElem?_cons_succ, Option.some.injEq] at ho; subst ho
                                            refine ⟨.int .i64 f, Or.inl ⟨by kernel_rfl, fun w' hl => Or.inl ?_⟩, ?_⟩
                                            · (go_simp; rw [HWf.out])
                                            simp only [Act.put, List.setIfInBounds_toArray, List.set_cons_zero, List.set_cons_succ]
                                            refine late_one 19 (by kernel_rfl) (by kernel_rfl) (fun o ho => ?_)
                                            simp only [List.getElem?_toArray, List.getElem?_cons_zero, List.getElem?_cons_succ, Option.some.injEq] at ho; subst ho
                                            refine ⟨by kernel_rfl, fun wn hl K hK => ?_⟩
                                            have HRw := Lib.hid (HRw.out.later hl); have HB := Lib.hid (below_on HB.out hl); clear hl
                                            refine wp_enter _ _ (by go_simp; exact ⟨rfl, rfl⟩) ?_
                                            refine (rright_any p (c : Int) (d : Int) f _ HP.out.bd HC0.out HC255.out).mono ?_; rintro e wm ⟨rfl, hb⟩; refine ⟨_, rfl, ?_⟩
                                            rw [HRt.out]
                                            refine hK.out _ _ hb ?_
                                            have HRw := Lib.hid (HRw.out.later hb); have HB := Lib.hid (below_on HB.out hb); clear hb
                                            clear hK K
                                            simp only [Act.put, List.setIfInBounds_toArray, List.set_cons_zero, List.set_cons_succ]
                                            refine late_take 20 (by kernel_rfl) (by kernel_rfl) (by kernel_rfl) (by kernel_rfl) (by kernel_rfl) (fun _ _ d _ _ h => by cases d <;> exact h) (fun o ho => ?_)
                                            simp only [List.getElem?_toArray, List.getElem?_cons_zero, List.getElem?_cons_succ, Option.some.injEq] at ho; subst ho
                                            apply Exists.intro
                                            refine ⟨Or.inl ⟨by kernel_rfl, fun w' hl => Or.inl ?_⟩, ?_⟩
                                            · (go_simp; try with_reducible rfl)
                                            simp only [Act.put, List.setIfInBounds_toArray, List.set_cons_zero, List.set_cons_succ]
                                            refine late_take 21 (by kernel_rfl) (by kernel_rfl) (by kernel_rfl) (by kernel_rfl) (by kernel_rfl) (fun _ _ d _ _ h => by cases d <;> exact h) (fun o ho => ?_)
                                            simp only [List.getElem?_toArray, List.getElem?_cons_zero, List.getElem?_cons_succ, Option.some.injEq] at ho; subst ho
                                            apply Exists.intro
                                            refine ⟨Or.inl ⟨by kernel_rfl, fun w' hl => Or.inl ?_⟩, ?_⟩
                                            · (go_simp; try with_reducible rfl)
                                            simp only [Act.put, List.setIfInBounds_toArray, List.set_cons_zero, List.set_cons_succ]
                                            refine late_end (by kernel_rfl) (fun wn hl => ?_)
                                            have HRw := Lib.hid (HRw.out.later hl); have HB := Lib.hid (below_on HB.out hl); clear hl
                                            go_wp2_with fail
                                            go_ret
                                            exact ⟨by rw [← HNo1.out]; rfl, HB'.out.trans ((HBs.out.trans (HB.out.mono HBs.out.size)).mono HB'.out.size)⟩
                                          · have HOk1 := Lib.hid (show wrR p c d = true by rw [HW.out, gf]; rfl)
                                            go_wp2_with fail
                                            have HBs := HBl
                                            have HB := Lib.hid (Below.refl wr.heap.size wr)
                                            refine late_begin 22 (by kernel_rfl) ?_
                                            refine late_take 0 (by kernel_rfl) (by kernel_rfl) (by kernel_rfl) (by kernel_rfl) (by kernel_rfl) (fun _ _ d _ _ h => by cases d <;> exact h) (fun o ho => ?_)
                                            simp only [List.getElem?_toArray, List.getElem?_cons_zero, List.getElem?_cons_succ, Option.some.injEq] at ho; subst ho
                                            apply Exists.intro
                                            refine ⟨Or.inl ⟨by kernel_rfl, fun w' hl => Or.inl ?_⟩, ?_⟩
                                            · (go_simp; try with_reducible rfl)
                                            simp only [Act.put, List.setIfInBounds_toArray, List.set_cons_zero, List.set_cons_succ]
                                            refine late_take 1 (by kernel_rfl) (by kernel_rfl) (by kernel_rfl) (by kernel_rfl) (by kernel_rfl) (fun _ _ d _ _ h => by cases d <;> exact h) (fun o ho => ?_)
                                            simp only [List.getElem?_toArray, List.getElem?_cons_zero, List.getElem?_cons_succ, Option.some.injEq] at ho; subst ho
                                            apply Exists.intro
                                            refine ⟨Or.inl ⟨by kernel_rfl, fun w' hl => Or.inl ?_⟩, ?_⟩
                                            · (go_simp; try with_reducible rfl)
                                            simp only [Act.put, List.setIfInBounds_toArray, List.set_cons_zero, List.set_cons_succ]
                                            refine late_take 2 (by kernel_rfl) (by kernel_rfl) (by kernel_rfl) (by kernel_rfl) (by kernel_rfl) (fun _ _ d _ _ h => by cases d <;> exact h) (fun o ho => ?_)
                                            simp only [List.getElem?_toArray, List.getElem?_cons_zero, List.getElem?_cons_succ, Option.some.injEq] at ho; subst ho
                                            apply Exists.intro
                                            refine ⟨Or.inl ⟨by kernel_rfl, fun w' hl => Or.inl ?_⟩, ?_⟩
                                            · (go_simp; try with_reducible rfl)
                                            simp only [Act.put, List.setIfInBounds_toArray, List.set_cons_zero, List.set_cons_succ]
                                            refine late_take 3 (by kernel_rfl) (by kernel_rfl) (by kernel_rfl) (by kernel_rfl) (by kernel_rfl) (fun _ _ d _ _ h => by cases d <;> exact h) (fun o ho => ?_)
                                            simp only [List.getElem?_toArray, List.getElem?_cons_zero, List.getElem?_cons_succ, Option.some.injEq] at ho; subst ho
                                            refine ⟨.pointer (some ⟨b1, 79 + c * 2, none⟩), Or.inl ⟨by kernel_rfl, fun w' hl => Or.inl ?_⟩, ?_⟩
                                            · (go_simp; first | done | (with_reducible rfl) | (intro hbad; exfalso; omega))
                                            simp only [Act.put, List.setIfInBounds_toArray, List.set_cons_zero, List.set_cons_succ]
                                            refine late_take 4 (by kernel_rfl) (by kernel_rfl) (by kernel_rfl) (by kernel_rfl) (by kernel_rfl) (fun _ _ d _ _ h => by cases d <;> exact h) (fun o ho => ?_)
                                            simp only [List.getElem?_toArray, List.getElem?_cons_zero, List.getElem?_cons_succ, Option.some.injEq] at ho; subst ho
                                            refine ⟨.pointer (some ⟨b1, 79 + c * 2 + d, none⟩), Or.inl ⟨by kernel_rfl, fun w' hl => Or.inl ?_⟩, ?_⟩
                                            · (go_simp; first | done | (with_reducible rfl) | (intro hbad; exfalso; omega))
                                            simp only [Act.put, List.setIfInBounds_toArray, List.set_cons_zero, List.set_cons_succ]
                                            refine late_take 5 (by kernel_rfl) (by kernel_rfl) (by kernel_rfl) (by kernel_rfl) (by kernel_rfl) (fun _ _ d _ _ h => by cases d <;> exact h) (fun o ho => ?_)
                                            simp only [List.getElem?_toArray, List.getElem?_cons_zero, List.getElem?_cons_succ, Option.some.injEq] at ho; subst ho
                                            refine ⟨.int .i8 f, Or.inl ⟨by kernel_rfl, fun w' hl => Or.inl (run_get 26 _ rfl b1 (79 + c * 2 + d) rfl Tryz.underlying26 rfl (.int .i8 f) (by rw [(HRw.out.later hl).cell (79 + c * 2 + d) (by have := HC2.out; have := HD2.out; omega), kf_i8 (by omega) (by have := HC2.out; have := HD2.out; omega), HFf.out]))⟩, ?_⟩
                                            simp only [Act.put, List.setIfInBounds_toArray, List.set_cons_zero, List.set_cons_succ]
                                            refine late_take 6 (by kernel_rfl) (by kernel_rfl) (by kernel_rfl) (by kernel_rfl) (by kernel_rfl) (fun _ _ d _ _ h => by cases d <;> exact h) (fun o ho => ?_)
                                            simp only [List.getElem?_toArray, List.getElem?_cons_zero, List.getElem?_cons_succ, Option.some.injEq] at ho; subst ho
                                            refine ⟨.bool true, Or.inl ⟨by kernel_rfl, fun w' hl => Or.inl ?_⟩, ?_⟩
                                            · (go_simp; first | done | rw [HGf.out])
                                            simp only [Act.put, List.setIfInBounds_toArray, List.set_cons_zero, List.set_cons_succ]
                                            refine late_take 7 (by kernel_rfl) (by kernel_rfl) (by kernel_rfl) (by kernel_rfl) (by kernel_rfl) (fun _ _ d _ _ h => by cases d <;> exact h) (fun o ho => ?_)
                                            simp only [List.getElem?_toArray, List.getElem?_cons_zero, List.getElem?_cons_succ, Option.some.injEq] at ho; subst ho
                                            apply Exists.intro
                                            refine ⟨Or.inl ⟨by kernel_rfl, fun w' hl => Or.inl ?_⟩, ?_⟩
                                            · (go_simp; try with_reducible rfl)
                                            simp only [Act.put, List.setIfInBounds_toArray, List.set_cons_zero, List.set_cons_succ]
                                            refine late_take 8 (by kernel_rfl) (by kernel_rfl) (by kernel_rfl) (by kernel_rfl) (by kernel_rfl) (fun _ _ d _ _ h => by cases d <;> exact h) (fun o ho => ?_)
                                            simp only [List.getElem?_toArray, List.getElem?_cons_zero, List.getElem?_cons_succ, Option.some.injEq] at ho; subst ho
                                            refine ⟨_, Or.inl ⟨by kernel_rfl, fun w' hl => Or.inl (run_load _ rfl _ rfl (p) (HRw.out.later hl))⟩, ?_⟩
                                            simp only [Act.put, List.setIfInBounds_toArray, List.set_cons_zero, List.set_cons_succ]
                                            refine late_take 9 (by kernel_rfl) (by kernel_rfl) (by kernel_rfl) (by kernel_rfl) (by kernel_rfl) (fun _ _ d _ _ h => by cases d <;> exact h) (fun o ho => ?_)
                                            simp only [List.getElem?_toArray, List.getElem?_cons_zero, List.getElem?_cons_succ, Option.some.injEq] at ho; subst ho
                                            apply Exists.intro
                                            refine ⟨Or.inl ⟨by kernel_rfl, fun w' hl => Or.inl ?_⟩, ?_⟩
                                            · (go_simp; try with_reducible rfl)
                                            simp only [Act.put, List.setIfInBounds_toArray, List.set_cons_zero, List.set_cons_succ]
                                            refine late_take 10 (by kernel_rfl) (by kernel_rfl) (by kernel_rfl) (by kernel_rfl) (by kernel_rfl) (fun _ _ d _ _ h => by cases d <;> exact h) (fun o ho => ?_)
                                            simp only [List.getElem?_toArray, List.getElem?_cons_zero, List.getElem?_cons_succ, Option.some.injEq] at ho; subst ho
                                            refine ⟨.int .u8 (c : Int), Or.inl ⟨by kernel_rfl, fun w' hl => Or.inl ?_⟩, ?_⟩
                                            · (go_simp; rw [HWc.out])
                                            simp only [Act.put, List.setIfInBounds_toArray, List.set_cons_zero, List.set_cons_succ]
                                            refine late_take 11 (by kernel_rfl) (by kernel_rfl) (by kernel_rfl) (by kernel_rfl) (by kernel_rfl) (fun _ _ d _ _ h => by cases d <;> exact h) (fun o ho => ?_)
                                            simp only [List.getElem?_toArray, List.getElem?_cons_zero, List.getElem?_cons_succ, Option.some.injEq] at ho; subst ho
                                            apply Exists.intro
                                            refine ⟨Or.inl ⟨by kernel_rfl, fun w' hl => Or.inl ?_⟩, ?_⟩
                                            · (go_simp; try with_reducible rfl)
                                            simp only [Act.put, List.setIfInBounds_toArray, List.set_cons_zero, List.set_cons_succ]
                                            refine late_take 12 (by kernel_rfl) (by kernel_rfl) (by kernel_rfl) (by kernel_rfl) (by kernel_rfl) (fun _ _ d _ _ h => by cases d <;> exact h) (fun o ho => ?_)
                                            simp only [List.getElem?_toArray, List.getElem?_cons_zero, List.getElem?_cons_succ, Option.some.injEq] at ho; subst ho
                                            apply Exists.intro
                                            refine ⟨Or.inl ⟨by kernel_rfl, fun w' hl => Or.inl ?_⟩, ?_⟩
                                            · (go_simp; try with_reducible rfl)
                                            simp only [Act.put, List.setIfInBounds_toArray, List.set_cons_zero, List.set_cons_succ]
                                            refine late_take 13 (by kernel_rfl) (by kernel_rfl) (by kernel_rfl) (by kernel_rfl) (by kernel_rfl) (fun _ _ d _ _ h => by cases d <;> exact h) (fun o ho => ?_)
                                            simp only [List.getElem?_toArray, List.getElem?_cons_zero, List.getElem?_cons_succ, Option.some.injEq] at ho; subst ho
                                            apply Exists.intro
                                            refine ⟨Or.inl ⟨by kernel_rfl, fun w' hl => Or.inl ?_⟩, ?_⟩
                                            · (go_simp; try with_reducible rfl)
                                            simp only [Act.put, List.setIfInBounds_toArray, List.set_cons_zero, List.set_cons_succ]
                                            refine late_take 14 (by kernel_rfl) (by kernel_rfl) (by kernel_rfl) (by kernel_rfl) (by kernel_rfl) (fun _ _ d _ _ h => by cases d <;> exact h) (fun o ho => ?_)
                                            simp only [List.getElem?_toArray, List.getElem?_cons_zero, List.getElem?_cons_succ, Option.some.injEq] at ho; subst ho
                                            apply Exists.intro
                                            refine ⟨Or.inl ⟨by kernel_rfl, fun w' hl => Or.inl ?_⟩, ?_⟩
                                            · (go_simp; try with_reducible rfl)
                                            simp only [Act.put, List.setIfInBounds_toArray, List.set_cons_zero, List.set_cons_succ]
                                            refine late_take 15 (by kernel_rfl) (by kernel_rfl) (by kernel_rfl) (by kernel_rfl) (by kernel_rfl) (fun _ _ d _ _ h => by cases d <;> exact h) (fun o ho => ?_)
                                            simp only [List.getElem?_toArray, List.getElem?_cons_zero, List.getElem?_cons_succ, Option.some.injEq] at ho; subst ho
                                            refine ⟨.pointer (some ⟨b1, 79 + c * 2, none⟩), Or.inl ⟨by kernel_rfl, fun w' hl => Or.inl ?_⟩, ?_⟩
                                            · (go_simp; first | done | (with_reducible rfl) | (intro hbad; exfalso; omega))
                                            simp only [Act.put, List.setIfInBounds_toArray, List.set_cons_zero, List.set_cons_succ]
                                            refine late_take 16 (by kernel_rfl) (by kernel_rfl) (by kernel_rfl) (by kernel_rfl) (by kernel_rfl) (fun _ _ d _ _ h => by cases d <;> exact h) (fun o ho => ?_)
                                            simp only [List.getElem?_toArray, List.getElem?_cons_zero, List.getElem?_cons_succ, Option.some.injEq] at ho; subst ho
                                            refine ⟨.pointer (some ⟨b1, 79 + c * 2 + d, none⟩), Or.inl ⟨by kernel_rfl, fun w' hl => Or.inl ?_⟩, ?_⟩
                                            · (go_simp; first | done | (with_reducible rfl) | (intro hbad; exfalso; omega))
                                            simp only [Act.put, List.setIfInBounds_toArray, List.set_cons_zero, List.set_cons_succ]
                                            refine late_take 17 (by kernel_rfl) (by kernel_rfl) (by kernel_rfl) (by kernel_rfl) (by kernel_rfl) (fun _ _ d _ _ h => by cases d <;> exact h) (fun o ho => ?_)
                                            simp only [List.getElem?_toArray, List.getElem?_cons_zero, List.getElem?_cons_succ, Option.some.injEq] at ho; subst ho
                                            refine ⟨.int .i8 f, Or.inl ⟨by kernel_rfl, fun w' hl => Or.inl (run_get 26 _ rfl b1 (79 + c * 2 + d) rfl Tryz.underlying26 rfl (.int .i8 f) (by rw [(HRw.out.later hl).cell (79 + c * 2 + d) (by have := HC2.out; have := HD2.out; omega), kf_i8 (by omega) (by have := HC2.out; have := HD2.out; omega), HFf.out]))⟩, ?_⟩
                                            simp only [Act.put, List.setIfInBounds_toArray, List.set_cons_zero, List.set_cons_succ]
                                            refine late_take 18 (by kernel_rfl) (by kernel_rfl) (by kernel_rfl) (by kernel_rfl) (by kernel_rfl) (fun _ _ d _ _ h => by cases d <;> exact h) (fun o ho => ?_)
                                            simp only [List.getElem?_toArray, List.getElem?_cons_zero, List.getElem?_cons_succ, Option.some.injEq] at ho; subst ho
                                            refine ⟨.int .i64 f, Or.inl ⟨by kernel_rfl, fun w' hl => Or.inl ?_⟩, ?_⟩
                                            · (go_simp; rw [HWf.out])
                                            simp only [Act.put, List.setIfInBounds_toArray, List.set_cons_zero, List.set_cons_succ]
                                            refine late_one 19 (by kernel_rfl) (by kernel_rfl) (fun o ho => ?_)
                                            simp only [List.getElem?_toArray, List.getElem?_cons_zero, List.getElem?_cons_succ, Option.some.injEq] at ho; subst ho
                                            refine ⟨by kernel_rfl, fun wn hl K hK => ?_⟩
                                            have HRw := Lib.hid (HRw.out.later hl); have HB := Lib.hid (below_on HB.out hl); clear hl
                                            refine wp_enter _ _ (by go_simp; exact ⟨rfl, rfl⟩) ?_
                                            refine (rright_any p (c : Int) (d : Int) f _ HP.out.bd HC0.out HC255.out).mono ?_; rintro e wm ⟨rfl, hb⟩; refine ⟨_, rfl, ?_⟩
                                            rw [HRt.out]
                                            refine hK.out _ _ hb ?_
                                            have HRw := Lib.hid (HRw.out.later hb); have HB := Lib.hid (below_on HB.out hb); clear hb
                                            clear hK K
                                            simp only [Act.put, List.setIfInBounds_toArray, List.set_cons_zero, List.set_cons_succ]
                                            refine late_take 20 (by kernel_rfl) (by kernel_rfl) (by kernel_rfl) (by kernel_rfl) (by kernel_rfl) (fun _ _ d _ _ h => by cases d <;> exact h) (fun o ho => ?_)
                                            simp only [List.getElem?_toArray, List.getElem?_cons_zero, List.getElem?_cons_succ, Option.some.injEq] at ho; subst ho
                                            apply Exists.intro
                                            refine ⟨Or.inl ⟨by kernel_rfl, fun w' hl => Or.inl ?_⟩, ?_⟩
                                            · (go_simp; try with_reducible rfl)
                                            simp only [Act.put, List.setIfInBounds_toArray, List.set_cons_zero, List.set_cons_succ]
                                            refine late_take 21 (by kernel_rfl) (by kernel_rfl) (by kernel_rfl) (by kernel_rfl) (by kernel_rfl) (fun _ _ d _ _ h => by cases d <;> exact h) (fun o ho => ?_)
                                            simp only [List.getElem?_toArray, List.getElem?_cons_zero, List.getElem?_cons_succ, Option.some.injEq] at ho; subst ho
                                            apply Exists.intro
                                            refine ⟨Or.inl ⟨by kernel_rfl, fun w' hl => Or.inl ?_⟩, ?_⟩
                                            · (go_simp; try with_reducible rfl)
                                            simp only [Act.put, List.setIfInBounds_toArray, List.set_cons_zero, List.set_cons_succ]
                                            refine late_end (by kernel_rfl) (fun wn hl => ?_)
                                            have HRw := Lib.hid (HRw.out.later hl); have HB := Lib.hid (below_on HB.out hl); clear hl
                                            go_wp2_with fail
                                            go_roundw
                                            case rel => exact ⟨d + 1, by have := HD2.out; omega, by go_num, allB_succ HAd.out HOk1.out, HBs.out.trans (HB.out.mono HBs.out.size)⟩
                                            case measure => simp [intOf]; have := HD2.out; omega
                                      · have e2 : d = 2 := by omega
                                        have h2f : decide ((d : Int) < 2) = false := decide_eq_false (by omega)
                                        have HC := Lib.hid (show wrC p c = true by unfold wrC; rw [HAk6.out, HGc.out, show allB (wrR p c) 2 = true by rw [← e2]; exact HAd.out]; rfl)
                                        clear hd2 hd e2
                                        go_wp2_with fail
                                        go_roundw
                                        case rel => exact ⟨c + 1, by have := HC2.out; omega, by go_num, allB_succ HAc.out HC.out, HBl.out⟩
                                        case measure => simp [intOf]; have := HC2.out; omega
                                  · have HNo1 := Lib.hid (show false = b by rw [← HBb.out]; exact (wr_noG HC2.out (by rw [HW.out, g3, g0z, g5]; rfl)).symm)
                                    go_wp2_with fail
                                    go_ret
                                    exact ⟨by rw [← HNo1.out]; rfl, HB.out.trans (HBl.out.mono HB.out.size)⟩
                              · have HNo1 := Lib.hid (show false = b by rw [← HBb.out]; exact (wr_noG HC2.out (by rw [HW.out, g3]; rfl)).symm)
                                go_wp2_with fail
                                go_ret
                                exact ⟨by rw [← HNo1.out]; rfl, HB.out.trans (HBl.out.mono HB.out.size)⟩
                        · have HTr := Lib.hid (show true = b by rw [← HBb.out]; unfold wrB; rw [HOk.out, HA64.out, show allB (wrC p) 2 = true by rw [show 2 = c by omega]; exact HAc.out]; rfl)
                          obtain rfl : c = 2 := by omega
                          go_wp2_with fail
                          go_ret
                          exact ⟨by rw [← HTr.out]; rfl, HB.out.trans (HBl.out.mono HB.out.size)⟩
                · have HN := Lib.hid (HNo.out (by rw [HH.out, g0, g1, g2, g3, g4, g5, g6, g7]; rfl))
                  go_wp2_with (refine step_box (op := ⟨some 1, _, _, _, _, _⟩) rfl _ rfl p rfl ?_; intro b1 w1 N R; have HB := Lib.hid N.below; have HR1 := Lib.hid R; obtain ⟨k0, k65⟩ := HCs.out _ _ R; obtain ⟨k78, k83, k86, k87⟩ := HCt.out _ _ R; clear N R)
                  go_ret
                  exact ⟨by rw [← HN.out]; rfl, HB.out⟩
              · have HN := Lib.hid (HNo.out (by rw [HH.out, g0, g1, g2, g3, g4, g5, g6]; rfl))
                go_wp2_with (refine step_box (op := ⟨some 1, _, _, _, _, _⟩) rfl _ rfl p rfl ?_; intro b1 w1 N R; have HB := Lib.hid N.below; have HR1 := Lib.hid R; obtain ⟨k0, k65⟩ := HCs.out _ _ R; obtain ⟨k78, k83, k86, k87⟩ := HCt.out _ _ R; clear N R)
                go_ret
                exact ⟨by rw [← HN.out]; rfl, HB.out⟩
            · have HN := Lib.hid (HNo.out (by rw [HH.out, g0, g1, g2, g3, g4, g5]; rfl))
              go_wp2_with (refine step_box (op := ⟨some 1, _, _, _, _, _⟩) rfl _ rfl p rfl ?_; intro b1 w1 N R; have HB := Lib.hid N.below; have HR1 := Lib.hid R; obtain ⟨k0, k65⟩ := HCs.out _ _ R; obtain ⟨k78, k83, k86, k87⟩ := HCt.out _ _ R; clear N R)
              go_ret
              exact ⟨by rw [← HN.out]; rfl, HB.out⟩
          · have HN := Lib.hid (HNo.out (by rw [HH.out, g0, g1, g2, g3, g4]; rfl))
            go_wp2_with (refine step_box (op := ⟨some 1, _, _, _, _, _⟩) rfl _ rfl p rfl ?_; intro b1 w1 N R; have HB := Lib.hid N.below; have HR1 := Lib.hid R; obtain ⟨k0, k65⟩ := HCs.out _ _ R; obtain ⟨k78, k83, k86, k87⟩ := HCt.out _ _ R; clear N R)
            go_ret
            exact ⟨by rw [← HN.out]; rfl, HB.out⟩
        · have HN := Lib.hid (HNo.out (by rw [HH.out, g0, g1, g2, g3]; rfl))
          go_wp2_with (refine step_box (op := ⟨some 1, _, _, _, _, _⟩) rfl _ rfl p rfl ?_; intro b1 w1 N R; have HB := Lib.hid N.below; have HR1 := Lib.hid R; obtain ⟨k0, k65⟩ := HCs.out _ _ R; obtain ⟨k78, k83, k86, k87⟩ := HCt.out _ _ R; clear N R)
          go_ret
          exact ⟨by rw [← HN.out]; rfl, HB.out⟩
      · have HN := Lib.hid (HNo.out (by rw [HH.out, g0, g1, g2]; rfl))
        go_wp2_with (refine step_box (op := ⟨some 1, _, _, _, _, _⟩) rfl _ rfl p rfl ?_; intro b1 w1 N R; have HB := Lib.hid N.below; have HR1 := Lib.hid R; obtain ⟨k0, k65⟩ := HCs.out _ _ R; obtain ⟨k78, k83, k86, k87⟩ := HCt.out _ _ R; clear N R)
        go_ret
        exact ⟨by rw [← HN.out]; rfl, HB.out⟩
    · have HN := Lib.hid (HNo.out (by rw [HH.out, g0, g1]; rfl))
      go_wp2_with (refine step_box (op := ⟨some 1, _, _, _, _, _⟩) rfl _ rfl p rfl ?_; intro b1 w1 N R; have HB := Lib.hid N.below; have HR1 := Lib.hid R; obtain ⟨k0, k65⟩ := HCs.out _ _ R; obtain ⟨k78, k83, k86, k87⟩ := HCt.out _ _ R; clear N R)
      go_ret
      exact ⟨by rw [← HN.out]; rfl, HB.out⟩
  · have HN := Lib.hid (HNo.out (by rw [HH.out, g0]; rfl))
    go_wp2_with (refine step_box (op := ⟨some 1, _, _, _, _, _⟩) rfl _ rfl p rfl ?_; intro b1 w1 N R; have HB := Lib.hid N.below; have HR1 := Lib.hid R; obtain ⟨k0, k65⟩ := HCs.out _ _ R; obtain ⟨k78, k83, k86, k87⟩ := HCt.out _ _ R; clear N R)
    go_ret
    exact ⟨by rw [← HN.out]; rfl, HB.out⟩
end Go.Proofs.YtkcflknjnefhbaaGreatDoor
