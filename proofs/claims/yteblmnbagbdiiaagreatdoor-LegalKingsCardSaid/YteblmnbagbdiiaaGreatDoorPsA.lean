/-
 Contracts of layer 13's home, aheadOfHome, other, and of a ground's kind, isPawn, occupied, step, mayStride, ahead, aside, kingReaches, reached, goals.
-/
import Derived.Test.YteblmnbagbdiiaaGreatDoorPsMath
import Derived.IntWalk
set_option maxRecDepth 100000
set_option maxHeartbeats 1000000
namespace Go.Proofs.YteblmnbagbdiiaaGreatDoor
open Go.RowKit
set_option linter.unusedVariables false
set_option linter.unusedSimpArgs false

def I64S (n : Int) (w : World) (e : Ending) (w' : World) : Prop := e = .returned (.int .i64 n) ∧ w = w'
theorem ps_home (c : Int) (w : World) : Calls Tryz.prog 229 #[.int .u8 c] w (I64S (homZ c) w) := by
 unfold homZ
 cases g : (c == 0)
 all_goals
  go_enter Tryz.func229, Tryz.ntmps229
  go_wp2
  go_ret
  exact ⟨rfl, rfl⟩
theorem ps_ahead (c : Int) (w : World) : Calls Tryz.prog 255 #[.int .u8 c] w (I64S (ahdZ c) w) := by
 unfold ahdZ
 cases g : (c == 0)
 all_goals
  go_enter Tryz.func255, Tryz.ntmps255
  go_wp2
  go_ret
  exact ⟨rfl, rfl⟩
theorem ps_oth (c : Int) (w : World) : Calls Tryz.prog 175 #[.int .u8 c] w (fun e w' => e = .returned (.int .u8 (oth c)) ∧ w = w') := by
 go_enter Tryz.func175, Tryz.ntmps175
 go_wp2
 go_ret
 exact ⟨rfl, rfl⟩
theorem ps_kind (p : Nat → Int) (o t : Nat) (s : Int) (w : World) (hp : BdR p) : Calls Tryz.prog 233 #[.agg (grA p o t), .int .i64 s] w (U8L (knP p s) w) := by
 have HP := H_ hp
 have HA := H_ (ps_atZ hp s)
 have HS := H_ (show kndZ (atZ p s) = knP p s from rfl)
 clear hp
 have HB := H_ (Below.refl w.heap.size w)
 go_enter Tryz.func233, Tryz.ntmps233
 go_wp2_with (first
   | (refine gr_box rfl _ rfl p o t rfl ?_; intro b1 w1 N R; have HB := H_ (HB.out.trans (N.below.mono HB.out.size)); have HR := H_ R; clear N R)
   | (refine gr_in rfl _ rfl b1 rfl p o t HR.out ?_)
   | (go_at_call 62; refine (at_any p s _ HP.out).mono ?_; rintro e w3 ⟨rfl, hb⟩; have HR := H_ (HR.out.later hb); have HB := H_ (below_on HB.out hb); clear hb)
   | (go_at_call 138; refine (knd_any _ _ HA.out.1 HA.out.2).mono ?_; rintro e w3 ⟨rfl, rfl⟩; ))
 go_ret
 exact ⟨by rw [HS.out]; rfl, HB.out⟩
theorem ps_pawn (p : Nat → Int) (o t : Nat) (s : Int) (w : World) (hp : BdR p) : Calls Tryz.prog 180 #[.agg (grA p o t), .int .i64 s] w (BoL (knP p s == 1) w) := by
 have HP := H_ hp
 clear hp
 have HB := H_ (Below.refl w.heap.size w)
 go_enter Tryz.func180, Tryz.ntmps180
 go_wp2_with (first
   | (refine gr_box rfl _ rfl p o t rfl ?_; intro b1 w1 N R; have HB := H_ (HB.out.trans (N.below.mono HB.out.size)); have HR := H_ R; clear N R)
   | (refine gr_load rfl _ rfl b1 rfl p o t HR.out ?_)
   | (go_at_call 233; refine (ps_kind p o t s _ HP.out).mono ?_; rintro e w3 ⟨rfl, hb⟩; have HR := H_ (HR.out.later hb); have HB := H_ (below_on HB.out hb); clear hb))
 go_ret
 exact ⟨rfl, HB.out⟩
theorem ps_occ (p : Nat → Int) (o t : Nat) (w : World) (ho : o < W64) (ht : t < W64) : Calls Tryz.prog 247 #[.agg (grA p o t)] w (U64L (o ||| t) w) := by
 have HS := H_ (or_nat ho ht)
 clear ho ht
 have HB := H_ (Below.refl w.heap.size w)
 go_enter Tryz.func247, Tryz.ntmps247
 go_wp2_with (first
   | (refine gr_box rfl _ rfl p o t rfl ?_; intro b1 w1 N R; have HB := H_ (HB.out.trans (N.below.mono HB.out.size)); have HR := H_ R; clear N R)
   | (refine step_get rfl 23 _ rfl b1 88 rfl Tryz.underlying23 rfl (.int .u64 (o : Int)) ?_ ?_; exact HR.out.own)
   | (refine step_get rfl 23 _ rfl b1 89 rfl Tryz.underlying23 rfl (.int .u64 (t : Int)) ?_ ?_; exact HR.out.the))
 go_ret
 exact ⟨by rw [HS.out]; rfl, HB.out⟩
theorem ps_step (p : Nat → Int) (o t : Nat) (b : Nat) (w : World) (ho : o < W64) (ht : t < W64) (hb : b < W64) (hL : TabLead w) : Calls Tryz.prog 251 #[.agg (grA p o t), .int .u64 (b : Int)] w (U64L (stpN p o t b) w) := by
 have HO := H_ ho
 have HT := H_ ht
 have HBb := H_ hb
 have HL := H_ hL
 clear ho ht hb hL
 have HB := H_ (Below.refl w.heap.size w)
 cases g : (p 78 == 1)
 ·have HS := H_ (show stpN p o t b = offN (shiftN b 0) (o ||| t) by unfold stpN dirZ; rw [g]; rfl)
  have HA := H_ (offN_bits (shiftN_lt b 0) (ors_lt HO.out HT.out))
  go_enter Tryz.func251, Tryz.ntmps251
  go_wp2_with (first
    | (refine gr_box rfl _ rfl p o t rfl ?_; intro b1 w1 N R; have HB := H_ (HB.out.trans (N.below.mono HB.out.size)); have HR := H_ R; clear N R)
    | (refine step_get rfl 5 _ rfl b1 78 rfl Tryz.underlying5 rfl (.int .u8 (p 78)) ?_ ?_; exact HR.out.cell 78 (by decide)))
  refine late_begin 7 (by kernel_rfl) ?_
  refine lw 0 rfl ?_
  simp only [Act.put, pa, pb, pc]
  refine lw 1 rfl ?_
  simp only [Act.put, pa, pb, pc]
  refine lv 3 rfl ⟨_, fun w' hl => (run_gr _ rfl b1 rfl p o t (HR.out.later hl)), ?_⟩
  simp only [Act.put, pa, pb, pc]
  refine l1 2 rfl fun wn hl K hK => ?_
  have HR := H_ (HR.out.later hl); have HB := H_ (below_on HB.out hl); clear hl
  refine we ?_
  refine (shift_any b _ _ HBb.out (HL.out.next HB.out)).mono ?_; rintro e wm ⟨rfl, rfl⟩; refine ⟨_, rfl, ?_⟩
  refine hK.out _ _ (Later.refl _) ?_
  clear hK K
  simp only [Act.put, pa, pb, pc]
  refine l1 4 rfl fun wn hl K hK => ?_
  have HR := H_ (HR.out.later hl); have HB := H_ (below_on HB.out hl); clear hl
  refine we ?_
  refine (ps_occ p o t _ HO.out HT.out).mono ?_; rintro e wm ⟨rfl, hb⟩; refine ⟨_, rfl, ?_⟩
  refine hK.out _ _ hb ?_
  have HR := H_ (HR.out.later hb); have HB := H_ (below_on HB.out hb); clear hb
  clear hK K
  simp only [Act.put, pa, pb, pc]
  refine lv 5 rfl ⟨.int .u64 ((offN (shiftN b 0) (o ||| t) : Nat) : Int), fun w' hl => ?_, ?_⟩
  ·(go_simp; rw [HA.out])
  simp only [Act.put, pa, pb, pc]
  refine lw 6 rfl ?_
  simp only [Act.put, pa, pb, pc]
  refine late_end (by kernel_rfl) (fun wn hl => ?_)
  have HR := H_ (HR.out.later hl); have HB := H_ (below_on HB.out hl); clear hl
  go_wp2_with fail
  go_ret
  exact ⟨by rw [HS.out]; rfl, HB.out⟩
 ·have HS := H_ (show stpN p o t b = offN (shiftN b 4) (o ||| t) by unfold stpN dirZ; rw [g]; rfl)
  have HA := H_ (offN_bits (shiftN_lt b 4) (ors_lt HO.out HT.out))
  go_enter Tryz.func251, Tryz.ntmps251
  go_wp2_with (first
    | (refine gr_box rfl _ rfl p o t rfl ?_; intro b1 w1 N R; have HB := H_ (HB.out.trans (N.below.mono HB.out.size)); have HR := H_ R; clear N R)
    | (refine step_get rfl 5 _ rfl b1 78 rfl Tryz.underlying5 rfl (.int .u8 (p 78)) ?_ ?_; exact HR.out.cell 78 (by decide)))
  refine late_begin 7 (by kernel_rfl) ?_
  refine lw 0 rfl ?_
  simp only [Act.put, pa, pb, pc]
  refine lw 1 rfl ?_
  simp only [Act.put, pa, pb, pc]
  refine lv 3 rfl ⟨_, fun w' hl => (run_gr _ rfl b1 rfl p o t (HR.out.later hl)), ?_⟩
  simp only [Act.put, pa, pb, pc]
  refine l1 2 rfl fun wn hl K hK => ?_
  have HR := H_ (HR.out.later hl); have HB := H_ (below_on HB.out hl); clear hl
  refine we ?_
  refine (shift_any b _ _ HBb.out (HL.out.next HB.out)).mono ?_; rintro e wm ⟨rfl, rfl⟩; refine ⟨_, rfl, ?_⟩
  refine hK.out _ _ (Later.refl _) ?_
  clear hK K
  simp only [Act.put, pa, pb, pc]
  refine l1 4 rfl fun wn hl K hK => ?_
  have HR := H_ (HR.out.later hl); have HB := H_ (below_on HB.out hl); clear hl
  refine we ?_
  refine (ps_occ p o t _ HO.out HT.out).mono ?_; rintro e wm ⟨rfl, hb⟩; refine ⟨_, rfl, ?_⟩
  refine hK.out _ _ hb ?_
  have HR := H_ (HR.out.later hb); have HB := H_ (below_on HB.out hb); clear hb
  clear hK K
  simp only [Act.put, pa, pb, pc]
  refine lv 5 rfl ⟨.int .u64 ((offN (shiftN b 4) (o ||| t) : Nat) : Int), fun w' hl => ?_, ?_⟩
  ·(go_simp; rw [HA.out])
  simp only [Act.put, pa, pb, pc]
  refine lw 6 rfl ?_
  simp only [Act.put, pa, pb, pc]
  refine late_end (by kernel_rfl) (fun wn hl => ?_)
  have HR := H_ (HR.out.later hl); have HB := H_ (below_on HB.out hl); clear hl
  go_wp2_with fail
  go_ret
  exact ⟨by rw [HS.out]; rfl, HB.out⟩
theorem ps_quo : ∀ n : Nat, n < 64 → wrap64 ((n : Int) / 8) = ((n / 8 : Nat) : Int) := by decide +kernel
theorem ps_may (p : Nat → Int) (o t : Nat) (n : Nat) (hn : n < 64) (w : World) : Calls Tryz.prog 252 #[.agg (grA p o t), .int .i64 (n : Int)] w (BoL (mayB p n) w) := by
 have hq := ps_quo n hn
 clear hn
 have HB := H_ (Below.refl w.heap.size w)
 cases g1 : (((n / 8 : Nat) : Int) == homZ (p 78))
 ·cases g2 : (((n / 8 : Nat) : Int) == ahdZ (p 78))
  ·have HS := H_ (show mayB p n = false by unfold mayB; rw [g1, g2]; rfl)
   go_enter Tryz.func252, Tryz.ntmps252
   go_wp2_with (first
     | (refine gr_box rfl _ rfl p o t rfl ?_; intro b1 w1 N R; have HB := H_ (HB.out.trans (N.below.mono HB.out.size)); have HR := H_ R; clear N R)
     | (refine step_get rfl 5 _ rfl b1 0 rfl Tryz.underlying5 rfl (.int .u8 (p 0)) ?_ ?_; exact HR.out.cell 0 (by decide))
     | (refine step_get rfl 5 _ rfl b1 78 rfl Tryz.underlying5 rfl (.int .u8 (p 78)) ?_ ?_; exact HR.out.cell 78 (by decide))
     | (go_at_call 229; refine (ps_home _ _).mono ?_; rintro e w3 ⟨rfl, rfl⟩; )
     | (go_at_call 255; refine (ps_ahead _ _).mono ?_; rintro e w3 ⟨rfl, rfl⟩; ))
   go_ret
   exact ⟨by rw [HS.out]; rfl, HB.out⟩
  ·have HS := H_ (show mayB p n = true by unfold mayB; rw [g1, g2]; rfl)
   go_enter Tryz.func252, Tryz.ntmps252
   go_wp2_with (first
     | (refine gr_box rfl _ rfl p o t rfl ?_; intro b1 w1 N R; have HB := H_ (HB.out.trans (N.below.mono HB.out.size)); have HR := H_ R; clear N R)
     | (refine step_get rfl 5 _ rfl b1 0 rfl Tryz.underlying5 rfl (.int .u8 (p 0)) ?_ ?_; exact HR.out.cell 0 (by decide))
     | (refine step_get rfl 5 _ rfl b1 78 rfl Tryz.underlying5 rfl (.int .u8 (p 78)) ?_ ?_; exact HR.out.cell 78 (by decide))
     | (go_at_call 229; refine (ps_home _ _).mono ?_; rintro e w3 ⟨rfl, rfl⟩; )
     | (go_at_call 255; refine (ps_ahead _ _).mono ?_; rintro e w3 ⟨rfl, rfl⟩; ))
   go_ret
   exact ⟨by rw [HS.out]; rfl, HB.out⟩
 ·cases g3 : (p 0 == 7)
  ·have HS := H_ (show mayB p n = false by unfold mayB; rw [g1, g3]; rfl)
   go_enter Tryz.func252, Tryz.ntmps252
   go_wp2_with (first
     | (refine gr_box rfl _ rfl p o t rfl ?_; intro b1 w1 N R; have HB := H_ (HB.out.trans (N.below.mono HB.out.size)); have HR := H_ R; clear N R)
     | (refine step_get rfl 5 _ rfl b1 0 rfl Tryz.underlying5 rfl (.int .u8 (p 0)) ?_ ?_; exact HR.out.cell 0 (by decide))
     | (refine step_get rfl 5 _ rfl b1 78 rfl Tryz.underlying5 rfl (.int .u8 (p 78)) ?_ ?_; exact HR.out.cell 78 (by decide))
     | (go_at_call 229; refine (ps_home _ _).mono ?_; rintro e w3 ⟨rfl, rfl⟩; )
     | (go_at_call 255; refine (ps_ahead _ _).mono ?_; rintro e w3 ⟨rfl, rfl⟩; ))
   go_ret
   exact ⟨by rw [HS.out]; rfl, HB.out⟩
  ·cases g4 : (p 78 == 0)
   ·have HS := H_ (show mayB p n = false by unfold mayB; rw [g1, g3, g4]; rfl)
    go_enter Tryz.func252, Tryz.ntmps252
    go_wp2_with (first
      | (refine gr_box rfl _ rfl p o t rfl ?_; intro b1 w1 N R; have HB := H_ (HB.out.trans (N.below.mono HB.out.size)); have HR := H_ R; clear N R)
      | (refine step_get rfl 5 _ rfl b1 0 rfl Tryz.underlying5 rfl (.int .u8 (p 0)) ?_ ?_; exact HR.out.cell 0 (by decide))
      | (refine step_get rfl 5 _ rfl b1 78 rfl Tryz.underlying5 rfl (.int .u8 (p 78)) ?_ ?_; exact HR.out.cell 78 (by decide))
      | (go_at_call 229; refine (ps_home _ _).mono ?_; rintro e w3 ⟨rfl, rfl⟩; )
      | (go_at_call 255; refine (ps_ahead _ _).mono ?_; rintro e w3 ⟨rfl, rfl⟩; ))
    go_ret
    exact ⟨by rw [HS.out]; rfl, HB.out⟩
   ·have HS := H_ (show mayB p n = true by unfold mayB; rw [g1, g3, g4]; rfl)
    go_enter Tryz.func252, Tryz.ntmps252
    go_wp2_with (first
      | (refine gr_box rfl _ rfl p o t rfl ?_; intro b1 w1 N R; have HB := H_ (HB.out.trans (N.below.mono HB.out.size)); have HR := H_ R; clear N R)
      | (refine step_get rfl 5 _ rfl b1 0 rfl Tryz.underlying5 rfl (.int .u8 (p 0)) ?_ ?_; exact HR.out.cell 0 (by decide))
      | (refine step_get rfl 5 _ rfl b1 78 rfl Tryz.underlying5 rfl (.int .u8 (p 78)) ?_ ?_; exact HR.out.cell 78 (by decide))
      | (go_at_call 229; refine (ps_home _ _).mono ?_; rintro e w3 ⟨rfl, rfl⟩; )
      | (go_at_call 255; refine (ps_ahead _ _).mono ?_; rintro e w3 ⟨rfl, rfl⟩; ))
    go_ret
    exact ⟨by rw [HS.out]; rfl, HB.out⟩
theorem ps_ah (p : Nat → Int) (o t : Nat) (n : Nat) (hn : n < 64) (w : World) (hp : BdR p) (ho : o < W64) (ht : t < W64) (hD : TabDb w) (hL : TabLead w) : Calls Tryz.prog 245 #[.agg (grA p o t), .int .i64 (n : Int)] w (U64L (ahN p o t n) w) := by
 have HP := H_ hp
 have HO := H_ ho
 have HT := H_ ht
 have HD := H_ hD
 have HL := H_ hL
 clear hp ho ht hD hL
 have HN := H_ hn
 clear hn
 have HZ := H_ (show (0 : Nat) < W64 by decide)
 have HC := H_ (show putN 0 (n : Int) < W64 from putN_lt HZ.out _)
 have HB := H_ (Below.refl w.heap.size w)
 cases g : mayB p n
 ·have HS := H_ (show ahN p o t n = onceN p o t n by unfold ahN; rw [g]; rfl)
  go_enter Tryz.func245, Tryz.ntmps245
  go_wp2_with (first
    | (refine gr_box rfl _ rfl p o t rfl ?_; intro b1 w1 N R; have HB := H_ (HB.out.trans (N.below.mono HB.out.size)); have HR := H_ R; clear N R))
  refine late_begin 5 (by kernel_rfl) ?_
  refine lv 0 rfl ⟨_, fun w' hl => (run_gr _ rfl b1 rfl p o t (HR.out.later hl)), ?_⟩
  simp only [Act.put, pa, pb, pc]
  refine lw 1 rfl ?_
  simp only [Act.put, pa, pb, pc]
  refine l1 2 rfl fun wn hl K hK => ?_
  have HR := H_ (HR.out.later hl); have HB := H_ (below_on HB.out hl); clear hl
  refine we ?_
  refine (put_any 0 _ _ HZ.out).mono ?_; rintro e wm ⟨rfl, rfl⟩; refine ⟨_, rfl, ?_⟩
  refine hK.out _ _ (Later.refl _) ?_
  clear hK K
  simp only [Act.put, pa, pb, pc]
  refine l1 3 rfl fun wn hl K hK => ?_
  have HR := H_ (HR.out.later hl); have HB := H_ (below_on HB.out hl); clear hl
  refine we ?_
  refine (ps_step p o t _ _ HO.out HT.out HC.out (HL.out.next HB.out)).mono ?_; rintro e wm ⟨rfl, hb⟩; refine ⟨_, rfl, ?_⟩
  refine hK.out _ _ hb ?_
  have HR := H_ (HR.out.later hb); have HB := H_ (below_on HB.out hb); clear hb
  clear hK K
  simp only [Act.put, pa, pb, pc]
  refine lw 4 rfl ?_
  simp only [Act.put, pa, pb, pc]
  refine late_end (by kernel_rfl) (fun wn hl => ?_)
  have HR := H_ (HR.out.later hl); have HB := H_ (below_on HB.out hl); clear hl
  rw [show stpN p o t (putN 0 (n : Int)) = onceN p o t n from rfl]
  go_wp2_with (first
     | (refine gr_load rfl _ rfl b1 rfl p o t HR.out ?_)
     | (go_at_call 252; refine ((g ▸ ps_may p o t n HN.out _ : Calls _ _ _ _ (BoL _ _))).mono ?_; rintro e w3 ⟨rfl, hb⟩; have HR := H_ (HR.out.later hb); have HB := H_ (below_on HB.out hb); clear hb)
     | (go_at_call 251; refine (ps_step p o t _ _ HO.out HT.out (stpN_lt _ _ _ _) (HL.out.next HB.out)).mono ?_; rintro e w3 ⟨rfl, hb⟩; have HR := H_ (HR.out.later hb); have HB := H_ (below_on HB.out hb); clear hb))
  go_ret
  exact ⟨by rw [HS.out]; rfl, HB.out⟩
 ·have HS := H_ (show ahN p o t n = onceN p o t n ||| stpN p o t (onceN p o t n) by unfold ahN; rw [g]; rfl)
  have HA := H_ (or_nat (stpN_lt p o t (putN 0 (n : Int))) (stpN_lt p o t (onceN p o t n)))
  go_enter Tryz.func245, Tryz.ntmps245
  go_wp2_with (first
    | (refine gr_box rfl _ rfl p o t rfl ?_; intro b1 w1 N R; have HB := H_ (HB.out.trans (N.below.mono HB.out.size)); have HR := H_ R; clear N R))
  refine late_begin 5 (by kernel_rfl) ?_
  refine lv 0 rfl ⟨_, fun w' hl => (run_gr _ rfl b1 rfl p o t (HR.out.later hl)), ?_⟩
  simp only [Act.put, pa, pb, pc]
  refine lw 1 rfl ?_
  simp only [Act.put, pa, pb, pc]
  refine l1 2 rfl fun wn hl K hK => ?_
  have HR := H_ (HR.out.later hl); have HB := H_ (below_on HB.out hl); clear hl
  refine we ?_
  refine (put_any 0 _ _ HZ.out).mono ?_; rintro e wm ⟨rfl, rfl⟩; refine ⟨_, rfl, ?_⟩
  refine hK.out _ _ (Later.refl _) ?_
  clear hK K
  simp only [Act.put, pa, pb, pc]
  refine l1 3 rfl fun wn hl K hK => ?_
  have HR := H_ (HR.out.later hl); have HB := H_ (below_on HB.out hl); clear hl
  refine we ?_
  refine (ps_step p o t _ _ HO.out HT.out HC.out (HL.out.next HB.out)).mono ?_; rintro e wm ⟨rfl, hb⟩; refine ⟨_, rfl, ?_⟩
  refine hK.out _ _ hb ?_
  have HR := H_ (HR.out.later hb); have HB := H_ (below_on HB.out hb); clear hb
  clear hK K
  simp only [Act.put, pa, pb, pc]
  refine lw 4 rfl ?_
  simp only [Act.put, pa, pb, pc]
  refine late_end (by kernel_rfl) (fun wn hl => ?_)
  have HR := H_ (HR.out.later hl); have HB := H_ (below_on HB.out hl); clear hl
  rw [show stpN p o t (putN 0 (n : Int)) = onceN p o t n from rfl]
  go_wp2_with (first
     | (refine gr_load rfl _ rfl b1 rfl p o t HR.out ?_)
     | (go_at_call 252; refine ((g ▸ ps_may p o t n HN.out _ : Calls _ _ _ _ (BoL _ _))).mono ?_; rintro e w3 ⟨rfl, hb⟩; have HR := H_ (HR.out.later hb); have HB := H_ (below_on HB.out hb); clear hb)
     | (go_at_call 251; refine (ps_step p o t _ _ HO.out HT.out (stpN_lt _ _ _ _) (HL.out.next HB.out)).mono ?_; rintro e w3 ⟨rfl, hb⟩; have HR := H_ (HR.out.later hb); have HB := H_ (below_on HB.out hb); clear hb))
  go_ret
  exact ⟨by rw [HS.out]; exact congrArg (fun x => Ending.returned (.int .u64 x)) HA.out, HB.out⟩
theorem ps_as (p : Nat → Int) (o t : Nat) (n : Nat) (w : World) (hp : PsR p) (ht : t < W64) (hL : TabLead w) : Calls Tryz.prog 246 #[.agg (grA p o t), .int .i64 (n : Int)] w (U64L (asN p t n) w) := by
 have HP := H_ hp
 have HT := H_ ht
 have HL := H_ hL
 have HW := H_ (show IntKind.i64.wrap (p 83) = p 83 by have := hp.pass; rw [IntKind.wrap_i64]; omega)
 have HA := H_ (and_nat (pawnN_lt (p 78) (n : Int)) (putN_lt ht (p 83)))
 clear hp ht hL
 have HB := H_ (Below.refl w.heap.size w)
 go_enter Tryz.func246, Tryz.ntmps246
 go_wp2_with (first
   | (refine gr_box rfl _ rfl p o t rfl ?_; intro b1 w1 N R; have HB := H_ (HB.out.trans (N.below.mono HB.out.size)); have HR := H_ R; clear N R))
 refine late_begin 14 (by kernel_rfl) ?_
 refine lw 0 rfl ?_
 simp only [Act.put, pa, pb, pc]
 refine lw 1 rfl ?_
 simp only [Act.put, pa, pb, pc]
 refine lv 2 rfl ⟨_, fun w' hl => (run_get 5 _ rfl b1 78 rfl Tryz.underlying5 rfl (.int .u8 (p 78)) ((HR.out.later hl).cell 78 (by decide))), ?_⟩
 simp only [Act.put, pa, pb, pc]
 refine lw 3 rfl ?_
 simp only [Act.put, pa, pb, pc]
 refine lw 5 rfl ?_
 simp only [Act.put, pa, pb, pc]
 refine lv 6 rfl ⟨_, fun w' hl => (run_get 23 _ rfl b1 89 rfl Tryz.underlying23 rfl (.int .u64 (t : Int)) ((HR.out.later hl).the)), ?_⟩
 simp only [Act.put, pa, pb, pc]
 refine lw 7 rfl ?_
 simp only [Act.put, pa, pb, pc]
 refine lw 8 rfl ?_
 simp only [Act.put, pa, pb, pc]
 refine lv 9 rfl ⟨_, fun w' hl => (run_get 26 _ rfl b1 83 rfl Tryz.underlying26 rfl (.int .i8 (p 83)) ((HR.out.later hl).cell 83 (by decide))), ?_⟩
 simp only [Act.put, pa, pb, pc]
 refine lv 10 rfl ⟨.int .i64 (p 83), fun w' hl => ?_, ?_⟩
 ·(go_simp; try rw [HW.out])
 simp only [Act.put, pa, pb, pc]
 refine l1 4 rfl fun wn hl K hK => ?_
 have HR := H_ (HR.out.later hl); have HB := H_ (below_on HB.out hl); clear hl
 refine we ?_
 refine (pawn_any (p 78) (n : Int) _ (HL.out.next HB.out) HP.out.turn.1).mono ?_; rintro e wm ⟨rfl, hb⟩; refine ⟨_, rfl, ?_⟩
 refine hK.out _ _ hb ?_
 have HR := H_ (HR.out.later hb); have HB := H_ (below_on HB.out hb); clear hb
 clear hK K
 simp only [Act.put, pa, pb, pc]
 refine l1 11 rfl fun wn hl K hK => ?_
 have HR := H_ (HR.out.later hl); have HB := H_ (below_on HB.out hl); clear hl
 refine we ?_
 refine (put_any t _ _ HT.out).mono ?_; rintro e wm ⟨rfl, rfl⟩; refine ⟨_, rfl, ?_⟩
 refine hK.out _ _ (Later.refl _) ?_
 clear hK K
 simp only [Act.put, pa, pb, pc]
 refine lv 12 rfl ⟨.int .u64 ((asN p t n : Nat) : Int), fun w' hl => ?_, ?_⟩
 ·(go_simp; rw [HA.out]; rfl)
 simp only [Act.put, pa, pb, pc]
 refine lw 13 rfl ?_
 simp only [Act.put, pa, pb, pc]
 refine late_end (by kernel_rfl) (fun wn hl => ?_)
 have HR := H_ (HR.out.later hl); have HB := H_ (below_on HB.out hl); clear hl
 go_wp2_with fail
 go_ret
 exact ⟨rfl, HB.out⟩
theorem ps_kg (p : Nat → Int) (o t : Nat) (n : Nat) (w : World) (ht : t < W64) (hL : TabLead w) : Calls Tryz.prog 248 #[.agg (grA p o t), .int .i64 (n : Int)] w (U64L (kgN p t n) w) := by
 have HT := H_ ht
 have HL := H_ hL
 have HA := H_ (offN_bits (kingN_lt (n : Int)) ht)
 clear ht hL
 have HB := H_ (Below.refl w.heap.size w)
 cases g : (p 0 == 3)
 ·have HS := H_ (show kgN p t n = kingN (n : Int) by unfold kgN; rw [g]; rfl)
  go_enter Tryz.func248, Tryz.ntmps248
  go_wp2_with (first
    | (refine gr_box rfl _ rfl p o t rfl ?_; intro b1 w1 N R; have HB := H_ (HB.out.trans (N.below.mono HB.out.size)); have HR := H_ R; clear N R)
    | (refine step_get rfl 5 _ rfl b1 0 rfl Tryz.underlying5 rfl (.int .u8 (p 0)) ?_ ?_; exact HR.out.cell 0 (by decide))
    | (go_at_call 73; refine (king_any _ _ (HL.out.next HB.out)).mono ?_; rintro e w3 ⟨rfl, hb⟩; have HR := H_ (HR.out.later hb); have HB := H_ (below_on HB.out hb); clear hb))
  go_ret
  exact ⟨by rw [HS.out]; rfl, HB.out⟩
 ·have HS := H_ (show kgN p t n = offN (kingN (n : Int)) t by unfold kgN; rw [g]; rfl)
  go_enter Tryz.func248, Tryz.ntmps248
  go_wp2_with (first
    | (refine gr_box rfl _ rfl p o t rfl ?_; intro b1 w1 N R; have HB := H_ (HB.out.trans (N.below.mono HB.out.size)); have HR := H_ R; clear N R)
    | (refine step_get rfl 5 _ rfl b1 0 rfl Tryz.underlying5 rfl (.int .u8 (p 0)) ?_ ?_; exact HR.out.cell 0 (by decide)))
  refine late_begin 6 (by kernel_rfl) ?_
  refine lw 0 rfl ?_
  simp only [Act.put, pa, pb, pc]
  refine lw 2 rfl ?_
  simp only [Act.put, pa, pb, pc]
  refine lv 3 rfl ⟨_, fun w' hl => (run_get 23 _ rfl b1 89 rfl Tryz.underlying23 rfl (.int .u64 (t : Int)) ((HR.out.later hl).the)), ?_⟩
  simp only [Act.put, pa, pb, pc]
  refine l1 1 rfl fun wn hl K hK => ?_
  have HR := H_ (HR.out.later hl); have HB := H_ (below_on HB.out hl); clear hl
  refine we ?_
  refine (king_any (n : Int) _ (HL.out.next HB.out)).mono ?_; rintro e wm ⟨rfl, hb⟩; refine ⟨_, rfl, ?_⟩
  refine hK.out _ _ hb ?_
  have HR := H_ (HR.out.later hb); have HB := H_ (below_on HB.out hb); clear hb
  clear hK K
  simp only [Act.put, pa, pb, pc]
  refine lv 4 rfl ⟨.int .u64 ((offN (kingN (n : Int)) t : Nat) : Int), fun w' hl => ?_, ?_⟩
  ·(go_simp; rw [HA.out])
  simp only [Act.put, pa, pb, pc]
  refine lw 5 rfl ?_
  simp only [Act.put, pa, pb, pc]
  refine late_end (by kernel_rfl) (fun wn hl => ?_)
  have HR := H_ (HR.out.later hl); have HB := H_ (below_on HB.out hl); clear hl
  go_wp2_with fail
  go_ret
  exact ⟨by rw [HS.out]; rfl, HB.out⟩
theorem ps_rch (p : Nat → Int) (o t : Nat) (n : Nat) (hn : n < 64) (w : World) (hp : PsR p) (ho : o < W64) (ht : t < W64) (hD : TabDb w) (hL : TabLead w) : Calls Tryz.prog 231 #[.agg (grA p o t), .int .i64 (n : Int)] w (U64L (rchN p o t n) w) := by
 have HP := H_ hp
 have HO := H_ ho
 have HT := H_ ht
 have HD := H_ hD
 have HL := H_ hL
 clear hp ho ht hD hL
 have HN := H_ hn
 clear hn
 have HU := H_ (ors_lt HO.out HT.out)
 have HB := H_ (Below.refl w.heap.size w)
 obtain ⟨k, HKk⟩ : ∃ k, Hid (knP p (n : Int) = k) := ⟨_, H_ rfl⟩
 have HKc := H_ (show ∀ w1, Calls Tryz.prog 233 #[.agg (grA p o t), .int .i64 (n : Int)] w1 (U8L k w1) from fun w1 => HKk.out ▸ ps_kind p o t (n : Int) w1 HP.out.bd)
 rcases Bool.eq_false_or_eq_true (k == 1) with g1 | g1
 ·have HS := H_ (show rchN p o t n = ahN p o t n ||| asN p t n by unfold rchN; rw [HKk.out, g1]; rfl)
  have HA := H_ (or_nat (ahN_lt p o t n) (asN_lt p t n))
  go_enter Tryz.func231, Tryz.ntmps231
  go_wp2_with (first
    | (refine gr_box rfl _ rfl p o t rfl ?_; intro b1 w1 N R; have HB := H_ (HB.out.trans (N.below.mono HB.out.size)); have HR := H_ R; clear N R)
    | (refine gr_load rfl _ rfl b1 rfl p o t HR.out ?_)
    | (go_at_call 233; refine (HKc.out _).mono ?_; rintro e w3 ⟨rfl, hb⟩; have HR := H_ (HR.out.later hb); have HB := H_ (below_on HB.out hb); clear hb)
    | (go_at_call 247; refine (ps_occ p o t _ HO.out HT.out).mono ?_; rintro e w3 ⟨rfl, hb⟩; have HR := H_ (HR.out.later hb); have HB := H_ (below_on HB.out hb); clear hb))
  refine late_begin 8 (by kernel_rfl) ?_
  refine lv 0 rfl ⟨_, fun w' hl => (run_gr _ rfl b1 rfl p o t (HR.out.later hl)), ?_⟩
  simp only [Act.put, pa, pb, pc]
  refine lw 1 rfl ?_
  simp only [Act.put, pa, pb, pc]
  refine lv 3 rfl ⟨_, fun w' hl => (run_gr _ rfl b1 rfl p o t (HR.out.later hl)), ?_⟩
  simp only [Act.put, pa, pb, pc]
  refine lw 4 rfl ?_
  simp only [Act.put, pa, pb, pc]
  refine l1 2 rfl fun wn hl K hK => ?_
  have HR := H_ (HR.out.later hl); have HB := H_ (below_on HB.out hl); clear hl
  refine we ?_
  refine (ps_ah p o t n HN.out _ HP.out.bd HO.out HT.out (HD.out.next HB.out) (HL.out.next HB.out)).mono ?_; rintro e wm ⟨rfl, hb⟩; refine ⟨_, rfl, ?_⟩
  refine hK.out _ _ hb ?_
  have HR := H_ (HR.out.later hb); have HB := H_ (below_on HB.out hb); clear hb
  clear hK K
  simp only [Act.put, pa, pb, pc]
  refine l1 5 rfl fun wn hl K hK => ?_
  have HR := H_ (HR.out.later hl); have HB := H_ (below_on HB.out hl); clear hl
  refine we ?_
  refine (ps_as p o t n _ HP.out HT.out (HL.out.next HB.out)).mono ?_; rintro e wm ⟨rfl, hb⟩; refine ⟨_, rfl, ?_⟩
  refine hK.out _ _ hb ?_
  have HR := H_ (HR.out.later hb); have HB := H_ (below_on HB.out hb); clear hb
  clear hK K
  simp only [Act.put, pa, pb, pc]
  refine lv 6 rfl ⟨.int .u64 ((ahN p o t n ||| asN p t n : Nat) : Int), fun w' hl => ?_, ?_⟩
  ·(go_simp; rw [HA.out])
  simp only [Act.put, pa, pb, pc]
  refine lw 7 rfl ?_
  simp only [Act.put, pa, pb, pc]
  refine late_end (by kernel_rfl) (fun wn hl => ?_)
  have HR := H_ (HR.out.later hl); have HB := H_ (below_on HB.out hl); clear hl
  go_wp2_with fail
  go_ret
  exact ⟨by rw [HS.out]; rfl, HB.out⟩
 rcases Bool.eq_false_or_eq_true (k == 2) with g2 | g2
 ·have HS := H_ (show rchN p o t n = knightN (n : Int) by unfold rchN; rw [HKk.out, g1, g2]; rfl)
  go_enter Tryz.func231, Tryz.ntmps231
  go_wp2_with (first
    | (refine gr_box rfl _ rfl p o t rfl ?_; intro b1 w1 N R; have HB := H_ (HB.out.trans (N.below.mono HB.out.size)); have HR := H_ R; clear N R)
    | (refine gr_load rfl _ rfl b1 rfl p o t HR.out ?_)
    | (go_at_call 233; refine (HKc.out _).mono ?_; rintro e w3 ⟨rfl, hb⟩; have HR := H_ (HR.out.later hb); have HB := H_ (below_on HB.out hb); clear hb)
    | (go_at_call 247; refine (ps_occ p o t _ HO.out HT.out).mono ?_; rintro e w3 ⟨rfl, hb⟩; have HR := H_ (HR.out.later hb); have HB := H_ (below_on HB.out hb); clear hb)
    | (go_at_call 208; refine (knight_any _ _ (HL.out.next HB.out)).mono ?_; rintro e w3 ⟨rfl, hb⟩; have HR := H_ (HR.out.later hb); have HB := H_ (below_on HB.out hb); clear hb))
  go_ret
  exact ⟨by rw [HS.out]; rfl, HB.out⟩
 rcases Bool.eq_false_or_eq_true (k == 3) with g3 | g3
 ·have HS := H_ (show rchN p o t n = bishN (n : Int) (o ||| t) by unfold rchN; rw [HKk.out, g1, g2, g3]; rfl)
  go_enter Tryz.func231, Tryz.ntmps231
  go_wp2_with (first
    | (refine gr_box rfl _ rfl p o t rfl ?_; intro b1 w1 N R; have HB := H_ (HB.out.trans (N.below.mono HB.out.size)); have HR := H_ R; clear N R)
    | (refine gr_load rfl _ rfl b1 rfl p o t HR.out ?_)
    | (go_at_call 233; refine (HKc.out _).mono ?_; rintro e w3 ⟨rfl, hb⟩; have HR := H_ (HR.out.later hb); have HB := H_ (below_on HB.out hb); clear hb)
    | (go_at_call 247; refine (ps_occ p o t _ HO.out HT.out).mono ?_; rintro e w3 ⟨rfl, hb⟩; have HR := H_ (HR.out.later hb); have HB := H_ (below_on HB.out hb); clear hb)
    | (go_at_call 210; refine (bish_any _ _ _ HU.out (HD.out.next HB.out) (HL.out.next HB.out)).mono ?_; rintro e w3 ⟨rfl, hb⟩; have HR := H_ (HR.out.later hb); have HB := H_ (below_on HB.out hb); clear hb))
  go_ret
  exact ⟨by rw [HS.out]; rfl, HB.out⟩
 rcases Bool.eq_false_or_eq_true (k == 4) with g4 | g4
 ·have HS := H_ (show rchN p o t n = rookN (n : Int) (o ||| t) by unfold rchN; rw [HKk.out, g1, g2, g3, g4]; rfl)
  go_enter Tryz.func231, Tryz.ntmps231
  go_wp2_with (first
    | (refine gr_box rfl _ rfl p o t rfl ?_; intro b1 w1 N R; have HB := H_ (HB.out.trans (N.below.mono HB.out.size)); have HR := H_ R; clear N R)
    | (refine gr_load rfl _ rfl b1 rfl p o t HR.out ?_)
    | (go_at_call 233; refine (HKc.out _).mono ?_; rintro e w3 ⟨rfl, hb⟩; have HR := H_ (HR.out.later hb); have HB := H_ (below_on HB.out hb); clear hb)
    | (go_at_call 247; refine (ps_occ p o t _ HO.out HT.out).mono ?_; rintro e w3 ⟨rfl, hb⟩; have HR := H_ (HR.out.later hb); have HB := H_ (below_on HB.out hb); clear hb)
    | (go_at_call 212; refine (rook_any _ _ _ HU.out (HD.out.next HB.out) (HL.out.next HB.out)).mono ?_; rintro e w3 ⟨rfl, hb⟩; have HR := H_ (HR.out.later hb); have HB := H_ (below_on HB.out hb); clear hb))
  go_ret
  exact ⟨by rw [HS.out]; rfl, HB.out⟩
 rcases Bool.eq_false_or_eq_true (k == 5) with g5 | g5
 ·have HS := H_ (show rchN p o t n = queenN (n : Int) (o ||| t) by unfold rchN; rw [HKk.out, g1, g2, g3, g4, g5]; rfl)
  go_enter Tryz.func231, Tryz.ntmps231
  go_wp2_with (first
    | (refine gr_box rfl _ rfl p o t rfl ?_; intro b1 w1 N R; have HB := H_ (HB.out.trans (N.below.mono HB.out.size)); have HR := H_ R; clear N R)
    | (refine gr_load rfl _ rfl b1 rfl p o t HR.out ?_)
    | (go_at_call 233; refine (HKc.out _).mono ?_; rintro e w3 ⟨rfl, hb⟩; have HR := H_ (HR.out.later hb); have HB := H_ (below_on HB.out hb); clear hb)
    | (go_at_call 247; refine (ps_occ p o t _ HO.out HT.out).mono ?_; rintro e w3 ⟨rfl, hb⟩; have HR := H_ (HR.out.later hb); have HB := H_ (below_on HB.out hb); clear hb)
    | (go_at_call 214; refine (queen_any _ _ _ HU.out (HD.out.next HB.out) (HL.out.next HB.out)).mono ?_; rintro e w3 ⟨rfl, hb⟩; have HR := H_ (HR.out.later hb); have HB := H_ (below_on HB.out hb); clear hb))
  go_ret
  exact ⟨by rw [HS.out]; rfl, HB.out⟩
 have HS := H_ (show rchN p o t n = kgN p t n by unfold rchN; rw [HKk.out, g1, g2, g3, g4, g5]; rfl)
 go_enter Tryz.func231, Tryz.ntmps231
 go_wp2_with (first
   | (refine gr_box rfl _ rfl p o t rfl ?_; intro b1 w1 N R; have HB := H_ (HB.out.trans (N.below.mono HB.out.size)); have HR := H_ R; clear N R)
   | (refine gr_load rfl _ rfl b1 rfl p o t HR.out ?_)
   | (go_at_call 233; refine (HKc.out _).mono ?_; rintro e w3 ⟨rfl, hb⟩; have HR := H_ (HR.out.later hb); have HB := H_ (below_on HB.out hb); clear hb)
   | (go_at_call 247; refine (ps_occ p o t _ HO.out HT.out).mono ?_; rintro e w3 ⟨rfl, hb⟩; have HR := H_ (HR.out.later hb); have HB := H_ (below_on HB.out hb); clear hb)
   | (go_at_call 248; refine (ps_kg p o t n _ HT.out (HL.out.next HB.out)).mono ?_; rintro e w3 ⟨rfl, hb⟩; have HR := H_ (HR.out.later hb); have HB := H_ (below_on HB.out hb); clear hb))
 go_ret
 exact ⟨by rw [HS.out]; rfl, HB.out⟩
theorem ps_gol (p : Nat → Int) (o t : Nat) (s : Int) (w : World) (hp : PsR p) (ho : o < W64) (ht : t < W64) (hD : TabDb w) (hL : TabLead w) : Calls Tryz.prog 178 #[.agg (grA p o t), .int .i64 s] w (U64L (golN p o t s) w) := by
 have HP := H_ hp
 have HO := H_ ho
 have HT := H_ ht
 have HD := H_ hD
 have HL := H_ hL
 clear hp ho ht hD hL
 have HB := H_ (Below.refl w.heap.size w)
 obtain ⟨h, HH⟩ : ∃ h, Hid (hasN o s = h) := ⟨_, H_ rfl⟩
 have HHc := H_ (show ∀ w1, Calls Tryz.prog 179 #[.int .u64 (o : Int), .int .i64 s] w1 (fun e w' => e = .returned (.bool h) ∧ w1 = w') from fun w1 => HH.out ▸ has_any o s w1 HO.out)
 cases h
 ·have HS := H_ (show golN p o t s = 0 by unfold golN; rw [HH.out]; rfl)
  go_enter Tryz.func178, Tryz.ntmps178
  go_wp2_with (first
    | (refine gr_box rfl _ rfl p o t rfl ?_; intro b1 w1 N R; have HB := H_ (HB.out.trans (N.below.mono HB.out.size)); have HR := H_ R; clear N R)
    | (refine step_get rfl 23 _ rfl b1 88 rfl Tryz.underlying23 rfl (.int .u64 (o : Int)) ?_ ?_; exact HR.out.own)
    | (go_at_call 179; refine (HHc.out _).mono ?_; rintro e w3 ⟨rfl, rfl⟩; ))
  go_ret
  exact ⟨by rw [HS.out]; rfl, HB.out⟩
 ·obtain ⟨n, hn, rfl⟩ : ∃ n : Nat, n < 64 ∧ s = (n : Int) := nat_of_sq (ps_has_sq HH.out)
  have HN := H_ hn
  clear hn
  have HS := H_ (show golN p o t (n : Int) = offN (rchN p o t n) o by unfold golN; rw [HH.out]; rfl)
  have HA := H_ (offN_bits (rchN_lt p o t n) HO.out)
  go_enter Tryz.func178, Tryz.ntmps178
  go_wp2_with (first
    | (refine gr_box rfl _ rfl p o t rfl ?_; intro b1 w1 N R; have HB := H_ (HB.out.trans (N.below.mono HB.out.size)); have HR := H_ R; clear N R)
    | (refine step_get rfl 23 _ rfl b1 88 rfl Tryz.underlying23 rfl (.int .u64 (o : Int)) ?_ ?_; exact HR.out.own)
    | (go_at_call 179; refine (HHc.out _).mono ?_; rintro e w3 ⟨rfl, rfl⟩; ))
  refine late_begin 7 (by kernel_rfl) ?_
  refine lv 0 rfl ⟨_, fun w' hl => (run_gr _ rfl b1 rfl p o t (HR.out.later hl)), ?_⟩
  simp only [Act.put, pa, pb, pc]
  refine lw 1 rfl ?_
  simp only [Act.put, pa, pb, pc]
  refine lw 3 rfl ?_
  simp only [Act.put, pa, pb, pc]
  refine lv 4 rfl ⟨_, fun w' hl => (run_get 23 _ rfl b1 88 rfl Tryz.underlying23 rfl (.int .u64 (o : Int)) ((HR.out.later hl).own)), ?_⟩
  simp only [Act.put, pa, pb, pc]
  refine l1 2 rfl fun wn hl K hK => ?_
  have HR := H_ (HR.out.later hl); have HB := H_ (below_on HB.out hl); clear hl
  refine we ?_
  refine (ps_rch p o t n HN.out _ HP.out HO.out HT.out (HD.out.next HB.out) (HL.out.next HB.out)).mono ?_; rintro e wm ⟨rfl, hb⟩; refine ⟨_, rfl, ?_⟩
  refine hK.out _ _ hb ?_
  have HR := H_ (HR.out.later hb); have HB := H_ (below_on HB.out hb); clear hb
  clear hK K
  simp only [Act.put, pa, pb, pc]
  refine lv 5 rfl ⟨.int .u64 ((offN (rchN p o t n) o : Nat) : Int), fun w' hl => ?_, ?_⟩
  ·(go_simp; rw [HA.out])
  simp only [Act.put, pa, pb, pc]
  refine lw 6 rfl ?_
  simp only [Act.put, pa, pb, pc]
  refine late_end (by kernel_rfl) (fun wn hl => ?_)
  have HR := H_ (HR.out.later hl); have HB := H_ (below_on HB.out hl); clear hl
  go_wp2_with fail
  go_ret
  exact ⟨by rw [HS.out]; rfl, HB.out⟩
end Go.Proofs.YteblmnbagbdiiaaGreatDoor
