/-
 Layer 17: positions that are the same but for clocks: the same moves, the same wins.
-/
import Derived.Test.YteblmnbagbdiiaaGreatDoorLgGrF
namespace Go.Proofs.YteblmnbagbdiiaaGreatDoor
open Go.RowKit
set_option linter.unusedVariables false
set_option linter.unusedSimpArgs false

def Agc (p q : Nat → Int) : Prop := ∀ i, i < 86 → q i = p i
theorem Agc.upd {p q : Nat → Int} (h : Agc p q) (j : Nat) (v : Int) : Agc (upd p j v) (upd q j v) := fun i hi => by
 by_cases e : i = j
 ·subst e; rw [upd_same, upd_same]
 ·rw [upd_other _ _ _ _ e, upd_other _ _ _ _ e]; exact h i hi
theorem Agc.ofN {p q : Nat → Int} (h : Agc p q) (c k : Int) : ofN q c k = ofN p c k := by
 apply eq_of_bits (ofN_lt _ _ _) (ofN_lt _ _ _)
 intro i hi
 rw [ofN_testBit _ _ _ _ hi, ofN_testBit _ _ _ _ hi, h _ (by omega)]
theorem Agc.occ {p q : Nat → Int} (h : Agc p q) : occN q = occN p := by
 unfold occN
 apply eq_of_bits (setN_lt _ _) (setN_lt _ _)
 intro i hi
 rw [setN_testBit _ _ i hi, setN_testBit _ _ i hi, h _ (by omega)]
theorem Agc.at {p q : Nat → Int} (h : Agc p q) (s : Int) : atZ q s = atZ p s := by
 unfold atZ
 by_cases g : sq s = true
 ·obtain ⟨n, hn, rfl⟩ := nat_of_sq g
  rw [Int.toNat_natCast, h _ (by omega)]
 ·rw [if_neg g, if_neg g]
theorem Agc.by {p q : Nat → Int} (h : Agc p q) (s c : Int) : byN q s c = byN p s c := by
 apply eq_of_bits (byN_lt _ _ _) (byN_lt _ _ _)
 intro i hi
 rw [byN_testBit _ _ _ _ hi, byN_testBit _ _ _ _ hi, h.occ, h _ (by omega)]
 unfold kdN
 rw [h _ (by omega)]
theorem Agc.v0 {p q : Nat → Int} (h : Agc p q) : q 0 = p 0 := h 0 (by decide)
theorem Agc.v78 {p q : Nat → Int} (h : Agc p q) : q 78 = p 78 := h 78 (by decide)
theorem Agc.bd {p q : Nat → Int} (h : Agc p q) (s : Int) : bdC q s = bdC p s := by
 unfold bdC anyB shelB
 rw [h.v78, h.v0, h.by, h.ofN]
theorem Agc.free {p q : Nat → Int} (h : Agc p q) (a b : Int) : freeC q a b = freeC p a b := by
 unfold freeC
 congr 1; funext s; rw [h.at]
theorem Agc.safe {p q : Nat → Int} (h : Agc p q) (a b : Int) : safeC q a b = safeC p a b := by
 unfold safeC
 congr 1; funext s; rw [h.bd]
theorem Agc.put {p q : Nat → Int} (h : Agc p q) (s x : Int) : Agc (putP p s x) (putP q s x) := by
 unfold putP
 cases putB s x
 ·exact h
 ·exact h.upd _ _
theorem Agc.bare {p q : Nat → Int} (h : Agc p q) (a b : Int) : Agc (bareC p a b) (bareC q a b) := (h.put a 0).put b 0
theorem Agc.may {p q : Nat → Int} (h : Agc p q) (m : Mv) : mayC q m = mayC p m := by
 unfold mayC
 rw [h.v78, (h.bare _ _).free, (h.bare _ _).free, (h.bare _ _).safe]
theorem Agc.king {p q : Nat → Int} (h : Agc p q) (c : Int) : kingZ q c = kingZ p c := by unfold kingZ; rw [h.ofN]
theorem Agc.chk {p q : Nat → Int} (h : Agc p q) (c : Int) : chkB q c = chkB p c := by unfold chkB anyB shelB; rw [h.king, h.v0, h.by, h.ofN]
theorem Agc.cam {p q : Nat → Int} (h : Agc p q) : camL q = camL p := by
 unfold camL
 have e : thC q = thC p := by unfold thC; rw [h.v78, h.v0]
 rw [e]
 cases g : thC p
 ·rfl
 ·have ht : p 78 ≤ 1 := by unfold thC at g; rw [Bool.and_eq_true, decide_eq_true_eq] at g; exact g.1
  have one : ∀ n, n < 2 → oneC q n = oneC p n := fun n hn => by
   have hf : flC q n = flC p n := by unfold flC; rw [h.v78]; exact h _ (by omega)
   have hm : mvC q n = mvC p n := by unfold mvC; rw [h.v78, h.king, hf]
   unfold oneC inC namC flB
   rw [hm, h.may, hf, h.v78, h.ofN]
  rw [one 1 (by decide), one 0 (by decide)]
theorem Agc.own {p q : Nat → Int} (h : Agc p q) : ownN q = ownN p := by unfold ownN vrB; rw [h.v0, h.v78, h.ofN]
theorem Agc.the {p q : Nat → Int} (h : Agc p q) : theN q = theN p := by unfold theN vrB; rw [h.v0, h.v78, h.ofN]
theorem Agc.rch {p q : Nat → Int} (h : Agc p q) (o t n : Nat) : rchN q o t n = rchN p o t n := by
 have h1 : knP q (n : Int) = knP p (n : Int) := by unfold knP; rw [h.at]
 have h2 : ahN q o t n = ahN p o t n := by unfold ahN mayB onceN stpN dirZ; rw [h.v0, h.v78]
 have h3 : asN q t n = asN p t n := by unfold asN; rw [h.v78, h 83 (by decide)]
 have h4 : kgN q t n = kgN p t n := by unfold kgN; rw [h.v0]
 unfold rchN
 rw [h1, h2, h3, h4]
theorem Agc.mvs {p q : Nat → Int} (h : Agc p q) (o t : Nat) (s : Int) : mvsL q o t s = mvsL p o t s := by
 have h1 : golN q o t s = golN p o t s := by unfold golN; rw [h.rch]
 have h2 : mvO q s = mvO p s := by
  funext b
  unfold mvO becL knP
  rw [h.at, h.v78, h.v0]
 unfold mvsL
 rw [h1, h2]
theorem Agc.all {p q : Nat → Int} (h : Agc p q) : allL q = allL p := by
 unfold allL
 rw [h.own, h.the]
 congr 1; funext a; exact h.mvs _ _ _
theorem Agc.tak {p q : Nat → Int} (h : Agc p q) (m : Mv) : takZ q m = takZ p m := by
 unfold takZ tkZ knP
 rw [h.own, h.the, h.mvs, h.at, h 83 (by decide)]
theorem Agc.hel {p q : Nat → Int} (h : Agc p q) (c k : Int) : helC q c k = helC p c k := by
 unfold helC
 cases g : hasP c k
 ·rfl
 ·unfold hasP at g
  simp only [Bool.and_eq_true, decide_eq_true_eq] at g
  exact h _ (by unfold pkJ; omega)
theorem Agc.dr {p q : Nat → Int} (h : Agc p q) : drL q = drL p := (drL_same (fun i hi => (h i (by omega)).symm) h.v78.symm (fun k hk => (h.hel _ _).symm)).symm
theorem Agc.af {p q : Nat → Int} (h : Agc p q) : afL q = afL p := by unfold afL; rw [h.all, h.cam, h.dr]
theorem Agc.mov {p q : Nat → Int} (h : Agc p q) (m : Mv) : movB q m = movB p m := by unfold movB sorL; rw [h.all, h.cam, h.dr]
theorem Agc.beg {p q : Nat → Int} (h : Agc p q) (m : Mv) : begA q m = begA p m := by unfold begA; rw [h.at, h.at, h.tak, h.v78]
theorem Agc.take {p q : Nat → Int} (h : Agc p q) (c k : Int) : Agc (takP p c k) (takP q c k) := by
 unfold takP
 rw [h.hel]
 cases g : helC p c k == 0
 ·have hh : hasP c k = true := by
   cases e : hasP c k
   ·unfold helC at g; rw [e] at g; cases g
   ·rfl
  unfold hasP at hh
  simp only [Bool.and_eq_true, decide_eq_true_eq] at hh
  show Agc (Go.Proofs.YteblmnbagbdiiaaGreatDoor.upd p _ _) (Go.Proofs.YteblmnbagbdiiaaGreatDoor.upd q _ _)
  rw [h _ (by unfold pkJ; omega)]
  exact h.upd _ _
 ·exact h
theorem Agc.add {p q : Nat → Int} (h : Agc p q) (c k : Int) : Agc (addP p c k) (addP q c k) := by
 unfold addP
 cases hh : hasP c k
 ·exact h
 ·unfold hasP at hh
  simp only [Bool.and_eq_true, decide_eq_true_eq] at hh
  rw [h (pkJ c k) (by unfold pkJ; omega)]
  cases (true && decide (p (pkJ c k) < 255))
  ·exact h
  ·exact h.upd _ _
theorem Agc.arr {p q : Nat → Int} (h : Agc p q) (c : Ch) : arrZ q c = arrZ p c := by unfold arrZ; rw [h.v78]
theorem Agc.men {p q : Nat → Int} (h : Agc p q) (c : Ch) : Agc (menA p c) (menA q c) := by
 unfold menA casA kgA rkA sdA
 rw [h.v78, h.arr]
 cases c.m.ca
 ·cases c.m.dr == 0
  ·exact (h.take _ _).put _ _
  ·exact ((h.put _ _).put _ _).put _ _
 ·exact (((h.put _ _).put _ _).put _ _).put _ _
theorem Agc.pro {p q : Nat → Int} (h : Agc p q) : proN q = proN p := by unfold proN; rw [h 65 (by decide)]
theorem Agc.prU {p q : Nat → Int} (h : Agc p q) (n : Nat) : Agc (prU p n) (prU q n) := h.upd _ _
theorem Agc.mar {p q : Nat → Int} (h : Agc p q) (s : Int) : Agc (markA p s) (markA q s) := by unfold markA; rw [h.pro]; exact h.prU _
theorem Agc.unm {p q : Nat → Int} (h : Agc p q) (s : Int) : Agc (unmA p s) (unmA q s) := by unfold unmA; rw [h.pro]; exact h.prU _
theorem Agc.poc {p q : Nat → Int} (h : Agc p q) (c : Ch) : Agc (pocA p c) (pocA q c) := by
 have hk : kepZ q c = kepZ p c := by unfold kepZ; rw [h.pro]
 unfold pocA
 rw [h.v0, h.v78, hk]
 cases p 0 == 2
 ·exact h
 ·cases c.m.dr == 0
  ·exact h
  ·cases c.m.ca
   ·have ha := h.add (p 78) (kepZ p c)
    show Agc (carM _ c) (carM _ c)
    unfold carM
    rw [ha.pro]
    cases (hasN (proN (addP p (p 78) (kepZ p c))) c.m.f || !(c.m.pr == 0))
    ·exact (ha.unm _).unm _
    ·exact ((ha.unm _).unm _).mar _
   ·show Agc (carR p c) (carR q c)
    unfold carR rkA sdA
    rw [h.pro, h.v78]
    cases hasN (proN p) c.m.t
    ·exact h
    ·exact (h.unm _).mar _
theorem Agc.clr : ∀ (l : List Nat) {p q : Nat → Int}, Agc p q → Agc (clrL p l) (clrL q l)
 | [], _, _, h => h
 | s :: l, _, _, h => Agc.clr l (h.put _ _)
theorem Agc.bla {p q : Nat → Int} (h : Agc p q) (c : Ch) : Agc (blaA p c) (blaA q c) := by
 unfold blaA blwN pawP
 rw [h.v0, h.occ, h.ofN, h.ofN]
 cases ((p 0 == 3) && !(c.k == -1))
 ·exact h
 ·exact Agc.clr _ h
theorem Agc.rg {p q : Nat → Int} (h : Agc p q) (k c : Int) {i : Nat} (hi : i < 86) : Agc (rgA p k c i) (rgA q k c i) := by
 unfold rgA keeB kinH
 rw [h i hi, h.king, h.at]
 cases (decide (0 ≤ p i) && decide (p i < 8) && (!(hmC c + p i == k) && (decide (hmC c ≤ kingZ p c) && decide (kingZ p c < hmC c + 8) && (atZ p (hmC c + p i) == mkZ c 4))))
 ·exact h.upd _ _
 ·exact h
theorem Agc.rig {p q : Nat → Int} (h : Agc p q) (c : Ch) : Agc (rigA p c) (rigA q c) := by
 have hn : Agc (noK p c) (noK q c) := by
  unfold noK noR
  rw [h.v78]
  cases kndZ c.x == 6
  ·exact h
  ·cases p 78 == 0
   ·exact (h.upd _ _).upd _ _
   ·exact (h.upd _ _).upd _ _
 exact (((hn.rg _ _ (by decide)).rg _ _ (by decide)).rg _ _ (by decide)).rg _ _ (by decide)
theorem Agc.pas {p q : Nat → Int} (h : Agc p q) (c : Ch) : Agc (pasA p c) (pasA q c) := by
 have h1 := h.upd 83 (-1)
 have e : pasB (Go.Proofs.YteblmnbagbdiiaaGreatDoor.upd q 83 (-1)) c = pasB (Go.Proofs.YteblmnbagbdiiaaGreatDoor.upd p 83 (-1)) c := by
  unfold pasB strB'
  rw [h1.v78, h1.by, h1.ofN]
 unfold pasA
 rw [e]
 cases pasB (Go.Proofs.YteblmnbagbdiiaaGreatDoor.upd p 83 (-1)) c
 ·exact h1
 ·exact h1.upd _ _
theorem Agc.clo {p q : Nat → Int} (h : Agc p q) (c : Ch) : Agc (cloA p c) (cloA q c) := fun i hi => by
 rw [clo_out c hi, clo_out c hi]; exact h i hi
theorem Agc.tur {p q : Nat → Int} (h : Agc p q) (ht : p 78 = 0 ∨ p 78 = 1) : Agc (turA p) (turA q) := by
 unfold turA
 rw [h.v78, h.v0]
 have h1 := h.upd 78 (oth (p 78))
 rw [h1.chk]
 cases (p 0 == 5) && chkB (Go.Proofs.YteblmnbagbdiiaaGreatDoor.upd p 78 (oth (p 78))) (oth (p 78))
 ·exact h1
 ·show Agc (Go.Proofs.YteblmnbagbdiiaaGreatDoor.upd _ _ _) (Go.Proofs.YteblmnbagbdiiaaGreatDoor.upd _ _ _)
  rw [h (84 + (p 78).toNat) (by omega)]
  exact h1.upd _ _
theorem Agc.movP {p q : Nat → Int} (h : Agc p q) (hp : WfP p) (m : Mv) : Agc (movP p m) (movP q m) := by
 unfold Go.Proofs.YteblmnbagbdiiaaGreatDoor.movP
 rw [h.mov, h.beg]
 cases e : movB p m
 ·exact h
 ·have hc := chR_of hp e
  refine ((((((h.men _).poc _).bla _).rig _).pas _).clo _).tur ?_
  rw [six_out hc (Or.inr rfl)]
  exact hc.turn
theorem Agc.hk {p q : Nat → Int} (h : Agc p q) (c : Int) : hkB q c = hkB p c := by unfold hkB; rw [h.king]
theorem Agc.ok {p q : Nat → Int} (h : Agc p q) : okL q = okL p := by unfold okL safL; rw [h.v78, h.v0, h.hk, h.hk, h.chk, h.chk]
theorem Agc.wel {p q : Nat → Int} (h : Agc p q) (hp : WfP p) (m : Mv) : welL q m = welL p m := by unfold welL; rw [h.mov, (h.movP hp m).ok]
theorem Agc.tkw {p q : Nat → Int} (h : Agc p q) (hp : WfP p) (m : Mv) : tkwL q m = tkwL p m := by unfold tkwL; rw [h.tak, h.wel hp]
theorem Agc.wou {p q : Nat → Int} (h : Agc p q) (hp : WfP p) : wouL q = wouL p := by
 have h1 : tkwL q = tkwL p := funext fun m => h.tkw hp m
 have h2 : welL q = welL p := funext fun m => h.wel hp m
 have h3 : antL q = antL p := by unfold antL; rw [h.v0, h.af, h1]
 have h4 : wanL q = wanL p := by funext m; unfold wanL; rw [h3, h1, h2]
 unfold wouL
 rw [h.af, h4]
theorem Agc.won {p q : Nat → Int} (h : Agc p q) (hp : WfP p) : wonZ q = wonZ p := by
 have hm : ∀ c, menB q c = menB p c := fun c => by unfold menB; rw [h.ofN]
 have hg : ∀ c, goaB q c = goaB p c := fun c => by unfold goaB; rw [h.king]
 have hc : comB q = comB p := by
  unfold comB
  rw [h.v78, h.wou hp]
  congr 2; funext m
  unfold goaB; rw [(h.movP hp m).king]
 have hr : racZ q = racZ p := by unfold racZ; rw [hg, hg, hc]
 have hm' : (fun c => !menB q c) = fun c => !menB p c := funext fun c => by rw [hm]
 have hh' : (fun c => hilB (kingZ q c)) = fun c => hilB (kingZ p c) := funext fun c => by rw [h.king]
 unfold wonZ
 rw [h.v0, h.v78]
 cases e : decide (9 ≤ p 0) || decide (1 < p 78)
 ·have ht : p 78 ≤ 1 := by
   rw [Bool.or_eq_false_iff] at e
   have := of_decide_eq_false e.2; omega
  have hx : firZ (oth (p 78)) 7 (fun c => decide (3 ≤ q (84 + c.toNat))) = firZ (oth (p 78)) 7 (fun c => decide (3 ≤ p (84 + c.toNat))) := by
   have ht0 : 0 ≤ p 78 := (AtR.of hp).turn.1
   have ho : (oth (p 78)).toNat < 2 ∧ (oth (oth (p 78))).toNat < 2 := by unfold oth; omega
   have e1 : q (84 + (oth (p 78)).toNat) = p (84 + (oth (p 78)).toNat) := h _ (by omega)
   have e2 : q (84 + (oth (oth (p 78))).toNat) = p (84 + (oth (oth (p 78))).toNat) := h _ (by omega)
   unfold firZ
   simp only [e1, e2]
  rw [cond_false, cond_false]
  unfold winZ
  rw [h.v0, h.v78, h.hk, hm', hx, hh', hm, hr]
 ·rw [cond_true, cond_true]
theorem Agc.ls {p q : Nat → Int} (h : Agc p q) (hp : WfP p) : lsL q = lsL p := by unfold lsL; rw [h.won hp, h.wou hp]
end Go.Proofs.YteblmnbagbdiiaaGreatDoor
