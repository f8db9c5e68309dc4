/-
  Contracts of the document's own Shift, Flip, Same.
-/
import Derived.Test.YtgodoipmnenohaaDoorStepRef
namespace Go.Proofs.YtgodoipmnenohaaDoor
open Go.RowKit

def U64Post (n : Nat) (w : World) (e : Ending) (w' : World) : Prop := e = .returned (.int .u64 (n : Int)) ∧ Below w.heap.size w w'

/-- The list lies in a block: its cells hold its numbers. -/
def Cells (B : Nat) (l : List Nat) (p : Option Addr) (w : World) : Prop :=
  0 < l.length → ∃ g, p = some ⟨g, 0, none⟩ ∧ B ≤ g ∧ g < w.heap.size ∧ ∀ k s, l[k]? = some s → w.cell? ⟨g, k, none⟩ = some (.int .i64 ((s : Nat) : Int)) ∧ w.frozen? ⟨g, k, none⟩ = false
theorem listed_open {B : Nat} {l : List Nat} {v : Value} {w : World} (h : Listed B l v w) : ∃ p cap, v = .slice p l.length cap ∧ Cells B l p w := by
  rcases h.2 with ⟨rfl, hn⟩ | ⟨g, cap, cur, rfl, hB, hg, h1, h2, h3, h4⟩
  · exact ⟨none, 0, by rw [hn], fun h0 => by omega⟩
  · refine ⟨_, cap, rfl, fun _ => ⟨g, rfl, hB, (Array.getElem?_eq_some_iff.1 hg).1, fun k s hk => ⟨?_, ?_⟩⟩⟩
    · have hc := h.cells (g := g) rfl k (.int .i64 ((s : Nat) : Int)) (by simp [rowOf, hk])
      have hadd : (⟨g, 0, none⟩ : Addr).add k = ⟨g, k, none⟩ := by unfold Addr.add; split <;> simp_all
      rwa [hadd] at hc
    · simp [World.frozen?, hg]
theorem Cells.later {B : Nat} {l : List Nat} {p : Option Addr} {w w' : World} (h : Cells B l p w) (hb : Below w.heap.size w w') : Cells B l p w' := by
  intro h0
  obtain ⟨g, h1, h2, h3, h4⟩ := h h0
  exact ⟨g, h1, h2, Nat.lt_of_lt_of_le h3 hb.size, fun k s hk => ⟨(hb.cell (p := ⟨g, k, none⟩) h3).trans (h4 k s hk).1, (hb.frozen (p := ⟨g, k, none⟩) h3).trans (h4 k s hk).2⟩⟩
theorem take_snoc {α : Type} (l : List α) (k : Nat) (s : α) (h : l[k]? = some s) : l.take (k + 1) = l.take k ++ [s] := by
  rw [List.take_add_one, h]; rfl
/-- The set after k rounds. -/
def accN (f : Int → Int) (l : List Nat) (k : Nat) : Nat := ofList ((l.take k).map fun i : Nat => f (i : Int))
theorem accN_lt (f : Int → Int) (l : List Nat) (k : Nat) : accN f l k < W64 := ofList_lt _
theorem accN_succ (f : Int → Int) (l : List Nat) (k s : Nat) (h : l[k]? = some s) : putN (accN f l k) (f (s : Int)) = accN f l (k + 1) := by
  unfold accN; rw [take_snoc l k s h, List.map_append, List.map_cons, List.map_nil, ofList_snoc]
theorem accN_all (f : Int → Int) (l : List Nat) : accN f l l.length = ofList (l.map fun i : Nat => f (i : Int)) := by
  unfold accN; rw [List.take_length]

theorem quiet_c {P : Program} {f : FuncId} {args : Array Value} {w : World} {n : Nat} {v : Value}
    (h : Calls P f args (w.drewN n) fun e w' => e = .returned v ∧ w.drewN n = w') : Calls P f args (w.drewN n) fun e w'' => e = .returned v ∧ ∃ m, w'' = w.drewN m :=
  h.mono fun _ _ ⟨he, hm⟩ => ⟨he, n, hm.symm⟩
theorem rflip_any (b : Nat) (w : World) (hb : b < W64) :
    Calls Tryd.prog 48 #[.int .u64 (b : Int)] w (U64Post (flipN b) w) := by
  have HB := Lib.hid hb
  clear hb
  go_enter Tryd.func48, Tryd.ntmps48
  go_wp2_with (go_at_call 19; refine (rlist_any _ _ HB.out).mono ?_; rintro e w1 ⟨v, rfl, hL, hb1⟩; obtain ⟨p, cap, rfl, hp⟩ := listed_open hL; have HP := Lib.hid hp; have HB1 := Lib.hid hb1; clear hL hp hb1)
  have hlen := listN_len b
  go_loopw [3, 5] (fun x i wr => ∃ k : Nat, k ≤ (listN b).length ∧ i = .int .i64 k ∧ x = .int .u64 (accN flipS (listN b) k : Nat) ∧ Below w1.heap.size w1 wr) (fun _ i _ => (listN b).length - (intOf i).toNat)
  case atStart => exact ⟨0, Nat.zero_le _, rfl, rfl, Below.refl _ _⟩
  case round =>
    obtain ⟨k, hk, rfl, rfl, hbel⟩ := hrel
    by_cases hlt : k < (listN b).length
    · obtain ⟨s, HS⟩ : ∃ s, Hid ((listN b)[k]? = some s) := ⟨_, Lib.hid (List.getElem?_eq_getElem hlt)⟩
      obtain ⟨g, rfl, hg1, hg2, hg3⟩ := (HP.out.later hbel) (by omega)
      have hc := (hg3 k s HS.out).1
      have hs : s < 64 := (mem_listN.1 (List.mem_of_getElem? HS.out)).1
      have HX := Lib.hid (accN_lt flipS (listN b) k)
      have HY := Lib.hid (accN_succ flipS (listN b) k s HS.out)
      have HBl := Lib.hid hbel
      clear hg3 hbel
      go_wp2
      go_quiet ((go_at_call 36; exact quiet_c (rput_any _ _ _ HX.out)))
      go_wp2
      go_roundw
      case rel => exact ⟨k + 1, by omega, by go_num, by rw [← HY.out]; rfl, below_drewN HBl.out _⟩
      case measure => simp [intOf]; omega
    · have HBl := Lib.hid hbel
      clear hbel
      go_wp2
      go_ret
      obtain rfl : k = (listN b).length := by omega
      exact ⟨ret_int (by rw [accN_all]; rfl), HB1.out.trans (HBl.out.mono HB1.out.size)⟩
end Go.Proofs.YtgodoipmnenohaaDoor
