/- What is told of families that there are not: the law's facts. -/
import Derived.Test.YtbklgjmkdhinpaaGreatDoorFmEMake
import Derived.Test.YtbklgjmkdhinpaaGreatDoorErBare
set_option maxHeartbeats 1000000
set_option maxRecDepth 100000
namespace Go.Proofs.YtbklgjmkdhinpaaGreatDoor.Fm
open Go.RowKit Go.Maps Go.Proofs.YtbklgjmkdhinpaaGreatDoor.Bd
def errV (E : Int) : Value := if E = 0 then .nilIface else .iface 42 (.int .i64 E)
def eH (h : Int) : Int := if h = 0 \/ h = 1 then 0 else 7
theorem errV_zero : errV 0 = .nilIface := rfl
theorem errV_n {n : Int} (h : n ≠ 0) : errV n = .iface 42 (.int .i64 n) := if_neg h
theorem has_ends (h : Int) : hasB [] h = true ↔ (h = 0 \/ h = 1) := by
 unfold hasB
 have : topOf [] h = 24 := by unfold topOf; simp; intro h1 h2; omega
 simp [this]
theorem eH_yes {h : Int} (hh : h = 0 \/ h = 1) : errV (eH h) = .nilIface := by unfold eH; rw [if_pos hh]; rfl
theorem eH_no {h : Int} (hh : ¬ (h = 0 \/ h = 1)) : errV (eH h) = .iface 42 (.int .i64 7) := by unfold eH; rw [if_neg hh]; rfl
section
variable {B s b : Nat} {O : Nat -> Prop} {vars room : Nat} {w : World}
theorem ends_or (hF : FamAt B w s b O vars room []) (h : Int) (hi : I64 h) :
  Calls Tryz.prog 15 #[.pointer (some ⟨s, 0, none⟩), .int .i64 h, .int .i64 h] w fun e w' => ∃ x, e = .returned (.tuple #[.int .i64 x, errV (eH h)]) /\ Below w.heap.size w w' := by
 by_cases hh : h = 0 \/ h = 1
 ·rw [eH_yes hh]
  have hs := (has_ends h).2 hh
  exact (or_e (asked_once mkb_or (fun _ _ => by kernel_rfl) hF hs hs (x := h) (by rcases hh with rfl | rfl <;> rfl))).mono fun e w' ⟨h1, h2⟩ => ⟨_, h1, h2⟩
 ·rw [eH_no hh]
  exact (or_e (asked_no hF 42 hi hi (fun hn => hh ((has_ends h).1 hn.1)))).mono fun e w' ⟨h1, h2⟩ => ⟨_, h1, h2⟩
theorem ends_and (hF : FamAt B w s b O vars room []) (h : Int) (hi : I64 h) :
  Calls Tryz.prog 16 #[.pointer (some ⟨s, 0, none⟩), .int .i64 1, .int .i64 h] w fun e w' => ∃ x, e = .returned (.tuple #[.int .i64 x, errV (eH h)]) /\ Below w.heap.size w w' := by
 by_cases hh : h = 0 \/ h = 1
 ·rw [eH_yes hh]
  have hs := (has_ends h).2 hh
  exact (and_e (asked_once mkb_and (fun _ _ => by kernel_rfl) hF (end_has1 []) hs (x := h) (by rcases hh with rfl | rfl <;> rfl))).mono fun e w' ⟨h1, h2⟩ => ⟨_, h1, h2⟩
 ·rw [eH_no hh]
  exact (and_e (asked_no hF 43 ⟨by decide, by decide⟩ hi (fun hn => hh ((has_ends h).1 hn.2)))).mono fun e w' ⟨h1, h2⟩ => ⟨_, h1, h2⟩
theorem ends_less (hF : FamAt B w s b O vars room []) (h : Int) (hi : I64 h) :
  Calls Tryz.prog 17 #[.pointer (some ⟨s, 0, none⟩), .int .i64 h, .int .i64 1] w fun e w' => ∃ x, e = .returned (.tuple #[.int .i64 x, errV (eH h)]) /\ Below w.heap.size w w' := by
 by_cases hh : h = 0 \/ h = 1
 ·rw [eH_yes hh]
  have hs := (has_ends h).2 hh
  exact (less_e (asked_once mkb_less (fun _ _ => by kernel_rfl) hF hs (end_has1 []) (x := 0) (by rcases hh with rfl | rfl <;> rfl))).mono fun e w' ⟨h1, h2⟩ => ⟨_, h1, h2⟩
 ·rw [eH_no hh]
  exact (less_e (asked_no hF 44 hi ⟨by decide, by decide⟩ (fun hn => hh ((has_ends h).1 hn.1)))).mono fun e w' ⟨h1, h2⟩ => ⟨_, h1, h2⟩
theorem ends_join (hF : FamAt B w s b O vars room []) (h : Int) (hi : I64 h) :
  Calls Tryz.prog 18 #[.pointer (some ⟨s, 0, none⟩), .int .i64 1, .int .i64 h] w fun e w' => ∃ x, e = .returned (.tuple #[.int .i64 x, errV (eH h)]) /\ Below w.heap.size w w' := by
 by_cases hh : h = 0 \/ h = 1
 ·rw [eH_yes hh]
  have hs := (has_ends h).2 hh
  exact (join_e (asked_once mkb_join (fun _ _ => by kernel_rfl) hF (end_has1 []) hs (x := h) (by rcases hh with rfl | rfl <;> rfl))).mono fun e w' ⟨h1, h2⟩ => ⟨_, h1, h2⟩
 ·rw [eH_no hh]
  exact (join_e (asked_no hF 45 ⟨by decide, by decide⟩ hi (fun hn => hh ((has_ends h).1 hn.2)))).mono fun e w' ⟨h1, h2⟩ => ⟨_, h1, h2⟩
theorem ends_without (hF : FamAt B w s b O vars room []) (h : Int) (hi : I64 h) :
  Calls Tryz.prog 19 #[.pointer (some ⟨s, 0, none⟩), .int .i64 h, .int .i64 h] w fun e w' => ∃ x, e = .returned (.tuple #[.int .i64 x, errV (eH h)]) /\ Below w.heap.size w w' := by
 by_cases hh : h = 0 \/ h = 1
 ·rw [eH_yes hh]
  have hs := (has_ends h).2 hh
  exact (without_e (asked_once mkb_without (fun _ _ => by kernel_rfl) hF hs hs (x := 0) (by rcases hh with rfl | rfl <;> rfl))).mono fun e w' ⟨h1, h2⟩ => ⟨_, h1, h2⟩
 ·rw [eH_no hh]
  exact (without_e (asked_no hF 46 hi hi (fun hn => hh ((has_ends h).1 hn.1)))).mono fun e w' ⟨h1, h2⟩ => ⟨_, h1, h2⟩
theorem ends_least (hF : FamAt B w s b O vars room []) (h : Int) (hi : I64 h) :
  Calls Tryz.prog 20 #[.pointer (some ⟨s, 0, none⟩), .int .i64 h] w fun e w' => ∃ x, e = .returned (.tuple #[.int .i64 x, errV (eH h)]) /\ Below w.heap.size w w' := by
 by_cases hh : h = 0 \/ h = 1
 ·rw [eH_yes hh]
  have hs := (has_ends h).2 hh
  exact (least_e (asked_once mkb_least (fun _ _ => by kernel_rfl) hF hs (end_has0 []) (x := h) (by rcases hh with rfl | rfl <;> rfl))).mono fun e w' ⟨h1, h2⟩ => ⟨_, h1, h2⟩
 ·rw [eH_no hh]
  exact (least_e (asked_no hF 47 hi ⟨by decide, by decide⟩ (fun hn => hh ((has_ends h).1 hn.1)))).mono fun e w' ⟨h1, h2⟩ => ⟨_, h1, h2⟩
theorem ends_nsN {h : Int} (hh : h = 0 \/ h = 1) : nsN [] h <= 1 := by rcases hh with rfl | rfl <;> decide
theorem ends_hits (hF : FamAt B w s b O vars room []) (h : Int) (hi : I64 h) :
  Calls Tryz.prog 21 #[.pointer (some ⟨s, 0, none⟩), .int .i64 h] w fun e w' => ∃ x, e = .returned (.tuple #[.int .i64 x, errV (eH h)]) /\ Below w.heap.size w w' := by
 by_cases hh : h = 0 \/ h = 1
 ·rw [eH_yes hh]
  have hn := ends_nsN hh
  exact (hits_once hF ((has_ends h).2 hh) (by omega) (x := 1 - h) (by rcases hh with rfl | rfl <;> rfl)).mono fun e w' ⟨h1, h2⟩ => ⟨_, h1, h2⟩
 ·rw [eH_no hh]
  exact (hits_no hF h hi (fun hn => hh ((has_ends h).1 hn))).mono fun e w' ⟨h1, h2⟩ => ⟨_, h1, h2⟩
theorem ends_count (hF : FamAt B w s b O vars room []) (h : Int) (hi : I64 h) :
  Calls Tryz.prog 8 #[.pointer (some ⟨s, 0, none⟩), .int .i64 h] w fun e w' => ∃ a n c, e = .returned (.tuple #[.agg #[.slice a n c], errV (eH h)]) /\ Below w.heap.size w w' := by
 by_cases hh : h = 0 \/ h = 1
 ·rw [eH_yes hh]
  refine (count_any w hF h ((has_ends h).2 hh)).mono ?_
  rintro e w' ⟨v, rfl, ⟨x, rfl, -⟩, hb⟩
  exact ⟨_, _, _, rfl, hb⟩
 ·rw [eH_no hh]
  exact (count_no hF h hi (fun hn => hh ((has_ends h).1 hn))).mono fun e w' ⟨h1, h2⟩ => ⟨_, _, _, h1, h2⟩
theorem ends_list (hF : FamAt B w s b O vars room []) (h : Int) (hi : I64 h) :
  Calls Tryz.prog 7 #[.pointer (some ⟨s, 0, none⟩), .int .i64 h, .int .i64 5] w fun e w' => ∃ a n c, e = .returned (.tuple #[.slice a n c, errV (eH h)]) /\ Below w.heap.size w w' := by
 by_cases hh : h = 0 \/ h = 1
 ·rw [eH_yes hh]
  have hn := ends_nsN hh
  refine (list_few w hF h ((has_ends h).2 hh) 5 (by omega) (by omega)).mono ?_
  rintro e w' ⟨L, a, c, rfl, -, -, -, -, hb⟩
  exact ⟨_, _, _, rfl, hb⟩
 ·rw [eH_no hh]
  exact (list_no hF h hi (fun hn => hh ((has_ends h).1 hn)) 5).mono fun e w' ⟨h1, h2⟩ => ⟨_, _, _, h1, h2⟩
def eIn (vars : Nat) (h : Int) (x : Nat) : Int := if h = 0 \/ h = 1 then (if x < 2 ^ vars then 0 else 2) else 7
theorem ends_in (hF : FamAt B w s b O vars room []) (h : Int) (hi : I64 h) (x : Nat) (hx64 : x < 2 ^ 64) :
  Calls Tryz.prog 13 #[.pointer (some ⟨s, 0, none⟩), .int .i64 h, .int .u64 (x : Int)] w fun e w' => ∃ y, e = .returned (.tuple #[.bool y, errV (eIn vars h x)]) /\ Below w.heap.size w w' := by
 unfold eIn
 by_cases hh : h = 0 \/ h = 1
 ·rw [if_pos hh]
  by_cases hx : x < 2 ^ vars
  ·rw [if_pos hx]
   exact (in_any hF h ((has_ends h).2 hh) x hx).mono fun e w' ⟨h1, h2⟩ => ⟨_, h1, h2⟩
  ·rw [if_neg hx]
   exact (in_bad hF h ((has_ends h).2 hh) x hx hx64).mono fun e w' ⟨h1, h2⟩ => ⟨_, h1, h2⟩
 ·rw [if_neg hh]
  exact (in_no hF h hi (fun hn => hh ((has_ends h).1 hn)) x).mono fun e w' ⟨h1, h2⟩ => ⟨_, h1, h2⟩
end
section
variable {w : World}
theorem bare_it (hg : Glob w) (E : Int) : Calls Tryz.prog 9 #[errV E, .int .i64 E] w fun e w' => e = .returned (.bool true) /\ Below w.heap.size w w' := by
 by_cases hE : E = 0
 ·subst hE
  rw [errV_zero]
  have := bare_nil 0 w
  simpa using this
 ·rw [errV_n hE]
  have := bare_errno E E w hg
  simpa using this
theorem is_yes (hg : Glob w) (E : Int) (bx : Nat) : Calls Tryz.prog 22 #[errV E, .int .i64 E, .pointer (some ⟨bx, 0, none⟩)] w fun e w' => e = .returned (.bool true) /\ Below w.heap.size w w' := by
 have HB := Lib.hid (bare_it hg E)
 generalize errV E = ev at *
 go_enter Tryz.func22, Tryz.ntmps22
 go_wp2_with fail
 refine HB.out.mono ?_
 rintro e w1 ⟨rfl, hb1⟩
 go_wp2
 go_ret
 exact ⟨rfl, hb1⟩
theorem is_full (hg : Glob w) (bx : Nat) (hbx : w.cell? ⟨bx, 0, none⟩ = some (.bool false)) (hbl : bx < w.heap.size) : Calls Tryz.prog 22 #[.iface 42 (.int .i64 12), .int .i64 0, .pointer (some ⟨bx, 0, none⟩)] w fun e w' => e = .returned (.bool true) /\ Below w.heap.size w w' := by
 have HB := Lib.hid (bare_errno 12 0 w hg)
 have HG := Lib.hid hg
 clear hg
 go_enter Tryz.func22, Tryz.ntmps22
 go_wp2_with fail
 refine HB.out.mono ?_
 rintro e w1 ⟨rfl, hb1⟩
 have c1 := (hb1.cell (p := ⟨bx, 0, none⟩) hbl).trans hbx
 have HB2 := Lib.hid (bare_errno 12 12 w1 (HG.out.below hb1))
 have HB1 := Lib.hid hb1
 clear hb1 HB HG hbx
 go_wp2_with fail
 refine HB2.out.mono ?_
 rintro e w2 ⟨rfl, hb2⟩
 have hb3 := HB1.out.trans (hb2.mono HB1.out.size)
 go_wp2
 go_ret
 exact ⟨rfl, hb3⟩
end
end Go.Proofs.YtbklgjmkdhinpaaGreatDoor.Fm
