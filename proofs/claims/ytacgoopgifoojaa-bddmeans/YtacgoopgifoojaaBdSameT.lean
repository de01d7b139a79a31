/- Tables in memory; Same; at. -/
import Derived.Test.YtacgoopgifoojaaBdTab
import Derived.Test.YtacgoopgifoojaaBdFunW
namespace Go.Proofs.Ytacgoopgifoojaa
open Go.RowKit Go.Maps

/-- A list of bools that lies in memory. -/
structure BoolsAt (w : World) (g : Nat) (l : List Bool) : Prop where
  lt : g < w.heap.size
  cells : ∀ i (h : i < l.length), w.cell? ⟨g, i, none⟩ = some (.bool l[i])
theorem BoolsAt.kept {S : Nat → Prop} {w w' : World} {g : Nat} {l : List Bool} (h : BoolsAt w g l) (hk : Kept S w w') (hn : ¬ S g) : BoolsAt w' g l :=
  ⟨Nat.lt_of_lt_of_le h.lt hk.size, fun i hi => (hk.cell (a := ⟨g, i, none⟩) h.lt hn).trans (h.cells i hi)⟩
theorem BoolsAt.new {w w' : World} {g : Nat} {l : List Bool} (h : BoolsAt w g l) (hb : Below w.heap.size w w') : BoolsAt w' g l := h.kept (Kept.of_below hb (fun _ => False)) (fun h => h)

set_option maxRecDepth 100000 in
set_option maxHeartbeats 2000000 in
theorem same_any {w : World} {g1 g2 c1 c2 n : Nat} {l1 l2 : List Bool} (h1 : BoolsAt w g1 l1) (h2 : BoolsAt w g2 l2) (e1 : l1.length = n) (e2 : l2.length = n) (hn : n ≤ 1000) :
    Calls Try.prog 9 #[.slice (some ⟨g1, 0, none⟩) n c1, .slice (some ⟨g2, 0, none⟩) n c2] w fun e w' => e = .returned (.bool (decide (l1 = l2))) ∧ Below w.heap.size w w' := by
  have H1 := Lib.hid h1
  have H2 := Lib.hid h2
  have E1 := Lib.hid e1
  have E2 := Lib.hid e2
  clear h1 h2 e1 e2
  go_enter Try.func9, Try.ntmps9
  go_wp2_with fail
  go_loopw [8] (fun iV wr => ∃ k : Nat, k ≤ n ∧ iV = .int .i64 (k : Int) ∧ Below w.heap.size w wr ∧ l1.take k = l2.take k) (fun iV _ => n - (intOf iV).toNat)
  case atStart => exact ⟨0, Nat.zero_le _, rfl, Below.refl _ _, by simp⟩
  case round =>
    obtain ⟨k, hk, rfl, hb, ht⟩ := hrel
    by_cases hlt : k < n
    · have hk1 : k < l1.length := by rw [E1.out]; exact hlt
      have hk2 : k < l2.length := by rw [E2.out]; exact hlt
      have q1 := (hb.cell (p := ⟨g1, k, none⟩) H1.out.lt).trans (H1.out.cells k hk1)
      have q2 := (hb.cell (p := ⟨g2, k, none⟩) H2.out.lt).trans (H2.out.cells k hk2)
      have i1 : (k : Int) < (n : Int) := by omega
      have HT := Lib.hid ht
      have ts : Hid (l1[k] = l2[k] → l1.take (k + 1) = l2.take (k + 1)) := fun e => by
        rw [List.take_succ_eq_append_getElem hk1, List.take_succ_eq_append_getElem hk2, ht, e]
      have nt : Hid (l1[k] ≠ l2[k] → decide (l1 = l2) = false) := fun e => by
        rw [decide_eq_false_iff_not]; intro h; apply e; subst h; rfl
      clear ht
      generalize l1[k] = a at *
      generalize l2[k] = b at *
      by_cases e : a = b
      · subst e
        have eb : (a != a) = false := by simp
        have TS := Lib.hid (ts.out rfl)
        clear ts nt
        go_wp2_with fail
        go_quiet (fail)
        go_wp2
        go_roundw
        case rel => exact ⟨k + 1, by omega, by go_num, hb.trans (below_drewN _ _ _), TS.out⟩
        case measure => simp [intOf]; omega
      · have eb : (a == b) = false := by simpa using e
        have NT := Lib.hid (nt.out e)
        clear ts nt e
        go_wp2_with fail
        go_quiet (fail)
        go_wp2
        go_ret
        exact ⟨by rw [NT.out]; rfl, hb.trans (below_drewN _ _ _)⟩
    · obtain rfl : k = n := by omega
      have hfin : decide (l1 = l2) = true := by
        rw [decide_eq_true_iff]
        rw [List.take_of_length_le (by rw [E1.out]; exact Nat.le_refl _), List.take_of_length_le (by rw [E2.out]; exact Nat.le_refl _)] at ht
        exact ht
      have HFIN := Lib.hid hfin
      clear hfin ht
      go_wp2
      go_ret
      exact ⟨by rw [HFIN.out]; rfl, hb⟩

set_option maxRecDepth 100000 in
set_option maxHeartbeats 1000000 in
theorem rat_any (x : Int) (n : Nat) (h0 : 0 < n) (h1 : n ≤ 1000000) (w : World) :
    Calls Try.prog 41 #[.int .i64 x, .int .i64 (n : Int)] w fun e w' => e = .returned (.int .i64 (pickV x n : Int)) ∧ w = w' := by
  have hp := pickV_lt x h0
  have e1 : IntKind.u64.wrap x = x % 18446744073709551616 := by rw [IntKind.wrap_u64]
  have e2 : IntKind.u64.wrap (n : Int) = (n : Int) := IntWalk.u64_in _ ⟨by omega, by omega⟩
  have e3 : Int.tmod (x % 18446744073709551616) (n : Int) = (pickV x n : Int) := by
    unfold pickV
    obtain ⟨m, hm⟩ : ∃ m : Nat, x % 18446744073709551616 = (m : Int) := ⟨(x % 18446744073709551616).toNat, by omega⟩
    rw [hm]; simp
    rfl
  have e4 : IntKind.i64.wrap (pickV x n : Int) = (pickV x n : Int) := IntWalk.i64_in _ ⟨by omega, by omega⟩
  have e5 : ((n : Int) == 0) = false := by rw [beq_eq_false_iff_ne]; omega
  generalize pickV x n = p at *
  go_enter Try.func41, Try.ntmps41
  go_wp2
  go_ret
  exact ⟨rfl, rfl⟩
end Go.Proofs.Ytacgoopgifoojaa
