/- The contracts once more, of numbers: what a Nat's value is. -/
import Derived.Test.YtfangnjdfmaaoaaDoorText
import Derived.Test.YtfangnjdfmaaoaaDoorAdd
import Derived.Test.YtfangnjdfmaaoaaDoorSub
import Derived.Test.YtfangnjdfmaaoaaDoorMul
import Derived.Test.YtfangnjdfmaaoaaDoorDouble
import Derived.Test.YtfangnjdfmaaoaaDoorParse
namespace Go.Proofs.YtfangnjdfmaaoaaDoor
open Go.RowKit Num Go.Sort Go.PlainAid

/-- v is the number n, in one form, of at most L digits. -/
def NatIs (w : World) (v : Value) (n L : Nat) : Prop := ∃ ds, Dig .u64 w v ds ∧ Norm 1000000000 ds ∧ val 1000000000 ds = n ∧ ds.length ≤ L

theorem NatIs.below {w w' : World} {v : Value} {n L : Nat} (h : NatIs w v n L) (hb : Below w.heap.size w w') : NatIs w' v n L := by
  obtain ⟨ds, h1, h2, h3, h4⟩ := h
  exact ⟨ds, h1.below hb, h2, h3, h4⟩
theorem NatIs.form {w : World} {v : Value} {n L : Nat} (h : NatIs w v n L) : ∃ a k c, v = .slice a k c := by
  obtain ⟨ds, ⟨a, c, hv, -⟩, -⟩ := h
  exact ⟨a, _, c, hv⟩

theorem NatIs.cast {w : World} {v : Value} {n m L : Nat} (h : NatIs w v n L) (e : n = m) : NatIs w v m L := e ▸ h

theorem of_nat (n : Int) (w : World) (h0 : -9223372036854775808 ≤ n) (h1 : n ≤ 9223372036854775807) :
    Calls Tryd.prog 28 #[.int .i64 n] w fun e w' => ∃ v, e = .returned (.agg #[v]) ∧ NatIs w' v n.toNat 3 ∧ Below w.heap.size w w' := by
  refine (of_any n w h0 h1).mono ?_
  rintro e w' ⟨v, rfl, ds, hd, hn, hv, hb⟩
  exact ⟨v, rfl, ⟨ds, hd, hn, hv, norm_len (by omega) hn (by rw [hv]; omega)⟩, hb⟩

theorem add_nat {va vb : Value} {x y L M : Nat} {w : World} (ha : NatIs w va x L) (hb : NatIs w vb y M) (hL : L ≤ 5000) (hM : M ≤ 5000) :
    Calls Tryd.prog 22 #[.agg #[va], .agg #[vb]] w fun e w' => ∃ v, e = .returned (.agg #[v]) ∧ NatIs w' v (x + y) (L + M + 1) ∧ Below w.heap.size w w' := by
  obtain ⟨a, a1, a2, a3, a4⟩ := ha
  obtain ⟨b, b1, b2, b3, b4⟩ := hb
  refine (add_any va vb a b w a1 b1 a2.small b2.small (by omega) (by omega)).mono ?_
  rintro e w' ⟨v, rfl, ds, hd, hn, hv, hl, hb⟩
  exact ⟨v, rfl, ⟨ds, hd, hn, by rw [hv, a3, b3], by omega⟩, hb⟩

theorem mul_nat {va vb : Value} {x y L M : Nat} {w : World} (ha : NatIs w va x L) (hb : NatIs w vb y M) (hL : L ≤ 5000) (hM : M ≤ 5000) :
    Calls Tryd.prog 24 #[.agg #[va], .agg #[vb]] w fun e w' => ∃ v, e = .returned (.agg #[v]) ∧ NatIs w' v (x * y) (L + M) ∧ Below w.heap.size w w' := by
  obtain ⟨a, a1, a2, a3, a4⟩ := ha
  obtain ⟨b, b1, b2, b3, b4⟩ := hb
  refine (mul_any va vb a b w a1 b1 a2.small b2.small (by omega) (by omega)).mono ?_
  rintro e w' ⟨v, rfl, ds, hd, hn, hv, hl, hb⟩
  exact ⟨v, rfl, ⟨ds, hd, hn, by rw [hv, a3, b3], by omega⟩, hb⟩

theorem sub_nat {va vb : Value} {x y L M : Nat} {w : World} (ha : NatIs w va x L) (hb : NatIs w vb y M) (hL : L ≤ 5000) (hM : M ≤ 5000) (hge : y ≤ x) :
    Calls Tryd.prog 17 #[.agg #[va], .agg #[vb]] w fun e w' => ∃ v, e = .returned (.tuple #[.agg #[v], .nilIface]) ∧ NatIs w' v (x - y) L ∧ Below w.heap.size w w' := by
  obtain ⟨a, a1, a2, a3, a4⟩ := ha
  obtain ⟨b, b1, b2, b3, b4⟩ := hb
  refine (sub_yes va vb a b w a1 b1 a2.small b2 (by omega) (by omega) (by omega)).mono ?_
  rintro e w' ⟨v, rfl, ds, hd, hn, hv, hl, hb⟩
  exact ⟨v, rfl, ⟨ds, hd, hn, by rw [hv, a3, b3], by omega⟩, hb⟩

theorem sub_nat_no {va vb : Value} {x y L M : Nat} {w : World} (ha : NatIs w va x L) (hb : NatIs w vb y M) (hL : L ≤ 5000) (hM : M ≤ 5000) (hlt : x < y) :
    Calls Tryd.prog 17 #[.agg #[va], .agg #[vb]] w fun e w' => e = .returned (.tuple #[.agg #[.slice none 0 0], .iface 23 (.int .i64 2)]) ∧ Below w.heap.size w w' := by
  obtain ⟨a, a1, a2, a3, a4⟩ := ha
  obtain ⟨b, b1, b2, b3, b4⟩ := hb
  exact sub_no va vb a b w a1 b1 a2.small b2.small (by omega) (by omega) (by omega)

theorem cmp_nat {va vb : Value} {x y L M : Nat} {w : World} (ha : NatIs w va x L) (hb : NatIs w vb y M) (hL : L ≤ 10000) (hM : M ≤ 10000) :
    Calls Tryd.prog 26 #[.agg #[va], .agg #[vb]] w fun e w' => e = .returned (.int .i64 (cmpN x y)) ∧ Below w.heap.size w w' := by
  obtain ⟨a, a1, a2, a3, a4⟩ := ha
  obtain ⟨b, b1, b2, b3, b4⟩ := hb
  have := cmp_any va vb a b w a1 b1 a2.small b2.small (by omega) (by omega)
  rwa [a3, b3] at this

theorem text_nat {va : Value} {x L : Nat} {w : World} (ha : NatIs w va x L) (hL : L ≤ 10000) (ht : Tab w) :
    Calls Tryd.prog 14 #[.agg #[va]] w fun e w' => e = .returned (.string ⟨(Lib.decDigits x).toArray⟩) ∧ Below w.heap.size w w' := by
  obtain ⟨a, a1, a2, a3, a4⟩ := ha
  have := text_any va a w a1 a2 (by omega) ht
  rwa [a3] at this

theorem double_nat {va : Value} {x L : Nat} {w : World} (t : Int) (ha : NatIs w va x L) (hL : L ≤ 2000) (h0 : -9223372036854775808 ≤ t) (h1 : t ≤ 9223372036854775807) :
    Calls Tryd.prog 27 #[.agg #[va], .int .i64 t] w fun e w' => ∃ v, e = .returned (.agg #[v]) ∧ NatIs w' v (x * 2 ^ (min t 1000).toNat) (L + 68) ∧ Below w.heap.size w w' := by
  obtain ⟨a, a1, a2, a3, a4⟩ := ha
  refine (double_any va a t w a1 a2 (by omega) h0 h1).mono ?_
  rintro e w' ⟨v, rfl, ds, hd, hn, hv, hl, hb⟩
  exact ⟨v, rfl, ⟨ds, hd, hn, by rw [hv, a3], by omega⟩, hb⟩

theorem parse_nat (s : ByteArray) (w : World) (hm : s.size ≤ 100) (hok : OkText s) :
    Calls Tryd.prog 8 #[.string s] w fun e w' => ∃ v, e = .returned (.tuple #[.agg #[v], .nilIface]) ∧ NatIs w' v (pre s s.size) 12 ∧ Below w.heap.size w w' := by
  refine (parse_ok s w hm hok).mono ?_
  rintro e w' ⟨v, rfl, ds, hd, hn, hv, hl, hb⟩
  exact ⟨v, rfl, ⟨ds, hd, hn, hv, hl⟩, hb⟩

set_option maxRecDepth 100000 in
set_option maxHeartbeats 400000 in
theorem pick_any (x : Int) (w : World) :
    Calls Tryd.prog 32 #[.int .i64 x, .int .i64 200] w fun e w' => ∃ t : Nat, t < 200 ∧ e = .returned (.int .i64 (t : Int)) ∧ w = w' := by
  obtain ⟨y, hy, hy0, hy1⟩ : ∃ y : Int, IntKind.u64.wrap x = y ∧ 0 ≤ y ∧ y ≤ 18446744073709551615 := ⟨_, rfl, by rw [IntKind.wrap_u64]; omega, by rw [IntKind.wrap_u64]; omega⟩
  go_enter Tryd.func32, Tryd.ntmps32
  go_wp2
  go_ret
  exact ⟨(y % 200).toNat, by omega, ret_int (by omega), rfl⟩
/-- Parse, whatever the text: a number, or none and an error. -/
theorem parse_any (s : ByteArray) (w : World) (hm : s.size ≤ 400) :
    Calls Tryd.prog 8 #[.string s] w fun e w' => ∃ v er, e = .returned (.tuple #[.agg #[v], er]) ∧ (∃ a k c, v = .slice a k c) ∧ (OkText s ∧ s.size ≤ 100 → er = .nilIface ∧ NatIs w' v (pre s s.size) 12) ∧ (¬ (OkText s ∧ s.size ≤ 100) → ∃ n, er = .iface 23 (.int .i64 n)) ∧ Below w.heap.size w w' := by
  by_cases hok : OkText s
  · by_cases hl : s.size ≤ 100
    · refine (parse_nat s w hl hok).mono ?_
      rintro e w' ⟨v, rfl, hn, hb⟩
      exact ⟨v, _, rfl, hn.form, fun _ => ⟨rfl, hn⟩, fun h => absurd ⟨hok, hl⟩ h, hb⟩
    · refine (parse_limit s w hm hok (by omega)).mono ?_
      rintro e w' ⟨rfl, hb⟩
      exact ⟨_, _, rfl, ⟨_, _, _, rfl⟩, fun h => absurd h.2 hl, fun _ => ⟨_, rfl⟩, hb⟩
  · refine (parse_form s w hm hok).mono ?_
    rintro e w' ⟨rfl, hb⟩
    exact ⟨_, _, rfl, ⟨_, _, _, rfl⟩, fun h => absurd h.1 hok, fun _ => ⟨_, rfl⟩, hb⟩
end Go.Proofs.YtfangnjdfmaaoaaDoor
