/- The walk through NatParses. -/
import Derived.Test.YtfangnjdfmaaoaaDoorNats
import Derived.Test.YtfangnjdfmaaoaaDoorBare
import Derived.Test.YtfangnjdfmaaoaaDoorRefParse
import Derived.Test.YtfangnjdfmaaoaaDoorBigInt64
namespace Go.Proofs.YtfangnjdfmaaoaaDoor
open Go.RowKit Num Go.Sort Go.PlainAid

theorem zero_nat {va : Value} {x L : Nat} {w : World} (ha : NatIs w va x L) (hL : L ≤ 10000) :
    Calls Tryd.prog 10 #[.agg #[va]] w fun e w' => e = .returned (.bool (decide (x = 0))) ∧ Below w.heap.size w w' := by
  obtain ⟨a, a1, a2, a3, a4⟩ := ha
  have h := zero_any va a w a1 (by omega)
  have hz := val_zero (B := 1000000000) (by omega) a2
  rw [a3] at hz
  have e : (a.length == 0) = decide (x = 0) := by
    by_cases h0 : x = 0
    · have := hz.1 h0; simp [this, h0]
    · have : a.length ≠ 0 := fun e => h0 (hz.2 e)
      simp [this, h0]
  rwa [e] at h

theorem fits_nat {va : Value} {x L : Nat} {w : World} (ha : NatIs w va x L) (hL : L ≤ 10000) :
    Calls Tryd.prog 11 #[.agg #[va]] w fun e w' => (x ≤ 9223372036854775807 → e = .returned (.tuple #[.int .i64 (x : Int), .bool true])) ∧ (9223372036854775807 < x → e = .returned (.tuple #[.int .i64 0, .bool false])) ∧ Below w.heap.size w w' := by
  obtain ⟨a, a1, a2, a3, a4⟩ := ha
  have h := fits_any va a w a1 a2.small (by omega)
  rwa [a3] at h

theorem text_same {va : Value} {L : Nat} {w : World} {s : ByteArray} (hok : OkText s) (ha : NatIs w va (pre s s.size) L) (hL : L ≤ 10000) (ht : Tab w) :
    Calls Tryd.prog 14 #[.agg #[va]] w fun e w' => e = .returned (.string s) ∧ Below w.heap.size w w' := by
  have h := text_nat ha hL ht
  rwa [text_back hok] at h

set_option maxRecDepth 100000 in
set_option maxHeartbeats 1000000 in
theorem parses_long (s : ByteArray) (w : World) (hs : s.size ≤ 9223372036854775807) (h : 300 < s.size) :
    Calls Tryd.prog 3 #[.string s] w fun e w' => e = .returned (.bool true) ∧ Below w.heap.size w w' := by
  go_enter Tryd.func3, Tryd.ntmps3
  go_wp2
  go_ret
  exact ⟨rfl, Below.refl _ _⟩

set_option maxRecDepth 100000 in
set_option maxHeartbeats 1000000 in
theorem parses_err (s : ByteArray) (m : Int) (w : World) (hs : s.size ≤ 300) (hm : m = 3 ∨ m = 4) (hg : Glob w)
    (HR : ∀ W, Calls Tryd.prog 7 #[.string s] W fun e w' => e = .returned (.tuple #[.pointer none, .int .i64 m]) ∧ Below W.heap.size W w')
    (HP : ∀ W, Calls Tryd.prog 8 #[.string s] W fun e w' => e = .returned (.tuple #[.agg #[.slice none 0 0], .iface 23 (.int .i64 m)]) ∧ Below W.heap.size W w') :
    Calls Tryd.prog 3 #[.string s] w fun e w' => e = .returned (.bool true) ∧ Below w.heap.size w w' := by
  have H1 := Lib.hid HR
  have H2 := Lib.hid HP
  have HG : Hid (Glob w) := hg
  have hmb : (m != 0) = true := by rw [bne_iff_ne]; omega
  clear HR HP hg hm
  go_enter Tryd.func3, Tryd.ntmps3
  go_wp2_with fail
  refine (H1.out _).mono ?_
  rintro e w1 ⟨rfl, hb1⟩
  have hs1 := hb1.size
  go_wp2_with fail
  refine (H2.out _).mono ?_
  rintro e w2 ⟨rfl, hb2⟩
  have hb2' := hb1.trans (hb2.mono hs1)
  have hb3 := hb2'.alloc hb2'.size (.cells #[.slice none 0 0] 28)
  have hs3 := hb3.size
  clear hb1 hb2
  have HB := bare_errno m m (w2.alloc (.cells #[.slice none 0 0] 28)) (HG.out.below hb3)
  rw [beq_self_eq_true] at HB
  go_wp2_with fail
  refine HB.mono ?_
  rintro e w4 ⟨rfl, hb4⟩
  have c0 : w4.cell? ⟨w2.heap.size, 0, none⟩ = some (.slice none 0 0) := (hb4.cell (p := ⟨w2.heap.size, 0, none⟩) (by simp)).trans (cell1_0 _ _ _)
  have hb4' := hb3.trans (hb4.mono hs3)
  clear HB hb4
  have HZ := zero_any (.slice none 0 0) [] w4 (Dig.nil _ _) (by simp)
  go_wp2_with fail
  refine HZ.mono ?_
  rintro e w5 ⟨rfl, hb5⟩
  go_wp2
  go_ret
  exact ⟨rfl, hb4'.trans (hb5.mono hb4'.size)⟩
end Go.Proofs.YtfangnjdfmaaoaaDoor
