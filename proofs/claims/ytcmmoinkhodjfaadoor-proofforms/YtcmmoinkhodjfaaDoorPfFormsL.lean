/- The walk of ProofForms. -/
import Derived.Test.YtcmmoinkhodjfaaDoorPfRRes
import Derived.Test.YtcmmoinkhodjfaaDoorPfBare
import Derived.Test.YtcmmoinkhodjfaaDoorClFew
import Derived.Test.YtcmmoinkhodjfaaDoorClSameI
namespace Go.Proofs.YtcmmoinkhodjfaaDoor
open Go.RowKit Go.Deep

theorem errN_is {w : World} (m : Int) : ErrIs w (errN m) m (-1) := by
  unfold errN
  by_cases h : m = 0
  · rw [if_pos h]; exact Or.inl ⟨h, rfl, rfl⟩
  · rw [if_neg h]; exact Or.inr (Or.inl ⟨h, rfl, rfl⟩)

set_option maxRecDepth 100000 in
set_option maxHeartbeats 2000000 in
theorem forms_any (p q : List Int) (v : Int) (a1 a2 : Option Addr) (c1 c2 : Nat) (w : World) (hI1 : IntsIn w a1 p) (hm1 : p.length ≤ 9223372036854775807) (hI2 : IntsIn w a2 q) (hm2 : q.length ≤ 9223372036854775807) (hg : Glob w) :
    Calls Tryd.prog 3 #[.slice a1 p.length c1, .slice a2 q.length c2, .int .i64 v] w fun e w' => e = .returned (.bool true) ∧ Below w.heap.size w w' := by
  have HI1 := Lib.hid hI1
  have HI2 := Lib.hid hI2
  have HG := Lib.hid hg
  have HR1 := Lib.hid (right_any p a1 c1 w hI1 hm1)
  have HR2 := Lib.hid (right_any q a2 c2 w hI2 hm2)
  clear hI1 hI2 hg
  go_enter Tryd.func3, Tryd.ntmps3
  go_wp2_with fail
  refine HR1.out.mono ?_
  rintro e w1 ⟨⟨B, rfl, hB1⟩, rfl⟩
  clear HR1
  cases B with
  | false =>
    go_wp2
    go_ret
    exact ⟨rfl, Below.refl _ _⟩
  | true =>
    have hl1 := (hB1 rfl).2
    clear hB1
    go_wp2_with fail
    refine HR2.out.mono ?_
    rintro e w1 ⟨⟨B, rfl, hB2⟩, rfl⟩
    clear HR2
    cases B with
    | false =>
      go_wp2
      go_ret
      exact ⟨rfl, Below.refl _ _⟩
    | true =>
      have hl2 := (hB2 rfl).2
      clear hB2
      have HF1 := Lib.hid (rform_any p a1 c1 w HI1.out (by omega))
      have HF2 : Hid (∀ W, Below w.heap.size w W → Calls Tryd.prog 9 #[.slice a1 p.length c1] W fun e w' => FormAns W.heap.size (formF p) e w' ∧ Below W.heap.size W w') := fun W hW => form_any p a1 c1 W (HI1.out.below hW) (by omega)
      have HS1 : Hid (∀ W, Below w.heap.size w W → Calls Tryd.prog 10 #[.slice a1 p.length c1, .slice a2 q.length c2, .int .i64 v] W fun e w' => RResAns W.heap.size (resF p q v) e w' ∧ Below W.heap.size W w') := fun W hW => rresolve_any p q v a1 a2 c1 c2 W (HI1.out.below hW) (by omega) (HI2.out.below hW) (by omega)
      have HS2 : Hid (∀ W, Below w.heap.size w W → Calls Tryd.prog 11 #[.slice a1 p.length c1, .slice a2 q.length c2, .int .i64 v] W fun e w' => ResAns W.heap.size (resF p q v) e w' ∧ Below W.heap.size W w') := fun W hW => resolve_any p q v a1 a2 c1 c2 W (HI1.out.below hW) (by omega) (HI2.out.below hW) (by omega)
      have hfl : (formF p).1.length ≤ 24 := by
        unfold formF; split
        · simp
        · exact clauseK_len _ _
      have hrl : (resF p q v).2.length ≤ 24 := by
        unfold resF; split
        · split
          · simp
          · exact clauseK_len _ _
        · simp
      generalize formF p = r at *
      generalize resF p q v = s at *
      obtain ⟨r1, r2⟩ := r
      obtain ⟨s1, s2⟩ := s
      simp only at hfl hrl
      go_wp2_with fail
      refine HF1.out.mono ?_
      rintro e w1 ⟨⟨xa, xc, rfl, hx⟩, hb1⟩
      have HB1 := Lib.hid hb1
      have HX := Lib.hid (ints_row hx)
      clear hb1 hx HF1
      simp only at *
      go_wp2_with fail
      refine (HF2.out _ HB1.out).mono ?_
      rintro e w2 ⟨⟨ya, yc, rfl, hy⟩, hb2⟩
      have HB2 : Hid (Below w.heap.size w w2) := HB1.out.trans (hb2.mono HB1.out.size)
      have HX2 := Lib.hid (HX.out.below hb2)
      have HY := Lib.hid (ints_row hy)
      clear hb2 hy HF2 HB1 HX
      simp only at *
      go_wp2_with fail
      refine (HS1.out _ HB2.out).mono ?_
      rintro e w3 ⟨⟨za, zc, rfl, hz⟩, hb3⟩
      have HB3 : Hid (Below w.heap.size w w3) := HB2.out.trans (hb3.mono HB2.out.size)
      have HX3 := Lib.hid (HX2.out.below hb3)
      have HY3 := Lib.hid (HY.out.below hb3)
      have HZ := Lib.hid (ints_row hz)
      clear hb3 hz HS1 HB2 HX2 HY
      simp only at *
      go_wp2_with fail
      refine (HS2.out _ HB3.out).mono ?_
      rintro e w4 ⟨⟨ta, tc, rfl, ht⟩, hb4⟩
      have HB4 : Hid (Below w.heap.size w w4) := HB3.out.trans (hb4.mono HB3.out.size)
      have HSI := Lib.hid (same_ints r1 xa ya xc yc w4 (HX3.out.below hb4) (HY3.out.below hb4) (by omega))
      have HZ4 := Lib.hid (HZ.out.below hb4)
      have HT := Lib.hid (ints_row ht)
      clear hb4 ht HS2 HB3 HX3 HY3 HZ
      simp only at *
      have ee : (r2 == r2) = true := by simp
      have HSI2 : Hid (∀ W, Below w4.heap.size w4 W → Calls Tryd.prog 13 #[errN s1, .int .i64 s1] W fun e w' => e = .returned (.bool true) ∧ Below W.heap.size W w') := fun W hW => by
        have := bare_any s1 s1 (errN s1) W ((HG.out.below HB4.out).below hW) (errN_is s1)
        rw [beq_self_eq_true] at this
        exact this
      have HSI3 : Hid (∀ W, Below w4.heap.size w4 W → Calls Tryd.prog 12 #[.slice ta s2.length tc, .slice za s2.length zc] W fun e w' => e = .returned (.bool true) ∧ Below W.heap.size W w') := fun W hW => same_ints s2 ta za tc zc W (HT.out.below hW) (HZ4.out.below hW) (by omega)
      generalize errN s1 = E at *
      clear HT HZ4
      go_wp2_with fail
      refine HSI.out.mono ?_
      rintro e w5 ⟨rfl, hb5⟩
      have HB5 := Lib.hid hb5
      clear hb5 HSI
      go_wp2_with fail
      refine (HSI2.out _ HB5.out).mono ?_
      rintro e w6 ⟨rfl, hb6⟩
      have HB6 : Hid (Below w4.heap.size w4 w6) := HB5.out.trans (hb6.mono HB5.out.size)
      clear hb6 HSI2
      go_wp2_with fail
      refine (HSI3.out _ HB6.out).mono ?_
      rintro e w7 ⟨rfl, hb7⟩
      have HB7 : Hid (Below w.heap.size w w7) := HB4.out.trans ((HB6.out.trans (hb7.mono HB6.out.size)).mono HB4.out.size)
      clear hb7 HSI3
      go_wp2
      go_ret
      exact ⟨rfl, HB7.out⟩
end Go.Proofs.YtcmmoinkhodjfaaDoor
