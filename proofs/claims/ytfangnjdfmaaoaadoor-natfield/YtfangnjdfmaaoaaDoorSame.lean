/- The contracts of the closure 'same' and of 'counts'. -/
import Derived.Test.YtfangnjdfmaaoaaDoorNats
import Derived.Deep.RegionHeld
namespace Go.Proofs.YtfangnjdfmaaoaaDoor
open Go.RowKit Num Go.Sort Go.PlainAid

set_option maxRecDepth 100000 in
set_option maxHeartbeats 1000000 in
theorem same_any {va vb : Value} {x L M : Nat} {w : World} (ha : NatIs w va x L) (hb : NatIs w vb x M) (hL : L ≤ 10000) (hM : M ≤ 10000) (ht : Tab w) :
    Calls Tryd.prog 31 #[.agg #[va], .agg #[vb]] w fun e w' => e = .returned (.bool true) ∧ Below w.heap.size w w' := by
  obtain ⟨aa, na, ca, rfl⟩ := ha.form
  obtain ⟨ab, nb, cb, rfl⟩ := hb.form
  obtain ⟨W, hWe⟩ : ∃ W : World, W = (w.alloc (.cells #[.slice aa na ca] 28)).alloc (.cells #[.slice ab nb cb] 28) := ⟨_, rfl⟩
  have hbw : Below w.heap.size w W := by rw [hWe]; exact ((Below.refl _ _).alloc (Nat.le_refl _) _).alloc (by simp) _
  have c0 : W.cell? ⟨w.heap.size, 0, none⟩ = some (.slice aa na ca) := by rw [hWe]; exact cell2_0 _ _ _ _
  have c1 : W.cell? ⟨w.heap.size + 1, 0, none⟩ = some (.slice ab nb cb) := by rw [hWe]; exact cell2_1 _ _ _ _
  have k0 := cell_regrown c0
  have k1 := cell_regrown c1
  have hall : ∀ d os, Below w.heap.size w (grow (redrawn W d) os) := fun d os => hbw.trans ((below_regrown W d os).mono hbw.size)
  have cC : ∀ d os, Calls Tryd.prog 26 #[.agg #[.slice aa na ca], .agg #[.slice ab nb cb]] (grow (redrawn W d) os) fun e w'' => e = .returned (.int .i64 0) ∧ ∃ p : Regrown, w'' = grow (redrawn W p.d) p.os := fun d os => by
    have := cmp_nat (ha.below (hall d os)) (hb.below (hall d os)) hL hM
    rw [cmpN_eq] at this
    exact Calls.regrown_of this
  have cA : ∀ d os, Calls Tryd.prog 14 #[.agg #[.slice aa na ca]] (grow (redrawn W d) os) fun e w'' => e = .returned (.string ⟨(Lib.decDigits x).toArray⟩) ∧ ∃ p : Regrown, w'' = grow (redrawn W p.d) p.os := fun d os =>
    Calls.regrown_of (text_nat (ha.below (hall d os)) hL (ht.below (hall d os)))
  have cB : ∀ d os, Calls Tryd.prog 14 #[.agg #[.slice ab nb cb]] (grow (redrawn W d) os) fun e w'' => e = .returned (.string ⟨(Lib.decDigits x).toArray⟩) ∧ ∃ p : Regrown, w'' = grow (redrawn W p.d) p.os := fun d os =>
    Calls.regrown_of (text_nat (hb.below (hall d os)) hM (ht.below (hall d os)))
  generalize Lib.decDigits x = l at *
  clear ha hb ht hall
  go_enter Tryd.func31, Tryd.ntmps31
  go_wp2_with fail
  rw [← hWe]
  clear hWe
  refine wp_region_quiet_below mixed (by kernel_rfl) ?_
  repeat (quiet_step (first | (go_at_call 26; exact cC _ _) | (go_at_call_of 14 aa; exact cA _ _) | (go_at_call_of 14 ab; exact cB _ _)))
  refine wpQuiet_nil ?_
  intro _ hw'
  obtain ⟨⟨dq, osq⟩, hw''⟩ := hw'
  subst hw''
  go_wp2
  go_ret
  exact ⟨rfl, hbw.trans ((below_regrown W dq osq).mono hbw.size)⟩

theorem ok7 : OkText ⟨#[55]⟩ := ⟨by decide, by decide, fun k hk => by
  have : k = 0 := by have : (⟨#[55]⟩ : ByteArray).size = 1 := rfl; omega
  subst this; decide⟩
theorem pre7 : pre ⟨#[55]⟩ 1 = 7 := by decide

set_option maxRecDepth 100000 in
set_option maxHeartbeats 2000000 in
theorem counts_any (w : World) (ht : Tab w) : Calls Tryd.prog 30 #[] w fun e w' => e = .returned (.bool true) ∧ Below w.heap.size w w' := by
  have hP := parse_nat ⟨#[55]⟩ w (by decide) ok7
  rw [show (⟨#[55]⟩ : ByteArray).size = 1 from rfl, pre7] at hP
  have HT : Hid (Tab w) := ht
  clear ht
  go_enter Tryd.func30, Tryd.ntmps30
  go_wp2_with fail
  refine hP.mono ?_
  rintro e w1 ⟨v1, rfl, hn1, hb1⟩
  obtain ⟨a1, k1, c1, rfl⟩ := hn1.form
  clear hP
  obtain ⟨W, hWe⟩ : ∃ W : World, W = w1.alloc (.cells #[.slice a1 k1 c1] 28) := ⟨_, rfl⟩
  have hbW : Below w1.heap.size w1 W := by rw [hWe]; exact (Below.refl _ _).alloc (Nat.le_refl _) _
  have hc0 : W.cell? ⟨w1.heap.size, 0, none⟩ = some (.slice a1 k1 c1) := by rw [hWe]; exact cell1_0 _ _ _
  have hzW : w1.heap.size < W.heap.size := by rw [hWe]; simp
  have hbw : Below w.heap.size w W := hb1.trans (hbW.mono hb1.size)
  have hnW := hn1.below hbW
  have htW := HT.out.below hbw
  have hS0 : Below W.heap.size W W.drew ∧ W.drew.cell? ⟨w1.heap.size, 0, none⟩ = some (.slice a1 k1 c1) := ⟨(Below.refl _ _).drew, hc0⟩
  have NXT : Hid (∀ X Y : World, Below W.heap.size W X → Below X.heap.size X Y → Below W.heap.size W Y ∧ Y.cell? ⟨w1.heap.size, 0, none⟩ = some (.slice a1 k1 c1)) := fun X Y h1 h2 => by
    have h3 := h1.trans (h2.mono h1.size)
    exact ⟨h3, (h3.cell (p := ⟨w1.heap.size, 0, none⟩) hzW).trans hc0⟩
  have tok : True := trivial
  clear hn1 hb1 hbW HT
  go_upto_region 2 with fail
  rw [← hWe]
  clear hWe
  have H15 : Lib.decDigits (7 + (8 : Int).toNat) = [49, 53] := by
    rw [show 7 + (8 : Int).toNat = 15 by decide, Lib.decDigits_two (by decide) (by decide)]; rfl
  have H56 : Lib.decDigits (7 * (8 : Int).toNat) = [53, 54] := by
    rw [show 7 * (8 : Int).toNat = 56 by decide, Lib.decDigits_two (by decide) (by decide)]; rfl
  go_region_held (fun w' => Below W.heap.size W w' ∧ w'.cell? ⟨w1.heap.size, 0, none⟩ = some (.slice a1 k1 c1)) (first | assumption | exact hS0)
    (first
      | (go_at_call 28; have _t := tok; refine (of_nat _ _ (by omega) (by omega)).mono ?_; rintro e w2 ⟨v2, rfl, hn2, hb2⟩; have hS2 := NXT.out _ _ hS0.1 hb2; clear tok)
      | (go_at_call 22; refine (add_nat (hnW.below hS2.1) hn2 (by omega) (by omega)).mono ?_; rintro e w3 ⟨v3, rfl, hn3, hb3⟩; have hS3 := NXT.out _ _ hS2.1 hb3)
      | (go_at_call_of 14 v3; have hx := text_nat hn3 (by omega) (htW.below hS3.1); rw [H15] at hx; refine hx.mono ?_; rintro e w4 ⟨rfl, hb4⟩; have hS4 := NXT.out _ _ hS3.1 hb4)
      | (go_at_call 28; have _t := hS4; refine (of_nat _ _ (by omega) (by omega)).mono ?_; rintro e w5 ⟨v5, rfl, hn5, hb5⟩; have hS5 := NXT.out _ _ hS4.1 hb5)
      | (go_at_call 24; refine (mul_nat (hnW.below hS5.1) hn5 (by omega) (by omega)).mono ?_; rintro e w6 ⟨v6, rfl, hn6, hb6⟩; have hS6 := NXT.out _ _ hS5.1 hb6)
      | (go_at_call_of 14 v6; have hy := text_nat hn6 (by omega) (htW.below hS6.1); rw [H56] at hy; refine hy.mono ?_; rintro e w7 ⟨rfl, hb7⟩; have hS7 := NXT.out _ _ hS6.1 hb7))
  go_wp2
  go_ret
  exact ⟨rfl, hbw.trans (hS7.1.mono hbw.size)⟩
end Go.Proofs.YtfangnjdfmaaoaaDoor
