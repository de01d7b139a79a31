/- The clause of a step. -/
import Derived.Test.YtcmmoinkhodjfaaDoorPfStepArg
import Derived.Test.YtcmmoinkhodjfaaDoorPfRes
import Derived.Deep.RegionHeld3
namespace Go.Proofs.YtcmmoinkhodjfaaDoor
open Go.RowKit Go.Deep

set_option maxRecDepth 100000 in
set_option maxHeartbeats 1000000 in
theorem there_any (n : Int) (len cap : Nat) (ka : Option Addr) (b : Nat) (w : World) (hc : w.cell? ⟨b, 0, none⟩ = some (.slice ka len cap)) :
    Calls Tryd.prog 50 #[.int .i64 n, .pointer (some ⟨b, 0, none⟩)] w fun e w' => e = .returned (.bool (decide (0 ≤ n ∧ n < len))) ∧ w = w' := by
  by_cases h0 : 0 ≤ n
  · by_cases h1 : n < (len : Int)
    · rw [decide_eq_true ⟨h0, h1⟩]
      go_enter Tryd.func50, Tryd.ntmps50
      go_wp2
      go_ret
      exact ⟨rfl, rfl⟩
    · rw [decide_eq_false (fun h => h1 h.2)]
      go_enter Tryd.func50, Tryd.ntmps50
      go_wp2
      go_ret
      exact ⟨rfl, rfl⟩
  · rw [decide_eq_false (fun h => h0 h.1)]
    go_enter Tryd.func50, Tryd.ntmps50
    go_wp2
    go_ret
    exact ⟨rfl, rfl⟩

set_option maxRecDepth 100000 in
set_option maxHeartbeats 2000000 in
theorem of_any (s : Stp) (K : List (List Int)) (ka : Option Addr) (kc : Nat) (w : World) (hK : ClsIn w ka K) :
    Calls Tryd.prog 35 #[.agg #[.int .i64 s.a, .int .i64 s.b, .int .i64 s.v], .slice ka K.length kc] w fun e w' => ResAns w.heap.size (stepK K s) e w' ∧ Below w.heap.size w w' := by
  obtain ⟨sa, sb, sv⟩ := s
  simp only
  have hbn : Below w.heap.size w ((w.alloc (.cells #[.int .i64 sa, .int .i64 sb, .int .i64 sv] 45)).alloc (.cells #[.slice ka K.length kc] 37)) := (below_new w _).alloc (by simp) _
  have k1 := (Blk.new w 45 #[.int .i64 sa, .int .i64 sb, .int .i64 sv]).alloc (.cells #[.slice ka K.length kc] 37)
  have k2 := Blk.new (w.alloc (.cells #[.int .i64 sa, .int .i64 sb, .int .i64 sv] 45)) 37 #[.slice ka K.length kc]
  rw [World.size_alloc] at k2
  have HT1 := Lib.hid (there_any sa K.length kc ka (w.heap.size + 1) _ (k2.cell 0))
  have HT2 := Lib.hid (there_any sb K.length kc ka (w.heap.size + 1) _ (k2.cell 0))
  have bad : stepK K ⟨sa, sb, sv⟩ = (2, []) → (Calls Tryd.prog 35 #[.agg #[.int .i64 sa, .int .i64 sb, .int .i64 sv], .slice ka K.length kc] w fun e w' => e = .returned (.tuple #[.slice none 0 0, .iface 27 (.int .i64 2)]) ∧ Below w.heap.size w w') → Calls Tryd.prog 35 #[.agg #[.int .i64 sa, .int .i64 sb, .int .i64 sv], .slice ka K.length kc] w fun e w' => ResAns w.heap.size (stepK K ⟨sa, sb, sv⟩) e w' ∧ Below w.heap.size w w' := fun h1 h2 => h2.mono fun e w' ⟨he, hb⟩ => ⟨by rw [h1]; exact resAns_err (by omega) he, hb⟩
  by_cases ha : 0 ≤ sa ∧ sa < K.length
  · rw [decide_eq_true ha] at HT1
    by_cases hb : 0 ≤ sb ∧ sb < K.length
    · rw [decide_eq_true hb] at HT2
      obtain ⟨i, rfl⟩ : ∃ i : Nat, sa = (i : Int) := ⟨sa.toNat, by omega⟩
      obtain ⟨j, rfl⟩ : ∃ j : Nat, sb = (j : Int) := ⟨sb.toNat, by omega⟩
      have hi : i < K.length := by omega
      have hj : j < K.length := by omega
      have HE := Lib.hid (show stepK K ⟨i, j, sv⟩ = resF (K.getD i []) (K.getD j []) sv by unfold stepK; rw [if_pos ⟨ha.1, ha.2, hb.1, hb.2⟩]; rfl)
      obtain ⟨ad, a1, p1, rfl, hl1, hc1, g1, g2, g3⟩ := (hK.below hbn) i hi
      obtain ⟨ad', a2, p2, e2, hl2, hc2, q1, q2, q3⟩ := (hK.below hbn) j hj
      obtain rfl := Option.some.inj e2
      have HRV : Hid (∀ W, Below (w.heap.size + 1 + 1) ((w.alloc (.cells #[.int .i64 (i : Int), .int .i64 (j : Int), .int .i64 sv] 45)).alloc (.cells #[.slice (some ad) K.length kc] 37)) W → Calls Tryd.prog 11 #[.slice a1 (K.getD i []).length p1, .slice a2 (K.getD j []).length p2, .int .i64 sv] W fun e w' => ResAns W.heap.size (resF (K.getD i []) (K.getD j []) sv) e w' ∧ Below W.heap.size W w') := fun W hW => resolve_any _ _ sv a1 a2 p1 p2 W (g3.below (by simpa using hW)) (by omega) (q3.below (by simpa using hW)) (by omega)
      have HBN := Lib.hid hbn
      rw [HE.out]
      clear HE bad g3 q3 hK e2
      generalize (K.getD i []) = P at *
      generalize (K.getD j []) = R at *
      have s0 := (k1.cell 0).trans (show _ = some (Value.int .i64 (i : Int)) from rfl)
      have s1 := (k1.cell 1).trans (show _ = some (Value.int .i64 (j : Int)) from rfl)
      have s2 := (k1.cell 2).trans (show _ = some (Value.int .i64 sv) from rfl)
      have s3 := (k2.cell 0).trans (show _ = some (Value.slice (some ad) K.length kc) from rfl)
      have HX : Hid (∀ X, Below (w.heap.size + 1 + 1) ((w.alloc (.cells #[.int .i64 (i : Int), .int .i64 (j : Int), .int .i64 sv] 45)).alloc (.cells #[.slice (some ad) K.length kc] 37)) X → X.cell? ⟨w.heap.size, 0, none⟩ = some (.int .i64 (i : Int)) ∧ X.cell? ⟨w.heap.size, 1, none⟩ = some (.int .i64 (j : Int)) ∧ X.cell? ⟨w.heap.size, 2, none⟩ = some (.int .i64 sv) ∧ X.cell? ⟨w.heap.size + 1, 0, none⟩ = some (.slice (some ad) K.length kc) ∧ X.cell? (ad.add i) = some (.slice a1 P.length p1) ∧ X.cell? (ad.add j) = some (.slice a2 R.length p2)) := fun X hX => by
        have hz : ((w.alloc (.cells #[.int .i64 (i : Int), .int .i64 (j : Int), .int .i64 sv] 45)).alloc (.cells #[.slice (some ad) K.length kc] 37)).heap.size = w.heap.size + 1 + 1 := by simp
        rw [hz] at hl1 hl2
        exact ⟨(hX.cell (p := ⟨w.heap.size, 0, none⟩) (by show w.heap.size < _; omega)).trans s0, (hX.cell (p := ⟨w.heap.size, 1, none⟩) (by show w.heap.size < _; omega)).trans s1, (hX.cell (p := ⟨w.heap.size, 2, none⟩) (by show w.heap.size < _; omega)).trans s2, (hX.cell (p := ⟨w.heap.size + 1, 0, none⟩) (by show w.heap.size + 1 < _; omega)).trans s3, (hX.cell (by rw [addr_block]; exact hl1)).trans hc1, (hX.cell (by rw [addr_block]; exact hl2)).trans hc2⟩
      have hi1 : (i : Int) < (K.length : Int) := by omega
      have hj1 : (j : Int) < (K.length : Int) := by omega
      clear k1 k2 hl1 hl2 hc1 hc2 ha hb hbn
      generalize resF P R sv = r at *
      go_enter Tryd.func35, Tryd.ntmps35
      go_wp2_with fail
      refine HT1.out.mono ?_
      rintro e w1 ⟨rfl, rfl⟩
      go_wp2_with fail
      refine HT2.out.mono ?_
      rintro e w1 ⟨rfl, rfl⟩
      clear HT1 HT2 s0 s1 s2 s3
      generalize hW0 : (w.alloc (.cells #[.int .i64 (i : Int), .int .i64 (j : Int), .int .i64 sv] 45)).alloc (.cells #[.slice (some ad) K.length kc] 37) = W0 at *
      have HZ0 : Hid (W0.heap.size = w.heap.size + 1 + 1) := by show _ = _; rw [← hW0]; simp
      clear hW0
      have B0 : Below (w.heap.size + 1 + 1) W0 W0.drew := (Below.refl _ _).drew
      have S0 := HX.out _ B0
      have HZD : Hid (w.heap.size + 1 + 1 ≤ W0.drew.heap.size) := Nat.le_of_eq HZ0.out.symm
      go_wp2_with fail
      go_region_held3 (fun X => X.cell? ⟨w.heap.size, 0, none⟩ = some (.int .i64 (i : Int)) ∧ X.cell? ⟨w.heap.size, 1, none⟩ = some (.int .i64 (j : Int)) ∧ X.cell? ⟨w.heap.size, 2, none⟩ = some (.int .i64 sv) ∧ X.cell? ⟨w.heap.size + 1, 0, none⟩ = some (.slice (some ad) K.length kc) ∧ X.cell? (ad.add i) = some (.slice a1 P.length p1) ∧ X.cell? (ad.add j) = some (.slice a2 R.length p2)) (first | exact S0 | exact S1)
        (first
          | (go_at_call 11; refine (HRV.out _ B0).mono ?_; rintro e w4 ⟨⟨ra, rc, rfl, hrow⟩, hb4⟩; have B1 := B0.trans (hb4.mono HZD.out); have S1 := HX.out _ B1))
      all_goals
        have HB4 : Hid (Below w.heap.size w w4) := HBN.out.trans (B1.mono (by omega))
        have HR4 : Hid (w4.ownsRow w.heap.size 3 1 (.slice ra r.2.length rc) r.2.length (icells r.2)) := ownsRow_base hrow (Nat.le_trans (by omega) HZD.out)
        clear S0 S1 B0 B1 hrow hb4
        go_wp2
        go_ret2
        exact ⟨⟨ra, rc, rfl, HR4.out⟩, HB4.out⟩
    · refine bad (by unfold stepK; rw [if_neg (fun h => hb ⟨h.2.2.1, h.2.2.2⟩)]) ?_
      rw [decide_eq_false hb] at HT2
      have HBN := Lib.hid hbn
      clear bad hbn k1 k2 ha hb hK
      go_enter Tryd.func35, Tryd.ntmps35
      go_wp2_with fail
      refine HT1.out.mono ?_
      rintro e w1 ⟨rfl, rfl⟩
      go_wp2_with fail
      refine HT2.out.mono ?_
      rintro e w1 ⟨rfl, rfl⟩
      clear HT1 HT2
      go_wp2
      go_ret2
      exact ⟨rfl, HBN.out⟩
  · refine bad (by unfold stepK; rw [if_neg (fun h => ha ⟨h.1, h.2.1⟩)]) ?_
    rw [decide_eq_false ha] at HT1
    have HBN := Lib.hid hbn
    clear bad hbn k1 k2 ha hK HT2
    go_enter Tryd.func35, Tryd.ntmps35
    go_wp2_with fail
    refine HT1.out.mono ?_
    rintro e w1 ⟨rfl, rfl⟩
    clear HT1
    go_wp2
    go_ret2
    exact ⟨rfl, HBN.out⟩
end Go.Proofs.YtcmmoinkhodjfaaDoor
