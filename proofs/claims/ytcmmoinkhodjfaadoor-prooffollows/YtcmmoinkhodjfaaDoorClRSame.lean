/- The laws' sameClauses, of clauses that are the same. -/
import Derived.Test.YtcmmoinkhodjfaaDoorClSameI
namespace Go.Proofs.YtcmmoinkhodjfaaDoor
open Go.RowKit Go.Deep

set_option maxRecDepth 100000 in
set_option maxHeartbeats 1000000 in
theorem same_cls (l : List (List Int)) (a1 a2 : Option Addr) (c1 c2 : Nat) (w : World) (h1 : ClsIn w a1 l) (h2 : ClsIn w a2 l) (hm : l.length ≤ 9223372036854775807) :
    Calls Tryd.prog 19 #[.slice a1 l.length c1, .slice a2 l.length c2] w fun e w' => e = .returned (.bool true) ∧ Below w.heap.size w w' := by
  have H1 := Lib.hid h1
  have H2 := Lib.hid h2
  clear h1 h2
  have enn : ((l.length : Int) != (l.length : Int)) = false := by simp
  go_enter Tryd.func19, Tryd.ntmps19
  go_wp2_with fail
  go_loopw [5] (fun kV wr => ∃ k : Nat, k ≤ l.length ∧ kV = .int .i64 (k : Int) ∧ Below w.heap.size w wr) (fun kV _ => l.length - (intOf kV).toNat)
  case atStart => exact ⟨0, Nat.zero_le _, rfl, Below.refl _ _⟩
  case round =>
    obtain ⟨k, hk, rfl, hbr⟩ := hrel
    have HBR := Lib.hid hbr
    clear hbr
    by_cases hlt : k < l.length
    · obtain ⟨ad1, b1, d1, rfl, hl1, hc1, g11, g12, g13⟩ := H1.out.below HBR.out k hlt
      obtain ⟨ad2, b2, d2, rfl, hl2, hc2, g21, g22, g23⟩ := H2.out.below HBR.out k hlt
      generalize l.getD k [] = c at *
      have hcl : Hid (∀ X, Below wr.heap.size wr X → X.cell? (ad1.add k) = some (.slice b1 c.length d1) ∧ X.cell? (ad2.add k) = some (.slice b2 c.length d2)) := fun X hX => ⟨(hX.cell (p := ad1.add k) (by rw [addr_block]; exact hl1)).trans hc1, (hX.cell (p := ad2.add k) (by rw [addr_block]; exact hl2)).trans hc2⟩
      have HH : Hid (∀ X, Below wr.heap.size wr X → _) := fun X hX => same_ints c b1 b2 d1 d2 X (g13.below hX) (g23.below hX) (by omega)
      have B0 : Below wr.heap.size wr wr.drew := (Below.refl _ _).drew
      have S0 := hcl.out _ B0
      clear g13 g23 hc1 hc2
      go_wp2_with fail
      go_region_held3 (fun X => X.cell? (ad1.add k) = some (.slice b1 c.length d1) ∧ X.cell? (ad2.add k) = some (.slice b2 c.length d2)) (first | exact S0 | exact S1)
        (first
          | (go_at_call 12; refine (HH.out _ B0).mono ?_; rintro e w4 ⟨rfl, hb4⟩; have B1 := B0.trans (hb4.mono B0.size); have S1 := hcl.out _ B1; clear HH))
      all_goals
        have HBX : Hid (Below w.heap.size w w4) := HBR.out.trans (B1.mono HBR.out.size)
        clear B0 B1 S0
        go_wp2
        go_roundw
        case rel => exact ⟨k + 1, hlt, by go_num, HBX.out⟩
        case measure => simp [intOf]; omega
    · obtain rfl : k = l.length := by omega
      go_wp2
      go_ret
      exact ⟨rfl, HBR.out⟩
end Go.Proofs.YtcmmoinkhodjfaaDoor
