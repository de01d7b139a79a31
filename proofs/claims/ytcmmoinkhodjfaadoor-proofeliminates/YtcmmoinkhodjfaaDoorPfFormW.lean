/- Form. -/
import Derived.Test.YtcmmoinkhodjfaaDoorPfSides
namespace Go.Proofs.YtcmmoinkhodjfaaDoor
open Go.RowKit Go.Deep

def formF (c : List Int) : List Int × Bool := if alwaysF (sidesF c) = true then ([], true) else (clauseF (sidesF c), false)
def FormAns (B : Nat) (r : List Int × Bool) (e : Ending) (w' : World) : Prop := ∃ a cap, e = .returned (.tuple #[.slice a r.1.length cap, .bool r.2]) ∧ w'.ownsRow B 3 1 (.slice a r.1.length cap) r.1.length (icells r.1)

set_option maxRecDepth 100000 in
set_option maxHeartbeats 1000000 in
theorem form_any (c : List Int) (a : Option Addr) (cap : Nat) (w : World) (hI : IntsIn w a c) (hm : c.length ≤ 9223372036854775807) :
    Calls Tryd.prog 9 #[.slice a c.length cap] w fun e w' => FormAns w.heap.size (formF c) e w' ∧ Below w.heap.size w w' := by
  have HS := Lib.hid (sidesOf_any c a cap w hI hm)
  have hsm := sides_small (c)
  have HF : Hid (formF c = if alwaysF (sidesF c) = true then ([], true) else (clauseF (sidesF c), false)) := rfl
  generalize sidesF c = s at *
  have HAL : Hid (∀ W : World, Calls Tryd.prog 27 #[.agg #[.int .u64 (s.1 : Int), .int .u64 (s.2 : Int)]] W fun e w' => e = .returned (.bool (alwaysF s)) ∧ Below W.heap.size W w') := fun W => always_any s hsm W
  have HCL : Hid (∀ W : World, Calls Tryd.prog 28 #[.agg #[.int .u64 (s.1 : Int), .int .u64 (s.2 : Int)]] W fun e w' => OutI W.heap.size (clauseF s) e w' ∧ Below W.heap.size W w') := fun W => clause_any s hsm W
  clear hI hsm
  go_enter Tryd.func9, Tryd.ntmps9
  go_wp2_with fail
  refine HS.out.mono ?_
  rintro e w1 ⟨rfl, hb1⟩
  clear HS
  unfold sidesV
  have HB2 : Hid (Below w.heap.size w (w1.alloc (.cells #[.int .u64 (s.1 : Int), .int .u64 (s.2 : Int)] 68))) := hb1.alloc hb1.size _
  have HK := Lib.hid (Blk.new w1 68 #[.int .u64 (s.1 : Int), .int .u64 (s.2 : Int)])
  clear hb1
  go_wp2_with fail
  refine (HAL.out _).mono ?_
  rintro e w2 ⟨rfl, hb2⟩
  have HB3 : Hid (Below w.heap.size w w2) := HB2.out.trans (hb2.mono HB2.out.size)
  have hk2 := HK.out.below hb2 HK.out.lt
  have k0 := hk2.cell 0
  have k1 := hk2.cell 1
  simp at k0 k1
  clear hb2 hk2 HAL HK HB2
  cases hal : alwaysF s with
  | true =>
    rw [hal, if_pos rfl] at HF
    clear hal
    go_wp2
    go_ret2
    exact ⟨⟨none, 0, by rw [HF.out]; rfl, by rw [HF.out]; exact World.ownsRow_nil _ _ _ _⟩, HB3.out⟩
  | false =>
    rw [hal, if_neg (by simp)] at HF
    clear hal
    go_wp2_with fail
    refine (HCL.out _).mono ?_
    rintro e w3 ⟨⟨ra, rc, rfl, hrow⟩, hb3⟩
    have HB4 : Hid (Below w.heap.size w w3) := HB3.out.trans (hb3.mono HB3.out.size)
    have HR := Lib.hid (ownsRow_base hrow HB3.out.size)
    clear hb3 hrow HCL
    go_wp2
    go_ret2
    exact ⟨⟨ra, rc, by rw [HF.out]; rfl, by rw [HF.out]; exact HR.out⟩, HB4.out⟩

end Go.Proofs.YtcmmoinkhodjfaaDoor
