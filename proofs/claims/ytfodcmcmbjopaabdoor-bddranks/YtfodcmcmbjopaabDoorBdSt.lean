/- A space in a law: one operation behind the other. -/
import Derived.Test.YtfodcmcmbjopaabDoorBdTruth
namespace Go.Proofs.YtfodcmcmbjopaabDoor
open Go.RowKit Go.Maps

structure SpSt (W0 w : World) (s b : Nat) (O : Nat → Prop) (vars : Nat) (ns : List Nd) (n : Nat) : Prop where
  space : SpaceAt W0.heap.size w s b O vars 4000 ns
  good : Good vars ns
  below : Below W0.heap.size W0 w
  own : ∀ k, O k → W0.heap.size ≤ k
  len : ns.length ≤ n

/-- A function was made. -/
def StOut (W0 : World) (s b vars : Nat) (ns : List Nd) (n : Nat) (g : Fn') (e : Ending) (w' : World) : Prop :=
  ∃ (h : Int) (ns' : List Nd) (O' : Nat → Prop), e = .returned (.tuple #[.int .i64 h, .nilIface]) ∧ SpSt W0 w' s b O' vars ns' (n + 63) ∧ Ext ns ns' ∧ Is ns' h g

section
variable {W0 w : World} {s b : Nat} {O : Nat → Prop} {vars : Nat} {ns : List Nd} {n : Nat}

theorem SpSt.room (h : SpSt W0 w s b O vars ns n) (hv : vars ≤ 6) (hn : n ≤ 3900) : Room W0.heap.size w vars 4000 ns := by
  have p6 : 2 ^ vars ≤ 64 := Nat.pow_le_pow_right (n := 2) (by omega) hv
  exact ⟨by omega, by have := h.len; omega, by omega, h.below.size⟩
theorem SpSt.op (h : SpSt W0 w s b O vars ns n) (hv : vars ≤ 6) {F : FuncId} {args : Array Value} {g : Fn'} (hc : Calls Tryd.prog F args w (OpIs W0.heap.size s b O vars 4000 ns g w)) : Calls Tryd.prog F args w (StOut W0 s b vars ns n g) := by
  have p6 : 2 ^ vars ≤ 64 := Nat.pow_le_pow_right (n := 2) (by omega) hv
  refine hc.mono ?_
  rintro e w' ⟨x, ns', O', he, hS, hM, hG, hX, hI, hl⟩
  exact ⟨x, ns', O', he, ⟨hS, hG, h.below.trans (hM.below h.below.size h.own), fun k hk => by
    rcases hM.own k hk with h1 | h1
    · exact h.own k h1
    · have := h.below.size; omega, by have := h.len; omega⟩, hX, hI⟩
theorem SpSt.new {w' : World} (h : SpSt W0 w s b O vars ns n) (hb : Below w.heap.size w w') : SpSt W0 w' s b O vars ns n :=
  ⟨h.space.new hb, h.good, h.below.trans (hb.mono h.below.size), h.own, h.len⟩
end
end Go.Proofs.YtfodcmcmbjopaabDoor
