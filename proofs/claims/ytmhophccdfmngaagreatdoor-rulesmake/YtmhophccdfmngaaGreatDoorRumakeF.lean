/- The closed facts of RulesMake' row. -/
import Derived.Test.YtmhophccdfmngaaGreatDoorRlLineA
import Derived.Test.YtmhophccdfmngaaGreatDoorSvLaidQ
import Derived.Deep.Grids
import Derived.Lib.SmallJoins
import Derived.Test.YtmhophccdfmngaaGreatDoorRows
import Derived.JoinedOf
import Derived.KernelRfl
set_option maxHeartbeats 0
set_option maxRecDepth 100000
namespace Go.Proofs.YtmhophccdfmngaaGreatDoor
open Go.ChangeShapes Go.WideShapes Go.ChangeAt Go.RowKit Go.Shelf
theorem cellsBool : Tryz.prog.cellsOf 4 = 1 := by kernel_rfl
theorem argBools {H : Type} {enc : TypeId × Value -> H} {W : World} {a0 : Option Addr} {len cap : Nat} {d : DataW H} {p : List MemPlace} (h : DataW.Trod enc Tryz.prog W 0 (fun _ => true) true 90 (.slice a0 len cap) d p) :
  ∃ bs : List Bool, len = bs.length /\ BoolsIn W a0 bs := by
 obtain ⟨fuel, hf⟩ := h
 rcases Go.Deep.open_bools Tryz.underlying90 Tryz.underlying4 cellsBool hf with ⟨hcs, -⟩ | ⟨a, len', cap', Bf, hcs, _, hl, _, _, hx⟩
 ·simp [Value.cells] at hcs
  obtain ⟨rfl, rfl, rfl⟩ := hcs
  exact ⟨[], rfl, fun i hi => by simp at hi⟩
 ·simp [Value.cells] at hcs
  obtain ⟨rfl, rfl, rfl⟩ := hcs
  refine ⟨(List.range len).map Bf, by simp, fun i hi => ?_⟩
  have hi' : i < len := by simpa using hi
  have hc := hx i (by omega)
  have hb := World.block_lt_of_cell? _ _ hc
  rw [addr_block] at hb
  exact ⟨a, rfl, hb, by rw [hc]; simp [List.getD_eq_getElem?_getD, hi']⟩
end Go.Proofs.YtmhophccdfmngaaGreatDoor
namespace Go.Proofs.YtmhophccdfmngaaGreatDoor.rulesMake
theorem facts : joinedFacts Tryz.pinned.checked.prog 10 Tryz.f10 (OpenSpec.ofChange Rows.rulesMakeSpec).bare Rows.rulesMakeRow = true := by
 unfold joinedFacts
 repeat' (with_reducible refine Bool.and_eq_true_iff.2 ⟨?_, ?_⟩)
 all_goals as_aux_lemma => kernel_rfl
end Go.Proofs.YtmhophccdfmngaaGreatDoor.rulesMake
