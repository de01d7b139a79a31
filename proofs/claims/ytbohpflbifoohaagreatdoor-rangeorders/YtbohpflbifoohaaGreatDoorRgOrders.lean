/- For every two versions: the ranges <, <=, >, >=, =, !, ^ and ~ of the one have the other one just as the order of versions has it. No condition; the library's variables that are listed are as the program's text lays them (the card ties them). -/
import Derived.Test.YtbohpflbifoohaaGreatDoorSvTri
import Derived.Test.YtbohpflbifoohaaGreatDoorSvOrdI
import Derived.SizedLaws
namespace Go.Proofs.YtbohpflbifoohaaGreatDoor.rangeOrders
open Go.ChangeShapes Go.WideShapes Go.ChangeAt Go.RowKit

theorem law_any (x0 x1 x2 y0 y1 y2 : Int) (w : World) (hw : Lb w) : Calls Tryz.prog 8 #[.agg #[.int .i64 x0, .int .i64 x1, .int .i64 x2], .agg #[.int .i64 y0, .int .i64 y1, .int .i64 y2]] w fun e w' => e = .returned (.bool true) ∧ Below w.heap.size w w' := by
  by_cases h1 : (0 ≤ x0 ∧ x0 ≤ 999) ∧ (0 ≤ x1 ∧ x1 ≤ 999) ∧ (0 ≤ x2 ∧ x2 ≤ 999)
  · by_cases h2 : (0 ≤ y0 ∧ y0 ≤ 999) ∧ (0 ≤ y1 ∧ y1 ≤ 999) ∧ (0 ≤ y2 ∧ y2 ≤ 999)
    · obtain ⟨a, rfl⟩ := Int.eq_ofNat_of_zero_le h1.1.1
      obtain ⟨b, rfl⟩ := Int.eq_ofNat_of_zero_le h1.2.1.1
      obtain ⟨c, rfl⟩ := Int.eq_ofNat_of_zero_le h1.2.2.1
      obtain ⟨d, rfl⟩ := Int.eq_ofNat_of_zero_le h2.1.1
      obtain ⟨e, rfl⟩ := Int.eq_ofNat_of_zero_le h2.2.1.1
      obtain ⟨f, rfl⟩ := Int.eq_ofNat_of_zero_le h2.2.2.1
      exact orders_in a b c d e f (by omega) (by omega) (by omega) (by omega) (by omega) (by omega) w hw
    · exact orders_out2 x0 x1 x2 y0 y1 y2 w hw h1 h2
  · exact orders_out1 x0 x1 x2 y0 y1 y2 w hw h1

set_option maxRecDepth 100000 in
theorem contract (H : Type) (enc : TypeId × Value → H) (W : World) (base : Nat) (args : Array Value) (ds gs : List (DataW H)) (before : List MemPlace)
    (hval : ∀ (j : Nat) t v, Tryz.f8.params[j]? = some t → args[j]? = some v → Value.okWide Tryz.prog W .any base t v)
    (hW : DataW.Whole enc Tryz.prog Tryz.f8.params.toList Rows.rangeOrdersSpec.vars false W args.toList ds gs before) (hL : laidMetH Tryz.prog Rows.rangeOrdersRow.laid W) (hS : W.ShapedOpen Tryz.prog) :
    Calls Tryz.prog 8 args W fun e W' => ∃ v, e = .returned v ∧ Rows.rangeOrdersSpec.post enc Tryz.prog Tryz.f8 false true false false W args v W' := by
  have hW' := hW
  obtain ⟨p, q, hA0, hV, rfl, hfz, hnd⟩ := hW
  have hA : DataW.TrodAll enc Tryz.prog W 0 (fun _ => true) true Tryz.f8.params.toList args.toList ds p := hA0
  rw [Tryz.params8] at hA hval
  obtain ⟨v0, vs0, d0, ds0, p0, q0, hargs, rfl, rfl, h0, r0⟩ := trodAll_cons hA
  obtain ⟨v1, vs1, d1, ds1, p1, q1, rfl, rfl, rfl, h1, r1⟩ := trodAll_cons r0
  obtain ⟨rfl, rfl, rfl⟩ := trodAll_nil r1
  obtain rfl : args = #[v0, v1] := by cases args; simp_all
  obtain ⟨rfl, rfl⟩ := trodVars_none hV
  obtain ⟨x0, x1, x2, rfl, rfl, rfl, wx0, wx1, wx2⟩ := open_tri Tryz.underlying23 triCells Tryz.underlying3 triOne (hval 0 23 v0 rfl rfl) h0
  obtain ⟨y0, y1, y2, rfl, rfl, rfl, wy0, wy1, wy2⟩ := open_tri Tryz.underlying23 triCells Tryz.underlying3 triOne (hval 1 23 v1 rfl rfl) h1
  clear hA0
  simp only [List.append_nil] at hW'
  refine (law_any x0 x1 x2 y0 y1 y2 W (lb_of hL hS (by kernel_rfl) (by kernel_rfl) (by kernel_rfl) (by kernel_rfl))).mono fun e W' ⟨he, hg⟩ => ?_
  subst he
  exact ⟨_, rfl, _, _, _, [], [], [], hW', trodAll_mk1 (shut_bool Tryz.underlying4 _), trodAll_cons_mk (shut_tri Tryz.underlying23 triCells Tryz.underlying3 triOne wx0 wx1 wx2) (trodAll_cons_mk (shut_tri Tryz.underlying23 triCells Tryz.underlying3 triOne wy0 wy1 wy2) trodAll_mk0), rfl, hg.frame _, fun h => by cases h⟩

theorem laid_met (os : Os) : laidMetH Tryz.prog Rows.rangeOrdersRow.laid ((laidWorldS os).forCall (fun _ _ => 0) ⟨#[], #[.agg #[.int .i64 0, .int .i64 0, .int .i64 0], .agg #[.int .i64 0, .int .i64 0, .int .i64 0]], []⟩).memory :=
  laidMetH_of_parts (laidMet_of_run' 300 (by kernel_rfl) (by kernel_rfl)) (by kernel_rfl)
theorem reads (os : Os) {H : Type} (enc : TypeId × Value → H) : ∃ places, DataW.whole enc Tryz.prog ((laidWorldS os).forCall (fun _ _ => 0) ⟨#[], #[.agg #[.int .i64 0, .int .i64 0, .int .i64 0], .agg #[.int .i64 0, .int .i64 0, .int .i64 0]], []⟩).memory Tryz.f8.params.toList Rows.rangeOrdersSpec.vars false #[Value.agg #[.int .i64 0, .int .i64 0, .int .i64 0], .agg #[.int .i64 0, .int .i64 0, .int .i64 0]].toList 8 = some ([.agg [.lit (.int .i64 0), .lit (.int .i64 0), .lit (.int .i64 0)], .agg [.lit (.int .i64 0), .lit (.int .i64 0), .lit (.int .i64 0)]], [], places) :=
  ⟨[], by kernel_rfl⟩

set_option maxRecDepth 100000 in
theorem lifted (os : Os) (started : os.Started) (H : Type) (enc : TypeId × Value → H) (F : Stop.Interp) :
    ReturnsInHanded {} Tryz.checked os 8 .any ((OpenSpec.ofChange Rows.rangeOrdersSpec).preRow enc Tryz.prog Tryz.f8 Rows.rangeOrdersRow.domain false Rows.rangeOrdersRow.laid) (((OpenSpec.ofChange Rows.rangeOrdersSpec).at F).post enc Tryz.prog Tryz.f8 false true false false) := by
  obtain ⟨places, hx⟩ := reads os enc
  refine returnsInHanded_of_row (C := Tryz.checked) (s := OpenSpec.ofChange Rows.rangeOrdersSpec) own started (by kernel_rfl) Tryz.func8
    (witness_row_at (enc := enc) (C := Tryz.checked) false (laidWorldS os) #[.agg #[.int .i64 0, .int .i64 0, .int .i64 0], .agg #[.int .i64 0, .int .i64 0, .int .i64 0]] rfl (by kernel_rfl) (by kernel_rfl) (by kernel_rfl)
      (OpenSpec.preRow_of_cond 8 hx (by kernel_rfl) (fun k hk => by cases hk) (by kernel_rfl) (laid_met os))) ?_
  intro W base args ds gs before hval hW _ _ _ hL hS _
  exact contract H enc W base args ds gs before hval hW hL hS

theorem said : Rows.RangeOrdersSaid :=
  OpenClaim.holds_of_cond 8 Tryz.f8 rfl rfl rfl rfl rfl rfl rfl ⟨rfl, rfl, rfl, rfl, rfl⟩ rfl rfl rfl rfl rfl (by kernel_rfl) Tryz.func8 (by kernel_rfl)
    (of_decide_eq_true (by kernel_rfl)) (by unfold Func.isWrapper; first | (rw [if_pos (by decide +kernel)]; kernel_rfl) | (rw [if_neg (by decide +kernel)]; exact ⟨rfl, rfl⟩))
    (fun os started H enc _ F => by rw [OpenClaim.pre_eq_preRow]; exact lifted os started H enc F)

theorem plain (f : FuncId) (fn : Func) (hf : Tryz.pinned.checked.prog.funcNamed "solspace/solspacekeep.RangeOrders" = some f) (hfn : Tryz.pinned.checked.prog.funcs[f]? = some fn) :
    true = Tryz.pinned.checked.prog.looks [] ∧ ∀ (j : Nat) t, fn.params[j]? = some t → Tryz.pinned.checked.prog.wantsStandIn t = false := by
  obtain rfl : f = 8 := Option.some.inj ((show Tryz.prog.funcNamed "solspace/solspacekeep.RangeOrders" = some 8 by kernel_rfl).symm.trans hf) |>.symm
  obtain rfl : fn = Tryz.f8 := (Option.some.inj (Tryz.func8.symm.trans hfn)).symm
  refine ⟨by kernel_rfl, fun j t ht => ?_⟩
  rw [Tryz.params8] at ht
  obtain rfl : t = 23 := by simpa using Array.mem_of_getElem? ht
  exact (show Tryz.prog.wantsStandIn 23 = false by kernel_rfl)

theorem card : Rows.RangeOrdersCardSaid :=
  Claim7.holds_tied_plain_at .later [] _ _ _ _ said (fun _ h => by cases h) (by kernel_rfl) (fun _ h => by cases h) rangeOrders_row_tie rfl ⟨rfl, rfl⟩ (by kernel_rfl) rfl plain (by kernel_rfl)
end Go.Proofs.YtbohpflbifoohaaGreatDoor.rangeOrders

namespace Go.Proofs.YtbohpflbifoohaaGreatDoor
theorem rangeOrders_holds : Rows.RangeOrdersCardSaid := rangeOrders.card
end Go.Proofs.YtbohpflbifoohaaGreatDoor
