/- For every text: it is a catalog, or refused, as the document tells. No condition; the library's variables that are listed are as the program's text lays them (the card ties them). -/
import Derived.Test.YtmhophccdfmngaaGreatDoorCtParsF
set_option maxRecDepth 100000
namespace Go.Proofs.YtmhophccdfmngaaGreatDoor.catalogParses
open Go.ChangeShapes Go.WideShapes Go.ChangeAt Go.RowKit
theorem wrapped : Tryz.f7.isWrapper Tryz.pinned.checked.prog Rows.catalogParsesRow.wrapper Rows.catalogParsesRow.mainSum := by
 unfold Func.isWrapper; first | (rw [if_pos (by decide +kernel)]; kernel_rfl) | (rw [if_neg (by decide +kernel)]; exact ⟨rfl, rfl⟩)
theorem named : Tryz.pinned.checked.prog.funcNamed Rows.catalogParsesRow.func = some 7 := by kernel_rfl
theorem said : Rows.CatalogParsesSaid :=
 OpenClaim.holds_of_cond 7 Tryz.f7 rfl rfl rfl rfl rfl rfl rfl ⟨rfl, rfl, rfl, rfl, rfl⟩ rfl rfl rfl rfl rfl named Tryz.func7 facts
  (of_decide_eq_true (by kernel_rfl)) wrapped
  (fun os started H enc _ F => by rw [OpenClaim.pre_eq_preRow]; exact lifted os started H enc F)
theorem plain (f : FuncId) (fn : Func) (hf : Tryz.pinned.checked.prog.funcNamed "solspace/solspacelaw.CatalogParses" = some f) (hfn : Tryz.pinned.checked.prog.funcs[f]? = some fn) :
  true = Tryz.pinned.checked.prog.looks [] /\ ∀ (j : Nat) t, fn.params[j]? = some t -> Tryz.pinned.checked.prog.wantsStandIn t = false := by
 obtain rfl : f = 7 := Option.some.inj (named.symm.trans hf) |>.symm
 obtain rfl : fn = Tryz.f7 := (Option.some.inj (Tryz.func7.symm.trans hfn)).symm
 refine ⟨by kernel_rfl, fun j t ht => ?_⟩
 rw [Tryz.params7] at ht
 have ht' : t = 9 := by simpa using Array.mem_of_getElem? ht
 subst ht'
 exact (show Tryz.prog.wantsStandIn 9 = false by kernel_rfl)
theorem card : Rows.CatalogParsesCardSaid :=
 Claim7.holds_tied_plain_at .later [] _ _ _ _ said (fun _ h => by cases h) (by kernel_rfl) (fun _ h => by cases h) catalogParses_row_tie rfl ⟨rfl, rfl⟩ (by kernel_rfl) rfl plain (by kernel_rfl)
end Go.Proofs.YtmhophccdfmngaaGreatDoor.catalogParses
namespace Go.Proofs.YtmhophccdfmngaaGreatDoor
theorem catalogParses_holds : Rows.CatalogParsesCardSaid := catalogParses.card
end Go.Proofs.YtmhophccdfmngaaGreatDoor
