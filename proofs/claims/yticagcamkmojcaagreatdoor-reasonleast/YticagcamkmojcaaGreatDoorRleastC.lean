/- ReasonLeast: a core can't be, and without any one line of it it can. No condition; the library's variables that are listed are as the program's text lays them (the card ties them). -/
import Derived.Test.YticagcamkmojcaaGreatDoorSvLaid
import Derived.Test.YticagcamkmojcaaGreatDoorClSearch
import Derived.Test.YticagcamkmojcaaGreatDoorCtLine
import Derived.Deep.Grids
import Derived.Lib.SmallJoins
import Derived.Test.YticagcamkmojcaaGreatDoorRows
import Derived.JoinedOf
import Derived.KernelRfl
import Derived.Test.YticagcamkmojcaaGreatDoorCards
import Derived.Test.YticagcamkmojcaaGreatDoorTie
import Derived.ShutString
import Derived.SizedLaws
set_option maxHeartbeats 0
set_option maxRecDepth 100000
namespace Go.Proofs.YticagcamkmojcaaGreatDoor
open Go.ChangeShapes Go.WideShapes Go.ChangeAt Go.RowKit Go.Shelf
theorem gWords : Tryz.prog.globalNamed "solspace/catalog.words" = some 3 := by kernel_rfl
theorem gWordsType : (Tryz.prog.globals[3]?).map (·.type) = some 410 := by kernel_rfl
theorem cellsWords : Tryz.prog.cellsOf 410 = 5 := by kernel_rfl
theorem cells_of_strs {H : Type} {enc : TypeId × Value -> H} {P : Program} {w : World} {base : Nat} {sp : Nat -> Bool} {held : Bool} {fuel : Nat} {t e : TypeId} {n : Nat} {cs : List Value} {zs : List ByteArray} {p : List MemPlace}
  (ht : P.underlying t = some (.array n e)) (he : P.underlying e = some .string) (hce : P.cellsOf e = 1) (hct : P.cellsOf t = n)
  (h : DataW.trod enc P w base sp held fuel t cs = some (.agg (zs.map fun z => .lit (.string z.data.toList)), p)) : cs = zs.map fun z => Value.string z := by
 cases fuel with
 | zero => simp [DataW.trod] at h
 | succ fuel =>
  simp only [DataW.trod, ht, hce, hct, Nat.mul_one] at h
  split at h
  ·rename_i hl
   obtain ⟨xs, hm, hx⟩ := Option.map_eq_some_iff.1 h
   have hxs : xs.map (·.1) = zs.map fun z => (DataW.lit (.string z.data.toList) : DataW H) := by
    have := congrArg Prod.fst hx
    simpa using this
   have hxl : xs.length = n := by simpa using Lib.mapM_length hm
   have hzl : zs.length = n := by
    have := congrArg List.length hxs
    simp at this
    omega
   apply List.ext_getElem?
   intro i
   by_cases hi : i < n
   ·obtain ⟨b, hb, hf⟩ := Lib.mapM_at hm i i (by simp [hi])
    obtain ⟨z, hc, rfl, _⟩ := DataW.trod_string he hf
    have h1 : cs[i]? = some (.string z) := by
     have := congrArg (·[0]?) hc
     simpa [List.getElem?_take, List.getElem?_drop] using this
    have h2 : (xs.map (·.1))[i]? = some (DataW.lit (.string z.data.toList) : DataW H) := by simp [hb]
    rw [hxs] at h2
    simp only [List.getElem?_map, Option.map_eq_some_iff, DataW.lit.injEq, Lit.string.injEq] at h2
    obtain ⟨z', hz', e⟩ := h2
    obtain rfl : z' = z := ByteArray.ext (Array.toList_inj.1 e)
    simp [h1, hz']
   ·rw [List.getElem?_eq_none (by omega), List.getElem?_eq_none (by simp; omega)]
  ·cases h
theorem words_of {W : World} {l : List (String × DataW Unit)} (h : laidMetH Tryz.prog l W) (hk : (l.filter fun x => x.1 == "solspace/catalog.words") = [("solspace/catalog.words", Rows.laid_solspace_catalog_words)]) : WordsAt W := by
 have h2 := h.filter fun x => x.1 == "solspace/catalog.words"
 rw [hk] at h2
 have h3 : laidMet Tryz.prog [("solspace/catalog.words", Rows.laid_solspace_catalog_words)] W := h2
 obtain ⟨ps, ⟨g', t', cs, fuel, p, q, hg', ht', hvar, hd, _, _⟩, _⟩ := h3
 obtain rfl := Option.some.inj (gWords.symm.trans hg')
 obtain rfl := Option.some.inj (gWordsType.symm.trans ht')
 have hcs := cells_of_strs (zs := [⟨#[]⟩, ⟨#[112, 97, 99, 107, 97, 103, 101]⟩, ⟨#[110, 101, 101, 100, 115]⟩, ⟨#[99, 108, 97, 115, 104, 101, 115]⟩, ⟨#[114, 111, 111, 116]⟩]) Tryz.underlying410 Tryz.underlying9 cellsStr cellsWords hd
 have H := fun (i : Nat) => World.var?_cell gWords hvar i
 obtain ⟨cs⟩ := cs
 simp only at hcs
 subst hcs
 exact ⟨by simpa using H 0, by simpa using H 1, by simpa using H 2, by simpa using H 3, by simpa using H 4⟩
noncomputable def laidWorldK (os : Os) : World :=
 let w0 := World.holding Tryz.prog os ⟨#[.cells #[.string ⟨#[118, 97, 108, 117, 101, 32, 111, 117, 116, 32, 111, 102, 32, 114, 97, 110, 103, 101]⟩] 512, .cells #[.string ⟨#[105, 110, 118, 97, 108, 105, 100, 32, 115, 121, 110, 116, 97, 120]⟩] 512], #[], []⟩
 { w0 with heap := ((((((((w0.heap.modify 1 (refill #[.iface 359 (.agg #[.pointer (some ⟨12, 31, none⟩)])])).modify 10 (refill #[.iface 510 (.pointer (some ⟨18, 0, none⟩))])).modify 11 (refill #[.iface 510 (.pointer (some ⟨17, 0, none⟩))])).modify 4 (refill (cellsIn Rows.laid_internal_strconv_uint64pow10))).modify 6 (refill (cellsIn Rows.laid_unicode_utf8_first))).modify 7 (refill (cellsIn Rows.laid_unicode_utf8_acceptRanges))).modify 8 (refill (cellsIn Rows.laid_math_bits_deBruijn32tab))).modify 9 (refill (cellsIn Rows.laid_math_bits_deBruijn64tab))).modify 3 (refill #[.string ⟨#[]⟩, .string ⟨#[112, 97, 99, 107, 97, 103, 101]⟩, .string ⟨#[110, 101, 101, 100, 115]⟩, .string ⟨#[99, 108, 97, 115, 104, 101, 115]⟩, .string ⟨#[114, 111, 111, 116]⟩]) }
end Go.Proofs.YticagcamkmojcaaGreatDoor
namespace Go.Proofs.YticagcamkmojcaaGreatDoor.reasonLeast
theorem facts : joinedFacts Tryz.pinned.checked.prog 11 Tryz.f11 (OpenSpec.ofChange Rows.reasonLeastSpec).bare Rows.reasonLeastRow = true := by
 unfold joinedFacts
 repeat' (with_reducible refine Bool.and_eq_true_iff.2 ⟨?_, ?_⟩)
 all_goals as_aux_lemma => kernel_rfl
end Go.Proofs.YticagcamkmojcaaGreatDoor.reasonLeast
namespace Go.Proofs.YticagcamkmojcaaGreatDoor.reasonLeast
open Go.ChangeShapes Go.WideShapes Go.ChangeAt Go.RowKit
open Go.ChangeMaps (open_string shut_string)
theorem contract (H : Type) (enc : TypeId × Value -> H) (W : World) (base : Nat) (args : Array Value) (ds gs : List (DataW H)) (before : List MemPlace)
  (hval : ∀ (j : Nat) t v, Tryz.f11.params[j]? = some t -> args[j]? = some v -> Value.okWide Tryz.prog W .any base t v)
  (hW : DataW.Whole enc Tryz.prog Tryz.f11.params.toList Rows.reasonLeastSpec.vars false W args.toList ds gs before) (hL : laidMetH Tryz.prog Rows.reasonLeastRow.laid W) (hS : W.ShapedOpen Tryz.prog) :
  Calls Tryz.prog 11 args W fun e W' => ∃ v, e = .returned v /\ Rows.reasonLeastSpec.post enc Tryz.prog Tryz.f11 false true false false W args v W' := by
 have hW' := hW
 obtain ⟨p, q, hA0, hV, rfl, hfz, hnd⟩ := hW
 have hA : DataW.TrodAll enc Tryz.prog W 0 (fun _ => true) true Tryz.f11.params.toList args.toList ds p := hA0
 rw [Tryz.params11] at hA hval
 obtain ⟨v0, vs0, d0, ds0, p0, q0, hargs, rfl, rfl, h0, r0⟩ := trodAll_cons hA
 obtain ⟨rfl, rfl, rfl⟩ := trodAll_nil r0
 obtain rfl : args = #[v0] := by cases args; simp_all
 obtain ⟨rfl, rfl⟩ := trodVars_none hV
 obtain ⟨s0, rfl, rfl, rfl, hs0⟩ := open_string Tryz.underlying9 (hval 0 9 v0 rfl rfl) h0
 clear hA0
 refine (rleast_any s0 W ⟨lb_of hL hS (by kernel_rfl) (by kernel_rfl) (by kernel_rfl) (by kernel_rfl), words_of hL (by kernel_rfl)⟩).mono fun e W' ⟨he, hg⟩ => ?_
 subst he
 exact ⟨_, rfl, _, _, _, [], _, [], hW', trodAll_mk1 (shut_bool Tryz.underlying4 _), trodAll_cons_mk (shut_string Tryz.underlying9 hs0) trodAll_mk0, rfl, hg.frame _, fun h => by cases h⟩
theorem laid_met (os : Os) : laidMetH Tryz.prog Rows.reasonLeastRow.laid ((laidWorldK os).forCall (fun _ _ => 0) ⟨#[], #[.string ⟨#[]⟩], []⟩).memory :=
 laidMetH_of_parts (laidMet_of_run' 300 (by kernel_rfl) (by kernel_rfl)) (by kernel_rfl)
theorem reads (os : Os) {H : Type} (enc : TypeId × Value -> H) : ∃ places, DataW.whole enc Tryz.prog ((laidWorldK os).forCall (fun _ _ => 0) ⟨#[], #[.string ⟨#[]⟩], []⟩).memory Tryz.f11.params.toList Rows.reasonLeastSpec.vars false #[Value.string ⟨#[]⟩].toList 8 = some ([.lit (.string [])], [], places) :=
 ⟨[], by kernel_rfl⟩
theorem lifted (os : Os) (started : os.Started) (H : Type) (enc : TypeId × Value -> H) (F : Stop.Interp) :
  ReturnsInHanded {} Tryz.checked os 11 .any ((OpenSpec.ofChange Rows.reasonLeastSpec).preRow enc Tryz.prog Tryz.f11 Rows.reasonLeastRow.domain false Rows.reasonLeastRow.laid) (((OpenSpec.ofChange Rows.reasonLeastSpec).at F).post enc Tryz.prog Tryz.f11 false true false false) := by
 obtain ⟨places, hx⟩ := reads os enc
 refine returnsInHanded_of_row (C := Tryz.checked) (s := OpenSpec.ofChange Rows.reasonLeastSpec) own started (by kernel_rfl) Tryz.func11
  (witness_row_at (enc := enc) (C := Tryz.checked) false (laidWorldK os) #[.string ⟨#[]⟩] rfl (by kernel_rfl) (by kernel_rfl) (by kernel_rfl)
   (OpenSpec.preRow_of_cond 8 hx (by kernel_rfl) (fun k hk => by cases hk) (by kernel_rfl) (laid_met os))) ?_
 intro W base args ds gs before hval hW _ _ _ hL hS _
 exact contract H enc W base args ds gs before hval hW hL hS
theorem wrapped : Tryz.f11.isWrapper Tryz.pinned.checked.prog Rows.reasonLeastRow.wrapper Rows.reasonLeastRow.mainSum := by
 unfold Func.isWrapper; first | (rw [if_pos (by decide +kernel)]; kernel_rfl) | (rw [if_neg (by decide +kernel)]; exact ⟨rfl, rfl⟩)
theorem named : Tryz.pinned.checked.prog.funcNamed Rows.reasonLeastRow.func = some 11 := by kernel_rfl
theorem said : Rows.ReasonLeastSaid :=
 OpenClaim.holds_of_cond 11 Tryz.f11 rfl rfl rfl rfl rfl rfl rfl ⟨rfl, rfl, rfl, rfl, rfl⟩ rfl rfl rfl rfl rfl named Tryz.func11 facts
  (of_decide_eq_true (by kernel_rfl)) wrapped
  (fun os started H enc _ F => by rw [OpenClaim.pre_eq_preRow]; exact lifted os started H enc F)
theorem plain (f : FuncId) (fn : Func) (hf : Tryz.pinned.checked.prog.funcNamed "solspace/solspacekeep.ReasonLeast" = some f) (hfn : Tryz.pinned.checked.prog.funcs[f]? = some fn) :
  true = Tryz.pinned.checked.prog.looks [] /\ ∀ (j : Nat) t, fn.params[j]? = some t -> Tryz.pinned.checked.prog.wantsStandIn t = false := by
 obtain rfl : f = 11 := Option.some.inj (named.symm.trans hf) |>.symm
 obtain rfl : fn = Tryz.f11 := (Option.some.inj (Tryz.func11.symm.trans hfn)).symm
 refine ⟨by kernel_rfl, fun j t ht => ?_⟩
 rw [Tryz.params11] at ht
 have ht' : t = 9 := by simpa using Array.mem_of_getElem? ht
 subst ht'
 exact (show Tryz.prog.wantsStandIn 9 = false by kernel_rfl)
end Go.Proofs.YticagcamkmojcaaGreatDoor.reasonLeast
