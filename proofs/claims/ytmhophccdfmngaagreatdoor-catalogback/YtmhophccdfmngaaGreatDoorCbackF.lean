/- The closed facts of CatalogBack's row. -/
import Derived.Test.YtmhophccdfmngaaGreatDoorCtRuledP
import Derived.Test.YtmhophccdfmngaaGreatDoorCtParse
import Derived.Test.YtmhophccdfmngaaGreatDoorCtMem
import Derived.Test.YtmhophccdfmngaaGreatDoorCtLine
import Derived.WalkSmall
import Derived.Test.YtmhophccdfmngaaGreatDoorSvLaid
import Derived.Deep.RegionHeld3
import Derived.Deep.Grids
import Derived.Lib.SmallJoins
import Derived.Test.YtmhophccdfmngaaGreatDoorRows
import Derived.JoinedOf
import Derived.KernelRfl
set_option maxHeartbeats 0
set_option maxRecDepth 100000
namespace Go.Proofs.YtmhophccdfmngaaGreatDoor
open Go.RowKit Go.Deep Sv
def BoolsIn (w : World) (a : Option Addr) (bs : List Bool) : Prop := ∀ i, i < bs.length -> ∃ ad : Addr, a = some ad /\ ad.block < w.heap.size /\ w.cell? (ad.add i) = some (.bool (bs.getD i false))
theorem BoolsIn.below {B : Nat} {w w' : World} {a : Option Addr} {bs : List Bool} (h : BoolsIn w a bs) (hb : Below B w w') (hB : w.heap.size <= B) : BoolsIn w' a bs := fun i hi => by
 obtain ⟨ad, h1, h2, h3⟩ := h i hi
 exact ⟨ad, h1, Nat.lt_of_lt_of_le h2 hb.size, (hb.cell (p := ad.add i) (by rw [addr_block]; omega)).trans h3⟩
def CO (B : Nat) (W : World) (v : Value) (K : List (List Int)) : Prop := ∃ cs, W.ownsRow B 175 1 v K.length cs /\ ClsK 0 W cs K
theorem CO.new {B : Nat} {W W' : World} {v : Value} {K : List (List Int)} (h : CO B W v K) (hb : Below W.heap.size W W') : CO B W' v K := by
 obtain ⟨cs, h1, h2⟩ := h
 exact ⟨cs, row_new' h1 hb, h2.kp (Kp.new hb)⟩
theorem CO.app {B : Nat} {W w7 : World} {v v' : Value} {K : List (List Int)} {c : List Int} {a : Option Addr} {cap : Nat} {cs : List Value} (hB : B <= W.heap.size) (hrow : W.ownsRow B 175 1 v K.length cs) (hck : ClsK 0 W cs K)
  (hc1 : c.length <= cap) (hc2 : cap <= 9223372036854775807) (hi : IntsK 0 W a c)
  (hown : w7.ownsRow B 175 1 v' (K.length + 1) (cs ++ [.slice a c.length cap])) (hg : (W.alloc (.cells #[.slice a c.length cap] 175)).grownBy w7 v.ownBlock) : CO B w7 v' (K ++ [c]) /\ Below B W w7 := by
 have hbn := below_new W (.cells #[.slice a c.length cap] 175)
 have hk : Kp 0 (W.alloc (.cells #[.slice a c.length cap] 175)) w7 := Kp.grown (ownsRow_base (row_new' hrow hbn) (Nat.zero_le _)) hg (by decide)
 have hk3 := (Kp.new (B := 0) hbn).trans hk
 exact ⟨⟨_, by simpa using hown, (hck.kp hk3).snoc hc1 hc2 (hi.kp hk3)⟩, (hbn.mono hB).grown hg (by simp; omega) (fun k hk => (hrow.lt k hk).1)⟩
theorem RS.at {B : Nat} {W : World} {cv fv : Value} {P : List (Int × List Int)} (h : RS B W cv fv (P.map Prod.snd) (P.map Prod.fst)) (i : Nat) (hi : i < P.length) :
  ∃ cg cc fg fc a cap, cv = .slice (some ⟨cg, 0, none⟩) P.length cc /\ fv = .slice (some ⟨fg, 0, none⟩) P.length fc /\ W.cell? ⟨cg, i, none⟩ = some (.slice a (P.getD i default).2.length cap) /\ W.cell? ⟨fg, i, none⟩ = some (.int .i64 (P.getD i default).1) /\ IntsK 0 W a (P.getD i default).2 /\ PlA a := by
 obtain ⟨cs, h1, h2, _, h4⟩ := h.crow
 have h3 := h.frow
 obtain ⟨cg, cc, e1, _, hc1⟩ := (rowAt_own h1).cells (by rw [List.length_map]; omega)
 obtain ⟨fg, fc, e2, _, hc2⟩ := (rowAt_own h3).cells (by rw [List.length_map]; omega)
 obtain ⟨a, cap, q1, _, _, q4⟩ := h2.2 i (by simpa using hi)
 have g1 : (P.map Prod.snd).getD i [] = (P.getD i default).2 := by simp [List.getD_eq_getElem?_getD, hi]
 have g2 : (P.map Prod.fst).getD i 0 = (P.getD i default).1 := by simp [List.getD_eq_getElem?_getD, hi]
 rw [g1] at q1 q4
 refine ⟨cg, cc, fg, fc, a, cap, by simpa using e1, by simpa using e2, hc1 i _ q1, hc2 i _ (by rw [icells_at _ _ (by simpa using hi), g2]), q4, ?_⟩
 exact h4 _ (List.mem_of_getElem? q1) _ _ _ rfl
end Go.Proofs.YtmhophccdfmngaaGreatDoor
namespace Go.Proofs.YtmhophccdfmngaaGreatDoor
open Go.RowKit Go.Deep Sv
theorem CO.form {B : Nat} {W : World} {v : Value} {K : List (List Int)} (h : CO B W v K) : ∃ a c, v = .slice a K.length c := by
 obtain ⟨cs, h1, _⟩ := h
 obtain ⟨a, c, e, _⟩ := (rowAt_own h1).form
 exact ⟨a, c, e⟩
end Go.Proofs.YtmhophccdfmngaaGreatDoor
namespace Go.Proofs.YtmhophccdfmngaaGreatDoor
open Go.ChangeShapes Go.WideShapes Go.ChangeAt Go.RowKit Go.Shelf
theorem gWords : Tryz.prog.globalNamed "solspace/catalog.words" = some 2 := by kernel_rfl
theorem gWordsType : (Tryz.prog.globals[2]?).map (·.type) = some 202 := by kernel_rfl
theorem cellsWords : Tryz.prog.cellsOf 202 = 5 := by kernel_rfl
theorem cells_of_strs {H : Type} {enc : TypeId × Value -> H} {P : Program} {w : World} {base : Nat} {sp : Nat -> Bool} {held : Bool} {fuel : Nat} {t e : TypeId} {n : Nat} {cs : List Value} {zs : List ByteArray} {p : List MemPlace}
  (ht : P.underlying t = some (.array n e)) (he : P.underlying e = some .string) (hce : P.cellsOf e = 1) (hct : P.cellsOf t = n)
  (h : DataW.trod enc P w base sp held fuel t cs = some (.agg (zs.map fun z => .lit (.string z.data.toList)), p)) : cs = zs.map fun z => Value.string z := by
 cases fuel with
 | zero => simp [DataW.trod] at h
 | succ fuel =>
  simp only [DataW.trod, ht, hce, hct, Nat.mul_one] at h
  split at h
  ·rename_i hl
   obtain ⟨xs, hm, hx⟩ := Option.map_eq_some_iff.1 h
   have hxs : xs.map (·.1) = zs.map fun z => (DataW.lit (.string z.data.toList) : DataW H) := by
    have := congrArg Prod.fst hx
    simpa using this
   have hxl : xs.length = n := by simpa using Lib.mapM_length hm
   have hzl : zs.length = n := by
    have := congrArg List.length hxs
    simp at this
    omega
   apply List.ext_getElem?
   intro i
   by_cases hi : i < n
   ·obtain ⟨b, hb, hf⟩ := Lib.mapM_at hm i i (by simp [hi])
    obtain ⟨z, hc, rfl, _⟩ := DataW.trod_string he hf
    have h1 : cs[i]? = some (.string z) := by
     have := congrArg (·[0]?) hc
     simpa [List.getElem?_take, List.getElem?_drop] using this
    have h2 : (xs.map (·.1))[i]? = some (DataW.lit (.string z.data.toList) : DataW H) := by simp [hb]
    rw [hxs] at h2
    simp only [List.getElem?_map, Option.map_eq_some_iff, DataW.lit.injEq, Lit.string.injEq] at h2
    obtain ⟨z', hz', e⟩ := h2
    obtain rfl : z' = z := ByteArray.ext (Array.toList_inj.1 e)
    simp [h1, hz']
   ·rw [List.getElem?_eq_none (by omega), List.getElem?_eq_none (by simp; omega)]
  ·cases h
theorem words_of {W : World} {l : List (String × DataW Unit)} (h : laidMetH Tryz.prog l W) (hk : (l.filter fun x => x.1 == "solspace/catalog.words") = [("solspace/catalog.words", Rows.laid_solspace_catalog_words)]) : WordsAt W := by
 have h2 := h.filter fun x => x.1 == "solspace/catalog.words"
 rw [hk] at h2
 have h3 : laidMet Tryz.prog [("solspace/catalog.words", Rows.laid_solspace_catalog_words)] W := h2
 obtain ⟨ps, ⟨g', t', cs, fuel, p, q, hg', ht', hvar, hd, _, _⟩, _⟩ := h3
 obtain rfl := Option.some.inj (gWords.symm.trans hg')
 obtain rfl := Option.some.inj (gWordsType.symm.trans ht')
 have hcs := cells_of_strs (zs := [⟨#[]⟩, ⟨#[112, 97, 99, 107, 97, 103, 101]⟩, ⟨#[110, 101, 101, 100, 115]⟩, ⟨#[99, 108, 97, 115, 104, 101, 115]⟩, ⟨#[114, 111, 111, 116]⟩]) Tryz.underlying202 Tryz.underlying9 cellsStr cellsWords hd
 have H := fun (i : Nat) => World.var?_cell gWords hvar i
 obtain ⟨cs⟩ := cs
 simp only at hcs
 subst hcs
 exact ⟨by simpa using H 0, by simpa using H 1, by simpa using H 2, by simpa using H 3, by simpa using H 4⟩
noncomputable def laidWorldK (os : Os) : World :=
 let w0 := World.holding Tryz.prog os ⟨#[.cells #[.string ⟨#[118, 97, 108, 117, 101, 32, 111, 117, 116, 32, 111, 102, 32, 114, 97, 110, 103, 101]⟩] 312, .cells #[.string ⟨#[105, 110, 118, 97, 108, 105, 100, 32, 115, 121, 110, 116, 97, 120]⟩] 312], #[], []⟩
 { w0 with heap := ((((((((w0.heap.modify 3 (refill #[.iface 262 (.agg #[.pointer (some ⟨12, 33, none⟩)])])).modify 7 (refill #[.iface 310 (.pointer (some ⟨18, 0, none⟩))])).modify 8 (refill #[.iface 310 (.pointer (some ⟨17, 0, none⟩))])).modify 9 (refill (cellsIn Rows.laid_internal_strconv_uint64pow10))).modify 5 (refill (cellsIn Rows.laid_unicode_utf8_first))).modify 6 (refill (cellsIn Rows.laid_unicode_utf8_acceptRanges))).modify 10 (refill (cellsIn Rows.laid_math_bits_deBruijn32tab))).modify 11 (refill (cellsIn Rows.laid_math_bits_deBruijn64tab))).modify 2 (refill #[.string ⟨#[]⟩, .string ⟨#[112, 97, 99, 107, 97, 103, 101]⟩, .string ⟨#[110, 101, 101, 100, 115]⟩, .string ⟨#[99, 108, 97, 115, 104, 101, 115]⟩, .string ⟨#[114, 111, 111, 116]⟩]) }
end Go.Proofs.YtmhophccdfmngaaGreatDoor
namespace Go.Proofs.YtmhophccdfmngaaGreatDoor.catalogBack
theorem facts : joinedFacts Tryz.pinned.checked.prog 9 Tryz.f9 (OpenSpec.ofChange Rows.catalogBackSpec).bare Rows.catalogBackRow = true := by
 unfold joinedFacts
 repeat' (with_reducible refine Bool.and_eq_true_iff.2 ⟨?_, ?_⟩)
 all_goals as_aux_lemma => kernel_rfl
end Go.Proofs.YtmhophccdfmngaaGreatDoor.catalogBack
