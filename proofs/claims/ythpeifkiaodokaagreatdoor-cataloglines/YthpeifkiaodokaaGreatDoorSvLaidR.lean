/- What the rows' lists give of solspaceref.Fine; a world in which the lists hold. -/
import Derived.Test.YthpeifkiaodokaaGreatDoorCards
import Derived.Test.YthpeifkiaodokaaGreatDoorTie
import Derived.Test.YthpeifkiaodokaaGreatDoorErTell
import Derived.ProofKit
import Derived.OpenShut
import Derived.Deep.DeepHandedRow
import Derived.LaidHandle
import Derived.LaidSub
import Derived.Test.YthpeifkiaodokaaGreatDoorSvPart
import Derived.Stop.LaidErr
import Derived.Shelf.Vars
import Derived.Lib.LaidTab
import Derived.Test.YthpeifkiaodokaaGreatDoorSvRParF
import Derived.Lib.SmallJoins
import Derived.ChangeSame
namespace Go.Proofs.YthpeifkiaodokaaGreatDoor
open Go.ChangeShapes Go.WideShapes Go.ChangeAt Go.RowKit

theorem own : ownKnob Tryz.prog.godebug = none := by kernel_rfl
theorem gErr : Tryz.prog.globalNamed "errors.errorType" = some 3 := by kernel_rfl
theorem rtypeIs : (Tryz.prog.cutTypes.find? (·.1 == "internal/reflectlite.rtype")).map (·.2) = some 262 := by kernel_rfl
theorem oneRow : ((List.range 341).filter fun t => Tryz.prog.rowNamed t [101, 114, 114, 111, 114]) = [33] := by kernel_rfl
theorem typesSize : Tryz.prog.types.size = 341 := by kernel_rfl

theorem glob_of {W : World} {l : List (String × DataW Unit)} (h : laidMetH Tryz.prog l W) (hk : (l.filter fun x => x.1 == "errors.errorType") = [("errors.errorType", Rows.laid_errors_errorType)]) : Glob W := by
  have h2 := h.filter fun x => x.1 == "errors.errorType"
  rw [hk] at h2
  have h3 : laidMet Tryz.prog [] W ∧ handlesMet Tryz.prog [("errors.errorType", Rows.laid_errors_errorType)] W := h2
  obtain ⟨name, u, ty, e1, e2, e3, e4, e5⟩ := h3.2 _ (List.mem_singleton.2 rfl)
  have en : name = [101, 114, 114, 111, 114] := (Option.some.inj e1).symm
  subst en
  obtain rfl := Option.some.inj (rtypeIs.symm.trans e2)
  have hm : ty ∈ (List.range 341).filter fun t => Tryz.prog.rowNamed t [101, 114, 114, 111, 114] := List.mem_filter.2 ⟨List.mem_range.2 (by rw [← typesSize]; exact e3), e4⟩
  rw [oneRow] at hm
  obtain rfl := List.mem_singleton.1 hm
  have hh : typeHandle Tryz.prog 33 = .pointer (some ⟨12, 33, none⟩) := by kernel_rfl
  rw [hh] at e5
  have h6 := World.var?_cell gErr e5 0
  unfold Glob; simpa using h6

/-- A block that holds other cells. -/
def refill (cs : Array Value) : Obj → Obj
  | .cells _ t frozen => .cells cs t frozen
  | o => o

noncomputable def laidWorld (os : Os) : World :=
  { World.holding Tryz.prog os ⟨#[], #[], []⟩ with heap := (World.holding Tryz.prog os ⟨#[], #[], []⟩).heap.modify 3 (refill #[.iface 262 (.agg #[.pointer (some ⟨12, 33, none⟩)])]) }
end Go.Proofs.YthpeifkiaodokaaGreatDoor

namespace Go.Proofs.YthpeifkiaodokaaGreatDoor
open Go.ChangeShapes Go.WideShapes Go.ChangeAt Go.RowKit Go.Shelf

theorem gTab : Tryz.prog.globalNamed "internal/strconv.uint64pow10" = some 9 := by kernel_rfl
theorem gTabType : (Tryz.prog.globals[9]?).map (·.type) = some 308 := by kernel_rfl
theorem cellsTab : Tryz.prog.cellsOf 308 = 20 := by kernel_rfl
theorem cellsTabE : Tryz.prog.cellsOf 260 = 1 := by kernel_rfl
theorem gSyn : Tryz.prog.globalNamed "strconv.ErrSyntax" = some 7 := by kernel_rfl
theorem gSynType : (Tryz.prog.globals[7]?).map (·.type) = some 33 := by kernel_rfl
theorem gRng : Tryz.prog.globalNamed "strconv.ErrRange" = some 8 := by kernel_rfl
theorem gRngType : (Tryz.prog.globals[8]?).map (·.type) = some 33 := by kernel_rfl
theorem cellsEs : Tryz.prog.cellsOf 312 = 1 := by kernel_rfl
theorem cellsStr : Tryz.prog.cellsOf 9 = 1 := by kernel_rfl
theorem starEs : "*" ++ "errors.errorString" = "*errors.errorString" := by decide
theorem rowEs (u : TypeId) (h : Tryz.prog.typeName? 3 u = some "*errors.errorString") : u = 310 :=
  typeName_ptr_named (nm := "errors.errorString") (by rw [starEs]; kernel_rfl) (by kernel_rfl) (by decide) u (by rw [starEs]; exact h)

theorem tab_of {W : World} {l : List (String × DataW Unit)} (h : laidMetH Tryz.prog l W) (hk : (l.filter fun x => x.1 == "internal/strconv.uint64pow10") = [("internal/strconv.uint64pow10", Lib.tabData .u64 Lib.pow10Tab)]) : Lib.TabIs Tryz.prog W "internal/strconv.uint64pow10" .u64 Lib.pow10Tab := by
  have h2 := h.filter fun x => x.1 == "internal/strconv.uint64pow10"
  rw [hk] at h2
  have h3 : laidMet Tryz.prog [("internal/strconv.uint64pow10", Lib.tabData .u64 Lib.pow10Tab)] W := h2
  exact Lib.tabIs_of_head (rest := []) gTab gTabType Tryz.underlying308 Tryz.underlying260 cellsTabE cellsTab h3
theorem syn_of {W : World} {l : List (String × DataW Unit)} (h : laidMetH Tryz.prog l W) (hk : (l.filter fun x => x.1 == "strconv.ErrSyntax") = [("strconv.ErrSyntax", Rows.laid_strconv_ErrSyntax)]) : ∃ ev, W.cell? ⟨7, 0, none⟩ = some ev ∧ (ev = .nilIface ∨ ∃ te pe, ev = .iface te pe) := by
  have h2 := h.filter fun x => x.1 == "strconv.ErrSyntax"
  rw [hk] at h2
  have h3 : laidMet Tryz.prog [("strconv.ErrSyntax", Rows.laid_strconv_ErrSyntax)] W := h2
  obtain ⟨a0, s0, hv0, -, -, -⟩ := laid_sentinel h3 gSyn gSynType Tryz.underlying33 rowEs Tryz.underlying310 Tryz.underlying312 rfl rfl Tryz.underlying9 cellsEs cellsStr
  exact ⟨_, by have h0 := World.var?_cell gSyn hv0 0; simpa using h0, .inr ⟨_, _, rfl⟩⟩
theorem rng_of {W : World} {l : List (String × DataW Unit)} (h : laidMetH Tryz.prog l W) (hk : (l.filter fun x => x.1 == "strconv.ErrRange") = [("strconv.ErrRange", Rows.laid_strconv_ErrRange)]) : ∃ ev, W.cell? ⟨8, 0, none⟩ = some ev ∧ (ev = .nilIface ∨ ∃ te pe, ev = .iface te pe) := by
  have h2 := h.filter fun x => x.1 == "strconv.ErrRange"
  rw [hk] at h2
  have h3 : laidMet Tryz.prog [("strconv.ErrRange", Rows.laid_strconv_ErrRange)] W := h2
  obtain ⟨a0, s0, hv0, -, -, -⟩ := laid_sentinel h3 gRng gRngType Tryz.underlying33 rowEs Tryz.underlying310 Tryz.underlying312 rfl rfl Tryz.underlying9 cellsEs cellsStr
  exact ⟨_, by have h0 := World.var?_cell gRng hv0 0; simpa using h0, .inr ⟨_, _, rfl⟩⟩
theorem ml_of {W : World} (h : W.ShapedOpen Tryz.prog) : ∃ n, W.cell? ⟨4, 0, none⟩ = some (.int .i64 n) :=
  cell_of_shapedOpen_int (zero := #[.int .i64 0]) (t := 3) h (of_decide_eq_true (by kernel_rfl)) (by kernel_rfl) rfl (by kernel_rfl) (by kernel_rfl) Tryz.underlying3
theorem big_of {W : World} (h : W.ShapedOpen Tryz.prog) : 12 ≤ W.heap.size := by
  obtain ⟨o, _, ho, _⟩ := h.2 12 (of_decide_eq_true (by kernel_rfl)) (of_decide_eq_true (by kernel_rfl))
  have := (Array.getElem?_eq_some_iff.1 ho).1
  omega
theorem lb_of {W : World} {l : List (String × DataW Unit)} (h : laidMetH Tryz.prog l W) (hs : W.ShapedOpen Tryz.prog)
    (k1 : (l.filter fun x => x.1 == "internal/strconv.uint64pow10") = [("internal/strconv.uint64pow10", Lib.tabData .u64 Lib.pow10Tab)])
    (k2 : (l.filter fun x => x.1 == "strconv.ErrSyntax") = [("strconv.ErrSyntax", Rows.laid_strconv_ErrSyntax)])
    (k3 : (l.filter fun x => x.1 == "strconv.ErrRange") = [("strconv.ErrRange", Rows.laid_strconv_ErrRange)])
    (k4 : (l.filter fun x => x.1 == "errors.errorType") = [("errors.errorType", Rows.laid_errors_errorType)]) : Lb W :=
  ⟨ml_of hs, syn_of h k2, rng_of h k3, tab_of h k1, glob_of h k4, big_of hs⟩

/-- The literals of a table's datum, as cells. -/
def cellsIn1 : DataW Unit → List Value
  | .lit (.int k z) => [.int k z]
  | _ => [undef]
def cellsIn2 : DataW Unit → List Value
  | .agg l => l.flatMap cellsIn1
  | d => cellsIn1 d
def cellsIn : DataW Unit → Array Value
  | .agg l => (l.flatMap cellsIn2).toArray
  | _ => #[]

/-- A world for a witness: the settled one, the library's variables holding what their initialisers lay. -/
noncomputable def laidWorldS (os : Os) : World :=
  let w0 := World.holding Tryz.prog os ⟨#[.cells #[.string ⟨#[118, 97, 108, 117, 101, 32, 111, 117, 116, 32, 111, 102, 32, 114, 97, 110, 103, 101]⟩] 312, .cells #[.string ⟨#[105, 110, 118, 97, 108, 105, 100, 32, 115, 121, 110, 116, 97, 120]⟩] 312], #[], []⟩
  { w0 with heap := (((((((w0.heap.modify 2 (refill #[.iface 262 (.agg #[.pointer (some ⟨12, 33, none⟩)])])).modify 3 (refill #[.iface 310 (.pointer (some ⟨16, 0, none⟩))])).modify 4 (refill #[.iface 310 (.pointer (some ⟨15, 0, none⟩))])).modify 5 (refill (cellsIn Rows.laid_internal_strconv_uint64pow10))).modify 6 (refill (cellsIn Rows.laid_unicode_utf8_first))).modify 7 (refill (cellsIn Rows.laid_unicode_utf8_acceptRanges))).modify 8 (refill (cellsIn Rows.laid_math_bits_deBruijn32tab))).modify 9 (refill (cellsIn Rows.laid_math_bits_deBruijn64tab)) }
end Go.Proofs.YthpeifkiaodokaaGreatDoor

namespace Go.Proofs.YthpeifkiaodokaaGreatDoor
open Go.ChangeShapes Go.WideShapes Go.ChangeAt Go.RowKit Go.Shelf

theorem gFine : Tryz.prog.globalNamed "solspace/solspaceref.Fine" = some 0 := by kernel_rfl
theorem gFineType : (Tryz.prog.globals[0]?).map (·.type) = some 26 := by kernel_rfl
theorem cellsIntF : Tryz.prog.cellsOf 3 = 1 := by kernel_rfl
theorem cellsErrno : Tryz.prog.cellsOf 24 = 1 := by kernel_rfl
theorem cellsFault : Tryz.prog.cellsOf 26 = 2 := by kernel_rfl

set_option maxRecDepth 100000 in
theorem fineR_of {W : World} {l : List (String × DataW Unit)} (h : laidMetH Tryz.prog l W) (hk : (l.filter fun x => x.1 == "solspace/solspaceref.Fine") = [("solspace/solspaceref.Fine", Rows.laid_solspace_solspaceref_Fine)]) : FineR W := by
  have h2 := h.filter fun x => x.1 == "solspace/solspaceref.Fine"
  rw [hk] at h2
  have h3 : laidMet Tryz.prog [("solspace/solspaceref.Fine", Rows.laid_solspace_solspaceref_Fine)] W := h2
  obtain ⟨ps, ⟨g', t', cs, fuel, p, q, hg', ht', hvar, hd, _, _⟩, _⟩ := h3
  obtain rfl := Option.some.inj (gFine.symm.trans hg')
  obtain rfl := Option.some.inj (gFineType.symm.trans ht')
  obtain ⟨y0, y1, n, hx, hl, g0, g1⟩ := trod_struct2 Tryz.underlying26 hd
  rw [cellsFault] at hl
  obtain ⟨cs⟩ := cs
  simp only at hl g0 g1
  match cs, hl with
  | [v0, v1], _ =>
    simp [cellsErrno, cellsIntF] at g0 g1
    obtain ⟨z0, e0, x0, -⟩ := DataW.trod_int Tryz.underlying24 g0
    obtain ⟨z1, e1, x1, -⟩ := DataW.trod_int Tryz.underlying3 g1
    simp at e0 e1
    subst e0 e1 x0 x1
    simp [Rows.laid_solspace_solspaceref_Fine] at hx
    obtain ⟨⟨rfl, rfl⟩, -⟩ := hx
    have h0 : W.cell? ⟨0, 0, none⟩ = some (.int .i64 0) := by have := World.var?_cell gFine hvar 0; simpa using this
    exact ⟨h0, by have := World.var?_cell gFine hvar 1; simpa using this, World.block_lt_of_cell? _ _ h0⟩

/-- A world for a witness. -/
noncomputable def laidWorldR (os : Os) : World :=
  let w0 := World.holding Tryz.prog os ⟨#[.cells #[.string ⟨#[118, 97, 108, 117, 101, 32, 111, 117, 116, 32, 111, 102, 32, 114, 97, 110, 103, 101]⟩] 312, .cells #[.string ⟨#[105, 110, 118, 97, 108, 105, 100, 32, 115, 121, 110, 116, 97, 120]⟩] 312], #[], []⟩
  { w0 with heap := (((((((((w0.heap.modify 3 (refill #[.iface 262 (.agg #[.pointer (some ⟨12, 33, none⟩)])])).modify 7 (refill #[.iface 310 (.pointer (some ⟨18, 0, none⟩))])).modify 8 (refill #[.iface 310 (.pointer (some ⟨17, 0, none⟩))])).modify 9 (refill (cellsIn Rows.laid_internal_strconv_uint64pow10))).modify 5 (refill (cellsIn Rows.laid_unicode_utf8_first))).modify 6 (refill (cellsIn Rows.laid_unicode_utf8_acceptRanges))).modify 10 (refill (cellsIn Rows.laid_math_bits_deBruijn32tab))).modify 11 (refill (cellsIn Rows.laid_math_bits_deBruijn64tab))).modify 2 (refill #[.string ⟨#[]⟩, .string ⟨#[112, 97, 99, 107, 97, 103, 101]⟩, .string ⟨#[110, 101, 101, 100, 115]⟩, .string ⟨#[99, 108, 97, 115, 104, 101, 115]⟩, .string ⟨#[114, 111, 111, 116]⟩])).modify 0 (refill #[.int .i64 0, .int .i64 (-1)]) }
set_option maxRecDepth 100000 in
theorem laidOutR : laidOutB Tryz.prog = true := by kernel_rfl
end Go.Proofs.YthpeifkiaodokaaGreatDoor
