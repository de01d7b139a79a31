/- What may be a line of a catalog, out of a text. -/
import Derived.Test.YtmhophccdfmngaaGreatDoorCtAsc
import Derived.Lib.QuietBelow
import Derived.Deep.CutRange
import Derived.Laws.Cover1
import Derived.Test.YtmhophccdfmngaaGreatDoorCtRowsW
import Derived.Test.YtmhophccdfmngaaGreatDoorCtChk
import Derived.Test.YtmhophccdfmngaaGreatDoorCtLine
import Derived.Test.YtmhophccdfmngaaGreatDoorCtMem
import Derived.WalkSmall
import Derived.Test.YtmhophccdfmngaaGreatDoorSvCuts
import Derived.Laws.CopyOwn
import Derived.Deep.RegionLaw
import Derived.Laws.BitsLemmas
import Derived.Deep.RegionHeldLaw
import Derived.Test.YtmhophccdfmngaaGreatDoorSvCmpG
import Derived.Test.YtmhophccdfmngaaGreatDoorCtGath
import Derived.Test.YtmhophccdfmngaaGreatDoorCtPS
import Derived.Test.YtmhophccdfmngaaGreatDoorCtTextL
import Derived.Test.YtmhophccdfmngaaGreatDoorCtRuledP
set_option maxRecDepth 100000
namespace Go.Proofs.YtmhophccdfmngaaGreatDoor
open Sv
theorem mixedP : Tryz.prog.follows .mixedOrders = true := by kernel_rfl
theorem less_cmp : ∀ a b : List UInt8, Op.bytesLess a b = decide (Lib.compareBytes a b < 0)
 | [], [] => by rfl
 | [], _ :: _ => by rfl
 | _ :: _, [] => by rfl
 | x :: a, y :: b => by
  have ih := less_cmp a b
  unfold Op.bytesLess Lib.compareBytes
  by_cases h1 : x < y
  ·simp [h1]
  ·by_cases h2 : y < x
   ·have h3 : x ≠ y := fun e => by subst e; exact h1 h2
    simp [h1, h2, h3]
   ·have h3 : x = y := u8_eq h1 h2
    subst h3
    simp [ih]
theorem less_names (x y : ByteArray) : Op.bytesLess x.toList y.toList = decide (Lib.compareBytes x.data.toList y.data.toList < 0) := by
 rw [ByteArray.toList_eq, ByteArray.toList_eq]; exact less_cmp _ _
end Go.Proofs.YtmhophccdfmngaaGreatDoor
namespace Go.Proofs.YtmhophccdfmngaaGreatDoor
open Go.RowKit Go.Shelf Sv
structure KindsAt (w : World) (ad : Addr) (cap : Nat) : Prop where
 c : w.cell? ⟨1, 0, none⟩ = some (.slice (some ad) 5 cap)
 s : ∀ j, j < 5 -> w.cell? (ad.add j) = some (.string ⟨(wl j).toArray⟩)
 lt : 1 < w.heap.size
 la : ad.block < w.heap.size
theorem KindsAt.below {w w' : World} {ad : Addr} {cap : Nat} (h : KindsAt w ad cap) (hb : Below w.heap.size w w') : KindsAt w' ad cap :=
 ⟨(hb.cell (p := ⟨1, 0, none⟩) h.lt).trans h.c, fun j hj => (hb.cell (p := ad.add j) (by rw [addr_block]; exact h.la)).trans (h.s j hj), Nat.lt_of_lt_of_le h.lt hb.size, Nat.lt_of_lt_of_le h.la hb.size⟩
structure LR (w W : World) (b : Nat) (cs : Array Value) : Prop where
 z : Blk W w.heap.size 79 z7
 f : Blk W (w.heap.size + 1) 26 #[.int .i64 0, .int .i64 0]
 x : Blk W b 79 cs
 ne : w.heap.size + 1 < b
 B : Below w.heap.size w W
theorem LR.step {w W W' : World} {b : Nat} {cs : Array Value} (h : LR w W b cs) (hb : Below W.heap.size W W') : LR w W' b cs := ⟨h.z.below hb h.z.lt, h.f.below hb h.f.lt, h.x.below hb h.x.lt, h.ne, h.B.trans (hb.mono h.B.size)⟩
theorem LR.set {w W : World} {b : Nat} {cs : Array Value} (h : LR w W b cs) (i : Nat) (v : Value) : LR w (W.setCell ⟨b, i, none⟩ v) b (cs.setIfInBounds i v) :=
 ⟨h.z.other (by have := h.ne; omega), h.f.other (by have := h.ne; omega), h.x.set, h.ne, h.B.setCell (p := ⟨b, i, none⟩) (by have := h.ne; show w.heap.size <= b; omega) _⟩
theorem LR.done {w W : World} {b : Nat} {cs : Array Value} (h : LR w W b cs) (v0 v1 v2 v3 v4 v5 v6 u0 u1 : Value) : ∃ Z, (((((((((W.setCell ⟨w.heap.size, 0, none⟩ v0).setCell ⟨w.heap.size, 1, none⟩ v1).setCell ⟨w.heap.size, 2, none⟩ v2).setCell ⟨w.heap.size, 3, none⟩ v3).setCell ⟨w.heap.size, 4, none⟩ v4).setCell ⟨w.heap.size, 5, none⟩ v5).setCell ⟨w.heap.size, 6, none⟩ v6).setCell ⟨w.heap.size + 1, 0, none⟩ u0).setCell ⟨w.heap.size + 1, 1, none⟩ u1) = Z /\
  Blk Z w.heap.size 79 #[v0, v1, v2, v3, v4, v5, v6] /\ Blk Z (w.heap.size + 1) 26 #[u0, u1] /\ Below w.heap.size w Z /\ (∀ (v : Value) (l : List Nat), (∀ g, v.ownBlock = some g -> w.heap.size + 1 < g) -> NsAt W v l -> NsAt Z v l) := by
 refine ⟨_, rfl, ?_, ?_, ?_, ?_⟩
 ·exact ((((((((h.z.set (i := 0) (v := v0)).set (i := 1) (v := v1)).set (i := 2) (v := v2)).set (i := 3) (v := v3)).set (i := 4) (v := v4)).set (i := 5) (v := v5)).set (i := 6) (v := v6)).other (by omega)).other (by omega)
 ·exact (((((((((h.f.other (by omega)).other (by omega)).other (by omega)).other (by omega)).other (by omega)).other (by omega)).other (by omega)).set (i := 0) (v := u0)).set (i := 1) (v := u1))
 ·exact ((((((((h.B.setCell (p := ⟨w.heap.size, 0, none⟩) (Nat.le_refl _) _).setCell (p := ⟨w.heap.size, 1, none⟩) (Nat.le_refl _) _).setCell (p := ⟨w.heap.size, 2, none⟩) (Nat.le_refl _) _).setCell (p := ⟨w.heap.size, 3, none⟩) (Nat.le_refl _) _).setCell (p := ⟨w.heap.size, 4, none⟩) (Nat.le_refl _) _).setCell (p := ⟨w.heap.size, 5, none⟩) (Nat.le_refl _) _).setCell (p := ⟨w.heap.size, 6, none⟩) (Nat.le_refl _) _).setCell (p := ⟨w.heap.size + 1, 0, none⟩) (Nat.le_succ _) _).setCell (p := ⟨w.heap.size + 1, 1, none⟩) (Nat.le_succ _) _
 ·intro v l hv hn
  refine ⟨hn.form, fun i hi => ?_⟩
  obtain ⟨g, cap, e, hg, hc⟩ := hn.cells i hi
  have hgt := hv g (by rw [e]; rfl)
  refine ⟨g, cap, e, by simp [World.setCell]; exact hg, ?_⟩
  rw [cell_set_other (by omega), cell_set_other (by omega), cell_set_other (by omega), cell_set_other (by omega), cell_set_other (by omega), cell_set_other (by omega), cell_set_other (by omega), cell_set_other (by omega), cell_set_other (by omega)]
  exact hc
end Go.Proofs.YtmhophccdfmngaaGreatDoor
namespace Go.Proofs.YtmhophccdfmngaaGreatDoor
open Go.RowKit Go.Deep Go.Maps
def boolElem : Value -> Option (DataW Unit × List MemPlace)
 | .bool b => some (.lit (.bool b), [])
 | _ => none
theorem boolElem_mk (b : Bool) : boolElem (.bool b) = some (.lit (.bool b), []) := rfl
theorem boolElem_inv {v : Value} {b : Bool} {ps : List MemPlace} (h : boolElem v = some (.lit (.bool b), ps)) : v = .bool b := by
 unfold boolElem at h
 split at h
 ·simp at h; rw [h.1]
 ·cases h
theorem zeroBool (w : World) : (zeroValue 4).run Tryz.prog w = .ok (.bool false) w := by kernel_rfl
def RNames (w : World) (bm : Nat) (l : List It) : Prop := ∃ D, w.ownsMap Tryz.prog 9 boolElem bm (namesN l) D /\ FRep (fun _ : Unit => .lit (.bool true)) D (namesF l) (namesN l)
theorem RNames.made (w : World) : RNames (w.alloc (.map #[] 0)) w.heap.size [] := ⟨.map [], World.ownsMap_made w _ _ _, FRep.empty⟩
theorem RNames.below {B : Nat} {w w' : World} {bm : Nat} {l : List It} (h : RNames w bm l) (hb : Below B w w') (hB : w.heap.size <= B) : RNames w' bm l := by
 obtain ⟨D, h1, h2⟩ := h
 exact ⟨D, ownsMap_below h1 (hb.mono hB), h2⟩
theorem RNames.lt {w : World} {bm : Nat} {l : List It} (h : RNames w bm l) : bm < w.heap.size := by obtain ⟨D, h1, _⟩ := h; exact h1.lt
theorem RNames.block {w w' : World} {bm : Nat} {l : List It} (h : RNames w bm l) (hb : w'.heap[bm]? = w.heap[bm]?) : RNames w' bm l := by
 obtain ⟨D, ⟨es, clock, h1, h2⟩, hR⟩ := h
 exact ⟨D, ⟨es, clock, hb.trans h1, h2⟩, hR⟩
theorem RNames.put {w : World} {bm : Nat} {l : List It} (h : RNames w bm l) (hl : l.length < 1000000) {x : It} (hs : x.name.size <= 100000) :
  ∃ w', (Instr.mapUpdate 142 (.map (some bm)) (.string x.name) (.bool true)).run Tryz.prog w = .ok () w' /\ RNames w' bm (l ++ [x]) /\ w.grownBy w' (some bm) := by
 obtain ⟨D, hD, hR⟩ := h
 have hle := namesN_le l
 obtain ⟨w', hrun, g1, k1⟩ := hD.update lawStr Tryz.underlying142 (by unfold maxLen; omega) (keyStr hs) (boolElem_mk true)
 have hR1 := hR.put x.name ()
 have e1 : (fun c => if c = x.name then some () else namesF l c) = namesF (l ++ [x]) := by
  funext c
  unfold namesF
  by_cases h : c = x.name
  ·simp [h]
  ·simp [h]
 have e2 : (if (namesF l x.name).isSome then namesN l else namesN l + 1) = namesN (l ++ [x]) := by
  rw [namesN_snoc]
  unfold namesF
  by_cases h : x.name ∈ l.map It.name
  ·rw [if_pos h, if_pos h]; rfl
  ·rw [if_neg h, if_neg h]; rfl
 rw [e1, e2] at hR1
 exact ⟨w', hrun, ⟨_, hR1.size ▸ ownsMap_norm g1, hR1⟩, k1⟩
theorem RNames.len {w : World} {bm : Nat} {l : List It} (h : RNames w bm l) (ty : TypeId) : (Builtin.len_ #[142] ty #[.map (some bm)]).run Tryz.prog w = .ok (.int .i64 (namesN l : Int)) w := by
 obtain ⟨D, hD, hR⟩ := h
 rw [hD.len Tryz.underlying142 ty, hR.size]
theorem laidOutS : laidOutB Tryz.prog = true := by kernel_rfl
theorem rowRItem : (69 : TypeId) < Tryz.prog.types.size := of_decide_eq_true (by kernel_rfl)
theorem wideRItem : (match Tryz.prog.underlying 69 with | some (.array _ _) | some (.struct _) => true | _ => false) = true := by rw [Tryz.underlying69]
theorem lawRI : Keyed Tryz.prog 69 := Keyed.of_law (deep_law_laid laidOutS (m := 3) (by omega) rowRItem (by kernel_rfl) wideRItem)
theorem keyTypeRI : Tryz.prog.keyType 69 = true := by kernel_rfl
theorem cellsRI : Tryz.prog.cellsOf 69 = 4 := by kernel_rfl
theorem cellsRV : Tryz.prog.cellsOf 48 = 3 := by kernel_rfl
theorem cellsI3 : Tryz.prog.cellsOf 3 = 1 := by kernel_rfl
theorem cellsS9 : Tryz.prog.cellsOf 9 = 1 := by kernel_rfl
def itV (x : It) : Value := .agg #[.string x.name, .int .i64 x.a, .int .i64 x.b, .int .i64 x.c]
def ItOk (x : It) : Prop := x.name.size <= 100000 /\ (0 <= x.a /\ x.a <= 999) /\ (0 <= x.b /\ x.b <= 999) /\ 0 <= x.c /\ x.c <= 999
def itLit (x : It) : Lit := .string (keyBytes [.string x.name.data.toList, .int .i64 x.a, .int .i64 x.b, .int .i64 x.c])
theorem wf_n {m : Int} (h : 0 <= m /\ m <= 999) : (Lit.int .i64 m).wf = true := by
 simp [Lit.wf, IntKind.min, IntKind.max, IntKind.signed, IntKind.bits]
 omega
theorem litsN (d : Nat) {m : Int} (h : 0 <= m /\ m <= 999) : Tryz.prog.keyLits (d + 1) 3 [.int .i64 m] = some [.int .i64 m] := by
 unfold Program.keyLits
 rw [Tryz.underlying3]
 simp [wf_n h]
theorem litsS (d : Nat) {s : ByteArray} (h : s.size <= 100000) : Tryz.prog.keyLits (d + 1) 9 [.string s] = some [.string s.data.toList] := by
 unfold Program.keyLits
 rw [Tryz.underlying9]
 have h2 : s.size <= maxLen := by unfold maxLen; omega
 simp [h2]
theorem litsV (d : Nat) {a b c : Int} (ha : 0 <= a /\ a <= 999) (hb : 0 <= b /\ b <= 999) (hc : 0 <= c /\ c <= 999) : Tryz.prog.keyLits (d + 2) 48 [.int .i64 a, .int .i64 b, .int .i64 c] = some [.int .i64 a, .int .i64 b, .int .i64 c] := by
 unfold Program.keyLits
 rw [Tryz.underlying48]
 have e : List.range 3 = [0, 1, 2] := rfl
 simp [cellsRV, cellsI3, e, litsN d ha, litsN d hb, litsN d hc]
theorem keyRI (x : It) (h : ItOk x) : keyOf Tryz.prog 69 (itV x) = some (itLit x) := by
 have hf : (itV x).formed Tryz.prog 69 = true := by simp [Value.formed, Tryz.underlying69, cellsRI, itV]
 unfold keyOf
 rw [Tryz.underlying69]
 simp only [keyTypeRI, hf, Bool.and_self, if_true]
 obtain ⟨d, hd⟩ : ∃ d, Tryz.prog.types.size + 1 = d + 3 := ⟨Tryz.prog.types.size - 2, by have : 3 < Tryz.prog.types.size := of_decide_eq_true (by kernel_rfl); omega⟩
 rw [hd]
 have hc : (itV x).cells.toList = [.string x.name, .int .i64 x.a, .int .i64 x.b, .int .i64 x.c] := rfl
 rw [hc]
 unfold Program.keyLits
 rw [Tryz.underlying69]
 simp [cellsRI, cellsRV, cellsS9, litsS (d + 1) h.1, litsV d h.2.1 h.2.2.1 h.2.2.2, itLit]
theorem itLit_inj {x y : It} (hx : ItOk x) (hy : ItOk y) (h : itLit x = itLit y) : x = y := by
 have := lawRI.inj (keyRI x hx) (h ▸ keyRI y hy)
 obtain ⟨n, a, b, c⟩ := x
 obtain ⟨n', a', b', c'⟩ := y
 simp [itV] at this
 obtain ⟨rfl, rfl, rfl, rfl⟩ := this
 rfl
def unitI (l : List It) : List (It × Unit) := l.map fun s => (s, ())
theorem unitI_fst (l : List It) : (unitI l).map Prod.fst = l := by unfold unitI; rw [List.map_map]; simp [Function.comp_def]
def IRep (D : DataW Unit) (l : List It) : Prop := Rep ItOk itLit (fun _ : Unit => .lit (.bool true)) D (unitI l)
def RItems (w : World) (bm : Nat) (l : List It) : Prop := ∃ D, w.ownsMap Tryz.prog 69 boolElem bm l.length D /\ IRep D l
theorem RItems.lt {w : World} {bm : Nat} {l : List It} (h : RItems w bm l) : bm < w.heap.size := by obtain ⟨D, hD, _⟩ := h; exact hD.lt
theorem RItems.made (w : World) : RItems (w.alloc (.map #[] 0)) w.heap.size [] := ⟨.map [], World.ownsMap_made w _ _ _, Rep.empty⟩
theorem RItems.block {w w' : World} {bm : Nat} {l : List It} (h : RItems w bm l) (hb : w'.heap[bm]? = w.heap[bm]?) : RItems w' bm l := by
 obtain ⟨D, ⟨es, clock, h1, h2⟩, hR⟩ := h
 exact ⟨D, ⟨es, clock, hb.trans h1, h2⟩, hR⟩
theorem RItems.below {B : Nat} {w w' : World} {bm : Nat} {l : List It} (h : RItems w bm l) (hb : Below B w w') (hB : w.heap.size <= B) : RItems w' bm l := by
 obtain ⟨D, h1, h2⟩ := h
 exact ⟨D, ownsMap_below h1 (hb.mono hB), h2⟩
theorem RItems.look {w : World} {bm : Nat} {l : List It} (h : RItems w bm l) {x : It} (hx : ItOk x) :
  (Instr.lookup 143 (.map (some bm)) (.agg #[.string x.name, .int .i64 x.a, .int .i64 x.b, .int .i64 x.c]) false).run Tryz.prog w = .ok (.bool (decide (x ∈ l))) w := by
 obtain ⟨D, hD, hR⟩ := h
 obtain ⟨v, ps, hrun, hv⟩ := hD.lookup lawRI Tryz.underlying143 (zeroBool w) (boolElem_mk false) (keyRI x hx)
 by_cases hm : x ∈ l
 ·rw [show D.atKey (itLit x) (.lit (.bool false)) = .lit (.bool true) from hR.at' (x, ()) (by unfold unitI; exact List.mem_map.2 ⟨x, hm, rfl⟩) _] at hv
  rw [boolElem_inv hv] at hrun
  rw [decide_eq_true hm]
  exact hrun
 ·have hn : Maps.has D (itLit x) = false := Rep.not hR hx (by rw [unitI_fst]; exact hm)
  rw [atKey_of_not_has hn] at hv
  rw [boolElem_inv hv] at hrun
  rw [decide_eq_false hm]
  exact hrun
theorem RItems.put {w : World} {bm : Nat} {l : List It} (h : RItems w bm l) (hl : l.length < 1000000) {x : It} (hx : ItOk x) (hn : x ∉ l) :
  ∃ w', (Instr.mapUpdate 143 (.map (some bm)) (.agg #[.string x.name, .int .i64 x.a, .int .i64 x.b, .int .i64 x.c]) (.bool true)).run Tryz.prog w = .ok () w' /\ RItems w' bm (l ++ [x]) /\ w.grownBy w' (some bm) := by
 obtain ⟨D, hD, hR⟩ := h
 obtain ⟨w', hrun, g1, k1⟩ := hD.update lawRI Tryz.underlying143 (by unfold maxLen; omega) (keyRI x hx) (boolElem_mk true)
 have hR1 : IRep (D.put (itLit x) (.lit (.bool true))) (l ++ [x]) := by
  have := Rep.put hR (fun a b ha hb e => itLit_inj ha hb e) (fun _ => trivial) hx (by rw [unitI_fst]; exact hn) ()
  show Rep _ _ _ _ (unitI (l ++ [x]))
  unfold unitI at *
  rw [List.map_append]
  exact this
 refine ⟨w', hrun, ⟨_, ?_, hR1⟩, k1⟩
 have h2 := hR1.size
 unfold unitI at h2
 rw [List.length_map] at h2
 exact h2 ▸ ownsMap_norm g1
theorem RItems.len {w : World} {bm : Nat} {l : List It} (h : RItems w bm l) (ty : TypeId) : (Builtin.len_ #[143] ty #[.map (some bm)]).run Tryz.prog w = .ok (.int .i64 (l.length : Int)) w := by
 obtain ⟨D, hD, hR⟩ := h
 rw [hD.len Tryz.underlying143 ty, hR.size, unitI, List.length_map]
theorem RNames.ne {w : World} {bm b : Nat} {l : List It} {t : TypeId} {cs : Array Value} (h : RNames w bm l) (hb : Blk w b t cs) : bm ≠ b := by
 rintro rfl
 obtain ⟨D, ⟨es, clock, h1, _⟩, _⟩ := h
 have := h1.symm.trans hb
 cases this
theorem RItems.ne {w : World} {bm b : Nat} {l : List It} {t : TypeId} {cs : Array Value} (h : RItems w bm l) (hb : Blk w b t cs) : bm ≠ b := by
 rintro rfl
 obtain ⟨D, ⟨es, clock, h1, _⟩, _⟩ := h
 have := h1.symm.trans hb
 cases this
end Go.Proofs.YtmhophccdfmngaaGreatDoor
namespace Go.Proofs.YtmhophccdfmngaaGreatDoor
open Go.RowKit Go.Deep Go.Maps Sv
def RLs (w : World) (v : Value) (ls : List Ln) : Prop := ∃ vs, (vs.length = ls.length /\ ∀ i, i < ls.length -> NsAt w (vs.getD i undef) (tp (ls.getD i default).rng) /\ Rg (ls.getD i default).rng) /\ RowAt w v ls.length (lnCells ls vs)
theorem RLs.below {B : Nat} {w w' : World} {v : Value} {l : List Ln} (h : RLs w v l) (hb : Below B w w') (hB : w.heap.size <= B) : RLs w' v l := by
 obtain ⟨vs, ⟨h1, h2⟩, h3⟩ := h
 exact ⟨vs, ⟨h1, fun i hi => ⟨(h2 i hi).1.below hb hB, (h2 i hi).2⟩⟩, h3.below hb hB⟩
theorem RLs.at {w : World} {v : Value} {l : List Ln} (h : RLs w v l) (i : Nat) (hi : i < l.length) : ∃ g cap ra rc, v = .slice (some ⟨g, 0, none⟩) l.length cap /\ g < w.heap.size /\ NsAt w (.slice ra (tp (l.getD i default).rng).length rc) (tp (l.getD i default).rng) /\ Rg (l.getD i default).rng /\ w.cell? ⟨g, i * 7, none⟩ = some (.int .i64 (l.getD i default).kind) /\ w.cell? ⟨g, i * 7 + 1, none⟩ = some (.string (l.getD i default).name) /\ w.cell? ⟨g, i * 7 + 2, none⟩ = some (.int .i64 (l.getD i default).a) /\ w.cell? ⟨g, i * 7 + 3, none⟩ = some (.int .i64 (l.getD i default).b) /\ w.cell? ⟨g, i * 7 + 4, none⟩ = some (.int .i64 (l.getD i default).c) /\ w.cell? ⟨g, i * 7 + 5, none⟩ = some (.string (l.getD i default).other) /\ w.cell? ⟨g, i * 7 + 6, none⟩ = some (.slice ra (tp (l.getD i default).rng).length rc) := by
 obtain ⟨vs, ⟨h1, h1'⟩, h2⟩ := h
 obtain ⟨g, cap, e, hg, hc⟩ := h2.cells (by omega)
 have H := fun j u hu => hc _ _ (lnCells_at l vs h1 i hi j u hu)
 have hN := (h1' i hi).1
 obtain ⟨ra, rc, hf⟩ := hN.form
 have h6 : w.cell? ⟨g, i * 7 + 6, none⟩ = some (vs.getD i undef) := H 6 _ rfl
 rw [hf] at hN h6
 exact ⟨g, cap, ra, rc, e, hg, hN, (h1' i hi).2, H 0 _ rfl, H 1 _ rfl, H 2 _ rfl, H 3 _ rfl, H 4 _ rfl, H 5 _ rfl, h6⟩
theorem itOk_of {x : Ln} (h : ctCheck x = 0) : ItOk x.it := by
 have hn := check_name h
 unfold ctCheck at h
 split at h
 ·cases h
 ·split at h
  ·cases h
  ·split at h
   ·cases h
   ·split at h
    ·cases h
    ·split at h
     ·cases h
     ·split at h
      ·cases h
      ·rename_i hi
       have hi : InV x.a x.b x.c := Classical.byContradiction fun e => hi e
       exact ⟨show x.name.size <= 100000 by omega, hi⟩
structure CS (w W : World) (its : List It) : Prop where
 nm : RNames W (w.heap.size + 1) its
 al : RItems W (w.heap.size + 2) its
 f : Blk W w.heap.size 26 #[.int .i64 0, .int .i64 0]
 B : Below w.heap.size w W
theorem CS.step {w W W' : World} {its : List It} (h : CS w W its) (hb : Below W.heap.size W W') : CS w W' its :=
 ⟨h.nm.below hb (Nat.le_refl _), h.al.below hb (Nat.le_refl _), h.f.below hb h.f.lt, h.B.trans (hb.mono h.B.size)⟩
theorem CS.made (w : World) : CS w (((w.alloc (.cells #[.int .i64 0, .int .i64 0] 26)).alloc (.map #[] 0)).alloc (.map #[] 0)) [] := by
 have h1 := RNames.made (w.alloc (.cells #[.int .i64 0, .int .i64 0] 26))
 have h2 := RItems.made ((w.alloc (.cells #[.int .i64 0, .int .i64 0] 26)).alloc (.map #[] 0))
 have h3 : Below ((w.alloc (.cells #[.int .i64 0, .int .i64 0] 26)).alloc (.map #[] 0)).heap.size ((w.alloc (.cells #[.int .i64 0, .int .i64 0] 26)).alloc (.map #[] 0)) (((w.alloc (.cells #[.int .i64 0, .int .i64 0] 26)).alloc (.map #[] 0)).alloc (.map #[] 0)) := (Below.refl _ _).alloc (Nat.le_refl _) _
 have h4 := h1.below h3 (Nat.le_refl _)
 simp only [World.size_alloc] at h2 h4
 have h5 : Below w.heap.size w (w.alloc (.cells #[.int .i64 0, .int .i64 0] 26)) := (Below.refl _ w).alloc (Nat.le_refl _) _
 exact ⟨h4, h2, ((Blk.new w _ _).alloc _).alloc _, ((h5.alloc h5.size _).alloc (by simp; omega) _)⟩
theorem CS.put {w W : World} {its : List It} (h : CS w W its) (hl : its.length < 1000000) {x : It} (hx : ItOk x) (hn : x ∉ its) :
  ∃ W1 W2, (Instr.mapUpdate 142 (.map (some (w.heap.size + 1))) (.string x.name) (.bool true)).run Tryz.prog W = .ok () W1 /\ (Instr.mapUpdate 143 (.map (some (w.heap.size + 2))) (.agg #[.string x.name, .int .i64 x.a, .int .i64 x.b, .int .i64 x.c]) (.bool true)).run Tryz.prog W1 = .ok () W2 /\ CS w W2 (its ++ [x]) /\ (∀ k t cs, Blk W k t cs -> Blk W1 k t cs /\ Blk W2 k t cs) := by
 obtain ⟨W1, r1, n1, g1⟩ := h.nm.put hl hx.1
 have a1 : RItems W1 (w.heap.size + 2) its := h.al.block (g1.block _ h.al.lt (by simp))
 obtain ⟨W2, r2, n2, g2⟩ := a1.put hl hx hn
 have k1 : ∀ k t cs, Blk W k t cs -> Blk W1 k t cs := fun k t cs hk => hk.kept g1 (fun e => h.nm.ne hk (Option.some.inj e).symm)
 have k2 : ∀ k t cs, Blk W1 k t cs -> Blk W2 k t cs := fun k t cs hk => hk.kept g2 (fun e => a1.ne hk (Option.some.inj e).symm)
 refine ⟨W1, W2, r1, r2, ⟨n1.block (g2.block _ n1.lt (by simp)), n2, k2 _ _ _ (k1 _ _ _ h.f), ?_⟩, fun k t cs hk => ⟨k1 k t cs hk, k2 k t cs (k1 k t cs hk)⟩⟩
 have hB1 := h.B.grown g1 h.B.size (fun k hk => by cases hk; omega)
 exact hB1.grown g2 hB1.size (fun k hk => by cases hk; omega)
end Go.Proofs.YtmhophccdfmngaaGreatDoor
namespace Go.Proofs.YtmhophccdfmngaaGreatDoor
open Go.RowKit Go.Shelf Sv
theorem lnOk_of {x : Ln} (h : ctCheck x = 0) (hr : Rg x.rng) : LnOk x := by
 have hi := itOk_of h
 have hn := check_name h
 obtain ⟨h1, h2, h3, h4⟩ := hi
 simp only [Ln.it] at h1 h2 h3 h4
 have hk : 1 <= x.kind /\ x.kind <= 4 := by
  unfold ctCheck at h
  split at h
  ·cases h
  ·omega
 have ho : x.other.size <= 100000 := by
  unfold ctCheck at h
  split at h
  ·cases h
  ·split at h
   ·cases h
   ·rename_i hx
    split at h
    ·cases h
    ·rename_i hy
     by_cases hp : x.pair
     ·have : NameOk x.other := Classical.byContradiction fun e => hx (Or.inr ⟨hp, e⟩)
      have := this.len
      omega
     ·have : x.other.size = 0 := Classical.byContradiction fun e => hy ⟨hp, e⟩
      omega
 exact ⟨hk.1, hk.2, by omega, ho, by omega, by omega, by omega, hr⟩
theorem lnOk_all {s : ByteArray} {ls : List Ln} {its : List It} (h : parseF s = .ok (ls, its)) (hr : ∀ i, i < ls.length -> Rg (ls.getD i default).rng) : ls.length <= 100 /\ ∀ i, i < ls.length -> LnOk (ls.getD i default) := by
 obtain ⟨-, h2, h3⟩ := newF_ok (parseF_ok h)
 refine ⟨h2, fun i hi => lnOk_of (h3 _ ?_) (hr i hi)⟩
 rw [List.getD_eq_getElem?_getD, List.getElem?_eq_getElem hi]
 exact List.getElem_mem hi
end Go.Proofs.YtmhophccdfmngaaGreatDoor
