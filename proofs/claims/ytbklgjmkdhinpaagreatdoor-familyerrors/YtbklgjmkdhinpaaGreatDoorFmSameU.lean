/- sameSets, at any two lists; rising lists with the same members. -/
import Derived.Test.YtbklgjmkdhinpaaGreatDoorSrBase
import Derived.Test.YtbklgjmkdhinpaaGreatDoorCnCmp
import Derived.Maps.RangeWalk
import Derived.Laws.BitsAllLaws
import Derived.RangeFuncBound
import Derived.Laws.CopyOwn
import Derived.Deep.RegionLaw
import Derived.Deep.RegionHeldLaw
set_option maxRecDepth 100000
namespace Go.Proofs.YtbklgjmkdhinpaaGreatDoor.Fm
open Go.RowKit Go.Maps Go.Proofs.YtbklgjmkdhinpaaGreatDoor.Bd
def UOk (x : Nat) : Prop := x < 18446744073709551616
def uLit (x : Nat) : Lit := .int .u64 (x : Int)
def trueElem : Value -> Option (DataW Unit × List MemPlace)
 | .bool b => some (.lit (.bool b), [])
 | _ => none
theorem trueElem_mk (b : Bool) : trueElem (.bool b) = some (.lit (.bool b), []) := rfl
theorem wfU {x : Nat} (h : UOk x) : (Lit.int .u64 (x : Int)).wf = true := by
 unfold UOk at h
 simp [Lit.wf, IntKind.min, IntKind.max, IntKind.signed, IntKind.bits]
 omega
theorem lawU : Keyed Tryz.prog 46 := int_keyed Tryz.underlying46
theorem keyU {x : Nat} (h : UOk x) : keyOf Tryz.prog 46 (.int .u64 (x : Int)) = some (uLit x) := keyOf_int_mk Tryz.underlying46 (wfU h)
theorem uLit_inj {x y : Nat} (h : uLit x = uLit y) : x = y := by unfold uLit at h; injection h; omega
theorem uLit_key (x : Nat) : WideAt.IsKeyLit (uLit x) := trivial
abbrev RepU (D : DataW Unit) (L : List Nat) : Prop := Rep UOk uLit (fun _ : Unit => .lit (.bool true)) D (L.map fun x => (x, ()))
def FL (w : World) (b : Nat) (L : List Nat) : Prop := ∃ D, w.ownsMap Tryz.prog 46 trueElem b L.length D /\ RepU D L
def FM (w : World) (b : Nat) (S : Nat -> Prop) : Prop := ∃ L, FL w b L /\ ∀ x, x ∈ L ↔ S x
section
variable {w w' : World} {b : Nat} {L : List Nat} {S S' : Nat -> Prop}
theorem fst_map (L : List Nat) : (L.map fun x => (x, ())).map Prod.fst = L := by rw [List.map_map]; exact List.map_id _
theorem RepU.nodup' {D : DataW Unit} (h : RepU D L) : L.Nodup := by have := h.nodup; rwa [fst_map] at this
theorem RepU.ok' {D : DataW Unit} (h : RepU D L) {x : Nat} (hx : x ∈ L) : UOk x := h.oks (x, ()) (List.mem_map_of_mem hx)
theorem FL.lt (h : FL w b L) : b < w.heap.size := by obtain ⟨D, hD, _⟩ := h; exact hD.lt
theorem FL.grown {r : Option Nat} (h : FL w b L) (hg : w.grownBy w' r) (hr : some b ≠ r) : FL w' b L := by obtain ⟨D, hD, hR⟩ := h; exact ⟨D, hD.kept hg hr, hR⟩
theorem FL.below (h : FL w b L) (hb : Below w.heap.size w w') : FL w' b L := by
 have hl := h.lt
 obtain ⟨D, ⟨es, clock, h1, h2⟩, hR⟩ := h
 exact ⟨D, ⟨es, clock, (hb.block b hl).trans h1, h2⟩, hR⟩
theorem FL.made (w : World) : FL (w.alloc (.map #[] 0)) w.heap.size [] := ⟨.map [], World.ownsMap_made w _ _ _, Rep.empty⟩
theorem FL.nodup (h : FL w b L) : L.Nodup := by obtain ⟨D, _, hR⟩ := h; exact RepU.nodup' hR
theorem FL.ok (h : FL w b L) {x : Nat} (hx : x ∈ L) : UOk x := by obtain ⟨D, _, hR⟩ := h; exact RepU.ok' hR hx
def putU (L : List Nat) (x : Nat) : List Nat := if x ∈ L then L else L ++ [x]
theorem mem_putU {x y : Nat} : y ∈ putU L x ↔ y ∈ L \/ y = x := by
 unfold putU; split
 ·constructor
  ·exact .inl
  ·rintro (h | rfl) <;> assumption
 ·simp
theorem FL.put (h : FL w b L) (hl : L.length < 1000000) {x : Nat} (hx : UOk x) : ∃ w', (Instr.mapUpdate 30 (.map (some b)) (.int .u64 (x : Int)) (.bool true)).run Tryz.prog w = .ok () w' /\ FL w' b (putU L x) /\ w.grownBy w' (some b) := by
 obtain ⟨D, hD, hR⟩ := h
 obtain ⟨w', hrun, h1, h2⟩ := hD.update lawU Tryz.underlying30 (by unfold maxLen; omega) (keyU hx) (trueElem_mk true)
 have hR' : RepU (D.put (uLit x) (.lit (.bool true))) (putU L x) := by
  unfold putU
  by_cases hm : x ∈ L
  ·rw [if_pos hm]
   exact hR.put_same (fun _ _ _ _ e => uLit_inj e) uLit_key (p := (x, ())) (List.mem_map_of_mem hm)
  ·rw [if_neg hm]
   have := hR.put (fun _ _ _ _ e => uLit_inj e) uLit_key hx (by rw [fst_map]; exact hm) ()
   unfold RepU
   rw [List.map_append]; exact this
 refine ⟨w', hrun, ⟨_, ?_, hR'⟩, h2⟩
 have := ownsMap_norm h1
 rw [hR'.size, List.length_map] at this
 exact this
theorem FM.lt (h : FM w b S) : b < w.heap.size := by obtain ⟨L, h, _⟩ := h; exact h.lt
theorem FM.grown {r : Option Nat} (h : FM w b S) (hg : w.grownBy w' r) (hr : some b ≠ r) : FM w' b S := by obtain ⟨L, h, e⟩ := h; exact ⟨L, h.grown hg hr, e⟩
theorem FM.below (h : FM w b S) (hb : Below w.heap.size w w') : FM w' b S := by obtain ⟨L, h, e⟩ := h; exact ⟨L, h.below hb, e⟩
theorem FM.made (w : World) : FM (w.alloc (.map #[] 0)) w.heap.size (fun _ => False) := ⟨[], FL.made w, fun x => by simp⟩
theorem FM.congr (h : FM w b S) (e : ∀ x, S x ↔ S' x) : FM w b S' := by obtain ⟨L, h, e'⟩ := h; exact ⟨L, h, fun x => (e' x).trans (e x)⟩
theorem FM.put (h : FM w b S) (hs : ∀ x, S x -> x < 65536) {x : Nat} (hx : UOk x) : ∃ w', (Instr.mapUpdate 30 (.map (some b)) (.int .u64 (x : Int)) (.bool true)).run Tryz.prog w = .ok () w' /\ FM w' b (fun y => S y \/ y = x) /\ w.grownBy w' (some b) := by
 obtain ⟨L, h, e⟩ := h
 have hl : L.length <= 65536 := nodupLe 65536 L h.nodup (fun x hx => hs x ((e x).1 hx))
 obtain ⟨w', hr, h', hg⟩ := h.put (by omega) hx
 exact ⟨w', hr, ⟨_, h', fun y => by rw [mem_putU, e]⟩, hg⟩
def RM (w : World) (b r : Nat) (S R : Nat -> Prop) (cnt : Nat) : Prop := ∃ L D left, w.ranges Tryz.prog 46 trueElem b r L.length D left cnt /\ RepU D L /\ (∀ x, x ∈ L ↔ S x) /\ (∀ x, R x -> S x) /\ (∀ x, UOk x -> (left (uLit x) = true ↔ R x)) /\ (∀ kl, left kl = true -> Maps.has D kl = true)
theorem RM.fm {r cnt : Nat} {R : Nat -> Prop} (h : RM w b r S R cnt) : FM w b S := by obtain ⟨L, D, left, h1, h2, h3, _⟩ := h; exact ⟨L, ⟨D, h1.owns, h2⟩, h3⟩
theorem RM.lt {r cnt : Nat} {R : Nat -> Prop} (h : RM w b r S R cnt) : r < w.heap.size := by obtain ⟨L, D, left, h1, _⟩ := h; exact h1.lt
theorem RM.grown {r cnt : Nat} {R : Nat -> Prop} {row : Option Nat} (h : RM w b r S R cnt) (hg : w.grownBy w' row) (hb : some b ≠ row) (hr : some r ≠ row) : RM w' b r S R cnt := by obtain ⟨L, D, left, h1, h2⟩ := h; exact ⟨L, D, left, h1.kept hg hb hr, h2⟩
end
section
variable (w : World) {ops : Array Oper} {rest : List Oper} {o : Oper} {a : Act} {Q : Exit -> Act -> World -> Prop}
end
end Go.Proofs.YtbklgjmkdhinpaaGreatDoor.Fm
namespace Go.Proofs.YtbklgjmkdhinpaaGreatDoor.Fm
open Go.RowKit Go.Maps Go.Proofs.YtbklgjmkdhinpaaGreatDoor.Bd
def subB (y x : Nat) : Bool := (bits .andNot .u64 (y : Int) (x : Int)) == 0
theorem part_any (y x : Nat) (w : World) : Calls Tryz.prog 54 #[.int .u64 (y : Int), .int .u64 (x : Int)] w fun e w' => e = .returned (.bool (subB y x)) /\ w = w' := by
 unfold subB
 go_enter Tryz.func54, Tryz.ntmps54
 go_wp2
 go_ret
 exact ⟨rfl, rfl⟩
section
variable {S : Nat -> Prop}
end
end Go.Proofs.YtbklgjmkdhinpaaGreatDoor.Fm
namespace Go.Proofs.YtbklgjmkdhinpaaGreatDoor.Fm
open Go.RowKit Go.Maps Go.Proofs.YtbklgjmkdhinpaaGreatDoor.Bd
def Blk (W : World) (b : Nat) (t : TypeId) (cs : Array Value) : Prop := W.heap[b]? = some (.cells cs t (0, 0))
theorem Blk.lt {W : World} {b : Nat} {t : TypeId} {cs : Array Value} (h : Blk W b t cs) : b < W.heap.size := (Array.getElem?_eq_some_iff.1 h).1
theorem Blk.cell {W : World} {b : Nat} {t : TypeId} {cs : Array Value} (h : Blk W b t cs) (i : Nat) : W.cell? ⟨b, i, none⟩ = cs[i]? := by
 simp [World.cell?, show W.heap[b]? = _ from h]
theorem Blk.frozen {W : World} {b : Nat} {t : TypeId} {cs : Array Value} (h : Blk W b t cs) (i : Nat) : W.frozen? ⟨b, i, none⟩ = false := by simp [World.frozen?, show W.heap[b]? = _ from h]
theorem Blk.new (W : World) (t : TypeId) (cs : Array Value) : Blk (W.alloc (.cells cs t)) W.heap.size t cs := World.alloc_heap_new W _
theorem Blk.kept {W W' : World} {row : Option Nat} {b : Nat} {t : TypeId} {cs : Array Value} (h : Blk W b t cs) (hg : W.grownBy W' row) (hne : some b ≠ row) : Blk W' b t cs := (hg.block b h.lt hne).trans h
theorem Blk.alloc {W : World} {b : Nat} {t : TypeId} {cs : Array Value} (h : Blk W b t cs) (o : Obj) : Blk (W.alloc o) b t cs := h.kept (World.grownBy_alloc W o none) (by simp)
theorem Blk.below {B : Nat} {W W' : World} {b : Nat} {t : TypeId} {cs : Array Value} (h : Blk W b t cs) (hb : Below B W W') (hB : b < B) : Blk W' b t cs := (hb.block b hB).trans h
theorem Blk.other {W : World} {b b' i : Nat} {t : TypeId} {cs : Array Value} {v : Value} (h : Blk W b t cs) (hne : b ≠ b') : Blk (W.setCell ⟨b', i, none⟩ v) b t cs := (Below.heap_setCell _ _ _ b hne).trans h
theorem Blk.put {W : World} {b l : Nat} {t : TypeId} {cs : Array Value} {o' : Obj} (h : Blk W b t cs) (hne : b ≠ l) : Blk (W.putObj l o') b t cs := (World.putObj_heap_other hne).trans h
theorem Blk.set {W : World} {b i : Nat} {t : TypeId} {cs : Array Value} {v : Value} (h : Blk W b t cs) : Blk (W.setCell ⟨b, i, none⟩ v) b t (cs.setIfInBounds i v) := by
 obtain ⟨hlt, hk⟩ := Array.getElem?_eq_some_iff.1 h
 show (W.heap.modify b _)[b]? = _
 rw [Array.getElem?_eq_getElem (by rw [Array.size_modify]; exact hlt), Array.getElem_modify_self, hk]
 rfl
theorem urow_form {B n : Nat} {w : World} {v : Value} {t : TypeId} {cs : List Value} (h : w.ownsRow B t 1 v n cs) : ∃ a c, v = .slice a n c := by
 rcases h.2 with ⟨e, e0⟩ | ⟨g, cap, cur, e, -⟩
 ·exact ⟨none, 0, by rw [e, e0]⟩
 ·exact ⟨_, _, e⟩
theorem urow_cell {B : Nat} {w : World} {a : Option Addr} {c : Nat} {l : List Nat} (h : w.ownsRow B 46 1 (.slice a l.length c) l.length (ucells l)) (i : Nat) (hi : i < l.length) : ∃ g, a = some ⟨g, 0, none⟩ /\ w.cell? ⟨g, i, none⟩ = some (.int .u64 (l.getD i 0 : Nat)) := by
 rcases h.2 with ⟨e, e0⟩ | ⟨g, cap, cur, e, hB, hg, hn, hm, hsz, htake⟩
 ·omega
 ·cases e
  refine ⟨g, rfl, ?_⟩
  have := h.cellAt i (by omega)
  rwa [ucells_at l i hi] at this
theorem RM.below {w w' : World} {b r n cnt : Nat} {S R : Nat -> Prop} (h : RM w b r S R cnt) (hb : Below n w w') (h1 : b < n) (h2 : r < n) : RM w' b r S R cnt := by
 obtain ⟨L, D, left, ⟨es, clock, since, seen, c0, e1, F, hs, hD, e2, rest⟩, h2'⟩ := h
 exact ⟨L, D, left, ⟨es, clock, since, seen, c0, (hb.block b h1).trans e1, F, hs, hD, (hb.block r h2).trans e2, rest⟩, h2'⟩
end Go.Proofs.YtbklgjmkdhinpaaGreatDoor.Fm
namespace Go.Proofs.YtbklgjmkdhinpaaGreatDoor.Fm
open Go.RowKit Go.Maps Go.Proofs.YtbklgjmkdhinpaaGreatDoor.Bd
def UArg (w : World) (v : Value) (l : List Nat) : Prop := ∃ a c, v = .slice a l.length c /\ ∀ i, i < l.length -> ∃ g, a = some ⟨g, 0, none⟩ /\ g < w.heap.size /\ w.cell? ⟨g, i, none⟩ = some (.int .u64 (l.getD i 0 : Nat))
theorem UArg.below {w w' : World} {v : Value} {l : List Nat} (h : UArg w v l) (hb : Below w.heap.size w w') : UArg w' v l := by
 obtain ⟨a, c, e, h⟩ := h
 refine ⟨a, c, e, fun i hi => ?_⟩
 obtain ⟨g, h1, h2, h3⟩ := h i hi
 exact ⟨g, h1, Nat.lt_of_lt_of_le h2 hb.size, (hb.cell (p := ⟨g, i, none⟩) h2).trans h3⟩
theorem UArg.of_row {B : Nat} {w : World} {v : Value} {l : List Nat} (h : w.ownsRow B 46 1 v l.length (ucells l)) : UArg w v l := by
 obtain ⟨a, c, rfl⟩ := urow_form h
 refine ⟨a, c, rfl, fun i hi => ?_⟩
 obtain ⟨g, rfl, hc⟩ := urow_cell h i hi
 exact ⟨g, rfl, (h.lt g rfl).2, hc⟩
end Go.Proofs.YtbklgjmkdhinpaaGreatDoor.Fm
