/- A list of structs of four ints, as an argument. -/
import Derived.Test.YtcjjekhecjmaeaaGreatDoorArTop
import Derived.Test.YtcjjekhecjmaeaaGreatDoorBdFree
import Derived.Deep.Slices
import Derived.Lib.SmallJoins
set_option maxHeartbeats 2000000
set_option maxRecDepth 100000
namespace Go.Proofs.YtcjjekhecjmaeaaGreatDoor
section
open Go.RowKit Go.Maps
section
variable {A : Nat} {w : World} {s b : Nat} {O : Nat -> Prop} {vars : Nat} {room : Int} {ns : List Nd}
theorem leads_any (hS : SpaceAt A w s b O vars room ns) (hl : ns.length <= 90000) (H : List Int) (hH : ∀ x ∈ H, hasB ns x = true) (g c pb sb : Nat) (v n : Nat)
  (c6 : w.cell? ⟨pb, 0, none⟩ = some (.slice (some ⟨g, 0, none⟩) H.length c)) (c2 : w.cell? ⟨sb, 0, none⟩ = some (.pointer (some ⟨s, 0, none⟩)))
  (hc : ∀ j (h : j < H.length), w.cell? ⟨g, j, none⟩ = some (.int .i64 H[j])) :
  Calls Tryz.prog 89 #[.int .i64 (v : Int), .int .i64 (n : Int), .pointer (some ⟨pb, 0, none⟩), .pointer (some ⟨sb, 0, none⟩)] w fun e w' => e = .returned (.bool (decide (n < H.length /\ (v : Int) < topOf ns (H.getD n 0)))) /\ ∃ m, w' = w.drewN m := by
 by_cases h : n < H.length
 ·have e0 : H.getD n 0 = H[n] := by simp [List.getD_eq_getElem?_getD, h]
  have cH := hc n h
  have hi : I64 H[n] := has_i64 (hH _ (List.getElem_mem h)) (by omega)
  have TL : Hid (∀ m, Calls Tryz.prog 37 #[.pointer (some ⟨b, 0, none⟩), .int .i64 H[n]] (w.drewN m) fun e w' => e = .returned (.int .i64 (topOf ns H[n])) /\ ∃ m', w' = w.drewN m') := fun m => (spTop (hS.kept (kept_drewN (fun _ => False) w m) (fun _ _ h => h) (fun h => h)) H[n] hi (by omega)).mono fun e w' ⟨h1, h2⟩ => ⟨h1, m, h2.symm⟩
  have c0 := hS.c0
  have e1 : decide (n < H.length /\ (v : Int) < topOf ns (H.getD n 0)) = decide ((v : Int) < topOf ns H[n]) := by rw [e0]; simp [h]
  rw [e1]
  have i1 : (n : Int) < (H.length : Int) := by omega
  clear hS hH hc hi e0 e1
  generalize topOf ns H[n] = t at *
  generalize H[n] = x at *
  generalize H.length = N at *
  go_enter Tryz.func89, Tryz.ntmps89
  go_wp2_with fail
  go_quiet (first | (go_at_call 37; with_reducible exact TL.out _))
  go_wp2
  go_ret
  exact ⟨rfl, _, rfl⟩
 ·have e1 : decide (n < H.length /\ (v : Int) < topOf ns (H.getD n 0)) = false := decide_eq_false (fun e => h e.1)
  rw [e1]
  have i1 : decide ((n : Int) < (H.length : Int)) = false := decide_eq_false (by omega)
  clear hS hH hc e1 c2
  generalize H.length = N at *
  go_enter Tryz.func89, Tryz.ntmps89
  go_wp2_with fail
  go_quiet (fail)
  go_wp2
  go_ret
  exact ⟨rfl, _, rfl⟩
end
end
section
open Go.ChangeShapes Go.WideShapes Go.ChangeAt Go.RowKit Go.Deep
def Quad.Ok (q : Quad) : Prop := I64 q.a /\ I64 q.b /\ I64 q.c /\ I64 q.d
def qd (xs : List Quad) (i : Nat) : Quad := xs.getD i ⟨0, 0, 0, 0⟩
structure QuadAt (w : World) (ad : Addr) (i : Nat) (q : Quad) : Prop where
 lt : ad.block < w.heap.size
 c0 : w.cell? (ad.add (i * 4)) = some (.int .i64 q.a)
 c1 : w.cell? ⟨(ad.add (i * 4)).block, (ad.add (i * 4)).off + 1, none⟩ = some (.int .i64 q.b)
 c2 : w.cell? ⟨(ad.add (i * 4)).block, (ad.add (i * 4)).off + 2, none⟩ = some (.int .i64 q.c)
 c3 : w.cell? ⟨(ad.add (i * 4)).block, (ad.add (i * 4)).off + 3, none⟩ = some (.int .i64 q.d)
 ok : q.Ok
def ArgQuads (w : World) (v : Value) (xs : List Quad) : Prop :=
 ∃ a cap, v = .slice a xs.length cap /\ ∀ i, i < xs.length -> ∃ ad, a = some ad /\ QuadAt w ad i (qd xs i)
theorem addr_block (a : Addr) (i : Nat) : (a.add i).block = a.block := by unfold Addr.add; split <;> rfl
theorem addr_more (a : Addr) (i j : Nat) (h : j ≠ 0) : a.add (i + j) = ⟨(a.add i).block, (a.add i).off + j, none⟩ := by
 unfold Addr.add
 rw [if_neg (by omega)]
 by_cases h0 : i = 0
 ·simp [h0]
 ·simp [h0, Nat.add_assoc]
theorem QuadAt.kept {S : Nat -> Prop} {w w' : World} {ad : Addr} {i : Nat} {q : Quad} (h : QuadAt w ad i q) (hk : Kept S w w') (hn : ¬ S ad.block) : QuadAt w' ad i q :=
 ⟨Nat.lt_of_lt_of_le h.lt hk.size, (hk.cell (by rw [addr_block]; exact h.lt) (by rw [addr_block]; exact hn)).trans h.c0, (hk.cell (by show (ad.add (i * 4)).block < _; rw [addr_block]; exact h.lt) (by show ¬ S (ad.add (i * 4)).block; rw [addr_block]; exact hn)).trans h.c1, (hk.cell (by show (ad.add (i * 4)).block < _; rw [addr_block]; exact h.lt) (by show ¬ S (ad.add (i * 4)).block; rw [addr_block]; exact hn)).trans h.c2, (hk.cell (by show (ad.add (i * 4)).block < _; rw [addr_block]; exact h.lt) (by show ¬ S (ad.add (i * 4)).block; rw [addr_block]; exact hn)).trans h.c3, h.ok⟩
theorem QuadAt.below {B : Nat} {w w' : World} {ad : Addr} {i : Nat} {q : Quad} (h : QuadAt w ad i q) (hb : Below B w w') (hB : ad.block < B) : QuadAt w' ad i q :=
 ⟨Nat.lt_of_lt_of_le h.lt hb.size, (hb.cell (by rw [addr_block]; exact hB)).trans h.c0, (hb.cell (by show (ad.add (i * 4)).block < _; rw [addr_block]; exact hB)).trans h.c1, (hb.cell (by show (ad.add (i * 4)).block < _; rw [addr_block]; exact hB)).trans h.c2, (hb.cell (by show (ad.add (i * 4)).block < _; rw [addr_block]; exact hB)).trans h.c3, h.ok⟩
theorem of_wf {x : Int} (h : (Lit.int .i64 x).wf = true) : I64 x := by
 simp [Lit.wf, IntKind.min, IntKind.max, IntKind.signed, IntKind.bits] at h
 exact ⟨by omega, by omega⟩
theorem cellsQuad : Tryz.prog.cellsOf 79 = 4 := by kernel_rfl
theorem argQuads {H : Type} {enc : TypeId × Value -> H} {W : World} {a0 : Option Addr} {len cap : Nat} {d : DataW H} {p : List MemPlace} (h : DataW.Trod enc Tryz.prog W 0 (fun _ => true) true 22 (.slice a0 len cap) d p) : ∃ xs : List Quad, ArgQuads W (.slice a0 len cap) xs /\ xs.length <= 9223372036854775807 := by
 obtain ⟨fuel, hf⟩ := h
 rcases open_slice Tryz.underlying22 hf with ⟨hcs, -⟩ | ⟨a, len', cap', m, n, D, Pl, hcs, _, hl, hm, hmm, -, hx⟩
 ·simp [Value.cells] at hcs
  obtain ⟨rfl, rfl, rfl⟩ := hcs
  exact ⟨[], ⟨none, 0, rfl, fun i hi => by simp at hi⟩, by simp⟩
 ·simp [Value.cells] at hcs
  obtain ⟨rfl, rfl, rfl⟩ := hcs
  simp only [if_true] at hmm
  subst hmm
  unfold maxLen at hm
  have each : ∀ i, i < m -> ∃ q : Quad, QuadAt W a i q := by
   intro i hi
   obtain ⟨cs', h1, h2⟩ := hx i hi
   rw [cellsQuad] at h1
   obtain ⟨_, hlen, hcell⟩ := World.cells?_some h1
   obtain ⟨y0, y1, y2, y3, k, -, hl4, g0, g1, g2, g3⟩ := Go.Joins.trod_struct4 Tryz.underlying79 h2
   match cs', hlen with
   | [v0, v1, v2, v3], _ =>
    simp [cellsInt] at g0 g1 g2 g3
    obtain ⟨z0, e0, -, w0⟩ := DataW.trod_int Tryz.underlying3 g0
    obtain ⟨z1, e1, -, w1⟩ := DataW.trod_int Tryz.underlying3 g1
    obtain ⟨z2, e2, -, w2⟩ := DataW.trod_int Tryz.underlying3 g2
    obtain ⟨z3, e3, -, w3⟩ := DataW.trod_int Tryz.underlying3 g3
    simp at e0 e1 e2 e3
    subst e0 e1 e2 e3
    have c0 := hcell 0 (by omega)
    have c1 := hcell 1 (by omega)
    have c2 := hcell 2 (by omega)
    have c3 := hcell 3 (by omega)
    rw [add_add] at c0 c1 c2 c3
    have hb := World.block_lt_of_cell? _ _ c0
    rw [addr_block] at hb
    exact ⟨⟨z0, z1, z2, z3⟩, hb, by simpa using c0, by rw [<- addr_more _ _ _ (by omega)]; exact c1, by rw [<- addr_more _ _ _ (by omega)]; exact c2, by rw [<- addr_more _ _ _ (by omega)]; exact c3, of_wf w0, of_wf w1, of_wf w2, of_wf w3⟩
  obtain ⟨q, hq⟩ := choose_lt (fun i hi => each i hi)
  have hlen : ((List.range len).map q).length = len := by simp
  refine ⟨(List.range len).map q, ⟨some a, m, by rw [hlen], fun i hi => ⟨a, rfl, ?_⟩⟩, by omega⟩
  rw [hlen] at hi
  have e : qd ((List.range len).map q) i = q i := by
   unfold qd; simp [List.getD_eq_getElem?_getD, hi]
  rw [e]; exact hq i (by omega)
end
end Go.Proofs.YtcjjekhecjmaeaaGreatDoor
