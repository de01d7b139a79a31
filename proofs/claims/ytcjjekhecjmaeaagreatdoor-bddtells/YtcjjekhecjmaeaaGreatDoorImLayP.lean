/- The nodes of an image's lines, one behind the other. -/
import Derived.Test.YtcjjekhecjmaeaaGreatDoorBdTab
import Derived.Test.YtcjjekhecjmaeaaGreatDoorBdNode
import Derived.Test.YtcjjekhecjmaeaaGreatDoorErTell
import Derived.PlainAid
import Derived.WalkKit
import Derived.RangeFuncBound
import Derived.Test.YtcjjekhecjmaeaaGreatDoorCnOf
import Derived.Test.YtcjjekhecjmaeaaGreatDoorArFree
import Derived.Lib.Hide
import Derived.Lib.Split
import Derived.Lib.CountLaws
import Derived.Lib.IndexBytes
import Derived.Test.YtcjjekhecjmaeaaGreatDoorProg
import Derived.Shelf.LaysM
import Derived.Shelf.LaysC
import Derived.Shelf.Strings.Split
import Derived.Lib.SplitLaws
import Derived.Test.YtcjjekhecjmaeaaGreatDoorBdSmall
namespace Go.Proofs.YtcjjekhecjmaeaaGreatDoor
open Go.RowKit Go.Maps
theorem or_fin : ∀ i : Fin 64, ∀ v : Fin 6, bits .or .i64 (i.val : Int) ((2 : Int) ^ v.val) = ((i.val ||| 1 <<< v.val : Nat) : Int) := by decide +kernel
theorem or_lt_fin : ∀ n : Fin 7, ∀ i : Fin 64, ∀ v : Fin 6, v.val < n.val -> i.val < 2 ^ n.val -> i.val ||| 1 <<< v.val < 2 ^ n.val := by decide +kernel
theorem off_fin : ∀ i : Fin 64, ∀ v : Fin 6, 0 <= bits .andNot .i64 (i.val : Int) ((2 : Int) ^ v.val) /\ (bits .andNot .i64 (i.val : Int) ((2 : Int) ^ v.val)).toNat <= i.val /\ ∀ k : Fin 6, (bits .andNot .i64 (i.val : Int) ((2 : Int) ^ v.val)).toNat.testBit k.val = if k.val = v.val then false else i.val.testBit k.val := by decide +kernel
theorem bit_fin : ∀ i : Fin 64, ∀ v : Fin 6, (bits .and .i64 ((i.val : Int) / 2 ^ v.val) 1 == 1) = i.val.testBit v.val := by decide +kernel
theorem pow_le6 {vars : Nat} (h6 : vars <= 6) : 2 ^ vars <= 64 := Nat.pow_le_pow_right (n := 2) (by omega) h6
theorem big_bit {x k : Nat} (hx : x < 64) (hk : 6 <= k) : x.testBit k = false := Nat.testBit_lt_two_pow (Nat.lt_of_lt_of_le hx (Nat.pow_le_pow_right (n := 2) (by omega) hk))
theorem on_num {i v vars : Nat} (hi : i < 2 ^ vars) (hv : v < vars) (h6 : vars <= 6) : bits .or .i64 (i : Int) ((2 : Int) ^ v) = ((i ||| 1 <<< v : Nat) : Int) /\ i ||| 1 <<< v < 2 ^ vars := by
 have := pow_le6 h6
 exact ⟨or_fin ⟨i, by omega⟩ ⟨v, by omega⟩, or_lt_fin ⟨vars, by omega⟩ ⟨i, by omega⟩ ⟨v, by omega⟩ hv hi⟩
def offN (i v : Nat) : Nat := (bits .andNot .i64 (i : Int) ((2 : Int) ^ v)).toNat
theorem off_num {i v vars : Nat} (hi : i < 2 ^ vars) (hv : v < vars) (h6 : vars <= 6) : bits .andNot .i64 (i : Int) ((2 : Int) ^ v) = (offN i v : Int) /\ offN i v < 2 ^ vars := by
 have := pow_le6 h6
 obtain ⟨h1, h2, -⟩ := off_fin ⟨i, by omega⟩ ⟨v, by omega⟩
 simp only at h1 h2
 unfold offN
 exact ⟨by omega, by omega⟩
theorem bits_off {i v vars : Nat} (hi : i < 2 ^ vars) (hv : v < vars) (h6 : vars <= 6) : bitsF (offN i v) = turn (bitsF i) v false := by
 have p6 := pow_le6 h6
 obtain ⟨h1, h2, h3⟩ := off_fin ⟨i, by omega⟩ ⟨v, by omega⟩
 simp only at h1 h2 h3
 funext k
 unfold bitsF turn offN
 by_cases hk : k < 6
 ·have := h3 ⟨k, hk⟩
  simp only at this
  rw [this]
 ·have q1 : (bits BinOp.andNot IntKind.i64 (i : Int) (2 ^ v)).toNat.testBit k = false := big_bit (by omega) (by omega)
  have q2 : i.testBit k = false := big_bit (by omega) (by omega)
  show _ = if k = v then false else i.testBit k
  rw [q1, q2]
  split <;> rfl
theorem bit_num {i v : Nat} (hi : i < 64) (hv : v < 6) : (bits .and .i64 ((i : Int) / 2 ^ v) 1 == 1) = bitsF i v := bit_fin ⟨i, hi⟩ ⟨v, hv⟩
end Go.Proofs.YtcjjekhecjmaeaaGreatDoor
namespace Go.Proofs.YtcjjekhecjmaeaaGreatDoor
open Go.RowKit
def numD (D : List Int) (h : Int) : Int := if h = 0 \/ h = 1 then h else 2 + (D.idxOf h : Int)
def InD (D : List Int) (h : Int) : Prop := h = 0 \/ h = 1 \/ h ∈ D
theorem InD.mono {D E : List Int} {h : Int} (hi : InD D h) (he : ∀ x ∈ D, x ∈ E) : InD E h := by
 rcases hi with h | h | h
 ·exact .inl h
 ·exact .inr (.inl h)
 ·exact .inr (.inr (he _ h))
section
variable {ns : List Nd}
end
end Go.Proofs.YtcjjekhecjmaeaaGreatDoor
namespace Go.Proofs.YtcjjekhecjmaeaaGreatDoor
open Go.RowKit
def tabH (vars : Nat) (ns : List Nd) (h : Int) : List Bool := tabOf vars (fun f => sem ns h f)
section
variable {vars : Nat} {ns : List Nd}
theorem tabH_len (h : Int) : (tabH vars ns h).length = 2 ^ vars := tabOf_len _ _
theorem tabH_at (h : Int) (i : Nat) (hi : i < (tabH vars ns h).length) : (tabH vars ns h)[i] = sem ns h (bitsF i) := tabOf_at _ _ i hi
theorem tabH_same (hg : Good vars ns) {a b : Int} (ha : hasB ns a = true) (hb : hasB ns b = true) : tabH vars ns a = tabH vars ns b ↔ a = b := (same_tab hg ha hb (fun _ => rfl) (fun _ => rfl)).symm
theorem sem_turn_lo (hr : Ranked ns) {h : Int} {v : Nat} (hv : (v : Int) < 24) (hh : hasB ns h = true) (ht : (v : Int) <= topOf ns h) (f : Nat -> Bool) : sem ns h (turn f v false) = sem ns (loS ns h v) f := by
 rw [sem_sides hr hv, show ((v : Int)).toNat = v by omega, turn_eq]
 refine sem_agree hr (fun i hi => turn_ne f false (fun e => ?_))
 have := (loS_has hr hv hh).2.1 ht
 omega
theorem sem_turn_hi (hr : Ranked ns) {h : Int} {v : Nat} (hv : (v : Int) < 24) (hh : hasB ns h = true) (ht : (v : Int) <= topOf ns h) (f : Nat -> Bool) : sem ns h (turn f v true) = sem ns (hiS ns h v) f := by
 rw [sem_sides hr hv, show ((v : Int)).toNat = v by omega, turn_eq]
 refine sem_agree hr (fun i hi => turn_ne f true (fun e => ?_))
 have := (hiS_has hr hv hh).2.1 ht
 omega
theorem tab_lo (hg : Good vars ns) (h6 : vars <= 6) {h : Int} {v i : Nat} (hv : v < vars) (hh : hasB ns h = true) (ht : (v : Int) <= topOf ns h) (hi : i < 2 ^ vars) : (tabH vars ns h).getD (offN i v) false = (tabH vars ns (loS ns h v)).getD i false := by
 have ho := (off_num hi hv h6).2
 rw [List.getD_eq_getElem?_getD, List.getElem?_eq_getElem (by rw [tabH_len]; exact ho), List.getD_eq_getElem?_getD, List.getElem?_eq_getElem (by rw [tabH_len]; exact hi)]
 rw [Option.getD_some, Option.getD_some, tabH_at, tabH_at, bits_off hi hv h6, sem_turn_lo hg.ranked (by omega) hh ht]
theorem tab_hi (hg : Good vars ns) (h6 : vars <= 6) {h : Int} {v i : Nat} (hv : v < vars) (hh : hasB ns h = true) (ht : (v : Int) <= topOf ns h) (hi : i < 2 ^ vars) (ho : i ||| 1 <<< v < 2 ^ vars) : (tabH vars ns h).getD (i ||| 1 <<< v) false = (tabH vars ns (hiS ns h v)).getD i false := by
 rw [List.getD_eq_getElem?_getD, List.getElem?_eq_getElem (by rw [tabH_len]; exact ho), List.getD_eq_getElem?_getD, List.getElem?_eq_getElem (by rw [tabH_len]; exact hi)]
 rw [Option.getD_some, Option.getD_some, tabH_at, tabH_at, bits_or, sem_turn_hi hg.ranked (by omega) hh ht]
theorem sides_eq (hg : Good vars ns) {h : Int} {v : Nat} (hv : (v : Int) < 24) (hh : hasB ns h = true) : tabH vars ns (loS ns h v) = tabH vars ns (hiS ns h v) ↔ topOf ns h ≠ v := by
 rw [tabH_same hg (loS_has hg.ranked hv hh).1 (hiS_has hg.ranked hv hh).1]
 unfold loS hiS
 by_cases e : topOf ns h = v
 ·rw [if_pos e, if_pos e]
  have ht : topOf ns h ≠ 24 := by omega
  obtain ⟨h1, h2, h3, -⟩ := node_at ht
  exact ⟨fun e2 => absurd e2 (hg.red _ h2 (by omega)), fun e2 => absurd e e2⟩
 ·rw [if_neg e, if_neg e]
  exact ⟨fun _ => e, fun _ => rfl⟩
end
end Go.Proofs.YtcjjekhecjmaeaaGreatDoor
namespace Go.Proofs.YtcjjekhecjmaeaaGreatDoor.Num
open Go.PlainAid
structure OkText (s : ByteArray) : Prop where
 pos : 0 < s.size
 head : bt s 0 = 48 -> s.size = 1
 digits : ∀ k, k < s.size -> 48 <= bt s k /\ bt s k <= 57
def pre (s : ByteArray) : Nat -> Nat
 | 0 => 0
 | k + 1 => pre s k * 10 + (bt s k - 48).toNat
open Go.Lib
end Go.Proofs.YtcjjekhecjmaeaaGreatDoor.Num
namespace Go.Proofs.YtcjjekhecjmaeaaGreatDoor
open Go.RowKit
def Blk (W : World) (b : Nat) (t : TypeId) (cs : Array Value) : Prop := W.heap[b]? = some (.cells cs t (0, 0))
theorem Blk.lt {W : World} {b : Nat} {t : TypeId} {cs : Array Value} (h : Blk W b t cs) : b < W.heap.size := (Array.getElem?_eq_some_iff.1 h).1
theorem Blk.cell {W : World} {b : Nat} {t : TypeId} {cs : Array Value} (h : Blk W b t cs) (i : Nat) : W.cell? ⟨b, i, none⟩ = cs[i]? := by
 simp [World.cell?, show W.heap[b]? = _ from h]
theorem Blk.frozen {W : World} {b : Nat} {t : TypeId} {cs : Array Value} (h : Blk W b t cs) (i : Nat) : W.frozen? ⟨b, i, none⟩ = false := by simp [World.frozen?, show W.heap[b]? = _ from h]
theorem Blk.new (W : World) (t : TypeId) (cs : Array Value) : Blk (W.alloc (.cells cs t)) W.heap.size t cs := World.alloc_heap_new W _
theorem Blk.kept {W W' : World} {row : Option Nat} {b : Nat} {t : TypeId} {cs : Array Value} (h : Blk W b t cs) (hg : W.grownBy W' row) (hne : some b ≠ row) : Blk W' b t cs := (hg.block b h.lt hne).trans h
theorem Blk.alloc {W : World} {b : Nat} {t : TypeId} {cs : Array Value} (h : Blk W b t cs) (o : Obj) : Blk (W.alloc o) b t cs := h.kept (World.grownBy_alloc W o none) (by simp)
theorem Blk.below {B : Nat} {W W' : World} {b : Nat} {t : TypeId} {cs : Array Value} (h : Blk W b t cs) (hb : Below B W W') (hB : b < B) : Blk W' b t cs := (hb.block b hB).trans h
theorem Blk.other {W : World} {b b' i : Nat} {t : TypeId} {cs : Array Value} {v : Value} (h : Blk W b t cs) (hne : b ≠ b') : Blk (W.setCell ⟨b', i, none⟩ v) b t cs := (Below.heap_setCell _ _ _ b hne).trans h
theorem Blk.put {W : World} {b l : Nat} {t : TypeId} {cs : Array Value} {o' : Obj} (h : Blk W b t cs) (hne : b ≠ l) : Blk (W.putObj l o') b t cs := (World.putObj_heap_other hne).trans h
theorem Blk.set {W : World} {b i : Nat} {t : TypeId} {cs : Array Value} {v : Value} (h : Blk W b t cs) : Blk (W.setCell ⟨b, i, none⟩ v) b t (cs.setIfInBounds i v) := by
 obtain ⟨hlt, hk⟩ := Array.getElem?_eq_some_iff.1 h
 show (W.heap.modify b _)[b]? = _
 rw [Array.getElem?_eq_getElem (by rw [Array.size_modify]; exact hlt), Array.getElem_modify_self, hk]
 rfl
theorem Blk.drew {W : World} {b : Nat} {t : TypeId} {cs : Array Value} (h : Blk W b t cs) : Blk W.drew b t cs := h
end Go.Proofs.YtcjjekhecjmaeaaGreatDoor
namespace Go.Proofs.YtcjjekhecjmaeaaGreatDoor
open Go.RowKit Num Go.Sort Go.PlainAid
open Classical in
noncomputable def numF (s : ByteArray) : Option Nat := if OkText s /\ s.size <= 100 /\ pre s s.size <= 9223372036854775807 then some (pre s s.size) else none
end Go.Proofs.YtcjjekhecjmaeaaGreatDoor
namespace Go.Proofs.YtcjjekhecjmaeaaGreatDoor
def splitL (c : UInt8) : List UInt8 -> List (List UInt8)
 | [] => [[]]
 | x :: r => if x = c then [] :: splitL c r else match splitL c r with
  | [] => [[x]]
  | p :: ps => (x :: p) :: ps
end Go.Proofs.YtcjjekhecjmaeaaGreatDoor
namespace Go.Proofs.YtcjjekhecjmaeaaGreatDoor
open Go.RowKit Num Go.Sort Go.PlainAid
noncomputable def threeF (l : List UInt8) : Option (Nat × Nat × Nat) :=
 match splitL 32 l with
 | [x, y, z] => match numF ⟨x.toArray⟩, numF ⟨y.toArray⟩, numF ⟨z.toArray⟩ with
  | some a, some b, some c => some (a, b, c)
  | _, _, _ => none
 | _ => none
end Go.Proofs.YtcjjekhecjmaeaaGreatDoor
namespace Go.Proofs.YtcjjekhecjmaeaaGreatDoor
open Go.RowKit Go.Maps
structure FullN (ns : List Nd) : Prop where
 ranked : Ranked ns
 full : ∀ i, i < ns.length -> (nd ns i).v < 24
section
variable {ns : List Nd}
theorem FullN.lfree (h : FullN ns) : lfree ns = ns.length := by
 have h1 := lfree_le ns
 by_cases h2 : Proofs.YtcjjekhecjmaeaaGreatDoor.lfree ns < ns.length
 ·exact absurd (h.full _ h2) (lfree_free h2)
 ·omega
theorem putN_end (n : Nd) : putN ns ns.length n = ns ++ [n] := by
 unfold putN; rw [if_pos rfl, List.set_append_right _ _ (Nat.le_refl _)]; simp
theorem FullN.make (h : FullN ns) (n : Nd) : makeF ns n = if idx ns n < ns.length then (ns, 2 + (idx ns n : Int)) else (ns ++ [n], 2 + (ns.length : Int)) := by
 unfold makeF; rw [h.lfree, putN_end]
theorem topOf_has {h : Int} (ht : topOf ns h < 24) : hasB ns h = true := by unfold hasB; simp [ht]
theorem FullN.step (h : FullN ns) {n : Nd} (hn : n.Ok) (hf : Fit ns n) : FullN (makeF ns n).1 /\ hasB (makeF ns n).1 (makeF ns n).2 = true /\ (∀ x, hasB ns x = true -> hasB (makeF ns n).1 x = true /\ topOf (makeF ns n).1 x = topOf ns x) /\ ns.length <= (makeF ns n).1.length /\ (makeF ns n).1.length <= ns.length + 1 := by
 rw [h.make]
 by_cases c : idx ns n < ns.length
 ·rw [if_pos c]
  refine ⟨h, ?_, fun x hx => ⟨hx, rfl⟩, Nat.le_refl _, Nat.le_succ _⟩
  have := h.full _ c
  exact topOf_has (by rw [topOf_at c]; exact this)
 ·rw [if_neg c, <- putN_end]
  have hk := Nat.le_refl ns.length
  have hfr : ns.length < ns.length -> ¬ (nd ns ns.length).v < 24 := fun e => absurd e (Nat.lt_irrefl _)
  refine ⟨⟨putN_ranked h.ranked hk hfr hn hf, fun i hi => ?_⟩, topOf_has (by rw [putN_self hk]; exact hf.v1), fun x hx => ⟨putN_has hk hfr hx, putN_top hk hfr hx⟩, (putN_length hk).2, (putN_length hk).1⟩
  have hi' := (putN_lt hk i).1 hi
  rw [putN_at hk i hi']
  split
  ·exact hf.v1
  ·exact h.full i (by omega)
end
def okLine (vars : Nat) (ns : List Nd) (H : List Int) (v l h : Nat) : Prop := v < vars /\ l ≠ h /\ (l < H.length /\ (v : Int) < topOf ns (H.getD l 0)) /\ (h < H.length /\ (v : Int) < topOf ns (H.getD h 0))
def ndOf (H : List Int) (v l h : Nat) : Nd := ⟨(v : Int), H.getD l 0, H.getD h 0⟩
structure LayInv (vars : Nat) (room : Int) (ns : List Nd) (H : List Int) : Prop where
 full : FullN ns
 has : ∀ x ∈ H, hasB ns x = true
 len : ns.length + 2 <= H.length
 room : (ns.length : Int) <= room
theorem LayInv.start (vars : Nat) {room : Int} (h : 0 <= room) : LayInv vars room [] [0, 1] :=
 ⟨⟨⟨fun j h => by simp at h, fun j h => by simp at h, fun j h => by simp at h, fun j h => by simp at h⟩, fun i h => by simp at h⟩, fun x hx => by simp at hx; rcases hx with rfl | rfl <;> simp [hasB], by simp, by simpa using h⟩
theorem getD_mem {H : List Int} {l : Nat} (h : l < H.length) : H.getD l 0 ∈ H := by
 rw [List.getD_eq_getElem?_getD, List.getElem?_eq_getElem h]
 exact List.getElem_mem h
section
variable {vars : Nat} {room : Int} {ns : List Nd} {H : List Int} {v l h : Nat}
theorem okLine.fit (hv : vars <= 24) (ho : okLine vars ns H v l h) (hh : ∀ x ∈ H, hasB ns x = true) : Fit ns (ndOf H v l h) :=
 ⟨by show 0 <= (v : Int); omega, by have := ho.1; show (v : Int) < 24; omega, hh _ (getD_mem ho.2.2.1.1), hh _ (getD_mem ho.2.2.2.1), ho.2.2.1.2, ho.2.2.2.2⟩
theorem okLine.ok (hv : vars <= 24) (ho : okLine vars ns H v l h) (hh : ∀ x ∈ H, hasB ns x = true) (hl : ns.length <= 1000000) : (ndOf H v l h).Ok :=
 ⟨by have := ho.1; show I64 (v : Int); exact ⟨by omega, by omega⟩, has_i64 (hh _ (getD_mem ho.2.2.1.1)) hl, has_i64 (hh _ (getD_mem ho.2.2.2.1)) hl⟩
theorem LayInv.step (hi : LayInv vars room ns H) (hv : vars <= 24) (hr : room <= 4000) (ho : okLine vars ns H v l h) (hq : idx ns (ndOf H v l h) < ns.length \/ (ns.length : Int) < room) : LayInv vars room (makeF ns (ndOf H v l h)).1 (H ++ [(makeF ns (ndOf H v l h)).2]) := by
 have hR := hi.room
 have hs := hi.full.step (ho.ok hv hi.has (by omega)) (ho.fit hv hi.has)
 refine ⟨hs.1, fun x hx => ?_, ?_, ?_⟩
 ·rcases List.mem_append.1 hx with hx | hx
  ·exact (hs.2.2.1 x (hi.has x hx)).1
  ·rw [List.mem_singleton] at hx; subst hx; exact hs.2.1
 ·rw [List.length_append, List.length_singleton]
  have := hi.len; have := hs.2.2.2.2; omega
 ·rcases hq with hq | hq
  ·rw [hi.full.make, if_pos hq]; exact hi.room
  ·have := hs.2.2.2.2; omega
end
section
variable {vars : Nat} {room : Int}
end
section
variable {B s b : Nat} {O : Nat -> Prop} {vars : Nat} {room : Int} {ns : List Nd} {w : World}
end
end Go.Proofs.YtcjjekhecjmaeaaGreatDoor
