/- Nodes, maps of nodes as lists of pairs, and what a call leaves as it was. -/
import Derived.Test.YtcjjekhecjmaeaaGreatDoorProg
import Derived.KernelRfl
import Derived.WalkKit
import Derived.WalkSpells
import Derived.WalkLawsBesides
import Derived.Deep.Cut
import Derived.Deep.DeepCutAuto
import Derived.Deep.RegionWith
import Derived.Deep.RegionHeld3
import Derived.Deep.LoopGhost
import Derived.Deep.DeepFit
import Derived.Deep.DeepMust
import Derived.Deep.Light
import Derived.Lib.QuietBelow
import Derived.Lib.Hide
import Derived.Lib.MinMax
import Derived.BigQuiet
import Derived.DeepKeys4
import Derived.Maps.OwnSet
import Derived.Maps.OwnOps
import Derived.Maps.RangeWalk
set_option maxRecDepth 100000
namespace Go.Proofs.YtcjjekhecjmaeaaGreatDoor
open Go.RowKit Go.Maps
structure Nd where
 v : Int
 l : Int
 h : Int
 deriving DecidableEq
def Nd.val (n : Nd) : Value := .agg #[.int .i64 n.v, .int .i64 n.l, .int .i64 n.h]
def I64 (x : Int) : Prop := -9223372036854775808 <= x /\ x <= 9223372036854775807
def Nd.Ok (n : Nd) : Prop := I64 n.v /\ I64 n.l /\ I64 n.h
theorem wf_of {x : Int} (h : I64 x) : (Lit.int .i64 x).wf = true := by
 obtain ⟨h0, h1⟩ := h
 simp [Lit.wf, IntKind.min, IntKind.max, IntKind.signed, IntKind.bits]
 omega
theorem laidOut : laidOutB Tryz.prog = true := by kernel_rfl
theorem rowNode : (102 : TypeId) < Tryz.prog.types.size := of_decide_eq_true (by kernel_rfl)
theorem wideNode : (match Tryz.prog.underlying 102 with | some (.array _ _) | some (.struct _) => true | _ => false) = true := by rw [Tryz.underlying102]
theorem lawNode : Keyed Tryz.prog 102 := Keyed.of_law (deep_law_laid laidOut (m := 2) (by omega) rowNode (by kernel_rfl) wideNode)
theorem keyTypeNode : Tryz.prog.keyType 102 = true := by kernel_rfl
def Nd.lit (n : Nd) : Lit := .string (keyBytes [.int .i64 n.v, .int .i64 n.l, .int .i64 n.h])
theorem cellsNode : Tryz.prog.cellsOf 102 = 3 := by kernel_rfl
theorem cellsInt : Tryz.prog.cellsOf 3 = 1 := by kernel_rfl
theorem litsInt (d : Nat) {x : Int} (h : I64 x) : Tryz.prog.keyLits (d + 1) 3 [.int .i64 x] = some [.int .i64 x] := by
 unfold Program.keyLits
 rw [Tryz.underlying3]
 simp [wf_of h]
theorem keyNode (n : Nd) (h : n.Ok) : keyOf Tryz.prog 102 n.val = some n.lit := by
 have hf : n.val.formed Tryz.prog 102 = true := by simp [Value.formed, Tryz.underlying102, cellsNode, Nd.val]
 unfold keyOf
 rw [Tryz.underlying102]
 simp only [keyTypeNode, hf, Bool.and_self, if_true]
 obtain ⟨d, hd⟩ : ∃ d, Tryz.prog.types.size + 1 = d + 2 := ⟨Tryz.prog.types.size - 1, by have : 0 < Tryz.prog.types.size := Nat.lt_of_le_of_lt (Nat.zero_le _) rowNode; omega⟩
 rw [hd]
 unfold Program.keyLits
 rw [Tryz.underlying102]
 have hc : n.val.cells.toList = [.int .i64 n.v, .int .i64 n.l, .int .i64 n.h] := rfl
 rw [hc]
 simp [cellsNode, cellsInt, litsInt d h.1, litsInt d h.2.1, litsInt d h.2.2, Nd.lit]
theorem litNode_key (n : Nd) : WideAt.IsKeyLit n.lit := trivial
theorem litNode_inj {n m : Nd} (hn : n.Ok) (hm : m.Ok) (h : n.lit = m.lit) : n = m := by
 have := lawNode.inj (keyNode n hn) (h ▸ keyNode m hm)
 cases n; cases m
 simpa [Nd.val] using this
structure Rep {α β : Type} (ok : α -> Prop) (kl : α -> Lit) (el : β -> DataW Unit) (D : DataW Unit) (L : List (α × β)) : Prop where
 tidy : Tidy D
 size : Maps.size D = L.length
 oks : ∀ p ∈ L, ok p.1
 has : ∀ a, ok a -> (Maps.has D (kl a) = true ↔ a ∈ L.map Prod.fst)
 all : ∀ x, Maps.has D x = true -> ∃ p ∈ L, x = kl p.1
 at' : ∀ p ∈ L, ∀ z, D.atKey (kl p.1) z = el p.2
 nodup : (L.map Prod.fst).Nodup
section
variable {α β : Type} {ok : α -> Prop} {kl : α -> Lit} {el : β -> DataW Unit} {D : DataW Unit} {L : List (α × β)}
theorem Rep.empty : Rep ok kl el (.map []) ([] : List (α × β)) :=
 ⟨tidy_empty, rfl, fun p h => (by cases h), fun a _ => (by simp [Maps.has]), fun x h => (by simp [Maps.has] at h), fun p h => (by cases h), List.nodup_nil⟩
theorem Rep.not (h : Rep ok kl el D L) {a : α} (ha : ok a) (hn : a ∉ L.map Prod.fst) : Maps.has D (kl a) = false := by
 cases e : Maps.has D (kl a) with
 | false => rfl
 | true => exact absurd ((h.has a ha).1 e) hn
theorem Rep.put (h : Rep ok kl el D L) (inj : ∀ a b, ok a -> ok b -> kl a = kl b -> a = b) (key : ∀ a, WideAt.IsKeyLit (kl a)) {a : α} (ha : ok a) (hn : a ∉ L.map Prod.fst) (b : β) :
  Rep ok kl el (D.put (kl a) (el b)) (L ++ [(a, b)]) := by
 have hne : ∀ c, ok c -> c ≠ a -> kl c ≠ kl a := fun c hc hca e => hca (inj c a hc ha e)
 refine ⟨h.tidy.put (key a) _, ?_, ?_, ?_, ?_, ?_, ?_⟩
 ·rw [size_put h.tidy, h.not ha hn]; simp [h.size]
 ·intro p hp
  rcases List.mem_append.1 hp with hp | hp
  ·exact h.oks p hp
  ·rw [List.mem_singleton] at hp; subst hp; exact ha
 ·intro c hc
  rw [List.map_append, List.mem_append]
  by_cases e : c = a
  ·subst e
   simp [has_put_same h.tidy.isMap (key c)]
  ·rw [has_put_other (hne c hc e)]
   simp [h.has c hc, e]
 ·intro x hx
  by_cases e : x = kl a
  ·exact ⟨(a, b), by simp, e⟩
  ·rw [has_put_other e] at hx
   obtain ⟨p, hp, hx⟩ := h.all x hx
   exact ⟨p, by simp [hp], hx⟩
 ·intro p hp z
  rcases List.mem_append.1 hp with hp | hp
  ·rw [atKey_put_other (hne p.1 (h.oks p hp) (fun e => hn (e ▸ List.mem_map_of_mem hp)))]
   exact h.at' p hp z
  ·rw [List.mem_singleton] at hp; subst hp
   exact atKey_put_same h.tidy.isMap (key a) _ _
 ·rw [List.map_append, List.nodup_append]
  refine ⟨h.nodup, by simp, fun x hx y hy => ?_⟩
  simp at hy; subst hy
  exact fun e => hn (e ▸ hx)
end
structure Kept (S : Nat -> Prop) (w w' : World) : Prop where
 os : w'.os = w.os
 tape : w'.tape = w.tape
 output : w'.output = w.output
 size : w.heap.size <= w'.heap.size
 block : ∀ k, k < w.heap.size -> ¬ S k -> w'.heap[k]? = w.heap[k]?
section
variable {S T : Nat -> Prop} {w w' w'' : World}
theorem Kept.refl (S : Nat -> Prop) (w : World) : Kept S w w := ⟨rfl, rfl, rfl, Nat.le_refl _, fun _ _ _ => rfl⟩
theorem Kept.trans (h : Kept S w w') (k : Kept S w' w'') : Kept S w w'' :=
 ⟨k.os.trans h.os, k.tape.trans h.tape, k.output.trans h.output, Nat.le_trans h.size k.size, fun i hi hs => (k.block i (Nat.lt_of_lt_of_le hi h.size) hs).trans (h.block i hi hs)⟩
theorem Kept.andThen (h : Kept S w w') (k : Kept T w' w'') (ht : ∀ i, T i -> i < w.heap.size -> S i) : Kept S w w'' :=
 ⟨k.os.trans h.os, k.tape.trans h.tape, k.output.trans h.output, Nat.le_trans h.size k.size, fun i hi hs => (k.block i (Nat.lt_of_lt_of_le hi h.size) (fun hT => hs (ht i hT hi))).trans (h.block i hi hs)⟩
theorem Kept.mono (h : Kept S w w') (hs : ∀ i, S i -> T i) : Kept T w w' := ⟨h.os, h.tape, h.output, h.size, fun k hk hn => h.block k hk (fun hS => hn (hs k hS))⟩
theorem Kept.drew (h : Kept S w w') : Kept S w w'.drew := ⟨h.os, h.tape, h.output, h.size, h.block⟩
theorem Kept.of_below (h : Below w.heap.size w w') (S : Nat -> Prop) : Kept S w w' := ⟨h.os, h.tape, h.output, h.size, fun k hk _ => h.block k hk⟩
theorem Kept.below (h : Kept S w w') {B : Nat} (hB : B <= w.heap.size) (hs : ∀ i, S i -> B <= i) : Below B w w' := ⟨h.os, h.tape, h.output, h.size, fun k hk => h.block k (Nat.lt_of_lt_of_le hk hB) (fun hS => by have := hs k hS; omega)⟩
theorem Kept.of_grown {row : Option Nat} (h : w.grownBy w' row) (hs : ∀ i, row = some i -> S i) : Kept S w w' := ⟨h.os, h.tape, h.output, h.size, fun k hk hn => h.block k hk (fun e => hn (hs k e.symm))⟩
theorem Kept.alloc (S : Nat -> Prop) (w : World) (o : Obj) : Kept S w (w.alloc o) := Kept.of_below ((Below.refl _ _).alloc (Nat.le_refl _) o) S
theorem Kept.setCell (w : World) (a : Addr) (u : Value) (h : S a.block) : Kept S w (w.setCell a u) :=
 ⟨rfl, rfl, rfl, by simp [World.setCell], fun k _ hn => Below.heap_setCell w a u k (fun e => hn (e ▸ h))⟩
theorem Kept.cell (h : Kept S w w') {a : Addr} (hlt : a.block < w.heap.size) (hn : ¬ S a.block) : w'.cell? a = w.cell? a := World.cell?_of_block (h.block a.block hlt hn)
theorem Kept.frozen (h : Kept S w w') {a : Addr} (hlt : a.block < w.heap.size) (hn : ¬ S a.block) : w'.frozen? a = w.frozen? a := World.frozen?_of_block (h.block a.block hlt hn)
theorem Kept.grown (h : Kept S w w') {r : Nat} (hs : ∀ i, S i -> i = r) : w.grownBy w' (some r) := ⟨h.os, h.tape, h.output, h.size, fun k hk hn => h.block k hk (fun hS => hn (by rw [hs k hS]))⟩
end
end Go.Proofs.YtcjjekhecjmaeaaGreatDoor
