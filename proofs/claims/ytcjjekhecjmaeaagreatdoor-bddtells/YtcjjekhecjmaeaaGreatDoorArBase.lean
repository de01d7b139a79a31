/- Nodes, maps of nodes as lists of pairs, and what a call leaves as it was. -/
import Derived.Test.YtcjjekhecjmaeaaGreatDoorCards
import Derived.Test.YtcjjekhecjmaeaaGreatDoorTie
import Derived.Test.YtcjjekhecjmaeaaGreatDoorErTell
import Derived.ProofKit
import Derived.OpenShut
import Derived.Deep.DeepHandedRow
import Derived.LaidHandle
import Derived.LaidSub
import Derived.Shelf.LaysM
import Derived.Shelf.LaysC
import Derived.Shelf.Strings.OnBuilder
import Derived.Shelf.Strconv.Itoa3
import Derived.Shelf.Strconv.Itoa4
import Derived.Test.YtcjjekhecjmaeaaGreatDoorProg
import Derived.KernelRfl
import Derived.WalkKit
import Derived.WalkSpells
import Derived.WalkLawsBesides
import Derived.Deep.Cut
import Derived.Deep.DeepCutAuto
import Derived.Deep.RegionWith
import Derived.Deep.RegionHeld3
import Derived.Deep.LoopGhost
import Derived.Deep.DeepFit
import Derived.Deep.DeepMust
import Derived.Deep.Light
import Derived.Lib.QuietBelow
import Derived.Lib.Hide
import Derived.Lib.MinMax
import Derived.BigQuiet
import Derived.DeepKeys4
import Derived.Maps.OwnSet
import Derived.Maps.OwnOps
import Derived.Maps.RangeWalk
set_option maxRecDepth 100000
namespace Go.Proofs.YtcjjekhecjmaeaaGreatDoor
open Go.ChangeShapes Go.WideShapes Go.ChangeAt Go.RowKit
theorem own : ownKnob Tryz.prog.godebug = none := by kernel_rfl
def refill (cs : Array Value) : Obj -> Obj
 | .cells _ t frozen => .cells cs t frozen
 | o => o
end Go.Proofs.YtcjjekhecjmaeaaGreatDoor
namespace Go.Proofs
open Go.Shelf
def Tryz.lays156_ren : Go.Shelf.Ren := ⟨fun | 156 => 44 | 165 => 81 | 166 => 82 | 169 => 83 | 240 => 129 | 241 => 130 | 276 => 153 | 277 => 154 | n => n, fun | 31 => 92 | 9 => 9 | 3 => 3 | 4 => 4 | 0 => 0 | 20 => 20 | 72 => 144 | 76 => 37 | 70 => 142 | 37 => 49 | 75 => 32 | 127 => 196 | 164 => 157 | 5 => 5 | 80 => 39 | n => n, fun | n => n⟩
theorem Tryz.lays156 : Go.Proofs.Lays.n156 Tryz.prog Tryz.lays156_ren := {
 mixed := by kernel_rfl
 f156 := Tryz.func44.trans (congrArg some (by kernel_rfl))
 f165 := Tryz.func81.trans (congrArg some (by kernel_rfl))
 f166 := Tryz.func82.trans (congrArg some (by kernel_rfl))
 f169 := Tryz.func83.trans (congrArg some (by kernel_rfl))
 f240 := Tryz.func129.trans (congrArg some (by kernel_rfl))
 f241 := Tryz.func130.trans (congrArg some (by kernel_rfl))
 f276 := Tryz.func153.trans (congrArg some (by kernel_rfl))
 f277 := Tryz.func154.trans (congrArg some (by kernel_rfl))
 t0 := Tryz.underlying0
 a0 := Tryz.isAgg0
 z0 := Tryz.sizeOf0
 v0 := Tryz.zeroValue0
 t3 := Tryz.underlying3
 a3 := Tryz.isAgg3
 z3 := Tryz.sizeOf3
 v3 := Tryz.zeroValue3
 t4 := Tryz.underlying4
 a4 := Tryz.isAgg4
 z4 := Tryz.sizeOf4
 v4 := Tryz.zeroValue4
 t9 := Tryz.underlying9
 a9 := Tryz.isAgg9
 z9 := Tryz.sizeOf9
 v9 := Tryz.zeroValue9
 t20 := Tryz.underlying20
 a20 := Tryz.isAgg20
 z20 := Tryz.sizeOf20
 v20 := Tryz.zeroValue20
 t31 := Tryz.underlying92
 a31 := Tryz.isAgg92
 z31 := Tryz.sizeOf92
 v31 := Tryz.zeroValue92
 t37 := Tryz.underlying49
 a37 := Tryz.isAgg49
 z37 := Tryz.sizeOf49
 v37 := Tryz.zeroValue49
 t70 := Tryz.underlying142
 a70 := Tryz.isAgg142
 z70 := Tryz.sizeOf142
 v70 := Tryz.zeroValue142
 t72 := Tryz.underlying144
 a72 := Tryz.isAgg144
 z72 := Tryz.sizeOf144
 v72 := Tryz.zeroValue144
 t75 := Tryz.underlying32
 a75 := Tryz.isAgg32
 z75 := Tryz.sizeOf32
 v75 := Tryz.zeroValue32
 t76 := Tryz.underlying37
 a76 := Tryz.isAgg37
 z76 := Tryz.sizeOf37
 v76 := Tryz.zeroValue37
 t127 := Tryz.underlying196
 a127 := Tryz.isAgg196
 z127 := Tryz.sizeOf196
 v127 := Tryz.zeroValue196
 t164 := Tryz.underlying157
 a164 := Tryz.isAgg157
 z164 := Tryz.sizeOf157
 v164 := Tryz.zeroValue157 }
theorem Tryz.Builder_Extra_156 : Builder.Extra Tryz.prog Tryz.lays156_ren := {
 sizeBuilder := by kernel_rfl
 liesBuilder := by kernel_rfl
 t5 := Tryz.underlying5
 a5 := Tryz.isAgg5
 z5 := Tryz.sizeOf5
 v5 := Tryz.zeroValue5
 infoByte := by kernel_rfl
 cellsByte := by kernel_rfl
 sizeByte := by kernel_rfl
 neB5 := by decide }
open Go.RowKit in
theorem Tryz.strings_Join (bk o c : Nat) (xs : List ByteArray) (sep : ByteArray) (w : World) (hcells : ∀ (j : Nat) x, xs[j]? = some x -> w.cell? ⟨bk, o + j, none⟩ = some (.string x)) (hbk : bk < w.heap.size) (hN : xs.length <= 140737488355328) (hcap : xs.length <= c) (hlen : (Lib.join (xs.map (·.data.toList)) sep.data.toList).length <= 140737488355328) :
  Calls Tryz.prog 44 #[.slice (some ⟨bk, o, none⟩) xs.length c, .string sep] w fun e w' => e = .returned (.string ⟨(Lib.join (xs.map (·.data.toList)) sep.data.toList).toArray⟩) /\ Below w.heap.size w w' := Any.strings_Join Tryz.lays156 Tryz.Builder_Extra_156 bk o c xs sep w hcells hbk hN hcap hlen
def Tryz.laysM171_ren : Go.Shelf.Ren := ⟨fun | 171 => 43 | 243 => 80 | 246 => 128 | 283 => 124 | 284 => 125 | 285 => 126 | 286 => 127 | 129 => 123 | 317 => 149 | 318 => 150 | 319 => 151 | 320 => 152 | 337 => 164 | 338 => 165 | n => n, fun | 3 => 3 | 9 => 9 | 2 => 2 | 4 => 4 | 171 => 191 | 0 => 0 | 53 => 90 | 37 => 49 | 5 => 5 | 173 => 193 | 212 => 225 | 51 => 189 | 20 => 20 | 213 => 226 | 46 => 65 | 232 => 243 | 233 => 244 | n => n, fun | 17 => 1 | 18 => 3 | 19 => 4 | n => n⟩
theorem Tryz.laysM171 : Go.Proofs.LaysM.n171 Tryz.prog Tryz.laysM171_ren := {
 mixed := by kernel_rfl
 f129 := Tryz.func123.trans (congrArg some (by kernel_rfl))
 f171 := Tryz.func43.trans (congrArg some (by kernel_rfl))
 f243 := Tryz.func80.trans (congrArg some (by kernel_rfl))
 f246 := Tryz.func128.trans (congrArg some (by kernel_rfl))
 f283 := Tryz.func124.trans (congrArg some (by kernel_rfl))
 f284 := Tryz.func125.trans (congrArg some (by kernel_rfl))
 f285 := Tryz.func126.trans (congrArg some (by kernel_rfl))
 f286 := Tryz.func127.trans (congrArg some (by kernel_rfl))
 f317 := Tryz.func149.trans (congrArg some (by kernel_rfl))
 f318 := Tryz.func150.trans (congrArg some (by kernel_rfl))
 f319 := Tryz.func151.trans (congrArg some (by kernel_rfl))
 f320 := Tryz.func152.trans (congrArg some (by kernel_rfl))
 f337 := Tryz.func164.trans (congrArg some (by kernel_rfl))
 f338 := Tryz.func165.trans (congrArg some (by kernel_rfl))
 t0 := Tryz.underlying0
 a0 := Tryz.isAgg0
 z0 := Tryz.sizeOf0
 v0 := Tryz.zeroValue0
 t2 := Tryz.underlying2
 a2 := Tryz.isAgg2
 z2 := Tryz.sizeOf2
 v2 := Tryz.zeroValue2
 t3 := Tryz.underlying3
 a3 := Tryz.isAgg3
 z3 := Tryz.sizeOf3
 v3 := Tryz.zeroValue3
 t4 := Tryz.underlying4
 a4 := Tryz.isAgg4
 z4 := Tryz.sizeOf4
 v4 := Tryz.zeroValue4
 t5 := Tryz.underlying5
 a5 := Tryz.isAgg5
 z5 := Tryz.sizeOf5
 v5 := Tryz.zeroValue5
 t9 := Tryz.underlying9
 a9 := Tryz.isAgg9
 z9 := Tryz.sizeOf9
 v9 := Tryz.zeroValue9
 t20 := Tryz.underlying20
 a20 := Tryz.isAgg20
 z20 := Tryz.sizeOf20
 v20 := Tryz.zeroValue20
 t37 := Tryz.underlying49
 a37 := Tryz.isAgg49
 z37 := Tryz.sizeOf49
 v37 := Tryz.zeroValue49
 t46 := Tryz.underlying65
 a46 := Tryz.isAgg65
 z46 := Tryz.sizeOf65
 v46 := Tryz.zeroValue65
 t51 := Tryz.underlying189
 a51 := Tryz.isAgg189
 z51 := Tryz.sizeOf189
 v51 := Tryz.zeroValue189
 t53 := Tryz.underlying90
 a53 := Tryz.isAgg90
 z53 := Tryz.sizeOf90
 v53 := Tryz.zeroValue90
 t171 := Tryz.underlying191
 a171 := Tryz.isAgg191
 z171 := Tryz.sizeOf191
 v171 := Tryz.zeroValue191
 t173 := Tryz.underlying193
 a173 := Tryz.isAgg193
 z173 := Tryz.sizeOf193
 v173 := Tryz.zeroValue193
 t212 := Tryz.underlying225
 a212 := Tryz.isAgg225
 z212 := Tryz.sizeOf225
 v212 := Tryz.zeroValue225
 t213 := Tryz.underlying226
 a213 := Tryz.isAgg226
 z213 := Tryz.sizeOf226
 t232 := Tryz.underlying243
 a232 := Tryz.isAgg243
 z232 := Tryz.sizeOf243
 v232 := Tryz.zeroValue243
 t233 := Tryz.underlying244
 a233 := Tryz.isAgg244
 z233 := Tryz.sizeOf244
 v233 := Tryz.zeroValue244
 g17 := by kernel_rfl
 g18 := by kernel_rfl
 g19 := by kernel_rfl
 i0 := by kernel_rfl
 i2 := by kernel_rfl
 i3 := by kernel_rfl
 i4 := by kernel_rfl
 i5 := by kernel_rfl
 i9 := by kernel_rfl
 i20 := by kernel_rfl
 i37 := by kernel_rfl
 i46 := by kernel_rfl
 i51 := by kernel_rfl
 i53 := by kernel_rfl
 i171 := by kernel_rfl
 i173 := by kernel_rfl
 i212 := by kernel_rfl
 i232 := by kernel_rfl
 i233 := by kernel_rfl
 m17 := by kernel_rfl
 m18 := by kernel_rfl
 m19 := by kernel_rfl }
open Go.RowKit Go.Sort Go.Lib in
theorem Tryz.strconv_Itoa (n : Int) (h0 : -9223372036854775808 <= n) (h1 : n <= 9223372036854775807) (w : World) (htab : Lib.TabIs Tryz.prog w "internal/strconv.uint64pow10" .u64 Lib.pow10Tab) :
  Calls Tryz.prog 43 #[.int .i64 n] w fun e w' => e = .returned (.string ⟨(Lib.itoa n).toArray⟩) /\ ∃ k os, w' = grow (w.drewN k) os := Any.strconv_Itoa Tryz.laysM171 n h0 h1 w htab
end Go.Proofs
namespace Go.Proofs.YtcjjekhecjmaeaaGreatDoor
open Go.RowKit Go.Maps
structure Nd where
 v : Int
 l : Int
 h : Int
 deriving DecidableEq
def Nd.val (n : Nd) : Value := .agg #[.int .i64 n.v, .int .i64 n.l, .int .i64 n.h]
def I64 (x : Int) : Prop := -9223372036854775808 <= x /\ x <= 9223372036854775807
def Nd.Ok (n : Nd) : Prop := I64 n.v /\ I64 n.l /\ I64 n.h
theorem wf_of {x : Int} (h : I64 x) : (Lit.int .i64 x).wf = true := by
 obtain ⟨h0, h1⟩ := h
 simp [Lit.wf, IntKind.min, IntKind.max, IntKind.signed, IntKind.bits]
 omega
theorem laidOut : laidOutB Tryz.prog = true := by kernel_rfl
theorem rowNode : (102 : TypeId) < Tryz.prog.types.size := of_decide_eq_true (by kernel_rfl)
theorem wideNode : (match Tryz.prog.underlying 102 with | some (.array _ _) | some (.struct _) => true | _ => false) = true := by rw [Tryz.underlying102]
theorem lawNode : Keyed Tryz.prog 102 := Keyed.of_law (deep_law_laid laidOut (m := 2) (by omega) rowNode (by kernel_rfl) wideNode)
theorem keyTypeNode : Tryz.prog.keyType 102 = true := by kernel_rfl
def Nd.lit (n : Nd) : Lit := .string (keyBytes [.int .i64 n.v, .int .i64 n.l, .int .i64 n.h])
theorem cellsNode : Tryz.prog.cellsOf 102 = 3 := by kernel_rfl
theorem cellsInt : Tryz.prog.cellsOf 3 = 1 := by kernel_rfl
theorem litsInt (d : Nat) {x : Int} (h : I64 x) : Tryz.prog.keyLits (d + 1) 3 [.int .i64 x] = some [.int .i64 x] := by
 unfold Program.keyLits
 rw [Tryz.underlying3]
 simp [wf_of h]
theorem keyNode (n : Nd) (h : n.Ok) : keyOf Tryz.prog 102 n.val = some n.lit := by
 have hf : n.val.formed Tryz.prog 102 = true := by simp [Value.formed, Tryz.underlying102, cellsNode, Nd.val]
 unfold keyOf
 rw [Tryz.underlying102]
 simp only [keyTypeNode, hf, Bool.and_self, if_true]
 obtain ⟨d, hd⟩ : ∃ d, Tryz.prog.types.size + 1 = d + 2 := ⟨Tryz.prog.types.size - 1, by have : 0 < Tryz.prog.types.size := Nat.lt_of_le_of_lt (Nat.zero_le _) rowNode; omega⟩
 rw [hd]
 unfold Program.keyLits
 rw [Tryz.underlying102]
 have hc : n.val.cells.toList = [.int .i64 n.v, .int .i64 n.l, .int .i64 n.h] := rfl
 rw [hc]
 simp [cellsNode, cellsInt, litsInt d h.1, litsInt d h.2.1, litsInt d h.2.2, Nd.lit]
theorem litNode_key (n : Nd) : WideAt.IsKeyLit n.lit := trivial
theorem litNode_inj {n m : Nd} (hn : n.Ok) (hm : m.Ok) (h : n.lit = m.lit) : n = m := by
 have := lawNode.inj (keyNode n hn) (h ▸ keyNode m hm)
 cases n; cases m
 simpa [Nd.val] using this
structure Rep {α β : Type} (ok : α -> Prop) (kl : α -> Lit) (el : β -> DataW Unit) (D : DataW Unit) (L : List (α × β)) : Prop where
 tidy : Tidy D
 size : Maps.size D = L.length
 oks : ∀ p ∈ L, ok p.1
 has : ∀ a, ok a -> (Maps.has D (kl a) = true ↔ a ∈ L.map Prod.fst)
 all : ∀ x, Maps.has D x = true -> ∃ p ∈ L, x = kl p.1
 at' : ∀ p ∈ L, ∀ z, D.atKey (kl p.1) z = el p.2
 nodup : (L.map Prod.fst).Nodup
section
variable {α β : Type} {ok : α -> Prop} {kl : α -> Lit} {el : β -> DataW Unit} {D : DataW Unit} {L : List (α × β)}
theorem Rep.empty : Rep ok kl el (.map []) ([] : List (α × β)) :=
 ⟨tidy_empty, rfl, fun p h => (by cases h), fun a _ => (by simp [Maps.has]), fun x h => (by simp [Maps.has] at h), fun p h => (by cases h), List.nodup_nil⟩
theorem Rep.not (h : Rep ok kl el D L) {a : α} (ha : ok a) (hn : a ∉ L.map Prod.fst) : Maps.has D (kl a) = false := by
 cases e : Maps.has D (kl a) with
 | false => rfl
 | true => exact absurd ((h.has a ha).1 e) hn
theorem Rep.put (h : Rep ok kl el D L) (inj : ∀ a b, ok a -> ok b -> kl a = kl b -> a = b) (key : ∀ a, WideAt.IsKeyLit (kl a)) {a : α} (ha : ok a) (hn : a ∉ L.map Prod.fst) (b : β) :
  Rep ok kl el (D.put (kl a) (el b)) (L ++ [(a, b)]) := by
 have hne : ∀ c, ok c -> c ≠ a -> kl c ≠ kl a := fun c hc hca e => hca (inj c a hc ha e)
 refine ⟨h.tidy.put (key a) _, ?_, ?_, ?_, ?_, ?_, ?_⟩
 ·rw [size_put h.tidy, h.not ha hn]; simp [h.size]
 ·intro p hp
  rcases List.mem_append.1 hp with hp | hp
  ·exact h.oks p hp
  ·rw [List.mem_singleton] at hp; subst hp; exact ha
 ·intro c hc
  rw [List.map_append, List.mem_append]
  by_cases e : c = a
  ·subst e
   simp [has_put_same h.tidy.isMap (key c)]
  ·rw [has_put_other (hne c hc e)]
   simp [h.has c hc, e]
 ·intro x hx
  by_cases e : x = kl a
  ·exact ⟨(a, b), by simp, e⟩
  ·rw [has_put_other e] at hx
   obtain ⟨p, hp, hx⟩ := h.all x hx
   exact ⟨p, by simp [hp], hx⟩
 ·intro p hp z
  rcases List.mem_append.1 hp with hp | hp
  ·rw [atKey_put_other (hne p.1 (h.oks p hp) (fun e => hn (e ▸ List.mem_map_of_mem hp)))]
   exact h.at' p hp z
  ·rw [List.mem_singleton] at hp; subst hp
   exact atKey_put_same h.tidy.isMap (key a) _ _
 ·rw [List.map_append, List.nodup_append]
  refine ⟨h.nodup, by simp, fun x hx y hy => ?_⟩
  simp at hy; subst hy
  exact fun e => hn (e ▸ hx)
theorem Rep.del [DecidableEq α] (h : Rep ok kl el D L) (inj : ∀ a b, ok a -> ok b -> kl a = kl b -> a = b) {p : α × β} (hp : p ∈ L) : Rep ok kl el (D.del (kl p.1)) (L.filter fun q => decide (q.1 ≠ p.1)) := by
 have ha := h.oks p hp
 have hne : ∀ c, ok c -> c ≠ p.1 -> kl c ≠ kl p.1 := fun c hc hca e => hca (inj c p.1 hc ha e)
 have hm : p.1 ∈ L.map Prod.fst := List.mem_map_of_mem hp
 have hlen : ∀ (M : List (α × β)), (M.map Prod.fst).Nodup -> p.1 ∈ M.map Prod.fst -> (M.filter fun q => decide (q.1 ≠ p.1)).length + 1 = M.length := by
  intro M
  induction M with
  | nil => intro _ h; simp at h
  | cons q M ih =>
   intro hn hin
   rw [List.map_cons, List.nodup_cons] at hn
   by_cases e : q.1 = p.1
   ·rw [List.filter_cons_of_neg (by simp [e])]
    have : M.filter (fun q => decide (q.1 ≠ p.1)) = M := List.filter_eq_self.2 (fun r hr => by
     simp only [decide_eq_true_eq]; intro e2; exact hn.1 (e ▸ e2 ▸ List.mem_map_of_mem hr))
    rw [this]; rfl
   ·rw [List.filter_cons_of_pos (by simp [e]), List.length_cons, List.length_cons, ih hn.2 (by
     rw [List.map_cons, List.mem_cons] at hin
     rcases hin with hin | hin
     ·exact absurd hin.symm e
     ·exact hin)]
 refine ⟨h.tidy.del _, ?_, ?_, ?_, ?_, ?_, ?_⟩
 ·have h1 := size_del (k := kl p.1) h.tidy
  rw [(h.has p.1 ha).2 hm] at h1
  have h2 := hlen L h.nodup hm
  rw [h.size] at h1
  simp only [if_true] at h1
  omega
 ·intro q hq; exact h.oks q (List.mem_filter.1 hq).1
 ·intro c hc
  by_cases e : c = p.1
  ·rw [e, has_del_same]
   simp only [Bool.false_eq_true, false_iff, List.mem_map, List.mem_filter, not_exists, not_and]
   intro q hq e2; simp [e2] at hq
  ·rw [has_del_other (hne c hc e), h.has c hc]
   simp only [List.mem_map, List.mem_filter]
   constructor
   ·rintro ⟨q, hq, rfl⟩; exact ⟨q, ⟨hq, by simpa using e⟩, rfl⟩
   ·rintro ⟨q, ⟨hq, -⟩, rfl⟩; exact ⟨q, hq, rfl⟩
 ·intro x hx
  by_cases e : x = kl p.1
  ·rw [e, has_del_same] at hx; cases hx
  ·rw [has_del_other e] at hx
   obtain ⟨q, hq, hxq⟩ := h.all x hx
   refine ⟨q, List.mem_filter.2 ⟨hq, ?_⟩, hxq⟩
   simp only [decide_eq_true_eq]
   intro e2; rw [e2] at hxq; exact e hxq
 ·intro q hq z
  obtain ⟨hq, hqn⟩ := List.mem_filter.1 hq
  rw [atKey_del_other (hne q.1 (h.oks q hq) (by simpa using hqn))]
  exact h.at' q hq z
 ·exact List.Nodup.sublist (List.Sublist.map _ List.filter_sublist) h.nodup
end
structure Kept (S : Nat -> Prop) (w w' : World) : Prop where
 os : w'.os = w.os
 tape : w'.tape = w.tape
 output : w'.output = w.output
 size : w.heap.size <= w'.heap.size
 block : ∀ k, k < w.heap.size -> ¬ S k -> w'.heap[k]? = w.heap[k]?
section
variable {S T : Nat -> Prop} {w w' w'' : World}
theorem Kept.refl (S : Nat -> Prop) (w : World) : Kept S w w := ⟨rfl, rfl, rfl, Nat.le_refl _, fun _ _ _ => rfl⟩
theorem Kept.trans (h : Kept S w w') (k : Kept S w' w'') : Kept S w w'' :=
 ⟨k.os.trans h.os, k.tape.trans h.tape, k.output.trans h.output, Nat.le_trans h.size k.size, fun i hi hs => (k.block i (Nat.lt_of_lt_of_le hi h.size) hs).trans (h.block i hi hs)⟩
theorem Kept.andThen (h : Kept S w w') (k : Kept T w' w'') (ht : ∀ i, T i -> i < w.heap.size -> S i) : Kept S w w'' :=
 ⟨k.os.trans h.os, k.tape.trans h.tape, k.output.trans h.output, Nat.le_trans h.size k.size, fun i hi hs => (k.block i (Nat.lt_of_lt_of_le hi h.size) (fun hT => hs (ht i hT hi))).trans (h.block i hi hs)⟩
theorem Kept.mono (h : Kept S w w') (hs : ∀ i, S i -> T i) : Kept T w w' := ⟨h.os, h.tape, h.output, h.size, fun k hk hn => h.block k hk (fun hS => hn (hs k hS))⟩
theorem Kept.drew (h : Kept S w w') : Kept S w w'.drew := ⟨h.os, h.tape, h.output, h.size, h.block⟩
theorem Kept.of_below (h : Below w.heap.size w w') (S : Nat -> Prop) : Kept S w w' := ⟨h.os, h.tape, h.output, h.size, fun k hk _ => h.block k hk⟩
theorem Kept.below (h : Kept S w w') {B : Nat} (hB : B <= w.heap.size) (hs : ∀ i, S i -> B <= i) : Below B w w' := ⟨h.os, h.tape, h.output, h.size, fun k hk => h.block k (Nat.lt_of_lt_of_le hk hB) (fun hS => by have := hs k hS; omega)⟩
theorem Kept.of_grown {row : Option Nat} (h : w.grownBy w' row) (hs : ∀ i, row = some i -> S i) : Kept S w w' := ⟨h.os, h.tape, h.output, h.size, fun k hk hn => h.block k hk (fun e => hn (hs k e.symm))⟩
theorem Kept.alloc (S : Nat -> Prop) (w : World) (o : Obj) : Kept S w (w.alloc o) := Kept.of_below ((Below.refl _ _).alloc (Nat.le_refl _) o) S
theorem Kept.setCell (w : World) (a : Addr) (u : Value) (h : S a.block) : Kept S w (w.setCell a u) :=
 ⟨rfl, rfl, rfl, by simp [World.setCell], fun k _ hn => Below.heap_setCell w a u k (fun e => hn (e ▸ h))⟩
theorem Kept.cell (h : Kept S w w') {a : Addr} (hlt : a.block < w.heap.size) (hn : ¬ S a.block) : w'.cell? a = w.cell? a := World.cell?_of_block (h.block a.block hlt hn)
theorem Kept.frozen (h : Kept S w w') {a : Addr} (hlt : a.block < w.heap.size) (hn : ¬ S a.block) : w'.frozen? a = w.frozen? a := World.frozen?_of_block (h.block a.block hlt hn)
theorem Kept.grown (h : Kept S w w') {r : Nat} (hs : ∀ i, S i -> i = r) : w.grownBy w' (some r) := ⟨h.os, h.tape, h.output, h.size, fun k hk hn => h.block k hk (fun hS => hn (by rw [hs k hS]))⟩
end
end Go.Proofs.YtcjjekhecjmaeaaGreatDoor
