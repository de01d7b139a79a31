/- What was worked out, in a map by three handles; begin, ite, xor. -/
import Derived.Test.YtcjjekhecjmaeaaGreatDoorBdSmall
set_option maxHeartbeats 2000000
set_option maxRecDepth 100000
namespace Go.Proofs.YtcjjekhecjmaeaaGreatDoor
open Go.RowKit Go.Maps
theorem rowAsk : (172 : TypeId) < Tryz.prog.types.size := of_decide_eq_true (by kernel_rfl)
theorem wideAsk : (match Tryz.prog.underlying 172 with | some (.array _ _) | some (.struct _) => true | _ => false) = true := by rw [Tryz.underlying172]
theorem lawAsk : Keyed Tryz.prog 172 := Keyed.of_law (deep_law_laid laidOut (m := 2) (by omega) rowAsk (by kernel_rfl) wideAsk)
theorem keyTypeAsk : Tryz.prog.keyType 172 = true := by kernel_rfl
theorem cellsAsk : Tryz.prog.cellsOf 172 = 3 := by kernel_rfl
theorem keyAsk (n : Nd) (h : n.Ok) : keyOf Tryz.prog 172 n.val = some n.lit := by
 have hf : n.val.formed Tryz.prog 172 = true := by simp [Value.formed, Tryz.underlying172, cellsAsk, Nd.val]
 unfold keyOf
 rw [Tryz.underlying172]
 simp only [keyTypeAsk, hf, Bool.and_self, if_true]
 obtain ⟨d, hd⟩ : ∃ d, Tryz.prog.types.size + 1 = d + 2 := ⟨Tryz.prog.types.size - 1, by have : 0 < Tryz.prog.types.size := Nat.lt_of_le_of_lt (Nat.zero_le _) rowAsk; omega⟩
 rw [hd]
 unfold Program.keyLits
 rw [Tryz.underlying172]
 have hc : n.val.cells.toList = [.int .i64 n.v, .int .i64 n.l, .int .i64 n.h] := rfl
 rw [hc]
 simp [cellsAsk, cellsInt, List.range, List.range.loop, litsInt d h.1, litsInt d h.2.1, litsInt d h.2.2, Nd.lit]
theorem Rep.put_over {α β : Type} [DecidableEq α] {ok : α -> Prop} {kl : α -> Lit} {el : β -> DataW Unit} {D : DataW Unit} {L : List (α × β)} (h : Rep ok kl el D L) (inj : ∀ a b, ok a -> ok b -> kl a = kl b -> a = b) (key : ∀ a, WideAt.IsKeyLit (kl a)) {a : α} (b : β) (hm : a ∈ L.map Prod.fst) :
  Rep ok kl el (D.put (kl a) (el b)) (L.map fun q => if q.1 = a then (q.1, b) else q) := by
 have hk : (L.map fun q => if q.1 = a then (q.1, b) else q).map Prod.fst = L.map Prod.fst := by
  rw [List.map_map]; apply List.map_congr_left; intro q _; simp only [Function.comp]; split <;> rfl
 obtain ⟨p0, hp0, rfl⟩ := List.mem_map.1 hm
 have ha := h.oks p0 hp0
 have hne : ∀ c, ok c -> c ≠ p0.1 -> kl c ≠ kl p0.1 := fun c hc hca e => hca (inj c p0.1 hc ha e)
 refine ⟨h.tidy.put (key _) _, ?_, ?_, ?_, ?_, ?_, by rw [hk]; exact h.nodup⟩
 ·rw [size_put h.tidy, (h.has p0.1 ha).2 hm]; simp [h.size]
 ·intro q hq
  obtain ⟨r, hr, rfl⟩ := List.mem_map.1 hq
  have := h.oks r hr
  split <;> exact this
 ·intro c hc
  rw [hk]
  by_cases e : c = p0.1
  ·rw [e, has_put_same h.tidy.isMap (key _)]; simp only [true_iff]; exact hm
  ·rw [has_put_other (hne c hc e)]; exact h.has c hc
 ·intro x hx
  have hex : ∃ r ∈ L, x = kl r.1 := by
   by_cases e : x = kl p0.1
   ·exact ⟨p0, hp0, e⟩
   ·rw [has_put_other e] at hx; exact h.all x hx
  obtain ⟨r, hr, e⟩ := hex
  exact ⟨_, List.mem_map_of_mem hr, by rw [e]; split <;> rfl⟩
 ·intro q hq z
  obtain ⟨r, hr, rfl⟩ := List.mem_map.1 hq
  by_cases e : r.1 = p0.1
  ·rw [if_pos e]; show (D.put (kl p0.1) (el b)).atKey (kl r.1) z = el b
   rw [e]; exact atKey_put_same h.tidy.isMap (key _) _ _
  ·rw [if_neg e, atKey_put_other (hne r.1 (h.oks r hr) e)]; exact h.at' r hr z
section
variable {w : World} {bm n : Nat} {D : DataW Unit} {L : List (Nd × Int)}
theorem alook_found (hD : w.ownsMap Tryz.prog 172 (plainElem Tryz.prog 3) bm n D) (hR : Rep Nd.Ok Nd.lit (fun x : Int => .lit (.int .i64 x)) D L) {p : Nd × Int} (hp : p ∈ L) :
  (Instr.lookup 214 (.map (some bm)) (.agg #[.int .i64 p.1.v, .int .i64 p.1.l, .int .i64 p.1.h]) true).run Tryz.prog w = .ok (.tuple #[.int .i64 p.2, .bool true]) w := by
 obtain ⟨v, ps, hrun, hv⟩ := hD.look_ok lawAsk Tryz.underlying214 (zeroInt w) (zd := .lit (.int .i64 0)) (zp := []) (elInt ⟨by omega, by omega⟩) (keyAsk p.1 (hR.oks p hp))
 rw [hR.at' p hp] at hv
 obtain ⟨a, rfl, hz, -⟩ := plainElem_int_inv Tryz.underlying3 hv
 rw [(hR.has p.1 (hR.oks p hp)).2 (List.mem_map_of_mem hp)] at hrun
 simp at hz
 rw [<- hz.1] at hrun
 exact hrun
theorem alook_none (hD : w.ownsMap Tryz.prog 172 (plainElem Tryz.prog 3) bm n D) (hR : Rep Nd.Ok Nd.lit (fun x : Int => .lit (.int .i64 x)) D L) {a : Nd} (ha : a.Ok) (hn : a ∉ L.map Prod.fst) :
  (Instr.lookup 214 (.map (some bm)) (.agg #[.int .i64 a.v, .int .i64 a.l, .int .i64 a.h]) true).run Tryz.prog w = .ok (.tuple #[.int .i64 0, .bool false]) w := by
 obtain ⟨v, ps, hrun, hv⟩ := hD.look_ok lawAsk Tryz.underlying214 (zeroInt w) (zd := .lit (.int .i64 0)) (zp := []) (elInt ⟨by omega, by omega⟩) (keyAsk a ha)
 have hh := hR.not ha hn
 rw [atKey_of_not_has hh] at hv
 obtain ⟨c, rfl, hz, -⟩ := plainElem_int_inv Tryz.underlying3 hv
 rw [hh] at hrun
 simp at hz
 rw [<- hz.1] at hrun
 exact hrun
theorem astore (hD : w.ownsMap Tryz.prog 172 (plainElem Tryz.prog 3) bm L.length D) (hR : Rep Nd.Ok Nd.lit (fun x : Int => .lit (.int .i64 x)) D L) (hl : L.length < 1000000) {a : Nd} (ha : a.Ok) {x : Int} (hx : I64 x) :
  ∃ w' D', (Instr.mapUpdate 214 (.map (some bm)) (.agg #[.int .i64 a.v, .int .i64 a.l, .int .i64 a.h]) (.int .i64 x)).run Tryz.prog w = .ok () w' /\ w'.ownsMap Tryz.prog 172 (plainElem Tryz.prog 3) bm (memoPut L a x).length D' /\ Rep Nd.Ok Nd.lit (fun x : Int => .lit (.int .i64 x)) D' (memoPut L a x) /\ Kept (fun k => k = bm) w w' := by
 obtain ⟨w', hrun, h1, h2⟩ := hD.update lawAsk Tryz.underlying214 (by unfold maxLen; omega) (keyAsk a ha) (elInt hx)
 have hR' : Rep Nd.Ok Nd.lit (fun x : Int => .lit (.int .i64 x)) (D.put a.lit (.lit (.int .i64 x))) (memoPut L a x) := by
  unfold memoPut
  by_cases hm : a ∈ L.map Prod.fst
  ·rw [if_pos hm]; exact hR.put_over (fun _ _ => litNode_inj) litNode_key x hm
  ·rw [if_neg hm]; exact hR.put (fun _ _ => litNode_inj) litNode_key ha hm x
 exact ⟨w', _, hrun, hR'.size ▸ ownsMap_norm h1, hR', Kept.of_grown h2 (fun i h => by cases h; rfl)⟩
end
structure WorkAt (B : Nat) (w : World) (wk dm s : Nat) (F : FuncId) (m : List (Nd × Int)) : Prop where
 lt : wk < w.heap.size
 c0 : w.cell? ⟨wk, 0, none⟩ = some (.pointer (some ⟨s, 0, none⟩))
 c1 : w.cell? ⟨wk, 1, none⟩ = some (.func (.func F) #[] #[])
 c2 : w.cell? ⟨wk, 2, none⟩ = some (.map (some dm))
 hmap : ∃ D, w.ownsMap Tryz.prog 172 (plainElem Tryz.prog 3) dm m.length D /\ Rep Nd.Ok Nd.lit (fun x : Int => .lit (.int .i64 x)) D m
 d : dm ≠ wk
 Bd : B <= dm
 Bw : B <= wk
section
variable {B wk dm s : Nat} {F : FuncId} {m m' : List (Nd × Int)} {w w' : World}
theorem WorkAt.kept {S : Nat -> Prop} (h : WorkAt B w wk dm s F m) (hk : Kept S w w') (h1 : ¬ S wk) (h2 : ¬ S dm) : WorkAt B w' wk dm s F m := by
 obtain ⟨D, hD, hR⟩ := h.hmap
 exact ⟨Nat.lt_of_lt_of_le h.lt hk.size, (hk.cell (a := ⟨wk, 0, none⟩) h.lt h1).trans h.c0, (hk.cell (a := ⟨wk, 1, none⟩) h.lt h1).trans h.c1, (hk.cell (a := ⟨wk, 2, none⟩) h.lt h1).trans h.c2, ⟨D, ownsMap_kept hD hk h2, hR⟩, h.d, h.Bd, h.Bw⟩
theorem WorkAt.new (h : WorkAt B w wk dm s F m) (hb : Below w.heap.size w w') : WorkAt B w' wk dm s F m := h.kept (Kept.of_below hb (fun _ => False)) (fun h => h) (fun h => h)
theorem WorkAt.dlt (h : WorkAt B w wk dm s F m) : dm < w.heap.size := by obtain ⟨D, hD, -⟩ := h.hmap; exact hD.lt
theorem WorkAt.turned {D' : DataW Unit} (h : WorkAt B w wk dm s F m) (hk : Kept (fun j => j = dm) w w') (hD : w'.ownsMap Tryz.prog 172 (plainElem Tryz.prog 3) dm m'.length D') (hR : Rep Nd.Ok Nd.lit (fun x : Int => .lit (.int .i64 x)) D' m') : WorkAt B w' wk dm s F m' := by
 have hn : wk ≠ dm := fun e => h.d e.symm
 exact ⟨Nat.lt_of_lt_of_le h.lt hk.size, (hk.cell (a := ⟨wk, 0, none⟩) h.lt hn).trans h.c0, (hk.cell (a := ⟨wk, 1, none⟩) h.lt hn).trans h.c1, (hk.cell (a := ⟨wk, 2, none⟩) h.lt hn).trans h.c2, ⟨D', hD, hR⟩, h.d, h.Bd, h.Bw⟩
end
theorem begin_any (s : Nat) (F : FuncId) (w : World) (B : Nat) (hB : B <= w.heap.size) :
  Calls Tryz.prog 104 #[.pointer (some ⟨s, 0, none⟩), .func (.func F) #[] #[]] w fun e w' => e = .returned (.pointer (some ⟨w.heap.size + 1, 0, none⟩)) /\ WorkAt B w' (w.heap.size + 1) w.heap.size s F [] /\ Below w.heap.size w w' := by
 have hmm := @run_makeMap Tryz.prog
 have hE : WorkAt B ((w.alloc (.map #[] 0)).alloc (.cells #[.pointer (some ⟨s, 0, none⟩), .func (.func F) #[] #[], .map (some w.heap.size)] 216)) (w.heap.size + 1) w.heap.size s F [] := by
  have e1 : (w.alloc (.map #[] 0)).heap.size = w.heap.size + 1 := by simp
  have hm : ((w.alloc (.map #[] 0)).alloc (.cells #[.pointer (some ⟨s, 0, none⟩), .func (.func F) #[] #[], .map (some w.heap.size)] 216)).ownsMap Tryz.prog 172 (plainElem (H := Unit) Tryz.prog 3) w.heap.size 0 (.map []) := (World.ownsMap_made w _ _ _).alloc _
  refine ⟨by simp, ?_, ?_, ?_, ⟨_, hm, Rep.empty⟩, by omega, hB, by omega⟩
  ·rw [<- e1]; simp
  ·rw [<- e1]; simp
  ·rw [<- e1]; simp
 have hb : Below w.heap.size w ((w.alloc (.map #[] 0)).alloc (.cells #[.pointer (some ⟨s, 0, none⟩), .func (.func F) #[] #[], .map (some w.heap.size)] 216)) := (below_new w _).alloc (below_new w _).size _
 have HE := Lib.hid hE
 clear hE
 go_enter Tryz.func104, Tryz.ntmps104
 go_wp2
 go_ret
 exact ⟨rfl, HE.out, hb⟩
theorem ite_any (k : Nd) (w : World) : Calls Tryz.prog 98 #[k.val] w fun e w' => e = .returned (.tuple #[.int .i64 ((knownF true k).getD 0), .bool (knownF true k).isSome]) /\ Below w.heap.size w w' := by
 obtain ⟨a, b, c⟩ := k
 have hb := below_new w (.cells #[.int .i64 a, .int .i64 b, .int .i64 c] 172)
 obtain ⟨x0, x1, x2, -⟩ := cell3 w (.int .i64 a) (.int .i64 b) (.int .i64 c) 172
 unfold Nd.val
 show Calls _ _ _ _ fun e w' => e = .returned (.tuple #[.int .i64 ((iteK ⟨a, b, c⟩).getD 0), .bool (iteK ⟨a, b, c⟩).isSome]) /\ _
 by_cases c1 : a = 1
 ·have hk : iteK ⟨a, b, c⟩ = some b := by unfold iteK; rw [if_pos (.inl c1)]
  rw [hk]; clear hk; subst c1
  go_enter Tryz.func98, Tryz.ntmps98
  go_wp2
  go_ret2
  exact ⟨rfl, hb⟩
 by_cases c2 : b = c
 ·have hk : iteK ⟨a, b, c⟩ = some b := by unfold iteK; rw [if_pos (.inr c2)]
  rw [hk]; clear hk; subst c2
  go_enter Tryz.func98, Tryz.ntmps98
  go_wp2
  go_ret2
  exact ⟨rfl, hb⟩
 have q1 : (a == 1) = false := by simpa using c1
 have q2 : (b == c) = false := by simpa using c2
 by_cases c3 : a = 0
 ·have hk : iteK ⟨a, b, c⟩ = some c := by unfold iteK; rw [if_neg (by simp [c1, c2]), if_pos c3]
  rw [hk]; clear hk; subst c3
  go_enter Tryz.func98, Tryz.ntmps98
  go_wp2
  go_ret2
  exact ⟨rfl, hb⟩
 have q3 : (a == 0) = false := by simpa using c3
 by_cases c4 : b = 1
 ·by_cases c5 : c = 0
  ·have hk : iteK ⟨a, b, c⟩ = some a := by unfold iteK; rw [if_neg (by simp [c1, c2]), if_neg c3, if_pos ⟨c4, c5⟩]
   rw [hk]; clear hk; subst c4 c5
   go_enter Tryz.func98, Tryz.ntmps98
   go_wp2
   go_ret2
   exact ⟨rfl, hb⟩
  ·have hk : iteK ⟨a, b, c⟩ = none := by unfold iteK; rw [if_neg (by simp [c1, c2]), if_neg c3, if_neg (by simp [c5])]
   rw [hk]; clear hk; subst c4
   have q5 : (c == 0) = false := by simpa using c5
   go_enter Tryz.func98, Tryz.ntmps98
   go_wp2
   go_ret2
   exact ⟨rfl, hb⟩
 ·have hk : iteK ⟨a, b, c⟩ = none := by unfold iteK; rw [if_neg (by simp [c1, c2]), if_neg c3, if_neg (by simp [c4])]
  rw [hk]; clear hk
  have q4 : (b == 1) = false := by simpa using c4
  go_enter Tryz.func98, Tryz.ntmps98
  go_wp2
  go_ret2
  exact ⟨rfl, hb⟩
theorem xor_any (k : Nd) (w : World) : Calls Tryz.prog 101 #[k.val] w fun e w' => e = .returned (.tuple #[.int .i64 ((knownF false k).getD 0), .bool (knownF false k).isSome]) /\ Below w.heap.size w w' := by
 obtain ⟨a, b, c⟩ := k
 have hb := below_new w (.cells #[.int .i64 a, .int .i64 b, .int .i64 c] 172)
 obtain ⟨x0, x1, x2, -⟩ := cell3 w (.int .i64 a) (.int .i64 b) (.int .i64 c) 172
 unfold Nd.val
 show Calls _ _ _ _ fun e w' => e = .returned (.tuple #[.int .i64 ((xorK ⟨a, b, c⟩).getD 0), .bool (xorK ⟨a, b, c⟩).isSome]) /\ _
 by_cases c1 : a = b
 ·have hk : xorK ⟨a, b, c⟩ = some 0 := by unfold xorK; rw [if_pos c1]
  rw [hk]; clear hk; subst c1
  go_enter Tryz.func101, Tryz.ntmps101
  go_wp2
  go_ret2
  exact ⟨rfl, hb⟩
 by_cases c2 : a = 0
 ·have hk : xorK ⟨a, b, c⟩ = some b := by unfold xorK; rw [if_neg c1, if_pos c2]
  rw [hk]; clear hk; subst c2
  go_enter Tryz.func101, Tryz.ntmps101
  go_wp2
  go_ret2
  exact ⟨rfl, hb⟩
 by_cases c3 : b = 0
 ·have hk : xorK ⟨a, b, c⟩ = some a := by unfold xorK; rw [if_neg c1, if_neg c2, if_pos c3]
  rw [hk]; clear hk; subst c3
  go_enter Tryz.func101, Tryz.ntmps101
  go_wp2
  go_ret2
  exact ⟨rfl, hb⟩
 ·have hk : xorK ⟨a, b, c⟩ = none := by unfold xorK; rw [if_neg c1, if_neg c2, if_neg c3]
  rw [hk]; clear hk
  go_enter Tryz.func101, Tryz.ntmps101
  go_wp2
  go_ret2
  exact ⟨rfl, hb⟩
end Go.Proofs.YtcjjekhecjmaeaaGreatDoor
