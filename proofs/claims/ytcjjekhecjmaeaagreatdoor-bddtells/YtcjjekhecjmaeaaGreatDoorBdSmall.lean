/- node, sides, present, variable, begin. -/
import Derived.Test.YtcjjekhecjmaeaaGreatDoorArTaken
import Derived.Test.YtcjjekhecjmaeaaGreatDoorBdMakes
set_option maxHeartbeats 1000000
set_option maxRecDepth 100000
namespace Go.Proofs.YtcjjekhecjmaeaaGreatDoor
section
open Go.RowKit Go.Maps
structure SpaceAt (B : Nat) (w : World) (s b : Nat) (O : Nat -> Prop) (vars : Nat) (room : Int) (ns : List Nd) : Prop where
 arena : ∃ bm v L next, ArenaAt B w b bm v ns L room next /\ Book ns L /\ (∃ i : Nat, next = 2 + (i : Int) /\ i <= ns.length /\ ∀ j, j < i -> (nd ns j).v < 24) /\ (∀ k, Own b bm v k -> O k)
 own : ∀ k, O k -> B <= k /\ k < w.heap.size
 sO : ¬ O s
 slt : s < w.heap.size
 c0 : w.cell? ⟨s, 0, none⟩ = some (.pointer (some ⟨b, 0, none⟩))
 c1 : w.cell? ⟨s, 1, none⟩ = some (.int .i64 (vars : Int))
structure Moves (O O' : Nat -> Prop) (w w' : World) : Prop where
 kept : Kept O w w'
 own : ∀ k, O' k -> O k \/ w.heap.size <= k
section
variable {B s b : Nat} {O O' O'' : Nat -> Prop} {vars : Nat} {room : Int} {ns : List Nd} {w w' w'' : World}
theorem SpaceAt.kept {S : Nat -> Prop} (h : SpaceAt B w s b O vars room ns) (hk : Kept S w w') (hn : ∀ k, O k -> ¬ S k) (hs : ¬ S s) : SpaceAt B w' s b O vars room ns := by
 obtain ⟨bm, v, L, next, hA, hB, hN, hO⟩ := h.arena
 exact ⟨⟨bm, v, L, next, hA.kept hk (fun k hk => hn k (hO k hk)), hB, hN, hO⟩, fun k hk' => ⟨(h.own k hk').1, Nat.lt_of_lt_of_le (h.own k hk').2 hk.size⟩, h.sO, Nat.lt_of_lt_of_le h.slt hk.size,
  (hk.cell (a := ⟨s, 0, none⟩) h.slt hs).trans h.c0, (hk.cell (a := ⟨s, 1, none⟩) h.slt hs).trans h.c1⟩
theorem SpaceAt.new (h : SpaceAt B w s b O vars room ns) (hb : Below w.heap.size w w') : SpaceAt B w' s b O vars room ns := h.kept (Kept.of_below hb (fun _ => False)) (fun _ _ h => h) (fun h => h)
theorem SpaceAt.old (h : SpaceAt B w s b O vars room ns) {j : Nat} (hj : w.heap.size <= j) : ¬ O j := fun ho => by have := (h.own j ho).2; omega
theorem Moves.refl (O : Nat -> Prop) (w : World) : Moves O O w w := ⟨Kept.refl _ _, fun _ h => .inl h⟩
theorem Moves.of_below (O : Nat -> Prop) (hb : Below w.heap.size w w') : Moves O O w w' := ⟨Kept.of_below hb _, fun _ h => .inl h⟩
theorem Moves.trans (h : Moves O O' w w') (k : Moves O' O'' w' w'') : Moves O O'' w w'' :=
 ⟨h.kept.andThen k.kept (fun i hi hlt => (h.own i hi).elim id (fun h => by omega)), fun i hi => by
  rcases k.own i hi with h1 | h1
  ·exact h.own i h1
  ·exact .inr (Nat.le_trans h.kept.size h1)⟩
theorem Moves.size (h : Moves O O' w w') : w.heap.size <= w'.heap.size := h.kept.size
theorem Moves.cell (h : Moves O O' w w') {a : Addr} (hlt : a.block < w.heap.size) (hn : ¬ O a.block) : w'.cell? a = w.cell? a := h.kept.cell hlt hn
theorem Moves.beside (h : Moves O O' w w') {j : Nat} (hlt : j < w.heap.size) (hn : ¬ O j) : ¬ O' j := fun ho => by
 rcases h.own j ho with h1 | h1
 ·exact hn h1
 ·omega
theorem Moves.below {B : Nat} (h : Moves O O' w w') (hB : B <= w.heap.size) (ho : ∀ k, O k -> B <= k) : Below B w w' := h.kept.below hB ho
theorem SpaceAt.moved {bm : Nat} {v v' : Value} {ns' : List Nd} {L' : List (Nd × Int)} {next' : Int} (h : SpaceAt B w s b O vars room ns) (hO : ∀ k, Own b bm v k -> O k) (hA : ArenaAt B w' b bm v' ns' L' room next') (hB : Book ns' L') (hN : ∃ i : Nat, next' = 2 + (i : Int) /\ i <= ns'.length /\ ∀ j, j < i -> (nd ns' j).v < 24)
  (hk : Kept (Own b bm v) w w') (hv : v'.ownBlock = v.ownBlock \/ ∃ g, v'.ownBlock = some g /\ w.heap.size <= g) : ∃ O', SpaceAt B w' s b O' vars room ns' /\ Moves O O' w w' := by
 have hs : ¬ Own b bm v s := fun ho => h.sO (hO s ho)
 obtain ⟨D, hD, -⟩ := hA.hmap
 have hbm := hD.lt
 refine ⟨fun k => O k \/ v'.ownBlock = some k, ⟨⟨bm, v', L', next', hA, hB, hN, ?_⟩, ?_, ?_, Nat.lt_of_lt_of_le h.slt hk.size, (hk.cell (a := ⟨s, 0, none⟩) h.slt hs).trans h.c0, (hk.cell (a := ⟨s, 1, none⟩) h.slt hs).trans h.c1⟩, hk.mono hO, ?_⟩
 ·rintro k (e | e | e)
  ·exact .inl (hO k (.inl e))
  ·exact .inl (hO k (.inr (.inl e)))
  ·exact .inr e
 ·rintro k (e | e)
  ·exact ⟨(h.own k e).1, Nat.lt_of_lt_of_le (h.own k e).2 hk.size⟩
  ·exact hA.row.lt k e
 ·rintro (e | e)
  ·exact h.sO e
  ·rcases hv with h1 | ⟨g, h1, h2⟩
   ·exact h.sO (hO s (.inr (.inr (by rw [<- h1]; exact e))))
   ·rw [h1] at e; cases e; have := h.slt; omega
 ·rintro k (e | e)
  ·exact .inl e
  ·rcases hv with h1 | ⟨g, h1, h2⟩
   ·exact .inl (hO k (.inr (.inr (by rw [<- h1]; exact e))))
   ·rw [h1] at e; cases e; exact .inr h2
theorem make_any (hS : SpaceAt B w s b O vars room ns) (hl : ns.length <= 90000) (hroom : (ns.length : Int) < room) (hB : B <= w.heap.size) (n : Nd) (hn : n.Ok) (hf : Fit ns n) :
  Calls Tryz.prog 90 #[.pointer (some ⟨b, 0, none⟩), n.val] w fun e w' => e = .returned (.tuple #[.int .i64 (makeF ns n).2, .nilIface]) /\ ∃ O', SpaceAt B w' s b O' vars room (makeF ns n).1 /\ Moves O O' w w' := by
 obtain ⟨bm, v, L, next, hA, hBk, ⟨i, hi1, hi2, hi3⟩, hO⟩ := hS.arena
 have hLl : L.length <= ns.length := by rw [book_len hBk]; exact taken_le ns
 unfold makeF
 by_cases c : idx ns n < ns.length
 ·rw [if_pos c]
  have hin : (n, 2 + (idx ns n : Int)) ∈ L := by
   have := hBk.all _ c (by rw [idx_at c]; exact hf.v1)
   rwa [idx_at c] at this
  exact (make_found hA (by omega) n hn hf _ hin).mono fun e w' ⟨he, hb⟩ => ⟨he, O, hS.new hb, Moves.of_below O hb⟩
 ·rw [if_neg c]
  have hnin : n ∉ L.map Prod.fst := fun h => by
   obtain ⟨p, hp, rfl⟩ := List.mem_map.1 h
   obtain ⟨j, hj, -, rfl⟩ := hBk.mem p hp
   exact idx_none c hj rfl
  refine (make_new hA (by omega) n hn hf hnin (by omega) (by omega) i hi1 hi2 hB).mono ?_
  rintro e w' ⟨k, v', rfl, hk, hocc, hfree, hA', hK, hv⟩
  have hocc' : ∀ j, j < k -> (nd ns j).v < 24 := fun j hj => by
   by_cases h : j < i
   ·exact hi3 j h
   ·exact hocc j (by omega) hj
  obtain rfl : k = lfree ns := lfree_is hk hocc' hfree
  refine ⟨rfl, hS.moved hO hA' (putN_book hBk hk hfree hf.v1 hnin) ⟨lfree ns, rfl, ?_, fun j hj => ?_⟩ hK hv⟩
  ·have := (putN_length (n := n) hk).2
   exact Nat.le_trans hk this
  ·show (nd (putN ns (lfree ns) n) j).v < 24
   rw [putN_at hk j (by omega), if_neg (by omega)]; exact hocc' j hj
theorem spHas (hS : SpaceAt B w s b O vars room ns) (h : Int) (hi : I64 h) (hl : ns.length <= 90000) :
  Calls Tryz.prog 46 #[.pointer (some ⟨b, 0, none⟩), .int .i64 h] w fun e w' => e = .returned (.bool (hasB ns h)) /\ w = w' := by
 obtain ⟨bm, v, L, next, hA, -⟩ := hS.arena
 exact has_any hA h hi (by omega)
theorem spTop (hS : SpaceAt B w s b O vars room ns) (h : Int) (hi : I64 h) (hl : ns.length <= 90000) :
  Calls Tryz.prog 37 #[.pointer (some ⟨b, 0, none⟩), .int .i64 h] w fun e w' => e = .returned (.int .i64 (topOf ns h)) /\ w = w' := by
 obtain ⟨bm, v, L, next, hA, -⟩ := hS.arena
 exact top_any hA h hi (by omega)
theorem spGet (hS : SpaceAt B w s b O vars room ns) (h : Int) (hi : I64 h) (hl : ns.length <= 90000) :
  Calls Tryz.prog 59 #[.pointer (some ⟨b, 0, none⟩), .int .i64 h] w fun e w' => e = .returned (.tuple #[(getOf ns h).val, .bool (decide (topOf ns h ≠ 24))]) /\ Below w.heap.size w w' := by
 obtain ⟨bm, v, L, next, hA, -⟩ := hS.arena
 exact get_any hA h hi (by omega)
theorem spSweep (hS : SpaceAt B w s b O vars room ns) (hr : Ranked ns) (hl : ns.length <= 90000) (hB : B <= w.heap.size) (bf : Nat) {cp : Nat} (fs : List Int) (hF : IntsAt w bf fs) (hfl : fs.length <= 1000) :
  Calls Tryz.prog 107 #[.pointer (some ⟨b, 0, none⟩), .slice (some ⟨bf, 0, none⟩) fs.length cp] w fun e w' => ∃ n : Int, e = .returned (.int .i64 n) /\ ∃ O', SpaceAt B w' s b O' vars room (swept ns (marksOf ns fs)) /\ Moves O O' w w' := by
 obtain ⟨bm, v, L, next, hA, hBk, -, hO⟩ := hS.arena
 have hLl : L.length <= ns.length := by rw [book_len hBk]; exact taken_le ns
 refine (sweep_any hr hBk (by omega) hA bf fs hF hfl hB (by omega)).mono ?_
 rintro e w' ⟨rfl, hA', hK⟩
 exact ⟨_, rfl, hS.moved hO hA' (swept_book hBk) ⟨0, rfl, Nat.zero_le _, fun j h => by omega⟩ hK (.inl rfl)⟩
end
end
section
open Go.RowKit Go.Maps
section
variable {B s b : Nat} {O : Nat -> Prop} {vars : Nat} {room : Int} {ns : List Nd} {w : World}
theorem node_any (hS : SpaceAt B w s b O vars room ns) (hl : ns.length <= 90000) (hroom : (ns.length : Int) < room) (hB : B <= w.heap.size) (v l h : Int) (hv0 : 0 <= v) (hv1 : v < 24) (hl1 : hasB ns l = true) (hh1 : hasB ns h = true) (tl : v < topOf ns l) (th : v < topOf ns h) :
  Calls Tryz.prog 96 #[.pointer (some ⟨s, 0, none⟩), .int .i64 v, .int .i64 l, .int .i64 h] w fun e w' => e = .returned (.tuple #[.int .i64 (nodeF ns v l h).2, .nilIface]) /\ ∃ O', SpaceAt B w' s b O' vars room (nodeF ns v l h).1 /\ Moves O O' w w' := by
 have c0 := hS.c0
 by_cases e : l = h
 ·have hn : nodeF ns v l h = (ns, l) := by unfold nodeF; rw [if_pos e]
  rw [hn]
  subst e
  have HS := Lib.hid hS
  clear hS hl1 hh1 tl th hn
  go_enter Tryz.func96, Tryz.ntmps96
  go_wp2
  go_ret2
  exact ⟨rfl, O, HS.out, Moves.refl _ _⟩
 ·have hn : nodeF ns v l h = makeF ns ⟨v, l, h⟩ := by unfold nodeF; rw [if_neg e]
  rw [hn]
  have HM := Lib.hid (make_any hS hl hroom hB ⟨v, l, h⟩ ⟨⟨by show _ <= v; omega, by show v <= _; omega⟩, has_i64 hl1 (by omega), has_i64 hh1 (by omega)⟩ ⟨hv0, hv1, hl1, hh1, tl, th⟩)
  unfold Nd.val at HM
  clear hS hl1 hh1 tl th hn
  generalize makeF ns ⟨v, l, h⟩ = r at *
  go_enter Tryz.func96, Tryz.ntmps96
  go_wp2_with fail
  refine HM.out.mono ?_
  rintro e w' ⟨rfl, hO⟩
  go_wp2
  go_ret2
  exact ⟨rfl, hO⟩
theorem sides_any (hS : SpaceAt B w s b O vars room ns) (hl : ns.length <= 90000) (h v : Int) (hi : I64 h) (hv1 : v < 24) :
  Calls Tryz.prog 162 #[.pointer (some ⟨s, 0, none⟩), .int .i64 h, .int .i64 v] w fun e w' => e = .returned (.tuple #[.int .i64 (loS ns h v), .int .i64 (hiS ns h v)]) /\ Below w.heap.size w w' := by
 have c0 := hS.c0
 have HG := Lib.hid (spGet hS h hi hl)
 have hsl := hS.slt
 by_cases ht : topOf ns h = 24
 ·have e1 : loS ns h v = h := by unfold loS; rw [if_neg (by omega)]
  have e2 : hiS ns h v = h := by unfold hiS; rw [if_neg (by omega)]
  rw [e1, e2]
  rw [show decide (topOf ns h ≠ 24) = false by simp [ht]] at HG
  generalize getOf ns h = gn at *
  obtain ⟨gv, gl, gh⟩ := gn
  unfold Nd.val at HG
  clear hS e1 e2 ht
  go_enter Tryz.func162, Tryz.ntmps162
  go_wp2_with fail
  refine HG.out.mono ?_
  rintro e w1 ⟨rfl, hb1⟩
  have hb2 := hb1.alloc hb1.size (.cells #[.int .i64 gv, .int .i64 gl, .int .i64 gh] 102)
  clear HG
  go_wp2
  go_ret2
  exact ⟨rfl, hb2⟩
 ·rw [show decide (topOf ns h ≠ 24) = true by simp [ht]] at HG
  have hgv : (getOf ns h).v = topOf ns h := by
   obtain ⟨h1, h2, h3, h4⟩ := node_at ht
   unfold getOf; rw [if_neg ht]; exact h3.symm
  have hgn : getOf ns h = nd ns (pl h) := by unfold getOf; rw [if_neg ht]; rfl
  by_cases ev : topOf ns h = v
  ·have e1 : loS ns h v = (getOf ns h).l := by unfold loS; rw [if_pos ev, hgn]
   have e2 : hiS ns h v = (getOf ns h).h := by unfold hiS; rw [if_pos ev, hgn]
   rw [e1, e2]
   rw [ev] at hgv
   generalize getOf ns h = gn at *
   obtain ⟨gv, gl, gh⟩ := gn
   simp only at hgv
   subst hgv
   unfold Nd.val at HG
   clear hS e1 e2 ht ev hgn
   go_enter Tryz.func162, Tryz.ntmps162
   go_wp2_with fail
   refine HG.out.mono ?_
   rintro e w1 ⟨rfl, hb1⟩
   have hb2 := hb1.alloc hb1.size (.cells #[.int .i64 gv, .int .i64 gl, .int .i64 gh] 102)
   obtain ⟨x0, x1, x2, -⟩ := cell3 w1 (.int .i64 gv) (.int .i64 gl) (.int .i64 gh) 102
   clear HG
   go_wp2_with fail
   go_quiet (fail)
   go_wp2
   go_ret2
   exact ⟨rfl, hb2.trans (below_drewN _ _ _)⟩
  ·have e1 : loS ns h v = h := by unfold loS; rw [if_neg ev]
   have e2 : hiS ns h v = h := by unfold hiS; rw [if_neg ev]
   rw [e1, e2]
   have hne : ¬ (getOf ns h).v = v := by rw [hgv]; exact ev
   generalize getOf ns h = gn at *
   obtain ⟨gv, gl, gh⟩ := gn
   simp only at hne
   unfold Nd.val at HG
   clear hS e1 e2 ht ev hgn hgv
   go_enter Tryz.func162, Tryz.ntmps162
   go_wp2_with fail
   refine HG.out.mono ?_
   rintro e w1 ⟨rfl, hb1⟩
   have hb2 := hb1.alloc hb1.size (.cells #[.int .i64 gv, .int .i64 gl, .int .i64 gh] 102)
   obtain ⟨x0, x1, x2, -⟩ := cell3 w1 (.int .i64 gv) (.int .i64 gl) (.int .i64 gh) 102
   clear HG
   go_wp2
   go_ret2
   exact ⟨rfl, hb2⟩
theorem present_any (hS : SpaceAt B w s b O vars room ns) (hl : ns.length <= 90000) (bf : Nat) {cp : Nat} (fs : List Int) (hF : IntsAt w bf fs) (hfl : fs.length <= 1000) (hall : ∀ x ∈ fs, hasB ns x = true) :
  Calls Tryz.prog 34 #[.pointer (some ⟨s, 0, none⟩), .slice (some ⟨bf, 0, none⟩) fs.length cp] w fun e w' => e = .returned .nilIface /\ w = w' := by
 have c0 := hS.c0
 have HS := Lib.hid hS
 have HF := Lib.hid hF
 have HA := Lib.hid hall
 clear hS hF hall
 go_enter Tryz.func34, Tryz.ntmps34
 go_wp2_with fail
 go_loop [9] (fun i => ∃ k : Nat, k <= fs.length /\ i = .int .i64 (k : Int)) (fun i => fs.length - (intOf i).toNat)
 case atStart => exact ⟨0, Nat.zero_le _, rfl⟩
 case round =>
  obtain ⟨k, hk, rfl⟩ := hrel
  by_cases hlt : k < fs.length
  ·have ck := HF.out.cells k hlt
   have HH := Lib.hid (spHas HS.out fs[k] (HF.out.ok _ (List.getElem_mem hlt)) hl)
   rw [HA.out _ (List.getElem_mem hlt)] at HH
   generalize fs[k] = x at *
   go_wp2_with fail
   refine HH.out.mono ?_
   rintro e w' ⟨rfl, rfl⟩
   clear HH
   go_wp2
   go_round
   case rel => exact ⟨k + 1, by omega, by go_num⟩
   case measure => simp [intOf]; omega
  ·go_wp2
   go_ret
   exact ⟨rfl, rfl⟩
theorem variable_any (hS : SpaceAt B w s b O vars room ns) (v : Int) (h0 : 0 <= v) (h1 : v < (vars : Int)) :
  Calls Tryz.prog 95 #[.pointer (some ⟨s, 0, none⟩), .int .i64 v] w fun e w' => e = .returned .nilIface /\ w = w' := by
 have c1 := hS.c1
 clear hS
 go_enter Tryz.func95, Tryz.ntmps95
 go_wp2
 all_goals
  go_ret
  exact ⟨rfl, rfl⟩
end
end
end Go.Proofs.YtcjjekhecjmaeaaGreatDoor
