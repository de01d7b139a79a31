/- A space as it lies in memory. -/
import Derived.Test.YtcjjekhecjmaeaaGreatDoorArTaken
import Derived.Test.YtcjjekhecjmaeaaGreatDoorBdMakes
namespace Go.Proofs.YtcjjekhecjmaeaaGreatDoor
open Go.RowKit Go.Maps
structure SpaceAt (B : Nat) (w : World) (s b : Nat) (O : Nat -> Prop) (vars : Nat) (room : Int) (ns : List Nd) : Prop where
 arena : ∃ bm v L next, ArenaAt B w b bm v ns L room next /\ Book ns L /\ (∃ i : Nat, next = 2 + (i : Int) /\ i <= ns.length /\ ∀ j, j < i -> (nd ns j).v < 24) /\ (∀ k, Own b bm v k -> O k)
 own : ∀ k, O k -> B <= k /\ k < w.heap.size
 sO : ¬ O s
 slt : s < w.heap.size
 c0 : w.cell? ⟨s, 0, none⟩ = some (.pointer (some ⟨b, 0, none⟩))
 c1 : w.cell? ⟨s, 1, none⟩ = some (.int .i64 (vars : Int))
structure Moves (O O' : Nat -> Prop) (w w' : World) : Prop where
 kept : Kept O w w'
 own : ∀ k, O' k -> O k \/ w.heap.size <= k
section
variable {B s b : Nat} {O O' O'' : Nat -> Prop} {vars : Nat} {room : Int} {ns : List Nd} {w w' w'' : World}
theorem SpaceAt.kept {S : Nat -> Prop} (h : SpaceAt B w s b O vars room ns) (hk : Kept S w w') (hn : ∀ k, O k -> ¬ S k) (hs : ¬ S s) : SpaceAt B w' s b O vars room ns := by
 obtain ⟨bm, v, L, next, hA, hB, hN, hO⟩ := h.arena
 exact ⟨⟨bm, v, L, next, hA.kept hk (fun k hk => hn k (hO k hk)), hB, hN, hO⟩, fun k hk' => ⟨(h.own k hk').1, Nat.lt_of_lt_of_le (h.own k hk').2 hk.size⟩, h.sO, Nat.lt_of_lt_of_le h.slt hk.size,
  (hk.cell (a := ⟨s, 0, none⟩) h.slt hs).trans h.c0, (hk.cell (a := ⟨s, 1, none⟩) h.slt hs).trans h.c1⟩
theorem SpaceAt.new (h : SpaceAt B w s b O vars room ns) (hb : Below w.heap.size w w') : SpaceAt B w' s b O vars room ns := h.kept (Kept.of_below hb (fun _ => False)) (fun _ _ h => h) (fun h => h)
theorem SpaceAt.old (h : SpaceAt B w s b O vars room ns) {j : Nat} (hj : w.heap.size <= j) : ¬ O j := fun ho => by have := (h.own j ho).2; omega
theorem Moves.refl (O : Nat -> Prop) (w : World) : Moves O O w w := ⟨Kept.refl _ _, fun _ h => .inl h⟩
theorem Moves.of_below (O : Nat -> Prop) (hb : Below w.heap.size w w') : Moves O O w w' := ⟨Kept.of_below hb _, fun _ h => .inl h⟩
theorem Moves.trans (h : Moves O O' w w') (k : Moves O' O'' w' w'') : Moves O O'' w w'' :=
 ⟨h.kept.andThen k.kept (fun i hi hlt => (h.own i hi).elim id (fun h => by omega)), fun i hi => by
  rcases k.own i hi with h1 | h1
  ·exact h.own i h1
  ·exact .inr (Nat.le_trans h.kept.size h1)⟩
theorem Moves.size (h : Moves O O' w w') : w.heap.size <= w'.heap.size := h.kept.size
theorem Moves.cell (h : Moves O O' w w') {a : Addr} (hlt : a.block < w.heap.size) (hn : ¬ O a.block) : w'.cell? a = w.cell? a := h.kept.cell hlt hn
theorem Moves.beside (h : Moves O O' w w') {j : Nat} (hlt : j < w.heap.size) (hn : ¬ O j) : ¬ O' j := fun ho => by
 rcases h.own j ho with h1 | h1
 ·exact hn h1
 ·omega
theorem Moves.below {B : Nat} (h : Moves O O' w w') (hB : B <= w.heap.size) (ho : ∀ k, O k -> B <= k) : Below B w w' := h.kept.below hB ho
theorem SpaceAt.moved {bm : Nat} {v v' : Value} {ns' : List Nd} {L' : List (Nd × Int)} {next' : Int} (h : SpaceAt B w s b O vars room ns) (hO : ∀ k, Own b bm v k -> O k) (hA : ArenaAt B w' b bm v' ns' L' room next') (hB : Book ns' L') (hN : ∃ i : Nat, next' = 2 + (i : Int) /\ i <= ns'.length /\ ∀ j, j < i -> (nd ns' j).v < 24)
  (hk : Kept (Own b bm v) w w') (hv : v'.ownBlock = v.ownBlock \/ ∃ g, v'.ownBlock = some g /\ w.heap.size <= g) : ∃ O', SpaceAt B w' s b O' vars room ns' /\ Moves O O' w w' := by
 have hs : ¬ Own b bm v s := fun ho => h.sO (hO s ho)
 obtain ⟨D, hD, -⟩ := hA.hmap
 have hbm := hD.lt
 refine ⟨fun k => O k \/ v'.ownBlock = some k, ⟨⟨bm, v', L', next', hA, hB, hN, ?_⟩, ?_, ?_, Nat.lt_of_lt_of_le h.slt hk.size, (hk.cell (a := ⟨s, 0, none⟩) h.slt hs).trans h.c0, (hk.cell (a := ⟨s, 1, none⟩) h.slt hs).trans h.c1⟩, hk.mono hO, ?_⟩
 ·rintro k (e | e | e)
  ·exact .inl (hO k (.inl e))
  ·exact .inl (hO k (.inr (.inl e)))
  ·exact .inr e
 ·rintro k (e | e)
  ·exact ⟨(h.own k e).1, Nat.lt_of_lt_of_le (h.own k e).2 hk.size⟩
  ·exact hA.row.lt k e
 ·rintro (e | e)
  ·exact h.sO e
  ·rcases hv with h1 | ⟨g, h1, h2⟩
   ·exact h.sO (hO s (.inr (.inr (by rw [<- h1]; exact e))))
   ·rw [h1] at e; cases e; have := h.slt; omega
 ·rintro k (e | e)
  ·exact .inl e
  ·rcases hv with h1 | ⟨g, h1, h2⟩
   ·exact .inl (hO k (.inr (.inr (by rw [<- h1]; exact e))))
   ·rw [h1] at e; cases e; exact .inr h2
theorem make_any (hS : SpaceAt B w s b O vars room ns) (hl : ns.length <= 90000) (hroom : (ns.length : Int) < room) (hB : B <= w.heap.size) (n : Nd) (hn : n.Ok) (hf : Fit ns n) :
  Calls Tryz.prog 90 #[.pointer (some ⟨b, 0, none⟩), n.val] w fun e w' => e = .returned (.tuple #[.int .i64 (makeF ns n).2, .nilIface]) /\ ∃ O', SpaceAt B w' s b O' vars room (makeF ns n).1 /\ Moves O O' w w' := by
 obtain ⟨bm, v, L, next, hA, hBk, ⟨i, hi1, hi2, hi3⟩, hO⟩ := hS.arena
 have hLl : L.length <= ns.length := by rw [book_len hBk]; exact taken_le ns
 unfold makeF
 by_cases c : idx ns n < ns.length
 ·rw [if_pos c]
  have hin : (n, 2 + (idx ns n : Int)) ∈ L := by
   have := hBk.all _ c (by rw [idx_at c]; exact hf.v1)
   rwa [idx_at c] at this
  exact (make_found hA (by omega) n hn hf _ hin).mono fun e w' ⟨he, hb⟩ => ⟨he, O, hS.new hb, Moves.of_below O hb⟩
 ·rw [if_neg c]
  have hnin : n ∉ L.map Prod.fst := fun h => by
   obtain ⟨p, hp, rfl⟩ := List.mem_map.1 h
   obtain ⟨j, hj, -, rfl⟩ := hBk.mem p hp
   exact idx_none c hj rfl
  refine (make_new hA (by omega) n hn hf hnin (by omega) (by omega) i hi1 hi2 hB).mono ?_
  rintro e w' ⟨k, v', rfl, hk, hocc, hfree, hA', hK, hv⟩
  have hocc' : ∀ j, j < k -> (nd ns j).v < 24 := fun j hj => by
   by_cases h : j < i
   ·exact hi3 j h
   ·exact hocc j (by omega) hj
  obtain rfl : k = lfree ns := lfree_is hk hocc' hfree
  refine ⟨rfl, hS.moved hO hA' (putN_book hBk hk hfree hf.v1 hnin) ⟨lfree ns, rfl, ?_, fun j hj => ?_⟩ hK hv⟩
  ·have := (putN_length (n := n) hk).2
   exact Nat.le_trans hk this
  ·show (nd (putN ns (lfree ns) n) j).v < 24
   rw [putN_at hk j (by omega), if_neg (by omega)]; exact hocc' j hj
theorem spHas (hS : SpaceAt B w s b O vars room ns) (h : Int) (hi : I64 h) (hl : ns.length <= 90000) :
  Calls Tryz.prog 46 #[.pointer (some ⟨b, 0, none⟩), .int .i64 h] w fun e w' => e = .returned (.bool (hasB ns h)) /\ w = w' := by
 obtain ⟨bm, v, L, next, hA, -⟩ := hS.arena
 exact has_any hA h hi (by omega)
theorem spTop (hS : SpaceAt B w s b O vars room ns) (h : Int) (hi : I64 h) (hl : ns.length <= 90000) :
  Calls Tryz.prog 37 #[.pointer (some ⟨b, 0, none⟩), .int .i64 h] w fun e w' => e = .returned (.int .i64 (topOf ns h)) /\ w = w' := by
 obtain ⟨bm, v, L, next, hA, -⟩ := hS.arena
 exact top_any hA h hi (by omega)
theorem spGet (hS : SpaceAt B w s b O vars room ns) (h : Int) (hi : I64 h) (hl : ns.length <= 90000) :
  Calls Tryz.prog 59 #[.pointer (some ⟨b, 0, none⟩), .int .i64 h] w fun e w' => e = .returned (.tuple #[(getOf ns h).val, .bool (decide (topOf ns h ≠ 24))]) /\ Below w.heap.size w w' := by
 obtain ⟨bm, v, L, next, hA, -⟩ := hS.arena
 exact get_any hA h hi (by omega)
end
end Go.Proofs.YtcjjekhecjmaeaaGreatDoor
