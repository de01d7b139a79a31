/- The nodes of an image's lines, one behind the other. -/
import Derived.Test.YtcjjekhecjmaeaaGreatDoorArTaken
import Derived.Test.YtcjjekhecjmaeaaGreatDoorBdMakes
import Derived.Test.YtcjjekhecjmaeaaGreatDoorImThree
namespace Go.Proofs.YtcjjekhecjmaeaaGreatDoor
section
open Go.RowKit Go.Maps
structure SpaceAt (B : Nat) (w : World) (s b : Nat) (O : Nat -> Prop) (vars : Nat) (room : Int) (ns : List Nd) : Prop where
 arena : ∃ bm v L next, ArenaAt B w b bm v ns L room next /\ Book ns L /\ (∃ i : Nat, next = 2 + (i : Int) /\ i <= ns.length /\ ∀ j, j < i -> (nd ns j).v < 24) /\ (∀ k, Own b bm v k -> O k)
 own : ∀ k, O k -> B <= k /\ k < w.heap.size
 sO : ¬ O s
 slt : s < w.heap.size
 c0 : w.cell? ⟨s, 0, none⟩ = some (.pointer (some ⟨b, 0, none⟩))
 c1 : w.cell? ⟨s, 1, none⟩ = some (.int .i64 (vars : Int))
structure Moves (O O' : Nat -> Prop) (w w' : World) : Prop where
 kept : Kept O w w'
 own : ∀ k, O' k -> O k \/ w.heap.size <= k
section
variable {B s b : Nat} {O O' O'' : Nat -> Prop} {vars : Nat} {room : Int} {ns : List Nd} {w w' w'' : World}
theorem SpaceAt.kept {S : Nat -> Prop} (h : SpaceAt B w s b O vars room ns) (hk : Kept S w w') (hn : ∀ k, O k -> ¬ S k) (hs : ¬ S s) : SpaceAt B w' s b O vars room ns := by
 obtain ⟨bm, v, L, next, hA, hB, hN, hO⟩ := h.arena
 exact ⟨⟨bm, v, L, next, hA.kept hk (fun k hk => hn k (hO k hk)), hB, hN, hO⟩, fun k hk' => ⟨(h.own k hk').1, Nat.lt_of_lt_of_le (h.own k hk').2 hk.size⟩, h.sO, Nat.lt_of_lt_of_le h.slt hk.size,
  (hk.cell (a := ⟨s, 0, none⟩) h.slt hs).trans h.c0, (hk.cell (a := ⟨s, 1, none⟩) h.slt hs).trans h.c1⟩
theorem SpaceAt.new (h : SpaceAt B w s b O vars room ns) (hb : Below w.heap.size w w') : SpaceAt B w' s b O vars room ns := h.kept (Kept.of_below hb (fun _ => False)) (fun _ _ h => h) (fun h => h)
theorem SpaceAt.old (h : SpaceAt B w s b O vars room ns) {j : Nat} (hj : w.heap.size <= j) : ¬ O j := fun ho => by have := (h.own j ho).2; omega
theorem Moves.refl (O : Nat -> Prop) (w : World) : Moves O O w w := ⟨Kept.refl _ _, fun _ h => .inl h⟩
theorem Moves.of_below (O : Nat -> Prop) (hb : Below w.heap.size w w') : Moves O O w w' := ⟨Kept.of_below hb _, fun _ h => .inl h⟩
theorem Moves.trans (h : Moves O O' w w') (k : Moves O' O'' w' w'') : Moves O O'' w w'' :=
 ⟨h.kept.andThen k.kept (fun i hi hlt => (h.own i hi).elim id (fun h => by omega)), fun i hi => by
  rcases k.own i hi with h1 | h1
  ·exact h.own i h1
  ·exact .inr (Nat.le_trans h.kept.size h1)⟩
theorem Moves.size (h : Moves O O' w w') : w.heap.size <= w'.heap.size := h.kept.size
theorem Moves.cell (h : Moves O O' w w') {a : Addr} (hlt : a.block < w.heap.size) (hn : ¬ O a.block) : w'.cell? a = w.cell? a := h.kept.cell hlt hn
theorem Moves.beside (h : Moves O O' w w') {j : Nat} (hlt : j < w.heap.size) (hn : ¬ O j) : ¬ O' j := fun ho => by
 rcases h.own j ho with h1 | h1
 ·exact hn h1
 ·omega
theorem Moves.below {B : Nat} (h : Moves O O' w w') (hB : B <= w.heap.size) (ho : ∀ k, O k -> B <= k) : Below B w w' := h.kept.below hB ho
theorem SpaceAt.moved {bm : Nat} {v v' : Value} {ns' : List Nd} {L' : List (Nd × Int)} {next' : Int} (h : SpaceAt B w s b O vars room ns) (hO : ∀ k, Own b bm v k -> O k) (hA : ArenaAt B w' b bm v' ns' L' room next') (hB : Book ns' L') (hN : ∃ i : Nat, next' = 2 + (i : Int) /\ i <= ns'.length /\ ∀ j, j < i -> (nd ns' j).v < 24)
  (hk : Kept (Own b bm v) w w') (hv : v'.ownBlock = v.ownBlock \/ ∃ g, v'.ownBlock = some g /\ w.heap.size <= g) : ∃ O', SpaceAt B w' s b O' vars room ns' /\ Moves O O' w w' := by
 have hs : ¬ Own b bm v s := fun ho => h.sO (hO s ho)
 obtain ⟨D, hD, -⟩ := hA.hmap
 have hbm := hD.lt
 refine ⟨fun k => O k \/ v'.ownBlock = some k, ⟨⟨bm, v', L', next', hA, hB, hN, ?_⟩, ?_, ?_, Nat.lt_of_lt_of_le h.slt hk.size, (hk.cell (a := ⟨s, 0, none⟩) h.slt hs).trans h.c0, (hk.cell (a := ⟨s, 1, none⟩) h.slt hs).trans h.c1⟩, hk.mono hO, ?_⟩
 ·rintro k (e | e | e)
  ·exact .inl (hO k (.inl e))
  ·exact .inl (hO k (.inr (.inl e)))
  ·exact .inr e
 ·rintro k (e | e)
  ·exact ⟨(h.own k e).1, Nat.lt_of_lt_of_le (h.own k e).2 hk.size⟩
  ·exact hA.row.lt k e
 ·rintro (e | e)
  ·exact h.sO e
  ·rcases hv with h1 | ⟨g, h1, h2⟩
   ·exact h.sO (hO s (.inr (.inr (by rw [<- h1]; exact e))))
   ·rw [h1] at e; cases e; have := h.slt; omega
 ·rintro k (e | e)
  ·exact .inl e
  ·rcases hv with h1 | ⟨g, h1, h2⟩
   ·exact .inl (hO k (.inr (.inr (by rw [<- h1]; exact e))))
   ·rw [h1] at e; cases e; exact .inr h2
theorem make_any (hS : SpaceAt B w s b O vars room ns) (hl : ns.length <= 90000) (hroom : (ns.length : Int) < room) (hB : B <= w.heap.size) (n : Nd) (hn : n.Ok) (hf : Fit ns n) :
  Calls Tryz.prog 90 #[.pointer (some ⟨b, 0, none⟩), n.val] w fun e w' => e = .returned (.tuple #[.int .i64 (makeF ns n).2, .nilIface]) /\ ∃ O', SpaceAt B w' s b O' vars room (makeF ns n).1 /\ Moves O O' w w' := by
 obtain ⟨bm, v, L, next, hA, hBk, ⟨i, hi1, hi2, hi3⟩, hO⟩ := hS.arena
 have hLl : L.length <= ns.length := by rw [book_len hBk]; exact taken_le ns
 unfold makeF
 by_cases c : idx ns n < ns.length
 ·rw [if_pos c]
  have hin : (n, 2 + (idx ns n : Int)) ∈ L := by
   have := hBk.all _ c (by rw [idx_at c]; exact hf.v1)
   rwa [idx_at c] at this
  exact (make_found hA (by omega) n hn hf _ hin).mono fun e w' ⟨he, hb⟩ => ⟨he, O, hS.new hb, Moves.of_below O hb⟩
 ·rw [if_neg c]
  have hnin : n ∉ L.map Prod.fst := fun h => by
   obtain ⟨p, hp, rfl⟩ := List.mem_map.1 h
   obtain ⟨j, hj, -, rfl⟩ := hBk.mem p hp
   exact idx_none c hj rfl
  refine (make_new hA (by omega) n hn hf hnin (by omega) (by omega) i hi1 hi2 hB).mono ?_
  rintro e w' ⟨k, v', rfl, hk, hocc, hfree, hA', hK, hv⟩
  have hocc' : ∀ j, j < k -> (nd ns j).v < 24 := fun j hj => by
   by_cases h : j < i
   ·exact hi3 j h
   ·exact hocc j (by omega) hj
  obtain rfl : k = lfree ns := lfree_is hk hocc' hfree
  refine ⟨rfl, hS.moved hO hA' (putN_book hBk hk hfree hf.v1 hnin) ⟨lfree ns, rfl, ?_, fun j hj => ?_⟩ hK hv⟩
  ·have := (putN_length (n := n) hk).2
   exact Nat.le_trans hk this
  ·show (nd (putN ns (lfree ns) n) j).v < 24
   rw [putN_at hk j (by omega), if_neg (by omega)]; exact hocc' j hj
theorem spHas (hS : SpaceAt B w s b O vars room ns) (h : Int) (hi : I64 h) (hl : ns.length <= 90000) :
  Calls Tryz.prog 46 #[.pointer (some ⟨b, 0, none⟩), .int .i64 h] w fun e w' => e = .returned (.bool (hasB ns h)) /\ w = w' := by
 obtain ⟨bm, v, L, next, hA, -⟩ := hS.arena
 exact has_any hA h hi (by omega)
theorem spTop (hS : SpaceAt B w s b O vars room ns) (h : Int) (hi : I64 h) (hl : ns.length <= 90000) :
  Calls Tryz.prog 37 #[.pointer (some ⟨b, 0, none⟩), .int .i64 h] w fun e w' => e = .returned (.int .i64 (topOf ns h)) /\ w = w' := by
 obtain ⟨bm, v, L, next, hA, -⟩ := hS.arena
 exact top_any hA h hi (by omega)
theorem spGet (hS : SpaceAt B w s b O vars room ns) (h : Int) (hi : I64 h) (hl : ns.length <= 90000) :
  Calls Tryz.prog 59 #[.pointer (some ⟨b, 0, none⟩), .int .i64 h] w fun e w' => e = .returned (.tuple #[(getOf ns h).val, .bool (decide (topOf ns h ≠ 24))]) /\ Below w.heap.size w w' := by
 obtain ⟨bm, v, L, next, hA, -⟩ := hS.arena
 exact get_any hA h hi (by omega)
theorem spSweep (hS : SpaceAt B w s b O vars room ns) (hr : Ranked ns) (hl : ns.length <= 90000) (hB : B <= w.heap.size) (bf : Nat) {cp : Nat} (fs : List Int) (hF : IntsAt w bf fs) (hfl : fs.length <= 1000) :
  Calls Tryz.prog 107 #[.pointer (some ⟨b, 0, none⟩), .slice (some ⟨bf, 0, none⟩) fs.length cp] w fun e w' => ∃ n : Int, e = .returned (.int .i64 n) /\ ∃ O', SpaceAt B w' s b O' vars room (swept ns (marksOf ns fs)) /\ Moves O O' w w' := by
 obtain ⟨bm, v, L, next, hA, hBk, -, hO⟩ := hS.arena
 have hLl : L.length <= ns.length := by rw [book_len hBk]; exact taken_le ns
 refine (sweep_any hr hBk (by omega) hA bf fs hF hfl hB (by omega)).mono ?_
 rintro e w' ⟨rfl, hA', hK⟩
 exact ⟨_, rfl, hS.moved hO hA' (swept_book hBk) ⟨0, rfl, Nat.zero_le _, fun j h => by omega⟩ hK (.inl rfl)⟩
end
end
section
open Go.RowKit Go.Maps
structure FullN (ns : List Nd) : Prop where
 ranked : Ranked ns
 full : ∀ i, i < ns.length -> (nd ns i).v < 24
section
variable {ns : List Nd}
theorem FullN.lfree (h : FullN ns) : lfree ns = ns.length := by
 have h1 := lfree_le ns
 by_cases h2 : Proofs.YtcjjekhecjmaeaaGreatDoor.lfree ns < ns.length
 ·exact absurd (h.full _ h2) (lfree_free h2)
 ·omega
theorem putN_end (n : Nd) : putN ns ns.length n = ns ++ [n] := by
 unfold putN; rw [if_pos rfl, List.set_append_right _ _ (Nat.le_refl _)]; simp
theorem FullN.make (h : FullN ns) (n : Nd) : makeF ns n = if idx ns n < ns.length then (ns, 2 + (idx ns n : Int)) else (ns ++ [n], 2 + (ns.length : Int)) := by
 unfold makeF; rw [h.lfree, putN_end]
theorem topOf_has {h : Int} (ht : topOf ns h < 24) : hasB ns h = true := by unfold hasB; simp [ht]
theorem FullN.step (h : FullN ns) {n : Nd} (hn : n.Ok) (hf : Fit ns n) : FullN (makeF ns n).1 /\ hasB (makeF ns n).1 (makeF ns n).2 = true /\ (∀ x, hasB ns x = true -> hasB (makeF ns n).1 x = true /\ topOf (makeF ns n).1 x = topOf ns x) /\ ns.length <= (makeF ns n).1.length /\ (makeF ns n).1.length <= ns.length + 1 := by
 rw [h.make]
 by_cases c : idx ns n < ns.length
 ·rw [if_pos c]
  refine ⟨h, ?_, fun x hx => ⟨hx, rfl⟩, Nat.le_refl _, Nat.le_succ _⟩
  have := h.full _ c
  exact topOf_has (by rw [topOf_at c]; exact this)
 ·rw [if_neg c, <- putN_end]
  have hk := Nat.le_refl ns.length
  have hfr : ns.length < ns.length -> ¬ (nd ns ns.length).v < 24 := fun e => absurd e (Nat.lt_irrefl _)
  refine ⟨⟨putN_ranked h.ranked hk hfr hn hf, fun i hi => ?_⟩, topOf_has (by rw [putN_self hk]; exact hf.v1), fun x hx => ⟨putN_has hk hfr hx, putN_top hk hfr hx⟩, (putN_length hk).2, (putN_length hk).1⟩
  have hi' := (putN_lt hk i).1 hi
  rw [putN_at hk i hi']
  split
  ·exact hf.v1
  ·exact h.full i (by omega)
end
def okLine (vars : Nat) (ns : List Nd) (H : List Int) (v l h : Nat) : Prop := v < vars /\ l ≠ h /\ (l < H.length /\ (v : Int) < topOf ns (H.getD l 0)) /\ (h < H.length /\ (v : Int) < topOf ns (H.getD h 0))
def ndOf (H : List Int) (v l h : Nat) : Nd := ⟨(v : Int), H.getD l 0, H.getD h 0⟩
open Classical in
noncomputable def laidF (vars : Nat) (room : Int) : List (List UInt8) -> List Nd -> List Int -> Except Int (List Nd × List Int)
 | [], ns, H => .ok (ns, H)
 | t :: ts, ns, H => match threeF t with
  | none => .error 3
  | some (v, l, h) => if okLine vars ns H v l h then (if idx ns (ndOf H v l h) < ns.length \/ (ns.length : Int) < room then laidF vars room ts (makeF ns (ndOf H v l h)).1 (H ++ [(makeF ns (ndOf H v l h)).2]) else .error 12) else .error 3
structure LayInv (vars : Nat) (room : Int) (ns : List Nd) (H : List Int) : Prop where
 full : FullN ns
 has : ∀ x ∈ H, hasB ns x = true
 len : ns.length + 2 <= H.length
 room : (ns.length : Int) <= room
theorem LayInv.start (vars : Nat) {room : Int} (h : 0 <= room) : LayInv vars room [] [0, 1] :=
 ⟨⟨⟨fun j h => by simp at h, fun j h => by simp at h, fun j h => by simp at h, fun j h => by simp at h⟩, fun i h => by simp at h⟩, fun x hx => by simp at hx; rcases hx with rfl | rfl <;> simp [hasB], by simp, by simpa using h⟩
theorem getD_mem {H : List Int} {l : Nat} (h : l < H.length) : H.getD l 0 ∈ H := by
 rw [List.getD_eq_getElem?_getD, List.getElem?_eq_getElem h]
 exact List.getElem_mem h
section
variable {vars : Nat} {room : Int} {ns : List Nd} {H : List Int} {v l h : Nat}
theorem okLine.fit (hv : vars <= 24) (ho : okLine vars ns H v l h) (hh : ∀ x ∈ H, hasB ns x = true) : Fit ns (ndOf H v l h) :=
 ⟨by show 0 <= (v : Int); omega, by have := ho.1; show (v : Int) < 24; omega, hh _ (getD_mem ho.2.2.1.1), hh _ (getD_mem ho.2.2.2.1), ho.2.2.1.2, ho.2.2.2.2⟩
theorem okLine.ok (hv : vars <= 24) (ho : okLine vars ns H v l h) (hh : ∀ x ∈ H, hasB ns x = true) (hl : ns.length <= 1000000) : (ndOf H v l h).Ok :=
 ⟨by have := ho.1; show I64 (v : Int); exact ⟨by omega, by omega⟩, has_i64 (hh _ (getD_mem ho.2.2.1.1)) hl, has_i64 (hh _ (getD_mem ho.2.2.2.1)) hl⟩
theorem LayInv.step (hi : LayInv vars room ns H) (hv : vars <= 24) (hr : room <= 4000) (ho : okLine vars ns H v l h) (hq : idx ns (ndOf H v l h) < ns.length \/ (ns.length : Int) < room) : LayInv vars room (makeF ns (ndOf H v l h)).1 (H ++ [(makeF ns (ndOf H v l h)).2]) := by
 have hR := hi.room
 have hs := hi.full.step (ho.ok hv hi.has (by omega)) (ho.fit hv hi.has)
 refine ⟨hs.1, fun x hx => ?_, ?_, ?_⟩
 ·rcases List.mem_append.1 hx with hx | hx
  ·exact (hs.2.2.1 x (hi.has x hx)).1
  ·rw [List.mem_singleton] at hx; subst hx; exact hs.2.1
 ·rw [List.length_append, List.length_singleton]
  have := hi.len; have := hs.2.2.2.2; omega
 ·rcases hq with hq | hq
  ·rw [hi.full.make, if_pos hq]; exact hi.room
  ·have := hs.2.2.2.2; omega
end
section
variable {vars : Nat} {room : Int}
theorem laidF_ok (hv : vars <= 24) (hr : room <= 4000) : ∀ (L : List (List UInt8)) {ns ns' : List Nd} {H H' : List Int}, LayInv vars room ns H -> laidF vars room L ns H = .ok (ns', H') -> LayInv vars room ns' H' /\ H'.length = H.length + L.length /\ ns'.length <= ns.length + L.length
 | [], ns, ns', H, H', hi, e => by
  unfold laidF at e; cases e
  exact ⟨hi, by simp, by simp⟩
 | t :: L, ns, ns', H, H', hi, e => by
  unfold laidF at e
  split at e
  ·cases e
  ·rename_i v l h ht
   split at e
   ·rename_i ho
    split at e
    ·rename_i hq
     have hs := hi.step hv hr ho hq
     obtain ⟨h1, h2, h3⟩ := laidF_ok hv hr L hs e
     have hR := hi.room
     have hl := (hi.full.step (ho.ok hv hi.has (by omega)) (ho.fit hv hi.has)).2.2.2.2
     refine ⟨h1, ?_, ?_⟩
     ·rw [h2, List.length_append, List.length_cons]; simp; omega
     ·rw [List.length_cons]; omega
    ·cases e
   ·cases e
end
section
variable {B s b : Nat} {O : Nat -> Prop} {vars : Nat} {room : Int} {ns : List Nd} {w : World}
theorem lmake_any (hS : SpaceAt B w s b O vars room ns) (hF : FullN ns) (hl : ns.length <= 90000) (hB : B <= w.heap.size) (n : Nd) (hn : n.Ok) (hf : Fit ns n) :
  Calls Tryz.prog 90 #[.pointer (some ⟨b, 0, none⟩), n.val] w fun e w' => (idx ns n < ns.length \/ (ns.length : Int) < room -> e = .returned (.tuple #[.int .i64 (makeF ns n).2, .nilIface]) /\ ∃ O', SpaceAt B w' s b O' vars room (makeF ns n).1 /\ Moves O O' w w') /\ (¬ (idx ns n < ns.length \/ (ns.length : Int) < room) -> e = .returned (.tuple #[.int .i64 0, .iface 54 (.int .i64 12)]) /\ Below w.heap.size w w') := by
 by_cases c : idx ns n < ns.length
 ·obtain ⟨bm, v, L, next, hA, hBk, ⟨i, hi1, hi2, hi3⟩, hO⟩ := hS.arena
  have hin : (n, 2 + (idx ns n : Int)) ∈ L := by
   have := hBk.all _ c (by rw [idx_at c]; exact hf.v1)
   rwa [idx_at c] at this
  refine (make_found hA (by omega) n hn hf _ hin).mono fun e w' ⟨he, hb⟩ => ⟨fun _ => ?_, fun h => absurd (.inl c) h⟩
  rw [hF.make, if_pos c]
  exact ⟨he, O, hS.new hb, Moves.of_below O hb⟩
 ·by_cases hr : (ns.length : Int) < room
  ·exact (make_any hS hl hr hB n hn hf).mono fun e w' h => ⟨fun _ => h, fun h' => absurd (.inr hr) h'⟩
  ·obtain ⟨bm, v, L, next, hA, hBk, ⟨i, hi1, hi2, hi3⟩, hO⟩ := hS.arena
   have hnin : n ∉ L.map Prod.fst := fun h => by
    obtain ⟨p, hp, rfl⟩ := List.mem_map.1 h
    obtain ⟨j, hj, -, rfl⟩ := hBk.mem p hp
    exact idx_none c hj rfl
   have hLl : L.length = ns.length := by
    rw [book_len hBk]
    unfold taken
    rw [List.filter_eq_self.2 (fun i hi => by simpa using hF.full i (List.mem_range.1 hi)), List.length_range]
   exact (make_full hA (by omega) n hn hf hnin (by omega)).mono fun e w' h => ⟨fun h' => (h'.elim c hr).elim, fun _ => h⟩
end
end
end Go.Proofs.YtcjjekhecjmaeaaGreatDoor
