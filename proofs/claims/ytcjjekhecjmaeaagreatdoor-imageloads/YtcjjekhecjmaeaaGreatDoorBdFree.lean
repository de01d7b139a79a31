/- New, Vars, Free, At. -/
import Derived.Test.YtcjjekhecjmaeaaGreatDoorBdDone
import Derived.Test.YtcjjekhecjmaeaaGreatDoorArPairs
import Derived.Test.YtcjjekhecjmaeaaGreatDoorArBase
import Derived.Test.YtcjjekhecjmaeaaGreatDoorArTaken
set_option maxHeartbeats 1000000
set_option maxRecDepth 100000
namespace Go.Proofs.YtcjjekhecjmaeaaGreatDoor
section
open Go.RowKit Go.Maps
def OpOut (B s b : Nat) (O : Nat -> Prop) (vars : Nat) (room : Int) (r : List Nd × Int) (w : World) (e : Ending) (w' : World) : Prop :=
 e = .returned (.tuple #[.int .i64 r.2, .nilIface]) /\ ∃ O', SpaceAt B w' s b O' vars room r.1 /\ Moves O O' w w'
structure Room (B : Nat) (w : World) (vars : Nat) (room : Int) (ns : List Nd) : Prop where
 r : room <= 4000
 l : ((ns.length + 2 ^ vars : Nat) : Int) <= room + 1
 v : vars <= 12
 hB : B <= w.heap.size
section
variable {B s b : Nat} {O : Nat -> Prop} {F : FuncId} {op : Bool} {vars : Nat} {room : Int} {ns : List Nd} {w w' : World}
theorem Room.new (h : Room B w vars room ns) (hb : w.heap.size <= w'.heap.size) : Room B w' vars room ns := ⟨h.r, h.l, h.v, Nat.le_trans h.hB hb⟩
theorem OpOut.later {r : List Nd × Int} {w1 : World} {e : Ending} (hb : Below w.heap.size w w1) (h : OpOut B s b O vars room r w1 e w') : OpOut B s b O vars room r w e w' := by
 obtain ⟨he, O', hS, hM⟩ := h
 exact ⟨he, O', hS, (Moves.of_below O hb).trans hM⟩
end
end
section
open Go.RowKit Go.Maps
section
variable {B s b : Nat} {O D : Nat -> Prop} {st : World -> (Nat -> Prop) -> List (Nd × Int) -> Prop} {vars : Nat} {room : Int} {v : Int} {jf : Bool -> Bool -> Bool} {P : List Nd -> List (Nd × Int) -> Prop} {ns : List Nd} {w w' : World} {J : Join} {F : FuncId} {pre caps : Array Value}
theorem ints1 (w : World) (x : Int) (hx : I64 x) : IntsAt (w.alloc (.cells #[.int .i64 x] 3)) w.heap.size [x] :=
 ⟨by simp, fun i hi => by
  obtain rfl : i = 0 := by simp at hi; omega
  simp, fun z hz => by rw [List.mem_singleton] at hz; subst hz; exact hx⟩
end
section
variable {B s b : Nat} {O : Nat -> Prop} {vars : Nat} {room : Int} {v : Int} {ns : List Nd} {w w' : World}
end
end
section
open Go.RowKit Go.Maps
def pickV (x : Int) (n : Nat) : Nat := ((x % 18446744073709551616).toNat) % n
theorem pickV_lt (x : Int) {n : Nat} (h : 0 < n) : pickV x n < n := Nat.mod_lt _ h
end
section
structure Quad where
 a : Int
 b : Int
 c : Int
 d : Int
 deriving Inhabited
end
section
open Go.RowKit Go.Maps
section
variable {ns : List Nd} {vars : Nat}
theorem marksOf_in (hr : Ranked ns) (fs : List Int) : ∀ h ∈ fs, MarkedOr ns (marksOf ns fs) h := by
 have : ∀ (fs : List Int) (m : List Bool), m.length = ns.length -> ∀ h, (h ∈ fs \/ MarkedOr ns m h) -> MarkedOr ns (fs.foldl (fun m h => markF 24 ns h m) m) h := by
  intro fs
  induction fs with
  | nil => intro m _ h hh; exact hh.elim (fun h => by cases h) id
  | cons f fs ih =>
   intro m hl h hh
   refine ih _ (by rw [markF_length, hl]) h ?_
   rcases hh with hh | hh
   ·rcases List.mem_cons.1 hh with rfl | hh
    ·exact .inr (markF_closed hr 24 h m hl (by have := (topOf_le hr h).1; omega)).1
    ·exact .inl hh
   ·exact .inr (hh.grow hl 24 f)
 exact fun h hh => this fs _ (by simp) h (.inl hh)
theorem swept_node {M : List Bool} {h : Int} (hm : MarkedOr ns M h) : topOf (swept ns M) h = topOf ns h /\ (topOf ns h ≠ 24 -> nd (swept ns M) (pl h) = nd ns (pl h)) := by
 have e : topOf (swept ns M) h = topOf ns h := by
  rw [swept_top]
  rcases hm with hm | hm
  ·rw [hm]; split <;> rfl
  ·rw [if_pos hm]
 refine ⟨e, fun ht => ?_⟩
 rcases hm with hm | hm
 ·exact absurd hm ht
 ·rw [swept_at ns M _ (node_at ht).2.1, if_pos (show mk M (pl h) = true from hm)]
theorem swept_good (hg : Good vars ns) (fs : List Int) : Good vars (swept ns (marksOf ns fs)) := by
 have hr := swept_ranked_any hg.ranked fs
 generalize marksOf ns fs = M at *
 have key : ∀ j, j < ns.length -> mk M j = true /\ nd (swept ns M) j = nd ns j \/ nd (swept ns M) j = ⟨24, 0, 0⟩ := fun j hj => by
  rw [swept_at ns M j hj]
  by_cases h : mk M j = true
  ·exact .inl ⟨h, by rw [if_pos h]⟩
  ·exact .inr (by rw [if_neg h])
 refine ⟨hr, fun i j hi hj hv e => ?_, fun i hi hv => ?_, fun i hi hv => ?_, fun i hi hv => ?_⟩
 ·rw [swept_length] at hi hj
  rcases key i hi with ⟨-, e1⟩ | e1 <;> rw [e1] at hv e
  ·rcases key j hj with ⟨-, e2⟩ | e2 <;> rw [e2] at e
   ·exact hg.once i j hi hj hv e
   ·rw [e] at hv; simp at hv
  ·simp at hv
 ·rw [swept_length] at hi
  rcases key i hi with ⟨-, e1⟩ | e1 <;> rw [e1] at hv ⊢
  ·exact hg.red i hi hv
  ·simp at hv
 ·rw [swept_length] at hi
  rcases key i hi with ⟨-, e1⟩ | e1 <;> rw [e1] at hv ⊢
  ·exact hg.vars i hi hv
  ·simp at hv
 ·rw [swept_length] at hi
  rcases key i hi with ⟨-, e1⟩ | e1 <;> rw [e1] at hv ⊢
  exact hg.free i hi hv
theorem semF_swept (hr : Ranked ns) (fs : List Int) (f : Nat -> Bool) : ∀ (d : Nat) (h : Int), MarkedOr ns (marksOf ns fs) h -> semF d (swept ns (marksOf ns fs)) h f = semF d ns h f
 | 0, _, _ => rfl
 | d + 1, h, hm => by
  obtain ⟨e1, e2⟩ := swept_node hm
  unfold semF
  rw [e1]
  by_cases ht : topOf ns h = 24
  ·rw [if_pos ht, if_pos ht]
  ·have hk := marksOf_closed hr fs (pl h) (node_at ht).2.1 (hm.resolve_left ht)
   rw [if_neg ht, if_neg ht, e2 ht, semF_swept hr fs f d _ hk.1, semF_swept hr fs f d _ hk.2]
theorem swept_kept (hg : Good vars ns) {fs : List Int} {h : Int} (hh : h ∈ fs) (hb : hasB ns h = true) : hasB (swept ns (marksOf ns fs)) h = true /\ ∀ f, sem (swept ns (marksOf ns fs)) h f = sem ns h f := by
 have hm := marksOf_in hg.ranked fs h hh
 refine ⟨?_, fun f => semF_swept hg.ranked fs f 24 h hm⟩
 unfold hasB; rw [(swept_node hm).1]; exact hb
end
def alAt (al : List Int) (x : Int) : Int := al.getD (pickV x al.length) 0
abbrev Fn' : Type := (Nat -> Bool) -> Bool
def tAt (T : List Fn') (x : Int) : Fn' := T.getD (pickV x T.length) (fun _ => false)
structure Sems (vars : Nat) (ns : List Nd) (al : List Int) (T : List Fn') : Prop where
 good : Good vars ns
 has : ∀ h ∈ al, hasB ns h = true
 len : al.length = T.length
 sem : ∀ i (h1 : i < al.length) (h2 : i < T.length), ∀ f, sem ns al[i] f = T[i] f
section
variable {vars : Nat} {ns : List Nd} {al : List Int} {T : List Fn'}
theorem Sems.at (h : Sems vars ns al T) (hne : 0 < al.length) (x : Int) : hasB ns (alAt al x) = true /\ ∀ f, Go.Proofs.YtcjjekhecjmaeaaGreatDoor.sem ns (alAt al x) f = tAt T x f := by
 have hl := pickV_lt x hne
 have e1 : alAt al x = al[pickV x al.length] := by unfold alAt; simp [List.getD_eq_getElem?_getD, List.getElem?_eq_getElem hl]
 have e2 : tAt T x = T[pickV x T.length]'(by rw [<- h.len]; exact hl) := by unfold tAt; simp [List.getD_eq_getElem?_getD, List.getElem?_eq_getElem (show pickV x T.length < T.length by rw [<- h.len]; exact hl)]
 refine ⟨by rw [e1]; exact h.has _ (List.getElem_mem hl), fun f => ?_⟩
 have h0 := h.sem (pickV x al.length) hl (by rw [<- h.len]; exact hl) f
 have e3 : T[pickV x al.length]'(by rw [<- h.len]; exact hl) = T[pickV x T.length]'(by rw [<- h.len]; exact hl) := getElem_congr_idx (by rw [h.len])
 rw [e1, h0, e2, e3]
theorem Sems.swept (h : Sems vars ns al T) : Sems vars (Go.Proofs.YtcjjekhecjmaeaaGreatDoor.swept ns (marksOf ns al)) al T :=
 ⟨swept_good h.good al, fun x hx => (swept_kept h.good hx (h.has x hx)).1, h.len, fun i h1 h2 f => by rw [(swept_kept h.good (List.getElem_mem h1) (h.has _ (List.getElem_mem h1))).2 f]; exact h.sem i h1 h2 f⟩
theorem Sems.more {ns' : List Nd} {x : Int} {g : Fn'} (h : Sems vars ns al T) (hg : Good vars ns') (he : Ext ns ns') (hx : hasB ns' x = true) (hs : ∀ f, Go.Proofs.YtcjjekhecjmaeaaGreatDoor.sem ns' x f = g f) : Sems vars ns' (al ++ [x]) (T ++ [g]) := by
 refine ⟨hg, fun y hy => ?_, by simp [h.len], fun i h1 h2 f => ?_⟩
 ·rcases List.mem_append.1 hy with hy | hy
  ·exact he.has y (h.has y hy)
  ·rw [List.mem_singleton] at hy; subst hy; exact hx
 ·by_cases hi : i < al.length
  ·rw [List.getElem_append_left hi, List.getElem_append_left (by rw [<- h.len]; exact hi), sem_ext h.good.ranked he (h.has _ (List.getElem_mem hi))]
   exact h.sem i hi (by rw [<- h.len]; exact hi) f
  ·have e : i = al.length := by simp at h1; omega
   subst e
   have e2 : (T ++ [g])[al.length]'h2 = g := by simp [h.len]
   rw [e2]; simp [hs f]
end
end
section
open Go.RowKit Go.Maps
section
variable {B s b : Nat} {O : Nat -> Prop} {vars : Nat} {room : Int} {ns : List Nd} {w w' : World}
theorem bnew_any (vars : Nat) (hv : vars <= 24) (room : Int) (h0 : 0 <= room) (h1 : room <= 4000) (w : World) (B : Nat) (hB : B <= w.heap.size) :
  Calls Tryz.prog 31 #[.int .i64 (vars : Int), .int .i64 room] w fun e w' => ∃ s b O, e = .returned (.tuple #[.pointer (some ⟨s, 0, none⟩), .nilIface]) /\ SpaceAt B w' s b O vars room [] /\ w.heap.size <= s /\ (∀ k, O k -> w.heap.size <= k) /\ Below w.heap.size w w' := by
 have HN := Lib.hid (new_any room h0 h1 w w.heap.size (Nat.le_refl _))
 go_enter Tryz.func31, Tryz.ntmps31
 go_wp2_with fail
 refine HN.out.mono ?_
 rintro e w1 ⟨rfl, hA1, hb1⟩
 have hs := hb1.size
 have hO := (fun k (h : Own (w.heap.size + 1) w.heap.size (.slice none 0 0) k) => (show w.heap.size <= k /\ k < w1.heap.size from by
  obtain ⟨D, hD, -⟩ := hA1.hmap
  have hbm := hD.lt
  have hlt := hA1.lt
  rcases h with h | h | h
  ·omega
  ·omega
  ·simp [Value.ownBlock] at h))
 have hb2 := hb1.alloc hs (.cells #[.pointer (some ⟨w.heap.size + 1, 0, none⟩), .int .i64 (vars : Int)] 63)
 have hA2 := hA1.kept (Kept.alloc (fun _ => False) w1 (.cells #[.pointer (some ⟨w.heap.size + 1, 0, none⟩), .int .i64 (vars : Int)] 63)) (fun _ _ h => h)
 have hfin : SpaceAt B (w1.alloc (.cells #[.pointer (some ⟨w.heap.size + 1, 0, none⟩), .int .i64 (vars : Int)] 63)) w1.heap.size (w.heap.size + 1) (Own (w.heap.size + 1) w.heap.size (.slice none 0 0)) vars room [] := by
  have hA3 : ArenaAt B (w1.alloc (.cells #[.pointer (some ⟨w.heap.size + 1, 0, none⟩), .int .i64 (vars : Int)] 63)) (w.heap.size + 1) w.heap.size (.slice none 0 0) [] [] room 2 :=
   ⟨hA2.lt, hA2.croom, hA2.cnodes, hA2.cmap, hA2.cnext, hA2.froz, ownsRow_base hA2.row hB, hA2.hmap, hA2.d1, hA2.d2, hA2.d3, by omega, hB⟩
  refine ⟨⟨_, _, [], 2, hA3, ⟨fun p h => by simp at h, fun j h => by simp at h, by simp, fun j h => by simp at h⟩, ⟨0, rfl, by simp, fun j h => by omega⟩, fun _ h => h⟩, fun k hk => ⟨by have := (hO k hk).1; omega, by have := (hO k hk).2; simp; omega⟩, fun ho => by have := (hO _ ho).2; omega, by simp, by simp, by simp⟩
 have HF := Lib.hid hfin
 have HB2 := Lib.hid hb2
 have HO := Lib.hid hO
 clear HN hA1 hA2 hfin hb2 hO
 go_wp2
 go_ret2
 exact ⟨_, _, _, rfl, HF.out, hs, fun k hk => (HO.out k hk).1, HB2.out⟩
theorem vars_any (h : SpaceAt B w s b O vars room ns) : Calls Tryz.prog 27 #[.pointer (some ⟨s, 0, none⟩)] w fun e w' => e = .returned (.int .i64 (vars : Int)) /\ w = w' := by
 have c1 := h.c1
 clear h
 go_enter Tryz.func27, Tryz.ntmps27
 go_wp2
 go_ret
 exact ⟨rfl, rfl⟩
end
end
end Go.Proofs.YtcjjekhecjmaeaaGreatDoor
