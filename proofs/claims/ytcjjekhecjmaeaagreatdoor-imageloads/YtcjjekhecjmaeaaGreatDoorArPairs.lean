/- What the walk of ArenaOnce leans on: plain lists, and a map from handles to nodes. -/
import Derived.Test.YtcjjekhecjmaeaaGreatDoorArMark
set_option maxHeartbeats 4000000
set_option maxRecDepth 100000
namespace Go.Proofs.YtcjjekhecjmaeaaGreatDoor
section
open Go.RowKit Go.Maps
def marksOf (ns : List Nd) (fs : List Int) : List Bool := fs.foldl (fun m h => markF 24 ns h m) (List.replicate ns.length false)
theorem marksOf_length (ns : List Nd) (fs : List Int) : (marksOf ns fs).length = ns.length := by
 unfold marksOf
 have : ∀ (fs : List Int) (m : List Bool), (fs.foldl (fun m h => markF 24 ns h m) m).length = m.length := by
  intro fs
  induction fs with
  | nil => intro m; rfl
  | cons f fs ih => intro m; rw [List.foldl_cons, ih, markF_length]
 rw [this]; simp
theorem marksOf_take (ns : List Nd) (fs : List Int) (k : Nat) (h : k < fs.length) : marksOf ns (fs.take (k + 1)) = markF 24 ns fs[k] (marksOf ns (fs.take k)) := by
 unfold marksOf; rw [List.take_succ_eq_append_getElem h, List.foldl_append]; rfl
theorem ownsRow_base {w : World} {B B' e size n : Nat} {v : Value} {xs : List Value} (h : w.ownsRow B e size v n xs) (hB : B' <= B) : w.ownsRow B' e size v n xs := by
 refine ⟨h.1, ?_⟩
 rcases h.2 with h1 | ⟨g, cap, cur, h1, h2, h3⟩
 ·exact .inl h1
 ·exact .inr ⟨g, cap, cur, h1, Nat.le_trans hB h2, h3⟩
theorem infoBool : (Tryz.prog.info? 4).map (fun i => (i.zero, i.size, i.bytes)) = some (some (.bool false), 1, 1) := by kernel_rfl
theorem mcells_made (n : Nat) : (madeCells #[Value.bool false] n).toList = mcells (List.replicate n false) := by rw [toList_madeCells_one]; simp [mcells]
structure IntsAt (w : World) (bf : Nat) (fs : List Int) : Prop where
 lt : bf < w.heap.size
 cells : ∀ i (h : i < fs.length), w.cell? ⟨bf, i, none⟩ = some (.int .i64 fs[i])
 ok : ∀ x ∈ fs, I64 x
theorem IntsAt.kept {S : Nat -> Prop} {w w' : World} {bf : Nat} {fs : List Int} (h : IntsAt w bf fs) (hk : Kept S w w') (hn : ¬ S bf) : IntsAt w' bf fs :=
 ⟨Nat.lt_of_lt_of_le h.lt hk.size, fun i hi => (hk.cell (a := ⟨bf, i, none⟩) h.lt hn).trans (h.cells i hi), h.ok⟩
section
variable {B b bm : Nat} {v : Value} {ns : List Nd} {L : List (Nd × Int)} {room next : Int} {w : World}
theorem reached_any (hr : Ranked ns) (hl : ns.length <= 100000) (hA : ArenaAt B w b bm v ns L room next) (bf : Nat) {cp : Nat} (fs : List Int) (hF : IntsAt w bf fs) (hfl : fs.length <= 1000) (hB : B <= w.heap.size) :
  Calls Tryz.prog 75 #[.pointer (some ⟨b, 0, none⟩), .slice (some ⟨bf, 0, none⟩) fs.length cp] w fun e w' => e = .returned (.slice (some ⟨w.heap.size, 0, none⟩) ns.length ns.length) /\ w'.ownsRow B 4 1 (.slice (some ⟨w.heap.size, 0, none⟩) ns.length ns.length) ns.length (mcells (marksOf ns fs)) /\ Below w.heap.size w w' := by
 obtain ⟨a, cap, rfl, -⟩ := hA.form
 have hg : ¬ Own b bm (.slice a ns.length cap) w.heap.size := by
  obtain ⟨D, hD, -⟩ := hA.hmap
  have hbm := hD.lt
  have hlt := hA.lt
  rintro (h | h | h)
  ·omega
  ·omega
  ·have := (hA.row.lt _ h).2; omega
 have cn := hA.cnodes
 obtain ⟨i0, hi, hz0, hz1, hz2⟩ := info_parts infoBool
 have HA := Lib.hid hA
 have HF := Lib.hid hF
 have HG := Lib.hid hg
 have HR := Lib.hid hr
 clear hA hF hg hr
 go_enter Tryz.func75, Tryz.ntmps75
 go_wp2_with (at_make; refine wpList_make_full _ rfl _ _ 42 rfl w.heap.size 4 i0 (.bool false) 1 Tryz.underlying42 hi hz0 hz1 .i64 .i64 _ _ ns.length rfl rfl ?c1 ?c2 ?c3 ?c4 ?c5 ?_)
 case c1 => rfl
 case c2 => rfl
 case c3 => rw [hz2]; omega
 case c4 => unfold maxLen; omega
 case c5 => omega
 intro w1 hown hgrow
 rw [mcells_made] at hown
 have hbel : Below w.heap.size w w1 := (Below.refl _ _).grown hgrow (Nat.le_refl _) (fun k hk => by cases hk)
 clear hgrow
 go_wp2_with fail
 go_loopw [7, 16] (fun _ i wr => ∃ k : Nat, k <= fs.length /\ i = .int .i64 (k : Int) /\ wr.ownsRow w.heap.size 4 1 (.slice (some ⟨w.heap.size, 0, none⟩) ns.length ns.length) ns.length (mcells (marksOf ns (fs.take k))) /\ Below w.heap.size w wr)
  (fun _ i _ => fs.length - (intOf i).toNat)
 case atStart => exact ⟨0, Nat.zero_le _, rfl, hown, hbel⟩
 case round =>
  obtain ⟨k, hk, rfl, hownr, hbelr⟩ := hrel
  clear hown hbel
  by_cases hlt : k < fs.length
  ·have ck := (hbelr.cell (p := ⟨bf, k, none⟩) HF.out.lt).trans (HF.out.cells k hlt)
   have HC : Hid (Calls Tryz.prog 112 #[.pointer (some ⟨b, 0, none⟩), .int .i64 fs[k], .slice (some ⟨w.heap.size, 0, none⟩) ns.length ns.length] wr fun e w' => e = .returned (.tuple #[]) /\ w'.ownsRow w.heap.size 4 1 (.slice (some ⟨w.heap.size, 0, none⟩) ns.length ns.length) ns.length (mcells (marksOf ns (fs.take (k + 1)))) /\ Kept (fun k => k = w.heap.size) wr w') := by
    have hr' := HR.out
    have := mark_any (B := B) (L := L) (room := room) (next := next) hr' hl HG.out 24 fs[k] (marksOf ns (fs.take k)) wr (HA.out.kept (Kept.of_below hbelr (fun _ => False)) (fun _ _ h => h)) (marksOf_length _ _) (ownsRow_base hownr hB) (HF.out.ok _ (List.getElem_mem hlt)) (by have := (topOf_le hr' fs[k]).1; omega)
    rw [<- marksOf_take ns fs k hlt] at this
    refine this.mono ?_
    rintro e w' ⟨h1, h2, h3⟩
    refine ⟨h1, ⟨h2.1, ?_⟩, h3⟩
    rcases h2.2 with h4 | ⟨g, cp, cur, h4, h5⟩
    ·exact .inl h4
    ·refine .inr ⟨g, cp, cur, h4, ?_, h5.2⟩
     cases h4; exact Nat.le_refl _
   have HB := Lib.hid hbelr
   clear hownr hbelr
   generalize fs[k] = x at *
   go_wp2_with fail
   refine HC.out.mono ?_
   rintro e w2 ⟨rfl, hr2, hk2⟩
   have hb2 := HB.out.trans (hk2.below HB.out.size (fun i hi => by omega))
   clear HC hk2
   go_wp2
   go_roundw
   case rel => exact ⟨k + 1, by omega, by go_num, hr2, hb2⟩
   case measure => simp [intOf]; omega
  ·obtain rfl : k = fs.length := by omega
   rw [List.take_length] at hownr
   go_wp2
   go_ret
   exact ⟨rfl, ownsRow_base hownr hB, hbelr⟩
end
end
section
open Go.RowKit Go.Maps
def icells (l : List Int) : List Value := l.map (Value.int .i64)
theorem icells_at (l : List Int) (i : Nat) (h : i < l.length) : (icells l)[i]? = some (.int .i64 l[i]) := by simp [icells, h]
def reachTo (M : List Bool) (k : Nat) : List Int := ((List.range k).filter fun i => mk M i).map fun i : Nat => 2 + (i : Int)
theorem reachTo_succ (M : List Bool) (k : Nat) : reachTo M (k + 1) = reachTo M k ++ (if mk M k = true then [2 + (k : Int)] else []) := by
 unfold reachTo
 rw [List.range_succ, List.filter_append, List.map_append]
 congr 1
 by_cases h : mk M k = true
 ·rw [if_pos h]; simp [h]
 ·rw [if_neg h]; simp [h]
theorem reachTo_length (M : List Bool) (k : Nat) : (reachTo M k).length <= k := by
 unfold reachTo; rw [List.length_map]; exact Nat.le_trans (List.length_filter_le _ _) (by simp)
theorem infoInt : (Tryz.prog.info? 3).map (fun i => (i.zero, i.size, i.bytes)) = some (some (.int .i64 0), 1, 8) := by kernel_rfl
end
section
open Go.RowKit Go.Maps
structure Book (ns : List Nd) (L : List (Nd × Int)) : Prop where
 mem : ∀ p ∈ L, ∃ i : Nat, i < ns.length /\ (nd ns i).v < 24 /\ p = (nd ns i, 2 + (i : Int))
 all : ∀ i, i < ns.length -> (nd ns i).v < 24 -> (nd ns i, 2 + (i : Int)) ∈ L
 nodup : (L.map Prod.fst).Nodup
 free : ∀ i, i < ns.length -> ¬ (nd ns i).v < 24 -> nd ns i = ⟨24, 0, 0⟩
theorem nd_set (ns : List Nd) (k : Nat) (n : Nd) (i : Nat) (h : k < ns.length) : nd (ns.set k n) i = if i = k then n else nd ns i := by
 unfold nd
 simp only [List.getD_eq_getElem?_getD, List.getElem?_set]
 by_cases e : k = i
 ·subst e; simp [h]
 ·rw [if_neg e, if_neg (fun h => e h.symm)]
section
variable {B b bm : Nat} {v : Value} {ns : List Nd} {L : List (Nd × Int)} {room next : Int} {w : World}
end
end
section
open Go.RowKit Go.Maps
theorem new_any (room : Int) (h0 : 0 <= room) (h1 : room <= 4000) (w : World) (B : Nat) (hB : B <= w.heap.size) :
  Calls Tryz.prog 61 #[.int .i64 room] w fun e w' => e = .returned (.tuple #[.pointer (some ⟨w.heap.size + 1, 0, none⟩), .nilIface]) /\ ArenaAt B w' (w.heap.size + 1) w.heap.size (.slice none 0 0) [] [] room 2 /\ Below w.heap.size w w' := by
 have hmm := @run_makeMap Tryz.prog
 have hE : ArenaAt B ((w.alloc (.map #[] 0)).alloc (.cells #[.int .i64 room, .slice none 0 0, .map (some w.heap.size), .int .i64 2] 126)) (w.heap.size + 1) w.heap.size (.slice none 0 0) [] [] room 2 := by
  have e1 : (w.alloc (.map #[] 0)).heap.size = w.heap.size + 1 := by simp
  have hm : ((w.alloc (.map #[] 0)).alloc (.cells #[.int .i64 room, .slice none 0 0, .map (some w.heap.size), .int .i64 2] 126)).ownsMap Tryz.prog 102 (plainElem (H := Unit) Tryz.prog 3) w.heap.size 0 (.map []) := (World.ownsMap_made w _ _ _).alloc _
  refine ⟨by simp, ?_, ?_, ?_, ?_, ?_, World.ownsRow_nil _ _ _ _, ⟨_, hm, Rep.empty⟩, by simp [Value.ownBlock], by omega, by simp [Value.ownBlock], by omega, hB⟩
  ·rw [<- e1]; simp
  ·rw [<- e1]; simp
  ·rw [<- e1]; simp
  ·rw [<- e1]; simp
  ·intro i; rw [<- e1]; simp
 have hb : Below w.heap.size w ((w.alloc (.map #[] 0)).alloc (.cells #[.int .i64 room, .slice none 0 0, .map (some w.heap.size), .int .i64 2] 126)) := ((Below.refl _ _).alloc (Nat.le_refl _) _).alloc (by simp) _
 have HE := Lib.hid hE
 clear hE
 go_enter Tryz.func61, Tryz.ntmps61
 go_wp2
 go_ret2
 exact ⟨rfl, HE.out, hb⟩
end
section
open Go.RowKit Go.Maps
theorem nd_snoc (ns : List Nd) (n : Nd) (i : Nat) : nd (ns ++ [n]) i = if i < ns.length then nd ns i else if i = ns.length then n else ⟨0, 0, 0⟩ := by
 unfold nd
 simp only [List.getD_eq_getElem?_getD]
 by_cases h : i < ns.length
 ·rw [if_pos h, List.getElem?_append_left h]
 ·rw [if_neg h, List.getElem?_append_right (by omega)]
  by_cases e : i = ns.length
  ·subst e; simp
  ·rw [if_neg e, List.getElem?_eq_none (by simp; omega)]; rfl
theorem hasB_cases {ns : List Nd} {h : Int} (hh : hasB ns h = true) : h = 0 \/ h = 1 \/ topOf ns h < 24 := by
 unfold hasB at hh; simpa [or_assoc] using hh
end
end Go.Proofs.YtcjjekhecjmaeaaGreatDoor
