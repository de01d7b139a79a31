/- listed. -/
import Derived.Test.YtcjjekhecjmaeaaGreatDoorImListed
set_option maxHeartbeats 4000000
set_option maxRecDepth 100000
namespace Go.Proofs.YtcjjekhecjmaeaaGreatDoor
open Go.RowKit Go.Maps
section
variable {A : Nat} {w : World} {s b : Nat} {O : Nat -> Prop} {vars : Nat} {room : Int} {ns : List Nd}
theorem listed_any (hS : SpaceAt A w s b O vars room ns) (hr : Ranked ns) (hl : ns.length <= 5000) (h : Int) (hh : hasB ns h = true) :
  Calls Tryz.prog 47 #[.pointer (some ⟨s, 0, none⟩), .int .i64 h] w fun e w' => ∃ v, e = .returned (.tuple #[v, .int .i64 (numD (postF ns 25 h []) h)]) /\ w'.ownsRow w.heap.size 102 3 v (postF ns 25 h []).length (entL ns (postF ns 25 h [])) /\ Below w.heap.size w w' := by
 have hmm := @run_makeMap Tryz.prog
 have b1 := below_new w (.cells #[.pointer (some ⟨s, 0, none⟩)] 23)
 have b2 := b1.alloc b1.size (.cells #[.slice none 0 0] 98)
 have b3 := b2.alloc b2.size (.map #[] 0)
 have z2 : ((w.alloc (.cells #[.pointer (some ⟨s, 0, none⟩)] 23)).alloc (.cells #[.slice none 0 0] 98)).heap.size = w.heap.size + 1 + 1 := by rw [World.size_alloc, World.size_alloc]
 have hm0 := World.ownsMap_made ((w.alloc (.cells #[.pointer (some ⟨s, 0, none⟩)] 23)).alloc (.cells #[.slice none 0 0] 98)) Tryz.prog 3 (plainElem (H := Unit) Tryz.prog 3)
 rw [z2] at hm0
 have z3 : (((w.alloc (.cells #[.pointer (some ⟨s, 0, none⟩)] 23)).alloc (.cells #[.slice none 0 0] 98)).alloc (.map #[] 0)).heap.size = w.heap.size + 3 := by rw [World.size_alloc, z2]
 have e1 : (((w.alloc (.cells #[.pointer (some ⟨s, 0, none⟩)] 23)).alloc (.cells #[.slice none 0 0] 98)).alloc (.map #[] 0)).heap[w.heap.size]? = some (.cells #[.pointer (some ⟨s, 0, none⟩)] 23) := by
  have := ((below_new (w.alloc (.cells #[.pointer (some ⟨s, 0, none⟩)] 23)) (.cells #[.slice none 0 0] 98)).alloc (below_new _ _).size (.map #[] 0)).block w.heap.size (by simp)
  rw [this]; exact (MapKept.heap_alloc w _).1
 have e2 : (((w.alloc (.cells #[.pointer (some ⟨s, 0, none⟩)] 23)).alloc (.cells #[.slice none 0 0] 98)).alloc (.map #[] 0)).heap[w.heap.size + 1]? = some (.cells #[.slice none 0 0] 98) := by
  have := (below_new ((w.alloc (.cells #[.pointer (some ⟨s, 0, none⟩)] 23)).alloc (.cells #[.slice none 0 0] 98)) (.map #[] 0)).block (w.heap.size + 1) (by rw [z2]; omega)
  rw [this]
  have h2 := (MapKept.heap_alloc (w.alloc (.cells #[.pointer (some ⟨s, 0, none⟩)] 23)) (.cells #[.slice none 0 0] 98)).1
  rw [World.size_alloc] at h2; exact h2
 obtain ⟨w4, D4, hput4, p1, p2, p3⟩ := istore (L := []) hm0 Rep.empty (by decide) (a := 0) ⟨by decide, by decide⟩ (x := 0) ⟨by decide, by decide⟩
 obtain ⟨w5, D5, hput5, q1, q2, q3⟩ := istore p1 p2 (by decide) (a := 1) ⟨by decide, by decide⟩ (x := 1) ⟨by decide, by decide⟩
 have hk5 : Kept (fun k => k = w.heap.size + 1 + 1) _ w5 := p3.trans q3
 have hm5 : ∃ Dm, w5.ownsMap Tryz.prog 3 (plainElem Tryz.prog 3) (w.heap.size + 1 + 1) (numL []).length Dm /\ IRep Dm (numL []) := ⟨D5, q1, q2⟩
 have s5 : w.heap.size + 3 <= w5.heap.size := by have := hk5.size; rw [z3] at this; exact this
 have f1 : w5.heap[w.heap.size]? = some (.cells #[.pointer (some ⟨s, 0, none⟩)] 23) := (hk5.block w.heap.size (by rw [z3]; omega) (fun e => by have e' : w.heap.size = w.heap.size + 1 + 1 := e; omega)).trans e1
 have f2 : w5.heap[w.heap.size + 1]? = some (.cells #[.slice none 0 0] 98) := (hk5.block (w.heap.size + 1) (by rw [z3]; omega) (fun e => by have e' : w.heap.size + 1 = w.heap.size + 1 + 1 := e; omega)).trans e2
 have hb5 : Below w.heap.size w w5 := b3.trans (hk5.below (by rw [z3]; omega) (fun k e => by have e' : k = w.heap.size + 1 + 1 := e; omega))
 obtain ⟨n5, hn5⟩ : ∃ n, n = w5.heap.size := ⟨_, rfl⟩
 have z6 : (w5.alloc (.cells #[.map (some (w.heap.size + 1 + 1))] 147)).heap.size = n5 + 1 := by rw [World.size_alloc, hn5]
 have z7 : ((w5.alloc (.cells #[.map (some (w.heap.size + 1 + 1))] 147)).alloc (.cells #[.nilFunc] 47)).heap.size = n5 + 1 + 1 := by rw [World.size_alloc, z6]
 have g6 := (MapKept.heap_alloc w5 (.cells #[.map (some (w.heap.size + 1 + 1))] 147)).1
 have g7 := (MapKept.heap_alloc (w5.alloc (.cells #[.map (some (w.heap.size + 1 + 1))] 147)) (.cells #[.nilFunc] 47)).1
 rw [<- hn5] at g6 s5
 rw [z6] at g7
 have b6 := below_new w5 (.cells #[.map (some (w.heap.size + 1 + 1))] 147)
 have b7 := below_new (w5.alloc (.cells #[.map (some (w.heap.size + 1 + 1))] 147)) (.cells #[.nilFunc] 47)
 rw [<- hn5] at b6
 rw [z6] at b7
 have hK7 : Kept (fun k => k = n5 + 1) w5 (((w5.alloc (.cells #[.map (some (w.heap.size + 1 + 1))] 147)).alloc (.cells #[.nilFunc] 47)).setCell ⟨n5 + 1, 0, none⟩ (.func (.func 84) #[] #[.pointer (some ⟨n5, 0, none⟩), .pointer (some ⟨w.heap.size, 0, none⟩), .pointer (some ⟨n5 + 1, 0, none⟩), .pointer (some ⟨w.heap.size + 1, 0, none⟩)])) :=
  ((Kept.alloc _ w5 _).trans (Kept.alloc _ _ _)).trans (Kept.setCell _ _ _ rfl)
 have c7 : ((w5.alloc (.cells #[.map (some (w.heap.size + 1 + 1))] 147)).alloc (.cells #[.nilFunc] 47)).cell? ⟨n5 + 1, 0, none⟩ = some .nilFunc := by simp [World.cell?, g7]
 have fr7 : ((w5.alloc (.cells #[.map (some (w.heap.size + 1 + 1))] 147)).alloc (.cells #[.nilFunc] 47)).frozen? ⟨n5 + 1, 0, none⟩ = false := by simp [World.frozen?, g7]
 have h6 : ((w5.alloc (.cells #[.map (some (w.heap.size + 1 + 1))] 147)).alloc (.cells #[.nilFunc] 47)).heap[n5]? = some (.cells #[.map (some (w.heap.size + 1 + 1))] 147) := (b7.block n5 (by omega)).trans g6
 have hNS : NumSt w.heap.size A (((w5.alloc (.cells #[.map (some (w.heap.size + 1 + 1))] 147)).alloc (.cells #[.nilFunc] 47)).setCell ⟨n5 + 1, 0, none⟩ (.func (.func 84) #[] #[.pointer (some ⟨n5, 0, none⟩), .pointer (some ⟨w.heap.size, 0, none⟩), .pointer (some ⟨n5 + 1, 0, none⟩), .pointer (some ⟨w.heap.size + 1, 0, none⟩)])) s b O vars room ns n5 w.heap.size (n5 + 1) (w.heap.size + 1) (w.heap.size + 1 + 1) [] (.slice none 0 0) := by
  obtain ⟨Dm, m1, m2⟩ := hm5
  have hsz := hK7.size
  have hlt : n5 + 1 + 1 <= (((w5.alloc (.cells #[.map (some (w.heap.size + 1 + 1))] 147)).alloc (.cells #[.nilFunc] 47)).setCell ⟨n5 + 1, 0, none⟩ (.func (.func 84) #[] #[.pointer (some ⟨n5, 0, none⟩), .pointer (some ⟨w.heap.size, 0, none⟩), .pointer (some ⟨n5 + 1, 0, none⟩), .pointer (some ⟨w.heap.size + 1, 0, none⟩)])).heap.size := by
   have := (Kept.setCell (S := fun k => k = n5 + 1) ((w5.alloc (.cells #[.map (some (w.heap.size + 1 + 1))] 147)).alloc (.cells #[.nilFunc] 47)) ⟨n5 + 1, 0, none⟩ (.func (.func 84) #[] #[.pointer (some ⟨n5, 0, none⟩), .pointer (some ⟨w.heap.size, 0, none⟩), .pointer (some ⟨n5 + 1, 0, none⟩), .pointer (some ⟨w.heap.size + 1, 0, none⟩)]) rfl).size
   rw [z7] at this; exact this
  refine ⟨(hS.new hb5).kept hK7 (fun k ho e => by have e' : k = n5 + 1 := e; have := (hS.own k ho).2; omega) (fun e => by have e' : s = n5 + 1 := e; have := hS.slt; omega), fun k ho => (hS.own k ho).2, hS.slt, by omega, ?_, ?_, World.cell?_setCell_same _ _ _ c7, ?_, ⟨Dm, ownsMap_kept m1 hK7 (fun e => by have e' : w.heap.size + 1 + 1 = n5 + 1 := e; omega), m2⟩, World.ownsRow_nil _ _ _ _, ⟨by omega, by omega, by omega, by omega⟩, ⟨by omega, by omega, by omega, by omega, by omega⟩, ⟨by omega, by omega, by omega, by omega, by omega, by omega, by omega⟩, fun k hk => by simp [Value.ownBlock] at hk⟩
  ·rw [World.cell?_setCell_far _ _ _ _ (show n5 + 1 ≠ n5 by omega)]; simp [World.cell?, h6]
  ·have := (hK7.block w.heap.size (by omega) (fun e => by have e' : w.heap.size = n5 + 1 := e; omega)).trans f1
   simp [World.cell?, this]
  ·exact (hK7.block (w.heap.size + 1) (by omega) (fun e => by have e' : w.heap.size + 1 = n5 + 1 := e; omega)).trans f2
 have hBW : Below w.heap.size w (((w5.alloc (.cells #[.map (some (w.heap.size + 1 + 1))] 147)).alloc (.cells #[.nilFunc] 47)).setCell ⟨n5 + 1, 0, none⟩ (.func (.func 84) #[] #[.pointer (some ⟨n5, 0, none⟩), .pointer (some ⟨w.heap.size, 0, none⟩), .pointer (some ⟨n5 + 1, 0, none⟩), .pointer (some ⟨w.heap.size + 1, 0, none⟩)])) := hb5.trans (hK7.below (by omega) (fun k e => by have e' : k = n5 + 1 := e; omega))
 have HNS := Lib.hid hNS
 have HBW := Lib.hid hBW
 have HWK := Lib.hid (walk_any (B := w.heap.size) (A := A) (s := s) (b := b) (O := O) (vars := vars) (room := room) (nb := n5) (sb := w.heap.size) (fb := n5 + 1) (ob := w.heap.size + 1) (bm := w.heap.size + 1 + 1) hr hl 25 h [] (.slice none 0 0) _ hNS ⟨fun x hx => (by cases hx), List.nodup_nil, fun x hx => (by cases hx)⟩ hh (by have := (topOf_le hr h).1; omega))
 unfold LOut at HWK
 have hst : (store ⟨n5 + 1, 0, none⟩ (Value.func (Fn.func 84) #[] #[.pointer (some ⟨n5, 0, none⟩), .pointer (some ⟨w.heap.size, 0, none⟩), .pointer (some ⟨n5 + 1, 0, none⟩), .pointer (some ⟨w.heap.size + 1, 0, none⟩)])).run Tryz.prog ((w5.alloc (.cells #[.map (some (w.heap.size + 1 + 1))] 147)).alloc (.cells #[.nilFunc] 47)) = .ok () (((w5.alloc (.cells #[.map (some (w.heap.size + 1 + 1))] 147)).alloc (.cells #[.nilFunc] 47)).setCell ⟨n5 + 1, 0, none⟩ (.func (.func 84) #[] #[.pointer (some ⟨n5, 0, none⟩), .pointer (some ⟨w.heap.size, 0, none⟩), .pointer (some ⟨n5 + 1, 0, none⟩), .pointer (some ⟨w.heap.size + 1, 0, none⟩)])) := by
  rw [run_store _ _ _ _ _ (by rfl), c7, fr7]
  rfl
 have cf7 := hNS.cf
 clear hS hr hl hh hb5 hm5 hK7 hNS hBW f1 f2 e1 e2 b1 b2 b3 b6 b7 hk5 p1 p2 p3 q1 q2 q3 hm0 z2 z3 s5 h6 g6 z6 z7 c7 fr7 g7
 generalize postF ns 25 h [] = R at *
 generalize numD R h = xr at *
 subst hn5
 go_enter Tryz.func47, Tryz.ntmps47
 go_upto_region 5 with fail
 go_wp2_with fail
 have hEq : (((w5.alloc (.cells #[.map (some (w.heap.size + 1 + 1))] 147)).alloc (.cells #[.nilFunc] 47)).setCell ⟨w5.heap.size + 1, 0, none⟩ (.func (.func 84) #[] #[.pointer (some ⟨w5.heap.size, 0, none⟩), .pointer (some ⟨w.heap.size, 0, none⟩), .pointer (some ⟨w5.heap.size + 1, 0, none⟩), .pointer (some ⟨w.heap.size + 1, 0, none⟩)])) = (w5.alloc (.cells #[.map (some (w.heap.size + 1 + 1))] 147)).alloc (.cells #[.func (.func 84) #[] #[.pointer (some ⟨w5.heap.size, 0, none⟩), .pointer (some ⟨w.heap.size, 0, none⟩), .pointer (some ⟨w5.heap.size + 1, 0, none⟩), .pointer (some ⟨w.heap.size + 1, 0, none⟩)]] 47) := by go_simp
 rw [hEq] at HWK HBW
 refine HWK.out.mono ?_
 rintro e w9 ⟨v9, rfl, hS9, hF9⟩
 have c9 := hS9.c0
 have HFIN : Hid (w9.ownsRow w.heap.size 102 3 v9 R.length (entL ns R) /\ Below w.heap.size w w9) := ⟨hS9.row, HBW.out.trans (hF9.kept.below HBW.out.size (fun k e => by
  rcases e with e | e | e
  ·rw [e]; omega
  ·rw [e]; omega
  ·simp [Value.ownBlock] at e))⟩
 clear hS9 hF9 HWK HNS HBW hst cf7
 go_wp2
 go_ret2
 exact ⟨v9, rfl, HFIN.out⟩
end
end Go.Proofs.YtcjjekhecjmaeaaGreatDoor
