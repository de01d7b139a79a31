/- What each function of a space makes: by plain functions, and what is true of it. -/
import Derived.Test.YtcjjekhecjmaeaaGreatDoorImListed
import Derived.Test.YtcjjekhecjmaeaaGreatDoorBdJoin
set_option maxHeartbeats 4000000
set_option maxRecDepth 100000
namespace Go.Proofs.YtcjjekhecjmaeaaGreatDoor
section
open Go.RowKit Go.Maps
section
variable {A : Nat} {w : World} {s b : Nat} {O : Nat -> Prop} {vars : Nat} {room : Int} {ns : List Nd}
theorem listed_any (hS : SpaceAt A w s b O vars room ns) (hr : Ranked ns) (hl : ns.length <= 5000) (h : Int) (hh : hasB ns h = true) :
  Calls Tryz.prog 47 #[.pointer (some ⟨s, 0, none⟩), .int .i64 h] w fun e w' => ∃ v, e = .returned (.tuple #[v, .int .i64 (numD (postF ns 25 h []) h)]) /\ w'.ownsRow w.heap.size 102 3 v (postF ns 25 h []).length (entL ns (postF ns 25 h [])) /\ Below w.heap.size w w' := by
 have hmm := @run_makeMap Tryz.prog
 have b1 := below_new w (.cells #[.pointer (some ⟨s, 0, none⟩)] 23)
 have b2 := b1.alloc b1.size (.cells #[.slice none 0 0] 98)
 have b3 := b2.alloc b2.size (.map #[] 0)
 have z2 : ((w.alloc (.cells #[.pointer (some ⟨s, 0, none⟩)] 23)).alloc (.cells #[.slice none 0 0] 98)).heap.size = w.heap.size + 1 + 1 := by rw [World.size_alloc, World.size_alloc]
 have hm0 := World.ownsMap_made ((w.alloc (.cells #[.pointer (some ⟨s, 0, none⟩)] 23)).alloc (.cells #[.slice none 0 0] 98)) Tryz.prog 3 (plainElem (H := Unit) Tryz.prog 3)
 rw [z2] at hm0
 have z3 : (((w.alloc (.cells #[.pointer (some ⟨s, 0, none⟩)] 23)).alloc (.cells #[.slice none 0 0] 98)).alloc (.map #[] 0)).heap.size = w.heap.size + 3 := by rw [World.size_alloc, z2]
 have e1 : (((w.alloc (.cells #[.pointer (some ⟨s, 0, none⟩)] 23)).alloc (.cells #[.slice none 0 0] 98)).alloc (.map #[] 0)).heap[w.heap.size]? = some (.cells #[.pointer (some ⟨s, 0, none⟩)] 23) := by
  have := ((below_new (w.alloc (.cells #[.pointer (some ⟨s, 0, none⟩)] 23)) (.cells #[.slice none 0 0] 98)).alloc (below_new _ _).size (.map #[] 0)).block w.heap.size (by simp)
  rw [this]; exact (MapKept.heap_alloc w _).1
 have e2 : (((w.alloc (.cells #[.pointer (some ⟨s, 0, none⟩)] 23)).alloc (.cells #[.slice none 0 0] 98)).alloc (.map #[] 0)).heap[w.heap.size + 1]? = some (.cells #[.slice none 0 0] 98) := by
  have := (below_new ((w.alloc (.cells #[.pointer (some ⟨s, 0, none⟩)] 23)).alloc (.cells #[.slice none 0 0] 98)) (.map #[] 0)).block (w.heap.size + 1) (by rw [z2]; omega)
  rw [this]
  have h2 := (MapKept.heap_alloc (w.alloc (.cells #[.pointer (some ⟨s, 0, none⟩)] 23)) (.cells #[.slice none 0 0] 98)).1
  rw [World.size_alloc] at h2; exact h2
 obtain ⟨w4, D4, hput4, p1, p2, p3⟩ := istore (L := []) hm0 Rep.empty (by decide) (a := 0) ⟨by decide, by decide⟩ (x := 0) ⟨by decide, by decide⟩
 obtain ⟨w5, D5, hput5, q1, q2, q3⟩ := istore p1 p2 (by decide) (a := 1) ⟨by decide, by decide⟩ (x := 1) ⟨by decide, by decide⟩
 have hk5 : Kept (fun k => k = w.heap.size + 1 + 1) _ w5 := p3.trans q3
 have hm5 : ∃ Dm, w5.ownsMap Tryz.prog 3 (plainElem Tryz.prog 3) (w.heap.size + 1 + 1) (numL []).length Dm /\ IRep Dm (numL []) := ⟨D5, q1, q2⟩
 have s5 : w.heap.size + 3 <= w5.heap.size := by have := hk5.size; rw [z3] at this; exact this
 have f1 : w5.heap[w.heap.size]? = some (.cells #[.pointer (some ⟨s, 0, none⟩)] 23) := (hk5.block w.heap.size (by rw [z3]; omega) (fun e => by have e' : w.heap.size = w.heap.size + 1 + 1 := e; omega)).trans e1
 have f2 : w5.heap[w.heap.size + 1]? = some (.cells #[.slice none 0 0] 98) := (hk5.block (w.heap.size + 1) (by rw [z3]; omega) (fun e => by have e' : w.heap.size + 1 = w.heap.size + 1 + 1 := e; omega)).trans e2
 have hb5 : Below w.heap.size w w5 := b3.trans (hk5.below (by rw [z3]; omega) (fun k e => by have e' : k = w.heap.size + 1 + 1 := e; omega))
 obtain ⟨n5, hn5⟩ : ∃ n, n = w5.heap.size := ⟨_, rfl⟩
 have z6 : (w5.alloc (.cells #[.map (some (w.heap.size + 1 + 1))] 147)).heap.size = n5 + 1 := by rw [World.size_alloc, hn5]
 have z7 : ((w5.alloc (.cells #[.map (some (w.heap.size + 1 + 1))] 147)).alloc (.cells #[.nilFunc] 47)).heap.size = n5 + 1 + 1 := by rw [World.size_alloc, z6]
 have g6 := (MapKept.heap_alloc w5 (.cells #[.map (some (w.heap.size + 1 + 1))] 147)).1
 have g7 := (MapKept.heap_alloc (w5.alloc (.cells #[.map (some (w.heap.size + 1 + 1))] 147)) (.cells #[.nilFunc] 47)).1
 rw [<- hn5] at g6 s5
 rw [z6] at g7
 have b6 := below_new w5 (.cells #[.map (some (w.heap.size + 1 + 1))] 147)
 have b7 := below_new (w5.alloc (.cells #[.map (some (w.heap.size + 1 + 1))] 147)) (.cells #[.nilFunc] 47)
 rw [<- hn5] at b6
 rw [z6] at b7
 have hK7 : Kept (fun k => k = n5 + 1) w5 (((w5.alloc (.cells #[.map (some (w.heap.size + 1 + 1))] 147)).alloc (.cells #[.nilFunc] 47)).setCell ⟨n5 + 1, 0, none⟩ (.func (.func 84) #[] #[.pointer (some ⟨n5, 0, none⟩), .pointer (some ⟨w.heap.size, 0, none⟩), .pointer (some ⟨n5 + 1, 0, none⟩), .pointer (some ⟨w.heap.size + 1, 0, none⟩)])) :=
  ((Kept.alloc _ w5 _).trans (Kept.alloc _ _ _)).trans (Kept.setCell _ _ _ rfl)
 have c7 : ((w5.alloc (.cells #[.map (some (w.heap.size + 1 + 1))] 147)).alloc (.cells #[.nilFunc] 47)).cell? ⟨n5 + 1, 0, none⟩ = some .nilFunc := by simp [World.cell?, g7]
 have fr7 : ((w5.alloc (.cells #[.map (some (w.heap.size + 1 + 1))] 147)).alloc (.cells #[.nilFunc] 47)).frozen? ⟨n5 + 1, 0, none⟩ = false := by simp [World.frozen?, g7]
 have h6 : ((w5.alloc (.cells #[.map (some (w.heap.size + 1 + 1))] 147)).alloc (.cells #[.nilFunc] 47)).heap[n5]? = some (.cells #[.map (some (w.heap.size + 1 + 1))] 147) := (b7.block n5 (by omega)).trans g6
 have hNS : NumSt w.heap.size A (((w5.alloc (.cells #[.map (some (w.heap.size + 1 + 1))] 147)).alloc (.cells #[.nilFunc] 47)).setCell ⟨n5 + 1, 0, none⟩ (.func (.func 84) #[] #[.pointer (some ⟨n5, 0, none⟩), .pointer (some ⟨w.heap.size, 0, none⟩), .pointer (some ⟨n5 + 1, 0, none⟩), .pointer (some ⟨w.heap.size + 1, 0, none⟩)])) s b O vars room ns n5 w.heap.size (n5 + 1) (w.heap.size + 1) (w.heap.size + 1 + 1) [] (.slice none 0 0) := by
  obtain ⟨Dm, m1, m2⟩ := hm5
  have hsz := hK7.size
  have hlt : n5 + 1 + 1 <= (((w5.alloc (.cells #[.map (some (w.heap.size + 1 + 1))] 147)).alloc (.cells #[.nilFunc] 47)).setCell ⟨n5 + 1, 0, none⟩ (.func (.func 84) #[] #[.pointer (some ⟨n5, 0, none⟩), .pointer (some ⟨w.heap.size, 0, none⟩), .pointer (some ⟨n5 + 1, 0, none⟩), .pointer (some ⟨w.heap.size + 1, 0, none⟩)])).heap.size := by
   have := (Kept.setCell (S := fun k => k = n5 + 1) ((w5.alloc (.cells #[.map (some (w.heap.size + 1 + 1))] 147)).alloc (.cells #[.nilFunc] 47)) ⟨n5 + 1, 0, none⟩ (.func (.func 84) #[] #[.pointer (some ⟨n5, 0, none⟩), .pointer (some ⟨w.heap.size, 0, none⟩), .pointer (some ⟨n5 + 1, 0, none⟩), .pointer (some ⟨w.heap.size + 1, 0, none⟩)]) rfl).size
   rw [z7] at this; exact this
  refine ⟨(hS.new hb5).kept hK7 (fun k ho e => by have e' : k = n5 + 1 := e; have := (hS.own k ho).2; omega) (fun e => by have e' : s = n5 + 1 := e; have := hS.slt; omega), fun k ho => (hS.own k ho).2, hS.slt, by omega, ?_, ?_, World.cell?_setCell_same _ _ _ c7, ?_, ⟨Dm, ownsMap_kept m1 hK7 (fun e => by have e' : w.heap.size + 1 + 1 = n5 + 1 := e; omega), m2⟩, World.ownsRow_nil _ _ _ _, ⟨by omega, by omega, by omega, by omega⟩, ⟨by omega, by omega, by omega, by omega, by omega⟩, ⟨by omega, by omega, by omega, by omega, by omega, by omega, by omega⟩, fun k hk => by simp [Value.ownBlock] at hk⟩
  ·rw [World.cell?_setCell_far _ _ _ _ (show n5 + 1 ≠ n5 by omega)]; simp [World.cell?, h6]
  ·have := (hK7.block w.heap.size (by omega) (fun e => by have e' : w.heap.size = n5 + 1 := e; omega)).trans f1
   simp [World.cell?, this]
  ·exact (hK7.block (w.heap.size + 1) (by omega) (fun e => by have e' : w.heap.size + 1 = n5 + 1 := e; omega)).trans f2
 have hBW : Below w.heap.size w (((w5.alloc (.cells #[.map (some (w.heap.size + 1 + 1))] 147)).alloc (.cells #[.nilFunc] 47)).setCell ⟨n5 + 1, 0, none⟩ (.func (.func 84) #[] #[.pointer (some ⟨n5, 0, none⟩), .pointer (some ⟨w.heap.size, 0, none⟩), .pointer (some ⟨n5 + 1, 0, none⟩), .pointer (some ⟨w.heap.size + 1, 0, none⟩)])) := hb5.trans (hK7.below (by omega) (fun k e => by have e' : k = n5 + 1 := e; omega))
 have HNS := Lib.hid hNS
 have HBW := Lib.hid hBW
 have HWK := Lib.hid (walk_any (B := w.heap.size) (A := A) (s := s) (b := b) (O := O) (vars := vars) (room := room) (nb := n5) (sb := w.heap.size) (fb := n5 + 1) (ob := w.heap.size + 1) (bm := w.heap.size + 1 + 1) hr hl 25 h [] (.slice none 0 0) _ hNS ⟨fun x hx => (by cases hx), List.nodup_nil, fun x hx => (by cases hx)⟩ hh (by have := (topOf_le hr h).1; omega))
 unfold LOut at HWK
 have hst : (store ⟨n5 + 1, 0, none⟩ (Value.func (Fn.func 84) #[] #[.pointer (some ⟨n5, 0, none⟩), .pointer (some ⟨w.heap.size, 0, none⟩), .pointer (some ⟨n5 + 1, 0, none⟩), .pointer (some ⟨w.heap.size + 1, 0, none⟩)])).run Tryz.prog ((w5.alloc (.cells #[.map (some (w.heap.size + 1 + 1))] 147)).alloc (.cells #[.nilFunc] 47)) = .ok () (((w5.alloc (.cells #[.map (some (w.heap.size + 1 + 1))] 147)).alloc (.cells #[.nilFunc] 47)).setCell ⟨n5 + 1, 0, none⟩ (.func (.func 84) #[] #[.pointer (some ⟨n5, 0, none⟩), .pointer (some ⟨w.heap.size, 0, none⟩), .pointer (some ⟨n5 + 1, 0, none⟩), .pointer (some ⟨w.heap.size + 1, 0, none⟩)])) := by
  rw [run_store _ _ _ _ _ (by rfl), c7, fr7]
  rfl
 have cf7 := hNS.cf
 clear hS hr hl hh hb5 hm5 hK7 hNS hBW f1 f2 e1 e2 b1 b2 b3 b6 b7 hk5 p1 p2 p3 q1 q2 q3 hm0 z2 z3 s5 h6 g6 z6 z7 c7 fr7 g7
 generalize postF ns 25 h [] = R at *
 generalize numD R h = xr at *
 subst hn5
 go_enter Tryz.func47, Tryz.ntmps47
 go_upto_region 5 with fail
 go_wp2_with fail
 have hEq : (((w5.alloc (.cells #[.map (some (w.heap.size + 1 + 1))] 147)).alloc (.cells #[.nilFunc] 47)).setCell ⟨w5.heap.size + 1, 0, none⟩ (.func (.func 84) #[] #[.pointer (some ⟨w5.heap.size, 0, none⟩), .pointer (some ⟨w.heap.size, 0, none⟩), .pointer (some ⟨w5.heap.size + 1, 0, none⟩), .pointer (some ⟨w.heap.size + 1, 0, none⟩)])) = (w5.alloc (.cells #[.map (some (w.heap.size + 1 + 1))] 147)).alloc (.cells #[.func (.func 84) #[] #[.pointer (some ⟨w5.heap.size, 0, none⟩), .pointer (some ⟨w.heap.size, 0, none⟩), .pointer (some ⟨w5.heap.size + 1, 0, none⟩), .pointer (some ⟨w.heap.size + 1, 0, none⟩)]] 47) := by go_simp
 rw [hEq] at HWK HBW
 refine HWK.out.mono ?_
 rintro e w9 ⟨v9, rfl, hS9, hF9⟩
 have c9 := hS9.c0
 have HFIN : Hid (w9.ownsRow w.heap.size 102 3 v9 R.length (entL ns R) /\ Below w.heap.size w w9) := ⟨hS9.row, HBW.out.trans (hF9.kept.below HBW.out.size (fun k e => by
  rcases e with e | e | e
  ·rw [e]; omega
  ·rw [e]; omega
  ·simp [Value.ownBlock] at e))⟩
 clear hS9 hF9 HWK HNS HBW hst cf7
 go_wp2
 go_ret2
 exact ⟨v9, rfl, HFIN.out⟩
end
end
section
open Go.RowKit Go.Maps
structure OpR (vars : Nat) (ns : List Nd) (r : List Nd × Int) (g : (Nat -> Bool) -> Bool) : Prop where
 good : Good vars r.1
 ext : Ext ns r.1
 has : hasB r.1 r.2 = true
 sem : ∀ f, sem r.1 r.2 f = g f
 len : r.1.length + 1 <= ns.length + 2 ^ vars
def askF (op : Bool) (ns : List Nd) (k : Nd) : List Nd × Int := ((makesF 24 op ns [] k).1, (makesF 24 op ns [] k).2.2)
def litF (ns : List Nd) (v : Int) (is : Bool) : List Nd × Int := if is = true then nodeF ns v 0 1 else nodeF ns v 1 0
def setJ (is : Bool) : Join := fun ns m l h => (ns, m, if is = true then h else l)
def orJ : Join := fun ns m l h => makesF 24 true ns m ⟨l, 1, h⟩
def andJ : Join := fun ns m l h => makesF 24 true ns m ⟨l, h, 0⟩
def withoutF (J : Join) (ns : List Nd) (h v : Int) : List Nd × Int := ((joinedF 24 J ns [] [] h v).1, (joinedF 24 J ns [] [] h v).2.2.2)
section
variable {vars : Nat} {ns : List Nd}
theorem memo_nil (op : Bool) (ns : List Nd) : MemoOk op ns [] := ⟨fun p h => (by cases h), fun p h => (by cases h), fun p h => (by cases h), fun p h => (by cases h)⟩
theorem has_end0 (ns : List Nd) : hasB ns 0 = true := by simp [hasB]
theorem has_end1 (ns : List Nd) : hasB ns 1 = true := by simp [hasB]
theorem top_end0 (ns : List Nd) : topOf ns 0 = 24 := by simp [topOf]
theorem top_end1 (ns : List Nd) : topOf ns 1 = 24 := by simp [topOf]
theorem rk_le (hr : Ranked ns) (k : Nd) : 2 ^ rk vars ns k <= 2 ^ vars := Nat.pow_le_pow_right (by omega) (by unfold rk; have := (minT_bd hr k).1; omega)
theorem ask_ok' (op : Bool) (hg : Good vars ns) {k : Nd} (h3 : Has3 ns k) (hl : ns.length + 2 ^ vars <= 900000) : OpR vars ns (askF op ns k) (fun f => opS op (sem ns k.v f) (sem ns k.l f) (sem ns k.h f)) := by
 have hp := rk_le (vars := vars) hg.ranked k
 have h := makes_ok (op := op) 24 ns [] k hg (memo_nil op ns) h3 (by have := (minT_bd hg.ranked k).1; omega) (by omega)
 exact ⟨h.good, h.ext, h.has, h.sem, by have := h.len; show (makesF 24 op ns [] k).1.length + 1 <= _; omega⟩
theorem lit_ok (hg : Good vars ns) {v : Int} (is : Bool) (hv0 : 0 <= v) (hv : v < (vars : Int)) (hv24 : v < 24) (hl : ns.length + 2 ^ vars <= 900000) : OpR vars ns (litF ns v is) (fun f => f v.toNat == is) := by
 have h1 : 1 <= vars := by omega
 have h2 : 2 <= 2 ^ vars := by
  obtain ⟨q, rfl⟩ : ∃ q, vars = q + 1 := ⟨vars - 1, by omega⟩
  have := Nat.one_le_two_pow (n := q); rw [Nat.pow_succ]; omega
 unfold litF
 cases is with
 | true =>
  rw [if_pos rfl]
  have h := nodeF_ok hg (v := v) (l := 0) (h := 1) (by omega) hv0 hv24 hv (has_end0 ns) (has_end1 ns) (by rw [top_end0]; exact hv24) (by rw [top_end1]; exact hv24)
  exact ⟨h.good, h.ext, h.has, fun f => by rw [h.sem f, sem_true, sem_false]; cases f v.toNat <;> rfl, by have := h.len; omega⟩
 | false =>
  rw [if_neg (by simp)]
  have h := nodeF_ok hg (v := v) (l := 1) (h := 0) (by omega) hv0 hv24 hv (has_end1 ns) (has_end0 ns) (by rw [top_end1]; exact hv24) (by rw [top_end0]; exact hv24)
  exact ⟨h.good, h.ext, h.has, fun f => by rw [h.sem f, sem_true, sem_false]; cases f v.toNat <;> rfl, by have := h.len; omega⟩
theorem setJ_ok (vars : Nat) (v : Int) (is : Bool) : JoinOk vars v (fun a b => if is = true then b else a) (fun _ _ => True) (setJ is) := by
 refine ⟨fun x => by split <;> rfl, fun _ _ _ _ _ _ => trivial, fun ns m l h hg _ hl hh tl th _ => ?_⟩
 have := Nat.one_le_two_pow (n := ((vars : Int) - v - 1).toNat)
 unfold setJ
 refine ⟨hg, Ext.refl _, trivial, ?_, ?_, fun f => ?_, by show ns.length + 1 <= _; omega, by show m.length + 1 <= _; omega⟩
 ·show hasB ns (if is = true then h else l) = true
  split <;> assumption
 ·show v < topOf ns (if is = true then h else l)
  split <;> assumption
 ·show sem ns (if is = true then h else l) f = _
  split <;> rfl
theorem makesJ_ok {v : Int} (hv0 : 0 <= v) {ns : List Nd} {m : List (Nd × Int)} {k : Nd} (hg : Good vars ns) (hm : MemoOk true ns m) (h3 : Has3 ns k) (ht : v < minT ns k) (hl : ns.length + 2 ^ ((vars : Int) - v - 1).toNat <= 900000) :
  MakesR vars true ns m k (makesF 24 true ns m k) /\ 2 ^ rk vars ns k <= 2 ^ ((vars : Int) - v - 1).toNat := by
 have hp : 2 ^ rk vars ns k <= 2 ^ ((vars : Int) - v - 1).toNat := Nat.pow_le_pow_right (by omega) (by unfold rk; omega)
 exact ⟨makes_ok 24 ns m k hg hm h3 (by omega) (by omega), hp⟩
theorem orJ_ok {v : Int} (hv0 : 0 <= v) (hv : v < 24) : JoinOk vars v (fun a b => a || b) (MemoOk true) orJ := by
 refine ⟨fun x => by cases x <;> rfl, fun ns ns' m hr h he => h.ext hr he, fun ns m l h hg hm hl hh tl th hlen => ?_⟩
 have h3 : Has3 ns ⟨l, 1, h⟩ := ⟨hl, has_end1 ns, hh⟩
 obtain ⟨r, hp⟩ := makesJ_ok hv0 hg hm h3 (by have := minT_ge (ns := ns) (k := ⟨l, 1, h⟩) (x := v + 1) tl (by show _ <= topOf ns 1; rw [top_end1]; omega) th; omega) hlen
 have ht : v < minT ns ⟨l, 1, h⟩ := by have := minT_ge (ns := ns) (k := ⟨l, 1, h⟩) (x := v + 1) tl (by show _ <= topOf ns 1; rw [top_end1]; omega) th; omega
 have := r.len
 have := r.mlen
 have := r.top
 refine ⟨r.good, r.ext, r.memo, r.has, by show v < topOf (makesF 24 true ns m ⟨l, 1, h⟩).1 (makesF 24 true ns m ⟨l, 1, h⟩).2.2; omega, fun f => ?_, by show (makesF 24 true ns m ⟨l, 1, h⟩).1.length + 1 <= _; omega, by show (makesF 24 true ns m ⟨l, 1, h⟩).2.1.length + 1 <= _; omega⟩
 show sem (makesF 24 true ns m ⟨l, 1, h⟩).1 (makesF 24 true ns m ⟨l, 1, h⟩).2.2 f = _
 rw [r.sem f]; simp only [opS, if_true, sem_true]; cases sem ns l f <;> simp
theorem andJ_ok {v : Int} (hv0 : 0 <= v) (hv : v < 24) : JoinOk vars v (fun a b => a && b) (MemoOk true) andJ := by
 refine ⟨fun x => by cases x <;> rfl, fun ns ns' m hr h he => h.ext hr he, fun ns m l h hg hm hl hh tl th hlen => ?_⟩
 have h3 : Has3 ns ⟨l, h, 0⟩ := ⟨hl, hh, has_end0 ns⟩
 have ht : v < minT ns ⟨l, h, 0⟩ := by have := minT_ge (ns := ns) (k := ⟨l, h, 0⟩) (x := v + 1) tl th (by show _ <= topOf ns 0; rw [top_end0]; omega); omega
 obtain ⟨r, hp⟩ := makesJ_ok hv0 hg hm h3 ht hlen
 have := r.len
 have := r.mlen
 have := r.top
 refine ⟨r.good, r.ext, r.memo, r.has, by show v < topOf (makesF 24 true ns m ⟨l, h, 0⟩).1 (makesF 24 true ns m ⟨l, h, 0⟩).2.2; omega, fun f => ?_, by show (makesF 24 true ns m ⟨l, h, 0⟩).1.length + 1 <= _; omega, by show (makesF 24 true ns m ⟨l, h, 0⟩).2.1.length + 1 <= _; omega⟩
 show sem (makesF 24 true ns m ⟨l, h, 0⟩).1 (makesF 24 true ns m ⟨l, h, 0⟩).2.2 f = _
 rw [r.sem f]; simp only [opS, if_true, sem_false]; cases sem ns l f <;> simp
theorem without_ok {v : Int} {jf : Bool -> Bool -> Bool} {P : List Nd -> List (Nd × Int) -> Prop} {J : Join} (hJ : JoinOk vars v jf P J) (hP : P ns []) (hg : Good vars ns) {h : Int} (hh : hasB ns h = true) (hv0 : 0 <= v) (hv : v < 24) (hl : ns.length + 2 ^ vars <= 900000) : OpR vars ns (withoutF J ns h v) (fun f => quant jf ns h v.toNat f) := by
 have t0 := (topOf_le hg.ranked h).1
 have hp : 2 ^ ((vars : Int) - topOf ns h).toNat <= 2 ^ vars := Nat.pow_le_pow_right (by omega) (by omega)
 have r := joined_ok hJ hv0 hv 24 ns [] [] h hg hP ⟨fun p h => (by cases h), fun p h => (by cases h), fun p h => (by cases h), fun p h => (by cases h)⟩ hh (by omega) (by omega)
 exact ⟨r.good, r.ext, r.has, r.sem, by have := r.len; show (joinedF 24 J ns [] [] h v).1.length + 1 <= _; omega⟩
end
end
end Go.Proofs.YtcjjekhecjmaeaaGreatDoor
