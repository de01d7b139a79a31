/- Sweep. -/
import Derived.Test.YtcjjekhecjmaeaaGreatDoorArReachM
set_option maxHeartbeats 4000000
set_option maxRecDepth 100000
namespace Go.Proofs.YtcjjekhecjmaeaaGreatDoor
section
open Go.RowKit Go.Maps
def strikeN (L : List (Nd × Int)) (n : Nd) : List (Nd × Int) := L.filter fun q => decide (q.1 ≠ n)
theorem step_delete {P : Program} {ops : Array Oper} {o : Oper} {a : Act} {w w' : World} {K : Act -> World -> Prop} {Q : Exit -> Act -> World -> Prop} {E : Prop}
  (hg : o.guard = none) (m x : Operand) (t k : TypeId) (hop : o.op = Op.call { callee := Callee.builtin Builtin.delete, args := #[m, x], argTypes := #[t, k] })
  {b : Nat} {key : Value} (hm : a.eval m = .map (some b)) (hx : a.eval x = key) (hrun : ∀ ty, (Builtin.delete_ #[t, k] ty #[.map (some b), key]).run P w = .ok (.tuple #[]) w')
  (hK : K (a.put o.dst (.tuple #[])) w') : if Region.wanted o (yielded ops a.tmps) = true then Oper.wp P o a w K Q else E := by
 have hw : Region.wanted o (yielded ops a.tmps) = true := by simp [Region.wanted, hg]
 rw [if_pos hw]
 unfold Oper.wp
 simp [execOp, hop, resolve, invoke, builtin, hm, hx, hrun, Result.andThen]
 exact hK
section
variable {B b bm : Nat} {v : Value} {ns : List Nd} {L : List (Nd × Int)} {room next : Int} {w : World}
theorem del_at {D : DataW Unit} (hD : w.ownsMap Tryz.prog 102 (plainElem Tryz.prog 3) bm L.length D) (hR : Rep Nd.Ok Nd.lit (fun x : Int => .lit (.int .i64 x)) D L) {p : Nd × Int} (hp : p ∈ L) :
  ∃ w' D', (∀ ty, (Builtin.delete_ #[124, 102] ty #[.map (some bm), .agg #[.int .i64 p.1.v, .int .i64 p.1.l, .int .i64 p.1.h]]).run Tryz.prog w = .ok (.tuple #[]) w') /\ w'.ownsMap Tryz.prog 102 (plainElem Tryz.prog 3) bm (L.filter fun q => decide (q.1 ≠ p.1)).length D' /\ Rep Nd.Ok Nd.lit (fun x : Int => .lit (.int .i64 x)) D' (L.filter fun q => decide (q.1 ≠ p.1)) /\ Kept (fun k => k = bm) w w' := by
 obtain ⟨w', hrun, h1, h2⟩ := hD.drop lawNode Tryz.underlying124 (keyNode p.1 (hR.oks p hp)) 0
 have hR' := hR.del (fun _ _ => litNode_inj) hp
 refine ⟨w', _, ?_, hR'.size ▸ ownsMap_norm h1, hR', Kept.of_grown h2.grown (fun i h => by cases h; rfl)⟩
 intro ty
 obtain ⟨w'', hrun2, h3, h4⟩ := hD.drop lawNode Tryz.underlying124 (keyNode p.1 (hR.oks p hp)) ty
 have e : w'' = w' := by
  have := hrun.symm.trans ((show (Builtin.delete_ #[124, 102] 0 #[.map (some bm), p.1.val]).run Tryz.prog w = (Builtin.delete_ #[124, 102] ty #[.map (some bm), p.1.val]).run Tryz.prog w from rfl).trans hrun2)
  injection this with _ e; exact e.symm
 rw [<- e]; exact hrun2
theorem drop_no (hA : ArenaAt B w b bm v ns L room next) (hl : ns.length <= 100000) (h : Int) (hi : I64 h) (ht : topOf ns h = 24) :
  Calls Tryz.prog 141 #[.pointer (some ⟨b, 0, none⟩), .int .i64 h] w fun e w' => e = .returned (.tuple #[]) /\ Below w.heap.size w w' := by
 have HG := Lib.hid (get_any hA h hi (by omega))
 have hgn : getOf ns h = ⟨0, 0, 0⟩ := by unfold getOf; rw [if_pos ht]
 rw [hgn, ht] at HG
 clear hA hgn ht
 have e1 : decide ((24 : Int) ≠ 24) = false := by decide
 rw [e1] at HG
 unfold Nd.val at HG
 go_enter Tryz.func141, Tryz.ntmps141
 go_wp2_with fail
 refine HG.out.mono ?_
 rintro e w1 ⟨rfl, hb1⟩
 go_wp2
 refine bodyPost_end (v := .tuple #[]) (by simp [results, Tryz.results141, go_sem]) rfl ?_
 exact ⟨rfl, hb1.trans ((below_new w1 (.cells #[.int .i64 0, .int .i64 0, .int .i64 0] 102)).mono hb1.size)⟩
theorem drop_yes (hA : ArenaAt B w b bm v ns L room next) (hl : ns.length <= 100000) (k : Nat) (hk : k < ns.length) (hv : (nd ns k).v ≠ 24) (hin : (nd ns k, 2 + (k : Int)) ∈ L) :
  Calls Tryz.prog 141 #[.pointer (some ⟨b, 0, none⟩), .int .i64 (2 + (k : Int))] w fun e w' => e = .returned (.tuple #[]) /\ ArenaAt B w' b bm v (ns.set k ⟨24, 0, 0⟩) (strikeN L (nd ns k)) room next /\ Kept (Own b bm v) w w' := by
 have ht : topOf ns (2 + (k : Int)) ≠ 24 := by rw [topOf_at hk]; exact hv
 have HG := Lib.hid (get_any hA (2 + (k : Int)) ⟨by omega, by omega⟩ (by omega))
 have hgn : getOf ns (2 + (k : Int)) = nd ns k := by unfold getOf; rw [if_neg ht, show (2 + (k : Int) - 2).toNat = k by omega]
 rw [hgn, decide_eq_true ht] at HG
 unfold Nd.val at HG
 obtain ⟨a, cap, rfl, hgg⟩ := hA.form
 obtain ⟨g, rfl, hBg, hgl⟩ := hgg (by omega)
 have HA := Lib.hid hA
 have HIN := Lib.hid hin
 obtain ⟨n, hne⟩ : ∃ n, n = nd ns k := ⟨_, rfl⟩
 rw [<- hne] at HG HIN ⊢
 have e2 : 2 + (k : Int) - 2 = (k : Int) := by omega
 have ib : (k : Int) < (ns.length : Int) := by omega
 clear ht hgn hA hin hv hne
 obtain ⟨nv, nl, nh⟩ := n
 simp only at HG
 go_enter Tryz.func141, Tryz.ntmps141
 go_wp2_with fail
 refine HG.out.mono ?_
 rintro e w1 ⟨rfl, hb1⟩
 clear HG
 have hs1 := hb1.size
 have hbN := below_new w1 (.cells #[.int .i64 nv, .int .i64 nl, .int .i64 nh] 102)
 obtain ⟨c0, c1, c2, -⟩ := cell3 w1 (.int .i64 nv) (.int .i64 nl) (.int .i64 nh) 102
 have hb2 := hb1.trans (hbN.mono hb1.size)
 have hA2 := HA.out.kept (Kept.of_below hb2 (fun _ => False)) (fun _ _ h => h)
 have hnotown : ∀ j, w.heap.size <= j -> ¬ Own b bm (.slice (some ⟨g, 0, none⟩) ns.length cap) j := by
  have hlt := HA.out.lt
  obtain ⟨D, hD, -⟩ := HA.out.hmap
  have hbm := hD.lt
  rintro j hj (h | h | h)
  ·omega
  ·omega
  ·have := (HA.out.row.lt _ h).2; omega
 have lN : w1.heap.size < (w1.alloc (.cells #[.int .i64 nv, .int .i64 nl, .int .i64 nh] 102)).heap.size := by simp
 go_wp2_with fail
 generalize w1.alloc (.cells #[.int .i64 nv, .int .i64 nl, .int .i64 nh] 102) = W2 at *
 have hA2d : ArenaAt B W2.drew b bm (.slice (some ⟨g, 0, none⟩) ns.length cap) ns L room next := hA2.kept (Kept.refl (fun _ => False) W2).drew (fun _ _ h => h)
 obtain ⟨D, hD, hR⟩ := hA2d.hmap
 obtain ⟨W3, D3, hrun, hD3, hR3, hK3⟩ := del_at hD hR HIN.out
 simp only at hrun
 have hA3 := hA2d.setMap hK3 hD3 hR3
 have cm : W2.drew.cell? ⟨b, 2, none⟩ = some (.map (some bm)) := hA2.cmap
 have c0d : W2.drew.cell? ⟨w1.heap.size, 0, none⟩ = some (.int .i64 nv) := c0
 have c1d : W2.drew.cell? ⟨w1.heap.size, 1, none⟩ = some (.int .i64 nl) := c1
 have c2d : W2.drew.cell? ⟨w1.heap.size, 2, none⟩ = some (.int .i64 nh) := c2
 have hxm : w1.heap.size ≠ bm := fun e => hnotown w1.heap.size hs1 (.inr (.inl e))
 have c03 := (hK3.cell (a := ⟨w1.heap.size, 0, none⟩) lN hxm).trans c0d
 have c13 := (hK3.cell (a := ⟨w1.heap.size, 1, none⟩) lN hxm).trans c1d
 have c23 := (hK3.cell (a := ⟨w1.heap.size, 2, none⟩) lN hxm).trans c2d
 have cm3 := hA3.cmap
 have HA3 := Lib.hid hA3
 have HK3 := Lib.hid (((Kept.of_below hb2 (Own b bm (.slice (some ⟨g, 0, none⟩) ns.length cap))).drew).andThen hK3 (fun j hj _ => .inr (.inl hj)))
 clear hA2 hA2d hD hR hD3 hR3 hK3 hA3 c0 c1 c2 hbN hb1 hb2
 go_region_held3 (fun w' => w'.cell? ⟨b, 2, none⟩ = some (.map (some bm)) /\ w'.cell? ⟨w1.heap.size, 0, none⟩ = some (.int .i64 nv) /\ w'.cell? ⟨w1.heap.size, 1, none⟩ = some (.int .i64 nl) /\ w'.cell? ⟨w1.heap.size, 2, none⟩ = some (.int .i64 nh)) (first | exact ⟨cm, c0d, c1d, c2d⟩ | exact ⟨cm3, c03, c13, c23⟩)
  (first | (refine step_delete rfl _ _ 124 102 rfl rfl rfl hrun ?_))
 have cn3 := HA3.out.cnodes
 obtain ⟨n1, n2, n3⟩ := ncells_at ns k hk
 have s0 := HA3.out.row.cellAt (k * 3) (by omega)
 have s1 := HA3.out.row.cellAt (k * 3 + 1) (by omega)
 have s2 := HA3.out.row.cellAt (k * 3 + 2) (by omega)
 rw [n1] at s0
 rw [n2] at s1
 rw [n3] at s2
 have t0 := HA3.out.row.frozenAt (k * 3)
 have t1 := HA3.out.row.frozenAt (k * 3 + 1)
 have t2 := HA3.out.row.frozenAt (k * 3 + 2)
 have s1' : (W3.setCell ⟨g, k * 3, none⟩ (.int .i64 24)).cell? ⟨g, k * 3 + 1, none⟩ = some (.int .i64 (nd ns k).l) := by
  rw [World.cell?_setCell_other _ _ _ _ (by simp)]; exact s1
 have s2' : ((W3.setCell ⟨g, k * 3, none⟩ (.int .i64 24)).setCell ⟨g, k * 3 + 1, none⟩ (.int .i64 0)).cell? ⟨g, k * 3 + 2, none⟩ = some (.int .i64 (nd ns k).h) := by
  rw [World.cell?_setCell_other _ _ _ _ (by simp), World.cell?_setCell_other _ _ _ _ (by simp)]; exact s2
 have t1' : (W3.setCell ⟨g, k * 3, none⟩ (.int .i64 24)).frozen? ⟨g, k * 3 + 1, none⟩ = false := by rw [World.frozen?_setCell]; exact t1
 have t2' : ((W3.setCell ⟨g, k * 3, none⟩ (.int .i64 24)).setCell ⟨g, k * 3 + 1, none⟩ (.int .i64 0)).frozen? ⟨g, k * 3 + 2, none⟩ = false := by rw [World.frozen?_setCell, World.frozen?_setCell]; exact t2
 have hA4 := HA3.out.setNode hk ⟨24, 0, 0⟩
 have hk4 : Kept (Own b bm (.slice (some ⟨g, 0, none⟩) ns.length cap)) W3 (((W3.setCell ⟨g, k * 3, none⟩ (.int .i64 24)).setCell ⟨g, k * 3 + 1, none⟩ (.int .i64 0)).setCell ⟨g, k * 3 + 2, none⟩ (.int .i64 0)) :=
  ((Kept.setCell (S := Own b bm (.slice (some ⟨g, 0, none⟩) ns.length cap)) W3 ⟨g, k * 3, none⟩ _ (.inr (.inr rfl))).trans (Kept.setCell _ ⟨g, k * 3 + 1, none⟩ _ (.inr (.inr rfl)))).trans (Kept.setCell _ ⟨g, k * 3 + 2, none⟩ _ (.inr (.inr rfl)))
 have ew : IntKind.i64.wrap (k : Int) = (k : Int) := IntWalk.i64_in _ ⟨by omega, by omega⟩
 have HA4 := Lib.hid hA4
 have HK4 := Lib.hid (HK3.out.trans hk4)
 clear hA4 hk4 n1 n2 n3 s1 s2 t1 t2 HA3 HK3
 go_wp2
 refine bodyPost_end (v := .tuple #[]) (by simp [results, Tryz.results141, go_sem]) rfl ?_
 exact ⟨rfl, HA4.out, HK4.out⟩
end
end
section
open Go.RowKit Go.Maps
structure Book (ns : List Nd) (L : List (Nd × Int)) : Prop where
 mem : ∀ p ∈ L, ∃ i : Nat, i < ns.length /\ (nd ns i).v < 24 /\ p = (nd ns i, 2 + (i : Int))
 all : ∀ i, i < ns.length -> (nd ns i).v < 24 -> (nd ns i, 2 + (i : Int)) ∈ L
 nodup : (L.map Prod.fst).Nodup
 free : ∀ i, i < ns.length -> ¬ (nd ns i).v < 24 -> nd ns i = ⟨24, 0, 0⟩
theorem nd_ext {a b : List Nd} (hl : a.length = b.length) (h : ∀ i, i < a.length -> nd a i = nd b i) : a = b := by
 apply List.ext_getElem hl
 intro i h1 h2
 have := h i h1
 rwa [nd_at a i h1, nd_at b i h2] at this
theorem nd_set (ns : List Nd) (k : Nat) (n : Nd) (i : Nat) (h : k < ns.length) : nd (ns.set k n) i = if i = k then n else nd ns i := by
 unfold nd
 simp only [List.getD_eq_getElem?_getD, List.getElem?_set]
 by_cases e : k = i
 ·subst e; simp [h]
 ·rw [if_neg e, if_neg (fun h => e h.symm)]
def sweptTo (ns : List Nd) (M : List Bool) (k : Nat) : List Nd := (List.range ns.length).map fun i => if i < k /\ mk M i = false then ⟨24, 0, 0⟩ else nd ns i
theorem sweptTo_length (ns : List Nd) (M : List Bool) (k : Nat) : (sweptTo ns M k).length = ns.length := by simp [sweptTo]
theorem sweptTo_at (ns : List Nd) (M : List Bool) (k i : Nat) (h : i < ns.length) : nd (sweptTo ns M k) i = if i < k /\ mk M i = false then ⟨24, 0, 0⟩ else nd ns i := by
 rw [nd_at _ i (by rw [sweptTo_length]; exact h)]; simp [sweptTo]
theorem sweptTo_zero (ns : List Nd) (M : List Bool) : sweptTo ns M 0 = ns :=
 nd_ext (sweptTo_length _ _ _) (fun i h => by rw [sweptTo_at ns M 0 i (by rwa [sweptTo_length] at h), if_neg (by omega)])
theorem sweptTo_end (ns : List Nd) (M : List Bool) : sweptTo ns M ns.length = swept ns M :=
 nd_ext (by rw [sweptTo_length, swept_length]) (fun i h => by
  rw [sweptTo_length] at h
  rw [sweptTo_at ns M _ i h, swept_at ns M i h]
  by_cases e : mk M i = true
  ·rw [if_pos e, if_neg (by simp [e])]
  ·rw [if_neg e, if_pos ⟨h, by simpa using e⟩])
theorem sweptTo_same {ns : List Nd} {M : List Bool} {k : Nat} (_hk : k < ns.length) (h : mk M k = true \/ nd ns k = ⟨24, 0, 0⟩) : sweptTo ns M (k + 1) = sweptTo ns M k :=
 nd_ext (by rw [sweptTo_length, sweptTo_length]) (fun i hi => by
  rw [sweptTo_length] at hi
  rw [sweptTo_at ns M _ i hi, sweptTo_at ns M _ i hi]
  by_cases e : i = k
  ·subst e
   rw [if_neg (show ¬ (i < i /\ mk M i = false) by omega)]
   rcases h with h | h
   ·rw [if_neg (by simp [h])]
   ·rw [h]; split <;> rfl
  ·by_cases e2 : i < k /\ mk M i = false
   ·rw [if_pos e2, if_pos ⟨by omega, e2.2⟩]
   ·rw [if_neg e2, if_neg (fun h => e2 ⟨by omega, h.2⟩)])
theorem sweptTo_set {ns : List Nd} {M : List Bool} {k : Nat} (hk : k < ns.length) (h : mk M k = false) : (sweptTo ns M k).set k ⟨24, 0, 0⟩ = sweptTo ns M (k + 1) :=
 nd_ext (by rw [List.length_set, sweptTo_length, sweptTo_length]) (fun i hi => by
  rw [List.length_set, sweptTo_length] at hi
  rw [nd_set _ _ _ _ (by rw [sweptTo_length]; exact hk), sweptTo_at ns M _ i hi, sweptTo_at ns M _ i hi]
  by_cases e : i = k
  ·subst e; rw [if_pos rfl, if_pos ⟨by omega, h⟩]
  ·rw [if_neg e]
   by_cases e2 : i < k /\ mk M i = false
   ·rw [if_pos e2, if_pos ⟨by omega, e2.2⟩]
   ·rw [if_neg e2, if_neg (fun h => e2 ⟨by omega, h.2⟩)])
def LTo (L : List (Nd × Int)) (M : List Bool) (k : Nat) : List (Nd × Int) := L.filter fun p => decide (k <= (p.2 - 2).toNat) || mk M (p.2 - 2).toNat
theorem LTo_zero (L : List (Nd × Int)) (M : List Bool) : LTo L M 0 = L := by
 unfold LTo; rw [List.filter_eq_self]; intro p _; simp
theorem LTo_same {ns : List Nd} {L : List (Nd × Int)} {M : List Bool} {k : Nat} (hB : Book ns L) (hk : k < ns.length) (h : mk M k = true \/ ¬ (nd ns k).v < 24) : LTo L M (k + 1) = LTo L M k := by
 unfold LTo
 apply List.filter_congr
 intro p hp
 obtain ⟨i, hi, hv, rfl⟩ := hB.mem p hp
 have e : (2 + (i : Int) - 2).toNat = i := by omega
 simp only [e]
 by_cases e2 : i = k
 ·subst e2
  rcases h with h | h
  ·simp [h]
  ·exact absurd hv h
 ·congr 1
  exact decide_eq_decide.2 (by omega)
theorem LTo_strike {ns : List Nd} {L : List (Nd × Int)} {M : List Bool} {k : Nat} (hB : Book ns L) (hk : k < ns.length) (h : mk M k = false) (hv : (nd ns k).v < 24) : strikeN (LTo L M k) (nd ns k) = LTo L M (k + 1) := by
 unfold strikeN LTo
 rw [List.filter_filter]
 apply List.filter_congr
 intro p hp
 have hin := hB.all k hk hv
 obtain ⟨i, hi, hvi, rfl⟩ := hB.mem p hp
 have e : (2 + (i : Int) - 2).toNat = i := by omega
 simp only [e]
 by_cases e2 : i = k
 ·subst e2
  simp [h]
 ·have hne : nd ns i ≠ nd ns k := by
   intro he
   obtain ⟨x, hx, hxe⟩ := List.getElem_of_mem hp
   obtain ⟨y, hy, hye⟩ := List.getElem_of_mem hin
   have := (List.getElem_inj (h₀ := by simpa using hx) (h₁ := by simpa using hy) hB.nodup).1 (by simp [hxe, hye, he])
   subst this
   rw [hxe] at hye
   have := congrArg Prod.snd hye
   simp at this; omega
  rw [decide_eq_true hne, Bool.true_and]
  congr 1
  exact decide_eq_decide.2 (by omega)
theorem LTo_mem {ns : List Nd} {L : List (Nd × Int)} {M : List Bool} {k : Nat} (hB : Book ns L) (hk : k < ns.length) (hv : (nd ns k).v < 24) : (nd ns k, 2 + (k : Int)) ∈ LTo L M k := by
 unfold LTo
 rw [List.mem_filter]
 exact ⟨hB.all k hk hv, by simp; omega⟩
theorem intsKept {w w' : World} {bf : Nat} {fs : List Int} (h : IntsAt w bf fs) (hb : Below w.heap.size w w') : IntsAt w' bf fs := h.kept (Kept.of_below hb (fun _ => False)) (fun h => h)
section
variable {B b bm : Nat} {v : Value} {ns : List Nd} {L : List (Nd × Int)} {room next : Int} {w : World}
theorem sweep_any (hr : Ranked ns) (hbk : Book ns L) (hl : ns.length <= 100000) (hA : ArenaAt B w b bm v ns L room next) (bf : Nat) {cp : Nat} (fs : List Int) (hF : IntsAt w bf fs) (hfl : fs.length <= 1000) (hB : B <= w.heap.size) (hLl : L.length <= 100000) :
  Calls Tryz.prog 107 #[.pointer (some ⟨b, 0, none⟩), .slice (some ⟨bf, 0, none⟩) fs.length cp] w fun e w' => e = .returned (.int .i64 ((L.length : Int) - ((LTo L (marksOf ns fs) ns.length).length : Int))) /\ ArenaAt B w' b bm v (swept ns (marksOf ns fs)) (LTo L (marksOf ns fs) ns.length) room 2 /\ Kept (Own b bm v) w w' := by
 have HC := Lib.hid (reached_any (cp := cp) hr hl hA bf fs hF hfl hB)
 have hML := marksOf_length ns fs
 generalize marksOf ns fs = M at *
 have HML := Lib.hid hML
 have hg : ¬ Own b bm v w.heap.size := by
  obtain ⟨D, hD, -⟩ := hA.hmap
  have hbm := hD.lt
  have hlt := hA.lt
  rintro (h | h | h)
  ·omega
  ·omega
  ·have := (hA.row.lt _ h).2; omega
 have HLEN := Lib.hid (len_any hA)
 have HA := Lib.hid hA
 have HG := Lib.hid hg
 have HBK := Lib.hid hbk
 have HR := Lib.hid hr
 clear hA hF hr hML hg hbk
 go_enter Tryz.func107, Tryz.ntmps107
 go_wp2_with fail
 refine HLEN.out.mono ?_
 rintro e w0 ⟨rfl, rfl⟩
 clear HLEN
 go_wp2_with fail
 refine HC.out.mono ?_
 rintro e w1 ⟨rfl, hm1, hb1⟩
 clear HC
 have hA1 := HA.out.kept (Kept.of_below hb1 (fun _ => False)) (fun _ _ h => h)
 have hK1 := Kept.of_below hb1 (Own b bm v)
 go_wp2_with fail
 go_loopw [6, 7, 14] (fun _ _ i wr => ∃ k : Nat, k <= ns.length /\ i = .int .i64 (k : Int) /\ ArenaAt B wr b bm v (sweptTo ns M k) (LTo L M k) room next /\ wr.ownsRow B 4 1 (.slice (some ⟨w.heap.size, 0, none⟩) ns.length ns.length) ns.length (mcells M) /\ Kept (Own b bm v) w wr)
  (fun _ _ i _ => ns.length - (intOf i).toNat)
 case atStart => exact ⟨0, Nat.zero_le _, rfl, by rw [sweptTo_zero, LTo_zero]; exact hA1, hm1, hK1⟩
 case round =>
  obtain ⟨k, hk, rfl, hAr, hmr, hKr⟩ := hrel
  clear hA1 hK1 hm1 hb1
  by_cases hlt : k < ns.length
  ·have cm := hmr.cellAt k (by omega)
   rw [mcells_at M k (by rw [HML.out]; exact hlt)] at cm
   have ib : (k : Int) < (ns.length : Int) := by omega
   by_cases hm : mk M k = true
   ·rw [hm] at cm
    have E1 := Lib.hid (sweptTo_same hlt (.inl hm))
    have E2 := Lib.hid (LTo_same HBK.out hlt (.inl hm))
    have HAr := Lib.hid hAr
    have HKr := Lib.hid hKr
    have HM := Lib.hid hmr
    clear hm hAr hKr hmr
    go_wp2
    go_roundw
    case rel => exact ⟨k + 1, by omega, by go_num, by rw [E1.out, E2.out]; exact HAr.out, HM.out, HKr.out⟩
    case measure => simp [intOf]; omega
   ·have hm' : mk M k = false := by simpa using hm
    rw [hm'] at cm
    have hnk : nd (sweptTo ns M k) k = nd ns k := by rw [sweptTo_at ns M k k hlt, if_neg (by omega)]
    have HAr := Lib.hid hAr
    have HKr := Lib.hid hKr
    have HM := Lib.hid hmr
    clear hAr hKr hmr
    by_cases hv : (nd ns k).v < 24
    ·have HD := Lib.hid (drop_yes HAr.out (by rw [sweptTo_length]; exact hl) k (by rw [sweptTo_length]; exact hlt) (by rw [hnk]; omega) (by rw [hnk]; exact LTo_mem HBK.out hlt hv))
     rw [hnk, sweptTo_set hlt hm', LTo_strike HBK.out hlt hm' hv] at HD
     clear hm hm' hnk hv
     go_wp2_with fail
     refine HD.out.mono ?_
     rintro e w2 ⟨rfl, hA2, hK2⟩
     have hm2 := ownsRow_kept HM.out hK2 (fun j hj h2 => by have hj2 : w.heap.size = j := Option.some.inj hj; exact HG.out (hj2 ▸ h2))
     have hKK := HKr.out.trans hK2
     clear HD hK2 HAr
     go_wp2
     go_roundw
     case rel => exact ⟨k + 1, by omega, by go_num, hA2, hm2, hKK⟩
     case measure => simp [intOf]; omega
    ·have E1 := Lib.hid (sweptTo_same (M := M) hlt (.inr (HBK.out.free k hlt hv)))
     have E2 := Lib.hid (LTo_same (M := M) HBK.out hlt (.inr hv))
     have HD := Lib.hid (drop_no HAr.out (by rw [sweptTo_length]; exact hl) (2 + (k : Int)) ⟨by omega, by omega⟩ (by rw [topOf_at (by rw [sweptTo_length]; exact hlt), hnk, HBK.out.free k hlt hv]))
     clear hm hm' hnk hv
     go_wp2_with fail
     refine HD.out.mono ?_
     rintro e w2 ⟨rfl, hb2⟩
     have hm2 := ownsRow_new HM.out hb2
     have hKK := HKr.out.trans (Kept.of_below hb2 _)
     have hA2 := HAr.out.kept (Kept.of_below hb2 (fun _ => False)) (fun _ _ h => h)
     clear HD hb2 HAr
     go_wp2
     go_roundw
     case rel => exact ⟨k + 1, by omega, by go_num, by rw [E1.out, E2.out]; exact hA2, hm2, hKK⟩
     case measure => simp [intOf]; omega
  ·obtain rfl : k = ns.length := by omega
   rw [sweptTo_end] at hAr
   have hA2 := hAr.setNext 2
   have HLEN := Lib.hid (len_any hA2)
   have cnx := hAr.cnext
   have fnx := hAr.froz 3
   have HA2 := Lib.hid hA2
   have hKK := hKr.trans (Kept.setCell (S := Own b bm v) wr ⟨b, 3, none⟩ (.int .i64 2) (.inl rfl))
   have hle : (LTo L M ns.length).length <= L.length := List.length_filter_le _ _
   have HK2 := Lib.hid hKK
   obtain ⟨q, hq⟩ : ∃ q, q = (LTo L M ns.length).length := ⟨_, rfl⟩
   rw [<- hq] at HLEN hle
   have HQ := Lib.hid hq
   clear hq
   clear hAr hA2 hKr hKK hmr
   go_wp2_with fail
   refine HLEN.out.mono ?_
   rintro e w3 ⟨rfl, rfl⟩
   go_wp2
   go_ret
   exact ⟨by rw [<- HQ.out]; rfl, HA2.out, HK2.out⟩
end
end
end Go.Proofs.YtcjjekhecjmaeaaGreatDoor
