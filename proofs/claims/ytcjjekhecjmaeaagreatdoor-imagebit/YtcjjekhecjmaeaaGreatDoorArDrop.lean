/- drop. -/
import Derived.Test.YtcjjekhecjmaeaaGreatDoorArReached
set_option maxHeartbeats 4000000
set_option maxRecDepth 100000
namespace Go.Proofs.YtcjjekhecjmaeaaGreatDoor
section
open Go.RowKit Go.Maps
def icells (l : List Int) : List Value := l.map (Value.int .i64)
theorem icells_at (l : List Int) (i : Nat) (h : i < l.length) : (icells l)[i]? = some (.int .i64 l[i]) := by simp [icells, h]
theorem infoInt : (Tryz.prog.info? 3).map (fun i => (i.zero, i.size, i.bytes)) = some (some (.int .i64 0), 1, 8) := by kernel_rfl
end
section
open Go.RowKit Go.Maps
def strikeN (L : List (Nd × Int)) (n : Nd) : List (Nd × Int) := L.filter fun q => decide (q.1 ≠ n)
theorem step_delete {P : Program} {ops : Array Oper} {o : Oper} {a : Act} {w w' : World} {K : Act -> World -> Prop} {Q : Exit -> Act -> World -> Prop} {E : Prop}
  (hg : o.guard = none) (m x : Operand) (t k : TypeId) (hop : o.op = Op.call { callee := Callee.builtin Builtin.delete, args := #[m, x], argTypes := #[t, k] })
  {b : Nat} {key : Value} (hm : a.eval m = .map (some b)) (hx : a.eval x = key) (hrun : ∀ ty, (Builtin.delete_ #[t, k] ty #[.map (some b), key]).run P w = .ok (.tuple #[]) w')
  (hK : K (a.put o.dst (.tuple #[])) w') : if Region.wanted o (yielded ops a.tmps) = true then Oper.wp P o a w K Q else E := by
 have hw : Region.wanted o (yielded ops a.tmps) = true := by simp [Region.wanted, hg]
 rw [if_pos hw]
 unfold Oper.wp
 simp [execOp, hop, resolve, invoke, builtin, hm, hx, hrun, Result.andThen]
 exact hK
section
variable {B b bm : Nat} {v : Value} {ns : List Nd} {L : List (Nd × Int)} {room next : Int} {w : World}
theorem del_at {D : DataW Unit} (hD : w.ownsMap Tryz.prog 102 (plainElem Tryz.prog 3) bm L.length D) (hR : Rep Nd.Ok Nd.lit (fun x : Int => .lit (.int .i64 x)) D L) {p : Nd × Int} (hp : p ∈ L) :
  ∃ w' D', (∀ ty, (Builtin.delete_ #[124, 102] ty #[.map (some bm), .agg #[.int .i64 p.1.v, .int .i64 p.1.l, .int .i64 p.1.h]]).run Tryz.prog w = .ok (.tuple #[]) w') /\ w'.ownsMap Tryz.prog 102 (plainElem Tryz.prog 3) bm (L.filter fun q => decide (q.1 ≠ p.1)).length D' /\ Rep Nd.Ok Nd.lit (fun x : Int => .lit (.int .i64 x)) D' (L.filter fun q => decide (q.1 ≠ p.1)) /\ Kept (fun k => k = bm) w w' := by
 obtain ⟨w', hrun, h1, h2⟩ := hD.drop lawNode Tryz.underlying124 (keyNode p.1 (hR.oks p hp)) 0
 have hR' := hR.del (fun _ _ => litNode_inj) hp
 refine ⟨w', _, ?_, hR'.size ▸ ownsMap_norm h1, hR', Kept.of_grown h2.grown (fun i h => by cases h; rfl)⟩
 intro ty
 obtain ⟨w'', hrun2, h3, h4⟩ := hD.drop lawNode Tryz.underlying124 (keyNode p.1 (hR.oks p hp)) ty
 have e : w'' = w' := by
  have := hrun.symm.trans ((show (Builtin.delete_ #[124, 102] 0 #[.map (some bm), p.1.val]).run Tryz.prog w = (Builtin.delete_ #[124, 102] ty #[.map (some bm), p.1.val]).run Tryz.prog w from rfl).trans hrun2)
  injection this with _ e; exact e.symm
 rw [<- e]; exact hrun2
theorem drop_no (hA : ArenaAt B w b bm v ns L room next) (hl : ns.length <= 100000) (h : Int) (hi : I64 h) (ht : topOf ns h = 24) :
  Calls Tryz.prog 141 #[.pointer (some ⟨b, 0, none⟩), .int .i64 h] w fun e w' => e = .returned (.tuple #[]) /\ Below w.heap.size w w' := by
 have HG := Lib.hid (get_any hA h hi (by omega))
 have hgn : getOf ns h = ⟨0, 0, 0⟩ := by unfold getOf; rw [if_pos ht]
 rw [hgn, ht] at HG
 clear hA hgn ht
 have e1 : decide ((24 : Int) ≠ 24) = false := by decide
 rw [e1] at HG
 unfold Nd.val at HG
 go_enter Tryz.func141, Tryz.ntmps141
 go_wp2_with fail
 refine HG.out.mono ?_
 rintro e w1 ⟨rfl, hb1⟩
 go_wp2
 refine bodyPost_end (v := .tuple #[]) (by simp [results, Tryz.results141, go_sem]) rfl ?_
 exact ⟨rfl, hb1.trans ((below_new w1 (.cells #[.int .i64 0, .int .i64 0, .int .i64 0] 102)).mono hb1.size)⟩
theorem drop_yes (hA : ArenaAt B w b bm v ns L room next) (hl : ns.length <= 100000) (k : Nat) (hk : k < ns.length) (hv : (nd ns k).v ≠ 24) (hin : (nd ns k, 2 + (k : Int)) ∈ L) :
  Calls Tryz.prog 141 #[.pointer (some ⟨b, 0, none⟩), .int .i64 (2 + (k : Int))] w fun e w' => e = .returned (.tuple #[]) /\ ArenaAt B w' b bm v (ns.set k ⟨24, 0, 0⟩) (strikeN L (nd ns k)) room next /\ Kept (Own b bm v) w w' := by
 have ht : topOf ns (2 + (k : Int)) ≠ 24 := by rw [topOf_at hk]; exact hv
 have HG := Lib.hid (get_any hA (2 + (k : Int)) ⟨by omega, by omega⟩ (by omega))
 have hgn : getOf ns (2 + (k : Int)) = nd ns k := by unfold getOf; rw [if_neg ht, show (2 + (k : Int) - 2).toNat = k by omega]
 rw [hgn, decide_eq_true ht] at HG
 unfold Nd.val at HG
 obtain ⟨a, cap, rfl, hgg⟩ := hA.form
 obtain ⟨g, rfl, hBg, hgl⟩ := hgg (by omega)
 have HA := Lib.hid hA
 have HIN := Lib.hid hin
 obtain ⟨n, hne⟩ : ∃ n, n = nd ns k := ⟨_, rfl⟩
 rw [<- hne] at HG HIN ⊢
 have e2 : 2 + (k : Int) - 2 = (k : Int) := by omega
 have ib : (k : Int) < (ns.length : Int) := by omega
 clear ht hgn hA hin hv hne
 obtain ⟨nv, nl, nh⟩ := n
 simp only at HG
 go_enter Tryz.func141, Tryz.ntmps141
 go_wp2_with fail
 refine HG.out.mono ?_
 rintro e w1 ⟨rfl, hb1⟩
 clear HG
 have hs1 := hb1.size
 have hbN := below_new w1 (.cells #[.int .i64 nv, .int .i64 nl, .int .i64 nh] 102)
 obtain ⟨c0, c1, c2, -⟩ := cell3 w1 (.int .i64 nv) (.int .i64 nl) (.int .i64 nh) 102
 have hb2 := hb1.trans (hbN.mono hb1.size)
 have hA2 := HA.out.kept (Kept.of_below hb2 (fun _ => False)) (fun _ _ h => h)
 have hnotown : ∀ j, w.heap.size <= j -> ¬ Own b bm (.slice (some ⟨g, 0, none⟩) ns.length cap) j := by
  have hlt := HA.out.lt
  obtain ⟨D, hD, -⟩ := HA.out.hmap
  have hbm := hD.lt
  rintro j hj (h | h | h)
  ·omega
  ·omega
  ·have := (HA.out.row.lt _ h).2; omega
 have lN : w1.heap.size < (w1.alloc (.cells #[.int .i64 nv, .int .i64 nl, .int .i64 nh] 102)).heap.size := by simp
 go_wp2_with fail
 generalize w1.alloc (.cells #[.int .i64 nv, .int .i64 nl, .int .i64 nh] 102) = W2 at *
 have hA2d : ArenaAt B W2.drew b bm (.slice (some ⟨g, 0, none⟩) ns.length cap) ns L room next := hA2.kept (Kept.refl (fun _ => False) W2).drew (fun _ _ h => h)
 obtain ⟨D, hD, hR⟩ := hA2d.hmap
 obtain ⟨W3, D3, hrun, hD3, hR3, hK3⟩ := del_at hD hR HIN.out
 simp only at hrun
 have hA3 := hA2d.setMap hK3 hD3 hR3
 have cm : W2.drew.cell? ⟨b, 2, none⟩ = some (.map (some bm)) := hA2.cmap
 have c0d : W2.drew.cell? ⟨w1.heap.size, 0, none⟩ = some (.int .i64 nv) := c0
 have c1d : W2.drew.cell? ⟨w1.heap.size, 1, none⟩ = some (.int .i64 nl) := c1
 have c2d : W2.drew.cell? ⟨w1.heap.size, 2, none⟩ = some (.int .i64 nh) := c2
 have hxm : w1.heap.size ≠ bm := fun e => hnotown w1.heap.size hs1 (.inr (.inl e))
 have c03 := (hK3.cell (a := ⟨w1.heap.size, 0, none⟩) lN hxm).trans c0d
 have c13 := (hK3.cell (a := ⟨w1.heap.size, 1, none⟩) lN hxm).trans c1d
 have c23 := (hK3.cell (a := ⟨w1.heap.size, 2, none⟩) lN hxm).trans c2d
 have cm3 := hA3.cmap
 have HA3 := Lib.hid hA3
 have HK3 := Lib.hid (((Kept.of_below hb2 (Own b bm (.slice (some ⟨g, 0, none⟩) ns.length cap))).drew).andThen hK3 (fun j hj _ => .inr (.inl hj)))
 clear hA2 hA2d hD hR hD3 hR3 hK3 hA3 c0 c1 c2 hbN hb1 hb2
 go_region_held3 (fun w' => w'.cell? ⟨b, 2, none⟩ = some (.map (some bm)) /\ w'.cell? ⟨w1.heap.size, 0, none⟩ = some (.int .i64 nv) /\ w'.cell? ⟨w1.heap.size, 1, none⟩ = some (.int .i64 nl) /\ w'.cell? ⟨w1.heap.size, 2, none⟩ = some (.int .i64 nh)) (first | exact ⟨cm, c0d, c1d, c2d⟩ | exact ⟨cm3, c03, c13, c23⟩)
  (first | (refine step_delete rfl _ _ 124 102 rfl rfl rfl hrun ?_))
 have cn3 := HA3.out.cnodes
 obtain ⟨n1, n2, n3⟩ := ncells_at ns k hk
 have s0 := HA3.out.row.cellAt (k * 3) (by omega)
 have s1 := HA3.out.row.cellAt (k * 3 + 1) (by omega)
 have s2 := HA3.out.row.cellAt (k * 3 + 2) (by omega)
 rw [n1] at s0
 rw [n2] at s1
 rw [n3] at s2
 have t0 := HA3.out.row.frozenAt (k * 3)
 have t1 := HA3.out.row.frozenAt (k * 3 + 1)
 have t2 := HA3.out.row.frozenAt (k * 3 + 2)
 have s1' : (W3.setCell ⟨g, k * 3, none⟩ (.int .i64 24)).cell? ⟨g, k * 3 + 1, none⟩ = some (.int .i64 (nd ns k).l) := by
  rw [World.cell?_setCell_other _ _ _ _ (by simp)]; exact s1
 have s2' : ((W3.setCell ⟨g, k * 3, none⟩ (.int .i64 24)).setCell ⟨g, k * 3 + 1, none⟩ (.int .i64 0)).cell? ⟨g, k * 3 + 2, none⟩ = some (.int .i64 (nd ns k).h) := by
  rw [World.cell?_setCell_other _ _ _ _ (by simp), World.cell?_setCell_other _ _ _ _ (by simp)]; exact s2
 have t1' : (W3.setCell ⟨g, k * 3, none⟩ (.int .i64 24)).frozen? ⟨g, k * 3 + 1, none⟩ = false := by rw [World.frozen?_setCell]; exact t1
 have t2' : ((W3.setCell ⟨g, k * 3, none⟩ (.int .i64 24)).setCell ⟨g, k * 3 + 1, none⟩ (.int .i64 0)).frozen? ⟨g, k * 3 + 2, none⟩ = false := by rw [World.frozen?_setCell, World.frozen?_setCell]; exact t2
 have hA4 := HA3.out.setNode hk ⟨24, 0, 0⟩
 have hk4 : Kept (Own b bm (.slice (some ⟨g, 0, none⟩) ns.length cap)) W3 (((W3.setCell ⟨g, k * 3, none⟩ (.int .i64 24)).setCell ⟨g, k * 3 + 1, none⟩ (.int .i64 0)).setCell ⟨g, k * 3 + 2, none⟩ (.int .i64 0)) :=
  ((Kept.setCell (S := Own b bm (.slice (some ⟨g, 0, none⟩) ns.length cap)) W3 ⟨g, k * 3, none⟩ _ (.inr (.inr rfl))).trans (Kept.setCell _ ⟨g, k * 3 + 1, none⟩ _ (.inr (.inr rfl)))).trans (Kept.setCell _ ⟨g, k * 3 + 2, none⟩ _ (.inr (.inr rfl)))
 have ew : IntKind.i64.wrap (k : Int) = (k : Int) := IntWalk.i64_in _ ⟨by omega, by omega⟩
 have HA4 := Lib.hid hA4
 have HK4 := Lib.hid (HK3.out.trans hk4)
 clear hA4 hk4 n1 n2 n3 s1 s2 t1 t2 HA3 HK3
 go_wp2
 refine bodyPost_end (v := .tuple #[]) (by simp [results, Tryz.results141, go_sem]) rfl ?_
 exact ⟨rfl, HA4.out, HK4.out⟩
end
end
end Go.Proofs.YtcjjekhecjmaeaaGreatDoor
