/- Make: what it refuses, and what is there already. -/
import Derived.Test.YtcjjekhecjmaeaaGreatDoorImCutP
import Derived.Maps.AppendAt
set_option maxHeartbeats 2000000
set_option maxRecDepth 100000
namespace Go.Proofs.YtcjjekhecjmaeaaGreatDoor
section
open Go.RowKit Go.Maps
section
variable {B b bm : Nat} {w : World} {v : Value} {ns : List Nd} {L : List (Nd × Int)} {room next : Int}
theorem ArenaAt.setNext (h : ArenaAt B w b bm v ns L room next) (n : Int) : ArenaAt B (w.setCell ⟨b, 3, none⟩ (.int .i64 n)) b bm v ns L room n := by
 obtain ⟨D, hD, hR⟩ := h.hmap
 have hk : Kept (fun k => k = b) w (w.setCell ⟨b, 3, none⟩ (.int .i64 n)) := Kept.setCell _ _ _ rfl
 refine ⟨by simpa [World.setCell] using h.lt, ?_, ?_, ?_, ?_, fun i => by rw [World.frozen?_setCell]; exact h.froz i, ownsRow_kept h.row hk (fun k hv e => h.d1 (e ▸ hv)), ⟨D, ownsMap_kept hD hk h.d2, hR⟩, h.d1, h.d2, h.d3, h.B1, h.B2⟩
 ·rw [World.cell?_setCell_other _ _ _ _ (by simp)]; exact h.croom
 ·rw [World.cell?_setCell_other _ _ _ _ (by simp)]; exact h.cnodes
 ·rw [World.cell?_setCell_other _ _ _ _ (by simp)]; exact h.cmap
 ·exact World.cell?_setCell_same' _ _ _ (by simp [h.cnext])
theorem ArenaAt.setNodes {w' : World} {v' : Value} {ns' : List Nd} (h : ArenaAt B w b bm v ns L room next) (hk : Kept (fun k => v.ownBlock = some k) w w') (hr : w'.ownsRow B 102 3 v' ns'.length (ncells ns')) (hv : v'.ownBlock = v.ownBlock \/ ∃ g, v'.ownBlock = some g /\ w.heap.size <= g) : ArenaAt B (w'.setCell ⟨b, 1, none⟩ v') b bm v' ns' L room next := by
 obtain ⟨D, hD, hR⟩ := h.hmap
 have hk2 : Kept (fun k => k = b) w' (w'.setCell ⟨b, 1, none⟩ v') := Kept.setCell _ _ _ rfl
 have hlt' : b < w'.heap.size := Nat.lt_of_lt_of_le h.lt hk.size
 have hbm := hD.lt
 have d1 : v'.ownBlock ≠ some b := by
  rcases hv with hv | ⟨g, hg, hgl⟩
  ·rw [hv]; exact h.d1
  ·rw [hg]; intro e; cases e; have := h.lt; omega
 have d3 : v'.ownBlock ≠ some bm := by
  rcases hv with hv | ⟨g, hg, hgl⟩
  ·rw [hv]; exact h.d3
  ·rw [hg]; intro e; cases e; omega
 have e : ∀ i, w'.cell? ⟨b, i, none⟩ = w.cell? ⟨b, i, none⟩ := fun i => hk.cell (a := ⟨b, i, none⟩) h.lt h.d1
 refine ⟨by simpa [World.setCell] using hlt', ?_, ?_, ?_, ?_, fun i => by rw [World.frozen?_setCell]; exact (hk.frozen (a := ⟨b, i, none⟩) h.lt h.d1).trans (h.froz i), ownsRow_kept hr hk2 (fun k hv e => d1 (e ▸ hv)), ⟨D, ownsMap_kept (ownsMap_kept hD hk h.d3) hk2 h.d2, hR⟩, d1, h.d2, d3, h.B1, h.B2⟩
 ·rw [World.cell?_setCell_other _ _ _ _ (by simp), e]; exact h.croom
 ·exact World.cell?_setCell_same' _ _ _ (by rw [e]; simp [h.cnodes])
 ·rw [World.cell?_setCell_other _ _ _ _ (by simp), e]; exact h.cmap
 ·rw [World.cell?_setCell_other _ _ _ _ (by simp), e]; exact h.cnext
theorem infoNode : (Tryz.prog.info? 102).map (fun i => (i.zero, i.size, i.bytes)) = some (some (.agg #[.int .i64 0, .int .i64 0, .int .i64 0]), 3, 24) := by kernel_rfl
theorem topOf_at {i : Nat} (h : i < ns.length) : topOf ns (2 + (i : Int)) = (nd ns i).v := by
 unfold topOf; rw [if_pos (by omega), show (2 + (i : Int) - 2).toNat = i by omega]
theorem topOf_end : topOf ns (2 + (ns.length : Int)) = 24 := by
 unfold topOf; rw [if_neg (by omega)]
theorem cell_three_new (w : World) (x y z : Value) (t : TypeId) : ∀ j u, [x, y, z][j]? = some u -> (w.alloc (.cells #[x, y, z] t)).cell? ((⟨w.heap.size, 0, none⟩ : Addr).add j) = some u := by
 intro j u h
 match j, h with
 | 0, h => simp at h; subst h; simp [Addr.add]
 | 1, h => simp at h; subst h; simp [Addr.add]
 | 2, h => simp at h; subst h; simp [Addr.add]
 | j + 3, h => simp at h
def nextOf (w : World) (b : Nat) : Int := match w.cell? ⟨b, 3, none⟩ with | some (.int _ n) => n | _ => 0
theorem kept_drewN (S : Nat -> Prop) (w : World) (n : Nat) : Kept S w (w.drewN n) := ⟨rfl, rfl, rfl, Nat.le_refl _, fun _ _ _ => rfl⟩
def FreeOut (B : Nat) (w : World) (b bm : Nat) (v : Value) (ns : List Nd) (L : List (Nd × Int)) (room : Int) (i : Nat) (e : Ending) (w' : World) : Prop := ∃ (k : Nat) (v' : Value), e = .returned (.int .i64 (2 + (k : Int))) /\ k <= ns.length /\ (∀ j, i <= j -> j < k -> (nd ns j).v < 24) /\ (k < ns.length -> ¬ (nd ns k).v < 24) /\
   ArenaAt B w' b bm v' (if k = ns.length then ns ++ [⟨24, 0, 0⟩] else ns) L room (2 + (k : Int)) /\ Kept (Own b bm v) w w' /\ (v'.ownBlock = v.ownBlock \/ ∃ g, v'.ownBlock = some g /\ w.heap.size <= g)
theorem free_any (hA : ArenaAt B w b bm v ns L room next) (hl : ns.length <= 100000) (i : Nat) (hn : next = 2 + (i : Int)) (hi : i <= ns.length) (hB : B <= w.heap.size) :
  Calls Tryz.prog 135 #[.pointer (some ⟨b, 0, none⟩)] w (FreeOut B w b bm v ns L room i) := by
 subst hn
 obtain ⟨i0, hin, hz0, hz1, hz2⟩ := info_parts infoNode
 have HA := Lib.hid hA
 clear hA
 go_enter Tryz.func135, Tryz.ntmps135
 go_wp2_with fail
 go_loopw [7] (fun _ wr => ∃ k : Nat, i <= k /\ k <= ns.length /\ (∀ j, i <= j -> j < k -> (nd ns j).v < 24) /\ ArenaAt B wr b bm v ns L room (2 + (k : Int)) /\ Kept (Own b bm v) w wr /\ nextOf wr b = 2 + (k : Int))
  (fun _ wr => (2 + (ns.length : Int) - nextOf wr b).toNat)
 case atStart => exact ⟨i, Nat.le_refl _, hi, fun j h1 h2 => by omega, HA.out, Kept.refl _ _, by unfold nextOf; rw [HA.out.cnext]⟩
 case round =>
  obtain ⟨k, hik, hk, hocc, hAr, hKr, hnx⟩ := hrel
  have HO := Lib.hid hocc
  have HNX := Lib.hid hnx
  have cnx := hAr.cnext
  have fnx := hAr.froz 3
  have HT := Lib.hid (top_any hAr (2 + (k : Int)) ⟨by omega, by omega⟩ (by omega))
  clear hocc hnx HA
  by_cases hend : k = ns.length \/ ¬ (nd ns k).v < 24
  ·have ht : ¬ topOf ns (2 + (k : Int)) < 24 := by
    by_cases e : k = ns.length
    ·rw [e, topOf_end]; omega
    ·rw [topOf_at (by omega)]; rcases hend with h | h
     ·exact absurd h e
     ·exact h
   have cnd := hAr.cnodes
   have fnd := hAr.froz 1
   obtain ⟨a, cap, hve, -⟩ := hAr.form
   have HE := Lib.hid hend
   have HAr := Lib.hid hAr
   have HKr := Lib.hid hKr
   generalize topOf ns (2 + (k : Int)) = t at *
   clear hend hAr hKr
   by_cases en : k = ns.length
   ·subst en
    subst hve
    go_wp2_with fail
    refine HT.out.mono ?_
    rintro e w1 ⟨rfl, rfl⟩
    clear HT
    go_wp2_with fail
    go_quiet (fail)
    have hrow : wr.drew.ownsRow B 102 3 (.slice a ns.length cap) ns.length (ncells ns) := HAr.out.row
    go_wp2_with (at_builtin; refine wpList_append_own_at _ rfl _ _ 98 rfl B 102 i0 (.agg #[.int .i64 0, .int .i64 0, .int .i64 0]) 3 24 Tryz.underlying98 hin hz0 hz1 hz2 rfl (by decide) _ _ _ rfl (hrow.alloc _) ⟨wr.heap.size, 0, none⟩ 1 1 [.int .i64 24, .int .i64 0, .int .i64 0] rfl rfl (cell_three_new _ _ _ _ _) ?c2 ?c3 ?c4 ?c5 ?_)
    case c2 => intro u hu; simp at hu; rcases hu with rfl | rfl <;> rfl
    case c3 => unfold maxLen; omega
    case c4 => omega
    case c5 => have := HKr.out.size; show B <= (World.alloc _ _).heap.size; simp; omega
    intro v' w4 hown' hgrow hnil hloc
    have hk4 : Kept (fun k => (Value.slice a ns.length cap).ownBlock = some k) wr w4 := (Kept.alloc _ wr _).andThen (Kept.of_grown (w := wr.alloc (.cells #[.int .i64 24, .int .i64 0, .int .i64 0] 102)) (S := fun k => (Value.slice a ns.length cap).ownBlock = some k) ⟨hgrow.os, hgrow.tape, hgrow.output, hgrow.size, hgrow.block⟩ (fun i h => h)) (fun i h _ => h)
    have hr4 : w4.ownsRow B 102 3 v' (ns ++ [(⟨24, 0, 0⟩ : Nd)]).length (ncells (ns ++ [(⟨24, 0, 0⟩ : Nd)])) := by
     rw [ncells_append, List.length_append]; exact hown'
    have hv4 : v'.ownBlock = (Value.slice a ns.length cap).ownBlock \/ ∃ g, v'.ownBlock = some g /\ wr.heap.size <= g := hloc.imp id (fun h => ⟨_, h, by first | omega | simp⟩)
    have hA4 := HAr.out.setNodes hk4 hr4 hv4
    have hlt := HAr.out.lt
    have hd1 := HAr.out.d1
    have c1 : w4.cell? ⟨b, 1, none⟩ = some (.slice a ns.length cap) := (hk4.cell (a := ⟨b, 1, none⟩) hlt hd1).trans cnd
    have f1 : w4.frozen? ⟨b, 1, none⟩ = false := (hk4.frozen (a := ⟨b, 1, none⟩) hlt hd1).trans fnd
    have c3 := hA4.cnext
    have hKF : Kept (Own b bm (.slice a ns.length cap)) w (w4.setCell ⟨b, 1, none⟩ v') := (HKr.out.trans (hk4.mono (fun i h => .inr (.inr h)))).trans (Kept.setCell _ _ _ (.inl rfl))
    have hVF : v'.ownBlock = (Value.slice a ns.length cap).ownBlock \/ ∃ g, v'.ownBlock = some g /\ w.heap.size <= g := hv4.imp id (fun ⟨g, h1, h2⟩ => ⟨g, h1, Nat.le_trans HKr.out.size h2⟩)
    obtain ⟨a', n', cap', rfl⟩ : ∃ a' n' cap', v' = .slice a' n' cap' := by
     rcases hown'.2 with ⟨h1, -⟩ | ⟨g, cp, cur, h1, -⟩
     ·exact ⟨_, _, _, h1⟩
     ·exact ⟨_, _, _, h1⟩
    clear hown' hgrow hnil hloc hrow hk4 hr4 hv4
    go_wp2
    go_ret
    exact ⟨ns.length, _, rfl, Nat.le_refl _, HO.out, fun h => absurd h (Nat.lt_irrefl _), by rw [if_pos rfl]; exact hA4, hKF, hVF⟩
   ·have e5 : (2 + (k : Int) == 2 + (ns.length : Int)) = false := by rw [beq_eq_false_iff_ne]; omega
    have e6 : ((k : Int) == (ns.length : Int)) = false := by rw [beq_eq_false_iff_ne]; omega
    subst hve
    go_wp2_with fail
    refine HT.out.mono ?_
    rintro e w1 ⟨rfl, rfl⟩
    clear HT
    go_wp2_with fail
    go_quiet (fail)
    go_wp2
    go_ret
    refine ⟨k, _, rfl, hk, HO.out, fun h => ?_, by rw [if_neg en]; exact HAr.out.kept (kept_drewN _ _ _) (fun _ _ h => h), HKr.out.trans (kept_drewN _ _ _), .inl rfl⟩
    rcases HE.out with h2 | h2
    ·exact absurd h2 en
    ·omega
  ·have hkl : k < ns.length := by omega
   have hv : (nd ns k).v < 24 := by
    rcases not_or.1 hend with ⟨-, h⟩
    exact Classical.not_not.1 h
   rw [topOf_at hkl] at HT
   have HV := Lib.hid hv
   have hAn := hAr.setNext (2 + ((k : Int) + 1))
   have hKn := hKr.trans (Kept.setCell (S := Own b bm v) wr ⟨b, 3, none⟩ (.int .i64 (2 + ((k : Int) + 1))) (.inl rfl))
   have e1 : 2 + (k : Int) + 1 = 2 + ((k : Int) + 1) := by omega
   obtain ⟨t, htd⟩ : ∃ t, t = (nd ns k).v := ⟨_, rfl⟩
   rw [<- htd] at HT hv
   clear htd hend hAr hKr
   go_wp2_with fail
   refine HT.out.mono ?_
   rintro e w1 ⟨rfl, rfl⟩
   clear HT
   go_wp2
   go_roundw
   case rel =>
    refine ⟨k + 1, by omega, by omega, fun j h1 h2 => ?_, hAn, hKn, by unfold nextOf; rw [hAn.cnext]; rfl⟩
    by_cases e : j = k
    ·subst e; exact HV.out
    ·exact HO.out j h1 (by omega)
   case measure =>
    have e3 : nextOf (wr.setCell ⟨b, 3, none⟩ (.int .i64 (2 + ((k : Int) + 1)))) b = 2 + ((k : Int) + 1) := by unfold nextOf; rw [hAn.cnext]
    rw [HNX.out, e3]
    omega
end
end
section
def mk (m : List Bool) (i : Nat) : Bool := m.getD i false
theorem mk_at (m : List Bool) (i : Nat) (h : i < m.length) : mk m i = m[i] := by unfold mk; simp [List.getD_eq_getElem?_getD, List.getElem?_eq_getElem h]
theorem mk_set (m : List Bool) (k i : Nat) (h : k < m.length) : mk (m.set k true) i = (decide (i = k) || mk m i) := by
 unfold mk
 simp only [List.getD_eq_getElem?_getD, List.getElem?_set]
 by_cases e : k = i
 ·subst e; simp [h]
 ·rw [if_neg e, decide_eq_false (fun h => e h.symm), Bool.false_or]
theorem mk_none (n i : Nat) : mk (List.replicate n false) i = false := by
 unfold mk; simp only [List.getD_eq_getElem?_getD, List.getElem?_replicate]; split <;> rfl
def markF : Nat -> List Nd -> Int -> List Bool -> List Bool
 | 0, _, _, m => m
 | d + 1, ns, h, m =>
  if topOf ns h = 24 \/ mk m (h - 2).toNat = true then m
  else markF d ns (nd ns (h - 2).toNat).h (markF d ns (nd ns (h - 2).toNat).l (m.set (h - 2).toNat true))
theorem topOf_node {ns : List Nd} {h : Int} (ht : topOf ns h ≠ 24) : 2 <= h /\ (h - 2).toNat < ns.length /\ topOf ns h = (nd ns (h - 2).toNat).v := by
 unfold topOf at *
 by_cases hc : 2 <= h /\ h < 2 + (ns.length : Int)
 ·rw [if_pos hc]; exact ⟨hc.1, by omega, rfl⟩
 ·rw [if_neg hc] at ht; exact absurd rfl ht
theorem markF_length : ∀ (d : Nat) (ns : List Nd) (h : Int) (m : List Bool), (markF d ns h m).length = m.length
 | 0, _, _, _ => rfl
 | d + 1, ns, h, m => by
  unfold markF
  split
  ·rfl
  ·rw [markF_length d, markF_length d, List.length_set]
theorem markF_grows : ∀ (d : Nat) (ns : List Nd) (h : Int) (m : List Bool), m.length = ns.length -> ∀ i, mk m i = true -> mk (markF d ns h m) i = true
 | 0, _, _, _, _, _, hi => hi
 | d + 1, ns, h, m, hl, i, hi => by
  unfold markF
  split
  ·exact hi
  ·rename_i hn
   have hb := topOf_node (not_or.1 hn).1
   refine markF_grows d ns _ _ (by rw [markF_length, List.length_set, hl]) i (markF_grows d ns _ _ (by rw [List.length_set, hl]) i ?_)
   rw [mk_set _ _ _ (by omega), hi, Bool.or_true]
structure Ranked (ns : List Nd) : Prop where
 v0 : ∀ j, j < ns.length -> 0 <= (nd ns j).v /\ (nd ns j).v <= 24
 l : ∀ j, j < ns.length -> (nd ns j).v < 24 -> (nd ns j).v < topOf ns (nd ns j).l /\ hasB ns (nd ns j).l = true
 h : ∀ j, j < ns.length -> (nd ns j).v < 24 -> (nd ns j).v < topOf ns (nd ns j).h /\ hasB ns (nd ns j).h = true
 ok : ∀ j, j < ns.length -> (nd ns j).Ok
theorem topOf_le {ns : List Nd} (hr : Ranked ns) (h : Int) : 0 <= topOf ns h /\ topOf ns h <= 24 := by
 by_cases ht : topOf ns h = 24
 ·rw [ht]; omega
 ·obtain ⟨h1, h2, h3⟩ := topOf_node ht
  rw [h3]; exact hr.v0 _ h2
def MarkedOr (ns : List Nd) (m : List Bool) (h : Int) : Prop := topOf ns h = 24 \/ mk m (h - 2).toNat = true
theorem MarkedOr.grow {ns : List Nd} {m : List Bool} {h : Int} (hm : MarkedOr ns m h) (hl : m.length = ns.length) (d : Nat) (h' : Int) : MarkedOr ns (markF d ns h' m) h := hm.imp id (markF_grows d ns h' m hl _)
theorem markF_closed {ns : List Nd} (hr : Ranked ns) : ∀ (d : Nat) (h : Int) (m : List Bool), m.length = ns.length -> 24 <= topOf ns h + d ->
  MarkedOr ns (markF d ns h m) h /\ ∀ i, i < ns.length -> mk (markF d ns h m) i = true -> mk m i = false -> MarkedOr ns (markF d ns h m) (nd ns i).l /\ MarkedOr ns (markF d ns h m) (nd ns i).h
 | 0, h, m, _, hd => by
  have := (topOf_le hr h).2
  refine ⟨.inl (by omega), fun i _ h1 h2 => ?_⟩
  unfold markF at h1; rw [h1] at h2; cases h2
 | d + 1, h, m, hl, hd => by
  unfold markF
  split
  ·rename_i hc
   exact ⟨hc, fun i _ h1 h2 => by rw [h1] at h2; cases h2⟩
  ·rename_i hn
   obtain ⟨b1, b2, b3⟩ := topOf_node (not_or.1 hn).1
   have hv : (nd ns (h - 2).toNat).v < 24 := by have := (topOf_le hr h).2; have := (not_or.1 hn).1; omega
   generalize hk : (h - 2).toNat = k at *
   have hl1 : (m.set k true).length = ns.length := by rw [List.length_set, hl]
   have hl2 : (markF d ns (nd ns k).l (m.set k true)).length = ns.length := by rw [markF_length, hl1]
   have A := markF_closed hr d (nd ns k).l (m.set k true) hl1 (by have := (hr.l k b2 hv).1; omega)
   have C := markF_closed hr d (nd ns k).h (markF d ns (nd ns k).l (m.set k true)) hl2 (by have := (hr.h k b2 hv).1; omega)
   have hin : mk (m.set k true) k = true := by rw [mk_set _ _ _ (by omega)]; simp
   refine ⟨.inr (by rw [hk]; exact markF_grows d ns _ _ hl2 _ (markF_grows d ns _ _ hl1 _ hin)), fun i hi h1 h2 => ?_⟩
   by_cases e : i = k
   ·subst e
    exact ⟨A.1.grow hl2 d _, C.1⟩
   ·by_cases h3 : mk (markF d ns (nd ns k).l (m.set k true)) i = true
    ·have := A.2 i hi h3 (by rw [mk_set _ _ _ (by omega), h2, decide_eq_false e]; rfl)
     exact ⟨this.1.grow hl2 d _, this.2.grow hl2 d _⟩
    ·exact C.2 i hi h1 (by simpa using h3)
def swept (ns : List Nd) (M : List Bool) : List Nd := (List.range ns.length).map fun i => if mk M i = true then nd ns i else ⟨24, 0, 0⟩
theorem swept_length (ns : List Nd) (M : List Bool) : (swept ns M).length = ns.length := by simp [swept]
theorem swept_at (ns : List Nd) (M : List Bool) (i : Nat) (h : i < ns.length) : nd (swept ns M) i = if mk M i = true then nd ns i else ⟨24, 0, 0⟩ := by
 rw [nd_at _ i (by rw [swept_length]; exact h)]; simp [swept]
theorem swept_top {ns : List Nd} {M : List Bool} {h : Int} : topOf (swept ns M) h = if mk M (h - 2).toNat = true then topOf ns h else 24 := by
 unfold topOf
 rw [swept_length]
 by_cases hc : 2 <= h /\ h < 2 + (ns.length : Int)
 ·rw [if_pos hc, if_pos hc, swept_at ns M _ (by omega)]
  split <;> rfl
 ·rw [if_neg hc, if_neg hc]; split <;> rfl
end
section
open Go.RowKit Go.Maps
theorem zeroInt (w : World) : (zeroValue 3).run Tryz.prog w = .ok (.int .i64 0) w := by kernel_rfl
theorem elInt {x : Int} (h : I64 x) : plainElem (H := Unit) Tryz.prog 3 (.int .i64 x) = some (.lit (.int .i64 x), []) := plainElem_int Tryz.underlying3 (wf_of h)
theorem ownsMap_norm {P : Program} {k : TypeId} {R : Value -> Option (DataW Unit × List MemPlace)} {w : World} {b n : Nat} {D : DataW Unit} (h : w.ownsMap P k R b n D) : w.ownsMap P k R b (Maps.size D) D := by
 obtain ⟨es, clock, h1, h2, h3, rfl⟩ := h
 exact ⟨es, clock, h1, h2, by simp [Maps.size, length_sorted], rfl⟩
section
variable {w : World} {bm n : Nat} {D : DataW Unit} {L : List (Nd × Int)}
theorem look_found (hD : w.ownsMap Tryz.prog 102 (plainElem Tryz.prog 3) bm n D) (hR : Rep Nd.Ok Nd.lit (fun x : Int => .lit (.int .i64 x)) D L) {p : Nd × Int} (hp : p ∈ L) :
  (Instr.lookup 124 (.map (some bm)) (.agg #[.int .i64 p.1.v, .int .i64 p.1.l, .int .i64 p.1.h]) true).run Tryz.prog w = .ok (.tuple #[.int .i64 p.2, .bool true]) w := by
 obtain ⟨v, ps, hrun, hv⟩ := hD.look_ok lawNode Tryz.underlying124 (zeroInt w) (zd := .lit (.int .i64 0)) (zp := []) (elInt ⟨by omega, by omega⟩) (keyNode p.1 (hR.oks p hp))
 rw [hR.at' p hp] at hv
 obtain ⟨a, rfl, hz, -⟩ := plainElem_int_inv Tryz.underlying3 hv
 rw [(hR.has p.1 (hR.oks p hp)).2 (List.mem_map_of_mem hp)] at hrun
 simp at hz
 rw [<- hz.1] at hrun
 exact hrun
theorem look_none (hD : w.ownsMap Tryz.prog 102 (plainElem Tryz.prog 3) bm n D) (hR : Rep Nd.Ok Nd.lit (fun x : Int => .lit (.int .i64 x)) D L) {a : Nd} (ha : a.Ok) (hn : a ∉ L.map Prod.fst) :
  (Instr.lookup 124 (.map (some bm)) (.agg #[.int .i64 a.v, .int .i64 a.l, .int .i64 a.h]) true).run Tryz.prog w = .ok (.tuple #[.int .i64 0, .bool false]) w := by
 obtain ⟨v, ps, hrun, hv⟩ := hD.look_ok lawNode Tryz.underlying124 (zeroInt w) (zd := .lit (.int .i64 0)) (zp := []) (elInt ⟨by omega, by omega⟩) (keyNode a ha)
 have hh := hR.not ha hn
 rw [atKey_of_not_has hh] at hv
 obtain ⟨c, rfl, hz, -⟩ := plainElem_int_inv Tryz.underlying3 hv
 rw [hh] at hrun
 simp at hz
 rw [<- hz.1] at hrun
 exact hrun
theorem store_new (hD : w.ownsMap Tryz.prog 102 (plainElem Tryz.prog 3) bm L.length D) (hR : Rep Nd.Ok Nd.lit (fun x : Int => .lit (.int .i64 x)) D L) (hl : L.length < 1000000) {a : Nd} (ha : a.Ok) (hn : a ∉ L.map Prod.fst) {x : Int} (hx : I64 x) :
  ∃ w' D', (Instr.mapUpdate 124 (.map (some bm)) (.agg #[.int .i64 a.v, .int .i64 a.l, .int .i64 a.h]) (.int .i64 x)).run Tryz.prog w = .ok () w' /\ w'.ownsMap Tryz.prog 102 (plainElem Tryz.prog 3) bm (L ++ [(a, x)]).length D' /\ Rep Nd.Ok Nd.lit (fun x : Int => .lit (.int .i64 x)) D' (L ++ [(a, x)]) /\ Kept (fun k => k = bm) w w' := by
 obtain ⟨w', hrun, h1, h2⟩ := hD.update lawNode Tryz.underlying124 (by unfold maxLen; omega) (keyNode a ha) (elInt hx)
 refine ⟨w', _, hrun, ?_, hR.put (fun _ _ => litNode_inj) litNode_key ha hn x, Kept.of_grown h2 (fun i h => by cases h; rfl)⟩
 rw [List.length_append]; exact h1
end
section
variable {B b bm : Nat} {w : World} {v : Value} {ns : List Nd} {L : List (Nd × Int)} {room next : Int}
structure Fit (ns : List Nd) (n : Nd) : Prop where
 v0 : 0 <= n.v
 v1 : n.v < 24
 l : hasB ns n.l = true
 h : hasB ns n.h = true
 tl : n.v < topOf ns n.l
 th : n.v < topOf ns n.h
theorem below_drewN (B : Nat) (w : World) (n : Nat) : Below B w (w.drewN n) := ⟨rfl, rfl, rfl, Nat.le_refl _, fun _ _ => rfl⟩
theorem has_box (hA : ArenaAt B w b bm v ns L room next) (o : Obj) (h : Int) (hi : I64 h) (hl : ns.length <= 1000000) :
  Calls Tryz.prog 46 #[.pointer (some ⟨b, 0, none⟩), .int .i64 h] (w.alloc o) fun e w' => e = .returned (.bool (hasB ns h)) /\ w.alloc o = w' :=
 has_any (hA.kept (Kept.alloc (fun _ => False) w o) (fun _ _ h => h)) h hi hl
theorem top_box (hA : ArenaAt B w b bm v ns L room next) (o : Obj) (h : Int) (hi : I64 h) (hl : ns.length <= 1000000) (m : Nat) :
  Calls Tryz.prog 37 #[.pointer (some ⟨b, 0, none⟩), .int .i64 h] ((w.alloc o).drewN m) fun e w' => e = .returned (.int .i64 (topOf ns h)) /\ ∃ m', w' = (w.alloc o).drewN m' :=
 (top_any ((hA.kept (Kept.alloc (fun _ => False) w o) (fun _ _ h => h)).kept (kept_drewN _ _ m) (fun _ _ h => h)) h hi hl).mono fun _ _ ⟨h1, h2⟩ => ⟨h1, m, h2.symm⟩
end
end
end Go.Proofs.YtcjjekhecjmaeaaGreatDoor
