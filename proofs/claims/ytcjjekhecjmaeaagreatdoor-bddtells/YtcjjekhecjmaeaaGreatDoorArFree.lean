/- free: the least handle that no node has. -/
import Derived.Test.YtcjjekhecjmaeaaGreatDoorArTop
import Derived.Maps.AppendAt
set_option maxHeartbeats 2000000
set_option maxRecDepth 100000
namespace Go.Proofs.YtcjjekhecjmaeaaGreatDoor
section
open Go.RowKit Go.Maps
def hasB (ns : List Nd) (h : Int) : Bool := decide (h = 0) || decide (h = 1) || decide (topOf ns h < 24)
section
variable {B b bm : Nat} {w : World} {v : Value} {ns : List Nd} {L : List (Nd × Int)} {room next : Int}
theorem has_any (hA : ArenaAt B w b bm v ns L room next) (h : Int) (hi : I64 h) (hl : ns.length <= 1000000) :
  Calls Tryz.prog 46 #[.pointer (some ⟨b, 0, none⟩), .int .i64 h] w fun e w' => e = .returned (.bool (hasB ns h)) /\ w = w' := by
 have HT := Lib.hid (top_any hA h hi hl)
 clear hA hl
 unfold hasB
 generalize topOf ns h = t at *
 by_cases h0 : h = 0
 ·subst h0
  go_enter Tryz.func46, Tryz.ntmps46
  go_wp2
  go_ret
  exact ⟨rfl, rfl⟩
 ·by_cases h1 : h = 1
  ·subst h1
   go_enter Tryz.func46, Tryz.ntmps46
   go_wp2
   go_ret
   exact ⟨rfl, rfl⟩
  ·have e0 : (h == 0) = false := by rw [beq_eq_false_iff_ne]; exact h0
   have e1 : (h == 1) = false := by rw [beq_eq_false_iff_ne]; exact h1
   have d0 : decide (h = 0) = false := decide_eq_false h0
   have d1 : decide (h = 1) = false := decide_eq_false h1
   rw [d0, d1, Bool.false_or, Bool.false_or]
   clear h0 h1 d0 d1
   go_enter Tryz.func46, Tryz.ntmps46
   go_wp2_with fail
   refine HT.out.mono ?_
   rintro e w1 ⟨rfl, rfl⟩
   go_wp2
   go_ret
   exact ⟨rfl, rfl⟩
def getOf (ns : List Nd) (h : Int) : Nd := if topOf ns h = 24 then ⟨0, 0, 0⟩ else nd ns (h - 2).toNat
theorem cell3 (w : World) (A B C : Value) (t : TypeId) : (w.alloc (.cells #[A, B, C] t)).cell? ⟨w.heap.size, 0, none⟩ = some A /\ (w.alloc (.cells #[A, B, C] t)).cell? ⟨w.heap.size, 1, none⟩ = some B /\ (w.alloc (.cells #[A, B, C] t)).cell? ⟨w.heap.size, 2, none⟩ = some C /\ (∀ i, (w.alloc (.cells #[A, B, C] t)).frozen? ⟨w.heap.size, i, none⟩ = false) := ⟨by simp, by simp, by simp, fun i => by simp⟩
theorem below_new (w : World) (o : Obj) : Below w.heap.size w (w.alloc o) := (Below.refl _ _).alloc (Nat.le_refl _) _
theorem get_any (hA : ArenaAt B w b bm v ns L room next) (h : Int) (hi : I64 h) (hl : ns.length <= 1000000) :
  Calls Tryz.prog 59 #[.pointer (some ⟨b, 0, none⟩), .int .i64 h] w fun e w' => e = .returned (.tuple #[(getOf ns h).val, .bool (decide (topOf ns h ≠ 24))]) /\ Below w.heap.size w w' := by
 have hA1 := hA.kept (Kept.alloc (fun _ => False) w (.cells #[.int .i64 0, .int .i64 0, .int .i64 0] 102)) (fun _ _ h => h)
 have HT := Lib.hid (top_any hA1 h hi hl)
 have hlt := hA.lt
 clear hA
 obtain ⟨hi0, hi1⟩ := hi
 obtain ⟨c0, c1, c2, fz⟩ := cell3 w (.int .i64 0) (.int .i64 0) (.int .i64 0) 102
 have f0 := fz 0
 have f1 := fz 1
 have f2 := fz 2
 have hbn := below_new w (.cells #[.int .i64 0, .int .i64 0, .int .i64 0] 102)
 clear fz
 unfold getOf
 by_cases ht : topOf ns h = 24
 ·rw [if_pos ht, decide_eq_false (by simp [ht])]
  rw [ht] at HT
  clear ht hA1
  go_enter Tryz.func59, Tryz.ntmps59
  go_wp2_with fail
  refine HT.out.mono ?_
  rintro e w1 ⟨rfl, rfl⟩
  clear HT
  go_wp2
  refine bodyPost_ret (v := .tuple #[.agg #[.int .i64 0, .int .i64 0, .int .i64 0], .bool false]) (by simp [results, Tryz.results59, go_sem]) rfl ?_
  refine ⟨rfl, ?_⟩
  exact below_new w _
 ·rw [if_neg ht, decide_eq_true (by simp [ht])]
  have hc : 2 <= h /\ h < 2 + (ns.length : Int) := by
   unfold topOf at ht
   by_cases hc : 2 <= h /\ h < 2 + (ns.length : Int)
   ·exact hc
   ·rw [if_neg hc] at ht; exact absurd rfl ht
  obtain ⟨h2, h3⟩ := hc
  obtain ⟨i, e2⟩ : ∃ i : Nat, h - 2 = (i : Int) := ⟨(h - 2).toNat, by omega⟩
  have e1 : (h - 2).toNat = i := by omega
  obtain ⟨a, cap, rfl, hg⟩ := hA1.form
  obtain ⟨g, rfl, hBg, hgl⟩ := hg (by omega)
  have hil : i < ns.length := by omega
  have ca := hA1.row.cellAt (i * 3) (by omega)
  have cb := hA1.row.cellAt (i * 3 + 1) (by omega)
  have cc := hA1.row.cellAt (i * 3 + 2) (by omega)
  have cn := hA1.cnodes
  obtain ⟨n1, n2, n3⟩ := ncells_at ns i hil
  rw [n1] at ca
  rw [n2] at cb
  rw [n3] at cc
  rw [e1]
  have et : (topOf ns h == 24) = false := by rw [beq_eq_false_iff_ne]; exact ht
  generalize topOf ns h = tt at *
  generalize nd ns i = n at *
  clear n1 n2 n3 hA1 e1 ht
  go_enter Tryz.func59, Tryz.ntmps59
  go_wp2_with fail
  refine HT.out.mono ?_
  rintro e w1 ⟨rfl, rfl⟩
  clear HT
  go_wp2
  refine bodyPost_ret (v := .tuple #[n.val, .bool true]) (by simp [results, Tryz.results59, go_sem, Nd.val]) rfl ?_
  refine ⟨rfl, ?_⟩
  exact below_new w _
theorem len_any (hA : ArenaAt B w b bm v ns L room next) :
  Calls Tryz.prog 24 #[.pointer (some ⟨b, 0, none⟩)] w fun e w' => e = .returned (.int .i64 (L.length : Int)) /\ w = w' := by
 obtain ⟨D, hD, hR⟩ := hA.hmap
 have cm := hA.cmap
 have hs : (Maps.size D : Int) = (L.length : Int) := by rw [hR.size]
 clear hA hR
 go_enter Tryz.func24, Tryz.ntmps24
 go_wp2_with (at_len; refine wpList_len_own _ rfl _ 124 rfl 102 3 Tryz.underlying124 _ bm _ D rfl hD ?_)
 go_ret
 exact ⟨by rw [<- hs]; rfl, rfl⟩
end
end
section
open Go.RowKit Go.Maps
section
variable {B b bm : Nat} {w : World} {v : Value} {ns : List Nd} {L : List (Nd × Int)} {room next : Int}
theorem ArenaAt.setNext (h : ArenaAt B w b bm v ns L room next) (n : Int) : ArenaAt B (w.setCell ⟨b, 3, none⟩ (.int .i64 n)) b bm v ns L room n := by
 obtain ⟨D, hD, hR⟩ := h.hmap
 have hk : Kept (fun k => k = b) w (w.setCell ⟨b, 3, none⟩ (.int .i64 n)) := Kept.setCell _ _ _ rfl
 refine ⟨by simpa [World.setCell] using h.lt, ?_, ?_, ?_, ?_, fun i => by rw [World.frozen?_setCell]; exact h.froz i, ownsRow_kept h.row hk (fun k hv e => h.d1 (e ▸ hv)), ⟨D, ownsMap_kept hD hk h.d2, hR⟩, h.d1, h.d2, h.d3, h.B1, h.B2⟩
 ·rw [World.cell?_setCell_other _ _ _ _ (by simp)]; exact h.croom
 ·rw [World.cell?_setCell_other _ _ _ _ (by simp)]; exact h.cnodes
 ·rw [World.cell?_setCell_other _ _ _ _ (by simp)]; exact h.cmap
 ·exact World.cell?_setCell_same' _ _ _ (by simp [h.cnext])
theorem ArenaAt.setNodes {w' : World} {v' : Value} {ns' : List Nd} (h : ArenaAt B w b bm v ns L room next) (hk : Kept (fun k => v.ownBlock = some k) w w') (hr : w'.ownsRow B 102 3 v' ns'.length (ncells ns')) (hv : v'.ownBlock = v.ownBlock \/ ∃ g, v'.ownBlock = some g /\ w.heap.size <= g) : ArenaAt B (w'.setCell ⟨b, 1, none⟩ v') b bm v' ns' L room next := by
 obtain ⟨D, hD, hR⟩ := h.hmap
 have hk2 : Kept (fun k => k = b) w' (w'.setCell ⟨b, 1, none⟩ v') := Kept.setCell _ _ _ rfl
 have hlt' : b < w'.heap.size := Nat.lt_of_lt_of_le h.lt hk.size
 have hbm := hD.lt
 have d1 : v'.ownBlock ≠ some b := by
  rcases hv with hv | ⟨g, hg, hgl⟩
  ·rw [hv]; exact h.d1
  ·rw [hg]; intro e; cases e; have := h.lt; omega
 have d3 : v'.ownBlock ≠ some bm := by
  rcases hv with hv | ⟨g, hg, hgl⟩
  ·rw [hv]; exact h.d3
  ·rw [hg]; intro e; cases e; omega
 have e : ∀ i, w'.cell? ⟨b, i, none⟩ = w.cell? ⟨b, i, none⟩ := fun i => hk.cell (a := ⟨b, i, none⟩) h.lt h.d1
 refine ⟨by simpa [World.setCell] using hlt', ?_, ?_, ?_, ?_, fun i => by rw [World.frozen?_setCell]; exact (hk.frozen (a := ⟨b, i, none⟩) h.lt h.d1).trans (h.froz i), ownsRow_kept hr hk2 (fun k hv e => d1 (e ▸ hv)), ⟨D, ownsMap_kept (ownsMap_kept hD hk h.d3) hk2 h.d2, hR⟩, d1, h.d2, d3, h.B1, h.B2⟩
 ·rw [World.cell?_setCell_other _ _ _ _ (by simp), e]; exact h.croom
 ·exact World.cell?_setCell_same' _ _ _ (by rw [e]; simp [h.cnodes])
 ·rw [World.cell?_setCell_other _ _ _ _ (by simp), e]; exact h.cmap
 ·rw [World.cell?_setCell_other _ _ _ _ (by simp), e]; exact h.cnext
theorem infoNode : (Tryz.prog.info? 102).map (fun i => (i.zero, i.size, i.bytes)) = some (some (.agg #[.int .i64 0, .int .i64 0, .int .i64 0]), 3, 24) := by kernel_rfl
theorem topOf_at {i : Nat} (h : i < ns.length) : topOf ns (2 + (i : Int)) = (nd ns i).v := by
 unfold topOf; rw [if_pos (by omega), show (2 + (i : Int) - 2).toNat = i by omega]
theorem topOf_end : topOf ns (2 + (ns.length : Int)) = 24 := by
 unfold topOf; rw [if_neg (by omega)]
theorem cell_three_new (w : World) (x y z : Value) (t : TypeId) : ∀ j u, [x, y, z][j]? = some u -> (w.alloc (.cells #[x, y, z] t)).cell? ((⟨w.heap.size, 0, none⟩ : Addr).add j) = some u := by
 intro j u h
 match j, h with
 | 0, h => simp at h; subst h; simp [Addr.add]
 | 1, h => simp at h; subst h; simp [Addr.add]
 | 2, h => simp at h; subst h; simp [Addr.add]
 | j + 3, h => simp at h
def nextOf (w : World) (b : Nat) : Int := match w.cell? ⟨b, 3, none⟩ with | some (.int _ n) => n | _ => 0
theorem kept_drewN (S : Nat -> Prop) (w : World) (n : Nat) : Kept S w (w.drewN n) := ⟨rfl, rfl, rfl, Nat.le_refl _, fun _ _ _ => rfl⟩
def FreeOut (B : Nat) (w : World) (b bm : Nat) (v : Value) (ns : List Nd) (L : List (Nd × Int)) (room : Int) (i : Nat) (e : Ending) (w' : World) : Prop := ∃ (k : Nat) (v' : Value), e = .returned (.int .i64 (2 + (k : Int))) /\ k <= ns.length /\ (∀ j, i <= j -> j < k -> (nd ns j).v < 24) /\ (k < ns.length -> ¬ (nd ns k).v < 24) /\
   ArenaAt B w' b bm v' (if k = ns.length then ns ++ [⟨24, 0, 0⟩] else ns) L room (2 + (k : Int)) /\ Kept (Own b bm v) w w' /\ (v'.ownBlock = v.ownBlock \/ ∃ g, v'.ownBlock = some g /\ w.heap.size <= g)
theorem free_any (hA : ArenaAt B w b bm v ns L room next) (hl : ns.length <= 100000) (i : Nat) (hn : next = 2 + (i : Int)) (hi : i <= ns.length) (hB : B <= w.heap.size) :
  Calls Tryz.prog 135 #[.pointer (some ⟨b, 0, none⟩)] w (FreeOut B w b bm v ns L room i) := by
 subst hn
 obtain ⟨i0, hin, hz0, hz1, hz2⟩ := info_parts infoNode
 have HA := Lib.hid hA
 clear hA
 go_enter Tryz.func135, Tryz.ntmps135
 go_wp2_with fail
 go_loopw [7] (fun _ wr => ∃ k : Nat, i <= k /\ k <= ns.length /\ (∀ j, i <= j -> j < k -> (nd ns j).v < 24) /\ ArenaAt B wr b bm v ns L room (2 + (k : Int)) /\ Kept (Own b bm v) w wr /\ nextOf wr b = 2 + (k : Int))
  (fun _ wr => (2 + (ns.length : Int) - nextOf wr b).toNat)
 case atStart => exact ⟨i, Nat.le_refl _, hi, fun j h1 h2 => by omega, HA.out, Kept.refl _ _, by unfold nextOf; rw [HA.out.cnext]⟩
 case round =>
  obtain ⟨k, hik, hk, hocc, hAr, hKr, hnx⟩ := hrel
  have HO := Lib.hid hocc
  have HNX := Lib.hid hnx
  have cnx := hAr.cnext
  have fnx := hAr.froz 3
  have HT := Lib.hid (top_any hAr (2 + (k : Int)) ⟨by omega, by omega⟩ (by omega))
  clear hocc hnx HA
  by_cases hend : k = ns.length \/ ¬ (nd ns k).v < 24
  ·have ht : ¬ topOf ns (2 + (k : Int)) < 24 := by
    by_cases e : k = ns.length
    ·rw [e, topOf_end]; omega
    ·rw [topOf_at (by omega)]; rcases hend with h | h
     ·exact absurd h e
     ·exact h
   have cnd := hAr.cnodes
   have fnd := hAr.froz 1
   obtain ⟨a, cap, hve, -⟩ := hAr.form
   have HE := Lib.hid hend
   have HAr := Lib.hid hAr
   have HKr := Lib.hid hKr
   generalize topOf ns (2 + (k : Int)) = t at *
   clear hend hAr hKr
   by_cases en : k = ns.length
   ·subst en
    subst hve
    go_wp2_with fail
    refine HT.out.mono ?_
    rintro e w1 ⟨rfl, rfl⟩
    clear HT
    go_wp2_with fail
    go_quiet (fail)
    have hrow : wr.drew.ownsRow B 102 3 (.slice a ns.length cap) ns.length (ncells ns) := HAr.out.row
    go_wp2_with (at_builtin; refine wpList_append_own_at _ rfl _ _ 98 rfl B 102 i0 (.agg #[.int .i64 0, .int .i64 0, .int .i64 0]) 3 24 Tryz.underlying98 hin hz0 hz1 hz2 rfl (by decide) _ _ _ rfl (hrow.alloc _) ⟨wr.heap.size, 0, none⟩ 1 1 [.int .i64 24, .int .i64 0, .int .i64 0] rfl rfl (cell_three_new _ _ _ _ _) ?c2 ?c3 ?c4 ?c5 ?_)
    case c2 => intro u hu; simp at hu; rcases hu with rfl | rfl <;> rfl
    case c3 => unfold maxLen; omega
    case c4 => omega
    case c5 => have := HKr.out.size; show B <= (World.alloc _ _).heap.size; simp; omega
    intro v' w4 hown' hgrow hnil hloc
    have hk4 : Kept (fun k => (Value.slice a ns.length cap).ownBlock = some k) wr w4 := (Kept.alloc _ wr _).andThen (Kept.of_grown (w := wr.alloc (.cells #[.int .i64 24, .int .i64 0, .int .i64 0] 102)) (S := fun k => (Value.slice a ns.length cap).ownBlock = some k) ⟨hgrow.os, hgrow.tape, hgrow.output, hgrow.size, hgrow.block⟩ (fun i h => h)) (fun i h _ => h)
    have hr4 : w4.ownsRow B 102 3 v' (ns ++ [(⟨24, 0, 0⟩ : Nd)]).length (ncells (ns ++ [(⟨24, 0, 0⟩ : Nd)])) := by
     rw [ncells_append, List.length_append]; exact hown'
    have hv4 : v'.ownBlock = (Value.slice a ns.length cap).ownBlock \/ ∃ g, v'.ownBlock = some g /\ wr.heap.size <= g := hloc.imp id (fun h => ⟨_, h, by first | omega | simp⟩)
    have hA4 := HAr.out.setNodes hk4 hr4 hv4
    have hlt := HAr.out.lt
    have hd1 := HAr.out.d1
    have c1 : w4.cell? ⟨b, 1, none⟩ = some (.slice a ns.length cap) := (hk4.cell (a := ⟨b, 1, none⟩) hlt hd1).trans cnd
    have f1 : w4.frozen? ⟨b, 1, none⟩ = false := (hk4.frozen (a := ⟨b, 1, none⟩) hlt hd1).trans fnd
    have c3 := hA4.cnext
    have hKF : Kept (Own b bm (.slice a ns.length cap)) w (w4.setCell ⟨b, 1, none⟩ v') := (HKr.out.trans (hk4.mono (fun i h => .inr (.inr h)))).trans (Kept.setCell _ _ _ (.inl rfl))
    have hVF : v'.ownBlock = (Value.slice a ns.length cap).ownBlock \/ ∃ g, v'.ownBlock = some g /\ w.heap.size <= g := hv4.imp id (fun ⟨g, h1, h2⟩ => ⟨g, h1, Nat.le_trans HKr.out.size h2⟩)
    obtain ⟨a', n', cap', rfl⟩ : ∃ a' n' cap', v' = .slice a' n' cap' := by
     rcases hown'.2 with ⟨h1, -⟩ | ⟨g, cp, cur, h1, -⟩
     ·exact ⟨_, _, _, h1⟩
     ·exact ⟨_, _, _, h1⟩
    clear hown' hgrow hnil hloc hrow hk4 hr4 hv4
    go_wp2
    go_ret
    exact ⟨ns.length, _, rfl, Nat.le_refl _, HO.out, fun h => absurd h (Nat.lt_irrefl _), by rw [if_pos rfl]; exact hA4, hKF, hVF⟩
   ·have e5 : (2 + (k : Int) == 2 + (ns.length : Int)) = false := by rw [beq_eq_false_iff_ne]; omega
    have e6 : ((k : Int) == (ns.length : Int)) = false := by rw [beq_eq_false_iff_ne]; omega
    subst hve
    go_wp2_with fail
    refine HT.out.mono ?_
    rintro e w1 ⟨rfl, rfl⟩
    clear HT
    go_wp2_with fail
    go_quiet (fail)
    go_wp2
    go_ret
    refine ⟨k, _, rfl, hk, HO.out, fun h => ?_, by rw [if_neg en]; exact HAr.out.kept (kept_drewN _ _ _) (fun _ _ h => h), HKr.out.trans (kept_drewN _ _ _), .inl rfl⟩
    rcases HE.out with h2 | h2
    ·exact absurd h2 en
    ·omega
  ·have hkl : k < ns.length := by omega
   have hv : (nd ns k).v < 24 := by
    rcases not_or.1 hend with ⟨-, h⟩
    exact Classical.not_not.1 h
   rw [topOf_at hkl] at HT
   have HV := Lib.hid hv
   have hAn := hAr.setNext (2 + ((k : Int) + 1))
   have hKn := hKr.trans (Kept.setCell (S := Own b bm v) wr ⟨b, 3, none⟩ (.int .i64 (2 + ((k : Int) + 1))) (.inl rfl))
   have e1 : 2 + (k : Int) + 1 = 2 + ((k : Int) + 1) := by omega
   obtain ⟨t, htd⟩ : ∃ t, t = (nd ns k).v := ⟨_, rfl⟩
   rw [<- htd] at HT hv
   clear htd hend hAr hKr
   go_wp2_with fail
   refine HT.out.mono ?_
   rintro e w1 ⟨rfl, rfl⟩
   clear HT
   go_wp2
   go_roundw
   case rel =>
    refine ⟨k + 1, by omega, by omega, fun j h1 h2 => ?_, hAn, hKn, by unfold nextOf; rw [hAn.cnext]; rfl⟩
    by_cases e : j = k
    ·subst e; exact HV.out
    ·exact HO.out j h1 (by omega)
   case measure =>
    have e3 : nextOf (wr.setCell ⟨b, 3, none⟩ (.int .i64 (2 + ((k : Int) + 1)))) b = 2 + ((k : Int) + 1) := by unfold nextOf; rw [hAn.cnext]
    rw [HNX.out, e3]
    omega
end
end
end Go.Proofs.YtcjjekhecjmaeaaGreatDoor
