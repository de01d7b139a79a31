/- node, sides, present, variable, begin. -/
import Derived.Test.YtcjjekhecjmaeaaGreatDoorBdSem
import Derived.Test.YtcjjekhecjmaeaaGreatDoorBdNode
import Derived.Test.YtcjjekhecjmaeaaGreatDoorImLayP
set_option maxHeartbeats 1000000
set_option maxRecDepth 100000
namespace Go.Proofs.YtcjjekhecjmaeaaGreatDoor
section
open Go.RowKit
def numD (D : List Int) (h : Int) : Int := if h = 0 \/ h = 1 then h else 2 + (D.idxOf h : Int)
def postF (ns : List Nd) : Nat -> Int -> List Int -> List Int
 | 0, _, D => D
 | d + 1, h, D => if topOf ns h = 24 \/ h ∈ D then D else postF ns d (nd ns (pl h)).h (postF ns d (nd ns (pl h)).l D) ++ [h]
def InD (D : List Int) (h : Int) : Prop := h = 0 \/ h = 1 \/ h ∈ D
theorem InD.mono {D E : List Int} {h : Int} (hi : InD D h) (he : ∀ x ∈ D, x ∈ E) : InD E h := by
 rcases hi with h | h | h
 ·exact .inl h
 ·exact .inr (.inl h)
 ·exact .inr (.inr (he _ h))
structure Listed (ns : List Nd) (D : List Int) : Prop where
 node : ∀ x ∈ D, topOf ns x ≠ 24
 nodup : D.Nodup
 kid : ∀ x ∈ D, InD D (nd ns (pl x)).l /\ InD D (nd ns (pl x)).h
theorem idxOf_app {D E : List Int} {h : Int} (hm : h ∈ D) : (D ++ E).idxOf h = D.idxOf h := by rw [List.idxOf_append, if_pos hm]
theorem numD_app {D E : List Int} {h : Int} (hi : InD D h) : numD (D ++ E) h = numD D h := by
 unfold numD
 split
 ·rfl
 ·rename_i hn
  have hm : h ∈ D := by
   rcases hi with e | e | e
   ·exact absurd (.inl e) hn
   ·exact absurd (.inr e) hn
   ·exact e
  rw [idxOf_app hm]
theorem numD_new {D : List Int} {h : Int} (h0 : h ≠ 0) (h1 : h ≠ 1) (hn : h ∉ D) : numD (D ++ [h]) h = 2 + (D.length : Int) := by
 unfold numD
 rw [if_neg (by omega), List.idxOf_append, if_neg hn]
 simp
theorem numD_mem {D : List Int} {h : Int} (hm : h ∈ D) (h0 : h ≠ 0) (h1 : h ≠ 1) : 2 <= numD D h /\ numD D h < 2 + (D.length : Int) := by
 unfold numD
 rw [if_neg (by omega)]
 have := List.idxOf_lt_length_of_mem hm
 omega
theorem numD_bd {D : List Int} {h : Int} (hi : InD D h) : 0 <= numD D h /\ numD D h < 2 + (D.length : Int) := by
 rcases hi with rfl | rfl | hm
 ·unfold numD; simp; omega
 ·unfold numD; simp; omega
 ·by_cases e : h = 0 \/ h = 1
  ·unfold numD; rw [if_pos e]; omega
  ·have := numD_mem hm (by omega) (by omega); omega
section
variable {ns : List Nd}
theorem post_pre : ∀ (d : Nat) (h : Int) (D : List Int), ∃ E, postF ns d h D = D ++ E
 | 0, _, D => ⟨[], by simp [postF]⟩
 | d + 1, h, D => by
  unfold postF
  split
  ·exact ⟨[], by simp⟩
  ·obtain ⟨E1, e1⟩ := post_pre d (nd ns (pl h)).l D
   obtain ⟨E2, e2⟩ := post_pre d (nd ns (pl h)).h (D ++ E1)
   exact ⟨E1 ++ (E2 ++ [h]), by rw [e1, e2]; simp⟩
theorem post_mono {d : Nat} {h : Int} {D : List Int} {x : Int} (hx : x ∈ D) : x ∈ postF ns d h D := by
 obtain ⟨E, e⟩ := post_pre (ns := ns) d h D
 rw [e]; exact List.mem_append_left _ hx
theorem post_ok (hr : Ranked ns) : ∀ (d : Nat) (h : Int) (D : List Int), Listed ns D -> hasB ns h = true -> 24 <= topOf ns h + d -> Listed ns (postF ns d h D) /\ InD (postF ns d h D) h /\ ∀ x ∈ postF ns d h D, x ∈ D \/ topOf ns h <= topOf ns x
 | 0, h, D, hD, hh, ht => by
  have h24 := (topOf_le hr h).2
  refine ⟨hD, ?_, fun x hx => .inl hx⟩
  rcases hasB_cases hh with e | e | e
  ·exact .inl e
  ·exact .inr (.inl e)
  ·omega
 | d + 1, h, D, hD, hh, ht => by
  unfold postF
  by_cases c : topOf ns h = 24 \/ h ∈ D
  ·rw [if_pos c]
   refine ⟨hD, ?_, fun x hx => .inl hx⟩
   rcases c with c | c
   ·rcases hasB_cases hh with e | e | e
    ·exact .inl e
    ·exact .inr (.inl e)
    ·omega
   ·exact .inr (.inr c)
  ·rw [if_neg c]
   have ht24 : topOf ns h ≠ 24 := fun e => c (.inl e)
   obtain ⟨k1, k2, k3, k4⟩ := kids hr ht24
   obtain ⟨l1, l2, l3⟩ := post_ok hr d _ D hD k2 (by omega)
   obtain ⟨r1, r2, r3⟩ := post_ok hr d _ _ l1 k4 (by omega)
   have hn : h ∉ postF ns d (nd ns (pl h)).h (postF ns d (nd ns (pl h)).l D) := fun hm => by
    rcases r3 h hm with hm | hm
    ·rcases l3 h hm with hm | hm
     ·exact c (.inr hm)
     ·omega
    ·omega
   have hlR : InD (postF ns d (nd ns (pl h)).h (postF ns d (nd ns (pl h)).l D)) (nd ns (pl h)).l := l2.mono (fun x hx => post_mono hx)
   generalize postF ns d (nd ns (pl h)).h (postF ns d (nd ns (pl h)).l D) = R at *
   refine ⟨⟨fun x hx => ?_, ?_, fun x hx => ?_⟩, .inr (.inr (by simp)), fun x hx => ?_⟩
   ·rcases List.mem_append.1 hx with hx | hx
    ·exact r1.node x hx
    ·rw [List.mem_singleton] at hx; subst hx; exact ht24
   ·rw [List.nodup_append]
    exact ⟨r1.nodup, by simp, fun a ha b hb e => by rw [List.mem_singleton] at hb; subst hb; subst e; exact hn ha⟩
   ·rcases List.mem_append.1 hx with hx | hx
    ·have := r1.kid x hx
     exact ⟨this.1.mono (fun y hy => List.mem_append_left _ hy), this.2.mono (fun y hy => List.mem_append_left _ hy)⟩
    ·rw [List.mem_singleton] at hx; subst hx
     exact ⟨hlR.mono (fun y hy => List.mem_append_left _ hy), r2.mono (fun y hy => List.mem_append_left _ hy)⟩
   ·rcases List.mem_append.1 hx with hx | hx
    ·rcases r3 x hx with hx | hx
     ·rcases l3 x hx with hx | hx
      ·exact .inl hx
      ·exact .inr (by omega)
     ·exact .inr (by omega)
    ·rw [List.mem_singleton] at hx; subst hx; exact .inr (Int.le_refl _)
end
end
section
open Go.RowKit Go.Maps
section
variable {B s b : Nat} {O : Nat -> Prop} {vars : Nat} {room : Int} {ns : List Nd} {w : World}
theorem node_any (hS : SpaceAt B w s b O vars room ns) (hl : ns.length <= 90000) (hroom : (ns.length : Int) < room) (hB : B <= w.heap.size) (v l h : Int) (hv0 : 0 <= v) (hv1 : v < 24) (hl1 : hasB ns l = true) (hh1 : hasB ns h = true) (tl : v < topOf ns l) (th : v < topOf ns h) :
  Calls Tryz.prog 96 #[.pointer (some ⟨s, 0, none⟩), .int .i64 v, .int .i64 l, .int .i64 h] w fun e w' => e = .returned (.tuple #[.int .i64 (nodeF ns v l h).2, .nilIface]) /\ ∃ O', SpaceAt B w' s b O' vars room (nodeF ns v l h).1 /\ Moves O O' w w' := by
 have c0 := hS.c0
 by_cases e : l = h
 ·have hn : nodeF ns v l h = (ns, l) := by unfold nodeF; rw [if_pos e]
  rw [hn]
  subst e
  have HS := Lib.hid hS
  clear hS hl1 hh1 tl th hn
  go_enter Tryz.func96, Tryz.ntmps96
  go_wp2
  go_ret2
  exact ⟨rfl, O, HS.out, Moves.refl _ _⟩
 ·have hn : nodeF ns v l h = makeF ns ⟨v, l, h⟩ := by unfold nodeF; rw [if_neg e]
  rw [hn]
  have HM := Lib.hid (make_any hS hl hroom hB ⟨v, l, h⟩ ⟨⟨by show _ <= v; omega, by show v <= _; omega⟩, has_i64 hl1 (by omega), has_i64 hh1 (by omega)⟩ ⟨hv0, hv1, hl1, hh1, tl, th⟩)
  unfold Nd.val at HM
  clear hS hl1 hh1 tl th hn
  generalize makeF ns ⟨v, l, h⟩ = r at *
  go_enter Tryz.func96, Tryz.ntmps96
  go_wp2_with fail
  refine HM.out.mono ?_
  rintro e w' ⟨rfl, hO⟩
  go_wp2
  go_ret2
  exact ⟨rfl, hO⟩
theorem sides_any (hS : SpaceAt B w s b O vars room ns) (hl : ns.length <= 90000) (h v : Int) (hi : I64 h) (hv1 : v < 24) :
  Calls Tryz.prog 162 #[.pointer (some ⟨s, 0, none⟩), .int .i64 h, .int .i64 v] w fun e w' => e = .returned (.tuple #[.int .i64 (loS ns h v), .int .i64 (hiS ns h v)]) /\ Below w.heap.size w w' := by
 have c0 := hS.c0
 have HG := Lib.hid (spGet hS h hi hl)
 have hsl := hS.slt
 by_cases ht : topOf ns h = 24
 ·have e1 : loS ns h v = h := by unfold loS; rw [if_neg (by omega)]
  have e2 : hiS ns h v = h := by unfold hiS; rw [if_neg (by omega)]
  rw [e1, e2]
  rw [show decide (topOf ns h ≠ 24) = false by simp [ht]] at HG
  generalize getOf ns h = gn at *
  obtain ⟨gv, gl, gh⟩ := gn
  unfold Nd.val at HG
  clear hS e1 e2 ht
  go_enter Tryz.func162, Tryz.ntmps162
  go_wp2_with fail
  refine HG.out.mono ?_
  rintro e w1 ⟨rfl, hb1⟩
  have hb2 := hb1.alloc hb1.size (.cells #[.int .i64 gv, .int .i64 gl, .int .i64 gh] 102)
  clear HG
  go_wp2
  go_ret2
  exact ⟨rfl, hb2⟩
 ·rw [show decide (topOf ns h ≠ 24) = true by simp [ht]] at HG
  have hgv : (getOf ns h).v = topOf ns h := by
   obtain ⟨h1, h2, h3, h4⟩ := node_at ht
   unfold getOf; rw [if_neg ht]; exact h3.symm
  have hgn : getOf ns h = nd ns (pl h) := by unfold getOf; rw [if_neg ht]; rfl
  by_cases ev : topOf ns h = v
  ·have e1 : loS ns h v = (getOf ns h).l := by unfold loS; rw [if_pos ev, hgn]
   have e2 : hiS ns h v = (getOf ns h).h := by unfold hiS; rw [if_pos ev, hgn]
   rw [e1, e2]
   rw [ev] at hgv
   generalize getOf ns h = gn at *
   obtain ⟨gv, gl, gh⟩ := gn
   simp only at hgv
   subst hgv
   unfold Nd.val at HG
   clear hS e1 e2 ht ev hgn
   go_enter Tryz.func162, Tryz.ntmps162
   go_wp2_with fail
   refine HG.out.mono ?_
   rintro e w1 ⟨rfl, hb1⟩
   have hb2 := hb1.alloc hb1.size (.cells #[.int .i64 gv, .int .i64 gl, .int .i64 gh] 102)
   obtain ⟨x0, x1, x2, -⟩ := cell3 w1 (.int .i64 gv) (.int .i64 gl) (.int .i64 gh) 102
   clear HG
   go_wp2_with fail
   go_quiet (fail)
   go_wp2
   go_ret2
   exact ⟨rfl, hb2.trans (below_drewN _ _ _)⟩
  ·have e1 : loS ns h v = h := by unfold loS; rw [if_neg ev]
   have e2 : hiS ns h v = h := by unfold hiS; rw [if_neg ev]
   rw [e1, e2]
   have hne : ¬ (getOf ns h).v = v := by rw [hgv]; exact ev
   generalize getOf ns h = gn at *
   obtain ⟨gv, gl, gh⟩ := gn
   simp only at hne
   unfold Nd.val at HG
   clear hS e1 e2 ht ev hgn hgv
   go_enter Tryz.func162, Tryz.ntmps162
   go_wp2_with fail
   refine HG.out.mono ?_
   rintro e w1 ⟨rfl, hb1⟩
   have hb2 := hb1.alloc hb1.size (.cells #[.int .i64 gv, .int .i64 gl, .int .i64 gh] 102)
   obtain ⟨x0, x1, x2, -⟩ := cell3 w1 (.int .i64 gv) (.int .i64 gl) (.int .i64 gh) 102
   clear HG
   go_wp2
   go_ret2
   exact ⟨rfl, hb2⟩
theorem present_any (hS : SpaceAt B w s b O vars room ns) (hl : ns.length <= 90000) (bf : Nat) {cp : Nat} (fs : List Int) (hF : IntsAt w bf fs) (hfl : fs.length <= 1000) (hall : ∀ x ∈ fs, hasB ns x = true) :
  Calls Tryz.prog 34 #[.pointer (some ⟨s, 0, none⟩), .slice (some ⟨bf, 0, none⟩) fs.length cp] w fun e w' => e = .returned .nilIface /\ w = w' := by
 have c0 := hS.c0
 have HS := Lib.hid hS
 have HF := Lib.hid hF
 have HA := Lib.hid hall
 clear hS hF hall
 go_enter Tryz.func34, Tryz.ntmps34
 go_wp2_with fail
 go_loop [9] (fun i => ∃ k : Nat, k <= fs.length /\ i = .int .i64 (k : Int)) (fun i => fs.length - (intOf i).toNat)
 case atStart => exact ⟨0, Nat.zero_le _, rfl⟩
 case round =>
  obtain ⟨k, hk, rfl⟩ := hrel
  by_cases hlt : k < fs.length
  ·have ck := HF.out.cells k hlt
   have HH := Lib.hid (spHas HS.out fs[k] (HF.out.ok _ (List.getElem_mem hlt)) hl)
   rw [HA.out _ (List.getElem_mem hlt)] at HH
   generalize fs[k] = x at *
   go_wp2_with fail
   refine HH.out.mono ?_
   rintro e w' ⟨rfl, rfl⟩
   clear HH
   go_wp2
   go_round
   case rel => exact ⟨k + 1, by omega, by go_num⟩
   case measure => simp [intOf]; omega
  ·go_wp2
   go_ret
   exact ⟨rfl, rfl⟩
theorem variable_any (hS : SpaceAt B w s b O vars room ns) (v : Int) (h0 : 0 <= v) (h1 : v < (vars : Int)) :
  Calls Tryz.prog 95 #[.pointer (some ⟨s, 0, none⟩), .int .i64 v] w fun e w' => e = .returned .nilIface /\ w = w' := by
 have c1 := hS.c1
 clear hS
 go_enter Tryz.func95, Tryz.ntmps95
 go_wp2
 all_goals
  go_ret
  exact ⟨rfl, rfl⟩
end
end
end Go.Proofs.YtcjjekhecjmaeaaGreatDoor
