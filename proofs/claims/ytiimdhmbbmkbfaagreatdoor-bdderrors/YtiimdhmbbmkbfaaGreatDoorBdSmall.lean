/- node, sides, present, variable, begin. -/
import Derived.Test.YtiimdhmbbmkbfaaGreatDoorBdAt
namespace Go.Proofs.YtiimdhmbbmkbfaaGreatDoor
open Go.RowKit Go.Maps

section
variable {B s b : Nat} {O : Nat → Prop} {vars : Nat} {room : Int} {ns : List Nd} {w : World}

set_option maxRecDepth 100000 in
set_option maxHeartbeats 1000000 in
theorem node_any (hS : SpaceAt B w s b O vars room ns) (hl : ns.length ≤ 90000) (hroom : (ns.length : Int) < room) (hB : B ≤ w.heap.size) (v l h : Int) (hv0 : 0 ≤ v) (hv1 : v < 24) (hl1 : hasB ns l = true) (hh1 : hasB ns h = true) (tl : v < topOf ns l) (th : v < topOf ns h) :
    Calls Tryz.prog 53 #[.pointer (some ⟨s, 0, none⟩), .int .i64 v, .int .i64 l, .int .i64 h] w fun e w' => e = .returned (.tuple #[.int .i64 (nodeF ns v l h).2, .nilIface]) ∧ ∃ O', SpaceAt B w' s b O' vars room (nodeF ns v l h).1 ∧ Moves O O' w w' := by
  have c0 := hS.c0
  by_cases e : l = h
  · have hn : nodeF ns v l h = (ns, l) := by unfold nodeF; rw [if_pos e]
    rw [hn]
    subst e
    have HS := Lib.hid hS
    clear hS hl1 hh1 tl th hn
    go_enter Tryz.func53, Tryz.ntmps53
    go_wp2
    go_ret2
    exact ⟨rfl, O, HS.out, Moves.refl _ _⟩
  · have hn : nodeF ns v l h = makeF ns ⟨v, l, h⟩ := by unfold nodeF; rw [if_neg e]
    rw [hn]
    have HM := Lib.hid (make_any hS hl hroom hB ⟨v, l, h⟩ ⟨⟨by show _ ≤ v; omega, by show v ≤ _; omega⟩, has_i64 hl1 (by omega), has_i64 hh1 (by omega)⟩ ⟨hv0, hv1, hl1, hh1, tl, th⟩)
    unfold Nd.val at HM
    clear hS hl1 hh1 tl th hn
    generalize makeF ns ⟨v, l, h⟩ = r at *
    go_enter Tryz.func53, Tryz.ntmps53
    go_wp2_with fail
    refine HM.out.mono ?_
    rintro e w' ⟨rfl, hO⟩
    go_wp2
    go_ret2
    exact ⟨rfl, hO⟩

set_option maxRecDepth 100000 in
set_option maxHeartbeats 1000000 in
theorem sides_any (hS : SpaceAt B w s b O vars room ns) (hl : ns.length ≤ 90000) (h v : Int) (hi : I64 h) (hv1 : v < 24) :
    Calls Tryz.prog 104 #[.pointer (some ⟨s, 0, none⟩), .int .i64 h, .int .i64 v] w fun e w' => e = .returned (.tuple #[.int .i64 (loS ns h v), .int .i64 (hiS ns h v)]) ∧ Below w.heap.size w w' := by
  have c0 := hS.c0
  have HG := Lib.hid (spGet hS h hi hl)
  have hsl := hS.slt
  by_cases ht : topOf ns h = 24
  · have e1 : loS ns h v = h := by unfold loS; rw [if_neg (by omega)]
    have e2 : hiS ns h v = h := by unfold hiS; rw [if_neg (by omega)]
    rw [e1, e2]
    rw [show decide (topOf ns h ≠ 24) = false by simp [ht]] at HG
    generalize getOf ns h = gn at *
    obtain ⟨gv, gl, gh⟩ := gn
    unfold Nd.val at HG
    clear hS e1 e2 ht
    go_enter Tryz.func104, Tryz.ntmps104
    go_wp2_with fail
    refine HG.out.mono ?_
    rintro e w1 ⟨rfl, hb1⟩
    have hb2 := hb1.alloc hb1.size (.cells #[.int .i64 gv, .int .i64 gl, .int .i64 gh] 99)
    clear HG
    go_wp2
    go_ret2
    exact ⟨rfl, hb2⟩
  · rw [show decide (topOf ns h ≠ 24) = true by simp [ht]] at HG
    have hgv : (getOf ns h).v = topOf ns h := by
      obtain ⟨h1, h2, h3, h4⟩ := node_at ht
      unfold getOf; rw [if_neg ht]; exact h3.symm
    have hgn : getOf ns h = nd ns (pl h) := by unfold getOf; rw [if_neg ht]; rfl
    by_cases ev : topOf ns h = v
    · have e1 : loS ns h v = (getOf ns h).l := by unfold loS; rw [if_pos ev, hgn]
      have e2 : hiS ns h v = (getOf ns h).h := by unfold hiS; rw [if_pos ev, hgn]
      rw [e1, e2]
      rw [ev] at hgv
      generalize getOf ns h = gn at *
      obtain ⟨gv, gl, gh⟩ := gn
      simp only at hgv
      subst hgv
      unfold Nd.val at HG
      clear hS e1 e2 ht ev hgn
      go_enter Tryz.func104, Tryz.ntmps104
      go_wp2_with fail
      refine HG.out.mono ?_
      rintro e w1 ⟨rfl, hb1⟩
      have hb2 := hb1.alloc hb1.size (.cells #[.int .i64 gv, .int .i64 gl, .int .i64 gh] 99)
      obtain ⟨x0, x1, x2, -⟩ := cell3 w1 (.int .i64 gv) (.int .i64 gl) (.int .i64 gh) 99
      clear HG
      go_wp2_with fail
      go_quiet (fail)
      go_wp2
      go_ret2
      exact ⟨rfl, hb2.trans (below_drewN _ _ _)⟩
    · have e1 : loS ns h v = h := by unfold loS; rw [if_neg ev]
      have e2 : hiS ns h v = h := by unfold hiS; rw [if_neg ev]
      rw [e1, e2]
      have hne : ¬ (getOf ns h).v = v := by rw [hgv]; exact ev
      generalize getOf ns h = gn at *
      obtain ⟨gv, gl, gh⟩ := gn
      simp only at hne
      unfold Nd.val at HG
      clear hS e1 e2 ht ev hgn hgv
      go_enter Tryz.func104, Tryz.ntmps104
      go_wp2_with fail
      refine HG.out.mono ?_
      rintro e w1 ⟨rfl, hb1⟩
      have hb2 := hb1.alloc hb1.size (.cells #[.int .i64 gv, .int .i64 gl, .int .i64 gh] 99)
      obtain ⟨x0, x1, x2, -⟩ := cell3 w1 (.int .i64 gv) (.int .i64 gl) (.int .i64 gh) 99
      clear HG
      go_wp2
      go_ret2
      exact ⟨rfl, hb2⟩

set_option maxRecDepth 100000 in
set_option maxHeartbeats 1000000 in
theorem present_any (hS : SpaceAt B w s b O vars room ns) (hl : ns.length ≤ 90000) (bf : Nat) {cp : Nat} (fs : List Int) (hF : IntsAt w bf fs) (hfl : fs.length ≤ 1000) (hall : ∀ x ∈ fs, hasB ns x = true) :
    Calls Tryz.prog 29 #[.pointer (some ⟨s, 0, none⟩), .slice (some ⟨bf, 0, none⟩) fs.length cp] w fun e w' => e = .returned .nilIface ∧ w = w' := by
  have c0 := hS.c0
  have HS := Lib.hid hS
  have HF := Lib.hid hF
  have HA := Lib.hid hall
  clear hS hF hall
  go_enter Tryz.func29, Tryz.ntmps29
  go_wp2_with fail
  go_loop [9] (fun i => ∃ k : Nat, k ≤ fs.length ∧ i = .int .i64 (k : Int)) (fun i => fs.length - (intOf i).toNat)
  case atStart => exact ⟨0, Nat.zero_le _, rfl⟩
  case round =>
    obtain ⟨k, hk, rfl⟩ := hrel
    by_cases hlt : k < fs.length
    · have ck := HF.out.cells k hlt
      have HH := Lib.hid (spHas HS.out fs[k] (HF.out.ok _ (List.getElem_mem hlt)) hl)
      rw [HA.out _ (List.getElem_mem hlt)] at HH
      generalize fs[k] = x at *
      go_wp2_with fail
      refine HH.out.mono ?_
      rintro e w' ⟨rfl, rfl⟩
      clear HH
      go_wp2
      go_round
      case rel => exact ⟨k + 1, by omega, by go_num⟩
      case measure => simp [intOf]; omega
    · go_wp2
      go_ret
      exact ⟨rfl, rfl⟩

set_option maxRecDepth 100000 in
set_option maxHeartbeats 1000000 in
theorem variable_any (hS : SpaceAt B w s b O vars room ns) (v : Int) (h0 : 0 ≤ v) (h1 : v < (vars : Int)) :
    Calls Tryz.prog 52 #[.pointer (some ⟨s, 0, none⟩), .int .i64 v] w fun e w' => e = .returned .nilIface ∧ w = w' := by
  have c1 := hS.c1
  clear hS
  go_enter Tryz.func52, Tryz.ntmps52
  go_wp2
  all_goals
    go_ret
    exact ⟨rfl, rfl⟩
end
end Go.Proofs.YtiimdhmbbmkbfaaGreatDoor
