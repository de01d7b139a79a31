/- Needs, in a space without nodes: nothing is sorted. -/
import Derived.Test.YtiimdhmbbmkbfaaGreatDoorBdErrC
import Derived.Test.YtiimdhmbbmkbfaaGreatDoorBdCountN
import Derived.Test.YtiimdhmbbmkbfaaGreatDoorBdHolds
import Derived.Test.YtiimdhmbbmkbfaaGreatDoorBdCount
namespace Go.Proofs.YtiimdhmbbmkbfaaGreatDoor
open Go.RowKit Go.Maps

structure ES (W0 w : World) (s b : Nat) (O : Nat → Prop) (vars : Nat) (room : Int) : Prop where
  space : SpaceAt W0.heap.size w s b O vars room []
  below : Below W0.heap.size W0 w
  own : ∀ k, O k → W0.heap.size ≤ k

/-- What a call tells, and leaves. -/
def EOut (W0 : World) (s b vars : Nat) (room E : Int) (e : Ending) (w' : World) : Prop :=
  ∃ (v : Value) (O' : Nat → Prop), e = .returned (.tuple #[v, errOf E]) ∧ ES W0 w' s b O' vars room

theorem told {e : Ending} {v X : Value} {E : Int} (he : e = .returned (.tuple #[v, X])) (hX : errOf E = X) : ∃ v, e = .returned (.tuple #[v, errOf E]) := ⟨v, by rw [he, hX]⟩
theorem top_nil (x : Int) : topOf [] x = 24 := by
  by_cases h : topOf [] x = 24
  · exact h
  · have := (node_at h).2.1; simp at this
theorem code_no {ns : List Nd} {x : Int} (h : hasB ns x = false) : errOf (codeH ns x) = .iface 52 (.int .i64 7) := by
  rw [show codeH ns x = 7 by unfold codeH; rw [h]; rfl]; rfl
theorem code_yes {ns : List Nd} {x : Int} (h : hasB ns x = true) : errOf (codeH ns x) = .nilIface := by
  rw [show codeH ns x = 0 by unfold codeH; rw [if_pos h]]; rfl

section
variable {W0 w w' : World} {s b : Nat} {O : Nat → Prop} {vars : Nat} {room : Int}
theorem ES.new (h : ES W0 w s b O vars room) (hb : Below w.heap.size w w') : ES W0 w' s b O vars room := ⟨h.space.new hb, h.below.trans (hb.mono h.below.size), h.own⟩
theorem ES.fresh (h : ES W0 w s b O vars room) {F : FuncId} {args : Array Value} {E : Int} (hc : Calls Tryz.prog F args w fun e w' => (∃ v, e = .returned (.tuple #[v, errOf E])) ∧ Below w.heap.size w w') : Calls Tryz.prog F args w (EOut W0 s b vars room E) :=
  hc.mono fun _ _ ⟨⟨v, he⟩, hb⟩ => ⟨v, O, he, h.new hb⟩
theorem ES.moved (h : ES W0 w s b O vars room) {F : FuncId} {args : Array Value} {x : Int} (hc : Calls Tryz.prog F args w (OpOut W0.heap.size s b O vars room ([], x) w)) : Calls Tryz.prog F args w (EOut W0 s b vars room 0) :=
  hc.mono fun _ _ ⟨he, O', hS, hM⟩ => ⟨_, O', he, hS, h.below.trans (hM.below h.below.size h.own), fun k hk => by
    rcases hM.own k hk with h1 | h1
    · exact h.own k h1
    · have := h.below.size; omega⟩

theorem ES.setE (h : ES W0 w s b O vars room) (x v : Int) (hi : I64 x) (is : Bool) : Calls Tryz.prog 23 #[.pointer (some ⟨s, 0, none⟩), .int .i64 x, .int .i64 v, .bool is] w (EOut W0 s b vars room (codeV vars [] x v)) :=
  h.fresh ((set_code h.space (by simp) x v hi (top_nil x) is).mono fun _ _ ⟨⟨r, he⟩, hb⟩ => ⟨⟨_, he⟩, hb⟩)
theorem ES.someE (h : ES W0 w s b O vars room) (x v : Int) (hi : I64 x) : Calls Tryz.prog 24 #[.pointer (some ⟨s, 0, none⟩), .int .i64 x, .int .i64 v] w (EOut W0 s b vars room (codeV vars [] x v)) :=
  h.fresh ((some_code h.space h.below.size (by simp) x v hi (top_nil x)).mono fun _ _ ⟨⟨r, he⟩, hb⟩ => ⟨⟨_, he⟩, hb⟩)
theorem ES.eachE (h : ES W0 w s b O vars room) (x v : Int) (hi : I64 x) : Calls Tryz.prog 25 #[.pointer (some ⟨s, 0, none⟩), .int .i64 x, .int .i64 v] w (EOut W0 s b vars room (codeV vars [] x v)) :=
  h.fresh ((each_code h.space h.below.size (by simp) x v hi (top_nil x)).mono fun _ _ ⟨⟨r, he⟩, hb⟩ => ⟨⟨_, he⟩, hb⟩)
theorem ES.holdsE (h : ES W0 w s b O vars room) (x : Int) (hi : I64 x) : Calls Tryz.prog 20 #[.pointer (some ⟨s, 0, none⟩), .int .i64 x, .int .u64 0] w (EOut W0 s b vars room (codeH [] x)) := by
  cases hh : hasB [] x with
  | false => exact h.fresh ((holds_no h.space (by simp) x hi hh 0).mono fun _ _ ⟨he, hb⟩ => ⟨told he (code_no hh), hb⟩)
  | true => exact h.fresh ((holds_any h.space (good_nil vars) (by simp) x hh 0 (by omega)).mono fun _ _ ⟨he, hb⟩ => ⟨told he (code_yes hh), hb⟩)
theorem ES.countE (h : ES W0 w s b O vars room) (hv : vars ≤ 24) (x : Int) (hi : I64 x) : Calls Tryz.prog 6 #[.pointer (some ⟨s, 0, none⟩), .int .i64 x] w (EOut W0 s b vars room (codeH [] x)) := by
  cases hh : hasB [] x with
  | false => exact h.fresh ((count_no h.space (by simp) x hi hh).mono fun _ _ ⟨⟨v, he⟩, hb⟩ => ⟨told he (code_no hh), hb⟩)
  | true => exact h.fresh ((count_any w h.space (good_nil vars) (by simp) hv x hh).mono fun _ _ ⟨v, he, _, hb⟩ => ⟨told he (code_yes hh), hb⟩)
end
end Go.Proofs.YtiimdhmbbmkbfaaGreatDoor

namespace Go.Proofs.YtiimdhmbbmkbfaaGreatDoor
open Go.RowKit Go.Maps

theorem has_nil {x : Int} (h : hasB [] x = true) : x = 0 ∨ x = 1 := by
  rcases hasB_cases h with h1 | h1 | h1
  · exact .inl h1
  · exact .inr h1
  · rw [top_nil] at h1; omega

section
variable {W0 w w' : World} {s b : Nat} {O : Nat → Prop} {vars : Nat} {room : Int}

set_option maxRecDepth 100000 in
set_option maxHeartbeats 1000000 in
theorem ES.iteE (h : ES W0 w s b O vars room) (x : Int) (hi : I64 x) : Calls Tryz.prog 18 #[.pointer (some ⟨s, 0, none⟩), .int .i64 x, .int .i64 1, .int .i64 1] w (EOut W0 s b vars room (codeH [] x)) := by
  cases hh : hasB [] x with
  | false => exact h.fresh ((ite_no h.space (by simp) x hi hh).mono fun _ _ ⟨he, hb⟩ => ⟨told he (code_no hh), hb⟩)
  | true =>
    have hc : codeH [] x = 0 := by unfold codeH; rw [if_pos hh]
    rw [hc]
    refine h.moved (x := 1) ?_
    have HA := Lib.hid (asked_known knows_ite h.space (good_nil vars) h.below.size (by simp) ⟨x, 1, 1⟩ ⟨hh, has_end1 [], has_end1 []⟩ 1 (by simp [knownF, iteK]))
    unfold Nd.val at HA
    clear h hc hh
    go_enter Tryz.func18, Tryz.ntmps18
    go_wp2_with fail
    refine HA.out.mono ?_
    rintro e w1 ⟨rfl, hO⟩
    go_wp2
    go_ret2
    exact ⟨rfl, hO⟩

set_option maxRecDepth 100000 in
set_option maxHeartbeats 1000000 in
theorem ES.notE (h : ES W0 w s b O vars room) (x : Int) (hi : I64 x) : Calls Tryz.prog 19 #[.pointer (some ⟨s, 0, none⟩), .int .i64 x] w (EOut W0 s b vars room (codeH [] x)) := by
  cases hh : hasB [] x with
  | false => exact h.fresh ((not_no h.space (by simp) x hi hh).mono fun _ _ ⟨he, hb⟩ => ⟨told he (code_no hh), hb⟩)
  | true =>
    have hc : codeH [] x = 0 := by unfold codeH; rw [if_pos hh]
    rw [hc]
    have hk : knownF true ⟨x, 0, 1⟩ = some (1 - x) := by
      rcases has_nil hh with rfl | rfl <;> simp [knownF, iteK]
    refine h.moved (x := 1 - x) ?_
    have HA := Lib.hid (asked_known knows_ite h.space (good_nil vars) h.below.size (by simp) ⟨x, 0, 1⟩ ⟨hh, has_end0 [], has_end1 []⟩ (1 - x) hk)
    unfold Nd.val at HA
    generalize 1 - x = y at *
    clear h hc hh hk
    go_enter Tryz.func19, Tryz.ntmps19
    go_wp2_with fail
    refine HA.out.mono ?_
    rintro e w1 ⟨rfl, hO⟩
    go_wp2
    go_ret2
    exact ⟨rfl, hO⟩

theorem ES.sizeE (h : ES W0 w s b O vars room) (x : Int) (hi : I64 x) : Calls Tryz.prog 8 #[.pointer (some ⟨s, 0, none⟩), .int .i64 x] w (EOut W0 s b vars room (codeH [] x)) := by
  cases hh : hasB [] x with
  | false => exact h.fresh ((size_no h.space (by simp) x hi hh).mono fun _ _ ⟨he, hb⟩ => ⟨told he (code_no hh), hb⟩)
  | true => exact h.fresh ((size_op h.space (good_nil vars).ranked (by simp) h.below.size x hh).mono fun _ _ ⟨he, hb⟩ => ⟨told he (code_yes hh), hb⟩)

/-- What is told of Lit. -/
def codeL (vars : Nat) (room v : Int) : Int := if v < 0 ∨ (vars : Int) ≤ v then 2 else if room ≤ 0 then 12 else 0

set_option maxRecDepth 100000 in
set_option maxHeartbeats 1000000 in
theorem node_full (hS : SpaceAt W0.heap.size w s b O vars room []) (hr : room ≤ 0) (v : Int) (hv0 : 0 ≤ v) (hv1 : v < 24) :
    Calls Tryz.prog 53 #[.pointer (some ⟨s, 0, none⟩), .int .i64 v, .int .i64 1, .int .i64 0] w fun e w' => e = .returned (.tuple #[.int .i64 0, .iface 52 (.int .i64 12)]) ∧ Below w.heap.size w w' := by
  have c0 := hS.c0
  obtain ⟨bm, vv, L, next, hA, hBk, -, -⟩ := hS.arena
  have hL : L = [] := by
    cases L with
    | nil => rfl
    | cons p L => obtain ⟨i, hi, -⟩ := hBk.mem p (List.mem_cons_self ..); simp at hi
  subst hL
  have HM := Lib.hid (make_full hA (by simp) ⟨v, 1, 0⟩ ⟨⟨by show _ ≤ v; omega, by show v ≤ _; omega⟩, ⟨by simp, by simp⟩, ⟨by simp, by simp⟩⟩ ⟨hv0, hv1, has_end1 [], has_end0 [], by show v < topOf [] 1; rw [top_nil]; exact hv1, by show v < topOf [] 0; rw [top_nil]; exact hv1⟩ (by simp) (by simpa using hr))
  unfold Nd.val at HM
  clear hS hA hBk
  go_enter Tryz.func53, Tryz.ntmps53
  go_wp2_with fail
  refine HM.out.mono ?_
  rintro e w' ⟨rfl, hb⟩
  go_wp2
  go_ret2
  exact ⟨rfl, hb⟩

set_option maxRecDepth 100000 in
set_option maxHeartbeats 1000000 in
theorem ES.litE (h : ES W0 w s b O vars room) (hvars : vars ≤ 24) (v : Int) : Calls Tryz.prog 26 #[.pointer (some ⟨s, 0, none⟩), .int .i64 v, .bool false] w fun e w' => (∃ x, e = .returned (.tuple #[x, errOf (codeL vars room v)])) ∧ Below W0.heap.size W0 w' ∧ ∀ p, ¬ O p → p < w.heap.size → w'.cell? ⟨p, 0, none⟩ = w.cell? ⟨p, 0, none⟩ := by
  by_cases hv : v < 0 ∨ (vars : Int) ≤ v
  · have e : errOf (codeL vars room v) = .iface 52 (.int .i64 2) := by rw [show codeL vars room v = 2 by unfold codeL; rw [if_pos hv]]; rfl
    rw [e]
    have HV := Lib.hid (variable_no h.space v hv)
    have HB := Lib.hid h.below
    clear h hv e
    go_enter Tryz.func26, Tryz.ntmps26
    go_wp2_with fail
    refine HV.out.mono ?_
    rintro e w1 ⟨rfl, rfl⟩
    go_wp2
    go_ret2
    exact ⟨⟨_, rfl⟩, HB.out, fun _ _ _ => rfl⟩
  · have HV := Lib.hid (variable_any h.space v (by omega) (by omega))
    by_cases hr : room ≤ 0
    · have e : errOf (codeL vars room v) = .iface 52 (.int .i64 12) := by rw [show codeL vars room v = 12 by unfold codeL; rw [if_neg hv, if_pos hr]]; rfl
      rw [e]
      have HN := Lib.hid (node_full h.space hr v (by omega) (by omega))
      have HB := Lib.hid h.below
      clear h hv e
      go_enter Tryz.func26, Tryz.ntmps26
      go_wp2_with fail
      refine HV.out.mono ?_
      rintro e w1 ⟨rfl, rfl⟩
      go_wp2_with fail
      refine HN.out.mono ?_
      rintro e w1 ⟨rfl, hb⟩
      have HB2 := Lib.hid (HB.out.trans (hb.mono HB.out.size))
      have HB3 := Lib.hid hb
      clear hb HN HV
      go_wp2
      go_ret2
      exact ⟨⟨_, rfl⟩, HB2.out, fun p _ hp => HB3.out.cell (p := ⟨p, 0, none⟩) hp⟩
    · have e : errOf (codeL vars room v) = .nilIface := by rw [show codeL vars room v = 0 by unfold codeL; rw [if_neg hv, if_neg hr]]; rfl
      rw [e]
      have HN := Lib.hid (node_any h.space (by simp) (by simp; omega) h.below.size v 1 0 (by omega) (by omega) (has_end1 []) (has_end0 []) (by rw [top_nil]; omega) (by rw [top_nil]; omega))
      have HB := Lib.hid h.below
      have HO := Lib.hid h.own
      generalize nodeF [] v 1 0 = r at *
      clear h hv e
      go_enter Tryz.func26, Tryz.ntmps26
      go_wp2_with fail
      refine HV.out.mono ?_
      rintro e w1 ⟨rfl, rfl⟩
      go_wp2_with fail
      refine HN.out.mono ?_
      rintro e w1 ⟨rfl, O', -, hM⟩
      have HB2 := Lib.hid (HB.out.trans (hM.below HB.out.size HO.out))
      have HM := Lib.hid hM
      clear hM HN HV
      go_wp2
      go_ret2
      exact ⟨⟨_, rfl⟩, HB2.out, fun p ho hp => HM.out.cell (a := ⟨p, 0, none⟩) hp ho⟩
end
end Go.Proofs.YtiimdhmbbmkbfaaGreatDoor

namespace Go.Proofs.YtiimdhmbbmkbfaaGreatDoor
open Go.RowKit Go.Maps

set_option maxRecDepth 100000 in
set_option maxHeartbeats 1000000 in
theorem len64_zero (w : World) : Calls Tryz.prog 95 #[.int .u64 0] w fun e w' => e = .returned (.int .i64 0) ∧ Below w.heap.size w w' := by
  go_enter Tryz.func95, Tryz.ntmps95
  go_wp2
  go_ret
  exact ⟨congrArg (fun z => Ending.returned (Value.int .i64 z)) (show wrap64 (wrap64 (Lib.len8 0)) = 0 by decide +kernel), Below.refl _ _⟩

set_option maxRecDepth 100000 in
set_option maxHeartbeats 1000000 in
theorem len_zero (w : World) : Calls Tryz.prog 65 #[.int .u64 0] w fun e w' => e = .returned (.int .i64 0) ∧ Below w.heap.size w w' := by
  go_enter Tryz.func65, Tryz.ntmps65
  go_wp2_with fail
  refine (len64_zero w).mono ?_
  rintro e w' ⟨rfl, hb⟩
  go_wp2
  go_ret
  exact ⟨rfl, hb⟩

set_option maxRecDepth 100000 in
set_option maxHeartbeats 1000000 in
theorem ins_nil (w : World) : Calls Tryz.prog 85 #[.slice none 0 0, .int .i64 0, .int .i64 0] w fun e w' => e = .returned (.tuple #[]) ∧ Below w.heap.size w w' := by
  go_enter Tryz.func85, Tryz.ntmps85
  go_wp2_with fail
  refine wp_loop_rounds 1 ?_
  rw [rounds_succ]
  go_wp2
  refine bodyPost_end (v := .tuple #[]) (by simp [results, Tryz.results85, go_sem]) rfl ?_
  exact ⟨rfl, Below.refl _ _⟩

set_option maxRecDepth 100000 in
set_option maxHeartbeats 1000000 in
theorem pdq_nil (w : World) : Calls Tryz.prog 64 #[.slice none 0 0, .int .i64 0, .int .i64 0, .int .i64 0] w fun e w' => e = .returned (.tuple #[]) ∧ Below w.heap.size w w' := by
  go_enter Tryz.func64, Tryz.ntmps64
  go_wp2_with fail
  refine wp_loop_rounds 1 ?_
  rw [rounds_succ]
  go_wp2_with fail
  refine (ins_nil w).mono ?_
  rintro e w' ⟨rfl, hb⟩
  go_wp2
  refine bodyPost_ret (v := .tuple #[]) (by simp [results, Tryz.results64, go_sem]) rfl ?_
  exact ⟨rfl, hb⟩

set_option maxRecDepth 100000 in
set_option maxHeartbeats 1000000 in
theorem sort_nil (w : World) : Calls Tryz.prog 33 #[.slice none 0 0] w fun e w' => e = .returned (.tuple #[]) ∧ Below w.heap.size w w' := by
  go_enter Tryz.func33, Tryz.ntmps33
  go_wp2_with fail
  refine (len_zero w).mono ?_
  rintro e w1 ⟨rfl, hb1⟩
  go_wp2_with fail
  refine (pdq_nil w1).mono ?_
  rintro e w2 ⟨rfl, hb2⟩
  have hb3 := hb1.trans (hb2.mono hb1.size)
  go_wp2
  refine bodyPost_end (v := .tuple #[]) (by simp [results, Tryz.results33, go_sem]) rfl ?_
  exact ⟨rfl, hb3⟩

set_option maxRecDepth 100000 in
set_option maxHeartbeats 1000000 in
theorem compact_nil (w : World) : Calls Tryz.prog 34 #[.slice none 0 0] w fun e w' => e = .returned (.slice none 0 0) ∧ Below w.heap.size w w' := by
  go_enter Tryz.func34, Tryz.ntmps34
  go_wp2
  go_ret
  exact ⟨rfl, Below.refl _ _⟩

theorem taken_nil (M : List Bool) : (taken (swept [] M)).length = 0 := by
  have : (swept [] M).length = 0 := by simp [swept]
  cases h : swept [] M with
  | nil => simp [taken]
  | cons a l => rw [h] at this; simp at this

set_option maxRecDepth 100000 in
set_option maxHeartbeats 1000000 in
theorem needs_end {W0 w : World} {s b : Nat} {O : Nat → Prop} {vars : Nat} {room : Int} (h : ES W0 w s b O vars room) (x : Int) (hx : hasB [] x = true) :
    Calls Tryz.prog 7 #[.pointer (some ⟨s, 0, none⟩), .int .i64 x] w fun e w' => e = .returned (.tuple #[.slice none 0 0, .nilIface]) ∧ Below w.heap.size w w' := by
  have hi := has_i64 hx (by simp)
  have hb := below_new w (.cells #[.int .i64 x] 3)
  have h1 := h.space.new hb
  have HP := present_any (cp := 1) h1 (by simp) w.heap.size [x] (ints1 w x hi) (by simp) (fun y hy => by rw [List.mem_singleton] at hy; subst hy; exact hx)
  have hb2 := hb.alloc hb.size (.cells #[.int .i64 x] 3)
  have HR := spReach (cp := 1) (h.space.new hb2) (good_nil vars).ranked (by simp) (by have := hb2.size; have := h.below.size; omega) (w.alloc (.cells #[.int .i64 x] 3)).heap.size [x] (ints1 _ x hi) (by simp)
  have c0 := h1.c0
  rw [show [x].length = 1 from rfl] at HP HR
  rw [taken_nil] at HR
  have ez : (w.alloc (.cells #[.int .i64 x] 3)).heap.size = w.heap.size + 1 := by simp
  rw [ez] at HR
  have HPR := Lib.hid HP
  have HRR := Lib.hid HR
  have HB2 := Lib.hid hb2
  clear HP HR h h1 hx hb hb2 ez
  go_enter Tryz.func7, Tryz.ntmps7
  go_wp2_with fail
  refine HPR.out.mono ?_
  rintro e w1 ⟨rfl, rfl⟩
  clear HPR
  go_wp2_with fail
  refine HRR.out.mono ?_
  rintro e w2 ⟨a, c, rfl, hb3⟩
  have hb4 := HB2.out.trans (hb3.mono HB2.out.size)
  clear hb3 HRR
  go_wp2_with fail
  refine wp_loop_rounds 1 ?_
  rw [rounds_succ]
  go_wp2_with fail
  refine (sort_nil w2).mono ?_
  rintro e w3 ⟨rfl, hb5⟩
  have hb6 := hb4.trans (hb5.mono hb4.size)
  go_wp2_with fail
  refine (compact_nil w3).mono ?_
  rintro e w4 ⟨rfl, hb7⟩
  have hb8 := hb6.trans (hb7.mono hb6.size)
  clear hb4 hb5 hb6 hb7
  go_wp2
  go_ret2
  exact ⟨rfl, hb8⟩

theorem ES.needsE {W0 w : World} {s b : Nat} {O : Nat → Prop} {vars : Nat} {room : Int} (h : ES W0 w s b O vars room) (x : Int) (hi : I64 x) : Calls Tryz.prog 7 #[.pointer (some ⟨s, 0, none⟩), .int .i64 x] w (EOut W0 s b vars room (codeH [] x)) := by
  cases hh : hasB [] x with
  | false => exact h.fresh ((needs_no h.space (by simp) x hi hh).mono fun _ _ ⟨he, hb⟩ => ⟨told he (code_no hh), hb⟩)
  | true => exact h.fresh ((needs_end h x hh).mono fun _ _ ⟨he, hb⟩ => ⟨told he (code_yes hh), hb⟩)
end Go.Proofs.YtiimdhmbbmkbfaaGreatDoor
