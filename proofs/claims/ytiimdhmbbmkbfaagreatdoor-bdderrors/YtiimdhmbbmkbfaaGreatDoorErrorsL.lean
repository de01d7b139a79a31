/- BddErrors: what is told of a variable, of Lit. -/
import Derived.Test.YtiimdhmbbmkbfaaGreatDoorBdErrN
import Derived.ProofKit
namespace Go.Proofs.YtiimdhmbbmkbfaaGreatDoor
open Go.RowKit Go.Maps

section
variable {B s b wk dm : Nat} {O : Nat → Prop} {vars : Nat} {room : Int} {ns : List Nd} {m : List (Nd × Int)} {w w' : World}

set_option maxRecDepth 100000 in
set_option maxHeartbeats 1000000 in
theorem wand_one (h : WS B w s b wk dm O 45 true vars room ns m) (y : Int) :
    Calls Tryz.prog 48 #[.pointer (some ⟨wk, 0, none⟩), .int .i64 1, .int .i64 y] w fun e w' => e = .returned (.tuple #[.int .i64 y, .nilIface]) ∧ ∃ O', WS B w' s b wk dm O' 45 true vars room ns m ∧ MM O O' dm w w' := by
  have HC : Hid (∀ W, Below w.heap.size w W → Calls Tryz.prog 73 #[.pointer (some ⟨wk, 0, none⟩), .agg #[.int .i64 1, .int .i64 y, .int .i64 0]] W fun e w' => e = .returned (.tuple #[.int .i64 y, .nilIface]) ∧ ∃ O', WS B w' s b wk dm O' 45 true vars room ns m ∧ MM O O' dm w w') := fun W hW =>
    (makes_known (k := ⟨1, y, 0⟩) (h.new hW) knows_ite y (by simp [knownF, iteK])).mono fun e w' ⟨he, O', h1, h2⟩ => ⟨he, O', h1, (MM.of_below hW).trans h2⟩
  clear h
  go_enter Tryz.func48, Tryz.ntmps48
  go_wp2_with fail
  refine (both_any 1 y w).mono ?_
  rintro e w1 ⟨rfl, hb1⟩
  have HC' := Lib.hid (HC.out w1 hb1)
  clear HC
  go_wp2_with fail
  refine HC'.out.mono ?_
  rintro e w' ⟨rfl, hO⟩
  go_wp2
  go_ret2
  exact ⟨rfl, hO⟩
end

theorem ints2 (w : World) (x y : Int) (hx : I64 x) (hy : I64 y) : IntsAt (w.alloc (.cells #[.int .i64 x, .int .i64 y] 3)) w.heap.size [x, y] := by
  refine ⟨by simp, fun i hi => ?_, fun z hz => ?_⟩
  · have h2 : i < 2 := hi
    obtain rfl | rfl : i = 0 ∨ i = 1 := by omega
    · simp
    · simp
  · simp at hz
    rcases hz with rfl | rfl
    · exact hx
    · exact hy

section
variable {W0 w w' : World} {s b : Nat} {O : Nat → Prop} {vars : Nat} {room : Int}
set_option maxRecDepth 100000 in
set_option maxHeartbeats 2000000 in
theorem ES.allE (h : ES W0 w s b O vars room) (bf : Nat) (x : Int) (hi : I64 x) (hF : IntsAt w bf [1, x]) (hfo : ¬ O bf) :
    Calls Tryz.prog 21 #[.pointer (some ⟨s, 0, none⟩), .slice (some ⟨bf, 0, none⟩) 2 2] w (EOut W0 s b vars room (codeH [] x)) := by
  cases hh : hasB [] x with
  | false =>
    refine h.fresh ?_
    rw [code_no hh]
    have HP := Lib.hid (present_no (cp := 2) h.space (by simp) bf [1, x] hF (by simp) ⟨x, by simp, hh⟩)
    rw [show [(1 : Int), x].length = 2 from rfl] at HP
    clear h hh hF
    go_enter Tryz.func21, Tryz.ntmps21
    go_wp2_with fail
    refine HP.out.mono ?_
    rintro e w1 ⟨rfl, rfl⟩
    go_wp2
    go_ret2
    exact ⟨⟨_, rfl⟩, Below.refl _ _⟩
  | true =>
    have hc : codeH [] x = 0 := by unfold codeH; rw [if_pos hh]
    rw [hc]
    refine h.moved (x := x) ?_
    have HP := Lib.hid (present_any (cp := 2) h.space (by simp) bf [1, x] hF (by simp) (fun y hy => by
      simp at hy
      rcases hy with rfl | rfl
      · exact has_end1 []
      · exact hh))
    rw [show [(1 : Int), x].length = 2 from rfl] at HP
    have hS := h.space
    have HBG : Hid (Calls Tryz.prog 47 #[.pointer (some ⟨s, 0, none⟩), .func (.func 45) #[] #[]] w fun e w' => e = .returned (.pointer (some ⟨w.heap.size + 1, 0, none⟩)) ∧ WS W0.heap.size w' s b (w.heap.size + 1) w.heap.size O 45 true vars room [] [] ∧ Below w.heap.size w w') :=
      (begin_any s 45 w W0.heap.size h.below.size).mono fun e w' ⟨he, hwk, hb⟩ => by
        have hsl := hS.slt
        exact ⟨he, ⟨hS.new hb, hwk, good_nil vars, memo_nil true [], fun ho => by have := (hS.own _ ho).2; omega, fun ho => by have := (hS.own _ ho).2; omega, by omega, Nat.le_trans h.below.size hb.size⟩, hb⟩
    have HF := Lib.hid hF
    clear h hh hF hS hc
    go_enter Tryz.func21, Tryz.ntmps21
    go_wp2_with fail
    refine HP.out.mono ?_
    rintro e wz ⟨rfl, rfl⟩
    clear HP
    go_wp2_with fail
    refine HBG.out.mono ?_
    rintro e w1 ⟨rfl, hw1, hb1⟩
    have hs1 := hb1.size
    have HW1 := Lib.hid hw1
    have HB1 := Lib.hid hb1
    clear HBG hw1 hb1
    go_wp2_with fail
    go_loopw [8, 23] (fun oV iV wr => ∃ (k : Nat) (y : Int) (O1 : Nat → Prop), k ≤ 2 ∧ iV = .int .i64 (k : Int) ∧ oV = .int .i64 y ∧ (k ≤ 1 → y = 1) ∧ (k = 2 → y = x) ∧ WS W0.heap.size wr s b (w.heap.size + 1) w.heap.size O1 45 true vars room [] [] ∧ MM O O1 w.heap.size w1 wr)
      (fun _ iV _ => 2 - (intOf iV).toNat)
    case atStart =>
      exact ⟨0, 1, O, by omega, rfl, rfl, fun _ => rfl, fun h => by omega, HW1.out, MM.of_below (Below.refl _ _)⟩
    case round =>
      obtain ⟨k, y, O1, hk, rfl, rfl, hy1, hy2, hw, hmm⟩ := hrel
      clear HW1
      by_cases hlt : k < 2
      · have ck : wr.cell? ⟨bf, k, none⟩ = some (.int .i64 ([1, x][k]'(by simpa using hlt))) := by
          have h1 := (HB1.out.cell (p := ⟨bf, k, none⟩) HF.out.lt).trans (HF.out.cells k (by simpa using hlt))
          have hlt1 : bf < w1.heap.size := by have := HF.out.lt; omega
          exact (hmm.cell (a := ⟨bf, k, none⟩) hlt1 hfo (by have := HF.out.lt; show bf ≠ _; omega)).trans h1
        obtain rfl := hy1 (by omega)
        have hz : [1, x][k]'(by simpa using hlt) = if k = 0 then 1 else x := by
          obtain rfl | rfl : k = 0 ∨ k = 1 := by omega
          · rfl
          · rfl
        rw [hz] at ck
        generalize hyz : (if k = 0 then (1 : Int) else x) = z at *
        have HYZ := Lib.hid hyz
        have HC := Lib.hid (wand_one hw z)
        have HMM := Lib.hid hmm
        clear hw hmm hz hyz hy1 hy2
        go_wp2_with fail
        refine HC.out.mono ?_
        rintro e w3 ⟨rfl, O3, hw3, mm3⟩
        have HW3 := Lib.hid hw3
        have HM3 := Lib.hid (HMM.out.trans mm3)
        clear HC hw3 mm3 HMM
        go_wp2
        go_roundw
        case rel =>
          refine ⟨k + 1, z, O3, by omega, by go_num, rfl, fun h => ?_, fun h => ?_, HW3.out, HM3.out⟩
          · rw [← HYZ.out, if_pos (by omega)]
          · rw [← HYZ.out, if_neg (by omega)]
        case measure => simp [intOf]; omega
      · obtain rfl : k = 2 := by omega
        obtain rfl := hy2 rfl
        have hfin := moves_of_mm HB1.out (Nat.le_refl _) hmm
        have HFIN := Lib.hid hfin
        have HS := Lib.hid hw.space
        clear hmm hfin hw hy1 hy2
        go_wp2
        go_ret2
        exact ⟨rfl, O1, HS.out, HFIN.out⟩

/-- What 'is' says of an error, that is told as E. -/
def isE (roomy : Bool) (E C : Int) : Bool := E == C || (C == 0 && !roomy && E == 12)

theorem bare_code (E k : Int) (w : World) (hg : Glob w) : Calls Tryz.prog 16 #[errOf E, .int .i64 k] w fun e w' => e = .returned (.bool (E == k)) ∧ Below w.heap.size w w' := by
  by_cases h : E = 0
  · subst h; exact bare_nil k w
  · unfold errOf
    rw [if_neg h]
    exact bare_errno E k w hg
end
end Go.Proofs.YtiimdhmbbmkbfaaGreatDoor

namespace Go.Proofs.YtiimdhmbbmkbfaaGreatDoor
open Go.RowKit Go.Maps

set_option maxRecDepth 100000 in
set_option maxHeartbeats 2000000 in
theorem is_any (E C : Int) (roomy : Bool) (pr : Nat) (w : World) (hg : Glob w) (hc : w.cell? ⟨pr, 0, none⟩ = some (.bool roomy)) :
    Calls Tryz.prog 22 #[errOf E, .int .i64 C, .pointer (some ⟨pr, 0, none⟩)] w fun e w' => e = .returned (.bool (isE roomy E C)) ∧ Below w.heap.size w w' := by
  have hlt := World.block_lt_of_cell? _ _ hc
  have HB : Hid (∀ k W, Below w.heap.size w W → Calls Tryz.prog 16 #[errOf E, .int .i64 k] W fun e w' => e = .returned (.bool (E == k)) ∧ Below W.heap.size W w') := fun k W hW => bare_code E k W (hg.below hW)
  have HC : Hid (∀ W, Below w.heap.size w W → W.cell? ⟨pr, 0, none⟩ = some (.bool roomy)) := fun W hW => (hW.cell (p := ⟨pr, 0, none⟩) hlt).trans hc
  have B1 := Lib.hid (HB.out C w (Below.refl _ _))
  clear hg hc
  by_cases h1 : E = C
  · have e1 : (E == C) = true := by simp [h1]
    have e2 : isE roomy E C = true := by unfold isE; rw [e1]; rfl
    rw [e2]
    rw [e1] at B1
    clear e1 e2 h1 HB HC
    generalize errOf E = ev at *
    go_enter Tryz.func22, Tryz.ntmps22
    go_wp2_with fail
    refine B1.out.mono ?_
    rintro e w1 ⟨rfl, hb⟩
    go_wp2
    go_ret
    exact ⟨rfl, hb⟩
  · have e1 : (E == C) = false := by simp [h1]
    rw [e1] at B1
    by_cases h2 : C = 0
    · subst h2
      cases roomy with
      | true =>
        have e2 : isE true E 0 = false := by unfold isE; rw [e1]; rfl
        rw [e2]
        clear e1 e2 h1 HB
        generalize errOf E = ev at *
        go_enter Tryz.func22, Tryz.ntmps22
        go_wp2_with fail
        refine B1.out.mono ?_
        rintro e w1 ⟨rfl, hb⟩
        have cc := HC.out w1 hb
        go_wp2
        go_ret
        exact ⟨rfl, hb⟩
      | false =>
        have e2 : isE false E 0 = (E == 12) := by unfold isE; rw [e1]; rfl
        rw [e2]
        clear e1 e2 h1
        go_enter Tryz.func22, Tryz.ntmps22
        go_wp2_with fail
        refine B1.out.mono ?_
        rintro e w1 ⟨rfl, hb⟩
        have cc := HC.out w1 hb
        have B2 := Lib.hid (HB.out 12 w1 hb)
        go_wp2_with fail
        refine B2.out.mono ?_
        rintro e w2 ⟨rfl, hb2⟩
        have hb3 := hb.trans (hb2.mono hb.size)
        clear B1 B2 HB HC hb2 cc
        go_wp2
        go_ret
        exact ⟨rfl, hb3⟩
    · have e2 : isE roomy E C = false := by
        unfold isE
        rw [e1, show (C == 0) = false by simp [h2]]; rfl
      rw [e2]
      have e3 : (C == 0) = false := by simp [h2]
      clear e1 e2 h1 HB
      generalize errOf E = ev at *
      go_enter Tryz.func22, Tryz.ntmps22
      go_wp2_with fail
      refine B1.out.mono ?_
      rintro e w1 ⟨rfl, hb⟩
      go_wp2
      go_ret
      exact ⟨rfl, hb⟩
end Go.Proofs.YtiimdhmbbmkbfaaGreatDoor

namespace Go.Proofs.YtiimdhmbbmkbfaaGreatDoor
open Go.RowKit Go.Maps

theorem isE_self (r : Bool) (E : Int) : isE r E E = true := by unfold isE; simp
theorem code_is {x C : Int} (h : (x = 0 ∨ x = 1) ∧ C = 0 ∨ (x ≠ 0 ∧ x ≠ 1) ∧ C = 7) : codeH [] x = C := by
  unfold codeH
  rcases h with ⟨h, rfl⟩ | ⟨⟨h0, h1⟩, rfl⟩
  · rcases h with rfl | rfl
    · rw [if_pos (has_end0 [])]
    · rw [if_pos (has_end1 [])]
  · rw [if_neg]
    intro hh
    rcases has_nil hh with h | h
    · exact h0 h
    · exact h1 h

/-- Count, with the form of what it returns. -/
theorem ES.countF {W0 w : World} {s b : Nat} {O : Nat → Prop} {vars : Nat} {room : Int} (h : ES W0 w s b O vars room) (hv : vars ≤ 24) (x : Int) (hi : I64 x) : Calls Tryz.prog 6 #[.pointer (some ⟨s, 0, none⟩), .int .i64 x] w fun e w' => ∃ a n c O', e = .returned (.tuple #[.agg #[.slice a n c], errOf (codeH [] x)]) ∧ ES W0 w' s b O' vars room := by
  cases hh : hasB [] x with
  | false => exact (count_noF h.space (by simp) x hi hh).mono fun e w' ⟨he, hb⟩ => ⟨none, 0, 0, O, by rw [he, code_no hh], h.new hb⟩
  | true =>
    refine (count_any w h.space (good_nil vars) (by simp) hv x hh).mono ?_
    rintro e w' ⟨v, he, ⟨⟨a, n, c⟩, rfl, -⟩, hb⟩
    exact ⟨a, n, c, O, by rw [he, code_yes hh]; rfl, h.new hb⟩

structure IS (W0 w : World) (s b : Nat) (O : Nat → Prop) (vars : Nat) (room : Int) (pr : Nat) (r : Bool) : Prop where
  es : ES W0 w s b O vars room
  glob : Glob W0
  cell : w.cell? ⟨pr, 0, none⟩ = some (.bool r)
  o : ¬ O pr

section
variable {W0 w w' : World} {s b : Nat} {O : Nat → Prop} {vars : Nat} {room : Int} {pr : Nat} {r : Bool}
theorem IS.make (h : ES W0 w s b O vars room) (hg : Glob W0) (r : Bool) : IS W0 (w.alloc (.cells #[.bool r] 4)) s b O vars room w.heap.size r :=
  ⟨h.new (below_new w _), hg, by simp, fun ho => by have := (h.space.own _ ho).2; omega⟩
theorem IS.new (h : IS W0 w s b O vars room pr r) (hb : Below w.heap.size w w') : IS W0 w' s b O vars room pr r :=
  ⟨h.es.new hb, h.glob, (hb.cell (p := ⟨pr, 0, none⟩) (World.block_lt_of_cell? _ _ h.cell)).trans h.cell, h.o⟩
theorem IS.is (h : IS W0 w s b O vars room pr r) (E : Int) : Calls Tryz.prog 22 #[errOf E, .int .i64 E, .pointer (some ⟨pr, 0, none⟩)] w fun e w' => e = .returned (.bool true) ∧ IS W0 w' s b O vars room pr r := by
  have := is_any E E r pr w (h.glob.below h.es.below) h.cell
  rw [isE_self] at this
  exact this.mono fun _ _ ⟨he, hb⟩ => ⟨he, h.new hb⟩
theorem IS.bare (h : IS W0 w s b O vars room pr r) (E : Int) : Calls Tryz.prog 16 #[errOf E, .int .i64 E] w fun e w' => e = .returned (.bool true) ∧ IS W0 w' s b O vars room pr r := by
  have := bare_code E E w (h.glob.below h.es.below)
  rw [show (E == E) = true by simp] at this
  exact this.mono fun _ _ ⟨he, hb⟩ => ⟨he, h.new hb⟩
theorem IS.fresh (h : IS W0 w s b O vars room pr r) {F : FuncId} {args : Array Value} {E : Int} (hc : Calls Tryz.prog F args w fun e w' => (∃ v, e = .returned (.tuple #[.int .i64 v, errOf E])) ∧ Below w.heap.size w w') : Calls Tryz.prog F args w fun e w' => (∃ v, e = .returned (.tuple #[.int .i64 v, errOf E])) ∧ IS W0 w' s b O vars room pr r :=
  hc.mono fun _ _ ⟨he, hb⟩ => ⟨he, h.new hb⟩
theorem IS.set (h : IS W0 w s b O vars room pr r) (x v : Int) (hi : I64 x) (is : Bool) : Calls Tryz.prog 23 #[.pointer (some ⟨s, 0, none⟩), .int .i64 x, .int .i64 v, .bool is] w fun e w' => (∃ z, e = .returned (.tuple #[.int .i64 z, errOf (codeV vars [] x v)])) ∧ IS W0 w' s b O vars room pr r :=
  h.fresh (set_code h.es.space (by simp) x v hi (top_nil x) is)
theorem IS.someI (h : IS W0 w s b O vars room pr r) (x v : Int) (hi : I64 x) : Calls Tryz.prog 24 #[.pointer (some ⟨s, 0, none⟩), .int .i64 x, .int .i64 v] w fun e w' => (∃ z, e = .returned (.tuple #[.int .i64 z, errOf (codeV vars [] x v)])) ∧ IS W0 w' s b O vars room pr r :=
  h.fresh (some_code h.es.space h.es.below.size (by simp) x v hi (top_nil x))
theorem IS.eachI (h : IS W0 w s b O vars room pr r) (x v : Int) (hi : I64 x) : Calls Tryz.prog 25 #[.pointer (some ⟨s, 0, none⟩), .int .i64 x, .int .i64 v] w fun e w' => (∃ z, e = .returned (.tuple #[.int .i64 z, errOf (codeV vars [] x v)])) ∧ IS W0 w' s b O vars room pr r :=
  h.fresh (each_code h.es.space h.es.below.size (by simp) x v hi (top_nil x))

/-- Behind the last call. -/
structure JS (W0 w : World) (pr : Nat) (r : Bool) : Prop where
  below : Below W0.heap.size W0 w
  glob : Glob W0
  cell : w.cell? ⟨pr, 0, none⟩ = some (.bool r)
theorem JS.new (h : JS W0 w pr r) (hb : Below w.heap.size w w') : JS W0 w' pr r :=
  ⟨h.below.trans (hb.mono h.below.size), h.glob, (hb.cell (p := ⟨pr, 0, none⟩) (World.block_lt_of_cell? _ _ h.cell)).trans h.cell⟩
theorem JS.is (h : JS W0 w pr r) (E C : Int) (he : isE r E C = true) : Calls Tryz.prog 22 #[errOf E, .int .i64 C, .pointer (some ⟨pr, 0, none⟩)] w fun e w' => e = .returned (.bool true) ∧ JS W0 w' pr r := by
  have := is_any E C r pr w (h.glob.below h.below) h.cell
  rw [he] at this
  exact this.mono fun _ _ ⟨he, hb⟩ => ⟨he, h.new hb⟩
theorem IS.lit (h : IS W0 w s b O vars room pr r) (hvars : vars ≤ 24) (v : Int) : Calls Tryz.prog 26 #[.pointer (some ⟨s, 0, none⟩), .int .i64 v, .bool false] w fun e w' => (∃ x, e = .returned (.tuple #[x, errOf (codeL vars room v)])) ∧ JS W0 w' pr r :=
  (h.es.litE hvars v).mono fun _ _ ⟨he, hb, hc⟩ => ⟨he, hb, h.glob, (hc pr h.o (World.block_lt_of_cell? _ _ h.cell)).trans h.cell⟩
end
end Go.Proofs.YtiimdhmbbmkbfaaGreatDoor

namespace Go.Proofs.YtiimdhmbbmkbfaaGreatDoor
open Go.RowKit Go.Maps

theorem lit_in {vars : Nat} {room v : Int} {r : Bool} (hr : r = true → 0 < room) (hv : ¬ (v < 0 ∨ (vars : Int) ≤ v)) : isE r (codeL vars room v) 0 = true := by
  unfold codeL
  rw [if_neg hv]
  by_cases h : room ≤ 0
  · rw [if_pos h]
    cases r with
    | true => have := hr rfl; omega
    | false => rfl
  · rw [if_neg h]; exact isE_self _ _
theorem lit_out {vars : Nat} {room v : Int} (hv : v < 0 ∨ (vars : Int) ≤ v) : codeL vars room v = 2 := by unfold codeL; rw [if_pos hv]
theorem lit_two {vars : Nat} {room v : Int} {r : Bool} (_hr : r = true → 0 < room) (hv : v < 0 ∨ (vars : Int) ≤ v) : isE r (codeL vars room v) 2 = true := by rw [lit_out hv]; exact isE_self _ _
theorem var_out {vars : Nat} {x v : Int} (hv : v < 0 ∨ (vars : Int) ≤ v) : codeV vars [] x v = 2 := by unfold codeV; rw [if_pos hv]
theorem var_in {vars : Nat} {x v : Int} (hv : ¬ (v < 0 ∨ (vars : Int) ≤ v)) : codeV vars [] x v = codeH [] x := by unfold codeV; rw [if_neg hv]

end Go.Proofs.YtiimdhmbbmkbfaaGreatDoor
