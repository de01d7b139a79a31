/- Holds, Count, Size, Needs of a handle that there is not; Ite, Not. -/
import Derived.Test.YtiimdhmbbmkbfaaGreatDoorBdOpsW
import Derived.Test.YtiimdhmbbmkbfaaGreatDoorBdFree
import Derived.Test.YtiimdhmbbmkbfaaGreatDoorErBare
namespace Go.Proofs.YtiimdhmbbmkbfaaGreatDoor
open Go.RowKit Go.Maps

section
variable {B s b : Nat} {O : Nat → Prop} {F : FuncId} {op : Bool} {vars : Nat} {room : Int} {ns : List Nd} {w w' : World}

set_option maxRecDepth 100000 in
set_option maxHeartbeats 1000000 in
theorem present_no (hS : SpaceAt B w s b O vars room ns) (hl : ns.length ≤ 90000) (bf : Nat) {cp : Nat} (fs : List Int) (hF : IntsAt w bf fs) (hfl : fs.length ≤ 1000) (hno : ∃ x ∈ fs, hasB ns x = false) :
    Calls Tryz.prog 29 #[.pointer (some ⟨s, 0, none⟩), .slice (some ⟨bf, 0, none⟩) fs.length cp] w fun e w' => e = .returned (.iface 52 (.int .i64 7)) ∧ w = w' := by
  have c0 := hS.c0
  have HS := Lib.hid hS
  have HF := Lib.hid hF
  have HN := Lib.hid hno
  clear hS hF hno
  go_enter Tryz.func29, Tryz.ntmps29
  go_wp2_with fail
  go_loop [9] (fun i => ∃ k : Nat, k ≤ fs.length ∧ i = .int .i64 (k : Int) ∧ ∀ j (h : j < fs.length), j < k → hasB ns fs[j] = true) (fun i => fs.length - (intOf i).toNat)
  case atStart => exact ⟨0, Nat.zero_le _, rfl, fun j _ h => by omega⟩
  case round =>
    obtain ⟨k, hk, rfl, hpre⟩ := hrel
    have HPRE := Lib.hid hpre
    clear hpre
    by_cases hlt : k < fs.length
    · have ck := HF.out.cells k hlt
      have HH := Lib.hid (spHas HS.out fs[k] (HF.out.ok _ (List.getElem_mem hlt)) hl)
      cases hh : hasB ns fs[k] with
      | true =>
        rw [hh] at HH
        have HHH := Lib.hid hh
        clear hh
        generalize hfk : fs[k] = x at *
        have HFK := Lib.hid hfk
        clear hfk
        go_wp2_with fail
        refine HH.out.mono ?_
        rintro e w' ⟨rfl, rfl⟩
        clear HH
        go_wp2
        go_round
        case rel =>
          refine ⟨k + 1, by omega, by go_num, fun j h hj => ?_⟩
          by_cases e : j = k
          · subst e; rw [HFK.out]; exact HHH.out
          · exact HPRE.out j h (by omega)
        case measure => simp [intOf]; omega
      | false =>
        rw [hh] at HH
        clear hh
        generalize fs[k] = x at *
        go_wp2_with fail
        refine HH.out.mono ?_
        rintro e w' ⟨rfl, rfl⟩
        clear HH
        go_wp2
        go_ret
        exact ⟨rfl, rfl⟩
    · exfalso
      obtain ⟨x, hx, hf⟩ := HN.out
      obtain ⟨j, hj, rfl⟩ := List.getElem_of_mem hx
      have := HPRE.out j hj (by omega)
      rw [hf] at this
      cases this

set_option maxRecDepth 100000 in
set_option maxHeartbeats 1000000 in
theorem variable_no (hS : SpaceAt B w s b O vars room ns) (v : Int) (h : v < 0 ∨ (vars : Int) ≤ v) :
    Calls Tryz.prog 52 #[.pointer (some ⟨s, 0, none⟩), .int .i64 v] w fun e w' => e = .returned (.iface 52 (.int .i64 2)) ∧ w = w' := by
  have c1 := hS.c1
  clear hS
  by_cases h0 : v < 0
  · clear h
    go_enter Tryz.func52, Tryz.ntmps52
    go_wp2
    go_ret
    exact ⟨rfl, rfl⟩
  · have h1 : (vars : Int) ≤ v := by omega
    clear h
    go_enter Tryz.func52, Tryz.ntmps52
    go_wp2
    go_ret
    exact ⟨rfl, rfl⟩

set_option maxRecDepth 100000 in
set_option maxHeartbeats 1000000 in
theorem asked_no (F : FuncId) (h : SpaceAt B w s b O vars room ns) (hl : ns.length ≤ 90000) (k : Nd) (hi : k.Ok) (hno : ∃ x ∈ [k.v, k.l, k.h], hasB ns x = false) :
    Calls Tryz.prog 44 #[.pointer (some ⟨s, 0, none⟩), .func (.func F) #[] #[], k.val] w fun e w' => e = .returned (.tuple #[.int .i64 0, .iface 52 (.int .i64 7)]) ∧ Below w.heap.size w w' := by
  have hpr := present_no (cp := 3) (h.new (below_new w (.cells #[.int .i64 k.v, .int .i64 k.l, .int .i64 k.h] 97))) hl w.heap.size [k.v, k.l, k.h] (ints3 w k hi _) (by simp) hno
  rw [show [k.v, k.l, k.h].length = 3 from rfl] at hpr
  have HP := Lib.hid hpr
  have HB := Lib.hid (below_new w (.cells #[.int .i64 k.v, .int .i64 k.l, .int .i64 k.h] 97))
  unfold Nd.val
  clear hpr h hno hi
  go_enter Tryz.func44, Tryz.ntmps44
  go_wp2_with fail
  refine HP.out.mono ?_
  rintro e w1 ⟨rfl, rfl⟩
  clear HP
  go_wp2
  go_ret2
  exact ⟨rfl, HB.out⟩

set_option maxRecDepth 100000 in
set_option maxHeartbeats 2000000 in
theorem asked_known (hF : Knows F op) (h : SpaceAt B w s b O vars room ns) (hg : Good vars ns) (hB : B ≤ w.heap.size) (hl : ns.length ≤ 90000) (k : Nd) (h3 : Has3 ns k) (x : Int) (hx : knownF op k = some x) :
    Calls Tryz.prog 44 #[.pointer (some ⟨s, 0, none⟩), .func (.func F) #[] #[], k.val] w (OpOut B s b O vars room (ns, x) w) := by
  have hok := ask_ok h3 (by omega)
  have hpr := present_any (cp := 3) (h.new (below_new w (.cells #[.int .i64 k.v, .int .i64 k.l, .int .i64 k.h] 97))) (by omega) w.heap.size [k.v, k.l, k.h] (ints3 w k hok _) (by simp) (fun x hx => by
    simp at hx
    rcases hx with rfl | rfl | rfl
    · exact h3.a
    · exact h3.b
    · exact h3.c)
  rw [show [k.v, k.l, k.h].length = 3 from rfl] at hpr
  have HP := Lib.hid hpr
  have HBG : Hid (∀ W, Below w.heap.size w W → Calls Tryz.prog 47 #[.pointer (some ⟨s, 0, none⟩), .func (.func F) #[] #[]] W fun e w' => ∃ wk dm, e = .returned (.pointer (some ⟨wk, 0, none⟩)) ∧ W.heap.size ≤ dm ∧ WS B w' s b wk dm O F op vars room ns [] ∧ Below W.heap.size W w') := fun W hW => by
    have hs := hW.size
    have hsl := h.slt
    refine (begin_any s F W B (Nat.le_trans hB hs)).mono fun e w' ⟨he, hwk, hb⟩ => ⟨_, _, he, Nat.le_refl _, ?_, hb⟩
    have hSW := (h.new hW).new hb
    exact ⟨hSW, hwk, hg, memo_nil op ns, fun ho => by have := (h.own _ ho).2; omega, fun ho => by have := (h.own _ ho).2; omega, by omega, Nat.le_trans hB (Nat.le_trans hs hb.size)⟩
  have HMK : Hid (∀ wk dm W, WS B W s b wk dm O F op vars room ns [] → Calls Tryz.prog 73 #[.pointer (some ⟨wk, 0, none⟩), k.val] W fun e w' => e = .returned (.tuple #[.int .i64 x, .nilIface]) ∧ ∃ O', WS B w' s b wk dm O' F op vars room ns [] ∧ MM O O' dm W w') := fun wk dm W hW =>
    makes_known hW hF x hx
  have hb := below_new w (.cells #[.int .i64 k.v, .int .i64 k.l, .int .i64 k.h] 97)
  obtain ⟨x0, x1, x2, -⟩ := cell3 w (.int .i64 k.v) (.int .i64 k.l) (.int .i64 k.h) 97
  have bl : w.heap.size < (w.alloc (.cells #[.int .i64 k.v, .int .i64 k.l, .int .i64 k.h] 97)).heap.size := by simp
  unfold Nd.val at HMK ⊢
  have OO : Hid (∀ j, O j → j < w.heap.size) := fun j ho => (h.own j ho).2
  clear hpr h hg hB h3 hok hF hx
  go_enter Tryz.func44, Tryz.ntmps44
  go_wp2_with fail
  refine HP.out.mono ?_
  rintro e w1 ⟨rfl, rfl⟩
  clear HP
  have HB := Lib.hid hb
  clear hb
  go_wp2_with fail
  generalize (w.alloc (.cells #[.int .i64 k.v, .int .i64 k.l, .int .i64 k.h] 97)) = W1 at *
  have f0 : W1.drew.cell? ⟨w.heap.size, 0, none⟩ = some (.int .i64 k.v) := x0
  have f1 : W1.drew.cell? ⟨w.heap.size, 1, none⟩ = some (.int .i64 k.l) := x1
  have f2 : W1.drew.cell? ⟨w.heap.size, 2, none⟩ = some (.int .i64 k.h) := x2
  have bl' : w.heap.size < W1.drew.heap.size := bl
  have HBX : Hid (∀ w2, Below W1.drew.heap.size W1.drew w2 → Below w.heap.size w w2) := fun w2 hb2 => HB.out.drew.trans (hb2.mono HB.out.size)
  have SKL : Hid (∀ w2 w3 O' dm, Below W1.drew.heap.size W1.drew w2 → W1.drew.heap.size ≤ dm → MM O O' dm w2 w3 → w3.cell? ⟨w.heap.size, 0, none⟩ = some (.int .i64 k.v) ∧ w3.cell? ⟨w.heap.size, 1, none⟩ = some (.int .i64 k.l) ∧ w3.cell? ⟨w.heap.size, 2, none⟩ = some (.int .i64 k.h)) := fun w2 w3 O' dm hb2 hdm mm => by
    have h2 : w.heap.size < w2.heap.size := Nat.lt_of_lt_of_le bl' hb2.size
    have ho : ¬ O w.heap.size := fun h => by have := OO.out _ h; omega
    have hd : w.heap.size ≠ dm := by omega
    exact ⟨(mm.cell (a := ⟨w.heap.size, 0, none⟩) h2 ho hd).trans ((hb2.cell (p := ⟨w.heap.size, 0, none⟩) bl').trans f0), (mm.cell (a := ⟨w.heap.size, 1, none⟩) h2 ho hd).trans ((hb2.cell (p := ⟨w.heap.size, 1, none⟩) bl').trans f1), (mm.cell (a := ⟨w.heap.size, 2, none⟩) h2 ho hd).trans ((hb2.cell (p := ⟨w.heap.size, 2, none⟩) bl').trans f2)⟩
  go_cut [6, 7] (fun a c wx => a = .int .i64 x ∧ c = .nilIface ∧ ∃ O', SpaceAt B wx s b O' vars room ns ∧ Moves O O' w wx)
  case first =>
    go_region_held3 (fun X => X.cell? ⟨w.heap.size, 0, none⟩ = some (.int .i64 k.v) ∧ X.cell? ⟨w.heap.size, 1, none⟩ = some (.int .i64 k.l) ∧ X.cell? ⟨w.heap.size, 2, none⟩ = some (.int .i64 k.h)) (first | exact ⟨f0, f1, f2⟩ | exact ⟨(hb2.cell (p := ⟨w.heap.size, 0, none⟩) bl').trans f0, (hb2.cell (p := ⟨w.heap.size, 1, none⟩) bl').trans f1, (hb2.cell (p := ⟨w.heap.size, 2, none⟩) bl').trans f2⟩ | exact SK)
      (first
        | (go_at_call 47; with_reducible refine (HBG.out _ HB.out.drew).mono ?_; rintro e w2 ⟨wk, dm, rfl, hdm, hws, hb2⟩)
        | (go_at_call 73; with_reducible refine (HMK.out _ _ _ hws).mono ?_; rintro e w3 ⟨rfl, O', hw3, mm3⟩; have hb3 := HBX.out _ hb2; have SK := SKL.out _ _ _ _ hb2 hdm mm3))
    all_goals
      go_wp2_with fail
      go_meet
      case rel => exact ⟨rfl, rfl, O', hw3.space, moves_of_mm hb3 (by omega) mm3⟩
  case rest =>
    obtain ⟨rfl, rfl, hO⟩ := hcut
    go_wp2
    go_ret2
    exact ⟨rfl, hO⟩

end
end Go.Proofs.YtiimdhmbbmkbfaaGreatDoor

namespace Go.Proofs.YtiimdhmbbmkbfaaGreatDoor
open Go.RowKit Go.Maps

/-- What is told of a handle. -/
def codeH (ns : List Nd) (x : Int) : Int := if hasB ns x = true then 0 else 7
/-- .. and of a variable. -/
def codeV (vars : Nat) (ns : List Nd) (x v : Int) : Int := if v < 0 ∨ (vars : Int) ≤ v then 2 else codeH ns x

section
variable {B s b : Nat} {O : Nat → Prop} {vars : Nat} {room : Int} {ns : List Nd} {w w' : World}

set_option maxRecDepth 100000 in
set_option maxHeartbeats 1000000 in
theorem joined_end (h : SpaceAt B w s b O vars room ns) (hl : ns.length ≤ 90000) (x v : Int) (hi : I64 x) (hx : topOf ns x = 24) (J : Value) (dk : Nat) :
    Calls Tryz.prog 75 #[.pointer (some ⟨s, 0, none⟩), .int .i64 x, .int .i64 v, J, .map (some dk)] w fun e w' => e = .returned (.tuple #[.int .i64 x, .nilIface]) ∧ Below w.heap.size w w' := by
  have HG := Lib.hid (spGet h x hi hl)
  have c0 := h.c0
  rw [show decide (topOf ns x ≠ 24) = false by simp [hx]] at HG
  generalize getOf ns x = gn at *
  obtain ⟨gv, gl, gh⟩ := gn
  unfold Nd.val at HG
  clear h hx
  go_enter Tryz.func75, Tryz.ntmps75
  go_wp2_with fail
  refine HG.out.mono ?_
  rintro e w1 ⟨rfl, hb1⟩
  have hb2 := hb1.alloc hb1.size (.cells #[.int .i64 gv, .int .i64 gl, .int .i64 gh] 99)
  have HB2 := Lib.hid hb2
  clear HG hb1 hb2
  go_wp2
  go_ret2
  exact ⟨rfl, HB2.out⟩

set_option maxRecDepth 100000 in
set_option maxHeartbeats 1000000 in
theorem without_code (h : SpaceAt B w s b O vars room ns) (hl : ns.length ≤ 90000) (x v : Int) (hi : I64 x) (hx : topOf ns x = 24) (J : Value) :
    Calls Tryz.prog 49 #[.pointer (some ⟨s, 0, none⟩), .int .i64 x, .int .i64 v, J] w fun e w' => (∃ r, e = .returned (.tuple #[.int .i64 r, errOf (codeV vars ns x v)])) ∧ Below w.heap.size w w' := by
  by_cases hv : v < 0 ∨ (vars : Int) ≤ v
  · have e : errOf (codeV vars ns x v) = .iface 52 (.int .i64 2) := by rw [show codeV vars ns x v = 2 by unfold codeV; rw [if_pos hv]]; rfl
    rw [e]
    have HV := Lib.hid (variable_no h v hv)
    clear h hx hv e
    go_enter Tryz.func49, Tryz.ntmps49
    go_wp2_with fail
    refine HV.out.mono ?_
    rintro e w1 ⟨rfl, rfl⟩
    go_wp2
    go_ret2
    exact ⟨⟨_, rfl⟩, Below.refl _ _⟩
  · have HV := Lib.hid (variable_any h v (by omega) (by omega))
    have hb1 := below_new w (.cells #[.int .i64 x] 3)
    cases hh : hasB ns x with
    | false =>
      have e : errOf (codeV vars ns x v) = .iface 52 (.int .i64 7) := by rw [show codeV vars ns x v = 7 by unfold codeV codeH; rw [if_neg hv, hh]; rfl]; rfl
      rw [e]
      have HP := present_no (cp := 1) (h.new hb1) hl w.heap.size [x] (ints1 w x hi) (by simp) ⟨x, List.mem_singleton.2 rfl, hh⟩
      rw [show [x].length = 1 from rfl] at HP
      have HPR := Lib.hid HP
      have HB := Lib.hid hb1
      clear h hx hv e HP hb1 hh
      go_enter Tryz.func49, Tryz.ntmps49
      go_wp2_with fail
      refine HV.out.mono ?_
      rintro e w1 ⟨rfl, rfl⟩
      go_wp2_with fail
      refine HPR.out.mono ?_
      rintro e w1 ⟨rfl, rfl⟩
      go_wp2
      go_ret2
      exact ⟨⟨_, rfl⟩, HB.out⟩
    | true =>
      have e : errOf (codeV vars ns x v) = .nilIface := by rw [show codeV vars ns x v = 0 by unfold codeV codeH; rw [if_neg hv, hh]; rfl]; rfl
      rw [e]
      have HP := present_any (cp := 1) (h.new hb1) hl w.heap.size [x] (ints1 w x hi) (by simp) (fun y hy => by rw [List.mem_singleton] at hy; subst hy; exact hh)
      rw [show [x].length = 1 from rfl] at HP
      have HPR := Lib.hid HP
      have e1 : (w.alloc (.cells #[.int .i64 x] 3)).heap.size = w.heap.size + 1 := by simp
      have hb2 : Below w.heap.size w ((w.alloc (.cells #[.int .i64 x] 3)).alloc (.map #[] 0)) := hb1.alloc hb1.size _
      have HJ := Lib.hid (joined_end (h.new hb2) hl x v hi hx J (w.heap.size + 1))
      have hmm := @run_makeMap Tryz.prog
      have HB2 := Lib.hid hb2
      clear h hx hv e HP hb1 hh hb2
      go_enter Tryz.func49, Tryz.ntmps49
      go_wp2_with fail
      refine HV.out.mono ?_
      rintro e w1 ⟨rfl, rfl⟩
      go_wp2_with fail
      refine HPR.out.mono ?_
      rintro e w1 ⟨rfl, rfl⟩
      clear HV HPR
      go_wp2_with fail
      refine HJ.out.mono ?_
      rintro e w1 ⟨rfl, hb3⟩
      have HB3 := Lib.hid (HB2.out.trans (hb3.mono HB2.out.size))
      clear HJ hb3
      go_wp2
      go_ret2
      exact ⟨⟨_, rfl⟩, HB3.out⟩

set_option maxRecDepth 100000 in
set_option maxHeartbeats 1000000 in
theorem set_code (h : SpaceAt B w s b O vars room ns) (hl : ns.length ≤ 90000) (x v : Int) (hi : I64 x) (hx : topOf ns x = 24) (is : Bool) :
    Calls Tryz.prog 23 #[.pointer (some ⟨s, 0, none⟩), .int .i64 x, .int .i64 v, .bool is] w fun e w' => (∃ r, e = .returned (.tuple #[.int .i64 r, errOf (codeV vars ns x v)])) ∧ Below w.heap.size w w' := by
  have hb := below_new w (.cells #[.bool is] 4)
  have HC := Lib.hid (without_code (h.new hb) hl x v hi hx (.func (.func 50) #[] #[.pointer (some ⟨w.heap.size, 0, none⟩)]))
  have HB := Lib.hid hb
  generalize errOf (codeV vars ns x v) = ev at *
  clear h hx hb
  go_enter Tryz.func23, Tryz.ntmps23
  go_wp2_with fail
  refine HC.out.mono ?_
  rintro e w' ⟨⟨r, rfl⟩, hb2⟩
  have HB3 := Lib.hid (HB.out.trans (hb2.mono HB.out.size))
  clear HC hb2
  go_wp2
  go_ret2
  exact ⟨⟨_, rfl⟩, HB3.out⟩

set_option maxRecDepth 100000 in
set_option maxHeartbeats 1000000 in
theorem some_code (h : SpaceAt B w s b O vars room ns) (hB : B ≤ w.heap.size) (hl : ns.length ≤ 90000) (x v : Int) (hi : I64 x) (hx : topOf ns x = 24) :
    Calls Tryz.prog 24 #[.pointer (some ⟨s, 0, none⟩), .int .i64 x, .int .i64 v] w fun e w' => (∃ r, e = .returned (.tuple #[.int .i64 r, errOf (codeV vars ns x v)])) ∧ Below w.heap.size w w' := by
  have HC : Hid (∀ w1 J, Below w.heap.size w w1 → Calls Tryz.prog 49 #[.pointer (some ⟨s, 0, none⟩), .int .i64 x, .int .i64 v, J] w1 fun e w' => (∃ r, e = .returned (.tuple #[.int .i64 r, errOf (codeV vars ns x v)])) ∧ Below w1.heap.size w1 w') := fun w1 J hb => without_code (h.new hb) hl x v hi hx J
  have HB := Lib.hid (begin_any s 45 w B hB)
  generalize errOf (codeV vars ns x v) = ev at *
  clear h hx
  go_enter Tryz.func24, Tryz.ntmps24
  go_wp2_with fail
  refine HB.out.mono ?_
  rintro e w1 ⟨rfl, -, hb1⟩
  have HC' := Lib.hid (HC.out w1 (.func (.func 51) #[.pointer (some ⟨w.heap.size + 1, 0, none⟩)] #[]) hb1)
  have HB1 := Lib.hid hb1
  clear HC HB hb1
  go_wp2_with fail
  refine HC'.out.mono ?_
  rintro e w' ⟨⟨r, rfl⟩, hb2⟩
  have HB3 := Lib.hid (HB1.out.trans (hb2.mono HB1.out.size))
  clear HC' hb2
  go_wp2
  go_ret2
  exact ⟨⟨_, rfl⟩, HB3.out⟩

set_option maxRecDepth 100000 in
set_option maxHeartbeats 1000000 in
theorem each_code (h : SpaceAt B w s b O vars room ns) (hB : B ≤ w.heap.size) (hl : ns.length ≤ 90000) (x v : Int) (hi : I64 x) (hx : topOf ns x = 24) :
    Calls Tryz.prog 25 #[.pointer (some ⟨s, 0, none⟩), .int .i64 x, .int .i64 v] w fun e w' => (∃ r, e = .returned (.tuple #[.int .i64 r, errOf (codeV vars ns x v)])) ∧ Below w.heap.size w w' := by
  have HC : Hid (∀ w1 J, Below w.heap.size w w1 → Calls Tryz.prog 49 #[.pointer (some ⟨s, 0, none⟩), .int .i64 x, .int .i64 v, J] w1 fun e w' => (∃ r, e = .returned (.tuple #[.int .i64 r, errOf (codeV vars ns x v)])) ∧ Below w1.heap.size w1 w') := fun w1 J hb => without_code (h.new hb) hl x v hi hx J
  have HB := Lib.hid (begin_any s 45 w B hB)
  generalize errOf (codeV vars ns x v) = ev at *
  clear h hx
  go_enter Tryz.func25, Tryz.ntmps25
  go_wp2_with fail
  refine HB.out.mono ?_
  rintro e w1 ⟨rfl, -, hb1⟩
  have HC' := Lib.hid (HC.out w1 (.func (.func 48) #[.pointer (some ⟨w.heap.size + 1, 0, none⟩)] #[]) hb1)
  have HB1 := Lib.hid hb1
  clear HC HB hb1
  go_wp2_with fail
  refine HC'.out.mono ?_
  rintro e w' ⟨⟨r, rfl⟩, hb2⟩
  have HB3 := Lib.hid (HB1.out.trans (hb2.mono HB1.out.size))
  clear HC' hb2
  go_wp2
  go_ret2
  exact ⟨⟨_, rfl⟩, HB3.out⟩
end
end Go.Proofs.YtiimdhmbbmkbfaaGreatDoor

namespace Go.Proofs.YtiimdhmbbmkbfaaGreatDoor
open Go.RowKit Go.Maps

section
variable {B s b : Nat} {O : Nat → Prop} {vars : Nat} {room : Int} {ns : List Nd} {w w' : World}

set_option maxRecDepth 100000 in
set_option maxHeartbeats 1000000 in
theorem count_noF (h : SpaceAt B w s b O vars room ns) (hl : ns.length ≤ 90000) (x : Int) (hi : I64 x) (hx : hasB ns x = false) :
    Calls Tryz.prog 6 #[.pointer (some ⟨s, 0, none⟩), .int .i64 x] w fun e w' => e = .returned (.tuple #[.agg #[.slice none 0 0], .iface 52 (.int .i64 7)]) ∧ Below w.heap.size w w' := by
  have hb1 := below_new w (.cells #[.slice none 0 0] 30)
  have s1 : (w.alloc (.cells #[.slice none 0 0] 30)).heap.size = w.heap.size + 1 := by simp
  have HP := present_no (cp := 1) ((h.new hb1).new (below_new (w.alloc (.cells #[.slice none 0 0] 30)) (.cells #[.int .i64 x] 3))) hl (w.alloc (.cells #[.slice none 0 0] 30)).heap.size [x] (ints1 (w.alloc (.cells #[.slice none 0 0] 30)) x hi) (by simp) ⟨x, List.mem_singleton.2 rfl, hx⟩
  rw [show [x].length = 1 from rfl, s1] at HP
  have HPR := Lib.hid HP
  have hb2 := hb1.alloc hb1.size (.cells #[.int .i64 x] 3)
  have hbb := below_new (w.alloc (.cells #[.slice none 0 0] 30)) (.cells #[.int .i64 x] 3)
  have bc : ((w.alloc (.cells #[.slice none 0 0] 30)).alloc (.cells #[.int .i64 x] 3)).cell? ⟨w.heap.size, 0, none⟩ = some (.slice none 0 0) := (hbb.cell (p := ⟨w.heap.size, 0, none⟩) (by simp)).trans (by simp)
  have bf : ((w.alloc (.cells #[.slice none 0 0] 30)).alloc (.cells #[.int .i64 x] 3)).frozen? ⟨w.heap.size, 0, none⟩ = false := (hbb.frozen (p := ⟨w.heap.size, 0, none⟩) (by simp)).trans (by simp)
  have HB2 := Lib.hid hb2
  clear HP h hx hb1 hb2 hbb
  go_enter Tryz.func6, Tryz.ntmps6
  go_wp2_with fail
  refine HPR.out.mono ?_
  rintro e w1 ⟨rfl, rfl⟩
  generalize ((w.alloc (.cells #[.slice none 0 0] 30)).alloc (.cells #[.int .i64 x] 3)) = W2 at *
  have hcs : (W2.setCell ⟨w.heap.size, 0, none⟩ (.slice none 0 0)).cell? ⟨w.heap.size, 0, none⟩ = some (.slice none 0 0) := World.cell?_setCell_same _ _ _ bc
  clear HPR
  go_wp2
  refine bodyPost_ret (v := .tuple #[.agg #[.slice none 0 0], .iface 52 (.int .i64 7)]) (by simp [results, Tryz.results6, go_sem, hcs]) rfl ?_
  exact ⟨rfl, HB2.out.setCell (Nat.le_refl _) _⟩
theorem count_no (h : SpaceAt B w s b O vars room ns) (hl : ns.length ≤ 90000) (x : Int) (hi : I64 x) (hx : hasB ns x = false) :
    Calls Tryz.prog 6 #[.pointer (some ⟨s, 0, none⟩), .int .i64 x] w fun e w' => (∃ v, e = .returned (.tuple #[v, .iface 52 (.int .i64 7)])) ∧ Below w.heap.size w w' :=
  (count_noF h hl x hi hx).mono fun _ _ ⟨he, hb⟩ => ⟨⟨_, he⟩, hb⟩
end

set_option maxRecDepth 100000 in
set_option maxHeartbeats 1000000 in
theorem new_no (room : Int) (h : room < 0 ∨ 4000 < room) (w : World) :
    Calls Tryz.prog 41 #[.int .i64 room] w fun e w' => e = .returned (.tuple #[.pointer none, .iface 52 (.int .i64 2)]) ∧ Below w.heap.size w w' := by
  by_cases h0 : room < 0
  · clear h
    go_enter Tryz.func41, Tryz.ntmps41
    go_wp2
    go_ret2
    exact ⟨rfl, Below.refl _ _⟩
  · have h1 : 4000 < room := by omega
    clear h
    go_enter Tryz.func41, Tryz.ntmps41
    go_wp2
    go_ret2
    exact ⟨rfl, Below.refl _ _⟩

set_option maxRecDepth 100000 in
set_option maxHeartbeats 1000000 in
theorem bnew_no (vars room : Int) (h : vars < 0 ∨ 24 < vars ∨ room < 0 ∨ 4000 < room) (w : World) :
    Calls Tryz.prog 15 #[.int .i64 vars, .int .i64 room] w fun e w' => e = .returned (.tuple #[.pointer none, .iface 52 (.int .i64 2)]) ∧ Below w.heap.size w w' := by
  by_cases h0 : vars < 0
  · clear h
    go_enter Tryz.func15, Tryz.ntmps15
    go_wp2
    go_ret2
    exact ⟨rfl, Below.refl _ _⟩
  by_cases h1 : 24 < vars
  · clear h
    go_enter Tryz.func15, Tryz.ntmps15
    go_wp2
    go_ret2
    exact ⟨rfl, Below.refl _ _⟩
  · have HN := Lib.hid (new_no room (by omega) w)
    clear h
    go_enter Tryz.func15, Tryz.ntmps15
    go_wp2_with fail
    refine HN.out.mono ?_
    rintro e w1 ⟨rfl, hb⟩
    go_wp2
    go_ret2
    exact ⟨rfl, hb⟩
end Go.Proofs.YtiimdhmbbmkbfaaGreatDoor

namespace Go.Proofs.YtiimdhmbbmkbfaaGreatDoor
open Go.RowKit Go.Maps

section
variable {B s b : Nat} {O : Nat → Prop} {vars : Nat} {room : Int} {ns : List Nd} {w w' : World}

theorem one_no {x : Int} (h : hasB ns x = false) : ∃ y ∈ [x], hasB ns y = false := ⟨x, List.mem_singleton.2 rfl, h⟩

set_option maxRecDepth 100000 in
set_option maxHeartbeats 1000000 in
theorem holds_no (h : SpaceAt B w s b O vars room ns) (hl : ns.length ≤ 90000) (x : Int) (hi : I64 x) (hx : hasB ns x = false) (vals : Int) :
    Calls Tryz.prog 20 #[.pointer (some ⟨s, 0, none⟩), .int .i64 x, .int .u64 vals] w fun e w' => e = .returned (.tuple #[.bool false, .iface 52 (.int .i64 7)]) ∧ Below w.heap.size w w' := by
  have HP := present_no (cp := 1) (h.new (below_new w (.cells #[.int .i64 x] 3))) hl w.heap.size [x] (ints1 w x hi) (by simp) (one_no hx)
  rw [show [x].length = 1 from rfl] at HP
  have HPR := Lib.hid HP
  have HB := Lib.hid (below_new w (.cells #[.int .i64 x] 3))
  clear HP h hx
  go_enter Tryz.func20, Tryz.ntmps20
  go_wp2_with fail
  refine HPR.out.mono ?_
  rintro e w1 ⟨rfl, rfl⟩
  clear HPR
  go_wp2
  go_ret2
  exact ⟨rfl, HB.out⟩

set_option maxRecDepth 100000 in
set_option maxHeartbeats 1000000 in
theorem size_no (h : SpaceAt B w s b O vars room ns) (hl : ns.length ≤ 90000) (x : Int) (hi : I64 x) (hx : hasB ns x = false) :
    Calls Tryz.prog 8 #[.pointer (some ⟨s, 0, none⟩), .int .i64 x] w fun e w' => e = .returned (.tuple #[.int .i64 0, .iface 52 (.int .i64 7)]) ∧ Below w.heap.size w w' := by
  have HP := present_no (cp := 1) (h.new (below_new w (.cells #[.int .i64 x] 3))) hl w.heap.size [x] (ints1 w x hi) (by simp) (one_no hx)
  rw [show [x].length = 1 from rfl] at HP
  have HPR := Lib.hid HP
  have HB := Lib.hid (below_new w (.cells #[.int .i64 x] 3))
  clear HP h hx
  go_enter Tryz.func8, Tryz.ntmps8
  go_wp2_with fail
  refine HPR.out.mono ?_
  rintro e w1 ⟨rfl, rfl⟩
  clear HPR
  go_wp2
  go_ret2
  exact ⟨rfl, HB.out⟩

set_option maxRecDepth 100000 in
set_option maxHeartbeats 1000000 in
theorem needs_no (h : SpaceAt B w s b O vars room ns) (hl : ns.length ≤ 90000) (x : Int) (hi : I64 x) (hx : hasB ns x = false) :
    Calls Tryz.prog 7 #[.pointer (some ⟨s, 0, none⟩), .int .i64 x] w fun e w' => e = .returned (.tuple #[.slice none 0 0, .iface 52 (.int .i64 7)]) ∧ Below w.heap.size w w' := by
  have HP := present_no (cp := 1) (h.new (below_new w (.cells #[.int .i64 x] 3))) hl w.heap.size [x] (ints1 w x hi) (by simp) (one_no hx)
  rw [show [x].length = 1 from rfl] at HP
  have HPR := Lib.hid HP
  have HB := Lib.hid (below_new w (.cells #[.int .i64 x] 3))
  clear HP h hx
  go_enter Tryz.func7, Tryz.ntmps7
  go_wp2_with fail
  refine HPR.out.mono ?_
  rintro e w1 ⟨rfl, rfl⟩
  clear HPR
  go_wp2
  go_ret2
  exact ⟨rfl, HB.out⟩

set_option maxRecDepth 100000 in
set_option maxHeartbeats 1000000 in
theorem ite_no (h : SpaceAt B w s b O vars room ns) (hl : ns.length ≤ 90000) (x : Int) (hi : I64 x) (hx : hasB ns x = false) :
    Calls Tryz.prog 18 #[.pointer (some ⟨s, 0, none⟩), .int .i64 x, .int .i64 1, .int .i64 1] w fun e w' => e = .returned (.tuple #[.int .i64 0, .iface 52 (.int .i64 7)]) ∧ Below w.heap.size w w' := by
  have HA := Lib.hid (asked_no 45 h hl ⟨x, 1, 1⟩ ⟨hi, ⟨by simp, by simp⟩, ⟨by simp, by simp⟩⟩ ⟨x, by simp, hx⟩)
  unfold Nd.val at HA
  clear h hx
  go_enter Tryz.func18, Tryz.ntmps18
  go_wp2_with fail
  refine HA.out.mono ?_
  rintro e w1 ⟨rfl, hb⟩
  go_wp2
  go_ret2
  exact ⟨rfl, hb⟩

set_option maxRecDepth 100000 in
set_option maxHeartbeats 1000000 in
theorem not_no (h : SpaceAt B w s b O vars room ns) (hl : ns.length ≤ 90000) (x : Int) (hi : I64 x) (hx : hasB ns x = false) :
    Calls Tryz.prog 19 #[.pointer (some ⟨s, 0, none⟩), .int .i64 x] w fun e w' => e = .returned (.tuple #[.int .i64 0, .iface 52 (.int .i64 7)]) ∧ Below w.heap.size w w' := by
  have HA := Lib.hid (asked_no 45 h hl ⟨x, 0, 1⟩ ⟨hi, ⟨by simp, by simp⟩, ⟨by simp, by simp⟩⟩ ⟨x, by simp, hx⟩)
  unfold Nd.val at HA
  clear h hx
  go_enter Tryz.func19, Tryz.ntmps19
  go_wp2_with fail
  refine HA.out.mono ?_
  rintro e w1 ⟨rfl, hb⟩
  go_wp2
  go_ret2
  exact ⟨rfl, hb⟩
end
end Go.Proofs.YtiimdhmbbmkbfaaGreatDoor
