/- All. -/
import Derived.Test.YtacgoopgifoojabBdSt
namespace Go.Proofs.Ytacgoopgifoojab
open Go.RowKit Go.Maps

section
variable {B s b wk dm : Nat} {O : Nat → Prop} {vars : Nat} {room : Int} {ns : List Nd} {m : List (Nd × Int)} {w w' : World}

set_option maxRecDepth 100000 in
set_option maxHeartbeats 1000000 in
theorem wand_ws (hroom : room ≤ 4000) (h : WS B w s b wk dm O 33 true vars room ns m) (x y : Int) (hx : hasB ns x = true) (hy : hasB ns y = true) (hl : ((ns.length + 2 ^ vars : Nat) : Int) ≤ room + 1) (hm : m.length + 2 ^ vars ≤ 90000) :
    Calls Try.prog 40 #[.pointer (some ⟨wk, 0, none⟩), .int .i64 x, .int .i64 y] w fun e w' => e = .returned (.tuple #[.int .i64 (makesF 24 true ns m ⟨x, y, 0⟩).2.2, .nilIface]) ∧ ∃ O', WS B w' s b wk dm O' 33 true vars room (makesF 24 true ns m ⟨x, y, 0⟩).1 (makesF 24 true ns m ⟨x, y, 0⟩).2.1 ∧ MM O O' dm w w' := by
  have hr := h.good.ranked
  have hp := rk_le (vars := vars) hr ⟨x, y, 0⟩
  have h0 := (minT_bd hr ⟨x, y, 0⟩).1
  have HC : Hid (∀ W, Below w.heap.size w W → Calls Try.prog 57 #[.pointer (some ⟨wk, 0, none⟩), .agg #[.int .i64 x, .int .i64 y, .int .i64 0]] W fun e w' => e = .returned (.tuple #[.int .i64 (makesF 24 true ns m ⟨x, y, 0⟩).2.2, .nilIface]) ∧ ∃ O', WS B w' s b wk dm O' 33 true vars room (makesF 24 true ns m ⟨x, y, 0⟩).1 (makesF 24 true ns m ⟨x, y, 0⟩).2.1 ∧ MM O O' dm w w') := fun W hW =>
    (makes_any hroom knows_ite 24 ns m ⟨x, y, 0⟩ O W (h.new hW) ⟨hx, hy, has_end0 ns⟩ (by omega) (by omega) (by omega)).mono fun e w' ⟨he, O', h1, h2⟩ => ⟨he, O', h1, (MM.of_below hW).trans h2⟩
  generalize makesF 24 true ns m ⟨x, y, 0⟩ = r at *
  clear h hr hp hx hy
  go_enter Try.func40, Try.ntmps40
  go_wp2_with fail
  refine (both_any x y w).mono ?_
  rintro e w1 ⟨rfl, hb1⟩
  have HC' := Lib.hid (HC.out w1 hb1)
  clear HC
  go_wp2_with fail
  refine HC'.out.mono ?_
  rintro e w' ⟨rfl, hO⟩
  go_wp2
  go_ret2
  exact ⟨rfl, hO⟩
end

/-- All of the first ones are true. -/
def allF (gs : List Fn') (k : Nat) : Fn' := fun f => (gs.take k).all (fun g => g f)

section
variable {B s b : Nat} {O : Nat → Prop} {vars : Nat} {room : Int} {ns : List Nd} {w w' : World}

set_option maxRecDepth 100000 in
set_option maxHeartbeats 2000000 in
theorem all_op (h : SpaceAt B w s b O vars room ns) (hg : Good vars ns) (hv : vars ≤ 6) (hroom : room ≤ 4000) (hB : B ≤ w.heap.size) (bf : Nat) {cp : Nat} (fs : List Int) (gs : List Fn') (hF : IntsAt w bf fs) (hfo : ¬ O bf) (hfl : fs.length ≤ 10) (hfg : fs.length = gs.length) (hl : ((ns.length + 64 * (fs.length + 1) : Nat) : Int) ≤ room)
    (hI : ∀ i (h1 : i < fs.length) (h2 : i < gs.length), Is ns fs[i] gs[i]) :
    Calls Try.prog 19 #[.pointer (some ⟨s, 0, none⟩), .slice (some ⟨bf, 0, none⟩) fs.length cp] w fun e w' => ∃ (x : Int) (ns' : List Nd) (O' : Nat → Prop), e = .returned (.tuple #[.int .i64 x, .nilIface]) ∧ SpaceAt B w' s b O' vars room ns' ∧ Moves O O' w w' ∧ Good vars ns' ∧ Ext ns ns' ∧ Is ns' x (allF gs fs.length) ∧ ns'.length ≤ ns.length + 63 * fs.length := by
  have p6 : 2 ^ vars ≤ 64 := Nat.pow_le_pow_right (n := 2) (by omega) hv
  have hone := Nat.one_le_two_pow (n := vars)
  have HP := Lib.hid (present_any (cp := cp) h (by omega) bf fs hF (by omega) (fun x hx => by
    obtain ⟨i, hi, rfl⟩ := List.getElem_of_mem hx
    exact (hI i hi (by omega)).1))
  have HBG : Hid (Calls Try.prog 39 #[.pointer (some ⟨s, 0, none⟩), .func (.func 33) #[] #[]] w fun e w' => e = .returned (.pointer (some ⟨w.heap.size + 1, 0, none⟩)) ∧ WS B w' s b (w.heap.size + 1) w.heap.size O 33 true vars room ns [] ∧ Below w.heap.size w w') :=
    (begin_any s 33 w B hB).mono fun e w' ⟨he, hwk, hb⟩ => by
      have hsl := h.slt
      exact ⟨he, ⟨h.new hb, hwk, hg, memo_nil true ns, fun ho => by have := (h.own _ ho).2; omega, fun ho => by have := (h.own _ ho).2; omega, by omega, Nat.le_trans hB hb.size⟩, hb⟩
  have HF := Lib.hid hF
  have HI := Lib.hid hI
  have HGR := Lib.hid hg.ranked
  have HSL := Lib.hid (fun j (ho : O j) => (h.own j ho).2)
  have HFG := Lib.hid hfg
  clear h hg hF hI hfg
  go_enter Try.func19, Try.ntmps19
  go_wp2_with fail
  refine HP.out.mono ?_
  rintro e wz ⟨rfl, rfl⟩
  clear HP
  go_wp2_with fail
  refine HBG.out.mono ?_
  rintro e w1 ⟨rfl, hw1, hb1⟩
  have hs1 := hb1.size
  have HW1 := Lib.hid hw1
  have HB1 := Lib.hid hb1
  clear HBG hw1 hb1
  go_wp2_with fail
  go_loopw [8, 23] (fun oV iV wr => ∃ (k : Nat) (x : Int) (ns1 : List Nd) (m : List (Nd × Int)) (O1 : Nat → Prop), k ≤ fs.length ∧ iV = .int .i64 (k : Int) ∧ oV = .int .i64 x ∧ WS B wr s b (w.heap.size + 1) w.heap.size O1 33 true vars room ns1 m ∧ MM O O1 w.heap.size w1 wr ∧ Ext ns ns1 ∧ Is ns1 x (allF gs k) ∧ ns1.length ≤ ns.length + 63 * k ∧ m.length ≤ 63 * k)
    (fun _ iV _ => fs.length - (intOf iV).toNat)
  case atStart =>
    exact ⟨0, 1, ns, [], O, Nat.zero_le _, rfl, rfl, HW1.out, MM.of_below (Below.refl _ _), Ext.refl _, ⟨has_end1 ns, fun f => by rw [sem_true]; simp [allF]⟩, by omega, by simp⟩
  case round =>
    obtain ⟨k, x, ns1, m, O1, hk, rfl, rfl, hw, hmm, hX, hx, hln, hlm⟩ := hrel
    clear HW1
    by_cases hlt : k < fs.length
    · have hfg := HFG.out
      have hI1 := (HI.out k hlt (by omega)).ext (HGR.out) hX
      have ck : wr.cell? ⟨bf, k, none⟩ = some (.int .i64 fs[k]) := by
        have h1 := (HB1.out.cell (p := ⟨bf, k, none⟩) HF.out.lt).trans (HF.out.cells k hlt)
        have hlt1 : bf < w1.heap.size := by have := HF.out.lt; omega
        exact (hmm.cell (a := ⟨bf, k, none⟩) hlt1 hfo (by have := HF.out.lt; show bf ≠ _; omega)).trans h1
      have HC := Lib.hid (wand_ws hroom hw x fs[k] hx.1 hI1.1 (by omega) (by omega))
      have r := makes_ok (op := true) 24 ns1 m ⟨x, fs[k], 0⟩ hw.good hw.memo ⟨hx.1, hI1.1, has_end0 ns1⟩ (by have := (minT_bd hw.good.ranked ⟨x, fs[k], 0⟩).1; omega) (by have := rk_le (vars := vars) hw.good.ranked ⟨x, fs[k], 0⟩; omega)
      have hp := rk_le (vars := vars) hw.good.ranked ⟨x, fs[k], 0⟩
      have hl1 := r.len
      have hm1 := r.mlen
      have hsm : Is (makesF 24 true ns1 m ⟨x, fs[k], 0⟩).1 (makesF 24 true ns1 m ⟨x, fs[k], 0⟩).2.2 (allF gs (k + 1)) := ⟨r.has, fun f => by
        rw [r.sem f]
        simp only [opS, if_true, sem_false, hx.2 f, hI1.2 f]
        have hgk : k < gs.length := by omega
        unfold allF
        rw [List.take_succ_eq_append_getElem hgk, List.all_append]
        cases (gs.take k).all (fun g => g f) <;> simp⟩
      have HX1 := Lib.hid (hX.trans r.ext)
      have HSM := Lib.hid hsm
      have HMM := Lib.hid hmm
      generalize makesF 24 true ns1 m ⟨x, fs[k], 0⟩ = rr at *
      generalize fs[k] = y at *
      clear hw hmm hX hx hI1 r hsm hfg
      go_wp2_with fail
      refine HC.out.mono ?_
      rintro e w3 ⟨rfl, O3, hw3, mm3⟩
      have HW3 := Lib.hid hw3
      have HM3 := Lib.hid (HMM.out.trans mm3)
      clear HC hw3 mm3 HMM
      go_wp2
      go_roundw
      case rel => exact ⟨k + 1, rr.2.2, rr.1, rr.2.1, O3, by omega, by go_num, rfl, HW3.out, HM3.out, HX1.out, HSM.out, by omega, by omega⟩
      case measure => simp [intOf]; omega
    · obtain rfl : k = fs.length := by omega
      have hfin := moves_of_mm HB1.out (Nat.le_refl _) hmm
      have HFIN := Lib.hid hfin
      have HS := Lib.hid hw.space
      have HGD := Lib.hid hw.good
      clear hmm hfin hw
      go_wp2
      go_ret2
      exact ⟨x, ns1, O1, rfl, HS.out, HFIN.out, HGD.out, hX, hx, hln⟩
end
end Go.Proofs.Ytacgoopgifoojab
