/- Holds. -/
import Derived.Test.YtiimdhmbbmkbfaaGreatDoorBdWithout
import Derived.Test.YtiimdhmbbmkbfaaGreatDoorBdCnt
import Derived.WalkSmall
namespace Go.Proofs.YtiimdhmbbmkbfaaGreatDoor
open Go.RowKit Go.Maps

section
variable {B s b : Nat} {O : Nat → Prop} {vars : Nat} {room : Int} {ns : List Nd} {w w' : World}

set_option maxRecDepth 100000 in
set_option maxHeartbeats 2000000 in
theorem holds_any (h : SpaceAt B w s b O vars room ns) (hg : Good vars ns) (hl : ns.length ≤ 90000) (x : Int) (hx : hasB ns x = true) (vals : Nat) (hvals : vals < 18446744073709551616) :
    Calls Tryz.prog 20 #[.pointer (some ⟨s, 0, none⟩), .int .i64 x, .int .u64 (vals : Int)] w fun e w' => e = .returned (.tuple #[.bool (sem ns x (bitsF vals)), .nilIface]) ∧ Below w.heap.size w w' := by
  have hi := has_i64 hx (by omega)
  have HP := present_any (cp := 1) (h.new (below_new w (.cells #[.int .i64 x] 3))) (by omega) w.heap.size [x] (ints1 w x hi) (by simp) (fun y hy => by rw [List.mem_singleton] at hy; subst hy; exact hx)
  rw [show [x].length = 1 from rfl] at HP
  have HPR := Lib.hid HP
  have hb := below_new w (.cells #[.int .i64 x] 3)
  have HGT : Hid (∀ (y : Int) (W : World), hasB ns y = true → Below w.heap.size w W → Calls Tryz.prog 46 #[.pointer (some ⟨b, 0, none⟩), .int .i64 y] W fun e w' => e = .returned (.tuple #[.agg #[.int .i64 (getOf ns y).v, .int .i64 (getOf ns y).l, .int .i64 (getOf ns y).h], .bool (decide (topOf ns y ≠ 24))]) ∧ Below W.heap.size W w') := fun y W hy hW => spGet (h.new hW) y (has_i64 hy (by omega)) hl
  have HC : Hid (∀ W, Below w.heap.size w W → W.cell? ⟨s, 0, none⟩ = some (.pointer (some ⟨b, 0, none⟩))) := fun W hW => (h.new hW).c0
  have HG := Lib.hid hg
  have c0 := HC.out _ hb
  have HB := Lib.hid hb
  have G0 := Lib.hid (HGT.out x _ hx hb)
  have HX := Lib.hid hx
  clear HP h hg hb hx
  generalize hge : getOf ns x = gn at *
  generalize htp : decide (topOf ns x ≠ 24) = tb at *
  obtain ⟨gv, gl, gh⟩ := gn
  have HGE := Lib.hid hge
  have HTP := Lib.hid htp
  clear hge htp
  simp only at G0
  go_enter Tryz.func20, Tryz.ntmps20
  go_wp2_with fail
  refine HPR.out.mono ?_
  rintro e w1 ⟨rfl, rfl⟩
  clear HPR
  go_wp2_with fail
  refine G0.out.mono ?_
  rintro e w2 ⟨rfl, hb2⟩
  have hb3 : Below w.heap.size w w2 := HB.out.trans (hb2.mono HB.out.size)
  have T0 := Lib.hid (tri_new w2 gv gl gh 99)
  have B4 := Lib.hid (hb3.alloc hb3.size (.cells #[.int .i64 gv, .int .i64 gl, .int .i64 gh] 99))
  clear G0 hb2 hb3 c0
  go_wp2_with fail
  go_loopw [1, 9, 10] (fun hV nV okV wr => ∃ (y : Int) (p : Nat), hV = .int .i64 y ∧ nV = .pointer (some ⟨p, 0, none⟩) ∧ okV = .bool (decide (topOf ns y ≠ 24)) ∧ Tri wr p (getOf ns y).v (getOf ns y).l (getOf ns y).h ∧ hasB ns y = true ∧ sem ns y (bitsF vals) = sem ns x (bitsF vals) ∧ Below w.heap.size w wr)
    (fun hV _ _ _ => (24 - topOf ns (intOf hV)).toNat)
  case atStart =>
    refine ⟨x, w2.heap.size, rfl, rfl, by rw [HTP.out], by rw [HGE.out]; exact T0.out, HX.out, rfl, B4.out⟩
  case round =>
    obtain ⟨y, p, rfl, rfl, rfl, hT, hy, hsm, hbr⟩ := hrel
    clear T0 B4
    by_cases ht : topOf ns y = 24
    · have dt : decide (topOf ns y ≠ 24) = false := by simp [ht]
      rw [dt]
      have hres : sem ns x (bitsF vals) = (y == 1) := by
        rw [← hsm, sem_end ht]
        by_cases e : y = 1 <;> simp [e]
      have HRES := Lib.hid hres
      clear dt hres hsm hT ht
      go_wp2
      go_ret2
      exact ⟨by rw [HRES.out]; rfl, hbr⟩
    · have hr := HG.out.ranked
      have hk := kids hr ht
      have hgn : getOf ns y = nd ns (pl y) := by unfold getOf; rw [if_neg ht]; rfl
      rw [hgn] at hT
      have ht0 := (topOf_le hr y).1
      have htl := top_lt hr ht
      have hgv : (nd ns (pl y)).v = topOf ns y := (node_at ht).2.2.1.symm
      have hsn := sem_node hr ht (bitsF vals)
      rw [hgv] at hT
      have dt : decide (topOf ns y ≠ 24) = true := by simp [ht]
      rw [dt]
      generalize hty : topOf ns y = ty at *
      have HTY := Lib.hid hty
      clear hty
      obtain ⟨v, rfl⟩ : ∃ v : Nat, ty = (v : Int) := ⟨ty.toNat, by omega⟩
      have q0 := hT.c0
      have q1 := hT.c1
      have q2 := hT.c2
      have HTT := Lib.hid hT
      have hbx := below_new wr (.cells #[.int .i64 (v : Int), .int .i64 (nd ns (pl y)).l, .int .i64 (nd ns (pl y)).h] 99)
      have hbx' := hbr.trans (hbx.mono hbr.size)
      have yc := HC.out _ hbx'
      have HBX := Lib.hid hbx'
      have TX := Lib.hid (tri_new wr (v : Int) (nd ns (pl y)).l (nd ns (pl y)).h 99)
      have hsb := shr_bit vals v hvals
      have hvt : ((v : Int)).toNat = v := by omega
      rw [hvt] at hsn
      have HSN := Lib.hid (hsn.symm.trans hsm)
      have bx0 : wr.heap.size < (wr.alloc (.cells #[.int .i64 (v : Int), .int .i64 (nd ns (pl y)).l, .int .i64 (nd ns (pl y)).h] 99)).heap.size := by simp
      have KL := Lib.hid hk.2.1
      have KH := Lib.hid hk.2.2.2
      have k1 := hk.1
      have k2 := hk.2.2.1
      clear hT hsm hsn hk hgn hgv dt hbx hbx' hvt
      generalize (nd ns (pl y)).l = lo at *
      generalize (nd ns (pl y)).h = hi' at *
      cases hbit : bitsF vals v with
      | true =>
        rw [hbit] at hsb
        have HSN' : Hid (sem ns hi' (bitsF vals) = sem ns x (bitsF vals)) := by have := HSN.out; rw [hbit, if_pos rfl] at this; exact this
        have G1 := Lib.hid (HGT.out hi' _ KH.out HBX.out)
        clear hbit HSN
        go_wp2_with fail
        refine G1.out.mono ?_
        rintro e w5 ⟨rfl, hb5⟩
        have t5 := TX.out.new hb5
        have z0 := t5.c0
        have z1 := t5.fz 0
        have t6 := t5.set0 (getOf ns hi').v
        have z2 := t6.c1
        have z3 := t6.fz 1
        have t7 := t6.set1 (getOf ns hi').l
        have z4 := t7.c2
        have z5 := t7.fz 2
        have T8 := Lib.hid (t7.set2 (getOf ns hi').h)
        have hb6 := HBX.out.trans (hb5.mono HBX.out.size)
        have hws := hbr.size
        have HB8 : Hid (Below w.heap.size w (((w5.setCell ⟨wr.heap.size, 0, none⟩ (.int .i64 (getOf ns hi').v)).setCell ⟨wr.heap.size, 1, none⟩ (.int .i64 (getOf ns hi').l)).setCell ⟨wr.heap.size, 2, none⟩ (.int .i64 (getOf ns hi').h))) := ((hb6.setCell hws _).setCell hws _).setCell hws _
        clear t5 t6 t7 hb6 hb5 G1
        generalize hgy : getOf ns hi' = gy at *
        obtain ⟨g0, g1, g2⟩ := gy
        have HGY := Lib.hid hgy
        clear hgy
        simp only at z2 z4 T8 HB8 z3 z5
        go_wp2
        go_roundw
        case rel => exact ⟨hi', wr.heap.size, rfl, rfl, by simp, by rw [HGY.out]; exact T8.out, KH.out, HSN'.out, HB8.out⟩
        case measure =>
          show (24 - topOf ns hi').toNat < (24 - topOf ns y).toNat
          rw [HTY.out]; omega
      | false =>
        rw [hbit] at hsb
        have HSN' : Hid (sem ns lo (bitsF vals) = sem ns x (bitsF vals)) := by have := HSN.out; rw [hbit, if_neg (by simp)] at this; exact this
        have G1 := Lib.hid (HGT.out lo _ KL.out HBX.out)
        clear hbit HSN
        go_wp2_with fail
        refine G1.out.mono ?_
        rintro e w5 ⟨rfl, hb5⟩
        have t5 := TX.out.new hb5
        have z0 := t5.c0
        have z1 := t5.fz 0
        have t6 := t5.set0 (getOf ns lo).v
        have z2 := t6.c1
        have z3 := t6.fz 1
        have t7 := t6.set1 (getOf ns lo).l
        have z4 := t7.c2
        have z5 := t7.fz 2
        have T8 := Lib.hid (t7.set2 (getOf ns lo).h)
        have hb6 := HBX.out.trans (hb5.mono HBX.out.size)
        have hws := hbr.size
        have HB8 : Hid (Below w.heap.size w (((w5.setCell ⟨wr.heap.size, 0, none⟩ (.int .i64 (getOf ns lo).v)).setCell ⟨wr.heap.size, 1, none⟩ (.int .i64 (getOf ns lo).l)).setCell ⟨wr.heap.size, 2, none⟩ (.int .i64 (getOf ns lo).h))) := ((hb6.setCell hws _).setCell hws _).setCell hws _
        clear t5 t6 t7 hb6 hb5 G1
        generalize hgy : getOf ns lo = gy at *
        obtain ⟨g0, g1, g2⟩ := gy
        have HGY := Lib.hid hgy
        clear hgy
        simp only at z2 z4 T8 HB8 z3 z5
        go_wp2
        go_roundw
        case rel => exact ⟨lo, wr.heap.size, rfl, rfl, by simp, by rw [HGY.out]; exact T8.out, KL.out, HSN'.out, HB8.out⟩
        case measure =>
          show (24 - topOf ns lo).toNat < (24 - topOf ns y).toNat
          rw [HTY.out]; omega
end
end Go.Proofs.YtiimdhmbbmkbfaaGreatDoor
