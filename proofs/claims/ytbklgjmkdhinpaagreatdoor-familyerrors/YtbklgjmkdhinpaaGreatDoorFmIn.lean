/- In. -/
import Derived.Test.YtbklgjmkdhinpaaGreatDoorSrBase
import Derived.Test.YtbklgjmkdhinpaaGreatDoorFmOneS
import Derived.WalkSmall
import Derived.Laws.BitsAllLaws
set_option maxHeartbeats 2000000
set_option maxRecDepth 100000
namespace Go.Proofs.YtbklgjmkdhinpaaGreatDoor.Fm
open Go.RowKit Go.Maps Go.Proofs.YtbklgjmkdhinpaaGreatDoor.Bd
theorem clr_bit (t v : Nat) (ht : t < 16777216) (hv : v < 24) (hb : t.testBit v = true) : bits .andNot .u64 (t : Int) (IntKind.u64.wrap (2 ^ v)) = ((t ^^^ 2 ^ v : Nat) : Int) /\ t ^^^ 2 ^ v < 16777216 := by
 have h1 : (2 : Nat) ^ v < 2 ^ 24 := Nat.pow_lt_pow_right (by decide) hv
 have e : IntKind.u64.wrap ((2 : Int) ^ v) = ((2 ^ v : Nat) : Int) := by
  have hw : ∀ n : Nat, n < 18446744073709551616 -> IntKind.u64.wrap (n : Int) = n := fun n hn => by rw [IntKind.wrap_u64]; omega
  rw [show (2 : Int) ^ v = ((2 ^ v : Nat) : Int) by simp]
  exact hw _ (by omega)
 rw [e, u64_andNot_nat t (2 ^ v) (by omega) (by omega), show 18446744073709551615 - 2 ^ v = 2 ^ 64 - (2 ^ v + 1) by omega]
 refine ⟨congrArg (fun z : Nat => (z : Int)) ?_, ?_⟩
 ·apply Nat.eq_of_testBit_eq; intro i
  rw [Nat.testBit_and, Nat.testBit_two_pow_sub_succ (by omega), bit_x, Nat.testBit_two_pow]
  by_cases e : i = v
  ·subst e; simp [hb]
  ·by_cases h6 : i < 64
   ·simp [e, h6, Ne.symm e]
   ·have : t.testBit i = false := Nat.testBit_lt_two_pow (Nat.lt_of_lt_of_le (show t < 2 ^ 24 by omega) (Nat.pow_le_pow_right (n := 2) (by omega) (by omega)))
    simp [e, this]
 ·exact Nat.xor_lt_two_pow (n := 24) ht h1
section
variable {B s b : Nat} {O : Nat -> Prop} {vars : Nat} {room : Nat} {ns : List Nd} {w w' : World}
theorem in_any (hF : FamAt B w s b O vars room ns) (x : Int) (hx : hasB ns x = true) (vals : Nat) (hvals : vals < 2 ^ vars) :
  Calls Tryz.prog 13 #[.pointer (some ⟨s, 0, none⟩), .int .i64 x, .int .u64 (vals : Int)] w fun e w' => e = .returned (.tuple #[.bool (inB ns x vals), .nilIface]) /\ Below w.heap.size w w' := by
 have h := hF.space
 have hg := hF.good
 have hv24 := hF.v24
 have hl : ns.length <= 90000 := by have := hF.len; omega
 have hv2 : vals < 16777216 := by have := Nat.pow_le_pow_right (n := 2) (by omega) hv24; omega
 have HAM := Lib.hid (fun W (hW : Below w.heap.size w W) => among_any (h.new hW) hv24 vals hvals)
 clear hF
 have hi := has_i64 hx (by omega)
 have HP := present_any (cp := 1) (h.new (below_new w (.cells #[.int .i64 x] 3))) (by omega) w.heap.size [x] (ints1 w x hi) (by simp) (fun y hy => by rw [List.mem_singleton] at hy; subst hy; exact hx)
 rw [show [x].length = 1 from rfl] at HP
 have HPR := Lib.hid HP
 have hb := below_new w (.cells #[.int .i64 x] 3)
 have HGT : Hid (∀ (y : Int) (W : World), hasB ns y = true -> Below w.heap.size w W -> Calls Tryz.prog 39 #[.pointer (some ⟨b, 0, none⟩), .int .i64 y] W fun e w' => e = .returned (.tuple #[.agg #[.int .i64 (getOf ns y).v, .int .i64 (getOf ns y).l, .int .i64 (getOf ns y).h], .bool (decide (topOf ns y ≠ 24))]) /\ Below W.heap.size W w') := fun y W hy hW => spGet (h.new hW) y (has_i64 hy (by omega)) hl
 have HC : Hid (∀ W, Below w.heap.size w W -> W.cell? ⟨s, 0, none⟩ = some (.pointer (some ⟨b, 0, none⟩))) := fun W hW => (h.new hW).c0
 have HG := Lib.hid hg
 have c0 := HC.out _ hb
 have HB := Lib.hid hb
 have G0 := Lib.hid (HGT.out x _ hx hb)
 have HX := Lib.hid hx
 clear HP h hg hb hx
 generalize hge : getOf ns x = gn at *
 generalize htp : decide (topOf ns x ≠ 24) = tb at *
 obtain ⟨gv, gl, gh⟩ := gn
 have HGE := Lib.hid hge
 have HTP := Lib.hid htp
 clear hge htp
 simp only at G0
 go_enter Tryz.func13, Tryz.ntmps13
 go_wp2_with fail
 refine HPR.out.mono ?_
 rintro e w1 ⟨rfl, rfl⟩
 clear HPR
 go_wp2_with fail
 refine (HAM.out _ HB.out).mono ?_
 rintro e w1 ⟨rfl, rfl⟩
 clear HAM
 go_wp2_with fail
 refine G0.out.mono ?_
 rintro e w2 ⟨rfl, hb2⟩
 have hb3 : Below w.heap.size w w2 := HB.out.trans (hb2.mono HB.out.size)
 have T0 := Lib.hid (tri_new w2 gv gl gh 83)
 have B4 := Lib.hid (hb3.alloc hb3.size (.cells #[.int .i64 gv, .int .i64 gl, .int .i64 gh] 83))
 clear G0 hb2 hb3 c0
 go_wp2_with fail
 go_loopw [1, 2, 10, 11] (fun hV tV nV okV wr => ∃ (y : Int) (p t : Nat), hV = .int .i64 y /\ tV = .int .u64 (t : Int) /\ t < 16777216 /\ nV = .pointer (some ⟨p, 0, none⟩) /\ okV = .bool (decide (topOf ns y ≠ 24)) /\ Tri wr p (getOf ns y).v (getOf ns y).l (getOf ns y).h /\ hasB ns y = true /\ inB ns y t = inB ns x vals /\ Below w.heap.size w wr)
  (fun hV _ _ _ _ => (24 - topOf ns (intOf hV)).toNat)
 case atStart =>
  refine ⟨x, w2.heap.size, vals, rfl, rfl, hv2, rfl, by rw [HTP.out], by rw [HGE.out]; exact T0.out, HX.out, rfl, B4.out⟩
 case round =>
  obtain ⟨y, p, t, rfl, rfl, htl2, rfl, rfl, hT, hy, hsm, hbr⟩ := hrel
  clear T0 B4
  by_cases ht : topOf ns y = 24
  ·have dt : decide (topOf ns y ≠ 24) = false := by simp [ht]
   rw [dt]
   have hres : inB ns x vals = decide (y = 1 /\ t = 0) := by rw [<- hsm, inB_end ht]
   have HRES := Lib.hid hres
   clear dt hres hsm hT ht
   by_cases hy1 : y = 1
   ·subst hy1
    have et : (((t : Int)) == 0) = decide ((1 : Int) = 1 /\ t = 0) := by
     rw [Bool.eq_iff_iff]; simp
    go_wp2
    go_ret2
    exact ⟨by rw [HRES.out]; first | rfl | (rw [<- et]; rfl) | simp, hbr⟩
   ·have ey : (y == 1) = false := by rw [beq_eq_false_iff_ne]; exact hy1
    have ed : decide (y = 1 /\ t = 0) = false := by simp [hy1]
    go_wp2
    go_ret2
    exact ⟨by rw [HRES.out, ed]; rfl, hbr⟩
  ·have hr := HG.out.ranked
   have hk := kids hr ht
   have hgn : getOf ns y = nd ns (pl y) := by unfold getOf; rw [if_neg ht]; rfl
   rw [hgn] at hT
   have ht0 := (topOf_le hr y).1
   have htl := top_lt hr ht
   have hgv : (nd ns (pl y)).v = topOf ns y := (node_at ht).2.2.1.symm
   have hsn := inB_node hr ht t
   rw [hgv] at hT
   have dt : decide (topOf ns y ≠ 24) = true := by simp [ht]
   rw [dt]
   generalize hty : topOf ns y = ty at *
   have HTY := Lib.hid hty
   clear hty
   obtain ⟨v, rfl⟩ : ∃ v : Nat, ty = (v : Int) := ⟨ty.toNat, by omega⟩
   have q0 := hT.c0
   have q1 := hT.c1
   have q2 := hT.c2
   have HTT := Lib.hid hT
   have hbx := below_new wr (.cells #[.int .i64 (v : Int), .int .i64 (nd ns (pl y)).l, .int .i64 (nd ns (pl y)).h] 83)
   have hbx' := hbr.trans (hbx.mono hbr.size)
   have yc := HC.out _ hbx'
   have HBX := Lib.hid hbx'
   have TX := Lib.hid (tri_new wr (v : Int) (nd ns (pl y)).l (nd ns (pl y)).h 83)
   have hsb : (bits BinOp.and IntKind.u64 ((t : Int) / 2 ^ v) 1 == 1) = t.testBit v := shr_bit t v (by omega)
   have hvt : ((v : Int)).toNat = v := by omega
   rw [hvt] at hsn
   have HSN := Lib.hid (hsn.symm.trans hsm)
   have bx0 : wr.heap.size < (wr.alloc (.cells #[.int .i64 (v : Int), .int .i64 (nd ns (pl y)).l, .int .i64 (nd ns (pl y)).h] 83)).heap.size := by simp
   have KL := Lib.hid hk.2.1
   have KH := Lib.hid hk.2.2.2
   have k1 := hk.1
   have k2 := hk.2.2.1
   clear hT hsm hsn hk hgn hgv dt hbx hbx' hvt
   generalize (nd ns (pl y)).l = lo at *
   generalize (nd ns (pl y)).h = hi' at *
   cases hbit : t.testBit v with
   | true =>
    rw [hbit] at hsb
    have hv24' : v < 24 := by omega
    obtain ⟨hcb, hcl⟩ := clr_bit t v htl2 hv24' hbit
    have HSN' : Hid (inB ns hi' (t ^^^ 2 ^ v) = inB ns x vals) := by have := HSN.out; rw [hbit, if_pos rfl] at this; exact this
    have G1 := Lib.hid (HGT.out hi' _ KH.out HBX.out)
    clear hbit HSN
    generalize t ^^^ 2 ^ v = t2 at *
    go_wp2_with fail
    refine G1.out.mono ?_
    rintro e w5 ⟨rfl, hb5⟩
    have t5 := TX.out.new hb5
    have z0 := t5.c0
    have z1 := t5.fz 0
    have t6 := t5.set0 (getOf ns hi').v
    have z2 := t6.c1
    have z3 := t6.fz 1
    have t7 := t6.set1 (getOf ns hi').l
    have z4 := t7.c2
    have z5 := t7.fz 2
    have T8 := Lib.hid (t7.set2 (getOf ns hi').h)
    have hb6 := HBX.out.trans (hb5.mono HBX.out.size)
    have hws := hbr.size
    have HB8 : Hid (Below w.heap.size w (((w5.setCell ⟨wr.heap.size, 0, none⟩ (.int .i64 (getOf ns hi').v)).setCell ⟨wr.heap.size, 1, none⟩ (.int .i64 (getOf ns hi').l)).setCell ⟨wr.heap.size, 2, none⟩ (.int .i64 (getOf ns hi').h))) := ((hb6.setCell hws _).setCell hws _).setCell hws _
    clear t5 t6 t7 hb6 hb5 G1
    generalize hgy : getOf ns hi' = gy at *
    obtain ⟨g0, g1, g2⟩ := gy
    have HGY := Lib.hid hgy
    clear hgy
    simp only at z2 z4 T8 HB8 z3 z5
    go_wp2
    go_roundw
    case rel => exact ⟨hi', wr.heap.size, t2, rfl, rfl, hcl, rfl, by simp, by rw [HGY.out]; exact T8.out, KH.out, HSN'.out, HB8.out⟩
    case measure =>
     show (24 - topOf ns hi').toNat < (24 - topOf ns y).toNat
     rw [HTY.out]; omega
   | false =>
    rw [hbit] at hsb
    have HSN' : Hid (inB ns lo t = inB ns x vals) := by have := HSN.out; rw [hbit, if_neg (by simp)] at this; exact this
    have G1 := Lib.hid (HGT.out lo _ KL.out HBX.out)
    clear hbit HSN
    go_wp2_with fail
    refine G1.out.mono ?_
    rintro e w5 ⟨rfl, hb5⟩
    have t5 := TX.out.new hb5
    have z0 := t5.c0
    have z1 := t5.fz 0
    have t6 := t5.set0 (getOf ns lo).v
    have z2 := t6.c1
    have z3 := t6.fz 1
    have t7 := t6.set1 (getOf ns lo).l
    have z4 := t7.c2
    have z5 := t7.fz 2
    have T8 := Lib.hid (t7.set2 (getOf ns lo).h)
    have hb6 := HBX.out.trans (hb5.mono HBX.out.size)
    have hws := hbr.size
    have HB8 : Hid (Below w.heap.size w (((w5.setCell ⟨wr.heap.size, 0, none⟩ (.int .i64 (getOf ns lo).v)).setCell ⟨wr.heap.size, 1, none⟩ (.int .i64 (getOf ns lo).l)).setCell ⟨wr.heap.size, 2, none⟩ (.int .i64 (getOf ns lo).h))) := ((hb6.setCell hws _).setCell hws _).setCell hws _
    clear t5 t6 t7 hb6 hb5 G1
    generalize hgy : getOf ns lo = gy at *
    obtain ⟨g0, g1, g2⟩ := gy
    have HGY := Lib.hid hgy
    clear hgy
    simp only at z2 z4 T8 HB8 z3 z5
    go_wp2
    go_roundw
    case rel => exact ⟨lo, wr.heap.size, t, rfl, rfl, htl2, rfl, by simp, by rw [HGY.out]; exact T8.out, KL.out, HSN'.out, HB8.out⟩
    case measure =>
     show (24 - topOf ns lo).toNat < (24 - topOf ns y).toNat
     rw [HTY.out]; omega
end
end Go.Proofs.YtbklgjmkdhinpaaGreatDoor.Fm
