/- Holds. -/
import Derived.Test.YtcjjekhecjmaeaaGreatDoorImSave
import Derived.Test.YtcjjekhecjmaeaaGreatDoorBdSem
import Derived.WalkSmall
import Derived.Test.YtcjjekhecjmaeaaGreatDoorBdWithout
set_option maxHeartbeats 2000000
set_option maxRecDepth 100000
namespace Go.Proofs.YtcjjekhecjmaeaaGreatDoor
section
theorem sumS_n {m n : Nat} (hm : m < 9973) (hn : n < 9973) (b : UInt8) (h : sumS m b = sumS n b) : m = n := by
 unfold sumS at h
 omega
theorem sumS_lt (n : Nat) (b : UInt8) : sumS n b < 9973 := Nat.mod_lt _ (by decide)
theorem sumS_b (n : Nat) {a b : UInt8} (h : sumS n a = sumS n b) : a = b := by
 unfold sumS at h
 have ha := a.toNat_lt
 have hb := b.toNat_lt
 exact UInt8.toNat_inj.1 (by omega)
theorem foldl_inj : ∀ (l : List UInt8) {m n : Nat}, m < 9973 -> n < 9973 -> l.foldl sumS m = l.foldl sumS n -> m = n
 | [], _, _, _, _, h => h
 | b :: l, _, _, hm, hn, h => sumS_n hm hn b (foldl_inj l (sumS_lt _ _) (sumS_lt _ _) h)
theorem sum_one (a c : List UInt8) {x y : UInt8} (h : sumF (a ++ x :: c) = sumF (a ++ y :: c)) : x = y := by
 unfold sumF at h
 rw [List.foldl_append, List.foldl_append, List.foldl_cons, List.foldl_cons] at h
 exact sumS_b _ (foldl_inj c (sumS_lt _ _) (sumS_lt _ _) h)
theorem one_split : ∀ {l m : List UInt8} {i : Nat}, l.length = m.length -> (∀ j, j ≠ i -> l[j]? = m[j]?) -> i < l.length -> ∃ a x y c, l = a ++ x :: c /\ m = a ++ y :: c
 | [], _, _, _, _, h => absurd h (Nat.not_lt_zero _)
 | x :: l, [], _, h, _, _ => by simp at h
 | x :: l, y :: m, 0, h, hs, _ => by
  refine ⟨[], x, y, l, rfl, ?_⟩
  have : l = m := List.ext_getElem? (fun j => by have := hs (j + 1) (by omega); simpa using this)
  rw [this]; rfl
 | x :: l, y :: m, i + 1, h, hs, hi => by
  have hxy : x = y := by have := hs 0 (by omega); simpa using this
  obtain ⟨a, u, v, c, h1, h2⟩ := one_split (l := l) (m := m) (i := i) (by simpa using h) (fun j hj => by have := hs (j + 1) (by omega); simpa using this) (by simpa using hi)
  exact ⟨x :: a, u, v, c, by rw [h1]; rfl, by rw [h2, hxy]; rfl⟩
def lastL (d : List UInt8) : List UInt8 := [115, 117, 109, 32] ++ d ++ [10]
theorem last_s {d : List UInt8} (hd : 115 ∉ d) {k : Nat} (hk : 1 <= k) : (lastL d)[k]? ≠ some 115 := by
 intro h
 obtain ⟨k, rfl⟩ : ∃ j, k = j + 1 := ⟨k - 1, by omega⟩
 have hm : (115 : UInt8) ∈ (lastL d).drop 1 := List.mem_of_getElem? (i := k) (by rw [List.getElem?_drop]; rw [Nat.add_comm]; exact h)
 simp [lastL] at hm
 exact hd hm
theorem last_u {d : List UInt8} (hd : 117 ∉ d) {k : Nat} (hk : 2 <= k) : (lastL d)[k]? ≠ some 117 := by
 intro h
 obtain ⟨k, rfl⟩ : ∃ j, k = j + 2 := ⟨k - 2, by omega⟩
 have hm : (117 : UInt8) ∈ (lastL d).drop 2 := List.mem_of_getElem? (i := k) (by rw [List.getElem?_drop]; rw [Nat.add_comm]; exact h)
 simp [lastL] at hm
 exact hd hm
theorem same_place {b1 b2 d1 d2 : List UInt8} {i : Nat} (h1 : 115 ∉ d2) (h2 : 117 ∉ d2) (hs : ∀ j, j ≠ i -> (b1 ++ lastL d1)[j]? = (b2 ++ lastL d2)[j]?) : b1.length <= b2.length := by
 by_cases h : b1.length <= b2.length
 ·exact h
 ·exfalso
  have e1 : (b1 ++ lastL d1)[b1.length]? = some 115 := by rw [List.getElem?_append_right (Nat.le_refl _)]; simp [lastL]
  have e2 : (b1 ++ lastL d1)[b1.length + 1]? = some 117 := by rw [List.getElem?_append_right (by omega)]; simp [lastL]
  have f1 : (b2 ++ lastL d2)[b1.length]? = (lastL d2)[b1.length - b2.length]? := List.getElem?_append_right (by omega)
  have f2 : (b2 ++ lastL d2)[b1.length + 1]? = (lastL d2)[b1.length + 1 - b2.length]? := List.getElem?_append_right (by omega)
  have hi : i = b1.length := by
   by_cases e : i = b1.length
   ·exact e
   ·have := hs b1.length (fun h => e h.symm)
    rw [e1, f1] at this
    exact absurd this.symm (last_s h1 (by omega))
  have := hs (b1.length + 1) (by omega)
  rw [e2, f2] at this
  exact last_u h2 (by omega) this.symm
theorem no_two (g : Nat -> List UInt8) (h1 : ∀ n, 115 ∉ g n) (h2 : ∀ n, 117 ∉ g n) (hg : ∀ m n, g m = g n -> m = n) {b1 b2 : List UInt8} {i : Nat}
  (hs : ∀ j, j ≠ i -> (b1 ++ lastL (g (sumF b1)))[j]? = (b2 ++ lastL (g (sumF b2)))[j]?) : (b1 ++ lastL (g (sumF b1))) = (b2 ++ lastL (g (sumF b2))) := by
 have hb : b1.length = b2.length := Nat.le_antisymm (same_place (h1 _) (h2 _) hs) (same_place (h1 _) (h2 _) (fun j hj => (hs j hj).symm))
 by_cases hi : i < b1.length
 ·have ht : lastL (g (sumF b1)) = lastL (g (sumF b2)) := List.ext_getElem? (fun j => by
   have := hs (b1.length + j) (by omega)
   rw [List.getElem?_append_right (by omega), List.getElem?_append_right (by omega), hb] at this
   simpa using this)
  have hsum : sumF b1 = sumF b2 := hg _ _ (by simpa [lastL] using ht)
  obtain ⟨a, x, y, c, e1, e2⟩ := one_split hb (fun j hj => by
   by_cases hj2 : j < b1.length
   ·have := hs j hj
    rw [List.getElem?_append_left hj2, List.getElem?_append_left (by omega)] at this
    exact this
   ·rw [List.getElem?_eq_none (by omega), List.getElem?_eq_none (by omega)]) hi
  rw [e1, e2] at hsum
  rw [e1, e2, hsum, sum_one a c hsum]
 ·have e : b1 = b2 := List.ext_getElem? (fun j => by
   by_cases hj2 : j < b1.length
   ·have := hs j (by omega)
    rw [List.getElem?_append_left hj2, List.getElem?_append_left (by omega)] at this
    exact this
   ·rw [List.getElem?_eq_none (by omega), List.getElem?_eq_none (by omega)])
  rw [e]
def valD (l : List UInt8) : Nat := l.foldl (fun a b => 10 * a + (b.toNat - 48)) 0
theorem dec_val (u : Nat) : valD (Lib.decDigits u) = u /\ ∀ b ∈ Lib.decDigits u, 48 <= b.toNat /\ b.toNat <= 57 := by
 induction u using Nat.strongRecOn with
 | _ u ih =>
  rw [Lib.decDigits]
  split
  ·rename_i h
   have e : (UInt8.ofNat (48 + u)).toNat = 48 + u := by rw [UInt8.toNat_ofNat']; omega
   refine ⟨by simp only [valD, List.foldl_cons, List.foldl_nil]; rw [e]; omega, fun b hb => ?_⟩
   rw [List.mem_singleton] at hb
   rw [hb, e]; omega
  ·rename_i h
   obtain ⟨h1, h2⟩ := ih (u / 10) (by omega)
   have e : (UInt8.ofNat (48 + u % 10)).toNat = 48 + u % 10 := by rw [UInt8.toNat_ofNat']; omega
   refine ⟨?_, fun b hb => ?_⟩
   ·unfold valD at h1 ⊢
    rw [List.foldl_append, h1]
    simp only [List.foldl_cons, List.foldl_nil]
    rw [e]; omega
   ·rcases List.mem_append.1 hb with hb | hb
    ·exact h2 b hb
    ·rw [List.mem_singleton] at hb
     rw [hb, e]; omega
theorem told_nat (n : Nat) : toldF [(n : Int)] = Lib.decDigits n := by
 have : Lib.itoa (n : Int) = Lib.decDigits n := by unfold Lib.itoa; rw [if_neg (by omega)]; simp
 simp [toldF, Lib.join, this]
theorem told_no (n : Nat) {b : UInt8} (hb : 57 < b.toNat) : b ∉ toldF [(n : Int)] := fun h => by
 rw [told_nat] at h
 have := ((dec_val n).2 b h).2
 omega
theorem told_nat_inj (m n : Nat) (h : toldF [(m : Int)] = toldF [(n : Int)]) : m = n := by
 rw [told_nat, told_nat] at h
 rw [<- (dec_val m).1, <- (dec_val n).1, h]
theorem img_two {vars vars' : Nat} {ns ns' : List Nd} {D D' : List Int} {h h' : Int} {i : Nat} (hs : ∀ j, j ≠ i -> (imgF vars ns D h)[j]? = (imgF vars' ns' D' h')[j]?) : imgF vars ns D h = imgF vars' ns' D' h' :=
 no_two (fun n => toldF [(n : Int)]) (fun n => told_no n (by decide)) (fun n => told_no n (by decide)) told_nat_inj hs
end
section
open Go.RowKit Go.Maps
def bitsF (n : Nat) : Nat -> Bool := fun i => n.testBit i
theorem shr_bit (vals v : Nat) (hv : vals < 18446744073709551616) : (bits BinOp.and IntKind.u64 ((vals : Int) / 2 ^ v) 1 == 1) = bitsF vals v := by
 have e : (vals : Int) / 2 ^ v = ((vals / 2 ^ v : Nat) : Int) := by simp
 have hd : vals / 2 ^ v <= vals := Nat.div_le_self _ _
 generalize hm : vals / 2 ^ v = m at *
 rw [e, and_one_u64 _ (by omega) (by omega)]
 have hb : bitsF vals v = decide (m % 2 = 1) := by unfold bitsF; rw [Nat.testBit_eq_decide_div_mod_eq, hm]
 rw [hb, Bool.eq_iff_iff]
 simp
 omega
end
section
open Go.RowKit Go.Maps
section
variable {B s b : Nat} {O : Nat -> Prop} {vars : Nat} {room : Int} {ns : List Nd} {w w' : World}
theorem holds_any (h : SpaceAt B w s b O vars room ns) (hg : Good vars ns) (hl : ns.length <= 90000) (x : Int) (hx : hasB ns x = true) (vals : Nat) (hvals : vals < 18446744073709551616) :
  Calls Tryz.prog 28 #[.pointer (some ⟨s, 0, none⟩), .int .i64 x, .int .u64 (vals : Int)] w fun e w' => e = .returned (.tuple #[.bool (sem ns x (bitsF vals)), .nilIface]) /\ Below w.heap.size w w' := by
 have hi := has_i64 hx (by omega)
 have HP := present_any (cp := 1) (h.new (below_new w (.cells #[.int .i64 x] 3))) (by omega) w.heap.size [x] (ints1 w x hi) (by simp) (fun y hy => by rw [List.mem_singleton] at hy; subst hy; exact hx)
 rw [show [x].length = 1 from rfl] at HP
 have HPR := Lib.hid HP
 have hb := below_new w (.cells #[.int .i64 x] 3)
 have HGT : Hid (∀ (y : Int) (W : World), hasB ns y = true -> Below w.heap.size w W -> Calls Tryz.prog 59 #[.pointer (some ⟨b, 0, none⟩), .int .i64 y] W fun e w' => e = .returned (.tuple #[.agg #[.int .i64 (getOf ns y).v, .int .i64 (getOf ns y).l, .int .i64 (getOf ns y).h], .bool (decide (topOf ns y ≠ 24))]) /\ Below W.heap.size W w') := fun y W hy hW => spGet (h.new hW) y (has_i64 hy (by omega)) hl
 have HC : Hid (∀ W, Below w.heap.size w W -> W.cell? ⟨s, 0, none⟩ = some (.pointer (some ⟨b, 0, none⟩))) := fun W hW => (h.new hW).c0
 have HG := Lib.hid hg
 have c0 := HC.out _ hb
 have HB := Lib.hid hb
 have G0 := Lib.hid (HGT.out x _ hx hb)
 have HX := Lib.hid hx
 clear HP h hg hb hx
 generalize hge : getOf ns x = gn at *
 generalize htp : decide (topOf ns x ≠ 24) = tb at *
 obtain ⟨gv, gl, gh⟩ := gn
 have HGE := Lib.hid hge
 have HTP := Lib.hid htp
 clear hge htp
 simp only at G0
 go_enter Tryz.func28, Tryz.ntmps28
 go_wp2_with fail
 refine HPR.out.mono ?_
 rintro e w1 ⟨rfl, rfl⟩
 clear HPR
 go_wp2_with fail
 refine G0.out.mono ?_
 rintro e w2 ⟨rfl, hb2⟩
 have hb3 : Below w.heap.size w w2 := HB.out.trans (hb2.mono HB.out.size)
 have T0 := Lib.hid (tri_new w2 gv gl gh 102)
 have B4 := Lib.hid (hb3.alloc hb3.size (.cells #[.int .i64 gv, .int .i64 gl, .int .i64 gh] 102))
 clear G0 hb2 hb3 c0
 go_wp2_with fail
 go_loopw [1, 9, 10] (fun hV nV okV wr => ∃ (y : Int) (p : Nat), hV = .int .i64 y /\ nV = .pointer (some ⟨p, 0, none⟩) /\ okV = .bool (decide (topOf ns y ≠ 24)) /\ Tri wr p (getOf ns y).v (getOf ns y).l (getOf ns y).h /\ hasB ns y = true /\ sem ns y (bitsF vals) = sem ns x (bitsF vals) /\ Below w.heap.size w wr)
  (fun hV _ _ _ => (24 - topOf ns (intOf hV)).toNat)
 case atStart =>
  refine ⟨x, w2.heap.size, rfl, rfl, by rw [HTP.out], by rw [HGE.out]; exact T0.out, HX.out, rfl, B4.out⟩
 case round =>
  obtain ⟨y, p, rfl, rfl, rfl, hT, hy, hsm, hbr⟩ := hrel
  clear T0 B4
  by_cases ht : topOf ns y = 24
  ·have dt : decide (topOf ns y ≠ 24) = false := by simp [ht]
   rw [dt]
   have hres : sem ns x (bitsF vals) = (y == 1) := by
    rw [<- hsm, sem_end ht]
    by_cases e : y = 1 <;> simp [e]
   have HRES := Lib.hid hres
   clear dt hres hsm hT ht
   go_wp2
   go_ret2
   exact ⟨by rw [HRES.out]; rfl, hbr⟩
  ·have hr := HG.out.ranked
   have hk := kids hr ht
   have hgn : getOf ns y = nd ns (pl y) := by unfold getOf; rw [if_neg ht]; rfl
   rw [hgn] at hT
   have ht0 := (topOf_le hr y).1
   have htl := top_lt hr ht
   have hgv : (nd ns (pl y)).v = topOf ns y := (node_at ht).2.2.1.symm
   have hsn := sem_node hr ht (bitsF vals)
   rw [hgv] at hT
   have dt : decide (topOf ns y ≠ 24) = true := by simp [ht]
   rw [dt]
   generalize hty : topOf ns y = ty at *
   have HTY := Lib.hid hty
   clear hty
   obtain ⟨v, rfl⟩ : ∃ v : Nat, ty = (v : Int) := ⟨ty.toNat, by omega⟩
   have q0 := hT.c0
   have q1 := hT.c1
   have q2 := hT.c2
   have HTT := Lib.hid hT
   have hbx := below_new wr (.cells #[.int .i64 (v : Int), .int .i64 (nd ns (pl y)).l, .int .i64 (nd ns (pl y)).h] 102)
   have hbx' := hbr.trans (hbx.mono hbr.size)
   have yc := HC.out _ hbx'
   have HBX := Lib.hid hbx'
   have TX := Lib.hid (tri_new wr (v : Int) (nd ns (pl y)).l (nd ns (pl y)).h 102)
   have hsb := shr_bit vals v hvals
   have hvt : ((v : Int)).toNat = v := by omega
   rw [hvt] at hsn
   have HSN := Lib.hid (hsn.symm.trans hsm)
   have bx0 : wr.heap.size < (wr.alloc (.cells #[.int .i64 (v : Int), .int .i64 (nd ns (pl y)).l, .int .i64 (nd ns (pl y)).h] 102)).heap.size := by simp
   have KL := Lib.hid hk.2.1
   have KH := Lib.hid hk.2.2.2
   have k1 := hk.1
   have k2 := hk.2.2.1
   clear hT hsm hsn hk hgn hgv dt hbx hbx' hvt
   generalize (nd ns (pl y)).l = lo at *
   generalize (nd ns (pl y)).h = hi' at *
   cases hbit : bitsF vals v with
   | true =>
    rw [hbit] at hsb
    have HSN' : Hid (sem ns hi' (bitsF vals) = sem ns x (bitsF vals)) := by have := HSN.out; rw [hbit, if_pos rfl] at this; exact this
    have G1 := Lib.hid (HGT.out hi' _ KH.out HBX.out)
    clear hbit HSN
    go_wp2_with fail
    refine G1.out.mono ?_
    rintro e w5 ⟨rfl, hb5⟩
    have t5 := TX.out.new hb5
    have z0 := t5.c0
    have z1 := t5.fz 0
    have t6 := t5.set0 (getOf ns hi').v
    have z2 := t6.c1
    have z3 := t6.fz 1
    have t7 := t6.set1 (getOf ns hi').l
    have z4 := t7.c2
    have z5 := t7.fz 2
    have T8 := Lib.hid (t7.set2 (getOf ns hi').h)
    have hb6 := HBX.out.trans (hb5.mono HBX.out.size)
    have hws := hbr.size
    have HB8 : Hid (Below w.heap.size w (((w5.setCell ⟨wr.heap.size, 0, none⟩ (.int .i64 (getOf ns hi').v)).setCell ⟨wr.heap.size, 1, none⟩ (.int .i64 (getOf ns hi').l)).setCell ⟨wr.heap.size, 2, none⟩ (.int .i64 (getOf ns hi').h))) := ((hb6.setCell hws _).setCell hws _).setCell hws _
    clear t5 t6 t7 hb6 hb5 G1
    generalize hgy : getOf ns hi' = gy at *
    obtain ⟨g0, g1, g2⟩ := gy
    have HGY := Lib.hid hgy
    clear hgy
    simp only at z2 z4 T8 HB8 z3 z5
    go_wp2
    go_roundw
    case rel => exact ⟨hi', wr.heap.size, rfl, rfl, by simp, by rw [HGY.out]; exact T8.out, KH.out, HSN'.out, HB8.out⟩
    case measure =>
     show (24 - topOf ns hi').toNat < (24 - topOf ns y).toNat
     rw [HTY.out]; omega
   | false =>
    rw [hbit] at hsb
    have HSN' : Hid (sem ns lo (bitsF vals) = sem ns x (bitsF vals)) := by have := HSN.out; rw [hbit, if_neg (by simp)] at this; exact this
    have G1 := Lib.hid (HGT.out lo _ KL.out HBX.out)
    clear hbit HSN
    go_wp2_with fail
    refine G1.out.mono ?_
    rintro e w5 ⟨rfl, hb5⟩
    have t5 := TX.out.new hb5
    have z0 := t5.c0
    have z1 := t5.fz 0
    have t6 := t5.set0 (getOf ns lo).v
    have z2 := t6.c1
    have z3 := t6.fz 1
    have t7 := t6.set1 (getOf ns lo).l
    have z4 := t7.c2
    have z5 := t7.fz 2
    have T8 := Lib.hid (t7.set2 (getOf ns lo).h)
    have hb6 := HBX.out.trans (hb5.mono HBX.out.size)
    have hws := hbr.size
    have HB8 : Hid (Below w.heap.size w (((w5.setCell ⟨wr.heap.size, 0, none⟩ (.int .i64 (getOf ns lo).v)).setCell ⟨wr.heap.size, 1, none⟩ (.int .i64 (getOf ns lo).l)).setCell ⟨wr.heap.size, 2, none⟩ (.int .i64 (getOf ns lo).h))) := ((hb6.setCell hws _).setCell hws _).setCell hws _
    clear t5 t6 t7 hb6 hb5 G1
    generalize hgy : getOf ns lo = gy at *
    obtain ⟨g0, g1, g2⟩ := gy
    have HGY := Lib.hid hgy
    clear hgy
    simp only at z2 z4 T8 HB8 z3 z5
    go_wp2
    go_roundw
    case rel => exact ⟨lo, wr.heap.size, rfl, rfl, by simp, by rw [HGY.out]; exact T8.out, KL.out, HSN'.out, HB8.out⟩
    case measure =>
     show (24 - topOf ns lo).toNat < (24 - topOf ns y).toNat
     rw [HTY.out]; omega
end
end
end Go.Proofs.YtcjjekhecjmaeaaGreatDoor
