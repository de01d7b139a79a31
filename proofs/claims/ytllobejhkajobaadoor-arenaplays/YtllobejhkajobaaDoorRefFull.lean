/- The reference's Make: no room. -/
import Derived.Test.YtllobejhkajobaaDoorRefFind
import Derived.Deep.RegionHeldLaw
namespace Go.Proofs.YtllobejhkajobaaDoor
open Go.RowKit Go.Maps Go.Sort

/-- 'len' of a map as one step of a region that draws. -/
theorem step_len {P : Program} {ops : Array Oper} {o : Oper} {a : Act} {w : World} {K : Act → World → Prop} {Q : Exit → Act → World → Prop} {E : Prop}
    (hg : o.guard = none) (m : Operand) (t : TypeId) (hop : o.op = Op.call { callee := Callee.builtin Builtin.len, args := #[m], argTypes := #[t] })
    {b : Nat} {k : Int} (hm : a.eval m = .map (some b)) (hrun : ∀ ty, (Builtin.len_ #[t] ty #[.map (some b)]).run P w = .ok (.int .i64 k) w)
    (hK : K (a.put o.dst (.int .i64 k)) w) : if Region.wanted o (yielded ops a.tmps) = true then Oper.wp P o a w K Q else E := by
  have hw : Region.wanted o (yielded ops a.tmps) = true := by simp [Region.wanted, hg]
  rw [if_pos hw]
  unfold Oper.wp
  simp [execOp, hop, resolve, invoke, builtin, hm, hrun, Result.andThen]
  exact hK

section
variable {B : Nat} {w : World} {rb rm : Nat} {ns : List Nd} {L : List (Int × Nd)} {room : Int}

set_option maxRecDepth 100000 in
set_option maxHeartbeats 4000000 in
theorem rmake_full (hA : RefAt B w rb rm ns L room) (hr : Ranked ns) (n : Nd) (hn : n.Ok) (hf : Fit ns n) (hnin : ∀ j, j < ns.length → (nd ns j).v < 24 → nd ns j ≠ n) (hfull : room ≤ (L.length : Int)) :
    Calls Tryd.prog 7 #[.pointer (some ⟨rb, 0, none⟩), n.val] w fun e w' => e = .returned (.tuple #[.int .i64 0, .int .i64 12]) ∧ Below w.heap.size w w' := by
  obtain ⟨x, lo, hi'⟩ := n
  obtain ⟨h0, h1, h2, h3, h4, h5⟩ := hf
  simp only at h0 h1 h2 h3 h4 h5
  have hbn := below_new w (.cells #[.int .i64 x, .int .i64 lo, .int .i64 hi'] 42)
  have HW := Lib.hid (within_in h0 h1 (w.alloc (.cells #[.int .i64 x, .int .i64 lo, .int .i64 hi'] 42)))
  have HL := Lib.hid (rhas_any (hA.new hbn) hr lo hn.2.1)
  have HH : Hid (∀ X, Below (w.alloc (.cells #[.int .i64 x, .int .i64 lo, .int .i64 hi'] 42)).heap.size (w.alloc (.cells #[.int .i64 x, .int .i64 lo, .int .i64 hi'] 42)) X → Calls Tryd.prog 17 #[.pointer (some ⟨rb, 0, none⟩), .int .i64 hi'] X fun e w' => e = .returned (.bool (hasB ns hi')) ∧ Below X.heap.size X w') := fun X hX => rhas_any ((hA.new hbn).new hX) hr hi' hn.2.2
  obtain ⟨c0, c1, c2, -⟩ := cell3 w (.int .i64 x) (.int .i64 lo) (.int .i64 hi') 42
  have lN : w.heap.size < (w.alloc (.cells #[.int .i64 x, .int .i64 lo, .int .i64 hi'] 42)).heap.size := by simp
  have HA1 := Lib.hid (hA.new hbn)
  have HR := Lib.hid hr
  have HN := Lib.hid hn
  rw [h2] at HL
  rw [h3] at HH
  clear hA hn hr h2 h3
  unfold Nd.val
  go_enter Tryd.func7, Tryd.ntmps7
  go_wp2_with fail
  refine HW.out.mono ?_
  rintro e wz ⟨rfl, rfl⟩
  go_wp2_with fail
  refine HL.out.mono ?_
  rintro e w1 ⟨rfl, hb1⟩
  have c01 := (hb1.cell (p := ⟨w.heap.size, 0, none⟩) lN).trans c0
  have c11 := (hb1.cell (p := ⟨w.heap.size, 1, none⟩) lN).trans c1
  have c21 := (hb1.cell (p := ⟨w.heap.size, 2, none⟩) lN).trans c2
  have hb1' := hbn.trans (hb1.mono (by omega))
  have HH1 := Lib.hid (HH.out w1 hb1)
  have HA2 := Lib.hid (HA1.out.new hb1)
  have l1 := Nat.lt_of_lt_of_le lN hb1.size
  clear HL HH hb1 HA1
  go_wp2_with fail
  refine HH1.out.mono ?_
  rintro e w2 ⟨rfl, hb2⟩
  have z0 := (hb2.cell (p := ⟨w.heap.size, 0, none⟩) l1).trans c01
  have z1 := (hb2.cell (p := ⟨w.heap.size, 1, none⟩) l1).trans c11
  have z2 := (hb2.cell (p := ⟨w.heap.size, 2, none⟩) l1).trans c21
  have k0 := fun d os => cell_regrown z0 d os
  have k1 := fun d os => cell_regrown z1 d os
  have k2 := fun d os => cell_regrown z2 d os
  have hb2' := hb1'.trans (hb2.mono hb1'.size)
  have cA := fun d os => rtop_grown (HA2.out.new hb2) HR.out lo HN.out.2.1 d os
  have cB := fun d os => rtop_grown (HA2.out.new hb2) HR.out hi' HN.out.2.2 d os
  have HA3 := Lib.hid (HA2.out.new hb2)
  have l2 := Nat.lt_of_lt_of_le l1 hb2.size
  clear hb2 HA2 HH1 c01 c11 c21 c0 c1 c2
  generalize topOf ns lo = tl at *
  generalize topOf ns hi' = th at *
  have d1 : decide (tl ≤ x) = false := decide_eq_false (by omega)
  have d2 : decide (th ≤ x) = false := decide_eq_false (by omega)
  go_wp2_with fail
  refine wp_region_quiet_below mixed (by kernel_rfl) ?_
  repeat (quiet_step (first | (go_at_call 15; with_reducible exact cA _ _) | (go_at_call 15; with_reducible exact cB _ _)))
  refine wpQuiet_nil ?_
  intro _ hw'
  obtain ⟨⟨dq, osq⟩, hw''⟩ := hw'
  subst hw''
  clear cA cB k0 k1 k2
  have hb3 := below_regrown w2 dq osq
  generalize grow (redrawn w2 dq) osq = w3 at *
  have y0 := (hb3.cell (p := ⟨w.heap.size, 0, none⟩) l2).trans z0
  have y1 := (hb3.cell (p := ⟨w.heap.size, 1, none⟩) l2).trans z1
  have y2 := (hb3.cell (p := ⟨w.heap.size, 2, none⟩) l2).trans z2
  have hA4 := HA3.out.new hb3
  have cm := hA4.cmap
  have HA4 := Lib.hid hA4
  obtain ⟨D, hD, hRp⟩ := hA4.hmap
  have hb3' := hb2'.trans (hb3.mono hb2'.size)
  have hbk := hA4.book
  have hRP := Lib.hid hRp
  have l3 := Nat.lt_of_lt_of_le l2 hb3.size
  have HBK := Lib.hid hbk
  clear HA3 hb3 z0 z1 z2 hA4 d1 d2 h4 h5 hb2' hbk hRp
  go_wp2_with (at_range; refine wpList_range_own _ rfl _ 31 rfl 3 42 lawInt Tryd.underlying31 _ rm _ D rfl hD ?_; intro w4 hrg4 hg4 hs4)
  try go_frame
  have hk4 : Kept (fun _ => False) w3 w4 := Kept.of_grown hg4 (fun i h => by cases h)
  have HRG := Lib.hid hrg4
  have v0 := (hk4.cell (a := ⟨w.heap.size, 0, none⟩) l3 (fun h => h)).trans y0
  have v1 := (hk4.cell (a := ⟨w.heap.size, 1, none⟩) l3 (fun h => h)).trans y1
  have v2 := (hk4.cell (a := ⟨w.heap.size, 2, none⟩) l3 (fun h => h)).trans y2
  have l4 := Nat.lt_of_lt_of_le l3 hk4.size
  have hb4 := hb3'.trans (hk4.below hb3'.size (fun _ h => h.elim))
  have hr3 : w.heap.size < w3.heap.size := l3
  have hrbl := HA4.out.lt
  have hrml := hD.lt
  have HA5 := Lib.hid (HA4.out.kept hk4 (fun h => h) (fun h => h))
  clear hk4 hrg4 hg4 hs4 hD hb3' y0 y1 y2 l3 HA4 cm
  go_loopw [6] (fun _ wq => ∃ (left : Lit → Bool) (cnt : Nat), (∀ kl, left kl = true → Maps.has D kl = true) ∧ wq.ranges Tryd.prog 3 ndElem rm w3.heap.size L.length D left cnt ∧ Kept (fun j => j = w3.heap.size) w4 wq)
    (fun _ wq => wq.rangeLeft rm w3.heap.size)
  case atStart => exact ⟨_, _, fun _ h => h, HRG.out, Kept.refl _ _⟩
  case round =>
    obtain ⟨left, cnt, hleft, hrg, hkr⟩ := hrel
    have hRp := hRP.out
    have HKR := Lib.hid hkr
    clear HRG hkr
    go_wp2_with (at_next; refine wpList_next_back _ rfl _ rfl rm w3.heap.size _ D left cnt L hRp hleft rfl hrg ?_ ?_)
    · intro _
      have bne : w.heap.size ≠ w3.heap.size := by omega
      have a0 := (HKR.out.cell (a := ⟨w.heap.size, 0, none⟩) l4 bne).trans v0
      have a1 := (HKR.out.cell (a := ⟨w.heap.size, 1, none⟩) l4 bne).trans v1
      have a2 := (HKR.out.cell (a := ⟨w.heap.size, 2, none⟩) l4 bne).trans v2
      have l5 := Nat.lt_of_lt_of_le l4 HKR.out.size
      have hA6 := HA5.out.kept HKR.out (by omega) (by omega)
      have hbw := hb4.trans (HKR.out.below hb4.size (fun i hi => by omega))
      have cr := hA6.croom
      have cmm := hA6.cmap
      obtain ⟨D6, hD6, hR6⟩ := hA6.hmap
      have hln : ∀ ty, (Builtin.len_ #[31] ty #[.map (some rm)]).run Tryd.prog wr.drew = .ok (.int .i64 (L.length : Int)) wr.drew := fun ty => by
        have := hD6.drew.len Tryd.underlying31 ty
        rwa [hR6.size] at this
      have HA6 := Lib.hid hA6
      have HBW := Lib.hid hbw
      have crd : wr.drew.cell? ⟨rb, 0, none⟩ = some (.int .i64 room) := cr
      have cmd : wr.drew.cell? ⟨rb, 1, none⟩ = some (.map (some rm)) := cmm
      clear hrg hleft hRp HKR v0 v1 v2 hA6 hbw hD6 hR6 HA5 hb4 HBK hRP cr cmm
      generalize hLe : L.length = ln at *
      go_wp2_with fail
      go_region_held_law (fun w' => w'.cell? ⟨rb, 0, none⟩ = some (.int .i64 room) ∧ w'.cell? ⟨rb, 1, none⟩ = some (.map (some rm))) (exact ⟨crd, cmd⟩) (first | (refine step_len rfl _ 31 rfl rfl hln ?_))
      go_wp2
      go_ret2
      exact ⟨rfl, HBW.out.drew⟩
    · intro k m hp w5 cnt' hrg' hltc hg5 hs5 hen
      obtain ⟨j, hj, hvj, rfl, hmj⟩ := (HBK.out.mem _ _).1 hp
      have hk5 : Kept (fun j => j = w3.heap.size) wr w5 := Kept.of_grown hg5 (fun i h => by cases h; rfl)
      have hk45 := HKR.out.trans hk5
      have bne : w.heap.size ≠ w3.heap.size := by omega
      have a0 := (hk45.cell (a := ⟨w.heap.size, 0, none⟩) l4 bne).trans v0
      have a1 := (hk45.cell (a := ⟨w.heap.size, 1, none⟩) l4 bne).trans v1
      have a2 := (hk45.cell (a := ⟨w.heap.size, 2, none⟩) l4 bne).trans v2
      have l5 := Nat.lt_of_lt_of_le l4 hk45.size
      have hbx := below_new w5 (.cells #[.int .i64 m.v, .int .i64 m.l, .int .i64 m.h] 42)
      have e0 := (hbx.cell (p := ⟨w.heap.size, 0, none⟩) l5).trans a0
      have e1 := (hbx.cell (p := ⟨w.heap.size, 1, none⟩) l5).trans a1
      have e2 := (hbx.cell (p := ⟨w.heap.size, 2, none⟩) l5).trans a2
      obtain ⟨f0, f1, f2, -⟩ := cell3 w5 (.int .i64 m.v) (.int .i64 m.l) (.int .i64 m.h) 42
      have hk6 := hk45.trans (Kept.of_below hbx (fun j => j = w3.heap.size))
      have hrg6 := hrg'.alloc (.cells #[.int .i64 m.v, .int .i64 m.l, .int .i64 m.h] 42)
      have HK6 := Lib.hid hk6
      have HRG6 := Lib.hid hrg6
      have HRGo := Lib.hid hrg
      have HLEFT := Lib.hid hleft
      have hm : m ≠ ⟨x, lo, hi'⟩ := by rw [hmj]; exact hnin j hj hvj
      have hlf' : ∀ kl, ((fun z : Lit => left z && !z.sameKey (.int .i64 (2 + (j : Int)))) kl) = true → Maps.has D kl = true := fun kl h => HLEFT.out kl (by simp at h; exact h.1)
      have HLF' := Lib.hid hlf'
      clear hk5 hk45 a0 a1 a2 hk6 hrg6 hrg hrg' hg5 hs5 hbx hleft hRp hp hlf' HLEFT hmj
      obtain ⟨mv, ml, mh⟩ := m
      simp only at f0 f1 f2 hen
      have hcmp := nd_ne hm
      simp only at hcmp
      clear hm
      rcases hcmp with hc | ⟨rfl, hc⟩ | ⟨rfl, rfl, hc⟩
      · have eb : (mv == x) = false := by rw [beq_eq_false_iff_ne]; exact hc
        go_wp2
        go_roundw
        case rel => exact ⟨_, cnt', HLF'.out, HRG6.out, HK6.out⟩
        case measure => rw [HRG6.out.left_eq, HRGo.out.left_eq]; exact hltc
      · have eb : (ml == lo) = false := by rw [beq_eq_false_iff_ne]; exact hc
        go_wp2
        go_roundw
        case rel => exact ⟨_, cnt', HLF'.out, HRG6.out, HK6.out⟩
        case measure => rw [HRG6.out.left_eq, HRGo.out.left_eq]; exact hltc
      · have eb : (mh == hi') = false := by rw [beq_eq_false_iff_ne]; exact hc
        go_wp2
        go_roundw
        case rel => exact ⟨_, cnt', HLF'.out, HRG6.out, HK6.out⟩
        case measure => rw [HRG6.out.left_eq, HRGo.out.left_eq]; exact hltc
end
end Go.Proofs.YtllobejhkajobaaDoor
