/- The reference's Make: a node that is there. -/
import Derived.Test.YtllobejhkajobaaDoorRefMake
namespace Go.Proofs.YtllobejhkajobaaDoor
open Go.RowKit Go.Maps Go.Sort

/-- A step of a range over a map from handles to nodes. -/
theorem wpList_next_back (w : World) {ops : Array Oper} {rest : List Oper} {o : Oper} {a : Act} {Q : Exit → Act → World → Prop} (hg : o.guard = none) (it : Operand) (hop : o.op = Op.next it false)
    (b r n : Nat) (D : DataW Unit) (left : Lit → Bool) (cnt : Nat) (L : List (Int × Nd)) (hR : BRep D L) (hleft : ∀ kl, left kl = true → Maps.has D kl = true)
    (hit : a.eval it = .pointer (some ⟨r, 0, none⟩)) (h : w.ranges Tryd.prog 3 ndElem b r n D left cnt)
    (hDone : (∀ kl, left kl = false) → wpList Tryd.prog ops Q rest (a.put o.dst (.tuple #[.bool false])) w)
    (hMore : ∀ (x : Int) (m : Nd), (x, m) ∈ L → ∀ (w' : World) (cnt' : Nat), w'.ranges Tryd.prog 3 ndElem b r n D (fun z => left z && !z.sameKey (.int .i64 x)) cnt' → cnt' < cnt → w.grownBy w' (some r) → w'.heap.size = w.heap.size →
      (Instr.entry (.pointer (some ⟨r, 0, none⟩))).run Tryd.prog w' = .ok (.tuple #[.int .i64 x, .agg #[.int .i64 m.v, .int .i64 m.l, .int .i64 m.h]]) w' →
      wpList Tryd.prog ops Q rest (a.put o.dst (.tuple #[.bool true, .int .i64 x, .agg #[.int .i64 m.v, .int .i64 m.l, .int .i64 m.h]])) w') :
    wpList Tryd.prog ops Q (o :: rest) a w := by
  refine wpList_plain hg fun K' hK' => ?_
  unfold Oper.wp
  rcases h.next lawInt o.type with ⟨-, hl, hrun⟩ | ⟨key, v, kl, y, w', cnt', hkey, hlk, hv, hat, hrun, hrg, hlt, hgr, hsz, hen⟩
  · simp [execOp, hop, hit, hrun, Result.andThen]
    exact hK' _ _ (hDone hl)
  · obtain ⟨p, hp, rfl⟩ := hR.all kl (hleft kl hlk)
    have ek : key = .int .i64 p.1 := lawInt.inj hkey (keyInt (hR.oks p hp))
    have ey : y.1 = p.2.data := by rw [← hat (.lit (.int .i64 0)), hR.at' p hp]
    have ev : v = .agg #[.int .i64 p.2.v, .int .i64 p.2.l, .int .i64 p.2.h] := ndElem_inv (ps := y.2) (by rw [hv, ← ey])
    subst ek
    subst ev
    simp [execOp, hop, hit, hrun, Result.andThen]
    exact hK' _ _ (hMore p.1 p.2 hp w' cnt' hrg hlt hgr hsz hen)

/-- How two nodes compare, field by field. -/
theorem nd_ne {a b : Nd} (h : a ≠ b) : a.v ≠ b.v ∨ a.v = b.v ∧ a.l ≠ b.l ∨ a.v = b.v ∧ a.l = b.l ∧ a.h ≠ b.h := by
  by_cases h1 : a.v = b.v
  · by_cases h2 : a.l = b.l
    · by_cases h3 : a.h = b.h
      · exact absurd (by cases a; cases b; simp_all) h
      · exact .inr (.inr ⟨h1, h2, h3⟩)
    · exact .inr (.inl ⟨h1, h2⟩)
  · exact .inl h1

section
variable {B : Nat} {w : World} {rb rm : Nat} {ns : List Nd} {L : List (Int × Nd)} {room : Int}

set_option maxRecDepth 100000 in
set_option maxHeartbeats 4000000 in
theorem rmake_found (hA : RefAt B w rb rm ns L room) (hr : Ranked ns) (hl : ns.length ≤ 100000) (n : Nd) (hn : n.Ok) (hf : Fit ns n) (i : Nat) (hi : i < ns.length) (hin : nd ns i = n) (hun : ∀ j, j < ns.length → nd ns j = n → j = i) :
    Calls Tryd.prog 7 #[.pointer (some ⟨rb, 0, none⟩), n.val] w fun e w' => e = .returned (.tuple #[.int .i64 (2 + (i : Int)), .int .i64 0]) ∧ Below w.heap.size w w' := by
  obtain ⟨x, lo, hi'⟩ := n
  obtain ⟨h0, h1, h2, h3, h4, h5⟩ := hf
  simp only at h0 h1 h2 h3 h4 h5
  have hbn := below_new w (.cells #[.int .i64 x, .int .i64 lo, .int .i64 hi'] 42)
  have HW := Lib.hid (within_in h0 h1 (w.alloc (.cells #[.int .i64 x, .int .i64 lo, .int .i64 hi'] 42)))
  have HL := Lib.hid (rhas_any (hA.new hbn) hr lo hn.2.1)
  have HH : Hid (∀ X, Below (w.alloc (.cells #[.int .i64 x, .int .i64 lo, .int .i64 hi'] 42)).heap.size (w.alloc (.cells #[.int .i64 x, .int .i64 lo, .int .i64 hi'] 42)) X → Calls Tryd.prog 17 #[.pointer (some ⟨rb, 0, none⟩), .int .i64 hi'] X fun e w' => e = .returned (.bool (hasB ns hi')) ∧ Below X.heap.size X w') := fun X hX => rhas_any ((hA.new hbn).new hX) hr hi' hn.2.2
  obtain ⟨c0, c1, c2, -⟩ := cell3 w (.int .i64 x) (.int .i64 lo) (.int .i64 hi') 42
  have lN : w.heap.size < (w.alloc (.cells #[.int .i64 x, .int .i64 lo, .int .i64 hi'] 42)).heap.size := by simp
  have HA1 := Lib.hid (hA.new hbn)
  have HR := Lib.hid hr
  have HN := Lib.hid hn
  rw [h2] at HL
  rw [h3] at HH
  clear hA hn hr h2 h3
  unfold Nd.val
  go_enter Tryd.func7, Tryd.ntmps7
  go_wp2_with fail
  refine HW.out.mono ?_
  rintro e wz ⟨rfl, rfl⟩
  go_wp2_with fail
  refine HL.out.mono ?_
  rintro e w1 ⟨rfl, hb1⟩
  have c01 := (hb1.cell (p := ⟨w.heap.size, 0, none⟩) lN).trans c0
  have c11 := (hb1.cell (p := ⟨w.heap.size, 1, none⟩) lN).trans c1
  have c21 := (hb1.cell (p := ⟨w.heap.size, 2, none⟩) lN).trans c2
  have hb1' := hbn.trans (hb1.mono (by omega))
  have HH1 := Lib.hid (HH.out w1 hb1)
  have HA2 := Lib.hid (HA1.out.new hb1)
  have l1 := Nat.lt_of_lt_of_le lN hb1.size
  clear HL HH hb1 HA1
  go_wp2_with fail
  refine HH1.out.mono ?_
  rintro e w2 ⟨rfl, hb2⟩
  have z0 := (hb2.cell (p := ⟨w.heap.size, 0, none⟩) l1).trans c01
  have z1 := (hb2.cell (p := ⟨w.heap.size, 1, none⟩) l1).trans c11
  have z2 := (hb2.cell (p := ⟨w.heap.size, 2, none⟩) l1).trans c21
  have k0 := fun d os => cell_regrown z0 d os
  have k1 := fun d os => cell_regrown z1 d os
  have k2 := fun d os => cell_regrown z2 d os
  have hb2' := hb1'.trans (hb2.mono hb1'.size)
  have cA := fun d os => rtop_grown (HA2.out.new hb2) HR.out lo HN.out.2.1 d os
  have cB := fun d os => rtop_grown (HA2.out.new hb2) HR.out hi' HN.out.2.2 d os
  have HA3 := Lib.hid (HA2.out.new hb2)
  have l2 := Nat.lt_of_lt_of_le l1 hb2.size
  clear hb2 HA2 HH1 c01 c11 c21 c0 c1 c2
  generalize topOf ns lo = tl at *
  generalize topOf ns hi' = th at *
  have d1 : decide (tl ≤ x) = false := decide_eq_false (by omega)
  have d2 : decide (th ≤ x) = false := decide_eq_false (by omega)
  go_wp2_with fail
  refine wp_region_quiet_below mixed (by kernel_rfl) ?_
  repeat (quiet_step (first | (go_at_call 15; with_reducible exact cA _ _) | (go_at_call 15; with_reducible exact cB _ _)))
  refine wpQuiet_nil ?_
  intro _ hw'
  obtain ⟨⟨dq, osq⟩, hw''⟩ := hw'
  subst hw''
  clear cA cB k0 k1 k2
  have hb3 := below_regrown w2 dq osq
  generalize grow (redrawn w2 dq) osq = w3 at *
  have y0 := (hb3.cell (p := ⟨w.heap.size, 0, none⟩) l2).trans z0
  have y1 := (hb3.cell (p := ⟨w.heap.size, 1, none⟩) l2).trans z1
  have y2 := (hb3.cell (p := ⟨w.heap.size, 2, none⟩) l2).trans z2
  have hA4 := HA3.out.new hb3
  have cm := hA4.cmap
  obtain ⟨D, hD, hRp⟩ := hA4.hmap
  have hb3' := hb2'.trans (hb3.mono hb2'.size)
  have hbk := hA4.book
  have hRP := Lib.hid hRp
  have l3 := Nat.lt_of_lt_of_le l2 hb3.size
  have HBK := Lib.hid hbk
  clear HA3 hb3 z0 z1 z2 hA4 d1 d2 h4 h5 hb2' hbk hRp
  go_wp2_with (at_range; refine wpList_range_own _ rfl _ 31 rfl 3 42 lawInt Tryd.underlying31 _ rm _ D rfl hD ?_; intro w4 hrg4 hg4 hs4)
  try go_frame
  have hk4 : Kept (fun _ => False) w3 w4 := Kept.of_grown hg4 (fun i h => by cases h)
  have HRG := Lib.hid hrg4
  have v0 := (hk4.cell (a := ⟨w.heap.size, 0, none⟩) l3 (fun h => h)).trans y0
  have v1 := (hk4.cell (a := ⟨w.heap.size, 1, none⟩) l3 (fun h => h)).trans y1
  have v2 := (hk4.cell (a := ⟨w.heap.size, 2, none⟩) l3 (fun h => h)).trans y2
  have l4 := Nat.lt_of_lt_of_le l3 hk4.size
  have hb4 := hb3'.trans (hk4.below hb3'.size (fun _ h => h.elim))
  have hr3 : w.heap.size < w3.heap.size := l3
  have hhas : Maps.has D (.int .i64 (2 + (i : Int))) = true := (hRP.out.has _ ⟨by omega, by omega⟩).2 (List.mem_map.2 ⟨(2 + (i : Int), nd ns i), (HBK.out.mem _ _).2 ⟨i, hi, by rw [hin]; exact h1, rfl, rfl⟩, rfl⟩)
  clear hk4 hrg4 hg4 hs4 hD hb3' y0 y1 y2 l3
  go_loopw [6] (fun _ wq => ∃ (left : Lit → Bool) (cnt : Nat), (∀ kl, left kl = true → Maps.has D kl = true) ∧ left (.int .i64 (2 + (i : Int))) = true ∧ wq.ranges Tryd.prog 3 ndElem rm w3.heap.size L.length D left cnt ∧ Kept (fun j => j = w3.heap.size) w4 wq)
    (fun _ wq => wq.rangeLeft rm w3.heap.size)
  case atStart => exact ⟨_, _, fun _ h => h, hhas, HRG.out, Kept.refl _ _⟩
  case round =>
    obtain ⟨left, cnt, hleft, hli, hrg, hkr⟩ := hrel
    have hRp := hRP.out
    have HKR := Lib.hid hkr
    clear HRG hkr
    go_wp2_with (at_next; refine wpList_next_back _ rfl _ rfl rm w3.heap.size _ D left cnt L hRp hleft rfl hrg ?_ ?_)
    · intro hall
      rw [hall] at hli
      cases hli
    · intro k m hp w5 cnt' hrg' hltc hg5 hs5 hen
      obtain ⟨j, hj, hvj, rfl, hmj⟩ := (HBK.out.mem _ _).1 hp
      have hk5 : Kept (fun j => j = w3.heap.size) wr w5 := Kept.of_grown hg5 (fun i h => by cases h; rfl)
      have hk45 := HKR.out.trans hk5
      have bne : w.heap.size ≠ w3.heap.size := by omega
      have a0 := (hk45.cell (a := ⟨w.heap.size, 0, none⟩) l4 bne).trans v0
      have a1 := (hk45.cell (a := ⟨w.heap.size, 1, none⟩) l4 bne).trans v1
      have a2 := (hk45.cell (a := ⟨w.heap.size, 2, none⟩) l4 bne).trans v2
      have l5 := Nat.lt_of_lt_of_le l4 hk45.size
      have hbx := below_new w5 (.cells #[.int .i64 m.v, .int .i64 m.l, .int .i64 m.h] 42)
      have e0 := (hbx.cell (p := ⟨w.heap.size, 0, none⟩) l5).trans a0
      have e1 := (hbx.cell (p := ⟨w.heap.size, 1, none⟩) l5).trans a1
      have e2 := (hbx.cell (p := ⟨w.heap.size, 2, none⟩) l5).trans a2
      obtain ⟨f0, f1, f2, -⟩ := cell3 w5 (.int .i64 m.v) (.int .i64 m.l) (.int .i64 m.h) 42
      have hk6 := hk45.trans (Kept.of_below hbx (fun j => j = w3.heap.size))
      have hrg6 := hrg'.alloc (.cells #[.int .i64 m.v, .int .i64 m.l, .int .i64 m.h] 42)
      have HK6 := Lib.hid hk6
      have HRG6 := Lib.hid hrg6
      have HRGo := Lib.hid hrg
      have HLEFT := Lib.hid hleft
      have HLI := Lib.hid hli
      clear hk5 hk45 a0 a1 a2 hk6 hrg6 hrg hrg' hg5 hs5 hbx hleft hli hRp hp
      by_cases hm : m = ⟨x, lo, hi'⟩
      · obtain rfl : j = i := hun j hj (by rw [← hmj]; exact hm)
        have hbE := hb4.trans (HK6.out.below hb4.size (fun i hi => by omega))
        subst hm
        clear hmj
        simp only at f0 f1 f2 hen
        go_wp2
        go_ret2
        exact ⟨rfl, hbE⟩
      · have hji : j ≠ i := fun e => hm (by rw [hmj, e]; exact hin)
        have hli' : ((fun z : Lit => left z && !z.sameKey (.int .i64 (2 + (j : Int)))) (.int .i64 (2 + (i : Int)))) = true := by
          simp only [HLI.out, Bool.true_and]
          rw [sameKey_ne (by intro e; injection e with _ e; omega)]; rfl
        have hlf' : ∀ kl, ((fun z : Lit => left z && !z.sameKey (.int .i64 (2 + (j : Int)))) kl) = true → Maps.has D kl = true := fun kl h => HLEFT.out kl (by simp at h; exact h.1)
        have HLI' := Lib.hid hli'
        have HLF' := Lib.hid hlf'
        obtain ⟨mv, ml, mh⟩ := m
        simp only at f0 f1 f2 hen
        have hcmp := nd_ne hm
        simp only at hcmp
        clear hm hmj hli' hlf' HLI HLEFT
        rcases hcmp with hc | ⟨rfl, hc⟩ | ⟨rfl, rfl, hc⟩
        · have eb : (mv == x) = false := by rw [beq_eq_false_iff_ne]; exact hc
          go_wp2
          go_roundw
          case rel => exact ⟨_, cnt', HLF'.out, HLI'.out, HRG6.out, HK6.out⟩
          case measure => rw [HRG6.out.left_eq, HRGo.out.left_eq]; exact hltc
        · have eb : (ml == lo) = false := by rw [beq_eq_false_iff_ne]; exact hc
          go_wp2
          go_roundw
          case rel => exact ⟨_, cnt', HLF'.out, HLI'.out, HRG6.out, HK6.out⟩
          case measure => rw [HRG6.out.left_eq, HRGo.out.left_eq]; exact hltc
        · have eb : (mh == hi') = false := by rw [beq_eq_false_iff_ne]; exact hc
          go_wp2
          go_roundw
          case rel => exact ⟨_, cnt', HLF'.out, HLI'.out, HRG6.out, HK6.out⟩
          case measure => rw [HRG6.out.left_eq, HRGo.out.left_eq]; exact hltc
end
end Go.Proofs.YtllobejhkajobaaDoor
