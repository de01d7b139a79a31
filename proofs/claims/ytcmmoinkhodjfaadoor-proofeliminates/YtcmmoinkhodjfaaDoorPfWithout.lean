/- without. -/
import Derived.Test.YtcmmoinkhodjfaaDoorPfWith
import Derived.Test.YtcmmoinkhodjfaaDoorPfRes
namespace Go.Proofs.YtcmmoinkhodjfaaDoor
open Go.RowKit Go.Deep Go.Maps

/-- What without gives. -/
def WithR (B : Nat) (lo : List (Nat × Nat)) (e : Ending) (w' : World) : Prop := ∃ loV moV, e = .returned (.agg #[loV, moV]) ∧ w'.ownsRow B 68 2 loV lo.length (scells lo) ∧ ((lo = [] ∧ moV = .map none) ∨ ∃ bm, moV = .map (some bm) ∧ B ≤ bm ∧ SetAt w' bm lo) ∧ ∀ s ∈ lo, Small s
theorem bit_u (m v : Nat) (hm : m < 2 ^ 24) (hv : v < 24) : (bits BinOp.and IntKind.u64 (m : Int) ((2 : Int) ^ v) != 0) = m.testBit v := by
  have h63 : (2 : Nat) ^ 24 < 18446744073709551616 := by decide
  have hp := pow_small hv
  have e : ((2 : Int) ^ v) = ((2 ^ v : Nat) : Int) := by simp
  rw [e, bits_and_u64_nat m (2 ^ v) (by omega) (by omega), Bool.eq_iff_iff]
  have hz : (((m &&& 2 ^ v : Nat) : Int) != 0) = true ↔ m &&& 2 ^ v ≠ 0 := by simp
  rw [hz]
  constructor
  · intro h
    obtain ⟨i, hi⟩ := Nat.exists_testBit_of_ne_zero h
    rw [Nat.testBit_and, Nat.testBit_two_pow, Bool.and_eq_true, decide_eq_true_eq] at hi
    rw [hi.2]; exact hi.1
  · intro h h0
    have : (m &&& 2 ^ v).testBit v = true := by rw [Nat.testBit_and, h, Nat.testBit_two_pow]; simp
    rw [h0] at this
    simp at this

set_option maxRecDepth 100000 in
set_option maxHeartbeats 4000000 in
theorem without_any (B pb : Nat) (l : List (Nat × Nat)) (hll : l.length ≤ 2000) (v : Nat) (hv : v < 24) (lV mV : Value) (w : World) (hP : PileM B w pb l lV mV) :
    Calls Tryd.prog 45 #[.pointer (some ⟨pb, 0, none⟩), .int .i64 (v : Int)] w fun e w' => WithR w.heap.size (withoutF l v) e w' ∧ Below w.heap.size w w' := by
  have HST := Lib.hid (W3.start w)
  obtain ⟨la, lc, rfl, -, -⟩ := srow_form hP.row
  have HRW := Lib.hid hP.row
  have hpl := hP.blk.lt
  have HPB := Lib.hid hP.blk
  have HSM := Lib.hid hP.small
  have HW := Lib.hid (shl_bit hv)
  obtain ⟨i0, hin, hz0, hz1, hz2⟩ := info_parts infoS
  have HONE : Hid (∀ c : Nat × Nat, ∀ u ∈ [Value.int .u64 (c.1 : Int), .int .u64 (c.2 : Int)], u.oneCell' = true) := fun c u hu => by
    simp only [List.mem_cons, List.not_mem_nil, or_false] at hu
    rcases hu with rfl | rfl <;> rfl
  have HLIT : Hid (∀ (W : World) (c : Nat × Nat), ∀ (j : Nat) (u : Value), [Value.int .u64 (c.1 : Int), .int .u64 (c.2 : Int)][j]? = some u → (W.alloc (.cells #[.int .u64 (c.1 : Int), .int .u64 (c.2 : Int)] 68)).cell? ((⟨W.heap.size, 0, none⟩ : Addr).add j) = some u) := fun W c => World.news_of_block (heap_alloc_new W _)
  clear hP
  have p0 : ((w.alloc (.cells #[.slice none 0 0, .map none] 93)).alloc (.cells #[.slice none 0 0, .map none] 93)).cell? ⟨pb, 0, none⟩ = some (.slice la l.length lc) := ((HPB.out.alloc _).alloc _).cell 0
  have hv2 : (v : Int) < 24 := by omega
  go_enter Tryd.func45, Tryd.ntmps45
  go_wp2_with fail
  clear p0
  go_loopw [6, 7, 20] (fun wV aV kV wr => ∃ (k : Nat) (loV moV : Value), k ≤ l.length ∧ kV = .int .i64 (k : Int) ∧ W3 w wr (withF (l.take k) v) (agF (l.take k) v) (addsF [] (restF (l.take k) v)) wV aV loV moV) (fun _ _ kV _ => l.length - (intOf kV).toNat)
  case atStart => exact ⟨0, _, _, Nat.zero_le _, rfl, HST.out⟩
  case round =>
    obtain ⟨k, loV, moV, hk, rfl, hw3⟩ := hrel
    obtain ⟨wo, rfl⟩ : ∃ wo, wo = wr := ⟨_, rfl⟩
    obtain ⟨wa, wc, rfl, -, -⟩ := srow_form hw3.wrow
    obtain ⟨aa, ac, rfl, -, -⟩ := srow_form hw3.arow
    have HW3 := Lib.hid hw3
    have hlw : (withF (l.take k) v).length ≤ 2000 := by
      refine Nat.le_trans (List.length_filter_le _ _) ?_
      rw [List.length_take]; omega
    have hla : (agF (l.take k) v).length ≤ 2000 := by
      refine Nat.le_trans (List.length_filter_le _ _) ?_
      rw [List.length_take]; omega
    have hlr : (addsF [] (restF (l.take k) v)).length ≤ 2000 := by
      refine Nat.le_trans (adds_le _ _) ?_
      have : (restF (l.take k) v).length ≤ 2000 := by
        refine Nat.le_trans (List.length_filter_le _ _) ?_
        rw [List.length_take]; omega
      simpa using this
    have hws := hw3.below.size
    clear hw3 HST
    by_cases hlt : k < l.length
    · obtain ⟨g, rfl, hgl, hc0, hc1⟩ := srow_cells HRW.out hlt
      have hd0 : wo.cell? ⟨g, k * 2, none⟩ = _ := (HW3.out.below.cell (p := ⟨g, k * 2, none⟩) hgl).trans hc0
      have hd1 : wo.cell? ⟨g, k * 2 + 1, none⟩ = _ := (HW3.out.below.cell (p := ⟨g, k * 2 + 1, none⟩) hgl).trans hc1
      have hsm := HSM.out _ (getD_mem (d := (0, 0)) hlt)
      have HFW : Hid (withF (l.take (k + 1)) v = withF (l.take k) v ++ (if (l.getD k (0, 0)).1.testBit v = true then [l.getD k (0, 0)] else [])) := filterS (p := fun c => c.1.testBit v) hlt
      have HFA : Hid (agF (l.take (k + 1)) v = agF (l.take k) v ++ (if (!(l.getD k (0, 0)).1.testBit v && (l.getD k (0, 0)).2.testBit v) = true then [l.getD k (0, 0)] else [])) := filterS (p := fun c => !c.1.testBit v && c.2.testBit v) hlt
      have HFR : Hid (restF (l.take (k + 1)) v = restF (l.take k) v ++ (if (!(l.getD k (0, 0)).1.testBit v && !(l.getD k (0, 0)).2.testBit v) = true then [l.getD k (0, 0)] else [])) := filterS (p := fun c => !c.1.testBit v && !c.2.testBit v) hlt
      generalize l.getD k (0, 0) = c at *
      have HFR2 : Hid (addsF [] (restF (l.take (k + 1)) v) = addsF (addsF [] (restF (l.take k) v)) (if (!c.1.testBit v && !c.2.testBit v) = true then [c] else [])) := by show _ = _; rw [HFR.out, adds_append]
      generalize withF (l.take k) v = ws at *
      generalize agF (l.take k) v = gs at *
      generalize addsF [] (restF (l.take k) v) = lo at *
      have hb0 := below_new wo (.cells #[.int .u64 (c.1 : Int), .int .u64 (c.2 : Int)] 68)
      have HX := Lib.hid (HW3.out.new hb0)
      have hlit := HLIT.out (wo.alloc (.cells #[.int .u64 (c.1 : Int), .int .u64 (c.2 : Int)] 68)) c
      rw [World.size_alloc] at hlit
      have HL := Lib.hid hlit
      have hbit1 := bit_u c.1 v hsm.1 hv
      have hbit2 := bit_u c.2 v hsm.2 hv
      rw [← HW.out] at hbit1 hbit2
      have HC := Lib.hid hsm
      have hlen1 := ws.length
      clear hc0 hc1 hb0 hsm hlit hlen1 HFR HW3
      cases hy : c.1.testBit v with
      | true =>
        rw [hy] at hbit1
        rw [hy, if_pos rfl] at HFW
        rw [hy] at HFA HFR2
        have HFA3 : Hid (agF (l.take (k + 1)) v = gs) := by show _ = _; rw [HFA.out]; simp
        have HFR3 : Hid (addsF [] (restF (l.take (k + 1)) v) = lo) := by show _ = _; rw [HFR2.out]; rfl
        clear HFA HFR2 hy
        go_wp2_with (first | (at_builtin; refine wpList_append_own_at _ rfl _ _ 90 rfl w.heap.size 68 i0 (.agg #[.int .u64 0, .int .u64 0]) 2 16 Tryd.underlying90 hin hz0 hz1 hz2 rfl (by decide) _ _ _ rfl (HX.out.wrow.alloc _) ⟨wo.heap.size + 1, 0, none⟩ 1 1 [.int .u64 (c.1 : Int), .int .u64 (c.2 : Int)] rfl rfl ?c1 ?c2 ?c3 ?c4 ?c5 ?_))
        all_goals try exact HL.out
        case c2 => first | exact HONE.out c | simp [Value.oneCell']
        case c3 => unfold maxLen; omega
        case c4 => omega
        case c5 => first | omega | (simp; omega)
        intro v7 w7 hown7 hgrow7 _ hloc7
        have HY := Lib.hid ((HX.out.new (below_new _ _)).grow_w hown7 hgrow7 (by simpa using hloc7))
        clear hown7 hgrow7 hloc7
        go_wp2
        go_roundw
        case rel => exact ⟨k + 1, loV, moV, hlt, by go_num, by rw [HFW.out, HFA3.out, HFR3.out]; exact HY.out⟩
        case measure => simp [intOf]; omega
      | false =>
        rw [hy] at hbit1
        rw [hy, if_neg (by simp), List.append_nil] at HFW
        cases hn : c.2.testBit v with
        | true =>
          rw [hn] at hbit2
          rw [hy, hn] at HFA HFR2
          have HFA3 : Hid (agF (l.take (k + 1)) v = gs ++ [c]) := by show _ = _; rw [HFA.out]; simp
          have HFR3 : Hid (addsF [] (restF (l.take (k + 1)) v) = lo) := by show _ = _; rw [HFR2.out]; rfl
          clear HFA HFR2 hy hn
          go_wp2_with (first | (at_builtin; refine wpList_append_own_at _ rfl _ _ 90 rfl w.heap.size 68 i0 (.agg #[.int .u64 0, .int .u64 0]) 2 16 Tryd.underlying90 hin hz0 hz1 hz2 rfl (by decide) _ _ _ rfl (HX.out.arow.alloc _) ⟨wo.heap.size + 1, 0, none⟩ 1 1 [.int .u64 (c.1 : Int), .int .u64 (c.2 : Int)] rfl rfl ?d1 ?d2 ?d3 ?d4 ?d5 ?_))
          all_goals try exact HL.out
          case d2 => first | exact HONE.out c | simp [Value.oneCell']
          case d3 => unfold maxLen; omega
          case d4 => omega
          case d5 => first | omega | (simp; omega)
          intro v7 w7 hown7 hgrow7 _ hloc7
          have HY := Lib.hid ((HX.out.new (below_new _ _)).grow_a hown7 hgrow7 (by simpa using hloc7))
          clear hown7 hgrow7 hloc7
          go_wp2
          go_roundw
          case rel => exact ⟨k + 1, loV, moV, hlt, by go_num, by rw [HFW.out, HFA3.out, HFR3.out]; exact HY.out⟩
          case measure => simp [intOf]; omega
        | false =>
          rw [hn] at hbit2
          rw [hy, hn] at HFA HFR2
          have HFA3 : Hid (agF (l.take (k + 1)) v = gs) := by show _ = _; rw [HFA.out]; simp
          have HFR3 : Hid (addsF [] (restF (l.take (k + 1)) v) = addF lo c) := by show _ = _; rw [HFR2.out]; rfl
          have HAD := Lib.hid (add_any w.heap.size (w.heap.size + 1) lo c HC.out (by omega) (by omega) loV moV _ (by rw [World.size_alloc]; omega) HX.out.out)
          unfold sidesV at HAD
          clear HFA HFR2 hy hn
          go_wp2_with fail
          refine HAD.out.mono ?_
          rintro e w7 ⟨rfl, hr⟩
          obtain ⟨loV', moV', hy7, -⟩ := HX.out.add hr
          have HY := Lib.hid hy7
          clear hr hy7 HAD
          go_wp2
          go_roundw
          case rel => exact ⟨k + 1, loV', moV', hlt, by go_num, by rw [HFW.out, HFA3.out, HFR3.out]; exact HY.out⟩
          case measure => simp [intOf]; omega
    · obtain rfl : k = l.length := by omega
      rw [List.take_length] at *
      have HGO : Hid (goW (agF l v) v (withF l v) (addsF [] (restF l v)) = withoutF l v) := rfl
      have HSW : Hid (∀ s ∈ withF l v, Small s) := fun s hs => HSM.out s (List.mem_filter.1 hs).1
      have HSA : Hid (∀ s ∈ agF l v, Small s) := fun s hs => HSM.out s (List.mem_filter.1 hs).1
      generalize withF l v = ws at *
      generalize agF l v = gs at *
      generalize addsF [] (restF l v) = lo at *
      obtain ⟨R, hR⟩ : ∃ R, withoutF l v = R := ⟨_, rfl⟩
      rw [hR] at HGO
      have HR := Lib.hid hR
      clear hR
      go_wp2_with fail
      go_loopw [51] (fun jV wr => ∃ (j : Nat) (lo : List (Nat × Nat)) (loV moV : Value), j ≤ ws.length ∧ jV = .int .i64 (j : Int) ∧ W3 w wr ws gs lo (.slice wa ws.length wc) (.slice aa gs.length ac) loV moV ∧ lo.length ≤ 2000 ∧ goW gs v (ws.drop j) lo = R) (fun jV _ => ws.length - (intOf jV).toNat)
      case atStart => exact ⟨0, lo, loV, moV, Nat.zero_le _, rfl, HW3.out, hlr, HGO.out⟩
      case round =>
        obtain ⟨j, lo2, loV2, moV2, hj, rfl, hw3, hl2, hgo⟩ := hrel
        obtain ⟨wi, rfl⟩ : ∃ wi, wi = wr := ⟨_, rfl⟩
        have HY := Lib.hid hw3
        have HGG := Lib.hid hgo
        have hws2 := hw3.below.size
        clear hw3 hgo HW3 HGO
        by_cases hjl : j < ws.length
        · obtain ⟨g, rfl, hgl, hc0, hc1⟩ := srow_cells HY.out.wrow hjl
          have HDR := Lib.hid (drop_cons (d := (0, 0)) hjl)
          have hsa := HSW.out _ (getD_mem (d := (0, 0)) hjl)
          generalize ws.getD j (0, 0) = a at *
          have hb0 := below_new wi (.cells #[.int .u64 (a.1 : Int), .int .u64 (a.2 : Int)] 68)
          have hbx := Blk.new wi 68 #[.int .u64 (a.1 : Int), .int .u64 (a.2 : Int)]
          have hlt0 := HY.out.out.lt
          have HS3 : Hid (∃ (loV moV : Value), W3 w (wi.alloc (.cells #[.int .u64 (a.1 : Int), .int .u64 (a.2 : Int)] 68)) ws gs (addsF lo2 ((rowR a gs v).take 0)) (.slice (some ⟨g, 0, none⟩) ws.length wc) (.slice aa gs.length ac) loV moV ∧ Blk (wi.alloc (.cells #[.int .u64 (a.1 : Int), .int .u64 (a.2 : Int)] 68)) wi.heap.size 68 #[.int .u64 (a.1 : Int), .int .u64 (a.2 : Int)] ∧ wi.heap.size ≠ w.heap.size + 1 ∧ loV.ownBlock ≠ some wi.heap.size ∧ moV ≠ .map (some wi.heap.size)) := by
            refine ⟨loV2, moV2, HY.out.new hb0, hbx, fun e => ?_, fun e => ?_, fun e => ?_⟩
            · have := hlt0 _ (Or.inl rfl); omega
            · have := hlt0 _ (Or.inr (Or.inl e)); omega
            · have := hlt0 _ (Or.inr (Or.inr e)); omega
          have HSA2 := Lib.hid hsa
          have HGE : Hid (goW gs v (ws.drop j) lo2 = if 2000 < (addsF lo2 (rowR a gs v)).length then addsF lo2 (rowR a gs v) else goW gs v (ws.drop (j + 1)) (addsF lo2 (rowR a gs v))) := by show _ = _; rw [HDR.out]; rfl
          obtain ⟨bx, hbxe⟩ : ∃ bx, bx = wi.heap.size := ⟨_, rfl⟩
          have hbB : w.heap.size ≤ bx := by rw [hbxe]; exact hws2
          rw [← hbxe] at HS3
          clear hb0 hbx hlt0 hsa HDR
          go_wp2_with fail
          rw [← hbxe]
          clear hbxe hc0 hc1
          go_loopw [57] (fun iV wr => ∃ (i : Nat), i ≤ gs.length ∧ iV = .int .i64 (i : Int) ∧ ∃ (loV moV : Value), W3 w wr ws gs (addsF lo2 ((rowR a gs v).take i)) (.slice (some ⟨g, 0, none⟩) ws.length wc) (.slice aa gs.length ac) loV moV ∧ Blk wr bx 68 #[.int .u64 (a.1 : Int), .int .u64 (a.2 : Int)] ∧ bx ≠ w.heap.size + 1 ∧ loV.ownBlock ≠ some bx ∧ moV ≠ .map (some bx)) (fun iV _ => gs.length - (intOf iV).toNat)
          case atStart => exact ⟨0, Nat.zero_le _, rfl, HS3.out⟩
          case round =>
            obtain ⟨i, hi, rfl, loV3, moV3, hw3, hbx, hne1, hne2, hne3⟩ := hrel
            obtain ⟨wj, rfl⟩ : ∃ wj, wj = wr := ⟨_, rfl⟩
            have HZ := Lib.hid hw3
            have HBX := Lib.hid hbx
            have hws3 := hw3.below.size
            clear hw3 hbx HS3 HY
            by_cases hil : i < gs.length
            · obtain ⟨g2, rfl, hgl2, hd0, hd1⟩ := srow_cells HZ.out.arow hil
              have hsb := HSA.out _ (getD_mem (d := (0, 0)) hil)
              have HTR : Hid (addsF lo2 ((rowR a gs v).take (i + 1)) = addF (addsF lo2 ((rowR a gs v).take i)) (resolveF a (gs.getD i (0, 0)) v)) := by
                show _ = _
                have hlm : i < (rowR a gs v).length := by unfold rowR; rw [List.length_map]; exact hil
                rw [takeS hlm, adds_snoc]
                congr 1
                unfold rowR
                simp [List.getD_eq_getElem?_getD, hil]
              have hll3 : (addsF lo2 ((rowR a gs v).take i)).length ≤ 4000 := by
                refine Nat.le_trans (adds_le _ _) ?_
                have : ((rowR a gs v).take i).length ≤ 2000 := by
                  rw [List.length_take]
                  unfold rowR
                  rw [List.length_map]
                  omega
                omega
              generalize gs.getD i (0, 0) = b at *
              have hb1 := below_new wj (.cells #[.int .u64 (b.1 : Int), .int .u64 (b.2 : Int)] 68)
              have HZ1 := Lib.hid (HZ.out.new hb1)
              have hbx1 := HBX.out.below hb1 HBX.out.lt
              have hbb := Blk.new wj 68 #[.int .u64 (b.1 : Int), .int .u64 (b.2 : Int)]
              have x0 := (hbx1.cell 0).trans (show _ = some (Value.int .u64 (a.1 : Int)) from rfl)
              have x1 := (hbx1.cell 1).trans (show _ = some (Value.int .u64 (a.2 : Int)) from rfl)
              have y0 := (hbb.cell 0).trans (show _ = some (Value.int .u64 (b.1 : Int)) from rfl)
              have y1 := (hbb.cell 1).trans (show _ = some (Value.int .u64 (b.2 : Int)) from rfl)
              have HRS := Lib.hid (res_any a b HSA2.out hsb v hv (wj.alloc (.cells #[.int .u64 (b.1 : Int), .int .u64 (b.2 : Int)] 68)))
              have hsr := resolve_small (v := v) HSA2.out hsb
              have HBX1 := Lib.hid hbx1
              unfold sidesV at HRS
              clear hb1 hbx1 hbb hsb HZ HBX
              go_wp2_with fail
              refine HRS.out.mono ?_
              rintro e w5 ⟨rfl, hb5⟩
              have HZ5 := Lib.hid (HZ1.out.new hb5)
              have HBX5 := Lib.hid (HBX1.out.below hb5 HBX1.out.lt)
              have HAD := Lib.hid (add_any w.heap.size (w.heap.size + 1) _ (resolveF a b v) hsr (by omega) (by omega) loV3 moV3 w5 HZ5.out.below.size HZ5.out.out)
              rw [← HTR.out] at HAD
              unfold sidesV at HAD
              clear hb5 HRS HZ1 HBX1 x0 x1 y0 y1
              generalize (resolveF a b v).1 = ra at *
              generalize (resolveF a b v).2 = rb at *
              go_wp2_with fail
              refine HAD.out.mono ?_
              rintro e w6 ⟨rfl, hr⟩
              obtain ⟨loV4, moV4, hy6, hbl⟩ := HZ5.out.add hr
              obtain ⟨q1, q2, q3⟩ := hbl bx _ _ HBX5.out hne1 hne2 hne3
              have HY6 := Lib.hid hy6
              have HQ1 := Lib.hid q1
              clear hr hy6 hbl q1 HAD HZ5 HBX5
              go_wp2
              go_roundw
              case rel => exact ⟨i + 1, hil, by go_num, loV4, moV4, HY6.out, HQ1.out, hne1, q2, q3⟩
              case measure => simp [intOf]; omega
            · obtain rfl : i = gs.length := by omega
              have hfull : (rowR a gs v).take gs.length = rowR a gs v := by
                have : (rowR a gs v).length = gs.length := by unfold rowR; rw [List.length_map]
                rw [← this, List.take_length]
              rw [hfull] at HZ
              have HTM := Lib.hid (tooMuch_any w.heap.size (w.heap.size + 1) _ loV3 moV3 wj HZ.out.out)
              generalize addsF lo2 (rowR a gs v) = lo3 at *
              clear hfull HBX hne1 hne2 hne3
              by_cases htm : 2000 < lo3.length
              · rw [decide_eq_true htm] at HTM
                rw [if_pos htm] at HGE
                have HEQ : Hid (lo3 = R) := HGE.out.symm.trans HGG.out
                have HY := HZ
                obtain ⟨loV2, hlo⟩ : ∃ x, x = loV3 := ⟨_, rfl⟩
                obtain ⟨moV2, hmo⟩ : ∃ x, x = moV3 := ⟨_, rfl⟩
                rw [← hlo, ← hmo] at HY
                clear hlo hmo HZ HGE HGG
                go_wp2_with fail
                refine HTM.out.mono ?_
                rintro e w7 ⟨rfl, rfl⟩
                clear HTM
                have hf := HY.out.fin
                simp only at hf
                obtain ⟨hf1, hf2, hf3, hf4⟩ := hf
                have o0 := (HY.out.out.blk.cell 0).trans (show _ = some loV2 from rfl)
                have o1 := (HY.out.out.blk.cell 1).trans (show _ = some moV2 from rfl)
                have r0 := (HY.out.res.cell 0).trans (show _ = some (Value.slice none 0 0) from rfl)
                have g0 := HY.out.res.frozen 0
                have h1 := HY.out.res.set (i := 0) (v := loV2)
                have r1 := (h1.cell 1).trans (show _ = some (Value.map none) from rfl)
                have g1 := h1.frozen 1
                have k0 := (hf1.cell 0).trans (show _ = some loV2 from rfl)
                have k1 := (hf1.cell 1).trans (show _ = some moV2 from rfl)
                have HF2 := Lib.hid hf2
                have HF3 := Lib.hid hf3
                have HF4 := Lib.hid hf4
                have HS2 := Lib.hid HY.out.out.small
                clear hf1 hf2 hf3 hf4 h1
                obtain ⟨ra, rc, rfl, -, -⟩ := srow_form HF2.out
                obtain ⟨mo, rfl⟩ : ∃ m, moV2 = .map m := by rcases HF3.out with ⟨-, e⟩ | ⟨bm, e, -⟩ <;> exact ⟨_, e⟩
                go_wp2
                refine bodyPost_ret (v := .agg #[.slice ra lo3.length rc, .map mo]) (by simp [results, Tryd.results45, go_sem, k0, k1]) rfl ?_
                rw [HR.out, ← HEQ.out]
                exact ⟨⟨_, _, rfl, HF2.out, HF3.out, HS2.out⟩, HF4.out⟩
              · rw [decide_eq_false htm] at HTM
                rw [if_neg htm] at HGE
                have HEQ : Hid (goW gs v (ws.drop (j + 1)) lo3 = R) := HGE.out.symm.trans HGG.out
                clear HGE HGG
                go_wp2_with fail
                refine HTM.out.mono ?_
                rintro e w7 ⟨rfl, rfl⟩
                clear HTM
                go_wp2
                go_roundw
                case rel => exact ⟨j + 1, lo3, loV3, moV3, hjl, by go_num, HZ.out, by omega, HEQ.out⟩
                case measure => simp [intOf]; omega
        · obtain rfl : j = ws.length := by omega
          have HEQ : Hid (lo2 = R) := by
            show lo2 = R
            have := HGG.out
            rw [List.drop_length] at this
            exact this
          clear HGG
          have hf := HY.out.fin
          simp only at hf
          obtain ⟨hf1, hf2, hf3, hf4⟩ := hf
          have o0 := (HY.out.out.blk.cell 0).trans (show _ = some loV2 from rfl)
          have o1 := (HY.out.out.blk.cell 1).trans (show _ = some moV2 from rfl)
          have r0 := (HY.out.res.cell 0).trans (show _ = some (Value.slice none 0 0) from rfl)
          have g0 := HY.out.res.frozen 0
          have h1 := HY.out.res.set (i := 0) (v := loV2)
          have r1 := (h1.cell 1).trans (show _ = some (Value.map none) from rfl)
          have g1 := h1.frozen 1
          have k0 := (hf1.cell 0).trans (show _ = some loV2 from rfl)
          have k1 := (hf1.cell 1).trans (show _ = some moV2 from rfl)
          have HF2 := Lib.hid hf2
          have HF3 := Lib.hid hf3
          have HF4 := Lib.hid hf4
          have HS2 := Lib.hid HY.out.out.small
          clear hf1 hf2 hf3 hf4 h1
          obtain ⟨ra, rc, rfl, -, -⟩ := srow_form HF2.out
          obtain ⟨mo, rfl⟩ : ∃ m, moV2 = .map m := by rcases HF3.out with ⟨-, e⟩ | ⟨bm, e, -⟩ <;> exact ⟨_, e⟩
          go_wp2
          refine bodyPost_ret (v := .agg #[.slice ra lo2.length rc, .map mo]) (by simp [results, Tryd.results45, go_sem, k0, k1]) rfl ?_
          rw [HR.out, ← HEQ.out]
          exact ⟨⟨_, _, rfl, HF2.out, HF3.out, HS2.out⟩, HF4.out⟩
end Go.Proofs.YtcmmoinkhodjfaaDoor
