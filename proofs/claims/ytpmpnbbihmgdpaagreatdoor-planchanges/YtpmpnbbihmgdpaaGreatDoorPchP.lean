/- PlanChanges, plain: the steps lead from one to the other. -/
import Derived.Test.YtpmpnbbihmgdpaaGreatDoorPlChange
set_option maxHeartbeats 4000000
set_option maxRecDepth 100000
namespace Go.Proofs.YtpmpnbbihmgdpaaGreatDoor
section
open Go.RowKit Go.Deep Go.Shelf Sv
attribute [local go_sem] Oper.semAt_some
theorem chR_err1 {its : List It} {ls : List Ln} {fr tt : Nat} {k : Int} (h : ordR its ls fr = .error k) : chR its ls fr tt = .error k := by unfold chR; rw [h]
theorem chR_err2 {its : List It} {ls : List Ln} {fr tt : Nat} {a : List Nat} {k : Int} (h : ordR its ls fr = .ok a) (h2 : ordR its ls tt = .error k) : chR its ls fr tt = .error k := by unfold chR; rw [h]; simp only [h2]
theorem chR_ok {its : List It} {ls : List Ln} {fr tt : Nat} {a b : List Nat} (h : ordR its ls fr = .ok a) (h2 : ordR its ls tt = .ok b) : chR its ls fr tt = .ok ((goF a tt).map (fun i => (i, false)) ++ (comeF b fr).map fun i => (i, true)) := by unfold chR; rw [h]; simp only [h2]
theorem change_err1 (bk : Nat) (ls : List Ln) (its : List It) (hN : newF ls = .ok its) (fr tt : Nat) (w : World) (h : CatAt w bk ls its) (h1 : fr < 18446744073709551616) (k : Int) (hk : ordR its ls fr = .error k) :
  Calls Tryz.prog 35 #[.pointer (some ⟨bk, 0, none⟩), .int .u64 (fr : Int), .int .u64 (tt : Int)] w (ChangeRes w (chR its ls fr tt)) := by
 have HO0 := order_c bk ls its hN fr w h h1
 rw [hk] at HO0
 have HO : Hid (Calls Tryz.prog 33 #[.pointer (some ⟨bk, 0, none⟩), .int .u64 (fr : Int)] w fun e w' => e = .returned (.tuple #[.slice none 0 0, .iface 34 (.int .i64 k)]) /\ Below w.heap.size w w') := HO0
 rw [chR_err1 hk]
 show Calls _ _ _ _ fun e w' => e = .returned (.tuple #[.slice none 0 0, .iface 34 (.int .i64 k)]) /\ Below w.heap.size w w'
 clear HO0 hk h hN
 go_enter Tryz.func35, Tryz.ntmps35
 go_wp2_with fail
 refine HO.out.mono ?_
 rintro e w1 ⟨rfl, hb1⟩
 have HB1 := Lib.hid hb1
 clear hb1 HO
 go_wp2
 go_ret2
 exact ⟨rfl, HB1.out⟩
theorem change_err2 (bk : Nat) (ls : List Ln) (its : List It) (hN : newF ls = .ok its) (fr tt : Nat) (w : World) (h : CatAt w bk ls its) (h1 : fr < 18446744073709551616) (h2 : tt < 18446744073709551616) (a : List Nat) (k : Int) (ha : ordR its ls fr = .ok a) (hk : ordR its ls tt = .error k) :
  Calls Tryz.prog 35 #[.pointer (some ⟨bk, 0, none⟩), .int .u64 (fr : Int), .int .u64 (tt : Int)] w (ChangeRes w (chR its ls fr tt)) := by
 have HO0 := order_c bk ls its hN fr w h h1
 rw [ha] at HO0
 have HO : Hid (Calls Tryz.prog 33 #[.pointer (some ⟨bk, 0, none⟩), .int .u64 (fr : Int)] w fun e w' => ∃ wa wc, e = .returned (.tuple #[.slice wa a.length wc, .nilIface]) /\ Below w.heap.size w w') := HO0.mono fun e w' ⟨v, he, hr, hb⟩ => by
  obtain ⟨wa, wc, rfl, -⟩ := row_form hr
  exact ⟨wa, wc, he, hb⟩
 have HT : Hid (∀ W, Below w.heap.size w W -> Calls Tryz.prog 33 #[.pointer (some ⟨bk, 0, none⟩), .int .u64 (tt : Int)] W fun e w' => e = .returned (.tuple #[.slice none 0 0, .iface 34 (.int .i64 k)]) /\ Below W.heap.size W w') := fun W hb => by
  have := order_c bk ls its hN tt W (h.below hb (Nat.le_refl _)) h2
  rw [hk] at this
  exact this
 rw [chR_err2 ha hk]
 show Calls _ _ _ _ fun e w' => e = .returned (.tuple #[.slice none 0 0, .iface 34 (.int .i64 k)]) /\ Below w.heap.size w w'
 clear HO0 hk ha h hN
 go_enter Tryz.func35, Tryz.ntmps35
 go_wp2_with fail
 refine HO.out.mono ?_
 rintro e w1 ⟨wa, wc, rfl, hb1⟩
 have HT1 := Lib.hid (HT.out w1 hb1)
 have HB1 := Lib.hid hb1
 clear hb1 HO HT
 go_wp2_with fail
 refine HT1.out.mono ?_
 rintro e w2 ⟨rfl, hb2⟩
 have HB2 := Lib.hid (HB1.out.trans (hb2.mono HB1.out.size))
 clear hb2 HT1 HB1
 go_wp2
 go_ret2
 exact ⟨rfl, HB2.out⟩
theorem change_in (bk : Nat) (ls : List Ln) (its : List It) (hN : newF ls = .ok its) (fr tt : Nat) (w : World) (h : CatAt w bk ls its) (h1 : fr < 18446744073709551616) (h2 : tt < 18446744073709551616) (a b : List Nat) (ha : ordR its ls fr = .ok a) (hb : ordR its ls tt = .ok b) (ha24 : ∀ x ∈ a, x < 24) (hb24 : ∀ x ∈ b, x < 24) (hal : a.length <= 24) (hbl : b.length <= 24) :
  CallsIn Fence.wide 4 Tryz.prog 35 #[.pointer (some ⟨bk, 0, none⟩), .int .u64 (fr : Int), .int .u64 (tt : Int)] w (ChangeRes w (chR its ls fr tt)) := by
 have HO : Hid (CallsIn Fence.wide 3 Tryz.prog 33 #[.pointer (some ⟨bk, 0, none⟩), .int .u64 (fr : Int)] w fun e w' => ∃ wa wc, e = .returned (.tuple #[.slice wa a.length wc, .nilIface]) /\ IntsIn w' wa (natS a) /\ Below w.heap.size w w') := callsIn_wide.2 (by
  have HO0 := order_c bk ls its hN fr w h h1
  rw [ha] at HO0
  exact HO0.mono fun e w' ⟨v, he, hr, hb⟩ => by
   obtain ⟨wa, wc, rfl, -⟩ := row_form hr
   exact ⟨wa, wc, he, ints_row (B := w.heap.size) (c := wc) (by rw [natS_len]; exact hr), hb⟩)
 have HT : Hid (∀ W, Below w.heap.size w W -> CallsIn Fence.wide 3 Tryz.prog 33 #[.pointer (some ⟨bk, 0, none⟩), .int .u64 (tt : Int)] W fun e w' => ∃ wa wc, e = .returned (.tuple #[.slice wa b.length wc, .nilIface]) /\ IntsIn w' wa (natS b) /\ Below W.heap.size W w') := fun W hb0 => callsIn_wide.2 (by
  have HO0 := order_c bk ls its hN tt W (h.below hb0 (Nat.le_refl _)) h2
  rw [hb] at HO0
  exact HO0.mono fun e w' ⟨v, he, hr, hb⟩ => by
   obtain ⟨wa, wc, rfl, -⟩ := row_form hr
   exact ⟨wa, wc, he, ints_row (B := W.heap.size) (c := wc) (by rw [natS_len]; exact hr), hb⟩)
 have HG : Hid (∀ (x : Option Addr) (c : Nat) (W : World), CallsIn Fence.wide 3 Tryz.prog 92 #[.slice x a.length c, .int .u64 (tt : Int)] W fun e w' => e = .returned (.func (.func 147) #[] #[.pointer (some ⟨W.heap.size, 0, none⟩), .pointer (some ⟨W.heap.size + 1, 0, none⟩)]) /\ w' = (W.alloc (.cells #[.slice x a.length c] 31)).alloc (.cells #[.int .u64 (tt : Int)] 69)) := fun x c W => going_in x a.length c tt W
 have HJ : Hid (∀ W (k : Nat), k < 24 -> CallsIn Fence.wide 3 Tryz.prog 91 #[.int .i64 (k : Int)] W fun e w' => e = .returned (.int .u64 ((2 ^ k : Nat) : Int)) /\ w' = W) := fun W k hk => callsIn_wide.2 (just_c k (by omega) W)
 rw [chR_ok ha hb]
 obtain ⟨i0, hin, hz0, hz1, hz2⟩ := info_parts infoSt
 have HA := Lib.hid ha24
 have HBl := Lib.hid hb24
 clear h hN ha hb ha24 hb24
 show CallsIn _ _ _ _ _ _ fun e w' => ∃ v, e = .returned (.tuple #[v, .nilIface]) /\ w'.ownsRow w.heap.size 89 2 v ((goF a tt).map (fun i => (i, false)) ++ (comeF b fr).map fun i => (i, true)).length (stCells ((goF a tt).map (fun i => (i, false)) ++ (comeF b fr).map fun i => (i, true))) /\ Below w.heap.size w w'
 refine callsIn_of_wp_marks Tryz.func35 rfl trivial ?_ rfl
 simp only [Tryz.ntmps35, List.size_toArray, List.length_cons, List.length_nil, Nat.reduceAdd, Nat.reduceSub, Array.replicate_succ, Array.replicate_zero, List.push_toArray, List.append_toArray, List.nil_append, List.cons_append]
 gi_wp2_with fail
 refine ⟨trivial, ?_⟩
 refine HO.out.mono ?_
 rintro e w1 ⟨wa, wc, rfl, hia, hb1⟩
 have HT1 := Lib.hid (HT.out w1 hb1)
 have HB1 := Lib.hid hb1
 have HIA := Lib.hid hia
 clear hb1 HO HT hia
 gi_wp2_with fail
 refine ⟨trivial, ?_⟩
 refine HT1.out.mono ?_
 rintro e w2 ⟨va, vc, rfl, hib, hb2⟩
 have HB2 := Lib.hid (HB1.out.trans (hb2.mono HB1.out.size))
 have HIA2 := Lib.hid (HIA.out.below hb2)
 have HIB2 := Lib.hid hib
 clear hb2 HT1 HB1 HIA hib
 have HGG : Hid (CallsIn Fence.wide 3 Tryz.prog 92 #[.slice wa a.length wc, .int .u64 (tt : Int)] (w2.alloc (.cells #[.slice none 0 0] 85)) fun e w' => e = .returned (.func (.func 147) #[] #[.pointer (some ⟨w2.heap.size + 1, 0, none⟩), .pointer (some ⟨w2.heap.size + 1 + 1, 0, none⟩)]) /\ w' = ((w2.alloc (.cells #[.slice none 0 0] 85)).alloc (.cells #[.slice wa a.length wc] 31)).alloc (.cells #[.int .u64 (tt : Int)] 69)) := by
  have := HG.out wa wc (w2.alloc (.cells #[.slice none 0 0] 85))
  rw [World.size_alloc] at this
  exact this
 clear HG
 gi_wp2_with fail
 refine ⟨trivial, ?_⟩
 refine HGG.out.mono ?_
 rintro e w' ⟨rfl, rfl⟩
 clear HGG
 have k0 := ((Blk.new w2 85 #[.slice none 0 0]).alloc (.cells #[.slice wa a.length wc] 31)).alloc (.cells #[.int .u64 (tt : Int)] 69)
 have k1 := (Blk.new (w2.alloc (.cells #[.slice none 0 0] 85)) 31 #[.slice wa a.length wc]).alloc (.cells #[.int .u64 (tt : Int)] 69)
 have k2 := Blk.new ((w2.alloc (.cells #[.slice none 0 0] 85)).alloc (.cells #[.slice wa a.length wc] 31)) 69 #[.int .u64 (tt : Int)]
 simp only [World.size_alloc] at k1 k2
 have hbA : Below w2.heap.size w2 (((w2.alloc (.cells #[.slice none 0 0] 85)).alloc (.cells #[.slice wa a.length wc] 31)).alloc (.cells #[.int .u64 (tt : Int)] 69)) := (((Below.refl _ w2).alloc (Nat.le_refl _) _).alloc (by simp only [World.size_alloc]; omega) _).alloc (by simp only [World.size_alloc]; omega) _
 have hsz : (((w2.alloc (.cells #[.slice none 0 0] 85)).alloc (.cells #[.slice wa a.length wc] 31)).alloc (.cells #[.int .u64 (tt : Int)] 69)).heap.size = w2.heap.size + 1 + 1 + 1 := by simp only [World.size_alloc]
 have hw2 := HB2.out.size
 obtain ⟨W0, hW0⟩ : ∃ W0, ((w2.alloc (.cells #[.slice none 0 0] 85)).alloc (.cells #[.slice wa a.length wc] 31)).alloc (.cells #[.int .u64 (tt : Int)] 69) = W0 := ⟨_, rfl⟩
 rw [hW0] at k0 k1 k2 hbA hsz ⊢
 clear hW0
 have HSZ := Lib.hid hsz
 obtain ⟨B0, hB0⟩ : ∃ B0, W0.heap.size = B0 := ⟨_, rfl⟩
 have hBe : w2.heap.size + 1 + 1 < B0 := by omega
 have HB0 := Lib.hid hB0
 clear hsz
 have hIA0 := HIA2.out.below hbA
 have HIB0 := Lib.hid (HIB2.out.below hbA)
 have hch0 : ChS w W0 W0 w2.heap.size B0 (.slice none 0 0) [] := ⟨k0, World.ownsRow_nil _ _ _ _, fun _ _ _ => rfl, HB2.out.trans (hbA.mono HB2.out.size), by omega, hw2, by omega⟩
 have hst := going_stops B0 w2.heap.size (w2.heap.size + 1) a wa wc tt HA.out hal h2 W0 (by omega) (by omega) (by omega) (by omega) (by omega) (by omega) (k1.cell 0) (k2.cell 0) (fun i hi => by
  obtain ⟨ad, e, hl, hc⟩ := HIA2.out i (by rw [natS_len]; exact hi)
  obtain ⟨ad', e', hl', hc'⟩ := hIA0 i (by rw [natS_len]; exact hi)
  rw [e] at e'
  cases e'
  rw [natS_at a i hi] at hc'
  exact ⟨ad, e, hl', by omega, by omega, hc'⟩)
 have HJR : Hid (∀ (i : Nat), i < b.length -> ∃ ad : Addr, va = some ad /\ ad.block < B0 /\ ad.block ≠ w2.heap.size /\ W0.cell? (ad.add i) = some (.int .i64 ((b.getD i 0 : Nat) : Int))) := fun i hi => by
  obtain ⟨ad, e, hl, hc⟩ := HIB2.out i (by rw [natS_len]; exact hi)
  obtain ⟨ad', e', hl', hc'⟩ := HIB0.out i (by rw [natS_len]; exact hi)
  rw [e] at e'
  cases e'
  rw [natS_at b i hi] at hc'
  exact ⟨ad, e, by omega, by omega, hc'⟩
 clear k0 k1 k2 hbA hIA0 HIB0 HIA2 HIB2
 gi_wp2_with fail
 refine wpIn_rangeFunc_ownF rfl (by omega) (gf := 147) (lb := #[.pointer (some ⟨w2.heap.size + 1, 0, none⟩), .pointer (some ⟨w2.heap.size + 1 + 1, 0, none⟩)]) rfl trivial (enters_of Tryz.func147 (by kernel_rfl) rfl)
  hst kpG_t (kpG_b (by rw [hB0]; exact Nat.le_refl _)) (Below.refl _ _) (fun _ => rfl)
  (fun (pre : List Nat) W => ∃ ov, ChS w W0 W w2.heap.size B0 ov (pre.map fun i => (i, false)))
  (fun _ _ _ => False)
  (by rw [hB0]; exact ChS.own (by omega) _) (fun _ _ _ _ _ h _ _ => h)
  ⟨_, hch0⟩ (fun x => { tmps := #[.pointer (some ⟨bk, 0, none⟩), .int .u64 (fr : Int), .int .u64 (tt : Int), undef, undef, undef, .slice none 0 0, .nilIface, .slice wa a.length wc, .nilIface, .slice va b.length vc, .pointer (some ⟨w2.heap.size, 0, none⟩), .int .i64 (x : Int), undef, undef, .tuple #[.slice wa a.length wc, .nilIface], .pointer (some ⟨bk, 0, none⟩), .int .u64 (fr : Int), .tuple #[.slice wa a.length wc, .nilIface], .slice wa a.length wc, .nilIface, .nilIface, .bool false, undef, .tuple #[.slice va b.length vc, .nilIface], .pointer (some ⟨bk, 0, none⟩), .int .u64 (tt : Int), .tuple #[.slice va b.length vc, .nilIface], .slice va b.length vc, .nilIface, .nilIface, .bool false, undef, .slice wa a.length wc, .int .u64 (tt : Int), .func (.func 147) #[] #[.pointer (some ⟨w2.heap.size + 1, 0, none⟩), .pointer (some ⟨w2.heap.size + 1 + 1, 0, none⟩)], .int .i64 (x : Int), undef, undef, undef, undef, undef, undef, undef, undef, undef, undef, undef, undef, undef, undef, undef, undef, undef, undef, undef, undef, undef, undef, undef], defers := [] }) ?assign ?body ?done ?stop
 case assign =>
  intro l x W K hK
  unfold encN
  gi_wp2
  exact hK
 case stop => exact fun _ _ _ _ _ _ h _ => h.elim
 case body =>
  rintro l pre x W ⟨ov, hch⟩ hlen
  clear hst hch0 hB0
  have hpl : pre.length <= 24 := by
   have : (goF a tt).length <= a.length := by unfold goF; exact Nat.le_trans (List.length_filter_le _ _) (by simp)
   omega
  obtain ⟨oa, oc, rfl, -⟩ := (rowAt_own hch.row).form
  have HROW := Lib.hid hch.row
  have HCH := Lib.hid hch
  have d0 := hch.box.cell 0
  have hWs := hch.sz
  rw [List.length_map] at HROW d0
  have d1 : W.cell? ⟨w2.heap.size, 0, none⟩ = some (.slice oa pre.length oc) := by simpa using d0
  clear d0 hlen hch
  gi_wp2_with (gi_at_builtin; refine wpListIn_append_own_at _ rfl _ _ 85 rfl B0 89 i0 (.agg #[.int .i64 0, .bool false]) 2 16 Tryz.underlying85 hin hz0 hz1 hz2 rfl (by decide) _ _ _ rfl (HROW.out.alloc _) ⟨W.heap.size, 0, none⟩ 1 1 [.int .i64 (x : Int), .bool false] rfl rfl ?c1 ?c2 ?c3 ?c4 ?c5 ?_)
  case c1 => exact cell_two_newP _ _ _ _
  case c2 => intro u hu; simp at hu; rcases hu with rfl | rfl <;> rfl
  case c3 => unfold maxLen; omega
  case c4 => omega
  case c5 => simp; omega
  intro v7 w7 hown7 hgrow7 _ hloc7
  obtain ⟨g7, c7, rfl⟩ := ownsRow_succ hown7
  have hch2 : ChS w W0 W w2.heap.size B0 (.slice oa pre.length oc) (pre.map fun i => (i, false)) := by have := HCH.out; rw [List.length_map] at this; exact this
  obtain ⟨kb, hch7⟩ := hch2.app (x := x) (b := false) (by rw [List.length_map]; exact hown7) hgrow7
  have e7 : w7.cell? ⟨w2.heap.size, 0, none⟩ = some (.slice oa pre.length oc) := kb.cell 0
  have f7 := kb.frozen 0
  have HKO : Hid (KeepsOthers W (w7.setCell ⟨w2.heap.size, 0, none⟩ (.slice (some ⟨g7, 0, none⟩) (pre.length + 1) c7))) := ((KeepsOthers.alloc _ _).trans (KeepsOthers.of_grownBy hgrow7 (row_cells (HROW.out.alloc _)))).trans (KeepsOthers.setCell _ _ _)
  have HKP : Hid (KpG B0 w2.heap.size W (w7.setCell ⟨w2.heap.size, 0, none⟩ (.slice (some ⟨g7, 0, none⟩) (pre.length + 1) c7))) := fun k q1 q2 => (hch7.kp k q1 q2).trans (hch2.kp k q1 q2).symm
  have HI : Hid (∃ ov, ChS w W0 (w7.setCell ⟨w2.heap.size, 0, none⟩ (.slice (some ⟨g7, 0, none⟩) (pre.length + 1) c7)) w2.heap.size B0 ov ((pre ++ [x]).map fun i => (i, false))) := ⟨_, by rw [List.map_append]; exact hch7⟩
  clear hown7 hgrow7 hloc7 hch2 hch7 kb HROW HCH d1
  gi_wp2
  exact ⟨HKO.out, HKP.out, HI.out⟩
 case done =>
  rintro D ys WF hD rfl ⟨ov, hch⟩ hK
  rw [hB0] at hD
  clear hst hch0 hB0
  have HCH : Hid (ChS w W0 WF w2.heap.size B0 ov ((goF a tt).map (fun i => (i, false)) ++ (comeF (b.take 0) fr).map fun i => (i, true))) := by
   show ChS _ _ _ _ _ _ _
   rw [show (comeF (b.take 0) fr).map (fun i => (i, true)) = [] by simp [comeF], List.append_nil]; exact hch
  have HK := Lib.hid hK
  have hgl : (goF a tt).length <= 24 := by
   have : (goF a tt).length <= a.length := by unfold goF; exact Nat.le_trans (List.length_filter_le _ _) (by simp)
   omega
  clear hch hK
  obtain ⟨GO, hGO⟩ : ∃ GO, (goF a tt).map (fun i => (i, false)) = GO := ⟨_, rfl⟩
  have hGl : GO.length <= 24 := by rw [<- hGO, List.length_map]; exact hgl
  have HGO := Lib.hid hGO
  rw [hGO] at HCH
  clear hGO hgl
  gi_wp2_with fail
  gi_loopw [44] (fun iV wr => ∃ (i : Nat) (ov : Value), i <= b.length /\ iV = .int .i64 (i : Int) /\ ChS w W0 wr w2.heap.size B0 ov (GO ++ (comeF (b.take i) fr).map fun i => (i, true)) /\ wr.heap[D]? = some (.deferred (some []))) (fun iV _ => b.length - (intOf iV).toNat)
  case atStart => exact ⟨0, _, Nat.zero_le _, rfl, HCH.out, HK.out⟩
  case round =>
   clear HCH HK
   obtain ⟨i, ov2, hil, rfl, hch, hK⟩ := hrel
   have HCH := Lib.hid hch
   have HK := Lib.hid hK
   have hcl : (comeF (b.take i) fr).length <= 24 := by
    unfold comeF
    have := List.length_filter_le (fun i => !fr.testBit i) (b.take i)
    rw [List.length_take] at this
    omega
   obtain ⟨oa, oc, rfl, -⟩ := (rowAt_own hch.row).form
   have hWs := hch.sz
   have d0 : wr.cell? ⟨w2.heap.size, 0, none⟩ = some (.slice oa (GO ++ (comeF (b.take i) fr).map fun i => (i, true)).length oc) := hch.box.cell 0
   have HROW := Lib.hid hch.row
   obtain ⟨n, hn⟩ : ∃ n, (GO ++ (comeF (b.take i) fr).map fun i => (i, true)).length = n := ⟨_, rfl⟩
   have hn48 : n <= 48 := by rw [<- hn, List.length_append, List.length_map]; omega
   have HN := Lib.hid hn
   rw [hn] at d0 HROW
   by_cases hlt : i < b.length
   ·obtain ⟨ad, rfl, had, hado, cB⟩ := HJR.out i hlt
    have cB2 : wr.cell? (ad.add i) = some (.int .i64 ((b.getD i 0 : Nat) : Int)) := (kpG_cell (p := ad.add i) hch.kp (by rw [addBlock]; exact had) (by rw [addBlock]; exact hado)).trans cB
    have hx24 := HBl.out _ (pget_mem b i hlt)
    have HTK : Hid (comeF (b.take (i + 1)) fr = comeF (b.take i) fr ++ (if fr.testBit (b.getD i 0) then [] else [b.getD i 0])) := by
     show _ = _
     unfold comeF
     rw [ptake_snoc b i hlt, List.filter_append]
     congr 1
     cases hq : fr.testBit (b.getD i 0) <;> simp only [List.filter_cons, hq] <;> rfl
    obtain ⟨x, hx⟩ : ∃ x, b.getD i 0 = x := ⟨_, rfl⟩
    rw [hx] at cB2 hx24 HTK
    have hand := and_u64 fr (2 ^ x) h1 (pow_64 x (by omega))
    have hpn := and_pow_ne fr x
    have HJx := Lib.hid (HJ.out wr x hx24)
    have hi0 : (0 : Int) <= (i : Int) := by omega
    have hi1 : (i : Int) < (b.length : Int) := by omega
    obtain ⟨P2, hP2⟩ : ∃ P2, (2 ^ x : Nat) = P2 := ⟨_, rfl⟩
    rw [hP2] at hand hpn HJx
    obtain ⟨ab, ao, asp⟩ := ad
    clear hx hP2 cB had hado hn hch
    generalize fr &&& P2 = Q at *
    cases ht : fr.testBit x with
    | true =>
     rw [ht] at hpn HTK
     rw [if_pos rfl, List.append_nil] at HTK
     have hq : ¬ (Q : Int) = 0 := by have := hpn.2 rfl; omega
     have HNX : Hid (ChS w W0 wr w2.heap.size B0 (.slice oa n oc) (GO ++ (comeF (b.take (i + 1)) fr).map fun i => (i, true))) := by
      show ChS _ _ _ _ _ _ _
      have h := HCH.out
      rw [HTK.out, <- HN.out]; exact h
     clear hpn HTK HCH
     gi_wp2_with fail
     refine ⟨trivial, ?_⟩
     refine HJx.out.mono ?_
     rintro e w9 ⟨rfl, rfl⟩
     clear HJx
     gi_wp2
     go_roundw
     case rel => exact ⟨i + 1, _, hlt, by go_num, HNX.out, HK.out⟩
     case measure => simp [intOf]; omega
    | false =>
     rw [ht] at hpn HTK
     rw [if_neg (by simp)] at HTK
     have hq : (Q : Int) = 0 := by
      have : Q = 0 := by
       apply Classical.byContradiction
       intro h
       cases hpn.1 h
      omega
     clear hpn
     gi_wp2_with fail
     refine ⟨trivial, ?_⟩
     refine HJx.out.mono ?_
     rintro e w9 ⟨rfl, rfl⟩
     clear HJx
     gi_wp2_with (gi_at_builtin; refine wpListIn_append_own_at _ rfl _ _ 85 rfl B0 89 i0 (.agg #[.int .i64 0, .bool false]) 2 16 Tryz.underlying85 hin hz0 hz1 hz2 rfl (by decide) _ _ _ rfl (HROW.out.alloc _) ⟨w9.heap.size, 0, none⟩ 1 1 [.int .i64 (x : Int), .bool true] rfl rfl ?c1 ?c2 ?c3 ?c4 ?c5 ?_)
     case c1 => exact cell_two_newP _ _ _ _
     case c2 => intro u hu; simp at hu; rcases hu with rfl | rfl <;> rfl
     case c3 => unfold maxLen; omega
     case c4 => omega
     case c5 => simp; omega
     intro v7 w7 hown7 hgrow7 _ hloc7
     obtain ⟨g7, c7, rfl⟩ := ownsRow_succ hown7
     have hch2 : ChS w W0 w9 w2.heap.size B0 (.slice oa n oc) (GO ++ (comeF (b.take i) fr).map fun i => (i, true)) := by have h := HCH.out; rw [HN.out] at h; exact h
     obtain ⟨kb, hch7⟩ := hch2.app (x := x) (b := true) (by rw [HN.out]; exact hown7) hgrow7
     have e7 : w7.cell? ⟨w2.heap.size, 0, none⟩ = some (.slice oa n oc) := kb.cell 0
     have f7 := kb.frozen 0
     have hKO : KeepsOthers w9 (w7.setCell ⟨w2.heap.size, 0, none⟩ (.slice (some ⟨g7, 0, none⟩) (n + 1) c7)) := ((KeepsOthers.alloc _ _).trans (KeepsOthers.of_grownBy hgrow7 (row_cells (HROW.out.alloc _)))).trans (KeepsOthers.setCell _ _ _)
     have HK7 : Hid ((w7.setCell ⟨w2.heap.size, 0, none⟩ (.slice (some ⟨g7, 0, none⟩) (n + 1) c7)).heap[D]? = some (.deferred (some []))) := hKO.same D _ HK.out rfl
     have HNX : Hid (ChS w W0 (w7.setCell ⟨w2.heap.size, 0, none⟩ (.slice (some ⟨g7, 0, none⟩) (n + 1) c7)) w2.heap.size B0 (.slice (some ⟨g7, 0, none⟩) (n + 1) c7) (GO ++ (comeF (b.take (i + 1)) fr).map fun i => (i, true))) := by
      show ChS _ _ _ _ _ _ _
      rw [HTK.out, List.map_append, <- List.append_assoc]; exact hch7
     clear hown7 hgrow7 hloc7 hch2 hch7 kb HROW HCH HTK hKO d0 cB2
     gi_wp2
     go_roundw
     case rel => exact ⟨i + 1, _, hlt, by go_num, HNX.out, HK7.out⟩
     case measure => simp [intOf]; omega
   ·obtain rfl : i = b.length := by omega
    rw [List.take_length] at HCH HROW HN
    have hr' : ∀ r, some D = some r -> ∃ o : Obj, wr.heap[r]? = some o /\ o.isCells = false := fun r e => by cases e; exact ⟨_, HK.out, rfl⟩
    have HRW := Lib.hid (row_keptO HROW.out (grownBy_putObj' wr D (.deferred none)) hr')
    have HBW : Hid (Below w.heap.size w wr) := hch.bel
    clear hch hr'
    gi_wp2
    refine ⟨by simp, .inl ⟨_, _, rfl, run_takeDeferred HK.out, ?_⟩⟩
    refine ⟨.tuple #[.slice oa n oc, .nilIface], ?_, ?_⟩
    ·simp [results, Tryz.f35, go_sem]
    ·rw [HGO.out, HN.out]
     exact ⟨_, rfl, ownsRow_base HRW.out (by omega), HBW.out.trans (belowK_b (w := w) (Nat.le_refl _) wr D _ _ (by omega) HK.out rfl rfl)⟩
theorem change_c (bk : Nat) (ls : List Ln) (its : List It) (hN : newF ls = .ok its) (fr tt : Nat) (w : World) (h : CatAt w bk ls its) (h1 : fr < 18446744073709551616) (h2 : tt < 18446744073709551616) :
  Calls Tryz.prog 35 #[.pointer (some ⟨bk, 0, none⟩), .int .u64 (fr : Int), .int .u64 (tt : Int)] w (ChangeRes w (chR its ls fr tt)) := by
 have key : ∀ set l, ordR its ls set = .ok l -> (∀ x ∈ l, x < 24) /\ l.length <= 24 := fun set l hl => by
  have hs : set < 2 ^ its.length := by
   have hf : (fitsF its ls set).1 = true := by
    cases hf : (fitsF its ls set).1 with
    | true => rfl
    | false => unfold ordR at hl; rw [if_pos hf] at hl; cases hl
   cases hsb : singleB its set with
   | false => rw [show fitsF its ls set = (false, -2) by unfold fitsF; rw [if_pos hsb]] at hf; cases hf
   | true =>
    unfold singleB at hsb
    exact of_decide_eq_true (Bool.and_eq_true_iff.1 hsb).1
  have hi := ordR_is hN hs hl
  have := (newF_ok hN).1
  exact ⟨fun x hx => by have := hi.lt x hx; omega, hi.len⟩
 cases ha : ordR its ls fr with
 | error k => exact change_err1 bk ls its hN fr tt w h h1 k ha
 | ok a =>
  cases hb : ordR its ls tt with
  | error k => exact change_err2 bk ls its hN fr tt w h h1 h2 a k ha hb
  | ok b => exact (callsIn_wide (n := 4)).1 (change_in bk ls its hN fr tt w h h1 h2 a b ha hb (key fr a ha).1 (key tt b hb).1 (key fr a ha).2 (key tt b hb).2)
end
section
open Go.RowKit Sv
def nowF (M : Nat) (l : List Nat) : Nat := l.foldl (fun n x => n ^^^ 2 ^ x) M
theorem nowF_test : ∀ (l : List Nat) (M y : Nat), l.Nodup -> (nowF M l).testBit y = (M.testBit y ^^ decide (y ∈ l))
 | [], M, y, _ => by simp [nowF]
 | x :: l, M, y, h => by
  obtain ⟨h1, h2⟩ := List.nodup_cons.1 h
  have ih := nowF_test l (M ^^^ 2 ^ x) y h2
  show (nowF (M ^^^ 2 ^ x) l).testBit y = _
  rw [ih, Nat.testBit_xor, Nat.testBit_two_pow, Bool.xor_assoc]
  congr 1
  by_cases e : x = y
  ·subst e
   simp [h1]
  ·have e' : y ≠ x := fun h => e h.symm
   simp [e, e']
theorem nowF_snoc (M : Nat) (l : List Nat) (x : Nat) : nowF M (l ++ [x]) = nowF M l ^^^ 2 ^ x := by unfold nowF; rw [List.foldl_append]; rfl
theorem nowF_lt (l : List Nat) (h : ∀ x ∈ l, x < 24) : ∀ M, M < 16777216 -> nowF M l < 16777216 := by
 induction l with
 | nil => intro M hM; exact hM
 | cons x l ih =>
  intro M hM
  refine ih (fun y hy => h y (List.mem_cons_of_mem _ hy)) _ ?_
  exact Nat.xor_lt_two_pow (n := 24) hM (Nat.pow_lt_pow_right (by decide) (h x (by simp)))
theorem nodup_take' {l : List Nat} (hn : l.Nodup) {i : Nat} (hi : i < l.length) : l.getD i 0 ∉ l.take i := fun hm => by
 obtain ⟨k, hk, e⟩ := List.getElem_of_mem hm
 rw [List.length_take] at hk
 rw [List.getElem_take] at e
 have e2 : l.getD i 0 = l[i] := by rw [List.getD_eq_getElem?_getD, List.getElem?_eq_getElem hi]; rfl
 exact (List.pairwise_iff_getElem.1 hn) k i (by omega) hi (by omega) (by rw [e, e2])
def stepsF (a b : List Nat) (fr tt : Nat) : List (Nat × Bool) := (goF a tt).map (fun i => (i, false)) ++ (comeF b fr).map fun i => (i, true)
structure StIs (n M1 M2 : Nat) (st : List (Nat × Bool)) : Prop where
 lt : ∀ p ∈ st, p.1 < n
 comes : ∀ i, i < st.length -> (st.getD i (0, false)).2 = !(nowF M1 ((st.map Prod.fst).take i)).testBit (st.getD i (0, false)).1
 both : ∀ p ∈ st, (M1 &&& M2).testBit p.1 = false
 prev : ∀ i, i + 1 < st.length -> (st.getD i (0, false)).2 = true -> (st.getD (i + 1) (0, false)).2 = true
 fin : nowF M1 (st.map Prod.fst) = M2
 len : st.length <= 48
theorem steps_fst (a b : List Nat) (fr tt : Nat) : (stepsF a b fr tt).map Prod.fst = goF a tt ++ comeF b fr := by
 unfold stepsF
 rw [List.map_append, List.map_map, List.map_map]
 have e1 : (Prod.fst ∘ fun i : Nat => (i, false)) = id := by funext i; rfl
 have e2 : (Prod.fst ∘ fun i : Nat => (i, true)) = id := by funext i; rfl
 rw [e1, e2, List.map_id, List.map_id]
theorem goF_mem {ls : List Ln} {its : List It} {M1 M2 : Nat} {a : List Nat} (h : OrdIs ls its M1 a) (y : Nat) : y ∈ goF a M2 ↔ M1.testBit y = true /\ M2.testBit y = false := by
 unfold goF
 rw [List.mem_filter, List.mem_reverse, h.mem, decide_eq_true_iff]
 simp
theorem comeF_mem {ls : List Ln} {its : List It} {M1 M2 : Nat} {b : List Nat} (h : OrdIs ls its M2 b) (y : Nat) : y ∈ comeF b M1 ↔ M2.testBit y = true /\ M1.testBit y = false := by
 unfold comeF
 rw [List.mem_filter, h.mem, decide_eq_true_iff]
 simp
theorem steps_is {ls : List Ln} {its : List It} {M1 M2 : Nat} {a b : List Nat} (ha : OrdIs ls its M1 a) (hb : OrdIs ls its M2 b) : StIs its.length M1 M2 (stepsF a b M1 M2) := by
 have hfst := steps_fst a b M1 M2
 have hnd : ((stepsF a b M1 M2).map Prod.fst).Nodup := by
  rw [hfst, List.nodup_append]
  refine ⟨?_, ?_, fun x hx y hy e => ?_⟩
  ·unfold goF; exact List.Nodup.sublist List.filter_sublist ((List.reverse_perm a).nodup_iff.2 ha.nodup)
  ·unfold comeF; exact List.Nodup.sublist List.filter_sublist hb.nodup
  ·subst e
   have h1 := (goF_mem ha x).1 hx
   have h2 := (comeF_mem hb x).1 hy
   rw [h1.1] at h2
   cases h2.2
 have hmem : ∀ p ∈ stepsF a b M1 M2, (p.2 = false /\ M1.testBit p.1 = true /\ M2.testBit p.1 = false /\ p.1 ∈ a) \/ (p.2 = true /\ M2.testBit p.1 = true /\ M1.testBit p.1 = false /\ p.1 ∈ b) := fun p hp => by
  rcases List.mem_append.1 hp with hp | hp
  ·obtain ⟨i, hi, rfl⟩ := List.mem_map.1 hp
   obtain ⟨h1, h2⟩ := (goF_mem ha i).1 hi
   exact Or.inl ⟨rfl, h1, h2, by unfold goF at hi; exact List.mem_reverse.1 (List.mem_filter.1 hi).1⟩
  ·obtain ⟨i, hi, rfl⟩ := List.mem_map.1 hp
   obtain ⟨h1, h2⟩ := (comeF_mem hb i).1 hi
   exact Or.inr ⟨rfl, h1, h2, by unfold comeF at hi; exact (List.mem_filter.1 hi).1⟩
 have gm : ∀ i, i < (stepsF a b M1 M2).length -> (stepsF a b M1 M2).getD i (0, false) ∈ stepsF a b M1 M2 := fun i hi => by
  rw [List.getD_eq_getElem?_getD, List.getElem?_eq_getElem hi]; exact List.getElem_mem hi
 refine ⟨fun p hp => ?_, fun i hi => ?_, fun p hp => ?_, fun i hi h => ?_, ?_, ?_⟩
 ·rcases hmem p hp with ⟨_, _, _, h⟩ | ⟨_, _, _, h⟩
  ·exact ha.lt _ h
  ·exact hb.lt _ h
 ·have hnt : (((stepsF a b M1 M2).map Prod.fst).take i).Nodup := List.Nodup.sublist (List.take_sublist _ _) hnd
  rw [nowF_test _ _ _ hnt]
  have hout : ((stepsF a b M1 M2).getD i (0, false)).1 ∉ ((stepsF a b M1 M2).map Prod.fst).take i := by
   have := nodup_take' hnd (i := i) (by rw [List.length_map]; exact hi)
   rwa [show ((stepsF a b M1 M2).map Prod.fst).getD i 0 = ((stepsF a b M1 M2).getD i (0, false)).1 by simp [List.getD_eq_getElem?_getD, hi]] at this
  rw [decide_eq_false hout, Bool.xor_false]
  rcases hmem _ (gm i hi) with ⟨h1, h2, _, _⟩ | ⟨h1, _, h2, _⟩
  ·rw [h1, h2]; rfl
  ·rw [h1, h2]; rfl
 ·rw [Nat.testBit_and]
  rcases hmem p hp with ⟨_, _, h2, _⟩ | ⟨_, _, h2, _⟩
  ·rw [h2, Bool.and_false]
  ·rw [h2, Bool.false_and]
 ·unfold stepsF at h hi ⊢
  rw [List.getD_eq_getElem?_getD] at h ⊢
  rw [List.length_append, List.length_map, List.length_map] at hi
  rcases Nat.lt_or_ge i (goF a M2).length with hlt | hge
  ·rw [List.getElem?_append_left (by rw [List.length_map]; exact hlt)] at h
   simp [hlt] at h
  ·rw [List.getElem?_append_right (by rw [List.length_map]; omega)]
   rw [List.length_map]
   simp [show i + 1 - (goF a M2).length < (comeF b M1).length by omega]
 ·apply Nat.eq_of_testBit_eq
  intro y
  rw [nowF_test _ _ _ hnd, hfst]
  have e : decide (y ∈ goF a M2 ++ comeF b M1) = ((M1.testBit y && !M2.testBit y) || (M2.testBit y && !M1.testBit y)) := by
   rw [Bool.eq_iff_iff, decide_eq_true_iff, List.mem_append, goF_mem ha, comeF_mem hb]
   simp
  rw [e]
  cases M1.testBit y <;> cases M2.testBit y <;> rfl
 ·unfold stepsF goF comeF
  rw [List.length_append, List.length_map, List.length_map]
  have h1 := List.length_filter_le (fun i => !M2.testBit i) a.reverse
  have h2 := List.length_filter_le (fun i => !M1.testBit i) b
  rw [List.length_reverse] at h1
  have := ha.len
  have := hb.len
  omega
theorem steps_len (a b : List Nat) (fr tt : Nat) : (stepsF a b fr tt).length = (stepsF b a tt fr).length := by
 have h : ∀ (l : List Nat) (s : Nat), (goF l s).length = (comeF l s).length := fun l s => by
  unfold goF comeF
  rw [List.filter_reverse, List.length_reverse]
 unfold stepsF
 rw [List.length_append, List.length_append, List.length_map, List.length_map, List.length_map, List.length_map, h a tt, <- h b fr, Nat.add_comm]
theorem chR_two {its : List It} {ls : List Ln} {fr tt : Nat} : (∃ k1 k2, chR its ls fr tt = .error k1 /\ chR its ls tt fr = .error k2) \/ (∃ a b, ordR its ls fr = .ok a /\ ordR its ls tt = .ok b /\ chR its ls fr tt = .ok (stepsF a b fr tt) /\ chR its ls tt fr = .ok (stepsF b a tt fr)) := by
 unfold chR stepsF
 cases ordR its ls fr with
 | error k =>
  cases ordR its ls tt with
  | error k2 => exact Or.inl ⟨_, _, rfl, rfl⟩
  | ok b => exact Or.inl ⟨_, _, rfl, rfl⟩
 | ok a =>
  cases ordR its ls tt with
  | error k2 => exact Or.inl ⟨_, _, rfl, rfl⟩
  | ok b => exact Or.inr ⟨a, b, rfl, rfl, rfl, rfl⟩
end
end Go.Proofs.YtpmpnbbihmgdpaaGreatDoor
