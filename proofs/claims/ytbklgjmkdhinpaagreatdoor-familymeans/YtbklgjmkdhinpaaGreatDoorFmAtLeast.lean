/- What lies at the least thing: least. -/
import Derived.Test.YtbklgjmkdhinpaaGreatDoorFmAtLess
set_option maxHeartbeats 4000000
set_option maxRecDepth 100000
namespace Go.Proofs.YtbklgjmkdhinpaaGreatDoor.Fm
open Go.RowKit Go.Maps Go.Proofs.YtbklgjmkdhinpaaGreatDoor.Bd
section
variable {B : Nat} {c : Ctx} {O : Nat -> Prop} {vars : Nat} {ns : List Nd} {w : World} {v a0 a1 b0 b1 : Int}
theorem at_join {ow ok od oa ox sw sk sd sa sx : Nat} (hv : v < 24) (hC : CtxAt B w c O vars ns) (hSo : SubC B c vars .or ow ok od oa v) (hSs : SubC B c vars .join sw sk sd sa v) (hbxo : (ox, .func (.func 109) #[] #[.pointer (some ⟨ow, 0, none⟩), .pointer (some ⟨ok, 0, none⟩), .pointer (some ⟨od, 0, none⟩), .pointer (some ⟨oa, 0, none⟩)]) ∈ c.boxes) (hbxs : (sx, .func (.func 109) #[] #[.pointer (some ⟨sw, 0, none⟩), .pointer (some ⟨sk, 0, none⟩), .pointer (some ⟨sd, 0, none⟩), .pointer (some ⟨sa, 0, none⟩)]) ∈ c.boxes)
  (ua0 : Up v ns a0) (ua1 : Up v ns a1) (ub0 : Up v ns b0) (ub1 : Up v ns b1) (hroom : cntT vars ns + cost (rr vars v) .or + cost (rr vars v) .join + cost (rr vars v) .join + cost (rr vars v) .or + cost (rr vars v) .join + 18 < c.room) :
  Calls Tryz.prog 78 #[.agg #[.int .i64 a0, .int .i64 a1], .agg #[.int .i64 b0, .int .i64 b1], .pointer (some ⟨ox, 0, none⟩), .pointer (some ⟨sx, 0, none⟩)] w fun e w' => ∃ p q ns' O', e = .returned (.agg #[.int .i64 p, .int .i64 q]) /\ CtxAt B w' c O' vars ns' /\ MM c O O' w w' /\ Ext ns ns' /\ Up v ns' p /\ Up v ns' q /\ (∀ x, In ns' p x ↔ (opP .join (In ns a0) (In ns b0)) x) /\ (∀ x, In ns' q x ↔ (opP .or (opP .join (In ns a1) (opP .or (In ns b0) (In ns b1))) (opP .join (In ns a0) (In ns b1))) x) /\ cntT vars ns' <= cntT vars ns + cost (rr vars v) .or + cost (rr vars v) .join + cost (rr vars v) .join + cost (rr vars v) .or + cost (rr vars v) .join := by
 have hb3 : Below w.heap.size w ((((w.alloc (.cells #[.int .i64 a0, .int .i64 a1] 124)).alloc (.cells #[.int .i64 b0, .int .i64 b1] 124)).alloc (.cells #[.int .i64 0, .int .i64 0] 124)).drew) := (((below_new w _).alloc (below_new w _).size _).alloc ((below_new w _).alloc (below_new w _).size _).size _).drew
 have hf3 := Fr.start hC a0 a1 b0 b1
 have hC3 := hC.new hb3
 have hr := hC.good.ranked
 obtain ⟨s1, s2, s3, s4⟩ := hf3.cells
 have s0o := (hC3.box _ hbxo).2.1
 have HBXo := Lib.hid hbxo
 unfold SubC at hSo
 have HSo := Lib.hid hSo
 have HUNo : Hid (∀ z : Int, unB .or = true -> z = 0) := fun z h => by cases h
 have s0s := (hC3.box _ hbxs).2.1
 have HBXs := Lib.hid hbxs
 unfold SubC at hSs
 have HSs := Lib.hid hSs
 have HUNs : Hid (∀ z : Int, unB .join = true -> z = 0) := fun z h => by cases h
 have HR1 : Hid (∀ n, n <= cntT vars ns -> n + cost (rr vars v) .or + 18 < c.room) := fun n h => by omega
 have HR2 : Hid (∀ n, n <= cntT vars ns + cost (rr vars v) .or -> n + cost (rr vars v) .join + 18 < c.room) := fun n h => by omega
 have HR3 : Hid (∀ n, n <= cntT vars ns + cost (rr vars v) .or + cost (rr vars v) .join -> n + cost (rr vars v) .join + 18 < c.room) := fun n h => by omega
 have HR4 : Hid (∀ n, n <= cntT vars ns + cost (rr vars v) .or + cost (rr vars v) .join + cost (rr vars v) .join -> n + cost (rr vars v) .or + 18 < c.room) := fun n h => by omega
 have HR5 : Hid (∀ n, n <= cntT vars ns + cost (rr vars v) .or + cost (rr vars v) .join + cost (rr vars v) .join + cost (rr vars v) .or -> n + cost (rr vars v) .join + 18 < c.room) := fun n h => by omega
 have HC3 := Lib.hid hC3
 have HF3 := Lib.hid hf3
 have HB3 := Lib.hid hb3
 have uz : Up v ns 0 := ⟨end_has0 ns, by rw [end_top0]; exact hv⟩
 have H0 : Hid (Up v ns a0 /\ Up v ns a1 /\ Up v ns b0 /\ Up v ns b1 /\ Up v ns 0) := ⟨ua0, ua1, ub0, ub1, uz⟩
 clear hC hSo hbxo hSs hbxs ua0 ua1 ub0 ub1 uz hC3 hf3 hb3
 go_enter Tryz.func78, Tryz.ntmps78
 go_wp2_with fail
 generalize (((w.alloc (.cells #[.int .i64 a0, .int .i64 a1] 124)).alloc (.cells #[.int .i64 b0, .int .i64 b1] 124)).alloc (.cells #[.int .i64 0, .int .i64 0] 124)) = W3 at *
 go_region_held3 (fun w' => w'.cell? ⟨ox, 0, none⟩ = some (.func (.func 109) #[] #[.pointer (some ⟨ow, 0, none⟩), .pointer (some ⟨ok, 0, none⟩), .pointer (some ⟨od, 0, none⟩), .pointer (some ⟨oa, 0, none⟩)]) /\ w'.cell? ⟨sx, 0, none⟩ = some (.func (.func 109) #[] #[.pointer (some ⟨sw, 0, none⟩), .pointer (some ⟨sk, 0, none⟩), .pointer (some ⟨sd, 0, none⟩), .pointer (some ⟨sa, 0, none⟩)]) /\ w'.cell? ⟨w.heap.size, 0, none⟩ = some (.int .i64 a0) /\ w'.cell? ⟨w.heap.size, 1, none⟩ = some (.int .i64 a1) /\ w'.cell? ⟨w.heap.size + 1, 0, none⟩ = some (.int .i64 b0) /\ w'.cell? ⟨w.heap.size + 1, 1, none⟩ = some (.int .i64 b1))
  (first | exact ⟨s0o, s0s, s1, s2, s3, s4⟩ | exact ⟨(hC1.box _ HBXo.out).2.1, (hC1.box _ HBXs.out).2.1, hf1.cells⟩ | exact ⟨(hC2.box _ HBXo.out).2.1, (hC2.box _ HBXs.out).2.1, hf2.cells⟩ | exact ⟨(hC3.box _ HBXo.out).2.1, (hC3.box _ HBXs.out).2.1, hf3.cells⟩ | exact ⟨(hC4.box _ HBXo.out).2.1, (hC4.box _ HBXs.out).2.1, hf4.cells⟩)
  (first | (with_reducible refine (HSo.out _ _ _ _ _ HC3.out H0.out.2.2.1 H0.out.2.2.2.1 (HUNo.out _) (HR1.out _ (Nat.le_refl _))).mono ?_; rintro e w1 ⟨h1, ns1, O1, rfl, hC1, hM1, hx1, hu1, hm1, hc1⟩; have hf1 := HF3.out.move hM1; have hX1 := hx1; have hcc1 := hc1) | (with_reducible refine (HSs.out _ _ _ _ _ hC1 (H0.out.2.1.ext hX1) hu1 (HUNs.out _) (HR2.out _ hcc1)).mono ?_; rintro e w2 ⟨h2, ns2, O2, rfl, hC2, hM2, hx2, hu2, hm2, hc2⟩; have hf2 := hf1.move hM2; have hX2 := hX1.trans hx2; have hcc2 := Nat.le_trans hc2 (Nat.add_le_add_right hcc1 _)) | (with_reducible refine (HSs.out _ _ _ _ _ hC2 (H0.out.1.ext hX2) (H0.out.2.2.2.1.ext hX2) (HUNs.out _) (HR3.out _ hcc2)).mono ?_; rintro e w3 ⟨h3, ns3, O3, rfl, hC3, hM3, hx3, hu3, hm3, hc3⟩; have hf3 := hf2.move hM3; have hX3 := hX2.trans hx3; have hcc3 := Nat.le_trans hc3 (Nat.add_le_add_right hcc2 _)) | (with_reducible refine (HSo.out _ _ _ _ _ hC3 (hu2.ext hx3) hu3 (HUNo.out _) (HR4.out _ hcc3)).mono ?_; rintro e w4 ⟨h4, ns4, O4, rfl, hC4, hM4, hx4, hu4, hm4, hc4⟩; have hf4 := hf3.move hM4; have hX4 := hX3.trans hx4; have hcc4 := Nat.le_trans hc4 (Nat.add_le_add_right hcc3 _)))
 have d0o := (hC4.box _ HBXo.out).2.1
 have d0s := (hC4.box _ HBXs.out).2.1
 obtain ⟨d1, d2, d3, d4⟩ := hf4.cells
 go_wp2_with fail
 refine (HSs.out _ _ _ _ _ hC4 (H0.out.1.ext hX4) (H0.out.2.2.1.ext hX4) (HUNs.out _) (HR5.out _ hcc4)).mono ?_
 rintro e w5 ⟨h5, ns5, O5, rfl, hC5, hM5, hx5, hu5, hm5, hc5⟩
 have hf5 := hf4.move hM5
 have hX5 := hX4.trans hx5
 have hcc5 := Nat.le_trans hc5 (Nat.add_le_add_right hcc4 _)
 obtain ⟨⟨r0, r1, r2, r3⟩, ⟨r4, r5⟩, r6, r7⟩ := two_put hf5.pr h5 h4
 have hpt := hf5.put hC5 h5 h4
 have hM : MM c O O5 w ((w5.setCell ⟨w.heap.size + 1 + 1, 0, none⟩ (.int .i64 h5)).setCell ⟨w.heap.size + 1 + 1, 1, none⟩ (.int .i64 h4)) := by
  have h1 := ((((((MM.of_below HB3.out).trans hM1).trans hM2).trans hM3).trans hM4).trans hM5)
  exact ⟨h1.kept.andThen hpt.2.1 (fun i hi hlt => by omega), h1.own⟩
 have sem1 : ∀ x, In ns1 h1 x ↔ (opP .or (In ns b0) (In ns b1)) x := fun x => (hm1 x).trans (opP_congr .or (fun y => Iff.rfl) (fun y => Iff.rfl) x)
 have sem2 : ∀ x, In ns2 h2 x ↔ (opP .join (In ns a1) (opP .or (In ns b0) (In ns b1))) x := fun x => (hm2 x).trans (opP_congr .join (fun y => in_ext hr hX1 H0.out.2.1.1 y) (fun y => sem1 y) x)
 have sem3 : ∀ x, In ns3 h3 x ↔ (opP .join (In ns a0) (In ns b1)) x := fun x => (hm3 x).trans (opP_congr .join (fun y => in_ext hr hX2 H0.out.1.1 y) (fun y => in_ext hr hX2 H0.out.2.2.2.1.1 y) x)
 have sem4 : ∀ x, In ns4 h4 x ↔ (opP .or (opP .join (In ns a1) (opP .or (In ns b0) (In ns b1))) (opP .join (In ns a0) (In ns b1))) x := fun x => (hm4 x).trans (opP_congr .or (fun y => (in_ext hC2.good.ranked hx3 hu2.1 y).trans (sem2 y)) (fun y => sem3 y) x)
 have sem5 : ∀ x, In ns5 h5 x ↔ (opP .join (In ns a0) (In ns b0)) x := fun x => (hm5 x).trans (opP_congr .join (fun y => in_ext hr hX4 H0.out.1.1 y) (fun y => in_ext hr hX4 H0.out.2.2.1.1 y) x)
 have HOUT : Hid (∃ p q ns' O', (Ending.returned (.agg #[.int .i64 h5, .int .i64 h4])) = .returned (.agg #[.int .i64 p, .int .i64 q]) /\ CtxAt B ((w5.setCell ⟨w.heap.size + 1 + 1, 0, none⟩ (.int .i64 h5)).setCell ⟨w.heap.size + 1 + 1, 1, none⟩ (.int .i64 h4)) c O' vars ns' /\ MM c O O' w ((w5.setCell ⟨w.heap.size + 1 + 1, 0, none⟩ (.int .i64 h5)).setCell ⟨w.heap.size + 1 + 1, 1, none⟩ (.int .i64 h4)) /\ Ext ns ns' /\ Up v ns' p /\ Up v ns' q /\ (∀ x, In ns' p x ↔ (opP .join (In ns a0) (In ns b0)) x) /\ (∀ x, In ns' q x ↔ (opP .or (opP .join (In ns a1) (opP .or (In ns b0) (In ns b1))) (opP .join (In ns a0) (In ns b1))) x) /\ cntT vars ns' <= cntT vars ns + cost (rr vars v) .or + cost (rr vars v) .join + cost (rr vars v) .join + cost (rr vars v) .or + cost (rr vars v) .join) :=
  ⟨h5, h4, ns5, O5, rfl, hpt.1, hM, hX5, hu5, (hu4.ext hx5), sem5, (fun x => (in_ext hC4.good.ranked hx5 hu4.1 x).trans (sem4 x)), hcc5⟩
 have R6 := Lib.hid r6
 have R7 := Lib.hid r7
 clear hpt hM hC5 hM5 hx5 hu5 hm5 hc5 hf5 hX5 hcc5 sem5 hC4 hM4 hx4 hu4 hm4 hc4 hf4 hX4 hcc4 sem4 hC3 hM3 hx3 hu3 hm3 hc3 hf3 hX3 hcc3 sem3 hC2 hM2 hx2 hu2 hm2 hc2 hf2 hX2 hcc2 sem2 hC1 hM1 hx1 hu1 hm1 hc1 hf1 hX1 hcc1 sem1 r6 r7
 go_wp2
 exact bodyPost_ret (v := .agg #[.int .i64 h5, .int .i64 h4]) (by simp [results, Tryz.results78, go_sem, R6.out, R7.out]) rfl HOUT.out
end
end Go.Proofs.YtbklgjmkdhinpaaGreatDoor.Fm
namespace Go.Proofs.YtbklgjmkdhinpaaGreatDoor.Fm
open Go.RowKit Go.Maps Go.Proofs.YtbklgjmkdhinpaaGreatDoor.Bd
section
variable {B : Nat} {c : Ctx} {O : Nat -> Prop} {vars : Nat} {ns : List Nd} {w : World} {v a0 a1 b0 b1 : Int}
theorem at_without {sw sk sd sa sx ow ok od oa ox : Nat} (hv : v < 24) (hC : CtxAt B w c O vars ns) (hSs : SubC B c vars .without sw sk sd sa v) (hSo : SubC B c vars .or ow ok od oa v) (hbxs : (sx, .func (.func 109) #[] #[.pointer (some ⟨sw, 0, none⟩), .pointer (some ⟨sk, 0, none⟩), .pointer (some ⟨sd, 0, none⟩), .pointer (some ⟨sa, 0, none⟩)]) ∈ c.boxes) (hbxo : (ox, .func (.func 109) #[] #[.pointer (some ⟨ow, 0, none⟩), .pointer (some ⟨ok, 0, none⟩), .pointer (some ⟨od, 0, none⟩), .pointer (some ⟨oa, 0, none⟩)]) ∈ c.boxes)
  (ua0 : Up v ns a0) (ua1 : Up v ns a1) (ub0 : Up v ns b0) (ub1 : Up v ns b1) (hroom : cntT vars ns + cost (rr vars v) .without + cost (rr vars v) .or + cost (rr vars v) .without + 18 < c.room) :
  Calls Tryz.prog 80 #[.agg #[.int .i64 a0, .int .i64 a1], .agg #[.int .i64 b0, .int .i64 b1], .pointer (some ⟨sx, 0, none⟩), .pointer (some ⟨ox, 0, none⟩)] w fun e w' => ∃ p q ns' O', e = .returned (.agg #[.int .i64 p, .int .i64 q]) /\ CtxAt B w' c O' vars ns' /\ MM c O O' w w' /\ Ext ns ns' /\ Up v ns' p /\ Up v ns' q /\ (∀ x, In ns' p x ↔ (opP .without (In ns a0) (In ns b0)) x) /\ (∀ x, In ns' q x ↔ (opP .without (In ns a1) (opP .or (In ns b0) (In ns b1))) x) /\ cntT vars ns' <= cntT vars ns + cost (rr vars v) .without + cost (rr vars v) .or + cost (rr vars v) .without := by
 have hb3 : Below w.heap.size w ((((w.alloc (.cells #[.int .i64 a0, .int .i64 a1] 124)).alloc (.cells #[.int .i64 b0, .int .i64 b1] 124)).alloc (.cells #[.int .i64 0, .int .i64 0] 124)).drew) := (((below_new w _).alloc (below_new w _).size _).alloc ((below_new w _).alloc (below_new w _).size _).size _).drew
 have hf3 := Fr.start hC a0 a1 b0 b1
 have hC3 := hC.new hb3
 have hr := hC.good.ranked
 obtain ⟨s1, s2, s3, s4⟩ := hf3.cells
 have s0s := (hC3.box _ hbxs).2.1
 have HBXs := Lib.hid hbxs
 unfold SubC at hSs
 have HSs := Lib.hid hSs
 have HUNs : Hid (∀ z : Int, unB .without = true -> z = 0) := fun z h => by cases h
 have s0o := (hC3.box _ hbxo).2.1
 have HBXo := Lib.hid hbxo
 unfold SubC at hSo
 have HSo := Lib.hid hSo
 have HUNo : Hid (∀ z : Int, unB .or = true -> z = 0) := fun z h => by cases h
 have HR1 : Hid (∀ n, n <= cntT vars ns -> n + cost (rr vars v) .without + 18 < c.room) := fun n h => by omega
 have HR2 : Hid (∀ n, n <= cntT vars ns + cost (rr vars v) .without -> n + cost (rr vars v) .or + 18 < c.room) := fun n h => by omega
 have HR3 : Hid (∀ n, n <= cntT vars ns + cost (rr vars v) .without + cost (rr vars v) .or -> n + cost (rr vars v) .without + 18 < c.room) := fun n h => by omega
 have HC3 := Lib.hid hC3
 have HF3 := Lib.hid hf3
 have HB3 := Lib.hid hb3
 have uz : Up v ns 0 := ⟨end_has0 ns, by rw [end_top0]; exact hv⟩
 have H0 : Hid (Up v ns a0 /\ Up v ns a1 /\ Up v ns b0 /\ Up v ns b1 /\ Up v ns 0) := ⟨ua0, ua1, ub0, ub1, uz⟩
 clear hC hSs hbxs hSo hbxo ua0 ua1 ub0 ub1 uz hC3 hf3 hb3
 go_enter Tryz.func80, Tryz.ntmps80
 go_wp2_with fail
 generalize (((w.alloc (.cells #[.int .i64 a0, .int .i64 a1] 124)).alloc (.cells #[.int .i64 b0, .int .i64 b1] 124)).alloc (.cells #[.int .i64 0, .int .i64 0] 124)) = W3 at *
 go_region_held3 (fun w' => w'.cell? ⟨sx, 0, none⟩ = some (.func (.func 109) #[] #[.pointer (some ⟨sw, 0, none⟩), .pointer (some ⟨sk, 0, none⟩), .pointer (some ⟨sd, 0, none⟩), .pointer (some ⟨sa, 0, none⟩)]) /\ w'.cell? ⟨ox, 0, none⟩ = some (.func (.func 109) #[] #[.pointer (some ⟨ow, 0, none⟩), .pointer (some ⟨ok, 0, none⟩), .pointer (some ⟨od, 0, none⟩), .pointer (some ⟨oa, 0, none⟩)]) /\ w'.cell? ⟨w.heap.size, 0, none⟩ = some (.int .i64 a0) /\ w'.cell? ⟨w.heap.size, 1, none⟩ = some (.int .i64 a1) /\ w'.cell? ⟨w.heap.size + 1, 0, none⟩ = some (.int .i64 b0) /\ w'.cell? ⟨w.heap.size + 1, 1, none⟩ = some (.int .i64 b1))
  (first | exact ⟨s0s, s0o, s1, s2, s3, s4⟩ | exact ⟨(hC1.box _ HBXs.out).2.1, (hC1.box _ HBXo.out).2.1, hf1.cells⟩ | exact ⟨(hC2.box _ HBXs.out).2.1, (hC2.box _ HBXo.out).2.1, hf2.cells⟩ | exact ⟨(hC3.box _ HBXs.out).2.1, (hC3.box _ HBXo.out).2.1, hf3.cells⟩ | exact ⟨(hpt.1.box _ HBXs.out).2.1, (hpt.1.box _ HBXo.out).2.1, hpt.2.2⟩)
  (first | (with_reducible refine (HSs.out _ _ _ _ _ HC3.out H0.out.1 H0.out.2.2.1 (HUNs.out _) (HR1.out _ (Nat.le_refl _))).mono ?_; rintro e w1 ⟨h1, ns1, O1, rfl, hC1, hM1, hx1, hu1, hm1, hc1⟩; have hf1 := HF3.out.move hM1; have hX1 := hx1; have hcc1 := hc1) | (with_reducible refine (HSo.out _ _ _ _ _ hC1 (H0.out.2.2.1.ext hX1) (H0.out.2.2.2.1.ext hX1) (HUNo.out _) (HR2.out _ hcc1)).mono ?_; rintro e w2 ⟨h2, ns2, O2, rfl, hC2, hM2, hx2, hu2, hm2, hc2⟩; have hf2 := hf1.move hM2; have hX2 := hX1.trans hx2; have hcc2 := Nat.le_trans hc2 (Nat.add_le_add_right hcc1 _)) | (with_reducible refine (HSs.out _ _ _ _ _ hC2 (H0.out.2.1.ext hX2) hu2 (HUNs.out _) (HR3.out _ hcc2)).mono ?_; rintro e w3 ⟨h3, ns3, O3, rfl, hC3, hM3, hx3, hu3, hm3, hc3⟩; have hf3 := hf2.move hM3; have hX3 := hX2.trans hx3; have hcc3 := Nat.le_trans hc3 (Nat.add_le_add_right hcc2 _); obtain ⟨⟨r0, r1, r2, r3⟩, ⟨r4, r5⟩, r6, r7⟩ := two_put hf3.pr h1 h3; have hpt := hf3.put hC3 h1 h3))
 have hM : MM c O O3 w ((w3.setCell ⟨w.heap.size + 1 + 1, 0, none⟩ (.int .i64 h1)).setCell ⟨w.heap.size + 1 + 1, 1, none⟩ (.int .i64 h3)) := by
  have h1 := ((((MM.of_below HB3.out).trans hM1).trans hM2).trans hM3)
  exact ⟨h1.kept.andThen hpt.2.1 (fun i hi hlt => by omega), h1.own⟩
 have sem1 : ∀ x, In ns1 h1 x ↔ (opP .without (In ns a0) (In ns b0)) x := fun x => (hm1 x).trans (opP_congr .without (fun y => Iff.rfl) (fun y => Iff.rfl) x)
 have sem2 : ∀ x, In ns2 h2 x ↔ (opP .or (In ns b0) (In ns b1)) x := fun x => (hm2 x).trans (opP_congr .or (fun y => in_ext hr hX1 H0.out.2.2.1.1 y) (fun y => in_ext hr hX1 H0.out.2.2.2.1.1 y) x)
 have sem3 : ∀ x, In ns3 h3 x ↔ (opP .without (In ns a1) (opP .or (In ns b0) (In ns b1))) x := fun x => (hm3 x).trans (opP_congr .without (fun y => in_ext hr hX2 H0.out.2.1.1 y) (fun y => sem2 y) x)
 have HOUT : Hid (∃ p q ns' O', (Ending.returned (.agg #[.int .i64 h1, .int .i64 h3])) = .returned (.agg #[.int .i64 p, .int .i64 q]) /\ CtxAt B ((w3.setCell ⟨w.heap.size + 1 + 1, 0, none⟩ (.int .i64 h1)).setCell ⟨w.heap.size + 1 + 1, 1, none⟩ (.int .i64 h3)) c O' vars ns' /\ MM c O O' w ((w3.setCell ⟨w.heap.size + 1 + 1, 0, none⟩ (.int .i64 h1)).setCell ⟨w.heap.size + 1 + 1, 1, none⟩ (.int .i64 h3)) /\ Ext ns ns' /\ Up v ns' p /\ Up v ns' q /\ (∀ x, In ns' p x ↔ (opP .without (In ns a0) (In ns b0)) x) /\ (∀ x, In ns' q x ↔ (opP .without (In ns a1) (opP .or (In ns b0) (In ns b1))) x) /\ cntT vars ns' <= cntT vars ns + cost (rr vars v) .without + cost (rr vars v) .or + cost (rr vars v) .without) :=
  ⟨h1, h3, ns3, O3, rfl, hpt.1, hM, hX3, (hu1.ext (hx2.trans hx3)), hu3, (fun x => (in_ext hC1.good.ranked (hx2.trans hx3) hu1.1 x).trans (sem1 x)), sem3, hcc3⟩
 have R6 := Lib.hid r6
 have R7 := Lib.hid r7
 clear hpt hM hC3 hM3 hx3 hu3 hm3 hc3 hf3 hX3 hcc3 sem3 hC2 hM2 hx2 hu2 hm2 hc2 hf2 hX2 hcc2 sem2 hC1 hM1 hx1 hu1 hm1 hc1 hf1 hX1 hcc1 sem1 r6 r7
 go_wp2
 exact bodyPost_ret (v := .agg #[.int .i64 h1, .int .i64 h3]) (by simp [results, Tryz.results80, go_sem, R6.out, R7.out]) rfl HOUT.out
end
end Go.Proofs.YtbklgjmkdhinpaaGreatDoor.Fm
namespace Go.Proofs.YtbklgjmkdhinpaaGreatDoor.Fm
open Go.RowKit Go.Maps Go.Proofs.YtbklgjmkdhinpaaGreatDoor.Bd
section
variable {B : Nat} {c : Ctx} {O : Nat -> Prop} {vars : Nat} {ns : List Nd} {w : World} {v a0 a1 b0 b1 : Int}
theorem at_least {sw sk sd sa sx tw tk td ta tx : Nat} (hv : v < 24) (hC : CtxAt B w c O vars ns) (hSs : SubC B c vars .least sw sk sd sa v) (hSt : SubC B c vars .without tw tk td ta v) (hbxs : (sx, .func (.func 109) #[] #[.pointer (some ⟨sw, 0, none⟩), .pointer (some ⟨sk, 0, none⟩), .pointer (some ⟨sd, 0, none⟩), .pointer (some ⟨sa, 0, none⟩)]) ∈ c.boxes) (hbxt : (tx, .func (.func 109) #[] #[.pointer (some ⟨tw, 0, none⟩), .pointer (some ⟨tk, 0, none⟩), .pointer (some ⟨td, 0, none⟩), .pointer (some ⟨ta, 0, none⟩)]) ∈ c.boxes)
  (ua0 : Up v ns a0) (ua1 : Up v ns a1) (ub0 : Up v ns b0) (ub1 : Up v ns b1) (hroom : cntT vars ns + cost (rr vars v) .least + cost (rr vars v) .least + cost (rr vars v) .without + 18 < c.room) :
  Calls Tryz.prog 82 #[.agg #[.int .i64 a0, .int .i64 a1], .agg #[.int .i64 b0, .int .i64 b1], .pointer (some ⟨sx, 0, none⟩), .pointer (some ⟨tx, 0, none⟩)] w fun e w' => ∃ p q ns' O', e = .returned (.agg #[.int .i64 p, .int .i64 q]) /\ CtxAt B w' c O' vars ns' /\ MM c O O' w w' /\ Ext ns ns' /\ Up v ns' p /\ Up v ns' q /\ (∀ x, In ns' p x ↔ (opP .least (In ns a0) (In ns 0)) x) /\ (∀ x, In ns' q x ↔ (opP .without (opP .least (In ns a1) (In ns 0)) (opP .least (In ns a0) (In ns 0))) x) /\ cntT vars ns' <= cntT vars ns + cost (rr vars v) .least + cost (rr vars v) .least + cost (rr vars v) .without := by
 have hb3 : Below w.heap.size w ((((w.alloc (.cells #[.int .i64 a0, .int .i64 a1] 124)).alloc (.cells #[.int .i64 b0, .int .i64 b1] 124)).alloc (.cells #[.int .i64 0, .int .i64 0] 124))) := (((below_new w _).alloc (below_new w _).size _).alloc ((below_new w _).alloc (below_new w _).size _).size _)
 have hf3 := (Fr.start hC a0 a1 b0 b1).undrew
 have hC3 := hC.new hb3
 have hr := hC.good.ranked
 obtain ⟨s1, s2, s3, s4⟩ := hf3.cells
 have s0s := (hC3.box _ hbxs).2.1
 have HBXs := Lib.hid hbxs
 unfold SubC at hSs
 have HSs := Lib.hid hSs
 have HUNs : Hid (∀ z : Int, z = 0 -> unB .least = true -> z = 0) := fun z h _ => h
 have s0t := (hC3.box _ hbxt).2.1
 have HBXt := Lib.hid hbxt
 unfold SubC at hSt
 have HSt := Lib.hid hSt
 have HUNt : Hid (∀ z : Int, unB .without = true -> z = 0) := fun z h => by cases h
 have HR1 : Hid (∀ n, n <= cntT vars ns -> n + cost (rr vars v) .least + 18 < c.room) := fun n h => by omega
 have HR2 : Hid (∀ n, n <= cntT vars ns + cost (rr vars v) .least -> n + cost (rr vars v) .least + 18 < c.room) := fun n h => by omega
 have HR3 : Hid (∀ n, n <= cntT vars ns + cost (rr vars v) .least + cost (rr vars v) .least -> n + cost (rr vars v) .without + 18 < c.room) := fun n h => by omega
 have HC3 := Lib.hid hC3
 have HF3 := Lib.hid hf3
 have HB3 := Lib.hid hb3
 have uz : Up v ns 0 := ⟨end_has0 ns, by rw [end_top0]; exact hv⟩
 have H0 : Hid (Up v ns a0 /\ Up v ns a1 /\ Up v ns b0 /\ Up v ns b1 /\ Up v ns 0) := ⟨ua0, ua1, ub0, ub1, uz⟩
 clear hC hSs hbxs hSt hbxt ua0 ua1 ub0 ub1 uz hC3 hf3 hb3
 go_enter Tryz.func82, Tryz.ntmps82
 go_wp2_with fail
 refine (HSs.out _ _ _ _ _ HC3.out H0.out.1 H0.out.2.2.2.2 (HUNs.out _ rfl) (HR1.out _ (Nat.le_refl _))).mono ?_
 rintro e w1 ⟨h1, ns1, O1, rfl, hC1, hM1, hx1, hu1, hm1, hc1⟩
 have hf1 := HF3.out.move hM1
 have hX1 := hx1
 have hcc1 := hc1
 go_wp2_with fail
 have hCd := hC1.new ((Below.refl _ w1).drew)
 have hfd := hf1.drew
 have hMd : MM c O1 O1 w1 w1.drew := MM.of_below ((Below.refl _ _).drew)
 have d0s := (hCd.box _ HBXs.out).2.1
 have d0t := (hCd.box _ HBXt.out).2.1
 obtain ⟨d1, d2, d3, d4⟩ := hfd.cells
 go_region_held3 (fun w' => w'.cell? ⟨sx, 0, none⟩ = some (.func (.func 109) #[] #[.pointer (some ⟨sw, 0, none⟩), .pointer (some ⟨sk, 0, none⟩), .pointer (some ⟨sd, 0, none⟩), .pointer (some ⟨sa, 0, none⟩)]) /\ w'.cell? ⟨tx, 0, none⟩ = some (.func (.func 109) #[] #[.pointer (some ⟨tw, 0, none⟩), .pointer (some ⟨tk, 0, none⟩), .pointer (some ⟨td, 0, none⟩), .pointer (some ⟨ta, 0, none⟩)]) /\ w'.cell? ⟨w.heap.size, 0, none⟩ = some (.int .i64 a0) /\ w'.cell? ⟨w.heap.size, 1, none⟩ = some (.int .i64 a1) /\ w'.cell? ⟨w.heap.size + 1, 0, none⟩ = some (.int .i64 b0) /\ w'.cell? ⟨w.heap.size + 1, 1, none⟩ = some (.int .i64 b1))
  (first | exact ⟨d0s, d0t, d1, d2, d3, d4⟩ | exact ⟨(hC2.box _ HBXs.out).2.1, (hC2.box _ HBXt.out).2.1, hf2.cells⟩ | exact ⟨(hC3.box _ HBXs.out).2.1, (hC3.box _ HBXt.out).2.1, hf3.cells⟩ | exact ⟨(hpt.1.box _ HBXs.out).2.1, (hpt.1.box _ HBXt.out).2.1, hpt.2.2⟩)
  (first | (with_reducible refine (HSs.out _ _ _ _ _ hCd (H0.out.2.1.ext hX1) (H0.out.2.2.2.2.ext hX1) (HUNs.out _ rfl) (HR2.out _ hcc1)).mono ?_; rintro e w2 ⟨h2, ns2, O2, rfl, hC2, hM2, hx2, hu2, hm2, hc2⟩; have hf2 := hfd.move hM2; have hX2 := hX1.trans hx2; have hcc2 := Nat.le_trans hc2 (Nat.add_le_add_right hcc1 _)) | (with_reducible refine (HSt.out _ _ _ _ _ hC2 hu2 (hu1.ext hx2) (HUNt.out _) (HR3.out _ hcc2)).mono ?_; rintro e w3 ⟨h3, ns3, O3, rfl, hC3, hM3, hx3, hu3, hm3, hc3⟩; have hf3 := hf2.move hM3; have hX3 := hX2.trans hx3; have hcc3 := Nat.le_trans hc3 (Nat.add_le_add_right hcc2 _); obtain ⟨⟨r0, r1, r2, r3⟩, ⟨r4, r5⟩, r6, r7⟩ := two_put hf3.pr h1 h3; have hpt := hf3.put hC3 h1 h3))
 have hM : MM c O O3 w ((w3.setCell ⟨w.heap.size + 1 + 1, 0, none⟩ (.int .i64 h1)).setCell ⟨w.heap.size + 1 + 1, 1, none⟩ (.int .i64 h3)) := by
  have h1 := (((((MM.of_below HB3.out).trans hM1).trans hMd).trans hM2).trans hM3)
  exact ⟨h1.kept.andThen hpt.2.1 (fun i hi hlt => by omega), h1.own⟩
 have sem1 : ∀ x, In ns1 h1 x ↔ (opP .least (In ns a0) (In ns 0)) x := fun x => (hm1 x).trans (opP_congr .least (fun y => Iff.rfl) (fun y => Iff.rfl) x)
 have sem2 : ∀ x, In ns2 h2 x ↔ (opP .least (In ns a1) (In ns 0)) x := fun x => (hm2 x).trans (opP_congr .least (fun y => in_ext hr hX1 H0.out.2.1.1 y) (fun y => in_ext hr hX1 H0.out.2.2.2.2.1 y) x)
 have sem3 : ∀ x, In ns3 h3 x ↔ (opP .without (opP .least (In ns a1) (In ns 0)) (opP .least (In ns a0) (In ns 0))) x := fun x => (hm3 x).trans (opP_congr .without (fun y => sem2 y) (fun y => (in_ext hC1.good.ranked hx2 hu1.1 y).trans (sem1 y)) x)
 have HOUT : Hid (∃ p q ns' O', (Ending.returned (.agg #[.int .i64 h1, .int .i64 h3])) = .returned (.agg #[.int .i64 p, .int .i64 q]) /\ CtxAt B ((w3.setCell ⟨w.heap.size + 1 + 1, 0, none⟩ (.int .i64 h1)).setCell ⟨w.heap.size + 1 + 1, 1, none⟩ (.int .i64 h3)) c O' vars ns' /\ MM c O O' w ((w3.setCell ⟨w.heap.size + 1 + 1, 0, none⟩ (.int .i64 h1)).setCell ⟨w.heap.size + 1 + 1, 1, none⟩ (.int .i64 h3)) /\ Ext ns ns' /\ Up v ns' p /\ Up v ns' q /\ (∀ x, In ns' p x ↔ (opP .least (In ns a0) (In ns 0)) x) /\ (∀ x, In ns' q x ↔ (opP .without (opP .least (In ns a1) (In ns 0)) (opP .least (In ns a0) (In ns 0))) x) /\ cntT vars ns' <= cntT vars ns + cost (rr vars v) .least + cost (rr vars v) .least + cost (rr vars v) .without) :=
  ⟨h1, h3, ns3, O3, rfl, hpt.1, hM, hX3, (hu1.ext (hx2.trans hx3)), hu3, (fun x => (in_ext hC1.good.ranked (hx2.trans hx3) hu1.1 x).trans (sem1 x)), sem3, hcc3⟩
 have R6 := Lib.hid r6
 have R7 := Lib.hid r7
 clear hpt hM hC3 hM3 hx3 hu3 hm3 hc3 hf3 hX3 hcc3 sem3 hC2 hM2 hx2 hu2 hm2 hc2 hf2 hX2 hcc2 sem2 hC1 hM1 hx1 hu1 hm1 hc1 hf1 hX1 hcc1 sem1 r6 r7
 go_wp2
 exact bodyPost_ret (v := .agg #[.int .i64 h1, .int .i64 h3]) (by simp [results, Tryz.results82, go_sem, R6.out, R7.out]) rfl HOUT.out
end
end Go.Proofs.YtbklgjmkdhinpaaGreatDoor.Fm
