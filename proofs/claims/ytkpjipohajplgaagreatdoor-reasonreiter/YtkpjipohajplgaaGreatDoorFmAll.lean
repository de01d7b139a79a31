/- Each operation makes what it says. -/
import Derived.Test.YtkpjipohajplgaaGreatDoorFmAtWithout
set_option maxHeartbeats 4000000
set_option maxRecDepth 100000
namespace Go.Proofs.YtkpjipohajplgaaGreatDoor.Fm
open Go.RowKit Go.Maps Go.Proofs.YtkpjipohajplgaaGreatDoor.Bd
section
variable {B : Nat} {c : Ctx} {O : Nat -> Prop} {vars : Nat} {ns : List Nd} {w : World} {v a0 a1 b0 b1 : Int}
theorem at_hits {sw sk sd sa sx ow ok od oa ox tw tk td ta tx : Nat} (hv : v < 24) (hC : CtxAt B w c O vars ns) (hSs : SubC B c vars .hits sw sk sd sa v) (hSo : SubC B c vars .or ow ok od oa v) (hSt : SubC B c vars .without tw tk td ta v) (hbxs : (sx, .func (.func 62) #[] #[.pointer (some ⟨sw, 0, none⟩), .pointer (some ⟨sk, 0, none⟩), .pointer (some ⟨sd, 0, none⟩), .pointer (some ⟨sa, 0, none⟩)]) ∈ c.boxes) (hbxo : (ox, .func (.func 62) #[] #[.pointer (some ⟨ow, 0, none⟩), .pointer (some ⟨ok, 0, none⟩), .pointer (some ⟨od, 0, none⟩), .pointer (some ⟨oa, 0, none⟩)]) ∈ c.boxes) (hbxt : (tx, .func (.func 62) #[] #[.pointer (some ⟨tw, 0, none⟩), .pointer (some ⟨tk, 0, none⟩), .pointer (some ⟨td, 0, none⟩), .pointer (some ⟨ta, 0, none⟩)]) ∈ c.boxes)
  (ua0 : Up v ns a0) (ua1 : Up v ns a1) (ub0 : Up v ns b0) (ub1 : Up v ns b1) (hroom : cntT vars ns + cost (rr vars v) .or + cost (rr vars v) .hits + cost (rr vars v) .hits + cost (rr vars v) .without + 18 < c.room) :
  Calls Tryz.prog 45 #[.agg #[.int .i64 a0, .int .i64 a1], .agg #[.int .i64 b0, .int .i64 b1], .pointer (some ⟨sx, 0, none⟩), .pointer (some ⟨ox, 0, none⟩), .pointer (some ⟨tx, 0, none⟩)] w fun e w' => ∃ p q ns' O', e = .returned (.agg #[.int .i64 p, .int .i64 q]) /\ CtxAt B w' c O' vars ns' /\ MM c O O' w w' /\ Ext ns ns' /\ Up v ns' p /\ Up v ns' q /\ (∀ x, In ns' p x ↔ (opP .hits (opP .or (In ns a0) (In ns a1)) (In ns 0)) x) /\ (∀ x, In ns' q x ↔ (opP .without (opP .hits (In ns a0) (In ns 0)) (opP .hits (opP .or (In ns a0) (In ns a1)) (In ns 0))) x) /\ cntT vars ns' <= cntT vars ns + cost (rr vars v) .or + cost (rr vars v) .hits + cost (rr vars v) .hits + cost (rr vars v) .without := by
 have hb3 : Below w.heap.size w ((((w.alloc (.cells #[.int .i64 a0, .int .i64 a1] 94)).alloc (.cells #[.int .i64 b0, .int .i64 b1] 94)).alloc (.cells #[.int .i64 0, .int .i64 0] 94)).drew) := (((below_new w _).alloc (below_new w _).size _).alloc ((below_new w _).alloc (below_new w _).size _).size _).drew
 have hf3 := Fr.start hC a0 a1 b0 b1
 have hC3 := hC.new hb3
 have hr := hC.good.ranked
 obtain ⟨s1, s2, s3, s4⟩ := hf3.cells
 have s0s := (hC3.box _ hbxs).2.1
 have HBXs := Lib.hid hbxs
 unfold SubC at hSs
 have HSs := Lib.hid hSs
 have HUNs : Hid (∀ z : Int, z = 0 -> unB .hits = true -> z = 0) := fun z h _ => h
 have s0o := (hC3.box _ hbxo).2.1
 have HBXo := Lib.hid hbxo
 unfold SubC at hSo
 have HSo := Lib.hid hSo
 have HUNo : Hid (∀ z : Int, unB .or = true -> z = 0) := fun z h => by cases h
 have s0t := (hC3.box _ hbxt).2.1
 have HBXt := Lib.hid hbxt
 unfold SubC at hSt
 have HSt := Lib.hid hSt
 have HUNt : Hid (∀ z : Int, unB .without = true -> z = 0) := fun z h => by cases h
 have HR1 : Hid (∀ n, n <= cntT vars ns -> n + cost (rr vars v) .or + 18 < c.room) := fun n h => by omega
 have HR2 : Hid (∀ n, n <= cntT vars ns + cost (rr vars v) .or -> n + cost (rr vars v) .hits + 18 < c.room) := fun n h => by omega
 have HR3 : Hid (∀ n, n <= cntT vars ns + cost (rr vars v) .or + cost (rr vars v) .hits -> n + cost (rr vars v) .hits + 18 < c.room) := fun n h => by omega
 have HR4 : Hid (∀ n, n <= cntT vars ns + cost (rr vars v) .or + cost (rr vars v) .hits + cost (rr vars v) .hits -> n + cost (rr vars v) .without + 18 < c.room) := fun n h => by omega
 have HC3 := Lib.hid hC3
 have HF3 := Lib.hid hf3
 have HB3 := Lib.hid hb3
 have uz : Up v ns 0 := ⟨end_has0 ns, by rw [end_top0]; exact hv⟩
 have H0 : Hid (Up v ns a0 /\ Up v ns a1 /\ Up v ns b0 /\ Up v ns b1 /\ Up v ns 0) := ⟨ua0, ua1, ub0, ub1, uz⟩
 clear hC hSs hbxs hSo hbxo hSt hbxt ua0 ua1 ub0 ub1 uz hC3 hf3 hb3
 go_enter Tryz.func45, Tryz.ntmps45
 go_wp2_with fail
 generalize (((w.alloc (.cells #[.int .i64 a0, .int .i64 a1] 94)).alloc (.cells #[.int .i64 b0, .int .i64 b1] 94)).alloc (.cells #[.int .i64 0, .int .i64 0] 94)) = W3 at *
 go_region_held3 (fun w' => w'.cell? ⟨sx, 0, none⟩ = some (.func (.func 62) #[] #[.pointer (some ⟨sw, 0, none⟩), .pointer (some ⟨sk, 0, none⟩), .pointer (some ⟨sd, 0, none⟩), .pointer (some ⟨sa, 0, none⟩)]) /\ w'.cell? ⟨ox, 0, none⟩ = some (.func (.func 62) #[] #[.pointer (some ⟨ow, 0, none⟩), .pointer (some ⟨ok, 0, none⟩), .pointer (some ⟨od, 0, none⟩), .pointer (some ⟨oa, 0, none⟩)]) /\ w'.cell? ⟨tx, 0, none⟩ = some (.func (.func 62) #[] #[.pointer (some ⟨tw, 0, none⟩), .pointer (some ⟨tk, 0, none⟩), .pointer (some ⟨td, 0, none⟩), .pointer (some ⟨ta, 0, none⟩)]) /\ w'.cell? ⟨w.heap.size, 0, none⟩ = some (.int .i64 a0) /\ w'.cell? ⟨w.heap.size, 1, none⟩ = some (.int .i64 a1) /\ w'.cell? ⟨w.heap.size + 1, 0, none⟩ = some (.int .i64 b0) /\ w'.cell? ⟨w.heap.size + 1, 1, none⟩ = some (.int .i64 b1))
  (first | exact ⟨s0s, s0o, s0t, s1, s2, s3, s4⟩ | exact ⟨(hC1.box _ HBXs.out).2.1, (hC1.box _ HBXo.out).2.1, (hC1.box _ HBXt.out).2.1, hf1.cells⟩ | exact ⟨(hC2.box _ HBXs.out).2.1, (hC2.box _ HBXo.out).2.1, (hC2.box _ HBXt.out).2.1, hf2.cells⟩)
  (first | (with_reducible refine (HSo.out _ _ _ _ _ HC3.out H0.out.1 H0.out.2.1 (HUNo.out _) (HR1.out _ (Nat.le_refl _))).mono ?_; rintro e w1 ⟨h1, ns1, O1, rfl, hC1, hM1, hx1, hu1, hm1, hc1⟩; have hf1 := HF3.out.move hM1; have hX1 := hx1; have hcc1 := hc1) | (with_reducible refine (HSs.out _ _ _ _ _ hC1 hu1 (H0.out.2.2.2.2.ext hX1) (HUNs.out _ rfl) (HR2.out _ hcc1)).mono ?_; rintro e w2 ⟨h2, ns2, O2, rfl, hC2, hM2, hx2, hu2, hm2, hc2⟩; have hf2 := hf1.move hM2; have hX2 := hX1.trans hx2; have hcc2 := Nat.le_trans hc2 (Nat.add_le_add_right hcc1 _)))
 go_wp2_with fail
 have hCd := hC2.new ((Below.refl _ w2).drew)
 have hfd := hf2.drew
 have hMd : MM c O2 O2 w2 w2.drew := MM.of_below ((Below.refl _ _).drew)
 have d0s := (hCd.box _ HBXs.out).2.1
 have d0o := (hCd.box _ HBXo.out).2.1
 have d0t := (hCd.box _ HBXt.out).2.1
 obtain ⟨d1, d2, d3, d4⟩ := hfd.cells
 go_region_held3 (fun w' => w'.cell? ⟨sx, 0, none⟩ = some (.func (.func 62) #[] #[.pointer (some ⟨sw, 0, none⟩), .pointer (some ⟨sk, 0, none⟩), .pointer (some ⟨sd, 0, none⟩), .pointer (some ⟨sa, 0, none⟩)]) /\ w'.cell? ⟨ox, 0, none⟩ = some (.func (.func 62) #[] #[.pointer (some ⟨ow, 0, none⟩), .pointer (some ⟨ok, 0, none⟩), .pointer (some ⟨od, 0, none⟩), .pointer (some ⟨oa, 0, none⟩)]) /\ w'.cell? ⟨tx, 0, none⟩ = some (.func (.func 62) #[] #[.pointer (some ⟨tw, 0, none⟩), .pointer (some ⟨tk, 0, none⟩), .pointer (some ⟨td, 0, none⟩), .pointer (some ⟨ta, 0, none⟩)]) /\ w'.cell? ⟨w.heap.size, 0, none⟩ = some (.int .i64 a0) /\ w'.cell? ⟨w.heap.size, 1, none⟩ = some (.int .i64 a1) /\ w'.cell? ⟨w.heap.size + 1, 0, none⟩ = some (.int .i64 b0) /\ w'.cell? ⟨w.heap.size + 1, 1, none⟩ = some (.int .i64 b1))
  (first | exact ⟨d0s, d0o, d0t, d1, d2, d3, d4⟩ | exact ⟨(hC3.box _ HBXs.out).2.1, (hC3.box _ HBXo.out).2.1, (hC3.box _ HBXt.out).2.1, hf3.cells⟩ | exact ⟨(hC4.box _ HBXs.out).2.1, (hC4.box _ HBXo.out).2.1, (hC4.box _ HBXt.out).2.1, hf4.cells⟩ | exact ⟨(hpt.1.box _ HBXs.out).2.1, (hpt.1.box _ HBXo.out).2.1, (hpt.1.box _ HBXt.out).2.1, hpt.2.2⟩)
  (first | (with_reducible refine (HSs.out _ _ _ _ _ hCd (H0.out.1.ext hX2) (H0.out.2.2.2.2.ext hX2) (HUNs.out _ rfl) (HR3.out _ hcc2)).mono ?_; rintro e w3 ⟨h3, ns3, O3, rfl, hC3, hM3, hx3, hu3, hm3, hc3⟩; have hf3 := hfd.move hM3; have hX3 := hX2.trans hx3; have hcc3 := Nat.le_trans hc3 (Nat.add_le_add_right hcc2 _)) | (with_reducible refine (HSt.out _ _ _ _ _ hC3 hu3 (hu2.ext hx3) (HUNt.out _) (HR4.out _ hcc3)).mono ?_; rintro e w4 ⟨h4, ns4, O4, rfl, hC4, hM4, hx4, hu4, hm4, hc4⟩; have hf4 := hf3.move hM4; have hX4 := hX3.trans hx4; have hcc4 := Nat.le_trans hc4 (Nat.add_le_add_right hcc3 _); obtain ⟨⟨r0, r1, r2, r3⟩, ⟨r4, r5⟩, r6, r7⟩ := two_put hf4.pr h2 h4; have hpt := hf4.put hC4 h2 h4))
 have hM : MM c O O4 w ((w4.setCell ⟨w.heap.size + 1 + 1, 0, none⟩ (.int .i64 h2)).setCell ⟨w.heap.size + 1 + 1, 1, none⟩ (.int .i64 h4)) := by
  have h1 := ((((((MM.of_below HB3.out).trans hM1).trans hM2).trans hMd).trans hM3).trans hM4)
  exact ⟨h1.kept.andThen hpt.2.1 (fun i hi hlt => by omega), h1.own⟩
 have sem1 : ∀ x, In ns1 h1 x ↔ (opP .or (In ns a0) (In ns a1)) x := fun x => (hm1 x).trans (opP_congr .or (fun y => Iff.rfl) (fun y => Iff.rfl) x)
 have sem2 : ∀ x, In ns2 h2 x ↔ (opP .hits (opP .or (In ns a0) (In ns a1)) (In ns 0)) x := fun x => (hm2 x).trans (opP_congr .hits (fun y => sem1 y) (fun y => in_ext hr hX1 H0.out.2.2.2.2.1 y) x)
 have sem3 : ∀ x, In ns3 h3 x ↔ (opP .hits (In ns a0) (In ns 0)) x := fun x => (hm3 x).trans (opP_congr .hits (fun y => in_ext hr hX2 H0.out.1.1 y) (fun y => in_ext hr hX2 H0.out.2.2.2.2.1 y) x)
 have sem4 : ∀ x, In ns4 h4 x ↔ (opP .without (opP .hits (In ns a0) (In ns 0)) (opP .hits (opP .or (In ns a0) (In ns a1)) (In ns 0))) x := fun x => (hm4 x).trans (opP_congr .without (fun y => sem3 y) (fun y => (in_ext hC2.good.ranked hx3 hu2.1 y).trans (sem2 y)) x)
 have HOUT : Hid (∃ p q ns' O', (Ending.returned (.agg #[.int .i64 h2, .int .i64 h4])) = .returned (.agg #[.int .i64 p, .int .i64 q]) /\ CtxAt B ((w4.setCell ⟨w.heap.size + 1 + 1, 0, none⟩ (.int .i64 h2)).setCell ⟨w.heap.size + 1 + 1, 1, none⟩ (.int .i64 h4)) c O' vars ns' /\ MM c O O' w ((w4.setCell ⟨w.heap.size + 1 + 1, 0, none⟩ (.int .i64 h2)).setCell ⟨w.heap.size + 1 + 1, 1, none⟩ (.int .i64 h4)) /\ Ext ns ns' /\ Up v ns' p /\ Up v ns' q /\ (∀ x, In ns' p x ↔ (opP .hits (opP .or (In ns a0) (In ns a1)) (In ns 0)) x) /\ (∀ x, In ns' q x ↔ (opP .without (opP .hits (In ns a0) (In ns 0)) (opP .hits (opP .or (In ns a0) (In ns a1)) (In ns 0))) x) /\ cntT vars ns' <= cntT vars ns + cost (rr vars v) .or + cost (rr vars v) .hits + cost (rr vars v) .hits + cost (rr vars v) .without) :=
  ⟨h2, h4, ns4, O4, rfl, hpt.1, hM, hX4, (hu2.ext (hx3.trans hx4)), hu4, (fun x => (in_ext hC2.good.ranked (hx3.trans hx4) hu2.1 x).trans (sem2 x)), sem4, hcc4⟩
 have R6 := Lib.hid r6
 have R7 := Lib.hid r7
 clear hpt hM hC4 hM4 hx4 hu4 hm4 hc4 hf4 hX4 hcc4 sem4 hC3 hM3 hx3 hu3 hm3 hc3 hf3 hX3 hcc3 sem3 hC2 hM2 hx2 hu2 hm2 hc2 hf2 hX2 hcc2 sem2 hC1 hM1 hx1 hu1 hm1 hc1 hf1 hX1 hcc1 sem1 r6 r7
 go_wp2
 exact bodyPost_ret (v := .agg #[.int .i64 h2, .int .i64 h4]) (by simp [results, Tryz.results45, go_sem, R6.out, R7.out]) rfl HOUT.out
end
end Go.Proofs.YtkpjipohajplgaaGreatDoor.Fm
namespace Go.Proofs.YtkpjipohajplgaaGreatDoor.Fm
open Go.RowKit Go.Maps Go.Proofs.YtkpjipohajplgaaGreatDoor.Bd
section
variable {B : Nat} {c : Ctx} {vars : Nat} {k : K} {F FA : FuncId} {bw bk bd ba dm : Nat} {capsA : Array Value} {v : Int}
theorem sub_step (hF : IsBase c F k bw bk bd ba dm (.func (.func FA) #[] capsA)) (hentA : ∀ (args : Array Value) (w : World), (callFunc FA args).run Tryz.prog w = .ok (.enter FA args) w)
  (hat : ∀ (W : World) (O : Nat -> Prop) (ns : List Nd) (a b : Int), CtxAt B W c O vars ns -> hasB ns a = true -> hasB ns b = true -> v < minZ ns a b -> minZ ns a b < 24 -> cntT vars ns + cost (rk vars ns a b) k + 18 < c.room -> Calls Tryz.prog FA (#[.agg #[.int .i64 (loZ ns a (minZ ns a b)), .int .i64 (hiZ ns a (minZ ns a b))], .agg #[.int .i64 (loZ ns b (minZ ns a b)), .int .i64 (hiZ ns b (minZ ns a b))]] ++ capsA) W fun e w' => ∃ p q ns' O', e = .returned (.agg #[.int .i64 p, .int .i64 q]) /\ CtxAt B w' c O' vars ns' /\ MM c O O' W w' /\ AtRes vars k ns a b ns' p q) :
  SubC B c vars k bw bk bd ba v := by
 intro w O ns a b hC ua ub hun hroom
 have hmz : v < minZ ns a b := by have := ua.2; have := ub.2; unfold minZ; omega
 have hrk : rk vars ns a b <= rr vars v := by unfold rk rr; omega
 have hco := cost_mono hrk k
 have key : Calls Tryz.prog 62 #[.int .i64 a, .int .i64 b, .pointer (some ⟨bw, 0, none⟩), .pointer (some ⟨bk, 0, none⟩), .pointer (some ⟨bd, 0, none⟩), .pointer (some ⟨ba, 0, none⟩)] w (OpOut B c O vars k ns a b w) := by
  cases e : knownZ k a b with
  | some x => exact walk_known hC hF ua.1 ub.1 x e
  | none =>
   obtain ⟨⟨m, D, hD, hR, hm⟩, -⟩ := hC.memo _ hF.im
   by_cases hx : (a, b) ∈ m.map Prod.fst
   ·obtain ⟨q, hq, eq⟩ := List.mem_map.1 hx
    obtain ⟨q1, q2⟩ := q
    simp only at eq
    subst eq
    exact walk_found hC hF e hD hR hm q2 hq
   ·have hv := known_none (k := k) hC.good.ranked ua.1 ub.1 e
    exact walk_step hC hF ua.1 ub.1 e hD hR hx (by omega) hentA (fun W hW => hat W O ns a b (hC.new hW) ua.1 ub.1 hmz hv (by omega))
 refine key.mono ?_
 rintro e w' ⟨h, ns', O', rfl, hC', hM', hR'⟩
 refine ⟨h, ns', O', rfl, hC', hM', hR'.ext, ⟨hR'.has, by have := hR'.top; omega⟩, hR'.mem, ?_⟩
 have := hR'.cnt
 omega
theorem up_lo {ns : List Nd} {h u : Int} (hr : Ranked ns) (hu : u < 24) (hh : hasB ns h = true) (hle : u <= topOf ns h) : Up u ns (loZ ns h u) := ⟨(loZ_has hr hu hh).1, (loZ_has hr hu hh).2 hle⟩
theorem up_hi {ns : List Nd} {h u : Int} (hr : Ranked ns) (hu : u < 24) : Up u ns (hiZ ns h u) := ⟨(hiZ_has (h := h) hr hu).1, (hiZ_has (h := h) hr hu).2⟩
theorem rk_cases (vars : Nat) (ns : List Nd) (a b : Int) : (minZ ns a b + 2 < (vars : Int) /\ rk vars ns a b = rr vars (minZ ns a b) + 1) \/ (¬ minZ ns a b + 2 < (vars : Int) /\ rk vars ns a b = 0 /\ rr vars (minZ ns a b) = 0) := by
 unfold rk rr
 by_cases h : minZ ns a b + 2 < (vars : Int)
 ·exact .inl ⟨h, by omega⟩
 ·exact .inr ⟨h, by omega, by omega⟩
end
def IsOr (c : Ctx) (sw sk sd sa : Nat) : Prop := ∃ dm sx, IsBase c 51 .or sw sk sd sa dm (.func (.func 52) #[] #[.pointer (some ⟨sx, 0, none⟩)]) /\ (sx, .func (.func 62) #[] #[.pointer (some ⟨sw, 0, none⟩), .pointer (some ⟨sk, 0, none⟩), .pointer (some ⟨sd, 0, none⟩), .pointer (some ⟨sa, 0, none⟩)]) ∈ c.boxes
theorem sub_or {B : Nat} {c : Ctx} {vars : Nat} {sw sk sd sa : Nat} (hI : IsOr c sw sk sd sa) (v : Int) : SubC B c vars .or sw sk sd sa v := by
 obtain ⟨dm, sx, hF, hbxs⟩ := hI
 have main : ∀ (d : Nat) (v : Int), 23 <= v + d -> SubC B c vars .or sw sk sd sa v := by
  intro d
  induction d with
  | zero => exact fun v hv => sub_step hF (fun _ _ => by kernel_rfl) (fun W O ns a b hC ha hb hv1 hv2 => by omega)
  | succ d ih =>
   intro v hv
   have hind : ∀ u, v < u -> SubC B c vars .or sw sk sd sa u := fun u hu => ih u (by omega)
   refine sub_step hF (fun _ _ => by kernel_rfl) (fun W O ns a b hC ha hb hv1 hv2 hroom => ?_)
   have hr := hC.good.ranked
   have hv0 := (minZ_bd hr a b).1
   obtain ⟨m1, m2⟩ := minZ_le ns a b
   have hsum : cntT vars ns + cost (rr vars (minZ ns a b)) .or + cost (rr vars (minZ ns a b)) .or + (if minZ ns a b + 2 < (vars : Int) then 1 else 0) <= cntT vars ns + cost (rk vars ns a b) .or := by
    rcases rk_cases vars ns a b with ⟨h1, h2⟩ | ⟨h1, h2, h3⟩
    ·rw [if_pos h1, h2]; simp only [cost]; omega
    ·rw [if_neg h1, h2, h3]; simp only [cost]; omega
   have da := dec_of hr hv0 hv2 ha m1
   have db := dec_of hr hv0 hv2 hb m2
   refine (at_or hC (hind (minZ ns a b) hv1) hbxs (up_lo hr hv2 ha m1) (up_hi hr hv2) (up_lo hr hv2 hb m2) (up_hi hr hv2) (by omega)).mono ?_
   rintro e w' ⟨p, q, ns', O', rfl, hC', hM', hx', hp', hq', mp, mq, hc'⟩
   refine ⟨p, q, ns', O', rfl, hC', hM', hx', hp'.1, hq'.1, hp'.2, hq'.2, fun x => ?_, by omega⟩
   rw [dec_or da db x]
   split
   ·exact mq _
   ·exact mp _
 exact main (23 - v).toNat v (by omega)
def IsWithout (c : Ctx) (sw sk sd sa : Nat) : Prop := ∃ dm sx ox ow ok od oa, IsBase c 60 .without sw sk sd sa dm (.func (.func 61) #[] #[.pointer (some ⟨sx, 0, none⟩), .pointer (some ⟨ox, 0, none⟩)]) /\ (sx, .func (.func 62) #[] #[.pointer (some ⟨sw, 0, none⟩), .pointer (some ⟨sk, 0, none⟩), .pointer (some ⟨sd, 0, none⟩), .pointer (some ⟨sa, 0, none⟩)]) ∈ c.boxes /\ (ox, .func (.func 62) #[] #[.pointer (some ⟨ow, 0, none⟩), .pointer (some ⟨ok, 0, none⟩), .pointer (some ⟨od, 0, none⟩), .pointer (some ⟨oa, 0, none⟩)]) ∈ c.boxes /\ IsOr c ow ok od oa
theorem sub_without {B : Nat} {c : Ctx} {vars : Nat} {sw sk sd sa : Nat} (hI : IsWithout c sw sk sd sa) (v : Int) : SubC B c vars .without sw sk sd sa v := by
 obtain ⟨dm, sx, ox, ow, ok, od, oa, hF, hbxs, hbxo, hNo⟩ := hI
 have hSo : ∀ v, SubC B c vars .or ow ok od oa v := fun v => sub_or hNo v
 have main : ∀ (d : Nat) (v : Int), 23 <= v + d -> SubC B c vars .without sw sk sd sa v := by
  intro d
  induction d with
  | zero => exact fun v hv => sub_step hF (fun _ _ => by kernel_rfl) (fun W O ns a b hC ha hb hv1 hv2 => by omega)
  | succ d ih =>
   intro v hv
   have hind : ∀ u, v < u -> SubC B c vars .without sw sk sd sa u := fun u hu => ih u (by omega)
   refine sub_step hF (fun _ _ => by kernel_rfl) (fun W O ns a b hC ha hb hv1 hv2 hroom => ?_)
   have hr := hC.good.ranked
   have hv0 := (minZ_bd hr a b).1
   obtain ⟨m1, m2⟩ := minZ_le ns a b
   have hsum : cntT vars ns + cost (rr vars (minZ ns a b)) .without + cost (rr vars (minZ ns a b)) .or + cost (rr vars (minZ ns a b)) .without + (if minZ ns a b + 2 < (vars : Int) then 1 else 0) <= cntT vars ns + cost (rk vars ns a b) .without := by
    rcases rk_cases vars ns a b with ⟨h1, h2⟩ | ⟨h1, h2, h3⟩
    ·rw [if_pos h1, h2]; simp only [cost]; omega
    ·rw [if_neg h1, h2, h3]; simp only [cost]; omega
   have da := dec_of hr hv0 hv2 ha m1
   have db := dec_of hr hv0 hv2 hb m2
   refine (at_without hv2 hC (hind (minZ ns a b) hv1) (hSo (minZ ns a b)) hbxs hbxo (up_lo hr hv2 ha m1) (up_hi hr hv2) (up_lo hr hv2 hb m2) (up_hi hr hv2) (by omega)).mono ?_
   rintro e w' ⟨p, q, ns', O', rfl, hC', hM', hx', hp', hq', mp, mq, hc'⟩
   refine ⟨p, q, ns', O', rfl, hC', hM', hx', hp'.1, hq'.1, hp'.2, hq'.2, fun x => ?_, by omega⟩
   rw [dec_without da db x]
   split
   ·exact mq _
   ·exact mp _
 exact main (23 - v).toNat v (by omega)
def IsHits (c : Ctx) (sw sk sd sa : Nat) : Prop := ∃ dm sx ox tx ow ok od oa tw tk td ta, IsBase c 44 .hits sw sk sd sa dm (.func (.func 45) #[] #[.pointer (some ⟨sx, 0, none⟩), .pointer (some ⟨ox, 0, none⟩), .pointer (some ⟨tx, 0, none⟩)]) /\ (sx, .func (.func 62) #[] #[.pointer (some ⟨sw, 0, none⟩), .pointer (some ⟨sk, 0, none⟩), .pointer (some ⟨sd, 0, none⟩), .pointer (some ⟨sa, 0, none⟩)]) ∈ c.boxes /\ (ox, .func (.func 62) #[] #[.pointer (some ⟨ow, 0, none⟩), .pointer (some ⟨ok, 0, none⟩), .pointer (some ⟨od, 0, none⟩), .pointer (some ⟨oa, 0, none⟩)]) ∈ c.boxes /\ (tx, .func (.func 62) #[] #[.pointer (some ⟨tw, 0, none⟩), .pointer (some ⟨tk, 0, none⟩), .pointer (some ⟨td, 0, none⟩), .pointer (some ⟨ta, 0, none⟩)]) ∈ c.boxes /\ IsOr c ow ok od oa /\ IsWithout c tw tk td ta
theorem sub_hits {B : Nat} {c : Ctx} {vars : Nat} {sw sk sd sa : Nat} (hI : IsHits c sw sk sd sa) (v : Int) : SubC B c vars .hits sw sk sd sa v := by
 obtain ⟨dm, sx, ox, tx, ow, ok, od, oa, tw, tk, td, ta, hF, hbxs, hbxo, hbxt, hNo, hNt⟩ := hI
 have hSo : ∀ v, SubC B c vars .or ow ok od oa v := fun v => sub_or hNo v
 have hSt : ∀ v, SubC B c vars .without tw tk td ta v := fun v => sub_without hNt v
 have main : ∀ (d : Nat) (v : Int), 23 <= v + d -> SubC B c vars .hits sw sk sd sa v := by
  intro d
  induction d with
  | zero => exact fun v hv => sub_step hF (fun _ _ => by kernel_rfl) (fun W O ns a b hC ha hb hv1 hv2 => by omega)
  | succ d ih =>
   intro v hv
   have hind : ∀ u, v < u -> SubC B c vars .hits sw sk sd sa u := fun u hu => ih u (by omega)
   refine sub_step hF (fun _ _ => by kernel_rfl) (fun W O ns a b hC ha hb hv1 hv2 hroom => ?_)
   have hr := hC.good.ranked
   have hv0 := (minZ_bd hr a b).1
   obtain ⟨m1, m2⟩ := minZ_le ns a b
   have hsum : cntT vars ns + cost (rr vars (minZ ns a b)) .or + cost (rr vars (minZ ns a b)) .hits + cost (rr vars (minZ ns a b)) .hits + cost (rr vars (minZ ns a b)) .without + (if minZ ns a b + 2 < (vars : Int) then 1 else 0) <= cntT vars ns + cost (rk vars ns a b) .hits := by
    rcases rk_cases vars ns a b with ⟨h1, h2⟩ | ⟨h1, h2, h3⟩
    ·rw [if_pos h1, h2]; simp only [cost]; omega
    ·rw [if_neg h1, h2, h3]; simp only [cost]; omega
   have da := dec_of hr hv0 hv2 ha m1
   refine (at_hits hv2 hC (hind (minZ ns a b) hv1) (hSo (minZ ns a b)) (hSt (minZ ns a b)) hbxs hbxo hbxt (up_lo hr hv2 ha m1) (up_hi hr hv2) (up_lo hr hv2 hb m2) (up_hi hr hv2) (by omega)).mono ?_
   rintro e w' ⟨p, q, ns', O', rfl, hC', hM', hx', hp', hq', mp, mq, hc'⟩
   refine ⟨p, q, ns', O', rfl, hC', hM', hx', hp'.1, hq'.1, hp'.2, hq'.2, fun x => ?_, by omega⟩
   rw [dec_hits da x (In ns b) (In ns 0)]
   split
   ·exact mq _
   ·exact mp _
 exact main (23 - v).toNat v (by omega)
end Go.Proofs.YtkpjipohajplgaaGreatDoor.Fm
