/- What lies at the least thing: less. -/
import Derived.Test.YtbklgjmkdhinpaaGreatDoorFmStep
set_option maxHeartbeats 4000000
set_option maxRecDepth 100000
namespace Go.Proofs.YtbklgjmkdhinpaaGreatDoor.Fm
open Go.RowKit Go.Maps Go.Proofs.YtbklgjmkdhinpaaGreatDoor.Bd
def Up (v : Int) (ns : List Nd) (h : Int) : Prop := hasB ns h = true /\ v < topOf ns h
theorem Up.ext {v : Int} {ns ns' : List Nd} {h : Int} (hu : Up v ns h) (he : Ext ns ns') : Up v ns' h := ⟨he.has _ hu.1, by rw [he.top _ hu.1]; exact hu.2⟩
def rr (vars : Nat) (v : Int) : Nat := ((vars : Int) - 3 - v).toNat
def SubC (B : Nat) (c : Ctx) (vars : Nat) (k : K) (bw bk bd ba : Nat) (v : Int) : Prop :=
 ∀ (w : World) (O : Nat -> Prop) (ns : List Nd) (a b : Int), CtxAt B w c O vars ns -> Up v ns a -> Up v ns b -> (unB k = true -> b = 0) -> cntT vars ns + cost (rr vars v) k + 18 < c.room ->
  Calls Tryz.prog 109 #[.int .i64 a, .int .i64 b, .pointer (some ⟨bw, 0, none⟩), .pointer (some ⟨bk, 0, none⟩), .pointer (some ⟨bd, 0, none⟩), .pointer (some ⟨ba, 0, none⟩)] w fun e w' => ∃ h ns' O', e = .returned (.int .i64 h) /\ CtxAt B w' c O' vars ns' /\ MM c O O' w w' /\ Ext ns ns' /\ Up v ns' h /\ (∀ x, In ns' h x ↔ opP k (In ns a) (In ns b) x) /\ cntT vars ns' <= cntT vars ns + cost (rr vars v) k
structure Fr (c : Ctx) (O : Nat -> Prop) (W : World) (n : Nat) (a0 a1 b0 b1 : Int) : Prop where
 pa : Two W n a0 a1
 pb : Two W (n + 1) b0 b1
 pr : Two W (n + 2) 0 0
 o : ∀ i, n <= i -> i < n + 3 -> ¬ O i /\ ¬ Ms c i
 x : ∀ i, n <= i -> c.s ≠ i /\ c.wk ≠ i /\ ∀ p ∈ c.boxes, p.1 ≠ i
section
variable {c : Ctx} {O O' : Nat -> Prop} {W W' : World} {n : Nat} {a0 a1 b0 b1 : Int}
theorem Two.lt {x y : Int} (h : Two W n x y) : n < W.heap.size := (Array.getElem?_eq_some_iff.1 h).1
theorem Two.kept {x y : Int} {S : Nat -> Prop} (h : Two W n x y) (hk : Kept S W W') (hn : ¬ S n) : Two W' n x y := (hk.block n h.lt hn).trans h
theorem Fr.move (h : Fr c O W n a0 a1 b0 b1) (hm : MM c O O' W W') : Fr c O' W' n a0 a1 b0 b1 := by
 have hn : ∀ i, n <= i -> i < n + 3 -> ¬ (O i \/ Ms c i) := fun i h1 h2 ho => ho.elim (h.o i h1 h2).1 (h.o i h1 h2).2
 have hl := h.pr.lt
 exact ⟨h.pa.kept hm.kept (hn n (by omega) (by omega)), h.pb.kept hm.kept (hn _ (by omega) (by omega)), h.pr.kept hm.kept (hn _ (by omega) (by omega)), fun i h1 h2 => ⟨hm.beside (by omega) (h.o i h1 h2).1, (h.o i h1 h2).2⟩, h.x⟩
theorem Fr.cells (h : Fr c O W n a0 a1 b0 b1) : W.cell? ⟨n, 0, none⟩ = some (.int .i64 a0) /\ W.cell? ⟨n, 1, none⟩ = some (.int .i64 a1) /\ W.cell? ⟨n + 1, 0, none⟩ = some (.int .i64 b0) /\ W.cell? ⟨n + 1, 1, none⟩ = some (.int .i64 b1) :=
 ⟨(two_put h.pa 0 0).1.1, (two_put h.pa 0 0).1.2.2.1, (two_put h.pb 0 0).1.1, (two_put h.pb 0 0).1.2.2.1⟩
theorem Fr.drew (h : Fr c O W n a0 a1 b0 b1) : Fr c O W.drew n a0 a1 b0 b1 := ⟨h.pa, h.pb, h.pr, h.o, h.x⟩
theorem Fr.undrew (h : Fr c O W.drew n a0 a1 b0 b1) : Fr c O W n a0 a1 b0 b1 := ⟨h.pa, h.pb, h.pr, h.o, h.x⟩
theorem Fr.put {B : Nat} {vars : Nat} {ns : List Nd} (h : Fr c O W n a0 a1 b0 b1) (hC : CtxAt B W c O vars ns) (p q : Int) :
  CtxAt B ((W.setCell ⟨n + 1 + 1, 0, none⟩ (.int .i64 p)).setCell ⟨n + 1 + 1, 1, none⟩ (.int .i64 q)) c O vars ns /\ Kept (fun j => j = n + 1 + 1) W ((W.setCell ⟨n + 1 + 1, 0, none⟩ (.int .i64 p)).setCell ⟨n + 1 + 1, 1, none⟩ (.int .i64 q)) /\
  ((W.setCell ⟨n + 1 + 1, 0, none⟩ (.int .i64 p)).setCell ⟨n + 1 + 1, 1, none⟩ (.int .i64 q)).cell? ⟨n, 0, none⟩ = some (.int .i64 a0) /\ ((W.setCell ⟨n + 1 + 1, 0, none⟩ (.int .i64 p)).setCell ⟨n + 1 + 1, 1, none⟩ (.int .i64 q)).cell? ⟨n, 1, none⟩ = some (.int .i64 a1) /\ ((W.setCell ⟨n + 1 + 1, 0, none⟩ (.int .i64 p)).setCell ⟨n + 1 + 1, 1, none⟩ (.int .i64 q)).cell? ⟨n + 1, 0, none⟩ = some (.int .i64 b0) /\ ((W.setCell ⟨n + 1 + 1, 0, none⟩ (.int .i64 p)).setCell ⟨n + 1 + 1, 1, none⟩ (.int .i64 q)).cell? ⟨n + 1, 1, none⟩ = some (.int .i64 b1) := by
 have hk : Kept (fun j => j = n + 1 + 1) W ((W.setCell ⟨n + 1 + 1, 0, none⟩ (.int .i64 p)).setCell ⟨n + 1 + 1, 1, none⟩ (.int .i64 q)) := (Kept.setCell (S := fun j => j = n + 1 + 1) W ⟨n + 1 + 1, 0, none⟩ _ rfl).trans (Kept.setCell (S := fun j => j = n + 1 + 1) _ ⟨n + 1 + 1, 1, none⟩ _ rfl)
 obtain ⟨s1, s2, s3, s4⟩ := h.cells
 have l2 := h.pb.lt
 have l1 := h.pa.lt
 refine ⟨hC.kept hk (fun k ho e => (h.o (n + 1 + 1) (by omega) (by omega)).1 (e ▸ ho)) (h.x _ (by omega)).1 (h.x _ (by omega)).2.1 (fun p hp e => (h.o (n + 1 + 1) (by omega) (by omega)).2 ⟨p, hp, e⟩) (fun p hp e => (h.x (n + 1 + 1) (by omega)).2.2 p hp e), hk, ?_, ?_, ?_, ?_⟩
 ·exact (hk.cell (a := ⟨n, 0, none⟩) l1 (by show ¬ n = n + 1 + 1; omega)).trans s1
 ·exact (hk.cell (a := ⟨n, 1, none⟩) l1 (by show ¬ n = n + 1 + 1; omega)).trans s2
 ·exact (hk.cell (a := ⟨n + 1, 0, none⟩) l2 (by show ¬ n + 1 = n + 1 + 1; omega)).trans s3
 ·exact (hk.cell (a := ⟨n + 1, 1, none⟩) l2 (by show ¬ n + 1 = n + 1 + 1; omega)).trans s4
theorem Fr.start {B : Nat} {w : World} {vars : Nat} {ns : List Nd} (hC : CtxAt B w c O vars ns) (a0 a1 b0 b1 : Int) : Fr c O ((((w.alloc (.cells #[.int .i64 a0, .int .i64 a1] 124)).alloc (.cells #[.int .i64 b0, .int .i64 b1] 124)).alloc (.cells #[.int .i64 0, .int .i64 0] 124)).drew) w.heap.size a0 a1 b0 b1 := by
 have h1 := Two.new w a0 a1
 have h2 := Two.new (w.alloc (.cells #[.int .i64 a0, .int .i64 a1] 124)) b0 b1
 have h3 := Two.new ((w.alloc (.cells #[.int .i64 a0, .int .i64 a1] 124)).alloc (.cells #[.int .i64 b0, .int .i64 b1] 124)) 0 0
 have b2 := below_new (w.alloc (.cells #[.int .i64 a0, .int .i64 a1] 124)) (.cells #[.int .i64 b0, .int .i64 b1] 124)
 have b3 := below_new ((w.alloc (.cells #[.int .i64 a0, .int .i64 a1] 124)).alloc (.cells #[.int .i64 b0, .int .i64 b1] 124)) (.cells #[.int .i64 0, .int .i64 0] 124)
 rw [World.size_alloc] at h2
 rw [World.size_alloc, World.size_alloc] at h3
 exact ⟨(h1.below b2).below b3.drew, h2.below b3.drew, h3, fun i h1 h2 => ⟨fun ho => by have := (hC.space.own _ ho).2; omega, fun ⟨q, hq, e⟩ => by have := (hC.memo q hq).1.lt; omega⟩, fun i hi => ⟨by have := hC.space.slt; omega, by have := hC.wlt; omega, fun p hp => by have := (hC.box p hp).1; omega⟩⟩
end
section
variable {B : Nat} {c : Ctx} {O : Nat -> Prop} {vars : Nat} {ns : List Nd} {w : World} {bw bk bd ba bx : Nat} {v a0 a1 b0 b1 : Int}
theorem at_or (hC : CtxAt B w c O vars ns) (hS : SubC B c vars .or bw bk bd ba v) (hbx : (bx, .func (.func 109) #[] #[.pointer (some ⟨bw, 0, none⟩), .pointer (some ⟨bk, 0, none⟩), .pointer (some ⟨bd, 0, none⟩), .pointer (some ⟨ba, 0, none⟩)]) ∈ c.boxes)
  (ua0 : Up v ns a0) (ua1 : Up v ns a1) (ub0 : Up v ns b0) (ub1 : Up v ns b1) (hroom : cntT vars ns + 2 * cost (rr vars v) .or + 18 < c.room) :
  Calls Tryz.prog 72 #[.agg #[.int .i64 a0, .int .i64 a1], .agg #[.int .i64 b0, .int .i64 b1], .pointer (some ⟨bx, 0, none⟩)] w fun e w' => ∃ p q ns' O', e = .returned (.agg #[.int .i64 p, .int .i64 q]) /\ CtxAt B w' c O' vars ns' /\ MM c O O' w w' /\ Ext ns ns' /\ Up v ns' p /\ Up v ns' q /\ (∀ x, In ns' p x ↔ opP .or (In ns a0) (In ns b0) x) /\ (∀ x, In ns' q x ↔ opP .or (In ns a1) (In ns b1) x) /\ cntT vars ns' <= cntT vars ns + 2 * cost (rr vars v) .or := by
 have hb3 : Below w.heap.size w ((((w.alloc (.cells #[.int .i64 a0, .int .i64 a1] 124)).alloc (.cells #[.int .i64 b0, .int .i64 b1] 124)).alloc (.cells #[.int .i64 0, .int .i64 0] 124)).drew) := (((below_new w _).alloc (below_new w _).size _).alloc ((below_new w _).alloc (below_new w _).size _).size _).drew
 have hf3 := Fr.start hC a0 a1 b0 b1
 have hC3 := hC.new hb3
 have hr := hC.good.ranked
 obtain ⟨s1, s2, s3, s4⟩ := hf3.cells
 have s0 := (hC3.box _ hbx).2.1
 have HBX := Lib.hid hbx
 unfold SubC at hS
 have HS := Lib.hid hS
 have hr1 : cntT vars ns + cost (rr vars v) .or + 18 < c.room := by omega
 have HR1 := Lib.hid hr1
 clear hr1
 have HR2 : Hid (∀ n5, n5 <= cntT vars ns + cost (rr vars v) .or -> n5 + cost (rr vars v) .or + 18 < c.room) := fun n5 h => by omega
 have HUN : Hid (∀ z : Int, unB .or = true -> z = 0) := fun z h => by cases h
 have HC3 := Lib.hid hC3
 have HF3 := Lib.hid hf3
 have HB3 := Lib.hid hb3
 have H0 : Hid (Up v ns a0 /\ Up v ns a1 /\ Up v ns b0 /\ Up v ns b1) := ⟨ua0, ua1, ub0, ub1⟩
 clear hC hS hbx ua0 ua1 ub0 ub1 hC3 hf3 hb3
 go_enter Tryz.func72, Tryz.ntmps72
 go_wp2_with fail
 generalize (((w.alloc (.cells #[.int .i64 a0, .int .i64 a1] 124)).alloc (.cells #[.int .i64 b0, .int .i64 b1] 124)).alloc (.cells #[.int .i64 0, .int .i64 0] 124)) = W3 at *
 go_region_held3 (fun w' => w'.cell? ⟨bx, 0, none⟩ = some (.func (.func 109) #[] #[.pointer (some ⟨bw, 0, none⟩), .pointer (some ⟨bk, 0, none⟩), .pointer (some ⟨bd, 0, none⟩), .pointer (some ⟨ba, 0, none⟩)]) /\ w'.cell? ⟨w.heap.size, 0, none⟩ = some (.int .i64 a0) /\ w'.cell? ⟨w.heap.size, 1, none⟩ = some (.int .i64 a1) /\ w'.cell? ⟨w.heap.size + 1, 0, none⟩ = some (.int .i64 b0) /\ w'.cell? ⟨w.heap.size + 1, 1, none⟩ = some (.int .i64 b1))
  (first | exact ⟨s0, s1, s2, s3, s4⟩ | exact ⟨(hC5.box _ HBX.out).2.1, hf5.cells⟩ | exact ⟨(hC6.box _ HBX.out).2.1, hf6.cells⟩ | exact ⟨(hpt.1.box _ HBX.out).2.1, hpt.2.2⟩)
  (first | (with_reducible refine (HS.out _ _ _ _ _ HC3.out H0.out.1 H0.out.2.2.1 (HUN.out _) HR1.out).mono ?_; rintro e w5 ⟨p, ns5, O5, rfl, hC5, hM5, hx5, hu5, hm5, hc5⟩; have hf5 := HF3.out.move hM5) | (with_reducible refine (HS.out _ _ _ _ _ hC5 (H0.out.2.1.ext hx5) (H0.out.2.2.2.ext hx5) (HUN.out _) (HR2.out _ hc5)).mono ?_; rintro e w6 ⟨q, ns6, O6, rfl, hC6, hM6, hx6, hu6, hm6, hc6⟩; have hf6 := hf5.move hM6; obtain ⟨⟨r0, r1, r2, r3⟩, ⟨r4, r5⟩, r6, r7⟩ := two_put hf6.pr p q; have hpt := hf6.put hC6 p q))
 have hM : MM c O O6 w ((w6.setCell ⟨w.heap.size + 1 + 1, 0, none⟩ (.int .i64 p)).setCell ⟨w.heap.size + 1 + 1, 1, none⟩ (.int .i64 q)) := by
  have h1 := ((MM.of_below HB3.out).trans hM5).trans hM6
  exact ⟨h1.kept.andThen hpt.2.1 (fun i hi hlt => by omega), h1.own⟩
 have HOUT : Hid (∃ p' q' ns' O', (Ending.returned (.agg #[.int .i64 p, .int .i64 q])) = .returned (.agg #[.int .i64 p', .int .i64 q']) /\ CtxAt B ((w6.setCell ⟨w.heap.size + 1 + 1, 0, none⟩ (.int .i64 p)).setCell ⟨w.heap.size + 1 + 1, 1, none⟩ (.int .i64 q)) c O' vars ns' /\ MM c O O' w ((w6.setCell ⟨w.heap.size + 1 + 1, 0, none⟩ (.int .i64 p)).setCell ⟨w.heap.size + 1 + 1, 1, none⟩ (.int .i64 q)) /\ Ext ns ns' /\ Up v ns' p' /\ Up v ns' q' /\ (∀ x, In ns' p' x ↔ opP .or (In ns a0) (In ns b0) x) /\ (∀ x, In ns' q' x ↔ opP .or (In ns a1) (In ns b1) x) /\ cntT vars ns' <= cntT vars ns + 2 * cost (rr vars v) .or) :=
  ⟨p, q, ns6, O6, rfl, hpt.1, hM, hx5.trans hx6, hu5.ext hx6, hu6, fun x => (in_ext hC5.good.ranked hx6 hu5.1 x).trans (hm5 x), fun x => (hm6 x).trans (opP_congr .or (fun y => in_ext hr hx5 H0.out.2.1.1 y) (fun y => in_ext hr hx5 H0.out.2.2.2.1 y) x), by omega⟩
 have R6 := Lib.hid r6
 have R7 := Lib.hid r7
 clear hC5 hM5 hx5 hu5 hm5 hc5 hC6 hM6 hx6 hu6 hm6 hc6 hf5 hf6 hpt hM r6 r7
 go_wp2
 exact bodyPost_ret (v := .agg #[.int .i64 p, .int .i64 q]) (by simp [results, Tryz.results72, go_sem, R6.out, R7.out]) rfl HOUT.out
end
end Go.Proofs.YtbklgjmkdhinpaaGreatDoor.Fm
namespace Go.Proofs.YtbklgjmkdhinpaaGreatDoor.Fm
open Go.RowKit Go.Maps Go.Proofs.YtbklgjmkdhinpaaGreatDoor.Bd
section
variable {B : Nat} {c : Ctx} {O : Nat -> Prop} {vars : Nat} {ns : List Nd} {w : World} {v a0 a1 b0 b1 : Int}
theorem at_and {sw sk sd sa sx : Nat} (hv : v < 24) (hC : CtxAt B w c O vars ns) (hSs : SubC B c vars .and sw sk sd sa v) (hbxs : (sx, .func (.func 109) #[] #[.pointer (some ⟨sw, 0, none⟩), .pointer (some ⟨sk, 0, none⟩), .pointer (some ⟨sd, 0, none⟩), .pointer (some ⟨sa, 0, none⟩)]) ∈ c.boxes)
  (ua0 : Up v ns a0) (ua1 : Up v ns a1) (ub0 : Up v ns b0) (ub1 : Up v ns b1) (hroom : cntT vars ns + cost (rr vars v) .and + cost (rr vars v) .and + 18 < c.room) :
  Calls Tryz.prog 74 #[.agg #[.int .i64 a0, .int .i64 a1], .agg #[.int .i64 b0, .int .i64 b1], .pointer (some ⟨sx, 0, none⟩)] w fun e w' => ∃ p q ns' O', e = .returned (.agg #[.int .i64 p, .int .i64 q]) /\ CtxAt B w' c O' vars ns' /\ MM c O O' w w' /\ Ext ns ns' /\ Up v ns' p /\ Up v ns' q /\ (∀ x, In ns' p x ↔ (opP .and (In ns a0) (In ns b0)) x) /\ (∀ x, In ns' q x ↔ (opP .and (In ns a1) (In ns b1)) x) /\ cntT vars ns' <= cntT vars ns + cost (rr vars v) .and + cost (rr vars v) .and := by
 have hb3 : Below w.heap.size w ((((w.alloc (.cells #[.int .i64 a0, .int .i64 a1] 124)).alloc (.cells #[.int .i64 b0, .int .i64 b1] 124)).alloc (.cells #[.int .i64 0, .int .i64 0] 124)).drew) := (((below_new w _).alloc (below_new w _).size _).alloc ((below_new w _).alloc (below_new w _).size _).size _).drew
 have hf3 := Fr.start hC a0 a1 b0 b1
 have hC3 := hC.new hb3
 have hr := hC.good.ranked
 obtain ⟨s1, s2, s3, s4⟩ := hf3.cells
 have s0s := (hC3.box _ hbxs).2.1
 have HBXs := Lib.hid hbxs
 unfold SubC at hSs
 have HSs := Lib.hid hSs
 have HUNs : Hid (∀ z : Int, unB .and = true -> z = 0) := fun z h => by cases h
 have HR1 : Hid (∀ n, n <= cntT vars ns -> n + cost (rr vars v) .and + 18 < c.room) := fun n h => by omega
 have HR2 : Hid (∀ n, n <= cntT vars ns + cost (rr vars v) .and -> n + cost (rr vars v) .and + 18 < c.room) := fun n h => by omega
 have HC3 := Lib.hid hC3
 have HF3 := Lib.hid hf3
 have HB3 := Lib.hid hb3
 have uz : Up v ns 0 := ⟨end_has0 ns, by rw [end_top0]; exact hv⟩
 have H0 : Hid (Up v ns a0 /\ Up v ns a1 /\ Up v ns b0 /\ Up v ns b1 /\ Up v ns 0) := ⟨ua0, ua1, ub0, ub1, uz⟩
 clear hC hSs hbxs ua0 ua1 ub0 ub1 uz hC3 hf3 hb3
 go_enter Tryz.func74, Tryz.ntmps74
 go_wp2_with fail
 generalize (((w.alloc (.cells #[.int .i64 a0, .int .i64 a1] 124)).alloc (.cells #[.int .i64 b0, .int .i64 b1] 124)).alloc (.cells #[.int .i64 0, .int .i64 0] 124)) = W3 at *
 go_region_held3 (fun w' => w'.cell? ⟨sx, 0, none⟩ = some (.func (.func 109) #[] #[.pointer (some ⟨sw, 0, none⟩), .pointer (some ⟨sk, 0, none⟩), .pointer (some ⟨sd, 0, none⟩), .pointer (some ⟨sa, 0, none⟩)]) /\ w'.cell? ⟨w.heap.size, 0, none⟩ = some (.int .i64 a0) /\ w'.cell? ⟨w.heap.size, 1, none⟩ = some (.int .i64 a1) /\ w'.cell? ⟨w.heap.size + 1, 0, none⟩ = some (.int .i64 b0) /\ w'.cell? ⟨w.heap.size + 1, 1, none⟩ = some (.int .i64 b1))
  (first | exact ⟨s0s, s1, s2, s3, s4⟩ | exact ⟨(hC1.box _ HBXs.out).2.1, hf1.cells⟩ | exact ⟨(hC2.box _ HBXs.out).2.1, hf2.cells⟩ | exact ⟨(hpt.1.box _ HBXs.out).2.1, hpt.2.2⟩)
  (first | (with_reducible refine (HSs.out _ _ _ _ _ HC3.out H0.out.1 H0.out.2.2.1 (HUNs.out _) (HR1.out _ (Nat.le_refl _))).mono ?_; rintro e w1 ⟨h1, ns1, O1, rfl, hC1, hM1, hx1, hu1, hm1, hc1⟩; have hf1 := HF3.out.move hM1; have hX1 := hx1; have hcc1 := hc1) | (with_reducible refine (HSs.out _ _ _ _ _ hC1 (H0.out.2.1.ext hX1) (H0.out.2.2.2.1.ext hX1) (HUNs.out _) (HR2.out _ hcc1)).mono ?_; rintro e w2 ⟨h2, ns2, O2, rfl, hC2, hM2, hx2, hu2, hm2, hc2⟩; have hf2 := hf1.move hM2; have hX2 := hX1.trans hx2; have hcc2 := Nat.le_trans hc2 (Nat.add_le_add_right hcc1 _); obtain ⟨⟨r0, r1, r2, r3⟩, ⟨r4, r5⟩, r6, r7⟩ := two_put hf2.pr h1 h2; have hpt := hf2.put hC2 h1 h2))
 have hM : MM c O O2 w ((w2.setCell ⟨w.heap.size + 1 + 1, 0, none⟩ (.int .i64 h1)).setCell ⟨w.heap.size + 1 + 1, 1, none⟩ (.int .i64 h2)) := by
  have h1 := (((MM.of_below HB3.out).trans hM1).trans hM2)
  exact ⟨h1.kept.andThen hpt.2.1 (fun i hi hlt => by omega), h1.own⟩
 have sem1 : ∀ x, In ns1 h1 x ↔ (opP .and (In ns a0) (In ns b0)) x := fun x => (hm1 x).trans (opP_congr .and (fun y => Iff.rfl) (fun y => Iff.rfl) x)
 have sem2 : ∀ x, In ns2 h2 x ↔ (opP .and (In ns a1) (In ns b1)) x := fun x => (hm2 x).trans (opP_congr .and (fun y => in_ext hr hX1 H0.out.2.1.1 y) (fun y => in_ext hr hX1 H0.out.2.2.2.1.1 y) x)
 have HOUT : Hid (∃ p q ns' O', (Ending.returned (.agg #[.int .i64 h1, .int .i64 h2])) = .returned (.agg #[.int .i64 p, .int .i64 q]) /\ CtxAt B ((w2.setCell ⟨w.heap.size + 1 + 1, 0, none⟩ (.int .i64 h1)).setCell ⟨w.heap.size + 1 + 1, 1, none⟩ (.int .i64 h2)) c O' vars ns' /\ MM c O O' w ((w2.setCell ⟨w.heap.size + 1 + 1, 0, none⟩ (.int .i64 h1)).setCell ⟨w.heap.size + 1 + 1, 1, none⟩ (.int .i64 h2)) /\ Ext ns ns' /\ Up v ns' p /\ Up v ns' q /\ (∀ x, In ns' p x ↔ (opP .and (In ns a0) (In ns b0)) x) /\ (∀ x, In ns' q x ↔ (opP .and (In ns a1) (In ns b1)) x) /\ cntT vars ns' <= cntT vars ns + cost (rr vars v) .and + cost (rr vars v) .and) :=
  ⟨h1, h2, ns2, O2, rfl, hpt.1, hM, hX2, (hu1.ext hx2), hu2, (fun x => (in_ext hC1.good.ranked hx2 hu1.1 x).trans (sem1 x)), sem2, hcc2⟩
 have R6 := Lib.hid r6
 have R7 := Lib.hid r7
 clear hpt hM hC2 hM2 hx2 hu2 hm2 hc2 hf2 hX2 hcc2 sem2 hC1 hM1 hx1 hu1 hm1 hc1 hf1 hX1 hcc1 sem1 r6 r7
 go_wp2
 exact bodyPost_ret (v := .agg #[.int .i64 h1, .int .i64 h2]) (by simp [results, Tryz.results74, go_sem, R6.out, R7.out]) rfl HOUT.out
end
end Go.Proofs.YtbklgjmkdhinpaaGreatDoor.Fm
namespace Go.Proofs.YtbklgjmkdhinpaaGreatDoor.Fm
open Go.RowKit Go.Maps Go.Proofs.YtbklgjmkdhinpaaGreatDoor.Bd
section
variable {B : Nat} {c : Ctx} {O : Nat -> Prop} {vars : Nat} {ns : List Nd} {w : World} {v a0 a1 b0 b1 : Int}
theorem at_less {sw sk sd sa sx : Nat} (hv : v < 24) (hC : CtxAt B w c O vars ns) (hSs : SubC B c vars .less sw sk sd sa v) (hbxs : (sx, .func (.func 109) #[] #[.pointer (some ⟨sw, 0, none⟩), .pointer (some ⟨sk, 0, none⟩), .pointer (some ⟨sd, 0, none⟩), .pointer (some ⟨sa, 0, none⟩)]) ∈ c.boxes)
  (ua0 : Up v ns a0) (ua1 : Up v ns a1) (ub0 : Up v ns b0) (ub1 : Up v ns b1) (hroom : cntT vars ns + cost (rr vars v) .less + cost (rr vars v) .less + 18 < c.room) :
  Calls Tryz.prog 76 #[.agg #[.int .i64 a0, .int .i64 a1], .agg #[.int .i64 b0, .int .i64 b1], .pointer (some ⟨sx, 0, none⟩)] w fun e w' => ∃ p q ns' O', e = .returned (.agg #[.int .i64 p, .int .i64 q]) /\ CtxAt B w' c O' vars ns' /\ MM c O O' w w' /\ Ext ns ns' /\ Up v ns' p /\ Up v ns' q /\ (∀ x, In ns' p x ↔ (opP .less (In ns a0) (In ns b0)) x) /\ (∀ x, In ns' q x ↔ (opP .less (In ns a1) (In ns b1)) x) /\ cntT vars ns' <= cntT vars ns + cost (rr vars v) .less + cost (rr vars v) .less := by
 have hb3 : Below w.heap.size w ((((w.alloc (.cells #[.int .i64 a0, .int .i64 a1] 124)).alloc (.cells #[.int .i64 b0, .int .i64 b1] 124)).alloc (.cells #[.int .i64 0, .int .i64 0] 124)).drew) := (((below_new w _).alloc (below_new w _).size _).alloc ((below_new w _).alloc (below_new w _).size _).size _).drew
 have hf3 := Fr.start hC a0 a1 b0 b1
 have hC3 := hC.new hb3
 have hr := hC.good.ranked
 obtain ⟨s1, s2, s3, s4⟩ := hf3.cells
 have s0s := (hC3.box _ hbxs).2.1
 have HBXs := Lib.hid hbxs
 unfold SubC at hSs
 have HSs := Lib.hid hSs
 have HUNs : Hid (∀ z : Int, unB .less = true -> z = 0) := fun z h => by cases h
 have HR1 : Hid (∀ n, n <= cntT vars ns -> n + cost (rr vars v) .less + 18 < c.room) := fun n h => by omega
 have HR2 : Hid (∀ n, n <= cntT vars ns + cost (rr vars v) .less -> n + cost (rr vars v) .less + 18 < c.room) := fun n h => by omega
 have HC3 := Lib.hid hC3
 have HF3 := Lib.hid hf3
 have HB3 := Lib.hid hb3
 have uz : Up v ns 0 := ⟨end_has0 ns, by rw [end_top0]; exact hv⟩
 have H0 : Hid (Up v ns a0 /\ Up v ns a1 /\ Up v ns b0 /\ Up v ns b1 /\ Up v ns 0) := ⟨ua0, ua1, ub0, ub1, uz⟩
 clear hC hSs hbxs ua0 ua1 ub0 ub1 uz hC3 hf3 hb3
 go_enter Tryz.func76, Tryz.ntmps76
 go_wp2_with fail
 generalize (((w.alloc (.cells #[.int .i64 a0, .int .i64 a1] 124)).alloc (.cells #[.int .i64 b0, .int .i64 b1] 124)).alloc (.cells #[.int .i64 0, .int .i64 0] 124)) = W3 at *
 go_region_held3 (fun w' => w'.cell? ⟨sx, 0, none⟩ = some (.func (.func 109) #[] #[.pointer (some ⟨sw, 0, none⟩), .pointer (some ⟨sk, 0, none⟩), .pointer (some ⟨sd, 0, none⟩), .pointer (some ⟨sa, 0, none⟩)]) /\ w'.cell? ⟨w.heap.size, 0, none⟩ = some (.int .i64 a0) /\ w'.cell? ⟨w.heap.size, 1, none⟩ = some (.int .i64 a1) /\ w'.cell? ⟨w.heap.size + 1, 0, none⟩ = some (.int .i64 b0) /\ w'.cell? ⟨w.heap.size + 1, 1, none⟩ = some (.int .i64 b1))
  (first | exact ⟨s0s, s1, s2, s3, s4⟩ | exact ⟨(hC1.box _ HBXs.out).2.1, hf1.cells⟩ | exact ⟨(hC2.box _ HBXs.out).2.1, hf2.cells⟩ | exact ⟨(hpt.1.box _ HBXs.out).2.1, hpt.2.2⟩)
  (first | (with_reducible refine (HSs.out _ _ _ _ _ HC3.out H0.out.1 H0.out.2.2.1 (HUNs.out _) (HR1.out _ (Nat.le_refl _))).mono ?_; rintro e w1 ⟨h1, ns1, O1, rfl, hC1, hM1, hx1, hu1, hm1, hc1⟩; have hf1 := HF3.out.move hM1; have hX1 := hx1; have hcc1 := hc1) | (with_reducible refine (HSs.out _ _ _ _ _ hC1 (H0.out.2.1.ext hX1) (H0.out.2.2.2.1.ext hX1) (HUNs.out _) (HR2.out _ hcc1)).mono ?_; rintro e w2 ⟨h2, ns2, O2, rfl, hC2, hM2, hx2, hu2, hm2, hc2⟩; have hf2 := hf1.move hM2; have hX2 := hX1.trans hx2; have hcc2 := Nat.le_trans hc2 (Nat.add_le_add_right hcc1 _); obtain ⟨⟨r0, r1, r2, r3⟩, ⟨r4, r5⟩, r6, r7⟩ := two_put hf2.pr h1 h2; have hpt := hf2.put hC2 h1 h2))
 have hM : MM c O O2 w ((w2.setCell ⟨w.heap.size + 1 + 1, 0, none⟩ (.int .i64 h1)).setCell ⟨w.heap.size + 1 + 1, 1, none⟩ (.int .i64 h2)) := by
  have h1 := (((MM.of_below HB3.out).trans hM1).trans hM2)
  exact ⟨h1.kept.andThen hpt.2.1 (fun i hi hlt => by omega), h1.own⟩
 have sem1 : ∀ x, In ns1 h1 x ↔ (opP .less (In ns a0) (In ns b0)) x := fun x => (hm1 x).trans (opP_congr .less (fun y => Iff.rfl) (fun y => Iff.rfl) x)
 have sem2 : ∀ x, In ns2 h2 x ↔ (opP .less (In ns a1) (In ns b1)) x := fun x => (hm2 x).trans (opP_congr .less (fun y => in_ext hr hX1 H0.out.2.1.1 y) (fun y => in_ext hr hX1 H0.out.2.2.2.1.1 y) x)
 have HOUT : Hid (∃ p q ns' O', (Ending.returned (.agg #[.int .i64 h1, .int .i64 h2])) = .returned (.agg #[.int .i64 p, .int .i64 q]) /\ CtxAt B ((w2.setCell ⟨w.heap.size + 1 + 1, 0, none⟩ (.int .i64 h1)).setCell ⟨w.heap.size + 1 + 1, 1, none⟩ (.int .i64 h2)) c O' vars ns' /\ MM c O O' w ((w2.setCell ⟨w.heap.size + 1 + 1, 0, none⟩ (.int .i64 h1)).setCell ⟨w.heap.size + 1 + 1, 1, none⟩ (.int .i64 h2)) /\ Ext ns ns' /\ Up v ns' p /\ Up v ns' q /\ (∀ x, In ns' p x ↔ (opP .less (In ns a0) (In ns b0)) x) /\ (∀ x, In ns' q x ↔ (opP .less (In ns a1) (In ns b1)) x) /\ cntT vars ns' <= cntT vars ns + cost (rr vars v) .less + cost (rr vars v) .less) :=
  ⟨h1, h2, ns2, O2, rfl, hpt.1, hM, hX2, (hu1.ext hx2), hu2, (fun x => (in_ext hC1.good.ranked hx2 hu1.1 x).trans (sem1 x)), sem2, hcc2⟩
 have R6 := Lib.hid r6
 have R7 := Lib.hid r7
 clear hpt hM hC2 hM2 hx2 hu2 hm2 hc2 hf2 hX2 hcc2 sem2 hC1 hM1 hx1 hu1 hm1 hc1 hf1 hX1 hcc1 sem1 r6 r7
 go_wp2
 exact bodyPost_ret (v := .agg #[.int .i64 h1, .int .i64 h2]) (by simp [results, Tryz.results76, go_sem, R6.out, R7.out]) rfl HOUT.out
end
end Go.Proofs.YtbklgjmkdhinpaaGreatDoor.Fm
