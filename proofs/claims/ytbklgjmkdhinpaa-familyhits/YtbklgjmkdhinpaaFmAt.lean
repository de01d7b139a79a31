/- What lies at the least thing: calls of operations on what lies below. -/
import Derived.Test.YtbklgjmkdhinpaaFmWalk
set_option maxHeartbeats 4000000
set_option maxRecDepth 100000
namespace Go.Proofs.Ytbklgjmkdhinpaa.Fm
open Go.RowKit Go.Maps Go.Proofs.Ytbklgjmkdhinpaa.Bd
section
variable {B : Nat} {c : Ctx} {O : Nat -> Prop} {vars : Nat} {ns : List Nd} {w : World} {k : K} {F FA : FuncId} {bw bk bd ba dm : Nat} {capsA : Array Value} {a b : Int}
theorem walk_step (hC : CtxAt B w c O vars ns) (hF : IsBase c F k bw bk bd ba dm (.func (.func FA) #[] capsA)) (ha : hasB ns a = true) (hb : hasB ns b = true) (hk : knownZ k a b = none) {m : List ((Int × Int) × Int)} {D : DataW Unit} (hD : w.ownsMap Try.prog 115 (plainElem Try.prog 3) dm m.length D) (hRp : Rep PrOk prLit (fun x : Int => .lit (.int .i64 x)) D m) (hx : (a, b) ∉ m.map Prod.fst)
  (hroom : cntT vars ns + cost (rk vars ns a b) k + 18 < c.room)
  (hentA : ∀ (args : Array Value) (w : World), (callFunc FA args).run Try.prog w = .ok (.enter FA args) w)
  (hat : ∀ W, Below w.heap.size w W -> Calls Try.prog FA (#[.agg #[.int .i64 (loZ ns a (minZ ns a b)), .int .i64 (hiZ ns a (minZ ns a b))], .agg #[.int .i64 (loZ ns b (minZ ns a b)), .int .i64 (hiZ ns b (minZ ns a b))]] ++ capsA) W fun e w' => ∃ p q ns' O', e = .returned (.agg #[.int .i64 p, .int .i64 q]) /\ CtxAt B w' c O' vars ns' /\ MM c O O' W w' /\ AtRes vars k ns a b ns' p q) :
  Calls Try.prog 85 #[.int .i64 a, .int .i64 b, .pointer (some ⟨bw, 0, none⟩), .pointer (some ⟨bk, 0, none⟩), .pointer (some ⟨bd, 0, none⟩), .pointer (some ⟨ba, 0, none⟩)] w (OpOut B c O vars k ns a b w) := by
 have cw := (hC.box _ hF.iw).2.1
 have ck := (hC.box _ hF.ik).2.1
 have cd := (hC.box _ hF.id).2.1
 have ca := (hC.box _ hF.ia).2.1
 have w1 := hC.w1
 have hl := hC.len
 have hr := hC.good.ranked
 have hv := known_none (k := k) hr ha hb hk
 have hia := has_i64 ha (by omega)
 have hib := has_i64 hb (by omega)
 have HK : Hid (∀ W, Calls Try.prog F #[.int .i64 a, .int .i64 b] W fun e w' => e = .returned (.tuple #[.int .i64 (knX k a b), .bool false]) /\ W = w') := fun W => by
  have := hF.knows a b W
  rw [(knX_none hk).2] at this; exact this
 have hent := hF.enters
 have hb1 := below_new w (.cells #[.int .i64 a, .int .i64 b] 115)
 have hbx : ∀ {W : World} {j : Nat} {v : Value}, Below w.heap.size w W -> (j, v) ∈ c.boxes -> W.cell? ⟨j, 0, none⟩ = some v := fun hW hj => (hW.cell (p := ⟨_, 0, none⟩) (hC.box _ hj).1).trans (hC.box _ hj).2.1
 have hrun := plook_none (ownsMap_kept hD (Kept.of_below hb1 (fun _ => False)) (fun h => h)) hRp (a := a) (b := b) ⟨hia, hib⟩ hx
 have cd1 := hbx hb1 hF.id
 clear hD hRp hx
 have kx : ∃ x, knX k a b = x := ⟨_, rfl⟩
 obtain ⟨kx, ekx⟩ := kx
 rw [ekx] at HK
 clear ekx
 have e1 : ∀ W : World, Below w.heap.size w W -> W.cell? ⟨bw, 0, none⟩ = some (.pointer (some ⟨c.wk, 0, none⟩)) /\ W.cell? ⟨c.wk, 0, none⟩ = some (.pointer (some ⟨c.s, 0, none⟩)) /\ W.cell? ⟨c.s, 0, none⟩ = some (.pointer (some ⟨c.b, 0, none⟩)) /\ W.cell? ⟨ba, 0, none⟩ = some (.func (.func FA) #[] capsA) := fun W hW => ⟨hbx hW hF.iw, (hC.new hW).w0, (hC.new hW).space.c0, hbx hW hF.ia⟩
 have HTa : Hid (∀ W, Below w.heap.size w W -> Calls Try.prog 79 #[.pointer (some ⟨c.b, 0, none⟩), .int .i64 a] W fun e w' => e = .returned (.int .i64 (topOf ns a)) /\ W = w') := fun W hW => spTop (hC.new hW).space a hia (by omega)
 have HTb : Hid (∀ W, Below w.heap.size w W -> Calls Try.prog 79 #[.pointer (some ⟨c.b, 0, none⟩), .int .i64 b] W fun e w' => e = .returned (.int .i64 (topOf ns b)) /\ W = w') := fun W hW => spTop (hC.new hW).space b hib (by omega)
 have HPa : Hid (∀ W, Below w.heap.size w W -> Calls Try.prog 87 #[.pointer (some ⟨c.wk, 0, none⟩), .int .i64 a, .int .i64 (minZ ns a b)] W fun e w' => e = .returned (.agg #[.int .i64 (loZ ns a (minZ ns a b)), .int .i64 (hiZ ns a (minZ ns a b))]) /\ Below W.heap.size W w') := fun W hW => parts_any (hC.new hW).space (hC.new hW).w0 (by omega) a _ hia hv
 have HPb : Hid (∀ W, Below w.heap.size w W -> Calls Try.prog 87 #[.pointer (some ⟨c.wk, 0, none⟩), .int .i64 b, .int .i64 (minZ ns a b)] W fun e w' => e = .returned (.agg #[.int .i64 (loZ ns b (minZ ns a b)), .int .i64 (hiZ ns b (minZ ns a b))]) /\ Below W.heap.size W w') := fun W hW => parts_any (hC.new hW).space (hC.new hW).w0 (by omega) b _ hib hv
 have HAT := Lib.hid hat
 have HC := Lib.hid hC
 have HF := Lib.hid hF
 have HE1 := Lib.hid e1
 have hmin : min (topOf ns a) (topOf ns b) = minZ ns a b := rfl
 clear hC hF hat hbx e1
 have HB1 := Lib.hid hb1
 have E0 := HE1.out _ hb1.drew
 obtain ⟨p0, p1, -⟩ : (w.alloc (.cells #[.int .i64 a, .int .i64 b] 115)).cell? ⟨w.heap.size, 0, none⟩ = some (.int .i64 a) /\ (w.alloc (.cells #[.int .i64 a, .int .i64 b] 115)).cell? ⟨w.heap.size, 1, none⟩ = some (.int .i64 b) /\ True := by simp
 go_enter Try.func85, Try.ntmps85
 go_wp2_with fail
 refine (HK.out _).mono ?_
 rintro e w2 ⟨rfl, rfl⟩
 clear HK hent cw ck ca cd w1
 go_wp2_with fail
 generalize (w.alloc (.cells #[.int .i64 a, .int .i64 b] 115)) = W1 at *
 obtain ⟨t0, t1, t2, t3⟩ := E0
 go_region_held3 (fun w' => w'.cell? ⟨bw, 0, none⟩ = some (.pointer (some ⟨c.wk, 0, none⟩)) /\ w'.cell? ⟨c.wk, 0, none⟩ = some (.pointer (some ⟨c.s, 0, none⟩)) /\ w'.cell? ⟨c.s, 0, none⟩ = some (.pointer (some ⟨c.b, 0, none⟩))) (exact ⟨t0, t1, t2⟩)
  (first | (with_reducible refine (HTa.out _ HB1.out.drew).mono ?_; rintro e w2 ⟨rfl, rfl⟩) | (with_reducible refine (HTb.out _ HB1.out.drew).mono ?_; rintro e w2 ⟨rfl, rfl⟩))
 have HND : Hid (∀ (w4 : World) (O4 : Nat -> Prop) (ns4 : List Nd) (p q : Int), CtxAt B w4 c O4 vars ns4 -> AtRes vars k ns a b ns4 p q -> Calls Try.prog 86 #[.pointer (some ⟨c.wk, 0, none⟩), .int .i64 (minZ ns a b), .agg #[.int .i64 p, .int .i64 q]] w4 fun e w' => ∃ h ns5 O5, e = .returned (.int .i64 h) /\ CtxAt B w' c O5 vars ns5 /\ MM c O4 O5 w4 w' /\ Res vars k ns a b ns5 h) := fun w4 O4 ns4 p q h4 hA => node_step HC.out.good h4 hA hv hroom
 have bx1 := HC.out.box _ HF.out.iw
 have bx2 := HC.out.box _ HF.out.ia
 have bx3 := HC.out.box _ HF.out.id
 have nm : ∀ {j : Nat} {v : Value}, (j, v) ∈ c.boxes -> ¬ Ms c j := fun hj ⟨q, hq, e⟩ => (HC.out.box _ hj).2.2.2 q hq e
 have n1 := nm HF.out.iw
 have n2 := nm HF.out.ia
 have n3 := nm HF.out.id
 have np : ¬ Ms c w.heap.size := fun ⟨q, hq, e⟩ => by have := (HC.out.memo q hq).1.lt; omega
 have op : ¬ O w.heap.size := fun ho => by have := (HC.out.space.own _ ho).2; omega
 clear nm t0 t1 t2 t3 HTa HTb
 go_wp2_with fail
 have hd2 : Below w.heap.size w W1.drew.drew := HB1.out.drew.drew
 obtain ⟨t0, t1, t2, t3⟩ := HE1.out _ hd2
 go_region_held3 (fun w' => w'.cell? ⟨bw, 0, none⟩ = some (.pointer (some ⟨c.wk, 0, none⟩)) /\ w'.cell? ⟨ba, 0, none⟩ = some (.func (.func FA) #[] capsA))
  (first | exact ⟨t0, t3⟩ | exact ⟨(HE1.out _ hb3).1, (HE1.out _ hb3).2.2.2⟩ | exact ⟨(HE1.out _ hb4).1, (HE1.out _ hb4).2.2.2⟩ | exact ⟨(hC5.box _ HF.out.iw).2.1, (hC5.box _ HF.out.ia).2.1⟩ | exact ⟨(hC6.box _ HF.out.iw).2.1, (hC6.box _ HF.out.ia).2.1⟩)
  (first | (with_reducible refine (HPa.out _ hd2).mono ?_; rintro e w3 ⟨rfl, hb3'⟩; have hb3 := hd2.trans (hb3'.mono hd2.size)) | (with_reducible refine (HPb.out _ hb3).mono ?_; rintro e w4 ⟨rfl, hb4'⟩; have hb4 := hb3.trans (hb4'.mono hb3.size)) | (with_reducible refine (HAT.out _ hb4).mono ?_; rintro e w5 ⟨p, q, ns5, O5, rfl, hC5, hM5, hA5⟩) | (with_reducible refine (HND.out _ _ _ _ _ hC5 hA5).mono ?_; rintro e w6 ⟨h, ns6, O6, rfl, hC6, hM6, hR6⟩))
 have hMM : MM c O O6 w w6 := ((MM.of_below hb4).trans hM5).trans hM6
 have pl4 : w.heap.size < w4.heap.size := Nat.lt_of_lt_of_le (cells_at p0).lt (Nat.le_trans hb3'.size hb4'.size)
 have hp4 : ∀ i, w4.cell? ⟨w.heap.size, i, none⟩ = W1.cell? ⟨w.heap.size, i, none⟩ := fun i => by
  have l1 : w.heap.size < W1.drew.drew.heap.size := (cells_at p0).lt
  rw [hb4'.cell (p := ⟨w.heap.size, i, none⟩) (Nat.lt_of_lt_of_le l1 hb3'.size), hb3'.cell (p := ⟨w.heap.size, i, none⟩) l1]; rfl
 have o5 := hM5.beside pl4 op
 have pl5 := Nat.lt_of_lt_of_le pl4 hM5.size
 have z0 : w6.cell? ⟨w.heap.size, 0, none⟩ = some (.int .i64 a) := by rw [hM6.cell (a := ⟨w.heap.size, 0, none⟩) pl5 o5 np, hM5.cell (a := ⟨w.heap.size, 0, none⟩) pl4 op np, hp4]; exact p0
 have z1 : w6.cell? ⟨w.heap.size, 1, none⟩ = some (.int .i64 b) := by rw [hM6.cell (a := ⟨w.heap.size, 1, none⟩) pl5 o5 np, hM5.cell (a := ⟨w.heap.size, 1, none⟩) pl4 op np, hp4]; exact p1
 have zd := (hC6.box _ HF.out.id).2.1
 obtain ⟨⟨m6, D6, hD6, hR6', hm6⟩, -⟩ := hC6.memo _ HF.out.im
 have h6a := hR6.ext.has _ ha
 have h6b := hR6.ext.has _ hb
 have hl6 := hC6.len
 obtain ⟨w7, D7, hrun7, hD7, hR7, hK7⟩ := pstore hD6 hR6' (memo_len hR6' hm6 hl6) (a := a) (b := b) ⟨hia, hib⟩ (x := h) (has_i64 hR6.has (by omega))
 have hm7 : MemoOk k ns6 (memoPut m6 (a, b) h) := hm6.put h6a h6b hR6.has (by rw [minZ_ext hR6.ext ha hb]; exact hR6.top) (fun x => (hR6.mem x).trans (opP_congr k (fun y => (in_ext hr hR6.ext ha y).symm) (fun y => (in_ext hr hR6.ext hb y).symm) x))
 have hC7 := hC6.noted HF.out.im hK7 ⟨_, _, hD7, hR7, hm7⟩
 have hM7 : MM c O6 O6 w6 w7 := ⟨hK7.mono (fun j e => .inr ⟨_, HF.out.im, e.symm⟩), fun _ h => .inl h⟩
 have HOUT : Hid (OpOut B c O vars k ns a b w (.returned (.int .i64 h)) w7) := ⟨h, ns6, O6, rfl, hC7, hMM.trans hM7, hR6⟩
 clear hC5 hM5 hA5 hC6 hM6 hR6 hMM hD6 hR6' hm6 hD7 hR7 hK7 hm7 hC7 hM7 hp4 HC HF HND HAT HPa HPb HE1 hb3 hb3' hb4 hb4' hd2 t0 t1 t2 t3 hrun
 go_wp2
 go_ret
 exact HOUT.out
end
end Go.Proofs.Ytbklgjmkdhinpaa.Fm
namespace Go.Proofs.Ytbklgjmkdhinpaa.Fm
open Go.RowKit Go.Maps Go.Proofs.Ytbklgjmkdhinpaa.Bd
def Up (v : Int) (ns : List Nd) (h : Int) : Prop := hasB ns h = true /\ v < topOf ns h
theorem Up.ext {v : Int} {ns ns' : List Nd} {h : Int} (hu : Up v ns h) (he : Ext ns ns') : Up v ns' h := ⟨he.has _ hu.1, by rw [he.top _ hu.1]; exact hu.2⟩
def rr (vars : Nat) (v : Int) : Nat := ((vars : Int) - 3 - v).toNat
def SubC (B : Nat) (c : Ctx) (vars : Nat) (k : K) (bw bk bd ba : Nat) (v : Int) : Prop :=
 ∀ (w : World) (O : Nat -> Prop) (ns : List Nd) (a b : Int), CtxAt B w c O vars ns -> Up v ns a -> Up v ns b -> (unB k = true -> b = 0) -> cntT vars ns + cost (rr vars v) k + 18 < c.room ->
  Calls Try.prog 85 #[.int .i64 a, .int .i64 b, .pointer (some ⟨bw, 0, none⟩), .pointer (some ⟨bk, 0, none⟩), .pointer (some ⟨bd, 0, none⟩), .pointer (some ⟨ba, 0, none⟩)] w fun e w' => ∃ h ns' O', e = .returned (.int .i64 h) /\ CtxAt B w' c O' vars ns' /\ MM c O O' w w' /\ Ext ns ns' /\ Up v ns' h /\ (∀ x, In ns' h x ↔ opP k (In ns a) (In ns b) x) /\ cntT vars ns' <= cntT vars ns + cost (rr vars v) k
structure Fr (c : Ctx) (O : Nat -> Prop) (W : World) (n : Nat) (a0 a1 b0 b1 : Int) : Prop where
 pa : Two W n a0 a1
 pb : Two W (n + 1) b0 b1
 pr : Two W (n + 2) 0 0
 o : ∀ i, n <= i -> i < n + 3 -> ¬ O i /\ ¬ Ms c i
 x : ∀ i, n <= i -> c.s ≠ i /\ c.wk ≠ i /\ ∀ p ∈ c.boxes, p.1 ≠ i
section
variable {c : Ctx} {O O' : Nat -> Prop} {W W' : World} {n : Nat} {a0 a1 b0 b1 : Int}
theorem Two.lt {x y : Int} (h : Two W n x y) : n < W.heap.size := (Array.getElem?_eq_some_iff.1 h).1
theorem Two.kept {x y : Int} {S : Nat -> Prop} (h : Two W n x y) (hk : Kept S W W') (hn : ¬ S n) : Two W' n x y := (hk.block n h.lt hn).trans h
theorem Fr.move (h : Fr c O W n a0 a1 b0 b1) (hm : MM c O O' W W') : Fr c O' W' n a0 a1 b0 b1 := by
 have hn : ∀ i, n <= i -> i < n + 3 -> ¬ (O i \/ Ms c i) := fun i h1 h2 ho => ho.elim (h.o i h1 h2).1 (h.o i h1 h2).2
 have hl := h.pr.lt
 exact ⟨h.pa.kept hm.kept (hn n (by omega) (by omega)), h.pb.kept hm.kept (hn _ (by omega) (by omega)), h.pr.kept hm.kept (hn _ (by omega) (by omega)), fun i h1 h2 => ⟨hm.beside (by omega) (h.o i h1 h2).1, (h.o i h1 h2).2⟩, h.x⟩
theorem Fr.cells (h : Fr c O W n a0 a1 b0 b1) : W.cell? ⟨n, 0, none⟩ = some (.int .i64 a0) /\ W.cell? ⟨n, 1, none⟩ = some (.int .i64 a1) /\ W.cell? ⟨n + 1, 0, none⟩ = some (.int .i64 b0) /\ W.cell? ⟨n + 1, 1, none⟩ = some (.int .i64 b1) :=
 ⟨(two_put h.pa 0 0).1.1, (two_put h.pa 0 0).1.2.2.1, (two_put h.pb 0 0).1.1, (two_put h.pb 0 0).1.2.2.1⟩
theorem Fr.drew (h : Fr c O W n a0 a1 b0 b1) : Fr c O W.drew n a0 a1 b0 b1 := ⟨h.pa, h.pb, h.pr, h.o, h.x⟩
theorem Fr.undrew (h : Fr c O W.drew n a0 a1 b0 b1) : Fr c O W n a0 a1 b0 b1 := ⟨h.pa, h.pb, h.pr, h.o, h.x⟩
theorem Fr.put {B : Nat} {vars : Nat} {ns : List Nd} (h : Fr c O W n a0 a1 b0 b1) (hC : CtxAt B W c O vars ns) (p q : Int) :
  CtxAt B ((W.setCell ⟨n + 1 + 1, 0, none⟩ (.int .i64 p)).setCell ⟨n + 1 + 1, 1, none⟩ (.int .i64 q)) c O vars ns /\ Kept (fun j => j = n + 1 + 1) W ((W.setCell ⟨n + 1 + 1, 0, none⟩ (.int .i64 p)).setCell ⟨n + 1 + 1, 1, none⟩ (.int .i64 q)) /\
  ((W.setCell ⟨n + 1 + 1, 0, none⟩ (.int .i64 p)).setCell ⟨n + 1 + 1, 1, none⟩ (.int .i64 q)).cell? ⟨n, 0, none⟩ = some (.int .i64 a0) /\ ((W.setCell ⟨n + 1 + 1, 0, none⟩ (.int .i64 p)).setCell ⟨n + 1 + 1, 1, none⟩ (.int .i64 q)).cell? ⟨n, 1, none⟩ = some (.int .i64 a1) /\ ((W.setCell ⟨n + 1 + 1, 0, none⟩ (.int .i64 p)).setCell ⟨n + 1 + 1, 1, none⟩ (.int .i64 q)).cell? ⟨n + 1, 0, none⟩ = some (.int .i64 b0) /\ ((W.setCell ⟨n + 1 + 1, 0, none⟩ (.int .i64 p)).setCell ⟨n + 1 + 1, 1, none⟩ (.int .i64 q)).cell? ⟨n + 1, 1, none⟩ = some (.int .i64 b1) := by
 have hk : Kept (fun j => j = n + 1 + 1) W ((W.setCell ⟨n + 1 + 1, 0, none⟩ (.int .i64 p)).setCell ⟨n + 1 + 1, 1, none⟩ (.int .i64 q)) := (Kept.setCell (S := fun j => j = n + 1 + 1) W ⟨n + 1 + 1, 0, none⟩ _ rfl).trans (Kept.setCell (S := fun j => j = n + 1 + 1) _ ⟨n + 1 + 1, 1, none⟩ _ rfl)
 obtain ⟨s1, s2, s3, s4⟩ := h.cells
 have l2 := h.pb.lt
 have l1 := h.pa.lt
 refine ⟨hC.kept hk (fun k ho e => (h.o (n + 1 + 1) (by omega) (by omega)).1 (e ▸ ho)) (h.x _ (by omega)).1 (h.x _ (by omega)).2.1 (fun p hp e => (h.o (n + 1 + 1) (by omega) (by omega)).2 ⟨p, hp, e⟩) (fun p hp e => (h.x (n + 1 + 1) (by omega)).2.2 p hp e), hk, ?_, ?_, ?_, ?_⟩
 ·exact (hk.cell (a := ⟨n, 0, none⟩) l1 (by show ¬ n = n + 1 + 1; omega)).trans s1
 ·exact (hk.cell (a := ⟨n, 1, none⟩) l1 (by show ¬ n = n + 1 + 1; omega)).trans s2
 ·exact (hk.cell (a := ⟨n + 1, 0, none⟩) l2 (by show ¬ n + 1 = n + 1 + 1; omega)).trans s3
 ·exact (hk.cell (a := ⟨n + 1, 1, none⟩) l2 (by show ¬ n + 1 = n + 1 + 1; omega)).trans s4
theorem Fr.start {B : Nat} {w : World} {vars : Nat} {ns : List Nd} (hC : CtxAt B w c O vars ns) (a0 a1 b0 b1 : Int) : Fr c O ((((w.alloc (.cells #[.int .i64 a0, .int .i64 a1] 95)).alloc (.cells #[.int .i64 b0, .int .i64 b1] 95)).alloc (.cells #[.int .i64 0, .int .i64 0] 95)).drew) w.heap.size a0 a1 b0 b1 := by
 have h1 := Two.new w a0 a1
 have h2 := Two.new (w.alloc (.cells #[.int .i64 a0, .int .i64 a1] 95)) b0 b1
 have h3 := Two.new ((w.alloc (.cells #[.int .i64 a0, .int .i64 a1] 95)).alloc (.cells #[.int .i64 b0, .int .i64 b1] 95)) 0 0
 have b2 := below_new (w.alloc (.cells #[.int .i64 a0, .int .i64 a1] 95)) (.cells #[.int .i64 b0, .int .i64 b1] 95)
 have b3 := below_new ((w.alloc (.cells #[.int .i64 a0, .int .i64 a1] 95)).alloc (.cells #[.int .i64 b0, .int .i64 b1] 95)) (.cells #[.int .i64 0, .int .i64 0] 95)
 rw [World.size_alloc] at h2
 rw [World.size_alloc, World.size_alloc] at h3
 exact ⟨(h1.below b2).below b3.drew, h2.below b3.drew, h3, fun i h1 h2 => ⟨fun ho => by have := (hC.space.own _ ho).2; omega, fun ⟨q, hq, e⟩ => by have := (hC.memo q hq).1.lt; omega⟩, fun i hi => ⟨by have := hC.space.slt; omega, by have := hC.wlt; omega, fun p hp => by have := (hC.box p hp).1; omega⟩⟩
end
section
variable {B : Nat} {c : Ctx} {O : Nat -> Prop} {vars : Nat} {ns : List Nd} {w : World} {bw bk bd ba bx : Nat} {v a0 a1 b0 b1 : Int}
theorem at_or (hC : CtxAt B w c O vars ns) (hS : SubC B c vars .or bw bk bd ba v) (hbx : (bx, .func (.func 85) #[] #[.pointer (some ⟨bw, 0, none⟩), .pointer (some ⟨bk, 0, none⟩), .pointer (some ⟨bd, 0, none⟩), .pointer (some ⟨ba, 0, none⟩)]) ∈ c.boxes)
  (ua0 : Up v ns a0) (ua1 : Up v ns a1) (ub0 : Up v ns b0) (ub1 : Up v ns b1) (hroom : cntT vars ns + 2 * cost (rr vars v) .or + 18 < c.room) :
  Calls Try.prog 68 #[.agg #[.int .i64 a0, .int .i64 a1], .agg #[.int .i64 b0, .int .i64 b1], .pointer (some ⟨bx, 0, none⟩)] w fun e w' => ∃ p q ns' O', e = .returned (.agg #[.int .i64 p, .int .i64 q]) /\ CtxAt B w' c O' vars ns' /\ MM c O O' w w' /\ Ext ns ns' /\ Up v ns' p /\ Up v ns' q /\ (∀ x, In ns' p x ↔ opP .or (In ns a0) (In ns b0) x) /\ (∀ x, In ns' q x ↔ opP .or (In ns a1) (In ns b1) x) /\ cntT vars ns' <= cntT vars ns + 2 * cost (rr vars v) .or := by
 have hb3 : Below w.heap.size w ((((w.alloc (.cells #[.int .i64 a0, .int .i64 a1] 95)).alloc (.cells #[.int .i64 b0, .int .i64 b1] 95)).alloc (.cells #[.int .i64 0, .int .i64 0] 95)).drew) := (((below_new w _).alloc (below_new w _).size _).alloc ((below_new w _).alloc (below_new w _).size _).size _).drew
 have hf3 := Fr.start hC a0 a1 b0 b1
 have hC3 := hC.new hb3
 have hr := hC.good.ranked
 obtain ⟨s1, s2, s3, s4⟩ := hf3.cells
 have s0 := (hC3.box _ hbx).2.1
 have HBX := Lib.hid hbx
 unfold SubC at hS
 have HS := Lib.hid hS
 have hr1 : cntT vars ns + cost (rr vars v) .or + 18 < c.room := by omega
 have HR1 := Lib.hid hr1
 clear hr1
 have HR2 : Hid (∀ n5, n5 <= cntT vars ns + cost (rr vars v) .or -> n5 + cost (rr vars v) .or + 18 < c.room) := fun n5 h => by omega
 have HUN : Hid (∀ z : Int, unB .or = true -> z = 0) := fun z h => by cases h
 have HC3 := Lib.hid hC3
 have HF3 := Lib.hid hf3
 have HB3 := Lib.hid hb3
 have H0 : Hid (Up v ns a0 /\ Up v ns a1 /\ Up v ns b0 /\ Up v ns b1) := ⟨ua0, ua1, ub0, ub1⟩
 clear hC hS hbx ua0 ua1 ub0 ub1 hC3 hf3 hb3
 go_enter Try.func68, Try.ntmps68
 go_wp2_with fail
 generalize (((w.alloc (.cells #[.int .i64 a0, .int .i64 a1] 95)).alloc (.cells #[.int .i64 b0, .int .i64 b1] 95)).alloc (.cells #[.int .i64 0, .int .i64 0] 95)) = W3 at *
 go_region_held3 (fun w' => w'.cell? ⟨bx, 0, none⟩ = some (.func (.func 85) #[] #[.pointer (some ⟨bw, 0, none⟩), .pointer (some ⟨bk, 0, none⟩), .pointer (some ⟨bd, 0, none⟩), .pointer (some ⟨ba, 0, none⟩)]) /\ w'.cell? ⟨w.heap.size, 0, none⟩ = some (.int .i64 a0) /\ w'.cell? ⟨w.heap.size, 1, none⟩ = some (.int .i64 a1) /\ w'.cell? ⟨w.heap.size + 1, 0, none⟩ = some (.int .i64 b0) /\ w'.cell? ⟨w.heap.size + 1, 1, none⟩ = some (.int .i64 b1))
  (first | exact ⟨s0, s1, s2, s3, s4⟩ | exact ⟨(hC5.box _ HBX.out).2.1, hf5.cells⟩ | exact ⟨(hC6.box _ HBX.out).2.1, hf6.cells⟩ | exact ⟨(hpt.1.box _ HBX.out).2.1, hpt.2.2⟩)
  (first | (with_reducible refine (HS.out _ _ _ _ _ HC3.out H0.out.1 H0.out.2.2.1 (HUN.out _) HR1.out).mono ?_; rintro e w5 ⟨p, ns5, O5, rfl, hC5, hM5, hx5, hu5, hm5, hc5⟩; have hf5 := HF3.out.move hM5) | (with_reducible refine (HS.out _ _ _ _ _ hC5 (H0.out.2.1.ext hx5) (H0.out.2.2.2.ext hx5) (HUN.out _) (HR2.out _ hc5)).mono ?_; rintro e w6 ⟨q, ns6, O6, rfl, hC6, hM6, hx6, hu6, hm6, hc6⟩; have hf6 := hf5.move hM6; obtain ⟨⟨r0, r1, r2, r3⟩, ⟨r4, r5⟩, r6, r7⟩ := two_put hf6.pr p q; have hpt := hf6.put hC6 p q))
 have hM : MM c O O6 w ((w6.setCell ⟨w.heap.size + 1 + 1, 0, none⟩ (.int .i64 p)).setCell ⟨w.heap.size + 1 + 1, 1, none⟩ (.int .i64 q)) := by
  have h1 := ((MM.of_below HB3.out).trans hM5).trans hM6
  exact ⟨h1.kept.andThen hpt.2.1 (fun i hi hlt => by omega), h1.own⟩
 have HOUT : Hid (∃ p' q' ns' O', (Ending.returned (.agg #[.int .i64 p, .int .i64 q])) = .returned (.agg #[.int .i64 p', .int .i64 q']) /\ CtxAt B ((w6.setCell ⟨w.heap.size + 1 + 1, 0, none⟩ (.int .i64 p)).setCell ⟨w.heap.size + 1 + 1, 1, none⟩ (.int .i64 q)) c O' vars ns' /\ MM c O O' w ((w6.setCell ⟨w.heap.size + 1 + 1, 0, none⟩ (.int .i64 p)).setCell ⟨w.heap.size + 1 + 1, 1, none⟩ (.int .i64 q)) /\ Ext ns ns' /\ Up v ns' p' /\ Up v ns' q' /\ (∀ x, In ns' p' x ↔ opP .or (In ns a0) (In ns b0) x) /\ (∀ x, In ns' q' x ↔ opP .or (In ns a1) (In ns b1) x) /\ cntT vars ns' <= cntT vars ns + 2 * cost (rr vars v) .or) :=
  ⟨p, q, ns6, O6, rfl, hpt.1, hM, hx5.trans hx6, hu5.ext hx6, hu6, fun x => (in_ext hC5.good.ranked hx6 hu5.1 x).trans (hm5 x), fun x => (hm6 x).trans (opP_congr .or (fun y => in_ext hr hx5 H0.out.2.1.1 y) (fun y => in_ext hr hx5 H0.out.2.2.2.1 y) x), by omega⟩
 have R6 := Lib.hid r6
 have R7 := Lib.hid r7
 clear hC5 hM5 hx5 hu5 hm5 hc5 hC6 hM6 hx6 hu6 hm6 hc6 hf5 hf6 hpt hM r6 r7
 go_wp2
 exact bodyPost_ret (v := .agg #[.int .i64 p, .int .i64 q]) (by simp [results, Try.results68, go_sem, R6.out, R7.out]) rfl HOUT.out
end
end Go.Proofs.Ytbklgjmkdhinpaa.Fm
