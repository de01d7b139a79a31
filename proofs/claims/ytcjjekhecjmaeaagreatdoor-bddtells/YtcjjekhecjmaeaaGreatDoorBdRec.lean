/- makes: by the least variable. -/
import Derived.Test.YtcjjekhecjmaeaaGreatDoorBdMk
set_option maxHeartbeats 4000000
set_option maxRecDepth 100000
namespace Go.Proofs.YtcjjekhecjmaeaaGreatDoor
open Go.RowKit Go.Maps
theorem run_min3 {P : Program} (w : World) (ts : Array TypeId) (t : TypeId) (k : IntKind) (x y z : Int) :
  (Builtin.min_ ts t #[.int k x, .int k y, .int k z]).run P w = .ok (.int k (min (min x y) z)) w := by
 have e : ∀ x y : Int, (if y < x then y else x) = min x y := fun x y => by
  rw [Int.min_def]
  split <;> split <;> omega
 simp [Builtin.min_, Builtin.min2, e]
structure Tri (w : World) (bk : Nat) (a b c : Int) : Prop where
 lt : bk < w.heap.size
 c0 : w.cell? ⟨bk, 0, none⟩ = some (.int .i64 a)
 c1 : w.cell? ⟨bk, 1, none⟩ = some (.int .i64 b)
 c2 : w.cell? ⟨bk, 2, none⟩ = some (.int .i64 c)
 fz : ∀ i, w.frozen? ⟨bk, i, none⟩ = false
section
variable {w w' : World} {bk bk' i : Nat} {a b c : Int}
theorem Tri.kept {S : Nat -> Prop} (h : Tri w bk a b c) (hk : Kept S w w') (hn : ¬ S bk) : Tri w' bk a b c :=
 ⟨Nat.lt_of_lt_of_le h.lt hk.size, (hk.cell (a := ⟨bk, 0, none⟩) h.lt hn).trans h.c0, (hk.cell (a := ⟨bk, 1, none⟩) h.lt hn).trans h.c1, (hk.cell (a := ⟨bk, 2, none⟩) h.lt hn).trans h.c2, fun i => (hk.frozen (a := ⟨bk, i, none⟩) h.lt hn).trans (h.fz i)⟩
theorem Tri.new (h : Tri w bk a b c) (hb : Below w.heap.size w w') : Tri w' bk a b c := h.kept (Kept.of_below hb (fun _ => False)) (fun h => h)
theorem Tri.other (h : Tri w bk a b c) (u : Value) (hne : bk ≠ bk') : Tri (w.setCell ⟨bk', i, none⟩ u) bk a b c := h.kept (Kept.setCell (S := fun j => j = bk') w ⟨bk', i, none⟩ u rfl) hne
theorem setCell_size (w : World) (x : Addr) (u : Value) : (w.setCell x u).heap.size = w.heap.size := by simp [World.setCell]
theorem Tri.set0 (h : Tri w bk a b c) (x : Int) : Tri (w.setCell ⟨bk, 0, none⟩ (.int .i64 x)) bk x b c :=
 ⟨by rw [setCell_size]; exact h.lt, World.cell?_setCell_same _ _ _ h.c0, by rw [World.cell?_setCell_other _ _ _ _ (by simp)]; exact h.c1, by rw [World.cell?_setCell_other _ _ _ _ (by simp)]; exact h.c2, fun i => by rw [World.frozen?_setCell]; exact h.fz i⟩
theorem Tri.set1 (h : Tri w bk a b c) (x : Int) : Tri (w.setCell ⟨bk, 1, none⟩ (.int .i64 x)) bk a x c :=
 ⟨by rw [setCell_size]; exact h.lt, by rw [World.cell?_setCell_other _ _ _ _ (by simp)]; exact h.c0, World.cell?_setCell_same _ _ _ h.c1, by rw [World.cell?_setCell_other _ _ _ _ (by simp)]; exact h.c2, fun i => by rw [World.frozen?_setCell]; exact h.fz i⟩
theorem Tri.set2 (h : Tri w bk a b c) (x : Int) : Tri (w.setCell ⟨bk, 2, none⟩ (.int .i64 x)) bk a b x :=
 ⟨by rw [setCell_size]; exact h.lt, by rw [World.cell?_setCell_other _ _ _ _ (by simp)]; exact h.c0, by rw [World.cell?_setCell_other _ _ _ _ (by simp)]; exact h.c1, World.cell?_setCell_same _ _ _ h.c2, fun i => by rw [World.frozen?_setCell]; exact h.fz i⟩
theorem tri_new (w : World) (a b c : Int) (t : TypeId) : Tri (w.alloc (.cells #[.int .i64 a, .int .i64 b, .int .i64 c] t)) w.heap.size a b c := by
 obtain ⟨x0, x1, x2, x3⟩ := cell3 w (.int .i64 a) (.int .i64 b) (.int .i64 c) t
 exact ⟨by simp, x0, x1, x2, x3⟩
end
theorem ask_at0 (a b c : Value) (w : World) : (Instr.index 172 (.agg #[a, b, c]) (.int .i64 0)).run Tryz.prog w = .ok a w := by kernel_rfl
theorem ask_at1 (a b c : Value) (w : World) : (Instr.index 172 (.agg #[a, b, c]) (.int .i64 1)).run Tryz.prog w = .ok b w := by kernel_rfl
theorem ask_at2 (a b c : Value) (w : World) : (Instr.index 172 (.agg #[a, b, c]) (.int .i64 2)).run Tryz.prog w = .ok c w := by kernel_rfl
def MakesOk (B s b wk dm : Nat) (F : FuncId) (op : Bool) (vars : Nat) (room : Int) (d : Nat) : Prop :=
 ∀ (ns : List Nd) (m : List (Nd × Int)) (k : Nd) (O : Nat -> Prop) (w : World), WS B w s b wk dm O F op vars room ns m -> Has3 ns k -> 24 <= minT ns k + d -> ((ns.length + 2 ^ rk vars ns k : Nat) : Int) <= room + 1 -> m.length + 2 ^ rk vars ns k <= 90000 ->
  Calls Tryz.prog 139 #[.pointer (some ⟨wk, 0, none⟩), k.val] w (MakesOut B s b wk dm O F op vars room (makesF d op ns m k) w)
theorem makesF_rec {d : Nat} {op : Bool} {ns : List Nd} {m : List (Nd × Int)} {k : Nd} (hk : knownF op k = none) (hn : look m k = none) :
  makesF (d + 1) op ns m k = ((nodeF (makesF d op (makesF d op ns m (loK ns k (minT ns k))).1 (makesF d op ns m (loK ns k (minT ns k))).2.1 (hiK ns k (minT ns k))).1 (minT ns k) (makesF d op ns m (loK ns k (minT ns k))).2.2 (makesF d op (makesF d op ns m (loK ns k (minT ns k))).1 (makesF d op ns m (loK ns k (minT ns k))).2.1 (hiK ns k (minT ns k))).2.2).1,
   memoPut (makesF d op (makesF d op ns m (loK ns k (minT ns k))).1 (makesF d op ns m (loK ns k (minT ns k))).2.1 (hiK ns k (minT ns k))).2.1 k (nodeF (makesF d op (makesF d op ns m (loK ns k (minT ns k))).1 (makesF d op ns m (loK ns k (minT ns k))).2.1 (hiK ns k (minT ns k))).1 (minT ns k) (makesF d op ns m (loK ns k (minT ns k))).2.2 (makesF d op (makesF d op ns m (loK ns k (minT ns k))).1 (makesF d op ns m (loK ns k (minT ns k))).2.1 (hiK ns k (minT ns k))).2.2).2,
   (nodeF (makesF d op (makesF d op ns m (loK ns k (minT ns k))).1 (makesF d op ns m (loK ns k (minT ns k))).2.1 (hiK ns k (minT ns k))).1 (minT ns k) (makesF d op ns m (loK ns k (minT ns k))).2.2 (makesF d op (makesF d op ns m (loK ns k (minT ns k))).1 (makesF d op ns m (loK ns k (minT ns k))).2.1 (hiK ns k (minT ns k))).2.2).2) := by
 conv => lhs; unfold makesF
 rw [hk]; simp only; rw [hn]
section
variable {B s b wk dm : Nat} {O : Nat -> Prop} {F : FuncId} {op : Bool} {vars : Nat} {room : Int} {ns : List Nd} {m : List (Nd × Int)} {w : World} {k : Nd}
theorem makes_rec (hroom : room <= 4000) (hF : Knows F op) (d : Nat) (ih : MakesOk B s b wk dm F op vars room d) (h : WS B w s b wk dm O F op vars room ns m) (h3 : Has3 ns k) (hd : 24 <= minT ns k + (d + 1 : Nat)) (hl : ((ns.length + 2 ^ rk vars ns k : Nat) : Int) <= room + 1) (hm : m.length + 2 ^ rk vars ns k <= 90000)
  (hk : knownF op k = none) (hn : look m k = none) :
  Calls Tryz.prog 139 #[.pointer (some ⟨wk, 0, none⟩), k.val] w (MakesOut B s b wk dm O F op vars room (makesF (d + 1) op ns m k) w) := by
 have pge := Nat.one_le_two_pow (n := rk vars ns k)
 have hlen : ns.length <= 4000 := by omega
 have hr := h.good.ranked
 have hv := known_none hr h3 hk
 have hv0 := (minT_bd hr k).1
 have hok := ask_ok h3 (by omega)
 have hnk := look_no hn
 have hvv := minT_vars h.good hv
 obtain ⟨l3, lt⟩ := lo_has3 hr h3 hv
 obtain ⟨g3, gt⟩ := hi_has3 hr h3 hv
 have hpow : 2 ^ rk vars ns k = 2 ^ (rk vars ns k - 1) + 2 ^ (rk vars ns k - 1) := by
  have : 1 <= rk vars ns k := by unfold rk; omega
  obtain ⟨q, hq⟩ : ∃ q, rk vars ns k = q + 1 := ⟨rk vars ns k - 1, by omega⟩
  rw [hq, Nat.add_sub_cancel, Nat.pow_succ]; omega
 have pg1 := Nat.one_le_two_pow (n := rk vars ns k - 1)
 have p1 : 2 ^ rk vars ns (loK ns k (minT ns k)) <= 2 ^ (rk vars ns k - 1) := Nat.pow_le_pow_right (by omega) (by unfold rk; omega)
 have i1 := makes_ok (op := op) d ns m (loK ns k (minT ns k)) h.good h.memo l3 (by omega) (by omega)
 have hall := makes_ok (op := op) (d + 1) ns m k h.good h.memo h3 hd (by omega)
 rw [makesF_rec hk hn] at hall ⊢
 have C1 := ih ns m (loK ns k (minT ns k)) O
 generalize makesF d op ns m (loK ns k (minT ns k)) = r1 at *
 have g3' := g3.ext i1.ext
 have gm := minT_ext g3 i1.ext
 have p2 : 2 ^ rk vars r1.1 (hiK ns k (minT ns k)) <= 2 ^ (rk vars ns k - 1) := Nat.pow_le_pow_right (by omega) (by unfold rk; rw [gm]; omega)
 have l1 := i1.len
 have m1 := i1.mlen
 have i2 := makes_ok (op := op) d r1.1 r1.2.1 (hiK ns k (minT ns k)) i1.good i1.memo g3' (by rw [gm]; omega) (by omega)
 have C2 := fun O' => ih r1.1 r1.2.1 (hiK ns k (minT ns k)) O'
 generalize makesF d op r1.1 r1.2.1 (hiK ns k (minT ns k)) = r2 at *
 have l2 := i2.len
 have m2 := i2.mlen
 have h1' := i2.ext.has _ i1.has
 have t1' : topOf r2.1 r1.2.2 = topOf r1.1 r1.2.2 := i2.ext.top _ i1.has
 have i3 := nodeF_ok i2.good (v := minT ns k) (l := r1.2.2) (h := r2.2.2) (by omega) hv0 hv hvv h1' i2.has (by rw [t1']; have := i1.top; omega) (by have := i2.top; rw [gm] at this; omega)
 have HC1 : Hid (∀ W, Below w.heap.size w W -> Calls Tryz.prog 139 #[.pointer (some ⟨wk, 0, none⟩), (loK ns k (minT ns k)).val] W (MakesOut B s b wk dm O F op vars room r1 W)) := fun W hW => C1 W (h.new hW) l3 (by omega) (by omega) (by omega)
 have HC2 : Hid (∀ O' W, WS B W s b wk dm O' F op vars room r1.1 r1.2.1 -> Calls Tryz.prog 139 #[.pointer (some ⟨wk, 0, none⟩), (hiK ns k (minT ns k)).val] W (MakesOut B s b wk dm O' F op vars room r2 W)) := fun O' W hW => C2 O' W hW g3' (by rw [gm]; omega) (by omega) (by omega)
 have HC3 : Hid (∀ O' W, SpaceAt B W s b O' vars room r2.1 -> B <= W.heap.size -> Calls Tryz.prog 96 #[.pointer (some ⟨s, 0, none⟩), .int .i64 (minT ns k), .int .i64 r1.2.2, .int .i64 r2.2.2] W fun e w' => e = .returned (.tuple #[.int .i64 (nodeF r2.1 (minT ns k) r1.2.2 r2.2.2).2, .nilIface]) /\ ∃ O'', SpaceAt B w' s b O'' vars room (nodeF r2.1 (minT ns k) r1.2.2 r2.2.2).1 /\ Moves O' O'' W w') := fun O' W hW hBW =>
  node_any hW (by omega) (by omega) hBW (minT ns k) r1.2.2 r2.2.2 hv0 hv h1' i2.has (by rw [t1']; have := i1.top; omega) (by have := i2.top; rw [gm] at this; omega)
 generalize nodeF r2.1 (minT ns k) r1.2.2 r2.2.2 = r3 at *
 have HI2 := Lib.hid i2
 have HI3 := Lib.hid i3
 have HALL := Lib.hid hall
 have hml2 : r2.2.1.length <= 90000 := by omega
 clear C1 C2 i1 i2 i3 hall l3 lt g3 gt hpow pg1 p1 g3' gm p2 l1 m1 l2 m2 h1' t1'
 have HW := Lib.hid h
 have H3 := Lib.hid h3
 have c0 := h.work.c0
 have c1 := h.work.c1
 have c2 := h.work.c2
 have wl := h.work.lt
 have sl := h.space.slt
 have s0 := h.space.c0
 have HL : Hid (∀ W, Below w.heap.size w W -> (Instr.lookup 214 (.map (some dm)) (.agg #[.int .i64 k.v, .int .i64 k.l, .int .i64 k.h]) true).run Tryz.prog W = .ok (.tuple #[.int .i64 0, .bool false]) W) := fun W hW => by
  obtain ⟨D, hD, hR⟩ := (h.work.new hW).hmap
  exact alook_none hD hR hok hnk
 have HK : Hid (∀ W, Calls Tryz.prog F #[k.val] W fun e w' => e = .returned (.tuple #[.int .i64 0, .bool false]) /\ Below W.heap.size W w') := fun W => by
  have := hF.does k W; rw [hk] at this; exact this
 have HT : Hid (∀ (x : Int) (W : World), I64 x -> Below w.heap.size w W -> Calls Tryz.prog 37 #[.pointer (some ⟨b, 0, none⟩), .int .i64 x] W fun e w' => e = .returned (.int .i64 (topOf ns x)) /\ W = w') := fun x W hx hW => spTop (h.space.new hW) x hx (by omega)
 have HSD : Hid (∀ (x : Int) (W : World), I64 x -> Below w.heap.size w W -> Calls Tryz.prog 162 #[.pointer (some ⟨s, 0, none⟩), .int .i64 x, .int .i64 (minT ns k)] W fun e w' => e = .returned (.tuple #[.int .i64 (loS ns x (minT ns k)), .int .i64 (hiS ns x (minT ns k))]) /\ Below W.heap.size W w') := fun x W hx hW => sides_any (h.space.new hW) (by omega) x _ hx hv
 have hent := hF.enters
 have hmin := @run_min3 Tryz.prog
 have HOK := Lib.hid hok
 have hMT : minT ns k = min (min (topOf ns k.v) (topOf ns k.l)) (topOf ns k.h) := rfl
 have HMT := Lib.hid hMT
 clear h h3 ih hF hk hnk hn hok hMT hd
 have hb := below_new w (.cells #[.int .i64 k.v, .int .i64 k.l, .int .i64 k.h] 172)
 obtain ⟨x0, x1, x2, -⟩ := cell3 w (.int .i64 k.v) (.int .i64 k.l) (.int .i64 k.h) 172
 have d1 := (hb.cell (p := ⟨wk, 1, none⟩) wl).trans c1
 have bl : w.heap.size < (w.alloc (.cells #[.int .i64 k.v, .int .i64 k.l, .int .i64 k.h] 172)).heap.size := by simp
 have hbs := hb.size
 have wl1 : wk < (w.alloc (.cells #[.int .i64 k.v, .int .i64 k.l, .int .i64 k.h] 172)).heap.size := by omega
 have TB := Lib.hid (tri_new w k.v k.l k.h 172)
 unfold Nd.val at HK ⊢
 go_enter Tryz.func139, Tryz.ntmps139
 go_wp2_with fail
 have HB := Lib.hid hb
 clear hb
 generalize (w.alloc (.cells #[.int .i64 k.v, .int .i64 k.l, .int .i64 k.h] 172)) = W1 at *
 have e0 : W1.drew.cell? ⟨wk, 1, none⟩ = some (.func (.func F) #[] #[]) := d1
 have f0 : W1.drew.cell? ⟨w.heap.size, 0, none⟩ = some (.int .i64 k.v) := x0
 have f1 : W1.drew.cell? ⟨w.heap.size, 1, none⟩ = some (.int .i64 k.l) := x1
 have f2 : W1.drew.cell? ⟨w.heap.size, 2, none⟩ = some (.int .i64 k.h) := x2
 go_region_held3 (fun w' => w'.cell? ⟨wk, 1, none⟩ = some (.func (.func F) #[] #[]) /\ w'.cell? ⟨w.heap.size, 0, none⟩ = some (.int .i64 k.v) /\ w'.cell? ⟨w.heap.size, 1, none⟩ = some (.int .i64 k.l) /\ w'.cell? ⟨w.heap.size, 2, none⟩ = some (.int .i64 k.h)) (first | exact ⟨e0, f0, f1, f2⟩ | exact ⟨(hb2.cell (p := ⟨wk, 1, none⟩) wl1).trans e0, (hb2.cell (p := ⟨w.heap.size, 0, none⟩) bl).trans f0, (hb2.cell (p := ⟨w.heap.size, 1, none⟩) bl).trans f1, (hb2.cell (p := ⟨w.heap.size, 2, none⟩) bl).trans f2⟩)
  (first | (with_reducible refine (HK.out _).mono ?_; rintro e w2 ⟨rfl, hb2⟩))
 have hb3 : Below w.heap.size w w2 := (HB.out.drew).trans (hb2.mono HB.out.size)
 have g0 : w2.drew.cell? ⟨w.heap.size, 0, none⟩ = some (.int .i64 k.v) := (hb2.cell (p := ⟨w.heap.size, 0, none⟩) bl).trans f0
 have g1 : w2.drew.cell? ⟨w.heap.size, 1, none⟩ = some (.int .i64 k.l) := (hb2.cell (p := ⟨w.heap.size, 1, none⟩) bl).trans f1
 have g2 : w2.drew.cell? ⟨w.heap.size, 2, none⟩ = some (.int .i64 k.h) := (hb2.cell (p := ⟨w.heap.size, 2, none⟩) bl).trans f2
 have gm : w2.drew.cell? ⟨wk, 2, none⟩ = some (.map (some dm)) := (hb3.cell (p := ⟨wk, 2, none⟩) wl).trans c2
 have hrun := HL.out _ hb3.drew
 have bl2 : w.heap.size < w2.heap.size := Nat.lt_of_lt_of_le bl hb2.size
 have TB2 : Hid (Tri w2.drew w.heap.size k.v k.l k.h) := ((TB.out.new (Below.refl _ _).drew).new hb2).new (Below.refl _ _).drew
 clear TB
 clear e0 f0 f1 f2 HK HL d1 x0 x1 x2 hent hb2 HB
 go_wp2_with fail
 go_region_held3 (fun w' => w'.cell? ⟨wk, 2, none⟩ = some (.map (some dm)) /\ w'.cell? ⟨w.heap.size, 0, none⟩ = some (.int .i64 k.v) /\ w'.cell? ⟨w.heap.size, 1, none⟩ = some (.int .i64 k.l) /\ w'.cell? ⟨w.heap.size, 2, none⟩ = some (.int .i64 k.h)) (exact ⟨gm, g0, g1, g2⟩) (first | fail)
 clear hrun
 have HB3 := Lib.hid hb3.drew
 have bl3 : w.heap.size < w2.drew.heap.size := bl2
 clear hb3
 generalize w2.drew = W3 at *
 have SC : Hid (∀ X, Below W3.heap.size W3 X -> (X.cell? ⟨wk, 0, none⟩ = some (.pointer (some ⟨s, 0, none⟩)) /\ X.cell? ⟨s, 0, none⟩ = some (.pointer (some ⟨b, 0, none⟩)) /\ X.cell? ⟨w.heap.size, 0, none⟩ = some (.int .i64 k.v) /\ X.cell? ⟨w.heap.size, 1, none⟩ = some (.int .i64 k.l) /\ X.cell? ⟨w.heap.size, 2, none⟩ = some (.int .i64 k.h))) := fun X hX =>
  ⟨((HB3.out.trans (hX.mono HB3.out.size)).cell (p := ⟨wk, 0, none⟩) wl).trans c0, ((HB3.out.trans (hX.mono HB3.out.size)).cell (p := ⟨s, 0, none⟩) sl).trans s0, (hX.cell (p := ⟨w.heap.size, 0, none⟩) bl3).trans g0, (hX.cell (p := ⟨w.heap.size, 1, none⟩) bl3).trans g1, (hX.cell (p := ⟨w.heap.size, 2, none⟩) bl3).trans g2⟩
 have D0 : Below W3.heap.size W3 W3.drew := (Below.refl _ _).drew
 have T0 := HOK.out.1
 have T1 := HOK.out.2.1
 have T2 := HOK.out.2.2
 clear g0 g1 g2 gm
 go_wp2_with fail
 go_region_held3 (fun X => X.cell? ⟨wk, 0, none⟩ = some (.pointer (some ⟨s, 0, none⟩)) /\ X.cell? ⟨s, 0, none⟩ = some (.pointer (some ⟨b, 0, none⟩)) /\ X.cell? ⟨w.heap.size, 0, none⟩ = some (.int .i64 k.v) /\ X.cell? ⟨w.heap.size, 1, none⟩ = some (.int .i64 k.l) /\ X.cell? ⟨w.heap.size, 2, none⟩ = some (.int .i64 k.h)) (exact SC.out _ D0)
  (first | (go_at_call 37; with_reducible refine (HT.out _ _ (by first | exact T0 | exact T1 | exact T2) HB3.out.drew).mono ?_; rintro e wz ⟨rfl, rfl⟩))
 have hmn : min (topOf ns k.v) (min (topOf ns k.l) (topOf ns k.h)) = minT ns k := by unfold minT; omega
 rw [hmn]
 clear hmn hmin HT HMT
 have HB4 := Lib.hid HB3.out.drew
 have SD : Hid (∀ X, Below W3.drew.heap.size W3.drew X -> X.cell? ⟨wk, 0, none⟩ = some (.pointer (some ⟨s, 0, none⟩)) /\ Tri X w.heap.size k.v k.l k.h) := fun X hX => ⟨((HB4.out.trans (hX.mono HB4.out.size)).cell (p := ⟨wk, 0, none⟩) wl).trans c0, (TB2.out.new (Below.refl _ _).drew).new hX⟩
 generalize topOf ns k.v = tv at *
 generalize topOf ns k.l = tl at *
 generalize topOf ns k.h = th at *
 have bl4 : w.heap.size < W3.drew.heap.size := bl3
 clear SC D0 TB2
 generalize W3.drew = W4 at *
 obtain ⟨g0, g1⟩ := SD.out _ (Below.refl _ W4)
 have q0 := g1.c0
 have q1 := g1.c1
 have q2 := g1.c2
 have zz : (W4.alloc (.cells #[.int .i64 0, .int .i64 0, .int .i64 0] 172)).heap.size = W4.heap.size + 1 := by simp
 have TL := Lib.hid ((tri_new W4 0 0 0 172).new (below_new _ (.cells #[.int .i64 0, .int .i64 0, .int .i64 0] 172)))
 have TH0 := tri_new (W4.alloc (.cells #[.int .i64 0, .int .i64 0, .int .i64 0] 172)) 0 0 0 172
 rw [zz] at TH0
 have TH := Lib.hid TH0
 have B5 : Hid (Below W4.heap.size W4 ((W4.alloc (.cells #[.int .i64 0, .int .i64 0, .int .i64 0] 172)).alloc (.cells #[.int .i64 0, .int .i64 0, .int .i64 0] 172))) := (below_new W4 _).alloc (below_new W4 _).size _
 clear TH0 zz
 generalize minT ns k = v at *
 have KV := Lib.hid T0
 have KL := Lib.hid T1
 have KH := Lib.hid T2
 clear T0 T1 T2
 go_wp2_with fail
 go_loopw [73] (fun i wr => Below W4.heap.size W4 wr /\ (
   (i = .int .i64 0 /\ Tri wr W4.heap.size 0 0 0 /\ Tri wr (W4.heap.size + 1) 0 0 0) \/
   (i = .int .i64 1 /\ Tri wr W4.heap.size (loS ns k.v v) 0 0 /\ Tri wr (W4.heap.size + 1) (hiS ns k.v v) 0 0) \/
   (i = .int .i64 2 /\ Tri wr W4.heap.size (loS ns k.v v) (loS ns k.l v) 0 /\ Tri wr (W4.heap.size + 1) (hiS ns k.v v) (hiS ns k.l v) 0) \/
   (i = .int .i64 3 /\ Tri wr W4.heap.size (loS ns k.v v) (loS ns k.l v) (loS ns k.h v) /\ Tri wr (W4.heap.size + 1) (hiS ns k.v v) (hiS ns k.l v) (hiS ns k.h v))))
  (fun i _ => 3 - (intOf i).toNat)
 case atStart => exact ⟨B5.out, .inl ⟨rfl, TL.out, TH.out⟩⟩
 case round =>
  obtain ⟨hbr, hrel⟩ := hrel
  obtain ⟨y0, -⟩ := SD.out _ hbr
  have hbw := HB4.out.trans (hbr.mono HB4.out.size)
  have hbrs := hbr.size
  have HBR := Lib.hid hbr
  clear TL TH B5 hbr
  rcases hrel with ⟨rfl, t1, t2⟩ | ⟨rfl, t1, t2⟩ | ⟨rfl, t1, t2⟩ | ⟨rfl, t1, t2⟩
  ·have HC := Lib.hid (HSD.out k.v wr KV.out hbw)
   generalize loS ns k.v v = lo at *
   generalize hiS ns k.v v = hi at *
   have T1' := Lib.hid t1
   have T2' := Lib.hid t2
   clear t1 t2 hbw
   have hix := ask_at0
   go_wp2_with fail
   clear hix
   refine HC.out.mono ?_
   rintro e w5 ⟨rfl, hb5⟩
   have u1 := T1'.out.new hb5
   have u2 := T2'.out.new hb5
   have z0 := u1.c0
   have z1 := u1.fz 0
   have u1' := u1.set0 lo
   have u2' := (u2.other (bk' := W4.heap.size) (i := 0) (.int .i64 lo) (by omega))
   have z2 := u2'.c0
   have z3 := u2'.fz 0
   have hb6 := HBR.out.trans (hb5.mono hbrs)
   have U1 := Lib.hid (u1'.other (bk' := W4.heap.size + 1) (i := 0) (.int .i64 hi) (by omega))
   have U2 := Lib.hid (u2'.set0 hi)
   have HB6 : Hid (Below W4.heap.size W4 ((w5.setCell ⟨W4.heap.size, 0, none⟩ (.int .i64 lo)).setCell ⟨W4.heap.size + 1, 0, none⟩ (.int .i64 hi))) := (hb6.setCell (Nat.le_refl _) _).setCell (Nat.le_succ _) _
   clear u1 u2 u1' u2' HC hb5 hb6
   go_wp2
   go_roundw
   case rel => exact ⟨HB6.out, .inr (.inl ⟨rfl, U1.out, U2.out⟩)⟩
   case measure => simp [intOf]
  ·have HC := Lib.hid (HSD.out k.l wr KL.out hbw)
   generalize loS ns k.l v = lo at *
   generalize hiS ns k.l v = hi at *
   have T1' := Lib.hid t1
   have T2' := Lib.hid t2
   clear t1 t2 hbw
   have hix := ask_at1
   go_wp2_with fail
   clear hix
   refine HC.out.mono ?_
   rintro e w5 ⟨rfl, hb5⟩
   have u1 := T1'.out.new hb5
   have u2 := T2'.out.new hb5
   have z0 := u1.c1
   have z1 := u1.fz 1
   have u1' := u1.set1 lo
   have u2' := (u2.other (bk' := W4.heap.size) (i := 1) (.int .i64 lo) (by omega))
   have z2 := u2'.c1
   have z3 := u2'.fz 1
   have hb6 := HBR.out.trans (hb5.mono hbrs)
   have U1 := Lib.hid (u1'.other (bk' := W4.heap.size + 1) (i := 1) (.int .i64 hi) (by omega))
   have U2 := Lib.hid (u2'.set1 hi)
   have HB6 : Hid (Below W4.heap.size W4 ((w5.setCell ⟨W4.heap.size, 1, none⟩ (.int .i64 lo)).setCell ⟨W4.heap.size + 1, 1, none⟩ (.int .i64 hi))) := (hb6.setCell (Nat.le_refl _) _).setCell (Nat.le_succ _) _
   clear u1 u2 u1' u2' HC hb5 hb6
   go_wp2
   go_roundw
   case rel => exact ⟨HB6.out, .inr (.inr (.inl ⟨rfl, U1.out, U2.out⟩))⟩
   case measure => simp [intOf]
  ·have HC := Lib.hid (HSD.out k.h wr KH.out hbw)
   generalize loS ns k.h v = lo at *
   generalize hiS ns k.h v = hi at *
   have T1' := Lib.hid t1
   have T2' := Lib.hid t2
   clear t1 t2 hbw
   have hix := ask_at2
   go_wp2_with fail
   clear hix
   refine HC.out.mono ?_
   rintro e w5 ⟨rfl, hb5⟩
   have u1 := T1'.out.new hb5
   have u2 := T2'.out.new hb5
   have z0 := u1.c2
   have z1 := u1.fz 2
   have u1' := u1.set2 lo
   have u2' := (u2.other (bk' := W4.heap.size) (i := 2) (.int .i64 lo) (by omega))
   have z2 := u2'.c2
   have z3 := u2'.fz 2
   have hb6 := HBR.out.trans (hb5.mono hbrs)
   have U1 := Lib.hid (u1'.other (bk' := W4.heap.size + 1) (i := 2) (.int .i64 hi) (by omega))
   have U2 := Lib.hid (u2'.set2 hi)
   have HB6 : Hid (Below W4.heap.size W4 ((w5.setCell ⟨W4.heap.size, 2, none⟩ (.int .i64 lo)).setCell ⟨W4.heap.size + 1, 2, none⟩ (.int .i64 hi))) := (hb6.setCell (Nat.le_refl _) _).setCell (Nat.le_succ _) _
   clear u1 u2 u1' u2' HC hb5 hb6
   go_wp2
   go_roundw
   case rel => exact ⟨HB6.out, .inr (.inr (.inr ⟨rfl, U1.out, U2.out⟩))⟩
   case measure => simp [intOf]
  ·have hlo : (loK ns k v).val = .agg #[.int .i64 (loS ns k.v v), .int .i64 (loS ns k.l v), .int .i64 (loS ns k.h v)] := rfl
   have hhi : (hiK ns k v).val = .agg #[.int .i64 (hiS ns k.v v), .int .i64 (hiS ns k.l v), .int .i64 (hiS ns k.h v)] := rfl
   rw [hlo] at HC1
   rw [hhi] at HC2
   clear hlo hhi HSD
   generalize loS ns k.v v = la at *
   generalize loS ns k.l v = lb at *
   generalize loS ns k.h v = lc at *
   generalize hiS ns k.v v = ha at *
   generalize hiS ns k.l v = hb at *
   generalize hiS ns k.h v = hc at *
   have TK := Lib.hid (SD.out _ HBR.out).2
   have z0 := t1.c0
   have z1 := t1.c1
   have z2 := t1.c2
   have HT2 := Lib.hid t2
   have HC1' := Lib.hid (HC1.out _ hbw)
   have HBW := Lib.hid hbw
   have OO := Lib.hid (fun j (ho : O j) => (HW.out.space.own j ho).2)
   have dl := HW.out.work.dlt
   clear HC1 t1 t2 hbw SD
   go_wp2_with fail
   refine HC1'.out.mono ?_
   rintro e w7 ⟨rfl, O1, hw7, mm7⟩
   have hs7 := mm7.size
   have t27 : Tri w7 (W4.heap.size + 1) ha hb hc := HT2.out.kept mm7.kept (fun ho => ho.elim (fun h => by have := OO.out _ h; omega) (fun h => by omega))
   have tk7 : Tri w7 w.heap.size k.v k.l k.h := TK.out.kept mm7.kept (fun ho => ho.elim (fun h => by have := OO.out _ h; omega) (fun h => by omega))
   have z3 := t27.c0
   have z4 := t27.c1
   have z5 := t27.c2
   have HC2' := Lib.hid (HC2.out O1 w7 hw7)
   have HTK := Lib.hid tk7
   have HM7 := Lib.hid mm7
   clear HC1' HC2 HT2 TK t27 tk7 mm7 z0 z1 z2
   go_wp2_with fail
   refine HC2'.out.mono ?_
   rintro e w8 ⟨rfl, O2, hw8, mm8⟩
   have hs8 := mm8.size
   have dl7 : dm < w7.heap.size := by omega
   have o17 : ¬ O1 w.heap.size := HM7.out.beside (by omega) (fun h => by have := OO.out _ h; omega)
   have tk8 : Tri w8 w.heap.size k.v k.l k.h := HTK.out.kept mm8.kept (fun ho => ho.elim o17 (fun h => by omega))
   have o28 : ¬ O2 w.heap.size := mm8.beside (by omega) o17
   have y8 := hw8.work.c0
   have HC3' := Lib.hid (HC3.out O2 w8 hw8.space hw8.hB)
   have HTK8 := Lib.hid tk8
   have HM8 := Lib.hid (HM7.out.trans mm8)
   have HW8 := Lib.hid hw8
   clear HC2' HC3 HTK HM7 tk8 mm8 hw8 z3 z4 z5
   go_wp2_with fail
   refine HC3'.out.mono ?_
   rintro e w9 ⟨rfl, O3, hs9, mv9⟩
   have hw9 := HW8.out.moved hs9 mv9 HI3.out.good HI3.out.ext
   have tk9 : Tri w9 w.heap.size k.v k.l k.h := HTK8.out.kept mv9.kept o28
   have mm9 := HM8.out.trans (MM.of_moves (dm := dm) mv9)
   have hw9d := hw9.new (Below.refl _ w9).drew
   obtain ⟨D, hD, hR⟩ := hw9d.work.hmap
   obtain ⟨w10, D', hrun, hD', hR', hK⟩ := astore hD hR (by omega) HOK.out (x := r3.2) HI3.out.i64
   have a0 : w9.drew.cell? ⟨wk, 2, none⟩ = some (.map (some dm)) := hw9.work.c2
   have tk9d := tk9.new (Below.refl _ w9).drew
   have a1 := tk9d.c0
   have a2 := tk9d.c1
   have a3 := tk9d.c2
   have hne : wk ≠ dm := fun e => hw9.work.d e.symm
   have hbne : w.heap.size ≠ dm := by omega
   have hl9 := hw9d.work.lt
   have b0 := (hK.cell (a := ⟨wk, 2, none⟩) hl9 hne).trans a0
   have tk10 := tk9d.kept hK hbne
   have b1 := tk10.c0
   have b2 := tk10.c1
   have b3 := tk10.c2
   have hfin : WS B w10 s b wk dm O3 F op vars room r3.1 (memoPut r2.2.1 k r3.2) :=
    ⟨hw9d.space.kept hK (fun j ho e => hw9.o2 (e ▸ ho)) hw9.sd, hw9d.work.turned hK hD' hR', HALL.out.good, HALL.out.memo, hw9.o1, hw9.o2, hw9.sd, Nat.le_trans hw9d.hB hK.size⟩
   have hmm : MM O O3 dm w w10 := by
    have h1 : MM O O3 dm w w9 := (MM.of_below HBW.out).trans mm9
    have h2 : MM O3 O3 dm w9 w10 := ⟨(Kept.refl _ w9).drew.andThen (hK.mono (fun j hj => .inr hj)) (fun j hj _ => hj), fun _ h => .inl h⟩
    exact h1.trans h2
   have HFIN := Lib.hid hfin
   have HMM := Lib.hid hmm
   clear HC3' HTK8 HM8 HW8 hs9 mv9 hw9 tk9 mm9 hw9d hD hR hD' hR' hK tk9d tk10 hfin hmm HALL y8
   go_wp2_with fail
   go_region_held3 (fun X => X.cell? ⟨wk, 2, none⟩ = some (.map (some dm)) /\ X.cell? ⟨w.heap.size, 0, none⟩ = some (.int .i64 k.v) /\ X.cell? ⟨w.heap.size, 1, none⟩ = some (.int .i64 k.l) /\ X.cell? ⟨w.heap.size, 2, none⟩ = some (.int .i64 k.h)) (first | exact ⟨a0, a1, a2, a3⟩ | exact ⟨b0, b1, b2, b3⟩) (first | fail)
   go_wp2
   go_ret2
   exact ⟨rfl, O3, HFIN.out, HMM.out⟩
theorem makes_any (hroom : room <= 4000) (hF : Knows F op) : ∀ d, MakesOk B s b wk dm F op vars room d
 | 0 => fun ns m k O w h h3 hd hl hm => by
  unfold makesF
  cases e : knownF op k with
  | none => have := known_none h.good.ranked h3 e; omega
  | some x => exact makes_known h hF x e
 | d + 1 => fun ns m k O w h h3 hd hl hm => by
  cases e : knownF op k with
  | some x =>
   have : makesF (d + 1) op ns m k = (ns, m, x) := by unfold makesF; rw [e]
   rw [this]; exact makes_known h hF x e
  | none =>
   cases e2 : look m k with
   | some x =>
    have : makesF (d + 1) op ns m k = (ns, m, x) := by unfold makesF; rw [e]; simp only; rw [e2]
    rw [this]; exact makes_look h hF x e (look_mem e2)
   | none => exact makes_rec hroom hF d (makes_any hroom hF d) h h3 hd hl hm e e2
end
end Go.Proofs.YtcjjekhecjmaeaaGreatDoor
