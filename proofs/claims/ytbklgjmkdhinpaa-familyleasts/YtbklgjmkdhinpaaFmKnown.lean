/- What is seen at once of two families. -/
import Derived.Test.YtbklgjmkdhinpaaFmCtx
set_option maxHeartbeats 2000000
set_option maxRecDepth 100000
namespace Go.Proofs.Ytbklgjmkdhinpaa.Fm
open Go.RowKit Go.Maps Go.Proofs.Ytbklgjmkdhinpaa.Bd
def Two (W : World) (r : Nat) (x y : Int) : Prop := W.heap[r]? = some (.cells #[.int .i64 x, .int .i64 y] 95)
theorem two_put {W : World} {r : Nat} {x y : Int} (h : Two W r x y) (m n : Int) :
  (W.cell? ⟨r, 0, none⟩ = some (.int .i64 x) /\ W.frozen? ⟨r, 0, none⟩ = false /\ W.cell? ⟨r, 1, none⟩ = some (.int .i64 y) /\ W.frozen? ⟨r, 1, none⟩ = false) /\
  ((W.setCell ⟨r, 0, none⟩ (.int .i64 m)).cell? ⟨r, 1, none⟩ = some (.int .i64 y) /\ (W.setCell ⟨r, 0, none⟩ (.int .i64 m)).frozen? ⟨r, 1, none⟩ = false) /\
  ((W.setCell ⟨r, 0, none⟩ (.int .i64 m)).setCell ⟨r, 1, none⟩ (.int .i64 n)).cell? ⟨r, 0, none⟩ = some (.int .i64 m) /\
  ((W.setCell ⟨r, 0, none⟩ (.int .i64 m)).setCell ⟨r, 1, none⟩ (.int .i64 n)).cell? ⟨r, 1, none⟩ = some (.int .i64 n) := by
 have h0 : W.cell? ⟨r, 0, none⟩ = some (.int .i64 x) := by unfold Two at h; simp [World.cell?, h]
 have h1 : W.cell? ⟨r, 1, none⟩ = some (.int .i64 y) := by unfold Two at h; simp [World.cell?, h]
 have f0 : W.frozen? ⟨r, 0, none⟩ = false := by unfold Two at h; simp [World.frozen?, h]
 have f1 : W.frozen? ⟨r, 1, none⟩ = false := by unfold Two at h; simp [World.frozen?, h]
 have e1 : (W.setCell ⟨r, 0, none⟩ (.int .i64 m)).cell? ⟨r, 1, none⟩ = some (.int .i64 y) := by rw [World.cell?_setCell_other _ _ _ _ (by simp)]; exact h1
 refine ⟨⟨h0, f0, h1, f1⟩, ⟨e1, by rw [World.frozen?_setCell]; exact f1⟩, ?_, World.cell?_setCell_same' _ _ _ (by rw [e1]; rfl)⟩
 rw [World.cell?_setCell_other _ _ _ _ (by simp)]
 exact World.cell?_setCell_same' _ _ _ (by rw [h0]; rfl)
theorem Two.new (w : World) (x y : Int) : Two (w.alloc (.cells #[.int .i64 x, .int .i64 y] 95)) w.heap.size x y := by
 show (w.heap.push _)[w.heap.size]? = _
 simp
theorem Two.below {w w' : World} {r : Nat} {x y : Int} (h : Two w r x y) (hb : Below w.heap.size w w') : Two w' r x y := (hb.block r (Array.getElem?_eq_some_iff.1 h).1).trans h
section
variable {B s b : Nat} {O : Nat -> Prop} {vars : Nat} {ns : List Nd} {w : World} {c : Ctx}
theorem parts_any {room : Int} {wk : Nat} (hS : SpaceAt B w s b O vars room ns) (w0 : w.cell? ⟨wk, 0, none⟩ = some (.pointer (some ⟨s, 0, none⟩))) (hl : ns.length <= 90000) (h v : Int) (hi : I64 h) (hv1 : v < 24) :
  Calls Try.prog 87 #[.pointer (some ⟨wk, 0, none⟩), .int .i64 h, .int .i64 v] w fun e w' => e = .returned (.agg #[.int .i64 (loZ ns h v), .int .i64 (hiZ ns h v)]) /\ Below w.heap.size w w' := by
 have hb0 := below_new w (.cells #[.int .i64 0, .int .i64 0] 95)
 have wkl : wk < w.heap.size := (cells_at (a := ⟨wk, 0, none⟩) w0).lt
 have q0 := (hb0.cell (p := ⟨wk, 0, none⟩) wkl).trans w0
 have c0 := (hS.new hb0).c0
 have HG := Lib.hid (spGet (hS.new hb0) h hi hl)
 have HR := Lib.hid (Two.new w 0 0)
 have HB0 := Lib.hid hb0
 clear hb0
 by_cases ht : topOf ns h = 24
 ·have e1 : loZ ns h v = h := by unfold loZ; rw [if_neg (by omega)]
  have e2 : hiZ ns h v = 0 := by unfold hiZ; rw [if_neg (by omega)]
  rw [e1, e2]
  rw [show decide (topOf ns h ≠ 24) = false by simp [ht]] at HG
  generalize getOf ns h = gn at *
  obtain ⟨gv, gl, gh⟩ := gn
  unfold Nd.val at HG
  clear hS e1 e2 ht
  go_enter Try.func87, Try.ntmps87
  go_wp2_with fail
  refine HG.out.mono ?_
  rintro e w1 ⟨rfl, hb1⟩
  have hb2 := hb1.alloc hb1.size (.cells #[.int .i64 gv, .int .i64 gl, .int .i64 gh] 74)
  obtain ⟨x0, x1, x2, -⟩ := cell3 w1 (.int .i64 gv) (.int .i64 gl) (.int .i64 gh) 74
  have hr2 := HR.out.below hb2
  have HB3 : Hid (Below w.heap.size w (w1.alloc (.cells #[.int .i64 gv, .int .i64 gl, .int .i64 gh] 74))) := HB0.out.trans (hb2.mono HB0.out.size)
  clear HG hb1 hb2 HR HB0
  obtain ⟨⟨r0, r1, r2, r3⟩, ⟨r4, r5⟩, r6, r7⟩ := two_put hr2 h 0
  clear hr2
  have R6 := Lib.hid r6
  have R7 := Lib.hid r7
  clear r6 r7
  go_wp2
  exact bodyPost_ret (v := .agg #[.int .i64 h, .int .i64 0]) (by simp [results, Try.results87, go_sem, R6.out, R7.out]) rfl ⟨rfl, (HB3.out.setCell (Nat.le_refl _) _).setCell (Nat.le_refl _) _⟩
 rw [show decide (topOf ns h ≠ 24) = true by simp [ht]] at HG
 have hgv : (getOf ns h).v = topOf ns h := by
  obtain ⟨h1, h2, h3, h4⟩ := node_at ht
  unfold getOf; rw [if_neg ht]; exact h3.symm
 have hgn : getOf ns h = nd ns (pl h) := by unfold getOf; rw [if_neg ht]; rfl
 by_cases ev : topOf ns h = v
 ·have e1 : loZ ns h v = (getOf ns h).l := by unfold loZ; rw [if_pos ev, hgn]
  have e2 : hiZ ns h v = (getOf ns h).h := by unfold hiZ; rw [if_pos ev, hgn]
  rw [e1, e2]
  rw [ev] at hgv
  generalize getOf ns h = gn at *
  obtain ⟨gv, gl, gh⟩ := gn
  simp only at hgv
  subst hgv
  unfold Nd.val at HG
  clear hS e1 e2 ht ev hgn
  go_enter Try.func87, Try.ntmps87
  go_wp2_with fail
  refine HG.out.mono ?_
  rintro e w1 ⟨rfl, hb1⟩
  have hb2 := hb1.alloc hb1.size (.cells #[.int .i64 gv, .int .i64 gl, .int .i64 gh] 74)
  obtain ⟨x0, x1, x2, -⟩ := cell3 w1 (.int .i64 gv) (.int .i64 gl) (.int .i64 gh) 74
  have hr2 := HR.out.below hb2
  have HB3 : Hid (Below w.heap.size w (w1.alloc (.cells #[.int .i64 gv, .int .i64 gl, .int .i64 gh] 74))) := HB0.out.trans (hb2.mono HB0.out.size)
  clear HG hb1 hb2 HR HB0
  obtain ⟨⟨r0, r1, r2, r3⟩, ⟨r4, r5⟩, r6, r7⟩ := two_put hr2 gl gh
  clear hr2
  have R6 := Lib.hid r6
  have R7 := Lib.hid r7
  clear r6 r7
  go_wp2
  exact bodyPost_ret (v := .agg #[.int .i64 gl, .int .i64 gh]) (by simp [results, Try.results87, go_sem, R6.out, R7.out]) rfl ⟨rfl, (HB3.out.setCell (Nat.le_refl _) _).setCell (Nat.le_refl _) _⟩
 ·have e1 : loZ ns h v = h := by unfold loZ; rw [if_neg ev]
  have e2 : hiZ ns h v = 0 := by unfold hiZ; rw [if_neg ev]
  rw [e1, e2]
  have hne : ¬ (getOf ns h).v = v := by rw [hgv]; exact ev
  generalize getOf ns h = gn at *
  obtain ⟨gv, gl, gh⟩ := gn
  simp only at hne
  unfold Nd.val at HG
  clear hS e1 e2 ht ev hgn hgv
  go_enter Try.func87, Try.ntmps87
  go_wp2_with fail
  refine HG.out.mono ?_
  rintro e w1 ⟨rfl, hb1⟩
  have hb2 := hb1.alloc hb1.size (.cells #[.int .i64 gv, .int .i64 gl, .int .i64 gh] 74)
  obtain ⟨x0, x1, x2, -⟩ := cell3 w1 (.int .i64 gv) (.int .i64 gl) (.int .i64 gh) 74
  have hr2 := HR.out.below hb2
  have HB3 : Hid (Below w.heap.size w (w1.alloc (.cells #[.int .i64 gv, .int .i64 gl, .int .i64 gh] 74))) := HB0.out.trans (hb2.mono HB0.out.size)
  clear HG hb1 hb2 HR HB0
  obtain ⟨⟨r0, r1, r2, r3⟩, ⟨r4, r5⟩, r6, r7⟩ := two_put hr2 h 0
  clear hr2
  have R6 := Lib.hid r6
  have R7 := Lib.hid r7
  clear r6 r7
  go_wp2
  exact bodyPost_ret (v := .agg #[.int .i64 h, .int .i64 0]) (by simp [results, Try.results87, go_sem, R6.out, R7.out]) rfl ⟨rfl, (HB3.out.setCell (Nat.le_refl _) _).setCell (Nat.le_refl _) _⟩
theorem node_any (hC : CtxAt B w c O vars ns) (hcnt : (cnt ns : Int) < (c.room : Int)) (v p q : Int) (hv0 : 0 <= v) (hv1 : v < 24) (hp1 : hasB ns p = true) (hq1 : hasB ns q = true) (tp : v < topOf ns p) (tq : v < topOf ns q) :
  Calls Try.prog 86 #[.pointer (some ⟨c.wk, 0, none⟩), .int .i64 v, .agg #[.int .i64 p, .int .i64 q]] w fun e w' => e = .returned (.int .i64 (nodeZ ns v p q).2) /\ ∃ O', SpaceAt B w' c.s c.b O' vars (c.room : Int) (nodeZ ns v p q).1 /\ Moves O O' w w' := by
 have hb0 := below_new w (.cells #[.int .i64 p, .int .i64 q] 95)
 have hC0 := hC.new hb0
 have w0 := hC0.w0
 have w1 := hC0.w1
 have c0 := hC0.space.c0
 have hr := Two.new w p q
 obtain ⟨⟨r0, -, r2, -⟩, -⟩ := two_put hr 0 0
 clear hr
 have HB0 := Lib.hid hb0
 by_cases e : q = 0
 ·have hn : nodeZ ns v p q = (ns, p) := by unfold nodeZ; rw [if_pos e]
  rw [hn]
  subst e
  have HS := Lib.hid hC0.space
  clear hC hC0 hp1 hq1 tp tq hn hb0
  go_enter Try.func86, Try.ntmps86
  go_wp2
  go_ret
  exact ⟨rfl, O, HS.out, Moves.of_below O HB0.out⟩
 ·have hn : nodeZ ns v p q = makeF ns ⟨v, p, q⟩ := by unfold nodeZ; rw [if_neg e]
  rw [hn]
  have hl := hC.len
  have hbd : Below (w.alloc (.cells #[.int .i64 p, .int .i64 q] 95)).heap.size (w.alloc (.cells #[.int .i64 p, .int .i64 q] 95)) (w.alloc (.cells #[.int .i64 p, .int .i64 q] 95)).drew := (Below.refl _ _).drew
  have hC1 := hC0.new hbd
  have hm := make_any hC1.space (by omega) hcnt hC1.hB ⟨v, p, q⟩ ⟨⟨by show _ <= v; omega, by show v <= _; omega⟩, has_i64 hp1 (by omega), has_i64 hq1 (by omega)⟩ ⟨hv0, hv1, hp1, hq1, tp, tq⟩
  unfold Nd.val at hm
  have HM := Lib.hid hm
  have HC := Lib.hid hC1
  have bl : ¬ O w.heap.size := fun ho => by have := (hC.space.own _ ho).2; omega
  have bl2 : w.heap.size < (w.alloc (.cells #[.int .i64 p, .int .i64 q] 95)).drew.heap.size := by show _ < (w.alloc _).heap.size; simp
  have wl := hC1.wlt
  have sl := hC1.space.slt
  have wO := hC1.wO
  have sO := hC1.space.sO
  clear hC hC0 hC1 hp1 hq1 tp tq hn hb0 hbd hm
  generalize makeF ns ⟨v, p, q⟩ = r at *
  have q0 : (q == 0) = false := by simpa using e
  go_enter Try.func86, Try.ntmps86
  go_wp2_with fail
  generalize (w.alloc (.cells #[.int .i64 p, .int .i64 q] 95)) = W1 at *
  have e0 : W1.drew.cell? ⟨c.wk, 0, none⟩ = some (.pointer (some ⟨c.s, 0, none⟩)) := w0
  have e1 : W1.drew.cell? ⟨c.s, 0, none⟩ = some (.pointer (some ⟨c.b, 0, none⟩)) := c0
  have e2 : W1.drew.cell? ⟨w.heap.size, 0, none⟩ = some (.int .i64 p) := r0
  have e3 : W1.drew.cell? ⟨w.heap.size, 1, none⟩ = some (.int .i64 q) := r2
  go_region_held3 (fun w' => w'.cell? ⟨c.wk, 0, none⟩ = some (.pointer (some ⟨c.s, 0, none⟩)) /\ w'.cell? ⟨c.s, 0, none⟩ = some (.pointer (some ⟨c.b, 0, none⟩)) /\ w'.cell? ⟨w.heap.size, 0, none⟩ = some (.int .i64 p) /\ w'.cell? ⟨w.heap.size, 1, none⟩ = some (.int .i64 q)) (first | exact ⟨e0, e1, e2, e3⟩ | exact ⟨(hmv.cell (a := ⟨c.wk, 0, none⟩) wl wO).trans e0, (hmv.cell (a := ⟨c.s, 0, none⟩) sl sO).trans e1, (hmv.cell (a := ⟨w.heap.size, 0, none⟩) bl2 bl).trans e2, (hmv.cell (a := ⟨w.heap.size, 1, none⟩) bl2 bl).trans e3⟩)
   (first | (with_reducible refine HM.out.mono ?_; rintro e w2 ⟨rfl, O', hSp, hmv⟩))
  have wb2 : w2.heap[c.wk]? = some (.cells #[.pointer (some ⟨c.s, 0, none⟩), .nilIface] 90) := (hmv.kept.block _ wl wO).trans HC.out.wb
  have hset := wk_set wb2
  have g1 : w2.cell? ⟨c.wk, 1, none⟩ = some .nilIface := by simp [World.cell?, wb2]
  have f1 : w2.frozen? ⟨c.wk, 1, none⟩ = false := by simp [World.frozen?, wb2]
  have HSP := Lib.hid hSp
  have HMV : Hid (Moves O O' w w2) := (Moves.of_below O HB0.out.drew).trans hmv
  clear hSp hmv HM HC wb2 HB0
  go_wp2
  go_ret
  exact ⟨rfl, O', HSP.out, HMV.out⟩
end
end Go.Proofs.Ytbklgjmkdhinpaa.Fm
namespace Go.Proofs.Ytbklgjmkdhinpaa.Fm
open Go.RowKit Go.Maps Go.Proofs.Ytbklgjmkdhinpaa.Bd
def knX (k : K) (a b : Int) : Int := (knownZ k a b).getD (if k = .least then a else 0)
def KnowsC (F : FuncId) (k : K) : Prop := ∀ (a b : Int) (W : World), Calls Try.prog F #[.int .i64 a, .int .i64 b] W fun e w' => e = .returned (.tuple #[.int .i64 (knX k a b), .bool (knownZ k a b).isSome]) /\ W = w'
theorem knX_some {k : K} {a b x : Int} (h : knownZ k a b = some x) : knX k a b = x /\ (knownZ k a b).isSome = true := by unfold knX; rw [h]; exact ⟨rfl, rfl⟩
theorem knX_none {k : K} {a b : Int} (h : knownZ k a b = none) : knX k a b = (if k = .least then a else 0) /\ (knownZ k a b).isSome = false := by unfold knX; rw [h]; exact ⟨rfl, rfl⟩
theorem knows_or : KnowsC 67 .or := by
 intro a b W
 by_cases c0 : a = b
 ·obtain ⟨k1, k2⟩ := knX_some (show knownZ .or a b = some a by simp only [knownZ]; (repeat' split) <;> first | rfl | (exfalso; omega) | (congr 1; omega))
  rw [k1, k2]
  have q0 : (a == b) = true := by simpa using c0
  clear k1 k2
  subst c0
  go_enter Try.func67, Try.ntmps67
  go_wp2
  go_ret2
  exact ⟨rfl, rfl⟩
 have q0 : (a == b) = false := by simpa using c0
 by_cases c1 : b = 0
 ·obtain ⟨k1, k2⟩ := knX_some (show knownZ .or a b = some a by simp only [knownZ]; (repeat' split) <;> first | rfl | (exfalso; omega) | (congr 1; omega))
  rw [k1, k2]
  have q1 : (b == 0) = true := by simpa using c1
  clear k1 k2
  subst c1
  go_enter Try.func67, Try.ntmps67
  go_wp2
  go_ret2
  exact ⟨rfl, rfl⟩
 have q1 : (b == 0) = false := by simpa using c1
 by_cases c2 : a = 0
 ·obtain ⟨k1, k2⟩ := knX_some (show knownZ .or a b = some b by simp only [knownZ]; (repeat' split) <;> first | rfl | (exfalso; omega) | (congr 1; omega))
  rw [k1, k2]
  have q2 : (a == 0) = true := by simpa using c2
  clear k1 k2
  subst c2
  go_enter Try.func67, Try.ntmps67
  go_wp2
  go_ret2
  exact ⟨rfl, rfl⟩
 have q2 : (a == 0) = false := by simpa using c2
 obtain ⟨k1, k2⟩ := knX_none (show knownZ .or a b = none by simp only [knownZ]; (repeat' split) <;> first | rfl | (exfalso; omega) | (congr 1; omega))
 rw [k1, k2]
 clear k1 k2
 rw [if_neg (by decide)]
 go_enter Try.func67, Try.ntmps67
 go_wp2
 go_ret2
 exact ⟨rfl, rfl⟩
theorem knows_and : KnowsC 65 .and := by
 intro a b W
 by_cases c0 : a = b
 ·obtain ⟨k1, k2⟩ := knX_some (show knownZ .and a b = some a by simp only [knownZ]; (repeat' split) <;> first | rfl | (exfalso; omega) | (congr 1; omega))
  rw [k1, k2]
  have q0 : (a == b) = true := by simpa using c0
  clear k1 k2
  subst c0
  go_enter Try.func65, Try.ntmps65
  go_wp2
  go_ret2
  exact ⟨rfl, rfl⟩
 have q0 : (a == b) = false := by simpa using c0
 by_cases c1 : a = 0
 ·obtain ⟨k1, k2⟩ := knX_some (show knownZ .and a b = some 0 by simp only [knownZ]; (repeat' split) <;> first | rfl | (exfalso; omega) | (congr 1; omega))
  rw [k1, k2]
  have q1 : (a == 0) = true := by simpa using c1
  clear k1 k2
  subst c1
  go_enter Try.func65, Try.ntmps65
  go_wp2
  go_ret2
  exact ⟨rfl, rfl⟩
 have q1 : (a == 0) = false := by simpa using c1
 by_cases c2 : b = 0
 ·obtain ⟨k1, k2⟩ := knX_some (show knownZ .and a b = some 0 by simp only [knownZ]; (repeat' split) <;> first | rfl | (exfalso; omega) | (congr 1; omega))
  rw [k1, k2]
  have q2 : (b == 0) = true := by simpa using c2
  clear k1 k2
  subst c2
  go_enter Try.func65, Try.ntmps65
  go_wp2
  go_ret2
  exact ⟨rfl, rfl⟩
 have q2 : (b == 0) = false := by simpa using c2
 obtain ⟨k1, k2⟩ := knX_none (show knownZ .and a b = none by simp only [knownZ]; (repeat' split) <;> first | rfl | (exfalso; omega) | (congr 1; omega))
 rw [k1, k2]
 clear k1 k2
 rw [if_neg (by decide)]
 go_enter Try.func65, Try.ntmps65
 go_wp2
 go_ret2
 exact ⟨rfl, rfl⟩
theorem knows_less : KnowsC 69 .less := by
 intro a b W
 by_cases c0 : a = b
 ·obtain ⟨k1, k2⟩ := knX_some (show knownZ .less a b = some 0 by simp only [knownZ]; (repeat' split) <;> first | rfl | (exfalso; omega) | (congr 1; omega))
  rw [k1, k2]
  have q0 : (a == b) = true := by simpa using c0
  clear k1 k2
  subst c0
  go_enter Try.func69, Try.ntmps69
  go_wp2
  go_ret2
  exact ⟨rfl, rfl⟩
 have q0 : (a == b) = false := by simpa using c0
 by_cases c1 : a = 0
 ·obtain ⟨k1, k2⟩ := knX_some (show knownZ .less a b = some 0 by simp only [knownZ]; (repeat' split) <;> first | rfl | (exfalso; omega) | (congr 1; omega))
  rw [k1, k2]
  have q1 : (a == 0) = true := by simpa using c1
  clear k1 k2
  subst c1
  go_enter Try.func69, Try.ntmps69
  go_wp2
  go_ret2
  exact ⟨rfl, rfl⟩
 have q1 : (a == 0) = false := by simpa using c1
 by_cases c2 : b = 0
 ·obtain ⟨k1, k2⟩ := knX_some (show knownZ .less a b = some a by simp only [knownZ]; (repeat' split) <;> first | rfl | (exfalso; omega) | (congr 1; omega))
  rw [k1, k2]
  have q2 : (b == 0) = true := by simpa using c2
  clear k1 k2
  subst c2
  go_enter Try.func69, Try.ntmps69
  go_wp2
  go_ret2
  exact ⟨rfl, rfl⟩
 have q2 : (b == 0) = false := by simpa using c2
 obtain ⟨k1, k2⟩ := knX_none (show knownZ .less a b = none by simp only [knownZ]; (repeat' split) <;> first | rfl | (exfalso; omega) | (congr 1; omega))
 rw [k1, k2]
 clear k1 k2
 rw [if_neg (by decide)]
 go_enter Try.func69, Try.ntmps69
 go_wp2
 go_ret2
 exact ⟨rfl, rfl⟩
theorem knows_join : KnowsC 71 .join := by
 intro a b W
 by_cases c0 : a = 0
 ·obtain ⟨k1, k2⟩ := knX_some (show knownZ .join a b = some a by simp only [knownZ]; (repeat' split) <;> first | rfl | (exfalso; omega) | (congr 1; omega))
  rw [k1, k2]
  have q0 : (a == 0) = true := by simpa using c0
  clear k1 k2
  subst c0
  go_enter Try.func71, Try.ntmps71
  go_wp2
  go_ret2
  exact ⟨rfl, rfl⟩
 have q0 : (a == 0) = false := by simpa using c0
 by_cases c1 : b = 1
 ·obtain ⟨k1, k2⟩ := knX_some (show knownZ .join a b = some a by simp only [knownZ]; (repeat' split) <;> first | rfl | (exfalso; omega) | (congr 1; omega))
  rw [k1, k2]
  have q1 : (b == 1) = true := by simpa using c1
  clear k1 k2
  subst c1
  go_enter Try.func71, Try.ntmps71
  go_wp2
  go_ret2
  exact ⟨rfl, rfl⟩
 have q1 : (b == 1) = false := by simpa using c1
 by_cases c2 : b = 0
 ·obtain ⟨k1, k2⟩ := knX_some (show knownZ .join a b = some b by simp only [knownZ]; (repeat' split) <;> first | rfl | (exfalso; omega) | (congr 1; omega))
  rw [k1, k2]
  have q2 : (b == 0) = true := by simpa using c2
  clear k1 k2
  subst c2
  go_enter Try.func71, Try.ntmps71
  go_wp2
  go_ret2
  exact ⟨rfl, rfl⟩
 have q2 : (b == 0) = false := by simpa using c2
 by_cases c3 : a = 1
 ·obtain ⟨k1, k2⟩ := knX_some (show knownZ .join a b = some b by simp only [knownZ]; (repeat' split) <;> first | rfl | (exfalso; omega) | (congr 1; omega))
  rw [k1, k2]
  have q3 : (a == 1) = true := by simpa using c3
  clear k1 k2
  subst c3
  go_enter Try.func71, Try.ntmps71
  go_wp2
  go_ret2
  exact ⟨rfl, rfl⟩
 have q3 : (a == 1) = false := by simpa using c3
 obtain ⟨k1, k2⟩ := knX_none (show knownZ .join a b = none by simp only [knownZ]; (repeat' split) <;> first | rfl | (exfalso; omega) | (congr 1; omega))
 rw [k1, k2]
 clear k1 k2
 rw [if_neg (by decide)]
 go_enter Try.func71, Try.ntmps71
 go_wp2
 go_ret2
 exact ⟨rfl, rfl⟩
theorem knows_without : KnowsC 83 .without := by
 intro a b W
 by_cases c0 : a = b
 ·obtain ⟨k1, k2⟩ := knX_some (show knownZ .without a b = some 0 by simp only [knownZ]; (repeat' split) <;> first | rfl | (exfalso; omega) | (congr 1; omega))
  rw [k1, k2]
  have q0 : (a == b) = true := by simpa using c0
  clear k1 k2
  subst c0
  go_enter Try.func83, Try.ntmps83
  go_wp2
  go_ret2
  exact ⟨rfl, rfl⟩
 have q0 : (a == b) = false := by simpa using c0
 by_cases c1 : a = 0
 ·obtain ⟨k1, k2⟩ := knX_some (show knownZ .without a b = some 0 by simp only [knownZ]; (repeat' split) <;> first | rfl | (exfalso; omega) | (congr 1; omega))
  rw [k1, k2]
  have q1 : (a == 0) = true := by simpa using c1
  clear k1 k2
  subst c1
  go_enter Try.func83, Try.ntmps83
  go_wp2
  go_ret2
  exact ⟨rfl, rfl⟩
 have q1 : (a == 0) = false := by simpa using c1
 by_cases c2 : b = 1
 ·obtain ⟨k1, k2⟩ := knX_some (show knownZ .without a b = some 0 by simp only [knownZ]; (repeat' split) <;> first | rfl | (exfalso; omega) | (congr 1; omega))
  rw [k1, k2]
  have q2 : (b == 1) = true := by simpa using c2
  clear k1 k2
  subst c2
  go_enter Try.func83, Try.ntmps83
  go_wp2
  go_ret2
  exact ⟨rfl, rfl⟩
 have q2 : (b == 1) = false := by simpa using c2
 by_cases c3 : b = 0
 ·obtain ⟨k1, k2⟩ := knX_some (show knownZ .without a b = some a by simp only [knownZ]; (repeat' split) <;> first | rfl | (exfalso; omega) | (congr 1; omega))
  rw [k1, k2]
  have q3 : (b == 0) = true := by simpa using c3
  clear k1 k2
  subst c3
  go_enter Try.func83, Try.ntmps83
  go_wp2
  go_ret2
  exact ⟨rfl, rfl⟩
 have q3 : (b == 0) = false := by simpa using c3
 obtain ⟨k1, k2⟩ := knX_none (show knownZ .without a b = none by simp only [knownZ]; (repeat' split) <;> first | rfl | (exfalso; omega) | (congr 1; omega))
 rw [k1, k2]
 clear k1 k2
 rw [if_neg (by decide)]
 go_enter Try.func83, Try.ntmps83
 go_wp2
 go_ret2
 exact ⟨rfl, rfl⟩
theorem knows_least : KnowsC 76 .least := by
 intro a b W
 by_cases c0 : a = 0
 ·obtain ⟨k1, k2⟩ := knX_some (show knownZ .least a b = some a by simp only [knownZ]; (repeat' split) <;> first | rfl | (exfalso; omega) | (congr 1; omega))
  rw [k1, k2]
  have q0 : (a == 0) = true := by simpa using c0
  clear k1 k2
  subst c0
  go_enter Try.func76, Try.ntmps76
  go_wp2
  go_ret2
  exact ⟨rfl, rfl⟩
 have q0 : (a == 0) = false := by simpa using c0
 by_cases c1 : a = 1
 ·obtain ⟨k1, k2⟩ := knX_some (show knownZ .least a b = some a by simp only [knownZ]; (repeat' split) <;> first | rfl | (exfalso; omega) | (congr 1; omega))
  rw [k1, k2]
  have q1 : (a == 1) = true := by simpa using c1
  clear k1 k2
  subst c1
  go_enter Try.func76, Try.ntmps76
  go_wp2
  go_ret2
  exact ⟨rfl, rfl⟩
 have q1 : (a == 1) = false := by simpa using c1
 obtain ⟨k1, k2⟩ := knX_none (show knownZ .least a b = none by simp only [knownZ]; (repeat' split) <;> first | rfl | (exfalso; omega) | (congr 1; omega))
 rw [k1, k2]
 clear k1 k2
 rw [if_pos rfl]
 go_enter Try.func76, Try.ntmps76
 go_wp2
 go_ret2
 exact ⟨rfl, rfl⟩
end Go.Proofs.Ytbklgjmkdhinpaa.Fm
