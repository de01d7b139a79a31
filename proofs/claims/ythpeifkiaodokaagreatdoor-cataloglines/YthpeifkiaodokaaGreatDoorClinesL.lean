/- CatalogLines: the law's walk. -/
import Derived.Test.YthpeifkiaodokaaGreatDoorRlLineF
import Derived.Test.YthpeifkiaodokaaGreatDoorCtLineF
import Derived.Test.YthpeifkiaodokaaGreatDoorSvRTxt
import Derived.Laws.StructEq
import Derived.Laws.Tables
import Derived.Laws.Cover2
namespace Go.Proofs.YthpeifkiaodokaaGreatDoor
open Go.RowKit Go.Shelf Sv

set_option maxRecDepth 100000 in
theorem eq_triC (a b c : Int) (w : World) : (Op.equalIn 10000 48 (.agg #[.int .i64 a, .int .i64 b, .int .i64 c]) (.agg #[.int .i64 a, .int .i64 b, .int .i64 c])).run Tryz.prog w = .ok true w := by
  have u3 := Tryz.underlying3
  have a3 := Tryz.isAgg3
  have z3 := Tryz.sizeOf3
  rw [show (10000 : Nat) = 9999 + 1 from rfl, Op.equalIn]
  simp only [Sem.run_bind, run_underlying Tryz.underlying48, Result.andThen_ok]
  simp only [Std.Legacy.Range.forIn_eq_forIn_range', Std.Legacy.Range.size, Nat.sub_zero, Nat.add_sub_cancel, Nat.div_one, List.range'_succ, List.range'_zero, List.forIn_cons, List.forIn_nil]
  go_simp
theorem tailF_err {k : Nat} {nm : ByteArray} {ns : List Nat} {ot rest : ByteArray} {q : Int} {o : Option Nat} (h : tailF k nm ns ot rest = .error (q, o)) : q ≠ 0 := by
  unfold tailF at h
  split at h
  · rename_i e hx; cases h; exact rngF_err hx
  · cases h
theorem lineF_err {s : ByteArray} {q : Int} {o : Option Nat} (h : lineF s = .error (q, o)) : q ≠ 0 := by
  unfold lineF at h
  split at h
  · cases h; decide
  · split at h
    · exact tailF_err h
    · split at h
      · rename_i hx; cases h; exact versF_err hx
      · split at h
        · split at h
          · cases h
          · cases h; decide
        · exact tailF_err h
theorem tailF_rg {k : Nat} {nm : ByteArray} {ns : List Nat} {ot rest : ByteArray} {x : Ln} (h : tailF k nm ns ot rest = .ok x) : Rg x.rng := by
  unfold tailF at h
  split at h
  · cases h
  · rename_i l hx
    cases h
    unfold rngF at hx
    split at hx
    · cases hx
    · split at hx
      · cases hx
      · rename_i hy; cases hx; exact rangeF_rg hy
theorem lineF_rg {s : ByteArray} {x : Ln} (h : lineF s = .ok x) : Rg x.rng := by
  unfold lineF at h
  split at h
  · cases h
  · split at h
    · exact tailF_rg h
    · split at h
      · cases h
      · split at h
        · split at h
          · cases h; exact rg_nil
          · cases h
        · exact tailF_rg h
/-- Both answers to a line, by the same letters. -/
theorem line_both (s : ByteArray) (hs : s.size ≤ 100000) (ad : Addr) (cap : Nat) : ∃ (x : Ln) (k p : Int), Rg x.rng ∧ (k = 0 → lineF s = .ok x) ∧
    (∀ W, Lw W → Calls Tryz.prog 45 #[.string s] W fun e w' => ∃ (a : Option Addr) (c : Nat) (er : Value), e = .returned (.tuple #[.agg #[.int .i64 x.kind, .string x.name, .int .i64 x.a, .int .i64 x.b, .int .i64 x.c, .string x.other, .slice a x.rng.length c], er]) ∧ SpAt w' (.slice a x.rng.length c) x.rng ∧ ErrIs w' er k p ∧ Below W.heap.size W w') ∧
    (∀ W, Lb W → FineR W → KindsAt W ad cap → Calls Tryz.prog 44 #[.string s] W fun e w' => ∃ (a : Option Addr) (c : Nat), e = .returned (.tuple #[.agg #[.int .i64 x.kind, .string x.name, .int .i64 x.a, .int .i64 x.b, .int .i64 x.c, .string x.other, .slice a (tp x.rng).length c], .agg #[.int .i64 k, .int .i64 p]]) ∧ NsAt w' (.slice a (tp x.rng).length c) (tp x.rng) ∧ Below W.heap.size W w') := by
  cases hx : lineF s with
  | ok x =>
    have hrg : Rg x.rng := lineF_rg hx
    refine ⟨x, 0, -1, hrg, fun _ => rfl, fun W hw => (line_any s W hs hw).mono fun e w' hh => ?_, fun W hw hF hK => (rline_any s W hs hw hF ad cap hK).mono fun e w' hh => ?_⟩
    · unfold LnRes at hh
      rw [hx] at hh
      obtain ⟨v, he, h1, -, -, h2⟩ := hh
      obtain ⟨a, c, rfl⟩ := h1.form
      exact ⟨a, c, _, he, h1, Or.inl ⟨rfl, rfl, rfl⟩, h2⟩
    · rw [hx] at hh
      obtain ⟨y, a, c, k, p, he, h1, -, -, h2, rfl, rfl, rfl⟩ := hh
      exact ⟨a, c, he, h1, h2⟩
  | error q =>
    obtain ⟨q, o⟩ := q
    have hq := lineF_err hx
    refine ⟨zeroLn, q, placeO o, rg_nil, fun h => absurd h hq, fun W hw => (line_any s W hs hw).mono fun e w' hh => ?_, fun W hw hF hK => (rline_any s W hs hw hF ad cap hK).mono fun e w' hh => ?_⟩
    · unfold LnRes at hh
      rw [hx] at hh
      obtain ⟨er, he, h1, h2⟩ := hh
      refine ⟨none, 0, er, he, spAt_nil _, ?_, h2⟩
      cases o with
      | none => exact Or.inr (Or.inl ⟨hq, rfl, h1⟩)
      | some i =>
        obtain ⟨N, h3, h4⟩ := h1
        exact Or.inr (Or.inr ⟨hq, N, h4.lt, h3, h4.cell 0, h4.cell 1⟩)
    · rw [hx] at hh
      obtain ⟨y, a, c, k, p, he, h1, -, -, h2, rfl, rfl, rfl⟩ := hh
      exact ⟨a, c, he, h1, h2⟩

set_option maxRecDepth 100000 in
set_option maxHeartbeats 1000000 in
theorem clines_long (s : ByteArray) (w : World) (h : ¬ s.size ≤ 1200) : Calls Tryz.prog 8 #[.string s] w fun r w' => r = .returned (.bool true) ∧ Below w.heap.size w w' := by
  have h1 : (1200 : Int) < (s.size : Int) := by omega
  clear h
  go_enter Tryz.func8, Tryz.ntmps8
  go_wp2
  go_ret
  exact ⟨rfl, Below.refl _ _⟩
set_option maxRecDepth 100000 in
set_option maxHeartbeats 4000000 in
theorem clines_short (s : ByteArray) (w : World) (hw : Lw w) (hF : FineR w) (ad : Addr) (cap : Nat) (hK : KindsAt w ad cap) (h : s.size ≤ 1200) : Calls Tryz.prog 8 #[.string s] w fun r w' => r = .returned (.bool true) ∧ Below w.heap.size w w' := by
  have h1 : ¬ (1200 : Int) < (s.size : Int) := by omega
  obtain ⟨x, k, p, hrg, -, HP0, HQ0⟩ := line_both s (by omega) ad cap
  have HQ := Lib.hid (HQ0 w hw.lb hF hK)
  have HP := Lib.hid (fun W (hb : Below w.heap.size w W) => HP0 W (hw.below hb))
  have HAT := Lib.hid (fun (er : Value) (W : World) (hb : Below w.heap.size w W) (he : ErrIs W er k p) => at_any k k p p er W (hw.below hb).lb.glob he)
  have HTX := Lib.hid (fun (v : Value) (W : World) (hb : Below w.heap.size w W) (hv : SpAt W v x.rng) => ptext_any x.rng hrg v W (hw.below hb).lb hv)
  have HRX := Lib.hid (fun (v : Value) (W : World) (hb : Below w.heap.size w W) (hv : NsAt W v (tp x.rng)) => rgtext_any x.rng hrg v W (hw.below hb).lb hv)
  clear HP0 HQ0 hw hF hK h hrg
  go_enter Tryz.func8, Tryz.ntmps8
  go_wp2_with fail
  refine HQ.out.mono ?_
  rintro e w1 ⟨ra, rc, rfl, n1, hb1⟩
  have hA1 : Below w1.heap.size w1 ((w1.alloc (.cells #[.int .i64 x.kind, .string x.name, .int .i64 x.a, .int .i64 x.b, .int .i64 x.c, .string x.other, .slice ra (tp x.rng).length rc] 79)).alloc (.cells #[.int .i64 k, .int .i64 p] 26)) := ((Below.refl _ w1).alloc (Nat.le_refl _) _).alloc (by simp) _
  have kl := (Blk.new w1 79 #[.int .i64 x.kind, .string x.name, .int .i64 x.a, .int .i64 x.b, .int .i64 x.c, .string x.other, .slice ra (tp x.rng).length rc]).alloc (.cells #[.int .i64 k, .int .i64 p] 26)
  have kf := Blk.new (w1.alloc (.cells #[.int .i64 x.kind, .string x.name, .int .i64 x.a, .int .i64 x.b, .int .i64 x.c, .string x.other, .slice ra (tp x.rng).length rc] 79)) 26 #[.int .i64 k, .int .i64 p]
  rw [World.size_alloc] at kf
  have HB1 : Hid (Below w.heap.size w ((w1.alloc (.cells #[.int .i64 x.kind, .string x.name, .int .i64 x.a, .int .i64 x.b, .int .i64 x.c, .string x.other, .slice ra (tp x.rng).length rc] 79)).alloc (.cells #[.int .i64 k, .int .i64 p] 26))) := hb1.trans (hA1.mono hb1.size)
  have HN1 := Lib.hid (n1.below hA1 (Nat.le_refl _))
  have HKL := Lib.hid kl
  have HKF := Lib.hid kf
  clear hb1 n1 hA1 kl kf HQ
  go_wp2_with fail
  generalize (w1.alloc (.cells #[.int .i64 x.kind, .string x.name, .int .i64 x.a, .int .i64 x.b, .int .i64 x.c, .string x.other, .slice ra (tp x.rng).length rc] 79)).alloc (.cells #[.int .i64 k, .int .i64 p] 26) = W1 at *
  refine (HP.out _ HB1.out).mono ?_
  rintro e w2 ⟨pa, pc, er, rfl, s2, e2, hb2⟩
  have hA2 : Below w2.heap.size w2 (w2.alloc (.cells #[.int .i64 x.kind, .string x.name, .int .i64 x.a, .int .i64 x.b, .int .i64 x.c, .string x.other, .slice pa x.rng.length pc] 76)) := (Below.refl _ _).alloc (Nat.le_refl _) _
  have hB2 : Below W1.heap.size W1 (w2.alloc (.cells #[.int .i64 x.kind, .string x.name, .int .i64 x.a, .int .i64 x.b, .int .i64 x.c, .string x.other, .slice pa x.rng.length pc] 76)) := hb2.trans (hA2.mono hb2.size)
  have HB2 : Hid (Below w.heap.size w (w2.alloc (.cells #[.int .i64 x.kind, .string x.name, .int .i64 x.a, .int .i64 x.b, .int .i64 x.c, .string x.other, .slice pa x.rng.length pc] 76))) := HB1.out.trans (hB2.mono HB1.out.size)
  have kp := Blk.new w2 76 #[.int .i64 x.kind, .string x.name, .int .i64 x.a, .int .i64 x.b, .int .i64 x.c, .string x.other, .slice pa x.rng.length pc]
  have n2 := HN1.out.below hB2 (Nat.le_refl _)
  have s2' := s2.below hA2 (Nat.le_refl _)
  have e2' := e2.below hA2
  have kl2 := HKL.out.below hB2 HKL.out.lt
  have kf2 := HKF.out.below hB2 HKF.out.lt
  clear hb2 s2 e2 hA2 hB2 HP HB1 HN1 HKL HKF
  go_wp2_with fail
  generalize w2.alloc (.cells #[.int .i64 x.kind, .string x.name, .int .i64 x.a, .int .i64 x.b, .int .i64 x.c, .string x.other, .slice pa x.rng.length pc] 76) = W2 at *
  have SC : Hid (∀ W, Below W2.heap.size W2 W → W.cell? ⟨w1.heap.size, 0, none⟩ = some (.int .i64 x.kind) ∧ W.cell? ⟨w1.heap.size, 1, none⟩ = some (.string x.name) ∧ W.cell? ⟨w1.heap.size, 2, none⟩ = some (.int .i64 x.a) ∧ W.cell? ⟨w1.heap.size, 3, none⟩ = some (.int .i64 x.b) ∧ W.cell? ⟨w1.heap.size, 4, none⟩ = some (.int .i64 x.c) ∧ W.cell? ⟨w1.heap.size, 5, none⟩ = some (.string x.other) ∧ W.cell? ⟨w1.heap.size, 6, none⟩ = some (.slice ra (tp x.rng).length rc) ∧ W.cell? ⟨w1.heap.size + 1, 0, none⟩ = some (.int .i64 k) ∧ W.cell? ⟨w1.heap.size + 1, 1, none⟩ = some (.int .i64 p) ∧ W.cell? ⟨w2.heap.size, 0, none⟩ = some (.int .i64 x.kind) ∧ W.cell? ⟨w2.heap.size, 1, none⟩ = some (.string x.name) ∧ W.cell? ⟨w2.heap.size, 2, none⟩ = some (.int .i64 x.a) ∧ W.cell? ⟨w2.heap.size, 3, none⟩ = some (.int .i64 x.b) ∧ W.cell? ⟨w2.heap.size, 4, none⟩ = some (.int .i64 x.c) ∧ W.cell? ⟨w2.heap.size, 5, none⟩ = some (.string x.other) ∧ W.cell? ⟨w2.heap.size, 6, none⟩ = some (.slice pa x.rng.length pc)) := fun W hb => ⟨(kl2.below hb kl2.lt).cell 0, (kl2.below hb kl2.lt).cell 1, (kl2.below hb kl2.lt).cell 2, (kl2.below hb kl2.lt).cell 3, (kl2.below hb kl2.lt).cell 4, (kl2.below hb kl2.lt).cell 5, (kl2.below hb kl2.lt).cell 6, (kf2.below hb kf2.lt).cell 0, (kf2.below hb kf2.lt).cell 1, (kp.below hb kp.lt).cell 0, (kp.below hb kp.lt).cell 1, (kp.below hb kp.lt).cell 2, (kp.below hb kp.lt).cell 3, (kp.below hb kp.lt).cell 4, (kp.below hb kp.lt).cell 5, (kp.below hb kp.lt).cell 6⟩
  have KW : Hid (∀ W, Below W2.heap.size W2 W → Below w.heap.size w W) := fun W hb => HB2.out.trans (hb.mono HB2.out.size)
  have M1 : Hid (∀ W, Below W2.heap.size W2 W → Calls Tryz.prog 14 #[er, .agg #[.int .i64 k, .int .i64 p]] W fun e w' => e = .returned (.bool true) ∧ Below W.heap.size W w') := fun W hb => by have h7 := HAT.out er W (HB2.out.trans (hb.mono HB2.out.size)) (e2'.below hb); rw [show (k == k && p == p) = true by simp] at h7; exact h7
  have M2 : Hid (∀ W, Below W2.heap.size W2 W → Calls Tryz.prog 16 #[.agg #[.slice pa x.rng.length pc]] W fun e w' => e = .returned (.string ⟨(rgT x.rng).toArray⟩) ∧ Below W.heap.size W w') := fun W hb => HTX.out _ W (HB2.out.trans (hb.mono HB2.out.size)) (s2'.below hb (Nat.le_refl _))
  have M3 : Hid (∀ W, Below W2.heap.size W2 W → Calls Tryz.prog 17 #[.slice ra (tp x.rng).length rc] W fun e w' => e = .returned (.string ⟨(rgT x.rng).toArray⟩) ∧ Below W.heap.size W w') := fun W hb => HRX.out _ W (HB2.out.trans (hb.mono HB2.out.size)) (n2.below hb (Nat.le_refl _))
  have heq3 := eq_triC x.a x.b x.c
  clear kp n2 s2' e2' kl2 kf2 HAT HTX HRX HB2
  generalize (⟨(rgT x.rng).toArray⟩ : ByteArray) = RT at *
  generalize x.rng.length = L1 at *
  generalize (tp x.rng).length = L2 at *
  generalize x.kind = xk at *
  generalize x.name = xn at *
  generalize x.other = xo at *
  generalize x.a = xa at *
  generalize x.b = xb at *
  generalize x.c = xc at *
  have D0 : Below W2.heap.size W2 W2.drew := (Below.refl _ _).drew
  go_region_held3 (fun W => W.cell? ⟨w1.heap.size, 0, none⟩ = some (.int .i64 xk) ∧ W.cell? ⟨w1.heap.size, 1, none⟩ = some (.string xn) ∧ W.cell? ⟨w1.heap.size, 2, none⟩ = some (.int .i64 xa) ∧ W.cell? ⟨w1.heap.size, 3, none⟩ = some (.int .i64 xb) ∧ W.cell? ⟨w1.heap.size, 4, none⟩ = some (.int .i64 xc) ∧ W.cell? ⟨w1.heap.size, 5, none⟩ = some (.string xo) ∧ W.cell? ⟨w1.heap.size, 6, none⟩ = some (.slice ra L2 rc) ∧ W.cell? ⟨w1.heap.size + 1, 0, none⟩ = some (.int .i64 k) ∧ W.cell? ⟨w1.heap.size + 1, 1, none⟩ = some (.int .i64 p) ∧ W.cell? ⟨w2.heap.size, 0, none⟩ = some (.int .i64 xk) ∧ W.cell? ⟨w2.heap.size, 1, none⟩ = some (.string xn) ∧ W.cell? ⟨w2.heap.size, 2, none⟩ = some (.int .i64 xa) ∧ W.cell? ⟨w2.heap.size, 3, none⟩ = some (.int .i64 xb) ∧ W.cell? ⟨w2.heap.size, 4, none⟩ = some (.int .i64 xc) ∧ W.cell? ⟨w2.heap.size, 5, none⟩ = some (.string xo) ∧ W.cell? ⟨w2.heap.size, 6, none⟩ = some (.slice pa L1 pc)) (first | exact SC.out _ D0 | exact SC.out _ D1 | exact SC.out _ D2 | exact SC.out _ D3)
    (first
      | ((with_reducible refine (M1.out _ D0).mono ?_); rintro r y1 ⟨rfl, hq⟩; have D1 : Below W2.heap.size W2 y1 := D0.trans (hq.mono D0.size); clear M1 D0 hq)
      | ((with_reducible refine (M2.out _ D1).mono ?_); rintro r y2 ⟨rfl, hq⟩; have D2 : Below W2.heap.size W2 y2 := D1.trans (hq.mono D1.size); clear M2 D1 hq)
      | ((with_reducible refine (M3.out _ D2).mono ?_); rintro r y3 ⟨rfl, hq⟩; have D3 : Below W2.heap.size W2 y3 := D2.trans (hq.mono D2.size); clear M3 D2 hq))
  have HZ := Lib.hid (KW.out _ D3)
  clear D3 KW SC
  go_wp2
  go_ret
  exact ⟨by simp, HZ.out⟩
theorem clines_any (s : ByteArray) (w : World) (hw : Lw w) (hF : FineR w) (ad : Addr) (cap : Nat) (hK : KindsAt w ad cap) : Calls Tryz.prog 8 #[.string s] w fun r w' => r = .returned (.bool true) ∧ Below w.heap.size w w' := by
  by_cases h : s.size ≤ 1200
  · exact clines_short s w hw hF ad cap hK h
  · exact clines_long s w h
end Go.Proofs.YthpeifkiaodokaaGreatDoor
