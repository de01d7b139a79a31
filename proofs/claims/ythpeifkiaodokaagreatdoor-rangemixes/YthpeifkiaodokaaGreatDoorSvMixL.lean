/- RangeMixes: the law's walk. -/
import Derived.Test.YthpeifkiaodokaaGreatDoorSvParsL
import Derived.Test.YthpeifkiaodokaaGreatDoorSvRHas
import Derived.Test.YthpeifkiaodokaaGreatDoorSvTextI
namespace Go.Proofs.YthpeifkiaodokaaGreatDoor
open Go.RowKit Go.Shelf Sv

theorem or_form (l m : List Span) (hl : Rg l) (hm : Rg m) (v u : Value) (W : World) (hv : SpAt W v l) (hu : SpAt W u m) : Calls Tryz.prog 21 #[.agg #[v], .agg #[u]] W fun e w' => ∃ a' c', e = .returned (.agg #[.slice a' (orr l m).length c']) ∧ SpAt w' (.slice a' (orr l m).length c') (orr l m) ∧ Below W.heap.size W w' :=
  (or_any l m hl hm v u W hv hu).mono fun e w' ⟨v', he, h1, _, h3⟩ => by obtain ⟨a, c, rfl⟩ := h1.form; exact ⟨a, c, he, h1, h3⟩
theorem and_form (l m : List Span) (hl : Rg l) (hm : Rg m) (v u : Value) (W : World) (hv : SpAt W v l) (hu : SpAt W u m) : Calls Tryz.prog 22 #[.agg #[v], .agg #[u]] W fun e w' => ∃ a' c', e = .returned (.agg #[.slice a' (nd l m).length c']) ∧ SpAt w' (.slice a' (nd l m).length c') (nd l m) ∧ Below W.heap.size W w' :=
  (and_any l m hl hm v u W hv hu).mono fun e w' ⟨v', he, h1, _, h3⟩ => by obtain ⟨a, c, rfl⟩ := h1.form; exact ⟨a, c, he, h1, h3⟩
theorem not_form2 (l : List Span) (hl : Rg l) (v : Value) (W : World) (hv : SpAt W v l) : Calls Tryz.prog 23 #[.agg #[v]] W fun e w' => ∃ a' c', e = .returned (.agg #[.slice a' (nt l).length c']) ∧ SpAt w' (.slice a' (nt l).length c') (nt l) ∧ Below W.heap.size W w' :=
  (not_any l hl v W hv).mono fun e w' ⟨v', he, h1, _, h3⟩ => by obtain ⟨a, c, rfl⟩ := h1.form; exact ⟨a, c, he, h1, h3⟩
theorem any_form (W : World) : Calls Tryz.prog 27 #[] W fun e w' => ∃ a' c', e = .returned (.agg #[.slice a' anyF.length c']) ∧ SpAt w' (.slice a' anyF.length c') anyF ∧ Below W.heap.size W w' :=
  (any_any W).mono fun e w' ⟨v', he, h1, _, h3⟩ => by obtain ⟨a, c, rfl⟩ := h1.form; exact ⟨a, c, he, h1, h3⟩
theorem nt_none : nt [] = anyF := rfl

set_option maxRecDepth 100000 in
set_option maxHeartbeats 1000000 in
theorem mixes_longA (a b : ByteArray) (x y z : Int) (w : World) (h : ¬ a.size ≤ 300) : Calls Tryz.prog 4 #[.string a, .string b, .agg #[.int .i64 x, .int .i64 y, .int .i64 z]] w fun r w' => r = .returned (.bool true) ∧ Below w.heap.size w w' := by
  have h1 : (300 : Int) < (a.size : Int) := by omega
  have HB : Hid (Below w.heap.size w (w.alloc (.cells #[.int .i64 x, .int .i64 y, .int .i64 z] 42))) := (Below.refl _ w).alloc (Nat.le_refl _) _
  clear h
  go_enter Tryz.func4, Tryz.ntmps4
  go_wp2
  go_ret
  exact ⟨rfl, HB.out⟩
set_option maxRecDepth 100000 in
set_option maxHeartbeats 1000000 in
theorem mixes_longB (a b : ByteArray) (x y z : Int) (w : World) (h0 : a.size ≤ 300) (h : ¬ b.size ≤ 300) : Calls Tryz.prog 4 #[.string a, .string b, .agg #[.int .i64 x, .int .i64 y, .int .i64 z]] w fun r w' => r = .returned (.bool true) ∧ Below w.heap.size w w' := by
  have h1 : ¬ (300 : Int) < (a.size : Int) := by omega
  have h2 : (300 : Int) < (b.size : Int) := by omega
  have HB : Hid (Below w.heap.size w (w.alloc (.cells #[.int .i64 x, .int .i64 y, .int .i64 z] 42))) := (Below.refl _ w).alloc (Nat.le_refl _) _
  clear h h0
  go_enter Tryz.func4, Tryz.ntmps4
  go_wp2
  go_ret
  exact ⟨rfl, HB.out⟩

set_option maxRecDepth 100000 in
set_option maxHeartbeats 4000000 in
theorem mixes_short (a b : ByteArray) (x y z : Int) (w : World) (hw : Lb w) (hF : FineR w) (ha : a.size ≤ 300) (hb : b.size ≤ 300) : Calls Tryz.prog 4 #[.string a, .string b, .agg #[.int .i64 x, .int .i64 y, .int .i64 z]] w fun r w' => r = .returned (.bool true) ∧ Below w.heap.size w w' := by
  have h1 : ¬ (300 : Int) < (a.size : Int) := by omega
  have h2 : ¬ (300 : Int) < (b.size : Int) := by omega
  obtain ⟨l, k1, p1, hl, -, HP1, HQ1, -⟩ := range_both a (by omega)
  obtain ⟨m, k2, p2, hm, -, HP2, HQ2, -⟩ := range_both b (by omega)
  have HA := Lib.hid (fun W (hb : Below w.heap.size w W) => HQ1 W (hw.below hb) (hF.below hb))
  have HB := Lib.hid (fun W (hb : Below w.heap.size w W) => HQ2 W (hw.below hb) (hF.below hb))
  have HC := Lib.hid (fun W (hb : Below w.heap.size w W) => HP1 W (hw.below hb))
  have HD := Lib.hid (fun W (hb : Below w.heap.size w W) => HP2 W (hw.below hb))
  have kv := Blk.new w 42 #[.int .i64 x, .int .i64 y, .int .i64 z]
  have HB0 : Hid (Below w.heap.size w (w.alloc (.cells #[.int .i64 x, .int .i64 y, .int .i64 z] 42))) := (Below.refl _ w).alloc (Nat.le_refl _) _
  have HKV := Lib.hid kv
  have HLW := Lib.hid hw
  have HLl := Lib.hid hl
  have HLm := Lib.hid hm
  clear hw hF ha hb HP1 HQ1 HP2 HQ2 kv hl hm
  go_enter Tryz.func4, Tryz.ntmps4
  go_wp2_with fail
  generalize w.alloc (.cells #[.int .i64 x, .int .i64 y, .int .i64 z] 42) = W0 at *
  refine (HA.out _ HB0.out).mono ?_
  rintro e w1 ⟨a1, c1, rfl, n1, hb1⟩
  have hA1 : Below w1.heap.size w1 (w1.alloc (.cells #[.int .i64 k1, .int .i64 p1] 26)) := (Below.refl _ _).alloc (Nat.le_refl _) _
  have hB1 : Below W0.heap.size W0 (w1.alloc (.cells #[.int .i64 k1, .int .i64 p1] 26)) := hb1.trans (hA1.mono hb1.size)
  have HB1 : Hid (Below w.heap.size w (w1.alloc (.cells #[.int .i64 k1, .int .i64 p1] 26))) := HB0.out.trans (hB1.mono HB0.out.size)
  have HN1 := Lib.hid (n1.below hA1 (Nat.le_refl _))
  have HF1 := Lib.hid (Blk.new w1 26 #[.int .i64 k1, .int .i64 p1])
  have HV1 := Lib.hid (HKV.out.below hB1 HKV.out.lt)
  clear hb1 n1 hA1 hB1 HA HB0 HKV
  go_wp2_with fail
  generalize w1.alloc (.cells #[.int .i64 k1, .int .i64 p1] 26) = W1 at *
  refine (HB.out _ HB1.out).mono ?_
  rintro e w2 ⟨a2, c2, rfl, n2, hb2⟩
  have hA2 : Below w2.heap.size w2 (w2.alloc (.cells #[.int .i64 k2, .int .i64 p2] 26)) := (Below.refl _ _).alloc (Nat.le_refl _) _
  have hB2 : Below W1.heap.size W1 (w2.alloc (.cells #[.int .i64 k2, .int .i64 p2] 26)) := hb2.trans (hA2.mono hb2.size)
  have HB2 : Hid (Below w.heap.size w (w2.alloc (.cells #[.int .i64 k2, .int .i64 p2] 26))) := HB1.out.trans (hB2.mono HB1.out.size)
  have HN2 := Lib.hid (n2.below hA2 (Nat.le_refl _))
  have HN1b := Lib.hid (HN1.out.below hB2 (Nat.le_refl _))
  have f1 : (w2.alloc (.cells #[.int .i64 k2, .int .i64 p2] 26)).cell? ⟨w1.heap.size, 0, none⟩ = some (.int .i64 k1) := (HF1.out.below hB2 HF1.out.lt).cell 0
  have f2 : (w2.alloc (.cells #[.int .i64 k2, .int .i64 p2] 26)).cell? ⟨w2.heap.size, 0, none⟩ = some (.int .i64 k2) := (Blk.new w2 26 #[.int .i64 k2, .int .i64 p2]).cell 0
  have HV2 := Lib.hid (HV1.out.below hB2 HV1.out.lt)
  clear hb2 n2 hA2 hB2 HB HB1 HN1 HF1 HV1
  by_cases hk1 : k1 ≠ 0
  · have hk1' : (k1 != 0) = true := by simpa using hk1
    clear hk1
    go_wp2
    go_ret
    exact ⟨rfl, HB2.out⟩
  obtain rfl : k1 = 0 := Classical.not_not.1 hk1
  clear hk1
  by_cases hk2 : k2 ≠ 0
  · have hk2' : (k2 != 0) = true := by simpa using hk2
    clear hk2
    go_wp2
    go_ret
    exact ⟨rfl, HB2.out⟩
  obtain rfl : k2 = 0 := Classical.not_not.1 hk2
  clear hk2
  go_wp2_with fail
  generalize w2.alloc (.cells #[.int .i64 0, .int .i64 p2] 26) = W2 at *
  refine (HC.out _ HB2.out).mono ?_
  rintro e w3 ⟨a3, c3, er3, rfl, s3, e3, hb3⟩
  obtain rfl : er3 = .nilIface := by
    rcases e3 with ⟨_, _, h⟩ | ⟨h, _⟩ | ⟨h, _⟩
    · exact h
    · exact absurd rfl h
    · exact absurd rfl h
  have hA3 : Below w3.heap.size w3 (w3.alloc (.cells #[.slice a3 l.length c3] 31)) := (Below.refl _ _).alloc (Nat.le_refl _) _
  have hB3 : Below W2.heap.size W2 (w3.alloc (.cells #[.slice a3 l.length c3] 31)) := hb3.trans (hA3.mono hb3.size)
  have HB3 : Hid (Below w.heap.size w (w3.alloc (.cells #[.slice a3 l.length c3] 31))) := HB2.out.trans (hB3.mono HB2.out.size)
  have HS3 := Lib.hid (s3.below hA3 (Nat.le_refl _))
  have HN3 := Lib.hid (HN1b.out.below hB3 (Nat.le_refl _))
  have HN3b := Lib.hid (HN2.out.below hB3 (Nat.le_refl _))
  have HR3 := Lib.hid (Blk.new w3 31 #[.slice a3 l.length c3])
  have HV3 := Lib.hid (HV2.out.below hB3 HV2.out.lt)
  clear hb3 s3 e3 hA3 hB3 HC HB2 HN1b HN2 HV2 f1 f2
  go_wp2_with fail
  generalize w3.alloc (.cells #[.slice a3 l.length c3] 31) = W3 at *
  refine (HD.out _ HB3.out).mono ?_
  rintro e w4 ⟨a4, c4, er4, rfl, s4, e4, hb4⟩
  obtain rfl : er4 = .nilIface := by
    rcases e4 with ⟨_, _, h⟩ | ⟨h, _⟩ | ⟨h, _⟩
    · exact h
    · exact absurd rfl h
    · exact absurd rfl h
  have hA4 : Below w4.heap.size w4 (w4.alloc (.cells #[.slice a4 m.length c4] 31)) := (Below.refl _ _).alloc (Nat.le_refl _) _
  have hB4 : Below W3.heap.size W3 (w4.alloc (.cells #[.slice a4 m.length c4] 31)) := hb4.trans (hA4.mono hb4.size)
  have hBw4 : Below w.heap.size w (w4.alloc (.cells #[.slice a4 m.length c4] 31)) := HB3.out.trans (hB4.mono HB3.out.size)
  have s4' := s4.below hA4 (Nat.le_refl _)
  have s3' := HS3.out.below hB4 (Nat.le_refl _)
  have n3' := HN3.out.below hB4 (Nat.le_refl _)
  have n4' := HN3b.out.below hB4 (Nat.le_refl _)
  have r3' := HR3.out.below hB4 HR3.out.lt
  have r4' := Blk.new w4 31 #[.slice a4 m.length c4]
  have v4' := HV3.out.below hB4 HV3.out.lt
  clear hb4 s4 e4 hA4 hB4 HD HB3 HS3 HN3 HN3b HR3 HV3
  go_wp2_with fail
  generalize w4.alloc (.cells #[.slice a4 m.length c4] 31) = W4 at *
  have hl := HLl.out
  have hm := HLm.out
  have hw4 : Lb W4 := HLW.out.below hBw4
  -- all that is asked from here on, in any world behind W4
  have KC : Hid (∀ W, Below W4.heap.size W4 W → W.cell? ⟨w3.heap.size, 0, none⟩ = some (.slice a3 l.length c3) ∧ W.cell? ⟨w4.heap.size, 0, none⟩ = some (.slice a4 m.length c4) ∧ W.cell? ⟨w.heap.size, 0, none⟩ = some (.int .i64 x) ∧ W.cell? ⟨w.heap.size, 1, none⟩ = some (.int .i64 y) ∧ W.cell? ⟨w.heap.size, 2, none⟩ = some (.int .i64 z)) := fun W hb => ⟨(r3'.below hb r3'.lt).cell 0, (r4'.below hb r4'.lt).cell 0, (v4'.below hb v4'.lt).cell 0, (v4'.below hb v4'.lt).cell 1, (v4'.below hb v4'.lt).cell 2⟩
  have KW : Hid (∀ W, Below W4.heap.size W4 W → Below w.heap.size w W) := fun W hb => hBw4.trans (hb.mono hBw4.size)
  have KOR : Hid (∀ W, Below W4.heap.size W4 W → Calls Tryz.prog 21 #[.agg #[.slice a3 l.length c3], .agg #[.slice a4 m.length c4]] W fun e w' => ∃ a' c', e = .returned (.agg #[.slice a' (orr l m).length c']) ∧ SpAt w' (.slice a' (orr l m).length c') (orr l m) ∧ Below W.heap.size W w') := fun W hb => or_form l m hl hm _ _ W (s3'.below hb (Nat.le_refl _)) (s4'.below hb (Nat.le_refl _))
  have KAND : Hid (∀ W, Below W4.heap.size W4 W → Calls Tryz.prog 22 #[.agg #[.slice a3 l.length c3], .agg #[.slice a4 m.length c4]] W fun e w' => ∃ a' c', e = .returned (.agg #[.slice a' (nd l m).length c']) ∧ SpAt w' (.slice a' (nd l m).length c') (nd l m) ∧ Below W.heap.size W w') := fun W hb => and_form l m hl hm _ _ W (s3'.below hb (Nat.le_refl _)) (s4'.below hb (Nat.le_refl _))
  have KNOT : Hid (∀ W, Below W4.heap.size W4 W → Calls Tryz.prog 23 #[.agg #[.slice a3 l.length c3]] W fun e w' => ∃ a' c', e = .returned (.agg #[.slice a' (nt l).length c']) ∧ SpAt w' (.slice a' (nt l).length c') (nt l) ∧ Below W.heap.size W w') := fun W hb => not_form2 l hl _ W (s3'.below hb (Nat.le_refl _))
  have KSM : Hid (∀ W, Below W4.heap.size W4 W → Calls Tryz.prog 24 #[.agg #[.slice a3 l.length c3], .agg #[.slice a4 m.length c4]] W fun e w' => e = .returned (.bool (decide (l = m))) ∧ Below W.heap.size W w') := fun W hb => same_any l m hl hm _ _ W (s3'.below hb (Nat.le_refl _)) (s4'.below hb (Nat.le_refl _))
  have KHL : Hid (∀ W, Below W4.heap.size W4 W → Calls Tryz.prog 25 #[.agg #[.slice a3 l.length c3], .agg #[.int .i64 x, .int .i64 y, .int .i64 z]] W fun e w' => e = .returned (.bool (hasB l x y z)) ∧ Below W.heap.size W w') := fun W hb => has_b l hl _ x y z W (s3'.below hb (Nat.le_refl _))
  have RHL : Hid (∀ W, Below W4.heap.size W4 W → Calls Tryz.prog 26 #[.slice a1 (tp l).length c1, .agg #[.int .i64 x, .int .i64 y, .int .i64 z]] W fun e w' => e = .returned (.bool (hasB l x y z)) ∧ Below W.heap.size W w') := fun W hb => rhas_any l hl _ x y z W (n3'.below hb (Nat.le_refl _))
  have RTL : Hid (∀ W, Below W4.heap.size W4 W → Calls Tryz.prog 17 #[.slice a1 (tp l).length c1] W fun e w' => e = .returned (.string ⟨(rgT l).toArray⟩) ∧ Below W.heap.size W w') := fun W hb => rgtext_any l hl _ W (hw4.below hb) (n3'.below hb (Nat.le_refl _))
  have RTM : Hid (∀ W, Below W4.heap.size W4 W → Calls Tryz.prog 17 #[.slice a2 (tp m).length c2] W fun e w' => e = .returned (.string ⟨(rgT m).toArray⟩) ∧ Below W.heap.size W w') := fun W hb => rgtext_any m hm _ W (hw4.below hb) (n4'.below hb (Nat.le_refl _))
  have ROR := Lib.hid (ror_any l m hl hm _ _ W4 n3' n4')
  have RAND : Hid (∀ W, Below W4.heap.size W4 W → Calls Tryz.prog 19 #[.slice a1 (tp l).length c1, .slice a2 (tp m).length c2] W (NsOut W (tp (nd l m)))) := fun W hb => rand_any l m hl hm _ _ W (n3'.below hb (Nat.le_refl _)) (n4'.below hb (Nat.le_refl _))
  have RNOT : Hid (∀ W, Below W4.heap.size W4 W → Calls Tryz.prog 20 #[.slice a1 (tp l).length c1] W (NsOut W (tp (nt l)))) := fun W hb => rnot_any l hl _ W (n3'.below hb (Nat.le_refl _))
  have gor := rg_orr hl hm
  have gand := rg_nd hl hm
  have gnot := rg_nt hl
  -- for whatever lies anywhere
  have LTX : Hid (∀ q, Rg q → ∀ v W, Below W4.heap.size W4 W → SpAt W v q → Calls Tryz.prog 16 #[.agg #[v]] W fun e w' => e = .returned (.string ⟨(rgT q).toArray⟩) ∧ Below W.heap.size W w') := fun q hq v W hb hv => ptext_any q hq v W (hw4.below hb) hv
  have LRT : Hid (∀ q, Rg q → ∀ v W, Below W4.heap.size W4 W → NsAt W v (tp q) → Calls Tryz.prog 17 #[v] W fun e w' => e = .returned (.string ⟨(rgT q).toArray⟩) ∧ Below W.heap.size W w') := fun q hq v W hb hv => rgtext_any q hq v W (hw4.below hb) hv
  have HEQ : Hid (((⟨(rgT l).toArray⟩ : ByteArray).toList == (⟨(rgT m).toArray⟩ : ByteArray).toList) = decide (l = m)) := rgT_same hl hm
  have HGO := Lib.hid gor
  have HGA := Lib.hid gand
  have HGN := Lib.hid gnot
  clear hl hm hw4 gor gand gnot s4' s3' n3' n4' r3' r4' v4' hBw4 HLW HLl HLm
  refine ROR.out.mono ?_
  rintro e w5 ⟨a5, c5, rfl, n5, -, hb5⟩
  have HB5 := Lib.hid hb5
  have HN5 := Lib.hid n5
  clear hb5 n5 ROR
  go_wp2_with fail
  refine (RAND.out _ HB5.out).mono ?_
  rintro e w6 ⟨a6, c6, rfl, n6, -, hb6⟩
  have HB6 : Hid (Below W4.heap.size W4 w6) := HB5.out.trans (hb6.mono HB5.out.size)
  have HN5b := Lib.hid (HN5.out.below hb6 (Nat.le_refl _))
  have HN6 := Lib.hid n6
  clear hb6 n6 RAND HB5 HN5
  go_wp2_with fail
  refine (RNOT.out _ HB6.out).mono ?_
  rintro e w7 ⟨a7, c7, rfl, n7, -, hb7⟩
  have HB7 : Hid (Below W4.heap.size W4 w7) := HB6.out.trans (hb7.mono HB6.out.size)
  have ROT : Hid (∀ W, Below w7.heap.size w7 W → Calls Tryz.prog 17 #[.slice a5 (tp (orr l m)).length c5] W fun e w' => e = .returned (.string ⟨(rgT (orr l m)).toArray⟩) ∧ Below W.heap.size W w') := fun W hb => LRT.out _ HGO.out _ W (HB7.out.trans (hb.mono HB7.out.size)) ((HN5b.out.below hb7 (Nat.le_refl _)).below hb (Nat.le_refl _))
  have RAT : Hid (∀ W, Below w7.heap.size w7 W → Calls Tryz.prog 17 #[.slice a6 (tp (nd l m)).length c6] W fun e w' => e = .returned (.string ⟨(rgT (nd l m)).toArray⟩) ∧ Below W.heap.size W w') := fun W hb => LRT.out _ HGA.out _ W (HB7.out.trans (hb.mono HB7.out.size)) ((HN6.out.below hb7 (Nat.le_refl _)).below hb (Nat.le_refl _))
  have RNT : Hid (∀ W, Below w7.heap.size w7 W → Calls Tryz.prog 17 #[.slice a7 (tp (nt l)).length c7] W fun e w' => e = .returned (.string ⟨(rgT (nt l)).toArray⟩) ∧ Below W.heap.size W w') := fun W hb => LRT.out _ HGN.out _ W (HB7.out.trans (hb.mono HB7.out.size)) (n7.below hb (Nat.le_refl _))
  have RHO : Hid (∀ W, Below w7.heap.size w7 W → Calls Tryz.prog 26 #[.slice a5 (tp (orr l m)).length c5, .agg #[.int .i64 x, .int .i64 y, .int .i64 z]] W fun e w' => e = .returned (.bool (hasB (orr l m) x y z)) ∧ Below W.heap.size W w') := fun W hb => rhas_any _ HGO.out _ x y z W ((HN5b.out.below hb7 (Nat.le_refl _)).below hb (Nat.le_refl _))
  have RHN : Hid (∀ W, Below w7.heap.size w7 W → Calls Tryz.prog 26 #[.slice a7 (tp (nt l)).length c7, .agg #[.int .i64 x, .int .i64 y, .int .i64 z]] W fun e w' => e = .returned (.bool (hasB (nt l) x y z)) ∧ Below W.heap.size W w') := fun W hb => rhas_any _ HGN.out _ x y z W (n7.below hb (Nat.le_refl _))
  have KT : Hid (∀ W, Below w7.heap.size w7 W → Below W4.heap.size W4 W) := fun W hb => HB7.out.trans (hb.mono HB7.out.size)
  have B0 : Below w7.heap.size w7 w7 := Below.refl _ _
  obtain ⟨cc1, cc2, cc3, cc4, cc5⟩ := KC.out _ (KT.out _ B0)
  clear hb7 n7 RNOT HB6 HN5b HN6 HB7 LRT
  have B0 := Lib.hid B0
  go_wp2_with fail
  refine (KOR.out _ (KT.out _ B0.out)).mono ?_
  rintro e x1 ⟨a11, c11, rfl, s1, hb⟩
  have B1 : Hid (Below w7.heap.size w7 x1) := B0.out.trans (hb.mono B0.out.size)
  clear hb cc1 cc2 cc3 cc4 cc5
  obtain ⟨cc1, cc2, cc3, cc4, cc5⟩ := KC.out _ (KT.out _ B1.out)
  have KX := Lib.hid (LTX.out _ HGO.out _ _ (KT.out _ B1.out) s1)
  clear s1
  go_wp2_with fail
  refine KX.out.mono ?_
  rintro e x2 ⟨rfl, hb⟩
  have B2 : Hid (Below w7.heap.size w7 x2) := B1.out.trans (hb.mono B1.out.size)
  clear hb KX cc1 cc2 cc3 cc4 cc5
  obtain ⟨cc1, cc2, cc3, cc4, cc5⟩ := KC.out _ (KT.out _ B2.out)
  go_wp2_with fail
  refine (ROT.out _ B2.out).mono ?_
  rintro e x3 ⟨rfl, hb⟩
  have B3 : Hid (Below w7.heap.size w7 x3) := B2.out.trans (hb.mono B2.out.size)
  clear hb cc1 cc2 cc3 cc4 cc5
  obtain ⟨cc1, cc2, cc3, cc4, cc5⟩ := KC.out _ (KT.out _ B3.out)
  go_wp2_with fail
  refine (KAND.out _ (KT.out _ B3.out)).mono ?_
  rintro e x4 ⟨a41, c41, rfl, s4, hb⟩
  have B4 : Hid (Below w7.heap.size w7 x4) := B3.out.trans (hb.mono B3.out.size)
  clear hb cc1 cc2 cc3 cc4 cc5
  obtain ⟨cc1, cc2, cc3, cc4, cc5⟩ := KC.out _ (KT.out _ B4.out)
  have KX := Lib.hid (LTX.out _ HGA.out _ _ (KT.out _ B4.out) s4)
  clear s4
  go_wp2_with fail
  refine KX.out.mono ?_
  rintro e x5 ⟨rfl, hb⟩
  have B5 : Hid (Below w7.heap.size w7 x5) := B4.out.trans (hb.mono B4.out.size)
  clear hb KX cc1 cc2 cc3 cc4 cc5
  obtain ⟨cc1, cc2, cc3, cc4, cc5⟩ := KC.out _ (KT.out _ B5.out)
  go_wp2_with fail
  refine (RAT.out _ B5.out).mono ?_
  rintro e x6 ⟨rfl, hb⟩
  have B6 : Hid (Below w7.heap.size w7 x6) := B5.out.trans (hb.mono B5.out.size)
  clear hb cc1 cc2 cc3 cc4 cc5
  obtain ⟨cc1, cc2, cc3, cc4, cc5⟩ := KC.out _ (KT.out _ B6.out)
  go_wp2_with fail
  refine (KNOT.out _ (KT.out _ B6.out)).mono ?_
  rintro e x7 ⟨a71, c71, rfl, s7, hb⟩
  have B7 : Hid (Below w7.heap.size w7 x7) := B6.out.trans (hb.mono B6.out.size)
  clear hb cc1 cc2 cc3 cc4 cc5
  obtain ⟨cc1, cc2, cc3, cc4, cc5⟩ := KC.out _ (KT.out _ B7.out)
  have KX := Lib.hid (LTX.out _ HGN.out _ _ (KT.out _ B7.out) s7)
  clear s7
  go_wp2_with fail
  refine KX.out.mono ?_
  rintro e x8 ⟨rfl, hb⟩
  have B8 : Hid (Below w7.heap.size w7 x8) := B7.out.trans (hb.mono B7.out.size)
  clear hb KX cc1 cc2 cc3 cc4 cc5
  obtain ⟨cc1, cc2, cc3, cc4, cc5⟩ := KC.out _ (KT.out _ B8.out)
  go_wp2_with fail
  refine (RNT.out _ B8.out).mono ?_
  rintro e x9 ⟨rfl, hb⟩
  have B9 : Hid (Below w7.heap.size w7 x9) := B8.out.trans (hb.mono B8.out.size)
  clear hb cc1 cc2 cc3 cc4 cc5
  obtain ⟨cc1, cc2, cc3, cc4, cc5⟩ := KC.out _ (KT.out _ B9.out)
  go_wp2_with fail
  refine (KSM.out _ (KT.out _ B9.out)).mono ?_
  rintro e x10 ⟨rfl, hb⟩
  have B10 : Hid (Below w7.heap.size w7 x10) := B9.out.trans (hb.mono B9.out.size)
  clear hb cc1 cc2 cc3 cc4 cc5
  obtain ⟨cc1, cc2, cc3, cc4, cc5⟩ := KC.out _ (KT.out _ B10.out)
  go_wp2_with fail
  refine (RTL.out _ (KT.out _ B10.out)).mono ?_
  rintro e x11 ⟨rfl, hb⟩
  have B11 : Hid (Below w7.heap.size w7 x11) := B10.out.trans (hb.mono B10.out.size)
  clear hb cc1 cc2 cc3 cc4 cc5
  obtain ⟨cc1, cc2, cc3, cc4, cc5⟩ := KC.out _ (KT.out _ B11.out)
  go_wp2_with fail
  refine (RTM.out _ (KT.out _ B11.out)).mono ?_
  rintro e x12 ⟨rfl, hb⟩
  have B12 : Hid (Below w7.heap.size w7 x12) := B11.out.trans (hb.mono B11.out.size)
  clear hb cc1 cc2 cc3 cc4 cc5
  obtain ⟨cc1, cc2, cc3, cc4, cc5⟩ := KC.out _ (KT.out _ B12.out)
  have heq := HEQ.out
  clear KSM RTL RTM ROT RAT RNT KAND LTX
  generalize decide (l = m) = DD at *
  generalize (⟨(rgT l).toArray⟩ : ByteArray) = TL at *
  generalize (⟨(rgT m).toArray⟩ : ByteArray) = TM at *
  have HBv := Lib.hid (Blk.new x12 48 #[.int .i64 x, .int .i64 y, .int .i64 z])
  have BV : Hid (Below w7.heap.size w7 (x12.alloc (.cells #[.int .i64 x, .int .i64 y, .int .i64 z] 48))) := B12.out.alloc B12.out.size _
  go_wp2_with fail
  generalize x12.alloc (.cells #[.int .i64 x, .int .i64 y, .int .i64 z] 48) = WV at *
  clear cc1 cc2 cc3 cc4 cc5 heq HEQ
  have hlv := BV.out.size
  have KD : Hid (∀ W, Below WV.heap.size WV W → Below w7.heap.size w7 W) := fun W hb => BV.out.trans (hb.mono hlv)
  have SC : Hid (∀ W, Below WV.heap.size WV W → W.cell? ⟨w3.heap.size, 0, none⟩ = some (.slice a3 l.length c3) ∧ W.cell? ⟨w4.heap.size, 0, none⟩ = some (.slice a4 m.length c4) ∧ W.cell? ⟨w.heap.size, 0, none⟩ = some (.int .i64 x) ∧ W.cell? ⟨w.heap.size, 1, none⟩ = some (.int .i64 y) ∧ W.cell? ⟨w.heap.size, 2, none⟩ = some (.int .i64 z) ∧ W.cell? ⟨x12.heap.size, 0, none⟩ = some (.int .i64 x) ∧ W.cell? ⟨x12.heap.size, 1, none⟩ = some (.int .i64 y) ∧ W.cell? ⟨x12.heap.size, 2, none⟩ = some (.int .i64 z)) := fun W hb => by
    obtain ⟨q1, q2, q3, q4, q5⟩ := KC.out _ (KT.out _ (KD.out W hb))
    exact ⟨q1, q2, q3, q4, q5, (HBv.out.below hb HBv.out.lt).cell 0, (HBv.out.below hb HBv.out.lt).cell 1, (HBv.out.below hb HBv.out.lt).cell 2⟩
  have M1 : Hid (∀ W, Below WV.heap.size WV W → Calls Tryz.prog 25 #[.agg #[.slice a3 l.length c3], .agg #[.int .i64 x, .int .i64 y, .int .i64 z]] W fun e w' => e = .returned (.bool (hasB l x y z)) ∧ Below W.heap.size W w') := fun W hb => KHL.out W (KT.out _ (KD.out W hb))
  have M2 : Hid (∀ W, Below WV.heap.size WV W → Calls Tryz.prog 26 #[.slice a1 (tp l).length c1, .agg #[.int .i64 x, .int .i64 y, .int .i64 z]] W fun e w' => e = .returned (.bool (hasB l x y z)) ∧ Below W.heap.size W w') := fun W hb => RHL.out W (KT.out _ (KD.out W hb))
  have M3 : Hid (∀ W, Below WV.heap.size WV W → Calls Tryz.prog 23 #[.agg #[.slice a3 l.length c3]] W fun e w' => ∃ a' c', e = .returned (.agg #[.slice a' (nt l).length c']) ∧ SpAt w' (.slice a' (nt l).length c') (nt l) ∧ Below W.heap.size W w') := fun W hb => KNOT.out W (KT.out _ (KD.out W hb))
  have M4 : Hid (∀ a' c' W, SpAt W (.slice a' (nt l).length c') (nt l) → Calls Tryz.prog 25 #[.agg #[.slice a' (nt l).length c'], .agg #[.int .i64 x, .int .i64 y, .int .i64 z]] W fun e w' => e = .returned (.bool (hasB (nt l) x y z)) ∧ Below W.heap.size W w') := fun a' c' W hv => has_b _ HGN.out _ x y z W hv
  have M5 : Hid (∀ W, Below WV.heap.size WV W → Calls Tryz.prog 26 #[.slice a7 (tp (nt l)).length c7, .agg #[.int .i64 x, .int .i64 y, .int .i64 z]] W fun e w' => e = .returned (.bool (hasB (nt l) x y z)) ∧ Below W.heap.size W w') := fun W hb => RHN.out W (KD.out W hb)
  have M6 : Hid (∀ W, Below WV.heap.size WV W → Calls Tryz.prog 21 #[.agg #[.slice a3 l.length c3], .agg #[.slice a4 m.length c4]] W fun e w' => ∃ a' c', e = .returned (.agg #[.slice a' (orr l m).length c']) ∧ SpAt w' (.slice a' (orr l m).length c') (orr l m) ∧ Below W.heap.size W w') := fun W hb => KOR.out W (KT.out _ (KD.out W hb))
  have M7 : Hid (∀ a' c' W, SpAt W (.slice a' (orr l m).length c') (orr l m) → Calls Tryz.prog 25 #[.agg #[.slice a' (orr l m).length c'], .agg #[.int .i64 x, .int .i64 y, .int .i64 z]] W fun e w' => e = .returned (.bool (hasB (orr l m) x y z)) ∧ Below W.heap.size W w') := fun a' c' W hv => has_b _ HGO.out _ x y z W hv
  have M8 : Hid (∀ W, Below WV.heap.size WV W → Calls Tryz.prog 26 #[.slice a5 (tp (orr l m)).length c5, .agg #[.int .i64 x, .int .i64 y, .int .i64 z]] W fun e w' => e = .returned (.bool (hasB (orr l m) x y z)) ∧ Below W.heap.size W w') := fun W hb => RHO.out W (KD.out W hb)
  have M9 : Hid (∀ W, Calls Tryz.prog 27 #[] W fun e w' => ∃ a' c', e = .returned (.agg #[.slice a' anyF.length c']) ∧ SpAt w' (.slice a' anyF.length c') anyF ∧ Below W.heap.size W w') := fun W => any_form W
  have M10 : Hid (∀ a' c' W, SpAt W (.slice a' anyF.length c') anyF → Calls Tryz.prog 25 #[.agg #[.slice a' anyF.length c'], .agg #[.int .i64 x, .int .i64 y, .int .i64 z]] W fun e w' => e = .returned (.bool (hasB anyF x y z)) ∧ Below W.heap.size W w') := fun a' c' W hv => has_b _ rg_any _ x y z W hv
  have M11 : Hid (∀ W, Calls Tryz.prog 20 #[.slice none 0 0] W fun e w' => ∃ a' c', e = .returned (.slice a' (tp anyF).length c') ∧ NsAt w' (.slice a' (tp anyF).length c') (tp anyF) ∧ Below W.heap.size W w') := fun W => (rnot_any [] rg_nil _ W (nsAt_nil W)).mono fun e w' ⟨b, d, he, h1, _, h3⟩ => ⟨b, d, he, h1, h3⟩
  have M12 : Hid (∀ a' c' W, NsAt W (.slice a' (tp anyF).length c') (tp anyF) → Calls Tryz.prog 26 #[.slice a' (tp anyF).length c', .agg #[.int .i64 x, .int .i64 y, .int .i64 z]] W fun e w' => e = .returned (.bool (hasB anyF x y z)) ∧ Below W.heap.size W w') := fun a' c' W hv => rhas_any _ rg_any _ x y z W hv
  have HZZ : Hid (∀ W, Below WV.heap.size WV W → Below w.heap.size w W) := fun W hb => KW.out _ (KT.out _ (KD.out W hb))
  clear KHL RHL KNOT RHN KOR RHO KC KW KT BV HBv HGO HGA HGN
  generalize hasB l x y z = E1 at *
  generalize hasB (nt l) x y z = E2 at *
  generalize hasB (orr l m) x y z = E3 at *
  generalize hasB anyF x y z = E4 at *
  generalize (nt l).length = L1 at *
  generalize (orr l m).length = L2 at *
  have D0 : Below WV.heap.size WV WV.drew := (Below.refl _ _).drew
  go_region_held3 (fun W => W.cell? ⟨w3.heap.size, 0, none⟩ = some (.slice a3 l.length c3) ∧ W.cell? ⟨w4.heap.size, 0, none⟩ = some (.slice a4 m.length c4) ∧ W.cell? ⟨w.heap.size, 0, none⟩ = some (.int .i64 x) ∧ W.cell? ⟨w.heap.size, 1, none⟩ = some (.int .i64 y) ∧ W.cell? ⟨w.heap.size, 2, none⟩ = some (.int .i64 z) ∧ W.cell? ⟨x12.heap.size, 0, none⟩ = some (.int .i64 x) ∧ W.cell? ⟨x12.heap.size, 1, none⟩ = some (.int .i64 y) ∧ W.cell? ⟨x12.heap.size, 2, none⟩ = some (.int .i64 z)) (first | exact SC.out _ D0 | exact SC.out _ D1 | exact SC.out _ D2 | exact SC.out _ D3 | exact SC.out _ D4 | exact SC.out _ D5 | exact SC.out _ D6 | exact SC.out _ D7 | exact SC.out _ D8 | exact SC.out _ D9 | exact SC.out _ D10 | exact SC.out _ D11 | exact SC.out _ D12)
    (first
      | ((with_reducible refine (M1.out _ D0).mono ?_); rintro r y1 ⟨rfl, hq⟩; have D1 : Below WV.heap.size WV y1 := D0.trans (hq.mono D0.size); clear M1 D0 hq)
      | ((with_reducible refine (M2.out _ D1).mono ?_); rintro r y2 ⟨rfl, hq⟩; have D2 : Below WV.heap.size WV y2 := D1.trans (hq.mono D1.size); clear M2 D1 hq)
      | ((with_reducible refine (M3.out _ D2).mono ?_); rintro r y3 ⟨b3, d3, rfl, t3, hq⟩; have D3 : Below WV.heap.size WV y3 := D2.trans (hq.mono D2.size); clear M3 D2 hq)
      | ((with_reducible refine (M4.out _ _ _ t3).mono ?_); rintro r y4 ⟨rfl, hq⟩; have D4 : Below WV.heap.size WV y4 := D3.trans (hq.mono D3.size); clear M4 D3 hq t3)
      | ((with_reducible refine (M5.out _ D4).mono ?_); rintro r y5 ⟨rfl, hq⟩; have D5 : Below WV.heap.size WV y5 := D4.trans (hq.mono D4.size); clear M5 D4 hq)
      | ((with_reducible refine (M6.out _ D5).mono ?_); rintro r y6 ⟨b6, d6, rfl, t6, hq⟩; have D6 : Below WV.heap.size WV y6 := D5.trans (hq.mono D5.size); clear M6 D5 hq)
      | ((with_reducible refine (M7.out _ _ _ t6).mono ?_); rintro r y7 ⟨rfl, hq⟩; have D7 : Below WV.heap.size WV y7 := D6.trans (hq.mono D6.size); clear M7 D6 hq t6)
      | ((with_reducible refine (M8.out _ D7).mono ?_); rintro r y8 ⟨rfl, hq⟩; have D8 : Below WV.heap.size WV y8 := D7.trans (hq.mono D7.size); clear M8 D7 hq)
      | ((with_reducible refine (M9.out _).mono ?_); rintro r y9 ⟨b9, d9, rfl, t9, hq⟩; have D9 : Below WV.heap.size WV y9 := D8.trans (hq.mono D8.size); clear M9 D8 hq)
      | ((with_reducible refine (M10.out _ _ _ t9).mono ?_); rintro r y10 ⟨rfl, hq⟩; have D10 : Below WV.heap.size WV y10 := D9.trans (hq.mono D9.size); clear M10 D9 hq t9)
      | ((with_reducible refine (M11.out _).mono ?_); rintro r y11 ⟨b11, d11, rfl, t11, hq⟩; have D11 : Below WV.heap.size WV y11 := D10.trans (hq.mono D10.size); clear M11 D10 hq)
      | ((with_reducible refine (M12.out _ _ _ t11).mono ?_); rintro r y12 ⟨rfl, hq⟩; have D12 : Below WV.heap.size WV y12 := D11.trans (hq.mono D11.size); clear M12 D11 hq t11))
  have HZ := Lib.hid (HZZ.out _ D12)
  clear D12 HZZ
  go_wp2
  go_ret
  exact ⟨by simp, HZ.out⟩
theorem mixes_any (a b : ByteArray) (x y z : Int) (w : World) (hw : Lb w) (hF : FineR w) : Calls Tryz.prog 4 #[.string a, .string b, .agg #[.int .i64 x, .int .i64 y, .int .i64 z]] w fun r w' => r = .returned (.bool true) ∧ Below w.heap.size w w' := by
  by_cases ha : a.size ≤ 300
  · by_cases hb : b.size ≤ 300
    · exact mixes_short a b x y z w hw hF ha hb
    · exact mixes_longB a b x y z w ha hb
  · exact mixes_longA a b x y z w ha
end Go.Proofs.YthpeifkiaodokaaGreatDoor
