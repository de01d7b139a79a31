/- RangeBack: the law's walk. -/
import Derived.Test.YthpeifkiaodokaaGreatDoorSvTextI
import Derived.Test.YthpeifkiaodokaaGreatDoorSvText
import Derived.Test.YthpeifkiaodokaaGreatDoorSvRanged
namespace Go.Proofs.YthpeifkiaodokaaGreatDoor
open Go.RowKit Go.Shelf Sv

theorem pr_ok (s : ByteArray) (W : World) (hs : s.size ≤ 1000) (hw : Lb W) (l : List Span) (h : rangeF s = .ok l) : Calls Tryz.prog 13 #[.string s] W fun e w' => ∃ (a : Option Addr) (c : Nat), e = .returned (.tuple #[.agg #[.slice a l.length c], .nilIface]) ∧ SpAt w' (.slice a l.length c) l ∧ Below W.heap.size W w' := (range_any s W hs hw).mono fun e w' hh => by
  unfold RgAtErr at hh
  rw [h] at hh
  obtain ⟨v', he, h1, h2, h3⟩ := hh
  obtain ⟨a', c', rfl⟩ := h1.form
  exact ⟨a', c', he, h1, h3⟩
theorem pr_err (s : ByteArray) (W : World) (hs : s.size ≤ 1000) (hw : Lb W) (q : Int × Nat) (h : rangeF s = .error q) : Calls Tryz.prog 13 #[.string s] W fun e w' => ∃ N, e = .returned (.tuple #[.agg #[.slice none 0 0], .iface 153 (.pointer (some ⟨N, 0, none⟩))]) ∧ Below W.heap.size W w' := (range_any s W hs hw).mono fun e w' hh => by
  obtain ⟨k, i⟩ := q
  unfold RgAtErr at hh
  rw [h] at hh
  obtain ⟨N, he, h1, h2, h3⟩ := hh
  exact ⟨N, he, h3⟩
theorem pr_form (s : ByteArray) (W : World) (hs : s.size ≤ 1000) (hw : Lb W) : Calls Tryz.prog 13 #[.string s] W fun e w' => ∃ (a : Option Addr) (n c : Nat) (er : Value), e = .returned (.tuple #[.agg #[.slice a n c], er]) ∧ Below W.heap.size W w' := by
  cases h : rangeF s with
  | ok l => exact (pr_ok s W hs hw l h).mono fun e w' ⟨a, c, he, _, hb⟩ => ⟨a, _, c, _, he, hb⟩
  | error q => exact (pr_err s W hs hw q h).mono fun e w' ⟨N, he, hb⟩ => ⟨none, 0, 0, _, he, hb⟩

set_option maxRecDepth 100000 in
set_option maxHeartbeats 1000000 in
theorem back_longA (a b : ByteArray) (w : World) (h : ¬ a.size ≤ 300) : Calls Tryz.prog 5 #[.string a, .string b] w fun r w' => r = .returned (.bool true) ∧ Below w.heap.size w w' := by
  have h1 : (300 : Int) < (a.size : Int) := by omega
  clear h
  go_enter Tryz.func5, Tryz.ntmps5
  go_wp2
  go_ret
  exact ⟨rfl, Below.refl _ _⟩
set_option maxRecDepth 100000 in
set_option maxHeartbeats 1000000 in
theorem back_longB (a b : ByteArray) (w : World) (h0 : a.size ≤ 300) (h : ¬ b.size ≤ 300) : Calls Tryz.prog 5 #[.string a, .string b] w fun r w' => r = .returned (.bool true) ∧ Below w.heap.size w w' := by
  have h1 : ¬ (300 : Int) < (a.size : Int) := by omega
  have h2 : (300 : Int) < (b.size : Int) := by omega
  clear h h0
  go_enter Tryz.func5, Tryz.ntmps5
  go_wp2
  go_ret
  exact ⟨rfl, Below.refl _ _⟩
set_option maxRecDepth 100000 in
set_option maxHeartbeats 1000000 in
theorem back_errA (a b : ByteArray) (w : World) (hw : Lb w) (ha : a.size ≤ 300) (hb : b.size ≤ 300) (q : Int × Nat) (hq : rangeF a = .error q) : Calls Tryz.prog 5 #[.string a, .string b] w fun r w' => r = .returned (.bool true) ∧ Below w.heap.size w w' := by
  have h1 : ¬ (300 : Int) < (a.size : Int) := by omega
  have h2 : ¬ (300 : Int) < (b.size : Int) := by omega
  have HA := Lib.hid (pr_err a w (by omega) hw q hq)
  have HB := Lib.hid (fun W (hb2 : Below w.heap.size w W) => pr_form b W (by omega) (hw.below hb2))
  have HR := Lib.hid (fun W (hb2 : Below w.heap.size w W) => ranged_any W (hw.below hb2))
  clear hw hq ha hb
  go_enter Tryz.func5, Tryz.ntmps5
  go_wp2_with fail
  refine HA.out.mono ?_
  rintro e w1 ⟨N, rfl, hb1⟩
  have HB1 : Hid (Below w.heap.size w (w1.alloc (.cells #[.slice none 0 0] 31))) := hb1.alloc hb1.size _
  clear hb1 HA
  go_wp2_with fail
  generalize w1.alloc (.cells #[.slice none 0 0] 31) = W1 at *
  refine (HB.out _ HB1.out).mono ?_
  rintro e w2 ⟨a2, n2, c2, er, rfl, hb2⟩
  have hB2 : Below w.heap.size w w2 := HB1.out.trans (hb2.mono HB1.out.size)
  have HB2 : Hid (Below w.heap.size w (w2.alloc (.cells #[.slice a2 n2 c2] 31))) := hB2.alloc hB2.size _
  clear hb2 hB2 HB HB1
  go_wp2_with fail
  generalize w2.alloc (.cells #[.slice a2 n2 c2] 31) = W2 at *
  refine (HR.out _ HB2.out).mono ?_
  rintro e w3 ⟨rfl, hb3⟩
  have HB3 : Hid (Below w.heap.size w w3) := HB2.out.trans (hb3.mono HB2.out.size)
  clear hb3 HB2
  go_wp2_with fail
  refine (HR.out _ HB3.out).mono ?_
  rintro e w4 ⟨rfl, hb4⟩
  have HB4 : Hid (Below w.heap.size w w4) := HB3.out.trans (hb4.mono HB3.out.size)
  clear hb4 HB3
  go_wp2
  go_ret
  exact ⟨rfl, HB4.out⟩
set_option maxRecDepth 100000 in
set_option maxHeartbeats 1000000 in
theorem back_errB (a b : ByteArray) (w : World) (hw : Lb w) (ha : a.size ≤ 300) (hb : b.size ≤ 300) (l : List Span) (hl : rangeF a = .ok l) (q : Int × Nat) (hq : rangeF b = .error q) : Calls Tryz.prog 5 #[.string a, .string b] w fun r w' => r = .returned (.bool true) ∧ Below w.heap.size w w' := by
  have h1 : ¬ (300 : Int) < (a.size : Int) := by omega
  have h2 : ¬ (300 : Int) < (b.size : Int) := by omega
  have HA := Lib.hid (pr_ok a w (by omega) hw l hl)
  have HB := Lib.hid (fun W (hb2 : Below w.heap.size w W) => pr_err b W (by omega) (hw.below hb2) q hq)
  have HR := Lib.hid (fun W (hb2 : Below w.heap.size w W) => ranged_any W (hw.below hb2))
  clear hw hq ha hb hl
  go_enter Tryz.func5, Tryz.ntmps5
  go_wp2_with fail
  refine HA.out.mono ?_
  rintro e w1 ⟨a1, c1, rfl, -, hb1⟩
  have HB1 : Hid (Below w.heap.size w (w1.alloc (.cells #[.slice a1 l.length c1] 31))) := hb1.alloc hb1.size _
  clear hb1 HA
  go_wp2_with fail
  generalize w1.alloc (.cells #[.slice a1 l.length c1] 31) = W1 at *
  refine (HB.out _ HB1.out).mono ?_
  rintro e w2 ⟨N, rfl, hb2⟩
  have hB2 : Below w.heap.size w w2 := HB1.out.trans (hb2.mono HB1.out.size)
  have HB2 : Hid (Below w.heap.size w (w2.alloc (.cells #[.slice none 0 0] 31))) := hB2.alloc hB2.size _
  clear hb2 hB2 HB HB1
  go_wp2_with fail
  generalize w2.alloc (.cells #[.slice none 0 0] 31) = W2 at *
  refine (HR.out _ HB2.out).mono ?_
  rintro e w3 ⟨rfl, hb3⟩
  have HB3 : Hid (Below w.heap.size w w3) := HB2.out.trans (hb3.mono HB2.out.size)
  clear hb3 HB2
  go_wp2_with fail
  refine (HR.out _ HB3.out).mono ?_
  rintro e w4 ⟨rfl, hb4⟩
  have HB4 : Hid (Below w.heap.size w w4) := HB3.out.trans (hb4.mono HB3.out.size)
  clear hb4 HB3
  go_wp2
  go_ret
  exact ⟨rfl, HB4.out⟩

set_option maxRecDepth 100000 in
set_option maxHeartbeats 2000000 in
theorem back_both (a b : ByteArray) (w : World) (hw : Lb w) (ha : a.size ≤ 300) (hb : b.size ≤ 300) (l m : List Span) (hl : rangeF a = .ok l) (hm : rangeF b = .ok m) : Calls Tryz.prog 5 #[.string a, .string b] w fun r w' => r = .returned (.bool true) ∧ Below w.heap.size w w' := by
  have h1 : ¬ (300 : Int) < (a.size : Int) := by omega
  have h2 : ¬ (300 : Int) < (b.size : Int) := by omega
  have gl := rangeF_rg hl
  have gm := rangeF_rg hm
  have HA := Lib.hid (pr_ok a w (by omega) hw l hl)
  have HB := Lib.hid (fun W (hb2 : Below w.heap.size w W) => pr_ok b W (by omega) (hw.below hb2) m hm)
  have HR := Lib.hid (fun W (hb2 : Below w.heap.size w W) => ranged_any W (hw.below hb2))
  have HT : Hid (∀ v W, Below w.heap.size w W → SpAt W v l → Calls Tryz.prog 16 #[.agg #[v]] W fun e w' => e = .returned (.string ⟨(rgT l).toArray⟩) ∧ Below W.heap.size W w') := fun v W hb hv => ptext_any l gl v W (hw.below hb) hv
  have HU : Hid (∀ v W, Below w.heap.size w W → SpAt W v m → Calls Tryz.prog 16 #[.agg #[v]] W fun e w' => e = .returned (.string ⟨(rgT m).toArray⟩) ∧ Below W.heap.size W w') := fun v W hb hv => ptext_any m gm v W (hw.below hb) hv
  have HP : Hid (∀ W, Below w.heap.size w W → (⟨(rgT l).toArray⟩ : ByteArray).size ≤ 1000 → Calls Tryz.prog 13 #[.string ⟨(rgT l).toArray⟩] W fun e w' => ∃ (a : Option Addr) (c : Nat), e = .returned (.tuple #[.agg #[.slice a l.length c], .nilIface]) ∧ SpAt w' (.slice a l.length c) l ∧ Below W.heap.size W w') := fun W hb hs => pr_ok _ W hs (hw.below hb) l (range_text gl)
  have HSL : Hid (∀ v u W, SpAt W v l → SpAt W u l → Calls Tryz.prog 24 #[.agg #[v], .agg #[u]] W fun e w' => e = .returned (.bool true) ∧ Below W.heap.size W w') := fun v u W hv hu => by have := same_any l l gl gl v u W hv hu; rw [decide_eq_true rfl] at this; exact this
  have HSM : Hid (∀ v u W, SpAt W v l → SpAt W u m → Calls Tryz.prog 24 #[.agg #[v], .agg #[u]] W fun e w' => e = .returned (.bool (decide (l = m))) ∧ Below W.heap.size W w') := fun v u W hv hu => same_any l m gl gm v u W hv hu
  have HEQ : Hid (((⟨(rgT l).toArray⟩ : ByteArray).toList == (⟨(rgT m).toArray⟩ : ByteArray).toList) = decide (l = m)) := rgT_same gl gm
  clear hw ha hb hl hm gl gm
  generalize decide (l = m) = D at *
  generalize (⟨(rgT l).toArray⟩ : ByteArray) = TL at *
  generalize (⟨(rgT m).toArray⟩ : ByteArray) = TM at *
  go_enter Tryz.func5, Tryz.ntmps5
  go_wp2_with fail
  refine HA.out.mono ?_
  rintro e w1 ⟨a1, c1, rfl, s1, hb1⟩
  have hA1 : Below w1.heap.size w1 (w1.alloc (.cells #[.slice a1 l.length c1] 31)) := (Below.refl _ _).alloc (Nat.le_refl _) _
  have HB1 : Hid (Below w.heap.size w (w1.alloc (.cells #[.slice a1 l.length c1] 31))) := hb1.trans (hA1.mono hb1.size)
  have HS1 := Lib.hid (s1.below hA1 (Nat.le_refl _))
  have HK1 := Lib.hid (Blk.new w1 31 #[.slice a1 l.length c1])
  clear hb1 HA s1 hA1
  go_wp2_with fail
  generalize w1.alloc (.cells #[.slice a1 l.length c1] 31) = W1 at *
  refine (HB.out _ HB1.out).mono ?_
  rintro e w2 ⟨a2, c2, rfl, s2, hb2⟩
  have hA2 : Below w2.heap.size w2 (w2.alloc (.cells #[.slice a2 m.length c2] 31)) := (Below.refl _ _).alloc (Nat.le_refl _) _
  have hB2 : Below W1.heap.size W1 (w2.alloc (.cells #[.slice a2 m.length c2] 31)) := hb2.trans (hA2.mono hb2.size)
  have HB2 : Hid (Below w.heap.size w (w2.alloc (.cells #[.slice a2 m.length c2] 31))) := HB1.out.trans (hB2.mono HB1.out.size)
  have HS2 := Lib.hid (s2.below hA2 (Nat.le_refl _))
  have HS1b := Lib.hid (HS1.out.below hB2 (Nat.le_refl _))
  have HK2 := Lib.hid (Blk.new w2 31 #[.slice a2 m.length c2])
  have HK1b := Lib.hid (HK1.out.below hB2 HK1.out.lt)
  clear hb2 hB2 hA2 s2 HB HB1 HS1 HK1
  go_wp2_with fail
  generalize w2.alloc (.cells #[.slice a2 m.length c2] 31) = W2 at *
  refine (HR.out _ HB2.out).mono ?_
  rintro e w3 ⟨rfl, hb3⟩
  have HB3 : Hid (Below w.heap.size w w3) := HB2.out.trans (hb3.mono HB2.out.size)
  have HS3 := Lib.hid (HS2.out.below hb3 (Nat.le_refl _))
  have HS3a := Lib.hid (HS1b.out.below hb3 (Nat.le_refl _))
  have HK3 := Lib.hid (HK2.out.below hb3 HK2.out.lt)
  have HK3a := Lib.hid (HK1b.out.below hb3 HK1b.out.lt)
  have d1 : w3.cell? ⟨w1.heap.size, 0, none⟩ = some (.slice a1 l.length c1) := HK3a.out.cell 0
  clear hb3 HB2 HS2 HS1b HK2 HK1b HR
  go_wp2_with fail
  refine (HT.out _ _ HB3.out HS3a.out).mono ?_
  rintro e w4 ⟨rfl, hb4⟩
  have HB4 : Hid (Below w.heap.size w w4) := HB3.out.trans (hb4.mono HB3.out.size)
  have HS4 := Lib.hid (HS3.out.below hb4 (Nat.le_refl _))
  have HS4a := Lib.hid (HS3a.out.below hb4 (Nat.le_refl _))
  have HK4 := Lib.hid (HK3.out.below hb4 HK3.out.lt)
  have HK4a := Lib.hid (HK3a.out.below hb4 HK3a.out.lt)
  clear hb4 HB3 HS3 HS3a HK3 HK3a d1
  -- what stands at the end, from any world on
  have FIN : Hid (∀ W : World, Below w4.heap.size w4 W → ∀ (Q : World → Prop), (∀ W', Below w.heap.size w W' → Q W') → (W.cell? ⟨w1.heap.size, 0, none⟩ = some (.slice a1 l.length c1) ∧ W.cell? ⟨w2.heap.size, 0, none⟩ = some (.slice a2 m.length c2) ∧ SpAt W (.slice a1 l.length c1) l ∧ SpAt W (.slice a2 m.length c2) m ∧ Below w.heap.size w W)) := fun W hb _ _ => ⟨(HK4a.out.below hb HK4a.out.lt).cell 0, (HK4.out.below hb HK4.out.lt).cell 0, HS4a.out.below hb (Nat.le_refl _), HS4.out.below hb (Nat.le_refl _), HB4.out.trans (hb.mono HB4.out.size)⟩
  by_cases hTL : TL.size ≤ 1000
  · have hTL' : (TL.size : Int) ≤ 1000 := by omega
    have HP4 := Lib.hid (HP.out _ HB4.out hTL)
    clear hTL HP
    go_wp2_with fail
    refine HP4.out.mono ?_
    rintro e w5 ⟨a5, c5, rfl, s5, hb5⟩
    have hA5 : Below w5.heap.size w5 (w5.alloc (.cells #[.slice a5 l.length c5] 31)) := (Below.refl _ _).alloc (Nat.le_refl _) _
    have hB5 : Below w4.heap.size w4 (w5.alloc (.cells #[.slice a5 l.length c5] 31)) := hb5.trans (hA5.mono hb5.size)
    obtain ⟨d1, -, t1, -, u1⟩ := FIN.out _ hB5 (fun _ => True) (fun _ _ => trivial)
    have d5 : (w5.alloc (.cells #[.slice a5 l.length c5] 31)).cell? ⟨w5.heap.size, 0, none⟩ = some (.slice a5 l.length c5) := (Blk.new w5 31 #[.slice a5 l.length c5]).cell 0
    have HK5 := Lib.hid (Blk.new w5 31 #[.slice a5 l.length c5])
    have HS5 := Lib.hid (s5.below hA5 (Nat.le_refl _))
    have HS5a := Lib.hid t1
    have HB5w := Lib.hid u1
    have HB5 := Lib.hid hB5
    clear s5 hb5 hA5 hB5 t1 u1 HP4
    go_wp2_with fail
    generalize w5.alloc (.cells #[.slice a5 l.length c5] 31) = W5 at *
    refine (HSL.out _ _ _ HS5.out HS5a.out).mono ?_
    rintro e w6 ⟨rfl, hb6⟩
    have HB6 : Hid (Below w4.heap.size w4 w6) := HB5.out.trans (hb6.mono HB5.out.size)
    have HB6w : Hid (Below w.heap.size w w6) := HB5w.out.trans (hb6.mono HB5w.out.size)
    have HS6 := Lib.hid (HS5.out.below hb6 (Nat.le_refl _))
    have d6 : w6.cell? ⟨w5.heap.size, 0, none⟩ = some (.slice a5 l.length c5) := (HK5.out.below hb6 HK5.out.lt).cell 0
    clear hb6 HS5 HS5a HK5 HB5w HB5 d1 d5 HSL
    go_wp2_with fail
    refine (HT.out _ _ HB6w.out HS6.out).mono ?_
    rintro e w7 ⟨rfl, hb7⟩
    have HB7 : Hid (Below w4.heap.size w4 w7) := HB6.out.trans (hb7.mono HB6.out.size)
    clear hb7 HS6 d6 HB6 HB6w
    have HC : Hid (∀ W, Below w7.heap.size w7 W → W.cell? ⟨w1.heap.size, 0, none⟩ = some (.slice a1 l.length c1) ∧ W.cell? ⟨w2.heap.size, 0, none⟩ = some (.slice a2 m.length c2)) := fun W hb => by
      obtain ⟨d1, d2, -, -, -⟩ := FIN.out W (HB7.out.trans (hb.mono HB7.out.size)) (fun _ => True) (fun _ _ => trivial)
      exact ⟨d1, d2⟩
    have HM1 : Hid (∀ W, Below w7.heap.size w7 W → Calls Tryz.prog 24 #[.agg #[.slice a1 l.length c1], .agg #[.slice a2 m.length c2]] W fun e w' => e = .returned (.bool D) ∧ Below W.heap.size W w') := fun W hb => by
      obtain ⟨-, -, t1, t2, -⟩ := FIN.out W (HB7.out.trans (hb.mono HB7.out.size)) (fun _ => True) (fun _ _ => trivial)
      exact HSM.out _ _ W t1 t2
    have HM2 : Hid (∀ W, Below w7.heap.size w7 W → Calls Tryz.prog 16 #[.agg #[.slice a1 l.length c1]] W fun e w' => e = .returned (.string TL) ∧ Below W.heap.size W w') := fun W hb => by
      obtain ⟨-, -, t1, -, u⟩ := FIN.out W (HB7.out.trans (hb.mono HB7.out.size)) (fun _ => True) (fun _ _ => trivial)
      exact HT.out _ W u t1
    have HM3 : Hid (∀ W, Below w7.heap.size w7 W → Calls Tryz.prog 16 #[.agg #[.slice a2 m.length c2]] W fun e w' => e = .returned (.string TM) ∧ Below W.heap.size W w') := fun W hb => by
      obtain ⟨-, -, -, t2, u⟩ := FIN.out W (HB7.out.trans (hb.mono HB7.out.size)) (fun _ => True) (fun _ _ => trivial)
      exact HU.out _ W u t2
    have HLAST : Hid (∀ W, Below w7.heap.size w7 W → Below w.heap.size w W) := fun W hb => by
      obtain ⟨-, -, -, -, u⟩ := FIN.out W (HB7.out.trans (hb.mono HB7.out.size)) (fun _ => True) (fun _ _ => trivial)
      exact u
    clear FIN HSM HT HU HB4 HS4 HS4a HK4 HK4a
    go_wp2_with fail
    have D0 : Below w7.heap.size w7 w7.drew := (Below.refl _ _).drew
    go_region_held3 (fun W => W.cell? ⟨w1.heap.size, 0, none⟩ = some (.slice a1 l.length c1) ∧ W.cell? ⟨w2.heap.size, 0, none⟩ = some (.slice a2 m.length c2)) (first | exact HC.out _ D0 | exact HC.out _ D1 | exact HC.out _ D2 | exact HC.out _ D3)
      (first
        | ((with_reducible refine (HM1.out _ D0).mono ?_); rintro r x1 ⟨rfl, hq1⟩; have D1 : Below w7.heap.size w7 x1 := D0.trans (hq1.mono D0.size); clear HM1 D0 hq1)
        | ((with_reducible refine (HM2.out _ D1).mono ?_); rintro r x2 ⟨rfl, hq2⟩; have D2 : Below w7.heap.size w7 x2 := D1.trans (hq2.mono D1.size); clear HM2 D1 hq2)
        | ((with_reducible refine (HM3.out _ D2).mono ?_); rintro r x3 ⟨rfl, hq3⟩; have D3 : Below w7.heap.size w7 x3 := D2.trans (hq3.mono D2.size); clear HM3 D2 hq3))
    have HZ := Lib.hid (HLAST.out _ D3)
    have heq := HEQ.out
    clear D3 HLAST
    go_wp2
    go_ret
    exact ⟨by simp [heq], HZ.out⟩
  · have hTL' : ¬ (TL.size : Int) ≤ 1000 := by omega
    clear hTL HP HSL
    have HC : Hid (∀ W, Below w4.heap.size w4 W → W.cell? ⟨w1.heap.size, 0, none⟩ = some (.slice a1 l.length c1) ∧ W.cell? ⟨w2.heap.size, 0, none⟩ = some (.slice a2 m.length c2)) := fun W hb => by
      obtain ⟨d1, d2, -, -, -⟩ := FIN.out W hb (fun _ => True) (fun _ _ => trivial)
      exact ⟨d1, d2⟩
    have HM1 : Hid (∀ W, Below w4.heap.size w4 W → Calls Tryz.prog 24 #[.agg #[.slice a1 l.length c1], .agg #[.slice a2 m.length c2]] W fun e w' => e = .returned (.bool D) ∧ Below W.heap.size W w') := fun W hb => by
      obtain ⟨-, -, t1, t2, -⟩ := FIN.out W hb (fun _ => True) (fun _ _ => trivial)
      exact HSM.out _ _ W t1 t2
    have HM2 : Hid (∀ W, Below w4.heap.size w4 W → Calls Tryz.prog 16 #[.agg #[.slice a1 l.length c1]] W fun e w' => e = .returned (.string TL) ∧ Below W.heap.size W w') := fun W hb => by
      obtain ⟨-, -, t1, -, u⟩ := FIN.out W hb (fun _ => True) (fun _ _ => trivial)
      exact HT.out _ W u t1
    have HM3 : Hid (∀ W, Below w4.heap.size w4 W → Calls Tryz.prog 16 #[.agg #[.slice a2 m.length c2]] W fun e w' => e = .returned (.string TM) ∧ Below W.heap.size W w') := fun W hb => by
      obtain ⟨-, -, -, t2, u⟩ := FIN.out W hb (fun _ => True) (fun _ _ => trivial)
      exact HU.out _ W u t2
    have HLAST : Hid (∀ W, Below w4.heap.size w4 W → Below w.heap.size w W) := fun W hb => by
      obtain ⟨-, -, -, -, u⟩ := FIN.out W hb (fun _ => True) (fun _ _ => trivial)
      exact u
    clear FIN HSM HT HU HB4 HS4 HS4a HK4 HK4a
    go_wp2_with fail
    have D0 : Below w4.heap.size w4 w4.drew := (Below.refl _ _).drew
    go_region_held3 (fun W => W.cell? ⟨w1.heap.size, 0, none⟩ = some (.slice a1 l.length c1) ∧ W.cell? ⟨w2.heap.size, 0, none⟩ = some (.slice a2 m.length c2)) (first | exact HC.out _ D0 | exact HC.out _ D1 | exact HC.out _ D2 | exact HC.out _ D3)
      (first
        | ((with_reducible refine (HM1.out _ D0).mono ?_); rintro r x1 ⟨rfl, hq1⟩; have D1 : Below w4.heap.size w4 x1 := D0.trans (hq1.mono D0.size); clear HM1 D0 hq1)
        | ((with_reducible refine (HM2.out _ D1).mono ?_); rintro r x2 ⟨rfl, hq2⟩; have D2 : Below w4.heap.size w4 x2 := D1.trans (hq2.mono D1.size); clear HM2 D1 hq2)
        | ((with_reducible refine (HM3.out _ D2).mono ?_); rintro r x3 ⟨rfl, hq3⟩; have D3 : Below w4.heap.size w4 x3 := D2.trans (hq3.mono D2.size); clear HM3 D2 hq3))
    have HZ := Lib.hid (HLAST.out _ D3)
    have heq := HEQ.out
    clear D3 HLAST
    go_wp2
    go_ret
    exact ⟨by simp [heq], HZ.out⟩
theorem back_any (a b : ByteArray) (w : World) (hw : Lb w) : Calls Tryz.prog 5 #[.string a, .string b] w fun r w' => r = .returned (.bool true) ∧ Below w.heap.size w w' := by
  by_cases ha : a.size ≤ 300
  · by_cases hb : b.size ≤ 300
    · cases hl : rangeF a with
      | error q => exact back_errA a b w hw ha hb q hl
      | ok l =>
        cases hm : rangeF b with
        | error q => exact back_errB a b w hw ha hb l hl q hm
        | ok m => exact back_both a b w hw ha hb l m hl hm
    · exact back_longB a b w ha hb
  · exact back_longA a b w ha
end Go.Proofs.YthpeifkiaodokaaGreatDoor
