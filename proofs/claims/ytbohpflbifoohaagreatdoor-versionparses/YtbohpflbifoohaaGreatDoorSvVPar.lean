/- VersionParses: the law's walk. -/
import Derived.Test.YtbohpflbifoohaaGreatDoorSvShelfC
import Derived.Test.YtbohpflbifoohaaGreatDoorSvRCmp
import Derived.Test.YtbohpflbifoohaaGreatDoorErBare
import Derived.Laws.StructEq
import Derived.Laws.Tables
import Derived.Laws.Cover2
namespace Go.Proofs.YtbohpflbifoohaaGreatDoor
open Go.RowKit Go.Shelf Sv

set_option maxRecDepth 100000 in
theorem eq_tri (a b c : Int) (w : World) : (Op.equalIn 10000 24 (.agg #[.int .i64 a, .int .i64 b, .int .i64 c]) (.agg #[.int .i64 a, .int .i64 b, .int .i64 c])).run Tryz.prog w = .ok true w := by
  have u3 := Tryz.underlying3
  have a3 := Tryz.isAgg3
  have z3 := Tryz.sizeOf3
  rw [show (10000 : Nat) = 9999 + 1 from rfl, Op.equalIn]
  simp only [Sem.run_bind, run_underlying Tryz.underlying24, Result.andThen_ok]
  simp only [Std.Legacy.Range.forIn_eq_forIn_range', Std.Legacy.Range.size, Nat.sub_zero, Nat.add_sub_cancel, Nat.div_one, List.range'_succ, List.range'_zero, List.forIn_cons, List.forIn_nil]
  go_simp

set_option maxRecDepth 100000 in
set_option maxHeartbeats 1000000 in
theorem vparses_long (s : ByteArray) (a b c d e f : Int) (w : World) (h : ¬ s.size ≤ 200) :
    Calls Tryz.prog 3 #[.string s, .agg #[.int .i64 a, .int .i64 b, .int .i64 c], .agg #[.int .i64 d, .int .i64 e, .int .i64 f]] w fun r w' => r = .returned (.bool true) ∧ Below w.heap.size w w' := by
  have h1 : (200 : Int) < (s.size : Int) := by omega
  have hB0 : Below w.heap.size w ((w.alloc (.cells #[.int .i64 a, .int .i64 b, .int .i64 c] 23)).alloc (.cells #[.int .i64 d, .int .i64 e, .int .i64 f] 23)) := ((Below.refl _ w).alloc (Nat.le_refl _) _).alloc (by simp only [World.size_alloc]; omega) _
  have HB0 := Lib.hid hB0
  clear h hB0
  go_enter Tryz.func3, Tryz.ntmps3
  go_wp2
  go_ret
  exact ⟨rfl, HB0.out⟩

set_option maxRecDepth 100000 in
set_option maxHeartbeats 1000000 in
theorem vparses_short (s : ByteArray) (a b c d e f : Int) (ha : -9223372036854775808 ≤ a ∧ a ≤ 9223372036854775807) (hb : -9223372036854775808 ≤ b ∧ b ≤ 9223372036854775807) (hc : -9223372036854775808 ≤ c ∧ c ≤ 9223372036854775807) (w : World) (hw : Lb w) (hs : s.size ≤ 200) :
    Calls Tryz.prog 3 #[.string s, .agg #[.int .i64 a, .int .i64 b, .int .i64 c], .agg #[.int .i64 d, .int .i64 e, .int .i64 f]] w fun r w' => r = .returned (.bool true) ∧ Below w.heap.size w w' := by
  have h1 : ¬ (200 : Int) < (s.size : Int) := by omega
  have HP : Hid (∀ W, Below w.heap.size w W → Calls Tryz.prog 10 #[.string s] W fun e w' => e = .returned (versV (versF s)) ∧ Below W.heap.size W w') := fun W hb => parse_any s W (by omega) (hw.below hb)
  have HQ : Hid (∀ W, Below w.heap.size w W → Calls Tryz.prog 9 #[.string s] W fun e w' => e = .returned (rversV (versF s)) ∧ Below W.heap.size W w') := fun W hb => rvparse_any splitC s W (by omega) (hw.below hb)
  have HC : Hid (∀ W, Calls Tryz.prog 12 #[.agg #[.int .i64 a, .int .i64 b, .int .i64 c], .agg #[.int .i64 d, .int .i64 e, .int .i64 f]] W fun r w' => r = .returned (.int .i64 (cmp3 (tI a b c) (tI d e f) 3)) ∧ Below W.heap.size W w') := fun W => cmpw_any a b c d e f W
  have HR : Hid (∀ W, Calls Tryz.prog 13 #[.agg #[.int .i64 a, .int .i64 b, .int .i64 c], .agg #[.int .i64 d, .int .i64 e, .int .i64 f]] W fun r w' => r = .returned (.int .i64 (cmp3 (tI a b c) (tI d e f) 3)) ∧ Below W.heap.size W w') := fun W => rcmp_any a b c d e f W
  have HT : Hid (∀ W, Below w.heap.size w W → Calls Tryz.prog 14 #[.agg #[.int .i64 a, .int .i64 b, .int .i64 c]] W fun e w' => e = .returned (.string ⟨(wtx a b c).toArray⟩) ∧ Below W.heap.size W w') := fun W h => wtext_any a b c ha hb hc W (hw.below h)
  have HU : Hid (∀ W, Below w.heap.size w W → Calls Tryz.prog 15 #[.agg #[.int .i64 a, .int .i64 b, .int .i64 c]] W fun e w' => e = .returned (.string ⟨(wtx a b c).toArray⟩) ∧ Below W.heap.size W w') := fun W h => rtext_any joinC replC a b c ha hb hc W (hw.below h)
  have HBE : Hid (∀ W m, Below w.heap.size w W → Calls Tryz.prog 11 #[.iface 25 (.int .i64 m), .int .i64 m] W fun e w' => e = .returned (.bool true) ∧ Below W.heap.size W w') := fun W m h => (bare_errno m m W (hw.below h).glob).mono fun r w' ⟨hr, hbl⟩ => ⟨by rw [hr]; simp, hbl⟩
  have HBN : Hid (∀ W, Below w.heap.size w W → Calls Tryz.prog 11 #[.nilIface, .int .i64 0] W fun e w' => e = .returned (.bool true) ∧ Below W.heap.size W w') := fun W h => (bare_nil 0 W).mono fun r w' ⟨hr, hbl⟩ => ⟨by rw [hr]; rfl, hbl⟩
  obtain ⟨X, Y, Z', K, ER, HP2, HQ2, HBB⟩ : ∃ (X Y Z' K : Int) (ER : Value), Hid (∀ W, Below w.heap.size w W → Calls Tryz.prog 10 #[.string s] W fun e w' => e = .returned (.tuple #[.agg #[.int .i64 X, .int .i64 Y, .int .i64 Z'], ER]) ∧ Below W.heap.size W w') ∧ Hid (∀ W, Below w.heap.size w W → Calls Tryz.prog 9 #[.string s] W fun e w' => e = .returned (.tuple #[.agg #[.int .i64 X, .int .i64 Y, .int .i64 Z'], .int .i64 K]) ∧ Below W.heap.size W w') ∧ Hid (∀ W, Below w.heap.size w W → Calls Tryz.prog 11 #[ER, .int .i64 K] W fun e w' => e = .returned (.bool true) ∧ Below W.heap.size W w') := by
    cases hv : versF s with
    | ok ns => exact ⟨_, _, _, 0, .nilIface, fun W h => by have := HP.out W h; rw [hv] at this; exact this, fun W h => by have := HQ.out W h; rw [hv] at this; exact this, fun W h => HBN.out W h⟩
    | error k => exact ⟨0, 0, 0, k, .iface 25 (.int .i64 k), fun W h => by have := HP.out W h; rw [hv] at this; exact this, fun W h => by have := HQ.out W h; rw [hv] at this; exact this, fun W h => HBE.out W k h⟩
  have ka := (Blk.new w 23 #[.int .i64 a, .int .i64 b, .int .i64 c]).alloc (.cells #[.int .i64 d, .int .i64 e, .int .i64 f] 23)
  have kb := Blk.new (w.alloc (.cells #[.int .i64 a, .int .i64 b, .int .i64 c] 23)) 23 #[.int .i64 d, .int .i64 e, .int .i64 f]
  rw [World.size_alloc] at kb
  have hB0 : Below w.heap.size w ((w.alloc (.cells #[.int .i64 a, .int .i64 b, .int .i64 c] 23)).alloc (.cells #[.int .i64 d, .int .i64 e, .int .i64 f] 23)) := ((Below.refl _ w).alloc (Nat.le_refl _) _).alloc (by simp only [World.size_alloc]; omega) _
  have HKA := Lib.hid ka
  have HKB := Lib.hid kb
  have HB0 := Lib.hid hB0
  clear hw hs ha hb hc HP HQ HBE HBN ka kb hB0
  generalize cmp3 (tI a b c) (tI d e f) 3 = Z at *
  generalize (⟨(wtx a b c).toArray⟩ : ByteArray) = T at *
  go_enter Tryz.func3, Tryz.ntmps3
  go_wp2_with fail
  generalize (w.alloc (.cells #[.int .i64 a, .int .i64 b, .int .i64 c] 23)).alloc (.cells #[.int .i64 d, .int .i64 e, .int .i64 f] 23) = W0 at *
  refine (HQ2.out _ HB0.out).mono ?_
  rintro r w1 ⟨rfl, hb1⟩
  have HB1 : Hid (Below w.heap.size w w1) := HB0.out.trans (hb1.mono HB0.out.size)
  have HKA1 := Lib.hid (HKA.out.below hb1 HKA.out.lt)
  have HKB1 := Lib.hid (HKB.out.below hb1 HKB.out.lt)
  clear hb1 HQ2 HKA HKB HB0
  go_wp2_with fail
  have hba1 := (Below.refl w1.heap.size w1).alloc (Nat.le_refl _) (.cells #[.int .i64 X, .int .i64 Y, .int .i64 Z'] 24)
  have HKW := Lib.hid (Blk.new w1 24 #[.int .i64 X, .int .i64 Y, .int .i64 Z'])
  have HB1a : Hid (Below w.heap.size w (w1.alloc (.cells #[.int .i64 X, .int .i64 Y, .int .i64 Z'] 24))) := HB1.out.trans (hba1.mono HB1.out.size)
  have HKA2 := Lib.hid (HKA1.out.below hba1 HKA1.out.lt)
  have HKB2 := Lib.hid (HKB1.out.below hba1 HKB1.out.lt)
  clear hba1 HKA1 HKB1 HB1
  generalize w1.alloc (.cells #[.int .i64 X, .int .i64 Y, .int .i64 Z'] 24) = W1 at *
  refine (HP2.out _ HB1a.out).mono ?_
  rintro r w2 ⟨rfl, hb2⟩
  have HB2 : Hid (Below w.heap.size w w2) := HB1a.out.trans (hb2.mono HB1a.out.size)
  have HKA3 := Lib.hid (HKA2.out.below hb2 HKA2.out.lt)
  have HKB3 := Lib.hid (HKB2.out.below hb2 HKB2.out.lt)
  have HKW3 := Lib.hid (HKW.out.below hb2 HKW.out.lt)
  clear hb2 HP2 HKA2 HKB2 HKW HB1a
  go_wp2_with fail
  have hba2 := (Below.refl w2.heap.size w2).alloc (Nat.le_refl _) (.cells #[.int .i64 X, .int .i64 Y, .int .i64 Z'] 23)
  have kv := Blk.new w2 23 #[.int .i64 X, .int .i64 Y, .int .i64 Z']
  have HB3 : Hid (Below w.heap.size w (w2.alloc (.cells #[.int .i64 X, .int .i64 Y, .int .i64 Z'] 23))) := HB2.out.trans (hba2.mono HB2.out.size)
  have ka := HKA3.out.below hba2 HKA3.out.lt
  have kb := HKB3.out.below hba2 HKB3.out.lt
  have kw := HKW3.out.below hba2 HKW3.out.lt
  clear hba2 HKA3 HKB3 HKW3 HB2
  generalize w2.alloc (.cells #[.int .i64 X, .int .i64 Y, .int .i64 Z'] 23) = W2 at *
  have SC : Hid (∀ W, Below W2.heap.size W2 W → W.cell? ⟨w.heap.size, 0, none⟩ = some (.int .i64 a) ∧ W.cell? ⟨w.heap.size, 1, none⟩ = some (.int .i64 b) ∧ W.cell? ⟨w.heap.size, 2, none⟩ = some (.int .i64 c) ∧ W.cell? ⟨w.heap.size + 1, 0, none⟩ = some (.int .i64 d) ∧ W.cell? ⟨w.heap.size + 1, 1, none⟩ = some (.int .i64 e) ∧ W.cell? ⟨w.heap.size + 1, 2, none⟩ = some (.int .i64 f) ∧ W.cell? ⟨w1.heap.size, 0, none⟩ = some (.int .i64 X) ∧ W.cell? ⟨w1.heap.size, 1, none⟩ = some (.int .i64 Y) ∧ W.cell? ⟨w1.heap.size, 2, none⟩ = some (.int .i64 Z') ∧ W.cell? ⟨w2.heap.size, 0, none⟩ = some (.int .i64 X) ∧ W.cell? ⟨w2.heap.size, 1, none⟩ = some (.int .i64 Y) ∧ W.cell? ⟨w2.heap.size, 2, none⟩ = some (.int .i64 Z')) := fun W hb => ⟨(ka.below hb ka.lt).cell 0, (ka.below hb ka.lt).cell 1, (ka.below hb ka.lt).cell 2, (kb.below hb kb.lt).cell 0, (kb.below hb kb.lt).cell 1, (kb.below hb kb.lt).cell 2, (kw.below hb kw.lt).cell 0, (kw.below hb kw.lt).cell 1, (kw.below hb kw.lt).cell 2, (kv.below hb kv.lt).cell 0, (kv.below hb kv.lt).cell 1, (kv.below hb kv.lt).cell 2⟩
  have heq3 := eq_tri X Y Z'
  have D0 : Below W2.heap.size W2 W2.drew := (Below.refl _ _).drew
  have E0 : Below w.heap.size w W2.drew := HB3.out.drew
  clear ka kb kw kv
  go_region_held3 (fun W => W.cell? ⟨w.heap.size, 0, none⟩ = some (.int .i64 a) ∧ W.cell? ⟨w.heap.size, 1, none⟩ = some (.int .i64 b) ∧ W.cell? ⟨w.heap.size, 2, none⟩ = some (.int .i64 c) ∧ W.cell? ⟨w.heap.size + 1, 0, none⟩ = some (.int .i64 d) ∧ W.cell? ⟨w.heap.size + 1, 1, none⟩ = some (.int .i64 e) ∧ W.cell? ⟨w.heap.size + 1, 2, none⟩ = some (.int .i64 f) ∧ W.cell? ⟨w1.heap.size, 0, none⟩ = some (.int .i64 X) ∧ W.cell? ⟨w1.heap.size, 1, none⟩ = some (.int .i64 Y) ∧ W.cell? ⟨w1.heap.size, 2, none⟩ = some (.int .i64 Z') ∧ W.cell? ⟨w2.heap.size, 0, none⟩ = some (.int .i64 X) ∧ W.cell? ⟨w2.heap.size, 1, none⟩ = some (.int .i64 Y) ∧ W.cell? ⟨w2.heap.size, 2, none⟩ = some (.int .i64 Z')) (first | exact SC.out _ D0 | exact SC.out _ D1 | exact SC.out _ D2 | exact SC.out _ D3 | exact SC.out _ D4 | exact SC.out _ D5)
    (first
      | ((with_reducible refine (HBB.out _ E0).mono ?_); rintro r x1 ⟨rfl, hb1⟩; have D1 : Below W2.heap.size W2 x1 := D0.trans (hb1.mono D0.size); clear HBB D0 E0 hb1)
      | ((with_reducible refine (HC.out _).mono ?_); rintro r x2 ⟨rfl, hb2⟩; have D2 : Below W2.heap.size W2 x2 := D1.trans (hb2.mono D1.size); clear HC D1 hb2)
      | ((with_reducible refine (HR.out _).mono ?_); rintro r x3 ⟨rfl, hb3⟩; have D3 : Below W2.heap.size W2 x3 := D2.trans (hb3.mono D2.size); have E3 : Below w.heap.size w x3 := HB3.out.trans (D3.mono HB3.out.size); clear HR D2 hb3)
      | ((with_reducible refine (HT.out _ E3).mono ?_); rintro r x4 ⟨rfl, hb4⟩; have D4 : Below W2.heap.size W2 x4 := D3.trans (hb4.mono D3.size); have E4 : Below w.heap.size w x4 := HB3.out.trans (D4.mono HB3.out.size); clear HT D3 E3 hb4)
      | ((with_reducible refine (HU.out _ E4).mono ?_); rintro r x5 ⟨rfl, hb5⟩; have D5 : Below W2.heap.size W2 x5 := D4.trans (hb5.mono D4.size); clear HU D4 E4 hb5))
  have HBZ : Hid (Below w.heap.size w x5) := HB3.out.trans (D5.mono HB3.out.size)
  clear D5
  go_wp2
  go_ret
  exact ⟨rfl, HBZ.out⟩
end Go.Proofs.YtbohpflbifoohaaGreatDoor
