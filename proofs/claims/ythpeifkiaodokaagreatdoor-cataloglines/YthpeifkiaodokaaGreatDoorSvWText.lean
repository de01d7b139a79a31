/- The text of any version. -/
import Derived.Test.YthpeifkiaodokaaGreatDoorSvShelf2
import Derived.Test.YthpeifkiaodokaaGreatDoorSvTextF
import Derived.Test.YthpeifkiaodokaaGreatDoorSvBlk
import Derived.Lib.ItoaLen
namespace Go.Proofs.YthpeifkiaodokaaGreatDoor
open Go.RowKit Go.Shelf Sv

theorem itoa_any (n : Nat) (hn : n ≤ 999) (w : World) (hw : Lb w) : Calls Tryz.prog 151 #[.int .i64 (n : Int)] w fun e w' => e = .returned (.string ⟨(ptx n).toArray⟩) ∧ Below w.heap.size w w' :=
  (Tryz.strconv_Itoa (n : Int) (by omega) (by omega) w hw.tab).mono fun e w' ⟨he, k, os, hw'⟩ => ⟨he, hw' ▸ grow_below _ w k os (Nat.le_refl _)⟩

set_option maxRecDepth 100000 in
set_option maxHeartbeats 1000000 in
theorem vtext_any (a b c : Nat) (ha : a ≤ 999) (hb : b ≤ 999) (hc : c ≤ 999) (w : World) (hw : Lb w) :
    Calls Tryz.prog 119 #[.agg #[.int .i64 (a : Int), .int .i64 (b : Int), .int .i64 (c : Int)]] w fun e w' => e = .returned (.string ⟨(vtx a b c).toArray⟩) ∧ Below w.heap.size w w' := by
  have HA : Hid (∀ W, Below w.heap.size w W → Calls Tryz.prog 151 #[.int .i64 (a : Int)] W fun e w' => e = .returned (.string ⟨(ptx a).toArray⟩) ∧ Below W.heap.size W w') := fun W h => itoa_any a ha W (hw.below h)
  have HB : Hid (∀ W, Below w.heap.size w W → Calls Tryz.prog 151 #[.int .i64 (b : Int)] W fun e w' => e = .returned (.string ⟨(ptx b).toArray⟩) ∧ Below W.heap.size W w') := fun W h => itoa_any b hb W (hw.below h)
  have HC : Hid (∀ W, Below w.heap.size w W → Calls Tryz.prog 151 #[.int .i64 (c : Int)] W fun e w' => e = .returned (.string ⟨(ptx c).toArray⟩) ∧ Below W.heap.size W w') := fun W h => itoa_any c hc W (hw.below h)
  have kv := Blk.new w 42 #[.int .i64 (a : Int), .int .i64 (b : Int), .int .i64 (c : Int)]
  have hB0 : Below w.heap.size w (w.alloc (.cells #[.int .i64 (a : Int), .int .i64 (b : Int), .int .i64 (c : Int)] 42)) := (Below.refl _ w).alloc (Nat.le_refl _) _
  have la := (ptx_ok ha).short
  have lb := (ptx_ok hb).short
  have lc := (ptx_ok hc).short
  have HV : Hid (vtx a b c = ptx a ++ 46 :: (ptx b ++ 46 :: ptx c)) := rfl
  generalize vtx a b c = V at *
  generalize ptx a = A at *
  generalize ptx b = B at *
  generalize ptx c = C at *
  have q1 : ¬ 9223372036854775807 < A.length + 1 := by omega
  have q2 : ¬ 9223372036854775807 < A.length + 1 + B.length := by omega
  have q3 : ¬ 9223372036854775807 < A.length + 1 + B.length + 1 := by omega
  have q4 : ¬ 9223372036854775807 < A.length + 1 + B.length + 1 + C.length := by omega
  have HQ : Hid ((⟨A.toArray⟩ : ByteArray) ++ ⟨#[46]⟩ ++ ⟨B.toArray⟩ ++ ⟨#[46]⟩ ++ ⟨C.toArray⟩ = ⟨V.toArray⟩) := bytes_of (by rw [HV.out]; simp [ByteArray.data_append])
  clear hw ha hb hc HV la lb lc
  go_enter Tryz.func119, Tryz.ntmps119
  go_wp2_with fail
  generalize w.alloc (.cells #[.int .i64 (a : Int), .int .i64 (b : Int), .int .i64 (c : Int)] 42) = W0 at *
  have SC : Hid (∀ W, Below W0.heap.size W0 W → W.cell? ⟨w.heap.size, 0, none⟩ = some (.int .i64 (a : Int)) ∧ W.cell? ⟨w.heap.size, 1, none⟩ = some (.int .i64 (b : Int)) ∧ W.cell? ⟨w.heap.size, 2, none⟩ = some (.int .i64 (c : Int))) := fun W hb => ⟨(kv.below hb kv.lt).cell 0, (kv.below hb kv.lt).cell 1, (kv.below hb kv.lt).cell 2⟩
  have HB0 := Lib.hid hB0
  have D0 : Below W0.heap.size W0 W0.drew := (Below.refl _ _).drew
  have E0 : Below w.heap.size w W0.drew := HB0.out.drew
  clear kv hB0
  go_region_held3 (fun w' => w'.cell? ⟨w.heap.size, 0, none⟩ = some (.int .i64 (a : Int)) ∧ w'.cell? ⟨w.heap.size, 1, none⟩ = some (.int .i64 (b : Int)) ∧ w'.cell? ⟨w.heap.size, 2, none⟩ = some (.int .i64 (c : Int))) (first | exact SC.out _ D0 | exact SC.out _ D1 | exact SC.out _ D2 | exact SC.out _ D3)
    (first
      | ((with_reducible refine (HA.out _ E0).mono ?_); rintro e w1 ⟨rfl, hb1⟩; have D1 : Below W0.heap.size W0 w1 := D0.trans (hb1.mono D0.size); have E1 : Below w.heap.size w w1 := E0.trans (hb1.mono E0.size); clear HA D0 E0 hb1)
      | ((with_reducible refine (HB.out _ E1).mono ?_); rintro e w2 ⟨rfl, hb2⟩; have D2 : Below W0.heap.size W0 w2 := D1.trans (hb2.mono D1.size); have E2 : Below w.heap.size w w2 := E1.trans (hb2.mono E1.size); clear HB D1 E1 hb2)
      | ((with_reducible refine (HC.out _ E2).mono ?_); rintro e w3 ⟨rfl, hb3⟩; have D3 : Below W0.heap.size W0 w3 := D2.trans (hb3.mono D2.size); have E3 : Below w.heap.size w w3 := E2.trans (hb3.mono E2.size); clear HC D2 E2 hb3))
  have HE := Lib.hid E3
  clear D3 E3
  go_wp2
  go_ret
  exact ⟨by rw [← HQ.out]; rfl, HE.out⟩
end Go.Proofs.YthpeifkiaodokaaGreatDoor

namespace Go.Proofs.YthpeifkiaodokaaGreatDoor
open Go.RowKit Go.Shelf Sv

theorem itoa_int (n : Int) (hn : -9223372036854775808 ≤ n ∧ n ≤ 9223372036854775807) (w : World) (hw : Lb w) : Calls Tryz.prog 151 #[.int .i64 n] w fun e w' => e = .returned (.string ⟨(Lib.itoa n).toArray⟩) ∧ Below w.heap.size w w' :=
  (Tryz.strconv_Itoa n hn.1 hn.2 w hw.tab).mono fun _ _ ⟨he, k, os, hw'⟩ => ⟨he, hw' ▸ grow_below _ w k os (Nat.le_refl _)⟩
def wtx (a b c : Int) : List UInt8 := Lib.itoa a ++ 46 :: (Lib.itoa b ++ 46 :: Lib.itoa c)

set_option maxRecDepth 100000 in
set_option maxHeartbeats 1000000 in
theorem wtext_any (a b c : Int) (ha : -9223372036854775808 ≤ a ∧ a ≤ 9223372036854775807) (hb : -9223372036854775808 ≤ b ∧ b ≤ 9223372036854775807) (hc : -9223372036854775808 ≤ c ∧ c ≤ 9223372036854775807) (w : World) (hw : Lb w) :
    Calls Tryz.prog 119 #[.agg #[.int .i64 a, .int .i64 b, .int .i64 c]] w fun e w' => e = .returned (.string ⟨(wtx a b c).toArray⟩) ∧ Below w.heap.size w w' := by
  have HA : Hid (∀ W, Below w.heap.size w W → Calls Tryz.prog 151 #[.int .i64 a] W fun e w' => e = .returned (.string ⟨(Lib.itoa a).toArray⟩) ∧ Below W.heap.size W w') := fun W h => itoa_int a ha W (hw.below h)
  have HB : Hid (∀ W, Below w.heap.size w W → Calls Tryz.prog 151 #[.int .i64 b] W fun e w' => e = .returned (.string ⟨(Lib.itoa b).toArray⟩) ∧ Below W.heap.size W w') := fun W h => itoa_int b hb W (hw.below h)
  have HC : Hid (∀ W, Below w.heap.size w W → Calls Tryz.prog 151 #[.int .i64 c] W fun e w' => e = .returned (.string ⟨(Lib.itoa c).toArray⟩) ∧ Below W.heap.size W w') := fun W h => itoa_int c hc W (hw.below h)
  have kv := Blk.new w 42 #[.int .i64 a, .int .i64 b, .int .i64 c]
  have hB0 : Below w.heap.size w (w.alloc (.cells #[.int .i64 a, .int .i64 b, .int .i64 c] 42)) := (Below.refl _ w).alloc (Nat.le_refl _) _
  have la := Lib.itoa_length_le a ha.1 ha.2
  have lb := Lib.itoa_length_le b hb.1 hb.2
  have lc := Lib.itoa_length_le c hc.1 hc.2
  have HV : Hid (wtx a b c = Lib.itoa a ++ 46 :: (Lib.itoa b ++ 46 :: Lib.itoa c)) := rfl
  generalize wtx a b c = V at *
  generalize Lib.itoa a = A at *
  generalize Lib.itoa b = B at *
  generalize Lib.itoa c = C at *
  have q1 : ¬ 9223372036854775807 < A.length + 1 := by omega
  have q2 : ¬ 9223372036854775807 < A.length + 1 + B.length := by omega
  have q3 : ¬ 9223372036854775807 < A.length + 1 + B.length + 1 := by omega
  have q4 : ¬ 9223372036854775807 < A.length + 1 + B.length + 1 + C.length := by omega
  have HQ : Hid ((⟨A.toArray⟩ : ByteArray) ++ ⟨#[46]⟩ ++ ⟨B.toArray⟩ ++ ⟨#[46]⟩ ++ ⟨C.toArray⟩ = ⟨V.toArray⟩) := bytes_of (by rw [HV.out]; simp [ByteArray.data_append])
  clear hw ha hb hc HV la lb lc
  go_enter Tryz.func119, Tryz.ntmps119
  go_wp2_with fail
  generalize w.alloc (.cells #[.int .i64 a, .int .i64 b, .int .i64 c] 42) = W0 at *
  have SC : Hid (∀ W, Below W0.heap.size W0 W → W.cell? ⟨w.heap.size, 0, none⟩ = some (.int .i64 a) ∧ W.cell? ⟨w.heap.size, 1, none⟩ = some (.int .i64 b) ∧ W.cell? ⟨w.heap.size, 2, none⟩ = some (.int .i64 c)) := fun W hb => ⟨(kv.below hb kv.lt).cell 0, (kv.below hb kv.lt).cell 1, (kv.below hb kv.lt).cell 2⟩
  have HB0 := Lib.hid hB0
  have D0 : Below W0.heap.size W0 W0.drew := (Below.refl _ _).drew
  have E0 : Below w.heap.size w W0.drew := HB0.out.drew
  clear kv hB0
  go_region_held3 (fun w' => w'.cell? ⟨w.heap.size, 0, none⟩ = some (.int .i64 a) ∧ w'.cell? ⟨w.heap.size, 1, none⟩ = some (.int .i64 b) ∧ w'.cell? ⟨w.heap.size, 2, none⟩ = some (.int .i64 c)) (first | exact SC.out _ D0 | exact SC.out _ D1 | exact SC.out _ D2 | exact SC.out _ D3)
    (first
      | ((with_reducible refine (HA.out _ E0).mono ?_); rintro e w1 ⟨rfl, hb1⟩; have D1 : Below W0.heap.size W0 w1 := D0.trans (hb1.mono D0.size); have E1 : Below w.heap.size w w1 := E0.trans (hb1.mono E0.size); clear HA D0 E0 hb1)
      | ((with_reducible refine (HB.out _ E1).mono ?_); rintro e w2 ⟨rfl, hb2⟩; have D2 : Below W0.heap.size W0 w2 := D1.trans (hb2.mono D1.size); have E2 : Below w.heap.size w w2 := E1.trans (hb2.mono E1.size); clear HB D1 E1 hb2)
      | ((with_reducible refine (HC.out _ E2).mono ?_); rintro e w3 ⟨rfl, hb3⟩; have D3 : Below W0.heap.size W0 w3 := D2.trans (hb3.mono D2.size); have E3 : Below w.heap.size w w3 := E2.trans (hb3.mono E2.size); clear HC D2 E2 hb3))
  have HE := Lib.hid E3
  clear D3 E3
  go_wp2
  go_ret
  exact ⟨by rw [← HQ.out]; rfl, HE.out⟩
end Go.Proofs.YthpeifkiaodokaaGreatDoor
