/- Texts of spans and of ranges; a span's text, walked. -/
import Derived.Test.YthpeifkiaodokaaGreatDoorSvWText
import Derived.Test.YthpeifkiaodokaaGreatDoorSvTextF
import Derived.Test.YthpeifkiaodokaaGreatDoorSvSame
import Derived.Lib.Join
namespace Go.Proofs.YthpeifkiaodokaaGreatDoor
open Go.RowKit Go.Shelf Sv

/-- A number's version as text. -/
def vnx (n : Nat) : List UInt8 := vtx (n / 1000000) (n / 1000 % 1000) (n % 1000)
def spanT (s : Span) : List UInt8 :=
  if s.2 = s.1 + 1 then vnx s.1
  else if s.1 = 0 ∧ s.2 = ALL then [97, 110, 121]
  else if s.2 = ALL then 62 :: 61 :: vnx s.1
  else if s.1 = 0 then 60 :: vnx s.2
  else 62 :: 61 :: (vnx s.1 ++ 32 :: 60 :: vnx s.2)
def sepT : List UInt8 := [32, 124, 124, 32]
def rgT (l : List Span) : List UInt8 := if l = [] then [110, 111, 110, 101] else Lib.join (l.map spanT) sepT
theorem ptx_len {n : Nat} (h : n ≤ 1000000000) : (ptx n).length ≤ 21 := Lib.itoa_length_le (n : Int) (by omega) (by omega)
theorem vnx_len {n : Nat} (h : n ≤ ALL) : (vnx n).length ≤ 65 := by
  unfold ALL at h
  unfold vnx vtx
  have h1 := ptx_len (n := n / 1000000) (by omega)
  have h2 := ptx_len (n := n / 1000 % 1000) (by omega)
  have h3 := ptx_len (n := n % 1000) (by omega)
  simp only [List.length_append, List.length_cons]; omega
theorem spanT_len {s : Span} (h1 : s.1 ≤ ALL) (h2 : s.2 ≤ ALL) : (spanT s).length ≤ 134 := by
  have a := vnx_len h1
  have b := vnx_len h2
  unfold spanT
  split
  · omega
  · split
    · decide
    · split
      · simp only [List.length_cons]; omega
      · split
        · simp only [List.length_cons]; omega
        · simp only [List.length_cons, List.length_append]; omega

set_option maxRecDepth 100000 in
set_option maxHeartbeats 1000000 in
theorem version_any (n : Nat) (hn : n ≤ 1000000000) (w : World) : Calls Tryz.prog 118 #[.int .i64 (n : Int)] w fun e w' => e = .returned (.agg #[.int .i64 ((n / 1000000 : Nat) : Int), .int .i64 ((n / 1000 % 1000 : Nat) : Int), .int .i64 ((n % 1000 : Nat) : Int)]) ∧ Below w.heap.size w w' := by
  have e1 : (n : Int) / 1000 / 1000 = ((n / 1000000 : Nat) : Int) := by omega
  have e2 : (n : Int) / 1000 % 1000 = ((n / 1000 % 1000 : Nat) : Int) := by omega
  have e3 : (n : Int) % 1000 = ((n % 1000 : Nat) : Int) := by omega
  have E1 := Lib.hid e1
  have E2 := Lib.hid e2
  have E3 := Lib.hid e3
  clear e1 e2 e3
  go_enter Tryz.func118, Tryz.ntmps118
  go_wp2_with fail
  rw [E1.out, E2.out, E3.out]
  have k := Blk.new w 42 #[.int .i64 ((n / 1000000 : Nat) : Int), .int .i64 ((n / 1000 % 1000 : Nat) : Int), .int .i64 ((n % 1000 : Nat) : Int)]
  have hB : Below w.heap.size w (w.alloc (.cells #[.int .i64 ((n / 1000000 : Nat) : Int), .int .i64 ((n / 1000 % 1000 : Nat) : Int), .int .i64 ((n % 1000 : Nat) : Int)] 42)) := (Below.refl _ w).alloc (Nat.le_refl _) _
  generalize ((n / 1000000 : Nat) : Int) = A1 at *
  generalize ((n / 1000 % 1000 : Nat) : Int) = A2 at *
  generalize ((n % 1000 : Nat) : Int) = A3 at *
  have r0 := k.cell 0
  have r1 := k.cell 1
  have r2 := k.cell 2
  refine bodyPost_ret (v := .agg #[.int .i64 A1, .int .i64 A2, .int .i64 A3]) (by simp [results, Tryz.results118, go_sem, r0, r1, r2]) rfl ?_
  exact ⟨rfl, hB⟩
theorem vtx_wtx (a b c : Nat) : wtx (a : Int) (b : Int) (c : Int) = vtx a b c := rfl
/-- The text of a number's version. -/
theorem vnum_text (n : Nat) (hn : n ≤ 1000000000) (w : World) (hw : Lb w) : Calls Tryz.prog 119 #[.agg #[.int .i64 ((n / 1000000 : Nat) : Int), .int .i64 ((n / 1000 % 1000 : Nat) : Int), .int .i64 ((n % 1000 : Nat) : Int)]] w fun e w' => e = .returned (.string ⟨(vnx n).toArray⟩) ∧ Below w.heap.size w w' :=
  wtext_any _ _ _ (by omega) (by omega) (by omega) w hw

theorem app_str (x y : List UInt8) : ((⟨x.toArray⟩ : ByteArray) ++ ⟨y.toArray⟩) = ⟨(x ++ y).toArray⟩ := by
  apply ByteArray.ext
  simp [ByteArray.data_append]

set_option maxRecDepth 100000 in
set_option maxHeartbeats 2000000 in
theorem spanText_any (s : Span) (h1 : s.1 < s.2) (h2 : s.2 ≤ ALL) (w : World) (hw : Lb w) :
    Calls Tryz.prog 66 #[.agg #[.int .i64 (s.1 : Int), .int .i64 (s.2 : Int)]] w fun e w' => e = .returned (.string ⟨(spanT s).toArray⟩) ∧ Below w.heap.size w w' := by
  obtain ⟨x, y⟩ := s
  simp only at h1 h2
  have h2' : y ≤ 1000000000 := h2
  have HVX : Hid (∀ W, Calls Tryz.prog 118 #[.int .i64 (x : Int)] W fun e w' => e = .returned (.agg #[.int .i64 ((x / 1000000 : Nat) : Int), .int .i64 ((x / 1000 % 1000 : Nat) : Int), .int .i64 ((x % 1000 : Nat) : Int)]) ∧ Below W.heap.size W w') := fun W => version_any x (by omega) W
  have HVY : Hid (∀ W, Calls Tryz.prog 118 #[.int .i64 (y : Int)] W fun e w' => e = .returned (.agg #[.int .i64 ((y / 1000000 : Nat) : Int), .int .i64 ((y / 1000 % 1000 : Nat) : Int), .int .i64 ((y % 1000 : Nat) : Int)]) ∧ Below W.heap.size W w') := fun W => version_any y (by omega) W
  have HTX : Hid (∀ W, Below w.heap.size w W → Calls Tryz.prog 119 #[.agg #[.int .i64 ((x / 1000000 : Nat) : Int), .int .i64 ((x / 1000 % 1000 : Nat) : Int), .int .i64 ((x % 1000 : Nat) : Int)]] W fun e w' => e = .returned (.string ⟨(vnx x).toArray⟩) ∧ Below W.heap.size W w') := fun W hb => vnum_text x (by omega) W (hw.below hb)
  have HTY : Hid (∀ W, Below w.heap.size w W → Calls Tryz.prog 119 #[.agg #[.int .i64 ((y / 1000000 : Nat) : Int), .int .i64 ((y / 1000 % 1000 : Nat) : Int), .int .i64 ((y % 1000 : Nat) : Int)]] W fun e w' => e = .returned (.string ⟨(vnx y).toArray⟩) ∧ Below W.heap.size W w') := fun W hb => vnum_text y (by omega) W (hw.below hb)
  have k0 := Blk.new w 127 #[.int .i64 (x : Int), .int .i64 (y : Int)]
  have hB0 : Below w.heap.size w (w.alloc (.cells #[.int .i64 (x : Int), .int .i64 (y : Int)] 127)) := (Below.refl _ w).alloc (Nat.le_refl _) _
  have HK0 := Lib.hid k0
  have HB0 := Lib.hid hB0
  have HSX : Hid (spanT (x, y) = if y = x + 1 then vnx x else if x = 0 ∧ y = ALL then [97, 110, 121] else if y = ALL then 62 :: 61 :: vnx x else if x = 0 then 60 :: vnx y else 62 :: 61 :: (vnx x ++ 32 :: 60 :: vnx y)) := rfl
  have lx := vnx_len (n := x) (by unfold ALL; omega)
  have ly := vnx_len (n := y) h2
  clear k0 hB0 hw
  generalize ((x / 1000000 : Nat) : Int) = A1 at *
  generalize ((x / 1000 % 1000 : Nat) : Int) = A2 at *
  generalize ((x % 1000 : Nat) : Int) = A3 at *
  generalize ((y / 1000000 : Nat) : Int) = C1 at *
  generalize ((y / 1000 % 1000 : Nat) : Int) = C2 at *
  generalize ((y % 1000 : Nat) : Int) = C3 at *
  generalize vnx x = X at *
  generalize vnx y = Y at *
  generalize spanT (x, y) = R at *
  go_enter Tryz.func66, Tryz.ntmps66
  go_wp2_with fail
  generalize w.alloc (.cells #[.int .i64 (x : Int), .int .i64 (y : Int)] 127) = W0 at *
  have SC : Hid (∀ W, Below W0.heap.size W0 W → W.cell? ⟨w.heap.size, 0, none⟩ = some (.int .i64 (x : Int)) ∧ W.cell? ⟨w.heap.size, 1, none⟩ = some (.int .i64 (y : Int))) := fun W hb => ⟨(HK0.out.below hb HK0.out.lt).cell 0, (HK0.out.below hb HK0.out.lt).cell 1⟩
  have D0 : Below W0.heap.size W0 W0.drew := (Below.refl _ _).drew
  go_region_held3 (fun W => W.cell? ⟨w.heap.size, 0, none⟩ = some (.int .i64 (x : Int)) ∧ W.cell? ⟨w.heap.size, 1, none⟩ = some (.int .i64 (y : Int))) (first | exact SC.out _ D0 | exact SC.out _ D1 | exact SC.out _ D2 | exact SC.out _ D3 | exact SC.out _ D4)
    (first
      | ((with_reducible refine (HVX.out _).mono ?_); rintro r x1 ⟨rfl, hb1⟩; have D1 : Below W0.heap.size W0 x1 := D0.trans (hb1.mono D0.size); have E1 : Below w.heap.size w x1 := HB0.out.trans (D1.mono HB0.out.size); clear HVX D0 hb1)
      | ((with_reducible refine (HTX.out _ E1).mono ?_); rintro r x2 ⟨rfl, hb2⟩; have D2 : Below W0.heap.size W0 x2 := D1.trans (hb2.mono D1.size); clear HTX D1 E1 hb2)
      | ((with_reducible refine (HVY.out _).mono ?_); rintro r x3 ⟨rfl, hb3⟩; have D3 : Below W0.heap.size W0 x3 := D2.trans (hb3.mono D2.size); have E3 : Below w.heap.size w x3 := HB0.out.trans (D3.mono HB0.out.size); clear HVY D2 hb3)
      | ((with_reducible refine (HTY.out _ E3).mono ?_); rintro r x4 ⟨rfl, hb4⟩; have D4 : Below W0.heap.size W0 x4 := D3.trans (hb4.mono D3.size); clear HTY D3 E3 hb4))
  have HBZ : Hid (Below w.heap.size w x4) := HB0.out.trans (D4.mono HB0.out.size)
  obtain ⟨c0, c1⟩ := SC.out _ D4
  clear D4 SC HK0 HB0
  have hxz : (x : Int) = 0 ↔ x = 0 := by omega
  by_cases a1 : y = x + 1
  · have a1' : ((y : Int) == (x : Int) + 1) = true := by rw [beq_iff_eq]; omega
    have hR : R = X := by rw [HSX.out, if_pos a1]
    clear HSX a1 hxz
    go_wp2
    go_ret
    exact ⟨by rw [hR]; rfl, HBZ.out⟩
  · have a1' : ((y : Int) == (x : Int) + 1) = false := by rw [beq_eq_false_iff_ne]; omega
    have hR := HSX.out
    rw [if_neg a1] at hR
    clear HSX a1
    by_cases a2 : x = 0
    · have a2' : ((x : Int) == 0) = true := by rw [beq_iff_eq]; omega
      by_cases a3 : y = ALL
      · have a3' : ((y : Int) == 1000000000) = true := by rw [beq_iff_eq]; unfold ALL at a3; omega
        rw [if_pos ⟨a2, a3⟩] at hR
        clear a2 a3 hxz
        go_wp2
        go_ret
        exact ⟨by rw [hR]; rfl, HBZ.out⟩
      · have a3' : ((y : Int) == 1000000000) = false := by rw [beq_eq_false_iff_ne]; unfold ALL at a3; omega
        rw [if_neg (fun h => a3 h.2), if_neg a3, if_pos a2] at hR
        clear a2 a3 hxz
        go_wp2
        go_ret
        exact ⟨by rw [hR]; rfl, HBZ.out⟩
    · have a2' : ((x : Int) == 0) = false := by rw [beq_eq_false_iff_ne]; omega
      by_cases a3 : y = ALL
      · have a3' : ((y : Int) == 1000000000) = true := by rw [beq_iff_eq]; unfold ALL at a3; omega
        rw [if_neg (fun h => a2 h.1), if_pos a3] at hR
        clear a2 a3 hxz
        go_wp2
        go_ret
        exact ⟨by rw [hR]; rfl, HBZ.out⟩
      · have a3' : ((y : Int) == 1000000000) = false := by rw [beq_eq_false_iff_ne]; unfold ALL at a3; omega
        rw [if_neg (fun h => a3 h.2), if_neg a3, if_neg a2] at hR
        clear a2 a3 hxz
        go_wp2
        go_ret
        refine ⟨congrArg (fun b => Ending.returned (.string b)) ?_, HBZ.out⟩
        show ((⟨[62, 61].toArray⟩ : ByteArray) ++ ⟨X.toArray⟩ ++ ⟨[32, 60].toArray⟩ ++ ⟨Y.toArray⟩) = _
        rw [app_str, app_str, app_str, hR]
        simp
end Go.Proofs.YthpeifkiaodokaaGreatDoor
