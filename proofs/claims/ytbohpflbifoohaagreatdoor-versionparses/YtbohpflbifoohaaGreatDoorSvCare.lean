/- signed: ~, ^, and what is none. -/
import Derived.Test.YtbohpflbifoohaaGreatDoorSvSigned
namespace Go.Proofs.YtbohpflbifoohaaGreatDoor
open Go.RowKit Go.Shelf Sv

set_option maxRecDepth 100000 in
set_option maxHeartbeats 1000000 in
theorem sign_tilde (g : ByteArray) (a b c : Nat) (ha : a ≤ 999) (hb : b ≤ 999) (hc : c ≤ 999) (w : World) (hg : g.toList = [126]) :
    Calls Tryz.prog 92 #[.string g, .agg #[.int .i64 (a : Int), .int .i64 (b : Int), .int .i64 (c : Int)]] w (RgErr w (.ok (rowF (numN a b c) (numN a (b + 1) 0)))) := by
  have HN : Hid (∀ W, Calls Tryz.prog 58 #[.agg #[.int .i64 (a : Int), .int .i64 (b : Int), .int .i64 (c : Int)]] W fun e w' => e = .returned (.int .i64 (numN a b c : Nat)) ∧ Below W.heap.size W w') := fun W => number_any a b c (by omega) (by omega) (by omega) W
  have HX := Lib.hid (fun W => next_1 a b c hb W)
  have HM : Hid (∀ W, Calls Tryz.prog 58 #[.agg #[.int .i64 (a : Int), .int .i64 ((b + 1 : Nat) : Int), .int .i64 0]] W fun e w' => e = .returned (.int .i64 (numN a (b + 1) 0 : Nat)) ∧ Below W.heap.size W w') := fun W => number_any a (b + 1) 0 (by omega) (by omega) (by omega) W
  generalize numN a (b + 1) 0 = m at *
  generalize numN a b c = n at *
  generalize ((b + 1 : Nat) : Int) = b1 at *
  obtain ⟨W0, hW0, k0, k1, hB, hs0⟩ := sign_box w (.int .i64 (a : Int)) (.int .i64 (b : Int)) (.int .i64 (c : Int))
  have HR := Lib.hid (fun W => row_form' n m W)
  have HW0 := Lib.hid hW0
  have HK0 := Lib.hid k0
  have HK1 := Lib.hid k1
  have HB := Lib.hid hB
  have HS := Lib.hid hs0
  clear hW0 k0 k1 hB hs0
  go_enter Tryz.func92, Tryz.ntmps92
  go_wp2_with fail
  rw [HW0.out]
  refine (HN.out _).mono ?_
  rintro e w1 ⟨rfl, hb1⟩
  have D1 := Lib.hid hb1
  have hl0 : w.heap.size < W0.heap.size := by have := HS.out; omega
  have q0 : w1.cell? ⟨w.heap.size, 0, none⟩ = some (.int .i64 (a : Int)) := (HK0.out.below hb1 hl0).cell 0
  have q1 : w1.cell? ⟨w.heap.size, 1, none⟩ = some (.int .i64 (b : Int)) := (HK0.out.below hb1 hl0).cell 1
  have q2 : w1.cell? ⟨w.heap.size, 2, none⟩ = some (.int .i64 (c : Int)) := (HK0.out.below hb1 hl0).cell 2
  clear hb1 hl0
  go_wp2_with fail
  refine (HX.out _).mono ?_
  rintro e w2 ⟨rfl, hb2⟩
  have D2 : Hid (Below W0.heap.size W0 w2) := D1.out.trans (hb2.mono D1.out.size)
  clear hb2 q0 q1 q2
  go_wp2_with fail
  refine (HM.out _).mono ?_
  rintro e w3 ⟨rfl, hb3⟩
  have D3 : Hid (Below W0.heap.size W0 w3) := D2.out.trans (hb3.mono D2.out.size)
  clear hb3
  go_wp2_with fail
  refine (HR.out _).mono ?_
  rintro e wK ⟨a', c', rfl, hsK, hnn, hbK⟩
  have hn2 : ∀ g, (Value.slice a' (rowF n m).length c').ownBlock = some g → W0.heap.size ≤ g := fun g hg => Nat.le_trans D3.out.size (hnn g hg)
  have DK : Below W0.heap.size W0 wK := D3.out.trans (hbK.mono D3.out.size)
  have hl1 : w.heap.size + 1 < W0.heap.size := by have := HS.out; omega
  have hc4 : wK.cell? ⟨w.heap.size + 1, 0, none⟩ = some (.slice none 0 0) := (HK1.out.below DK hl1).cell 0
  have hf4 := (HK1.out.below DK hl1).frozen 0
  have HP := Lib.hid (put_out HB.out (HK1.out.cell 0) (Nat.le_succ _) hl1 hsK hn2 DK)
  clear hsK hnn hbK hn2 DK hl1
  go_wp2
  obtain ⟨h3, h4, h5, h6⟩ := HP.out
  refine bodyPost_ret (v := .tuple #[.agg #[.slice a' (rowF n m).length c'], .nilIface]) (by simp [results, Tryz.results92, go_sem, h3]) rfl ?_
  exact ⟨_, rfl, h4, h5, h6⟩

set_option maxRecDepth 100000 in
set_option maxHeartbeats 1000000 in
theorem sign_care_x (g : ByteArray) (a b c : Nat) (ha : a ≤ 999) (hb : b ≤ 999) (hc : c ≤ 999) (w : World) (hg : g.toList = [94]) (pl : Int) (x y z : Int) (m : Nat) (HL : Hid (∀ W, Calls Tryz.prog 113 #[.agg #[.int .i64 (a : Int), .int .i64 (b : Int), .int .i64 (c : Int)]] W fun e w' => e = .returned (.int .i64 pl) ∧ Below W.heap.size W w'))
    (HX : Hid (∀ W, Calls Tryz.prog 112 #[.agg #[.int .i64 (a : Int), .int .i64 (b : Int), .int .i64 (c : Int)], .int .i64 pl] W fun e w' => e = .returned (.agg #[.int .i64 x, .int .i64 y, .int .i64 z]) ∧ Below W.heap.size W w'))
    (HM : Hid (∀ W, Calls Tryz.prog 58 #[.agg #[.int .i64 x, .int .i64 y, .int .i64 z]] W fun e w' => e = .returned (.int .i64 (m : Int)) ∧ Below W.heap.size W w')) :
    Calls Tryz.prog 92 #[.string g, .agg #[.int .i64 (a : Int), .int .i64 (b : Int), .int .i64 (c : Int)]] w (RgErr w (.ok (rowF (numN a b c) m))) := by
  have HN : Hid (∀ W, Calls Tryz.prog 58 #[.agg #[.int .i64 (a : Int), .int .i64 (b : Int), .int .i64 (c : Int)]] W fun e w' => e = .returned (.int .i64 (numN a b c : Nat)) ∧ Below W.heap.size W w') := fun W => number_any a b c (by omega) (by omega) (by omega) W
  generalize numN a b c = n at *
  obtain ⟨W0, hW0, k0, k1, hB, hs0⟩ := sign_box w (.int .i64 (a : Int)) (.int .i64 (b : Int)) (.int .i64 (c : Int))
  have HR := Lib.hid (fun W => row_form' n m W)
  have HW0 := Lib.hid hW0
  have HK0 := Lib.hid k0
  have HK1 := Lib.hid k1
  have HB := Lib.hid hB
  have HS := Lib.hid hs0
  clear hW0 k0 k1 hB hs0
  go_enter Tryz.func92, Tryz.ntmps92
  go_wp2_with fail
  rw [HW0.out]
  refine (HN.out _).mono ?_
  rintro e w1 ⟨rfl, hb1⟩
  have D1 := Lib.hid hb1
  have hl0 : w.heap.size < W0.heap.size := by have := HS.out; omega
  have q0 : w1.cell? ⟨w.heap.size, 0, none⟩ = some (.int .i64 (a : Int)) := (HK0.out.below hb1 hl0).cell 0
  have q1 : w1.cell? ⟨w.heap.size, 1, none⟩ = some (.int .i64 (b : Int)) := (HK0.out.below hb1 hl0).cell 1
  have q2 : w1.cell? ⟨w.heap.size, 2, none⟩ = some (.int .i64 (c : Int)) := (HK0.out.below hb1 hl0).cell 2
  clear hb1 hl0
  have HS0 := HS.out
  have L1 : Hid (w.heap.size + 1 < W0.heap.size) := by show w.heap.size + 1 < W0.heap.size; omega
  have L0 : Hid (w.heap.size + 1 ≤ W0.heap.size) := by show w.heap.size + 1 ≤ W0.heap.size; omega
  have SC : Hid (∀ W, Below (w.heap.size + 1) W0 W → W.cell? ⟨w.heap.size, 0, none⟩ = some (.int .i64 (a : Int)) ∧ W.cell? ⟨w.heap.size, 1, none⟩ = some (.int .i64 (b : Int)) ∧ W.cell? ⟨w.heap.size, 2, none⟩ = some (.int .i64 (c : Int))) := fun W hb => ⟨(HK0.out.below hb (Nat.lt_succ_self _)).cell 0, (HK0.out.below hb (Nat.lt_succ_self _)).cell 1, (HK0.out.below hb (Nat.lt_succ_self _)).cell 2⟩
  have HC0 : Hid (W0.cell? ⟨w.heap.size + 1, 0, none⟩ = some (.slice none 0 0)) := HK1.out.cell 0
  have HF0 : Hid (W0.frozen? ⟨w.heap.size + 1, 0, none⟩ = false) := HK1.out.frozen 0
  have E0 : Below W0.heap.size W0 w1.drew := D1.out.drew
  clear HS0 q0 q1 q2
  go_wp2_with fail
  go_region_held3 (fun w' => w'.cell? ⟨w.heap.size, 0, none⟩ = some (.int .i64 (a : Int)) ∧ w'.cell? ⟨w.heap.size, 1, none⟩ = some (.int .i64 (b : Int)) ∧ w'.cell? ⟨w.heap.size, 2, none⟩ = some (.int .i64 (c : Int))) (first | exact SC.out _ (E0.mono L0.out) | exact SC.out _ (E1.mono L0.out) | exact SC.out _ (E2.mono L0.out) | exact SC.out _ (E3.mono L0.out) | exact SC.out _ (E4.mono L0.out) | exact SC.out _ E5)
    (first
      | ((with_reducible refine (HL.out _).mono ?_); rintro e w2 ⟨rfl, hb2⟩; have E1 : Below W0.heap.size W0 w2 := E0.trans (hb2.mono E0.size); clear HL)
      | ((with_reducible refine (HX.out _).mono ?_); rintro e w3 ⟨rfl, hb3⟩; have E2 : Below W0.heap.size W0 w3 := E1.trans (hb3.mono E1.size); clear HX)
      | ((with_reducible refine (HM.out _).mono ?_); rintro e w4 ⟨rfl, hb4⟩; have E3 : Below W0.heap.size W0 w4 := E2.trans (hb4.mono E2.size); clear HM)
      | ((with_reducible refine (HR.out _).mono ?_); rintro e wK ⟨a', c', rfl, hsK, hnn, hbK⟩; have E4 : Below W0.heap.size W0 wK := E3.trans (hbK.mono E3.size); have hc4 := (E4.cell (p := ⟨w.heap.size + 1, 0, none⟩) L1.out).trans HC0.out; have hf4 := (E4.frozen (p := ⟨w.heap.size + 1, 0, none⟩) L1.out).trans HF0.out; have E5 : Below (w.heap.size + 1) W0 (wK.setCell ⟨w.heap.size + 1, 0, none⟩ (.slice a' (rowF n m).length c')) := (E4.mono L0.out).setCell (p := ⟨w.heap.size + 1, 0, none⟩) (Nat.le_refl _) _; clear HR))
  have hn2 : ∀ g, (Value.slice a' (rowF n m).length c').ownBlock = some g → W0.heap.size ≤ g := fun g hg => Nat.le_trans E3.size (hnn g hg)
  have HP := Lib.hid (put_out HB.out HC0.out (Nat.le_succ _) L1.out hsK hn2 E4)
  clear hsK hnn hbK hn2 E0 E1 E2 E3 E4 E5 hb2 hb3 hb4
  go_wp2
  obtain ⟨h3, h4, h5, h6⟩ := HP.out
  refine bodyPost_ret (v := .tuple #[.agg #[.slice a' (rowF n m).length c'], .nilIface]) (by simp [results, Tryz.results92, go_sem, h3]) rfl ?_
  exact ⟨_, rfl, h4, h5, h6⟩

theorem sign_care (g : ByteArray) (a b c : Nat) (ha : a ≤ 999) (hb : b ≤ 999) (hc : c ≤ 999) (w : World) (hg : g.toList = [94]) :
    Calls Tryz.prog 92 #[.string g, .agg #[.int .i64 (a : Int), .int .i64 (b : Int), .int .i64 (c : Int)]] w (RgErr w (.ok (rowF (numN a b c) (careN a b c)))) := by
  unfold careN
  by_cases h0 : a ≠ 0
  · rw [if_pos h0]
    exact sign_care_x g a b c ha hb hc w hg 0 ((a + 1 : Nat) : Int) 0 0 _ (fun W => by have := lead_any a b c W; rw [if_pos h0] at this; exact this) (fun W => next_0 a b c ha W) (fun W => number_any (a + 1) 0 0 (by omega) (by omega) (by omega) W)
  · rw [if_neg h0]
    by_cases h1 : b ≠ 0
    · rw [if_pos h1]
      exact sign_care_x g a b c ha hb hc w hg 1 (a : Int) ((b + 1 : Nat) : Int) 0 _ (fun W => by have := lead_any a b c W; rw [if_neg h0, if_pos h1] at this; exact this) (fun W => next_1 a b c hb W) (fun W => number_any a (b + 1) 0 (by omega) (by omega) (by omega) W)
    · rw [if_neg h1]
      exact sign_care_x g a b c ha hb hc w hg 2 (a : Int) (b : Int) ((c + 1 : Nat) : Int) _ (fun W => by have := lead_any a b c W; rw [if_neg h0, if_neg h1] at this; exact this) (fun W => next_2 a b c hc W) (fun W => number_any a b (c + 1) (by omega) (by omega) (by omega) W)

set_option maxRecDepth 100000 in
set_option maxHeartbeats 1000000 in
theorem sign_bad (g : ByteArray) (a b c : Nat) (ha : a ≤ 999) (hb : b ≤ 999) (hc : c ≤ 999) (w : World) (g0 : (g.toList == []) = false) (g1 : (g.toList == [61]) = false) (g2 : (g.toList == [33]) = false) (g3 : (g.toList == [60]) = false) (g4 : (g.toList == [60, 61]) = false) (g5 : (g.toList == [62]) = false) (g6 : (g.toList == [62, 61]) = false) (g7 : (g.toList == [94]) = false) (g8 : (g.toList == [126]) = false) :
    Calls Tryz.prog 92 #[.string g, .agg #[.int .i64 (a : Int), .int .i64 (b : Int), .int .i64 (c : Int)]] w (RgErr w (.error 3)) := by
  have HN : Hid (∀ W, Calls Tryz.prog 58 #[.agg #[.int .i64 (a : Int), .int .i64 (b : Int), .int .i64 (c : Int)]] W fun e w' => e = .returned (.int .i64 (numN a b c : Nat)) ∧ Below W.heap.size W w') := fun W => number_any a b c (by omega) (by omega) (by omega) W
  generalize numN a b c = n at *
  have ge : g.toList.isEmpty = false := by
    cases h : g.toList with
    | nil => rw [h] at g0; cases g0
    | cons x l => rfl
  obtain ⟨W0, hW0, k0, k1, hB, hs0⟩ := sign_box w (.int .i64 (a : Int)) (.int .i64 (b : Int)) (.int .i64 (c : Int))
  have HW0 := Lib.hid hW0
  have HK1 := Lib.hid k1
  have HB := Lib.hid hB
  have HS := Lib.hid hs0
  clear hW0 k0 k1 hB hs0 g0
  go_enter Tryz.func92, Tryz.ntmps92
  go_wp2_with fail
  rw [HW0.out]
  refine (HN.out _).mono ?_
  rintro e w1 ⟨rfl, hb1⟩
  have hl1 : w.heap.size + 1 < W0.heap.size := by have := HS.out; omega
  have m1 := HK1.out.below hb1 hl1
  have hc4 : w1.cell? ⟨w.heap.size + 1, 0, none⟩ = some (.slice none 0 0) := m1.cell 0
  have hf4 := m1.frozen 0
  have hset : (w1.setCell ⟨w.heap.size + 1, 0, none⟩ (.slice none 0 0)).cell? ⟨w.heap.size + 1, 0, none⟩ = some (.slice none 0 0) := (m1.set (i := 0)).cell 0
  have hB2 : Below w.heap.size w (w1.setCell ⟨w.heap.size + 1, 0, none⟩ (.slice none 0 0)) := (HB.out.trans (hb1.mono HB.out.size)).setCell (p := ⟨w.heap.size + 1, 0, none⟩) (Nat.le_succ _) _
  have HSET := Lib.hid hset
  have HB2 := Lib.hid hB2
  clear hb1 hl1 m1 hset hB2
  go_wp2
  have h3 := HSET.out
  refine bodyPost_ret (v := .tuple #[.agg #[.slice none 0 0], .iface 25 (.int .i64 3)]) (by simp [results, Tryz.results92, go_sem, h3]) rfl ?_
  exact ⟨rfl, HB2.out⟩

theorem signed_any (g : ByteArray) (a b c : Nat) (ha : a ≤ 999) (hb : b ≤ 999) (hc : c ≤ 999) (w : World) :
    Calls Tryz.prog 92 #[.string g, .agg #[.int .i64 (a : Int), .int .i64 (b : Int), .int .i64 (c : Int)]] w (RgErr w (signF g.toList a b c)) := by
  unfold signF
  by_cases h0 : g.toList = [] ∨ g.toList = [61]
  · rw [if_pos h0]
    rcases h0 with h0 | h0
    · exact sign_none g a b c ha hb hc w h0
    · exact sign_eq g a b c ha hb hc w h0
  rw [if_neg h0]
  by_cases h1 : g.toList = [33]
  · rw [if_pos h1]; exact sign_not g a b c ha hb hc w h1
  rw [if_neg h1]
  by_cases h2 : g.toList = [60]
  · rw [if_pos h2]; exact sign_lt g a b c ha hb hc w h2
  rw [if_neg h2]
  by_cases h3 : g.toList = [60, 61]
  · rw [if_pos h3]; exact sign_le g a b c ha hb hc w h3
  rw [if_neg h3]
  by_cases h4 : g.toList = [62]
  · rw [if_pos h4]; exact sign_gt g a b c ha hb hc w h4
  rw [if_neg h4]
  by_cases h5 : g.toList = [62, 61]
  · rw [if_pos h5]; exact sign_ge g a b c ha hb hc w h5
  rw [if_neg h5]
  by_cases h6 : g.toList = [94]
  · rw [if_pos h6]; exact sign_care g a b c ha hb hc w h6
  rw [if_neg h6]
  by_cases h7 : g.toList = [126]
  · rw [if_pos h7]; exact sign_tilde g a b c ha hb hc w h7
  rw [if_neg h7]
  exact sign_bad g a b c ha hb hc w (by simpa using fun e => h0 (.inl e)) (by simpa using fun e => h0 (.inr e)) (by simpa using h1) (by simpa using h2) (by simpa using h3) (by simpa using h4) (by simpa using h5) (by simpa using h6) (by simpa using h7)
end Go.Proofs.YtbohpflbifoohaaGreatDoor
