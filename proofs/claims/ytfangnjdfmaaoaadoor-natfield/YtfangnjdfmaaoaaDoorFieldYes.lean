/- NatField where all three texts are numbers. (The arms of the last region are written by a program of ours: one a call.) -/
import Derived.Test.YtfangnjdfmaaoaaDoorSame
import Derived.Deep.RegionHeld3
namespace Go.Proofs.YtfangnjdfmaaoaaDoor
open Go.RowKit Num Go.Sort Go.PlainAid

theorem cell_of_alloc {w X : World} {A : Value} (h : Below (w.alloc (.cells #[A] 28)).heap.size (w.alloc (.cells #[A] 28)) X) : X.cell? ⟨w.heap.size, 0, none⟩ = some A ∧ X.frozen? ⟨w.heap.size, 0, none⟩ = false ∧ w.heap.size < X.heap.size :=
  ⟨(h.cell (p := ⟨w.heap.size, 0, none⟩) (by simp)).trans (cell1_0 _ _ _), (h.frozen (p := ⟨w.heap.size, 0, none⟩) (by simp)).trans (frozen1_0 _ _ _), by have := h.size; simp at this; omega⟩
theorem below_alloc (w : World) (o : Obj) : Below w.heap.size w (w.alloc o) := (Below.refl _ _).alloc (Nat.le_refl _) _

/-- What became of d: a box, made ahead of the calls, between them or behind them. -/
theorem NatIs.set {w : World} {v : Value} {n L : Nat} (h : NatIs w v n L) {p : Addr} {u0 : Value} (hp : w.cell? p = some u0) (hu : ∀ k n, u0 ≠ .int k n) (u : Value) : NatIs (w.setCell p u) v n L := by
  obtain ⟨ds, h1, h2, h3, h4⟩ := h
  exact ⟨ds, h1.set hp (hu _) u, h2, h3, h4⟩

set_option maxRecDepth 100000 in
set_option maxHeartbeats 40000000 in
theorem field_yes (a b c : ByteArray) (t : Int) (w : World) (ha : a.size ≤ 100) (hb : b.size ≤ 100) (hc : c.size ≤ 100) (oa : OkText a) (ob : OkText b) (oc : OkText c) (ht : Tab w) :
    Calls Tryd.prog 6 #[.string a, .string b, .string c, .int .i64 t] w fun e w' => e = .returned (.bool true) ∧ Below w.heap.size w w' := by
  have HT : Hid (Tab w) := ht
  have HP1 := fun W => parse_nat a W ha oa
  have HP2 := fun W => parse_nat b W hb ob
  have HP3 := fun W => parse_nat c W hc oc
  generalize pre a a.size = x at *
  generalize pre b b.size = y at *
  generalize pre c c.size = z at *
  have H1 := Lib.hid HP1
  have H2 := Lib.hid HP2
  have H3 := Lib.hid HP3
  have g1 : decide (120 < (a.size : Int)) = false := by simp; omega
  have g2 : decide (120 < (b.size : Int)) = false := by simp; omega
  have g3 : decide (120 < (c.size : Int)) = false := by simp; omega
  clear ht HP1 HP2 HP3 oa ob oc
  go_enter Tryd.func6, Tryd.ntmps6
  go_wp2_with fail
  refine (H1.out _).mono ?_
  rintro e w1 ⟨v1, rfl, hx1, hb1⟩
  obtain ⟨a1, k1, c1, rfl⟩ := hx1.form
  go_wp2_with fail
  refine (H2.out _).mono ?_
  rintro e w2 ⟨v2, rfl, hx2, hb2⟩
  obtain ⟨a2, k2, c2, rfl⟩ := hx2.form
  go_wp2_with fail
  refine (H3.out _).mono ?_
  rintro e w3 ⟨v3, rfl, hx3, hb3⟩
  obtain ⟨a3, k3, c3, rfl⟩ := hx3.form
  clear H1 H2 H3 g1 g2 g3 ha hb hc
  go_wp2_with fail
  obtain ⟨W, hWe⟩ : ∃ W : World, W = w3.alloc (.cells #[.slice a3 k3 c3] 28) := ⟨_, rfl⟩
  have s1 : w1.heap.size < w2.heap.size := by have := hb2.size; simp at this; omega
  have s2 : w2.heap.size < w3.heap.size := by have := hb3.size; simp at this; omega
  have s3 : w3.heap.size < W.heap.size := by rw [hWe]; simp
  have b23 : Below w2.heap.size w2 w3 := (below_alloc _ _).trans (hb3.mono (by simp))
  have b12 : Below w1.heap.size w1 w2 := (below_alloc _ _).trans (hb2.mono (by simp))
  have b3W : Below w3.heap.size w3 W := by rw [hWe]; exact below_alloc _ _
  have b2W : Below w2.heap.size w2 W := b23.trans (b3W.mono (by omega))
  have b1W : Below w1.heap.size w1 W := b12.trans (b2W.mono (by omega))
  have hwW : Below w.heap.size w W := hb1.trans (b1W.mono hb1.size)
  have q1 : W.cell? ⟨w1.heap.size, 0, none⟩ = some (.slice a1 k1 c1) := (b2W.cell (p := ⟨w1.heap.size, 0, none⟩) s1).trans (cell_of_alloc hb2).1
  have q2 : W.cell? ⟨w2.heap.size, 0, none⟩ = some (.slice a2 k2 c2) := (b3W.cell (p := ⟨w2.heap.size, 0, none⟩) s2).trans (cell_of_alloc hb3).1
  have q3 : W.cell? ⟨w3.heap.size, 0, none⟩ = some (.slice a3 k3 c3) := by rw [hWe]; exact cell1_0 _ _ _
  have HX := hx1.below b1W
  have HY := hx2.below b2W
  have HZ := hx3.below b3W
  have hT := HT.out.below hwW
  rw [← hWe]
  clear hb1 hb2 hb3 b12 b23 b3W b2W b1W hx1 hx2 hx3 hWe HT
  refine (counts_any _ hT).mono ?_
  rintro e w4 ⟨rfl, hb4⟩
  have SS : Hid (∀ X : World, Below W.heap.size W X → (Below W.heap.size W X ∧ X.cell? ⟨w1.heap.size, 0, none⟩ = some (.slice a1 k1 c1) ∧ X.cell? ⟨w2.heap.size, 0, none⟩ = some (.slice a2 k2 c2) ∧ X.cell? ⟨w3.heap.size, 0, none⟩ = some (.slice a3 k3 c3))) := fun X h =>
    ⟨h, (h.cell (p := ⟨w1.heap.size, 0, none⟩) (by show w1.heap.size < _; omega)).trans q1, (h.cell (p := ⟨w2.heap.size, 0, none⟩) (by show w2.heap.size < _; omega)).trans q2, (h.cell (p := ⟨w3.heap.size, 0, none⟩) s3).trans q3⟩
  clear q1 q2 q3
  have sw4 := hb4.size
  go_upto_region 9 with fail
  have hS0 := SS.out _ hb4.drew
  have hS0a := SS.out _ (hb4.alloc sw4 (.cells #[.slice none 0 0] 28)).drew
  go_cut [16, 17] (fun d er wx => er = .nilIface ∧ ∃ B a5 k5 c5, d = .pointer (some ⟨B, 0, none⟩) ∧ B < wx.heap.size ∧ wx.cell? ⟨B, 0, none⟩ = some (.slice a5 k5 c5) ∧ NatIs wx (.slice a5 k5 c5) x 25 ∧ Below W.heap.size W wx)
  case first =>
    go_region_held3 (fun w' => Below W.heap.size W w' ∧ w'.cell? ⟨w1.heap.size, 0, none⟩ = some (.slice a1 k1 c1) ∧ w'.cell? ⟨w2.heap.size, 0, none⟩ = some (.slice a2 k2 c2) ∧ w'.cell? ⟨w3.heap.size, 0, none⟩ = some (.slice a3 k3 c3)) (first | assumption | exact hS0 | exact hS0a | exact hS5a | exact hS6a | exact hS6b | exact hS6c | exact hS6d)
      (first
        | (go_at_call 22; refine (add_nat (HX.below hS0.1) (HY.below hS0.1) (by omega) (by omega)).mono ?_; rintro e w5 ⟨v5, rfl, hn5, hb5⟩; have hB5 := hS0.1.trans (hb5.mono sw4); have sw5 := hB5.size; have hS5 := SS.out _ hB5; have hS5a := SS.out _ (hB5.alloc sw5 (.cells #[.slice none 0 0] 28)))
        | (go_at_call 22; refine (add_nat (HX.below hS0a.1) (HY.below hS0a.1) (by omega) (by omega)).mono ?_; rintro e w5 ⟨v5, rfl, hn5, hb5⟩; have hb5' : Below (w4.alloc (.cells #[.slice none 0 0] 28)).heap.size (w4.alloc (.cells #[.slice none 0 0] 28)) w5 := ⟨hb5.os, hb5.tape, hb5.output, hb5.size, hb5.block⟩; have hB5 := (hb4.alloc sw4 (.cells #[.slice none 0 0] 28)).trans (hb5'.mono (by simp; omega)); have sw5 := hB5.size; have hS5 := SS.out _ hB5; have hq5 := cell_of_alloc hb5')
        | (go_at_call 17; refine (sub_nat hn5 (HY.below hS5.1) (by omega) (by omega) (by omega)).mono ?_; rintro e w6 ⟨v6, rfl, hn6, hb6⟩; have hB6 := hS5.1.trans (hb6.mono sw5); have sw6 := hB6.size; have hS6 := SS.out _ hB6; obtain ⟨a5, k5, c5, rfl⟩ := hn6.form; have hS6a := SS.out _ (hB6.alloc sw6 (.cells #[.slice none 0 0] 28)); have hS6b := SS.out _ (hB6.alloc sw6 (.cells #[.slice a5 k5 c5] 28)); have hS6c := SS.out _ (hB6.setCell (p := ⟨w4.heap.size, 0, none⟩) sw4 (.slice a5 k5 c5)); have hq6 : w5.cell? ⟨w4.heap.size, 0, none⟩ = some (.slice none 0 0) ∧ w5.frozen? ⟨w4.heap.size, 0, none⟩ = false ∧ w4.heap.size < w5.heap.size → w6.cell? ⟨w4.heap.size, 0, none⟩ = some (.slice none 0 0) ∧ w6.frozen? ⟨w4.heap.size, 0, none⟩ = false := fun h => ⟨(hb6.cell (p := ⟨w4.heap.size, 0, none⟩) h.2.2).trans h.1, (hb6.frozen (p := ⟨w4.heap.size, 0, none⟩) h.2.2).trans h.2.1⟩; try (have hq7 := hq6 hq5; obtain ⟨hqa, hqb⟩ := hq7))
        | (go_at_call 17; refine (sub_nat (hn5.below (below_alloc _ _)) (HY.below hS5a.1) (by omega) (by omega) (by omega)).mono ?_; rintro e w6 ⟨v6, rfl, hn6, hb6⟩; have hB6 := hS5a.1.trans (hb6.mono hS5a.1.size); have sw6 := hB6.size; have hS6 := SS.out _ hB6; obtain ⟨a5, k5, c5, rfl⟩ := hn6.form; have hS6d := SS.out _ (hB6.setCell (p := ⟨w5.heap.size, 0, none⟩) sw5 (.slice a5 k5 c5)); obtain ⟨hqa, hqb, hqc⟩ := cell_of_alloc hb6))
    all_goals
      go_wp2_with fail
      go_meet
      case rel =>
        first
          | (have _t := hqc; exact ⟨rfl, w5.heap.size, a5, k5, c5, rfl, by show _ < (w6.setCell _ _).heap.size; simp only [World.setCell, Array.size_modify]; exact hqc, World.cell?_setCell_same' _ _ _ (by simp [hqa]), (hn6.cast (by omega)).set hqa (fun k n h => by cases h) _, hS6d.1⟩)
          | (have _t := hq5; exact ⟨rfl, w4.heap.size, a5, k5, c5, rfl, by show _ < (w6.setCell _ _).heap.size; simp only [World.setCell, Array.size_modify]; have := hb6.size; have := hq5.2.2; omega, World.cell?_setCell_same' _ _ _ (by simp [hqa]), (hn6.cast (by omega)).set hqa (fun k n h => by cases h) _, hS6c.1⟩)
          | exact ⟨rfl, w6.heap.size, a5, k5, c5, rfl, by simp, cell1_0 _ _ _, (hn6.cast (by omega)).below (below_alloc _ _), hS6b.1⟩
  case rest =>
    as_aux_lemma =>
      obtain ⟨rfl, B, a5, k5, c5, rfl, hzB, qd, hD0, hBc⟩ := hcut
      obtain ⟨-, q1, q2, q3⟩ := SS.out _ hBc
      have HX' := HX.below hBc
      have HY' := HY.below hBc
      have HZ' := HZ.below hBc
      have hT' := hT.below hBc
      have hsc := hBc.size
      have hwc := hwW.trans (hBc.mono hwW.size)
      clear HX HY HZ hT SS hwW hS0 hS0a hb4 sw4
      go_wp2_with fail
      refine (pick_any t _).mono ?_
      rintro e wp ⟨T, hT200, rfl, rfl⟩
      have HMT : Hid ((min (T : Int) 1000).toNat = T) := by show _ = _; omega
      have SC : Hid (∀ X : World, Below wc.heap.size wc X → (Below wc.heap.size wc X ∧ X.cell? ⟨w1.heap.size, 0, none⟩ = some (.slice a1 k1 c1) ∧ X.cell? ⟨w2.heap.size, 0, none⟩ = some (.slice a2 k2 c2) ∧ X.cell? ⟨w3.heap.size, 0, none⟩ = some (.slice a3 k3 c3) ∧ X.cell? ⟨B, 0, none⟩ = some (.slice a5 k5 c5))) := fun X h =>
        ⟨h, (h.cell (p := ⟨w1.heap.size, 0, none⟩) (by show w1.heap.size < _; omega)).trans q1, (h.cell (p := ⟨w2.heap.size, 0, none⟩) (by show w2.heap.size < _; omega)).trans q2, (h.cell (p := ⟨w3.heap.size, 0, none⟩) (by show w3.heap.size < _; omega)).trans q3, (h.cell (p := ⟨B, 0, none⟩) hzB).trans qd⟩
      clear q1 q2 q3 qd
      have hS0 := SC.out _ (Below.refl wc.heap.size wc).drew
      have tk0 : True := trivial
      go_wp2_with fail
      simp only [List.append_eq, List.cons_append, List.nil_append]
      go_region_held3 (fun w' => Below wc.heap.size wc w' ∧ w'.cell? ⟨w1.heap.size, 0, none⟩ = some (.slice a1 k1 c1) ∧ w'.cell? ⟨w2.heap.size, 0, none⟩ = some (.slice a2 k2 c2) ∧ w'.cell? ⟨w3.heap.size, 0, none⟩ = some (.slice a3 k3 c3) ∧ w'.cell? ⟨B, 0, none⟩ = some (.slice a5 k5 c5)) (first | assumption | exact hS0)
        (first
          | (go_at_call 22; have _t := tk0; refine (add_nat (HX'.below hS0.1) (HY'.below hS0.1) (by omega) (by omega)).mono ?_; rintro e x1 ⟨u1, rfl, hn1, hb1⟩; have hS1 := SC.out _ (hS0.1.trans (hb1.mono hS0.1.size)); clear hb1 tk0; have tk1 : True := trivial)
          | (go_at_call 22; have _t := tk1; refine (add_nat (HY'.below hS1.1) (HX'.below hS1.1) (by omega) (by omega)).mono ?_; rintro e x2 ⟨u2, rfl, hn2, hb2⟩; have hS2 := SC.out _ (hS1.1.trans (hb2.mono hS1.1.size)); have p_2 := hn1.below hb2; clear hn1; clear hb2 tk1; have tk2 : True := trivial)
          | (go_at_call 31; have _t := tk2; refine (same_any p_2 (hn2.cast (show (y + x) = (x + y) by grind)) (by omega) (by omega) (hT'.below hS2.1)).mono ?_; rintro e x3 ⟨rfl, hb3⟩; have hS3 := SC.out _ (hS2.1.trans (hb3.mono hS2.1.size)); have p_3 := p_2.below hb3; clear p_2; have q_3 := hn2.below hb3; clear hn2; clear hb3 tk2; have tk3 : True := trivial; clear p_3; clear q_3)
          | (go_at_call 22; have _t := tk3; refine (add_nat (HX'.below hS3.1) (HY'.below hS3.1) (by omega) (by omega)).mono ?_; rintro e x4 ⟨u4, rfl, hn4, hb4⟩; have hS4 := SC.out _ (hS3.1.trans (hb4.mono hS3.1.size)); clear hb4 tk3; have tk4 : True := trivial)
          | (go_at_call 22; have _t := tk4; refine (add_nat hn4 (HZ'.below hS4.1) (by omega) (by omega)).mono ?_; rintro e x5 ⟨u5, rfl, hn5, hb5⟩; have hS5 := SC.out _ (hS4.1.trans (hb5.mono hS4.1.size)); have p_5 := hn4.below hb5; clear hn4; clear hb5 tk4; have tk5 : True := trivial; clear p_5)
          | (go_at_call 22; have _t := tk5; refine (add_nat (HY'.below hS5.1) (HZ'.below hS5.1) (by omega) (by omega)).mono ?_; rintro e x6 ⟨u6, rfl, hn6, hb6⟩; have hS6 := SC.out _ (hS5.1.trans (hb6.mono hS5.1.size)); have q_6 := hn5.below hb6; clear hn5; clear hb6 tk5; have tk6 : True := trivial)
          | (go_at_call 22; have _t := tk6; refine (add_nat (HX'.below hS6.1) hn6 (by omega) (by omega)).mono ?_; rintro e x7 ⟨u7, rfl, hn7, hb7⟩; have hS7 := SC.out _ (hS6.1.trans (hb7.mono hS6.1.size)); have q_7 := q_6.below hb7; clear q_6; have p_7 := hn6.below hb7; clear hn6; clear hb7 tk6; have tk7 : True := trivial; clear p_7)
          | (go_at_call 31; have _t := tk7; refine (same_any q_7 (hn7.cast (show (x + (y + z)) = ((x + y) + z) by grind)) (by omega) (by omega) (hT'.below hS7.1)).mono ?_; rintro e x8 ⟨rfl, hb8⟩; have hS8 := SC.out _ (hS7.1.trans (hb8.mono hS7.1.size)); have q_8 := q_7.below hb8; clear q_7; have r_8 := hn7.below hb8; clear hn7; clear hb8 tk7; have tk8 : True := trivial; clear q_8; clear r_8)
          | (go_at_call 24; have _t := tk8; refine (mul_nat (HX'.below hS8.1) (HY'.below hS8.1) (by omega) (by omega)).mono ?_; rintro e x9 ⟨u9, rfl, hn9, hb9⟩; have hS9 := SC.out _ (hS8.1.trans (hb9.mono hS8.1.size)); clear hb9 tk8; have tk9 : True := trivial)
          | (go_at_call 24; have _t := tk9; refine (mul_nat (HY'.below hS9.1) (HX'.below hS9.1) (by omega) (by omega)).mono ?_; rintro e x10 ⟨u10, rfl, hn10, hb10⟩; have hS10 := SC.out _ (hS9.1.trans (hb10.mono hS9.1.size)); have p_10 := hn9.below hb10; clear hn9; clear hb10 tk9; have tk10 : True := trivial)
          | (go_at_call 31; have _t := tk10; refine (same_any p_10 (hn10.cast (show (y * x) = (x * y) by grind)) (by omega) (by omega) (hT'.below hS10.1)).mono ?_; rintro e x11 ⟨rfl, hb11⟩; have hS11 := SC.out _ (hS10.1.trans (hb11.mono hS10.1.size)); have p_11 := p_10.below hb11; clear p_10; have q_11 := hn10.below hb11; clear hn10; clear hb11 tk10; have tk11 : True := trivial; clear p_11; clear q_11)
          | (go_at_call 24; have _t := tk11; refine (mul_nat (HX'.below hS11.1) (HY'.below hS11.1) (by omega) (by omega)).mono ?_; rintro e x12 ⟨u12, rfl, hn12, hb12⟩; have hS12 := SC.out _ (hS11.1.trans (hb12.mono hS11.1.size)); clear hb12 tk11; have tk12 : True := trivial)
          | (go_at_call 24; have _t := tk12; refine (mul_nat hn12 (HZ'.below hS12.1) (by omega) (by omega)).mono ?_; rintro e x13 ⟨u13, rfl, hn13, hb13⟩; have hS13 := SC.out _ (hS12.1.trans (hb13.mono hS12.1.size)); have p_13 := hn12.below hb13; clear hn12; clear hb13 tk12; have tk13 : True := trivial; clear p_13)
          | (go_at_call 24; have _t := tk13; refine (mul_nat (HY'.below hS13.1) (HZ'.below hS13.1) (by omega) (by omega)).mono ?_; rintro e x14 ⟨u14, rfl, hn14, hb14⟩; have hS14 := SC.out _ (hS13.1.trans (hb14.mono hS13.1.size)); have q_14 := hn13.below hb14; clear hn13; clear hb14 tk13; have tk14 : True := trivial)
          | (go_at_call 24; have _t := tk14; refine (mul_nat (HX'.below hS14.1) hn14 (by omega) (by omega)).mono ?_; rintro e x15 ⟨u15, rfl, hn15, hb15⟩; have hS15 := SC.out _ (hS14.1.trans (hb15.mono hS14.1.size)); have q_15 := q_14.below hb15; clear q_14; have p_15 := hn14.below hb15; clear hn14; clear hb15 tk14; have tk15 : True := trivial; clear p_15)
          | (go_at_call 31; have _t := tk15; refine (same_any q_15 (hn15.cast (show (x * (y * z)) = ((x * y) * z) by grind)) (by omega) (by omega) (hT'.below hS15.1)).mono ?_; rintro e x16 ⟨rfl, hb16⟩; have hS16 := SC.out _ (hS15.1.trans (hb16.mono hS15.1.size)); have q_16 := q_15.below hb16; clear q_15; have r_16 := hn15.below hb16; clear hn15; clear hb16 tk15; have tk16 : True := trivial; clear q_16; clear r_16)
          | (go_at_call 22; have _t := tk16; refine (add_nat (HY'.below hS16.1) (HZ'.below hS16.1) (by omega) (by omega)).mono ?_; rintro e x17 ⟨u17, rfl, hn17, hb17⟩; have hS17 := SC.out _ (hS16.1.trans (hb17.mono hS16.1.size)); clear hb17 tk16; have tk17 : True := trivial)
          | (go_at_call 24; have _t := tk17; refine (mul_nat (HX'.below hS17.1) hn17 (by omega) (by omega)).mono ?_; rintro e x18 ⟨u18, rfl, hn18, hb18⟩; have hS18 := SC.out _ (hS17.1.trans (hb18.mono hS17.1.size)); have p_18 := hn17.below hb18; clear hn17; clear hb18 tk17; have tk18 : True := trivial; clear p_18)
          | (go_at_call 24; have _t := tk18; refine (mul_nat (HX'.below hS18.1) (HY'.below hS18.1) (by omega) (by omega)).mono ?_; rintro e x19 ⟨u19, rfl, hn19, hb19⟩; have hS19 := SC.out _ (hS18.1.trans (hb19.mono hS18.1.size)); have q_19 := hn18.below hb19; clear hn18; clear hb19 tk18; have tk19 : True := trivial)
          | (go_at_call 24; have _t := tk19; refine (mul_nat (HX'.below hS19.1) (HZ'.below hS19.1) (by omega) (by omega)).mono ?_; rintro e x20 ⟨u20, rfl, hn20, hb20⟩; have hS20 := SC.out _ (hS19.1.trans (hb20.mono hS19.1.size)); have q_20 := q_19.below hb20; clear q_19; have p_20 := hn19.below hb20; clear hn19; clear hb20 tk19; have tk20 : True := trivial)
          | (go_at_call 22; have _t := tk20; refine (add_nat p_20 hn20 (by omega) (by omega)).mono ?_; rintro e x21 ⟨u21, rfl, hn21, hb21⟩; have hS21 := SC.out _ (hS20.1.trans (hb21.mono hS20.1.size)); have q_21 := q_20.below hb21; clear q_20; have p_21 := p_20.below hb21; clear p_20; have r_21 := hn20.below hb21; clear hn20; clear hb21 tk20; have tk21 : True := trivial; clear p_21; clear r_21)
          | (go_at_call 31; have _t := tk21; refine (same_any q_21 (hn21.cast (show ((x * y) + (x * z)) = (x * (y + z)) by grind)) (by omega) (by omega) (hT'.below hS21.1)).mono ?_; rintro e x22 ⟨rfl, hb22⟩; have hS22 := SC.out _ (hS21.1.trans (hb22.mono hS21.1.size)); have q_22 := q_21.below hb22; clear q_21; have s_22 := hn21.below hb22; clear hn21; clear hb22 tk21; have tk22 : True := trivial; clear q_22; clear s_22)
          | (go_at_call 31; have _t := tk22; refine (same_any (hD0.below hS22.1) ((HX'.below hS22.1).cast (show x = x by grind)) (by omega) (by omega) (hT'.below hS22.1)).mono ?_; rintro e x23 ⟨rfl, hb23⟩; have hS23 := SC.out _ (hS22.1.trans (hb23.mono hS22.1.size)); clear hb23 tk22; have tk23 : True := trivial)
          | (go_at_call 27; have _t := tk23; have hdd := double_nat (T : Int) (HX'.below hS23.1) (by omega) (by omega) (by omega); rw [HMT.out] at hdd; refine (hdd).mono ?_; rintro e x24 ⟨u24, rfl, hn24, hb24⟩; have hS24 := SC.out _ (hS23.1.trans (hb24.mono hS23.1.size)); clear hb24 tk23; have tk24 : True := trivial; clear hdd)
          | (go_at_call 28; have _t := tk24; refine (of_nat 1 _ (by omega) (by omega)).mono ?_; rintro e x25 ⟨u25, rfl, hn25, hb25⟩; have hS25 := SC.out _ (hS24.1.trans (hb25.mono hS24.1.size)); have p_25 := hn24.below hb25; clear hn24; clear hb25 tk24; have tk25 : True := trivial)
          | (go_at_call 27; have _t := tk25; have hdd := double_nat (T : Int) hn25 (by omega) (by omega) (by omega); rw [HMT.out] at hdd; refine (hdd).mono ?_; rintro e x26 ⟨u26, rfl, hn26, hb26⟩; have hS26 := SC.out _ (hS25.1.trans (hb26.mono hS25.1.size)); have p_26 := p_25.below hb26; clear p_25; have q_26 := hn25.below hb26; clear hn25; clear hb26 tk25; have tk26 : True := trivial; clear hdd; clear q_26)
          | (go_at_call 24; have _t := tk26; refine (mul_nat (HX'.below hS26.1) hn26 (by omega) (by omega)).mono ?_; rintro e x27 ⟨u27, rfl, hn27, hb27⟩; have hS27 := SC.out _ (hS26.1.trans (hb27.mono hS26.1.size)); have p_27 := p_26.below hb27; clear p_26; have r_27 := hn26.below hb27; clear hn26; clear hb27 tk26; have tk27 : True := trivial; clear r_27)
          | (go_at_call 31; have _t := tk27; refine (same_any p_27 (hn27.cast (show (x * ((1 : Int).toNat * 2 ^ T)) = (x * 2 ^ T) by simp)) (by omega) (by omega) (hT'.below hS27.1)).mono ?_; rintro e x28 ⟨rfl, hb28⟩; have hS28 := SC.out _ (hS27.1.trans (hb28.mono hS27.1.size)); have p_28 := p_27.below hb28; clear p_27; have s_28 := hn27.below hb28; clear hn27; clear hb28 tk27; have tk28 : True := trivial; clear p_28; clear s_28))
      go_wp2
      go_ret
      exact ⟨rfl, hwc.trans (hS28.1.mono hwc.size)⟩
end Go.Proofs.YtfangnjdfmaaoaaDoor
