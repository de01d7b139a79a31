/- RangeOrders: where a version is none. -/
import Derived.Test.YtbohpflbifoohaaGreatDoorSvRanged
import Derived.Test.YtbohpflbifoohaaGreatDoorSvOut
import Derived.Test.YtbohpflbifoohaaGreatDoorSvCmp
import Derived.Test.YtbohpflbifoohaaGreatDoorSvGet
namespace Go.Proofs.YtbohpflbifoohaaGreatDoor
open Go.RowKit Go.Shelf Sv

theorem anyhas_in (a b c : Nat) (ha : a ≤ 999) (hb : b ≤ 999) (hc : c ≤ 999) (v : Value) (w : World) (hv : SpAt w v anyF) :
    Calls Tryz.prog 29 #[.agg #[v], .agg #[.int .i64 (a : Int), .int .i64 (b : Int), .int .i64 (c : Int)]] w fun e w' => e = .returned (.bool true) ∧ Below w.heap.size w w' :=
  (has_any anyF rg_any v a b c ha hb hc w hv).mono fun e w' ⟨B, he, hB, hbl⟩ => by
    have : B = true := hB.2 (mem_any.2 (by unfold numV ALL; omega))
    rw [this] at he
    exact ⟨he, hbl⟩
theorem anyhas_int (x y z : Int) (h : (0 ≤ x ∧ x ≤ 999) ∧ (0 ≤ y ∧ y ≤ 999) ∧ (0 ≤ z ∧ z ≤ 999)) (v : Value) (w : World) (hv : SpAt w v anyF) :
    Calls Tryz.prog 29 #[.agg #[v], .agg #[.int .i64 x, .int .i64 y, .int .i64 z]] w fun e w' => e = .returned (.bool true) ∧ Below w.heap.size w w' := by
  obtain ⟨a, rfl⟩ := Int.eq_ofNat_of_zero_le h.1.1
  obtain ⟨b, rfl⟩ := Int.eq_ofNat_of_zero_le h.2.1.1
  obtain ⟨c, rfl⟩ := Int.eq_ofNat_of_zero_le h.2.2.1
  exact anyhas_in a b c (by omega) (by omega) (by omega) v w hv
theorem any_form (w : World) : Calls Tryz.prog 31 #[] w fun e w' => ∃ a c, e = .returned (.agg #[.slice a anyF.length c]) ∧ SpAt w' (.slice a anyF.length c) anyF ∧ Below w.heap.size w w' :=
  (any_any w).mono fun e w' ⟨v', he, hs, _, hb⟩ => by obtain ⟨a', c', rfl⟩ := hs.form; exact ⟨a', c', he, hs, hb⟩

set_option maxRecDepth 100000 in
set_option maxHeartbeats 1000000 in
theorem orders_out1 (x0 x1 x2 y0 y1 y2 : Int) (w : World) (hw : Lb w) (h : ¬ ((0 ≤ x0 ∧ x0 ≤ 999) ∧ (0 ≤ x1 ∧ x1 ≤ 999) ∧ (0 ≤ x2 ∧ x2 ≤ 999))) :
    Calls Tryz.prog 8 #[.agg #[.int .i64 x0, .int .i64 x1, .int .i64 x2], .agg #[.int .i64 y0, .int .i64 y1, .int .i64 y2]] w fun e w' => e = .returned (.bool true) ∧ Below w.heap.size w w' := by
  have HR : Hid (∀ W, Below w.heap.size w W → Calls Tryz.prog 32 #[] W fun e w' => e = .returned (.bool true) ∧ Below W.heap.size W w') := fun W hb => ranged_any W (hw.below hb)
  have HR2 : Hid (∀ W, Below w.heap.size w W → Calls Tryz.prog 32 #[] W fun e w' => e = .returned (.bool true) ∧ Below W.heap.size W w') := fun W hb => ranged_any W (hw.below hb)
  have HA1 : Hid (∀ W, Calls Tryz.prog 31 #[] W fun e w' => ∃ a c, e = .returned (.agg #[.slice a anyF.length c]) ∧ SpAt w' (.slice a anyF.length c) anyF ∧ Below W.heap.size W w') := fun W => any_form W
  have HA2 : Hid (∀ W, Calls Tryz.prog 31 #[] W fun e w' => ∃ a c, e = .returned (.agg #[.slice a anyF.length c]) ∧ SpAt w' (.slice a anyF.length c) anyF ∧ Below W.heap.size W w') := fun W => any_form W
  have HV : Hid (∀ va vc W, SpAt W (.slice va anyF.length vc) anyF → Calls Tryz.prog 29 #[.agg #[.slice va anyF.length vc], .agg #[.int .i64 x0, .int .i64 x1, .int .i64 x2]] W fun e w' => e = .returned (.bool false) ∧ Below W.heap.size W w') := fun va vc W _ => has_out va anyF.length vc x0 x1 x2 h W
  have kv := (Blk.new w 23 #[.int .i64 x0, .int .i64 x1, .int .i64 x2]).alloc (.cells #[.int .i64 y0, .int .i64 y1, .int .i64 y2] 23)
  have kw := Blk.new (w.alloc (.cells #[.int .i64 x0, .int .i64 x1, .int .i64 x2] 23)) 23 #[.int .i64 y0, .int .i64 y1, .int .i64 y2]
  rw [World.size_alloc] at kw
  have hB0 : Below w.heap.size w ((w.alloc (.cells #[.int .i64 x0, .int .i64 x1, .int .i64 x2] 23)).alloc (.cells #[.int .i64 y0, .int .i64 y1, .int .i64 y2] 23)) := ((Below.refl _ w).alloc (Nat.le_refl _) _).alloc (by simp only [World.size_alloc]; omega) _
  clear hw h HA2
  go_enter Tryz.func8, Tryz.ntmps8
  go_wp2_with fail
  generalize (w.alloc (.cells #[.int .i64 x0, .int .i64 x1, .int .i64 x2] 23)).alloc (.cells #[.int .i64 y0, .int .i64 y1, .int .i64 y2] 23) = W0 at *
  have SC : Hid (∀ W, Below W0.heap.size W0 W → W.cell? ⟨w.heap.size, 0, none⟩ = some (.int .i64 x0) ∧ W.cell? ⟨w.heap.size, 1, none⟩ = some (.int .i64 x1) ∧ W.cell? ⟨w.heap.size, 2, none⟩ = some (.int .i64 x2) ∧ W.cell? ⟨w.heap.size + 1, 0, none⟩ = some (.int .i64 y0) ∧ W.cell? ⟨w.heap.size + 1, 1, none⟩ = some (.int .i64 y1) ∧ W.cell? ⟨w.heap.size + 1, 2, none⟩ = some (.int .i64 y2)) := fun W hb => ⟨(kv.below hb kv.lt).cell 0, (kv.below hb kv.lt).cell 1, (kv.below hb kv.lt).cell 2, (kw.below hb kw.lt).cell 0, (kw.below hb kw.lt).cell 1, (kw.below hb kw.lt).cell 2⟩
  have HKV := Lib.hid kv
  have HKW := Lib.hid kw
  have HB0 := Lib.hid hB0
  have D0 : Below W0.heap.size W0 W0.drew := (Below.refl _ _).drew
  have E0 : Below w.heap.size w W0.drew := HB0.out.drew
  clear kv kw hB0
  refine wp_region_held_drew (S := (fun W => W.cell? ⟨w.heap.size, 0, none⟩ = some (.int .i64 x0) ∧ W.cell? ⟨w.heap.size, 1, none⟩ = some (.int .i64 x1) ∧ W.cell? ⟨w.heap.size, 2, none⟩ = some (.int .i64 x2) ∧ W.cell? ⟨w.heap.size + 1, 0, none⟩ = some (.int .i64 y0) ∧ W.cell? ⟨w.heap.size + 1, 1, none⟩ = some (.int .i64 y1) ∧ W.cell? ⟨w.heap.size + 1, 2, none⟩ = some (.int .i64 y2))) (by kernel_rfl) ?_ (fun hHeld => ?_)
  · exact SC.out _ D0
  refine wpAnyH_ready (rs := [0]) (by as_aux_lemma => kernel_rfl) (by simp) ?_
  refine AllReadyH.cons (o := ⟨_, _, _, _, _, _⟩) rfl (fun K hK => ?_) AllReadyH.nil
  go_simp
  refine (HR.out _ E0).mono ?_
  rintro e w1 ⟨rfl, hb1⟩
  have D1 : Below W0.heap.size W0 w1 := D0.trans (hb1.mono D0.size)
  clear HR D0 E0 hb1
  go_wp2_with fail
  refine hK.out _ _ ?_ (fun hNew => ?_)
  · exact SC.out _ D1
  clear hK K
  replace hHeld := hNew
  clear hNew
  try simp only [Act.put, List.setIfInBounds_toArray, List.set_cons_zero, List.set_cons_succ]
  refine wpAnyH_take (i := 1) (oi := ⟨_, _, _, _, _, _⟩) (v := ?_) rfl (by as_aux_lemma => kernel_rfl) (by as_aux_lemma => kernel_rfl) (by as_aux_lemma => kernel_rfl) (fun _ _ _ h => h) (Or.inl ⟨by rfl, ?_⟩) (by assumption) ?_
  rotate_left
  · (intro w hSw; (try dsimp only at hSw); first | (go_simp; done) | (go_simp; with_reducible rfl))
  try simp only [Act.put, List.setIfInBounds_toArray, List.set_cons_zero, List.set_cons_succ]
  refine wpAnyH_take (i := 2) (oi := ⟨_, _, _, _, _, _⟩) (v := ?_) rfl (by as_aux_lemma => kernel_rfl) (by as_aux_lemma => kernel_rfl) (by as_aux_lemma => kernel_rfl) (fun _ _ _ h => h) (Or.inl ⟨by rfl, ?_⟩) (by assumption) ?_
  rotate_left
  · (intro w hSw; (try dsimp only at hSw); first | (go_simp; done) | (go_simp; with_reducible rfl))
  try simp only [Act.put, List.setIfInBounds_toArray, List.set_cons_zero, List.set_cons_succ]
  refine wpAnyH_take (i := 4) (oi := ⟨_, _, _, _, _, _⟩) (v := ?_) rfl (by as_aux_lemma => kernel_rfl) (by as_aux_lemma => kernel_rfl) (by as_aux_lemma => kernel_rfl) (fun _ _ _ h => h) (Or.inl ⟨by rfl, ?_⟩) (by assumption) ?_
  rotate_left
  · (intro w hSw; (try dsimp only at hSw); first | (go_simp; done) | (go_simp; with_reducible rfl))
  try simp only [Act.put, List.setIfInBounds_toArray, List.set_cons_zero, List.set_cons_succ]
  refine wpAnyH_ready (rs := [3]) (by as_aux_lemma => kernel_rfl) (by simp) ?_
  refine AllReadyH.cons (o := ⟨_, _, _, _, _, _⟩) rfl (fun K hK => ?_) AllReadyH.nil
  go_simp
  refine (HA1.out _).mono ?_
  rintro e w2 ⟨a2, c2, rfl, s2, hb2⟩
  have D2 : Below W0.heap.size W0 w2 := D1.trans (hb2.mono D1.size)
  clear HA1 D1 hb2
  go_wp2_with fail
  refine hK.out _ _ ?_ (fun hNew => ?_)
  · exact SC.out _ D2
  clear hK K
  replace hHeld := hNew
  clear hNew
  try simp only [Act.put, List.setIfInBounds_toArray, List.set_cons_zero, List.set_cons_succ]
  refine wpAnyH_ready (rs := [5]) (by as_aux_lemma => kernel_rfl) (by simp) ?_
  refine AllReadyH.cons (o := ⟨_, _, _, _, _, _⟩) rfl (fun K hK => ?_) AllReadyH.nil
  go_simp
  refine (HV.out _ _ _ s2).mono ?_
  rintro e w3 ⟨rfl, hb3⟩
  have D3 : Below W0.heap.size W0 w3 := D2.trans (hb3.mono D2.size)
  clear HV D2 hb3 s2
  go_wp2_with fail
  refine hK.out _ _ ?_ (fun hNew => ?_)
  · exact SC.out _ D3
  clear hK K
  replace hHeld := hNew
  clear hNew
  try simp only [Act.put, List.setIfInBounds_toArray, List.set_cons_zero, List.set_cons_succ]
  refine wpAnyH_take (i := 6) (oi := ⟨_, _, _, _, _, _⟩) (v := ?_) rfl (by as_aux_lemma => kernel_rfl) (by as_aux_lemma => kernel_rfl) (by as_aux_lemma => kernel_rfl) (fun _ _ _ h => h) (Or.inl ⟨by rfl, ?_⟩) (by assumption) ?_
  rotate_left
  · (intro w hSw; (try dsimp only at hSw); first | (go_simp; done) | (go_simp; with_reducible rfl))
  try simp only [Act.put, List.setIfInBounds_toArray, List.set_cons_zero, List.set_cons_succ]
  refine wpAnyH_take (i := 7) (oi := ⟨_, _, _, _, _, _⟩) (v := ?_) rfl (by as_aux_lemma => kernel_rfl) (by as_aux_lemma => kernel_rfl) (by as_aux_lemma => kernel_rfl) (fun _ _ _ h => h) (Or.inl ⟨by rfl, ?_⟩) (by assumption) ?_
  rotate_left
  · (intro w hSw; (try dsimp only at hSw); first | (go_simp; done) | (go_simp; with_reducible rfl))
  try simp only [Act.put, List.setIfInBounds_toArray, List.set_cons_zero, List.set_cons_succ]
  refine wpAnyH_take (i := 8) (oi := ⟨_, _, _, _, _, _⟩) (v := ?_) rfl (by as_aux_lemma => kernel_rfl) (by as_aux_lemma => kernel_rfl) (by as_aux_lemma => kernel_rfl) (fun _ _ _ h => h) (Or.inl ⟨by rfl, ?_⟩) (by assumption) ?_
  rotate_left
  · (intro w hSw; (try dsimp only at hSw); first | (go_simp; done) | (go_simp; with_reducible rfl))
  try simp only [Act.put, List.setIfInBounds_toArray, List.set_cons_zero, List.set_cons_succ]
  refine wpAnyH_take (i := 9) (oi := ⟨_, _, _, _, _, _⟩) (v := undef) rfl (by as_aux_lemma => kernel_rfl) (by as_aux_lemma => kernel_rfl) (by as_aux_lemma => kernel_rfl) (fun _ _ _ h => h) (Or.inr ⟨by rfl, rfl⟩) (by assumption) ?_
  try simp only [Act.put, List.setIfInBounds_toArray, List.set_cons_zero, List.set_cons_succ]
  refine wpAnyH_take (i := 10) (oi := ⟨_, _, _, _, _, _⟩) (v := undef) rfl (by as_aux_lemma => kernel_rfl) (by as_aux_lemma => kernel_rfl) (by as_aux_lemma => kernel_rfl) (fun _ _ _ h => h) (Or.inr ⟨by rfl, rfl⟩) (by assumption) ?_
  try simp only [Act.put, List.setIfInBounds_toArray, List.set_cons_zero, List.set_cons_succ]
  refine wpAnyH_take (i := 11) (oi := ⟨_, _, _, _, _, _⟩) (v := undef) rfl (by as_aux_lemma => kernel_rfl) (by as_aux_lemma => kernel_rfl) (by as_aux_lemma => kernel_rfl) (fun _ _ _ h => h) (Or.inr ⟨by rfl, rfl⟩) (by assumption) ?_
  try simp only [Act.put, List.setIfInBounds_toArray, List.set_cons_zero, List.set_cons_succ]
  refine wpAnyH_take (i := 12) (oi := ⟨_, _, _, _, _, _⟩) (v := undef) rfl (by as_aux_lemma => kernel_rfl) (by as_aux_lemma => kernel_rfl) (by as_aux_lemma => kernel_rfl) (fun _ _ _ h => h) (Or.inr ⟨by rfl, rfl⟩) (by assumption) ?_
  try simp only [Act.put, List.setIfInBounds_toArray, List.set_cons_zero, List.set_cons_succ]
  refine wpAnyH_take (i := 13) (oi := ⟨_, _, _, _, _, _⟩) (v := ?_) rfl (by as_aux_lemma => kernel_rfl) (by as_aux_lemma => kernel_rfl) (by as_aux_lemma => kernel_rfl) (fun _ _ _ h => h) (Or.inl ⟨by rfl, ?_⟩) (by assumption) ?_
  rotate_left
  · (intro w hSw; (try dsimp only at hSw); first | (go_simp; done) | (go_simp; with_reducible rfl))
  try simp only [Act.put, List.setIfInBounds_toArray, List.set_cons_zero, List.set_cons_succ]
  refine wpAnyH_done (by kernel_rfl) ?_ _
  have E : Below w.heap.size w w3 := HB0.out.trans (D3.mono HB0.out.size)
  clear D3
  go_wp2_with fail
  refine (HR2.out _ E).mono ?_
  rintro e z ⟨rfl, hb⟩
  have HZ : Hid (Below w.heap.size w z) := E.trans (hb.mono E.size)
  clear E hb
  go_wp2
  go_ret
  exact ⟨rfl, HZ.out⟩

set_option maxRecDepth 100000 in
set_option maxHeartbeats 1000000 in
theorem orders_out2 (x0 x1 x2 y0 y1 y2 : Int) (w : World) (hw : Lb w) (h1 : ((0 ≤ x0 ∧ x0 ≤ 999) ∧ (0 ≤ x1 ∧ x1 ≤ 999) ∧ (0 ≤ x2 ∧ x2 ≤ 999))) (h : ¬ ((0 ≤ y0 ∧ y0 ≤ 999) ∧ (0 ≤ y1 ∧ y1 ≤ 999) ∧ (0 ≤ y2 ∧ y2 ≤ 999))) :
    Calls Tryz.prog 8 #[.agg #[.int .i64 x0, .int .i64 x1, .int .i64 x2], .agg #[.int .i64 y0, .int .i64 y1, .int .i64 y2]] w fun e w' => e = .returned (.bool true) ∧ Below w.heap.size w w' := by
  have HR : Hid (∀ W, Below w.heap.size w W → Calls Tryz.prog 32 #[] W fun e w' => e = .returned (.bool true) ∧ Below W.heap.size W w') := fun W hb => ranged_any W (hw.below hb)
  have HR2 : Hid (∀ W, Below w.heap.size w W → Calls Tryz.prog 32 #[] W fun e w' => e = .returned (.bool true) ∧ Below W.heap.size W w') := fun W hb => ranged_any W (hw.below hb)
  have HA1 : Hid (∀ W, Calls Tryz.prog 31 #[] W fun e w' => ∃ a c, e = .returned (.agg #[.slice a anyF.length c]) ∧ SpAt w' (.slice a anyF.length c) anyF ∧ Below W.heap.size W w') := fun W => any_form W
  have HA2 : Hid (∀ W, Calls Tryz.prog 31 #[] W fun e w' => ∃ a c, e = .returned (.agg #[.slice a anyF.length c]) ∧ SpAt w' (.slice a anyF.length c) anyF ∧ Below W.heap.size W w') := fun W => any_form W
  have HV : Hid (∀ va vc W, SpAt W (.slice va anyF.length vc) anyF → Calls Tryz.prog 29 #[.agg #[.slice va anyF.length vc], .agg #[.int .i64 x0, .int .i64 x1, .int .i64 x2]] W fun e w' => e = .returned (.bool true) ∧ Below W.heap.size W w') := fun va vc W hs => anyhas_int x0 x1 x2 h1 _ W hs
  have HW : Hid (∀ va vc W, SpAt W (.slice va anyF.length vc) anyF → Calls Tryz.prog 29 #[.agg #[.slice va anyF.length vc], .agg #[.int .i64 y0, .int .i64 y1, .int .i64 y2]] W fun e w' => e = .returned (.bool false) ∧ Below W.heap.size W w') := fun va vc W _ => has_out va anyF.length vc y0 y1 y2 h W
  have kv := (Blk.new w 23 #[.int .i64 x0, .int .i64 x1, .int .i64 x2]).alloc (.cells #[.int .i64 y0, .int .i64 y1, .int .i64 y2] 23)
  have kw := Blk.new (w.alloc (.cells #[.int .i64 x0, .int .i64 x1, .int .i64 x2] 23)) 23 #[.int .i64 y0, .int .i64 y1, .int .i64 y2]
  rw [World.size_alloc] at kw
  have hB0 : Below w.heap.size w ((w.alloc (.cells #[.int .i64 x0, .int .i64 x1, .int .i64 x2] 23)).alloc (.cells #[.int .i64 y0, .int .i64 y1, .int .i64 y2] 23)) := ((Below.refl _ w).alloc (Nat.le_refl _) _).alloc (by simp only [World.size_alloc]; omega) _
  clear hw h h1
  go_enter Tryz.func8, Tryz.ntmps8
  go_wp2_with fail
  generalize (w.alloc (.cells #[.int .i64 x0, .int .i64 x1, .int .i64 x2] 23)).alloc (.cells #[.int .i64 y0, .int .i64 y1, .int .i64 y2] 23) = W0 at *
  have SC : Hid (∀ W, Below W0.heap.size W0 W → W.cell? ⟨w.heap.size, 0, none⟩ = some (.int .i64 x0) ∧ W.cell? ⟨w.heap.size, 1, none⟩ = some (.int .i64 x1) ∧ W.cell? ⟨w.heap.size, 2, none⟩ = some (.int .i64 x2) ∧ W.cell? ⟨w.heap.size + 1, 0, none⟩ = some (.int .i64 y0) ∧ W.cell? ⟨w.heap.size + 1, 1, none⟩ = some (.int .i64 y1) ∧ W.cell? ⟨w.heap.size + 1, 2, none⟩ = some (.int .i64 y2)) := fun W hb => ⟨(kv.below hb kv.lt).cell 0, (kv.below hb kv.lt).cell 1, (kv.below hb kv.lt).cell 2, (kw.below hb kw.lt).cell 0, (kw.below hb kw.lt).cell 1, (kw.below hb kw.lt).cell 2⟩
  have HKV := Lib.hid kv
  have HKW := Lib.hid kw
  have HB0 := Lib.hid hB0
  have D0 : Below W0.heap.size W0 W0.drew := (Below.refl _ _).drew
  have E0 : Below w.heap.size w W0.drew := HB0.out.drew
  clear kv kw hB0
  go_region_held3 (fun W => W.cell? ⟨w.heap.size, 0, none⟩ = some (.int .i64 x0) ∧ W.cell? ⟨w.heap.size, 1, none⟩ = some (.int .i64 x1) ∧ W.cell? ⟨w.heap.size, 2, none⟩ = some (.int .i64 x2) ∧ W.cell? ⟨w.heap.size + 1, 0, none⟩ = some (.int .i64 y0) ∧ W.cell? ⟨w.heap.size + 1, 1, none⟩ = some (.int .i64 y1) ∧ W.cell? ⟨w.heap.size + 1, 2, none⟩ = some (.int .i64 y2)) (first | exact SC.out _ D0 | exact SC.out _ D1 | exact SC.out _ D2 | exact SC.out _ D3 | exact SC.out _ D4 | exact SC.out _ D5)
    (first
      | ((with_reducible refine (HR.out _ E0).mono ?_); rintro e w1 ⟨rfl, hb1⟩; have D1 : Below W0.heap.size W0 w1 := D0.trans (hb1.mono D0.size); clear HR D0 E0 hb1)
      | ((with_reducible refine (HA1.out _).mono ?_); rintro e w2 ⟨a2, c2, rfl, s2, hb2⟩; have D2 : Below W0.heap.size W0 w2 := D1.trans (hb2.mono D1.size); clear HA1 D1 hb2)
      | ((with_reducible refine (HV.out _ _ _ s2).mono ?_); rintro e w3 ⟨rfl, hb3⟩; have D3 : Below W0.heap.size W0 w3 := D2.trans (hb3.mono D2.size); clear HV D2 hb3 s2)
      | ((with_reducible refine (HA2.out _).mono ?_); rintro e w4 ⟨a4, c4, rfl, s4, hb4⟩; have D4 : Below W0.heap.size W0 w4 := D3.trans (hb4.mono D3.size); clear HA2 D3 hb4)
      | ((with_reducible refine (HW.out _ _ _ s4).mono ?_); rintro e w5 ⟨rfl, hb5⟩; have D5 : Below W0.heap.size W0 w5 := D4.trans (hb5.mono D4.size); clear HW D4 hb5 s4))
  have E : Below w.heap.size w w5 := HB0.out.trans (D5.mono HB0.out.size)
  clear D5
  go_wp2_with fail
  refine (HR2.out _ E).mono ?_
  rintro e z ⟨rfl, hb⟩
  have HZ : Hid (Below w.heap.size w z) := E.trans (hb.mono E.size)
  clear E hb
  go_wp2
  go_ret
  exact ⟨rfl, HZ.out⟩

end Go.Proofs.YtbohpflbifoohaaGreatDoor
