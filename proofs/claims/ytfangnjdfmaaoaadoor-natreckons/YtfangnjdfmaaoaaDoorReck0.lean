/- The reference's String; the statements' nat. -/
import Derived.Test.YtfangnjdfmaaoaaDoorBigText
import Derived.Test.YtfangnjdfmaaoaaDoorBigOps
import Derived.Test.YtfangnjdfmaaoaaDoorRefParse
import Derived.Test.YtfangnjdfmaaoaaDoorNats
namespace Go.Proofs.YtfangnjdfmaaoaaDoor
open Go.RowKit Num Go.Sort Go.PlainAid

set_option maxRecDepth 100000 in
set_option maxHeartbeats 1000000 in
theorem itext_zero {p : Nat} {w : World} (hp : IntIs w p 0) :
    Calls Tryd.prog 48 #[.pointer (some ⟨p, 0, none⟩), .int .i64 10] w fun e w' => e = .returned (.string ⟨(Lib.decDigits 0).toArray⟩) ∧ Below w.heap.size w w' := by
  obtain ⟨p0, p1, vp, p2, ds, ⟨aa, ca, rfl, -⟩, h2, h3⟩ := hp
  have hl := (val_zero (by omega) h2).1 h3
  rw [hl] at p2
  rw [decDigits_zero]
  clear hl h2 h3
  go_enter Tryd.func48, Tryd.ntmps48
  go_wp2
  go_ret
  exact ⟨rfl, Below.refl _ _⟩

theorem ten_big : (10 : Nat) ^ (499 + 1) < 4294967296 ^ 1000 := by decide +kernel

theorem itext_big {p x : Nat} {w : World} (hp : IntIs w p x) (hx5 : x < 10 ^ (499 + 1)) :
    Calls Tryd.prog 48 #[.pointer (some ⟨p, 0, none⟩), .int .i64 10] w fun e w' => e = .returned (.string ⟨(Lib.decDigits x).toArray⟩) ∧ Below w.heap.size w w' := by
  by_cases h : x = 0
  · subst h; exact itext_zero hp
  · exact itext_pos hp (Nat.lt_trans hx5 ten_big) hx5 h

set_option maxRecDepth 100000 in
set_option maxHeartbeats 1000000 in
theorem string_big {p x : Nat} {w : World} (hp : IntIs w p x) (hx5 : x < 10 ^ (499 + 1)) :
    Calls Tryd.prog 20 #[.pointer (some ⟨p, 0, none⟩)] w fun e w' => e = .returned (.string ⟨(Lib.decDigits x).toArray⟩) ∧ Below w.heap.size w w' := by
  have H := Lib.hid (itext_big hp hx5)
  clear hp hx5
  go_enter Tryd.func20, Tryd.ntmps20
  go_wp2_with fail
  refine H.out.mono ?_
  rintro e w1 ⟨rfl, hb1⟩
  go_wp2
  go_ret
  exact ⟨rfl, hb1⟩

theorem NatIs.set28 {w : World} {v : Value} {n L g k c : Nat} {a : Option Addr} (h : NatIs w v n L) (hp : w.cell? ⟨g, 0, none⟩ = some (.slice a k c)) (u : Value) : NatIs (w.setCell ⟨g, 0, none⟩ u) v n L := by
  obtain ⟨ds, h1, h2, h3, h4⟩ := h
  exact ⟨ds, h1.set hp (fun n h => by cases h) u, h2, h3, h4⟩
theorem IntIs.set28 {w : World} {b n g k c : Nat} {a : Option Addr} (h : IntIs w b n) (hp : w.cell? ⟨g, 0, none⟩ = some (.slice a k c)) (u : Value) : IntIs (w.setCell ⟨g, 0, none⟩ u) b n := by
  obtain ⟨h0, h1, v, h2, h3⟩ := h
  refine ⟨by simpa [World.setCell] using h0, ?_, v, ?_, h3.set hp (fun k n h => by cases h) u⟩
  · rw [World.cell?_setCell_other _ _ _ _ (fun e => by rw [← e, hp] at h1; cases h1)]; exact h1
  · rw [World.cell?_setCell_other _ _ _ _ (fun e => by cases e)]; exact h2

set_option maxRecDepth 100000 in
set_option maxHeartbeats 1000000 in
theorem nat_yes (s : ByteArray) (w : World) (hs : s.size ≤ 100) (hok : OkText s) :
    Calls Tryd.prog 16 #[.string s] w fun e w' => ∃ v b, e = .returned (.tuple #[.agg #[v], .pointer (some ⟨b, 0, none⟩), .bool true]) ∧ NatIs w' v (pre s s.size) 12 ∧ IntIs w' b (pre s s.size) ∧ Below w.heap.size w w' := by
  have HR : ∀ W, Calls Tryd.prog 7 #[.string s] W fun e w' => ∃ b, e = .returned (.tuple #[.pointer (some ⟨b, 0, none⟩), .int .i64 0]) ∧ IntIs w' b (pre s s.size) ∧ Below W.heap.size W w' := fun W => (ref_any s W (by omega)).mono fun e w' ⟨_, _, h, hb⟩ => by
    obtain ⟨b, he, hI⟩ := h hok hs
    exact ⟨b, he, hI, hb⟩
  have HP := fun W => parse_nat s W hs hok
  have H1 := Lib.hid HR
  have H2 := Lib.hid HP
  clear HR HP hok hs
  generalize pre s s.size = n at *
  go_enter Tryd.func16, Tryd.ntmps16
  go_wp2_with fail
  refine (H1.out _).mono ?_
  rintro e w1 ⟨b, rfl, hI1, hb1⟩
  go_wp2_with fail
  refine (H2.out _).mono ?_
  rintro e w2 ⟨v, rfl, hn2, hb2⟩
  obtain ⟨a, k, c, rfl⟩ := hn2.form
  have hs0 : (w.alloc (.cells #[.slice none 0 0] 28)).heap.size = w.heap.size + 1 := by simp
  have hs1 := hb1.size
  have hs2 := hb2.size
  have bw1 : Below w.heap.size w w1 := (below_alloc3 w _).trans (hb1.mono (by omega))
  have c1 : w1.cell? ⟨w.heap.size, 0, none⟩ = some (.slice none 0 0) := (hb1.cell (p := ⟨w.heap.size, 0, none⟩) (by simp)).trans (cell1_0 _ _ _)
  have f1 : w1.frozen? ⟨w.heap.size, 0, none⟩ = false := (hb1.frozen (p := ⟨w.heap.size, 0, none⟩) (by simp)).trans (frozen1_0 _ _ _)
  have c2 := (hb2.cell (p := ⟨w.heap.size, 0, none⟩) (by show w.heap.size < _; omega)).trans c1
  have f2 := (hb2.frozen (p := ⟨w.heap.size, 0, none⟩) (by show w.heap.size < _; omega)).trans f1
  have ba := below_alloc3 w2 (.cells #[.slice a k c] 28)
  have c3 := (ba.cell (p := ⟨w.heap.size, 0, none⟩) (by show w.heap.size < _; omega)).trans c2
  have f3 := (ba.frozen (p := ⟨w.heap.size, 0, none⟩) (by show w.heap.size < _; omega)).trans f2
  have q3 := cell1_0 w2 (.slice a k c) 28
  have bw3 := (bw1.trans (hb2.mono (by omega))).trans (ba.mono (by omega))
  have hI3 := (hI1.below hb2).below ba
  have hn3 := hn2.below ba
  have hlt : w.heap.size < w2.heap.size := by omega
  obtain ⟨W, hWe⟩ : ∃ W : World, W = w2.alloc (.cells #[.slice a k c] 28) := ⟨_, rfl⟩
  go_wp2_with fail
  rw [← hWe] at c3 f3 q3 bw3 hI3 hn3 ⊢
  generalize w2.heap.size = g at *
  clear hWe hb1 hb2 bw1 c1 f1 c2 f2 ba hI1 hn2 H1 H2 hs0 hs1 hs2
  have cD : W.drew.cell? ⟨w.heap.size, 0, none⟩ = some (.slice none 0 0) := c3
  have fD : W.drew.frozen? ⟨w.heap.size, 0, none⟩ = false := f3
  have qD : W.drew.cell? ⟨g, 0, none⟩ = some (.slice a k c) := q3
  have bD : Below w.heap.size w W.drew := bw3.drew
  have hID := hI3.below (Below.refl W.heap.size W).drew
  have hnD := hn3.below (Below.refl W.heap.size W).drew
  have bE := bD.setCell (p := ⟨w.heap.size, 0, none⟩) (Nat.le_refl _) (.slice a k c)
  have qE : (W.drew.setCell ⟨w.heap.size, 0, none⟩ (.slice a k c)).cell? ⟨g, 0, none⟩ = some (.slice a k c) := by
    rw [World.cell?_setCell_other _ _ _ _ (fun e => by cases e; omega)]; exact qD
  have cE : (W.setCell ⟨w.heap.size, 0, none⟩ (.slice a k c)).cell? ⟨w.heap.size, 0, none⟩ = some (.slice a k c) := World.cell?_setCell_same' _ _ _ (by simp [c3])
  clear c3 f3 q3 bw3 hI3 hn3
  go_region_held3 (fun w' => w'.cell? ⟨g, 0, none⟩ = some (.slice a k c)) (first | exact qD | exact qE) (first | fail)
  all_goals
    go_wp2
    refine bodyPost_ret (v := .tuple #[.agg #[.slice a k c], .pointer (some ⟨b, 0, none⟩), .bool true]) (by simp [results, Tryd.results16, go_sem, cE]) rfl ?_
    exact ⟨_, b, rfl, hnD.set28 cD _, hID.set28 cD _, bE⟩

set_option maxRecDepth 100000 in
set_option maxHeartbeats 1000000 in
theorem nat_no (s : ByteArray) (w : World) (hs : s.size ≤ 400) (hok : ¬ (OkText s ∧ s.size ≤ 100)) :
    Calls Tryd.prog 16 #[.string s] w fun e w' => ∃ a k c, e = .returned (.tuple #[.agg #[.slice a k c], .pointer none, .bool false]) ∧ Below w.heap.size w w' := by
  have HR : ∀ W, Calls Tryd.prog 7 #[.string s] W fun e w' => ∃ m : Int, e = .returned (.tuple #[.pointer none, .int .i64 m]) ∧ (m = 3 ∨ m = 4) ∧ Below W.heap.size W w' := fun W => (ref_any s W (by omega)).mono fun e w' ⟨h1, h2, _, hb⟩ => by
    by_cases ho : OkText s
    · exact ⟨4, h2 ho (by have : ¬ s.size ≤ 100 := fun h => hok ⟨ho, h⟩; omega), .inr rfl, hb⟩
    · exact ⟨3, h1 ho, .inl rfl, hb⟩
  have HP : ∀ W, Calls Tryd.prog 8 #[.string s] W fun e w' => ∃ a k c er, e = .returned (.tuple #[.agg #[.slice a k c], er]) ∧ Below W.heap.size W w' := fun W => (parse_any s W hs).mono fun e w' ⟨v, er, he, ⟨a, k, c, hv⟩, _, _, hb⟩ => ⟨a, k, c, er, by rw [he, hv], hb⟩
  have H1 := Lib.hid HR
  have H2 := Lib.hid HP
  clear HR HP hok hs
  go_enter Tryd.func16, Tryd.ntmps16
  go_wp2_with fail
  refine (H1.out _).mono ?_
  rintro e w1 ⟨m, rfl, hm, hb1⟩
  rcases hm with rfl | rfl
  · go_wp2_with fail
    refine (H2.out _).mono ?_
    rintro e w2 ⟨a, k, c, er, rfl, hb2⟩
    have hs0 : (w.alloc (.cells #[.slice none 0 0] 28)).heap.size = w.heap.size + 1 := by simp
    have hs1 := hb1.size
    have hs2 := hb2.size
    have bw1 : Below w.heap.size w w1 := (below_alloc3 w _).trans (hb1.mono (by omega))
    have c1 : w1.cell? ⟨w.heap.size, 0, none⟩ = some (.slice none 0 0) := (hb1.cell (p := ⟨w.heap.size, 0, none⟩) (by simp)).trans (cell1_0 _ _ _)
    have f1 : w1.frozen? ⟨w.heap.size, 0, none⟩ = false := (hb1.frozen (p := ⟨w.heap.size, 0, none⟩) (by simp)).trans (frozen1_0 _ _ _)
    have c2 := (hb2.cell (p := ⟨w.heap.size, 0, none⟩) (by show w.heap.size < _; omega)).trans c1
    have f2 := (hb2.frozen (p := ⟨w.heap.size, 0, none⟩) (by show w.heap.size < _; omega)).trans f1
    have ba := below_alloc3 w2 (.cells #[.slice a k c] 28)
    have c3 := (ba.cell (p := ⟨w.heap.size, 0, none⟩) (by show w.heap.size < _; omega)).trans c2
    have f3 := (ba.frozen (p := ⟨w.heap.size, 0, none⟩) (by show w.heap.size < _; omega)).trans f2
    have q3 := cell1_0 w2 (.slice a k c) 28
    have bw3 := (bw1.trans (hb2.mono (by omega))).trans (ba.mono (by omega))
    have hlt : w.heap.size < w2.heap.size := by omega
    obtain ⟨W, hWe⟩ : ∃ W : World, W = w2.alloc (.cells #[.slice a k c] 28) := ⟨_, rfl⟩
    go_wp2_with fail
    rw [← hWe] at c3 f3 q3 bw3 ⊢
    generalize w2.heap.size = g at *
    clear hWe hb1 hb2 bw1 c1 f1 c2 f2 ba H1 H2 hs0 hs1 hs2
    have cD : W.drew.cell? ⟨w.heap.size, 0, none⟩ = some (.slice none 0 0) := c3
    have fD : W.drew.frozen? ⟨w.heap.size, 0, none⟩ = false := f3
    have qD : W.drew.cell? ⟨g, 0, none⟩ = some (.slice a k c) := q3
    have bD : Below w.heap.size w W.drew := bw3.drew
    have bE := bD.setCell (p := ⟨w.heap.size, 0, none⟩) (Nat.le_refl _) (.slice a k c)
    have qE : (W.drew.setCell ⟨w.heap.size, 0, none⟩ (.slice a k c)).cell? ⟨g, 0, none⟩ = some (.slice a k c) := by
      rw [World.cell?_setCell_other _ _ _ _ (fun e => by cases e; omega)]; exact qD
    have cE : (W.setCell ⟨w.heap.size, 0, none⟩ (.slice a k c)).cell? ⟨w.heap.size, 0, none⟩ = some (.slice a k c) := World.cell?_setCell_same' _ _ _ (by simp [c3])
    clear c3 f3 q3 bw3
    go_region
    all_goals
      go_wp2
      refine bodyPost_ret (v := .tuple #[.agg #[.slice a k c], .pointer none, .bool false]) (by simp [results, Tryd.results16, go_sem, cE]) rfl ?_
      exact ⟨a, k, c, rfl, bE⟩
  · go_wp2_with fail
    refine (H2.out _).mono ?_
    rintro e w2 ⟨a, k, c, er, rfl, hb2⟩
    have hs0 : (w.alloc (.cells #[.slice none 0 0] 28)).heap.size = w.heap.size + 1 := by simp
    have hs1 := hb1.size
    have hs2 := hb2.size
    have bw1 : Below w.heap.size w w1 := (below_alloc3 w _).trans (hb1.mono (by omega))
    have c1 : w1.cell? ⟨w.heap.size, 0, none⟩ = some (.slice none 0 0) := (hb1.cell (p := ⟨w.heap.size, 0, none⟩) (by simp)).trans (cell1_0 _ _ _)
    have f1 : w1.frozen? ⟨w.heap.size, 0, none⟩ = false := (hb1.frozen (p := ⟨w.heap.size, 0, none⟩) (by simp)).trans (frozen1_0 _ _ _)
    have c2 := (hb2.cell (p := ⟨w.heap.size, 0, none⟩) (by show w.heap.size < _; omega)).trans c1
    have f2 := (hb2.frozen (p := ⟨w.heap.size, 0, none⟩) (by show w.heap.size < _; omega)).trans f1
    have ba := below_alloc3 w2 (.cells #[.slice a k c] 28)
    have c3 := (ba.cell (p := ⟨w.heap.size, 0, none⟩) (by show w.heap.size < _; omega)).trans c2
    have f3 := (ba.frozen (p := ⟨w.heap.size, 0, none⟩) (by show w.heap.size < _; omega)).trans f2
    have q3 := cell1_0 w2 (.slice a k c) 28
    have bw3 := (bw1.trans (hb2.mono (by omega))).trans (ba.mono (by omega))
    have hlt : w.heap.size < w2.heap.size := by omega
    obtain ⟨W, hWe⟩ : ∃ W : World, W = w2.alloc (.cells #[.slice a k c] 28) := ⟨_, rfl⟩
    go_wp2_with fail
    rw [← hWe] at c3 f3 q3 bw3 ⊢
    generalize w2.heap.size = g at *
    clear hWe hb1 hb2 bw1 c1 f1 c2 f2 ba H1 H2 hs0 hs1 hs2
    have cD : W.drew.cell? ⟨w.heap.size, 0, none⟩ = some (.slice none 0 0) := c3
    have fD : W.drew.frozen? ⟨w.heap.size, 0, none⟩ = false := f3
    have qD : W.drew.cell? ⟨g, 0, none⟩ = some (.slice a k c) := q3
    have bD : Below w.heap.size w W.drew := bw3.drew
    have bE := bD.setCell (p := ⟨w.heap.size, 0, none⟩) (Nat.le_refl _) (.slice a k c)
    have qE : (W.drew.setCell ⟨w.heap.size, 0, none⟩ (.slice a k c)).cell? ⟨g, 0, none⟩ = some (.slice a k c) := by
      rw [World.cell?_setCell_other _ _ _ _ (fun e => by cases e; omega)]; exact qD
    have cE : (W.setCell ⟨w.heap.size, 0, none⟩ (.slice a k c)).cell? ⟨w.heap.size, 0, none⟩ = some (.slice a k c) := World.cell?_setCell_same' _ _ _ (by simp [c3])
    clear c3 f3 q3 bw3
    go_region
    all_goals
      go_wp2
      refine bodyPost_ret (v := .tuple #[.agg #[.slice a k c], .pointer none, .bool false]) (by simp [results, Tryd.results16, go_sem, cE]) rfl ?_
      exact ⟨a, k, c, rfl, bE⟩
end Go.Proofs.YtfangnjdfmaaoaaDoor
