/- Which element is the pivot. -/
import Derived.Test.YtbklgjmkdhinpaaGreatDoorSrBase
set_option maxHeartbeats 8000000
set_option maxRecDepth 100000
namespace Go.Proofs.YtbklgjmkdhinpaaGreatDoor.Sr
open Go.RowKit Go.Maps Go.Proofs.YtbklgjmkdhinpaaGreatDoor.Bd Go.Proofs.YtbklgjmkdhinpaaGreatDoor.Fm Go.Sort
structure SW (w : World) (sb : Nat) (s : Nat) : Prop where
 cell : w.cell? ⟨sb, 0, none⟩ = some (.int .i64 (s : Int))
 froz : w.frozen? ⟨sb, 0, none⟩ = false
section
variable {w w' : World} {g sb s : Nat} {d : Array Int}
theorem SW.lt (h : SW w sb s) : sb < w.heap.size := (cells_at h.cell).lt
theorem UR.kept {S : Nat -> Prop} (h : UR w g d) (hk : Kept S w w') (hn : ¬ S g) : UR w' g d :=
 ⟨Nat.lt_of_lt_of_le h.lt hk.size, fun j hj => (hk.cell (a := ⟨g, j, none⟩) h.lt hn).trans (h.cell j hj), fun j hj => (hk.frozen (a := ⟨g, j, none⟩) h.lt hn).trans (h.froz j hj)⟩
theorem SW.kept {S : Nat -> Prop} (h : SW w sb s) (hk : Kept S w w') (hn : ¬ S sb) : SW w' sb s :=
 ⟨(hk.cell (a := ⟨sb, 0, none⟩) h.lt hn).trans h.cell, (hk.frozen (a := ⟨sb, 0, none⟩) h.lt hn).trans h.froz⟩
theorem SW.set (h : SW w sb s) (t : Nat) : SW (w.setCell ⟨sb, 0, none⟩ (.int .i64 (t : Int))) sb t :=
 ⟨World.cell?_setCell_same _ _ _ h.cell, by rw [World.frozen?_setCell]; exact h.froz⟩
end
abbrev KS (sb : Nat) (w w' : World) : Prop := Kept (fun j => j = sb) w w'
theorem order2_mem (d : Array Int) (a b s : Nat) : ((order2 ltInt d a b s).1 = a \/ (order2 ltInt d a b s).1 = b) /\ ((order2 ltInt d a b s).2.1 = a \/ (order2 ltInt d a b s).2.1 = b) /\ (order2 ltInt d a b s).2.2 <= s + 1 := by
 unfold order2; split <;> simp
theorem order2_any (g cap sb : Nat) (d : Array Int) (a b s : Nat) (w : World) (h : UR w g d) (hs : SW w sb s) (ha : a < d.size) (hb : b < d.size) (hs2 : s <= 1000) :
  Calls Tryz.prog 130 #[.slice (some ⟨g, 0, none⟩) d.size cap, .int .i64 (a : Int), .int .i64 (b : Int), .pointer (some ⟨sb, 0, none⟩)] w fun e w' => e = .returned (.tuple #[.int .i64 ((order2 ltInt d a b s).1 : Int), .int .i64 ((order2 ltInt d a b s).2.1 : Int)]) /\ SW w' sb (order2 ltInt d a b s).2.2 /\ KS sb w w' := by
 have cx := h.cell b hb
 have cy := h.cell a ha
 obtain ⟨x, hx⟩ : ∃ x, x = d[b]! := ⟨_, rfl⟩
 obtain ⟨y, hy⟩ : ∃ y, y = d[a]! := ⟨_, rfl⟩
 obtain ⟨n, hn⟩ : ∃ n, n = d.size := ⟨_, rfl⟩
 have ho : order2 ltInt d a b s = if decide (x < y) = true then (b, a, s + 1) else (a, b, s) := by rw [hx, hy]; rfl
 rw [<- hx] at cx
 rw [<- hy] at cy
 rw [<- hn] at ha hb ⊢
 rw [ho]
 have i1 : (a : Int) < (n : Int) := by omega
 have i2 : (b : Int) < (n : Int) := by omega
 have HK : Hid (∀ m, KS sb w (w.drewN m)) := fun m => Kept.of_below (below_drewN (Below.refl _ _) m) _
 have hc : ∀ m, (w.drewN m).cell? ⟨sb, 0, none⟩ = some (.int .i64 (s : Int)) := fun m => hs.cell
 have hf : ∀ m, (w.drewN m).frozen? ⟨sb, 0, none⟩ = false := fun m => hs.froz
 have HS : Hid (∀ m t, SW (w.drewN m) sb s /\ SW ((w.drewN m).setCell ⟨sb, 0, none⟩ (.int .i64 ((t : Nat) : Int))) sb t) := fun m t => ⟨⟨hs.cell, hs.froz⟩, SW.set (w := w.drewN m) ⟨hs.cell, hs.froz⟩ t⟩
 clear h hs hx hy hn ho
 by_cases hxy : x < y
 ·have hd : decide (x < y) = true := by simpa using hxy
  have w3 : IntKind.i64.wrap ((s : Int) + 1) = ((s + 1 : Nat) : Int) := by rw [IntKind.wrap_i64]; omega
  rw [if_pos hd]
  go_enter Tryz.func130, Tryz.ntmps130
  go_wp2_with fail
  go_quiet (first | (go_at_call 94; refine Calls.quiet_of_same (lessU_q _ _ _)))
  have c0 := hc nq
  have f0 := hf nq
  clear hc hf
  go_wp2
  refine bodyPost_ret (v := .tuple #[.int .i64 (b : Int), .int .i64 (a : Int)]) (by simp [results, Tryz.results130, go_sem]) rfl ⟨rfl, (HS.out _ (s + 1)).2, (HK.out _).trans (Kept.setCell _ ⟨sb, 0, none⟩ _ rfl)⟩
 ·have hd : decide (x < y) = false := by simpa using hxy
  rw [if_neg (by rw [hd]; decide)]
  go_enter Tryz.func130, Tryz.ntmps130
  go_wp2_with fail
  go_quiet (first | (go_at_call 94; refine Calls.quiet_of_same (lessU_q _ _ _)))
  clear hc hf
  go_wp2
  refine bodyPost_ret (v := .tuple #[.int .i64 (a : Int), .int .i64 (b : Int)]) (by simp [results, Tryz.results130, go_sem]) rfl ⟨rfl, (HS.out _ 0).1, HK.out _⟩
theorem median_mem (d : Array Int) (a b c s n : Nat) (ha : a < n) (hb : b < n) (hc : c < n) : (median ltInt d a b c s).1 < n /\ (median ltInt d a b c s).2 <= s + 3 := by
 have h1 := order2_mem d a b s
 have h2 := order2_mem d (order2 ltInt d a b s).2.1 c (order2 ltInt d a b s).2.2
 have h3 := order2_mem d (order2 ltInt d a b s).1 (order2 ltInt d (order2 ltInt d a b s).2.1 c (order2 ltInt d a b s).2.2).1 (order2 ltInt d (order2 ltInt d a b s).2.1 c (order2 ltInt d a b s).2.2).2.2
 show (order2 ltInt d (order2 ltInt d a b s).1 (order2 ltInt d (order2 ltInt d a b s).2.1 c (order2 ltInt d a b s).2.2).1 (order2 ltInt d (order2 ltInt d a b s).2.1 c (order2 ltInt d a b s).2.2).2.2).2.1 < n /\ (order2 ltInt d (order2 ltInt d a b s).1 (order2 ltInt d (order2 ltInt d a b s).2.1 c (order2 ltInt d a b s).2.2).1 (order2 ltInt d (order2 ltInt d a b s).2.1 c (order2 ltInt d a b s).2.2).2.2).2.2 <= s + 3
 omega
theorem median_any (g cap sb : Nat) (d : Array Int) (a b c s : Nat) (w : World) (h : UR w g d) (hs : SW w sb s) (hne : sb ≠ g) (ha : a < d.size) (hb : b < d.size) (hc : c < d.size) (hs2 : s <= 900) :
  Calls Tryz.prog 119 #[.slice (some ⟨g, 0, none⟩) d.size cap, .int .i64 (a : Int), .int .i64 (b : Int), .int .i64 (c : Int), .pointer (some ⟨sb, 0, none⟩)] w fun e w' => e = .returned (.int .i64 ((median ltInt d a b c s).1 : Int)) /\ SW w' sb (median ltInt d a b c s).2 /\ KS sb w w' := by
 have h0 := Lib.hid h
 have HM : Hid (median ltInt d a b c s = (let r1 := order2 ltInt d a b s; let r2 := order2 ltInt d r1.2.1 c r1.2.2; let r3 := order2 ltInt d r1.1 r2.1 r2.2.2; (r3.2.1, r3.2.2))) := rfl
 have m1 := order2_mem d a b s
 have H1 := Lib.hid (order2_any g cap sb d a b s w h hs ha hb (by omega))
 rw [HM.out]
 clear h hs HM
 obtain ⟨p1, hp1⟩ : ∃ p, p = order2 ltInt d a b s := ⟨_, rfl⟩
 rw [<- hp1] at H1 m1 ⊢
 obtain ⟨x1, y1, s1⟩ := p1
 clear hp1
 simp only at H1 m1 ⊢
 have m2 := order2_mem d y1 c s1
 have H2 : Hid (∀ W, KS sb w W -> SW W sb s1 -> _) := fun W hW hS => order2_any g cap sb d y1 c s1 W (h0.out.kept hW (fun e => hne e.symm)) hS (by omega) (by omega) (by omega)
 obtain ⟨p2, hp2⟩ : ∃ p, p = order2 ltInt d y1 c s1 := ⟨_, rfl⟩
 rw [<- hp2] at H2 m2 ⊢
 obtain ⟨x2, y2, s2⟩ := p2
 clear hp2
 simp only at H2 m2 ⊢
 have H3 : Hid (∀ W, KS sb w W -> SW W sb s2 -> _) := fun W hW hS => order2_any g cap sb d x1 x2 s2 W (h0.out.kept hW (fun e => hne e.symm)) hS (by omega) (by omega) (by omega)
 obtain ⟨p3, hp3⟩ : ∃ p, p = order2 ltInt d x1 x2 s2 := ⟨_, rfl⟩
 rw [<- hp3] at H3 ⊢
 obtain ⟨x3, y3, s3⟩ := p3
 clear hp3
 simp only at H3 ⊢
 clear m1 m2 ha hb hc
 go_enter Tryz.func119, Tryz.ntmps119
 go_wp2_with fail
 refine H1.out.mono ?_
 rintro e w1 ⟨rfl, hS1, hK1⟩
 have H2' := Lib.hid (H2.out w1 hK1 hS1)
 have K1 := Lib.hid hK1
 clear hS1 hK1 H1 H2
 go_wp2_with fail
 refine H2'.out.mono ?_
 rintro e w2 ⟨rfl, hS2, hK2⟩
 have H3' := Lib.hid (H3.out w2 (K1.out.trans hK2) hS2)
 have K2 := Lib.hid (K1.out.trans hK2)
 clear hS2 hK2 H2' H3 K1
 go_wp2_with fail
 refine H3'.out.mono ?_
 rintro e w3 ⟨rfl, hS3, hK3⟩
 have HF := Lib.hid (⟨hS3, K2.out.trans hK3⟩ : SW w3 sb s3 /\ KS sb w w3)
 clear hS3 hK3 H3' K2
 go_wp2
 go_ret
 exact ⟨rfl, HF.out⟩
theorem adj_any (g cap sb : Nat) (d : Array Int) (a s : Nat) (w : World) (h : UR w g d) (hs : SW w sb s) (hne : sb ≠ g) (ha : 0 < a) (hb : a + 1 < d.size) (hsz : d.size <= 1000000) (hs2 : s <= 900) :
  Calls Tryz.prog 118 #[.slice (some ⟨g, 0, none⟩) d.size cap, .int .i64 (a : Int), .pointer (some ⟨sb, 0, none⟩)] w fun e w' => e = .returned (.int .i64 ((medianAdjacent ltInt d a s).1 : Int)) /\ SW w' sb (medianAdjacent ltInt d a s).2 /\ KS sb w w' := by
 have H := Lib.hid (median_any g cap sb d (a - 1) a (a + 1) s w h hs hne (by omega) (by omega) hb hs2)
 have e : medianAdjacent ltInt d a s = median ltInt d (a - 1) a (a + 1) s := rfl
 have w1 : IntKind.i64.wrap ((a : Int) - 1) = ((a - 1 : Nat) : Int) := by rw [IntKind.wrap_i64]; omega
 have w2 : IntKind.i64.wrap ((a : Int) + 1) = ((a + 1 : Nat) : Int) := by rw [IntKind.wrap_i64]; omega
 rw [e]
 clear h hs e
 go_enter Tryz.func118, Tryz.ntmps118
 go_wp2_with fail
 refine H.out.mono ?_
 rintro e w1 ⟨rfl, hS⟩
 have HF := Lib.hid hS
 clear hS H
 go_wp2
 go_ret
 exact ⟨rfl, HF.out⟩
def hintV : Hint -> Int
 | .unknown => 0
 | .increasing => 1
 | .decreasing => 2
def hintS (s : Nat) : Hint := if s = 0 then .increasing else if s = 12 then .decreasing else .unknown
theorem adj_mem (d : Array Int) (a s n : Nat) (ha : a + 1 < n) : (medianAdjacent ltInt d a s).1 < n /\ (medianAdjacent ltInt d a s).2 <= s + 3 := median_mem d (a - 1) a (a + 1) s n (by omega) (by omega) ha
theorem pivot_any (g cap : Nat) (d : Array Int) (a b : Nat) (w : World) (h : UR w g d) (hab : a + 8 <= b) (hb : b <= d.size) (hsz : d.size <= 1000000) :
  Calls Tryz.prog 91 #[.slice (some ⟨g, 0, none⟩) d.size cap, .int .i64 (a : Int), .int .i64 (b : Int)] w fun e w' => e = .returned (.tuple #[.int .i64 ((choosePivot ltInt d a b).1 : Int), .int .i64 (hintV (choosePivot ltInt d a b).2)]) /\ Below w.heap.size w w' := by
 have h0 := Lib.hid h
 have gl := h.lt
 obtain ⟨l, hl⟩ : ∃ l, l = b - a := ⟨_, rfl⟩
 obtain ⟨i, hi⟩ : ∃ i, i = a + l / 4 * 1 := ⟨_, rfl⟩
 obtain ⟨j, hj⟩ : ∃ j, j = a + l / 4 * 2 := ⟨_, rfl⟩
 obtain ⟨k, hk⟩ : ∃ k, k = a + l / 4 * 3 := ⟨_, rfl⟩
 have HP : Hid (choosePivot ltInt d a b = (let r : Nat × Nat := if l ≥ 8 then (if l ≥ 50 then (let ri := medianAdjacent ltInt d i 0; let rj := medianAdjacent ltInt d j ri.2; let rk := medianAdjacent ltInt d k rj.2; median ltInt d ri.1 rj.1 rk.1 rk.2) else median ltInt d i j k 0) else (j, 0); (r.1, hintS r.2))) := by
  subst hi hj hk hl; rfl
 have w1 : IntKind.i64.wrap ((b : Int) - (a : Int)) = (l : Int) := by rw [IntKind.wrap_i64]; omega
 have e1 : (a : Int) + (l : Int) / 4 = (i : Int) := by omega
 have e2 : (a : Int) + (l : Int) / 4 * 2 = (j : Int) := by omega
 have e3 : (a : Int) + (l : Int) / 4 * 3 = (k : Int) := by omega
 have l8 : l ≥ 8 := by omega
 have bi : i < d.size /\ i + 1 < j /\ 0 < i := by omega
 have bj : j + 1 < k := by omega
 have bk : k + 1 < d.size := by omega
 have hb2 : l <= 1000000 := by omega
 have ha2 : a <= 1000000 := by omega
 have hbox := below_new w (.cells #[.int .i64 0] 3)
 have hU1 := Lib.hid (h.kept (Kept.of_below hbox (fun _ => False)) (fun h => h))
 have hS1 : SW (w.alloc (.cells #[.int .i64 0] 3)) w.heap.size 0 := ⟨by simp, by simp⟩
 have hne : w.heap.size ≠ g := by omega
 have HB := Lib.hid hbox
 have HI := Lib.hid hi
 have HL := Lib.hid hl
 rw [HP.out, if_pos l8]
 clear h hi hj hk hl hbox HP
 generalize hW : w.alloc (.cells #[.int .i64 0] 3) = W at *
 by_cases l50 : l ≥ 50
 ·rw [if_pos l50]
  have m1 := adj_mem d i 0 d.size (by omega)
  have H1 := Lib.hid (adj_any g cap w.heap.size d i 0 W hU1.out hS1 hne (by omega) (by omega) hsz (by omega))
  obtain ⟨p1, hp1⟩ : ∃ p, p = medianAdjacent ltInt d i 0 := ⟨_, rfl⟩
  rw [<- hp1] at H1 m1 ⊢
  obtain ⟨x1, s1⟩ := p1
  clear hp1
  simp only at H1 m1 ⊢
  have m2 := adj_mem d j s1 d.size (by omega)
  have H2 : Hid (∀ X, KS w.heap.size W X -> SW X w.heap.size s1 -> _) := fun X hX hS => adj_any g cap w.heap.size d j s1 X (hU1.out.kept hX (fun e => hne e.symm)) hS hne (by omega) (by omega) hsz (by omega)
  obtain ⟨p2, hp2⟩ : ∃ p, p = medianAdjacent ltInt d j s1 := ⟨_, rfl⟩
  rw [<- hp2] at H2 m2 ⊢
  obtain ⟨x2, s2⟩ := p2
  clear hp2
  simp only at H2 m2 ⊢
  have m3 := adj_mem d k s2 d.size (by omega)
  have H3 : Hid (∀ X, KS w.heap.size W X -> SW X w.heap.size s2 -> _) := fun X hX hS => adj_any g cap w.heap.size d k s2 X (hU1.out.kept hX (fun e => hne e.symm)) hS hne (by omega) (by omega) hsz (by omega)
  obtain ⟨p3, hp3⟩ : ∃ p, p = medianAdjacent ltInt d k s2 := ⟨_, rfl⟩
  rw [<- hp3] at H3 m3 ⊢
  obtain ⟨x3, s3⟩ := p3
  clear hp3
  simp only at H3 m3 ⊢
  have hm := median_mem d x1 x2 x3 s3 d.size m1.1 m2.1 m3.1
  have H4 : Hid (∀ X, KS w.heap.size W X -> SW X w.heap.size s3 -> _) := fun X hX hS => median_any g cap w.heap.size d x1 x2 x3 s3 X (hU1.out.kept hX (fun e => hne e.symm)) hS hne m1.1 m2.1 m3.1 (by omega)
  obtain ⟨p4, hp4⟩ : ∃ p, p = median ltInt d x1 x2 x3 s3 := ⟨_, rfl⟩
  rw [<- hp4] at H4 hm ⊢
  obtain ⟨x, s⟩ := p4
  clear hp4
  simp only at H4 hm ⊢
  have i50 : (50 : Int) <= (l : Int) := by omega
  have i8 : (8 : Int) <= (l : Int) := by omega
  go_enter Tryz.func91, Tryz.ntmps91
  go_wp2_with fail
  refine H1.out.mono ?_
  rintro e w2 ⟨rfl, hS1, hK1⟩
  have H2' := Lib.hid (H2.out w2 hK1 hS1)
  have K1 := Lib.hid hK1
  clear hS1 hK1 H1 H2
  go_wp2_with fail
  refine H2'.out.mono ?_
  rintro e w3 ⟨rfl, hS2, hK2⟩
  have H3' := Lib.hid (H3.out w3 (K1.out.trans hK2) hS2)
  have K2 := Lib.hid (K1.out.trans hK2)
  clear hS2 hK2 H2' H3 K1
  go_wp2_with fail
  refine H3'.out.mono ?_
  rintro e w4 ⟨rfl, hS3, hK3⟩
  have H4' := Lib.hid (H4.out w4 (K2.out.trans hK3) hS3)
  have K3 := Lib.hid (K2.out.trans hK3)
  clear hS3 hK3 H3' H4 K2
  go_wp2_with fail
  refine H4'.out.mono ?_
  rintro e w5 ⟨rfl, hS4, hK4⟩
  have cs := hS4.cell
  have HBF := Lib.hid ((HB.out.trans (((K3.out.trans hK4).below (B := w.heap.size) (by have := HB.out.size; omega) (fun i h => by omega)))) : Below w.heap.size w w5)
  clear hS4 hK4 H4' K3
  have HSS := Lib.hid hm
  by_cases h0s : s = 0
  ·subst h0s
   have cs2 : w5.cell? ⟨w.heap.size, 0, none⟩ = some (.int .i64 0) := cs
   clear cs
   go_wp2
   refine bodyPost_ret (v := .tuple #[.int .i64 (x : Int), .int .i64 1]) (by simp [results, Tryz.results91, go_sem]) rfl ⟨rfl, HBF.out⟩
  by_cases h12 : s = 12
  ·subst h12
   have cs2 : w5.cell? ⟨w.heap.size, 0, none⟩ = some (.int .i64 12) := cs
   clear cs
   go_wp2
   refine bodyPost_ret (v := .tuple #[.int .i64 (x : Int), .int .i64 2]) (by simp [results, Tryz.results91, go_sem]) rfl ⟨rfl, HBF.out⟩
  ·have n0 : (((s : Int)) == 0) = false := by rw [beq_eq_false_iff_ne]; omega
   have n12 : (((s : Int)) == 12) = false := by rw [beq_eq_false_iff_ne]; omega
   have eh : hintS s = .unknown := by unfold hintS; rw [if_neg h0s, if_neg h12]
   go_wp2
   refine bodyPost_ret (v := .tuple #[.int .i64 (x : Int), .int .i64 0]) (by simp [results, Tryz.results91, go_sem]) rfl ⟨by rw [eh]; rfl, HBF.out⟩
 ·rw [if_neg l50]
  have i50 : ¬ (50 : Int) <= (l : Int) := by omega
  have i8 : (8 : Int) <= (l : Int) := by omega
  have H := Lib.hid (median_any g cap w.heap.size d i j k 0 W hU1.out hS1 hne (by omega) (by omega) (by omega) (by omega))
  have hm := median_mem d i j k 0 d.size (by omega) (by omega) (by omega)
  obtain ⟨p, hp⟩ : ∃ p, p = median ltInt d i j k 0 := ⟨_, rfl⟩
  rw [<- hp] at H hm ⊢
  obtain ⟨x, s⟩ := p
  clear hp
  simp only at H hm ⊢
  go_enter Tryz.func91, Tryz.ntmps91
  go_wp2_with fail
  refine H.out.mono ?_
  rintro e w2 ⟨rfl, hS2, hK2⟩
  have cs := hS2.cell
  have HB2 := Lib.hid ((HB.out.trans ((hK2.below (B := w.heap.size) (by have := HB.out.size; omega) (fun i h => by omega)))) : Below w.heap.size w w2)
  clear hS2 hK2 H
  have HBF := HB2
  have HSS := Lib.hid hm
  by_cases h0s : s = 0
  ·subst h0s
   have cs2 : w2.cell? ⟨w.heap.size, 0, none⟩ = some (.int .i64 0) := cs
   clear cs
   go_wp2
   refine bodyPost_ret (v := .tuple #[.int .i64 (x : Int), .int .i64 1]) (by simp [results, Tryz.results91, go_sem]) rfl ⟨rfl, HBF.out⟩
  by_cases h12 : s = 12
  ·subst h12
   have cs2 : w2.cell? ⟨w.heap.size, 0, none⟩ = some (.int .i64 12) := cs
   clear cs
   go_wp2
   refine bodyPost_ret (v := .tuple #[.int .i64 (x : Int), .int .i64 2]) (by simp [results, Tryz.results91, go_sem]) rfl ⟨rfl, HBF.out⟩
  ·have n0 : (((s : Int)) == 0) = false := by rw [beq_eq_false_iff_ne]; omega
   have n12 : (((s : Int)) == 12) = false := by rw [beq_eq_false_iff_ne]; omega
   have eh : hintS s = .unknown := by unfold hintS; rw [if_neg h0s, if_neg h12]
   go_wp2
   refine bodyPost_ret (v := .tuple #[.int .i64 (x : Int), .int .i64 0]) (by simp [results, Tryz.results91, go_sem]) rfl ⟨by rw [eh]; rfl, HBF.out⟩
end Go.Proofs.YtbklgjmkdhinpaaGreatDoor.Sr
