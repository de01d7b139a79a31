/- RangeParses: the law's walk. -/
import Derived.Test.YthpeifkiaodokaaGreatDoorSvRTxt
import Derived.Test.YthpeifkiaodokaaGreatDoorSvRParW
namespace Go.Proofs.YthpeifkiaodokaaGreatDoor
open Go.RowKit Go.Shelf Sv

theorem rangeF_err {s : ByteArray} {k : Int} {i : Nat} (h : rangeF s = .error (k, i)) : k ≠ 0 := by
  unfold rangeF at h
  have pe : ∀ {t : ByteArray} {p : Nat} {k : Int} {i : Nat}, pieceF t p = .error (k, i) → k ≠ 0 := by
    intro t p k i h
    unfold pieceF at h
    have we : ∀ {l : List (Nat × ByteArray)} {st : List Span × Nat} {k : Int} {i : Nat}, wordsF l st = .error (k, i) → k ≠ 0 := by
      intro l
      induction l with
      | nil => intro st k i h; cases h
      | cons x l ih =>
        intro st k i h
        unfold wordsF at h
        split at h
        · exact ih h
        · split at h
          · rename_i hw; cases h; exact wordF_err hw
          · exact ih h
    split at h
    · rename_i hw; cases h; exact we hw
    · split at h
      · cases h; decide
      · cases h
  have go : ∀ {l : List (Nat × ByteArray)} {acc : List Span} {k : Int} {i : Nat}, piecesF l acc = .error (k, i) → k ≠ 0 := by
    intro l
    induction l with
    | nil => intro acc k i h; cases h
    | cons x l ih =>
      intro acc k i h
      unfold piecesF at h
      split at h
      · rename_i hp; cases h; exact pe hp
      · exact ih h
  exact go h

/-- ParseRange's answer as one form: a range, and an error as Tell and Place read it. -/
theorem range_form (s : ByteArray) (W : World) (hs : s.size ≤ 1000) (hw : Lb W) : Calls Tryz.prog 13 #[.string s] W fun e w' => ∃ (l : List Span) (a : Option Addr) (c : Nat) (er : Value) (k p : Int), e = .returned (.tuple #[.agg #[.slice a l.length c], er]) ∧ SpAt w' (.slice a l.length c) l ∧ Rg l ∧ ErrIs w' er k p ∧ Below W.heap.size W w' ∧ (match rangeF s with
    | .ok m => l = m ∧ k = 0 ∧ p = -1
    | .error (q, i) => l = [] ∧ k = q ∧ p = (i : Int)) := (range_any s W hs hw).mono fun e w' h => by
  unfold RgAtErr at h
  cases hx : rangeF s with
  | ok l =>
    rw [hx] at h
    obtain ⟨v', he, h1, h2, h3⟩ := h
    obtain ⟨a', c', rfl⟩ := h1.form
    exact ⟨l, a', c', _, 0, -1, he, h1, rangeF_rg hx, Or.inl ⟨rfl, rfl, rfl⟩, h3, rfl, rfl, rfl⟩
  | error q =>
    obtain ⟨k, i⟩ := q
    rw [hx] at h
    obtain ⟨N, he, h1, h2, h3⟩ := h
    exact ⟨[], none, 0, _, k, (i : Int), he, spAt_nil _, rg_nil, Or.inr (Or.inr ⟨rangeF_err hx, N, h1.lt, rfl, h1.cell 0, h1.cell 1⟩), h3, rfl, rfl, rfl⟩

set_option maxRecDepth 100000 in
set_option maxHeartbeats 2000000 in
theorem range_longR (s : ByteArray) (w : World) (hs : 1000 < s.size) :
    Calls Tryz.prog 13 #[.string s] w fun e w' => e = .returned (.tuple #[.agg #[.slice none 0 0], .iface 24 (.int .i64 4)]) ∧ Below w.heap.size w w' := by
  have hl : (1000 : Int) < (s.size : Int) := by omega
  generalize hn : (s.size : Int) = n at *
  clear hs
  go_enter Tryz.func13, Tryz.ntmps13
  go_wp2
  have k0 := ((Blk.new w 31 #[.slice none 0 0]).alloc (.cells #[.iface 24 (.int .i64 4)] 33))
  have k1 := (Blk.new (w.alloc (.cells #[.slice none 0 0] 31)) 33 #[.iface 24 (.int .i64 4)])
  rw [World.size_alloc] at k1
  have hB : Below w.heap.size w ((w.alloc (.cells #[.slice none 0 0] 31)).alloc (.cells #[.iface 24 (.int .i64 4)] 33)) := ((Below.refl _ w).alloc (Nat.le_refl _) _).alloc (by simp only [World.size_alloc]; omega) _
  generalize (w.alloc (.cells #[.slice none 0 0] 31)).alloc (.cells #[.iface 24 (.int .i64 4)] 33) = WF at *
  have r0 := k0.cell 0
  have r3 := k1.cell 0
  refine bodyPost_ret (v := .tuple #[.agg #[.slice none 0 0], .iface 24 (.int .i64 4)]) (by simp [results, Tryz.f13, go_sem, r0, r3]) rfl ?_
  exact ⟨rfl, hB⟩

/-- Both answers to a text, by the same letters. -/
theorem range_both (s : ByteArray) (hs : s.size ≤ 100000) : ∃ (l : List Span) (k p : Int), Rg l ∧ (k ≠ 0 → l = []) ∧
    (∀ W, Lb W → Calls Tryz.prog 13 #[.string s] W fun e w' => ∃ (a : Option Addr) (c : Nat) (er : Value), e = .returned (.tuple #[.agg #[.slice a l.length c], er]) ∧ SpAt w' (.slice a l.length c) l ∧ ErrIs w' er k p ∧ Below W.heap.size W w') ∧
    (∀ W, Lb W → FineR W → Calls Tryz.prog 12 #[.string s] W fun e w' => ∃ (a : Option Addr) (c : Nat), e = .returned (.tuple #[.slice a (tp l).length c, .agg #[.int .i64 k, .int .i64 p]]) ∧ NsAt w' (.slice a (tp l).length c) (tp l) ∧ Below W.heap.size W w') ∧
    (rangeF s = .ok l ∧ s.size ≤ 1000 ∧ k = 0 ∨ k ≠ 0 ∧ ∀ m, s.size ≤ 1000 → rangeF s ≠ .ok m) := by
  by_cases h : s.size ≤ 1000
  · cases hx : rangeF s with
    | ok l =>
      refine ⟨l, 0, -1, rangeF_rg hx, fun h => absurd rfl h, fun W hw => (range_form s W h hw).mono fun e w' hh => ?_, fun W hw hF => (rrange_any s W h hw hF).mono fun e w' hh => ?_, Or.inl ⟨rfl, h, rfl⟩⟩
      · rw [hx] at hh
        obtain ⟨l', a, c, er, k, p, he, h1, -, h3, h4, rfl, rfl, rfl⟩ := hh
        exact ⟨a, c, er, he, h1, h3, h4⟩
      · rw [hx] at hh
        obtain ⟨m, a, c, k, p, he, h1, -, h4, rfl, rfl, rfl⟩ := hh
        exact ⟨a, c, he, h1, h4⟩
    | error q =>
      obtain ⟨k, i⟩ := q
      refine ⟨[], k, (i : Int), rg_nil, fun _ => rfl, fun W hw => (range_form s W h hw).mono fun e w' hh => ?_, fun W hw hF => (rrange_any s W h hw hF).mono fun e w' hh => ?_, Or.inr ⟨rangeF_err hx, fun m _ e => by cases e⟩⟩
      · rw [hx] at hh
        obtain ⟨l', a, c, er, k, p, he, h1, -, h3, h4, rfl, rfl, rfl⟩ := hh
        exact ⟨a, c, er, he, h1, h3, h4⟩
      · rw [hx] at hh
        obtain ⟨m, a, c, k, p, he, h1, -, h4, rfl, rfl, rfl⟩ := hh
        exact ⟨a, c, he, h1, h4⟩
  · refine ⟨[], 4, -1, rg_nil, fun _ => rfl, fun W _ => (range_longR s W (by omega)).mono fun e w' ⟨he, hb⟩ => ⟨none, 0, _, he, spAt_nil _, Or.inr (Or.inl ⟨by decide, rfl, rfl⟩), hb⟩, fun W _ _ => (rrange_long s W h).mono fun e w' ⟨he, hb⟩ => ⟨none, 0, he, nsAt_nil _, hb⟩, Or.inr ⟨by decide, fun m h' => absurd h' h⟩⟩

set_option maxRecDepth 100000 in
set_option maxHeartbeats 1000000 in
theorem rparses_long (s : ByteArray) (w : World) (h : ¬ s.size ≤ 1100) : Calls Tryz.prog 3 #[.string s] w fun r w' => r = .returned (.bool true) ∧ Below w.heap.size w w' := by
  have h1 : (1100 : Int) < (s.size : Int) := by omega
  clear h
  go_enter Tryz.func3, Tryz.ntmps3
  go_wp2
  go_ret
  exact ⟨rfl, Below.refl _ _⟩

set_option maxRecDepth 100000 in
set_option maxHeartbeats 2000000 in
theorem rparses_short (s : ByteArray) (w : World) (hw : Lb w) (hF : FineR w) (h : s.size ≤ 1100) : Calls Tryz.prog 3 #[.string s] w fun r w' => r = .returned (.bool true) ∧ Below w.heap.size w w' := by
  have h1 : ¬ (1100 : Int) < (s.size : Int) := by omega
  obtain ⟨l, k, p, hl, hkl, HP0, HQ0, -⟩ := range_both s (by omega)
  have HP := Lib.hid (fun W (hb : Below w.heap.size w W) => HP0 W (hw.below hb))
  have HQ := Lib.hid (HQ0 w hw hF)
  have HAT := Lib.hid (fun (er : Value) (W : World) (hb : Below w.heap.size w W) (he : ErrIs W er k p) => at_any k k p p er W (hw.below hb).glob he)
  have HTX := Lib.hid (fun (v : Value) (W : World) (hb : Below w.heap.size w W) (hv : SpAt W v l) => ptext_any l hl v W (hw.below hb) hv)
  have HRX := Lib.hid (fun (v : Value) (W : World) (hb : Below w.heap.size w W) (hv : NsAt W v (tp l)) => rgtext_any l hl v W (hw.below hb) hv)
  have HEM := Lib.hid (fun (v : Value) (W : World) (hv : SpAt W v l) => empty_any l v W hv)
  have HKL := Lib.hid hkl
  have htp : ((tp l).length : Int) = 0 ↔ l = [] := by
    rw [tp_len]
    constructor
    · intro e; exact List.length_eq_zero_iff.1 (by omega)
    · intro e; rw [e]; rfl
  have HTP : Hid ((((tp l).length : Int) == 0) = decide (l = [])) := by
    show _ = _
    rw [Bool.eq_iff_iff, beq_iff_eq, decide_eq_true_iff]; exact htp
  clear HP0 HQ0 hw hF hkl hl h htp
  generalize (⟨(rgT l).toArray⟩ : ByteArray) = RT at *
  go_enter Tryz.func3, Tryz.ntmps3
  go_wp2_with fail
  refine HQ.out.mono ?_
  rintro e w1 ⟨ra, rc, rfl, n1, hb1⟩
  have kf := Blk.new w1 26 #[.int .i64 k, .int .i64 p]
  have hA1 : Below w1.heap.size w1 (w1.alloc (.cells #[.int .i64 k, .int .i64 p] 26)) := (Below.refl _ _).alloc (Nat.le_refl _) _
  have HB1 : Hid (Below w.heap.size w (w1.alloc (.cells #[.int .i64 k, .int .i64 p] 26))) := hb1.trans (hA1.mono hb1.size)
  have HN1 := Lib.hid (n1.below hA1 (Nat.le_refl _))
  have HKF := Lib.hid kf
  clear hb1 n1 hA1 kf HQ
  go_wp2_with fail
  generalize w1.alloc (.cells #[.int .i64 k, .int .i64 p] 26) = W1 at *
  refine (HP.out _ HB1.out).mono ?_
  rintro e w2 ⟨pa, pc, er, rfl, s2, e2, hb2⟩
  have kr := Blk.new w2 31 #[.slice pa l.length pc]
  have hA2 : Below w2.heap.size w2 (w2.alloc (.cells #[.slice pa l.length pc] 31)) := (Below.refl _ _).alloc (Nat.le_refl _) _
  have hB12 : Below W1.heap.size W1 (w2.alloc (.cells #[.slice pa l.length pc] 31)) := hb2.trans (hA2.mono hb2.size)
  have HB2 : Hid (Below w.heap.size w (w2.alloc (.cells #[.slice pa l.length pc] 31))) := HB1.out.trans (hB12.mono HB1.out.size)
  have HN2 := Lib.hid (HN1.out.below hB12 (Nat.le_refl _))
  have HS2 := Lib.hid (s2.below hA2 (Nat.le_refl _))
  have HE2 := Lib.hid (e2.below hA2)
  have HKF2 := Lib.hid (HKF.out.below hB12 HKF.out.lt)
  have HKR := Lib.hid kr
  have hlt : w1.heap.size < w2.heap.size := Nat.lt_of_lt_of_le HKF.out.lt hb2.size
  clear hb2 s2 e2 hA2 hB12 kr HP HN1 HKF HB1
  have f0 : (w2.alloc (.cells #[.slice pa l.length pc] 31)).cell? ⟨w1.heap.size, 0, none⟩ = some (.int .i64 k) := HKF2.out.cell 0
  have f1 : (w2.alloc (.cells #[.slice pa l.length pc] 31)).cell? ⟨w1.heap.size, 1, none⟩ = some (.int .i64 p) := HKF2.out.cell 1
  go_wp2_with fail
  generalize w2.alloc (.cells #[.slice pa l.length pc] 31) = W2 at *
  refine (HAT.out _ _ HB2.out HE2.out).mono ?_
  rintro e w3 ⟨rfl, hb3⟩
  have HB3 : Hid (Below w.heap.size w w3) := HB2.out.trans (hb3.mono HB2.out.size)
  have HN3 := Lib.hid (HN2.out.below hb3 (Nat.le_refl _))
  have HS3 := Lib.hid (HS2.out.below hb3 (Nat.le_refl _))
  have k3 := HKF2.out.below hb3 HKF2.out.lt
  have r3 := HKR.out.below hb3 HKR.out.lt
  have g0 : w3.cell? ⟨w1.heap.size, 0, none⟩ = some (.int .i64 k) := k3.cell 0
  have c0 : w3.cell? ⟨w2.heap.size, 0, none⟩ = some (.slice pa l.length pc) := r3.cell 0
  have HR3 := Lib.hid r3
  have hkk : (k == k && p == p) = true := by simp
  rw [hkk]
  clear hb3 HN2 HS2 HKF2 HKR k3 r3 HAT HE2 HB2 f0 f1 hkk
  by_cases hk : k = 0
  · subst hk
    clear HKL
    go_wp2_with fail
    refine (HTX.out _ _ HB3.out HS3.out).mono ?_
    rintro e w4 ⟨rfl, hb4⟩
    have HB4 : Hid (Below w.heap.size w w4) := HB3.out.trans (hb4.mono HB3.out.size)
    have HN4 := Lib.hid (HN3.out.below hb4 (Nat.le_refl _))
    have HS4 := Lib.hid (HS3.out.below hb4 (Nat.le_refl _))
    have HR4 := Lib.hid (HR3.out.below hb4 HR3.out.lt)
    clear hb4 HTX HN3 HS3 HR3 c0 g0
    go_wp2_with fail
    refine (HRX.out _ _ HB4.out HN4.out).mono ?_
    rintro e w5 ⟨rfl, hb5⟩
    have HB5 : Hid (Below w.heap.size w w5) := HB4.out.trans (hb5.mono HB4.out.size)
    have HS5 := Lib.hid (HS4.out.below hb5 (Nat.le_refl _))
    have r5 := HR4.out.below hb5 HR4.out.lt
    have c5 : w5.cell? ⟨w2.heap.size, 0, none⟩ = some (.slice pa l.length pc) := r5.cell 0
    clear hb5 HRX HN4 HS4 HR4 r5
    go_wp2_with fail
    refine (HEM.out _ _ HS5.out).mono ?_
    rintro e w6 ⟨rfl, hb6⟩
    have HB6 : Hid (Below w.heap.size w w6) := HB5.out.trans (hb6.mono HB5.out.size)
    have htp := HTP.out
    clear hb6 HEM HS5 c5 HTP
    generalize decide (l = []) = D at *
    go_wp2
    go_ret
    exact ⟨by simp, HB6.out⟩
  · have hk' : (k != 0) = true := by simpa using hk
    have hl0 := HKL.out hk
    have HE3 := Lib.hid (HEM.out _ _ HS3.out)
    rw [decide_eq_true hl0] at HE3
    clear hk hl0 HKL HEM
    go_wp2_with fail
    refine HE3.out.mono ?_
    rintro e w4 ⟨rfl, hb4⟩
    have HB4 : Hid (Below w.heap.size w w4) := HB3.out.trans (hb4.mono HB3.out.size)
    clear hb4
    go_wp2
    go_ret
    exact ⟨rfl, HB4.out⟩
theorem rparses_any (s : ByteArray) (w : World) (hw : Lb w) (hF : FineR w) : Calls Tryz.prog 3 #[.string s] w fun r w' => r = .returned (.bool true) ∧ Below w.heap.size w w' := by
  by_cases h : s.size ≤ 1100
  · exact rparses_short s w hw hF h
  · exact rparses_long s w h
end Go.Proofs.YthpeifkiaodokaaGreatDoor
