/- The walk through NatParses, where the text is a number; and the whole. -/
import Derived.Test.YtfangnjdfmaaoaaDoorParsesWalk
namespace Go.Proofs.YtfangnjdfmaaoaaDoor
open Go.RowKit Num Go.Sort Go.PlainAid

theorem pre_bound {s : ByteArray} (hok : OkText s) (hs : s.size ≤ 100) : pre s s.size < 4294967296 ^ 1000 :=
  Nat.lt_trans (Nat.lt_of_lt_of_le (pre_lt s hok.digits s.size (Nat.le_refl _)) (Nat.pow_le_pow_right (by omega) hs)) (Nat.lt_trans (Nat.pow_lt_pow_right (by omega) (by omega : 100 < 101)) ten_lt)

set_option maxRecDepth 100000 in
set_option maxHeartbeats 2000000 in
theorem parses_ok (s : ByteArray) (w : World) (hs : s.size ≤ 100) (hok : OkText s) (ht : Tab w) :
    Calls Tryd.prog 3 #[.string s] w fun e w' => e = .returned (.bool true) ∧ Below w.heap.size w w' := by
  have HR : ∀ W, Calls Tryd.prog 7 #[.string s] W fun e w' => ∃ b, e = .returned (.tuple #[.pointer (some ⟨b, 0, none⟩), .int .i64 0]) ∧ IntIs w' b (pre s s.size) ∧ Below W.heap.size W w' := fun W => (ref_any s W (by omega)).mono fun e w' ⟨_, _, h, hb⟩ => by
    obtain ⟨b, he, hI⟩ := h hok hs
    exact ⟨b, he, hI, hb⟩
  have HP := fun W => parse_nat s W hs hok
  have HTX : ∀ (va : Value) (W : World), NatIs W va (pre s s.size) 12 → Tab W → Calls Tryd.prog 14 #[.agg #[va]] W fun e w' => e = .returned (.string s) ∧ Below W.heap.size W w' := fun va W h1 h2 => text_same hok h1 (by omega) h2
  have hn := pre_bound hok hs
  have H1 := Lib.hid HR
  have H2 := Lib.hid HP
  have H3 := Lib.hid HTX
  have HT : Hid (Tab w) := ht
  have HN : Hid (pre s s.size < 4294967296 ^ 1000) := hn
  clear HR HP HTX ht hok hn
  generalize pre s s.size = n at *
  go_enter Tryd.func3, Tryd.ntmps3
  go_wp2_with fail
  refine (H1.out _).mono ?_
  rintro e w1 ⟨b, rfl, hI1, hb1⟩
  have hs1 := hb1.size
  go_wp2_with fail
  refine (H2.out _).mono ?_
  rintro e w2 ⟨v, rfl, hn2, hb2⟩
  obtain ⟨a, k, c, rfl⟩ := hn2.form
  have hb2' := hb1.trans (hb2.mono hs1)
  have ba := (Below.refl w2.heap.size w2).alloc (Nat.le_refl _) (.cells #[.slice a k c] 28)
  have hb3 := hb2'.trans (ba.mono hb2'.size)
  have hI3 := (hI1.below hb2).below ba
  have hn3 := hn2.below ba
  have q3 := cell1_0 w2 (.slice a k c) 28
  have z3 : w2.heap.size < (w2.alloc (.cells #[.slice a k c] 28)).heap.size := by simp
  obtain ⟨W, hWe⟩ : ∃ W : World, W = w2.alloc (.cells #[.slice a k c] 28) := ⟨_, rfl⟩
  go_wp2_with fail
  rw [← hWe] at hb3 hI3 hn3 q3 z3 ⊢
  have hT3 := HT.out.below hb3
  clear hWe hb1 hb2 hb2' ba hI1 hn2 H1 H2 HT hs1
  refine (fits_nat hn3 (by omega)).mono ?_
  rintro e w4 ⟨hy, hno, hb4⟩
  have hI4 := hI3.below hb4
  have hn4 := hn3.below hb4
  have hT4 := hT3.below hb4
  have q4 : w4.cell? ⟨w2.heap.size, 0, none⟩ = some (.slice a k c) := (hb4.cell (p := ⟨w2.heap.size, 0, none⟩) z3).trans q3
  have hB4 := hb3.trans (hb4.mono hb3.size)
  have z4 : w2.heap.size < w4.heap.size := Nat.lt_of_lt_of_le z3 hb4.size
  clear hb3 hI3 hn3 q3 z3 hT3 hb4
  have HI64 := isInt64_any b n w4 hI4 HN.out
  have HTXT := H3.out (.slice a k c) w4 hn4 hT4
  have HINT := fun h => int64_any b n w4 hI4 h
  have HSGN : ∀ X, Below w4.heap.size w4 X → Calls Tryd.prog 15 #[.pointer (some ⟨b, 0, none⟩)] X fun e w' => e = .returned (.int .i64 (if n = 0 then 0 else 1)) ∧ X = w' := fun X h => sign_any b n X (hI4.below h) HN.out
  have HZER : ∀ X, Below w4.heap.size w4 X → Calls Tryd.prog 10 #[.agg #[.slice a k c]] X fun e w' => e = .returned (.bool (decide (n = 0))) ∧ Below X.heap.size X w' := fun X h => zero_nat (hn4.below h) (by omega)
  have HI := Lib.hid HINT
  have HS := Lib.hid HSGN
  have HZ := Lib.hid HZER
  clear HINT HSGN HZER hI4 hn4 hT4 H3 HN
  by_cases hbig : n ≤ 9223372036854775807
  · have he := hy hbig
    subst he
    have hd : decide (n < 9223372036854775808) = true := by simp; omega
    rw [hd] at HI64
    clear hy hno hd
    go_wp2_with fail
    refine HI64.mono ?_
    rintro e w5 ⟨rfl, rfl⟩
    clear HI64
    go_wp2_with fail
    refine (HI.out (by omega)).mono ?_
    rintro e w5 ⟨rfl, rfl⟩
    go_wp2_with fail
    refine HTXT.mono ?_
    rintro e w6 ⟨rfl, hb6⟩
    have q6 : w6.cell? ⟨w2.heap.size, 0, none⟩ = some (.slice a k c) := (hb6.cell (p := ⟨w2.heap.size, 0, none⟩) z4).trans q4
    clear HTXT
    go_wp2_with fail
    refine (HZ.out _ hb6).mono ?_
    rintro e w7 ⟨rfl, hb7⟩
    have hB7 := hb6.trans (hb7.mono hb6.size)
    have hBw := hB4.trans (hB7.mono hB4.size)
    go_wp2_with fail
    refine (HS.out _ hB7).mono ?_
    rintro e w8 ⟨rfl, rfl⟩
    clear HS HZ HI
    by_cases hn0 : n = 0
    · subst hn0
      go_wp2
      go_ret
      exact ⟨rfl, hBw⟩
    · rw [if_neg hn0]
      have hd0 : decide (n = 0) = false := by simp [hn0]
      rw [hd0]
      clear hd0 hn0
      go_wp2
      go_ret
      exact ⟨rfl, hBw⟩
  · have he := hno (by omega)
    subst he
    have hd : decide (n < 9223372036854775808) = false := by simp; omega
    rw [hd] at HI64
    clear hy hno hd
    go_wp2_with fail
    refine HI64.mono ?_
    rintro e w5 ⟨rfl, rfl⟩
    clear HI64
    go_wp2_with fail
    refine HTXT.mono ?_
    rintro e w6 ⟨rfl, hb6⟩
    have q6 : w6.cell? ⟨w2.heap.size, 0, none⟩ = some (.slice a k c) := (hb6.cell (p := ⟨w2.heap.size, 0, none⟩) z4).trans q4
    clear HTXT
    go_wp2_with fail
    refine (HZ.out _ hb6).mono ?_
    rintro e w7 ⟨rfl, hb7⟩
    have hB7 := hb6.trans (hb7.mono hb6.size)
    have hBw := hB4.trans (hB7.mono hB4.size)
    go_wp2_with fail
    refine (HS.out _ hB7).mono ?_
    rintro e w8 ⟨rfl, rfl⟩
    clear HS HZ HI
    have hn0 : ¬ n = 0 := by omega
    rw [if_neg hn0]
    have hd0 : decide (n = 0) = false := by simp [hn0]
    rw [hd0]
    clear hd0 hn0
    go_wp2
    go_ret
    exact ⟨rfl, hBw⟩

theorem parses_any (s : ByteArray) (w : World) (hs : s.size ≤ 9223372036854775807) (ht : Tab w) (hg : Glob w) :
    Calls Tryd.prog 3 #[.string s] w fun e w' => e = .returned (.bool true) ∧ Below w.heap.size w w' := by
  by_cases h300 : 300 < s.size
  · exact parses_long s w hs h300
  · by_cases hok : OkText s
    · by_cases h100 : s.size ≤ 100
      · exact parses_ok s w h100 hok ht
      · exact parses_err s 4 w (by omega) (Or.inr rfl) hg (fun W => (ref_any s W (by omega)).mono fun e w' ⟨_, h, _, hb⟩ => ⟨h hok (by omega), hb⟩) (fun W => parse_limit s W (by omega) hok (by omega))
    · exact parses_err s 3 w (by omega) (Or.inl rfl) hg (fun W => (ref_any s W (by omega)).mono fun e w' ⟨h, _, _, hb⟩ => ⟨h hok, hb⟩) (fun W => parse_form s W (by omega) hok)
end Go.Proofs.YtfangnjdfmaaoaaDoor
