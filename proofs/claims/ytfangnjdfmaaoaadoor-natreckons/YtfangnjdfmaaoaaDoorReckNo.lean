/- NatReckons where a text is too long, or is no number; numbers of the reference made anew. -/
import Derived.Test.YtfangnjdfmaaoaaDoorReck0
import Derived.Test.YtfangnjdfmaaoaaDoorParsesOk
namespace Go.Proofs.YtfangnjdfmaaoaaDoor
open Go.RowKit Num Go.Sort Go.PlainAid

set_option maxRecDepth 100000 in
set_option maxHeartbeats 1000000 in
theorem reck_long (a b : ByteArray) (t : Int) (w : World) (ha : a.size ≤ 9223372036854775807) (hb : b.size ≤ 9223372036854775807) (h : 150 < a.size ∨ 150 < b.size) :
    Calls Tryd.prog 4 #[.string a, .string b, .int .i64 t] w fun e w' => e = .returned (.bool true) ∧ Below w.heap.size w w' := by
  by_cases h1 : 150 < a.size
  · clear h
    go_enter Tryd.func4, Tryd.ntmps4
    go_wp2
    go_ret
    exact ⟨rfl, Below.refl _ _⟩
  · have h2 : 150 < b.size := by omega
    clear h
    go_enter Tryd.func4, Tryd.ntmps4
    go_wp2
    go_ret
    exact ⟨rfl, Below.refl _ _⟩

/-- What nat gives, whatever the text. -/
theorem nat_any (s : ByteArray) (w : World) (hs : s.size ≤ 400) :
    Calls Tryd.prog 16 #[.string s] w fun e w' => ∃ a k c p q, e = .returned (.tuple #[.agg #[.slice a k c], .pointer p, .bool q]) ∧ (q = true ↔ OkText s ∧ s.size ≤ 100) ∧ Below w.heap.size w w' := by
  by_cases h : OkText s ∧ s.size ≤ 100
  · refine (nat_yes s w h.2 h.1).mono ?_
    rintro e w' ⟨v, b, rfl, hn, -, hb⟩
    obtain ⟨a, k, c, rfl⟩ := hn.form
    exact ⟨a, k, c, _, true, rfl, by simp [h], hb⟩
  · refine (nat_no s w hs h).mono ?_
    rintro e w' ⟨a, k, c, rfl, hb⟩
    exact ⟨a, k, c, _, false, rfl, by simp only [Bool.false_eq_true, false_iff]; exact h, hb⟩

/-- Which error the reference tells: none just if the text is a number. -/
theorem ref_err (s : ByteArray) (w : World) (hs : s.size ≤ 400) :
    Calls Tryd.prog 7 #[.string s] w fun e w' => ∃ p, ∃ m : Int, e = .returned (.tuple #[.pointer p, .int .i64 m]) ∧ (m = 0 ∧ (OkText s ∧ s.size ≤ 100) ∨ (m = 3 ∨ m = 4) ∧ ¬ (OkText s ∧ s.size ≤ 100)) ∧ Below w.heap.size w w' := by
  refine (ref_any s w hs).mono ?_
  rintro e w' ⟨h1, h2, h3, hb⟩
  by_cases ho : OkText s
  · by_cases hl : s.size ≤ 100
    · obtain ⟨b, he, -⟩ := h3 ho hl
      exact ⟨_, 0, he, .inl ⟨rfl, ho, hl⟩, hb⟩
    · exact ⟨_, 4, h2 ho (by omega), .inr ⟨.inr rfl, fun h => hl h.2⟩, hb⟩
  · exact ⟨_, 3, h1 ho, .inr ⟨.inl rfl, fun h => ho h.1⟩, hb⟩

set_option maxRecDepth 100000 in
set_option maxHeartbeats 2000000 in
theorem reck_err (a b : ByteArray) (t : Int) (w : World) (ha : a.size ≤ 150) (hb : b.size ≤ 150) (h : ¬ ((OkText a ∧ a.size ≤ 100) ∧ (OkText b ∧ b.size ≤ 100))) :
    Calls Tryd.prog 4 #[.string a, .string b, .int .i64 t] w fun e w' => e = .returned (.bool true) ∧ Below w.heap.size w w' := by
  have H1 := Lib.hid fun W => nat_any a W (by omega)
  have H2 := Lib.hid fun W => nat_any b W (by omega)
  have H3 := Lib.hid fun W => ref_err a W (by omega)
  have H4 := Lib.hid fun W => ref_err b W (by omega)
  have HH := Lib.hid h
  clear h
  go_enter Tryd.func4, Tryd.ntmps4
  go_wp2_with fail
  refine (H1.out _).mono ?_
  rintro e w1 ⟨a1, k1, c1, p1, q1, rfl, hq1, hb1⟩
  go_wp2_with fail
  refine (H2.out _).mono ?_
  rintro e w2 ⟨a2, k2, c2, p2, q2, rfl, hq2, hb2⟩
  have hs1 := hb1.size
  have hb2' : Below w.heap.size w w2 := (hb1.alloc hs1 _).trans (hb2.mono (by simp; omega))
  have hs2 := hb2'.size
  have hb3 : Below w.heap.size w (w2.alloc (.cells #[.slice a2 k2 c2] 28)) := hb2'.alloc hs2 _
  have hs3 := hb3.size
  have HQ : Hid (q1 = true → q2 = true → False) := fun e1 e2 => HH.out ⟨hq1.1 e1, hq2.1 e2⟩
  clear hq1 hq2 hb1 hb2 hb2' hs1 hs2 H1 H2
  have tail : ∀ (m1 m2 : Int), (m1 = 0 ∧ (OkText a ∧ a.size ≤ 100) ∨ (m1 = 3 ∨ m1 = 4) ∧ ¬ (OkText a ∧ a.size ≤ 100)) → (m2 = 0 ∧ (OkText b ∧ b.size ≤ 100) ∨ (m2 = 3 ∨ m2 = 4) ∧ ¬ (OkText b ∧ b.size ≤ 100)) → m1 = 3 ∨ m1 = 4 ∨ m1 = 0 ∧ m2 = 3 ∨ m1 = 0 ∧ m2 = 4 := fun m1 m2 h1 h2 => by
    have := HH.out
    rcases h1 with ⟨e1, g1⟩ | ⟨e1 | e1, g1⟩
    · rcases h2 with ⟨e2, g2⟩ | ⟨e2 | e2, g2⟩
      · exact absurd ⟨g1, g2⟩ this
      · exact .inr (.inr (.inl ⟨e1, e2⟩))
      · exact .inr (.inr (.inr ⟨e1, e2⟩))
    · exact .inl e1
    · exact .inr (.inl e1)
  have TL := Lib.hid tail
  clear tail
  have cases2 : q1 = false ∨ q1 = true ∧ q2 = false := by
    cases q1
    · exact .inl rfl
    · cases q2
      · exact .inr ⟨rfl, rfl⟩
      · exact (HQ.out rfl rfl).elim
  clear HQ
  rcases cases2 with rfl | ⟨rfl, rfl⟩
  · go_wp2_with fail
    refine (H3.out _).mono ?_
    rintro e w4 ⟨p4, m4, rfl, hm4, hb4⟩
    go_wp2_with fail
    refine (H4.out _).mono ?_
    rintro e w5 ⟨p5, m5, rfl, hm5, hb5⟩
    have hB := (hb3.trans (hb4.mono hs3)).trans (hb5.mono (Nat.le_trans hs3 hb4.size))
    rcases TL.out m4 m5 hm4 hm5 with rfl | rfl | ⟨rfl, rfl⟩ | ⟨rfl, rfl⟩
    · clear hm4 hm5
      go_wp2
      go_ret
      exact ⟨rfl, hB⟩
    · clear hm4 hm5
      go_wp2
      go_ret
      exact ⟨rfl, hB⟩
    · clear hm4 hm5
      go_wp2
      go_ret
      exact ⟨rfl, hB⟩
    · clear hm4 hm5
      go_wp2
      go_ret
      exact ⟨rfl, hB⟩
  · go_wp2_with fail
    refine (H3.out _).mono ?_
    rintro e w4 ⟨p4, m4, rfl, hm4, hb4⟩
    go_wp2_with fail
    refine (H4.out _).mono ?_
    rintro e w5 ⟨p5, m5, rfl, hm5, hb5⟩
    have hB := (hb3.trans (hb4.mono hs3)).trans (hb5.mono (Nat.le_trans hs3 hb4.size))
    rcases TL.out m4 m5 hm4 hm5 with rfl | rfl | ⟨rfl, rfl⟩ | ⟨rfl, rfl⟩
    · clear hm4 hm5
      go_wp2
      go_ret
      exact ⟨rfl, hB⟩
    · clear hm4 hm5
      go_wp2
      go_ret
      exact ⟨rfl, hB⟩
    · clear hm4 hm5
      go_wp2
      go_ret
      exact ⟨rfl, hB⟩
    · clear hm4 hm5
      go_wp2
      go_ret
      exact ⟨rfl, hB⟩
end Go.Proofs.YtfangnjdfmaaoaaDoor
