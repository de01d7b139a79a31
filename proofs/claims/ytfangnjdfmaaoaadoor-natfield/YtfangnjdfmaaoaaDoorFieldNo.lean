/- NatField where a text is too long, or is no number. -/
import Derived.Test.YtfangnjdfmaaoaaDoorSame
namespace Go.Proofs.YtfangnjdfmaaoaaDoor
open Go.RowKit Num Go.Sort Go.PlainAid

set_option maxRecDepth 100000 in
set_option maxHeartbeats 1000000 in
theorem field_long (a b c : ByteArray) (t : Int) (w : World) (ha : a.size ≤ 9223372036854775807) (hb : b.size ≤ 9223372036854775807) (hc : c.size ≤ 9223372036854775807) (h : 120 < a.size ∨ 120 < b.size ∨ 120 < c.size) :
    Calls Tryd.prog 6 #[.string a, .string b, .string c, .int .i64 t] w fun e w' => e = .returned (.bool true) ∧ Below w.heap.size w w' := by
  by_cases h1 : 120 < a.size
  · clear h
    go_enter Tryd.func6, Tryd.ntmps6
    go_wp2
    go_ret
    exact ⟨rfl, Below.refl _ _⟩
  · by_cases h2 : 120 < b.size
    · clear h
      go_enter Tryd.func6, Tryd.ntmps6
      go_wp2
      go_ret
      exact ⟨rfl, Below.refl _ _⟩
    · have h3 : 120 < c.size := by omega
      clear h
      go_enter Tryd.func6, Tryd.ntmps6
      go_wp2
      go_ret
      exact ⟨rfl, Below.refl _ _⟩

set_option maxRecDepth 100000 in
set_option maxHeartbeats 2000000 in
theorem field_err (a b c : ByteArray) (t : Int) (w : World) (ha : a.size ≤ 120) (hb : b.size ≤ 120) (hc : c.size ≤ 120) (ht : Tab w) (h : ¬ ((OkText a ∧ a.size ≤ 100) ∧ (OkText b ∧ b.size ≤ 100) ∧ (OkText c ∧ c.size ≤ 100))) :
    Calls Tryd.prog 6 #[.string a, .string b, .string c, .int .i64 t] w fun e w' => e = .returned (.bool true) ∧ Below w.heap.size w w' := by
  have HT : Hid (Tab w) := ht
  have HH : Hid (¬ ((OkText a ∧ a.size ≤ 100) ∧ (OkText b ∧ b.size ≤ 100) ∧ (OkText c ∧ c.size ≤ 100))) := h
  clear ht h
  go_enter Tryd.func6, Tryd.ntmps6
  go_wp2_with fail
  refine (parse_any a _ (by omega)).mono ?_
  rintro e w1 ⟨v1, er1, rfl, ⟨a1, k1, c1, rfl⟩, hy1, hn1, hb1⟩
  have HY1 : Hid (OkText a ∧ a.size ≤ 100 → er1 = .nilIface) := fun h => (hy1 h).1
  have HN1 : Hid (¬ (OkText a ∧ a.size ≤ 100) → ∃ n, er1 = .iface 23 (.int .i64 n)) := hn1
  clear hy1 hn1
  go_wp2_with fail
  refine (parse_any b _ (by omega)).mono ?_
  rintro e w2 ⟨v2, er2, rfl, ⟨a2, k2, c2, rfl⟩, hy2, hn2, hb2⟩
  have HY2 : Hid (OkText b ∧ b.size ≤ 100 → er2 = .nilIface) := fun h => (hy2 h).1
  have HN2 : Hid (¬ (OkText b ∧ b.size ≤ 100) → ∃ n, er2 = .iface 23 (.int .i64 n)) := hn2
  clear hy2 hn2
  go_wp2_with fail
  refine (parse_any c _ (by omega)).mono ?_
  rintro e w3 ⟨v3, er3, rfl, ⟨a3, k3, c3, rfl⟩, hy3, hn3, hb3⟩
  have HY3 : Hid (OkText c ∧ c.size ≤ 100 → er3 = .nilIface) := fun h => (hy3 h).1
  have HN3 : Hid (¬ (OkText c ∧ c.size ≤ 100) → ∃ n, er3 = .iface 23 (.int .i64 n)) := hn3
  clear hy3 hn3
  go_wp2_with fail
  have hs1 := hb1.size
  have hb2' : Below w.heap.size w w2 := (hb1.alloc hs1 _).trans (hb2.mono (by simp; omega))
  have hs2 := hb2'.size
  have hb3' : Below w.heap.size w w3 := (hb2'.alloc hs2 _).trans (hb3.mono (by simp; omega))
  have hs3 := hb3'.size
  have hb4 : Below w.heap.size w (w3.alloc (.cells #[.slice a3 k3 c3] 28)) := hb3'.alloc hs3 _
  have hs4 := hb4.size
  clear hb1 hb2 hb3 hb2' hb3' hs1 hs2 hs3
  refine (counts_any _ (HT.out.below hb4)).mono ?_
  rintro e w5 ⟨rfl, hb5⟩
  have hb5' : Below w.heap.size w w5 := hb4.trans (hb5.mono hs4)
  have hs5 := hb5'.size
  clear hb4 hb5 hs4
  by_cases g1 : OkText a ∧ a.size ≤ 100
  · have e1 := HY1.out g1
    subst e1
    by_cases g2 : OkText b ∧ b.size ≤ 100
    · have e2 := HY2.out g2
      subst e2
      have g3 : ¬ (OkText c ∧ c.size ≤ 100) := fun g => HH.out ⟨g1, g2, g⟩
      obtain ⟨n, e3⟩ := HN3.out g3
      subst e3
      clear g1 g2 g3
      go_wp2_with fail
      refine (counts_any _ (HT.out.below hb5')).mono ?_
      rintro e w6 ⟨rfl, hb6⟩
      go_wp2
      go_ret
      exact ⟨rfl, hb5'.trans (hb6.mono hs5)⟩
    · obtain ⟨n, e2⟩ := HN2.out g2
      subst e2
      clear g1 g2
      go_wp2_with fail
      refine (counts_any _ (HT.out.below hb5')).mono ?_
      rintro e w6 ⟨rfl, hb6⟩
      go_wp2
      go_ret
      exact ⟨rfl, hb5'.trans (hb6.mono hs5)⟩
  · obtain ⟨n, e1⟩ := HN1.out g1
    subst e1
    clear g1
    go_wp2_with fail
    refine (counts_any _ (HT.out.below hb5')).mono ?_
    rintro e w6 ⟨rfl, hb6⟩
    go_wp2
    go_ret
    exact ⟨rfl, hb5'.trans (hb6.mono hs5)⟩
end Go.Proofs.YtfangnjdfmaaoaaDoor
