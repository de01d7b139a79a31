/- A number is taken away. -/
import Derived.Test.YtfodcmcmbjopaaaDoorBdWays
import Derived.Test.YtfodcmcmbjopaaaDoorCnSub
namespace Go.Proofs.YtfodcmcmbjopaaaDoor
open Go.RowKit Go.Maps Num

theorem big_ex : ∃ b : Nat, b = 1000000000 ^ 100 := ⟨_, rfl⟩
/-- More than any number here. -/
noncomputable def bigN : Nat := Classical.choose big_ex
theorem bigN_eq : bigN = 1000000000 ^ 100 := Classical.choose_spec big_ex
/-- A number was made. -/
def NumOut (m : Nat) (w : World) (e : Ending) (w' : World) : Prop :=
  ∃ a n c, e = .returned (.agg #[.slice a n c]) ∧ NatAt w' (.agg #[.slice a n c]) m ∧ Below w.heap.size w w'

theorem NatAt.open' {w : World} {v : Value} {m : Nat} (h : NatAt w v m) (hm : m < bigN) : ∃ s ds, v = .agg #[s] ∧ Dig .u64 w s ds ∧ Norm 1000000000 ds ∧ val 1000000000 ds = m ∧ ds.length ≤ 100 := by
  obtain ⟨x, e, ds, h1, h2, h3⟩ := h
  exact ⟨_, ds, e, h1, h2, h3, norm_len (by omega) h2 (by rw [h3]; rw [bigN_eq] at hm; exact hm)⟩
theorem numOut_mk {m : Nat} {w w' : World} {s : Value} {ds : List Nat} {e : Ending} (he : e = .returned (.agg #[s])) (h : Dig .u64 w' s ds) (hN : Norm 1000000000 ds) (hv : val 1000000000 ds = m) (hb : Below w.heap.size w w') : NumOut m w e w' := by
  obtain ⟨a, c, e3, -⟩ := id h
  subst e3
  exact ⟨a, _, c, he, natAt_mk h hN hv, hb⟩
theorem small_big {m : Nat} (h : m ≤ 100000000) : m < bigN := Nat.lt_of_le_of_lt h (by rw [bigN_eq]; decide +kernel)

section
variable {w : World} {r r1 r2 : Value} {m m1 m2 : Nat}
theorem num_add (h1 : NatAt w r1 m1) (h2 : NatAt w r2 m2) (l1 : m1 < bigN) (l2 : m2 < bigN) : Calls Tryd.prog 56 #[r1, r2] w (NumOut (m1 + m2) w) := by
  obtain ⟨s1, d1, rfl, g1, n1, v1, k1⟩ := h1.open' l1
  obtain ⟨s2, d2, rfl, g2, n2, v2, k2⟩ := h2.open' l2
  refine (add_any s1 s2 d1 d2 w g1 g2 n1.small n2.small (by omega) (by omega)).mono ?_
  rintro e w2 ⟨s3, he, d3, g3, n3, v3, -, hb⟩
  exact numOut_mk he g3 n3 (by rw [v3, v1, v2]) hb
theorem num_cmp (h1 : NatAt w r1 m1) (h2 : NatAt w r2 m2) (l1 : m1 < bigN) (l2 : m2 < bigN) : Calls Tryd.prog 14 #[r1, r2] w fun e w' => e = .returned (.int .i64 (cmpN m1 m2)) ∧ Below w.heap.size w w' := by
  obtain ⟨s1, d1, rfl, g1, n1, v1, k1⟩ := h1.open' l1
  obtain ⟨s2, d2, rfl, g2, n2, v2, k2⟩ := h2.open' l2
  have := cmp_any s1 s2 d1 d2 w g1 g2 n1.small n2.small (by omega) (by omega)
  rwa [v1, v2] at this
theorem num_of (n : Nat) (hn : n ≤ 9223372036854775807) (w : World) : Calls Tryd.prog 7 #[.int .i64 (n : Int)] w (NumOut n w) := by
  refine (of_any (n : Int) w (by omega) (by omega)).mono ?_
  rintro e w2 ⟨s3, he, d3, g3, n3, v3, hb⟩
  exact numOut_mk he g3 n3 (by rw [v3]; simp) hb
theorem num_double (t : Nat) (ht : t ≤ 1000) (h : NatAt w r m) (l : m < bigN) : Calls Tryd.prog 8 #[r, .int .i64 (t : Int)] w (NumOut (m * 2 ^ t) w) := by
  obtain ⟨s1, d1, rfl, g1, n1, v1, k1⟩ := h.open' l
  refine (double_any s1 d1 (t : Int) w g1 n1 (by omega) (by omega) (by omega)).mono ?_
  rintro e w2 ⟨s3, he, d3, g3, n3, v3, -, hb⟩
  exact numOut_mk he g3 n3 (by rw [v3, v1, show (min (t : Int) 1000).toNat = t by omega]) hb
end
end Go.Proofs.YtfodcmcmbjopaaaDoor

namespace Go.Proofs.YtfodcmcmbjopaaaDoor
open Go.RowKit Go.Maps Num

section
variable {w : World} {r1 r2 : Value} {m1 m2 : Nat}
theorem num_sub_no (h1 : NatAt w r1 m1) (h2 : NatAt w r2 m2) (l1 : m1 < bigN) (l2 : m2 < bigN) (hlt : m1 < m2) : Calls Tryd.prog 17 #[r1, r2] w fun e w' => e = .returned (.tuple #[.agg #[.slice none 0 0], .iface 42 (.int .i64 2)]) ∧ Below w.heap.size w w' := by
  obtain ⟨s1, d1, rfl, g1, n1, v1, k1⟩ := h1.open' l1
  obtain ⟨s2, d2, rfl, g2, n2, v2, k2⟩ := h2.open' l2
  exact sub_no s1 s2 d1 d2 w g1 g2 n1.small n2.small (by omega) (by omega) (by rw [v1, v2]; exact hlt)
theorem num_sub (h1 : NatAt w r1 m1) (h2 : NatAt w r2 m2) (l1 : m1 < bigN) (l2 : m2 < bigN) (hle : m2 ≤ m1) : Calls Tryd.prog 17 #[r1, r2] w fun e w' => ∃ a n c, e = .returned (.tuple #[.agg #[.slice a n c], .nilIface]) ∧ NatAt w' (.agg #[.slice a n c]) (m1 - m2) ∧ Below w.heap.size w w' := by
  obtain ⟨s1, d1, rfl, g1, n1, v1, k1⟩ := h1.open' l1
  obtain ⟨s2, d2, rfl, g2, n2, v2, k2⟩ := h2.open' l2
  refine (sub_yes s1 s2 d1 d2 w g1 g2 n1.small n2 (by omega) (by omega) (by rw [v1, v2]; exact hle)).mono ?_
  rintro e w2 ⟨s3, he, d3, g3, n3, v3, -, hb⟩
  obtain ⟨a, c, e3, -⟩ := id g3
  subst e3
  exact ⟨a, _, c, he, natAt_mk g3 n3 (by rw [v3, v1, v2]), hb⟩
/-- What Sub tells besides. -/
def subErr (m1 m2 : Nat) : Value := if m1 < m2 then .iface 42 (.int .i64 2) else .nilIface
theorem natAt_zero (w : World) : NatAt w (.agg #[.slice none 0 0]) 0 := ⟨⟨none, 0, 0⟩, rfl, [], ⟨none, 0, rfl, by simp, fun i h => by simp at h⟩, ⟨fun i => by simp [dig], fun h => by simp at h⟩, by simp [val, S]⟩
theorem num_sub_any (h1 : NatAt w r1 m1) (h2 : NatAt w r2 m2) (l1 : m1 < bigN) (l2 : m2 < bigN) : Calls Tryd.prog 17 #[r1, r2] w fun e w' => ∃ a n c, e = .returned (.tuple #[.agg #[.slice a n c], subErr m1 m2]) ∧ NatAt w' (.agg #[.slice a n c]) (m1 - m2) ∧ Below w.heap.size w w' := by
  by_cases h : m1 < m2
  · refine (num_sub_no h1 h2 l1 l2 h).mono ?_
    rintro e w' ⟨he, hb⟩
    refine ⟨none, 0, 0, by rw [he]; unfold subErr; rw [if_pos h], ?_, hb⟩
    rw [show m1 - m2 = 0 by omega]
    exact natAt_zero w'
  · refine (num_sub h1 h2 l1 l2 (by omega)).mono ?_
    rintro e w' ⟨a, n, c, he, hn, hb⟩
    exact ⟨a, n, c, by rw [he]; unfold subErr; rw [if_neg h], hn, hb⟩
end
end Go.Proofs.YtfodcmcmbjopaaaDoor
