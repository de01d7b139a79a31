/- The walk through NatOfs. -/
import Derived.Test.YtapphakhlklofaaDoorTold
namespace Go.Proofs.YtapphakhlklofaaDoor
open Go.RowKit Num Go.Sort

set_option maxRecDepth 100000 in
set_option maxHeartbeats 1000000 in
theorem ofs_any (n : Int) (w : World) (h0 : -9223372036854775808 ≤ n) (h1 : n ≤ 9223372036854775807) (htab : Tab w) :
    Calls Tryd.prog 5 #[.int .i64 n] w fun e w' => e = .returned (.bool true) ∧ Below w.heap.size w w' := by
  obtain ⟨m, hm, hmn, hml⟩ : ∃ m : Nat, max 0 n = (m : Int) ∧ n.toNat = m ∧ m ≤ 9223372036854775807 := ⟨n.toNat, by omega, rfl, by omega⟩
  have HT : Hid (Tab w) := htab
  have HN : Hid (n.toNat = m) := hmn
  clear htab hmn
  go_enter Tryd.func5, Tryd.ntmps5
  go_wp2_with fail
  refine (of_any n _ h0 h1).mono ?_
  rintro e w1 ⟨v1, rfl, ds1, hd1, hn1, hv1, hb1⟩
  rw [HN.out] at hv1
  have l1 : ds1.length ≤ 3 := norm_len (by omega) hn1 (by rw [hv1]; omega)
  have H1 := fits_any v1 ds1 w1 hd1 hn1.small (by omega)
  rw [hv1] at H1
  clear hd1 hn1 hv1
  go_wp2_with fail
  refine H1.mono ?_
  rintro e w2 ⟨hy, -, hb2⟩
  have he := hy hml
  subst he
  clear hy H1
  have hs1 := hb1.size
  have hb02 : Below w.heap.size w w2 := hb1.trans (hb2.mono hs1)
  clear hb1 hb2
  go_wp2_with fail
  refine (of_any n _ h0 h1).mono ?_
  rintro e w3 ⟨v3, rfl, ds3, hd3, hn3, hv3, hb3⟩
  rw [HN.out] at hv3
  have l3 : ds3.length ≤ 3 := norm_len (by omega) hn3 (by rw [hv3]; omega)
  have hs2 := hb02.size
  have hb03 : Below w.heap.size w w3 := hb02.trans (hb3.mono hs2)
  have H3 := text_any v3 ds3 w3 hd3 hn3 (by omega) (HT.out.below hb03)
  rw [hv3] at H3
  clear hd3 hn3 hv3
  have H4 : Hid (∀ (b off : Nat) (W : World), Tab W → W.cell? ⟨b, off, none⟩ = some (.int .i64 (m : Int)) → b < W.heap.size → Calls Tryd.prog 29 #[.slice (some ⟨b, off, none⟩) 1 1] W fun e w' => e = .returned (.string ⟨(Lib.decDigits m).toArray⟩) ∧ Below W.heap.size W w') := fun b off W ht hc hb => told_any (m : Int) m b off W rfl (by omega) ht hc hb
  generalize Lib.decDigits m = l at *
  go_wp2_with fail
  refine H3.mono ?_
  rintro e w4 ⟨rfl, hb4⟩
  have hs3 := hb03.size
  have hb04 : Below w.heap.size w w4 := hb03.trans (hb4.mono hs3)
  clear hb4 hb3 H3
  go_wp2_with fail
  refine (H4.out _ _ _ ((HT.out.below hb04).below ((Below.refl _ _).alloc (Nat.le_refl _) _)) ?_ ?_).mono ?_
  · simp
  · simp
  rintro e w5 ⟨rfl, hb5⟩
  have hs4 := hb04.size
  have hb05 : Below w.heap.size w w5 := (hb04.alloc hs4 _).trans (hb5.mono (by simp; omega))
  clear hb5
  go_wp2
  go_ret
  exact ⟨rfl, hb05⟩
end Go.Proofs.YtapphakhlklofaaDoor
