/- The reference's numbers: cmp. -/
import Derived.Test.YtfangnjdfmaaoaaDoorBigMul
namespace Go.Proofs.YtfangnjdfmaaoaaDoor
open Go.RowKit Num Go.Sort

set_option maxRecDepth 100000 in
set_option maxHeartbeats 2000000 in
theorem bcmp_any (va vb : Value) (a b : List Nat) (w : World) (ha : Dig .u32 w va a) (hb : Dig .u32 w vb b) (na : Norm 4294967296 a) (nb : Norm 4294967296 b) (la : a.length ≤ 5000) (_lb : b.length ≤ 5000) :
    Calls Tryd.prog 45 #[va, vb] w fun e w' => e = .returned (.int .i64 (cmpN (val 4294967296 a) (val 4294967296 b))) ∧ Below w.heap.size w w' := by
  obtain ⟨aa, ca, eva, hca, hcella⟩ := id ha
  obtain ⟨ab, cb, evb, hcb, hcellb⟩ := id hb
  subst eva evb
  have HCA : Hid (∀ i, i < a.length → ∃ b off, aa = some ⟨b, off, none⟩ ∧ b < w.heap.size ∧ w.cell? ⟨b, off + i, none⟩ = some (.int .u32 ((dig a i : Nat) : Int))) := hcella
  have HCB : Hid (∀ i, i < b.length → ∃ b' off, ab = some ⟨b', off, none⟩ ∧ b' < w.heap.size ∧ w.cell? ⟨b', off + i, none⟩ = some (.int .u32 ((dig b i : Nat) : Int))) := hcellb
  clear hcella hcellb hca hcb ha hb
  by_cases h1 : a.length < b.length
  · have hv : val 4294967296 a < val 4294967296 b := by
      rcases Nat.lt_or_ge (val 4294967296 a) (val 4294967296 b) with h | h
      · exact h
      · have := len_le (by omega) na.small nb h; omega
    have hc := cmpN_lt hv
    rw [hc]
    have g1 : ((a.length : Int) != (b.length : Int)) = true := by rw [bne_iff_ne]; omega
    clear hv hc na nb
    go_enter Tryd.func45, Tryd.ntmps45
    go_wp2
    go_ret
    exact ⟨rfl, Below.refl _ _⟩
  by_cases h2 : b.length < a.length
  · have hv : val 4294967296 b < val 4294967296 a := by
      rcases Nat.lt_or_ge (val 4294967296 b) (val 4294967296 a) with h | h
      · exact h
      · have := len_le (by omega) nb.small na h; omega
    have hc := cmpN_gt hv
    rw [hc]
    have g1 : ((a.length : Int) != (b.length : Int)) = true := by rw [bne_iff_ne]; omega
    clear hv hc na nb
    go_enter Tryd.func45, Tryd.ntmps45
    go_wp2
    go_ret
    exact ⟨rfl, Below.refl _ _⟩
  have hl : b.length = a.length := by omega
  have HNA : Hid (Norm 4294967296 a) := na
  have HNB : Hid (Norm 4294967296 b) := nb
  clear na nb h1 h2
  rw [hl] at HCB ⊢
  have HL : Hid (b.length = a.length) := hl
  clear hl _lb
  go_enter Tryd.func45, Tryd.ntmps45
  go_wp2_with fail
  go_loopw [5] (fun i wr => ∃ k : Nat, k ≤ a.length ∧ i = .int .i64 ((k : Int) - 1) ∧ (∀ j, k ≤ j → j < a.length → dig a j = dig b j) ∧ Below w.heap.size w wr)
      (fun i _ => (intOf i + 1).toNat)
  case atStart => exact ⟨a.length, Nat.le_refl _, rfl, fun j h1 h2 => by omega, Below.refl _ _⟩
  case round =>
    obtain ⟨k, hk, rfl, heq, hbw⟩ := hrel
    have HE : Hid (∀ j, k ≤ j → j < a.length → dig a j = dig b j) := heq
    clear heq
    by_cases hlt : k = 0
    · subst hlt
      go_wp2
      go_ret
      refine ⟨ret_int ?_, hbw⟩
      rw [cmp_eq (Nat.le_refl _) (by have := HL.out; omega) (fun i h => HE.out i (by omega) h), cmpN_eq]
    · obtain ⟨j, rfl⟩ : ∃ j, k = j + 1 := ⟨k - 1, by omega⟩
      obtain ⟨bp, offp, hpp, hbp, hclp⟩ := HCA.out j (by omega)
      obtain ⟨bq, offq, hqq, hbq, hclq⟩ := HCB.out j (by omega)
      subst hpp hqq
      have hcp : wr.cell? ⟨bp, offp + j, none⟩ = some (.int .u32 ((dig a j : Nat) : Int)) := (hbw.cell (p := ⟨bp, offp + j, none⟩) hbp).trans hclp
      have hcq : wr.cell? ⟨bq, offq + j, none⟩ = some (.int .u32 ((dig b j : Nat) : Int)) := (hbw.cell (p := ⟨bq, offq + j, none⟩) hbq).trans hclq
      have hx := HNA.out.small j
      have hy := HNB.out.small j
      generalize hdx : dig a j = x at *
      generalize hdy : dig b j = y at *
      have HX : Hid (dig a j = x) := hdx
      have HY : Hid (dig b j = y) := hdy
      clear hdx hdy hclp hclq
      have e0 : (((j + 1 : Nat) : Int) - 1) = (j : Int) := by omega
      rw [e0]
      clear e0
      by_cases hxy : x = y
      · have g1 : (((x : Nat) : Int) != ((y : Nat) : Int)) = false := by simp [hxy]
        go_wp2_with fail
        go_quiet (fail)
        go_wp2
        go_roundw
        case rel =>
          refine ⟨j, by omega, by go_num, fun i h1 h2 => ?_, below_drewN hbw nq⟩
          by_cases hj : i = j
          · rw [hj, HX.out, HY.out]; exact hxy
          · exact HE.out i (by omega) h2
        case measure => simp [intOf]
      · have g1 : (((x : Nat) : Int) != ((y : Nat) : Int)) = true := by rw [bne_iff_ne]; omega
        by_cases hlt2 : x < y
        · have hc := cmpN_lt (cmp_lt HNA.out.small (Nat.le_refl _) (by have := HL.out; omega) (t := j) (by omega) (by rw [HX.out, HY.out]; exact hlt2) (fun i h1 h2 => HE.out i (by omega) h2))
          have HC : Hid (cmpN (val 4294967296 a) (val 4294967296 b) = -1) := hc
          clear hc
          go_wp2_with fail
          go_quiet (fail)
          go_wp2_with fail
          go_quiet (fail)
          go_wp2
          go_ret
          exact ⟨ret_int HC.out.symm, below_drewN (below_drewN hbw _) _⟩
        · have hlt3 : y < x := by omega
          have hc := cmpN_gt (cmp_lt HNB.out.small (by have := HL.out; omega : b.length ≤ a.length) (Nat.le_refl _) (t := j) (by omega) (by rw [HX.out, HY.out]; exact hlt3) (fun i h1 h2 => (HE.out i (by omega) h2).symm))
          have HC : Hid (cmpN (val 4294967296 a) (val 4294967296 b) = 1) := hc
          clear hc
          go_wp2_with fail
          go_quiet (fail)
          go_wp2_with fail
          go_quiet (fail)
          go_wp2
          go_ret
          exact ⟨ret_int HC.out.symm, below_drewN (below_drewN hbw _) _⟩

theorem bcmp_big {va vb : Value} {x y : Nat} {w : World} (ha : BigIs w va x) (hb : BigIs w vb y) (hx : x < 4294967296 ^ 1000) (hy : y < 4294967296 ^ 1000) :
    Calls Tryd.prog 45 #[va, vb] w fun e w' => e = .returned (.int .i64 (cmpN x y)) ∧ Below w.heap.size w w' := by
  obtain ⟨a, h1, h2, h3, h4⟩ := ha.len hx
  obtain ⟨b, k1, k2, k3, k4⟩ := hb.len hy
  have := bcmp_any va vb a b w h1 k1 h2 k2 (by omega) (by omega)
  rwa [h3, k3] at this
end Go.Proofs.YtfangnjdfmaaoaaDoor
