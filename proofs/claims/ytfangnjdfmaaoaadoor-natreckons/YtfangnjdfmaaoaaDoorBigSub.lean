/- The reference's numbers: sub. -/
import Derived.Test.YtfangnjdfmaaoaaDoorBigMul
namespace Go.Proofs.YtfangnjdfmaaoaaDoor
open Go.RowKit Num Go.Sort

set_option maxRecDepth 100000 in
set_option maxHeartbeats 2000000 in
theorem bsub_any (va vb : Value) (a b : List Nat) (w : World) (ha : Dig .u32 w va a) (hb : Dig .u32 w vb b) (na : ∀ i, dig a i < 4294967296) (nb : Norm 4294967296 b) (la : a.length ≤ 5000) (hge : val 4294967296 b ≤ val 4294967296 a) :
    Calls Tryd.prog 61 #[va, vb] w fun e w' => ∃ v', e = .returned v' ∧ ∃ ds', Dig .u32 w' v' ds' ∧ Norm 4294967296 ds' ∧ val 4294967296 ds' = val 4294967296 a - val 4294967296 b ∧ Below w.heap.size w w' := by
  obtain ⟨aa, ca, eva, hca, hcella⟩ := id ha
  obtain ⟨ab, cb, evb, hcb, hcellb⟩ := id hb
  subst eva evb
  have HCA : Hid (∀ i, i < a.length → ∃ b off, aa = some ⟨b, off, none⟩ ∧ b < w.heap.size ∧ w.cell? ⟨b, off + i, none⟩ = some (.int .u32 ((dig a i : Nat) : Int))) := hcella
  have HCB : Hid (∀ i, i < b.length → ∃ b' off, ab = some ⟨b', off, none⟩ ∧ b' < w.heap.size ∧ w.cell? ⟨b', off + i, none⟩ = some (.int .u32 ((dig b i : Nat) : Int))) := hcellb
  have hlen := len_le (by omega) na nb hge
  have HNA : Hid (∀ i, dig a i < 4294967296) := na
  have HNB : Hid (∀ i, dig b i < 4294967296) := nb.small
  have HG : Hid (val 4294967296 b ≤ val 4294967296 a) := hge
  clear hcella hcellb hca hcb ha hb na nb hge
  obtain ⟨i0, hi, hz0, hz1, hz2⟩ := info_parts info90
  go_enter Tryd.func61, Tryd.ntmps61
  go_wp2_with (at_make; refine wpList_make_full _ rfl _ _ 45 rfl w.heap.size 90 i0 (.int .u32 0) 1 Tryd.underlying45 hi hz0 hz1 .i64 .i64 _ _ a.length rfl rfl ?c1 ?c2 ?c3 ?c4 ?c5 ?_)
  case c1 => rfl
  case c2 => rfl
  case c3 => rw [hz2]; omega
  case c4 => unfold maxLen; omega
  case c5 => omega
  intro w1 hown hgrow
  rw [dcells_made] at hown
  have hbel : Below w.heap.size w w1 := (Below.refl _ _).grown hgrow (Nat.le_refl _) (fun k hk => by cases hk)
  clear hgrow
  go_wp2_with fail
  go_loopw [6, 7] (fun cv i wr => ∃ (k c : Nat) (out : List Nat), k ≤ a.length ∧ i = .int .i64 k ∧ cv = .int .u64 c ∧ c ≤ 1 ∧ out.length = a.length ∧ (∀ i, dig out i < 4294967296) ∧ S 4294967296 (dig a) k + c * 4294967296 ^ k = S 4294967296 (dig out) k + S 4294967296 (dig b) k ∧ wr.ownsRow w.heap.size 90 1 (.slice (some ⟨w.heap.size, 0, none⟩) a.length a.length) a.length (dcells .u32 out) ∧ Below w.heap.size w wr)
    (fun _ i _ => a.length - (intOf i).toNat)
  case atStart => exact ⟨0, 0, List.replicate a.length 0, Nat.zero_le _, rfl, rfl, Nat.zero_le _, by simp, fun i => by rw [dig_replicate]; omega, by simp [S], hown, hbel⟩
  case round =>
    obtain ⟨k, c, out, hk, rfl, rfl, hc1, hol, hsm, hS, hownr, hbelr⟩ := hrel
    have HSm : Hid (∀ i, dig out i < 4294967296) := hsm
    have HS : Hid (S 4294967296 (dig a) k + c * 4294967296 ^ k = S 4294967296 (dig out) k + S 4294967296 (dig b) k) := hS
    have HO : Hid (out.length = a.length) := hol
    clear hsm hS hown hbel hol
    by_cases hlt : k < a.length
    · have hkl : k < out.length := by have := HO.out; omega
      have hcell := hownr.cellAt k (by omega)
      rw [dcells_at .u32 out k hkl] at hcell
      have hfr := hownr.frozenAt k
      obtain ⟨bp, offp, hpp, hbp, hclp⟩ := HCA.out k hlt
      subst hpp
      have hcp : wr.cell? ⟨bp, offp + k, none⟩ = some (.int .u32 ((dig a k : Nat) : Int)) := (hbelr.cell (p := ⟨bp, offp + k, none⟩) hbp).trans hclp
      have hx := HNA.out k
      generalize hdx : dig a k = x at *
      have HX : Hid (dig a k = x) := hdx
      clear hdx hclp
      by_cases hq : k < b.length
      · obtain ⟨bq, offq, hqq, hbq, hclq⟩ := HCB.out k hq
        subst hqq
        have hcq : wr.cell? ⟨bq, offq + k, none⟩ = some (.int .u32 ((dig b k : Nat) : Int)) := (hbelr.cell (p := ⟨bq, offq + k, none⟩) hbq).trans hclq
        have hy := HNB.out k
        generalize hdy : dig b k = y at *
        have HY : Hid (dig b k = y) := hdy
        clear hdy hclq
        by_cases hlow : x < y + c
        · obtain ⟨d, hd⟩ : ∃ d, d = x + 4294967296 - (y + c) := ⟨_, rfl⟩
          have e1 : IntKind.u64.wrap (IntKind.u64.wrap ((x : Int) - c) - y) = (d : Int) + 18446744069414584320 := by simp only [IntKind.wrap_u64]; omega
          have e2 : IntKind.u32.wrap ((d : Int) + 18446744069414584320) = (d : Int) := by rw [IntKind.wrap_u32]; omega
          have e3 : ((d : Int) + 18446744069414584320) / 9223372036854775808 = 1 := by omega
          have hd2 : d < 4294967296 := by omega
          have hd3 : x + 1 * 4294967296 = d + (y + c) := by omega
          clear hd
          go_wp2
          go_roundw
          case rel =>
            exact ⟨k + 1, 1, out.set k d, by omega, by go_num, rfl, by omega, by rw [List.length_set]; exact HO.out, small_set hkl HSm.out hd2, sub_step hkl HS.out HX.out HY.out hd3, owns_set hownr k _, hbelr.setCell (Nat.le_refl _) _⟩
          case measure => simp [intOf]; omega
        · obtain ⟨d, hd⟩ : ∃ d, d = x - (y + c) := ⟨_, rfl⟩
          have e1 : IntKind.u64.wrap (IntKind.u64.wrap ((x : Int) - c) - y) = (d : Int) := by simp only [IntKind.wrap_u64]; omega
          have e2 : IntKind.u32.wrap (d : Int) = (d : Int) := by rw [IntKind.wrap_u32]; omega
          have e3 : (d : Int) / 9223372036854775808 = 0 := by omega
          have hd2 : d < 4294967296 := by omega
          have hd3 : x + 0 * 4294967296 = d + (y + c) := by omega
          clear hd
          go_wp2
          go_roundw
          case rel =>
            have e4 : (x : Int) - c - y = (d : Int) := by omega
            rw [e4, e3]
            exact ⟨k + 1, 0, out.set k d, by omega, by go_num, rfl, by omega, by rw [List.length_set]; exact HO.out, small_set hkl HSm.out hd2, sub_step hkl HS.out HX.out HY.out hd3, owns_set hownr k _, hbelr.setCell (Nat.le_refl _) _⟩
          case measure => simp [intOf]; omega
      · have hy0 := dig_beyond b k (by omega)
        have HY : Hid (dig b k = 0) := hy0
        clear hy0
        by_cases hlow : x < c
        · obtain ⟨d, hd⟩ : ∃ d, d = x + 4294967296 - c := ⟨_, rfl⟩
          have e1 : IntKind.u64.wrap ((x : Int) - c) = (d : Int) + 18446744069414584320 := by simp only [IntKind.wrap_u64]; omega
          have e2 : IntKind.u32.wrap ((d : Int) + 18446744069414584320) = (d : Int) := by rw [IntKind.wrap_u32]; omega
          have e3 : ((d : Int) + 18446744069414584320) / 9223372036854775808 = 1 := by omega
          have hd2 : d < 4294967296 := by omega
          have hd3 : x + 1 * 4294967296 = d + (0 + c) := by omega
          clear hd
          go_wp2
          go_roundw
          case rel =>
            exact ⟨k + 1, 1, out.set k d, by omega, by go_num, rfl, by omega, by rw [List.length_set]; exact HO.out, small_set hkl HSm.out hd2, sub_step hkl HS.out HX.out HY.out hd3, owns_set hownr k _, hbelr.setCell (Nat.le_refl _) _⟩
          case measure => simp [intOf]; omega
        · obtain ⟨d, hd⟩ : ∃ d, d = x - c := ⟨_, rfl⟩
          have e1 : IntKind.u64.wrap ((x : Int) - c) = (d : Int) := by simp only [IntKind.wrap_u64]; omega
          have e2 : IntKind.u32.wrap (d : Int) = (d : Int) := by rw [IntKind.wrap_u32]; omega
          have e3 : (d : Int) / 9223372036854775808 = 0 := by omega
          have hd2 : d < 4294967296 := by omega
          have hd3 : x + 0 * 4294967296 = d + (0 + c) := by omega
          clear hd
          go_wp2
          go_roundw
          case rel =>
            exact ⟨k + 1, 0, out.set k d, by omega, by go_num, rfl, by omega, by rw [List.length_set]; exact HO.out, small_set hkl HSm.out hd2, sub_step hkl HS.out HX.out HY.out hd3, owns_set hownr k _, hbelr.setCell (Nat.le_refl _) _⟩
          case measure => simp [intOf]; omega
    · obtain rfl : k = a.length := by omega
      have hva := S_val 4294967296 a a.length (Nat.le_refl _)
      have hvb := S_val 4294967296 b a.length (by omega)
      have hvo := S_val 4294967296 out a.length (by have := HO.out; omega)
      have hE := HS.out
      rw [hva, hvb, hvo] at hE
      have hlo : val 4294967296 out < 4294967296 ^ a.length := by
        have h := val_lt HSm.out
        rwa [HO.out] at h
      have HV : Hid (val 4294967296 out = val 4294967296 a - val 4294967296 b) := by
        show _ = _
        have hg := HG.out
        have h0 : c = 0 ∨ c = 1 := by omega
        rcases h0 with rfl | rfl
        · omega
        · omega
      have hown2 := hownr
      rw [show a.length = out.length from HO.out.symm] at hown2
      have hD := Dig.of_owns hown2
      rw [HO.out] at hD
      have hsm2 := HSm.out
      clear hva hvb hE hown2 hvo hlo
      go_wp2_with fail
      refine (trim_any _ _ _ hD hsm2 (by have := HO.out; omega)).mono ?_
      rintro e w2 ⟨v2, rfl, rfl, ds2, hd2, hn2, hv2, hl2⟩
      go_wp2
      go_ret
      exact ⟨v2, rfl, ds2, hd2, hn2, by rw [hv2]; exact HV.out, hbelr⟩

theorem bsub_big {va vb : Value} {x y : Nat} {w : World} (ha : BigIs w va x) (hb : BigIs w vb y) (hx : x < 4294967296 ^ 1000) (hy : y ≤ x) :
    Calls Tryd.prog 61 #[va, vb] w fun e w' => ∃ v', e = .returned v' ∧ BigIs w' v' (x - y) ∧ Below w.heap.size w w' := by
  obtain ⟨a, h1, h2, h3, h4⟩ := ha.len hx
  obtain ⟨b, k1, k2, k3, k4⟩ := hb.len (by omega)
  refine (bsub_any va vb a b w h1 k1 h2.small k2 (by omega) (by rw [h3, k3]; exact hy)).mono ?_
  rintro e w' ⟨v', he, ds, d1, d2, d3, d4⟩
  exact ⟨v', he, ⟨ds, d1, d2, by rw [d3, h3, k3]⟩, d4⟩
end Go.Proofs.YtfangnjdfmaaoaaDoor
