/- The reference's numbers: add. (The two ways, which operand is the longer one, are written by a program of ours.) -/
import Derived.Test.YtfangnjdfmaaoaaDoorBigTrim
namespace Go.Proofs.YtfangnjdfmaaoaaDoor
open Go.RowKit Num Go.Sort

set_option maxRecDepth 100000 in
set_option maxHeartbeats 2000000 in
theorem badd_any (va vb : Value) (a b : List Nat) (w : World) (ha : Dig .u32 w va a) (hb : Dig .u32 w vb b) (na : ∀ i, dig a i < 4294967296) (nb : ∀ i, dig b i < 4294967296) (la : a.length ≤ 5000) (lb : b.length ≤ 5000) :
    Calls Tryd.prog 55 #[va, vb] w fun e w' => ∃ v', e = .returned v' ∧ ∃ ds', Dig .u32 w' v' ds' ∧ Norm 4294967296 ds' ∧ val 4294967296 ds' = val 4294967296 a + val 4294967296 b ∧ Below w.heap.size w w' := by
  obtain ⟨aa, ca, eva, hca, hcella⟩ := id ha
  obtain ⟨ab, cb, evb, hcb, hcellb⟩ := id hb
  subst eva evb
  have HCA : Hid (∀ i, i < a.length → ∃ b off, aa = some ⟨b, off, none⟩ ∧ b < w.heap.size ∧ w.cell? ⟨b, off + i, none⟩ = some (.int .u32 ((dig a i : Nat) : Int))) := hcella
  have HCB : Hid (∀ i, i < b.length → ∃ b' off, ab = some ⟨b', off, none⟩ ∧ b' < w.heap.size ∧ w.cell? ⟨b', off + i, none⟩ = some (.int .u32 ((dig b i : Nat) : Int))) := hcellb
  clear hcella hcellb hca hcb ha hb
  obtain ⟨i0, hi, hz0, hz1, hz2⟩ := info_parts info90
  have HNA : Hid (∀ i, dig a i < 4294967296) := na
  have HNB : Hid (∀ i, dig b i < 4294967296) := nb
  clear na nb
  by_cases hlen : a.length < b.length
  · go_enter Tryd.func55, Tryd.ntmps55
    go_wp2_with (at_make; refine wpList_make_full _ rfl _ _ 45 rfl w.heap.size 90 i0 (.int .u32 0) 1 Tryd.underlying45 hi hz0 hz1 .i64 .i64 _ _ (b.length + 1) rfl rfl ?c1 ?c2 ?c3 ?c4 ?c5 ?_)
    case c1 => omega
    case c2 => omega
    case c3 => rw [hz2]; omega
    case c4 => unfold maxLen; omega
    case c5 => omega
    intro w1 hown hgrow
    rw [dcells_made] at hown
    have hbel : Below w.heap.size w w1 := (Below.refl _ _).grown hgrow (Nat.le_refl _) (fun k hk => by cases hk)
    clear hgrow
    go_wp2_with fail
    go_loopw [6, 7] (fun cv i wr => ∃ (k c : Nat) (out : List Nat), k ≤ b.length ∧ i = .int .i64 k ∧ cv = .int .u64 c ∧ c ≤ 1 ∧ out.length = b.length + 1 ∧ (∀ i, dig out i < 4294967296) ∧ S 4294967296 (dig out) k + c * 4294967296 ^ k = S 4294967296 (dig b) k + S 4294967296 (dig a) k ∧ wr.ownsRow w.heap.size 90 1 (.slice (some ⟨w.heap.size, 0, none⟩) (b.length + 1) (b.length + 1)) (b.length + 1) (dcells .u32 out) ∧ Below w.heap.size w wr)
      (fun _ i _ => b.length - (intOf i).toNat)
    case atStart => exact ⟨0, 0, List.replicate (b.length + 1) 0, Nat.zero_le _, rfl, rfl, Nat.zero_le _, by simp, fun i => by rw [dig_replicate]; omega, by simp [S], hown, hbel⟩
    case round =>
      obtain ⟨k, c, out, hk, rfl, rfl, hc1, hol, hsm, hS, hownr, hbelr⟩ := hrel
      have HSm : Hid (∀ i, dig out i < 4294967296) := hsm
      have HS : Hid (S 4294967296 (dig out) k + c * 4294967296 ^ k = S 4294967296 (dig b) k + S 4294967296 (dig a) k) := hS
      have HO : Hid (out.length = b.length + 1) := hol
      clear hsm hS hown hbel hol
      have hkl : k < out.length := by have := HO.out; omega
      have hcell := hownr.cellAt k (by omega)
      rw [dcells_at .u32 out k hkl] at hcell
      have hfr := hownr.frozenAt k
      by_cases hlt : k < b.length
      · obtain ⟨bp, offp, hpp, hbp, hclp⟩ := HCB.out k hlt
        subst hpp
        have hcp : wr.cell? ⟨bp, offp + k, none⟩ = some (.int .u32 ((dig b k : Nat) : Int)) := (hbelr.cell (p := ⟨bp, offp + k, none⟩) hbp).trans hclp
        have hx := HNB.out k
        generalize hdx : dig b k = x at *
        have HX : Hid (dig b k = x) := hdx
        clear hdx hclp
        have hst : ∀ y, dig a k = y → y < 4294967296 → S 4294967296 (dig (out.set k ((x + y + c) % 4294967296))) (k + 1) + (x + y + c) / 4294967296 * 4294967296 ^ (k + 1) = S 4294967296 (dig b) (k + 1) + S 4294967296 (dig a) (k + 1) := fun y hy _ => add_step hkl HS.out HX.out hy
        have HST := hst
        have HST' : Hid (∀ y, dig a k = y → y < 4294967296 → S 4294967296 (dig (out.set k ((x + y + c) % 4294967296))) (k + 1) + (x + y + c) / 4294967296 * 4294967296 ^ (k + 1) = S 4294967296 (dig b) (k + 1) + S 4294967296 (dig a) (k + 1)) := HST
        clear hst HST
        by_cases hq : k < a.length
        · obtain ⟨bq, offq, hqq, hbq, hclq⟩ := HCA.out k hq
          subst hqq
          have hcq : wr.cell? ⟨bq, offq + k, none⟩ = some (.int .u32 ((dig a k : Nat) : Int)) := (hbelr.cell (p := ⟨bq, offq + k, none⟩) hbq).trans hclq
          have hy := HNA.out k
          generalize hdy : dig a k = y at *
          have HY : Hid (dig a k = y) := hdy
          clear hdy hclq
          have e1 : IntKind.u32.wrap ((c : Int) + x + y) = (((x + y + c) % 4294967296 : Nat) : Int) := by rw [IntKind.wrap_u32]; omega
          go_wp2
          go_roundw
          case rel =>
            have e3 : ((x : Int) + y + c) % 4294967296 = (((x + y + c) % 4294967296 : Nat) : Int) := by omega
            have e4 : ((c : Int) + x + y) / 4294967296 = (((x + y + c) / 4294967296 : Nat) : Int) := by omega
            rw [e3, e4]
            exact ⟨k + 1, (x + y + c) / 4294967296, out.set k ((x + y + c) % 4294967296), by omega, by go_num, rfl, by omega, by rw [List.length_set]; exact HO.out, small_set hkl HSm.out (by omega), HST'.out y rfl hy, owns_set hownr k _, hbelr.setCell (Nat.le_refl _) _⟩
          case measure => simp [intOf]; omega
        · have hy0 := dig_beyond a k (by omega)
          have e1 : IntKind.u32.wrap ((c : Int) + x) = (((x + 0 + c) % 4294967296 : Nat) : Int) := by rw [IntKind.wrap_u32]; omega
          have HY : Hid (dig a k = 0) := hy0
          clear hy0
          go_wp2
          go_roundw
          case rel =>
            have e3 : ((x : Int) + c) % 4294967296 = (((x + 0 + c) % 4294967296 : Nat) : Int) := by omega
            have e4 : ((c : Int) + x) / 4294967296 = (((x + 0 + c) / 4294967296 : Nat) : Int) := by omega
            rw [e3, e4]
            exact ⟨k + 1, (x + 0 + c) / 4294967296, out.set k ((x + 0 + c) % 4294967296), by omega, by go_num, rfl, by omega, by rw [List.length_set]; exact HO.out, small_set hkl HSm.out (by omega), HST'.out 0 HY.out (by omega), owns_set hownr k _, hbelr.setCell (Nat.le_refl _) _⟩
          case measure => simp [intOf]; omega
      · obtain rfl : k = b.length := by omega
        have hva := S_val 4294967296 b b.length (Nat.le_refl _)
        have hvb := S_val 4294967296 a b.length (by omega)
        have hE := HS.out
        rw [hva, hvb] at hE
        have HV : Hid (val 4294967296 (out.set b.length c) = val 4294967296 a + val 4294967296 b) := by
          show _ = _
          have h1 : (out.set b.length c).length = b.length + 1 := by rw [List.length_set]; exact HO.out
          unfold val
          rw [h1, S_succ, dig_set _ _ _ _ hkl, if_pos rfl, S_congr 4294967296 (dig (out.set b.length c)) (dig out) b.length (fun i hi => by rw [dig_set _ _ _ _ hkl, if_neg (by omega)])]
          unfold val at hE
          omega
        have e1 : IntKind.u32.wrap (c : Int) = (c : Int) := by rw [IntKind.wrap_u32]; omega
        have HL : Hid ((out.set b.length c).length = b.length + 1) := by show _ = _; rw [List.length_set]; exact HO.out
        have hown2 := owns_set hownr b.length c
        have hsm2 : ∀ i, dig (out.set b.length c) i < 4294967296 := small_set hkl HSm.out (by omega)
        have hbel2 := hbelr.setCell (p := ⟨w.heap.size, b.length, none⟩) (Nat.le_refl _) (.int .u32 (c : Int))
        rw [show b.length + 1 = (out.set b.length c).length from HL.out.symm] at hown2
        have hD := Dig.of_owns hown2
        rw [HL.out] at hD
        clear hva hvb hE hown2
        go_wp2_with fail
        refine (trim_any _ _ _ hD hsm2 (by have := HL.out; omega)).mono ?_
        rintro e w2 ⟨v2, rfl, rfl, ds2, hd2, hn2, hv2, hl2⟩
        go_wp2
        go_ret
        exact ⟨v2, rfl, ds2, hd2, hn2, by rw [hv2]; exact HV.out, hbel2⟩
  · go_enter Tryd.func55, Tryd.ntmps55
    go_wp2_with (at_make; refine wpList_make_full _ rfl _ _ 45 rfl w.heap.size 90 i0 (.int .u32 0) 1 Tryd.underlying45 hi hz0 hz1 .i64 .i64 _ _ (a.length + 1) rfl rfl ?c1 ?c2 ?c3 ?c4 ?c5 ?_)
    case c1 => omega
    case c2 => omega
    case c3 => rw [hz2]; omega
    case c4 => unfold maxLen; omega
    case c5 => omega
    intro w1 hown hgrow
    rw [dcells_made] at hown
    have hbel : Below w.heap.size w w1 := (Below.refl _ _).grown hgrow (Nat.le_refl _) (fun k hk => by cases hk)
    clear hgrow
    go_wp2_with fail
    go_loopw [6, 7] (fun cv i wr => ∃ (k c : Nat) (out : List Nat), k ≤ a.length ∧ i = .int .i64 k ∧ cv = .int .u64 c ∧ c ≤ 1 ∧ out.length = a.length + 1 ∧ (∀ i, dig out i < 4294967296) ∧ S 4294967296 (dig out) k + c * 4294967296 ^ k = S 4294967296 (dig a) k + S 4294967296 (dig b) k ∧ wr.ownsRow w.heap.size 90 1 (.slice (some ⟨w.heap.size, 0, none⟩) (a.length + 1) (a.length + 1)) (a.length + 1) (dcells .u32 out) ∧ Below w.heap.size w wr)
      (fun _ i _ => a.length - (intOf i).toNat)
    case atStart => exact ⟨0, 0, List.replicate (a.length + 1) 0, Nat.zero_le _, rfl, rfl, Nat.zero_le _, by simp, fun i => by rw [dig_replicate]; omega, by simp [S], hown, hbel⟩
    case round =>
      obtain ⟨k, c, out, hk, rfl, rfl, hc1, hol, hsm, hS, hownr, hbelr⟩ := hrel
      have HSm : Hid (∀ i, dig out i < 4294967296) := hsm
      have HS : Hid (S 4294967296 (dig out) k + c * 4294967296 ^ k = S 4294967296 (dig a) k + S 4294967296 (dig b) k) := hS
      have HO : Hid (out.length = a.length + 1) := hol
      clear hsm hS hown hbel hol
      have hkl : k < out.length := by have := HO.out; omega
      have hcell := hownr.cellAt k (by omega)
      rw [dcells_at .u32 out k hkl] at hcell
      have hfr := hownr.frozenAt k
      by_cases hlt : k < a.length
      · obtain ⟨bp, offp, hpp, hbp, hclp⟩ := HCA.out k hlt
        subst hpp
        have hcp : wr.cell? ⟨bp, offp + k, none⟩ = some (.int .u32 ((dig a k : Nat) : Int)) := (hbelr.cell (p := ⟨bp, offp + k, none⟩) hbp).trans hclp
        have hx := HNA.out k
        generalize hdx : dig a k = x at *
        have HX : Hid (dig a k = x) := hdx
        clear hdx hclp
        have hst : ∀ y, dig b k = y → y < 4294967296 → S 4294967296 (dig (out.set k ((x + y + c) % 4294967296))) (k + 1) + (x + y + c) / 4294967296 * 4294967296 ^ (k + 1) = S 4294967296 (dig a) (k + 1) + S 4294967296 (dig b) (k + 1) := fun y hy _ => add_step hkl HS.out HX.out hy
        have HST := hst
        have HST' : Hid (∀ y, dig b k = y → y < 4294967296 → S 4294967296 (dig (out.set k ((x + y + c) % 4294967296))) (k + 1) + (x + y + c) / 4294967296 * 4294967296 ^ (k + 1) = S 4294967296 (dig a) (k + 1) + S 4294967296 (dig b) (k + 1)) := HST
        clear hst HST
        by_cases hq : k < b.length
        · obtain ⟨bq, offq, hqq, hbq, hclq⟩ := HCB.out k hq
          subst hqq
          have hcq : wr.cell? ⟨bq, offq + k, none⟩ = some (.int .u32 ((dig b k : Nat) : Int)) := (hbelr.cell (p := ⟨bq, offq + k, none⟩) hbq).trans hclq
          have hy := HNB.out k
          generalize hdy : dig b k = y at *
          have HY : Hid (dig b k = y) := hdy
          clear hdy hclq
          have e1 : IntKind.u32.wrap ((c : Int) + x + y) = (((x + y + c) % 4294967296 : Nat) : Int) := by rw [IntKind.wrap_u32]; omega
          go_wp2
          go_roundw
          case rel =>
            have e3 : ((x : Int) + y + c) % 4294967296 = (((x + y + c) % 4294967296 : Nat) : Int) := by omega
            have e4 : ((c : Int) + x + y) / 4294967296 = (((x + y + c) / 4294967296 : Nat) : Int) := by omega
            rw [e3, e4]
            exact ⟨k + 1, (x + y + c) / 4294967296, out.set k ((x + y + c) % 4294967296), by omega, by go_num, rfl, by omega, by rw [List.length_set]; exact HO.out, small_set hkl HSm.out (by omega), HST'.out y rfl hy, owns_set hownr k _, hbelr.setCell (Nat.le_refl _) _⟩
          case measure => simp [intOf]; omega
        · have hy0 := dig_beyond b k (by omega)
          have e1 : IntKind.u32.wrap ((c : Int) + x) = (((x + 0 + c) % 4294967296 : Nat) : Int) := by rw [IntKind.wrap_u32]; omega
          have HY : Hid (dig b k = 0) := hy0
          clear hy0
          go_wp2
          go_roundw
          case rel =>
            have e3 : ((x : Int) + c) % 4294967296 = (((x + 0 + c) % 4294967296 : Nat) : Int) := by omega
            have e4 : ((c : Int) + x) / 4294967296 = (((x + 0 + c) / 4294967296 : Nat) : Int) := by omega
            rw [e3, e4]
            exact ⟨k + 1, (x + 0 + c) / 4294967296, out.set k ((x + 0 + c) % 4294967296), by omega, by go_num, rfl, by omega, by rw [List.length_set]; exact HO.out, small_set hkl HSm.out (by omega), HST'.out 0 HY.out (by omega), owns_set hownr k _, hbelr.setCell (Nat.le_refl _) _⟩
          case measure => simp [intOf]; omega
      · obtain rfl : k = a.length := by omega
        have hva := S_val 4294967296 a a.length (Nat.le_refl _)
        have hvb := S_val 4294967296 b a.length (by omega)
        have hE := HS.out
        rw [hva, hvb] at hE
        have HV : Hid (val 4294967296 (out.set a.length c) = val 4294967296 a + val 4294967296 b) := by
          show _ = _
          have h1 : (out.set a.length c).length = a.length + 1 := by rw [List.length_set]; exact HO.out
          unfold val
          rw [h1, S_succ, dig_set _ _ _ _ hkl, if_pos rfl, S_congr 4294967296 (dig (out.set a.length c)) (dig out) a.length (fun i hi => by rw [dig_set _ _ _ _ hkl, if_neg (by omega)])]
          unfold val at hE
          omega
        have e1 : IntKind.u32.wrap (c : Int) = (c : Int) := by rw [IntKind.wrap_u32]; omega
        have HL : Hid ((out.set a.length c).length = a.length + 1) := by show _ = _; rw [List.length_set]; exact HO.out
        have hown2 := owns_set hownr a.length c
        have hsm2 : ∀ i, dig (out.set a.length c) i < 4294967296 := small_set hkl HSm.out (by omega)
        have hbel2 := hbelr.setCell (p := ⟨w.heap.size, a.length, none⟩) (Nat.le_refl _) (.int .u32 (c : Int))
        rw [show a.length + 1 = (out.set a.length c).length from HL.out.symm] at hown2
        have hD := Dig.of_owns hown2
        rw [HL.out] at hD
        clear hva hvb hE hown2
        go_wp2_with fail
        refine (trim_any _ _ _ hD hsm2 (by have := HL.out; omega)).mono ?_
        rintro e w2 ⟨v2, rfl, rfl, ds2, hd2, hn2, hv2, hl2⟩
        go_wp2
        go_ret
        exact ⟨v2, rfl, ds2, hd2, hn2, by rw [hv2]; exact HV.out, hbel2⟩
end Go.Proofs.YtfangnjdfmaaoaaDoor
