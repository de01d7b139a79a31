/- The reference's numbers: mul. -/
import Derived.Test.YtfangnjdfmaaoaaDoorBigTrim
import Derived.Test.YtfangnjdfmaaoaaDoorBigAdd
namespace Go.Proofs.YtfangnjdfmaaoaaDoor
open Go.RowKit Num Go.Sort

set_option maxRecDepth 100000 in
set_option maxHeartbeats 1000000 in
theorem bmul_nil (aa ab : Option Addr) (m n ca cb : Nat) (w : World) (h : m = 0 ∨ n = 0) (hm : m ≤ 5000) (hn : n ≤ 5000) :
    Calls Tryd.prog 50 #[.slice aa m ca, .slice ab n cb] w fun e w' => e = .returned (.slice none 0 0) ∧ w = w' := by
  by_cases h0 : m = 0
  · subst h0
    clear h
    go_enter Tryd.func50, Tryd.ntmps50
    go_wp2
    go_ret
    exact ⟨rfl, rfl⟩
  · have h1 : n = 0 := by omega
    subst h1
    have hb : ((m : Int) == 0) = false := by rw [beq_eq_false_iff_ne]; omega
    clear h h0
    go_enter Tryd.func50, Tryd.ntmps50
    go_wp2
    go_ret
    exact ⟨rfl, rfl⟩

set_option maxRecDepth 100000 in
set_option maxHeartbeats 2000000 in
theorem bmul_any (va vb : Value) (a b : List Nat) (w : World) (ha : Dig .u32 w va a) (hb : Dig .u32 w vb b) (na : ∀ i, dig a i < 4294967296) (nb : ∀ i, dig b i < 4294967296) (la : a.length ≤ 5000) (lb : b.length ≤ 5000) (pa : a.length ≠ 0) (pb : b.length ≠ 0) :
    Calls Tryd.prog 50 #[va, vb] w fun e w' => ∃ v', e = .returned v' ∧ ∃ ds', Dig .u32 w' v' ds' ∧ Norm 4294967296 ds' ∧ val 4294967296 ds' = val 4294967296 a * val 4294967296 b ∧ Below w.heap.size w w' := by
  obtain ⟨aa, ca, eva, hca, hcella⟩ := id ha
  obtain ⟨ab, cb, evb, hcb, hcellb⟩ := id hb
  subst eva evb
  have HCA : Hid (∀ i, i < a.length → ∃ b off, aa = some ⟨b, off, none⟩ ∧ b < w.heap.size ∧ w.cell? ⟨b, off + i, none⟩ = some (.int .u32 ((dig a i : Nat) : Int))) := hcella
  have HCB : Hid (∀ i, i < b.length → ∃ b' off, ab = some ⟨b', off, none⟩ ∧ b' < w.heap.size ∧ w.cell? ⟨b', off + i, none⟩ = some (.int .u32 ((dig b i : Nat) : Int))) := hcellb
  clear hcella hcellb hca hcb ha hb
  obtain ⟨i0, hi, hz0, hz1, hz2⟩ := info_parts info90
  have HNA : Hid (∀ i, dig a i < 4294967296) := na
  have HNB : Hid (∀ i, dig b i < 4294967296) := nb
  have g1 : ((a.length : Int) == 0) = false := by rw [beq_eq_false_iff_ne]; omega
  have g2 : ((b.length : Int) == 0) = false := by rw [beq_eq_false_iff_ne]; omega
  clear na nb
  go_enter Tryd.func50, Tryd.ntmps50
  go_wp2_with (at_make; refine wpList_make_full _ rfl _ _ 45 rfl w.heap.size 90 i0 (.int .u32 0) 1 Tryd.underlying45 hi hz0 hz1 .i64 .i64 _ _ (a.length + b.length) rfl rfl ?c1 ?c2 ?c3 ?c4 ?c5 ?_)
  case c1 => omega
  case c2 => omega
  case c3 => rw [hz2]; omega
  case c4 => unfold maxLen; omega
  case c5 => omega
  intro w1 hown hgrow
  rw [dcells_made] at hown
  have hbel : Below w.heap.size w w1 := (Below.refl _ _).grown hgrow (Nat.le_refl _) (fun k hk => by cases hk)
  clear hgrow g1 g2
  go_wp2_with fail
  go_loopw [6] (fun iv wr => ∃ (i : Nat) (out : List Nat), i ≤ a.length ∧ iv = .int .i64 i ∧ out.length = a.length + b.length ∧ (∀ t, dig out t < 4294967296) ∧ (∀ t, i + b.length ≤ t → dig out t = 0) ∧ S 4294967296 (dig out) (i + b.length) = S 4294967296 (dig a) i * val 4294967296 b ∧ wr.ownsRow w.heap.size 90 1 (.slice (some ⟨w.heap.size, 0, none⟩) (a.length + b.length) (a.length + b.length)) (a.length + b.length) (dcells .u32 out) ∧ Below w.heap.size w wr)
    (fun iv _ => a.length - (intOf iv).toNat)
  case atStart =>
    refine ⟨0, List.replicate (a.length + b.length) 0, Nat.zero_le _, rfl, by simp, fun t => by rw [dig_replicate]; omega, fun t _ => dig_replicate _ _, ?_, hown, hbel⟩
    have : S 4294967296 (dig (List.replicate (a.length + b.length) 0)) (0 + b.length) = 0 := by
      have := S_above 4294967296 (dig (List.replicate (a.length + b.length) 0)) 0 (b.length) (fun i _ => dig_replicate _ _)
      rw [this]; rfl
    rw [this]; simp [S]
  case round =>
    obtain ⟨i, out, hil, rfl, hol, hsm, hzz, hS, hownr, hbelr⟩ := hrel
    clear hown hbel
    have HZ : Hid (∀ t, i + b.length ≤ t → dig out t = 0) := hzz
    have HS : Hid (S 4294967296 (dig out) (i + b.length) = S 4294967296 (dig a) i * val 4294967296 b) := hS
    have HO : Hid (out.length = a.length + b.length) := hol
    have HSm : Hid (∀ t, dig out t < 4294967296) := hsm
    clear hzz hS hol hsm
    by_cases hlt : i < a.length
    · obtain ⟨ba, offa, haa, hba, hcla⟩ := HCA.out i hlt
      subst haa
      obtain ⟨wo, ewo⟩ : ∃ wo : World, wo = wr := ⟨_, rfl⟩
      go_wp2_with fail
      subst ewo
      go_loopw [7, 8] (fun cv jv wr => ∃ (j c : Nat) (out' : List Nat), j ≤ b.length ∧ jv = .int .i64 j ∧ cv = .int .u64 c ∧ c < 4294967296 ∧ out'.length = a.length + b.length ∧ (∀ t, dig out' t < 4294967296) ∧ (∀ t, i + b.length ≤ t → dig out' t = 0) ∧ S 4294967296 (dig out') (i + b.length) + c * 4294967296 ^ (i + j) = S 4294967296 (dig a) i * val 4294967296 b + dig a i * 4294967296 ^ i * S 4294967296 (dig b) j ∧ wr.ownsRow w.heap.size 90 1 (.slice (some ⟨w.heap.size, 0, none⟩) (a.length + b.length) (a.length + b.length)) (a.length + b.length) (dcells .u32 out') ∧ Below w.heap.size w wr)
        (fun _ jv _ => b.length - (intOf jv).toNat)
      case atStart => exact ⟨0, 0, out, Nat.zero_le _, rfl, rfl, by omega, HO.out, HSm.out, HZ.out, by rw [HS.out]; simp [S], hownr, hbelr⟩
      case round =>
        obtain ⟨j, c, out', hjl, rfl, rfl, hcb, hol', hsm', hzz', hS', hownj, hbelj⟩ := hrel
        clear hownr hbelr
        have HZ' : Hid (∀ t, i + b.length ≤ t → dig out' t = 0) := hzz'
        have HS' : Hid (S 4294967296 (dig out') (i + b.length) + c * 4294967296 ^ (i + j) = S 4294967296 (dig a) i * val 4294967296 b + dig a i * 4294967296 ^ i * S 4294967296 (dig b) j) := hS'
        have HO' : Hid (out'.length = a.length + b.length) := hol'
        have HSm' : Hid (∀ t, dig out' t < 4294967296) := hsm'
        clear hzz' hS' hol' hsm'
        by_cases hjlt : j < b.length
        · obtain ⟨bb, offb, hab, hbb, hclb⟩ := HCB.out j hjlt
          subst hab
          have hca : wr.cell? ⟨ba, offa + i, none⟩ = some (.int .u32 ((dig a i : Nat) : Int)) := (hbelj.cell (p := ⟨ba, offa + i, none⟩) hba).trans hcla
          have hcb' : wr.cell? ⟨bb, offb + j, none⟩ = some (.int .u32 ((dig b j : Nat) : Int)) := (hbelj.cell (p := ⟨bb, offb + j, none⟩) hbb).trans hclb
          have hkl : i + j < out'.length := by have := HO'.out; omega
          have hcell := hownj.cellAt (i + j) (by omega)
          rw [dcells_at .u32 out' (i + j) hkl] at hcell
          have hfr := hownj.frozenAt (i + j)
          have hx := HNA.out i
          have hy := HNB.out j
          have ho := HSm'.out (i + j)
          have hmul : dig a i * dig b j ≤ 4294967295 * 4294967295 := Nat.mul_le_mul (by omega) (by omega)
          clear hcla hclb
          generalize hdx : dig a i = x at *
          generalize hdy : dig b j = y at *
          generalize hdo : dig out' (i + j) = o at *
          have HX : Hid (dig a i = x) := hdx
          have HY : Hid (dig b j = y) := hdy
          have HOO : Hid (dig out' (i + j) = o) := hdo
          clear hdx hdy hdo
          obtain ⟨z, hz⟩ : ∃ z, z = x * y := ⟨_, rfl⟩
          rw [← hz] at hmul
          have e0 : (x : Int) * (y : Int) = (z : Int) := by rw [hz, Int.natCast_mul]
          have HZZ : Hid (z = x * y) := hz
          clear hz
          have e1 : ((i : Int) + (j : Int)).toNat = i + j := by omega
          have e2 : IntKind.u32.wrap ((c : Int) + ((z : Int) + (o : Int))) = (((o + z + c) % 4294967296 : Nat) : Int) := by rw [IntKind.wrap_u32]; omega
          go_wp2_with fail
          go_quiet (fail)
          go_wp2
          go_roundw
          case rel =>
            have e3 : ((o : Int) + z + c) % 4294967296 = (((o + x * y + c) % 4294967296 : Nat) : Int) := by rw [← HZZ.out]; omega
            have e4 : ((c : Int) + (z + o)) / 4294967296 = (((o + x * y + c) / 4294967296 : Nat) : Int) := by rw [← HZZ.out]; omega
            rw [e3, e4]
            have hstep := mul_step (B := 4294967296) (N := i + b.length) hkl (by omega) HS'.out HY.out HOO.out
            refine ⟨j + 1, (o + x * y + c) / 4294967296, out'.set (i + j) ((o + x * y + c) % 4294967296), by omega, by go_num, rfl, by rw [← HZZ.out]; omega, by rw [List.length_set]; exact HO'.out, small_set hkl HSm'.out (by omega), ?_, hstep, ?_, ?_⟩
            · intro t ht
              rw [dig_set _ _ _ _ hkl, if_neg (by omega)]
              exact HZ'.out t ht
            · exact owns_below (owns_set hownj (i + j) _) (below_drewN (Below.refl _ _) nq)
            · exact below_drewN (hbelj.setCell (Nat.le_refl _) _) nq
          case measure => simp [intOf]; omega
        · obtain rfl : j = b.length := by omega
          have hkl : i + b.length < out'.length := by have := HO'.out; omega
          have hcell := hownj.cellAt (i + b.length) (by omega)
          rw [dcells_at .u32 out' (i + b.length) hkl] at hcell
          have hfr := hownj.frozenAt (i + b.length)
          have e1 : ((i : Int) + (b.length : Int)).toNat = i + b.length := by omega
          have e2 : IntKind.u32.wrap (c : Int) = (c : Int) := by rw [IntKind.wrap_u32]; omega
          go_wp2
          go_roundw
          case rel =>
            have hrow := mul_row (B := 4294967296) (vb := val 4294967296 b) hkl HS'.out rfl
            refine ⟨i + 1, out'.set (i + b.length) c, by omega, by go_num, by rw [List.length_set]; exact HO'.out, small_set hkl HSm'.out hcb, ?_, hrow, ?_, ?_⟩
            · intro t ht
              rw [dig_set _ _ _ _ hkl, if_neg (by omega)]
              exact HZ'.out t (by omega)
            · exact owns_set hownj (i + b.length) _
            · exact hbelj.setCell (Nat.le_refl _) _
          case measure => simp [intOf]; omega
    · obtain rfl : i = a.length := by omega
      have hE := HS.out
      have hvo := S_val 4294967296 out (a.length + b.length) (by have := HO.out; omega)
      have hva := S_val 4294967296 a a.length (Nat.le_refl _)
      rw [hvo, hva] at hE
      have HVO : Hid (val 4294967296 out = val 4294967296 a * val 4294967296 b) := hE
      clear hvo hva hE
      rw [show a.length + b.length = out.length from HO.out.symm] at hownr
      have hD := Dig.of_owns hownr
      rw [HO.out] at hD
      clear hownr
      go_wp2_with fail
      refine (trim_any _ out _ hD HSm.out (by have := HO.out; omega)).mono ?_
      rintro e w2 ⟨v2, rfl, rfl, ds2, hd2, hn2, hv2, hl2⟩
      go_wp2
      go_ret
      exact ⟨v2, rfl, ds2, hd2, hn2, by rw [hv2]; exact HVO.out, hbelr⟩

theorem BigIs.len {w : World} {v : Value} {n : Nat} (h : BigIs w v n) (hn : n < 4294967296 ^ 1000) : ∃ ds, Dig .u32 w v ds ∧ Norm 4294967296 ds ∧ val 4294967296 ds = n ∧ ds.length ≤ 1000 := by
  obtain ⟨ds, h1, h2, h3⟩ := h
  exact ⟨ds, h1, h2, h3, norm_len (by omega) h2 (by rw [h3]; exact hn)⟩

theorem bmul_big {va vb : Value} {x y : Nat} {w : World} (ha : BigIs w va x) (hb : BigIs w vb y) (hx : x < 4294967296 ^ 1000) (hy : y < 4294967296 ^ 1000) :
    Calls Tryd.prog 50 #[va, vb] w fun e w' => ∃ v', e = .returned v' ∧ BigIs w' v' (x * y) ∧ Below w.heap.size w w' := by
  obtain ⟨a, a1, a2, a3, a4⟩ := ha.len hx
  obtain ⟨b, b1, b2, b3, b4⟩ := hb.len hy
  by_cases h : a.length = 0 ∨ b.length = 0
  · obtain ⟨aa, ca, rfl, -⟩ := id a1
    obtain ⟨ab, cb, rfl, -⟩ := id b1
    refine (bmul_nil aa ab a.length b.length ca cb w h (by omega) (by omega)).mono ?_
    rintro e w' ⟨rfl, rfl⟩
    have hz : x * y = 0 := by
      rcases h with h | h
      · have := (val_zero (B := 4294967296) (by omega) a2).2 h
        rw [← a3, this, Nat.zero_mul]
      · have := (val_zero (B := 4294967296) (by omega) b2).2 h
        rw [← b3, this, Nat.mul_zero]
    exact ⟨_, rfl, (BigIs.nil _).cast hz.symm, Below.refl _ _⟩
  · refine (bmul_any va vb a b w a1 b1 a2.small b2.small (by omega) (by omega) (by omega) (by omega)).mono ?_
    rintro e w' ⟨v', rfl, ds, d1, d2, d3, hb⟩
    exact ⟨v', rfl, ⟨ds, d1, d2, by rw [d3, a3, b3]⟩, hb⟩

theorem badd_big {va vb : Value} {x y : Nat} {w : World} (ha : BigIs w va x) (hb : BigIs w vb y) (hx : x < 4294967296 ^ 1000) (hy : y < 4294967296 ^ 1000) :
    Calls Tryd.prog 55 #[va, vb] w fun e w' => ∃ v', e = .returned v' ∧ BigIs w' v' (x + y) ∧ Below w.heap.size w w' := by
  obtain ⟨a, a1, a2, a3, a4⟩ := ha.len hx
  obtain ⟨b, b1, b2, b3, b4⟩ := hb.len hy
  refine (badd_any va vb a b w a1 b1 a2.small b2.small (by omega) (by omega)).mono ?_
  rintro e w' ⟨v', rfl, ds, d1, d2, d3, hb⟩
  exact ⟨v', rfl, ⟨ds, d1, d2, by rw [d3, a3, b3]⟩, hb⟩
end Go.Proofs.YtfangnjdfmaaoaaDoor
