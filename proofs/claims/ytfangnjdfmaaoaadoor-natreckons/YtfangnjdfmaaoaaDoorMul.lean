/- The contract of Mul. -/
import Derived.Test.YtfangnjdfmaaoaaDoorTrim
import Derived.Test.YtfangnjdfmaaoaaDoorOf
namespace Go.Proofs.YtfangnjdfmaaoaaDoor
open Go.RowKit Num Go.Sort

set_option maxRecDepth 100000 in
set_option maxHeartbeats 2000000 in
theorem mul_any (va vb : Value) (a b : List Nat) (w : World) (ha : Dig .u64 w va a) (hb : Dig .u64 w vb b) (na : ∀ i, dig a i < 1000000000) (nb : ∀ i, dig b i < 1000000000) (la : a.length ≤ 5000) (lb : b.length ≤ 5000) :
    Calls Tryd.prog 24 #[.agg #[va], .agg #[vb]] w fun e w' => ∃ v', e = .returned (.agg #[v']) ∧ ∃ ds', Dig .u64 w' v' ds' ∧ Norm 1000000000 ds' ∧ val 1000000000 ds' = val 1000000000 a * val 1000000000 b ∧ ds'.length ≤ a.length + b.length ∧ Below w.heap.size w w' := by
  obtain ⟨aa, ca, eva, hca, hcella⟩ := id ha
  obtain ⟨ab, cb, evb, hcb, hcellb⟩ := id hb
  subst eva evb
  have HCA : Hid (∀ i, i < a.length → ∃ b off, aa = some ⟨b, off, none⟩ ∧ b < w.heap.size ∧ w.cell? ⟨b, off + i, none⟩ = some (.int .u64 ((dig a i : Nat) : Int))) := hcella
  have HCB : Hid (∀ i, i < b.length → ∃ b' off, ab = some ⟨b', off, none⟩ ∧ b' < w.heap.size ∧ w.cell? ⟨b', off + i, none⟩ = some (.int .u64 ((dig b i : Nat) : Int))) := hcellb
  clear hcella hcellb hca hcb ha hb
  obtain ⟨i0, hi, hz0, hz1, hz2⟩ := info_parts info62
  have HNA : Hid (∀ i, dig a i < 1000000000) := na
  have HNB : Hid (∀ i, dig b i < 1000000000) := nb
  clear na nb
  go_enter Tryd.func24, Tryd.ntmps24
  go_wp2_with fail
  go_quiet (fail)
  go_wp2_with (at_make; refine wpList_make_full _ rfl _ _ 26 rfl (w.heap.size + 3) 62 i0 (.int .u64 0) 1 Tryd.underlying26 hi hz0 hz1 .i64 .i64 _ _ (a.length + b.length) rfl rfl ?c1 ?c2 ?c3 ?c4 ?c5 ?_)
  case c1 => omega
  case c2 => omega
  case c3 => rw [hz2]; omega
  case c4 => unfold maxLen; omega
  case c5 => simp
  intro w1 hown hgrow
  rw [dcells_made] at hown
  have hbel : Below (w.heap.size + 3) (((w.alloc (.cells #[.slice aa a.length ca] 28)).alloc (.cells #[.slice ab b.length cb] 28)).alloc (.cells #[.slice none 0 0] 28)) w1 := (below_drewN (Below.refl _ _) nq).grown hgrow (by simp) (fun k hk => by cases hk)
  clear hgrow
  go_wp2_with fail
  go_loopw [23] (fun iv wr => ∃ (i : Nat) (out : List Nat), i ≤ a.length ∧ iv = .int .i64 i ∧ out.length = a.length + b.length ∧ (∀ t, dig out t < 1000000000) ∧ (∀ t, i + b.length ≤ t → dig out t = 0) ∧ S 1000000000 (dig out) (i + b.length) = S 1000000000 (dig a) i * val 1000000000 b ∧ wr.ownsRow (w.heap.size + 3) 62 1 (.slice (some ⟨w.heap.size + 1 + 1 + 1, 0, none⟩) (a.length + b.length) (a.length + b.length)) (a.length + b.length) (dcells .u64 out) ∧ Below (w.heap.size + 3) (((w.alloc (.cells #[.slice aa a.length ca] 28)).alloc (.cells #[.slice ab b.length cb] 28)).alloc (.cells #[.slice none 0 0] 28)) wr)
    (fun iv _ => a.length - (intOf iv).toNat)
  case atStart =>
    refine ⟨0, List.replicate (a.length + b.length) 0, Nat.zero_le _, rfl, by simp, fun t => by rw [dig_replicate]; omega, fun t _ => dig_replicate _ _, ?_, hown, hbel⟩
    have : S 1000000000 (dig (List.replicate (a.length + b.length) 0)) (0 + b.length) = 0 := by
      have := S_above 1000000000 (dig (List.replicate (a.length + b.length) 0)) 0 (b.length) (fun i _ => dig_replicate _ _)
      rw [this]; rfl
    rw [this]; simp [S]
  case round =>
    obtain ⟨i, out, hil, rfl, hol, hsm, hzz, hS, hownr, hbelr⟩ := hrel
    clear hown hbel
    have HZ : Hid (∀ t, i + b.length ≤ t → dig out t = 0) := hzz
    have HS : Hid (S 1000000000 (dig out) (i + b.length) = S 1000000000 (dig a) i * val 1000000000 b) := hS
    have HO : Hid (out.length = a.length + b.length) := hol
    have HSm : Hid (∀ t, dig out t < 1000000000) := hsm
    clear hzz hS hol hsm
    have hsz := hbelr.size
    simp only [World.size_alloc] at hsz
    by_cases hlt : i < a.length
    · obtain ⟨ba, offa, haa, hba, hcla⟩ := HCA.out i hlt
      subst haa
      obtain ⟨wo, ewo⟩ : ∃ wo : World, wo = wr := ⟨_, rfl⟩
      go_wp2_with fail
      subst ewo
      go_loopw [9, 27] (fun cv jv wr => ∃ (j c : Nat) (out' : List Nat), j ≤ b.length ∧ jv = .int .i64 j ∧ cv = .int .u64 c ∧ c < 1000000000 ∧ out'.length = a.length + b.length ∧ (∀ t, dig out' t < 1000000000) ∧ (∀ t, i + b.length ≤ t → dig out' t = 0) ∧ S 1000000000 (dig out') (i + b.length) + c * 1000000000 ^ (i + j) = S 1000000000 (dig a) i * val 1000000000 b + dig a i * 1000000000 ^ i * S 1000000000 (dig b) j ∧ wr.ownsRow (w.heap.size + 3) 62 1 (.slice (some ⟨w.heap.size + 1 + 1 + 1, 0, none⟩) (a.length + b.length) (a.length + b.length)) (a.length + b.length) (dcells .u64 out') ∧ Below (w.heap.size + 3) (((w.alloc (.cells #[.slice (some ⟨ba, offa, none⟩) a.length ca] 28)).alloc (.cells #[.slice ab b.length cb] 28)).alloc (.cells #[.slice none 0 0] 28)) wr)
        (fun _ jv _ => b.length - (intOf jv).toNat)
      case atStart => exact ⟨0, 0, out, Nat.zero_le _, rfl, rfl, by omega, HO.out, HSm.out, HZ.out, by rw [HS.out]; simp [S], hownr, hbelr⟩
      case round =>
        obtain ⟨j, c, out', hjl, rfl, rfl, hcb, hol', hsm', hzz', hS', hownj, hbelj⟩ := hrel
        clear hownr hbelr
        have HZ' : Hid (∀ t, i + b.length ≤ t → dig out' t = 0) := hzz'
        have HS' : Hid (S 1000000000 (dig out') (i + b.length) + c * 1000000000 ^ (i + j) = S 1000000000 (dig a) i * val 1000000000 b + dig a i * 1000000000 ^ i * S 1000000000 (dig b) j) := hS'
        have HO' : Hid (out'.length = a.length + b.length) := hol'
        have HSm' : Hid (∀ t, dig out' t < 1000000000) := hsm'
        clear hzz' hS' hol' hsm'
        have hszj := hbelj.size
        simp only [World.size_alloc] at hszj
        have hbw : Below w.heap.size w wr := ((((Below.refl _ _).alloc (Nat.le_refl _) _).alloc (by simp) _).alloc (by simp; omega) _).trans (hbelj.mono (by omega))
        by_cases hjlt : j < b.length
        · obtain ⟨bb, offb, hab, hbb, hclb⟩ := HCB.out j hjlt
          subst hab
          have c0 : wr.cell? ⟨w.heap.size, 0, none⟩ = some (.slice (some ⟨ba, offa, none⟩) a.length ca) := (hbelj.cell (p := ⟨w.heap.size, 0, none⟩) (by show w.heap.size < _; omega)).trans (cell3_0 _ _ _ _ _)
          have c1 : wr.cell? ⟨w.heap.size + 1, 0, none⟩ = some (.slice (some ⟨bb, offb, none⟩) b.length cb) := (hbelj.cell (p := ⟨w.heap.size + 1, 0, none⟩) (by show w.heap.size + 1 < _; omega)).trans (cell3_1 _ _ _ _ _)
          have hca : wr.cell? ⟨ba, offa + i, none⟩ = some (.int .u64 ((dig a i : Nat) : Int)) := (hbw.cell (p := ⟨ba, offa + i, none⟩) hba).trans hcla
          have hcb' : wr.cell? ⟨bb, offb + j, none⟩ = some (.int .u64 ((dig b j : Nat) : Int)) := (hbw.cell (p := ⟨bb, offb + j, none⟩) hbb).trans hclb
          have hkl : i + j < out'.length := by have := HO'.out; omega
          have hcell := hownj.cellAt (i + j) (by omega)
          rw [dcells_at .u64 out' (i + j) hkl] at hcell
          have hfr := hownj.frozenAt (i + j)
          have hx := HNA.out i
          have hy := HNB.out j
          have ho := HSm'.out (i + j)
          have hmul : dig a i * dig b j ≤ 999999999 * 999999999 := Nat.mul_le_mul (by omega) (by omega)
          clear hcla hclb hbw
          generalize hdx : dig a i = x at *
          generalize hdy : dig b j = y at *
          generalize hdo : dig out' (i + j) = o at *
          have HX : Hid (dig a i = x) := hdx
          have HY : Hid (dig b j = y) := hdy
          have HOO : Hid (dig out' (i + j) = o) := hdo
          clear hdx hdy hdo
          obtain ⟨z, hz⟩ : ∃ z, z = x * y := ⟨_, rfl⟩
          rw [← hz] at hmul
          have e0 : (x : Int) * (y : Int) = (z : Int) := by rw [hz, Int.natCast_mul]
          have HZZ : Hid (z = x * y) := hz
          clear hz
          have e1 : ((i : Int) + (j : Int)).toNat = i + j := by omega
          go_wp2_with fail
          go_quiet (fail)
          go_wp2
          go_roundw
          case rel =>
            have e3 : ((o : Int) + z + c) % 1000000000 = (((o + x * y + c) % 1000000000 : Nat) : Int) := by rw [← HZZ.out]; omega
            have e4 : ((o : Int) + z + c) / 1000000000 = (((o + x * y + c) / 1000000000 : Nat) : Int) := by rw [← HZZ.out]; omega
            rw [e3, e4]
            have hstep := mul_step (B := 1000000000) (N := i + b.length) hkl (by omega) HS'.out HY.out HOO.out
            refine ⟨j + 1, (o + x * y + c) / 1000000000, out'.set (i + j) ((o + x * y + c) % 1000000000), by omega, by go_num, rfl, by rw [← HZZ.out]; omega, by rw [List.length_set]; exact HO'.out, small_set hkl HSm'.out (by omega), ?_, hstep, ?_, ?_⟩
            · intro t ht
              rw [dig_set _ _ _ _ hkl, if_neg (by omega)]
              exact HZ'.out t ht
            · exact owns_below (owns_set hownj (i + j) _) (below_drewN (Below.refl _ _) nq)
            · exact below_drewN (hbelj.setCell (by show _ ≤ w.heap.size + 1 + 1 + 1; omega) _) nq
          case measure => simp [intOf]; omega
        · obtain rfl : j = b.length := by omega
          have hkl : i + b.length < out'.length := by have := HO'.out; omega
          have hcell := hownj.cellAt (i + b.length) (by omega)
          rw [dcells_at .u64 out' (i + b.length) hkl] at hcell
          have hfr := hownj.frozenAt (i + b.length)
          have e1 : ((i : Int) + (b.length : Int)).toNat = i + b.length := by omega
          go_wp2
          go_roundw
          case rel =>
            have hrow := mul_row (B := 1000000000) (vb := val 1000000000 b) hkl HS'.out rfl
            refine ⟨i + 1, out'.set (i + b.length) c, by omega, by go_num, by rw [List.length_set]; exact HO'.out, small_set hkl HSm'.out hcb, ?_, hrow, ?_, ?_⟩
            · intro t ht
              rw [dig_set _ _ _ _ hkl, if_neg (by omega)]
              exact HZ'.out t (by omega)
            · exact owns_set hownj (i + b.length) _
            · exact hbelj.setCell (by show _ ≤ w.heap.size + 1 + 1 + 1; omega) _
          case measure => simp [intOf]; omega
    · obtain rfl : i = a.length := by omega
      have hE := HS.out
      have hvo := S_val 1000000000 out (a.length + b.length) (by have := HO.out; omega)
      have hva := S_val 1000000000 a a.length (Nat.le_refl _)
      rw [hvo, hva] at hE
      have HVO : Hid (val 1000000000 out = val 1000000000 a * val 1000000000 b) := hE
      clear hvo hva hE
      rw [show a.length + b.length = out.length from HO.out.symm] at hownr
      have hD := Dig.of_owns hownr
      rw [HO.out] at hD
      clear hownr
      go_wp2_with fail
      refine (trimmed_any _ out _ hD HSm.out (by have := HO.out; omega)).mono ?_
      rintro e w2 ⟨v2, rfl, ds2, hd2, hn2, hv2, hl2, hb2⟩
      obtain ⟨a2, cap2, ev2, -, -⟩ := id hd2
      subst ev2
      have hb3 : Below (w.heap.size + 3) (((w.alloc (.cells #[.slice aa a.length ca] 28)).alloc (.cells #[.slice ab b.length cb] 28)).alloc (.cells #[.slice none 0 0] 28)) w2 := hbelr.trans (hb2.mono (by omega))
      have hc : w2.cell? ⟨w.heap.size + 1 + 1, 0, none⟩ = some (.slice none 0 0) := (hb3.cell (p := ⟨w.heap.size + 1 + 1, 0, none⟩) (by show w.heap.size + 1 + 1 < _; omega)).trans (cell3_2 _ _ _ _ _)
      have hf : w2.frozen? ⟨w.heap.size + 1 + 1, 0, none⟩ = false := (hb3.frozen (p := ⟨w.heap.size + 1 + 1, 0, none⟩) (by show w.heap.size + 1 + 1 < _; omega)).trans (frozen3_2 _ _ _ _ _)
      have hcs : (w2.setCell ⟨w.heap.size + 1 + 1, 0, none⟩ (.slice a2 ds2.length cap2)).cell? ⟨w.heap.size + 1 + 1, 0, none⟩ = some (.slice a2 ds2.length cap2) := World.cell?_setCell_same' _ _ _ (by simp [hc])
      go_wp2
      refine bodyPost_ret (v := .agg #[.slice a2 ds2.length cap2]) (by simp [results, Tryd.results24, go_sem, hcs]) rfl ?_
      refine ⟨_, rfl, ds2, hd2.set hc (fun n h => by cases h) _, hn2, by rw [hv2]; exact HVO.out, by have := HO.out; omega, ?_⟩
      exact (((((Below.refl _ _).alloc (Nat.le_refl _) _).alloc (by simp) _).alloc (by simp; omega) _).trans (hb3.mono (by omega))).setCell (by show _ ≤ w.heap.size + 1 + 1; omega) _
end Go.Proofs.YtfangnjdfmaaoaaDoor
