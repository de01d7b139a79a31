/- The contracts of Zero and Fits. -/
import Derived.Test.YtfangnjdfmaaoaaDoorCmp
import Derived.Test.YtfangnjdfmaaoaaDoorOf
namespace Go.Proofs.YtfangnjdfmaaoaaDoor
open Go.RowKit Num Go.Sort

set_option maxHeartbeats 400000 in
theorem zero_any (v : Value) (ds : List Nat) (w : World) (hd : Dig .u64 w v ds) (_hl : ds.length ≤ 10000) :
    Calls Tryd.prog 10 #[.agg #[v]] w fun e w' => e = .returned (.bool (ds.length == 0)) ∧ Below w.heap.size w w' := by
  obtain ⟨a, cap, rfl, hc, hcell⟩ := hd
  clear hcell
  by_cases h : ds.length = 0
  · have hb : (ds.length == 0) = true := by simp [h]
    have hi : ((ds.length : Int) == 0) = true := by simp [h]
    rw [hb]
    clear h
    go_enter Tryd.func10, Tryd.ntmps10
    go_wp2
    go_ret
    exact ⟨rfl, (Below.refl _ _).alloc (Nat.le_refl _) _⟩
  · have hb : (ds.length == 0) = false := by simp [h]
    have hi : ((ds.length : Int) == 0) = false := by simp [h]
    rw [hb]
    clear h
    go_enter Tryd.func10, Tryd.ntmps10
    go_wp2
    go_ret
    exact ⟨rfl, (Below.refl _ _).alloc (Nat.le_refl _) _⟩

theorem fits_cmp {v v1 : Value} {a ds1 : List Nat} {w W : World} (ha : Dig .u64 w v a) (na : ∀ i, dig a i < 1000000000) (la : a.length ≤ 10000) (hd1 : Dig .u64 W v1 ds1) (hn1 : Norm 1000000000 ds1) (hv1 : val 1000000000 ds1 = 9223372036854775807) (hb : Below w.heap.size w W) :
    Calls Tryd.prog 26 #[.agg #[v], .agg #[v1]] W fun e w' => e = .returned (.int .i64 (cmpN (val 1000000000 a) 9223372036854775807)) ∧ Below W.heap.size W w' := by
  have h3 : ds1.length ≤ 3 := norm_len (by omega) hn1 (by rw [hv1]; omega)
  have := cmp_any v v1 a ds1 W (ha.below hb) hd1 na hn1.small la (by omega)
  rwa [hv1] at this

set_option maxRecDepth 100000 in
set_option maxHeartbeats 1000000 in
theorem fits_any (v : Value) (a : List Nat) (w : World) (ha : Dig .u64 w v a) (na : ∀ i, dig a i < 1000000000) (la : a.length ≤ 10000) :
    Calls Tryd.prog 11 #[.agg #[v]] w fun e w' => (val 1000000000 a ≤ 9223372036854775807 → e = .returned (.tuple #[.int .i64 (val 1000000000 a : Nat), .bool true])) ∧ (9223372036854775807 < val 1000000000 a → e = .returned (.tuple #[.int .i64 0, .bool false])) ∧ Below w.heap.size w w' := by
  obtain ⟨aa, ca, eva, hca, hcella⟩ := id ha
  subst eva
  go_enter Tryd.func11, Tryd.ntmps11
  go_upto_region 1 with fail
  go_cut [10] (fun c wx => c = .bool (decide (9223372036854775807 < val 1000000000 a)) ∧ Below (w.heap.size + 1) (w.alloc (.cells #[.slice aa a.length ca] 28)) wx)
  case first =>
    go_region_with (first
      | (go_at_call 28; refine (of_any _ _ (by omega) (by omega)).mono ?_; rintro e w1 ⟨v1, rfl, ds1, hd1, hn1, hv1, hb1⟩; have hbw : Below w.heap.size w w1 := (((Below.refl _ _).alloc (Nat.le_refl _) _).drew).trans (hb1.mono (by simp)); have hc1 : w1.cell? ⟨w.heap.size, 0, none⟩ = some (.slice aa a.length ca) := (hb1.cell (p := ⟨w.heap.size, 0, none⟩) (by simp)).trans (by simp))
      | (go_at_call 26; refine (fits_cmp ha na la hd1 hn1 hv1 hbw).mono ?_; rintro e w2 ⟨rfl, hb2⟩; have hbx : Below (w.heap.size + 1) (w.alloc (.cells #[.slice aa a.length ca] 28)) w2 := ((Below.refl _ _).drew.trans (hb1.mono (by simp))).trans (hb2.mono (by have := hb1.size; simp at this; omega))))
    all_goals
      go_wp2_with fail
      go_meet
      case rel => exact ⟨congrArg Value.bool (cmpN_pos _ _), hbx⟩
  case rest =>
    obtain ⟨rfl, hbel⟩ := hcut
    have hbw : Below w.heap.size w wc := ((Below.refl _ _).alloc (Nat.le_refl _) _).trans (hbel.mono (by omega))
    by_cases hbig : 9223372036854775807 < val 1000000000 a
    · have hd : decide (9223372036854775807 < val 1000000000 a) = true := by simp [hbig]
      rw [hd]
      have HB : Hid (9223372036854775807 < val 1000000000 a) := hbig
      clear hd hbig
      go_wp2
      go_ret2
      exact ⟨fun h => by have := HB.out; omega, fun _ => rfl, hbw⟩
    · have hd : decide (9223372036854775807 < val 1000000000 a) = false := by simp [hbig]
      rw [hd]
      have HB : Hid (val 1000000000 a ≤ 9223372036854775807) := by show _ ≤ _; omega
      clear hd hbig
      have c0 : wc.cell? ⟨w.heap.size, 0, none⟩ = some (.slice aa a.length ca) := (hbel.cell (p := ⟨w.heap.size, 0, none⟩) (by simp)).trans (by simp)
      go_wp2_with fail
      go_loop [5, 15] (fun o i => ∃ k t : Nat, k ≤ a.length ∧ i = .int .i64 k ∧ o = .int .i64 t ∧ val 1000000000 a = t * 1000000000 ^ (a.length - k) + S 1000000000 (dig a) (a.length - k)) (fun _ i => a.length - (intOf i).toNat)
      case atStart => exact ⟨0, 0, Nat.zero_le _, rfl, rfl, by simp [val]⟩
      case round =>
        obtain ⟨k, t, hk, rfl, rfl, hval⟩ := hrel
        by_cases hlt : k < a.length
        · obtain ⟨b, off, haa, hbb, hcl⟩ := hcella (a.length - 1 - k) (by omega)
          subst haa
          have hcl' : wc.cell? ⟨b, off + (a.length - 1 - k), none⟩ = some (.int .u64 ((dig a (a.length - 1 - k) : Nat) : Int)) := (hbw.cell (p := ⟨b, off + (a.length - 1 - k), none⟩) hbb).trans hcl
          have hval2 := hval
          rw [show a.length - k = (a.length - 1 - k) + 1 by omega] at hval2
          have hst := fits_step hval2
          have hle := fits_le (by omega) hst
          have HV := HB.out
          have hdd := na (a.length - 1 - k)
          have HS : Hid (val 1000000000 a = (t * 1000000000 + dig a (a.length - 1 - k)) * 1000000000 ^ (a.length - 1 - k) + S 1000000000 (dig a) (a.length - 1 - k)) := hst
          have hle2 : t * 1000000000 + dig a (a.length - 1 - k) ≤ 9223372036854775807 := by omega
          clear hst hval2 hval hcl hle HV
          have e1 : ((a.length : Int) - 1 - k).toNat = a.length - 1 - k := by omega
          generalize hD : dig a (a.length - 1 - k) = D at *
          have HD : Hid (dig a (a.length - 1 - k) = D) := hD
          clear hD
          go_wp2
          go_round
          case rel =>
            refine ⟨k + 1, t * 1000000000 + D, by omega, by go_num, by go_num, ?_⟩
            rw [show a.length - (k + 1) = a.length - 1 - k by omega]
            exact HS.out
          case measure => simp [intOf]; omega
        · obtain rfl : k = a.length := by omega
          have HT : Hid (val 1000000000 a = t) := by show _ = _; simpa [S] using hval
          clear hval
          go_wp2
          go_ret2
          refine ⟨fun _ => ?_, fun h => by have := HB.out; omega, hbw⟩
          rw [HT.out]
          rfl
end Go.Proofs.YtfangnjdfmaaoaaDoor
