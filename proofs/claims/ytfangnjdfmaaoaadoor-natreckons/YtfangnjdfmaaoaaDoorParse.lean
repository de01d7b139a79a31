/- The contracts of Parse. -/
import Derived.Test.YtfangnjdfmaaoaaDoorTrim
import Derived.Test.YtfangnjdfmaaoaaDoorOf
import Derived.Test.YtfangnjdfmaaoaaDoorFormed
namespace Go.Proofs.YtfangnjdfmaaoaaDoor
open Go.RowKit Num Go.Sort Go.PlainAid

set_option maxRecDepth 100000 in
set_option maxHeartbeats 1000000 in
theorem parse_form (s : ByteArray) (w : World) (hm : s.size ≤ 400) (hno : ¬ OkText s) :
    Calls Tryd.prog 8 #[.string s] w fun e w' => e = .returned (.tuple #[.agg #[.slice none 0 0], .iface 23 (.int .i64 3)]) ∧ Below w.heap.size w w' := by
  have H := formed_any s (w.alloc (.cells #[.slice none 0 0] 28)) hm
  go_enter Tryd.func8, Tryd.ntmps8
  go_wp2_with fail
  refine H.mono ?_
  rintro e w1 ⟨-, h2, rfl⟩
  have he := h2 hno
  subst he
  clear H h2 hno
  go_wp2
  refine bodyPost_ret (v := .tuple #[.agg #[.slice none 0 0], .iface 23 (.int .i64 3)]) (by simp [results, Tryd.results8, go_sem]) rfl ?_
  exact ⟨rfl, (Below.refl _ _).alloc (Nat.le_refl _) _⟩

set_option maxRecDepth 100000 in
set_option maxHeartbeats 1000000 in
theorem parse_limit (s : ByteArray) (w : World) (hm : s.size ≤ 400) (hok : OkText s) (hl : 100 < s.size) :
    Calls Tryd.prog 8 #[.string s] w fun e w' => e = .returned (.tuple #[.agg #[.slice none 0 0], .iface 23 (.int .i64 4)]) ∧ Below w.heap.size w w' := by
  have H := formed_any s (w.alloc (.cells #[.slice none 0 0] 28)) hm
  go_enter Tryd.func8, Tryd.ntmps8
  go_wp2_with fail
  refine H.mono ?_
  rintro e w1 ⟨h2, -, rfl⟩
  have he := h2 hok
  subst he
  clear H h2 hok
  go_wp2
  refine bodyPost_ret (v := .tuple #[.agg #[.slice none 0 0], .iface 23 (.int .i64 4)]) (by simp [results, Tryd.results8, go_sem]) rfl ?_
  exact ⟨rfl, (Below.refl _ _).alloc (Nat.le_refl _) _⟩

set_option maxRecDepth 100000 in
set_option maxHeartbeats 1000000 in
theorem parse_ok (s : ByteArray) (w : World) (hm : s.size ≤ 100) (hok : OkText s) :
    Calls Tryd.prog 8 #[.string s] w fun e w' => ∃ v', e = .returned (.tuple #[.agg #[v'], .nilIface]) ∧ ∃ ds', Dig .u64 w' v' ds' ∧ Norm 1000000000 ds' ∧ val 1000000000 ds' = pre s s.size ∧ ds'.length ≤ 12 ∧ Below w.heap.size w w' := by
  have H := formed_any s (w.alloc (.cells #[.slice none 0 0] 28)) (by omega)
  obtain ⟨i0, hi, hz0, hz1, hz2⟩ := info_parts info62
  obtain ⟨N, hN, hN1, hN2, hN3⟩ : ∃ N : Nat, ((s.size : Int) + 9 - 1) / 9 = (N : Int) ∧ N ≤ 12 ∧ s.size ≤ 9 * N ∧ 9 * N < s.size + 9 := ⟨(s.size + 8) / 9, by omega, by omega, by omega, by omega⟩
  have HOK : Hid (OkText s) := hok
  have hpos := hok.pos
  clear hok
  go_enter Tryd.func8, Tryd.ntmps8
  go_wp2_with fail
  refine H.mono ?_
  rintro e w1 ⟨h2, -, ew⟩
  have he := h2 HOK.out
  subst he
  subst ew
  clear H h2
  go_wp2_with (at_make; refine wpList_make_full _ rfl _ _ 26 rfl (w.heap.size + 1) 62 i0 (.int .u64 0) 1 Tryd.underlying26 hi hz0 hz1 .i64 .i64 _ _ N rfl rfl ?c1 ?c2 ?c3 ?c4 ?c5 ?_)
  case c1 => exact hN
  case c2 => exact hN
  case c3 => rw [hz2]; omega
  case c4 => unfold maxLen; omega
  case c5 => simp
  intro w1 hown hgrow
  rw [dcells_made] at hown
  have hbel : Below (w.heap.size + 1) (w.alloc (.cells #[.slice none 0 0] 28)) w1 := (Below.refl _ _).grown hgrow (by simp) (fun k hk => by cases hk)
  clear hgrow
  try simp only [hN]
  clear hN
  go_wp2_with fail
  go_loopw [26] (fun iv wr => ∃ (k : Nat) (out : List Nat), k ≤ N ∧ iv = .int .i64 k ∧ out.length = N ∧ (∀ i, dig out i < 1000000000) ∧ pre s s.size = pre s (s.size - 9 * k) * 1000000000 ^ k + S 1000000000 (dig out) k ∧ wr.ownsRow (w.heap.size + 1) 62 1 (.slice (some ⟨w.heap.size + 1, 0, none⟩) N N) N (dcells .u64 out) ∧ Below (w.heap.size + 1) (w.alloc (.cells #[.slice none 0 0] 28)) wr)
    (fun iv _ => N - (intOf iv).toNat)
  case atStart => exact ⟨0, List.replicate N 0, Nat.zero_le _, rfl, by simp, fun i => by rw [dig_replicate]; omega, by simp [S], hown, hbel⟩
  case round =>
    obtain ⟨k, out, hk, rfl, hol, hsm, hS, hownr, hbelr⟩ := hrel
    have HSm : Hid (∀ i, dig out i < 1000000000) := hsm
    have HS : Hid (pre s s.size = pre s (s.size - 9 * k) * 1000000000 ^ k + S 1000000000 (dig out) k) := hS
    have HO : Hid (out.length = N) := hol
    clear hsm hS hown hbel hol
    by_cases hlt : k < N
    · obtain ⟨hi', lo, e1, e2, hhi, hlo⟩ : ∃ hi lo : Nat, (s.size : Int) - (k : Int) * 9 = (hi : Int) ∧ max ((hi : Int) - 9) 0 = (lo : Int) ∧ hi = s.size - 9 * k ∧ lo = s.size - 9 * k - 9 := ⟨s.size - 9 * k, s.size - 9 * k - 9, by omega, by omega, rfl, rfl⟩
      have hkl : k < out.length := by have := HO.out; omega
      have hb1 : lo ≤ hi' := by omega
      have hb2 : hi' ≤ s.size := by omega
      have HHI : Hid (hi' = s.size - 9 * k) := hhi
      have HLO : Hid (lo = s.size - 9 * k - 9) := hlo
      have h9 : hi' - lo ≤ 9 := by omega
      clear hhi hlo
      have hD : ∀ j, j < (s.extract lo hi').size → 48 ≤ bt (s.extract lo hi') j ∧ bt (s.extract lo hi') j ≤ 57 := fun j hj => by
        rw [Num.size_extract s hb2] at hj
        rw [bt_extract s hb2 hj]
        exact HOK.out.digits _ (by omega)
      have HV := value_any (s.extract lo hi') wr (by rw [Num.size_extract s hb2]; exact h9) hD
      rw [Num.size_extract s hb2, pre_extract s hb2 _ (Nat.le_refl _)] at HV
      have hmid : mid s lo (hi' - lo) < 1000000000 := by
        have h1 := mid_lt s HOK.out.digits lo (hi' - lo) (by omega)
        have h2 : 10 ^ (hi' - lo) ≤ 10 ^ 9 := Nat.pow_le_pow_right (by omega) h9
        omega
      clear hD
      have hcell := hownr.cellAt k (by omega)
      rw [dcells_at .u64 out k hkl] at hcell
      have hfr := hownr.frozenAt k
      go_wp2_with fail
      refine HV.mono ?_
      rintro e w2 ⟨rfl, ew⟩
      subst ew
      go_wp2
      go_roundw
      case rel =>
        refine ⟨k + 1, out.set k (mid s lo (hi' - lo)), by omega, by go_num, by rw [List.length_set]; exact HO.out, small_set hkl HSm.out hmid, ?_, owns_set hownr k _, hbelr.setCell (by show _ ≤ w.heap.size + 1; omega) _⟩
        have hst := parse_step hkl (by have := HHI.out; omega) HS.out
        rw [HLO.out, HHI.out]
        exact hst
      case measure => simp [intOf]; omega
    · obtain rfl : k = N := by omega
      have hE := HS.out
      have hvo := S_val 1000000000 out k (by have := HO.out; omega)
      rw [hvo, show s.size - 9 * k = 0 by omega] at hE
      have HVO : Hid (val 1000000000 out = pre s s.size) := by
        show _ = _
        rw [hE]; simp [pre]
      clear hvo hE
      rw [show k = out.length from HO.out.symm] at hownr
      have hD := Dig.of_owns hownr
      rw [HO.out] at hD
      clear hownr
      go_wp2_with fail
      refine (trimmed_any _ out _ hD HSm.out (by have := HO.out; omega)).mono ?_
      rintro e w2 ⟨v2, rfl, ds2, hd2, hn2, hv2, hl2, hb2⟩
      obtain ⟨a2, cap2, ev2, -, -⟩ := id hd2
      subst ev2
      have hsz := hbelr.size
      simp only [World.size_alloc] at hsz
      have hb3 : Below (w.heap.size + 1) (w.alloc (.cells #[.slice none 0 0] 28)) w2 := hbelr.trans (hb2.mono (by omega))
      have hc : w2.cell? ⟨w.heap.size, 0, none⟩ = some (.slice none 0 0) := (hb3.cell (p := ⟨w.heap.size, 0, none⟩) (by show w.heap.size < _; omega)).trans (cell1_0 _ _ _)
      have hf : w2.frozen? ⟨w.heap.size, 0, none⟩ = false := (hb3.frozen (p := ⟨w.heap.size, 0, none⟩) (by show w.heap.size < _; omega)).trans (frozen1_0 _ _ _)
      have hcs : (w2.setCell ⟨w.heap.size, 0, none⟩ (.slice a2 ds2.length cap2)).cell? ⟨w.heap.size, 0, none⟩ = some (.slice a2 ds2.length cap2) := World.cell?_setCell_same' _ _ _ (by simp [hc])
      go_wp2
      refine bodyPost_ret (v := .tuple #[.agg #[.slice a2 ds2.length cap2], .nilIface]) (by simp [results, Tryd.results8, go_sem, hcs]) rfl ?_
      refine ⟨_, rfl, ds2, hd2.set hc (fun n h => by cases h) _, hn2, by rw [hv2]; exact HVO.out, by have := HO.out; omega, ?_⟩
      exact (((Below.refl _ _).alloc (Nat.le_refl _) _).trans (hb3.mono (by omega))).setCell (by show _ ≤ w.heap.size; omega) _
end Go.Proofs.YtfangnjdfmaaoaaDoor
