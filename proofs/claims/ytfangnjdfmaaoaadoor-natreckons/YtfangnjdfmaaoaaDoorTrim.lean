/- The contract of trimmed. -/
import Derived.Test.YtfangnjdfmaaoaaDoorBase
namespace Go.Proofs.YtfangnjdfmaaoaaDoor
open Go.RowKit Num Go.Sort

theorem Dig.take {k : IntKind} {w : World} {a : Option Addr} {cap n : Nat} {ds : List Nat} (h : Dig k w (.slice a ds.length cap) ds) (hn : n ≤ ds.length) : Dig k w (.slice a n cap) (ds.take n) := by
  obtain ⟨a', cap', hv, hc, hi⟩ := h
  cases hv
  have hl : (ds.take n).length = n := by rw [List.length_take, Nat.min_eq_left hn]
  refine ⟨a, cap, by rw [hl], by omega, fun i hlt => ?_⟩
  rw [hl] at hlt
  obtain ⟨b, off, ha, hb, hcell⟩ := hi i (by omega)
  exact ⟨b, off, ha, hb, by rw [dig_take, if_pos hlt]; exact hcell⟩

theorem Dig.setCell {k : IntKind} {w : World} {v : Value} {ds : List Nat} {B : Nat} (h : Dig k w v ds) (hb : w.heap.size ≤ B) {W : World} (hW : Below w.heap.size w W) (u : Value) : Dig k (W.setCell ⟨B, 0, none⟩ u) v ds :=
  h.below (hW.setCell hb u)

set_option maxRecDepth 100000 in
set_option maxHeartbeats 1000000 in
theorem trimmed_any (v : Value) (ds : List Nat) (w : World) (hd : Dig .u64 w v ds) (sm : ∀ i, dig ds i < 1000000000) (hl : ds.length ≤ 100000) :
    Calls Tryd.prog 36 #[v] w fun e w' => ∃ v', e = .returned (.agg #[v']) ∧ ∃ ds', Dig .u64 w' v' ds' ∧ Norm 1000000000 ds' ∧ val 1000000000 ds' = val 1000000000 ds ∧ ds'.length ≤ ds.length ∧ Below w.heap.size w w' := by
  obtain ⟨a, cap, hv, hc, hcell⟩ := id hd
  subst hv
  have HC : Hid (∀ i, i < ds.length → ∃ b off, a = some ⟨b, off, none⟩ ∧ b < w.heap.size ∧ w.cell? ⟨b, off + i, none⟩ = some (.int .u64 ((dig ds i : Nat) : Int))) := hcell
  clear hcell
  go_enter Tryd.func36, Tryd.ntmps36
  go_wp2_with fail
  go_loop [3] (fun n => ∃ k : Nat, k ≤ ds.length ∧ n = .int .i64 k ∧ ∀ i, k ≤ i → dig ds i = 0) (fun n => (intOf n).toNat)
  case atStart => exact ⟨ds.length, Nat.le_refl _, rfl, fun i hi => dig_beyond ds i hi⟩
  case round =>
    obtain ⟨k, hk, rfl, hz⟩ := hrel
    have HZ : Hid (∀ i, k ≤ i → dig ds i = 0) := hz
    clear hz
    by_cases h0 : k = 0
    · subst h0
      have hx := norm_take (B := 1000000000) (k := 0) (by omega) sm (Nat.zero_le _) (fun h => absurd rfl h)
      have hval := val_take (B := 1000000000) (k := 0) (Nat.zero_le _) HZ.out
      have hnil : ds.take 0 = [] := rfl
      rw [hnil] at hx hval
      go_wp2
      refine bodyPost_ret (v := .agg #[.slice none 0 0]) (by simp [results, Tryd.results36, go_sem]) rfl ?_
      exact ⟨_, rfl, [], Dig.nil _ _, hx, hval, Nat.zero_le _, (Below.refl _ _).alloc (Nat.le_refl _) _⟩
    · obtain ⟨j, rfl⟩ : ∃ j, k = j + 1 := ⟨k - 1, by omega⟩
      obtain ⟨b, off, ha, hb, hcl⟩ := HC.out j (by omega)
      subst ha
      have hne : ¬ b = w.heap.size := by omega
      have hj := sm j
      by_cases hzj : dig ds j = 0
      · rw [hzj] at hcl
        go_wp2
        go_round
        case rel =>
          refine ⟨j, by omega, by go_num, fun i hi => ?_⟩
          by_cases e : i = j
          · rw [e]; exact hzj
          · exact HZ.out i (by omega)
        case measure => simp [intOf]
      · have hbq : (((dig ds j : Nat) : Int) == 0) = false := by rw [beq_eq_false_iff_ne]; omega
        have hx := norm_take (B := 1000000000) (k := j + 1) (by omega) sm hk (fun _ => hzj)
        have hval := val_take (B := 1000000000) hk HZ.out
        have hDt := Dig.take hd hk
        clear hzj
        go_wp2
        refine bodyPost_ret (v := .agg #[.slice (some ⟨b, off, none⟩) (j + 1) cap]) (by simp [results, Tryd.results36, go_sem]) rfl ?_
        exact ⟨_, rfl, ds.take (j + 1), hDt.below ((Below.refl _ _).alloc (Nat.le_refl _) _), hx, hval, by rw [List.length_take]; omega, (Below.refl _ _).alloc (Nat.le_refl _) _⟩
end Go.Proofs.YtfangnjdfmaaoaaDoor
