/- The reference's numbers: trim and words. -/
import Derived.Test.YtfangnjdfmaaoaaDoorTrim
namespace Go.Proofs.YtfangnjdfmaaoaaDoor
open Go.RowKit Num Go.Sort

theorem info90 : (Tryd.prog.info? 90).map (fun i => (i.zero, i.size, i.bytes)) = some (some (.int .u32 0), 1, 4) := by kernel_rfl

set_option maxRecDepth 100000 in
set_option maxHeartbeats 1000000 in
theorem trim_any (v : Value) (ds : List Nat) (w : World) (hd : Dig .u32 w v ds) (sm : ∀ i, dig ds i < 4294967296) (hl : ds.length ≤ 100000) :
    Calls Tryd.prog 64 #[v] w fun e w' => ∃ v', e = .returned v' ∧ w = w' ∧ ∃ ds', Dig .u32 w v' ds' ∧ Norm 4294967296 ds' ∧ val 4294967296 ds' = val 4294967296 ds ∧ ds'.length ≤ ds.length := by
  obtain ⟨a, cap, hv, hc, hcell⟩ := id hd
  subst hv
  have HC : Hid (∀ i, i < ds.length → ∃ b off, a = some ⟨b, off, none⟩ ∧ b < w.heap.size ∧ w.cell? ⟨b, off + i, none⟩ = some (.int .u32 ((dig ds i : Nat) : Int))) := hcell
  clear hcell
  go_enter Tryd.func64, Tryd.ntmps64
  go_wp2_with fail
  go_loop [3] (fun n => ∃ k : Nat, k ≤ ds.length ∧ n = .int .i64 k ∧ ∀ i, k ≤ i → dig ds i = 0) (fun n => (intOf n).toNat)
  case atStart => exact ⟨ds.length, Nat.le_refl _, rfl, fun i hi => dig_beyond ds i hi⟩
  case round =>
    obtain ⟨k, hk, rfl, hz⟩ := hrel
    have HZ : Hid (∀ i, k ≤ i → dig ds i = 0) := hz
    clear hz
    by_cases h0 : k = 0
    · subst h0
      have hx := norm_take (B := 4294967296) (k := 0) (by omega) sm (Nat.zero_le _) (fun h => absurd rfl h)
      have hval := val_take (B := 4294967296) (k := 0) (Nat.zero_le _) HZ.out
      have hDt := Dig.take hd (Nat.zero_le _)
      go_wp2
      go_ret
      exact ⟨_, rfl, rfl, ds.take 0, hDt, hx, hval, Nat.zero_le _⟩
    · obtain ⟨j, rfl⟩ : ∃ j, k = j + 1 := ⟨k - 1, by omega⟩
      obtain ⟨b, off, ha, hb, hcl⟩ := HC.out j (by omega)
      subst ha
      have hj := sm j
      by_cases hzj : dig ds j = 0
      · rw [hzj] at hcl
        go_wp2
        go_round
        case rel =>
          refine ⟨j, by omega, by go_num, fun i hi => ?_⟩
          by_cases e : i = j
          · rw [e]; exact hzj
          · exact HZ.out i (by omega)
        case measure => simp [intOf]
      · have hbq : (((dig ds j : Nat) : Int) == 0) = false := by rw [beq_eq_false_iff_ne]; omega
        have hx := norm_take (B := 4294967296) (k := j + 1) (by omega) sm hk (fun _ => hzj)
        have hval := val_take (B := 4294967296) hk HZ.out
        have hDt := Dig.take hd hk
        clear hzj
        go_wp2
        go_ret
        exact ⟨_, rfl, rfl, ds.take (j + 1), hDt, hx, hval, by rw [List.length_take]; omega⟩
/-- v is the number n in words of 32 bits, without a nought at the end. -/
def BigIs (w : World) (v : Value) (n : Nat) : Prop := ∃ ds, Dig .u32 w v ds ∧ Norm 4294967296 ds ∧ val 4294967296 ds = n
theorem BigIs.below {w w' : World} {v : Value} {n : Nat} (h : BigIs w v n) (hb : Below w.heap.size w w') : BigIs w' v n := by
  obtain ⟨ds, h1, h2, h3⟩ := h
  exact ⟨ds, h1.below hb, h2, h3⟩
theorem BigIs.form {w : World} {v : Value} {n : Nat} (h : BigIs w v n) : ∃ a k c, v = .slice a k c := by
  obtain ⟨ds, ⟨a, c, hv, -⟩, -⟩ := h
  exact ⟨a, _, c, hv⟩
theorem BigIs.cast {w : World} {v : Value} {n m : Nat} (h : BigIs w v n) (e : n = m) : BigIs w v m := e ▸ h
theorem BigIs.nil (w : World) : BigIs w (.slice none 0 0) 0 := ⟨[], Dig.nil _ _, norm_nil (by omega), rfl⟩

set_option maxRecDepth 100000 in
set_option maxHeartbeats 1000000 in
theorem words_any (x : Nat) (w : World) (hx : x < 18446744073709551616) :
    Calls Tryd.prog 56 #[.int .u64 (x : Int)] w fun e w' => ∃ v', e = .returned v' ∧ BigIs w' v' x ∧ Below w.heap.size w w' := by
  have e1 : IntKind.u32.wrap (x : Int) = ((x % 4294967296 : Nat) : Int) := by rw [IntKind.wrap_u32]; omega
  have e2 : IntKind.u32.wrap ((x : Int) / 4294967296) = ((x / 4294967296 : Nat) : Int) := by rw [IntKind.wrap_u32]; omega
  have hD : Dig .u32 (w.alloc (.cells #[.int .u32 ((x % 4294967296 : Nat) : Int), .int .u32 ((x / 4294967296 : Nat) : Int)] 90)) (.slice (some ⟨w.heap.size, 0, none⟩) 2 2) [x % 4294967296, x / 4294967296] := by
    refine ⟨_, 2, rfl, Nat.le_refl _, fun i hi => ⟨w.heap.size, 0, rfl, by simp, ?_⟩⟩
    have h2 : i = 0 ∨ i = 1 := by simp at hi; omega
    rcases h2 with rfl | rfl
    · simp [dig]
    · simp [dig]
  have hsm : ∀ i, dig [x % 4294967296, x / 4294967296] i < 4294967296 := by
    intro i
    match i with
    | 0 => simp [dig]; omega
    | 1 => simp [dig]; omega
    | k + 2 => simp [dig]
  have hval : val 4294967296 [x % 4294967296, x / 4294967296] = x := by
    simp [val, S, dig]; omega
  have HT := trim_any _ _ _ hD hsm (by simp)
  go_enter Tryd.func56, Tryd.ntmps56
  go_wp2_with fail
  refine HT.mono ?_
  rintro e w1 ⟨v1, rfl, rfl, ds, hd, hn, hv, -⟩
  clear HT
  go_wp2
  go_ret
  exact ⟨v1, rfl, ⟨ds, hd, hn, by rw [hv, hval]⟩, (Below.refl _ _).alloc (Nat.le_refl _) _⟩
end Go.Proofs.YtfangnjdfmaaoaaDoor
