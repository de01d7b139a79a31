/- The reference's numbers: length, IsInt64, Uint64, Int64, Sign. -/
import Derived.Test.YtfangnjdfmaaoaaDoorBigSet
namespace Go.Proofs.YtfangnjdfmaaoaaDoor
open Go.RowKit Num Go.Sort Go.PlainAid

set_option maxRecDepth 100000 in
set_option maxHeartbeats 1000000 in
theorem length_any (v : Value) (a : List Nat) (w : World) (ha : Dig .u32 w v a) (na : ∀ i, dig a i < 4294967296) (la : a.length ≤ 5000) (pa : a.length ≠ 0) :
    Calls Tryd.prog 39 #[v] w fun e w' => ∃ m : Nat, e = .returned (.int .i64 (((a.length - 1) * 32 + m : Nat) : Int)) ∧ m ≤ 32 ∧ dig a (a.length - 1) < 2 ^ m ∧ (m ≠ 0 → 2 ^ (m - 1) ≤ dig a (a.length - 1)) ∧ w = w' := by
  obtain ⟨aa, ca, eva, hca, hcella⟩ := id ha
  subst eva
  obtain ⟨b, off, haa, hb, hcl⟩ := hcella (a.length - 1) (by omega)
  subst haa
  have ht := na (a.length - 1)
  clear hcella hca
  generalize hT : dig a (a.length - 1) = T at *
  have g1 : ((a.length : Int) == 0) = false := by rw [beq_eq_false_iff_ne]; omega
  have e1 : ((a.length : Int) - 1).toNat = a.length - 1 := by omega
  clear hT na ha
  go_enter Tryd.func39, Tryd.ntmps39
  go_wp2_with fail
  clear g1
  go_loop [3, 4] (fun n t => ∃ m : Nat, m ≤ 32 ∧ n = .int .i64 m ∧ t = .int .u32 ((T / 2 ^ m : Nat) : Int) ∧ (m ≠ 0 → 2 ^ (m - 1) ≤ T)) (fun _ t => (intOf t).toNat)
  case atStart => exact ⟨0, by omega, rfl, by simp, fun h => absurd rfl h⟩
  case round =>
    obtain ⟨m, hm, rfl, rfl, hlow⟩ := hrel
    have HL : Hid (m ≠ 0 → 2 ^ (m - 1) ≤ T) := hlow
    clear hlow
    by_cases hz : T / 2 ^ m = 0
    · have hlt : T < 2 ^ m := by
        rcases Nat.lt_or_ge T (2 ^ m) with h | h
        · exact h
        · have : 1 ≤ T / 2 ^ m := (Nat.le_div_iff_mul_le (Nat.pow_pos (by omega))).2 (by omega)
          omega
      rw [hz]
      have HLT : Hid (T < 2 ^ m) := hlt
      clear hlt hz
      go_wp2
      go_ret
      exact ⟨m, ret_int (by omega), hm, HLT.out, HL.out, rfl⟩
    · have hge : 2 ^ m ≤ T := by
        rcases Nat.lt_or_ge T (2 ^ m) with h | h
        · rw [Nat.div_eq_of_lt h] at hz; exact absurd rfl hz
        · exact h
      have hm31 : m ≤ 31 := by
        rcases Nat.lt_or_ge m 32 with h | h
        · omega
        · have : 2 ^ 32 ≤ 2 ^ m := Nat.pow_le_pow_right (by omega) h
          omega
      obtain ⟨y, hy⟩ : ∃ y, y = T / 2 ^ m := ⟨_, rfl⟩
      rw [← hy] at hz ⊢
      have hyT : y ≤ 4294967295 := by
        have : T / 2 ^ m ≤ T := Nat.div_le_self _ _
        omega
      have hyb : (((y : Nat) : Int) != 0) = true := by rw [bne_iff_ne]; omega
      have HY : Hid (y = T / 2 ^ m) := hy
      have HG : Hid (2 ^ m ≤ T) := hge
      clear hy hge
      go_wp2
      go_round
      case rel =>
        refine ⟨m + 1, by omega, by go_num, ?_, fun _ => ?_⟩
        · have e3 : ((y : Int) / 2) = ((y / 2 : Nat) : Int) := by omega
          rw [e3, HY.out, Nat.div_div_eq_div_mul, Nat.pow_succ]
        · rw [Nat.add_sub_cancel]; exact HG.out
      case measure => simp [intOf]; omega

theorem bits_val {a : List Nat} {m : Nat} (na : ∀ i, dig a i < 4294967296) (pa : a.length ≠ 0) (h1 : dig a (a.length - 1) < 2 ^ m) (h2 : m ≠ 0 → 2 ^ (m - 1) ≤ dig a (a.length - 1)) (hT : dig a (a.length - 1) ≠ 0) :
    val 4294967296 a < 2 ^ ((a.length - 1) * 32 + m) ∧ 2 ^ ((a.length - 1) * 32 + m - 1) ≤ val 4294967296 a ∧ m ≠ 0 := by
  obtain ⟨k, hk⟩ : ∃ k, a.length = k + 1 := ⟨a.length - 1, by omega⟩
  have hm : m ≠ 0 := by
    intro e; subst e; simp at h1; exact hT h1
  have hv : val 4294967296 a = S 4294967296 (dig a) k + dig a k * 4294967296 ^ k := by unfold val; rw [hk, S_succ]
  have hS := S_lt 4294967296 (dig a) k na
  have hkk : a.length - 1 = k := by omega
  rw [hkk] at h1 h2 hT ⊢
  have hB : 4294967296 ^ k = 2 ^ (k * 32) := by rw [show (4294967296 : Nat) = 2 ^ 32 by decide, ← Nat.pow_mul, Nat.mul_comm]
  have h2' := h2 hm
  refine ⟨?_, ?_, hm⟩
  · rw [hv, Nat.pow_add, ← hB]
    have h3 : (dig a k + 1) * 4294967296 ^ k ≤ 2 ^ m * 4294967296 ^ k := Nat.mul_le_mul_right _ h1
    rw [Nat.add_mul] at h3
    rw [Nat.mul_comm (4294967296 ^ k) (2 ^ m)]
    omega
  · rw [hv, show k * 32 + m - 1 = k * 32 + (m - 1) by omega, Nat.pow_add, ← hB]
    have h3 : 2 ^ (m - 1) * 4294967296 ^ k ≤ dig a k * 4294967296 ^ k := Nat.mul_le_mul_right _ h2'
    rw [Nat.mul_comm (4294967296 ^ k) (2 ^ (m - 1))]
    omega

set_option maxRecDepth 100000 in
set_option maxHeartbeats 1000000 in
theorem length_nil (aa : Option Addr) (ca : Nat) (w : World) : Calls Tryd.prog 39 #[.slice aa 0 ca] w fun e w' => e = .returned (.int .i64 0) ∧ w = w' := by
  go_enter Tryd.func39, Tryd.ntmps39
  go_wp2
  go_ret
  exact ⟨rfl, rfl⟩

/-- length, of a number: how many bits. -/
theorem length_big {v : Value} {n : Nat} {w : World} (h : BigIs w v n) (hn : n < 4294967296 ^ 1000) :
    Calls Tryd.prog 39 #[v] w fun e w' => ∃ m : Nat, e = .returned (.int .i64 (m : Int)) ∧ m ≤ 32000 ∧ n < 2 ^ m ∧ (n ≠ 0 → m ≠ 0 ∧ 2 ^ (m - 1) ≤ n) ∧ (n = 0 → m = 0) ∧ w = w' := by
  obtain ⟨a, a1, a2, a3, a4⟩ := h.len hn
  by_cases h0 : a.length = 0
  · obtain ⟨aa, ca, rfl, -⟩ := id a1
    have hz := (val_zero (B := 4294967296) (by omega) a2).2 h0
    rw [h0]
    refine (length_nil aa ca w).mono ?_
    rintro e w' ⟨rfl, rfl⟩
    exact ⟨0, rfl, by omega, by rw [← a3, hz]; decide, fun h => by rw [← a3, hz] at h; exact absurd rfl h, fun _ => rfl, rfl⟩
  · refine (length_any v a w a1 a2.small (by omega) h0).mono ?_
    rintro e w' ⟨m, rfl, hm, hm1, hm2, rfl⟩
    obtain ⟨b1, b2, b3⟩ := bits_val a2.small h0 hm1 hm2 (a2.last h0)
    rw [a3] at b1 b2
    exact ⟨(a.length - 1) * 32 + m, rfl, by omega, b1, fun _ => ⟨by omega, b2⟩, fun e => by subst e; have : 0 < 2 ^ ((a.length - 1) * 32 + m - 1) := Nat.pow_pos (by omega); omega, rfl⟩

set_option maxRecDepth 100000 in
set_option maxHeartbeats 1000000 in
theorem isInt64_any (b n : Nat) (w : World) (h : IntIs w b n) (hn : n < 4294967296 ^ 1000) :
    Calls Tryd.prog 12 #[.pointer (some ⟨b, 0, none⟩)] w fun e w' => e = .returned (.bool (decide (n < 9223372036854775808))) ∧ w = w' := by
  obtain ⟨hb, h0, v, h1, hv⟩ := h
  obtain ⟨a, k, c, rfl⟩ := hv.form
  have HL := length_big hv hn
  have p63 : (2 : Nat) ^ 63 = 9223372036854775808 := by decide
  go_enter Tryd.func12, Tryd.ntmps12
  go_wp2_with fail
  refine HL.mono ?_
  rintro e w1 ⟨m, rfl, hm, hlt, hge, hz0, rfl⟩
  by_cases h64 : m < 64
  · have hd : decide (n < 9223372036854775808) = true := by
      have : 2 ^ m ≤ 2 ^ 63 := Nat.pow_le_pow_right (by omega) (by omega)
      simp; omega
    have HD : Hid (decide (n < 9223372036854775808) = true) := hd
    clear hd hlt hge HL p63 hz0
    go_wp2
    go_ret
    exact ⟨by rw [HD.out]; rfl, rfl⟩
  · have hn0 : n ≠ 0 := by
      intro e; have := hz0 e; omega
    obtain ⟨-, hge2⟩ := hge hn0
    have hd : decide (n < 9223372036854775808) = false := by
      have : 2 ^ 63 ≤ 2 ^ (m - 1) := Nat.pow_le_pow_right (by omega) (by omega)
      simp; omega
    have HD : Hid (decide (n < 9223372036854775808) = false) := hd
    clear hd hlt hge HL p63 hge2 hn0 hz0
    have hd64 : decide ((m : Int) < 64) = false := by simp; omega
    by_cases he : m = 64
    · subst he
      go_wp2
      go_ret
      exact ⟨by rw [HD.out]; rfl, rfl⟩
    · have hb' : ((m : Int) == 64) = false := by rw [beq_eq_false_iff_ne]; omega
      clear he
      go_wp2
      go_ret
      exact ⟨by rw [HD.out]; rfl, rfl⟩
end Go.Proofs.YtfangnjdfmaaoaaDoor
