/- The reference's numbers: left, at whatever shift up to 1000. -/
import Derived.Test.YtfangnjdfmaaoaaDoorBigInt64
namespace Go.Proofs.YtfangnjdfmaaoaaDoor
open Go.RowKit Num Go.Sort Go.PlainAid

theorem bits_or_u32_nat (a b : Nat) (ha : a < 4294967296) (hb : b < 4294967296) : bits .or .u32 (a : Int) (b : Int) = ((a ||| b : Nat) : Int) := by
  have hx : a ||| b < 2 ^ 32 := Nat.or_lt_two_pow (by omega) (by omega)
  have h1 : (BitVec.ofInt 32 (a : Int)).toNat = a := by
    rw [BitVec.ofInt_natCast, BitVec.toNat_ofNat]; exact Nat.mod_eq_of_lt (by omega)
  have h2 : (BitVec.ofInt 32 (b : Int)).toNat = b := by
    rw [BitVec.ofInt_natCast, BitVec.toNat_ofNat]; exact Nat.mod_eq_of_lt (by omega)
  show IntKind.u32.wrap ((BitVec.ofInt 32 (a : Int) ||| BitVec.ofInt 32 (b : Int)).toNat : Int) = _
  rw [BitVec.toNat_or, h1, h2, IntKind.wrap_u32]
  omega

/-- What lies below 2^s, and a multiple of it. -/
theorem or_low (s o y : Nat) (ho : o < 2 ^ s) (hs : s ≤ 31) (hy : y * 2 ^ s < 4294967296) : bits BinOp.or IntKind.u32 (o : Int) ((y * 2 ^ s : Nat) : Int) = ((o + y * 2 ^ s : Nat) : Int) := by
  have hb : 2 ^ s ≤ 2 ^ 31 := Nat.pow_le_pow_right (by omega) hs
  rw [bits_or_u32_nat o _ (by omega) hy, Nat.or_comm]
  have h2 := Nat.two_pow_add_eq_or_of_lt (i := s) (b := o) ho y
  rw [Nat.mul_comm y, ← h2, Nat.add_comm]

theorem or_zero32 (y : Nat) (hy : y < 4294967296) : bits BinOp.or IntKind.u32 0 (y : Int) = (y : Int) := by
  have := bits_or_u32_nat 0 y (by omega) hy
  simpa using this

theorem left_split (s x : Nat) (hs : s ≤ 31) : x * 2 ^ s % 4294967296 = x % 2 ^ (32 - s) * 2 ^ s := by
  have h : (4294967296 : Nat) = 2 ^ (32 - s) * 2 ^ s := by
    rw [← Nat.pow_add, show 32 - s + s = 32 by omega]
  rw [h, Nat.mul_mod_mul_right]

theorem left_step {B k t N lo hi x P o : Nat} {out : List Nat} {T : Nat → Nat} (ht : k + t + 1 < out.length) (hN : k + t + 1 < N) (h : S B (dig out) N = S B T k * P * B ^ t) (hx : T k = x) (hv : x * P = lo + hi * B) (ho : dig out (k + t) = o) (hz : dig out (k + t + 1) = 0) :
    S B (dig ((out.set (k + t) (o + lo)).set (k + t + 1) hi)) N = S B T (k + 1) * P * B ^ t := by
  have h1 := S_set (B := B) (x := o + lo) (show k + t < out.length by omega) N (by omega)
  have h2 := S_set (B := B) (out := out.set (k + t) (o + lo)) (x := hi) (t := k + t + 1) (by rw [List.length_set]; exact ht) N hN
  rw [dig_set _ _ _ _ (by omega), if_neg (by omega), hz] at h2
  rw [ho, Nat.add_mul] at h1
  rw [S_succ, hx, Nat.add_mul, Nat.add_mul]
  have h3 : x * B ^ k * P * B ^ t = x * P * B ^ (k + t) := by rw [Nat.pow_add]; grind
  have h4 : x * P * B ^ (k + t) = lo * B ^ (k + t) + hi * B ^ (k + t + 1) := by rw [hv, Nat.add_mul, Nat.pow_succ]; grind
  omega

set_option maxRecDepth 100000 in
set_option maxHeartbeats 2000000 in
theorem left_any (va : Value) (a : List Nat) (n : Nat) (w : World) (ha : Dig .u32 w va a) (na : ∀ i, dig a i < 4294967296) (la : a.length ≤ 5000) (hn : n ≤ 1000) (pa : a.length ≠ 0) :
    Calls Tryd.prog 49 #[va, .int .u64 (n : Int)] w fun e w' => ∃ v', e = .returned v' ∧ ∃ ds', Dig .u32 w' v' ds' ∧ Norm 4294967296 ds' ∧ val 4294967296 ds' = val 4294967296 a * 2 ^ n ∧ Below w.heap.size w w' := by
  obtain ⟨aa, ca, eva, hca, hcella⟩ := id ha
  subst eva
  have HCA : Hid (∀ i, i < a.length → ∃ b off, aa = some ⟨b, off, none⟩ ∧ b < w.heap.size ∧ w.cell? ⟨b, off + i, none⟩ = some (.int .u32 ((dig a i : Nat) : Int))) := hcella
  have HNA : Hid (∀ i, dig a i < 4294967296) := na
  clear hcella hca ha na
  obtain ⟨t, ht⟩ : ∃ t, t = n / 32 := ⟨_, rfl⟩
  obtain ⟨s, hs⟩ : ∃ s, s = n % 32 := ⟨_, rfl⟩
  have hnts : n = 32 * t + s := by omega
  have hs31 : s ≤ 31 := by omega
  have ht31 : t ≤ 31 := by omega
  have HP : Hid ((2 : Nat) ^ n = 2 ^ s * 4294967296 ^ t) := by
    show _ = _
    rw [hnts, Nat.pow_add, Nat.pow_mul, Nat.mul_comm, show (2 : Nat) ^ 32 = 4294967296 by decide]
  have e5 : (n : Int) / 32 = (t : Int) := by omega
  have e6 : (n : Int) % 32 = (s : Int) := by omega
  have g1 : ((a.length : Int) == 0) = false := by rw [beq_eq_false_iff_ne]; omega
  clear ht hs hnts
  obtain ⟨i0, hi, hz0, hz1, hz2⟩ := info_parts info90
  go_enter Tryd.func49, Tryd.ntmps49
  go_wp2_with (at_make; refine wpList_make_full _ rfl _ _ 45 rfl w.heap.size 90 i0 (.int .u32 0) 1 Tryd.underlying45 hi hz0 hz1 .i64 .i64 _ _ (a.length + t + 1) rfl rfl ?c1 ?c2 ?c3 ?c4 ?c5 ?_)
  case c1 => omega
  case c2 => omega
  case c3 => rw [hz2]; omega
  case c4 => unfold maxLen; omega
  case c5 => omega
  intro w1 hown hgrow
  rw [dcells_made] at hown
  have hbel : Below w.heap.size w w1 := (Below.refl _ _).grown hgrow (Nat.le_refl _) (fun k hk => by cases hk)
  clear hgrow g1
  go_wp2_with fail
  go_loopw [8] (fun i wr => ∃ (k : Nat) (out : List Nat), k ≤ a.length ∧ i = .int .i64 k ∧ out.length = a.length + t + 1 ∧ (∀ i, dig out i < 4294967296) ∧ (∀ i, k + t < i → dig out i = 0) ∧ dig out (k + t) < 2 ^ s ∧ S 4294967296 (dig out) (a.length + t + 1) = S 4294967296 (dig a) k * 2 ^ s * 4294967296 ^ t ∧ wr.ownsRow w.heap.size 90 1 (.slice (some ⟨w.heap.size, 0, none⟩) (a.length + t + 1) (a.length + t + 1)) (a.length + t + 1) (dcells .u32 out) ∧ Below w.heap.size w wr)
    (fun i _ => a.length - (intOf i).toNat)
  case atStart =>
    refine ⟨0, List.replicate (a.length + t + 1) 0, Nat.zero_le _, rfl, by simp, fun i => by rw [dig_replicate]; omega, fun i _ => dig_replicate _ _, by rw [dig_replicate]; exact Nat.pow_pos (by omega), ?_, hown, hbel⟩
    have h0 : S 4294967296 (dig (List.replicate (a.length + t + 1) 0)) (a.length + t + 1) = S 4294967296 (fun _ => 0) (a.length + t + 1) := S_congr _ _ _ _ (fun i _ => dig_replicate _ _)
    have h1 := S_above 4294967296 (fun _ => 0) 0 (a.length + t + 1) (fun _ _ => rfl)
    rw [Nat.zero_add] at h1
    rw [h0, h1]
    simp [S]
  case round =>
    obtain ⟨k, out, hk, rfl, hol, hsm, hz, hlow, hS, hownr, hbelr⟩ := hrel
    have HSm : Hid (∀ i, dig out i < 4294967296) := hsm
    have HZ : Hid (∀ i, k + t < i → dig out i = 0) := hz
    have HLow : Hid (dig out (k + t) < 2 ^ s) := hlow
    have HS : Hid (S 4294967296 (dig out) (a.length + t + 1) = S 4294967296 (dig a) k * 2 ^ s * 4294967296 ^ t) := hS
    have HO : Hid (out.length = a.length + t + 1) := hol
    clear hsm hS hown hbel hol hz hlow
    by_cases hlt : k < a.length
    · have hkl : k + t < out.length := by have := HO.out; omega
      have hkl1 : k + t + 1 < out.length := by have := HO.out; omega
      have hcell := hownr.cellAt (k + t) (by omega)
      rw [dcells_at .u32 out (k + t) hkl] at hcell
      have hfr := hownr.frozenAt (k + t)
      obtain ⟨bp, offp, hpp, hbp, hclp⟩ := HCA.out k hlt
      subst hpp
      have hcp : wr.cell? ⟨bp, offp + k, none⟩ = some (.int .u32 ((dig a k : Nat) : Int)) := (hbelr.cell (p := ⟨bp, offp + k, none⟩) hbp).trans hclp
      have hx := HNA.out k
      generalize hdx : dig a k = x at *
      have HX : Hid (dig a k = x) := hdx
      clear hdx hclp
      have ho := HLow.out
      have hob := HSm.out (k + t)
      generalize hdo : dig out (k + t) = o at *
      have HOO : Hid (dig out (k + t) = o) := hdo
      clear hdo
      have hp31 : 2 ^ s ≤ 2 ^ 31 := Nat.pow_le_pow_right (by omega) hs31
      have hxp : x * 2 ^ s < 4294967296 * 2 ^ s := Nat.mul_lt_mul_of_pos_right hx (Nat.pow_pos (by omega))
      obtain ⟨v, hv⟩ : ∃ v, v = x * 2 ^ s := ⟨_, rfl⟩
      have hvb : v < 9223372036854775808 := by omega
      obtain ⟨lo, hlod⟩ : ∃ lo, lo = v % 4294967296 := ⟨_, rfl⟩
      obtain ⟨hi', hhid⟩ : ∃ hi', hi' = v / 4294967296 := ⟨_, rfl⟩
      have hhi : hi' < 2 ^ s := by rw [hhid, Nat.div_lt_iff_lt_mul (by omega)]; omega
      have hlo := left_split s x hs31
      have e0 : IntKind.u64.wrap ((x : Int) * 2 ^ s) = (v : Int) := by
        have : (x : Int) * 2 ^ s = (v : Int) := by rw [hv, Int.natCast_mul, Int.natCast_pow]; rfl
        rw [this]; exact wu64 (by omega) (by omega)
      have e1 : IntKind.u32.wrap (v : Int) = (lo : Int) := by rw [IntKind.wrap_u32]; omega
      have e1' : (v : Int) % 4294967296 = (lo : Int) := by omega
      have e3' : (v : Int) / 4294967296 = (hi' : Int) := by omega
      have e3'' : (hi' : Int) % 4294967296 = (hi' : Int) := by omega
      have hlv : lo = x % 2 ^ (32 - s) * 2 ^ s := by rw [hlod, hv]; exact hlo
      have e2 : bits BinOp.or IntKind.u32 (o : Int) (lo : Int) = ((o + lo : Nat) : Int) := by
        have h4 : x % 2 ^ (32 - s) * 2 ^ s < 4294967296 := by rw [← hlv]; omega
        have := or_low s o (x % 2 ^ (32 - s)) ho hs31 h4
        rwa [← hlv] at this
      have hsum : o + lo < 4294967296 := by
        have h5 : (x % 2 ^ (32 - s) + 1) * 2 ^ s ≤ 2 ^ (32 - s) * 2 ^ s := Nat.mul_le_mul_right _ (Nat.mod_lt _ (Nat.pow_pos (by omega)))
        rw [← Nat.pow_add, show 32 - s + s = 32 by omega, Nat.add_mul] at h5
        omega
      have e3 : IntKind.u32.wrap (hi' : Int) = (hi' : Int) := by rw [IntKind.wrap_u32]; omega
      have e4 := or_zero32 (hi') (by omega)
      have HST : Hid (S 4294967296 (dig ((out.set (k + t) (o + lo)).set (k + t + 1) (hi'))) (a.length + t + 1) = S 4294967296 (dig a) (k + 1) * 2 ^ s * 4294967296 ^ t) :=
        left_step (N := a.length + t + 1) hkl1 (by omega) HS.out HX.out (by rw [← hv]; omega) HOO.out (HZ.out _ (by omega))
      obtain ⟨ol, hold⟩ : ∃ ol, ol = o + lo := ⟨_, rfl⟩
      rw [← hold] at e2 hsum HST
      have hown2 := owns_set hownr (k + t) (ol)
      have hcell2 := hown2.cellAt (k + t + 1) (by omega)
      rw [dcells_at .u32 _ (k + t + 1) (by rw [List.length_set]; exact hkl1), dig_set _ _ _ _ hkl, if_neg (by omega), HZ.out _ (by omega)] at hcell2
      have hfr2 := hown2.frozenAt (k + t + 1)
      have hbel2 := hbelr.setCell (p := ⟨w.heap.size, k + t, none⟩) (Nat.le_refl _) (.int .u32 ((ol : Nat) : Int))
      have e7 : ((k : Int) + (t : Int)).toNat = k + t := by omega
      have e8 : ((k : Int) + (t : Int) + 1).toNat = k + t + 1 := by omega
      have HHI : Hid (hi' < 2 ^ s) := hhi
      have HSUM : Hid (ol < 4294967296) := hsum
      clear hold hv hhi hlod hhid hlo hlv hp31 hxp ho hsum
      go_wp2
      go_roundw
      case rel =>
        refine ⟨k + 1, (out.set (k + t) (ol)).set (k + t + 1) (hi'), by omega, by go_num, by rw [List.length_set, List.length_set]; exact HO.out, small_set (by rw [List.length_set]; exact hkl1) (small_set hkl HSm.out HSUM.out) (by omega), fun i h => ?_, ?_, HST.out, owns_set hown2 (k + t + 1) _, hbel2.setCell (Nat.le_refl _) _⟩
        · rw [dig_set _ _ _ _ (by rw [List.length_set]; exact hkl1), if_neg (by omega), dig_set _ _ _ _ hkl, if_neg (by omega)]
          exact HZ.out i (by omega)
        · rw [show k + 1 + t = k + t + 1 by omega, dig_set _ _ _ _ (by rw [List.length_set]; exact hkl1), if_pos rfl]
          exact HHI.out
      case measure => simp [intOf]; omega
    · obtain rfl : k = a.length := by omega
      have hvo := S_val 4294967296 out (a.length + t + 1) (by have := HO.out; omega)
      have hE := HS.out
      rw [hvo] at hE
      have HV : Hid (val 4294967296 out = val 4294967296 a * 2 ^ n) := by
        show _ = _
        rw [hE, HP.out, Nat.mul_assoc]
        rfl
      have hown2 := hownr
      rw [show a.length + t + 1 = out.length from HO.out.symm] at hown2
      have hD := Dig.of_owns hown2
      rw [HO.out] at hD
      have hsm2 := HSm.out
      clear hE hown2 hvo
      go_wp2_with fail
      refine (trim_any _ _ _ hD hsm2 (by have := HO.out; omega)).mono ?_
      rintro e w2 ⟨v2, rfl, rfl, ds2, hd2, hn2, hv2, hl2⟩
      go_wp2
      go_ret
      exact ⟨v2, rfl, ds2, hd2, hn2, by rw [hv2]; exact HV.out, hbelr⟩
end Go.Proofs.YtfangnjdfmaaoaaDoor
