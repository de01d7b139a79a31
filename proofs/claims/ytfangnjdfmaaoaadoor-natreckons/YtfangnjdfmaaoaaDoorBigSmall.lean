/- The reference's numbers: twin, and small at the word 10. -/
import Derived.Test.YtfangnjdfmaaoaaDoorBigInt64
namespace Go.Proofs.YtfangnjdfmaaoaaDoor
open Go.RowKit Num Go.Sort Go.PlainAid

set_option maxRecDepth 100000 in
set_option maxHeartbeats 1000000 in
theorem twin_any (v : Value) (ds : List Nat) (w : World) (hd : Dig .u32 w v ds) (hl : ds.length ≤ 100000) (hp : ds.length ≠ 0) :
    Calls Tryd.prog 62 #[v] w fun e w' => ∃ v', e = .returned v' ∧ Dig .u32 w' v' ds ∧ Below w.heap.size w w' := by
  obtain ⟨a, cap, hv, hc, hcell⟩ := id hd
  subst hv
  obtain ⟨i0, hi, hz0, hz1, hz2⟩ := info_parts info90
  obtain ⟨b, off, ha, -, -⟩ := hcell 0 (by omega)
  subst ha
  go_enter Tryd.func62, Tryd.ntmps62
  go_wp2_with (at_builtin; refine wpList_append_own _ rfl _ _ 45 rfl w.heap.size 90 i0 (.int .u32 0) 1 4 Tryd.underlying45 hi hz0 hz1 hz2 rfl (by decide) _ _ _ rfl (World.ownsRow_nil _ _ _ _) ⟨b, off, none⟩ ds.length cap (dcells .u32 ds) rfl ?c0 ?c1 ?c2 ?c3 ?c4 ?c5 ?_)
  case c0 => simp [dcells_length]
  case c1 =>
    intro j u hj
    have hjl : j < ds.length := by
      have h5 := (List.getElem?_eq_some_iff.1 hj).1
      rwa [dcells_length] at h5
    obtain ⟨b', off', e, hb, hcl⟩ := hcell j hjl
    cases e
    rw [dcells_at .u32 ds j hjl] at hj
    cases hj
    rw [show (⟨b, off, none⟩ : Addr).add j = ⟨b, off + j, none⟩ by simp [Addr.add]]
    exact hcl
  case c2 => intro u hu; simp only [dcells, List.mem_map] at hu; obtain ⟨x, _, rfl⟩ := hu; rfl
  case c3 => unfold maxLen; omega
  case c4 => omega
  case c5 => omega
  intro v' w1 hown hgrow _
  have hb1 : Below w.heap.size w w1 := (Below.refl _ _).grown hgrow (Nat.le_refl _) (fun k hk => by cases hk)
  have hD : Dig .u32 w1 v' ds := Dig.of_owns (by simpa using hown)
  clear hown hgrow hcell
  go_wp2
  go_ret
  exact ⟨v', rfl, hD, hb1⟩

theorem or_words2 (x y : Nat) (hx : x < 4294967296) (hy : y < 4294967296) : bits BinOp.or IntKind.u64 ((y : Int) * 4294967296) (x : Int) = ((x + y * 4294967296 : Nat) : Int) := by
  have h := bits_or_u64_nat (y * 4294967296) x (by omega) (by omega)
  rw [show ((y : Int) * 4294967296) = ((y * 4294967296 : Nat) : Int) by omega, h]
  have h2 := Nat.two_pow_add_eq_or_of_lt (i := 32) (b := x) (by omega) y
  rw [show y * 4294967296 = 2 ^ 32 * y by omega, ← h2]
  omega

theorem small_step {B j r x m N : Nat} {out : List Nat} {T : Nat → Nat} {V : Nat} (hj : j < out.length) (hN : j < N) (h : V = S B T (j + 1) + r * B ^ (j + 1) + 10 * S B (dig out) N) (hx : T j = x) (hm : m = x + r * B) (hz : dig out j = 0) :
    V = S B T j + m % 10 * B ^ j + 10 * S B (dig (out.set j (m / 10))) N := by
  have h1 := S_set (B := B) (x := m / 10) hj N hN
  rw [hz] at h1
  rw [S_succ, hx] at h
  have h2 : r * B ^ (j + 1) = r * B * B ^ j := by rw [Nat.pow_succ, Nat.mul_comm (B ^ j) B, Nat.mul_assoc]
  have h3 : m * B ^ j = x * B ^ j + r * B * B ^ j := by rw [hm, Nat.add_mul]
  have h4 : m * B ^ j = 10 * (m / 10 * B ^ j) + m % 10 * B ^ j := by
    rw [← Nat.mul_assoc, ← Nat.add_mul]
    congr 1
    omega
  omega

set_option maxRecDepth 100000 in
set_option maxHeartbeats 2000000 in
theorem small_any (v : Value) (a : List Nat) (w : World) (ha : Dig .u32 w v a) (na : ∀ i, dig a i < 4294967296) (la : a.length ≤ 5000) :
    Calls Tryd.prog 63 #[v, .int .u32 10] w fun e w' => ∃ v', e = .returned (.tuple #[v', .int .u32 ((val 4294967296 a % 10 : Nat) : Int)]) ∧ ∃ ds', Dig .u32 w' v' ds' ∧ Norm 4294967296 ds' ∧ val 4294967296 ds' = val 4294967296 a / 10 ∧ Below w.heap.size w w' := by
  obtain ⟨aa, ca, eva, hca, hcella⟩ := id ha
  subst eva
  have HCA : Hid (∀ i, i < a.length → ∃ b off, aa = some ⟨b, off, none⟩ ∧ b < w.heap.size ∧ w.cell? ⟨b, off + i, none⟩ = some (.int .u32 ((dig a i : Nat) : Int))) := hcella
  have HNA : Hid (∀ i, dig a i < 4294967296) := na
  clear hcella hca ha na
  obtain ⟨i0, hi, hz0, hz1, hz2⟩ := info_parts info90
  go_enter Tryd.func63, Tryd.ntmps63
  go_wp2_with (at_make; refine wpList_make_full _ rfl _ _ 45 rfl w.heap.size 90 i0 (.int .u32 0) 1 Tryd.underlying45 hi hz0 hz1 .i64 .i64 _ _ a.length rfl rfl ?c1 ?c2 ?c3 ?c4 ?c5 ?_)
  case c1 => rfl
  case c2 => rfl
  case c3 => rw [hz2]; omega
  case c4 => unfold maxLen; omega
  case c5 => omega
  intro w1 hown hgrow
  rw [dcells_made] at hown
  have hbel : Below w.heap.size w w1 := (Below.refl _ _).grown hgrow (Nat.le_refl _) (fun k hk => by cases hk)
  clear hgrow
  go_wp2_with fail
  go_loopw [7, 8] (fun rv i wr => ∃ (k r : Nat) (out : List Nat), k ≤ a.length ∧ i = .int .i64 ((k : Int) - 1) ∧ rv = .int .u64 r ∧ r ≤ 9 ∧ out.length = a.length ∧ (∀ i, dig out i < 4294967296) ∧ (∀ i, i < k → dig out i = 0) ∧ val 4294967296 a = S 4294967296 (dig a) k + r * 4294967296 ^ k + 10 * S 4294967296 (dig out) a.length ∧ wr.ownsRow w.heap.size 90 1 (.slice (some ⟨w.heap.size, 0, none⟩) a.length a.length) a.length (dcells .u32 out) ∧ Below w.heap.size w wr)
    (fun _ i _ => (intOf i + 1).toNat)
  case atStart =>
    refine ⟨a.length, 0, List.replicate a.length 0, Nat.le_refl _, rfl, rfl, Nat.zero_le _, by simp, fun i => by rw [dig_replicate]; omega, fun i _ => dig_replicate _ _, ?_, hown, hbel⟩
    have h0 : S 4294967296 (dig (List.replicate a.length 0)) a.length = S 4294967296 (fun _ => 0) a.length := S_congr _ _ _ _ (fun i _ => dig_replicate _ _)
    have h1 : S 4294967296 (fun _ => 0) a.length = 0 := by
      have := S_above 4294967296 (fun _ => 0) 0 a.length (fun _ _ => rfl)
      rw [Nat.zero_add] at this
      rw [this]; rfl
    rw [h0, h1]
    simp [val]
  case round =>
    obtain ⟨k, r, out, hk, rfl, rfl, hr9, hol, hsm, hz, hS, hownr, hbelr⟩ := hrel
    have HSm : Hid (∀ i, dig out i < 4294967296) := hsm
    have HZ : Hid (∀ i, i < k → dig out i = 0) := hz
    have HS : Hid (val 4294967296 a = S 4294967296 (dig a) k + r * 4294967296 ^ k + 10 * S 4294967296 (dig out) a.length) := hS
    have HO : Hid (out.length = a.length) := hol
    clear hsm hS hown hbel hol hz
    by_cases h0 : k = 0
    · subst h0
      have hvo := S_val 4294967296 out a.length (by have := HO.out; omega)
      have hE := HS.out
      rw [hvo] at hE
      have hE2 : val 4294967296 a = r + 10 * val 4294967296 out := by simpa [S] using hE
      have HM : Hid (val 4294967296 a % 10 = r) := by show _ = _; omega
      have HQ : Hid (val 4294967296 out = val 4294967296 a / 10) := by show _ = _; omega
      have hown2 := hownr
      rw [show a.length = out.length from HO.out.symm] at hown2
      have hD := Dig.of_owns hown2
      rw [HO.out] at hD
      have hsm2 := HSm.out
      have e1 : IntKind.u32.wrap (r : Int) = (r : Int) := by rw [IntKind.wrap_u32]; omega
      clear hE hE2 hown2 hvo
      go_wp2_with fail
      refine (trim_any _ _ _ hD hsm2 (by have := HO.out; omega)).mono ?_
      rintro e w2 ⟨v2, rfl, rfl, ds2, hd2, hn2, hv2, hl2⟩
      go_wp2
      go_ret2
      exact ⟨v2, by rw [HM.out]; rfl, ds2, hd2, hn2, by rw [hv2]; exact HQ.out, hbelr⟩
    · obtain ⟨j, rfl⟩ : ∃ j, k = j + 1 := ⟨k - 1, by omega⟩
      have hkl : j < out.length := by have := HO.out; omega
      have hcell := hownr.cellAt j (by omega)
      rw [dcells_at .u32 out j hkl] at hcell
      have hfr := hownr.frozenAt j
      obtain ⟨bp, offp, hpp, hbp, hclp⟩ := HCA.out j (by omega)
      subst hpp
      have hcp : wr.cell? ⟨bp, offp + j, none⟩ = some (.int .u32 ((dig a j : Nat) : Int)) := (hbelr.cell (p := ⟨bp, offp + j, none⟩) hbp).trans hclp
      have hx := HNA.out j
      generalize hdx : dig a j = x at *
      have HX : Hid (dig a j = x) := hdx
      clear hdx hclp
      have e0 : (((j + 1 : Nat) : Int) - 1) = (j : Int) := by omega
      rw [e0]
      clear e0
      obtain ⟨m, hm⟩ : ∃ m, m = x + r * 4294967296 := ⟨_, rfl⟩
      have e1 : bits BinOp.or IntKind.u64 ((r : Int) * 4294967296) (x : Int) = (m : Int) := by rw [or_words2 x r hx (by omega), hm]
      have hmb : m < 42949672960 := by omega
      have e2 : IntKind.u32.wrap ((m : Int) / 10) = ((m / 10 : Nat) : Int) := by rw [IntKind.wrap_u32]; omega
      have HST : Hid (val 4294967296 a = S 4294967296 (dig a) j + m % 10 * 4294967296 ^ j + 10 * S 4294967296 (dig (out.set j (m / 10))) a.length) := small_step hkl (by omega) HS.out HX.out hm (HZ.out j (by omega))
      clear hm
      go_wp2
      go_roundw
      case rel =>
        refine ⟨j, m % 10, out.set j (m / 10), by omega, by go_num, by go_num, by omega, by rw [List.length_set]; exact HO.out, small_set hkl HSm.out (by omega), fun i h => ?_, HST.out, owns_set hownr j _, hbelr.setCell (Nat.le_refl _) _⟩
        rw [dig_set _ _ _ _ hkl, if_neg (by omega)]
        exact HZ.out i (by omega)
      case measure => simp [intOf]

theorem small_big {va : Value} {x : Nat} {w : World} (ha : BigIs w va x) (hx : x < 4294967296 ^ 1000) :
    Calls Tryd.prog 63 #[va, .int .u32 10] w fun e w' => ∃ v', e = .returned (.tuple #[v', .int .u32 ((x % 10 : Nat) : Int)]) ∧ BigIs w' v' (x / 10) ∧ Below w.heap.size w w' := by
  obtain ⟨a, h1, h2, h3, h4⟩ := ha.len hx
  refine (small_any va a w h1 h2.small (by omega)).mono ?_
  rintro e w' ⟨v', he, ds, d1, d2, d3, d4⟩
  rw [h3] at he d3
  exact ⟨v', he, ⟨ds, d1, d2, d3⟩, d4⟩

theorem twin_big {va : Value} {x : Nat} {w : World} (ha : BigIs w va x) (hx : x < 4294967296 ^ 1000) (h0 : x ≠ 0) :
    Calls Tryd.prog 62 #[va] w fun e w' => ∃ v', e = .returned v' ∧ BigIs w' v' x ∧ Below w.heap.size w w' := by
  obtain ⟨a, h1, h2, h3, h4⟩ := ha.len hx
  refine (twin_any va a w h1 (by omega) (fun h => h0 (by rw [← h3]; exact (val_zero (by omega) h2).2 h))).mono ?_
  rintro e w' ⟨v', he, d1, d4⟩
  exact ⟨v', he, ⟨a, d1, h2, h3⟩, d4⟩
end Go.Proofs.YtfangnjdfmaaoaaDoor
