/- The reference's numbers: small, whose list is a new one. -/
import Derived.Test.YtfangnjdfmaaoaaDoorBigSmall
namespace Go.Proofs.YtfangnjdfmaaoaaDoor
open Go.RowKit Num Go.Sort Go.PlainAid

set_option maxRecDepth 100000 in
set_option maxHeartbeats 1000000 in
theorem trim_fresh (g cp : Nat) (ds : List Nat) (w : World) (hd : Dig .u32 w (.slice (some ⟨g, 0, none⟩) ds.length cp) ds) (sm : ∀ i, dig ds i < 4294967296) (hl : ds.length ≤ 100000) :
    Calls Tryd.prog 64 #[.slice (some ⟨g, 0, none⟩) ds.length cp] w fun e w' => ∃ v', e = .returned v' ∧ (∃ k' c', v' = .slice (some ⟨g, 0, none⟩) k' c') ∧ w = w' ∧ ∃ ds', Dig .u32 w v' ds' ∧ Norm 4294967296 ds' ∧ val 4294967296 ds' = val 4294967296 ds ∧ ds'.length ≤ ds.length := by
  obtain ⟨a, cap, hv, hc, hcell⟩ := id hd
  cases hv
  have HC : Hid (∀ i, i < ds.length → ∃ b off, (some ⟨g, 0, none⟩ : Option Addr) = some ⟨b, off, none⟩ ∧ b < w.heap.size ∧ w.cell? ⟨b, off + i, none⟩ = some (.int .u32 ((dig ds i : Nat) : Int))) := hcell
  clear hcell
  go_enter Tryd.func64, Tryd.ntmps64
  go_wp2_with fail
  go_loop [3] (fun n => ∃ k : Nat, k ≤ ds.length ∧ n = .int .i64 k ∧ ∀ i, k ≤ i → dig ds i = 0) (fun n => (intOf n).toNat)
  case atStart => exact ⟨ds.length, Nat.le_refl _, rfl, fun i hi => dig_beyond ds i hi⟩
  case round =>
    obtain ⟨k, hk, rfl, hz⟩ := hrel
    have HZ : Hid (∀ i, k ≤ i → dig ds i = 0) := hz
    clear hz
    by_cases h0 : k = 0
    · subst h0
      have hx := norm_take (B := 4294967296) (k := 0) (by omega) sm (Nat.zero_le _) (fun h => absurd rfl h)
      have hval := val_take (B := 4294967296) (k := 0) (Nat.zero_le _) HZ.out
      have hDt := Dig.take hd (Nat.zero_le _)
      go_wp2
      go_ret
      exact ⟨_, rfl, ⟨_, _, rfl⟩, rfl, ds.take 0, hDt, hx, hval, Nat.zero_le _⟩
    · obtain ⟨j, rfl⟩ : ∃ j, k = j + 1 := ⟨k - 1, by omega⟩
      obtain ⟨b, off, ha, hb, hcl⟩ := HC.out j (by omega)
      cases ha
      rw [Nat.zero_add] at hcl
      have hj := sm j
      by_cases hzj : dig ds j = 0
      · rw [hzj] at hcl
        go_wp2
        go_round
        case rel =>
          refine ⟨j, by omega, by go_num, fun i hi => ?_⟩
          by_cases e : i = j
          · rw [e]; exact hzj
          · exact HZ.out i (by omega)
        case measure => simp [intOf]
      · have hbq : (((dig ds j : Nat) : Int) == 0) = false := by rw [beq_eq_false_iff_ne]; omega
        have hx := norm_take (B := 4294967296) (k := j + 1) (by omega) sm hk (fun _ => hzj)
        have hval := val_take (B := 4294967296) hk HZ.out
        have hDt := Dig.take hd hk
        clear hzj
        go_wp2
        go_ret
        exact ⟨_, rfl, ⟨_, _, rfl⟩, rfl, ds.take (j + 1), hDt, hx, hval, by rw [List.length_take]; omega⟩

set_option maxRecDepth 100000 in
set_option maxHeartbeats 2000000 in
theorem small_fresh (v : Value) (a : List Nat) (w : World) (ha : Dig .u32 w v a) (na : ∀ i, dig a i < 4294967296) (la : a.length ≤ 5000) :
    Calls Tryd.prog 63 #[v, .int .u32 10] w fun e w' => ∃ v', e = .returned (.tuple #[v', .int .u32 ((val 4294967296 a % 10 : Nat) : Int)]) ∧ (∃ k' c', v' = .slice (some ⟨w.heap.size, 0, none⟩) k' c') ∧ ∃ ds', Dig .u32 w' v' ds' ∧ Norm 4294967296 ds' ∧ val 4294967296 ds' = val 4294967296 a / 10 ∧ Below w.heap.size w w' := by
  obtain ⟨aa, ca, eva, hca, hcella⟩ := id ha
  subst eva
  have HCA : Hid (∀ i, i < a.length → ∃ b off, aa = some ⟨b, off, none⟩ ∧ b < w.heap.size ∧ w.cell? ⟨b, off + i, none⟩ = some (.int .u32 ((dig a i : Nat) : Int))) := hcella
  have HNA : Hid (∀ i, dig a i < 4294967296) := na
  clear hcella hca ha na
  obtain ⟨i0, hi, hz0, hz1, hz2⟩ := info_parts info90
  go_enter Tryd.func63, Tryd.ntmps63
  go_wp2_with (at_make; refine wpList_make_full _ rfl _ _ 45 rfl w.heap.size 90 i0 (.int .u32 0) 1 Tryd.underlying45 hi hz0 hz1 .i64 .i64 _ _ a.length rfl rfl ?c1 ?c2 ?c3 ?c4 ?c5 ?_)
  case c1 => rfl
  case c2 => rfl
  case c3 => rw [hz2]; omega
  case c4 => unfold maxLen; omega
  case c5 => omega
  intro w1 hown hgrow
  rw [dcells_made] at hown
  have hbel : Below w.heap.size w w1 := (Below.refl _ _).grown hgrow (Nat.le_refl _) (fun k hk => by cases hk)
  clear hgrow
  go_wp2_with fail
  go_loopw [7, 8] (fun rv i wr => ∃ (k r : Nat) (out : List Nat), k ≤ a.length ∧ i = .int .i64 ((k : Int) - 1) ∧ rv = .int .u64 r ∧ r ≤ 9 ∧ out.length = a.length ∧ (∀ i, dig out i < 4294967296) ∧ (∀ i, i < k → dig out i = 0) ∧ val 4294967296 a = S 4294967296 (dig a) k + r * 4294967296 ^ k + 10 * S 4294967296 (dig out) a.length ∧ wr.ownsRow w.heap.size 90 1 (.slice (some ⟨w.heap.size, 0, none⟩) a.length a.length) a.length (dcells .u32 out) ∧ Below w.heap.size w wr)
    (fun _ i _ => (intOf i + 1).toNat)
  case atStart =>
    refine ⟨a.length, 0, List.replicate a.length 0, Nat.le_refl _, rfl, rfl, Nat.zero_le _, by simp, fun i => by rw [dig_replicate]; omega, fun i _ => dig_replicate _ _, ?_, hown, hbel⟩
    have h0 : S 4294967296 (dig (List.replicate a.length 0)) a.length = S 4294967296 (fun _ => 0) a.length := S_congr _ _ _ _ (fun i _ => dig_replicate _ _)
    have h1 : S 4294967296 (fun _ => 0) a.length = 0 := by
      have := S_above 4294967296 (fun _ => 0) 0 a.length (fun _ _ => rfl)
      rw [Nat.zero_add] at this
      rw [this]; rfl
    rw [h0, h1]
    simp [val]
  case round =>
    obtain ⟨k, r, out, hk, rfl, rfl, hr9, hol, hsm, hz, hS, hownr, hbelr⟩ := hrel
    have HSm : Hid (∀ i, dig out i < 4294967296) := hsm
    have HZ : Hid (∀ i, i < k → dig out i = 0) := hz
    have HS : Hid (val 4294967296 a = S 4294967296 (dig a) k + r * 4294967296 ^ k + 10 * S 4294967296 (dig out) a.length) := hS
    have HO : Hid (out.length = a.length) := hol
    clear hsm hS hown hbel hol hz
    by_cases h0 : k = 0
    · subst h0
      have hvo := S_val 4294967296 out a.length (by have := HO.out; omega)
      have hE := HS.out
      rw [hvo] at hE
      have hE2 : val 4294967296 a = r + 10 * val 4294967296 out := by simpa [S] using hE
      have HM : Hid (val 4294967296 a % 10 = r) := by show _ = _; omega
      have HQ : Hid (val 4294967296 out = val 4294967296 a / 10) := by show _ = _; omega
      have hown2 := hownr
      rw [show a.length = out.length from HO.out.symm] at hown2
      have hD := Dig.of_owns hown2
      have hsm2 := HSm.out
      have e1 : IntKind.u32.wrap (r : Int) = (r : Int) := by rw [IntKind.wrap_u32]; omega
      clear hE hE2 hown2 hvo
      go_wp2_with fail
      rw [← HO.out]
      refine (trim_fresh _ _ _ _ hD hsm2 (by have := HO.out; omega)).mono ?_
      rintro e w2 ⟨v2, rfl, hf2, rfl, ds2, hd2, hn2, hv2, hl2⟩
      go_wp2
      go_ret2
      exact ⟨v2, by rw [HM.out]; rfl, hf2, ds2, hd2, hn2, by rw [hv2]; exact HQ.out, hbelr⟩
    · obtain ⟨j, rfl⟩ : ∃ j, k = j + 1 := ⟨k - 1, by omega⟩
      have hkl : j < out.length := by have := HO.out; omega
      have hcell := hownr.cellAt j (by omega)
      rw [dcells_at .u32 out j hkl] at hcell
      have hfr := hownr.frozenAt j
      obtain ⟨bp, offp, hpp, hbp, hclp⟩ := HCA.out j (by omega)
      subst hpp
      have hcp : wr.cell? ⟨bp, offp + j, none⟩ = some (.int .u32 ((dig a j : Nat) : Int)) := (hbelr.cell (p := ⟨bp, offp + j, none⟩) hbp).trans hclp
      have hx := HNA.out j
      generalize hdx : dig a j = x at *
      have HX : Hid (dig a j = x) := hdx
      clear hdx hclp
      have e0 : (((j + 1 : Nat) : Int) - 1) = (j : Int) := by omega
      rw [e0]
      clear e0
      obtain ⟨m, hm⟩ : ∃ m, m = x + r * 4294967296 := ⟨_, rfl⟩
      have e1 : bits BinOp.or IntKind.u64 ((r : Int) * 4294967296) (x : Int) = (m : Int) := by rw [or_words2 x r hx (by omega), hm]
      have hmb : m < 42949672960 := by omega
      have e2 : IntKind.u32.wrap ((m : Int) / 10) = ((m / 10 : Nat) : Int) := by rw [IntKind.wrap_u32]; omega
      have HST : Hid (val 4294967296 a = S 4294967296 (dig a) j + m % 10 * 4294967296 ^ j + 10 * S 4294967296 (dig (out.set j (m / 10))) a.length) := small_step hkl (by omega) HS.out HX.out hm (HZ.out j (by omega))
      clear hm
      go_wp2
      go_roundw
      case rel =>
        refine ⟨j, m % 10, out.set j (m / 10), by omega, by go_num, by go_num, by omega, by rw [List.length_set]; exact HO.out, small_set hkl HSm.out (by omega), fun i h => ?_, HST.out, owns_set hownr j _, hbelr.setCell (Nat.le_refl _) _⟩
        rw [dig_set _ _ _ _ hkl, if_neg (by omega)]
        exact HZ.out i (by omega)
      case measure => simp [intOf]

theorem small_new {va : Value} {x : Nat} {w : World} (ha : BigIs w va x) (hx : x < 4294967296 ^ 1000) :
    Calls Tryd.prog 63 #[va, .int .u32 10] w fun e w' => ∃ k' c', e = .returned (.tuple #[.slice (some ⟨w.heap.size, 0, none⟩) k' c', .int .u32 ((x % 10 : Nat) : Int)]) ∧ BigIs w' (.slice (some ⟨w.heap.size, 0, none⟩) k' c') (x / 10) ∧ Below w.heap.size w w' := by
  obtain ⟨a, h1, h2, h3, h4⟩ := ha.len hx
  refine (small_fresh va a w h1 h2.small (by omega)).mono ?_
  rintro e w' ⟨v', he, ⟨k', c', rfl⟩, ds, d1, d2, d3, d4⟩
  exact ⟨k', c', by rw [he, h3], ⟨ds, d1, d2, by rw [d3, h3]⟩, d4⟩
end Go.Proofs.YtfangnjdfmaaoaaDoor
