/- resolve, Contains, Resolve. -/
import Derived.Test.YtcmmoinkhodjfaaDoorPfFormW
namespace Go.Proofs.YtcmmoinkhodjfaaDoor
open Go.RowKit Go.Deep

set_option maxRecDepth 100000 in
set_option maxHeartbeats 1000000 in
theorem res_any (a b : Nat × Nat) (ha : Small a) (hb : Small b) (v : Nat) (hv : v < 24) (w : World) :
    Calls Tryd.prog 31 #[sidesV a, sidesV b, .int .i64 (v : Int)] w fun e w' => e = .returned (sidesV (resolveF a b v)) ∧ Below w.heap.size w w' := by
  have h63 : (2 : Nat) ^ 24 < 18446744073709551616 := by decide
  have hp := pow_small hv
  have e2 : ((2 : Int) ^ v) = ((2 ^ v : Nat) : Int) := by simp
  have HO1 := Lib.hid (u64_andNot_nat a.1 (2 ^ v) (by have := ha.1; omega) (by omega))
  have HO2 := Lib.hid (u64_andNot_nat b.2 (2 ^ v) (by have := hb.2; omega) (by omega))
  rw [off_is ha.1 hv] at HO1
  rw [off_is hb.2 hv] at HO2
  have hsm := resolve_small (v := v) ha hb
  have l1 : offBit a.1 v < 18446744073709551616 := Nat.lt_trans (small_of fun i hi => by rw [off_bit, small_bit ha.1 hi]; rfl) h63
  have l2 : offBit b.2 v < 18446744073709551616 := Nat.lt_trans (small_of fun i hi => by rw [off_bit, small_bit hb.2 hi]; rfl) h63
  have HR1 := Lib.hid (bits_or_u64_nat (offBit a.1 v) b.1 l1 (by have := hb.1; omega))
  have HR2 := Lib.hid (bits_or_u64_nat a.2 (offBit b.2 v) (by have := ha.2; omega) l2)
  have HW := Lib.hid (shl_bit hv)
  have HRF : Hid (resolveF a b v = (offBit a.1 v ||| b.1, a.2 ||| offBit b.2 v)) := rfl
  have HB : Hid (∀ x y z t1 t2 t3, Below w.heap.size w (((w.alloc (.cells x t1)).alloc (.cells y t2)).alloc (.cells z t3))) := fun x y z t1 t2 t3 => ((below_new w _).alloc (by simp) _).alloc (by simp; omega) _
  rw [← e2] at HO1 HO2
  have hv2 : (v : Int) < 24 := by omega
  clear ha hb hsm l1 l2 hp h63 e2
  unfold sidesV
  go_enter Tryd.func31, Tryd.ntmps31
  go_wp2
  rw [HW.out, HO1.out, HO2.out, HR1.out, HR2.out]
  exact bodyPost_ret (v := .agg #[.int .u64 ((offBit a.1 v ||| b.1 : Nat) : Int), .int .u64 ((a.2 ||| offBit b.2 v : Nat) : Int)]) (by simp [results, Tryd.results31, go_sem]) rfl ⟨rfl, HB.out _ _ _ _ _ _⟩

set_option maxRecDepth 100000 in
set_option maxHeartbeats 1000000 in
theorem index_any (xs : List Int) (x : Int) (a : Option Addr) (cap : Nat) (w : World) (hI : IntsIn w a xs) (hm : xs.length ≤ 9223372036854775807) :
    Calls Tryd.prog 47 #[.slice a xs.length cap, .int .i64 x] w fun e w' => e = .returned (.int .i64 (idxF (fun y => decide (x = y)) xs)) ∧ w = w' := by
  have HI := Lib.hid hI
  clear hI
  go_enter Tryd.func47, Tryd.ntmps47
  go_wp2_with fail
  go_loop [8] (fun kV => ∃ k : Nat, k ≤ xs.length ∧ kV = .int .i64 (k : Int) ∧ ∀ j, j < k → decide (x = xs.getD j 0) = false) (fun kV => xs.length - (intOf kV).toNat)
  case atStart => exact ⟨0, Nat.zero_le _, rfl, fun j h => by omega⟩
  case round =>
    obtain ⟨k, hk, rfl, h1⟩ := hrel
    have H1 := Lib.hid h1
    clear h1
    by_cases hlt : k < xs.length
    · obtain ⟨ad, rfl, hl, hc⟩ := HI.out k hlt
      generalize hy : xs.getD k 0 = y at *
      have HY := Lib.hid hy
      clear hy
      by_cases he : x = y
      · subst he
        have HM : Hid (idxF (fun y => decide (x = y)) xs = (k : Int)) := idxF_hit H1.out hlt (by rw [HY.out]; simp)
        go_wp2
        go_ret
        exact ⟨by rw [HM.out]; rfl, rfl⟩
      · have he' : (x == y) = false := by simpa using he
        go_wp2
        go_round
        case rel => exact ⟨k + 1, hlt, by go_num, fun j hj => (by
          rcases Nat.lt_succ_iff_lt_or_eq.1 hj with e | e
          · exact H1.out j e
          · rw [e, HY.out]; exact decide_eq_false he)⟩
        case measure => simp [intOf]; omega
    · obtain rfl : k = xs.length := by omega
      have HM : Hid (idxF (fun y => decide (x = y)) xs = -1) := idxF_none H1.out
      go_wp2
      go_ret
      exact ⟨by rw [HM.out]; rfl, rfl⟩

set_option maxRecDepth 100000 in
set_option maxHeartbeats 1000000 in
theorem contains_any (xs : List Int) (x : Int) (a : Option Addr) (cap : Nat) (w : World) (hI : IntsIn w a xs) (hm : xs.length ≤ 9223372036854775807) :
    Calls Tryd.prog 30 #[.slice a xs.length cap, .int .i64 x] w fun e w' => e = .returned (.bool (decide (x ∈ xs))) ∧ w = w' := by
  have H := Lib.hid (index_any xs x a cap w hI hm)
  have e : decide (x ∈ xs) = decide (0 ≤ idxF (fun y => decide (x = y)) xs) := by
    rw [idxF_any, Bool.eq_iff_iff, decide_eq_true_eq, List.any_eq_true]
    exact ⟨fun h => ⟨x, h, by simp⟩, fun ⟨y, hy, e⟩ => by rw [of_decide_eq_true e]; exact hy⟩
  rw [e]
  clear hI e
  generalize idxF (fun y => decide (x = y)) xs = i at *
  go_enter Tryd.func30, Tryd.ntmps30
  go_wp2_with fail
  refine H.out.mono ?_
  rintro e w1 ⟨rfl, rfl⟩
  clear H
  go_wp2
  go_ret
  exact ⟨by first | rfl | simp, rfl⟩

/-- An error's number as a value. -/
def errN (m : Int) : Value := if m = 0 then .nilIface else .iface 27 (.int .i64 m)
def ResAns (B : Nat) (r : Int × List Int) (e : Ending) (w' : World) : Prop := ∃ a cap, e = .returned (.tuple #[.slice a r.2.length cap, errN r.1]) ∧ w'.ownsRow B 3 1 (.slice a r.2.length cap) r.2.length (icells r.2)
theorem resAns_err {B : Nat} {w' : World} {m : Int} (hm : m ≠ 0) {e : Ending} (he : e = .returned (.tuple #[.slice none 0 0, .iface 27 (.int .i64 m)])) : ResAns B (m, []) e w' :=
  ⟨none, 0, by rw [he]; unfold errN; rw [if_neg hm]; rfl, World.ownsRow_nil _ _ _ _⟩

set_option maxRecDepth 100000 in
set_option maxHeartbeats 2000000 in
theorem resolve_any (p q : List Int) (v : Int) (a1 a2 : Option Addr) (c1 c2 : Nat) (w : World) (hI1 : IntsIn w a1 p) (hm1 : p.length ≤ 9223372036854775807) (hI2 : IntsIn w a2 q) (hm2 : q.length ≤ 9223372036854775807) :
    Calls Tryd.prog 11 #[.slice a1 p.length c1, .slice a2 q.length c2, .int .i64 v] w fun e w' => ResAns w.heap.size (resF p q v) e w' ∧ Below w.heap.size w w' := by
  have bad : resF p q v = (1, []) → (Calls Tryd.prog 11 #[.slice a1 p.length c1, .slice a2 q.length c2, .int .i64 v] w fun e w' => e = .returned (.tuple #[.slice none 0 0, .iface 27 (.int .i64 1)]) ∧ w = w') → Calls Tryd.prog 11 #[.slice a1 p.length c1, .slice a2 q.length c2, .int .i64 v] w fun e w' => ResAns w.heap.size (resF p q v) e w' ∧ Below w.heap.size w w' := fun h1 h2 => h2.mono fun e w' ⟨he, hw⟩ => ⟨by rw [h1]; exact resAns_err (by omega) he, hw ▸ Below.refl _ _⟩
  by_cases h0 : v < 0
  · refine bad (by unfold resF; rw [if_neg (by omega)]) ?_
    clear bad hI1 hI2
    go_enter Tryd.func11, Tryd.ntmps11
    go_wp2
    go_ret2
    exact ⟨rfl, rfl⟩
  by_cases h24 : 24 ≤ v
  · refine bad (by unfold resF; rw [if_neg (by omega)]) ?_
    clear bad hI1 hI2
    go_enter Tryd.func11, Tryd.ntmps11
    go_wp2
    go_ret2
    exact ⟨rfl, rfl⟩
  obtain ⟨n, rfl⟩ : ∃ n : Nat, v = (n : Int) := ⟨v.toNat, by omega⟩
  have HC1 := Lib.hid (contains_any p ((n : Int) + 1) a1 c1 w hI1 hm1)
  have HC2 := Lib.hid (contains_any q (-((n : Int) + 1)) a2 c2 w hI2 hm2)
  by_cases hp : (n : Int) + 1 ∈ p
  · by_cases hq : -((n : Int) + 1) ∈ q
    · rw [decide_eq_true hp] at HC1
      rw [decide_eq_true hq] at HC2
      have hn : n < 24 := by omega
      have HF : Hid (resF p q (n : Int) = if alwaysF (resolveF (sidesF p) (sidesF q) n) = true then (8, []) else (0, clauseF (resolveF (sidesF p) (sidesF q) n))) := by
        show resF p q (n : Int) = _
        unfold resF; rw [if_pos ⟨by omega, by omega, hp, hq⟩, Int.toNat_natCast]
      have HS1 : Hid (∀ W, Below w.heap.size w W → Calls Tryd.prog 26 #[.slice a1 p.length c1] W fun e w' => e = .returned (sidesV (sidesF p)) ∧ Below W.heap.size W w') := fun W hW => sidesOf_any p a1 c1 W (hI1.below hW) hm1
      have HS2 : Hid (∀ W, Below w.heap.size w W → Calls Tryd.prog 26 #[.slice a2 q.length c2] W fun e w' => e = .returned (sidesV (sidesF q)) ∧ Below W.heap.size W w') := fun W hW => sidesOf_any q a2 c2 W (hI2.below hW) hm2
      have hs1 := sides_small p
      have hs2 := sides_small q
      generalize sidesF p = s1 at *
      generalize sidesF q = s2 at *
      have HR : Hid (∀ W : World, Calls Tryd.prog 31 #[sidesV s1, sidesV s2, .int .i64 (n : Int)] W fun e w' => e = .returned (sidesV (resolveF s1 s2 n)) ∧ Below W.heap.size W w') := fun W => res_any s1 s2 hs1 hs2 n hn W
      have hsm := resolve_small (v := n) hs1 hs2
      generalize resolveF s1 s2 n = s at *
      have HAL : Hid (∀ W : World, Calls Tryd.prog 27 #[.agg #[.int .u64 (s.1 : Int), .int .u64 (s.2 : Int)]] W fun e w' => e = .returned (.bool (alwaysF s)) ∧ Below W.heap.size W w') := fun W => always_any s hsm W
      have HCL : Hid (∀ W : World, Calls Tryd.prog 28 #[.agg #[.int .u64 (s.1 : Int), .int .u64 (s.2 : Int)]] W fun e w' => OutI W.heap.size (clauseF s) e w' ∧ Below W.heap.size W w') := fun W => clause_any s hsm W
      clear hI1 hI2 hsm hs1 hs2 bad hp hq
      go_enter Tryd.func11, Tryd.ntmps11
      go_wp2_with fail
      refine HC1.out.mono ?_
      rintro e w1 ⟨rfl, rfl⟩
      go_wp2_with fail
      refine HC2.out.mono ?_
      rintro e w1 ⟨rfl, rfl⟩
      clear HC1 HC2
      go_wp2_with fail
      refine (HS1.out _ (Below.refl _ _)).mono ?_
      rintro e w1 ⟨rfl, hb1⟩
      have HB1 := Lib.hid hb1
      clear hb1 HS1
      go_wp2_with fail
      refine (HS2.out _ HB1.out).mono ?_
      rintro e w2 ⟨rfl, hb2⟩
      have HB2 : Hid (Below w.heap.size w w2) := HB1.out.trans (hb2.mono HB1.out.size)
      clear hb2 HS2 HB1
      go_wp2_with fail
      refine (HR.out _).mono ?_
      rintro e w3 ⟨rfl, hb3⟩
      clear HR
      unfold sidesV
      have hb4 := HB2.out.trans (hb3.mono HB2.out.size)
      have HB3 : Hid (Below w.heap.size w (w3.alloc (.cells #[.int .u64 (s.1 : Int), .int .u64 (s.2 : Int)] 68))) := hb4.alloc hb4.size _
      have HK := Lib.hid (Blk.new w3 68 #[.int .u64 (s.1 : Int), .int .u64 (s.2 : Int)])
      clear hb3 hb4 HB2
      go_wp2_with fail
      refine (HAL.out _).mono ?_
      rintro e w4 ⟨rfl, hb4⟩
      have HB4 : Hid (Below w.heap.size w w4) := HB3.out.trans (hb4.mono HB3.out.size)
      have hk2 := HK.out.below hb4 HK.out.lt
      have k0 := hk2.cell 0
      have k1 := hk2.cell 1
      simp at k0 k1
      clear hb4 hk2 HAL HK HB3
      cases hal : alwaysF s with
      | true =>
        rw [hal, if_pos rfl] at HF
        clear hal
        go_wp2
        go_ret2
        exact ⟨by rw [HF.out]; exact resAns_err (by omega) rfl, HB4.out⟩
      | false =>
        rw [hal, if_neg (by simp)] at HF
        clear hal
        go_wp2_with fail
        refine (HCL.out _).mono ?_
        rintro e w5 ⟨⟨ra, rc, rfl, hrow⟩, hb5⟩
        have HB5 : Hid (Below w.heap.size w w5) := HB4.out.trans (hb5.mono HB4.out.size)
        have HRW := Lib.hid (ownsRow_base hrow HB4.out.size)
        clear hb5 hrow HCL
        go_wp2
        go_ret2
        exact ⟨⟨ra, rc, by rw [HF.out]; rfl, by rw [HF.out]; exact HRW.out⟩, HB5.out⟩
    · refine bad (by unfold resF; rw [if_neg (fun h => hq h.2.2.2)]) ?_
      rw [decide_eq_true hp] at HC1
      rw [decide_eq_false hq] at HC2
      clear hI1 hI2 bad hp hq
      go_enter Tryd.func11, Tryd.ntmps11
      go_wp2_with fail
      refine HC1.out.mono ?_
      rintro e w1 ⟨rfl, rfl⟩
      go_wp2_with fail
      refine HC2.out.mono ?_
      rintro e w1 ⟨rfl, rfl⟩
      clear HC1 HC2
      go_wp2
      go_ret2
      exact ⟨rfl, rfl⟩
  · refine bad (by unfold resF; rw [if_neg (fun h => hp h.2.2.1)]) ?_
    rw [decide_eq_false hp] at HC1
    clear hI1 hI2 bad hp HC2
    go_enter Tryd.func11, Tryd.ntmps11
    go_wp2_with fail
    refine HC1.out.mono ?_
    rintro e w1 ⟨rfl, rfl⟩
    clear HC1
    go_wp2
    go_ret2
    exact ⟨rfl, rfl⟩
end Go.Proofs.YtcmmoinkhodjfaaDoor
