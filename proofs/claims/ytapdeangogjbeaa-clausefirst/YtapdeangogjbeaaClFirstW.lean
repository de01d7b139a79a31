/- The walk of ClauseFirst. -/
import Derived.Test.YtapdeangogjbeaaClFirst
namespace Go.Proofs.Ytapdeangogjbeaa
open Go.RowKit Go.Deep

theorem mask_val (vals v : Nat) (hv : v ≤ 24) (hx : vals < 18446744073709551616) : bits BinOp.and IntKind.u64 (vals : Int) ((2 : Int) ^ v - 1) = ((vals &&& (2 ^ v - 1) : Nat) : Int) ∧ vals &&& (2 ^ v - 1) < 18446744073709551616 ∧ IntKind.u64.wrap ((2 : Int) ^ v - 1) = (2 : Int) ^ v - 1 ∧ IntKind.u64.wrap ((2 : Int) ^ v) = (2 : Int) ^ v := by
  have h24 : 2 ^ v ≤ 2 ^ 24 := Nat.pow_le_pow_right (by omega) (by omega)
  have h63 : (2 : Nat) ^ 24 < 18446744073709551616 := by decide
  have h1 : 1 ≤ 2 ^ v := Nat.one_le_two_pow
  have e : ((2 : Int) ^ v - 1) = ((2 ^ v - 1 : Nat) : Int) := by
    have : ((2 : Int) ^ v) = ((2 ^ v : Nat) : Int) := by simp
    rw [this]; omega
  have e2 : ((2 : Int) ^ v) = ((2 ^ v : Nat) : Int) := by simp
  refine ⟨by rw [e, bits_and_u64_nat vals (2 ^ v - 1) hx (by omega)], Nat.lt_of_le_of_lt Nat.and_le_left hx, ?_, ?_⟩
  · rw [e, IntKind.wrap_u64]; exact Int.emod_eq_of_lt (Int.natCast_nonneg _) (by omega)
  · rw [e2, IntKind.wrap_u64]; exact Int.emod_eq_of_lt (Int.natCast_nonneg _) (by omega)

/-- What Solve tells, and what is so. -/
theorem solve_first {v : Nat} {l : List (List Int)} {r : Res} (hv : v ≤ 24) (hl : LitsL v l) (hr : Run v l st0 r) :
    (∀ p, r = .unsat p → ∀ vals, allK vals l = false) ∧ (∀ t, r = .sat t → allK (numF t 24) l = true ∧ numF t 24 < 2 ^ v ∧ ∀ vals, allK vals l = true → ∀ i, i < v → (∀ j, j < i → vals.testBit j = (numF t 24).testBit j) → vals.testBit i = true → (numF t 24).testBit i = false → False) := by
  obtain ⟨h1, h2⟩ := run_inv hv hl hr (good0 v) (inv0 l)
  refine ⟨fun p hp vals => ?_, fun t ht => ?_⟩
  · cases h : allK vals l with
    | false => rfl
    | true => exact absurd (satL_of h) (h1 p hp vals)
  · obtain ⟨ds, hi, hlt, hc, hall, hcl⟩ := h2 t ht
    have h24 : LitsL 24 l := fun c hc x hx => lit_24 (by omega) (hl c hc x hx)
    refine ⟨all_of h24 fun c hcc => ?_, numF_small hlt hv, fun vals hs i hiv hsame q1 q0 => not_ahead hv hi hlt hc hall (satL_of hs) hiv hsame q1 q0⟩
    obtain ⟨x, hx, hxt⟩ := hcl c hcc
    exact ⟨x, hx, numF_sat hlt hc hv x hxt⟩

set_option maxRecDepth 100000 in
set_option maxHeartbeats 4000000 in
theorem first_any (v : Int) (l : List (List Int)) (a : Option Addr) (cap : Nat) (hn : a = none → cap = 0) (vals : Nat) (hvl : vals < 18446744073709551616) (w : World) (hI : ClsIn w a l) (hm : l.length ≤ 9223372036854775807) :
    Calls Try.prog 3 #[.int .i64 v, .slice a l.length cap, .int .u64 (vals : Int)] w fun e w' => e = .returned (.bool true) ∧ Below w.heap.size w w' := by
  have HFW := Lib.hid (few_any v 200 l a cap w hI hm)
  have HSV := Lib.hid (solve_any v l a cap hn w hI hm)
  have HI := Lib.hid hI
  have HSO : Hid (∀ W : World, Calls Try.prog 7 #[] W fun e w' => e = .returned (.bool true) ∧ Below W.heap.size W w') := solves_any
  clear hI hn
  go_enter Try.func3, Try.ntmps3
  go_wp2_with fail
  refine HFW.out.mono ?_
  rintro e w1 ⟨⟨B, rfl⟩, rfl⟩
  clear HFW
  cases B with
  | false =>
    go_wp2
    go_ret
    exact ⟨rfl, Below.refl _ _⟩
  | true =>
    go_wp2_with fail
    refine HSV.out.mono ?_
    rintro e w1 ⟨hS, hb1⟩
    clear HSV
    have HB1 := Lib.hid hb1
    clear hb1
    have hbad : (∃ tt uu, e = .returned (.tuple #[.agg #[.bool false, .int .u64 0, .slice none 0 0], .iface tt uu])) ∨ ((checkF v l).1 = 0 ∧ ((∃ t, Run v.toNat l st0 (.sat t) ∧ e = .returned (.tuple #[.agg #[.bool true, .int .u64 ((numF t 24 : Nat) : Int), .slice none 0 0], .nilIface])) ∨ (∃ p pa pc, Run v.toNat l st0 (.unsat p) ∧ e = .returned (.tuple #[.agg #[.bool false, .int .u64 0, .slice pa p.length pc], .nilIface])))) := by
      rcases hS with ⟨hz, er, he, her⟩ | ⟨hz, r, hr, ⟨t, rfl, he⟩ | ⟨p, pa, pc, rfl, he, _⟩ | ⟨rfl, he⟩⟩
      · rcases her with h | h | ⟨_, b, _, h, _⟩
        · exact absurd h.1 hz
        · exact Or.inl ⟨_, _, by rw [he, h.2.2]⟩
        · exact Or.inl ⟨_, _, by rw [he, h]⟩
      · exact Or.inr ⟨hz, Or.inl ⟨t, hr, he⟩⟩
      · exact Or.inr ⟨hz, Or.inr ⟨p, pa, pc, hr, he⟩⟩
      · exact Or.inl ⟨_, _, he⟩
    clear hS
    rcases hbad with ⟨tt, uu, rfl⟩ | ⟨hz, ⟨t, hr, rfl⟩ | ⟨p, pa, pc, hr, rfl⟩⟩
    · have hbn := below_new w1 (.cells #[.bool false, .int .u64 0, .slice none 0 0] 26)
      have K := Lib.hid (Blk.new w1 26 #[.bool false, .int .u64 0, .slice none 0 0])
      have HB2 : Hid (Below w.heap.size w _) := HB1.out.trans (hbn.mono HB1.out.size)
      clear hbn HB1
      have HS1 := Lib.hid (HSO.out (w1.alloc (.cells #[.bool false, .int .u64 0, .slice none 0 0] 26)))
      go_wp2_with fail
      generalize w1.alloc (.cells #[.bool false, .int .u64 0, .slice none 0 0] 26) = W1 at *
      refine HS1.out.mono ?_
      rintro e w2 ⟨rfl, hb2⟩
      have K2 := Lib.hid (K.out.below hb2 K.out.lt)
      have HB3 : Hid (Below w.heap.size w w2) := HB2.out.trans (hb2.mono HB2.out.size)
      have HS2 := Lib.hid (HSO.out w2)
      clear hb2 HS1 HB2 K
      go_wp2_with fail
      refine HS2.out.mono ?_
      rintro e w3 ⟨rfl, hb3⟩
      have K3 := K2.out.below hb3 K2.out.lt
      have k0 := K3.cell 0
      have k1 := K3.cell 1
      have HB4 : Hid (Below w.heap.size w w3) := HB3.out.trans (hb3.mono HB3.out.size)
      clear hb3 HS2 K3 K2 HB3
      go_wp2
      go_ret
      exact ⟨by first | rfl | simp, HB4.out⟩
    · obtain ⟨hv0, hv1, hl200, hls, -, -⟩ := check_fine hz
      obtain ⟨n, rfl⟩ : ∃ n : Nat, v = (n : Int) := ⟨v.toNat, by omega⟩
      obtain ⟨hall, hsm, hfst⟩ := (solve_first (v := n) (by omega) hls hr).2 t rfl
      obtain ⟨m1, m2, m3, m4⟩ := mask_val vals n (by omega) hvl
      have hN64 : numF t 24 < 18446744073709551616 := Nat.lt_trans (numF_lt t 24) (by decide)
      have hshr : ((numF t 24 : Nat) : Int) / 2 ^ n = 0 := by
        have e : ((2 : Int) ^ n) = ((2 ^ n : Nat) : Int) := by simp
        rw [e]
        exact Int.ediv_eq_zero_of_lt (Int.natCast_nonneg _) (by omega)
      have HFST := Lib.hid hfst
      have HALL := Lib.hid hall
      clear hr hz hls hfst hall hsm
      generalize numF t 24 = N at *
      generalize hM : vals &&& (2 ^ n - 1) = M at *
      clear hM
      have hbn := below_new w1 (.cells #[.bool true, .int .u64 (N : Int), .slice none 0 0] 26)
      have K := Lib.hid (Blk.new w1 26 #[.bool true, .int .u64 (N : Int), .slice none 0 0])
      have HB2 : Hid (Below w.heap.size w _) := HB1.out.trans (hbn.mono HB1.out.size)
      clear hbn HB1
      have HS1 := Lib.hid (HSO.out (w1.alloc (.cells #[.bool true, .int .u64 (N : Int), .slice none 0 0] 26)))
      have hn24 : n ≤ 24 := by omega
      go_wp2_with fail
      generalize w1.alloc (.cells #[.bool true, .int .u64 (N : Int), .slice none 0 0] 26) = W1 at *
      refine HS1.out.mono ?_
      rintro e w2 ⟨rfl, hb2⟩
      have K2 := K.out.below hb2 K.out.lt
      have k0 := K2.cell 0
      have k1 := K2.cell 1
      have HK2 := Lib.hid K2
      have HB3 : Hid (Below w.heap.size w w2) := HB2.out.trans (hb2.mono HB2.out.size)
      have HA := allHold_any l a cap N hN64 w2 (HI.out.below HB3.out) hm
      rw [HALL.out] at HA
      have HAA := Lib.hid HA
      clear hb2 HS1 HB2 K HA K2
      go_wp2_with fail
      refine HAA.out.mono ?_
      rintro e w3 ⟨rfl, hb3⟩
      have K3 := HK2.out.below hb3 HK2.out.lt
      have j0 := K3.cell 0
      have j1 := K3.cell 1
      have j2 := K3.cell 2
      have HK3 := Lib.hid K3
      have HB4 : Hid (Below w.heap.size w w3) := HB3.out.trans (hb3.mono HB3.out.size)
      have HA2 := allHold_any l a cap M m2 w3 (HI.out.below HB4.out) hm
      have hA2 := HA2
      have hsh : IntKind.u64.wrap (2 ^ min n 64) = (2 : Int) ^ n := by rw [show min n 64 = n by omega]; exact m4
      clear hb3 HAA HB3 HK2 K3 k0 k1 HA2
      cases hAM : allK M l with
      | false =>
        rw [hAM] at hA2
        have HA3 := Lib.hid hA2
        clear hA2 hAM
        go_wp2_with fail
        refine HA3.out.mono ?_
        rintro e w4 ⟨rfl, hb4⟩
        have HB5 : Hid (Below w.heap.size w w4) := HB4.out.trans (hb4.mono HB4.out.size)
        clear hb4 HA3
        go_wp2
        go_ret
        exact ⟨by first | rfl | simp, HB5.out⟩
      | true =>
        rw [hAM] at hA2
        have HA3 := Lib.hid hA2
        have HNO : Hid (∀ i, i < n → (∀ j, j < i → M.testBit j = N.testBit j) → M.testBit i = true → N.testBit i = false → False) := HFST.out M hAM
        clear hA2 hAM HFST
        go_wp2_with fail
        refine HA3.out.mono ?_
        rintro e w4 ⟨rfl, hb4⟩
        have K4 := HK3.out.below hb4 HK3.out.lt
        have i0 := K4.cell 0
        have i1 := K4.cell 1
        have HB5 : Hid (Below w.heap.size w w4) := HB4.out.trans (hb4.mono HB4.out.size)
        have HAH := Lib.hid (ahead_any n M N hn24 m2 hN64 w4)
        clear hb4 HA3 K4 HK3 HB4 j0 j1 j2
        go_wp2_with fail
        refine HAH.out.mono ?_
        rintro e w5 ⟨⟨B, rfl, hB⟩, hb5⟩
        obtain rfl : B = false := by
          cases B with
          | false => rfl
          | true => obtain ⟨i, h1, h2, h3, h4⟩ := hB rfl; exact (HNO.out i h1 h2 h3 h4).elim
        have HB6 : Hid (Below w.heap.size w w5) := HB5.out.trans (hb5.mono HB5.out.size)
        clear hb5 hB HAH HNO
        go_wp2
        go_ret
        exact ⟨by first | rfl | simp, HB6.out⟩
    · obtain ⟨hv0, hv1, hl200, hls, -, -⟩ := check_fine hz
      obtain ⟨n, rfl⟩ : ∃ n : Nat, v = (n : Int) := ⟨v.toNat, by omega⟩
      have hnone := (solve_first (v := n) (by omega) hls hr).1 p rfl
      obtain ⟨m1, m2, m3, m4⟩ := mask_val vals n (by omega) hvl
      have hAM := hnone (vals &&& (2 ^ n - 1))
      clear hr hz hls hnone
      generalize hM : vals &&& (2 ^ n - 1) = M at *
      clear hM
      generalize p.length = pl at *
      have hbn := below_new w1 (.cells #[.bool false, .int .u64 0, .slice pa pl pc] 26)
      have K := Lib.hid (Blk.new w1 26 #[.bool false, .int .u64 0, .slice pa pl pc])
      have HB2 : Hid (Below w.heap.size w _) := HB1.out.trans (hbn.mono HB1.out.size)
      clear hbn HB1
      have HS1 := Lib.hid (HSO.out (w1.alloc (.cells #[.bool false, .int .u64 0, .slice pa pl pc] 26)))
      have hn24 : n ≤ 24 := by omega
      have hsh : IntKind.u64.wrap (2 ^ min n 64) = (2 : Int) ^ n := by rw [show min n 64 = n by omega]; exact m4
      go_wp2_with fail
      generalize w1.alloc (.cells #[.bool false, .int .u64 0, .slice pa pl pc] 26) = W1 at *
      refine HS1.out.mono ?_
      rintro e w2 ⟨rfl, hb2⟩
      have K2 := K.out.below hb2 K.out.lt
      have k0 := K2.cell 0
      have HB3 : Hid (Below w.heap.size w w2) := HB2.out.trans (hb2.mono HB2.out.size)
      have HA := allHold_any l a cap M m2 w2 (HI.out.below HB3.out) hm
      rw [hAM] at HA
      have HAA := Lib.hid HA
      clear hb2 HS1 HB2 K HA K2 hAM
      go_wp2_with fail
      refine HAA.out.mono ?_
      rintro e w3 ⟨rfl, hb3⟩
      have HB4 : Hid (Below w.heap.size w w3) := HB3.out.trans (hb3.mono HB3.out.size)
      clear hb3 HAA HB3
      go_wp2
      go_ret
      exact ⟨by first | rfl | simp, HB4.out⟩
end Go.Proofs.Ytapdeangogjbeaa
