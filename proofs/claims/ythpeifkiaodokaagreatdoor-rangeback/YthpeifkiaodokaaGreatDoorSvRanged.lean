/- ranged: one range. -/
import Derived.Test.YthpeifkiaodokaaGreatDoorSvRange
import Derived.Test.YthpeifkiaodokaaGreatDoorSvHas
import Derived.Test.YthpeifkiaodokaaGreatDoorSvSame
namespace Go.Proofs.YthpeifkiaodokaaGreatDoor
open Go.RowKit Go.Shelf Sv

abbrev rngS : ByteArray := ⟨#[94, 49, 46, 50, 46, 48, 32, 33, 49, 46, 51, 46, 48]⟩
abbrev rngA : ByteArray := ⟨#[94, 49, 46, 50, 46, 48]⟩
abbrev rngB : ByteArray := ⟨#[33, 49, 46, 51, 46, 48]⟩
set_option maxRecDepth 100000 in
theorem rng_or : cutB rngS ⟨#[124, 124]⟩ rngS.size 0 = [(0, rngS)] := by kernel_rfl
set_option maxRecDepth 100000 in
theorem rng_words : cutB rngS ⟨#[32]⟩ rngS.size 0 = [(0, rngA), (7, rngB)] := by kernel_rfl
set_option maxRecDepth 100000 in
theorem rng_va : versF (trimB rngA) = .ok [1, 2, 0] := by kernel_rfl
set_option maxRecDepth 100000 in
theorem rng_vb : versF (trimB rngB) = .ok [1, 3, 0] := by kernel_rfl
set_option maxRecDepth 100000 in
theorem rng_ga : (rngA.extract 0 (rngA.size - (trimB rngA).size)).toList = [94] := by rw [ByteArray.toList_eq]; kernel_rfl
set_option maxRecDepth 100000 in
theorem rng_gb : (rngB.extract 0 (rngB.size - (trimB rngB).size)).toList = [33] := by rw [ByteArray.toList_eq]; kernel_rfl
theorem rng_wa : wordF rngA = .ok (rowF 1002000 2000000) := by
  unfold wordF
  rw [if_neg (by rw [ByteArray.toList_eq]; decide), if_neg (by rw [ByteArray.toList_eq]; decide), rng_va]
  show signF _ 1 2 0 = _
  rw [rng_ga]; rfl
theorem rng_wb : wordF rngB = .ok (nt (rowF 1003000 1003001)) := by
  unfold wordF
  rw [if_neg (by rw [ByteArray.toList_eq]; decide), if_neg (by rw [ByteArray.toList_eq]; decide), rng_vb]
  show signF _ 1 3 0 = _
  rw [rng_gb]; rfl
theorem rng_is : rangeF rngS = .ok (orr [] (nd (nd anyF (rowF 1002000 2000000)) (nt (rowF 1003000 1003001)))) := by
  unfold rangeF
  rw [rng_or, piecesF, pieceF]
  show (match (match wordsF (cutB rngS ⟨#[32]⟩ rngS.size 0) (anyF, 0) with
    | .error (k, i) => Except.error (k, 0 + i)
    | .ok (acc, n) => if n = 0 then .error (3, 0 + rngS.size) else .ok acc) with
    | .error e => Except.error e
    | .ok l => piecesF [] (orr [] l)) = _
  rw [rng_words, wordsF, if_neg (by rw [ByteArray.toList_eq]; decide), rng_wa]
  show (match (match wordsF [(7, rngB)] (nd anyF (rowF 1002000 2000000), 0 + 1) with
    | .error (k, i) => Except.error (k, 0 + i)
    | .ok (acc, n) => if n = 0 then .error (3, 0 + rngS.size) else .ok acc) with
    | .error e => Except.error e
    | .ok l => piecesF [] (orr [] l)) = _
  rw [wordsF, if_neg (by rw [ByteArray.toList_eq]; decide), rng_wb]
  rfl
theorem rng_mem (n : Nat) : mem (orr [] (nd (nd anyF (rowF 1002000 2000000)) (nt (rowF 1003000 1003001)))) n ↔ 1002000 ≤ n ∧ n < 2000000 ∧ ¬ n = 1003000 := by
  have h1 : Rg (rowF 1002000 2000000) := rg_row (by unfold ALL; omega)
  have h2 : Rg (rowF 1003000 1003001) := rg_row (by unfold ALL; omega)
  have h3 := rg_nd rg_any h1
  have h4 := rg_nd h3 (rg_nt h2)
  rw [mem_orr rg_nil h4, mem_nd h3 (rg_nt h2), mem_nd rg_any h1, mem_any, mem_row, mem_nt h2, mem_row]
  simp only [mem_nil, false_or]
  unfold ALL
  omega

set_option maxRecDepth 100000 in
set_option maxHeartbeats 1000000 in
theorem ranged_any (w : World) (hw : Lb w) : Calls Tryz.prog 28 #[] w fun e w' => e = .returned (.bool true) ∧ Below w.heap.size w w' := by
  have HR : Hid (∀ W, Below w.heap.size w W → Calls Tryz.prog 13 #[.string rngS] W (RgAtErr W (.ok (orr [] (nd (nd anyF (rowF 1002000 2000000)) (nt (rowF 1003000 1003001))))))) := fun W hb => by rw [← rng_is]; exact range_any rngS W (by decide) (hw.below hb)
  have hrg : Rg (orr [] (nd (nd anyF (rowF 1002000 2000000)) (nt (rowF 1003000 1003001)))) := rangeF_rg rng_is
  have hm := rng_mem
  generalize orr [] (nd (nd anyF (rowF 1002000 2000000)) (nt (rowF 1003000 1003001))) = L at *
  have H1 : Hid (∀ v W, SpAt W v L → Calls Tryz.prog 25 #[.agg #[v], .agg #[.int .i64 1, .int .i64 9, .int .i64 9]] W fun e w' => e = .returned (.bool true) ∧ Below W.heap.size W w') := fun v W hv => (has_any L hrg v 1 9 9 (by omega) (by omega) (by omega) W hv).mono fun e w' ⟨B, he, hB, hb⟩ => by
    have : B = true := hB.2 ((hm _).2 (by unfold numV; omega))
    rw [this] at he; exact ⟨he, hb⟩
  have H2 : Hid (∀ v W, SpAt W v L → Calls Tryz.prog 25 #[.agg #[v], .agg #[.int .i64 1, .int .i64 3, .int .i64 0]] W fun e w' => e = .returned (.bool false) ∧ Below W.heap.size W w') := fun v W hv => (has_any L hrg v 1 3 0 (by omega) (by omega) (by omega) W hv).mono fun e w' ⟨B, he, hB, hb⟩ => by
    have : B = false := by
      cases B with
      | false => rfl
      | true => exact absurd ((hm _).1 (hB.1 rfl)) (by unfold numV; omega)
    rw [this] at he; exact ⟨he, hb⟩
  have H3 : Hid (∀ v W, SpAt W v L → Calls Tryz.prog 25 #[.agg #[v], .agg #[.int .i64 2, .int .i64 0, .int .i64 0]] W fun e w' => e = .returned (.bool false) ∧ Below W.heap.size W w') := fun v W hv => (has_any L hrg v 2 0 0 (by omega) (by omega) (by omega) W hv).mono fun e w' ⟨B, he, hB, hb⟩ => by
    have : B = false := by
      cases B with
      | false => rfl
      | true => exact absurd ((hm _).1 (hB.1 rfl)) (by unfold numV; omega)
    rw [this] at he; exact ⟨he, hb⟩
  clear hm hrg hw
  go_enter Tryz.func28, Tryz.ntmps28
  go_wp2_with fail
  refine (HR.out _ (Below.refl _ _)).mono ?_
  rintro e w1 h1
  obtain ⟨v, rfl, hsp, hn, hb1⟩ := h1
  obtain ⟨a, c, rfl⟩ := hsp.form
  have HSP := Lib.hid hsp
  have HB1 := Lib.hid hb1
  clear HR hn hsp hb1
  go_wp2_with fail
  have hk0 := cell1 w1 (.slice a L.length c) 31
  have hba := (Below.refl w1.heap.size w1).alloc (Nat.le_refl _) (.cells #[.slice a L.length c] 31)
  have hs0 := World.size_alloc w1 (.cells #[.slice a L.length c] 31)
  have hsp0 := HSP.out.below hba (Nat.le_refl _)
  have HB0 : Hid (Below w.heap.size w (w1.alloc (.cells #[.slice a L.length c] 31))) := HB1.out.trans (hba.mono HB1.out.size)
  generalize w1.alloc (.cells #[.slice a L.length c] 31) = W0 at *
  refine (H1.out _ _ hsp0).mono ?_
  rintro e w2 ⟨rfl, hb2⟩
  have hk2 := (hb2.cell (p := ⟨w1.heap.size, 0, none⟩) (by show w1.heap.size < _; omega)).trans hk0
  have HS2 := Lib.hid (hsp0.below hb2 (Nat.le_refl _))
  have HB2 : Hid (Below w.heap.size w w2) := HB0.out.trans (hb2.mono HB0.out.size)
  have HL2 : Hid (w1.heap.size < w2.heap.size) := by have := hb2.size; show _ < _; omega
  clear hk0 hba hs0 hsp0 HB0 hb2 H1
  go_wp2_with fail
  refine (H2.out _ _ HS2.out).mono ?_
  rintro e w3 ⟨rfl, hb3⟩
  have hk3 := (hb3.cell (p := ⟨w1.heap.size, 0, none⟩) HL2.out).trans hk2
  have HS3 := Lib.hid (HS2.out.below hb3 (Nat.le_refl _))
  have HB3 : Hid (Below w.heap.size w w3) := HB2.out.trans (hb3.mono HB2.out.size)
  clear hk2 hb3 H2
  go_wp2_with fail
  refine (H3.out _ _ HS3.out).mono ?_
  rintro e w4 ⟨rfl, hb4⟩
  have HB4 : Hid (Below w.heap.size w w4) := HB3.out.trans (hb4.mono HB3.out.size)
  clear hk3 hb4 H3
  go_wp2
  go_ret
  exact ⟨rfl, HB4.out⟩
end Go.Proofs.YthpeifkiaodokaaGreatDoor
