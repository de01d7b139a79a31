/- The reference's numbers: give and SetString; the reference's NatParse. -/
import Derived.Test.YtfangnjdfmaaoaaDoorBigMul
import Derived.Test.YtfangnjdfmaaoaaDoorFormed
namespace Go.Proofs.YtfangnjdfmaaoaaDoor
open Go.RowKit Num Go.Sort Go.PlainAid

/-- The reference's number at block b is n, not below 0. -/
def IntIs (w : World) (b n : Nat) : Prop := b < w.heap.size ∧ w.cell? ⟨b, 0, none⟩ = some (.bool false) ∧ ∃ v, w.cell? ⟨b, 1, none⟩ = some v ∧ BigIs w v n
theorem IntIs.below {w w' : World} {b n : Nat} (h : IntIs w b n) (hb : Below w.heap.size w w') : IntIs w' b n := by
  obtain ⟨h0, h1, v, h2, h3⟩ := h
  exact ⟨Nat.lt_of_lt_of_le h0 hb.size, (hb.cell (p := ⟨b, 0, none⟩) h0).trans h1, v, (hb.cell (p := ⟨b, 1, none⟩) h0).trans h2, h3.below hb⟩

theorem BigIs.set {w : World} {v : Value} {n : Nat} (h : BigIs w v n) {p : Addr} {u0 : Value} (hp : w.cell? p = some u0) (hu : ∀ k n, u0 ≠ .int k n) (u : Value) : BigIs (w.setCell p u) v n := by
  obtain ⟨ds, h1, h2, h3⟩ := h
  exact ⟨ds, h1.set hp (hu _) u, h2, h3⟩

set_option maxRecDepth 100000 in
set_option maxHeartbeats 1000000 in
theorem give_any (b n : Nat) (v : Value) (q : Bool) (a0 : Option Addr) (k0 c0 : Nat) (w : World) (hb : b < w.heap.size) (hv : BigIs w v n) (h0 : w.cell? ⟨b, 0, none⟩ = some (.bool q)) (h1 : w.cell? ⟨b, 1, none⟩ = some (.slice a0 k0 c0)) (f0 : w.frozen? ⟨b, 0, none⟩ = false) (f1 : w.frozen? ⟨b, 1, none⟩ = false) :
    Calls Tryd.prog 46 #[.pointer (some ⟨b, 0, none⟩), .bool false, v] w fun e w' => e = .returned (.pointer (some ⟨b, 0, none⟩)) ∧ IntIs w' b n ∧ Below b w w' := by
  obtain ⟨a, k, c, rfl⟩ := hv.form
  have hw1 : (w.setCell ⟨b, 1, none⟩ (.slice a k c)).cell? ⟨b, 0, none⟩ = some (.bool q) := by
    rw [World.cell?_setCell_other _ _ _ _ (by simp)]; exact h0
  have hI : IntIs ((w.setCell ⟨b, 1, none⟩ (.slice a k c)).setCell ⟨b, 0, none⟩ (.bool false)) b n := by
    refine ⟨by simpa [World.setCell] using hb, World.cell?_setCell_same' _ _ _ (by simp [hw1]), .slice a k c, ?_, ?_⟩
    · rw [World.cell?_setCell_other _ _ _ _ (by simp)]
      exact World.cell?_setCell_same' _ _ _ (by simp [h1])
    · exact (hv.set h1 (fun k n h => by cases h) _).set hw1 (fun k n h => by cases h) _
  have hB : Below b w ((w.setCell ⟨b, 1, none⟩ (.slice a k c)).setCell ⟨b, 0, none⟩ (.bool false)) := ((Below.refl b w).setCell (p := ⟨b, 1, none⟩) (Nat.le_refl _) _).setCell (p := ⟨b, 0, none⟩) (Nat.le_refl _) _
  go_enter Tryd.func46, Tryd.ntmps46
  go_wp2
  go_ret
  exact ⟨rfl, hI, hB⟩

theorem words_int (x : Int) (m : Nat) (w : World) (hx : x = (m : Int)) (hm : m < 18446744073709551616) :
    Calls Tryd.prog 56 #[.int .u64 x] w fun e w' => ∃ v', e = .returned v' ∧ BigIs w' v' m ∧ Below w.heap.size w w' := by
  subst hx; exact words_any m w hm

theorem ten_succ : (10 : Nat) ^ 101 = 10 ^ 100 * 10 := by decide +kernel
theorem ten_lt : (10 : Nat) ^ 101 < 4294967296 ^ 1000 := by decide +kernel

set_option maxRecDepth 100000 in
set_option maxHeartbeats 2000000 in
theorem setString_any (b : Nat) (s : ByteArray) (w : World) (hb : b < w.heap.size) (h0 : w.cell? ⟨b, 0, none⟩ = some (.bool false)) (h1 : w.cell? ⟨b, 1, none⟩ = some (.slice none 0 0)) (f0 : w.frozen? ⟨b, 0, none⟩ = false) (f1 : w.frozen? ⟨b, 1, none⟩ = false) (hok : OkText s) (hm : s.size ≤ 100) :
    Calls Tryd.prog 33 #[.pointer (some ⟨b, 0, none⟩), .string s, .int .i64 10] w fun e w' => e = .returned (.tuple #[.pointer (some ⟨b, 0, none⟩), .bool true]) ∧ IntIs w' b (pre s s.size) ∧ Below b w w' := by
  have hgb := get_bt s
  have hp := hok.pos
  obtain ⟨d0, d1⟩ := hok.digits 0 hp
  have q1 : (bt s 0 == 45) = false := by rw [beq_eq_false_iff_ne]; omega
  have q2 : (bt s 0 == 43) = false := by rw [beq_eq_false_iff_ne]; omega
  have q3 : ((s.size : Int) == 0) = false := by rw [beq_eq_false_iff_ne]; omega
  have HD : Hid (∀ k, k < s.size → 48 ≤ bt s k ∧ bt s k ≤ 57) := hok.digits
  clear hok d0 d1
  go_enter Tryd.func33, Tryd.ntmps33
  go_wp2_with fail
  clear q1 q2 q3
  go_loopw [9, 10] (fun v i wr => ∃ k : Nat, k ≤ s.size ∧ i = .int .i64 k ∧ BigIs wr v (pre s k) ∧ Below w.heap.size w wr) (fun _ i _ => s.size - (intOf i).toNat)
  case atStart => exact ⟨0, Nat.zero_le _, rfl, BigIs.nil _, Below.refl _ _⟩
  case round =>
    obtain ⟨k, hk, rfl, hv, hbw⟩ := hrel
    have hpk := pre_lt s HD.out k hk
    have hpk2 : pre s k < 10 ^ 100 := Nat.lt_of_lt_of_le hpk (Nat.pow_le_pow_right (by omega) (by omega))
    have HPK : Hid (pre s k < 10 ^ 100) := hpk2
    clear hpk hpk2
    by_cases hlt : k < s.size
    · obtain ⟨d0, d1⟩ := HD.out k hlt
      go_wp2_with fail
      refine (words_int _ 10 _ rfl (by omega)).mono ?_
      rintro e w1 ⟨v1, rfl, hv1, hb1⟩
      have hva := hv.below hb1
      have hbw1 := hbw.trans (hb1.mono hbw.size)
      clear hv hb1 hbw
      go_wp2_with fail
      refine (bmul_big hva hv1 (Nat.lt_trans HPK.out (Nat.lt_trans (Nat.pow_lt_pow_right (by omega) (by omega : 100 < 101)) ten_lt)) (Nat.lt_trans (by decide +kernel : 10 < 10 ^ 101) ten_lt)).mono ?_
      rintro e w2 ⟨v2, rfl, hv2, hb2⟩
      have hbw2 := hbw1.trans (hb2.mono hbw1.size)
      clear hva hv1 hb2 hbw1
      go_wp2_with fail
      refine (words_int _ (bt s k - 48).toNat _ (by first | omega | (simp; omega)) (by omega)).mono ?_
      rintro e w3 ⟨v3, rfl, hv3, hb3⟩
      have hva := hv2.below hb3
      have hbw3 := hbw2.trans (hb3.mono hbw2.size)
      clear hv2 hb3 hbw2
      go_wp2_with fail
      refine (badd_big hva hv3 ?g1 ?g2).mono ?_
      case g1 =>
        refine Nat.lt_trans ?_ ten_lt
        have := HPK.out
        rw [ten_succ]
        exact Nat.mul_lt_mul_of_pos_right this (by omega)
      case g2 =>
        refine Nat.lt_trans ?_ ten_lt
        exact Nat.lt_of_lt_of_le (by omega : (bt s k - 48).toNat < 10) (by decide +kernel)
      rintro e w4 ⟨v4, rfl, hv4, hb4⟩
      have hbw4 := hbw3.trans (hb4.mono hbw3.size)
      clear hva hv3 hb4 hbw3
      go_wp2
      go_roundw
      case rel => exact ⟨k + 1, by omega, by go_num, hv4, hbw4⟩
      case measure => simp [intOf]; omega
    · obtain rfl : k = s.size := by omega
      have c0 : wr.cell? ⟨b, 0, none⟩ = some (.bool false) := (hbw.cell (p := ⟨b, 0, none⟩) hb).trans h0
      have c1 : wr.cell? ⟨b, 1, none⟩ = some (.slice none 0 0) := (hbw.cell (p := ⟨b, 1, none⟩) hb).trans h1
      have g0 : wr.frozen? ⟨b, 0, none⟩ = false := (hbw.frozen (p := ⟨b, 0, none⟩) hb).trans f0
      have g1 : wr.frozen? ⟨b, 1, none⟩ = false := (hbw.frozen (p := ⟨b, 1, none⟩) hb).trans f1
      have hbs := hbw.size
      have hb' : b < wr.heap.size := by omega
      go_wp2_with fail
      refine (give_any b _ _ false none 0 0 wr hb' hv c0 c1 g0 g1).mono ?_
      rintro e w5 ⟨rfl, hI, hb5⟩
      go_wp2
      go_ret2
      exact ⟨rfl, hI, (hbw.mono (by omega)).trans hb5⟩
end Go.Proofs.YtfangnjdfmaaoaaDoor
