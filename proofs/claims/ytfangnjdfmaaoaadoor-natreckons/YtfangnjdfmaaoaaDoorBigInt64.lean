/- The reference's numbers: Uint64, Int64, Sign. -/
import Derived.Test.YtfangnjdfmaaoaaDoorBigLen
import Derived.Laws.Bits64b
namespace Go.Proofs.YtfangnjdfmaaoaaDoor
open Go.RowKit Num Go.Sort Go.PlainAid

theorem or_words (x y : Nat) (hx : x < 4294967296) (hy : y < 4294967296) : bits BinOp.or IntKind.u64 (x : Int) ((y : Int) * 4294967296) = ((x + y * 4294967296 : Nat) : Int) := by
  have h := bits_or_u64_nat x (y * 4294967296) (by omega) (by omega)
  rw [show ((y : Int) * 4294967296) = ((y * 4294967296 : Nat) : Int) by omega, h, Nat.or_comm]
  have h2 := Nat.two_pow_add_eq_or_of_lt (i := 32) (b := x) (by omega) y
  rw [show y * 4294967296 = 2 ^ 32 * y by omega, ← h2]
  omega

theorem two (l : List Nat) (h : l.length ≤ 2) : l = [] ∨ (∃ x, l = [x]) ∨ ∃ x y, l = [x, y] := by
  match l, h with
  | [], _ => exact Or.inl rfl
  | [x], _ => exact Or.inr (Or.inl ⟨x, rfl⟩)
  | [x, y], _ => exact Or.inr (Or.inr ⟨x, y, rfl⟩)

set_option maxRecDepth 100000 in
set_option maxHeartbeats 1000000 in
theorem uint64_any (b n : Nat) (w : World) (h : IntIs w b n) (hn : n < 18446744073709551616) :
    Calls Tryd.prog 41 #[.pointer (some ⟨b, 0, none⟩)] w fun e w' => e = .returned (.int .u64 (n : Int)) ∧ w = w' := by
  obtain ⟨hb, h0, v, h1, ds, hd, hnm, hv⟩ := h
  obtain ⟨a, cap, rfl, hc, hcell⟩ := id hd
  have hl : ds.length ≤ 2 := norm_len (by omega) hnm (by rw [hv]; omega)
  have hs := hnm.small
  rcases two ds hl with rfl | ⟨x, rfl⟩ | ⟨x, y, rfl⟩
  · have : n = 0 := by rw [← hv]; rfl
    subst this
    simp only [List.length_nil] at h1
    clear hd hnm hv hc hcell hs hl
    go_enter Tryd.func41, Tryd.ntmps41
    go_wp2
    go_ret
    exact ⟨rfl, rfl⟩
  · have hx : n = x := by rw [← hv]; simp [val, S, dig]
    subst hx
    obtain ⟨b', off, ha, hb', hcl⟩ := hcell 0 (by simp)
    subst ha
    have hx0 := hs 0
    simp only [List.length_singleton] at h1
    simp only [dig, List.getD_cons_zero, Nat.add_zero] at hcl hx0
    clear hd hnm hv hc hcell hs hl
    go_enter Tryd.func41, Tryd.ntmps41
    go_wp2
    go_ret
    exact ⟨rfl, rfl⟩
  · have hx : n = x + y * 4294967296 := by rw [← hv]; simp [val, S, dig]
    obtain ⟨b', off, ha, hb', hcl⟩ := hcell 0 (by simp)
    subst ha
    obtain ⟨b2, off2, ha2, hb2, hcl2⟩ := hcell 1 (by simp)
    cases ha2
    have hx0 := hs 0
    have hy0 := hs 1
    simp only [dig, List.getD_cons_zero, Nat.add_zero] at hcl hx0
    simp only [dig, List.getD_cons_succ, List.getD_cons_zero] at hcl2 hy0
    simp only [List.length_cons, List.length_nil] at h1
    have e0 : bits BinOp.or IntKind.u64 (x : Int) ((y : Int) * 4294967296) = (n : Int) := by rw [or_words x y hx0 hy0, hx]
    clear hd hnm hv hc hcell hs hx hl
    go_enter Tryd.func41, Tryd.ntmps41
    go_wp2
    go_ret
    exact ⟨rfl, rfl⟩

set_option maxRecDepth 100000 in
set_option maxHeartbeats 1000000 in
theorem int64_any (b n : Nat) (w : World) (h : IntIs w b n) (hn : n < 9223372036854775808) :
    Calls Tryd.prog 13 #[.pointer (some ⟨b, 0, none⟩)] w fun e w' => e = .returned (.int .i64 (n : Int)) ∧ w = w' := by
  have H := uint64_any b n w h (by omega)
  obtain ⟨hb, h0, -⟩ := h
  go_enter Tryd.func13, Tryd.ntmps13
  go_wp2_with fail
  refine H.mono ?_
  rintro e w1 ⟨rfl, rfl⟩
  clear H
  go_wp2
  go_ret
  exact ⟨rfl, rfl⟩

set_option maxRecDepth 100000 in
set_option maxHeartbeats 1000000 in
theorem sign_any (b n : Nat) (w : World) (h : IntIs w b n) (hn : n < 4294967296 ^ 1000) :
    Calls Tryd.prog 15 #[.pointer (some ⟨b, 0, none⟩)] w fun e w' => e = .returned (.int .i64 (if n = 0 then 0 else 1)) ∧ w = w' := by
  obtain ⟨hb, h0, v, h1, hv⟩ := h
  obtain ⟨ds, hd, hnm, hvl, hl⟩ := hv.len hn
  obtain ⟨a, cap, rfl, hc, -⟩ := id hd
  have hz := val_zero (B := 4294967296) (by omega) hnm
  rw [hvl] at hz
  by_cases hn0 : n = 0
  · have hl0 := hz.1 hn0
    rw [if_pos hn0]
    rw [hl0] at h1
    clear hz hd hv hc hvl
    go_enter Tryd.func15, Tryd.ntmps15
    go_wp2
    go_ret
    exact ⟨rfl, rfl⟩
  · have hl0 : ds.length ≠ 0 := fun e => hn0 (hz.2 e)
    have hq : ((ds.length : Int) == 0) = false := by rw [beq_eq_false_iff_ne]; omega
    rw [if_neg hn0]
    clear hz hd hv hvl
    go_enter Tryd.func15, Tryd.ntmps15
    go_wp2
    go_ret
    exact ⟨rfl, rfl⟩
end Go.Proofs.YtfangnjdfmaaoaaDoor
