/- Has, Get, Len. -/
import Derived.Test.YtiimdhmbbmkbfaaGreatDoorArTop
namespace Go.Proofs.YtiimdhmbbmkbfaaGreatDoor
open Go.RowKit Go.Maps

def hasB (ns : List Nd) (h : Int) : Bool := decide (h = 0) || decide (h = 1) || decide (topOf ns h < 24)

section
variable {B b bm : Nat} {w : World} {v : Value} {ns : List Nd} {L : List (Nd × Int)} {room next : Int}

set_option maxRecDepth 100000 in
set_option maxHeartbeats 1000000 in
theorem has_any (hA : ArenaAt B w b bm v ns L room next) (h : Int) (hi : I64 h) (hl : ns.length ≤ 1000000) :
    Calls Tryz.prog 60 #[.pointer (some ⟨b, 0, none⟩), .int .i64 h] w fun e w' => e = .returned (.bool (hasB ns h)) ∧ w = w' := by
  have HT := Lib.hid (top_any hA h hi hl)
  clear hA hl
  unfold hasB
  generalize topOf ns h = t at *
  by_cases h0 : h = 0
  · subst h0
    go_enter Tryz.func60, Tryz.ntmps60
    go_wp2
    go_ret
    exact ⟨rfl, rfl⟩
  · by_cases h1 : h = 1
    · subst h1
      go_enter Tryz.func60, Tryz.ntmps60
      go_wp2
      go_ret
      exact ⟨rfl, rfl⟩
    · have e0 : (h == 0) = false := by rw [beq_eq_false_iff_ne]; exact h0
      have e1 : (h == 1) = false := by rw [beq_eq_false_iff_ne]; exact h1
      have d0 : decide (h = 0) = false := decide_eq_false h0
      have d1 : decide (h = 1) = false := decide_eq_false h1
      rw [d0, d1, Bool.false_or, Bool.false_or]
      clear h0 h1 d0 d1
      go_enter Tryz.func60, Tryz.ntmps60
      go_wp2_with fail
      refine HT.out.mono ?_
      rintro e w1 ⟨rfl, rfl⟩
      go_wp2
      go_ret
      exact ⟨rfl, rfl⟩

/-- A handle's node, and whether it has one. -/
def getOf (ns : List Nd) (h : Int) : Nd := if topOf ns h = 24 then ⟨0, 0, 0⟩ else nd ns (h - 2).toNat

theorem cell3 (w : World) (A B C : Value) (t : TypeId) : (w.alloc (.cells #[A, B, C] t)).cell? ⟨w.heap.size, 0, none⟩ = some A ∧ (w.alloc (.cells #[A, B, C] t)).cell? ⟨w.heap.size, 1, none⟩ = some B ∧ (w.alloc (.cells #[A, B, C] t)).cell? ⟨w.heap.size, 2, none⟩ = some C ∧ (∀ i, (w.alloc (.cells #[A, B, C] t)).frozen? ⟨w.heap.size, i, none⟩ = false) := ⟨by simp, by simp, by simp, fun i => by simp⟩

theorem below_new (w : World) (o : Obj) : Below w.heap.size w (w.alloc o) := (Below.refl _ _).alloc (Nat.le_refl _) _

set_option maxRecDepth 100000 in
set_option maxHeartbeats 2000000 in
theorem get_any (hA : ArenaAt B w b bm v ns L room next) (h : Int) (hi : I64 h) (hl : ns.length ≤ 1000000) :
    Calls Tryz.prog 46 #[.pointer (some ⟨b, 0, none⟩), .int .i64 h] w fun e w' => e = .returned (.tuple #[(getOf ns h).val, .bool (decide (topOf ns h ≠ 24))]) ∧ Below w.heap.size w w' := by
  have hA1 := hA.kept (Kept.alloc (fun _ => False) w (.cells #[.int .i64 0, .int .i64 0, .int .i64 0] 99)) (fun _ _ h => h)
  have HT := Lib.hid (top_any hA1 h hi hl)
  have hlt := hA.lt
  clear hA
  obtain ⟨hi0, hi1⟩ := hi
  obtain ⟨c0, c1, c2, fz⟩ := cell3 w (.int .i64 0) (.int .i64 0) (.int .i64 0) 99
  have f0 := fz 0
  have f1 := fz 1
  have f2 := fz 2
  have hbn := below_new w (.cells #[.int .i64 0, .int .i64 0, .int .i64 0] 99)
  clear fz
  unfold getOf
  by_cases ht : topOf ns h = 24
  · rw [if_pos ht, decide_eq_false (by simp [ht])]
    rw [ht] at HT
    clear ht hA1
    go_enter Tryz.func46, Tryz.ntmps46
    go_wp2_with fail
    refine HT.out.mono ?_
    rintro e w1 ⟨rfl, rfl⟩
    clear HT
    go_wp2
    refine bodyPost_ret (v := .tuple #[.agg #[.int .i64 0, .int .i64 0, .int .i64 0], .bool false]) (by simp [results, Tryz.results46, go_sem]) rfl ?_
    refine ⟨rfl, ?_⟩
    exact below_new w _
  · rw [if_neg ht, decide_eq_true (by simp [ht])]
    have hc : 2 ≤ h ∧ h < 2 + (ns.length : Int) := by
      unfold topOf at ht
      by_cases hc : 2 ≤ h ∧ h < 2 + (ns.length : Int)
      · exact hc
      · rw [if_neg hc] at ht; exact absurd rfl ht
    obtain ⟨h2, h3⟩ := hc
    obtain ⟨i, e2⟩ : ∃ i : Nat, h - 2 = (i : Int) := ⟨(h - 2).toNat, by omega⟩
    have e1 : (h - 2).toNat = i := by omega
    obtain ⟨a, cap, rfl, hg⟩ := hA1.form
    obtain ⟨g, rfl, hBg, hgl⟩ := hg (by omega)
    have hil : i < ns.length := by omega
    have ca := hA1.row.cellAt (i * 3) (by omega)
    have cb := hA1.row.cellAt (i * 3 + 1) (by omega)
    have cc := hA1.row.cellAt (i * 3 + 2) (by omega)
    have cn := hA1.cnodes
    obtain ⟨n1, n2, n3⟩ := ncells_at ns i hil
    rw [n1] at ca
    rw [n2] at cb
    rw [n3] at cc
    rw [e1]
    have et : (topOf ns h == 24) = false := by rw [beq_eq_false_iff_ne]; exact ht
    generalize topOf ns h = tt at *
    generalize nd ns i = n at *
    clear n1 n2 n3 hA1 e1 ht
    go_enter Tryz.func46, Tryz.ntmps46
    go_wp2_with fail
    refine HT.out.mono ?_
    rintro e w1 ⟨rfl, rfl⟩
    clear HT
    go_wp2
    refine bodyPost_ret (v := .tuple #[n.val, .bool true]) (by simp [results, Tryz.results46, go_sem, Nd.val]) rfl ?_
    refine ⟨rfl, ?_⟩
    exact below_new w _

set_option maxRecDepth 100000 in
set_option maxHeartbeats 1000000 in
theorem len_any (hA : ArenaAt B w b bm v ns L room next) :
    Calls Tryz.prog 105 #[.pointer (some ⟨b, 0, none⟩)] w fun e w' => e = .returned (.int .i64 (L.length : Int)) ∧ w = w' := by
  obtain ⟨D, hD, hR⟩ := hA.hmap
  have cm := hA.cmap
  have hs : (Maps.size D : Int) = (L.length : Int) := by rw [hR.size]
  clear hA hR
  go_enter Tryz.func105, Tryz.ntmps105
  go_wp2_with (at_len; refine wpList_len_own _ rfl _ 113 rfl 99 3 Tryz.underlying113 _ bm _ D rfl hD ?_)
  go_ret
  exact ⟨by rw [← hs]; rfl, rfl⟩
end
end Go.Proofs.YtiimdhmbbmkbfaaGreatDoor
