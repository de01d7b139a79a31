/- The reference's arena as it lies in memory; within, Has, Top. -/
import Derived.Test.YtllobejhkajobaaDoorBare
namespace Go.Proofs.YtllobejhkajobaaDoor
open Go.RowKit Go.Maps

/-- The reference's pairs are the nodes that are there, with their handles. -/
structure RBook (ns : List Nd) (L : List (Int × Nd)) : Prop where
  mem : ∀ x n, (x, n) ∈ L ↔ ∃ i : Nat, i < ns.length ∧ (nd ns i).v < 24 ∧ x = 2 + (i : Int) ∧ n = nd ns i

structure RefAt (B : Nat) (w : World) (rb rm : Nat) (ns : List Nd) (L : List (Int × Nd)) (room : Int) : Prop where
  lt : rb < w.heap.size
  croom : w.cell? ⟨rb, 0, none⟩ = some (.int .i64 room)
  cmap : w.cell? ⟨rb, 1, none⟩ = some (.map (some rm))
  froz : ∀ i, w.frozen? ⟨rb, i, none⟩ = false
  hmap : ∃ D, w.ownsMap Tryd.prog 3 ndElem rm L.length D ∧ BRep D L
  book : RBook ns L
  d : rm ≠ rb
  B1 : B ≤ rb
  B2 : B ≤ rm

theorem RefAt.kept {B : Nat} {w w' : World} {rb rm : Nat} {ns : List Nd} {L : List (Int × Nd)} {room : Int} {S : Nat → Prop} (h : RefAt B w rb rm ns L room) (hk : Kept S w w') (h1 : ¬ S rb) (h2 : ¬ S rm) : RefAt B w' rb rm ns L room := by
  obtain ⟨D, hD, hR⟩ := h.hmap
  exact ⟨Nat.lt_of_lt_of_le h.lt hk.size, (hk.cell (a := ⟨rb, 0, none⟩) h.lt h1).trans h.croom, (hk.cell (a := ⟨rb, 1, none⟩) h.lt h1).trans h.cmap, fun i => (hk.frozen (a := ⟨rb, i, none⟩) h.lt h1).trans (h.froz i), ⟨D, ownsMap_kept hD hk h2, hR⟩, h.book, h.d, h.B1, h.B2⟩

theorem RefAt.new {B : Nat} {w w' : World} {rb rm : Nat} {ns : List Nd} {L : List (Int × Nd)} {room : Int} (h : RefAt B w rb rm ns L room) (hb : Below w.heap.size w w') : RefAt B w' rb rm ns L room :=
  h.kept (Kept.of_below hb (fun _ => False)) (fun h => h) (fun h => h)

/-- What the reference's map says of a handle. -/
theorem look_ref {B : Nat} {w : World} {rb rm : Nat} {ns : List Nd} {L : List (Int × Nd)} {room : Int} (h : RefAt B w rb rm ns L room) (hr : Ranked ns) (x : Int) (hx : I64 x) :
    (Instr.lookup 31 (.map (some rm)) (.int .i64 x) true).run Tryd.prog w = .ok (.tuple #[.agg #[.int .i64 (getOf ns x).v, .int .i64 (getOf ns x).l, .int .i64 (getOf ns x).h], .bool (decide (topOf ns x ≠ 24))]) w := by
  obtain ⟨D, hD, hR⟩ := h.hmap
  by_cases ht : topOf ns x = 24
  · have hn : x ∉ L.map Prod.fst := by
      intro hm
      obtain ⟨p, hp, hpx⟩ := List.mem_map.1 hm
      obtain ⟨i, hi, hv, e1, e2⟩ := (h.book.mem p.1 p.2).1 hp
      rw [hpx] at e1
      rw [e1, topOf_at hi] at ht
      omega
    rw [back_none hD hR hx hn, decide_eq_false (by simp [ht])]
    unfold getOf
    rw [if_pos ht]
  · obtain ⟨b1, b2, b3⟩ := topOf_node ht
    have hv : (nd ns (x - 2).toNat).v < 24 := by have := (topOf_le hr x).2; omega
    have hin : (x, nd ns (x - 2).toNat) ∈ L := (h.book.mem _ _).2 ⟨(x - 2).toNat, b2, hv, by omega, rfl⟩
    rw [(back_found hD hR hin).1, decide_eq_true ht]
    unfold getOf
    rw [if_neg ht]

set_option maxRecDepth 100000 in
set_option maxHeartbeats 1000000 in
theorem within_any (x a b : Int) (w : World) : Calls Tryd.prog 22 #[.int .i64 x, .int .i64 a, .int .i64 b] w fun e w' => e = .returned (.bool (decide (a ≤ x) && decide (x ≤ b))) ∧ w = w' := by
  by_cases h1 : a ≤ x
  · have d1 : decide (a ≤ x) = true := decide_eq_true h1
    rw [d1]
    go_enter Tryd.func22, Tryd.ntmps22
    go_wp2
    go_ret
    exact ⟨rfl, rfl⟩
  · have d1 : decide (a ≤ x) = false := decide_eq_false h1
    rw [d1]
    go_enter Tryd.func22, Tryd.ntmps22
    go_wp2
    go_ret
    exact ⟨rfl, rfl⟩

section
variable {B : Nat} {w : World} {rb rm : Nat} {ns : List Nd} {L : List (Int × Nd)} {room : Int}

set_option maxRecDepth 100000 in
set_option maxHeartbeats 1000000 in
theorem rtop_any (h : RefAt B w rb rm ns L room) (hr : Ranked ns) (x : Int) (hx : I64 x) :
    Calls Tryd.prog 15 #[.pointer (some ⟨rb, 0, none⟩), .int .i64 x] w fun e w' => e = .returned (.int .i64 (topOf ns x)) ∧ Below w.heap.size w w' := by
  have hlk := look_ref h hr x hx
  have cm := h.cmap
  have hgv : topOf ns x ≠ 24 → (getOf ns x).v = topOf ns x := fun ht => by
    obtain ⟨-, -, b3⟩ := topOf_node ht
    unfold getOf; rw [if_neg ht, b3]
  have hbn := below_new w (.cells #[.int .i64 (getOf ns x).v, .int .i64 (getOf ns x).l, .int .i64 (getOf ns x).h] 42)
  by_cases ht : topOf ns x = 24
  · rw [decide_eq_false (by simp [ht])] at hlk
    rw [ht]
    clear hgv ht h hr hx
    generalize getOf ns x = n at *
    go_enter Tryd.func15, Tryd.ntmps15
    go_wp2
    go_ret
    exact ⟨rfl, hbn⟩
  · rw [decide_eq_true ht] at hlk
    have e := hgv ht
    rw [← e]
    clear hgv e ht h hr hx
    generalize getOf ns x = n at *
    go_enter Tryd.func15, Tryd.ntmps15
    go_wp2
    go_ret
    exact ⟨rfl, hbn⟩

set_option maxRecDepth 100000 in
set_option maxHeartbeats 1000000 in
theorem rhas_any (h : RefAt B w rb rm ns L room) (hr : Ranked ns) (x : Int) (hx : I64 x) :
    Calls Tryd.prog 17 #[.pointer (some ⟨rb, 0, none⟩), .int .i64 x] w fun e w' => e = .returned (.bool (hasB ns x)) ∧ Below w.heap.size w w' := by
  have hlk := look_ref h hr x hx
  have cm := h.cmap
  have hle := (topOf_le hr x).2
  have hbn := below_new w (.cells #[.int .i64 (getOf ns x).v, .int .i64 (getOf ns x).l, .int .i64 (getOf ns x).h] 42)
  unfold hasB
  by_cases ht : topOf ns x = 24
  · rw [decide_eq_false (by simp [ht])] at hlk
    rw [decide_eq_false (show ¬ topOf ns x < 24 by omega), Bool.or_false]
    clear ht h hr hle
    generalize getOf ns x = n at *
    by_cases h0 : x = 0
    · subst h0
      go_enter Tryd.func17, Tryd.ntmps17
      go_wp2
      go_ret
      exact ⟨rfl, hbn⟩
    · have e0 : (x == 0) = false := by rw [beq_eq_false_iff_ne]; exact h0
      rw [decide_eq_false h0, Bool.false_or]
      by_cases h1 : x = 1
      · subst h1
        go_enter Tryd.func17, Tryd.ntmps17
        go_wp2
        go_ret
        exact ⟨rfl, hbn⟩
      · have e1 : (x == 1) = false := by rw [beq_eq_false_iff_ne]; exact h1
        rw [decide_eq_false h1]
        go_enter Tryd.func17, Tryd.ntmps17
        go_wp2
        go_ret
        exact ⟨rfl, hbn⟩
  · rw [decide_eq_true ht] at hlk
    rw [decide_eq_true (show topOf ns x < 24 by omega), Bool.or_true]
    clear ht h hr hle
    generalize getOf ns x = n at *
    go_enter Tryd.func17, Tryd.ntmps17
    go_wp2
    go_ret
    exact ⟨rfl, hbn⟩
end
end Go.Proofs.YtllobejhkajobaaDoor
