/- What is told, in a map by literals. -/
import Derived.Test.YtcmmoinkhodjfabDoorPfRep
namespace Go.Proofs.YtcmmoinkhodjfabDoor
open Go.RowKit Go.Maps

theorem lawI : Keyed Tryd.prog 3 := int_keyed Tryd.underlying3
theorem keyI {x : Int} (h : I64 x) : keyOf Tryd.prog 3 (.int .i64 x) = some (.int .i64 x) := keyOf_int_mk Tryd.underlying3 (wf_of h)
theorem zeroI8 (w : World) : (zeroValue 70).run Tryd.prog w = .ok (.int .i8 0) w := by kernel_rfl
theorem elI8 {x : Int} (h : x = 1 ∨ x = -1) : plainElem (H := Unit) Tryd.prog 70 (.int .i8 x) = some (.lit (.int .i8 x), []) := plainElem_int Tryd.underlying70 (by rcases h with rfl | rfl <;> decide)

/-- By each literal that is told 1, by its other side -1. -/
def pairs (t : List Int) : List (Int × Int) := t.flatMap fun x => [(x, 1), (-x, -1)]
theorem pairs_snoc (t : List Int) (x : Int) : pairs (t ++ [x]) = pairs t ++ [(x, 1)] ++ [(-x, -1)] := by simp [pairs]
theorem pairs_len (t : List Int) : (pairs t).length = 2 * t.length := by
  induction t with
  | nil => rfl
  | cons x t ih =>
    have : pairs (x :: t) = (x, 1) :: (-x, -1) :: pairs t := rfl
    rw [this, List.length_cons, List.length_cons, ih, List.length_cons]
    omega
theorem mem_pairs {t : List Int} {p : Int × Int} : p ∈ pairs t ↔ ∃ x ∈ t, p = (x, 1) ∨ p = (-x, -1) := by
  unfold pairs
  rw [List.mem_flatMap]
  constructor
  · rintro ⟨x, hx, h⟩
    simp only [List.mem_cons, List.not_mem_nil, or_false] at h
    exact ⟨x, hx, h⟩
  · rintro ⟨x, hx, h⟩
    exact ⟨x, hx, by simp only [List.mem_cons, List.not_mem_nil, or_false]; exact h⟩
theorem key_pairs {t : List Int} {x : Int} : x ∈ (pairs t).map Prod.fst ↔ x ∈ t ∨ -x ∈ t := by
  rw [List.mem_map]
  constructor
  · rintro ⟨p, hp, rfl⟩
    obtain ⟨y, hy, rfl | rfl⟩ := mem_pairs.1 hp
    · exact Or.inl hy
    · exact Or.inr (by show - -y ∈ t; rw [Int.neg_neg]; exact hy)
  · rintro (h | h)
    · exact ⟨(x, 1), mem_pairs.2 ⟨x, h, Or.inl rfl⟩, rfl⟩
    · exact ⟨(x, -1), mem_pairs.2 ⟨-x, h, Or.inr (by rw [Int.neg_neg])⟩, rfl⟩

def VRep (D : DataW Unit) (L : List (Int × Int)) : Prop := Rep I64 (fun x => Lit.int .i64 x) (fun y : Int => .lit (.int .i8 y)) D L
def ToldAt (w : World) (bm : Nat) (t : List Int) : Prop := ∃ D, w.ownsMap Tryd.prog 3 (plainElem Tryd.prog 70) bm (pairs t).length D ∧ VRep D (pairs t)
theorem ToldAt.lt {w : World} {bm : Nat} {t : List Int} (h : ToldAt w bm t) : bm < w.heap.size := by obtain ⟨D, hD, _⟩ := h; exact hD.lt
theorem ToldAt.below {w w' : World} {bm : Nat} {t : List Int} (h : ToldAt w bm t) (hb : Below w.heap.size w w') : ToldAt w' bm t := by
  obtain ⟨D, hD, hR⟩ := h; exact ⟨D, ownsMap_below hD hb, hR⟩
theorem ToldAt.made (w : World) : ToldAt (w.alloc (.map #[] 0)) w.heap.size [] := ⟨.map [], World.ownsMap_made w _ _ _, Rep.empty⟩

theorem ToldAt.look {w : World} {bm : Nat} {t : List Int} (h : ToldAt w bm t) {x : Int} (hx : I64 x) :
    (Instr.lookup 119 (.map (some bm)) (.int .i64 x) false).run Tryd.prog w = .ok (.int .i8 (sideF t x)) w := by
  obtain ⟨D, hD, hR⟩ := h
  obtain ⟨c, hrun, hat, -⟩ := hD.lookup_int lawI Tryd.underlying119 Tryd.underlying70 (zeroI8 w) (keyI hx)
  have e : c = sideF t x := by
    unfold sideF
    by_cases h1 : x ∈ t
    · rw [if_pos h1]
      have := Rep.at' hR (x, 1) (mem_pairs.2 ⟨x, h1, Or.inl rfl⟩) (.lit (.int .i8 0))
      rw [hat] at this
      simpa using this
    · rw [if_neg h1]
      by_cases h2 : -x ∈ t
      · rw [if_pos h2]
        have := Rep.at' hR (x, -1) (mem_pairs.2 ⟨-x, h2, Or.inr (by rw [Int.neg_neg])⟩) (.lit (.int .i8 0))
        rw [hat] at this
        simpa using this
      · rw [if_neg h2]
        have := atKey_of_not_has (z := (.lit (.int .i8 0) : DataW Unit)) (Rep.not hR hx (by rw [key_pairs]; rintro (h | h); exact h1 h; exact h2 h))
        rw [hat] at this
        simpa using this
  rw [e] at hrun
  exact hrun
theorem ToldAt.len {w : World} {bm : Nat} {t : List Int} (h : ToldAt w bm t) (ty : TypeId) : (Builtin.len_ #[119] ty #[.map (some bm)]).run Tryd.prog w = .ok (.int .i64 (2 * t.length : Nat)) w := by
  obtain ⟨D, hD, hR⟩ := h
  have := hD.len Tryd.underlying119 ty
  rw [hR.size, pairs_len] at this
  exact this

/-- Both are written. -/
theorem ToldAt.tell {w : World} {bm : Nat} {t : List Int} (h : ToldAt w bm t) (hl : t.length ≤ 1000) {x : Int} (hx0 : x ≠ 0) (hx : I64 x) (hx' : I64 (-x)) (h1 : x ∉ t) (h2 : -x ∉ t) :
    ∃ w1 w2, (Instr.mapUpdate 119 (.map (some bm)) (.int .i64 x) (.int .i8 1)).run Tryd.prog w = .ok () w1 ∧ (Instr.mapUpdate 119 (.map (some bm)) (.int .i64 (-x)) (.int .i8 (-1))).run Tryd.prog w1 = .ok () w2 ∧ ToldAt w2 bm (t ++ [x]) ∧ w.grownBy w2 (some bm) := by
  obtain ⟨D, hD, hR⟩ := h
  have hpl := pairs_len t
  obtain ⟨w1, hrun1, g1, k1⟩ := hD.update lawI Tryd.underlying119 (by unfold maxLen; omega) (keyI hx) (elI8 (Or.inl rfl))
  have hR1 : VRep (D.put (.int .i64 x) (.lit (.int .i8 1))) (pairs t ++ [(x, 1)]) := Rep.put hR (fun a b _ _ e => by injection e) (fun _ => trivial) hx (by rw [key_pairs]; rintro (h | h); exact h1 h; exact h2 h) 1
  obtain ⟨w2, hrun2, g2, k2⟩ := g1.update lawI Tryd.underlying119 (by unfold maxLen; omega) (keyI hx') (elI8 (Or.inr rfl))
  have hR2 : VRep ((D.put (.int .i64 x) (.lit (.int .i8 1))).put (.int .i64 (-x)) (.lit (.int .i8 (-1)))) (pairs t ++ [(x, 1)] ++ [(-x, -1)]) := Rep.put hR1 (fun a b _ _ e => by injection e) (fun _ => trivial) hx' (by
    rw [List.map_append, List.mem_append, key_pairs]
    rintro ((h | h) | h)
    · exact h2 h
    · rw [Int.neg_neg] at h; exact h1 h
    · simp at h; omega) (-1)
  refine ⟨w1, w2, hrun1, hrun2, ⟨_, ?_, by rw [pairs_snoc]; exact hR2⟩, k1.trans k2⟩
  rw [pairs_snoc]
  exact hR2.size ▸ ownsMap_norm g2
end Go.Proofs.YtcmmoinkhodjfabDoor
