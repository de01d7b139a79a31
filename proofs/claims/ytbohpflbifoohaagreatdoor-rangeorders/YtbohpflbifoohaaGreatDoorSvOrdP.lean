/- RangeOrders: what its parts are, plain; four boxes. -/
import Derived.Test.YtbohpflbifoohaaGreatDoorSvOrdL
namespace Go.Proofs.YtbohpflbifoohaaGreatDoor
open Go.RowKit Go.Shelf Sv

theorem get_sign (g : List UInt8) (hg : Sign g) (hgl : g.length ≤ 2) (a b c : Nat) (ha : a ≤ 999) (hb : b ≤ 999) (hc : c ≤ 999) (l : List Span) (hl : signF g a b c = .ok l) (bt : Nat) (w : World) (hbt : bt < w.heap.size) (hw : Lb w) (ht : w.cell? ⟨bt, 0, none⟩ = some (.string ⟨(vtx a b c).toArray⟩)) :
    Calls Tryz.prog 33 #[.string ⟨g.toArray⟩, .pointer (some ⟨bt, 0, none⟩)] w fun e w' => ∃ a c, e = .returned (.agg #[.slice a l.length c]) ∧ SpAt w' (.slice a l.length c) l ∧ Below w.heap.size w w' :=
  get_list g (vtx a b c) l hgl (by
    have h1 := (ptx_ok ha).short
    have h2 := (ptx_ok hb).short
    have h3 := (ptx_ok hc).short
    simp [vtx]; omega) (range_tells hg ha hb hc hl) bt w hbt hw ht

theorem has_row (lo hi d e f : Nat) (hd : d ≤ 999) (he : e ≤ 999) (hf : f ≤ 999) (v : Value) (hh : hi ≤ ALL) (B : Bool) (hB : B = true ↔ lo ≤ numN d e f ∧ numN d e f < hi) (w : World) (hv : SpAt w v (rowF lo hi)) :
    Calls Tryz.prog 29 #[.agg #[v], .agg #[.int .i64 (d : Int), .int .i64 (e : Int), .int .i64 (f : Int)]] w fun r w' => r = .returned (.bool B) ∧ Below w.heap.size w w' :=
  (has_any _ (rg_row hh) v d e f hd he hf w hv).mono fun r w' ⟨B', hr, hB', hb⟩ => by
    have : B' = B := by
      rw [mem_row] at hB'
      have h : B' = true ↔ B = true := hB'.trans hB.symm
      cases B <;> cases B' <;> simp_all
    rw [this] at hr
    exact ⟨hr, hb⟩
theorem z_lt (M N : Nat) : decide (cmpI (M : Int) (N : Int) < 0) = true ↔ 0 ≤ M ∧ M < N := by
  rw [decide_eq_true_iff]; unfold cmpI; split <;> (try split) <;> omega
theorem z_ge {M : Nat} (h : M < ALL) (N : Nat) : decide (0 ≤ cmpI (M : Int) (N : Int)) = true ↔ N ≤ M ∧ M < ALL := by
  rw [decide_eq_true_iff]; unfold cmpI; split <;> (try split) <;> omega
theorem z_le (M N : Nat) : decide (cmpI (M : Int) (N : Int) ≤ 0) = true ↔ 0 ≤ M ∧ M < N + 1 := by
  rw [decide_eq_true_iff]; unfold cmpI; split <;> (try split) <;> omega
theorem z_gt {M : Nat} (h : M < ALL) (N : Nat) : decide (0 < cmpI (M : Int) (N : Int)) = true ↔ N + 1 ≤ M ∧ M < ALL := by
  rw [decide_eq_true_iff]; unfold cmpI; split <;> (try split) <;> omega
theorem z_eq (M N : Nat) : (cmpI (M : Int) (N : Int) == 0) = true ↔ N ≤ M ∧ M < N + 1 := by
  rw [beq_iff_eq]; unfold cmpI; split <;> (try split) <;> omega
theorem ti_le {a b : Nat} (ha : a ≤ 999) (hb : b ≤ 999) : numN a (b + 1) 0 ≤ ALL := by unfold numN ALL; omega
theorem care_gt {a b c : Nat} (hb : b ≤ 999) (hc : c ≤ 999) : numN a b c < careN a b c := by
  unfold careN numN
  split
  · omega
  · split <;> omega
theorem ti_gt {a b c : Nat} (hc : c ≤ 999) : numN a b c < numN a (b + 1) 0 := by unfold numN; omega
theorem own_row {N H : Nat} (h : N < H) : true = true ↔ N ≤ N ∧ N < H := ⟨fun _ => ⟨Nat.le_refl _, h⟩, fun _ => rfl⟩
theorem care_own {a b c d e f : Nat} (_ha : a ≤ 999) (hb : b ≤ 999) (hc : c ≤ 999) (_hd : d ≤ 999) (he : e ≤ 999) (hf : f ≤ 999) (h : numN a b c ≤ numN d e f ∧ numN d e f < careN a b c) : d = a := by
  unfold careN at h
  unfold numN at h
  split at h
  · omega
  · split at h <;> omega
theorem ti_own {a b c d e f : Nat} (hb : b ≤ 999) (hc : c ≤ 999) (he : e ≤ 999) (hf : f ≤ 999) (h : numN a b c ≤ numN d e f ∧ numN d e f < numN a (b + 1) 0) : e = b ∧ d = a := by
  unfold numN at h
  omega
theorem nt_lt {N : Nat} (h : N ≤ ALL) : nt (rowF 0 N) = rowF N ALL :=
  rg_ext (rg_nt (rg_row h)) (rg_row (Nat.le_refl _)) fun n => by rw [mem_nt (rg_row h), mem_row, mem_row]; omega
theorem nd_lt {N H : Nat} (h : Rg (rowF N H)) (hN : N ≤ ALL) : nd (rowF N H) (rowF 0 N) = [] :=
  rg_ext (rg_nd h (rg_row hN)) rg_nil fun n => by
    rw [mem_nd h (rg_row hN), mem_row, mem_row]
    simp only [mem_nil, iff_false]
    omega

/-- Four boxes that are new. -/
structure Box4 (w W : World) (A B C D : Value) : Prop where
  below : Below w.heap.size w W
  kept : ∀ {X : World}, Below W.heap.size W X → X.cell? ⟨w.heap.size, 0, none⟩ = some A ∧ X.cell? ⟨w.heap.size + 1, 0, none⟩ = some B ∧ X.cell? ⟨w.heap.size + 1 + 1, 0, none⟩ = some C ∧ X.cell? ⟨w.heap.size + 1 + 1 + 1, 0, none⟩ = some D
theorem box4 (w : World) (A B C D : Value) {t : TypeId} : Box4 w ((((w.alloc (.cells #[A] t)).alloc (.cells #[B] t)).alloc (.cells #[C] t)).alloc (.cells #[D] t)) A B C D := by
  have k0 := (((Blk.new w t #[A]).alloc (.cells #[B] t)).alloc (.cells #[C] t)).alloc (.cells #[D] t)
  have k1 := ((Blk.new (w.alloc (.cells #[A] t)) t #[B]).alloc (.cells #[C] t)).alloc (.cells #[D] t)
  have k2 := (Blk.new ((w.alloc (.cells #[A] t)).alloc (.cells #[B] t)) t #[C]).alloc (.cells #[D] t)
  have k3 := Blk.new (((w.alloc (.cells #[A] t)).alloc (.cells #[B] t)).alloc (.cells #[C] t)) t #[D]
  simp only [World.size_alloc] at k1 k2 k3
  have hb : Below w.heap.size w ((((w.alloc (.cells #[A] t)).alloc (.cells #[B] t)).alloc (.cells #[C] t)).alloc (.cells #[D] t)) := ((((Below.refl _ w).alloc (Nat.le_refl _) _).alloc (by simp only [World.size_alloc]; omega) _).alloc (by simp only [World.size_alloc]; omega) _).alloc (by simp only [World.size_alloc]; omega) _
  generalize (((w.alloc (.cells #[A] t)).alloc (.cells #[B] t)).alloc (.cells #[C] t)).alloc (.cells #[D] t) = W at *
  exact ⟨hb, fun hX => ⟨(k0.below hX k0.lt).cell 0, (k1.below hX k1.lt).cell 0, (k2.below hX k2.lt).cell 0, (k3.below hX k3.lt).cell 0⟩⟩
end Go.Proofs.YtbohpflbifoohaaGreatDoor
