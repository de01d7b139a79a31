/- What a slice of digits holds ('Dig'), and the contract of one digit's reading. -/
import Derived.Test.YtfangnjdfmaaoaaDoorRows
import Derived.Test.YtfangnjdfmaaoaaDoorNum
import Derived.WalkKit
import Derived.WalkSpells
import Derived.WalkLawsBesides
import Derived.Deep.Cut
import Derived.Deep.DeepCutAuto
import Derived.Deep.RegionWith
import Derived.Deep.LoopGhost
import Derived.Deep.DeepFit
import Derived.Deep.DeepMust
import Derived.Deep.Light
import Derived.Lib.QuietBelow
import Derived.Lib.MinMax
import Derived.BigQuiet
namespace Go.Proofs.YtfangnjdfmaaoaaDoor
open Go.RowKit Num

/-- The slice v holds the digits ds, as numbers of kind k. -/
def Dig (k : IntKind) (w : World) (v : Value) (ds : List Nat) : Prop :=
  ∃ a cap, v = .slice a ds.length cap ∧ ds.length ≤ cap ∧ ∀ i, i < ds.length → ∃ b off, a = some ⟨b, off, none⟩ ∧ b < w.heap.size ∧ w.cell? ⟨b, off + i, none⟩ = some (.int k ((dig ds i : Nat) : Int))

theorem Dig.below {k : IntKind} {w w' : World} {v : Value} {ds : List Nat} (h : Dig k w v ds) (hb : Below w.heap.size w w') : Dig k w' v ds := by
  obtain ⟨a, cap, hv, hc, hi⟩ := h
  refine ⟨a, cap, hv, hc, fun i hl => ?_⟩
  obtain ⟨b, off, ha, hlt, hcell⟩ := hi i hl
  exact ⟨b, off, ha, Nat.lt_of_lt_of_le hlt hb.size, (hb.cell (p := ⟨b, off + i, none⟩) hlt).trans hcell⟩

/-- A store into a cell that holds no digit. -/
theorem Dig.set {k : IntKind} {w : World} {v : Value} {ds : List Nat} (h : Dig k w v ds) {p : Addr} {u0 : Value} (hp : w.cell? p = some u0) (hu : ∀ n, u0 ≠ .int k n) (u : Value) : Dig k (w.setCell p u) v ds := by
  obtain ⟨a, cap, hv, hc, hi⟩ := h
  refine ⟨a, cap, hv, hc, fun i hl => ?_⟩
  obtain ⟨b, off, ha, hb, hcell⟩ := hi i hl
  refine ⟨b, off, ha, by simpa [World.setCell] using hb, ?_⟩
  rw [World.cell?_setCell_other _ _ _ _ (fun e => by subst e; rw [hp] at hcell; exact hu _ (Option.some.inj hcell))]
  exact hcell

theorem Dig.nil (k : IntKind) (w : World) : Dig k w (.slice none 0 0) [] := ⟨none, 0, rfl, Nat.le_refl _, fun i h => by simp at h⟩

/-- Digits as cells of kind k. -/
def dcells (k : IntKind) (ds : List Nat) : List Value := ds.map fun d : Nat => Value.int k (d : Int)

theorem dcells_length (k : IntKind) (ds : List Nat) : (dcells k ds).length = ds.length := by simp [dcells]
theorem dcells_snoc (k : IntKind) (ds : List Nat) (x : Nat) : dcells k (ds ++ [x]) = dcells k ds ++ [Value.int k (x : Int)] := by simp [dcells]
theorem dcells_at (k : IntKind) (ds : List Nat) (i : Nat) (h : i < ds.length) : (dcells k ds)[i]? = some (.int k ((dig ds i : Nat) : Int)) := by
  unfold dcells dig
  simp [List.getD_eq_getElem?_getD, List.getElem?_eq_getElem h]

theorem dcells_set (k : IntKind) (ds : List Nat) (j x : Nat) : (dcells k ds).set j (.int k (x : Int)) = dcells k (ds.set j x) := by simp [dcells, List.map_set]
theorem dcells_made (k : IntKind) (n : Nat) : (madeCells #[Value.int k 0] n).toList = dcells k (List.replicate n 0) := by rw [toList_madeCells_one]; simp [dcells]

theorem owns_form {w : World} {base : Nat} {e : TypeId} {v : Value} {n : Nat} {xs : List Value} (h : w.ownsRow base e 1 v n xs) : ∃ a cap, v = .slice a n cap ∧ n ≤ cap := by
  rcases h.2 with ⟨h1, h2⟩ | ⟨g, cap, cur, h1, _, _, h2, _⟩
  · exact ⟨none, 0, by rw [h1, h2], by omega⟩
  · exact ⟨_, cap, h1, h2⟩

/-- What is stored into a row of digits that the call owns. -/
theorem owns_set {k : IntKind} {w : World} {base g n cap : Nat} {e : TypeId} {ds : List Nat} (h : w.ownsRow base e 1 (.slice (some ⟨g, 0, none⟩) n cap) n (dcells k ds)) (j x : Nat) : (w.setCell ⟨g, j, none⟩ (.int k (x : Int))).ownsRow base e 1 (.slice (some ⟨g, 0, none⟩) n cap) n (dcells k (ds.set j x)) := by
  rw [← dcells_set]; exact (h.stored j _).1

theorem owns_below {w w' : World} {base : Nat} {e : TypeId} {size : Nat} {v : Value} {n : Nat} {xs : List Value} (h : w.ownsRow base e size v n xs) (hb : Below w.heap.size w w') : w'.ownsRow base e size v n xs := by
  obtain ⟨h1, h2⟩ := h
  refine ⟨h1, ?_⟩
  rcases h2 with h2 | ⟨g, cap, cur, hv, hg, hh, r⟩
  · exact Or.inl h2
  · have hlt : g < w.heap.size := by
      by_cases hlt : g < w.heap.size
      · exact hlt
      · rw [Array.getElem?_eq_none (by omega)] at hh; simp at hh
    exact Or.inr ⟨g, cap, cur, hv, hg, by rw [hb.block g hlt]; exact hh, r⟩

theorem Dig.of_owns {k : IntKind} {w : World} {base : Nat} {e : TypeId} {v : Value} {ds : List Nat} (h : w.ownsRow base e 1 v ds.length (dcells k ds)) : Dig k w v ds := by
  rcases h.2 with ⟨h1, h2⟩ | ⟨g, cap, cur, h1, hb, hg, h2, _⟩
  · obtain rfl : ds = [] := List.length_eq_zero_iff.1 h2
    rw [h1]; exact Dig.nil k w
  · subst h1
    refine ⟨_, cap, rfl, h2, fun i hi => ⟨g, 0, rfl, ?_, ?_⟩⟩
    · by_cases hlt : g < w.heap.size
      · exact hlt
      · rw [Array.getElem?_eq_none (by omega)] at hg; simp at hg
    · rw [Nat.zero_add, h.cellAt i (by omega), dcells_at k ds i hi]

theorem bcell {W w1 : World} (hb : Below W.heap.size W w1) : (∀ b o, b < W.heap.size → w1.cell? ⟨b, o, none⟩ = W.cell? ⟨b, o, none⟩) ∧ (∀ b o, b < W.heap.size → w1.frozen? ⟨b, o, none⟩ = W.frozen? ⟨b, o, none⟩) :=
  ⟨fun b o h => hb.cell (p := ⟨b, o, none⟩) h, fun b o h => hb.frozen (p := ⟨b, o, none⟩) h⟩

theorem cellOld {w : World} {b off : Nat} (o : Obj) (h : b < w.heap.size) : (w.alloc o).cell? ⟨b, off, none⟩ = w.cell? ⟨b, off, none⟩ :=
  ((Below.refl w.heap.size w).alloc (Nat.le_refl _) o).cell (p := ⟨b, off, none⟩) h
theorem frozenOld {w : World} {b off : Nat} (o : Obj) (h : b < w.heap.size) : (w.alloc o).frozen? ⟨b, off, none⟩ = w.frozen? ⟨b, off, none⟩ :=
  ((Below.refl w.heap.size w).alloc (Nat.le_refl _) o).frozen (p := ⟨b, off, none⟩) h
theorem cell1_0 (w : World) (A : Value) (t : TypeId) : (w.alloc (.cells #[A] t)).cell? ⟨w.heap.size, 0, none⟩ = some A := by simp
theorem frozen1_0 (w : World) (A : Value) (t : TypeId) : (w.alloc (.cells #[A] t)).frozen? ⟨w.heap.size, 0, none⟩ = false := by simp
theorem cell2_0 (w : World) (A : Value) (t : TypeId) (o : Obj) : ((w.alloc (.cells #[A] t)).alloc o).cell? ⟨w.heap.size, 0, none⟩ = some A := by
  rw [cellOld o (by simp), cell1_0]
theorem cell2_1 (w : World) (A : Value) (t : TypeId) (o : Obj) : ((w.alloc o).alloc (.cells #[A] t)).cell? ⟨w.heap.size + 1, 0, none⟩ = some A := by
  have := cell1_0 (w.alloc o) A t; rwa [World.size_alloc] at this
theorem frozen2_1 (w : World) (A : Value) (t : TypeId) (o : Obj) : ((w.alloc o).alloc (.cells #[A] t)).frozen? ⟨w.heap.size + 1, 0, none⟩ = false := by
  have := frozen1_0 (w.alloc o) A t; rwa [World.size_alloc] at this
theorem cell3_0 (w : World) (A : Value) (t : TypeId) (o p : Obj) : (((w.alloc (.cells #[A] t)).alloc o).alloc p).cell? ⟨w.heap.size, 0, none⟩ = some A := by
  rw [cellOld p (by simp; omega), cell2_0]
theorem cell3_1 (w : World) (A : Value) (t : TypeId) (o p : Obj) : (((w.alloc o).alloc (.cells #[A] t)).alloc p).cell? ⟨w.heap.size + 1, 0, none⟩ = some A := by
  rw [cellOld p (by simp), cell2_1]
theorem cell3_2 (w : World) (A : Value) (t : TypeId) (o p : Obj) : (((w.alloc o).alloc p).alloc (.cells #[A] t)).cell? ⟨w.heap.size + 1 + 1, 0, none⟩ = some A := by
  have := cell2_1 (w.alloc o) A t p; rwa [World.size_alloc] at this
theorem frozen3_2 (w : World) (A : Value) (t : TypeId) (o p : Obj) : (((w.alloc o).alloc p).alloc (.cells #[A] t)).frozen? ⟨w.heap.size + 1 + 1, 0, none⟩ = false := by
  have := frozen2_1 (w.alloc o) A t p; rwa [World.size_alloc] at this

theorem mixed : Tryd.prog.follows .mixedOrders = true := by kernel_rfl

theorem w64 {x : Int} (h0 : -9223372036854775808 ≤ x) (h1 : x ≤ 9223372036854775807) : IntKind.i64.wrap x = x := IntWalk.i64_in x ⟨h0, h1⟩
theorem wu64 {x : Int} (h0 : 0 ≤ x) (h1 : x ≤ 18446744073709551615) : IntKind.u64.wrap x = x := IntWalk.u64_in x ⟨h0, h1⟩

theorem ret_int {k : IntKind} {a b : Int} (h : a = b) : Ending.returned (.int k a) = .returned (.int k b) := by rw [h]

set_option maxHeartbeats 400000 in
theorem digit_any (v : Value) (ds : List Nat) (i : Nat) (w : World) (hd : Dig .u64 w v ds) (_hi : i ≤ 1000000) (_hl : ds.length ≤ 1000000) :
    Calls Tryd.prog 44 #[.agg #[v], .int .i64 (i : Int)] w fun e w' => e = .returned (.int .u64 ((dig ds i : Nat) : Int)) ∧ Below w.heap.size w w' := by
  obtain ⟨a, cap, rfl, hc, hcell⟩ := hd
  by_cases hlt : i < ds.length
  · obtain ⟨b, off, rfl, hb, hcl⟩ := hcell i hlt
    have hne : ¬ b = w.heap.size := by omega
    clear hcell
    generalize dig ds i = d at *
    go_enter Tryd.func44, Tryd.ntmps44
    go_wp2
    go_ret
    exact ⟨rfl, (Below.refl _ _).alloc (Nat.le_refl _) _⟩
  · have hz := dig_beyond ds i (by omega)
    rw [hz]
    clear hcell hz
    go_enter Tryd.func44, Tryd.ntmps44
    go_wp2
    go_ret
    exact ⟨rfl, (Below.refl _ _).alloc (Nat.le_refl _) _⟩

theorem digit_int (v : Value) (ds : List Nat) (i : Int) (w : World) (hd : Dig .u64 w v ds) (h0 : 0 ≤ i) (hi : i ≤ 1000000) (hl : ds.length ≤ 1000000) :
    Calls Tryd.prog 44 #[.agg #[v], .int .i64 i] w fun e w' => e = .returned (.int .u64 ((dig ds i.toNat : Nat) : Int)) ∧ Below w.heap.size w w' := by
  obtain ⟨n, rfl⟩ := Int.eq_ofNat_of_zero_le h0
  rw [Int.toNat_natCast]
  exact digit_any v ds n w hd (by omega) hl

end Go.Proofs.YtfangnjdfmaaoaaDoor
