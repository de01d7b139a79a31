/- Blocks of cells; what is told, as a block; a row of ints that grows. -/
import Derived.Test.YtapdeangogjbeaaDoorClSide
import Derived.Maps.AppendAt
import Derived.OneCell
import Derived.OwnWalk
import Derived.Lib.Builder
import Derived.Deep.AppendLies
import Derived.Laws.OwnMore
namespace Go.Proofs.YtapdeangogjbeaaDoor
open Go.RowKit Go.Deep

/-- A block of cells, none frozen. -/
def Blk (W : World) (b : Nat) (t : TypeId) (cs : Array Value) : Prop := W.heap[b]? = some (.cells cs t (0, 0))
section
variable {W W' : World} {b : Nat} {t : TypeId} {cs : Array Value}
theorem Blk.lt (h : Blk W b t cs) : b < W.heap.size := (Array.getElem?_eq_some_iff.1 h).1
theorem Blk.cell (h : Blk W b t cs) (i : Nat) : W.cell? ⟨b, i, none⟩ = cs[i]? := by simp [World.cell?, show W.heap[b]? = _ from h]
theorem Blk.frozen (h : Blk W b t cs) (i : Nat) : W.frozen? ⟨b, i, none⟩ = false := by simp [World.frozen?, show W.heap[b]? = _ from h]
theorem Blk.new (W : World) (t : TypeId) (cs : Array Value) : Blk (W.alloc (.cells cs t)) W.heap.size t cs := heap_alloc_new W _
theorem Blk.kept {row : Option Nat} (h : Blk W b t cs) (hg : W.grownBy W' row) (hne : some b ≠ row) : Blk W' b t cs := (hg.block b h.lt hne).trans h
theorem Blk.below {B : Nat} (h : Blk W b t cs) (hb : Below B W W') (hB : b < B) : Blk W' b t cs := (hb.block b hB).trans h
theorem Blk.alloc (h : Blk W b t cs) (o : Obj) : Blk (W.alloc o) b t cs := h.below (below_new W o) h.lt
theorem Blk.other {b' i : Nat} {v : Value} (h : Blk W b t cs) (hne : b ≠ b') : Blk (W.setCell ⟨b', i, none⟩ v) b t cs := (Below.heap_setCell _ _ _ b hne).trans h
theorem Blk.set {i : Nat} {v : Value} (h : Blk W b t cs) : Blk (W.setCell ⟨b, i, none⟩ v) b t (cs.setIfInBounds i v) := by
  obtain ⟨hlt, hk⟩ := Array.getElem?_eq_some_iff.1 h
  show (W.heap.modify b _)[b]? = _
  rw [Array.getElem?_eq_getElem (by rw [Array.size_modify]; exact hlt), Array.getElem_modify_self, hk]
  rfl
end

/-- What is told, as 24 cells. -/
def tvl (told : List Int) : List Value := (List.range 24).map fun i => Value.int .i8 (tv told i)
def tvs (told : List Int) : Array Value := (tvl told).toArray
theorem tvl_at (told : List Int) (i : Nat) (h : i < 24) : (tvl told)[i]? = some (.int .i8 (tv told i)) := by simp [tvl, h]
theorem tvl_len (told : List Int) : (tvl told).length = 24 := by simp [tvl]
theorem add_plain (b o i : Nat) : (⟨b, o, none⟩ : Addr).add i = ⟨b, o + i, none⟩ := by
  unfold Addr.add
  by_cases h : i = 0
  · subst h; rfl
  · rw [if_neg h]
theorem vals_of {W : World} {b : Nat} {t : TypeId} {pre post : List Value} {told : List Int} (h : Blk W b t (pre ++ tvl told ++ post).toArray) : ValsAt W ⟨b, pre.length, none⟩ told := by
  refine ⟨h.lt, fun i hi => ?_, fun i hi => ?_⟩
  · rw [add_plain, h.cell, List.getElem?_toArray, List.append_assoc, List.getElem?_append_right (by omega), Nat.add_sub_cancel_left, List.getElem?_append_left (by rw [tvl_len]; exact hi), tvl_at _ _ hi]
  · rw [add_plain]; exact h.frozen _
theorem tvl_tell {told : List Int} {x : Int} (hx : litB 24 x = true) (hn : -x ∉ told) : (tvl told).set (tellAt x) (.int .i8 (tellV x)) = tvl (told ++ [x]) := by
  rw [litB_iff] at hx
  apply List.ext_getElem?
  intro i
  rw [List.getElem?_set, tvl_len]
  by_cases hi : i < 24
  · rw [tvl_at _ _ hi, tvl_at _ _ hi, tv_tell hn]
    unfold tellAt tellV
    by_cases hp : 0 < x
    · rw [if_pos hp, if_pos hp]
      by_cases e : x.toNat - 1 = i
      · rw [if_pos e, if_pos (by omega), if_pos (by omega)]
      · rw [if_neg e, if_neg (by omega), if_neg (by omega)]
    · rw [if_neg hp, if_neg hp]
      by_cases e : (-x).toNat - 1 = i
      · rw [if_pos e, if_pos (by omega), if_neg (by omega), if_pos (by omega)]
      · rw [if_neg e, if_neg (by omega), if_neg (by omega)]
  · rw [List.getElem?_eq_none (by rw [tvl_len]; omega), List.getElem?_eq_none (by rw [tvl_len]; omega)]
    have : tellAt x < 24 := by unfold tellAt; split <;> omega
    rw [if_neg (by omega)]
theorem blk_tell {W : World} {b : Nat} {t : TypeId} {pre post : List Value} {told : List Int} {x : Int} (hx : litB 24 x = true) (hn : -x ∉ told) (h : Blk W b t (pre ++ tvl told ++ post).toArray) :
    Blk (W.setCell ((⟨b, pre.length, none⟩ : Addr).add (tellAt x)) (.int .i8 (tellV x))) b t (pre ++ tvl (told ++ [x]) ++ post).toArray := by
  have := h.set (i := pre.length + tellAt x) (v := .int .i8 (tellV x))
  have ht : tellAt x < 24 := by rw [litB_iff] at hx; unfold tellAt; split <;> omega
  rw [add_plain]
  rw [List.setIfInBounds_toArray, List.append_assoc, List.set_append_right _ _ (by omega), Nat.add_sub_cancel_left, List.set_append_left _ _ (by rw [tvl_len]; exact ht), tvl_tell hx hn, ← List.append_assoc] at this
  exact this

/-! ### A row of ints -/
def icells (l : List Int) : List Value := l.map (Value.int .i64)
theorem icells_length (l : List Int) : (icells l).length = l.length := by simp [icells]
theorem icells_at (l : List Int) (i : Nat) (h : i < l.length) : (icells l)[i]? = some (.int .i64 (l.getD i 0)) := by simp [icells, List.getD_eq_getElem?_getD, h]
theorem icells_snoc (l : List Int) (x : Int) : icells (l ++ [x]) = icells l ++ [.int .i64 x] := by simp [icells]
theorem infoInt : (Tryd.prog.info? 3).map (fun i => (i.zero, i.size, i.bytes)) = some (some (.int .i64 0), 1, 8) := by kernel_rfl
theorem row_form {B n : Nat} {w : World} {v : Value} {t : TypeId} {cs : List Value} (h : w.ownsRow B t 1 v n cs) : ∃ a c, v = .slice a n c ∧ n ≤ c ∧ c ≤ 9223372036854775807 := by
  rcases h.2 with ⟨e, e0⟩ | ⟨g, cap, cur, e, -, -, h1, h2, -⟩
  · exact ⟨none, 0, by rw [e, e0], by omega, by omega⟩
  · unfold maxLen at h2; exact ⟨_, _, e, h1, h2⟩
theorem ints_row {B : Nat} {w : World} {a : Option Addr} {c : Nat} {l : List Int} (h : w.ownsRow B 3 1 (.slice a l.length c) l.length (icells l)) : IntsIn w a l := by
  intro i hi
  rcases h.2 with ⟨e, e0⟩ | ⟨g, cap, cur, e, hB, hg, -⟩
  · omega
  · injection e with e1 e2 e3
    subst e1 e3
    refine ⟨_, rfl, (Array.getElem?_eq_some_iff.1 hg).1, ?_⟩
    have := h.cellAt i (by omega)
    rw [add_plain, Nat.zero_add, this, icells_at l i hi]
theorem row_new {B : Nat} {w w' : World} {t : TypeId} {v : Value} {n : Nat} {cs : List Value} (h : w.ownsRow B t 1 v n cs) (hb : Below w.heap.size w w') : w'.ownsRow B t 1 v n cs := by
  obtain ⟨h1, h2⟩ := h
  refine ⟨h1, ?_⟩
  rcases h2 with h2 | ⟨g, cap, cur, hv, hg, hh, r⟩
  · exact Or.inl h2
  · exact Or.inr ⟨g, cap, cur, hv, hg, by rw [hb.block g (Array.getElem?_eq_some_iff.1 hh).1]; exact hh, r⟩
end Go.Proofs.YtapdeangogjbeaaDoor
