/- The walk of ProofFollows. -/
import Derived.Test.YtcmmoinkhodjfaaDoorPfRFol
import Derived.Test.YtcmmoinkhodjfaaDoorClFew
import Derived.Test.YtcmmoinkhodjfaaDoorClRSame
import Derived.Deep.RegionLaw
namespace Go.Proofs.YtcmmoinkhodjfaaDoor
open Go.RowKit Go.Deep

/-- append onto a row of one's own, as one step of a region that draws. -/
theorem step_app_own {P : Program} {ops : Array Oper} {o : Oper} {a : Act} {w : World} {K : Act → World → Prop} {Q : Exit → Act → World → Prop} {E : Prop}
    (hg : o.guard = none) (s x : Operand) (t : TypeId) (hop : o.op = Op.call { callee := Callee.builtin Builtin.append, args := #[s, x], argTypes := #[t, t] })
    (B : Nat) (e : TypeId) (i : TypeInfo) (z : Value) (size bytes : Nat) (h1 : P.underlying t = some (.slice e)) (h2 : P.info? e = some i) (h3 : i.zero = some z) (h4 : i.size = size) (h5 : i.bytes = bytes) (h6 : z.cells.size = size) (h7 : 0 < size)
    (v : Value) (n : Nat) (olds : List Value) (hs : a.eval s = v) (hrow : w.ownsRow B e size v n olds)
    (ad : Addr) (m c : Nat) (news : List Value) (hx : a.eval x = .slice (some ad) m c) (hn : news.length = m * size) (hc : ∀ j u, news[j]? = some u → w.cell? (ad.add j) = some u) (h1c : ∀ u ∈ news, u.oneCell' = true)
    (b1 : n + m ≤ maxLen) (hB : B ≤ w.heap.size) (b2 : (n + m) * bytes ≤ 140737488355328)
    (hK : ∀ v' w', w'.ownsRow B e size v' (n + m) (olds ++ news) → w.grownBy w' v.ownBlock → K (a.put o.dst v') w') :
    if Region.wanted o (yielded ops a.tmps) = true then Oper.wp P o a w K Q else E := by
  have hw : Region.wanted o (yielded ops a.tmps) = true := by simp [Region.wanted, hg]
  rw [if_pos hw]
  obtain ⟨v', w', hrun, r1, r2, -⟩ := run_append_own_at (P := P) w B t o.type e i z size bytes h1 h2 h3 h4 h5 h6 h7 v n olds hrow ad m c news hn hc h1c b1 b2 hB
  unfold Oper.wp
  simp [execOp, hop, resolve, invoke, builtin, hs, hx, hrun, Result.andThen]
  exact hK v' w' r1 r2
def tcells (l : List Stp) : List Value := l.flatMap fun s => [.int .i64 s.a, .int .i64 s.b, .int .i64 s.v]
theorem tcells_len (l : List Stp) : (tcells l).length = l.length * 3 := by
  induction l with
  | nil => rfl
  | cons s l ih =>
    have : tcells (s :: l) = [.int .i64 s.a, .int .i64 s.b, .int .i64 s.v] ++ tcells l := rfl
    rw [this, List.length_append, ih, List.length_cons]
    simp
    omega
theorem tcells_snoc (l : List Stp) (s : Stp) : tcells (l ++ [s]) = tcells l ++ [.int .i64 s.a, .int .i64 s.b, .int .i64 s.v] := by simp [tcells]
theorem tcells_at {l : List Stp} {k : Nat} (hk : k < l.length) : (tcells l)[k * 3]? = some (.int .i64 (l.getD k ⟨0, 0, 0⟩).a) ∧ (tcells l)[k * 3 + 1]? = some (.int .i64 (l.getD k ⟨0, 0, 0⟩).b) ∧ (tcells l)[k * 3 + 2]? = some (.int .i64 (l.getD k ⟨0, 0, 0⟩).v) := by
  induction l generalizing k with
  | nil => simp at hk
  | cons s l ih =>
    have he : tcells (s :: l) = [.int .i64 s.a, .int .i64 s.b, .int .i64 s.v] ++ tcells l := rfl
    rw [he]
    cases k with
    | zero => simp
    | succ k =>
      have := ih (k := k) (by simpa using hk)
      rw [List.getElem?_append_right (by simp; omega), List.getElem?_append_right (by simp; omega), List.getElem?_append_right (by simp; omega)]
      simp only [List.length_cons, List.length_nil]
      rw [show (k + 1) * 3 - (0 + 1 + 1 + 1) = k * 3 by omega, show (k + 1) * 3 + 1 - (0 + 1 + 1 + 1) = k * 3 + 1 by omega, show (k + 1) * 3 + 2 - (0 + 1 + 1 + 1) = k * 3 + 2 by omega]
      simpa using this
theorem infoT : (Tryd.prog.info? 46).map (fun i => (i.zero, i.size, i.bytes)) = some (some (.agg #[.int .i64 0, .int .i64 0, .int .i64 0]), 3, 24) := by kernel_rfl
/-- A row of steps, read as steps. -/
theorem trow_in {B : Nat} {w : World} {a : Option Addr} {c : Nat} {l : List Stp} (h : w.ownsRow B 46 3 (.slice a l.length c) l.length (tcells l)) : StpsIn w a l := by
  intro k hk
  rcases h.2 with ⟨e, e0⟩ | ⟨g, cap, cur, e, hB, hg, -⟩
  · omega
  · injection e with e1 e2 e3
    subst e1 e3
    have h0 := h.cellAt (k * 3) (by omega)
    have h1 := h.cellAt (k * 3 + 1) (by omega)
    have h2 := h.cellAt (k * 3 + 2) (by omega)
    obtain ⟨q0, q1, q2⟩ := tcells_at hk
    rw [q0] at h0
    rw [q1] at h1
    rw [q2] at h2
    refine ⟨_, rfl, (Array.getElem?_eq_some_iff.1 hg).1, ?_, ?_, ?_⟩ <;> rw [add_plain] <;> simpa using ‹_›
theorem trow_form {B n : Nat} {w : World} {v : Value} {cs : List Value} (h : w.ownsRow B 46 3 v n cs) : ∃ a c, v = .slice a n c ∧ n ≤ c ∧ c ≤ 9223372036854775807 := by
  rcases h.2 with ⟨e, e0⟩ | ⟨g, cap, cur, e, -, -, h1, h2, -⟩
  · exact ⟨none, 0, by rw [e, e0], by omega, by omega⟩
  · unfold maxLen at h2; exact ⟨_, _, e, h1, h2⟩
theorem stp_take {l : List Stp} {j : Nat} (h : j < l.length) : l.take (j + 1) = l.take j ++ [l.getD j ⟨0, 0, 0⟩] := by
  rw [List.take_add_one, List.getElem?_eq_getElem h, List.getD_eq_getElem?_getD, List.getElem?_eq_getElem h]; rfl
/-- The fault's box, and the row of steps. -/
structure TW (w wr : World) (bf : Nat) (ts : List Stp) (tV : Value) : Prop where
  box : Blk wr bf 41 #[.int .i64 0, .int .i64 (-1)]
  row : wr.ownsRow w.heap.size 46 3 tV ts.length (tcells ts)
  below : Below w.heap.size w wr
theorem TW.new {w wr wr' : World} {bf : Nat} {ts : List Stp} {tV : Value} (h : TW w wr bf ts tV) (hb : Below wr.heap.size wr wr') : TW w wr' bf ts tV :=
  ⟨h.box.below hb h.box.lt, row_new' h.row hb, h.below.trans (hb.mono h.below.size)⟩
theorem TW.app {w wr wr' : World} {bf : Nat} {ts : List Stp} {tV tV' : Value} {s : Stp} (h : TW w wr bf ts tV) (hown : wr'.ownsRow w.heap.size 46 3 tV' (ts.length + 1) (tcells ts ++ [.int .i64 s.a, .int .i64 s.b, .int .i64 s.v])) (hg : wr.grownBy wr' tV.ownBlock) : TW w wr' bf (ts ++ [s]) tV' := by
  refine ⟨(hg.block _ h.box.lt (fun e => ownBlock_ne' h.row h.box (by decide) e.symm)).trans h.box, by rw [tcells_snoc]; simpa using hown, h.below.grown hg h.below.size (fun k hk => (h.row.lt k hk).1)⟩
end Go.Proofs.YtcmmoinkhodjfaaDoor
