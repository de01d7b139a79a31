/- Appends, by their runs. -/
import Derived.Test.YtcmmoinkhodjfaaDoorClRow
namespace Go.Proofs.YtcmmoinkhodjfaaDoor
open Go.RowKit Go.Deep

/-- An append in a plain region, by its run. -/
theorem wpl_app {P : Program} {w : World} {ops : Array Oper} {rest : List Oper} {o : Oper} {a : Act} {Q : Exit → Act → World → Prop} (hgd : o.guard = none) (s x : Operand) (t : TypeId)
    (ho : o.op = .call { callee := .builtin .append, args := #[s, x], argTypes := #[t, t] }) (v u : Value) (hs : a.eval s = v) (hx : a.eval x = u) {R : Value → World → Prop} (hrun : ∃ v' w', (Builtin.append_ #[t, t] o.type #[v, u]).run P w = .ok v' w' ∧ R v' w')
    (h : ∀ v' w', R v' w' → wpList P ops Q rest (a.put o.dst v') w') : wpList P ops Q (o :: rest) a w := by
  refine wpList_plain hgd fun K hK => ?_
  obtain ⟨v', w', hr, hR⟩ := hrun
  unfold Oper.wp execOp
  simp only [ho, resolve, invoke, builtin, Sem.run_bind, Sem.run_pure, Result.andThen_ok, List.map_toArray, List.map_cons, List.map_nil, hs, hx, hr]
  exact hK _ _ (h v' w' hR)

/-- A row of ints of one's own, grown out of a block. -/
def AppR (H k : Nat) (xs : List Int) (W : World) (v' : Value) (W' : World) : Prop := W'.ownsRow H 3 1 v' xs.length (icells xs) ∧ W.grownBy W' (some k)
/-- All ints of a row, onto an empty one. -/
theorem app_all {W : World} {H k : Nat} {xs : List Int} {ta : Option Addr} {tc : Nat} (t ty : TypeId) (ht : Tryd.prog.underlying t = some (.slice 3)) (hrow : W.ownsRow H 3 1 (.slice (some ⟨k, 0, none⟩) 0 0) 0 []) (hT : IntsIn W ta xs) (hn : ta = none → tc = 0) (hlen : xs.length ≤ 1000000) (hH : H ≤ W.heap.size) :
    ∃ v' W', (Builtin.append_ #[t, t] ty #[.slice (some ⟨k, 0, none⟩) 0 0, .slice ta xs.length tc]).run Tryd.prog W = .ok v' W' ∧ AppR H k xs W v' W' := by
  obtain ⟨i0, hin, hz0, hz1, hz2⟩ := info_parts infoInt
  cases ta with
  | none =>
    obtain rfl : xs = [] := by
      cases xs with
      | nil => rfl
      | cons c l => obtain ⟨ad, e, _⟩ := hT 0 (by simp); cases e
    obtain rfl := hn rfl
    exact ⟨_, _, run_append_owned_none W H t ty 3 i0 1 ht hin _ 0 [] hrow, hrow, ⟨rfl, rfl, rfl, Nat.le_refl _, fun _ _ _ => rfl⟩⟩
  | some ad =>
    obtain ⟨v', W', h1, h2, h3, -, -⟩ := run_append_own_at (P := Tryd.prog) W H t ty 3 i0 (.int .i64 0) 1 8 ht hin hz0 hz1 hz2 rfl (by decide) _ 0 [] hrow ad xs.length tc (icells xs) (by rw [icells_length, Nat.mul_one]) (fun j u hu => by
      have hj : j < xs.length := by have := (List.getElem?_eq_some_iff.1 hu).1; rw [icells_length] at this; exact this
      obtain ⟨ad', e, _, hc⟩ := hT j hj
      obtain rfl := Option.some.inj e
      rw [hc, ← icells_at _ _ hj]; exact hu) (fun u hu => by obtain ⟨x, _, rfl⟩ := List.mem_map.1 hu; rfl) (by unfold maxLen; omega) (by omega) hH
    exact ⟨v', W', h1, by simpa using h2, h3⟩
end Go.Proofs.YtcmmoinkhodjfaaDoor
