/- The reference's Solve: appends, what holds between its rounds, its answer. -/
import Derived.Test.YtapdeangogjbeaaDoorClRMem
namespace Go.Proofs.YtapdeangogjbeaaDoor
open Go.RowKit Go.Deep

/-- An append in a plain region, by its run. -/
theorem wpl_app {P : Program} {w : World} {ops : Array Oper} {rest : List Oper} {o : Oper} {a : Act} {Q : Exit → Act → World → Prop} (hgd : o.guard = none) (s x : Operand) (t : TypeId)
    (ho : o.op = .call { callee := .builtin .append, args := #[s, x], argTypes := #[t, t] }) (v u : Value) (hs : a.eval s = v) (hx : a.eval x = u) {R : Value → World → Prop} (hrun : ∃ v' w', (Builtin.append_ #[t, t] o.type #[v, u]).run P w = .ok v' w' ∧ R v' w')
    (h : ∀ v' w', R v' w' → wpList P ops Q rest (a.put o.dst v') w') : wpList P ops Q (o :: rest) a w := by
  refine wpList_plain hgd fun K hK => ?_
  obtain ⟨v', w', hr, hR⟩ := hrun
  unfold Oper.wp execOp
  simp only [ho, resolve, invoke, builtin, Sem.run_bind, Sem.run_pure, Result.andThen_ok, List.map_toArray, List.map_cons, List.map_nil, hs, hx, hr]
  exact hK _ _ (h v' w' hR)

/-- The cells of clauses that came in. -/
theorem cls_cellsS {w : World} {ad : Addr} {l : List (List Int)} (h : ClsIn w (some ad) l) {S : List (Option Nat)} (hS : ∀ k, some k ∈ S → w.heap.size ≤ k) : ∃ cs : List Value, ClsS ClC S w cs l ∧ ∀ j u, cs[j]? = some u → ad.block < w.heap.size ∧ w.cell? (ad.add j) = some u := by
  have each : ∀ i, i < l.length → ∃ u : Value, (∃ (a : Option Addr) (cap : Nat), u = .slice a (l.getD i []).length cap ∧ ClC a (l.getD i []).length cap ∧ IntsS S w a (l.getD i [])) ∧ ad.block < w.heap.size ∧ w.cell? (ad.add i) = some u := by
    intro i hi
    obtain ⟨ad', a', cap, e, h1, h2, h3, h4, h5⟩ := h i hi
    obtain rfl := Option.some.inj e
    exact ⟨_, ⟨a', cap, rfl, ⟨h3, h4⟩, IntsS.of h5 hS⟩, h1, h2⟩
  obtain ⟨q, hq⟩ := choose_lt (fun i hi => each i hi)
  have hlen : ((List.range l.length).map q).length = l.length := by simp
  have hat : ∀ i, i < l.length → ((List.range l.length).map q)[i]? = some (q i) := fun i hi => by simp [hi]
  refine ⟨(List.range l.length).map q, ⟨hlen, fun i hi => ?_⟩, fun j u hj => ?_⟩
  · obtain ⟨a, cap, e, h1, h2⟩ := (hq i hi).1
    exact ⟨a, cap, by rw [hat i hi, e], h1, h2⟩
  · have hj' : j < l.length := by have := (List.getElem?_eq_some_iff.1 hj).1; rw [hlen] at this; exact this
    rw [hat j hj'] at hj
    obtain rfl := Option.some.inj hj
    exact (hq j hj').2

/-- All clauses, onto an empty row: what the search begins with. -/
theorem app_cls {w : World} {l : List (List Int)} {a : Option Addr} {cap : Nat} (ty : TypeId) (hI : ClsIn w a l) (hn : a = none → cap = 0) (hl : l.length ≤ 200) :
    ∃ v' W', (Builtin.append_ #[22, 22] ty #[.slice (some ⟨w.heap.size, 0, none⟩) 0 0, .slice a l.length cap]).run Tryd.prog (w.alloc (.cells #[] 35)) = .ok v' W' ∧ (RAt w.heap.size W' l [] [] [] v' (.slice none 0 0) (.slice none 0 0) (.slice none 0 0) ∧ Below w.heap.size w W') := by
  obtain ⟨ic, hic, hc0, hc1, hc2⟩ := info_parts infoCls
  have hrow := World.ownsRow_lit (base := w.heap.size) (e := 35) (size := 1) w #[] 0 (Nat.le_refl _) (by decide) rfl
  have hbn := below_new w (.cells #[] 35)
  have fin : ∀ (v' : Value) (W' : World) (cs : List Value), W'.ownsRow w.heap.size 35 1 v' l.length cs → ClsS ClC (own4 v' (.slice none 0 0) (.slice none 0 0) (.slice none 0 0)) W' cs l → RAt w.heap.size W' l [] [] [] v' (.slice none 0 0) (.slice none 0 0) (.slice none 0 0) := fun v' W' cs h1 h2 =>
    ⟨⟨cs, h1, h2⟩, ⟨[], World.ownsRow_nil _ _ _ _, ClsS.nil⟩, ⟨[], World.ownsRow_nil _ _ _ _, ClsS.nil⟩, World.ownsRow_nil _ _ _ _, Apart.symm (Or.inl rfl), Apart.symm (Or.inl rfl), Apart.symm (Or.inl rfl), Or.inl rfl, Or.inl rfl, Or.inl rfl⟩
  cases a with
  | none =>
    obtain rfl : l = [] := by
      cases l with
      | nil => rfl
      | cons c l => obtain ⟨ad, _, _, e, _⟩ := hI 0 (by simp); cases e
    obtain rfl := hn rfl
    exact ⟨_, _, run_append_owned_none _ w.heap.size 22 ty 35 ic 1 Tryd.underlying22 hic _ 0 [] hrow, fin _ _ [] hrow ClsS.nil, hbn⟩
  | some ad =>
    obtain ⟨cs, hck, hcell⟩ := cls_cellsS hI (S := [some w.heap.size, none, none, none]) (fun k hk => by simp at hk; omega)
    obtain ⟨v', W', h1, h2, h3, h4, h5⟩ := run_append_own_at (P := Tryd.prog) (w.alloc (.cells #[] 35)) w.heap.size 22 ty 35 ic (.slice none 0 0) 1 24 Tryd.underlying22 hic hc0 hc1 hc2 rfl (by decide) _ 0 [] hrow ad l.length cap cs (by rw [hck.1, Nat.mul_one]) (fun j u hu => by
      obtain ⟨q1, q2⟩ := hcell j u hu
      rw [World.cell?_alloc_lt _ _ _ (by rw [addr_block]; exact q1)]; exact q2) hck.one (by unfold maxLen; omega) (by omega) (by simp)
    have hb7 : Below w.heap.size w W' := hbn.grown h3 (by simp) (fun k hk => by simp [Value.ownBlock] at hk; omega)
    refine ⟨v', W', h1, fin v' W' cs (by simpa using h2) ?_, hb7⟩
    refine (hck.new hbn).grown (S := [some w.heap.size, none, none, none]) h3 (by simp [Value.ownBlock]) (fun k hk => ?_)
    simp only [own4, Value.ownBlock, List.mem_cons, List.not_mem_nil, or_false] at hk
    have hk' : some k = v'.ownBlock := by
      rcases hk with e | e | e | e
      · exact e
      all_goals cases e
    rcases h5 with h5 | h5
    · rw [hk', h5]; exact Or.inl (by simp [Value.ownBlock])
    · rw [h5] at hk'
      injection hk' with hk'
      exact Or.inr (by omega)

/-- How long what is told is. -/
structure TL (s : St) : Prop where
  t : s.told.length + free s.told ≤ 24
  d : ∀ d ∈ s.decs, d.2.length + free d.2 ≤ 24
  p : ∀ c ∈ s.prf, c.length ≤ 24
theorem few_spread {l : List (List Int)} {v : Int} (hv : v ≤ 24) (hl : LitsL v l) {told t : List Int} {b : Int} (h : Spread l told t b) (hc : Cons told) (hs : Lits v told) (hf : told.length + free told ≤ 24) : t.length + free t ≤ 24 := by
  induction h with
  | stop _ => exact hf
  | step e hx _ ih =>
    obtain ⟨h1, h2, h3, h4, h5⟩ := next_step hl hc hs e hx
    have := free_tell (lit_24 hv h1) h2 h3
    exact ih h4 h5 (by simp; omega)

/-- What holds between the rounds. -/
structure RInv (w wr : World) (n : Nat) (l : List (List Int)) (s : St) (r : Res) (aV dV mV pV : Value) (ta : Option Addr) (tc : Nat) : Prop where
  at' : RAt w.heap.size wr (l ++ s.prf) s.prf (s.decs.map Prod.fst) (s.decs.map Prod.snd) aV pV dV mV
  told : IntsS (own4 aV pV dV mV) wr ta s.told
  nil : ta = none → tc = 0
  good : Good n s
  tl : TL s
  run : Run n l s r
  below : Below w.heap.size w wr

def RSolveAns (r : Res) (e : Ending) (w' : World) : Prop :=
  (∃ t, r = .sat t ∧ e = .returned (.tuple #[.bool true, .int .u64 (numF t 24 : Int), .slice none 0 0, .bool true])) ∨
  (∃ prf pa pc, r = .unsat prf ∧ e = .returned (.tuple #[.bool false, .int .u64 0, .slice pa prf.length pc, .bool true]) ∧ ClsIn w' pa prf ∧ prf.length ≤ 2000) ∨
  (r = .limit ∧ e = .returned (.tuple #[.bool false, .int .u64 0, .slice none 0 0, .bool false]))
end Go.Proofs.YtapdeangogjbeaaDoor
