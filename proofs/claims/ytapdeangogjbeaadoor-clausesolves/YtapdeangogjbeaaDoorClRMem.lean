/- The reference's Solve: what it has in memory. Its four rows (all clauses, the proof, the decisions, what was made) lie in blocks of their own; every row of ints beside them lies in none of these. -/
import Derived.Test.YtapdeangogjbeaaDoorClRPlain
import Derived.Test.YtapdeangogjbeaaDoorClRSame
namespace Go.Proofs.YtapdeangogjbeaaDoor
open Go.RowKit Go.Deep

section
variable {B : Nat} {w w' : World} {S S' : List (Option Nat)} {R : Option Addr → Nat → Nat → Prop}
/-- Ints in none of these blocks. -/
def IntsS (S : List (Option Nat)) (w : World) (a : Option Addr) (xs : List Int) : Prop :=
  ∀ i, i < xs.length → ∃ ad : Addr, a = some ad ∧ ad.block < w.heap.size ∧ some ad.block ∉ S ∧ w.cell? (ad.add i) = some (.int .i64 (xs.getD i 0))
/-- The blocks afterwards are these or new ones. -/
def Nw (w : World) (S S' : List (Option Nat)) : Prop := ∀ k, some k ∈ S' → some k ∈ S ∨ w.heap.size ≤ k
theorem IntsS.ints {a : Option Addr} {xs : List Int} (h : IntsS S w a xs) : IntsIn w a xs := fun i hi => by
  obtain ⟨ad, h1, h2, _, h4⟩ := h i hi
  exact ⟨ad, h1, h2, h4⟩
theorem IntsS.grown {a : Option Addr} {xs : List Int} {o : Option Nat} (h : IntsS S w a xs) (hg : w.grownBy w' o) (ho : o ∈ S) (hn : Nw w S S') : IntsS S' w' a xs := fun i hi => by
  obtain ⟨ad, h1, h2, h3, h4⟩ := h i hi
  have e := hg.block _ h2 (fun e => h3 (e ▸ ho))
  refine ⟨ad, h1, Nat.lt_of_lt_of_le h2 hg.size, fun hm => ?_, ?_⟩
  · rcases hn _ hm with h | h
    · exact h3 h
    · omega
  · rw [World.cell?_of_block (w := w) (by rw [addr_block]; exact e)]; exact h4
theorem IntsS.new {a : Option Addr} {xs : List Int} (h : IntsS S w a xs) (hb : Below w.heap.size w w') : IntsS S w' a xs := fun i hi => by
  obtain ⟨ad, h1, h2, h3, h4⟩ := h i hi
  have e := hb.block _ h2
  exact ⟨ad, h1, Nat.lt_of_lt_of_le h2 hb.size, h3, by rw [World.cell?_of_block (w := w) (by rw [addr_block]; exact e)]; exact h4⟩
/-- Ints that lay there ahead of the call. -/
theorem IntsS.of {a : Option Addr} {xs : List Int} (h : IntsIn w a xs) (hS : ∀ k, some k ∈ S → w.heap.size ≤ k) : IntsS S w a xs := fun i hi => by
  obtain ⟨ad, h1, h2, h3⟩ := h i hi
  exact ⟨ad, h1, h2, fun hm => (by have := hS _ hm; omega), h3⟩
/-- What spread gives: where what was handed in lies, or in a new block. -/
theorem IntsS.loc {a a0 : Option Addr} {xs t : List Int} (h0 : IntsS S w a0 xs) (ht : IntsIn w' a t) (hl : Loc w.heap.size a0 xs a t) (hS : ∀ k, some k ∈ S → k < w.heap.size) : IntsS S w' a t := fun i hi => by
  obtain ⟨ad, h1, h2, h3⟩ := ht i hi
  refine ⟨ad, h1, h2, fun hm => ?_, h3⟩
  rcases hl with ⟨e, rfl⟩ | ⟨p, e, hp⟩
  · obtain ⟨ad', h5, h6, h7, _⟩ := h0 i hi
    rw [h1, h5] at e
    obtain rfl := Option.some.inj e
    exact h7 hm
  · rw [h1] at e
    obtain rfl := Option.some.inj e
    have := hS _ hm
    omega

/-- Clauses; what is told. -/
def ClC : Option Addr → Nat → Nat → Prop := fun _ n cap => n ≤ cap ∧ cap ≤ 9223372036854775807
def TlC : Option Addr → Nat → Nat → Prop := fun a _ cap => a = none → cap = 0
/-- Rows of ints, as cells. -/
def ClsS (R : Option Addr → Nat → Nat → Prop) (S : List (Option Nat)) (w : World) (cs : List Value) (l : List (List Int)) : Prop :=
  cs.length = l.length ∧ ∀ i, i < l.length → ∃ (a : Option Addr) (cap : Nat), cs[i]? = some (.slice a (l.getD i []).length cap) ∧ R a (l.getD i []).length cap ∧ IntsS S w a (l.getD i [])
theorem ClsS.grown {cs : List Value} {l : List (List Int)} {o : Option Nat} (h : ClsS R S w cs l) (hg : w.grownBy w' o) (ho : o ∈ S) (hn : Nw w S S') : ClsS R S' w' cs l := ⟨h.1, fun i hi => by
  obtain ⟨a, cap, h1, h2, h4⟩ := h.2 i hi
  exact ⟨a, cap, h1, h2, h4.grown hg ho hn⟩⟩
theorem ClsS.new {cs : List Value} {l : List (List Int)} (h : ClsS R S w cs l) (hb : Below w.heap.size w w') : ClsS R S w' cs l := ⟨h.1, fun i hi => by
  obtain ⟨a, cap, h1, h2, h4⟩ := h.2 i hi
  exact ⟨a, cap, h1, h2, h4.new hb⟩⟩
theorem ClsS.nil : ClsS R S w [] [] := ⟨rfl, fun i hi => by simp at hi⟩
theorem ClsS.snoc {cs : List Value} {l : List (List Int)} (h : ClsS R S w cs l) {a : Option Addr} {cap : Nat} {c : List Int} (h1 : R a c.length cap) (h3 : IntsS S w a c) : ClsS R S w (cs ++ [.slice a c.length cap]) (l ++ [c]) := by
  refine ⟨by simp [h.1], fun i hi => ?_⟩
  by_cases hl : i < l.length
  · have e : (l ++ [c]).getD i [] = l.getD i [] := by simp [List.getD_eq_getElem?_getD, List.getElem?_append_left hl]
    rw [e, List.getElem?_append_left (by rw [h.1]; exact hl)]
    exact h.2 i hl
  · have hi' : i = l.length := by simp at hi; omega
    subst hi'
    have e : (l ++ [c]).getD l.length [] = c := by simp [List.getD_eq_getElem?_getD]
    rw [e, List.getElem?_append_right (by rw [h.1]; exact Nat.le_refl _), h.1]
    exact ⟨a, cap, by simp, h1, h3⟩
theorem ClsS.cls {e : TypeId} {cs : List Value} {l : List (List Int)} {a : Option Addr} {cap : Nat} (h : ClsS ClC S w cs l) (hr : w.ownsRow B e 1 (.slice a l.length cap) l.length cs) : ClsIn w a l := by
  intro i hi
  obtain ⟨a', cap', h1, ⟨h2, h3⟩, h4⟩ := h.2 i hi
  rcases hr.2 with ⟨e, e0⟩ | ⟨g, cap2, cur, e, hB, hg, -⟩
  · omega
  · injection e with e1 e2 e3
    subst e1 e3
    refine ⟨_, a', cap', rfl, (Array.getElem?_eq_some_iff.1 hg).1, ?_, h2, h3, h4.ints⟩
    have := hr.cellAt i (by omega)
    rw [add_plain, Nat.zero_add, this, h1]
theorem ClsS.one {cs : List Value} {l : List (List Int)} (h : ClsS R S w cs l) : ∀ u ∈ cs, u.oneCell' = true := fun u hu => by
  obtain ⟨i, hi, rfl⟩ := List.getElem_of_mem hu
  obtain ⟨a, cap, h1, _⟩ := h.2 i (by rw [← h.1]; exact hi)
  rw [List.getElem?_eq_getElem hi] at h1
  rw [Option.some.inj h1]
  rfl
/-- The last one, and what is ahead of it. -/
theorem ClsS.last {cs : List Value} {l : List (List Int)} {c : List Int} (h : ClsS R S w cs (l ++ [c])) : ∃ cs' a cap, cs = cs' ++ [.slice a c.length cap] ∧ ClsS R S w cs' l ∧ R a c.length cap ∧ IntsS S w a c := by
  obtain ⟨h0, h⟩ := h
  obtain ⟨a, cap, h1, h2, h4⟩ := h l.length (by simp)
  have e : (l ++ [c]).getD l.length [] = c := by simp [List.getD_eq_getElem?_getD]
  rw [e] at h1 h2 h4
  have hne : cs ≠ [] := fun e => by rw [e] at h0; simp at h0
  obtain ⟨cs', u, rfl⟩ : ∃ d x, cs = d ++ [x] := ⟨_, _, (List.dropLast_concat_getLast hne).symm⟩
  have hl : cs'.length = l.length := by simpa using h0
  rw [← hl, List.getElem?_append_right (Nat.le_refl _)] at h1
  simp at h1
  subst h1
  refine ⟨cs', a, cap, rfl, ⟨hl, fun i hi => ?_⟩, h2, h4⟩
  obtain ⟨a', cap', g1, g2⟩ := h i (by simp; omega)
  have e : (l ++ [c]).getD i [] = l.getD i [] := by simp [List.getD_eq_getElem?_getD, List.getElem?_append_left hi]
  rw [e] at g1 g2
  rw [List.getElem?_append_left (by rw [hl]; exact hi)] at g1
  exact ⟨a', cap', g1, g2⟩

end

/-- The blocks of the four rows. -/
def own4 (aV pV dV mV : Value) : List (Option Nat) := [aV.ownBlock, pV.ownBlock, dV.ownBlock, mV.ownBlock]
def Apart (u v : Value) : Prop := u.ownBlock = none ∨ u.ownBlock ≠ v.ownBlock
theorem Apart.symm {u v : Value} (h : Apart u v) : Apart v u := by
  unfold Apart at *
  cases hv : v.ownBlock with
  | none => exact Or.inl rfl
  | some k =>
    refine Or.inr fun e => ?_
    rcases h with h | h
    · rw [h] at e; cases e
    · exact h (e.symm.trans hv.symm)
theorem Apart.grown {w : World} {B n size : Nat} {e : TypeId} {xs : List Value} {u v v' : Value} (h : Apart u v) (hu : w.ownsRow B e size u n xs) (hl : v'.ownBlock = v.ownBlock ∨ v'.ownBlock = some w.heap.size) : Apart u v' := by
  unfold Apart at *
  cases hk : u.ownBlock with
  | none => exact Or.inl rfl
  | some k =>
    refine Or.inr fun e' => ?_
    have hlt := (hu.lt k hk).2
    rcases hl with hl | hl
    · rw [hl] at e'
      rcases h with h | h
      · rw [h] at hk; cases hk
      · exact h (hk.trans e')
    · rw [hl] at e'
      injection e' with e'
      omega
/-- The reference's search in memory. -/
structure RAt (B : Nat) (w : World) (cl pl : List (List Int)) (ms : List Int) (ts : List (List Int)) (aV pV dV mV : Value) : Prop where
  arow : ∃ cs, w.ownsRow B 35 1 aV cl.length cs ∧ ClsS ClC (own4 aV pV dV mV) w cs cl
  prow : ∃ cs, w.ownsRow B 35 1 pV pl.length cs ∧ ClsS ClC (own4 aV pV dV mV) w cs pl
  drow : ∃ cs, w.ownsRow B 34 1 dV ts.length cs ∧ ClsS TlC (own4 aV pV dV mV) w cs ts
  mrow : w.ownsRow B 3 1 mV ms.length (icells ms)
  ap : Apart aV pV
  ad : Apart aV dV
  am : Apart aV mV
  pd : Apart pV dV
  pm : Apart pV mV
  dm : Apart dV mV
section
variable {B : Nat} {w w' : World} {cl pl ts : List (List Int)} {ms : List Int} {aV pV dV mV : Value}
theorem RAt.new (h : RAt B w cl pl ms ts aV pV dV mV) (hb : Below w.heap.size w w') : RAt B w' cl pl ms ts aV pV dV mV := by
  obtain ⟨cs, h1, h2⟩ := h.arow
  obtain ⟨ps, h3, h4⟩ := h.prow
  obtain ⟨ds, h5, h6⟩ := h.drow
  exact ⟨⟨cs, row_new' h1 hb, h2.new hb⟩, ⟨ps, row_new' h3 hb, h4.new hb⟩, ⟨ds, row_new' h5 hb, h6.new hb⟩, row_new' h.mrow hb, h.ap, h.ad, h.am, h.pd, h.pm, h.dm⟩
theorem RAt.lt (h : RAt B w cl pl ms ts aV pV dV mV) : ∀ k, some k ∈ own4 aV pV dV mV → B ≤ k ∧ k < w.heap.size := by
  intro k hk
  obtain ⟨cs, h1, h2⟩ := h.arow
  obtain ⟨ps, h3, h4⟩ := h.prow
  obtain ⟨ds, h5, h6⟩ := h.drow
  simp only [own4, List.mem_cons, List.not_mem_nil, or_false] at hk
  rcases hk with e | e | e | e
  · exact h1.lt k e.symm
  · exact h3.lt k e.symm
  · exact h5.lt k e.symm
  · exact h.mrow.lt k e.symm
theorem loc_mem {w : World} {v v' : Value} {S : List (Option Nat)} (hl : v'.ownBlock = v.ownBlock ∨ v'.ownBlock = some w.heap.size) (hm : v.ownBlock ∈ S) {k : Nat} (e : some k = v'.ownBlock) : some k ∈ S ∨ w.heap.size ≤ k := by
  rcases hl with hl | hl
  · rw [e, hl]; exact Or.inl hm
  · rw [hl] at e
    injection e with e
    exact Or.inr (by omega)
theorem nw_a {aV' : Value} (hl : aV'.ownBlock = aV.ownBlock ∨ aV'.ownBlock = some w.heap.size) : Nw w (own4 aV pV dV mV) (own4 aV' pV dV mV) := by
  intro k hk
  simp only [own4, List.mem_cons, List.not_mem_nil, or_false] at hk
  rcases hk with e | e | e | e
  · exact loc_mem hl (by simp [own4]) e
  all_goals exact Or.inl (by simp [own4, e])
theorem nw_p {pV' : Value} (hl : pV'.ownBlock = pV.ownBlock ∨ pV'.ownBlock = some w.heap.size) : Nw w (own4 aV pV dV mV) (own4 aV pV' dV mV) := by
  intro k hk
  simp only [own4, List.mem_cons, List.not_mem_nil, or_false] at hk
  rcases hk with e | e | e | e
  · exact Or.inl (by simp [own4, e])
  · exact loc_mem hl (by simp [own4]) e
  all_goals exact Or.inl (by simp [own4, e])
theorem nw_d {dV' : Value} (hl : dV'.ownBlock = dV.ownBlock ∨ dV'.ownBlock = some w.heap.size) : Nw w (own4 aV pV dV mV) (own4 aV pV dV' mV) := by
  intro k hk
  simp only [own4, List.mem_cons, List.not_mem_nil, or_false] at hk
  rcases hk with e | e | e | e
  · exact Or.inl (by simp [own4, e])
  · exact Or.inl (by simp [own4, e])
  · exact loc_mem hl (by simp [own4]) e
  · exact Or.inl (by simp [own4, e])
theorem nw_m {mV' : Value} (hl : mV'.ownBlock = mV.ownBlock ∨ mV'.ownBlock = some w.heap.size) : Nw w (own4 aV pV dV mV) (own4 aV pV dV mV') := by
  intro k hk
  simp only [own4, List.mem_cons, List.not_mem_nil, or_false] at hk
  rcases hk with e | e | e | e
  · exact Or.inl (by simp [own4, e])
  · exact Or.inl (by simp [own4, e])
  · exact Or.inl (by simp [own4, e])
  · exact loc_mem hl (by simp [own4]) e
theorem RAt.grow_a {cs : List Value} {aV' : Value} {a : Option Addr} {cap : Nat} {c : List Int} (h : RAt B w cl pl ms ts aV pV dV mV) (hck : ClsS ClC (own4 aV pV dV mV) w cs cl) (hown : w'.ownsRow B 35 1 aV' (cl.length + 1) (cs ++ [.slice a c.length cap])) (hg : w.grownBy w' aV.ownBlock) (hl : aV'.ownBlock = aV.ownBlock ∨ aV'.ownBlock = some w.heap.size) (hc : ClC a c.length cap) (hi : IntsS (own4 aV pV dV mV) w a c) :
    RAt B w' (cl ++ [c]) pl ms ts aV' pV dV mV := by
  have hm : aV.ownBlock ∈ own4 aV pV dV mV := by simp [own4]
  have hn := nw_a (w := w) (pV := pV) (dV := dV) (mV := mV) hl
  obtain ⟨ps, h3, h4⟩ := h.prow
  obtain ⟨ds, h5, h6⟩ := h.drow
  exact ⟨⟨_, by simpa using hown, (hck.grown hg hm hn).snoc hc (hi.grown hg hm hn)⟩, ⟨ps, h3.kept hg h.ap.symm, h4.grown hg hm hn⟩, ⟨ds, h5.kept hg h.ad.symm, h6.grown hg hm hn⟩, h.mrow.kept hg h.am.symm, (h.ap.symm.grown h3 hl).symm, (h.ad.symm.grown h5 hl).symm, (h.am.symm.grown h.mrow hl).symm, h.pd, h.pm, h.dm⟩
theorem RAt.grow_p {cs : List Value} {pV' : Value} {a : Option Addr} {cap : Nat} {c : List Int} (h : RAt B w cl pl ms ts aV pV dV mV) (hck : ClsS ClC (own4 aV pV dV mV) w cs pl) (hown : w'.ownsRow B 35 1 pV' (pl.length + 1) (cs ++ [.slice a c.length cap])) (hg : w.grownBy w' pV.ownBlock) (hl : pV'.ownBlock = pV.ownBlock ∨ pV'.ownBlock = some w.heap.size) (hc : ClC a c.length cap) (hi : IntsS (own4 aV pV dV mV) w a c) :
    RAt B w' cl (pl ++ [c]) ms ts aV pV' dV mV := by
  have hm : pV.ownBlock ∈ own4 aV pV dV mV := by simp [own4]
  have hn := nw_p (w := w) (aV := aV) (dV := dV) (mV := mV) hl
  obtain ⟨ps, h3, h4⟩ := h.arow
  obtain ⟨ds, h5, h6⟩ := h.drow
  exact ⟨⟨ps, h3.kept hg h.ap, h4.grown hg hm hn⟩, ⟨_, by simpa using hown, (hck.grown hg hm hn).snoc hc (hi.grown hg hm hn)⟩, ⟨ds, h5.kept hg h.pd.symm, h6.grown hg hm hn⟩, h.mrow.kept hg h.pm.symm, h.ap.grown h3 hl, h.ad, h.am, (h.pd.symm.grown h5 hl).symm, (h.pm.symm.grown h.mrow hl).symm, h.dm⟩
theorem RAt.grow_d {cs : List Value} {dV' : Value} {a : Option Addr} {cap : Nat} {c : List Int} (h : RAt B w cl pl ms ts aV pV dV mV) (hck : ClsS TlC (own4 aV pV dV mV) w cs ts) (hown : w'.ownsRow B 34 1 dV' (ts.length + 1) (cs ++ [.slice a c.length cap])) (hg : w.grownBy w' dV.ownBlock) (hl : dV'.ownBlock = dV.ownBlock ∨ dV'.ownBlock = some w.heap.size) (hc : TlC a c.length cap) (hi : IntsS (own4 aV pV dV mV) w a c) :
    RAt B w' cl pl ms (ts ++ [c]) aV pV dV' mV := by
  have hm : dV.ownBlock ∈ own4 aV pV dV mV := by simp [own4]
  have hn := nw_d (w := w) (aV := aV) (pV := pV) (mV := mV) hl
  obtain ⟨ps, h3, h4⟩ := h.arow
  obtain ⟨ds, h5, h6⟩ := h.prow
  exact ⟨⟨ps, h3.kept hg h.ad, h4.grown hg hm hn⟩, ⟨ds, h5.kept hg h.pd, h6.grown hg hm hn⟩, ⟨_, by simpa using hown, (hck.grown hg hm hn).snoc hc (hi.grown hg hm hn)⟩, h.mrow.kept hg h.dm.symm, h.ap, h.ad.grown h3 hl, h.am, h.pd.grown h5 hl, h.pm, (h.dm.symm.grown h.mrow hl).symm⟩
theorem RAt.grow_m {mV' : Value} {x : Int} (h : RAt B w cl pl ms ts aV pV dV mV) (hown : w'.ownsRow B 3 1 mV' (ms ++ [x]).length (icells (ms ++ [x]))) (hg : w.grownBy w' mV.ownBlock) (hl : mV'.ownBlock = mV.ownBlock ∨ mV'.ownBlock = some w.heap.size) :
    RAt B w' cl pl (ms ++ [x]) ts aV pV dV mV' := by
  have hm : mV.ownBlock ∈ own4 aV pV dV mV := by simp [own4]
  have hn := nw_m (w := w) (aV := aV) (pV := pV) (dV := dV) hl
  obtain ⟨cs, h1, h2⟩ := h.arow
  obtain ⟨ps, h3, h4⟩ := h.prow
  obtain ⟨ds, h5, h6⟩ := h.drow
  exact ⟨⟨cs, h1.kept hg h.am, h2.grown hg hm hn⟩, ⟨ps, h3.kept hg h.pm, h4.grown hg hm hn⟩, ⟨ds, h5.kept hg h.dm, h6.grown hg hm hn⟩, hown, h.ap, h.ad, h.am.grown h1 hl, h.pd, h.pm.grown h3 hl, h.dm.grown h5 hl⟩
/-- The last decision is taken back: both rows are one shorter, in the same blocks. -/
theorem RAt.pop {t : List Int} {x : Int} {da ma : Option Addr} {dc mc : Nat} (h : RAt B w cl pl (ms ++ [x]) (ts ++ [t]) aV pV (.slice da (ts.length + 1) dc) (.slice ma (ms.length + 1) mc)) :
    ∃ g gm ta tc, da = some ⟨g, 0, none⟩ ∧ ma = some ⟨gm, 0, none⟩ ∧ g < w.heap.size ∧ gm < w.heap.size ∧ ts.length + 1 ≤ dc ∧ ms.length + 1 ≤ mc ∧ w.cell? ⟨g, ts.length, none⟩ = some (.slice ta t.length tc) ∧ TlC ta t.length tc ∧ IntsS (own4 aV pV (.slice da ts.length dc) (.slice ma ms.length mc)) w ta t ∧ RAt B w cl pl ms ts aV pV (.slice da ts.length dc) (.slice ma ms.length mc) := by
  obtain ⟨cs, h1, h2⟩ := h.arow
  obtain ⟨ps, h3, h4⟩ := h.prow
  obtain ⟨ds, h5, h6⟩ := h.drow
  have h7 := h.mrow
  obtain ⟨ds', ta, tc, rfl, h8, h9, h10⟩ := h6.last
  rw [icells_snoc] at h7
  rw [List.length_append, List.length_singleton] at h5 h7
  rcases h5.2 with ⟨e, e0⟩ | ⟨g, cap, cur, e, hB, hg, hcap, -⟩
  · omega
  rcases h7.2 with ⟨e', e0⟩ | ⟨gm, cap', cur', e', hB', hg', hcap', -⟩
  · omega
  cases e
  cases e'
  have h5c := h5.cellAt ts.length (by omega)
  have hob : own4 aV pV (.slice (some ⟨g, 0, none⟩) ts.length dc) (.slice (some ⟨gm, 0, none⟩) ms.length mc) = own4 aV pV (.slice (some ⟨g, 0, none⟩) (ts.length + 1) dc) (.slice (some ⟨gm, 0, none⟩) (ms.length + 1) mc) := rfl
  refine ⟨g, gm, ta, tc, rfl, rfl, (Array.getElem?_eq_some_iff.1 hg).1, (Array.getElem?_eq_some_iff.1 hg').1, by omega, by omega, ?_, h9, hob ▸ h10, ⟨⟨cs, h1, h2⟩, ⟨ps, h3, h4⟩, ⟨ds', ownsRow_pop (by rw [h8.1, Nat.mul_one]) h5, h8⟩, ownsRow_pop (by rw [icells_length, Nat.mul_one]) h7, h.ap, h.ad, h.am, h.pd, h.pm, h.dm⟩⟩
  rw [h5c, List.getElem?_append_right (by rw [h8.1]; exact Nat.le_refl _), h8.1]
  simp
end
end Go.Proofs.YtapdeangogjbeaaDoor
