/- The reference's families in memory, ahead of the walk of its steps. -/
import Derived.Test.YtbklgjmkdhinpaaFmRSets
set_option maxHeartbeats 1000000
set_option maxRecDepth 100000
namespace Go.Proofs.Ytbklgjmkdhinpaa.Fm
open Go.RowKit Go.Maps Go.Proofs.Ytbklgjmkdhinpaa.Bd
theorem rat_any (x : Int) (n : Nat) (h0 : 0 < n) (h1 : n <= 1000000) (w : World) :
    Calls Try.prog 53 #[.int .i64 x, .int .i64 (n : Int)] w fun e w' => e = .returned (.int .i64 (pickV x n : Int)) /\ w = w' := by
  have hp := pickV_lt x h0
  have e1 : IntKind.u64.wrap x = x % 18446744073709551616 := by rw [IntKind.wrap_u64]
  have e2 : IntKind.u64.wrap (n : Int) = (n : Int) := IntWalk.u64_in _ ⟨by omega, by omega⟩
  have e3 : Int.tmod (x % 18446744073709551616) (n : Int) = (pickV x n : Int) := by
    unfold pickV
    obtain ⟨m, hm⟩ : ∃ m : Nat, x % 18446744073709551616 = (m : Int) := ⟨(x % 18446744073709551616).toNat, by omega⟩
    rw [hm]; simp
    rfl
  have e4 : IntKind.i64.wrap (pickV x n : Int) = (pickV x n : Int) := IntWalk.i64_in _ ⟨by omega, by omega⟩
  have e5 : ((n : Int) == 0) = false := by rw [beq_eq_false_iff_ne]; omega
  generalize pickV x n = p at *
  go_enter Try.func53, Try.ntmps53
  go_wp2
  go_ret
  exact ⟨rfl, rfl⟩
def Small (T : List Fam) : Prop := ∀ S ∈ T, ∀ x, S x -> x < 64
theorem or_small {a b : Nat} (ha : a < 64) (hb : b < 64) : a ||| b < 64 := Nat.or_lt_two_pow (n := 6) ha hb
theorem tAt_small {T : List Fam} (h : Small T) (x : Int) : ∀ y, tAt T x y -> y < 64 := fun y hy => by
  unfold tAt at hy
  rw [List.getD_eq_getElem?_getD] at hy
  cases hc : T[pickV x T.length]? with
  | none => rw [hc] at hy; exact hy.elim
  | some S => rw [hc] at hy; exact h S (List.mem_of_getElem? hc) y hy
theorem stepT_small {vars : Nat} (hv : vars <= 6) {T : List Fam} (h : Small T) (q : Quad) : ∀ y, stepT vars T q y -> y < 64 := fun y hy => by
  have p6 : 2 ^ vars <= 64 := Nat.pow_le_pow_right (n := 2) (by omega) hv
  unfold stepT at hy
  generalize pickV q.a 7 = t at hy
  match t, hy with
  | 0, hy =>
    have h1 : y = setN vars q.b := hy
    have : setN vars q.b < 2 ^ vars := Nat.mod_lt _ (Nat.two_pow_pos _)
    omega
  | 1, hy =>
    rcases hy with hy | hy
    · exact tAt_small h _ y hy
    · exact tAt_small h _ y hy
  | 2, hy => exact tAt_small h _ y hy.1
  | 3, hy => exact tAt_small h _ y hy.1
  | 4, hy =>
    obtain ⟨a, b, h1, h2, rfl⟩ := hy
    exact or_small (tAt_small h _ a h1) (tAt_small h _ b h2)
  | 5, hy => exact tAt_small h _ y hy.1
  | _ + 6, hy => exact tAt_small h _ y hy.1
theorem Small.snoc {T : List Fam} (h : Small T) {S : Fam} (hS : ∀ x, S x -> x < 64) : Small (T ++ [S]) := fun X hX => by
  rcases List.mem_append.1 hX with h1 | h1
  · exact h X h1
  · rw [List.mem_singleton] at h1; subst h1; exact hS
theorem small_start : Small [fun _ => False, fun y => y = 0] := fun S hS x hx => by
  simp at hS
  rcases hS with rfl | rfl
  · exact hx.elim
  · have : x = 0 := hx
    omega
theorem famT_small {vars : Nat} (hv : vars <= 6) : ∀ (qs : List Quad) (T : List Fam), Small T -> Small (famT vars T qs)
  | [], _, h => h
  | q :: qs, T, h => famT_small hv qs (T ++ [stepT vars T q]) (h.snoc (stepT_small hv h q))
def mcells (gs : List Nat) : List Value := gs.map fun g => Value.map (some g)
structure RFams (B : Nat) (w : World) (v : Value) (gs : List Nat) (T : List Fam) : Prop where
  row : w.ownsRow B 31 1 v gs.length (mcells gs)
  len : gs.length = T.length
  fams : ∀ i (h1 : i < gs.length) (h2 : i < T.length), FM w gs[i] T[i]
  old : ∀ g ∈ gs, B <= g
theorem FM.blk {w : World} {b : Nat} {S : Nat -> Prop} (h : FM w b S) : ∃ es clock, w.heap[b]? = some (.map es clock) := by
  obtain ⟨L, ⟨D, ⟨es, clock, h1, h2⟩, hR⟩, e⟩ := h
  exact ⟨es, clock, h1⟩
theorem row_blk {w : World} {B n : Nat} {t : TypeId} {v : Value} {cs : List Value} (h : w.ownsRow B t 1 v n cs) {k : Nat} (hk : v.ownBlock = some k) : ∃ cur fr, w.heap[k]? = some (.cells cur t fr) := by
  rcases h.2 with ⟨e, e0⟩ | ⟨g, cap, cur, e, h2, h3, h4⟩
  · rw [e] at hk; simp [Value.ownBlock] at hk
  · rw [e] at hk
    have : g = k := by simpa [Value.ownBlock] using hk
    subst this
    exact ⟨_, _, h3⟩
theorem FM.row_ne {w : World} {b B n : Nat} {t : TypeId} {v : Value} {cs : List Value} {S : Nat -> Prop} (h : FM w b S) (hr : w.ownsRow B t 1 v n cs) : some b ≠ v.ownBlock := fun e => by
  obtain ⟨es, clock, h1⟩ := h.blk
  obtain ⟨cur, fr, h2⟩ := row_blk hr e.symm
  rw [h1] at h2
  cases h2
section
variable {B : Nat} {w w' : World} {v : Value} {gs : List Nat} {T : List Fam}
theorem RFams.new (h : RFams B w v gs T) (hb : Below w.heap.size w w') : RFams B w' v gs T := ⟨ownsRow_new h.row hb, h.len, fun i h1 h2 => (h.fams i h1 h2).below hb, h.old⟩
theorem RFams.snoc (h : RFams B w v gs T) {v2 : Value} {gf : Nat} {S : Fam} (hg : w.grownBy w' v.ownBlock) (hrow : w'.ownsRow B 31 1 v2 (gs.length + 1) (mcells gs ++ [.map (some gf)])) (hf : FM w gf S) (hB : B <= gf) : RFams B w' v2 (gs ++ [gf]) (T ++ [S]) := by
  refine ⟨by have e : mcells (gs ++ [gf]) = mcells gs ++ [.map (some gf)] := by simp [mcells]
             rw [e, List.length_append]; exact hrow, by simp [h.len], fun i h1 h2 => ?_, fun x hx => (List.mem_append.1 hx).elim (h.old x) (fun h => by rw [List.mem_singleton] at h; subst h; exact hB)⟩
  by_cases hi : i < gs.length
  · rw [List.getElem_append_left hi, List.getElem_append_left (by rw [<- h.len]; exact hi)]
    have hx := h.fams i hi (by rw [<- h.len]; exact hi)
    exact hx.grown hg (hx.row_ne h.row)
  · have e : i = gs.length := by simp at h1; omega
    subst e
    have e2 : (T ++ [S])[gs.length]'h2 = S := by simp [h.len]
    have e1 : (gs ++ [gf])[gs.length]'h1 = gf := by simp
    rw [e1, e2]
    exact hf.grown hg (hf.row_ne h.row)
theorem RFams.at (h : RFams B w v gs T) (hne : 0 < gs.length) (x : Int) : ∃ b, gs[pickV x gs.length]? = some b /\ FM w b (tAt T x) := by
  have hl := pickV_lt x hne
  refine ⟨gs[pickV x gs.length], List.getElem?_eq_getElem hl, ?_⟩
  have h2 : pickV x gs.length < T.length := by rw [<- h.len]; exact hl
  have := h.fams _ hl h2
  have e : tAt T x = T[pickV x gs.length]'h2 := by
    unfold tAt
    rw [<- h.len, List.getD_eq_getElem?_getD, List.getElem?_eq_getElem h2]
    rfl
  rw [e]; exact this
theorem RFams.cell (h : RFams B w v gs T) (hne : 0 < gs.length) : ∃ g c, v = .slice (some ⟨g, 0, none⟩) gs.length c /\ g < w.heap.size /\ ∀ i b, gs[i]? = some b -> w.cell? ⟨g, i, none⟩ = some (.map (some b)) := by
  rcases h.row.2 with ⟨e, e0⟩ | ⟨g, cap, cur, e, hB, hg, hn, hm, hsz, htake⟩
  · omega
  · subst e
    refine ⟨g, cap, rfl, (h.row.lt g rfl).2, fun i b hi => ?_⟩
    have hlt := (List.getElem?_eq_some_iff.1 hi).1
    have := h.row.cellAt i (by omega)
    rw [this]
    simp [mcells, hi]
end
def FI (w0 : World) (b r m : Nat) (S C Q : Nat -> Prop) (wq : World) : Prop := ∃ R cnt, RM wq b r S R cnt /\ FM wq m (fun y => C y \/ (Q y /\ ¬ R y)) /\ Below w0.heap.size w0 wq
section
variable {w0 wq w' : World} {b r m : Nat} {S C Q R : Nat -> Prop} {cnt : Nat}
theorem FI.start (h1 : RM wq b r S S cnt) (h2 : FM wq m C) (hQ : ∀ y, Q y -> S y) (h3 : Below w0.heap.size w0 wq) : FI w0 b r m S C Q wq := ⟨S, cnt, h1, h2.congr (fun y => ⟨.inl, fun h => h.elim id (fun k => (k.2 (hQ y k.1)).elim)⟩), h3⟩
theorem fi_done (h : FM wq m (fun y => C y \/ (Q y /\ ¬ R y))) (hall : ∀ x, ¬ R x) : FM wq m (fun y => C y \/ Q y) := h.congr (fun y => ⟨fun k => k.imp id (fun k => k.1), fun k => k.imp id (fun k => ⟨k, hall y⟩)⟩)
theorem fi_skip {x : Nat} (h : FM wq m (fun y => C y \/ (Q y /\ ¬ R y))) (hq : ¬ Q x) : FM wq m (fun y => C y \/ (Q y /\ ¬ (R y /\ y ≠ x))) := h.congr (fun y => by
  constructor
  · exact fun k => k.imp id (fun k => ⟨k.1, fun e => k.2 e.1⟩)
  · exact fun k => k.imp id (fun k => ⟨k.1, fun e => k.2 ⟨e, fun e2 => hq (e2 ▸ k.1)⟩⟩))
theorem fi_take {x : Nat} (h : FM wq m (fun y => (C y \/ (Q y /\ ¬ R y)) \/ y = x)) (hq : Q x) : FM wq m (fun y => C y \/ (Q y /\ ¬ (R y /\ y ≠ x))) := h.congr (fun y => by
  constructor
  · rintro ((k | k) | rfl)
    · exact .inl k
    · exact .inr ⟨k.1, fun e => k.2 e.1⟩
    · exact .inr ⟨hq, fun e => e.2 rfl⟩
  · rintro (k | k)
    · exact .inl (.inl k)
    · by_cases e : y = x
      · exact .inr e
      · exact .inl (.inr ⟨k.1, fun hr => k.2 ⟨hr, e⟩⟩))
end
end Go.Proofs.Ytbklgjmkdhinpaa.Fm
