/- The reference's families: maps from sets to true, and ranging over them. -/
import Derived.Test.YtbklgjmkdhinpaaFmList
import Derived.Test.YtbklgjmkdhinpaaFmMap
import Derived.Maps.RangeWalk
set_option maxRecDepth 100000
namespace Go.Proofs.Ytbklgjmkdhinpaa.Fm
open Go.RowKit Go.Maps Go.Proofs.Ytbklgjmkdhinpaa.Bd
def UOk (x : Nat) : Prop := x < 18446744073709551616
def uLit (x : Nat) : Lit := .int .u64 (x : Int)
def trueElem : Value -> Option (DataW Unit × List MemPlace)
 | .bool b => some (.lit (.bool b), [])
 | _ => none
theorem trueElem_mk (b : Bool) : trueElem (.bool b) = some (.lit (.bool b), []) := rfl
theorem trueElem_inv {v : Value} {y : DataW Unit × List MemPlace} (h : trueElem v = some y) : ∃ b, v = .bool b /\ y = (.lit (.bool b), []) := by
 cases v <;> simp [trueElem] at h
 exact ⟨_, rfl, h.symm⟩
theorem wfU {x : Nat} (h : UOk x) : (Lit.int .u64 (x : Int)).wf = true := by
 unfold UOk at h
 simp [Lit.wf, IntKind.min, IntKind.max, IntKind.signed, IntKind.bits]
 omega
theorem lawU : Keyed Try.prog 50 := int_keyed Try.underlying50
theorem keyU {x : Nat} (h : UOk x) : keyOf Try.prog 50 (.int .u64 (x : Int)) = some (uLit x) := keyOf_int_mk Try.underlying50 (wfU h)
theorem uLit_inj {x y : Nat} (h : uLit x = uLit y) : x = y := by unfold uLit at h; injection h; omega
theorem uLit_key (x : Nat) : WideAt.IsKeyLit (uLit x) := trivial
theorem zeroB (w : World) : (zeroValue 4).run Try.prog w = .ok (.bool false) w := by kernel_rfl
abbrev RepU (D : DataW Unit) (L : List Nat) : Prop := Rep UOk uLit (fun _ : Unit => .lit (.bool true)) D (L.map fun x => (x, ()))
def FL (w : World) (b : Nat) (L : List Nat) : Prop := ∃ D, w.ownsMap Try.prog 50 trueElem b L.length D /\ RepU D L
def FM (w : World) (b : Nat) (S : Nat -> Prop) : Prop := ∃ L, FL w b L /\ ∀ x, x ∈ L ↔ S x
section
variable {w w' : World} {b : Nat} {L : List Nat} {S S' : Nat -> Prop}
theorem fst_map (L : List Nat) : (L.map fun x => (x, ())).map Prod.fst = L := by rw [List.map_map]; exact List.map_id _
theorem RepU.nodup' {D : DataW Unit} (h : RepU D L) : L.Nodup := by have := h.nodup; rwa [fst_map] at this
theorem RepU.has' {D : DataW Unit} (h : RepU D L) {x : Nat} (hx : UOk x) : Maps.has D (uLit x) = true ↔ x ∈ L := by have := h.has x hx; rwa [fst_map] at this
theorem RepU.ok' {D : DataW Unit} (h : RepU D L) {x : Nat} (hx : x ∈ L) : UOk x := h.oks (x, ()) (List.mem_map_of_mem hx)
theorem RepU.all' {D : DataW Unit} (h : RepU D L) {kl : Lit} (hk : Maps.has D kl = true) : ∃ x ∈ L, kl = uLit x := by
 obtain ⟨p, hp, e⟩ := h.all kl hk
 obtain ⟨x, hx, rfl⟩ := List.mem_map.1 hp
 exact ⟨x, hx, e⟩
theorem FL.lt (h : FL w b L) : b < w.heap.size := by obtain ⟨D, hD, _⟩ := h; exact hD.lt
theorem FL.grown {r : Option Nat} (h : FL w b L) (hg : w.grownBy w' r) (hr : some b ≠ r) : FL w' b L := by obtain ⟨D, hD, hR⟩ := h; exact ⟨D, hD.kept hg hr, hR⟩
theorem FL.below (h : FL w b L) (hb : Below w.heap.size w w') : FL w' b L := by
 have hl := h.lt
 obtain ⟨D, ⟨es, clock, h1, h2⟩, hR⟩ := h
 exact ⟨D, ⟨es, clock, (hb.block b hl).trans h1, h2⟩, hR⟩
theorem FL.made (w : World) : FL (w.alloc (.map #[] 0)) w.heap.size [] := ⟨.map [], World.ownsMap_made w _ _ _, Rep.empty⟩
theorem FL.nodup (h : FL w b L) : L.Nodup := by obtain ⟨D, _, hR⟩ := h; exact RepU.nodup' hR
theorem FL.ok (h : FL w b L) {x : Nat} (hx : x ∈ L) : UOk x := by obtain ⟨D, _, hR⟩ := h; exact RepU.ok' hR hx
theorem FL.look (h : FL w b L) {x : Nat} (hx : UOk x) : (Instr.lookup 31 (.map (some b)) (.int .u64 (x : Int)) false).run Try.prog w = .ok (.bool (decide (x ∈ L))) w := by
 obtain ⟨D, hD, hR⟩ := h
 obtain ⟨v, ps, hrun, hv⟩ := hD.lookup lawU Try.underlying31 (zeroB w) (trueElem_mk false) (keyU hx)
 obtain ⟨c, rfl, e⟩ := trueElem_inv hv
 simp only [Prod.mk.injEq] at e
 by_cases hm : x ∈ L
 ·have := hR.at' (x, ()) (List.mem_map_of_mem hm) (.lit (.bool false))
  rw [e.1] at this
  injection this with h1; injection h1 with h2
  rw [hrun, h2]; simp [hm]
 ·have hh : Maps.has D (uLit x) = false := by
   cases hc : Maps.has D (uLit x) with
   | false => rfl
   | true => exact absurd ((RepU.has' hR hx).1 hc) hm
  have := atKey_of_not_has hh (z := .lit (.bool false))
  rw [e.1] at this
  injection this with h1; injection h1 with h2
  rw [hrun, h2]; simp [hm]
def putU (L : List Nat) (x : Nat) : List Nat := if x ∈ L then L else L ++ [x]
theorem mem_putU {x y : Nat} : y ∈ putU L x ↔ y ∈ L \/ y = x := by
 unfold putU; split
 ·constructor
  ·exact .inl
  ·rintro (h | rfl) <;> assumption
 ·simp
theorem FL.put (h : FL w b L) (hl : L.length < 1000000) {x : Nat} (hx : UOk x) : ∃ w', (Instr.mapUpdate 31 (.map (some b)) (.int .u64 (x : Int)) (.bool true)).run Try.prog w = .ok () w' /\ FL w' b (putU L x) /\ w.grownBy w' (some b) := by
 obtain ⟨D, hD, hR⟩ := h
 obtain ⟨w', hrun, h1, h2⟩ := hD.update lawU Try.underlying31 (by unfold maxLen; omega) (keyU hx) (trueElem_mk true)
 have hR' : RepU (D.put (uLit x) (.lit (.bool true))) (putU L x) := by
  unfold putU
  by_cases hm : x ∈ L
  ·rw [if_pos hm]
   exact hR.put_same (fun _ _ _ _ e => uLit_inj e) uLit_key (p := (x, ())) (List.mem_map_of_mem hm)
  ·rw [if_neg hm]
   have := hR.put (fun _ _ _ _ e => uLit_inj e) uLit_key hx (by rw [fst_map]; exact hm) ()
   unfold RepU
   rw [List.map_append]; exact this
 refine ⟨w', hrun, ⟨_, ?_, hR'⟩, h2⟩
 have := ownsMap_norm h1
 rw [hR'.size, List.length_map] at this
 exact this
theorem FM.lt (h : FM w b S) : b < w.heap.size := by obtain ⟨L, h, _⟩ := h; exact h.lt
theorem FM.grown {r : Option Nat} (h : FM w b S) (hg : w.grownBy w' r) (hr : some b ≠ r) : FM w' b S := by obtain ⟨L, h, e⟩ := h; exact ⟨L, h.grown hg hr, e⟩
theorem FM.below (h : FM w b S) (hb : Below w.heap.size w w') : FM w' b S := by obtain ⟨L, h, e⟩ := h; exact ⟨L, h.below hb, e⟩
theorem FM.made (w : World) : FM (w.alloc (.map #[] 0)) w.heap.size (fun _ => False) := ⟨[], FL.made w, fun x => by simp⟩
theorem FM.congr (h : FM w b S) (e : ∀ x, S x ↔ S' x) : FM w b S' := by obtain ⟨L, h, e'⟩ := h; exact ⟨L, h, fun x => (e' x).trans (e x)⟩
theorem FM.look (h : FM w b S) {x : Nat} (hx : UOk x) [Decidable (S x)] : (Instr.lookup 31 (.map (some b)) (.int .u64 (x : Int)) false).run Try.prog w = .ok (.bool (decide (S x))) w := by
 obtain ⟨L, h, e⟩ := h
 rw [h.look hx]
 simp [e]
theorem FM.put (h : FM w b S) (hs : ∀ x, S x -> x < 65536) {x : Nat} (hx : UOk x) : ∃ w', (Instr.mapUpdate 31 (.map (some b)) (.int .u64 (x : Int)) (.bool true)).run Try.prog w = .ok () w' /\ FM w' b (fun y => S y \/ y = x) /\ w.grownBy w' (some b) := by
 obtain ⟨L, h, e⟩ := h
 have hl : L.length <= 65536 := nodupLe 65536 L h.nodup (fun x hx => hs x ((e x).1 hx))
 obtain ⟨w', hr, h', hg⟩ := h.put (by omega) hx
 exact ⟨w', hr, ⟨_, h', fun y => by rw [mem_putU, e]⟩, hg⟩
def RM (w : World) (b r : Nat) (S R : Nat -> Prop) (cnt : Nat) : Prop := ∃ L D left, w.ranges Try.prog 50 trueElem b r L.length D left cnt /\ RepU D L /\ (∀ x, x ∈ L ↔ S x) /\ (∀ x, R x -> S x) /\ (∀ x, UOk x -> (left (uLit x) = true ↔ R x)) /\ (∀ kl, left kl = true -> Maps.has D kl = true)
theorem RM.fm {r cnt : Nat} {R : Nat -> Prop} (h : RM w b r S R cnt) : FM w b S := by obtain ⟨L, D, left, h1, h2, h3, _⟩ := h; exact ⟨L, ⟨D, h1.owns, h2⟩, h3⟩
theorem RM.left_eq {r cnt : Nat} {R : Nat -> Prop} (h : RM w b r S R cnt) : w.rangeLeft b r = cnt := by obtain ⟨L, D, left, h1, _⟩ := h; exact h1.left_eq
theorem RM.lt {r cnt : Nat} {R : Nat -> Prop} (h : RM w b r S R cnt) : r < w.heap.size := by obtain ⟨L, D, left, h1, _⟩ := h; exact h1.lt
theorem RM.grown {r cnt : Nat} {R : Nat -> Prop} {row : Option Nat} (h : RM w b r S R cnt) (hg : w.grownBy w' row) (hb : some b ≠ row) (hr : some r ≠ row) : RM w' b r S R cnt := by obtain ⟨L, D, left, h1, h2⟩ := h; exact ⟨L, D, left, h1.kept hg hb hr, h2⟩
end
section
variable (w : World) {ops : Array Oper} {rest : List Oper} {o : Oper} {a : Act} {Q : Exit -> Act -> World -> Prop}
theorem wp_range_fam (hg : o.guard = none) (m : Operand) (hop : o.op = Op.range 31 m) (b : Nat) (S : Nat -> Prop) (hm : a.eval m = .map (some b)) (h : FM w b S)
  (hK : ∀ w' cnt, RM w' b w.heap.size S S cnt -> w.grownBy w' none -> w'.heap.size = w.heap.size + 1 -> wpList Try.prog ops Q rest (a.put o.dst (.pointer (some ⟨w.heap.size, 0, none⟩))) w') :
  wpList Try.prog ops Q (o :: rest) a w := by
 obtain ⟨L, ⟨D, hD, hR⟩, e⟩ := h
 refine wpList_range_own w hg m 31 hop 50 4 lawU Try.underlying31 trueElem b L.length D hm hD ?_
 intro w' h1 h2 h3
 exact hK w' _ ⟨L, D, _, h1, hR, e, fun _ h => h, fun x hx => (RepU.has' hR hx).trans (e x), fun _ h => h⟩ h2 h3
theorem wp_next_fam (hg : o.guard = none) (it : Operand) (hop : o.op = Op.next it false) (b r : Nat) (S R : Nat -> Prop) (cnt : Nat) (hit : a.eval it = .pointer (some ⟨r, 0, none⟩)) (h : RM w b r S R cnt)
  (hDone : (∀ x, ¬ R x) -> wpList Try.prog ops Q rest (a.put o.dst (.tuple #[.bool false])) w)
  (hMore : ∀ (x : Nat) (w' : World) (cnt' : Nat), R x -> S x -> UOk x -> RM w' b r S (fun y => R y /\ y ≠ x) cnt' -> cnt' < cnt -> w.grownBy w' (some r) -> w'.heap.size = w.heap.size ->
   (Instr.entry (.pointer (some ⟨r, 0, none⟩))).run Try.prog w' = .ok (.tuple #[.int .u64 (x : Int), .bool true]) w' -> wpList Try.prog ops Q rest (a.put o.dst (.tuple #[.bool true, .int .u64 (x : Int), .bool true])) w') :
  wpList Try.prog ops Q (o :: rest) a w := by
 obtain ⟨L, D, left, h1, hR, e, hs, hl, hh⟩ := h
 refine wpList_next_ranges w hg it hop 50 lawU trueElem (Value.int .u64) Value.bool (fun key kl hkey => by obtain ⟨x, rfl, _⟩ := Maps.keyOf_int_inv Try.underlying50 hkey; exact ⟨x, rfl⟩) (fun v y hv => by obtain ⟨c, rfl, _⟩ := trueElem_inv hv; exact ⟨c, rfl⟩) b r L.length D left cnt hit h1 ?_ ?_
 ·intro _ h0
  refine hDone fun x hx => ?_
  have := (hl x (RepU.ok' hR ((e x).2 (hs x hx)))).2 hx
  rw [h0] at this; cases this
 ·intro x c kl y w' cnt' hkey hlk hv hat hrg hlt hgr hsz hen
  obtain ⟨n, hn, ek⟩ := RepU.all' hR (hh kl hlk)
  obtain ⟨x', ex, ex2, _⟩ := Maps.keyOf_int_inv Try.underlying50 hkey
  cases ex
  have exn : x = (n : Int) := by rw [ek] at ex2; unfold uLit at ex2; injection ex2 with _ h; exact h.symm
  subst exn
  have hok := RepU.ok' hR hn
  obtain ⟨c', ec, ey⟩ := trueElem_inv hv
  cases ec
  have hc : c = true := by
   have h2 := hR.at' (n, ()) (List.mem_map_of_mem hn) (.lit (.bool false))
   have h3 := hat (.lit (.bool false))
   rw [ek, ey] at h3
   have h4 := h2.symm.trans h3
   injection h4 with h5; injection h5 with h6; exact h6.symm
  subst hc
  refine hMore n w' cnt' ((hl n hok).1 (ek ▸ hlk)) ((e n).1 hn) hok ⟨L, D, _, hrg, hR, e, fun y hy => hs y hy.1, fun y hy => ?_, fun k hk => ?_⟩ hlt hgr hsz hen
  ·rw [ek, Bool.and_eq_true, hl y hy]
   have : (!(uLit y).sameKey (uLit n)) = true ↔ y ≠ n := by
    unfold uLit
    simp [Lit.sameKey]
    omega
   rw [this]
  ·rw [Bool.and_eq_true] at hk
   exact hh k hk.1
end
end Go.Proofs.Ytbklgjmkdhinpaa.Fm
