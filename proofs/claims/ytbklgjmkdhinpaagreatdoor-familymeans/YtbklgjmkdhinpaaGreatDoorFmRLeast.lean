/- The reference's Least. -/
import Derived.Test.YtbklgjmkdhinpaaGreatDoorFmFun
import Derived.Test.YtbklgjmkdhinpaaGreatDoorFmSetsW
import Derived.Maps.RangeWalk
import Derived.Laws.BitsAllLaws
set_option maxHeartbeats 4000000
set_option maxRecDepth 100000
namespace Go.Proofs.YtbklgjmkdhinpaaGreatDoor.Fm
open Go.RowKit Go.Maps Go.Proofs.YtbklgjmkdhinpaaGreatDoor.Bd
def UOk (x : Nat) : Prop := x < 18446744073709551616
def uLit (x : Nat) : Lit := .int .u64 (x : Int)
def trueElem : Value -> Option (DataW Unit × List MemPlace)
 | .bool b => some (.lit (.bool b), [])
 | _ => none
theorem trueElem_mk (b : Bool) : trueElem (.bool b) = some (.lit (.bool b), []) := rfl
theorem trueElem_inv {v : Value} {y : DataW Unit × List MemPlace} (h : trueElem v = some y) : ∃ b, v = .bool b /\ y = (.lit (.bool b), []) := by
 cases v <;> simp [trueElem] at h
 exact ⟨_, rfl, h.symm⟩
theorem wfU {x : Nat} (h : UOk x) : (Lit.int .u64 (x : Int)).wf = true := by
 unfold UOk at h
 simp [Lit.wf, IntKind.min, IntKind.max, IntKind.signed, IntKind.bits]
 omega
theorem lawU : Keyed Tryz.prog 46 := int_keyed Tryz.underlying46
theorem keyU {x : Nat} (h : UOk x) : keyOf Tryz.prog 46 (.int .u64 (x : Int)) = some (uLit x) := keyOf_int_mk Tryz.underlying46 (wfU h)
theorem uLit_inj {x y : Nat} (h : uLit x = uLit y) : x = y := by unfold uLit at h; injection h; omega
theorem uLit_key (x : Nat) : WideAt.IsKeyLit (uLit x) := trivial
theorem zeroB (w : World) : (zeroValue 4).run Tryz.prog w = .ok (.bool false) w := by kernel_rfl
abbrev RepU (D : DataW Unit) (L : List Nat) : Prop := Rep UOk uLit (fun _ : Unit => .lit (.bool true)) D (L.map fun x => (x, ()))
def FL (w : World) (b : Nat) (L : List Nat) : Prop := ∃ D, w.ownsMap Tryz.prog 46 trueElem b L.length D /\ RepU D L
def FM (w : World) (b : Nat) (S : Nat -> Prop) : Prop := ∃ L, FL w b L /\ ∀ x, x ∈ L ↔ S x
section
variable {w w' : World} {b : Nat} {L : List Nat} {S S' : Nat -> Prop}
theorem fst_map (L : List Nat) : (L.map fun x => (x, ())).map Prod.fst = L := by rw [List.map_map]; exact List.map_id _
theorem RepU.nodup' {D : DataW Unit} (h : RepU D L) : L.Nodup := by have := h.nodup; rwa [fst_map] at this
theorem RepU.has' {D : DataW Unit} (h : RepU D L) {x : Nat} (hx : UOk x) : Maps.has D (uLit x) = true ↔ x ∈ L := by have := h.has x hx; rwa [fst_map] at this
theorem RepU.ok' {D : DataW Unit} (h : RepU D L) {x : Nat} (hx : x ∈ L) : UOk x := h.oks (x, ()) (List.mem_map_of_mem hx)
theorem RepU.all' {D : DataW Unit} (h : RepU D L) {kl : Lit} (hk : Maps.has D kl = true) : ∃ x ∈ L, kl = uLit x := by
 obtain ⟨p, hp, e⟩ := h.all kl hk
 obtain ⟨x, hx, rfl⟩ := List.mem_map.1 hp
 exact ⟨x, hx, e⟩
theorem FL.lt (h : FL w b L) : b < w.heap.size := by obtain ⟨D, hD, _⟩ := h; exact hD.lt
theorem FL.grown {r : Option Nat} (h : FL w b L) (hg : w.grownBy w' r) (hr : some b ≠ r) : FL w' b L := by obtain ⟨D, hD, hR⟩ := h; exact ⟨D, hD.kept hg hr, hR⟩
theorem FL.below (h : FL w b L) (hb : Below w.heap.size w w') : FL w' b L := by
 have hl := h.lt
 obtain ⟨D, ⟨es, clock, h1, h2⟩, hR⟩ := h
 exact ⟨D, ⟨es, clock, (hb.block b hl).trans h1, h2⟩, hR⟩
theorem FL.made (w : World) : FL (w.alloc (.map #[] 0)) w.heap.size [] := ⟨.map [], World.ownsMap_made w _ _ _, Rep.empty⟩
theorem FL.nodup (h : FL w b L) : L.Nodup := by obtain ⟨D, _, hR⟩ := h; exact RepU.nodup' hR
theorem FL.ok (h : FL w b L) {x : Nat} (hx : x ∈ L) : UOk x := by obtain ⟨D, _, hR⟩ := h; exact RepU.ok' hR hx
theorem FL.look (h : FL w b L) {x : Nat} (hx : UOk x) : (Instr.lookup 30 (.map (some b)) (.int .u64 (x : Int)) false).run Tryz.prog w = .ok (.bool (decide (x ∈ L))) w := by
 obtain ⟨D, hD, hR⟩ := h
 obtain ⟨v, ps, hrun, hv⟩ := hD.lookup lawU Tryz.underlying30 (zeroB w) (trueElem_mk false) (keyU hx)
 obtain ⟨c, rfl, e⟩ := trueElem_inv hv
 simp only [Prod.mk.injEq] at e
 by_cases hm : x ∈ L
 ·have := hR.at' (x, ()) (List.mem_map_of_mem hm) (.lit (.bool false))
  rw [e.1] at this
  injection this with h1; injection h1 with h2
  rw [hrun, h2]; simp [hm]
 ·have hh : Maps.has D (uLit x) = false := by
   cases hc : Maps.has D (uLit x) with
   | false => rfl
   | true => exact absurd ((RepU.has' hR hx).1 hc) hm
  have := atKey_of_not_has hh (z := .lit (.bool false))
  rw [e.1] at this
  injection this with h1; injection h1 with h2
  rw [hrun, h2]; simp [hm]
def putU (L : List Nat) (x : Nat) : List Nat := if x ∈ L then L else L ++ [x]
theorem mem_putU {x y : Nat} : y ∈ putU L x ↔ y ∈ L \/ y = x := by
 unfold putU; split
 ·constructor
  ·exact .inl
  ·rintro (h | rfl) <;> assumption
 ·simp
theorem FL.put (h : FL w b L) (hl : L.length < 1000000) {x : Nat} (hx : UOk x) : ∃ w', (Instr.mapUpdate 30 (.map (some b)) (.int .u64 (x : Int)) (.bool true)).run Tryz.prog w = .ok () w' /\ FL w' b (putU L x) /\ w.grownBy w' (some b) := by
 obtain ⟨D, hD, hR⟩ := h
 obtain ⟨w', hrun, h1, h2⟩ := hD.update lawU Tryz.underlying30 (by unfold maxLen; omega) (keyU hx) (trueElem_mk true)
 have hR' : RepU (D.put (uLit x) (.lit (.bool true))) (putU L x) := by
  unfold putU
  by_cases hm : x ∈ L
  ·rw [if_pos hm]
   exact hR.put_same (fun _ _ _ _ e => uLit_inj e) uLit_key (p := (x, ())) (List.mem_map_of_mem hm)
  ·rw [if_neg hm]
   have := hR.put (fun _ _ _ _ e => uLit_inj e) uLit_key hx (by rw [fst_map]; exact hm) ()
   unfold RepU
   rw [List.map_append]; exact this
 refine ⟨w', hrun, ⟨_, ?_, hR'⟩, h2⟩
 have := ownsMap_norm h1
 rw [hR'.size, List.length_map] at this
 exact this
theorem FM.lt (h : FM w b S) : b < w.heap.size := by obtain ⟨L, h, _⟩ := h; exact h.lt
theorem FM.grown {r : Option Nat} (h : FM w b S) (hg : w.grownBy w' r) (hr : some b ≠ r) : FM w' b S := by obtain ⟨L, h, e⟩ := h; exact ⟨L, h.grown hg hr, e⟩
theorem FM.below (h : FM w b S) (hb : Below w.heap.size w w') : FM w' b S := by obtain ⟨L, h, e⟩ := h; exact ⟨L, h.below hb, e⟩
theorem FM.made (w : World) : FM (w.alloc (.map #[] 0)) w.heap.size (fun _ => False) := ⟨[], FL.made w, fun x => by simp⟩
theorem FM.congr (h : FM w b S) (e : ∀ x, S x ↔ S' x) : FM w b S' := by obtain ⟨L, h, e'⟩ := h; exact ⟨L, h, fun x => (e' x).trans (e x)⟩
theorem FM.look (h : FM w b S) {x : Nat} (hx : UOk x) [Decidable (S x)] : (Instr.lookup 30 (.map (some b)) (.int .u64 (x : Int)) false).run Tryz.prog w = .ok (.bool (decide (S x))) w := by
 obtain ⟨L, h, e⟩ := h
 rw [h.look hx]
 simp [e]
theorem FM.put (h : FM w b S) (hs : ∀ x, S x -> x < 65536) {x : Nat} (hx : UOk x) : ∃ w', (Instr.mapUpdate 30 (.map (some b)) (.int .u64 (x : Int)) (.bool true)).run Tryz.prog w = .ok () w' /\ FM w' b (fun y => S y \/ y = x) /\ w.grownBy w' (some b) := by
 obtain ⟨L, h, e⟩ := h
 have hl : L.length <= 65536 := nodupLe 65536 L h.nodup (fun x hx => hs x ((e x).1 hx))
 obtain ⟨w', hr, h', hg⟩ := h.put (by omega) hx
 exact ⟨w', hr, ⟨_, h', fun y => by rw [mem_putU, e]⟩, hg⟩
def RM (w : World) (b r : Nat) (S R : Nat -> Prop) (cnt : Nat) : Prop := ∃ L D left, w.ranges Tryz.prog 46 trueElem b r L.length D left cnt /\ RepU D L /\ (∀ x, x ∈ L ↔ S x) /\ (∀ x, R x -> S x) /\ (∀ x, UOk x -> (left (uLit x) = true ↔ R x)) /\ (∀ kl, left kl = true -> Maps.has D kl = true)
theorem RM.fm {r cnt : Nat} {R : Nat -> Prop} (h : RM w b r S R cnt) : FM w b S := by obtain ⟨L, D, left, h1, h2, h3, _⟩ := h; exact ⟨L, ⟨D, h1.owns, h2⟩, h3⟩
theorem RM.left_eq {r cnt : Nat} {R : Nat -> Prop} (h : RM w b r S R cnt) : w.rangeLeft b r = cnt := by obtain ⟨L, D, left, h1, _⟩ := h; exact h1.left_eq
theorem RM.lt {r cnt : Nat} {R : Nat -> Prop} (h : RM w b r S R cnt) : r < w.heap.size := by obtain ⟨L, D, left, h1, _⟩ := h; exact h1.lt
theorem RM.grown {r cnt : Nat} {R : Nat -> Prop} {row : Option Nat} (h : RM w b r S R cnt) (hg : w.grownBy w' row) (hb : some b ≠ row) (hr : some r ≠ row) : RM w' b r S R cnt := by obtain ⟨L, D, left, h1, h2⟩ := h; exact ⟨L, D, left, h1.kept hg hb hr, h2⟩
end
section
variable (w : World) {ops : Array Oper} {rest : List Oper} {o : Oper} {a : Act} {Q : Exit -> Act -> World -> Prop}
theorem wp_range_fam (hg : o.guard = none) (m : Operand) (hop : o.op = Op.range 30 m) (b : Nat) (S : Nat -> Prop) (hm : a.eval m = .map (some b)) (h : FM w b S)
  (hK : ∀ w' cnt, RM w' b w.heap.size S S cnt -> w.grownBy w' none -> w'.heap.size = w.heap.size + 1 -> wpList Tryz.prog ops Q rest (a.put o.dst (.pointer (some ⟨w.heap.size, 0, none⟩))) w') :
  wpList Tryz.prog ops Q (o :: rest) a w := by
 obtain ⟨L, ⟨D, hD, hR⟩, e⟩ := h
 refine wpList_range_own w hg m 30 hop 46 4 lawU Tryz.underlying30 trueElem b L.length D hm hD ?_
 intro w' h1 h2 h3
 exact hK w' _ ⟨L, D, _, h1, hR, e, fun _ h => h, fun x hx => (RepU.has' hR hx).trans (e x), fun _ h => h⟩ h2 h3
theorem wp_next_fam (hg : o.guard = none) (it : Operand) (hop : o.op = Op.next it false) (b r : Nat) (S R : Nat -> Prop) (cnt : Nat) (hit : a.eval it = .pointer (some ⟨r, 0, none⟩)) (h : RM w b r S R cnt)
  (hDone : (∀ x, ¬ R x) -> wpList Tryz.prog ops Q rest (a.put o.dst (.tuple #[.bool false])) w)
  (hMore : ∀ (x : Nat) (w' : World) (cnt' : Nat), R x -> S x -> UOk x -> RM w' b r S (fun y => R y /\ y ≠ x) cnt' -> cnt' < cnt -> w.grownBy w' (some r) -> w'.heap.size = w.heap.size ->
   (Instr.entry (.pointer (some ⟨r, 0, none⟩))).run Tryz.prog w' = .ok (.tuple #[.int .u64 (x : Int), .bool true]) w' -> wpList Tryz.prog ops Q rest (a.put o.dst (.tuple #[.bool true, .int .u64 (x : Int), .bool true])) w') :
  wpList Tryz.prog ops Q (o :: rest) a w := by
 obtain ⟨L, D, left, h1, hR, e, hs, hl, hh⟩ := h
 refine wpList_next_ranges w hg it hop 46 lawU trueElem (Value.int .u64) Value.bool (fun key kl hkey => by obtain ⟨x, rfl, _⟩ := Maps.keyOf_int_inv Tryz.underlying46 hkey; exact ⟨x, rfl⟩) (fun v y hv => by obtain ⟨c, rfl, _⟩ := trueElem_inv hv; exact ⟨c, rfl⟩) b r L.length D left cnt hit h1 ?_ ?_
 ·intro _ h0
  refine hDone fun x hx => ?_
  have := (hl x (RepU.ok' hR ((e x).2 (hs x hx)))).2 hx
  rw [h0] at this; cases this
 ·intro x c kl y w' cnt' hkey hlk hv hat hrg hlt hgr hsz hen
  obtain ⟨n, hn, ek⟩ := RepU.all' hR (hh kl hlk)
  obtain ⟨x', ex, ex2, _⟩ := Maps.keyOf_int_inv Tryz.underlying46 hkey
  cases ex
  have exn : x = (n : Int) := by rw [ek] at ex2; unfold uLit at ex2; injection ex2 with _ h; exact h.symm
  subst exn
  have hok := RepU.ok' hR hn
  obtain ⟨c', ec, ey⟩ := trueElem_inv hv
  cases ec
  have hc : c = true := by
   have h2 := hR.at' (n, ()) (List.mem_map_of_mem hn) (.lit (.bool false))
   have h3 := hat (.lit (.bool false))
   rw [ek, ey] at h3
   have h4 := h2.symm.trans h3
   injection h4 with h5; injection h5 with h6; exact h6.symm
  subst hc
  refine hMore n w' cnt' ((hl n hok).1 (ek ▸ hlk)) ((e n).1 hn) hok ⟨L, D, _, hrg, hR, e, fun y hy => hs y hy.1, fun y hy => ?_, fun k hk => ?_⟩ hlt hgr hsz hen
  ·rw [ek, Bool.and_eq_true, hl y hy]
   have : (!(uLit y).sameKey (uLit n)) = true ↔ y ≠ n := by
    unfold uLit
    simp [Lit.sameKey]
    omega
   rw [this]
  ·rw [Bool.and_eq_true] at hk
   exact hh k hk.1
end
end Go.Proofs.YtbklgjmkdhinpaaGreatDoor.Fm
namespace Go.Proofs.YtbklgjmkdhinpaaGreatDoor.Fm
open Go.RowKit Go.Maps Go.Proofs.YtbklgjmkdhinpaaGreatDoor.Bd
def subB (y x : Nat) : Bool := (bits .andNot .u64 (y : Int) (x : Int)) == 0
theorem small_bit {x k : Nat} (hx : x < 64) (hk : 6 <= k) : x.testBit k = false := Nat.testBit_lt_two_pow (Nat.lt_of_lt_of_le hx (Nat.pow_le_pow_right (n := 2) (by omega) hk))
theorem subB_iff {y x : Nat} (hy : y < 64) (hx : x < 64) : subB y x = true ↔ Sub y x := by
 unfold subB
 rw [u64_andNot_nat y x (by omega) (by omega), show 18446744073709551615 - x = 2 ^ 64 - (x + 1) by omega]
 have e : ((((y &&& (2 ^ 64 - (x + 1)) : Nat) : Int) == 0) = true) ↔ (y &&& (2 ^ 64 - (x + 1))) = 0 := by
  rw [beq_iff_eq]; omega
 rw [e]
 have bit : ∀ i, (y &&& (2 ^ 64 - (x + 1))).testBit i = (y.testBit i && (decide (i < 64) && !x.testBit i)) := fun i => by
  rw [Nat.testBit_and, Nat.testBit_two_pow_sub_succ (by omega)]
 constructor
 ·intro h i hi
  have := bit i
  rw [h, Nat.zero_testBit, hi] at this
  by_cases h6 : i < 64
  ·simpa [h6] using this
  ·rw [small_bit hy (by omega)] at hi; cases hi
 ·intro h
  apply Nat.eq_of_testBit_eq; intro i
  rw [bit, Nat.zero_testBit]
  by_cases hi : y.testBit i = true
  ·rw [h i hi]; simp
  ·simp [hi]
theorem part_any (y x : Nat) (w : World) : Calls Tryz.prog 54 #[.int .u64 (y : Int), .int .u64 (x : Int)] w fun e w' => e = .returned (.bool (subB y x)) /\ w = w' := by
 unfold subB
 go_enter Tryz.func54, Tryz.ntmps54
 go_wp2
 go_ret
 exact ⟨rfl, rfl⟩
theorem wp_range_fam' (w : World) {ops : Array Oper} {rest : List Oper} {o : Oper} {a : Act} {Q : Exit -> Act -> World -> Prop} (hg : o.guard = none) (m : Operand) (hop : o.op = Op.range 30 m) (b r : Nat) (hr : w.heap.size = r) (S : Nat -> Prop) (hm : a.eval m = .map (some b)) (h : FM w b S)
  (hK : ∀ w' cnt, RM w' b r S S cnt -> w.grownBy w' none -> w'.heap.size = r + 1 -> wpList Tryz.prog ops Q rest (a.put o.dst (.pointer (some ⟨r, 0, none⟩))) w') :
  wpList Tryz.prog ops Q (o :: rest) a w := by
 subst hr
 exact wp_range_fam w hg m hop b S hm h hK
def leastP (S : Nat -> Prop) (x : Nat) : Prop := S x /\ ∀ y, S y -> Sub y x -> y = x
theorem grown_below {n r : Nat} {w w' : World} (h : w.grownBy w' (some r)) (hr : n <= r) (hn : n <= w.heap.size) : Below n w w' := (Kept.of_grown (S := fun j => j = r) h (fun i e => by cases e; rfl)).below hn (fun i hi => by omega)
theorem grown_none {n : Nat} {w w' : World} (h : w.grownBy w' none) (hn : n <= w.heap.size) : Below n w w' := (Kept.of_grown (S := fun _ => False) h (fun i e => by cases e)).below hn (fun i hi => hi.elim)
section
variable {S : Nat -> Prop}
def LOut (w : World) (b g r : Nat) (S : Nat -> Prop) (wq : World) : Prop := ∃ R cnt, RM wq b r S R cnt /\ FM wq g (fun y => leastP S y /\ ¬ R y) /\ Below w.heap.size w wq
def LIn (w : World) (b g r r2 x : Nat) (S R : Nat -> Prop) (cnt : Nat) (v : Value) (wq : World) : Prop := ∃ (L : Bool) (R2 : Nat -> Prop) (cnt2 : Nat), v = .bool L /\ RM wq b r2 S R2 cnt2 /\ (L = true ↔ ∀ y, S y -> ¬ R2 y -> Sub y x -> y = x) /\ RM wq b r S R cnt /\ FM wq g (fun y => leastP S y /\ (¬ R y /\ y ≠ x)) /\ Below w.heap.size w wq
theorem lin_step {R2 : Nat -> Prop} {x y : Nat} {L : Bool} (hL : L = true ↔ ∀ y, S y -> ¬ R2 y -> Sub y x -> y = x) (hS : S y) (hR : R2 y) (B : Bool) (hB : B = true ↔ (Sub y x -> y = x)) : ((L && B) = true ↔ ∀ z, S z -> ¬ (R2 z /\ z ≠ y) -> Sub z x -> z = x) := by
 rw [Bool.and_eq_true, hL, hB]
 constructor
 ·rintro ⟨h1, h2⟩ z hz hn hs
  by_cases e : z = y
  ·subst e; exact h2 hs
  ·exact h1 z hz (fun h => hn ⟨h, e⟩) hs
 ·intro h
  exact ⟨fun z hz hn hs => h z hz (fun k => hn k.1) hs, fun hs => h y hS (fun k => k.2 rfl) hs⟩
theorem rleast_any (w : World) (b : Nat) (h : FM w b S) (hS : ∀ x, S x -> x < 64) :
  Calls Tryz.prog 55 #[.map (some b)] w fun e w' => ∃ g, e = .returned (.map (some g)) /\ FM w' g (leastP S) /\ w.heap.size <= g /\ Below w.heap.size w w' := by
 have hbl := h.lt
 have hbn := below_new w (.map #[] 0)
 have h1 := h.below hbn
 have hg0 := FM.made w
 have hs1 : (w.alloc (.map #[] 0)).heap.size = w.heap.size + 1 := by simp
 have hmm := @run_makeMap Tryz.prog
 have HS := Lib.hid hS
 clear h hS
 go_enter Tryz.func55, Tryz.ntmps55
 go_wp2_with (at_range; refine wp_range_fam' _ rfl _ rfl b (w.heap.size + 1) hs1 S rfl h1 ?_; intro w2 cnt hrm hg2 hs2)
 try go_frame
 have hstart : LOut w b w.heap.size (w.heap.size + 1) S w2 := ⟨S, cnt, hrm, (hg0.grown hg2 (by simp)).congr (fun x => ⟨fun h => h.elim, fun h => h.2 h.1.1⟩), hbn.trans (grown_none hg2 (by omega))⟩
 have HST := Lib.hid hstart
 clear hstart hrm hg2 hs2 hg0 h1 hbn hmm hs1
 go_loopw [4, 5, 6] (fun _ _ _ wq => LOut w b w.heap.size (w.heap.size + 1) S wq) (fun _ _ _ wq => wq.rangeLeft b (w.heap.size + 1))
 case atStart => exact HST.out
 case round =>
  obtain ⟨w0, hw0⟩ : ∃ w0, w0 = wr := ⟨_, rfl⟩
  subst hw0
  obtain ⟨R, cnt, hrm, hfm, hb2⟩ := hrel
  have HFM := Lib.hid hfm
  have HB2 := Lib.hid hb2
  have HRM := Lib.hid hrm
  clear HST hfm hb2
  go_wp2_with (at_next; refine wp_next_fam _ rfl _ rfl b (w.heap.size + 1) S R cnt rfl hrm ?_ ?_)
  ·intro hall
   have HALL := Lib.hid hall
   clear hall hrm
   go_wp2
   go_ret
   exact ⟨w.heap.size, rfl, HFM.out.congr (fun x => ⟨fun h => h.1, fun h => ⟨h, HALL.out x⟩⟩), Nat.le_refl _, HB2.out⟩
  ·intro x w5 cnt' hRx hSx hxo hrm' hlt hg5 hs5 hen
   have hk5 := grown_below hg5 (n := w.heap.size) (by omega) HB2.out.size
   have hb5 := HB2.out.trans hk5
   have hfm5 := (HFM.out.grown hg5 (by simp)).congr (S' := fun y => leastP S y /\ (¬ (R y /\ y ≠ x) /\ y ≠ x)) (fun y => ⟨fun h => ⟨h.1, fun k => h.2 k.1, fun e => h.2 (e ▸ hRx)⟩, fun h => ⟨h.1, fun k => h.2.1 ⟨k, h.2.2⟩⟩⟩)
   have hx64 := HS.out x hSx
   have hf5 := hrm'.fm
   have HLT : Hid (cnt' < w0.rangeLeft b (w.heap.size + 1)) := by rw [HRM.out.left_eq]; exact hlt
   have HRM' := Lib.hid hrm'
   have HFM5 := Lib.hid hfm5
   have HB5 := Lib.hid hb5
   have r5 := hb5.size
   have r6 := hrm'.lt
   have HRX := Lib.hid hRx
   have HSX := Lib.hid hSx
   obtain ⟨r2, hr2⟩ : ∃ r2, w5.heap.size = r2 := ⟨_, rfl⟩
   clear hk5 hb5 hfm5 hrm' hg5 hs5 hrm hlt HFM HB2 HRM hRx hSx
   go_wp2_with (at_range; refine wp_range_fam' _ rfl _ rfl b r2 hr2 S rfl hf5 ?_; intro w6 cnt6 hrm6 hg6 hs6)
   try go_frame
   have hin0 : LIn w b w.heap.size (w.heap.size + 1) r2 x S (fun y => R y /\ y ≠ x) cnt' (.bool true) w6 := ⟨true, S, cnt6, rfl, hrm6, ⟨fun _ y h1 h2 => (h2 h1).elim, fun _ => rfl⟩, HRM'.out.grown hg6 (by simp) (by simp), HFM5.out.grown hg6 (by simp), HB5.out.trans (grown_none hg6 r5)⟩
   have HIN := Lib.hid hin0
   clear hin0 hrm6 hg6 hs6 hf5 HRM' HFM5 HB5
   go_loopw [5, 6] (fun v _ wq => LIn w b w.heap.size (w.heap.size + 1) r2 x S (fun y => R y /\ y ≠ x) cnt' v wq) (fun _ _ wq => wq.rangeLeft b r2)
   case atStart => exact HIN.out
   case round =>
    obtain ⟨L, R2, cnt2, rfl, hrm2, hL, hrm1, hfm1, hb1⟩ := hrel
    have HRM1 := Lib.hid hrm1
    have HFM1 := Lib.hid hfm1
    have HB1 := Lib.hid hb1
    have HL := Lib.hid hL
    have HRM2 := Lib.hid hrm2
    clear HIN hL hrm1 hfm1 hb1
    go_wp2_with (at_next; refine wp_next_fam _ rfl _ rfl b r2 S R2 cnt2 rfl hrm2 ?_ ?_)
    ·intro hall
     have hL2 : L = true ↔ leastP S x := HL.out.trans ⟨fun h => ⟨HSX.out, fun y hy => h y hy (hall y)⟩, fun h y hy _ => h.2 y hy⟩
     have HL2 := Lib.hid hL2
     clear hall hrm2 hL2 HL HRM2
     cases L with
     | false =>
      have hm : wr.rangeLeft b (w.heap.size + 1) < w0.rangeLeft b (w.heap.size + 1) := by rw [HRM1.out.left_eq]; exact HLT.out
      have HM := Lib.hid hm
      have hrel : LOut w b w.heap.size (w.heap.size + 1) S wr := ⟨_, _, HRM1.out, HFM1.out.congr (fun y => ⟨fun h => ⟨h.1, h.2.1⟩, fun h => ⟨h.1, h.2, fun e => by subst e; exact absurd (HL2.out.2 h.1) (by decide)⟩⟩), HB1.out⟩
      have HREL := Lib.hid hrel
      clear hm hrel HRM1 HFM1 HB1 HL2
      go_wp2
      go_roundw
      case rel => exact HREL.out
      case measure => exact HM.out
     | true =>
      obtain ⟨w8, hput, hfm8, hg8⟩ := HFM1.out.put (fun y hy => by have := HS.out y hy.1.1; omega) (x := x) (show UOk x by unfold UOk; omega)
      have hrm8 := HRM1.out.grown hg8 (by simp; omega) (by simp)
      have hm : w8.rangeLeft b (w.heap.size + 1) < w0.rangeLeft b (w.heap.size + 1) := by rw [hrm8.left_eq]; exact HLT.out
      have HM := Lib.hid hm
      have hb8 := HB1.out.trans (grown_below hg8 (Nat.le_refl _) HB1.out.size)
      have hrel : LOut w b w.heap.size (w.heap.size + 1) S w8 := ⟨_, _, hrm8, hfm8.congr (fun y => by
       constructor
       ·rintro (h | rfl)
        ·exact ⟨h.1, h.2.1⟩
        ·exact ⟨HL2.out.1 rfl, fun k => k.2 rfl⟩
       ·intro h
        by_cases e : y = x
        ·exact .inr e
        ·exact .inl ⟨h.1, h.2, e⟩), hb8⟩
      have HREL := Lib.hid hrel
      clear hm hrel HRM1 HFM1 HB1 HL2 hfm8 hg8 hrm8 hb8
      go_wp2
      go_roundw
      case rel => exact HREL.out
      case measure => exact HM.out
    ·intro y w7 cnt7 hRy hSy hyo hrm7 hlt7 hg7 hs7 hen
     have hy64 := HS.out y hSy
     have hne1 : w.heap.size + 1 ≠ r2 := by omega
     have hne2 : w.heap.size ≠ r2 := by omega
     have hrm1' := HRM1.out.grown hg7 (by simp; omega) (by simp; omega)
     have hfm1' := HFM1.out.grown hg7 (by simp; omega)
     have hb1' := HB1.out.trans (grown_below hg7 (by omega) HB1.out.size)
     have HLT7 : Hid (w7.rangeLeft b r2 < wr.rangeLeft b r2) := by rw [HRM2.out.left_eq, hrm7.left_eq]; exact hlt7
     have HFIN : Hid (∀ B : Bool, (B = true ↔ (Sub y x -> y = x)) -> LIn w b w.heap.size (w.heap.size + 1) r2 x S (fun y => R y /\ y ≠ x) cnt' (.bool (L && B)) w7) := fun B hB => ⟨L && B, _, cnt7, rfl, hrm7, lin_step HL.out hSy hRy B hB, hrm1', hfm1', hb1'⟩
     have HP := Lib.hid (part_any y x w7)
     have hsb := subB_iff hy64 hx64
     clear hRy hSy hyo hrm7 hlt7 hg7 hs7 hrm1' hfm1' hb1' HL HRM1 HFM1 HB1 HRM2 hrm2 hne1 hne2
     cases L with
     | false =>
      clear hsb HP
      obtain ⟨B, hB⟩ : ∃ B : Bool, B = true ↔ (Sub y x -> y = x) := ⟨@decide _ (Classical.propDecidable _), @decide_eq_true_iff _ (Classical.propDecidable _)⟩
      have HF2 := Lib.hid (HFIN.out B hB)
      clear HFIN hB
      go_wp2
      go_roundw
      case rel => exact HF2.out
      case measure => exact HLT7.out
     | true =>
      by_cases e : x = y
      ·subst e
       have HF2 := Lib.hid (HFIN.out true ⟨fun _ _ => rfl, fun _ => rfl⟩)
       clear HFIN hsb HP
       go_wp2
       go_roundw
       case rel => exact HF2.out
       case measure => exact HLT7.out
      ·have eb : (((x : Int)) == ((y : Int))) = false := by rw [beq_eq_false_iff_ne]; omega
       have HF2 := Lib.hid (HFIN.out (!subB y x) (by
        rw [Bool.not_eq_true']
        constructor
        ·intro h hs; rw [hsb.2 hs] at h; cases h
        ·intro h
         cases hc : subB y x with
         | false => rfl
         | true => exact absurd (h (hsb.1 hc)).symm e))
       clear HFIN hsb
       generalize subB y x = B at *
       go_wp2_with fail
       refine HP.out.mono ?_
       rintro e' w9 ⟨rfl, rfl⟩
       go_wp2
       go_roundw
       case rel => exact HF2.out
       case measure => exact HLT7.out
end
end Go.Proofs.YtbklgjmkdhinpaaGreatDoor.Fm
