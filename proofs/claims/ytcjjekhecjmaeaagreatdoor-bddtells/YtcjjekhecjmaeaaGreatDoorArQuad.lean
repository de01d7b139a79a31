/- Four ints. -/
import Derived.Test.YtcjjekhecjmaeaaGreatDoorBdNode
import Derived.WalkSmall
import Derived.Test.YtcjjekhecjmaeaaGreatDoorBdJoin
import Derived.Test.YtcjjekhecjmaeaaGreatDoorArTaken
import Derived.Test.YtcjjekhecjmaeaaGreatDoorArBase
namespace Go.Proofs.YtcjjekhecjmaeaaGreatDoor
section
open Go.RowKit Go.Maps
def bitsF (n : Nat) : Nat -> Bool := fun i => n.testBit i
end
section
open Go.RowKit Go.Maps
structure OpR (vars : Nat) (ns : List Nd) (r : List Nd × Int) (g : (Nat -> Bool) -> Bool) : Prop where
 good : Good vars r.1
 ext : Ext ns r.1
 has : hasB r.1 r.2 = true
 sem : ∀ f, sem r.1 r.2 f = g f
 len : r.1.length + 1 <= ns.length + 2 ^ vars
def askF (op : Bool) (ns : List Nd) (k : Nd) : List Nd × Int := ((makesF 24 op ns [] k).1, (makesF 24 op ns [] k).2.2)
def litF (ns : List Nd) (v : Int) (is : Bool) : List Nd × Int := if is = true then nodeF ns v 0 1 else nodeF ns v 1 0
def setJ (is : Bool) : Join := fun ns m l h => (ns, m, if is = true then h else l)
def orJ : Join := fun ns m l h => makesF 24 true ns m ⟨l, 1, h⟩
def andJ : Join := fun ns m l h => makesF 24 true ns m ⟨l, h, 0⟩
def withoutF (J : Join) (ns : List Nd) (h v : Int) : List Nd × Int := ((joinedF 24 J ns [] [] h v).1, (joinedF 24 J ns [] [] h v).2.2.2)
section
variable {vars : Nat} {ns : List Nd}
theorem memo_nil (op : Bool) (ns : List Nd) : MemoOk op ns [] := ⟨fun p h => (by cases h), fun p h => (by cases h), fun p h => (by cases h), fun p h => (by cases h)⟩
theorem has_end0 (ns : List Nd) : hasB ns 0 = true := by simp [hasB]
theorem has_end1 (ns : List Nd) : hasB ns 1 = true := by simp [hasB]
theorem top_end0 (ns : List Nd) : topOf ns 0 = 24 := by simp [topOf]
theorem top_end1 (ns : List Nd) : topOf ns 1 = 24 := by simp [topOf]
theorem rk_le (hr : Ranked ns) (k : Nd) : 2 ^ rk vars ns k <= 2 ^ vars := Nat.pow_le_pow_right (by omega) (by unfold rk; have := (minT_bd hr k).1; omega)
theorem ask_ok' (op : Bool) (hg : Good vars ns) {k : Nd} (h3 : Has3 ns k) (hl : ns.length + 2 ^ vars <= 900000) : OpR vars ns (askF op ns k) (fun f => opS op (sem ns k.v f) (sem ns k.l f) (sem ns k.h f)) := by
 have hp := rk_le (vars := vars) hg.ranked k
 have h := makes_ok (op := op) 24 ns [] k hg (memo_nil op ns) h3 (by have := (minT_bd hg.ranked k).1; omega) (by omega)
 exact ⟨h.good, h.ext, h.has, h.sem, by have := h.len; show (makesF 24 op ns [] k).1.length + 1 <= _; omega⟩
theorem lit_ok (hg : Good vars ns) {v : Int} (is : Bool) (hv0 : 0 <= v) (hv : v < (vars : Int)) (hv24 : v < 24) (hl : ns.length + 2 ^ vars <= 900000) : OpR vars ns (litF ns v is) (fun f => f v.toNat == is) := by
 have h1 : 1 <= vars := by omega
 have h2 : 2 <= 2 ^ vars := by
  obtain ⟨q, rfl⟩ : ∃ q, vars = q + 1 := ⟨vars - 1, by omega⟩
  have := Nat.one_le_two_pow (n := q); rw [Nat.pow_succ]; omega
 unfold litF
 cases is with
 | true =>
  rw [if_pos rfl]
  have h := nodeF_ok hg (v := v) (l := 0) (h := 1) (by omega) hv0 hv24 hv (has_end0 ns) (has_end1 ns) (by rw [top_end0]; exact hv24) (by rw [top_end1]; exact hv24)
  exact ⟨h.good, h.ext, h.has, fun f => by rw [h.sem f, sem_true, sem_false]; cases f v.toNat <;> rfl, by have := h.len; omega⟩
 | false =>
  rw [if_neg (by simp)]
  have h := nodeF_ok hg (v := v) (l := 1) (h := 0) (by omega) hv0 hv24 hv (has_end1 ns) (has_end0 ns) (by rw [top_end1]; exact hv24) (by rw [top_end0]; exact hv24)
  exact ⟨h.good, h.ext, h.has, fun f => by rw [h.sem f, sem_true, sem_false]; cases f v.toNat <;> rfl, by have := h.len; omega⟩
theorem setJ_ok (vars : Nat) (v : Int) (is : Bool) : JoinOk vars v (fun a b => if is = true then b else a) (fun _ _ => True) (setJ is) := by
 refine ⟨fun x => by split <;> rfl, fun _ _ _ _ _ _ => trivial, fun ns m l h hg _ hl hh tl th _ => ?_⟩
 have := Nat.one_le_two_pow (n := ((vars : Int) - v - 1).toNat)
 unfold setJ
 refine ⟨hg, Ext.refl _, trivial, ?_, ?_, fun f => ?_, by show ns.length + 1 <= _; omega, by show m.length + 1 <= _; omega⟩
 ·show hasB ns (if is = true then h else l) = true
  split <;> assumption
 ·show v < topOf ns (if is = true then h else l)
  split <;> assumption
 ·show sem ns (if is = true then h else l) f = _
  split <;> rfl
theorem makesJ_ok {v : Int} (hv0 : 0 <= v) {ns : List Nd} {m : List (Nd × Int)} {k : Nd} (hg : Good vars ns) (hm : MemoOk true ns m) (h3 : Has3 ns k) (ht : v < minT ns k) (hl : ns.length + 2 ^ ((vars : Int) - v - 1).toNat <= 900000) :
  MakesR vars true ns m k (makesF 24 true ns m k) /\ 2 ^ rk vars ns k <= 2 ^ ((vars : Int) - v - 1).toNat := by
 have hp : 2 ^ rk vars ns k <= 2 ^ ((vars : Int) - v - 1).toNat := Nat.pow_le_pow_right (by omega) (by unfold rk; omega)
 exact ⟨makes_ok 24 ns m k hg hm h3 (by omega) (by omega), hp⟩
theorem orJ_ok {v : Int} (hv0 : 0 <= v) (hv : v < 24) : JoinOk vars v (fun a b => a || b) (MemoOk true) orJ := by
 refine ⟨fun x => by cases x <;> rfl, fun ns ns' m hr h he => h.ext hr he, fun ns m l h hg hm hl hh tl th hlen => ?_⟩
 have h3 : Has3 ns ⟨l, 1, h⟩ := ⟨hl, has_end1 ns, hh⟩
 obtain ⟨r, hp⟩ := makesJ_ok hv0 hg hm h3 (by have := minT_ge (ns := ns) (k := ⟨l, 1, h⟩) (x := v + 1) tl (by show _ <= topOf ns 1; rw [top_end1]; omega) th; omega) hlen
 have ht : v < minT ns ⟨l, 1, h⟩ := by have := minT_ge (ns := ns) (k := ⟨l, 1, h⟩) (x := v + 1) tl (by show _ <= topOf ns 1; rw [top_end1]; omega) th; omega
 have := r.len
 have := r.mlen
 have := r.top
 refine ⟨r.good, r.ext, r.memo, r.has, by show v < topOf (makesF 24 true ns m ⟨l, 1, h⟩).1 (makesF 24 true ns m ⟨l, 1, h⟩).2.2; omega, fun f => ?_, by show (makesF 24 true ns m ⟨l, 1, h⟩).1.length + 1 <= _; omega, by show (makesF 24 true ns m ⟨l, 1, h⟩).2.1.length + 1 <= _; omega⟩
 show sem (makesF 24 true ns m ⟨l, 1, h⟩).1 (makesF 24 true ns m ⟨l, 1, h⟩).2.2 f = _
 rw [r.sem f]; simp only [opS, if_true, sem_true]; cases sem ns l f <;> simp
theorem andJ_ok {v : Int} (hv0 : 0 <= v) (hv : v < 24) : JoinOk vars v (fun a b => a && b) (MemoOk true) andJ := by
 refine ⟨fun x => by cases x <;> rfl, fun ns ns' m hr h he => h.ext hr he, fun ns m l h hg hm hl hh tl th hlen => ?_⟩
 have h3 : Has3 ns ⟨l, h, 0⟩ := ⟨hl, hh, has_end0 ns⟩
 have ht : v < minT ns ⟨l, h, 0⟩ := by have := minT_ge (ns := ns) (k := ⟨l, h, 0⟩) (x := v + 1) tl th (by show _ <= topOf ns 0; rw [top_end0]; omega); omega
 obtain ⟨r, hp⟩ := makesJ_ok hv0 hg hm h3 ht hlen
 have := r.len
 have := r.mlen
 have := r.top
 refine ⟨r.good, r.ext, r.memo, r.has, by show v < topOf (makesF 24 true ns m ⟨l, h, 0⟩).1 (makesF 24 true ns m ⟨l, h, 0⟩).2.2; omega, fun f => ?_, by show (makesF 24 true ns m ⟨l, h, 0⟩).1.length + 1 <= _; omega, by show (makesF 24 true ns m ⟨l, h, 0⟩).2.1.length + 1 <= _; omega⟩
 show sem (makesF 24 true ns m ⟨l, h, 0⟩).1 (makesF 24 true ns m ⟨l, h, 0⟩).2.2 f = _
 rw [r.sem f]; simp only [opS, if_true, sem_false]; cases sem ns l f <;> simp
theorem without_ok {v : Int} {jf : Bool -> Bool -> Bool} {P : List Nd -> List (Nd × Int) -> Prop} {J : Join} (hJ : JoinOk vars v jf P J) (hP : P ns []) (hg : Good vars ns) {h : Int} (hh : hasB ns h = true) (hv0 : 0 <= v) (hv : v < 24) (hl : ns.length + 2 ^ vars <= 900000) : OpR vars ns (withoutF J ns h v) (fun f => quant jf ns h v.toNat f) := by
 have t0 := (topOf_le hg.ranked h).1
 have hp : 2 ^ ((vars : Int) - topOf ns h).toNat <= 2 ^ vars := Nat.pow_le_pow_right (by omega) (by omega)
 have r := joined_ok hJ hv0 hv 24 ns [] [] h hg hP ⟨fun p h => (by cases h), fun p h => (by cases h), fun p h => (by cases h), fun p h => (by cases h)⟩ hh (by omega) (by omega)
 exact ⟨r.good, r.ext, r.has, r.sem, by have := r.len; show (joinedF 24 J ns [] [] h v).1.length + 1 <= _; omega⟩
end
end
section
open Go.RowKit Go.Maps
def pickV (x : Int) (n : Nat) : Nat := ((x % 18446744073709551616).toNat) % n
theorem pickV_lt (x : Int) {n : Nat} (h : 0 < n) : pickV x n < n := Nat.mod_lt _ h
end
section
structure Quad where
 a : Int
 b : Int
 c : Int
 d : Int
 deriving Inhabited
end
end Go.Proofs.YtcjjekhecjmaeaaGreatDoor
