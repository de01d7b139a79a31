/- The operations, by what is true of what they make. -/
import Derived.Test.YtfodcmcmbjopaabDoorBdFunW
import Derived.Test.YtfodcmcmbjopaabDoorBdHolds
namespace Go.Proofs.YtfodcmcmbjopaabDoor
open Go.RowKit Go.Maps

/-- A handle is there, and is true of just this. -/
def Is (ns : List Nd) (h : Int) (g : Fn') : Prop := hasB ns h = true ∧ ∀ f, sem ns h f = g f

/-- An operation made a function. -/
def OpIs (B s b : Nat) (O : Nat → Prop) (vars : Nat) (room : Int) (ns : List Nd) (g : Fn') (w : World) (e : Ending) (w' : World) : Prop :=
  ∃ (h : Int) (ns' : List Nd) (O' : Nat → Prop), e = .returned (.tuple #[.int .i64 h, .nilIface]) ∧ SpaceAt B w' s b O' vars room ns' ∧ Moves O O' w w' ∧ Good vars ns' ∧ Ext ns ns' ∧ Is ns' h g ∧ ns'.length + 1 ≤ ns.length + 2 ^ vars

section
variable {B s b : Nat} {O : Nat → Prop} {vars : Nat} {room : Int} {ns : List Nd} {w w' : World}

theorem Is.ext {ns' : List Nd} {h : Int} {g : Fn'} (i : Is ns h g) (hr : Ranked ns) (he : Ext ns ns') : Is ns' h g := ⟨he.has h i.1, fun f => by rw [sem_ext hr he i.1]; exact i.2 f⟩
theorem Is.same {h k : Int} {g g' : Fn'} (hg : Good vars ns) (i : Is ns h g) (j : Is ns k g') (e : ∀ f, g f = g' f) : h = k := same_handle hg i.1 j.1 (fun f => by rw [i.2 f, j.2 f, e f])

theorem op_is {F : FuncId} {args : Array Value} {r : List Nd × Int} {g g' : Fn'} (h : Calls Tryd.prog F args w (OpOut B s b O vars room r w)) (hr : OpR vars ns r g) (e : ∀ f, g f = g' f) : Calls Tryd.prog F args w (OpIs B s b O vars room ns g' w) :=
  h.mono fun _ _ ⟨he, O', hS, hM⟩ => ⟨r.2, r.1, O', he, hS, hM, hr.good, hr.ext, ⟨hr.has, fun f => by rw [hr.sem f, e f]⟩, hr.len⟩

theorem room_len (hR : Room B w vars room ns) : ns.length + 2 ^ vars ≤ 900000 := by have := hR.l; have := hR.r; omega

variable (h : SpaceAt B w s b O vars room ns) (hg : Good vars ns) (hR : Room B w vars room ns)
include h hg hR

theorem lit_is {v : Int} (is : Bool) (hv0 : 0 ≤ v) (hv : v < (vars : Int)) : Calls Tryd.prog 15 #[.pointer (some ⟨s, 0, none⟩), .int .i64 v, .bool is] w (OpIs B s b O vars room ns (fun f => f v.toNat == is) w) :=
  op_is (lit_op h hR v is hv0 hv) (lit_ok hg is hv0 hv (by have := hR.v; omega) (room_len hR)) (fun _ => rfl)
theorem ite_is {x y z : Int} {p q r : Fn'} (i : Is ns x p) (j : Is ns y q) (k : Is ns z r) : Calls Tryd.prog 30 #[.pointer (some ⟨s, 0, none⟩), .int .i64 x, .int .i64 y, .int .i64 z] w (OpIs B s b O vars room ns (fun f => if p f = true then q f else r f) w) :=
  op_is (ite_op h hg hR x y z i.1 j.1 k.1) (ask_ok' true hg ⟨i.1, j.1, k.1⟩ (room_len hR)) (fun f => by simp only [opS, if_true, i.2 f, j.2 f, k.2 f])
theorem and_is {x y : Int} {p q : Fn'} (i : Is ns x p) (j : Is ns y q) : Calls Tryd.prog 27 #[.pointer (some ⟨s, 0, none⟩), .int .i64 x, .int .i64 y] w (OpIs B s b O vars room ns (fun f => p f && q f) w) :=
  op_is (and_op h hg hR x y i.1 j.1) (ask_ok' true hg ⟨i.1, j.1, has_end0 ns⟩ (room_len hR)) (fun f => by simp only [opS, if_true, i.2 f, j.2 f, sem_false]; cases p f <;> simp)
theorem or_is {x y : Int} {p q : Fn'} (i : Is ns x p) (j : Is ns y q) : Calls Tryd.prog 28 #[.pointer (some ⟨s, 0, none⟩), .int .i64 x, .int .i64 y] w (OpIs B s b O vars room ns (fun f => p f || q f) w) :=
  op_is (or_op h hg hR x y i.1 j.1) (ask_ok' true hg ⟨i.1, has_end1 ns, j.1⟩ (room_len hR)) (fun f => by simp only [opS, if_true, i.2 f, j.2 f, sem_true]; cases p f <;> simp)
theorem not_is {x : Int} {p : Fn'} (i : Is ns x p) : Calls Tryd.prog 26 #[.pointer (some ⟨s, 0, none⟩), .int .i64 x] w (OpIs B s b O vars room ns (fun f => !(p f)) w) :=
  op_is (not_op h hg hR x i.1) (ask_ok' true hg ⟨i.1, has_end0 ns, has_end1 ns⟩ (room_len hR)) (fun f => by simp only [opS, if_true, i.2 f, sem_true, sem_false]; cases p f <;> rfl)
theorem xor_is {x y : Int} {p q : Fn'} (i : Is ns x p) (j : Is ns y q) : Calls Tryd.prog 29 #[.pointer (some ⟨s, 0, none⟩), .int .i64 x, .int .i64 y] w (OpIs B s b O vars room ns (fun f => p f != q f) w) :=
  op_is (xor_op h hg hR x y i.1 j.1) (ask_ok' false hg ⟨i.1, j.1, has_end0 ns⟩ (room_len hR)) (fun f => by simp only [opS, Bool.false_eq_true, if_false, i.2 f, j.2 f])
theorem set_is {x v : Int} {p : Fn'} (i : Is ns x p) (is : Bool) (hv0 : 0 ≤ v) (hv : v < (vars : Int)) : Calls Tryd.prog 31 #[.pointer (some ⟨s, 0, none⟩), .int .i64 x, .int .i64 v, .bool is] w (OpIs B s b O vars room ns (fun f => p (turn f v.toNat is)) w) :=
  op_is (set_op h hg hR x is i.1 hv0 hv) (without_ok (setJ_ok vars v is) trivial hg i.1 hv0 (by have := hR.v; omega) (room_len hR)) (fun f => by unfold quant; rw [i.2, i.2]; cases is <;> rfl)
theorem some_is {x v : Int} {p : Fn'} (i : Is ns x p) (hv0 : 0 ≤ v) (hv : v < (vars : Int)) : Calls Tryd.prog 32 #[.pointer (some ⟨s, 0, none⟩), .int .i64 x, .int .i64 v] w (OpIs B s b O vars room ns (fun f => p (turn f v.toNat false) || p (turn f v.toNat true)) w) :=
  op_is (some_op h hg hR x i.1 hv0 hv) (without_ok (orJ_ok hv0 (by have := hR.v; omega)) (memo_nil true ns) hg i.1 hv0 (by have := hR.v; omega) (room_len hR)) (fun f => by unfold quant; rw [i.2, i.2])
theorem each_is {x v : Int} {p : Fn'} (i : Is ns x p) (hv0 : 0 ≤ v) (hv : v < (vars : Int)) : Calls Tryd.prog 33 #[.pointer (some ⟨s, 0, none⟩), .int .i64 x, .int .i64 v] w (OpIs B s b O vars room ns (fun f => p (turn f v.toNat false) && p (turn f v.toNat true)) w) :=
  op_is (each_op h hg hR x i.1 hv0 hv) (without_ok (andJ_ok hv0 (by have := hR.v; omega)) (memo_nil true ns) hg i.1 hv0 (by have := hR.v; omega) (room_len hR)) (fun f => by unfold quant; rw [i.2, i.2])
end
end Go.Proofs.YtfodcmcmbjopaabDoor
