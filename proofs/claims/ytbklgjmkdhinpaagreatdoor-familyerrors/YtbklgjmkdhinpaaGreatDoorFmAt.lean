/- What lies at the least thing: calls of operations on what lies below. -/
import Derived.Test.YtbklgjmkdhinpaaGreatDoorFmSmall
set_option maxHeartbeats 2000000
set_option maxRecDepth 100000
namespace Go.Proofs.YtbklgjmkdhinpaaGreatDoor.Fm
open Go.RowKit Go.Maps Go.Proofs.YtbklgjmkdhinpaaGreatDoor.Bd
def knX (k : K) (a b : Int) : Int := (knownZ k a b).getD (if k = .least then a else 0)
def KnowsC (F : FuncId) (k : K) : Prop := ∀ (a b : Int) (W : World), Calls Tryz.prog F #[.int .i64 a, .int .i64 b] W fun e w' => e = .returned (.tuple #[.int .i64 (knX k a b), .bool (knownZ k a b).isSome]) /\ W = w'
theorem knX_some {k : K} {a b x : Int} (h : knownZ k a b = some x) : knX k a b = x /\ (knownZ k a b).isSome = true := by unfold knX; rw [h]; exact ⟨rfl, rfl⟩
theorem knX_none {k : K} {a b : Int} (h : knownZ k a b = none) : knX k a b = (if k = .least then a else 0) /\ (knownZ k a b).isSome = false := by unfold knX; rw [h]; exact ⟨rfl, rfl⟩
theorem knows_or : KnowsC 71 .or := by
 intro a b W
 by_cases c0 : a = b
 ·obtain ⟨k1, k2⟩ := knX_some (show knownZ .or a b = some a by simp only [knownZ]; (repeat' split) <;> first | rfl | (exfalso; omega) | (congr 1; omega))
  rw [k1, k2]
  have q0 : (a == b) = true := by simpa using c0
  clear k1 k2
  subst c0
  go_enter Tryz.func71, Tryz.ntmps71
  go_wp2
  go_ret2
  exact ⟨rfl, rfl⟩
 have q0 : (a == b) = false := by simpa using c0
 by_cases c1 : b = 0
 ·obtain ⟨k1, k2⟩ := knX_some (show knownZ .or a b = some a by simp only [knownZ]; (repeat' split) <;> first | rfl | (exfalso; omega) | (congr 1; omega))
  rw [k1, k2]
  have q1 : (b == 0) = true := by simpa using c1
  clear k1 k2
  subst c1
  go_enter Tryz.func71, Tryz.ntmps71
  go_wp2
  go_ret2
  exact ⟨rfl, rfl⟩
 have q1 : (b == 0) = false := by simpa using c1
 by_cases c2 : a = 0
 ·obtain ⟨k1, k2⟩ := knX_some (show knownZ .or a b = some b by simp only [knownZ]; (repeat' split) <;> first | rfl | (exfalso; omega) | (congr 1; omega))
  rw [k1, k2]
  have q2 : (a == 0) = true := by simpa using c2
  clear k1 k2
  subst c2
  go_enter Tryz.func71, Tryz.ntmps71
  go_wp2
  go_ret2
  exact ⟨rfl, rfl⟩
 have q2 : (a == 0) = false := by simpa using c2
 obtain ⟨k1, k2⟩ := knX_none (show knownZ .or a b = none by simp only [knownZ]; (repeat' split) <;> first | rfl | (exfalso; omega) | (congr 1; omega))
 rw [k1, k2]
 clear k1 k2
 rw [if_neg (by decide)]
 go_enter Tryz.func71, Tryz.ntmps71
 go_wp2
 go_ret2
 exact ⟨rfl, rfl⟩
theorem knows_and : KnowsC 73 .and := by
 intro a b W
 by_cases c0 : a = b
 ·obtain ⟨k1, k2⟩ := knX_some (show knownZ .and a b = some a by simp only [knownZ]; (repeat' split) <;> first | rfl | (exfalso; omega) | (congr 1; omega))
  rw [k1, k2]
  have q0 : (a == b) = true := by simpa using c0
  clear k1 k2
  subst c0
  go_enter Tryz.func73, Tryz.ntmps73
  go_wp2
  go_ret2
  exact ⟨rfl, rfl⟩
 have q0 : (a == b) = false := by simpa using c0
 by_cases c1 : a = 0
 ·obtain ⟨k1, k2⟩ := knX_some (show knownZ .and a b = some 0 by simp only [knownZ]; (repeat' split) <;> first | rfl | (exfalso; omega) | (congr 1; omega))
  rw [k1, k2]
  have q1 : (a == 0) = true := by simpa using c1
  clear k1 k2
  subst c1
  go_enter Tryz.func73, Tryz.ntmps73
  go_wp2
  go_ret2
  exact ⟨rfl, rfl⟩
 have q1 : (a == 0) = false := by simpa using c1
 by_cases c2 : b = 0
 ·obtain ⟨k1, k2⟩ := knX_some (show knownZ .and a b = some 0 by simp only [knownZ]; (repeat' split) <;> first | rfl | (exfalso; omega) | (congr 1; omega))
  rw [k1, k2]
  have q2 : (b == 0) = true := by simpa using c2
  clear k1 k2
  subst c2
  go_enter Tryz.func73, Tryz.ntmps73
  go_wp2
  go_ret2
  exact ⟨rfl, rfl⟩
 have q2 : (b == 0) = false := by simpa using c2
 obtain ⟨k1, k2⟩ := knX_none (show knownZ .and a b = none by simp only [knownZ]; (repeat' split) <;> first | rfl | (exfalso; omega) | (congr 1; omega))
 rw [k1, k2]
 clear k1 k2
 rw [if_neg (by decide)]
 go_enter Tryz.func73, Tryz.ntmps73
 go_wp2
 go_ret2
 exact ⟨rfl, rfl⟩
theorem knows_less : KnowsC 75 .less := by
 intro a b W
 by_cases c0 : a = b
 ·obtain ⟨k1, k2⟩ := knX_some (show knownZ .less a b = some 0 by simp only [knownZ]; (repeat' split) <;> first | rfl | (exfalso; omega) | (congr 1; omega))
  rw [k1, k2]
  have q0 : (a == b) = true := by simpa using c0
  clear k1 k2
  subst c0
  go_enter Tryz.func75, Tryz.ntmps75
  go_wp2
  go_ret2
  exact ⟨rfl, rfl⟩
 have q0 : (a == b) = false := by simpa using c0
 by_cases c1 : a = 0
 ·obtain ⟨k1, k2⟩ := knX_some (show knownZ .less a b = some 0 by simp only [knownZ]; (repeat' split) <;> first | rfl | (exfalso; omega) | (congr 1; omega))
  rw [k1, k2]
  have q1 : (a == 0) = true := by simpa using c1
  clear k1 k2
  subst c1
  go_enter Tryz.func75, Tryz.ntmps75
  go_wp2
  go_ret2
  exact ⟨rfl, rfl⟩
 have q1 : (a == 0) = false := by simpa using c1
 by_cases c2 : b = 0
 ·obtain ⟨k1, k2⟩ := knX_some (show knownZ .less a b = some a by simp only [knownZ]; (repeat' split) <;> first | rfl | (exfalso; omega) | (congr 1; omega))
  rw [k1, k2]
  have q2 : (b == 0) = true := by simpa using c2
  clear k1 k2
  subst c2
  go_enter Tryz.func75, Tryz.ntmps75
  go_wp2
  go_ret2
  exact ⟨rfl, rfl⟩
 have q2 : (b == 0) = false := by simpa using c2
 obtain ⟨k1, k2⟩ := knX_none (show knownZ .less a b = none by simp only [knownZ]; (repeat' split) <;> first | rfl | (exfalso; omega) | (congr 1; omega))
 rw [k1, k2]
 clear k1 k2
 rw [if_neg (by decide)]
 go_enter Tryz.func75, Tryz.ntmps75
 go_wp2
 go_ret2
 exact ⟨rfl, rfl⟩
theorem knows_join : KnowsC 77 .join := by
 intro a b W
 by_cases c0 : a = 0
 ·obtain ⟨k1, k2⟩ := knX_some (show knownZ .join a b = some a by simp only [knownZ]; (repeat' split) <;> first | rfl | (exfalso; omega) | (congr 1; omega))
  rw [k1, k2]
  have q0 : (a == 0) = true := by simpa using c0
  clear k1 k2
  subst c0
  go_enter Tryz.func77, Tryz.ntmps77
  go_wp2
  go_ret2
  exact ⟨rfl, rfl⟩
 have q0 : (a == 0) = false := by simpa using c0
 by_cases c1 : b = 1
 ·obtain ⟨k1, k2⟩ := knX_some (show knownZ .join a b = some a by simp only [knownZ]; (repeat' split) <;> first | rfl | (exfalso; omega) | (congr 1; omega))
  rw [k1, k2]
  have q1 : (b == 1) = true := by simpa using c1
  clear k1 k2
  subst c1
  go_enter Tryz.func77, Tryz.ntmps77
  go_wp2
  go_ret2
  exact ⟨rfl, rfl⟩
 have q1 : (b == 1) = false := by simpa using c1
 by_cases c2 : b = 0
 ·obtain ⟨k1, k2⟩ := knX_some (show knownZ .join a b = some b by simp only [knownZ]; (repeat' split) <;> first | rfl | (exfalso; omega) | (congr 1; omega))
  rw [k1, k2]
  have q2 : (b == 0) = true := by simpa using c2
  clear k1 k2
  subst c2
  go_enter Tryz.func77, Tryz.ntmps77
  go_wp2
  go_ret2
  exact ⟨rfl, rfl⟩
 have q2 : (b == 0) = false := by simpa using c2
 by_cases c3 : a = 1
 ·obtain ⟨k1, k2⟩ := knX_some (show knownZ .join a b = some b by simp only [knownZ]; (repeat' split) <;> first | rfl | (exfalso; omega) | (congr 1; omega))
  rw [k1, k2]
  have q3 : (a == 1) = true := by simpa using c3
  clear k1 k2
  subst c3
  go_enter Tryz.func77, Tryz.ntmps77
  go_wp2
  go_ret2
  exact ⟨rfl, rfl⟩
 have q3 : (a == 1) = false := by simpa using c3
 obtain ⟨k1, k2⟩ := knX_none (show knownZ .join a b = none by simp only [knownZ]; (repeat' split) <;> first | rfl | (exfalso; omega) | (congr 1; omega))
 rw [k1, k2]
 clear k1 k2
 rw [if_neg (by decide)]
 go_enter Tryz.func77, Tryz.ntmps77
 go_wp2
 go_ret2
 exact ⟨rfl, rfl⟩
theorem knows_without : KnowsC 79 .without := by
 intro a b W
 by_cases c0 : a = b
 ·obtain ⟨k1, k2⟩ := knX_some (show knownZ .without a b = some 0 by simp only [knownZ]; (repeat' split) <;> first | rfl | (exfalso; omega) | (congr 1; omega))
  rw [k1, k2]
  have q0 : (a == b) = true := by simpa using c0
  clear k1 k2
  subst c0
  go_enter Tryz.func79, Tryz.ntmps79
  go_wp2
  go_ret2
  exact ⟨rfl, rfl⟩
 have q0 : (a == b) = false := by simpa using c0
 by_cases c1 : a = 0
 ·obtain ⟨k1, k2⟩ := knX_some (show knownZ .without a b = some 0 by simp only [knownZ]; (repeat' split) <;> first | rfl | (exfalso; omega) | (congr 1; omega))
  rw [k1, k2]
  have q1 : (a == 0) = true := by simpa using c1
  clear k1 k2
  subst c1
  go_enter Tryz.func79, Tryz.ntmps79
  go_wp2
  go_ret2
  exact ⟨rfl, rfl⟩
 have q1 : (a == 0) = false := by simpa using c1
 by_cases c2 : b = 1
 ·obtain ⟨k1, k2⟩ := knX_some (show knownZ .without a b = some 0 by simp only [knownZ]; (repeat' split) <;> first | rfl | (exfalso; omega) | (congr 1; omega))
  rw [k1, k2]
  have q2 : (b == 1) = true := by simpa using c2
  clear k1 k2
  subst c2
  go_enter Tryz.func79, Tryz.ntmps79
  go_wp2
  go_ret2
  exact ⟨rfl, rfl⟩
 have q2 : (b == 1) = false := by simpa using c2
 by_cases c3 : b = 0
 ·obtain ⟨k1, k2⟩ := knX_some (show knownZ .without a b = some a by simp only [knownZ]; (repeat' split) <;> first | rfl | (exfalso; omega) | (congr 1; omega))
  rw [k1, k2]
  have q3 : (b == 0) = true := by simpa using c3
  clear k1 k2
  subst c3
  go_enter Tryz.func79, Tryz.ntmps79
  go_wp2
  go_ret2
  exact ⟨rfl, rfl⟩
 have q3 : (b == 0) = false := by simpa using c3
 obtain ⟨k1, k2⟩ := knX_none (show knownZ .without a b = none by simp only [knownZ]; (repeat' split) <;> first | rfl | (exfalso; omega) | (congr 1; omega))
 rw [k1, k2]
 clear k1 k2
 rw [if_neg (by decide)]
 go_enter Tryz.func79, Tryz.ntmps79
 go_wp2
 go_ret2
 exact ⟨rfl, rfl⟩
theorem knows_least : KnowsC 81 .least := by
 intro a b W
 by_cases c0 : a = 0
 ·obtain ⟨k1, k2⟩ := knX_some (show knownZ .least a b = some a by simp only [knownZ]; (repeat' split) <;> first | rfl | (exfalso; omega) | (congr 1; omega))
  rw [k1, k2]
  have q0 : (a == 0) = true := by simpa using c0
  clear k1 k2
  subst c0
  go_enter Tryz.func81, Tryz.ntmps81
  go_wp2
  go_ret2
  exact ⟨rfl, rfl⟩
 have q0 : (a == 0) = false := by simpa using c0
 by_cases c1 : a = 1
 ·obtain ⟨k1, k2⟩ := knX_some (show knownZ .least a b = some a by simp only [knownZ]; (repeat' split) <;> first | rfl | (exfalso; omega) | (congr 1; omega))
  rw [k1, k2]
  have q1 : (a == 1) = true := by simpa using c1
  clear k1 k2
  subst c1
  go_enter Tryz.func81, Tryz.ntmps81
  go_wp2
  go_ret2
  exact ⟨rfl, rfl⟩
 have q1 : (a == 1) = false := by simpa using c1
 obtain ⟨k1, k2⟩ := knX_none (show knownZ .least a b = none by simp only [knownZ]; (repeat' split) <;> first | rfl | (exfalso; omega) | (congr 1; omega))
 rw [k1, k2]
 clear k1 k2
 rw [if_pos rfl]
 go_enter Tryz.func81, Tryz.ntmps81
 go_wp2
 go_ret2
 exact ⟨rfl, rfl⟩
theorem knows_hits : KnowsC 83 .hits := by
 intro a b W
 by_cases c0 : a = 0
 ·obtain ⟨k1, k2⟩ := knX_some (show knownZ .hits a b = some 1 by simp only [knownZ]; (repeat' split) <;> first | rfl | (exfalso; omega) | (congr 1; omega))
  rw [k1, k2]
  have q0 : (a == 0) = true := by simpa using c0
  clear k1 k2
  subst c0
  go_enter Tryz.func83, Tryz.ntmps83
  go_wp2
  go_ret2
  exact ⟨rfl, rfl⟩
 have q0 : (a == 0) = false := by simpa using c0
 by_cases c1 : a = 1
 ·obtain ⟨k1, k2⟩ := knX_some (show knownZ .hits a b = some 0 by simp only [knownZ]; (repeat' split) <;> first | rfl | (exfalso; omega) | (congr 1; omega))
  rw [k1, k2]
  have q1 : (a == 1) = true := by simpa using c1
  clear k1 k2
  subst c1
  go_enter Tryz.func83, Tryz.ntmps83
  go_wp2
  go_ret2
  exact ⟨rfl, rfl⟩
 have q1 : (a == 1) = false := by simpa using c1
 obtain ⟨k1, k2⟩ := knX_none (show knownZ .hits a b = none by simp only [knownZ]; (repeat' split) <;> first | rfl | (exfalso; omega) | (congr 1; omega))
 rw [k1, k2]
 clear k1 k2
 rw [if_neg (by decide)]
 go_enter Tryz.func83, Tryz.ntmps83
 go_wp2
 go_ret2
 exact ⟨rfl, rfl⟩
end Go.Proofs.YtbklgjmkdhinpaaGreatDoor.Fm
namespace Go.Proofs.YtbklgjmkdhinpaaGreatDoor.Fm
open Go.RowKit Go.Maps Go.Proofs.YtbklgjmkdhinpaaGreatDoor.Bd
structure IsBase (c : Ctx) (F : FuncId) (k : K) (bw bk bd ba dm : Nat) (A : Value) : Prop where
 iw : (bw, .pointer (some ⟨c.wk, 0, none⟩)) ∈ c.boxes
 ik : (bk, .func (.func F) #[] #[]) ∈ c.boxes
 id : (bd, .map (some dm)) ∈ c.boxes
 im : (dm, k) ∈ c.memos
 ia : (ba, A) ∈ c.boxes
 enters : ∀ (args : Array Value) (w : World), (callFunc F args).run Tryz.prog w = .ok (.enter F args) w
 knows : KnowsC F k
section
variable {B : Nat} {c : Ctx} {O : Nat -> Prop} {vars : Nat} {ns : List Nd} {w : World} {k : K} {F : FuncId} {bw bk bd ba dm : Nat} {A : Value} {a b : Int}
end
section
variable {B : Nat} {c : Ctx} {O O4 : Nat -> Prop} {vars : Nat} {ns ns4 : List Nd} {w w4 : World} {k : K} {a b p q : Int}
end
end Go.Proofs.YtbklgjmkdhinpaaGreatDoor.Fm
namespace Go.Proofs.YtbklgjmkdhinpaaGreatDoor.Fm
open Go.RowKit Go.Maps Go.Proofs.YtbklgjmkdhinpaaGreatDoor.Bd
def Up (v : Int) (ns : List Nd) (h : Int) : Prop := hasB ns h = true /\ v < topOf ns h
theorem Up.ext {v : Int} {ns ns' : List Nd} {h : Int} (hu : Up v ns h) (he : Ext ns ns') : Up v ns' h := ⟨he.has _ hu.1, by rw [he.top _ hu.1]; exact hu.2⟩
structure Fr (c : Ctx) (O : Nat -> Prop) (W : World) (n : Nat) (a0 a1 b0 b1 : Int) : Prop where
 pa : Two W n a0 a1
 pb : Two W (n + 1) b0 b1
 pr : Two W (n + 2) 0 0
 o : ∀ i, n <= i -> i < n + 3 -> ¬ O i /\ ¬ Ms c i
 x : ∀ i, n <= i -> c.s ≠ i /\ c.wk ≠ i /\ ∀ p ∈ c.boxes, p.1 ≠ i
section
variable {c : Ctx} {O O' : Nat -> Prop} {W W' : World} {n : Nat} {a0 a1 b0 b1 : Int}
theorem Two.lt {x y : Int} (h : Two W n x y) : n < W.heap.size := (Array.getElem?_eq_some_iff.1 h).1
theorem Two.kept {x y : Int} {S : Nat -> Prop} (h : Two W n x y) (hk : Kept S W W') (hn : ¬ S n) : Two W' n x y := (hk.block n h.lt hn).trans h
theorem Fr.cells (h : Fr c O W n a0 a1 b0 b1) : W.cell? ⟨n, 0, none⟩ = some (.int .i64 a0) /\ W.cell? ⟨n, 1, none⟩ = some (.int .i64 a1) /\ W.cell? ⟨n + 1, 0, none⟩ = some (.int .i64 b0) /\ W.cell? ⟨n + 1, 1, none⟩ = some (.int .i64 b1) :=
 ⟨(two_put h.pa 0 0).1.1, (two_put h.pa 0 0).1.2.2.1, (two_put h.pb 0 0).1.1, (two_put h.pb 0 0).1.2.2.1⟩
theorem Fr.drew (h : Fr c O W n a0 a1 b0 b1) : Fr c O W.drew n a0 a1 b0 b1 := ⟨h.pa, h.pb, h.pr, h.o, h.x⟩
theorem Fr.put {B : Nat} {vars : Nat} {ns : List Nd} (h : Fr c O W n a0 a1 b0 b1) (hC : CtxAt B W c O vars ns) (p q : Int) :
  CtxAt B ((W.setCell ⟨n + 1 + 1, 0, none⟩ (.int .i64 p)).setCell ⟨n + 1 + 1, 1, none⟩ (.int .i64 q)) c O vars ns /\ Kept (fun j => j = n + 1 + 1) W ((W.setCell ⟨n + 1 + 1, 0, none⟩ (.int .i64 p)).setCell ⟨n + 1 + 1, 1, none⟩ (.int .i64 q)) /\
  ((W.setCell ⟨n + 1 + 1, 0, none⟩ (.int .i64 p)).setCell ⟨n + 1 + 1, 1, none⟩ (.int .i64 q)).cell? ⟨n, 0, none⟩ = some (.int .i64 a0) /\ ((W.setCell ⟨n + 1 + 1, 0, none⟩ (.int .i64 p)).setCell ⟨n + 1 + 1, 1, none⟩ (.int .i64 q)).cell? ⟨n, 1, none⟩ = some (.int .i64 a1) /\ ((W.setCell ⟨n + 1 + 1, 0, none⟩ (.int .i64 p)).setCell ⟨n + 1 + 1, 1, none⟩ (.int .i64 q)).cell? ⟨n + 1, 0, none⟩ = some (.int .i64 b0) /\ ((W.setCell ⟨n + 1 + 1, 0, none⟩ (.int .i64 p)).setCell ⟨n + 1 + 1, 1, none⟩ (.int .i64 q)).cell? ⟨n + 1, 1, none⟩ = some (.int .i64 b1) := by
 have hk : Kept (fun j => j = n + 1 + 1) W ((W.setCell ⟨n + 1 + 1, 0, none⟩ (.int .i64 p)).setCell ⟨n + 1 + 1, 1, none⟩ (.int .i64 q)) := (Kept.setCell (S := fun j => j = n + 1 + 1) W ⟨n + 1 + 1, 0, none⟩ _ rfl).trans (Kept.setCell (S := fun j => j = n + 1 + 1) _ ⟨n + 1 + 1, 1, none⟩ _ rfl)
 obtain ⟨s1, s2, s3, s4⟩ := h.cells
 have l2 := h.pb.lt
 have l1 := h.pa.lt
 refine ⟨hC.kept hk (fun k ho e => (h.o (n + 1 + 1) (by omega) (by omega)).1 (e ▸ ho)) (h.x _ (by omega)).1 (h.x _ (by omega)).2.1 (fun p hp e => (h.o (n + 1 + 1) (by omega) (by omega)).2 ⟨p, hp, e⟩) (fun p hp e => (h.x (n + 1 + 1) (by omega)).2.2 p hp e), hk, ?_, ?_, ?_, ?_⟩
 ·exact (hk.cell (a := ⟨n, 0, none⟩) l1 (by show ¬ n = n + 1 + 1; omega)).trans s1
 ·exact (hk.cell (a := ⟨n, 1, none⟩) l1 (by show ¬ n = n + 1 + 1; omega)).trans s2
 ·exact (hk.cell (a := ⟨n + 1, 0, none⟩) l2 (by show ¬ n + 1 = n + 1 + 1; omega)).trans s3
 ·exact (hk.cell (a := ⟨n + 1, 1, none⟩) l2 (by show ¬ n + 1 = n + 1 + 1; omega)).trans s4
end
section
variable {B : Nat} {c : Ctx} {O : Nat -> Prop} {vars : Nat} {ns : List Nd} {w : World} {bw bk bd ba bx : Nat} {v a0 a1 b0 b1 : Int}
end
end Go.Proofs.YtbklgjmkdhinpaaGreatDoor.Fm
