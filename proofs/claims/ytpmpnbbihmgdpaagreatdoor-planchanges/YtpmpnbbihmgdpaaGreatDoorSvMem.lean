/- Spans in memory. -/
import Derived.Test.YtpmpnbbihmgdpaaGreatDoorErErrs
import Derived.Test.YtpmpnbbihmgdpaaGreatDoorProg
import Derived.WalkKit
import Derived.WalkSpells
import Derived.WalkLawsBesides
import Derived.Deep.Cut
import Derived.Deep.DeepCutAuto
import Derived.Deep.RegionWith
import Derived.Deep.RegionHeld3
import Derived.Deep.AppendLies
import Derived.Lib.QuietBelow
import Derived.Lib.Hide
import Derived.Lib.MinMax
import Derived.BigQuiet
import Derived.PlainAid
set_option maxHeartbeats 4000000
set_option maxRecDepth 100000
namespace Go.Proofs.YtpmpnbbihmgdpaaGreatDoor
open Go.RowKit Go.Extern.Stop Go.Stop Go.Extern
namespace Errs
theorem methodKind (h : Value) (w : World) : (Go.method 509 303 (.agg #[h]) "Kind").run Tryz.prog w = .ok (288, h) w := by kernel_rfl
theorem methodElem (h : Value) (w : World) : (Go.method 509 303 (.agg #[h]) "Elem").run Tryz.prog w = .ok (303, .agg #[h]) w := by kernel_rfl
theorem methodImplements (h : Value) (w : World) : (Go.method 509 303 (.agg #[h]) "Implements").run Tryz.prog w = .ok (304, .agg #[h]) w := by kernel_rfl
theorem methodAssignableTo (h : Value) (w : World) : (Go.method 509 303 (.agg #[h]) "AssignableTo").run Tryz.prog w = .ok (301, .agg #[h]) w := by kernel_rfl
theorem as_hit (n : Int) (t : Addr) (old : Value) (w : World) (hg : w.cell? ⟨1, 0, none⟩ = some (.iface 303 (.agg #[.pointer (some ⟨12, 36, none⟩)]))) (ht0 : w.cell? t = some old) (hf0 : w.frozen? t = false) :
  Calls Tryz.prog 78 #[.iface 34 (.int .i64 n), .iface 157 (.pointer (some t))] w fun ev w' => ev = .returned (.bool true) /\ w' = ((((w.alloc (.cells #[.pointer (some t)] 157)).alloc (.cells #[.pointer (some ⟨12, 157, none⟩), .pointer (some ⟨w.heap.size, 0, none⟩), .int .u64 150] 235)).alloc (.cells #[.pointer (some ⟨12, 157, none⟩), .pointer (some ⟨w.heap.size, 0, none⟩), .int .u64 150] 235)).alloc (.cells #[.int .i64 n] 34)).setCell t (.int .i64 n) := by
 have h6 := @run_callFunc_extern Tryz.prog 135 _ (fun args => ReflectliteValue.unpack (args.getD 0 (.tuple #[]))) Tryz.func135 (by kernel_rfl) (by kernel_rfl) (by kernel_rfl) (by kernel_rfl)
 have h7 := @run_callFunc_extern Tryz.prog 136 _ (ReflectliteValue.methodAny (ReflectliteValue.valueError "reflectlite.Value.Type" 0) (fun t _ _ _ => ReflectliteType.toType t)) Tryz.func136 (by kernel_rfl) (by kernel_rfl) (by kernel_rfl) (by kernel_rfl)
 have h8 := @run_callFunc_extern Tryz.prog 137 _ (ReflectliteValue.method (ReflectliteValue.valueError "reflectlite.Value.IsNil" 0) ReflectliteValue.isNil) Tryz.func137 (by kernel_rfl) (by kernel_rfl) (by kernel_rfl) (by kernel_rfl)
 have h27 := @run_callFunc_extern Tryz.prog 288 _ (ReflectliteType.abiMethod fun t => do pure (.int .u8 (<- Rtype.kind t))) Tryz.func288 (by kernel_rfl) (by kernel_rfl) (by kernel_rfl) (by kernel_rfl)
 have h37 := @run_callFunc_extern Tryz.prog 303 _ (ReflectliteType.method ReflectliteType.elem) Tryz.func303 (by kernel_rfl) (by kernel_rfl) (by kernel_rfl) (by kernel_rfl)
 have h38 := @run_callFunc_extern Tryz.prog 304 _ (ReflectliteType.relation "Implements" ReflectliteType.implements_) Tryz.func304 (by kernel_rfl) (by kernel_rfl) (by kernel_rfl) (by kernel_rfl)
 have h10 := @run_callFunc_extern Tryz.prog 192 _ ReflectliteType.typeOf Tryz.func192 (by kernel_rfl) (by kernel_rfl) (by kernel_rfl) (by kernel_rfl)
 have h35 := @run_callFunc_extern Tryz.prog 301 _ (ReflectliteType.relation "AssignableTo" ReflectliteType.assignableTo) Tryz.func301 (by kernel_rfl) (by kernel_rfl) (by kernel_rfl) (by kernel_rfl)
 have h11 := @run_callFunc_extern Tryz.prog 193 _ (ReflectliteValue.method (ReflectliteValue.valueError "reflectlite.Value.Elem" 0) ReflectliteValue.elem) Tryz.func193 (by kernel_rfl) (by kernel_rfl) (by kernel_rfl) (by kernel_rfl)
 have h12 := @run_callFunc_extern Tryz.prog 194 _ ReflectliteValue.set Tryz.func194 (by kernel_rfl) (by kernel_rfl) (by kernel_rfl) (by kernel_rfl)
 have tO := typeOfE
 have mA := methodAssignableTo
 have a25 := assignableE
 have v25 := valueOfE
 have f6 := valueOfP
 have f7 := typeP
 have mK := methodKind
 have mE := methodElem
 have mI := methodImplements
 have k27 := kindP
 have k25 := kindE
 have e27 := elemP
 have i25 := implementsE
 have n8 := isNilP ⟨w.heap.size, 0, none⟩ t ((w.alloc (.cells #[.pointer (some t)] 157)).alloc (.cells #[.pointer (some ⟨12, 157, none⟩), .pointer (some ⟨w.heap.size, 0, none⟩), .int .u64 150] 235)) (by simp)
 have hlt : 1 < w.heap.size := by
  rcases Nat.lt_or_ge 1 w.heap.size with h | h
  ·exact h
  ·simp [World.cell?, Array.getElem?_eq_none h] at hg
 have hg2 : ((w.alloc (.cells #[.pointer (some t)] 157)).alloc (.cells #[.pointer (some ⟨12, 157, none⟩), .pointer (some ⟨w.heap.size, 0, none⟩), .int .u64 150] 235)).cell? ⟨1, 0, none⟩ = some (.iface 303 (.agg #[.pointer (some ⟨12, 36, none⟩)])) := by
  rw [World.cell?_alloc_lt _ _ ⟨1, 0, none⟩ (by simp only [World.size_alloc]; omega), World.cell?_alloc_lt _ _ ⟨1, 0, none⟩ hlt]; exact hg
 have htl : t.block < w.heap.size := by
  rcases Nat.lt_or_ge t.block w.heap.size with h | h
  ·exact h
  ·simp [World.cell?, Array.getElem?_eq_none h] at ht0
 have el := elemVP ⟨w.heap.size, 0, none⟩ t (((w.alloc (.cells #[.pointer (some t)] 157)).alloc (.cells #[.pointer (some ⟨12, 157, none⟩), .pointer (some ⟨w.heap.size, 0, none⟩), .int .u64 150] 235)).alloc (.cells #[.pointer (some ⟨12, 157, none⟩), .pointer (some ⟨w.heap.size, 0, none⟩), .int .u64 150] 235)) (by rw [World.cell?_alloc_lt _ _ ⟨w.heap.size, 0, none⟩ (by simp; omega)]; simp)
 have st := setE t ⟨w.heap.size + 1 + 1 + 1, 0, none⟩ n old ((((w.alloc (.cells #[.pointer (some t)] 157)).alloc (.cells #[.pointer (some ⟨12, 157, none⟩), .pointer (some ⟨w.heap.size, 0, none⟩), .int .u64 150] 235)).alloc (.cells #[.pointer (some ⟨12, 157, none⟩), .pointer (some ⟨w.heap.size, 0, none⟩), .int .u64 150] 235)).alloc (.cells #[.int .i64 n] 34))
  (by rw [World.cell?_alloc_at _ _ _ _ (by simp)]; rfl)
  (by rw [World.cell?_alloc_lt _ _ t (by simp; omega), World.cell?_alloc_lt _ _ t (by simp; omega), World.cell?_alloc_lt _ _ t (by simp; omega), World.cell?_alloc_lt _ _ t htl]; exact ht0)
  (by rw [World.frozen?_alloc_old _ _ t (by simp; omega), World.frozen?_alloc_old _ _ t (by simp; omega), World.frozen?_alloc_old _ _ t (by simp; omega), World.frozen?_alloc_old _ _ t (Nat.ne_of_lt htl)]; exact hf0)
 go_enter Tryz.func78, Tryz.ntmps78
 go_wp2
 refine wp_loop_rounds 1 ?_
 rw [rounds_succ]
 go_wp2
 go_ret
 exact ⟨rfl, rfl⟩
end Errs
end Go.Proofs.YtpmpnbbihmgdpaaGreatDoor
namespace Go.Proofs.YtpmpnbbihmgdpaaGreatDoor
open Go.RowKit Go.Extern.Stop Go.Stop Go.Extern
def Glob (w : World) : Prop := w.cell? ⟨1, 0, none⟩ = some (.iface 303 (.agg #[.pointer (some ⟨12, 36, none⟩)]))
theorem Glob.lt {w : World} (h : Glob w) : 1 < w.heap.size := by
 rcases Nat.lt_or_ge 1 w.heap.size with h1 | h1
 ·exact h1
 ·unfold Glob at h
  simp [World.cell?, Array.getElem?_eq_none h1] at h
theorem Glob.below {w w' : World} (h : Glob w) (hb : Below w.heap.size w w') : Glob w' := (hb.cell (p := ⟨1, 0, none⟩) h.lt).trans h
theorem tell_errno (n : Int) (w : World) (hg : Glob w) :
  Calls Tryz.prog 28 #[.iface 34 (.int .i64 n)] w fun e w' => e = .returned (.int .i64 n) /\ Below w.heap.size w w' := by
 have H := Errs.as_hit n ⟨w.heap.size, 0, none⟩ (.int .i64 0) (w.alloc (.cells #[.int .i64 0] 34)) (hg.below ((Below.refl _ _).alloc (Nat.le_refl _) _)) (cell1_0 _ _ _) (frozen1_0 _ _ _)
 go_enter Tryz.func28, Tryz.ntmps28
 go_wp2_with fail
 refine H.mono ?_
 rintro e w' ⟨rfl, hw⟩
 have hc : w'.cell? ⟨w.heap.size, 0, none⟩ = some (.int .i64 n) := by
  rw [hw]
  refine World.cell?_setCell_same' _ _ _ ?_
  rw [World.cell?_alloc_lt _ _ ⟨w.heap.size, 0, none⟩ (by simp; omega), World.cell?_alloc_lt _ _ ⟨w.heap.size, 0, none⟩ (by simp; omega), World.cell?_alloc_lt _ _ ⟨w.heap.size, 0, none⟩ (by simp; omega), World.cell?_alloc_lt _ _ ⟨w.heap.size, 0, none⟩ (by simp), cell1_0]
  rfl
 have hb : Below w.heap.size w w' := by
  rw [hw]
  exact ((((((Below.refl _ _).alloc (Nat.le_refl _) _).alloc (by simp) _).alloc (by simp; omega) _).alloc (by simp; omega) _).alloc (by simp; omega) _).setCell (Nat.le_refl _) _
 clear H hw
 go_wp2
 go_ret
 exact ⟨rfl, hb⟩
end Go.Proofs.YtpmpnbbihmgdpaaGreatDoor
namespace Go.Proofs.YtpmpnbbihmgdpaaGreatDoor.Sv
def ALL : Nat := 1000000000
abbrev Span := Nat × Nat
def mem (l : List Span) (n : Nat) : Prop := ∃ s ∈ l, s.1 <= n /\ n < s.2
theorem mem_nil (n : Nat) : ¬ mem [] n := fun ⟨_, h, _⟩ => by cases h
theorem mem_cons {s : Span} {l : List Span} {n : Nat} : mem (s :: l) n ↔ (s.1 <= n /\ n < s.2) \/ mem l n := by
 unfold mem
 constructor
 ·rintro ⟨t, ht, h⟩
  rcases List.mem_cons.1 ht with rfl | ht
  ·exact Or.inl h
  ·exact Or.inr ⟨t, ht, h⟩
 ·rintro (h | ⟨t, ht, h⟩)
  ·exact ⟨s, List.mem_cons_self, h⟩
  ·exact ⟨t, List.mem_cons_of_mem _ ht, h⟩
def Canon (lo : Nat) : List Span -> Prop
 | [] => True
 | s :: r => lo <= s.1 /\ s.1 < s.2 /\ s.2 <= ALL /\ Canon (s.2 + 1) r
theorem Canon.mono {lo hi : Nat} {l : List Span} (h : Canon hi l) (hh : lo <= hi) : Canon lo l := by
 cases l with
 | nil => trivial
 | cons s r => exact ⟨Nat.le_trans hh h.1, h.2⟩
theorem Canon.ge {lo n : Nat} {l : List Span} (h : Canon lo l) (hm : mem l n) : lo <= n := by
 induction l generalizing lo with
 | nil => exact absurd hm (mem_nil n)
 | cons s r ih =>
  rcases mem_cons.1 hm with ⟨h1, _⟩ | hm
  ·exact Nat.le_trans h.1 h1
  ·have := ih h.2.2.2 hm
   have := h.1; have := h.2.1
   omega
theorem Canon.lt {lo n : Nat} {l : List Span} (h : Canon lo l) (hm : mem l n) : n < ALL := by
 induction l generalizing lo with
 | nil => exact absurd hm (mem_nil n)
 | cons s r ih =>
  rcases mem_cons.1 hm with ⟨_, h1⟩ | hm
  ·exact Nat.lt_of_lt_of_le h1 h.2.2.1
  ·exact ih h.2.2.2 hm
def notF (e : Nat) : List Span -> List Span
 | [] => if e < ALL then [(e, ALL)] else []
 | s :: r => if e < s.1 then (e, s.1) :: notF s.2 r else notF s.2 r
theorem canon_notF : ∀ {l : List Span} {e : Nat}, Canon e l -> Canon e (notF e l) := by
 intro l
 induction l with
 | nil =>
  intro e _
  unfold notF
  split
  ·exact ⟨Nat.le_refl _, by assumption, Nat.le_refl _, trivial⟩
  ·trivial
 | cons s r ih =>
  intro e h
  obtain ⟨h1, h2, h3, h4⟩ := h
  have hr := ih (h4.mono (Nat.le_succ _))
  unfold notF
  split
  ·exact ⟨Nat.le_refl _, by assumption, by simp only; omega, hr.mono (by simp only; omega)⟩
  ·exact hr.mono (by omega)
def andF : List Span -> List Span -> List Span
 | [], _ => []
 | _ :: _, [] => []
 | s :: r, t :: q =>
  (if max s.1 t.1 < min s.2 t.2 then [(max s.1 t.1, min s.2 t.2)] else []) ++ (if s.2 < t.2 then andF r (t :: q) else andF (s :: r) q)
termination_by l m => l.length + m.length
theorem andF_nil_right (l : List Span) : andF l [] = [] := by cases l <;> simp [andF]
theorem canon_if {lo : Nat} {c : Prop} [Decidable c] {s : Span} {r : List Span} (h1 : c -> lo <= s.1 /\ s.1 < s.2 /\ s.2 <= ALL /\ Canon (s.2 + 1) r) (h2 : ¬ c -> Canon lo r) : Canon lo ((if c then [s] else []) ++ r) := by
 by_cases h : c
 ·rw [if_pos h]; exact h1 h
 ·rw [if_neg h]; exact h2 h
theorem canon_andF : ∀ (k : Nat) {l m : List Span} {lo lo' : Nat}, l.length + m.length <= k -> Canon lo l -> Canon lo' m -> Canon (max lo lo') (andF l m) := by
 intro k
 induction k with
 | zero =>
  intro l m lo lo' hk _ _
  obtain rfl : l = [] := List.length_eq_zero_iff.1 (by omega)
  simp only [andF]; trivial
 | succ k ih =>
  intro l m lo lo' hk hl hm
  cases l with
  | nil => simp only [andF]; trivial
  | cons s r =>
   cases m with
   | nil => simp only [andF]; trivial
   | cons t q =>
    rw [andF]
    simp only [List.length_cons] at hk
    have hl' := hl
    have hm' := hm
    obtain ⟨h1, h2, h3, h4⟩ := hl
    obtain ⟨g1, g2, g3, g4⟩ := hm
    by_cases hlt : s.2 < t.2
    ·rw [if_pos hlt]
     have := ih (l := r) (m := t :: q) (lo := s.2 + 1) (lo' := t.1) (by simp only [List.length_cons]; omega) h4 ⟨Nat.le_refl _, g2, g3, g4⟩
     refine canon_if (fun hc => ⟨by simp only; omega, hc, by simp only; omega, this.mono (by simp only; omega)⟩) (fun hc => this.mono (by omega))
    ·rw [if_neg hlt]
     have := ih (l := s :: r) (m := q) (lo := s.1) (lo' := t.2 + 1) (by simp only [List.length_cons]; omega) ⟨Nat.le_refl _, h2, h3, h4⟩ g4
     refine canon_if (fun hc => ⟨by simp only; omega, hc, by simp only; omega, this.mono (by simp only; omega)⟩) (fun hc => this.mono (by omega))
abbrev Rg (l : List Span) : Prop := Canon 0 l
def nt (l : List Span) : List Span := notF 0 l
def nd (l m : List Span) : List Span := andF l m
def orr (l m : List Span) : List Span := nt (nd (nt l) (nt m))
def rowF (a b : Nat) : List Span := if a < b then [(a, b)] else []
def anyF : List Span := [(0, ALL)]
theorem rg_any : Rg anyF := ⟨Nat.le_refl _, by decide, Nat.le_refl _, trivial⟩
theorem rg_nil : Rg [] := trivial
theorem rg_row {a b : Nat} (h : b <= ALL) : Rg (rowF a b) := by
 unfold rowF; split
 ·exact ⟨Nat.zero_le _, by assumption, h, trivial⟩
 ·trivial
theorem rg_nt {l : List Span} (h : Rg l) : Rg (nt l) := canon_notF h
theorem rg_nd {l m : List Span} (h : Rg l) (h' : Rg m) : Rg (nd l m) := (canon_andF _ (Nat.le_refl _) h h').mono (Nat.zero_le _)
theorem rg_orr {l m : List Span} (h : Rg l) (h' : Rg m) : Rg (orr l m) := rg_nt (rg_nd (rg_nt h) (rg_nt h'))
theorem mem_any {n : Nat} : mem anyF n ↔ n < ALL := by unfold anyF; rw [mem_cons]; simp [mem_nil]
end Go.Proofs.YtpmpnbbihmgdpaaGreatDoor.Sv
namespace Go.Proofs.YtpmpnbbihmgdpaaGreatDoor
open Go.RowKit Sv
def scells (l : List Span) : List Value := l.flatMap fun s => [.int .i64 (s.1 : Int), .int .i64 (s.2 : Int)]
def sp (l : List Span) (i : Nat) : Span := l.getD i (0, 0)
theorem sp_at (l : List Span) (i : Nat) (h : i < l.length) : sp l i = l[i] := by unfold sp; simp [List.getD_eq_getElem?_getD, List.getElem?_eq_getElem h]
theorem sp_cons_succ (s : Span) (l : List Span) (i : Nat) : sp (s :: l) (i + 1) = sp l i := by simp [sp]
theorem scells_append (a b : List Span) : scells (a ++ b) = scells a ++ scells b := by simp [scells]
theorem scells_at : ∀ (l : List Span) (i : Nat), i < l.length -> (scells l)[i * 2]? = some (.int .i64 ((sp l i).1 : Int)) /\ (scells l)[i * 2 + 1]? = some (.int .i64 ((sp l i).2 : Int))
 | [], i, h => by simp at h
 | n :: l, 0, _ => by simp [scells, sp]
 | n :: l, i + 1, h => by
  have ih := scells_at l i (by simpa using h)
  rw [sp_cons_succ]
  have e2 : ∀ j, (scells (n :: l))[j + 2]? = (scells l)[j]? := fun j => by
   show ([Value.int .i64 (n.1 : Int), .int .i64 (n.2 : Int)] ++ scells l)[j + 2]? = _
   rw [List.getElem?_append_right (by simp)]; simp
  rw [show (i + 1) * 2 = i * 2 + 2 by omega, show i * 2 + 2 + 1 = (i * 2 + 1) + 2 by omega, e2, e2]
  exact ih
structure SpAt (w : World) (v : Value) (l : List Span) : Prop where
 form : ∃ a cap, v = .slice a l.length cap
 cells : ∀ i, i < l.length -> ∃ g cap, v = .slice (some ⟨g, 0, none⟩) l.length cap /\ g < w.heap.size /\ w.cell? ⟨g, i * 2, none⟩ = some (.int .i64 ((sp l i).1 : Int)) /\ w.cell? ⟨g, i * 2 + 1, none⟩ = some (.int .i64 ((sp l i).2 : Int))
theorem spAt_nil (w : World) : SpAt w (.slice none 0 0) [] := ⟨⟨none, 0, rfl⟩, fun i h => by simp at h⟩
theorem SpAt.below {B : Nat} {w w' : World} {v : Value} {l : List Span} (h : SpAt w v l) (hb : Below B w w') (hB : w.heap.size <= B) : SpAt w' v l :=
 ⟨h.form, fun i hi => by
  obtain ⟨g, cap, e, hg, c0, c1⟩ := h.cells i hi
  exact ⟨g, cap, e, Nat.lt_of_lt_of_le hg hb.size, (hb.cell (p := ⟨g, i * 2, none⟩) (by show g < B; omega)).trans c0, (hb.cell (p := ⟨g, i * 2 + 1, none⟩) (by show g < B; omega)).trans c1⟩⟩
theorem SpAt.drew {w : World} {v : Value} {l : List Span} (h : SpAt w v l) : SpAt w.drew v l := ⟨h.form, h.cells⟩
theorem spAt_row {B : Nat} {w : World} {v : Value} {l : List Span} (h : w.ownsRow B 254 2 v l.length (scells l)) : SpAt w v l := by
 rcases h.2 with ⟨e, e0⟩ | ⟨g, cap, cur, e, hB, hg, hn, hm, hsz, htake⟩
 ·exact ⟨⟨none, 0, by rw [e, e0]⟩, fun i hi => by omega⟩
 ·refine ⟨⟨_, _, e⟩, fun i hi => ?_⟩
  have hlt : g < w.heap.size := (h.lt g (by rw [e]; rfl)).2
  obtain ⟨c0, c1⟩ := scells_at l i hi
  have cell : ∀ j, j < l.length * 2 -> w.cell? ⟨g, j, none⟩ = (scells l)[j]? := fun j hj => by
   rw [<- htake, List.getElem?_take, if_pos (by omega)]
   simp [World.cell?, hg]
  exact ⟨g, cap, e, hlt, (cell _ (by omega)).trans c0, (cell _ (by omega)).trans c1⟩
theorem canon_len : ∀ {l : List Span} {lo : Nat}, Canon lo l -> lo <= ALL + 1 -> 2 * l.length + lo <= ALL + 1 := by
 intro l
 induction l with
 | nil => intro lo _ h; simpa using h
 | cons s r ih =>
  intro lo h hlo
  obtain ⟨h1, h2, h3, h4⟩ := h
  have := ih h4 (by omega)
  simp only [List.length_cons]; omega
theorem rg_len {l : List Span} (h : Rg l) : l.length <= 500000000 := by
 have := canon_len h (Nat.zero_le _)
 unfold ALL at this; omega
theorem infoSpan : (Tryz.prog.info? 254).map (fun i => (i.zero, i.size, i.bytes)) = some (some (.agg #[.int .i64 0, .int .i64 0]), 2, 16) := by kernel_rfl
theorem row_form2 {B n : Nat} {w : World} {v : Value} {t : TypeId} {cs : List Value} (h : w.ownsRow B t 2 v n cs) : ∃ a c, v = .slice a n c := by
 rcases h.2 with ⟨e, e0⟩ | ⟨g, cap, cur, e, -⟩
 ·exact ⟨none, 0, by rw [e, e0]⟩
 ·exact ⟨_, _, e⟩
theorem cell_two_new (w : World) (A B : Value) (t : TypeId) : ∀ (j : Nat) (u : Value), [A, B][j]? = some u -> (w.alloc (.cells #[A, B] t)).cell? (Addr.add ⟨w.heap.size, 0, none⟩ j) = some u := by
 intro j u h
 match j, h with
 | 0, h => simp at h; subst h; simp [Addr.add]
 | 1, h => simp at h; subst h; simp [Addr.add]
 | j + 2, h => simp at h
theorem grown_cell {w w' : World} {row : Option Nat} (hg : w.grownBy w' row) {b i : Nat} (hb : b < w.heap.size) (hne : some b ≠ row) : w'.cell? ⟨b, i, none⟩ = w.cell? ⟨b, i, none⟩ := by
 unfold World.cell?; rw [hg.block b hb hne]
theorem row_old {B n : Nat} {w : World} {v : Value} {t : TypeId} {cs : List Value} (h : w.ownsRow B t 2 v n cs) {b : Nat} (hb : w.heap.size <= b) : some b ≠ v.ownBlock := fun e => by
 have := (h.lt b e.symm).2
 omega
theorem row_set {B n b : Nat} {w : World} {v x : Value} {t : TypeId} {cs : List Value} (h : w.ownsRow B t 2 v n cs) (hb : b < B) : (w.setCell ⟨b, 0, none⟩ x).ownsRow B t 2 v n cs := by
 refine ⟨h.1, ?_⟩
 rcases h.2 with h1 | ⟨g, cap, cur, h1, h2, h3, h4⟩
 ·exact .inl h1
 ·exact .inr ⟨g, cap, cur, h1, h2, (Below.heap_setCell _ _ _ g (by show g ≠ b; omega)).trans h3, h4⟩
theorem cell1 (w : World) (A : Value) (t : TypeId) : (w.alloc (.cells #[A] t)).cell? ⟨w.heap.size, 0, none⟩ = some A := by simp
theorem cell2 (w : World) (A B : Value) (t : TypeId) : (w.alloc (.cells #[A, B] t)).cell? ⟨w.heap.size, 0, none⟩ = some A /\ (w.alloc (.cells #[A, B] t)).cell? ⟨w.heap.size, 1, none⟩ = some B := ⟨by simp, by simp⟩
theorem frozen1 (w : World) (A : Value) (t : TypeId) : (w.alloc (.cells #[A] t)).frozen? ⟨w.heap.size, 0, none⟩ = false := by simp
structure Box3 (w W : World) (A B C : Value) : Prop where
 below : Below w.heap.size w W
 size : W.heap.size = w.heap.size + 3
 c0 : W.cell? ⟨w.heap.size, 0, none⟩ = some A
 c1 : W.cell? ⟨w.heap.size + 1, 0, none⟩ = some B
 c2 : W.cell? ⟨w.heap.size + 1 + 1, 0, none⟩ = some C
 f2 : W.frozen? ⟨w.heap.size + 1 + 1, 0, none⟩ = false
theorem box3 (w : World) (A B C : Value) (t t' t'' : TypeId) : Box3 w (((w.alloc (.cells #[A] t)).alloc (.cells #[B] t')).alloc (.cells #[C] t'')) A B C := by
 have s1 : (w.alloc (.cells #[A] t)).heap.size = w.heap.size + 1 := World.size_alloc _ _
 have h1 := cell1 w A t
 have h2 := cell1 (w.alloc (.cells #[A] t)) B t'
 have h3 := cell1 ((w.alloc (.cells #[A] t)).alloc (.cells #[B] t')) C t''
 have f3 := frozen1 ((w.alloc (.cells #[A] t)).alloc (.cells #[B] t')) C t''
 have s2 : ((w.alloc (.cells #[A] t)).alloc (.cells #[B] t')).heap.size = w.heap.size + 1 + 1 := by rw [World.size_alloc, s1]
 have b1 : Below w.heap.size w (w.alloc (.cells #[A] t)) := (Below.refl _ w).alloc (Nat.le_refl _) _
 have b2 : Below (w.heap.size + 1) (w.alloc (.cells #[A] t)) ((w.alloc (.cells #[A] t)).alloc (.cells #[B] t')) := (Below.refl _ _).alloc (by omega) _
 have b3 : Below (w.heap.size + 1 + 1) ((w.alloc (.cells #[A] t)).alloc (.cells #[B] t')) (((w.alloc (.cells #[A] t)).alloc (.cells #[B] t')).alloc (.cells #[C] t'')) := (Below.refl _ _).alloc (by omega) _
 rw [s1] at h2
 rw [s2] at h3 f3
 refine ⟨b1.trans ((b2.mono (by omega)).trans (b3.mono (by omega))), by rw [World.size_alloc, s2], ?_, ?_, h3, f3⟩
 ·exact (b3.cell (p := ⟨w.heap.size, 0, none⟩) (by show w.heap.size < _; omega)).trans ((b2.cell (p := ⟨w.heap.size, 0, none⟩) (by show w.heap.size < _; omega)).trans h1)
 ·exact (b3.cell (p := ⟨w.heap.size + 1, 0, none⟩) (by show w.heap.size + 1 < _; omega)).trans h2
structure TwoAt (w W : World) (bs bt : Nat) (A T C D : Value) : Prop where
 below : Below w.heap.size w W
 hs : w.heap.size <= bs
 ht : w.heap.size <= bt
 ls : bs < W.heap.size
 lt : bt < W.heap.size
 s0 : W.cell? ⟨bs, 0, none⟩ = some A
 s1 : W.cell? ⟨bs, 1, none⟩ = some T
 t0 : W.cell? ⟨bt, 0, none⟩ = some C
 t1 : W.cell? ⟨bt, 1, none⟩ = some D
theorem two_st (w : World) (A T C D : Value) (t t' : TypeId) : TwoAt w ((w.alloc (.cells #[A, T] t)).alloc (.cells #[C, D] t')).drew w.heap.size (w.heap.size + 1) A T C D := by
 have s1 : (w.alloc (.cells #[A, T] t)).heap.size = w.heap.size + 1 := World.size_alloc _ _
 have s2 : ((w.alloc (.cells #[A, T] t)).alloc (.cells #[C, D] t')).heap.size = w.heap.size + 1 + 1 := by rw [World.size_alloc, s1]
 have b1 : Below w.heap.size w (w.alloc (.cells #[A, T] t)) := (Below.refl _ w).alloc (Nat.le_refl _) _
 have b2 : Below (w.heap.size + 1) (w.alloc (.cells #[A, T] t)) ((w.alloc (.cells #[A, T] t)).alloc (.cells #[C, D] t')).drew := ((Below.refl _ _).alloc (by omega) _).drew
 have h1 := cell2 w A T t
 have h2 := cell2 (w.alloc (.cells #[A, T] t)) C D t'
 rw [s1] at h2
 have ls : w.heap.size < ((w.alloc (.cells #[A, T] t)).alloc (.cells #[C, D] t')).drew.heap.size := by show w.heap.size < ((w.alloc (.cells #[A, T] t)).alloc (.cells #[C, D] t')).heap.size; omega
 have lt : w.heap.size + 1 < ((w.alloc (.cells #[A, T] t)).alloc (.cells #[C, D] t')).drew.heap.size := by show w.heap.size + 1 < ((w.alloc (.cells #[A, T] t)).alloc (.cells #[C, D] t')).heap.size; omega
 exact ⟨b1.trans (b2.mono (by omega)), Nat.le_refl _, by omega, ls, lt, (b2.cell (p := ⟨w.heap.size, 0, none⟩) (by show w.heap.size < _; omega)).trans h1.1, (b2.cell (p := ⟨w.heap.size, 1, none⟩) (by show w.heap.size < _; omega)).trans h1.2, h2.1, h2.2⟩
theorem two_ts (w : World) (A T C D : Value) (t t' : TypeId) : TwoAt w ((w.alloc (.cells #[C, D] t')).alloc (.cells #[A, T] t)).drew (w.heap.size + 1) w.heap.size A T C D := by
 have h := two_st w C D A T t' t
 exact ⟨h.below, h.ht, h.hs, h.lt, h.ls, h.t0, h.t1, h.s0, h.s1⟩
theorem TwoAt.drewN {w W : World} {bs bt : Nat} {A T C D : Value} (h : TwoAt w W bs bt A T C D) (n : Nat) : TwoAt w (W.drewN n) bs bt A T C D := by
 induction n with
 | zero => exact h
 | succ n ih => exact ⟨⟨ih.below.os, ih.below.tape, ih.below.output, ih.below.size, ih.below.block⟩, ih.hs, ih.ht, ih.ls, ih.lt, ih.s0, ih.s1, ih.t0, ih.t1⟩
theorem row_below {B n b : Nat} {w w' : World} {v : Value} {t : TypeId} {cs : List Value} (h : w.ownsRow B t 2 v n cs) (hb : Below b w w') (hB : w.heap.size <= b) : w'.ownsRow B t 2 v n cs := by
 refine ⟨h.1, ?_⟩
 rcases h.2 with h1 | ⟨g, cap, cur, h1, h2, h3, h4⟩
 ·exact .inl h1
 ·exact .inr ⟨g, cap, cur, h1, h2, (hb.block g (by have := (h.lt g (by rw [h1]; rfl)).2; omega)).trans h3, h4⟩
def RgOut (w : World) (l : List Span) (e : Ending) (w' : World) : Prop := ∃ v', e = .returned (.agg #[v']) /\ SpAt w' v' l /\ (∀ g, v'.ownBlock = some g -> w.heap.size <= g) /\ Below w.heap.size w w'
theorem SpAt.set {w : World} {v x : Value} {l : List Span} {b : Nat} (h : SpAt w v l) (hn : v.ownBlock ≠ some b) : SpAt (w.setCell ⟨b, 0, none⟩ x) v l :=
 ⟨h.form, fun i hi => by
  obtain ⟨g, cap, e, hg, c0, c1⟩ := h.cells i hi
  have hne : g ≠ b := fun e' => hn (by rw [e, e']; rfl)
  have hh := Below.heap_setCell w ⟨b, 0, none⟩ x g hne
  refine ⟨g, cap, e, Nat.lt_of_lt_of_le hg ((Below.refl 0 w).setCell (p := ⟨b, 0, none⟩) (Nat.zero_le _) x).size, ?_, ?_⟩
  ·rw [<- c0]; unfold World.cell?; rw [hh]
  ·rw [<- c1]; unfold World.cell?; rw [hh]⟩
end Go.Proofs.YtpmpnbbihmgdpaaGreatDoor
