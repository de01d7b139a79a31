/- ParseLine: what it is asked of, and lines of no kind. -/
import Derived.Test.YthpeifkiaodokaaGreatDoorCtSmall
import Derived.Test.YthpeifkiaodokaaGreatDoorSvRange
import Derived.Test.YthpeifkiaodokaaGreatDoorErAt
namespace Go.Proofs.YthpeifkiaodokaaGreatDoor
open Go.RowKit Go.Shelf Sv

/-- What the library's variables hold, and the words. -/
structure Lw (w : World) : Prop where
  lb : Lb w
  wd : WordsAt w
theorem Lw.below {w w' : World} (h : Lw w) (hb : Below w.heap.size w w') : Lw w' := ⟨h.lb.below hb, h.wd.below hb (by have := h.lb.big; omega)⟩

theorem cut_any (s : ByteArray) (c : UInt8) (W : World) (hs : s.size ≤ 100000) (hw : Lb W) :
    Calls Tryz.prog 98 #[.string s, .string ⟨#[c]⟩] W fun e w' => ∃ b, e = .returned (.tuple #[.string (cutF s c).1, .string (cutF s c).2, .bool b]) ∧ Below W.heap.size W w' := by
  obtain ⟨m, hm⟩ := hw.ml
  refine (Tryz.strings_Cut s ⟨#[c]⟩ m W (by omega) hm).mono fun e w' ⟨he, n, hn⟩ => ⟨_, he, ?_⟩
  subst hn
  exact ⟨rfl, rfl, rfl, Nat.le_refl _, fun _ _ => rfl⟩

set_option maxRecDepth 100000 in
set_option maxHeartbeats 2000000 in
theorem range_long (s : ByteArray) (w : World) (hs : 1000 < s.size) :
    Calls Tryz.prog 13 #[.string s] w fun e w' => e = .returned (.tuple #[.agg #[.slice none 0 0], .iface 24 (.int .i64 4)]) ∧ Below w.heap.size w w' := by
  have hl : (1000 : Int) < (s.size : Int) := by omega
  generalize hn : (s.size : Int) = n at *
  clear hs
  go_enter Tryz.func13, Tryz.ntmps13
  go_wp2
  have k0 := ((Blk.new w 31 #[.slice none 0 0]).alloc (.cells #[.iface 24 (.int .i64 4)] 33))
  have k1 := (Blk.new (w.alloc (.cells #[.slice none 0 0] 31)) 33 #[.iface 24 (.int .i64 4)])
  rw [World.size_alloc] at k1
  have hB : Below w.heap.size w ((w.alloc (.cells #[.slice none 0 0] 31)).alloc (.cells #[.iface 24 (.int .i64 4)] 33)) := ((Below.refl _ w).alloc (Nat.le_refl _) _).alloc (by simp only [World.size_alloc]; omega) _
  generalize (w.alloc (.cells #[.slice none 0 0] 31)).alloc (.cells #[.iface 24 (.int .i64 4)] 33) = WF at *
  have r0 := k0.cell 0
  have r3 := k1.cell 0
  refine bodyPost_ret (v := .tuple #[.agg #[.slice none 0 0], .iface 24 (.int .i64 4)]) (by simp [results, Tryz.f13, go_sem, r0, r3]) rfl ?_
  exact ⟨rfl, hB⟩

/-- An error, plain or at a place. -/
def ErrP (w : World) (er : Value) (k : Int) : Option Nat → Prop
  | none => er = .iface 24 (.int .i64 k)
  | some q => ∃ N, er = .iface 153 (.pointer (some ⟨N, 0, none⟩)) ∧ Blk w N 154 #[.int .i64 k, .int .i64 (q : Int)]
theorem ErrP.below {w w' : World} {er : Value} {k : Int} {p : Option Nat} (h : ErrP w er k p) (hb : Below w.heap.size w w') : ErrP w' er k p := by
  cases p with
  | none => exact h
  | some q =>
    obtain ⟨N, h1, h2⟩ := h
    exact ⟨N, h1, h2.below hb h2.lt⟩
theorem ErrP.form {w : World} {er : Value} {k : Int} {p : Option Nat} (h : ErrP w er k p) : ∃ t v, er = .iface t v := by
  cases p with
  | none => exact ⟨_, _, h⟩
  | some q => obtain ⟨N, h1, _⟩ := h; exact ⟨_, _, h1⟩
/-- What a range's text gives. -/
def RngRes (r : Except (Int × Option Nat) (List Span)) (w' : World) (v er : Value) : Prop :=
  match r with
  | .ok l => er = .nilIface ∧ SpAt w' v l ∧ Rg l
  | .error (k, p) => v = .slice none 0 0 ∧ ErrP w' er k p
theorem rng_any (s : ByteArray) (w : World) (hs : s.size ≤ 100000) (hw : Lb w) :
    Calls Tryz.prog 13 #[.string s] w fun e w' => ∃ a n c er, e = .returned (.tuple #[.agg #[.slice a n c], er]) ∧ RngRes (rngF s) w' (.slice a n c) er ∧ (∀ g, (Value.slice a n c).ownBlock = some g → w.heap.size ≤ g) ∧ Below w.heap.size w w' := by
  unfold rngF
  by_cases h : 1000 < s.size
  · rw [if_pos h]
    exact (range_long s w h).mono fun e w' ⟨he, hb⟩ => ⟨none, 0, 0, _, he, ⟨rfl, rfl⟩, (fun g hg => by simp [Value.ownBlock] at hg), hb⟩
  · rw [if_neg h]
    refine (range_any s w (by omega) hw).mono fun e w' h => ?_
    unfold RgAtErr at h
    cases hx : rangeF s with
    | ok l =>
      rw [hx] at h
      obtain ⟨v', he, h1, h2, h3⟩ := h
      obtain ⟨a', c', rfl⟩ := h1.form
      exact ⟨a', _, c', _, he, ⟨rfl, h1, rangeF_rg hx⟩, h2, h3⟩
    | error e2 =>
      obtain ⟨k, q⟩ := e2
      rw [hx] at h
      obtain ⟨N, he, h1, h2, h3⟩ := h
      exact ⟨none, 0, 0, _, he, ⟨rfl, N, rfl, h1⟩, (fun g hg => by simp [Value.ownBlock] at hg), h3⟩

abbrev z7 : Array Value := #[.int .i64 0, .string ⟨#[]⟩, .int .i64 0, .int .i64 0, .int .i64 0, .string ⟨#[]⟩, .slice none 0 0]
/-- What a line's text gives. -/
def LnRes (w : World) (r : Except (Int × Option Nat) Ln) (e : Ending) (w' : World) : Prop :=
  match r with
  | .ok x => ∃ v, e = .returned (.tuple #[.agg #[.int .i64 x.kind, .string x.name, .int .i64 x.a, .int .i64 x.b, .int .i64 x.c, .string x.other, v], .nilIface]) ∧ SpAt w' v x.rng ∧ Rg x.rng ∧ (∀ g, v.ownBlock = some g → w.heap.size ≤ g) ∧ Below w.heap.size w w'
  | .error (k, p) => ∃ er, e = .returned (.tuple #[.agg z7, er]) ∧ ErrP w' er k p ∧ Below w.heap.size w w'

/-- Inside ParseLine: the result's block, the line's block. -/
structure LS (w W : World) (b : Nat) (cs : Array Value) : Prop where
  z : Blk W w.heap.size 76 z7
  x : Blk W b 76 cs
  ne : w.heap.size < b
  B : Below w.heap.size w W
theorem LS.step {w W W' : World} {b : Nat} {cs : Array Value} (h : LS w W b cs) (hb : Below W.heap.size W W') : LS w W' b cs := ⟨h.z.below hb h.z.lt, h.x.below hb h.x.lt, h.ne, h.B.trans (hb.mono h.B.size)⟩
theorem LS.set {w W : World} {b : Nat} {cs : Array Value} (h : LS w W b cs) (i : Nat) (v : Value) : LS w (W.setCell ⟨b, i, none⟩ v) b (cs.setIfInBounds i v) :=
  ⟨h.z.other (by have := h.ne; omega), h.x.set, h.ne, h.B.setCell (p := ⟨b, i, none⟩) (Nat.le_of_lt h.ne) _⟩

theorem Blk.ne_type {W : World} {b b' : Nat} {t t' : TypeId} {cs cs' : Array Value} (h : Blk W b t cs) (h' : Blk W b' t' cs') (hne : t ≠ t') : b ≠ b' := by
  rintro rfl
  have := (show W.heap[b]? = _ from h).symm.trans h'
  simp only [Option.some.injEq, Obj.cells.injEq] at this
  exact hne this.2.1
theorem ErrP.setx {w W : World} {b : Nat} {cs : Array Value} {er : Value} {k : Int} {p : Option Nat} {i : Nat} {v : Value} (h : ErrP W er k p) (hL : LS w W b cs) : ErrP (W.setCell ⟨b, i, none⟩ v) er k p := by
  cases p with
  | none => exact h
  | some q =>
    obtain ⟨N, h1, h2⟩ := h
    exact ⟨N, h1, h2.other (h2.ne_type hL.x (by decide))⟩
theorem ErrP.one {W : World} {b : Nat} {cs : Array Value} {er : Value} {k : Int} {p : Option Nat} {i : Nat} {v : Value} (h : ErrP W er k p) (hL : Blk W b 76 cs) : ErrP (W.setCell ⟨b, i, none⟩ v) er k p := by
  cases p with
  | none => exact h
  | some q =>
    obtain ⟨N, h1, h2⟩ := h
    exact ⟨N, h1, h2.other (h2.ne_type hL (by decide))⟩
theorem ErrP.setz {w W : World} {b : Nat} {cs : Array Value} {er : Value} {k : Int} {p : Option Nat} {v0 v1 v2 v3 v4 v5 v6 : Value} (h : ErrP W er k p) (hL : LS w W b cs) : ErrP (((((((W.setCell ⟨w.heap.size, 0, none⟩ v0).setCell ⟨w.heap.size, 1, none⟩ v1).setCell ⟨w.heap.size, 2, none⟩ v2).setCell ⟨w.heap.size, 3, none⟩ v3).setCell ⟨w.heap.size, 4, none⟩ v4).setCell ⟨w.heap.size, 5, none⟩ v5).setCell ⟨w.heap.size, 6, none⟩ v6) er k p := by
  have z := hL.z
  exact ((((((h.one z).one z.set).one z.set.set).one z.set.set.set).one z.set.set.set.set).one z.set.set.set.set.set).one z.set.set.set.set.set.set
theorem SpAt.one {W : World} {b : Nat} {v x : Value} {l : List Span} {i : Nat} (h : SpAt W v l) (hn : v.ownBlock ≠ some b) : SpAt (W.setCell ⟨b, i, none⟩ x) v l :=
  ⟨h.form, fun j hj => by
    obtain ⟨g, cap, e, hg, c0, c1⟩ := h.cells j hj
    have hne : g ≠ b := fun e' => hn (by rw [e, e']; rfl)
    exact ⟨g, cap, e, by simp [World.setCell]; exact hg, (cell_set_other hne).trans c0, (cell_set_other hne).trans c1⟩⟩
theorem SpAt.all7 {W : World} {b : Nat} {v v0 v1 v2 v3 v4 v5 v6 : Value} {l : List Span} (h : SpAt W v l) (hn : v.ownBlock ≠ some b) : SpAt (((((((W.setCell ⟨b, 0, none⟩ v0).setCell ⟨b, 1, none⟩ v1).setCell ⟨b, 2, none⟩ v2).setCell ⟨b, 3, none⟩ v3).setCell ⟨b, 4, none⟩ v4).setCell ⟨b, 5, none⟩ v5).setCell ⟨b, 6, none⟩ v6) v l :=
  ((((((h.one hn).one hn).one hn).one hn).one hn).one hn).one hn
end Go.Proofs.YthpeifkiaodokaaGreatDoor
