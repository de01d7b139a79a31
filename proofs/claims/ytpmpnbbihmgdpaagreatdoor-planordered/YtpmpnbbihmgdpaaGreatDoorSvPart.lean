/- What is laid; parsePart. -/
import Derived.Test.YtpmpnbbihmgdpaaGreatDoorSvSpan
import Derived.WalkKit
import Derived.WalkSpells
import Derived.WalkLawsBesides
import Derived.Deep.Cut
import Derived.Deep.DeepCutAuto
import Derived.Deep.RegionWith
import Derived.Deep.RegionHeld3
import Derived.Deep.AppendLies
import Derived.Lib.QuietBelow
import Derived.Lib.Hide
import Derived.Lib.MinMax
import Derived.BigQuiet
import Derived.PlainAid
import Derived.Test.YtpmpnbbihmgdpaaGreatDoorCnBase
import Derived.Lib.AppendIntMem
set_option maxHeartbeats 2000000
set_option maxRecDepth 100000
namespace Go.Proofs.YtpmpnbbihmgdpaaGreatDoor
section
open Go.RowKit Sv
def scells (l : List Span) : List Value := l.flatMap fun s => [.int .i64 (s.1 : Int), .int .i64 (s.2 : Int)]
def sp (l : List Span) (i : Nat) : Span := l.getD i (0, 0)
theorem sp_at (l : List Span) (i : Nat) (h : i < l.length) : sp l i = l[i] := by unfold sp; simp [List.getD_eq_getElem?_getD, List.getElem?_eq_getElem h]
theorem sp_cons_succ (s : Span) (l : List Span) (i : Nat) : sp (s :: l) (i + 1) = sp l i := by simp [sp]
theorem scells_append (a b : List Span) : scells (a ++ b) = scells a ++ scells b := by simp [scells]
theorem scells_at : ∀ (l : List Span) (i : Nat), i < l.length -> (scells l)[i * 2]? = some (.int .i64 ((sp l i).1 : Int)) /\ (scells l)[i * 2 + 1]? = some (.int .i64 ((sp l i).2 : Int))
 | [], i, h => by simp at h
 | n :: l, 0, _ => by simp [scells, sp]
 | n :: l, i + 1, h => by
  have ih := scells_at l i (by simpa using h)
  rw [sp_cons_succ]
  have e2 : ∀ j, (scells (n :: l))[j + 2]? = (scells l)[j]? := fun j => by
   show ([Value.int .i64 (n.1 : Int), .int .i64 (n.2 : Int)] ++ scells l)[j + 2]? = _
   rw [List.getElem?_append_right (by simp)]; simp
  rw [show (i + 1) * 2 = i * 2 + 2 by omega, show i * 2 + 2 + 1 = (i * 2 + 1) + 2 by omega, e2, e2]
  exact ih
structure SpAt (w : World) (v : Value) (l : List Span) : Prop where
 form : ∃ a cap, v = .slice a l.length cap
 cells : ∀ i, i < l.length -> ∃ g cap, v = .slice (some ⟨g, 0, none⟩) l.length cap /\ g < w.heap.size /\ w.cell? ⟨g, i * 2, none⟩ = some (.int .i64 ((sp l i).1 : Int)) /\ w.cell? ⟨g, i * 2 + 1, none⟩ = some (.int .i64 ((sp l i).2 : Int))
theorem spAt_nil (w : World) : SpAt w (.slice none 0 0) [] := ⟨⟨none, 0, rfl⟩, fun i h => by simp at h⟩
theorem SpAt.below {B : Nat} {w w' : World} {v : Value} {l : List Span} (h : SpAt w v l) (hb : Below B w w') (hB : w.heap.size <= B) : SpAt w' v l :=
 ⟨h.form, fun i hi => by
  obtain ⟨g, cap, e, hg, c0, c1⟩ := h.cells i hi
  exact ⟨g, cap, e, Nat.lt_of_lt_of_le hg hb.size, (hb.cell (p := ⟨g, i * 2, none⟩) (by show g < B; omega)).trans c0, (hb.cell (p := ⟨g, i * 2 + 1, none⟩) (by show g < B; omega)).trans c1⟩⟩
theorem SpAt.drew {w : World} {v : Value} {l : List Span} (h : SpAt w v l) : SpAt w.drew v l := ⟨h.form, h.cells⟩
theorem spAt_row {B : Nat} {w : World} {v : Value} {l : List Span} (h : w.ownsRow B 254 2 v l.length (scells l)) : SpAt w v l := by
 rcases h.2 with ⟨e, e0⟩ | ⟨g, cap, cur, e, hB, hg, hn, hm, hsz, htake⟩
 ·exact ⟨⟨none, 0, by rw [e, e0]⟩, fun i hi => by omega⟩
 ·refine ⟨⟨_, _, e⟩, fun i hi => ?_⟩
  have hlt : g < w.heap.size := (h.lt g (by rw [e]; rfl)).2
  obtain ⟨c0, c1⟩ := scells_at l i hi
  have cell : ∀ j, j < l.length * 2 -> w.cell? ⟨g, j, none⟩ = (scells l)[j]? := fun j hj => by
   rw [<- htake, List.getElem?_take, if_pos (by omega)]
   simp [World.cell?, hg]
  exact ⟨g, cap, e, hlt, (cell _ (by omega)).trans c0, (cell _ (by omega)).trans c1⟩
theorem canon_len : ∀ {l : List Span} {lo : Nat}, Canon lo l -> lo <= ALL + 1 -> 2 * l.length + lo <= ALL + 1 := by
 intro l
 induction l with
 | nil => intro lo _ h; simpa using h
 | cons s r ih =>
  intro lo h hlo
  obtain ⟨h1, h2, h3, h4⟩ := h
  have := ih h4 (by omega)
  simp only [List.length_cons]; omega
theorem rg_len {l : List Span} (h : Rg l) : l.length <= 500000000 := by
 have := canon_len h (Nat.zero_le _)
 unfold ALL at this; omega
theorem infoSpan : (Tryz.prog.info? 254).map (fun i => (i.zero, i.size, i.bytes)) = some (some (.agg #[.int .i64 0, .int .i64 0]), 2, 16) := by kernel_rfl
theorem row_form2 {B n : Nat} {w : World} {v : Value} {t : TypeId} {cs : List Value} (h : w.ownsRow B t 2 v n cs) : ∃ a c, v = .slice a n c := by
 rcases h.2 with ⟨e, e0⟩ | ⟨g, cap, cur, e, -⟩
 ·exact ⟨none, 0, by rw [e, e0]⟩
 ·exact ⟨_, _, e⟩
theorem cell_two_new (w : World) (A B : Value) (t : TypeId) : ∀ (j : Nat) (u : Value), [A, B][j]? = some u -> (w.alloc (.cells #[A, B] t)).cell? (Addr.add ⟨w.heap.size, 0, none⟩ j) = some u := by
 intro j u h
 match j, h with
 | 0, h => simp at h; subst h; simp [Addr.add]
 | 1, h => simp at h; subst h; simp [Addr.add]
 | j + 2, h => simp at h
theorem grown_cell {w w' : World} {row : Option Nat} (hg : w.grownBy w' row) {b i : Nat} (hb : b < w.heap.size) (hne : some b ≠ row) : w'.cell? ⟨b, i, none⟩ = w.cell? ⟨b, i, none⟩ := by
 unfold World.cell?; rw [hg.block b hb hne]
theorem row_old {B n : Nat} {w : World} {v : Value} {t : TypeId} {cs : List Value} (h : w.ownsRow B t 2 v n cs) {b : Nat} (hb : w.heap.size <= b) : some b ≠ v.ownBlock := fun e => by
 have := (h.lt b e.symm).2
 omega
theorem row_set {B n b : Nat} {w : World} {v x : Value} {t : TypeId} {cs : List Value} (h : w.ownsRow B t 2 v n cs) (hb : b < B) : (w.setCell ⟨b, 0, none⟩ x).ownsRow B t 2 v n cs := by
 refine ⟨h.1, ?_⟩
 rcases h.2 with h1 | ⟨g, cap, cur, h1, h2, h3, h4⟩
 ·exact .inl h1
 ·exact .inr ⟨g, cap, cur, h1, h2, (Below.heap_setCell _ _ _ g (by show g ≠ b; omega)).trans h3, h4⟩
theorem cell1 (w : World) (A : Value) (t : TypeId) : (w.alloc (.cells #[A] t)).cell? ⟨w.heap.size, 0, none⟩ = some A := by simp
theorem cell2 (w : World) (A B : Value) (t : TypeId) : (w.alloc (.cells #[A, B] t)).cell? ⟨w.heap.size, 0, none⟩ = some A /\ (w.alloc (.cells #[A, B] t)).cell? ⟨w.heap.size, 1, none⟩ = some B := ⟨by simp, by simp⟩
theorem frozen1 (w : World) (A : Value) (t : TypeId) : (w.alloc (.cells #[A] t)).frozen? ⟨w.heap.size, 0, none⟩ = false := by simp
structure Box3 (w W : World) (A B C : Value) : Prop where
 below : Below w.heap.size w W
 size : W.heap.size = w.heap.size + 3
 c0 : W.cell? ⟨w.heap.size, 0, none⟩ = some A
 c1 : W.cell? ⟨w.heap.size + 1, 0, none⟩ = some B
 c2 : W.cell? ⟨w.heap.size + 1 + 1, 0, none⟩ = some C
 f2 : W.frozen? ⟨w.heap.size + 1 + 1, 0, none⟩ = false
theorem box3 (w : World) (A B C : Value) (t t' t'' : TypeId) : Box3 w (((w.alloc (.cells #[A] t)).alloc (.cells #[B] t')).alloc (.cells #[C] t'')) A B C := by
 have s1 : (w.alloc (.cells #[A] t)).heap.size = w.heap.size + 1 := World.size_alloc _ _
 have h1 := cell1 w A t
 have h2 := cell1 (w.alloc (.cells #[A] t)) B t'
 have h3 := cell1 ((w.alloc (.cells #[A] t)).alloc (.cells #[B] t')) C t''
 have f3 := frozen1 ((w.alloc (.cells #[A] t)).alloc (.cells #[B] t')) C t''
 have s2 : ((w.alloc (.cells #[A] t)).alloc (.cells #[B] t')).heap.size = w.heap.size + 1 + 1 := by rw [World.size_alloc, s1]
 have b1 : Below w.heap.size w (w.alloc (.cells #[A] t)) := (Below.refl _ w).alloc (Nat.le_refl _) _
 have b2 : Below (w.heap.size + 1) (w.alloc (.cells #[A] t)) ((w.alloc (.cells #[A] t)).alloc (.cells #[B] t')) := (Below.refl _ _).alloc (by omega) _
 have b3 : Below (w.heap.size + 1 + 1) ((w.alloc (.cells #[A] t)).alloc (.cells #[B] t')) (((w.alloc (.cells #[A] t)).alloc (.cells #[B] t')).alloc (.cells #[C] t'')) := (Below.refl _ _).alloc (by omega) _
 rw [s1] at h2
 rw [s2] at h3 f3
 refine ⟨b1.trans ((b2.mono (by omega)).trans (b3.mono (by omega))), by rw [World.size_alloc, s2], ?_, ?_, h3, f3⟩
 ·exact (b3.cell (p := ⟨w.heap.size, 0, none⟩) (by show w.heap.size < _; omega)).trans ((b2.cell (p := ⟨w.heap.size, 0, none⟩) (by show w.heap.size < _; omega)).trans h1)
 ·exact (b3.cell (p := ⟨w.heap.size + 1, 0, none⟩) (by show w.heap.size + 1 < _; omega)).trans h2
structure TwoAt (w W : World) (bs bt : Nat) (A T C D : Value) : Prop where
 below : Below w.heap.size w W
 hs : w.heap.size <= bs
 ht : w.heap.size <= bt
 ls : bs < W.heap.size
 lt : bt < W.heap.size
 s0 : W.cell? ⟨bs, 0, none⟩ = some A
 s1 : W.cell? ⟨bs, 1, none⟩ = some T
 t0 : W.cell? ⟨bt, 0, none⟩ = some C
 t1 : W.cell? ⟨bt, 1, none⟩ = some D
theorem two_st (w : World) (A T C D : Value) (t t' : TypeId) : TwoAt w ((w.alloc (.cells #[A, T] t)).alloc (.cells #[C, D] t')).drew w.heap.size (w.heap.size + 1) A T C D := by
 have s1 : (w.alloc (.cells #[A, T] t)).heap.size = w.heap.size + 1 := World.size_alloc _ _
 have s2 : ((w.alloc (.cells #[A, T] t)).alloc (.cells #[C, D] t')).heap.size = w.heap.size + 1 + 1 := by rw [World.size_alloc, s1]
 have b1 : Below w.heap.size w (w.alloc (.cells #[A, T] t)) := (Below.refl _ w).alloc (Nat.le_refl _) _
 have b2 : Below (w.heap.size + 1) (w.alloc (.cells #[A, T] t)) ((w.alloc (.cells #[A, T] t)).alloc (.cells #[C, D] t')).drew := ((Below.refl _ _).alloc (by omega) _).drew
 have h1 := cell2 w A T t
 have h2 := cell2 (w.alloc (.cells #[A, T] t)) C D t'
 rw [s1] at h2
 have ls : w.heap.size < ((w.alloc (.cells #[A, T] t)).alloc (.cells #[C, D] t')).drew.heap.size := by show w.heap.size < ((w.alloc (.cells #[A, T] t)).alloc (.cells #[C, D] t')).heap.size; omega
 have lt : w.heap.size + 1 < ((w.alloc (.cells #[A, T] t)).alloc (.cells #[C, D] t')).drew.heap.size := by show w.heap.size + 1 < ((w.alloc (.cells #[A, T] t)).alloc (.cells #[C, D] t')).heap.size; omega
 exact ⟨b1.trans (b2.mono (by omega)), Nat.le_refl _, by omega, ls, lt, (b2.cell (p := ⟨w.heap.size, 0, none⟩) (by show w.heap.size < _; omega)).trans h1.1, (b2.cell (p := ⟨w.heap.size, 1, none⟩) (by show w.heap.size < _; omega)).trans h1.2, h2.1, h2.2⟩
theorem two_ts (w : World) (A T C D : Value) (t t' : TypeId) : TwoAt w ((w.alloc (.cells #[C, D] t')).alloc (.cells #[A, T] t)).drew (w.heap.size + 1) w.heap.size A T C D := by
 have h := two_st w C D A T t' t
 exact ⟨h.below, h.ht, h.hs, h.lt, h.ls, h.t0, h.t1, h.s0, h.s1⟩
theorem TwoAt.drewN {w W : World} {bs bt : Nat} {A T C D : Value} (h : TwoAt w W bs bt A T C D) (n : Nat) : TwoAt w (W.drewN n) bs bt A T C D := by
 induction n with
 | zero => exact h
 | succ n ih => exact ⟨⟨ih.below.os, ih.below.tape, ih.below.output, ih.below.size, ih.below.block⟩, ih.hs, ih.ht, ih.ls, ih.lt, ih.s0, ih.s1, ih.t0, ih.t1⟩
theorem row_below {B n b : Nat} {w w' : World} {v : Value} {t : TypeId} {cs : List Value} (h : w.ownsRow B t 2 v n cs) (hb : Below b w w') (hB : w.heap.size <= b) : w'.ownsRow B t 2 v n cs := by
 refine ⟨h.1, ?_⟩
 rcases h.2 with h1 | ⟨g, cap, cur, h1, h2, h3, h4⟩
 ·exact .inl h1
 ·exact .inr ⟨g, cap, cur, h1, h2, (hb.block g (by have := (h.lt g (by rw [h1]; rfl)).2; omega)).trans h3, h4⟩
def RgOut (w : World) (l : List Span) (e : Ending) (w' : World) : Prop := ∃ v', e = .returned (.agg #[v']) /\ SpAt w' v' l /\ (∀ g, v'.ownBlock = some g -> w.heap.size <= g) /\ Below w.heap.size w w'
theorem SpAt.set {w : World} {v x : Value} {l : List Span} {b : Nat} (h : SpAt w v l) (hn : v.ownBlock ≠ some b) : SpAt (w.setCell ⟨b, 0, none⟩ x) v l :=
 ⟨h.form, fun i hi => by
  obtain ⟨g, cap, e, hg, c0, c1⟩ := h.cells i hi
  have hne : g ≠ b := fun e' => hn (by rw [e, e']; rfl)
  have hh := Below.heap_setCell w ⟨b, 0, none⟩ x g hne
  refine ⟨g, cap, e, Nat.lt_of_lt_of_le hg ((Below.refl 0 w).setCell (p := ⟨b, 0, none⟩) (Nat.zero_le _) x).size, ?_, ?_⟩
  ·rw [<- c0]; unfold World.cell?; rw [hh]
  ·rw [<- c1]; unfold World.cell?; rw [hh]⟩
end
section
open Go.RowKit Go.Shelf Go.Sort Sv
structure Lb (w : World) : Prop where
 ml : ∃ n, w.cell? ⟨4, 0, none⟩ = some (.int .i64 n)
 es : ∃ ev, w.cell? ⟨8, 0, none⟩ = some ev /\ (ev = .nilIface \/ ∃ te pe, ev = .iface te pe)
 er : ∃ ev, w.cell? ⟨9, 0, none⟩ = some ev /\ (ev = .nilIface \/ ∃ te pe, ev = .iface te pe)
 tab : Lib.TabIs Tryz.prog w "internal/strconv.uint64pow10" .u64 Lib.pow10Tab
 glob : Glob w
 big : 12 <= w.heap.size
theorem Lb.below {w w' : World} (h : Lb w) (hb : Below w.heap.size w w') : Lb w' := by
 have hbig := h.big
 obtain ⟨n, h1⟩ := h.ml
 obtain ⟨e3, h3, h3'⟩ := h.es
 obtain ⟨e4, h4, h4'⟩ := h.er
 exact ⟨⟨n, (hb.cell (p := ⟨4, 0, none⟩) (by show 4 < _; omega)).trans h1⟩, ⟨e3, (hb.cell (p := ⟨8, 0, none⟩) (by show 8 < _; omega)).trans h3, h3'⟩, ⟨e4, (hb.cell (p := ⟨9, 0, none⟩) (by show 9 < _; omega)).trans h4, h4'⟩, Lib.tabBelow_of_tabIs h.tab w' hb, h.glob.below hb, Nat.le_trans hbig hb.size⟩
def partF (l : List UInt8) : Except Int Nat :=
 match Lib.parseIntB 64 l with
 | .ok v => if v < 0 \/ Lib.itoa v ≠ l then .error 3 else if 999 < v then .error 2 else .ok v.toNat
 | _ => .error 3
def partV : Except Int Nat -> Value
 | .ok n => .tuple #[.int .i64 (n : Int), .nilIface]
 | .error k => .tuple #[.int .i64 0, .iface 34 (.int .i64 k)]
theorem grow_below (B : Nat) (w : World) (k : Nat) (os : Array Obj) (h : B <= w.heap.size) : Below B w (grow (w.drewN k) os) := Lib.below_grow _ w h k os
theorem bytesWorld_below (w : World) (t : ByteArray) : Below w.heap.size w (Lib.bytesWorld w 5 t) := by
 have h := ((Below.refl w.heap.size w).drew).alloc (Nat.le_refl _) (.cells (Lib.bytesCells w 5 t) 5)
 refine ⟨h.os, h.tape, h.output, ?_, fun k hk => ?_⟩
 ·exact Nat.le_trans h.size (by simp [Lib.bytesWorld, World.freeze])
 ·rw [<- h.block k hk]
  simp only [Lib.bytesWorld, World.freeze]
  rw [if_neg (by decide), Array.getElem?_modify, if_neg (by omega)]
theorem pint_range {l : List UInt8} {v : Int} (h : Lib.parseIntB 64 l = .ok v) : -9223372036854775808 <= v /\ v <= 9223372036854775807 := by
 unfold Lib.parseIntB at h
 split at h
 ·cases h
 ·simp only at h
  split at h
  ·cases h
  ·cases h
  ·split at h
   ·cases h
   ·split at h
    ·cases h
    ·cases h
     split <;> simp_all <;> omega
theorem part_bad (s : ByteArray) (w : World) (hs : s.size <= 100000) (hw : Lb w) (h : ∀ v, Lib.parseIntB 64 s.data.toList ≠ .ok v) :
  Calls Tryz.prog 204 #[.string s] w fun e w' => e = .returned (.tuple #[.int .i64 0, .iface 34 (.int .i64 3)]) /\ Below w.heap.size w w' := by
 have H : Hid (Calls Tryz.prog 210 #[.string s, .int .i64 10, .int .i64 64] w fun e w' => ∃ N x, e = .returned (.tuple #[.int .i64 x, .iface 360 (.pointer (some ⟨N, 0, none⟩))]) /\ Below w.heap.size w w') := by
  cases hp : Lib.parseIntB 64 s.data.toList with
  | ok v => exact absurd hp (h v)
  | «syntax» =>
   obtain ⟨ev, h3, h3'⟩ := hw.es
   exact (Tryz.strconv_ParseInt_10_at64_syntax s (by omega) hp ev w h3 h3').mono fun e w' ⟨N, he, _, _, hb⟩ => ⟨N, _, he, hb⟩
  | range =>
   obtain ⟨ev, h3, h3'⟩ := hw.er
   exact (Tryz.strconv_ParseInt_10_at64_range s (by omega) hp ev w h3 h3').mono fun e w' ⟨N, he, _, _, hb⟩ => ⟨N, _, he, hb⟩
 clear h hw
 go_enter Tryz.func204, Tryz.ntmps204
 go_wp2_with fail
 refine H.out.mono ?_
 rintro e w1 ⟨N, x, rfl, hb⟩
 have HB := Lib.hid hb
 clear hb H
 go_wp2
 go_ret2
 exact ⟨rfl, HB.out⟩
theorem part_ok (s : ByteArray) (w : World) (hs : s.size <= 100000) (hw : Lb w) (v : Int) (h : Lib.parseIntB 64 s.data.toList = .ok v) :
  Calls Tryz.prog 204 #[.string s] w fun e w' => e = .returned (partV (if v < 0 \/ Lib.itoa v ≠ s.data.toList then .error 3 else if 999 < v then .error 2 else .ok v.toNat)) /\ Below w.heap.size w w' := by
 obtain ⟨r0, r1⟩ := pint_range h
 have H : Hid (Calls Tryz.prog 210 #[.string s, .int .i64 10, .int .i64 64] w fun e w' => e = .returned (.tuple #[.int .i64 v, .nilIface]) /\ Below w.heap.size w w') := (Tryz.strconv_ParseInt_10_at64_ok s (by omega) v h w).mono fun e w' ⟨he, hw'⟩ => by
  refine ⟨he, ?_⟩
  rcases hw' with rfl | ⟨t, rfl⟩
  ·exact Below.refl _ _
  ·exact bytesWorld_below w t
 have HF : Hid (∀ W, Below w.heap.size w W -> Calls Tryz.prog 211 #[.int .i64 v, .int .i64 10] W fun e w' => e = .returned (.string ⟨(Lib.itoa v).toArray⟩) /\ Below W.heap.size W w') := fun W hb => (Tryz.strconv_FormatInt_10 v r0 r1 W (hw.below hb).tab).mono fun e w' ⟨he, k, os, hw'⟩ => ⟨he, hw' ▸ grow_below _ W k os (Nat.le_refl _)⟩
 clear h hw
 by_cases hneg : v < 0
 ·rw [if_pos (Or.inl hneg)]
  go_enter Tryz.func204, Tryz.ntmps204
  go_wp2_with fail
  refine H.out.mono ?_
  rintro e w1 ⟨rfl, hb⟩
  have HB := Lib.hid hb
  clear hb H
  go_wp2
  go_ret2
  exact ⟨rfl, HB.out⟩
 ·generalize Lib.itoa v = l at *
  by_cases hl : l = s.data.toList
  ·have heq : (l == s.toList) = true := by rw [ByteArray.toList_eq, hl]; simp
   rw [if_neg (by rintro (h | h); exact hneg h; exact h hl)]
   clear hl
   by_cases hbig : 999 < v
   ·rw [if_pos hbig]
    go_enter Tryz.func204, Tryz.ntmps204
    go_wp2_with fail
    refine H.out.mono ?_
    rintro e w1 ⟨rfl, hb⟩
    have H2 := Lib.hid (HF.out _ hb)
    have HB := Lib.hid hb
    clear hb H HF
    go_wp2_with fail
    refine H2.out.mono ?_
    rintro e w2 ⟨rfl, hb2⟩
    have HB2 : Hid (Below w.heap.size w w2) := HB.out.trans (hb2.mono HB.out.size)
    clear hb2 H2 HB
    go_wp2
    go_ret2
    exact ⟨rfl, HB2.out⟩
   ·rw [if_neg hbig]
    have hv : ((v.toNat : Nat) : Int) = v := by omega
    go_enter Tryz.func204, Tryz.ntmps204
    go_wp2_with fail
    refine H.out.mono ?_
    rintro e w1 ⟨rfl, hb⟩
    have H2 := Lib.hid (HF.out _ hb)
    have HB := Lib.hid hb
    have HV := Lib.hid hv
    clear hb H HF hv
    go_wp2_with fail
    refine H2.out.mono ?_
    rintro e w2 ⟨rfl, hb2⟩
    have HB2 : Hid (Below w.heap.size w w2) := HB.out.trans (hb2.mono HB.out.size)
    clear hb2 H2 HB
    go_wp2
    go_ret2
    exact ⟨(show Ending.returned (.tuple #[.int .i64 v, .nilIface]) = .returned (.tuple #[.int .i64 ((v.toNat : Nat) : Int), .nilIface]) by rw [HV.out]), HB2.out⟩
  ·have heq : (l == s.toList) = false := by rw [ByteArray.toList_eq]; simpa using hl
   rw [if_pos (Or.inr hl)]
   clear hl
   go_enter Tryz.func204, Tryz.ntmps204
   go_wp2_with fail
   refine H.out.mono ?_
   rintro e w1 ⟨rfl, hb⟩
   have H2 := Lib.hid (HF.out _ hb)
   have HB := Lib.hid hb
   clear hb H HF
   go_wp2_with fail
   refine H2.out.mono ?_
   rintro e w2 ⟨rfl, hb2⟩
   have HB2 : Hid (Below w.heap.size w w2) := HB.out.trans (hb2.mono HB.out.size)
   clear hb2 H2 HB
   go_wp2
   go_ret2
   exact ⟨rfl, HB2.out⟩
theorem part_any (s : ByteArray) (w : World) (hs : s.size <= 100000) (hw : Lb w) :
  Calls Tryz.prog 204 #[.string s] w fun e w' => e = .returned (partV (partF s.data.toList)) /\ Below w.heap.size w w' := by
 cases h : Lib.parseIntB 64 s.data.toList with
 | ok v => unfold partF; rw [h]; exact part_ok s w hs hw v h
 | «syntax» => unfold partF; rw [h]; exact part_bad s w hs hw (fun v e => by rw [h] at e; cases e)
 | range => unfold partF; rw [h]; exact part_bad s w hs hw (fun v e => by rw [h] at e; cases e)
end
end Go.Proofs.YtpmpnbbihmgdpaaGreatDoor
