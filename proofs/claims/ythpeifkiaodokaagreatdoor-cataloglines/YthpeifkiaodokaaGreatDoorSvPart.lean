/- What is laid; parsePart. -/
import Derived.Test.YthpeifkiaodokaaGreatDoorSvShelf
import Derived.Test.YthpeifkiaodokaaGreatDoorErTell
import Derived.Test.YthpeifkiaodokaaGreatDoorSvMem
import Derived.Lib.AppendIntMem
namespace Go.Proofs.YthpeifkiaodokaaGreatDoor
open Go.RowKit Go.Shelf Go.Sort Sv

/-- What the library's variables hold. -/
structure Lb (w : World) : Prop where
  ml : ∃ n, w.cell? ⟨4, 0, none⟩ = some (.int .i64 n)
  es : ∃ ev, w.cell? ⟨7, 0, none⟩ = some ev ∧ (ev = .nilIface ∨ ∃ te pe, ev = .iface te pe)
  er : ∃ ev, w.cell? ⟨8, 0, none⟩ = some ev ∧ (ev = .nilIface ∨ ∃ te pe, ev = .iface te pe)
  tab : Lib.TabIs Tryz.prog w "internal/strconv.uint64pow10" .u64 Lib.pow10Tab
  glob : Glob w
  big : 12 ≤ w.heap.size

theorem Lb.below {w w' : World} (h : Lb w) (hb : Below w.heap.size w w') : Lb w' := by
  have hbig := h.big
  obtain ⟨n, h1⟩ := h.ml
  obtain ⟨e3, h3, h3'⟩ := h.es
  obtain ⟨e4, h4, h4'⟩ := h.er
  exact ⟨⟨n, (hb.cell (p := ⟨4, 0, none⟩) (by show 4 < _; omega)).trans h1⟩, ⟨e3, (hb.cell (p := ⟨7, 0, none⟩) (by show 7 < _; omega)).trans h3, h3'⟩, ⟨e4, (hb.cell (p := ⟨8, 0, none⟩) (by show 8 < _; omega)).trans h4, h4'⟩, Lib.tabBelow_of_tabIs h.tab w' hb, h.glob.below hb, Nat.le_trans hbig hb.size⟩
theorem Lb.belowB {B : Nat} {w w' : World} (h : Lb w) (hb : Below B w w') (hB : w.heap.size ≤ B) : Lb w' := h.below (hb.mono hB)

/-- What a part's text tells: a number, or an error. -/
def partF (l : List UInt8) : Except Int Nat :=
  match Lib.parseIntB 64 l with
  | .ok v => if v < 0 ∨ Lib.itoa v ≠ l then .error 3 else if 999 < v then .error 2 else .ok v.toNat
  | _ => .error 3
def partV : Except Int Nat → Value
  | .ok n => .tuple #[.int .i64 (n : Int), .nilIface]
  | .error k => .tuple #[.int .i64 0, .iface 24 (.int .i64 k)]

theorem grow_below (B : Nat) (w : World) (k : Nat) (os : Array Obj) (h : B ≤ w.heap.size) : Below B w (grow (w.drewN k) os) := Lib.below_grow _ w h k os

theorem bytesWorld_below (w : World) (t : ByteArray) : Below w.heap.size w (Lib.bytesWorld w 5 t) := by
  have h := ((Below.refl w.heap.size w).drew).alloc (Nat.le_refl _) (.cells (Lib.bytesCells w 5 t) 5)
  refine ⟨h.os, h.tape, h.output, ?_, fun k hk => ?_⟩
  · exact Nat.le_trans h.size (by simp [Lib.bytesWorld, World.freeze])
  · rw [← h.block k hk]
    simp only [Lib.bytesWorld, World.freeze]
    rw [if_neg (by decide), Array.getElem?_modify, if_neg (by omega)]

theorem pint_range {l : List UInt8} {v : Int} (h : Lib.parseIntB 64 l = .ok v) : -9223372036854775808 ≤ v ∧ v ≤ 9223372036854775807 := by
  unfold Lib.parseIntB at h
  split at h
  · cases h
  · simp only at h
    split at h
    · cases h
    · cases h
    · split at h
      · cases h
      · split at h
        · cases h
        · cases h
          split <;> simp_all <;> omega

set_option maxRecDepth 100000 in
set_option maxHeartbeats 2000000 in
theorem part_bad (s : ByteArray) (w : World) (hs : s.size ≤ 100000) (hw : Lb w) (h : ∀ v, Lib.parseIntB 64 s.data.toList ≠ .ok v) :
    Calls Tryz.prog 135 #[.string s] w fun e w' => e = .returned (.tuple #[.int .i64 0, .iface 24 (.int .i64 3)]) ∧ Below w.heap.size w w' := by
  have H : Hid (Calls Tryz.prog 163 #[.string s, .int .i64 10, .int .i64 64] w fun e w' => ∃ N x, e = .returned (.tuple #[.int .i64 x, .iface 287 (.pointer (some ⟨N, 0, none⟩))]) ∧ Below w.heap.size w w') := by
    cases hp : Lib.parseIntB 64 s.data.toList with
    | ok v => exact absurd hp (h v)
    | «syntax» =>
      obtain ⟨ev, h3, h3'⟩ := hw.es
      exact (Tryz.strconv_ParseInt_10_at64_syntax s (by omega) hp ev w h3 h3').mono fun e w' ⟨N, he, _, _, hb⟩ => ⟨N, _, he, hb⟩
    | range =>
      obtain ⟨ev, h3, h3'⟩ := hw.er
      exact (Tryz.strconv_ParseInt_10_at64_range s (by omega) hp ev w h3 h3').mono fun e w' ⟨N, he, _, _, hb⟩ => ⟨N, _, he, hb⟩
  clear h hw
  go_enter Tryz.func135, Tryz.ntmps135
  go_wp2_with fail
  refine H.out.mono ?_
  rintro e w1 ⟨N, x, rfl, hb⟩
  have HB := Lib.hid hb
  clear hb H
  go_wp2
  go_ret2
  exact ⟨rfl, HB.out⟩

set_option maxRecDepth 100000 in
set_option maxHeartbeats 2000000 in
theorem part_ok (s : ByteArray) (w : World) (hs : s.size ≤ 100000) (hw : Lb w) (v : Int) (h : Lib.parseIntB 64 s.data.toList = .ok v) :
    Calls Tryz.prog 135 #[.string s] w fun e w' => e = .returned (partV (if v < 0 ∨ Lib.itoa v ≠ s.data.toList then .error 3 else if 999 < v then .error 2 else .ok v.toNat)) ∧ Below w.heap.size w w' := by
  obtain ⟨r0, r1⟩ := pint_range h
  have H : Hid (Calls Tryz.prog 163 #[.string s, .int .i64 10, .int .i64 64] w fun e w' => e = .returned (.tuple #[.int .i64 v, .nilIface]) ∧ Below w.heap.size w w') := (Tryz.strconv_ParseInt_10_at64_ok s (by omega) v h w).mono fun e w' ⟨he, hw'⟩ => by
    refine ⟨he, ?_⟩
    rcases hw' with rfl | ⟨t, rfl⟩
    · exact Below.refl _ _
    · exact bytesWorld_below w t
  have HF : Hid (∀ W, Below w.heap.size w W → Calls Tryz.prog 164 #[.int .i64 v, .int .i64 10] W fun e w' => e = .returned (.string ⟨(Lib.itoa v).toArray⟩) ∧ Below W.heap.size W w') := fun W hb => (Tryz.strconv_FormatInt_10 v r0 r1 W (hw.below hb).tab).mono fun e w' ⟨he, k, os, hw'⟩ => ⟨he, hw' ▸ grow_below _ W k os (Nat.le_refl _)⟩
  clear h hw
  by_cases hneg : v < 0
  · rw [if_pos (Or.inl hneg)]
    go_enter Tryz.func135, Tryz.ntmps135
    go_wp2_with fail
    refine H.out.mono ?_
    rintro e w1 ⟨rfl, hb⟩
    have HB := Lib.hid hb
    clear hb H
    go_wp2
    go_ret2
    exact ⟨rfl, HB.out⟩
  · generalize Lib.itoa v = l at *
    by_cases hl : l = s.data.toList
    · have heq : (l == s.toList) = true := by rw [ByteArray.toList_eq, hl]; simp
      rw [if_neg (by rintro (h | h); exact hneg h; exact h hl)]
      clear hl
      by_cases hbig : 999 < v
      · rw [if_pos hbig]
        go_enter Tryz.func135, Tryz.ntmps135
        go_wp2_with fail
        refine H.out.mono ?_
        rintro e w1 ⟨rfl, hb⟩
        have H2 := Lib.hid (HF.out _ hb)
        have HB := Lib.hid hb
        clear hb H HF
        go_wp2_with fail
        refine H2.out.mono ?_
        rintro e w2 ⟨rfl, hb2⟩
        have HB2 : Hid (Below w.heap.size w w2) := HB.out.trans (hb2.mono HB.out.size)
        clear hb2 H2 HB
        go_wp2
        go_ret2
        exact ⟨rfl, HB2.out⟩
      · rw [if_neg hbig]
        have hv : ((v.toNat : Nat) : Int) = v := by omega
        go_enter Tryz.func135, Tryz.ntmps135
        go_wp2_with fail
        refine H.out.mono ?_
        rintro e w1 ⟨rfl, hb⟩
        have H2 := Lib.hid (HF.out _ hb)
        have HB := Lib.hid hb
        have HV := Lib.hid hv
        clear hb H HF hv
        go_wp2_with fail
        refine H2.out.mono ?_
        rintro e w2 ⟨rfl, hb2⟩
        have HB2 : Hid (Below w.heap.size w w2) := HB.out.trans (hb2.mono HB.out.size)
        clear hb2 H2 HB
        go_wp2
        go_ret2
        exact ⟨(show Ending.returned (.tuple #[.int .i64 v, .nilIface]) = .returned (.tuple #[.int .i64 ((v.toNat : Nat) : Int), .nilIface]) by rw [HV.out]), HB2.out⟩
    · have heq : (l == s.toList) = false := by rw [ByteArray.toList_eq]; simpa using hl
      rw [if_pos (Or.inr hl)]
      clear hl
      go_enter Tryz.func135, Tryz.ntmps135
      go_wp2_with fail
      refine H.out.mono ?_
      rintro e w1 ⟨rfl, hb⟩
      have H2 := Lib.hid (HF.out _ hb)
      have HB := Lib.hid hb
      clear hb H HF
      go_wp2_with fail
      refine H2.out.mono ?_
      rintro e w2 ⟨rfl, hb2⟩
      have HB2 : Hid (Below w.heap.size w w2) := HB.out.trans (hb2.mono HB.out.size)
      clear hb2 H2 HB
      go_wp2
      go_ret2
      exact ⟨rfl, HB2.out⟩

/-- The contract of parsePart. -/
theorem part_any (s : ByteArray) (w : World) (hs : s.size ≤ 100000) (hw : Lb w) :
    Calls Tryz.prog 135 #[.string s] w fun e w' => e = .returned (partV (partF s.data.toList)) ∧ Below w.heap.size w w' := by
  cases h : Lib.parseIntB 64 s.data.toList with
  | ok v => unfold partF; rw [h]; exact part_ok s w hs hw v h
  | «syntax» => unfold partF; rw [h]; exact part_bad s w hs hw (fun v e => by rw [h] at e; cases e)
  | range => unfold partF; rw [h]; exact part_bad s w hs hw (fun v e => by rw [h] at e; cases e)
end Go.Proofs.YthpeifkiaodokaaGreatDoor
