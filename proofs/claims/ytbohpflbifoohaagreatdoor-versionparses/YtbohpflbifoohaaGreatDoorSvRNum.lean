/- The reference: the number that a text tells. -/
import Derived.Test.YtbohpflbifoohaaGreatDoorSvPart
namespace Go.Proofs.YtbohpflbifoohaaGreatDoor
open Go.RowKit Go.Shelf Go.Sort Sv

/-- What a text tells: a number that is written so. -/
def numbF (l : List UInt8) : Option Int :=
  match Lib.parseIntB 64 l with
  | .ok v => if Lib.itoa v = l then some v else none
  | _ => none
def numbV : Option Int → Value
  | some v => .tuple #[.int .i64 v, .bool true]
  | none => .tuple #[.int .i64 0, .bool false]

set_option maxRecDepth 100000 in
set_option maxHeartbeats 2000000 in
theorem number_bad (s : ByteArray) (w : World) (hs : s.size ≤ 100000) (hw : Lb w) (h : ∀ v, Lib.parseIntB 64 s.data.toList ≠ .ok v) :
    Calls Tryz.prog 35 #[.string s] w fun e w' => e = .returned (.tuple #[.int .i64 0, .bool false]) ∧ Below w.heap.size w w' := by
  have H : Hid (Calls Tryz.prog 66 #[.string s, .int .i64 10, .int .i64 64] w fun e w' => ∃ N x, e = .returned (.tuple #[.int .i64 x, .iface 143 (.pointer (some ⟨N, 0, none⟩))]) ∧ Below w.heap.size w w') := by
    cases hp : Lib.parseIntB 64 s.data.toList with
    | ok v => exact absurd hp (h v)
    | «syntax» =>
      obtain ⟨ev, h3, h3'⟩ := hw.es
      exact (Tryz.strconv_ParseInt_10_at64_syntax s (by omega) hp ev w h3 h3').mono fun e w' ⟨N, he, _, _, hb⟩ => ⟨N, _, he, hb⟩
    | range =>
      obtain ⟨ev, h3, h3'⟩ := hw.er
      exact (Tryz.strconv_ParseInt_10_at64_range s (by omega) hp ev w h3 h3').mono fun e w' ⟨N, he, _, _, hb⟩ => ⟨N, _, he, hb⟩
  clear h hw
  go_enter Tryz.func35, Tryz.ntmps35
  go_wp2_with fail
  refine H.out.mono ?_
  rintro e w1 ⟨N, x, rfl, hb⟩
  have HB := Lib.hid hb
  clear hb H
  go_wp2
  go_ret2
  exact ⟨rfl, HB.out⟩

set_option maxRecDepth 100000 in
set_option maxHeartbeats 2000000 in
theorem number_ok (s : ByteArray) (w : World) (hs : s.size ≤ 100000) (hw : Lb w) (v : Int) (h : Lib.parseIntB 64 s.data.toList = .ok v) :
    Calls Tryz.prog 35 #[.string s] w fun e w' => e = .returned (numbV (if Lib.itoa v = s.data.toList then some v else none)) ∧ Below w.heap.size w w' := by
  obtain ⟨r0, r1⟩ := pint_range h
  have H : Hid (Calls Tryz.prog 66 #[.string s, .int .i64 10, .int .i64 64] w fun e w' => e = .returned (.tuple #[.int .i64 v, .nilIface]) ∧ Below w.heap.size w w') := (Tryz.strconv_ParseInt_10_at64_ok s (by omega) v h w).mono fun e w' ⟨he, hw'⟩ => by
    refine ⟨he, ?_⟩
    rcases hw' with rfl | ⟨t, rfl⟩
    · exact Below.refl _ _
    · exact bytesWorld_below w t
  have HF : Hid (∀ W, Below w.heap.size w W → Calls Tryz.prog 67 #[.int .i64 v, .int .i64 10] W fun e w' => e = .returned (.string ⟨(Lib.itoa v).toArray⟩) ∧ Below W.heap.size W w') := fun W hb => (Tryz.strconv_FormatInt_10 v r0 r1 W (hw.below hb).tab).mono fun e w' ⟨he, k, os, hw'⟩ => ⟨he, hw' ▸ grow_below _ W k os (Nat.le_refl _)⟩
  clear h hw
  generalize Lib.itoa v = l at *
  by_cases hl : l = s.data.toList
  · have heq : (l == s.toList) = true := by rw [ByteArray.toList_eq, hl]; simp
    rw [if_pos hl]
    clear hl
    go_enter Tryz.func35, Tryz.ntmps35
    go_wp2_with fail
    refine H.out.mono ?_
    rintro e w1 ⟨rfl, hb⟩
    have H2 := Lib.hid (HF.out _ hb)
    have HB := Lib.hid hb
    clear hb H HF
    go_wp2_with fail
    refine H2.out.mono ?_
    rintro e w2 ⟨rfl, hb2⟩
    have HB2 : Hid (Below w.heap.size w w2) := HB.out.trans (hb2.mono HB.out.size)
    clear hb2 H2 HB
    go_wp2
    go_ret2
    exact ⟨rfl, HB2.out⟩
  · have heq : (l == s.toList) = false := by rw [ByteArray.toList_eq]; simpa using hl
    rw [if_neg hl]
    clear hl
    go_enter Tryz.func35, Tryz.ntmps35
    go_wp2_with fail
    refine H.out.mono ?_
    rintro e w1 ⟨rfl, hb⟩
    have H2 := Lib.hid (HF.out _ hb)
    have HB := Lib.hid hb
    clear hb H HF
    go_wp2_with fail
    refine H2.out.mono ?_
    rintro e w2 ⟨rfl, hb2⟩
    have HB2 : Hid (Below w.heap.size w w2) := HB.out.trans (hb2.mono HB.out.size)
    clear hb2 H2 HB
    go_wp2
    go_ret2
    exact ⟨rfl, HB2.out⟩
theorem rnumber_any (s : ByteArray) (w : World) (hs : s.size ≤ 100000) (hw : Lb w) :
    Calls Tryz.prog 35 #[.string s] w fun e w' => e = .returned (numbV (numbF s.data.toList)) ∧ Below w.heap.size w w' := by
  cases h : Lib.parseIntB 64 s.data.toList with
  | ok v => unfold numbF; rw [h]; exact number_ok s w hs hw v h
  | «syntax» => unfold numbF; rw [h]; exact number_bad s w hs hw (fun v e => by rw [h] at e; cases e)
  | range => unfold numbF; rw [h]; exact number_bad s w hs hw (fun v e => by rw [h] at e; cases e)
theorem part_numb (l : List UInt8) : partF l = match numbF l with
    | none => .error 3
    | some v => if v < 0 then .error 3 else if 999 < v then .error 2 else .ok v.toNat := by
  unfold partF numbF
  cases hv : Lib.parseIntB 64 l with
  | ok v =>
    by_cases h : Lib.itoa v = l
    · simp only [h, if_true]
      by_cases hn : v < 0 <;> simp [hn]
    · simp [h]
  | «syntax» => rfl
  | range => rfl
end Go.Proofs.YtbohpflbifoohaaGreatDoor
