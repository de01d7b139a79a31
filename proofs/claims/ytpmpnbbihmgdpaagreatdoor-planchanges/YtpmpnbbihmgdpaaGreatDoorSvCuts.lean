/- How many pieces there are between marks of one byte; the parts of a version. -/
import Derived.Test.YtpmpnbbihmgdpaaGreatDoorErErrs
import Derived.Test.YtpmpnbbihmgdpaaGreatDoorSvMem
import Derived.Lib.AppendIntMem
import Derived.Test.YtpmpnbbihmgdpaaGreatDoorProg
import Derived.RangeFuncNested
import Derived.RangeFuncBound
import Derived.RangeFuncCalls
import Derived.RangeFuncLeaves
import Derived.Shelf.Abstract
import Derived.Shelf.RegionOpen
import Derived.WalkKit
import Derived.OwnWalkIn
import Derived.TacticsInMore
import Derived.LoopNIn
import Derived.LoopIn
import Derived.Lib.Hide
set_option maxHeartbeats 4000000
set_option maxRecDepth 100000
namespace Go.Proofs.YtpmpnbbihmgdpaaGreatDoor
section
open Go.RowKit Go.Shelf Go.Sort Sv
structure Lb (w : World) : Prop where
 ml : ∃ n, w.cell? ⟨4, 0, none⟩ = some (.int .i64 n)
 es : ∃ ev, w.cell? ⟨8, 0, none⟩ = some ev /\ (ev = .nilIface \/ ∃ te pe, ev = .iface te pe)
 er : ∃ ev, w.cell? ⟨9, 0, none⟩ = some ev /\ (ev = .nilIface \/ ∃ te pe, ev = .iface te pe)
 tab : Lib.TabIs Tryz.prog w "internal/strconv.uint64pow10" .u64 Lib.pow10Tab
 glob : Glob w
 big : 12 <= w.heap.size
theorem Lb.below {w w' : World} (h : Lb w) (hb : Below w.heap.size w w') : Lb w' := by
 have hbig := h.big
 obtain ⟨n, h1⟩ := h.ml
 obtain ⟨e3, h3, h3'⟩ := h.es
 obtain ⟨e4, h4, h4'⟩ := h.er
 exact ⟨⟨n, (hb.cell (p := ⟨4, 0, none⟩) (by show 4 < _; omega)).trans h1⟩, ⟨e3, (hb.cell (p := ⟨8, 0, none⟩) (by show 8 < _; omega)).trans h3, h3'⟩, ⟨e4, (hb.cell (p := ⟨9, 0, none⟩) (by show 9 < _; omega)).trans h4, h4'⟩, Lib.tabBelow_of_tabIs h.tab w' hb, h.glob.below hb, Nat.le_trans hbig hb.size⟩
def partF (l : List UInt8) : Except Int Nat :=
 match Lib.parseIntB 64 l with
 | .ok v => if v < 0 \/ Lib.itoa v ≠ l then .error 3 else if 999 < v then .error 2 else .ok v.toNat
 | _ => .error 3
def partV : Except Int Nat -> Value
 | .ok n => .tuple #[.int .i64 (n : Int), .nilIface]
 | .error k => .tuple #[.int .i64 0, .iface 34 (.int .i64 k)]
theorem grow_below (B : Nat) (w : World) (k : Nat) (os : Array Obj) (h : B <= w.heap.size) : Below B w (grow (w.drewN k) os) := Lib.below_grow _ w h k os
theorem bytesWorld_below (w : World) (t : ByteArray) : Below w.heap.size w (Lib.bytesWorld w 5 t) := by
 have h := ((Below.refl w.heap.size w).drew).alloc (Nat.le_refl _) (.cells (Lib.bytesCells w 5 t) 5)
 refine ⟨h.os, h.tape, h.output, ?_, fun k hk => ?_⟩
 ·exact Nat.le_trans h.size (by simp [Lib.bytesWorld, World.freeze])
 ·rw [<- h.block k hk]
  simp only [Lib.bytesWorld, World.freeze]
  rw [if_neg (by decide), Array.getElem?_modify, if_neg (by omega)]
theorem pint_range {l : List UInt8} {v : Int} (h : Lib.parseIntB 64 l = .ok v) : -9223372036854775808 <= v /\ v <= 9223372036854775807 := by
 unfold Lib.parseIntB at h
 split at h
 ·cases h
 ·simp only at h
  split at h
  ·cases h
  ·cases h
  ·split at h
   ·cases h
   ·split at h
    ·cases h
    ·cases h
     split <;> simp_all <;> omega
theorem part_bad (s : ByteArray) (w : World) (hs : s.size <= 100000) (hw : Lb w) (h : ∀ v, Lib.parseIntB 64 s.data.toList ≠ .ok v) :
  Calls Tryz.prog 204 #[.string s] w fun e w' => e = .returned (.tuple #[.int .i64 0, .iface 34 (.int .i64 3)]) /\ Below w.heap.size w w' := by
 have H : Hid (Calls Tryz.prog 210 #[.string s, .int .i64 10, .int .i64 64] w fun e w' => ∃ N x, e = .returned (.tuple #[.int .i64 x, .iface 360 (.pointer (some ⟨N, 0, none⟩))]) /\ Below w.heap.size w w') := by
  cases hp : Lib.parseIntB 64 s.data.toList with
  | ok v => exact absurd hp (h v)
  | «syntax» =>
   obtain ⟨ev, h3, h3'⟩ := hw.es
   exact (Tryz.strconv_ParseInt_10_at64_syntax s (by omega) hp ev w h3 h3').mono fun e w' ⟨N, he, _, _, hb⟩ => ⟨N, _, he, hb⟩
  | range =>
   obtain ⟨ev, h3, h3'⟩ := hw.er
   exact (Tryz.strconv_ParseInt_10_at64_range s (by omega) hp ev w h3 h3').mono fun e w' ⟨N, he, _, _, hb⟩ => ⟨N, _, he, hb⟩
 clear h hw
 go_enter Tryz.func204, Tryz.ntmps204
 go_wp2_with fail
 refine H.out.mono ?_
 rintro e w1 ⟨N, x, rfl, hb⟩
 have HB := Lib.hid hb
 clear hb H
 go_wp2
 go_ret2
 exact ⟨rfl, HB.out⟩
theorem part_ok (s : ByteArray) (w : World) (hs : s.size <= 100000) (hw : Lb w) (v : Int) (h : Lib.parseIntB 64 s.data.toList = .ok v) :
  Calls Tryz.prog 204 #[.string s] w fun e w' => e = .returned (partV (if v < 0 \/ Lib.itoa v ≠ s.data.toList then .error 3 else if 999 < v then .error 2 else .ok v.toNat)) /\ Below w.heap.size w w' := by
 obtain ⟨r0, r1⟩ := pint_range h
 have H : Hid (Calls Tryz.prog 210 #[.string s, .int .i64 10, .int .i64 64] w fun e w' => e = .returned (.tuple #[.int .i64 v, .nilIface]) /\ Below w.heap.size w w') := (Tryz.strconv_ParseInt_10_at64_ok s (by omega) v h w).mono fun e w' ⟨he, hw'⟩ => by
  refine ⟨he, ?_⟩
  rcases hw' with rfl | ⟨t, rfl⟩
  ·exact Below.refl _ _
  ·exact bytesWorld_below w t
 have HF : Hid (∀ W, Below w.heap.size w W -> Calls Tryz.prog 211 #[.int .i64 v, .int .i64 10] W fun e w' => e = .returned (.string ⟨(Lib.itoa v).toArray⟩) /\ Below W.heap.size W w') := fun W hb => (Tryz.strconv_FormatInt_10 v r0 r1 W (hw.below hb).tab).mono fun e w' ⟨he, k, os, hw'⟩ => ⟨he, hw' ▸ grow_below _ W k os (Nat.le_refl _)⟩
 clear h hw
 by_cases hneg : v < 0
 ·rw [if_pos (Or.inl hneg)]
  go_enter Tryz.func204, Tryz.ntmps204
  go_wp2_with fail
  refine H.out.mono ?_
  rintro e w1 ⟨rfl, hb⟩
  have HB := Lib.hid hb
  clear hb H
  go_wp2
  go_ret2
  exact ⟨rfl, HB.out⟩
 ·generalize Lib.itoa v = l at *
  by_cases hl : l = s.data.toList
  ·have heq : (l == s.toList) = true := by rw [ByteArray.toList_eq, hl]; simp
   rw [if_neg (by rintro (h | h); exact hneg h; exact h hl)]
   clear hl
   by_cases hbig : 999 < v
   ·rw [if_pos hbig]
    go_enter Tryz.func204, Tryz.ntmps204
    go_wp2_with fail
    refine H.out.mono ?_
    rintro e w1 ⟨rfl, hb⟩
    have H2 := Lib.hid (HF.out _ hb)
    have HB := Lib.hid hb
    clear hb H HF
    go_wp2_with fail
    refine H2.out.mono ?_
    rintro e w2 ⟨rfl, hb2⟩
    have HB2 : Hid (Below w.heap.size w w2) := HB.out.trans (hb2.mono HB.out.size)
    clear hb2 H2 HB
    go_wp2
    go_ret2
    exact ⟨rfl, HB2.out⟩
   ·rw [if_neg hbig]
    have hv : ((v.toNat : Nat) : Int) = v := by omega
    go_enter Tryz.func204, Tryz.ntmps204
    go_wp2_with fail
    refine H.out.mono ?_
    rintro e w1 ⟨rfl, hb⟩
    have H2 := Lib.hid (HF.out _ hb)
    have HB := Lib.hid hb
    have HV := Lib.hid hv
    clear hb H HF hv
    go_wp2_with fail
    refine H2.out.mono ?_
    rintro e w2 ⟨rfl, hb2⟩
    have HB2 : Hid (Below w.heap.size w w2) := HB.out.trans (hb2.mono HB.out.size)
    clear hb2 H2 HB
    go_wp2
    go_ret2
    exact ⟨(show Ending.returned (.tuple #[.int .i64 v, .nilIface]) = .returned (.tuple #[.int .i64 ((v.toNat : Nat) : Int), .nilIface]) by rw [HV.out]), HB2.out⟩
  ·have heq : (l == s.toList) = false := by rw [ByteArray.toList_eq]; simpa using hl
   rw [if_pos (Or.inr hl)]
   clear hl
   go_enter Tryz.func204, Tryz.ntmps204
   go_wp2_with fail
   refine H.out.mono ?_
   rintro e w1 ⟨rfl, hb⟩
   have H2 := Lib.hid (HF.out _ hb)
   have HB := Lib.hid hb
   clear hb H HF
   go_wp2_with fail
   refine H2.out.mono ?_
   rintro e w2 ⟨rfl, hb2⟩
   have HB2 : Hid (Below w.heap.size w w2) := HB.out.trans (hb2.mono HB.out.size)
   clear hb2 H2 HB
   go_wp2
   go_ret2
   exact ⟨rfl, HB2.out⟩
theorem part_any (s : ByteArray) (w : World) (hs : s.size <= 100000) (hw : Lb w) :
  Calls Tryz.prog 204 #[.string s] w fun e w' => e = .returned (partV (partF s.data.toList)) /\ Below w.heap.size w w' := by
 cases h : Lib.parseIntB 64 s.data.toList with
 | ok v => unfold partF; rw [h]; exact part_ok s w hs hw v h
 | «syntax» => unfold partF; rw [h]; exact part_bad s w hs hw (fun v e => by rw [h] at e; cases e)
 | range => unfold partF; rw [h]; exact part_bad s w hs hw (fun v e => by rw [h] at e; cases e)
end
section
open Go.RowKit Go.Shelf
attribute [local go_sem] Oper.semAt_some
theorem pieces_in (s m : ByteArray) (w : World) :
  CallsIn Fence.wide 3 Tryz.prog 117 #[.string s, .string m] w fun e w' => e = .returned (.func (.func 175) #[] #[.pointer (some ⟨w.heap.size, 0, none⟩), .pointer (some ⟨w.heap.size + 1, 0, none⟩)]) /\ w' = (w.alloc (.cells #[.string s] 9)).alloc (.cells #[.string m] 9) := by
 refine callsIn_of_wp Tryz.func117 rfl trivial ?_ rfl
 simp only [Tryz.ntmps117, List.size_toArray, List.length_cons, List.length_nil, Nat.reduceAdd, Nat.reduceSub, Array.replicate_succ, Array.replicate_zero, List.push_toArray, List.append_toArray, List.nil_append, List.cons_append]
 gi_wp2
 go_ret
 exact ⟨rfl, rfl⟩
def cutB (s m : ByteArray) : Nat -> Nat -> List (Nat × ByteArray)
 | 0, k => [(k, s.extract k s.size)]
 | f + 1, k => if Lib.index (s.extract k s.size).data.toList m.data.toList < 0 then [(k, s.extract k s.size)] else (k, s.extract k (k + (Lib.index (s.extract k s.size).data.toList m.data.toList).toNat)) :: cutB s m f (k + (Lib.index (s.extract k s.size).data.toList m.data.toList).toNat + m.size)
theorem index_room : ∀ (l sub : List UInt8), 0 <= Lib.index l sub -> (Lib.index l sub).toNat + sub.length <= l.length := by
 intro l
 induction l with
 | nil =>
  intro sub h
  unfold Lib.index at h ⊢
  cases sub with
  | nil => simp
  | cons c t => simp at h
 | cons b l ih =>
  intro sub h
  unfold Lib.index at h ⊢
  by_cases hp : sub.isPrefixOf (b :: l) = true
  ·rw [if_pos hp]
   have := (List.isPrefixOf_iff_prefix.1 hp).length_le
   simpa using this
  ·rw [if_neg hp] at h ⊢
   by_cases he : Lib.index l sub = -1
   ·rw [if_pos (by simp [he])] at h; omega
   ·rw [if_neg (by simpa using he)] at h ⊢
    have := ih sub (by omega)
    simp only [List.length_cons]; omega
theorem cutB_pos (s m : ByteArray) (f k : Nat) : 0 < (cutB s m f k).length := by
 cases f with
 | zero => simp [cutB]
 | succ f => rw [cutB]; split <;> simp
theorem cutB_end {s m : ByteArray} {k : Nat} (h : Lib.index (s.extract k s.size).data.toList m.data.toList < 0) : ∀ f, cutB s m f k = [(k, s.extract k s.size)]
 | 0 => rfl
 | f + 1 => by rw [cutB, if_pos h]
theorem cutB_step {s m : ByteArray} {k f j : Nat} (h : Lib.index (s.extract k s.size).data.toList m.data.toList = (j : Int)) : cutB s m (f + 1) k = (k, s.extract k (k + j)) :: cutB s m f (k + j + m.size) := by
 rw [cutB, if_neg (by omega), h]; rfl
abbrev Pc := { x : Nat × ByteArray // x.1 <= 100000 /\ x.2.size <= 100000 }
abbrev raws (l : List Pc) : List (Nat × ByteArray) := l.map Subtype.val
def Kp2 (bt bm : Nat) (W W' : World) : Prop := W'.cell? ⟨bt, 0, none⟩ = W.cell? ⟨bt, 0, none⟩ /\ W'.cell? ⟨bm, 0, none⟩ = W.cell? ⟨bm, 0, none⟩ /\ W'.cell? ⟨4, 0, none⟩ = W.cell? ⟨4, 0, none⟩
theorem pieces1_in (l bt bm : Nat) (s m : ByteArray) (hs : s.size <= 100000) (hm : 0 < m.size) (J Jx : List Pc -> World -> Prop)
  (hJd : ∀ pre W, J pre W -> J pre W.drew)
  (hY : ∀ pre x W, J pre W -> pre.length < (cutB s m s.size 0).length -> YieldAt Fence.wide (3 - 1) Tryz.prog l #[.int .i64 (x.1.1 : Int), .string x.1.2] W fun e W' =>
   (e = .returned (.bool true) /\ J (pre ++ [x]) W' /\ Kp2 bt bm W W') \/ (e = .returned (.bool false) /\ Jx (pre ++ [x]) W'))
  (W : World) (h0 : W.cell? ⟨bt, 0, none⟩ = some (.string s)) (h1 : W.cell? ⟨bm, 0, none⟩ = some (.string m)) (n : Int) (hn0 : W.cell? ⟨4, 0, none⟩ = some (.int .i64 n)) (hJ : J [] W) :
  CallsIn Fence.wide 3 Tryz.prog 175 #[.func (.yield l) #[] #[], .pointer (some ⟨bt, 0, none⟩), .pointer (some ⟨bm, 0, none⟩)] W fun e W' => (∃ v, e = .returned v) /\ ((∃ ys, raws ys = cutB s m s.size 0 /\ J ys W') \/ (∃ pre, raws pre <+: cutB s m s.size 0 /\ Jx pre W')) := by
 have HY := Lib.hid hY
 have HJD := Lib.hid hJd
 clear hY hJd
 refine callsIn_of_wp Tryz.func175 rfl trivial ?_ rfl
 simp only [Tryz.ntmps175, List.size_toArray, List.length_cons, List.length_nil, Nat.reduceAdd, Nat.reduceSub, Array.replicate_succ, Array.replicate_zero, List.push_toArray, List.append_toArray, List.nil_append, List.cons_append]
 gi_wp2
 gi_loopw [4] (fun p wr => ∃ (pre : List Pc) (k f : Nat), p = .int .i64 (k : Int) /\ k <= s.size /\ s.size <= k + f /\ pre.length + f <= s.size /\ raws pre ++ cutB s m f k = cutB s m s.size 0 /\ wr.cell? ⟨bt, 0, none⟩ = some (.string s) /\ wr.cell? ⟨bm, 0, none⟩ = some (.string m) /\ wr.cell? ⟨4, 0, none⟩ = some (.int .i64 n) /\ J pre wr)
  (fun p _ => s.size + 1 - (intOf p).toNat)
 case atStart => exact ⟨[], 0, s.size, rfl, Nat.zero_le _, by omega, by simp, rfl, h0, h1, hn0, hJ⟩
 case round =>
  obtain ⟨pre, k, f, rfl, hk, hf, hpl, hcut, c0, c1, hn, hJs⟩ := hrel
  have HJ := Lib.hid hJs
  have HC := Lib.hid hcut
  clear hJs hcut
  have HN := Lib.hid hn
  clear hn
  have hmx : Tryz.prog.follows .mixedOrders = true := by kernel_rfl
  obtain ⟨q, hq⟩ : ∃ q : Int, Lib.index (s.extract k s.size).data.toList m.data.toList = q := ⟨_, rfl⟩
  have hx : (s.extract k s.size).size = s.size - k := by rw [ByteArray.size_extract]; omega
  have HI : Hid (∀ W', W'.cell? ⟨4, 0, none⟩ = some (.int .i64 n) -> CallsIn Fence.wide 2 Tryz.prog 162 #[.string (s.extract k s.size), .string m] W' fun e w' => e = .returned (.int .i64 q) /\ w' = W') := fun W' h => callsIn_wide.2 (hq ▸ Tryz.strings_Index (s.extract k s.size) m n W' (by rw [ByteArray.size_extract]; omega) h)
  have hn2 : wr.drew.cell? ⟨4, 0, none⟩ = some (.int .i64 n) := HN.out
  have HN2 := Lib.hid hn2
  have HQ := Lib.hid hq
  have hlen : pre.length < (cutB s m s.size 0).length := by rw [<- HC.out, List.length_append, List.length_map]; have := cutB_pos s m f k; omega
  have HX := Lib.hid hx
  clear hn2 hq hx
  have hd : 1 <= 3 - 1 := by omega
  by_cases hneg : q < 0
  ·obtain ⟨fn, tmps, assign, body, hy, hR⟩ := HY.out pre ⟨(k, s.extract k s.size), by simp only; omega, by simp only; rw [HX.out]; omega⟩ wr.drew (HJD.out _ _ HJ.out) hlen
   dsimp only at hy
   gi_wp2
   gi_region_with_o (refine ⟨trivial, ?_⟩; gi_at_call 162; refine (HI.out _ HN2.out).mono ?_; rintro e w' ⟨rfl, rfl⟩)
   all_goals gi_wp2
   all_goals
    refine hR.mono ?_
    rintro e W3 (⟨rfl, hJ3, hk3⟩ | ⟨rfl, hJx3⟩)
    ·gi_wp2
     refine bodyPost_ret (results_none rfl _ _ _) rfl ?_
     have hc := HC.out
     rw [cutB_end (by rw [HQ.out]; exact hneg)] at hc
     exact ⟨⟨_, rfl⟩, .inl ⟨_, by rw [raws, List.map_append]; exact hc, hJ3⟩⟩
    ·gi_wp2
     refine bodyPost_ret (results_none rfl _ _ _) rfl ?_
     have hc := HC.out
     rw [cutB_end (by rw [HQ.out]; exact hneg)] at hc
     exact ⟨⟨_, rfl⟩, .inr ⟨_, ⟨[], by rw [List.append_nil, raws, List.map_append]; exact hc⟩, hJx3⟩⟩
  ·obtain ⟨j, rfl⟩ : ∃ j : Nat, q = (j : Int) := ⟨q.toNat, by omega⟩
   have hroom := index_room (s.extract k s.size).data.toList m.data.toList (by rw [HQ.out]; omega)
   rw [HQ.out] at hroom
   have hx := HX.out
   have hxl : (s.extract k s.size).data.toList.length = s.size - k := by rw [<- hx]; simp
   have hml : m.data.toList.length = m.size := by simp
   rw [hxl, hml] at hroom
   simp only [Int.toNat_natCast] at hroom
   obtain ⟨f', rfl⟩ : ∃ f', f = f' + 1 := ⟨f - 1, by omega⟩
   have hcut := HC.out
   rw [cutB_step HQ.out, List.append_cons] at hcut
   have HC2 := Lib.hid hcut
   have hk1 : k <= 100000 := by omega
   have hx2 : (s.extract k (k + j)).size <= 100000 := by rw [ByteArray.size_extract]; omega
   clear hx hxl hml hcut HC
   obtain ⟨fn, tmps, assign, body, hy, hR⟩ := HY.out pre ⟨(k, s.extract k (k + j)), hk1, hx2⟩ wr.drew (HJD.out _ _ HJ.out) hlen
   dsimp only at hy
   have i0 : (0 : Int) <= (k : Int) := by omega
   have i1 : (k : Int) <= (k : Int) + (j : Int) := by omega
   have i2 : (k : Int) + (j : Int) <= (s.size : Int) := by omega
   have hsl := fun W' => run_slice_string (P := Tryz.prog) W' 9 s .i64 .i64 (k : Int) ((k : Int) + (j : Int)) Tryz.underlying9 i0 i1 i2
   have e1 : ((k : Int) + (j : Int)).toNat = k + j := by omega
   simp only [e1, Int.toNat_natCast] at hsl
   clear e1
   gi_wp2
   gi_region_with_o (refine ⟨trivial, ?_⟩; gi_at_call 162; refine (HI.out _ HN2.out).mono ?_; rintro e w' ⟨rfl, rfl⟩)
   all_goals gi_wp2
   all_goals
    refine hR.mono ?_
    rintro e W3 (⟨rfl, hJ3, hk3⟩ | ⟨rfl, hJx3⟩)
    ·have d0 : W3.cell? ⟨bt, 0, none⟩ = some (.string s) := hk3.1.trans c0
     have d1 : W3.cell? ⟨bm, 0, none⟩ = some (.string m) := hk3.2.1.trans c1
     have d2 : Hid (W3.cell? ⟨4, 0, none⟩ = some (.int .i64 n)) := hk3.2.2.trans HN.out
     have HJ3 := Lib.hid hJ3
     clear hJ3 hk3
     gi_wp2
     go_roundw
     case rel => exact ⟨pre ++ [⟨(k, s.extract k (k + j)), hk1, hx2⟩], k + j + m.size, f', by go_num, by omega, by omega, by simp; omega, by rw [raws, List.map_append]; exact HC2.out, d0, d1, d2.out, HJ3.out⟩
     case measure => simp [intOf]; omega
    ·gi_wp2
     refine bodyPost_ret (results_none rfl _ _ _) rfl ?_
     exact ⟨⟨_, rfl⟩, .inr ⟨_, ⟨_, by rw [raws, List.map_append]; exact HC2.out⟩, hJx3⟩⟩
theorem grown_drew (W : World) : W.grownBy W.drew none := ⟨rfl, rfl, rfl, Nat.le_refl _, fun _ _ _ => rfl⟩
abbrev encP (x : Pc) : Array Value := #[.int .i64 (x.1.1 : Int), .string x.1.2]
theorem pieces_stops (bt bm : Nat) (s m : ByteArray) (hs : s.size <= 100000) (hm : 0 < m.size) (w : World) (hbt : bt < w.heap.size) (hbm : bm < w.heap.size) (h1 : 4 < w.heap.size) (c0 : w.cell? ⟨bt, 0, none⟩ = some (.string s)) (c1 : w.cell? ⟨bm, 0, none⟩ = some (.string m)) (n : Int) (c2 : w.cell? ⟨4, 0, none⟩ = some (.int .i64 n)) :
  SeqStopsK Fence.wide 3 Tryz.prog 175 #[.pointer (some ⟨bt, 0, none⟩), .pointer (some ⟨bm, 0, none⟩)] encP (Kp2 bt bm) (fun ys => raws ys = cutB s m s.size 0) (fun pre => raws pre <+: cutB s m s.size 0) (cutB s m s.size 0).length w := fun l J Jx W hW hJ _ hY h0 =>
 pieces1_in l bt bm s m hs hm J Jx (fun pre W h => hJ pre W _ none h (grown_drew W) (fun r e => by cases e)) hY W ((hW.cell (p := ⟨bt, 0, none⟩) hbt).trans c0) ((hW.cell (p := ⟨bm, 0, none⟩) hbm).trans c1) n ((hW.cell (p := ⟨4, 0, none⟩) h1).trans c2) h0
theorem kp2_t {bt bm : Nat} {A B C : World} (h : Kp2 bt bm A B) (k : Kp2 bt bm B C) : Kp2 bt bm A C := ⟨k.1.trans h.1, k.2.1.trans h.2.1, k.2.2.trans h.2.2⟩
theorem cell_put {W : World} {l b i : Nat} {o' : Obj} (h : b ≠ l) : (W.putObj l o').cell? ⟨b, i, none⟩ = W.cell? ⟨b, i, none⟩ := by
 unfold World.cell?; rw [World.putObj_heap_other h]
theorem kp2_b {bt bm : Nat} {w : World} (hbt : bt < w.heap.size) (hbm : bm < w.heap.size) (h1 : 4 < w.heap.size) (W : World) (l : Nat) (o o' : Obj) (hl : w.heap.size <= l) (_ : W.heap[l]? = some o) (_ : o.isCells = false) (_ : o.isWalk = false) : Kp2 bt bm W (W.putObj l o') :=
 ⟨cell_put (by omega), cell_put (by omega), cell_put (by omega)⟩
theorem kp2_below {bt bm B : Nat} {W W' : World} (h : Below B W W') (h1 : bt < B) (h2 : bm < B) (h3 : 4 < B) : Kp2 bt bm W W' := ⟨h.cell (p := ⟨bt, 0, none⟩) h1, h.cell (p := ⟨bm, 0, none⟩) h2, h.cell (p := ⟨4, 0, none⟩) h3⟩
end
section
open Go.RowKit
def Blk (W : World) (b : Nat) (t : TypeId) (cs : Array Value) : Prop := W.heap[b]? = some (.cells cs t (0, 0))
theorem Blk.lt {W : World} {b : Nat} {t : TypeId} {cs : Array Value} (h : Blk W b t cs) : b < W.heap.size := (Array.getElem?_eq_some_iff.1 h).1
theorem Blk.cell {W : World} {b : Nat} {t : TypeId} {cs : Array Value} (h : Blk W b t cs) (i : Nat) : W.cell? ⟨b, i, none⟩ = cs[i]? := by
 simp [World.cell?, show W.heap[b]? = _ from h]
theorem Blk.frozen {W : World} {b : Nat} {t : TypeId} {cs : Array Value} (h : Blk W b t cs) (i : Nat) : W.frozen? ⟨b, i, none⟩ = false := by simp [World.frozen?, show W.heap[b]? = _ from h]
theorem Blk.new (W : World) (t : TypeId) (cs : Array Value) : Blk (W.alloc (.cells cs t)) W.heap.size t cs := World.alloc_heap_new W _
theorem Blk.kept {W W' : World} {row : Option Nat} {b : Nat} {t : TypeId} {cs : Array Value} (h : Blk W b t cs) (hg : W.grownBy W' row) (hne : some b ≠ row) : Blk W' b t cs := (hg.block b h.lt hne).trans h
theorem Blk.alloc {W : World} {b : Nat} {t : TypeId} {cs : Array Value} (h : Blk W b t cs) (o : Obj) : Blk (W.alloc o) b t cs := h.kept (World.grownBy_alloc W o none) (by simp)
theorem Blk.below {B : Nat} {W W' : World} {b : Nat} {t : TypeId} {cs : Array Value} (h : Blk W b t cs) (hb : Below B W W') (hB : b < B) : Blk W' b t cs := (hb.block b hB).trans h
theorem Blk.other {W : World} {b b' i : Nat} {t : TypeId} {cs : Array Value} {v : Value} (h : Blk W b t cs) (hne : b ≠ b') : Blk (W.setCell ⟨b', i, none⟩ v) b t cs := (Below.heap_setCell _ _ _ b hne).trans h
theorem Blk.put {W : World} {b l : Nat} {t : TypeId} {cs : Array Value} {o' : Obj} (h : Blk W b t cs) (hne : b ≠ l) : Blk (W.putObj l o') b t cs := (World.putObj_heap_other hne).trans h
theorem Blk.set {W : World} {b i : Nat} {t : TypeId} {cs : Array Value} {v : Value} (h : Blk W b t cs) : Blk (W.setCell ⟨b, i, none⟩ v) b t (cs.setIfInBounds i v) := by
 obtain ⟨hlt, hk⟩ := Array.getElem?_eq_some_iff.1 h
 show (W.heap.modify b _)[b]? = _
 rw [Array.getElem?_eq_getElem (by rw [Array.size_modify]; exact hlt), Array.getElem_modify_self, hk]
 rfl
end
section
open Go.RowKit Go.Shelf
theorem blk_own {β : Type} (b : Nat) (t : TypeId) (f : β -> Array Value) : Own (fun s W => Blk W b t (f s)) := by
 intro s W W' row h hg hr
 refine Blk.kept h hg (fun e => ?_)
 obtain ⟨o, ho, hc⟩ := hr b e.symm
 rw [show W.heap[b]? = _ from h] at ho
 cases ho; cases hc
theorem cell_set_other {W : World} {b b' i j : Nat} {v : Value} (h : b ≠ b') : (W.setCell ⟨b', i, none⟩ v).cell? ⟨b, j, none⟩ = W.cell? ⟨b, j, none⟩ := by
 unfold World.cell?; rw [Below.heap_setCell _ _ _ b h]
theorem kp2_set {bt bm b i : Nat} {W W' : World} {v : Value} (h : Kp2 bt bm W W') (h1 : bt ≠ b) (h2 : bm ≠ b) (h3 : 4 ≠ b) : Kp2 bt bm W (W'.setCell ⟨b, i, none⟩ v) :=
 ⟨(cell_set_other h1).trans h.1, (cell_set_other h2).trans h.2.1, (cell_set_other h3).trans h.2.2⟩
theorem size_own {β : Type} (B N : Nat) : OwnFrom B (fun (_ : β) (W : World) => N <= W.heap.size) := fun _ _ _ _ hs hg _ => Nat.le_trans hs hg.size
theorem keepsOthers_below {W W' : World} (h : Below W.heap.size W W') : KeepsOthers W W' := ⟨h.size, fun k o hk _ => by rw [h.block k (Array.getElem?_eq_some_iff.1 hk).1]; exact hk⟩
end
section
open Go.RowKit Go.Shelf Sv
theorem index_byte : ∀ (l : List UInt8) (c : UInt8), (Lib.index l [c] < 0 /\ l.count c = 0) \/ ∃ j : Nat, Lib.index l [c] = (j : Int) /\ l.count c = (l.drop (j + 1)).count c + 1 := by
 intro l c
 induction l with
 | nil => exact .inl ⟨by simp [Lib.index], by simp⟩
 | cons b l ih =>
  by_cases h : c = b
  ·subst h
   refine .inr ⟨0, ?_, by simp⟩
   unfold Lib.index
   simp [List.isPrefixOf]
  ·have hp : List.isPrefixOf [c] (b :: l) = false := by simp [List.isPrefixOf, h]
   have hcount : (b :: l).count c = l.count c := List.count_cons_of_ne (by simpa using fun e => h e.symm)
   rcases ih with ⟨h1, h2⟩ | ⟨j, h1, h2⟩
   ·refine .inl ⟨?_, by rw [hcount, h2]⟩
    have : Lib.index l [c] = -1 := by have := Lib.index_ge l [c]; omega
    unfold Lib.index
    rw [hp, this]; simp
   ·refine .inr ⟨j + 1, ?_, by rw [hcount, h2]; simp⟩
    unfold Lib.index
    rw [hp, h1]
    simp
theorem cuts_count (s : ByteArray) (c : UInt8) : ∀ (f k : Nat), s.size <= k + f -> k <= s.size -> (cutB s ⟨#[c]⟩ f k).length = (s.data.toList.drop k).count c + 1 := by
 intro f
 induction f with
 | zero =>
  intro k h1 h2
  obtain rfl : k = s.size := by omega
  have : s.data.toList.drop s.size = [] := List.drop_eq_nil_of_le (by simp)
  rw [this]; simp [cutB]
 | succ f ih =>
  intro k h1 h2
  have hx : (s.extract k s.size).data.toList = s.data.toList.drop k := Lib.extract_to_end s k
  have hl : s.data.toList.length = s.size := by simp
  rcases index_byte (s.data.toList.drop k) c with ⟨h3, h4⟩ | ⟨j, h3, h4⟩
  ·rw [cutB_end (by rw [hx]; exact h3), h4]; rfl
  ·rw [cutB_step (j := j) (by rw [hx]; exact h3), List.length_cons]
   have hr := index_room (s.data.toList.drop k) [c] (by rw [h3]; omega)
   rw [h3] at hr
   simp only [List.length_drop, List.length_cons, List.length_nil, Int.toNat_natCast, hl] at hr
   have hm : (⟨#[c]⟩ : ByteArray).size = 1 := rfl
   rw [ih _ (by rw [hm]; omega) (by rw [hm]; omega), h4, hm, List.drop_drop]
   congr 3
def partsF : List (Nat × ByteArray) -> Except Int (List Nat)
 | [] => .ok []
 | x :: r => match partF x.2.data.toList with
  | .error k => .error k
  | .ok n => match partsF r with
   | .error k => .error k
   | .ok ns => .ok (n :: ns)
theorem partsF_len : ∀ {l : List (Nat × ByteArray)} {ns : List Nat}, partsF l = .ok ns -> ns.length = l.length := by
 intro l
 induction l with
 | nil => intro ns h; cases h; rfl
 | cons x r ih =>
  intro ns h
  unfold partsF at h
  split at h
  ·cases h
  ·split at h
   ·cases h
   ·rename_i ns' h'
    cases h
    simp [ih h']
theorem partsF_app_error {l r : List (Nat × ByteArray)} {k : Int} (h : partsF l = .error k) : partsF (l ++ r) = .error k := by
 induction l with
 | nil => cases h
 | cons x l ih =>
  unfold partsF at h
  rw [List.cons_append, partsF]
  split at h
  ·exact h
  ·split at h
   ·rename_i h''; cases h; rw [ih h'']
   ·cases h
theorem partsF_snoc {l : List (Nat × ByteArray)} {ns : List Nat} (h : partsF l = .ok ns) (x : Nat × ByteArray) : partsF (l ++ [x]) = match partF x.2.data.toList with
  | .error k => .error k
  | .ok n => .ok (ns ++ [n]) := by
 induction l generalizing ns with
 | nil =>
  cases h
  rw [List.nil_append, partsF]
  cases partF x.2.data.toList <;> rfl
 | cons y l ih =>
  unfold partsF at h
  rw [List.cons_append, partsF]
  split at h
  ·cases h
  ·split at h
   ·cases h
   ·rename_i h''
    cases h
    rw [ih h'']
    cases partF x.2.data.toList <;> rfl
def versF (s : ByteArray) : Except Int (List Nat) := if s.data.toList.count 46 = 2 then partsF (cutB s ⟨#[46]⟩ s.size 0) else .error 3
def vArr (ns : List Nat) : Array Value := #[.int .i64 ((ns.getD 0 0 : Nat) : Int), .int .i64 ((ns.getD 1 0 : Nat) : Int), .int .i64 ((ns.getD 2 0 : Nat) : Int)]
def versV : Except Int (List Nat) -> Value
 | .ok ns => .tuple #[.agg (vArr ns), .nilIface]
 | .error k => .tuple #[.agg #[.int .i64 0, .int .i64 0, .int .i64 0], .iface 34 (.int .i64 k)]
theorem partF_lt {l : List UInt8} {n : Nat} (h : partF l = .ok n) : n <= 999 := by
 unfold partF at h
 split at h
 ·split at h
  ·cases h
  ·split at h
   ·cases h
   ·cases h; omega
 ·cases h
theorem partsF_lt : ∀ {l : List (Nat × ByteArray)} {ns : List Nat}, partsF l = .ok ns -> ∀ n ∈ ns, n <= 999 := by
 intro l
 induction l with
 | nil => intro ns h n hn; cases h; cases hn
 | cons x r ih =>
  intro ns h n hn
  unfold partsF at h
  split at h
  ·cases h
  ·rename_i h0
   split at h
   ·cases h
   ·rename_i ns' h'
    cases h
    rcases List.mem_cons.1 hn with rfl | hn
    ·exact partF_lt h0
    ·exact ih h' n hn
theorem versF_len {s : ByteArray} {ns : List Nat} (h : versF s = .ok ns) : ns.length = 3 /\ ∀ n ∈ ns, n <= 999 := by
 unfold versF at h
 split at h
 ·rename_i hc
  refine ⟨?_, partsF_lt h⟩
  rw [partsF_len h, cuts_count s 46 s.size 0 (by omega) (Nat.zero_le _), List.drop_zero, hc]
 ·cases h
end
end Go.Proofs.YtpmpnbbihmgdpaaGreatDoor
