/- lines: a function that is ranged over. -/
import Derived.Test.YtpmpnbbihmgdpaaGreatDoorCtLine
set_option maxHeartbeats 4000000
set_option maxRecDepth 100000
namespace Go.Proofs.YtpmpnbbihmgdpaaGreatDoor
open Go.RowKit Go.Shelf Sv
attribute [local go_sem] Oper.semAt_some
theorem lines_in (s : ByteArray) (w : World) :
  CallsIn Fence.wide 3 Tryz.prog 101 #[.string s] w fun e w' => e = .returned (.func (.func 155) #[] #[.pointer (some ⟨w.heap.size, 0, none⟩)]) /\ w' = w.alloc (.cells #[.string s] 9) := by
 refine callsIn_of_wp Tryz.func101 rfl trivial ?_ rfl
 simp only [Tryz.ntmps101, List.size_toArray, List.length_cons, List.length_nil, Nat.reduceAdd, Nat.reduceSub, Array.replicate_succ, Array.replicate_zero, List.push_toArray, List.append_toArray, List.nil_append, List.cons_append]
 gi_wp2
 go_ret
 exact ⟨rfl, rfl⟩
theorem lnsF_end {s : ByteArray} {k : Nat} (h : s.size <= k) : ∀ f, lnsF s f k = []
 | 0 => rfl
 | f + 1 => by rw [lnsF, if_pos h]
theorem lnsF_step {s : ByteArray} {k : Nat} (h : k < s.size) (f : Nat) : lnsF s (f + 1) k = (if (cutF (s.extract k s.size) 10).1.size = 0 then [] else [(k, (cutF (s.extract k s.size) 10).1)]) ++ lnsF s f (k + (cutF (s.extract k s.size) 10).1.size + 1) := by
 rw [lnsF, if_neg (by omega)]
theorem lnsF_len (s : ByteArray) : ∀ (f k : Nat), (lnsF s f k).length <= f
 | 0, _ => by simp [lnsF]
 | f + 1, k => by
  rw [lnsF]
  split
  ·simp
  ·have := lnsF_len s f (k + (cutF (s.extract k s.size) 10).1.size + 1)
   rw [List.length_append]
   split <;> simp <;> omega
def Kp1 (bt : Nat) (W W' : World) : Prop := W'.cell? ⟨bt, 0, none⟩ = W.cell? ⟨bt, 0, none⟩ /\ W'.cell? ⟨4, 0, none⟩ = W.cell? ⟨4, 0, none⟩
theorem cutn_any (s : ByteArray) (m : Int) (W : World) (hs : s.size <= 100000) (hm : W.cell? ⟨4, 0, none⟩ = some (.int .i64 m)) :
  Calls Tryz.prog 156 #[.string s, .string ⟨#[10]⟩] W fun e w' => ∃ b, e = .returned (.tuple #[.string (cutF s 10).1, .string (cutF s 10).2, .bool b]) /\ ∃ n, w' = W.drewN n :=
 (Tryz.strings_Cut s ⟨#[10]⟩ m W (by omega) hm).mono fun e w' ⟨he, n, hn⟩ => ⟨_, he, n, hn⟩
theorem lines1_in (l bt : Nat) (s : ByteArray) (hs : s.size <= 20000) (J Jx : List Pc -> World -> Prop)
  (hJd : ∀ pre W n, J pre W -> J pre (W.drewN n))
  (hY : ∀ pre x W, J pre W -> pre.length < (lnsF s s.size 0).length -> YieldAt Fence.wide (3 - 1) Tryz.prog l #[.int .i64 (x.1.1 : Int), .string x.1.2] W fun e W' =>
   (e = .returned (.bool true) /\ J (pre ++ [x]) W' /\ Kp1 bt W W') \/ (e = .returned (.bool false) /\ Jx (pre ++ [x]) W'))
  (W : World) (h0 : W.cell? ⟨bt, 0, none⟩ = some (.string s)) (n : Int) (hn0 : W.cell? ⟨4, 0, none⟩ = some (.int .i64 n)) (hJ : J [] W) :
  CallsIn Fence.wide 3 Tryz.prog 155 #[.func (.yield l) #[] #[], .pointer (some ⟨bt, 0, none⟩)] W fun e W' => (∃ v, e = .returned v) /\ ((∃ ys, raws ys = lnsF s s.size 0 /\ J ys W') \/ (∃ pre, raws pre <+: lnsF s s.size 0 /\ Jx pre W')) := by
 have HY := Lib.hid hY
 have HJD := Lib.hid hJd
 clear hY hJd
 refine callsIn_of_wp Tryz.func155 rfl trivial ?_ rfl
 simp only [Tryz.ntmps155, List.size_toArray, List.length_cons, List.length_nil, Nat.reduceAdd, Nat.reduceSub, Array.replicate_succ, Array.replicate_zero, List.push_toArray, List.append_toArray, List.nil_append, List.cons_append]
 gi_wp2
 gi_loopw [3] (fun p wr => ∃ (pre : List Pc) (k f : Nat), p = .int .i64 (k : Int) /\ k <= s.size + 1 /\ s.size <= k + f /\ raws pre ++ lnsF s f k = lnsF s s.size 0 /\ wr.cell? ⟨bt, 0, none⟩ = some (.string s) /\ wr.cell? ⟨4, 0, none⟩ = some (.int .i64 n) /\ J pre wr)
  (fun p _ => s.size + 1 - (intOf p).toNat)
 case atStart => exact ⟨[], 0, s.size, rfl, Nat.zero_le _, by omega, rfl, h0, hn0, hJ⟩
 case round =>
  obtain ⟨pre, k, f, rfl, hk, hf, hcut, c0, hn, hJs⟩ := hrel
  have HJ := Lib.hid hJs
  have HC := Lib.hid hcut
  clear hJs hcut
  have HN := Lib.hid hn
  clear hn
  by_cases hlt : k < s.size
  ·obtain ⟨f', rfl⟩ : ∃ f', f = f' + 1 := ⟨f - 1, by omega⟩
   have hx : (s.extract k s.size).size = s.size - k := by rw [ByteArray.size_extract]; omega
   have hsz := (cutF_size (s.extract k s.size) 10).1
   have hcut := HC.out
   rw [lnsF_step hlt] at hcut
   have HCall := Lib.hid (cutn_any (s.extract k s.size) n wr (by omega) HN.out)
   have i0 : (0 : Int) <= (k : Int) := by omega
   have i1 : (k : Int) <= (s.size : Int) := by omega
   have hsl := fun W' => run_slice_string (P := Tryz.prog) W' 9 s .i64 .i64 (k : Int) (s.size : Int) Tryz.underlying9 i0 i1 (Int.le_refl _)
   simp only [Int.toNat_natCast] at hsl
   generalize (cutF (s.extract k s.size) 10).1 = ln at *
   generalize (cutF (s.extract k s.size) 10).2 = rs at *
   have hl2 : ln.size <= 100000 := by omega
   have hk2 : k <= 100000 := by omega
   have HX := Lib.hid hcut
   clear hcut HC
   gi_wp2_with fail
   refine ⟨trivial, ?_⟩
   refine (callsIn_wide.2 HCall.out).mono ?_
   rintro e w1 ⟨b, rfl, nq, rfl⟩
   have e0 : (wr.drewN nq).cell? ⟨bt, 0, none⟩ = some (.string s) := c0
   have HN1 : Hid ((wr.drewN nq).cell? ⟨4, 0, none⟩ = some (.int .i64 n)) := HN.out
   have HJ1 : Hid (J pre (wr.drewN nq)) := HJD.out _ _ nq HJ.out
   clear HCall hsl i0 i1 c0 HN HJ
   by_cases hz : ln.size = 0
   ·have HX2 : Hid (raws pre ++ lnsF s f' (k + 0 + 1) = lnsF s s.size 0) := by have h := HX.out; rw [if_pos hz, hz] at h; exact h
    obtain rfl := bytes_empty hz
    clear HX hz hl2 hsz
    gi_wp2
    refine ⟨(fun f h => by cases h), ?_⟩
    gi_wp2
    go_roundw
    case rel => exact ⟨pre, k + 1, f', by go_num, by omega, by omega, HX2.out, e0, HN1.out, HJ1.out⟩
    case measure => simp [intOf]; omega
   ·have he1 : ln.toList.isEmpty = false := bytes_not_empty (by omega)
    have he2 : (ln.toList == []) = false := by rw [beq_eq_false_iff_ne]; intro h; rw [h] at he1; cases he1
    have HX2 : Hid (raws (pre ++ [⟨(k, ln), hk2, hl2⟩]) ++ lnsF s f' (k + ln.size + 1) = lnsF s s.size 0) := by
     have h := HX.out
     rw [if_neg hz] at h
     show _ = _
     rw [raws, List.map_append, List.append_assoc]
     exact h
    have hlen : pre.length < (lnsF s s.size 0).length := by
     have h := congrArg List.length HX2.out
     rw [List.length_append, raws, List.length_map, List.length_append, List.length_cons] at h
     omega
    clear HX
    obtain ⟨fn, tmps, assign, body, hy, hR⟩ := HY.out pre ⟨(k, ln), hk2, hl2⟩ (wr.drewN nq) HJ1.out hlen
    dsimp only at hy
    have HLEN := Lib.hid hlen
    clear hlen
    gi_wp2
    refine hR.mono ?_
    rintro e W3 (⟨rfl, hJ3, hk3⟩ | ⟨rfl, hJx3⟩)
    ·have d0 : W3.cell? ⟨bt, 0, none⟩ = some (.string s) := hk3.1.trans e0
     have d2 : Hid (W3.cell? ⟨4, 0, none⟩ = some (.int .i64 n)) := hk3.2.trans HN1.out
     have HJ3 := Lib.hid hJ3
     clear hJ3 hk3
     gi_wp2
     go_roundw
     case rel => exact ⟨pre ++ [⟨(k, ln), hk2, hl2⟩], k + ln.size + 1, f', by go_num, by omega, by omega, HX2.out, d0, d2.out, HJ3.out⟩
     case measure => simp [intOf]; omega
    ·gi_wp2
     refine bodyPost_ret (results_none rfl _ _ _) rfl ?_
     exact ⟨⟨_, rfl⟩, .inr ⟨_, ⟨_, HX2.out⟩, hJx3⟩⟩
  ·have hcut := HC.out
   rw [lnsF_end (by omega), List.append_nil] at hcut
   have HX := Lib.hid hcut
   clear hcut HC
   gi_wp2
   refine bodyPost_end (results_none rfl _ _ _) rfl ?_
   exact ⟨⟨_, rfl⟩, .inl ⟨pre, HX.out, HJ.out⟩⟩
theorem grown_drewN (W : World) (n : Nat) : W.grownBy (W.drewN n) none := ⟨rfl, rfl, rfl, Nat.le_refl _, fun _ _ _ => rfl⟩
theorem lines_stops (bt : Nat) (s : ByteArray) (hs : s.size <= 20000) (w : World) (hbt : bt < w.heap.size) (h1 : 4 < w.heap.size) (c0 : w.cell? ⟨bt, 0, none⟩ = some (.string s)) (n : Int) (c2 : w.cell? ⟨4, 0, none⟩ = some (.int .i64 n)) :
  SeqStopsK Fence.wide 3 Tryz.prog 155 #[.pointer (some ⟨bt, 0, none⟩)] encP (Kp1 bt) (fun ys => raws ys = lnsF s s.size 0) (fun pre => raws pre <+: lnsF s s.size 0) (lnsF s s.size 0).length w := fun l J Jx W hW hJ _ hY h0 =>
 lines1_in l bt s hs J Jx (fun pre W n h => hJ pre W _ none h (grown_drewN W n) (fun r e => by cases e)) hY W ((hW.cell (p := ⟨bt, 0, none⟩) hbt).trans c0) n ((hW.cell (p := ⟨4, 0, none⟩) h1).trans c2) h0
theorem kp1_t {bt : Nat} {A B C : World} (h : Kp1 bt A B) (k : Kp1 bt B C) : Kp1 bt A C := ⟨k.1.trans h.1, k.2.trans h.2⟩
theorem kp1_b {bt : Nat} {w : World} (hbt : bt < w.heap.size) (h1 : 4 < w.heap.size) (W : World) (l : Nat) (o o' : Obj) (hl : w.heap.size <= l) (_ : W.heap[l]? = some o) (_ : o.isCells = false) (_ : o.isWalk = false) : Kp1 bt W (W.putObj l o') :=
 ⟨cell_put (by omega), cell_put (by omega)⟩
theorem kp1_below {bt B : Nat} {W W' : World} (h : Below B W W') (h1 : bt < B) (h3 : 4 < B) : Kp1 bt W W' := ⟨h.cell (p := ⟨bt, 0, none⟩) h1, h.cell (p := ⟨4, 0, none⟩) h3⟩
theorem kp1_set {bt b i : Nat} {W W' : World} {v : Value} (h : Kp1 bt W W') (h1 : bt ≠ b) (h3 : 4 ≠ b) : Kp1 bt W (W'.setCell ⟨b, i, none⟩ v) := ⟨(cell_set_other h1).trans h.1, (cell_set_other h3).trans h.2⟩
end Go.Proofs.YtpmpnbbihmgdpaaGreatDoor
