/- plan: the reference's Change. -/
import Derived.Test.YtpmpnbbihmgdpaaGreatDoorPlGoing
import Derived.Test.YtpmpnbbihmgdpaaGreatDoorCtParse
import Derived.Test.YtpmpnbbihmgdpaaGreatDoorPlROrdP
set_option maxHeartbeats 4000000
set_option maxRecDepth 100000
namespace Go.Proofs.YtpmpnbbihmgdpaaGreatDoor
section
open Go.RowKit Go.Deep Go.Shelf Sv
attribute [local go_sem] Oper.semAt_some
def comeF (b : List Nat) (fr : Nat) : List Nat := b.filter fun i => !fr.testBit i
noncomputable def chR (its : List It) (ls : List Ln) (fr tt : Nat) : Except Int (List (Nat × Bool)) :=
 match ordR its ls fr with
 | .error k => .error k
 | .ok a => match ordR its ls tt with
  | .error k => .error k
  | .ok b => .ok ((goF a tt).map (fun i => (i, false)) ++ (comeF b fr).map fun i => (i, true))
def stCells (l : List (Nat × Bool)) : List Value := l.flatMap fun x => [.int .i64 (x.1 : Int), .bool x.2]
theorem stCells_snoc (l : List (Nat × Bool)) (x : Nat × Bool) : stCells (l ++ [x]) = stCells l ++ [.int .i64 (x.1 : Int), .bool x.2] := by
 unfold stCells; rw [List.flatMap_append]; simp
def ChangeRes (w : World) (r : Except Int (List (Nat × Bool))) (e : Ending) (w' : World) : Prop :=
 match r with
 | .error k => e = .returned (.tuple #[.slice none 0 0, .iface 34 (.int .i64 k)]) /\ Below w.heap.size w w'
 | .ok l => ∃ v, e = .returned (.tuple #[v, .nilIface]) /\ w'.ownsRow w.heap.size 89 2 v l.length (stCells l) /\ Below w.heap.size w w'
theorem infoSt : (Tryz.prog.info? 89).map (fun i => (i.zero, i.size, i.bytes)) = some (some (.agg #[.int .i64 0, .bool false]), 2, 16) := by kernel_rfl
theorem cell_two_newP (w : World) (A B : Value) (t : TypeId) : ∀ (j : Nat) (u : Value), [A, B][j]? = some u -> (w.alloc (.cells #[A, B] t)).cell? (Addr.add ⟨w.heap.size, 0, none⟩ j) = some u := by
 intro j u h
 match j, h with
 | 0, h => simp at h; subst h; simp [Addr.add]
 | 1, h => simp at h; subst h; simp [Addr.add]
 | j + 2, h => simp at h
structure ChS (w W0 W : World) (bo B : Nat) (ov : Value) (st : List (Nat × Bool)) : Prop where
 box : Blk W bo 85 #[ov]
 row : W.ownsRow B 89 2 ov st.length (stCells st)
 kp : KpG B bo W0 W
 bel : Below w.heap.size w W
 sz : B <= W.heap.size
 lo : w.heap.size <= bo
 lt : bo < B
section
variable {w W0 W W' : World} {bo B : Nat} {ov : Value} {st : List (Nat × Bool)}
theorem ChS.new (h : ChS w W0 W bo B ov st) (hb : Below W.heap.size W W') : ChS w W0 W' bo B ov st :=
 ⟨h.box.below hb h.box.lt, row_new' h.row hb, fun k h1 h2 => (hb.block k (Nat.lt_of_lt_of_le h1 h.sz)).trans (h.kp k h1 h2), h.bel.trans (hb.mono h.bel.size), Nat.le_trans h.sz hb.size, h.lo, h.lt⟩
theorem ChS.app (h : ChS w W0 W bo B ov st) {x : Nat} {b : Bool} {w7 : World} {v7 : Value} (hown : w7.ownsRow B 89 2 v7 (st.length + 1) (stCells st ++ [.int .i64 (x : Int), .bool b])) (hgr : (W.alloc (.cells #[.int .i64 (x : Int), .bool b] 89)).grownBy w7 ov.ownBlock) :
  Blk w7 bo 85 #[ov] /\ ChS w W0 (w7.setCell ⟨bo, 0, none⟩ v7) bo B v7 (st ++ [(x, b)]) := by
 have h' := h.new (below_new W (.cells #[.int .i64 (x : Int), .bool b] 89))
 have hlt := h.lt; have hlo := h.lo
 have ho : ∀ k, k < B -> some k ≠ ov.ownBlock := fun k hk e => by have := (h.row.lt k e.symm).1; omega
 have q := h'.box.kept hgr (ho bo hlt)
 have hB7 : Below w.heap.size w w7 := h'.bel.grown hgr (by have := h'.bel.size; omega) (fun k hk => by have := (h.row.lt k hk).1; omega)
 refine ⟨q, q.set (i := 0), ?_, fun k h1 h2 => ?_, hB7.setCell (p := ⟨bo, 0, none⟩) hlo _, ?_, hlo, hlt⟩
 ·rw [stCells_snoc, List.length_append]
  exact row_setLow hown hlt
 ·refine (Below.heap_setCell _ _ _ k (show k ≠ bo from h2)).trans ((hgr.block k (Nat.lt_of_lt_of_le h1 h'.sz) (ho k h1)).trans (h'.kp k h1 h2))
 ·have := h'.sz; have := hgr.size; simp; omega
end
theorem ChS.own {w W0 : World} {bo B : Nat} (hB : w.heap.size <= B) (f : List Nat -> List (Nat × Bool)) : OwnFrom B (fun (pre : List Nat) W => ∃ ov, ChS w W0 W bo B ov (f pre)) := by
 intro pre W W' row ⟨ov, h⟩ hg hr
 have hr' : ∀ r, row = some r -> ∃ o : Obj, W.heap[r]? = some o /\ o.isCells = false := fun r e => (hr r e).2
 exact ⟨ov, blk_kept h.box hg hr', row_keptO h.row hg hr', fun k h1 h2 => (hg.block k (Nat.lt_of_lt_of_le h1 h.sz) (fun e => by have := (hr k e.symm).1; omega)).trans (h.kp k h1 h2), ownFrom_below (β := Unit) (Nat.le_refl _) hB () W W' row h.bel hg hr, Nat.le_trans h.sz hg.size, h.lo, h.lt⟩
theorem going_stops (B bo b : Nat) (A : List Nat) (a : Option Addr) (c stay : Nat) (hA : ∀ x ∈ A, x < 24) (hAl : A.length <= 24) (hst : stay < 18446744073709551616) (w : World) (hb : b < w.heap.size) (hb1 : b + 1 < w.heap.size) (hbB : b < B) (hbB1 : b + 1 < B) (hn0 : b ≠ bo) (hn1 : b + 1 ≠ bo) (h0 : w.cell? ⟨b, 0, none⟩ = some (.slice a A.length c)) (h1 : w.cell? ⟨b + 1, 0, none⟩ = some (.int .u64 (stay : Int))) (hI : ∀ i, i < A.length -> ∃ ad : Addr, a = some ad /\ ad.block < w.heap.size /\ ad.block < B /\ ad.block ≠ bo /\ w.cell? (ad.add i) = some (.int .i64 ((A.getD i 0 : Nat) : Int))) :
  SeqStopsK Fence.wide 3 Tryz.prog 147 #[.pointer (some ⟨b, 0, none⟩), .pointer (some ⟨b + 1, 0, none⟩)] encN (KpG B bo) (fun ys => ys = goF A stay) (fun pre => pre <+: goF A stay) (goF A stay).length w := fun l J Jx W hW hJ _ hY hJ0 =>
 going1_in l B bo b A a c stay hA hAl hst J Jx (fun pre W n h => hJ pre W _ none h (grown_drewN W n) (fun r e => by cases e)) hY W hbB hbB1 hn0 hn1 ((hW.cell (p := ⟨b, 0, none⟩) hb).trans h0) ((hW.cell (p := ⟨b + 1, 0, none⟩) hb1).trans h1) (fun i hi => by
  obtain ⟨ad, e, q1, q2, q3, q4⟩ := hI i hi
  exact ⟨ad, e, q2, q3, (hW.cell (p := ad.add i) (by rw [addBlock]; exact q1)).trans q4⟩) hJ0
theorem kpG_t {B bo : Nat} {A C D : World} (h : KpG B bo A C) (k : KpG B bo C D) : KpG B bo A D := fun q h1 h2 => (k q h1 h2).trans (h q h1 h2)
theorem kpG_b {B bo : Nat} {w : World} (hB : B <= w.heap.size) (W : World) (l : Nat) (o o' : Obj) (hl : w.heap.size <= l) (_ : W.heap[l]? = some o) (_ : o.isCells = false) (_ : o.isWalk = false) : KpG B bo W (W.putObj l o') :=
 fun k h1 _ => World.putObj_heap_other (by omega)
end
section
open Go.RowKit Go.Deep Go.Shelf Sv
attribute [local go_sem] Oper.semAt_some
theorem chR_err1 {its : List It} {ls : List Ln} {fr tt : Nat} {k : Int} (h : ordR its ls fr = .error k) : chR its ls fr tt = .error k := by unfold chR; rw [h]
theorem chR_err2 {its : List It} {ls : List Ln} {fr tt : Nat} {a : List Nat} {k : Int} (h : ordR its ls fr = .ok a) (h2 : ordR its ls tt = .error k) : chR its ls fr tt = .error k := by unfold chR; rw [h]; simp only [h2]
theorem chR_ok {its : List It} {ls : List Ln} {fr tt : Nat} {a b : List Nat} (h : ordR its ls fr = .ok a) (h2 : ordR its ls tt = .ok b) : chR its ls fr tt = .ok ((goF a tt).map (fun i => (i, false)) ++ (comeF b fr).map fun i => (i, true)) := by unfold chR; rw [h]; simp only [h2]
theorem change_err1 (bk : Nat) (ls : List Ln) (its : List It) (hN : newF ls = .ok its) (fr tt : Nat) (w : World) (h : CatAt w bk ls its) (h1 : fr < 18446744073709551616) (k : Int) (hk : ordR its ls fr = .error k) :
  Calls Tryz.prog 35 #[.pointer (some ⟨bk, 0, none⟩), .int .u64 (fr : Int), .int .u64 (tt : Int)] w (ChangeRes w (chR its ls fr tt)) := by
 have HO0 := order_c bk ls its hN fr w h h1
 rw [hk] at HO0
 have HO : Hid (Calls Tryz.prog 33 #[.pointer (some ⟨bk, 0, none⟩), .int .u64 (fr : Int)] w fun e w' => e = .returned (.tuple #[.slice none 0 0, .iface 34 (.int .i64 k)]) /\ Below w.heap.size w w') := HO0
 rw [chR_err1 hk]
 show Calls _ _ _ _ fun e w' => e = .returned (.tuple #[.slice none 0 0, .iface 34 (.int .i64 k)]) /\ Below w.heap.size w w'
 clear HO0 hk h hN
 go_enter Tryz.func35, Tryz.ntmps35
 go_wp2_with fail
 refine HO.out.mono ?_
 rintro e w1 ⟨rfl, hb1⟩
 have HB1 := Lib.hid hb1
 clear hb1 HO
 go_wp2
 go_ret2
 exact ⟨rfl, HB1.out⟩
theorem change_err2 (bk : Nat) (ls : List Ln) (its : List It) (hN : newF ls = .ok its) (fr tt : Nat) (w : World) (h : CatAt w bk ls its) (h1 : fr < 18446744073709551616) (h2 : tt < 18446744073709551616) (a : List Nat) (k : Int) (ha : ordR its ls fr = .ok a) (hk : ordR its ls tt = .error k) :
  Calls Tryz.prog 35 #[.pointer (some ⟨bk, 0, none⟩), .int .u64 (fr : Int), .int .u64 (tt : Int)] w (ChangeRes w (chR its ls fr tt)) := by
 have HO0 := order_c bk ls its hN fr w h h1
 rw [ha] at HO0
 have HO : Hid (Calls Tryz.prog 33 #[.pointer (some ⟨bk, 0, none⟩), .int .u64 (fr : Int)] w fun e w' => ∃ wa wc, e = .returned (.tuple #[.slice wa a.length wc, .nilIface]) /\ Below w.heap.size w w') := HO0.mono fun e w' ⟨v, he, hr, hb⟩ => by
  obtain ⟨wa, wc, rfl, -⟩ := row_form hr
  exact ⟨wa, wc, he, hb⟩
 have HT : Hid (∀ W, Below w.heap.size w W -> Calls Tryz.prog 33 #[.pointer (some ⟨bk, 0, none⟩), .int .u64 (tt : Int)] W fun e w' => e = .returned (.tuple #[.slice none 0 0, .iface 34 (.int .i64 k)]) /\ Below W.heap.size W w') := fun W hb => by
  have := order_c bk ls its hN tt W (h.below hb (Nat.le_refl _)) h2
  rw [hk] at this
  exact this
 rw [chR_err2 ha hk]
 show Calls _ _ _ _ fun e w' => e = .returned (.tuple #[.slice none 0 0, .iface 34 (.int .i64 k)]) /\ Below w.heap.size w w'
 clear HO0 hk ha h hN
 go_enter Tryz.func35, Tryz.ntmps35
 go_wp2_with fail
 refine HO.out.mono ?_
 rintro e w1 ⟨wa, wc, rfl, hb1⟩
 have HT1 := Lib.hid (HT.out w1 hb1)
 have HB1 := Lib.hid hb1
 clear hb1 HO HT
 go_wp2_with fail
 refine HT1.out.mono ?_
 rintro e w2 ⟨rfl, hb2⟩
 have HB2 := Lib.hid (HB1.out.trans (hb2.mono HB1.out.size))
 clear hb2 HT1 HB1
 go_wp2
 go_ret2
 exact ⟨rfl, HB2.out⟩
theorem change_in (bk : Nat) (ls : List Ln) (its : List It) (hN : newF ls = .ok its) (fr tt : Nat) (w : World) (h : CatAt w bk ls its) (h1 : fr < 18446744073709551616) (h2 : tt < 18446744073709551616) (a b : List Nat) (ha : ordR its ls fr = .ok a) (hb : ordR its ls tt = .ok b) (ha24 : ∀ x ∈ a, x < 24) (hb24 : ∀ x ∈ b, x < 24) (hal : a.length <= 24) (hbl : b.length <= 24) :
  CallsIn Fence.wide 4 Tryz.prog 35 #[.pointer (some ⟨bk, 0, none⟩), .int .u64 (fr : Int), .int .u64 (tt : Int)] w (ChangeRes w (chR its ls fr tt)) := by
 have HO : Hid (CallsIn Fence.wide 3 Tryz.prog 33 #[.pointer (some ⟨bk, 0, none⟩), .int .u64 (fr : Int)] w fun e w' => ∃ wa wc, e = .returned (.tuple #[.slice wa a.length wc, .nilIface]) /\ IntsIn w' wa (natS a) /\ Below w.heap.size w w') := callsIn_wide.2 (by
  have HO0 := order_c bk ls its hN fr w h h1
  rw [ha] at HO0
  exact HO0.mono fun e w' ⟨v, he, hr, hb⟩ => by
   obtain ⟨wa, wc, rfl, -⟩ := row_form hr
   exact ⟨wa, wc, he, ints_row (B := w.heap.size) (c := wc) (by rw [natS_len]; exact hr), hb⟩)
 have HT : Hid (∀ W, Below w.heap.size w W -> CallsIn Fence.wide 3 Tryz.prog 33 #[.pointer (some ⟨bk, 0, none⟩), .int .u64 (tt : Int)] W fun e w' => ∃ wa wc, e = .returned (.tuple #[.slice wa b.length wc, .nilIface]) /\ IntsIn w' wa (natS b) /\ Below W.heap.size W w') := fun W hb0 => callsIn_wide.2 (by
  have HO0 := order_c bk ls its hN tt W (h.below hb0 (Nat.le_refl _)) h2
  rw [hb] at HO0
  exact HO0.mono fun e w' ⟨v, he, hr, hb⟩ => by
   obtain ⟨wa, wc, rfl, -⟩ := row_form hr
   exact ⟨wa, wc, he, ints_row (B := W.heap.size) (c := wc) (by rw [natS_len]; exact hr), hb⟩)
 have HG : Hid (∀ (x : Option Addr) (c : Nat) (W : World), CallsIn Fence.wide 3 Tryz.prog 92 #[.slice x a.length c, .int .u64 (tt : Int)] W fun e w' => e = .returned (.func (.func 147) #[] #[.pointer (some ⟨W.heap.size, 0, none⟩), .pointer (some ⟨W.heap.size + 1, 0, none⟩)]) /\ w' = (W.alloc (.cells #[.slice x a.length c] 31)).alloc (.cells #[.int .u64 (tt : Int)] 69)) := fun x c W => going_in x a.length c tt W
 have HJ : Hid (∀ W (k : Nat), k < 24 -> CallsIn Fence.wide 3 Tryz.prog 91 #[.int .i64 (k : Int)] W fun e w' => e = .returned (.int .u64 ((2 ^ k : Nat) : Int)) /\ w' = W) := fun W k hk => callsIn_wide.2 (just_c k (by omega) W)
 rw [chR_ok ha hb]
 obtain ⟨i0, hin, hz0, hz1, hz2⟩ := info_parts infoSt
 have HA := Lib.hid ha24
 have HBl := Lib.hid hb24
 clear h hN ha hb ha24 hb24
 show CallsIn _ _ _ _ _ _ fun e w' => ∃ v, e = .returned (.tuple #[v, .nilIface]) /\ w'.ownsRow w.heap.size 89 2 v ((goF a tt).map (fun i => (i, false)) ++ (comeF b fr).map fun i => (i, true)).length (stCells ((goF a tt).map (fun i => (i, false)) ++ (comeF b fr).map fun i => (i, true))) /\ Below w.heap.size w w'
 refine callsIn_of_wp_marks Tryz.func35 rfl trivial ?_ rfl
 simp only [Tryz.ntmps35, List.size_toArray, List.length_cons, List.length_nil, Nat.reduceAdd, Nat.reduceSub, Array.replicate_succ, Array.replicate_zero, List.push_toArray, List.append_toArray, List.nil_append, List.cons_append]
 gi_wp2_with fail
 refine ⟨trivial, ?_⟩
 refine HO.out.mono ?_
 rintro e w1 ⟨wa, wc, rfl, hia, hb1⟩
 have HT1 := Lib.hid (HT.out w1 hb1)
 have HB1 := Lib.hid hb1
 have HIA := Lib.hid hia
 clear hb1 HO HT hia
 gi_wp2_with fail
 refine ⟨trivial, ?_⟩
 refine HT1.out.mono ?_
 rintro e w2 ⟨va, vc, rfl, hib, hb2⟩
 have HB2 := Lib.hid (HB1.out.trans (hb2.mono HB1.out.size))
 have HIA2 := Lib.hid (HIA.out.below hb2)
 have HIB2 := Lib.hid hib
 clear hb2 HT1 HB1 HIA hib
 have HGG : Hid (CallsIn Fence.wide 3 Tryz.prog 92 #[.slice wa a.length wc, .int .u64 (tt : Int)] (w2.alloc (.cells #[.slice none 0 0] 85)) fun e w' => e = .returned (.func (.func 147) #[] #[.pointer (some ⟨w2.heap.size + 1, 0, none⟩), .pointer (some ⟨w2.heap.size + 1 + 1, 0, none⟩)]) /\ w' = ((w2.alloc (.cells #[.slice none 0 0] 85)).alloc (.cells #[.slice wa a.length wc] 31)).alloc (.cells #[.int .u64 (tt : Int)] 69)) := by
  have := HG.out wa wc (w2.alloc (.cells #[.slice none 0 0] 85))
  rw [World.size_alloc] at this
  exact this
 clear HG
 gi_wp2_with fail
 refine ⟨trivial, ?_⟩
 refine HGG.out.mono ?_
 rintro e w' ⟨rfl, rfl⟩
 clear HGG
 have k0 := ((Blk.new w2 85 #[.slice none 0 0]).alloc (.cells #[.slice wa a.length wc] 31)).alloc (.cells #[.int .u64 (tt : Int)] 69)
 have k1 := (Blk.new (w2.alloc (.cells #[.slice none 0 0] 85)) 31 #[.slice wa a.length wc]).alloc (.cells #[.int .u64 (tt : Int)] 69)
 have k2 := Blk.new ((w2.alloc (.cells #[.slice none 0 0] 85)).alloc (.cells #[.slice wa a.length wc] 31)) 69 #[.int .u64 (tt : Int)]
 simp only [World.size_alloc] at k1 k2
 have hbA : Below w2.heap.size w2 (((w2.alloc (.cells #[.slice none 0 0] 85)).alloc (.cells #[.slice wa a.length wc] 31)).alloc (.cells #[.int .u64 (tt : Int)] 69)) := (((Below.refl _ w2).alloc (Nat.le_refl _) _).alloc (by simp only [World.size_alloc]; omega) _).alloc (by simp only [World.size_alloc]; omega) _
 have hsz : (((w2.alloc (.cells #[.slice none 0 0] 85)).alloc (.cells #[.slice wa a.length wc] 31)).alloc (.cells #[.int .u64 (tt : Int)] 69)).heap.size = w2.heap.size + 1 + 1 + 1 := by simp only [World.size_alloc]
 have hw2 := HB2.out.size
 obtain ⟨W0, hW0⟩ : ∃ W0, ((w2.alloc (.cells #[.slice none 0 0] 85)).alloc (.cells #[.slice wa a.length wc] 31)).alloc (.cells #[.int .u64 (tt : Int)] 69) = W0 := ⟨_, rfl⟩
 rw [hW0] at k0 k1 k2 hbA hsz ⊢
 clear hW0
 have HSZ := Lib.hid hsz
 obtain ⟨B0, hB0⟩ : ∃ B0, W0.heap.size = B0 := ⟨_, rfl⟩
 have hBe : w2.heap.size + 1 + 1 < B0 := by omega
 have HB0 := Lib.hid hB0
 clear hsz
 have hIA0 := HIA2.out.below hbA
 have HIB0 := Lib.hid (HIB2.out.below hbA)
 have hch0 : ChS w W0 W0 w2.heap.size B0 (.slice none 0 0) [] := ⟨k0, World.ownsRow_nil _ _ _ _, fun _ _ _ => rfl, HB2.out.trans (hbA.mono HB2.out.size), by omega, hw2, by omega⟩
 have hst := going_stops B0 w2.heap.size (w2.heap.size + 1) a wa wc tt HA.out hal h2 W0 (by omega) (by omega) (by omega) (by omega) (by omega) (by omega) (k1.cell 0) (k2.cell 0) (fun i hi => by
  obtain ⟨ad, e, hl, hc⟩ := HIA2.out i (by rw [natS_len]; exact hi)
  obtain ⟨ad', e', hl', hc'⟩ := hIA0 i (by rw [natS_len]; exact hi)
  rw [e] at e'
  cases e'
  rw [natS_at a i hi] at hc'
  exact ⟨ad, e, hl', by omega, by omega, hc'⟩)
 have HJR : Hid (∀ (i : Nat), i < b.length -> ∃ ad : Addr, va = some ad /\ ad.block < B0 /\ ad.block ≠ w2.heap.size /\ W0.cell? (ad.add i) = some (.int .i64 ((b.getD i 0 : Nat) : Int))) := fun i hi => by
  obtain ⟨ad, e, hl, hc⟩ := HIB2.out i (by rw [natS_len]; exact hi)
  obtain ⟨ad', e', hl', hc'⟩ := HIB0.out i (by rw [natS_len]; exact hi)
  rw [e] at e'
  cases e'
  rw [natS_at b i hi] at hc'
  exact ⟨ad, e, by omega, by omega, hc'⟩
 clear k0 k1 k2 hbA hIA0 HIB0 HIA2 HIB2
 gi_wp2_with fail
 refine wpIn_rangeFunc_ownF rfl (by omega) (gf := 147) (lb := #[.pointer (some ⟨w2.heap.size + 1, 0, none⟩), .pointer (some ⟨w2.heap.size + 1 + 1, 0, none⟩)]) rfl trivial (enters_of Tryz.func147 (by kernel_rfl) rfl)
  hst kpG_t (kpG_b (by rw [hB0]; exact Nat.le_refl _)) (Below.refl _ _) (fun _ => rfl)
  (fun (pre : List Nat) W => ∃ ov, ChS w W0 W w2.heap.size B0 ov (pre.map fun i => (i, false)))
  (fun _ _ _ => False)
  (by rw [hB0]; exact ChS.own (by omega) _) (fun _ _ _ _ _ h _ _ => h)
  ⟨_, hch0⟩ (fun x => { tmps := #[.pointer (some ⟨bk, 0, none⟩), .int .u64 (fr : Int), .int .u64 (tt : Int), undef, undef, undef, .slice none 0 0, .nilIface, .slice wa a.length wc, .nilIface, .slice va b.length vc, .pointer (some ⟨w2.heap.size, 0, none⟩), .int .i64 (x : Int), undef, undef, .tuple #[.slice wa a.length wc, .nilIface], .pointer (some ⟨bk, 0, none⟩), .int .u64 (fr : Int), .tuple #[.slice wa a.length wc, .nilIface], .slice wa a.length wc, .nilIface, .nilIface, .bool false, undef, .tuple #[.slice va b.length vc, .nilIface], .pointer (some ⟨bk, 0, none⟩), .int .u64 (tt : Int), .tuple #[.slice va b.length vc, .nilIface], .slice va b.length vc, .nilIface, .nilIface, .bool false, undef, .slice wa a.length wc, .int .u64 (tt : Int), .func (.func 147) #[] #[.pointer (some ⟨w2.heap.size + 1, 0, none⟩), .pointer (some ⟨w2.heap.size + 1 + 1, 0, none⟩)], .int .i64 (x : Int), undef, undef, undef, undef, undef, undef, undef, undef, undef, undef, undef, undef, undef, undef, undef, undef, undef, undef, undef, undef, undef, undef, undef], defers := [] }) ?assign ?body ?done ?stop
 case assign =>
  intro l x W K hK
  unfold encN
  gi_wp2
  exact hK
 case stop => exact fun _ _ _ _ _ _ h _ => h.elim
 case body =>
  rintro l pre x W ⟨ov, hch⟩ hlen
  clear hst hch0 hB0
  have hpl : pre.length <= 24 := by
   have : (goF a tt).length <= a.length := by unfold goF; exact Nat.le_trans (List.length_filter_le _ _) (by simp)
   omega
  obtain ⟨oa, oc, rfl, -⟩ := (rowAt_own hch.row).form
  have HROW := Lib.hid hch.row
  have HCH := Lib.hid hch
  have d0 := hch.box.cell 0
  have hWs := hch.sz
  rw [List.length_map] at HROW d0
  have d1 : W.cell? ⟨w2.heap.size, 0, none⟩ = some (.slice oa pre.length oc) := by simpa using d0
  clear d0 hlen hch
  gi_wp2_with (gi_at_builtin; refine wpListIn_append_own_at _ rfl _ _ 85 rfl B0 89 i0 (.agg #[.int .i64 0, .bool false]) 2 16 Tryz.underlying85 hin hz0 hz1 hz2 rfl (by decide) _ _ _ rfl (HROW.out.alloc _) ⟨W.heap.size, 0, none⟩ 1 1 [.int .i64 (x : Int), .bool false] rfl rfl ?c1 ?c2 ?c3 ?c4 ?c5 ?_)
  case c1 => exact cell_two_newP _ _ _ _
  case c2 => intro u hu; simp at hu; rcases hu with rfl | rfl <;> rfl
  case c3 => unfold maxLen; omega
  case c4 => omega
  case c5 => simp; omega
  intro v7 w7 hown7 hgrow7 _ hloc7
  obtain ⟨g7, c7, rfl⟩ := ownsRow_succ hown7
  have hch2 : ChS w W0 W w2.heap.size B0 (.slice oa pre.length oc) (pre.map fun i => (i, false)) := by have := HCH.out; rw [List.length_map] at this; exact this
  obtain ⟨kb, hch7⟩ := hch2.app (x := x) (b := false) (by rw [List.length_map]; exact hown7) hgrow7
  have e7 : w7.cell? ⟨w2.heap.size, 0, none⟩ = some (.slice oa pre.length oc) := kb.cell 0
  have f7 := kb.frozen 0
  have HKO : Hid (KeepsOthers W (w7.setCell ⟨w2.heap.size, 0, none⟩ (.slice (some ⟨g7, 0, none⟩) (pre.length + 1) c7))) := ((KeepsOthers.alloc _ _).trans (KeepsOthers.of_grownBy hgrow7 (row_cells (HROW.out.alloc _)))).trans (KeepsOthers.setCell _ _ _)
  have HKP : Hid (KpG B0 w2.heap.size W (w7.setCell ⟨w2.heap.size, 0, none⟩ (.slice (some ⟨g7, 0, none⟩) (pre.length + 1) c7))) := fun k q1 q2 => (hch7.kp k q1 q2).trans (hch2.kp k q1 q2).symm
  have HI : Hid (∃ ov, ChS w W0 (w7.setCell ⟨w2.heap.size, 0, none⟩ (.slice (some ⟨g7, 0, none⟩) (pre.length + 1) c7)) w2.heap.size B0 ov ((pre ++ [x]).map fun i => (i, false))) := ⟨_, by rw [List.map_append]; exact hch7⟩
  clear hown7 hgrow7 hloc7 hch2 hch7 kb HROW HCH d1
  gi_wp2
  exact ⟨HKO.out, HKP.out, HI.out⟩
 case done =>
  rintro D ys WF hD rfl ⟨ov, hch⟩ hK
  rw [hB0] at hD
  clear hst hch0 hB0
  have HCH : Hid (ChS w W0 WF w2.heap.size B0 ov ((goF a tt).map (fun i => (i, false)) ++ (comeF (b.take 0) fr).map fun i => (i, true))) := by
   show ChS _ _ _ _ _ _ _
   rw [show (comeF (b.take 0) fr).map (fun i => (i, true)) = [] by simp [comeF], List.append_nil]; exact hch
  have HK := Lib.hid hK
  have hgl : (goF a tt).length <= 24 := by
   have : (goF a tt).length <= a.length := by unfold goF; exact Nat.le_trans (List.length_filter_le _ _) (by simp)
   omega
  clear hch hK
  obtain ⟨GO, hGO⟩ : ∃ GO, (goF a tt).map (fun i => (i, false)) = GO := ⟨_, rfl⟩
  have hGl : GO.length <= 24 := by rw [<- hGO, List.length_map]; exact hgl
  have HGO := Lib.hid hGO
  rw [hGO] at HCH
  clear hGO hgl
  gi_wp2_with fail
  gi_loopw [44] (fun iV wr => ∃ (i : Nat) (ov : Value), i <= b.length /\ iV = .int .i64 (i : Int) /\ ChS w W0 wr w2.heap.size B0 ov (GO ++ (comeF (b.take i) fr).map fun i => (i, true)) /\ wr.heap[D]? = some (.deferred (some []))) (fun iV _ => b.length - (intOf iV).toNat)
  case atStart => exact ⟨0, _, Nat.zero_le _, rfl, HCH.out, HK.out⟩
  case round =>
   clear HCH HK
   obtain ⟨i, ov2, hil, rfl, hch, hK⟩ := hrel
   have HCH := Lib.hid hch
   have HK := Lib.hid hK
   have hcl : (comeF (b.take i) fr).length <= 24 := by
    unfold comeF
    have := List.length_filter_le (fun i => !fr.testBit i) (b.take i)
    rw [List.length_take] at this
    omega
   obtain ⟨oa, oc, rfl, -⟩ := (rowAt_own hch.row).form
   have hWs := hch.sz
   have d0 : wr.cell? ⟨w2.heap.size, 0, none⟩ = some (.slice oa (GO ++ (comeF (b.take i) fr).map fun i => (i, true)).length oc) := hch.box.cell 0
   have HROW := Lib.hid hch.row
   obtain ⟨n, hn⟩ : ∃ n, (GO ++ (comeF (b.take i) fr).map fun i => (i, true)).length = n := ⟨_, rfl⟩
   have hn48 : n <= 48 := by rw [<- hn, List.length_append, List.length_map]; omega
   have HN := Lib.hid hn
   rw [hn] at d0 HROW
   by_cases hlt : i < b.length
   ·obtain ⟨ad, rfl, had, hado, cB⟩ := HJR.out i hlt
    have cB2 : wr.cell? (ad.add i) = some (.int .i64 ((b.getD i 0 : Nat) : Int)) := (kpG_cell (p := ad.add i) hch.kp (by rw [addBlock]; exact had) (by rw [addBlock]; exact hado)).trans cB
    have hx24 := HBl.out _ (pget_mem b i hlt)
    have HTK : Hid (comeF (b.take (i + 1)) fr = comeF (b.take i) fr ++ (if fr.testBit (b.getD i 0) then [] else [b.getD i 0])) := by
     show _ = _
     unfold comeF
     rw [ptake_snoc b i hlt, List.filter_append]
     congr 1
     cases hq : fr.testBit (b.getD i 0) <;> simp only [List.filter_cons, hq] <;> rfl
    obtain ⟨x, hx⟩ : ∃ x, b.getD i 0 = x := ⟨_, rfl⟩
    rw [hx] at cB2 hx24 HTK
    have hand := and_u64 fr (2 ^ x) h1 (pow_64 x (by omega))
    have hpn := and_pow_ne fr x
    have HJx := Lib.hid (HJ.out wr x hx24)
    have hi0 : (0 : Int) <= (i : Int) := by omega
    have hi1 : (i : Int) < (b.length : Int) := by omega
    obtain ⟨P2, hP2⟩ : ∃ P2, (2 ^ x : Nat) = P2 := ⟨_, rfl⟩
    rw [hP2] at hand hpn HJx
    obtain ⟨ab, ao, asp⟩ := ad
    clear hx hP2 cB had hado hn hch
    generalize fr &&& P2 = Q at *
    cases ht : fr.testBit x with
    | true =>
     rw [ht] at hpn HTK
     rw [if_pos rfl, List.append_nil] at HTK
     have hq : ¬ (Q : Int) = 0 := by have := hpn.2 rfl; omega
     have HNX : Hid (ChS w W0 wr w2.heap.size B0 (.slice oa n oc) (GO ++ (comeF (b.take (i + 1)) fr).map fun i => (i, true))) := by
      show ChS _ _ _ _ _ _ _
      have h := HCH.out
      rw [HTK.out, <- HN.out]; exact h
     clear hpn HTK HCH
     gi_wp2_with fail
     refine ⟨trivial, ?_⟩
     refine HJx.out.mono ?_
     rintro e w9 ⟨rfl, rfl⟩
     clear HJx
     gi_wp2
     go_roundw
     case rel => exact ⟨i + 1, _, hlt, by go_num, HNX.out, HK.out⟩
     case measure => simp [intOf]; omega
    | false =>
     rw [ht] at hpn HTK
     rw [if_neg (by simp)] at HTK
     have hq : (Q : Int) = 0 := by
      have : Q = 0 := by
       apply Classical.byContradiction
       intro h
       cases hpn.1 h
      omega
     clear hpn
     gi_wp2_with fail
     refine ⟨trivial, ?_⟩
     refine HJx.out.mono ?_
     rintro e w9 ⟨rfl, rfl⟩
     clear HJx
     gi_wp2_with (gi_at_builtin; refine wpListIn_append_own_at _ rfl _ _ 85 rfl B0 89 i0 (.agg #[.int .i64 0, .bool false]) 2 16 Tryz.underlying85 hin hz0 hz1 hz2 rfl (by decide) _ _ _ rfl (HROW.out.alloc _) ⟨w9.heap.size, 0, none⟩ 1 1 [.int .i64 (x : Int), .bool true] rfl rfl ?c1 ?c2 ?c3 ?c4 ?c5 ?_)
     case c1 => exact cell_two_newP _ _ _ _
     case c2 => intro u hu; simp at hu; rcases hu with rfl | rfl <;> rfl
     case c3 => unfold maxLen; omega
     case c4 => omega
     case c5 => simp; omega
     intro v7 w7 hown7 hgrow7 _ hloc7
     obtain ⟨g7, c7, rfl⟩ := ownsRow_succ hown7
     have hch2 : ChS w W0 w9 w2.heap.size B0 (.slice oa n oc) (GO ++ (comeF (b.take i) fr).map fun i => (i, true)) := by have h := HCH.out; rw [HN.out] at h; exact h
     obtain ⟨kb, hch7⟩ := hch2.app (x := x) (b := true) (by rw [HN.out]; exact hown7) hgrow7
     have e7 : w7.cell? ⟨w2.heap.size, 0, none⟩ = some (.slice oa n oc) := kb.cell 0
     have f7 := kb.frozen 0
     have hKO : KeepsOthers w9 (w7.setCell ⟨w2.heap.size, 0, none⟩ (.slice (some ⟨g7, 0, none⟩) (n + 1) c7)) := ((KeepsOthers.alloc _ _).trans (KeepsOthers.of_grownBy hgrow7 (row_cells (HROW.out.alloc _)))).trans (KeepsOthers.setCell _ _ _)
     have HK7 : Hid ((w7.setCell ⟨w2.heap.size, 0, none⟩ (.slice (some ⟨g7, 0, none⟩) (n + 1) c7)).heap[D]? = some (.deferred (some []))) := hKO.same D _ HK.out rfl
     have HNX : Hid (ChS w W0 (w7.setCell ⟨w2.heap.size, 0, none⟩ (.slice (some ⟨g7, 0, none⟩) (n + 1) c7)) w2.heap.size B0 (.slice (some ⟨g7, 0, none⟩) (n + 1) c7) (GO ++ (comeF (b.take (i + 1)) fr).map fun i => (i, true))) := by
      show ChS _ _ _ _ _ _ _
      rw [HTK.out, List.map_append, <- List.append_assoc]; exact hch7
     clear hown7 hgrow7 hloc7 hch2 hch7 kb HROW HCH HTK hKO d0 cB2
     gi_wp2
     go_roundw
     case rel => exact ⟨i + 1, _, hlt, by go_num, HNX.out, HK7.out⟩
     case measure => simp [intOf]; omega
   ·obtain rfl : i = b.length := by omega
    rw [List.take_length] at HCH HROW HN
    have hr' : ∀ r, some D = some r -> ∃ o : Obj, wr.heap[r]? = some o /\ o.isCells = false := fun r e => by cases e; exact ⟨_, HK.out, rfl⟩
    have HRW := Lib.hid (row_keptO HROW.out (grownBy_putObj' wr D (.deferred none)) hr')
    have HBW : Hid (Below w.heap.size w wr) := hch.bel
    clear hch hr'
    gi_wp2
    refine ⟨by simp, .inl ⟨_, _, rfl, run_takeDeferred HK.out, ?_⟩⟩
    refine ⟨.tuple #[.slice oa n oc, .nilIface], ?_, ?_⟩
    ·simp [results, Tryz.f35, go_sem]
    ·rw [HGO.out, HN.out]
     exact ⟨_, rfl, ownsRow_base HRW.out (by omega), HBW.out.trans (belowK_b (w := w) (Nat.le_refl _) wr D _ _ (by omega) HK.out rfl rfl)⟩
theorem change_c (bk : Nat) (ls : List Ln) (its : List It) (hN : newF ls = .ok its) (fr tt : Nat) (w : World) (h : CatAt w bk ls its) (h1 : fr < 18446744073709551616) (h2 : tt < 18446744073709551616) :
  Calls Tryz.prog 35 #[.pointer (some ⟨bk, 0, none⟩), .int .u64 (fr : Int), .int .u64 (tt : Int)] w (ChangeRes w (chR its ls fr tt)) := by
 have key : ∀ set l, ordR its ls set = .ok l -> (∀ x ∈ l, x < 24) /\ l.length <= 24 := fun set l hl => by
  have hs : set < 2 ^ its.length := by
   have hf : (fitsF its ls set).1 = true := by
    cases hf : (fitsF its ls set).1 with
    | true => rfl
    | false => unfold ordR at hl; rw [if_pos hf] at hl; cases hl
   cases hsb : singleB its set with
   | false => rw [show fitsF its ls set = (false, -2) by unfold fitsF; rw [if_pos hsb]] at hf; cases hf
   | true =>
    unfold singleB at hsb
    exact of_decide_eq_true (Bool.and_eq_true_iff.1 hsb).1
  have hi := ordR_is hN hs hl
  have := (newF_ok hN).1
  exact ⟨fun x hx => by have := hi.lt x hx; omega, hi.len⟩
 cases ha : ordR its ls fr with
 | error k => exact change_err1 bk ls its hN fr tt w h h1 k ha
 | ok a =>
  cases hb : ordR its ls tt with
  | error k => exact change_err2 bk ls its hN fr tt w h h1 h2 a k ha hb
  | ok b => exact (callsIn_wide (n := 4)).1 (change_in bk ls its hN fr tt w h h1 h2 a b ha hb (key fr a ha).1 (key tt b hb).1 (key fr a ha).2 (key tt b hb).2)
end
section
open Go.RowKit Go.Deep Sv
def sgnF (p : Nat × Bool) : Int := if p.2 then (p.1 : Int) + 1 else -((p.1 : Int) + 1)
def RChangeRes (w : World) (r : Except Int (List (Nat × Bool))) (e : Ending) (w' : World) : Prop :=
 match r with
 | .error k => e = .returned (.tuple #[.slice none 0 0, .int .i64 k]) /\ Below w.heap.size w w'
 | .ok l => ∃ v, e = .returned (.tuple #[v, .int .i64 0]) /\ w'.ownsRow w.heap.size 3 1 v (l.map sgnF).length (icells (l.map sgnF)) /\ Below w.heap.size w w'
theorem rchange_err1 (ls : List Ln) (its : List It) (hN : newF ls = .ok its) (fr tt : Nat) (v : Value) (w : World) (h : RLs w v ls) (k : Int) (hk : ordR its ls fr = .error k) :
  Calls Tryz.prog 34 #[v, .int .u64 (fr : Int), .int .u64 (tt : Int)] w (RChangeRes w (chR its ls fr tt)) := by
 obtain ⟨va, vc, rfl⟩ : ∃ a c, v = .slice a ls.length c := by obtain ⟨vs', _, h2⟩ := h; obtain ⟨a, c, e, _⟩ := h2.form; exact ⟨a, c, e⟩
 have hkn : k ≠ 0 := by rcases ordR_false hk with ⟨_, rfl⟩ | ⟨_, rfl⟩ <;> decide
 have HO0 := rorder_any ls its hN fr _ w h
 rw [hk] at HO0
 have HO : Hid (Calls Tryz.prog 32 #[.slice va ls.length vc, .int .u64 (fr : Int)] w fun e w' => e = .returned (.tuple #[.slice none 0 0, .int .i64 k]) /\ Below w.heap.size w w') := HO0
 rw [chR_err1 hk]
 show Calls _ _ _ _ fun e w' => e = .returned (.tuple #[.slice none 0 0, .int .i64 k]) /\ Below w.heap.size w w'
 have hkb : (k != 0) = true := by simpa using hkn
 clear HO0 hk h hN
 go_enter Tryz.func34, Tryz.ntmps34
 go_wp2_with fail
 refine HO.out.mono ?_
 rintro e w1 ⟨rfl, hb1⟩
 have HB1 := Lib.hid hb1
 clear hb1 HO
 go_wp2
 go_ret2
 exact ⟨rfl, HB1.out⟩
theorem rchange_err2 (ls : List Ln) (its : List It) (hN : newF ls = .ok its) (fr tt : Nat) (v : Value) (w : World) (h : RLs w v ls) (a : List Nat) (k : Int) (ha : ordR its ls fr = .ok a) (hk : ordR its ls tt = .error k) :
  Calls Tryz.prog 34 #[v, .int .u64 (fr : Int), .int .u64 (tt : Int)] w (RChangeRes w (chR its ls fr tt)) := by
 obtain ⟨va, vc, rfl⟩ : ∃ a c, v = .slice a ls.length c := by obtain ⟨vs', _, h2⟩ := h; obtain ⟨a, c, e, _⟩ := h2.form; exact ⟨a, c, e⟩
 have hkn : k ≠ 0 := by rcases ordR_false hk with ⟨_, rfl⟩ | ⟨_, rfl⟩ <;> decide
 have HO0 := rorder_any ls its hN fr _ w h
 rw [ha] at HO0
 have HO : Hid (Calls Tryz.prog 32 #[.slice va ls.length vc, .int .u64 (fr : Int)] w fun e w' => ∃ wa wc, e = .returned (.tuple #[.slice wa a.length wc, .int .i64 0]) /\ Below w.heap.size w w') := HO0.mono fun e w' ⟨v, he, hr, hb⟩ => by
  obtain ⟨wa, wc, rfl, -⟩ := row_form hr
  exact ⟨wa, wc, he, hb⟩
 have HT : Hid (∀ W, Below w.heap.size w W -> Calls Tryz.prog 32 #[.slice va ls.length vc, .int .u64 (tt : Int)] W fun e w' => e = .returned (.tuple #[.slice none 0 0, .int .i64 k]) /\ Below W.heap.size W w') := fun W hb => by
  have := rorder_any ls its hN tt _ W (h.below hb (Nat.le_refl _))
  rw [hk] at this
  exact this
 rw [chR_err2 ha hk]
 show Calls _ _ _ _ fun e w' => e = .returned (.tuple #[.slice none 0 0, .int .i64 k]) /\ Below w.heap.size w w'
 have hkb : (k != 0) = true := by simpa using hkn
 clear HO0 hk ha h hN
 go_enter Tryz.func34, Tryz.ntmps34
 go_wp2_with fail
 refine HO.out.mono ?_
 rintro e w1 ⟨wa, wc, rfl, hb1⟩
 have HT1 := Lib.hid (HT.out w1 hb1)
 have HB1 := Lib.hid hb1
 clear hb1 HO HT
 go_wp2_with fail
 refine HT1.out.mono ?_
 rintro e w2 ⟨rfl, hb2⟩
 have HB2 := Lib.hid (HB1.out.trans (hb2.mono HB1.out.size))
 clear hb2 HT1 HB1
 go_wp2
 go_ret2
 exact ⟨rfl, HB2.out⟩
theorem rchange_ok (ls : List Ln) (its : List It) (hN : newF ls = .ok its) (fr tt : Nat) (v : Value) (w : World) (h : RLs w v ls) (h1 : fr < 18446744073709551616) (h2 : tt < 18446744073709551616) (a b : List Nat) (ha : ordR its ls fr = .ok a) (hb : ordR its ls tt = .ok b) (ha24 : ∀ x ∈ a, x < 24) (hb24 : ∀ x ∈ b, x < 24) (hal : a.length <= 24) (hbl : b.length <= 24) :
  Calls Tryz.prog 34 #[v, .int .u64 (fr : Int), .int .u64 (tt : Int)] w (RChangeRes w (chR its ls fr tt)) := by
 obtain ⟨va, vc, rfl⟩ : ∃ a c, v = .slice a ls.length c := by obtain ⟨vs', _, h2⟩ := h; obtain ⟨a, c, e, _⟩ := h2.form; exact ⟨a, c, e⟩
 obtain ⟨i0, hin, hz0, hz1, hz2⟩ := info_parts infoInt
 have HO0 := rorder_any ls its hN fr _ w h
 rw [ha] at HO0
 have HO : Hid (Calls Tryz.prog 32 #[.slice va ls.length vc, .int .u64 (fr : Int)] w fun e w' => ∃ wa wc, e = .returned (.tuple #[.slice wa a.length wc, .int .i64 0]) /\ IntsIn w' wa (natS a) /\ Below w.heap.size w w') := HO0.mono fun e w' ⟨v, he, hr, hb⟩ => by
  obtain ⟨wa, wc, rfl, -⟩ := row_form hr
  exact ⟨wa, wc, he, ints_row (B := w.heap.size) (c := wc) (by rw [natS_len]; exact hr), hb⟩
 have HT : Hid (∀ W, Below w.heap.size w W -> Calls Tryz.prog 32 #[.slice va ls.length vc, .int .u64 (tt : Int)] W fun e w' => ∃ wa wc, e = .returned (.tuple #[.slice wa b.length wc, .int .i64 0]) /\ IntsIn w' wa (natS b) /\ Below W.heap.size W w') := fun W hb0 => by
  have h0 := rorder_any ls its hN tt _ W (h.below hb0 (Nat.le_refl _))
  rw [hb] at h0
  exact h0.mono fun e w' ⟨v, he, hr, hb⟩ => by
   obtain ⟨wa, wc, rfl, -⟩ := row_form hr
   exact ⟨wa, wc, he, ints_row (B := W.heap.size) (c := wc) (by rw [natS_len]; exact hr), hb⟩
 rw [chR_ok ha hb]
 show Calls _ _ _ _ fun e w' => ∃ v, e = .returned (.tuple #[v, .int .i64 0]) /\ w'.ownsRow w.heap.size 3 1 v (((goF a tt).map (fun i => (i, false)) ++ (comeF b fr).map fun i => (i, true)).map sgnF).length (icells (((goF a tt).map (fun i => (i, false)) ++ (comeF b fr).map fun i => (i, true)).map sgnF)) /\ Below w.heap.size w w'
 have eF : ((goF a tt).map (fun i => (i, false)) ++ (comeF b fr).map fun i => (i, true)).map sgnF = (goF a tt).map (fun i : Nat => -((i : Int) + 1)) ++ (comeF b fr).map fun i : Nat => (i : Int) + 1 := by
  rw [List.map_append, List.map_map, List.map_map]
  rfl
 rw [eF]
 have HA := Lib.hid ha24
 have HBl := Lib.hid hb24
 have hgl : (goF a tt).length <= 24 := by
  have : (goF a tt).length <= a.length := by unfold goF; exact Nat.le_trans (List.length_filter_le _ _) (by simp)
  omega
 clear HO0 h hN ha hb ha24 hb24 eF
 go_enter Tryz.func34, Tryz.ntmps34
 go_wp2_with fail
 refine HO.out.mono ?_
 rintro e w1 ⟨wa, wc, rfl, hia, hb1⟩
 have HT1 := Lib.hid (HT.out w1 hb1)
 have HB1 := Lib.hid hb1
 have HIA1 := Lib.hid hia
 clear hb1 HO HT hia
 go_wp2_with fail
 refine HT1.out.mono ?_
 rintro e w2 ⟨xa, xc, rfl, hib, hb2⟩
 have HB2 := Lib.hid (HB1.out.trans (hb2.mono HB1.out.size))
 have HIA := Lib.hid (HIA1.out.below hb2)
 have HIB := Lib.hid hib
 have hiw : IntKind.i64.wrap ((a.length : Int) - 1) = (a.length : Int) - 1 := by rw [IntKind.wrap_i64]; omega
 clear hb2 HT1 HB1 HIA1 hib
 go_wp2_with fail
 go_loopw [11, 12] (fun oV iV wr => ∃ (m : Nat) (pre : List Nat), m <= a.length /\ iV = .int .i64 ((m : Int) - 1) /\ pre ++ goF (a.take m) tt = goF a tt /\ wr.ownsRow w2.heap.size 3 1 oV (pre.map fun i : Nat => -((i : Int) + 1)).length (icells (pre.map fun i : Nat => -((i : Int) + 1))) /\ Below w2.heap.size w2 wr) (fun _ iV _ => (intOf iV + 1).toNat)
 case atStart => exact ⟨a.length, [], Nat.le_refl _, by first | rfl | go_num, by rw [List.take_length]; rfl, World.ownsRow_nil _ _ _ _, Below.refl _ _⟩
 case round =>
  obtain ⟨m, pre, hm, rfl, hcut, hrow, hbr⟩ := hrel
  have HC := Lib.hid hcut
  have HROW := Lib.hid hrow
  have HBR := Lib.hid hbr
  have hpl : pre.length <= 24 := by have := congrArg List.length hcut; rw [List.length_append] at this; omega
  rw [List.length_map] at HROW
  have hrow2 : wr.ownsRow w2.heap.size 3 1 _ pre.length _ := HROW.out
  obtain ⟨oa, oc, rfl, -⟩ := row_form hrow2
  have hbs := hbr.size
  clear hcut hrow hrow2
  by_cases hm0 : m = 0
  ·subst hm0
   rw [show ((0 : Nat) : Int) - 1 = -1 by rfl]
   have hcut := HC.out
   rw [show goF (a.take 0) tt = [] by simp [goF], List.append_nil] at hcut
   subst hcut
   obtain ⟨w3, hw3⟩ : ∃ w3, w3 = wr := ⟨wr, rfl⟩
   subst hw3
   have HIB3 := Lib.hid (HIB.out.below hbr)
   have HB3 : Hid (Below w.heap.size w w3) := HB2.out.trans (hbr.mono HB2.out.size)
   have hw2 := HB2.out.size
   clear hbr
   obtain ⟨GO, hGO⟩ : ∃ GO, (goF a tt).map (fun i : Nat => -((i : Int) + 1)) = GO := ⟨_, rfl⟩
   have hGl : GO.length = (goF a tt).length := by rw [<- hGO, List.length_map]
   have HGO := Lib.hid hGO
   rw [hGO] at HROW
   have HST : Hid (w3.ownsRow w2.heap.size 3 1 (.slice oa (goF a tt).length oc) (GO ++ (comeF (b.take 0) fr).map fun i : Nat => (i : Int) + 1).length (icells (GO ++ (comeF (b.take 0) fr).map fun i : Nat => (i : Int) + 1))) := by
    show World.ownsRow _ _ _ _ _ _ _
    rw [show (comeF (b.take 0) fr).map (fun i : Nat => (i : Int) + 1) = [] by simp [comeF], List.append_nil, hGl]; exact HROW.out
   have hG24 : GO.length <= 24 := by omega
   generalize (goF a tt).length = gn at *
   clear hGO hGl HC HROW
   go_wp2_with fail
   go_loopw [11, 59] (fun oV iV wr => ∃ i : Nat, i <= b.length /\ iV = .int .i64 (i : Int) /\ wr.ownsRow w2.heap.size 3 1 oV (GO ++ (comeF (b.take i) fr).map fun i : Nat => (i : Int) + 1).length (icells (GO ++ (comeF (b.take i) fr).map fun i : Nat => (i : Int) + 1)) /\ Below w2.heap.size w2 wr) (fun _ iV _ => b.length - (intOf iV).toNat)
   case atStart => exact ⟨0, Nat.zero_le _, rfl, HST.out, HBR.out⟩
   case round =>
    clear HST HBR
    obtain ⟨i, hil, rfl, hrow, hbr⟩ := hrel
    have HROW := Lib.hid hrow
    have HBR := Lib.hid hbr
    have hbs := hbr.size
    have hcl : (comeF (b.take i) fr).length <= 24 := by
     unfold comeF
     have := List.length_filter_le (fun i => !fr.testBit i) (b.take i)
     rw [List.length_take] at this
     omega
    obtain ⟨n, hn⟩ : ∃ n, (GO ++ (comeF (b.take i) fr).map fun i : Nat => (i : Int) + 1).length = n := ⟨_, rfl⟩
    have hn48 : n <= 48 := by rw [<- hn, List.length_append, List.length_map]; omega
    rw [hn] at HROW hrow
    have HN := Lib.hid hn
    obtain ⟨qa, qc, rfl, -⟩ := row_form hrow
    clear hrow hn
    by_cases hlt : i < b.length
    ·obtain ⟨ad, rfl, had, cB⟩ := (HIB.out.below hbr) i (by rw [natS_len]; exact hlt)
     rw [natS_at b i hlt] at cB
     have hx24 := HBl.out _ (pget_mem b i hlt)
     have HTK : Hid (comeF (b.take (i + 1)) fr = comeF (b.take i) fr ++ (if fr.testBit (b.getD i 0) then [] else [b.getD i 0])) := by
      show _ = _
      unfold comeF
      rw [ptake_snoc b i hlt, List.filter_append]
      congr 1
      cases hq : fr.testBit (b.getD i 0) <;> simp only [List.filter_cons, hq] <;> rfl
     obtain ⟨x, hx⟩ : ∃ x, b.getD i 0 = x := ⟨_, rfl⟩
     rw [hx] at cB hx24 HTK
     have s0 := shr_bit0 fr x h1
     have hi0 : (0 : Int) <= (i : Int) := by omega
     have hi1 : (i : Int) < (b.length : Int) := by omega
     obtain ⟨ab, ao, asp⟩ := ad
     clear hx had hbr
     cases ht : fr.testBit x with
     | true =>
      rw [ht] at s0 HTK
      rw [if_pos rfl, List.append_nil] at HTK
      have s2 : (bits BinOp.and IntKind.u64 ((fr : Int) / 2 ^ x) 1 == 0) = false := s0
      have HR2 : Hid (wr.ownsRow w2.heap.size 3 1 (.slice qa n qc) (GO ++ (comeF (b.take (i + 1)) fr).map fun i : Nat => (i : Int) + 1).length (icells (GO ++ (comeF (b.take (i + 1)) fr).map fun i : Nat => (i : Int) + 1))) := by
       show World.ownsRow _ _ _ _ _ _ _
       rw [HTK.out, HN.out]; exact HROW.out
      clear ht s0 HTK HROW
      go_wp2
      go_roundw
      case rel => exact ⟨i + 1, hlt, by go_num, HR2.out, HBR.out⟩
      case measure => simp [intOf]; omega
     | false =>
      rw [ht] at s0 HTK
      rw [if_neg (by simp)] at HTK
      have s2 : (bits BinOp.and IntKind.u64 ((fr : Int) / 2 ^ x) 1 == 0) = true := s0
      clear ht s0
      go_wp2_with (at_builtin; refine wpList_append_own_at _ rfl _ _ 31 rfl w2.heap.size 3 i0 (.int .i64 0) 1 8 Tryz.underlying31 hin hz0 hz1 hz2 rfl (by decide) _ _ _ rfl (HROW.out.alloc _) ⟨wr.heap.size, 0, none⟩ 1 1 [.int .i64 ((x : Int) + 1)] rfl rfl ?e1 ?e2 ?e3 ?e4 ?e5 ?_)
      case e1 => exact cell_lit _ _ _
      case e2 => exact one_lit _
      case e3 => unfold maxLen; omega
      case e4 => omega
      case e5 => simp; omega
      intro v8 w8 hown8 hgrow8 _ hloc8
      have HR8 : Hid (w8.ownsRow w2.heap.size 3 1 v8 (GO ++ (comeF (b.take (i + 1)) fr).map fun i : Nat => (i : Int) + 1).length (icells (GO ++ (comeF (b.take (i + 1)) fr).map fun i : Nat => (i : Int) + 1))) := by
       show World.ownsRow _ _ _ _ _ _ _
       rw [HTK.out, List.map_append, <- List.append_assoc, List.map_cons, List.map_nil, icells_snoc, List.length_append, HN.out]
       exact hown8
      have HB8 : Hid (Below w2.heap.size w2 w8) := (HBR.out.alloc HBR.out.size _).grown hgrow8 (by simp; omega) (fun k hk => (HROW.out.lt k hk).1)
      obtain ⟨v8a, v8c, rfl, -⟩ := row_form hown8
      clear hown8 hgrow8 hloc8 HROW HTK
      go_wp2
      go_roundw
      case rel => exact ⟨i + 1, hlt, by go_num, HR8.out, HB8.out⟩
      case measure => simp [intOf]; omega
    ·obtain rfl : i = b.length := by omega
     rw [List.take_length] at HROW HN
     have HB9 : Hid (Below w.heap.size w wr) := HB2.out.trans (hbr.mono HB2.out.size)
     clear hbr
     go_wp2
     go_ret2
     rw [HGO.out, HN.out]
     exact ⟨_, rfl, ownsRow_base HROW.out hw2, HB9.out⟩
  ·obtain ⟨j, rfl⟩ : ∃ j, m = j + 1 := ⟨m - 1, by omega⟩
   have hj : j < a.length := by omega
   obtain ⟨ad, rfl, had, cA⟩ := (HIA.out.below hbr) j (by rw [natS_len]; exact hj)
   rw [natS_at a j hj] at cA
   have hx24 := HA.out _ (pget_mem a j hj)
   have hcut := HC.out
   rw [goF_take a tt j hj] at hcut
   have HX := Lib.hid hcut
   have hjw : ((j + 1 : Nat) : Int) - 1 = (j : Int) := by omega
   rw [hjw]
   have hj0 : (0 : Int) <= (j : Int) := by omega
   have hj1 : (j : Int) < (a.length : Int) := by omega
   have hjw2 : IntKind.i64.wrap ((j : Int) - 1) = (j : Int) - 1 := by rw [IntKind.wrap_i64]; omega
   obtain ⟨x, hx⟩ : ∃ x, a.getD j 0 = x := ⟨_, rfl⟩
   rw [hx] at cA hx24 HX
   have s0 := shr_bit0 tt x h2
   obtain ⟨ab, ao, asp⟩ := ad
   clear hcut hx hjw HC had hm0 hbr
   cases ht : tt.testBit x with
   | true =>
    rw [ht] at s0 HX
    rw [if_pos rfl, List.nil_append] at HX
    have s2 : (bits BinOp.and IntKind.u64 ((tt : Int) / 2 ^ x) 1 == 0) = false := s0
    have HR2 : Hid (wr.ownsRow w2.heap.size 3 1 (.slice oa pre.length oc) (pre.map fun i : Nat => -((i : Int) + 1)).length (icells (pre.map fun i : Nat => -((i : Int) + 1)))) := by
     show World.ownsRow _ _ _ _ _ _ _
     rw [List.length_map]; exact HROW.out
    clear ht s0 HROW
    go_wp2
    go_roundw
    case rel => exact ⟨j, pre, by omega, by first | rfl | go_num, HX.out, HR2.out, HBR.out⟩
    case measure => first | (simp [intOf]; done) | (simp [intOf]; omega)
   | false =>
    rw [ht] at s0 HX
    rw [if_neg (by simp)] at HX
    have s2 : (bits BinOp.and IntKind.u64 ((tt : Int) / 2 ^ x) 1 == 0) = true := s0
    clear ht s0
    go_wp2_with (at_builtin; refine wpList_append_own_at _ rfl _ _ 31 rfl w2.heap.size 3 i0 (.int .i64 0) 1 8 Tryz.underlying31 hin hz0 hz1 hz2 rfl (by decide) _ _ _ rfl (HROW.out.alloc _) ⟨wr.heap.size, 0, none⟩ 1 1 [.int .i64 (-((x : Int) + 1))] rfl rfl ?f1 ?f2 ?f3 ?f4 ?f5 ?_)
    case f1 => exact cell_lit _ _ _
    case f2 => exact one_lit _
    case f3 => unfold maxLen; omega
    case f4 => omega
    case f5 => simp; omega
    intro v8 w8 hown8 hgrow8 _ hloc8
    have HR8 : Hid (w8.ownsRow w2.heap.size 3 1 v8 ((pre ++ [x]).map fun i : Nat => -((i : Int) + 1)).length (icells ((pre ++ [x]).map fun i : Nat => -((i : Int) + 1)))) := by
     show World.ownsRow _ _ _ _ _ _ _
     rw [List.map_append, List.map_cons, List.map_nil, icells_snoc, List.length_append, List.length_map]
     exact hown8
    have HB8 : Hid (Below w2.heap.size w2 w8) := (HBR.out.alloc HBR.out.size _).grown hgrow8 (by simp; omega) (fun k hk => (HROW.out.lt k hk).1)
    obtain ⟨v8a, v8c, rfl, -⟩ := row_form hown8
    clear hown8 hgrow8 hloc8 HROW
    go_wp2
    go_roundw
    case rel => exact ⟨j, pre ++ [x], by omega, by first | rfl | go_num, by rw [List.append_assoc]; exact HX.out, HR8.out, HB8.out⟩
    case measure => first | (simp [intOf]; done) | (simp [intOf]; omega)
theorem rchange_any (ls : List Ln) (its : List It) (hN : newF ls = .ok its) (fr tt : Nat) (v : Value) (w : World) (h : RLs w v ls) (h1 : fr < 18446744073709551616) (h2 : tt < 18446744073709551616) :
  Calls Tryz.prog 34 #[v, .int .u64 (fr : Int), .int .u64 (tt : Int)] w (RChangeRes w (chR its ls fr tt)) := by
 have key : ∀ set l, ordR its ls set = .ok l -> (∀ x ∈ l, x < 24) /\ l.length <= 24 := fun set l hl => by
  have hs : set < 2 ^ its.length := by
   have hf : (fitsF its ls set).1 = true := by
    cases hf : (fitsF its ls set).1 with
    | true => rfl
    | false => unfold ordR at hl; rw [if_pos hf] at hl; cases hl
   cases hsb : singleB its set with
   | false => rw [show fitsF its ls set = (false, -2) by unfold fitsF; rw [if_pos hsb]] at hf; cases hf
   | true =>
    unfold singleB at hsb
    exact of_decide_eq_true (Bool.and_eq_true_iff.1 hsb).1
  have hi := ordR_is hN hs hl
  have := (newF_ok hN).1
  exact ⟨fun x hx => by have := hi.lt x hx; omega, hi.len⟩
 cases ha : ordR its ls fr with
 | error k => exact rchange_err1 ls its hN fr tt v w h k ha
 | ok a =>
  cases hb : ordR its ls tt with
  | error k => exact rchange_err2 ls its hN fr tt v w h a k ha hb
  | ok b => exact rchange_ok ls its hN fr tt v w h h1 h2 a b ha hb (key fr a ha).1 (key tt b hb).1 (key fr a ha).2 (key tt b hb).2
end
end Go.Proofs.YtpmpnbbihmgdpaaGreatDoor
