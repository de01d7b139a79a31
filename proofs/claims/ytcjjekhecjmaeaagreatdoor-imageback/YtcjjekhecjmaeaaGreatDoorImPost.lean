/- How the nodes to which a handle leads are numbered: each behind those that it leads to, Low's first. Plain: no memory. -/
import Derived.Test.YtcjjekhecjmaeaaGreatDoorCnOf
import Derived.PlainAid
import Derived.Test.YtcjjekhecjmaeaaGreatDoorArMake
import Derived.Lib.BufSteps
import Derived.Laws.IdiomStrings
import Derived.Test.YtcjjekhecjmaeaaGreatDoorBdNode
set_option maxHeartbeats 1000000
set_option maxRecDepth 100000
namespace Go.Proofs.YtcjjekhecjmaeaaGreatDoor
section
open Go.RowKit Go.Shelf Go.Sort Go.PlainAid
def sumS (n : Nat) (b : UInt8) : Nat := (41 * n + b.toNat) % 9973
def sumF (l : List UInt8) : Nat := l.foldl sumS 19
theorem sumF_lt (l : List UInt8) : sumF l < 9973 := by
 unfold sumF
 have : ∀ (l : List UInt8) (n : Nat), n < 9973 -> l.foldl sumS n < 9973 := by
  intro l
  induction l with
  | nil => exact fun n h => h
  | cons b l ih => exact fun n h => ih _ (Nat.mod_lt _ (by decide))
 exact this l 19 (by decide)
theorem sumF_take {l : List UInt8} {k : Nat} (hk : k < l.length) : sumF (l.take (k + 1)) = (41 * sumF (l.take k) + (l[k]).toNat) % 9973 := by
 unfold sumF
 rw [List.take_succ_eq_append_getElem hk, List.foldl_append]; rfl
theorem tmod_nat (a : Nat) : ((a : Nat) : Int).tmod 9973 = ((a % 9973 : Nat) : Int) := by
 rw [Int.tmod_eq_emod_of_nonneg (by omega)]; omega
def BytesAt (W : World) (v : Value) (l : List UInt8) : Prop := ∃ a c, v = .slice a l.length c /\ ∀ i (h : i < l.length), ∃ g, a = some ⟨g, 0, none⟩ /\ g < W.heap.size /\ W.cell? ⟨g, i, none⟩ = some (.int .u8 ((l[i]).toNat : Int))
theorem BytesAt.below {W W' : World} {v : Value} {l : List UInt8} (h : BytesAt W v l) (hb : Below W.heap.size W W') : BytesAt W' v l := by
 obtain ⟨a, c, e, h⟩ := h
 refine ⟨a, c, e, fun i hi => ?_⟩
 obtain ⟨g, h1, h2, h3⟩ := h i hi
 exact ⟨g, h1, Nat.lt_of_lt_of_le h2 hb.size, (hb.cell (p := ⟨g, i, none⟩) h2).trans h3⟩
theorem sum_any (l : List UInt8) (hl : l.length <= 1000000) (v : Value) (w : World) (h : BytesAt w v l) :
  Calls Tryz.prog 49 #[v] w fun e w' => e = .returned (.int .i64 (sumF l : Int)) /\ w' = w := by
 obtain ⟨a, c, rfl, h⟩ := h
 have HC := Lib.hid h
 clear h
 go_enter Tryz.func49, Tryz.ntmps49
 go_wp2_with fail
 go_loopw [3, 8] (fun n i wr => ∃ k : Nat, k <= l.length /\ i = .int .i64 (k : Int) /\ n = .int .i64 (sumF (l.take k) : Int) /\ wr = w) (fun _ i _ => l.length - (intOf i).toNat)
 case atStart => exact ⟨0, Nat.zero_le _, rfl, rfl, rfl⟩
 case round =>
  obtain ⟨k, hk, rfl, rfl, rfl⟩ := hrel
  by_cases hlt : k < l.length
  ·obtain ⟨g, rfl, -, c0⟩ := HC.out k hlt
   have i1 : (k : Int) < (l.length : Int) := by omega
   have HT := Lib.hid (sumF_take hlt)
   have hs := sumF_lt (l.take k)
   have hb : (l[k]).toNat < 256 := (l[k]).toNat_lt
   generalize sumF (l.take k) = s at *
   generalize (l[k]).toNat = b at *
   have e1 : (41 * (s : Int) + (b : Int)).tmod 9973 = (((41 * s + b) % 9973 : Nat) : Int) := by
    rw [<- tmod_nat]; congr 1
   have e2 : (41 * s + b) % 9973 < 9973 := Nat.mod_lt _ (by decide)
   generalize (41 * s + b) % 9973 = r at *
   go_wp2
   go_roundw
   case rel => exact ⟨k + 1, by omega, by go_num, by rw [HT.out], trivial⟩
   case measure => simp [intOf]; omega
  ·obtain rfl : k = l.length := by omega
   have HT : Hid (l.take l.length = l) := List.take_length
   rw [List.take_length]
   go_wp2
   go_ret
   exact ⟨rfl, rfl⟩
end
section
open Go.RowKit Go.Shelf Go.Lib
def RowM (w : World) (B : Nat) (v : Value) (l : List UInt8) : Prop :=
 ∃ g cap cur fz, v = .slice (some ⟨g, 0, none⟩) l.length cap /\ B <= g /\ w.heap[g]? = some (.cells cur 5 fz) /\ (∀ j, l.length <= j -> j < cap -> ¬ (fz.1 <= j /\ j < fz.2)) /\ l.length <= cap /\ cap <= maxLen /\ cur.size = cap /\ cur.toList.take l.length = Lib.byteCells l
section
variable {w w' : World} {B : Nat} {v : Value} {l : List UInt8}
theorem RowM.own (h : RowM w B v l) : ∃ g, v.ownBlock = some g /\ B <= g /\ g < w.heap.size := by
 obtain ⟨g, cap, cur, fz, rfl, h1, h2, -⟩ := h
 exact ⟨g, rfl, h1, (Array.getElem?_eq_some_iff.1 h2).1⟩
theorem RowM.form (h : RowM w B v l) : ∃ a c, v = .slice a l.length c := by
 obtain ⟨g, cap, cur, fz, e, -⟩ := h
 exact ⟨_, _, e⟩
theorem RowM.below (h : RowM w B v l) (hb : Below w.heap.size w w') : RowM w' B v l := by
 obtain ⟨g, cap, cur, fz, h0, h1, h2, h3⟩ := h
 exact ⟨g, cap, cur, fz, h0, h1, (hb.block g (Array.getElem?_eq_some_iff.1 h2).1).trans h2, h3⟩
theorem RowM.bytes (h : RowM w B v l) : BytesAt w v l := by
 obtain ⟨g, cap, cur, fz, rfl, h1, h2, h3, h4, h5, h6, h7⟩ := h
 refine ⟨_, _, rfl, fun i hi => ⟨g, rfl, (Array.getElem?_eq_some_iff.1 h2).1, ?_⟩⟩
 have e : (cur.toList.take l.length)[i]? = cur[i]? := by rw [List.getElem?_take, if_pos hi]; simp
 rw [h7] at e
 have e2 : w.cell? ⟨g, i, none⟩ = cur[i]? := by simp [World.cell?, h2]
 rw [e2, <- e]
 simp [Lib.byteCells, hi]
theorem RowM.base {B' : Nat} (h : RowM w B v l) (hB : B' <= B) : RowM w B' v l := by
 obtain ⟨g, cap, cur, fz, h0, h1, h2⟩ := h
 exact ⟨g, cap, cur, fz, h0, Nat.le_trans hB h1, h2⟩
theorem conv_new (w : World) (s : ByteArray) (hs : s.size <= 1000000) : ∃ v w', (convert 9 49 (.string s)).run Tryz.prog w = .ok v w' /\ RowM w' w.heap.size v s.data.toList /\ Below w.heap.size w w' := by
 have hr := run_bytes_of_string (P := Tryz.prog) w 9 49 5 s Tryz.underlying9 Tryz.underlying49 Tryz.underlying5
 have hcap := grownCap_ge w s.size 0 5
 have hcm := grownCap_le_maxLen w s.size 0 5 (by unfold maxLen; omega)
 have hsz : (bytesRow s (grownCap w s.size 0 5)).size = grownCap w s.size 0 5 := by
  unfold bytesRow
  rw [Array.size_append, Array.size_map, Array.size_replicate]
  have : s.data.size = s.size := rfl
  omega
 have hl : s.data.toList.length = s.size := by rw [Array.length_toList]; rfl
 refine ⟨_, _, hr, ⟨w.heap.size, _, _, _, by rw [hl], Nat.le_refl _, (MapKept.heap_alloc w.drew _).1, fun j h1 h2 h3 => ?_, by rw [hl]; exact hcap, hcm, hsz, ?_⟩, (below_new w _).drew⟩
 ·simp only at h3
  rw [hsz] at h3
  omega
 ·unfold bytesRow
  rw [Array.toList_append, hl]
  have e : (s.data.map (fun b => Value.int .u8 b.toNat)).toList = Lib.byteCells s.data.toList := by
   rw [Array.toList_map]; rfl
  rw [e]
  have e2 : (Lib.byteCells s.data.toList).length = s.size := by rw [Lib.byteCells_length, hl]
  rw [<- e2]; exact List.take_left
theorem store_clear (g : Nat) (fz : Nat × Nat) : ∀ (vs : List Value) (o i : Nat) (cur : Array Value) (w : World), w.heap[g]? = some (.cells cur 5 fz) -> (∀ j, o + i <= j -> j < o + i + vs.length -> ¬ (fz.1 <= j /\ j < fz.2)) -> o + i + vs.length <= cur.size -> (∀ v ∈ vs, v.oneCell' = true) ->
  (storeCells ⟨g, o, none⟩ vs i).run Tryz.prog w = .ok () (w.setRow g (cur.toList.take (o + i) ++ vs ++ cur.toList.drop (o + i + vs.length)).toArray)
 | [], o, i, cur, w, hg, _, _, _ => by
  have e : (cur.toList.take (o + i) ++ [] ++ cur.toList.drop (o + i + ([] : List Value).length)).toArray = cur := by simp
  rw [e, setRow_self w g cur 5 fz hg]
  rfl
 | x :: vs, o, i, cur, w, hg, hf, hl, h1 => by
  rw [List.length_cons] at hl hf
  have hi : o + i < cur.size := by omega
  have had : (⟨g, o, none⟩ : Addr).add i = ⟨g, o + i, none⟩ := by unfold Addr.add; split <;> simp_all
  have hc : w.cell? ⟨g, o + i, none⟩ = some cur[o + i] := by simp [World.cell?, hg, hi]
  have hfr : w.frozen? ⟨g, o + i, none⟩ = false := by
   have := hf (o + i) (Nat.le_refl _) (by omega)
   obtain ⟨a, b⟩ := fz
   simp only [World.frozen?, hg, Bool.and_eq_false_iff, decide_eq_false_iff_not]
   simp only at this
   omega
  have hst : (store ((⟨g, o, none⟩ : Addr).add i) x).run Tryz.prog w = .ok () (w.setRow g (cur.setIfInBounds (o + i) x)) := by
   rw [had, run_store Tryz.prog w _ x _ (h1 x (List.mem_cons_self ..)), hc]
   simp [hfr, setCell_eq_setRow w g (o + i) cur 5 fz x hg]
  have ih := store_clear g fz vs o (i + 1) (cur.setIfInBounds (o + i) x) (w.setRow g (cur.setIfInBounds (o + i) x)) (setRow_heap w g cur _ 5 _ hg) (fun j h2 h3 => hf j (by omega) (by omega)) (by rw [Array.size_setIfInBounds]; omega) (fun y hy => h1 y (List.mem_cons_of_mem _ hy))
  simp only [storeCells, Sem.run_bind, hst, Result.andThen_ok, ih, setRow_setRow]
  congr 3
  have e := list_seg_step cur.toList (o + i) x vs (by simp; omega)
  simpa [Array.toList_setIfInBounds, Nat.add_assoc] using e
theorem infoU8 : (Tryz.prog.info? 5).map (fun i => (i.zero, i.size, i.bytes)) = some (some (.int .u8 0), 1, 1) := by kernel_rfl
theorem append_text (h : RowM w B v l) (s : ByteArray) (hl : l.length + s.size <= 1000000) (hB : B <= w.heap.size) (ty : TypeId) :
  ∃ v' w', (Builtin.append_ #[49, 9] ty #[v, .string s]).run Tryz.prog w = .ok v' w' /\ RowM w' B v' (l ++ s.data.toList) /\ w.grownBy w' v.ownBlock := by
 obtain ⟨i0, hi, hz0, hz1, hz2⟩ := info_parts infoU8
 obtain ⟨g, cap, cur, fz, rfl, hg, hh, hf, hc1, hc2, hcs, ht⟩ := h
 have ht1 := Tryz.underlying49
 have hu1 := Tryz.underlying9
 have hsl : s.data.toList.length = s.size := by rw [Array.length_toList]; rfl
 have hbl : (Lib.byteCells l).length = l.length := Lib.byteCells_length l
 have hadd : Lib.byteCells (l ++ s.data.toList) = Lib.byteCells l ++ Lib.strCells s := by rw [Lib.strCells_eq]; simp [Lib.byteCells]
 have hln : (l ++ s.data.toList).length = l.length + s.size := by rw [List.length_append, hsl]
 by_cases hroom : l.length + s.size <= cap
 ·have hfc := run_firstCells_string (P := Tryz.prog) w 1 s
  have hst := store_clear g fz (Lib.strCells s) l.length 0 cur w hh (fun j h1 h2 => hf j (by omega) (by rw [Lib.strCells_length] at h2; omega)) (by rw [Lib.strCells_length]; omega) (strCells_oneCell s)
  simp only [Nat.add_zero, Lib.strCells_length] at hst
  have hr : (Builtin.append_ #[49, 9] ty #[.slice (some ⟨g, 0, none⟩) l.length cap, .string s]).run Tryz.prog w = .ok (.slice (some ⟨g, 0, none⟩) (l.length + s.size) cap) (w.setRow g (cur.toList.take l.length ++ Lib.strCells s ++ cur.toList.drop (l.length + s.size)).toArray) := by
   simp [Builtin.append_, run_underlying ht1, run_underlying hu1, sizeOf, typeInfo, hi, hz1, Builtin.lenOf, hroom, hfc, Addr.add_lit, hst]
  refine ⟨_, _, hr, ⟨g, cap, _, fz, by rw [hln], hg, setRow_heap w g cur _ 5 _ hh, fun j h1 h2 => hf j (by omega) h2, by rw [hln]; exact hroom, hc2, ?_, ?_⟩, ⟨rfl, rfl, rfl, by simp, fun k _ hk => setRow_other w g k _ (fun e => hk (by simp [Value.ownBlock, e]))⟩⟩
  ·simp only [List.size_toArray, List.length_append, List.length_take, List.length_drop, Array.length_toList, Lib.strCells_length]
   omega
  ·rw [hln, hadd, ht]
   have e : (Lib.byteCells l ++ Lib.strCells s).length = l.length + s.size := by rw [List.length_append, hbl, Lib.strCells_length]
   rw [<- e]
   exact List.take_left
 ·have holds : ∀ j u, (Lib.byteCells l)[j]? = some u -> w.cell? ((⟨g, 0, none⟩ : Addr).add j) = some u := fun j u hu => by
   have had : (⟨g, 0, none⟩ : Addr).add j = ⟨g, j, none⟩ := by unfold Addr.add; split <;> simp_all
   rw [had]
   have e2 : w.cell? ⟨g, j, none⟩ = cur[j]? := by simp [World.cell?, hh]
   rw [e2]
   rw [<- ht, List.getElem?_take] at hu
   split at hu
   ·simpa using hu
   ·cases hu
  have hr := run_append_grow_string (P := Tryz.prog) w 49 9 ty 5 i0 (.int .u8 0) ht1 hu1 hi hz0 ⟨g, 0, none⟩ l.length cap (Lib.byteCells l) (by rw [hz1, hbl, Nat.mul_one]) holds s (by omega) (by omega) (by rw [hz2]; exact growslice_fits (by omega) (by omega))
  have hge := grownCap_ge w (l.length + s.size) cap 5
  have hcm2 : grownCap w (l.length + s.size) cap 5 <= maxLen := grownCap_le_maxLen w (l.length + s.size) cap 5 (by unfold maxLen; omega)
  refine ⟨_, _, hr, ⟨w.heap.size, _, _, (0, 0), by rw [hln], hB, heap_alloc_new w.drew _, fun j h1 h2 h3 => ?_, by rw [hln]; exact hge, hcm2, ?_, ?_⟩, ⟨rfl, rfl, rfl, by simp, fun k hk _ => heap_alloc_old w.drew _ hk⟩⟩
  ·simp only at h3; omega
  ·have hz : (Value.int IntKind.u8 0).cells.size = 1 := rfl
   simp only [Array.size_append, List.size_toArray, size_zeroCells, hz, hbl, Lib.strCells_length]
   omega
  ·rw [hln, hadd]
   simp only [Array.toList_append, List.append_assoc]
   have e : (Lib.byteCells l ++ Lib.strCells s).length = l.length + s.size := by rw [List.length_append, hbl, Lib.strCells_length]
   rw [<- List.append_assoc, <- e]
   exact List.take_left
end
theorem wpl_append_text {w : World} {ops : Array Oper} {rest : List Oper} {o : Oper} {a : Act} {Q : Exit -> Act -> World -> Prop} (hgd : o.guard = none) (sl x : Operand) (ho : o.op = .call { callee := .builtin .append, args := #[sl, x], argTypes := #[49, 9] })
  (B : Nat) (v : Value) (l : List UInt8) (hs : a.eval sl = v) (h : RowM w B v l) (s : ByteArray) (hx : a.eval x = .string s) (hl : l.length + s.size <= 1000000) (hB : B <= w.heap.size)
  (k : ∀ v' w', RowM w' B v' (l ++ s.data.toList) -> w.grownBy w' v.ownBlock -> wpList Tryz.prog ops Q rest (a.put o.dst v') w') : wpList Tryz.prog ops Q (o :: rest) a w := by
 obtain ⟨v', w', hr, h2, h3⟩ := append_text h s hl hB o.type
 refine wpList_plain hgd fun K hK => ?_
 unfold Oper.wp execOp
 simp only [ho, resolve, invoke, builtin, Sem.run_bind, Sem.run_pure, Result.andThen_ok, List.map_toArray, List.map_cons, List.map_nil, hs, hx, hr]
 exact hK _ _ (k v' w' h2 h3)
end
section
open Go.RowKit
def numD (D : List Int) (h : Int) : Int := if h = 0 \/ h = 1 then h else 2 + (D.idxOf h : Int)
def postF (ns : List Nd) : Nat -> Int -> List Int -> List Int
 | 0, _, D => D
 | d + 1, h, D => if topOf ns h = 24 \/ h ∈ D then D else postF ns d (nd ns (pl h)).h (postF ns d (nd ns (pl h)).l D) ++ [h]
def InD (D : List Int) (h : Int) : Prop := h = 0 \/ h = 1 \/ h ∈ D
theorem InD.mono {D E : List Int} {h : Int} (hi : InD D h) (he : ∀ x ∈ D, x ∈ E) : InD E h := by
 rcases hi with h | h | h
 ·exact .inl h
 ·exact .inr (.inl h)
 ·exact .inr (.inr (he _ h))
structure Listed (ns : List Nd) (D : List Int) : Prop where
 node : ∀ x ∈ D, topOf ns x ≠ 24
 nodup : D.Nodup
 kid : ∀ x ∈ D, InD D (nd ns (pl x)).l /\ InD D (nd ns (pl x)).h
theorem idxOf_app {D E : List Int} {h : Int} (hm : h ∈ D) : (D ++ E).idxOf h = D.idxOf h := by rw [List.idxOf_append, if_pos hm]
theorem numD_app {D E : List Int} {h : Int} (hi : InD D h) : numD (D ++ E) h = numD D h := by
 unfold numD
 split
 ·rfl
 ·rename_i hn
  have hm : h ∈ D := by
   rcases hi with e | e | e
   ·exact absurd (.inl e) hn
   ·exact absurd (.inr e) hn
   ·exact e
  rw [idxOf_app hm]
theorem numD_new {D : List Int} {h : Int} (h0 : h ≠ 0) (h1 : h ≠ 1) (hn : h ∉ D) : numD (D ++ [h]) h = 2 + (D.length : Int) := by
 unfold numD
 rw [if_neg (by omega), List.idxOf_append, if_neg hn]
 simp
theorem numD_mem {D : List Int} {h : Int} (hm : h ∈ D) (h0 : h ≠ 0) (h1 : h ≠ 1) : 2 <= numD D h /\ numD D h < 2 + (D.length : Int) := by
 unfold numD
 rw [if_neg (by omega)]
 have := List.idxOf_lt_length_of_mem hm
 omega
theorem numD_bd {D : List Int} {h : Int} (hi : InD D h) : 0 <= numD D h /\ numD D h < 2 + (D.length : Int) := by
 rcases hi with rfl | rfl | hm
 ·unfold numD; simp; omega
 ·unfold numD; simp; omega
 ·by_cases e : h = 0 \/ h = 1
  ·unfold numD; rw [if_pos e]; omega
  ·have := numD_mem hm (by omega) (by omega); omega
section
variable {ns : List Nd}
theorem post_pre : ∀ (d : Nat) (h : Int) (D : List Int), ∃ E, postF ns d h D = D ++ E
 | 0, _, D => ⟨[], by simp [postF]⟩
 | d + 1, h, D => by
  unfold postF
  split
  ·exact ⟨[], by simp⟩
  ·obtain ⟨E1, e1⟩ := post_pre d (nd ns (pl h)).l D
   obtain ⟨E2, e2⟩ := post_pre d (nd ns (pl h)).h (D ++ E1)
   exact ⟨E1 ++ (E2 ++ [h]), by rw [e1, e2]; simp⟩
theorem post_mono {d : Nat} {h : Int} {D : List Int} {x : Int} (hx : x ∈ D) : x ∈ postF ns d h D := by
 obtain ⟨E, e⟩ := post_pre (ns := ns) d h D
 rw [e]; exact List.mem_append_left _ hx
theorem post_ok (hr : Ranked ns) : ∀ (d : Nat) (h : Int) (D : List Int), Listed ns D -> hasB ns h = true -> 24 <= topOf ns h + d -> Listed ns (postF ns d h D) /\ InD (postF ns d h D) h /\ ∀ x ∈ postF ns d h D, x ∈ D \/ topOf ns h <= topOf ns x
 | 0, h, D, hD, hh, ht => by
  have h24 := (topOf_le hr h).2
  refine ⟨hD, ?_, fun x hx => .inl hx⟩
  rcases hasB_cases hh with e | e | e
  ·exact .inl e
  ·exact .inr (.inl e)
  ·omega
 | d + 1, h, D, hD, hh, ht => by
  unfold postF
  by_cases c : topOf ns h = 24 \/ h ∈ D
  ·rw [if_pos c]
   refine ⟨hD, ?_, fun x hx => .inl hx⟩
   rcases c with c | c
   ·rcases hasB_cases hh with e | e | e
    ·exact .inl e
    ·exact .inr (.inl e)
    ·omega
   ·exact .inr (.inr c)
  ·rw [if_neg c]
   have ht24 : topOf ns h ≠ 24 := fun e => c (.inl e)
   obtain ⟨k1, k2, k3, k4⟩ := kids hr ht24
   obtain ⟨l1, l2, l3⟩ := post_ok hr d _ D hD k2 (by omega)
   obtain ⟨r1, r2, r3⟩ := post_ok hr d _ _ l1 k4 (by omega)
   have hn : h ∉ postF ns d (nd ns (pl h)).h (postF ns d (nd ns (pl h)).l D) := fun hm => by
    rcases r3 h hm with hm | hm
    ·rcases l3 h hm with hm | hm
     ·exact c (.inr hm)
     ·omega
    ·omega
   have hlR : InD (postF ns d (nd ns (pl h)).h (postF ns d (nd ns (pl h)).l D)) (nd ns (pl h)).l := l2.mono (fun x hx => post_mono hx)
   generalize postF ns d (nd ns (pl h)).h (postF ns d (nd ns (pl h)).l D) = R at *
   refine ⟨⟨fun x hx => ?_, ?_, fun x hx => ?_⟩, .inr (.inr (by simp)), fun x hx => ?_⟩
   ·rcases List.mem_append.1 hx with hx | hx
    ·exact r1.node x hx
    ·rw [List.mem_singleton] at hx; subst hx; exact ht24
   ·rw [List.nodup_append]
    exact ⟨r1.nodup, by simp, fun a ha b hb e => by rw [List.mem_singleton] at hb; subst hb; subst e; exact hn ha⟩
   ·rcases List.mem_append.1 hx with hx | hx
    ·have := r1.kid x hx
     exact ⟨this.1.mono (fun y hy => List.mem_append_left _ hy), this.2.mono (fun y hy => List.mem_append_left _ hy)⟩
    ·rw [List.mem_singleton] at hx; subst hx
     exact ⟨hlR.mono (fun y hy => List.mem_append_left _ hy), r2.mono (fun y hy => List.mem_append_left _ hy)⟩
   ·rcases List.mem_append.1 hx with hx | hx
    ·rcases r3 x hx with hx | hx
     ·rcases l3 x hx with hx | hx
      ·exact .inl hx
      ·exact .inr (by omega)
     ·exact .inr (by omega)
    ·rw [List.mem_singleton] at hx; subst hx; exact .inr (Int.le_refl _)
end
end
end Go.Proofs.YtcjjekhecjmaeaaGreatDoor
