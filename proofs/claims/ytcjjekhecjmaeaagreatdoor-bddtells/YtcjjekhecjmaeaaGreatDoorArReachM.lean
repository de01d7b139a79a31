/- Which handles are reached, as lists. -/
import Derived.Test.YtcjjekhecjmaeaaGreatDoorArMade
import Derived.Test.YtcjjekhecjmaeaaGreatDoorArNew
set_option maxHeartbeats 4000000
set_option maxRecDepth 100000
namespace Go.Proofs.YtcjjekhecjmaeaaGreatDoor
section
open Go.RowKit Go.Maps
def mcells (m : List Bool) : List Value := m.map Value.bool
theorem mcells_at (m : List Bool) (i : Nat) (h : i < m.length) : (mcells m)[i]? = some (.bool (mk m i)) := by rw [mk_at m i h]; simp [mcells, h]
theorem mcells_set (m : List Bool) (i : Nat) : (mcells m).set i (.bool true) = mcells (m.set i true) := by simp [mcells, List.map_set]
theorem markF_stop {ns : List Nd} {h : Int} {m : List Bool} (hc : topOf ns h = 24 \/ mk m (h - 2).toNat = true) (d : Nat) : markF d ns h m = m := by
 cases d with
 | zero => rfl
 | succ d => unfold markF; rw [if_pos hc]
theorem ownsRow_new {B e size n : Nat} {w w' : World} {v : Value} {xs : List Value} (h : w.ownsRow B e size v n xs) (hb : Below w.heap.size w w') : w'.ownsRow B e size v n xs :=
 ownsRow_kept (S := fun _ => False) h (Kept.of_below hb _) (fun _ _ h => h)
section
variable {B b bm g cap : Nat} {v : Value} {ns : List Nd} {L : List (Nd × Int)} {room next : Int}
theorem mark_stop (hl : ns.length <= 100000) (h : Int) (m : List Bool) (w : World) (hA : ArenaAt B w b bm v ns L room next) (hrow : w.ownsRow B 4 1 (.slice (some ⟨g, 0, none⟩) ns.length cap) ns.length (mcells m)) (hi : I64 h) (ht : topOf ns h = 24) :
  Calls Tryz.prog 112 #[.pointer (some ⟨b, 0, none⟩), .int .i64 h, .slice (some ⟨g, 0, none⟩) ns.length cap] w fun e w' => e = .returned (.tuple #[]) /\ w'.ownsRow B 4 1 (.slice (some ⟨g, 0, none⟩) ns.length cap) ns.length (mcells m) /\ Kept (fun k => k = g) w w' := by
 have HG := Lib.hid (get_any hA h hi (by omega))
 have hgn : getOf ns h = ⟨0, 0, 0⟩ := by unfold getOf; rw [if_pos ht]
 rw [hgn, ht] at HG
 have HROW := Lib.hid hrow
 clear hA hgn ht hrow
 have e1 : decide ((24 : Int) ≠ 24) = false := by decide
 rw [e1] at HG
 unfold Nd.val at HG
 go_enter Tryz.func112, Tryz.ntmps112
 go_wp2_with fail
 refine HG.out.mono ?_
 rintro e w1 ⟨rfl, hb1⟩
 go_wp2
 refine bodyPost_ret (v := .tuple #[]) (by simp [results, Tryz.results112, go_sem]) rfl ?_
 have hbE := hb1.trans ((below_new w1 (.cells #[.int .i64 0, .int .i64 0, .int .i64 0] 102)).mono hb1.size)
 exact ⟨rfl, ownsRow_new HROW.out hbE, Kept.of_below hbE _⟩
def MarkOk (B b bm g cap : Nat) (v : Value) (ns : List Nd) (L : List (Nd × Int)) (room next : Int) (d : Nat) : Prop :=
 ∀ (h : Int) (m : List Bool) (w : World), ArenaAt B w b bm v ns L room next -> m.length = ns.length -> w.ownsRow B 4 1 (.slice (some ⟨g, 0, none⟩) ns.length cap) ns.length (mcells m) -> I64 h -> 24 <= topOf ns h + d ->
  Calls Tryz.prog 112 #[.pointer (some ⟨b, 0, none⟩), .int .i64 h, .slice (some ⟨g, 0, none⟩) ns.length cap] w fun e w' => e = .returned (.tuple #[]) /\ w'.ownsRow B 4 1 (.slice (some ⟨g, 0, none⟩) ns.length cap) ns.length (mcells (markF d ns h m)) /\ Kept (fun k => k = g) w w'
theorem mark_step (hr : Ranked ns) (hl : ns.length <= 100000) (hg : ¬ Own b bm v g) (d : Nat) (ih : MarkOk B b bm g cap v ns L room next d) : MarkOk B b bm g cap v ns L room next (d + 1) := by
 intro h m w hA hml hrow hi hd
 by_cases ht : topOf ns h = 24
 ·rw [markF_stop (.inl ht) (d + 1)]
  exact mark_stop hl h m w hA hrow hi ht
 have HG := Lib.hid (get_any hA h hi (by omega))
 obtain ⟨hi0, hi1⟩ := hi
 obtain ⟨b1, b2, b3⟩ := topOf_node ht
 have hv24 : (nd ns (h - 2).toNat).v < 24 := by have := (topOf_le hr h).2; omega
 obtain ⟨i, e2⟩ : ∃ i : Nat, h - 2 = (i : Int) := ⟨(h - 2).toNat, by omega⟩
 have e1 : (h - 2).toNat = i := by omega
 have hgn : getOf ns h = nd ns i := by unfold getOf; rw [if_neg ht, e1]
 rw [e1] at b2 b3 hv24
 rw [hgn, decide_eq_true ht] at HG
 unfold Nd.val at HG
 have hok := hr.ok i b2
 have hfl : 24 <= topOf ns (nd ns i).l + d := by have := (hr.l i b2 hv24).1; omega
 have hfh : 24 <= topOf ns (nd ns i).h + d := by have := (hr.h i b2 hv24).1; omega
 have hgw : g < w.heap.size := (hrow.lt g rfl).2
 have hBg : B <= g := (hrow.lt g rfl).1
 have HSTOP : Hid (mk m i = true -> markF (d + 1) ns h m = m) := fun hm => markF_stop (.inr (by rw [e1]; exact hm)) (d + 1)
 have HGO : Hid (mk m i = false -> markF (d + 1) ns h m = markF d ns (nd ns i).h (markF d ns (nd ns i).l (m.set i true))) := fun hm => by
  show markF (d + 1) ns h m = _
  rw [markF, e1, if_neg (by rw [hm]; simp [ht])]
 generalize nd ns i = n at *
 obtain ⟨nv, nl, nh⟩ := n
 simp only at HG HGO hfl hfh hok hv24 b3
 have IL : Hid (∀ (m : List Bool) (W : World), ArenaAt B W b bm v ns L room next -> m.length = ns.length -> W.ownsRow B 4 1 (.slice (some ⟨g, 0, none⟩) ns.length cap) ns.length (mcells m) ->
   Calls Tryz.prog 112 #[.pointer (some ⟨b, 0, none⟩), .int .i64 nl, .slice (some ⟨g, 0, none⟩) ns.length cap] W fun e w' => e = .returned (.tuple #[]) /\ w'.ownsRow B 4 1 (.slice (some ⟨g, 0, none⟩) ns.length cap) ns.length (mcells (markF d ns nl m)) /\ Kept (fun k => k = g) W w') := fun m W h1 h2 h3 => ih nl m W h1 h2 h3 hok.2.1 hfl
 have IH : Hid (∀ (m : List Bool) (W : World), ArenaAt B W b bm v ns L room next -> m.length = ns.length -> W.ownsRow B 4 1 (.slice (some ⟨g, 0, none⟩) ns.length cap) ns.length (mcells m) ->
   Calls Tryz.prog 112 #[.pointer (some ⟨b, 0, none⟩), .int .i64 nh, .slice (some ⟨g, 0, none⟩) ns.length cap] W fun e w' => e = .returned (.tuple #[]) /\ w'.ownsRow B 4 1 (.slice (some ⟨g, 0, none⟩) ns.length cap) ns.length (mcells (markF d ns nh m)) /\ Kept (fun k => k = g) W w') := fun m W h1 h2 h3 => ih nh m W h1 h2 h3 hok.2.2 hfh
 have HA := Lib.hid hA
 have HR := Lib.hid hrow
 have HOWN := Lib.hid hg
 have HML := Lib.hid hml
 have hil : (i : Int) < (ns.length : Int) := by omega
 clear ht hgn e1 b3 hfl hfh hok ih hA hrow hg hr hd hml
 go_enter Tryz.func112, Tryz.ntmps112
 go_wp2_with fail
 refine HG.out.mono ?_
 rintro e w1 ⟨rfl, hb1⟩
 clear HG
 have hbN := below_new w1 (.cells #[.int .i64 nv, .int .i64 nl, .int .i64 nh] 102)
 obtain ⟨c0, c1, c2, -⟩ := cell3 w1 (.int .i64 nv) (.int .i64 nl) (.int .i64 nh) 102
 have hb2 := hb1.trans (hbN.mono hb1.size)
 have hr2 := ownsRow_new HR.out hb2
 have hA2 := HA.out.kept (Kept.of_below hb2 (fun _ => False)) (fun _ _ h => h)
 have hs1 := hb1.size
 have cm := hr2.cellAt i (by omega)
 rw [mcells_at m i (by rw [HML.out]; exact b2)] at cm
 have fm := hr2.frozenAt i
 have lN : w1.heap.size < (w1.alloc (.cells #[.int .i64 nv, .int .i64 nl, .int .i64 nh] 102)).heap.size := by simp
 have HB2 := Lib.hid hb2
 have HR2 := Lib.hid hr2
 have HA2 := Lib.hid hA2
 clear hb1 hbN hr2 hA2 HA HR hb2
 by_cases hm : mk m i = true
 ·rw [hm] at cm
  have HE := Lib.hid (HSTOP.out hm)
  clear hm
  go_wp2
  refine bodyPost_ret (v := .tuple #[]) (by simp [results, Tryz.results112, go_sem]) rfl ?_
  rw [HE.out]
  exact ⟨rfl, HR2.out, Kept.of_below HB2.out _⟩
 ·have hm' : mk m i = false := by simpa using hm
  rw [hm'] at cm
  have HE := Lib.hid (HGO.out hm')
  clear hm hm' HSTOP HGO
  have hr3 := (HR2.out.stored i (.bool true)).1
  rw [mcells_set] at hr3
  have hk3 : Kept (fun k => k = g) (w1.alloc (.cells #[.int .i64 nv, .int .i64 nl, .int .i64 nh] 102)) ((w1.alloc (.cells #[.int .i64 nv, .int .i64 nl, .int .i64 nh] 102)).setCell ⟨g, i, none⟩ (.bool true)) := Kept.setCell _ _ _ rfl
  have hng : w1.heap.size ≠ g := by omega
  have c13 := (hk3.cell (a := ⟨w1.heap.size, 1, none⟩) lN hng).trans c1
  have c23 := (hk3.cell (a := ⟨w1.heap.size, 2, none⟩) lN hng).trans c2
  have hA3 := HA2.out.kept hk3 (fun k hk e => HOWN.out (e ▸ hk))
  have hK3 := (Kept.of_below HB2.out (fun k => k = g)).trans hk3
  have lN3 := Nat.lt_of_lt_of_le lN hk3.size
  have I1 := Lib.hid (IL.out _ _ hA3 (by rw [List.length_set]; exact HML.out) hr3)
  have HK3 := Lib.hid hK3
  have HA3 := Lib.hid hA3
  clear hr3 hk3 hA3 hK3 IL c0 c1 c2
  go_wp2_with fail
  refine I1.out.mono ?_
  rintro e w4 ⟨rfl, hr4, hk4⟩
  have c24 := (hk4.cell (a := ⟨w1.heap.size, 2, none⟩) lN3 hng).trans c23
  have I2 := Lib.hid (IH.out _ _ (HA3.out.kept hk4 (fun k hk e => HOWN.out (e ▸ hk))) (by rw [markF_length, List.length_set]; exact HML.out) hr4)
  have HK4 := Lib.hid (HK3.out.trans hk4)
  clear I1 hr4 hk4 IH
  go_wp2_with fail
  refine I2.out.mono ?_
  rintro e w5 ⟨rfl, hr5, hk5⟩
  go_wp2
  refine bodyPost_end (v := .tuple #[]) (by simp [results, Tryz.results112, go_sem]) rfl ?_
  rw [HE.out]
  exact ⟨rfl, hr5, HK4.out.trans hk5⟩
theorem mark_any (hr : Ranked ns) (hl : ns.length <= 100000) (hg : ¬ Own b bm v g) : ∀ d, MarkOk B b bm g cap v ns L room next d
 | 0 => fun h m w hA hml hrow hi hd => by
  have ht : topOf ns h = 24 := by have := (topOf_le hr h).2; omega
  rw [markF_stop (.inl ht) 0]
  exact mark_stop hl h m w hA hrow hi ht
 | d + 1 => mark_step hr hl hg d (mark_any hr hl hg d)
end
end
section
open Go.RowKit Go.Maps
def marksOf (ns : List Nd) (fs : List Int) : List Bool := fs.foldl (fun m h => markF 24 ns h m) (List.replicate ns.length false)
theorem marksOf_length (ns : List Nd) (fs : List Int) : (marksOf ns fs).length = ns.length := by
 unfold marksOf
 have : ∀ (fs : List Int) (m : List Bool), (fs.foldl (fun m h => markF 24 ns h m) m).length = m.length := by
  intro fs
  induction fs with
  | nil => intro m; rfl
  | cons f fs ih => intro m; rw [List.foldl_cons, ih, markF_length]
 rw [this]; simp
theorem marksOf_take (ns : List Nd) (fs : List Int) (k : Nat) (h : k < fs.length) : marksOf ns (fs.take (k + 1)) = markF 24 ns fs[k] (marksOf ns (fs.take k)) := by
 unfold marksOf; rw [List.take_succ_eq_append_getElem h, List.foldl_append]; rfl
theorem ownsRow_base {w : World} {B B' e size n : Nat} {v : Value} {xs : List Value} (h : w.ownsRow B e size v n xs) (hB : B' <= B) : w.ownsRow B' e size v n xs := by
 refine ⟨h.1, ?_⟩
 rcases h.2 with h1 | ⟨g, cap, cur, h1, h2, h3⟩
 ·exact .inl h1
 ·exact .inr ⟨g, cap, cur, h1, Nat.le_trans hB h2, h3⟩
theorem infoBool : (Tryz.prog.info? 4).map (fun i => (i.zero, i.size, i.bytes)) = some (some (.bool false), 1, 1) := by kernel_rfl
theorem mcells_made (n : Nat) : (madeCells #[Value.bool false] n).toList = mcells (List.replicate n false) := by rw [toList_madeCells_one]; simp [mcells]
structure IntsAt (w : World) (bf : Nat) (fs : List Int) : Prop where
 lt : bf < w.heap.size
 cells : ∀ i (h : i < fs.length), w.cell? ⟨bf, i, none⟩ = some (.int .i64 fs[i])
 ok : ∀ x ∈ fs, I64 x
theorem IntsAt.kept {S : Nat -> Prop} {w w' : World} {bf : Nat} {fs : List Int} (h : IntsAt w bf fs) (hk : Kept S w w') (hn : ¬ S bf) : IntsAt w' bf fs :=
 ⟨Nat.lt_of_lt_of_le h.lt hk.size, fun i hi => (hk.cell (a := ⟨bf, i, none⟩) h.lt hn).trans (h.cells i hi), h.ok⟩
section
variable {B b bm : Nat} {v : Value} {ns : List Nd} {L : List (Nd × Int)} {room next : Int} {w : World}
theorem reached_any (hr : Ranked ns) (hl : ns.length <= 100000) (hA : ArenaAt B w b bm v ns L room next) (bf : Nat) {cp : Nat} (fs : List Int) (hF : IntsAt w bf fs) (hfl : fs.length <= 1000) (hB : B <= w.heap.size) :
  Calls Tryz.prog 75 #[.pointer (some ⟨b, 0, none⟩), .slice (some ⟨bf, 0, none⟩) fs.length cp] w fun e w' => e = .returned (.slice (some ⟨w.heap.size, 0, none⟩) ns.length ns.length) /\ w'.ownsRow B 4 1 (.slice (some ⟨w.heap.size, 0, none⟩) ns.length ns.length) ns.length (mcells (marksOf ns fs)) /\ Below w.heap.size w w' := by
 obtain ⟨a, cap, rfl, -⟩ := hA.form
 have hg : ¬ Own b bm (.slice a ns.length cap) w.heap.size := by
  obtain ⟨D, hD, -⟩ := hA.hmap
  have hbm := hD.lt
  have hlt := hA.lt
  rintro (h | h | h)
  ·omega
  ·omega
  ·have := (hA.row.lt _ h).2; omega
 have cn := hA.cnodes
 obtain ⟨i0, hi, hz0, hz1, hz2⟩ := info_parts infoBool
 have HA := Lib.hid hA
 have HF := Lib.hid hF
 have HG := Lib.hid hg
 have HR := Lib.hid hr
 clear hA hF hg hr
 go_enter Tryz.func75, Tryz.ntmps75
 go_wp2_with (at_make; refine wpList_make_full _ rfl _ _ 42 rfl w.heap.size 4 i0 (.bool false) 1 Tryz.underlying42 hi hz0 hz1 .i64 .i64 _ _ ns.length rfl rfl ?c1 ?c2 ?c3 ?c4 ?c5 ?_)
 case c1 => rfl
 case c2 => rfl
 case c3 => rw [hz2]; omega
 case c4 => unfold maxLen; omega
 case c5 => omega
 intro w1 hown hgrow
 rw [mcells_made] at hown
 have hbel : Below w.heap.size w w1 := (Below.refl _ _).grown hgrow (Nat.le_refl _) (fun k hk => by cases hk)
 clear hgrow
 go_wp2_with fail
 go_loopw [7, 16] (fun _ i wr => ∃ k : Nat, k <= fs.length /\ i = .int .i64 (k : Int) /\ wr.ownsRow w.heap.size 4 1 (.slice (some ⟨w.heap.size, 0, none⟩) ns.length ns.length) ns.length (mcells (marksOf ns (fs.take k))) /\ Below w.heap.size w wr)
  (fun _ i _ => fs.length - (intOf i).toNat)
 case atStart => exact ⟨0, Nat.zero_le _, rfl, hown, hbel⟩
 case round =>
  obtain ⟨k, hk, rfl, hownr, hbelr⟩ := hrel
  clear hown hbel
  by_cases hlt : k < fs.length
  ·have ck := (hbelr.cell (p := ⟨bf, k, none⟩) HF.out.lt).trans (HF.out.cells k hlt)
   have HC : Hid (Calls Tryz.prog 112 #[.pointer (some ⟨b, 0, none⟩), .int .i64 fs[k], .slice (some ⟨w.heap.size, 0, none⟩) ns.length ns.length] wr fun e w' => e = .returned (.tuple #[]) /\ w'.ownsRow w.heap.size 4 1 (.slice (some ⟨w.heap.size, 0, none⟩) ns.length ns.length) ns.length (mcells (marksOf ns (fs.take (k + 1)))) /\ Kept (fun k => k = w.heap.size) wr w') := by
    have hr' := HR.out
    have := mark_any (B := B) (L := L) (room := room) (next := next) hr' hl HG.out 24 fs[k] (marksOf ns (fs.take k)) wr (HA.out.kept (Kept.of_below hbelr (fun _ => False)) (fun _ _ h => h)) (marksOf_length _ _) (ownsRow_base hownr hB) (HF.out.ok _ (List.getElem_mem hlt)) (by have := (topOf_le hr' fs[k]).1; omega)
    rw [<- marksOf_take ns fs k hlt] at this
    refine this.mono ?_
    rintro e w' ⟨h1, h2, h3⟩
    refine ⟨h1, ⟨h2.1, ?_⟩, h3⟩
    rcases h2.2 with h4 | ⟨g, cp, cur, h4, h5⟩
    ·exact .inl h4
    ·refine .inr ⟨g, cp, cur, h4, ?_, h5.2⟩
     cases h4; exact Nat.le_refl _
   have HB := Lib.hid hbelr
   clear hownr hbelr
   generalize fs[k] = x at *
   go_wp2_with fail
   refine HC.out.mono ?_
   rintro e w2 ⟨rfl, hr2, hk2⟩
   have hb2 := HB.out.trans (hk2.below HB.out.size (fun i hi => by omega))
   clear HC hk2
   go_wp2
   go_roundw
   case rel => exact ⟨k + 1, by omega, by go_num, hr2, hb2⟩
   case measure => simp [intOf]; omega
  ·obtain rfl : k = fs.length := by omega
   rw [List.take_length] at hownr
   go_wp2
   go_ret
   exact ⟨rfl, ownsRow_base hownr hB, hbelr⟩
end
end
section
open Go.RowKit Go.Maps
def icells (l : List Int) : List Value := l.map (Value.int .i64)
theorem icells_at (l : List Int) (i : Nat) (h : i < l.length) : (icells l)[i]? = some (.int .i64 l[i]) := by simp [icells, h]
def reachTo (M : List Bool) (k : Nat) : List Int := ((List.range k).filter fun i => mk M i).map fun i : Nat => 2 + (i : Int)
theorem reachTo_succ (M : List Bool) (k : Nat) : reachTo M (k + 1) = reachTo M k ++ (if mk M k = true then [2 + (k : Int)] else []) := by
 unfold reachTo
 rw [List.range_succ, List.filter_append, List.map_append]
 congr 1
 by_cases h : mk M k = true
 ·rw [if_pos h]; simp [h]
 ·rw [if_neg h]; simp [h]
theorem reachTo_length (M : List Bool) (k : Nat) : (reachTo M k).length <= k := by
 unfold reachTo; rw [List.length_map]; exact Nat.le_trans (List.length_filter_le _ _) (by simp)
theorem infoInt : (Tryz.prog.info? 3).map (fun i => (i.zero, i.size, i.bytes)) = some (some (.int .i64 0), 1, 8) := by kernel_rfl
end
end Go.Proofs.YtcjjekhecjmaeaaGreatDoor
