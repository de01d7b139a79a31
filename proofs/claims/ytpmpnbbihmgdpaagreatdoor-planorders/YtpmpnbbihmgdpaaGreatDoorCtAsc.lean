/- Items in order: each once; the reference's insertion. Plain. -/
import Derived.Test.YtpmpnbbihmgdpaaGreatDoorCtPS
import Derived.Test.YtpmpnbbihmgdpaaGreatDoorPlSmall
import Derived.Test.YtpmpnbbihmgdpaaGreatDoorSvOut
import Derived.Shelf.Spec.SlicesInsertGrow
set_option maxHeartbeats 4000000
set_option maxRecDepth 100000
namespace Go.Proofs.YtpmpnbbihmgdpaaGreatDoor
section
open Go.RowKit Go.Deep Sv
theorem items_c (bk : Nat) (ls : List Ln) (its : List It) (w : World) (h : CatAt w bk ls its) (hl : its.length <= 100000) :
  Calls Tryz.prog 126 #[.pointer (some ⟨bk, 0, none⟩)] w fun e w' => ∃ v', e = .returned v' /\ w'.ownsRow w.heap.size 182 4 v' its.length (itCells its) /\ Below w.heap.size w w' := by
 obtain ⟨lv, iv, bm, h1, h2, h3, h4⟩ := h
 have HI := Lib.hid (clone_its its iv w h3 hl)
 obtain ⟨va, vc, rfl, -⟩ := h3.form
 have c1 : w.cell? ⟨bk, 1, none⟩ = some (.slice va its.length vc) := h1.cell 1
 clear h1 h2 h3 h4 hl
 go_enter Tryz.func126, Tryz.ntmps126
 go_wp2_with fail
 refine HI.out.mono ?_
 rintro e w1 ⟨v', rfl, hrow, hb1⟩
 have HR := Lib.hid hrow
 have HB1 := Lib.hid hb1
 clear hb1 HI hrow c1
 go_wp2
 go_ret
 exact ⟨v', rfl, HR.out, HB1.out⟩
theorem lines_c (bk : Nat) (ls : List Ln) (its : List It) (w : World) (h : CatAt w bk ls its) (hl : ls.length <= 100000) :
  Calls Tryz.prog 38 #[.pointer (some ⟨bk, 0, none⟩)] w fun e w' => ∃ v', e = .returned v' /\ LnsAt w' v' ls /\ Below w.heap.size w w' := by
 obtain ⟨lv, iv, bm, h1, ⟨vs, h2, h2'⟩, h3, h4⟩ := h
 have HI := Lib.hid (clone_lns ls vs h2.1 h2.one lv w h2' hl)
 obtain ⟨va, vc, rfl, -⟩ := h2'.form
 have c0 : w.cell? ⟨bk, 0, none⟩ = some (.slice va ls.length vc) := h1.cell 0
 have HRG := Lib.hid h2
 clear h1 h2 h2' h3 h4 hl
 go_enter Tryz.func38, Tryz.ntmps38
 go_wp2_with fail
 refine HI.out.mono ?_
 rintro e w1 ⟨v', rfl, hrow, hb1⟩
 have HR : Hid (LnsAt w1 v' ls) := ⟨vs, HRG.out.below hb1 (Nat.le_refl _), rowAt_own hrow⟩
 have HB1 := Lib.hid hb1
 clear hb1 HI hrow c0
 go_wp2
 go_ret
 exact ⟨v', rfl, HR.out, HB1.out⟩
theorem ctRowO_bound (name : ByteArray) : ∀ (l : List It) (r : Nat × Nat), ctRowO l name = some r -> r.1 < r.2 /\ r.2 <= l.length := by
 intro l
 induction h : l.length generalizing l with
 | zero =>
  intro r hr
  obtain rfl : l = [] := List.eq_nil_of_length_eq_zero h
  cases hr
 | succ n ih =>
  intro r hr
  obtain ⟨l', x, rfl⟩ : ∃ l' x, l = l' ++ [x] := by
   rcases List.eq_nil_or_concat l with e | ⟨l', x, e⟩
   ·subst e; simp at h
   ·exact ⟨l', x, by rw [e, List.concat_eq_append]⟩
  have hl' : l'.length = n := by simpa using h
  rw [ctRowO_snoc] at hr
  split at hr
  ·cases hr
   cases hf : ctRowO l' name with
   | none => simp [hl']
   | some r' =>
    have := ih l' hl' r' hf
    simp [hl']
    omega
  ·have := ih l' hl' r hr
   omega
theorem ctRow_bound (its : List It) (name : ByteArray) : (ctRow its name).1 <= (ctRow its name).2 /\ (ctRow its name).2 <= its.length := by
 unfold ctRow
 cases h : ctRowO its name with
 | none => simp
 | some r => have := ctRowO_bound name its r h; simp; omega
open Classical in
noncomputable def amP (its : List It) (name : ByteArray) (rng : List Span) (i : Nat) : List Nat :=
 (List.range' (ctRow its name).1 (i - (ctRow its name).1)).filter fun i => decide (hasF rng (its.getD i default))
theorem amP_start (its : List It) (name : ByteArray) (rng : List Span) : amP its name rng (ctRow its name).1 = [] := by unfold amP; simp
theorem amP_end (its : List It) (name : ByteArray) (rng : List Span) : amP its name rng (ctRow its name).2 = amongF its name rng := rfl
open Classical in
theorem amP_succ (its : List It) (name : ByteArray) (rng : List Span) {i : Nat} (hi : (ctRow its name).1 <= i) : amP its name rng (i + 1) = amP its name rng i ++ (if hasF rng (its.getD i default) then [i] else []) := by
 unfold amP
 rw [show i + 1 - (ctRow its name).1 = (i - (ctRow its name).1) + 1 by omega, List.range'_concat, List.filter_append, Nat.one_mul, show (ctRow its name).1 + (i - (ctRow its name).1) = i by omega]
 congr 1
 by_cases h : hasF rng (its.getD i default)
 ·rw [if_pos h]; simp only [List.filter_cons, List.filter_nil, decide_eq_true h, if_true]
 ·rw [if_neg h]; simp only [List.filter_cons, List.filter_nil, decide_eq_false h, Bool.false_eq_true, if_false]
theorem amP_len (its : List It) (name : ByteArray) (rng : List Span) (i : Nat) : (amP its name rng i).length <= i := by
 unfold amP
 refine Nat.le_trans (List.length_filter_le _ _) ?_
 rw [List.length_range']; omega
end
section
open Go.RowKit Go.Deep Sv
theorem rowFld (a b : Int) (W : World) : (Instr.field 184 (.agg #[.int .i64 a, .int .i64 b]) 0).run Tryz.prog W = .ok (.int .i64 a) W /\ (Instr.field 184 (.agg #[.int .i64 a, .int .i64 b]) 1).run Tryz.prog W = .ok (.int .i64 b) W := by
 constructor <;> kernel_rfl
theorem among_c (bk : Nat) (ls : List Ln) (its : List It) (name : ByteArray) (rng : List Span) (hr : Rg rng) (v : Value) (w : World) (h : CatAt w bk ls its) (hl : its.length <= 100000) (hn : name.size <= 100000) (hv : SpAt w v rng) :
  Calls Tryz.prog 40 #[.pointer (some ⟨bk, 0, none⟩), .string name, .agg #[v]] w fun e w' => ∃ v', e = .returned v' /\ w'.ownsRow w.heap.size 3 1 v' (amongF its name rng).length (icells ((amongF its name rng).map fun (k : Nat) => (k : Int))) /\ Below w.heap.size w w' := by
 obtain ⟨va, vc, rfl⟩ := hv.form
 obtain ⟨lv, iv, bm, h1, h2, h3, h4⟩ := h
 obtain ⟨ia, ic, rfl, -⟩ := h3.form
 obtain ⟨i0, hin, hz0, hz1, hz2⟩ := info_parts infoInt
 have HHAS : Hid (∀ W i, Below w.heap.size w W -> Calls Tryz.prog 98 #[.agg #[.slice va rng.length vc], .agg #[.int .i64 (its.getD i default).a, .int .i64 (its.getD i default).b, .int .i64 (its.getD i default).c]] W fun e w' => (e = .returned (.bool true) /\ hasF rng (its.getD i default) \/ e = .returned (.bool false) /\ ¬ hasF rng (its.getD i default)) /\ Below W.heap.size W w') := fun W i hW => (hasv rng hr va vc (its.getD i default) W (hv.below hW (Nat.le_refl _))).mono fun e w' ⟨he, hb⟩ => by
  refine ⟨?_, hb⟩
  by_cases hh : hasF rng (its.getD i default)
  ·exact Or.inl ⟨by rw [he]; congr 2; exact @decide_eq_true _ (Classical.propDecidable _) hh, hh⟩
  ·exact Or.inr ⟨by rw [he]; congr 2; exact @decide_eq_false _ (Classical.propDecidable _) hh, hh⟩
 have hbx : Below w.heap.size w (w.alloc (.cells #[.slice va rng.length vc] 96)) := (Below.refl _ w).alloc (Nat.le_refl _) _
 have kr := Blk.new w 96 #[.slice va rng.length vc]
 have k1 := h1.below hbx h1.lt
 have h5 := h4.below hbx (Nat.le_refl _)
 have hlook := fun (n : Nat) => ((h5.block (w' := (w.alloc (.cells #[.slice va rng.length vc] 96)).drewN n) rfl).look hn).2
 clear h5
 have HI := Lib.hid (show ItsAt (w.alloc (.cells #[.slice va rng.length vc] 96)) (.slice ia its.length ic) its from h3.below hbx (Nat.le_refl _))
 have HBX := Lib.hid hbx
 have HST := Lib.hid (amP_start its name rng)
 have HEN := Lib.hid (amP_end its name rng)
 have HSU : Hid (∀ i, (ctRow its name).1 <= i -> amP its name rng (i + 1) = amP its name rng i ++ (@ite _ (hasF rng (its.getD i default)) (Classical.propDecidable _) [i] [])) := fun i hi => amP_succ its name rng hi
 have HLE := Lib.hid (fun i => amP_len its name rng i)
 have hbd := ctRow_bound its name
 have hrow : (ctRowO its name).getD (0, 0) = ctRow its name := rfl
 simp only [hrow, rowV] at hlook
 obtain ⟨la, lc, rfl, -⟩ : ∃ la lc, lv = .slice la ls.length lc /\ True := by obtain ⟨vs, _, h2⟩ := h2; obtain ⟨x, y, e, _⟩ := h2.form; exact ⟨x, y, e, trivial⟩
 clear hrow h1 h2 h3 h4 hbx hv hr hn
 generalize amP its name rng = am at *
 generalize amongF its name rng = amF at *
 obtain ⟨lo, hlo⟩ : ∃ lo, (ctRow its name).1 = lo := ⟨_, rfl⟩
 obtain ⟨hi, hhi⟩ : ∃ hi, (ctRow its name).2 = hi := ⟨_, rfl⟩
 rw [hlo, hhi] at hbd
 simp only [hlo, hhi] at hlook
 rw [hlo] at HST HSU
 rw [hhi] at HEN
 clear hlo hhi
 obtain ⟨hb1, hb2⟩ := hbd
 go_enter Tryz.func40, Tryz.ntmps40
 go_upto_region 4 with fail
 generalize w.alloc (.cells #[.slice va rng.length vc] 96) = W0 at *
 have d2 : W0.cell? ⟨bk, 2, none⟩ = some (.map (some bm)) := k1.cell 2
 have hlookD := hlook 1
 rw [show W0.drewN 1 = W0.drew from rfl] at hlookD
 clear hlook
 obtain ⟨hf0, hf1⟩ := rowFld (lo : Int) (hi : Int) W0.drew
 go_big_region
 clear d2 hlookD hf0 hf1
 have hbq : Below W0.heap.size W0 W0.drew := ⟨rfl, rfl, rfl, Nat.le_refl _, fun _ _ => rfl⟩
 have kr1 := kr.below hbq kr.lt
 have k2 := k1.below hbq k1.lt
 have HI1 := Lib.hid (show ItsAt W0.drew (.slice ia its.length ic) its from HI.out.below hbq (Nat.le_refl _))
 have HBQ : Hid (Below w.heap.size w W0.drew) := HBX.out.trans (hbq.mono HBX.out.size)
 clear hbq kr k1 HI HBX
 generalize W0.drew = W1 at *
 go_wp2_with fail
 go_loopw [7, 8] (fun oV iV wr => ∃ (i : Nat), lo <= i /\ i <= hi /\ iV = .int .i64 (i : Int) /\ wr.ownsRow W1.heap.size 3 1 oV (am i).length (icells ((am i).map fun (k : Nat) => (k : Int))) /\ Below w.heap.size w wr /\ Below W1.heap.size W1 wr) (fun _ iV _ => hi - (intOf iV).toNat)
 case atStart => exact ⟨lo, Nat.le_refl _, hb1, rfl, by rw [HST.out]; exact World.ownsRow_nil _ _ _ _, HBQ.out, Below.refl _ _⟩
 case round =>
  obtain ⟨i, hil, hih, rfl, hrow, hbw, hbr⟩ := hrel
  obtain ⟨oa, oc, rfl, -⟩ := (rowAt_own hrow).form
  by_cases hlt : i < hi
  ·obtain ⟨g, cap', e, hg, c0, c1, c2, c3⟩ := (show ItsAt wr _ its from HI1.out.below hbr (Nat.le_refl _)).at i (by omega)
   simp at e
   obtain ⟨rfl, rfl⟩ := e
   have hii0 : (0 : Int) <= (i : Int) := by omega
   have hii1 : (i : Int) < (its.length : Int) := by omega
   have hale := HLE.out i
   have HSUi := Lib.hid (HSU.out i hil)
   have HHi := Lib.hid (fun W hW => HHAS.out W i hW)
   have HROW := Lib.hid hrow
   have HBW := Lib.hid hbw
   have HBR := Lib.hid hbr
   have kr3 := kr1.below hbr kr1.lt
   have k3 := k2.below hbr k2.lt
   have hxl := kr3.lt
   have hbl := k3.lt
   generalize its.getD i default = x at *
   have SC : Hid (∀ W, Below wr.heap.size wr W -> W.cell? ⟨w.heap.size, 0, none⟩ = some (.slice va rng.length vc) /\ W.cell? ⟨bk, 1, none⟩ = some (.slice (some ⟨g, 0, none⟩) its.length ic) /\ W.cell? ⟨g, i * 4 + 1, none⟩ = some (.int .i64 x.a) /\ W.cell? ⟨g, i * 4 + 2, none⟩ = some (.int .i64 x.b) /\ W.cell? ⟨g, i * 4 + 3, none⟩ = some (.int .i64 x.c)) := fun W h => ⟨(kr3.below h hxl).cell 0, (k3.below h hbl).cell 1, (h.cell (p := ⟨g, i * 4 + 1, none⟩) hg).trans c1, (h.cell (p := ⟨g, i * 4 + 2, none⟩) hg).trans c2, (h.cell (p := ⟨g, i * 4 + 3, none⟩) hg).trans c3⟩
   have D0 : Below wr.heap.size wr wr.drew := (Below.refl _ _).drew
   have E0 : Below w.heap.size w wr.drew := hbw.drew
   clear hrow hbw hbr kr3 k3 c0 c1 c2 c3 HHAS HSU
   go_upto_region 7 with fail
   by_cases hh : hasF rng x
   ·have HQ : Hid (∀ W, Below w.heap.size w W -> Calls Tryz.prog 98 #[.agg #[.slice va rng.length vc], .agg #[.int .i64 x.a, .int .i64 x.b, .int .i64 x.c]] W fun e w' => e = .returned (.bool true) /\ Below W.heap.size W w') := fun W hW => (HHi.out W hW).mono fun e w' ⟨h, hb⟩ => ⟨by rcases h with h | h; exact h.1; exact absurd hh h.2, hb⟩
    have HA : Hid (am (i + 1) = am i ++ [i]) := by show _ = _; rw [HSUi.out, if_pos hh]
    clear HHi HSUi hh
    go_region_held3 (fun W => W.cell? ⟨w.heap.size, 0, none⟩ = some (.slice va rng.length vc) /\ W.cell? ⟨bk, 1, none⟩ = some (.slice (some ⟨g, 0, none⟩) its.length ic) /\ W.cell? ⟨g, i * 4 + 1, none⟩ = some (.int .i64 x.a) /\ W.cell? ⟨g, i * 4 + 2, none⟩ = some (.int .i64 x.b) /\ W.cell? ⟨g, i * 4 + 3, none⟩ = some (.int .i64 x.c)) (first | exact SC.out _ D0 | exact SC.out _ D1)
     (((with_reducible refine (HQ.out _ E0).mono ?_); rintro e x1 ⟨rfl, hb1'⟩; have D1 : Below wr.heap.size wr x1 := D0.trans (hb1'.mono D0.size); clear HQ D0 E0 hb1'))
    have hrow2 := row_new' HROW.out D1
    have HBX : Hid (Below w.heap.size w x1) := HBW.out.trans (D1.mono HBW.out.size)
    have HBY : Hid (Below W1.heap.size W1 x1) := HBR.out.trans (D1.mono HBR.out.size)
    have HROW2 := Lib.hid hrow2
    have hxs := HBX.out.size
    have hys := HBY.out.size
    clear D1 hrow2 SC HROW HBW HBR
    go_wp2_with (at_builtin; refine wpList_append_own_at _ rfl _ _ 31 rfl W1.heap.size 3 i0 (.int .i64 0) 1 8 Tryz.underlying31 hin hz0 hz1 hz2 rfl (by decide) _ _ _ rfl (HROW2.out.alloc _) ⟨x1.heap.size, 0, none⟩ 1 1 [.int .i64 (i : Int)] rfl rfl ?c1 ?c2 ?c3 ?c4 ?c5 ?_)
    case c1 => exact cell_lit _ _ _
    case c2 => exact one_lit _
    case c3 => unfold maxLen; omega
    case c4 => omega
    case c5 => simp; omega
    intro v7 w7 hown7 hgrow7 _ hloc7
    have HR7 : Hid (w7.ownsRow W1.heap.size 3 1 v7 (am (i + 1)).length (icells ((am (i + 1)).map fun (k : Nat) => (k : Int)))) := by
     show World.ownsRow _ _ _ _ _ _ _
     rw [HA.out, List.map_append, List.map_cons, List.map_nil, icells_snoc, List.length_append]
     exact hown7
    have HB8 : Hid (Below W1.heap.size W1 w7) := (HBY.out.alloc HBY.out.size _).grown hgrow7 (by simp; omega) (fun k hk => (HROW2.out.lt k hk).1)
    have HB7 : Hid (Below w.heap.size w w7) := HBQ.out.trans (HB8.out.mono HBQ.out.size)
    clear hown7 hgrow7 hloc7 HROW2 HBX HBY
    go_wp2
    go_roundw
    case rel => exact ⟨i + 1, by omega, hlt, by go_num, HR7.out, HB7.out, HB8.out⟩
    case measure => simp [intOf]; omega
   ·have HQ : Hid (∀ W, Below w.heap.size w W -> Calls Tryz.prog 98 #[.agg #[.slice va rng.length vc], .agg #[.int .i64 x.a, .int .i64 x.b, .int .i64 x.c]] W fun e w' => e = .returned (.bool false) /\ Below W.heap.size W w') := fun W hW => (HHi.out W hW).mono fun e w' ⟨h, hb⟩ => ⟨by rcases h with h | h; exact absurd h.2 hh; exact h.1, hb⟩
    have HA : Hid (am (i + 1) = am i) := by show _ = _; rw [HSUi.out, if_neg hh, List.append_nil]
    clear HHi HSUi hh
    go_region_held3 (fun W => W.cell? ⟨w.heap.size, 0, none⟩ = some (.slice va rng.length vc) /\ W.cell? ⟨bk, 1, none⟩ = some (.slice (some ⟨g, 0, none⟩) its.length ic) /\ W.cell? ⟨g, i * 4 + 1, none⟩ = some (.int .i64 x.a) /\ W.cell? ⟨g, i * 4 + 2, none⟩ = some (.int .i64 x.b) /\ W.cell? ⟨g, i * 4 + 3, none⟩ = some (.int .i64 x.c)) (first | exact SC.out _ D0 | exact SC.out _ D1)
     (((with_reducible refine (HQ.out _ E0).mono ?_); rintro e x1 ⟨rfl, hb1'⟩; have D1 : Below wr.heap.size wr x1 := D0.trans (hb1'.mono D0.size); clear HQ D0 E0 hb1'))
    have HR7 : Hid (x1.ownsRow W1.heap.size 3 1 (.slice oa (am i).length oc) (am (i + 1)).length (icells ((am (i + 1)).map fun (k : Nat) => (k : Int)))) := by
     show World.ownsRow _ _ _ _ _ _ _
     rw [HA.out]; exact row_new' HROW.out D1
    have HBX : Hid (Below w.heap.size w x1) := HBW.out.trans (D1.mono HBW.out.size)
    have HBY : Hid (Below W1.heap.size W1 x1) := HBR.out.trans (D1.mono HBR.out.size)
    clear D1 SC HROW HBW HBR
    go_wp2
    go_roundw
    case rel => exact ⟨i + 1, by omega, hlt, by go_num, HR7.out, HBX.out, HBY.out⟩
    case measure => simp [intOf]; omega
  ·obtain rfl : i = hi := by omega
   rw [HEN.out] at hrow
   have HROW := Lib.hid hrow
   have HBW := Lib.hid hbw
   clear hrow hbw hbr
   go_wp2
   go_ret
   rw [HEN.out]
   exact ⟨_, rfl, ownsRow_base HROW.out HBQ.out.size, HBW.out⟩
end
section
open Go.RowKit Go.Deep Sv
def ClN (K : List (List Int)) (cs : List Value) (b : Option Nat) : Prop := ∀ i, i < K.length -> 0 < (K.getD i []).length -> ∀ g, (cs.getD i undef).ownBlock = some g -> some g ≠ b
theorem ClN.nil (b : Option Nat) : ClN [] [] b := fun i h => by simp at h
theorem ClN.new {W : World} {cs : List Value} {K : List (List Int)} (h : ClsK 0 W cs K) {b : Nat} (hb : W.heap.size <= b) : ClN K cs (some b) := fun i hi hl g hg e => by
 obtain ⟨a, cap, h1, _, _, h4⟩ := h.2 i hi
 obtain ⟨ad, h5, h6, _⟩ := h4 0 hl
 rw [List.getD_eq_getElem?_getD, h1, h5] at hg
 simp [Value.ownBlock] at hg
 cases e
 omega
theorem ClN.snoc {K : List (List Int)} {cs : List Value} {b : Option Nat} (h : ClN K cs b) (hv : cs.length = K.length) {c : List Int} {v : Value} (hx : 0 < c.length -> ∀ g, v.ownBlock = some g -> some g ≠ b) : ClN (K ++ [c]) (cs ++ [v]) b := by
 intro i hi
 by_cases hl : i < K.length
 ·have e1 : (K ++ [c]).getD i [] = K.getD i [] := by simp [List.getD_eq_getElem?_getD, List.getElem?_append_left hl]
  have e2 : (cs ++ [v]).getD i undef = cs.getD i undef := by simp [List.getD_eq_getElem?_getD, List.getElem?_append_left (show i < cs.length by rw [hv]; exact hl)]
  rw [e1, e2]; exact h i hl
 ·obtain rfl : i = K.length := by simp at hi; omega
  have e1 : (K ++ [c]).getD K.length [] = c := by simp [List.getD_eq_getElem?_getD]
  have e2 : (cs ++ [v]).getD K.length undef = v := by simp [List.getD_eq_getElem?_getD, <- hv]
  rw [e1, e2]; exact hx
def PlA (a : Option Addr) : Prop := ∀ ad, a = some ad -> ad.spot = none
def PlC (cs : List Value) : Prop := ∀ u ∈ cs, ∀ a n c, u = .slice a n c -> PlA a
theorem PlC.snoc {cs : List Value} (h : PlC cs) {a : Option Addr} (ha : PlA a) (n c : Nat) : PlC (cs ++ [.slice a n c]) := by
 intro u hu
 rcases List.mem_append.1 hu with hu | hu
 ·exact h u hu
 ·rw [List.mem_singleton] at hu
  subst hu
  intro a' n' c' e
  cases e
  exact ha
structure RS (B : Nat) (W : World) (cv fv : Value) (K : List (List Int)) (F : List Int) : Prop where
 crow : ∃ cs, W.ownsRow B 143 1 cv K.length cs /\ ClsK 0 W cs K /\ ClN K cs fv.ownBlock /\ PlC cs
 frow : W.ownsRow B 3 1 fv F.length (icells F)
theorem RS.nil (B : Nat) (W : World) : RS B W (.slice none 0 0) (.slice none 0 0) [] [] := ⟨⟨[], World.ownsRow_nil _ _ _ _, ClsK.nil, ClN.nil _, fun u hu => by cases hu⟩, World.ownsRow_nil _ _ _ _⟩
theorem RS.new {B : Nat} {W W' : World} {cv fv : Value} {K : List (List Int)} {F : List Int} (h : RS B W cv fv K F) (hb : Below W.heap.size W W') : RS B W' cv fv K F := by
 obtain ⟨cs, h1, h2, h3⟩ := h.crow
 exact ⟨⟨cs, row_new' h1 hb, h2.kp (Kp.new hb), h3⟩, row_new' h.frow hb⟩
structure Fr (b5 : Nat) (cv fv : Value) (W W' : World) : Prop where
 size : W.heap.size <= W'.heap.size
 block : ∀ k, k < W.heap.size -> k ≠ b5 -> some k ≠ cv.ownBlock -> some k ≠ fv.ownBlock -> W'.heap[k]? = W.heap[k]?
 B : Below b5 W W'
end
section
open Go.RowKit Go.Deep Sv
theorem amongF_len (its : List It) (name : ByteArray) (rng : List Span) : (amongF its name rng).length <= its.length := by
 unfold amongF
 refine Nat.le_trans (List.length_filter_le _ _) ?_
 rw [List.length_range']
 have := ctRow_bound its name
 omega
theorem amongF_lt (its : List It) (name : ByteArray) (rng : List Span) : ∀ x ∈ amongF its name rng, x < its.length := by
 intro x hx
 unfold amongF at hx
 have h := (List.mem_range'_1.1 (List.mem_filter.1 hx).1)
 have := ctRow_bound its name
 omega
structure OS (w W : World) (b5 : Nat) (n : Int) (cv fv : Value) (P : List (Int × List Int)) (iv : Value) (its : List It) : Prop where
 r2 : Blk W w.heap.size 65 #[.int .i64 0, .slice none 0 0, .slice none 0 0]
 r5 : Blk W b5 65 #[.int .i64 n, cv, fv]
 rs : RS (b5 + 1) W cv fv (P.map Prod.snd) (P.map Prod.fst)
 B : Below w.heap.size w W
 lo : w.heap.size < b5
 its : W.ownsRow w.heap.size 182 4 iv its.length (itCells its)
section
variable {w W W' : World} {b5 : Nat} {n : Int} {cv fv iv : Value} {P : List (Int × List Int)} {its : List It}
theorem OS.new (h : OS w W b5 n cv fv P iv its) (hb : Below W.heap.size W W') : OS w W' b5 n cv fv P iv its :=
 ⟨h.r2.below hb h.r2.lt, h.r5.below hb h.r5.lt, h.rs.new hb, h.B.trans (hb.mono h.B.size), h.lo, row_new' h.its hb⟩
theorem OS.keep (h : OS w W b5 n cv fv P iv its) (hf : Fr b5 cv fv W W') {k : Nat} {cs : Array Value} {t : TypeId} (hk : Blk W k t cs) (h1 : t ≠ 65) (h2 : t ≠ 143) (h3 : t ≠ 3) : Blk W' k t cs := by
 obtain ⟨cs', hc, -⟩ := h.rs.crow
 refine (hf.block k hk.lt (hk.ne_type h.r5 h1) (fun e => ownBlock_ne' hc hk h2 e.symm) (fun e => ownBlock_ne' h.rs.frow hk h3 e.symm)).trans hk
theorem OS.keepRow (h : OS w W b5 n cv fv P iv its) (hf : Fr b5 cv fv W W') {B t k m : Nat} {v : Value} {cs : List Value} (hr : W.ownsRow B t k v m cs) (h1 : t ≠ 65) (h2 : t ≠ 143) (h3 : t ≠ 3) : W'.ownsRow B t k v m cs := by
 refine ⟨hr.1, ?_⟩
 rcases hr.2 with h' | ⟨g, cap, cur, e, hB, hg, r⟩
 ·exact .inl h'
 ·exact .inr ⟨g, cap, cur, e, hB, h.keep hf hg h1 h2 h3, r⟩
theorem OS.add (h : OS w W b5 n cv fv P iv its) {cv' fv' : Value} {f : Int} {c : List Int} (hf : Fr b5 cv fv W W') (h5 : Blk W' b5 65 #[.int .i64 n, cv', fv']) (hr : RS (b5 + 1) W' cv' fv' (P.map Prod.snd ++ [c]) (P.map Prod.fst ++ [f])) : OS w W' b5 n cv' fv' (P ++ [(f, c)]) iv its :=
 ⟨h.r2.below hf.B (by have := h.lo; omega), h5, by simpa using hr, h.B.trans (hf.B.mono (Nat.le_of_lt h.lo)), h.lo, h.keepRow hf h.its (by decide) (by decide) (by decide)⟩
end
theorem lines_v (bk bm : Nat) (lv iv : Value) (ls : List Ln) (vs : List Value) (w : World) (h1 : Blk w bk 179 #[lv, iv, .map (some bm)]) (hr : RgsAt w ls vs) (h2 : RowAt w lv ls.length (lnCells ls vs)) (hl : ls.length <= 100000) :
  Calls Tryz.prog 38 #[.pointer (some ⟨bk, 0, none⟩)] w fun e w' => ∃ v', e = .returned v' /\ w'.ownsRow w.heap.size 98 7 v' ls.length (lnCells ls vs) /\ Below w.heap.size w w' := by
 have HI := Lib.hid (clone_lns ls vs hr.1 hr.one lv w h2 hl)
 obtain ⟨va, vc, rfl, -⟩ := h2.form
 have c0 : w.cell? ⟨bk, 0, none⟩ = some (.slice va ls.length vc) := h1.cell 0
 clear h1 h2 hr hl
 go_enter Tryz.func38, Tryz.ntmps38
 go_wp2_with fail
 refine HI.out.mono ?_
 rintro e w1 ⟨v', rfl, hrow, hb1⟩
 have HR := Lib.hid hrow
 have HB1 := Lib.hid hb1
 clear hb1 HI hrow c0
 go_wp2
 go_ret
 exact ⟨v', rfl, HR.out, HB1.out⟩
end
section
open Go.RowKit Go.Deep Sv
section
variable {w W : World} {b5 : Nat} {n : Int} {cv fv iv : Value} {P : List (Int × List Int)} {its : List It}
end
theorem RS.set {B b i : Nat} {W : World} {cv fv v : Value} {K : List (List Int)} {F : List Int} {cs : Array Value} (h : RS B W cv fv K F) (hb : Blk W b 65 cs) (hlt : b < B) : RS B (W.setCell ⟨b, i, none⟩ v) cv fv K F := by
 obtain ⟨c, h1, h2, h3⟩ := h.crow
 exact ⟨⟨c, row_setLow h1 hlt, h2.kp (Kp.set (Nat.zero_le _) hb (by decide)), h3⟩, row_setLow h.frow hlt⟩
theorem RS.base {B B' : Nat} {W : World} {cv fv : Value} {K : List (List Int)} {F : List Int} (h : RS B W cv fv K F) (hlt : B' <= B) : RS B' W cv fv K F := by
 obtain ⟨c, h1, h2, h3⟩ := h.crow
 exact ⟨⟨c, ownsRow_base h1 hlt, h2, h3⟩, ownsRow_base h.frow hlt⟩
end
section
open Go.RowKit Go.Deep Sv
theorem gathF_24 : ∀ (ls : List Ln) (i : Nat) (its out : List It), its.length <= 24 -> gathF ls i its = .ok out -> out.length <= 24 /\ ∀ x ∈ ls, ctCheck x = 0
 | [], i, its, out, h0, h => by cases h; exact ⟨h0, fun x hx => by cases hx⟩
 | x :: r, i, its, out, h0, h => by
  rw [gathF] at h
  split at h
  ·cases h
  ·rename_i hc
   have hc' : ctCheck x = 0 := Decidable.not_not.1 hc
   have key : ∀ its', its'.length <= 24 -> gathF r (i + 1) its' = .ok out -> out.length <= 24 /\ ∀ y ∈ x :: r, ctCheck y = 0 := fun its' h1 h2 => by
    obtain ⟨g1, g2⟩ := gathF_24 r (i + 1) its' out h1 h2
    exact ⟨g1, fun y hy => by rcases List.mem_cons.1 hy with rfl | hy; exact hc'; exact g2 y hy⟩
   split at h
   ·split at h
    ·cases h
    ·split at h
     ·cases h
     ·rename_i h8
      exact key _ (by simp; omega) h
   ·exact key _ h0 h
theorem newF_ok {ls : List Ln} {its : List It} (h : newF ls = .ok its) : its.length <= 24 /\ ls.length <= 100 /\ ∀ x ∈ ls, ctCheck x = 0 := by
 unfold newF at h
 split at h
 ·cases h
 ·split at h
  ·cases h
  ·rename_i its' hg
   split at h
   ·cases h
   ·cases h
    obtain ⟨h1, h2⟩ := gathF_24 ls 0 [] its' (by simp) hg
    refine ⟨?_, by omega, h2⟩
    unfold sortF
    rw [List.length_mergeSort]
    exact h1
theorem parseF_ok {s : ByteArray} {ls : List Ln} {its : List It} (h : parseF s = .ok (ls, its)) : newF ls = .ok its := by
 unfold parseF at h
 split at h
 ·cases h
 ·split at h
  ·cases h
  ·split at h
   ·cases h
   ·cases h
   ·rename_i hn
    cases h
    exact hn
theorem check_names {x : Ln} (h : ctCheck x = 0) : x.name.size <= 100000 /\ x.other.size <= 100000 := by
 unfold ctCheck at h
 split at h
 ·cases h
 ·split at h
  ·cases h
  ·rename_i h5
   split at h
   ·cases h
   ·rename_i h6
    have hn : NameOk x.name := by
     apply Classical.byContradiction
     intro hc
     exact h5 (Or.inl hc)
    refine ⟨by have := hn.len; omega, ?_⟩
    by_cases hp : x.pair
    ·have ho : NameOk x.other := by
      apply Classical.byContradiction
      intro hc
      exact h5 (Or.inr ⟨hp, hc⟩)
     have := ho.len; omega
    ·have : x.other.size = 0 := by
      apply Classical.byContradiction
      intro hc
      exact h6 ⟨hp, hc⟩
     omega
end
section
open Sv
def Asc (l : List It) : Prop := l.Pairwise fun x y => ctCmp x y < 0
theorem gathF_nodup : ∀ (ls : List Ln) (i : Nat) (its out : List It), its.Nodup -> gathF ls i its = .ok out -> out.Nodup
 | [], i, its, out, h0, h => by cases h; exact h0
 | x :: r, i, its, out, h0, h => by
  rw [gathF] at h
  split at h
  ·cases h
  ·split at h
   ·split at h
    ·cases h
    ·rename_i hx
     split at h
     ·cases h
     ·refine gathF_nodup r (i + 1) _ out ?_ h
      rw [List.nodup_append]
      exact ⟨h0, by simp, fun a ha b hb => by
       have : b = x.it := by simpa using hb
       subst this
       exact fun e => hx (e ▸ ha)⟩
   ·exact gathF_nodup r (i + 1) its out h0 h
def itsL (ls : List Ln) : List It := (ls.filter fun x => decide (x.kind = 1)).map Ln.it
theorem gathF_its : ∀ (ls : List Ln) (i : Nat) (its out : List It), gathF ls i its = .ok out -> out = its ++ itsL ls
 | [], i, its, out, h => by cases h; simp [itsL]
 | x :: r, i, its, out, h => by
  rw [gathF] at h
  split at h
  ·cases h
  ·split at h
   ·rename_i hk
    split at h
    ·cases h
    ·split at h
     ·cases h
     ·have := gathF_its r (i + 1) _ out h
      rw [this]
      simp [itsL, hk]
   ·rename_i hk
    have := gathF_its r (i + 1) its out h
    rw [this]
    simp [itsL, hk]
theorem asc_sort {l : List It} (h : l.Nodup) : Asc (sortF l) := by
 have hs : (sortF l).Pairwise fun x y => (!decide (ctCmp y x < 0)) = true := by
  unfold sortF
  refine List.pairwise_mergeSort ?_ ?_ l
  ·intro a b c h1 h2
   simp only [Bool.not_eq_true', decide_eq_false_iff_not] at h1 h2 ⊢
   intro h3
   rcases Int.lt_trichotomy (ctCmp b a) 0 with q | q | q
   ·exact h1 q
   ·have e := ctCmp_eq _ _ q
    subst e
    exact h2 h3
   ·have q' : ctCmp a b < 0 := by rw [ctCmp_anti]; omega
    exact h2 (ctCmp_trans _ _ _ h3 q')
  ·intro a b
   simp only [Bool.or_eq_true, Bool.not_eq_true', decide_eq_false_iff_not]
   have := ctCmp_anti a b
   omega
 have hn : (sortF l).Nodup := (sortF_perm l).nodup_iff.2 h
 refine (hs.and hn).imp fun {a b} hab => ?_
 obtain ⟨h1, h2⟩ := hab
 simp only [Bool.not_eq_true', decide_eq_false_iff_not] at h1
 have h3 := ctCmp_anti a b
 rcases Int.lt_trichotomy (ctCmp a b) 0 with q | q | q
 ·exact q
 ·exact absurd (ctCmp_eq _ _ q) h2
 ·omega
theorem asc_ext {a b : List It} (ha : Asc a) (hb : Asc b) (h : a.Perm b) : a = b := by
 refine List.Perm.eq_of_pairwise (le := fun x y => ctCmp x y < 0) ?_ ha hb h
 intro x y _ _ h1 h2
 have := ctCmp_anti x y
 omega
def insPos (l : List It) (x : It) : Nat -> Nat
 | 0 => 0
 | i + 1 => if ctCmp x (l.getD i default) < 0 then insPos l x i else i + 1
def insAt (l : List It) (x : It) (i : Nat) : List It := l.take i ++ x :: l.drop i
def ritF : List Ln -> List It -> List It
 | [], acc => acc
 | x :: r, acc => if x.kind = 1 then ritF r (insAt acc x.it (insPos acc x.it acc.length)) else ritF r acc
theorem insPos_le (l : List It) (x : It) : ∀ n, insPos l x n <= n
 | 0 => Nat.le_refl _
 | n + 1 => by
  unfold insPos
  split
  ·have := insPos_le l x n; omega
  ·exact Nat.le_refl _
theorem insPos_above (l : List It) (x : It) : ∀ n j, insPos l x n <= j -> j < n -> ctCmp x (l.getD j default) < 0
 | 0, j, _, h => by omega
 | n + 1, j, h1, h2 => by
  unfold insPos at h1
  split at h1
  ·rename_i hc
   rcases Nat.lt_or_ge j n with h | h
   ·exact insPos_above l x n j h1 h
   ·obtain rfl : j = n := by omega
    exact hc
  ·omega
theorem insPos_stop (l : List It) (x : It) : ∀ n k, insPos l x n = k + 1 -> ¬ ctCmp x (l.getD k default) < 0
 | 0, k, h => by simp [insPos] at h
 | n + 1, k, h => by
  unfold insPos at h
  split at h
  ·exact insPos_stop l x n k h
  ·rename_i hc
   obtain rfl : n = k := by omega
   exact hc
theorem insAt_perm (l : List It) (x : It) (i : Nat) : (insAt l x i).Perm (x :: l) := by
 unfold insAt
 have h := List.perm_middle (a := x) (l₁ := l.take i) (l₂ := l.drop i)
 rwa [List.take_append_drop] at h
theorem insAt_len (l : List It) (x : It) (i : Nat) : (insAt l x i).length = l.length + 1 := by rw [(insAt_perm l x i).length_eq]; rfl
theorem asc_ins {l : List It} {x : It} (hl : Asc l) (hx : x ∉ l) : Asc (insAt l x (insPos l x l.length)) := by
 obtain ⟨p, hp⟩ : ∃ p, insPos l x l.length = p := ⟨_, rfl⟩
 rw [hp]
 have hple : p <= l.length := by rw [<- hp]; exact insPos_le l x _
 have gd : ∀ j (hj : j < l.length), l.getD j default = l[j] := fun j hj => by rw [List.getD_eq_getElem?_getD, List.getElem?_eq_getElem hj]; rfl
 have habove : ∀ y ∈ l.drop p, ctCmp x y < 0 := fun y hy => by
  obtain ⟨j, hj, rfl⟩ := List.getElem_of_mem hy
  simp only [List.length_drop] at hj
  rw [List.getElem_drop, <- gd (p + j) (by omega)]
  exact insPos_above l x l.length (p + j) (by omega) (by omega)
 have hsplit : Asc (l.take p ++ l.drop p) := by rw [List.take_append_drop]; exact hl
 obtain ⟨h1, h2, h3⟩ := List.pairwise_append.1 hsplit
 have hbelow : ∀ y ∈ l.take p, ctCmp y x < 0 := fun y hy => by
  cases p with
  | zero => simp at hy
  | succ k =>
   have hk : k < l.length := by omega
   have hs := insPos_stop l x l.length k hp
   rw [gd k hk] at hs
   have hne : ctCmp x l[k] ≠ 0 := fun e => hx (ctCmp_eq _ _ e ▸ List.getElem_mem hk)
   have hkx : ctCmp l[k] x < 0 := by rw [ctCmp_anti]; omega
   obtain ⟨j, hj, rfl⟩ := List.getElem_of_mem hy
   simp only [List.length_take] at hj
   rw [List.getElem_take]
   rcases Nat.lt_or_ge j k with h | h
   ·exact ctCmp_trans _ _ _ ((List.pairwise_iff_getElem.1 hl) j k (by omega) hk h) hkx
   ·obtain rfl : j = k := by omega
    exact hkx
 unfold insAt
 refine List.pairwise_append.2 ⟨h1, List.pairwise_cons.2 ⟨habove, h2⟩, fun a ha b hb => ?_⟩
 rcases List.mem_cons.1 hb with rfl | hb
 ·exact hbelow a ha
 ·exact h3 a ha b hb
theorem ritF_perm : ∀ (ls : List Ln) (acc : List It), (ritF ls acc).Perm (acc ++ itsL ls)
 | [], acc => by simp [ritF, itsL]
 | x :: r, acc => by
  unfold ritF
  split
  ·rename_i hk
   refine (ritF_perm r _).trans ?_
   have e : itsL (x :: r) = x.it :: itsL r := by simp [itsL, hk]
   rw [e]
   exact ((insAt_perm acc x.it _).append_right _).trans List.perm_middle.symm
  ·rename_i hk
   have e : itsL (x :: r) = itsL r := by simp [itsL, hk]
   rw [e]
   exact ritF_perm r acc
theorem ritF_asc : ∀ (ls : List Ln) (acc : List It), Asc acc -> (acc ++ itsL ls).Nodup -> Asc (ritF ls acc)
 | [], acc, h, _ => by simpa [ritF] using h
 | x :: r, acc, h, hn => by
  unfold ritF
  split
  ·rename_i hk
   have e : itsL (x :: r) = x.it :: itsL r := by simp [itsL, hk]
   rw [e] at hn
   have hx : x.it ∉ acc := fun ha => (List.nodup_append.1 hn).2.2 _ ha _ (by simp) rfl
   refine ritF_asc r _ (asc_ins h hx) ?_
   refine (List.Perm.nodup_iff ?_).2 hn
   exact ((insAt_perm acc x.it _).append_right _).trans List.perm_middle.symm
  ·rename_i hk
   have e : itsL (x :: r) = itsL r := by simp [itsL, hk]
   rw [e] at hn
   exact ritF_asc r acc h hn
theorem new_asc {ls : List Ln} {its : List It} (h : newF ls = .ok its) : Asc its /\ ritF ls [] = its := by
 unfold newF at h
 split at h
 ·cases h
 ·split at h
  ·cases h
  ·rename_i g hg
   split at h
   ·cases h
   ·cases h
    have hn := gathF_nodup ls 0 [] g (by simp) hg
    have hi := gathF_its ls 0 [] g hg
    simp only [List.nil_append] at hi
    have ha := asc_sort hn
    refine ⟨ha, asc_ext (ritF_asc ls [] List.Pairwise.nil (by simpa [<- hi] using hn)) ha ?_⟩
    refine (ritF_perm ls []).trans ?_
    simp only [List.nil_append, <- hi]
    exact (sortF_perm g).symm
def RowK (l : List It) (name : ByteArray) (k : Nat) : Option (Nat × Nat) -> Prop
 | none => ∀ i, i < k -> (l.getD i default).name ≠ name
 | some (lo, hi) => lo < hi /\ hi <= k /\ (l.getD lo default).name = name /\ (l.getD (hi - 1) default).name = name /\ ∀ i, i < k -> (l.getD i default).name = name -> lo <= i /\ i < hi
theorem row_k (l : List It) (name : ByteArray) : ∀ k, k <= l.length -> RowK l name k (ctRowO (l.take k) name)
 | 0, _ => by
  simp only [List.take_zero]
  exact fun i h => by omega
 | k + 1, hk => by
  have ih := row_k l name k (by omega)
  have e : l.take (k + 1) = l.take k ++ [l.getD k default] := by
   rw [List.take_add_one, List.getD_eq_getElem?_getD, List.getElem?_eq_getElem (by omega)]; rfl
  have hlen : (l.take k).length = k := by rw [List.length_take]; omega
  rw [e, ctRowO_snoc, hlen]
  cases hr : ctRowO (l.take k) name with
  | none =>
   rw [hr] at ih
   split
   ·rename_i hx
    refine ⟨by simp, by simp, by simpa using hx, by simpa using hx, fun i hi hn => ?_⟩
    rcases Nat.lt_or_ge i k with h | h
    ·exact absurd hn (ih i h)
    ·simp; omega
   ·rename_i hx
    intro i hi
    rcases Nat.lt_or_ge i k with h | h
    ·exact ih i h
    ·obtain rfl : i = k := by omega
     exact hx
  | some p =>
   obtain ⟨lo, hi⟩ := p
   rw [hr] at ih
   obtain ⟨h1, h2, h3, h4, h5⟩ := ih
   split
   ·rename_i hx
    show lo < k + 1 /\ _
    refine ⟨by omega, Nat.le_refl _, h3, by simpa using hx, fun i hi hn => ?_⟩
    rcases Nat.lt_or_ge i k with h | h
    ·have := h5 i h hn; exact ⟨this.1, by omega⟩
    ·exact ⟨show lo <= i by omega, by omega⟩
   ·rename_i hx
    refine ⟨h1, by omega, h3, h4, fun i hi hn => ?_⟩
    rcases Nat.lt_or_ge i k with h | h
    ·exact h5 i h hn
    ·obtain rfl : i = k := by omega
     exact absurd hn hx
theorem asc_at {l : List It} (h : Asc l) {i j : Nat} (hj : j < l.length) (hij : i < j) : ctCmp (l.getD i default) (l.getD j default) < 0 := by
 have gd : ∀ j (hj : j < l.length), l.getD j default = l[j] := fun j hj => by rw [List.getD_eq_getElem?_getD, List.getElem?_eq_getElem hj]; rfl
 rw [gd i (by omega), gd j hj]
 exact List.pairwise_iff_getElem.1 h i j (by omega) hj hij
theorem cmp_names {x y : It} (h : ctCmp x y < 0) : x.name = y.name \/ Lib.compareBytes x.name.data.toList y.name.data.toList < 0 := by
 unfold ctCmp at h
 split at h
 ·rename_i e; exact Or.inl (bytes_eq e)
 ·exact Or.inr h
theorem row_iff {l : List It} (h : Asc l) (name : ByteArray) (i : Nat) (hi : i < l.length) : (l.getD i default).name = name ↔ (ctRow l name).1 <= i /\ i < (ctRow l name).2 := by
 have hk := row_k l name l.length (Nat.le_refl _)
 rw [List.take_length] at hk
 unfold ctRow
 cases hr : ctRowO l name with
 | none =>
  rw [hr] at hk
  exact ⟨fun e => absurd e (hk i hi), fun e => by simp at e⟩
 | some p =>
  obtain ⟨lo, hi'⟩ := p
  rw [hr] at hk
  obtain ⟨h1, h2, h3, h4, h5⟩ := hk
  simp only [Option.getD_some]
  refine ⟨h5 i hi, fun ⟨g1, g2⟩ => ?_⟩
  apply Classical.byContradiction
  intro hne
  have n1 : lo ≠ i := fun e => hne (e ▸ h3)
  have n2 : hi' - 1 ≠ i := fun e => hne (e ▸ h4)
  have c1 := cmp_names (asc_at h hi (show lo < i by omega))
  have c2 := cmp_names (asc_at h (show hi' - 1 < l.length by omega) (show i < hi' - 1 by omega))
  rw [h3] at c1
  rw [h4] at c2
  rcases c1 with c1 | c1
  ·exact hne c1.symm
  ·rcases c2 with c2 | c2
   ·exact hne c2
   ·have := cb_anti name.data.toList (l.getD i default).name.data.toList
    omega
theorem filter_range {p q : Nat -> Bool} (n lo hi : Nat) (h2 : hi <= n) (h : ∀ i, i < n -> (q i = true ↔ (lo <= i /\ i < hi) /\ p i = true)) : (List.range n).filter q = (List.range' lo (hi - lo)).filter p := by
 rcases Nat.lt_or_ge hi lo with hlh | hlh
 ·rw [show hi - lo = 0 by omega]
  simp only [List.range'_zero, List.filter_nil, List.filter_eq_nil_iff]
  intro i hi'
  rw [List.mem_range] at hi'
  intro e
  have := (h i hi').1 e
  omega
 ·have e : List.range n = List.range' 0 lo ++ (List.range' lo (hi - lo) ++ List.range' hi (n - hi)) := by
   rw [List.range_eq_range']
   have a1 := List.range'_append_1 (s := lo) (m := hi - lo) (n := n - hi)
   have a2 := List.range'_append_1 (s := 0) (m := lo) (n := (hi - lo) + (n - hi))
   rw [show lo + (hi - lo) = hi by omega] at a1
   rw [Nat.zero_add] at a2
   rw [a1, a2]
   congr 1; omega
  rw [e, List.filter_append, List.filter_append]
  have f1 : (List.range' 0 lo).filter q = [] := by
   rw [List.filter_eq_nil_iff]
   intro i hi'
   have := List.mem_range'_1.1 hi'
   intro e
   have := (h i (by omega)).1 e
   omega
  have f3 : (List.range' hi (n - hi)).filter q = [] := by
   rw [List.filter_eq_nil_iff]
   intro i hi'
   have := List.mem_range'_1.1 hi'
   intro e
   have := (h i (by omega)).1 e
   omega
  have f2 : (List.range' lo (hi - lo)).filter q = (List.range' lo (hi - lo)).filter p := by
   refine List.filter_congr fun i hi' => ?_
   have := List.mem_range'_1.1 hi'
   rw [Bool.eq_iff_iff, h i (by omega)]
   constructor
   ·exact fun e => e.2
   ·exact fun e => ⟨by omega, e⟩
  rw [f1, f2, f3]; simp
theorem row_end (l : List It) (name : ByteArray) : (ctRow l name).2 <= l.length := by
 have hk := row_k l name l.length (Nat.le_refl _)
 rw [List.take_length] at hk
 unfold ctRow
 cases hr : ctRowO l name with
 | none => simp
 | some p =>
  obtain ⟨lo, hi'⟩ := p
  rw [hr] at hk
  exact hk.2.1
end
end Go.Proofs.YtpmpnbbihmgdpaaGreatDoor
