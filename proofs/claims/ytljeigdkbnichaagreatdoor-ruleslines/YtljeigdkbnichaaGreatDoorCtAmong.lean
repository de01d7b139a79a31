/- Among. -/
import Derived.Test.YtljeigdkbnichaaGreatDoorCtNew
namespace Go.Proofs.YtljeigdkbnichaaGreatDoor
open Go.RowKit Go.Deep Sv

set_option maxRecDepth 100000 in
set_option maxHeartbeats 1000000 in
theorem items_c (bk : Nat) (ls : List Ln) (its : List It) (w : World) (h : CatAt w bk ls its) (hl : its.length ≤ 100000) :
    Calls Tryz.prog 33 #[.pointer (some ⟨bk, 0, none⟩)] w fun e w' => ∃ v', e = .returned v' ∧ w'.ownsRow w.heap.size 71 4 v' its.length (itCells its) ∧ Below w.heap.size w w' := by
  obtain ⟨lv, iv, bm, h1, h2, h3, h4⟩ := h
  have HI := Lib.hid (clone_its its iv w h3 hl)
  obtain ⟨va, vc, rfl, -⟩ := h3.form
  have c1 : w.cell? ⟨bk, 1, none⟩ = some (.slice va its.length vc) := h1.cell 1
  clear h1 h2 h3 h4 hl
  go_enter Tryz.func33, Tryz.ntmps33
  go_wp2_with fail
  refine HI.out.mono ?_
  rintro e w1 ⟨v', rfl, hrow, hb1⟩
  have HR := Lib.hid hrow
  have HB1 := Lib.hid hb1
  clear hb1 HI hrow c1
  go_wp2
  go_ret
  exact ⟨v', rfl, HR.out, HB1.out⟩

set_option maxRecDepth 100000 in
set_option maxHeartbeats 1000000 in
theorem lines_c (bk : Nat) (ls : List Ln) (its : List It) (w : World) (h : CatAt w bk ls its) (hl : ls.length ≤ 100000) :
    Calls Tryz.prog 34 #[.pointer (some ⟨bk, 0, none⟩)] w fun e w' => ∃ v', e = .returned v' ∧ LnsAt w' v' ls ∧ Below w.heap.size w w' := by
  obtain ⟨lv, iv, bm, h1, ⟨vs, h2, h2'⟩, h3, h4⟩ := h
  have HI := Lib.hid (clone_lns ls vs h2.1 h2.one lv w h2' hl)
  obtain ⟨va, vc, rfl, -⟩ := h2'.form
  have c0 : w.cell? ⟨bk, 0, none⟩ = some (.slice va ls.length vc) := h1.cell 0
  have HRG := Lib.hid h2
  clear h1 h2 h2' h3 h4 hl
  go_enter Tryz.func34, Tryz.ntmps34
  go_wp2_with fail
  refine HI.out.mono ?_
  rintro e w1 ⟨v', rfl, hrow, hb1⟩
  have HR : Hid (LnsAt w1 v' ls) := ⟨vs, HRG.out.below hb1 (Nat.le_refl _), rowAt_own hrow⟩
  have HB1 := Lib.hid hb1
  clear hb1 HI hrow c0
  go_wp2
  go_ret
  exact ⟨v', rfl, HR.out, HB1.out⟩

theorem ctRowO_bound (name : ByteArray) : ∀ (l : List It) (r : Nat × Nat), ctRowO l name = some r → r.1 < r.2 ∧ r.2 ≤ l.length := by
  intro l
  induction h : l.length generalizing l with
  | zero =>
    intro r hr
    obtain rfl : l = [] := List.eq_nil_of_length_eq_zero h
    cases hr
  | succ n ih =>
    intro r hr
    obtain ⟨l', x, rfl⟩ : ∃ l' x, l = l' ++ [x] := by
      rcases List.eq_nil_or_concat l with e | ⟨l', x, e⟩
      · subst e; simp at h
      · exact ⟨l', x, by rw [e, List.concat_eq_append]⟩
    have hl' : l'.length = n := by simpa using h
    rw [ctRowO_snoc] at hr
    split at hr
    · cases hr
      cases hf : ctRowO l' name with
      | none => simp [hl']
      | some r' =>
        have := ih l' hl' r' hf
        simp [hl']
        omega
    · have := ih l' hl' r hr
      omega
theorem ctRow_bound (its : List It) (name : ByteArray) : (ctRow its name).1 ≤ (ctRow its name).2 ∧ (ctRow its name).2 ≤ its.length := by
  unfold ctRow
  cases h : ctRowO its name with
  | none => simp
  | some r => have := ctRowO_bound name its r h; simp; omega
open Classical in
/-- Those among, up to a number. -/
noncomputable def amP (its : List It) (name : ByteArray) (rng : List Span) (i : Nat) : List Nat :=
  (List.range' (ctRow its name).1 (i - (ctRow its name).1)).filter fun i => decide (hasF rng (its.getD i default))
theorem amP_start (its : List It) (name : ByteArray) (rng : List Span) : amP its name rng (ctRow its name).1 = [] := by unfold amP; simp
theorem amP_end (its : List It) (name : ByteArray) (rng : List Span) : amP its name rng (ctRow its name).2 = amongF its name rng := rfl
open Classical in
theorem amP_succ (its : List It) (name : ByteArray) (rng : List Span) {i : Nat} (hi : (ctRow its name).1 ≤ i) : amP its name rng (i + 1) = amP its name rng i ++ (if hasF rng (its.getD i default) then [i] else []) := by
  unfold amP
  rw [show i + 1 - (ctRow its name).1 = (i - (ctRow its name).1) + 1 by omega, List.range'_concat, List.filter_append, Nat.one_mul, show (ctRow its name).1 + (i - (ctRow its name).1) = i by omega]
  congr 1
  by_cases h : hasF rng (its.getD i default)
  · rw [if_pos h]; simp only [List.filter_cons, List.filter_nil, decide_eq_true h, if_true]
  · rw [if_neg h]; simp only [List.filter_cons, List.filter_nil, decide_eq_false h, Bool.false_eq_true, if_false]
theorem amP_len (its : List It) (name : ByteArray) (rng : List Span) (i : Nat) : (amP its name rng i).length ≤ i := by
  unfold amP
  refine Nat.le_trans (List.length_filter_le _ _) ?_
  rw [List.length_range']; omega
end Go.Proofs.YtljeigdkbnichaaGreatDoor

namespace Go.Proofs.YtljeigdkbnichaaGreatDoor
open Go.RowKit Go.Deep Sv

set_option maxRecDepth 100000 in
theorem rowFld (a b : Int) (W : World) : (Instr.field 161 (.agg #[.int .i64 a, .int .i64 b]) 0).run Tryz.prog W = .ok (.int .i64 a) W ∧ (Instr.field 161 (.agg #[.int .i64 a, .int .i64 b]) 1).run Tryz.prog W = .ok (.int .i64 b) W := by
  constructor <;> kernel_rfl

set_option maxRecDepth 100000 in
set_option maxHeartbeats 4000000 in
theorem among_c (bk : Nat) (ls : List Ln) (its : List It) (name : ByteArray) (rng : List Span) (hr : Rg rng) (v : Value) (w : World) (h : CatAt w bk ls its) (hl : its.length ≤ 100000) (hn : name.size ≤ 100000) (hv : SpAt w v rng) :
    Calls Tryz.prog 39 #[.pointer (some ⟨bk, 0, none⟩), .string name, .agg #[v]] w fun e w' => ∃ v', e = .returned v' ∧ w'.ownsRow w.heap.size 3 1 v' (amongF its name rng).length (icells ((amongF its name rng).map fun (k : Nat) => (k : Int))) ∧ Below w.heap.size w w' := by
  obtain ⟨va, vc, rfl⟩ := hv.form
  obtain ⟨lv, iv, bm, h1, h2, h3, h4⟩ := h
  obtain ⟨ia, ic, rfl, -⟩ := h3.form
  obtain ⟨i0, hin, hz0, hz1, hz2⟩ := info_parts infoInt
  have HHAS : Hid (∀ W i, Below w.heap.size w W → Calls Tryz.prog 25 #[.agg #[.slice va rng.length vc], .agg #[.int .i64 (its.getD i default).a, .int .i64 (its.getD i default).b, .int .i64 (its.getD i default).c]] W fun e w' => (e = .returned (.bool true) ∧ hasF rng (its.getD i default) ∨ e = .returned (.bool false) ∧ ¬ hasF rng (its.getD i default)) ∧ Below W.heap.size W w') := fun W i hW => (hasv rng hr va vc (its.getD i default) W (hv.below hW (Nat.le_refl _))).mono fun e w' ⟨he, hb⟩ => by
    refine ⟨?_, hb⟩
    by_cases hh : hasF rng (its.getD i default)
    · exact Or.inl ⟨by rw [he]; congr 2; exact @decide_eq_true _ (Classical.propDecidable _) hh, hh⟩
    · exact Or.inr ⟨by rw [he]; congr 2; exact @decide_eq_false _ (Classical.propDecidable _) hh, hh⟩
  have hbx : Below w.heap.size w (w.alloc (.cells #[.slice va rng.length vc] 31)) := (Below.refl _ w).alloc (Nat.le_refl _) _
  have kr := Blk.new w 31 #[.slice va rng.length vc]
  have k1 := h1.below hbx h1.lt
  have h5 := h4.below hbx (Nat.le_refl _)
  have hlook := fun (n : Nat) => ((h5.block (w' := (w.alloc (.cells #[.slice va rng.length vc] 31)).drewN n) rfl).look hn).2
  clear h5
  have HI := Lib.hid (show ItsAt (w.alloc (.cells #[.slice va rng.length vc] 31)) (.slice ia its.length ic) its from h3.below hbx (Nat.le_refl _))
  have HBX := Lib.hid hbx
  have HST := Lib.hid (amP_start its name rng)
  have HEN := Lib.hid (amP_end its name rng)
  have HSU : Hid (∀ i, (ctRow its name).1 ≤ i → amP its name rng (i + 1) = amP its name rng i ++ (@ite _ (hasF rng (its.getD i default)) (Classical.propDecidable _) [i] [])) := fun i hi => amP_succ its name rng hi
  have HLE := Lib.hid (fun i => amP_len its name rng i)
  have hbd := ctRow_bound its name
  have hrow : (ctRowO its name).getD (0, 0) = ctRow its name := rfl
  simp only [hrow, rowV] at hlook
  obtain ⟨la, lc, rfl, -⟩ : ∃ la lc, lv = .slice la ls.length lc ∧ True := by obtain ⟨vs, _, h2⟩ := h2; obtain ⟨x, y, e, _⟩ := h2.form; exact ⟨x, y, e, trivial⟩
  clear hrow h1 h2 h3 h4 hbx hv hr hn
  generalize amP its name rng = am at *
  generalize amongF its name rng = amF at *
  obtain ⟨lo, hlo⟩ : ∃ lo, (ctRow its name).1 = lo := ⟨_, rfl⟩
  obtain ⟨hi, hhi⟩ : ∃ hi, (ctRow its name).2 = hi := ⟨_, rfl⟩
  rw [hlo, hhi] at hbd
  simp only [hlo, hhi] at hlook
  rw [hlo] at HST HSU
  rw [hhi] at HEN
  clear hlo hhi
  obtain ⟨hb1, hb2⟩ := hbd
  go_enter Tryz.func39, Tryz.ntmps39
  go_upto_region 4 with fail
  generalize w.alloc (.cells #[.slice va rng.length vc] 31) = W0 at *
  have d2 : W0.cell? ⟨bk, 2, none⟩ = some (.map (some bm)) := k1.cell 2
  have hlookD := hlook 1
  rw [show W0.drewN 1 = W0.drew from rfl] at hlookD
  clear hlook
  obtain ⟨hf0, hf1⟩ := rowFld (lo : Int) (hi : Int) W0.drew
  go_big_region
  clear d2 hlookD hf0 hf1
  have hbq : Below W0.heap.size W0 W0.drew := ⟨rfl, rfl, rfl, Nat.le_refl _, fun _ _ => rfl⟩
  have kr1 := kr.below hbq kr.lt
  have k2 := k1.below hbq k1.lt
  have HI1 := Lib.hid (show ItsAt W0.drew (.slice ia its.length ic) its from HI.out.below hbq (Nat.le_refl _))
  have HBQ : Hid (Below w.heap.size w W0.drew) := HBX.out.trans (hbq.mono HBX.out.size)
  clear hbq kr k1 HI HBX
  generalize W0.drew = W1 at *
  go_wp2_with fail
  go_loopw [7, 8] (fun oV iV wr => ∃ (i : Nat), lo ≤ i ∧ i ≤ hi ∧ iV = .int .i64 (i : Int) ∧ wr.ownsRow W1.heap.size 3 1 oV (am i).length (icells ((am i).map fun (k : Nat) => (k : Int))) ∧ Below w.heap.size w wr ∧ Below W1.heap.size W1 wr) (fun _ iV _ => hi - (intOf iV).toNat)
  case atStart => exact ⟨lo, Nat.le_refl _, hb1, rfl, by rw [HST.out]; exact World.ownsRow_nil _ _ _ _, HBQ.out, Below.refl _ _⟩
  case round =>
    obtain ⟨i, hil, hih, rfl, hrow, hbw, hbr⟩ := hrel
    obtain ⟨oa, oc, rfl, -⟩ := (rowAt_own hrow).form
    by_cases hlt : i < hi
    · obtain ⟨g, cap', e, hg, c0, c1, c2, c3⟩ := (show ItsAt wr _ its from HI1.out.below hbr (Nat.le_refl _)).at i (by omega)
      simp at e
      obtain ⟨rfl, rfl⟩ := e
      have hii0 : (0 : Int) ≤ (i : Int) := by omega
      have hii1 : (i : Int) < (its.length : Int) := by omega
      have hale := HLE.out i
      have HSUi := Lib.hid (HSU.out i hil)
      have HHi := Lib.hid (fun W hW => HHAS.out W i hW)
      have HROW := Lib.hid hrow
      have HBW := Lib.hid hbw
      have HBR := Lib.hid hbr
      have kr3 := kr1.below hbr kr1.lt
      have k3 := k2.below hbr k2.lt
      have hxl := kr3.lt
      have hbl := k3.lt
      generalize its.getD i default = x at *
      have SC : Hid (∀ W, Below wr.heap.size wr W → W.cell? ⟨w.heap.size, 0, none⟩ = some (.slice va rng.length vc) ∧ W.cell? ⟨bk, 1, none⟩ = some (.slice (some ⟨g, 0, none⟩) its.length ic) ∧ W.cell? ⟨g, i * 4 + 1, none⟩ = some (.int .i64 x.a) ∧ W.cell? ⟨g, i * 4 + 2, none⟩ = some (.int .i64 x.b) ∧ W.cell? ⟨g, i * 4 + 3, none⟩ = some (.int .i64 x.c)) := fun W h => ⟨(kr3.below h hxl).cell 0, (k3.below h hbl).cell 1, (h.cell (p := ⟨g, i * 4 + 1, none⟩) hg).trans c1, (h.cell (p := ⟨g, i * 4 + 2, none⟩) hg).trans c2, (h.cell (p := ⟨g, i * 4 + 3, none⟩) hg).trans c3⟩
      have D0 : Below wr.heap.size wr wr.drew := (Below.refl _ _).drew
      have E0 : Below w.heap.size w wr.drew := hbw.drew
      clear hrow hbw hbr kr3 k3 c0 c1 c2 c3 HHAS HSU
      go_upto_region 7 with fail
      by_cases hh : hasF rng x
      · have HQ : Hid (∀ W, Below w.heap.size w W → Calls Tryz.prog 25 #[.agg #[.slice va rng.length vc], .agg #[.int .i64 x.a, .int .i64 x.b, .int .i64 x.c]] W fun e w' => e = .returned (.bool true) ∧ Below W.heap.size W w') := fun W hW => (HHi.out W hW).mono fun e w' ⟨h, hb⟩ => ⟨by rcases h with h | h; exact h.1; exact absurd hh h.2, hb⟩
        have HA : Hid (am (i + 1) = am i ++ [i]) := by show _ = _; rw [HSUi.out, if_pos hh]
        clear HHi HSUi hh
        go_region_held3 (fun W => W.cell? ⟨w.heap.size, 0, none⟩ = some (.slice va rng.length vc) ∧ W.cell? ⟨bk, 1, none⟩ = some (.slice (some ⟨g, 0, none⟩) its.length ic) ∧ W.cell? ⟨g, i * 4 + 1, none⟩ = some (.int .i64 x.a) ∧ W.cell? ⟨g, i * 4 + 2, none⟩ = some (.int .i64 x.b) ∧ W.cell? ⟨g, i * 4 + 3, none⟩ = some (.int .i64 x.c)) (first | exact SC.out _ D0 | exact SC.out _ D1)
          (((with_reducible refine (HQ.out _ E0).mono ?_); rintro e x1 ⟨rfl, hb1'⟩; have D1 : Below wr.heap.size wr x1 := D0.trans (hb1'.mono D0.size); clear HQ D0 E0 hb1'))
        have hrow2 := row_new' HROW.out D1
        have HBX : Hid (Below w.heap.size w x1) := HBW.out.trans (D1.mono HBW.out.size)
        have HBY : Hid (Below W1.heap.size W1 x1) := HBR.out.trans (D1.mono HBR.out.size)
        have HROW2 := Lib.hid hrow2
        have hxs := HBX.out.size
        have hys := HBY.out.size
        clear D1 hrow2 SC HROW HBW HBR
        go_wp2_with (at_builtin; refine wpList_append_own_at _ rfl _ _ 22 rfl W1.heap.size 3 i0 (.int .i64 0) 1 8 Tryz.underlying22 hin hz0 hz1 hz2 rfl (by decide) _ _ _ rfl (HROW2.out.alloc _) ⟨x1.heap.size, 0, none⟩ 1 1 [.int .i64 (i : Int)] rfl rfl ?c1 ?c2 ?c3 ?c4 ?c5 ?_)
        case c1 => exact cell_lit _ _ _
        case c2 => exact one_lit _
        case c3 => unfold maxLen; omega
        case c4 => omega
        case c5 => simp; omega
        intro v7 w7 hown7 hgrow7 _ hloc7
        have HR7 : Hid (w7.ownsRow W1.heap.size 3 1 v7 (am (i + 1)).length (icells ((am (i + 1)).map fun (k : Nat) => (k : Int)))) := by
          show World.ownsRow _ _ _ _ _ _ _
          rw [HA.out, List.map_append, List.map_cons, List.map_nil, icells_snoc, List.length_append]
          exact hown7
        have HB8 : Hid (Below W1.heap.size W1 w7) := (HBY.out.alloc HBY.out.size _).grown hgrow7 (by simp; omega) (fun k hk => (HROW2.out.lt k hk).1)
        have HB7 : Hid (Below w.heap.size w w7) := HBQ.out.trans (HB8.out.mono HBQ.out.size)
        clear hown7 hgrow7 hloc7 HROW2 HBX HBY
        go_wp2
        go_roundw
        case rel => exact ⟨i + 1, by omega, hlt, by go_num, HR7.out, HB7.out, HB8.out⟩
        case measure => simp [intOf]; omega
      · have HQ : Hid (∀ W, Below w.heap.size w W → Calls Tryz.prog 25 #[.agg #[.slice va rng.length vc], .agg #[.int .i64 x.a, .int .i64 x.b, .int .i64 x.c]] W fun e w' => e = .returned (.bool false) ∧ Below W.heap.size W w') := fun W hW => (HHi.out W hW).mono fun e w' ⟨h, hb⟩ => ⟨by rcases h with h | h; exact absurd h.2 hh; exact h.1, hb⟩
        have HA : Hid (am (i + 1) = am i) := by show _ = _; rw [HSUi.out, if_neg hh, List.append_nil]
        clear HHi HSUi hh
        go_region_held3 (fun W => W.cell? ⟨w.heap.size, 0, none⟩ = some (.slice va rng.length vc) ∧ W.cell? ⟨bk, 1, none⟩ = some (.slice (some ⟨g, 0, none⟩) its.length ic) ∧ W.cell? ⟨g, i * 4 + 1, none⟩ = some (.int .i64 x.a) ∧ W.cell? ⟨g, i * 4 + 2, none⟩ = some (.int .i64 x.b) ∧ W.cell? ⟨g, i * 4 + 3, none⟩ = some (.int .i64 x.c)) (first | exact SC.out _ D0 | exact SC.out _ D1)
          (((with_reducible refine (HQ.out _ E0).mono ?_); rintro e x1 ⟨rfl, hb1'⟩; have D1 : Below wr.heap.size wr x1 := D0.trans (hb1'.mono D0.size); clear HQ D0 E0 hb1'))
        have HR7 : Hid (x1.ownsRow W1.heap.size 3 1 (.slice oa (am i).length oc) (am (i + 1)).length (icells ((am (i + 1)).map fun (k : Nat) => (k : Int)))) := by
          show World.ownsRow _ _ _ _ _ _ _
          rw [HA.out]; exact row_new' HROW.out D1
        have HBX : Hid (Below w.heap.size w x1) := HBW.out.trans (D1.mono HBW.out.size)
        have HBY : Hid (Below W1.heap.size W1 x1) := HBR.out.trans (D1.mono HBR.out.size)
        clear D1 SC HROW HBW HBR
        go_wp2
        go_roundw
        case rel => exact ⟨i + 1, by omega, hlt, by go_num, HR7.out, HBX.out, HBY.out⟩
        case measure => simp [intOf]; omega
    · obtain rfl : i = hi := by omega
      rw [HEN.out] at hrow
      have HROW := Lib.hid hrow
      have HBW := Lib.hid hbw
      clear hrow hbw hbr
      go_wp2
      go_ret
      rw [HEN.out]
      exact ⟨_, rfl, ownsRow_base HROW.out HBQ.out.size, HBW.out⟩
end Go.Proofs.YtljeigdkbnichaaGreatDoor
