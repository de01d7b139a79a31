/- Eliminate. -/
import Derived.Test.YtcmmoinkhodjfaaDoorPfWithout
import Derived.Test.YtcmmoinkhodjfaaDoorClCheck
import Derived.Test.YtcmmoinkhodjfaaDoorClPlain
import Derived.BigQuiet
import Derived.Deep.QuietTactic
namespace Go.Proofs.YtcmmoinkhodjfaaDoor
open Go.RowKit Go.Deep Go.Maps

theorem elimK_len {l : List (Nat × Nat)} : ∀ {k : Nat} {s : List Int} {m : List (Nat × Nat)}, elimK l k = some (s, m) → s.length = k
  | 0, s, m, h => by
    simp [elimK] at h
    rw [h.1]; rfl
  | k + 1, s, m, h => by
    unfold elimK at h
    cases hk : elimK l k with
    | none => rw [hk] at h; cases h
    | some p =>
      obtain ⟨s', m'⟩ := p
      rw [hk] at h
      simp only at h
      split at h
      · cases h
      · injection h with h
        injection h with h1 h2
        rw [← h1, List.length_append, List.length_singleton, elimK_len hk]
theorem elimK_few {l : List (Nat × Nat)} (hl : l.length ≤ 2000) : ∀ {k : Nat} {s : List Int} {m : List (Nat × Nat)}, elimK l k = some (s, m) → m.length ≤ 2000
  | 0, s, m, h => by
    simp [elimK] at h
    rw [← h.2]; exact hl
  | k + 1, s, m, h => by
    unfold elimK at h
    cases hk : elimK l k with
    | none => rw [hk] at h; cases h
    | some p =>
      obtain ⟨s', m'⟩ := p
      rw [hk] at h
      simp only at h
      split at h
      · cases h
      · injection h with h
        injection h with h1 h2
        rw [← h2]; omega
theorem elimK_next {l m : List (Nat × Nat)} {k : Nat} {s : List Int} (h : elimK l k = some (s, m)) (hf : ¬ 2000 < (withoutF m k).length) : elimK l (k + 1) = some (s ++ [((withoutF m k).length : Int)], withoutF m k) := by
  unfold elimK
  rw [h]
  simp only
  rw [if_neg hf]
theorem elimK_stop {l m : List (Nat × Nat)} {k n : Nat} {s : List Int} (h : elimK l k = some (s, m)) (hf : 2000 < (withoutF m k).length) (hn : k < n) : elimK l n = none := by
  have h1 : elimK l (k + 1) = none := by
    unfold elimK
    rw [h]
    simp only
    rw [if_pos hf]
  have := elimK_more h1 (n - (k + 1))
  rwa [show k + 1 + (n - (k + 1)) = n by omega] at this
theorem PileM.down {B B' : Nat} {w : World} {pb : Nat} {l : List (Nat × Nat)} {lV mV : Value} (h : PileM B w pb l lV mV) (hB : B' ≤ B) : PileM B' w pb l lV mV :=
  ⟨h.blk, ownsRow_base h.row hB, h.map.imp id fun ⟨bm, e, h1, h2⟩ => ⟨bm, e, Nat.le_trans hB h1, h2⟩, h.small⟩
/-- A pile laid into the box. -/
theorem pile_put {B pb : Nat} {w : World} {lV mV loV moV : Value} {lo : List (Nat × Nat)} (hb : Blk w pb 93 #[lV, mV]) (hr : w.ownsRow B 68 2 loV lo.length (scells lo)) (hm : (lo = [] ∧ moV = .map none) ∨ ∃ bm, moV = .map (some bm) ∧ B ≤ bm ∧ SetAt w bm lo) (hs : ∀ s ∈ lo, Small s) : PileM B ((w.setCell ⟨pb, 0, none⟩ loV).setCell ⟨pb, 1, none⟩ moV) pb lo loV moV := by
  have h1 := hb.set (i := 0) (v := loV)
  have h2 := h1.set (i := 1) (v := moV)
  have hr1 := ownsRow_setCell_other hr (a := ⟨pb, 0, none⟩) (ownBlock_ne' hr hb (by decide)) loV
  have hr2 := ownsRow_setCell_other hr1 (a := ⟨pb, 1, none⟩) (ownBlock_ne' hr1 h1 (by decide)) moV
  refine ⟨h2, hr2, ?_, hs⟩
  rcases hm with h3 | ⟨bm, e, hB, hs⟩
  · exact Or.inl h3
  · have hne : bm ≠ pb := fun e => set_ne hs hb e.symm
    exact Or.inr ⟨bm, e, hB, (hs.block (Below.heap_setCell _ _ _ bm hne)).block (Below.heap_setCell _ _ _ bm hne)⟩
/-- The box of what is left, and the row of how many. -/
structure EW (w wr : World) (pb : Nat) (s : List Int) (m : List (Nat × Nat)) (sV lV mV : Value) : Prop where
  pile : PileM w.heap.size wr pb m lV mV
  row : wr.ownsRow w.heap.size 3 1 sV s.length (icells s)
  below : Below w.heap.size w wr
section
variable {w wr wr' : World} {pb : Nat} {s : List Int} {m : List (Nat × Nat)} {sV lV mV : Value}
theorem EW.new (h : EW w wr pb s m sV lV mV) (hb : Below wr.heap.size wr wr') : EW w wr' pb s m sV lV mV :=
  ⟨h.pile.new hb, row_new' h.row hb, h.below.trans (hb.mono h.below.size)⟩
theorem EW.put {loV moV : Value} {lo : List (Nat × Nat)} (h : EW w wr pb s m sV lV mV) (hpb : w.heap.size ≤ pb) (hb : Below wr.heap.size wr wr') (hr : wr'.ownsRow wr.heap.size 68 2 loV lo.length (scells lo)) (hm : (lo = [] ∧ moV = .map none) ∨ ∃ bm, moV = .map (some bm) ∧ wr.heap.size ≤ bm ∧ SetAt wr' bm lo) (hs : ∀ s ∈ lo, Small s) : EW w ((wr'.setCell ⟨pb, 0, none⟩ loV).setCell ⟨pb, 1, none⟩ moV) pb s lo sV loV moV := by
  have h1 := h.new hb
  have hp := (pile_put h1.pile.blk hr hm hs).down h.below.size
  have q1 := h1.pile.blk.set (i := 0) (v := loV)
  have hr1 := ownsRow_setCell_other h1.row (a := ⟨pb, 0, none⟩) (ownBlock_ne' h1.row h1.pile.blk (by decide)) loV
  have hr2 := ownsRow_setCell_other hr1 (a := ⟨pb, 1, none⟩) (ownBlock_ne' hr1 q1 (by decide)) moV
  exact ⟨hp, hr2, (h1.below.setCell hpb _).setCell hpb _⟩
theorem EW.app {sV' : Value} {x : Int} (h : EW w wr pb s m sV lV mV) (hown : wr'.ownsRow w.heap.size 3 1 sV' (s.length + 1) (icells s ++ [.int .i64 x])) (hg : wr.grownBy wr' sV.ownBlock) : EW w wr' pb (s ++ [x]) m sV' lV mV := by
  have hk : ∀ k, k < wr.heap.size → sV.ownBlock ≠ some k → wr'.heap[k]? = wr.heap[k]? := fun k h1 h2 => hg.block k h1 (fun e => h2 e.symm)
  refine ⟨h.pile.block fun k hkk => hk k (h.pile.lt k hkk) ?_, ?_, h.below.grown hg h.below.size (fun k hk => (h.row.lt k hk).1)⟩
  · rcases hkk with rfl | e | e
    · exact ownBlock_ne' h.row h.pile.blk (by decide)
    · intro e2
      rcases ownBlocks_ne h.row h.pile.row (by decide) with q | q
      · rw [q] at e2; cases e2
      · exact q (e2.trans e.symm)
    · exact map_row h.pile h.row e
  · have : icells (s ++ [x]) = icells s ++ [.int .i64 x] := by unfold icells; rw [List.map_append]; rfl
    rw [this]; simpa using hown
end

def ElimAns (v : Int) (l : List (List Int)) (e : Ending) (w' : World) : Prop :=
  ((checkF v l).1 ≠ 0 ∧ ∃ er, e = .returned (.tuple #[.slice none 0 0, .bool false, er]) ∧ ErrIs w' er (checkF v l).1 (checkF v l).2) ∨
  ((checkF v l).1 = 0 ∧ elimK (firstL l) v.toNat = none ∧ e = .returned (.tuple #[.slice none 0 0, .bool false, .iface 27 (.int .i64 4)])) ∨
  ((checkF v l).1 = 0 ∧ ∃ s m, elimK (firstL l) v.toNat = some (s, m) ∧ ∃ a c, e = .returned (.tuple #[.slice a s.length c, .bool (decide (m = [])), .nilIface]) ∧ IntsIn w' a s ∧ s.length ≤ c ∧ c ≤ 9223372036854775807)

set_option maxRecDepth 100000 in
set_option maxHeartbeats 4000000 in
theorem elim_any (v : Int) (l : List (List Int)) (a1 : Option Addr) (c1 : Nat) (w : World) (hI : ClsIn w a1 l) (hm : l.length ≤ 9223372036854775807) :
    Calls Tryd.prog 24 #[.int .i64 v, .slice a1 l.length c1] w fun e w' => ElimAns v l e w' ∧ Below w.heap.size w w' := by
  have HCH := Lib.hid (check_any v l a1 c1 w hI hm)
  have HI := Lib.hid hI
  obtain ⟨i0, hin, hz0, hz1, hz2⟩ := info_parts infoInt
  clear hI
  go_enter Tryd.func24, Tryd.ntmps24
  go_wp2_with fail
  refine HCH.out.mono ?_
  rintro e w1 ⟨er, rfl, her, hb1⟩
  have HB1 := Lib.hid hb1
  clear hb1 HCH
  by_cases hz : (checkF v l).1 = 0
  · obtain ⟨hv0, hv1, hl200, -, -, -⟩ := check_fine hz
    obtain rfl : er = .nilIface := by
      rcases her with h | h | ⟨h, _⟩
      · exact h.2.2
      · exact absurd hz h.1
      · exact absurd hz h
    have HZ := Lib.hid hz
    clear her hz
    obtain ⟨n, rfl⟩ : ∃ n : Nat, v = (n : Int) := ⟨v.toNat, by omega⟩
    obtain ⟨pb, hpb⟩ : ∃ pb, pb = w1.heap.size := ⟨_, rfl⟩
    have hwp : w.heap.size ≤ pb := by rw [hpb]; exact HB1.out.size
    have HST : Hid (EW w (w1.alloc (.cells #[.slice none 0 0, .map none] 93)) pb [] (addsF [] ((l.take 0).map sidesF)) (.slice none 0 0) (.slice none 0 0) (.map none)) := by
      rw [hpb]
      exact ⟨(PileM.start w1).down HB1.out.size, World.ownsRow_nil _ _ _ _, HB1.out.alloc HB1.out.size _⟩
    go_wp2_with fail
    rw [← hpb]
    clear hpb
    go_loopw [20] (fun iV wr => ∃ (i : Nat) (lV mV : Value), i ≤ l.length ∧ iV = .int .i64 (i : Int) ∧ EW w wr pb [] (addsF [] ((l.take i).map sidesF)) (.slice none 0 0) lV mV) (fun iV _ => l.length - (intOf iV).toNat)
    case atStart => exact ⟨0, _, _, Nat.zero_le _, rfl, HST.out⟩
    case round =>
      obtain ⟨i, lV, mV, hi, rfl, hew⟩ := hrel
      obtain ⟨wo, rfl⟩ : ∃ wo, wo = wr := ⟨_, rfl⟩
      have HEW := Lib.hid hew
      have hlen : (addsF [] ((l.take i).map sidesF)).length ≤ 2000 := by
        have := adds_le [] ((l.take i).map sidesF)
        rw [List.length_map, List.length_take] at this
        rw [List.length_nil] at this
        omega
      clear hew HST
      by_cases hlt : i < l.length
      · obtain ⟨ad, a, cap, rfl, hb0, hc0, hc1, hc2, hia⟩ := HI.out.below HEW.out.below i hlt
        have HSO := Lib.hid (sidesOf_any (l.getD i []) a cap wo hia (by omega))
        have HSS : Hid (addsF [] ((l.take (i + 1)).map sidesF) = addF (addsF [] ((l.take i).map sidesF)) (sidesF (l.getD i []))) := by
          show _ = _
          rw [List.take_add_one, List.getElem?_eq_getElem hlt, List.getD_eq_getElem?_getD, List.getElem?_eq_getElem hlt, List.map_append, adds_append]
          rfl
        have hsm := sides_small (l.getD i [])
        have HSM := Lib.hid hsm
        generalize (l.getD i []) = c at *
        generalize addsF [] ((l.take i).map sidesF) = ls at *
        clear hia hsm
        go_wp2_with fail
        refine HSO.out.mono ?_
        rintro e w2 ⟨rfl, hb2⟩
        have HE2 := Lib.hid (HEW.out.new hb2)
        have HAD := Lib.hid (add_any w.heap.size pb ls (sidesF c) HSM.out (by omega) hwp lV mV w2 HE2.out.below.size HE2.out.pile)
        clear hb2 HSO HEW
        generalize sidesF c = sc at *
        go_wp2_with fail
        refine HAD.out.mono ?_
        rintro e w3 ⟨rfl, ⟨lV', mV', hp3, -⟩, hb3, -⟩
        have HE3 : Hid (EW w w3 pb [] (addF ls sc) (.slice none 0 0) lV' mV') := ⟨hp3, World.ownsRow_nil _ _ _ _, HE2.out.below.trans hb3⟩
        clear hp3 hb3 HAD
        go_wp2
        go_roundw
        case rel => exact ⟨i + 1, lV', mV', hlt, by go_num, by rw [HSS.out]; exact HE3.out⟩
        case measure => simp [intOf]; omega
      · obtain rfl : i = l.length := by omega
        have HFL : Hid (addsF [] ((l.take l.length).map sidesF) = firstL l) := by show _ = _; rw [List.take_length]; rfl
        rw [HFL.out] at HEW hlen
        have HFEW := Lib.hid hlen
        clear HFL hlen
        go_wp2_with fail
        go_loopw [4, 29] (fun sV kV wr => ∃ (k : Nat) (s : List Int) (m : List (Nat × Nat)) (lV mV : Value), k ≤ n ∧ kV = .int .i64 (k : Int) ∧ elimK (firstL l) k = some (s, m) ∧ EW w wr pb s m sV lV mV) (fun _ kV _ => n - (intOf kV).toNat)
        case atStart => exact ⟨0, [], firstL l, lV, mV, Nat.zero_le _, rfl, rfl, HEW.out⟩
        case round =>
          obtain ⟨k, s, m, lV2, mV2, hk, rfl, hel, hew⟩ := hrel
          obtain ⟨wo2, rfl⟩ : ∃ wo, wo = wr := ⟨_, rfl⟩
          have hsl : s.length ≤ n := by rw [elimK_len hel]; exact hk
          have hml := elimK_few HFEW.out hel
          have HEL := Lib.hid hel
          have HE := Lib.hid hew
          obtain ⟨sa, sc, rfl, hsc, hsc2⟩ := row_form hew.row
          have hws := hew.below.size
          clear hel hew HEW
          by_cases hlt : k < n
          · have HWI := Lib.hid (without_any w.heap.size pb m hml k (by omega) lV2 mV2 wo2 HE.out.pile)
            have HNX := Lib.hid (elimK_next HEL.out)
            have HSP := Lib.hid (fun hf => elimK_stop HEL.out hf hlt)
            generalize withoutF m k = m2 at *
            go_wp2_with fail
            refine HWI.out.mono ?_
            rintro e w2 ⟨⟨loV, moV, rfl, hr2, hm2, hs2⟩, hb2⟩
            have HE2 := Lib.hid (HE.out.put hwp hb2 hr2 hm2 hs2)
            have HE1 := Lib.hid (HE.out.new hb2)
            obtain ⟨ra, rc, rfl, -, -⟩ := srow_form hr2
            obtain ⟨mo, rfl⟩ : ∃ m, moV = .map m := by rcases hm2 with ⟨-, e⟩ | ⟨bm, e, -⟩ <;> exact ⟨_, e⟩
            have hb3 := HE1.out.pile.blk
            have p0 := (hb3.cell 0).trans (show _ = some lV2 from rfl)
            have g0 := hb3.frozen 0
            have h1 := hb3.set (i := 0) (v := .slice ra m2.length rc)
            have p1 := (h1.cell 1).trans (show _ = some mV2 from rfl)
            have g1 := h1.frozen 1
            clear hr2 hm2 hs2 hb2 HWI hb3 h1
            generalize hX : (w2.setCell ⟨pb, 0, none⟩ (.slice ra m2.length rc)).setCell ⟨pb, 1, none⟩ (.map mo) = X at *
            have HTM := Lib.hid (tooMuch_any w.heap.size pb m2 _ _ X HE2.out.pile)
            by_cases htm : 2000 < m2.length
            · rw [decide_eq_true htm] at HTM
              have HNO := Lib.hid (HSP.out htm)
              have HBX := Lib.hid HE2.out.below
              have HXX := Lib.hid hX
              clear hX HSP HNX
              go_wp2_with fail
              rw [HXX.out]
              refine HTM.out.mono ?_
              rintro e w3 ⟨rfl, rfl⟩
              clear HTM HXX p0 g0 p1 g1
              go_wp2
              go_ret3
              exact ⟨Or.inr (Or.inl ⟨HZ.out, HNO.out, rfl⟩), HBX.out⟩
            · rw [decide_eq_false htm] at HTM
              have HNE := Lib.hid (HNX.out htm)
              have HXX := Lib.hid hX
              have HROW : Hid (X.ownsRow w.heap.size 3 1 (.slice sa s.length sc) s.length (icells s)) := HE2.out.row
              have hxs := HE2.out.below.size
              clear hX HSP HNX HE1
              go_wp2_with fail
              rw [HXX.out]
              refine HTM.out.mono ?_
              rintro e w3 ⟨rfl, rfl⟩
              have q0 := (HE2.out.pile.blk.cell 0).trans (show _ = some (.slice ra m2.length rc) from rfl)
              clear HTM HXX p0 g0 p1 g1
              go_wp2_with (first | (at_builtin; refine wpList_append_own_at _ rfl _ _ 22 rfl w.heap.size 3 i0 (.int .i64 0) 1 8 Tryd.underlying22 hin hz0 hz1 hz2 rfl (by decide) _ _ _ rfl (HROW.out.alloc _) ⟨X.heap.size, 0, none⟩ 1 1 [.int .i64 (m2.length : Int)] rfl rfl ?c1 ?c2 ?c3 ?c4 ?c5 ?_))
              case c1 => exact cell_lit _ _ _
              case c2 => exact one_lit _
              case c3 => unfold maxLen; omega
              case c4 => omega
              case c5 => simp; omega
              intro v7 w7 hown7 hgrow7 _ _
              have HE3 := Lib.hid ((HE2.out.new (below_new _ _)).app hown7 hgrow7)
              clear hown7 hgrow7 q0
              go_wp2
              go_roundw
              case rel => exact ⟨k + 1, _, _, _, _, hlt, by go_num, HNE.out, HE3.out⟩
              case measure => simp [intOf]; omega
          · obtain rfl : k = n := by omega
            have hp := HE.out.pile
            obtain ⟨ra, rc, rfl, -, -⟩ := srow_form hp.row
            have q0 := (hp.blk.cell 0).trans (show _ = some (.slice ra m.length rc) from rfl)
            have HRR : Hid (∀ q, IntsIn (wo2.drewN q) sa s) := fun q => ints_row (row_new' HE.out.row ⟨rfl, rfl, rfl, Nat.le_refl _, fun _ _ => rfl⟩)
            have HBB : Hid (∀ q, Below w.heap.size w (wo2.drewN q)) := fun q => HE.out.below.trans ⟨rfl, rfl, rfl, Nat.le_refl _, fun _ _ => rfl⟩
            have HDD : Hid (((m.length : Int) == 0) = decide (m = [])) := by
              show _ = _
              cases m with
              | nil => rfl
              | cons x m =>
                rw [show decide (x :: m = []) = false from by simp, beq_eq_false_iff_ne]
                simp; omega
            clear hp
            go_wp2_with fail
            go_quiet (fail)
            go_wp2
            go_ret3
            exact ⟨Or.inr (Or.inr ⟨HZ.out, s, m, HEL.out, sa, sc, by rw [← HDD.out]; rfl, HRR.out _, hsc, hsc2⟩), HBB.out _⟩
  · obtain ⟨tt, uu, rfl⟩ : ∃ t u, er = .iface t u := by
      rcases her with h | h | ⟨_, b, _, h, _⟩
      · exact absurd h.1 hz
      · exact ⟨_, _, h.2.2⟩
      · exact ⟨_, _, h⟩
    have HER := Lib.hid her
    clear her
    go_wp2
    go_ret3
    exact ⟨Or.inl ⟨hz, _, rfl, HER.out⟩, HB1.out⟩
end Go.Proofs.YtcmmoinkhodjfaaDoor
