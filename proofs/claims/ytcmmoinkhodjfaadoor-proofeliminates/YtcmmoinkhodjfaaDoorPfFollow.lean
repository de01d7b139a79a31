/- Follow. -/
import Derived.Test.YtcmmoinkhodjfaaDoorPfOf
import Derived.Test.YtcmmoinkhodjfaaDoorPfKB
import Derived.Test.YtcmmoinkhodjfaaDoorErTell
namespace Go.Proofs.YtcmmoinkhodjfaaDoor
open Go.RowKit Go.Deep

def FolAns (v : Int) (l : List (List Int)) (st : List Stp) (e : Ending) (w' : World) : Prop :=
  ((checkF v l).1 ≠ 0 ∧ ∃ er, e = .returned (.tuple #[.slice none 0 0, er]) ∧ ErrIs w' er (checkF v l).1 (checkF v l).2) ∨
  ((checkF v l).1 = 0 ∧ 1000 < st.length ∧ e = .returned (.tuple #[.slice none 0 0, .iface 27 (.int .i64 4)])) ∨
  ((checkF v l).1 = 0 ∧ st.length ≤ 1000 ∧ ∃ m p o, FolR l st m p o ∧ ((m ≠ 0 ∧ ∃ er, e = .returned (.tuple #[.slice none 0 0, er]) ∧ ErrIs w' er m p) ∨ (m = 0 ∧ p = -1 ∧ ∃ a c, e = .returned (.tuple #[.slice a o.length c, .nilIface]) ∧ ClsIn w' a o ∧ folK l st st.length = some (l ++ o))))

structure FoI (l : List (List Int)) (st : List Stp) (w wr : World) (i : Nat) (kV : Value) (K : List (List Int)) : Prop where
  kb : KB w.heap.size wr kV K
  fol : folK l st i = some K
  below : Below w.heap.size w wr
theorem FoI.new {l : List (List Int)} {st : List Stp} {w wr w' : World} {i : Nat} {kV : Value} {K : List (List Int)} (h : FoI l st w wr i kV K) (hb : Below wr.heap.size wr w') : FoI l st w w' i kV K :=
  ⟨h.kb.new hb, h.fol, h.below.trans (hb.mono h.below.size)⟩
theorem row_ints {B : Nat} {w : World} {a : Option Addr} {c : Nat} {l : List Int} (h : w.ownsRow B 3 1 (.slice a l.length c) l.length (icells l)) : IntsK 0 w a l := fun i hi => by
  obtain ⟨ad, e, q1, q2⟩ := ints_row h i hi
  rcases h.2 with ⟨e', e0⟩ | ⟨g, cap, cur, e', _, hg, _⟩
  · omega
  · injection e' with e1 e2 e3
    rw [e1] at e
    obtain rfl := Option.some.inj e
    exact ⟨_, e1, q1, Or.inr ⟨cur, _, hg⟩, q2⟩

set_option maxRecDepth 100000 in
set_option maxHeartbeats 4000000 in
theorem follow_any (v : Int) (l : List (List Int)) (st : List Stp) (a1 a2 : Option Addr) (c1 c2 : Nat) (hn : a1 = none → c1 = 0) (w : World) (hI : ClsIn w a1 l) (hm : l.length ≤ 9223372036854775807) (hI2 : StpsIn w a2 st) (hm2 : st.length ≤ 9223372036854775807) (hg : Glob w) :
    Calls Tryd.prog 17 #[.int .i64 v, .slice a1 l.length c1, .slice a2 st.length c2] w fun e w' => FolAns v l st e w' ∧ Below w.heap.size w w' := by
  have HCH := Lib.hid (check_any v l a1 c1 w hI hm)
  have HI := Lib.hid hI
  have HI2 := Lib.hid hI2
  have HG := Lib.hid hg
  have HN := Lib.hid hn
  clear hI hI2 hg hn
  go_enter Tryd.func17, Tryd.ntmps17
  go_wp2_with fail
  refine HCH.out.mono ?_
  rintro e w1 ⟨er, rfl, her, hb1⟩
  have HB1 := Lib.hid hb1
  clear hb1 HCH
  by_cases hz : (checkF v l).1 = 0
  · obtain ⟨hv0, hv1, hl200, hls, -, -⟩ := check_fine hz
    obtain rfl : er = .nilIface := by
      rcases her with h | h | ⟨h, _⟩
      · exact h.2.2
      · exact absurd hz h.1
      · exact absurd hz h
    have HZ := Lib.hid hz
    clear her hz hls
    by_cases h5 : 1000 < st.length
    · go_wp2
      go_ret2
      exact ⟨Or.inr (Or.inl ⟨HZ.out, h5, rfl⟩), HB1.out⟩
    · have HL5 : Hid (st.length ≤ 1000) := by show st.length ≤ 1000; omega
      have HCL := Lib.hid (clone_any w l a1 c1 HN.out (by omega) w1 HI.out HB1.out)
      go_wp2_with fail
      refine HCL.out.mono ?_
      rintro e w2 ⟨va, vc, rfl, ⟨cs, hrow, hck⟩, hb2⟩
      have HST : Hid (FoI l st w w2 0 (.slice va l.length vc) l) := ⟨⟨⟨cs, ownsRow_base hrow HB1.out.size, hck⟩⟩, rfl, HB1.out.trans (hb2.mono HB1.out.size)⟩
      clear hrow hck hb2 HCL
      go_wp2_with fail
      go_loopw [9, 28] (fun kV iV wr => ∃ (i : Nat) (K : List (List Int)), i ≤ st.length ∧ iV = .int .i64 (i : Int) ∧ FoI l st w wr i kV K) (fun _ iV _ => st.length - (intOf iV).toNat)
      case atStart => exact ⟨0, l, Nat.zero_le _, rfl, HST.out⟩
      case round =>
        obtain ⟨i, K, hi, rfl, hfi⟩ := hrel
        obtain ⟨wo, rfl⟩ : ∃ wo, wo = wr := ⟨_, rfl⟩
        obtain ⟨ka, kc, rfl, hk1, hk2⟩ := hfi.kb.form
        have HFI := Lib.hid hfi
        have hKl := (folK_len hfi.fol).1
        have hkb : K.length ≤ 1200 := by omega
        have HKL := Lib.hid hKl
        clear hfi HST hKl
        by_cases hlt : i < st.length
        · obtain ⟨ad, rfl, hst⟩ := HI2.out.below HFI.out.below i hlt
          have k0 := hst.c0
          have k1 := hst.c1
          have k2 := hst.c2
          have hbn := below_new wo (.cells #[.int .i64 (st.getD i ⟨0, 0, 0⟩).a, .int .i64 (st.getD i ⟨0, 0, 0⟩).b, .int .i64 (st.getD i ⟨0, 0, 0⟩).v] 45)
          have HF2 := Lib.hid (HFI.out.new hbn)
          have HOF := Lib.hid (of_any (st.getD i ⟨0, 0, 0⟩) K ka kc _ HF2.out.kb.cls)
          have HSP := Lib.hid (folK_step (st := st) HFI.out.fol)
          have HBAD : Hid ((stepK K (st.getD i ⟨0, 0, 0⟩)).1 ≠ 0 → FolR l st (stepK K (st.getD i ⟨0, 0, 0⟩)).1 (i : Int) []) := fun h => .bad hlt HFI.out.fol h
          have hsl := step_len (K := K) (s := st.getD i ⟨0, 0, 0⟩)
          generalize hr : stepK K (st.getD i ⟨0, 0, 0⟩) = r at *
          generalize (st.getD i ⟨0, 0, 0⟩) = s at *
          obtain ⟨r1, r2⟩ := r
          obtain ⟨sa, sb, sv⟩ := s
          simp only at *
          have hsz := HFI.out.below.size
          generalize hkl : K.length = kl at *
          have HKLL := Lib.hid hkl
          clear hr hbn hst HFI hkl
          go_wp2_with fail
          refine HOF.out.mono ?_
          rintro e w3 ⟨⟨ra, rc, rfl, hrow⟩, hb3⟩
          have HF3 := Lib.hid (HF2.out.new hb3)
          obtain ⟨ra2, rc2, hre, hr1, hr2⟩ := row_form hrow
          injection hre with e1 e2 e3
          subst e1 e3
          have HIK := Lib.hid ((row_ints hrow).more (B := w.heap.size))
          clear hb3 HOF HF2 hrow
          simp only at *
          by_cases h0 : r1 = 0
          · subst h0
            have he : errN 0 = .nilIface := rfl
            rw [he]
            have HFS := Lib.hid (HSP.out rfl)
            obtain ⟨cs, hcs, hck⟩ := HF3.out.kb.row
            rw [HKLL.out] at hcs
            obtain ⟨ic, hic, hc0, hc1, hc2⟩ := info_parts infoCls
            have HCS := Lib.hid hcs
            have HCK := Lib.hid hck
            have hws3 := HF3.out.below.size
            clear hcs hck HSP HBAD he
            go_wp2_with (first | (at_builtin; refine wpList_append_own_at _ rfl _ _ 37 rfl w.heap.size 23 ic (.slice none 0 0) 1 24 Tryd.underlying37 hic hc0 hc1 hc2 rfl (by decide) _ _ _ rfl (HCS.out.alloc _) ⟨w3.heap.size, 0, none⟩ 1 1 [.slice ra r2.length rc] rfl rfl ?c1 ?c2 ?c3 ?c4 ?c5 ?_))
            all_goals try exact kclit _ _ _
            case c2 => first | rfl | exact kcone _ _ _
            case c3 => unfold maxLen; omega
            case c4 => omega
            case c5 => first | omega | (simp; omega)
            intro v7 w7 hown7 hgrow7 _ _
            obtain ⟨hkb7, hb7⟩ := KB.app (ks := K) _ hws3 (by rw [HKLL.out]; exact HCS.out) HCK.out (by rw [HKLL.out]; exact hown7) hgrow7 hr1 hr2 HIK.out
            have HX : Hid (FoI l st w w7 (i + 1) v7 (K ++ [r2])) := ⟨hkb7, HFS.out, HF3.out.below.trans hb7⟩
            clear hown7 hgrow7 hkb7 hb7
            go_wp2
            go_roundw
            case rel => exact ⟨i + 1, _, hlt, by go_num, HX.out⟩
            case measure => simp [intOf]; omega
          · have he : errN r1 = .iface 27 (.int .i64 r1) := by unfold errN; rw [if_neg h0]
            rw [he]
            have HTL := Lib.hid (tell_errno r1 w3 (HG.out.below HF3.out.below))
            have HB := Lib.hid (HBAD.out h0)
            clear HSP HBAD he
            go_wp2_with fail
            refine HTL.out.mono ?_
            rintro e w4 ⟨rfl, hb4⟩
            have HF4 := Lib.hid (HF3.out.new hb4)
            have hsz4 := HF4.out.below.size
            have HBX : Hid (Below w.heap.size w (w4.alloc (.cells #[.int .i64 r1, .int .i64 (i : Int)] 81))) := HF4.out.below.alloc hsz4 _
            clear hb4 HTL
            go_wp2
            go_ret2
            refine ⟨Or.inr (Or.inr ⟨HZ.out, HL5.out, r1, (i : Int), [], HB.out, Or.inl ⟨h0, _, rfl, ?_⟩⟩), HBX.out⟩
            exact Or.inr (Or.inr ⟨h0, w4.heap.size, by simp, rfl, by simp, by simp⟩)
        · obtain rfl : i = st.length := by omega
          obtain ⟨o, hKo⟩ := (folK_len HFI.out.fol).2
          have hol : o.length = st.length := by
            have := HKL.out
            rw [hKo, List.length_append] at this
            omega
          have HGD : Hid (FolR l st 0 (-1) o) := .good (by rw [← hKo]; exact HFI.out.fol)
          have HFE : Hid (folK l st st.length = some (l ++ o)) := by show _ = _; rw [← hKo]; exact HFI.out.fol
          have hcls := HFI.out.kb.cls
          have hco : ∀ ad, ka = some ad → ClsIn wo (some (ad.add l.length)) o := fun ad e i hi => by
            subst e
            obtain ⟨ad', a', cap', e, h1, h2, h3, h4, h5⟩ := hcls (l.length + i) (by rw [hKo, List.length_append]; omega)
            obtain rfl := Option.some.inj e
            have eo : K.getD (l.length + i) [] = o.getD i [] := by rw [hKo, List.getD_eq_getElem?_getD, List.getElem?_append_right (by omega), Nat.add_sub_cancel_left, ← List.getD_eq_getElem?_getD]
            rw [eo] at h2 h3 h5
            exact ⟨_, a', cap', rfl, by rw [addr_block]; exact h1, by rw [add_add]; exact h2, h3, h4, h5⟩
          have HCO := Lib.hid hco
          have hll : l.length ≤ K.length := by rw [hKo, List.length_append]; omega
          have hnil : ka = none → kc = 0 := by
            obtain ⟨cs, q1, _⟩ := HFI.out.kb.row
            exact row_nil q1
          have hdiff : K.length - l.length = o.length := by rw [hKo, List.length_append]; omega
          clear hcls hco hKo
          generalize hkl : K.length = kl at *
          have HKLL := Lib.hid hkl
          clear hkl
          by_cases hkc : kc = l.length
          · have ho : o = [] := List.length_eq_zero_iff.1 (by omega)
            subst ho
            have HCL := Lib.hid (clone_any wo [] ka 0 (fun _ => rfl) (by simp) wo (fun i hi => by simp at hi) (Below.refl _ _))
            have hk0 : kl - l.length = 0 := by simpa using hdiff
            have HK0 := Lib.hid hk0
            clear hol hdiff hk0 hnil HCO
            have HLE : Hid (([] : List (List Int)).length = 0) := rfl
            rw [HLE.out] at HCL
            have hll2 : l.length ≤ kc := by omega
            go_wp2_with fail
            rw [HK0.out]
            refine HCL.out.mono ?_
            rintro e w5 ⟨ra, rc, rfl, ⟨cs, hrow, hck⟩, hb5⟩
            have HCI : Hid (ClsIn w5 ra []) := fun i hi => by simp at hi
            have HB5 : Hid (Below w.heap.size w w5) := HFI.out.below.trans (hb5.mono HFI.out.below.size)
            clear hrow hck hb5 HCL
            go_wp2
            go_ret2
            exact ⟨Or.inr (Or.inr ⟨HZ.out, HL5.out, 0, -1, [], HGD.out, Or.inr ⟨rfl, rfl, ra, rc, rfl, HCI.out, HFE.out⟩⟩), HB5.out⟩
          · obtain ⟨ad, rfl⟩ : ∃ ad, ka = some ad := by
              cases ka with
              | none => exfalso; have := hnil rfl; omega
              | some ad => exact ⟨ad, rfl⟩
            have HCL := Lib.hid (clone_any wo o (some (ad.add l.length)) (kc - l.length) (fun h => by cases h) (by omega) wo (HCO.out ad rfl) (Below.refl _ _))
            rw [← hdiff] at HCL
            have HDF := Lib.hid hdiff
            clear hdiff hol hnil HCO
            go_wp2_with fail
            refine HCL.out.mono ?_
            rintro e w5 ⟨ra, rc, rfl, ⟨cs, hrow, hck⟩, hb5⟩
            have HCI : Hid (ClsIn w5 ra o) := by
              have h2 := hrow
              rw [HDF.out] at h2
              exact hck.cls (ownsRow_base h2 (Nat.le_refl _))
            have HB5 : Hid (Below w.heap.size w w5) := HFI.out.below.trans (hb5.mono HFI.out.below.size)
            clear hrow hck hb5 HCL
            rw [HDF.out]
            go_wp2
            go_ret2
            exact ⟨Or.inr (Or.inr ⟨HZ.out, HL5.out, 0, -1, o, HGD.out, Or.inr ⟨rfl, rfl, ra, rc, rfl, HCI.out, HFE.out⟩⟩), HB5.out⟩
  · obtain ⟨tt, uu, rfl⟩ : ∃ t u, er = .iface t u := by
      rcases her with h | h | ⟨_, b, _, h, _⟩
      · exact absurd h.1 hz
      · exact ⟨_, _, h.2.2⟩
      · exact ⟨_, _, h⟩
    have HER := Lib.hid her
    clear her
    go_wp2
    go_ret2
    exact ⟨Or.inl ⟨hz, _, rfl, HER.out⟩, HB1.out⟩
end Go.Proofs.YtcmmoinkhodjfaaDoor
