/- The walk of ProofFollows. -/
import Derived.Test.YtcmmoinkhodjfaaDoorPfFolL
import Derived.Deep.RegionHeldLaw
namespace Go.Proofs.YtcmmoinkhodjfaaDoor
open Go.RowKit Go.Deep

theorem folR_nil {l : List (List Int)} {st : List Stp} {m p : Int} {o : List (List Int)} (h : FolR l st m p o) (hm : m ≠ 0) : o = [] := by
  cases h with
  | bad hk h h0 => rfl
  | good h => exact absurd rfl hm
theorem rfol_form {l : List (List Int)} {st : List Stp} {e : Ending} {w : World} (h : RFolAns l st e w) : ∃ m p o ra rc, e = .returned (.tuple #[.slice ra (o : List (List Int)).length rc, .agg #[.int .i64 m, .int .i64 p]]) ∧ KB 0 w (.slice ra o.length rc) o ∧ ((1000 < st.length ∧ m = 4 ∧ p = -1 ∧ o = []) ∨ (st.length ≤ 1000 ∧ FolR l st m p o)) := by
  rcases h with ⟨h1, he⟩ | ⟨h1, m, p, o, hf, a, c, he, hc⟩
  · exact ⟨4, -1, [], none, 0, he, KB.nil _ _, Or.inl ⟨h1, rfl, rfl, rfl⟩⟩
  · exact ⟨m, p, o, a, c, he, hc, Or.inr ⟨h1, hf⟩⟩
theorem fol_form {v : Int} {l : List (List Int)} {st : List Stp} {e : Ending} {w : World} (h : FolAns v l st e w) (hz : (checkF v l).1 = 0) {m p : Int} {o : List (List Int)} (hr : (1000 < st.length ∧ m = 4 ∧ p = -1 ∧ o = []) ∨ (st.length ≤ 1000 ∧ FolR l st m p o)) : ∃ oa oc er, e = .returned (.tuple #[.slice oa o.length oc, er]) ∧ ErrIs w er m p ∧ ClsIn w oa o := by
  rcases h with ⟨h, _⟩ | ⟨_, h1, he⟩ | ⟨_, h1, m', p', o', hf, h⟩
  · exact absurd hz h
  · rcases hr with ⟨_, rfl, rfl, rfl⟩ | ⟨h2, _⟩
    · exact ⟨none, 0, _, he, Or.inr (Or.inl ⟨by decide, rfl, rfl⟩), (fun i hi => by simp at hi)⟩
    · omega
  · rcases hr with ⟨h2, _⟩ | ⟨_, hf2⟩
    · omega
    · obtain ⟨rfl, rfl, rfl⟩ := hf.det hf2
      rcases h with ⟨hm, er, he, her⟩ | ⟨rfl, rfl, a, c, he, hc, -⟩
      · obtain rfl := folR_nil hf hm
        exact ⟨none, 0, er, he, her, (fun i hi => by simp at hi)⟩
      · exact ⟨a, c, _, he, Or.inl ⟨rfl, rfl, rfl⟩, hc⟩
theorem folR_few {l : List (List Int)} {st : List Stp} {m p : Int} {o : List (List Int)} (h : FolR l st m p o) : o.length ≤ st.length := by
  cases h with
  | bad hk h h0 => exact Nat.zero_le _
  | good h =>
    have := (folK_len h).1
    rw [List.length_append] at this
    omega
theorem stp_one (s : Stp) : ∀ u ∈ [Value.int .i64 s.a, .int .i64 s.b, .int .i64 s.v], u.oneCell' = true := fun u hu => by
  simp only [List.mem_cons, List.not_mem_nil, or_false] at hu
  rcases hu with rfl | rfl | rfl <;> rfl
theorem stp_lit (W : World) (s : Stp) : ∀ (j : Nat) (u : Value), [Value.int .i64 s.a, .int .i64 s.b, .int .i64 s.v][j]? = some u → (W.alloc (.cells #[.int .i64 s.a, .int .i64 s.b, .int .i64 s.v] 46)).cell? ((⟨W.heap.size, 0, none⟩ : Addr).add j) = some u := World.news_of_block (heap_alloc_new W _)

set_option maxRecDepth 100000 in
set_option maxHeartbeats 4000000 in
theorem pfollows_any (v : Int) (l : List (List Int)) (st : List Stp) (a1 a2 : Option Addr) (c1 c2 : Nat) (hn : a1 = none → c1 = 0) (w : World) (hI : ClsIn w a1 l) (hm : l.length ≤ 9223372036854775807) (hI2 : StpsIn w a2 st) (hm2 : st.length ≤ 9223372036854775807) (hg : Glob w) (hF : Fine w) :
    Calls Tryd.prog 4 #[.int .i64 v, .slice a1 l.length c1, .slice a2 st.length c2] w fun e w' => e = .returned (.bool true) ∧ Below w.heap.size w w' := by
  have HI := Lib.hid hI
  have HI2 := Lib.hid hI2
  have HG := Lib.hid hg
  have HF := Lib.hid hF
  have HFW := Lib.hid (few_any v 200 l a1 c1 w hI hm)
  have HRC := Lib.hid (rcheck_any v l a1 c1 w hI hm hF)
  have HFO : Hid (∀ W, Below w.heap.size w W → Calls Tryd.prog 17 #[.int .i64 v, .slice a1 l.length c1, .slice a2 st.length c2] W fun e w' => FolAns v l st e w' ∧ Below W.heap.size W w') := fun W hW => follow_any v l st a1 a2 c1 c2 hn W (hI.below hW) hm (hI2.below hW) hm2 (hg.below hW)
  obtain ⟨it, hit, ht0, ht1, ht2⟩ := info_parts infoT
  clear hI hI2 hg hF hn
  go_enter Tryd.func4, Tryd.ntmps4
  go_wp2_with fail
  refine HFW.out.mono ?_
  rintro e w1 ⟨⟨B, rfl⟩, rfl⟩
  clear HFW
  cases B with
  | false =>
    go_wp2
    go_ret
    exact ⟨rfl, Below.refl _ _⟩
  | true =>
    by_cases h60 : 60 < st.length ∧ st.length ≤ 1000
    · obtain ⟨h60, h61⟩ := h60
      go_wp2
      go_ret
      exact ⟨rfl, Below.refl _ _⟩
    by_cases h11 : 1100 < st.length
    · go_wp2
      go_ret
      exact ⟨rfl, Below.refl _ _⟩
    have hcase : st.length ≤ 60 ∨ 1000 < st.length := by omega
    clear h60
    rcases hcase with hcase | hcase
    all_goals
      go_wp2_with fail
      refine HRC.out.mono ?_
      rintro e w1 ⟨rfl, hb1⟩
      have HB1 := Lib.hid hb1
      have hws1 := hb1.size
      clear hb1 HRC
      by_cases hz : (checkF v l).1 = 0
      · obtain ⟨hv0, hv1, hl200, hls, hck, h48⟩ := check_fine hz
        have hbn := below_new w1 (.cells #[.int .i64 0, .int .i64 (-1)] 41)
        obtain ⟨bf, hbf⟩ : ∃ bf, bf = w1.heap.size := ⟨_, rfl⟩
        have HST : Hid (TW w (w1.alloc (.cells #[.int .i64 0, .int .i64 (-1)] 41)) bf (st.take 0) (.slice none 0 0)) := by
          rw [hbf]
          exact ⟨Blk.new w1 41 #[.int .i64 0, .int .i64 (-1)], World.ownsRow_nil _ _ _ _, HB1.out.trans (hbn.mono HB1.out.size)⟩
        rw [hck]
        have hwf : w.heap.size ≤ bf := by rw [hbf]; exact hws1
        have HZ := Lib.hid hz
        have H48 := Lib.hid h48
        clear hbn HB1 hls h48 hck hz
        go_wp2_with fail
        rw [← hbf]
        clear hbf
        go_loopw [9, 10] (fun tV kV wr => ∃ (k : Nat), k ≤ st.length ∧ kV = .int .i64 (k : Int) ∧ TW w wr bf (st.take k) tV) (fun _ kV _ => st.length - (intOf kV).toNat)
        case atStart => exact ⟨0, Nat.zero_le _, rfl, HST.out⟩
        case round =>
          obtain ⟨k, hk, rfl, htw⟩ := hrel
          obtain ⟨wo, rfl⟩ : ∃ wo, wo = wr := ⟨_, rfl⟩
          obtain ⟨ts, hts⟩ : ∃ ts, st.take k = ts := ⟨_, rfl⟩
          rw [hts] at htw
          obtain ⟨ta, tc, rfl, -, -⟩ := trow_form htw.row
          have HTW := Lib.hid htw
          have hwo := htw.below.size
          have htl : ts.length ≤ 1100 := by rw [← hts, List.length_take]; omega
          clear htw HST
          by_cases hlt : k < st.length
          · obtain ⟨ad, rfl, hst⟩ := HI2.out k hlt
            have HTS : Hid (st.take (k + 1) = ts ++ [st.getD k ⟨0, 0, 0⟩]) := by show _ = _; rw [stp_take hlt, hts]
            generalize (st.getD k ⟨0, 0, 0⟩) = s at *
            obtain ⟨sa, sb, sv⟩ := s
            have HX : Hid (∀ X, Below w.heap.size w X → X.cell? (ad.add (k * 3)) = some (.int .i64 sa) ∧ X.cell? ⟨(ad.add (k * 3)).block, (ad.add (k * 3)).off + 1, none⟩ = some (.int .i64 sb) ∧ X.cell? ⟨(ad.add (k * 3)).block, (ad.add (k * 3)).off + 2, none⟩ = some (.int .i64 sv)) := fun X hX => ⟨(hst.below hX).c0, (hst.below hX).c1, (hst.below hX).c2⟩
            have HTA : Hid (TW w (wo.drew.alloc (.cells #[.int .i64 sa, .int .i64 sb, .int .i64 sv] 46)) bf ts (.slice ta ts.length tc)) := (HTW.out.new (Below.refl _ _).drew).new (below_new wo.drew _)
            have HDR := Lib.hid (HTW.out.below.trans ((Below.refl w.heap.size wo).drew))
            have S0 := HX.out _ HDR.out
            have SA := HX.out _ HTA.out.below
            have HLI : Hid (∀ (j : Nat) (u : Value), [Value.int .i64 sa, .int .i64 sb, .int .i64 sv][j]? = some u → (wo.drew.alloc (.cells #[.int .i64 sa, .int .i64 sb, .int .i64 sv] 46)).cell? ((⟨wo.heap.size, 0, none⟩ : Addr).add j) = some u) := stp_lit wo.drew ⟨sa, sb, sv⟩
            have HON : Hid (∀ u ∈ [Value.int .i64 sa, .int .i64 sb, .int .i64 sv], u.oneCell' = true) := stp_one ⟨sa, sb, sv⟩
            have hq1 : ts.length + 1 ≤ maxLen := by unfold maxLen; omega
            have hq2 : (ts.length + 1) * 24 ≤ 140737488355328 := by omega
            have HQ1 := Lib.hid hq1
            have HQ2 := Lib.hid hq2
            clear hst hts hq1 hq2
            have hkk : (k : Int) < (st.length : Int) := by omega
            go_wp2_with fail
            go_region_held_law (fun X => X.cell? (ad.add (k * 3)) = some (.int .i64 sa) ∧ X.cell? ⟨(ad.add (k * 3)).block, (ad.add (k * 3)).off + 1, none⟩ = some (.int .i64 sb) ∧ X.cell? ⟨(ad.add (k * 3)).block, (ad.add (k * 3)).off + 2, none⟩ = some (.int .i64 sv)) (first | exact S0 | exact SA | exact S1)
              (first
                | (refine step_app_own rfl _ _ 43 rfl w.heap.size 46 it (.agg #[.int .i64 0, .int .i64 0, .int .i64 0]) 3 24 Tryd.underlying43 hit ht0 ht1 ht2 rfl (by decide) (.slice ta ts.length tc) ts.length (tcells ts) (by simp [Act.eval]) HTA.out.row ⟨wo.heap.size, 0, none⟩ 1 1 [.int .i64 sa, .int .i64 sb, .int .i64 sv] (by simp [Act.eval]) rfl HLI.out HON.out HQ1.out HTA.out.below.size HQ2.out ?_; intro v7 w7 hown7 hgrow7; have TW7 := HTA.out.app (s := ⟨sa, sb, sv⟩) hown7 hgrow7; have S1 := HX.out _ TW7.below; obtain ⟨va, vc, rfl, _, _⟩ := trow_form hown7))
            all_goals
              have HT7 := Lib.hid TW7
              clear TW7 S0 SA S1 hown7 hgrow7
              go_wp2
              go_roundw
            case rel => exact ⟨k + 1, hlt, by go_num, by rw [HTS.out]; exact HT7.out⟩
            case measure => simp [intOf]; omega
          · obtain rfl : k = st.length := by omega
            obtain rfl : ts = st := by rw [← hts, List.take_length]
            have HRF := Lib.hid (rfollow_any l ts hl200 H48.out a1 ta c1 tc wo (HI.out.below HTW.out.below) (trow_in HTW.out.row) hm2 (HF.out.below HTW.out.below))
            clear hts
            go_wp2_with fail
            refine HRF.out.mono ?_
            rintro e w3 ⟨hR, hb3⟩
            obtain ⟨m, p, o, ra, rc, rfl, hcr, hdis⟩ := rfol_form hR
            have htw3 := HTW.out.new hb3
            have hol : o.length ≤ 1100 := by
              rcases hdis with ⟨_, _, _, rfl⟩ | ⟨_, hf⟩
              · simp
              · have := folR_few hf; omega
            have hk1 := htw3.box
            have k0 := (hk1.cell 0).trans (show _ = some (Value.int .i64 0) from rfl)
            have f0 := hk1.frozen 0
            have hk2 := hk1.set (i := 0) (v := .int .i64 m)
            have k1 := (hk2.cell 1).trans (show _ = some (Value.int .i64 (-1)) from rfl)
            have f1 := hk2.frozen 1
            have hk3 := hk2.set (i := 1) (v := .int .i64 p)
            have HK3 : Hid (Blk ((w3.setCell ⟨bf, 0, none⟩ (.int .i64 m)).setCell ⟨bf, 1, none⟩ (.int .i64 p)) bf 41 #[.int .i64 m, .int .i64 p]) := hk3
            have HBX : Hid (Below w.heap.size w ((w3.setCell ⟨bf, 0, none⟩ (.int .i64 m)).setCell ⟨bf, 1, none⟩ (.int .i64 p))) := (htw3.below.setCell hwf _).setCell hwf _
            have HCR : Hid (ClsIn ((w3.setCell ⟨bf, 0, none⟩ (.int .i64 m)).setCell ⟨bf, 1, none⟩ (.int .i64 p)) ra o) := ((hcr.put htw3.box (by decide) (by decide)).put hk2 (by decide) (by decide)).cls
            have HFF := Lib.hid (HFO.out _ HBX.out)
            have HDS := Lib.hid hdis
            clear hR hb3 hcr hdis htw3 hk1 hk2 hk3 HRF HTW
            go_wp2_with fail
            generalize (w3.setCell ⟨bf, 0, none⟩ (.int .i64 m)).setCell ⟨bf, 1, none⟩ (.int .i64 p) = W6 at *
            clear k0 f0 k1 f1
            refine HFF.out.mono ?_
            rintro e w7 ⟨hR, hb7⟩
            obtain ⟨oa, oc, er, rfl, her, hco⟩ := fol_form hR HZ.out HDS.out
            have hK7 := HK3.out.below hb7 HK3.out.lt
            have k0 := (hK7.cell 0).trans (show _ = some (Value.int .i64 m) from rfl)
            have k1 := (hK7.cell 1).trans (show _ = some (Value.int .i64 p) from rfl)
            have hB7 : Below w.heap.size w w7 := HBX.out.trans (hb7.mono HBX.out.size)
            have HAT := at_any m m p p er w7 (HG.out.below hB7) her
            rw [beq_self_eq_true, beq_self_eq_true, Bool.and_self] at HAT
            have HATT := Lib.hid HAT
            have HB7 := Lib.hid hB7
            have HC7 := Lib.hid hco
            have HR7 := Lib.hid (HCR.out.below hb7)
            clear hR hb7 HFF HAT hB7 hK7 HK3 HBX her hco HCR HDS
            go_wp2_with fail
            refine HATT.out.mono ?_
            rintro e w8 ⟨rfl, hb8⟩
            have HB8 : Hid (Below w.heap.size w w8) := HB7.out.trans (hb8.mono HB7.out.size)
            have HSM := Lib.hid (same_cls o oa ra oc rc w8 (HC7.out.below hb8) (HR7.out.below hb8) (by omega))
            clear hb8 HATT HB7 HC7 HR7
            go_wp2_with fail
            refine HSM.out.mono ?_
            rintro e w9 ⟨rfl, hb9⟩
            have HB9 : Hid (Below w.heap.size w w9) := HB8.out.trans (hb9.mono HB8.out.size)
            clear hb9 HSM HB8
            go_wp2
            go_ret
            exact ⟨by first | rfl | simp, HB9.out⟩
      · have hzz : ((checkF v l).1 == 0) = false := by simpa using hz
        have hbn := below_new w1 (.cells #[.int .i64 (checkF v l).1, .int .i64 (checkF v l).2] 41)
        have HK := Lib.hid (Blk.new w1 41 #[.int .i64 (checkF v l).1, .int .i64 (checkF v l).2])
        have HB2 : Hid (Below w.heap.size w (w1.alloc (.cells #[.int .i64 (checkF v l).1, .int .i64 (checkF v l).2] 41))) := HB1.out.trans (hbn.mono HB1.out.size)
        have HFF := HFO.out _ HB2.out
        have HZ := Lib.hid hz
        have HFR : Hid (∀ e w', FolAns v l st e w' → ∃ er, e = .returned (.tuple #[.slice none 0 0, er]) ∧ ErrIs w' er (checkF v l).1 (checkF v l).2) := fun e w' h => by
          rcases h with ⟨_, h⟩ | ⟨h, _⟩ | ⟨h, _⟩
          · exact h
          · exact absurd h HZ.out
          · exact absurd h HZ.out
        have HFG := Lib.hid HFF
        generalize (checkF v l).1 = m1 at *
        generalize (checkF v l).2 = m2 at *
        clear hbn HB1 hz HFF HZ
        go_wp2_with fail
        generalize w1.alloc (.cells #[.int .i64 m1, .int .i64 m2] 41) = W2 at *
        refine HFG.out.mono ?_
        rintro e w7 ⟨hR, hb7⟩
        obtain ⟨er, rfl, her⟩ := HFR.out e w7 hR
        have hK7 := HK.out.below hb7 HK.out.lt
        have k0 := hK7.cell 0
        have k1 := hK7.cell 1
        have hB7 : Below w.heap.size w w7 := HB2.out.trans (hb7.mono HB2.out.size)
        have HAT := at_any m1 m1 m2 m2 er w7 (HG.out.below hB7) her
        rw [beq_self_eq_true, beq_self_eq_true, Bool.and_self] at HAT
        have HATT := Lib.hid HAT
        have HB7 := Lib.hid hB7
        clear hR hb7 HFG HAT hB7 hK7 HK HB2 her HFR
        go_wp2_with fail
        refine HATT.out.mono ?_
        rintro e w8 ⟨rfl, hb8⟩
        have HB8 : Hid (Below w.heap.size w w8) := HB7.out.trans (hb8.mono HB7.out.size)
        have HSM := Lib.hid (same_cls [] none none 0 0 w8 (fun i hi => by simp at hi) (fun i hi => by simp at hi) (by simp))
        have HL0 : Hid (([] : List (List Int)).length = 0) := rfl
        rw [HL0.out] at HSM
        clear hb8 HATT HB7
        go_wp2_with fail
        refine HSM.out.mono ?_
        rintro e w9 ⟨rfl, hb9⟩
        have HB9 : Hid (Below w.heap.size w w9) := HB8.out.trans (hb9.mono HB8.out.size)
        clear hb9 HSM HB8
        go_wp2
        go_ret
        exact ⟨by first | rfl | simp, HB9.out⟩
end Go.Proofs.YtcmmoinkhodjfaaDoor
