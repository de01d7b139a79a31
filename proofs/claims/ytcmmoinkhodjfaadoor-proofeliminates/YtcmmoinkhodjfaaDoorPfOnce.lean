/- The reference's once: a clause in form, if it is not there. -/
import Derived.Test.YtcmmoinkhodjfaaDoorPfElimR
import Derived.Test.YtcmmoinkhodjfaaDoorPfTold
import Derived.Test.YtcmmoinkhodjfaaDoorPfRFol
namespace Go.Proofs.YtcmmoinkhodjfaaDoor
open Go.RowKit Go.Deep

/-- All that the cells point at lies from a block on. -/
def LowC (H : Nat) (cs : List Value) : Prop := ∀ u ∈ cs, ∀ b, u.ownBlock = some b → H ≤ b
/-- Clauses in a row of one's own, their ints in blocks of ints, from a block on. -/
def KR (H B : Nat) (w : World) (kV : Value) (K : List (List Int)) : Prop := ∃ cs, w.ownsRow B 23 1 kV K.length cs ∧ ClsK 0 w cs K ∧ LowC H cs
section
variable {H B : Nat} {w w' : World} {kV : Value} {K : List (List Int)}
theorem KR.nil (H B : Nat) (w : World) : KR H B w (.slice none 0 0) [] := ⟨[], World.ownsRow_nil _ _ _ _, ClsK.nil, fun u hu => by cases hu⟩
theorem KR.new (h : KR H B w kV K) (hb : Below w.heap.size w w') : KR H B w' kV K := by
  obtain ⟨cs, h1, h2, h3⟩ := h
  exact ⟨cs, row_new' h1 hb, h2.kp (Kp.new hb), h3⟩
theorem KR.down {H' : Nat} (h : KR H B w kV K) (hH : H' ≤ H) : KR H' B w kV K := by
  obtain ⟨cs, h1, h2, h3⟩ := h
  exact ⟨cs, h1, h2, fun u hu b hb => Nat.le_trans hH (h3 u hu b hb)⟩
theorem KR.form (h : KR H B w kV K) : ∃ a c, kV = .slice a K.length c ∧ K.length ≤ c ∧ c ≤ 9223372036854775807 := by
  obtain ⟨cs, h1, _⟩ := h
  exact row_form h1
theorem KR.cls {a : Option Addr} {cap : Nat} (h : KR H B w (.slice a K.length cap) K) : ClsIn w a K := by
  obtain ⟨cs, h1, h2, _⟩ := h
  exact (clsK_more h2).cls h1
theorem KR.lt (h : KR H B w kV K) : ∀ k, kV.ownBlock = some k → B ≤ k ∧ k < w.heap.size := by
  obtain ⟨cs, h1, _⟩ := h
  exact fun k hk => h1.lt k hk
/-- Another row grows. -/
theorem KR.kept (h : KR H B w kV K) (hb : ∀ k, kV.ownBlock = some k → w'.heap[k]? = w.heap[k]?) (hk : Kp 0 w w') : KR H B w' kV K := by
  obtain ⟨cs, h1, h2, h3⟩ := h
  refine ⟨cs, ?_, h2.kp hk, h3⟩
  obtain ⟨q1, q2⟩ := h1
  refine ⟨q1, ?_⟩
  rcases q2 with q2 | ⟨g, cap, cur, hv, hg, hh, r⟩
  · exact Or.inl q2
  · exact Or.inr ⟨g, cap, cur, hv, hg, (hb g (by rw [hv]; rfl)).trans hh, r⟩
/-- A row of ints grows that lies ahead of all ints of the clauses. -/
theorem KR.ints (h : KR H B w kV K) (hb : ∀ k, kV.ownBlock = some k → w'.heap[k]? = w.heap[k]?) (hs : w.heap.size ≤ w'.heap.size) (hk : ∀ k, k < w.heap.size → H ≤ k → w'.heap[k]? = w.heap[k]?) : KR H B w' kV K := by
  obtain ⟨cs, h1, h2, h3⟩ := h
  refine ⟨cs, ?_, ⟨h2.1, fun i hi => ?_⟩, h3⟩
  · obtain ⟨q1, q2⟩ := h1
    refine ⟨q1, ?_⟩
    rcases q2 with q2 | ⟨g, cap, cur, hv, hg, hh, r⟩
    · exact Or.inl q2
    · exact Or.inr ⟨g, cap, cur, hv, hg, (hb g (by rw [hv]; rfl)).trans hh, r⟩
  · obtain ⟨a, cap, q1, q2, q3, q4⟩ := h2.2 i hi
    refine ⟨a, cap, q1, q2, q3, fun j hj => ?_⟩
    obtain ⟨ad, rfl, r1, r2, r3⟩ := q4 j hj
    have hH : H ≤ ad.block := h3 _ (List.mem_of_getElem? q1) _ rfl
    have e := hk _ r1 hH
    refine ⟨ad, rfl, Nat.lt_of_lt_of_le r1 hs, by rw [e]; exact r2, ?_⟩
    rw [World.cell?_of_block (w := w) (by rw [addr_block]; exact e)]; exact r3
end
/-- What once leaves. -/
structure OnceR (H B : Nat) (w : World) (kV v' : Value) (K' : List (List Int)) (w' : World) : Prop where
  kr : KR H B w' v' K'
  below : Below B w w'
  fr : ∀ k, k < w.heap.size → kV.ownBlock ≠ some k → w'.heap[k]? = w.heap[k]?
  kp : Kp 0 w w'
  own : v'.ownBlock = kV.ownBlock ∨ ∃ g, v'.ownBlock = some g ∧ w.heap.size ≤ g
def OnceA (H B : Nat) (w : World) (kV : Value) (K' : List (List Int)) (e : Ending) (w' : World) : Prop := ∃ v', e = .returned v' ∧ OnceR H B w kV v' K' w'
theorem OnceR.same {H B : Nat} {w w' : World} {kV : Value} {K : List (List Int)} (h : KR H B w kV K) (hB : B ≤ w.heap.size) (hb : Below w.heap.size w w') : OnceR H B w kV kV K w' :=
  ⟨h.new hb, hb.mono hB, fun k hk _ => hb.block k hk, Kp.new hb, Or.inl rfl⟩

set_option maxRecDepth 100000 in
set_option maxHeartbeats 1000000 in
theorem once_any (H B : Nat) (K : List (List Int)) (hK : ∀ d ∈ K, (∀ x ∈ d, Near x) ∧ d.length ≤ 24) (hl : K.length ≤ 10000000) (c : List Int) (ka a : Option Addr) (kc cap : Nat) (w : World) (hB : B ≤ w.heap.size) (hH : H ≤ w.heap.size) (hR : KR H B w (.slice ka K.length kc) K) (hI : IntsIn w a c) (hm : c.length ≤ 9223372036854775807) (hw : Tab w) :
    Calls Tryd.prog 43 #[.slice ka K.length kc, .slice a c.length cap] w fun e w' => OnceA H B w (.slice ka K.length kc) (onceF K c) e w' := by
  have HFM := Lib.hid (rform_any c a cap w hI hm)
  have HR := Lib.hid hR
  have HW := Lib.hid hw
  have HK := Lib.hid hK
  obtain ⟨hn, hnl⟩ := form_near c
  have HE : Hid (onceF K c = if (formF c).2 = true ∨ (formF c).1 ∈ K then K else K ++ [(formF c).1]) := rfl
  generalize onceF K c = R at *
  generalize formF c = f at *
  obtain ⟨f, al⟩ := f
  simp only at *
  have HN := Lib.hid hn
  clear hR hI hw hK hn
  go_enter Tryd.func43, Tryd.ntmps43
  go_wp2_with fail
  refine HFM.out.mono ?_
  rintro e w1 ⟨⟨fa, fc, rfl, hrow⟩, hb1⟩
  simp only at hrow
  have HB1 := Lib.hid hb1
  obtain ⟨fa2, fc2, hfe, hf1, hf2⟩ := row_form hrow
  injection hfe with e1 e2 e3
  subst e1 e3
  have HIK := Lib.hid (row_ints hrow)
  have HLO : Hid (∀ b, (Value.slice fa f.length fc).ownBlock = some b → w.heap.size ≤ b) := fun b hb => (hrow.lt b hb).1
  have hsz1 := hb1.size
  clear hrow hb1 HFM
  cases al with
  | true =>
    have HX : Hid (OnceR H B w (.slice ka K.length kc) (.slice ka K.length kc) R w1) := by
      show OnceR _ _ _ _ _ _ _
      rw [HE.out, if_pos (Or.inl rfl)]
      exact OnceR.same HR.out hB HB1.out
    go_wp2
    go_ret
    exact ⟨_, rfl, HX.out⟩
  | false =>
    have HKR := Lib.hid (HR.out.new HB1.out)
    go_wp2_with fail
    go_loopw [17] (fun iV wr => ∃ i : Nat, i ≤ K.length ∧ iV = .int .i64 (i : Int) ∧ f ∉ K.take i ∧ Below w1.heap.size w1 wr) (fun iV _ => K.length - (intOf iV).toNat)
    case atStart => exact ⟨0, Nat.zero_le _, rfl, by simp, Below.refl _ _⟩
    case round =>
      obtain ⟨i, hi, rfl, hnot, hbr⟩ := hrel
      obtain ⟨wo, rfl⟩ : ∃ wo, wo = wr := ⟨_, rfl⟩
      have HBR := Lib.hid hbr
      have HNOT := Lib.hid hnot
      have hwo := hbr.size
      clear hbr hnot
      by_cases hlt : i < K.length
      · obtain ⟨ad, da, dc, rfl, hb0, hc0, hd1, hd2, hdi⟩ := (HKR.out.new HBR.out).cls i hlt
        have hmem := getD_mem (d := []) hlt
        obtain ⟨hdn, hdl⟩ := HK.out _ hmem
        have HSC := Lib.hid (sameC_any f (K.getD i []) HN.out hdn (by omega) (by omega) fa da fc dc wo ((HIK.out.ints).below HBR.out) hdi ((HW.out.below HB1.out).below HBR.out))
        have HTK : Hid (∀ x, x ∈ K.take (i + 1) → x ∈ K.take i ∨ x = K.getD i []) := fun x hx => by
          rw [List.take_add_one, List.getElem?_eq_getElem hlt] at hx
          rw [List.getD_eq_getElem?_getD, List.getElem?_eq_getElem hlt]
          rcases List.mem_append.1 hx with h | h
          · exact Or.inl h
          · exact Or.inr (by simpa using h)
        have HMEM := Lib.hid hmem
        clear hmem hdn hdi
        generalize (K.getD i []) = d at *
        by_cases hfd : f = d
        · rw [decide_eq_true hfd] at HSC
          have hin : f ∈ K := by rw [hfd]; exact HMEM.out
          have HX : Hid (∀ w3, Below wo.heap.size wo w3 → OnceR H B w (.slice (some ad) K.length kc) (.slice (some ad) K.length kc) R w3) := fun w3 h3 => by
            rw [HE.out, if_pos (Or.inr hin)]
            exact OnceR.same HR.out hB ((HB1.out.trans (HBR.out.mono HB1.out.size)).trans (h3.mono (by omega)))
          clear hfd hin
          go_wp2_with fail
          refine HSC.out.mono ?_
          rintro e w3 ⟨rfl, hb3⟩
          have HX3 := Lib.hid (HX.out w3 hb3)
          clear hb3 HSC HX
          go_wp2
          refine bodyPost_ret (v := .slice (some ad) K.length kc) (by simp [results, Tryd.results43, go_sem]) rfl ?_
          exact ⟨_, rfl, HX3.out⟩
        · rw [decide_eq_false hfd] at HSC
          have HFD := Lib.hid hfd
          clear hfd
          go_wp2_with fail
          refine HSC.out.mono ?_
          rintro e w3 ⟨rfl, hb3⟩
          have HB3 : Hid (Below w1.heap.size w1 w3) := HBR.out.trans (hb3.mono hwo)
          clear hb3 HSC
          go_wp2
          go_roundw
          case rel => exact ⟨i + 1, hlt, by go_num, fun h => (HTK.out f h).elim HNOT.out HFD.out, HB3.out⟩
          case measure => simp [intOf]; omega
      · obtain rfl : i = K.length := by omega
        have hnin : f ∉ K := by have := HNOT.out; rwa [List.take_length] at this
        have HER : Hid (R = K ++ [f]) := by show _ = _; rw [HE.out, if_neg (by simp [hnin])]
        obtain ⟨cs, hcs, hck, hlow⟩ := HKR.out.new HBR.out
        have HLW := Lib.hid hlow
        have HIKo := Lib.hid (HIK.out.kp (Kp.new (B := 0) HBR.out))
        have HBO : Hid (Below w.heap.size w wo) := HB1.out.trans (HBR.out.mono HB1.out.size)
        obtain ⟨ic, hic, hz0, hz1, hz2⟩ := info_parts infoCls
        have HCS := Lib.hid hcs
        have HCK := Lib.hid hck
        clear hcs hck hnin hlow
        go_wp2_with (first | (at_builtin; refine wpList_append_own_at _ rfl _ _ 37 rfl B 23 ic (.slice none 0 0) 1 24 Tryd.underlying37 hic hz0 hz1 hz2 rfl (by decide) _ _ _ rfl (HCS.out.alloc _) ⟨wo.heap.size, 0, none⟩ 1 1 [.slice fa f.length fc] rfl rfl ?c1 ?c2 ?c3 ?c4 ?c5 ?_))
        all_goals try exact kclit _ _ _
        case c2 => first | rfl | exact kcone _ _ _
        case c3 => unfold maxLen; omega
        case c4 => omega
        case c5 => first | omega | (simp; omega)
        intro v7 w7 hown7 hgrow7 _ hloc7
        have hbn := below_new wo (.cells #[.slice fa f.length fc] 23)
        have hr2 := row_new' HCS.out hbn
        have hkp := (Kp.new (B := 0) hbn).trans (Kp.grown (B := 0) (ownsRow_base hr2 (Nat.zero_le _)) hgrow7 (by decide))
        have HX : Hid (OnceR H B w (.slice ka K.length kc) v7 R w7) := by
          show OnceR _ _ _ _ _ _ _
          rw [HER.out]
          have hgb : Below B wo w7 := (hbn.mono (by omega)).grown hgrow7 (by simp; omega) (fun k hk => (hr2.lt k hk).1)
          refine ⟨⟨cs ++ [.slice fa f.length fc], by simpa using hown7, ((HCK.out.kp hkp).snoc hf1 hf2 (HIKo.out.kp hkp)), fun u hu b hb => (by
            rcases List.mem_append.1 hu with h | h
            · exact HLW.out u h b hb
            · rw [List.mem_singleton] at h; subst h; exact Nat.le_trans hH (HLO.out b hb))⟩, (HBO.out.mono hB).trans hgb, fun k hk hne => ?_, (Kp.new HBO.out).trans hkp, ?_⟩
          · have h1 : k < wo.heap.size := Nat.lt_of_lt_of_le hk HBO.out.size
            have h2 := hgrow7.block k (by simp; omega) (fun e => hne e.symm)
            rw [h2, hbn.block k h1, HBO.out.block k hk]
          · rcases hloc7 with h | h
            · exact Or.inl h
            · exact Or.inr ⟨_, h, by first | omega | (simp; omega)⟩
        clear hown7 hgrow7 hloc7 hbn hr2 hkp
        go_wp2
        go_ret
        exact ⟨_, rfl, HX.out⟩
end Go.Proofs.YtcmmoinkhodjfaaDoor
