/- RangeBoole: the law's walk. -/
import Derived.Test.YtbohpflbifoohaaGreatDoorSvRanged
namespace Go.Proofs.YtbohpflbifoohaaGreatDoor
open Go.RowKit Go.Shelf Sv

def ErForm (w' : World) (a : Option Addr) (n c : Nat) (er : Value) : Prop :=
  (er = .nilIface ∧ ∃ l : List Span, n = l.length ∧ SpAt w' (.slice a n c) l ∧ Rg l) ∨ (∃ N, er = .iface 111 (.pointer (some ⟨N, 0, none⟩)))
theorem ErForm.below {W W' : World} {a : Option Addr} {n c : Nat} {er : Value} (h : ErForm W a n c er) (hb : Below W.heap.size W W') : ErForm W' a n c er := by
  rcases h with ⟨h1, l, h2, h3, h4⟩ | h
  · exact .inl ⟨h1, l, h2, h3.below hb (Nat.le_refl _), h4⟩
  · exact .inr h
def RgForm (W : World) (e : Ending) (w' : World) : Prop := ∃ a n c er, e = .returned (.tuple #[.agg #[.slice a n c], er]) ∧ ErForm w' a n c er ∧ Below W.heap.size W w'
theorem range_form (s : ByteArray) (w : World) (hs : s.size ≤ 1000) (hw : Lb w) : Calls Tryz.prog 17 #[.string s] w (RgForm w) := by
  refine (range_any s w hs hw).mono ?_
  intro e w' h
  cases hx : rangeF s with
  | ok l =>
    rw [hx] at h
    obtain ⟨v, rfl, hsp, hn, hb⟩ := h
    obtain ⟨a, c, rfl⟩ := hsp.form
    exact ⟨a, _, c, _, rfl, .inl ⟨rfl, l, rfl, hsp, rangeF_rg hx⟩, hb⟩
  | error x =>
    obtain ⟨k, p⟩ := x
    rw [hx] at h
    obtain ⟨N, rfl, _, _, hb⟩ := h
    exact ⟨none, 0, 0, _, rfl, .inr ⟨N, rfl⟩, hb⟩

set_option maxRecDepth 100000 in
set_option maxHeartbeats 1000000 in
theorem boole_long (a b c : ByteArray) (w : World) (h : ¬ (a.size ≤ 200 ∧ b.size ≤ 200 ∧ c.size ≤ 200)) :
    Calls Tryz.prog 7 #[.string a, .string b, .string c] w fun e w' => e = .returned (.bool true) ∧ Below w.heap.size w w' := by
  by_cases ha : a.size ≤ 200
  · by_cases hb : b.size ≤ 200
    · have hc : ¬ c.size ≤ 200 := fun hc => h ⟨ha, hb, hc⟩
      have h1 : ¬ (200 : Int) < (a.size : Int) := by omega
      have h2 : ¬ (200 : Int) < (b.size : Int) := by omega
      have h3 : (200 : Int) < (c.size : Int) := by omega
      clear h ha hb hc
      generalize hn : (a.size : Int) = na at *
      generalize hm : (b.size : Int) = nb at *
      generalize hk : (c.size : Int) = nc at *
      go_enter Tryz.func7, Tryz.ntmps7
      go_wp2
      go_ret
      exact ⟨rfl, Below.refl _ _⟩
    · have h1 : ¬ (200 : Int) < (a.size : Int) := by omega
      have h2 : (200 : Int) < (b.size : Int) := by omega
      clear h ha hb
      go_enter Tryz.func7, Tryz.ntmps7
      go_wp2
      go_ret
      exact ⟨rfl, Below.refl _ _⟩
  · have h1 : (200 : Int) < (a.size : Int) := by omega
    clear h ha
    go_enter Tryz.func7, Tryz.ntmps7
    go_wp2
    go_ret
    exact ⟨rfl, Below.refl _ _⟩

set_option maxRecDepth 100000 in
set_option maxHeartbeats 1000000 in
theorem boole_short (a b c : ByteArray) (w : World) (hw : Lb w) (ha : a.size ≤ 200) (hb : b.size ≤ 200) (hc : c.size ≤ 200) :
    Calls Tryz.prog 7 #[.string a, .string b, .string c] w fun e w' => e = .returned (.bool true) ∧ Below w.heap.size w w' := by
  have h1 : ¬ (200 : Int) < (a.size : Int) := by omega
  have h2 : ¬ (200 : Int) < (b.size : Int) := by omega
  have h3 : ¬ (200 : Int) < (c.size : Int) := by omega
  have HR : Hid (∀ W, Below w.heap.size w W → Calls Tryz.prog 32 #[] W fun e w' => e = .returned (.bool true) ∧ Below W.heap.size W w') := fun W hb => ranged_any W (hw.below hb)
  have HA : Hid (∀ W, Below w.heap.size w W → Calls Tryz.prog 17 #[.string a] W (RgForm W)) := fun W hb => range_form a W (by omega) (hw.below hb)
  have HB : Hid (∀ W, Below w.heap.size w W → Calls Tryz.prog 17 #[.string b] W (RgForm W)) := fun W hx => range_form b W (by omega) (hw.below hx)
  have HC : Hid (∀ W, Below w.heap.size w W → Calls Tryz.prog 17 #[.string c] W (RgForm W)) := fun W hb => range_form c W (by omega) (hw.below hb)
  clear ha hb hc hw
  go_enter Tryz.func7, Tryz.ntmps7
  go_wp2_with fail
  refine (HA.out _ (Below.refl _ _)).mono ?_
  rintro e w1 ⟨ra, rn, rc, er, rfl, hf1, hb1⟩
  have HF1 := Lib.hid hf1
  have HB1 := Lib.hid hb1
  clear hf1 hb1 HA
  go_wp2_with fail
  have hba1 := (Below.refl w1.heap.size w1).alloc (Nat.le_refl _) (.cells #[.slice ra rn rc] 46)
  have HB1a : Hid (Below w.heap.size w (w1.alloc (.cells #[.slice ra rn rc] 46))) := HB1.out.trans (hba1.mono HB1.out.size)
  have HF1a := Lib.hid (HF1.out.below hba1)
  have HK1 := Lib.hid (Blk.new w1 46 #[.slice ra rn rc])
  clear hba1 HF1
  generalize w1.alloc (.cells #[.slice ra rn rc] 46) = W1 at *
  refine (HB.out _ HB1a.out).mono ?_
  rintro e w2 ⟨sa, sn, sc, es, rfl, hf2, hb2⟩
  have HB2 : Hid (Below w.heap.size w w2) := HB1a.out.trans (hb2.mono HB1a.out.size)
  have HF12 := Lib.hid (HF1a.out.below hb2)
  have HF2 := Lib.hid hf2
  have HK12 := Lib.hid (HK1.out.below hb2 HK1.out.lt)
  clear hb2 hf2 HF1a HB1a HK1 HB
  go_wp2_with fail
  have hba2 := (Below.refl w2.heap.size w2).alloc (Nat.le_refl _) (.cells #[.slice sa sn sc] 46)
  have HB2a : Hid (Below w.heap.size w (w2.alloc (.cells #[.slice sa sn sc] 46))) := HB2.out.trans (hba2.mono HB2.out.size)
  have HF12a := Lib.hid (HF12.out.below hba2)
  have HF2a := Lib.hid (HF2.out.below hba2)
  have HK2 := Lib.hid (Blk.new w2 46 #[.slice sa sn sc])
  have HK12a := Lib.hid (HK12.out.alloc (.cells #[.slice sa sn sc] 46))
  clear hba2 HF12 HF2 HK12
  generalize w2.alloc (.cells #[.slice sa sn sc] 46) = W2 at *
  refine (HC.out _ HB2a.out).mono ?_
  rintro e w3 ⟨ta, tn, tc, et, rfl, hf3, hb3⟩
  have HB3 : Hid (Below w.heap.size w w3) := HB2a.out.trans (hb3.mono HB2a.out.size)
  have HF13 := Lib.hid (HF12a.out.below hb3)
  have HF23 := Lib.hid (HF2a.out.below hb3)
  have HF33 := Lib.hid hf3
  have HK13 := Lib.hid (HK12a.out.below hb3 HK12a.out.lt)
  have HK23 := Lib.hid (HK2.out.below hb3 HK2.out.lt)
  clear hb3 hf3 HF12a HF2a HB2a HK12a HK2 HC
  go_wp2_with fail
  have hba3 := (Below.refl w3.heap.size w3).alloc (Nat.le_refl _) (.cells #[.slice ta tn tc] 46)
  have HB3a : Hid (Below w.heap.size w (w3.alloc (.cells #[.slice ta tn tc] 46))) := HB3.out.trans (hba3.mono HB3.out.size)
  have HF13a := Lib.hid (HF13.out.below hba3)
  have HF23a := Lib.hid (HF23.out.below hba3)
  have HF33a := Lib.hid (HF33.out.below hba3)
  have HK3 := Lib.hid (Blk.new w3 46 #[.slice ta tn tc])
  have HK13a := Lib.hid (HK13.out.alloc (.cells #[.slice ta tn tc] 46))
  have HK23a := Lib.hid (HK23.out.alloc (.cells #[.slice ta tn tc] 46))
  clear hba3 HF13 HF23 HF33 HK13 HK23 
  generalize w3.alloc (.cells #[.slice ta tn tc] 46) = W3 at *
  refine (HR.out _ HB3a.out).mono ?_
  rintro e w4 ⟨rfl, hb4⟩
  have HB4 : Hid (Below w.heap.size w w4) := HB3a.out.trans (hb4.mono HB3a.out.size)
  have HF1 := Lib.hid (HF13a.out.below hb4)
  have HF2 := Lib.hid (HF23a.out.below hb4)
  have HF3 := Lib.hid (HF33a.out.below hb4)
  have HK1 := Lib.hid (HK13a.out.below hb4 HK13a.out.lt)
  have HK2 := Lib.hid (HK23a.out.below hb4 HK23a.out.lt)
  have HK4 := Lib.hid (HK3.out.below hb4 HK3.out.lt)
  clear hb4 HF13a HF23a HF33a HK13a HK23a HK3 HB3a
  rcases HF1.out with ⟨rfl, lr, rfl, hspr, hrr⟩ | ⟨N, rfl⟩
  · rcases HF2.out with ⟨rfl, ls, rfl, hsps, hrs⟩ | ⟨N, rfl⟩
    · rcases HF3.out with ⟨rfl, lt, rfl, hspt, hrt⟩ | ⟨N, rfl⟩
      · have HSR := Lib.hid hspr
        have HSS := Lib.hid hsps
        have HST := Lib.hid hspt
        have HRR := Lib.hid hrr
        have HRS := Lib.hid hrs
        have HRT := Lib.hid hrt
        clear hspr hsps hspt hrr hrs hrt HF1 HF2 HF3
        go_wp2_with fail
        have N1 : Hid (∀ W, Below w4.heap.size w4 W → Calls Tryz.prog 26 #[.agg #[(.slice ra lr.length rc)], .agg #[(.slice sa ls.length sc)]] W fun e w' => ∃ a' c', e = .returned (.agg #[.slice a' (nd lr ls).length c']) ∧ SpAt w' (.slice a' (nd lr ls).length c') (nd lr ls) ∧ Below W.heap.size W w') := fun W hD  => (and_any lr ls HRR.out HRS.out _ _ W (HSR.out.below hD (Nat.le_refl _)) (HSS.out.below hD (Nat.le_refl _))).mono fun e w' ⟨v', he, hs, _, hb⟩ => by obtain ⟨a', c', rfl⟩ := hs.form; exact ⟨a', c', he, hs, hb⟩
        have N2 : Hid (∀ v0 W, SpAt W v0 (nd lr ls) → Calls Tryz.prog 27 #[.agg #[v0]] W fun e w' => ∃ a' c', e = .returned (.agg #[.slice a' (nt (nd lr ls)).length c']) ∧ SpAt w' (.slice a' (nt (nd lr ls)).length c') (nt (nd lr ls)) ∧ Below W.heap.size W w') := fun v0 W h0 => (not_any (nd lr ls) (rg_nd HRR.out HRS.out) _ W h0).mono fun e w' ⟨v', he, hs, _, hb⟩ => by obtain ⟨a', c', rfl⟩ := hs.form; exact ⟨a', c', he, hs, hb⟩
        have N3 : Hid (∀ W, Below w4.heap.size w4 W → Calls Tryz.prog 27 #[.agg #[(.slice ra lr.length rc)]] W fun e w' => ∃ a' c', e = .returned (.agg #[.slice a' (nt lr).length c']) ∧ SpAt w' (.slice a' (nt lr).length c') (nt lr) ∧ Below W.heap.size W w') := fun W hD  => (not_any lr HRR.out _ W (HSR.out.below hD (Nat.le_refl _))).mono fun e w' ⟨v', he, hs, _, hb⟩ => by obtain ⟨a', c', rfl⟩ := hs.form; exact ⟨a', c', he, hs, hb⟩
        have N4 : Hid (∀ W, Below w4.heap.size w4 W → Calls Tryz.prog 27 #[.agg #[(.slice sa ls.length sc)]] W fun e w' => ∃ a' c', e = .returned (.agg #[.slice a' (nt ls).length c']) ∧ SpAt w' (.slice a' (nt ls).length c') (nt ls) ∧ Below W.heap.size W w') := fun W hD  => (not_any ls HRS.out _ W (HSS.out.below hD (Nat.le_refl _))).mono fun e w' ⟨v', he, hs, _, hb⟩ => by obtain ⟨a', c', rfl⟩ := hs.form; exact ⟨a', c', he, hs, hb⟩
        have N5 : Hid (∀ v0 v1 W, SpAt W v0 (nt lr) → SpAt W v1 (nt ls) → Calls Tryz.prog 25 #[.agg #[v0], .agg #[v1]] W fun e w' => ∃ a' c', e = .returned (.agg #[.slice a' (orr (nt lr) (nt ls)).length c']) ∧ SpAt w' (.slice a' (orr (nt lr) (nt ls)).length c') (orr (nt lr) (nt ls)) ∧ Below W.heap.size W w') := fun v0 v1 W h0 h1 => (or_any (nt lr) (nt ls) (rg_nt HRR.out) (rg_nt HRS.out) _ _ W h0 h1).mono fun e w' ⟨v', he, hs, _, hb⟩ => by obtain ⟨a', c', rfl⟩ := hs.form; exact ⟨a', c', he, hs, hb⟩
        have N6 : Hid (∀ v0 v1 W, SpAt W v0 (nt (nd lr ls)) → SpAt W v1 (orr (nt lr) (nt ls)) → Calls Tryz.prog 28 #[.agg #[v0], .agg #[v1]] W fun e w' => e = .returned (.bool true) ∧ Below W.heap.size W w') := fun v0 v1 W h0 h1 => (same_any (nt (nd lr ls)) (orr (nt lr) (nt ls)) (rg_nt (rg_nd HRR.out HRS.out)) (rg_orr (rg_nt HRR.out) (rg_nt HRS.out)) _ _ W h0 h1).mono fun e w' ⟨he, hb⟩ => ⟨by rw [decide_eq_true (boole1 HRR.out HRS.out)] at he; exact he, hb⟩
        have N7 : Hid (∀ W, Below w4.heap.size w4 W → Calls Tryz.prog 27 #[.agg #[(.slice ra lr.length rc)]] W fun e w' => ∃ a' c', e = .returned (.agg #[.slice a' (nt lr).length c']) ∧ SpAt w' (.slice a' (nt lr).length c') (nt lr) ∧ Below W.heap.size W w') := fun W hD  => (not_any lr HRR.out _ W (HSR.out.below hD (Nat.le_refl _))).mono fun e w' ⟨v', he, hs, _, hb⟩ => by obtain ⟨a', c', rfl⟩ := hs.form; exact ⟨a', c', he, hs, hb⟩
        have N8 : Hid (∀ v0 W, SpAt W v0 (nt lr) → Calls Tryz.prog 27 #[.agg #[v0]] W fun e w' => ∃ a' c', e = .returned (.agg #[.slice a' (nt (nt lr)).length c']) ∧ SpAt w' (.slice a' (nt (nt lr)).length c') (nt (nt lr)) ∧ Below W.heap.size W w') := fun v0 W h0 => (not_any (nt lr) (rg_nt HRR.out) _ W h0).mono fun e w' ⟨v', he, hs, _, hb⟩ => by obtain ⟨a', c', rfl⟩ := hs.form; exact ⟨a', c', he, hs, hb⟩
        have N9 : Hid (∀ v0 W, Below w4.heap.size w4 W → SpAt W v0 (nt (nt lr)) → Calls Tryz.prog 28 #[.agg #[v0], .agg #[(.slice ra lr.length rc)]] W fun e w' => e = .returned (.bool true) ∧ Below W.heap.size W w') := fun v0 W hD h0 => (same_any (nt (nt lr)) lr (rg_nt (rg_nt HRR.out)) HRR.out _ _ W h0 (HSR.out.below hD (Nat.le_refl _))).mono fun e w' ⟨he, hb⟩ => ⟨by rw [decide_eq_true (boole2 HRR.out)] at he; exact he, hb⟩
        have N10 : Hid (∀ W, Below w4.heap.size w4 W → Calls Tryz.prog 25 #[.agg #[(.slice sa ls.length sc)], .agg #[(.slice ta lt.length tc)]] W fun e w' => ∃ a' c', e = .returned (.agg #[.slice a' (orr ls lt).length c']) ∧ SpAt w' (.slice a' (orr ls lt).length c') (orr ls lt) ∧ Below W.heap.size W w') := fun W hD  => (or_any ls lt HRS.out HRT.out _ _ W (HSS.out.below hD (Nat.le_refl _)) (HST.out.below hD (Nat.le_refl _))).mono fun e w' ⟨v', he, hs, _, hb⟩ => by obtain ⟨a', c', rfl⟩ := hs.form; exact ⟨a', c', he, hs, hb⟩
        have N11 : Hid (∀ v1 W, Below w4.heap.size w4 W → SpAt W v1 (orr ls lt) → Calls Tryz.prog 26 #[.agg #[(.slice ra lr.length rc)], .agg #[v1]] W fun e w' => ∃ a' c', e = .returned (.agg #[.slice a' (nd lr (orr ls lt)).length c']) ∧ SpAt w' (.slice a' (nd lr (orr ls lt)).length c') (nd lr (orr ls lt)) ∧ Below W.heap.size W w') := fun v1 W hD h1 => (and_any lr (orr ls lt) HRR.out (rg_orr HRS.out HRT.out) _ _ W (HSR.out.below hD (Nat.le_refl _)) h1).mono fun e w' ⟨v', he, hs, _, hb⟩ => by obtain ⟨a', c', rfl⟩ := hs.form; exact ⟨a', c', he, hs, hb⟩
        have N12 : Hid (∀ W, Below w4.heap.size w4 W → Calls Tryz.prog 26 #[.agg #[(.slice ra lr.length rc)], .agg #[(.slice sa ls.length sc)]] W fun e w' => ∃ a' c', e = .returned (.agg #[.slice a' (nd lr ls).length c']) ∧ SpAt w' (.slice a' (nd lr ls).length c') (nd lr ls) ∧ Below W.heap.size W w') := fun W hD  => (and_any lr ls HRR.out HRS.out _ _ W (HSR.out.below hD (Nat.le_refl _)) (HSS.out.below hD (Nat.le_refl _))).mono fun e w' ⟨v', he, hs, _, hb⟩ => by obtain ⟨a', c', rfl⟩ := hs.form; exact ⟨a', c', he, hs, hb⟩
        have N13 : Hid (∀ W, Below w4.heap.size w4 W → Calls Tryz.prog 26 #[.agg #[(.slice ra lr.length rc)], .agg #[(.slice ta lt.length tc)]] W fun e w' => ∃ a' c', e = .returned (.agg #[.slice a' (nd lr lt).length c']) ∧ SpAt w' (.slice a' (nd lr lt).length c') (nd lr lt) ∧ Below W.heap.size W w') := fun W hD  => (and_any lr lt HRR.out HRT.out _ _ W (HSR.out.below hD (Nat.le_refl _)) (HST.out.below hD (Nat.le_refl _))).mono fun e w' ⟨v', he, hs, _, hb⟩ => by obtain ⟨a', c', rfl⟩ := hs.form; exact ⟨a', c', he, hs, hb⟩
        have N14 : Hid (∀ v0 v1 W, SpAt W v0 (nd lr ls) → SpAt W v1 (nd lr lt) → Calls Tryz.prog 25 #[.agg #[v0], .agg #[v1]] W fun e w' => ∃ a' c', e = .returned (.agg #[.slice a' (orr (nd lr ls) (nd lr lt)).length c']) ∧ SpAt w' (.slice a' (orr (nd lr ls) (nd lr lt)).length c') (orr (nd lr ls) (nd lr lt)) ∧ Below W.heap.size W w') := fun v0 v1 W h0 h1 => (or_any (nd lr ls) (nd lr lt) (rg_nd HRR.out HRS.out) (rg_nd HRR.out HRT.out) _ _ W h0 h1).mono fun e w' ⟨v', he, hs, _, hb⟩ => by obtain ⟨a', c', rfl⟩ := hs.form; exact ⟨a', c', he, hs, hb⟩
        have N15 : Hid (∀ v0 v1 W, SpAt W v0 (nd lr (orr ls lt)) → SpAt W v1 (orr (nd lr ls) (nd lr lt)) → Calls Tryz.prog 28 #[.agg #[v0], .agg #[v1]] W fun e w' => e = .returned (.bool true) ∧ Below W.heap.size W w') := fun v0 v1 W h0 h1 => (same_any (nd lr (orr ls lt)) (orr (nd lr ls) (nd lr lt)) (rg_nd HRR.out (rg_orr HRS.out HRT.out)) (rg_orr (rg_nd HRR.out HRS.out) (rg_nd HRR.out HRT.out)) _ _ W h0 h1).mono fun e w' ⟨he, hb⟩ => ⟨by rw [decide_eq_true (boole3 HRR.out HRS.out HRT.out)] at he; exact he, hb⟩
        have N16 : Hid (∀ W, Below w4.heap.size w4 W → Calls Tryz.prog 27 #[.agg #[(.slice ra lr.length rc)]] W fun e w' => ∃ a' c', e = .returned (.agg #[.slice a' (nt lr).length c']) ∧ SpAt w' (.slice a' (nt lr).length c') (nt lr) ∧ Below W.heap.size W w') := fun W hD  => (not_any lr HRR.out _ W (HSR.out.below hD (Nat.le_refl _))).mono fun e w' ⟨v', he, hs, _, hb⟩ => by obtain ⟨a', c', rfl⟩ := hs.form; exact ⟨a', c', he, hs, hb⟩
        have N17 : Hid (∀ v1 W, Below w4.heap.size w4 W → SpAt W v1 (nt lr) → Calls Tryz.prog 25 #[.agg #[(.slice ra lr.length rc)], .agg #[v1]] W fun e w' => ∃ a' c', e = .returned (.agg #[.slice a' (orr lr (nt lr)).length c']) ∧ SpAt w' (.slice a' (orr lr (nt lr)).length c') (orr lr (nt lr)) ∧ Below W.heap.size W w') := fun v1 W hD h1 => (or_any lr (nt lr) HRR.out (rg_nt HRR.out) _ _ W (HSR.out.below hD (Nat.le_refl _)) h1).mono fun e w' ⟨v', he, hs, _, hb⟩ => by obtain ⟨a', c', rfl⟩ := hs.form; exact ⟨a', c', he, hs, hb⟩
        have N18 : Hid (∀ W, Calls Tryz.prog 31 #[] W fun e w' => ∃ a' c', e = .returned (.agg #[.slice a' anyF.length c']) ∧ SpAt w' (.slice a' anyF.length c') anyF ∧ Below W.heap.size W w') := fun W  => (any_any W).mono fun e w' ⟨v', he, hs, _, hb⟩ => by obtain ⟨a', c', rfl⟩ := hs.form; exact ⟨a', c', he, hs, hb⟩
        have N19 : Hid (∀ v0 v1 W, SpAt W v0 (orr lr (nt lr)) → SpAt W v1 anyF → Calls Tryz.prog 28 #[.agg #[v0], .agg #[v1]] W fun e w' => e = .returned (.bool true) ∧ Below W.heap.size W w') := fun v0 v1 W h0 h1 => (same_any (orr lr (nt lr)) anyF (rg_orr HRR.out (rg_nt HRR.out)) rg_any _ _ W h0 h1).mono fun e w' ⟨he, hb⟩ => ⟨by rw [decide_eq_true (boole4 HRR.out)] at he; exact he, hb⟩
        have N20 : Hid (∀ W, Below w4.heap.size w4 W → Calls Tryz.prog 27 #[.agg #[(.slice ra lr.length rc)]] W fun e w' => ∃ a' c', e = .returned (.agg #[.slice a' (nt lr).length c']) ∧ SpAt w' (.slice a' (nt lr).length c') (nt lr) ∧ Below W.heap.size W w') := fun W hD  => (not_any lr HRR.out _ W (HSR.out.below hD (Nat.le_refl _))).mono fun e w' ⟨v', he, hs, _, hb⟩ => by obtain ⟨a', c', rfl⟩ := hs.form; exact ⟨a', c', he, hs, hb⟩
        have N21 : Hid (∀ v1 W, Below w4.heap.size w4 W → SpAt W v1 (nt lr) → Calls Tryz.prog 26 #[.agg #[(.slice ra lr.length rc)], .agg #[v1]] W fun e w' => ∃ a' c', e = .returned (.agg #[.slice a' (nd lr (nt lr)).length c']) ∧ SpAt w' (.slice a' (nd lr (nt lr)).length c') (nd lr (nt lr)) ∧ Below W.heap.size W w') := fun v1 W hD h1 => (and_any lr (nt lr) HRR.out (rg_nt HRR.out) _ _ W (HSR.out.below hD (Nat.le_refl _)) h1).mono fun e w' ⟨v', he, hs, _, hb⟩ => by obtain ⟨a', c', rfl⟩ := hs.form; exact ⟨a', c', he, hs, hb⟩
        have N22 : Hid (∀ v0 W, SpAt W v0 (nd lr (nt lr)) → Calls Tryz.prog 19 #[.agg #[v0]] W fun e w' => e = .returned (.bool true) ∧ Below W.heap.size W w') := fun v0 W h0 => (empty_any (nd lr (nt lr)) _ W h0).mono fun e w' ⟨he, hb⟩ => ⟨by rw [decide_eq_true (boole5 HRR.out)] at he; exact he, hb⟩
        have N23 : Hid (∀ W, Below w4.heap.size w4 W → Calls Tryz.prog 25 #[.agg #[(.slice ra lr.length rc)], .agg #[(.slice sa ls.length sc)]] W fun e w' => ∃ a' c', e = .returned (.agg #[.slice a' (orr lr ls).length c']) ∧ SpAt w' (.slice a' (orr lr ls).length c') (orr lr ls) ∧ Below W.heap.size W w') := fun W hD  => (or_any lr ls HRR.out HRS.out _ _ W (HSR.out.below hD (Nat.le_refl _)) (HSS.out.below hD (Nat.le_refl _))).mono fun e w' ⟨v', he, hs, _, hb⟩ => by obtain ⟨a', c', rfl⟩ := hs.form; exact ⟨a', c', he, hs, hb⟩
        have N24 : Hid (∀ W, Below w4.heap.size w4 W → Calls Tryz.prog 25 #[.agg #[(.slice sa ls.length sc)], .agg #[(.slice ra lr.length rc)]] W fun e w' => ∃ a' c', e = .returned (.agg #[.slice a' (orr ls lr).length c']) ∧ SpAt w' (.slice a' (orr ls lr).length c') (orr ls lr) ∧ Below W.heap.size W w') := fun W hD  => (or_any ls lr HRS.out HRR.out _ _ W (HSS.out.below hD (Nat.le_refl _)) (HSR.out.below hD (Nat.le_refl _))).mono fun e w' ⟨v', he, hs, _, hb⟩ => by obtain ⟨a', c', rfl⟩ := hs.form; exact ⟨a', c', he, hs, hb⟩
        have N25 : Hid (∀ v0 v1 W, SpAt W v0 (orr lr ls) → SpAt W v1 (orr ls lr) → Calls Tryz.prog 28 #[.agg #[v0], .agg #[v1]] W fun e w' => e = .returned (.bool true) ∧ Below W.heap.size W w') := fun v0 v1 W h0 h1 => (same_any (orr lr ls) (orr ls lr) (rg_orr HRR.out HRS.out) (rg_orr HRS.out HRR.out) _ _ W h0 h1).mono fun e w' ⟨he, hb⟩ => ⟨by rw [decide_eq_true (boole6 HRR.out HRS.out)] at he; exact he, hb⟩
        have SC : Hid (∀ W, Below w4.heap.size w4 W → W.cell? ⟨w1.heap.size, 0, none⟩ = some (.slice ra lr.length rc) ∧ W.cell? ⟨w2.heap.size, 0, none⟩ = some (.slice sa ls.length sc) ∧ W.cell? ⟨w3.heap.size, 0, none⟩ = some (.slice ta lt.length tc)) := fun W hb => ⟨(HK1.out.below hb HK1.out.lt).cell 0, (HK2.out.below hb HK2.out.lt).cell 0, (HK4.out.below hb HK4.out.lt).cell 0⟩
        have D0 : Below w4.heap.size w4 w4.drew := (Below.refl _ _).drew
        clear HR HB1 HB2 HB3 HK1 HK2 HK4 HSR HSS HST HRR HRS HRT h1 h2 h3
        go_region_held3 (fun w' => w'.cell? ⟨w1.heap.size, 0, none⟩ = some (.slice ra lr.length rc) ∧ w'.cell? ⟨w2.heap.size, 0, none⟩ = some (.slice sa ls.length sc) ∧ w'.cell? ⟨w3.heap.size, 0, none⟩ = some (.slice ta lt.length tc)) (first | exact SC.out _ D0 | exact SC.out _ D1 | exact SC.out _ D2 | exact SC.out _ D3 | exact SC.out _ D4 | exact SC.out _ D5 | exact SC.out _ D6 | exact SC.out _ D7 | exact SC.out _ D8 | exact SC.out _ D9 | exact SC.out _ D10 | exact SC.out _ D11 | exact SC.out _ D12 | exact SC.out _ D13 | exact SC.out _ D14 | exact SC.out _ D15 | exact SC.out _ D16 | exact SC.out _ D17 | exact SC.out _ D18 | exact SC.out _ D19 | exact SC.out _ D20 | exact SC.out _ D21 | exact SC.out _ D22 | exact SC.out _ D23 | exact SC.out _ D24 | exact SC.out _ D25)
          (first
            | ((with_reducible refine (N1.out _ D0 ).mono ?_); rintro e x1 ⟨a1, c1, rfl, s1_1, hb1⟩; have D1 : Below w4.heap.size w4 x1 := D0.trans (hb1.mono D0.size); clear N1 D0 hb1)
            | ((with_reducible refine (N2.out _ _ s1_1).mono ?_); rintro e x2 ⟨a2, c2, rfl, s2_2, hb2⟩; have D2 : Below w4.heap.size w4 x2 := D1.trans (hb2.mono D1.size); clear N2 D1 hb2 s1_1)
            | ((with_reducible refine (N3.out _ D2 ).mono ?_); rintro e x3 ⟨a3, c3, rfl, s3_3, hb3⟩; have D3 : Below w4.heap.size w4 x3 := D2.trans (hb3.mono D2.size); have s2_3 := s2_2.below hb3 (Nat.le_refl _); clear N3 D2 hb3 s2_2)
            | ((with_reducible refine (N4.out _ D3 ).mono ?_); rintro e x4 ⟨a4, c4, rfl, s4_4, hb4⟩; have D4 : Below w4.heap.size w4 x4 := D3.trans (hb4.mono D3.size); have s2_4 := s2_3.below hb4 (Nat.le_refl _); have s3_4 := s3_3.below hb4 (Nat.le_refl _); clear N4 D3 hb4 s2_3 s3_3)
            | ((with_reducible refine (N5.out _ _ _ s3_4 s4_4).mono ?_); rintro e x5 ⟨a5, c5, rfl, s5_5, hb5⟩; have D5 : Below w4.heap.size w4 x5 := D4.trans (hb5.mono D4.size); have s2_5 := s2_4.below hb5 (Nat.le_refl _); clear N5 D4 hb5 s2_4 s3_4 s4_4)
            | ((with_reducible refine (N6.out _ _ _ s2_5 s5_5).mono ?_); rintro e x6 ⟨rfl, hb6⟩; have D6 : Below w4.heap.size w4 x6 := D5.trans (hb6.mono D5.size); clear N6 D5 hb6 s2_5 s5_5)
            | ((with_reducible refine (N7.out _ D6 ).mono ?_); rintro e x7 ⟨a7, c7, rfl, s7_7, hb7⟩; have D7 : Below w4.heap.size w4 x7 := D6.trans (hb7.mono D6.size); clear N7 D6 hb7)
            | ((with_reducible refine (N8.out _ _ s7_7).mono ?_); rintro e x8 ⟨a8, c8, rfl, s8_8, hb8⟩; have D8 : Below w4.heap.size w4 x8 := D7.trans (hb8.mono D7.size); clear N8 D7 hb8 s7_7)
            | ((with_reducible refine (N9.out _ _ D8 s8_8).mono ?_); rintro e x9 ⟨rfl, hb9⟩; have D9 : Below w4.heap.size w4 x9 := D8.trans (hb9.mono D8.size); clear N9 D8 hb9 s8_8)
            | ((with_reducible refine (N10.out _ D9 ).mono ?_); rintro e x10 ⟨a10, c10, rfl, s10_10, hb10⟩; have D10 : Below w4.heap.size w4 x10 := D9.trans (hb10.mono D9.size); clear N10 D9 hb10)
            | ((with_reducible refine (N11.out _ _ D10 s10_10).mono ?_); rintro e x11 ⟨a11, c11, rfl, s11_11, hb11⟩; have D11 : Below w4.heap.size w4 x11 := D10.trans (hb11.mono D10.size); clear N11 D10 hb11 s10_10)
            | ((with_reducible refine (N12.out _ D11 ).mono ?_); rintro e x12 ⟨a12, c12, rfl, s12_12, hb12⟩; have D12 : Below w4.heap.size w4 x12 := D11.trans (hb12.mono D11.size); have s11_12 := s11_11.below hb12 (Nat.le_refl _); clear N12 D11 hb12 s11_11)
            | ((with_reducible refine (N13.out _ D12 ).mono ?_); rintro e x13 ⟨a13, c13, rfl, s13_13, hb13⟩; have D13 : Below w4.heap.size w4 x13 := D12.trans (hb13.mono D12.size); have s11_13 := s11_12.below hb13 (Nat.le_refl _); have s12_13 := s12_12.below hb13 (Nat.le_refl _); clear N13 D12 hb13 s11_12 s12_12)
            | ((with_reducible refine (N14.out _ _ _ s12_13 s13_13).mono ?_); rintro e x14 ⟨a14, c14, rfl, s14_14, hb14⟩; have D14 : Below w4.heap.size w4 x14 := D13.trans (hb14.mono D13.size); have s11_14 := s11_13.below hb14 (Nat.le_refl _); clear N14 D13 hb14 s11_13 s12_13 s13_13)
            | ((with_reducible refine (N15.out _ _ _ s11_14 s14_14).mono ?_); rintro e x15 ⟨rfl, hb15⟩; have D15 : Below w4.heap.size w4 x15 := D14.trans (hb15.mono D14.size); clear N15 D14 hb15 s11_14 s14_14)
            | ((with_reducible refine (N16.out _ D15 ).mono ?_); rintro e x16 ⟨a16, c16, rfl, s16_16, hb16⟩; have D16 : Below w4.heap.size w4 x16 := D15.trans (hb16.mono D15.size); clear N16 D15 hb16)
            | ((with_reducible refine (N17.out _ _ D16 s16_16).mono ?_); rintro e x17 ⟨a17, c17, rfl, s17_17, hb17⟩; have D17 : Below w4.heap.size w4 x17 := D16.trans (hb17.mono D16.size); clear N17 D16 hb17 s16_16)
            | ((with_reducible refine (N18.out _ ).mono ?_); rintro e x18 ⟨a18, c18, rfl, s18_18, hb18⟩; have D18 : Below w4.heap.size w4 x18 := D17.trans (hb18.mono D17.size); have s17_18 := s17_17.below hb18 (Nat.le_refl _); clear N18 D17 hb18 s17_17)
            | ((with_reducible refine (N19.out _ _ _ s17_18 s18_18).mono ?_); rintro e x19 ⟨rfl, hb19⟩; have D19 : Below w4.heap.size w4 x19 := D18.trans (hb19.mono D18.size); clear N19 D18 hb19 s17_18 s18_18)
            | ((with_reducible refine (N20.out _ D19 ).mono ?_); rintro e x20 ⟨a20, c20, rfl, s20_20, hb20⟩; have D20 : Below w4.heap.size w4 x20 := D19.trans (hb20.mono D19.size); clear N20 D19 hb20)
            | ((with_reducible refine (N21.out _ _ D20 s20_20).mono ?_); rintro e x21 ⟨a21, c21, rfl, s21_21, hb21⟩; have D21 : Below w4.heap.size w4 x21 := D20.trans (hb21.mono D20.size); clear N21 D20 hb21 s20_20)
            | ((with_reducible refine (N22.out _ _ s21_21).mono ?_); rintro e x22 ⟨rfl, hb22⟩; have D22 : Below w4.heap.size w4 x22 := D21.trans (hb22.mono D21.size); clear N22 D21 hb22 s21_21)
            | ((with_reducible refine (N23.out _ D22 ).mono ?_); rintro e x23 ⟨a23, c23, rfl, s23_23, hb23⟩; have D23 : Below w4.heap.size w4 x23 := D22.trans (hb23.mono D22.size); clear N23 D22 hb23)
            | ((with_reducible refine (N24.out _ D23 ).mono ?_); rintro e x24 ⟨a24, c24, rfl, s24_24, hb24⟩; have D24 : Below w4.heap.size w4 x24 := D23.trans (hb24.mono D23.size); have s23_24 := s23_23.below hb24 (Nat.le_refl _); clear N24 D23 hb24 s23_23)
            | ((with_reducible refine (N25.out _ _ _ s23_24 s24_24).mono ?_); rintro e x25 ⟨rfl, hb25⟩; have D25 : Below w4.heap.size w4 x25 := D24.trans (hb25.mono D24.size); clear N25 D24 hb25 s23_24 s24_24))
        have HBZ : Hid (Below w.heap.size w x25) := HB4.out.trans (D25.mono HB4.out.size)
        clear D25
        go_wp2
        go_ret
        exact ⟨rfl, HBZ.out⟩
      · clear HF1 HF2 HF3 hspr hrr hsps hrs
        go_wp2_with fail
        refine (HR.out _ HB4.out).mono ?_
        rintro e w5 ⟨rfl, hb5⟩
        have HB5 : Hid (Below w.heap.size w w5) := HB4.out.trans (hb5.mono HB4.out.size)
        clear hb5
        go_wp2
        go_ret
        exact ⟨rfl, HB5.out⟩
    · clear HF1 HF2 HF3 hspr hrr
      go_wp2_with fail
      refine (HR.out _ HB4.out).mono ?_
      rintro e w5 ⟨rfl, hb5⟩
      have HB5 : Hid (Below w.heap.size w w5) := HB4.out.trans (hb5.mono HB4.out.size)
      clear hb5
      go_wp2
      go_ret
      exact ⟨rfl, HB5.out⟩
  · clear HF1 HF2 HF3
    go_wp2_with fail
    refine (HR.out _ HB4.out).mono ?_
    rintro e w5 ⟨rfl, hb5⟩
    have HB5 : Hid (Below w.heap.size w w5) := HB4.out.trans (hb5.mono HB4.out.size)
    clear hb5
    go_wp2
    go_ret
    exact ⟨rfl, HB5.out⟩
end Go.Proofs.YtbohpflbifoohaaGreatDoor
