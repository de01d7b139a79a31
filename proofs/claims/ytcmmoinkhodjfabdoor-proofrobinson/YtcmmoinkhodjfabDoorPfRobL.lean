/- The walk of ProofRobinson. -/
import Derived.Test.YtcmmoinkhodjfabDoorPfRobM
import Derived.Test.YtcmmoinkhodjfabDoorPfRes
import Derived.Test.YtcmmoinkhodjfabDoorPfShown
import Derived.Test.YtcmmoinkhodjfabDoorPfPick
import Derived.Test.YtcmmoinkhodjfabDoorClApp
import Derived.Test.YtcmmoinkhodjfabDoorClSameI
import Derived.Test.YtcmmoinkhodjfabDoorErTell
namespace Go.Proofs.YtcmmoinkhodjfabDoor
open Go.RowKit Go.Deep

theorem form_res {p q : List Int} {v : Int} {c : List Int} (h : resF p q v = (0, c)) : formF c = (c, false) := by
  unfold resF at h
  split at h
  · split at h
    · cases h
    · rename_i hc ha
      injection h with _ h
      subst h
      have ha' : alwaysF (resolveF (sidesF p) (sidesF q) v.toNat) = false := by simpa using ha
      unfold formF
      rw [sides_clauseF (resolve_small (sides_small p) (sides_small q)) ha', ha']
      rfl
  · cases h
theorem res_two {p q : List Int} {n : Nat} (hn : n < 24) (hp : (n : Int) + 1 ∈ p) (hq : -((n : Int) + 1) ∈ q) : (resF p q n).1 = 0 ∨ resF p q n = (8, []) := by
  unfold resF
  rw [if_pos ⟨by omega, by omega, hp, hq⟩]
  split
  · exact Or.inr rfl
  · exact Or.inl rfl

set_option maxRecDepth 100000 in
set_option maxHeartbeats 4000000 in
theorem robinson_any (p q : List Int) (v : Int) (vals : Nat) (hvl : vals < 18446744073709551616) (a1 a2 : Option Addr) (c1 c2 : Nat) (hn1 : a1 = none → c1 = 0) (hn2 : a2 = none → c2 = 0) (hp1 : p.length ≤ c1) (hp2 : c1 ≤ 9223372036854775807) (hq1 : q.length ≤ c2) (hq2 : c2 ≤ 9223372036854775807) (w : World) (hI1 : IntsIn w a1 p) (hI2 : IntsIn w a2 q) (hg : Glob w) :
    Calls Tryd.prog 3 #[.slice a1 p.length c1, .slice a2 q.length c2, .int .i64 v, .int .u64 (vals : Int)] w fun e w' => e = .returned (.bool true) ∧ Below w.heap.size w w' := by
  by_cases h30 : 30 < p.length
  · go_enter Tryd.func3, Tryd.ntmps3
    go_wp2
    go_ret
    exact ⟨rfl, Below.refl _ _⟩
  by_cases h31 : 30 < q.length
  · go_enter Tryd.func3, Tryd.ntmps3
    go_wp2
    go_ret
    exact ⟨rfl, Below.refl _ _⟩
  have hbn := below_new w (.cells #[.slice a1 p.length c1, .slice a2 q.length c2] 23)
  have hb2 := Blk.new w 23 #[.slice a1 p.length c1, .slice a2 q.length c2]
  have hcls : ClsIn (w.alloc (.cells #[.slice a1 p.length c1, .slice a2 q.length c2] 23)) (some ⟨w.heap.size, 0, none⟩) [p, q] := by
    intro i hl
    match i, hl with
    | 0, _ => exact ⟨_, _, _, rfl, hb2.lt, by rw [add_plain, hb2.cell]; rfl, hp1, hp2, hI1.below hbn⟩
    | 1, _ => exact ⟨_, _, _, rfl, hb2.lt, by rw [add_plain, hb2.cell]; rfl, hq1, hq2, hI2.below hbn⟩
  have HCH := Lib.hid (check_any 24 [p, q] (some ⟨w.heap.size, 0, none⟩) 2 _ hcls (by simp))
  have HB0 := Lib.hid hbn
  have HI1 := Lib.hid hI1
  have HI2 := Lib.hid hI2
  have HG := Lib.hid hg
  have HN1 := Lib.hid hn1
  have HN2 := Lib.hid hn2
  have HSH : Hid (∀ W : World, Calls Tryd.prog 9 #[] W fun e w' => e = .returned (.bool true) ∧ Below W.heap.size W w') := shown_any
  have HL2 : Hid (([p, q] : List (List Int)).length = 2) := rfl
  clear hbn hb2 hcls hI1 hI2 hg hn1 hn2
  generalize hpq : ([p, q] : List (List Int)) = pq at *
  have HPQ := Lib.hid hpq
  rw [HL2.out] at HCH
  clear hpq
  go_enter Tryd.func3, Tryd.ntmps3
  go_wp2_with fail
  refine HCH.out.mono ?_
  rintro e w1 ⟨er, rfl, her, hb1⟩
  have HB1 : Hid (Below w.heap.size w w1) := HB0.out.trans (hb1.mono HB0.out.size)
  clear hb1 HCH HB0
  by_cases hz : (checkF 24 pq).1 = 0
  · obtain ⟨_, _, _, hls, -, -⟩ := check_fine hz
    obtain rfl : er = .nilIface := by
      rcases her with h | h | ⟨h, _⟩
      · exact h.2.2
      · exact absurd hz h.1
      · exact absurd hz h
    have hlp : Lits 24 p := hls p (by rw [← HPQ.out]; simp)
    have hlq : Lits 24 q := hls q (by rw [← HPQ.out]; simp)
    have HPK := Lib.hid (pick_any v 24 (by omega) (by omega) w1)
    obtain ⟨n, hn⟩ : ∃ n, n = pickV v 24 := ⟨_, rfl⟩
    have hn24 : n < 24 := by rw [hn]; exact pickV_lt v (by omega)
    rw [← hn] at HPK
    have en : -(n : Int) - 1 = -((n : Int) + 1) := by omega
    have HLP := Lib.hid hlp
    have HLQ := Lib.hid hlq
    clear her hz hls hlp hlq hn
    go_wp2_with fail
    refine HPK.out.mono ?_
    rintro e w2 ⟨rfl, rfl⟩
    clear HPK
    have hws1 := HB1.out.size
    have HA1 : Hid (∀ ty, ∃ v' W', (Builtin.append_ #[23, 23] ty #[.slice (some ⟨w1.heap.size, 0, none⟩) 0 0, .slice a1 p.length c1]).run Tryd.prog (w1.alloc (.cells #[] 3)) = .ok v' W' ∧ AppR w.heap.size w1.heap.size p (w1.alloc (.cells #[] 3)) v' W') := fun ty =>
      app_all 23 ty Tryd.underlying23 (ownsRow_base (World.ownsRow_lit (base := w1.heap.size) (e := 3) (size := 1) w1 #[] 0 (Nat.le_refl _) (by decide) rfl) hws1) ((HI1.out.below HB1.out).below (below_new w1 _)) HN1.out (by omega) (by simp; omega)
    obtain ⟨i0, hin, hz0, hz1, hz2⟩ := info_parts infoInt
    go_wp2_with (first | (at_builtin; refine wpl_app rfl _ _ 23 rfl _ _ rfl rfl (HA1.out _) ?_))
    rintro v3 w3 ⟨hr3, hg3⟩
    obtain ⟨ra, rc, rfl, -, -⟩ := row_form hr3
    have hb3 : Below w.heap.size w w3 := (HB1.out.alloc hws1 _).grown hg3 (by simp; omega) (fun k hk => by injection hk; omega)
    have HB3 := Lib.hid hb3
    have HR3 := Lib.hid hr3
    have hws3 := hb3.size
    clear hr3 hg3 hb3 HA1
    go_wp2_with (first | (at_builtin; refine wpList_append_own_at _ rfl _ _ 23 rfl w.heap.size 3 i0 (.int .i64 0) 1 8 Tryd.underlying23 hin hz0 hz1 hz2 rfl (by decide) _ _ _ rfl (HR3.out.alloc _) ⟨w3.heap.size, 0, none⟩ 1 1 [.int .i64 ((n : Int) + 1)] rfl rfl ?c1 ?c2 ?c3 ?c4 ?c5 ?_))
    case c1 => exact cell_lit _ _ _
    case c2 => exact one_lit _
    case c3 => unfold maxLen; omega
    case c4 => omega
    case c5 => simp; omega
    intro v4 w4 hown4 hgrow4 _ _
    have hr4 : w4.ownsRow w.heap.size 3 1 v4 (p ++ [(n : Int) + 1]).length (icells (p ++ [(n : Int) + 1])) := by rw [icells_snoc]; simpa using hown4
    obtain ⟨pa, pc, rfl, -, -⟩ := row_form hr4
    have hb4 : Below w.heap.size w w4 := (HB3.out.alloc hws3 _).grown hgrow4 (by simp; omega) (fun k hk => (HR3.out.lt k hk).1)
    have HB4 := Lib.hid hb4
    have HR4 := Lib.hid hr4
    have hws4 := hb4.size
    clear hown4 hgrow4 hr4 hb4 HR3 HB3
    have HA2 : Hid (∀ ty, ∃ v' W', (Builtin.append_ #[23, 23] ty #[.slice (some ⟨w4.heap.size, 0, none⟩) 0 0, .slice a2 q.length c2]).run Tryd.prog (w4.alloc (.cells #[] 3)) = .ok v' W' ∧ AppR w4.heap.size w4.heap.size q (w4.alloc (.cells #[] 3)) v' W') := fun ty =>
      app_all 23 ty Tryd.underlying23 (World.ownsRow_lit (base := w4.heap.size) (e := 3) (size := 1) w4 #[] 0 (Nat.le_refl _) (by decide) rfl) ((HI2.out.below HB4.out).below (below_new w4 _)) HN2.out (by omega) (by simp)
    generalize hpl : (p ++ [(n : Int) + 1]).length = pl at *
    have HPL := Lib.hid hpl
    clear hpl
    go_wp2_with (first | (at_builtin; refine wpl_app rfl _ _ 23 rfl _ _ rfl rfl (HA2.out _) ?_))
    rintro v5 w5 ⟨hr5, hg5⟩
    obtain ⟨sa, sc, rfl, -, -⟩ := row_form hr5
    have hb5 : Below w4.heap.size w4 w5 := (below_new w4 _).grown hg5 (by simp) (fun k hk => by injection hk; omega)
    have HB5 := Lib.hid hb5
    have HR5 := Lib.hid hr5
    have hws5 := hb5.size
    clear hr5 hg5 hb5 HA2
    go_wp2_with (first | (at_builtin; refine wpList_append_own_at _ rfl _ _ 23 rfl w4.heap.size 3 i0 (.int .i64 0) 1 8 Tryd.underlying23 hin hz0 hz1 hz2 rfl (by decide) _ _ _ rfl (HR5.out.alloc _) ⟨w5.heap.size, 0, none⟩ 1 1 [.int .i64 (-((n : Int) + 1))] rfl rfl ?c1 ?c2 ?c3 ?c4 ?c5 ?_))
    case c1 => exact cell_lit _ _ _
    case c2 => exact one_lit _
    case c3 => unfold maxLen; omega
    case c4 => omega
    case c5 => simp; omega
    intro v6 w6 hown6 hgrow6 _ _
    have hr6 : w6.ownsRow w4.heap.size 3 1 v6 (q ++ [-((n : Int) + 1)]).length (icells (q ++ [-((n : Int) + 1)])) := by rw [icells_snoc]; simpa using hown6
    obtain ⟨qa, qc, rfl, -, -⟩ := row_form hr6
    have hb6 : Below w4.heap.size w4 w6 := (HB5.out.alloc hws5 _).grown hgrow6 (by simp; omega) (fun k hk => (HR5.out.lt k hk).1)
    have HIP : Hid (IntsIn w6 pa (p ++ [(n : Int) + 1])) := by
      have := HR4.out
      rw [← HPL.out] at this
      exact (ints_row this).below hb6
    have HIQ := Lib.hid (ints_row hr6)
    have HB6 : Hid (Below w.heap.size w w6) := HB4.out.trans (hb6.mono hws4)
    clear hown6 hgrow6 hr6 hb6 HR5 HB5 HR4 HB4
    rw [← HPL.out]
    have hlp' : Lits 24 (p ++ [(n : Int) + 1]) := lits_tell HLP.out (by rw [litB_iff]; omega)
    have hlq' : Lits 24 (q ++ [-((n : Int) + 1)]) := lits_tell HLQ.out (by rw [litB_iff]; omega)
    have hmp : (n : Int) + 1 ∈ p ++ [(n : Int) + 1] := by simp
    have hmq : -((n : Int) + 1) ∈ q ++ [-((n : Int) + 1)] := by simp
    have hpl : (p ++ [(n : Int) + 1]).length ≤ 31 := by simp; omega
    have hql : (q ++ [-((n : Int) + 1)]).length ≤ 31 := by simp; omega
    generalize p ++ [(n : Int) + 1] = P at *
    generalize q ++ [-((n : Int) + 1)] = R at *
    have HRV := Lib.hid (resolve_any P R n pa qa pc qc w6 HIP.out (by omega) HIQ.out (by omega))
    have hcase := res_two hn24 hmp hmq
    have hrl := res_len (p := P) (q := R) (v := n)
    have HFR : Hid (∀ c, resF P R n = (0, c) → formF c = (c, false)) := fun c h => form_res h
    have HROB : Hid (∀ c, resF P R n = (0, c) → holdK vals P = true → holdK vals R = true → holdK vals c = true) := fun c h => robinson hlp' hlq' h
    clear hlp' hlq' hmp hmq en
    generalize hrr : resF P R n = r at *
    obtain ⟨r1, r2⟩ := r
    simp only at hrl hcase
    clear hrr
    go_wp2_with fail
    refine HRV.out.mono ?_
    rintro e w7 ⟨⟨ca, cc, rfl, hrow⟩, hb7⟩
    have HB7 : Hid (Below w.heap.size w w7) := HB6.out.trans (hb7.mono HB6.out.size)
    have HIP7 := Lib.hid (HIP.out.below hb7)
    have HIQ7 := Lib.hid (HIQ.out.below hb7)
    have HIC := Lib.hid (ints_row hrow)
    clear hb7 hrow HRV HIP HIQ HB6
    simp only at *
    have HS1 := Lib.hid (HSH.out w7)
    rcases hcase with h0 | h8
    · subst h0
      have he : errN 0 = .nilIface := rfl
      rw [he]
      have HFO : Hid (∀ W, Below w7.heap.size w7 W → Calls Tryd.prog 11 #[.slice ca r2.length cc] W fun e w' => FormAns W.heap.size (r2, false) e w' ∧ Below W.heap.size W w') := fun W hW => by
        have := form_any r2 ca cc W (HIC.out.below hW) (by omega)
        rw [HFR.out r2 rfl] at this
        exact this
      have HROB2 := Lib.hid (HROB.out r2 rfl)
      clear HFR HROB he
      go_wp2_with fail
      refine HS1.out.mono ?_
      rintro e w8 ⟨rfl, hb8⟩
      have HF8 := Lib.hid (HFO.out w8 hb8)
      have HB8 := Lib.hid hb8
      clear hb8 HS1 HFO
      go_wp2_with fail
      refine HF8.out.mono ?_
      rintro e w9 ⟨⟨da, dc, rfl, hrow9⟩, hb9⟩
      have HB9 : Hid (Below w7.heap.size w7 w9) := HB8.out.trans (hb9.mono HB8.out.size)
      simp only at *
      have HSI := Lib.hid (same_ints r2 ca da cc dc w9 (HIC.out.below HB9.out) (ints_row hrow9) (by omega))
      clear hb9 hrow9 HF8
      go_wp2_with fail
      refine HSI.out.mono ?_
      rintro e w10 ⟨rfl, hb10⟩
      have HB10 : Hid (Below w7.heap.size w7 w10) := HB9.out.trans (hb10.mono HB9.out.size)
      have HH1 := Lib.hid (holds_any P pa pc vals hvl w10 (HIP7.out.below HB10.out) (by omega))
      clear hb10 HSI HB9 HB8
      cases hA : holdK vals P with
      | false =>
        rw [hA] at HH1
        clear hA HROB2
        go_wp2_with fail
        refine HH1.out.mono ?_
        rintro e w11 ⟨rfl, hb11⟩
        have HBX : Hid (Below w.heap.size w w11) := HB7.out.trans ((HB10.out.trans (hb11.mono HB10.out.size)).mono HB7.out.size)
        clear hb11 HH1
        go_wp2
        go_ret
        exact ⟨by first | rfl | simp, HBX.out⟩
      | true =>
        rw [hA] at HH1
        have HROB3 := Lib.hid (HROB2.out hA)
        clear hA HROB2
        go_wp2_with fail
        refine HH1.out.mono ?_
        rintro e w11 ⟨rfl, hb11⟩
        have HB11 : Hid (Below w7.heap.size w7 w11) := HB10.out.trans (hb11.mono HB10.out.size)
        have HH2 := Lib.hid (holds_any R qa qc vals hvl w11 (HIQ7.out.below HB11.out) (by omega))
        clear hb11 HH1
        cases hB : holdK vals R with
        | false =>
          rw [hB] at HH2
          clear hB HROB3
          go_wp2_with fail
          refine HH2.out.mono ?_
          rintro e w12 ⟨rfl, hb12⟩
          have HBX : Hid (Below w.heap.size w w12) := HB7.out.trans ((HB11.out.trans (hb12.mono HB11.out.size)).mono HB7.out.size)
          clear hb12 HH2
          go_wp2
          go_ret
          exact ⟨by first | rfl | simp, HBX.out⟩
        | true =>
          rw [hB] at HH2
          have hC := HROB3.out hB
          clear hB HROB3
          go_wp2_with fail
          refine HH2.out.mono ?_
          rintro e w12 ⟨rfl, hb12⟩
          have HB12 : Hid (Below w7.heap.size w7 w12) := HB11.out.trans (hb12.mono HB11.out.size)
          have HH3 := Lib.hid (holds_any r2 ca cc vals hvl w12 (HIC.out.below HB12.out) (by omega))
          rw [hC] at HH3
          clear hb12 HH2 hC
          go_wp2_with fail
          refine HH3.out.mono ?_
          rintro e w13 ⟨rfl, hb13⟩
          have HBX : Hid (Below w.heap.size w w13) := HB7.out.trans ((HB12.out.trans (hb13.mono HB12.out.size)).mono HB7.out.size)
          clear hb13 HH3
          go_wp2
          go_ret
          exact ⟨by first | rfl | simp, HBX.out⟩
    · injection h8 with h8a h8b
      subst h8a h8b
      have he : errN 8 = .iface 33 (.int .i64 8) := rfl
      rw [he]
      clear he HROB HFR
      go_wp2_with fail
      refine HS1.out.mono ?_
      rintro e w8 ⟨rfl, hb8⟩
      have HB8 : Hid (Below w.heap.size w w8) := HB7.out.trans (hb8.mono HB7.out.size)
      have HS2 := Lib.hid (HSH.out w8)
      clear hb8 HS1
      go_wp2_with fail
      refine HS2.out.mono ?_
      rintro e w9 ⟨rfl, hb9⟩
      have HB9 : Hid (Below w.heap.size w w9) := HB8.out.trans (hb9.mono HB8.out.size)
      have HT := Lib.hid (tell_errno 8 w9 (HG.out.below HB9.out))
      clear hb9 HS2
      go_wp2_with fail
      refine HT.out.mono ?_
      rintro e w10 ⟨rfl, hb10⟩
      have HBX : Hid (Below w.heap.size w w10) := HB9.out.trans (hb10.mono HB9.out.size)
      clear hb10 HT
      go_wp2
      go_ret
      exact ⟨by first | rfl | simp, HBX.out⟩
  · obtain ⟨tt, uu, rfl⟩ := err_form her hz
    clear her
    go_wp2
    go_ret
    exact ⟨rfl, HB1.out⟩
end Go.Proofs.YtcmmoinkhodjfabDoor
