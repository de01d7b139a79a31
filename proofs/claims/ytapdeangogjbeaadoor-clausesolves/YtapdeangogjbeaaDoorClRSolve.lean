/- The reference's Solve: its walk. -/
import Derived.Test.YtapdeangogjbeaaDoorClRApp
namespace Go.Proofs.YtapdeangogjbeaaDoor
open Go.RowKit Go.Deep

theorem or_pow24 (o k : Nat) (ho : o < 16777216) (hk : k < 24) : bits BinOp.or IntKind.u64 (o : Int) ((2 : Int) ^ k) = ((o ||| 2 ^ k : Nat) : Int) := by
  have h24 : 2 ^ k ≤ 2 ^ 24 := Nat.pow_le_pow_right (by omega) (by omega)
  have h63 : (2 : Nat) ^ 24 < 18446744073709551616 := by decide
  have e : ((2 : Int) ^ k) = ((2 ^ k : Nat) : Int) := by simp
  rw [e, bits_or_u64_nat o (2 ^ k) (by omega) (by omega)]
theorem infoInts : (Tryd.prog.info? 34).map (fun i => (i.zero, i.size, i.bytes)) = some (some (.slice none 0 0), 1, 24) := by kernel_rfl
theorem ints_new {H c : Nat} {w : World} {a : Option Addr} {l : List Int} {S : List (Option Nat)} (h : w.ownsRow H 3 1 (.slice a l.length c) l.length (icells l)) (hS : ∀ k, some k ∈ S → k < H) : IntsS S w a l := fun i hi => by
  obtain ⟨ad, e, h1, h2⟩ := ints_row h i hi
  refine ⟨ad, e, h1, fun hm => ?_, h2⟩
  have := hS _ hm
  rcases h.2 with ⟨e', e0⟩ | ⟨g, cap, cur, e', hB, _⟩
  · omega
  · subst e
    injection e' with e1 e2
    injection e1 with e1
    subst e1
    simp at this
    omega

set_option maxRecDepth 100000 in
set_option maxHeartbeats 1000000 in
theorem rsolve_any (n : Nat) (hn24 : n ≤ 24) (l : List (List Int)) (hls : LitsL n l) (h48 : ∀ c ∈ l, c.length ≤ 48) (hl200 : l.length ≤ 200) (a : Option Addr) (cap : Nat) (hnil : a = none → cap = 0) (w : World) (hI : ClsIn w a l) (r : Res) (hrun : Run n l st0 r) :
    Calls Tryd.prog 19 #[.int .i64 (n : Int), .slice a l.length cap] w fun e w' => RSolveAns r e w' ∧ Below w.heap.size w w' := by
  have HAPP := Lib.hid (fun ty => app_cls (w := w) ty hI hnil hl200)
  have HLS := Lib.hid hls
  have H48 := Lib.hid h48
  have HRUN := Lib.hid hrun
  clear hI hls h48 hrun hnil
  go_enter Tryd.func19, Tryd.ntmps19
  go_wp2_with (at_builtin; refine wpl_app rfl _ _ 22 rfl _ _ rfl rfl (HAPP.out _) ?_)
  intro aV w1 hat hbw
  have HS0 : Hid (RInv w w1 n l st0 r aV (.slice none 0 0) (.slice none 0 0) (.slice none 0 0) none 0) := ⟨by simpa [st0] using hat, fun i hi => by simp [st0] at hi, fun _ => rfl, good0 n, ⟨by have := free_le st0.told; simpa [st0] using this, fun d hd => by simp [st0] at hd, fun c hc => by simp [st0] at hc⟩, HRUN.out, hbw⟩
  clear hat hbw HAPP
  go_wp2_with fail
  go_loopg [8, 9, 10, 11, 12] (mu st0) (fun k aV tV dV mV pV wr => ∃ (s : St) (ta : Option Addr) (tc : Nat), tV = .slice ta s.told.length tc ∧ RInv w wr n l s r aV dV mV pV ta tc ∧ mu s ≤ k)
  case atStart => exact ⟨st0, none, 0, rfl, HS0.out, Nat.le_refl _⟩
  case round =>
    obtain ⟨s, ta, tc, rfl, hss, hmu⟩ := hrel
    clear HS0
    obtain ⟨cs, hcs, hck⟩ := hss.at'.arow
    obtain ⟨aa, ac, rfl, -, -⟩ := row_form hcs
    have hlp : LitsL n (l ++ s.prf) := litsL_append HLS.out hss.good.litsP
    have hpl := hss.good.pl
    have hll : (l ++ s.prf).length ≤ 2200 := by rw [List.length_append]; omega
    have hp48 : ∀ c ∈ l ++ s.prf, c.length ≤ 48 := fun c hc => by
      rcases List.mem_append.1 hc with h | h
      · exact H48.out c h
      · have := hss.tl.p c h; omega
    obtain ⟨t, b, hsp⟩ := spread_ex (l := l ++ s.prf) (v := (n : Int)) (by omega) hlp (free s.told) s.told (Nat.le_refl _) hss.good.cons hss.good.lits
    have HSPR0 := spread_any n hn24 (l ++ s.prf) hlp hp48 aa ac s.told ta tc wr (hck.cls hcs) (by omega) hss.told.ints hss.nil hss.good.cons hss.good.lits hss.tl.t t b hsp
    obtain ⟨hrun2, hnx⟩ := run_spread hsp hss.run
    obtain ⟨hgood2, hmu2⟩ := good_spread hn24 HLS.out hsp hss.good
    have hfew2 := few_spread (v := (n : Int)) (by omega) hlp hsp hss.good.cons hss.good.lits hss.tl.t
    have htlen : t.length ≤ 24 := by omega
    have HSS := Lib.hid hss
    have HRUN2 := Lib.hid hrun2
    have HNX := Lib.hid hnx
    have HGOOD2 := Lib.hid hgood2
    have hmu3 := Nat.le_trans hmu2 hmu
    have hsg : Hid (∀ s', stepF n l ⟨t, s.decs, s.prf⟩ = .inl s' → Good n s' ∧ mu s' < mu ⟨t, s.decs, s.prf⟩) := fun s' h => step_good (by omega) HLS.out hgood2 h
    have hdl : s.decs.length ≤ 24 := by have := hss.good.few; omega
    obtain ⟨ps, hps, -⟩ := hss.at'.prow
    obtain ⟨pa, pc, rfl, -, -⟩ := row_form hps
    obtain ⟨dcs, hds, -⟩ := hss.at'.drow
    obtain ⟨da, dc, hdv, -, -⟩ := row_form hds
    rw [List.length_map] at hdv
    subst hdv
    obtain ⟨ma, mc, hmv, -, -⟩ := row_form hss.at'.mrow
    rw [List.length_map] at hmv
    subst hmv
    clear hcs hck hlp hp48 hsp hrun2 hnx hgood2 hss hps hds hmu2 hmu
    generalize hL0 : (l ++ s.prf).length = L0 at *
    have HL0 := Lib.hid hL0
    have HSPR := Lib.hid HSPR0
    clear hL0 HSPR0
    by_cases hb : 0 ≤ b
    · -- a clause can't hold
      go_wp2_with fail
      refine HSPR.out.mono ?_
      rintro e w2 ⟨⟨ta2, tc2, rfl, -, -, -⟩, hb2⟩
      have HA2 := Lib.hid (HSS.out.at'.new hb2)
      have HBW2 : Hid (Below w.heap.size w w2) := HSS.out.below.trans (hb2.mono HSS.out.below.size)
      clear hb2 HSPR
      go_wp2_with fail
      go_loopw [15, 35] (fun cV kV wr3 => ∃ k : Nat, k ≤ s.decs.length ∧ kV = .int .i64 (k : Int) ∧ wr3.ownsRow w2.heap.size 3 1 cV ((refC s.decs).take k).length (icells ((refC s.decs).take k)) ∧ Below w2.heap.size w2 wr3) (fun _ kV _ => s.decs.length - (intOf kV).toNat)
      case atStart => exact ⟨0, Nat.zero_le _, rfl, World.ownsRow_nil _ _ _ _, Below.refl _ _⟩
      case round =>
        obtain ⟨w3, rfl⟩ : ∃ w3, w3 = wr := ⟨_, rfl⟩
        obtain ⟨k, hk, rfl, hrow, hb3⟩ := hrel
        have hHA3 := HA2.out.new hb3
        have HROW := Lib.hid hrow
        have HB3 := Lib.hid hb3
        have hs3 := hb3.size
        clear hrow hb3
        by_cases hlt : k < s.decs.length
        · have hI3 : IntsIn w3 ma (s.decs.map Prod.fst) := ints_row (c := mc) (by have := hHA3.mrow; rw [List.length_map] at this ⊢; exact this)
          obtain ⟨ad, rfl, hl', hc⟩ := hI3 k (by simpa using hlt)
          obtain ⟨d, hd⟩ : ∃ d, s.decs[k]? = some d := ⟨_, List.getElem?_eq_getElem hlt⟩
          have hx : (s.decs.map Prod.fst).getD k 0 = d.1 := by simp [List.getD_eq_getElem?_getD, hd]
          have hxl := litB_iff.1 (HSS.out.good.ds k d hd).2.2.2
          have HTK : Hid ((refC s.decs).take (k + 1) = (refC s.decs).take k ++ [-d.1]) := by
            have hk2 : k < (refC s.decs).length := by rw [refC_len]; exact hlt
            show _ = _
            rw [take_succ' hk2]
            simp [refC, List.getD_eq_getElem?_getD, hd]
          have htl : ((refC s.decs).take k).length = k := by rw [List.length_take, refC_len]; omega
          rw [hx] at hc
          generalize d.1 = x at *
          obtain ⟨hx1, hx2, hx3⟩ := hxl
          have hx4 : x ≤ 24 := by omega
          have hx5 : -24 ≤ x := by omega
          rw [htl] at HROW
          clear hI3 hd hx hHA3
          obtain ⟨i0, hin, hz0, hz1, hz2⟩ := info_parts infoInt
          go_wp2_with (first | (at_builtin; refine wpList_append_own_at _ rfl _ _ 35 rfl w2.heap.size 3 i0 (.int .i64 0) 1 8 Tryd.underlying35 hin hz0 hz1 hz2 rfl (by decide) _ _ _ rfl (HROW.out.alloc _) ⟨w3.heap.size, 0, none⟩ 1 1 [.int .i64 (-x)] rfl rfl ?c1 ?c2 ?c3 ?c4 ?c5 ?_))
          case c1 => exact cell_lit _ _ _
          case c2 => exact one_lit _
          case c3 => unfold maxLen; omega
          case c4 => omega
          case c5 => simp; omega
          intro v7 w7 hown7 hgrow7 _ _
          have HO7 : Hid (w7.ownsRow w2.heap.size 3 1 v7 ((refC s.decs).take (k + 1)).length (icells ((refC s.decs).take (k + 1)))) := by
            show World.ownsRow _ _ _ _ _ _ _
            rw [HTK.out, icells_snoc, List.length_append, htl]
            simpa using hown7
          have HB7 : Hid (Below w2.heap.size w2 w7) := (HB3.out.alloc hs3 _).grown hgrow7 (by simp; omega) (fun k hk => (HROW.out.lt k hk).1)
          clear hown7 hgrow7
          go_wp2
          go_roundw
          case rel => exact ⟨k + 1, hlt, by go_num, HO7.out, HB7.out⟩
          case measure => simp [intOf]; omega
        · obtain rfl : k = s.decs.length := by omega
          have hrow2 := HROW.out
          rw [show (refC s.decs).take s.decs.length = refC s.decs by rw [← refC_len s.decs, List.take_length], refC_len] at hrow2
          obtain ⟨ca, cc, rfl, hcc1, hcc2⟩ := row_form hrow2
          have HIK := Lib.hid (ints_new (l := refC s.decs) (by rw [refC_len]; exact hrow2) (fun k hk => (HA2.out.lt k hk).2))
          obtain ⟨ic, hic, hc0, hc1, hc2⟩ := info_parts infoCls
          obtain ⟨cs, hcs, hck⟩ := hHA3.arow
          rw [HL0.out] at hcs
          have HCS := Lib.hid hcs
          have HCK := Lib.hid hck
          have HA3 := Lib.hid hHA3
          have hsw := HBW2.out.size
          clear hcs hck hHA3 hrow2 HROW
          go_wp2_with (first | (at_builtin; refine wpList_append_own_at _ rfl _ _ 22 rfl w.heap.size 35 ic (.slice none 0 0) 1 24 Tryd.underlying22 hic hc0 hc1 hc2 rfl (by decide) _ _ _ rfl (HCS.out.alloc _) ⟨w3.heap.size, 0, none⟩ 1 1 [.slice ca s.decs.length cc] rfl rfl ?c1 ?c2 ?c3 ?c4 ?c5 ?_))
          case c1 => exact World.news_of_block (heap_alloc_new w3 _)
          case c2 => intro u hu; rw [List.mem_singleton] at hu; subst hu; rfl
          case c3 => unfold maxLen; omega
          case c4 => omega
          case c5 => rw [World.size_alloc]; omega
          intro aV' w7 hown7 hgrow7 _ hloc7
          have hbn := below_new w3 (.cells #[.slice ca s.decs.length cc] 35)
          rw [← World.size_alloc w3 (.cells #[.slice ca s.decs.length cc] 35)] at hloc7
          have ha7 := (HA3.out.new hbn).grow_a (c := refC s.decs) (a := ca) (cap := cc) (cs := cs) (HCK.out.new hbn) (by rw [HL0.out, refC_len]; exact hown7) hgrow7 hloc7 ⟨by rw [refC_len]; exact hcc1, hcc2⟩ (HIK.out.new hbn)
          have hi7 := (HIK.out.new hbn).grown hgrow7 (by simp [own4]) (nw_a hloc7)
          have hb7 : Below w.heap.size w w7 := ((HBW2.out.trans (HB3.out.mono hsw)).trans (hbn.mono (by omega))).grown hgrow7 (by rw [World.size_alloc]; omega) (fun k hk => (HCS.out.lt k hk).1)
          obtain ⟨aa', ac', rfl, -, -⟩ := row_form hown7
          obtain ⟨ps, hps, hpk⟩ := ha7.prow
          have HPS := Lib.hid hps
          have HPK := Lib.hid hpk
          have HA7 := Lib.hid ha7
          have HI7 := Lib.hid hi7
          have HB7 := Lib.hid hb7
          have hs7 := hb7.size
          clear hown7 hgrow7 hloc7 hbn ha7 hi7 hb7 hps hpk HCS HCK HA3 HIK HA2 HB3
          go_wp2_with (first | (at_builtin; refine wpList_append_own_at _ rfl _ _ 22 rfl w.heap.size 35 ic (.slice none 0 0) 1 24 Tryd.underlying22 hic hc0 hc1 hc2 rfl (by decide) _ _ _ rfl (HPS.out.alloc _) ⟨w7.heap.size, 0, none⟩ 1 1 [.slice ca s.decs.length cc] rfl rfl ?c1 ?c2 ?c3 ?c4 ?c5 ?_))
          case c1 => exact World.news_of_block (heap_alloc_new w7 _)
          case c2 => intro u hu; rw [List.mem_singleton] at hu; subst hu; rfl
          case c3 => unfold maxLen; omega
          case c4 => omega
          case c5 => rw [World.size_alloc]; omega
          intro pV' w9 hown9 hgrow9 _ hloc9
          have hbn := below_new w7 (.cells #[.slice ca s.decs.length cc] 35)
          rw [← World.size_alloc w7 (.cells #[.slice ca s.decs.length cc] 35)] at hloc9
          have ha9 := (HA7.out.new hbn).grow_p (c := refC s.decs) (a := ca) (cap := cc) (cs := ps) (HPK.out.new hbn) (by rw [refC_len]; exact hown9) hgrow9 hloc9 ⟨by rw [refC_len]; exact hcc1, hcc2⟩ (HI7.out.new hbn)
          have hb9 : Below w.heap.size w w9 := (HB7.out.trans (hbn.mono hs7)).grown hgrow9 (by rw [World.size_alloc]; omega) (fun k hk => (HPS.out.lt k hk).1)
          obtain ⟨pa', pc', rfl, -, -⟩ := row_form hown9
          rw [List.append_assoc] at ha9
          have HA9 := Lib.hid ha9
          have HB9 := Lib.hid hb9
          clear hown9 hgrow9 hloc9 hbn ha9 hb9 HPS HPK HA7 HI7 HB7
          by_cases hd0 : s.decs = []
          · have HRES := Lib.hid (HRUN2.out.at_done (step_unsat (s := ⟨t, s.decs, s.prf⟩) HNX.out hb hd0))
            have hdz : s.decs.length = 0 := by rw [hd0]; rfl
            obtain ⟨qs, hqs, hqk⟩ := HA9.out.prow
            have HPC := Lib.hid (hqk.cls (a := pa') (cap := pc') (by have := hqs; rw [List.length_append, List.length_singleton] at this ⊢; exact this))
            clear hqs hqk
            rw [hdz] at *
            go_wp2
            refine bodyPost_ret (v := .tuple #[.bool false, .int .u64 0, .slice pa' (s.prf.length + 1) pc', .bool true]) (by simp [results, Tryd.results19, go_sem]) rfl ?_
            exact ⟨Or.inr (Or.inl ⟨_, pa', pc', HRES.out, by rw [List.length_append]; rfl, HPC.out, by rw [List.length_append, List.length_singleton]; omega⟩), HB9.out⟩
          · obtain ⟨ds, ⟨y, t1⟩, hds⟩ : ∃ ds d, s.decs = ds ++ [d] := ⟨_, _, (List.dropLast_concat_getLast hd0).symm⟩
            have hdlen : s.decs.length = ds.length + 1 := by rw [hds]; simp
            by_cases hlim : s.prf.length + 1 = 2000
            · have HRES := Lib.hid (HRUN2.out.at_done (step_limit (s := ⟨t, s.decs, s.prf⟩) HNX.out hb hds hlim))
              have hdn : ((s.decs.length : Int) == 0) = false := by simp; omega
              clear hds hd0
              generalize s.decs.length = D at *
              go_wp2
              refine bodyPost_ret (v := .tuple #[.bool false, .int .u64 0, .slice none 0 0, .bool false]) (by simp [results, Tryd.results19, go_sem]) rfl ?_
              exact ⟨Or.inr (Or.inr ⟨HRES.out, rfl⟩), HB9.out⟩
            · have hst := step_back (v := n) (s := ⟨t, s.decs, s.prf⟩) HNX.out hb hds hlim
              have HGO := Lib.hid (HRUN2.out.at_go hst)
              have HGD := Lib.hid (hsg.out _ hst).1
              have hmu4 := (hsg.out _ hst).2
              have hA : RAt w.heap.size w9 (l ++ (s.prf ++ [refC s.decs])) (s.prf ++ [refC s.decs]) (ds.map Prod.fst ++ [y]) (ds.map Prod.snd ++ [t1]) (.slice aa' (L0 + 1) ac') (.slice pa' (s.prf.length + 1) pc') (.slice da ((ds.map Prod.snd).length + 1) dc) (.slice ma ((ds.map Prod.fst).length + 1) mc) := by
                have := HA9.out
                rw [show s.decs.map Prod.fst = ds.map Prod.fst ++ [y] by rw [hds]; simp, show s.decs.map Prod.snd = ds.map Prod.snd ++ [t1] by rw [hds]; simp, hdlen] at this
                rw [List.length_map, List.length_map]
                exact this
              obtain ⟨g, gm, ta3, tc3, rfl, rfl, hgl, hgml, hdc, hmc, hcell, htc, hti3, hpop⟩ := hA.pop
              rw [List.length_map] at hdc hmc hcell hti3 hpop
              rw [List.length_map] at hti3 hpop
              have hlt2 : s.prf.length + 1 < 2000 := by omega
              have HS5 : Hid (∀ q, RInv w (w9.drewN q) n l ⟨t1, ds, s.prf ++ [refC s.decs]⟩ r (.slice aa' (L0 + 1) ac') (.slice (some ⟨g, 0, none⟩) ds.length dc) (.slice (some ⟨gm, 0, none⟩) ds.length mc) (.slice pa' (s.prf.length + 1) pc') ta3 tc3) := fun q => by
                have hbq : Below w9.heap.size w9 (w9.drewN q) := ⟨rfl, rfl, rfl, Nat.le_refl _, fun _ _ => rfl⟩
                exact ⟨hpop.new hbq, hti3.new hbq, htc, HGD.out, ⟨HSS.out.tl.d (y, t1) (by rw [hds]; simp), fun d hd => HSS.out.tl.d d (by rw [hds]; simp [hd]), fun c hc => (by
                  rcases List.mem_append.1 hc with h | h
                  · exact HSS.out.tl.p c h
                  · rw [List.mem_singleton] at h; rw [h, refC_len]; exact hdl)⟩, HGO.out, HB9.out.trans (hbq.mono HB9.out.size)⟩
              clear hA hst hti3 hpop htc hds hd0
              have hdn : (((ds.length + 1 : Nat) : Int) == 0) = false := by simp; omega
              have hsub : ((ds.length + 1 : Nat) : Int) - 1 = (ds.length : Int) := by omega
              generalize hS2 : s.decs.length = D at *
              subst hdlen
              clear hS2
              go_wp2_with fail
              go_quiet (fail)
              go_wp2
              go_roundg (mu ⟨t1, ds, s.prf ++ [refC s.decs]⟩)
              case rel => exact ⟨⟨t1, ds, s.prf ++ [refC s.decs]⟩, ta3, tc3, rfl, HS5.out _, Nat.le_refl _⟩
              case measure => exact Nat.lt_of_lt_of_le hmu4 hmu3
    · go_wp2_with fail
      refine HSPR.out.mono ?_
      rintro e w2 ⟨⟨ta2, tc2, rfl, hti, hnil2, hloc⟩, hb2⟩
      have HA2 := Lib.hid (HSS.out.at'.new hb2)
      have HBW2 : Hid (Below w.heap.size w w2) := HSS.out.below.trans (hb2.mono HSS.out.below.size)
      have HT2 := Lib.hid (HSS.out.told.loc hti hloc (fun k hk => (HSS.out.at'.lt k hk).2))
      have HHAS : Hid (∀ x, Calls Tryd.prog 30 #[.slice ta2 t.length tc2, .int .i64 x] w2 fun e w' => e = .returned (.bool (decide (x ∈ t))) ∧ w2 = w') := fun x => has_any t x ta2 tc2 w2 hti (by omega)
      have HNIL := Lib.hid hnil2
      clear hb2 HSPR hti hnil2 hloc
      go_wp2_with fail
      go_loop [18] (fun kV => ∃ k : Nat, k ≤ n ∧ kV = .int .i64 ((k : Int) + 1) ∧ ∀ j, j < k → tv t j ≠ 0) (fun kV => n + 1 - (intOf kV).toNat)
      case atStart => exact ⟨0, Nat.zero_le _, rfl, fun j h => by omega⟩
      case round =>
        obtain ⟨k, hk, rfl, h1⟩ := hrel
        have H1 := Lib.hid h1
        clear h1
        by_cases hlt : k < n
        · have HH1 := HHAS.out ((k : Int) + 1)
          have HH2 := HHAS.out (-((k : Int) + 1))
          have hle : decide ((k : Int) + 1 ≤ (n : Int)) = true := by simp; omega
          by_cases q1 : ((k : Int) + 1) ∈ t
          · rw [decide_eq_true q1] at HH1
            have HA := Lib.hid HH1
            have HTV : Hid (tv t k ≠ 0) := by show tv t k ≠ 0; unfold tv; rw [if_pos q1]; omega
            clear HH1 HH2 q1
            go_wp2_with fail
            refine HA.out.mono ?_
            rintro e w3 ⟨rfl, rfl⟩
            go_wp2
            go_round
            case rel => exact ⟨k + 1, hlt, by go_num, fun j hj => (by
              rcases Nat.lt_succ_iff_lt_or_eq.1 hj with e | e
              · exact H1.out j e
              · rw [e]; exact HTV.out)⟩
            case measure => simp [intOf]; omega
          · rw [decide_eq_false q1] at HH1
            have HA := Lib.hid HH1
            by_cases q2 : (-((k : Int) + 1)) ∈ t
            · rw [decide_eq_true q2] at HH2
              have HA2' := Lib.hid HH2
              have HTV : Hid (tv t k ≠ 0) := by show tv t k ≠ 0; unfold tv; rw [if_neg q1, if_pos (by simpa using q2)]; omega
              clear HH1 HH2 q1 q2
              go_wp2_with fail
              refine HA.out.mono ?_
              rintro e w3 ⟨rfl, rfl⟩
              go_wp2_with fail
              refine HA2'.out.mono ?_
              rintro e w3 ⟨rfl, rfl⟩
              go_wp2
              go_round
              case rel => exact ⟨k + 1, hlt, by go_num, fun j hj => (by
                rcases Nat.lt_succ_iff_lt_or_eq.1 hj with e | e
                · exact H1.out j e
                · rw [e]; exact HTV.out)⟩
              case measure => simp [intOf]; omega
            · rw [decide_eq_false q2] at HH2
              have HA2' := Lib.hid HH2
              have HTV : Hid (tv t k = 0) := by show tv t k = 0; unfold tv; rw [if_neg q1, if_neg (by simpa using q2)]
              clear HH1 HH2
              have hst := step_dec (v := n) (s := ⟨t, s.decs, s.prf⟩) HNX.out (by omega) (by rw [least_hit H1.out hlt HTV.out]; omega)
              rw [least_hit H1.out hlt HTV.out] at hst
              have HGO := Lib.hid (HRUN2.out.at_go hst)
              have HGD := Lib.hid (hsg.out _ hst).1
              have hmu4 := (hsg.out _ hst).2
              have hft : free (t ++ [(k : Int) + 1]) < free t := free_tell (litB_iff.2 ⟨by omega, by omega, by omega⟩) q1 q2
              have HTL : Hid (TL ⟨t ++ [(k : Int) + 1], s.decs ++ [((k : Int) + 1, t)], s.prf⟩) := ⟨by simp; omega, fun d hd => (by
                rcases List.mem_append.1 hd with h | h
                · exact HSS.out.tl.d d h
                · rw [List.mem_singleton] at h; rw [h]; exact hfew2), HSS.out.tl.p⟩
              obtain ⟨i0, hin, hz0, hz1, hz2⟩ := info_parts infoInt
              obtain ⟨ii, hii, hy0, hy1, hy2⟩ := info_parts infoInts
              obtain ⟨dcs, hds, hdk⟩ := HA2.out.drow
              rw [List.length_map] at hds
              have HDS := Lib.hid hds
              have HDK := Lib.hid hdk
              have hsw := HBW2.out.size
              clear hst q1 q2 hft hds hdk H1 HTV
              go_wp2_with fail
              refine HA.out.mono ?_
              rintro e w3 ⟨rfl, rfl⟩
              go_wp2_with fail
              refine HA2'.out.mono ?_
              rintro e w3 ⟨rfl, rfl⟩
              go_wp2_with (first | (at_builtin; refine wpList_append_own_at _ rfl _ _ 73 rfl w.heap.size 34 ii (.slice none 0 0) 1 24 Tryd.underlying73 hii hy0 hy1 hy2 rfl (by decide) _ _ _ rfl (HDS.out.alloc _) ⟨w2.heap.size, 0, none⟩ 1 1 [.slice ta2 t.length tc2] rfl rfl ?c1 ?c2 ?c3 ?c4 ?c5 ?_))
              case c1 => exact World.news_of_block (heap_alloc_new w2 _)
              case c2 => intro u hu; rw [List.mem_singleton] at hu; subst hu; rfl
              case c3 => unfold maxLen; omega
              case c4 => omega
              case c5 => rw [World.size_alloc]; omega
              intro dV' w5 hown5 hgrow5 _ hloc5
              have hbn := below_new w2 (.cells #[.slice ta2 t.length tc2] 34)
              rw [← World.size_alloc w2 (.cells #[.slice ta2 t.length tc2] 34)] at hloc5
              have ha5 := (HA2.out.new hbn).grow_d (c := t) (a := ta2) (cap := tc2) (cs := dcs) (HDK.out.new hbn) (by rw [List.length_map]; exact hown5) hgrow5 hloc5 HNIL.out (HT2.out.new hbn)
              have ht5 := (HT2.out.new hbn).grown hgrow5 (by simp [own4]) (nw_d hloc5)
              have hb5 : Below w.heap.size w w5 := (HBW2.out.trans (hbn.mono hsw)).grown hgrow5 (by rw [World.size_alloc]; omega) (fun k hk => (HDS.out.lt k hk).1)
              obtain ⟨da', dc', rfl, -, -⟩ := row_form hown5
              have hm5 := ha5.mrow
              rw [List.length_map] at hm5
              have HM5 := Lib.hid hm5
              have HA5 := Lib.hid ha5
              have HT5 := Lib.hid ht5
              have HB5 := Lib.hid hb5
              have hs5 := hb5.size
              clear hown5 hgrow5 hloc5 hbn ha5 ht5 hb5 hm5 HDS HDK HA2 HT2 HHAS HA HA2'
              go_wp2_with (first | (at_builtin; refine wpList_append_own_at _ rfl _ _ 34 rfl w.heap.size 3 i0 (.int .i64 0) 1 8 Tryd.underlying34 hin hz0 hz1 hz2 rfl (by decide) _ _ _ rfl (HM5.out.alloc _) ⟨w5.heap.size, 0, none⟩ 1 1 [.int .i64 ((k : Int) + 1)] rfl rfl ?c1 ?c2 ?c3 ?c4 ?c5 ?_))
              case c1 => exact cell_lit _ _ _
              case c2 => exact one_lit _
              case c3 => unfold maxLen; omega
              case c4 => omega
              case c5 => rw [World.size_alloc]; omega
              intro mV' w6 hown6 hgrow6 _ hloc6
              have hbn := below_new w5 (.cells #[.int .i64 ((k : Int) + 1)] 3)
              rw [← World.size_alloc w5 (.cells #[.int .i64 ((k : Int) + 1)] 3)] at hloc6
              have ha6 := (HA5.out.new hbn).grow_m (x := (k : Int) + 1) (by rw [icells_snoc, List.length_append, List.length_map]; exact hown6) hgrow6 hloc6
              have ht6 := (HT5.out.new hbn).grown hgrow6 (by simp [own4]) (nw_m hloc6)
              have hb6 : Below w.heap.size w w6 := (HB5.out.trans (hbn.mono hs5)).grown hgrow6 (by rw [World.size_alloc]; omega) (fun k hk => (HM5.out.lt k hk).1)
              obtain ⟨ma', mc', rfl, -, -⟩ := row_form hown6
              have eA := World.ownsRow_lit (base := w6.heap.size) (e := 3) (size := 1) w6 #[] 0 (Nat.le_refl _) (by decide) rfl
              have bA := below_new w6 (.cells #[] 3)
              have HAT := Lib.hid (fun ty => app_told (H := w6.heap.size) (k := w6.heap.size) (told := t) (ta := ta2) (tc := tc2) ty eA (ht6.ints.below bA) HNIL.out htlen bA.size)
              have HA6 := Lib.hid ha6
              have HB6 := Lib.hid hb6
              have HBA := Lib.hid bA
              have hs6 := hb6.size
              clear hown6 hgrow6 hloc6 hbn ha6 ht6 hb6 eA bA HM5 HA5 HT5 HB5
              go_wp2_with (first | (at_builtin; refine wpl_app rfl _ _ 34 rfl _ _ rfl rfl (HAT.out _) ?_))
              intro v8 w8 hr8 hg8
              have hb8 : Below w6.heap.size w6 w8 := HBA.out.grown hg8 HBA.out.size (fun k hk => by simp at hk; omega)
              obtain ⟨ra, rc, rfl, -, -⟩ := row_form hr8
              have HR8 := Lib.hid hr8
              have HB8 := Lib.hid hb8
              have hs8 := hb8.size
              clear hr8 hg8 hb8 HAT HBA
              go_wp2_with (first | (at_builtin; refine wpList_append_own_at _ rfl _ _ 34 rfl w6.heap.size 3 i0 (.int .i64 0) 1 8 Tryd.underlying34 hin hz0 hz1 hz2 rfl (by decide) _ _ _ rfl (HR8.out.alloc _) ⟨w8.heap.size, 0, none⟩ 1 1 [.int .i64 ((k : Int) + 1)] rfl rfl ?c1 ?c2 ?c3 ?c4 ?c5 ?_))
              case c1 => exact cell_lit _ _ _
              case c2 => exact one_lit _
              case c3 => unfold maxLen; omega
              case c4 => omega
              case c5 => rw [World.size_alloc]; omega
              intro v9 w9 hown9 hgrow9 _ _
              have hr9 : w9.ownsRow w6.heap.size 3 1 v9 (t ++ [(k : Int) + 1]).length (icells (t ++ [(k : Int) + 1])) := by rw [icells_snoc]; simpa using hown9
              have hb9 : Below w6.heap.size w6 w9 := (HB8.out.alloc hs8 _).grown hgrow9 (by rw [World.size_alloc]; omega) (fun k hk => (HR8.out.lt k hk).1)
              obtain ⟨ta9, tc9, rfl, -, -⟩ := row_form hr9
              have HS9 : Hid (RInv w w9 n l ⟨t ++ [(k : Int) + 1], s.decs ++ [((k : Int) + 1, t)], s.prf⟩ r _ _ _ _ ta9 tc9) := ⟨by have := HA6.out.new hb9; simpa using this, ints_new hr9 (fun k hk => (HA6.out.lt k hk).2), row_nil hr9, HGD.out, HTL.out, HGO.out, HB6.out.trans (hb9.mono hs6)⟩
              clear hown9 hgrow9 hr9 hb9 HR8 HB8 HA6 HB6
              go_wp2
              go_roundg (mu ⟨t ++ [(k : Int) + 1], s.decs ++ [((k : Int) + 1, t)], s.prf⟩)
              case rel => exact ⟨⟨t ++ [(k : Int) + 1], s.decs ++ [((k : Int) + 1, t)], s.prf⟩, ta9, tc9, rfl, HS9.out, Nat.le_refl _⟩
              case measure => exact Nat.lt_of_lt_of_le hmu4 hmu3
        · obtain rfl : k = n := by omega
          have HRES := Lib.hid (HRUN2.out.at_done (step_sat (s := ⟨t, s.decs, s.prf⟩) HNX.out (by omega) (by rw [least_none H1.out]; omega)))
          have HTI := Lib.hid HT2.out.ints
          have HLT := Lib.hid HGOOD2.out.lits
          clear H1 HHAS
          go_wp2_with fail
          go_loop [19, 98] (fun vV jV => ∃ j : Nat, j ≤ t.length ∧ jV = .int .i64 (j : Int) ∧ vV = .int .u64 ((orF (t.take j) : Nat) : Int)) (fun _ jV => t.length - (intOf jV).toNat)
          case atStart => exact ⟨0, Nat.zero_le _, rfl, rfl⟩
          case round =>
            obtain ⟨j, hj, rfl, rfl⟩ := hrel
            by_cases hjl : j < t.length
            · obtain ⟨ad, rfl, hl', hc⟩ := HTI.out j hjl
              have hlx := litB_iff.1 (HLT.out _ (getD_mem (d := 0) hjl))
              have HSN : Hid (orF (t.take (j + 1)) = orS (orF (t.take j)) (t.getD j 0)) := by show _ = _; rw [take_succ' hjl, orF_snoc]
              have hN : orF (t.take j) < 16777216 := orF_lt hn24 (fun x hx => HLT.out x (List.mem_of_mem_take hx))
              generalize t.getD j 0 = x at *
              generalize orF (t.take j) = o at *
              obtain ⟨hx1, hx2, hx3⟩ := hlx
              by_cases hp : 0 < x
              · obtain ⟨m, hm⟩ : ∃ m : Nat, x = (m : Int) + 1 := ⟨x.toNat - 1, by omega⟩
                subst hm
                have hm24 : m < 24 := by omega
                have hi0 : (0 : Int) ≤ (m : Int) := by omega
                have hi1 : (m : Int) < 24 := by omega
                have hor := or_pow24 o m hN hm24
                have hsh := shl_pow hm24
                have hw2 : IntKind.u64.wrap ((2 : Int) ^ m) = (2 : Int) ^ m := by rw [show min m 64 = m by omega] at hsh; exact hsh
                have HOR := Lib.hid hor
                have HSH := Lib.hid hsh
                have HW2 := Lib.hid hw2
                have HN2 : Hid (orF (t.take (j + 1)) = o ||| 2 ^ m) := by
                  show _ = _
                  rw [HSN.out]; unfold orS; rw [if_pos hp]
                  congr 2
                clear hor hsh hw2
                go_wp2
                go_round
                case rel => exact ⟨j + 1, hjl, by go_num, congrArg (Value.int .u64) (by rw [HN2.out]; first | exact HOR.out | (rw [HW2.out]; exact HOR.out) | (rw [HSH.out]; exact HOR.out))⟩
                case measure => simp [intOf]; omega
              · have HN2 : Hid (orF (t.take (j + 1)) = o) := by show _ = _; rw [HSN.out]; unfold orS; rw [if_neg hp]
                go_wp2
                go_round
                case rel => exact ⟨j + 1, hjl, by go_num, by rw [HN2.out]⟩
                case measure => simp [intOf]; omega
            · obtain rfl : j = t.length := by omega
              rw [List.take_length, orF_num hn24 HLT.out]
              go_wp2
              refine bodyPost_ret (v := .tuple #[.bool true, .int .u64 ((numF t 24 : Nat) : Int), .slice none 0 0, .bool true]) (by simp [results, Tryd.results19, go_sem]) rfl ?_
              exact ⟨Or.inl ⟨t, HRES.out, rfl⟩, HBW2.out⟩
end Go.Proofs.YtapdeangogjbeaaDoor
