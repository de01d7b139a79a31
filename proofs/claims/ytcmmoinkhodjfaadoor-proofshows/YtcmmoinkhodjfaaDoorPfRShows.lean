/- The reference's Shows. -/
import Derived.Test.YtcmmoinkhodjfaaDoorPfKB
import Derived.Test.YtcmmoinkhodjfaaDoorPfKnown
import Derived.Test.YtcmmoinkhodjfaaDoorClSpread
import Derived.Test.YtcmmoinkhodjfaaDoorClApp
namespace Go.Proofs.YtcmmoinkhodjfaaDoor
open Go.RowKit Go.Deep

def RShowsAns (v : Int) (l pr : List (List Int)) (e : Ending) : Prop :=
  (5000 < pr.length ∧ e = .returned (.tuple #[.bool false, .int .i64 0, .int .i64 4])) ∨
  (pr.length ≤ 5000 ∧ ∃ B n, e = .returned (.tuple #[.bool B, .int .i64 n, .int .i64 0]) ∧ ShowsR v l pr B n)

/-- What is told of a clause's other sides. -/
structure TI (v : Int) (c pre t : List Int) : Prop where
  mem : ∀ x, x ∈ t ↔ x ∈ negC pre
  nodup : t.Nodup
  lits : Lits v pre
  few : ¬ Both c → t.length + free t ≤ 24
theorem TI.start (v : Int) (c : List Int) : TI v c [] [] := ⟨fun x => by simp [negC], by simp, lits_nil v, fun _ => by decide⟩
theorem neg_snoc (pre : List Int) (x y : Int) : y ∈ negC (pre ++ [x]) ↔ y ∈ negC pre ∨ y = -x := by
  unfold negC
  rw [List.map_append, List.mem_append]
  simp
theorem TI.lit {v : Int} {c pre t : List Int} (h : TI v c pre t) : Lits v t := fun x hx => by
  have := litB_iff.1 (h.lits _ (mem_negC.1 ((h.mem x).1 hx)))
  rw [litB_iff]; omega
theorem TI.skip {v : Int} {c pre t : List Int} {x : Int} (h : TI v c pre t) (hx : litB v x = true) (hm : -x ∈ t) : TI v c (pre ++ [x]) t := by
  refine ⟨fun y => ?_, h.nodup, lits_tell h.lits hx, h.few⟩
  rw [neg_snoc, ← h.mem y]
  exact ⟨Or.inl, fun h2 => h2.elim id (fun e => by rw [e]; exact hm)⟩
theorem TI.tell {v : Int} {c pre t : List Int} {x : Int} (h : TI v c pre t) (hv : v ≤ 24) (hx : litB v x = true) (hxc : x ∈ c) (hp : ∀ y ∈ pre, y ∈ c) (hm : -x ∉ t) : TI v c (pre ++ [x]) (t ++ [-x]) := by
  refine ⟨fun y => ?_, ?_, lits_tell h.lits hx, fun hb => ?_⟩
  · rw [neg_snoc, List.mem_append, List.mem_singleton, h.mem y]
  · rw [List.nodup_append]
    refine ⟨h.nodup, by simp, fun y hy z hz => ?_⟩
    rw [List.mem_singleton] at hz
    subst hz
    exact fun e => hm (e ▸ hy)
  · have hn : - -x ∉ t := fun h2 => by
      rw [Int.neg_neg] at h2
      exact hb ⟨x, hxc, hp _ (mem_negC.1 ((h.mem x).1 h2))⟩
    have hl : litB 24 (-x) = true := by rw [litB_iff] at *; omega
    have := free_tell hl hm hn
    have := h.few hb
    rw [List.length_append, List.length_singleton]
    omega

/-- Between the rounds. -/
structure RI (v : Int) (l pr : List (List Int)) (w wr : World) (i : Nat) (kV : Value) : Prop where
  kb : KB w.heap.size wr kV (l ++ pr.take i)
  lits : LitsL v (l ++ pr.take i)
  ok : ∀ j, j < i → okAt v l pr j
  below : Below w.heap.size w wr
theorem RI.new {v : Int} {l pr : List (List Int)} {w wr w' : World} {i : Nat} {kV : Value} (h : RI v l pr w wr i kV) (hb : Below wr.heap.size wr w') : RI v l pr w w' i kV :=
  ⟨h.kb.new hb, h.lits, h.ok, h.below.trans (hb.mono h.below.size)⟩
def bothB (c : List Int) (j : Nat) : Bool := (c.take j).any fun x => decide (-x ∈ c)
theorem bothB_succ {c : List Int} {j : Nat} (h : j < c.length) : bothB c (j + 1) = (bothB c j || decide (-(c.getD j 0) ∈ c)) := by
  unfold bothB; rw [take_succ' h, List.any_append]; simp
theorem bothB_all (c : List Int) : bothB c c.length = true ↔ Both c := by
  unfold bothB
  rw [List.take_length, List.any_eq_true]
  exact ⟨fun ⟨x, hx, h⟩ => ⟨x, hx, of_decide_eq_true h⟩, fun ⟨x, hx, h⟩ => ⟨x, hx, decide_eq_true h⟩⟩

set_option maxRecDepth 100000 in
set_option maxHeartbeats 4000000 in
theorem rshows_any (v : Nat) (hv : v ≤ 24) (l pr : List (List Int)) (hls : LitsL v l) (hl200 : l.length ≤ 200) (a1 a2 : Option Addr) (c1 c2 : Nat) (hn : a1 = none → c1 = 0) (w : World) (hI : ClsIn w a1 l) (hI2 : ClsIn w a2 pr) (hm2 : pr.length ≤ 9223372036854775807) :
    Calls Tryd.prog 20 #[.int .i64 (v : Int), .slice a1 l.length c1, .slice a2 pr.length c2] w fun e w' => RShowsAns v l pr e ∧ Below w.heap.size w w' := by
  by_cases h5 : 5000 < pr.length
  · go_enter Tryd.func20, Tryd.ntmps20
    go_wp2
    go_ret3
    exact ⟨Or.inl ⟨h5, rfl⟩, Below.refl _ _⟩
  have HL5 : Hid (pr.length ≤ 5000) := by show pr.length ≤ 5000; omega
  have HAPP : Hid (∀ ty, ∃ v' W', (Builtin.append_ #[37, 37] ty #[.slice (some ⟨w.heap.size, 0, none⟩) 0 0, .slice a1 l.length c1]).run Tryd.prog (w.alloc (.cells #[] 23)) = .ok v' W' ∧ AppK w l v' W') := fun ty => app_clsK ty hI hn hl200
  have HI2 := Lib.hid hI2
  have HLS := Lib.hid hls
  clear hI hI2 hls hn
  go_enter Tryd.func20, Tryd.ntmps20
  go_wp2_with (first | (at_builtin; refine wpl_app rfl _ _ 37 rfl _ _ rfl rfl (HAPP.out _) ?_))
  rintro v1 w1 ⟨hkb, hb1⟩
  have HST : Hid (RI v l pr w w1 0 v1) := ⟨by rw [List.take_zero, List.append_nil]; exact hkb, by rw [List.take_zero, List.append_nil]; exact HLS.out, fun j hj => by omega, hb1⟩
  clear hkb hb1 HAPP
  go_wp2_with fail
  go_loopw [9, 26] (fun kV iV wr => ∃ (i : Nat), i ≤ pr.length ∧ iV = .int .i64 (i : Int) ∧ RI v l pr w wr i kV) (fun _ iV _ => pr.length - (intOf iV).toNat)
  case atStart => exact ⟨0, Nat.zero_le _, rfl, HST.out⟩
  case round =>
    obtain ⟨i, hi, rfl, hri⟩ := hrel
    obtain ⟨wo, rfl⟩ : ∃ wo, wo = wr := ⟨_, rfl⟩
    obtain ⟨ka, kc, rfl, hkl1, hkl2⟩ := hri.kb.form
    have HRI := Lib.hid hri
    clear hri HST
    have hkl : (l ++ pr.take i).length ≤ 5200 := by rw [List.length_append, List.length_take]; omega
    generalize hLL : (l ++ pr.take i).length = LL at *
    have HLL := Lib.hid hLL
    clear hLL
    by_cases hlt : i < pr.length
    · obtain ⟨ad, a', cap', rfl, hl, hcell0, g1, g2, g3⟩ := HI2.out i hlt
      have hcell := (HRI.out.below.cell (by rw [addr_block]; exact hl)).trans hcell0
      have HG3 := Lib.hid g3
      have HTK := Lib.hid (takeC hlt)
      have HNOK : Hid (¬ okAt v l pr i → ShowsR v l pr false (i : Int)) := fun h => Or.inl ⟨i, hlt, rfl, rfl, h, HRI.out.ok⟩
      have HOKD : Hid (okAt v l pr i ↔ Lits v (pr.getD i []) ∧ (Both (pr.getD i []) ∨ Conf (l ++ pr.take i) (negC (pr.getD i [])))) := Iff.rfl
      generalize pr.getD i [] = c at *
      clear g3 hcell0 hl
      go_wp2_with fail
      go_loopw [12, 13, 33] (fun tV bV jV wr => ∃ (j : Nat) (t : List Int), j ≤ c.length ∧ jV = .int .i64 (j : Int) ∧ bV = .bool (bothB c j) ∧ TI v c (c.take j) t ∧ wr.ownsRow wo.heap.size 3 1 tV t.length (icells t) ∧ Below wo.heap.size wo wr) (fun _ _ jV _ => c.length - (intOf jV).toNat)
      case atStart => exact ⟨0, [], Nat.zero_le _, rfl, rfl, TI.start _ _, World.ownsRow_nil _ _ _ _, Below.refl _ _⟩
      case round =>
        obtain ⟨j, t, hj, rfl, rfl, hti, hrow, hb2⟩ := hrel
        obtain ⟨wi, rfl⟩ : ∃ wi, wi = wr := ⟨_, rfl⟩
        obtain ⟨ta, tc, rfl, -, -⟩ := row_form hrow
        have HTI := Lib.hid hti
        have HROW := Lib.hid hrow
        have HB2 := Lib.hid hb2
        have htl : t.length ≤ 48 := nodup_small hti.nodup fun x hx => lit_24 (by omega) (hti.lit x hx)
        have hws := hb2.size
        clear hti hrow hb2
        by_cases hjl : j < c.length
        · obtain ⟨ad2, rfl, hl2, hc2⟩ := HG3.out.below (HRI.out.below.trans (HB2.out.mono HRI.out.below.size)) j hjl
          have hxm := getD_mem (d := 0) hjl
          have HTK2 := Lib.hid (take_succ' hjl)
          have HBS := Lib.hid (bothB_succ hjl)
          have HHC : Hid (∀ x, Calls Tryd.prog 25 #[.slice (some ad2) c.length cap', .int .i64 x] wi fun e w' => e = .returned (.bool (decide (x ∈ c))) ∧ wi = w') := fun x => has_any c x (some ad2) cap' wi (HG3.out.below (HRI.out.below.trans (HB2.out.mono HRI.out.below.size))) (by omega)
          have HHT : Hid (∀ x, Calls Tryd.prog 25 #[.slice ta t.length tc, .int .i64 x] wi fun e w' => e = .returned (.bool (decide (x ∈ t))) ∧ wi = w') := fun x => has_any t x ta tc wi (ints_row HROW.out) (by omega)
          have HXM := Lib.hid hxm
          generalize c.getD j 0 = x at *
          clear hxm
          have hvn : -(v : Int) ≤ 0 := by omega
          have HWI := Lib.hid (within_any x (-(v : Int)) v wi)
          by_cases hx0 : x = 0
          · subst hx0
            have HR : Hid (ShowsR v l pr false (i : Int)) := HNOK.out (fun h => (litB_iff.1 ((HOKD.out.1 h).1 0 HXM.out)).1 rfl)
            have HBX : Hid (Below w.heap.size w wi) := HRI.out.below.trans (HB2.out.mono HRI.out.below.size)
            clear HNOK HOKD
            go_wp2
            go_ret3
            exact ⟨Or.inr ⟨HL5.out, false, _, rfl, HR.out⟩, HBX.out⟩
          · have hx0' : (x == 0) = false := by simpa using hx0
            by_cases hwi : -(v : Int) ≤ x ∧ x ≤ v
            · rw [decide_eq_true hwi] at HWI
              have hlit : litB v x = true := litB_iff.2 ⟨hx0, hwi.1, hwi.2⟩
              have hxb1 : -24 ≤ x := by omega
              have hxb2 : x ≤ 24 := by omega
              have HLX := Lib.hid hlit
              obtain ⟨hw1, hw2⟩ := hwi
              clear hlit hx0
              have HC1 := Lib.hid (HHC.out (-x))
              have HC2 := Lib.hid (HHT.out (-x))
              clear HHC HHT HNOK HOKD
              obtain ⟨bb, hbb⟩ : ∃ bb, bb = bothB c j := ⟨_, rfl⟩
              rw [← hbb] at HBS ⊢
              clear hbb
              have HNB : Hid (bothB c (j + 1) = (bb || decide (-x ∈ c))) := HBS.out
              clear HBS
              generalize decide (-x ∈ c) = mc at *
              by_cases ht : -x ∈ t
              · rw [decide_eq_true ht] at HC2
                have HT2 : Hid (TI v c (c.take (j + 1)) t) := by show TI _ _ _ _; rw [HTK2.out]; exact HTI.out.skip HLX.out ht
                clear ht
                cases bb with
                | true =>
                  go_wp2_with fail
                  refine HWI.out.mono ?_
                  rintro e w3 ⟨rfl, rfl⟩
                  go_wp2_with fail
                  refine HC2.out.mono ?_
                  rintro e w3 ⟨rfl, rfl⟩
                  go_wp2
                  go_roundw
                  case rel => exact ⟨j + 1, t, hjl, by go_num, by rw [HNB.out]; rfl, HT2.out, HROW.out, HB2.out⟩
                  case measure => simp [intOf]; omega
                | false =>
                  go_wp2_with fail
                  refine HWI.out.mono ?_
                  rintro e w3 ⟨rfl, rfl⟩
                  go_wp2_with fail
                  refine HC1.out.mono ?_
                  rintro e w3 ⟨rfl, rfl⟩
                  go_wp2_with fail
                  refine HC2.out.mono ?_
                  rintro e w3 ⟨rfl, rfl⟩
                  go_wp2
                  go_roundw
                  case rel => exact ⟨j + 1, t, hjl, by go_num, by rw [HNB.out]; rfl, HT2.out, HROW.out, HB2.out⟩
                  case measure => simp [intOf]; omega
              · rw [decide_eq_false ht] at HC2
                have HT2 : Hid (TI v c (c.take (j + 1)) (t ++ [-x])) := by show TI _ _ _ _; rw [HTK2.out]; exact HTI.out.tell (by omega) HLX.out HXM.out (fun y hy => List.mem_of_mem_take hy) ht
                obtain ⟨i0, hin, hz0, hz1, hz2⟩ := info_parts infoInt
                clear ht
                cases bb with
                | true =>
                  go_wp2_with fail
                  refine HWI.out.mono ?_
                  rintro e w3 ⟨rfl, rfl⟩
                  go_wp2_with fail
                  refine HC2.out.mono ?_
                  rintro e w3 ⟨rfl, rfl⟩
                  go_wp2_with (first | (at_builtin; refine wpList_append_own_at _ rfl _ _ 22 rfl wo.heap.size 3 i0 (.int .i64 0) 1 8 Tryd.underlying22 hin hz0 hz1 hz2 rfl (by decide) _ _ _ rfl (HROW.out.alloc _) ⟨wi.heap.size, 0, none⟩ 1 1 [.int .i64 (-x)] rfl rfl ?c1 ?c2 ?c3 ?c4 ?c5 ?_))
                  case c1 => exact cell_lit _ _ _
                  case c2 => exact one_lit _
                  case c3 => unfold maxLen; omega
                  case c4 => omega
                  case c5 => simp; omega
                  intro v7 w7 hown7 hgrow7 _ _
                  have HO7 := Lib.hid (show w7.ownsRow wo.heap.size 3 1 v7 (t ++ [-x]).length (icells (t ++ [-x])) by rw [icells_snoc]; simpa using hown7)
                  have HB7 : Hid (Below wo.heap.size wo w7) := (HB2.out.alloc hws _).grown hgrow7 (by simp; omega) (fun k hk => (HROW.out.lt k hk).1)
                  clear hown7 hgrow7
                  go_wp2
                  go_roundw
                  case rel => exact ⟨j + 1, _, hjl, by go_num, by rw [HNB.out]; rfl, HT2.out, HO7.out, HB7.out⟩
                  case measure => simp [intOf]; omega
                | false =>
                  go_wp2_with fail
                  refine HWI.out.mono ?_
                  rintro e w3 ⟨rfl, rfl⟩
                  go_wp2_with fail
                  refine HC1.out.mono ?_
                  rintro e w3 ⟨rfl, rfl⟩
                  go_wp2_with fail
                  refine HC2.out.mono ?_
                  rintro e w3 ⟨rfl, rfl⟩
                  go_wp2_with (first | (at_builtin; refine wpList_append_own_at _ rfl _ _ 22 rfl wo.heap.size 3 i0 (.int .i64 0) 1 8 Tryd.underlying22 hin hz0 hz1 hz2 rfl (by decide) _ _ _ rfl (HROW.out.alloc _) ⟨wi.heap.size, 0, none⟩ 1 1 [.int .i64 (-x)] rfl rfl ?c1 ?c2 ?c3 ?c4 ?c5 ?_))
                  case c1 => exact cell_lit _ _ _
                  case c2 => exact one_lit _
                  case c3 => unfold maxLen; omega
                  case c4 => omega
                  case c5 => simp; omega
                  intro v7 w7 hown7 hgrow7 _ _
                  have HO7 := Lib.hid (show w7.ownsRow wo.heap.size 3 1 v7 (t ++ [-x]).length (icells (t ++ [-x])) by rw [icells_snoc]; simpa using hown7)
                  have HB7 : Hid (Below wo.heap.size wo w7) := (HB2.out.alloc hws _).grown hgrow7 (by simp; omega) (fun k hk => (HROW.out.lt k hk).1)
                  clear hown7 hgrow7
                  go_wp2
                  go_roundw
                  case rel => exact ⟨j + 1, _, hjl, by go_num, by rw [HNB.out]; rfl, HT2.out, HO7.out, HB7.out⟩
                  case measure => simp [intOf]; omega
            · rw [decide_eq_false hwi] at HWI
              have HR : Hid (ShowsR v l pr false (i : Int)) := HNOK.out (fun h => hwi (litB_iff.1 ((HOKD.out.1 h).1 x HXM.out)).2)
              have HBX : Hid (Below w.heap.size w wi) := HRI.out.below.trans (HB2.out.mono HRI.out.below.size)
              clear HNOK HOKD hwi
              go_wp2_with fail
              refine HWI.out.mono ?_
              rintro e w3 ⟨rfl, rfl⟩
              go_wp2
              go_ret3
              exact ⟨Or.inr ⟨HL5.out, false, _, rfl, HR.out⟩, HBX.out⟩
        · obtain rfl : j = c.length := by omega
          have HBA := Lib.hid (bothB_all c)
          rw [List.take_length] at HTI
          have HR2 := Lib.hid (HRI.out.new HB2.out)
          have HIK := Lib.hid (IntsK.of HG3.out HR2.out.below)
          have HLC : Hid (LitsL v (l ++ pr.take (i + 1))) := by
            show LitsL _ _
            rw [HTK.out, ← List.append_assoc]
            exact fun d hd => by
              rcases List.mem_append.1 hd with hd | hd
              · exact HRI.out.lits d hd
              · rw [List.mem_singleton] at hd; subst hd; exact HTI.out.lits
          obtain ⟨ic, hic, hc0, hc1, hc2⟩ := info_parts infoCls
          obtain ⟨bb, hbb⟩ : ∃ bb, bb = bothB c c.length := ⟨_, rfl⟩
          rw [← hbb] at HBA ⊢
          clear hbb
          cases bb with
          | true =>
            have HOK : Hid (okAt v l pr i) := HOKD.out.2 ⟨HTI.out.lits, Or.inl (HBA.out.1 rfl)⟩
            obtain ⟨cs, hcs, hck⟩ := HR2.out.kb.row
            rw [HLL.out] at hcs
            have HCS := Lib.hid hcs
            have HCK := Lib.hid hck
            have hws3 := HR2.out.below.size
            clear hcs hck HNOK HOKD
            go_wp2_with (first | (at_builtin; refine wpList_append_own_at _ rfl _ _ 37 rfl w.heap.size 23 ic (.slice none 0 0) 1 24 Tryd.underlying37 hic hc0 hc1 hc2 rfl (by decide) _ _ _ rfl (HCS.out.alloc _) ⟨wi.heap.size, 0, none⟩ 1 1 [.slice a' c.length cap'] rfl rfl ?e1 ?e2 ?e3 ?e4 ?e5 ?_))
            all_goals try exact kclit _ _ _
            case e2 => first | rfl | exact kcone _ _ _
            case e3 => unfold maxLen; omega
            case e4 => omega
            case e5 => first | omega | (simp; omega)
            intro v7 w7 hown7 hgrow7 _ _
            obtain ⟨hkb7, hb7⟩ := KB.app (ks := l ++ pr.take i) _ hws3 (by rw [HLL.out]; exact HCS.out) HCK.out (by rw [HLL.out]; exact hown7) hgrow7 g1 g2 HIK.out
            have HK7 : Hid (KB w.heap.size w7 v7 (l ++ pr.take (i + 1))) := by show KB _ _ _ _; rw [HTK.out, ← List.append_assoc]; exact hkb7
            have HB7 : Hid (Below w.heap.size w w7) := HR2.out.below.trans hb7
            clear hown7 hgrow7 hkb7 hb7
            go_wp2
            go_roundw
            case rel => exact ⟨i + 1, hlt, by go_num, HK7.out, HLC.out, fun j hj => (by
              rcases Nat.lt_succ_iff_lt_or_eq.1 hj with e | e
              · exact HRI.out.ok j e
              · rw [e]; exact HOK.out), HB7.out⟩
            case measure => simp [intOf]; omega
          | false =>
            have hnb : ¬ Both c := fun h => by have := HBA.out.2 h; cases this
            have hco : Cons t := fun x hx hn => hnb ⟨-x, mem_negC.1 ((HTI.out.mem x).1 hx), mem_negC.1 ((HTI.out.mem _).1 hn)⟩
            have h24 : LitsL 24 (l ++ pr.take i) := fun d hd x hx => lit_24 (by omega) (HRI.out.lits d hd x hx)
            obtain ⟨ts, b, hsp⟩ := spread_ex (v := v) (by omega) HRI.out.lits _ t (Nat.le_refl _) hco HTI.out.lit
            have hcf := hsp.conf HRI.out.lits hco HTI.out.lit
            have HCF : Hid (0 ≤ b ↔ Conf (l ++ pr.take i) (negC c)) := hcf.trans ⟨fun h => h.mono (SubC.refl _) fun x hx => (HTI.out.mem x).1 hx, fun h => h.mono (SubC.refl _) fun x hx => (HTI.out.mem x).2 hx⟩
            have HSP := Lib.hid (spread_big v hv (l ++ pr.take i) HRI.out.lits ka kc t ta tc wi (KB.cls (cap := kc) (by rw [HLL.out]; exact HR2.out.kb)) (by rw [HLL.out]; omega) (ints_row HROW.out) (row_nil HROW.out) hco HTI.out.lit (HTI.out.few hnb) ts b hsp)
            rw [HLL.out] at HSP
            have HNBT := Lib.hid hnb
            clear hnb hco h24 hsp hcf
            go_wp2_with fail
            refine HSP.out.mono ?_
            rintro e w5 ⟨⟨ra, rc, rfl, -, -, -⟩, hb5⟩
            have HR5 := Lib.hid (HR2.out.new hb5)
            have HIK5 := Lib.hid (HIK.out.kp (Kp.new hb5))
            clear hb5 HSP
            by_cases hbn : b < 0
            · have HR : Hid (ShowsR v l pr false (i : Int)) := HNOK.out (fun h => by
                rcases (HOKD.out.1 h).2 with h2 | h2
                · exact HNBT.out h2
                · have := HCF.out.2 h2; omega)
              clear HNOK HOKD
              go_wp2
              go_ret3
              exact ⟨Or.inr ⟨HL5.out, false, _, rfl, HR.out⟩, HR5.out.below⟩
            · have HOK : Hid (okAt v l pr i) := HOKD.out.2 ⟨HTI.out.lits, Or.inr (HCF.out.1 (by omega))⟩
              obtain ⟨cs, hcs, hck⟩ := HR5.out.kb.row
              rw [HLL.out] at hcs
              have HCS := Lib.hid hcs
              have HCK := Lib.hid hck
              have hws3 := HR5.out.below.size
              clear hcs hck HNOK HOKD
              go_wp2_with (first | (at_builtin; refine wpList_append_own_at _ rfl _ _ 37 rfl w.heap.size 23 ic (.slice none 0 0) 1 24 Tryd.underlying37 hic hc0 hc1 hc2 rfl (by decide) _ _ _ rfl (HCS.out.alloc _) ⟨w5.heap.size, 0, none⟩ 1 1 [.slice a' c.length cap'] rfl rfl ?d1 ?d2 ?d3 ?d4 ?d5 ?_))
              all_goals try exact kclit _ _ _
              case d2 => first | rfl | exact kcone _ _ _
              case d3 => unfold maxLen; omega
              case d4 => omega
              case d5 => first | omega | (simp; omega)
              intro v7 w7 hown7 hgrow7 _ _
              obtain ⟨hkb7, hb7⟩ := KB.app (ks := l ++ pr.take i) _ hws3 (by rw [HLL.out]; exact HCS.out) HCK.out (by rw [HLL.out]; exact hown7) hgrow7 g1 g2 HIK5.out
              have HK7 : Hid (KB w.heap.size w7 v7 (l ++ pr.take (i + 1))) := by show KB _ _ _ _; rw [HTK.out, ← List.append_assoc]; exact hkb7
              have HB7 : Hid (Below w.heap.size w w7) := HR5.out.below.trans hb7
              clear hown7 hgrow7 hkb7 hb7
              go_wp2
              go_roundw
              case rel => exact ⟨i + 1, hlt, by go_num, HK7.out, HLC.out, fun j hj => (by
                rcases Nat.lt_succ_iff_lt_or_eq.1 hj with e | e
                · exact HRI.out.ok j e
                · rw [e]; exact HOK.out), HB7.out⟩
              case measure => simp [intOf]; omega
    · obtain rfl : i = pr.length := by omega
      have HOK := Lib.hid HRI.out.ok
      by_cases hp : pr.length = 0
      · have HR : Hid (ShowsR v l pr false (pr.length : Int)) := Or.inr ⟨HOK.out, rfl, iff_of_false (by simp) (fun h => h.1 (List.length_eq_zero_iff.1 hp))⟩
        clear HOK
        obtain rfl : pr = [] := List.length_eq_zero_iff.1 hp
        clear hp
        go_wp2
        go_ret3
        exact ⟨Or.inr ⟨HL5.out, false, _, rfl, HR.out⟩, HRI.out.below⟩
      · obtain ⟨m, hm⟩ : ∃ m, pr.length = m + 1 := ⟨pr.length - 1, by omega⟩
        obtain ⟨ad, a', cap', rfl, hl, hcell, g1, g2, g3⟩ := HI2.out.below HRI.out.below m (by omega)
        have HR : Hid (∀ B : Bool, (B = true ↔ (pr.getD m []).length = 0) → ShowsR v l pr B (pr.length : Int)) := fun B hB => Or.inr ⟨HOK.out, rfl, by
          rw [hB, hm, Nat.add_sub_cancel, List.length_eq_zero_iff]
          exact ⟨fun h => ⟨fun h2 => (by rw [h2] at hm; cases hm), h⟩, fun h => h.2⟩⟩
        have hmb : m < 5000 := by omega
        clear HOK g3 hp
        generalize (pr.getD m []).length = q at *
        rw [hm] at *
        clear hm
        have hlt2 : (m : Int) < (m : Int) + 1 := by omega
        by_cases hq : q = 0
        · subst hq
          have HR1 := Lib.hid (HR.out true (by simp))
          clear HR
          go_wp2
          go_ret3
          exact ⟨Or.inr ⟨HL5.out, true, _, rfl, HR1.out⟩, HRI.out.below⟩
        · have hq' : ((q : Int) != 0) = true := by simp; omega
          have HR1 := Lib.hid (HR.out false (by simp; exact hq))
          clear HR
          go_wp2
          go_ret3
          exact ⟨Or.inr ⟨HL5.out, false, _, rfl, HR1.out⟩, HRI.out.below⟩
end Go.Proofs.YtcmmoinkhodjfaaDoor
