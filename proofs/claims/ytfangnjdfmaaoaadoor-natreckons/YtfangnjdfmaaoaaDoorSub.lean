/- The contract of Sub. -/
import Derived.Test.YtfangnjdfmaaoaaDoorTrim
import Derived.Test.YtfangnjdfmaaoaaDoorOf
import Derived.Test.YtfangnjdfmaaoaaDoorCmp
namespace Go.Proofs.YtfangnjdfmaaoaaDoor
open Go.RowKit Num Go.Sort

theorem cmpN_neg {x y : Nat} (h : ¬ x < y) : ¬ cmpN x y < 0 := by
  unfold cmpN; rw [if_neg h]; split <;> omega

set_option maxRecDepth 100000 in
set_option maxHeartbeats 1000000 in
theorem sub_no (va vb : Value) (a b : List Nat) (w : World) (ha : Dig .u64 w va a) (hb : Dig .u64 w vb b) (na : ∀ i, dig a i < 1000000000) (nb : ∀ i, dig b i < 1000000000) (la : a.length ≤ 5000) (lb : b.length ≤ 5000) (hlt : val 1000000000 a < val 1000000000 b) :
    Calls Tryd.prog 17 #[.agg #[va], .agg #[vb]] w fun e w' => e = .returned (.tuple #[.agg #[.slice none 0 0], .iface 23 (.int .i64 2)]) ∧ Below w.heap.size w w' := by
  obtain ⟨aa, ca, eva, hca, hcella⟩ := id ha
  obtain ⟨ab, cb, evb, hcb, hcellb⟩ := id hb
  subst eva evb
  clear hcella hcellb hca hcb
  have hb3 : Below w.heap.size w (((w.alloc (.cells #[.slice aa a.length ca] 28)).alloc (.cells #[.slice ab b.length cb] 28)).alloc (.cells #[.slice none 0 0] 28)) := (((Below.refl _ _).alloc (Nat.le_refl _) _).alloc (by simp) _).alloc (by simp; omega) _
  have H := cmp_any _ _ a b _ (ha.below hb3) (hb.below hb3) na nb (by omega) (by omega)
  rw [cmpN_lt hlt] at H
  clear hlt
  go_enter Tryd.func17, Tryd.ntmps17
  go_wp2_with fail
  refine H.mono ?_
  rintro e w1 ⟨rfl, hb1⟩
  have hc : w1.cell? ⟨w.heap.size + 1 + 1, 0, none⟩ = some (.slice none 0 0) := (hb1.cell (p := ⟨w.heap.size + 1 + 1, 0, none⟩) (by simp)).trans (cell3_2 _ _ _ _ _)
  have hf : w1.frozen? ⟨w.heap.size + 1 + 1, 0, none⟩ = false := (hb1.frozen (p := ⟨w.heap.size + 1 + 1, 0, none⟩) (by simp)).trans (frozen3_2 _ _ _ _ _)
  have hcs : (w1.setCell ⟨w.heap.size + 1 + 1, 0, none⟩ (.slice none 0 0)).cell? ⟨w.heap.size + 1 + 1, 0, none⟩ = some (.slice none 0 0) := World.cell?_setCell_same' _ _ _ (by simp [hc])
  have hbw : Below w.heap.size w w1 := hb3.trans (hb1.mono (by simp; omega))
  clear H hb1 hb3
  go_wp2
  refine bodyPost_ret (v := .tuple #[.agg #[.slice none 0 0], .iface 23 (.int .i64 2)]) (by simp [results, Tryd.results17, go_sem, hcs]) rfl ?_
  exact ⟨rfl, hbw.setCell (by show _ ≤ w.heap.size + 1 + 1; omega) _⟩

set_option maxRecDepth 100000 in
set_option maxHeartbeats 1000000 in
theorem sub_yes (va vb : Value) (a b : List Nat) (w : World) (ha : Dig .u64 w va a) (hb : Dig .u64 w vb b) (na : ∀ i, dig a i < 1000000000) (nb : Norm 1000000000 b) (la : a.length ≤ 5000) (lb : b.length ≤ 5000) (hge : val 1000000000 b ≤ val 1000000000 a) :
    Calls Tryd.prog 17 #[.agg #[va], .agg #[vb]] w fun e w' => ∃ v', e = .returned (.tuple #[.agg #[v'], .nilIface]) ∧ ∃ ds', Dig .u64 w' v' ds' ∧ Norm 1000000000 ds' ∧ val 1000000000 ds' = val 1000000000 a - val 1000000000 b ∧ ds'.length ≤ a.length ∧ Below w.heap.size w w' := by
  obtain ⟨aa, ca, eva, hca, hcella⟩ := id ha
  obtain ⟨ab, cb, evb, hcb, hcellb⟩ := id hb
  subst eva evb
  clear hcella hcellb hca hcb
  have hb3 : Below w.heap.size w (((w.alloc (.cells #[.slice aa a.length ca] 28)).alloc (.cells #[.slice ab b.length cb] 28)).alloc (.cells #[.slice none 0 0] 28)) := (((Below.refl _ _).alloc (Nat.le_refl _) _).alloc (by simp) _).alloc (by simp; omega) _
  have H := cmp_any _ _ a b _ (ha.below hb3) (hb.below hb3) na nb.small (by omega) (by omega)
  have hcn : ¬ cmpN (val 1000000000 a) (val 1000000000 b) < 0 := cmpN_neg (by omega)
  generalize cmpN (val 1000000000 a) (val 1000000000 b) = cc at *
  have hcd : decide (cc < 0) = false := by simpa using hcn
  have hlen := len_le (by omega) na nb hge
  have HG : Hid (val 1000000000 b ≤ val 1000000000 a) := hge
  clear hge
  obtain ⟨i0, hi, hz0, hz1, hz2⟩ := info_parts info62
  go_enter Tryd.func17, Tryd.ntmps17
  go_wp2_with fail
  refine H.mono ?_
  rintro e w1 ⟨rfl, hb1⟩
  have c0 : w1.cell? ⟨w.heap.size, 0, none⟩ = some (.slice aa a.length ca) := (hb1.cell (p := ⟨w.heap.size, 0, none⟩) (by simp; omega)).trans (cell3_0 _ _ _ _ _)
  have hs1 := hb1.size
  simp only [World.size_alloc] at hs1
  have hb1' : Below (w.heap.size + 3) (((w.alloc (.cells #[.slice aa a.length ca] 28)).alloc (.cells #[.slice ab b.length cb] 28)).alloc (.cells #[.slice none 0 0] 28)) w1 := hb1.mono (by simp)
  clear H hb1 hb3
  go_wp2_with (at_make; refine wpList_make_full _ rfl _ _ 26 rfl (w.heap.size + 3) 62 i0 (.int .u64 0) 1 Tryd.underlying26 hi hz0 hz1 .i64 .i64 _ _ a.length rfl rfl ?c1 ?c2 ?c3 ?c4 ?c5 ?_)
  case c1 => rfl
  case c2 => rfl
  case c3 => rw [hz2]; omega
  case c4 => unfold maxLen; omega
  case c5 => omega
  intro w2 hown hgrow
  rw [dcells_made] at hown
  have hbel : Below (w.heap.size + 3) (((w.alloc (.cells #[.slice aa a.length ca] 28)).alloc (.cells #[.slice ab b.length cb] 28)).alloc (.cells #[.slice none 0 0] 28)) w2 := hb1'.grown hgrow (by omega) (fun k hk => by cases hk)
  have hH : w.heap.size + 3 ≤ w1.heap.size := by omega
  clear hgrow hb1' c0 hcn
  generalize w1.heap.size = H at *
  clear hcd
  go_wp2_with fail
  go_loopw [8, 24] (fun cv i wr => ∃ (k c : Nat) (out : List Nat), k ≤ a.length ∧ i = .int .i64 k ∧ cv = .int .u64 c ∧ c ≤ 1 ∧ out.length = a.length ∧ (∀ i, dig out i < 1000000000) ∧ S 1000000000 (dig a) k + c * 1000000000 ^ k = S 1000000000 (dig out) k + S 1000000000 (dig b) k ∧ wr.ownsRow (w.heap.size + 3) 62 1 (.slice (some ⟨H, 0, none⟩) a.length a.length) a.length (dcells .u64 out) ∧ Below (w.heap.size + 3) (((w.alloc (.cells #[.slice aa a.length ca] 28)).alloc (.cells #[.slice ab b.length cb] 28)).alloc (.cells #[.slice none 0 0] 28)) wr)
    (fun _ i _ => a.length - (intOf i).toNat)
  case atStart => exact ⟨0, 0, List.replicate a.length 0, Nat.zero_le _, rfl, rfl, Nat.zero_le _, by simp, fun i => by rw [dig_replicate]; omega, by simp [S], hown, hbel⟩
  case round =>
    obtain ⟨k, c, out, hk, rfl, rfl, hc1, hol, hsm, hS, hownr, hbelr⟩ := hrel
    have HSm : Hid (∀ i, dig out i < 1000000000) := hsm
    have HS : Hid (S 1000000000 (dig a) k + c * 1000000000 ^ k = S 1000000000 (dig out) k + S 1000000000 (dig b) k) := hS
    have HO : Hid (out.length = a.length) := hol
    clear hsm hS hown hbel hol
    have hbw : Below w.heap.size w wr := ((((Below.refl _ _).alloc (Nat.le_refl _) _).alloc (by simp) _).alloc (by simp; omega) _).trans (hbelr.mono (by omega))
    have hsz := hbelr.size
    simp only [World.size_alloc] at hsz
    by_cases hlt : k < a.length
    · have c0 : wr.cell? ⟨w.heap.size, 0, none⟩ = some (.slice aa a.length ca) := (hbelr.cell (p := ⟨w.heap.size, 0, none⟩) (by show w.heap.size < _; omega)).trans (cell3_0 _ _ _ _ _)
      have c1 : wr.cell? ⟨w.heap.size + 1, 0, none⟩ = some (.slice ab b.length cb) := (hbelr.cell (p := ⟨w.heap.size + 1, 0, none⟩) (by show w.heap.size + 1 < _; omega)).trans (cell3_1 _ _ _ _ _)
      have k0 := cell_regrown c0
      have k1 := cell_regrown c1
      have cA : ∀ d os, Calls Tryd.prog 44 #[.agg #[.slice aa a.length ca], .int .i64 (k : Int)] (grow (redrawn wr d) os) fun e w'' => e = .returned (.int .u64 ((dig a k : Nat) : Int)) ∧ ∃ p : Regrown, w'' = grow (redrawn wr p.d) p.os := fun d os =>
        Calls.regrown_of (digit_any _ a k (grow (redrawn wr d) os) (ha.below (hbw.trans ((below_regrown wr d os).mono hbw.size))) (by omega) (by omega))
      have cB : ∀ d os, Calls Tryd.prog 44 #[.agg #[.slice ab b.length cb], .int .i64 (k : Int)] (grow (redrawn wr d) os) fun e w'' => e = .returned (.int .u64 ((dig b k : Nat) : Int)) ∧ ∃ p : Regrown, w'' = grow (redrawn wr p.d) p.os := fun d os =>
        Calls.regrown_of (digit_any _ b k (grow (redrawn wr d) os) (hb.below (hbw.trans ((below_regrown wr d os).mono hbw.size))) (by omega) (by omega))
      have hx := na k
      have hy := nb.small k
      have e1 : IntKind.u64.wrap (((dig b k : Nat) : Int) + (c : Int)) = ((dig b k : Nat) : Int) + (c : Int) := wu64 (by omega) (by omega)
      go_wp2_with fail
      refine wp_region_quiet_below mixed (by kernel_rfl) ?_
      repeat (quiet_step (first | (go_at_call_of 44 aa; exact cA _ _) | (go_at_call_of 44 ab; exact cB _ _)))
      refine wpQuiet_nil ?_
      intro _ hw'
      obtain ⟨⟨dq, osq⟩, hw''⟩ := hw'
      subst hw''
      clear cA cB k0 k1 c0 c1
      have hbq := below_regrown wr dq osq
      generalize grow (redrawn wr dq) osq = wq at *
      have hownq := owns_below hownr hbq
      have hbelq := hbelr.trans (hbq.mono (by omega))
      have hkl : k < out.length := by have := HO.out; omega
      clear hownr hbelr hbq hbw e1
      generalize hdx : dig a k = x at *
      generalize hdy : dig b k = y at *
      have HX : Hid (dig a k = x) := hdx
      have HY : Hid (dig b k = y) := hdy
      clear hdx hdy
      have hcell := hownq.cellAt k (by omega)
      rw [dcells_at .u64 out k hkl] at hcell
      have hfr := hownq.frozenAt k
      by_cases hxy : x < y + c
      · have hxi : (x : Int) < (y : Int) + c := by omega
        go_wp2
        go_roundw
        case rel =>
          have e3 : (x : Int) + 1000000000 - ((y : Int) + c) = ((x + 1000000000 - (y + c) : Nat) : Int) := by omega
          rw [e3]
          refine ⟨k + 1, 1, out.set k (x + 1000000000 - (y + c)), by omega, by go_num, rfl, by omega, by rw [List.length_set]; exact HO.out, small_set hkl HSm.out (by omega), sub_step hkl HS.out HX.out HY.out (by omega), owns_set hownq k _, hbelq.setCell (by show _ ≤ H; omega) _⟩
        case measure => simp [intOf]; omega
      · have hxi : ¬ (x : Int) < (y : Int) + c := by omega
        go_wp2
        go_roundw
        case rel =>
          have e3 : (x : Int) - ((y : Int) + c) = ((x - (y + c) : Nat) : Int) := by omega
          rw [e3]
          refine ⟨k + 1, 0, out.set k (x - (y + c)), by omega, by go_num, rfl, by omega, by rw [List.length_set]; exact HO.out, small_set hkl HSm.out (by omega), sub_step hkl HS.out HX.out HY.out (by omega), owns_set hownq k _, hbelq.setCell (by show _ ≤ H; omega) _⟩
        case measure => simp [intOf]; omega
    · obtain rfl : k = a.length := by omega
      have hva := S_val 1000000000 a a.length (Nat.le_refl _)
      have hvb := S_val 1000000000 b a.length hlen
      have hvo := S_val 1000000000 out a.length (by have := HO.out; omega)
      have hE := HS.out
      rw [hva, hvb, hvo] at hE
      have b1 : val 1000000000 out < 1000000000 ^ a.length := by
        rw [← HO.out]; exact val_lt HSm.out
      have hge := HG.out
      have hc0 : c = 0 := by
        rcases Nat.eq_zero_or_pos c with e | e
        · exact e
        · have : 1 * 1000000000 ^ a.length ≤ c * 1000000000 ^ a.length := Nat.mul_le_mul_right _ e
          omega
      subst hc0
      have HVO : Hid (val 1000000000 out = val 1000000000 a - val 1000000000 b) := by show _ = _; omega
      clear hva hvb hvo hE b1 hge
      rw [show a.length = out.length from HO.out.symm] at hownr
      have hD := Dig.of_owns hownr
      rw [HO.out] at hD
      clear hownr
      go_wp2_with fail
      refine (trimmed_any _ out _ hD HSm.out (by have := HO.out; omega)).mono ?_
      rintro e w2 ⟨v2, rfl, ds2, hd2, hn2, hv2, hl2, hb2⟩
      obtain ⟨a2, cap2, ev2, -, -⟩ := id hd2
      subst ev2
      have hb3 : Below (w.heap.size + 3) (((w.alloc (.cells #[.slice aa a.length ca] 28)).alloc (.cells #[.slice ab b.length cb] 28)).alloc (.cells #[.slice none 0 0] 28)) w2 := hbelr.trans (hb2.mono (by omega))
      have hc : w2.cell? ⟨w.heap.size + 1 + 1, 0, none⟩ = some (.slice none 0 0) := (hb3.cell (p := ⟨w.heap.size + 1 + 1, 0, none⟩) (by show w.heap.size + 1 + 1 < _; omega)).trans (cell3_2 _ _ _ _ _)
      have hf : w2.frozen? ⟨w.heap.size + 1 + 1, 0, none⟩ = false := (hb3.frozen (p := ⟨w.heap.size + 1 + 1, 0, none⟩) (by show w.heap.size + 1 + 1 < _; omega)).trans (frozen3_2 _ _ _ _ _)
      have hcs : (w2.setCell ⟨w.heap.size + 1 + 1, 0, none⟩ (.slice a2 ds2.length cap2)).cell? ⟨w.heap.size + 1 + 1, 0, none⟩ = some (.slice a2 ds2.length cap2) := World.cell?_setCell_same' _ _ _ (by simp [hc])
      go_wp2
      refine bodyPost_ret (v := .tuple #[.agg #[.slice a2 ds2.length cap2], .nilIface]) (by simp [results, Tryd.results17, go_sem, hcs]) rfl ?_
      refine ⟨_, rfl, ds2, hd2.set hc (fun n h => by cases h) _, hn2, by rw [hv2]; exact HVO.out, by have := HO.out; omega, ?_⟩
      exact (((((Below.refl _ _).alloc (Nat.le_refl _) _).alloc (by simp) _).alloc (by simp; omega) _).trans (hb3.mono (by omega))).setCell (by show _ ≤ w.heap.size + 1 + 1; omega) _
end Go.Proofs.YtfangnjdfmaaoaaDoor
