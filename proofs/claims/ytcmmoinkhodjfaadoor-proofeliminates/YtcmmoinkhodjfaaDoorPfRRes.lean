/- The reference's Form and Resolve. -/
import Derived.Test.YtcmmoinkhodjfaaDoorPfRes
import Derived.Test.YtcmmoinkhodjfaaDoorClSpread
namespace Go.Proofs.YtcmmoinkhodjfaaDoor
open Go.RowKit Go.Deep

structure RK (w wr : World) (cV : Value) (xs : List Int) : Prop where
  row : wr.ownsRow w.heap.size 3 1 cV xs.length (icells xs)
  below : Below w.heap.size w wr
theorem RK.start (w : World) : RK w w (.slice none 0 0) [] := ⟨World.ownsRow_nil _ _ _ _, Below.refl _ _⟩
theorem RK.app {w wr wr' : World} {cV v' : Value} {xs : List Int} {x : Int} (h : RK w wr cV xs) (o : Obj) (hown : wr'.ownsRow w.heap.size 3 1 v' (xs.length + 1) (icells xs ++ [.int .i64 x])) (hg : (wr.alloc o).grownBy wr' cV.ownBlock) : RK w wr' v' (xs ++ [x]) := by
  refine ⟨by rw [icells_snoc]; simpa using hown, ?_⟩
  exact (h.below.alloc h.below.size o).grown hg (by have := h.below.size; simp; omega) (fun k hk => (h.row.lt k hk).1)

set_option maxRecDepth 100000 in
set_option maxHeartbeats 2000000 in
theorem rform_any (c : List Int) (a : Option Addr) (cap : Nat) (w : World) (hI : IntsIn w a c) (hm : c.length ≤ 9223372036854775807) :
    Calls Tryd.prog 8 #[.slice a c.length cap] w fun e w' => FormAns w.heap.size (formF c) e w' ∧ Below w.heap.size w w' := by
  have HH : Hid (∀ x W, Below w.heap.size w W → Calls Tryd.prog 25 #[.slice a c.length cap, .int .i64 x] W fun e w' => e = .returned (.bool (decide (x ∈ c))) ∧ W = w') := fun x W hW => has_any c x a cap W (hI.below hW) hm
  have HS := Lib.hid (RK.start w)
  obtain ⟨i0, hin, hz0, hz1, hz2⟩ := info_parts infoInt
  have HBY : Hid (∀ k, k < 24 → (sidesF c).1.testBit k = decide ((k : Int) + 1 ∈ c)) := fun k hk => by rw [sides_yes]; simp [hk]
  have HBN : Hid (∀ k, k < 24 → (sidesF c).2.testBit k = decide (-((k : Int) + 1) ∈ c)) := fun k hk => by rw [sides_no]; simp [hk]
  clear hI
  go_enter Tryd.func8, Tryd.ntmps8
  go_wp2_with fail
  go_loopw [4, 5] (fun cV kV wr => ∃ k : Nat, k ≤ 24 ∧ kV = .int .i64 ((k : Int) + 1) ∧ (∀ j, j < k → ¬ ((j : Int) + 1 ∈ c ∧ -((j : Int) + 1) ∈ c)) ∧ RK w wr cV (clauseK (sidesF c) k)) (fun _ kV _ => 25 - (intOf kV).toNat)
  case atStart => exact ⟨0, by omega, rfl, fun j h => by omega, HS.out⟩
  case round =>
    obtain ⟨k, hk, rfl, h1, hrk⟩ := hrel
    obtain ⟨wo, rfl⟩ : ∃ wo, wo = wr := ⟨_, rfl⟩
    obtain ⟨ca, cc, rfl, hcl, -⟩ := row_form hrk.row
    have HRK := Lib.hid hrk
    have H1 := Lib.hid h1
    have hlen := clauseK_len (sidesF c) k
    clear hrk HS h1
    by_cases hlt : k < 24
    · have hi1 : (k : Int) + 1 ≤ 24 := by omega
      have hws := HRK.out.below.size
      have hA := HH.out ((k : Int) + 1) wo HRK.out.below
      have hB := HH.out (-((k : Int) + 1)) wo HRK.out.below
      have HCS := Lib.hid (clauseK_succ (sidesF c) k)
      have hy := HBY.out k hlt
      have hn := HBN.out k hlt
      by_cases q1 : (k : Int) + 1 ∈ c
      · rw [decide_eq_true q1] at hA hy
        by_cases q2 : -((k : Int) + 1) ∈ c
        · rw [decide_eq_true q2] at hB hn
          have HA := Lib.hid hA
          have HB := Lib.hid hB
          have HF : Hid (formF c = ([], true)) := by show formF c = _; unfold formF; rw [if_pos (always_iff.2 ⟨k, hy, hn⟩)]
          clear hA hB hy hn q1 q2
          go_wp2_with fail
          refine HA.out.mono ?_
          rintro e w1 ⟨rfl, rfl⟩
          go_wp2_with fail
          refine HB.out.mono ?_
          rintro e w1 ⟨rfl, rfl⟩
          go_wp2
          go_ret2
          exact ⟨⟨none, 0, by rw [HF.out]; rfl, by rw [HF.out]; exact World.ownsRow_nil _ _ _ _⟩, HRK.out.below⟩
        · rw [decide_eq_false q2] at hB hn
          have HA := Lib.hid hA
          have HB := Lib.hid hB
          have HL := Lib.hid (show clauseK (sidesF c) (k + 1) = clauseK (sidesF c) k ++ [(k : Int) + 1] by rw [HCS.out]; unfold litOf; rw [if_pos hy]; rfl)
          have HQ : Hid (¬ (-((k : Int) + 1) ∈ c)) := q2
          clear hA hB hy hn q1 q2
          go_wp2_with fail
          refine HA.out.mono ?_
          rintro e w1 ⟨rfl, rfl⟩
          go_wp2_with fail
          refine HB.out.mono ?_
          rintro e w1 ⟨rfl, rfl⟩
          go_wp2_with (first | (at_builtin; refine wpList_append_own_at _ rfl _ _ 23 rfl w.heap.size 3 i0 (.int .i64 0) 1 8 Tryd.underlying23 hin hz0 hz1 hz2 rfl (by decide) _ _ _ rfl (HRK.out.row.alloc _) ⟨wo.heap.size, 0, none⟩ 1 1 [.int .i64 ((k : Int) + 1)] rfl rfl ?c1 ?c2 ?c3 ?c4 ?c5 ?_))
          case c1 => exact cell_lit _ _ _
          case c2 => exact one_lit _
          case c3 => unfold maxLen; omega
          case c4 => omega
          case c5 => simp; omega
          intro v7 w7 hown7 hgrow7 _ _
          have HX := Lib.hid (HRK.out.app _ hown7 hgrow7)
          rw [← HL.out] at HX
          clear hown7 hgrow7
          go_wp2
          go_roundw
          case rel => exact ⟨k + 1, hlt, by go_num, fun j hj => (by
            rcases Nat.lt_succ_iff_lt_or_eq.1 hj with e | e
            · exact H1.out j e
            · rw [e]; exact fun h => HQ.out h.2), HX.out⟩
          case measure => simp [intOf]; omega
      · rw [decide_eq_false q1] at hA hy
        by_cases q2 : -((k : Int) + 1) ∈ c
        · rw [decide_eq_true q2] at hB hn
          have HA := Lib.hid hA
          have HB := Lib.hid hB
          have HL := Lib.hid (show clauseK (sidesF c) (k + 1) = clauseK (sidesF c) k ++ [-((k : Int) + 1)] by rw [HCS.out]; unfold litOf; rw [hy, if_neg (by simp), if_pos hn]; rfl)
          have HQ : Hid (¬ ((k : Int) + 1 ∈ c)) := q1
          clear hA hB hy hn q1 q2
          go_wp2_with fail
          refine HA.out.mono ?_
          rintro e w1 ⟨rfl, rfl⟩
          go_wp2_with fail
          refine HB.out.mono ?_
          rintro e w1 ⟨rfl, rfl⟩
          go_wp2_with (first | (at_builtin; refine wpList_append_own_at _ rfl _ _ 23 rfl w.heap.size 3 i0 (.int .i64 0) 1 8 Tryd.underlying23 hin hz0 hz1 hz2 rfl (by decide) _ _ _ rfl (HRK.out.row.alloc _) ⟨wo.heap.size, 0, none⟩ 1 1 [.int .i64 (-((k : Int) + 1))] rfl rfl ?c1 ?c2 ?c3 ?c4 ?c5 ?_))
          case c1 => exact cell_lit _ _ _
          case c2 => exact one_lit _
          case c3 => unfold maxLen; omega
          case c4 => omega
          case c5 => simp; omega
          intro v7 w7 hown7 hgrow7 _ _
          have HX := Lib.hid (HRK.out.app _ hown7 hgrow7)
          rw [← HL.out] at HX
          clear hown7 hgrow7
          go_wp2
          go_roundw
          case rel => exact ⟨k + 1, hlt, by go_num, fun j hj => (by
            rcases Nat.lt_succ_iff_lt_or_eq.1 hj with e | e
            · exact H1.out j e
            · rw [e]; exact fun h => HQ.out h.1), HX.out⟩
          case measure => simp [intOf]; omega
        · rw [decide_eq_false q2] at hB hn
          have HA := Lib.hid hA
          have HB := Lib.hid hB
          have HL := Lib.hid (show clauseK (sidesF c) (k + 1) = clauseK (sidesF c) k by rw [HCS.out]; unfold litOf; rw [hy, hn]; simp)
          have HQ : Hid (¬ ((k : Int) + 1 ∈ c)) := q1
          clear hA hB hy hn q1 q2
          go_wp2_with fail
          refine HA.out.mono ?_
          rintro e w1 ⟨rfl, rfl⟩
          go_wp2_with fail
          refine HB.out.mono ?_
          rintro e w1 ⟨rfl, rfl⟩
          go_wp2
          go_roundw
          case rel => exact ⟨k + 1, hlt, by go_num, fun j hj => (by
            rcases Nat.lt_succ_iff_lt_or_eq.1 hj with e | e
            · exact H1.out j e
            · rw [e]; exact fun h => HQ.out h.1), by rw [HL.out]; exact HRK.out⟩
          case measure => simp [intOf]; omega
    · obtain rfl : k = 24 := by omega
      have hno : alwaysF (sidesF c) = false := by
        cases h : alwaysF (sidesF c) with
        | false => rfl
        | true =>
          obtain ⟨i, h2, h3⟩ := always_iff.1 h
          rw [sides_yes, decide_eq_true_eq] at h2
          rw [sides_no, decide_eq_true_eq] at h3
          exact absurd ⟨h2.2, h3.2⟩ (H1.out i h2.1)
      have HF : Hid (formF c = (clauseF (sidesF c), false)) := by show formF c = _; unfold formF; rw [hno]; rfl
      have HR : Hid (wo.ownsRow w.heap.size 3 1 (.slice ca (clauseF (sidesF c)).length cc) (clauseF (sidesF c)).length (icells (clauseF (sidesF c)))) := HRK.out.row
      clear hno
      go_wp2
      go_ret2
      exact ⟨⟨ca, cc, by rw [HF.out]; rfl, by rw [HF.out]; exact HR.out⟩, HRK.out.below⟩

theorem filter_snoc {p : Int → Bool} {l : List Int} {x : Int} : (l ++ [x]).filter p = l.filter p ++ (if p x = true then [x] else []) := by
  rw [List.filter_append]
  cases h : p x <;> simp [h]
def RResAns (B : Nat) (r : Int × List Int) (e : Ending) (w' : World) : Prop := ∃ a cap, e = .returned (.tuple #[.slice a r.2.length cap, .int .i64 r.1]) ∧ w'.ownsRow B 3 1 (.slice a r.2.length cap) r.2.length (icells r.2)
theorem rresAns_err {B : Nat} {w' : World} {m : Int} {e : Ending} (he : e = .returned (.tuple #[.slice none 0 0, .int .i64 m])) : RResAns B (m, []) e w' :=
  ⟨none, 0, he, World.ownsRow_nil _ _ _ _⟩

set_option maxRecDepth 100000 in
set_option maxHeartbeats 2000000 in
theorem rresolve_any (p q : List Int) (v : Int) (a1 a2 : Option Addr) (c1 c2 : Nat) (w : World) (hI1 : IntsIn w a1 p) (hm1 : p.length ≤ 100000) (hI2 : IntsIn w a2 q) (hm2 : q.length ≤ 100000) :
    Calls Tryd.prog 10 #[.slice a1 p.length c1, .slice a2 q.length c2, .int .i64 v] w fun e w' => RResAns w.heap.size (resF p q v) e w' ∧ Below w.heap.size w w' := by
  have bad : resF p q v = (1, []) → (Calls Tryd.prog 10 #[.slice a1 p.length c1, .slice a2 q.length c2, .int .i64 v] w fun e w' => e = .returned (.tuple #[.slice none 0 0, .int .i64 1]) ∧ w = w') → Calls Tryd.prog 10 #[.slice a1 p.length c1, .slice a2 q.length c2, .int .i64 v] w fun e w' => RResAns w.heap.size (resF p q v) e w' ∧ Below w.heap.size w w' := fun h1 h2 => h2.mono fun e w' ⟨he, hw⟩ => ⟨by rw [h1]; exact rresAns_err he, hw ▸ Below.refl _ _⟩
  have HWI := Lib.hid (within_any v 0 23 w)
  by_cases h0 : 0 ≤ v ∧ v ≤ 23
  · rw [decide_eq_true h0] at HWI
    obtain ⟨n, rfl⟩ : ∃ n : Nat, v = (n : Int) := ⟨v.toNat, by omega⟩
    have HC1 := Lib.hid (has_any p ((n : Int) + 1) a1 c1 w hI1 (by omega))
    have HC2 := Lib.hid (has_any q (-((n : Int) + 1)) a2 c2 w hI2 (by omega))
    have en : -(n : Int) - 1 = -((n : Int) + 1) := by omega
    by_cases hp : (n : Int) + 1 ∈ p
    · by_cases hq : -((n : Int) + 1) ∈ q
      · rw [decide_eq_true hp] at HC1
        rw [decide_eq_true hq] at HC2
        have hn : n < 24 := by omega
        have HF : Hid (resF p q (n : Int) = if (formF (allL p q n)).2 = true then (8, []) else (0, (formF (allL p q n)).1)) := by
          show resF p q (n : Int) = _
          unfold resF formF; rw [if_pos ⟨by omega, by omega, hp, hq⟩, Int.toNat_natCast, sides_resolve]
          by_cases h : alwaysF (resolveF (sidesF p) (sidesF q) n) = true
          · rw [if_pos h, if_pos h, if_pos rfl]
          · rw [if_neg h, if_neg h, if_neg (by simp)]
        have HI1 := Lib.hid hI1
        have HI2 := Lib.hid hI2
        have HS := Lib.hid (RK.start w)
        obtain ⟨i0, hin, hz0, hz1, hz2⟩ := info_parts infoInt
        have HL : Hid (∀ j, j ≤ p.length → ((p.take j).filter (fun x => x != (n : Int) + 1)).length ≤ 100000) := fun j hj => by
          refine Nat.le_trans (List.length_filter_le _ _) ?_
          rw [List.length_take]; omega
        have HL2 : Hid (∀ j, j ≤ q.length → (p.filter (fun x => x != (n : Int) + 1) ++ (q.take j).filter (fun x => x != -((n : Int) + 1))).length ≤ 200000) := fun j hj => by
          rw [List.length_append]
          have h1 := List.length_filter_le (fun x => x != (n : Int) + 1) p
          have h2 := List.length_filter_le (fun x => x != -((n : Int) + 1)) (q.take j)
          rw [List.length_take] at h2; omega
        have HALL : Hid (p.filter (fun x => x != (n : Int) + 1) ++ q.filter (fun x => x != -((n : Int) + 1)) = allL p q n) := by
          show _ = _
          rfl
        clear hI1 hI2 bad hp hq
        go_enter Tryd.func10, Tryd.ntmps10
        go_wp2_with fail
        refine HWI.out.mono ?_
        rintro e w1 ⟨rfl, rfl⟩
        go_wp2_with fail
        refine HC1.out.mono ?_
        rintro e w1 ⟨rfl, rfl⟩
        go_wp2_with fail
        refine HC2.out.mono ?_
        rintro e w1 ⟨rfl, rfl⟩
        clear HC1 HC2 HWI
        go_wp2_with fail
        go_loopw [8, 35] (fun cV kV wr => ∃ k : Nat, k ≤ p.length ∧ kV = .int .i64 (k : Int) ∧ RK w wr cV ((p.take k).filter (fun x => x != (n : Int) + 1))) (fun _ kV _ => p.length - (intOf kV).toNat)
        case atStart => exact ⟨0, by omega, rfl, HS.out⟩
        case round =>
          obtain ⟨k, hk, rfl, hrk⟩ := hrel
          obtain ⟨wo, rfl⟩ : ∃ wo, wo = wr := ⟨_, rfl⟩
          obtain ⟨ca, cc, rfl, hcl, -⟩ := row_form hrk.row
          have HRK := Lib.hid hrk
          have hlen := HL.out k hk
          have hws := hrk.below.size
          clear hrk HS
          by_cases hlt : k < p.length
          · obtain ⟨ad, rfl, hl, hc⟩ := HI1.out.below HRK.out.below k hlt
            have HSN := Lib.hid (show (p.take (k + 1)).filter (fun x => x != (n : Int) + 1) = (p.take k).filter (fun x => x != (n : Int) + 1) ++ (if (p.getD k 0 != (n : Int) + 1) = true then [p.getD k 0] else []) by rw [take_succ' hlt, filter_snoc])
            generalize p.getD k 0 = x at *
            generalize (p.take k).filter (fun x => x != (n : Int) + 1) = out at *
            by_cases hx : x = (n : Int) + 1
            · have hx' : (x != (n : Int) + 1) = false := by simp [hx]
              rw [hx', if_neg (by simp), List.append_nil] at HSN
              subst hx
              clear hx'
              go_wp2
              go_roundw
              case rel => exact ⟨k + 1, hlt, by go_num, by rw [HSN.out]; exact HRK.out⟩
              case measure => simp [intOf]; omega
            · have hx' : (x != (n : Int) + 1) = true := by simpa using hx
              rw [hx', if_pos rfl] at HSN
              clear hx
              go_wp2_with (first | (at_builtin; refine wpList_append_own_at _ rfl _ _ 23 rfl w.heap.size 3 i0 (.int .i64 0) 1 8 Tryd.underlying23 hin hz0 hz1 hz2 rfl (by decide) _ _ _ rfl (HRK.out.row.alloc _) ⟨wo.heap.size, 0, none⟩ 1 1 [.int .i64 x] rfl rfl ?c1 ?c2 ?c3 ?c4 ?c5 ?_))
              case c1 => exact cell_lit _ _ _
              case c2 => exact one_lit _
              case c3 => unfold maxLen; omega
              case c4 => omega
              case c5 => simp; omega
              intro v7 w7 hown7 hgrow7 _ _
              have HX := Lib.hid (HRK.out.app _ hown7 hgrow7)
              rw [← HSN.out] at HX
              clear hown7 hgrow7
              go_wp2
              go_roundw
              case rel => exact ⟨k + 1, hlt, by go_num, HX.out⟩
              case measure => simp [intOf]; omega
          · obtain rfl : k = p.length := by omega
            rw [List.take_length] at *
            have HST : Hid (RK w wo (.slice ca (p.filter (fun x => x != (n : Int) + 1)).length cc) (p.filter (fun x => x != (n : Int) + 1) ++ (q.take 0).filter (fun x => x != -((n : Int) + 1)))) := by
              show RK _ _ _ _
              rw [List.take_zero, List.filter_nil, List.append_nil]; exact HRK.out
            clear HRK
            go_wp2_with fail
            go_loopw [8, 50] (fun cV kV wr => ∃ k : Nat, k ≤ q.length ∧ kV = .int .i64 (k : Int) ∧ RK w wr cV (p.filter (fun x => x != (n : Int) + 1) ++ (q.take k).filter (fun x => x != -((n : Int) + 1)))) (fun _ kV _ => q.length - (intOf kV).toNat)
            case atStart => exact ⟨0, by omega, rfl, HST.out⟩
            case round =>
              obtain ⟨k, hk, rfl, hrk⟩ := hrel
              obtain ⟨wo2, rfl⟩ : ∃ wo, wo = wr := ⟨_, rfl⟩
              obtain ⟨ca, cc, rfl, hcl, -⟩ := row_form hrk.row
              have HRK := Lib.hid hrk
              have hlen := HL2.out k hk
              have hws := hrk.below.size
              clear hrk HST
              by_cases hlt : k < q.length
              · obtain ⟨ad, rfl, hl, hc⟩ := HI2.out.below HRK.out.below k hlt
                have HSN := Lib.hid (show p.filter (fun x => x != (n : Int) + 1) ++ (q.take (k + 1)).filter (fun x => x != -((n : Int) + 1)) = (p.filter (fun x => x != (n : Int) + 1) ++ (q.take k).filter (fun x => x != -((n : Int) + 1))) ++ (if (q.getD k 0 != -((n : Int) + 1)) = true then [q.getD k 0] else []) by rw [take_succ' hlt, filter_snoc, List.append_assoc])
                generalize q.getD k 0 = x at *
                generalize p.filter (fun x => x != (n : Int) + 1) ++ (q.take k).filter (fun x => x != -((n : Int) + 1)) = out at *
                by_cases hx : x = -((n : Int) + 1)
                · have hx' : (x != -((n : Int) + 1)) = false := by simp [hx]
                  rw [hx', if_neg (by simp), List.append_nil] at HSN
                  subst hx
                  clear hx'
                  go_wp2
                  go_roundw
                  case rel => exact ⟨k + 1, hlt, by go_num, by rw [HSN.out]; exact HRK.out⟩
                  case measure => simp [intOf]; omega
                · have hx' : (x != -((n : Int) + 1)) = true := by simpa using hx
                  rw [hx', if_pos rfl] at HSN
                  clear hx
                  go_wp2_with (first | (at_builtin; refine wpList_append_own_at _ rfl _ _ 23 rfl w.heap.size 3 i0 (.int .i64 0) 1 8 Tryd.underlying23 hin hz0 hz1 hz2 rfl (by decide) _ _ _ rfl (HRK.out.row.alloc _) ⟨wo2.heap.size, 0, none⟩ 1 1 [.int .i64 x] rfl rfl ?c1 ?c2 ?c3 ?c4 ?c5 ?_))
                  case c1 => exact cell_lit _ _ _
                  case c2 => exact one_lit _
                  case c3 => unfold maxLen; omega
                  case c4 => omega
                  case c5 => simp; omega
                  intro v7 w7 hown7 hgrow7 _ _
                  have HX := Lib.hid (HRK.out.app _ hown7 hgrow7)
                  rw [← HSN.out] at HX
                  clear hown7 hgrow7
                  go_wp2
                  go_roundw
                  case rel => exact ⟨k + 1, hlt, by go_num, HX.out⟩
                  case measure => simp [intOf]; omega
              · obtain rfl : k = q.length := by omega
                rw [List.take_length, HALL.out] at *
                have HFO := Lib.hid (rform_any (allL p q n) ca cc wo2 (ints_row HRK.out.row) (by omega))
                generalize formF (allL p q n) = r at *
                obtain ⟨r1, r2⟩ := r
                simp only at *
                go_wp2_with fail
                refine HFO.out.mono ?_
                rintro e w5 ⟨⟨ra, rc, rfl, hrow⟩, hb5⟩
                have HB5 : Hid (Below w.heap.size w w5) := HRK.out.below.trans (hb5.mono HRK.out.below.size)
                have HRW := Lib.hid (ownsRow_base hrow HRK.out.below.size)
                clear hb5 hrow HFO
                cases r2 with
                | true =>
                  rw [if_pos rfl] at HF
                  go_wp2
                  go_ret2
                  exact ⟨by rw [HF.out]; exact rresAns_err rfl, HB5.out⟩
                | false =>
                  rw [if_neg (by simp)] at HF
                  go_wp2
                  go_ret2
                  exact ⟨⟨ra, rc, by rw [HF.out]; rfl, by rw [HF.out]; exact HRW.out⟩, HB5.out⟩
      · refine bad (by unfold resF; rw [if_neg (fun h => hq h.2.2.2)]) ?_
        rw [decide_eq_true hp] at HC1
        rw [decide_eq_false hq] at HC2
        clear hI1 hI2 bad hp hq
        go_enter Tryd.func10, Tryd.ntmps10
        go_wp2_with fail
        refine HWI.out.mono ?_
        rintro e w1 ⟨rfl, rfl⟩
        go_wp2_with fail
        refine HC1.out.mono ?_
        rintro e w1 ⟨rfl, rfl⟩
        go_wp2_with fail
        refine HC2.out.mono ?_
        rintro e w1 ⟨rfl, rfl⟩
        clear HC1 HC2
        go_wp2
        go_ret2
        exact ⟨rfl, rfl⟩
    · refine bad (by unfold resF; rw [if_neg (fun h => hp h.2.2.1)]) ?_
      rw [decide_eq_false hp] at HC1
      clear hI1 hI2 bad hp HC2
      go_enter Tryd.func10, Tryd.ntmps10
      go_wp2_with fail
      refine HWI.out.mono ?_
      rintro e w1 ⟨rfl, rfl⟩
      go_wp2_with fail
      refine HC1.out.mono ?_
      rintro e w1 ⟨rfl, rfl⟩
      clear HC1
      go_wp2
      go_ret2
      exact ⟨rfl, rfl⟩
  · rw [decide_eq_false h0] at HWI
    refine bad (by unfold resF; rw [if_neg (fun h => h0 ⟨h.1, by omega⟩)]) ?_
    clear bad hI1 hI2
    go_enter Tryd.func10, Tryd.ntmps10
    go_wp2_with fail
    refine HWI.out.mono ?_
    rintro e w1 ⟨rfl, rfl⟩
    go_wp2
    go_ret2
    exact ⟨rfl, rfl⟩
end Go.Proofs.YtcmmoinkhodjfaaDoor
