/- For every number of variables and every list of steps: two of the functions that the steps make have the same handle just if their tables of all values are the same. No condition. -/
import Derived.Test.YtacgoopgifoojaaBdMade
import Derived.ProofKit
import Derived.SizedLaws
import Derived.OpenShut
import Derived.Laws.NewBlocks
namespace Go.Proofs.Ytacgoopgifoojaa
open Go.ChangeShapes Go.WideShapes Go.ChangeAt Go.RowKit Go.Maps

theorem same_bool {vars : Nat} {ns : List Nd} {al : List Int} {T : List Fn'} (h : Sems vars ns al T) (i k : Nat) (hi : i < al.length) (hk : k < al.length) :
    (al[i] == al[k]) = decide ((T.map (tabOf vars))[i]'(by rw [List.length_map, ← h.len]; exact hi) = (T.map (tabOf vars))[k]'(by rw [List.length_map, ← h.len]; exact hk)) := by
  have h1 : i < T.length := by rw [← h.len]; exact hi
  have h2 : k < T.length := by rw [← h.len]; exact hk
  have := same_tab h.good (h.has _ (List.getElem_mem hi)) (h.has _ (List.getElem_mem hk)) (h.sem i hi h1) (h.sem k hk h2)
  rw [Bool.eq_iff_iff]
  simp only [beq_iff_eq, decide_eq_true_eq, List.getElem_map]
  exact this

set_option maxRecDepth 100000 in
set_option maxHeartbeats 4000000 in
theorem same_walk (vars : Nat) (hv0 : 0 < vars) (hv6 : vars ≤ 6) (xs : List Quad) (va : Value) (w : World) (hx : ArgQuads w va xs) (hxl : xs.length ≤ 25) :
    Calls Try.prog 4 #[.int .i64 (vars : Int), va] w fun e w' => e = .returned (.bool true) ∧ Below w.heap.size w w' := by
  have HM := Lib.hid (made_yes vars hv0 hv6 xs va w hx hxl)
  obtain ⟨hsem, hlen, hal⟩ := fun_ok hv0 hv6 xs [] [0, 1] _ (sems_start (good_nil vars)) (by simp) (by simp; omega)
  have hTl0 := hsem.len
  have HSB : Hid (∀ i k (hi : i < (funF vars ([], [0, 1]) xs).2.length) (hk : k < (funF vars ([], [0, 1]) xs).2.length) (h1 : i < ((funT vars [fun _ => false, fun _ => true] xs).map (tabOf vars)).length) (h2 : k < ((funT vars [fun _ => false, fun _ => true] xs).map (tabOf vars)).length), ((funF vars ([], [0, 1]) xs).2[i] == (funF vars ([], [0, 1]) xs).2[k]) = decide (((funT vars [fun _ => false, fun _ => true] xs).map (tabOf vars))[i] = ((funT vars [fun _ => false, fun _ => true] xs).map (tabOf vars))[k])) := fun i k hi hk _ _ => same_bool hsem i k hi hk
  have p6 := pow_le6 hv6
  obtain ⟨a0, c0, rfl, -⟩ := hx
  have hTl := hsem.len
  have hne : 0 < (funF vars ([], [0, 1]) xs).2.length := by rw [hal]; simp; omega
  have hN27 : (funF vars ([], [0, 1]) xs).2.length ≤ 27 := by rw [hal]; simp; omega
  clear hsem hlen hal hTl0
  go_enter Try.func4, Try.ntmps4
  go_wp2_with fail
  refine HM.out.mono ?_
  rintro e w1 ⟨s, b, O, ga, c, tv, gs, rfl, hm⟩
  have htab := hm.tabs
  have hints := hm.ints
  have HB1 := Lib.hid hm.below
  generalize (funF vars ([], [0, 1]) xs).2 = al at *
  generalize (funT vars [fun _ => false, fun _ => true] xs) = T at *
  have hgl : gs.length = al.length := by rw [htab.len, List.length_map]; exact hTl.symm
  obtain ⟨tg, tc, rfl, htg, htc, -⟩ := htab.form (by omega)
  obtain ⟨N, hN⟩ : ∃ N, N = al.length := ⟨_, rfl⟩
  have HTC : Hid (∀ X, Below w1.heap.size w1 X → ∀ i (hi : i < gs.length), X.cell? ⟨tg, i, none⟩ = some (.slice (some ⟨gs[i], 0, none⟩) (2 ^ vars) (2 ^ vars))) := fun X hX i hi => (hX.cell (p := ⟨tg, i, none⟩) htg).trans (htc i hi)
  have HIC : Hid (∀ X, Below w1.heap.size w1 X → ∀ i (hi : i < al.length), X.cell? ⟨ga, i, none⟩ = some (.int .i64 al[i])) := fun X hX i hi => (hX.cell (p := ⟨ga, i, none⟩) hints.lt).trans (hints.cells i hi)
  have HSM : Hid (∀ X, Below w1.heap.size w1 X → ∀ i k (hi : i < gs.length) (hk : k < gs.length) (h1 : i < (T.map (tabOf vars)).length) (h2 : k < (T.map (tabOf vars)).length), Calls Try.prog 9 #[.slice (some ⟨gs[i], 0, none⟩) (2 ^ vars) (2 ^ vars), .slice (some ⟨gs[k], 0, none⟩) (2 ^ vars) (2 ^ vars)] X fun e w' => e = .returned (.bool (decide ((T.map (tabOf vars))[i] = (T.map (tabOf vars))[k]))) ∧ Below X.heap.size X w') := fun X hX i k hi hk h1 h2 =>
    same_any ((htab.tabs i hi h1).new hX) ((htab.tabs k hk h2).new hX) (htab.lens _ (List.getElem_mem h1)) (htab.lens _ (List.getElem_mem h2)) (by omega)
  have hTN : (T.map (tabOf vars)).length = al.length := by rw [List.length_map]; exact hTl.symm
  have HTN := Lib.hid hTN
  have HGL := Lib.hid hgl
  have HN := Lib.hid hN
  rw [hgl, ← hN]
  rw [← hN] at hne hN27
  have eNN : (N != N) = false := by simp
  clear hm htab hints htc hgl hTl hTN hN HM
  go_wp2_with fail
  go_loopw [9] (fun iV wr => ∃ i : Nat, i ≤ N ∧ iV = .int .i64 (i : Int) ∧ Below w1.heap.size w1 wr) (fun iV _ => N - (intOf iV).toNat)
  case atStart => exact ⟨0, Nat.zero_le _, rfl, Below.refl _ _⟩
  case round =>
    obtain ⟨i, hi, rfl, hbi⟩ := hrel
    by_cases hlt : i < N
    · have HBI := Lib.hid hbi
      have i1 : (i : Int) < (N : Int) := by omega
      clear hbi
      go_wp2_with fail
      go_loopw [10] (fun kV wr => ∃ k : Nat, k ≤ N ∧ kV = .int .i64 (k : Int) ∧ Below w1.heap.size w1 wr) (fun kV _ => N - (intOf kV).toNat)
      case atStart => exact ⟨0, Nat.zero_le _, rfl, HBI.out⟩
      case round =>
        obtain ⟨k, hk, rfl, hbk⟩ := hrel
        by_cases hltk : k < N
        · have k1 : (k : Int) < (N : Int) := by omega
          have li : i < al.length := by rw [← HN.out]; exact hlt
          have lk : k < al.length := by rw [← HN.out]; exact hltk
          have gi : i < gs.length := by rw [HGL.out]; exact li
          have gk : k < gs.length := by rw [HGL.out]; exact lk
          have esb := HSB.out i k li lk (by rw [HTN.out]; exact li) (by rw [HTN.out]; exact lk)
          have hbd : Below w1.heap.size w1 wr.drew := hbk.drew
          have HSC := Lib.hid (HSM.out _ hbd i k gi gk (by rw [HTN.out]; exact li) (by rw [HTN.out]; exact lk))
          have SK : Hid (∀ X, Below w1.heap.size w1 X → X.cell? ⟨ga, i, none⟩ = some (.int .i64 al[i]) ∧ X.cell? ⟨ga, k, none⟩ = some (.int .i64 al[k]) ∧ X.cell? ⟨tg, i, none⟩ = some (.slice (some ⟨gs[i], 0, none⟩) (2 ^ vars) (2 ^ vars)) ∧ X.cell? ⟨tg, k, none⟩ = some (.slice (some ⟨gs[k], 0, none⟩) (2 ^ vars) (2 ^ vars))) := fun X hX => ⟨HIC.out X hX i li, HIC.out X hX k lk, HTC.out X hX i gi, HTC.out X hX k gk⟩
          have HBD := Lib.hid hbd
          have S0 := SK.out _ hbd
          generalize decide ((T.map (tabOf vars))[i]'(by rw [HTN.out]; exact li) = (T.map (tabOf vars))[k]'(by rw [HTN.out]; exact lk)) = D at *
          generalize gs[i] = g1 at *
          generalize gs[k] = g2 at *
          generalize al[i] = x1 at *
          generalize al[k] = x2 at *
          have enn : (D != D) = false := by simp
          clear hbk hbd
          go_wp2_with fail
          go_region_held3 (fun X => X.cell? ⟨ga, i, none⟩ = some (.int .i64 x1) ∧ X.cell? ⟨ga, k, none⟩ = some (.int .i64 x2) ∧ X.cell? ⟨tg, i, none⟩ = some (.slice (some ⟨g1, 0, none⟩) (2 ^ vars) (2 ^ vars)) ∧ X.cell? ⟨tg, k, none⟩ = some (.slice (some ⟨g2, 0, none⟩) (2 ^ vars) (2 ^ vars))) (first | exact S0 | exact hs2)
            (first | (go_at_call 9; with_reducible refine HSC.out.mono ?_; rintro e w2 ⟨rfl, hb2⟩; have hb3 := HBD.out.trans (hb2.mono HBD.out.size); have hs2 := SK.out _ hb3))
          have HB3 := Lib.hid hb3
          clear hb2 hb3 hs2 S0 SK HSC
          go_wp2
          go_roundw
          case rel => exact ⟨k + 1, by omega, by go_num, HB3.out⟩
          case measure => simp [intOf]; omega
        · obtain rfl : N = k := by omega
          have HBK := Lib.hid hbk
          clear hbk
          go_wp2
          go_roundw
          case rel => exact ⟨i + 1, by omega, by go_num, HBK.out⟩
          case measure => simp [intOf]; omega
    · obtain rfl : N = i := by omega
      have HBK := Lib.hid (HB1.out.trans (hbi.mono HB1.out.size))
      clear hbi
      go_wp2
      go_ret
      exact ⟨rfl, HBK.out⟩

set_option maxRecDepth 100000 in
set_option maxHeartbeats 2000000 in
theorem same_no (vars : Int) (xs : List Quad) (va : Value) (w : World) (hx : ArgQuads w va xs) (hn : xs.length ≤ 9223372036854775807) (h : vars < 1 ∨ 6 < vars ∨ 25 < xs.length) :
    Calls Try.prog 4 #[.int .i64 vars, va] w fun e w' => e = .returned (.bool true) ∧ Below w.heap.size w w' := by
  obtain ⟨a, c, rfl, -⟩ := hx
  have HS := Lib.hid (made_no vars a xs.length c h hn w)
  clear h
  go_enter Try.func4, Try.ntmps4
  go_wp2_with fail
  refine HS.out.mono ?_
  rintro e w1 ⟨rfl, rfl⟩
  go_wp2
  go_ret
  exact ⟨rfl, Below.refl _ _⟩

theorem same_all (vars : Int) (xs : List Quad) (va : Value) (w : World) (hx : ArgQuads w va xs) (hn : xs.length ≤ 9223372036854775807) :
    Calls Try.prog 4 #[.int .i64 vars, va] w fun e w' => e = .returned (.bool true) ∧ Below w.heap.size w w' := by
  by_cases h : vars < 1 ∨ 6 < vars ∨ 25 < xs.length
  · exact same_no vars xs va w hx hn h
  · obtain ⟨n, rfl⟩ : ∃ n : Nat, vars = (n : Int) := ⟨vars.toNat, by omega⟩
    exact same_walk n (by omega) (by omega) xs va w hx (by omega)

theorem own : ownKnob Try.prog.godebug = none := by kernel_rfl

set_option maxRecDepth 100000 in
theorem same_lifted (os : Os) (started : os.Started) (H : Type) (enc : TypeId × Value → H) :
    ReturnsInHanded {} Try.checked os 4 .any (Rows.bddSameSpec.pre6 enc Try.prog Try.f4 Rows.bddSameRow.domain false) (Rows.bddSameSpec.post enc Try.prog Try.f4 false true false false) := by
  refine returnsInHanded_of_change_sized (C := Try.checked) own started (by kernel_rfl) Try.func4
    (ChangeSpec.witness6 (enc := enc) (C := Try.checked) false ⟨#[], #[.int .i64 0, .slice none 0 0], []⟩ 8 (by kernel_rfl) (by kernel_rfl) (by kernel_rfl) (by kernel_rfl)) ?_
  intro W base args ds gs before hval0 hW _ _ _
  have hval : ∀ (j : Nat) t v, Try.f4.params[j]? = some t → args[j]? = some v → Value.okWide Try.prog W .any base t v := hval0
  have hW' := hW
  obtain ⟨p, q, hA0, hV, rfl, _, _⟩ := hW
  have hA : DataW.TrodAll enc Try.prog W 0 (fun _ => true) true Try.f4.params.toList args.toList ds p := hA0
  rw [Try.params4] at hA hval
  obtain ⟨v0, vs0, d0, ds0, p0, q0, hargs, rfl, rfl, h0, r0⟩ := trodAll_cons hA
  obtain ⟨v1, vs1, d1, ds1, p1, q1, rfl, rfl, rfl, h1, r1⟩ := trodAll_cons r0
  obtain ⟨rfl, rfl, rfl⟩ := trodAll_nil r1
  obtain rfl : args = #[v0, v1] := by cases args; simp_all
  obtain ⟨rfl, rfl⟩ := trodVars_none hV
  obtain ⟨n0, rfl, rfl, rfl, wn0⟩ := open_int Try.underlying3 (hval 0 3 v0 rfl rfl) h0
  obtain ⟨a1, l1, c1, rfl⟩ := okWide_slice Try.underlying22 (hval 1 22 v1 rfl rfl)
  clear hA0 hval0
  have hlt : ∀ x ∈ [] ++ (p1 ++ []) ++ [], x.block < W.heap.size := fun x hx => by simpa using hW'.lt x hx
  obtain ⟨xs, g1, b1⟩ := argQuads h1
  refine (same_all n0 xs _ W g1 b1).mono fun e W' ⟨he, hg⟩ => ?_
  subst he
  have t1 := Below.trod laidOut (by kernel_rfl) (of_decide_eq_true (by kernel_rfl)) h1 hg (fun x hx => hlt x (by simp [hx]))
  exact ⟨_, rfl, _, _, _, [], _, [], hW', trodAll_mk1 (shut_bool Try.underlying4 _), trodAll_cons_mk (shut_int Try.underlying3 wn0) (trodAll_cons_mk t1 trodAll_mk0), rfl, hg.frame _, fun h => by cases h⟩

theorem bddSame_holds : Rows.BddSameSaid :=
  OpenClaim.holds_of_wide 4 Try.f4 rfl rfl rfl rfl rfl rfl rfl ⟨rfl, rfl, rfl, rfl, rfl⟩ rfl rfl rfl rfl rfl (by kernel_rfl) Try.func4 (by kernel_rfl)
    (of_decide_eq_true (by kernel_rfl)) (by unfold Func.isWrapper; first | (rw [if_pos (by decide +kernel)]; kernel_rfl) | (rw [if_neg (by decide +kernel)]; exact ⟨rfl, rfl⟩))
    (fun os started H enc _ => same_lifted os started H enc)
end Go.Proofs.Ytacgoopgifoojaa
