/- For every number of variables, every list of steps and every number: each function that the steps make holds of just the values that its table tells, whatever stands in the bits behind the variables. No condition. -/
import Derived.Test.YtacgoopgifoojaaBdMade
import Derived.ProofKit
import Derived.SizedLaws
import Derived.OpenShut
import Derived.Laws.NewBlocks
import Derived.Laws.Bits64b
namespace Go.Proofs.Ytacgoopgifoojaa
open Go.ChangeShapes Go.WideShapes Go.ChangeAt Go.RowKit Go.Maps

/-- Values, and others behind them. -/
def restN (V vars : Nat) : Nat := V * 2 ^ vars % 18446744073709551616
theorem rest_lt (V vars : Nat) : restN V vars < 18446744073709551616 := Nat.mod_lt _ (by omega)
theorem rest_bit (V : Nat) {vars : Nat} {j : Nat} (hj : j < vars) : (restN V vars).testBit j = false := by
  unfold restN
  rw [show (18446744073709551616 : Nat) = 2 ^ 64 from rfl, Nat.testBit_mod_two_pow, Nat.testBit_mul_two_pow]
  have : ¬ vars ≤ j := by omega
  simp [this]
theorem values_bit (V : Nat) {vars i : Nat} {j : Nat} (hj : j < vars) : bitsF (i ||| restN V vars) j = bitsF i j := by
  unfold bitsF
  rw [Nat.testBit_or, rest_bit V hj, Bool.or_false]
theorem values_num (V : Nat) {vars i : Nat} (h6 : vars ≤ 6) (hi : i < 2 ^ vars) : bits .or .u64 (i : Int) (restN V vars : Int) = ((i ||| restN V vars : Nat) : Int) ∧ i ||| restN V vars < 18446744073709551616 := by
  have p6 := pow_le6 h6
  have h1 := rest_lt V vars
  refine ⟨bits_or_u64_nat i (restN V vars) (by omega) h1, ?_⟩
  exact Nat.or_lt_two_pow (n := 64) (by omega) h1
theorem rest_wrap (V vars : Nat) : IntKind.u64.wrap ((V : Int) * 2 ^ vars) = (restN V vars : Int) := by
  rw [IntKind.wrap_u64]
  unfold restN
  simp

set_option maxRecDepth 100000 in
set_option maxHeartbeats 4000000 in
theorem means_walk (vars : Nat) (hv0 : 0 < vars) (hv6 : vars ≤ 6) (xs : List Quad) (va : Value) (V : Nat) (w : World) (hx : ArgQuads w va xs) (hxl : xs.length ≤ 25) :
    Calls Try.prog 3 #[.int .i64 (vars : Int), va, .int .u64 (V : Int)] w fun e w' => e = .returned (.bool true) ∧ Below w.heap.size w w' := by
  have HM := Lib.hid (made_yes vars hv0 hv6 xs va w hx hxl)
  obtain ⟨hsem, hlen, hal⟩ := fun_ok hv0 hv6 xs [] [0, 1] _ (sems_start (good_nil vars)) (by simp) (by simp; omega)
  have p6 := pow_le6 hv6
  obtain ⟨a0, c0, rfl, -⟩ := hx
  have hTl := hsem.len
  have hne : 0 < (funF vars ([], [0, 1]) xs).2.length := by rw [hal]; simp; omega
  have hN27 : (funF vars ([], [0, 1]) xs).2.length ≤ 27 := by rw [hal]; simp; omega
  have hnl : (funF vars ([], [0, 1]) xs).1.length ≤ 90000 := by simp at hlen; omega
  have HSEM := Lib.hid hsem
  have hw : wrap64 ((2 : Int) ^ vars) = ((2 ^ vars : Nat) : Int) := by
    have e : ((2 : Int) ^ vars) = ((2 ^ vars : Nat) : Int) := by simp
    rw [e]; generalize 2 ^ vars = z at *; unfold wrap64; omega
  obtain ⟨R, hR⟩ : ∃ R : Nat, R = restN V vars := ⟨_, rfl⟩
  have HRW : Hid (IntKind.u64.wrap ((V : Int) * 2 ^ vars) = (R : Int)) := by rw [hR]; exact rest_wrap V vars
  have HR := Lib.hid hR
  clear hR
  clear hsem hlen hal
  go_enter Try.func3, Try.ntmps3
  go_wp2_with fail
  refine HM.out.mono ?_
  rintro e w1 ⟨s, b, O, ga, c, tv, gs, rfl, hm⟩
  have htab := hm.tabs
  have hints := hm.ints
  have hsp := hm.space
  have HB1 := Lib.hid hm.below
  generalize (funF vars ([], [0, 1]) xs).2 = al at *
  generalize (funF vars ([], [0, 1]) xs).1 = ns at *
  generalize (funT vars [fun _ => false, fun _ => true] xs) = T at *
  have hgl : gs.length = al.length := by rw [htab.len, List.length_map]; exact hTl.symm
  obtain ⟨tg, tc, rfl, htg, htc, -⟩ := htab.form (by omega)
  obtain ⟨N, hN⟩ : ∃ N, N = al.length := ⟨_, rfl⟩
  have HTC : Hid (∀ X, Below w1.heap.size w1 X → ∀ i (hi : i < gs.length), X.cell? ⟨tg, i, none⟩ = some (.slice (some ⟨gs[i], 0, none⟩) (2 ^ vars) (2 ^ vars))) := fun X hX i hi => (hX.cell (p := ⟨tg, i, none⟩) htg).trans (htc i hi)
  have HIC : Hid (∀ X, Below w1.heap.size w1 X → ∀ i (hi : i < al.length), X.cell? ⟨ga, i, none⟩ = some (.int .i64 al[i])) := fun X hX i hi => (hX.cell (p := ⟨ga, i, none⟩) hints.lt).trans (hints.cells i hi)
  have HBC : Hid (∀ X, Below w1.heap.size w1 X → ∀ k (hk : k < gs.length) (h2 : k < T.length) i, i < 2 ^ vars → X.cell? ⟨gs[k], i, none⟩ = some (.bool (T[k] (bitsF i)))) := fun X hX k hk h2 i hi =>
    (hX.cell (p := ⟨gs[k], i, none⟩) (htab.lt _ (List.getElem_mem hk))).trans (htab.cell rfl hk h2 i hi)
  have HHO : Hid (∀ X, Below w1.heap.size w1 X → ∀ k (hk : k < al.length) (h2 : k < T.length) i, i < 2 ^ vars → Calls Try.prog 8 #[.pointer (some ⟨s, 0, none⟩), .int .i64 al[k], .int .u64 ((i ||| R : Nat) : Int)] X fun e w' => e = .returned (.tuple #[.bool (T[k] (bitsF i)), .nilIface]) ∧ Below X.heap.size X w') := fun X hX k hk h2 i hi => by
    have hR := HR.out
    subst hR
    have h3 := holds_any (hsp.new hX) HSEM.out.good hnl al[k] (HSEM.out.has _ (List.getElem_mem hk)) (i ||| restN V vars) (values_num V hv6 hi).2
    have h4 : sem ns al[k] (bitsF (i ||| restN V vars)) = T[k] (bitsF i) := by
      rw [sem_vars HSEM.out.good (g := bitsF i) (fun j hj => values_bit V hj)]
      exact HSEM.out.sem k hk h2 _
    rw [h4] at h3
    exact h3
  have HVA : Hid (∀ X, Below w1.heap.size w1 X → Calls Try.prog 7 #[.pointer (some ⟨s, 0, none⟩)] X fun e w' => e = .returned (.int .i64 (vars : Int)) ∧ X = w') := fun X hX => vars_any (hsp.new hX)
  have HVN : Hid (∀ i : Nat, i < 2 ^ vars → bits .or .u64 (i : Int) (R : Int) = ((i ||| R : Nat) : Int)) := fun i hi => by rw [HR.out]; exact (values_num V hv6 hi).1
  have HTN := Lib.hid hTl
  have HGL := Lib.hid hgl
  have HN := Lib.hid hN
  rw [hgl, ← hN]
  rw [← hN] at hne hN27
  have eNN : (N != N) = false := by simp
  clear hm htab hints htc hsp hgl hTl hN HM
  generalize 2 ^ vars = n at *
  go_wp2_with (go_at_call 7; refine (HVA.out _ (Below.refl _ _)).mono ?_; rintro e wz ⟨rfl, rfl⟩)
  go_loopw [11] (fun iV wr => ∃ i : Nat, i ≤ N ∧ iV = .int .i64 (i : Int) ∧ Below w1.heap.size w1 wr) (fun iV _ => N - (intOf iV).toNat)
  case atStart => exact ⟨0, Nat.zero_le _, rfl, Below.refl _ _⟩
  case round =>
    obtain ⟨k, hk, rfl, hbi⟩ := hrel
    by_cases hlt : k < N
    · have HBI := Lib.hid hbi
      have k1 : (k : Int) < (N : Int) := by omega
      clear hbi
      go_wp2_with fail
      go_loopw [12] (fun kV wr => ∃ i : Nat, i ≤ n ∧ kV = .int .i64 (i : Int) ∧ Below w1.heap.size w1 wr) (fun kV _ => n - (intOf kV).toNat)
      case atStart => exact ⟨0, Nat.zero_le _, rfl, HBI.out⟩
      case round =>
        obtain ⟨i, hi, rfl, hbk⟩ := hrel
        by_cases hlti : i < n
        · have i1 : (i : Int) < (n : Int) := by omega
          have lk : k < al.length := by rw [← HN.out]; exact hlt
          have gk : k < gs.length := by rw [HGL.out]; exact lk
          have tk : k < T.length := by rw [← HTN.out]; exact lk
          have hbd : Below w1.heap.size w1 wr.drew := hbk.drew
          have HSC := Lib.hid (HHO.out _ hbd k lk tk i hlti)
          have hvn := HVN.out i hlti
          obtain ⟨m, hm⟩ : ∃ m, m = i ||| R := ⟨_, rfl⟩
          rw [← hm] at hvn HSC
          have HVI := Lib.hid hvn
          clear hm hvn
          have SK : Hid (∀ X, Below w1.heap.size w1 X → X.cell? ⟨ga, k, none⟩ = some (.int .i64 al[k]) ∧ X.cell? ⟨tg, k, none⟩ = some (.slice (some ⟨gs[k], 0, none⟩) (n) (n)) ∧ X.cell? ⟨gs[k], i, none⟩ = some (.bool (T[k] (bitsF i)))) := fun X hX => ⟨HIC.out X hX k lk, HTC.out X hX k gk, HBC.out X hX k gk tk i hlti⟩
          have HBD := Lib.hid hbd
          have S0 := (SK.out _ hbd).1
          have HCV : Hid (IntKind.u64.wrap (i : Int) = (i : Int)) := IntWalk.u64_in _ ⟨by omega, by omega⟩
          generalize T[k] (bitsF i) = D at *
          generalize gs[k] = g1 at *
          generalize al[k] = x1 at *
          have enn : (D != D) = false := by simp
          clear hbk hbd
          go_wp2_with fail
          go_region_held3 (fun X => X.cell? ⟨ga, k, none⟩ = some (.int .i64 x1)) (first | exact S0 | exact hs2.1)
            (first | (go_at_call 8; (try simp only [HCV.out, HRW.out, HVI.out]); with_reducible refine HSC.out.mono ?_; rintro e w2 ⟨rfl, hb2⟩; have hb3 := HBD.out.trans (hb2.mono HBD.out.size); have hs2 := SK.out _ hb3))
          have HB3 := Lib.hid hb3
          obtain ⟨-, z1, z2⟩ := hs2
          clear hb2 hb3 S0 SK HSC
          go_wp2
          go_roundw
          case rel => exact ⟨i + 1, by omega, by go_num, HB3.out⟩
          case measure => simp [intOf]; omega
        · obtain rfl : n = i := by omega
          have HBK := Lib.hid hbk
          clear hbk
          go_wp2
          go_roundw
          case rel => exact ⟨k + 1, by omega, by go_num, HBK.out⟩
          case measure => simp [intOf]; omega
    · obtain rfl : N = k := by omega
      have HBK := Lib.hid (HB1.out.trans (hbi.mono HB1.out.size))
      clear hbi
      go_wp2
      go_ret
      exact ⟨rfl, HBK.out⟩

set_option maxRecDepth 100000 in
set_option maxHeartbeats 2000000 in
theorem means_no (vars : Int) (xs : List Quad) (va : Value) (V : Nat) (w : World) (hx : ArgQuads w va xs) (hn : xs.length ≤ 9223372036854775807) (h : vars < 1 ∨ 6 < vars ∨ 25 < xs.length) :
    Calls Try.prog 3 #[.int .i64 vars, va, .int .u64 (V : Int)] w fun e w' => e = .returned (.bool true) ∧ Below w.heap.size w w' := by
  obtain ⟨a, c, rfl, -⟩ := hx
  have HS := Lib.hid (made_no vars a xs.length c h hn w)
  clear h
  go_enter Try.func3, Try.ntmps3
  go_wp2_with fail
  refine HS.out.mono ?_
  rintro e w1 ⟨rfl, rfl⟩
  go_wp2
  go_ret
  exact ⟨rfl, Below.refl _ _⟩

theorem means_all (vars : Int) (xs : List Quad) (va : Value) (V : Nat) (w : World) (hx : ArgQuads w va xs) (hn : xs.length ≤ 9223372036854775807) :
    Calls Try.prog 3 #[.int .i64 vars, va, .int .u64 (V : Int)] w fun e w' => e = .returned (.bool true) ∧ Below w.heap.size w w' := by
  by_cases h : vars < 1 ∨ 6 < vars ∨ 25 < xs.length
  · exact means_no vars xs va V w hx hn h
  · obtain ⟨n, rfl⟩ : ∃ n : Nat, vars = (n : Int) := ⟨vars.toNat, by omega⟩
    exact means_walk n (by omega) (by omega) xs va V w hx (by omega)

theorem own : ownKnob Try.prog.godebug = none := by kernel_rfl

set_option maxRecDepth 100000 in
theorem means_lifted (os : Os) (started : os.Started) (H : Type) (enc : TypeId × Value → H) :
    ReturnsInHanded {} Try.checked os 3 .any (Rows.bddMeansSpec.pre6 enc Try.prog Try.f3 Rows.bddMeansRow.domain false) (Rows.bddMeansSpec.post enc Try.prog Try.f3 false true false false) := by
  refine returnsInHanded_of_change_sized (C := Try.checked) own started (by kernel_rfl) Try.func3
    (ChangeSpec.witness6 (enc := enc) (C := Try.checked) false ⟨#[], #[.int .i64 0, .slice none 0 0, .int .u64 0], []⟩ 8 (by kernel_rfl) (by kernel_rfl) (by kernel_rfl) (by kernel_rfl)) ?_
  intro W base args ds gs before hval0 hW _ _ _
  have hval : ∀ (j : Nat) t v, Try.f3.params[j]? = some t → args[j]? = some v → Value.okWide Try.prog W .any base t v := hval0
  have hW' := hW
  obtain ⟨p, q, hA0, hV, rfl, _, _⟩ := hW
  have hA : DataW.TrodAll enc Try.prog W 0 (fun _ => true) true Try.f3.params.toList args.toList ds p := hA0
  rw [Try.params3] at hA hval
  obtain ⟨v0, vs0, d0, ds0, p0, q0, hargs, rfl, rfl, h0, r0⟩ := trodAll_cons hA
  obtain ⟨v1, vs1, d1, ds1, p1, q1, rfl, rfl, rfl, h1, r1⟩ := trodAll_cons r0
  obtain ⟨v2, vs2, d2, ds2, p2, q2, rfl, rfl, rfl, h2, r2⟩ := trodAll_cons r1
  obtain ⟨rfl, rfl, rfl⟩ := trodAll_nil r2
  obtain rfl : args = #[v0, v1, v2] := by cases args; simp_all
  obtain ⟨rfl, rfl⟩ := trodVars_none hV
  obtain ⟨n0, rfl, rfl, rfl, wn0⟩ := open_int Try.underlying3 (hval 0 3 v0 rfl rfl) h0
  obtain ⟨a1, l1, c1, rfl⟩ := okWide_slice Try.underlying22 (hval 1 22 v1 rfl rfl)
  obtain ⟨n2, rfl, rfl, rfl, wn2⟩ := open_int Try.underlying23 (hval 2 23 v2 rfl rfl) h2
  obtain ⟨V, rfl⟩ : ∃ V : Nat, n2 = (V : Int) := ⟨n2.toNat, by simp [Lit.wf, IntKind.min, IntKind.max, IntKind.signed, IntKind.bits] at wn2; omega⟩
  clear hA0 hval0
  have hlt : ∀ x ∈ [] ++ (p1 ++ ([] ++ [])) ++ [], x.block < W.heap.size := fun x hx => by simpa using hW'.lt x hx
  obtain ⟨xs, g1, b1⟩ := argQuads h1
  refine (means_all n0 xs _ V W g1 b1).mono fun e W' ⟨he, hg⟩ => ?_
  subst he
  have t1 := Below.trod laidOut (by kernel_rfl) (of_decide_eq_true (by kernel_rfl)) h1 hg (fun x hx => hlt x (by simp [hx]))
  exact ⟨_, rfl, _, _, _, [], _, [], hW', trodAll_mk1 (shut_bool Try.underlying4 _), trodAll_cons_mk (shut_int Try.underlying3 wn0) (trodAll_cons_mk t1 (trodAll_cons_mk (shut_int Try.underlying23 wn2) trodAll_mk0)), rfl, hg.frame _, fun h => by cases h⟩

theorem bddMeans_holds : Rows.BddMeansSaid :=
  OpenClaim.holds_of_wide 3 Try.f3 rfl rfl rfl rfl rfl rfl rfl ⟨rfl, rfl, rfl, rfl, rfl⟩ rfl rfl rfl rfl rfl (by kernel_rfl) Try.func3 (by kernel_rfl)
    (of_decide_eq_true (by kernel_rfl)) (by unfold Func.isWrapper; first | (rw [if_pos (by decide +kernel)]; kernel_rfl) | (rw [if_neg (by decide +kernel)]; exact ⟨rfl, rfl⟩))
    (fun os started H enc _ => means_lifted os started H enc)
end Go.Proofs.Ytacgoopgifoojaa
