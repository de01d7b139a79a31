/- For every number of variables, every list of steps, every one of the functions that they make and all values: what is kept when all else is freed is as it was, by the same handle; as many nodes go as are not reached; and made again it is the same. -/
import Derived.Test.YtdnojfkncpkkmabBdAgain
import Derived.Test.YtdnojfkncpkkmabBdCount
import Derived.Test.YtdnojfkncpkkmabBdSt
import Derived.ProofKit
import Derived.SizedLaws
import Derived.OpenShut
namespace Go.Proofs.Ytdnojfkncpkkmab
open Go.ChangeShapes Go.WideShapes Go.ChangeAt Go.RowKit Go.Maps

theorem at_mem {al : List Int} (hne : 0 < al.length) (x : Int) : alAt al x ∈ al := by
  have hl := pickV_lt x hne
  have e1 : alAt al x = al[pickV x al.length] := by unfold alAt; simp [List.getD_eq_getElem?_getD, List.getElem?_eq_getElem hl]
  rw [e1]; exact List.getElem_mem hl

set_option maxRecDepth 100000 in
set_option maxHeartbeats 4000000 in
theorem frees_walk (vars : Nat) (hv0 : 0 < vars) (hv6 : vars ≤ 6) (xs : List Quad) (va : Value) (i : Int) (vals : Nat) (hvals : vals < 18446744073709551616) (w : World) (hx : ArgQuads w va xs) (hxl : xs.length ≤ 25) :
    Calls Try.prog 5 #[.int .i64 (vars : Int), va, .int .i64 i, .int .u64 (vals : Int)] w fun e w' => e = .returned (.bool true) ∧ Below w.heap.size w w' := by
  have HSP := Lib.hid (space_yes vars hv0 hv6 xs va w hx hxl)
  obtain ⟨hsem, hlen, hal⟩ := fun_ok hv0 hv6 xs [] [0, 1] _ (sems_start (good_nil vars)) (by simp) (by simp; omega)
  have AG : Hid (∀ keep, (funF vars (swept (funF vars ([], [0, 1]) xs).1 (marksOf (funF vars ([], [0, 1]) xs).1 keep), [0, 1]) xs).2 = (funF vars ([], [0, 1]) xs).2) := fun keep => again_same hv0 hv6 xs (by omega) keep
  have hne : 0 < (funF vars ([], [0, 1]) xs).2.length := by rw [hal]; simp; omega
  have HG := Lib.hid hsem.good
  have HH := Lib.hid hsem.has
  have hi64 : ∀ x ∈ (funF vars ([], [0, 1]) xs).2, I64 x := fun x hx => has_i64 (hsem.has x hx) (by simp at hlen; omega)
  unfold SpaceOut at HSP
  obtain ⟨a0, c0, rfl, hx⟩ := hx
  have HX := Lib.hid hx
  clear hsem hx
  generalize funF vars ([], [0, 1]) xs = rr at *
  obtain ⟨ns0, al⟩ := rr
  simp only at HSP HG HH hlen hal hi64 hne AG
  have h27 : al.length ≤ 27 := by rw [hal]; simp; omega
  have hl0 : ns0.length ≤ 1575 := by simp at hlen; omega
  have HI64 := Lib.hid hi64
  have PK : Hid (∀ W, Calls Try.prog 8 #[.int .i64 i, .int .i64 (al.length : Int)] W fun e w' => e = .returned (.int .i64 (pickV i al.length : Int)) ∧ W = w') := fun W => pick_any i al.length hne (by omega) W
  have l1 := pickV_lt i hne
  have mF := at_mem hne i
  have eF : alAt al i = al[pickV i al.length] := by unfold alAt; simp [List.getD_eq_getElem?_getD, List.getElem?_eq_getElem l1]
  have HEF := Lib.hid eF
  clear hal hlen hi64 eF
  go_enter Try.func5, Try.ntmps5
  go_wp2_with fail
  refine HSP.out.mono ?_
  rintro e w1 ⟨s, b, O, a, c, rfl, hS, hrow, hap, hO, hb1⟩
  obtain ⟨ga, rfl, hIA, -⟩ := ints_of_row hrow hne HI64.out
  have hw1 := hb1.size
  have HT := Lib.hid (truth_any w1)
  have HS := Lib.hid hS
  have HIA := Lib.hid hIA
  have HO := Lib.hid hO
  have HB1 := Lib.hid hb1
  clear HSP hS hrow hap hO hb1 hIA
  go_wp2_with fail
  refine HT.out.mono ?_
  rintro e w2 ⟨rfl, hb2⟩
  have g1 : w2.cell? ⟨ga, pickV i al.length, none⟩ = some (.int .i64 (alAt al i)) := by
    rw [hb2.cell (p := ⟨ga, pickV i al.length, none⟩) HIA.out.lt, HIA.out.cells _ l1, HEF.out]
  have j1 : ((pickV i al.length : Nat) : Int) < (al.length : Int) := by omega
  have hS2 := HS.out.new hb2
  have hb02 := HB1.out.trans (hb2.mono hw1)
  have hf := HH.out _ mF
  have hfi := HI64.out _ mF
  have HS2 := Lib.hid hS2
  have HB2 := Lib.hid hb02
  have HF := Lib.hid hf
  have HFI := Lib.hid hfi
  have HMF := Lib.hid mF
  clear HT HS HB1 HIA hb2 hS2 hb02 hf hfi mF
  go_wp2_with fail
  refine (PK.out _).mono ?_
  rintro e wz ⟨rfl, rfl⟩
  have H1 := Lib.hid (holds_any HS2.out HG.out (by omega) (alAt al i) HF.out vals hvals)
  generalize alAt al i = fh at *
  go_wp2_with fail
  refine H1.out.mono ?_
  rintro e w3 ⟨rfl, hb3⟩
  have hS3 := HS2.out.new hb3
  have hb03 := HB2.out.trans (hb3.mono HB2.out.size)
  have H2 := Lib.hid (size_op hS3 HG.out.ranked (by omega) (by have := hb03.size; omega) fh HF.out)
  have HS3 := Lib.hid hS3
  have HB3 := Lib.hid hb03
  clear H1 HS2 HB2 hb3 hS3 hb03 g1
  go_wp2_with fail
  refine H2.out.mono ?_
  rintro e w4 ⟨rfl, hb4⟩
  have hS4 := HS3.out.new hb4
  have hb04 := HB3.out.trans (hb4.mono HB3.out.size)
  have c0s := hS4.c0
  have H3 := Lib.hid (spLen hS4)
  have hbn := below_new w4 (.cells #[.int .i64 fh] 3)
  have hb05 := hb04.trans (hbn.mono hb04.size)
  have hS5 := hS4.new hbn
  have hf4 := free_n (cp := 1) hS5 HG.out.ranked (by omega) (by have := hb05.size; omega) w4.heap.size [fh] (ints1 w4 fh HFI.out) (by simp)
  rw [show [fh].length = 1 from rfl] at hf4
  have H4 := Lib.hid hf4
  have kept := swept_kept HG.out (fs := [fh]) (h := fh) (by simp) HF.out
  have kw := kept.2 (bitsF vals)
  have kh := kept.1
  have HKW := Lib.hid kw
  have HKH := Lib.hid kh
  have gd := swept_good HG.out [fh]
  have sl : (swept ns0 (marksOf ns0 [fh])).length = ns0.length := swept_length _ _
  have ag := AG.out [fh]
  have t1 := taken_le ns0
  have t2 := taken_le (swept ns0 (marksOf ns0 [fh]))
  have HGD := Lib.hid gd
  have HAG := Lib.hid ag
  have HB5 := Lib.hid hb05
  rw [sl] at t2
  have HSL := Lib.hid sl
  clear H2 HS3 HB3 hb4 hb04 hS4 hbn hb05 hS5 hf4 kept kw kh gd sl ag AG
  generalize swept ns0 (marksOf ns0 [fh]) = ns1 at *
  generalize sem ns0 fh (bitsF vals) = was at *
  generalize (taken ns0).length = k0 at *
  have e1 : IntKind.i64.wrap ((k0 : Int) - ((taken ns1).length : Int)) = (k0 : Int) - ((taken ns1).length : Int) := IntWalk.i64_in _ ⟨by omega, by omega⟩
  go_wp2_with fail
  refine H3.out.mono ?_
  rintro e wz ⟨rfl, rfl⟩
  clear H3
  go_wp2_with fail
  refine H4.out.mono ?_
  rintro e w5 ⟨rfl, O1, hS6, hM⟩
  have hb06 := HB5.out.trans (hM.below HB5.out.size HO.out)
  have hO1 : ∀ k, O1 k → w.heap.size ≤ k := fun k hk => by
    rcases hM.own k hk with h | h
    · exact HO.out k h
    · have := HB5.out.size; omega
  have hh := holds_any hS6 HGD.out (by rw [HSL.out]; omega) fh HKH.out vals hvals
  rw [HKW.out] at hh
  have H5 := Lib.hid hh
  have HS6 := Lib.hid hS6
  have HB6 := Lib.hid hb06
  have HO1 := Lib.hid hO1
  clear H4 HB5 hM hh hS6 hb06 hO1 c0s
  go_wp2_with fail
  refine H5.out.mono ?_
  rintro e w6 ⟨rfl, hb6⟩
  have hS7 := HS6.out.new hb6
  have hb07 := HB6.out.trans (hb6.mono HB6.out.size)
  have c0s := hS7.c0
  have H6 := Lib.hid (spLen hS7)
  have hfun : Calls Try.prog 29 #[.pointer (some ⟨s, 0, none⟩), .slice a0 xs.length c0] w6 fun e w' => ∃ g c', e = .returned (.slice (some ⟨g, 0, none⟩) al.length c') ∧ w'.cell? ⟨g, pickV i al.length, none⟩ = some (.int .i64 fh) ∧ Below w.heap.size w w' := by
    refine (functions_any hS7 HGD.out hv0 hv6 rfl xs a0 c0 (fun i hi => by
      obtain ⟨ad, h1, h2⟩ := HX.out i hi
      exact ⟨ad, h1, h2.below hb07 h2.lt, fun ho => by have := HO1.out _ ho; have := h2.lt; omega⟩) hxl (by rw [HSL.out]; omega) hb07.size).mono ?_
    rintro e w' ⟨a2, c2, O2, rfl, hF⟩
    have hr := hF.row
    rw [HAG.out] at hr
    obtain ⟨g, rfl, hI, -⟩ := ints_of_row hr hne HI64.out
    exact ⟨g, c2, by rw [HAG.out], by rw [hI.cells _ l1, HEF.out], hb07.trans (hF.moves.below hb07.size HO1.out)⟩
  have H7 := Lib.hid hfun
  generalize (taken ns1).length = k1 at *
  have x1 : (was != was) = false := by simp
  have x2 : ((k0 : Int) - (k1 : Int) != (k0 : Int) - (k1 : Int)) = false := by simp
  have x3 : ((k1 : Int) != (k1 : Int)) = false := by simp
  clear H5 HS6 HB6 HO1 hb6 hS7 hb07 hfun HX HEF
  generalize pickV i al.length = pp at *
  go_wp2_with fail
  refine H6.out.mono ?_
  rintro e wz ⟨rfl, rfl⟩
  go_wp2_with fail
  refine H7.out.mono ?_
  rintro e w7 ⟨g, c', rfl, hg, hbz⟩
  go_wp2_with fail
  refine (PK.out _).mono ?_
  rintro e wz ⟨rfl, rfl⟩
  go_wp2
  go_ret
  exact ⟨by simp, hbz⟩

set_option maxRecDepth 100000 in
set_option maxHeartbeats 2000000 in
theorem frees_no (vars : Int) (xs : List Quad) (va : Value) (i k : Int) (w : World) (hx : ArgQuads w va xs) (hn : xs.length ≤ 9223372036854775807) (h : vars < 1 ∨ 6 < vars ∨ 25 < xs.length) :
    Calls Try.prog 5 #[.int .i64 vars, va, .int .i64 i, .int .u64 k] w fun e w' => e = .returned (.bool true) ∧ Below w.heap.size w w' := by
  obtain ⟨a, c, rfl, -⟩ := hx
  have HS := Lib.hid (space_no vars a xs.length c h hn w)
  clear h
  go_enter Try.func5, Try.ntmps5
  go_wp2_with fail
  refine HS.out.mono ?_
  rintro e w1 ⟨rfl, rfl⟩
  go_wp2
  go_ret
  exact ⟨rfl, Below.refl _ _⟩

theorem frees_any (vars : Int) (xs : List Quad) (va : Value) (i k : Int) (hk : (Lit.int .u64 k).wf = true) (w : World) (hx : ArgQuads w va xs) (hn : xs.length ≤ 9223372036854775807) :
    Calls Try.prog 5 #[.int .i64 vars, va, .int .i64 i, .int .u64 k] w fun e w' => e = .returned (.bool true) ∧ Below w.heap.size w w' := by
  by_cases h : vars < 1 ∨ 6 < vars ∨ 25 < xs.length
  · exact frees_no vars xs va i k w hx hn h
  · have hk' : 0 ≤ k ∧ k < 18446744073709551616 := by
      simp [Lit.wf, IntKind.min, IntKind.max, IntKind.signed, IntKind.bits] at hk
      exact ⟨by omega, by omega⟩
    obtain ⟨n, rfl⟩ : ∃ n : Nat, vars = (n : Int) := ⟨vars.toNat, by omega⟩
    obtain ⟨m, rfl⟩ : ∃ m : Nat, k = (m : Int) := ⟨k.toNat, by omega⟩
    exact frees_walk n (by omega) (by omega) xs va i m (by omega) w hx (by omega)

theorem own : ownKnob Try.prog.godebug = none := by kernel_rfl

set_option maxRecDepth 100000 in
theorem frees_lifted (os : Os) (started : os.Started) (H : Type) (enc : TypeId × Value → H) :
    ReturnsInHanded {} Try.checked os 5 .any (Rows.bddFreesSpec.pre6 enc Try.prog Try.f5 Rows.bddFreesRow.domain false) (Rows.bddFreesSpec.post enc Try.prog Try.f5 false true false false) := by
  refine returnsInHanded_of_change_sized (C := Try.checked) own started (by kernel_rfl) Try.func5
    (ChangeSpec.witness6 (enc := enc) (C := Try.checked) false ⟨#[], #[.int .i64 0, .slice none 0 0, .int .i64 0, .int .u64 0], []⟩ 8 (by kernel_rfl) (by kernel_rfl) (by kernel_rfl) (by kernel_rfl)) ?_
  intro W base args ds gs before hval0 hW _ _ _
  have hval : ∀ (j : Nat) t v, Try.f5.params[j]? = some t → args[j]? = some v → Value.okWide Try.prog W .any base t v := hval0
  have hW' := hW
  obtain ⟨p, q, hA0, hV, rfl, _, _⟩ := hW
  have hA : DataW.TrodAll enc Try.prog W 0 (fun _ => true) true Try.f5.params.toList args.toList ds p := hA0
  rw [Try.params5] at hA hval
  obtain ⟨v0, vs0, d0, ds0, p0, q0, hargs, rfl, rfl, h0, r0⟩ := trodAll_cons hA
  obtain ⟨v1, vs1, d1, ds1, p1, q1, rfl, rfl, rfl, h1, r1⟩ := trodAll_cons r0
  obtain ⟨v2, vs2, d2, ds2, p2, q2, rfl, rfl, rfl, h2, r2⟩ := trodAll_cons r1
  obtain ⟨v3, vs3, d3, ds3, p3, q3, rfl, rfl, rfl, h3, r3⟩ := trodAll_cons r2
  obtain ⟨rfl, rfl, rfl⟩ := trodAll_nil r3
  obtain rfl : args = #[v0, v1, v2, v3] := by cases args; simp_all
  obtain ⟨rfl, rfl⟩ := trodVars_none hV
  obtain ⟨n0, rfl, rfl, rfl, wn0⟩ := open_int Try.underlying3 (hval 0 3 v0 rfl rfl) h0
  obtain ⟨a1, l1, c1, rfl⟩ := okWide_slice Try.underlying22 (hval 1 22 v1 rfl rfl)
  obtain ⟨n2, rfl, rfl, rfl, wn2⟩ := open_int Try.underlying3 (hval 2 3 v2 rfl rfl) h2
  obtain ⟨n3, rfl, rfl, rfl, wn3⟩ := open_int Try.underlying49 (hval 3 49 v3 rfl rfl) h3
  clear hA0 hval0
  have hlt : ∀ x ∈ [] ++ (p1 ++ ([] ++ ([] ++ []))) ++ [], x.block < W.heap.size := fun x hx => by simpa using hW'.lt x hx
  obtain ⟨xs, g1, b1⟩ := argQuads h1
  refine (frees_any n0 xs _ n2 n3 wn3 W g1 b1).mono fun e W' ⟨he, hg⟩ => ?_
  subst he
  have t1 := Below.trod laidOut (by kernel_rfl) (of_decide_eq_true (by kernel_rfl)) h1 hg (fun x hx => hlt x (by simp [hx]))
  exact ⟨_, rfl, _, _, _, [], _, [], hW', trodAll_mk1 (shut_bool Try.underlying4 _), trodAll_cons_mk (shut_int Try.underlying3 wn0) (trodAll_cons_mk t1 (trodAll_cons_mk (shut_int Try.underlying3 wn2) (trodAll_cons_mk (shut_int Try.underlying49 wn3) trodAll_mk0))), rfl, hg.frame _, fun h => by cases h⟩

theorem bddFrees_holds : Rows.BddFreesSaid :=
  OpenClaim.holds_of_wide 5 Try.f5 rfl rfl rfl rfl rfl rfl rfl ⟨rfl, rfl, rfl, rfl, rfl⟩ rfl rfl rfl rfl rfl (by kernel_rfl) Try.func5 (by kernel_rfl)
    (of_decide_eq_true (by kernel_rfl)) (by unfold Func.isWrapper; first | (rw [if_pos (by decide +kernel)]; kernel_rfl) | (rw [if_neg (by decide +kernel)]; exact ⟨rfl, rfl⟩))
    (fun os started H enc _ => frees_lifted os started H enc)
end Go.Proofs.Ytdnojfkncpkkmab
