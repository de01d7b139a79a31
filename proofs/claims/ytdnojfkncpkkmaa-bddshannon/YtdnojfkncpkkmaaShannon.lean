/- For every number of variables, every list of steps and every variable: what the last step made is what it is where the variable is true, there, and what it is where it is false, else; for some value of it, and for each, it is one or the other, and both: all by handles. No condition. -/
import Derived.Test.YtdnojfkncpkkmaaBdSt
import Derived.ProofKit
import Derived.SizedLaws
import Derived.OpenShut
namespace Go.Proofs.Ytdnojfkncpkkmaa
open Go.ChangeShapes Go.WideShapes Go.ChangeAt Go.RowKit Go.Maps

theorem last_is {vars : Nat} {ns : List Nd} {al : List Int} {T : List Fn'} (h : Sems vars ns al T) (hne : 0 < al.length) : ∃ g, Is ns (al.getD (al.length - 1) 0) g := by
  have hl : al.length - 1 < al.length := by omega
  have e : al.getD (al.length - 1) 0 = al[al.length - 1] := by simp [List.getD_eq_getElem?_getD, List.getElem?_eq_getElem hl]
  rw [e]
  exact ⟨_, h.has _ (List.getElem_mem hl), fun f => h.sem _ hl (by rw [← h.len]; exact hl) f⟩

theorem turn_self (f : Nat → Bool) (v : Nat) (b : Bool) (h : f v = b) : turn f v b = f := by
  funext i; unfold turn; split
  · next e => rw [e, h]
  · rfl

set_option maxRecDepth 100000 in
set_option maxHeartbeats 4000000 in
theorem shannon_walk (vars : Nat) (hv0 : 0 < vars) (hv6 : vars ≤ 6) (xs : List Quad) (va : Value) (v : Int) (w : World) (hx : ArgQuads w va xs) (hxl : xs.length ≤ 25) :
    Calls Try.prog 5 #[.int .i64 (vars : Int), va, .int .i64 v] w fun e w' => e = .returned (.bool true) ∧ Below w.heap.size w w' := by
  have p6 : 2 ^ vars ≤ 64 := Nat.pow_le_pow_right (n := 2) (by omega) hv6
  have HSP := Lib.hid (space_yes vars hv0 hv6 xs va w hx hxl)
  obtain ⟨hsem, hlen, hal⟩ := fun_ok hv0 hv6 xs [] [0, 1] _ (sems_start (good_nil vars)) (by simp) (by simp; omega)
  obtain ⟨g, hI⟩ := last_is hsem (by rw [hal]; simp; omega)
  have HG := Lib.hid hsem.good
  have hi64 : ∀ x ∈ (funF vars ([], [0, 1]) xs).2, I64 x := fun x hx => has_i64 (hsem.has x hx) (by simp at hlen; omega)
  unfold SpaceOut at HSP
  obtain ⟨a0, c0, rfl, -⟩ := hx
  clear hsem
  generalize funF vars ([], [0, 1]) xs = r at *
  obtain ⟨ns0, al⟩ := r
  simp only at HSP HG hlen hal hI hi64
  have h2 : 2 ≤ al.length := by rw [hal]; simp
  have h27 : al.length ≤ 27 := by rw [hal]; simp; omega
  have hl0 : ns0.length ≤ 1575 := by simp at hlen; omega
  have HI64 := Lib.hid hi64
  have PK := Lib.hid (fun W => pick_any v vars hv0 (by omega) W)
  have hpv := pickV_lt v hv0
  generalize pickV v vars = u at *
  clear hal hlen hi64
  go_enter Try.func5, Try.ntmps5
  go_wp2_with fail
  refine HSP.out.mono ?_
  rintro e w1 ⟨s, b, O, a, c, rfl, hS, hrow, hap, hO, hb1⟩
  have HT := Lib.hid (truth_any w1)
  obtain ⟨ga, rfl, hIA, -⟩ := ints_of_row hrow (by omega) HI64.out
  have hw1 := hb1.size
  have SP : Hid (∀ W, Below w1.heap.size w1 W → SpaceAt w.heap.size W s b O vars 4000 ns0) := fun W hW => hS.new hW
  have CL : Hid (∀ W, Below w1.heap.size w1 W → W.cell? ⟨ga, al.length - 1, none⟩ = some (.int .i64 (al.getD (al.length - 1) 0))) := fun W hW => by
    have hl : al.length - 1 < al.length := by omega
    have e : al.getD (al.length - 1) 0 = al[al.length - 1] := by simp [List.getD_eq_getElem?_getD, List.getElem?_eq_getElem hl]
    rw [e]
    exact (hW.cell (p := ⟨ga, al.length - 1, none⟩) hIA.lt).trans (hIA.cells _ hl)
  have HO := Lib.hid hO
  have HB1 := Lib.hid hb1
  clear HSP hS hrow hap hO hb1 hIA
  generalize al.getD (al.length - 1) 0 = fh at *
  go_wp2_with fail
  refine HT.out.mono ?_
  rintro e w2 ⟨rfl, hb2⟩
  have hS2 := SP.out w2 hb2
  have cl := CL.out w2 hb2
  have hb02 := HB1.out.trans (hb2.mono hw1)
  have HB2 := Lib.hid hb02
  have hw2 := hb02.size
  have HS2 := Lib.hid hS2
  clear HT SP CL hb2 HB1 hb02 hS2
  have il : (al.length : Int) - 1 = ((al.length - 1 : Nat) : Int) := by omega
  have il2 : ((al.length - 1 : Nat) : Int) < (al.length : Int) := by omega
  go_wp2_with fail
  refine (PK.out _).mono ?_
  rintro e wz ⟨rfl, rfl⟩
  clear PK
  have hst0 : SpSt w w2 s b O vars ns0 1575 := ⟨HS2.out, HG.out, HB2.out, HO.out, hl0⟩
  have ut : ((u : Int)).toNat = u := by omega
  have HE := Lib.hid hI
  have iF := HE.out
  clear hI HE HS2 HG HB2 HO
  have H1 := Lib.hid (hst0.op hv6 (lit_is hst0.space hst0.good (hst0.room hv6 (by omega)) (v := (u : Int)) true (by omega) (by omega)))
  have GR1 := Lib.hid hst0.good.ranked
  have HiF := Lib.hid iF
  clear iF hst0
  go_wp2_with fail
  refine H1.out.mono ?_
  rintro e w3 ⟨x, ns1, O1, rfl, st1, x1, iX⟩
  simp only [ut] at iX
  have iF := HiF.out.ext GR1.out x1
  clear H1 GR1 x1 HiF
  have H2 := Lib.hid (st1.op hv6 (set_is st1.space st1.good (st1.room hv6 (by omega)) iF true (v := (u : Int)) (by omega) (by omega)))
  have GR2 := Lib.hid st1.good.ranked
  have HiF := Lib.hid iF
  have HiX := Lib.hid iX
  clear iF iX st1
  go_wp2_with fail
  refine H2.out.mono ?_
  rintro e w4 ⟨a, ns2, O2, rfl, st2, x2, iA⟩
  simp only [ut] at iA
  have iF := HiF.out.ext GR2.out x2
  have iX := HiX.out.ext GR2.out x2
  clear H2 GR2 x2 HiF HiX
  have H3 := Lib.hid (st2.op hv6 (set_is st2.space st2.good (st2.room hv6 (by omega)) iF false (v := (u : Int)) (by omega) (by omega)))
  have GR3 := Lib.hid st2.good.ranked
  have HiF := Lib.hid iF
  have HiX := Lib.hid iX
  have HiA := Lib.hid iA
  clear iF iX iA st2
  go_wp2_with fail
  refine H3.out.mono ?_
  rintro e w5 ⟨bb, ns3, O3, rfl, st3, x3, iB⟩
  simp only [ut] at iB
  have iF := HiF.out.ext GR3.out x3
  have iX := HiX.out.ext GR3.out x3
  have iA := HiA.out.ext GR3.out x3
  clear H3 GR3 x3 HiF HiX HiA
  have H4 := Lib.hid (st3.op hv6 (ite_is st3.space st3.good (st3.room hv6 (by omega)) iX iA iB))
  have GR4 := Lib.hid st3.good.ranked
  have HiF := Lib.hid iF
  have HiX := Lib.hid iX
  have HiA := Lib.hid iA
  have HiB := Lib.hid iB
  clear iF iX iA iB st3
  go_wp2_with fail
  refine H4.out.mono ?_
  rintro e w6 ⟨gg, ns4, O4, rfl, st4, x4, iG⟩
  have iF := HiF.out.ext GR4.out x4
  have iX := HiX.out.ext GR4.out x4
  have iA := HiA.out.ext GR4.out x4
  have iB := HiB.out.ext GR4.out x4
  clear H4 GR4 x4 HiF HiX HiA HiB
  have eg : gg = fh := iG.same st4.good iF (fun f => by
    cases hb : f u with
    | true => have e := turn_self f u true hb; simp [e]
    | false => have e := turn_self f u false hb; simp [e])
  have EG := Lib.hid eg
  clear eg
  have H5 := Lib.hid (st4.op hv6 (some_is st4.space st4.good (st4.room hv6 (by omega)) iF (v := (u : Int)) (by omega) (by omega)))
  have GR5 := Lib.hid st4.good.ranked
  have HiF := Lib.hid iF
  have HiX := Lib.hid iX
  have HiA := Lib.hid iA
  have HiB := Lib.hid iB
  have HiG := Lib.hid iG
  clear iF iX iA iB iG st4
  go_wp2_with fail
  refine H5.out.mono ?_
  rintro e w7 ⟨so, ns5, O5, rfl, st5, x5, iS⟩
  simp only [ut] at iS
  have iF := HiF.out.ext GR5.out x5
  have iX := HiX.out.ext GR5.out x5
  have iA := HiA.out.ext GR5.out x5
  have iB := HiB.out.ext GR5.out x5
  have iG := HiG.out.ext GR5.out x5
  clear H5 GR5 x5 HiF HiX HiA HiB HiG
  have H6 := Lib.hid (st5.op hv6 (or_is st5.space st5.good (st5.room hv6 (by omega)) iA iB))
  have GR6 := Lib.hid st5.good.ranked
  have HiF := Lib.hid iF
  have HiX := Lib.hid iX
  have HiA := Lib.hid iA
  have HiB := Lib.hid iB
  have HiG := Lib.hid iG
  have HiS := Lib.hid iS
  clear iF iX iA iB iG iS st5
  go_wp2_with fail
  refine H6.out.mono ?_
  rintro e w8 ⟨oo, ns6, O6, rfl, st6, x6, iO⟩
  have iF := HiF.out.ext GR6.out x6
  have iX := HiX.out.ext GR6.out x6
  have iA := HiA.out.ext GR6.out x6
  have iB := HiB.out.ext GR6.out x6
  have iG := HiG.out.ext GR6.out x6
  have iS := HiS.out.ext GR6.out x6
  clear H6 GR6 x6 HiF HiX HiA HiB HiG HiS
  have eo : so = oo := iS.same st6.good iO (fun f => Bool.or_comm _ _)
  subst eo
  have egg : (gg != fh) = false := by rw [EG.out]; simp
  have eoo : (so != so) = false := by simp
  have H7 := Lib.hid (st6.op hv6 (each_is st6.space st6.good (st6.room hv6 (by omega)) iF (v := (u : Int)) (by omega) (by omega)))
  have GR7 := Lib.hid st6.good.ranked
  have HiF := Lib.hid iF
  have HiX := Lib.hid iX
  have HiA := Lib.hid iA
  have HiB := Lib.hid iB
  have HiG := Lib.hid iG
  have HiS := Lib.hid iS
  have HiO := Lib.hid iO
  clear iF iX iA iB iG iS iO st6
  go_wp2_with fail
  refine H7.out.mono ?_
  rintro e w9 ⟨ea, ns7, O7, rfl, st7, x7, iE⟩
  simp only [ut] at iE
  have iF := HiF.out.ext GR7.out x7
  have iX := HiX.out.ext GR7.out x7
  have iA := HiA.out.ext GR7.out x7
  have iB := HiB.out.ext GR7.out x7
  have iG := HiG.out.ext GR7.out x7
  have iS := HiS.out.ext GR7.out x7
  have iO := HiO.out.ext GR7.out x7
  clear H7 GR7 x7 HiF HiX HiA HiB HiG HiS HiO
  have H8 := Lib.hid (st7.op hv6 (and_is st7.space st7.good (st7.room hv6 (by omega)) iA iB))
  have GR8 := Lib.hid st7.good.ranked
  have HiF := Lib.hid iF
  have HiX := Lib.hid iX
  have HiA := Lib.hid iA
  have HiB := Lib.hid iB
  have HiG := Lib.hid iG
  have HiS := Lib.hid iS
  have HiO := Lib.hid iO
  have HiE := Lib.hid iE
  clear iF iX iA iB iG iS iO iE st7
  go_wp2_with fail
  refine H8.out.mono ?_
  rintro e w10 ⟨an, ns8, O8, rfl, st8, x8, iN⟩
  have iF := HiF.out.ext GR8.out x8
  have iX := HiX.out.ext GR8.out x8
  have iA := HiA.out.ext GR8.out x8
  have iB := HiB.out.ext GR8.out x8
  have iG := HiG.out.ext GR8.out x8
  have iS := HiS.out.ext GR8.out x8
  have iO := HiO.out.ext GR8.out x8
  have iE := HiE.out.ext GR8.out x8
  clear H8 GR8 x8 HiF HiX HiA HiB HiG HiS HiO HiE
  have ee : ea = an := iE.same st8.good iN (fun f => Bool.and_comm _ _)
  subst ee
  have eee : (ea == ea) = true := by simp
  have HB8 := Lib.hid st8.below
  clear st8 iF iX iA iB iG iS iO iE iN
  go_wp2
  go_ret
  exact ⟨rfl, HB8.out⟩

set_option maxRecDepth 100000 in
set_option maxHeartbeats 2000000 in
theorem shannon_no (vars : Int) (xs : List Quad) (va : Value) (v : Int) (w : World) (hx : ArgQuads w va xs) (hn : xs.length ≤ 9223372036854775807) (h : vars < 1 ∨ 6 < vars ∨ 25 < xs.length) :
    Calls Try.prog 5 #[.int .i64 vars, va, .int .i64 v] w fun e w' => e = .returned (.bool true) ∧ Below w.heap.size w w' := by
  obtain ⟨a, c, rfl, -⟩ := hx
  have HS := Lib.hid (space_no vars a xs.length c h hn w)
  clear h
  go_enter Try.func5, Try.ntmps5
  go_wp2_with fail
  refine HS.out.mono ?_
  rintro e w1 ⟨rfl, rfl⟩
  go_wp2
  go_ret
  exact ⟨rfl, Below.refl _ _⟩

theorem shannon_any (vars : Int) (xs : List Quad) (va : Value) (v : Int) (w : World) (hx : ArgQuads w va xs) (hn : xs.length ≤ 9223372036854775807) :
    Calls Try.prog 5 #[.int .i64 vars, va, .int .i64 v] w fun e w' => e = .returned (.bool true) ∧ Below w.heap.size w w' := by
  by_cases h : vars < 1 ∨ 6 < vars ∨ 25 < xs.length
  · exact shannon_no vars xs va v w hx hn h
  · obtain ⟨n, rfl⟩ : ∃ n : Nat, vars = (n : Int) := ⟨vars.toNat, by omega⟩
    exact shannon_walk n (by omega) (by omega) xs va v w hx (by omega)

theorem own : ownKnob Try.prog.godebug = none := by kernel_rfl

set_option maxRecDepth 100000 in
theorem shannon_lifted (os : Os) (started : os.Started) (H : Type) (enc : TypeId × Value → H) :
    ReturnsInHanded {} Try.checked os 5 .any (Rows.bddShannonSpec.pre6 enc Try.prog Try.f5 Rows.bddShannonRow.domain false) (Rows.bddShannonSpec.post enc Try.prog Try.f5 false true false false) := by
  refine returnsInHanded_of_change_sized (C := Try.checked) own started (by kernel_rfl) Try.func5
    (ChangeSpec.witness6 (enc := enc) (C := Try.checked) false ⟨#[], #[.int .i64 0, .slice none 0 0, .int .i64 0], []⟩ 8 (by kernel_rfl) (by kernel_rfl) (by kernel_rfl) (by kernel_rfl)) ?_
  intro W base args ds gs before hval0 hW _ _ _
  have hval : ∀ (j : Nat) t v, Try.f5.params[j]? = some t → args[j]? = some v → Value.okWide Try.prog W .any base t v := hval0
  have hW' := hW
  obtain ⟨p, q, hA0, hV, rfl, _, _⟩ := hW
  have hA : DataW.TrodAll enc Try.prog W 0 (fun _ => true) true Try.f5.params.toList args.toList ds p := hA0
  rw [Try.params5] at hA hval
  obtain ⟨v0, vs0, d0, ds0, p0, q0, hargs, rfl, rfl, h0, r0⟩ := trodAll_cons hA
  obtain ⟨v1, vs1, d1, ds1, p1, q1, rfl, rfl, rfl, h1, r1⟩ := trodAll_cons r0
  obtain ⟨v2, vs2, d2, ds2, p2, q2, rfl, rfl, rfl, h2, r2⟩ := trodAll_cons r1
  obtain ⟨rfl, rfl, rfl⟩ := trodAll_nil r2
  obtain rfl : args = #[v0, v1, v2] := by cases args; simp_all
  obtain ⟨rfl, rfl⟩ := trodVars_none hV
  obtain ⟨n0, rfl, rfl, rfl, wn0⟩ := open_int Try.underlying3 (hval 0 3 v0 rfl rfl) h0
  obtain ⟨a1, l1, c1, rfl⟩ := okWide_slice Try.underlying22 (hval 1 22 v1 rfl rfl)
  obtain ⟨n2, rfl, rfl, rfl, wn2⟩ := open_int Try.underlying3 (hval 2 3 v2 rfl rfl) h2
  clear hA0 hval0
  have hlt : ∀ x ∈ [] ++ (p1 ++ ([] ++ [])) ++ [], x.block < W.heap.size := fun x hx => by simpa using hW'.lt x hx
  obtain ⟨xs, g1, b1⟩ := argQuads h1
  refine (shannon_any n0 xs _ n2 W g1 b1).mono fun e W' ⟨he, hg⟩ => ?_
  subst he
  have t1 := Below.trod laidOut (by kernel_rfl) (of_decide_eq_true (by kernel_rfl)) h1 hg (fun x hx => hlt x (by simp [hx]))
  exact ⟨_, rfl, _, _, _, [], _, [], hW', trodAll_mk1 (shut_bool Try.underlying4 _), trodAll_cons_mk (shut_int Try.underlying3 wn0) (trodAll_cons_mk t1 (trodAll_cons_mk (shut_int Try.underlying3 wn2) trodAll_mk0)), rfl, hg.frame _, fun h => by cases h⟩

theorem bddShannon_holds : Rows.BddShannonSaid :=
  OpenClaim.holds_of_wide 5 Try.f5 rfl rfl rfl rfl rfl rfl rfl ⟨rfl, rfl, rfl, rfl, rfl⟩ rfl rfl rfl rfl rfl (by kernel_rfl) Try.func5 (by kernel_rfl)
    (of_decide_eq_true (by kernel_rfl)) (by unfold Func.isWrapper; first | (rw [if_pos (by decide +kernel)]; kernel_rfl) | (rw [if_neg (by decide +kernel)]; exact ⟨rfl, rfl⟩))
    (fun os started H enc _ => shannon_lifted os started H enc)
end Go.Proofs.Ytdnojfkncpkkmaa
