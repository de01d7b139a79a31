/- For every number of things and every list of steps: what hits all that hit the last step's family, least, is that family's least sets, by handles. No condition. -/
import Derived.Test.YtbklgjmkdhinpaaRows
import Derived.Test.YtbklgjmkdhinpaaChecked
import Derived.Test.YtbklgjmkdhinpaaFmBerge
import Derived.ProofKit
import Derived.SizedLaws
import Derived.OpenShut
set_option maxHeartbeats 4000000
set_option maxRecDepth 100000
namespace Go.Proofs.Ytbklgjmkdhinpaa.Fm
open Go.ChangeShapes Go.WideShapes Go.ChangeAt Go.RowKit Go.Maps Go.Proofs.Ytbklgjmkdhinpaa.Bd
theorem last_at {vars : Nat} {ns : List Nd} {al : List Int} {T : List Fam} (h : Sems vars ns al T) (hne : 0 < al.length) : hasB ns (al.getD (al.length - 1) 0) = true := by
 have hl : al.length - 1 < al.length := by omega
 have e : al.getD (al.length - 1) 0 = al[al.length - 1] := by simp [List.getD_eq_getElem?_getD, List.getElem?_eq_getElem hl]
 rw [e]
 exact h.has _ (List.getElem_mem hl)
theorem twice_walk (vars : Nat) (hv6 : vars <= 6) (xs : List Quad) (va : Value) (w : World) (hx : ArgQuads w va xs) (hxl : xs.length <= 20) :
  Calls Try.prog 7 #[.int .i64 (vars : Int), va] w fun e w' => e = .returned (.bool true) /\ Below w.heap.size w w' := by
 have HSP := Lib.hid (store_yes vars hv6 xs va w hx hxl)
 unfold StoreOut at HSP
 obtain ⟨a0, c0, rfl, -⟩ := hx
 have i3 : (vars : Int) <= 6 := by omega
 go_enter Try.func7, Try.ntmps7
 go_wp2_with fail
 refine HSP.out.mono ?_
 rintro e w1 ⟨s, b, O, ns, al, a, c, rfl, hF, hsem, hrow, hap, hO, hb1, hcnt⟩
 have hal : al.length = 2 + xs.length := by
  have := hsem.len
  rw [famT_len] at this
  simpa using this
 have h2 : 2 <= al.length := by omega
 have h27 : al.length <= 22 := by omega
 have hlen := hF.len
 obtain ⟨ga, rfl, hIA, -⟩ := ints_of_row hrow (by omega) (fun x hx => has_i64 (hsem.has x hx) (by omega))
 have hf := last_at hsem (by omega)
 have HT := Lib.hid (ksets_any w1)
 have hw1 := hb1.size
 have SP : Hid (∀ W, Below w1.heap.size w1 W -> FamAt w.heap.size W s b O vars 4000 ns) := fun W hW => hF.new hW
 have CL : Hid (∀ W, Below w1.heap.size w1 W -> W.cell? ⟨ga, al.length - 1, none⟩ = some (.int .i64 (al.getD (al.length - 1) 0))) := fun W hW => by
  have hl : al.length - 1 < al.length := by omega
  have e : al.getD (al.length - 1) 0 = al[al.length - 1] := by simp [List.getD_eq_getElem?_getD, List.getElem?_eq_getElem hl]
  rw [e]
  exact (hW.cell (p := ⟨ga, al.length - 1, none⟩) hIA.lt).trans (hIA.cells _ hl)
 have HO := Lib.hid hO
 have HB1 := Lib.hid hb1
 have HG := Lib.hid hF.good
 clear HSP hF hsem hrow hap hO hb1 hIA hal
 generalize al.getD (al.length - 1) 0 = fh at *
 go_wp2_with fail
 refine HT.out.mono ?_
 rintro e w2 ⟨rfl, hb2⟩
 have hF2 := SP.out w2 hb2
 have cl := CL.out w2 hb2
 have HB2 := Lib.hid (HB1.out.trans (hb2.mono hw1))
 have il : (al.length : Int) - 1 = ((al.length - 1 : Nat) : Int) := by omega
 have il2 : ((al.length - 1 : Nat) : Int) < (al.length : Int) := by omega
 have hch := cost_rr hv6 .hits
 have hcl := cost_rr hv6 .least
 have p6 : 2 ^ vars <= 64 := Nat.pow_le_pow_right (n := 2) (by omega) hv6
 have n1 : nsN ns fh <= 65536 := by have := nsN_vars hF2.good hF2.v24 hf; omega
 have H1 := Lib.hid (hits_any hF2 hf n1 (by omega))
 have HF0 := Lib.hid hf
 clear HT SP CL hb2 HB1 hF2 hf n1
 go_wp2_with fail
 refine H1.out.mono ?_
 rintro e w3 ⟨x1, ns1, O1, rfl, hF1, mv1, e1, h1, m1, k1⟩
 have n2 : nsN ns1 x1 <= 65536 := by have := nsN_vars hF1.good hF1.v24 h1; omega
 have H2 := Lib.hid (hits_any hF1 h1 n2 (by omega))
 have G1 := Lib.hid hF1.good
 have E1 := Lib.hid e1
 have M1 := Lib.hid m1
 have V1 := Lib.hid mv1
 clear H1 hF1 mv1 e1 h1 m1 n2
 go_wp2_with fail
 refine H2.out.mono ?_
 rintro e w4 ⟨x2, ns2, O2, rfl, hF2, mv2, e2, h2', m2, k2⟩
 have hf2 := e2.has _ (E1.out.has _ HF0.out)
 have H3 := Lib.hid (least_any hF2 hf2 (by omega))
 have G2 := Lib.hid hF2.good
 have E2 := Lib.hid e2
 have M2 := Lib.hid m2
 have V2 := Lib.hid (V1.out.trans mv2)
 have X2 := Lib.hid h2'
 clear H2 hF2 mv2 e2 h2' m2 hf2 V1
 go_wp2_with fail
 refine H3.out.mono ?_
 rintro e w5 ⟨x3, ns3, O3, rfl, hF3, mv3, e3, h3, m3, k3⟩
 have HB5 : Hid (Below w.heap.size w w5) := HB2.out.trans ((V2.out.trans mv3).below HB2.out.size HO.out)
 have hsame : x2 = x3 := by
  refine same_handle hF3.good (e3.has _ X2.out) h3 (fun y => ?_)
  rw [in_ext G2.out.ranked e3 X2.out, M2.out, m3]
  have c1 : ∀ y, In ns1 x1 y ↔ opP .hits (In ns fh) (In ns 0) y := M1.out
  rw [opP_congr .hits c1 (fun y => show In ns1 0 y ↔ In ns 0 y from ⟨fun h => absurd h (in_zero y), fun h => absurd h (in_zero y)⟩)]
  rw [berge (vars := vars) (H := In ns2 0) (fun z hz i hi => in_lt HG.out hz hi)]
  exact opP_congr .least (fun y => ((in_ext G1.out.ranked E2.out (E1.out.has _ HF0.out) y).trans (in_ext HG.out.ranked E1.out HF0.out y)).symm) (fun y => Iff.rfl) y
 subst hsame
 clear H3 hF3 mv3 e3 h3 m3 HG G1 G2 E1 E2 M1 M2 V2 X2 HO HB2 HF0
 go_wp2
 go_ret
 exact ⟨rfl, HB5.out⟩
theorem twice_no (things : Int) (xs : List Quad) (va : Value) (w : World) (hx : ArgQuads w va xs) (hn : xs.length <= 9223372036854775807) (h : things < 0 \/ 6 < things \/ 20 < xs.length) :
  Calls Try.prog 7 #[.int .i64 things, va] w fun e w' => e = .returned (.bool true) /\ Below w.heap.size w w' := by
 obtain ⟨a, c, rfl, -⟩ := hx
 have HS := Lib.hid (store_no things a xs.length c h hn w)
 clear h
 go_enter Try.func7, Try.ntmps7
 go_wp2_with fail
 refine HS.out.mono ?_
 rintro e w1 ⟨rfl, rfl⟩
 go_wp2
 go_ret
 exact ⟨rfl, Below.refl _ _⟩
theorem twice_any (things : Int) (xs : List Quad) (va : Value) (w : World) (hx : ArgQuads w va xs) (hn : xs.length <= 9223372036854775807) :
  Calls Try.prog 7 #[.int .i64 things, va] w fun e w' => e = .returned (.bool true) /\ Below w.heap.size w w' := by
 by_cases h : things < 0 \/ 6 < things \/ 20 < xs.length
 ·exact twice_no things xs va w hx hn h
 ·obtain ⟨n, rfl⟩ : ∃ n : Nat, things = (n : Int) := ⟨things.toNat, by omega⟩
  exact twice_walk n (by omega) xs va w hx (by omega)
end Go.Proofs.Ytbklgjmkdhinpaa.Fm
namespace Go.Proofs.Ytbklgjmkdhinpaa
open Go.ChangeShapes Go.WideShapes Go.ChangeAt Go.RowKit Go.Maps Go.Proofs.Ytbklgjmkdhinpaa.Bd Go.Proofs.Ytbklgjmkdhinpaa.Fm
theorem own : ownKnob Try.prog.godebug = none := by kernel_rfl
theorem twice_lifted (os : Os) (started : os.Started) (H : Type) (enc : TypeId × Value -> H) :
  ReturnsInHanded {} Try.checked os 7 .any (Rows.familyTwiceSpec.pre6 enc Try.prog Try.f7 Rows.familyTwiceRow.domain false) (Rows.familyTwiceSpec.post enc Try.prog Try.f7 false true false false) := by
 refine returnsInHanded_of_change_sized (C := Try.checked) own started (by kernel_rfl) Try.func7
  (ChangeSpec.witness6 (enc := enc) (C := Try.checked) false ⟨#[], #[.int .i64 0, .slice none 0 0], []⟩ 8 (by kernel_rfl) (by kernel_rfl) (by kernel_rfl) (by kernel_rfl)) ?_
 intro W base args ds gs before hval0 hW _ _ _
 have hval : ∀ (j : Nat) t v, Try.f7.params[j]? = some t -> args[j]? = some v -> Value.okWide Try.prog W .any base t v := hval0
 have hW' := hW
 obtain ⟨p, q, hA0, hV, rfl, _, _⟩ := hW
 have hA : DataW.TrodAll enc Try.prog W 0 (fun _ => true) true Try.f7.params.toList args.toList ds p := hA0
 rw [Try.params7] at hA hval
 obtain ⟨v0, vs0, d0, ds0, p0, q0, hargs, rfl, rfl, h0, r0⟩ := trodAll_cons hA
 obtain ⟨v1, vs1, d1, ds1, p1, q1, rfl, rfl, rfl, h1, r1⟩ := trodAll_cons r0
 obtain ⟨rfl, rfl, rfl⟩ := trodAll_nil r1
 obtain rfl : args = #[v0, v1] := by cases args; simp_all
 obtain ⟨rfl, rfl⟩ := trodVars_none hV
 obtain ⟨n0, rfl, rfl, rfl, wn0⟩ := open_int Try.underlying3 (hval 0 3 v0 rfl rfl) h0
 obtain ⟨a1, l1, c1, rfl⟩ := okWide_slice Try.underlying22 (hval 1 22 v1 rfl rfl)
 clear hA0 hval0
 have hlt : ∀ x ∈ [] ++ (p1 ++ []) ++ [], x.block < W.heap.size := fun x hx => by simpa using hW'.lt x hx
 obtain ⟨xs, g1, b1⟩ := argQuads h1
 refine (twice_any n0 xs _ W g1 b1).mono fun e W' ⟨he, hg⟩ => ?_
 subst he
 have t1 := Below.trod laidOut (by kernel_rfl) (of_decide_eq_true (by kernel_rfl)) h1 hg (fun x hx => hlt x (by simp [hx]))
 exact ⟨_, rfl, _, _, _, [], _, [], hW', trodAll_mk1 (shut_bool Try.underlying4 _), trodAll_cons_mk (shut_int Try.underlying3 wn0) (trodAll_cons_mk t1 trodAll_mk0), rfl, hg.frame _, fun h => by cases h⟩
theorem familyTwice_holds : Rows.FamilyTwiceSaid :=
 OpenClaim.holds_of_wide 7 Try.f7 rfl rfl rfl rfl rfl rfl rfl ⟨rfl, rfl, rfl, rfl, rfl⟩ rfl rfl rfl rfl rfl (by kernel_rfl) Try.func7 (by kernel_rfl)
  (of_decide_eq_true (by kernel_rfl)) (by unfold Func.isWrapper; first | (rw [if_pos (by decide +kernel)]; kernel_rfl) | (rw [if_neg (by decide +kernel)]; exact ⟨rfl, rfl⟩))
  (fun os started H enc _ => twice_lifted os started H enc)
end Go.Proofs.Ytbklgjmkdhinpaa
