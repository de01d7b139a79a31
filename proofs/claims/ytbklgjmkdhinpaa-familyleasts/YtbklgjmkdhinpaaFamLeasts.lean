/- For every number of things and every list of steps: of the least sets of the last family none is a part of another one, and each set has one of them as a part; least once more is the same. No condition. -/
import Derived.Test.YtbklgjmkdhinpaaFmLeastL
set_option maxHeartbeats 2000000
set_option maxRecDepth 100000
namespace Go.Proofs.Ytbklgjmkdhinpaa.Fm
open Go.ChangeShapes Go.WideShapes Go.ChangeAt Go.RowKit Go.Maps Go.Proofs.Ytbklgjmkdhinpaa.Bd
theorem leasts_no (things : Int) (xs : List Quad) (va : Value) (w : World) (hx : ArgQuads w va xs) (hn : xs.length <= 9223372036854775807) (h : things < 0 \/ 6 < things \/ 20 < xs.length) :
  Calls Try.prog 6 #[.int .i64 things, va] w fun e w' => e = .returned (.bool true) /\ Below w.heap.size w w' := by
 obtain ⟨a, c, rfl, -⟩ := hx
 have HS := Lib.hid (store_no things a xs.length c h hn w)
 clear h
 go_enter Try.func6, Try.ntmps6
 go_wp2_with fail
 refine HS.out.mono ?_
 rintro e w1 ⟨rfl, rfl⟩
 go_wp2
 go_ret
 exact ⟨rfl, Below.refl _ _⟩
theorem leasts_any (things : Int) (xs : List Quad) (va : Value) (w : World) (hx : ArgQuads w va xs) (hn : xs.length <= 9223372036854775807) :
  Calls Try.prog 6 #[.int .i64 things, va] w fun e w' => e = .returned (.bool true) /\ Below w.heap.size w w' := by
 by_cases h : things < 0 \/ 6 < things \/ 20 < xs.length
 ·exact leasts_no things xs va w hx hn h
 ·obtain ⟨n, rfl⟩ : ∃ n : Nat, things = (n : Int) := ⟨things.toNat, by omega⟩
  exact leasts_walk n (by omega) xs va w hx (by omega)
end Go.Proofs.Ytbklgjmkdhinpaa.Fm
namespace Go.Proofs.Ytbklgjmkdhinpaa
open Go.ChangeShapes Go.WideShapes Go.ChangeAt Go.RowKit Go.Maps Go.Proofs.Ytbklgjmkdhinpaa.Bd Go.Proofs.Ytbklgjmkdhinpaa.Fm
theorem own : ownKnob Try.prog.godebug = none := by kernel_rfl
theorem leasts_lifted (os : Os) (started : os.Started) (H : Type) (enc : TypeId × Value -> H) :
  ReturnsInHanded {} Try.checked os 6 .any (Rows.familyLeastsSpec.pre6 enc Try.prog Try.f6 Rows.familyLeastsRow.domain false) (Rows.familyLeastsSpec.post enc Try.prog Try.f6 false true false false) := by
 refine returnsInHanded_of_change_sized (C := Try.checked) own started (by kernel_rfl) Try.func6
  (ChangeSpec.witness6 (enc := enc) (C := Try.checked) false ⟨#[], #[.int .i64 0, .slice none 0 0], []⟩ 8 (by kernel_rfl) (by kernel_rfl) (by kernel_rfl) (by kernel_rfl)) ?_
 intro W base args ds gs before hval0 hW _ _ _
 have hval : ∀ (j : Nat) t v, Try.f6.params[j]? = some t -> args[j]? = some v -> Value.okWide Try.prog W .any base t v := hval0
 have hW' := hW
 obtain ⟨p, q, hA0, hV, rfl, _, _⟩ := hW
 have hA : DataW.TrodAll enc Try.prog W 0 (fun _ => true) true Try.f6.params.toList args.toList ds p := hA0
 rw [Try.params6] at hA hval
 obtain ⟨v0, vs0, d0, ds0, p0, q0, hargs, rfl, rfl, h0, r0⟩ := trodAll_cons hA
 obtain ⟨v1, vs1, d1, ds1, p1, q1, rfl, rfl, rfl, h1, r1⟩ := trodAll_cons r0
 obtain ⟨rfl, rfl, rfl⟩ := trodAll_nil r1
 obtain rfl : args = #[v0, v1] := by cases args; simp_all
 obtain ⟨rfl, rfl⟩ := trodVars_none hV
 obtain ⟨n0, rfl, rfl, rfl, wn0⟩ := open_int Try.underlying3 (hval 0 3 v0 rfl rfl) h0
 obtain ⟨a1, l1, c1, rfl⟩ := okWide_slice Try.underlying22 (hval 1 22 v1 rfl rfl)
 clear hA0 hval0
 have hlt : ∀ x ∈ [] ++ (p1 ++ []) ++ [], x.block < W.heap.size := fun x hx => by simpa using hW'.lt x hx
 obtain ⟨xs, g1, b1⟩ := argQuads h1
 refine (leasts_any n0 xs _ W g1 b1).mono fun e W' ⟨he, hg⟩ => ?_
 subst he
 have t1 := Below.trod laidOut (by kernel_rfl) (of_decide_eq_true (by kernel_rfl)) h1 hg (fun x hx => hlt x (by simp [hx]))
 exact ⟨_, rfl, _, _, _, [], _, [], hW', trodAll_mk1 (shut_bool Try.underlying4 _), trodAll_cons_mk (shut_int Try.underlying3 wn0) (trodAll_cons_mk t1 trodAll_mk0), rfl, hg.frame _, fun h => by cases h⟩
theorem familyLeasts_holds : Rows.FamilyLeastsSaid :=
 OpenClaim.holds_of_wide 6 Try.f6 rfl rfl rfl rfl rfl rfl rfl ⟨rfl, rfl, rfl, rfl, rfl⟩ rfl rfl rfl rfl rfl (by kernel_rfl) Try.func6 (by kernel_rfl)
  (of_decide_eq_true (by kernel_rfl)) (by unfold Func.isWrapper; first | (rw [if_pos (by decide +kernel)]; kernel_rfl) | (rw [if_neg (by decide +kernel)]; exact ⟨rfl, rfl⟩))
  (fun os started H enc _ => leasts_lifted os started H enc)
end Go.Proofs.Ytbklgjmkdhinpaa
