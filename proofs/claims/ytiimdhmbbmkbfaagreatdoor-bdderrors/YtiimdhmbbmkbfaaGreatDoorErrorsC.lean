/- BddErrors: the walk, where there is a space: a case of the handle. -/
import Derived.Test.YtiimdhmbbmkbfaaGreatDoorErrorsL
namespace Go.Proofs.YtiimdhmbbmkbfaaGreatDoor
open Go.RowKit Go.Maps

set_option maxRecDepth 100000 in
set_option maxHeartbeats 20000000 in
theorem errors_C (vars : Nat) (hv : vars ≤ 24) (room : Int) (h0 : 0 ≤ room) (h1 : room ≤ 4000) (x v : Int) (hi : I64 x) (hrc : room ≠ 4000 ∨ room = 4000) (hvc : v < 0 ∨ (¬ v < 0 ∧ (vars : Int) ≤ v) ∨ (¬ v < 0 ∧ v < (vars : Int))) (q0 : (x == 0) = false) (q1 : (x == 1) = false) (hc : codeH [] x = 7) (w : World) (hgl : Glob w) :
    Calls Tryz.prog 4 #[.int .i64 (vars : Int), .int .i64 room, .int .i64 x, .int .i64 v] w fun e w' => e = .returned (.bool true) ∧ Below w.heap.size w w' := by
  have HN := Lib.hid (bnew_any vars hv room h0 h1 w w.heap.size (Nat.le_refl _))
  have HCD := Lib.hid hc
  clear hc
  all_goals
    go_enter Tryz.func4, Tryz.ntmps4
    go_wp2_with fail
    refine HN.out.mono ?_
    rintro e w1 ⟨s, b, O, rfl, hS, hs, hO, hb1⟩
    have es0 : ES w w1 s b O vars room := ⟨hS, hb1, hO⟩
    have VA := Lib.hid (vars_any hS)
    have evv : ((vars : Int) != (vars : Int)) = false := by simp
    have H1 := es0.iteE _ hi
    rw [HCD.out] at H1
    have HH1 := Lib.hid H1
    clear HN hS hO hb1 es0 H1
    go_wp2_with fail
    refine VA.out.mono ?_
    rintro e w2 ⟨rfl, rfl⟩
    clear VA
    go_wp2_with fail
    refine HH1.out.mono ?_
    rintro e w2 ⟨r1, O1, rfl, es1⟩
    have H1 := es1.notE _ hi
    rw [HCD.out] at H1
    have HH2 := Lib.hid H1
    clear HH1 es1 H1
    go_wp2_with fail
    refine HH2.out.mono ?_
    rintro e w3 ⟨r2, O2, rfl, es2⟩
    have H1 := es2.holdsE _ hi
    rw [HCD.out] at H1
    have HH3 := Lib.hid H1
    clear HH2 es2 H1
    go_wp2_with fail
    refine HH3.out.mono ?_
    rintro e w4 ⟨r3, O3, rfl, es3⟩
    have H1 := es3.countF hv _ hi
    rw [HCD.out] at H1
    have HH4 := Lib.hid H1
    clear HH3 es3 H1
    go_wp2_with fail
    refine HH4.out.mono ?_
    rintro e w5 ⟨a4, n4, c4, O4, rfl, es4⟩
    have es4' := es4.new (below_new w5 (.cells #[.slice a4 n4 c4] 30))
    have H1 := es4.needsE _ hi
    have H1' := es4'.needsE _ hi
    rw [HCD.out] at H1 H1'
    have HH5 := Lib.hid H1
    have HH5' := Lib.hid H1'
    clear HH4 es4 es4' H1 H1'
    go_wp2_with fail
    first | refine HH5.out.mono ?_ | refine HH5'.out.mono ?_
    rintro e w6 ⟨r5, O5, rfl, es5⟩
    have H1 := es5.sizeE _ hi
    rw [HCD.out] at H1
    have HH6 := Lib.hid H1
    clear HH5 HH5' es5 H1
    go_wp2_with fail
    refine HH6.out.mono ?_
    rintro e w7 ⟨r6, O6, rfl, es6⟩
    have es6' := es6.new (below_new w7 (.cells #[.int .i64 1, .int .i64 x] 3))
    have H1 := es6'.allE w7.heap.size x hi (ints2 w7 1 x ⟨by simp, by simp⟩ hi) (fun ho => by have := (es6.space.own _ ho).2; omega)
    rw [HCD.out] at H1
    have HH7 := Lib.hid H1
    clear HH6 es6 es6' H1
    go_wp2_with fail
    refine HH7.out.mono ?_
    rintro e w8 ⟨r7, O7, rfl, es7⟩
    have ES7 := Lib.hid es7
    clear HH7 es7
    rcases hrc with ra | ra
    rotate_left
    have rq : (room == 4000) = true := by simp [ra]
    have is0 := IS.make ES7.out hgl (decide ((vars : Int) ≤ 6))
    have HR0 : Hid (decide ((vars : Int) ≤ 6) = true → (0 : Int) < room) := fun _ => by omega
    clear ra
    rotate_left
    have rq : (room == 4000) = false := by simp [ra]
    have is0 := IS.make ES7.out hgl false
    have HR0 : Hid (false = true → (0 : Int) < room) := fun h => by cases h
    clear ra
    all_goals
      as_aux_lemma =>
        go_wp2_with fail
        refine (is0.is _).mono ?_
        rintro e v1 ⟨rfl, is1⟩
        clear is0
        go_wp2_with fail
        refine (is1.is _).mono ?_
        rintro e v2 ⟨rfl, is2⟩
        clear is1
        go_wp2_with fail
        refine (is2.bare _).mono ?_
        rintro e v3 ⟨rfl, is3⟩
        clear is2
        go_wp2_with fail
        refine (is3.bare _).mono ?_
        rintro e v4 ⟨rfl, is4⟩
        clear is3
        go_wp2_with fail
        refine (is4.bare _).mono ?_
        rintro e v5 ⟨rfl, is5⟩
        clear is4
        go_wp2_with fail
        refine (is5.bare _).mono ?_
        rintro e v6 ⟨rfl, is6⟩
        clear is5
        go_wp2_with fail
        refine (is6.is _).mono ?_
        rintro e v7 ⟨rfl, is7⟩
        clear is6
        have IS7 := Lib.hid is7
        clear is7 ES7
        rcases hvc with va | ⟨va, vb⟩ | ⟨va, vb⟩
        rotate_left 2
        have hcv := var_in (x := x) (show ¬ (v < 0 ∨ (vars : Int) ≤ v) by omega)
        rw [HCD.out] at hcv
        have HL := Lib.hid (lit_in HR0.out (show ¬ (v < 0 ∨ (vars : Int) ≤ v) by omega))
        have HCV := Lib.hid hcv
        clear hcv
        rotate_left
        have HCV := Lib.hid (var_out (x := x) (show v < 0 ∨ (vars : Int) ≤ v by omega))
        have HL := Lib.hid (lit_two (room := room) HR0.out (show v < 0 ∨ (vars : Int) ≤ v by omega))
        rotate_left
        have HCV := Lib.hid (var_out (x := x) (show v < 0 ∨ (vars : Int) ≤ v by omega))
        have HL := Lib.hid (lit_two (room := room) HR0.out (show v < 0 ∨ (vars : Int) ≤ v by omega))
        all_goals
          as_aux_lemma =>
            have is7 := IS7.out
            have H1 := is7.set x v hi true
            rw [HCV.out] at H1
            have HS1 := Lib.hid H1
            clear is7 H1 IS7
            go_wp2_with fail
            refine HS1.out.mono ?_
            rintro e u1 ⟨⟨z1, rfl⟩, is8⟩
            have H1 := is8.someI x v hi
            rw [HCV.out] at H1
            have HS2 := Lib.hid H1
            clear is8 H1 HS1
            go_wp2_with fail
            refine HS2.out.mono ?_
            rintro e u2 ⟨⟨z2, rfl⟩, is9⟩
            have H1 := is9.eachI x v hi
            rw [HCV.out] at H1
            have HS3 := Lib.hid H1
            clear is9 H1 HS2
            go_wp2_with fail
            refine HS3.out.mono ?_
            rintro e u3 ⟨⟨z3, rfl⟩, is10⟩
            have HS4 := Lib.hid (is10.lit hv v)
            clear is10 HS3
            go_wp2_with fail
            refine HS4.out.mono ?_
            rintro e u4 ⟨⟨z4, rfl⟩, js0⟩
            clear HS4
            generalize codeL vars room v = L at *
            go_wp2_with fail
            refine (js0.is _ _ (isE_self _ _)).mono ?_
            rintro e u5 ⟨rfl, js1⟩
            clear js0
            go_wp2_with fail
            refine (js1.is _ _ (isE_self _ _)).mono ?_
            rintro e u6 ⟨rfl, js2⟩
            clear js1
            go_wp2_with fail
            refine (js2.is _ _ (isE_self _ _)).mono ?_
            rintro e u7 ⟨rfl, js3⟩
            clear js2
            go_wp2_with fail
            refine (js3.is _ _ HL.out).mono ?_
            rintro e u8 ⟨rfl, js4⟩
            have HFIN := Lib.hid js4.below
            clear js3 js4
            go_wp2
            go_ret
            exact ⟨rfl, HFIN.out⟩
end Go.Proofs.YtiimdhmbbmkbfaaGreatDoor
