/- For every number of variables, every list of steps and every three of the functions that they make: not both is one that is not; twice not is none; what is true of one and of one of two others is as sets have it; and so on: all by handles. No condition. -/
import Derived.Test.YtacgoopgifoojabBdBool
import Derived.Test.YtacgoopgifoojabBdAll
import Derived.ProofKit
import Derived.SizedLaws
import Derived.OpenShut
import Derived.Laws.NewBlocks
namespace Go.Proofs.Ytacgoopgifoojab
open Go.ChangeShapes Go.WideShapes Go.ChangeAt Go.RowKit Go.Maps

theorem at_is {vars : Nat} {ns : List Nd} {al : List Int} {T : List Fn'} (h : Sems vars ns al T) (hne : 0 < al.length) (x : Int) : alAt al x ∈ al ∧ ∃ g, Is ns (alAt al x) g := by
  have hl := pickV_lt x hne
  have e1 : alAt al x = al[pickV x al.length] := by unfold alAt; simp [List.getD_eq_getElem?_getD, List.getElem?_eq_getElem hl]
  obtain ⟨h1, h2⟩ := h.at hne x
  exact ⟨by rw [e1]; exact List.getElem_mem hl, _, h1, h2⟩

theorem ints3' (w : World) (x y z : Int) (hx : I64 x) (hy : I64 y) (hz : I64 z) : IntsAt (w.alloc (.cells #[.int .i64 x, .int .i64 y, .int .i64 z] 3)) w.heap.size [x, y, z] := ints3 w ⟨x, y, z⟩ ⟨hx, hy, hz⟩ 3

theorem BS.all {W0 w : World} {s b : Nat} {O : Nat → Prop} {vars : Nat} {ns : List Nd} {n ps ph pb pd : Nat} {al : List Int} {ga c : Nat} (h : BS W0 w s b O vars ns n ps ph pb pd al ga c) (hv : vars ≤ 6) (hn : n ≤ 3700) {x y z : Int} {p q r : Fn'} (i : Is ns x p) (j : Is ns y q) (k : Is ns z r) :
    Calls Try.prog 19 #[.pointer (some ⟨s, 0, none⟩), .slice (some ⟨w.heap.size, 0, none⟩) 3 3] (w.alloc (.cells #[.int .i64 x, .int .i64 y, .int .i64 z] 3)) fun e w' => ∃ (o : Int) (ns' : List Nd) (O' : Nat → Prop), e = .returned (.tuple #[.int .i64 o, .nilIface]) ∧ BS W0 w' s b O' vars ns' (n + 189) ps ph pb pd al ga c ∧ Ext ns ns' ∧ Is ns' o (fun f => p f && (q f && r f)) := by
  have hln := h.st.len
  have hb := below_new w (.cells #[.int .i64 x, .int .i64 y, .int .i64 z] 3)
  have h' := h.new hb
  have hbs := hb.size
  have hI : ∀ m (h1 : m < [x, y, z].length) (h2 : m < [p, q, r].length), Is ns [x, y, z][m] [p, q, r][m] := fun m h1 _ => by
    have h3 : m < 3 := h1
    obtain rfl | rfl | rfl : m = 0 ∨ m = 1 ∨ m = 2 := by omega
    · exact i
    · exact j
    · exact k
  refine (all_op (cp := 3) h'.st.space h'.st.good hv (by omega) h'.st.below.size w.heap.size [x, y, z] [p, q, r] (ints3' w x y z (has_i64 i.1 (by omega)) (has_i64 j.1 (by omega)) (has_i64 k.1 (by omega))) (h.st.space.old (Nat.le_refl _)) (by simp) rfl (by simp; omega) hI).mono ?_
  rintro e w' ⟨o, ns', O', he, hS, hM, hG, hX, hIs, hl⟩
  simp only [List.length_cons, List.length_nil] at hl
  refine ⟨o, ns', O', he, h'.moved hM ⟨hS, hG, h'.st.below.trans (hM.below h'.st.below.size h'.st.own), fun t ht => ?_, by omega⟩ (fun y hy => hX.has y (h.has y hy)), hX, hIs.1, fun f => ?_⟩
  · rcases hM.own t ht with h1 | h1
    · exact h.st.own t h1
    · have := h'.st.below.size; omega
  · rw [hIs.2 f]; simp [allF]

set_option maxRecDepth 100000 in
set_option maxHeartbeats 8000000 in
theorem boole_walk (vars : Nat) (hv0 : 0 < vars) (hv6 : vars ≤ 6) (xs : List Quad) (va : Value) (i k j : Int) (w : World) (hx : ArgQuads w va xs) (hxl : xs.length ≤ 25) :
    Calls Try.prog 3 #[.int .i64 (vars : Int), va, .int .i64 i, .int .i64 k, .int .i64 j] w fun e w' => e = .returned (.bool true) ∧ Below w.heap.size w w' := by
  have HSP := Lib.hid (space_yes vars hv0 hv6 xs va w hx hxl)
  obtain ⟨hsem, hlen, hal⟩ := fun_ok hv0 hv6 xs [] [0, 1] _ (sems_start (good_nil vars)) (by simp) (by simp; omega)
  have hne : 0 < (funF vars ([], [0, 1]) xs).2.length := by rw [hal]; simp; omega
  obtain ⟨mA, p, iA⟩ := at_is hsem hne i
  obtain ⟨mB, q, iB⟩ := at_is hsem hne k
  obtain ⟨mC, r, iC⟩ := at_is hsem hne j
  have HG := Lib.hid hsem.good
  have HH := Lib.hid hsem.has
  have hi64 : ∀ x ∈ (funF vars ([], [0, 1]) xs).2, I64 x := fun x hx => has_i64 (hsem.has x hx) (by simp at hlen; omega)
  unfold SpaceOut at HSP
  obtain ⟨a0, c0, rfl, -⟩ := hx
  clear hsem
  generalize funF vars ([], [0, 1]) xs = rr at *
  obtain ⟨ns0, al⟩ := rr
  simp only at HSP HG HH hlen hal iA iB iC mA mB mC hi64 hne
  have h27 : al.length ≤ 27 := by rw [hal]; simp; omega
  have hl0 : ns0.length ≤ 1575 := by simp at hlen; omega
  have HI64 := Lib.hid hi64
  have P1 : Hid (∀ W, Calls Try.prog 8 #[.int .i64 i, .int .i64 (al.length : Int)] W fun e w' => e = .returned (.int .i64 (pickV i al.length : Int)) ∧ W = w') := fun W => pick_any i al.length hne (by omega) W
  have P2 : Hid (∀ W, Calls Try.prog 8 #[.int .i64 k, .int .i64 (al.length : Int)] W fun e w' => e = .returned (.int .i64 (pickV k al.length : Int)) ∧ W = w') := fun W => pick_any k al.length hne (by omega) W
  have P3 : Hid (∀ W, Calls Try.prog 8 #[.int .i64 j, .int .i64 (al.length : Int)] W fun e w' => e = .returned (.int .i64 (pickV j al.length : Int)) ∧ W = w') := fun W => pick_any j al.length hne (by omega) W
  have l1 := pickV_lt i hne
  have l2 := pickV_lt k hne
  have l3 := pickV_lt j hne
  clear hal hlen hi64
  go_enter Try.func3, Try.ntmps3
  go_wp2_with fail
  refine HSP.out.mono ?_
  rintro e w1 ⟨s, b, O, a, c, rfl, hS, hrow, hap, hO, hb1⟩
  obtain ⟨ga, rfl, hIA, -⟩ := ints_of_row hrow hne HI64.out
  have hapg := hap ga rfl
  have hw1 := hb1.size
  have hbx : Below w1.heap.size w1 ((w1.alloc (.cells #[.pointer (some ⟨s, 0, none⟩)] 23)).alloc (.cells #[.slice (some ⟨ga, 0, none⟩) al.length c] 24)) := (below_new w1 _).alloc (below_new w1 _).size _
  have HT := Lib.hid (truth_any ((w1.alloc (.cells #[.pointer (some ⟨s, 0, none⟩)] 23)).alloc (.cells #[.slice (some ⟨ga, 0, none⟩) al.length c] 24)))
  have e1 : (w1.alloc (.cells #[.pointer (some ⟨s, 0, none⟩)] 23)).heap.size = w1.heap.size + 1 := by simp
  have e2 : ((w1.alloc (.cells #[.pointer (some ⟨s, 0, none⟩)] 23)).alloc (.cells #[.slice (some ⟨ga, 0, none⟩) al.length c] 24)).heap.size = w1.heap.size + 1 + 1 := by rw [World.size_alloc, e1]
  have x1 : ((w1.alloc (.cells #[.pointer (some ⟨s, 0, none⟩)] 23)).alloc (.cells #[.slice (some ⟨ga, 0, none⟩) al.length c] 24)).cell? ⟨w1.heap.size, 0, none⟩ = some (.pointer (some ⟨s, 0, none⟩)) := by
    rw [(below_new (w1.alloc (.cells #[.pointer (some ⟨s, 0, none⟩)] 23)) _).cell (p := ⟨w1.heap.size, 0, none⟩) (by show w1.heap.size < _; omega)]; simp
  have x2 : ((w1.alloc (.cells #[.pointer (some ⟨s, 0, none⟩)] 23)).alloc (.cells #[.slice (some ⟨ga, 0, none⟩) al.length c] 24)).cell? ⟨w1.heap.size + 1, 0, none⟩ = some (.slice (some ⟨ga, 0, none⟩) al.length c) := by
    rw [← e1]; simp
  have HS := Lib.hid hS
  have HIA := Lib.hid hIA
  have HO := Lib.hid hO
  have HB1 := Lib.hid hb1
  have HBX := Lib.hid hbx
  have E2 := Lib.hid e2
  clear HSP hS hrow hap hO hb1 hIA hbx e1 e2
  go_wp2_with fail
  refine HT.out.mono ?_
  rintro e w2 ⟨rfl, hb2⟩
  generalize ((w1.alloc (.cells #[.pointer (some ⟨s, 0, none⟩)] 23)).alloc (.cells #[.slice (some ⟨ga, 0, none⟩) al.length c] 24)) = WX at *
  have hwx : WX.heap.size = w1.heap.size + 1 + 1 := E2.out
  have y1 := (hb2.cell (p := ⟨w1.heap.size, 0, none⟩) (by show w1.heap.size < _; omega)).trans x1
  have y2 := (hb2.cell (p := ⟨w1.heap.size + 1, 0, none⟩) (by show w1.heap.size + 1 < _; omega)).trans x2
  have hb3 := HBX.out.trans (hb2.mono HBX.out.size)
  have hs2 := hb2.size
  have HB3 := Lib.hid hb3
  have g1 : w2.cell? ⟨ga, pickV i al.length, none⟩ = some (.int .i64 (alAt al i)) := by
    rw [hb3.cell (p := ⟨ga, pickV i al.length, none⟩) HIA.out.lt, HIA.out.cells _ l1]; unfold alAt; simp [List.getD_eq_getElem?_getD, List.getElem?_eq_getElem l1]
  have g2 : w2.cell? ⟨ga, pickV k al.length, none⟩ = some (.int .i64 (alAt al k)) := by
    rw [hb3.cell (p := ⟨ga, pickV k al.length, none⟩) HIA.out.lt, HIA.out.cells _ l2]; unfold alAt; simp [List.getD_eq_getElem?_getD, List.getElem?_eq_getElem l2]
  have g3 : w2.cell? ⟨ga, pickV j al.length, none⟩ = some (.int .i64 (alAt al j)) := by
    rw [hb3.cell (p := ⟨ga, pickV j al.length, none⟩) HIA.out.lt, HIA.out.cells _ l3]; unfold alAt; simp [List.getD_eq_getElem?_getD, List.getElem?_eq_getElem l3]
  generalize pickV i al.length = p1 at *
  generalize pickV k al.length = p2 at *
  generalize pickV j al.length = p3 at *
  generalize alAt al i = ha at *
  generalize alAt al k = hb at *
  generalize alAt al j = hc at *
  have j1 : (p1 : Int) < (al.length : Int) := by omega
  have j2 : (p2 : Int) < (al.length : Int) := by omega
  have j3 : (p3 : Int) < (al.length : Int) := by omega
  have HWX := Lib.hid hwx
  have KA := Lib.hid iA
  have KB := Lib.hid iB
  have KC := Lib.hid iC
  clear HT x1 x2 hb2 hb3 HBX E2 hwx l1 l2 l3 iA iB iC
  go_wp2_with fail
  have SA : w2.drew.cell? ⟨w1.heap.size + 1, 0, none⟩ = some (.slice (some ⟨ga, 0, none⟩) al.length c) ∧ w2.drew.cell? ⟨ga, p1, none⟩ = some (.int .i64 ha) ∧ w2.drew.cell? ⟨ga, p2, none⟩ = some (.int .i64 hb) ∧ w2.drew.cell? ⟨ga, p3, none⟩ = some (.int .i64 hc) := ⟨y2, g1, g2, g3⟩
  go_region_held3 (fun X => X.cell? ⟨w1.heap.size + 1, 0, none⟩ = some (.slice (some ⟨ga, 0, none⟩) al.length c) ∧ X.cell? ⟨ga, p1, none⟩ = some (.int .i64 ha) ∧ X.cell? ⟨ga, p2, none⟩ = some (.int .i64 hb) ∧ X.cell? ⟨ga, p3, none⟩ = some (.int .i64 hc)) (exact SA)
    (first
      | (go_at_call 8; with_reducible refine (P1.out _).mono ?_; rintro e wz ⟨rfl, rfl⟩)
      | (go_at_call 8; with_reducible refine (P2.out _).mono ?_; rintro e wz ⟨rfl, rfl⟩)
      | (go_at_call 8; with_reducible refine (P3.out _).mono ?_; rintro e wz ⟨rfl, rfl⟩))
  have HB4 : Hid (Below w1.heap.size w1 w2.drew) := HB3.out.drew
  have y1d : w2.drew.cell? ⟨w1.heap.size, 0, none⟩ = some (.pointer (some ⟨s, 0, none⟩)) := y1
  have hsd : WX.heap.size ≤ w2.drew.heap.size := hs2
  have y2d := SA.1
  clear SA y1 y2 g1 g2 g3 P1 P2 P3 HB3 hs2 j1 j2 j3
  generalize w2.drew = W4 at *
  have f1 : (W4.alloc (.cells #[.bool false] 4)).heap.size = W4.heap.size + 1 := by simp
  have hst : (store ⟨W4.heap.size + 1, 0, none⟩ (Value.func (Fn.func 9) #[] #[Value.pointer (some ⟨W4.heap.size, 0, none⟩)])).run Try.prog ((W4.alloc (.cells #[.bool false] 4)).alloc (.cells #[.nilFunc] 31)) = .ok () ((W4.alloc (.cells #[.bool false] 4)).alloc (.cells #[.func (.func 9) #[] #[.pointer (some ⟨W4.heap.size, 0, none⟩)]] 31)) := by
    rw [run_store _ _ _ _ _ (by rfl)]
    rw [← f1]
    simp
    exact (World.setCell_alloc_at _ _ _ _ _ f1.symm).trans (by simp)
  have bb : Below W4.heap.size W4 ((W4.alloc (.cells #[.bool false] 4)).alloc (.cells #[.func (.func 9) #[] #[.pointer (some ⟨W4.heap.size, 0, none⟩)]] 31)) := (below_new W4 _).alloc (below_new W4 _).size _
  have c1 : ((W4.alloc (.cells #[.bool false] 4)).alloc (.cells #[.func (.func 9) #[] #[.pointer (some ⟨W4.heap.size, 0, none⟩)]] 31)).cell? ⟨W4.heap.size, 0, none⟩ = some (.bool false) := by
    rw [(below_new (W4.alloc (.cells #[.bool false] 4)) _).cell (p := ⟨W4.heap.size, 0, none⟩) (by show W4.heap.size < _; omega)]; simp
  have c2 : ((W4.alloc (.cells #[.bool false] 4)).alloc (.cells #[.func (.func 9) #[] #[.pointer (some ⟨W4.heap.size, 0, none⟩)]] 31)).frozen? ⟨W4.heap.size, 0, none⟩ = false := by
    rw [(below_new (W4.alloc (.cells #[.bool false] 4)) _).frozen (p := ⟨W4.heap.size, 0, none⟩) (by show W4.heap.size < _; omega)]; simp
  have c3 : ((W4.alloc (.cells #[.bool false] 4)).alloc (.cells #[.func (.func 9) #[] #[.pointer (some ⟨W4.heap.size, 0, none⟩)]] 31)).cell? ⟨W4.heap.size + 1, 0, none⟩ = some (.func (.func 9) #[] #[.pointer (some ⟨W4.heap.size, 0, none⟩)]) := by
    rw [← f1]; simp
  have hbs : BS w ((W4.alloc (.cells #[.bool false] 4)).alloc (.cells #[.func (.func 9) #[] #[.pointer (some ⟨W4.heap.size, 0, none⟩)]] 31)) s b O vars ns0 1575 w1.heap.size (w1.heap.size + 1) W4.heap.size (W4.heap.size + 1) al ga c := by
    have hall := HB4.out.trans (bb.mono HB4.out.size)
    have hwx := HWX.out
    have h4 := HB4.out.size
    have hoo : ∀ m, w1.heap.size ≤ m → ¬ O m := fun m hm => HS.out.old hm
    have gal := HIA.out.lt
    have ssl := HS.out.slt
    refine ⟨⟨HS.out.new hall, HG.out, HB1.out.trans (hall.mono hw1), HO.out, hl0⟩, (bb.cell (p := ⟨w1.heap.size, 0, none⟩) (by show w1.heap.size < _; omega)).trans y1d, (bb.cell (p := ⟨w1.heap.size + 1, 0, none⟩) (by show w1.heap.size + 1 < _; omega)).trans y2d, c1, c2, c3, intsKept HIA.out hall, HH.out, hoo _ (Nat.le_refl _), hoo _ (by omega), hoo _ (by omega), hoo _ (by omega), hapg.1, by omega, by omega, by omega, by omega, by omega, by omega⟩
  have HBS := Lib.hid hbs
  clear bb f1 c1 c2 c3 hbs y1d y2d HB4 HS HG HH HIA HO HB1 HWX
  go_wp2_with fail
  clear hst
  generalize ((W4.alloc (.cells #[.bool false] 4)).alloc (.cells #[.func (.func 9) #[] #[.pointer (some ⟨W4.heap.size, 0, none⟩)]] 31)) = V0 at *
  generalize w1.heap.size + 1 = ph at *
  generalize W4.heap.size + 1 = pd at *
  generalize w1.heap.size = ps at *
  generalize W4.heap.size = pb at *
  have s0 := HBS.out.new (Below.refl _ _).drew
  have iA := KA.out
  have iB := KB.out
  have iC := KC.out
  clear HBS KA KB KC
  have EQ0 : Hid (∀ f, (!(p f && q f)) = (!(p f) || !(q f))) := fun f => by cases p f <;> cases q f <;> rfl
  have EQ1 : Hid (∀ f, (!(!(p f))) = p f) := fun f => by cases p f <;> rfl
  have EQ2 : Hid (∀ f, (p f && (q f || r f)) = ((p f && q f) || (p f && r f))) := fun f => by cases p f <;> cases q f <;> cases r f <;> rfl
  have EQ3 : Hid (∀ f, (p f || (p f && q f)) = p f) := fun f => by cases p f <;> cases q f <;> rfl
  have EQ4 : Hid (∀ f, (p f != q f) = ((p f && !(q f)) || (!(p f) && q f))) := fun f => by cases p f <;> cases q f <;> rfl
  have EQ5 : Hid (∀ f, (p f && !(p f)) = false) := fun f => by cases p f <;> rfl
  as_aux_lemma =>
    simp only [List.append_eq, List.cons_append, List.nil_append]
    refine wp_region_noPanic ?_
    refine wp_region_held_drew (S := (fun X => X.cell? ⟨pd, 0, none⟩ = some (.func (.func 9) #[] #[.pointer (some ⟨pb, 0, none⟩)]) ∧ X.cell? ⟨ps, 0, none⟩ = some (.pointer (some ⟨s, 0, none⟩)))) (by kernel_rfl) ?_ (fun hHeld => ?_)
    · exact ⟨s0.cd, s0.cs⟩
    refine wpAnyH_take (i := 0) (oi := ⟨_, _, _, _, _, _⟩) (v := ?_) rfl (by as_aux_lemma => kernel_rfl) (by as_aux_lemma => kernel_rfl) (by as_aux_lemma => kernel_rfl) (fun _ _ _ h => h) (Or.inl ⟨by rfl, ?_⟩) (by assumption) ?_
    rotate_left
    · (intro w hSw; (try dsimp only at hSw); first | (go_simp; done) | (go_simp; with_reducible rfl))
    try simp only [Act.put, List.setIfInBounds_toArray, List.set_cons_zero, List.set_cons_succ]
    refine wpAnyH_take (i := 1) (oi := ⟨_, _, _, _, _, _⟩) (v := ?_) rfl (by as_aux_lemma => kernel_rfl) (by as_aux_lemma => kernel_rfl) (by as_aux_lemma => kernel_rfl) (fun _ _ _ h => h) (Or.inl ⟨by rfl, ?_⟩) (by assumption) ?_
    rotate_left
    · (intro w hSw; (try dsimp only at hSw); first | (go_simp; done) | (go_simp; with_reducible rfl))
    try simp only [Act.put, List.setIfInBounds_toArray, List.set_cons_zero, List.set_cons_succ]
    refine wpAnyH_take (i := 2) (oi := ⟨_, _, _, _, _, _⟩) (v := ?_) rfl (by as_aux_lemma => kernel_rfl) (by as_aux_lemma => kernel_rfl) (by as_aux_lemma => kernel_rfl) (fun _ _ _ h => h) (Or.inl ⟨by rfl, ?_⟩) (by assumption) ?_
    rotate_left
    · (intro w hSw; (try dsimp only at hSw); first | (go_simp; done) | (go_simp; with_reducible rfl))
    try simp only [Act.put, List.setIfInBounds_toArray, List.set_cons_zero, List.set_cons_succ]
    refine wpAnyH_take (i := 3) (oi := ⟨_, _, _, _, _, _⟩) (v := ?_) rfl (by as_aux_lemma => kernel_rfl) (by as_aux_lemma => kernel_rfl) (by as_aux_lemma => kernel_rfl) (fun _ _ _ h => h) (Or.inl ⟨by rfl, ?_⟩) (by assumption) ?_
    rotate_left
    · (intro w hSw; (try dsimp only at hSw); first | (go_simp; done) | (go_simp; with_reducible rfl))
    try simp only [Act.put, List.setIfInBounds_toArray, List.set_cons_zero, List.set_cons_succ]
    refine wpAnyH_take (i := 4) (oi := ⟨_, _, _, _, _, _⟩) (v := ?_) rfl (by as_aux_lemma => kernel_rfl) (by as_aux_lemma => kernel_rfl) (by as_aux_lemma => kernel_rfl) (fun _ _ _ h => h) (Or.inl ⟨by rfl, ?_⟩) (by assumption) ?_
    rotate_left
    · (intro w hSw; (try dsimp only at hSw); first | (go_simp; done) | (go_simp; with_reducible rfl))
    try simp only [Act.put, List.setIfInBounds_toArray, List.set_cons_zero, List.set_cons_succ]
    refine wpAnyH_take (i := 7) (oi := ⟨_, _, _, _, _, _⟩) (v := ?_) rfl (by as_aux_lemma => kernel_rfl) (by as_aux_lemma => kernel_rfl) (by as_aux_lemma => kernel_rfl) (fun _ _ _ h => h) (Or.inl ⟨by rfl, ?_⟩) (by assumption) ?_
    rotate_left
    · (intro w hSw; (try dsimp only at hSw); first | (go_simp; done) | (go_simp; with_reducible rfl))
    try simp only [Act.put, List.setIfInBounds_toArray, List.set_cons_zero, List.set_cons_succ]
    refine wpAnyH_take (i := 8) (oi := ⟨_, _, _, _, _, _⟩) (v := ?_) rfl (by as_aux_lemma => kernel_rfl) (by as_aux_lemma => kernel_rfl) (by as_aux_lemma => kernel_rfl) (fun _ _ _ h => h) (Or.inl ⟨by rfl, ?_⟩) (by assumption) ?_
    rotate_left
    · (intro w hSw; (try dsimp only at hSw); first | (go_simp; done) | (go_simp; with_reducible rfl))
    try simp only [Act.put, List.setIfInBounds_toArray, List.set_cons_zero, List.set_cons_succ]
    refine wpAnyH_take (i := 9) (oi := ⟨_, _, _, _, _, _⟩) (v := ?_) rfl (by as_aux_lemma => kernel_rfl) (by as_aux_lemma => kernel_rfl) (by as_aux_lemma => kernel_rfl) (fun _ _ _ h => h) (Or.inl ⟨by rfl, ?_⟩) (by assumption) ?_
    rotate_left
    · (intro w hSw; (try dsimp only at hSw); first | (go_simp; done) | (go_simp; with_reducible rfl))
    try simp only [Act.put, List.setIfInBounds_toArray, List.set_cons_zero, List.set_cons_succ]
    refine wpAnyH_take (i := 11) (oi := ⟨_, _, _, _, _, _⟩) (v := ?_) rfl (by as_aux_lemma => kernel_rfl) (by as_aux_lemma => kernel_rfl) (by as_aux_lemma => kernel_rfl) (fun _ _ _ h => h) (Or.inl ⟨by rfl, ?_⟩) (by assumption) ?_
    rotate_left
    · (intro w hSw; (try dsimp only at hSw); first | (go_simp; done) | (go_simp; with_reducible rfl))
    try simp only [Act.put, List.setIfInBounds_toArray, List.set_cons_zero, List.set_cons_succ]
    refine wpAnyH_take (i := 12) (oi := ⟨_, _, _, _, _, _⟩) (v := ?_) rfl (by as_aux_lemma => kernel_rfl) (by as_aux_lemma => kernel_rfl) (by as_aux_lemma => kernel_rfl) (fun _ _ _ h => h) (Or.inl ⟨by rfl, ?_⟩) (by assumption) ?_
    rotate_left
    · (intro w hSw; (try dsimp only at hSw); first | (go_simp; done) | (go_simp; with_reducible rfl))
    try simp only [Act.put, List.setIfInBounds_toArray, List.set_cons_zero, List.set_cons_succ]
    refine wpAnyH_ready (rs := [5]) (by as_aux_lemma => kernel_rfl) (by simp) ?_
    refine AllReadyH.cons (o := ⟨_, _, _, _, _, _⟩) rfl (fun K hK => ?_) AllReadyH.nil
    go_simp
    go_at_call 10
    (with_reducible refine (and_c s0 hv6 (by omega) ha hb iA iB).mono ?_)
    rintro e v1 ⟨r1, m1, O1, rfl, s1, x1, ir1⟩
    replace iA := iA.ext s0.st.good.ranked x1
    replace iB := iB.ext s0.st.good.ranked x1
    replace iC := iC.ext s0.st.good.ranked x1
    clear s0 x1
    go_wp2_with fail
    refine hK.out _ _ ?_ (fun hNew => ?_)
    · exact ⟨s1.cd, s1.cs⟩
    clear hK K
    replace hHeld := hNew
    clear hNew
    try simp only [Act.put, List.setIfInBounds_toArray, List.set_cons_zero, List.set_cons_succ]
    refine wpAnyH_ready (rs := [6]) (by as_aux_lemma => kernel_rfl) (by simp) ?_
    refine AllReadyH.cons (o := ⟨_, _, _, _, _, _⟩) rfl (fun K hK => ?_) AllReadyH.nil
    go_simp
    go_at_call 14
    (with_reducible refine (not_c s1 hv6 (by omega) r1 ir1).mono ?_)
    rintro e v2 ⟨r2, m2, O2, rfl, s2, x2, ir2⟩
    replace iA := iA.ext s1.st.good.ranked x2
    replace iB := iB.ext s1.st.good.ranked x2
    replace iC := iC.ext s1.st.good.ranked x2
    replace ir1 := ir1.ext s1.st.good.ranked x2
    clear s1 x2
    go_wp2_with fail
    refine hK.out _ _ ?_ (fun hNew => ?_)
    · exact ⟨s2.cd, s2.cs⟩
    clear hK K
    replace hHeld := hNew
    clear hNew
    try simp only [Act.put, List.setIfInBounds_toArray, List.set_cons_zero, List.set_cons_succ]
    refine wpAnyH_ready (rs := [10]) (by as_aux_lemma => kernel_rfl) (by simp) ?_
    refine AllReadyH.cons (o := ⟨_, _, _, _, _, _⟩) rfl (fun K hK => ?_) AllReadyH.nil
    go_simp
    go_at_call 14
    (with_reducible refine (not_c s2 hv6 (by omega) ha iA).mono ?_)
    rintro e v3 ⟨r3, m3, O3, rfl, s3, x3, ir3⟩
    replace iA := iA.ext s2.st.good.ranked x3
    replace iB := iB.ext s2.st.good.ranked x3
    replace iC := iC.ext s2.st.good.ranked x3
    replace ir1 := ir1.ext s2.st.good.ranked x3
    replace ir2 := ir2.ext s2.st.good.ranked x3
    clear s2 x3
    go_wp2_with fail
    refine hK.out _ _ ?_ (fun hNew => ?_)
    · exact ⟨s3.cd, s3.cs⟩
    clear hK K
    replace hHeld := hNew
    clear hNew
    try simp only [Act.put, List.setIfInBounds_toArray, List.set_cons_zero, List.set_cons_succ]
    refine wpAnyH_ready (rs := [13]) (by as_aux_lemma => kernel_rfl) (by simp) ?_
    refine AllReadyH.cons (o := ⟨_, _, _, _, _, _⟩) rfl (fun K hK => ?_) AllReadyH.nil
    go_simp
    go_at_call 14
    (with_reducible refine (not_c s3 hv6 (by omega) hb iB).mono ?_)
    rintro e v4 ⟨r4, m4, O4, rfl, s4, x4, ir4⟩
    replace iA := iA.ext s3.st.good.ranked x4
    replace iB := iB.ext s3.st.good.ranked x4
    replace iC := iC.ext s3.st.good.ranked x4
    replace ir1 := ir1.ext s3.st.good.ranked x4
    replace ir2 := ir2.ext s3.st.good.ranked x4
    replace ir3 := ir3.ext s3.st.good.ranked x4
    clear s3 x4
    go_wp2_with fail
    refine hK.out _ _ ?_ (fun hNew => ?_)
    · exact ⟨s4.cd, s4.cs⟩
    clear hK K
    replace hHeld := hNew
    clear hNew
    try simp only [Act.put, List.setIfInBounds_toArray, List.set_cons_zero, List.set_cons_succ]
    refine wpAnyH_ready (rs := [14]) (by as_aux_lemma => kernel_rfl) (by simp) ?_
    refine AllReadyH.cons (o := ⟨_, _, _, _, _, _⟩) rfl (fun K hK => ?_) AllReadyH.nil
    go_simp
    go_at_call 12
    (with_reducible refine (or_c s4 hv6 (by omega) r3 r4 ir3 ir4).mono ?_)
    rintro e v5 ⟨r5, m5, O5, rfl, s5, x5, ir5⟩
    replace iA := iA.ext s4.st.good.ranked x5
    replace iB := iB.ext s4.st.good.ranked x5
    replace iC := iC.ext s4.st.good.ranked x5
    replace ir1 := ir1.ext s4.st.good.ranked x5
    replace ir2 := ir2.ext s4.st.good.ranked x5
    replace ir3 := ir3.ext s4.st.good.ranked x5
    replace ir4 := ir4.ext s4.st.good.ranked x5
    clear s4 x5
    go_wp2_with fail
    refine hK.out _ _ ?_ (fun hNew => ?_)
    · exact ⟨s5.cd, s5.cs⟩
    clear hK K
    replace hHeld := hNew
    clear hNew
    try simp only [Act.put, List.setIfInBounds_toArray, List.set_cons_zero, List.set_cons_succ]
    refine wpAnyH_ready (rs := [15]) (by as_aux_lemma => kernel_rfl) (by simp) ?_
    refine AllReadyH.cons (o := ⟨_, _, _, _, _, _⟩) rfl (fun K hK => ?_) AllReadyH.nil
    go_simp
    go_at_call 16
    have eq6 : r2 = r5 := ir2.same s5.st.good ir5 (EQ0.out)
    subst eq6
    (with_reducible refine (then_c s5 (by omega) h27 r2).mono ?_)
    rintro e v6 ⟨m6, O6, rfl, s6, kp6⟩
    replace iA := kp6 _ mA _ iA
    replace iB := kp6 _ mB _ iB
    replace iC := kp6 _ mC _ iC
    clear s5 kp6 ir1 ir2 ir3 ir4 ir5
    go_wp2_with fail
    refine hK.out _ _ ?_ (fun hNew => ?_)
    · exact ⟨s6.cd, s6.cs⟩
    clear hK K
    replace hHeld := hNew
    clear hNew
    try simp only [Act.put, List.setIfInBounds_toArray, List.set_cons_zero, List.set_cons_succ]
    as_aux_lemma =>
      refine wpAnyH_take (i := 16) (oi := ⟨_, _, _, _, _, _⟩) (v := ?_) rfl (by as_aux_lemma => kernel_rfl) (by as_aux_lemma => kernel_rfl) (by as_aux_lemma => kernel_rfl) (fun _ _ _ h => h) (Or.inl ⟨by rfl, ?_⟩) (by assumption) ?_
      rotate_left
      · (intro w hSw; (try dsimp only at hSw); first | (go_simp; done) | (go_simp; with_reducible rfl))
      try simp only [Act.put, List.setIfInBounds_toArray, List.set_cons_zero, List.set_cons_succ]
      refine wpAnyH_take (i := 17) (oi := ⟨_, _, _, _, _, _⟩) (v := ?_) rfl (by as_aux_lemma => kernel_rfl) (by as_aux_lemma => kernel_rfl) (by as_aux_lemma => kernel_rfl) (fun _ _ _ h => h) (Or.inl ⟨by rfl, ?_⟩) (by assumption) ?_
      rotate_left
      · (intro w hSw; (try dsimp only at hSw); first | (go_simp; done) | (go_simp; with_reducible rfl))
      try simp only [Act.put, List.setIfInBounds_toArray, List.set_cons_zero, List.set_cons_succ]
      refine wpAnyH_take (i := 18) (oi := ⟨_, _, _, _, _, _⟩) (v := ?_) rfl (by as_aux_lemma => kernel_rfl) (by as_aux_lemma => kernel_rfl) (by as_aux_lemma => kernel_rfl) (fun _ _ _ h => h) (Or.inl ⟨by rfl, ?_⟩) (by assumption) ?_
      rotate_left
      · (intro w hSw; (try dsimp only at hSw); first | (go_simp; done) | (go_simp; with_reducible rfl))
      try simp only [Act.put, List.setIfInBounds_toArray, List.set_cons_zero, List.set_cons_succ]
      refine wpAnyH_take (i := 19) (oi := ⟨_, _, _, _, _, _⟩) (v := ?_) rfl (by as_aux_lemma => kernel_rfl) (by as_aux_lemma => kernel_rfl) (by as_aux_lemma => kernel_rfl) (fun _ _ _ h => h) (Or.inl ⟨by rfl, ?_⟩) (by assumption) ?_
      rotate_left
      · (intro w hSw; (try dsimp only at hSw); first | (go_simp; done) | (go_simp; with_reducible rfl))
      try simp only [Act.put, List.setIfInBounds_toArray, List.set_cons_zero, List.set_cons_succ]
      refine wpAnyH_take (i := 20) (oi := ⟨_, _, _, _, _, _⟩) (v := ?_) rfl (by as_aux_lemma => kernel_rfl) (by as_aux_lemma => kernel_rfl) (by as_aux_lemma => kernel_rfl) (fun _ _ _ h => h) (Or.inl ⟨by rfl, ?_⟩) (by assumption) ?_
      rotate_left
      · (intro w hSw; (try dsimp only at hSw); first | (go_simp; done) | (go_simp; with_reducible rfl))
      try simp only [Act.put, List.setIfInBounds_toArray, List.set_cons_zero, List.set_cons_succ]
      refine wpAnyH_take (i := 23) (oi := ⟨_, _, _, _, _, _⟩) (v := ?_) rfl (by as_aux_lemma => kernel_rfl) (by as_aux_lemma => kernel_rfl) (by as_aux_lemma => kernel_rfl) (fun _ _ _ h => h) (Or.inl ⟨by rfl, ?_⟩) (by assumption) ?_
      rotate_left
      · (intro w hSw; (try dsimp only at hSw); first | (go_simp; done) | (go_simp; with_reducible rfl))
      try simp only [Act.put, List.setIfInBounds_toArray, List.set_cons_zero, List.set_cons_succ]
      refine wpAnyH_ready (rs := [21]) (by as_aux_lemma => kernel_rfl) (by simp) ?_
      refine AllReadyH.cons (o := ⟨_, _, _, _, _, _⟩) rfl (fun K hK => ?_) AllReadyH.nil
      go_simp
      go_at_call 14
      (with_reducible refine (not_c s6 hv6 (by omega) ha iA).mono ?_)
      rintro e v7 ⟨r1, m7, O7, rfl, s7, x7, ir1⟩
      replace iA := iA.ext s6.st.good.ranked x7
      replace iB := iB.ext s6.st.good.ranked x7
      replace iC := iC.ext s6.st.good.ranked x7
      clear s6 x7
      go_wp2_with fail
      refine hK.out _ _ ?_ (fun hNew => ?_)
      · exact ⟨s7.cd, s7.cs⟩
      clear hK K
      replace hHeld := hNew
      clear hNew
      try simp only [Act.put, List.setIfInBounds_toArray, List.set_cons_zero, List.set_cons_succ]
      refine wpAnyH_ready (rs := [22]) (by as_aux_lemma => kernel_rfl) (by simp) ?_
      refine AllReadyH.cons (o := ⟨_, _, _, _, _, _⟩) rfl (fun K hK => ?_) AllReadyH.nil
      go_simp
      go_at_call 14
      (with_reducible refine (not_c s7 hv6 (by omega) r1 ir1).mono ?_)
      rintro e v8 ⟨r2, m8, O8, rfl, s8, x8, ir2⟩
      replace iA := iA.ext s7.st.good.ranked x8
      replace iB := iB.ext s7.st.good.ranked x8
      replace iC := iC.ext s7.st.good.ranked x8
      replace ir1 := ir1.ext s7.st.good.ranked x8
      clear s7 x8
      go_wp2_with fail
      refine hK.out _ _ ?_ (fun hNew => ?_)
      · exact ⟨s8.cd, s8.cs⟩
      clear hK K
      replace hHeld := hNew
      clear hNew
      try simp only [Act.put, List.setIfInBounds_toArray, List.set_cons_zero, List.set_cons_succ]
      refine wpAnyH_ready (rs := [24]) (by as_aux_lemma => kernel_rfl) (by simp) ?_
      refine AllReadyH.cons (o := ⟨_, _, _, _, _, _⟩) rfl (fun K hK => ?_) AllReadyH.nil
      go_simp
      go_at_call 16
      have eq9 : ha = r2 := (ir2.same s8.st.good iA (EQ1.out)).symm
      subst eq9
      (with_reducible refine (then_c s8 (by omega) h27 ha).mono ?_)
      rintro e v9 ⟨m9, O9, rfl, s9, kp9⟩
      replace iA := kp9 _ mA _ iA
      replace iB := kp9 _ mB _ iB
      replace iC := kp9 _ mC _ iC
      clear s8 kp9 ir1 ir2
      go_wp2_with fail
      refine hK.out _ _ ?_ (fun hNew => ?_)
      · exact ⟨s9.cd, s9.cs⟩
      clear hK K
      replace hHeld := hNew
      clear hNew
      try simp only [Act.put, List.setIfInBounds_toArray, List.set_cons_zero, List.set_cons_succ]
      as_aux_lemma =>
        refine wpAnyH_take (i := 25) (oi := ⟨_, _, _, _, _, _⟩) (v := ?_) rfl (by as_aux_lemma => kernel_rfl) (by as_aux_lemma => kernel_rfl) (by as_aux_lemma => kernel_rfl) (fun _ _ _ h => h) (Or.inl ⟨by rfl, ?_⟩) (by assumption) ?_
        rotate_left
        · (intro w hSw; (try dsimp only at hSw); first | (go_simp; done) | (go_simp; with_reducible rfl))
        try simp only [Act.put, List.setIfInBounds_toArray, List.set_cons_zero, List.set_cons_succ]
        refine wpAnyH_take (i := 26) (oi := ⟨_, _, _, _, _, _⟩) (v := ?_) rfl (by as_aux_lemma => kernel_rfl) (by as_aux_lemma => kernel_rfl) (by as_aux_lemma => kernel_rfl) (fun _ _ _ h => h) (Or.inl ⟨by rfl, ?_⟩) (by assumption) ?_
        rotate_left
        · (intro w hSw; (try dsimp only at hSw); first | (go_simp; done) | (go_simp; with_reducible rfl))
        try simp only [Act.put, List.setIfInBounds_toArray, List.set_cons_zero, List.set_cons_succ]
        refine wpAnyH_take (i := 27) (oi := ⟨_, _, _, _, _, _⟩) (v := ?_) rfl (by as_aux_lemma => kernel_rfl) (by as_aux_lemma => kernel_rfl) (by as_aux_lemma => kernel_rfl) (fun _ _ _ h => h) (Or.inl ⟨by rfl, ?_⟩) (by assumption) ?_
        rotate_left
        · (intro w hSw; (try dsimp only at hSw); first | (go_simp; done) | (go_simp; with_reducible rfl))
        try simp only [Act.put, List.setIfInBounds_toArray, List.set_cons_zero, List.set_cons_succ]
        refine wpAnyH_take (i := 28) (oi := ⟨_, _, _, _, _, _⟩) (v := ?_) rfl (by as_aux_lemma => kernel_rfl) (by as_aux_lemma => kernel_rfl) (by as_aux_lemma => kernel_rfl) (fun _ _ _ h => h) (Or.inl ⟨by rfl, ?_⟩) (by assumption) ?_
        rotate_left
        · (intro w hSw; (try dsimp only at hSw); first | (go_simp; done) | (go_simp; with_reducible rfl))
        try simp only [Act.put, List.setIfInBounds_toArray, List.set_cons_zero, List.set_cons_succ]
        refine wpAnyH_take (i := 29) (oi := ⟨_, _, _, _, _, _⟩) (v := ?_) rfl (by as_aux_lemma => kernel_rfl) (by as_aux_lemma => kernel_rfl) (by as_aux_lemma => kernel_rfl) (fun _ _ _ h => h) (Or.inl ⟨by rfl, ?_⟩) (by assumption) ?_
        rotate_left
        · (intro w hSw; (try dsimp only at hSw); first | (go_simp; done) | (go_simp; with_reducible rfl))
        try simp only [Act.put, List.setIfInBounds_toArray, List.set_cons_zero, List.set_cons_succ]
        refine wpAnyH_take (i := 30) (oi := ⟨_, _, _, _, _, _⟩) (v := ?_) rfl (by as_aux_lemma => kernel_rfl) (by as_aux_lemma => kernel_rfl) (by as_aux_lemma => kernel_rfl) (fun _ _ _ h => h) (Or.inl ⟨by rfl, ?_⟩) (by assumption) ?_
        rotate_left
        · (intro w hSw; (try dsimp only at hSw); first | (go_simp; done) | (go_simp; with_reducible rfl))
        try simp only [Act.put, List.setIfInBounds_toArray, List.set_cons_zero, List.set_cons_succ]
        refine wpAnyH_take (i := 31) (oi := ⟨_, _, _, _, _, _⟩) (v := ?_) rfl (by as_aux_lemma => kernel_rfl) (by as_aux_lemma => kernel_rfl) (by as_aux_lemma => kernel_rfl) (fun _ _ _ h => h) (Or.inl ⟨by rfl, ?_⟩) (by assumption) ?_
        rotate_left
        · (intro w hSw; (try dsimp only at hSw); first | (go_simp; done) | (go_simp; with_reducible rfl))
        try simp only [Act.put, List.setIfInBounds_toArray, List.set_cons_zero, List.set_cons_succ]
        refine wpAnyH_take (i := 32) (oi := ⟨_, _, _, _, _, _⟩) (v := ?_) rfl (by as_aux_lemma => kernel_rfl) (by as_aux_lemma => kernel_rfl) (by as_aux_lemma => kernel_rfl) (fun _ _ _ h => h) (Or.inl ⟨by rfl, ?_⟩) (by assumption) ?_
        rotate_left
        · (intro w hSw; (try dsimp only at hSw); first | (go_simp; done) | (go_simp; with_reducible rfl))
        try simp only [Act.put, List.setIfInBounds_toArray, List.set_cons_zero, List.set_cons_succ]
        refine wpAnyH_take (i := 35) (oi := ⟨_, _, _, _, _, _⟩) (v := ?_) rfl (by as_aux_lemma => kernel_rfl) (by as_aux_lemma => kernel_rfl) (by as_aux_lemma => kernel_rfl) (fun _ _ _ h => h) (Or.inl ⟨by rfl, ?_⟩) (by assumption) ?_
        rotate_left
        · (intro w hSw; (try dsimp only at hSw); first | (go_simp; done) | (go_simp; with_reducible rfl))
        try simp only [Act.put, List.setIfInBounds_toArray, List.set_cons_zero, List.set_cons_succ]
        refine wpAnyH_take (i := 36) (oi := ⟨_, _, _, _, _, _⟩) (v := ?_) rfl (by as_aux_lemma => kernel_rfl) (by as_aux_lemma => kernel_rfl) (by as_aux_lemma => kernel_rfl) (fun _ _ _ h => h) (Or.inl ⟨by rfl, ?_⟩) (by assumption) ?_
        rotate_left
        · (intro w hSw; (try dsimp only at hSw); first | (go_simp; done) | (go_simp; with_reducible rfl))
        try simp only [Act.put, List.setIfInBounds_toArray, List.set_cons_zero, List.set_cons_succ]
        refine wpAnyH_take (i := 37) (oi := ⟨_, _, _, _, _, _⟩) (v := ?_) rfl (by as_aux_lemma => kernel_rfl) (by as_aux_lemma => kernel_rfl) (by as_aux_lemma => kernel_rfl) (fun _ _ _ h => h) (Or.inl ⟨by rfl, ?_⟩) (by assumption) ?_
        rotate_left
        · (intro w hSw; (try dsimp only at hSw); first | (go_simp; done) | (go_simp; with_reducible rfl))
        try simp only [Act.put, List.setIfInBounds_toArray, List.set_cons_zero, List.set_cons_succ]
        refine wpAnyH_take (i := 38) (oi := ⟨_, _, _, _, _, _⟩) (v := ?_) rfl (by as_aux_lemma => kernel_rfl) (by as_aux_lemma => kernel_rfl) (by as_aux_lemma => kernel_rfl) (fun _ _ _ h => h) (Or.inl ⟨by rfl, ?_⟩) (by assumption) ?_
        rotate_left
        · (intro w hSw; (try dsimp only at hSw); first | (go_simp; done) | (go_simp; with_reducible rfl))
        try simp only [Act.put, List.setIfInBounds_toArray, List.set_cons_zero, List.set_cons_succ]
        refine wpAnyH_take (i := 40) (oi := ⟨_, _, _, _, _, _⟩) (v := ?_) rfl (by as_aux_lemma => kernel_rfl) (by as_aux_lemma => kernel_rfl) (by as_aux_lemma => kernel_rfl) (fun _ _ _ h => h) (Or.inl ⟨by rfl, ?_⟩) (by assumption) ?_
        rotate_left
        · (intro w hSw; (try dsimp only at hSw); first | (go_simp; done) | (go_simp; with_reducible rfl))
        try simp only [Act.put, List.setIfInBounds_toArray, List.set_cons_zero, List.set_cons_succ]
        refine wpAnyH_take (i := 41) (oi := ⟨_, _, _, _, _, _⟩) (v := ?_) rfl (by as_aux_lemma => kernel_rfl) (by as_aux_lemma => kernel_rfl) (by as_aux_lemma => kernel_rfl) (fun _ _ _ h => h) (Or.inl ⟨by rfl, ?_⟩) (by assumption) ?_
        rotate_left
        · (intro w hSw; (try dsimp only at hSw); first | (go_simp; done) | (go_simp; with_reducible rfl))
        try simp only [Act.put, List.setIfInBounds_toArray, List.set_cons_zero, List.set_cons_succ]
        refine wpAnyH_take (i := 42) (oi := ⟨_, _, _, _, _, _⟩) (v := ?_) rfl (by as_aux_lemma => kernel_rfl) (by as_aux_lemma => kernel_rfl) (by as_aux_lemma => kernel_rfl) (fun _ _ _ h => h) (Or.inl ⟨by rfl, ?_⟩) (by assumption) ?_
        rotate_left
        · (intro w hSw; (try dsimp only at hSw); first | (go_simp; done) | (go_simp; with_reducible rfl))
        try simp only [Act.put, List.setIfInBounds_toArray, List.set_cons_zero, List.set_cons_succ]
        refine wpAnyH_ready (rs := [33]) (by as_aux_lemma => kernel_rfl) (by simp) ?_
        refine AllReadyH.cons (o := ⟨_, _, _, _, _, _⟩) rfl (fun K hK => ?_) AllReadyH.nil
        go_simp
        go_at_call 12
        (with_reducible refine (or_c s9 hv6 (by omega) hb hc iB iC).mono ?_)
        rintro e v10 ⟨r1, m10, O10, rfl, s10, x10, ir1⟩
        replace iA := iA.ext s9.st.good.ranked x10
        replace iB := iB.ext s9.st.good.ranked x10
        replace iC := iC.ext s9.st.good.ranked x10
        clear s9 x10
        go_wp2_with fail
        refine hK.out _ _ ?_ (fun hNew => ?_)
        · exact ⟨s10.cd, s10.cs⟩
        clear hK K
        replace hHeld := hNew
        clear hNew
        try simp only [Act.put, List.setIfInBounds_toArray, List.set_cons_zero, List.set_cons_succ]
        refine wpAnyH_ready (rs := [34]) (by as_aux_lemma => kernel_rfl) (by simp) ?_
        refine AllReadyH.cons (o := ⟨_, _, _, _, _, _⟩) rfl (fun K hK => ?_) AllReadyH.nil
        go_simp
        go_at_call 10
        (with_reducible refine (and_c s10 hv6 (by omega) ha r1 iA ir1).mono ?_)
        rintro e v11 ⟨r2, m11, O11, rfl, s11, x11, ir2⟩
        replace iA := iA.ext s10.st.good.ranked x11
        replace iB := iB.ext s10.st.good.ranked x11
        replace iC := iC.ext s10.st.good.ranked x11
        replace ir1 := ir1.ext s10.st.good.ranked x11
        clear s10 x11
        go_wp2_with fail
        refine hK.out _ _ ?_ (fun hNew => ?_)
        · exact ⟨s11.cd, s11.cs⟩
        clear hK K
        replace hHeld := hNew
        clear hNew
        try simp only [Act.put, List.setIfInBounds_toArray, List.set_cons_zero, List.set_cons_succ]
        refine wpAnyH_ready (rs := [39]) (by as_aux_lemma => kernel_rfl) (by simp) ?_
        refine AllReadyH.cons (o := ⟨_, _, _, _, _, _⟩) rfl (fun K hK => ?_) AllReadyH.nil
        go_simp
        go_at_call 10
        (with_reducible refine (and_c s11 hv6 (by omega) ha hb iA iB).mono ?_)
        rintro e v12 ⟨r3, m12, O12, rfl, s12, x12, ir3⟩
        replace iA := iA.ext s11.st.good.ranked x12
        replace iB := iB.ext s11.st.good.ranked x12
        replace iC := iC.ext s11.st.good.ranked x12
        replace ir1 := ir1.ext s11.st.good.ranked x12
        replace ir2 := ir2.ext s11.st.good.ranked x12
        clear s11 x12
        go_wp2_with fail
        refine hK.out _ _ ?_ (fun hNew => ?_)
        · exact ⟨s12.cd, s12.cs⟩
        clear hK K
        replace hHeld := hNew
        clear hNew
        try simp only [Act.put, List.setIfInBounds_toArray, List.set_cons_zero, List.set_cons_succ]
        refine wpAnyH_ready (rs := [43]) (by as_aux_lemma => kernel_rfl) (by simp) ?_
        refine AllReadyH.cons (o := ⟨_, _, _, _, _, _⟩) rfl (fun K hK => ?_) AllReadyH.nil
        go_simp
        go_at_call 10
        (with_reducible refine (and_c s12 hv6 (by omega) ha hc iA iC).mono ?_)
        rintro e v13 ⟨r4, m13, O13, rfl, s13, x13, ir4⟩
        replace iA := iA.ext s12.st.good.ranked x13
        replace iB := iB.ext s12.st.good.ranked x13
        replace iC := iC.ext s12.st.good.ranked x13
        replace ir1 := ir1.ext s12.st.good.ranked x13
        replace ir2 := ir2.ext s12.st.good.ranked x13
        replace ir3 := ir3.ext s12.st.good.ranked x13
        clear s12 x13
        go_wp2_with fail
        refine hK.out _ _ ?_ (fun hNew => ?_)
        · exact ⟨s13.cd, s13.cs⟩
        clear hK K
        replace hHeld := hNew
        clear hNew
        try simp only [Act.put, List.setIfInBounds_toArray, List.set_cons_zero, List.set_cons_succ]
        refine wpAnyH_ready (rs := [44]) (by as_aux_lemma => kernel_rfl) (by simp) ?_
        refine AllReadyH.cons (o := ⟨_, _, _, _, _, _⟩) rfl (fun K hK => ?_) AllReadyH.nil
        go_simp
        go_at_call 12
        (with_reducible refine (or_c s13 hv6 (by omega) r3 r4 ir3 ir4).mono ?_)
        rintro e v14 ⟨r5, m14, O14, rfl, s14, x14, ir5⟩
        replace iA := iA.ext s13.st.good.ranked x14
        replace iB := iB.ext s13.st.good.ranked x14
        replace iC := iC.ext s13.st.good.ranked x14
        replace ir1 := ir1.ext s13.st.good.ranked x14
        replace ir2 := ir2.ext s13.st.good.ranked x14
        replace ir3 := ir3.ext s13.st.good.ranked x14
        replace ir4 := ir4.ext s13.st.good.ranked x14
        clear s13 x14
        go_wp2_with fail
        refine hK.out _ _ ?_ (fun hNew => ?_)
        · exact ⟨s14.cd, s14.cs⟩
        clear hK K
        replace hHeld := hNew
        clear hNew
        try simp only [Act.put, List.setIfInBounds_toArray, List.set_cons_zero, List.set_cons_succ]
        refine wpAnyH_ready (rs := [45]) (by as_aux_lemma => kernel_rfl) (by simp) ?_
        refine AllReadyH.cons (o := ⟨_, _, _, _, _, _⟩) rfl (fun K hK => ?_) AllReadyH.nil
        go_simp
        go_at_call 16
        have eq15 : r2 = r5 := ir2.same s14.st.good ir5 (EQ2.out)
        subst eq15
        (with_reducible refine (then_c s14 (by omega) h27 r2).mono ?_)
        rintro e v15 ⟨m15, O15, rfl, s15, kp15⟩
        replace iA := kp15 _ mA _ iA
        replace iB := kp15 _ mB _ iB
        replace iC := kp15 _ mC _ iC
        clear s14 kp15 ir1 ir2 ir3 ir4 ir5
        go_wp2_with fail
        refine hK.out _ _ ?_ (fun hNew => ?_)
        · exact ⟨s15.cd, s15.cs⟩
        clear hK K
        replace hHeld := hNew
        clear hNew
        try simp only [Act.put, List.setIfInBounds_toArray, List.set_cons_zero, List.set_cons_succ]
        as_aux_lemma =>
          refine wpAnyH_take (i := 46) (oi := ⟨_, _, _, _, _, _⟩) (v := ?_) rfl (by as_aux_lemma => kernel_rfl) (by as_aux_lemma => kernel_rfl) (by as_aux_lemma => kernel_rfl) (fun _ _ _ h => h) (Or.inl ⟨by rfl, ?_⟩) (by assumption) ?_
          rotate_left
          · (intro w hSw; (try dsimp only at hSw); first | (go_simp; done) | (go_simp; with_reducible rfl))
          try simp only [Act.put, List.setIfInBounds_toArray, List.set_cons_zero, List.set_cons_succ]
          refine wpAnyH_take (i := 47) (oi := ⟨_, _, _, _, _, _⟩) (v := ?_) rfl (by as_aux_lemma => kernel_rfl) (by as_aux_lemma => kernel_rfl) (by as_aux_lemma => kernel_rfl) (fun _ _ _ h => h) (Or.inl ⟨by rfl, ?_⟩) (by assumption) ?_
          rotate_left
          · (intro w hSw; (try dsimp only at hSw); first | (go_simp; done) | (go_simp; with_reducible rfl))
          try simp only [Act.put, List.setIfInBounds_toArray, List.set_cons_zero, List.set_cons_succ]
          refine wpAnyH_take (i := 48) (oi := ⟨_, _, _, _, _, _⟩) (v := ?_) rfl (by as_aux_lemma => kernel_rfl) (by as_aux_lemma => kernel_rfl) (by as_aux_lemma => kernel_rfl) (fun _ _ _ h => h) (Or.inl ⟨by rfl, ?_⟩) (by assumption) ?_
          rotate_left
          · (intro w hSw; (try dsimp only at hSw); first | (go_simp; done) | (go_simp; with_reducible rfl))
          try simp only [Act.put, List.setIfInBounds_toArray, List.set_cons_zero, List.set_cons_succ]
          refine wpAnyH_take (i := 49) (oi := ⟨_, _, _, _, _, _⟩) (v := ?_) rfl (by as_aux_lemma => kernel_rfl) (by as_aux_lemma => kernel_rfl) (by as_aux_lemma => kernel_rfl) (fun _ _ _ h => h) (Or.inl ⟨by rfl, ?_⟩) (by assumption) ?_
          rotate_left
          · (intro w hSw; (try dsimp only at hSw); first | (go_simp; done) | (go_simp; with_reducible rfl))
          try simp only [Act.put, List.setIfInBounds_toArray, List.set_cons_zero, List.set_cons_succ]
          refine wpAnyH_take (i := 50) (oi := ⟨_, _, _, _, _, _⟩) (v := ?_) rfl (by as_aux_lemma => kernel_rfl) (by as_aux_lemma => kernel_rfl) (by as_aux_lemma => kernel_rfl) (fun _ _ _ h => h) (Or.inl ⟨by rfl, ?_⟩) (by assumption) ?_
          rotate_left
          · (intro w hSw; (try dsimp only at hSw); first | (go_simp; done) | (go_simp; with_reducible rfl))
          try simp only [Act.put, List.setIfInBounds_toArray, List.set_cons_zero, List.set_cons_succ]
          refine wpAnyH_take (i := 51) (oi := ⟨_, _, _, _, _, _⟩) (v := ?_) rfl (by as_aux_lemma => kernel_rfl) (by as_aux_lemma => kernel_rfl) (by as_aux_lemma => kernel_rfl) (fun _ _ _ h => h) (Or.inl ⟨by rfl, ?_⟩) (by assumption) ?_
          rotate_left
          · (intro w hSw; (try dsimp only at hSw); first | (go_simp; done) | (go_simp; with_reducible rfl))
          try simp only [Act.put, List.setIfInBounds_toArray, List.set_cons_zero, List.set_cons_succ]
          refine wpAnyH_take (i := 52) (oi := ⟨_, _, _, _, _, _⟩) (v := ?_) rfl (by as_aux_lemma => kernel_rfl) (by as_aux_lemma => kernel_rfl) (by as_aux_lemma => kernel_rfl) (fun _ _ _ h => h) (Or.inl ⟨by rfl, ?_⟩) (by assumption) ?_
          rotate_left
          · (intro w hSw; (try dsimp only at hSw); first | (go_simp; done) | (go_simp; with_reducible rfl))
          try simp only [Act.put, List.setIfInBounds_toArray, List.set_cons_zero, List.set_cons_succ]
          refine wpAnyH_take (i := 53) (oi := ⟨_, _, _, _, _, _⟩) (v := ?_) rfl (by as_aux_lemma => kernel_rfl) (by as_aux_lemma => kernel_rfl) (by as_aux_lemma => kernel_rfl) (fun _ _ _ h => h) (Or.inl ⟨by rfl, ?_⟩) (by assumption) ?_
          rotate_left
          · (intro w hSw; (try dsimp only at hSw); first | (go_simp; done) | (go_simp; with_reducible rfl))
          try simp only [Act.put, List.setIfInBounds_toArray, List.set_cons_zero, List.set_cons_succ]
          refine wpAnyH_take (i := 56) (oi := ⟨_, _, _, _, _, _⟩) (v := ?_) rfl (by as_aux_lemma => kernel_rfl) (by as_aux_lemma => kernel_rfl) (by as_aux_lemma => kernel_rfl) (fun _ _ _ h => h) (Or.inl ⟨by rfl, ?_⟩) (by assumption) ?_
          rotate_left
          · (intro w hSw; (try dsimp only at hSw); first | (go_simp; done) | (go_simp; with_reducible rfl))
          try simp only [Act.put, List.setIfInBounds_toArray, List.set_cons_zero, List.set_cons_succ]
          refine wpAnyH_ready (rs := [54]) (by as_aux_lemma => kernel_rfl) (by simp) ?_
          refine AllReadyH.cons (o := ⟨_, _, _, _, _, _⟩) rfl (fun K hK => ?_) AllReadyH.nil
          go_simp
          go_at_call 10
          (with_reducible refine (and_c s15 hv6 (by omega) ha hb iA iB).mono ?_)
          rintro e v16 ⟨r1, m16, O16, rfl, s16, x16, ir1⟩
          replace iA := iA.ext s15.st.good.ranked x16
          replace iB := iB.ext s15.st.good.ranked x16
          replace iC := iC.ext s15.st.good.ranked x16
          clear s15 x16
          go_wp2_with fail
          refine hK.out _ _ ?_ (fun hNew => ?_)
          · exact ⟨s16.cd, s16.cs⟩
          clear hK K
          replace hHeld := hNew
          clear hNew
          try simp only [Act.put, List.setIfInBounds_toArray, List.set_cons_zero, List.set_cons_succ]
          refine wpAnyH_ready (rs := [55]) (by as_aux_lemma => kernel_rfl) (by simp) ?_
          refine AllReadyH.cons (o := ⟨_, _, _, _, _, _⟩) rfl (fun K hK => ?_) AllReadyH.nil
          go_simp
          go_at_call 12
          (with_reducible refine (or_c s16 hv6 (by omega) ha r1 iA ir1).mono ?_)
          rintro e v17 ⟨r2, m17, O17, rfl, s17, x17, ir2⟩
          replace iA := iA.ext s16.st.good.ranked x17
          replace iB := iB.ext s16.st.good.ranked x17
          replace iC := iC.ext s16.st.good.ranked x17
          replace ir1 := ir1.ext s16.st.good.ranked x17
          clear s16 x17
          go_wp2_with fail
          refine hK.out _ _ ?_ (fun hNew => ?_)
          · exact ⟨s17.cd, s17.cs⟩
          clear hK K
          replace hHeld := hNew
          clear hNew
          try simp only [Act.put, List.setIfInBounds_toArray, List.set_cons_zero, List.set_cons_succ]
          refine wpAnyH_ready (rs := [57]) (by as_aux_lemma => kernel_rfl) (by simp) ?_
          refine AllReadyH.cons (o := ⟨_, _, _, _, _, _⟩) rfl (fun K hK => ?_) AllReadyH.nil
          go_simp
          go_at_call 16
          have eq18 : ha = r2 := (ir2.same s17.st.good iA (EQ3.out)).symm
          subst eq18
          (with_reducible refine (then_c s17 (by omega) h27 ha).mono ?_)
          rintro e v18 ⟨m18, O18, rfl, s18, kp18⟩
          replace iA := kp18 _ mA _ iA
          replace iB := kp18 _ mB _ iB
          replace iC := kp18 _ mC _ iC
          clear s17 kp18 ir1 ir2
          go_wp2_with fail
          refine hK.out _ _ ?_ (fun hNew => ?_)
          · exact ⟨s18.cd, s18.cs⟩
          clear hK K
          replace hHeld := hNew
          clear hNew
          try simp only [Act.put, List.setIfInBounds_toArray, List.set_cons_zero, List.set_cons_succ]
          as_aux_lemma =>
            refine wpAnyH_take (i := 58) (oi := ⟨_, _, _, _, _, _⟩) (v := ?_) rfl (by as_aux_lemma => kernel_rfl) (by as_aux_lemma => kernel_rfl) (by as_aux_lemma => kernel_rfl) (fun _ _ _ h => h) (Or.inl ⟨by rfl, ?_⟩) (by assumption) ?_
            rotate_left
            · (intro w hSw; (try dsimp only at hSw); first | (go_simp; done) | (go_simp; with_reducible rfl))
            try simp only [Act.put, List.setIfInBounds_toArray, List.set_cons_zero, List.set_cons_succ]
            refine wpAnyH_take (i := 59) (oi := ⟨_, _, _, _, _, _⟩) (v := ?_) rfl (by as_aux_lemma => kernel_rfl) (by as_aux_lemma => kernel_rfl) (by as_aux_lemma => kernel_rfl) (fun _ _ _ h => h) (Or.inl ⟨by rfl, ?_⟩) (by assumption) ?_
            rotate_left
            · (intro w hSw; (try dsimp only at hSw); first | (go_simp; done) | (go_simp; with_reducible rfl))
            try simp only [Act.put, List.setIfInBounds_toArray, List.set_cons_zero, List.set_cons_succ]
            refine wpAnyH_take (i := 60) (oi := ⟨_, _, _, _, _, _⟩) (v := ?_) rfl (by as_aux_lemma => kernel_rfl) (by as_aux_lemma => kernel_rfl) (by as_aux_lemma => kernel_rfl) (fun _ _ _ h => h) (Or.inl ⟨by rfl, ?_⟩) (by assumption) ?_
            rotate_left
            · (intro w hSw; (try dsimp only at hSw); first | (go_simp; done) | (go_simp; with_reducible rfl))
            try simp only [Act.put, List.setIfInBounds_toArray, List.set_cons_zero, List.set_cons_succ]
            refine wpAnyH_take (i := 61) (oi := ⟨_, _, _, _, _, _⟩) (v := ?_) rfl (by as_aux_lemma => kernel_rfl) (by as_aux_lemma => kernel_rfl) (by as_aux_lemma => kernel_rfl) (fun _ _ _ h => h) (Or.inl ⟨by rfl, ?_⟩) (by assumption) ?_
            rotate_left
            · (intro w hSw; (try dsimp only at hSw); first | (go_simp; done) | (go_simp; with_reducible rfl))
            try simp only [Act.put, List.setIfInBounds_toArray, List.set_cons_zero, List.set_cons_succ]
            refine wpAnyH_take (i := 62) (oi := ⟨_, _, _, _, _, _⟩) (v := ?_) rfl (by as_aux_lemma => kernel_rfl) (by as_aux_lemma => kernel_rfl) (by as_aux_lemma => kernel_rfl) (fun _ _ _ h => h) (Or.inl ⟨by rfl, ?_⟩) (by assumption) ?_
            rotate_left
            · (intro w hSw; (try dsimp only at hSw); first | (go_simp; done) | (go_simp; with_reducible rfl))
            try simp only [Act.put, List.setIfInBounds_toArray, List.set_cons_zero, List.set_cons_succ]
            refine wpAnyH_take (i := 63) (oi := ⟨_, _, _, _, _, _⟩) (v := ?_) rfl (by as_aux_lemma => kernel_rfl) (by as_aux_lemma => kernel_rfl) (by as_aux_lemma => kernel_rfl) (fun _ _ _ h => h) (Or.inl ⟨by rfl, ?_⟩) (by assumption) ?_
            rotate_left
            · (intro w hSw; (try dsimp only at hSw); first | (go_simp; done) | (go_simp; with_reducible rfl))
            try simp only [Act.put, List.setIfInBounds_toArray, List.set_cons_zero, List.set_cons_succ]
            refine wpAnyH_take (i := 64) (oi := ⟨_, _, _, _, _, _⟩) (v := ?_) rfl (by as_aux_lemma => kernel_rfl) (by as_aux_lemma => kernel_rfl) (by as_aux_lemma => kernel_rfl) (fun _ _ _ h => h) (Or.inl ⟨by rfl, ?_⟩) (by assumption) ?_
            rotate_left
            · (intro w hSw; (try dsimp only at hSw); first | (go_simp; done) | (go_simp; with_reducible rfl))
            try simp only [Act.put, List.setIfInBounds_toArray, List.set_cons_zero, List.set_cons_succ]
            refine wpAnyH_take (i := 69) (oi := ⟨_, _, _, _, _, _⟩) (v := ?_) rfl (by as_aux_lemma => kernel_rfl) (by as_aux_lemma => kernel_rfl) (by as_aux_lemma => kernel_rfl) (fun _ _ _ h => h) (Or.inl ⟨by rfl, ?_⟩) (by assumption) ?_
            rotate_left
            · (intro w hSw; (try dsimp only at hSw); first | (go_simp; done) | (go_simp; with_reducible rfl))
            try simp only [Act.put, List.setIfInBounds_toArray, List.set_cons_zero, List.set_cons_succ]
            refine wpAnyH_take (i := 70) (oi := ⟨_, _, _, _, _, _⟩) (v := ?_) rfl (by as_aux_lemma => kernel_rfl) (by as_aux_lemma => kernel_rfl) (by as_aux_lemma => kernel_rfl) (fun _ _ _ h => h) (Or.inl ⟨by rfl, ?_⟩) (by assumption) ?_
            rotate_left
            · (intro w hSw; (try dsimp only at hSw); first | (go_simp; done) | (go_simp; with_reducible rfl))
            try simp only [Act.put, List.setIfInBounds_toArray, List.set_cons_zero, List.set_cons_succ]
            refine wpAnyH_take (i := 71) (oi := ⟨_, _, _, _, _, _⟩) (v := ?_) rfl (by as_aux_lemma => kernel_rfl) (by as_aux_lemma => kernel_rfl) (by as_aux_lemma => kernel_rfl) (fun _ _ _ h => h) (Or.inl ⟨by rfl, ?_⟩) (by assumption) ?_
            rotate_left
            · (intro w hSw; (try dsimp only at hSw); first | (go_simp; done) | (go_simp; with_reducible rfl))
            try simp only [Act.put, List.setIfInBounds_toArray, List.set_cons_zero, List.set_cons_succ]
            refine wpAnyH_take (i := 72) (oi := ⟨_, _, _, _, _, _⟩) (v := ?_) rfl (by as_aux_lemma => kernel_rfl) (by as_aux_lemma => kernel_rfl) (by as_aux_lemma => kernel_rfl) (fun _ _ _ h => h) (Or.inl ⟨by rfl, ?_⟩) (by assumption) ?_
            rotate_left
            · (intro w hSw; (try dsimp only at hSw); first | (go_simp; done) | (go_simp; with_reducible rfl))
            try simp only [Act.put, List.setIfInBounds_toArray, List.set_cons_zero, List.set_cons_succ]
            refine wpAnyH_take (i := 73) (oi := ⟨_, _, _, _, _, _⟩) (v := ?_) rfl (by as_aux_lemma => kernel_rfl) (by as_aux_lemma => kernel_rfl) (by as_aux_lemma => kernel_rfl) (fun _ _ _ h => h) (Or.inl ⟨by rfl, ?_⟩) (by assumption) ?_
            rotate_left
            · (intro w hSw; (try dsimp only at hSw); first | (go_simp; done) | (go_simp; with_reducible rfl))
            try simp only [Act.put, List.setIfInBounds_toArray, List.set_cons_zero, List.set_cons_succ]
            refine wpAnyH_take (i := 76) (oi := ⟨_, _, _, _, _, _⟩) (v := ?_) rfl (by as_aux_lemma => kernel_rfl) (by as_aux_lemma => kernel_rfl) (by as_aux_lemma => kernel_rfl) (fun _ _ _ h => h) (Or.inl ⟨by rfl, ?_⟩) (by assumption) ?_
            rotate_left
            · (intro w hSw; (try dsimp only at hSw); first | (go_simp; done) | (go_simp; with_reducible rfl))
            try simp only [Act.put, List.setIfInBounds_toArray, List.set_cons_zero, List.set_cons_succ]
            refine wpAnyH_take (i := 77) (oi := ⟨_, _, _, _, _, _⟩) (v := ?_) rfl (by as_aux_lemma => kernel_rfl) (by as_aux_lemma => kernel_rfl) (by as_aux_lemma => kernel_rfl) (fun _ _ _ h => h) (Or.inl ⟨by rfl, ?_⟩) (by assumption) ?_
            rotate_left
            · (intro w hSw; (try dsimp only at hSw); first | (go_simp; done) | (go_simp; with_reducible rfl))
            try simp only [Act.put, List.setIfInBounds_toArray, List.set_cons_zero, List.set_cons_succ]
            refine wpAnyH_take (i := 78) (oi := ⟨_, _, _, _, _, _⟩) (v := ?_) rfl (by as_aux_lemma => kernel_rfl) (by as_aux_lemma => kernel_rfl) (by as_aux_lemma => kernel_rfl) (fun _ _ _ h => h) (Or.inl ⟨by rfl, ?_⟩) (by assumption) ?_
            rotate_left
            · (intro w hSw; (try dsimp only at hSw); first | (go_simp; done) | (go_simp; with_reducible rfl))
            try simp only [Act.put, List.setIfInBounds_toArray, List.set_cons_zero, List.set_cons_succ]
            refine wpAnyH_take (i := 80) (oi := ⟨_, _, _, _, _, _⟩) (v := ?_) rfl (by as_aux_lemma => kernel_rfl) (by as_aux_lemma => kernel_rfl) (by as_aux_lemma => kernel_rfl) (fun _ _ _ h => h) (Or.inl ⟨by rfl, ?_⟩) (by assumption) ?_
            rotate_left
            · (intro w hSw; (try dsimp only at hSw); first | (go_simp; done) | (go_simp; with_reducible rfl))
            try simp only [Act.put, List.setIfInBounds_toArray, List.set_cons_zero, List.set_cons_succ]
            refine wpAnyH_ready (rs := [65]) (by as_aux_lemma => kernel_rfl) (by simp) ?_
            refine AllReadyH.cons (o := ⟨_, _, _, _, _, _⟩) rfl (fun K hK => ?_) AllReadyH.nil
            go_simp
            go_at_call 18
            (with_reducible refine (s18.op hv6 (xor_is s18.st.space s18.st.good (s18.st.room hv6 (by omega)) iA iB)).mono ?_)
            rintro e v19 ⟨r1, m19, O19, rfl, s19x, x19, ir1⟩
            replace iA := iA.ext s18.st.good.ranked x19
            replace iB := iB.ext s18.st.good.ranked x19
            replace iC := iC.ext s18.st.good.ranked x19
            clear s18 x19
            go_wp2_with fail
            refine hK.out _ _ ?_ (fun hNew => ?_)
            · exact ⟨s19x.cd, s19x.cs⟩
            clear hK K
            replace hHeld := hNew
            clear hNew
            try simp only [Act.put, List.setIfInBounds_toArray, List.set_cons_zero, List.set_cons_succ]
            refine wpAnyH_take (i := 66) (oi := ⟨_, _, _, _, _, _⟩) (v := ?_) rfl (by as_aux_lemma => kernel_rfl) (by as_aux_lemma => kernel_rfl) (by as_aux_lemma => kernel_rfl) (fun _ _ _ h => h) (Or.inl ⟨by rfl, ?_⟩) (by assumption) ?_
            rotate_left
            · (intro w hSw; (try dsimp only at hSw); first | (go_simp; done) | (go_simp; with_reducible rfl))
            try simp only [Act.put, List.setIfInBounds_toArray, List.set_cons_zero, List.set_cons_succ]
            refine wpAnyH_take (i := 67) (oi := ⟨_, _, _, _, _, _⟩) (v := ?_) rfl (by as_aux_lemma => kernel_rfl) (by as_aux_lemma => kernel_rfl) (by as_aux_lemma => kernel_rfl) (fun _ _ _ h => h) (Or.inl ⟨by rfl, ?_⟩) (by assumption) ?_
            rotate_left
            · (intro w hSw; (try dsimp only at hSw); first | (go_simp; done) | (go_simp; with_reducible rfl))
            try simp only [Act.put, List.setIfInBounds_toArray, List.set_cons_zero, List.set_cons_succ]
            refine wpAnyH_ready (rs := [68]) (by as_aux_lemma => kernel_rfl) (by simp) ?_
            refine AllReadyH.cons (o := ⟨_, _, _, _, _, _⟩) rfl (fun K hK => ?_) AllReadyH.nil
            go_simp
            go_at_call 9
            (with_reducible refine (do_any _ _ s19x.cb s19x.fb).mono ?_)
            rintro e v19x ⟨rfl, rfl⟩
            have s19 := s19x.bad
            clear s19x
            go_wp2_with fail
            refine hK.out _ _ ?_ (fun hNew => ?_)
            · exact ⟨s19.cd, s19.cs⟩
            clear hK K
            replace hHeld := hNew
            clear hNew
            try simp only [Act.put, List.setIfInBounds_toArray, List.set_cons_zero, List.set_cons_succ]
            refine wpAnyH_ready (rs := [74]) (by as_aux_lemma => kernel_rfl) (by simp) ?_
            refine AllReadyH.cons (o := ⟨_, _, _, _, _, _⟩) rfl (fun K hK => ?_) AllReadyH.nil
            go_simp
            go_at_call 14
            (with_reducible refine (not_c s19 hv6 (by omega) hb iB).mono ?_)
            rintro e v20 ⟨r2, m20, O20, rfl, s20, x20, ir2⟩
            replace iA := iA.ext s19.st.good.ranked x20
            replace iB := iB.ext s19.st.good.ranked x20
            replace iC := iC.ext s19.st.good.ranked x20
            replace ir1 := ir1.ext s19.st.good.ranked x20
            clear s19 x20
            go_wp2_with fail
            refine hK.out _ _ ?_ (fun hNew => ?_)
            · exact ⟨s20.cd, s20.cs⟩
            clear hK K
            replace hHeld := hNew
            clear hNew
            try simp only [Act.put, List.setIfInBounds_toArray, List.set_cons_zero, List.set_cons_succ]
            refine wpAnyH_ready (rs := [75]) (by as_aux_lemma => kernel_rfl) (by simp) ?_
            refine AllReadyH.cons (o := ⟨_, _, _, _, _, _⟩) rfl (fun K hK => ?_) AllReadyH.nil
            go_simp
            go_at_call 10
            (with_reducible refine (and_c s20 hv6 (by omega) ha r2 iA ir2).mono ?_)
            rintro e v21 ⟨r3, m21, O21, rfl, s21, x21, ir3⟩
            replace iA := iA.ext s20.st.good.ranked x21
            replace iB := iB.ext s20.st.good.ranked x21
            replace iC := iC.ext s20.st.good.ranked x21
            replace ir1 := ir1.ext s20.st.good.ranked x21
            replace ir2 := ir2.ext s20.st.good.ranked x21
            clear s20 x21
            go_wp2_with fail
            refine hK.out _ _ ?_ (fun hNew => ?_)
            · exact ⟨s21.cd, s21.cs⟩
            clear hK K
            replace hHeld := hNew
            clear hNew
            try simp only [Act.put, List.setIfInBounds_toArray, List.set_cons_zero, List.set_cons_succ]
            refine wpAnyH_ready (rs := [79]) (by as_aux_lemma => kernel_rfl) (by simp) ?_
            refine AllReadyH.cons (o := ⟨_, _, _, _, _, _⟩) rfl (fun K hK => ?_) AllReadyH.nil
            go_simp
            go_at_call 14
            (with_reducible refine (not_c s21 hv6 (by omega) ha iA).mono ?_)
            rintro e v22 ⟨r4, m22, O22, rfl, s22, x22, ir4⟩
            replace iA := iA.ext s21.st.good.ranked x22
            replace iB := iB.ext s21.st.good.ranked x22
            replace iC := iC.ext s21.st.good.ranked x22
            replace ir1 := ir1.ext s21.st.good.ranked x22
            replace ir2 := ir2.ext s21.st.good.ranked x22
            replace ir3 := ir3.ext s21.st.good.ranked x22
            clear s21 x22
            go_wp2_with fail
            refine hK.out _ _ ?_ (fun hNew => ?_)
            · exact ⟨s22.cd, s22.cs⟩
            clear hK K
            replace hHeld := hNew
            clear hNew
            try simp only [Act.put, List.setIfInBounds_toArray, List.set_cons_zero, List.set_cons_succ]
            refine wpAnyH_ready (rs := [81]) (by as_aux_lemma => kernel_rfl) (by simp) ?_
            refine AllReadyH.cons (o := ⟨_, _, _, _, _, _⟩) rfl (fun K hK => ?_) AllReadyH.nil
            go_simp
            go_at_call 10
            (with_reducible refine (and_c s22 hv6 (by omega) r4 hb ir4 iB).mono ?_)
            rintro e v23 ⟨r5, m23, O23, rfl, s23, x23, ir5⟩
            replace iA := iA.ext s22.st.good.ranked x23
            replace iB := iB.ext s22.st.good.ranked x23
            replace iC := iC.ext s22.st.good.ranked x23
            replace ir1 := ir1.ext s22.st.good.ranked x23
            replace ir2 := ir2.ext s22.st.good.ranked x23
            replace ir3 := ir3.ext s22.st.good.ranked x23
            replace ir4 := ir4.ext s22.st.good.ranked x23
            clear s22 x23
            go_wp2_with fail
            refine hK.out _ _ ?_ (fun hNew => ?_)
            · exact ⟨s23.cd, s23.cs⟩
            clear hK K
            replace hHeld := hNew
            clear hNew
            try simp only [Act.put, List.setIfInBounds_toArray, List.set_cons_zero, List.set_cons_succ]
            refine wpAnyH_ready (rs := [82]) (by as_aux_lemma => kernel_rfl) (by simp) ?_
            refine AllReadyH.cons (o := ⟨_, _, _, _, _, _⟩) rfl (fun K hK => ?_) AllReadyH.nil
            go_simp
            go_at_call 12
            (with_reducible refine (or_c s23 hv6 (by omega) r3 r5 ir3 ir5).mono ?_)
            rintro e v24 ⟨r6, m24, O24, rfl, s24, x24, ir6⟩
            replace iA := iA.ext s23.st.good.ranked x24
            replace iB := iB.ext s23.st.good.ranked x24
            replace iC := iC.ext s23.st.good.ranked x24
            replace ir1 := ir1.ext s23.st.good.ranked x24
            replace ir2 := ir2.ext s23.st.good.ranked x24
            replace ir3 := ir3.ext s23.st.good.ranked x24
            replace ir4 := ir4.ext s23.st.good.ranked x24
            replace ir5 := ir5.ext s23.st.good.ranked x24
            clear s23 x24
            go_wp2_with fail
            refine hK.out _ _ ?_ (fun hNew => ?_)
            · exact ⟨s24.cd, s24.cs⟩
            clear hK K
            replace hHeld := hNew
            clear hNew
            try simp only [Act.put, List.setIfInBounds_toArray, List.set_cons_zero, List.set_cons_succ]
            refine wpAnyH_ready (rs := [83]) (by as_aux_lemma => kernel_rfl) (by simp) ?_
            refine AllReadyH.cons (o := ⟨_, _, _, _, _, _⟩) rfl (fun K hK => ?_) AllReadyH.nil
            go_simp
            go_at_call 16
            have eq25 : r1 = r6 := ir1.same s24.st.good ir6 (EQ4.out)
            subst eq25
            (with_reducible refine (then_c s24 (by omega) h27 r1).mono ?_)
            rintro e v25 ⟨m25, O25, rfl, s25, kp25⟩
            replace iA := kp25 _ mA _ iA
            replace iB := kp25 _ mB _ iB
            replace iC := kp25 _ mC _ iC
            clear s24 kp25 ir1 ir2 ir3 ir4 ir5 ir6
            go_wp2_with fail
            refine hK.out _ _ ?_ (fun hNew => ?_)
            · exact ⟨s25.cd, s25.cs⟩
            clear hK K
            replace hHeld := hNew
            clear hNew
            try simp only [Act.put, List.setIfInBounds_toArray, List.set_cons_zero, List.set_cons_succ]
            as_aux_lemma =>
              refine wpAnyH_take (i := 84) (oi := ⟨_, _, _, _, _, _⟩) (v := ?_) rfl (by as_aux_lemma => kernel_rfl) (by as_aux_lemma => kernel_rfl) (by as_aux_lemma => kernel_rfl) (fun _ _ _ h => h) (Or.inl ⟨by rfl, ?_⟩) (by assumption) ?_
              rotate_left
              · (intro w hSw; (try dsimp only at hSw); first | (go_simp; done) | (go_simp; with_reducible rfl))
              try simp only [Act.put, List.setIfInBounds_toArray, List.set_cons_zero, List.set_cons_succ]
              refine wpAnyH_take (i := 85) (oi := ⟨_, _, _, _, _, _⟩) (v := ?_) rfl (by as_aux_lemma => kernel_rfl) (by as_aux_lemma => kernel_rfl) (by as_aux_lemma => kernel_rfl) (fun _ _ _ h => h) (Or.inl ⟨by rfl, ?_⟩) (by assumption) ?_
              rotate_left
              · (intro w hSw; (try dsimp only at hSw); first | (go_simp; done) | (go_simp; with_reducible rfl))
              try simp only [Act.put, List.setIfInBounds_toArray, List.set_cons_zero, List.set_cons_succ]
              refine wpAnyH_take (i := 86) (oi := ⟨_, _, _, _, _, _⟩) (v := ?_) rfl (by as_aux_lemma => kernel_rfl) (by as_aux_lemma => kernel_rfl) (by as_aux_lemma => kernel_rfl) (fun _ _ _ h => h) (Or.inl ⟨by rfl, ?_⟩) (by assumption) ?_
              rotate_left
              · (intro w hSw; (try dsimp only at hSw); first | (go_simp; done) | (go_simp; with_reducible rfl))
              try simp only [Act.put, List.setIfInBounds_toArray, List.set_cons_zero, List.set_cons_succ]
              refine wpAnyH_take (i := 87) (oi := ⟨_, _, _, _, _, _⟩) (v := ?_) rfl (by as_aux_lemma => kernel_rfl) (by as_aux_lemma => kernel_rfl) (by as_aux_lemma => kernel_rfl) (fun _ _ _ h => h) (Or.inl ⟨by rfl, ?_⟩) (by assumption) ?_
              rotate_left
              · (intro w hSw; (try dsimp only at hSw); first | (go_simp; done) | (go_simp; with_reducible rfl))
              try simp only [Act.put, List.setIfInBounds_toArray, List.set_cons_zero, List.set_cons_succ]
              refine wpAnyH_take (i := 88) (oi := ⟨_, _, _, _, _, _⟩) (v := ?_) rfl (by as_aux_lemma => kernel_rfl) (by as_aux_lemma => kernel_rfl) (by as_aux_lemma => kernel_rfl) (fun _ _ _ h => h) (Or.inl ⟨by rfl, ?_⟩) (by assumption) ?_
              rotate_left
              · (intro w hSw; (try dsimp only at hSw); first | (go_simp; done) | (go_simp; with_reducible rfl))
              try simp only [Act.put, List.setIfInBounds_toArray, List.set_cons_zero, List.set_cons_succ]
              refine wpAnyH_take (i := 89) (oi := ⟨_, _, _, _, _, _⟩) (v := ?_) rfl (by as_aux_lemma => kernel_rfl) (by as_aux_lemma => kernel_rfl) (by as_aux_lemma => kernel_rfl) (fun _ _ _ h => h) (Or.inl ⟨by rfl, ?_⟩) (by assumption) ?_
              rotate_left
              · (intro w hSw; (try dsimp only at hSw); first | (go_simp; done) | (go_simp; with_reducible rfl))
              try simp only [Act.put, List.setIfInBounds_toArray, List.set_cons_zero, List.set_cons_succ]
              refine wpAnyH_take (i := 90) (oi := ⟨_, _, _, _, _, _⟩) (v := ?_) rfl (by as_aux_lemma => kernel_rfl) (by as_aux_lemma => kernel_rfl) (by as_aux_lemma => kernel_rfl) (fun _ _ _ h => h) (Or.inl ⟨by rfl, ?_⟩) (by assumption) ?_
              rotate_left
              · (intro w hSw; (try dsimp only at hSw); first | (go_simp; done) | (go_simp; with_reducible rfl))
              try simp only [Act.put, List.setIfInBounds_toArray, List.set_cons_zero, List.set_cons_succ]
              refine wpAnyH_ready (rs := [91]) (by as_aux_lemma => kernel_rfl) (by simp) ?_
              refine AllReadyH.cons (o := ⟨_, _, _, _, _, _⟩) rfl (fun K hK => ?_) AllReadyH.nil
              go_simp
              go_at_call 14
              (with_reducible refine (not_c s25 hv6 (by omega) ha iA).mono ?_)
              rintro e v26 ⟨r1, m26, O26, rfl, s26, x26, ir1⟩
              replace iA := iA.ext s25.st.good.ranked x26
              replace iB := iB.ext s25.st.good.ranked x26
              replace iC := iC.ext s25.st.good.ranked x26
              clear s25 x26
              go_wp2_with fail
              refine hK.out _ _ ?_ (fun hNew => ?_)
              · exact ⟨s26.cd, s26.cs⟩
              clear hK K
              replace hHeld := hNew
              clear hNew
              try simp only [Act.put, List.setIfInBounds_toArray, List.set_cons_zero, List.set_cons_succ]
              refine wpAnyH_ready (rs := [92]) (by as_aux_lemma => kernel_rfl) (by simp) ?_
              refine AllReadyH.cons (o := ⟨_, _, _, _, _, _⟩) rfl (fun K hK => ?_) AllReadyH.nil
              go_simp
              go_at_call 10
              (with_reducible refine (and_c s26 hv6 (by omega) ha r1 iA ir1).mono ?_)
              rintro e v27 ⟨r2, m27, O27, rfl, s27, x27, ir2⟩
              replace iA := iA.ext s26.st.good.ranked x27
              replace iB := iB.ext s26.st.good.ranked x27
              replace iC := iC.ext s26.st.good.ranked x27
              replace ir1 := ir1.ext s26.st.good.ranked x27
              clear s26 x27
              go_wp2_with fail
              refine hK.out _ _ ?_ (fun hNew => ?_)
              · exact ⟨s27.cd, s27.cs⟩
              clear hK K
              replace hHeld := hNew
              clear hNew
              try simp only [Act.put, List.setIfInBounds_toArray, List.set_cons_zero, List.set_cons_succ]
              refine wpAnyH_ready (rs := [93]) (by as_aux_lemma => kernel_rfl) (by simp) ?_
              refine AllReadyH.cons (o := ⟨_, _, _, _, _, _⟩) rfl (fun K hK => ?_) AllReadyH.nil
              go_simp
              go_at_call 16
              have eq28 : r2 = 0 := ir2.same s27.st.good ⟨has_end0 _, fun f => sem_false f⟩ (EQ5.out)
              subst eq28
              (with_reducible refine (then_c s27 (by omega) h27 0).mono ?_)
              rintro e v28 ⟨m28, O28, rfl, s28, kp28⟩
              replace iA := kp28 _ mA _ iA
              replace iB := kp28 _ mB _ iB
              replace iC := kp28 _ mC _ iC
              clear s27 kp28 ir1 ir2
              go_wp2_with fail
              refine hK.out _ _ ?_ (fun hNew => ?_)
              · exact ⟨s28.cd, s28.cs⟩
              clear hK K
              replace hHeld := hNew
              clear hNew
              try simp only [Act.put, List.setIfInBounds_toArray, List.set_cons_zero, List.set_cons_succ]
              as_aux_lemma =>
                refine wpAnyH_take (i := 94) (oi := ⟨_, _, _, _, _, _⟩) (v := ?_) rfl (by as_aux_lemma => kernel_rfl) (by as_aux_lemma => kernel_rfl) (by as_aux_lemma => kernel_rfl) (fun _ _ _ h => h) (Or.inl ⟨by rfl, ?_⟩) (by assumption) ?_
                rotate_left
                · (intro w hSw; (try dsimp only at hSw); first | (go_simp; done) | (go_simp; with_reducible rfl))
                try simp only [Act.put, List.setIfInBounds_toArray, List.set_cons_zero, List.set_cons_succ]
                refine wpAnyH_take (i := 95) (oi := ⟨_, _, _, _, _, _⟩) (v := ?_) rfl (by as_aux_lemma => kernel_rfl) (by as_aux_lemma => kernel_rfl) (by as_aux_lemma => kernel_rfl) (fun _ _ _ h => h) (Or.inl ⟨by rfl, ?_⟩) (by assumption) ?_
                rotate_left
                · (intro w hSw; (try dsimp only at hSw); first | (go_simp; done) | (go_simp; with_reducible rfl))
                try simp only [Act.put, List.setIfInBounds_toArray, List.set_cons_zero, List.set_cons_succ]
                refine wpAnyH_take (i := 96) (oi := ⟨_, _, _, _, _, _⟩) (v := ?_) rfl (by as_aux_lemma => kernel_rfl) (by as_aux_lemma => kernel_rfl) (by as_aux_lemma => kernel_rfl) (fun _ _ _ h => h) (Or.inl ⟨by rfl, ?_⟩) (by assumption) ?_
                rotate_left
                · (intro w hSw; (try dsimp only at hSw); first | (go_simp; done) | (go_simp; with_reducible rfl))
                try simp only [Act.put, List.setIfInBounds_toArray, List.set_cons_zero, List.set_cons_succ]
                refine wpAnyH_take (i := 97) (oi := ⟨_, _, _, _, _, _⟩) (v := ?_) rfl (by as_aux_lemma => kernel_rfl) (by as_aux_lemma => kernel_rfl) (by as_aux_lemma => kernel_rfl) (fun _ _ _ h => h) (Or.inl ⟨by rfl, ?_⟩) (by assumption) ?_
                rotate_left
                · (intro w hSw; (try dsimp only at hSw); first | (go_simp; done) | (go_simp; with_reducible rfl))
                try simp only [Act.put, List.setIfInBounds_toArray, List.set_cons_zero, List.set_cons_succ]
                refine wpAnyH_take (i := 98) (oi := ⟨_, _, _, _, _, _⟩) (v := ?_) rfl (by as_aux_lemma => kernel_rfl) (by as_aux_lemma => kernel_rfl) (by as_aux_lemma => kernel_rfl) (fun _ _ _ h => h) (Or.inl ⟨by rfl, ?_⟩) (by assumption) ?_
                rotate_left
                · (intro w hSw; (try dsimp only at hSw); first | (go_simp; done) | (go_simp; with_reducible rfl))
                try simp only [Act.put, List.setIfInBounds_toArray, List.set_cons_zero, List.set_cons_succ]
                refine wpAnyH_take (i := 99) (oi := ⟨_, _, _, _, _, _⟩) (v := ?_) rfl (by as_aux_lemma => kernel_rfl) (by as_aux_lemma => kernel_rfl) (by as_aux_lemma => kernel_rfl) (fun _ _ _ h => h) (Or.inl ⟨by rfl, ?_⟩) (by assumption) ?_
                rotate_left
                · (intro w hSw; (try dsimp only at hSw); first | (go_simp; done) | (go_simp; with_reducible rfl))
                try simp only [Act.put, List.setIfInBounds_toArray, List.set_cons_zero, List.set_cons_succ]
                refine wpAnyH_take (i := 100) (oi := ⟨_, _, _, _, _, _⟩) (v := ?_) rfl (by as_aux_lemma => kernel_rfl) (by as_aux_lemma => kernel_rfl) (by as_aux_lemma => kernel_rfl) (fun _ _ _ h => h) (Or.inl ⟨by rfl, ?_⟩) (by assumption) ?_
                rotate_left
                · (intro w hSw; (try dsimp only at hSw); first | (go_simp; done) | (go_simp; with_reducible rfl))
                try simp only [Act.put, List.setIfInBounds_toArray, List.set_cons_zero, List.set_cons_succ]
                refine wpAnyH_take (i := 101) (oi := ⟨_, _, _, _, _, _⟩) (v := ?_) rfl (by as_aux_lemma => kernel_rfl) (by as_aux_lemma => kernel_rfl) (by as_aux_lemma => kernel_rfl) (fun _ _ _ h => h) (Or.inl ⟨by rfl, ?_⟩) (by assumption) ?_
                rotate_left
                · (intro w hSw; (try dsimp only at hSw); first | (go_simp; done) | (go_simp; with_reducible rfl))
                try simp only [Act.put, List.setIfInBounds_toArray, List.set_cons_zero, List.set_cons_succ]
                refine wpAnyH_take (i := 107) (oi := ⟨_, _, _, _, _, _⟩) (v := ?_) rfl (by as_aux_lemma => kernel_rfl) (by as_aux_lemma => kernel_rfl) (by as_aux_lemma => kernel_rfl) (fun _ _ _ h => h) (Or.inl ⟨by rfl, ?_⟩) (by assumption) ?_
                rotate_left
                · (intro w hSw; (try dsimp only at hSw); first | (go_simp; done) | (go_simp; with_reducible rfl))
                try simp only [Act.put, List.setIfInBounds_toArray, List.set_cons_zero, List.set_cons_succ]
                refine wpAnyH_take (i := 108) (oi := ⟨_, _, _, _, _, _⟩) (v := ?_) rfl (by as_aux_lemma => kernel_rfl) (by as_aux_lemma => kernel_rfl) (by as_aux_lemma => kernel_rfl) (fun _ _ _ h => h) (Or.inl ⟨by rfl, ?_⟩) (by assumption) ?_
                rotate_left
                · (intro w hSw; (try dsimp only at hSw); first | (go_simp; done) | (go_simp; with_reducible rfl))
                try simp only [Act.put, List.setIfInBounds_toArray, List.set_cons_zero, List.set_cons_succ]
                refine wpAnyH_take (i := 109) (oi := ⟨_, _, _, _, _, _⟩) (v := ?_) rfl (by as_aux_lemma => kernel_rfl) (by as_aux_lemma => kernel_rfl) (by as_aux_lemma => kernel_rfl) (fun _ _ _ h => h) (Or.inl ⟨by rfl, ?_⟩) (by assumption) ?_
                rotate_left
                · (intro w hSw; (try dsimp only at hSw); first | (go_simp; done) | (go_simp; with_reducible rfl))
                try simp only [Act.put, List.setIfInBounds_toArray, List.set_cons_zero, List.set_cons_succ]
                refine wpAnyH_take (i := 110) (oi := ⟨_, _, _, _, _, _⟩) (v := ?_) rfl (by as_aux_lemma => kernel_rfl) (by as_aux_lemma => kernel_rfl) (by as_aux_lemma => kernel_rfl) (fun _ _ _ h => h) (Or.inl ⟨by rfl, ?_⟩) (by assumption) ?_
                rotate_left
                · (intro w hSw; (try dsimp only at hSw); first | (go_simp; done) | (go_simp; with_reducible rfl))
                try simp only [Act.put, List.setIfInBounds_toArray, List.set_cons_zero, List.set_cons_succ]
                refine wpAnyH_take (i := 111) (oi := ⟨_, _, _, _, _, _⟩) (v := ?_) rfl (by as_aux_lemma => kernel_rfl) (by as_aux_lemma => kernel_rfl) (by as_aux_lemma => kernel_rfl) (fun _ _ _ h => h) (Or.inl ⟨by rfl, ?_⟩) (by assumption) ?_
                rotate_left
                · (intro w hSw; (try dsimp only at hSw); first | (go_simp; done) | (go_simp; with_reducible rfl))
                try simp only [Act.put, List.setIfInBounds_toArray, List.set_cons_zero, List.set_cons_succ]
                refine wpAnyH_ready (rs := [102]) (by as_aux_lemma => kernel_rfl) (by simp) ?_
                refine AllReadyH.cons (o := ⟨_, _, _, _, _, _⟩) rfl (fun K hK => ?_) AllReadyH.nil
                go_simp
                refine hK.out _ _ ?_ (fun hNew => ?_)
                · exact ⟨(s28.new (below_new _ _)).cd, (s28.new (below_new _ _)).cs⟩
                clear hK K
                replace hHeld := hNew
                clear hNew
                try simp only [Act.put, List.setIfInBounds_toArray, List.set_cons_zero, List.set_cons_succ]
                refine wpAnyH_ready (rs := [103]) (by as_aux_lemma => kernel_rfl) (by simp) ?_
                refine AllReadyH.cons (o := ⟨_, _, _, _, _, _⟩) rfl (fun K hK => ?_) AllReadyH.nil
                go_simp
                go_at_call 19
                (with_reducible refine (s28.all hv6 (by omega) iA iB iC).mono ?_)
                rintro e v29 ⟨r1, m29, O29, rfl, s29x, x29, ir1⟩
                replace iA := iA.ext s28.st.good.ranked x29
                replace iB := iB.ext s28.st.good.ranked x29
                replace iC := iC.ext s28.st.good.ranked x29
                clear s28 x29
                go_wp2_with fail
                refine hK.out _ _ ?_ (fun hNew => ?_)
                · exact ⟨s29x.cd, s29x.cs⟩
                clear hK K
                replace hHeld := hNew
                clear hNew
                try simp only [Act.put, List.setIfInBounds_toArray, List.set_cons_zero, List.set_cons_succ]
                refine wpAnyH_take (i := 104) (oi := ⟨_, _, _, _, _, _⟩) (v := ?_) rfl (by as_aux_lemma => kernel_rfl) (by as_aux_lemma => kernel_rfl) (by as_aux_lemma => kernel_rfl) (fun _ _ _ h => h) (Or.inl ⟨by rfl, ?_⟩) (by assumption) ?_
                rotate_left
                · (intro w hSw; (try dsimp only at hSw); first | (go_simp; done) | (go_simp; with_reducible rfl))
                try simp only [Act.put, List.setIfInBounds_toArray, List.set_cons_zero, List.set_cons_succ]
                refine wpAnyH_take (i := 105) (oi := ⟨_, _, _, _, _, _⟩) (v := ?_) rfl (by as_aux_lemma => kernel_rfl) (by as_aux_lemma => kernel_rfl) (by as_aux_lemma => kernel_rfl) (fun _ _ _ h => h) (Or.inl ⟨by rfl, ?_⟩) (by assumption) ?_
                rotate_left
                · (intro w hSw; (try dsimp only at hSw); first | (go_simp; done) | (go_simp; with_reducible rfl))
                try simp only [Act.put, List.setIfInBounds_toArray, List.set_cons_zero, List.set_cons_succ]
                refine wpAnyH_ready (rs := [106]) (by as_aux_lemma => kernel_rfl) (by simp) ?_
                refine AllReadyH.cons (o := ⟨_, _, _, _, _, _⟩) rfl (fun K hK => ?_) AllReadyH.nil
                go_simp
                go_at_call 9
                (with_reducible refine (do_any _ _ s29x.cb s29x.fb).mono ?_)
                rintro e v29x ⟨rfl, rfl⟩
                have s29 := s29x.bad
                clear s29x
                go_wp2_with fail
                refine hK.out _ _ ?_ (fun hNew => ?_)
                · exact ⟨s29.cd, s29.cs⟩
                clear hK K
                replace hHeld := hNew
                clear hNew
                try simp only [Act.put, List.setIfInBounds_toArray, List.set_cons_zero, List.set_cons_succ]
                refine wpAnyH_ready (rs := [112]) (by as_aux_lemma => kernel_rfl) (by simp) ?_
                refine AllReadyH.cons (o := ⟨_, _, _, _, _, _⟩) rfl (fun K hK => ?_) AllReadyH.nil
                go_simp
                go_at_call 10
                (with_reducible refine (and_c s29 hv6 (by omega) hb hc iB iC).mono ?_)
                rintro e v30 ⟨r2, m30, O30, rfl, s30, x30, ir2⟩
                replace iA := iA.ext s29.st.good.ranked x30
                replace iB := iB.ext s29.st.good.ranked x30
                replace iC := iC.ext s29.st.good.ranked x30
                replace ir1 := ir1.ext s29.st.good.ranked x30
                clear s29 x30
                go_wp2_with fail
                refine hK.out _ _ ?_ (fun hNew => ?_)
                · exact ⟨s30.cd, s30.cs⟩
                clear hK K
                replace hHeld := hNew
                clear hNew
                try simp only [Act.put, List.setIfInBounds_toArray, List.set_cons_zero, List.set_cons_succ]
                refine wpAnyH_ready (rs := [113]) (by as_aux_lemma => kernel_rfl) (by simp) ?_
                refine AllReadyH.cons (o := ⟨_, _, _, _, _, _⟩) rfl (fun K hK => ?_) AllReadyH.nil
                go_simp
                go_at_call 10
                (with_reducible refine (and_c s30 hv6 (by omega) ha r2 iA ir2).mono ?_)
                rintro e v31 ⟨r3, m31, O31, rfl, s31, x31, ir3⟩
                replace iA := iA.ext s30.st.good.ranked x31
                replace iB := iB.ext s30.st.good.ranked x31
                replace iC := iC.ext s30.st.good.ranked x31
                replace ir1 := ir1.ext s30.st.good.ranked x31
                replace ir2 := ir2.ext s30.st.good.ranked x31
                clear s30 x31
                go_wp2_with fail
                refine hK.out _ _ ?_ (fun hNew => ?_)
                · exact ⟨s31.cd, s31.cs⟩
                clear hK K
                replace hHeld := hNew
                clear hNew
                try simp only [Act.put, List.setIfInBounds_toArray, List.set_cons_zero, List.set_cons_succ]
                refine wpAnyH_ready (rs := [114]) (by as_aux_lemma => kernel_rfl) (by simp) ?_
                refine AllReadyH.cons (o := ⟨_, _, _, _, _, _⟩) rfl (fun K hK => ?_) AllReadyH.nil
                go_simp
                go_at_call 16
                have eq32 : r1 = r3 := ir1.same s31.st.good ir3 (fun _ => rfl)
                subst eq32
                (with_reducible refine (then_c s31 (by omega) h27 r1).mono ?_)
                rintro e v32 ⟨m32, O32, rfl, s32, kp32⟩
                replace iA := kp32 _ mA _ iA
                replace iB := kp32 _ mB _ iB
                replace iC := kp32 _ mC _ iC
                clear s31 kp32 ir1 ir2 ir3
                go_wp2_with fail
                refine hK.out _ _ ?_ (fun hNew => ?_)
                · exact ⟨s32.cd, s32.cs⟩
                clear hK K
                replace hHeld := hNew
                clear hNew
                try simp only [Act.put, List.setIfInBounds_toArray, List.set_cons_zero, List.set_cons_succ]
                refine wpAnyH_take (i := 115) (oi := ⟨_, _, _, _, _, _⟩) (v := ?_) rfl (by as_aux_lemma => kernel_rfl) (by as_aux_lemma => kernel_rfl) (by as_aux_lemma => kernel_rfl) (fun _ _ _ h => h) (Or.inl ⟨by rfl, ?_⟩) (by assumption) ?_
                rotate_left
                · (intro w hSw; (try dsimp only at hSw); first | (go_simp; done) | (go_simp; with_reducible rfl))
                try simp only [Act.put, List.setIfInBounds_toArray, List.set_cons_zero, List.set_cons_succ]
                refine wpAnyH_take (i := 116) (oi := ⟨_, _, _, _, _, _⟩) (v := ?_) rfl (by as_aux_lemma => kernel_rfl) (by as_aux_lemma => kernel_rfl) (by as_aux_lemma => kernel_rfl) (fun _ _ _ h => h) (Or.inl ⟨by rfl, ?_⟩) (by assumption) ?_
                rotate_left
                · (intro w hSw; (try dsimp only at hSw); first | (go_simp; done) | (go_simp; with_reducible rfl))
                try simp only [Act.put, List.setIfInBounds_toArray, List.set_cons_zero, List.set_cons_succ]
                refine wpAnyH_done (by kernel_rfl) ?_ _
                refine NoPanic.normal ?_
                have HFB := Lib.hid s32.st.below
                clear s32
                go_wp2
                go_ret
                exact ⟨rfl, HFB.out⟩

set_option maxRecDepth 100000 in
set_option maxHeartbeats 2000000 in
theorem boole_no (vars : Int) (xs : List Quad) (va : Value) (i k j : Int) (w : World) (hx : ArgQuads w va xs) (hn : xs.length ≤ 9223372036854775807) (h : vars < 1 ∨ 6 < vars ∨ 25 < xs.length) :
    Calls Try.prog 3 #[.int .i64 vars, va, .int .i64 i, .int .i64 k, .int .i64 j] w fun e w' => e = .returned (.bool true) ∧ Below w.heap.size w w' := by
  obtain ⟨a, c, rfl, -⟩ := hx
  have HS := Lib.hid (space_no vars a xs.length c h hn w)
  clear h
  go_enter Try.func3, Try.ntmps3
  go_wp2_with fail
  refine HS.out.mono ?_
  rintro e w1 ⟨rfl, rfl⟩
  go_wp2
  go_ret
  exact ⟨rfl, (below_new w _).alloc (below_new w _).size _⟩

theorem boole_any (vars : Int) (xs : List Quad) (va : Value) (i k j : Int) (w : World) (hx : ArgQuads w va xs) (hn : xs.length ≤ 9223372036854775807) :
    Calls Try.prog 3 #[.int .i64 vars, va, .int .i64 i, .int .i64 k, .int .i64 j] w fun e w' => e = .returned (.bool true) ∧ Below w.heap.size w w' := by
  by_cases h : vars < 1 ∨ 6 < vars ∨ 25 < xs.length
  · exact boole_no vars xs va i k j w hx hn h
  · obtain ⟨n, rfl⟩ : ∃ n : Nat, vars = (n : Int) := ⟨vars.toNat, by omega⟩
    exact boole_walk n (by omega) (by omega) xs va i k j w hx (by omega)

theorem own : ownKnob Try.prog.godebug = none := by kernel_rfl

set_option maxRecDepth 100000 in
theorem boole_lifted (os : Os) (started : os.Started) (H : Type) (enc : TypeId × Value → H) :
    ReturnsInHanded {} Try.checked os 3 .any (Rows.bddBooleSpec.pre6 enc Try.prog Try.f3 Rows.bddBooleRow.domain false) (Rows.bddBooleSpec.post enc Try.prog Try.f3 false true false false) := by
  refine returnsInHanded_of_change_sized (C := Try.checked) own started (by kernel_rfl) Try.func3
    (ChangeSpec.witness6 (enc := enc) (C := Try.checked) false ⟨#[], #[.int .i64 0, .slice none 0 0, .int .i64 0, .int .i64 0, .int .i64 0], []⟩ 8 (by kernel_rfl) (by kernel_rfl) (by kernel_rfl) (by kernel_rfl)) ?_
  intro W base args ds gs before hval0 hW _ _ _
  have hval : ∀ (j : Nat) t v, Try.f3.params[j]? = some t → args[j]? = some v → Value.okWide Try.prog W .any base t v := hval0
  have hW' := hW
  obtain ⟨p, q, hA0, hV, rfl, _, _⟩ := hW
  have hA : DataW.TrodAll enc Try.prog W 0 (fun _ => true) true Try.f3.params.toList args.toList ds p := hA0
  rw [Try.params3] at hA hval
  obtain ⟨v0, vs0, d0, ds0, p0, q0, hargs, rfl, rfl, h0, r0⟩ := trodAll_cons hA
  obtain ⟨v1, vs1, d1, ds1, p1, q1, rfl, rfl, rfl, h1, r1⟩ := trodAll_cons r0
  obtain ⟨v2, vs2, d2, ds2, p2, q2, rfl, rfl, rfl, h2, r2⟩ := trodAll_cons r1
  obtain ⟨v3, vs3, d3, ds3, p3, q3, rfl, rfl, rfl, h3, r3⟩ := trodAll_cons r2
  obtain ⟨v4, vs4, d4, ds4, p4, q4, rfl, rfl, rfl, h4, r4⟩ := trodAll_cons r3
  obtain ⟨rfl, rfl, rfl⟩ := trodAll_nil r4
  obtain rfl : args = #[v0, v1, v2, v3, v4] := by cases args; simp_all
  obtain ⟨rfl, rfl⟩ := trodVars_none hV
  obtain ⟨n0, rfl, rfl, rfl, wn0⟩ := open_int Try.underlying3 (hval 0 3 v0 rfl rfl) h0
  obtain ⟨a1, l1, c1, rfl⟩ := okWide_slice Try.underlying22 (hval 1 22 v1 rfl rfl)
  obtain ⟨n2, rfl, rfl, rfl, wn2⟩ := open_int Try.underlying3 (hval 2 3 v2 rfl rfl) h2
  obtain ⟨n3, rfl, rfl, rfl, wn3⟩ := open_int Try.underlying3 (hval 3 3 v3 rfl rfl) h3
  obtain ⟨n4, rfl, rfl, rfl, wn4⟩ := open_int Try.underlying3 (hval 4 3 v4 rfl rfl) h4
  clear hA0 hval0
  have hlt : ∀ x ∈ [] ++ (p1 ++ ([] ++ ([] ++ ([] ++ [])))) ++ [], x.block < W.heap.size := fun x hx => by simpa using hW'.lt x hx
  obtain ⟨xs, g1, b1⟩ := argQuads h1
  refine (boole_any n0 xs _ n2 n3 n4 W g1 b1).mono fun e W' ⟨he, hg⟩ => ?_
  subst he
  have t1 := Below.trod laidOut (by kernel_rfl) (of_decide_eq_true (by kernel_rfl)) h1 hg (fun x hx => hlt x (by simp [hx]))
  exact ⟨_, rfl, _, _, _, [], _, [], hW', trodAll_mk1 (shut_bool Try.underlying4 _), trodAll_cons_mk (shut_int Try.underlying3 wn0) (trodAll_cons_mk t1 (trodAll_cons_mk (shut_int Try.underlying3 wn2) (trodAll_cons_mk (shut_int Try.underlying3 wn3) (trodAll_cons_mk (shut_int Try.underlying3 wn4) trodAll_mk0)))), rfl, hg.frame _, fun h => by cases h⟩

theorem bddBoole_holds : Rows.BddBooleSaid :=
  OpenClaim.holds_of_wide 3 Try.f3 rfl rfl rfl rfl rfl rfl rfl ⟨rfl, rfl, rfl, rfl, rfl⟩ rfl rfl rfl rfl rfl (by kernel_rfl) Try.func3 (by kernel_rfl)
    (of_decide_eq_true (by kernel_rfl)) (by unfold Func.isWrapper; first | (rw [if_pos (by decide +kernel)]; kernel_rfl) | (rw [if_neg (by decide +kernel)]; exact ⟨rfl, rfl⟩))
    (fun os started H enc _ => boole_lifted os started H enc)
end Go.Proofs.Ytacgoopgifoojab
