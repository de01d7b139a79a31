/- For every number of things, every list of steps and every three of the families that they make: what both have is one less what the other leaves; and so on: all by handles. No condition. -/
import Derived.Test.YtbklgjmkdhinpaaRows
import Derived.Test.YtbklgjmkdhinpaaChecked
import Derived.Test.YtbklgjmkdhinpaaFmLawS
import Derived.ProofKit
import Derived.SizedLaws
import Derived.OpenShut
import Derived.Laws.NewBlocks
set_option maxHeartbeats 8000000
set_option maxRecDepth 100000
namespace Go.Proofs.Ytbklgjmkdhinpaa.Fm
open Go.ChangeShapes Go.WideShapes Go.ChangeAt Go.RowKit Go.Maps Go.Proofs.Ytbklgjmkdhinpaa.Bd
theorem lawE1 (p q _r : Nat -> Prop) (y : Nat) : opP .and p q y ↔ opP .less p (opP .less p q) y := by simp only [opP]; by_cases p y <;> by_cases q y <;> simp [*]
theorem lawE2 (p q _r : Nat -> Prop) (y : Nat) : opP .or (opP .less p q) (opP .and p q) y ↔ p y := by simp only [opP]; by_cases p y <;> by_cases q y <;> simp [*]
theorem lawE3 (p q _r : Nat -> Prop) (y : Nat) : opP .or p q y ↔ opP .or q p y := Or.comm
theorem lawE4 (p q r : Nat -> Prop) (y : Nat) : opP .and p (opP .or q r) y ↔ opP .or (opP .and p q) (opP .and p r) y := and_or_left
theorem lawE5 (p q _r : Nat -> Prop) (y : Nat) : opP .join p q y ↔ opP .join q p y := ⟨fun ⟨u, v, h1, h2, h3⟩ => ⟨v, u, h2, h1, by rw [h3, Nat.or_comm]⟩, fun ⟨u, v, h1, h2, h3⟩ => ⟨v, u, h2, h1, by rw [h3, Nat.or_comm]⟩⟩
theorem lawE6 (p q r : Nat -> Prop) (y : Nat) : opP .join (opP .join p q) r y ↔ opP .join p (opP .join q r) y := ⟨fun ⟨u, v, ⟨a, b, h1, h2, h3⟩, h4, h5⟩ => ⟨a, b ||| v, h1, ⟨b, v, h2, h4, rfl⟩, by rw [h5, h3, Nat.or_assoc]⟩, fun ⟨u, v, h1, ⟨a, b, h2, h3, h4⟩, h5⟩ => ⟨u ||| a, b, ⟨u, a, h1, h2, rfl⟩, h3, by rw [h5, h4, Nat.or_assoc]⟩⟩
theorem lawE7 (p q r : Nat -> Prop) (y : Nat) : opP .join p (opP .or q r) y ↔ opP .or (opP .join p q) (opP .join p r) y := ⟨fun ⟨u, v, h1, h2, h3⟩ => h2.elim (fun h => .inl ⟨u, v, h1, h, h3⟩) (fun h => .inr ⟨u, v, h1, h, h3⟩), fun h => h.elim (fun ⟨u, v, h1, h2, h3⟩ => ⟨u, v, h1, .inl h2, h3⟩) (fun ⟨u, v, h1, h2, h3⟩ => ⟨u, v, h1, .inr h2, h3⟩)⟩
theorem lawE8 (p _q _r : Nat -> Prop) (y : Nat) : opP .join p (fun z => z = 0) y ↔ p y := join_one p y
theorem at_is {vars : Nat} {ns : List Nd} {al : List Int} {T : List Fam} (h : Sems vars ns al T) (hne : 0 < al.length) (x : Int) : alAt al x ∈ al /\ ∃ g, IsF ns (alAt al x) g := by
 have hl := pickV_lt x hne
 have e1 : alAt al x = al[pickV x al.length] := by unfold alAt; simp [List.getD_eq_getElem?_getD, List.getElem?_eq_getElem hl]
 obtain ⟨h1, h2⟩ := h.at hne x
 exact ⟨by rw [e1]; exact List.getElem_mem hl, _, h1, h2⟩
theorem laws_walk (vars : Nat) (hv6 : vars <= 6) (xs : List Quad) (va : Value) (i k j : Int) (w : World) (hx : ArgQuads w va xs) (hxl : xs.length <= 20) :
  Calls Try.prog 5 #[.int .i64 (vars : Int), va, .int .i64 i, .int .i64 k, .int .i64 j] w fun e w' => e = .returned (.bool true) /\ Below w.heap.size w w' := by
 have HSP := Lib.hid (store_yes vars hv6 xs va w hx hxl)
 unfold StoreOut at HSP
 obtain ⟨a0, c0, rfl, -⟩ := hx
 go_enter Try.func5, Try.ntmps5
 go_wp2_with fail
 refine HSP.out.mono ?_
 rintro e w1 ⟨s, b, O, ns, al, a, c, rfl, hS, hsem, hrow, hap, hO, hb1, hcnt⟩
 have hal : al.length = 2 + xs.length := by
  have := hsem.len
  rw [famT_len] at this
  simpa using this
 have hne : 0 < al.length := by omega
 have h22 : al.length <= 22 := by omega
 have hlen := hS.len
 obtain ⟨ga, rfl, hIA, -⟩ := ints_of_row hrow hne (fun x hx => has_i64 (hsem.has x hx) (by omega))
 have hapg := hap ga rfl
 have hw1 := hb1.size
 obtain ⟨mA, p, iA⟩ := at_is hsem hne i
 obtain ⟨mB, q, iB⟩ := at_is hsem hne k
 obtain ⟨mC, r, iC⟩ := at_is hsem hne j
 have HH := Lib.hid hsem.has
 have P1 : Hid (∀ W, Calls Try.prog 16 #[.int .i64 i, .int .i64 (al.length : Int)] W fun e w' => e = .returned (.int .i64 (pickV i al.length : Int)) /\ W = w') := fun W => pick_any i al.length hne (by omega) W
 have P2 : Hid (∀ W, Calls Try.prog 16 #[.int .i64 k, .int .i64 (al.length : Int)] W fun e w' => e = .returned (.int .i64 (pickV k al.length : Int)) /\ W = w') := fun W => pick_any k al.length hne (by omega) W
 have P3 : Hid (∀ W, Calls Try.prog 16 #[.int .i64 j, .int .i64 (al.length : Int)] W fun e w' => e = .returned (.int .i64 (pickV j al.length : Int)) /\ W = w') := fun W => pick_any j al.length hne (by omega) W
 have l1 := pickV_lt i hne
 have l2 := pickV_lt k hne
 have l3 := pickV_lt j hne
 have hbx : Below w1.heap.size w1 ((w1.alloc (.cells #[.pointer (some ⟨s, 0, none⟩)] 23)).alloc (.cells #[.slice (some ⟨ga, 0, none⟩) al.length c] 24)) := (below_new w1 _).alloc (below_new w1 _).size _
 have HT := Lib.hid (ksets_any ((w1.alloc (.cells #[.pointer (some ⟨s, 0, none⟩)] 23)).alloc (.cells #[.slice (some ⟨ga, 0, none⟩) al.length c] 24)))
 have e1 : (w1.alloc (.cells #[.pointer (some ⟨s, 0, none⟩)] 23)).heap.size = w1.heap.size + 1 := by simp
 have e2 : ((w1.alloc (.cells #[.pointer (some ⟨s, 0, none⟩)] 23)).alloc (.cells #[.slice (some ⟨ga, 0, none⟩) al.length c] 24)).heap.size = w1.heap.size + 1 + 1 := by rw [World.size_alloc, e1]
 have x1 : ((w1.alloc (.cells #[.pointer (some ⟨s, 0, none⟩)] 23)).alloc (.cells #[.slice (some ⟨ga, 0, none⟩) al.length c] 24)).cell? ⟨w1.heap.size, 0, none⟩ = some (.pointer (some ⟨s, 0, none⟩)) := by
  rw [(below_new (w1.alloc (.cells #[.pointer (some ⟨s, 0, none⟩)] 23)) _).cell (p := ⟨w1.heap.size, 0, none⟩) (by show w1.heap.size < _; omega)]; simp
 have x2 : ((w1.alloc (.cells #[.pointer (some ⟨s, 0, none⟩)] 23)).alloc (.cells #[.slice (some ⟨ga, 0, none⟩) al.length c] 24)).cell? ⟨w1.heap.size + 1, 0, none⟩ = some (.slice (some ⟨ga, 0, none⟩) al.length c) := by
  rw [<- e1]; simp
 have HS := Lib.hid hS
 have HIA := Lib.hid hIA
 have HO := Lib.hid hO
 have HB1 := Lib.hid hb1
 have HBX := Lib.hid hbx
 have E2 := Lib.hid e2
 clear HSP hS hrow hap hO hb1 hIA hbx e1 e2 hsem hal hlen
 go_wp2_with fail
 refine HT.out.mono ?_
 rintro e w2 ⟨rfl, hb2⟩
 generalize ((w1.alloc (.cells #[.pointer (some ⟨s, 0, none⟩)] 23)).alloc (.cells #[.slice (some ⟨ga, 0, none⟩) al.length c] 24)) = WX at *
 have hwx : WX.heap.size = w1.heap.size + 1 + 1 := E2.out
 have y1 := (hb2.cell (p := ⟨w1.heap.size, 0, none⟩) (by show w1.heap.size < _; omega)).trans x1
 have y2 := (hb2.cell (p := ⟨w1.heap.size + 1, 0, none⟩) (by show w1.heap.size + 1 < _; omega)).trans x2
 have hb3 := HBX.out.trans (hb2.mono HBX.out.size)
 have hs2 := hb2.size
 have HB3 := Lib.hid hb3
 have g1 : w2.cell? ⟨ga, pickV i al.length, none⟩ = some (.int .i64 (alAt al i)) := by
  rw [hb3.cell (p := ⟨ga, pickV i al.length, none⟩) HIA.out.lt, HIA.out.cells _ l1]; unfold alAt; simp [List.getD_eq_getElem?_getD, List.getElem?_eq_getElem l1]
 have g2 : w2.cell? ⟨ga, pickV k al.length, none⟩ = some (.int .i64 (alAt al k)) := by
  rw [hb3.cell (p := ⟨ga, pickV k al.length, none⟩) HIA.out.lt, HIA.out.cells _ l2]; unfold alAt; simp [List.getD_eq_getElem?_getD, List.getElem?_eq_getElem l2]
 have g3 : w2.cell? ⟨ga, pickV j al.length, none⟩ = some (.int .i64 (alAt al j)) := by
  rw [hb3.cell (p := ⟨ga, pickV j al.length, none⟩) HIA.out.lt, HIA.out.cells _ l3]; unfold alAt; simp [List.getD_eq_getElem?_getD, List.getElem?_eq_getElem l3]
 generalize pickV i al.length = p1 at *
 generalize pickV k al.length = p2 at *
 generalize pickV j al.length = p3 at *
 generalize alAt al i = ha at *
 generalize alAt al k = hb at *
 generalize alAt al j = hc at *
 have j1 : (p1 : Int) < (al.length : Int) := by omega
 have j2 : (p2 : Int) < (al.length : Int) := by omega
 have j3 : (p3 : Int) < (al.length : Int) := by omega
 have HWX := Lib.hid hwx
 have KA := Lib.hid iA
 have KB := Lib.hid iB
 have KC := Lib.hid iC
 clear HT x1 x2 hb2 hb3 HBX E2 hwx l1 l2 l3 iA iB iC
 go_wp2_with fail
 have SA : w2.drew.cell? ⟨w1.heap.size + 1, 0, none⟩ = some (.slice (some ⟨ga, 0, none⟩) al.length c) /\ w2.drew.cell? ⟨ga, p1, none⟩ = some (.int .i64 ha) /\ w2.drew.cell? ⟨ga, p2, none⟩ = some (.int .i64 hb) /\ w2.drew.cell? ⟨ga, p3, none⟩ = some (.int .i64 hc) := ⟨y2, g1, g2, g3⟩
 go_region_held3 (fun X => X.cell? ⟨w1.heap.size + 1, 0, none⟩ = some (.slice (some ⟨ga, 0, none⟩) al.length c) /\ X.cell? ⟨ga, p1, none⟩ = some (.int .i64 ha) /\ X.cell? ⟨ga, p2, none⟩ = some (.int .i64 hb) /\ X.cell? ⟨ga, p3, none⟩ = some (.int .i64 hc)) (exact SA)
  (first
   | (go_at_call 16; with_reducible refine (P1.out _).mono ?_; rintro e wz ⟨rfl, rfl⟩)
   | (go_at_call 16; with_reducible refine (P2.out _).mono ?_; rintro e wz ⟨rfl, rfl⟩)
   | (go_at_call 16; with_reducible refine (P3.out _).mono ?_; rintro e wz ⟨rfl, rfl⟩))
 have HB4 : Hid (Below w1.heap.size w1 w2.drew) := HB3.out.drew
 have y1d : w2.drew.cell? ⟨w1.heap.size, 0, none⟩ = some (.pointer (some ⟨s, 0, none⟩)) := y1
 have hsd : WX.heap.size <= w2.drew.heap.size := hs2
 have y2d := SA.1
 clear SA y1 y2 g1 g2 g3 P1 P2 P3 HB3 hs2 j1 j2 j3
 generalize w2.drew = W4 at *
 have f1 : (W4.alloc (.cells #[.bool false] 4)).heap.size = W4.heap.size + 1 := by simp
 have hst : (store ⟨W4.heap.size + 1, 0, none⟩ (Value.func (Fn.func 17) #[] #[Value.pointer (some ⟨W4.heap.size, 0, none⟩)])).run Try.prog ((W4.alloc (.cells #[.bool false] 4)).alloc (.cells #[.nilFunc] 45)) = .ok () ((W4.alloc (.cells #[.bool false] 4)).alloc (.cells #[.func (.func 17) #[] #[.pointer (some ⟨W4.heap.size, 0, none⟩)]] 45)) := by
  rw [run_store _ _ _ _ _ (by rfl)]
  rw [<- f1]
  simp
  exact (World.setCell_alloc_at _ _ _ _ _ f1.symm).trans (by simp)
 have bb : Below W4.heap.size W4 ((W4.alloc (.cells #[.bool false] 4)).alloc (.cells #[.func (.func 17) #[] #[.pointer (some ⟨W4.heap.size, 0, none⟩)]] 45)) := (below_new W4 _).alloc (below_new W4 _).size _
 have c1 : ((W4.alloc (.cells #[.bool false] 4)).alloc (.cells #[.func (.func 17) #[] #[.pointer (some ⟨W4.heap.size, 0, none⟩)]] 45)).cell? ⟨W4.heap.size, 0, none⟩ = some (.bool false) := by
  rw [(below_new (W4.alloc (.cells #[.bool false] 4)) _).cell (p := ⟨W4.heap.size, 0, none⟩) (by show W4.heap.size < _; omega)]; simp
 have c2 : ((W4.alloc (.cells #[.bool false] 4)).alloc (.cells #[.func (.func 17) #[] #[.pointer (some ⟨W4.heap.size, 0, none⟩)]] 45)).frozen? ⟨W4.heap.size, 0, none⟩ = false := by
  rw [(below_new (W4.alloc (.cells #[.bool false] 4)) _).frozen (p := ⟨W4.heap.size, 0, none⟩) (by show W4.heap.size < _; omega)]; simp
 have c3 : ((W4.alloc (.cells #[.bool false] 4)).alloc (.cells #[.func (.func 17) #[] #[.pointer (some ⟨W4.heap.size, 0, none⟩)]] 45)).cell? ⟨W4.heap.size + 1, 0, none⟩ = some (.func (.func 17) #[] #[.pointer (some ⟨W4.heap.size, 0, none⟩)]) := by
  rw [<- f1]; simp
 have hbs : LS w ((W4.alloc (.cells #[.bool false] 4)).alloc (.cells #[.func (.func 17) #[] #[.pointer (some ⟨W4.heap.size, 0, none⟩)]] 45)) s b O vars ns 1800 w1.heap.size (w1.heap.size + 1) W4.heap.size (W4.heap.size + 1) al ga c := by
  have hall := HB4.out.trans (bb.mono HB4.out.size)
  have hwx := HWX.out
  have h4 := HB4.out.size
  have hoo : ∀ m, w1.heap.size <= m -> ¬ O m := fun m hm => HS.out.space.old hm
  have gal := HIA.out.lt
  have ssl := HS.out.space.slt
  refine ⟨HS.out.new hall, HB1.out.trans (hall.mono hw1), HO.out, hcnt, (bb.cell (p := ⟨w1.heap.size, 0, none⟩) (by show w1.heap.size < _; omega)).trans y1d, (bb.cell (p := ⟨w1.heap.size + 1, 0, none⟩) (by show w1.heap.size + 1 < _; omega)).trans y2d, c1, c2, c3, intsKept HIA.out hall, HH.out, hoo _ (Nat.le_refl _), hoo _ (by omega), hoo _ (by omega), hoo _ (by omega), hapg.1, by omega, by omega, by omega, by omega, by omega, by omega⟩
 have HBS := Lib.hid hbs
 clear bb f1 c1 c2 c3 hbs y1d y2d HB4 HS HH HIA HO HB1 HWX
 go_wp2_with fail
 clear hst
 generalize ((W4.alloc (.cells #[.bool false] 4)).alloc (.cells #[.func (.func 17) #[] #[.pointer (some ⟨W4.heap.size, 0, none⟩)]] 45)) = V0 at *
 generalize w1.heap.size + 1 = ph at *
 generalize W4.heap.size + 1 = pd at *
 generalize w1.heap.size = ps at *
 generalize W4.heap.size = pb at *
 have s0 := HBS.out
 have iA := KA.out
 have iB := KB.out
 have iC := KC.out
 clear HBS KA KB KC
 as_aux_lemma =>
  refine (and_c s0 hv6 (by omega) ha hb iA iB).mono ?_
  rintro e v1 ⟨r1, m1, O1, rfl, s1, x1, ir1⟩
  replace iA := iA.ext s0.fam.good.ranked x1
  replace iB := iB.ext s0.fam.good.ranked x1
  replace iC := iC.ext s0.fam.good.ranked x1
  clear s0 x1
  go_wp2_with fail
  refine (less_c s1 hv6 (by omega) ha hb iA iB).mono ?_
  rintro e v2 ⟨r2, m2, O2, rfl, s2, x2, ir2⟩
  replace iA := iA.ext s1.fam.good.ranked x2
  replace iB := iB.ext s1.fam.good.ranked x2
  replace iC := iC.ext s1.fam.good.ranked x2
  replace ir1 := ir1.ext s1.fam.good.ranked x2
  clear s1 x2
  go_wp2_with fail
  refine (less_c s2 hv6 (by omega) ha r2 iA ir2).mono ?_
  rintro e v3 ⟨r3, m3, O3, rfl, s3, x3, ir3⟩
  replace iA := iA.ext s2.fam.good.ranked x3
  replace iB := iB.ext s2.fam.good.ranked x3
  replace iC := iC.ext s2.fam.good.ranked x3
  replace ir1 := ir1.ext s2.fam.good.ranked x3
  replace ir2 := ir2.ext s2.fam.good.ranked x3
  clear s2 x3
  go_wp2_with fail
  have eq4 : r1 = r3 := ir1.same s3.fam.good ir3 (lawE1 p q r)
  subst eq4
  refine (then_c s3 h22 r1).mono ?_
  rintro e v4 ⟨m4, O4, rfl, s4, kp4⟩
  replace iA := kp4 _ mA _ iA
  replace iB := kp4 _ mB _ iB
  replace iC := kp4 _ mC _ iC
  clear s3 kp4 ir1 ir2 ir3
  go_wp2_with fail
  as_aux_lemma =>
   refine (less_c s4 hv6 (by omega) ha hb iA iB).mono ?_
   rintro e v5 ⟨r4, m5, O5, rfl, s5, x5, ir4⟩
   replace iA := iA.ext s4.fam.good.ranked x5
   replace iB := iB.ext s4.fam.good.ranked x5
   replace iC := iC.ext s4.fam.good.ranked x5
   clear s4 x5
   go_wp2_with fail
   refine (and_c s5 hv6 (by omega) ha hb iA iB).mono ?_
   rintro e v6 ⟨r5, m6, O6, rfl, s6, x6, ir5⟩
   replace iA := iA.ext s5.fam.good.ranked x6
   replace iB := iB.ext s5.fam.good.ranked x6
   replace iC := iC.ext s5.fam.good.ranked x6
   replace ir4 := ir4.ext s5.fam.good.ranked x6
   clear s5 x6
   go_wp2_with fail
   refine (or_c s6 hv6 (by omega) r4 r5 ir4 ir5).mono ?_
   rintro e v7 ⟨r6, m7, O7, rfl, s7, x7, ir6⟩
   replace iA := iA.ext s6.fam.good.ranked x7
   replace iB := iB.ext s6.fam.good.ranked x7
   replace iC := iC.ext s6.fam.good.ranked x7
   replace ir4 := ir4.ext s6.fam.good.ranked x7
   replace ir5 := ir5.ext s6.fam.good.ranked x7
   clear s6 x7
   go_wp2_with fail
   have eq8 : ha = r6 := (ir6.same s7.fam.good iA (lawE2 p q r)).symm
   subst eq8
   refine (then_c s7 h22 ha).mono ?_
   rintro e v8 ⟨m8, O8, rfl, s8, kp8⟩
   replace iA := kp8 _ mA _ iA
   replace iB := kp8 _ mB _ iB
   replace iC := kp8 _ mC _ iC
   clear s7 kp8 ir4 ir5 ir6
   go_wp2_with fail
   as_aux_lemma =>
    refine (or_c s8 hv6 (by omega) ha hb iA iB).mono ?_
    rintro e v9 ⟨r7, m9, O9, rfl, s9, x9, ir7⟩
    replace iA := iA.ext s8.fam.good.ranked x9
    replace iB := iB.ext s8.fam.good.ranked x9
    replace iC := iC.ext s8.fam.good.ranked x9
    clear s8 x9
    go_wp2_with fail
    refine (or_c s9 hv6 (by omega) hb ha iB iA).mono ?_
    rintro e v10 ⟨r8, m10, O10, rfl, s10, x10, ir8⟩
    replace iA := iA.ext s9.fam.good.ranked x10
    replace iB := iB.ext s9.fam.good.ranked x10
    replace iC := iC.ext s9.fam.good.ranked x10
    replace ir7 := ir7.ext s9.fam.good.ranked x10
    clear s9 x10
    go_wp2_with fail
    have eq11 : r7 = r8 := ir7.same s10.fam.good ir8 (lawE3 p q r)
    subst eq11
    refine (then_c s10 h22 r7).mono ?_
    rintro e v11 ⟨m11, O11, rfl, s11, kp11⟩
    replace iA := kp11 _ mA _ iA
    replace iB := kp11 _ mB _ iB
    replace iC := kp11 _ mC _ iC
    clear s10 kp11 ir7 ir8
    go_wp2_with fail
    as_aux_lemma =>
     refine (or_c s11 hv6 (by omega) hb hc iB iC).mono ?_
     rintro e v12 ⟨r9, m12, O12, rfl, s12, x12, ir9⟩
     replace iA := iA.ext s11.fam.good.ranked x12
     replace iB := iB.ext s11.fam.good.ranked x12
     replace iC := iC.ext s11.fam.good.ranked x12
     clear s11 x12
     go_wp2_with fail
     refine (and_c s12 hv6 (by omega) ha r9 iA ir9).mono ?_
     rintro e v13 ⟨r10, m13, O13, rfl, s13, x13, ir10⟩
     replace iA := iA.ext s12.fam.good.ranked x13
     replace iB := iB.ext s12.fam.good.ranked x13
     replace iC := iC.ext s12.fam.good.ranked x13
     replace ir9 := ir9.ext s12.fam.good.ranked x13
     clear s12 x13
     go_wp2_with fail
     refine (and_c s13 hv6 (by omega) ha hb iA iB).mono ?_
     rintro e v14 ⟨r11, m14, O14, rfl, s14, x14, ir11⟩
     replace iA := iA.ext s13.fam.good.ranked x14
     replace iB := iB.ext s13.fam.good.ranked x14
     replace iC := iC.ext s13.fam.good.ranked x14
     replace ir9 := ir9.ext s13.fam.good.ranked x14
     replace ir10 := ir10.ext s13.fam.good.ranked x14
     clear s13 x14
     go_wp2_with fail
     refine (and_c s14 hv6 (by omega) ha hc iA iC).mono ?_
     rintro e v15 ⟨r12, m15, O15, rfl, s15, x15, ir12⟩
     replace iA := iA.ext s14.fam.good.ranked x15
     replace iB := iB.ext s14.fam.good.ranked x15
     replace iC := iC.ext s14.fam.good.ranked x15
     replace ir9 := ir9.ext s14.fam.good.ranked x15
     replace ir10 := ir10.ext s14.fam.good.ranked x15
     replace ir11 := ir11.ext s14.fam.good.ranked x15
     clear s14 x15
     go_wp2_with fail
     refine (or_c s15 hv6 (by omega) r11 r12 ir11 ir12).mono ?_
     rintro e v16 ⟨r13, m16, O16, rfl, s16, x16, ir13⟩
     replace iA := iA.ext s15.fam.good.ranked x16
     replace iB := iB.ext s15.fam.good.ranked x16
     replace iC := iC.ext s15.fam.good.ranked x16
     replace ir9 := ir9.ext s15.fam.good.ranked x16
     replace ir10 := ir10.ext s15.fam.good.ranked x16
     replace ir11 := ir11.ext s15.fam.good.ranked x16
     replace ir12 := ir12.ext s15.fam.good.ranked x16
     clear s15 x16
     go_wp2_with fail
     have eq17 : r10 = r13 := ir10.same s16.fam.good ir13 (lawE4 p q r)
     subst eq17
     refine (then_c s16 h22 r10).mono ?_
     rintro e v17 ⟨m17, O17, rfl, s17, kp17⟩
     replace iA := kp17 _ mA _ iA
     replace iB := kp17 _ mB _ iB
     replace iC := kp17 _ mC _ iC
     clear s16 kp17 ir9 ir10 ir11 ir12 ir13
     go_wp2_with fail
     as_aux_lemma =>
      refine (join_c s17 hv6 (by omega) ha hb iA iB).mono ?_
      rintro e v18 ⟨r14, m18, O18, rfl, s18, x18, ir14⟩
      replace iA := iA.ext s17.fam.good.ranked x18
      replace iB := iB.ext s17.fam.good.ranked x18
      replace iC := iC.ext s17.fam.good.ranked x18
      clear s17 x18
      go_wp2_with fail
      refine (join_c s18 hv6 (by omega) hb ha iB iA).mono ?_
      rintro e v19 ⟨r15, m19, O19, rfl, s19, x19, ir15⟩
      replace iA := iA.ext s18.fam.good.ranked x19
      replace iB := iB.ext s18.fam.good.ranked x19
      replace iC := iC.ext s18.fam.good.ranked x19
      replace ir14 := ir14.ext s18.fam.good.ranked x19
      clear s18 x19
      go_wp2_with fail
      have eq20 : r14 = r15 := ir14.same s19.fam.good ir15 (lawE5 p q r)
      subst eq20
      refine (then_c s19 h22 r14).mono ?_
      rintro e v20 ⟨m20, O20, rfl, s20, kp20⟩
      replace iA := kp20 _ mA _ iA
      replace iB := kp20 _ mB _ iB
      replace iC := kp20 _ mC _ iC
      clear s19 kp20 ir14 ir15
      go_wp2_with fail
      as_aux_lemma =>
       refine (join_c s20 hv6 (by omega) ha hb iA iB).mono ?_
       rintro e v21 ⟨r16, m21, O21, rfl, s21, x21, ir16⟩
       replace iA := iA.ext s20.fam.good.ranked x21
       replace iB := iB.ext s20.fam.good.ranked x21
       replace iC := iC.ext s20.fam.good.ranked x21
       clear s20 x21
       go_wp2_with fail
       refine (join_c s21 hv6 (by omega) r16 hc ir16 iC).mono ?_
       rintro e v22 ⟨r17, m22, O22, rfl, s22, x22, ir17⟩
       replace iA := iA.ext s21.fam.good.ranked x22
       replace iB := iB.ext s21.fam.good.ranked x22
       replace iC := iC.ext s21.fam.good.ranked x22
       replace ir16 := ir16.ext s21.fam.good.ranked x22
       clear s21 x22
       go_wp2_with fail
       refine (join_c s22 hv6 (by omega) hb hc iB iC).mono ?_
       rintro e v23 ⟨r18, m23, O23, rfl, s23, x23, ir18⟩
       replace iA := iA.ext s22.fam.good.ranked x23
       replace iB := iB.ext s22.fam.good.ranked x23
       replace iC := iC.ext s22.fam.good.ranked x23
       replace ir16 := ir16.ext s22.fam.good.ranked x23
       replace ir17 := ir17.ext s22.fam.good.ranked x23
       clear s22 x23
       go_wp2_with fail
       refine (join_c s23 hv6 (by omega) ha r18 iA ir18).mono ?_
       rintro e v24 ⟨r19, m24, O24, rfl, s24, x24, ir19⟩
       replace iA := iA.ext s23.fam.good.ranked x24
       replace iB := iB.ext s23.fam.good.ranked x24
       replace iC := iC.ext s23.fam.good.ranked x24
       replace ir16 := ir16.ext s23.fam.good.ranked x24
       replace ir17 := ir17.ext s23.fam.good.ranked x24
       replace ir18 := ir18.ext s23.fam.good.ranked x24
       clear s23 x24
       go_wp2_with fail
       have eq25 : r17 = r19 := ir17.same s24.fam.good ir19 (lawE6 p q r)
       subst eq25
       refine (then_c s24 h22 r17).mono ?_
       rintro e v25 ⟨m25, O25, rfl, s25, kp25⟩
       replace iA := kp25 _ mA _ iA
       replace iB := kp25 _ mB _ iB
       replace iC := kp25 _ mC _ iC
       clear s24 kp25 ir16 ir17 ir18 ir19
       go_wp2_with fail
       as_aux_lemma =>
        refine (or_c s25 hv6 (by omega) hb hc iB iC).mono ?_
        rintro e v26 ⟨r20, m26, O26, rfl, s26, x26, ir20⟩
        replace iA := iA.ext s25.fam.good.ranked x26
        replace iB := iB.ext s25.fam.good.ranked x26
        replace iC := iC.ext s25.fam.good.ranked x26
        clear s25 x26
        go_wp2_with fail
        refine (join_c s26 hv6 (by omega) ha r20 iA ir20).mono ?_
        rintro e v27 ⟨r21, m27, O27, rfl, s27, x27, ir21⟩
        replace iA := iA.ext s26.fam.good.ranked x27
        replace iB := iB.ext s26.fam.good.ranked x27
        replace iC := iC.ext s26.fam.good.ranked x27
        replace ir20 := ir20.ext s26.fam.good.ranked x27
        clear s26 x27
        go_wp2_with fail
        refine (join_c s27 hv6 (by omega) ha hb iA iB).mono ?_
        rintro e v28 ⟨r22, m28, O28, rfl, s28, x28, ir22⟩
        replace iA := iA.ext s27.fam.good.ranked x28
        replace iB := iB.ext s27.fam.good.ranked x28
        replace iC := iC.ext s27.fam.good.ranked x28
        replace ir20 := ir20.ext s27.fam.good.ranked x28
        replace ir21 := ir21.ext s27.fam.good.ranked x28
        clear s27 x28
        go_wp2_with fail
        refine (join_c s28 hv6 (by omega) ha hc iA iC).mono ?_
        rintro e v29 ⟨r23, m29, O29, rfl, s29, x29, ir23⟩
        replace iA := iA.ext s28.fam.good.ranked x29
        replace iB := iB.ext s28.fam.good.ranked x29
        replace iC := iC.ext s28.fam.good.ranked x29
        replace ir20 := ir20.ext s28.fam.good.ranked x29
        replace ir21 := ir21.ext s28.fam.good.ranked x29
        replace ir22 := ir22.ext s28.fam.good.ranked x29
        clear s28 x29
        go_wp2_with fail
        refine (or_c s29 hv6 (by omega) r22 r23 ir22 ir23).mono ?_
        rintro e v30 ⟨r24, m30, O30, rfl, s30, x30, ir24⟩
        replace iA := iA.ext s29.fam.good.ranked x30
        replace iB := iB.ext s29.fam.good.ranked x30
        replace iC := iC.ext s29.fam.good.ranked x30
        replace ir20 := ir20.ext s29.fam.good.ranked x30
        replace ir21 := ir21.ext s29.fam.good.ranked x30
        replace ir22 := ir22.ext s29.fam.good.ranked x30
        replace ir23 := ir23.ext s29.fam.good.ranked x30
        clear s29 x30
        go_wp2_with fail
        have eq31 : r21 = r24 := ir21.same s30.fam.good ir24 (lawE7 p q r)
        subst eq31
        refine (then_c s30 h22 r21).mono ?_
        rintro e v31 ⟨m31, O31, rfl, s31, kp31⟩
        replace iA := kp31 _ mA _ iA
        replace iB := kp31 _ mB _ iB
        replace iC := kp31 _ mC _ iC
        clear s30 kp31 ir20 ir21 ir22 ir23 ir24
        go_wp2_with fail
        as_aux_lemma =>
         have iOne : IsF m31 1 (fun y => y = 0) := ⟨end_has1 _, fun y => in_one y⟩
         refine (join_c s31 hv6 (by omega) ha 1 iA iOne).mono ?_
         rintro e v32 ⟨r25, m32, O32, rfl, s32, x32, ir25⟩
         replace iA := iA.ext s31.fam.good.ranked x32
         replace iB := iB.ext s31.fam.good.ranked x32
         replace iC := iC.ext s31.fam.good.ranked x32
         clear s31 x32 iOne
         go_wp2_with fail
         have eq33 : ha = r25 := (ir25.same s32.fam.good iA (lawE8 p q r)).symm
         subst eq33
         refine (then_c s32 h22 ha).mono ?_
         rintro e v33 ⟨m33, O33, rfl, s33, kp33⟩
         replace iA := kp33 _ mA _ iA
         replace iB := kp33 _ mB _ iB
         replace iC := kp33 _ mC _ iC
         clear s32 kp33 ir25
         have HFB := Lib.hid s33.below
         clear s33
         go_wp2
         go_ret
         exact ⟨rfl, HFB.out⟩
theorem laws_no (things : Int) (xs : List Quad) (va : Value) (i k j : Int) (w : World) (hx : ArgQuads w va xs) (hn : xs.length <= 9223372036854775807) (h : things < 0 \/ 6 < things \/ 20 < xs.length) :
  Calls Try.prog 5 #[.int .i64 things, va, .int .i64 i, .int .i64 k, .int .i64 j] w fun e w' => e = .returned (.bool true) /\ Below w.heap.size w w' := by
 obtain ⟨a, c, rfl, -⟩ := hx
 have HS := Lib.hid (store_no things a xs.length c h hn w)
 clear h
 go_enter Try.func5, Try.ntmps5
 go_wp2_with fail
 refine HS.out.mono ?_
 rintro e w1 ⟨rfl, rfl⟩
 go_wp2
 go_ret
 exact ⟨rfl, (below_new w _).alloc (below_new w _).size _⟩
theorem laws_any (things : Int) (xs : List Quad) (va : Value) (i k j : Int) (w : World) (hx : ArgQuads w va xs) (hn : xs.length <= 9223372036854775807) :
  Calls Try.prog 5 #[.int .i64 things, va, .int .i64 i, .int .i64 k, .int .i64 j] w fun e w' => e = .returned (.bool true) /\ Below w.heap.size w w' := by
 by_cases h : things < 0 \/ 6 < things \/ 20 < xs.length
 ·exact laws_no things xs va i k j w hx hn h
 ·obtain ⟨n, rfl⟩ : ∃ n : Nat, things = (n : Int) := ⟨things.toNat, by omega⟩
  exact laws_walk n (by omega) xs va i k j w hx (by omega)
end Go.Proofs.Ytbklgjmkdhinpaa.Fm
namespace Go.Proofs.Ytbklgjmkdhinpaa
open Go.ChangeShapes Go.WideShapes Go.ChangeAt Go.RowKit Go.Maps Go.Proofs.Ytbklgjmkdhinpaa.Bd Go.Proofs.Ytbklgjmkdhinpaa.Fm
theorem own : ownKnob Try.prog.godebug = none := by kernel_rfl
theorem laws_lifted (os : Os) (started : os.Started) (H : Type) (enc : TypeId × Value -> H) :
  ReturnsInHanded {} Try.checked os 5 .any (Rows.familyLawsSpec.pre6 enc Try.prog Try.f5 Rows.familyLawsRow.domain false) (Rows.familyLawsSpec.post enc Try.prog Try.f5 false true false false) := by
 refine returnsInHanded_of_change_sized (C := Try.checked) own started (by kernel_rfl) Try.func5
  (ChangeSpec.witness6 (enc := enc) (C := Try.checked) false ⟨#[], #[.int .i64 0, .slice none 0 0, .int .i64 0, .int .i64 0, .int .i64 0], []⟩ 8 (by kernel_rfl) (by kernel_rfl) (by kernel_rfl) (by kernel_rfl)) ?_
 intro W base args ds gs before hval0 hW _ _ _
 have hval : ∀ (j : Nat) t v, Try.f5.params[j]? = some t -> args[j]? = some v -> Value.okWide Try.prog W .any base t v := hval0
 have hW' := hW
 obtain ⟨p, q, hA0, hV, rfl, _, _⟩ := hW
 have hA : DataW.TrodAll enc Try.prog W 0 (fun _ => true) true Try.f5.params.toList args.toList ds p := hA0
 rw [Try.params5] at hA hval
 obtain ⟨v0, vs0, d0, ds0, p0, q0, hargs, rfl, rfl, h0, r0⟩ := trodAll_cons hA
 obtain ⟨v1, vs1, d1, ds1, p1, q1, rfl, rfl, rfl, h1, r1⟩ := trodAll_cons r0
 obtain ⟨v2, vs2, d2, ds2, p2, q2, rfl, rfl, rfl, h2, r2⟩ := trodAll_cons r1
 obtain ⟨v3, vs3, d3, ds3, p3, q3, rfl, rfl, rfl, h3, r3⟩ := trodAll_cons r2
 obtain ⟨v4, vs4, d4, ds4, p4, q4, rfl, rfl, rfl, h4, r4⟩ := trodAll_cons r3
 obtain ⟨rfl, rfl, rfl⟩ := trodAll_nil r4
 obtain rfl : args = #[v0, v1, v2, v3, v4] := by cases args; simp_all
 obtain ⟨rfl, rfl⟩ := trodVars_none hV
 obtain ⟨n0, rfl, rfl, rfl, wn0⟩ := open_int Try.underlying3 (hval 0 3 v0 rfl rfl) h0
 obtain ⟨a1, l1, c1, rfl⟩ := okWide_slice Try.underlying22 (hval 1 22 v1 rfl rfl)
 obtain ⟨n2, rfl, rfl, rfl, wn2⟩ := open_int Try.underlying3 (hval 2 3 v2 rfl rfl) h2
 obtain ⟨n3, rfl, rfl, rfl, wn3⟩ := open_int Try.underlying3 (hval 3 3 v3 rfl rfl) h3
 obtain ⟨n4, rfl, rfl, rfl, wn4⟩ := open_int Try.underlying3 (hval 4 3 v4 rfl rfl) h4
 clear hA0 hval0
 have hlt : ∀ x ∈ [] ++ (p1 ++ ([] ++ ([] ++ ([] ++ [])))) ++ [], x.block < W.heap.size := fun x hx => by simpa using hW'.lt x hx
 obtain ⟨xs, g1, b1⟩ := argQuads h1
 refine (laws_any n0 xs _ n2 n3 n4 W g1 b1).mono fun e W' ⟨he, hg⟩ => ?_
 subst he
 have t1 := Below.trod laidOut (by kernel_rfl) (of_decide_eq_true (by kernel_rfl)) h1 hg (fun x hx => hlt x (by simp [hx]))
 exact ⟨_, rfl, _, _, _, [], _, [], hW', trodAll_mk1 (shut_bool Try.underlying4 _), trodAll_cons_mk (shut_int Try.underlying3 wn0) (trodAll_cons_mk t1 (trodAll_cons_mk (shut_int Try.underlying3 wn2) (trodAll_cons_mk (shut_int Try.underlying3 wn3) (trodAll_cons_mk (shut_int Try.underlying3 wn4) trodAll_mk0)))), rfl, hg.frame _, fun h => by cases h⟩
theorem familyLaws_holds : Rows.FamilyLawsSaid :=
 OpenClaim.holds_of_wide 5 Try.f5 rfl rfl rfl rfl rfl rfl rfl ⟨rfl, rfl, rfl, rfl, rfl⟩ rfl rfl rfl rfl rfl (by kernel_rfl) Try.func5 (by kernel_rfl)
  (of_decide_eq_true (by kernel_rfl)) (by unfold Func.isWrapper; first | (rw [if_pos (by decide +kernel)]; kernel_rfl) | (rw [if_neg (by decide +kernel)]; exact ⟨rfl, rfl⟩))
  (fun os started H enc _ => laws_lifted os started H enc)
end Go.Proofs.Ytbklgjmkdhinpaa
