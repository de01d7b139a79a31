/- BddBoole's closures. -/
import Derived.Test.YtacgoopgifoojabBdSt
namespace Go.Proofs.Ytacgoopgifoojab
open Go.RowKit Go.Maps

/-- A space, the functions that were made, and the law's own variables: s, h, bad, do. -/
structure BS (W0 w : World) (s b : Nat) (O : Nat → Prop) (vars : Nat) (ns : List Nd) (n ps ph pb pd : Nat) (al : List Int) (ga c : Nat) : Prop where
  st : SpSt W0 w s b O vars ns n
  cs : w.cell? ⟨ps, 0, none⟩ = some (.pointer (some ⟨s, 0, none⟩))
  ch : w.cell? ⟨ph, 0, none⟩ = some (.slice (some ⟨ga, 0, none⟩) al.length c)
  cb : w.cell? ⟨pb, 0, none⟩ = some (.bool false)
  fb : w.frozen? ⟨pb, 0, none⟩ = false
  cd : w.cell? ⟨pd, 0, none⟩ = some (.func (.func 9) #[] #[.pointer (some ⟨pb, 0, none⟩)])
  ints : IntsAt w ga al
  has : ∀ h ∈ al, hasB ns h = true
  o1 : ¬ O ps
  o2 : ¬ O ph
  o3 : ¬ O pb
  o4 : ¬ O pd
  o5 : ¬ O ga
  n1 : ps ≠ pb
  n2 : ph ≠ pb
  n3 : pd ≠ pb
  n4 : ga ≠ pb
  n5 : s ≠ pb
  B : W0.heap.size ≤ pb

section
variable {W0 w w' : World} {s b : Nat} {O O' : Nat → Prop} {vars : Nat} {ns ns' : List Nd} {n n' ps ph pb pd : Nat} {al : List Int} {ga c : Nat}

theorem BS.moved (h : BS W0 w s b O vars ns n ps ph pb pd al ga c) (hm : Moves O O' w w') (hst : SpSt W0 w' s b O' vars ns' n') (hh : ∀ x ∈ al, hasB ns' x = true) : BS W0 w' s b O' vars ns' n' ps ph pb pd al ga c := by
  have ls := World.block_lt_of_cell? _ _ h.cs
  have lh := World.block_lt_of_cell? _ _ h.ch
  have lb := World.block_lt_of_cell? _ _ h.cb
  have ld := World.block_lt_of_cell? _ _ h.cd
  exact ⟨hst, (hm.cell (a := ⟨ps, 0, none⟩) ls h.o1).trans h.cs, (hm.cell (a := ⟨ph, 0, none⟩) lh h.o2).trans h.ch, (hm.cell (a := ⟨pb, 0, none⟩) lb h.o3).trans h.cb, (hm.kept.frozen (a := ⟨pb, 0, none⟩) lb h.o3).trans h.fb, (hm.cell (a := ⟨pd, 0, none⟩) ld h.o4).trans h.cd, h.ints.kept hm.kept h.o5, hh,
    hm.beside ls h.o1, hm.beside lh h.o2, hm.beside lb h.o3, hm.beside ld h.o4, hm.beside h.ints.lt h.o5, h.n1, h.n2, h.n3, h.n4, h.n5, h.B⟩
theorem BS.new (h : BS W0 w s b O vars ns n ps ph pb pd al ga c) (hb : Below w.heap.size w w') : BS W0 w' s b O vars ns n ps ph pb pd al ga c :=
  h.moved (Moves.of_below O hb) (h.st.new hb) h.has
theorem BS.bad (h : BS W0 w s b O vars ns n ps ph pb pd al ga c) : BS W0 (w.setCell ⟨pb, 0, none⟩ (.bool false)) s b O vars ns n ps ph pb pd al ga c := by
  have hk : Kept (fun j => j = pb) w (w.setCell ⟨pb, 0, none⟩ (.bool false)) := Kept.setCell w ⟨pb, 0, none⟩ (.bool false) rfl
  have ls := World.block_lt_of_cell? _ _ h.cs
  have lh := World.block_lt_of_cell? _ _ h.ch
  have ld := World.block_lt_of_cell? _ _ h.cd
  exact ⟨⟨h.st.space.kept hk (fun j ho e => h.o3 (e ▸ ho)) h.n5, h.st.good, h.st.below.trans (hk.below h.st.below.size (fun j e => by rw [e]; exact h.B)), h.st.own, h.st.len⟩, (hk.cell (a := ⟨ps, 0, none⟩) ls h.n1).trans h.cs, (hk.cell (a := ⟨ph, 0, none⟩) lh h.n2).trans h.ch, World.cell?_setCell_same _ _ _ h.cb, by rw [World.frozen?_setCell]; exact h.fb, (hk.cell (a := ⟨pd, 0, none⟩) ld h.n3).trans h.cd, h.ints.kept hk h.n4, h.has, h.o1, h.o2, h.o3, h.o4, h.o5, h.n1, h.n2, h.n3, h.n4, h.n5, h.B⟩

/-- A closure made a function. -/
def BOut (W0 : World) (s b vars : Nat) (ns : List Nd) (n ps ph pb pd : Nat) (al : List Int) (ga c : Nat) (g : Fn') (e : Ending) (w' : World) : Prop :=
  ∃ (h : Int) (ns' : List Nd) (O' : Nat → Prop), e = .returned (.int .i64 h) ∧ BS W0 w' s b O' vars ns' (n + 63) ps ph pb pd al ga c ∧ Ext ns ns' ∧ Is ns' h g

set_option maxRecDepth 100000 in
theorem do_any (x : Int) (w : World) (hc : w.cell? ⟨pb, 0, none⟩ = some (.bool false)) (hf : w.frozen? ⟨pb, 0, none⟩ = false) :
    Calls Try.prog 9 #[.int .i64 x, .nilIface, .pointer (some ⟨pb, 0, none⟩)] w fun e w' => e = .returned (.int .i64 x) ∧ w' = w.setCell ⟨pb, 0, none⟩ (.bool false) := by
  go_enter Try.func9, Try.ntmps9
  go_wp2
  go_ret
  exact ⟨rfl, rfl⟩

theorem BS.op (h : BS W0 w s b O vars ns n ps ph pb pd al ga c) (hv : vars ≤ 6) {F : FuncId} {args : Array Value} {g : Fn'} (hc : Calls Try.prog F args w (OpIs W0.heap.size s b O vars 4000 ns g w)) :
    Calls Try.prog F args w fun e w' => ∃ (x : Int) (ns' : List Nd) (O' : Nat → Prop), e = .returned (.tuple #[.int .i64 x, .nilIface]) ∧ BS W0 w' s b O' vars ns' (n + 63) ps ph pb pd al ga c ∧ Ext ns ns' ∧ Is ns' x g := by
  have p6 : 2 ^ vars ≤ 64 := Nat.pow_le_pow_right (n := 2) (by omega) hv
  refine hc.mono ?_
  rintro e w' ⟨x, ns', O', he, hS, hM, hG, hX, hI, hl⟩
  refine ⟨x, ns', O', he, h.moved hM ⟨hS, hG, h.st.below.trans (hM.below h.st.below.size h.st.own), fun k hk => ?_, by have := h.st.len; omega⟩ (fun y hy => hX.has y (h.has y hy)), hX, hI⟩
  rcases hM.own k hk with h1 | h1
  · exact h.st.own k h1
  · have := h.st.below.size; omega

set_option maxRecDepth 100000 in
set_option maxHeartbeats 1000000 in
theorem and_c (h : BS W0 w s b O vars ns n ps ph pb pd al ga c) (hv : vars ≤ 6) (hn : n ≤ 3900) (x y : Int) {p q : Fn'} (i : Is ns x p) (j : Is ns y q) :
    Calls Try.prog 10 #[.int .i64 x, .int .i64 y, .pointer (some ⟨pd, 0, none⟩), .pointer (some ⟨ps, 0, none⟩)] w (BOut W0 s b vars ns n ps ph pb pd al ga c (fun f => p f && q f)) := by
  have hd := h.new (Below.refl _ w).drew
  have HC := Lib.hid (hd.op hv (and_is hd.st.space hd.st.good (hd.st.room hv hn) i j))
  have S0 : w.drew.cell? ⟨pd, 0, none⟩ = some (.func (.func 9) #[] #[.pointer (some ⟨pb, 0, none⟩)]) ∧ w.drew.cell? ⟨ps, 0, none⟩ = some (.pointer (some ⟨s, 0, none⟩)) := ⟨h.cd, h.cs⟩
  have HD : Hid (∀ X y, X.cell? ⟨pb, 0, none⟩ = some (.bool false) → X.frozen? ⟨pb, 0, none⟩ = false → Calls Try.prog 9 #[.int .i64 y, .nilIface, .pointer (some ⟨pb, 0, none⟩)] X fun e w' => e = .returned (.int .i64 y) ∧ w' = X.setCell ⟨pb, 0, none⟩ (.bool false)) := fun X y h1 h2 => do_any y X h1 h2
  clear h hd i j
  go_enter Try.func10, Try.ntmps10
  go_wp2_with fail
  go_region_held3 (fun X => X.cell? ⟨pd, 0, none⟩ = some (.func (.func 9) #[] #[.pointer (some ⟨pb, 0, none⟩)]) ∧ X.cell? ⟨ps, 0, none⟩ = some (.pointer (some ⟨s, 0, none⟩))) (first | exact S0 | exact ⟨hw1.cd, hw1.cs⟩ | exact ⟨hw1.bad.cd, hw1.bad.cs⟩)
    (first
      | (go_at_call 11; with_reducible refine HC.out.mono ?_; rintro e w1 ⟨z, ns1, O1, rfl, hw1, hX1, hI1⟩)
      | (go_at_call 9; with_reducible refine (HD.out _ _ hw1.cb hw1.fb).mono ?_; rintro e w2 ⟨rfl, rfl⟩))
  go_wp2
  go_ret
  exact ⟨z, ns1, O1, rfl, hw1.bad, hX1, hI1⟩

set_option maxRecDepth 100000 in
set_option maxHeartbeats 1000000 in
theorem or_c (h : BS W0 w s b O vars ns n ps ph pb pd al ga c) (hv : vars ≤ 6) (hn : n ≤ 3900) (x y : Int) {p q : Fn'} (i : Is ns x p) (j : Is ns y q) :
    Calls Try.prog 12 #[.int .i64 x, .int .i64 y, .pointer (some ⟨pd, 0, none⟩), .pointer (some ⟨ps, 0, none⟩)] w (BOut W0 s b vars ns n ps ph pb pd al ga c (fun f => p f || q f)) := by
  have hd := h.new (Below.refl _ w).drew
  have HC := Lib.hid (hd.op hv (or_is hd.st.space hd.st.good (hd.st.room hv hn) i j))
  have S0 : w.drew.cell? ⟨pd, 0, none⟩ = some (.func (.func 9) #[] #[.pointer (some ⟨pb, 0, none⟩)]) ∧ w.drew.cell? ⟨ps, 0, none⟩ = some (.pointer (some ⟨s, 0, none⟩)) := ⟨h.cd, h.cs⟩
  have HD : Hid (∀ X y, X.cell? ⟨pb, 0, none⟩ = some (.bool false) → X.frozen? ⟨pb, 0, none⟩ = false → Calls Try.prog 9 #[.int .i64 y, .nilIface, .pointer (some ⟨pb, 0, none⟩)] X fun e w' => e = .returned (.int .i64 y) ∧ w' = X.setCell ⟨pb, 0, none⟩ (.bool false)) := fun X y h1 h2 => do_any y X h1 h2
  clear h hd i j
  go_enter Try.func12, Try.ntmps12
  go_wp2_with fail
  go_region_held3 (fun X => X.cell? ⟨pd, 0, none⟩ = some (.func (.func 9) #[] #[.pointer (some ⟨pb, 0, none⟩)]) ∧ X.cell? ⟨ps, 0, none⟩ = some (.pointer (some ⟨s, 0, none⟩))) (first | exact S0 | exact ⟨hw1.cd, hw1.cs⟩ | exact ⟨hw1.bad.cd, hw1.bad.cs⟩)
    (first
      | (go_at_call 13; with_reducible refine HC.out.mono ?_; rintro e w1 ⟨z, ns1, O1, rfl, hw1, hX1, hI1⟩)
      | (go_at_call 9; with_reducible refine (HD.out _ _ hw1.cb hw1.fb).mono ?_; rintro e w2 ⟨rfl, rfl⟩))
  go_wp2
  go_ret
  exact ⟨z, ns1, O1, rfl, hw1.bad, hX1, hI1⟩

set_option maxRecDepth 100000 in
set_option maxHeartbeats 1000000 in
theorem not_c (h : BS W0 w s b O vars ns n ps ph pb pd al ga c) (hv : vars ≤ 6) (hn : n ≤ 3900) (x : Int) {p : Fn'} (i : Is ns x p) :
    Calls Try.prog 14 #[.int .i64 x, .pointer (some ⟨pd, 0, none⟩), .pointer (some ⟨ps, 0, none⟩)] w (BOut W0 s b vars ns n ps ph pb pd al ga c (fun f => !(p f))) := by
  have hd := h.new (Below.refl _ w).drew
  have HC := Lib.hid (hd.op hv (not_is hd.st.space hd.st.good (hd.st.room hv hn) i))
  have S0 : w.drew.cell? ⟨pd, 0, none⟩ = some (.func (.func 9) #[] #[.pointer (some ⟨pb, 0, none⟩)]) ∧ w.drew.cell? ⟨ps, 0, none⟩ = some (.pointer (some ⟨s, 0, none⟩)) := ⟨h.cd, h.cs⟩
  have HD : Hid (∀ X y, X.cell? ⟨pb, 0, none⟩ = some (.bool false) → X.frozen? ⟨pb, 0, none⟩ = false → Calls Try.prog 9 #[.int .i64 y, .nilIface, .pointer (some ⟨pb, 0, none⟩)] X fun e w' => e = .returned (.int .i64 y) ∧ w' = X.setCell ⟨pb, 0, none⟩ (.bool false)) := fun X y h1 h2 => do_any y X h1 h2
  clear h hd i
  go_enter Try.func14, Try.ntmps14
  go_wp2_with fail
  go_region_held3 (fun X => X.cell? ⟨pd, 0, none⟩ = some (.func (.func 9) #[] #[.pointer (some ⟨pb, 0, none⟩)]) ∧ X.cell? ⟨ps, 0, none⟩ = some (.pointer (some ⟨s, 0, none⟩))) (first | exact S0 | exact ⟨hw1.cd, hw1.cs⟩ | exact ⟨hw1.bad.cd, hw1.bad.cs⟩)
    (first
      | (go_at_call 15; with_reducible refine HC.out.mono ?_; rintro e w1 ⟨z, ns1, O1, rfl, hw1, hX1, hI1⟩)
      | (go_at_call 9; with_reducible refine (HD.out _ _ hw1.cb hw1.fb).mono ?_; rintro e w2 ⟨rfl, rfl⟩))
  go_wp2
  go_ret
  exact ⟨z, ns1, O1, rfl, hw1.bad, hX1, hI1⟩

/-- Behind then: what was made besides is freed. -/
def ThenOut (W0 : World) (s b vars : Nat) (ns : List Nd) (n ps ph pb pd : Nat) (al : List Int) (ga c : Nat) (e : Ending) (w' : World) : Prop :=
  ∃ (ns' : List Nd) (O' : Nat → Prop), e = .returned (.bool true) ∧ BS W0 w' s b O' vars ns' n ps ph pb pd al ga c ∧ ∀ x ∈ al, ∀ g, Is ns x g → Is ns' x g

set_option maxRecDepth 100000 in
set_option maxHeartbeats 1000000 in
theorem then_c (h : BS W0 w s b O vars ns n ps ph pb pd al ga c) (hn : n ≤ 3999) (hal : al.length ≤ 27) (x : Int) :
    Calls Try.prog 16 #[.int .i64 x, .int .i64 x, .pointer (some ⟨ps, 0, none⟩), .pointer (some ⟨ph, 0, none⟩), .pointer (some ⟨pb, 0, none⟩)] w (ThenOut W0 s b vars ns n ps ph pb pd al ga c) := by
  have hl := h.st.len
  have hg := h.st.good
  have HF := free_op (cp := c) h.st.space hg.ranked (by omega) h.st.below.size ga al h.ints (by omega)
  have HF' : Hid (Calls Try.prog 17 #[.pointer (some ⟨s, 0, none⟩), .slice (some ⟨ga, 0, none⟩) al.length c] w fun e w' => ∃ (m : Int) (O' : Nat → Prop), e = .returned (.int .i64 m) ∧ BS W0 w' s b O' vars (swept ns (marksOf ns al)) n ps ph pb pd al ga c) := HF.mono fun e w' ⟨m, he, O', hS, hM⟩ =>
    ⟨m, O', he, h.moved hM ⟨hS, swept_good hg al, h.st.below.trans (hM.below h.st.below.size h.st.own), fun k hk => by
      rcases hM.own k hk with h1 | h1
      · exact h.st.own k h1
      · have := h.st.below.size; omega, by rw [swept_length]; exact hl⟩ (fun y hy => (swept_kept hg hy (h.has y hy)).1)⟩
  have HK : Hid (∀ y ∈ al, ∀ g, Is ns y g → Is (swept ns (marksOf ns al)) y g) := fun y hy g hi => ⟨(swept_kept hg hy hi.1).1, fun f => by rw [(swept_kept hg hy hi.1).2 f]; exact hi.2 f⟩
  have cs := h.cs
  have ch := h.ch
  have exx : (x == x) = true := by simp
  clear HF h hg
  generalize swept ns (marksOf ns al) = ns2 at *
  go_enter Try.func16, Try.ntmps16
  go_wp2_with fail
  refine HF'.out.mono ?_
  rintro e w1 ⟨m, O1, rfl, hw1⟩
  have cb := hw1.cb
  have HW := Lib.hid hw1
  clear HF' hw1 cs ch
  go_wp2
  go_ret
  exact ⟨ns2, O1, rfl, HW.out, HK.out⟩
end
end Go.Proofs.Ytacgoopgifoojab
