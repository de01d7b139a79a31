/- FamilyLaws' closures. -/
import Derived.Test.YtbklgjmkdhinpaaFmFact
set_option maxHeartbeats 1000000
set_option maxRecDepth 100000
namespace Go.Proofs.Ytbklgjmkdhinpaa.Fm
open Go.RowKit Go.Maps Go.Proofs.Ytbklgjmkdhinpaa.Bd
def IsF (ns : List Nd) (h : Int) (g : Nat -> Prop) : Prop := hasB ns h = true /\ ∀ y, In ns h y ↔ g y
theorem IsF.ext {ns ns' : List Nd} {h : Int} {g : Nat -> Prop} (i : IsF ns h g) (hr : Ranked ns) (he : Ext ns ns') : IsF ns' h g := ⟨he.has _ i.1, fun y => (in_ext hr he i.1 y).trans (i.2 y)⟩
theorem IsF.same {vars : Nat} {ns : List Nd} {h k : Int} {p q : Nat -> Prop} (i : IsF ns h p) (hg : Good vars ns) (j : IsF ns k q) (e : ∀ y, p y ↔ q y) : h = k := same_handle hg i.1 j.1 (fun y => (i.2 y).trans ((e y).trans (j.2 y).symm))
structure LS (W0 w : World) (s b : Nat) (O : Nat -> Prop) (vars : Nat) (ns : List Nd) (n ps ph pb pd : Nat) (al : List Int) (ga c : Nat) : Prop where
 fam : FamAt W0.heap.size w s b O vars 4000 ns
 below : Below W0.heap.size W0 w
 own : ∀ k, O k -> W0.heap.size <= k
 cnt : cntT vars ns <= n
 cs : w.cell? ⟨ps, 0, none⟩ = some (.pointer (some ⟨s, 0, none⟩))
 ch : w.cell? ⟨ph, 0, none⟩ = some (.slice (some ⟨ga, 0, none⟩) al.length c)
 cb : w.cell? ⟨pb, 0, none⟩ = some (.bool false)
 fb : w.frozen? ⟨pb, 0, none⟩ = false
 cd : w.cell? ⟨pd, 0, none⟩ = some (.func (.func 17) #[] #[.pointer (some ⟨pb, 0, none⟩)])
 ints : IntsAt w ga al
 has : ∀ h ∈ al, hasB ns h = true
 o1 : ¬ O ps
 o2 : ¬ O ph
 o3 : ¬ O pb
 o4 : ¬ O pd
 o5 : ¬ O ga
 n1 : ps ≠ pb
 n2 : ph ≠ pb
 n3 : pd ≠ pb
 n4 : ga ≠ pb
 n5 : s ≠ pb
 B : W0.heap.size <= pb
section
variable {W0 w w' : World} {s b : Nat} {O O' : Nat -> Prop} {vars : Nat} {ns ns' : List Nd} {n n' ps ph pb pd : Nat} {al : List Int} {ga c : Nat}
theorem LS.moved (h : LS W0 w s b O vars ns n ps ph pb pd al ga c) (hm : Mv O O' w w') (hst : FamAt W0.heap.size w' s b O' vars 4000 ns') (hc : cntT vars ns' <= n') (hh : ∀ x ∈ al, hasB ns' x = true) : LS W0 w' s b O' vars ns' n' ps ph pb pd al ga c := by
 have ls := World.block_lt_of_cell? _ _ h.cs
 have lh := World.block_lt_of_cell? _ _ h.ch
 have lb := World.block_lt_of_cell? _ _ h.cb
 have ld := World.block_lt_of_cell? _ _ h.cd
 refine ⟨hst, h.below.trans (hm.below h.below.size h.own), fun k hk => ?_, hc, (hm.cell (a := ⟨ps, 0, none⟩) ls h.o1).trans h.cs, (hm.cell (a := ⟨ph, 0, none⟩) lh h.o2).trans h.ch, (hm.cell (a := ⟨pb, 0, none⟩) lb h.o3).trans h.cb, (hm.kept.frozen (a := ⟨pb, 0, none⟩) lb h.o3).trans h.fb, (hm.cell (a := ⟨pd, 0, none⟩) ld h.o4).trans h.cd, h.ints.kept hm.kept h.o5, hh,
  hm.beside ls h.o1, hm.beside lh h.o2, hm.beside lb h.o3, hm.beside ld h.o4, hm.beside h.ints.lt h.o5, h.n1, h.n2, h.n3, h.n4, h.n5, h.B⟩
 rcases hm.own k hk with h1 | h1
 ·exact h.own k h1
 ·exact Nat.le_trans h.below.size h1
theorem LS.new (h : LS W0 w s b O vars ns n ps ph pb pd al ga c) (hb : Below w.heap.size w w') : LS W0 w' s b O vars ns n ps ph pb pd al ga c :=
 h.moved (Mv.of_below hb) (h.fam.new hb) h.cnt h.has
theorem LS.bad (h : LS W0 w s b O vars ns n ps ph pb pd al ga c) : LS W0 (w.setCell ⟨pb, 0, none⟩ (.bool false)) s b O vars ns n ps ph pb pd al ga c := by
 have hk : Kept (fun j => j = pb) w (w.setCell ⟨pb, 0, none⟩ (.bool false)) := Kept.setCell w ⟨pb, 0, none⟩ (.bool false) rfl
 have ls := World.block_lt_of_cell? _ _ h.cs
 have lh := World.block_lt_of_cell? _ _ h.ch
 have ld := World.block_lt_of_cell? _ _ h.cd
 exact ⟨⟨h.fam.space.kept hk (fun j ho e => h.o3 (e ▸ ho)) h.n5, h.fam.good, h.fam.v24, h.fam.rm, h.fam.len, Nat.le_trans h.fam.hB hk.size⟩, h.below.trans (hk.below h.below.size (fun j e => by rw [e]; exact h.B)), h.own, h.cnt, (hk.cell (a := ⟨ps, 0, none⟩) ls h.n1).trans h.cs, (hk.cell (a := ⟨ph, 0, none⟩) lh h.n2).trans h.ch, World.cell?_setCell_same _ _ _ h.cb, by rw [World.frozen?_setCell]; exact h.fb, (hk.cell (a := ⟨pd, 0, none⟩) ld h.n3).trans h.cd, h.ints.kept hk h.n4, h.has, h.o1, h.o2, h.o3, h.o4, h.o5, h.n1, h.n2, h.n3, h.n4, h.n5, h.B⟩
def LOut (W0 : World) (s b vars : Nat) (ns : List Nd) (n ps ph pb pd : Nat) (al : List Int) (ga c : Nat) (g : Nat -> Prop) (e : Ending) (w' : World) : Prop :=
 ∃ (h : Int) (ns' : List Nd) (O' : Nat -> Prop), e = .returned (.int .i64 h) /\ LS W0 w' s b O' vars ns' n ps ph pb pd al ga c /\ Ext ns ns' /\ IsF ns' h g
theorem do_any (x : Int) (w : World) (hc : w.cell? ⟨pb, 0, none⟩ = some (.bool false)) (hf : w.frozen? ⟨pb, 0, none⟩ = false) :
  Calls Try.prog 17 #[.int .i64 x, .nilIface, .pointer (some ⟨pb, 0, none⟩)] w fun e w' => e = .returned (.int .i64 x) /\ w' = w.setCell ⟨pb, 0, none⟩ (.bool false) := by
 go_enter Try.func17, Try.ntmps17
 go_wp2
 go_ret
 exact ⟨rfl, rfl⟩
theorem costS (hv : vars <= 6) {k : K} (hk : k = .or \/ k = .and \/ k = .less) : cost (rr vars (-1)) k <= 15 := Nat.le_trans (cost_mono (show rr vars (-1) <= 4 by unfold rr; omega) k) (by rcases hk with rfl | rfl | rfl <;> decide)
theorem LS.op (h : LS W0 w s b O vars ns n ps ph pb pd al ga c) {m : Nat} {F : FuncId} {args : Array Value} {k : K} {x y : Int} {p q : Nat -> Prop} (i : IsF ns x p) (j : IsF ns y q) (hm : cost (rr vars (-1)) k <= m) (hc : Calls Try.prog F args w (AskOut W0.heap.size s b O vars 4000 k ns x y w)) :
  Calls Try.prog F args w fun e w' => ∃ (z : Int) (ns' : List Nd) (O' : Nat -> Prop), e = .returned (.tuple #[.int .i64 z, .nilIface]) /\ LS W0 w' s b O' vars ns' (n + m) ps ph pb pd al ga c /\ Ext ns ns' /\ IsF ns' z (opP k p q) := by
 refine hc.mono ?_
 rintro e w' ⟨z, ns', O', he, hS, hM, hX, hh, hi, hl⟩
 exact ⟨z, ns', O', he, h.moved hM hS (by have := h.cnt; omega) (fun y hy => hX.has y (h.has y hy)), hX, hh, fun u => (hi u).trans (opP_congr k i.2 j.2 u)⟩
theorem and_c (h : LS W0 w s b O vars ns n ps ph pb pd al ga c) (hv : vars <= 6) (hn : n <= 3800) (x y : Int) {p q : Nat -> Prop} (i : IsF ns x p) (j : IsF ns y q) :
  Calls Try.prog 18 #[.int .i64 x, .int .i64 y, .pointer (some ⟨pd, 0, none⟩), .pointer (some ⟨ps, 0, none⟩)] w (LOut W0 s b vars ns (n + 15) ps ph pb pd al ga c (opP .and p q)) := by
 have hd := h.new (Below.refl _ w).drew
 have hco : cost (rr vars (-1)) .and <= 15 := costS hv (by simp)
 have HC := Lib.hid (hd.op i j hco (and_any hd.fam i.1 j.1 (by have := h.cnt; omega)))
 have S0 : w.drew.cell? ⟨pd, 0, none⟩ = some (.func (.func 17) #[] #[.pointer (some ⟨pb, 0, none⟩)]) /\ w.drew.cell? ⟨ps, 0, none⟩ = some (.pointer (some ⟨s, 0, none⟩)) := ⟨h.cd, h.cs⟩
 have HD : Hid (∀ X y, X.cell? ⟨pb, 0, none⟩ = some (.bool false) -> X.frozen? ⟨pb, 0, none⟩ = false -> Calls Try.prog 17 #[.int .i64 y, .nilIface, .pointer (some ⟨pb, 0, none⟩)] X fun e w' => e = .returned (.int .i64 y) /\ w' = X.setCell ⟨pb, 0, none⟩ (.bool false)) := fun X y h1 h2 => do_any y X h1 h2
 clear h hd i j hco
 go_enter Try.func18, Try.ntmps18
 go_wp2_with fail
 go_region_held3 (fun X => X.cell? ⟨pd, 0, none⟩ = some (.func (.func 17) #[] #[.pointer (some ⟨pb, 0, none⟩)]) /\ X.cell? ⟨ps, 0, none⟩ = some (.pointer (some ⟨s, 0, none⟩))) (first | exact S0 | exact ⟨hw1.cd, hw1.cs⟩ | exact ⟨hw1.bad.cd, hw1.bad.cs⟩)
  (first
   | (go_at_call 19; with_reducible refine HC.out.mono ?_; rintro e w1 ⟨z, ns1, O1, rfl, hw1, hX1, hI1⟩)
   | (go_at_call 17; with_reducible refine (HD.out _ _ hw1.cb hw1.fb).mono ?_; rintro e w2 ⟨rfl, rfl⟩))
 go_wp2
 go_ret
 exact ⟨z, ns1, O1, rfl, hw1.bad, hX1, hI1⟩
theorem or_c (h : LS W0 w s b O vars ns n ps ph pb pd al ga c) (hv : vars <= 6) (hn : n <= 3800) (x y : Int) {p q : Nat -> Prop} (i : IsF ns x p) (j : IsF ns y q) :
  Calls Try.prog 20 #[.int .i64 x, .int .i64 y, .pointer (some ⟨pd, 0, none⟩), .pointer (some ⟨ps, 0, none⟩)] w (LOut W0 s b vars ns (n + 15) ps ph pb pd al ga c (opP .or p q)) := by
 have hd := h.new (Below.refl _ w).drew
 have hco : cost (rr vars (-1)) .or <= 15 := costS hv (by simp)
 have HC := Lib.hid (hd.op i j hco (or_any hd.fam i.1 j.1 (by have := h.cnt; omega)))
 have S0 : w.drew.cell? ⟨pd, 0, none⟩ = some (.func (.func 17) #[] #[.pointer (some ⟨pb, 0, none⟩)]) /\ w.drew.cell? ⟨ps, 0, none⟩ = some (.pointer (some ⟨s, 0, none⟩)) := ⟨h.cd, h.cs⟩
 have HD : Hid (∀ X y, X.cell? ⟨pb, 0, none⟩ = some (.bool false) -> X.frozen? ⟨pb, 0, none⟩ = false -> Calls Try.prog 17 #[.int .i64 y, .nilIface, .pointer (some ⟨pb, 0, none⟩)] X fun e w' => e = .returned (.int .i64 y) /\ w' = X.setCell ⟨pb, 0, none⟩ (.bool false)) := fun X y h1 h2 => do_any y X h1 h2
 clear h hd i j hco
 go_enter Try.func20, Try.ntmps20
 go_wp2_with fail
 go_region_held3 (fun X => X.cell? ⟨pd, 0, none⟩ = some (.func (.func 17) #[] #[.pointer (some ⟨pb, 0, none⟩)]) /\ X.cell? ⟨ps, 0, none⟩ = some (.pointer (some ⟨s, 0, none⟩))) (first | exact S0 | exact ⟨hw1.cd, hw1.cs⟩ | exact ⟨hw1.bad.cd, hw1.bad.cs⟩)
  (first
   | (go_at_call 21; with_reducible refine HC.out.mono ?_; rintro e w1 ⟨z, ns1, O1, rfl, hw1, hX1, hI1⟩)
   | (go_at_call 17; with_reducible refine (HD.out _ _ hw1.cb hw1.fb).mono ?_; rintro e w2 ⟨rfl, rfl⟩))
 go_wp2
 go_ret
 exact ⟨z, ns1, O1, rfl, hw1.bad, hX1, hI1⟩
theorem less_c (h : LS W0 w s b O vars ns n ps ph pb pd al ga c) (hv : vars <= 6) (hn : n <= 3800) (x y : Int) {p q : Nat -> Prop} (i : IsF ns x p) (j : IsF ns y q) :
  Calls Try.prog 22 #[.int .i64 x, .int .i64 y, .pointer (some ⟨pd, 0, none⟩), .pointer (some ⟨ps, 0, none⟩)] w (LOut W0 s b vars ns (n + 15) ps ph pb pd al ga c (opP .less p q)) := by
 have hd := h.new (Below.refl _ w).drew
 have hco : cost (rr vars (-1)) .less <= 15 := costS hv (by simp)
 have HC := Lib.hid (hd.op i j hco (less_any hd.fam i.1 j.1 (by have := h.cnt; omega)))
 have S0 : w.drew.cell? ⟨pd, 0, none⟩ = some (.func (.func 17) #[] #[.pointer (some ⟨pb, 0, none⟩)]) /\ w.drew.cell? ⟨ps, 0, none⟩ = some (.pointer (some ⟨s, 0, none⟩)) := ⟨h.cd, h.cs⟩
 have HD : Hid (∀ X y, X.cell? ⟨pb, 0, none⟩ = some (.bool false) -> X.frozen? ⟨pb, 0, none⟩ = false -> Calls Try.prog 17 #[.int .i64 y, .nilIface, .pointer (some ⟨pb, 0, none⟩)] X fun e w' => e = .returned (.int .i64 y) /\ w' = X.setCell ⟨pb, 0, none⟩ (.bool false)) := fun X y h1 h2 => do_any y X h1 h2
 clear h hd i j hco
 go_enter Try.func22, Try.ntmps22
 go_wp2_with fail
 go_region_held3 (fun X => X.cell? ⟨pd, 0, none⟩ = some (.func (.func 17) #[] #[.pointer (some ⟨pb, 0, none⟩)]) /\ X.cell? ⟨ps, 0, none⟩ = some (.pointer (some ⟨s, 0, none⟩))) (first | exact S0 | exact ⟨hw1.cd, hw1.cs⟩ | exact ⟨hw1.bad.cd, hw1.bad.cs⟩)
  (first
   | (go_at_call 23; with_reducible refine HC.out.mono ?_; rintro e w1 ⟨z, ns1, O1, rfl, hw1, hX1, hI1⟩)
   | (go_at_call 17; with_reducible refine (HD.out _ _ hw1.cb hw1.fb).mono ?_; rintro e w2 ⟨rfl, rfl⟩))
 go_wp2
 go_ret
 exact ⟨z, ns1, O1, rfl, hw1.bad, hX1, hI1⟩
theorem join_c (h : LS W0 w s b O vars ns n ps ph pb pd al ga c) (hv : vars <= 6) (hn : n <= 3800) (x y : Int) {p q : Nat -> Prop} (i : IsF ns x p) (j : IsF ns y q) :
  Calls Try.prog 24 #[.int .i64 x, .int .i64 y, .pointer (some ⟨pd, 0, none⟩), .pointer (some ⟨ps, 0, none⟩)] w (LOut W0 s b vars ns (n + 90) ps ph pb pd al ga c (opP .join p q)) := by
 have hd := h.new (Below.refl _ w).drew
 have hco : cost (rr vars (-1)) .join <= 90 := cost_rr hv .join
 have HC := Lib.hid (hd.op i j hco (join_any hd.fam i.1 j.1 (by have := h.cnt; omega)))
 have S0 : w.drew.cell? ⟨pd, 0, none⟩ = some (.func (.func 17) #[] #[.pointer (some ⟨pb, 0, none⟩)]) /\ w.drew.cell? ⟨ps, 0, none⟩ = some (.pointer (some ⟨s, 0, none⟩)) := ⟨h.cd, h.cs⟩
 have HD : Hid (∀ X y, X.cell? ⟨pb, 0, none⟩ = some (.bool false) -> X.frozen? ⟨pb, 0, none⟩ = false -> Calls Try.prog 17 #[.int .i64 y, .nilIface, .pointer (some ⟨pb, 0, none⟩)] X fun e w' => e = .returned (.int .i64 y) /\ w' = X.setCell ⟨pb, 0, none⟩ (.bool false)) := fun X y h1 h2 => do_any y X h1 h2
 clear h hd i j hco
 go_enter Try.func24, Try.ntmps24
 go_wp2_with fail
 go_region_held3 (fun X => X.cell? ⟨pd, 0, none⟩ = some (.func (.func 17) #[] #[.pointer (some ⟨pb, 0, none⟩)]) /\ X.cell? ⟨ps, 0, none⟩ = some (.pointer (some ⟨s, 0, none⟩))) (first | exact S0 | exact ⟨hw1.cd, hw1.cs⟩ | exact ⟨hw1.bad.cd, hw1.bad.cs⟩)
  (first
   | (go_at_call 25; with_reducible refine HC.out.mono ?_; rintro e w1 ⟨z, ns1, O1, rfl, hw1, hX1, hI1⟩)
   | (go_at_call 17; with_reducible refine (HD.out _ _ hw1.cb hw1.fb).mono ?_; rintro e w2 ⟨rfl, rfl⟩))
 go_wp2
 go_ret
 exact ⟨z, ns1, O1, rfl, hw1.bad, hX1, hI1⟩
def ThenL (W0 : World) (s b vars : Nat) (ns : List Nd) (n ps ph pb pd : Nat) (al : List Int) (ga c : Nat) (e : Ending) (w' : World) : Prop :=
 ∃ (ns' : List Nd) (O' : Nat -> Prop), e = .returned (.bool true) /\ LS W0 w' s b O' vars ns' n ps ph pb pd al ga c /\ ∀ x ∈ al, ∀ g, IsF ns x g -> IsF ns' x g
theorem then_c (h : LS W0 w s b O vars ns n ps ph pb pd al ga c) (hal : al.length <= 22) (x : Int) :
  Calls Try.prog 26 #[.int .i64 x, .int .i64 x, .pointer (some ⟨ps, 0, none⟩), .pointer (some ⟨ph, 0, none⟩), .pointer (some ⟨pb, 0, none⟩)] w (ThenL W0 s b vars ns n ps ph pb pd al ga c) := by
 have hg := h.fam.good
 have HF' : Hid (Calls Try.prog 27 #[.pointer (some ⟨s, 0, none⟩), .slice (some ⟨ga, 0, none⟩) al.length c] w fun e w' => ∃ (m : Int) (O' : Nat -> Prop), e = .returned (.int .i64 m) /\ LS W0 w' s b O' vars (swept ns (marksOf ns al)) n ps ph pb pd al ga c) := (free_any (cp := c) h.fam ga al h.ints (by omega)).mono fun e w' ⟨m, he, O', hS, hM⟩ =>
  ⟨m, O', he, h.moved hM ⟨hS, swept_good hg al, h.fam.v24, h.fam.rm, by rw [swept_length]; exact h.fam.len, Nat.le_trans h.fam.hB hM.size⟩ (Nat.le_trans (swept_cntT h.fam.v24 _ _) h.cnt) (fun y hy => (swept_kept hg hy (h.has y hy)).1)⟩
 have HK : Hid (∀ y ∈ al, ∀ g, IsF ns y g -> IsF (swept ns (marksOf ns al)) y g) := fun y hy g hi => ⟨(swept_kept hg hy hi.1).1, fun f => ((swept_kept hg hy hi.1).2 f).trans (hi.2 f)⟩
 have cs := h.cs
 have ch := h.ch
 have exx : (x == x) = true := by simp
 clear h hg
 generalize swept ns (marksOf ns al) = ns2 at *
 go_enter Try.func26, Try.ntmps26
 go_wp2_with fail
 refine HF'.out.mono ?_
 rintro e w1 ⟨m, O1, rfl, hw1⟩
 have cb := hw1.cb
 have HW := Lib.hid hw1
 clear HF' hw1 cs ch
 go_wp2
 go_ret
 exact ⟨ns2, O1, rfl, HW.out, HK.out⟩
end
end Go.Proofs.Ytbklgjmkdhinpaa.Fm
