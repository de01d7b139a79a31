/- For every number of variables, every list of steps and every two of the functions that they make: of as many values as one or the other is true, and both, together, the one is, and the other, together; and one, and what it is not, of all. No condition. -/
import Derived.Test.YtfodcmcmbjopaabBdBelowW
import Derived.Test.YtfodcmcmbjopaabCnDouble
import Derived.Test.YtfodcmcmbjopaabBdHolds
import Derived.Test.YtfodcmcmbjopaabBdWays
import Derived.Test.YtfodcmcmbjopaabBdSt
import Derived.ProofKit
import Derived.SizedLaws
import Derived.OpenShut
import Derived.Laws.NewBlocks
namespace Go.Proofs.Ytfodcmcmbjopaab
open Go.RowKit Go.Maps Num

section
variable {B s b : Nat} {O : Nat → Prop} {vars : Nat} {room : Int} {ns : List Nd}

set_option maxRecDepth 100000 in
set_option maxHeartbeats 2000000 in
theorem count_any (w : World) (hS : SpaceAt B w s b O vars room ns) (hg : Good vars ns) (hl : ns.length ≤ 90000) (hv : vars ≤ 24) (h : Int) (hh : hasB ns h = true) :
    Calls Try.prog 21 #[.pointer (some ⟨s, 0, none⟩), .int .i64 h] w fun e w' => ∃ v, e = .returned (.tuple #[v, .nilIface]) ∧ NatAt w' v (waysN vars ns h 0) ∧ Below w.heap.size w w' := by
  have hi := has_i64 hh (by omega)
  have hb1 := below_new w (.cells #[.slice none 0 0] 42)
  have s1 : (w.alloc (.cells #[.slice none 0 0] 42)).heap.size = w.heap.size + 1 := by simp
  have HP := present_any (cp := 1) ((hS.new hb1).new (below_new (w.alloc (.cells #[.slice none 0 0] 42)) (.cells #[.int .i64 h] 3))) (by omega) (w.alloc (.cells #[.slice none 0 0] 42)).heap.size [h] (ints1 (w.alloc (.cells #[.slice none 0 0] 42)) h hi) (by simp) (fun y hy => by rw [List.mem_singleton] at hy; subst hy; exact hh)
  rw [show [h].length = 1 from rfl, s1] at HP
  have HPR := Lib.hid HP
  have hb2 := hb1.alloc hb1.size (.cells #[.int .i64 h] 3)
  have s2 : ((w.alloc (.cells #[.slice none 0 0] 42)).alloc (.cells #[.int .i64 h] 3)).heap.size = w.heap.size + 1 + 1 := by rw [World.size_alloc, s1]
  have hb3 := hb2.alloc hb2.size (.map #[] 0)
  have hown := World.ownsMap_made ((w.alloc (.cells #[.slice none 0 0] 42)).alloc (.cells #[.int .i64 h] 3)) Try.prog 3 natR
  rw [s2] at hown
  have hD : DoneN (((w.alloc (.cells #[.slice none 0 0] 42)).alloc (.cells #[.int .i64 h] 3)).alloc (.map #[] 0)) (w.heap.size + 1 + 1) vars ns [] := ⟨⟨_, hown, Rep.empty⟩, (fun p hp => by cases hp), (fun p hp => by cases hp)⟩
  have hslt := hS.slt
  have HWA := ways_any (B := B) (s := s) (b := b) (dk := w.heap.size + 1 + 1) (O := O) (vars := vars) (room := room) (ns := ns) hg hl hv (fun ho => by have := (hS.own _ ho).2; omega) (by omega) h 0 [] _ (hS.new hb3) hD hh (by have := (topOf_le hg.ranked h).1; omega) (Nat.zero_le _)
  have HWY : Hid (Calls Try.prog 41 #[.pointer (some ⟨s, 0, none⟩), .int .i64 h, .int .i64 0, .map (some (w.heap.size + 1 + 1))] (((w.alloc (.cells #[.slice none 0 0] 42)).alloc (.cells #[.int .i64 h] 3)).alloc (.map #[] 0)) (CntOut (w.heap.size + 1 + 1) vars ns (waysN vars ns h 0) (((w.alloc (.cells #[.slice none 0 0] 42)).alloc (.cells #[.int .i64 h] 3)).alloc (.map #[] 0)))) := HWA
  have HBX : Hid (BoxAt (((w.alloc (.cells #[.slice none 0 0] 42)).alloc (.cells #[.int .i64 h] 3)).alloc (.map #[] 0)) w.heap.size) := ((boxAt_new w).new (below_new _ _)).new (below_new _ _)
  have HB3 := Lib.hid hb3
  have hmm := @run_makeMap Try.prog
  clear HP HWA hS hg hh hb1 hb2 hb3 hown hD
  generalize waysN vars ns h 0 = m at *
  go_enter Try.func21, Try.ntmps21
  go_wp2_with fail
  refine HPR.out.mono ?_
  rintro e w1 ⟨rfl, rfl⟩
  clear HPR
  go_wp2_with fail
  refine HWY.out.mono ?_
  rintro e w4 ⟨v4, L4, rfl, hn, hD4, hk⟩
  generalize (((w.alloc (.cells #[.slice none 0 0] 42)).alloc (.cells #[.int .i64 h] 3)).alloc (.map #[] 0)) = W3 at *
  obtain ⟨x, rfl, hx⟩ := hn
  obtain ⟨xa, xn, xc⟩ := x
  have hn : NatAt w4 (NV.val ⟨xa, xn, xc⟩) m := ⟨_, rfl, hx⟩
  have hbx := HBX.out.kept hk (show w.heap.size ≠ w.heap.size + 1 + 1 by omega)
  have bc := hbx.c
  have bf := hbx.f
  have hcs : (w4.setCell ⟨w.heap.size, 0, none⟩ (.slice xa xn xc)).cell? ⟨w.heap.size, 0, none⟩ = some (.slice xa xn xc) := World.cell?_setCell_same _ _ _ bc
  have hb4 : Below w.heap.size w (w4.setCell ⟨w.heap.size, 0, none⟩ (.slice xa xn xc)) := (HB3.out.trans (hk.below HB3.out.size (fun j e => by omega))).setCell (Nat.le_refl _) _
  have HFIN : Hid (∃ v, Ending.returned (.tuple #[.agg #[.slice xa xn xc], .nilIface]) = .returned (.tuple #[v, .nilIface]) ∧ NatAt (w4.setCell ⟨w.heap.size, 0, none⟩ (.slice xa xn xc)) v m ∧ Below w.heap.size w (w4.setCell ⟨w.heap.size, 0, none⟩ (.slice xa xn xc))) := ⟨_, rfl, hn.box hbx.no _, hb4⟩
  clear hn hx hD4 hk hbx hb4 HWY HBX HB3
  unfold NV.val
  go_wp2
  refine bodyPost_ret (v := .tuple #[.agg #[.slice xa xn xc], .nilIface]) (by simp [results, Try.results21, go_sem, hcs]) rfl HFIN.out
end
end Go.Proofs.Ytfodcmcmbjopaab

namespace Go.Proofs.Ytfodcmcmbjopaab
open Go.RowKit Go.Maps Num

/-- A number was made. -/
def NumOut (m : Nat) (w : World) (e : Ending) (w' : World) : Prop :=
  ∃ a n c, e = .returned (.agg #[.slice a n c]) ∧ NatAt w' (.agg #[.slice a n c]) m ∧ Below w.heap.size w w'

theorem NatAt.open' {w : World} {v : Value} {m : Nat} (h : NatAt w v m) (hm : m < 1000000000 ^ 100) : ∃ s ds, v = .agg #[s] ∧ Dig .u64 w s ds ∧ Norm 1000000000 ds ∧ val 1000000000 ds = m ∧ ds.length ≤ 100 := by
  obtain ⟨x, e, ds, h1, h2, h3⟩ := h
  exact ⟨_, ds, e, h1, h2, h3, norm_len (by omega) h2 (by rw [h3]; exact hm)⟩
theorem numOut_mk {m : Nat} {w w' : World} {s : Value} {ds : List Nat} {e : Ending} (he : e = .returned (.agg #[s])) (h : Dig .u64 w' s ds) (hN : Norm 1000000000 ds) (hv : val 1000000000 ds = m) (hb : Below w.heap.size w w') : NumOut m w e w' := by
  obtain ⟨a, c, e3, -⟩ := id h
  subst e3
  exact ⟨a, _, c, he, natAt_mk h hN hv, hb⟩
theorem small_big {m : Nat} (h : m ≤ 100000000) : m < 1000000000 ^ 100 := Nat.lt_of_le_of_lt h (by decide +kernel)

section
variable {w : World} {r r1 r2 : Value} {m m1 m2 : Nat}
theorem num_add (h1 : NatAt w r1 m1) (h2 : NatAt w r2 m2) (l1 : m1 < 1000000000 ^ 100) (l2 : m2 < 1000000000 ^ 100) : Calls Try.prog 22 #[r1, r2] w (NumOut (m1 + m2) w) := by
  obtain ⟨s1, d1, rfl, g1, n1, v1, k1⟩ := h1.open' l1
  obtain ⟨s2, d2, rfl, g2, n2, v2, k2⟩ := h2.open' l2
  refine (add_any s1 s2 d1 d2 w g1 g2 n1.small n2.small (by omega) (by omega)).mono ?_
  rintro e w2 ⟨s3, he, d3, g3, n3, v3, -, hb⟩
  exact numOut_mk he g3 n3 (by rw [v3, v1, v2]) hb
theorem num_cmp (h1 : NatAt w r1 m1) (h2 : NatAt w r2 m2) (l1 : m1 < 1000000000 ^ 100) (l2 : m2 < 1000000000 ^ 100) : Calls Try.prog 23 #[r1, r2] w fun e w' => e = .returned (.int .i64 (cmpN m1 m2)) ∧ Below w.heap.size w w' := by
  obtain ⟨s1, d1, rfl, g1, n1, v1, k1⟩ := h1.open' l1
  obtain ⟨s2, d2, rfl, g2, n2, v2, k2⟩ := h2.open' l2
  have := cmp_any s1 s2 d1 d2 w g1 g2 n1.small n2.small (by omega) (by omega)
  rwa [v1, v2] at this
theorem num_of (n : Nat) (hn : n ≤ 9223372036854775807) (w : World) : Calls Try.prog 24 #[.int .i64 (n : Int)] w (NumOut n w) := by
  refine (of_any (n : Int) w (by omega) (by omega)).mono ?_
  rintro e w2 ⟨s3, he, d3, g3, n3, v3, hb⟩
  exact numOut_mk he g3 n3 (by rw [v3]; simp) hb
theorem num_double (t : Nat) (ht : t ≤ 1000) (h : NatAt w r m) (l : m < 1000000000 ^ 100) : Calls Try.prog 25 #[r, .int .i64 (t : Int)] w (NumOut (m * 2 ^ t) w) := by
  obtain ⟨s1, d1, rfl, g1, n1, v1, k1⟩ := h.open' l
  refine (double_any s1 d1 (t : Int) w g1 n1 (by omega) (by omega) (by omega)).mono ?_
  rintro e w2 ⟨s3, he, d3, g3, n3, v3, -, hb⟩
  exact numOut_mk he g3 n3 (by rw [v3, v1, show (min (t : Int) 1000).toNat = t by omega]) hb
end
end Go.Proofs.Ytfodcmcmbjopaab

namespace Go.Proofs.Ytfodcmcmbjopaab
open Go.RowKit Go.Maps Num

/-- A space, and the variable that has it. -/
structure QS (W0 w : World) (s b : Nat) (O : Nat → Prop) (vars : Nat) (ns : List Nd) (n ps : Nat) : Prop where
  st : SpSt W0 w s b O vars ns n
  cs : w.cell? ⟨ps, 0, none⟩ = some (.pointer (some ⟨s, 0, none⟩))
  o1 : ¬ O ps

section
variable {W0 w w' : World} {s b : Nat} {O O' : Nat → Prop} {vars : Nat} {ns ns' : List Nd} {n n' ps : Nat}
theorem QS.moved (h : QS W0 w s b O vars ns n ps) (hm : Moves O O' w w') (hst : SpSt W0 w' s b O' vars ns' n') : QS W0 w' s b O' vars ns' n' ps := by
  have ls := World.block_lt_of_cell? _ _ h.cs
  exact ⟨hst, (hm.cell (a := ⟨ps, 0, none⟩) ls h.o1).trans h.cs, hm.beside ls h.o1⟩
theorem QS.new (h : QS W0 w s b O vars ns n ps) (hb : Below w.heap.size w w') : QS W0 w' s b O vars ns n ps := h.moved (Moves.of_below O hb) (h.st.new hb)
theorem QS.op (h : QS W0 w s b O vars ns n ps) (hv : vars ≤ 6) {F : FuncId} {args : Array Value} {g : Fn'} (hc : Calls Try.prog F args w (OpIs W0.heap.size s b O vars 4000 ns g w)) :
    Calls Try.prog F args w fun e w' => ∃ (x : Int) (ns' : List Nd) (O' : Nat → Prop), e = .returned (.tuple #[.int .i64 x, .nilIface]) ∧ QS W0 w' s b O' vars ns' (n + 63) ps ∧ Ext ns ns' ∧ Is ns' x g := by
  have p6 : 2 ^ vars ≤ 64 := Nat.pow_le_pow_right (n := 2) (by omega) hv
  refine hc.mono ?_
  rintro e w' ⟨x, ns', O', he, hS, hM, hG, hX, hI, hl⟩
  refine ⟨x, ns', O', he, h.moved hM ⟨hS, hG, h.st.below.trans (hM.below h.st.below.size h.st.own), fun k hk => ?_, by have := h.st.len; omega⟩, hX, hI⟩
  rcases hM.own k hk with h1 | h1
  · exact h.st.own k h1
  · have := h.st.below.size; omega

set_option maxRecDepth 100000 in
set_option maxHeartbeats 1000000 in
theorem n_c (h : QS W0 w s b O vars ns n ps) (hv : vars ≤ 6) (hn : n ≤ 4000) (x : Int) (hx : hasB ns x = true) :
    Calls Try.prog 20 #[.int .i64 x, .pointer (some ⟨ps, 0, none⟩)] w (NumOut (waysN vars ns x 0) w) := by
  have hln := h.st.len
  have hb1 := below_new w (.cells #[.slice none 0 0] 42)
  have h1 := h.new hb1
  have HC := Lib.hid (count_any _ h1.st.space h1.st.good (by omega) (by omega) x hx)
  have cs := h1.cs
  have BX := Lib.hid (boxAt_new w)
  have HB1 := Lib.hid hb1
  generalize waysN vars ns x 0 = m at *
  clear h h1 hb1 hx
  go_enter Try.func20, Try.ntmps20
  go_wp2_with fail
  refine HC.out.mono ?_
  rintro e w2 ⟨v2, rfl, hn2, hb2⟩
  obtain ⟨⟨xa, xn, xc⟩, rfl, hx2⟩ := hn2
  have hn2 : NatAt w2 (NV.val ⟨xa, xn, xc⟩) m := ⟨_, rfl, hx2⟩
  have hb3 := below_new w2 (.cells #[.slice xa xn xc] 42)
  have bx := (BX.out.new hb2).new hb3
  have bc := bx.c
  have bf := bx.f
  have hcs : ((w2.alloc (.cells #[.slice xa xn xc] 42)).setCell ⟨w.heap.size, 0, none⟩ (.slice xa xn xc)).cell? ⟨w.heap.size, 0, none⟩ = some (.slice xa xn xc) := World.cell?_setCell_same _ _ _ bc
  have HFIN : Hid (NumOut m w (.returned (.agg #[.slice xa xn xc])) ((w2.alloc (.cells #[.slice xa xn xc] 42)).setCell ⟨w.heap.size, 0, none⟩ (.slice xa xn xc))) :=
    ⟨_, _, _, rfl, (hn2.new hb3).box bx.no _, ((HB1.out.trans (hb2.mono HB1.out.size)).trans (hb3.mono (HB1.out.trans (hb2.mono HB1.out.size)).size)).setCell (Nat.le_refl _) _⟩
  clear hn2 hx2 hb2 hb3 bx HC BX HB1 cs
  unfold NV.val
  go_wp2
  refine bodyPost_ret (v := .agg #[.slice xa xn xc]) (by simp [results, Try.results20, go_sem, hcs]) rfl HFIN.out
end
end Go.Proofs.Ytfodcmcmbjopaab

namespace Go.Proofs.Ytfodcmcmbjopaab
open Go.ChangeShapes Go.WideShapes Go.ChangeAt Go.RowKit Go.Maps Num

theorem at_is {vars : Nat} {ns : List Nd} {al : List Int} {T : List Fn'} (h : Sems vars ns al T) (hne : 0 < al.length) (x : Int) : alAt al x ∈ al ∧ ∃ g, Is ns (alAt al x) g := by
  have hl := pickV_lt x hne
  have e1 : alAt al x = al[pickV x al.length] := by unfold alAt; simp [List.getD_eq_getElem?_getD, List.getElem?_eq_getElem hl]
  obtain ⟨h1, h2⟩ := h.at hne x
  exact ⟨by rw [e1]; exact List.getElem_mem hl, _, h1, h2⟩

set_option maxRecDepth 100000 in
set_option maxHeartbeats 8000000 in
theorem counts_walk (vars : Nat) (hv0 : 0 < vars) (hv6 : vars ≤ 6) (xs : List Quad) (va : Value) (i k : Int) (w : World) (hx : ArgQuads w va xs) (hxl : xs.length ≤ 25) :
    Calls Try.prog 4 #[.int .i64 (vars : Int), va, .int .i64 i, .int .i64 k] w fun e w' => e = .returned (.bool true) ∧ Below w.heap.size w w' := by
  have HSP := Lib.hid (space_yes vars hv0 hv6 xs va w hx hxl)
  obtain ⟨hsem, hlen, hal⟩ := fun_ok hv0 hv6 xs [] [0, 1] _ (sems_start (good_nil vars)) (by simp) (by simp; omega)
  have hne : 0 < (funF vars ([], [0, 1]) xs).2.length := by rw [hal]; simp; omega
  obtain ⟨-, p, iA⟩ := at_is hsem hne i
  obtain ⟨-, q, iB⟩ := at_is hsem hne k
  have HG := Lib.hid hsem.good
  have hi64 : ∀ x ∈ (funF vars ([], [0, 1]) xs).2, I64 x := fun x hx => has_i64 (hsem.has x hx) (by simp at hlen; omega)
  unfold SpaceOut at HSP
  obtain ⟨a0, c0, rfl, -⟩ := hx
  clear hsem
  generalize funF vars ([], [0, 1]) xs = rr at *
  obtain ⟨ns0, al⟩ := rr
  simp only at HSP HG hlen hal iA iB hi64 hne
  have h27 : al.length ≤ 27 := by rw [hal]; simp; omega
  have hl0 : ns0.length ≤ 1575 := by simp at hlen; omega
  have HI64 := Lib.hid hi64
  have P1 : Hid (∀ W, Calls Try.prog 8 #[.int .i64 i, .int .i64 (al.length : Int)] W fun e w' => e = .returned (.int .i64 (pickV i al.length : Int)) ∧ W = w') := fun W => pick_any i al.length hne (by omega) W
  have P2 : Hid (∀ W, Calls Try.prog 8 #[.int .i64 k, .int .i64 (al.length : Int)] W fun e w' => e = .returned (.int .i64 (pickV k al.length : Int)) ∧ W = w') := fun W => pick_any k al.length hne (by omega) W
  have l1 := pickV_lt i hne
  have l2 := pickV_lt k hne
  clear hal hlen hi64
  go_enter Try.func4, Try.ntmps4
  go_wp2_with fail
  refine HSP.out.mono ?_
  rintro e w1 ⟨s, b, O, a, c, rfl, hS, hrow, hap, hO, hb1⟩
  obtain ⟨ga, rfl, hIA, -⟩ := ints_of_row hrow hne HI64.out
  have hapg := hap ga rfl
  have hw1 := hb1.size
  have hbx : Below w1.heap.size w1 (w1.alloc (.cells #[.pointer (some ⟨s, 0, none⟩)] 23)) := below_new w1 _
  have HT := Lib.hid (truth_any (w1.alloc (.cells #[.pointer (some ⟨s, 0, none⟩)] 23)))
  have x1 : (w1.alloc (.cells #[.pointer (some ⟨s, 0, none⟩)] 23)).cell? ⟨w1.heap.size, 0, none⟩ = some (.pointer (some ⟨s, 0, none⟩)) := by simp
  have hwx : (w1.alloc (.cells #[.pointer (some ⟨s, 0, none⟩)] 23)).heap.size = w1.heap.size + 1 := by simp
  have q0 : QS w (w1.alloc (.cells #[.pointer (some ⟨s, 0, none⟩)] 23)) s b O vars ns0 1575 w1.heap.size :=
    ⟨SpSt.new ⟨hS, HG.out, hb1, hO, hl0⟩ hbx, x1, hS.old (Nat.le_refl _)⟩
  have HQ := Lib.hid q0
  have HIA := Lib.hid hIA
  have HBX := Lib.hid hbx
  clear HSP hS hrow hap hO hb1 hIA hbx q0 x1
  go_wp2_with fail
  refine HT.out.mono ?_
  rintro e w2 ⟨rfl, hb2⟩
  generalize (w1.alloc (.cells #[.pointer (some ⟨s, 0, none⟩)] 23)) = WX at *
  have hq2 := HQ.out.new hb2
  have y1 := hq2.cs
  have hb3 := HBX.out.trans (hb2.mono HBX.out.size)
  have g1 : w2.cell? ⟨ga, pickV i al.length, none⟩ = some (.int .i64 (alAt al i)) := by
    rw [hb3.cell (p := ⟨ga, pickV i al.length, none⟩) HIA.out.lt, HIA.out.cells _ l1]; unfold alAt; simp [List.getD_eq_getElem?_getD, List.getElem?_eq_getElem l1]
  have g2 : w2.cell? ⟨ga, pickV k al.length, none⟩ = some (.int .i64 (alAt al k)) := by
    rw [hb3.cell (p := ⟨ga, pickV k al.length, none⟩) HIA.out.lt, HIA.out.cells _ l2]; unfold alAt; simp [List.getD_eq_getElem?_getD, List.getElem?_eq_getElem l2]
  generalize pickV i al.length = p1 at *
  generalize pickV k al.length = p2 at *
  generalize alAt al i = ha at *
  generalize alAt al k = hb at *
  have j1 : (p1 : Int) < (al.length : Int) := by omega
  have j2 : (p2 : Int) < (al.length : Int) := by omega
  have KA := Lib.hid iA
  have KB := Lib.hid iB
  have HQ2 := Lib.hid hq2
  clear HT hb2 hb3 HBX HQ hwx l1 l2 iA iB hq2 HIA HG
  go_wp2_with fail
  have SA : w2.drew.cell? ⟨ga, p1, none⟩ = some (.int .i64 ha) ∧ w2.drew.cell? ⟨ga, p2, none⟩ = some (.int .i64 hb) := ⟨g1, g2⟩
  go_region_held3 (fun X => X.cell? ⟨ga, p1, none⟩ = some (.int .i64 ha) ∧ X.cell? ⟨ga, p2, none⟩ = some (.int .i64 hb)) (exact SA)
    (first
      | (go_at_call 8; with_reducible refine (P1.out _).mono ?_; rintro e wz ⟨rfl, rfl⟩)
      | (go_at_call 8; with_reducible refine (P2.out _).mono ?_; rintro e wz ⟨rfl, rfl⟩))
  have q3 := HQ2.out.new (Below.refl _ w2).drew
  clear SA y1 g1 g2 P1 P2 HQ2 j1 j2 hapg
  generalize w2.drew = W4 at *
  have iA := KA.out
  have iB := KB.out
  have y4 := q3.cs
  have H1 := Lib.hid (q3.op hv6 (or_is q3.st.space q3.st.good (q3.st.room hv6 (by omega)) iA iB))
  have GR1 := Lib.hid q3.st.good.ranked
  clear q3 iA iB
  go_wp2_with fail
  refine H1.out.mono ?_
  rintro e w5 ⟨xo, ns1, O1, rfl, q5, x1, iO⟩
  have iA := KA.out.ext GR1.out x1
  have iB := KB.out.ext GR1.out x1
  clear H1 GR1 x1 KA KB y4
  have y5 := q5.cs
  have H2 := Lib.hid (q5.op hv6 (and_is q5.st.space q5.st.good (q5.st.room hv6 (by omega)) iA iB))
  have GR2 := Lib.hid q5.st.good.ranked
  have KA := Lib.hid iA
  have KB := Lib.hid iB
  have KO := Lib.hid iO
  clear q5 iA iB iO
  go_wp2_with fail
  refine H2.out.mono ?_
  rintro e w6 ⟨xn, ns2, O2, rfl, q6, x2, iN⟩
  have iA := KA.out.ext GR2.out x2
  have iB := KB.out.ext GR2.out x2
  have iO := KO.out.ext GR2.out x2
  clear H2 GR2 x2 KA KB KO y5
  have y6 := q6.cs
  have H3 := Lib.hid (q6.op hv6 (not_is q6.st.space q6.st.good (q6.st.room hv6 (by omega)) iA))
  have GR3 := Lib.hid q6.st.good.ranked
  have KA := Lib.hid iA
  have KB := Lib.hid iB
  have KO := Lib.hid iO
  have KN := Lib.hid iN
  clear q6 iA iB iO iN
  go_wp2_with fail
  refine H3.out.mono ?_
  rintro e w7 ⟨xt, ns3, O3, rfl, q7, x3, iT⟩
  have iA := KA.out.ext GR3.out x3
  have iB := KB.out.ext GR3.out x3
  have iO := KO.out.ext GR3.out x3
  have iN := KN.out.ext GR3.out x3
  clear H3 GR3 x3 KA KB KO KN y6
  have NC : Hid (∀ (W : World) (x : Int), Below w7.heap.size w7 W → hasB ns3 x = true → Calls Try.prog 20 #[.int .i64 x, .pointer (some ⟨w1.heap.size, 0, none⟩)] W (NumOut (waysN vars ns3 x 0) W)) := fun W x hW hx => n_c (q7.new hW) hv6 (by omega) x hx
  have mO := ways_is (vars := vars) iO.2
  have mN := ways_is (vars := vars) iN.2
  have mA := ways_is (vars := vars) iA.2
  have mB := ways_is (vars := vars) iB.2
  have mT := ways_is (vars := vars) iT.2
  have hoa := cntV_or_and p q vars 0 (fun _ => false)
  have hno := cntV_not p vars 0 (fun _ => false)
  rw [← mO, ← mN, ← mA, ← mB] at hoa
  rw [← mA, ← mT] at hno
  have NO := Lib.hid (fun W hW => NC.out W xo hW iO.1)
  have NN := Lib.hid (fun W hW => NC.out W xn hW iN.1)
  have NA := Lib.hid (fun W hW => NC.out W ha hW iA.1)
  have NB := Lib.hid (fun W hW => NC.out W hb hW iB.1)
  have NT := Lib.hid (fun W hW => NC.out W xt hW iT.1)
  have hb7 := Lib.hid q7.st.below
  have p6 : 2 ^ vars ≤ 64 := Nat.pow_le_pow_right (n := 2) (by omega) hv6
  have bA := cntV_le p vars 0 (fun _ => false)
  have bB := cntV_le q vars 0 (fun _ => false)
  rw [← mA] at bA
  rw [← mB] at bB
  clear mO mN mA mB mT NC iA iB iO iN iT q7
  generalize waysN vars ns3 xo 0 = nO at *
  generalize waysN vars ns3 xn 0 = nN at *
  generalize waysN vars ns3 ha 0 = nA at *
  generalize waysN vars ns3 hb 0 = nB at *
  generalize waysN vars ns3 xt 0 = nT at *
  generalize hP : 2 ^ vars = P at *
  have HP := Lib.hid hP
  have HOA := Lib.hid hoa
  have HNO := Lib.hid hno
  have b1 := small_big (m := nO) (by omega)
  have b2 := small_big (m := nN) (by omega)
  have b3 := small_big (m := nA) (by omega)
  have b4 := small_big (m := nB) (by omega)
  have b5 := small_big (m := nT) (by omega)
  have b6 := small_big (m := nO + nN) (by omega)
  have b7 := small_big (m := nA + nT) (by omega)
  clear hP hoa hno bA bB
  go_wp2_with fail
  refine (NO.out _ (Below.refl _ _)).mono ?_
  rintro e v1 ⟨a1, n1, c1, rfl, t1, d1⟩
  go_wp2_with fail
  refine (NN.out _ d1).mono ?_
  rintro e v2 ⟨a2, n2, c2, rfl, t2, f2⟩
  have d2 := d1.trans (f2.mono d1.size)
  replace t1 := t1.new f2
  have C1 := Lib.hid (num_add t1 t2 b1 b2)
  clear t1 t2 d1 f2
  go_wp2_with fail
  refine C1.out.mono ?_
  rintro e v3 ⟨a3, n3, c3, rfl, t3, f3⟩
  have d3 := d2.trans (f3.mono d2.size)
  clear C1 d2 f3
  go_wp2_with fail
  refine (NA.out _ d3).mono ?_
  rintro e v4 ⟨a4, n4, c4, rfl, t4, f4⟩
  have d4 := d3.trans (f4.mono d3.size)
  replace t3 := t3.new f4
  clear d3 f4
  go_wp2_with fail
  refine (NB.out _ d4).mono ?_
  rintro e v5 ⟨a5, n5, c5, rfl, t5, f5⟩
  have d5 := d4.trans (f5.mono d4.size)
  replace t3 := t3.new f5
  replace t4 := t4.new f5
  have C2 := Lib.hid (num_add t4 t5 b3 b4)
  clear t4 t5 d4 f5
  go_wp2_with fail
  refine C2.out.mono ?_
  rintro e v6 ⟨a6, n6, c6, rfl, t6, f6⟩
  have d6 := d5.trans (f6.mono d5.size)
  replace t3 := t3.new f6
  have C3 := num_cmp t3 t6 b6 (by rw [← HOA.out]; exact b6)
  rw [HOA.out, cmpN_eq] at C3
  have HC3 := Lib.hid C3
  clear C2 C3 t3 t6 d5 f6
  go_wp2_with fail
  refine HC3.out.mono ?_
  rintro e v7 ⟨rfl, f7⟩
  have d7 := d6.trans (f7.mono d6.size)
  clear HC3 d6 f7
  go_wp2_with fail
  refine (NA.out _ d7).mono ?_
  rintro e v8 ⟨a8, n8, c8, rfl, t8, f8⟩
  have d8 := d7.trans (f8.mono d7.size)
  clear d7 f8
  go_wp2_with fail
  refine (NT.out _ d8).mono ?_
  rintro e v9 ⟨a9, n9, c9, rfl, t9, f9⟩
  have d9 := d8.trans (f9.mono d8.size)
  replace t8 := t8.new f9
  have C4 := Lib.hid (num_add t8 t9 b3 b5)
  clear t8 t9 d8 f9
  go_wp2_with fail
  refine C4.out.mono ?_
  rintro e u1 ⟨a10, n10, c10, rfl, t10, f10⟩
  have d10 := d9.trans (f10.mono d9.size)
  have C5 := Lib.hid (num_of 1 (by omega) u1)
  clear C4 d9 f10
  go_wp2_with fail
  refine C5.out.mono ?_
  rintro e u2 ⟨a11, n11, c11, rfl, t11, f11⟩
  have d11 := d10.trans (f11.mono d10.size)
  replace t10 := t10.new f11
  have C6 := Lib.hid (num_double vars (by omega) t11 (small_big (by omega)))
  clear C5 d10 f11 t11
  go_wp2_with fail
  refine C6.out.mono ?_
  rintro e u3 ⟨a12, n12, c12, rfl, t12, f12⟩
  have d12 := d11.trans (f12.mono d11.size)
  replace t10 := t10.new f12
  rw [HP.out, Nat.one_mul, ← HNO.out] at t12
  have C7 := num_cmp t10 t12 b7 b7
  rw [cmpN_eq] at C7
  have HC7 := Lib.hid C7
  clear C6 C7 d11 f12 t10 t12
  go_wp2_with fail
  refine HC7.out.mono ?_
  rintro e u4 ⟨rfl, f13⟩
  have HFIN := Lib.hid (hb7.out.trans ((d12.trans (f13.mono d12.size)).mono hb7.out.size))
  clear HC7 d12 f13
  go_wp2
  go_ret
  exact ⟨rfl, HFIN.out⟩

set_option maxRecDepth 100000 in
set_option maxHeartbeats 2000000 in
theorem counts_no (vars : Int) (xs : List Quad) (va : Value) (i k : Int) (w : World) (hx : ArgQuads w va xs) (hn : xs.length ≤ 9223372036854775807) (h : vars < 1 ∨ 6 < vars ∨ 25 < xs.length) :
    Calls Try.prog 4 #[.int .i64 vars, va, .int .i64 i, .int .i64 k] w fun e w' => e = .returned (.bool true) ∧ Below w.heap.size w w' := by
  obtain ⟨a, c, rfl, -⟩ := hx
  have HS := Lib.hid (space_no vars a xs.length c h hn w)
  clear h
  go_enter Try.func4, Try.ntmps4
  go_wp2_with fail
  refine HS.out.mono ?_
  rintro e w1 ⟨rfl, rfl⟩
  go_wp2
  go_ret
  exact ⟨rfl, below_new w _⟩

theorem counts_any (vars : Int) (xs : List Quad) (va : Value) (i k : Int) (w : World) (hx : ArgQuads w va xs) (hn : xs.length ≤ 9223372036854775807) :
    Calls Try.prog 4 #[.int .i64 vars, va, .int .i64 i, .int .i64 k] w fun e w' => e = .returned (.bool true) ∧ Below w.heap.size w w' := by
  by_cases h : vars < 1 ∨ 6 < vars ∨ 25 < xs.length
  · exact counts_no vars xs va i k w hx hn h
  · obtain ⟨n, rfl⟩ : ∃ n : Nat, vars = (n : Int) := ⟨vars.toNat, by omega⟩
    exact counts_walk n (by omega) (by omega) xs va i k w hx (by omega)

theorem own : ownKnob Try.prog.godebug = none := by kernel_rfl

set_option maxRecDepth 100000 in
theorem counts_lifted (os : Os) (started : os.Started) (H : Type) (enc : TypeId × Value → H) :
    ReturnsInHanded {} Try.checked os 4 .any (Rows.bddCountsSpec.pre6 enc Try.prog Try.f4 Rows.bddCountsRow.domain false) (Rows.bddCountsSpec.post enc Try.prog Try.f4 false true false false) := by
  refine returnsInHanded_of_change_sized (C := Try.checked) own started (by kernel_rfl) Try.func4
    (ChangeSpec.witness6 (enc := enc) (C := Try.checked) false ⟨#[], #[.int .i64 0, .slice none 0 0, .int .i64 0, .int .i64 0], []⟩ 8 (by kernel_rfl) (by kernel_rfl) (by kernel_rfl) (by kernel_rfl)) ?_
  intro W base args ds gs before hval0 hW _ _ _
  have hval : ∀ (j : Nat) t v, Try.f4.params[j]? = some t → args[j]? = some v → Value.okWide Try.prog W .any base t v := hval0
  have hW' := hW
  obtain ⟨p, q, hA0, hV, rfl, _, _⟩ := hW
  have hA : DataW.TrodAll enc Try.prog W 0 (fun _ => true) true Try.f4.params.toList args.toList ds p := hA0
  rw [Try.params4] at hA hval
  obtain ⟨v0, vs0, d0, ds0, p0, q0, hargs, rfl, rfl, h0, r0⟩ := trodAll_cons hA
  obtain ⟨v1, vs1, d1, ds1, p1, q1, rfl, rfl, rfl, h1, r1⟩ := trodAll_cons r0
  obtain ⟨v2, vs2, d2, ds2, p2, q2, rfl, rfl, rfl, h2, r2⟩ := trodAll_cons r1
  obtain ⟨v3, vs3, d3, ds3, p3, q3, rfl, rfl, rfl, h3, r3⟩ := trodAll_cons r2
  obtain ⟨rfl, rfl, rfl⟩ := trodAll_nil r3
  obtain rfl : args = #[v0, v1, v2, v3] := by cases args; simp_all
  obtain ⟨rfl, rfl⟩ := trodVars_none hV
  obtain ⟨n0, rfl, rfl, rfl, wn0⟩ := open_int Try.underlying3 (hval 0 3 v0 rfl rfl) h0
  obtain ⟨a1, l1, c1, rfl⟩ := okWide_slice Try.underlying22 (hval 1 22 v1 rfl rfl)
  obtain ⟨n2, rfl, rfl, rfl, wn2⟩ := open_int Try.underlying3 (hval 2 3 v2 rfl rfl) h2
  obtain ⟨n3, rfl, rfl, rfl, wn3⟩ := open_int Try.underlying3 (hval 3 3 v3 rfl rfl) h3
  clear hA0 hval0
  have hlt : ∀ x ∈ [] ++ (p1 ++ ([] ++ ([] ++ []))) ++ [], x.block < W.heap.size := fun x hx => by simpa using hW'.lt x hx
  obtain ⟨xs, g1, b1⟩ := argQuads h1
  refine (counts_any n0 xs _ n2 n3 W g1 b1).mono fun e W' ⟨he, hg⟩ => ?_
  subst he
  have t1 := Below.trod laidOut (by kernel_rfl) (of_decide_eq_true (by kernel_rfl)) h1 hg (fun x hx => hlt x (by simp [hx]))
  exact ⟨_, rfl, _, _, _, [], _, [], hW', trodAll_mk1 (shut_bool Try.underlying4 _), trodAll_cons_mk (shut_int Try.underlying3 wn0) (trodAll_cons_mk t1 (trodAll_cons_mk (shut_int Try.underlying3 wn2) (trodAll_cons_mk (shut_int Try.underlying3 wn3) trodAll_mk0))), rfl, hg.frame _, fun h => by cases h⟩

theorem bddCounts_holds : Rows.BddCountsSaid :=
  OpenClaim.holds_of_wide 4 Try.f4 rfl rfl rfl rfl rfl rfl rfl ⟨rfl, rfl, rfl, rfl, rfl⟩ rfl rfl rfl rfl rfl (by kernel_rfl) Try.func4 (by kernel_rfl)
    (of_decide_eq_true (by kernel_rfl)) (by unfold Func.isWrapper; first | (rw [if_pos (by decide +kernel)]; kernel_rfl) | (rw [if_neg (by decide +kernel)]; exact ⟨rfl, rfl⟩))
    (fun os started H enc _ => counts_lifted os started H enc)
end Go.Proofs.Ytfodcmcmbjopaab
