/- For every number of things and every list of steps: two of the families that the steps make have the same handle just if they have the same sets. No condition. -/
import Derived.Test.YtbklgjmkdhinpaaFmRFamP
import Derived.Test.YtbklgjmkdhinpaaFmLSets
import Derived.Test.YtbklgjmkdhinpaaFmRSets
import Derived.Test.YtbklgjmkdhinpaaRows
import Derived.Test.YtbklgjmkdhinpaaChecked
import Derived.ProofKit
import Derived.SizedLaws
import Derived.OpenShut
set_option maxHeartbeats 4000000
set_option maxRecDepth 100000
namespace Go.Proofs.Ytbklgjmkdhinpaa.Fm
open Go.RowKit Go.Maps Go.Proofs.Ytbklgjmkdhinpaa.Bd
def UArg (w : World) (v : Value) (l : List Nat) : Prop := ∃ a c, v = .slice a l.length c /\ ∀ i, i < l.length -> ∃ g, a = some ⟨g, 0, none⟩ /\ g < w.heap.size /\ w.cell? ⟨g, i, none⟩ = some (.int .u64 (l.getD i 0 : Nat))
theorem UArg.below {w w' : World} {v : Value} {l : List Nat} (h : UArg w v l) (hb : Below w.heap.size w w') : UArg w' v l := by
 obtain ⟨a, c, e, h⟩ := h
 refine ⟨a, c, e, fun i hi => ?_⟩
 obtain ⟨g, h1, h2, h3⟩ := h i hi
 exact ⟨g, h1, Nat.lt_of_lt_of_le h2 hb.size, (hb.cell (p := ⟨g, i, none⟩) h2).trans h3⟩
theorem UArg.of_row {B : Nat} {w : World} {v : Value} {l : List Nat} (h : w.ownsRow B 50 1 v l.length (ucells l)) : UArg w v l := by
 obtain ⟨a, c, rfl⟩ := urow_form h
 refine ⟨a, c, rfl, fun i hi => ?_⟩
 obtain ⟨g, rfl, hc⟩ := urow_cell h i hi
 exact ⟨g, rfl, (h.lt g rfl).2, hc⟩
theorem rising_eq : ∀ {l m : List Nat}, l.Pairwise (· < ·) -> m.Pairwise (· < ·) -> (∀ x, x ∈ l ↔ x ∈ m) -> l = m
 | [], [], _, _, _ => rfl
 | [], b :: m, _, _, h => by have := (h b).2 (List.mem_cons_self ..); cases this
 | a :: l, [], _, _, h => by have := (h a).1 (List.mem_cons_self ..); cases this
 | a :: l, b :: m, h1, h2, h => by
  rw [List.pairwise_cons] at h1 h2
  have e : a = b := by
   rcases List.mem_cons.1 ((h a).1 (List.mem_cons_self ..)) with e | e
   ·exact e
   ·rcases List.mem_cons.1 ((h b).2 (List.mem_cons_self ..)) with e2 | e2
    ·exact e2.symm
    ·have := h1.1 b e2; have := h2.1 a e; omega
  subst e
  rw [rising_eq h1.2 h2.2 (fun x => by
   have hx := h x
   rw [List.mem_cons, List.mem_cons] at hx
   constructor
   ·intro k
    rcases hx.1 (.inr k) with e | e
    ·subst e; have := h1.1 x k; omega
    ·exact e
   ·intro k
    rcases hx.2 (.inr k) with e | e
    ·subst e; have := h2.1 x k; omega
    ·exact e)]
theorem same_step {l m : List Nat} {k : Nat} (h1 : k < l.length) (h2 : k < m.length) (h : l.take k = m.take k) : l.take (k + 1) = m.take (k + 1) ↔ l.getD k 0 = m.getD k 0 := by
 rw [List.take_succ_eq_append_getElem h1, List.take_succ_eq_append_getElem h2, h]
 simp only [List.append_cancel_left_eq, List.cons.injEq, and_true, List.getD_eq_getElem?_getD, List.getElem?_eq_getElem h1, List.getElem?_eq_getElem h2, Option.getD_some]
theorem sameU_any (w : World) (v1 v2 : Value) (l m : List Nat) (h1 : UArg w v1 l) (h2 : UArg w v2 m) (hl : l.length <= 1000000) :
  Calls Try.prog 9 #[v1, v2] w fun e w' => e = .returned (.bool (decide (l = m))) /\ Below w.heap.size w w' := by
 obtain ⟨a, c, rfl, h1⟩ := h1
 obtain ⟨a', c', rfl, h2⟩ := h2
 by_cases hlen : l.length = m.length
 ·have H1 := Lib.hid h1
  have H2 := Lib.hid h2
  have HLE := Lib.hid hlen
  obtain ⟨n, hn⟩ : ∃ n, n = l.length := ⟨_, rfl⟩
  have hnm : n = m.length := hn.trans hlen
  rw [<- hn, <- hnm]
  have HN := Lib.hid hn
  have HNM := Lib.hid hnm
  have hnb : n <= 1000000 := by omega
  have enn : (n != n) = false := by simp
  clear h1 h2 hlen hl hn hnm
  go_enter Try.func9, Try.ntmps9
  go_wp2_with fail
  go_loopw [5] (fun i wr => ∃ k : Nat, k <= n /\ i = .int .i64 (k : Int) /\ l.take k = m.take k /\ Below w.heap.size w wr) (fun i _ => n - (intOf i).toNat)
  case atStart => exact ⟨0, Nat.zero_le _, rfl, rfl, Below.refl _ _⟩
  case round =>
   obtain ⟨k, hk, rfl, htk, hb⟩ := hrel
   by_cases hlt : k < n
   ·obtain ⟨g, rfl, hg, hc⟩ := H1.out k (by rw [<- HN.out]; exact hlt)
    obtain ⟨g', rfl, hg', hc'⟩ := H2.out k (by rw [<- HNM.out]; exact hlt)
    have a0 := (hb.cell (p := ⟨g, k, none⟩) hg).trans hc
    have b0 := (hb.cell (p := ⟨g', k, none⟩) hg').trans hc'
    have i1 : (k : Int) < (n : Int) := by omega
    have hst := same_step (by rw [<- HN.out]; exact hlt) (by rw [<- HNM.out]; exact hlt) htk
    have HST := Lib.hid hst
    have HB := Lib.hid hb
    clear htk hc hc' hst hb
    obtain ⟨x, hx⟩ : ∃ x, x = l.getD k 0 := ⟨_, rfl⟩
    obtain ⟨y, hy⟩ : ∃ y, y = m.getD k 0 := ⟨_, rfl⟩
    rw [<- hx] at a0
    rw [<- hy] at b0
    rw [<- hx, <- hy] at HST
    clear hx hy
    by_cases e : x = y
    ·subst e
     have HT := Lib.hid (HST.out.2 rfl)
     clear HST
     have exx : (((x : Int)) != ((x : Int))) = false := by simp
     go_wp2_with fail
     go_quiet (fail)
     go_wp2
     go_roundw
     case rel => exact ⟨k + 1, by omega, by go_num, HT.out, below_drewN HB.out _⟩
     case measure => simp [intOf]; omega
    ·have exy : (((x : Int)) != ((y : Int))) = true := by simp; omega
     have hne : l ≠ m := fun k2 => e (HST.out.1 (by rw [k2]))
     have HD := Lib.hid (decide_eq_false hne)
     clear HST hne
     go_wp2_with fail
     go_quiet (fail)
     go_wp2
     go_ret
     exact ⟨by rw [HD.out]; rfl, below_drewN HB.out _⟩
   ·obtain rfl : n = k := by omega
    have hlm : l = m := by
     have e1 : l.take n = l := by rw [HN.out]; exact List.take_length ..
     have e2 : m.take n = m := by rw [HNM.out]; exact List.take_length ..
     rw [e1, e2] at htk; exact htk
    have HD := Lib.hid (decide_eq_true hlm)
    clear htk hlm
    go_wp2
    go_ret
    exact ⟨by rw [HD.out]; rfl, hb⟩
 ·have hne : l ≠ m := fun k => hlen (by rw [k])
  have HD := Lib.hid (decide_eq_false hne)
  have e : (((l.length : Int)) != ((m.length : Int))) = true := by simp; omega
  clear h1 h2 hne
  generalize l.length = n1 at *
  generalize m.length = n2 at *
  go_enter Try.func9, Try.ntmps9
  go_wp2
  go_ret
  exact ⟨by rw [HD.out]; rfl, Below.refl _ _⟩
end Go.Proofs.Ytbklgjmkdhinpaa.Fm
namespace Go.Proofs.Ytbklgjmkdhinpaa.Fm
open Go.ChangeShapes Go.WideShapes Go.ChangeAt Go.RowKit Go.Maps Go.Proofs.Ytbklgjmkdhinpaa.Bd
theorem small_len {L : List Nat} (h : L.Pairwise (· < ·)) (h6 : ∀ x ∈ L, x < 64) : L.length <= 64 := nodupLe 64 L (h.imp (fun h => by omega)) h6
theorem same_handles {vars : Nat} {ns : List Nd} {al : List Int} {T : List Fam} (hg : Good vars ns) (h : Sems vars ns al T) {i k : Nat} (hi : i < al.length) (hk : k < al.length) {L M : List Nat} (hL : L.Pairwise (· < ·)) (hM : M.Pairwise (· < ·)) (e1 : ∀ x, x ∈ L ↔ (T[i]'(by rw [<- h.len]; exact hi)) x) (e2 : ∀ x, x ∈ M ↔ (T[k]'(by rw [<- h.len]; exact hk)) x) :
  (al[i] == al[k]) = decide (L = M) := by
 have h1 := h.mem i hi (by rw [<- h.len]; exact hi)
 have h2 := h.mem k hk (by rw [<- h.len]; exact hk)
 rw [Bool.eq_iff_iff, beq_iff_eq, decide_eq_true_eq]
 constructor
 ·intro e
  refine rising_eq hL hM (fun x => ?_)
  rw [e1, e2, <- h1, <- h2, e]
 ·intro e
  refine same_handle hg (h.has _ (List.getElem_mem hi)) (h.has _ (List.getElem_mem hk)) (fun y => ?_)
  rw [h1, h2, <- e1, <- e2, e]
theorem fsame_walk (vars : Nat) (hv6 : vars <= 6) (xs : List Quad) (va : Value) (w : World) (hx : ArgQuads w va xs) (hxl : xs.length <= 20) :
  Calls Try.prog 3 #[.int .i64 (vars : Int), va] w fun e w' => e = .returned (.bool true) /\ Below w.heap.size w w' := by
 have HM := Lib.hid (lsets_yes vars hv6 xs va w hx hxl)
 obtain ⟨a0, c0, rfl, -⟩ := hx
 have HSMALL := Lib.hid (famT_small hv6 xs _ small_start)
 go_enter Try.func3, Try.ntmps3
 go_wp2_with fail
 refine HM.out.mono ?_
 rintro e w1 ⟨s, b, O, ns, al, ga, c, tv, gs, rfl, hm⟩
 have hints := hm.ints
 have hfams := hm.fams
 have HSEM := Lib.hid hm.sems
 have HG := Lib.hid hm.fam.good
 have HB1 := Lib.hid hm.below
 have hgl : gs.length = al.length := by rw [hfams.len, hm.sems.len]
 have hne : 0 < al.length := by
  have := hm.sems.len
  rw [famT_len] at this
  simp at this; omega
 have hN27 : al.length <= 22 := by
  have := hm.sems.len
  rw [famT_len] at this
  simp at this; omega
 have hTN : (famT vars [fun _ => False, fun y => y = 0] xs).length = al.length := hm.sems.len.symm
 clear hm
 generalize famT vars [fun _ => False, fun y => y = 0] xs = T at *
 obtain ⟨tg, tc, rfl, htg, htc⟩ := hfams.cell (by omega)
 obtain ⟨N, hN⟩ : ∃ N, N = al.length := ⟨_, rfl⟩
 have HTC : Hid (∀ X, Below w1.heap.size w1 X -> ∀ i (hi : i < gs.length), X.cell? ⟨tg, i, none⟩ = some (.map (some gs[i]))) := fun X hX i hi => (hX.cell (p := ⟨tg, i, none⟩) htg).trans (htc i _ (List.getElem?_eq_getElem hi))
 have HIC : Hid (∀ X, Below w1.heap.size w1 X -> ∀ i (hi : i < al.length), X.cell? ⟨ga, i, none⟩ = some (.int .i64 al[i])) := fun X hX i hi => (hX.cell (p := ⟨ga, i, none⟩) hints.lt).trans (hints.cells i hi)
 have HSETS : Hid (∀ X, Below w1.heap.size w1 X -> ∀ i (hi : i < gs.length) (h1 : i < T.length), Calls Try.prog 10 #[.map (some gs[i])] X (RSets T[i] X)) := fun X hX i hi h1 => rsets_any X gs[i] ((hfams.fams i hi h1).below hX) (HSMALL.out _ (List.getElem_mem h1))
 have HTN := Lib.hid hTN
 have HGL := Lib.hid hgl
 have HN := Lib.hid hN
 rw [hgl, <- hN]
 rw [<- hN] at hne hN27
 have eNN : (N != N) = false := by simp
 clear hints hfams htc hgl hTN hN HM
 go_wp2_with fail
 go_loopw [9] (fun iV wr => ∃ i : Nat, i <= N /\ iV = .int .i64 (i : Int) /\ Below w1.heap.size w1 wr) (fun iV _ => N - (intOf iV).toNat)
 case atStart => exact ⟨0, Nat.zero_le _, rfl, Below.refl _ _⟩
 case round =>
  obtain ⟨i, hi, rfl, hbi⟩ := hrel
  by_cases hlt : i < N
  ·have HBI := Lib.hid hbi
   have i1 : (i : Int) < (N : Int) := by omega
   clear hbi
   go_wp2_with fail
   go_loopw [10] (fun kV wr => ∃ k : Nat, k <= N /\ kV = .int .i64 (k : Int) /\ Below w1.heap.size w1 wr) (fun kV _ => N - (intOf kV).toNat)
   case atStart => exact ⟨0, Nat.zero_le _, rfl, HBI.out⟩
   case round =>
    obtain ⟨k, hk, rfl, hbk⟩ := hrel
    by_cases hltk : k < N
    ·have k1 : (k : Int) < (N : Int) := by omega
     have li : i < al.length := by rw [<- HN.out]; exact hlt
     have lk : k < al.length := by rw [<- HN.out]; exact hltk
     have gi : i < gs.length := by rw [HGL.out]; exact li
     have gk : k < gs.length := by rw [HGL.out]; exact lk
     have hbd : Below w1.heap.size w1 wr.drew := hbk.drew
     have HEQ : Hid (∀ L M : List Nat, L.Pairwise (· < ·) -> M.Pairwise (· < ·) -> (∀ x, x ∈ L ↔ (T[i]'(by rw [HTN.out]; exact li)) x) -> (∀ x, x ∈ M ↔ (T[k]'(by rw [HTN.out]; exact lk)) x) -> (al[i] == al[k]) = decide (L = M)) := fun L M h1 h2 h3 h4 => same_handles HG.out HSEM.out li lk h1 h2 h3 h4
     have HSI := HSMALL.out _ (List.getElem_mem (by rw [HTN.out]; exact li : i < T.length))
     have HSK := HSMALL.out _ (List.getElem_mem (by rw [HTN.out]; exact lk : k < T.length))
     have HSA : Hid (∀ X, Below w1.heap.size w1 X -> Calls Try.prog 10 #[.map (some gs[i])] X fun e X' => ∃ (L : List Nat) (a : Option Addr) (c : Nat), e = .returned (.slice a L.length c) /\ (∀ Y, Below X'.heap.size X' Y -> UArg Y (.slice a L.length c) L) /\ L.Pairwise (· < ·) /\ (∀ x, x ∈ L ↔ (T[i]'(by rw [HTN.out]; exact li)) x) /\ Below w1.heap.size w1 X' /\ Below X.heap.size X X') := fun X hX => (HSETS.out X hX i gi (by rw [HTN.out]; exact li)).mono (fun e X' ⟨L, a, c, h1, h2, h3, h4, h5⟩ => ⟨L, a, c, h1, fun Y hY => (UArg.of_row h2).below hY, h3, h4, hX.trans (h5.mono hX.size), h5⟩)
     have HSB : Hid (∀ X, Below w1.heap.size w1 X -> Calls Try.prog 10 #[.map (some gs[k])] X fun e X' => ∃ (L : List Nat) (a : Option Addr) (c : Nat), e = .returned (.slice a L.length c) /\ (∀ Y, Below X'.heap.size X' Y -> UArg Y (.slice a L.length c) L) /\ L.Pairwise (· < ·) /\ (∀ x, x ∈ L ↔ (T[k]'(by rw [HTN.out]; exact lk)) x) /\ Below w1.heap.size w1 X' /\ Below X.heap.size X X') := fun X hX => (HSETS.out X hX k gk (by rw [HTN.out]; exact lk)).mono (fun e X' ⟨L, a, c, h1, h2, h3, h4, h5⟩ => ⟨L, a, c, h1, fun Y hY => (UArg.of_row h2).below hY, h3, h4, hX.trans (h5.mono hX.size), h5⟩)
     have SK : Hid (∀ X, Below w1.heap.size w1 X -> X.cell? ⟨ga, i, none⟩ = some (.int .i64 al[i]) /\ X.cell? ⟨ga, k, none⟩ = some (.int .i64 al[k]) /\ X.cell? ⟨tg, i, none⟩ = some (.map (some gs[i])) /\ X.cell? ⟨tg, k, none⟩ = some (.map (some gs[k]))) := fun X hX => ⟨HIC.out X hX i li, HIC.out X hX k lk, HTC.out X hX i gi, HTC.out X hX k gk⟩
     have HBD := Lib.hid hbd
     have S0 := SK.out _ hbd
     generalize T[i]'(by rw [HTN.out]; exact li) = A at *
     generalize T[k]'(by rw [HTN.out]; exact lk) = C at *
     generalize gs[i] = g1 at *
     generalize gs[k] = g2 at *
     generalize al[i] = x1 at *
     generalize al[k] = x2 at *
     have HSS : Hid (∀ (X : World) (L M : List Nat) (va vb : Value), UArg X va L -> UArg X vb M -> L.Pairwise (· < ·) -> (∀ x, x ∈ L ↔ A x) -> M.Pairwise (· < ·) -> (∀ x, x ∈ M ↔ C x) -> Calls Try.prog 9 #[va, vb] X fun e X' => e = .returned (.bool (x1 == x2)) /\ Below X.heap.size X X') := fun X L M va vb h1 h2 h3 h4 h5 h6 => by
      rw [HEQ.out L M h3 h5 h4 h6]
      exact sameU_any X va vb L M h1 h2 (by have := small_len h3 (fun x hx => HSI x ((h4 x).1 hx)); omega)
     have CA := HSA.out _ hbd
     have CB := HSB.out _ hbd
     have enn : ((x1 == x2) != (x1 == x2)) = false := by simp
     clear hbk hbd HEQ HSI HSK HSETS
     go_wp2_with fail
     go_region_held3 (fun X => X.cell? ⟨ga, i, none⟩ = some (.int .i64 x1) /\ X.cell? ⟨ga, k, none⟩ = some (.int .i64 x2) /\ X.cell? ⟨tg, i, none⟩ = some (.map (some g1)) /\ X.cell? ⟨tg, k, none⟩ = some (.map (some g2))) (first | exact S0 | exact hs2 | exact hs3 | exact hsS)
      (first
       | (go_at_call 10; with_reducible refine CB2.mono ?_; rintro e wB ⟨LB, aB, cB, rfl, uB, sB, mB, bB, bbB⟩; have hs3 := SK.out wB bB; have CS := HSS.out wB LA LB _ _ (uA wB bbB) (uB wB (Below.refl _ _)) sA mA sB mB; have hb4 := bB; clear CB2 uA uB sA sB mA mB bB bbB)
       | (go_at_call 10; with_reducible refine CA2.mono ?_; rintro e wA ⟨LA, aA, cA, rfl, uA, sA, mA, bA, bbA⟩; have hs3 := SK.out wA bA; have CS := HSS.out wA LA LB _ _ (uA wA (Below.refl _ _)) (uB wA bbA) sA mA sB mB; have hb4 := bA; clear CA2 uA uB sA sB mA mB bA bbA)
       | (go_at_call 10; with_reducible refine CA.mono ?_; rintro e wA ⟨LA, aA, cA, rfl, uA, sA, mA, bA, bbA⟩; have hs2 := SK.out wA bA; have CB2 := HSB.out wA bA; clear CA CB bA bbA)
       | (go_at_call 10; with_reducible refine CB.mono ?_; rintro e wB ⟨LB, aB, cB, rfl, uB, sB, mB, bB, bbB⟩; have hs2 := SK.out wB bB; have CA2 := HSA.out wB bB; clear CA CB bB bbB)
       | (go_at_call 9; with_reducible refine CS.mono ?_; rintro e wS ⟨rfl, bS⟩; have hbS := hb4.trans (bS.mono hb4.size); have hsS := SK.out wS hbS; clear CS hb4 bS))
     all_goals
      have HBS := Lib.hid hbS
      clear hbS hsS hs3 hs2 S0 SK HSA HSB HSS
      go_wp2
      go_roundw
      case rel => exact ⟨k + 1, by omega, by go_num, HBS.out⟩
      case measure => simp [intOf]; omega
    ·obtain rfl : N = k := by omega
     have HBK := Lib.hid hbk
     clear hbk
     go_wp2
     go_roundw
     case rel => exact ⟨i + 1, by omega, by go_num, HBK.out⟩
     case measure => simp [intOf]; omega
  ·obtain rfl : N = i := by omega
   have HBK := Lib.hid (HB1.out.trans (hbi.mono HB1.out.size))
   clear hbi
   go_wp2
   go_ret
   exact ⟨rfl, HBK.out⟩
end Go.Proofs.Ytbklgjmkdhinpaa.Fm
