/- For every number of variables and every list of steps: the k-th values of which the last function is true are, for each k, those of its table, in order; behind the last one there are none. No condition; one variable of the library is as the program's text lays it (the card ties it). -/
import Derived.Test.YtfodcmcmbjopaaaDoorCards
import Derived.Test.YtfodcmcmbjopaaaDoorTie
import Derived.Test.YtfodcmcmbjopaaaDoorErBare
import Derived.ProofKit
import Derived.OpenShut
import Derived.Deep.DeepHandedRow
import Derived.LaidHandle
import Derived.LaidSub
import Derived.Test.YtfodcmcmbjopaaaDoorBdKthW
import Derived.Test.YtfodcmcmbjopaaaDoorBdAllT
import Derived.Test.YtfodcmcmbjopaaaDoorBdMade
import Derived.SizedLaws
namespace Go.Proofs.YtfodcmcmbjopaaaDoor
open Go.ChangeShapes Go.WideShapes Go.ChangeAt Go.RowKit

theorem own : ownKnob Tryd.prog.godebug = none := by kernel_rfl
theorem gErr : Tryd.prog.globalNamed "errors.errorType" = some 0 := by kernel_rfl
theorem rtypeIs : (Tryd.prog.cutTypes.find? (·.1 == "internal/reflectlite.rtype")).map (·.2) = some 141 := by kernel_rfl
theorem oneRow : ((List.range 181).filter fun t => Tryd.prog.rowNamed t [101, 114, 114, 111, 114]) = [34] := by kernel_rfl
theorem typesSize : Tryd.prog.types.size = 181 := by kernel_rfl

theorem glob_of {W : World} {l : List (String × DataW Unit)} (h : laidMetH Tryd.prog l W) (hk : (l.filter fun x => x.1 == "errors.errorType") = [("errors.errorType", Rows.laid_errors_errorType)]) : Glob W := by
  have h2 := h.filter fun x => x.1 == "errors.errorType"
  rw [hk] at h2
  have h3 : laidMet Tryd.prog [] W ∧ handlesMet Tryd.prog [("errors.errorType", Rows.laid_errors_errorType)] W := h2
  obtain ⟨name, u, ty, e1, e2, e3, e4, e5⟩ := h3.2 _ (List.mem_singleton.2 rfl)
  have en : name = [101, 114, 114, 111, 114] := (Option.some.inj e1).symm
  subst en
  obtain rfl := Option.some.inj (rtypeIs.symm.trans e2)
  have hm : ty ∈ (List.range 181).filter fun t => Tryd.prog.rowNamed t [101, 114, 114, 111, 114] := List.mem_filter.2 ⟨List.mem_range.2 (by rw [← typesSize]; exact e3), e4⟩
  rw [oneRow] at hm
  obtain rfl := List.mem_singleton.1 hm
  have hh : typeHandle Tryd.prog 34 = .pointer (some ⟨1, 34, none⟩) := by kernel_rfl
  rw [hh] at e5
  have h6 := World.var?_cell gErr e5 0
  unfold Glob; simpa using h6

/-- A block that holds other cells. -/
def refill (cs : Array Value) : Obj → Obj
  | .cells _ t frozen => .cells cs t frozen
  | o => o

noncomputable def laidWorld (os : Os) : World :=
  { World.holding Tryd.prog os ⟨#[], #[], []⟩ with heap := (World.holding Tryd.prog os ⟨#[], #[], []⟩).heap.modify 0 (refill #[.iface 141 (.agg #[.pointer (some ⟨1, 34, none⟩)])]) }
end Go.Proofs.YtfodcmcmbjopaaaDoor

namespace Go.Proofs.YtfodcmcmbjopaaaDoor
open Go.RowKit Go.Maps Num

theorem last_sem {vars : Nat} {ns : List Nd} {al : List Int} {T : List Fn'} (h : Sems vars ns al T) {N : Nat} (hN : N = al.length) (hne : 0 < N) :
    ∃ (fh : Int) (gf : Fn') (h1 : N - 1 < al.length) (h2 : N - 1 < T.length), al[N - 1] = fh ∧ T[N - 1] = gf ∧ hasB ns fh = true ∧ ∀ f, sem ns fh f = gf f := by
  have h1 : N - 1 < al.length := by omega
  have h2 : N - 1 < T.length := by rw [← h.len]; exact h1
  exact ⟨_, _, h1, h2, rfl, rfl, h.has _ (List.getElem_mem h1), fun f => h.sem _ h1 h2 f⟩
theorem big200 : 1 * 2 ^ 200 < bigN := by rw [bigN_eq]; decide +kernel
theorem far200 : ¬ (1 * 2 ^ 200 : Nat) < 65 := by decide +kernel

set_option maxRecDepth 100000 in
set_option maxHeartbeats 4000000 in
theorem kths_walk (vars : Nat) (hv0 : 0 < vars) (hv6 : vars ≤ 6) (xs : List Quad) (va : Value) (w : World) (hgl : Glob w) (hx : ArgQuads w va xs) (hxl : xs.length ≤ 25) :
    Calls Tryd.prog 3 #[.int .i64 (vars : Int), va] w fun e w' => e = .returned (.bool true) ∧ Below w.heap.size w w' := by
  have HM := Lib.hid (made_yes vars hv0 hv6 xs va w hx hxl)
  obtain ⟨hsem, hlen, hal⟩ := fun_ok hv0 hv6 xs [] [0, 1] _ (sems_start (good_nil vars)) (by simp) (by simp; omega)
  have p6 : 2 ^ vars ≤ 64 := Nat.pow_le_pow_right (n := 2) (by omega) hv6
  obtain ⟨a0, c0, rfl, -⟩ := hx
  have hTl := hsem.len
  have hne : 0 < (funF vars ([], [0, 1]) xs).2.length := by rw [hal]; simp; omega
  have hN27 : (funF vars ([], [0, 1]) xs).2.length ≤ 27 := by rw [hal]; simp; omega
  have hl0 : (funF vars ([], [0, 1]) xs).1.length ≤ 1575 := by simp at hlen; omega
  have HSEM := Lib.hid hsem
  clear hsem hlen hal
  go_enter Tryd.func3, Tryd.ntmps3
  go_wp2_with fail
  refine HM.out.mono ?_
  rintro e w1 ⟨s, b, O, ga, c, tv, gs, rfl, hm⟩
  have htab := hm.tabs
  have hints := hm.ints
  have hspace := hm.space
  have HB1 := Lib.hid hm.below
  have hw1 := hm.below.size
  clear hm HM
  generalize hfun : funF vars ([], [0, 1]) xs = rr at *
  clear hfun
  obtain ⟨ns0, al⟩ := rr
  simp only at *
  generalize (funT vars [fun _ => false, fun _ => true] xs) = T at *
  have hgl' : gs.length = al.length := by rw [htab.len, List.length_map]; exact hTl.symm
  obtain ⟨tg, tc, rfl, htg, htc, -⟩ := htab.form (by omega)
  obtain ⟨N, hN⟩ : ∃ N, N = al.length := ⟨_, rfl⟩
  rw [hgl', ← hN]
  obtain ⟨fh, gf, l1, l2, e1, e2, hfh, hsg⟩ := last_sem HSEM.out hN (by omega)
  have l3 : N - 1 < gs.length := by omega
  have c1 : w1.cell? ⟨tg, N - 1, none⟩ = some (.slice (some ⟨gs[N - 1], 0, none⟩) (2 ^ vars) (2 ^ vars)) := htc _ l3
  have c2 : w1.cell? ⟨ga, N - 1, none⟩ = some (.int .i64 fh) := by rw [hints.cells _ l1, e1]
  have hbt : BoolsAt w1 gs[N - 1] (tabOf vars gf) := by
    have := htab.tabs (N - 1) l3 (by rw [List.length_map]; exact l2)
    rwa [List.getElem_map, e2] at this
  have AL := Lib.hid (all_any vars hv0 hv6 gs[N - 1] gf w1 hbt)
  have hak := allN_kth HSEM.out.good (by omega) hfh hsg
  have HC2 : Hid (∀ W, Below w1.heap.size w1 W → W.cell? ⟨ga, N - 1, none⟩ = some (.int .i64 fh)) := fun W hW => (hW.cell (p := ⟨ga, N - 1, none⟩) hints.lt).trans c2
  have KT : Hid (∀ W, Below w1.heap.size w1 W → ∀ (a : Option Addr) (n c j : Nat), NatAt W (.agg #[.slice a n c]) j → j < bigN → Calls Tryd.prog 6 #[.pointer (some ⟨s, 0, none⟩), .int .i64 fh, .agg #[.slice a n c]] W fun e w' => (j < waysN vars ns0 fh 0 → e = .returned (.tuple #[.int .u64 (kthH vars ns0 vars 0 fh j : Nat), .nilIface])) ∧ (¬ j < waysN vars ns0 fh 0 → e = .returned (.tuple #[.int .u64 0, .iface 42 (.int .i64 8)])) ∧ Below W.heap.size W w') :=
    fun W hW a n c j hn hj => kth_any W (hspace.new hW) HSEM.out.good (by omega) (by omega) fh hfh a n c j hn hj
  have hw64 : waysN vars ns0 fh 0 ≤ 64 := by
    have := cntV_le (sem ns0 fh) (vars - 0) 0 (fun _ => false)
    unfold waysN
    rw [Nat.sub_zero] at this ⊢
    omega
  have hLl : (allN vars gf).length = waysN vars ns0 fh 0 := by rw [hak]; simp
  have hLi : ∀ i (h : i < (allN vars gf).length), (allN vars gf)[i] = kthH vars ns0 vars 0 fh i := fun i h => by simp only [hak]; simp
  generalize gs[N - 1] = gt at *
  have hN1 : 0 < N := by omega
  have hN2 : N ≤ 27 := by omega
  clear htab hints hspace htc hgl' hTl hN l1 l2 l3 e1 e2 hfh hsg hbt hak hne hN27 htg HSEM
  generalize allN vars gf = L at *
  generalize hM : waysN vars ns0 fh 0 = M at *
  have HLI := Lib.hid hLi
  have GL1 := Lib.hid (hgl.below HB1.out)
  have eNN : (N != N) = false := by simp
  have il : (N : Int) - 1 = ((N - 1 : Nat) : Int) := by omega
  have il2 : ((N - 1 : Nat) : Int) < (N : Int) := by omega
  clear hLi hM
  go_wp2_with fail
  refine AL.out.mono ?_
  rintro e w2 ⟨v2, rfl, hrow, hb2⟩
  obtain ⟨ra, rc, rfl⟩ := row_form hrow
  have hc2 := HC2.out w2 hb2
  have HCA : Hid (∀ W, Below w2.heap.size w2 W → ∀ i (h : i < L.length), ∃ g, ra = some ⟨g, 0, none⟩ ∧ W.cell? ⟨g, i, none⟩ = some (.int .u64 (L[i] : Int))) := fun W hW i hi => by
    rcases hrow.2 with ⟨e, e0⟩ | ⟨g, cap, cur, e, h2, h3, h4⟩
    · omega
    · obtain rfl : ra = some ⟨g, 0, none⟩ := by cases e; rfl
      refine ⟨g, rfl, ?_⟩
      rw [hW.cell (p := ⟨g, i, none⟩) (hrow.lt g rfl).2, hrow.cellAt i (by simp; exact hi), ucells_at L i hi]
  have HB2 := Lib.hid hb2
  clear AL hrow hb2 HC2
  go_wp2_with fail
  go_loopw [11] (fun kV wr => ∃ k : Nat, k ≤ M ∧ kV = .int .i64 (k : Int) ∧ Below w2.heap.size w2 wr) (fun kV _ => M - (intOf kV).toNat)
  case atStart => exact ⟨0, Nat.zero_le _, rfl, Below.refl _ _⟩
  case round =>
    obtain ⟨k, hk, rfl, hbr⟩ := hrel
    have hbr1 := HB2.out.trans (hbr.mono HB2.out.size)
    have HBR := Lib.hid hbr
    have HBR1 := Lib.hid hbr1
    clear hbr hbr1
    by_cases hlt : k < M
    · have OF := Lib.hid (num_of k (by omega) wr)
      have eL := HLI.out k (by omega)
      go_wp2_with fail
      refine OF.out.mono ?_
      rintro e w6 ⟨a6, n6, c6, rfl, hn6, hb6⟩
      have hb7 := HBR1.out.trans (hb6.mono HBR1.out.size)
      have HK := Lib.hid (KT.out w6 hb7 a6 n6 c6 k hn6 (small_big (by omega)))
      have HB6 := Lib.hid (HBR.out.trans (hb6.mono HBR.out.size))
      clear OF hn6 hb6 hb7
      go_wp2_with fail
      refine HK.out.mono ?_
      rintro e w7 ⟨he, -, hb7⟩
      obtain rfl := he (by omega)
      have hb8 := HB6.out.trans (hb7.mono HB6.out.size)
      obtain ⟨g, rfl, hcell⟩ := HCA.out w7 hb8 k (by omega)
      rw [eL] at hcell
      have HB8 := Lib.hid hb8
      generalize kthH vars ns0 vars 0 fh k = X at *
      have exx : (X != X) = false := by simp
      clear HK he hb7 hb8 eL HB6
      go_wp2
      go_roundw
      case rel => exact ⟨k + 1, by omega, rfl, HB8.out⟩
      case measure => simp [intOf]; omega
    · obtain rfl : M = k := by omega
      have OF := Lib.hid (num_of M (by omega) wr)
      have HBW := Lib.hid (HB1.out.trans (HBR1.out.mono hw1))
      clear HCA HLI HBR hk hlt
      go_wp2_with fail
      refine OF.out.mono ?_
      rintro e w3 ⟨a3, n3, c3, rfl, hn3, hb3⟩
      have hb4 := HBR1.out.trans (hb3.mono HBR1.out.size)
      have HK := Lib.hid (KT.out w3 hb4 a3 n3 c3 M hn3 (small_big (by omega)))
      have HB4 := Lib.hid hb4
      clear OF hn3 hb3 hb4
      go_wp2_with fail
      refine HK.out.mono ?_
      rintro e w4 ⟨-, he, hb5⟩
      obtain rfl := he (by omega)
      have hb6 := HB4.out.trans (hb5.mono HB4.out.size)
      have HB6 := Lib.hid hb6
      have OF := Lib.hid (num_of 1 (by omega) w4)
      clear HK he hb5 hb6 HB4
      go_wp2_with fail
      refine OF.out.mono ?_
      rintro e w5 ⟨a5, n5, c5, rfl, hn5, hb5⟩
      have hb7 := HB6.out.trans (hb5.mono HB6.out.size)
      have HB7 := Lib.hid hb7
      have DB := Lib.hid (num_double 200 (by omega) hn5 (small_big (by omega)))
      clear OF hn5 hb5 hb7 HB6
      go_wp2_with fail
      refine DB.out.mono ?_
      rintro e w6 ⟨a6, n6, c6, rfl, hn6, hb6⟩
      have hb8 := HB7.out.trans (hb6.mono HB7.out.size)
      have HB8 := Lib.hid hb8
      have hbig := big200
      have hfar : ¬ (1 * 2 ^ 200 : Nat) < M := fun h => far200 (Nat.lt_trans h (by omega))
      generalize (1 * 2 ^ 200 : Nat) = G at *
      have HK := Lib.hid (KT.out w6 hb8 a6 n6 c6 G hn6 hbig)
      have HFAR := Lib.hid hfar
      clear DB hn6 hb6 hb8 HB7 KT hbig hfar
      go_wp2_with fail
      refine HK.out.mono ?_
      rintro e w7 ⟨-, he, hb9⟩
      obtain rfl := he HFAR.out
      have hb10 := HB8.out.trans (hb9.mono HB8.out.size)
      have BR1 := Lib.hid (bare_errno 8 8 w7 (GL1.out.below hb10))
      have HB10 := Lib.hid hb10
      clear HK he hb9 hb10 HB8
      go_wp2_with fail
      refine BR1.out.mono ?_
      rintro e w8 ⟨rfl, hb11⟩
      have hb12 := HB10.out.trans (hb11.mono HB10.out.size)
      have BR2 := Lib.hid (bare_errno 8 8 w8 (GL1.out.below hb12))
      have HB12 := Lib.hid hb12
      clear BR1 hb11 hb12 HB10
      go_wp2_with fail
      refine BR2.out.mono ?_
      rintro e w9 ⟨rfl, hb13⟩
      have HFIN := Lib.hid (HB1.out.trans ((HB12.out.trans (hb13.mono HB12.out.size)).mono hw1))
      clear BR2 hb13 HB12
      go_wp2
      go_ret
      exact ⟨rfl, HFIN.out⟩

set_option maxRecDepth 100000 in
set_option maxHeartbeats 2000000 in
theorem kths_no (vars : Int) (xs : List Quad) (va : Value) (w : World) (hx : ArgQuads w va xs) (hn : xs.length ≤ 9223372036854775807) (h : vars < 1 ∨ 6 < vars ∨ 25 < xs.length) :
    Calls Tryd.prog 3 #[.int .i64 vars, va] w fun e w' => e = .returned (.bool true) ∧ Below w.heap.size w w' := by
  obtain ⟨a, c, rfl, -⟩ := hx
  have HS := Lib.hid (made_no vars a xs.length c h hn w)
  clear h
  go_enter Tryd.func3, Tryd.ntmps3
  go_wp2_with fail
  refine HS.out.mono ?_
  rintro e w1 ⟨rfl, rfl⟩
  go_wp2
  go_ret
  exact ⟨rfl, Below.refl _ _⟩

theorem kths_any (vars : Int) (xs : List Quad) (va : Value) (w : World) (hgl : Glob w) (hx : ArgQuads w va xs) (hn : xs.length ≤ 9223372036854775807) :
    Calls Tryd.prog 3 #[.int .i64 vars, va] w fun e w' => e = .returned (.bool true) ∧ Below w.heap.size w w' := by
  by_cases h : vars < 1 ∨ 6 < vars ∨ 25 < xs.length
  · exact kths_no vars xs va w hx hn h
  · obtain ⟨n, rfl⟩ : ∃ n : Nat, vars = (n : Int) := ⟨vars.toNat, by omega⟩
    exact kths_walk n (by omega) (by omega) xs va w hgl hx (by omega)
end Go.Proofs.YtfodcmcmbjopaaaDoor

namespace Go.Proofs.YtfodcmcmbjopaaaDoor.bddKths
open Go.ChangeShapes Go.WideShapes Go.ChangeAt Go.RowKit

set_option maxRecDepth 100000 in
theorem contract (H : Type) (enc : TypeId × Value → H) (W : World) (base : Nat) (args : Array Value) (ds gs : List (DataW H)) (before : List MemPlace)
    (hval : ∀ (j : Nat) t v, Tryd.f3.params[j]? = some t → args[j]? = some v → Value.okWide Tryd.prog W .any base t v)
    (hW : DataW.Whole enc Tryd.prog Tryd.f3.params.toList Rows.bddKthsSpec.vars false W args.toList ds gs before) (hL : laidMetH Tryd.prog Rows.bddKthsRow.laid W) :
    Calls Tryd.prog 3 args W fun e W' => ∃ v, e = .returned v ∧ Rows.bddKthsSpec.post enc Tryd.prog Tryd.f3 false true false false W args v W' := by
  have hW' := hW
  obtain ⟨p, q, hA0, hV, rfl, hfz, hnd⟩ := hW
  have hA : DataW.TrodAll enc Tryd.prog W 0 (fun _ => true) true Tryd.f3.params.toList args.toList ds p := hA0
  rw [Tryd.params3] at hA hval
  obtain ⟨v0, vs0, d0, ds0, p0, q0, hargs, rfl, rfl, h0, r0⟩ := trodAll_cons hA
  obtain ⟨v1, vs1, d1, ds1, p1, q1, rfl, rfl, rfl, h1, r1⟩ := trodAll_cons r0
  obtain ⟨rfl, rfl, rfl⟩ := trodAll_nil r1
  obtain rfl : args = #[v0, v1] := by cases args; simp_all
  obtain ⟨rfl, rfl⟩ := trodVars_none hV
  obtain ⟨n, rfl, rfl, rfl, wn⟩ := open_int Tryd.underlying3 (hval 0 3 v0 rfl rfl) h0
  obtain ⟨a1, l1, c1, rfl⟩ := okWide_slice Tryd.underlying22 (hval 1 22 v1 rfl rfl)
  clear hA0
  have hlt : ∀ x ∈ [] ++ (p1 ++ []) ++ [], x.block < W.heap.size := fun x hx => by simpa using hW'.lt x hx
  obtain ⟨xs, g1, b1⟩ := argQuads h1
  refine (kths_any n xs _ W (glob_of hL (by kernel_rfl)) g1 b1).mono fun e W' ⟨he, hg⟩ => ?_
  subst he
  have t1 := Below.trod laidOut (by kernel_rfl) (of_decide_eq_true (by kernel_rfl)) h1 hg (fun x hx => hlt x (by simp [hx]))
  exact ⟨_, rfl, _, _, _, [], _, [], hW', trodAll_mk1 (shut_bool Tryd.underlying4 _), trodAll_cons_mk (shut_int Tryd.underlying3 wn) (trodAll_cons_mk t1 trodAll_mk0), rfl, hg.frame _, fun h => by cases h⟩

theorem laid_met (os : Os) : laidMetH Tryd.prog Rows.bddKthsRow.laid ((laidWorld os).forCall (fun _ _ => 0) ⟨#[], #[.int .i64 0, .slice none 0 0], []⟩).memory :=
  laidMetH_of_parts (laidMet_of_run' 80 (by kernel_rfl) (by kernel_rfl)) (by kernel_rfl)
theorem reads (os : Os) {H : Type} (enc : TypeId × Value → H) : ∃ places, DataW.whole enc Tryd.prog ((laidWorld os).forCall (fun _ _ => 0) ⟨#[], #[.int .i64 0, .slice none 0 0], []⟩).memory Tryd.f3.params.toList Rows.bddKthsSpec.vars false #[Value.int .i64 0, .slice none 0 0].toList 8 = some ([.lit (.int .i64 0), .nil], [], places) :=
  ⟨[], by kernel_rfl⟩

set_option maxRecDepth 100000 in
theorem lifted (os : Os) (started : os.Started) (H : Type) (enc : TypeId × Value → H) (F : Stop.Interp) :
    ReturnsInHanded {} Tryd.checked os 3 .any ((OpenSpec.ofChange Rows.bddKthsSpec).preRow enc Tryd.prog Tryd.f3 Rows.bddKthsRow.domain false Rows.bddKthsRow.laid) (((OpenSpec.ofChange Rows.bddKthsSpec).at F).post enc Tryd.prog Tryd.f3 false true false false) := by
  obtain ⟨places, hx⟩ := reads os enc
  refine returnsInHanded_of_row (C := Tryd.checked) (s := OpenSpec.ofChange Rows.bddKthsSpec) own started (by kernel_rfl) Tryd.func3
    (witness_row_at (enc := enc) (C := Tryd.checked) false (laidWorld os) #[.int .i64 0, .slice none 0 0] rfl (by kernel_rfl) (by kernel_rfl) (by kernel_rfl)
      (OpenSpec.preRow_of_cond 8 hx (by kernel_rfl) (fun k hk => by cases hk) (by kernel_rfl) (laid_met os))) ?_
  intro W base args ds gs before hval hW _ _ _ hL _ _
  exact contract H enc W base args ds gs before hval hW hL

theorem said : Rows.BddKthsSaid :=
  OpenClaim.holds_of_cond 3 Tryd.f3 rfl rfl rfl rfl rfl rfl rfl ⟨rfl, rfl, rfl, rfl, rfl⟩ rfl rfl rfl rfl rfl (by kernel_rfl) Tryd.func3 (by kernel_rfl)
    (of_decide_eq_true (by kernel_rfl)) (by unfold Func.isWrapper; first | (rw [if_pos (by decide +kernel)]; kernel_rfl) | (rw [if_neg (by decide +kernel)]; exact ⟨rfl, rfl⟩))
    (fun os started H enc _ F => by rw [OpenClaim.pre_eq_preRow]; exact lifted os started H enc F)

theorem plain (f : FuncId) (fn : Func) (hf : Tryd.pinned.checked.prog.funcNamed "solspace/solspacelaw.BddKths" = some f) (hfn : Tryd.pinned.checked.prog.funcs[f]? = some fn) :
    true = Tryd.pinned.checked.prog.looks [] ∧ ∀ (j : Nat) t, fn.params[j]? = some t → Tryd.pinned.checked.prog.wantsStandIn t = false := by
  obtain rfl : f = 3 := Option.some.inj ((show Tryd.prog.funcNamed "solspace/solspacelaw.BddKths" = some 3 by kernel_rfl).symm.trans hf) |>.symm
  obtain rfl : fn = Tryd.f3 := (Option.some.inj (Tryd.func3.symm.trans hfn)).symm
  refine ⟨by kernel_rfl, fun j t ht => ?_⟩
  rw [Tryd.params3] at ht
  have ht' : t = 3 ∨ t = 22 := by simpa using Array.mem_of_getElem? ht
  rcases ht' with rfl | rfl
  · exact (show Tryd.prog.wantsStandIn 3 = false by kernel_rfl)
  · exact (show Tryd.prog.wantsStandIn 22 = false by kernel_rfl)

theorem card : Rows.BddKthsCardSaid :=
  Claim7.holds_tied_plain_at .later [] _ _ _ _ said (fun _ h => by cases h) (by kernel_rfl) (fun _ h => by cases h) bddKths_row_tie rfl ⟨rfl, rfl⟩ (by kernel_rfl) rfl plain (by kernel_rfl)
end Go.Proofs.YtfodcmcmbjopaaaDoor.bddKths

namespace Go.Proofs.YtfodcmcmbjopaaaDoor
theorem bddKths_holds : Rows.BddKthsCardSaid := bddKths.card
end Go.Proofs.YtfodcmcmbjopaaaDoor
