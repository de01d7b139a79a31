/- For every number of variables, every list of steps and every k: the k-th values of which the last function is true are such, and lie behind those of a less k; where it is true of none, that is told. No condition; one variable of the library is as the program's text lays it (the card ties it). -/
import Derived.Test.YtfodcmcmbjopaabDoorCards
import Derived.Test.YtfodcmcmbjopaabDoorTie
import Derived.Test.YtfodcmcmbjopaabDoorErTell
import Derived.ProofKit
import Derived.OpenShut
import Derived.Deep.DeepHandedRow
import Derived.LaidHandle
import Derived.LaidSub
import Derived.Test.YtfodcmcmbjopaabDoorBdKthW
import Derived.Test.YtfodcmcmbjopaabDoorBdFits
import Derived.Test.YtfodcmcmbjopaabDoorBdCountN
import Derived.Test.YtfodcmcmbjopaabDoorBdSt
import Derived.SizedLaws
namespace Go.Proofs.YtfodcmcmbjopaabDoor
open Go.ChangeShapes Go.WideShapes Go.ChangeAt Go.RowKit

theorem own : ownKnob Tryd.prog.godebug = none := by kernel_rfl
theorem gErr : Tryd.prog.globalNamed "errors.errorType" = some 0 := by kernel_rfl
theorem rtypeIs : (Tryd.prog.cutTypes.find? (·.1 == "internal/reflectlite.rtype")).map (·.2) = some 114 := by kernel_rfl
theorem oneRow : ((List.range 167).filter fun t => Tryd.prog.rowNamed t [101, 114, 114, 111, 114]) = [32] := by kernel_rfl
theorem typesSize : Tryd.prog.types.size = 167 := by kernel_rfl

theorem glob_of {W : World} {l : List (String × DataW Unit)} (h : laidMetH Tryd.prog l W) (hk : (l.filter fun x => x.1 == "errors.errorType") = [("errors.errorType", Rows.laid_errors_errorType)]) : Glob W := by
  have h2 := h.filter fun x => x.1 == "errors.errorType"
  rw [hk] at h2
  have h3 : laidMet Tryd.prog [] W ∧ handlesMet Tryd.prog [("errors.errorType", Rows.laid_errors_errorType)] W := h2
  obtain ⟨name, u, ty, e1, e2, e3, e4, e5⟩ := h3.2 _ (List.mem_singleton.2 rfl)
  have en : name = [101, 114, 114, 111, 114] := (Option.some.inj e1).symm
  subst en
  obtain rfl := Option.some.inj (rtypeIs.symm.trans e2)
  have hm : ty ∈ (List.range 167).filter fun t => Tryd.prog.rowNamed t [101, 114, 114, 111, 114] := List.mem_filter.2 ⟨List.mem_range.2 (by rw [← typesSize]; exact e3), e4⟩
  rw [oneRow] at hm
  obtain rfl := List.mem_singleton.1 hm
  have hh : typeHandle Tryd.prog 32 = .pointer (some ⟨1, 32, none⟩) := by kernel_rfl
  rw [hh] at e5
  have h6 := World.var?_cell gErr e5 0
  unfold Glob; simpa using h6

/-- A block that holds other cells. -/
def refill (cs : Array Value) : Obj → Obj
  | .cells _ t frozen => .cells cs t frozen
  | o => o

noncomputable def laidWorld (os : Os) : World :=
  { World.holding Tryd.prog os ⟨#[], #[], []⟩ with heap := (World.holding Tryd.prog os ⟨#[], #[], []⟩).heap.modify 0 (refill #[.iface 114 (.agg #[.pointer (some ⟨1, 32, none⟩)])]) }
end Go.Proofs.YtfodcmcmbjopaabDoor

namespace Go.Proofs.YtfodcmcmbjopaabDoor
open Go.RowKit Go.Maps Num

theorem last_is {vars : Nat} {ns : List Nd} {al : List Int} {T : List Fn'} (h : Sems vars ns al T) (hne : 0 < al.length) : hasB ns (al.getD (al.length - 1) 0) = true := by
  have hl : al.length - 1 < al.length := by omega
  have e : al.getD (al.length - 1) 0 = al[al.length - 1] := by simp [List.getD_eq_getElem?_getD, List.getElem?_eq_getElem hl]
  rw [e]
  exact h.has _ (List.getElem_mem hl)

/-- A bit as a number. -/
def bv (x v : Nat) : Int := if bitsF x v then 1 else 0
theorem shr_bv (x v : Nat) (hx : x < 18446744073709551616) : bits BinOp.and IntKind.u64 ((x : Int) / 2 ^ v) 1 = bv x v := by
  have e : (x : Int) / 2 ^ v = ((x / 2 ^ v : Nat) : Int) := by simp
  have hd : x / 2 ^ v ≤ x := Nat.div_le_self _ _
  generalize hm : x / 2 ^ v = m at *
  rw [e, and_one_u64 _ (by omega) (by omega)]
  have hb : bitsF x v = decide (m % 2 = 1) := by unfold bitsF; rw [Nat.testBit_eq_decide_div_mod_eq, hm]
  unfold bv
  rw [hb]
  by_cases h : m % 2 = 1
  · simp [h]; omega
  · simp [h]; omega

set_option maxRecDepth 100000 in
set_option maxHeartbeats 4000000 in
theorem ranks_walk (vars : Nat) (hv0 : 0 < vars) (hv6 : vars ≤ 6) (xs : List Quad) (va : Value) (k : Int) (w : World) (hgl : Glob w) (hx : ArgQuads w va xs) (hxl : xs.length ≤ 25) :
    Calls Tryd.prog 3 #[.int .i64 (vars : Int), va, .int .i64 k] w fun e w' => e = .returned (.bool true) ∧ Below w.heap.size w w' := by
  have p6 : 2 ^ vars ≤ 64 := Nat.pow_le_pow_right (n := 2) (by omega) hv6
  have HSP := Lib.hid (space_yes vars hv0 hv6 xs va w hx hxl)
  obtain ⟨hsem, hlen, hal⟩ := fun_ok hv0 hv6 xs [] [0, 1] _ (sems_start (good_nil vars)) (by simp) (by simp; omega)
  have hfh := last_is hsem (by rw [hal]; simp; omega)
  have HG := Lib.hid hsem.good
  have hi64 : ∀ x ∈ (funF vars ([], [0, 1]) xs).2, I64 x := fun x hx => has_i64 (hsem.has x hx) (by simp at hlen; omega)
  unfold SpaceOut at HSP
  obtain ⟨a0, c0, rfl, -⟩ := hx
  clear hsem
  generalize funF vars ([], [0, 1]) xs = r at *
  obtain ⟨ns0, al⟩ := r
  simp only at HSP HG hlen hal hfh hi64
  have h2 : 2 ≤ al.length := by rw [hal]; simp
  have h27 : al.length ≤ 27 := by rw [hal]; simp; omega
  have hl0 : ns0.length ≤ 1575 := by simp at hlen; omega
  have HI64 := Lib.hid hi64
  clear hal hlen hi64
  go_enter Tryd.func3, Tryd.ntmps3
  go_wp2_with fail
  refine HSP.out.mono ?_
  rintro e w1 ⟨s, b, O, a, c, rfl, hS, hrow, hap, hO, hb1⟩
  have HT := Lib.hid (truth_any w1)
  obtain ⟨ga, rfl, hIA, -⟩ := ints_of_row hrow (by omega) HI64.out
  have hw1 := hb1.size
  have SP : Hid (∀ W, Below w1.heap.size w1 W → SpaceAt w.heap.size W s b O vars 4000 ns0) := fun W hW => hS.new hW
  have CL : Hid (∀ W, Below w1.heap.size w1 W → W.cell? ⟨ga, al.length - 1, none⟩ = some (.int .i64 (al.getD (al.length - 1) 0))) := fun W hW => by
    have hl : al.length - 1 < al.length := by omega
    have e : al.getD (al.length - 1) 0 = al[al.length - 1] := by simp [List.getD_eq_getElem?_getD, List.getElem?_eq_getElem hl]
    rw [e]
    exact (hW.cell (p := ⟨ga, al.length - 1, none⟩) hIA.lt).trans (hIA.cells _ hl)
  have HB1 := Lib.hid hb1
  clear HSP hS hrow hap hO hb1 hIA
  generalize al.getD (al.length - 1) 0 = fh at *
  go_wp2_with fail
  refine HT.out.mono ?_
  rintro e w2 ⟨rfl, hb2⟩
  have hS2 := SP.out w2 hb2
  have cl := CL.out w2 hb2
  have hb02 := HB1.out.trans (hb2.mono hw1)
  have GL2 := Lib.hid (hgl.below hb02)
  have HB2 := Lib.hid hb02
  have hw2 := hb02.size
  have HS2 := Lib.hid hS2
  have HFH := Lib.hid hfh
  have hwl := ways_le vars ns0 fh 0 (by omega)
  have hw64 : waysN vars ns0 fh 0 ≤ 64 := by
    have := cntV_le (sem ns0 fh) (vars - 0) 0 (fun _ => false)
    unfold waysN
    rw [Nat.sub_zero] at this ⊢
    omega
  have HC := Lib.hid (count_any w2 hS2 HG.out (by omega) (by omega) fh hfh)
  have KT : Hid (∀ W, Below w2.heap.size w2 W → ∀ (a : Option Addr) (n c j : Nat), NatAt W (.agg #[.slice a n c]) j → j ≤ 1000 → Calls Tryd.prog 8 #[.pointer (some ⟨s, 0, none⟩), .int .i64 fh, .agg #[.slice a n c]] W fun e w' => (j < waysN vars ns0 fh 0 → e = .returned (.tuple #[.int .u64 (kthH vars ns0 vars 0 fh j : Nat), .nilIface])) ∧ (¬ j < waysN vars ns0 fh 0 → e = .returned (.tuple #[.int .u64 0, .iface 40 (.int .i64 8)])) ∧ Below W.heap.size W w') :=
    fun W hW a n c j hn hj => kth_any W (HS2.out.new hW) HG.out (by omega) (by omega) fh HFH.out a n c j hn (small_big (by omega))
  clear HT SP CL hb2 HB1 hb02 hS2 hwl
  have il : (al.length : Int) - 1 = ((al.length - 1 : Nat) : Int) := by omega
  have il2 : ((al.length - 1 : Nat) : Int) < (al.length : Int) := by omega
  go_wp2_with fail
  refine HC.out.mono ?_
  rintro e w3 ⟨v3, rfl, hn3, hb3⟩
  obtain ⟨⟨xa, xn, xc⟩, rfl, hx3⟩ := hn3
  have hn3 : NatAt w3 (NV.val ⟨xa, xn, xc⟩) (waysN vars ns0 fh 0) := ⟨_, rfl, hx3⟩
  have hb4 := hb3.alloc hb3.size (.cells #[.slice xa xn xc] 30)
  have hn4 := hn3.new (below_new w3 (.cells #[.slice xa xn xc] 30))
  have FT := Lib.hid (num_fits hn4 (by omega))
  have HB4 := Lib.hid hb4
  clear HC hn3 hx3 hb3 hb4 hn4
  unfold NV.val at FT ⊢
  generalize hm : waysN vars ns0 fh 0 = m at *
  have HM := Lib.hid hm
  clear hm
  go_wp2_with fail
  refine FT.out.mono ?_
  rintro e w5 ⟨rfl, hb5⟩
  have hb6 := HB4.out.trans (hb5.mono HB4.out.size)
  have HB6 := Lib.hid hb6
  clear FT hb5 hb6 HB4
  by_cases hm0 : m = 0
  · subst hm0
    have K0 := KT.out w5 HB6.out none 0 0 0 (natAt_zero w5) (by omega)
    have HK0 := Lib.hid K0
    clear KT K0
    go_wp2_with fail
    refine HK0.out.mono ?_
    rintro e w6 ⟨-, he, hb6⟩
    obtain rfl := he (by omega)
    have hb7 := HB6.out.trans (hb6.mono HB6.out.size)
    have TL := Lib.hid (tell_errno 8 w6 (GL2.out.below hb7))
    have HB7 := Lib.hid (HB2.out.trans (hb7.mono hw2))
    have hs7 := HB7.out.size
    clear HK0 he hb6 hb7
    go_wp2_with fail
    refine TL.out.mono ?_
    rintro e w7 ⟨rfl, hb8⟩
    have HB8 := Lib.hid (HB7.out.trans (hb8.mono hs7))
    clear TL hb8 HB7
    go_wp2
    go_ret
    exact ⟨rfl, HB8.out⟩
  · have hmp : 0 < m := by omega
    have PK := Lib.hid (pick_any k m hmp (by omega) w5)
    have hj := pickV_lt k hmp
    have hm0' : ¬ (m : Int) = 0 := by omega
    generalize pickV k m = j at *
    go_wp2_with fail
    refine PK.out.mono ?_
    rintro e wz ⟨rfl, rfl⟩
    clear PK
    have OF := Lib.hid (num_of j (by omega) w5)
    go_wp2_with fail
    refine OF.out.mono ?_
    rintro e w6 ⟨a6, n6, c6, rfl, hn6, hb6⟩
    have hb7 := HB6.out.trans (hb6.mono HB6.out.size)
    have HK := Lib.hid (KT.out w6 hb7 a6 n6 c6 j hn6 (by omega))
    have HB7 := Lib.hid hb7
    clear OF hn6 hb6 hb7
    have hxl : kthH vars ns0 vars 0 fh j < 2 ^ vars := by
      obtain ⟨mm, e, h⟩ := kthH_mul (vars := vars) (ns := ns0) vars 0 fh j
      rw [e, Nat.pow_zero, Nat.one_mul]; exact h
    have hsem := kthH_sem HG.out (by omega) vars 0 fh j 0 (by omega) HFH.out (topOf_le HG.out.ranked fh).1 (by rw [HM.out]; exact hj) (by simp)
    rw [Nat.zero_add] at hsem
    have LT : Hid (∀ i, i + 1 = j → ∃ u, u < vars ∧ (∀ t, t < u → bitsF (kthH vars ns0 vars 0 fh i) t = bitsF (kthH vars ns0 vars 0 fh j) t) ∧ bitsF (kthH vars ns0 vars 0 fh i) u = false ∧ bitsF (kthH vars ns0 vars 0 fh j) u = true) := fun i hi => by
      obtain ⟨u, -, h1, h2, h3, h4⟩ := kthH_lt HG.out (by omega) vars 0 fh i j 0 (by omega) HFH.out (topOf_le HG.out.ranked fh).1 (by omega) (by rw [HM.out]; exact hj) (by simp)
      simp only [Nat.zero_add] at h2 h3 h4
      exact ⟨u, h1, h2, h3, h4⟩
    have YL : Hid (∀ i, kthH vars ns0 vars 0 fh i < 2 ^ vars) := fun i => by
      obtain ⟨mm, e, h⟩ := kthH_mul (vars := vars) (ns := ns0) vars 0 fh i
      rw [e, Nat.pow_zero, Nat.one_mul]; exact h
    go_wp2_with fail
    refine HK.out.mono ?_
    rintro e w7 ⟨he, -, hb7⟩
    obtain rfl := he hj
    have hb8 := HB7.out.trans (hb7.mono HB7.out.size)
    have HH := holds_any (HS2.out.new hb8) HG.out (by omega) fh HFH.out (kthH vars ns0 vars 0 fh j) (by omega)
    rw [hsem] at HH
    have HHO := Lib.hid HH
    have HB8 := Lib.hid hb8
    clear HK he hb7 hb8 HH hsem HB7
    generalize hX : kthH vars ns0 vars 0 fh j = X at *
    clear hX
    go_wp2_with fail
    refine HHO.out.mono ?_
    rintro e w8 ⟨rfl, hb9⟩
    have hb10 := HB8.out.trans (hb9.mono HB8.out.size)
    have HB10 := Lib.hid hb10
    have HB11 := Lib.hid (HB2.out.trans (hb10.mono hw2))
    clear HHO hb9 hb10 HB8
    by_cases hj0 : j = 0
    · subst hj0
      go_wp2
      go_ret
      exact ⟨rfl, HB11.out⟩
    · obtain ⟨i, rfl⟩ : ∃ i, j = i + 1 := ⟨j - 1, by omega⟩
      obtain ⟨u, hu, hag, hy, hx⟩ := LT.out i rfl
      have hyl := YL.out i
      have hji : ¬ ((i + 1 : Nat) : Int) = 0 := by omega
      have hj1 : ((i + 1 : Nat) : Int) - 1 = (i : Int) := by omega
      have OF := Lib.hid (num_of i (by omega) w8)
      have HAG := Lib.hid hag
      have HY := Lib.hid hy
      have HX := Lib.hid hx
      clear LT YL hag hy hx hj0
      go_wp2_with fail
      refine OF.out.mono ?_
      rintro e w9 ⟨a9, n9, c9, rfl, hn9, hb9⟩
      have hb12 := HB10.out.trans (hb9.mono HB10.out.size)
      have HK := Lib.hid (KT.out w9 hb12 a9 n9 c9 i hn9 (by omega))
      have HB12 := Lib.hid hb12
      clear OF hn9 hb9 hb12 HB10 HB11 KT
      go_wp2_with fail
      refine HK.out.mono ?_
      rintro e w10 ⟨he, -, hb13⟩
      obtain rfl := he (by omega)
      have hb14 := HB12.out.trans (hb13.mono HB12.out.size)
      have HFIN := Lib.hid (HB2.out.trans (hb14.mono hw2))
      clear HK he hb13 hb14 HB12 HB2
      generalize kthH vars ns0 vars 0 fh i = Y at *
      have hX64 : X < 18446744073709551616 := by omega
      have hY64 : Y < 18446744073709551616 := by omega
      have SX := Lib.hid (fun v => shr_bv X v hX64)
      have SY := Lib.hid (fun v => shr_bv Y v hY64)
      have hv64 : (vars : Int) ≤ 6 := by omega
      clear hxl hyl hX64 hY64 p6
      go_wp2_with fail
      go_loopw [21] (fun iV wr => ∃ v : Nat, iV = .int .i64 (v : Int) ∧ v ≤ u ∧ Below w.heap.size w wr) (fun iV _ => u - (intOf iV).toNat)
      case atStart => exact ⟨0, rfl, Nat.zero_le _, HFIN.out⟩
      case round =>
        obtain ⟨v, rfl, hvu, hbw⟩ := hrel
        have hvv : (v : Int) < (vars : Int) := by omega
        have hv24 : v < 24 := by omega
        have rx := SX.out v
        have ry := SY.out v
        have HBW := Lib.hid hbw
        clear SX SY HFIN hbw
        by_cases hlt : v < u
        · have heq : bv X v = bv Y v := by unfold bv; rw [HAG.out v hlt]
          have hms : u - (v + 1) < u - v := by omega
          rw [← heq] at ry
          have hbb : (bv X v == bv X v) = true := by simp
          clear heq
          go_wp2_with fail
          go_quiet (fail)
          go_wp2
          go_roundw
          case rel => exact ⟨v + 1, rfl, by omega, HBW.out.trans (below_drewN _ _ _)⟩
          case measure => simp [intOf]; exact hms
        · obtain rfl : v = u := by omega
          have bx : bv X v = 1 := by unfold bv; rw [HX.out]; rfl
          have by' : bv Y v = 0 := by unfold bv; rw [HY.out]; rfl
          rw [bx] at rx
          rw [by'] at ry
          clear bx by'
          go_wp2_with fail
          go_quiet (fail)
          go_wp2
          go_ret
          exact ⟨rfl, HBW.out.trans (below_drewN _ _ _)⟩

set_option maxRecDepth 100000 in
set_option maxHeartbeats 2000000 in
theorem ranks_no (vars : Int) (xs : List Quad) (va : Value) (k : Int) (w : World) (hx : ArgQuads w va xs) (hn : xs.length ≤ 9223372036854775807) (h : vars < 1 ∨ 6 < vars ∨ 25 < xs.length) :
    Calls Tryd.prog 3 #[.int .i64 vars, va, .int .i64 k] w fun e w' => e = .returned (.bool true) ∧ Below w.heap.size w w' := by
  obtain ⟨a, c, rfl, -⟩ := hx
  have HS := Lib.hid (space_no vars a xs.length c h hn w)
  clear h
  go_enter Tryd.func3, Tryd.ntmps3
  go_wp2_with fail
  refine HS.out.mono ?_
  rintro e w1 ⟨rfl, rfl⟩
  go_wp2
  go_ret
  exact ⟨rfl, Below.refl _ _⟩

theorem ranks_any (vars : Int) (xs : List Quad) (va : Value) (k : Int) (w : World) (hgl : Glob w) (hx : ArgQuads w va xs) (hn : xs.length ≤ 9223372036854775807) :
    Calls Tryd.prog 3 #[.int .i64 vars, va, .int .i64 k] w fun e w' => e = .returned (.bool true) ∧ Below w.heap.size w w' := by
  by_cases h : vars < 1 ∨ 6 < vars ∨ 25 < xs.length
  · exact ranks_no vars xs va k w hx hn h
  · obtain ⟨n, rfl⟩ : ∃ n : Nat, vars = (n : Int) := ⟨vars.toNat, by omega⟩
    exact ranks_walk n (by omega) (by omega) xs va k w hgl hx (by omega)
end Go.Proofs.YtfodcmcmbjopaabDoor

namespace Go.Proofs.YtfodcmcmbjopaabDoor.bddRanks
open Go.ChangeShapes Go.WideShapes Go.ChangeAt Go.RowKit

set_option maxRecDepth 100000 in
theorem contract (H : Type) (enc : TypeId × Value → H) (W : World) (base : Nat) (args : Array Value) (ds gs : List (DataW H)) (before : List MemPlace)
    (hval : ∀ (j : Nat) t v, Tryd.f3.params[j]? = some t → args[j]? = some v → Value.okWide Tryd.prog W .any base t v)
    (hW : DataW.Whole enc Tryd.prog Tryd.f3.params.toList Rows.bddRanksSpec.vars false W args.toList ds gs before) (hL : laidMetH Tryd.prog Rows.bddRanksRow.laid W) :
    Calls Tryd.prog 3 args W fun e W' => ∃ v, e = .returned v ∧ Rows.bddRanksSpec.post enc Tryd.prog Tryd.f3 false true false false W args v W' := by
  have hW' := hW
  obtain ⟨p, q, hA0, hV, rfl, hfz, hnd⟩ := hW
  have hA : DataW.TrodAll enc Tryd.prog W 0 (fun _ => true) true Tryd.f3.params.toList args.toList ds p := hA0
  rw [Tryd.params3] at hA hval
  obtain ⟨v0, vs0, d0, ds0, p0, q0, hargs, rfl, rfl, h0, r0⟩ := trodAll_cons hA
  obtain ⟨v1, vs1, d1, ds1, p1, q1, rfl, rfl, rfl, h1, r1⟩ := trodAll_cons r0
  obtain ⟨v2, vs2, d2, ds2, p2, q2, rfl, rfl, rfl, h2, r2⟩ := trodAll_cons r1
  obtain ⟨rfl, rfl, rfl⟩ := trodAll_nil r2
  obtain rfl : args = #[v0, v1, v2] := by cases args; simp_all
  obtain ⟨rfl, rfl⟩ := trodVars_none hV
  obtain ⟨n, rfl, rfl, rfl, wn⟩ := open_int Tryd.underlying3 (hval 0 3 v0 rfl rfl) h0
  obtain ⟨a1, l1, c1, rfl⟩ := okWide_slice Tryd.underlying22 (hval 1 22 v1 rfl rfl)
  obtain ⟨n2, rfl, rfl, rfl, wn2⟩ := open_int Tryd.underlying3 (hval 2 3 v2 rfl rfl) h2
  clear hA0
  have hlt : ∀ x ∈ [] ++ (p1 ++ ([] ++ [])) ++ [], x.block < W.heap.size := fun x hx => by simpa using hW'.lt x hx
  obtain ⟨xs, g1, b1⟩ := argQuads h1
  refine (ranks_any n xs _ n2 W (glob_of hL (by kernel_rfl)) g1 b1).mono fun e W' ⟨he, hg⟩ => ?_
  subst he
  have t1 := Below.trod laidOut (by kernel_rfl) (of_decide_eq_true (by kernel_rfl)) h1 hg (fun x hx => hlt x (by simp [hx]))
  exact ⟨_, rfl, _, _, _, [], _, [], hW', trodAll_mk1 (shut_bool Tryd.underlying4 _), trodAll_cons_mk (shut_int Tryd.underlying3 wn) (trodAll_cons_mk t1 (trodAll_cons_mk (shut_int Tryd.underlying3 wn2) trodAll_mk0)), rfl, hg.frame _, fun h => by cases h⟩

theorem laid_met (os : Os) : laidMetH Tryd.prog Rows.bddRanksRow.laid ((laidWorld os).forCall (fun _ _ => 0) ⟨#[], #[.int .i64 0, .slice none 0 0, .int .i64 0], []⟩).memory :=
  laidMetH_of_parts (laidMet_of_run' 80 (by kernel_rfl) (by kernel_rfl)) (by kernel_rfl)
theorem reads (os : Os) {H : Type} (enc : TypeId × Value → H) : ∃ places, DataW.whole enc Tryd.prog ((laidWorld os).forCall (fun _ _ => 0) ⟨#[], #[.int .i64 0, .slice none 0 0, .int .i64 0], []⟩).memory Tryd.f3.params.toList Rows.bddRanksSpec.vars false #[Value.int .i64 0, .slice none 0 0, .int .i64 0].toList 8 = some ([.lit (.int .i64 0), .nil, .lit (.int .i64 0)], [], places) :=
  ⟨[], by kernel_rfl⟩

set_option maxRecDepth 100000 in
theorem lifted (os : Os) (started : os.Started) (H : Type) (enc : TypeId × Value → H) (F : Stop.Interp) :
    ReturnsInHanded {} Tryd.checked os 3 .any ((OpenSpec.ofChange Rows.bddRanksSpec).preRow enc Tryd.prog Tryd.f3 Rows.bddRanksRow.domain false Rows.bddRanksRow.laid) (((OpenSpec.ofChange Rows.bddRanksSpec).at F).post enc Tryd.prog Tryd.f3 false true false false) := by
  obtain ⟨places, hx⟩ := reads os enc
  refine returnsInHanded_of_row (C := Tryd.checked) (s := OpenSpec.ofChange Rows.bddRanksSpec) own started (by kernel_rfl) Tryd.func3
    (witness_row_at (enc := enc) (C := Tryd.checked) false (laidWorld os) #[.int .i64 0, .slice none 0 0, .int .i64 0] rfl (by kernel_rfl) (by kernel_rfl) (by kernel_rfl)
      (OpenSpec.preRow_of_cond 8 hx (by kernel_rfl) (fun k hk => by cases hk) (by kernel_rfl) (laid_met os))) ?_
  intro W base args ds gs before hval hW _ _ _ hL _ _
  exact contract H enc W base args ds gs before hval hW hL

theorem said : Rows.BddRanksSaid :=
  OpenClaim.holds_of_cond 3 Tryd.f3 rfl rfl rfl rfl rfl rfl rfl ⟨rfl, rfl, rfl, rfl, rfl⟩ rfl rfl rfl rfl rfl (by kernel_rfl) Tryd.func3 (by kernel_rfl)
    (of_decide_eq_true (by kernel_rfl)) (by unfold Func.isWrapper; first | (rw [if_pos (by decide +kernel)]; kernel_rfl) | (rw [if_neg (by decide +kernel)]; exact ⟨rfl, rfl⟩))
    (fun os started H enc _ F => by rw [OpenClaim.pre_eq_preRow]; exact lifted os started H enc F)

theorem plain (f : FuncId) (fn : Func) (hf : Tryd.pinned.checked.prog.funcNamed "solspace/solspacekeep.BddRanks" = some f) (hfn : Tryd.pinned.checked.prog.funcs[f]? = some fn) :
    true = Tryd.pinned.checked.prog.looks [] ∧ ∀ (j : Nat) t, fn.params[j]? = some t → Tryd.pinned.checked.prog.wantsStandIn t = false := by
  obtain rfl : f = 3 := Option.some.inj ((show Tryd.prog.funcNamed "solspace/solspacekeep.BddRanks" = some 3 by kernel_rfl).symm.trans hf) |>.symm
  obtain rfl : fn = Tryd.f3 := (Option.some.inj (Tryd.func3.symm.trans hfn)).symm
  refine ⟨by kernel_rfl, fun j t ht => ?_⟩
  rw [Tryd.params3] at ht
  have ht' : t = 3 ∨ t = 22 ∨ t = 3 := by simpa using Array.mem_of_getElem? ht
  rcases ht' with rfl | rfl | rfl
  · exact (show Tryd.prog.wantsStandIn 3 = false by kernel_rfl)
  · exact (show Tryd.prog.wantsStandIn 22 = false by kernel_rfl)
  · exact (show Tryd.prog.wantsStandIn 3 = false by kernel_rfl)

theorem card : Rows.BddRanksCardSaid :=
  Claim7.holds_tied_plain_at .later [] _ _ _ _ said (fun _ h => by cases h) (by kernel_rfl) (fun _ h => by cases h) bddRanks_row_tie rfl ⟨rfl, rfl⟩ (by kernel_rfl) rfl plain (by kernel_rfl)
end Go.Proofs.YtfodcmcmbjopaabDoor.bddRanks

namespace Go.Proofs.YtfodcmcmbjopaabDoor
theorem bddRanks_holds : Rows.BddRanksCardSaid := bddRanks.card
end Go.Proofs.YtfodcmcmbjopaabDoor
