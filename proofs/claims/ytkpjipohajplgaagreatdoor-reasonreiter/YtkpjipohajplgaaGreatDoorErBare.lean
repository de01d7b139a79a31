/- plain.Place and the laws' 'bare', by their contracts: of nil and of a plain Errno. -/
import Derived.Test.YtkpjipohajplgaaGreatDoorRtLoop
import Derived.Test.YtkpjipohajplgaaGreatDoorFmSameU
import Derived.Deep.CutBlock
import Derived.Test.YtkpjipohajplgaaGreatDoorBdDone
set_option maxHeartbeats 8000000
set_option maxRecDepth 100000
namespace Go.Proofs.YtkpjipohajplgaaGreatDoor.Fm
open Go.RowKit Go.Maps Go.Proofs.YtkpjipohajplgaaGreatDoor.Bd
def bestZ (l : List Nat) (k : Nat) : Nat := if k = 0 then 0 else bestK l k
theorem bestZ_end (l : List Nat) : bestZ l l.length = bestK l l.length := by
 unfold bestZ
 split
 ·rename_i h
  obtain rfl := List.eq_nil_of_length_eq_zero h
  rfl
 ·rfl
theorem bestZ_lt {l : List Nat} (h64 : ∀ x ∈ l, x < 2 ^ 64) {k : Nat} (h : k < l.length) : bestZ l k < 2 ^ 64 := by
 unfold bestZ
 split
 ·decide
 ·exact h64 _ (bestK_mem (by omega) k)
theorem bestZ_first {l : List Nat} (h : 0 < l.length) : bestZ l (0 + 1) = l.getD 0 0 := by
 unfold bestZ; rw [if_neg (by omega)]; exact bestK_one h
theorem bestZ_step {l : List Nat} {k : Nat} (h : k < l.length) (hk : k ≠ 0) : bestZ l (k + 1) = if pop (l.getD k 0) < pop (bestZ l k) then l.getD k 0 else bestZ l k := by
 unfold bestZ; rw [if_neg (by omega), if_neg hk, bestK_succ h]
def LawS (vars : Int) (l : List Nat) (w : World) (mb : Nat) (ev bv iv : Value) (wr : World) : Prop :=
 ∃ k : Nat, k <= l.length /\ iv = .int .i64 (k : Int) /\ ev = .int .i64 (eF vars l k) /\ bv = .int .u64 (bestZ l k : Int) /\ FP wr mb l k /\ Below w.heap.size w wr
theorem rreiter_main (vars : Int) (l : List Nat) (v : Value) (w : World) (hx : UIn w v l) (h64 : ∀ x ∈ l, x < 2 ^ 64) (hlen : l.length <= 30 \/ (200 < l.length /\ l.length <= 250)) (hv : vars <= 6 \/ 24 < vars)
  (hBE : ∀ (m : Int) W, Below w.heap.size w W -> Calls Tryz.prog 8 #[.iface 23 (.int .i64 m), .int .i64 m] W fun e w' => e = .returned (.bool true) /\ Below W.heap.size W w')
  (hBN : ∀ W, Below w.heap.size w W -> Calls Tryz.prog 8 #[.nilIface, .int .i64 0] W fun e w' => e = .returned (.bool true) /\ Below W.heap.size W w') :
  Calls Tryz.prog 3 #[.int .i64 vars, v] w fun e w' => e = .returned (.bool true) /\ Below w.heap.size w w' := by
 have HR : Hid (∀ W, Below w.heap.size w W -> Calls Tryz.prog 7 #[.int .i64 vars, v] W (ReitOut vars l W)) := fun W hW => reiter_any vars (by omega) l v W (hx.below hW) h64 (by omega)
 have HSm : Hid (∀ W, Below w.heap.size w W -> Calls Tryz.prog 10 #[v] W fun e w' => e = .returned (.int .u64 (bestK l l.length : Int)) /\ w' = W) := fun W hW => smallest_any l W v (hx.below hW) h64 (by omega)
 have HBE := Lib.hid hBE
 have HBN := Lib.hid hBN
 have H64 := Lib.hid h64
 have hll : l.length <= 1000 := by omega
 obtain ⟨a, cap, rfl, hx⟩ := hx
 have HX := Lib.hid hx
 have hmm := @run_makeMap Tryz.prog
 have HST : Hid (FP (w.alloc (.map #[] 0)) w.heap.size l 0 /\ Below w.heap.size w (w.alloc (.map #[] 0))) := ⟨⟨[], FL.made w, Nat.le_refl _, fun x => by simp⟩, below_new w _⟩
 clear hx h64 hBE hBN
 have HV := Lib.hid hv
 have HN := Lib.hid hlen
 have lcase : Hid (((¬ ((l.length : Nat) : Int) > 30) /\ (¬ ((l.length : Nat) : Int) > 200) /\ ¬ ((l.length : Nat) : Int) > 250) \/ (((l.length : Nat) : Int) > 30 /\ ((l.length : Nat) : Int) > 200 /\ (¬ ((l.length : Nat) : Int) > 250) /\ ¬ ((l.length : Nat) : Int) <= 200)) := by unfold Hid; omega
 have vcase : Hid ((vars < 0 /\ ¬ vars > 6) \/ ((¬ vars < 0) /\ vars > 24 /\ vars > 6 /\ ¬ vars <= 24) \/ ((¬ vars < 0) /\ (¬ vars > 24) /\ ¬ vars > 6)) := by unfold Hid; omega
 have HE0 := Lib.hid (eF_zero vars l)
 clear hv hlen
 go_enter Tryz.func3, Tryz.ntmps3
 go_upto_region 1 with fail
 go_cut [33] (fun v33 wx => v33 = .bool false /\ w = wx)
 case first =>
  rcases lcase.out with ⟨a1, a2, a3⟩ | ⟨a1, a2, a3, a4⟩ <;> rcases vcase.out with ⟨b1, b2⟩ | ⟨b1, b2, b3, b4⟩ | ⟨b1, b2, b3⟩
  all_goals
   go_wp2_with fail
   go_meet
   exact ⟨rfl, rfl⟩
 case rest =>
 obtain ⟨rfl, rfl⟩ := hcut
 go_upto_block 0 with fail
 go_cut [5] (fun v5 wx => v5 = .int .i64 (eF vars l 0) /\ w.alloc (.map #[] 0) = wx)
 case first =>
  rcases vcase.out with ⟨b1, b2⟩ | ⟨b1, b2, b3, b4⟩ | ⟨b1, b2, b3⟩
  ·go_wp2_with fail
   go_meet
   exact ⟨by rw [HE0.out, if_pos (.inl b1)], rfl⟩
  ·go_wp2_with fail
   go_meet
   exact ⟨by rw [HE0.out, if_pos (.inr b2)], rfl⟩
  ·rcases lcase.out with ⟨a1, a2, a3⟩ | ⟨a1, a2, a3, a4⟩
   all_goals
    go_wp2_with fail
    go_meet
    exact ⟨by rw [HE0.out]; congr 1; (repeat' split) <;> omega, rfl⟩
 case rest =>
 obtain ⟨rfl, rfl⟩ := hcut
 clear hmm lcase vcase HE0
 go_upto_block 1 with fail
 go_cut [5, 7, 9] (fun ev bv iv wx => ev = .int .i64 (eF vars l l.length) /\ bv = .int .u64 (bestZ l l.length : Int) /\ FP wx w.heap.size l l.length /\ Below w.heap.size w wx)
 case first =>
  clear HR HSm HBE HBN
  go_wp2_with fail
  go_loopw [5, 7, 9] (fun ev bv iv wr => LawS vars l w w.heap.size ev bv iv wr) (fun _ _ iv _ => l.length - (intOf iv).toNat)
  case atStart => exact ⟨0, Nat.zero_le _, rfl, rfl, rfl, HST.out.1, HST.out.2⟩
  case round =>
   clear HST
   obtain ⟨k, hk, rfl, rfl, rfl, hfp, hb⟩ := hrel
   by_cases hlt : k < l.length
   ·obtain ⟨g, rfl, gl, gc⟩ := HX.out k hlt
    have i1 : (k : Int) < ((l.length : Nat) : Int) := by omega
    have hxm : l.getD k 0 ∈ l := by rw [List.getD_eq_getElem?_getD, List.getElem?_eq_getElem hlt]; exact List.getElem_mem hlt
    have hx64 := H64.out _ hxm
    have hm64 := bestZ_lt H64.out hlt
    obtain ⟨w8, hput, hfp8, hg8⟩ := hfp.put hlt hll hx64
    have hb8 := hb.trans (grown_below hg8 (Nat.le_refl _) hb.size)
    have q0 := (hb.cell (p := g.add k) (by rw [ad_block]; exact gl)).trans gc
    have q8 := (hb8.cell (p := g.add k) (by rw [ad_block]; exact gl)).trans gc
    have HL1 := Lib.hid (lones_any (l.getD k 0) hx64)
    have HL2 := Lib.hid (lones_any (bestZ l k) hm64)
    have HF8 := Lib.hid hfp8
    have HB8 := Lib.hid hb8
    have HE : Hid ((eF vars l k ≠ 0 /\ eF vars l (k + 1) = eF vars l k) \/ (eF vars l k = 0 /\ ∃ n : Nat, vars = (n : Int) /\ n <= 24 /\ ((l.getD k 0 < 2 ^ n /\ eF vars l (k + 1) = 0) \/ (¬ l.getD k 0 < 2 ^ n /\ eF vars l (k + 1) = 2)))) := by
     by_cases hz : eF vars l k = 0
     ·obtain ⟨h1, h2, -, h4⟩ := eF_go hlt hz
      refine .inr ⟨hz, vars.toNat, by omega, by omega, ?_⟩
      by_cases hxv : l.getD k 0 < 2 ^ vars.toNat
      ·rw [if_pos hxv] at h4; exact .inl ⟨hxv, h4⟩
      ·rw [if_neg hxv] at h4; exact .inr ⟨hxv, h4⟩
     ·exact .inl ⟨hz, eF_set hlt hz⟩
    have HBZ : Hid ((k = 0 /\ bestZ l (k + 1) = l.getD k 0) \/ (k ≠ 0 /\ pop (l.getD k 0) < pop (bestZ l k) /\ bestZ l (k + 1) = l.getD k 0) \/ (k ≠ 0 /\ ¬ pop (l.getD k 0) < pop (bestZ l k) /\ bestZ l (k + 1) = bestZ l k)) := by
     by_cases z0 : k = 0
     ·subst z0; exact .inl ⟨rfl, bestZ_first hlt⟩
     ·by_cases z2 : pop (l.getD k 0) < pop (bestZ l k)
      ·exact .inr (.inl ⟨z0, z2, by rw [bestZ_step hlt z0, if_pos z2]⟩)
      ·exact .inr (.inr ⟨z0, z2, by rw [bestZ_step hlt z0, if_neg z2]⟩)
    clear hfp hb gc gl hxm hfp8 hg8 hb8 HV HN
    generalize l.getD k 0 = x at *
    generalize bestZ l k = m at *
    generalize pop x = P at *
    generalize pop m = Q at *
    generalize eF vars l k = E at *
    rcases HE.out with ⟨e0, e1⟩ | ⟨rfl, n, rfl, hn24, ⟨hxv, e1⟩ | ⟨hxv, e1⟩⟩
    ·have f0 : (E == 0) = false := by rw [beq_eq_false_iff_ne]; exact e0
     clear HE
     rcases HBZ.out with ⟨z0, z1⟩ | ⟨z0, z2, z1⟩ | ⟨z0, z2, z1⟩
     ·subst z0
      have g0 : g.add 0 = g := by simp [Addr.add]
      rw [g0] at q0 q8
      go_wp2
      go_roundw
      case rel => exact ⟨0 + 1, by omega, by first | rfl | go_num, by rw [e1], by rw [z1], HF8.out, HB8.out⟩
      case measure => simp [intOf]; omega
     ·have f1 : ((k : Int) == 0) = false := by rw [beq_eq_false_iff_ne]; omega
      have f2 : (P : Int) < (Q : Int) := by omega
      go_wp2_with fail
      refine (HL1.out _).mono ?_
      rintro e w9 ⟨rfl, rfl⟩
      go_wp2_with fail
      refine (HL2.out _).mono ?_
      rintro e w10 ⟨rfl, rfl⟩
      go_wp2
      go_roundw
      case rel => exact ⟨k + 1, by omega, by go_num, by rw [e1], by rw [z1], HF8.out, HB8.out⟩
      case measure => simp [intOf]; omega
     ·have f1 : ((k : Int) == 0) = false := by rw [beq_eq_false_iff_ne]; omega
      have f2 : ¬ (P : Int) < (Q : Int) := by omega
      go_wp2_with fail
      refine (HL1.out _).mono ?_
      rintro e w9 ⟨rfl, rfl⟩
      go_wp2_with fail
      refine (HL2.out _).mono ?_
      rintro e w10 ⟨rfl, rfl⟩
      go_wp2
      go_roundw
      case rel => exact ⟨k + 1, by omega, by go_num, by rw [e1], by rw [z1], HF8.out, HB8.out⟩
      case measure => simp [intOf]; omega
    ·have d1 : (x : Int) / 2 ^ n = 0 := by
      have e : (x : Int) / 2 ^ n = ((x / 2 ^ n : Nat) : Int) := by simp
      rw [e, Nat.div_eq_of_lt hxv]; rfl
     clear HE
     rcases HBZ.out with ⟨z0, z1⟩ | ⟨z0, z2, z1⟩ | ⟨z0, z2, z1⟩
     ·subst z0
      have g0 : g.add 0 = g := by simp [Addr.add]
      rw [g0] at q0 q8
      go_wp2
      go_roundw
      case rel => exact ⟨0 + 1, by omega, by first | rfl | go_num, by rw [e1], by rw [z1], HF8.out, HB8.out⟩
      case measure => simp [intOf]; omega
     ·have f1 : ((k : Int) == 0) = false := by rw [beq_eq_false_iff_ne]; omega
      have f2 : (P : Int) < (Q : Int) := by omega
      go_wp2_with fail
      refine (HL1.out _).mono ?_
      rintro e w9 ⟨rfl, rfl⟩
      go_wp2_with fail
      refine (HL2.out _).mono ?_
      rintro e w10 ⟨rfl, rfl⟩
      go_wp2
      go_roundw
      case rel => exact ⟨k + 1, by omega, by go_num, by rw [e1], by rw [z1], HF8.out, HB8.out⟩
      case measure => simp [intOf]; omega
     ·have f1 : ((k : Int) == 0) = false := by rw [beq_eq_false_iff_ne]; omega
      have f2 : ¬ (P : Int) < (Q : Int) := by omega
      go_wp2_with fail
      refine (HL1.out _).mono ?_
      rintro e w9 ⟨rfl, rfl⟩
      go_wp2_with fail
      refine (HL2.out _).mono ?_
      rintro e w10 ⟨rfl, rfl⟩
      go_wp2
      go_roundw
      case rel => exact ⟨k + 1, by omega, by go_num, by rw [e1], by rw [z1], HF8.out, HB8.out⟩
      case measure => simp [intOf]; omega
    ·have d0 : (x : Int) / 2 ^ n = ((x / 2 ^ n : Nat) : Int) := by simp
     have d1 : 1 <= x / 2 ^ n := by
      rw [Nat.le_div_iff_mul_le (Nat.two_pow_pos _)]; omega
     have d2 : x / 2 ^ n <= x := Nat.div_le_self _ _
     generalize x / 2 ^ n = q at *
     have d3 : ((q : Int) != 0) = true := by rw [bne_iff_ne]; omega
     have d4 : IntKind.u64.wrap (q : Int) = (q : Int) := IntWalk.u64_in _ ⟨by omega, by omega⟩
     clear HE
     rcases HBZ.out with ⟨z0, z1⟩ | ⟨z0, z2, z1⟩ | ⟨z0, z2, z1⟩
     ·subst z0
      have g0 : g.add 0 = g := by simp [Addr.add]
      rw [g0] at q0 q8
      go_wp2
      go_roundw
      case rel => exact ⟨0 + 1, by omega, by first | rfl | go_num, by rw [e1], by rw [z1], HF8.out, HB8.out⟩
      case measure => simp [intOf]; omega
     ·have f1 : ((k : Int) == 0) = false := by rw [beq_eq_false_iff_ne]; omega
      have f2 : (P : Int) < (Q : Int) := by omega
      go_wp2_with fail
      refine (HL1.out _).mono ?_
      rintro e w9 ⟨rfl, rfl⟩
      go_wp2_with fail
      refine (HL2.out _).mono ?_
      rintro e w10 ⟨rfl, rfl⟩
      go_wp2
      go_roundw
      case rel => exact ⟨k + 1, by omega, by go_num, by rw [e1], by rw [z1], HF8.out, HB8.out⟩
      case measure => simp [intOf]; omega
     ·have f1 : ((k : Int) == 0) = false := by rw [beq_eq_false_iff_ne]; omega
      have f2 : ¬ (P : Int) < (Q : Int) := by omega
      go_wp2_with fail
      refine (HL1.out _).mono ?_
      rintro e w9 ⟨rfl, rfl⟩
      go_wp2_with fail
      refine (HL2.out _).mono ?_
      rintro e w10 ⟨rfl, rfl⟩
      go_wp2
      go_roundw
      case rel => exact ⟨k + 1, by omega, by go_num, by rw [e1], by rw [z1], HF8.out, HB8.out⟩
      case measure => simp [intOf]; omega
   ·have e : k = l.length := by omega
    subst e
    have i1 : ¬ ((l.length : Nat) : Int) < ((l.length : Nat) : Int) := by omega
    have HF := Lib.hid hfp
    have HB := Lib.hid hb
    clear hfp hb H64 HX HV HN
    go_wp2_with fail
    go_meet
    exact ⟨rfl, rfl, HF.out, HB.out⟩
 case rest =>
 obtain ⟨rfl, rfl, hfp, hb⟩ := hcut
 rw [bestZ_end]
 have HFM := Lib.hid hfp.fm
 have HB := Lib.hid hb
 have HLE := Lib.hid (eF_end vars l)
 clear hfp hb HST HX
 generalize hE : eF vars l l.length = E at *
 have HE := Lib.hid hE
 generalize hM : bestK l l.length = M at *
 clear hE hM
 by_cases hz : E = 0
 ·subst hz
  have hq : 0 <= vars /\ vars <= 24 /\ l.length <= 200 /\ ∀ x ∈ l, x < 2 ^ vars.toNat := by
   rcases HLE.out with ⟨e0, h⟩ | ⟨e0, -⟩ | ⟨e0, -⟩ | ⟨e0, -⟩
   ·exact h
   all_goals exact absurd e0 (by decide)
  obtain ⟨q1, q2, q3, q4⟩ := hq
  have hv6 : vars.toNat <= 6 := by have := HV.out; omega
  have hl200 : l.length <= 200 := q3
  have hsb : ∀ y, y ∈ l -> ∀ i, y.testBit i = true -> i < vars.toNat := fun y hy i hi => by
   apply Classical.byContradiction
   intro hn
   rw [Nat.testBit_lt_two_pow (Nat.lt_of_lt_of_le (q4 y hy) (Nat.pow_le_pow_right (n := 2) (by omega) (by omega)))] at hi
   cases hi
  have p6 : 2 ^ vars.toNat <= 64 := Nat.pow_le_pow_right (n := 2) (by omega) hv6
  have HH := Lib.hid (fun wq (hq : FM wq w.heap.size (fun x => x ∈ l)) => rhits_any vars.toNat hv6 wq w.heap.size hq q4)
  have ev : ((vars.toNat : Nat) : Int) = vars := by omega
  rw [ev] at HH
  have HSB := Lib.hid hsb
  have HP6 := Lib.hid p6
  clear q1 q2 q3 q4 hsb p6 ev hv6 HLE HN HV
  go_wp2_with fail
  refine (HH.out _ HFM.out).mono ?_
  rintro e w1 ⟨g, rfl, hfm1, -, hb1⟩
  have HRS := Lib.hid (rsets_any w1 g hfm1 (fun x hx => by
   have := ((hits_small HSB.out x).2 hx).1.1
   have := HP6.out
   omega))
  unfold RSets at HRS
  have HB1 := Lib.hid (HB.out.trans (hb1.mono HB.out.size))
  clear hfm1 hb1 HH HFM
  go_wp2_with fail
  refine HRS.out.mono ?_
  rintro e w2 ⟨L, a2, c2, rfl, hrow, hsL, hmL, hb2⟩
  have HU := Lib.hid (UArg.of_row hrow)
  have HB2 := Lib.hid (HB1.out.trans (hb2.mono HB1.out.size))
  have HSL := Lib.hid hsL
  have HML := Lib.hid hmL
  clear hrow hsL hmL hb2 HRS HB1
  go_wp2_with fail
  refine (HR.out _ HB2.out).mono ?_
  intro e w3 hro
  obtain ⟨hb3, hro⟩ := reit_said hro
  rw [HE.out] at hro
  rcases hro with ⟨k, -⟩ | ⟨-, v3, m, rfl, hua, hsm, hml, hmm⟩
  ·exact absurd rfl k
  have HB3 := Lib.hid (HB2.out.trans (hb3.mono HB2.out.size))
  have HU3 := Lib.hid (HU.out.below hb3)
  have HUA := Lib.hid hua
  have eq : m = L := rising_eq hsm HSL.out (fun x => (hmm x).trans (HML.out x).symm)
  have HEQ := Lib.hid eq
  have HSA : Hid (∀ W, Below w3.heap.size w3 W -> Calls Tryz.prog 9 #[v3, .slice a2 L.length c2] W fun e w' => e = .returned (.bool true) /\ Below W.heap.size W w') := fun W hW => by
   have := sameU_any W _ _ m L (HUA.out W hW) (HU3.out.below hW) (by omega)
   rwa [decide_eq_true HEQ.out] at this
  clear hua hsm hml hmm eq hb3 HU HB2 HR HU3 HUA HEQ HSL HML
  go_wp2_with fail
  refine (HBN.out _ HB3.out).mono ?_
  rintro e w4 ⟨rfl, hb4⟩
  have HS4 := Lib.hid (HSA.out _ hb4)
  have HB4 := Lib.hid (HB3.out.trans (hb4.mono HB3.out.size))
  clear hb4 HSA HBN HB3
  go_wp2_with fail
  refine HS4.out.mono ?_
  rintro e w5 ⟨rfl, hb5⟩
  have HB5 := Lib.hid (HB4.out.trans (hb5.mono HB4.out.size))
  clear hb5 HS4 HB4
  go_wp2_with fail
  refine (HSm.out _ HB5.out).mono ?_
  rintro e w6 ⟨rfl, rfl⟩
  have hmm : ((M : Int) == (M : Int)) = true := by simp
  go_wp2
  go_ret
  exact ⟨rfl, HB5.out⟩
 ·have f0 : (E == 0) = false := by rw [beq_eq_false_iff_ne]; exact hz
  have HZ := Lib.hid hz
  clear hz HLE HN HV HFM H64
  go_wp2_with fail
  refine (HR.out _ HB.out).mono ?_
  intro e w3 hro
  obtain ⟨hb3, hro⟩ := reit_said hro
  rw [HE.out] at hro
  rcases hro with ⟨-, rfl⟩ | ⟨k, -⟩
  rotate_left
  ·exact absurd k HZ.out
  have HB3 := Lib.hid (HB.out.trans (hb3.mono HB.out.size))
  have HSA : Hid (∀ W, Calls Tryz.prog 9 #[.slice none 0 0, .slice none 0 0] W fun e w' => e = .returned (.bool true) /\ Below W.heap.size W w') := fun W => by
   have hu : UArg W (.slice none 0 0) [] := ⟨none, 0, rfl, fun i hi => absurd hi (Nat.not_lt_zero _)⟩
   have := sameU_any W _ _ [] [] hu hu (by decide)
   rwa [decide_eq_true rfl] at this
  clear hb3 HB HR
  go_wp2_with fail
  refine (HBE.out E _ HB3.out).mono ?_
  rintro e w4 ⟨rfl, hb4⟩
  have HB4 := Lib.hid (HB3.out.trans (hb4.mono HB3.out.size))
  clear hb4 HB3 HBE HBN
  go_wp2_with fail
  refine (HSA.out _).mono ?_
  rintro e w5 ⟨rfl, hb5⟩
  have HB5 := Lib.hid (HB4.out.trans (hb5.mono HB4.out.size))
  clear hb5 HSA HB4
  go_wp2_with fail
  refine (HSm.out _ HB5.out).mono ?_
  rintro e w6 ⟨rfl, rfl⟩
  have hmm : ((M : Int) == (M : Int)) = true := by simp
  go_wp2
  go_ret
  exact ⟨rfl, HB5.out⟩
end Go.Proofs.YtkpjipohajplgaaGreatDoor.Fm
namespace Go.Proofs.YtkpjipohajplgaaGreatDoor
open Go.RowKit Go.Extern.Stop Go.Stop Go.Extern
theorem place_nil (w : World) : Calls Tryz.prog 31 #[.nilIface] w fun e w' => e = .returned (.tuple #[.int .i64 0, .int .i64 (-1)]) /\ w = w' := by
 go_enter Tryz.func31, Tryz.ntmps31
 go_wp2_with fail
 refine (tell_nil _).mono ?_
 rintro e w' ⟨rfl, rfl⟩
 go_wp2_with fail
 refine wp_loop_rounds 1 ?_
 rw [rounds_succ]
 go_wp2
 go_ret2
 exact ⟨rfl, rfl⟩
theorem noAt (n : Int) (w : World) : (Instr.typeAssert (.iface 23 (.int .i64 n)) 31 102 true).run Tryz.prog w = .ok (.tuple #[.pointer none, .bool false]) w := by kernel_rfl
theorem noUnwrap (n : Int) (w : World) : (Instr.typeAssert (.iface 23 (.int .i64 n)) 31 105 true).run Tryz.prog w = .ok (.tuple #[.nilIface, .bool false]) w := run_typeAssert_lacksB Tryz.underlying105 (by kernel_rfl) (by kernel_rfl) _ 31 w
theorem place_errno (n : Int) (w : World) (hg : Glob w) : Calls Tryz.prog 31 #[.iface 23 (.int .i64 n)] w fun e w' => e = .returned (.tuple #[.int .i64 n, .int .i64 (-1)]) /\ Below w.heap.size w w' := by
 have H := tell_errno n w hg
 have h1 := noAt n
 have h2 := noUnwrap n
 go_enter Tryz.func31, Tryz.ntmps31
 go_wp2_with fail
 refine H.mono ?_
 rintro e w' ⟨rfl, hb⟩
 clear H
 go_wp2_with fail
 refine wp_loop_rounds 1 ?_
 rw [rounds_succ]
 go_wp2
 go_ret2
 exact ⟨rfl, hb⟩
theorem refBare (k : Int) (w : World) : Calls Tryz.prog 17 #[.int .i64 k] w fun e w' => e = .returned (.agg #[.int .i64 k, .int .i64 (-1)]) /\ Below w.heap.size w w' := by
 go_enter Tryz.func17, Tryz.ntmps17
 go_wp2
 exact bodyPost_ret (v := .agg #[.int .i64 k, .int .i64 (-1)]) (by simp [results, Tryz.results17, go_sem]) rfl ⟨rfl, (Below.refl _ _).alloc (Nat.le_refl _) _⟩
theorem at_any (m k pl pk : Int) (v : Value) (w : World) (H : ∀ W : World, Below w.heap.size w W -> Calls Tryz.prog 31 #[v] W fun e w' => e = .returned (.tuple #[.int .i64 m, .int .i64 pl]) /\ Below W.heap.size W w') :
  Calls Tryz.prog 16 #[v, .agg #[.int .i64 k, .int .i64 pk]] w fun e w' => e = .returned (.bool (m == k && pl == pk)) /\ Below w.heap.size w w' := by
 have HH : Hid (∀ W : World, Below w.heap.size w W -> Calls Tryz.prog 31 #[v] W fun e w' => e = .returned (.tuple #[.int .i64 m, .int .i64 pl]) /\ Below W.heap.size W w') := H
 clear H
 have hb1 : Below w.heap.size w (w.alloc (.cells #[.int .i64 k, .int .i64 pk] 48)) := (Below.refl _ _).alloc (Nat.le_refl _) _
 have fin : ∀ q r : Bool, (m == k) = q -> (pl == pk) = r -> Calls Tryz.prog 16 #[v, .agg #[.int .i64 k, .int .i64 pk]] w fun e w' => e = .returned (.bool (q && r)) /\ Below w.heap.size w w' := by
  intro q r hq hr
  cases q <;> cases r
  all_goals
   go_enter Tryz.func16, Tryz.ntmps16
   go_wp2_with fail
   refine (HH.out _ hb1).mono ?_
   rintro e w2 ⟨rfl, hb2⟩
   have c0 : w2.cell? ⟨w.heap.size, 0, none⟩ = some (.int .i64 k) := (hb2.cell (p := ⟨w.heap.size, 0, none⟩) (by simp)).trans (by simp)
   have c1 : w2.cell? ⟨w.heap.size, 1, none⟩ = some (.int .i64 pk) := (hb2.cell (p := ⟨w.heap.size, 1, none⟩) (by simp)).trans (by simp)
   have hb3 : Below w.heap.size w w2 := hb1.trans (hb2.mono (by simp))
   clear hb2
   go_wp2
   go_ret
   exact ⟨rfl, hb3⟩
 exact fin _ _ rfl rfl
theorem bare_core (m k pl : Int) (v : Value) (w : World) (H : ∀ W : World, Below w.heap.size w W -> Calls Tryz.prog 31 #[v] W fun e w' => e = .returned (.tuple #[.int .i64 m, .int .i64 pl]) /\ Below W.heap.size W w') :
  Calls Tryz.prog 8 #[v, .int .i64 k] w fun e w' => e = .returned (.bool (m == k && pl == -1)) /\ Below w.heap.size w w' := by
 have HH : Hid (∀ W : World, Below w.heap.size w W -> Calls Tryz.prog 31 #[v] W fun e w' => e = .returned (.tuple #[.int .i64 m, .int .i64 pl]) /\ Below W.heap.size W w') := H
 clear H
 generalize hz : (m == k && pl == -1) = z
 go_enter Tryz.func8, Tryz.ntmps8
 go_wp2_with fail
 refine (refBare k _).mono ?_
 rintro e w1 ⟨rfl, hb1⟩
 have HA := at_any m k pl (-1) v w1 (fun W hW => HH.out W (hb1.trans (hW.mono hb1.size)))
 rw [hz] at HA
 clear hz
 go_wp2_with fail
 refine HA.mono ?_
 rintro e w2 ⟨rfl, hb2⟩
 go_wp2
 go_ret
 exact ⟨rfl, hb1.trans (hb2.mono hb1.size)⟩
theorem bare_errno (m k : Int) (w : World) (hg : Glob w) : Calls Tryz.prog 8 #[.iface 23 (.int .i64 m), .int .i64 k] w fun e w' => e = .returned (.bool (m == k)) /\ Below w.heap.size w w' := by
 have := bare_core m k (-1) (.iface 23 (.int .i64 m)) w (fun W hW => place_errno m W (hg.below hW))
 simpa using this
theorem bare_nil (k : Int) (w : World) : Calls Tryz.prog 8 #[.nilIface, .int .i64 k] w fun e w' => e = .returned (.bool (0 == k)) /\ Below w.heap.size w w' := by
 have := bare_core 0 k (-1) .nilIface w (fun W _ => (place_nil W).mono fun e w' ⟨he, hw⟩ => ⟨he, hw ▸ Below.refl _ _⟩)
 simpa using this
end Go.Proofs.YtkpjipohajplgaaGreatDoor
