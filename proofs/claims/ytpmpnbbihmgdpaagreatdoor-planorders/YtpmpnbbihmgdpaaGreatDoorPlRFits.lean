/- plan: the reference's Fits (printed by gen/genrfits.py). -/
import Derived.Test.YtpmpnbbihmgdpaaGreatDoorSvTurns
import Derived.Test.YtpmpnbbihmgdpaaGreatDoorRlAmong
import Derived.Deep.QuietTactic
import Derived.BigQuiet
set_option maxHeartbeats 4000000
set_option maxRecDepth 100000
namespace Go.Proofs.YtpmpnbbihmgdpaaGreatDoor
open Go.RowKit Go.Deep Sv
theorem rin_c (set : Nat) (hs : set < 18446744073709551616) (b k : Nat) (hk : k < 24) (w : World) (hc : w.cell? ⟨b, 0, none⟩ = some (.int .u64 (set : Int))) :
  Calls Tryz.prog 80 #[.int .i64 (k : Int), .pointer (some ⟨b, 0, none⟩)] w fun e w' => e = .returned (.bool (set.testBit k)) /\ w' = w := by
 have h1 := shr_bit1 set k hs
 go_enter Tryz.func80, Tryz.ntmps80
 go_wp2
 go_ret
 exact ⟨by first | rfl | simp, rfl⟩
theorem fits_bad {its : List It} {ls : List Ln} {set : Nat} (h : singleB its set = false) : fitsF its ls set = (false, -2) := by unfold fitsF; rw [if_pos h]
theorem fits_good {its : List It} {ls : List Ln} {set : Nat} (h : singleB its set = true) : fitsF its ls set = fitsG (badF its ls set) := by unfold fitsF; rw [if_neg (by rw [h]; decide)]
theorem anyIn_snoc (set : Nat) (A : List Nat) (j : Nat) (h : j < A.length) : anyIn set (A.take (j + 1)) = (anyIn set (A.take j) || set.testBit (A.getD j 0)) := by
 unfold anyIn
 rw [ptake_snoc A j h, List.any_append]
 simp
theorem rfits_no (ls : List Ln) (its : List It) (hN : newF ls = .ok its) (set : Nat) (v : Value) (w : World) (h : RLs w v ls) (hlt : ¬ set < 2 ^ its.length) :
  Calls Tryz.prog 30 #[v, .int .u64 (set : Int)] w fun e w' => e = .returned (.tuple #[.bool (fitsF its ls set).1, .int .i64 (fitsF its ls set).2]) /\ Below w.heap.size w w' := by
 obtain ⟨hl, hll, -⟩ := newF_ok hN
 have hbx := below_new w (.cells #[.int .u64 (set : Int)] 69)
 have kx := Blk.new w 69 #[.int .u64 (set : Int)]
 have HI0 := ritems_any ls v _ (h.below hbx (Nat.le_refl _)) (by omega)
 rw [(new_asc hN).2] at HI0
 obtain ⟨va, vc, rfl⟩ : ∃ a c, v = .slice a ls.length c := by obtain ⟨vs', _, h2⟩ := h; obtain ⟨a, c, e, _⟩ := h2.form; exact ⟨a, c, e⟩
 have HI := Lib.hid HI0
 have hz : (0 : Int) < (set : Int) / 2 ^ its.length := by
  have e2 : ((set / 2 ^ its.length : Nat) : Int) = (set : Int) / 2 ^ its.length := by simp
  have : ¬ set / 2 ^ its.length = 0 := fun e => hlt ((shr_zero_iff _ _).1 e)
  rw [<- e2]
  exact Int.natCast_pos.2 (Nat.pos_of_ne_zero this)
 have HF := Lib.hid (fits_bad (its := its) (ls := ls) (set := set) (by unfold singleB; rw [decide_eq_false hlt, Bool.false_and]))
 rw [HF.out]
 have HBX := Lib.hid hbx
 clear h hlt hN hbx HI0
 go_enter Tryz.func30, Tryz.ntmps30
 go_upto_region 1 with fail
 generalize w.alloc (.cells #[.int .u64 (set : Int)] 69) = W0 at *
 go_wp2_with fail
 refine HI.out.mono ?_
 rintro e w1 ⟨v', rfl, hown, hb1⟩
 obtain ⟨ia, ic, rfl, -⟩ : ∃ a c, v' = .slice a its.length c /\ True := by obtain ⟨a, c, e, _⟩ := (rowAt_own hown).form; exact ⟨a, c, e, trivial⟩
 have k1 := kx.below hb1 kx.lt
 have c0 : w1.cell? ⟨w.heap.size, 0, none⟩ = some (.int .u64 (set : Int)) := k1.cell 0
 have HB1 : Hid (Below w.heap.size w w1) := HBX.out.trans (hb1.mono HBX.out.size)
 clear hown hb1 HI kx k1 HBX
 go_wp2
 go_ret2
 exact ⟨rfl, HB1.out⟩
def LineOk (its : List It) (ls : List Ln) (set i : Nat) : Prop := ∀ j, j < i -> keepsB its (ls.getD j default) set = true
theorem rfits_yes (ls : List Ln) (its : List It) (hN : newF ls = .ok its) (set : Nat) (v : Value) (w : World) (h : RLs w v ls) (hlt : set < 2 ^ its.length) :
  Calls Tryz.prog 30 #[v, .int .u64 (set : Int)] w fun e w' => e = .returned (.tuple #[.bool (fitsF its ls set).1, .int .i64 (fitsF its ls set).2]) /\ Below w.heap.size w w' := by
 obtain ⟨hl, hll, -⟩ := newF_ok hN
 have hs : set < 16777216 := Nat.lt_of_lt_of_le hlt (Nat.pow_le_pow_right (n := 2) (by decide) hl)
 have hbx := below_new w (.cells #[.int .u64 (set : Int)] 69)
 have kx := Blk.new w 69 #[.int .u64 (set : Int)]
 have HI0 := ritems_any ls v _ (h.below hbx (Nat.le_refl _)) (by omega)
 rw [(new_asc hN).2] at HI0
 have HRL := Lib.hid (h.below hbx (Nat.le_refl _))
 obtain ⟨va, vc, rfl⟩ : ∃ a c, v = .slice a ls.length c := by obtain ⟨vs', _, h2⟩ := h; obtain ⟨a, c, e, _⟩ := h2.form; exact ⟨a, c, e⟩
 have HI := Lib.hid HI0
 have hz : (set : Int) / 2 ^ its.length = 0 := by
  have e2 : ((set / 2 ^ its.length : Nat) : Int) = (set : Int) / 2 ^ its.length := by simp
  have := (shr_zero_iff set its.length).2 hlt
  omega
 have HSI := Lib.hid (single_iff hN set)
 have HOW : Hid (∀ x ∈ ls, x.pair -> ctNumb its x.it = (ownN its x : Int) /\ ownN its x < its.length) := fun x hx hp => ⟨(own_pair hN hx hp).1, (own_pair hN hx hp).2.1⟩
 have HRA : Hid (∀ name rng, ramP its name rng its.length = amongF its name rng) := fun name rng => ramP_among (new_asc hN).1 name rng
 have HLT2 := Lib.hid hlt
 have HINS : Hid (∀ (W : World) (k : Nat), k < 24 -> W.cell? ⟨w.heap.size, 0, none⟩ = some (.int .u64 (set : Int)) -> Calls Tryz.prog 80 #[.int .i64 (k : Int), .pointer (some ⟨w.heap.size, 0, none⟩)] W fun e w' => e = .returned (.bool (set.testBit k)) /\ w' = W) := fun W k hk hc => rin_c set (by omega) w.heap.size k hk W hc
 have HBX := Lib.hid hbx
 clear h hlt hN hbx HI0
 go_enter Tryz.func30, Tryz.ntmps30
 go_upto_region 1 with fail
 generalize w.alloc (.cells #[.int .u64 (set : Int)] 69) = W0 at *
 go_wp2_with fail
 refine HI.out.mono ?_
 rintro e w1 ⟨v', rfl, hown, hb1⟩
 obtain ⟨ia, ic, rfl, -⟩ : ∃ a c, v' = .slice a its.length c /\ True := by obtain ⟨a, c, e, _⟩ := (rowAt_own hown).form; exact ⟨a, c, e, trivial⟩
 have k1 := kx.below hb1 kx.lt
 have hwl := k1.lt
 have c0 : w1.cell? ⟨w.heap.size, 0, none⟩ = some (.int .u64 (set : Int)) := k1.cell 0
 have CS : Hid (∀ W, Below w1.heap.size w1 W -> W.cell? ⟨w.heap.size, 0, none⟩ = some (.int .u64 (set : Int))) := fun W hb => (k1.below hb hwl).cell 0
 have HIT : Hid (ItsAt w1 (.slice ia its.length ic) its) := rowAt_own hown
 have HR1 := Lib.hid (HRL.out.below hb1 (Nat.le_refl _))
 have HB1 : Hid (Below w.heap.size w w1) := HBX.out.trans (hb1.mono HBX.out.size)
 clear hown hb1 HI kx k1 HBX HRL
 go_wp2_with fail
 clear c0
 go_loopw [28] (fun iV wr => ∃ i : Nat, i <= its.length /\ iV = .int .i64 (i : Int) /\ (∀ a b, a < i -> b < its.length -> a ≠ b -> set.testBit a = true -> set.testBit b = true -> (its.getD a default).name ≠ (its.getD b default).name) /\ Below w1.heap.size w1 wr) (fun iV _ => its.length - (intOf iV).toNat)
 case atStart => exact ⟨0, Nat.zero_le _, rfl, fun a b h => by omega, Below.refl _ _⟩
 case round =>
  obtain ⟨i, hil, rfl, hpre, hbr⟩ := hrel
  have HPRE := Lib.hid hpre
  have HBR := Lib.hid hbr
  clear hpre hbr
  by_cases hli : i < its.length
  ·go_wp2_with fail
   go_loopw [33] (fun kV wx => ∃ k : Nat, k <= its.length /\ kV = .int .i64 (k : Int) /\ (∀ b, b < k -> i ≠ b -> set.testBit i = true -> set.testBit b = true -> (its.getD i default).name ≠ (its.getD b default).name) /\ Below w1.heap.size w1 wx) (fun kV _ => its.length - (intOf kV).toNat)
   case atStart => exact ⟨0, Nat.zero_le _, rfl, fun b h => by omega, HBR.out⟩
   case round =>
    clear HBR
    obtain ⟨k, hkl, rfl, hin, hbx2⟩ := hrel
    have HIN2 := Lib.hid hin
    have HBX2 := Lib.hid hbx2
    have cS := CS.out _ hbx2
    clear hin
    by_cases hlk : k < its.length
    ·obtain ⟨g, cap', e, hg, n0, -, -, -⟩ := (show ItsAt _ _ its from HIT.out.below hbx2 (Nat.le_refl _)).at i hli
     simp at e
     obtain ⟨rfl, rfl⟩ := e
     obtain ⟨g', cap'', e, hg', n1, -, -, -⟩ := (show ItsAt _ _ its from HIT.out.below hbx2 (Nat.le_refl _)).at k hlk
     simp at e
     obtain ⟨rfl, rfl⟩ := e
     have hi0 : (0 : Int) <= (i : Int) := by omega
     have hi1 : (i : Int) < (its.length : Int) := by omega
     have hk0 : (0 : Int) <= (k : Int) := by omega
     have hk1 : (k : Int) < (its.length : Int) := by omega
     obtain ⟨X, hX⟩ : ∃ X, its.getD i default = X := ⟨_, rfl⟩
     obtain ⟨Y, hY⟩ : ∃ Y, its.getD k default = Y := ⟨_, rfl⟩
     rw [hX] at n0
     rw [hY] at n1
     have HX := Lib.hid hX
     have HY := Lib.hid hY
     obtain ⟨BB, hBB⟩ : ∃ BB : Bool, (decide (i ≠ k) && (set.testBit i && (set.testBit k && decide (X.name = Y.name)))) = BB := ⟨_, rfl⟩
     have HBB := Lib.hid hBB
     have HQ1 : Hid (∀ n, Calls Tryz.prog 80 #[.int .i64 (i : Int), .pointer (some ⟨w.heap.size, 0, none⟩)] (wr.drewN n) fun e w' => e = .returned (.bool (set.testBit i)) /\ w' = wr.drewN n) := fun n => HINS.out _ i (by omega) cS
     have HQ2 : Hid (∀ n, Calls Tryz.prog 80 #[.int .i64 (k : Int), .pointer (some ⟨w.heap.size, 0, none⟩)] (wr.drewN n) fun e w' => e = .returned (.bool (set.testBit k)) /\ w' = wr.drewN n) := fun n => HINS.out _ k (by omega) cS
     clear hX hY hBB hbx2
     go_upto_region 11 with fail
     go_cut [61] from 36 to 61 (fun c wy => c = .bool BB /\ Below w1.heap.size w1 wy)
     case first =>
      by_cases hik : i = k
      ·have HB : Hid (BB = false) := by show _ = _; rw [<- HBB.out, decide_eq_false (by simpa using hik), Bool.false_and]
       have hd : ((i : Int) != (k : Int)) = false := by simp [hik]
       clear hik HQ1 HQ2
       go_quiet (fail)
       go_wp2
       go_meet
       case rel => exact ⟨by rw [HB.out], below_drewN HBX2.out _⟩
      ·have hd : ((i : Int) != (k : Int)) = true := by simp; omega
       have HIK : Hid (decide (i ≠ k) = true) := decide_eq_true hik
       clear hik
       cases hti : set.testBit i with
       | false =>
        have HB : Hid (BB = false) := by show _ = _; rw [<- HBB.out, hti]; simp
        rw [hti] at HQ1
        clear hti HQ2
        go_quiet (first | (go_at_call 80; refine Calls.quiet_of_same (HQ1.out _)))
        go_wp2
        go_meet
        case rel => exact ⟨by rw [HB.out], below_drewN HBX2.out _⟩
       | true =>
        rw [hti] at HQ1
        cases htk : set.testBit k with
        | false =>
         have HB : Hid (BB = false) := by show _ = _; rw [<- HBB.out, htk]; simp
         rw [htk] at HQ2
         clear hti htk
         go_quiet (first | (go_at_call 80; refine Calls.quiet_of_same (HQ1.out _)) | (go_at_call 80; refine Calls.quiet_of_same (HQ2.out _)))
         go_wp2
         go_meet
         case rel => exact ⟨by rw [HB.out], below_drewN HBX2.out _⟩
        | true =>
         rw [htk] at HQ2
         by_cases hnm : X.name = Y.name
         ·have HB : Hid (BB = true) := by show _ = _; rw [<- HBB.out, hti, htk, HIK.out, decide_eq_true hnm]; rfl
          have e1 : (X.name.toList == Y.name.toList) = true := by rw [hnm]; simp
          clear hti htk hnm
          go_quiet (first | (go_at_call 80; refine Calls.quiet_of_same (HQ1.out _)) | (go_at_call 80; refine Calls.quiet_of_same (HQ2.out _)))
          go_wp2
          go_meet
          case rel => exact ⟨by rw [HB.out], below_drewN HBX2.out _⟩
         ·have HB : Hid (BB = false) := by show _ = _; rw [<- HBB.out, decide_eq_false hnm]; simp
          have e1 : (X.name.toList == Y.name.toList) = false := by rw [beq_eq_false_iff_ne]; exact fun e => hnm (bytes_eq e)
          clear hti htk hnm
          go_quiet (first | (go_at_call 80; refine Calls.quiet_of_same (HQ1.out _)) | (go_at_call 80; refine Calls.quiet_of_same (HQ2.out _)))
          go_wp2
          go_meet
          case rel => exact ⟨by rw [HB.out], below_drewN HBX2.out _⟩
     case rest =>
      obtain ⟨rfl, hbc⟩ := hcut
      have HBC := Lib.hid hbc
      clear hbc HBX2 HQ1 HQ2 cS n0 n1
      cases BB with
      | true =>
       have HSF : Hid (fitsF its ls set = (false, -2)) := by
        refine fits_bad ?_
        have hb := HBB.out
        simp only [Bool.and_eq_true, decide_eq_true_eq] at hb
        cases hsb : singleB its set with
        | false => rfl
        | true =>
         have := (HSI.out.1 hsb).2 i k hli hlk hb.1 hb.2.1 hb.2.2.1
         rw [HX.out, HY.out] at this
         exact absurd hb.2.2.2 this
       have HB9 : Hid (Below w.heap.size w wc) := HB1.out.trans (HBC.out.mono HB1.out.size)
       clear HBC
       go_wp2
       go_ret2
       exact ⟨by rw [HSF.out]; rfl, HB9.out⟩
      | false =>
       have HNX : Hid (∀ b, b < k + 1 -> i ≠ b -> set.testBit i = true -> set.testBit b = true -> (its.getD i default).name ≠ (its.getD b default).name) := fun b hb h1 h2 h3 => by
        rcases Nat.lt_succ_iff_lt_or_eq.1 hb with e | e
        ·exact HIN2.out b e h1 h2 h3
        ·subst e
         rw [HX.out, HY.out]
         intro hn
         have hb := HBB.out
         rw [decide_eq_true h1, h2, h3, decide_eq_true hn] at hb
         cases hb
       go_wp2
       go_roundw
       case rel => exact ⟨k + 1, hlk, by go_num, HNX.out, HBC.out⟩
       case measure => simp [intOf]; omega
    ·obtain rfl : k = its.length := by omega
     have HNX : Hid (∀ a b, a < i + 1 -> b < its.length -> a ≠ b -> set.testBit a = true -> set.testBit b = true -> (its.getD a default).name ≠ (its.getD b default).name) := fun a b ha hb h1 h2 h3 => by
      rcases Nat.lt_succ_iff_lt_or_eq.1 ha with e | e
      ·exact HPRE.out a b e hb h1 h2 h3
      ·subst e; exact HIN2.out b hb h1 h2 h3
     clear hbx2 cS
     go_wp2
     go_roundw
     case rel => exact ⟨i + 1, hli, by go_num, HNX.out, HBX2.out⟩
     case measure => simp [intOf]; omega
  ·obtain rfl : i = its.length := by omega
   obtain ⟨w3, hw3⟩ : ∃ w3, w3 = wr := ⟨wr, rfl⟩
   subst hw3
   have HSF : Hid (fitsF its ls set = fitsG (badF its ls set)) := fits_good (HSI.out.2 ⟨HLT2.out, fun a b ha hb h1 h2 h3 => HPRE.out a b ha hb h1 h2 h3⟩)
   have HR2 := Lib.hid (HR1.out.below HBR.out (Nat.le_refl _))
   have HB2 : Hid (Below w.heap.size w w3) := HB1.out.trans (HBR.out.mono HB1.out.size)
   have CS2 : Hid (∀ W, Below w3.heap.size w3 W -> W.cell? ⟨w.heap.size, 0, none⟩ = some (.int .u64 (set : Int))) := fun W hb => CS.out W (HBR.out.trans (hb.mono HBR.out.size))
   have HIT2 : Hid (ItsAt w3 (.slice ia its.length ic) its) := HIT.out.below HBR.out (Nat.le_refl _)
   clear HSI HPRE HLT2 hz HR1 HB1 CS HIT HBR
   go_wp2_with fail
   go_loopw [66] (fun iV wx => ∃ i : Nat, i <= ls.length /\ iV = .int .i64 (i : Int) /\ LineOk its ls set i /\ Below w3.heap.size w3 wx) (fun iV _ => ls.length - (intOf iV).toNat)
   case atStart => exact ⟨0, Nat.zero_le _, rfl, fun j hj => by omega, Below.refl _ _⟩
   case round =>
    obtain ⟨i, hil2, rfl, hall, hbr⟩ := hrel
    have HALL := Lib.hid hall
    clear hall
    by_cases hlt : i < ls.length
    ·have hii0 : (0 : Int) <= (i : Int) := by omega
     have hii1 : (i : Int) < (ls.length : Int) := by omega
     obtain ⟨g, cap', ra, rc, e, hg, hns, hrg, c0, c1, c2, c3, c4, c5, c6⟩ := (HR2.out.below hbr (Nat.le_refl _)).at i hlt
     simp at e
     obtain ⟨rfl, rfl⟩ := e
     have HXM := Lib.hid (lget_mem ls i hlt)
     obtain ⟨x, hxe⟩ : ∃ x, ls.getD i default = x := ⟨_, rfl⟩
     rw [hxe] at hns hrg c0 c1 c2 c3 c4 c5 c6 HXM
     have HXE := Lib.hid hxe
     have hb6 := below_new wr (.cells #[.int .i64 x.kind, .string x.name, .int .i64 x.a, .int .i64 x.b, .int .i64 x.c, .string x.other, .slice ra (tp x.rng).length rc] 54)
     have kx := Blk.new wr 54 #[.int .i64 x.kind, .string x.name, .int .i64 x.a, .int .i64 x.b, .int .i64 x.c, .string x.other, .slice ra (tp x.rng).length rc]
     have HB6 : Hid (Below w3.heap.size w3 (wr.alloc (.cells #[.int .i64 x.kind, .string x.name, .int .i64 x.a, .int .i64 x.b, .int .i64 x.c, .string x.other, .slice ra (tp x.rng).length rc] 54))) := hbr.trans (hb6.mono hbr.size)
     have HNS := Lib.hid (hns.below hb6 (Nat.le_refl _))
     clear hns hxe hb6 hbr
     go_upto_region 18 with fail
     generalize wr.alloc (.cells #[.int .i64 x.kind, .string x.name, .int .i64 x.a, .int .i64 x.b, .int .i64 x.c, .string x.other, .slice ra (tp x.rng).length rc] 54) = W6 at *
     generalize wr.heap.size = bx at *
     clear c0 c1 c2 c3 c4 c5 c6 hg
     have x0 : W6.cell? ⟨bx, 0, none⟩ = some (.int .i64 x.kind) := kx.cell 0
     have x1 : W6.cell? ⟨bx, 1, none⟩ = some (.string x.name) := kx.cell 1
     have x2 : W6.cell? ⟨bx, 2, none⟩ = some (.int .i64 x.a) := kx.cell 2
     have x3 : W6.cell? ⟨bx, 3, none⟩ = some (.int .i64 x.b) := kx.cell 3
     have x4 : W6.cell? ⟨bx, 4, none⟩ = some (.int .i64 x.c) := kx.cell 4
     have x5 : W6.cell? ⟨bx, 5, none⟩ = some (.string x.other) := kx.cell 5
     have x6 : W6.cell? ⟨bx, 6, none⟩ = some (.slice ra (tp x.rng).length rc) := kx.cell 6
     have hxl := kx.lt
     have XS : Hid (∀ W, Below W6.heap.size W6 W -> Blk W bx 54 #[.int .i64 x.kind, .string x.name, .int .i64 x.a, .int .i64 x.b, .int .i64 x.c, .string x.other, .slice ra (tp x.rng).length rc]) := fun W hb => kx.below hb hxl
     clear kx
     have HKI := Lib.hid (keeps_is its x set)
     by_cases h4 : x.kind = 4
     ·have hk := h4
      clear h4
      rw [hk] at x0
      have HAM0 := ramong_any its x.name x.rng hrg (.slice ia its.length ic) (.slice ra (tp x.rng).length rc) W6 (HIT2.out.below HB6.out (Nat.le_refl _)) (by omega) HNS.out
      rw [HRA.out] at HAM0
      have HAL := Lib.hid (amongF_lt its x.name x.rng)
      have hal := amongF_len its x.name x.rng
      rw [if_pos hk] at HKI
      obtain ⟨A, hA⟩ : ∃ A, amongF its x.name x.rng = A := ⟨_, rfl⟩
      rw [hA] at HAM0 HAL hal HKI
      have HAM := Lib.hid HAM0
      clear hA HAM0
      have HK := Lib.hid hk
      clear hk
      go_wp2_with fail
      refine HAM.out.mono ?_
      rintro e w7 ⟨v7, rfl, hown, hb7⟩
      obtain ⟨aa, ac, rfl, -⟩ := row_form hown
      have HINT : Hid (IntsIn w7 aa (natS A)) := ints_row (B := W6.heap.size) (c := ac) (by rw [natS_len]; exact hown)
      have HB7 : Hid (Below w3.heap.size w3 w7) := HB6.out.trans (hb7.mono HB6.out.size)
      have X7 := Lib.hid (XS.out w7 hb7)
      clear hown hb7 HAM HB6 XS HNS x0 x1 x2 x3 x4 x5 x6
      go_wp2_with fail
      go_loopw [13, 84] (fun sV jV wy => ∃ j : Nat, j <= A.length /\ jV = .int .i64 (j : Int) /\ sV = .bool (anyIn set (A.take j)) /\ wy = w7) (fun _ jV _ => A.length - (intOf jV).toNat)
      case atStart => exact ⟨0, Nat.zero_le _, rfl, rfl, rfl⟩
      case round =>
       obtain ⟨j, hjl, rfl, rfl, rfl⟩ := hrel
       have cS := CS2.out _ HB7.out
       by_cases hlj : j < A.length
       ·obtain ⟨ad, rfl, had, ca⟩ := HINT.out j (by rw [natS_len]; exact hlj)
        rw [natS_at A j hlj] at ca
        have hxA := HAL.out _ (pget_mem A j hlj)
        have HTK := Lib.hid (anyIn_snoc set A j hlj)
        have hj0 : (0 : Int) <= (j : Int) := by omega
        have hj1 : (j : Int) < (A.length : Int) := by omega
        obtain ⟨y, hy⟩ : ∃ y, A.getD j 0 = y := ⟨_, rfl⟩
        rw [hy] at ca hxA HTK
        have HQ := Lib.hid (HINS.out _ y (by omega) cS)
        obtain ⟨ab, ao, asp⟩ := ad
        clear hy
        cases hso : anyIn set (A.take j) with
        | true =>
         rw [hso, Bool.true_or] at HTK
         clear hso HQ
         go_wp2
         go_roundw
         case rel => exact ⟨j + 1, hlj, by go_num, by rw [HTK.out], by first | rfl | trivial⟩
         case measure => simp [intOf]; omega
        | false =>
         rw [hso, Bool.false_or] at HTK
         clear hso
         go_wp2_with fail
         refine HQ.out.mono ?_
         rintro e w8 ⟨rfl, rfl⟩
         clear HQ
         go_wp2
         go_roundw
         case rel => exact ⟨j + 1, hlj, by go_num, by rw [HTK.out], by first | rfl | trivial⟩
         case measure => simp [intOf]; omega
       ·obtain rfl : j = A.length := by omega
        rw [List.take_length]
        have x0 : wr.cell? ⟨bx, 0, none⟩ = some (.int .i64 x.kind) := X7.out.cell 0
        have x1 : wr.cell? ⟨bx, 1, none⟩ = some (.string x.name) := X7.out.cell 1
        have x2 : wr.cell? ⟨bx, 2, none⟩ = some (.int .i64 x.a) := X7.out.cell 2
        have x3 : wr.cell? ⟨bx, 3, none⟩ = some (.int .i64 x.b) := X7.out.cell 3
        have x4 : wr.cell? ⟨bx, 4, none⟩ = some (.int .i64 x.c) := X7.out.cell 4
        have HNM := Lib.hid (rnumof_any its x.it (.slice ia its.length ic) wr (HIT2.out.below HB7.out (Nat.le_refl _)) (by omega))
        generalize ctNumb its x.it = NN at *
        go_wp2_with fail
        refine HNM.out.mono ?_
        rintro e w9 ⟨rfl, hb9⟩
        have k9 := X7.out.below hb9 X7.out.lt
        have y0 : w9.cell? ⟨bx, 0, none⟩ = some (.int .i64 x.kind) := k9.cell 0
        have HB9 : Hid (Below w3.heap.size w3 w9) := HB7.out.trans (hb9.mono HB7.out.size)
        have cS9 := CS2.out _ HB9.out
        clear hb9 HNM X7 k9 HB7 x0 x1 x2 x3 x4 cS HINT
        rw [HK.out] at y0
        cases hso : anyIn set A with
        | true =>
         have HKE : Hid (keepsB its x set = true) := by show _ = _; rw [HKI.out, hso]
         clear hso HKI
         have HNX : Hid (LineOk its ls set (i + 1)) := fun q hq => by
          rcases Nat.lt_succ_iff_lt_or_eq.1 hq with e | e
          ·exact HALL.out q e
          ·rw [e, HXE.out]; exact HKE.out
         go_wp2
         go_roundw
         case rel => exact ⟨i + 1, hlt, by go_num, HNX.out, HB9.out⟩
         case measure => simp [intOf]; omega
        | false =>
         have HKE : Hid (keepsB its x set = false) := by show _ = _; rw [HKI.out, hso]
         clear hso HKI
         have HBD : Hid (fitsF its ls set = (false, (i : Int))) := by show _ = _; rw [HSF.out, badF_some hlt HALL.out (by rw [HXE.out]; exact HKE.out)]; rfl
         have HB8 : Hid (Below w.heap.size w w9) := HB2.out.trans (HB9.out.mono HB2.out.size)
         go_wp2
         go_ret2
         exact ⟨by rw [HBD.out]; rfl, HB8.out⟩
     ·by_cases h2 : x.kind = 2
      ·have hk := h2
       clear h2
       rw [hk] at x0
       have HAM0 := ramong_any its x.other x.rng hrg (.slice ia its.length ic) (.slice ra (tp x.rng).length rc) W6 (HIT2.out.below HB6.out (Nat.le_refl _)) (by omega) HNS.out
       rw [HRA.out] at HAM0
       have HAL := Lib.hid (amongF_lt its x.other x.rng)
       have hal := amongF_len its x.other x.rng
       obtain ⟨ho1, ho2⟩ := HOW.out x HXM.out (Or.inl hk)
       rw [if_neg (by omega), if_pos hk] at HKI
       obtain ⟨A, hA⟩ : ∃ A, amongF its x.other x.rng = A := ⟨_, rfl⟩
       rw [hA] at HAM0 HAL hal HKI
       have HAM := Lib.hid HAM0
       clear hA HAM0
       have HK := Lib.hid hk
       clear hk
       go_wp2_with fail
       refine HAM.out.mono ?_
       rintro e w7 ⟨v7, rfl, hown, hb7⟩
       obtain ⟨aa, ac, rfl, -⟩ := row_form hown
       have HINT : Hid (IntsIn w7 aa (natS A)) := ints_row (B := W6.heap.size) (c := ac) (by rw [natS_len]; exact hown)
       have HB7 : Hid (Below w3.heap.size w3 w7) := HB6.out.trans (hb7.mono HB6.out.size)
       have X7 := Lib.hid (XS.out w7 hb7)
       clear hown hb7 HAM HB6 XS HNS x0 x1 x2 x3 x4 x5 x6
       go_wp2_with fail
       go_loopw [13, 84] (fun sV jV wy => ∃ j : Nat, j <= A.length /\ jV = .int .i64 (j : Int) /\ sV = .bool (anyIn set (A.take j)) /\ wy = w7) (fun _ jV _ => A.length - (intOf jV).toNat)
       case atStart => exact ⟨0, Nat.zero_le _, rfl, rfl, rfl⟩
       case round =>
        obtain ⟨j, hjl, rfl, rfl, rfl⟩ := hrel
        have cS := CS2.out _ HB7.out
        by_cases hlj : j < A.length
        ·obtain ⟨ad, rfl, had, ca⟩ := HINT.out j (by rw [natS_len]; exact hlj)
         rw [natS_at A j hlj] at ca
         have hxA := HAL.out _ (pget_mem A j hlj)
         have HTK := Lib.hid (anyIn_snoc set A j hlj)
         have hj0 : (0 : Int) <= (j : Int) := by omega
         have hj1 : (j : Int) < (A.length : Int) := by omega
         obtain ⟨y, hy⟩ : ∃ y, A.getD j 0 = y := ⟨_, rfl⟩
         rw [hy] at ca hxA HTK
         have HQ := Lib.hid (HINS.out _ y (by omega) cS)
         obtain ⟨ab, ao, asp⟩ := ad
         clear hy
         cases hso : anyIn set (A.take j) with
         | true =>
          rw [hso, Bool.true_or] at HTK
          clear hso HQ
          go_wp2
          go_roundw
          case rel => exact ⟨j + 1, hlj, by go_num, by rw [HTK.out], by first | rfl | trivial⟩
          case measure => simp [intOf]; omega
         | false =>
          rw [hso, Bool.false_or] at HTK
          clear hso
          go_wp2_with fail
          refine HQ.out.mono ?_
          rintro e w8 ⟨rfl, rfl⟩
          clear HQ
          go_wp2
          go_roundw
          case rel => exact ⟨j + 1, hlj, by go_num, by rw [HTK.out], by first | rfl | trivial⟩
          case measure => simp [intOf]; omega
        ·obtain rfl : j = A.length := by omega
         rw [List.take_length]
         have x0 : wr.cell? ⟨bx, 0, none⟩ = some (.int .i64 x.kind) := X7.out.cell 0
         have x1 : wr.cell? ⟨bx, 1, none⟩ = some (.string x.name) := X7.out.cell 1
         have x2 : wr.cell? ⟨bx, 2, none⟩ = some (.int .i64 x.a) := X7.out.cell 2
         have x3 : wr.cell? ⟨bx, 3, none⟩ = some (.int .i64 x.b) := X7.out.cell 3
         have x4 : wr.cell? ⟨bx, 4, none⟩ = some (.int .i64 x.c) := X7.out.cell 4
         have HNM := Lib.hid (rnumof_any its x.it (.slice ia its.length ic) wr (HIT2.out.below HB7.out (Nat.le_refl _)) (by omega))
         rw [ho1] at HNM
         clear ho1
         go_wp2_with fail
         refine HNM.out.mono ?_
         rintro e w9 ⟨rfl, hb9⟩
         have k9 := X7.out.below hb9 X7.out.lt
         have y0 : w9.cell? ⟨bx, 0, none⟩ = some (.int .i64 x.kind) := k9.cell 0
         have HB9 : Hid (Below w3.heap.size w3 w9) := HB7.out.trans (hb9.mono HB7.out.size)
         have cS9 := CS2.out _ HB9.out
         clear hb9 HNM X7 k9 HB7 x0 x1 x2 x3 x4 cS HINT
         rw [HK.out] at y0
         have HQ := Lib.hid (HINS.out _ (ownN its x) (by omega) cS9)
         cases hto : set.testBit (ownN its x) with
         | false =>
          have HKE : Hid (keepsB its x set = true) := by show _ = _; rw [HKI.out, hto]; simp
          rw [hto] at HQ
          clear hto HKI
          generalize ownN its x = oo at *
          generalize anyIn set A = SO at *
          go_wp2_with fail
          refine HQ.out.mono ?_
          rintro e w10 ⟨rfl, rfl⟩
          clear HQ
          have HNX : Hid (LineOk its ls set (i + 1)) := fun q hq => by
           rcases Nat.lt_succ_iff_lt_or_eq.1 hq with e | e
           ·exact HALL.out q e
           ·rw [e, HXE.out]; exact HKE.out
          go_wp2
          go_roundw
          case rel => exact ⟨i + 1, hlt, by go_num, HNX.out, HB9.out⟩
          case measure => simp [intOf]; omega
         | true =>
          rw [hto] at HQ
          cases hso : anyIn set A with
          | true =>
           have HKE : Hid (keepsB its x set = true) := by show _ = _; rw [HKI.out, hto, hso]; rfl
           clear hto hso HKI
           generalize ownN its x = oo at *
           go_wp2_with fail
           refine HQ.out.mono ?_
           rintro e w10 ⟨rfl, rfl⟩
           clear HQ
           have HNX : Hid (LineOk its ls set (i + 1)) := fun q hq => by
            rcases Nat.lt_succ_iff_lt_or_eq.1 hq with e | e
            ·exact HALL.out q e
            ·rw [e, HXE.out]; exact HKE.out
           go_wp2
           go_roundw
           case rel => exact ⟨i + 1, hlt, by go_num, HNX.out, HB9.out⟩
           case measure => simp [intOf]; omega
          | false =>
           have HKE : Hid (keepsB its x set = false) := by show _ = _; rw [HKI.out, hto, hso]; rfl
           clear hto hso HKI
           generalize ownN its x = oo at *
           go_wp2_with fail
           refine HQ.out.mono ?_
           rintro e w10 ⟨rfl, rfl⟩
           clear HQ
           have HBD : Hid (fitsF its ls set = (false, (i : Int))) := by show _ = _; rw [HSF.out, badF_some hlt HALL.out (by rw [HXE.out]; exact HKE.out)]; rfl
           have HB8 : Hid (Below w.heap.size w w10) := HB2.out.trans (HB9.out.mono HB2.out.size)
           go_wp2
           go_ret2
           exact ⟨by rw [HBD.out]; rfl, HB8.out⟩
      ·by_cases h3 : x.kind = 3
       ·have hk := h3
        clear h3
        rw [hk] at x0
        have HAM0 := ramong_any its x.other x.rng hrg (.slice ia its.length ic) (.slice ra (tp x.rng).length rc) W6 (HIT2.out.below HB6.out (Nat.le_refl _)) (by omega) HNS.out
        rw [HRA.out] at HAM0
        have HAL := Lib.hid (amongF_lt its x.other x.rng)
        have hal := amongF_len its x.other x.rng
        obtain ⟨ho1, ho2⟩ := HOW.out x HXM.out (Or.inr hk)
        rw [if_neg (by omega), if_neg (by omega), if_pos hk] at HKI
        obtain ⟨A, hA⟩ : ∃ A, amongF its x.other x.rng = A := ⟨_, rfl⟩
        rw [hA] at HAM0 HAL hal HKI
        have HAM := Lib.hid HAM0
        clear hA HAM0
        have HK := Lib.hid hk
        clear hk
        go_wp2_with fail
        refine HAM.out.mono ?_
        rintro e w7 ⟨v7, rfl, hown, hb7⟩
        obtain ⟨aa, ac, rfl, -⟩ := row_form hown
        have HINT : Hid (IntsIn w7 aa (natS A)) := ints_row (B := W6.heap.size) (c := ac) (by rw [natS_len]; exact hown)
        have HB7 : Hid (Below w3.heap.size w3 w7) := HB6.out.trans (hb7.mono HB6.out.size)
        have X7 := Lib.hid (XS.out w7 hb7)
        clear hown hb7 HAM HB6 XS HNS x0 x1 x2 x3 x4 x5 x6
        go_wp2_with fail
        go_loopw [13, 84] (fun sV jV wy => ∃ j : Nat, j <= A.length /\ jV = .int .i64 (j : Int) /\ sV = .bool (anyIn set (A.take j)) /\ wy = w7) (fun _ jV _ => A.length - (intOf jV).toNat)
        case atStart => exact ⟨0, Nat.zero_le _, rfl, rfl, rfl⟩
        case round =>
         obtain ⟨j, hjl, rfl, rfl, rfl⟩ := hrel
         have cS := CS2.out _ HB7.out
         by_cases hlj : j < A.length
         ·obtain ⟨ad, rfl, had, ca⟩ := HINT.out j (by rw [natS_len]; exact hlj)
          rw [natS_at A j hlj] at ca
          have hxA := HAL.out _ (pget_mem A j hlj)
          have HTK := Lib.hid (anyIn_snoc set A j hlj)
          have hj0 : (0 : Int) <= (j : Int) := by omega
          have hj1 : (j : Int) < (A.length : Int) := by omega
          obtain ⟨y, hy⟩ : ∃ y, A.getD j 0 = y := ⟨_, rfl⟩
          rw [hy] at ca hxA HTK
          have HQ := Lib.hid (HINS.out _ y (by omega) cS)
          obtain ⟨ab, ao, asp⟩ := ad
          clear hy
          cases hso : anyIn set (A.take j) with
          | true =>
           rw [hso, Bool.true_or] at HTK
           clear hso HQ
           go_wp2
           go_roundw
           case rel => exact ⟨j + 1, hlj, by go_num, by rw [HTK.out], by first | rfl | trivial⟩
           case measure => simp [intOf]; omega
          | false =>
           rw [hso, Bool.false_or] at HTK
           clear hso
           go_wp2_with fail
           refine HQ.out.mono ?_
           rintro e w8 ⟨rfl, rfl⟩
           clear HQ
           go_wp2
           go_roundw
           case rel => exact ⟨j + 1, hlj, by go_num, by rw [HTK.out], by first | rfl | trivial⟩
           case measure => simp [intOf]; omega
         ·obtain rfl : j = A.length := by omega
          rw [List.take_length]
          have x0 : wr.cell? ⟨bx, 0, none⟩ = some (.int .i64 x.kind) := X7.out.cell 0
          have x1 : wr.cell? ⟨bx, 1, none⟩ = some (.string x.name) := X7.out.cell 1
          have x2 : wr.cell? ⟨bx, 2, none⟩ = some (.int .i64 x.a) := X7.out.cell 2
          have x3 : wr.cell? ⟨bx, 3, none⟩ = some (.int .i64 x.b) := X7.out.cell 3
          have x4 : wr.cell? ⟨bx, 4, none⟩ = some (.int .i64 x.c) := X7.out.cell 4
          have HNM := Lib.hid (rnumof_any its x.it (.slice ia its.length ic) wr (HIT2.out.below HB7.out (Nat.le_refl _)) (by omega))
          rw [ho1] at HNM
          clear ho1
          go_wp2_with fail
          refine HNM.out.mono ?_
          rintro e w9 ⟨rfl, hb9⟩
          have k9 := X7.out.below hb9 X7.out.lt
          have y0 : w9.cell? ⟨bx, 0, none⟩ = some (.int .i64 x.kind) := k9.cell 0
          have HB9 : Hid (Below w3.heap.size w3 w9) := HB7.out.trans (hb9.mono HB7.out.size)
          have cS9 := CS2.out _ HB9.out
          clear hb9 HNM X7 k9 HB7 x0 x1 x2 x3 x4 cS HINT
          rw [HK.out] at y0
          have HQ := Lib.hid (HINS.out _ (ownN its x) (by omega) cS9)
          cases hto : set.testBit (ownN its x) with
          | false =>
           have HKE : Hid (keepsB its x set = true) := by show _ = _; rw [HKI.out, hto]; simp
           rw [hto] at HQ
           clear hto HKI
           generalize ownN its x = oo at *
           generalize anyIn set A = SO at *
           go_wp2_with fail
           refine HQ.out.mono ?_
           rintro e w10 ⟨rfl, rfl⟩
           clear HQ
           have HNX : Hid (LineOk its ls set (i + 1)) := fun q hq => by
            rcases Nat.lt_succ_iff_lt_or_eq.1 hq with e | e
            ·exact HALL.out q e
            ·rw [e, HXE.out]; exact HKE.out
           go_wp2
           go_roundw
           case rel => exact ⟨i + 1, hlt, by go_num, HNX.out, HB9.out⟩
           case measure => simp [intOf]; omega
          | true =>
           rw [hto] at HQ
           cases hso : anyIn set A with
           | true =>
            have HKE : Hid (keepsB its x set = false) := by show _ = _; rw [HKI.out, hto, hso]; rfl
            clear hto hso HKI
            generalize ownN its x = oo at *
            go_wp2_with fail
            refine HQ.out.mono ?_
            rintro e w10 ⟨rfl, rfl⟩
            clear HQ
            have HBD : Hid (fitsF its ls set = (false, (i : Int))) := by show _ = _; rw [HSF.out, badF_some hlt HALL.out (by rw [HXE.out]; exact HKE.out)]; rfl
            have HB8 : Hid (Below w.heap.size w w10) := HB2.out.trans (HB9.out.mono HB2.out.size)
            go_wp2
            go_ret2
            exact ⟨by rw [HBD.out]; rfl, HB8.out⟩
           | false =>
            have HKE : Hid (keepsB its x set = true) := by show _ = _; rw [HKI.out, hto, hso]; rfl
            clear hto hso HKI
            generalize ownN its x = oo at *
            go_wp2_with fail
            refine HQ.out.mono ?_
            rintro e w10 ⟨rfl, rfl⟩
            clear HQ
            have HNX : Hid (LineOk its ls set (i + 1)) := fun q hq => by
             rcases Nat.lt_succ_iff_lt_or_eq.1 hq with e | e
             ·exact HALL.out q e
             ·rw [e, HXE.out]; exact HKE.out
            go_wp2
            go_roundw
            case rel => exact ⟨i + 1, hlt, by go_num, HNX.out, HB9.out⟩
            case measure => simp [intOf]; omega
       ·have HAM0 := ramong_any its x.other x.rng hrg (.slice ia its.length ic) (.slice ra (tp x.rng).length rc) W6 (HIT2.out.below HB6.out (Nat.le_refl _)) (by omega) HNS.out
        rw [HRA.out] at HAM0
        have HAL := Lib.hid (amongF_lt its x.other x.rng)
        have hal := amongF_len its x.other x.rng
        rw [if_neg h4, if_neg h2, if_neg h3] at HKI
        obtain ⟨A, hA⟩ : ∃ A, amongF its x.other x.rng = A := ⟨_, rfl⟩
        rw [hA] at HAM0 HAL hal
        have HAM := Lib.hid HAM0
        clear hA HAM0
        go_wp2_with fail
        refine HAM.out.mono ?_
        rintro e w7 ⟨v7, rfl, hown, hb7⟩
        obtain ⟨aa, ac, rfl, -⟩ := row_form hown
        have HINT : Hid (IntsIn w7 aa (natS A)) := ints_row (B := W6.heap.size) (c := ac) (by rw [natS_len]; exact hown)
        have HB7 : Hid (Below w3.heap.size w3 w7) := HB6.out.trans (hb7.mono HB6.out.size)
        have X7 := Lib.hid (XS.out w7 hb7)
        clear hown hb7 HAM HB6 XS HNS x0 x1 x2 x3 x4 x5 x6
        go_wp2_with fail
        go_loopw [13, 84] (fun sV jV wy => ∃ j : Nat, j <= A.length /\ jV = .int .i64 (j : Int) /\ sV = .bool (anyIn set (A.take j)) /\ wy = w7) (fun _ jV _ => A.length - (intOf jV).toNat)
        case atStart => exact ⟨0, Nat.zero_le _, rfl, rfl, rfl⟩
        case round =>
         obtain ⟨j, hjl, rfl, rfl, rfl⟩ := hrel
         have cS := CS2.out _ HB7.out
         by_cases hlj : j < A.length
         ·obtain ⟨ad, rfl, had, ca⟩ := HINT.out j (by rw [natS_len]; exact hlj)
          rw [natS_at A j hlj] at ca
          have hxA := HAL.out _ (pget_mem A j hlj)
          have HTK := Lib.hid (anyIn_snoc set A j hlj)
          have hj0 : (0 : Int) <= (j : Int) := by omega
          have hj1 : (j : Int) < (A.length : Int) := by omega
          obtain ⟨y, hy⟩ : ∃ y, A.getD j 0 = y := ⟨_, rfl⟩
          rw [hy] at ca hxA HTK
          have HQ := Lib.hid (HINS.out _ y (by omega) cS)
          obtain ⟨ab, ao, asp⟩ := ad
          clear hy
          cases hso : anyIn set (A.take j) with
          | true =>
           rw [hso, Bool.true_or] at HTK
           clear hso HQ
           go_wp2
           go_roundw
           case rel => exact ⟨j + 1, hlj, by go_num, by rw [HTK.out], by first | rfl | trivial⟩
           case measure => simp [intOf]; omega
          | false =>
           rw [hso, Bool.false_or] at HTK
           clear hso
           go_wp2_with fail
           refine HQ.out.mono ?_
           rintro e w8 ⟨rfl, rfl⟩
           clear HQ
           go_wp2
           go_roundw
           case rel => exact ⟨j + 1, hlj, by go_num, by rw [HTK.out], by first | rfl | trivial⟩
           case measure => simp [intOf]; omega
         ·obtain rfl : j = A.length := by omega
          rw [List.take_length]
          have x0 : wr.cell? ⟨bx, 0, none⟩ = some (.int .i64 x.kind) := X7.out.cell 0
          have x1 : wr.cell? ⟨bx, 1, none⟩ = some (.string x.name) := X7.out.cell 1
          have x2 : wr.cell? ⟨bx, 2, none⟩ = some (.int .i64 x.a) := X7.out.cell 2
          have x3 : wr.cell? ⟨bx, 3, none⟩ = some (.int .i64 x.b) := X7.out.cell 3
          have x4 : wr.cell? ⟨bx, 4, none⟩ = some (.int .i64 x.c) := X7.out.cell 4
          have HNM := Lib.hid (rnumof_any its x.it (.slice ia its.length ic) wr (HIT2.out.below HB7.out (Nat.le_refl _)) (by omega))
          generalize ctNumb its x.it = NN at *
          go_wp2_with fail
          refine HNM.out.mono ?_
          rintro e w9 ⟨rfl, hb9⟩
          have k9 := X7.out.below hb9 X7.out.lt
          have y0 : w9.cell? ⟨bx, 0, none⟩ = some (.int .i64 x.kind) := k9.cell 0
          have HB9 : Hid (Below w3.heap.size w3 w9) := HB7.out.trans (hb9.mono HB7.out.size)
          have cS9 := CS2.out _ HB9.out
          clear hb9 HNM X7 k9 HB7 x0 x1 x2 x3 x4 cS HINT
          have HKE : Hid (keepsB its x set = true) := HKI
          generalize anyIn set A = SO at *
          have HNX : Hid (LineOk its ls set (i + 1)) := fun q hq => by
           rcases Nat.lt_succ_iff_lt_or_eq.1 hq with e | e
           ·exact HALL.out q e
           ·rw [e, HXE.out]; exact HKE.out
          go_wp2
          go_roundw
          case rel => exact ⟨i + 1, hlt, by go_num, HNX.out, HB9.out⟩
          case measure => simp [intOf]; omega
    ·obtain rfl : i = ls.length := by omega
     have HBD : Hid (fitsF its ls set = (true, -1)) := by show _ = _; rw [HSF.out, badF_none HALL.out]; rfl
     have HB8 : Hid (Below w.heap.size w wr) := HB2.out.trans (hbr.mono HB2.out.size)
     clear hbr
     go_wp2
     go_ret2
     exact ⟨by rw [HBD.out]; rfl, HB8.out⟩
theorem rfits_any (ls : List Ln) (its : List It) (hN : newF ls = .ok its) (set : Nat) (v : Value) (w : World) (h : RLs w v ls) :
  Calls Tryz.prog 30 #[v, .int .u64 (set : Int)] w fun e w' => e = .returned (.tuple #[.bool (fitsF its ls set).1, .int .i64 (fitsF its ls set).2]) /\ Below w.heap.size w w' := by
 by_cases hlt : set < 2 ^ its.length
 ·exact rfits_yes ls its hN set v w h hlt
 ·exact rfits_no ls its hN set v w h hlt
end Go.Proofs.YtpmpnbbihmgdpaaGreatDoor
