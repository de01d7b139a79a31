/- What the rows' lists of laid variables give; and a world in which they hold. -/
import Derived.Test.YtpmpnbbihmgdpaaGreatDoorPordL
import Derived.Test.YtpmpnbbihmgdpaaGreatDoorCards
import Derived.Test.YtpmpnbbihmgdpaaGreatDoorTie
import Derived.Test.YtpmpnbbihmgdpaaGreatDoorSvSpan
import Derived.ProofKit
import Derived.OpenShut
import Derived.Deep.DeepHandedRow
import Derived.LaidHandle
import Derived.LaidSub
import Derived.Test.YtpmpnbbihmgdpaaGreatDoorSvPart
import Derived.Stop.LaidErr
import Derived.Shelf.Vars
import Derived.Lib.LaidTab
set_option maxHeartbeats 4000000
set_option maxRecDepth 100000
namespace Go.Proofs.YtpmpnbbihmgdpaaGreatDoor
section
open Go.RowKit Go.Deep Go.Sort Sv
theorem pord_ok (s : ByteArray) (set : Nat) (hs : set < 18446744073709551616) (w : World) (hw : Lw w) (ls : List Ln) (its : List It) (hr : readF s 24 = some (ls, its)) (l : List Nat) (hE : ordR its ls (set &&& (2 ^ its.length - 1)) = .ok l) : Calls Tryz.prog 9 #[.string s, .int .u64 (set : Int)] w fun e w' => e = .returned (.bool true) /\ Below w.heap.size w w' := by
 obtain ⟨hN, hP, hv⟩ := readF_ok hr
 have HRD := Lib.hid (read_some s w hw ls its 24 hr)
 have HCO : Hid (∀ W, Below w.heap.size w W -> Calls Tryz.prog 36 #[] W fun e w' => e = .returned (.bool true) /\ Below W.heap.size W w') := fun W hb => planned_c W (hw.below hb)
 have hand := mask_u64 set its.length hs hv
 have hml := mask_lt set its.length
 have hms : set &&& (2 ^ its.length - 1) < 18446744073709551616 := Nat.lt_of_le_of_lt Nat.and_le_left hs
 obtain ⟨M, hM⟩ : ∃ M, set &&& (2 ^ its.length - 1) = M := ⟨_, rfl⟩
 rw [hM] at hand hms hE hml
 have hIS := ordR_is hN hml hE
 have HIS := Lib.hid hIS
 have hll := hIS.len
 have hls := (newF_ok hN).2.1
 have HCK := Lib.hid (newF_ok hN).2.2
 have HOR : Hid (∀ W bk, CatAt W bk ls its -> Calls Tryz.prog 33 #[.pointer (some ⟨bk, 0, none⟩), .int .u64 (M : Int)] W fun e w' => ∃ a c, e = .returned (.tuple #[.slice a l.length c, .nilIface]) /\ IntsIn w' a (natS l) /\ Below W.heap.size W w') := fun W bk hc => by
  have h := order_c bk ls its hN M W hc hms
  rw [hE] at h
  refine h.mono ?_
  rintro e w' ⟨v, rfl, h1, h2⟩
  obtain ⟨a, c, rfl, -⟩ := row_form h1
  exact ⟨a, c, rfl, ints_row (B := W.heap.size) (c := c) (by rw [natS_len]; exact h1), h2⟩
 have HLN : Hid (∀ W bk, CatAt W bk ls its -> Calls Tryz.prog 38 #[.pointer (some ⟨bk, 0, none⟩)] W fun e w' => ∃ a c, e = .returned (.slice a ls.length c) /\ LnsAt w' (.slice a ls.length c) ls /\ Below W.heap.size W w') := fun W bk hc => (lines_c bk ls its W hc (by omega)).mono fun e w' ⟨v, h1, h2, h3⟩ => by
  obtain ⟨a, c, rfl⟩ : ∃ a c, v = .slice a ls.length c := by obtain ⟨vs', _, h2⟩ := h2; obtain ⟨a, c, e, _⟩ := h2.form; exact ⟨a, c, e⟩
  exact ⟨a, c, h1, h2, h3⟩
 have HBT : Hid (bitsN l = M) := by
  show _ = _
  apply Nat.eq_of_testBit_eq
  intro i
  rw [bitsN_test, hIS.mem]
 have HNU : Hid (∀ W bk (x : Ln), CatAt W bk ls its -> Calls Tryz.prog 39 #[.pointer (some ⟨bk, 0, none⟩), .string x.name, .agg #[.int .i64 x.a, .int .i64 x.b, .int .i64 x.c]] W fun e w' => e = .returned (.int .i64 (ctNumb its x.it)) /\ Below W.heap.size W w') := fun W bk x hc => number_c bk ls its x.name x.a x.b x.c W hc (by omega)
 have HAM : Hid (∀ W bk (x : Ln) ra rc, CatAt W bk ls its -> x ∈ ls -> Rg x.rng -> SpAt W (.slice ra x.rng.length rc) x.rng -> Calls Tryz.prog 40 #[.pointer (some ⟨bk, 0, none⟩), .string x.other, .agg #[.slice ra x.rng.length rc]] W fun e w' => ∃ a c, e = .returned (.slice a (amongF its x.other x.rng).length c) /\ IntsIn w' a (natS (amongF its x.other x.rng)) /\ Below W.heap.size W w') := fun W bk x ra rc hc hx hrg hsp => by
  refine (among_c bk ls its x.other x.rng hrg _ W hc (by omega) (check_names (HCK.out x hx)).2 hsp).mono ?_
  rintro e w' ⟨v, rfl, h1, h2⟩
  obtain ⟨a, c, rfl, -⟩ := row_form h1
  exact ⟨a, c, rfl, ints_row (B := W.heap.size) (c := c) (by rw [natS_len]; exact h1), h2⟩
 have HAL : Hid (∀ (x : Ln), (amongF its x.other x.rng).length <= 24 /\ ∀ k ∈ amongF its x.other x.rng, k < 24) := fun x => ⟨by have := amongF_len its x.other x.rng; omega, fun k hk => by have := amongF_lt its x.other x.rng k hk; omega⟩
 clear hr hw hN hM hE hIS hml
 generalize ofL its ls = P at *
 go_enter Tryz.func9, Tryz.ntmps9
 go_wp2_with fail
 refine HRD.out.mono ?_
 rintro e w1 ⟨bc, ca, cc, fa, fc, rfl, hnc, hcat, hrs, hb1⟩
 have hbn := below_new w1 (.cells #[.int .i64 (its.length : Int), .slice ca P.length cc, .slice fa P.length fc] 65)
 have kr := Blk.new w1 65 #[.int .i64 (its.length : Int), .slice ca P.length cc, .slice fa P.length fc]
 have HCAT := Lib.hid (hcat.below hbn (Nat.le_refl _))
 have HB1 := Lib.hid (hb1.trans (hbn.mono hb1.size))
 clear hcat hrs hb1 hbn HRD
 go_upto_region 2 with fail
 generalize w1.alloc (.cells #[.int .i64 (its.length : Int), .slice ca P.length cc, .slice fa P.length fc] 65) = W1 at *
 generalize w1.heap.size = b4 at *
 go_wp2_with fail
 refine (HCO.out W1 HB1.out).mono ?_
 rintro e w2 ⟨rfl, hb2⟩
 have HB2 : Hid (Below w.heap.size w w2) := HB1.out.trans (hb2.mono HB1.out.size)
 have kr2 := kr.below hb2 kr.lt
 have KR2 := Lib.hid kr2
 have HC2 := Lib.hid (HCAT.out.below hb2 (Nat.le_refl _))
 have HO2 := Lib.hid (HOR.out w2 bc HC2.out)
 have d0 : w2.cell? ⟨b4, 0, none⟩ = some (.int .i64 (its.length : Int)) := kr2.cell 0
 clear hb2 HB1 HCO HCAT HOR kr kr2
 go_wp2_with fail
 refine HO2.out.mono ?_
 rintro e w3 ⟨la, lc, rfl, hil, hb3⟩
 have HB3 : Hid (Below w.heap.size w w3) := HB2.out.trans (hb3.mono HB2.out.size)
 have HC3 := Lib.hid (HC2.out.below hb3 (Nat.le_refl _))
 have KR3 := Lib.hid (KR2.out.below hb3 KR2.out.lt)
 have HL3 := Lib.hid (HLN.out w3 bc HC3.out)
 have HI3 := Lib.hid hil
 clear hb3 HB2 HO2 HC2 HLN d0 hil KR2
 go_wp2_with fail
 refine HL3.out.mono ?_
 rintro e w4 ⟨na, nc, rfl, hln, hb4⟩
 have HB4 : Hid (Below w.heap.size w w4) := HB3.out.trans (hb4.mono HB3.out.size)
 have HC4 := Lib.hid (HC3.out.below hb4 (Nat.le_refl _))
 have KR4 := Lib.hid (KR3.out.below hb4 KR3.out.lt)
 have HI4 := Lib.hid (HI3.out.below hb4)
 have HLV := Lib.hid hln
 clear hb4 HB3 HL3 HC3 KR3 HI3 hln
 go_wp2_with fail
 go_loopw [12, 14] (fun dV iV wr => ∃ i : Nat, i <= l.length /\ iV = .int .i64 (i : Int) /\ dV = .int .u64 ((bitsN (l.take i) : Nat) : Int) /\ Below w4.heap.size w4 wr) (fun _ iV _ => l.length - (intOf iV).toNat)
 case atStart => exact ⟨0, Nat.zero_le _, rfl, rfl, Below.refl _ _⟩
 case round =>
  obtain ⟨i, hil, rfl, rfl, hbr⟩ := hrel
  by_cases hlt : i < l.length
  ·obtain ⟨w5, hw5⟩ : ∃ w5, w5 = wr := ⟨wr, rfl⟩
   subst hw5
   obtain ⟨ad, rfl, had, cL⟩ := (HI4.out.below hbr) i (by rw [natS_len]; exact hlt)
   rw [natS_at l i hlt] at cL
   have hxl := HIS.out.lt _ (pget_mem l i hlt)
   have HNT := Lib.hid (nodup_take HIS.out.nodup hlt)
   have HNEED := Lib.hid (HIS.out.need i hlt)
   have HTK := Lib.hid (bitsN_take l i hlt)
   have hbn := bitsN_24 (l.take i) its.length hv (fun x hx => HIS.out.lt x (List.mem_of_mem_take hx))
   have HDT : Hid (∀ m, (bitsN (l.take i)).testBit m = decide (m ∈ l.take i)) := fun m => bitsN_test _ _
   obtain ⟨D, hD⟩ : ∃ D, bitsN (l.take i) = D := ⟨_, rfl⟩
   obtain ⟨x, hx⟩ : ∃ x, l.getD i 0 = x := ⟨_, rfl⟩
   rw [hD] at HTK hbn HDT ⊢
   rw [hx] at cL hxl HNT HNEED HTK
   have HD := Lib.hid hD
   have d0 : w5.cell? ⟨b4, 0, none⟩ = some (.int .i64 (its.length : Int)) := (KR4.out.below hbr KR4.out.lt).cell 0
   have hx0 : decide ((x : Int) < 0) = false := decide_eq_false (by omega)
   have hx1 : decide ((its.length : Int) <= (x : Int)) = false := decide_eq_false (by omega)
   have hxt : D.testBit x = false := by rw [HDT.out, decide_eq_false HNT.out]
   have hsh := shr_bit1 D x (by omega)
   rw [hxt] at hsh
   have hii0 : (0 : Int) <= (i : Int) := by omega
   have hii1 : (i : Int) < (l.length : Int) := by omega
   have hx24 : x < 24 := by omega
   obtain ⟨ab, ao, asp⟩ := ad
   have HB5 := Lib.hid hbr
   have HXL := Lib.hid hx
   clear hD hx hxt had HNT hbr
   go_upto_region 14 with fail
   go_cut [93] from 70 to 93 (fun c wx => c = .bool false /\ Below w5.heap.size w5 wx)
   case first =>
    go_quiet (fail)
    go_wp2
    go_meet
    case rel => exact ⟨by first | rfl | (simp; omega), below_drewN (Below.refl _ _) _⟩
   case rest =>
    obtain ⟨rfl, hbc⟩ := hcut
    have HB6 : Hid (Below w4.heap.size w4 wc) := HB5.out.trans (hbc.mono HB5.out.size)
    clear hbc HB5 cL d0 hsh hx0 hx1
    obtain ⟨w6, hw6⟩ : ∃ w6, w6 = wc := ⟨wc, rfl⟩
    subst hw6
    go_wp2_with fail
    go_loopw [15] (fun kV wr => ∃ k : Nat, k <= ls.length /\ kV = .int .i64 (k : Int) /\ Below w4.heap.size w4 wr) (fun kV _ => ls.length - (intOf kV).toNat)
    case atStart => exact ⟨0, Nat.zero_le _, rfl, HB6.out⟩
    case round =>
     clear HB6
     obtain ⟨k, hkl, rfl, hbk⟩ := hrel
     obtain ⟨w7, hw7⟩ : ∃ w7, w7 = wr := ⟨wr, rfl⟩
     subst hw7
     by_cases hlk : k < ls.length
     ·have hk0 : (0 : Int) <= (k : Int) := by omega
      have hk1 : (k : Int) < (ls.length : Int) := by omega
      obtain ⟨g, cap', rv, e, hg, hsp, hrg, c0, c1, c2, c3, c4, c5, c6⟩ := (HLV.out.below hbk (Nat.le_refl _)).at k hlk
      simp at e
      obtain ⟨rfl, rfl⟩ := e
      have HYM := Lib.hid (lget_mem ls k hlk)
      obtain ⟨y, hye⟩ : ∃ y, ls.getD k default = y := ⟨_, rfl⟩
      rw [hye] at hsp hrg c0 c1 c2 c3 c4 c5 HYM
      obtain ⟨ra, rc, rfl⟩ := hsp.form
      have hb8 := below_new w7 (.cells #[.int .i64 y.kind, .string y.name, .int .i64 y.a, .int .i64 y.b, .int .i64 y.c, .string y.other, .slice ra y.rng.length rc] 98)
      have kx := Blk.new w7 98 #[.int .i64 y.kind, .string y.name, .int .i64 y.a, .int .i64 y.b, .int .i64 y.c, .string y.other, .slice ra y.rng.length rc]
      have HB8 : Hid (Below w4.heap.size w4 (w7.alloc (.cells #[.int .i64 y.kind, .string y.name, .int .i64 y.a, .int .i64 y.b, .int .i64 y.c, .string y.other, .slice ra y.rng.length rc] 98))) := hbk.trans (hb8.mono hbk.size)
      have HSP := Lib.hid (hsp.below hb8 (Nat.le_refl _))
      have HRG := Lib.hid hrg
      clear hsp hrg hye hb8 hbk
      go_upto_region 20 with fail
      generalize w7.alloc (.cells #[.int .i64 y.kind, .string y.name, .int .i64 y.a, .int .i64 y.b, .int .i64 y.c, .string y.other, .slice ra y.rng.length rc] 98) = W8 at *
      generalize w7.heap.size = bx at *
      clear c0 c1 c2 c3 c4 c5 c6 hg
      have x0 : W8.cell? ⟨bx, 0, none⟩ = some (.int .i64 y.kind) := kx.cell 0
      have x1 : W8.cell? ⟨bx, 1, none⟩ = some (.string y.name) := kx.cell 1
      have x2 : W8.cell? ⟨bx, 2, none⟩ = some (.int .i64 y.a) := kx.cell 2
      have x3 : W8.cell? ⟨bx, 3, none⟩ = some (.int .i64 y.b) := kx.cell 3
      have x4 : W8.cell? ⟨bx, 4, none⟩ = some (.int .i64 y.c) := kx.cell 4
      have KX := Lib.hid kx
      obtain ⟨ad, e, -, cL⟩ := (HI4.out.below HB8.out) i (by rw [natS_len]; exact hlt)
      cases e
      rw [natS_at l i hlt, HXL.out] at cL
      clear kx
      obtain ⟨BB, hBB⟩ : ∃ BB : Bool, (decide (y.kind ≠ 2) || decide (ctNumb its y.it ≠ (x : Int))) = BB := ⟨_, rfl⟩
      have HBB := Lib.hid hBB
      clear hBB
      go_cut [119] from 104 to 119 (fun c wx => c = .bool BB /\ Below W8.heap.size W8 wx)
      case first =>
       by_cases hk2 : y.kind = 2
       ·have HB2 : Hid (BB = decide (ctNumb its y.it ≠ (x : Int))) := by show _ = _; rw [<- HBB.out, decide_eq_false (by simpa using hk2), Bool.false_or]
        have HNK : Hid (∀ d os, Calls Tryz.prog 39 #[.pointer (some ⟨bc, 0, none⟩), .string y.name, .agg #[.int .i64 y.a, .int .i64 y.b, .int .i64 y.c]] (grow (redrawn W8 d) os) fun e w'' => e = .returned (.int .i64 (ctNumb its y.it)) /\ ∃ p : Regrown, w'' = grow (redrawn W8 p.d) p.os) := fun d os =>
         Calls.regrown_of (HNU.out (grow (redrawn W8 d) os) bc y ((HC4.out.below HB8.out (Nat.le_refl _)).below (below_regrown W8 d os) (Nat.le_refl _)))
        rw [hk2] at x0
        have k0 := cell_regrown x0
        have k1 := cell_regrown x1
        have k2 := cell_regrown x2
        have k3 := cell_regrown x3
        have k4 := cell_regrown x4
        have kL := cell_regrown cL
        have hd : ((2 : Int) != 2) = false := by decide
        have hnq : (ctNumb its y.it != (x : Int)) = decide (ctNumb its y.it ≠ (x : Int)) := by rw [Bool.eq_iff_iff]; simp
        clear x0 x1 x2 x3 x4 cL hk2
        generalize ctNumb its y.it = NN at *
        refine wp_region_quiet_below mixedP (by kernel_rfl) ?_
        repeat (quiet_step (first | (go_at_call 39; exact HNK.out _ _)))
        refine wpQuiet_nil ?_
        intro _ hw'
        obtain ⟨⟨dq, osq⟩, hw''⟩ := hw'
        subst hw''
        have hbq := Lib.hid (below_regrown W8 dq osq)
        clear k0 k1 k2 k3 k4 kL HNK
        generalize grow (redrawn W8 dq) osq = wq at *
        go_wp2
        go_meet
        case rel => exact ⟨by rw [HB2.out]; first | rfl | simp, hbq.out⟩
       ·have HB2 : Hid (BB = true) := by show _ = _; rw [<- HBB.out, decide_eq_true hk2, Bool.true_or]
        have hd : (y.kind != 2) = true := by simpa using hk2
        clear x1 x2 x3 x4 cL hk2
        go_quiet (fail)
        go_wp2
        go_meet
        case rel => exact ⟨by rw [HB2.out], below_drewN (Below.refl _ _) _⟩
      case rest =>
       obtain ⟨rfl, hbc⟩ := hcut
       have HB9 : Hid (Below w4.heap.size w4 wc) := HB8.out.trans (hbc.mono HB8.out.size)
       have K9 := Lib.hid (KX.out.below hbc KX.out.lt)
       have HSP9 := Lib.hid (HSP.out.below hbc (Nat.le_refl _))
       clear hbc HB8 KX HSP x0 x1 x2 x3 x4 cL
       obtain ⟨w9, hw9⟩ : ∃ w9, w9 = wc := ⟨wc, rfl⟩
       subst hw9
       cases BB with
       | true =>
        clear HBB
        go_wp2
        go_roundw
        case rel => exact ⟨k + 1, hlk, by go_num, HB9.out⟩
        case measure => simp [intOf]; omega
       | false =>
        have hk2 : y.kind = 2 := by
         have := HBB.out
         simp only [Bool.or_eq_false_iff, decide_eq_false_iff_not, Decidable.not_not] at this
         exact this.1
        have hnx : ctNumb its y.it = (x : Int) := by
         have := HBB.out
         simp only [Bool.or_eq_false_iff, decide_eq_false_iff_not, Decidable.not_not] at this
         exact this.2
        have HND := Lib.hid (HNEED.out y HYM.out hk2 hnx)
        have HA9 := Lib.hid (HAM.out w9 bc y ra rc (HC4.out.below HB9.out (Nat.le_refl _)) HYM.out HRG.out HSP9.out)
        obtain ⟨hal, hA24⟩ := HAL.out y
        have HA24 := Lib.hid hA24
        have z5 : w9.cell? ⟨bx, 5, none⟩ = some (.string y.other) := K9.out.cell 5
        have z6 : w9.cell? ⟨bx, 6, none⟩ = some (.slice ra y.rng.length rc) := K9.out.cell 6
        clear hk2 hnx HBB hA24
        generalize amongF its y.other y.rng = A at *
        go_wp2_with fail
        refine HA9.out.mono ?_
        rintro e w10 ⟨aa, ac, rfl, hia, hb10⟩
        have HB10 : Hid (Below w4.heap.size w4 w10) := HB9.out.trans (hb10.mono HB9.out.size)
        have HIA := Lib.hid hia
        clear hb10 HB9 HA9 hia z5 z6 K9 HSP9
        go_wp2_with fail
        go_loopw [17] (fun jV wr => ∃ j : Nat, j <= A.length /\ jV = .int .i64 (j : Int) /\ Below w10.heap.size w10 wr) (fun jV _ => A.length - (intOf jV).toNat)
        case atStart => exact ⟨0, Nat.zero_le _, rfl, Below.refl _ _⟩
        case round =>
         obtain ⟨j, hjl, rfl, hbj⟩ := hrel
         by_cases hlj : j < A.length
         ·obtain ⟨ad, rfl, had, cA⟩ := (HIA.out.below hbj) j (by rw [natS_len]; exact hlj)
          rw [natS_at A j hlj] at cA
          obtain ⟨ad2, e, -, cL⟩ := (HI4.out.below (HB10.out.trans (hbj.mono HB10.out.size))) i (by rw [natS_len]; exact hlt)
          cases e
          rw [natS_at l i hlt, HXL.out] at cL
          have hm24 := HA24.out _ (pget_mem A j hlj)
          have HMN := Lib.hid (HND.out _ (pget_mem A j hlj))
          obtain ⟨m, hm⟩ : ∃ m, A.getD j 0 = m := ⟨_, rfl⟩
          rw [hm] at cA hm24 HMN
          have hj0 : (0 : Int) <= (j : Int) := by omega
          have hj1 : (j : Int) < (A.length : Int) := by omega
          have s1 := shr_bit1 M m hms
          have s0 := shr_bit0 D m (by omega)
          have HBJ := Lib.hid hbj
          obtain ⟨aab, aao, aasp⟩ := ad
          clear hm had hbj
          go_upto_region 24 with fail
          go_cut [160] from 132 to 160 (fun c wx => c = .bool false /\ Below w10.heap.size w10 wx)
          case first =>
           by_cases hmx : m = x
           ·have hd : ((m : Int) != (x : Int)) = false := by simp [hmx]
            clear s1 s0 hmx
            go_quiet (fail)
            go_wp2
            go_meet
            case rel => exact ⟨rfl, below_drewN HBJ.out _⟩
           ·have hd : ((m : Int) != (x : Int)) = true := by simp; omega
            cases hbm : M.testBit m with
            | false =>
             rw [hbm] at s1
             clear s0 hmx hbm
             go_quiet (fail)
             go_wp2
             go_meet
             case rel => exact ⟨rfl, below_drewN HBJ.out _⟩
            | true =>
             have hin := HMN.out hmx hbm
             rw [hbm] at s1
             rw [HDT.out, decide_eq_true hin] at s0
             have s2 : (bits BinOp.and IntKind.u64 ((D : Int) / 2 ^ m) 1 == 0) = false := by rw [s0]; rfl
             clear hmx hbm hin s0
             go_quiet (fail)
             go_wp2
             go_meet
             case rel => exact ⟨by first | rfl | simp [s2], below_drewN HBJ.out _⟩
          case rest =>
           obtain ⟨rfl, hbc⟩ := hcut
           have HBC := Lib.hid hbc
           clear hbc HBJ cA cL s1 s0
           go_wp2
           go_roundw
           case rel => exact ⟨j + 1, hlj, by go_num, HBC.out⟩
           case measure => simp [intOf]; omega
         ·obtain rfl : j = A.length := by omega
          have HBJ : Hid (Below w4.heap.size w4 wr) := HB10.out.trans (hbj.mono HB10.out.size)
          clear hbj
          go_wp2
          go_roundw
          case rel => exact ⟨k + 1, hlk, by go_num, HBJ.out⟩
          case measure => simp [intOf]; omega
     ·obtain rfl : k = ls.length := by omega
      obtain ⟨ad, e, -, cL⟩ := (HI4.out.below hbk) i (by rw [natS_len]; exact hlt)
      cases e
      rw [natS_at l i hlt, HXL.out] at cL
      have hpw := pow_wrap x (by omega)
      have hor := or_u64 D (2 ^ x) (by omega) (pow_64 x (by omega))
      rw [<- HTK.out] at hor
      have HBK := Lib.hid hbk
      clear hbk HTK
      obtain ⟨D2, hD2⟩ : ∃ D2, bitsN (l.take (i + 1)) = D2 := ⟨_, rfl⟩
      rw [hD2] at hor
      have HD2 := Lib.hid hD2
      clear hD2
      generalize (2 ^ x : Nat) = P2 at *
      go_wp2
      go_roundw
      case rel => exact ⟨i + 1, hlt, by go_num, by rw [HD2.out], HBK.out⟩
      case measure => simp [intOf]; omega
  ·obtain rfl : i = l.length := by omega
   rw [List.take_length, HBT.out]
   have HBR : Hid (Below w.heap.size w wr) := HB4.out.trans (hbr.mono HB4.out.size)
   have hmm : ((M : Int) == (M : Int)) = true := by simp
   clear hbr
   go_wp2
   go_ret
   exact ⟨by first | rfl | simp, HBR.out⟩
theorem pord_any (s : ByteArray) (set : Nat) (hs : set < 18446744073709551616) (w : World) (hw : Lw w) : Calls Tryz.prog 9 #[.string s, .int .u64 (set : Int)] w fun e w' => e = .returned (.bool true) /\ Below w.heap.size w w' := by
 cases hr : readF s 24 with
 | none => exact pord_none s set w hw hr
 | some r =>
  cases hE : ordR r.2 r.1 (set &&& (2 ^ r.2.length - 1)) with
  | error er => exact pord_err s set hs w hw r.1 r.2 hr er hE
  | ok l => exact pord_ok s set hs w hw r.1 r.2 hr l hE
end
section
open Go.ChangeShapes Go.WideShapes Go.ChangeAt Go.RowKit
theorem own : ownKnob Tryz.prog.godebug = none := by kernel_rfl
theorem gErr : Tryz.prog.globalNamed "errors.errorType" = some 1 := by kernel_rfl
theorem rtypeIs : (Tryz.prog.cutTypes.find? (·.1 == "internal/reflectlite.rtype")).map (·.2) = some 303 := by kernel_rfl
theorem oneRow : ((List.range 409).filter fun t => Tryz.prog.rowNamed t [101, 114, 114, 111, 114]) = [36] := by kernel_rfl
theorem typesSize : Tryz.prog.types.size = 409 := by kernel_rfl
theorem glob_of {W : World} {l : List (String × DataW Unit)} (h : laidMetH Tryz.prog l W) (hk : (l.filter fun x => x.1 == "errors.errorType") = [("errors.errorType", Rows.laid_errors_errorType)]) : Glob W := by
 have h2 := h.filter fun x => x.1 == "errors.errorType"
 rw [hk] at h2
 have h3 : laidMet Tryz.prog [] W /\ handlesMet Tryz.prog [("errors.errorType", Rows.laid_errors_errorType)] W := h2
 obtain ⟨name, u, ty, e1, e2, e3, e4, e5⟩ := h3.2 _ (List.mem_singleton.2 rfl)
 have en : name = [101, 114, 114, 111, 114] := (Option.some.inj e1).symm
 subst en
 obtain rfl := Option.some.inj (rtypeIs.symm.trans e2)
 have hm : ty ∈ (List.range 409).filter fun t => Tryz.prog.rowNamed t [101, 114, 114, 111, 114] := List.mem_filter.2 ⟨List.mem_range.2 (by rw [<- typesSize]; exact e3), e4⟩
 rw [oneRow] at hm
 obtain rfl := List.mem_singleton.1 hm
 have hh : typeHandle Tryz.prog 36 = .pointer (some ⟨12, 36, none⟩) := by kernel_rfl
 rw [hh] at e5
 have h6 := World.var?_cell gErr e5 0
 unfold Glob; simpa using h6
def refill (cs : Array Value) : Obj -> Obj
 | .cells _ t frozen => .cells cs t frozen
 | o => o
end
section
open Go.ChangeShapes Go.WideShapes Go.ChangeAt Go.RowKit Go.Shelf
theorem gTab : Tryz.prog.globalNamed "internal/strconv.uint64pow10" = some 7 := by kernel_rfl
theorem gTabType : (Tryz.prog.globals[7]?).map (·.type) = some 364 := by kernel_rfl
theorem cellsTab : Tryz.prog.cellsOf 364 = 20 := by kernel_rfl
theorem cellsTabE : Tryz.prog.cellsOf 318 = 1 := by kernel_rfl
theorem gSyn : Tryz.prog.globalNamed "strconv.ErrSyntax" = some 8 := by kernel_rfl
theorem gSynType : (Tryz.prog.globals[8]?).map (·.type) = some 36 := by kernel_rfl
theorem gRng : Tryz.prog.globalNamed "strconv.ErrRange" = some 9 := by kernel_rfl
theorem gRngType : (Tryz.prog.globals[9]?).map (·.type) = some 36 := by kernel_rfl
theorem cellsEs : Tryz.prog.cellsOf 380 = 1 := by kernel_rfl
theorem cellsStr : Tryz.prog.cellsOf 9 = 1 := by kernel_rfl
theorem starEs : "*" ++ "errors.errorString" = "*errors.errorString" := by decide
theorem rowEs (u : TypeId) (h : Tryz.prog.typeName? 3 u = some "*errors.errorString") : u = 378 :=
 typeName_ptr_named (nm := "errors.errorString") (by rw [starEs]; kernel_rfl) (by kernel_rfl) (by decide) u (by rw [starEs]; exact h)
theorem tab_of {W : World} {l : List (String × DataW Unit)} (h : laidMetH Tryz.prog l W) (hk : (l.filter fun x => x.1 == "internal/strconv.uint64pow10") = [("internal/strconv.uint64pow10", Lib.tabData .u64 Lib.pow10Tab)]) : Lib.TabIs Tryz.prog W "internal/strconv.uint64pow10" .u64 Lib.pow10Tab := by
 have h2 := h.filter fun x => x.1 == "internal/strconv.uint64pow10"
 rw [hk] at h2
 have h3 : laidMet Tryz.prog [("internal/strconv.uint64pow10", Lib.tabData .u64 Lib.pow10Tab)] W := h2
 exact Lib.tabIs_of_head (rest := []) gTab gTabType Tryz.underlying364 Tryz.underlying318 cellsTabE cellsTab h3
theorem syn_of {W : World} {l : List (String × DataW Unit)} (h : laidMetH Tryz.prog l W) (hk : (l.filter fun x => x.1 == "strconv.ErrSyntax") = [("strconv.ErrSyntax", Rows.laid_strconv_ErrSyntax)]) : ∃ ev, W.cell? ⟨8, 0, none⟩ = some ev /\ (ev = .nilIface \/ ∃ te pe, ev = .iface te pe) := by
 have h2 := h.filter fun x => x.1 == "strconv.ErrSyntax"
 rw [hk] at h2
 have h3 : laidMet Tryz.prog [("strconv.ErrSyntax", Rows.laid_strconv_ErrSyntax)] W := h2
 obtain ⟨a0, s0, hv0, -, -, -⟩ := laid_sentinel h3 gSyn gSynType Tryz.underlying36 rowEs Tryz.underlying378 Tryz.underlying380 rfl rfl Tryz.underlying9 cellsEs cellsStr
 exact ⟨_, by have h0 := World.var?_cell gSyn hv0 0; simpa using h0, .inr ⟨_, _, rfl⟩⟩
theorem rng_of {W : World} {l : List (String × DataW Unit)} (h : laidMetH Tryz.prog l W) (hk : (l.filter fun x => x.1 == "strconv.ErrRange") = [("strconv.ErrRange", Rows.laid_strconv_ErrRange)]) : ∃ ev, W.cell? ⟨9, 0, none⟩ = some ev /\ (ev = .nilIface \/ ∃ te pe, ev = .iface te pe) := by
 have h2 := h.filter fun x => x.1 == "strconv.ErrRange"
 rw [hk] at h2
 have h3 : laidMet Tryz.prog [("strconv.ErrRange", Rows.laid_strconv_ErrRange)] W := h2
 obtain ⟨a0, s0, hv0, -, -, -⟩ := laid_sentinel h3 gRng gRngType Tryz.underlying36 rowEs Tryz.underlying378 Tryz.underlying380 rfl rfl Tryz.underlying9 cellsEs cellsStr
 exact ⟨_, by have h0 := World.var?_cell gRng hv0 0; simpa using h0, .inr ⟨_, _, rfl⟩⟩
theorem ml_of {W : World} (h : W.ShapedOpen Tryz.prog) : ∃ n, W.cell? ⟨4, 0, none⟩ = some (.int .i64 n) :=
 cell_of_shapedOpen_int (zero := #[.int .i64 0]) (t := 3) h (of_decide_eq_true (by kernel_rfl)) (by kernel_rfl) rfl (by kernel_rfl) (by kernel_rfl) Tryz.underlying3
theorem big_of {W : World} (h : W.ShapedOpen Tryz.prog) : 12 <= W.heap.size := by
 obtain ⟨o, _, ho, _⟩ := h.2 12 (of_decide_eq_true (by kernel_rfl)) (of_decide_eq_true (by kernel_rfl))
 have := (Array.getElem?_eq_some_iff.1 ho).1
 omega
theorem lb_of {W : World} {l : List (String × DataW Unit)} (h : laidMetH Tryz.prog l W) (hs : W.ShapedOpen Tryz.prog)
  (k1 : (l.filter fun x => x.1 == "internal/strconv.uint64pow10") = [("internal/strconv.uint64pow10", Lib.tabData .u64 Lib.pow10Tab)])
  (k2 : (l.filter fun x => x.1 == "strconv.ErrSyntax") = [("strconv.ErrSyntax", Rows.laid_strconv_ErrSyntax)])
  (k3 : (l.filter fun x => x.1 == "strconv.ErrRange") = [("strconv.ErrRange", Rows.laid_strconv_ErrRange)])
  (k4 : (l.filter fun x => x.1 == "errors.errorType") = [("errors.errorType", Rows.laid_errors_errorType)]) : Lb W :=
 ⟨ml_of hs, syn_of h k2, rng_of h k3, tab_of h k1, glob_of h k4, big_of hs⟩
def cellsIn1 : DataW Unit -> List Value
 | .lit (.int k z) => [.int k z]
 | _ => [undef]
def cellsIn2 : DataW Unit -> List Value
 | .agg l => l.flatMap cellsIn1
 | d => cellsIn1 d
def cellsIn : DataW Unit -> Array Value
 | .agg l => (l.flatMap cellsIn2).toArray
 | _ => #[]
end
end Go.Proofs.YtpmpnbbihmgdpaaGreatDoor
