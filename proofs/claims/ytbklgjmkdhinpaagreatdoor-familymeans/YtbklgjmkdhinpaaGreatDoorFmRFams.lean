/- The reference's Families. -/
import Derived.Test.YtbklgjmkdhinpaaGreatDoorFmRFamP
import Derived.Test.YtbklgjmkdhinpaaGreatDoorFmFunW
import Derived.Deep.CutBlock
set_option maxHeartbeats 8000000
set_option maxRecDepth 100000
namespace Go.Proofs.YtbklgjmkdhinpaaGreatDoor.Fm
open Go.RowKit Go.Maps Go.Proofs.YtbklgjmkdhinpaaGreatDoor.Bd
section
variable {w0 wq w6 : World} {b r m : Nat} {S C Q R : Nat -> Prop} {cnt cnt' x : Nat}
theorem FI.put (hm : w0.heap.size <= m) (hmr : m ≠ r) (hbm : b ≠ m) (hrm0 : w0.heap.size <= r) (h : RM wq b r S R cnt) (hfm : FM wq m (fun y => C y \/ (Q y /\ ¬ R y))) (hb : Below w0.heap.size w0 wq) (hsm : ∀ y, C y \/ Q y -> y < 64) (hx : UOk x) (h' : RM w6 b r S (fun y => R y /\ y ≠ x) cnt') (hlt : cnt' < cnt) (hg : wq.grownBy w6 (some r)) (hq : Q x) :
  ∃ w7, (Instr.mapUpdate 30 (.map (some m)) (.int .u64 (x : Int)) (.bool true)).run Tryz.prog w6 = .ok () w7 /\ FI w0 b r m S C Q w7 /\ w7.rangeLeft b r < wq.rangeLeft b r := by
 have hf6 := hfm.grown hg (by simp; omega)
 obtain ⟨w7, hput, hf7, hg7⟩ := hf6.put (fun y hy => by have := hsm y (hy.imp id (fun k => k.1)); omega) hx
 have h7 := h'.grown hg7 (by simp; omega) (by simp; omega)
 have b6 := hb.trans (grown_below hg hrm0 hb.size)
 exact ⟨w7, hput, ⟨_, _, h7, fi_take hf7 hq, b6.trans (grown_below hg7 hm b6.size)⟩, by rw [h7.left_eq, h.left_eq]; exact hlt⟩
theorem FI.skip (hmr : m ≠ r) (hrm0 : w0.heap.size <= r) (h : RM wq b r S R cnt) (hfm : FM wq m (fun y => C y \/ (Q y /\ ¬ R y))) (hb : Below w0.heap.size w0 wq) (h' : RM w6 b r S (fun y => R y /\ y ≠ x) cnt') (hlt : cnt' < cnt) (hg : wq.grownBy w6 (some r)) (hq : ¬ Q x) :
  FI w0 b r m S C Q w6 /\ w6.rangeLeft b r < wq.rangeLeft b r :=
 ⟨⟨_, _, h', fi_skip (hfm.grown hg (by simp; omega)) hq, hb.trans (grown_below hg hrm0 hb.size)⟩, by rw [h'.left_eq, h.left_eq]; exact hlt⟩
def JOut (w0 : World) (b r m : Nat) (A C : Nat -> Prop) (wq : World) : Prop := ∃ R cnt, RM wq b r A R cnt /\ FM wq m (fun y => ∃ a c, A a /\ ¬ R a /\ C c /\ y = a ||| c) /\ Below w0.heap.size w0 wq
def JIn (w0 : World) (b1 b2 r1 r2 m x : Nat) (A C R : Nat -> Prop) (cnt : Nat) (wq : World) : Prop := ∃ R2 cnt2, RM wq b2 r2 C R2 cnt2 /\ RM wq b1 r1 A R cnt /\ FM wq m (fun y => (∃ a c, A a /\ (¬ R a /\ a ≠ x) /\ C c /\ y = a ||| c) \/ ∃ c, C c /\ ¬ R2 c /\ y = x ||| c) /\ Below w0.heap.size w0 wq
def WOut (w0 : World) (b r m : Nat) (A C : Nat -> Prop) (wq : World) : Prop := ∃ R cnt, RM wq b r A R cnt /\ FM wq m (fun y => (A y /\ ∀ z, C z -> ¬ Sub z y) /\ ¬ R y) /\ Below w0.heap.size w0 wq
def WIn (w0 : World) (b1 b2 r1 r2 m x : Nat) (A C R : Nat -> Prop) (cnt : Nat) (v : Value) (wq : World) : Prop := ∃ (L : Bool) (R2 : Nat -> Prop) (cnt2 : Nat), v = .bool L /\ RM wq b2 r2 C R2 cnt2 /\ (L = true ↔ ∀ z, C z -> ¬ R2 z -> ¬ Sub z x) /\ RM wq b1 r1 A R cnt /\ FM wq m (fun y => (A y /\ ∀ z, C z -> ¬ Sub z y) /\ (¬ R y /\ y ≠ x)) /\ Below w0.heap.size w0 wq
end
theorem infoFam : (Tryz.prog.info? 30).map (fun i => (i.zero, i.size, i.bytes)) = some (some (.map none), 1, 8) := by kernel_rfl
theorem or_u64 {x y : Nat} (hx : x < 64) (hy : y < 64) : bits .or .u64 (x : Int) (y : Int) = ((x ||| y : Nat) : Int) := bits_or_u64_nat x y (by omega) (by omega)
def FDone (w0 : World) (G : Nat -> Prop) (v : Value) (wx : World) : Prop := ∃ m, v = .map (some m) /\ FM wx m G /\ w0.heap.size <= m /\ Below w0.heap.size w0 wx
theorem rfamilies_any (vars : Nat) (hv6 : vars <= 6) (xs : List Quad) (a : Option Addr) (cap : Nat) (w : World) (hx : ∀ i, i < xs.length -> ∃ ad, a = some ad /\ QuadAt w ad i (qd xs i)) (hxl : xs.length <= 20) :
  Calls Tryz.prog 25 #[.int .i64 (vars : Int), .slice a xs.length cap] w fun e w' => ∃ v gs, e = .returned v /\ RFams w.heap.size w' v gs (famT vars [fun _ => False, fun y => y = 0] xs) /\ Below w.heap.size w w' := by
 have HX := Lib.hid hx
 have HT : Hid (∀ k, k < xs.length -> famT vars [fun _ => False, fun y => y = 0] (xs.take (k + 1)) = famT vars [fun _ => False, fun y => y = 0] (xs.take k) ++ [stepT vars (famT vars [fun _ => False, fun y => y = 0] (xs.take k)) (qd xs k)]) := fun k hk => by
  rw [List.take_succ_eq_append_getElem hk, famT_snoc]
  have : qd xs k = xs[k] := by unfold qd; simp [List.getD_eq_getElem?_getD, List.getElem?_eq_getElem hk]
  rw [this]
 have HSM : Hid (∀ k, Small (famT vars [fun _ => False, fun y => y = 0] (xs.take k))) := fun k => famT_small hv6 _ _ small_start
 obtain ⟨w3, hput, hf3, hg3⟩ := (FM.made (w.alloc (.map #[] 0))).put (fun x hx => hx.elim) (x := 0) (by unfold UOk; omega)
 have hsa : (w.alloc (.map #[] 0)).heap.size = w.heap.size + 1 := by simp
 have hsb : ((w.alloc (.map #[] 0)).alloc (.map #[] 0)).heap.size = w.heap.size + 2 := by simp
 rw [hsa] at hput hf3 hg3
 have hput' : (Instr.mapUpdate 30 (.map (some (w.heap.size + 1))) (.int .u64 0) (.bool true)).run Tryz.prog ((w.alloc (.map #[] 0)).alloc (.map #[] 0)) = .ok () w3 := hput
 have hf0 : FM w3 w.heap.size (fun _ => False) := ((FM.made w).below (below_new _ _)).grown hg3 (by simp)
 have hb3 : Below w.heap.size w w3 := ((below_new w _).trans ((below_new _ _).mono (by simp))).trans (grown_below hg3 (by omega) (by simp; omega))
 have hs3 : w.heap.size + 2 <= w3.heap.size := by have := hg3.size; omega
 have HST : Hid (RFams w.heap.size (w3.alloc (.cells #[.map (some w.heap.size), .map (some (w.heap.size + 1))] 30)) (.slice (some ⟨w3.heap.size, 0, none⟩) 2 2) [w.heap.size, w.heap.size + 1] [fun _ => False, fun y => y = 0]) :=
  ⟨built_row w3 (by omega) #[.map (some w.heap.size), .map (some (w.heap.size + 1))] 30 (by simp [maxLen]), rfl, fun i h1 h2 => by
   have hb := below_new w3 (.cells #[.map (some w.heap.size), .map (some (w.heap.size + 1))] 30)
   simp at h1
   rcases (by omega : i = 0 \/ i = 1) with rfl | rfl
   ·exact hf0.below hb
   ·exact (hf3.below hb).congr (fun x => ⟨fun h => h.elim (fun h => h.elim) id, .inr⟩), fun x hx => by simp at hx; omega⟩
 have HB3 : Hid (Below w.heap.size w (w3.alloc (.cells #[.map (some w.heap.size), .map (some (w.heap.size + 1))] 30))) := hb3.trans ((below_new _ _).mono (by omega))
 have hmm := @run_makeMap Tryz.prog
 clear hput hf3 hg3 hf0 hb3 hx hsa hsb
 go_enter Tryz.func25, Tryz.ntmps25
 go_wp2_with fail
 clear hput'
 go_loopw [5, 27] (fun alV i wr => ∃ (k : Nat) (gs : List Nat), k <= xs.length /\ i = .int .i64 (k : Int) /\ RFams w.heap.size wr alV gs (famT vars [fun _ => False, fun y => y = 0] (xs.take k)) /\ Below w.heap.size w wr)
  (fun _ i _ => xs.length - (intOf i).toNat)
 case atStart => exact ⟨0, _, Nat.zero_le _, rfl, HST.out, HB3.out⟩
 case round =>
  obtain ⟨wo, hwo⟩ : ∃ wo, wo = wr := ⟨_, rfl⟩
  subst hwo
  obtain ⟨k, gs, hk, rfl, hF, hbr⟩ := hrel
  clear HST HB3
  by_cases hlt : k < xs.length
  ·have HTK := Lib.hid (HT.out k hlt)
   have HSK := HSM.out k
   have hal : gs.length = 2 + k := by
    have := hF.len
    rw [famT_len, List.length_take, Nat.min_eq_left hk] at this
    simpa using this
   generalize hTe : famT vars [fun _ => False, fun y => y = 0] (xs.take k) = T at *
   clear hTe
   obtain ⟨ad, rfl, hq0⟩ := HX.out k hlt
   have hq := hq0.below hbr hq0.lt
   obtain ⟨hqb, q0, q1, q2, q3, qok⟩ := hq
   clear hq0
   generalize hqe : qd xs k = q at *
   obtain ⟨qa, qb, qc, qd'⟩ := q
   clear hqe
   simp only at q0 q1 q2 q3
   obtain ⟨ok0, ok1, ok2, ok3⟩ := qok
   simp only at ok0 ok1 ok2 ok3
   have i1 : (k : Int) < (xs.length : Int) := by omega
   have hne : 0 < gs.length := by omega
   obtain ⟨g, c, rfl, hgl, hcell⟩ := hF.cell hne
   obtain ⟨b1, e1, hf1⟩ := hF.at hne qb
   obtain ⟨b2, e2, hf2⟩ := hF.at hne qc
   have g1 := hcell _ _ e1
   have g2 := hcell _ _ e2
   have hA := tAt_small HSK qb
   have hC := tAt_small HSK qc
   have hGs := stepT_small hv6 HSK ⟨qa, qb, qc, qd'⟩
   have S0 : Hid (pickV qa 7 = 0 -> ∀ y, y = setN vars qb ↔ stepT vars T ⟨qa, qb, qc, qd'⟩ y) := fun e y => by unfold stepT; rw [e]; exact Iff.rfl
   have S1 : Hid (pickV qa 7 = 1 -> ∀ y, opP .or (tAt T qb) (tAt T qc) y ↔ stepT vars T ⟨qa, qb, qc, qd'⟩ y) := fun e y => by unfold stepT; rw [e]; exact Iff.rfl
   have S2 : Hid (pickV qa 7 = 2 -> ∀ y, opP .and (tAt T qb) (tAt T qc) y ↔ stepT vars T ⟨qa, qb, qc, qd'⟩ y) := fun e y => by unfold stepT; rw [e]; exact Iff.rfl
   have S3 : Hid (pickV qa 7 = 3 -> ∀ y, opP .less (tAt T qb) (tAt T qc) y ↔ stepT vars T ⟨qa, qb, qc, qd'⟩ y) := fun e y => by unfold stepT; rw [e]; exact Iff.rfl
   have S4 : Hid (pickV qa 7 = 4 -> ∀ y, opP .join (tAt T qb) (tAt T qc) y ↔ stepT vars T ⟨qa, qb, qc, qd'⟩ y) := fun e y => by unfold stepT; rw [e]; exact Iff.rfl
   have S5 : Hid (pickV qa 7 = 5 -> ∀ y, opP .without (tAt T qb) (tAt T qc) y ↔ stepT vars T ⟨qa, qb, qc, qd'⟩ y) := fun e y => by unfold stepT; rw [e]; exact Iff.rfl
   have S6 : Hid (pickV qa 7 = 6 -> ∀ y, leastP (tAt T qb) y ↔ stepT vars T ⟨qa, qb, qc, qd'⟩ y) := fun e y => by unfold stepT; rw [e]; exact Iff.rfl
   generalize stepT vars T ⟨qa, qb, qc, qd'⟩ = G at *
   generalize tAt T qb = A at *
   generalize tAt T qc = C at *
   have P1 : Hid (∀ W, Calls Tryz.prog 53 #[.int .i64 qb, .int .i64 (gs.length : Int)] W fun e w' => e = .returned (.int .i64 (pickV qb gs.length : Int)) /\ W = w') := fun W => rat_any qb gs.length hne (by omega) W
   have P2 : Hid (∀ W, Calls Tryz.prog 53 #[.int .i64 qc, .int .i64 (gs.length : Int)] W fun e w' => e = .returned (.int .i64 (pickV qc gs.length : Int)) /\ W = w') := fun W => rat_any qc gs.length hne (by omega) W
   have P9 : Hid (∀ W, Calls Tryz.prog 53 #[.int .i64 qa, .int .i64 7] W fun e w' => e = .returned (.int .i64 (pickV qa 7 : Int)) /\ W = w') := fun W => rat_any qa 7 (by omega) (by omega) W
   have t9 := pickV_lt qa (show 0 < 7 by omega)
   have l1 := pickV_lt qb hne
   have l2 := pickV_lt qc hne
   clear e1 e2 hcell HSK
   generalize pickV qb gs.length = p1 at *
   generalize pickV qc gs.length = p2 at *
   generalize pickV qa 7 = t at *
   have j1 : (p1 : Int) < (gs.length : Int) := by omega
   have j2 : (p2 : Int) < (gs.length : Int) := by omega
   have hbx := below_new wo (.cells #[.int .i64 qa, .int .i64 qb, .int .i64 qc, .int .i64 qd'] 60)
   obtain ⟨x0, x1, x2, x3⟩ := cell4 wo (.int .i64 qa) (.int .i64 qb) (.int .i64 qc) (.int .i64 qd') 60
   have y1 := (hbx.cell (p := ⟨g, p1, none⟩) hgl).trans g1
   have y2 := (hbx.cell (p := ⟨g, p2, none⟩) hgl).trans g2
   have b1l := hf1.lt
   have b2l := hf2.lt
   have HBX := Lib.hid hbx
   have HF1 := Lib.hid hf1
   have HF2 := Lib.hid hf2
   have HFA := Lib.hid hf1
   have HFC := Lib.hid hf2
   have HFS := Lib.hid hF
   have HBR := Lib.hid hbr
   have hal1 : gs.length <= 22 := by omega
   have HAL := Lib.hid hal
   have HA := Lib.hid hA
   have HC := Lib.hid hC
   have HGS := Lib.hid hGs
   clear hbx g1 g2 l1 l2 hal hF hf1 hf2 hbr hA hC hGs
   go_wp2_with fail
   clear q0 q1 q2 q3
   generalize hW1 : (wo.alloc (.cells #[.int .i64 qa, .int .i64 qb, .int .i64 qc, .int .i64 qd'] 60)) = W1 at *
   have s1 : W1.heap.size = wo.heap.size + 1 := by rw [<- hW1]; simp
   clear hW1
   have SA : W1.drew.cell? ⟨wo.heap.size, 1, none⟩ = some (.int .i64 qb) /\ W1.drew.cell? ⟨wo.heap.size, 2, none⟩ = some (.int .i64 qc) /\ W1.drew.cell? ⟨g, p1, none⟩ = some (.map (some b1)) /\ W1.drew.cell? ⟨g, p2, none⟩ = some (.map (some b2)) := ⟨x1, x2, y1, y2⟩
   go_region_held3 (fun X => X.cell? ⟨wo.heap.size, 1, none⟩ = some (.int .i64 qb) /\ X.cell? ⟨wo.heap.size, 2, none⟩ = some (.int .i64 qc) /\ X.cell? ⟨g, p1, none⟩ = some (.map (some b1)) /\ X.cell? ⟨g, p2, none⟩ = some (.map (some b2))) (exact SA)
    (first
     | (go_at_call 53; with_reducible refine (P1.out _).mono ?_; rintro e wz ⟨rfl, rfl⟩)
     | (go_at_call 53; with_reducible refine (P2.out _).mono ?_; rintro e wz ⟨rfl, rfl⟩))
   have HB2 := Lib.hid (HBX.out.drew)
   have y0 : W1.drew.cell? ⟨wo.heap.size, 0, none⟩ = some (.int .i64 qa) := x0
   have y1 : W1.drew.cell? ⟨wo.heap.size, 1, none⟩ = some (.int .i64 qb) := x1
   have s3 : W1.drew.heap.size = wo.heap.size + 1 := s1
   clear SA x0 x1 x2 x3 P1 P2 s1 y2
   generalize W1.drew = W3 at *
   have hb4 := below_new W3 (.map #[] 0)
   have s4 : (W3.alloc (.map #[] 0)).heap.size = wo.heap.size + 2 := by simp [s3]
   have HFM := Lib.hid (FM.made W3)
   have z0 := (hb4.cell (p := ⟨wo.heap.size, 0, none⟩) (by show wo.heap.size < _; omega)).trans y0
   have z1 := (hb4.cell (p := ⟨wo.heap.size, 1, none⟩) (by show wo.heap.size < _; omega)).trans y1
   have HB4 := Lib.hid (HB2.out.trans (hb4.mono (by omega)))
   clear y0 y1 hb4 HB2 HBX
   rw [s3] at HFM
   go_upto_block 2 with (go_at_call 53; refine (P9.out _).mono ?_; rintro e wz ⟨rfl, rfl⟩)
   have z2 := (HB4.out.size)
   have f1 := HF1.out.below HB4.out
   have f2 := HF2.out.below HB4.out
   have hr1 : (W3.alloc (.map #[] 0)).heap.size = wo.heap.size + 2 := s4
   have hm := HFM.out
   have hb4 := HB4.out
   clear s4 HFM HF1 HF2 HB4 s3
   generalize (W3.alloc (.map #[] 0)) = W4 at *
   go_cut [11] (fun f wx => FDone wo G f wx)
   case first =>
    have hA := HA.out
    have hC := HC.out
    obtain rfl | rfl | rfl | rfl | rfl | rfl | rfl : t = 0 \/ t = 1 \/ t = 2 \/ t = 3 \/ t = 4 \/ t = 5 \/ t = 6 := by omega
    ·have HE := Lib.hid (S0.out rfl)
     clear S0 S1 S2 S3 S4 S5 S6 P9
     obtain ⟨mq, hmq⟩ : ∃ mq : Nat, qb % 18446744073709551616 = (mq : Int) := ⟨(qb % 18446744073709551616).toNat, by omega⟩
     have hmql : mq < 18446744073709551616 := by omega
     have hw1 : IntKind.u64.wrap qb = (mq : Int) := by rw [IntKind.wrap_u64]; exact hmq
     have hsn : setN vars qb = mq % 2 ^ vars := by unfold setN; rw [hmq]; rfl
     have hmask := mask_u64B mq vars hmql (by omega)
     have p6 : 2 ^ vars <= 64 := Nat.pow_le_pow_right (n := 2) (by omega) hv6
     have hm2 : mq % 2 ^ vars < 64 := Nat.lt_of_lt_of_le (Nat.mod_lt _ (Nat.two_pow_pos _)) p6
     rw [hsn] at HE
     clear hmq hsn hmql p6
     generalize mq % 2 ^ vars = m2 at *
     have bd := Below.refl W4.heap.size W4
     obtain ⟨w5, hput, hf5, hg5⟩ := (hm.below bd.drew).put (fun x hx => hx.elim) (x := m2) (by unfold UOk; omega)
     have SB : W4.drew.cell? ⟨wo.heap.size, 1, none⟩ = some (.int .i64 qb) := z1
     have hdz : W4.drew.heap.size = wo.heap.size + 2 := hr1
     have hb5 := grown_below hg5 (n := wo.heap.size + 1) (Nat.le_refl _) (by omega)
     have hsk := (hb5.cell (p := ⟨wo.heap.size, 1, none⟩) (by show wo.heap.size < _; omega)).trans SB
     have HD : Hid (FDone wo G (.map (some (wo.heap.size + 1))) w5) := ⟨_, rfl, hf5.congr (fun y => ⟨fun h => (HE.out y).1 (h.elim (fun h => h.elim) id), fun h => .inr ((HE.out y).2 h)⟩), by omega, hb4.drew.trans (hb5.mono (by omega))⟩
     clear hb5 hf5 hg5 bd hb4 hm f1 f2 z0
     go_wp2_with fail
     go_region_held3 (fun X => X.cell? ⟨wo.heap.size, 1, none⟩ = some (.int .i64 qb)) (first | exact SB | exact hsk) (fail)
     all_goals
      go_wp2_with fail
      go_meet
      case rel => exact HD.out
    ·have HE := Lib.hid (S1.out rfl)
     clear S0 S1 S2 S3 S4 S5 S6 P9 z0 z1
     have HF1 := Lib.hid (show FM wo b1 A from HFA.out)
     have HF2 := Lib.hid (show FM wo b2 C from HFC.out)
     go_wp2_with (at_range; refine wp_range_fam' _ rfl _ rfl b1 (wo.heap.size + 2) hr1 A rfl f1 ?_; intro w5A cnt5A hrm5A hg5A hs5A)
     try go_frame
     have HSTA : Hid (FI wo b1 (wo.heap.size + 2) (wo.heap.size + 1) A (fun _ => False) A w5A) := FI.start hrm5A (hm.grown hg5A (by simp)) (fun _ h => h) (hb4.trans (grown_none hg5A (by omega)))
     have hz5A : (wo.heap.size + 2) < w5A.heap.size := by omega
     clear hrm5A hg5A hs5A hm hb4 hr1 f1
     go_loopw [12] (fun _ wq => FI wo b1 (wo.heap.size + 2) (wo.heap.size + 1) A (fun _ => False) A wq) (fun _ wq => wq.rangeLeft b1 (wo.heap.size + 2))
     case atStart => exact HSTA.out
     case round =>
      obtain ⟨waA, hwaA⟩ : ∃ wa, wa = wr := ⟨_, rfl⟩
      subst hwaA
      obtain ⟨RA, cntA, hrmA, hfmA, hbA⟩ := hrel
      have HRMA := Lib.hid hrmA
      have HFMA := Lib.hid hfmA
      have HBA := Lib.hid hbA
      clear HSTA hfmA hbA
      go_wp2_with (at_next; refine wp_next_fam _ rfl _ rfl b1 (wo.heap.size + 2) A RA cntA rfl hrmA ?_ ?_)
      ·intro hall
       have hDA := fi_done HFMA.out hall
       have hbAA := HBA.out
       have hrltA := hrmA.lt
       clear hall HRMA HFMA hrmA
       obtain ⟨r2, hr2⟩ : ∃ r2, waA.heap.size = r2 := ⟨_, rfl⟩
       have f2 := HF2.out.below hbAA
       have hrl := hbAA.size
       have hr2l : wo.heap.size + 2 < r2 := by omega
       go_wp2_with (at_range; refine wp_range_fam' _ rfl _ rfl b2 r2 hr2 C rfl f2 ?_; intro w5B cnt5B hrm5B hg5B hs5B)
       try go_frame
       have HSTB : Hid (FI wo b2 r2 (wo.heap.size + 1) C (fun y => False \/ A y) C w5B) := FI.start hrm5B (hDA.grown hg5B (by simp)) (fun _ h => h) (hbAA.trans (grown_none hg5B (by omega)))
       have hz5B : r2 < w5B.heap.size := by omega
       clear hrm5B hg5B hs5B hDA hbAA hr2 f2
       go_loopw [13] (fun _ wq => FI wo b2 r2 (wo.heap.size + 1) C (fun y => False \/ A y) C wq) (fun _ wq => wq.rangeLeft b2 r2)
       case atStart => exact HSTB.out
       case round =>
        obtain ⟨waB, hwaB⟩ : ∃ wa, wa = wr := ⟨_, rfl⟩
        subst hwaB
        obtain ⟨RB, cntB, hrmB, hfmB, hbB⟩ := hrel
        have HRMB := Lib.hid hrmB
        have HFMB := Lib.hid hfmB
        have HBB := Lib.hid hbB
        clear HSTB hfmB hbB
        go_wp2_with (at_next; refine wp_next_fam _ rfl _ rfl b2 r2 C RB cntB rfl hrmB ?_ ?_)
        ·intro hall
         have hDB := fi_done HFMB.out hall
         have hbAB := HBB.out
         have hrltB := hrmB.lt
         clear hall HRMB HFMB hrmB
         have HD : Hid (FDone wo G (.map (some (wo.heap.size + 1))) waB) := ⟨_, rfl, hDB.congr (fun y => ⟨fun h => (HE.out y).1 (h.imp (fun h => h.elim (fun h => h.elim) id) id), fun h => ((HE.out y).2 h).imp .inr id⟩), by omega, hbAB⟩
         clear hDB hbAB
         go_wp2_with fail
         go_meet
         case rel => exact HD.out
        ·intro x w6 cnt6 hRx hSx hxo hrm6 hlt6 hg6 hs6 hen
         have HLT6 := Lib.hid hlt6
         have HRX := Lib.hid hRx
         have HSX := Lib.hid hSx
         obtain ⟨w7, hput, hfi, hme⟩ := FI.put (by omega) (by omega) (by omega) (by omega) HRMB.out HFMB.out HBB.out (fun y h => h.elim (fun h => h.elim (fun h => h.elim) (hA y)) (hC y)) hxo hrm6 hlt6 hg6 hSx
         have HFI := Lib.hid hfi
         have HME := Lib.hid hme
         clear hfi hme hrm6 hlt6 hRx hSx HLT6 HRX HSX HRMB HFMB HBB hrmB hg6 hs6
         go_wp2
         go_roundw
         case rel => first | exact HFI.out | exact ⟨_, _, _, _, _, _, HFI.out, rfl⟩ | exact ⟨_, _, _, _, _, _, _, HFI.out, rfl⟩ | exact ⟨_, _, _, _, _, _, _, _, HFI.out, rfl⟩ | exact ⟨_, _, _, _, _, _, _, _, _, HFI.out, rfl⟩ | exact ⟨_, _, _, _, _, _, _, _, _, _, HFI.out, rfl⟩ | exact ⟨_, _, _, _, _, _, _, _, _, _, _, HFI.out, rfl⟩ | exact ⟨_, _, _, _, _, _, _, _, _, _, _, _, HFI.out, rfl⟩ | exact ⟨_, _, _, _, _, _, _, _, _, _, _, _, _, HFI.out, rfl⟩ | exact ⟨_, _, _, _, _, _, _, _, _, _, _, _, _, _, HFI.out, rfl⟩ | exact ⟨_, _, _, _, _, _, _, _, _, _, _, _, _, _, _, HFI.out, rfl⟩ | exact ⟨_, _, _, _, _, _, _, _, _, _, _, _, _, _, _, _, HFI.out, rfl⟩ | exact ⟨_, _, _, _, _, _, _, _, _, _, _, _, _, _, _, _, _, HFI.out, rfl⟩ | exact ⟨_, _, _, _, _, _, _, _, _, _, _, _, _, _, _, _, _, _, HFI.out, rfl⟩ | exact ⟨_, _, _, _, _, _, _, _, _, _, _, _, _, _, _, _, _, _, _, HFI.out, rfl⟩ | exact ⟨_, _, _, _, _, _, _, _, _, _, _, _, _, _, _, _, _, _, _, _, HFI.out, rfl⟩ | exact ⟨_, _, _, _, _, _, _, _, _, _, _, _, _, _, _, _, _, _, _, _, _, HFI.out, rfl⟩ | exact ⟨_, _, _, _, _, _, _, _, _, _, _, _, _, _, _, _, _, _, _, _, _, _, HFI.out, rfl⟩ | exact ⟨_, _, _, _, _, _, _, _, _, _, _, _, _, _, _, _, _, _, _, _, _, _, _, HFI.out, rfl⟩ | exact ⟨_, _, _, _, _, _, _, _, _, _, _, _, _, _, _, _, _, _, _, _, _, _, _, _, HFI.out, rfl⟩ | exact ⟨_, _, _, _, _, _, _, _, _, _, _, _, _, _, _, _, _, _, _, _, _, _, _, _, _, HFI.out, rfl⟩ | exact ⟨_, _, _, _, _, _, _, _, _, _, _, _, _, _, _, _, _, _, _, _, _, _, _, _, _, _, HFI.out, rfl⟩ | exact ⟨_, _, _, _, _, _, _, _, _, _, _, _, _, _, _, _, _, _, _, _, _, _, _, _, _, _, _, HFI.out, rfl⟩ | exact ⟨_, _, _, _, _, _, _, _, _, _, _, _, _, _, _, _, _, _, _, _, _, _, _, _, _, _, _, _, HFI.out, rfl⟩ | exact ⟨_, _, _, _, _, _, _, _, _, _, _, _, _, _, _, _, _, _, _, _, _, _, _, _, _, _, _, _, _, HFI.out, rfl⟩
         case measure => exact HME.out
      ·intro x w6 cnt6 hRx hSx hxo hrm6 hlt6 hg6 hs6 hen
       have HLT6 := Lib.hid hlt6
       have HRX := Lib.hid hRx
       have HSX := Lib.hid hSx
       obtain ⟨w7, hput, hfi, hme⟩ := FI.put (by omega) (by omega) (by omega) (by omega) HRMA.out HFMA.out HBA.out (fun y h => h.elim (fun h => h.elim) (hA y)) hxo hrm6 hlt6 hg6 hSx
       have HFI := Lib.hid hfi
       have HME := Lib.hid hme
       clear hfi hme hrm6 hlt6 hRx hSx HLT6 HRX HSX HRMA HFMA HBA hrmA hg6 hs6
       go_wp2
       go_roundw
       case rel => first | exact HFI.out | exact ⟨_, _, _, _, _, _, HFI.out, rfl⟩ | exact ⟨_, _, _, _, _, _, _, HFI.out, rfl⟩ | exact ⟨_, _, _, _, _, _, _, _, HFI.out, rfl⟩ | exact ⟨_, _, _, _, _, _, _, _, _, HFI.out, rfl⟩ | exact ⟨_, _, _, _, _, _, _, _, _, _, HFI.out, rfl⟩ | exact ⟨_, _, _, _, _, _, _, _, _, _, _, HFI.out, rfl⟩ | exact ⟨_, _, _, _, _, _, _, _, _, _, _, _, HFI.out, rfl⟩ | exact ⟨_, _, _, _, _, _, _, _, _, _, _, _, _, HFI.out, rfl⟩ | exact ⟨_, _, _, _, _, _, _, _, _, _, _, _, _, _, HFI.out, rfl⟩ | exact ⟨_, _, _, _, _, _, _, _, _, _, _, _, _, _, _, HFI.out, rfl⟩ | exact ⟨_, _, _, _, _, _, _, _, _, _, _, _, _, _, _, _, HFI.out, rfl⟩ | exact ⟨_, _, _, _, _, _, _, _, _, _, _, _, _, _, _, _, _, HFI.out, rfl⟩ | exact ⟨_, _, _, _, _, _, _, _, _, _, _, _, _, _, _, _, _, _, HFI.out, rfl⟩ | exact ⟨_, _, _, _, _, _, _, _, _, _, _, _, _, _, _, _, _, _, _, HFI.out, rfl⟩ | exact ⟨_, _, _, _, _, _, _, _, _, _, _, _, _, _, _, _, _, _, _, _, HFI.out, rfl⟩ | exact ⟨_, _, _, _, _, _, _, _, _, _, _, _, _, _, _, _, _, _, _, _, _, HFI.out, rfl⟩ | exact ⟨_, _, _, _, _, _, _, _, _, _, _, _, _, _, _, _, _, _, _, _, _, _, HFI.out, rfl⟩ | exact ⟨_, _, _, _, _, _, _, _, _, _, _, _, _, _, _, _, _, _, _, _, _, _, _, HFI.out, rfl⟩ | exact ⟨_, _, _, _, _, _, _, _, _, _, _, _, _, _, _, _, _, _, _, _, _, _, _, _, HFI.out, rfl⟩ | exact ⟨_, _, _, _, _, _, _, _, _, _, _, _, _, _, _, _, _, _, _, _, _, _, _, _, _, HFI.out, rfl⟩ | exact ⟨_, _, _, _, _, _, _, _, _, _, _, _, _, _, _, _, _, _, _, _, _, _, _, _, _, _, HFI.out, rfl⟩ | exact ⟨_, _, _, _, _, _, _, _, _, _, _, _, _, _, _, _, _, _, _, _, _, _, _, _, _, _, _, HFI.out, rfl⟩ | exact ⟨_, _, _, _, _, _, _, _, _, _, _, _, _, _, _, _, _, _, _, _, _, _, _, _, _, _, _, _, HFI.out, rfl⟩ | exact ⟨_, _, _, _, _, _, _, _, _, _, _, _, _, _, _, _, _, _, _, _, _, _, _, _, _, _, _, _, _, HFI.out, rfl⟩
       case measure => exact HME.out
    ·have HE := Lib.hid (S2.out rfl)
     clear S0 S1 S2 S3 S4 S5 S6 P9 z0 z1
     have HF1 := Lib.hid (show FM wo b1 A from HFA.out)
     have HF2 := Lib.hid (show FM wo b2 C from HFC.out)
     go_wp2_with (at_range; refine wp_range_fam' _ rfl _ rfl b1 (wo.heap.size + 2) hr1 A rfl f1 ?_; intro w5A cnt5A hrm5A hg5A hs5A)
     try go_frame
     have HSTA : Hid (FI wo b1 (wo.heap.size + 2) (wo.heap.size + 1) A (fun _ => False) (fun y => A y /\ C y) w5A) := FI.start hrm5A (hm.grown hg5A (by simp)) (fun _ h => h.1) (hb4.trans (grown_none hg5A (by omega)))
     have hz5A : (wo.heap.size + 2) < w5A.heap.size := by omega
     clear hrm5A hg5A hs5A hm hb4 hr1 f1
     go_loopw [14] (fun _ wq => FI wo b1 (wo.heap.size + 2) (wo.heap.size + 1) A (fun _ => False) (fun y => A y /\ C y) wq) (fun _ wq => wq.rangeLeft b1 (wo.heap.size + 2))
     case atStart => exact HSTA.out
     case round =>
      obtain ⟨waA, hwaA⟩ : ∃ wa, wa = wr := ⟨_, rfl⟩
      subst hwaA
      obtain ⟨RA, cntA, hrmA, hfmA, hbA⟩ := hrel
      have HRMA := Lib.hid hrmA
      have HFMA := Lib.hid hfmA
      have HBA := Lib.hid hbA
      clear HSTA hfmA hbA
      go_wp2_with (at_next; refine wp_next_fam _ rfl _ rfl b1 (wo.heap.size + 2) A RA cntA rfl hrmA ?_ ?_)
      ·intro hall
       have hDA := fi_done HFMA.out hall
       have hbAA := HBA.out
       have hrltA := hrmA.lt
       clear hall HRMA HFMA hrmA
       have HD : Hid (FDone wo G (.map (some (wo.heap.size + 1))) waA) := ⟨_, rfl, hDA.congr (fun y => ⟨fun h => (HE.out y).1 (h.elim (fun h => h.elim) id), fun h => .inr ((HE.out y).2 h)⟩), by omega, hbAA⟩
       clear hDA hbAA
       go_wp2_with fail
       go_meet
       case rel => exact HD.out
      ·intro x w6 cnt6 hRx hSx hxo hrm6 hlt6 hg6 hs6 hen
       have HLT6 := Lib.hid hlt6
       have HRX := Lib.hid hRx
       have HSX := Lib.hid hSx
       have b6 := HBA.out.trans (grown_below hg6 (by omega) HBA.out.size)
       have f26 := HF2.out.below b6
       have hlk := @FM.look _ _ _ f26 x hxo (Classical.propDecidable _)
       obtain ⟨L, hL⟩ : ∃ L : Bool, L = @decide (C x) (Classical.propDecidable _) := ⟨_, rfl⟩
       rw [<- hL] at hlk
       have hL2 : L = true ↔ C x := by rw [hL]; exact @decide_eq_true_iff _ (Classical.propDecidable _)
       clear hL
       cases L
       ·have hfi := FI.skip (by omega) (by omega) HRMA.out HFMA.out HBA.out hrm6 hlt6 hg6 (fun h => by have := hL2.2 h.2; cases this)
        have HFI := Lib.hid hfi
        clear hfi hrm6 hlt6 hRx hSx HLT6 HRX HSX HRMA HFMA HBA hrmA hg6 hs6 b6 f26 hL2
        go_wp2
        go_roundw
        case rel => first | exact HFI.out.1 | exact ⟨_, _, _, _, _, _, HFI.out.1, rfl⟩ | exact ⟨_, _, _, _, _, _, _, HFI.out.1, rfl⟩ | exact ⟨_, _, _, _, _, _, _, _, HFI.out.1, rfl⟩ | exact ⟨_, _, _, _, _, _, _, _, _, HFI.out.1, rfl⟩ | exact ⟨_, _, _, _, _, _, _, _, _, _, HFI.out.1, rfl⟩ | exact ⟨_, _, _, _, _, _, _, _, _, _, _, HFI.out.1, rfl⟩ | exact ⟨_, _, _, _, _, _, _, _, _, _, _, _, HFI.out.1, rfl⟩ | exact ⟨_, _, _, _, _, _, _, _, _, _, _, _, _, HFI.out.1, rfl⟩ | exact ⟨_, _, _, _, _, _, _, _, _, _, _, _, _, _, HFI.out.1, rfl⟩ | exact ⟨_, _, _, _, _, _, _, _, _, _, _, _, _, _, _, HFI.out.1, rfl⟩ | exact ⟨_, _, _, _, _, _, _, _, _, _, _, _, _, _, _, _, HFI.out.1, rfl⟩ | exact ⟨_, _, _, _, _, _, _, _, _, _, _, _, _, _, _, _, _, HFI.out.1, rfl⟩ | exact ⟨_, _, _, _, _, _, _, _, _, _, _, _, _, _, _, _, _, _, HFI.out.1, rfl⟩ | exact ⟨_, _, _, _, _, _, _, _, _, _, _, _, _, _, _, _, _, _, _, HFI.out.1, rfl⟩ | exact ⟨_, _, _, _, _, _, _, _, _, _, _, _, _, _, _, _, _, _, _, _, HFI.out.1, rfl⟩ | exact ⟨_, _, _, _, _, _, _, _, _, _, _, _, _, _, _, _, _, _, _, _, _, HFI.out.1, rfl⟩ | exact ⟨_, _, _, _, _, _, _, _, _, _, _, _, _, _, _, _, _, _, _, _, _, _, HFI.out.1, rfl⟩ | exact ⟨_, _, _, _, _, _, _, _, _, _, _, _, _, _, _, _, _, _, _, _, _, _, _, HFI.out.1, rfl⟩ | exact ⟨_, _, _, _, _, _, _, _, _, _, _, _, _, _, _, _, _, _, _, _, _, _, _, _, HFI.out.1, rfl⟩ | exact ⟨_, _, _, _, _, _, _, _, _, _, _, _, _, _, _, _, _, _, _, _, _, _, _, _, _, HFI.out.1, rfl⟩ | exact ⟨_, _, _, _, _, _, _, _, _, _, _, _, _, _, _, _, _, _, _, _, _, _, _, _, _, _, HFI.out.1, rfl⟩ | exact ⟨_, _, _, _, _, _, _, _, _, _, _, _, _, _, _, _, _, _, _, _, _, _, _, _, _, _, _, HFI.out.1, rfl⟩ | exact ⟨_, _, _, _, _, _, _, _, _, _, _, _, _, _, _, _, _, _, _, _, _, _, _, _, _, _, _, _, HFI.out.1, rfl⟩ | exact ⟨_, _, _, _, _, _, _, _, _, _, _, _, _, _, _, _, _, _, _, _, _, _, _, _, _, _, _, _, _, HFI.out.1, rfl⟩
        case measure => exact HFI.out.2
       ·obtain ⟨w7, hput, hfi, hme⟩ := FI.put (by omega) (by omega) (by omega) (by omega) HRMA.out HFMA.out HBA.out (fun y h => h.elim (fun h => h.elim) (fun h => hA y h.1)) hxo hrm6 hlt6 hg6 ⟨hSx, hL2.1 rfl⟩
        have HFI := Lib.hid hfi
        have HME := Lib.hid hme
        clear hfi hme hrm6 hlt6 hRx hSx HLT6 HRX HSX HRMA HFMA HBA hrmA hg6 hs6 b6 f26 hL2
        go_wp2
        go_roundw
        case rel => first | exact HFI.out | exact ⟨_, _, _, _, _, _, HFI.out, rfl⟩ | exact ⟨_, _, _, _, _, _, _, HFI.out, rfl⟩ | exact ⟨_, _, _, _, _, _, _, _, HFI.out, rfl⟩ | exact ⟨_, _, _, _, _, _, _, _, _, HFI.out, rfl⟩ | exact ⟨_, _, _, _, _, _, _, _, _, _, HFI.out, rfl⟩ | exact ⟨_, _, _, _, _, _, _, _, _, _, _, HFI.out, rfl⟩ | exact ⟨_, _, _, _, _, _, _, _, _, _, _, _, HFI.out, rfl⟩ | exact ⟨_, _, _, _, _, _, _, _, _, _, _, _, _, HFI.out, rfl⟩ | exact ⟨_, _, _, _, _, _, _, _, _, _, _, _, _, _, HFI.out, rfl⟩ | exact ⟨_, _, _, _, _, _, _, _, _, _, _, _, _, _, _, HFI.out, rfl⟩ | exact ⟨_, _, _, _, _, _, _, _, _, _, _, _, _, _, _, _, HFI.out, rfl⟩ | exact ⟨_, _, _, _, _, _, _, _, _, _, _, _, _, _, _, _, _, HFI.out, rfl⟩ | exact ⟨_, _, _, _, _, _, _, _, _, _, _, _, _, _, _, _, _, _, HFI.out, rfl⟩ | exact ⟨_, _, _, _, _, _, _, _, _, _, _, _, _, _, _, _, _, _, _, HFI.out, rfl⟩ | exact ⟨_, _, _, _, _, _, _, _, _, _, _, _, _, _, _, _, _, _, _, _, HFI.out, rfl⟩ | exact ⟨_, _, _, _, _, _, _, _, _, _, _, _, _, _, _, _, _, _, _, _, _, HFI.out, rfl⟩ | exact ⟨_, _, _, _, _, _, _, _, _, _, _, _, _, _, _, _, _, _, _, _, _, _, HFI.out, rfl⟩ | exact ⟨_, _, _, _, _, _, _, _, _, _, _, _, _, _, _, _, _, _, _, _, _, _, _, HFI.out, rfl⟩ | exact ⟨_, _, _, _, _, _, _, _, _, _, _, _, _, _, _, _, _, _, _, _, _, _, _, _, HFI.out, rfl⟩ | exact ⟨_, _, _, _, _, _, _, _, _, _, _, _, _, _, _, _, _, _, _, _, _, _, _, _, _, HFI.out, rfl⟩ | exact ⟨_, _, _, _, _, _, _, _, _, _, _, _, _, _, _, _, _, _, _, _, _, _, _, _, _, _, HFI.out, rfl⟩ | exact ⟨_, _, _, _, _, _, _, _, _, _, _, _, _, _, _, _, _, _, _, _, _, _, _, _, _, _, _, HFI.out, rfl⟩ | exact ⟨_, _, _, _, _, _, _, _, _, _, _, _, _, _, _, _, _, _, _, _, _, _, _, _, _, _, _, _, HFI.out, rfl⟩ | exact ⟨_, _, _, _, _, _, _, _, _, _, _, _, _, _, _, _, _, _, _, _, _, _, _, _, _, _, _, _, _, HFI.out, rfl⟩
        case measure => exact HME.out
    ·have HE := Lib.hid (S3.out rfl)
     clear S0 S1 S2 S3 S4 S5 S6 P9 z0 z1
     have HF1 := Lib.hid (show FM wo b1 A from HFA.out)
     have HF2 := Lib.hid (show FM wo b2 C from HFC.out)
     go_wp2_with (at_range; refine wp_range_fam' _ rfl _ rfl b1 (wo.heap.size + 2) hr1 A rfl f1 ?_; intro w5A cnt5A hrm5A hg5A hs5A)
     try go_frame
     have HSTA : Hid (FI wo b1 (wo.heap.size + 2) (wo.heap.size + 1) A (fun _ => False) (fun y => A y /\ ¬ C y) w5A) := FI.start hrm5A (hm.grown hg5A (by simp)) (fun _ h => h.1) (hb4.trans (grown_none hg5A (by omega)))
     have hz5A : (wo.heap.size + 2) < w5A.heap.size := by omega
     clear hrm5A hg5A hs5A hm hb4 hr1 f1
     go_loopw [15] (fun _ wq => FI wo b1 (wo.heap.size + 2) (wo.heap.size + 1) A (fun _ => False) (fun y => A y /\ ¬ C y) wq) (fun _ wq => wq.rangeLeft b1 (wo.heap.size + 2))
     case atStart => exact HSTA.out
     case round =>
      obtain ⟨waA, hwaA⟩ : ∃ wa, wa = wr := ⟨_, rfl⟩
      subst hwaA
      obtain ⟨RA, cntA, hrmA, hfmA, hbA⟩ := hrel
      have HRMA := Lib.hid hrmA
      have HFMA := Lib.hid hfmA
      have HBA := Lib.hid hbA
      clear HSTA hfmA hbA
      go_wp2_with (at_next; refine wp_next_fam _ rfl _ rfl b1 (wo.heap.size + 2) A RA cntA rfl hrmA ?_ ?_)
      ·intro hall
       have hDA := fi_done HFMA.out hall
       have hbAA := HBA.out
       have hrltA := hrmA.lt
       clear hall HRMA HFMA hrmA
       have HD : Hid (FDone wo G (.map (some (wo.heap.size + 1))) waA) := ⟨_, rfl, hDA.congr (fun y => ⟨fun h => (HE.out y).1 (h.elim (fun h => h.elim) id), fun h => .inr ((HE.out y).2 h)⟩), by omega, hbAA⟩
       clear hDA hbAA
       go_wp2_with fail
       go_meet
       case rel => exact HD.out
      ·intro x w6 cnt6 hRx hSx hxo hrm6 hlt6 hg6 hs6 hen
       have HLT6 := Lib.hid hlt6
       have HRX := Lib.hid hRx
       have HSX := Lib.hid hSx
       have b6 := HBA.out.trans (grown_below hg6 (by omega) HBA.out.size)
       have f26 := HF2.out.below b6
       have hlk := @FM.look _ _ _ f26 x hxo (Classical.propDecidable _)
       obtain ⟨L, hL⟩ : ∃ L : Bool, L = @decide (C x) (Classical.propDecidable _) := ⟨_, rfl⟩
       rw [<- hL] at hlk
       have hL2 : L = true ↔ C x := by rw [hL]; exact @decide_eq_true_iff _ (Classical.propDecidable _)
       clear hL
       cases L
       ·obtain ⟨w7, hput, hfi, hme⟩ := FI.put (by omega) (by omega) (by omega) (by omega) HRMA.out HFMA.out HBA.out (fun y h => h.elim (fun h => h.elim) (fun h => hA y h.1)) hxo hrm6 hlt6 hg6 ⟨hSx, (fun h => by have := hL2.2 h; cases this)⟩
        have HFI := Lib.hid hfi
        have HME := Lib.hid hme
        clear hfi hme hrm6 hlt6 hRx hSx HLT6 HRX HSX HRMA HFMA HBA hrmA hg6 hs6 b6 f26 hL2
        go_wp2
        go_roundw
        case rel => first | exact HFI.out | exact ⟨_, _, _, _, _, _, HFI.out, rfl⟩ | exact ⟨_, _, _, _, _, _, _, HFI.out, rfl⟩ | exact ⟨_, _, _, _, _, _, _, _, HFI.out, rfl⟩ | exact ⟨_, _, _, _, _, _, _, _, _, HFI.out, rfl⟩ | exact ⟨_, _, _, _, _, _, _, _, _, _, HFI.out, rfl⟩ | exact ⟨_, _, _, _, _, _, _, _, _, _, _, HFI.out, rfl⟩ | exact ⟨_, _, _, _, _, _, _, _, _, _, _, _, HFI.out, rfl⟩ | exact ⟨_, _, _, _, _, _, _, _, _, _, _, _, _, HFI.out, rfl⟩ | exact ⟨_, _, _, _, _, _, _, _, _, _, _, _, _, _, HFI.out, rfl⟩ | exact ⟨_, _, _, _, _, _, _, _, _, _, _, _, _, _, _, HFI.out, rfl⟩ | exact ⟨_, _, _, _, _, _, _, _, _, _, _, _, _, _, _, _, HFI.out, rfl⟩ | exact ⟨_, _, _, _, _, _, _, _, _, _, _, _, _, _, _, _, _, HFI.out, rfl⟩ | exact ⟨_, _, _, _, _, _, _, _, _, _, _, _, _, _, _, _, _, _, HFI.out, rfl⟩ | exact ⟨_, _, _, _, _, _, _, _, _, _, _, _, _, _, _, _, _, _, _, HFI.out, rfl⟩ | exact ⟨_, _, _, _, _, _, _, _, _, _, _, _, _, _, _, _, _, _, _, _, HFI.out, rfl⟩ | exact ⟨_, _, _, _, _, _, _, _, _, _, _, _, _, _, _, _, _, _, _, _, _, HFI.out, rfl⟩ | exact ⟨_, _, _, _, _, _, _, _, _, _, _, _, _, _, _, _, _, _, _, _, _, _, HFI.out, rfl⟩ | exact ⟨_, _, _, _, _, _, _, _, _, _, _, _, _, _, _, _, _, _, _, _, _, _, _, HFI.out, rfl⟩ | exact ⟨_, _, _, _, _, _, _, _, _, _, _, _, _, _, _, _, _, _, _, _, _, _, _, _, HFI.out, rfl⟩ | exact ⟨_, _, _, _, _, _, _, _, _, _, _, _, _, _, _, _, _, _, _, _, _, _, _, _, _, HFI.out, rfl⟩ | exact ⟨_, _, _, _, _, _, _, _, _, _, _, _, _, _, _, _, _, _, _, _, _, _, _, _, _, _, HFI.out, rfl⟩ | exact ⟨_, _, _, _, _, _, _, _, _, _, _, _, _, _, _, _, _, _, _, _, _, _, _, _, _, _, _, HFI.out, rfl⟩ | exact ⟨_, _, _, _, _, _, _, _, _, _, _, _, _, _, _, _, _, _, _, _, _, _, _, _, _, _, _, _, HFI.out, rfl⟩ | exact ⟨_, _, _, _, _, _, _, _, _, _, _, _, _, _, _, _, _, _, _, _, _, _, _, _, _, _, _, _, _, HFI.out, rfl⟩
        case measure => exact HME.out
       ·have hfi := FI.skip (by omega) (by omega) HRMA.out HFMA.out HBA.out hrm6 hlt6 hg6 (fun h => h.2 (hL2.1 rfl))
        have HFI := Lib.hid hfi
        clear hfi hrm6 hlt6 hRx hSx HLT6 HRX HSX HRMA HFMA HBA hrmA hg6 hs6 b6 f26 hL2
        go_wp2
        go_roundw
        case rel => first | exact HFI.out.1 | exact ⟨_, _, _, _, _, _, HFI.out.1, rfl⟩ | exact ⟨_, _, _, _, _, _, _, HFI.out.1, rfl⟩ | exact ⟨_, _, _, _, _, _, _, _, HFI.out.1, rfl⟩ | exact ⟨_, _, _, _, _, _, _, _, _, HFI.out.1, rfl⟩ | exact ⟨_, _, _, _, _, _, _, _, _, _, HFI.out.1, rfl⟩ | exact ⟨_, _, _, _, _, _, _, _, _, _, _, HFI.out.1, rfl⟩ | exact ⟨_, _, _, _, _, _, _, _, _, _, _, _, HFI.out.1, rfl⟩ | exact ⟨_, _, _, _, _, _, _, _, _, _, _, _, _, HFI.out.1, rfl⟩ | exact ⟨_, _, _, _, _, _, _, _, _, _, _, _, _, _, HFI.out.1, rfl⟩ | exact ⟨_, _, _, _, _, _, _, _, _, _, _, _, _, _, _, HFI.out.1, rfl⟩ | exact ⟨_, _, _, _, _, _, _, _, _, _, _, _, _, _, _, _, HFI.out.1, rfl⟩ | exact ⟨_, _, _, _, _, _, _, _, _, _, _, _, _, _, _, _, _, HFI.out.1, rfl⟩ | exact ⟨_, _, _, _, _, _, _, _, _, _, _, _, _, _, _, _, _, _, HFI.out.1, rfl⟩ | exact ⟨_, _, _, _, _, _, _, _, _, _, _, _, _, _, _, _, _, _, _, HFI.out.1, rfl⟩ | exact ⟨_, _, _, _, _, _, _, _, _, _, _, _, _, _, _, _, _, _, _, _, HFI.out.1, rfl⟩ | exact ⟨_, _, _, _, _, _, _, _, _, _, _, _, _, _, _, _, _, _, _, _, _, HFI.out.1, rfl⟩ | exact ⟨_, _, _, _, _, _, _, _, _, _, _, _, _, _, _, _, _, _, _, _, _, _, HFI.out.1, rfl⟩ | exact ⟨_, _, _, _, _, _, _, _, _, _, _, _, _, _, _, _, _, _, _, _, _, _, _, HFI.out.1, rfl⟩ | exact ⟨_, _, _, _, _, _, _, _, _, _, _, _, _, _, _, _, _, _, _, _, _, _, _, _, HFI.out.1, rfl⟩ | exact ⟨_, _, _, _, _, _, _, _, _, _, _, _, _, _, _, _, _, _, _, _, _, _, _, _, _, HFI.out.1, rfl⟩ | exact ⟨_, _, _, _, _, _, _, _, _, _, _, _, _, _, _, _, _, _, _, _, _, _, _, _, _, _, HFI.out.1, rfl⟩ | exact ⟨_, _, _, _, _, _, _, _, _, _, _, _, _, _, _, _, _, _, _, _, _, _, _, _, _, _, _, HFI.out.1, rfl⟩ | exact ⟨_, _, _, _, _, _, _, _, _, _, _, _, _, _, _, _, _, _, _, _, _, _, _, _, _, _, _, _, HFI.out.1, rfl⟩ | exact ⟨_, _, _, _, _, _, _, _, _, _, _, _, _, _, _, _, _, _, _, _, _, _, _, _, _, _, _, _, _, HFI.out.1, rfl⟩
        case measure => exact HFI.out.2
    ·have HE := Lib.hid (S4.out rfl)
     clear S0 S1 S2 S3 S4 S5 S6 P9 z0 z1
     have HF1 := Lib.hid (show FM wo b1 A from HFA.out)
     have HF2 := Lib.hid (show FM wo b2 C from HFC.out)
     go_wp2_with (at_range; refine wp_range_fam' _ rfl _ rfl b1 (wo.heap.size + 2) hr1 A rfl f1 ?_; intro w5 cnt5 hrm5 hg5 hs5)
     try go_frame
     have HST : Hid (JOut wo b1 (wo.heap.size + 2) (wo.heap.size + 1) A C w5) := ⟨A, cnt5, hrm5, (hm.grown hg5 (by simp)).congr (fun y => ⟨fun h => h.elim, fun ⟨a, c, h1, h2, _⟩ => h2 h1⟩), hb4.trans (grown_none hg5 (by omega))⟩
     clear hrm5 hg5 hs5 hm hb4 hr1 f1
     go_loopw [16] (fun _ wq => JOut wo b1 (wo.heap.size + 2) (wo.heap.size + 1) A C wq) (fun _ wq => wq.rangeLeft b1 (wo.heap.size + 2))
     case atStart => exact HST.out
     case round =>
      obtain ⟨wa, hwa⟩ : ∃ wa, wa = wr := ⟨_, rfl⟩
      subst hwa
      obtain ⟨R, cnt, hrm, hfm, hb⟩ := hrel
      have HRM := Lib.hid hrm
      have HFM := Lib.hid hfm
      have HB := Lib.hid hb
      clear HST hfm hb
      go_wp2_with (at_next; refine wp_next_fam _ rfl _ rfl b1 (wo.heap.size + 2) A R cnt rfl hrm ?_ ?_)
      ·intro hall
       have HD : Hid (FDone wo G (.map (some (wo.heap.size + 1))) wa) := ⟨_, rfl, HFM.out.congr (fun y => ⟨fun ⟨a, c, h1, _, h3, h4⟩ => (HE.out y).1 ⟨a, c, h1, h3, h4⟩, fun h => by obtain ⟨a, c, h1, h3, h4⟩ := (HE.out y).2 h; exact ⟨a, c, h1, hall a, h3, h4⟩⟩), by omega, HB.out⟩
       clear hall HRM HFM HB hrm
       go_wp2_with fail
       go_meet
       case rel => exact HD.out
      ·intro x w6 cnt6 hRx hSx hxo hrm6 hlt6 hg6 hs6 hen
       have b6 := HB.out.trans (grown_below hg6 (by omega) HB.out.size)
       have f26 := HF2.out.below b6
       have hx64 := hA x hSx
       have hfm6 := HFM.out.grown hg6 (by simp)
       have HLT : Hid (cnt6 < wa.rangeLeft b1 (wo.heap.size + 2)) := by rw [HRM.out.left_eq]; exact hlt6
       have hz6 := b6.size
       have hl6 := hrm6.lt
       obtain ⟨r2, hr2⟩ : ∃ r2, w6.heap.size = r2 := ⟨_, rfl⟩
       have HRM6 := Lib.hid hrm6
       have HFM6 := Lib.hid hfm6
       have HB6 := Lib.hid b6
       have HRX := Lib.hid hRx
       have HSX := Lib.hid hSx
       clear hrm6 hlt6 hg6 hs6 hfm6 b6 HRM HFM HB hrm hRx hSx
       go_wp2_with (at_range; refine wp_range_fam' _ rfl _ rfl b2 r2 hr2 C rfl f26 ?_; intro w7 cnt7 hrm7 hg7 hs7)
       try go_frame
       have HIN : Hid (JIn wo b1 b2 (wo.heap.size + 2) r2 (wo.heap.size + 1) x A C (fun y => R y /\ y ≠ x) cnt6 w7) := ⟨C, cnt7, hrm7, HRM6.out.grown hg7 (by simp) (by simp), (HFM6.out.grown hg7 (by simp)).congr (fun y => by
        constructor
        ·rintro ⟨a, c, h1, h2, h3, h4⟩
         exact .inl ⟨a, c, h1, ⟨fun k => h2 k.1, fun e => h2 (e ▸ HRX.out)⟩, h3, h4⟩
        ·rintro (⟨a, c, h1, ⟨h2, h2'⟩, h3, h4⟩ | ⟨c, h1, h2, _⟩)
         ·exact ⟨a, c, h1, fun k => h2 ⟨k, h2'⟩, h3, h4⟩
         ·exact (h2 h1).elim), HB6.out.trans (grown_none hg7 hz6)⟩
       clear hrm7 hg7 hs7 f26 HRM6 HFM6 HB6
       go_loopw [17] (fun _ wq => JIn wo b1 b2 (wo.heap.size + 2) r2 (wo.heap.size + 1) x A C (fun y => R y /\ y ≠ x) cnt6 wq) (fun _ wq => wq.rangeLeft b2 r2)
       case atStart => exact HIN.out
       case round =>
        obtain ⟨R2, cnt2, hrm2, hrm1, hfm1, hb1⟩ := hrel
        have HRM1 := Lib.hid hrm1
        have HFM1 := Lib.hid hfm1
        have HB1 := Lib.hid hb1
        have HRM2 := Lib.hid hrm2
        clear HIN hrm1 hfm1 hb1
        go_wp2_with (at_next; refine wp_next_fam _ rfl _ rfl b2 r2 C R2 cnt2 rfl hrm2 ?_ ?_)
        ·intro hall
         have HREL : Hid (JOut wo b1 (wo.heap.size + 2) (wo.heap.size + 1) A C wr) := ⟨_, _, HRM1.out, HFM1.out.congr (fun y => by
          constructor
          ·rintro (⟨a, c, h1, ⟨h2, h2'⟩, h3, h4⟩ | ⟨c, h1, h2, h4⟩)
           ·exact ⟨a, c, h1, h2, h3, h4⟩
           ·exact ⟨x, c, HSX.out, fun k => k.2 rfl, h1, h4⟩
          ·rintro ⟨a, c, h1, h2, h3, h4⟩
           by_cases e : a = x
           ·subst e; exact .inr ⟨c, h3, hall c, h4⟩
           ·exact .inl ⟨a, c, h1, ⟨h2, e⟩, h3, h4⟩), HB1.out⟩
         have HM : Hid (wr.rangeLeft b1 (wo.heap.size + 2) < wa.rangeLeft b1 (wo.heap.size + 2)) := by rw [HRM1.out.left_eq]; exact HLT.out
         clear hall hrm2 HRM1 HFM1 HB1 HRM2
         go_wp2
         go_roundw
         case rel => first | exact HREL.out | exact ⟨_, _, _, _, _, _, HREL.out, rfl⟩ | exact ⟨_, _, _, _, _, _, _, HREL.out, rfl⟩ | exact ⟨_, _, _, _, _, _, _, _, HREL.out, rfl⟩ | exact ⟨_, _, _, _, _, _, _, _, _, HREL.out, rfl⟩ | exact ⟨_, _, _, _, _, _, _, _, _, _, HREL.out, rfl⟩ | exact ⟨_, _, _, _, _, _, _, _, _, _, _, HREL.out, rfl⟩ | exact ⟨_, _, _, _, _, _, _, _, _, _, _, _, HREL.out, rfl⟩ | exact ⟨_, _, _, _, _, _, _, _, _, _, _, _, _, HREL.out, rfl⟩ | exact ⟨_, _, _, _, _, _, _, _, _, _, _, _, _, _, HREL.out, rfl⟩ | exact ⟨_, _, _, _, _, _, _, _, _, _, _, _, _, _, _, HREL.out, rfl⟩ | exact ⟨_, _, _, _, _, _, _, _, _, _, _, _, _, _, _, _, HREL.out, rfl⟩ | exact ⟨_, _, _, _, _, _, _, _, _, _, _, _, _, _, _, _, _, HREL.out, rfl⟩ | exact ⟨_, _, _, _, _, _, _, _, _, _, _, _, _, _, _, _, _, _, HREL.out, rfl⟩ | exact ⟨_, _, _, _, _, _, _, _, _, _, _, _, _, _, _, _, _, _, _, HREL.out, rfl⟩ | exact ⟨_, _, _, _, _, _, _, _, _, _, _, _, _, _, _, _, _, _, _, _, HREL.out, rfl⟩ | exact ⟨_, _, _, _, _, _, _, _, _, _, _, _, _, _, _, _, _, _, _, _, _, HREL.out, rfl⟩ | exact ⟨_, _, _, _, _, _, _, _, _, _, _, _, _, _, _, _, _, _, _, _, _, _, HREL.out, rfl⟩ | exact ⟨_, _, _, _, _, _, _, _, _, _, _, _, _, _, _, _, _, _, _, _, _, _, _, HREL.out, rfl⟩ | exact ⟨_, _, _, _, _, _, _, _, _, _, _, _, _, _, _, _, _, _, _, _, _, _, _, _, HREL.out, rfl⟩ | exact ⟨_, _, _, _, _, _, _, _, _, _, _, _, _, _, _, _, _, _, _, _, _, _, _, _, _, HREL.out, rfl⟩ | exact ⟨_, _, _, _, _, _, _, _, _, _, _, _, _, _, _, _, _, _, _, _, _, _, _, _, _, _, HREL.out, rfl⟩ | exact ⟨_, _, _, _, _, _, _, _, _, _, _, _, _, _, _, _, _, _, _, _, _, _, _, _, _, _, _, HREL.out, rfl⟩ | exact ⟨_, _, _, _, _, _, _, _, _, _, _, _, _, _, _, _, _, _, _, _, _, _, _, _, _, _, _, _, HREL.out, rfl⟩ | exact ⟨_, _, _, _, _, _, _, _, _, _, _, _, _, _, _, _, _, _, _, _, _, _, _, _, _, _, _, _, _, HREL.out, rfl⟩
         case measure => exact HM.out
        ·intro y w8 cnt8 hRy hSy hyo hrm8 hlt8 hg8 hs8 hen
         have hy64 := hC y hSy
         have hxy := or_small hx64 hy64
         have hor := or_u64 hx64 hy64
         have b8 := HB1.out.trans (grown_below hg8 (by omega) HB1.out.size)
         have hfm8 := HFM1.out.grown hg8 (by simp; omega)
         have hrm18 := HRM1.out.grown hg8 (by simp; omega) (by simp; omega)
         obtain ⟨w9, hput, hf9, hg9⟩ := hfm8.put (fun z hz => by
          rcases hz with ⟨a, c, h1, h2, h3, rfl⟩ | ⟨c, h1, h2, rfl⟩
          ·have := or_small (hA a h1) (hC c h3); omega
          ·have := or_small hx64 (hC c h1); omega) (x := x ||| y) (by unfold UOk; omega)
         have HIN2 : Hid (JIn wo b1 b2 (wo.heap.size + 2) r2 (wo.heap.size + 1) x A C (fun y => R y /\ y ≠ x) cnt6 w9) := ⟨_, _, hrm8.grown hg9 (by simp; omega) (by simp; omega), hrm18.grown hg9 (by simp; omega) (by simp), hf9.congr (fun z => by
          constructor
          ·rintro ((h | ⟨c, h1, h2, h3⟩) | rfl)
           ·exact .inl h
           ·exact .inr ⟨c, h1, fun k => h2 k.1, h3⟩
           ·exact .inr ⟨y, hSy, fun k => k.2 rfl, rfl⟩
          ·rintro (h | ⟨c, h1, h2, h3⟩)
           ·exact .inl (.inl h)
           ·by_cases e : c = y
            ·subst e; exact .inr h3
            ·exact .inl (.inr ⟨c, h1, fun k => h2 ⟨k, e⟩, h3⟩)), b8.trans (grown_below hg9 (by omega) b8.size)⟩
         have HME : Hid (w9.rangeLeft b2 r2 < wr.rangeLeft b2 r2) := by
          rw [HRM2.out.left_eq, (hrm8.grown hg9 (by simp; omega) (by simp; omega) : RM w9 b2 r2 C _ cnt8).left_eq]; exact hlt8
         clear hRy hSy hrm8 hlt8 hg8 hs8 hfm8 hrm18 hf9 hg9 b8 HRM1 HFM1 HB1 HRM2 hrm2
         go_wp2
         go_roundw
         case rel => first | exact HIN2.out | exact ⟨_, _, _, _, _, _, HIN2.out, rfl⟩ | exact ⟨_, _, _, _, _, _, _, HIN2.out, rfl⟩ | exact ⟨_, _, _, _, _, _, _, _, HIN2.out, rfl⟩ | exact ⟨_, _, _, _, _, _, _, _, _, HIN2.out, rfl⟩ | exact ⟨_, _, _, _, _, _, _, _, _, _, HIN2.out, rfl⟩ | exact ⟨_, _, _, _, _, _, _, _, _, _, _, HIN2.out, rfl⟩ | exact ⟨_, _, _, _, _, _, _, _, _, _, _, _, HIN2.out, rfl⟩ | exact ⟨_, _, _, _, _, _, _, _, _, _, _, _, _, HIN2.out, rfl⟩ | exact ⟨_, _, _, _, _, _, _, _, _, _, _, _, _, _, HIN2.out, rfl⟩ | exact ⟨_, _, _, _, _, _, _, _, _, _, _, _, _, _, _, HIN2.out, rfl⟩ | exact ⟨_, _, _, _, _, _, _, _, _, _, _, _, _, _, _, _, HIN2.out, rfl⟩ | exact ⟨_, _, _, _, _, _, _, _, _, _, _, _, _, _, _, _, _, HIN2.out, rfl⟩ | exact ⟨_, _, _, _, _, _, _, _, _, _, _, _, _, _, _, _, _, _, HIN2.out, rfl⟩ | exact ⟨_, _, _, _, _, _, _, _, _, _, _, _, _, _, _, _, _, _, _, HIN2.out, rfl⟩ | exact ⟨_, _, _, _, _, _, _, _, _, _, _, _, _, _, _, _, _, _, _, _, HIN2.out, rfl⟩ | exact ⟨_, _, _, _, _, _, _, _, _, _, _, _, _, _, _, _, _, _, _, _, _, HIN2.out, rfl⟩ | exact ⟨_, _, _, _, _, _, _, _, _, _, _, _, _, _, _, _, _, _, _, _, _, _, HIN2.out, rfl⟩ | exact ⟨_, _, _, _, _, _, _, _, _, _, _, _, _, _, _, _, _, _, _, _, _, _, _, HIN2.out, rfl⟩ | exact ⟨_, _, _, _, _, _, _, _, _, _, _, _, _, _, _, _, _, _, _, _, _, _, _, _, HIN2.out, rfl⟩ | exact ⟨_, _, _, _, _, _, _, _, _, _, _, _, _, _, _, _, _, _, _, _, _, _, _, _, _, HIN2.out, rfl⟩ | exact ⟨_, _, _, _, _, _, _, _, _, _, _, _, _, _, _, _, _, _, _, _, _, _, _, _, _, _, HIN2.out, rfl⟩ | exact ⟨_, _, _, _, _, _, _, _, _, _, _, _, _, _, _, _, _, _, _, _, _, _, _, _, _, _, _, HIN2.out, rfl⟩ | exact ⟨_, _, _, _, _, _, _, _, _, _, _, _, _, _, _, _, _, _, _, _, _, _, _, _, _, _, _, _, HIN2.out, rfl⟩ | exact ⟨_, _, _, _, _, _, _, _, _, _, _, _, _, _, _, _, _, _, _, _, _, _, _, _, _, _, _, _, _, HIN2.out, rfl⟩
         case measure => exact HME.out
    ·have HE := Lib.hid (S5.out rfl)
     clear S0 S1 S2 S3 S4 S5 S6 P9 z0 z1
     have HF1 := Lib.hid (show FM wo b1 A from HFA.out)
     have HF2 := Lib.hid (show FM wo b2 C from HFC.out)
     go_wp2_with (at_range; refine wp_range_fam' _ rfl _ rfl b1 (wo.heap.size + 2) hr1 A rfl f1 ?_; intro w5 cnt5 hrm5 hg5 hs5)
     try go_frame
     have HST : Hid (WOut wo b1 (wo.heap.size + 2) (wo.heap.size + 1) A C w5) := ⟨A, cnt5, hrm5, (hm.grown hg5 (by simp)).congr (fun y => ⟨fun h => h.elim, fun h => h.2 h.1.1⟩), hb4.trans (grown_none hg5 (by omega))⟩
     clear hrm5 hg5 hs5 hm hb4 hr1 f1
     go_loopw [18] (fun _ wq => WOut wo b1 (wo.heap.size + 2) (wo.heap.size + 1) A C wq) (fun _ wq => wq.rangeLeft b1 (wo.heap.size + 2))
     case atStart => exact HST.out
     case round =>
      obtain ⟨wa, hwa⟩ : ∃ wa, wa = wr := ⟨_, rfl⟩
      subst hwa
      obtain ⟨R, cnt, hrm, hfm, hb⟩ := hrel
      have HRM := Lib.hid hrm
      have HFM := Lib.hid hfm
      have HB := Lib.hid hb
      clear HST hfm hb
      go_wp2_with (at_next; refine wp_next_fam _ rfl _ rfl b1 (wo.heap.size + 2) A R cnt rfl hrm ?_ ?_)
      ·intro hall
       have HD : Hid (FDone wo G (.map (some (wo.heap.size + 1))) wa) := ⟨_, rfl, HFM.out.congr (fun y => ⟨fun h => (HE.out y).1 h.1, fun h => ⟨(HE.out y).2 h, hall y⟩⟩), by omega, HB.out⟩
       clear hall HRM HFM HB hrm
       go_wp2_with fail
       go_meet
       case rel => exact HD.out
      ·intro x w6 cnt6 hRx hSx hxo hrm6 hlt6 hg6 hs6 hen
       have b6 := HB.out.trans (grown_below hg6 (by omega) HB.out.size)
       have f26 := HF2.out.below b6
       have hx64 := hA x hSx
       have hfm6 := HFM.out.grown hg6 (by simp)
       have HLT : Hid (cnt6 < wa.rangeLeft b1 (wo.heap.size + 2)) := by rw [HRM.out.left_eq]; exact hlt6
       have hz6 := b6.size
       have hl6 := hrm6.lt
       obtain ⟨r2, hr2⟩ : ∃ r2, w6.heap.size = r2 := ⟨_, rfl⟩
       have HRM6 := Lib.hid hrm6
       have HFM6 := Lib.hid hfm6
       have HB6 := Lib.hid b6
       have HRX := Lib.hid hRx
       have HSX := Lib.hid hSx
       clear hrm6 hlt6 hg6 hs6 hfm6 b6 HRM HFM HB hrm hRx hSx
       go_wp2_with (at_range; refine wp_range_fam' _ rfl _ rfl b2 r2 hr2 C rfl f26 ?_; intro w7 cnt7 hrm7 hg7 hs7)
       try go_frame
       have HIN : Hid (WIn wo b1 b2 (wo.heap.size + 2) r2 (wo.heap.size + 1) x A C (fun y => R y /\ y ≠ x) cnt6 (.bool true) w7) := ⟨true, C, cnt7, rfl, hrm7, ⟨fun _ y h1 h2 => (h2 h1).elim, fun _ => rfl⟩, HRM6.out.grown hg7 (by simp) (by simp), (HFM6.out.grown hg7 (by simp)).congr (fun y => by
        constructor
        ·rintro ⟨h1, h2⟩
         exact ⟨h1, fun k => h2 k.1, fun e => h2 (e ▸ HRX.out)⟩
        ·rintro ⟨h1, h2, h3⟩
         exact ⟨h1, fun k => h2 ⟨k, h3⟩⟩), HB6.out.trans (grown_none hg7 hz6)⟩
       clear hrm7 hg7 hs7 f26 HRM6 HFM6 HB6
       go_loopw [19, 20] (fun v _ wq => WIn wo b1 b2 (wo.heap.size + 2) r2 (wo.heap.size + 1) x A C (fun y => R y /\ y ≠ x) cnt6 v wq) (fun _ _ wq => wq.rangeLeft b2 r2)
       case atStart => exact HIN.out
       case round =>
        obtain ⟨L, R2, cnt2, rfl, hrm2, hL, hrm1, hfm1, hb1⟩ := hrel
        have HRM1 := Lib.hid hrm1
        have HFM1 := Lib.hid hfm1
        have HB1 := Lib.hid hb1
        have HRM2 := Lib.hid hrm2
        have HL := Lib.hid hL
        clear HIN hrm1 hfm1 hb1 hL
        go_wp2_with (at_next; refine wp_next_fam _ rfl _ rfl b2 r2 C R2 cnt2 rfl hrm2 ?_ ?_)
        ·intro hall
         have HL2 : Hid (L = true ↔ (A x /\ ∀ z, C z -> ¬ Sub z x)) := HL.out.trans ⟨fun h => ⟨HSX.out, fun z hz => h z hz (hall z)⟩, fun h z hz _ => h.2 z hz⟩
         clear hall hrm2 HL HRM2
         cases L with
         | false =>
          have HM : Hid (wr.rangeLeft b1 (wo.heap.size + 2) < wa.rangeLeft b1 (wo.heap.size + 2)) := by rw [HRM1.out.left_eq]; exact HLT.out
          have HREL : Hid (WOut wo b1 (wo.heap.size + 2) (wo.heap.size + 1) A C wr) := ⟨_, _, HRM1.out, HFM1.out.congr (fun y => ⟨fun h => ⟨h.1, h.2.1⟩, fun h => ⟨h.1, h.2, fun e => by subst e; exact absurd (HL2.out.2 h.1) (by decide)⟩⟩), HB1.out⟩
          clear HRM1 HFM1 HB1 HL2
          go_wp2
          go_roundw
          case rel => first | exact HREL.out | exact ⟨_, _, _, _, _, _, HREL.out, rfl⟩ | exact ⟨_, _, _, _, _, _, _, HREL.out, rfl⟩ | exact ⟨_, _, _, _, _, _, _, _, HREL.out, rfl⟩ | exact ⟨_, _, _, _, _, _, _, _, _, HREL.out, rfl⟩ | exact ⟨_, _, _, _, _, _, _, _, _, _, HREL.out, rfl⟩ | exact ⟨_, _, _, _, _, _, _, _, _, _, _, HREL.out, rfl⟩ | exact ⟨_, _, _, _, _, _, _, _, _, _, _, _, HREL.out, rfl⟩ | exact ⟨_, _, _, _, _, _, _, _, _, _, _, _, _, HREL.out, rfl⟩ | exact ⟨_, _, _, _, _, _, _, _, _, _, _, _, _, _, HREL.out, rfl⟩ | exact ⟨_, _, _, _, _, _, _, _, _, _, _, _, _, _, _, HREL.out, rfl⟩ | exact ⟨_, _, _, _, _, _, _, _, _, _, _, _, _, _, _, _, HREL.out, rfl⟩ | exact ⟨_, _, _, _, _, _, _, _, _, _, _, _, _, _, _, _, _, HREL.out, rfl⟩ | exact ⟨_, _, _, _, _, _, _, _, _, _, _, _, _, _, _, _, _, _, HREL.out, rfl⟩ | exact ⟨_, _, _, _, _, _, _, _, _, _, _, _, _, _, _, _, _, _, _, HREL.out, rfl⟩ | exact ⟨_, _, _, _, _, _, _, _, _, _, _, _, _, _, _, _, _, _, _, _, HREL.out, rfl⟩ | exact ⟨_, _, _, _, _, _, _, _, _, _, _, _, _, _, _, _, _, _, _, _, _, HREL.out, rfl⟩ | exact ⟨_, _, _, _, _, _, _, _, _, _, _, _, _, _, _, _, _, _, _, _, _, _, HREL.out, rfl⟩ | exact ⟨_, _, _, _, _, _, _, _, _, _, _, _, _, _, _, _, _, _, _, _, _, _, _, HREL.out, rfl⟩ | exact ⟨_, _, _, _, _, _, _, _, _, _, _, _, _, _, _, _, _, _, _, _, _, _, _, _, HREL.out, rfl⟩ | exact ⟨_, _, _, _, _, _, _, _, _, _, _, _, _, _, _, _, _, _, _, _, _, _, _, _, _, HREL.out, rfl⟩ | exact ⟨_, _, _, _, _, _, _, _, _, _, _, _, _, _, _, _, _, _, _, _, _, _, _, _, _, _, HREL.out, rfl⟩ | exact ⟨_, _, _, _, _, _, _, _, _, _, _, _, _, _, _, _, _, _, _, _, _, _, _, _, _, _, _, HREL.out, rfl⟩ | exact ⟨_, _, _, _, _, _, _, _, _, _, _, _, _, _, _, _, _, _, _, _, _, _, _, _, _, _, _, _, HREL.out, rfl⟩ | exact ⟨_, _, _, _, _, _, _, _, _, _, _, _, _, _, _, _, _, _, _, _, _, _, _, _, _, _, _, _, _, HREL.out, rfl⟩
          case measure => exact HM.out
         | true =>
          obtain ⟨w8, hput, hfm8, hg8⟩ := HFM1.out.put (fun y hy => by have := hA y hy.1.1; omega) (x := x) (show UOk x by unfold UOk; omega)
          have hrm8 := HRM1.out.grown hg8 (by simp; omega) (by simp)
          have HM : Hid (w8.rangeLeft b1 (wo.heap.size + 2) < wa.rangeLeft b1 (wo.heap.size + 2)) := by rw [hrm8.left_eq]; exact HLT.out
          have HREL : Hid (WOut wo b1 (wo.heap.size + 2) (wo.heap.size + 1) A C w8) := ⟨_, _, hrm8, hfm8.congr (fun y => by
           constructor
           ·rintro (h | rfl)
            ·exact ⟨h.1, h.2.1⟩
            ·exact ⟨HL2.out.1 rfl, fun k => k.2 rfl⟩
           ·intro h
            by_cases e : y = x
            ·exact .inr e
            ·exact .inl ⟨h.1, h.2, e⟩), HB1.out.trans (grown_below hg8 (by omega) HB1.out.size)⟩
          clear HRM1 HFM1 HB1 HL2 hfm8 hg8 hrm8
          go_wp2
          go_roundw
          case rel => first | exact HREL.out | exact ⟨_, _, _, _, _, _, HREL.out, rfl⟩ | exact ⟨_, _, _, _, _, _, _, HREL.out, rfl⟩ | exact ⟨_, _, _, _, _, _, _, _, HREL.out, rfl⟩ | exact ⟨_, _, _, _, _, _, _, _, _, HREL.out, rfl⟩ | exact ⟨_, _, _, _, _, _, _, _, _, _, HREL.out, rfl⟩ | exact ⟨_, _, _, _, _, _, _, _, _, _, _, HREL.out, rfl⟩ | exact ⟨_, _, _, _, _, _, _, _, _, _, _, _, HREL.out, rfl⟩ | exact ⟨_, _, _, _, _, _, _, _, _, _, _, _, _, HREL.out, rfl⟩ | exact ⟨_, _, _, _, _, _, _, _, _, _, _, _, _, _, HREL.out, rfl⟩ | exact ⟨_, _, _, _, _, _, _, _, _, _, _, _, _, _, _, HREL.out, rfl⟩ | exact ⟨_, _, _, _, _, _, _, _, _, _, _, _, _, _, _, _, HREL.out, rfl⟩ | exact ⟨_, _, _, _, _, _, _, _, _, _, _, _, _, _, _, _, _, HREL.out, rfl⟩ | exact ⟨_, _, _, _, _, _, _, _, _, _, _, _, _, _, _, _, _, _, HREL.out, rfl⟩ | exact ⟨_, _, _, _, _, _, _, _, _, _, _, _, _, _, _, _, _, _, _, HREL.out, rfl⟩ | exact ⟨_, _, _, _, _, _, _, _, _, _, _, _, _, _, _, _, _, _, _, _, HREL.out, rfl⟩ | exact ⟨_, _, _, _, _, _, _, _, _, _, _, _, _, _, _, _, _, _, _, _, _, HREL.out, rfl⟩ | exact ⟨_, _, _, _, _, _, _, _, _, _, _, _, _, _, _, _, _, _, _, _, _, _, HREL.out, rfl⟩ | exact ⟨_, _, _, _, _, _, _, _, _, _, _, _, _, _, _, _, _, _, _, _, _, _, _, HREL.out, rfl⟩ | exact ⟨_, _, _, _, _, _, _, _, _, _, _, _, _, _, _, _, _, _, _, _, _, _, _, _, HREL.out, rfl⟩ | exact ⟨_, _, _, _, _, _, _, _, _, _, _, _, _, _, _, _, _, _, _, _, _, _, _, _, _, HREL.out, rfl⟩ | exact ⟨_, _, _, _, _, _, _, _, _, _, _, _, _, _, _, _, _, _, _, _, _, _, _, _, _, _, HREL.out, rfl⟩ | exact ⟨_, _, _, _, _, _, _, _, _, _, _, _, _, _, _, _, _, _, _, _, _, _, _, _, _, _, _, HREL.out, rfl⟩ | exact ⟨_, _, _, _, _, _, _, _, _, _, _, _, _, _, _, _, _, _, _, _, _, _, _, _, _, _, _, _, HREL.out, rfl⟩ | exact ⟨_, _, _, _, _, _, _, _, _, _, _, _, _, _, _, _, _, _, _, _, _, _, _, _, _, _, _, _, _, HREL.out, rfl⟩
          case measure => exact HM.out
        ·intro y w8 cnt8 hRy hSy hyo hrm8 hlt8 hg8 hs8 hen
         have hy64 := hC y hSy
         have b8 := HB1.out.trans (grown_below hg8 (by omega) HB1.out.size)
         have hfm8 := HFM1.out.grown hg8 (by simp; omega)
         have hrm18 := HRM1.out.grown hg8 (by simp; omega) (by simp; omega)
         have HLT8 : Hid (w8.rangeLeft b2 r2 < wr.rangeLeft b2 r2) := by rw [HRM2.out.left_eq, hrm8.left_eq]; exact hlt8
         have HFIN : Hid (∀ B : Bool, (B = true ↔ ¬ Sub y x) -> WIn wo b1 b2 (wo.heap.size + 2) r2 (wo.heap.size + 1) x A C (fun y => R y /\ y ≠ x) cnt6 (.bool (L && B)) w8) := fun B hB => ⟨L && B, _, cnt8, rfl, hrm8, by
          rw [Bool.and_eq_true, HL.out, hB]
          constructor
          ·rintro ⟨h1, h2⟩ z hz hn
           by_cases e : z = y
           ·subst e; exact h2
           ·exact h1 z hz (fun h => hn ⟨h, e⟩)
          ·intro h
           exact ⟨fun z hz hn => h z hz (fun k => hn k.1), h y hSy (fun k => k.2 rfl)⟩, hrm18, hfm8, b8⟩
         have HP := Lib.hid (part_any y x w8)
         have hsb := subB_iff hy64 hx64
         clear hRy hSy hyo hrm8 hlt8 hg8 hs8 hrm18 hfm8 b8 HL HRM1 HFM1 HB1 HRM2 hrm2
         cases L with
         | false =>
          clear hsb HP
          obtain ⟨B, hB⟩ : ∃ B : Bool, B = true ↔ ¬ Sub y x := ⟨@decide _ (Classical.propDecidable _), @decide_eq_true_iff _ (Classical.propDecidable _)⟩
          have HF3 := Lib.hid (HFIN.out B hB)
          clear HFIN hB
          go_wp2
          go_roundw
          case rel => first | exact HF3.out | exact ⟨_, _, _, _, _, _, HF3.out, rfl⟩ | exact ⟨_, _, _, _, _, _, _, HF3.out, rfl⟩ | exact ⟨_, _, _, _, _, _, _, _, HF3.out, rfl⟩ | exact ⟨_, _, _, _, _, _, _, _, _, HF3.out, rfl⟩ | exact ⟨_, _, _, _, _, _, _, _, _, _, HF3.out, rfl⟩ | exact ⟨_, _, _, _, _, _, _, _, _, _, _, HF3.out, rfl⟩ | exact ⟨_, _, _, _, _, _, _, _, _, _, _, _, HF3.out, rfl⟩ | exact ⟨_, _, _, _, _, _, _, _, _, _, _, _, _, HF3.out, rfl⟩ | exact ⟨_, _, _, _, _, _, _, _, _, _, _, _, _, _, HF3.out, rfl⟩ | exact ⟨_, _, _, _, _, _, _, _, _, _, _, _, _, _, _, HF3.out, rfl⟩ | exact ⟨_, _, _, _, _, _, _, _, _, _, _, _, _, _, _, _, HF3.out, rfl⟩ | exact ⟨_, _, _, _, _, _, _, _, _, _, _, _, _, _, _, _, _, HF3.out, rfl⟩ | exact ⟨_, _, _, _, _, _, _, _, _, _, _, _, _, _, _, _, _, _, HF3.out, rfl⟩ | exact ⟨_, _, _, _, _, _, _, _, _, _, _, _, _, _, _, _, _, _, _, HF3.out, rfl⟩ | exact ⟨_, _, _, _, _, _, _, _, _, _, _, _, _, _, _, _, _, _, _, _, HF3.out, rfl⟩ | exact ⟨_, _, _, _, _, _, _, _, _, _, _, _, _, _, _, _, _, _, _, _, _, HF3.out, rfl⟩ | exact ⟨_, _, _, _, _, _, _, _, _, _, _, _, _, _, _, _, _, _, _, _, _, _, HF3.out, rfl⟩ | exact ⟨_, _, _, _, _, _, _, _, _, _, _, _, _, _, _, _, _, _, _, _, _, _, _, HF3.out, rfl⟩ | exact ⟨_, _, _, _, _, _, _, _, _, _, _, _, _, _, _, _, _, _, _, _, _, _, _, _, HF3.out, rfl⟩ | exact ⟨_, _, _, _, _, _, _, _, _, _, _, _, _, _, _, _, _, _, _, _, _, _, _, _, _, HF3.out, rfl⟩ | exact ⟨_, _, _, _, _, _, _, _, _, _, _, _, _, _, _, _, _, _, _, _, _, _, _, _, _, _, HF3.out, rfl⟩ | exact ⟨_, _, _, _, _, _, _, _, _, _, _, _, _, _, _, _, _, _, _, _, _, _, _, _, _, _, _, HF3.out, rfl⟩ | exact ⟨_, _, _, _, _, _, _, _, _, _, _, _, _, _, _, _, _, _, _, _, _, _, _, _, _, _, _, _, HF3.out, rfl⟩ | exact ⟨_, _, _, _, _, _, _, _, _, _, _, _, _, _, _, _, _, _, _, _, _, _, _, _, _, _, _, _, _, HF3.out, rfl⟩
          case measure => exact HLT8.out
         | true =>
          have HF3 := Lib.hid (HFIN.out (!subB y x) (by
           rw [Bool.not_eq_true', <- hsb, Bool.not_eq_true]))
          clear HFIN hsb
          generalize subB y x = B at *
          go_wp2_with fail
          refine HP.out.mono ?_
          rintro e' w9 ⟨rfl, rfl⟩
          go_wp2
          go_roundw
          case rel => first | exact HF3.out | exact ⟨_, _, _, _, _, _, HF3.out, rfl⟩ | exact ⟨_, _, _, _, _, _, _, HF3.out, rfl⟩ | exact ⟨_, _, _, _, _, _, _, _, HF3.out, rfl⟩ | exact ⟨_, _, _, _, _, _, _, _, _, HF3.out, rfl⟩ | exact ⟨_, _, _, _, _, _, _, _, _, _, HF3.out, rfl⟩ | exact ⟨_, _, _, _, _, _, _, _, _, _, _, HF3.out, rfl⟩ | exact ⟨_, _, _, _, _, _, _, _, _, _, _, _, HF3.out, rfl⟩ | exact ⟨_, _, _, _, _, _, _, _, _, _, _, _, _, HF3.out, rfl⟩ | exact ⟨_, _, _, _, _, _, _, _, _, _, _, _, _, _, HF3.out, rfl⟩ | exact ⟨_, _, _, _, _, _, _, _, _, _, _, _, _, _, _, HF3.out, rfl⟩ | exact ⟨_, _, _, _, _, _, _, _, _, _, _, _, _, _, _, _, HF3.out, rfl⟩ | exact ⟨_, _, _, _, _, _, _, _, _, _, _, _, _, _, _, _, _, HF3.out, rfl⟩ | exact ⟨_, _, _, _, _, _, _, _, _, _, _, _, _, _, _, _, _, _, HF3.out, rfl⟩ | exact ⟨_, _, _, _, _, _, _, _, _, _, _, _, _, _, _, _, _, _, _, HF3.out, rfl⟩ | exact ⟨_, _, _, _, _, _, _, _, _, _, _, _, _, _, _, _, _, _, _, _, HF3.out, rfl⟩ | exact ⟨_, _, _, _, _, _, _, _, _, _, _, _, _, _, _, _, _, _, _, _, _, HF3.out, rfl⟩ | exact ⟨_, _, _, _, _, _, _, _, _, _, _, _, _, _, _, _, _, _, _, _, _, _, HF3.out, rfl⟩ | exact ⟨_, _, _, _, _, _, _, _, _, _, _, _, _, _, _, _, _, _, _, _, _, _, _, HF3.out, rfl⟩ | exact ⟨_, _, _, _, _, _, _, _, _, _, _, _, _, _, _, _, _, _, _, _, _, _, _, _, HF3.out, rfl⟩ | exact ⟨_, _, _, _, _, _, _, _, _, _, _, _, _, _, _, _, _, _, _, _, _, _, _, _, _, HF3.out, rfl⟩ | exact ⟨_, _, _, _, _, _, _, _, _, _, _, _, _, _, _, _, _, _, _, _, _, _, _, _, _, _, HF3.out, rfl⟩ | exact ⟨_, _, _, _, _, _, _, _, _, _, _, _, _, _, _, _, _, _, _, _, _, _, _, _, _, _, _, HF3.out, rfl⟩ | exact ⟨_, _, _, _, _, _, _, _, _, _, _, _, _, _, _, _, _, _, _, _, _, _, _, _, _, _, _, _, HF3.out, rfl⟩ | exact ⟨_, _, _, _, _, _, _, _, _, _, _, _, _, _, _, _, _, _, _, _, _, _, _, _, _, _, _, _, _, HF3.out, rfl⟩
          case measure => exact HLT8.out
    ·have HE := Lib.hid (S6.out rfl)
     clear S0 S1 S2 S3 S4 S5 S6 P9 z0 z1
     have HCL := Lib.hid (rleast_any W4 b1 f1 hA)
     have HB4 := Lib.hid hb4
     clear f1 f2 hm hb4
     go_wp2_with fail
     refine HCL.out.mono ?_
     rintro e w5 ⟨g5, rfl, hf5, hg5, hb5⟩
     have HD : Hid (FDone wo G (.map (some g5)) w5) := ⟨_, rfl, hf5.congr (fun y => HE.out y), by have := HB4.out.size; omega, HB4.out.trans (hb5.mono (by omega))⟩
     clear hf5 hb5 HCL HB4
     go_wp2_with fail
     go_meet
     case rel => exact HD.out
   case rest =>
    obtain ⟨m, rfl, hfm, hmm2, hbm⟩ := hcut
    clear S0 S1 S2 S3 S4 S5 S6 P9 f1 f2 hm hb4 z0 z1
    have hF := HFS.out.new hbm
    obtain ⟨i0, hin, hz0, hz1, hz2⟩ := info_parts infoFam
    have hrow := hF.row
    have hBw := HBR.out.size
    have hBc : w.heap.size <= wc.heap.size := Nat.le_trans hBw hbm.size
    have HROW := Lib.hid hrow
    have HFM := Lib.hid hfm
    have HFN := Lib.hid hF
    have HBM := Lib.hid (HBR.out.trans (hbm.mono hBw))
    clear hF hrow hfm hbm HFS HBR
    go_wp2_with (at_builtin; refine wpList_append_own_at _ rfl _ _ 25 rfl w.heap.size 30 i0 (.map none) 1 8 Tryz.underlying25 hin hz0 hz1 hz2 rfl (by decide) _ _ _ rfl (HROW.out.alloc _) ⟨wc.heap.size, 0, none⟩ 1 1 [.map (some m)] rfl rfl ?c1 ?c2 ?c3 ?c4 ?c5 ?_)
    case c1 => exact cell_one_new _ _ _
    case c2 => intro u hu; simp at hu; subst hu; rfl
    case c3 => unfold maxLen; omega
    case c4 => omega
    case c5 => show w.heap.size <= (World.alloc _ _).heap.size; simp; omega
    intro v7 w7 hown7 hgrow7 _ hloc7
    have hb8 : Below w.heap.size wc w7 := ((Below.refl w.heap.size wc).alloc hBc _).grown hgrow7 (by simp; omega) (fun j hj => (HROW.out.lt j hj).1)
    have hA8 := HFN.out.new (below_new wc (.cells #[.map (some m)] 30))
    have hf8 := (HFM.out.below (below_new wc (.cells #[.map (some m)] 30)))
    have hrf := hA8.snoc hgrow7 hown7 hf8 (Nat.le_trans hBw hmm2)
    have HRF := Lib.hid hrf
    have HB8 := Lib.hid (HBM.out.trans hb8)
    clear hown7 hgrow7 hloc7 hb8 hA8 hf8 hrf HROW HFM HFN HBM
    go_wp2
    go_roundw
    case rel => exact ⟨k + 1, gs ++ [m], by omega, by go_num, by rw [HTK.out]; exact HRF.out, HB8.out⟩
    case measure => simp [intOf]; omega
  ·obtain rfl : k = xs.length := by omega
   rw [List.take_length] at hF
   go_wp2
   go_ret
   exact ⟨_, gs, rfl, hF, hbr⟩
end Go.Proofs.YtbklgjmkdhinpaaGreatDoor.Fm
