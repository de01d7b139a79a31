/- What is told of families that there are not: the law. -/
import Derived.Test.YtbklgjmkdhinpaaGreatDoorFmEEnds
import Derived.Deep.CutBlock
set_option maxHeartbeats 8000000
set_option maxRecDepth 100000
namespace Go.Proofs.YtbklgjmkdhinpaaGreatDoor.Fm
open Go.RowKit Go.Maps Go.Proofs.YtbklgjmkdhinpaaGreatDoor.Bd
theorem ferrs_bad (vars room h : Int) (x : Nat) (w : World) (hg : Glob w) (hb : vars < 0 \/ 24 < vars \/ room < 0 \/ 4000 < room) :
  Calls Tryz.prog 4 #[.int .i64 vars, .int .i64 room, .int .i64 h, .int .u64 (x : Int)] w fun e w' => e = .returned (.bool true) /\ Below w.heap.size w w' := by
 have HN := Lib.hid (fnew_no vars room hb w)
 have HB := Lib.hid (bare_it hg 2)
 rw [errV_n (by decide)] at HB
 have hc : Hid (vars < 0 \/ ((¬ vars < 0) /\ vars > 24) \/ ((¬ vars < 0) /\ (¬ vars > 24) /\ room < 0) \/ ((¬ vars < 0) /\ (¬ vars > 24) /\ (¬ room < 0) /\ room > 4000)) := by unfold Hid; omega
 clear hb hg
 go_enter Tryz.func4, Tryz.ntmps4
 go_wp2_with fail
 refine HN.out.mono ?_
 rintro e w1 ⟨rfl, rfl⟩
 clear HN
 go_upto_region 2 with fail
 go_cut [57] (fun v wx => v = .bool true /\ w = wx)
 case first =>
  clear HB
  rcases hc.out with c1 | ⟨c1, c2⟩ | ⟨c1, c2, c3⟩ | ⟨c1, c2, c3, c4⟩
  all_goals
   clear hc
   go_wp2_with fail
   go_meet
   exact ⟨rfl, rfl⟩
 case rest =>
 obtain ⟨rfl, rfl⟩ := hcut
 clear hc
 go_wp2_with fail
 refine HB.out.mono ?_
 rintro e w2 ⟨rfl, hb2⟩
 clear HB
 go_wp2
 go_ret
 exact ⟨rfl, hb2⟩
theorem ferrs_main (vars room : Nat) (h : Int) (hi : I64 h) (x : Nat) (hx64 : x < 2 ^ 64) (hv : vars <= 24) (hr : room <= 4000) (w : World) (hg : Glob w) :
  Calls Tryz.prog 4 #[.int .i64 (vars : Int), .int .i64 (room : Int), .int .i64 h, .int .u64 (x : Int)] w fun e w' => e = .returned (.bool true) /\ Below w.heap.size w w' := by
 have HN := Lib.hid (fnew_any vars room hv hr w w.heap.size (Nat.le_refl _))
 have HB : Hid (∀ (E : Int) W, Below w.heap.size w W -> Calls Tryz.prog 9 #[errV E, .int .i64 E] W fun e w' => e = .returned (.bool true) /\ Below W.heap.size W w') := fun E W hW => bare_it (hg.below hW) E
 have HI : Hid (∀ (E : Int) (bx : Nat) W, Below w.heap.size w W -> Calls Tryz.prog 22 #[errV E, .int .i64 E, .pointer (some ⟨bx, 0, none⟩)] W fun e w' => e = .returned (.bool true) /\ Below W.heap.size W w') := fun E bx W hW => is_yes (hg.below hW) E bx
 have HF : Hid (∀ (bx : Nat) W, Below w.heap.size w W -> W.cell? ⟨bx, 0, none⟩ = some (.bool false) -> bx < W.heap.size -> Calls Tryz.prog 22 #[.iface 42 (.int .i64 12), .int .i64 0, .pointer (some ⟨bx, 0, none⟩)] W fun e w' => e = .returned (.bool true) /\ Below W.heap.size W w') := fun bx W hW h1 h2 => is_full (hg.below hW) bx h1 h2
 have hent : ∀ args w, (callFunc 22 args).run Tryz.prog w = .ok (.enter 22 args) w := fun _ _ => by kernel_rfl
 have v1 : ¬ (vars : Int) < 0 := by omega
 have v2 : ¬ (vars : Int) > 24 := by omega
 have v3 : ¬ (room : Int) < 0 := by omega
 have v4 : ¬ (room : Int) > 4000 := by omega
 have HR := Lib.hid hr
 have HV := Lib.hid hv
 clear hg hr hv
 go_enter Tryz.func4, Tryz.ntmps4
 go_wp2_with fail
 refine HN.out.mono ?_
 rintro e w1 ⟨s, b, O, rfl, hF1, hs, hO, hb1⟩
 have F1 := Lib.hid hF1
 have HO := Lib.hid hO
 have HB1 := Lib.hid hb1
 clear HN hF1 hO hb1
 go_upto_region 7 with fail
 go_cut [75] (fun v wx => v = .bool (decide (h = 0 \/ h = 1)) /\ w1 = wx)
 case first =>
  clear HB HI HF F1 HO HB1 hent
  by_cases c0 : h = 0
  ·subst c0
   go_wp2_with fail
   go_meet
   exact ⟨rfl, rfl⟩
  ·have q0 : (h == 0) = false := by simpa using c0
   by_cases c1 : h = 1
   ·subst c1
    go_wp2_with fail
    go_meet
    exact ⟨rfl, rfl⟩
   ·have q1 : (h == 1) = false := by simpa using c1
    have q2 : decide (h = 0 \/ h = 1) = false := by simp [c0, c1]
    have Q2 := Lib.hid q2
    clear c0 c1 q2
    go_wp2_with fail
    go_meet
    exact ⟨by rw [Q2.out], rfl⟩
 case rest =>
 obtain ⟨rfl, rfl⟩ := hcut
 go_upto_if 75 with fail
 go_cut [11] (fun v wx => v = .int .i64 (eH h) /\ w1 = wx)
 case first =>
  clear HB HI HF F1 HO HB1 hent
  by_cases c0 : h = 0 \/ h = 1
  ·have C0 : Hid (eH h = 0) := if_pos c0
   rw [decide_eq_true c0]
   clear c0
   go_wp2_with fail
   go_meet
   exact ⟨by rw [C0.out], rfl⟩
  ·have C0 : Hid (eH h = 7) := if_neg c0
   rw [decide_eq_false c0]
   clear c0
   go_wp2_with fail
   go_meet
   exact ⟨by rw [C0.out], rfl⟩
 case rest =>
 obtain ⟨rfl, rfl⟩ := hcut
 have O1 : Hid (∀ W, Below w1.heap.size w1 W -> Calls Tryz.prog 15 #[.pointer (some ⟨s, 0, none⟩), .int .i64 h, .int .i64 h] W fun e w' => ∃ x, e = .returned (.tuple #[.int .i64 x, errV (eH h)]) /\ Below W.heap.size W w') := fun W hW => ends_or (F1.out.new hW) h hi
 have O2 : Hid (∀ W, Below w1.heap.size w1 W -> Calls Tryz.prog 16 #[.pointer (some ⟨s, 0, none⟩), .int .i64 1, .int .i64 h] W fun e w' => ∃ x, e = .returned (.tuple #[.int .i64 x, errV (eH h)]) /\ Below W.heap.size W w') := fun W hW => ends_and (F1.out.new hW) h hi
 have O3 : Hid (∀ W, Below w1.heap.size w1 W -> Calls Tryz.prog 17 #[.pointer (some ⟨s, 0, none⟩), .int .i64 h, .int .i64 1] W fun e w' => ∃ x, e = .returned (.tuple #[.int .i64 x, errV (eH h)]) /\ Below W.heap.size W w') := fun W hW => ends_less (F1.out.new hW) h hi
 have O4 : Hid (∀ W, Below w1.heap.size w1 W -> Calls Tryz.prog 18 #[.pointer (some ⟨s, 0, none⟩), .int .i64 1, .int .i64 h] W fun e w' => ∃ x, e = .returned (.tuple #[.int .i64 x, errV (eH h)]) /\ Below W.heap.size W w') := fun W hW => ends_join (F1.out.new hW) h hi
 have O5 : Hid (∀ W, Below w1.heap.size w1 W -> Calls Tryz.prog 19 #[.pointer (some ⟨s, 0, none⟩), .int .i64 h, .int .i64 h] W fun e w' => ∃ x, e = .returned (.tuple #[.int .i64 x, errV (eH h)]) /\ Below W.heap.size W w') := fun W hW => ends_without (F1.out.new hW) h hi
 have O6 : Hid (∀ W, Below w1.heap.size w1 W -> Calls Tryz.prog 20 #[.pointer (some ⟨s, 0, none⟩), .int .i64 h] W fun e w' => ∃ x, e = .returned (.tuple #[.int .i64 x, errV (eH h)]) /\ Below W.heap.size W w') := fun W hW => ends_least (F1.out.new hW) h hi
 have O7 : Hid (∀ W, Below w1.heap.size w1 W -> Calls Tryz.prog 8 #[.pointer (some ⟨s, 0, none⟩), .int .i64 h] W fun e w' => ∃ a n c, e = .returned (.tuple #[.agg #[.slice a n c], errV (eH h)]) /\ Below W.heap.size W w') := fun W hW => ends_count (F1.out.new hW) h hi
 have O8 : Hid (∀ W, Below w1.heap.size w1 W -> Calls Tryz.prog 7 #[.pointer (some ⟨s, 0, none⟩), .int .i64 h, .int .i64 5] W fun e w' => ∃ a n c, e = .returned (.tuple #[.slice a n c, errV (eH h)]) /\ Below W.heap.size W w') := fun W hW => ends_list (F1.out.new hW) h hi
 have O9 : Hid (∀ W, Below w1.heap.size w1 W -> Calls Tryz.prog 21 #[.pointer (some ⟨s, 0, none⟩), .int .i64 h] W fun e w' => ∃ x, e = .returned (.tuple #[.int .i64 x, errV (eH h)]) /\ Below W.heap.size W w') := fun W hW => ends_hits (F1.out.new hW) h hi
 have OI : Hid (∀ W, Below w1.heap.size w1 W -> Calls Tryz.prog 13 #[.pointer (some ⟨s, 0, none⟩), .int .i64 h, .int .u64 (x : Int)] W fun e w' => ∃ y, e = .returned (.tuple #[.bool y, errV (eIn vars h x)]) /\ Below W.heap.size W w') := fun W hW => ends_in (F1.out.new hW) h hi x hx64
 have HE := Lib.hid (HB.out (eH h))
 have HIE := Lib.hid (HI.out (eH h))
 have HEI : Hid (eIn vars h x = if eH h = 0 then (if x < 2 ^ vars then 0 else 2) else 7) := by
  unfold Hid eIn eH
  by_cases c0 : h = 0 \/ h = 1
  ·rw [if_pos c0, if_pos c0, if_pos rfl]
  ·rw [if_neg c0, if_neg c0, if_neg (by decide)]
 generalize errV (eH h) = ev at *
 have HE07 : Hid (eH h = 0 \/ eH h = 7) := by unfold Hid eH; split <;> simp
 generalize eH h = E at *
 clear hi
 go_wp2_with fail
 refine (O1.out w1 (Below.refl _ _)).mono ?_
 rintro e w2 ⟨x1, rfl, hb⟩
 have B2 := Lib.hid hb
 clear hb O1
 go_wp2_with fail
 refine (O2.out _ B2.out).mono ?_
 rintro e w3 ⟨x2, rfl, hb⟩
 have B3 := Lib.hid (B2.out.trans (hb.mono B2.out.size))
 clear hb O2 B2
 go_wp2_with fail
 refine (O3.out _ B3.out).mono ?_
 rintro e w4 ⟨x3, rfl, hb⟩
 have B4 := Lib.hid (B3.out.trans (hb.mono B3.out.size))
 clear hb O3 B3
 go_wp2_with fail
 refine (O4.out _ B4.out).mono ?_
 rintro e w5 ⟨x4, rfl, hb⟩
 have B5 := Lib.hid (B4.out.trans (hb.mono B4.out.size))
 clear hb O4 B4
 go_wp2_with fail
 refine (O5.out _ B5.out).mono ?_
 rintro e w6 ⟨x5, rfl, hb⟩
 have B6 := Lib.hid (B5.out.trans (hb.mono B5.out.size))
 clear hb O5 B5
 go_wp2_with fail
 refine (O6.out _ B6.out).mono ?_
 rintro e w7 ⟨x6, rfl, hb⟩
 have B7 := Lib.hid (B6.out.trans (hb.mono B6.out.size))
 clear hb O6 B6
 go_wp2_with fail
 refine (O7.out _ B7.out).mono ?_
 rintro e w8 ⟨a7, n7, c7, rfl, hb⟩
 have B8 := Lib.hid ((B7.out.trans (hb.mono B7.out.size)).alloc (B7.out.trans (hb.mono B7.out.size)).size (.cells #[.slice a7 n7 c7] 38))
 clear hb O7 B7
 go_wp2_with fail
 refine (O8.out _ B8.out).mono ?_
 rintro e w9 ⟨a8, n8, c8, rfl, hb⟩
 have B9 := Lib.hid (B8.out.trans (hb.mono B8.out.size))
 clear hb O8 B8
 go_wp2_with fail
 refine (O9.out _ B9.out).mono ?_
 rintro e w10 ⟨x9, rfl, hb⟩
 have B10 := Lib.hid (B9.out.trans (hb.mono B9.out.size))
 clear hb O9 B9
 go_upto_region 18 with fail
 go_cut [30] (fun v wx => ∃ b30 : Bool, v = .pointer (some ⟨w10.heap.size, 0, none⟩) /\ b30 = decide (room = 4000 /\ vars <= 6) /\ w10.alloc (.cells #[.bool b30] 4) = wx)
 case first =>
  clear HB HI HF F1 HO HB1 hent B10 OI HE HIE HEI HE07
  by_cases c0 : room = 4000
  ·subst c0
   by_cases c1 : vars <= 6
   ·have i1 : (vars : Int) <= 6 := by omega
    have Q : Hid (decide (4000 = 4000 /\ vars <= 6) = true) := by unfold Hid; simp [c1]
    clear c1
    go_wp2_with fail
    go_meet
    exact ⟨_, rfl, Q.out.symm, rfl⟩
   ·have i1 : ¬ (vars : Int) <= 6 := by omega
    have Q : Hid (decide (4000 = 4000 /\ vars <= 6) = false) := by unfold Hid; simp [c1]
    clear c1
    go_wp2_with fail
    go_meet
    exact ⟨_, rfl, Q.out.symm, rfl⟩
  ·have q0 : ((room : Int) == 4000) = false := by rw [beq_eq_false_iff_ne]; omega
   have Q : Hid (decide (room = 4000 /\ vars <= 6) = false) := by unfold Hid; simp [c0]
   clear c0
   go_wp2_with fail
   go_meet
   exact ⟨_, rfl, Q.out.symm, rfl⟩
 case rest =>
 obtain ⟨b30, rfl, hb30, rfl⟩ := hcut
 have HB30 := Lib.hid hb30
 have cb : (w10.alloc (.cells #[.bool b30] 4)).cell? ⟨w10.heap.size, 0, none⟩ = some (.bool b30) := by simp
 have BX := Lib.hid (B10.out.alloc B10.out.size (.cells #[.bool b30] 4))
 have szx : w10.heap.size < (w10.alloc (.cells #[.bool b30] 4)).heap.size := by simp
 have BSX := Lib.hid (B10.out.size)
 clear hb30 B10
 generalize (w10.alloc (.cells #[.bool b30] 4)) = wx at *
 generalize w10.heap.size = bx at *
 have CB := Lib.hid cb
 have SX := Lib.hid szx
 have W0 := Lib.hid (HB1.out.trans (BX.out.mono HB1.out.size))
 clear cb szx
 have HBE : Hid (∀ W, Below wx.heap.size wx W -> Calls Tryz.prog 9 #[ev, .int .i64 E] W fun e w' => e = .returned (.bool true) /\ Below W.heap.size W w') := fun W hW => HE.out W (W0.out.trans (hW.mono W0.out.size))
 have HIX : Hid (∀ W, Below wx.heap.size wx W -> Calls Tryz.prog 22 #[ev, .int .i64 E, .pointer (some ⟨bx, 0, none⟩)] W fun e w' => e = .returned (.bool true) /\ Below W.heap.size W w') := fun W hW => HIE.out bx W (W0.out.trans (hW.mono W0.out.size))
 clear HE HIE
 go_upto_region 20 with fail
 go_cut [197] (fun v wy => v = .bool false /\ Below wx.heap.size wx wy)
 case first =>
  clear HB HI HF F1 HO HB1 OI HEI HE07 BX BSX CB SX W0 HB30 hent
  go_wp2_with fail
  refine (HIX.out _ (Below.refl _ _)).mono ?_
  rintro e y0 ⟨rfl, hb⟩
  have D0 := Lib.hid hb
  clear hb
  go_wp2_with fail
  refine (HIX.out _ D0.out).mono ?_
  rintro e y1 ⟨rfl, hb⟩
  have D1 := Lib.hid (D0.out.trans (hb.mono D0.out.size))
  clear hb D0
  go_wp2_with fail
  refine (HIX.out _ D1.out).mono ?_
  rintro e y2 ⟨rfl, hb⟩
  have D2 := Lib.hid (D1.out.trans (hb.mono D1.out.size))
  clear hb D1
  go_wp2_with fail
  refine (HIX.out _ D2.out).mono ?_
  rintro e y3 ⟨rfl, hb⟩
  have D3 := Lib.hid (D2.out.trans (hb.mono D2.out.size))
  clear hb D2
  go_wp2_with fail
  refine (HIX.out _ D3.out).mono ?_
  rintro e y4 ⟨rfl, hb⟩
  have D4 := Lib.hid (D3.out.trans (hb.mono D3.out.size))
  clear hb D3
  go_wp2_with fail
  refine (HIX.out _ D4.out).mono ?_
  rintro e y5 ⟨rfl, hb⟩
  have D5 := Lib.hid (D4.out.trans (hb.mono D4.out.size))
  clear hb D4
  go_wp2_with fail
  refine (HBE.out _ D5.out).mono ?_
  rintro e y6 ⟨rfl, hb⟩
  have D6 := Lib.hid (D5.out.trans (hb.mono D5.out.size))
  clear hb D5
  go_wp2_with fail
  refine (HBE.out _ D6.out).mono ?_
  rintro e y7 ⟨rfl, hb⟩
  have D7 := Lib.hid (D6.out.trans (hb.mono D6.out.size))
  clear hb D6
  go_wp2_with fail
  refine (HIX.out _ D7.out).mono ?_
  rintro e y8 ⟨rfl, hb⟩
  have D8 := Lib.hid (D7.out.trans (hb.mono D7.out.size))
  clear hb D7
  go_wp2_with fail
  go_meet
  exact ⟨rfl, D8.out⟩
 case rest =>
 obtain ⟨rfl, hby⟩ := hcut
 have cby := (hby.cell (p := ⟨bx, 0, none⟩) SX.out).trans CB.out
 have SY : Hid (bx < wc.heap.size) := Nat.lt_of_lt_of_le SX.out hby.size
 have BY := Lib.hid (BX.out.trans (hby.mono BX.out.size))
 have WY := Lib.hid (W0.out.trans (hby.mono W0.out.size))
 have CY := Lib.hid cby
 clear hby cby CB SX BX W0 HBE HIX
 generalize wc = wy at *
 have OT : Hid (∀ W, Below w1.heap.size w1 W -> x < 2 ^ vars -> Calls Tryz.prog 23 #[.pointer (some ⟨s, 0, none⟩), .int .u64 (x : Int)] W fun e w' => Kept (fun k => O k \/ W.heap.size <= k) W w' /\ ∃ (y : Int) (f : Value), e = .returned (.tuple #[.int .i64 y, f]) /\ (f = .nilIface \/ (f = .iface 42 (.int .i64 12) /\ b30 = false))) := fun W hW hx => by
  have hFW := F1.out.new hW
  by_cases hro : room = 4000 /\ vars <= 6
  ·refine (one_any hFW x hx (by
    have : cntT vars ([] : List Nd) = 0 := rfl
    omega)).mono ?_
   rintro e w' ⟨h1, ns1, O1, rfl, -, mv, -⟩
   exact ⟨mv.kept.mono (fun k hk => .inl hk), h1, _, rfl, .inl rfl⟩
  ·refine (one_tot hFW x hx).mono ?_
   rintro e w' ⟨hk, ⟨h1, rfl⟩ | rfl⟩
   ·exact ⟨hk, h1, _, rfl, .inl rfl⟩
   ·exact ⟨hk, 0, _, rfl, .inr ⟨rfl, by rw [HB30.out]; exact decide_eq_false hro⟩⟩
 have ON : Hid (∀ W, Below w1.heap.size w1 W -> ¬ x < 2 ^ vars -> Calls Tryz.prog 23 #[.pointer (some ⟨s, 0, none⟩), .int .u64 (x : Int)] W fun e w' => e = .returned (.tuple #[.int .i64 0, .iface 42 (.int .i64 2)]) /\ W = w') := fun W hW hx => one_bad (F1.out.new hW) x hx hx64
 have HOW : Hid (∀ k, O k -> w.heap.size <= k /\ k < w1.heap.size) := fun k hk => ⟨HO.out k hk, (F1.out.space.own k hk).2⟩
 have BSX2 : Hid (w1.heap.size <= bx) := BSX.out
 clear F1 HO HB30 HV HR v1 v2 v3 v4 BSX hs
 by_cases hx : x < 2 ^ vars
 ·have d1 : (x : Int) / 2 ^ vars = 0 := by
   have e : (x : Int) / 2 ^ vars = ((x / 2 ^ vars : Nat) : Int) := by simp
   rw [e, Nat.div_eq_of_lt hx]; rfl
  have hEQ : eIn vars h x = E := by
   rw [HEI.out, if_pos hx]
   rcases HE07.out with e | e <;> rw [e] <;> rfl
  rw [hEQ] at OI
  have HX := Lib.hid hx
  clear hx hEQ HEI HE07 ON
  go_wp2_with fail
  refine (OI.out _ BY.out).mono ?_
  rintro e z1 ⟨yb, rfl, hb⟩
  have c1 := (hb.cell (p := ⟨bx, 0, none⟩) SY.out).trans CY.out
  have S1 : Hid (bx < z1.heap.size) := Nat.lt_of_lt_of_le SY.out hb.size
  have B1 := Lib.hid (BY.out.trans (hb.mono BY.out.size))
  have W1 := Lib.hid (WY.out.trans (hb.mono WY.out.size))
  have C1 := Lib.hid c1
  clear hb c1 OI BY WY SY CY
  go_wp2_with fail
  refine (OT.out _ B1.out HX.out).mono ?_
  rintro e z2 ⟨hk, y, f, rfl, hf⟩
  have nS : ¬ (O bx \/ z1.heap.size <= bx) := fun hq => by
   rcases hq with hq | hq
   ·have := (HOW.out bx hq).2
    have := BSX2.out
    omega
   ·have := S1.out; omega
  have c2 := (hk.cell (a := ⟨bx, 0, none⟩) S1.out nS).trans C1.out
  have S2 : Hid (bx < z2.heap.size) := Nat.lt_of_lt_of_le S1.out hk.size
  have W2 := Lib.hid (W1.out.trans (hk.below W1.out.size (fun k hq => by
   rcases hq with hq | hq
   ·exact (HOW.out k hq).1
   ·exact Nat.le_trans W1.out.size hq)))
  have C2 := Lib.hid c2
  have HFC := Lib.hid hf
  clear hk hf nS c2 OT HOW BSX2 S1 C1 B1 W1
  have HE := Lib.hid (HB.out E)
  have HI0 := Lib.hid (HI.out 0 bx)
  rw [errV_zero] at HI0
  clear HB HI
  go_wp2_with fail
  refine (HE.out _ W2.out).mono ?_
  rintro e z3 ⟨rfl, hb⟩
  have c3 := (hb.cell (p := ⟨bx, 0, none⟩) S2.out).trans C2.out
  have S3 : Hid (bx < z3.heap.size) := Nat.lt_of_lt_of_le S2.out hb.size
  have W3 := Lib.hid (W2.out.trans (hb.mono W2.out.size))
  have C3 := Lib.hid c3
  clear hb c3 HE W2 S2 C2
  rcases HFC.out with rfl | ⟨rfl, rfl⟩
  ·clear HFC HF
   go_wp2_with fail
   refine (HI0.out _ W3.out).mono ?_
   rintro e z4 ⟨rfl, hb⟩
   have W4 := Lib.hid (W3.out.trans (hb.mono W3.out.size))
   clear hb HI0 W3
   go_wp2
   go_ret
   exact ⟨rfl, W4.out⟩
  ·clear HFC HI0
   go_wp2_with fail
   refine (HF.out bx _ W3.out C3.out S3.out).mono ?_
   rintro e z4 ⟨rfl, hb⟩
   have W4 := Lib.hid (W3.out.trans (hb.mono W3.out.size))
   clear hb HF W3
   go_wp2
   go_ret
   exact ⟨rfl, W4.out⟩
 ·have d0 : (x : Int) / 2 ^ vars = ((x / 2 ^ vars : Nat) : Int) := by simp
  have d1 : 1 <= x / 2 ^ vars := by
   rw [Nat.le_div_iff_mul_le (Nat.two_pow_pos _)]; omega
  have d2 : x / 2 ^ vars <= x := Nat.div_le_self _ _
  have HEI2 : Hid ((E = 0 /\ eIn vars h x = 2) \/ (E = 7 /\ eIn vars h x = 7)) := by
   have := HEI.out
   rw [if_neg hx] at this
   rcases HE07.out with e | e
   ·exact .inl ⟨e, by rw [this, e]; rfl⟩
   ·exact .inr ⟨e, by rw [this, e]; rfl⟩
  have HX := Lib.hid hx
  clear hx HEI HE07 OT
  generalize x / 2 ^ vars = q at *
  have d3 : ((q : Int) != 0) = true := by rw [bne_iff_ne]; omega
  have d4 : IntKind.u64.wrap (q : Int) = (q : Int) := IntWalk.u64_in _ ⟨by omega, by omega⟩
  have HI2 := Lib.hid (HI.out 2 bx)
  rw [errV_n (by decide)] at HI2
  rcases HEI2.out with ⟨rfl, e2⟩ | ⟨rfl, e2⟩
  all_goals
   rw [e2] at OI
   clear HEI2 e2
   go_wp2_with fail
   refine (OI.out _ BY.out).mono ?_
   rintro e z1 ⟨yb, rfl, hb⟩
   have B1 := Lib.hid (BY.out.trans (hb.mono BY.out.size))
   have W1 := Lib.hid (WY.out.trans (hb.mono WY.out.size))
   clear hb OI BY WY
   go_wp2_with fail
   refine (ON.out _ B1.out HX.out).mono ?_
   rintro e z2 ⟨rfl, rfl⟩
   clear ON B1
   go_wp2_with fail
   refine (HB.out _ _ W1.out).mono ?_
   rintro e z3 ⟨rfl, hb⟩
   have W3 := Lib.hid (W1.out.trans (hb.mono W1.out.size))
   clear hb HB W1
   go_wp2_with fail
   refine (HI2.out _ W3.out).mono ?_
   rintro e z4 ⟨rfl, hb⟩
   have W4 := Lib.hid (W3.out.trans (hb.mono W3.out.size))
   clear hb HI2 W3
   go_wp2
   go_ret
   exact ⟨rfl, W4.out⟩
theorem ferrs_any (vars room h : Int) (hi : I64 h) (x : Nat) (hx64 : x < 2 ^ 64) (w : World) (hg : Glob w) :
  Calls Tryz.prog 4 #[.int .i64 vars, .int .i64 room, .int .i64 h, .int .u64 (x : Int)] w fun e w' => e = .returned (.bool true) /\ Below w.heap.size w w' := by
 by_cases hb : vars < 0 \/ 24 < vars \/ room < 0 \/ 4000 < room
 ·exact ferrs_bad vars room h x w hg hb
 ·obtain ⟨n, rfl⟩ : ∃ n : Nat, vars = (n : Int) := ⟨vars.toNat, by omega⟩
  obtain ⟨m, rfl⟩ : ∃ m : Nat, room = (m : Int) := ⟨room.toNat, by omega⟩
  exact ferrs_main n m h hi x hx64 (by omega) (by omega) w hg
end Go.Proofs.YtbklgjmkdhinpaaGreatDoor.Fm
