/- The walk of ArenaPlays. -/
import Derived.Test.YtllobejhkajobaaDoorPlaysStep
import Derived.Test.YtllobejhkajobaaDoorQuads
import Derived.Deep.RegionHeldLaw
namespace Go.Proofs.YtllobejhkajobaaDoor
open Go.RowKit Go.Maps Go.Sort

theorem cell4 (w : World) (a b c d : Value) (t : TypeId) : (w.alloc (.cells #[a, b, c, d] t)).cell? ⟨w.heap.size, 0, none⟩ = some a ∧ (w.alloc (.cells #[a, b, c, d] t)).cell? ⟨w.heap.size, 1, none⟩ = some b ∧ (w.alloc (.cells #[a, b, c, d] t)).cell? ⟨w.heap.size, 2, none⟩ = some c ∧ (w.alloc (.cells #[a, b, c, d] t)).cell? ⟨w.heap.size, 3, none⟩ = some d := by simp

theorem ints_new (w : World) (x y : Int) (hx : I64 x) (hy : I64 y) : IntsAt (w.alloc (.cells #[.int .i64 x, .int .i64 y] 3)) w.heap.size [x, y] := by
  refine ⟨by simp, fun i hi => ?_, fun z hz => ?_⟩
  · simp at hi
    obtain rfl | rfl : i = 0 ∨ i = 1 := by omega
    · simp
    · simp
  · simp at hz
    rcases hz with rfl | rfl
    · exact hx
    · exact hy

set_option maxRecDepth 100000 in
set_option maxHeartbeats 8000000 in
theorem plays_walk (room : Int) (xs : List Quad) (v : Value) (w : World) (hg : Glob w) (hx : ArgQuads w v xs) (h80 : xs.length ≤ 80) (h0 : 0 ≤ room) (h1 : room ≤ 4000) :
    Calls Tryd.prog 3 #[.int .i64 room, v] w fun e w' => e = .returned (.bool true) ∧ Below w.heap.size w w' := by
  obtain ⟨a, cap, rfl, hx⟩ := hx
  have HX := Lib.hid hx
  clear hx
  have hmm := @run_makeMap Tryd.prog
  have HN := Lib.hid (new_any room h0 h1 w w.heap.size (Nat.le_refl _))
  have ih : ¬ (80 : Int) < (xs.length : Int) := by omega
  go_enter Tryd.func3, Tryd.ntmps3
  go_wp2_with fail
  refine HN.out.mono ?_
  rintro e w1 ⟨rfl, hA1, hb1⟩
  have HS := Lib.hid (plays_start hA1 hb1)
  have HSB : Hid (Below w.heap.size w ((w1.alloc (.map #[] 0)).alloc (.cells #[.int .i64 room, .map (some w1.heap.size)] 33))) := (hb1.alloc hb1.size _).alloc (by have := hb1.size; simp; omega) _
  have hs1 := hb1.size
  clear hA1 HN hb1
  have GW := Lib.hid hg
  go_wp2_with fail
  clear hmm
  go_loopw [8] (fun i wr => ∃ k : Nat, k ≤ xs.length ∧ i = .int .i64 (k : Int) ∧ Plays w.heap.size (w.heap.size + 1) (w1.heap.size + 1) room k wr ∧ Below w.heap.size w wr)
    (fun i _ => xs.length - (intOf i).toNat)
  case atStart => exact ⟨0, Nat.zero_le _, rfl, HS.out, HSB.out⟩
  case round =>
    obtain ⟨k, hk, rfl, hP, hB⟩ := hrel
    clear HS HSB
    by_cases hlt : k < xs.length
    · obtain ⟨ad, rfl, hq⟩ := HX.out k hlt
      obtain ⟨hqb, q0, q1, q2, q3, qok⟩ := hq.below hB hq.lt
      clear hq
      generalize qd xs k = q at *
      obtain ⟨qa, qb, qc, qd⟩ := q
      simp only at q0 q1 q2 q3
      obtain ⟨-, ok1, ok2, ok3⟩ := qok
      simp only at ok1 ok2 ok3
      have i1 : (k : Int) < (xs.length : Int) := by omega
      have hbx := below_new wr (.cells #[.int .i64 qa, .int .i64 qb, .int .i64 qc, .int .i64 qd] 35)
      obtain ⟨x0, x1, x2, x3⟩ := cell4 wr (.int .i64 qa) (.int .i64 qb) (.int .i64 qc) (.int .i64 qd) 35
      obtain ⟨bm, av, ns, L, next, rm, RL, hP0, hns⟩ := hP
      have hown : ∀ j, wr.heap.size ≤ j → ¬ Own (w.heap.size + 1) bm av j := fun j hj ho => by
        have := (own_lt hP0.arena j ho).2; omega
      have hPl := hP0.new hbx
      have hB1 : Below w.heap.size w (wr.alloc (.cells #[.int .i64 qa, .int .i64 qb, .int .i64 qc, .int .i64 qd] 35)) := hB.trans (hbx.mono hB.size)
      have hszr := hB.size
      have hs4 : (wr.alloc (.cells #[.int .i64 qa, .int .i64 qb, .int .i64 qc, .int .i64 qd] 35)).heap.size = wr.heap.size + 1 := by simp
      have hge : ∀ j, Own (w.heap.size + 1) bm av j → w.heap.size ≤ j := fun j hj => (own_lt hP0.arena j hj).1
      by_cases c0 : qa = 0
      · subst c0
        as_aux_lemma =>
          have HM := Lib.hid (play_make hPl hns (by omega) (by omega) ⟨qb, qc, qd⟩ ⟨ok1, ok2, ok3⟩)
          have HO := Lib.hid hown
          have HGE := Lib.hid hge
          have HB1 := Lib.hid hB1
          unfold Nd.val at HM
          clear hP0 hPl hbx hB1 hown hge hB hg ok1 ok2 ok3
          go_wp2_with fail
          refine HM.out.mono ?_
          rintro e w2 ⟨h, m, rfl, hK2, hR⟩
          have l4 : wr.heap.size < (wr.alloc (.cells #[.int .i64 0, .int .i64 qb, .int .i64 qc, .int .i64 qd] 35)).heap.size := by omega
          have y1 := (hK2.cell (a := ⟨wr.heap.size, 1, none⟩) l4 (HO.out _ (Nat.le_refl _))).trans x1
          have y2 := (hK2.cell (a := ⟨wr.heap.size, 2, none⟩) l4 (HO.out _ (Nat.le_refl _))).trans x2
          have y3 := (hK2.cell (a := ⟨wr.heap.size, 3, none⟩) l4 (HO.out _ (Nat.le_refl _))).trans x3
          have HR := Lib.hid hR
          have HB2 := Lib.hid (HB1.out.trans (hK2.below (by omega) HGE.out))
          clear hR HM hK2 x0 x1 x2 x3 q0 q1 q2 q3
          go_wp2_with fail
          refine (HR.out _ (Below.refl _ _)).mono ?_
          rintro e w3 ⟨rfl, hb3, hP3⟩
          have hb3' := HB2.out.trans hb3
          have HBA := Lib.hid (bare_same m w3 ((show Glob w from GW.out).below hb3'))
          have HP3 := Lib.hid hP3
          have HB3 := Lib.hid hb3'
          have ehh : (h != h) = false := by simp
          clear HR HB2 hb3 hP3 hb3' y1 y2 y3 HB1
          go_wp2_with fail
          refine HBA.out.mono ?_
          rintro e w4 ⟨rfl, hb4⟩
          have HPT := Lib.hid (HP3.out.new hb4)
          have HBT := Lib.hid (HB3.out.trans (hb4.mono HB3.out.size))
          clear HP3 HB3 hb4 HBA
          obtain ⟨tbm, tv, tns, tL, tnext, trm, tRL, tP, tc⟩ := HPT.out
          have tlen := tP.lens
          have tPd := tP.new (Below.refl _ w4).drew
          have HLN := Lib.hid (len_any tPd.arena)
          obtain ⟨tD, htD, htR⟩ := tPd.ref.hmap
          have hln : ∀ ty, (Builtin.len_ #[31] ty #[.map (some trm)]).run Tryd.prog w4.drew = .ok (.int .i64 (tL.length : Int)) w4.drew := fun ty => by
            have := htD.len Tryd.underlying31 ty
            rwa [htR.size, ← tlen] at this
          have tcm := tPd.ref.cmap
          clear tlen tP tPd htD htR
          generalize tL.length = ln at *
          go_wp2_with fail
          go_region_held_law (fun w' => w'.cell? ⟨w1.heap.size + 1, 1, none⟩ = some (.map (some trm))) (exact tcm) (first | (go_at_call 18; refine HLN.out.mono ?_; rintro e wz ⟨rfl, rfl⟩) | (refine step_len rfl _ 31 rfl rfl hln ?_))
          all_goals
            go_wp2
            go_roundw
            case rel => exact ⟨k + 1, by omega, by go_num, HPT.out.new (Below.refl _ _).drew, HBT.out.drew⟩
            case measure => simp [intOf]; omega
      · by_cases c1 : qa = 1
        · subst c1
          as_aux_lemma =>
            have HRE : Hid (∀ X bf, Below (wr.alloc (.cells #[.int .i64 1, .int .i64 qb, .int .i64 qc, .int .i64 qd] 35)).heap.size (wr.alloc (.cells #[.int .i64 1, .int .i64 qb, .int .i64 qc, .int .i64 qd] 35)) X → IntsAt X bf [qc, qd] → Calls Tryd.prog 9 #[.pointer (some ⟨w.heap.size + 1, 0, none⟩), .slice (some ⟨bf, 0, none⟩) 2 2] X fun e w' => ∃ a c, e = .returned (.slice a (reachTo (marksOf ns [qc, qd]) ns.length).length c) ∧ w'.ownsRow w.heap.size 3 1 (.slice a (reachTo (marksOf ns [qc, qd]) ns.length).length c) (reachTo (marksOf ns [qc, qd]) ns.length).length (icells (reachTo (marksOf ns [qc, qd]) ns.length)) ∧ Below X.heap.size X w' ∧ Below (wr.alloc (.cells #[.int .i64 1, .int .i64 qb, .int .i64 qc, .int .i64 qd] 35)).heap.size (wr.alloc (.cells #[.int .i64 1, .int .i64 qb, .int .i64 qc, .int .i64 qd] 35)) w') := fun X bf hX hF =>
              (reach_any hP0.ranked (by omega) (hPl.new hX).arena bf [qc, qd] hF (by simp) (by have := hX.size; omega)).mono fun e w' ⟨a, c, h1, h2, h3⟩ => ⟨a, c, h1, ownsRow_base h2 (by have := hX.size; omega), h3, hX.trans (h3.mono hX.size)⟩
            have HRR : Hid (∀ W2 X bf, Below (wr.alloc (.cells #[.int .i64 1, .int .i64 qb, .int .i64 qc, .int .i64 qd] 35)).heap.size (wr.alloc (.cells #[.int .i64 1, .int .i64 qb, .int .i64 qc, .int .i64 qd] 35)) W2 → Below W2.heap.size W2 X → IntsAt X bf [qc, qd] → Calls Tryd.prog 10 #[.pointer (some ⟨w1.heap.size + 1, 0, none⟩), .slice (some ⟨bf, 0, none⟩) 2 2] X fun e w' => ∃ a c, e = .returned (.slice a (reachTo (marksOf ns [qc, qd]) ns.length).length c) ∧ w'.ownsRow w.heap.size 3 1 (.slice a (reachTo (marksOf ns [qc, qd]) ns.length).length c) (reachTo (marksOf ns [qc, qd]) ns.length).length (icells (reachTo (marksOf ns [qc, qd]) ns.length)) ∧ Below W2.heap.size W2 w' ∧ Below (wr.alloc (.cells #[.int .i64 1, .int .i64 qb, .int .i64 qc, .int .i64 qd] 35)).heap.size (wr.alloc (.cells #[.int .i64 1, .int .i64 qb, .int .i64 qc, .int .i64 qd] 35)) w') := fun W2 X bf hW hX hF =>
              (rreach_any hP0.ranked (by omega) ((hPl.new hW).new hX).ref bf [qc, qd] hF (by simp)).mono fun e w' ⟨a, c, h1, h2, h3⟩ => ⟨a, c, h1, ownsRow_base h2 (by have := hX.size; have := hW.size; omega), hX.trans (h3.mono hX.size), hW.trans ((hX.trans (h3.mono hX.size)).mono hW.size)⟩
            have hrl := reachTo_length (marksOf ns [qc, qd]) ns.length
            generalize reachTo (marksOf ns [qc, qd]) ns.length = rl at *
            have HPl : Hid (Plays w.heap.size (w.heap.size + 1) (w1.heap.size + 1) room k (wr.alloc (.cells #[.int .i64 1, .int .i64 qb, .int .i64 qc, .int .i64 qd] 35))) := ⟨bm, av, ns, L, next, rm, RL, hPl, hns⟩
            have HB1 := Lib.hid hB1
            have HO2 := Lib.hid ok2
            have HO3 := Lib.hid ok3
            clear hP0 hPl hB hown hge hB1 hbx ok1 ok2 ok3 x0 x1
            go_wp2_with fail
            clear q0 q1 q2 q3
            have HS4 := Lib.hid hs4
            clear hs4
            generalize (wr.alloc (.cells #[.int .i64 1, .int .i64 qb, .int .i64 qc, .int .i64 qd] 35)) = W1 at *
            have B0 : Below W1.heap.size W1 W1.drew := (Below.refl _ _).drew
            have B1 : Below W1.heap.size W1 (W1.alloc (.cells #[.int .i64 qc, .int .i64 qd] 3)).drew := (below_new W1 _).drew
            have B2 : Below W1.heap.size W1 ((W1.alloc (.cells #[.int .i64 qc, .int .i64 qd] 3)).alloc (.cells #[.int .i64 qc, .int .i64 qd] 3)).drew := ((below_new W1 _).alloc (below_new W1 _).size _).drew
            have I0 := ints_new W1 qc qd HO2.out HO3.out
            have I1 : IntsAt (W1.alloc (.cells #[.int .i64 qc, .int .i64 qd] 3)).drew W1.heap.size [qc, qd] := intsKept I0 (Below.refl _ _).drew
            have I2a : IntsAt ((W1.alloc (.cells #[.int .i64 qc, .int .i64 qd] 3)).alloc (.cells #[.int .i64 qc, .int .i64 qd] 3)).drew W1.heap.size [qc, qd] := intsKept I0 (below_new _ _).drew
            have I2b : IntsAt ((W1.alloc (.cells #[.int .i64 qc, .int .i64 qd] 3)).alloc (.cells #[.int .i64 qc, .int .i64 qd] 3)).drew (W1.heap.size + 1) [qc, qd] := by
              have := ints_new (W1.alloc (.cells #[.int .i64 qc, .int .i64 qd] 3)) qc qd HO2.out HO3.out
              rw [World.size_alloc] at this; exact intsKept this (Below.refl _ _).drew
            clear I0
            have IN : Hid (∀ X : World, IntsAt (X.alloc (.cells #[.int .i64 qc, .int .i64 qd] 3)) X.heap.size [qc, qd]) := fun X => ints_new X qc qd HO2.out HO3.out
            have wl1 : wr.heap.size < W1.heap.size := by have := HS4.out; omega
            have SC : Hid (∀ X : World, Below W1.heap.size W1 X → (X.cell? ⟨wr.heap.size, 2, none⟩ = some (.int .i64 qc) ∧ X.cell? ⟨wr.heap.size, 3, none⟩ = some (.int .i64 qd))) := fun X h =>
              ⟨(h.cell (p := ⟨wr.heap.size, 2, none⟩) wl1).trans x2, (h.cell (p := ⟨wr.heap.size, 3, none⟩) wl1).trans x3⟩
            clear x2 x3
            go_cut [175] (fun c wx => c = .bool false ∧ Below W1.heap.size W1 wx)
            case first =>
              go_region_held3 (fun w' => w'.cell? ⟨wr.heap.size, 2, none⟩ = some (.int .i64 qc) ∧ w'.cell? ⟨wr.heap.size, 3, none⟩ = some (.int .i64 qd)) (first | exact SC.out _ B0 | exact SC.out _ B1 | exact SC.out _ B2 | exact SC.out _ hbw2 | exact SC.out _ (hbw2.alloc hbw2.size _) | exact SC.out _ hbw3 | exact SC.out _ hbw4)
                (first
                  | (go_at_call 9; with_reducible refine (HRE.out _ _ (by first | exact B1 | exact B2) (by first | exact I1 | exact I2a | exact I2b)).mono ?_; rintro e w2 ⟨a2, c2, rfl, hr2, hb2, hbw2⟩)
                  | (go_at_call 10; with_reducible refine (HRR.out w2 _ _ hbw2 (below_new _ _) (IN.out _)).mono ?_; rintro e w3 ⟨a3, c3, rfl, hr3, hb3, hbw3⟩)
                  | (go_at_call 10; with_reducible refine (HRR.out w2 _ _ hbw2 (Below.refl _ _) (by first | exact intsKept I2a hb2 | exact intsKept I2b hb2)).mono ?_; rintro e w3 ⟨a3, c3, rfl, hr3, hb3, hbw3⟩)
                  | (go_at_call 8; with_reducible refine (sameInts_eq (ownsRow_new hr2 hb3) hr3 (by omega)).mono ?_; rintro e w4 ⟨rfl, hb4⟩; have hbw4 := hbw3.trans (hb4.mono hbw3.size)))
              all_goals
                go_wp2_with fail
                go_meet
                case rel => exact ⟨rfl, hbw4⟩
            case rest =>
              as_aux_lemma =>
                obtain ⟨rfl, hbc⟩ := hcut
                have HPT := Lib.hid ((HPl.out.more (Nat.le_succ k)).new hbc)
                have HBT := Lib.hid (HB1.out.trans (hbc.mono HB1.out.size))
                clear hbc HRE HRR HPl HB1 IN SC I1 I2a I2b B0 B1 B2
                obtain ⟨tbm, tv, tns, tL, tnext, trm, tRL, tP, tc⟩ := HPT.out
                have tlen := tP.lens
                have tPd := tP.new (Below.refl _ wc).drew
                have HLN := Lib.hid (len_any tPd.arena)
                obtain ⟨tD, htD, htR⟩ := tPd.ref.hmap
                have hln : ∀ ty, (Builtin.len_ #[31] ty #[.map (some trm)]).run Tryd.prog wc.drew = .ok (.int .i64 (tL.length : Int)) wc.drew := fun ty => by
                  have := htD.len Tryd.underlying31 ty
                  rwa [htR.size, ← tlen] at this
                have tcm := tPd.ref.cmap
                clear tlen tP tPd htD htR
                generalize tL.length = ln at *
                go_wp2_with fail
                go_region_held_law (fun w' => w'.cell? ⟨w1.heap.size + 1, 1, none⟩ = some (.map (some trm))) (exact tcm) (first | (go_at_call 18; refine HLN.out.mono ?_; rintro e wz ⟨rfl, rfl⟩) | (refine step_len rfl _ 31 rfl rfl hln ?_))
                all_goals
                  go_wp2
                  go_roundw
                  case rel => exact ⟨k + 1, by omega, by go_num, HPT.out.new (Below.refl _ _).drew, HBT.out.drew⟩
                  case measure => simp [intOf]; omega
        · by_cases c2 : qa = 2
          · subst c2
            as_aux_lemma =>
              have hfs : ([qc, qd] : List Int).length = 2 := rfl
              have HSW : Hid (∀ X bf, Below (wr.alloc (.cells #[.int .i64 2, .int .i64 qb, .int .i64 qc, .int .i64 qd] 35)).heap.size (wr.alloc (.cells #[.int .i64 2, .int .i64 qb, .int .i64 qc, .int .i64 qd] 35)) X → IntsAt X bf [qc, qd] → Calls Tryd.prog 11 #[.pointer (some ⟨w.heap.size + 1, 0, none⟩), .slice (some ⟨bf, 0, none⟩) 2 2] X fun e w' => ∃ h : Int, e = .returned (.int .i64 h) ∧ (w'.cell? ⟨wr.heap.size, 2, none⟩ = some (.int .i64 qc) ∧ w'.cell? ⟨wr.heap.size, 3, none⟩ = some (.int .i64 qd)) ∧ wr.heap.size < w'.heap.size ∧ Below w.heap.size w w' ∧ (∀ j, wr.heap.size ≤ j → j < X.heap.size → IntsAt X j [qc, qd] → IntsAt w' j [qc, qd]) ∧ ∀ w2 bf2, Below w'.heap.size w' w2 → IntsAt w2 bf2 [qc, qd] → Calls Tryd.prog 12 #[.pointer (some ⟨w1.heap.size + 1, 0, none⟩), .slice (some ⟨bf2, 0, none⟩) 2 2] w2 fun e w3 => e = .returned (.int .i64 h) ∧ (w2.cell? ⟨wr.heap.size, 2, none⟩ = some (.int .i64 qc) → w3.cell? ⟨wr.heap.size, 2, none⟩ = some (.int .i64 qc)) ∧ (w2.cell? ⟨wr.heap.size, 3, none⟩ = some (.int .i64 qd) → w3.cell? ⟨wr.heap.size, 3, none⟩ = some (.int .i64 qd)) ∧ Below w.heap.size w w3 ∧ Plays w.heap.size (w.heap.size + 1) (w1.heap.size + 1) room k w3) := fun X bf hX hF => by
                have hXs := hX.size
                refine (play_sweep (hPl.new hX) hns (by omega) (by omega) bf [qc, qd] hF (by simp)).mono ?_
                rintro e w' ⟨h, rfl, hK, hR⟩
                have hbw := (hB1.trans (hX.mono (by omega))).trans (hK.below (by omega) hge)
                have l4 : wr.heap.size < X.heap.size := by omega
                have hKs := hK.size
                refine ⟨h, rfl, ⟨(hK.cell (a := ⟨wr.heap.size, 2, none⟩) l4 (hown _ (Nat.le_refl _))).trans ((hX.cell (p := ⟨wr.heap.size, 2, none⟩) (by show wr.heap.size < _; omega)).trans x2), (hK.cell (a := ⟨wr.heap.size, 3, none⟩) l4 (hown _ (Nat.le_refl _))).trans ((hX.cell (p := ⟨wr.heap.size, 3, none⟩) (by show wr.heap.size < _; omega)).trans x3)⟩, by omega, hbw, fun j hj _ hI => hI.kept hK (hown j hj), fun w2 bf2 hb2 hI2 => ?_⟩
                have hb2' := hbw.trans (hb2.mono hbw.size)
                have hrb := hP0.ref.lt
                have hrB := hP0.ref.B1
                have hb2s := hb2.size
                exact (hR w2 bf2 hb2 hI2).mono fun e w3 ⟨he, hK3, hP3⟩ => ⟨he, fun h => (hK3.cell (a := ⟨wr.heap.size, 2, none⟩) (by show wr.heap.size < _; omega) (by show ¬ wr.heap.size = _; omega)).trans h, fun h => (hK3.cell (a := ⟨wr.heap.size, 3, none⟩) (by show wr.heap.size < _; omega) (by show ¬ wr.heap.size = _; omega)).trans h, hb2'.trans (hK3.below hb2'.size (fun j e => by rw [e]; exact hrB)), hP3⟩
              have HO2 := Lib.hid ok2
              have HO3 := Lib.hid ok3
              clear hP0 hPl hB hown hge hB1 hbx ok1 ok2 ok3 x0 x1 hfs
              go_wp2_with fail
              clear q0 q1 q2 q3
              have HS4 := Lib.hid hs4
              clear hs4
              generalize (wr.alloc (.cells #[.int .i64 2, .int .i64 qb, .int .i64 qc, .int .i64 qd] 35)) = W1 at *
              have wl1 : wr.heap.size < W1.heap.size := by have := HS4.out; omega
              have wl2 : wr.heap.size ≤ W1.heap.size := by omega
              have wl3 : wr.heap.size ≤ W1.heap.size + 1 := by omega
              have B0 : Below W1.heap.size W1 W1.drew := (Below.refl _ _).drew
              have B1 : Below W1.heap.size W1 (W1.alloc (.cells #[.int .i64 qc, .int .i64 qd] 3)).drew := (below_new W1 _).drew
              have B2 : Below W1.heap.size W1 ((W1.alloc (.cells #[.int .i64 qc, .int .i64 qd] 3)).alloc (.cells #[.int .i64 qc, .int .i64 qd] 3)).drew := ((below_new W1 _).alloc (below_new W1 _).size _).drew
              have I0 := ints_new W1 qc qd HO2.out HO3.out
              have I1 : IntsAt (W1.alloc (.cells #[.int .i64 qc, .int .i64 qd] 3)).drew W1.heap.size [qc, qd] := intsKept I0 (Below.refl _ _).drew
              have I2a : IntsAt ((W1.alloc (.cells #[.int .i64 qc, .int .i64 qd] 3)).alloc (.cells #[.int .i64 qc, .int .i64 qd] 3)).drew W1.heap.size [qc, qd] := intsKept I0 (below_new _ _).drew
              have I2b : IntsAt ((W1.alloc (.cells #[.int .i64 qc, .int .i64 qd] 3)).alloc (.cells #[.int .i64 qc, .int .i64 qd] 3)).drew (W1.heap.size + 1) [qc, qd] := by
                have := ints_new (W1.alloc (.cells #[.int .i64 qc, .int .i64 qd] 3)) qc qd HO2.out HO3.out
                rw [World.size_alloc] at this; exact intsKept this (Below.refl _ _).drew
              have la : W1.heap.size < ((W1.alloc (.cells #[.int .i64 qc, .int .i64 qd] 3)).alloc (.cells #[.int .i64 qc, .int .i64 qd] 3)).drew.heap.size := by
                show _ < ((W1.alloc _).alloc _).heap.size; simp; omega
              have lb : W1.heap.size + 1 < ((W1.alloc (.cells #[.int .i64 qc, .int .i64 qd] 3)).alloc (.cells #[.int .i64 qc, .int .i64 qd] 3)).drew.heap.size := by
                show _ < ((W1.alloc _).alloc _).heap.size; simp
              have LA := Lib.hid la
              have LB := Lib.hid lb
              clear I0 la lb
              have IN : Hid (∀ X : World, IntsAt (X.alloc (.cells #[.int .i64 qc, .int .i64 qd] 3)) X.heap.size [qc, qd]) := fun X => ints_new X qc qd HO2.out HO3.out
              have SC : Hid (∀ X : World, Below W1.heap.size W1 X → (X.cell? ⟨wr.heap.size, 2, none⟩ = some (.int .i64 qc) ∧ X.cell? ⟨wr.heap.size, 3, none⟩ = some (.int .i64 qd))) := fun X h =>
                ⟨(h.cell (p := ⟨wr.heap.size, 2, none⟩) wl1).trans x2, (h.cell (p := ⟨wr.heap.size, 3, none⟩) wl1).trans x3⟩
              have SD : Hid (∀ X : World, (X.cell? ⟨wr.heap.size, 2, none⟩ = some (.int .i64 qc) ∧ X.cell? ⟨wr.heap.size, 3, none⟩ = some (.int .i64 qd)) → wr.heap.size < X.heap.size → ((X.alloc (.cells #[.int .i64 qc, .int .i64 qd] 3)).cell? ⟨wr.heap.size, 2, none⟩ = some (.int .i64 qc) ∧ (X.alloc (.cells #[.int .i64 qc, .int .i64 qd] 3)).cell? ⟨wr.heap.size, 3, none⟩ = some (.int .i64 qd))) := fun X h hl =>
                ⟨((below_new X _).cell (p := ⟨wr.heap.size, 2, none⟩) hl).trans h.1, ((below_new X _).cell (p := ⟨wr.heap.size, 3, none⟩) hl).trans h.2⟩
              clear x2 x3
              go_cut [192] (fun c wx => c = .bool false ∧ Below w.heap.size w wx ∧ Plays w.heap.size (w.heap.size + 1) (w1.heap.size + 1) room k wx)
              case first =>
                go_region_held3 (fun w' => w'.cell? ⟨wr.heap.size, 2, none⟩ = some (.int .i64 qc) ∧ w'.cell? ⟨wr.heap.size, 3, none⟩ = some (.int .i64 qd)) (first | exact SC.out _ B0 | exact SC.out _ B1 | exact SC.out _ B2 | exact hs2.out | exact SD.out _ hs2.out hl2 | exact ⟨t2 hs2.out.1, t3 hs2.out.2⟩ | exact ⟨t2 (SD.out _ hs2.out hl2).1, t3 (SD.out _ hs2.out hl2).2⟩)
                  (first
                    | (go_at_call 11; with_reducible refine (HSW.out _ _ (by first | exact B1 | exact B2) (by first | exact I1 | exact I2a | exact I2b)).mono ?_; rintro e w2 ⟨h, rfl, hs2', hl2, hbw2, hI2', hR2'⟩; have hs2 := Lib.hid hs2'; have hI2 := Lib.hid hI2'; have hR2 := Lib.hid hR2'; clear hs2' hI2' hR2')
                    | (go_at_call 12; with_reducible refine (hR2.out _ _ (below_new _ _) (IN.out _)).mono ?_; rintro e w3 ⟨rfl, t2, t3, hbw3, hP3⟩)
                    | (go_at_call 12; with_reducible refine (hR2.out _ _ (Below.refl _ _) (by first | exact hI2.out _ wl2 LA.out I2a | exact hI2.out _ wl3 LB.out I2b)).mono ?_; rintro e w3 ⟨rfl, t2, t3, hbw3, hP3⟩))
                all_goals
                  go_wp2_with fail
                  go_meet
                  case rel => exact ⟨by simp, hbw3, hP3⟩
              case rest =>
                as_aux_lemma =>
                  obtain ⟨rfl, hbc, hPc⟩ := hcut
                  have HPT := Lib.hid (hPc.more (Nat.le_succ k))
                  have HBT := Lib.hid hbc
                  clear hbc hPc HSW IN SC SD I1 I2a I2b B0 B1 B2
                  obtain ⟨tbm, tv, tns, tL, tnext, trm, tRL, tP, tc⟩ := HPT.out
                  have tlen := tP.lens
                  have tPd := tP.new (Below.refl _ wc).drew
                  have HLN := Lib.hid (len_any tPd.arena)
                  obtain ⟨tD, htD, htR⟩ := tPd.ref.hmap
                  have hln : ∀ ty, (Builtin.len_ #[31] ty #[.map (some trm)]).run Tryd.prog wc.drew = .ok (.int .i64 (tL.length : Int)) wc.drew := fun ty => by
                    have := htD.len Tryd.underlying31 ty
                    rwa [htR.size, ← tlen] at this
                  have tcm := tPd.ref.cmap
                  clear tlen tP tPd htD htR
                  generalize tL.length = ln at *
                  go_wp2_with fail
                  go_region_held_law (fun w' => w'.cell? ⟨w1.heap.size + 1, 1, none⟩ = some (.map (some trm))) (exact tcm) (first | (go_at_call 18; refine HLN.out.mono ?_; rintro e wz ⟨rfl, rfl⟩) | (refine step_len rfl _ 31 rfl rfl hln ?_))
                  all_goals
                    go_wp2
                    go_roundw
                    case rel => exact ⟨k + 1, by omega, by go_num, HPT.out.new (Below.refl _ _).drew, HBT.out.drew⟩
                    case measure => simp [intOf]; omega
          ·
            as_aux_lemma =>
              have HGT := Lib.hid (get_any hPl.arena qc ok2 (by omega))
              have HLK : Hid (∀ X, Below (wr.alloc (.cells #[.int .i64 qa, .int .i64 qb, .int .i64 qc, .int .i64 qd] 35)).heap.size (wr.alloc (.cells #[.int .i64 qa, .int .i64 qb, .int .i64 qc, .int .i64 qd] 35)) X → (Instr.lookup 31 (.map (some rm)) (.int .i64 qc) true).run Tryd.prog X = .ok (.tuple #[.agg #[.int .i64 (getOf ns qc).v, .int .i64 (getOf ns qc).l, .int .i64 (getOf ns qc).h], .bool (decide (topOf ns qc ≠ 24))]) X) := fun X hX => look_ref (hPl.new hX).ref hP0.ranked qc ok2
              have HTP : Hid (∀ X, Below (wr.alloc (.cells #[.int .i64 qa, .int .i64 qb, .int .i64 qc, .int .i64 qd] 35)).heap.size (wr.alloc (.cells #[.int .i64 qa, .int .i64 qb, .int .i64 qc, .int .i64 qd] 35)) X → Calls Tryd.prog 14 #[.pointer (some ⟨w.heap.size + 1, 0, none⟩), .int .i64 qc] X fun e w' => e = .returned (.int .i64 (topOf ns qc)) ∧ X = w') := fun X hX => top_any (hPl.new hX).arena qc ok2 (by omega)
              have HTR : Hid (∀ X, Below (wr.alloc (.cells #[.int .i64 qa, .int .i64 qb, .int .i64 qc, .int .i64 qd] 35)).heap.size (wr.alloc (.cells #[.int .i64 qa, .int .i64 qb, .int .i64 qc, .int .i64 qd] 35)) X → Calls Tryd.prog 15 #[.pointer (some ⟨w1.heap.size + 1, 0, none⟩), .int .i64 qc] X fun e w' => e = .returned (.int .i64 (topOf ns qc)) ∧ Below X.heap.size X w') := fun X hX => rtop_any (hPl.new hX).ref hP0.ranked qc ok2
              have HHP : Hid (∀ X, Below (wr.alloc (.cells #[.int .i64 qa, .int .i64 qb, .int .i64 qc, .int .i64 qd] 35)).heap.size (wr.alloc (.cells #[.int .i64 qa, .int .i64 qb, .int .i64 qc, .int .i64 qd] 35)) X → Calls Tryd.prog 16 #[.pointer (some ⟨w.heap.size + 1, 0, none⟩), .int .i64 qc] X fun e w' => e = .returned (.bool (hasB ns qc)) ∧ X = w') := fun X hX => has_any (hPl.new hX).arena qc ok2 (by omega)
              have HHR : Hid (∀ X, Below (wr.alloc (.cells #[.int .i64 qa, .int .i64 qb, .int .i64 qc, .int .i64 qd] 35)).heap.size (wr.alloc (.cells #[.int .i64 qa, .int .i64 qb, .int .i64 qc, .int .i64 qd] 35)) X → Calls Tryd.prog 17 #[.pointer (some ⟨w1.heap.size + 1, 0, none⟩), .int .i64 qc] X fun e w' => e = .returned (.bool (hasB ns qc)) ∧ Below X.heap.size X w') := fun X hX => rhas_any (hPl.new hX).ref hP0.ranked qc ok2
              have HPl : Hid (Plays w.heap.size (w.heap.size + 1) (w1.heap.size + 1) room k (wr.alloc (.cells #[.int .i64 qa, .int .i64 qb, .int .i64 qc, .int .i64 qd] 35))) := ⟨bm, av, ns, L, next, rm, RL, hPl, hns⟩
              have HB1 := Lib.hid hB1
              have rcm := hPl.ref.cmap
              have rlt := hPl.ref.lt
              unfold Nd.val at HGT
              generalize topOf ns qc = tq at *
              generalize hasB ns qc = hq at *
              generalize decide (tq ≠ 24) = tb at *
              generalize getOf ns qc = gn at *
              obtain ⟨gv, gl, gh⟩ := gn
              simp only at HGT HLK
              clear hP0 hPl hB hown hge hB1 hbx ok1 ok2 ok3 x0 x1 x3
              go_wp2_with fail
              refine HGT.out.mono ?_
              rintro e w2 ⟨rfl, hb2⟩
              have HS4 := Lib.hid hs4
              clear hs4 q0 q1 q2 q3 HGT
              generalize (wr.alloc (.cells #[.int .i64 qa, .int .i64 qb, .int .i64 qc, .int .i64 qd] 35)) = W1 at *
              have wl1 : wr.heap.size < W1.heap.size := by have := HS4.out; omega
              have hb2s := hb2.size
              have b3 := hb2.alloc hb2s (.cells #[.int .i64 gv, .int .i64 gl, .int .i64 gh] 39)
              obtain ⟨n0, n1, n2, -⟩ := cell3 w2 (.int .i64 gv) (.int .i64 gl) (.int .i64 gh) 39
              have wl2 : wr.heap.size < w2.heap.size := by omega
              have hs3 : (w2.alloc (.cells #[.int .i64 gv, .int .i64 gl, .int .i64 gh] 39)).heap.size = w2.heap.size + 1 := by simp
              have y2 := (b3.cell (p := ⟨wr.heap.size, 2, none⟩) wl1).trans x2
              have ym := (b3.cell (p := ⟨w1.heap.size + 1, 1, none⟩) rlt).trans rcm
              have HS3 := Lib.hid hs3
              have B3 := Lib.hid b3
              clear x2 rcm hs3 hb2 b3
              go_wp2_with fail
              generalize (w2.alloc (.cells #[.int .i64 gv, .int .i64 gl, .int .i64 gh] 39)) = W3 at *
              have hb3s := B3.out.size
              have hrun := HLK.out _ B3.out.drew
              have D0 : W3.drew.cell? ⟨w1.heap.size + 1, 1, none⟩ = some (.map (some rm)) ∧ W3.drew.cell? ⟨wr.heap.size, 2, none⟩ = some (.int .i64 qc) := ⟨ym, y2⟩
              have BN : Hid (∀ o, Below W3.heap.size W3 (W3.alloc o).drew) := fun o => (below_new W3 o).drew
              have D1 : ∀ o, (W3.alloc o).drew.cell? ⟨w1.heap.size + 1, 1, none⟩ = some (.map (some rm)) ∧ (W3.alloc o).drew.cell? ⟨wr.heap.size, 2, none⟩ = some (.int .i64 qc) := fun o =>
                ⟨((BN.out o).cell (p := ⟨w1.heap.size + 1, 1, none⟩) (by show w1.heap.size + 1 < _; omega)).trans ym, ((BN.out o).cell (p := ⟨wr.heap.size, 2, none⟩) (by show wr.heap.size < _; omega)).trans y2⟩
              have hrun2 := HLK.out _ (B3.out.trans ((BN.out (.cells #[.int .i64 0, .int .i64 0, .int .i64 0] 42)).mono hb3s))
              have HD1 := Lib.hid D1
              clear D1
              obtain ⟨m0, m1, m2, -⟩ := cell3 W3 (.int .i64 gv) (.int .i64 gl) (.int .i64 gh) 42
              have BM := Lib.hid (BN.out (.cells #[.int .i64 gv, .int .i64 gl, .int .i64 gh] 42))
              go_cut [16, 17] (fun p f wx => p = .pointer (some ⟨W3.heap.size, 0, none⟩) ∧ f = .bool tb ∧ wx.cell? ⟨W3.heap.size, 0, none⟩ = some (.int .i64 gv) ∧ wx.cell? ⟨W3.heap.size, 1, none⟩ = some (.int .i64 gl) ∧ wx.cell? ⟨W3.heap.size, 2, none⟩ = some (.int .i64 gh) ∧ Below W3.heap.size W3 wx)
              case first =>
                go_region_held3 (fun w' => w'.cell? ⟨w1.heap.size + 1, 1, none⟩ = some (.map (some rm)) ∧ w'.cell? ⟨wr.heap.size, 2, none⟩ = some (.int .i64 qc)) (first | exact D0 | exact HD1.out _) (first | fail)
                all_goals
                  go_wp2_with fail
                  go_meet
                  case rel => exact ⟨rfl, rfl, m0, m1, m2, BM.out⟩
              case rest =>
                as_aux_lemma =>
                  obtain ⟨rfl, rfl, z0, z1, z2, hbc⟩ := hcut
                  have hbcs := hbc.size
                  have lw3 : w2.heap.size < W3.heap.size := by have := HS3.out; omega
                  have p0 := (hbc.cell (p := ⟨w2.heap.size, 0, none⟩) lw3).trans n0
                  have p1 := (hbc.cell (p := ⟨w2.heap.size, 1, none⟩) lw3).trans n1
                  have p2 := (hbc.cell (p := ⟨w2.heap.size, 2, none⟩) lw3).trans n2
                  have px := (hbc.cell (p := ⟨wr.heap.size, 2, none⟩) (by show wr.heap.size < _; omega)).trans y2
                  have lwc : W3.heap.size < wc.heap.size := World.block_lt_of_cell? _ _ z0
                  have BC := Lib.hid (B3.out.trans (hbc.mono hb3s))
                  have lw1 : w2.heap.size < wc.heap.size := by omega
                  have lwr : wr.heap.size < wc.heap.size := by omega
                  have SC : Hid (∀ X, Below wc.heap.size wc X → (X.cell? ⟨w2.heap.size, 0, none⟩ = some (.int .i64 gv) ∧ X.cell? ⟨w2.heap.size, 1, none⟩ = some (.int .i64 gl) ∧ X.cell? ⟨w2.heap.size, 2, none⟩ = some (.int .i64 gh) ∧ X.cell? ⟨W3.heap.size, 0, none⟩ = some (.int .i64 gv) ∧ X.cell? ⟨W3.heap.size, 1, none⟩ = some (.int .i64 gl) ∧ X.cell? ⟨W3.heap.size, 2, none⟩ = some (.int .i64 gh) ∧ X.cell? ⟨wr.heap.size, 2, none⟩ = some (.int .i64 qc))) := fun X h =>
                    ⟨(h.cell (p := ⟨w2.heap.size, 0, none⟩) lw1).trans p0, (h.cell (p := ⟨w2.heap.size, 1, none⟩) lw1).trans p1, (h.cell (p := ⟨w2.heap.size, 2, none⟩) lw1).trans p2, (h.cell (p := ⟨W3.heap.size, 0, none⟩) lwc).trans z0, (h.cell (p := ⟨W3.heap.size, 1, none⟩) lwc).trans z1, (h.cell (p := ⟨W3.heap.size, 2, none⟩) lwc).trans z2, (h.cell (p := ⟨wr.heap.size, 2, none⟩) lwr).trans px⟩
                  have SB : Hid (∀ X, Below wc.heap.size wc X → Below W1.heap.size W1 X) := fun X h => BC.out.trans (h.mono BC.out.size)
                  have C0 : Below wc.heap.size wc wc.drew := (Below.refl _ _).drew
                  have ht : (tb != tb) = false := by simp
                  have hv : (gv != gv) = false := by simp
                  have hl : (gl != gl) = false := by simp
                  have hh : (gh != gh) = false := by simp
                  have htq : (tq != tq) = false := by simp
                  have hhq : (hq != hq) = false := by simp
                  clear hrun hrun2 HLK HD1 D0 BN BM m0 m1 m2 n0 n1 n2 y2 ym z0 z1 z2 p0 p1 p2 px hbc B3
                  go_wp2_with fail
                  go_region_held3 (fun X => X.cell? ⟨w2.heap.size, 0, none⟩ = some (.int .i64 gv) ∧ X.cell? ⟨w2.heap.size, 1, none⟩ = some (.int .i64 gl) ∧ X.cell? ⟨w2.heap.size, 2, none⟩ = some (.int .i64 gh) ∧ X.cell? ⟨W3.heap.size, 0, none⟩ = some (.int .i64 gv) ∧ X.cell? ⟨W3.heap.size, 1, none⟩ = some (.int .i64 gl) ∧ X.cell? ⟨W3.heap.size, 2, none⟩ = some (.int .i64 gh) ∧ X.cell? ⟨wr.heap.size, 2, none⟩ = some (.int .i64 qc)) (first | exact SC.out _ C0 | exact SC.out _ hc6 | exact SC.out _ hc7)
                    (first
                      | (go_at_call 14; with_reducible refine (HTP.out _ (SB.out _ C0)).mono ?_; rintro e wz ⟨rfl, rfl⟩)
                      | (go_at_call 15; with_reducible refine (HTR.out _ (SB.out _ C0)).mono ?_; rintro e w6 ⟨rfl, hb6⟩; have hc6 := C0.trans (hb6.mono C0.size))
                      | (go_at_call 16; with_reducible refine (HHP.out _ (SB.out _ hc6)).mono ?_; rintro e wz ⟨rfl, rfl⟩)
                      | (go_at_call 17; with_reducible refine (HHR.out _ (SB.out _ hc6)).mono ?_; rintro e w7 ⟨rfl, hb7⟩; have hc7 := hc6.trans (hb7.mono hc6.size)))
                  have HPT := Lib.hid ((HPl.out.more (Nat.le_succ k)).new (SB.out _ hc7))
                  have HBT := Lib.hid (HB1.out.trans ((SB.out _ hc7).mono HB1.out.size))
                  clear HTP HTR HHP HHR HPl HB1 SC SB C0 BC hb6 hc6 hb7 hc7 ht hv hl hh htq hhq
                  obtain ⟨tbm, tv, tns, tL, tnext, trm, tRL, tP, tc⟩ := HPT.out
                  have tlen := tP.lens
                  have tPd := tP.new (Below.refl _ w7).drew
                  have HLN := Lib.hid (len_any tPd.arena)
                  obtain ⟨tD, htD, htR⟩ := tPd.ref.hmap
                  have hln : ∀ ty, (Builtin.len_ #[31] ty #[.map (some trm)]).run Tryd.prog w7.drew = .ok (.int .i64 (tL.length : Int)) w7.drew := fun ty => by
                    have := htD.len Tryd.underlying31 ty
                    rwa [htR.size, ← tlen] at this
                  have tcm := tPd.ref.cmap
                  clear tlen tP tPd htD htR
                  generalize tL.length = ln at *
                  go_wp2_with fail
                  go_region_held_law (fun w' => w'.cell? ⟨w1.heap.size + 1, 1, none⟩ = some (.map (some trm))) (exact tcm) (first | (go_at_call 18; refine HLN.out.mono ?_; rintro e wz ⟨rfl, rfl⟩) | (refine step_len rfl _ 31 rfl rfl hln ?_))
                  all_goals
                    go_wp2
                    go_roundw
                    case rel => exact ⟨k + 1, by omega, by go_num, HPT.out.new (Below.refl _ _).drew, HBT.out.drew⟩
                    case measure => simp [intOf]; omega
    · go_wp2
      go_ret
      exact ⟨rfl, hB⟩
end Go.Proofs.YtllobejhkajobaaDoor
