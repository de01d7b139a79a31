/- The reference: versions against each other; a number of a text. -/
import Derived.Test.YtbohpflbifoohaaGreatDoorSvCmpI
namespace Go.Proofs.YtbohpflbifoohaaGreatDoor
open Go.RowKit Sv

set_option maxRecDepth 100000 in
set_option maxHeartbeats 1000000 in
theorem rcmp_any (a b c d e f : Int) (w : World) :
    Calls Tryz.prog 13 #[.agg #[.int .i64 a, .int .i64 b, .int .i64 c], .agg #[.int .i64 d, .int .i64 e, .int .i64 f]] w fun r w' => r = .returned (.int .i64 (cmp3 (tI a b c) (tI d e f) 3)) ∧ Below w.heap.size w w' := by
  have kv := (Blk.new w 24 #[.int .i64 a, .int .i64 b, .int .i64 c]).alloc (.cells #[.int .i64 d, .int .i64 e, .int .i64 f] 24)
  have kw := Blk.new (w.alloc (.cells #[.int .i64 a, .int .i64 b, .int .i64 c] 24)) 24 #[.int .i64 d, .int .i64 e, .int .i64 f]
  rw [World.size_alloc] at kw
  have hB0 : Below w.heap.size w ((w.alloc (.cells #[.int .i64 a, .int .i64 b, .int .i64 c] 24)).alloc (.cells #[.int .i64 d, .int .i64 e, .int .i64 f] 24)) := ((Below.refl _ w).alloc (Nat.le_refl _) _).alloc (by simp only [World.size_alloc]; omega) _
  have HB0 := Lib.hid hB0
  have HX : Hid (∀ W, Below ((w.alloc (.cells #[.int .i64 a, .int .i64 b, .int .i64 c] 24)).alloc (.cells #[.int .i64 d, .int .i64 e, .int .i64 f] 24)).heap.size ((w.alloc (.cells #[.int .i64 a, .int .i64 b, .int .i64 c] 24)).alloc (.cells #[.int .i64 d, .int .i64 e, .int .i64 f] 24)) W → ∀ j, j < 3 → W.cell? ⟨w.heap.size, j, none⟩ = some (.int .i64 (tI a b c j)) ∧ W.cell? ⟨w.heap.size + 1, j, none⟩ = some (.int .i64 (tI d e f j))) := fun W hb j hj => by
    rw [(kv.below hb kv.lt).cell j, (kw.below hb kw.lt).cell j]
    match j, hj with
    | 0, _ => exact ⟨rfl, rfl⟩
    | 1, _ => exact ⟨rfl, rfl⟩
    | 2, _ => exact ⟨rfl, rfl⟩
  clear kv kw hB0
  go_enter Tryz.func13, Tryz.ntmps13
  go_wp2_with fail
  generalize (w.alloc (.cells #[.int .i64 a, .int .i64 b, .int .i64 c] 24)).alloc (.cells #[.int .i64 d, .int .i64 e, .int .i64 f] 24) = W0 at *
  go_loopw [6] (fun iV wr => ∃ k : Nat, k ≤ 3 ∧ iV = .int .i64 (k : Int) ∧ cmp3 (tI a b c) (tI d e f) 3 = cmp3 (tI a b c) (tI d e f) (3 - k) ∧ Below W0.heap.size W0 wr) (fun iV _ => 3 - (intOf iV).toNat)
  case atStart => exact ⟨0, by omega, rfl, rfl, Below.refl _ _⟩
  case round =>
    obtain ⟨k, hk, rfl, heq, hbr⟩ := hrel
    have HE := Lib.hid heq
    have HBR := Lib.hid hbr
    clear heq hbr
    by_cases hlt : k < 3
    · have hcells := fun (n : Nat) => HX.out (wr.drewN n) ⟨HBR.out.os, HBR.out.tape, HBR.out.output, HBR.out.size, HBR.out.block⟩ k hlt
      obtain ⟨c0, c1⟩ := HX.out wr HBR.out k hlt
      have HS : Hid (cmp3 (tI a b c) (tI d e f) (3 - k) = if cmpI (tI a b c k) (tI d e f k) ≠ 0 then cmpI (tI a b c k) (tI d e f k) else cmp3 (tI a b c) (tI d e f) (3 - (k + 1))) := by
        show _ = _
        match k, hlt with
        | 0, _ => rfl
        | 1, _ => rfl
        | 2, _ => rfl
      have HCL := Lib.hid hcells
      clear hcells
      generalize tI a b c k = X at *
      generalize tI d e f k = Y at *
      have HBN : Hid (∀ n, Below W0.heap.size W0 (wr.drewN n)) := fun n => ⟨HBR.out.os, HBR.out.tape, HBR.out.output, HBR.out.size, HBR.out.block⟩
      by_cases h1 : X < Y
      · have HC : Hid (cmpI X Y = -1) := by show _ = _; unfold cmpI; rw [if_pos h1]
        go_wp2_with fail
        go_quiet (fail)
        go_wp2
        go_ret
        exact ⟨by rw [HE.out, HS.out, HC.out]; rfl, HB0.out.trans ((HBN.out _).mono HB0.out.size)⟩
      · by_cases h2 : Y < X
        · have HC : Hid (cmpI X Y = 1) := by show _ = _; unfold cmpI; rw [if_neg h1, if_pos h2]
          go_wp2_with fail
          go_quiet (fail)
          have d0 := (HCL.out nq).1
          have d1 := (HCL.out nq).2
          have HB9 := Lib.hid (HBN.out nq)
          clear c0 c1 HBN HCL
          generalize wr.drewN nq = W9 at *
          go_wp2_with fail
          go_quiet (fail)
          have HBN : Hid (∀ n, Below W0.heap.size W0 (W9.drewN n)) := fun n => ⟨HB9.out.os, HB9.out.tape, HB9.out.output, HB9.out.size, HB9.out.block⟩
          go_wp2
          go_ret
          exact ⟨by rw [HE.out, HS.out, HC.out]; rfl, HB0.out.trans ((HBN.out _).mono HB0.out.size)⟩
        · have HC : Hid (cmpI X Y = 0) := by show _ = _; unfold cmpI; rw [if_neg h1, if_neg h2]
          go_wp2_with fail
          go_quiet (fail)
          have d0 := (HCL.out nq).1
          have d1 := (HCL.out nq).2
          have HB9 := Lib.hid (HBN.out nq)
          clear c0 c1 HBN HCL
          generalize wr.drewN nq = W9 at *
          go_wp2_with fail
          go_quiet (fail)
          have HBN : Hid (∀ n, Below W0.heap.size W0 (W9.drewN n)) := fun n => ⟨HB9.out.os, HB9.out.tape, HB9.out.output, HB9.out.size, HB9.out.block⟩
          go_wp2
          go_roundw
          case rel => exact ⟨k + 1, by omega, by go_num, by rw [HE.out, HS.out, HC.out, if_neg (by simp)], HBN.out _⟩
          case measure => simp [intOf]; omega
    · obtain rfl : k = 3 := by omega
      go_wp2
      go_ret
      exact ⟨by rw [HE.out]; rfl, HB0.out.trans (HBR.out.mono HB0.out.size)⟩
end Go.Proofs.YtbohpflbifoohaaGreatDoor
