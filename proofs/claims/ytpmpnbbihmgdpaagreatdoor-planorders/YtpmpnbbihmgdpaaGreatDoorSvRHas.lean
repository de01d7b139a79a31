/- The reference: is a version in a range; the program's answer by the same word. -/
import Derived.Test.YtpmpnbbihmgdpaaGreatDoorSvShelfC
import Derived.Test.YtpmpnbbihmgdpaaGreatDoorSvHas
import Derived.Test.YtpmpnbbihmgdpaaGreatDoorSvOut
import Derived.Test.YtpmpnbbihmgdpaaGreatDoorErAt
import Derived.Test.YtpmpnbbihmgdpaaGreatDoorSvTurns
set_option maxHeartbeats 1000000
set_option maxRecDepth 100000
namespace Go.Proofs.YtpmpnbbihmgdpaaGreatDoor
open Go.RowKit Go.Shelf Sv
def okP (x : Int) : Bool := decide (0 <= x /\ x <= 999)
def hasB (l : List Span) (a b c : Int) : Bool := if okP a && okP b && okP c then inP (tp l) (numV a.toNat b.toNat c.toNat) else false
theorem ridx0 (A B C : Int) (W : World) : (Instr.index 44 (.agg #[.int .i64 A, .int .i64 B, .int .i64 C]) (.int .i64 0)).run Tryz.prog W = .ok (.int .i64 A) W := by kernel_rfl
theorem ridx1 (A B C : Int) (W : World) : (Instr.index 44 (.agg #[.int .i64 A, .int .i64 B, .int .i64 C]) (.int .i64 1)).run Tryz.prog W = .ok (.int .i64 B) W := by kernel_rfl
theorem ridx2 (A B C : Int) (W : World) : (Instr.index 44 (.agg #[.int .i64 A, .int .i64 B, .int .i64 C]) (.int .i64 2)).run Tryz.prog W = .ok (.int .i64 C) W := by kernel_rfl
theorem rhas_any (l : List Span) (hl : Rg l) (v : Value) (a b c : Int) (w : World) (hv : NsAt w v (tp l)) :
  Calls Tryz.prog 141 #[v, .agg #[.int .i64 a, .int .i64 b, .int .i64 c]] w fun e w' => e = .returned (.bool (hasB l a b c)) /\ Below w.heap.size w w' := by
 obtain ⟨va, vc, rfl⟩ := hv.form
 have kv := Blk.new w 44 #[.int .i64 a, .int .i64 b, .int .i64 c]
 have hB0 : Below w.heap.size w (w.alloc (.cells #[.int .i64 a, .int .i64 b, .int .i64 c] 44)) := (Below.refl _ w).alloc (Nat.le_refl _) _
 have HV := Lib.hid hv
 have HKV := Lib.hid kv
 have HB0 := Lib.hid hB0
 have HTL := Lib.hid (tp_small hl)
 have HWI : Hid (∀ x W, Calls Tryz.prog 195 #[.int .i64 x, .int .i64 0, .int .i64 999] W fun e w' => e = .returned (.bool (okP x)) /\ W = w') := fun x W => within_any x 0 999 W
 have HHB : Hid (hasB l a b c = if okP a && okP b && okP c then inP (tp l) (numV a.toNat b.toNat c.toNat) else false) := rfl
 clear hv kv hB0 hl
 generalize hasB l a b c = RB at *
 go_enter Tryz.func141, Tryz.ntmps141
 go_wp2_with fail
 generalize w.alloc (.cells #[.int .i64 a, .int .i64 b, .int .i64 c] 44) = W0 at *
 go_loopw [8] (fun iV wr => ∃ k : Nat, k <= 3 /\ iV = .int .i64 (k : Int) /\ (∀ j, j < k -> okP (tI a b c j) = true) /\ wr = W0) (fun iV _ => 3 - (intOf iV).toNat)
 case atStart => exact ⟨0, by omega, rfl, fun j h => by omega, rfl⟩
 case round =>
  obtain ⟨k, hk, rfl, hall, rfl⟩ := hrel
  have HALL := Lib.hid hall
  clear hall
  match k, hk with
  | 0, _ =>
   have hix := ridx0 a b c wr
   cases hok : okP a with
   | true =>
    have HW1 := Lib.hid (HWI.out a wr)
    rw [hok] at HW1
    have HN : Hid (∀ j, j < 1 -> okP (tI a b c j) = true) := fun j h => by
     obtain rfl : j = 0 := by omega
     exact hok
    clear hok
    go_wp2_with fail
    refine HW1.out.mono ?_
    rintro e w1 ⟨rfl, hw1⟩
    rw [<- hw1]
    clear hw1
    go_wp2
    go_roundw
    case rel => exact ⟨1, by omega, rfl, HN.out, trivial⟩
    case measure => simp [intOf]
   | false =>
    have HW1 := Lib.hid (HWI.out a wr)
    rw [hok] at HW1
    have hR : RB = false := by rw [HHB.out, hok]; rfl
    clear hok
    go_wp2_with fail
    refine HW1.out.mono ?_
    rintro e w1 ⟨rfl, hw1⟩
    rw [<- hw1]
    clear hw1
    go_wp2
    go_ret
    exact ⟨by rw [hR]; rfl, HB0.out⟩
  | 1, _ =>
   have hix := ridx1 a b c wr
   cases hok : okP b with
   | true =>
    have HW1 := Lib.hid (HWI.out b wr)
    rw [hok] at HW1
    have HN : Hid (∀ j, j < 2 -> okP (tI a b c j) = true) := fun j h => by
     match j, h with
     | 0, _ => exact HALL.out 0 (by omega)
     | 1, _ => exact hok
    clear hok
    go_wp2_with fail
    refine HW1.out.mono ?_
    rintro e w1 ⟨rfl, hw1⟩
    rw [<- hw1]
    clear hw1
    go_wp2
    go_roundw
    case rel => exact ⟨2, by omega, rfl, HN.out, trivial⟩
    case measure => simp [intOf]
   | false =>
    have HW1 := Lib.hid (HWI.out b wr)
    rw [hok] at HW1
    have hR : RB = false := by rw [HHB.out, hok]; simp
    clear hok
    go_wp2_with fail
    refine HW1.out.mono ?_
    rintro e w1 ⟨rfl, hw1⟩
    rw [<- hw1]
    clear hw1
    go_wp2
    go_ret
    exact ⟨by rw [hR]; rfl, HB0.out⟩
  | 2, _ =>
   have hix := ridx2 a b c wr
   cases hok : okP c with
   | true =>
    have HW1 := Lib.hid (HWI.out c wr)
    rw [hok] at HW1
    have HN : Hid (∀ j, j < 3 -> okP (tI a b c j) = true) := fun j h => by
     match j, h with
     | 0, _ => exact HALL.out 0 (by omega)
     | 1, _ => exact HALL.out 1 (by omega)
     | 2, _ => exact hok
    clear hok
    go_wp2_with fail
    refine HW1.out.mono ?_
    rintro e w1 ⟨rfl, hw1⟩
    rw [<- hw1]
    clear hw1
    go_wp2
    go_roundw
    case rel => exact ⟨3, by omega, rfl, HN.out, trivial⟩
    case measure => simp [intOf]
   | false =>
    have HW1 := Lib.hid (HWI.out c wr)
    rw [hok] at HW1
    have hR : RB = false := by rw [HHB.out, hok]; simp
    clear hok
    go_wp2_with fail
    refine HW1.out.mono ?_
    rintro e w1 ⟨rfl, hw1⟩
    rw [<- hw1]
    clear hw1
    go_wp2
    go_ret
    exact ⟨by rw [hR]; rfl, HB0.out⟩
  | 3, _ =>
   have oa : okP a = true := HALL.out 0 (by omega)
   have ob : okP b = true := HALL.out 1 (by omega)
   have oc : okP c = true := HALL.out 2 (by omega)
   have ia : 0 <= a /\ a <= 999 := of_decide_eq_true oa
   have ib : 0 <= b /\ b <= 999 := of_decide_eq_true ob
   have ic : 0 <= c /\ c <= 999 := of_decide_eq_true oc
   have HR : Hid (RB = inP (tp l) (numV a.toNat b.toNat c.toNat)) := by show _ = _; rw [HHB.out, oa, ob, oc]; rfl
   have HN : Hid (Calls Tryz.prog 109 #[.agg #[.int .i64 a, .int .i64 b, .int .i64 c]] wr fun e w' => e = .returned (.int .i64 (numV a.toNat b.toNat c.toNat : Int)) /\ Below wr.heap.size wr w') := by
    have := rnum_any a.toNat b.toNat c.toNat (by omega) (by omega) (by omega) wr
    rw [Int.toNat_of_nonneg ia.1, Int.toNat_of_nonneg ib.1, Int.toNat_of_nonneg ic.1] at this
    exact this
   have d0 : wr.cell? ⟨w.heap.size, 0, none⟩ = some (.int .i64 a) := HKV.out.cell 0
   have d1 : wr.cell? ⟨w.heap.size, 1, none⟩ = some (.int .i64 b) := HKV.out.cell 1
   have d2 : wr.cell? ⟨w.heap.size, 2, none⟩ = some (.int .i64 c) := HKV.out.cell 2
   clear oa ob oc ia ib ic
   generalize numV a.toNat b.toNat c.toNat = N at *
   go_wp2_with fail
   refine HN.out.mono ?_
   rintro e w1 ⟨rfl, hb1⟩
   have HB1 : Hid (Below w.heap.size w w1) := HB0.out.trans (hb1.mono HB0.out.size)
   have HI := Lib.hid (in_any (tp l) N _ w1 (HV.out.below HB1.out (Nat.le_refl _)) HTL.out)
   rw [<- HR.out] at HI
   clear hb1 HN d0 d1 d2 HV
   go_wp2_with fail
   refine HI.out.mono ?_
   rintro e w2 ⟨rfl, hw2⟩
   rw [hw2]
   clear hw2
   go_wp2
   go_ret
   exact ⟨rfl, HB1.out⟩
end Go.Proofs.YtpmpnbbihmgdpaaGreatDoor
