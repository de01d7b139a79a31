/- Blocks of cells. -/
import Derived.Test.YtcjjekhecjmaeaaGreatDoorCnCmp
import Derived.Test.YtcjjekhecjmaeaaGreatDoorImDig
import Derived.WalkKit
import Derived.RangeFuncBound
set_option maxHeartbeats 1000000
set_option maxRecDepth 100000
namespace Go.Proofs.YtcjjekhecjmaeaaGreatDoor
section
open Go.RowKit Num Go.Sort
theorem fits_cmp {v v1 : Value} {a ds1 : List Nat} {w W : World} (ha : Dig .u64 w v a) (na : ∀ i, dig a i < 1000000000) (la : a.length <= 10000) (hd1 : Dig .u64 W v1 ds1) (hn1 : Norm 1000000000 ds1) (hv1 : val 1000000000 ds1 = 9223372036854775807) (hb : Below w.heap.size w W) :
  Calls Tryz.prog 29 #[.agg #[v], .agg #[v1]] W fun e w' => e = .returned (.int .i64 (cmpN (val 1000000000 a) 9223372036854775807)) /\ Below W.heap.size W w' := by
 have h3 : ds1.length <= 3 := norm_len (by omega) hn1 (by rw [hv1]; omega)
 have := cmp_any v v1 a ds1 W (ha.below hb) hd1 na hn1.small la (by omega)
 rwa [hv1] at this
theorem fits_any (v : Value) (a : List Nat) (w : World) (ha : Dig .u64 w v a) (na : ∀ i, dig a i < 1000000000) (la : a.length <= 10000) :
  Calls Tryz.prog 161 #[.agg #[v]] w fun e w' => (val 1000000000 a <= 9223372036854775807 -> e = .returned (.tuple #[.int .i64 (val 1000000000 a : Nat), .bool true])) /\ (9223372036854775807 < val 1000000000 a -> e = .returned (.tuple #[.int .i64 0, .bool false])) /\ Below w.heap.size w w' := by
 obtain ⟨aa, ca, eva, hca, hcella⟩ := id ha
 subst eva
 go_enter Tryz.func161, Tryz.ntmps161
 go_upto_region 1 with fail
 go_cut [10] (fun c wx => c = .bool (decide (9223372036854775807 < val 1000000000 a)) /\ Below (w.heap.size + 1) (w.alloc (.cells #[.slice aa a.length ca] 30)) wx)
 case first =>
  go_region_with (first
   | (go_at_call 108; refine (of_any _ _ (by omega) (by omega)).mono ?_; rintro e w1 ⟨v1, rfl, ds1, hd1, hn1, hv1, hb1⟩; have hbw : Below w.heap.size w w1 := (((Below.refl _ _).alloc (Nat.le_refl _) _).drew).trans (hb1.mono (by simp)); have hc1 : w1.cell? ⟨w.heap.size, 0, none⟩ = some (.slice aa a.length ca) := (hb1.cell (p := ⟨w.heap.size, 0, none⟩) (by simp)).trans (by simp))
   | (go_at_call 29; refine (fits_cmp ha na la hd1 hn1 hv1 hbw).mono ?_; rintro e w2 ⟨rfl, hb2⟩; have hbx : Below (w.heap.size + 1) (w.alloc (.cells #[.slice aa a.length ca] 30)) w2 := ((Below.refl _ _).drew.trans (hb1.mono (by simp))).trans (hb2.mono (by have := hb1.size; simp at this; omega))))
  all_goals
   go_wp2_with fail
   go_meet
   case rel => exact ⟨congrArg Value.bool (cmpN_pos _ _), hbx⟩
 case rest =>
  obtain ⟨rfl, hbel⟩ := hcut
  have hbw : Below w.heap.size w wc := ((Below.refl _ _).alloc (Nat.le_refl _) _).trans (hbel.mono (by omega))
  by_cases hbig : 9223372036854775807 < val 1000000000 a
  ·have hd : decide (9223372036854775807 < val 1000000000 a) = true := by simp [hbig]
   rw [hd]
   have HB : Hid (9223372036854775807 < val 1000000000 a) := hbig
   clear hd hbig
   go_wp2
   go_ret2
   exact ⟨fun h => by have := HB.out; omega, fun _ => rfl, hbw⟩
  ·have hd : decide (9223372036854775807 < val 1000000000 a) = false := by simp [hbig]
   rw [hd]
   have HB : Hid (val 1000000000 a <= 9223372036854775807) := by show _ <= _; omega
   clear hd hbig
   have c0 : wc.cell? ⟨w.heap.size, 0, none⟩ = some (.slice aa a.length ca) := (hbel.cell (p := ⟨w.heap.size, 0, none⟩) (by simp)).trans (by simp)
   go_wp2_with fail
   go_loop [5, 15] (fun o i => ∃ k t : Nat, k <= a.length /\ i = .int .i64 k /\ o = .int .i64 t /\ val 1000000000 a = t * 1000000000 ^ (a.length - k) + S 1000000000 (dig a) (a.length - k)) (fun _ i => a.length - (intOf i).toNat)
   case atStart => exact ⟨0, 0, Nat.zero_le _, rfl, rfl, by simp [val]⟩
   case round =>
    obtain ⟨k, t, hk, rfl, rfl, hval⟩ := hrel
    by_cases hlt : k < a.length
    ·obtain ⟨b, off, haa, hbb, hcl⟩ := hcella (a.length - 1 - k) (by omega)
     subst haa
     have hcl' : wc.cell? ⟨b, off + (a.length - 1 - k), none⟩ = some (.int .u64 ((dig a (a.length - 1 - k) : Nat) : Int)) := (hbw.cell (p := ⟨b, off + (a.length - 1 - k), none⟩) hbb).trans hcl
     have hval2 := hval
     rw [show a.length - k = (a.length - 1 - k) + 1 by omega] at hval2
     have hst := fits_step hval2
     have hle := fits_le (by omega) hst
     have HV := HB.out
     have hdd := na (a.length - 1 - k)
     have HS : Hid (val 1000000000 a = (t * 1000000000 + dig a (a.length - 1 - k)) * 1000000000 ^ (a.length - 1 - k) + S 1000000000 (dig a) (a.length - 1 - k)) := hst
     have hle2 : t * 1000000000 + dig a (a.length - 1 - k) <= 9223372036854775807 := by omega
     clear hst hval2 hval hcl hle HV
     have e1 : ((a.length : Int) - 1 - k).toNat = a.length - 1 - k := by omega
     generalize hD : dig a (a.length - 1 - k) = D at *
     have HD : Hid (dig a (a.length - 1 - k) = D) := hD
     clear hD
     go_wp2
     go_round
     case rel =>
      refine ⟨k + 1, t * 1000000000 + D, by omega, by go_num, by go_num, ?_⟩
      rw [show a.length - (k + 1) = a.length - 1 - k by omega]
      exact HS.out
     case measure => simp [intOf]; omega
    ·obtain rfl : k = a.length := by omega
     have HT : Hid (val 1000000000 a = t) := by show _ = _; simpa [S] using hval
     clear hval
     go_wp2
     go_ret2
     refine ⟨fun _ => ?_, fun h => by have := HB.out; omega, hbw⟩
     rw [HT.out]
     rfl
end
section
open Go.RowKit
def Blk (W : World) (b : Nat) (t : TypeId) (cs : Array Value) : Prop := W.heap[b]? = some (.cells cs t (0, 0))
theorem Blk.lt {W : World} {b : Nat} {t : TypeId} {cs : Array Value} (h : Blk W b t cs) : b < W.heap.size := (Array.getElem?_eq_some_iff.1 h).1
theorem Blk.cell {W : World} {b : Nat} {t : TypeId} {cs : Array Value} (h : Blk W b t cs) (i : Nat) : W.cell? ⟨b, i, none⟩ = cs[i]? := by
 simp [World.cell?, show W.heap[b]? = _ from h]
theorem Blk.frozen {W : World} {b : Nat} {t : TypeId} {cs : Array Value} (h : Blk W b t cs) (i : Nat) : W.frozen? ⟨b, i, none⟩ = false := by simp [World.frozen?, show W.heap[b]? = _ from h]
theorem Blk.new (W : World) (t : TypeId) (cs : Array Value) : Blk (W.alloc (.cells cs t)) W.heap.size t cs := World.alloc_heap_new W _
theorem Blk.kept {W W' : World} {row : Option Nat} {b : Nat} {t : TypeId} {cs : Array Value} (h : Blk W b t cs) (hg : W.grownBy W' row) (hne : some b ≠ row) : Blk W' b t cs := (hg.block b h.lt hne).trans h
theorem Blk.alloc {W : World} {b : Nat} {t : TypeId} {cs : Array Value} (h : Blk W b t cs) (o : Obj) : Blk (W.alloc o) b t cs := h.kept (World.grownBy_alloc W o none) (by simp)
theorem Blk.below {B : Nat} {W W' : World} {b : Nat} {t : TypeId} {cs : Array Value} (h : Blk W b t cs) (hb : Below B W W') (hB : b < B) : Blk W' b t cs := (hb.block b hB).trans h
theorem Blk.other {W : World} {b b' i : Nat} {t : TypeId} {cs : Array Value} {v : Value} (h : Blk W b t cs) (hne : b ≠ b') : Blk (W.setCell ⟨b', i, none⟩ v) b t cs := (Below.heap_setCell _ _ _ b hne).trans h
theorem Blk.put {W : World} {b l : Nat} {t : TypeId} {cs : Array Value} {o' : Obj} (h : Blk W b t cs) (hne : b ≠ l) : Blk (W.putObj l o') b t cs := (World.putObj_heap_other hne).trans h
theorem Blk.set {W : World} {b i : Nat} {t : TypeId} {cs : Array Value} {v : Value} (h : Blk W b t cs) : Blk (W.setCell ⟨b, i, none⟩ v) b t (cs.setIfInBounds i v) := by
 obtain ⟨hlt, hk⟩ := Array.getElem?_eq_some_iff.1 h
 show (W.heap.modify b _)[b]? = _
 rw [Array.getElem?_eq_getElem (by rw [Array.size_modify]; exact hlt), Array.getElem_modify_self, hk]
 rfl
theorem Blk.drew {W : World} {b : Nat} {t : TypeId} {cs : Array Value} (h : Blk W b t cs) : Blk W.drew b t cs := h
end
end Go.Proofs.YtcjjekhecjmaeaaGreatDoor
