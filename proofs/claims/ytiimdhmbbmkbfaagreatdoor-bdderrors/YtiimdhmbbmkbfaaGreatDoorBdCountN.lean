/- Count. -/
import Derived.Test.YtiimdhmbbmkbfaaGreatDoorBdBelowW
import Derived.Test.YtiimdhmbbmkbfaaGreatDoorBdWithout
namespace Go.Proofs.YtiimdhmbbmkbfaaGreatDoor
open Go.RowKit Go.Maps Num

section
variable {B s b : Nat} {O : Nat → Prop} {vars : Nat} {room : Int} {ns : List Nd}

set_option maxRecDepth 100000 in
set_option maxHeartbeats 2000000 in
theorem count_any (w : World) (hS : SpaceAt B w s b O vars room ns) (hg : Good vars ns) (hl : ns.length ≤ 90000) (hv : vars ≤ 24) (h : Int) (hh : hasB ns h = true) :
    Calls Tryz.prog 6 #[.pointer (some ⟨s, 0, none⟩), .int .i64 h] w fun e w' => ∃ v, e = .returned (.tuple #[v, .nilIface]) ∧ NatAt w' v (waysN vars ns h 0) ∧ Below w.heap.size w w' := by
  have hi := has_i64 hh (by omega)
  have hb1 := below_new w (.cells #[.slice none 0 0] 30)
  have s1 : (w.alloc (.cells #[.slice none 0 0] 30)).heap.size = w.heap.size + 1 := by simp
  have HP := present_any (cp := 1) ((hS.new hb1).new (below_new (w.alloc (.cells #[.slice none 0 0] 30)) (.cells #[.int .i64 h] 3))) (by omega) (w.alloc (.cells #[.slice none 0 0] 30)).heap.size [h] (ints1 (w.alloc (.cells #[.slice none 0 0] 30)) h hi) (by simp) (fun y hy => by rw [List.mem_singleton] at hy; subst hy; exact hh)
  rw [show [h].length = 1 from rfl, s1] at HP
  have HPR := Lib.hid HP
  have hb2 := hb1.alloc hb1.size (.cells #[.int .i64 h] 3)
  have s2 : ((w.alloc (.cells #[.slice none 0 0] 30)).alloc (.cells #[.int .i64 h] 3)).heap.size = w.heap.size + 1 + 1 := by rw [World.size_alloc, s1]
  have hb3 := hb2.alloc hb2.size (.map #[] 0)
  have hown := World.ownsMap_made ((w.alloc (.cells #[.slice none 0 0] 30)).alloc (.cells #[.int .i64 h] 3)) Tryz.prog 3 natR
  rw [s2] at hown
  have hD : DoneN (((w.alloc (.cells #[.slice none 0 0] 30)).alloc (.cells #[.int .i64 h] 3)).alloc (.map #[] 0)) (w.heap.size + 1 + 1) vars ns [] := ⟨⟨_, hown, Rep.empty⟩, (fun p hp => by cases hp), (fun p hp => by cases hp)⟩
  have hslt := hS.slt
  have HWA := ways_any (B := B) (s := s) (b := b) (dk := w.heap.size + 1 + 1) (O := O) (vars := vars) (room := room) (ns := ns) hg hl hv (fun ho => by have := (hS.own _ ho).2; omega) (by omega) h 0 [] _ (hS.new hb3) hD hh (by have := (topOf_le hg.ranked h).1; omega) (Nat.zero_le _)
  have HWY : Hid (Calls Tryz.prog 30 #[.pointer (some ⟨s, 0, none⟩), .int .i64 h, .int .i64 0, .map (some (w.heap.size + 1 + 1))] (((w.alloc (.cells #[.slice none 0 0] 30)).alloc (.cells #[.int .i64 h] 3)).alloc (.map #[] 0)) (CntOut (w.heap.size + 1 + 1) vars ns (waysN vars ns h 0) (((w.alloc (.cells #[.slice none 0 0] 30)).alloc (.cells #[.int .i64 h] 3)).alloc (.map #[] 0)))) := HWA
  have HBX : Hid (BoxAt (((w.alloc (.cells #[.slice none 0 0] 30)).alloc (.cells #[.int .i64 h] 3)).alloc (.map #[] 0)) w.heap.size) := ((boxAt_new w).new (below_new _ _)).new (below_new _ _)
  have HB3 := Lib.hid hb3
  have hmm := @run_makeMap Tryz.prog
  clear HP HWA hS hg hh hb1 hb2 hb3 hown hD
  generalize waysN vars ns h 0 = m at *
  go_enter Tryz.func6, Tryz.ntmps6
  go_wp2_with fail
  refine HPR.out.mono ?_
  rintro e w1 ⟨rfl, rfl⟩
  clear HPR
  go_wp2_with fail
  refine HWY.out.mono ?_
  rintro e w4 ⟨v4, L4, rfl, hn, hD4, hk⟩
  generalize (((w.alloc (.cells #[.slice none 0 0] 30)).alloc (.cells #[.int .i64 h] 3)).alloc (.map #[] 0)) = W3 at *
  obtain ⟨x, rfl, hx⟩ := hn
  obtain ⟨xa, xn, xc⟩ := x
  have hn : NatAt w4 (NV.val ⟨xa, xn, xc⟩) m := ⟨_, rfl, hx⟩
  have hbx := HBX.out.kept hk (show w.heap.size ≠ w.heap.size + 1 + 1 by omega)
  have bc := hbx.c
  have bf := hbx.f
  have hcs : (w4.setCell ⟨w.heap.size, 0, none⟩ (.slice xa xn xc)).cell? ⟨w.heap.size, 0, none⟩ = some (.slice xa xn xc) := World.cell?_setCell_same _ _ _ bc
  have hb4 : Below w.heap.size w (w4.setCell ⟨w.heap.size, 0, none⟩ (.slice xa xn xc)) := (HB3.out.trans (hk.below HB3.out.size (fun j e => by omega))).setCell (Nat.le_refl _) _
  have HFIN : Hid (∃ v, Ending.returned (.tuple #[.agg #[.slice xa xn xc], .nilIface]) = .returned (.tuple #[v, .nilIface]) ∧ NatAt (w4.setCell ⟨w.heap.size, 0, none⟩ (.slice xa xn xc)) v m ∧ Below w.heap.size w (w4.setCell ⟨w.heap.size, 0, none⟩ (.slice xa xn xc))) := ⟨_, rfl, hn.box hbx.no _, hb4⟩
  clear hn hx hD4 hk hbx hb4 HWY HBX HB3
  unfold NV.val
  go_wp2
  refine bodyPost_ret (v := .tuple #[.agg #[.slice xa xn xc], .nilIface]) (by simp [results, Tryz.results6, go_sem, hcs]) rfl HFIN.out
end
end Go.Proofs.YtiimdhmbbmkbfaaGreatDoor
