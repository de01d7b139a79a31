/- Needs: which variables make a difference. -/
import Derived.Test.YtcjjekhecjmaeaaGreatDoorArReachM
import Derived.Test.YtcjjekhecjmaeaaGreatDoorBdWithout
import Derived.Test.YtcjjekhecjmaeaaGreatDoorArQuad
import Derived.WalkSmall
import Derived.Test.YtcjjekhecjmaeaaGreatDoorBdFree
import Derived.Test.YtcjjekhecjmaeaaGreatDoorTlNeed
import Derived.Test.YtcjjekhecjmaeaaGreatDoorArTop
import Derived.Sort.OwnSortedInts
import Derived.Laws.IdiomCopy
set_option maxHeartbeats 4000000
set_option maxRecDepth 100000
namespace Go.Proofs.YtcjjekhecjmaeaaGreatDoor
section
open Go.RowKit Go.Maps
section
variable {B b bm : Nat} {v : Value} {ns : List Nd} {L : List (Nd × Int)} {room next : Int} {w : World}
theorem reach_any (hr : Ranked ns) (hl : ns.length <= 100000) (hA : ArenaAt B w b bm v ns L room next) (bf : Nat) {cp : Nat} (fs : List Int) (hF : IntsAt w bf fs) (hfl : fs.length <= 1000) (hB : B <= w.heap.size) :
  Calls Tryz.prog 36 #[.pointer (some ⟨b, 0, none⟩), .slice (some ⟨bf, 0, none⟩) fs.length cp] w fun e w' => ∃ a c, e = .returned (.slice a (reachTo (marksOf ns fs) ns.length).length c) /\ w'.ownsRow w.heap.size 3 1 (.slice a (reachTo (marksOf ns fs) ns.length).length c) (reachTo (marksOf ns fs) ns.length).length (icells (reachTo (marksOf ns fs) ns.length)) /\ Below w.heap.size w w' := by
 have HC := Lib.hid (reached_any (cp := cp) hr hl hA bf fs hF hfl hB)
 have hML := marksOf_length ns fs
 generalize marksOf ns fs = M at *
 have HML := Lib.hid hML
 obtain ⟨i0, hi, hz0, hz1, hz2⟩ := info_parts infoInt
 clear hA hF hr hML
 go_enter Tryz.func36, Tryz.ntmps36
 go_wp2_with fail
 refine HC.out.mono ?_
 rintro e w1 ⟨rfl, hm1, hb1⟩
 have hs1 : w.heap.size < w1.heap.size := (hm1.lt w.heap.size rfl).2
 clear HC
 go_wp2_with fail
 go_loopw [5, 6, 7, 12] (fun out _ _ i wr => ∃ (k : Nat) (a : Option Addr) (c : Nat), k <= ns.length /\ i = .int .i64 (k : Int) /\ out = .slice a (reachTo M k).length c /\ wr.ownsRow (w.heap.size + 1) 3 1 (.slice a (reachTo M k).length c) (reachTo M k).length (icells (reachTo M k)) /\ wr.ownsRow B 4 1 (.slice (some ⟨w.heap.size, 0, none⟩) ns.length ns.length) ns.length (mcells M) /\ Below w.heap.size w wr /\ w.heap.size < wr.heap.size)
  (fun _ _ _ i _ => ns.length - (intOf i).toNat)
 case atStart => exact ⟨0, none, 0, Nat.zero_le _, rfl, rfl, World.ownsRow_nil _ _ _ _, hm1, hb1, hs1⟩
 case round =>
  obtain ⟨k, a, c, hk, rfl, rfl, hown, hmr, hbelr, hsr⟩ := hrel
  clear hm1 hb1 hs1
  by_cases hlt : k < ns.length
  ·have cm := hmr.cellAt k (by omega)
   rw [mcells_at M k (by rw [HML.out]; exact hlt)] at cm
   have hrl := reachTo_length M k
   have hsu := reachTo_succ M k
   by_cases hm : mk M k = true
   ·rw [if_pos hm] at hsu
    rw [hm] at cm
    have HSU := Lib.hid hsu
    have HB := Lib.hid hbelr
    have HM := Lib.hid hmr
    clear hm hsu hbelr hmr
    have ib : (k : Int) < (ns.length : Int) := by omega
    go_wp2_with (at_builtin; refine wpList_append_own _ rfl _ _ 24 rfl (w.heap.size + 1) 3 i0 (.int .i64 0) 1 8 Tryz.underlying24 hi hz0 hz1 hz2 rfl (by decide) _ _ _ rfl (hown.alloc _) ⟨wr.heap.size, 0, none⟩ 1 1 [.int .i64 (2 + (k : Int))] rfl rfl ?c1 ?c2 ?c3 ?c4 ?c5 ?_)
    case c1 => exact cell_one_new _ _ _
    case c2 => intro u hu; simp at hu; subst hu; rfl
    case c3 => unfold maxLen; omega
    case c4 => omega
    case c5 => simp; omega
    ·intro v' w4 hown' hgrow _
     have hk4 : Kept (fun j => (Value.slice a (reachTo M k).length c).ownBlock = some j) wr w4 := (Kept.alloc _ wr _).andThen (Kept.of_grown hgrow (fun i h => h)) (fun i h _ => h)
     have hb4 := HB.out.trans (hk4.below HB.out.size (fun i hi => by have := (hown.lt i hi).1; omega))
     have hm4 := ownsRow_kept HM.out hk4 (fun j hj h2 => by have := (hown.lt j h2).1; have hj2 : w.heap.size = j := Option.some.inj hj; omega)
     have hs4 := Nat.lt_of_lt_of_le hsr hk4.size
     obtain ⟨a', c', rfl⟩ : ∃ a' c', v' = .slice a' ((reachTo M k).length + 1) c' := by
      rcases hown'.2 with ⟨h1, h2⟩ | ⟨g, cp, cur, h1, -⟩
      ·omega
      ·exact ⟨_, _, h1⟩
     clear hown hgrow hk4 HM HB
     go_wp2
     go_roundw
     case rel =>
      have e5 := HSU.out
      have e6 : (reachTo M (k + 1)).length = (reachTo M k).length + 1 := by rw [e5]; simp
      refine ⟨k + 1, a', c', by omega, by go_num, by rw [e6], ?_, hm4, hb4, hs4⟩
      rw [e6, e5]
      simpa [icells] using hown'
     case measure => simp [intOf]; omega
   ·rw [if_neg hm, List.append_nil] at hsu
    have hm' : mk M k = false := by simpa using hm
    rw [hm'] at cm
    have HSU := Lib.hid hsu
    have HO := Lib.hid hown
    have HB := Lib.hid hbelr
    have HM := Lib.hid hmr
    clear hm hm' hsu hown hbelr hmr
    have ib : (k : Int) < (ns.length : Int) := by omega
    go_wp2
    go_roundw
    case rel => exact ⟨k + 1, a, c, by omega, by go_num, by rw [HSU.out], by rw [HSU.out]; exact HO.out, HM.out, HB.out, hsr⟩
    case measure => simp [intOf]; omega
  ·obtain rfl : k = ns.length := by omega
   go_wp2
   go_ret
   exact ⟨a, c, rfl, ownsRow_base hown (by omega), hbelr⟩
end
end
section
open Go.RowKit Go.Maps
theorem reach_taken {ns : List Nd} (hr : Ranked ns) (fs : List Int) : (reachTo (marksOf ns fs) ns.length).length = (taken (swept ns (marksOf ns fs))).length := by
 have h1 := marksOf_real hr fs
 unfold reachTo taken
 rw [List.length_map, swept_length]
 congr 1
 refine List.filter_congr fun i hi => ?_
 have hi' := List.mem_range.1 hi
 rw [swept_at ns _ i hi']
 by_cases c : mk (marksOf ns fs) i = true
 ·rw [if_pos c, c]; simp [h1 i c]
 ·rw [if_neg c]; simp [c]
section
variable {B s b : Nat} {O : Nat -> Prop} {vars : Nat} {room : Int} {ns : List Nd} {w w' : World}
theorem spReach (h : SpaceAt B w s b O vars room ns) (hr : Ranked ns) (hl : ns.length <= 90000) (hB : B <= w.heap.size) (bf : Nat) {cp : Nat} (fs : List Int) (hF : IntsAt w bf fs) (hfl : fs.length <= 1000) :
  Calls Tryz.prog 36 #[.pointer (some ⟨b, 0, none⟩), .slice (some ⟨bf, 0, none⟩) fs.length cp] w fun e w' => ∃ a c, e = .returned (.slice a (taken (swept ns (marksOf ns fs))).length c) /\ Below w.heap.size w w' := by
 obtain ⟨bm, v, L, next, hA, hBk, -, hO⟩ := h.arena
 refine (reach_any (cp := cp) hr (by omega) hA bf fs hF hfl hB).mono ?_
 rintro e w' ⟨a, c, rfl, -, hb⟩
 exact ⟨a, c, by rw [reach_taken hr], hb⟩
theorem size_op (h : SpaceAt B w s b O vars room ns) (hr : Ranked ns) (hl : ns.length <= 90000) (hB : B <= w.heap.size) (x : Int) (hx : hasB ns x = true) :
  Calls Tryz.prog 11 #[.pointer (some ⟨s, 0, none⟩), .int .i64 x] w fun e w' => e = .returned (.tuple #[.int .i64 ((taken (swept ns (marksOf ns [x]))).length : Int), .nilIface]) /\ Below w.heap.size w w' := by
 have hi := has_i64 hx (by omega)
 have hb := below_new w (.cells #[.int .i64 x] 3)
 have h1 := h.new hb
 have HP := present_any (cp := 1) h1 (by omega) w.heap.size [x] (ints1 w x hi) (by simp) (fun y hy => by rw [List.mem_singleton] at hy; subst hy; exact hx)
 have hb2 := hb.alloc hb.size (.cells #[.int .i64 x] 3)
 have HR := spReach (cp := 1) (h.new hb2) hr hl (by have := hb2.size; omega) (w.alloc (.cells #[.int .i64 x] 3)).heap.size [x] (ints1 _ x hi) (by simp)
 have c0 := h1.c0
 rw [show [x].length = 1 from rfl] at HP HR
 have ez : (w.alloc (.cells #[.int .i64 x] 3)).heap.size = w.heap.size + 1 := by simp
 rw [ez] at HR
 have HPR := Lib.hid HP
 have HRR := Lib.hid HR
 have HB2 := Lib.hid hb2
 generalize (taken (swept ns (marksOf ns [x]))).length = m at *
 clear HP HR h h1 hr hx hb hb2 ez
 go_enter Tryz.func11, Tryz.ntmps11
 go_wp2_with fail
 refine HPR.out.mono ?_
 rintro e w1 ⟨rfl, rfl⟩
 clear HPR
 go_wp2_with fail
 refine HRR.out.mono ?_
 rintro e w2 ⟨a, c, rfl, hb3⟩
 have hb4 := HB2.out.trans (hb3.mono HB2.out.size)
 clear hb3 HRR
 go_wp2
 refine bodyPost_ret (v := .tuple #[.int .i64 (m : Int), .nilIface]) (by simp [results, Tryz.results11, go_sem]) rfl ⟨rfl, hb4⟩
end
end
section
open Go.RowKit Go.Maps Go.Sort
def SliceI (W : World) (v : Value) (l : List Int) : Prop := ∃ a c, v = .slice a l.length c /\ ∀ j (h : j < l.length), ∃ g, a = some ⟨g, 0, none⟩ /\ g < W.heap.size /\ W.cell? ⟨g, j, none⟩ = some (.int .i64 l[j])
theorem SliceI.new {W W' : World} {v : Value} {l : List Int} (h : SliceI W v l) (hb : Below W.heap.size W W') : SliceI W' v l := by
 obtain ⟨a, c, e, h⟩ := h
 refine ⟨a, c, e, fun j hj => ?_⟩
 obtain ⟨g, h1, h2, h3⟩ := h j hj
 exact ⟨g, h1, Nat.lt_of_lt_of_le h2 hb.size, (hb.cell (p := ⟨g, j, none⟩) h2).trans h3⟩
theorem SliceI.of_row {B : Nat} {W : World} {v : Value} {l : List Int} (h : W.ownsRow B 3 1 v l.length (icells l)) : SliceI W v l := by
 rcases h.2 with ⟨h1, h2⟩ | ⟨g, cap, cur, h1, h2, h3, h4⟩
 ·exact ⟨none, 0, by rw [h1, h2], fun j hj => by omega⟩
 ·subst h1
  refine ⟨_, cap, rfl, fun j hj => ⟨g, rfl, (Array.getElem?_eq_some_iff.1 h3).1, ?_⟩⟩
  rw [h.cellAt j (by omega), icells_at l j hj]
abbrev srtF (l : List Int) : List Int := l.mergeSort fun x y => decide (x <= y)
theorem srt_len (l : List Int) : (srtF l).length = l.length := List.length_mergeSort l
theorem sort_any {B : Nat} (l : List Int) (hl : l.length <= 100000) (v : Value) (w : World) (h : w.ownsRow B 3 1 v l.length (icells l)) :
  Calls Tryz.prog 38 #[v] w fun e w' => e = .returned (.tuple #[]) /\ w'.ownsRow B 3 1 v l.length (icells (srtF l)) /\ Below B w w' := by
 rcases h.2 with ⟨h1, h2⟩ | ⟨g, cap, cur, h1, hB, h3, h4, h5, h6, h7⟩
 ·have hl0 : l = [] := List.length_eq_zero_iff.1 h2
  subst hl0; subst h1
  refine (Tryz.slices_Sort_int_none none 0 w).mono fun e w' ⟨he, hw⟩ => ⟨he, ?_, by rw [hw]; exact Below.refl _ _⟩
  rw [hw, show srtF ([] : List Int) = [] from List.mergeSort_nil]; exact h
 ·subst h1
  have hlt := (Array.getElem?_eq_some_iff.1 h3).1
  rw [Nat.mul_one] at h7
  have hH := holds_of_blockI (ss := l) h3 h7
  refine (Tryz.slices_Sort_int g 0 cap l w hH hlt (by omega)).mono fun e w' ⟨he, n, os, hw⟩ => ⟨he, ?_, ?_⟩
  ·rw [hw]
   exact ownsRow_sortedI (ss := l) (srt_len l) hB h3 h4 h5 h6
  ·rw [hw]
   exact (Below.refl B w).grown (grownBy_sortedI _) (by omega) (fun j hj => by cases hj; exact hB)
theorem compactI_nil (w : World) : Calls Tryz.prog 39 #[.slice none 0 0] w fun e w' => e = .returned (.slice none 0 0) /\ w = w' := by
 go_enter Tryz.func39, Tryz.ntmps39
 go_wp2
 go_ret
 exact ⟨rfl, rfl⟩
theorem below_cells {B b : Nat} (hb : B <= b) {a : World} : ∀ (vs : List Value) (o : Nat) (w : World), Below B a w -> Below B a (w.setCells b o vs)
 | [], _, _, h => h
 | v :: r, o, _, h => below_cells hb r (o + 1) _ (h.setCell (p := ⟨b, o, none⟩) hb v)
theorem compact_any {B : Nat} (l : List Int) (hl : l.length <= 100000) (v : Value) (w : World) (h : w.ownsRow B 3 1 v l.length (icells l)) :
  Calls Tryz.prog 39 #[v] w fun e w' => ∃ v', e = .returned v' /\ SliceI w' v' (Lib.compact l) /\ Below B w w' := by
 rcases h.2 with ⟨h1, h2⟩ | ⟨g, cap, cur, h1, hB, h3, h4, h5, h6, h7⟩
 ·have hl0 : l = [] := List.length_eq_zero_iff.1 h2
  subst hl0; subst h1
  exact (compactI_nil w).mono fun e w' ⟨he, hw⟩ => ⟨_, he, ⟨none, 0, rfl, fun j hj => absurd hj (Nat.not_lt_zero _)⟩, hw ▸ Below.refl _ _⟩
 ·subst h1
  have hlt := (Array.getElem?_eq_some_iff.1 h3).1
  have hc : ∀ j, j < l.length -> w.cell? ⟨g, 0 + j, none⟩ = some (.int .i64 (l.getD j 0)) := fun j hj => by
   rw [Nat.zero_add, h.cellAt j (by omega), icells_at l j hj, List.getD_eq_getElem?_getD, List.getElem?_eq_getElem hj]; rfl
  refine (Tryz.slices_Compact_int_cells g 0 l.length cap l w (Nat.le_refl _) (by omega) h4 hc (fun j _ => by simp [World.frozen?, h3])).mono fun e w' ⟨he, q, hw⟩ => ?_
  rw [List.take_length] at he hw
  have hbw : Below B w w' := by rw [hw]; exact below_cells hB _ _ _ (below_drewN' B w q)
  have hcl := Lib.compact_length_le l
  refine ⟨_, he, ⟨_, _, rfl, fun j hj => ⟨g, rfl, Nat.lt_of_lt_of_le hlt hbw.size, ?_⟩⟩, hbw⟩
  rw [hw]
  have hin := World.cell?_setCells_in g ((Lib.compact l ++ List.replicate (l.length - (Lib.compact l).length) 0).map (Value.int .i64)) 0 (w.drewN q) (fun i hi => by
   have : i < l.length := by simp at hi; omega
   show ((w.drewN q).cell? _).isSome = true
   rw [cell_drewN', hc i this]; rfl) j (by simp; omega)
  rw [Nat.zero_add] at hin
  rw [hin]
  simp [List.getElem_append_left, hj]
 where
  below_drewN' (B : Nat) (w : World) (q : Nat) : Below B w (w.drewN q) := below_drewN B w q
  cell_drewN' {w : World} {q : Nat} {a : Addr} : (w.drewN q).cell? a = w.cell? a := (below_drewN (a.block + 1) w q).cell (p := a) (Nat.lt_succ_self _)
theorem needs_any {B : Nat} {w : World} {s b : Nat} {O : Nat -> Prop} {vars : Nat} {room : Int} {ns : List Nd} (hS : SpaceAt B w s b O vars room ns) (hg : Good vars ns) (hl : ns.length <= 5000) (h24 : vars <= 24) (hB : B <= w.heap.size) (x : Int) (hx : hasB ns x = true) :
  Calls Tryz.prog 10 #[.pointer (some ⟨s, 0, none⟩), .int .i64 x] w fun e w' => ∃ v, e = .returned (.tuple #[v, .nilIface]) /\ SliceI w' v (needF vars (tabH vars ns x)) /\ Below w.heap.size w w' := by
 have hi := has_i64 hx (by omega)
 have hb := below_new w (.cells #[.int .i64 x] 3)
 have h1 := hS.new hb
 have HP := Lib.hid (present_any (cp := 1) h1 (by omega) w.heap.size [x] (ints1 w x hi) (by simp) (fun y hy => by rw [List.mem_singleton] at hy; subst hy; exact hx))
 have hb2 := hb.alloc hb.size (.cells #[.int .i64 x] 3)
 have h2 := hS.new hb2
 have HR : Hid (Calls Tryz.prog 36 #[.pointer (some ⟨b, 0, none⟩), .slice (some ⟨(w.alloc (.cells #[.int .i64 x] 3)).heap.size, 0, none⟩) [x].length 1] ((w.alloc (.cells #[.int .i64 x] 3)).alloc (.cells #[.int .i64 x] 3)) fun e w' => ∃ a c, e = .returned (.slice a (reachTo (marksOf ns [x]) ns.length).length c) /\ w'.ownsRow w.heap.size 3 1 (.slice a (reachTo (marksOf ns [x]) ns.length).length c) (reachTo (marksOf ns [x]) ns.length).length (icells (reachTo (marksOf ns [x]) ns.length)) /\ Below w.heap.size w w') := by
  obtain ⟨bm, v, L, next, hA, hBk, -, hO⟩ := h2.arena
  refine (reach_any (cp := 1) hg.ranked (by omega) hA (w.alloc (.cells #[.int .i64 x] 3)).heap.size [x] (ints1 _ x hi) (by simp) (by have := hb2.size; omega)).mono ?_
  rintro e w' ⟨a, c, rfl, hr, hb3⟩
  exact ⟨a, c, rfl, ownsRow_base hr hb2.size, hb2.trans (hb3.mono hb2.size)⟩
 have c0 := h1.c0
 rw [show [x].length = 1 from rfl] at HP HR
 have ez : (w.alloc (.cells #[.int .i64 x] 3)).heap.size = w.heap.size + 1 := by simp
 rw [ez] at HR
 have SP : Hid (∀ W, Below w.heap.size w W -> SpaceAt B W s b O vars room ns) := fun W hW => hS.new hW
 have hrl : (reachTo (marksOf ns [x]) ns.length).length <= ns.length := by
  unfold reachTo
  rw [List.length_map]
  have := List.length_filter_le (fun i => mk (marksOf ns [x]) i) (List.range ns.length)
  rwa [List.length_range] at this
 have HNL := Lib.hid (need_list hg hx h24)
 have HI : Hid (∀ j (h : j < (reachTo (marksOf ns [x]) ns.length).length), I64 ((reachTo (marksOf ns [x]) ns.length)[j])) := fun j h => by
  have hm := List.getElem_mem h
  generalize (reachTo (marksOf ns [x]) ns.length)[j] = y at *
  unfold reachTo at hm
  obtain ⟨i, h1, rfl⟩ := List.mem_map.1 hm
  have := List.mem_range.1 (List.mem_filter.1 h1).1
  exact ⟨by omega, by omega⟩
 have HB0 := Lib.hid hB
 clear hS hx hb hb2 h1 h2 hi ez hB
 generalize reachTo (marksOf ns [x]) ns.length = R at *
 go_enter Tryz.func10, Tryz.ntmps10
 go_wp2_with fail
 refine HP.out.mono ?_
 rintro e w1 ⟨rfl, rfl⟩
 clear HP
 go_wp2_with fail
 refine HR.out.mono ?_
 rintro e w2 ⟨a, c, rfl, hrow, hb2⟩
 have HRI := Lib.hid (SliceI.of_row hrow)
 obtain ⟨N, hN⟩ : ∃ N, N = R.length := ⟨_, rfl⟩
 rw [<- hN] at hrl ⊢
 have HN := Lib.hid hN
 have HB2 := Lib.hid hb2
 clear hrow hb2 HR c0 hN
 go_wp2_with fail
 go_loopw [7, 25] (fun ov iv wr => ∃ k : Nat, k <= N /\ iv = .int .i64 (k : Int) /\ wr.ownsRow w2.heap.size 3 1 ov k (icells ((R.map (topOf ns)).take k)) /\ Below w2.heap.size w2 wr) (fun _ iv _ => N - (intOf iv).toNat)
 case atStart => exact ⟨0, Nat.zero_le _, rfl, ⟨by simp [icells], .inl ⟨rfl, rfl⟩⟩, Below.refl _ _⟩
 case round =>
  obtain ⟨w3, hw3⟩ : ∃ w3, w3 = wr := ⟨_, rfl⟩
  subst hw3
  obtain ⟨k, hk, rfl, hrow, hb23⟩ := hrel
  have HROW := Lib.hid hrow
  have HB23 := Lib.hid hb23
  have HB3 := Lib.hid (HB2.out.trans (hb23.mono HB2.out.size))
  obtain ⟨oa, oc, hov, -⟩ := row1_form hrow
  subst hov
  clear hrow hb23
  by_cases hkN : k < N
  ·have hkR : k < R.length := by have := HN.out; omega
   obtain ⟨a', c', e1, hcell⟩ := HRI.out
   cases e1
   obtain ⟨g, rfl, hg2, hc⟩ := hcell k hkR
   have ck : w3.cell? ⟨g, k, none⟩ = some (.int .i64 R[k]) := (HB23.out.cell (p := ⟨g, k, none⟩) hg2).trans hc
   have hS3 := SP.out w3 HB3.out
   have c0 := hS3.c0
   have HTP := Lib.hid (spTop hS3 R[k] (HI.out k hkR) (by omega))
   have hsnoc : icells ((R.map (topOf ns)).take (k + 1)) = icells ((R.map (topOf ns)).take k) ++ [.int .i64 (topOf ns R[k])] := by
    rw [List.take_succ_eq_append_getElem (by rw [List.length_map]; exact hkR)]
    unfold icells
    rw [List.map_append, List.getElem_map]
    rfl
   have HSN := Lib.hid hsnoc
   have i1 : (k : Int) < (N : Int) := by omega
   have hs3 := HB23.out.size
   clear hcell hc hS3 hsnoc HRI
   generalize R[k] = y at *
   generalize topOf ns y = ty at *
   obtain ⟨i0, hin, hz0, hz1, hz2⟩ := info_parts infoInt
   go_wp2_with fail
   refine HTP.out.mono ?_
   rintro e w4 ⟨rfl, rfl⟩
   go_wp2_with (at_builtin; refine wpList_append_own_at _ rfl _ _ 24 rfl w2.heap.size 3 i0 (.int .i64 0) 1 8 Tryz.underlying24 hin hz0 hz1 hz2 rfl (by decide) _ _ _ rfl (HROW.out.alloc _) ⟨w3.heap.size, 0, none⟩ 1 1 [.int .i64 ty] rfl rfl ?c1 ?c2 ?c3 ?c4 ?c5 ?_)
   case c1 => exact cell_one_new _ _ _
   case c2 => intro u hu; simp at hu; subst hu; rfl
   case c3 => unfold maxLen; omega
   case c4 => omega
   case c5 => simp; omega
   intro v7 w7 hown7 hgrow7 _ hloc7
   rw [<- HSN.out] at hown7
   have hb7 : Below w2.heap.size w2 w7 := (HB23.out.alloc hs3 (.cells #[.int .i64 ty] 3)).grown hgrow7 (by simp; omega) (fun j hj => (HROW.out.lt j hj).1)
   have HR7 := Lib.hid hown7
   have HB7 := Lib.hid hb7
   clear hown7 hgrow7 hloc7 hb7 HROW HSN HTP HB3 HB23
   go_wp2
   go_roundw
   case rel => first | exact ⟨k + 1, by omega, by go_num, HR7.out, HB7.out⟩ | ((repeat apply Exists.intro); exact ⟨⟨k + 1, by omega, by go_num, HR7.out, HB7.out⟩, rfl⟩)
   case measure => simp [intOf]; omega
  ·obtain rfl : k = N := by omega
   have hfull : (R.map (topOf ns)).take k = R.map (topOf ns) := by rw [HN.out, <- List.length_map (f := topOf ns), List.take_length]
   rw [hfull] at HROW
   have hlen : (R.map (topOf ns)).length = k := by rw [List.length_map]; exact HN.out.symm
   have hr1 : w3.ownsRow w2.heap.size 3 1 (.slice oa k oc) (R.map (topOf ns)).length (icells (R.map (topOf ns))) := by rw [hlen]; exact HROW.out
   have HSO := Lib.hid (sort_any (R.map (topOf ns)) (by rw [hlen]; omega) _ w3 hr1)
   have hlen2 : (srtF (R.map (topOf ns))).length <= 100000 := by rw [srt_len, hlen]; omega
   have HLEN : Hid ((srtF (R.map (topOf ns))).length = (R.map (topOf ns)).length) := srt_len _
   have HL2 := Lib.hid hlen2
   clear hfull hr1 hlen hlen2 HRI HI
   generalize R.map (topOf ns) = TT at *
   go_wp2_with fail
   refine HSO.out.mono ?_
   rintro e w4 ⟨rfl, hrow4, hb4⟩
   rw [<- HLEN.out] at hrow4
   have HCO := Lib.hid (compact_any (srtF TT) HL2.out _ w4 hrow4)
   have HB4 := Lib.hid (HB23.out.trans hb4)
   clear hrow4 hb4 HSO
   go_wp2_with fail
   refine HCO.out.mono ?_
   rintro e w5 ⟨v5, rfl, hsl, hb5⟩
   rw [HNL.out] at hsl
   have HSL := Lib.hid hsl
   have HB5 := Lib.hid (HB2.out.trans ((HB4.out.trans hb5).mono HB2.out.size))
   clear hsl hb5 HCO
   go_wp2
   refine bodyPost_ret (v := .tuple #[v5, .nilIface]) (by simp [results, Tryz.results10, go_sem]) rfl ⟨v5, rfl, HSL.out, HB5.out⟩
end
end Go.Proofs.YtcjjekhecjmaeaaGreatDoor
