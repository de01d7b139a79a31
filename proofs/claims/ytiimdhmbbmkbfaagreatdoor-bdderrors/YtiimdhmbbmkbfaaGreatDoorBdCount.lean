/- How many nodes: Len, Size, and what Free tells. -/
import Derived.Test.YtiimdhmbbmkbfaaGreatDoorBdHolds
import Derived.Test.YtiimdhmbbmkbfaaGreatDoorBdFree
import Derived.Test.YtiimdhmbbmkbfaaGreatDoorArReach
namespace Go.Proofs.YtiimdhmbbmkbfaaGreatDoor
open Go.RowKit Go.Maps

theorem reach_taken {ns : List Nd} (hr : Ranked ns) (fs : List Int) : (reachTo (marksOf ns fs) ns.length).length = (taken (swept ns (marksOf ns fs))).length := by
  have h1 := marksOf_real hr fs
  unfold reachTo taken
  rw [List.length_map, swept_length]
  congr 1
  refine List.filter_congr fun i hi => ?_
  have hi' := List.mem_range.1 hi
  rw [swept_at ns _ i hi']
  by_cases c : mk (marksOf ns fs) i = true
  · rw [if_pos c, c]; simp [h1 i c]
  · rw [if_neg c]; simp [c]

section
variable {B s b : Nat} {O : Nat → Prop} {vars : Nat} {room : Int} {ns : List Nd} {w w' : World}

theorem spLen (h : SpaceAt B w s b O vars room ns) : Calls Tryz.prog 105 #[.pointer (some ⟨b, 0, none⟩)] w fun e w' => e = .returned (.int .i64 ((taken ns).length : Int)) ∧ w = w' := by
  obtain ⟨bm, v, L, next, hA, hBk, -, hO⟩ := h.arena
  rw [← book_len hBk]; exact len_any hA
theorem spReach (h : SpaceAt B w s b O vars room ns) (hr : Ranked ns) (hl : ns.length ≤ 90000) (hB : B ≤ w.heap.size) (bf : Nat) {cp : Nat} (fs : List Int) (hF : IntsAt w bf fs) (hfl : fs.length ≤ 1000) :
    Calls Tryz.prog 31 #[.pointer (some ⟨b, 0, none⟩), .slice (some ⟨bf, 0, none⟩) fs.length cp] w fun e w' => ∃ a c, e = .returned (.slice a (taken (swept ns (marksOf ns fs))).length c) ∧ Below w.heap.size w w' := by
  obtain ⟨bm, v, L, next, hA, hBk, -, hO⟩ := h.arena
  refine (reach_any (cp := cp) hr (by omega) hA bf fs hF hfl hB).mono ?_
  rintro e w' ⟨a, c, rfl, -, hb⟩
  exact ⟨a, c, by rw [reach_taken hr], hb⟩
theorem spSweepN (hS : SpaceAt B w s b O vars room ns) (hr : Ranked ns) (hl : ns.length ≤ 90000) (hB : B ≤ w.heap.size) (bf : Nat) {cp : Nat} (fs : List Int) (hF : IntsAt w bf fs) (hfl : fs.length ≤ 1000) :
    Calls Tryz.prog 79 #[.pointer (some ⟨b, 0, none⟩), .slice (some ⟨bf, 0, none⟩) fs.length cp] w fun e w' => e = .returned (.int .i64 (((taken ns).length : Int) - ((taken (swept ns (marksOf ns fs))).length : Int))) ∧ ∃ O', SpaceAt B w' s b O' vars room (swept ns (marksOf ns fs)) ∧ Moves O O' w w' := by
  obtain ⟨bm, v, L, next, hA, hBk, -, hO⟩ := hS.arena
  have hLl : L.length ≤ ns.length := by rw [book_len hBk]; exact taken_le ns
  refine (sweep_any hr hBk (by omega) hA bf fs hF hfl hB (by omega)).mono ?_
  rintro e w' ⟨rfl, hA', hK⟩
  exact ⟨by rw [book_len hBk, book_len (swept_book (M := marksOf ns fs) hBk)], hS.moved hO hA' (swept_book hBk) ⟨0, rfl, Nat.zero_le _, fun j h => by omega⟩ hK (.inl rfl)⟩

set_option maxRecDepth 100000 in
set_option maxHeartbeats 1000000 in
theorem free_n (h : SpaceAt B w s b O vars room ns) (hr : Ranked ns) (hl : ns.length ≤ 90000) (hB : B ≤ w.heap.size) (bf : Nat) {cp : Nat} (fs : List Int) (hF : IntsAt w bf fs) (hfl : fs.length ≤ 1000) :
    Calls Tryz.prog 58 #[.pointer (some ⟨s, 0, none⟩), .slice (some ⟨bf, 0, none⟩) fs.length cp] w fun e w' => e = .returned (.int .i64 (((taken ns).length : Int) - ((taken (swept ns (marksOf ns fs))).length : Int))) ∧ ∃ O', SpaceAt B w' s b O' vars room (swept ns (marksOf ns fs)) ∧ Moves O O' w w' := by
  have c0 := h.c0
  have HC := Lib.hid (spSweepN (cp := cp) h hr hl hB bf fs hF hfl)
  generalize fs.length = n at *
  clear h hF hr
  go_enter Tryz.func58, Tryz.ntmps58
  go_wp2_with fail
  refine HC.out.mono ?_
  rintro e w1 ⟨rfl, hO⟩
  go_wp2
  go_ret
  exact ⟨rfl, hO⟩

set_option maxRecDepth 100000 in
set_option maxHeartbeats 600000 in
theorem size_op (h : SpaceAt B w s b O vars room ns) (hr : Ranked ns) (hl : ns.length ≤ 90000) (hB : B ≤ w.heap.size) (x : Int) (hx : hasB ns x = true) :
    Calls Tryz.prog 8 #[.pointer (some ⟨s, 0, none⟩), .int .i64 x] w fun e w' => e = .returned (.tuple #[.int .i64 ((taken (swept ns (marksOf ns [x]))).length : Int), .nilIface]) ∧ Below w.heap.size w w' := by
  have hi := has_i64 hx (by omega)
  have hb := below_new w (.cells #[.int .i64 x] 3)
  have h1 := h.new hb
  have HP := present_any (cp := 1) h1 (by omega) w.heap.size [x] (ints1 w x hi) (by simp) (fun y hy => by rw [List.mem_singleton] at hy; subst hy; exact hx)
  have hb2 := hb.alloc hb.size (.cells #[.int .i64 x] 3)
  have HR := spReach (cp := 1) (h.new hb2) hr hl (by have := hb2.size; omega) (w.alloc (.cells #[.int .i64 x] 3)).heap.size [x] (ints1 _ x hi) (by simp)
  have c0 := h1.c0
  rw [show [x].length = 1 from rfl] at HP HR
  have ez : (w.alloc (.cells #[.int .i64 x] 3)).heap.size = w.heap.size + 1 := by simp
  rw [ez] at HR
  have HPR := Lib.hid HP
  have HRR := Lib.hid HR
  have HB2 := Lib.hid hb2
  generalize (taken (swept ns (marksOf ns [x]))).length = m at *
  clear HP HR h h1 hr hx hb hb2 ez
  go_enter Tryz.func8, Tryz.ntmps8
  go_wp2_with fail
  refine HPR.out.mono ?_
  rintro e w1 ⟨rfl, rfl⟩
  clear HPR
  go_wp2_with fail
  refine HRR.out.mono ?_
  rintro e w2 ⟨a, c, rfl, hb3⟩
  have hb4 := HB2.out.trans (hb3.mono HB2.out.size)
  clear hb3 HRR
  go_wp2
  refine bodyPost_ret (v := .tuple #[.int .i64 (m : Int), .nilIface]) (by simp [results, Tryz.results8, go_sem]) rfl ⟨rfl, hb4⟩
end
end Go.Proofs.YtiimdhmbbmkbfaaGreatDoor
