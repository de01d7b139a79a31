/- New, Vars, Free, At. -/
import Derived.Test.YtcjjekhecjmaeaaGreatDoorBdWithout
import Derived.Test.YtcjjekhecjmaeaaGreatDoorBdTab
set_option maxHeartbeats 1000000
set_option maxRecDepth 100000
namespace Go.Proofs.YtcjjekhecjmaeaaGreatDoor
open Go.RowKit Go.Maps
section
variable {B s b : Nat} {O : Nat -> Prop} {vars : Nat} {room : Int} {ns : List Nd} {w w' : World}
theorem good_nil (vars : Nat) : Good vars [] := ⟨⟨fun j h => by simp at h, fun j h => by simp at h, fun j h => by simp at h, fun j h => by simp at h⟩, fun i j h => by simp at h, fun i h => by simp at h, fun i h => by simp at h, fun i h => by simp at h⟩
theorem bnew_any (vars : Nat) (hv : vars <= 24) (room : Int) (h0 : 0 <= room) (h1 : room <= 4000) (w : World) (B : Nat) (hB : B <= w.heap.size) :
  Calls Tryz.prog 31 #[.int .i64 (vars : Int), .int .i64 room] w fun e w' => ∃ s b O, e = .returned (.tuple #[.pointer (some ⟨s, 0, none⟩), .nilIface]) /\ SpaceAt B w' s b O vars room [] /\ w.heap.size <= s /\ (∀ k, O k -> w.heap.size <= k) /\ Below w.heap.size w w' := by
 have HN := Lib.hid (new_any room h0 h1 w w.heap.size (Nat.le_refl _))
 go_enter Tryz.func31, Tryz.ntmps31
 go_wp2_with fail
 refine HN.out.mono ?_
 rintro e w1 ⟨rfl, hA1, hb1⟩
 have hs := hb1.size
 have hO := (fun k (h : Own (w.heap.size + 1) w.heap.size (.slice none 0 0) k) => (show w.heap.size <= k /\ k < w1.heap.size from by
  obtain ⟨D, hD, -⟩ := hA1.hmap
  have hbm := hD.lt
  have hlt := hA1.lt
  rcases h with h | h | h
  ·omega
  ·omega
  ·simp [Value.ownBlock] at h))
 have hb2 := hb1.alloc hs (.cells #[.pointer (some ⟨w.heap.size + 1, 0, none⟩), .int .i64 (vars : Int)] 63)
 have hA2 := hA1.kept (Kept.alloc (fun _ => False) w1 (.cells #[.pointer (some ⟨w.heap.size + 1, 0, none⟩), .int .i64 (vars : Int)] 63)) (fun _ _ h => h)
 have hfin : SpaceAt B (w1.alloc (.cells #[.pointer (some ⟨w.heap.size + 1, 0, none⟩), .int .i64 (vars : Int)] 63)) w1.heap.size (w.heap.size + 1) (Own (w.heap.size + 1) w.heap.size (.slice none 0 0)) vars room [] := by
  have hA3 : ArenaAt B (w1.alloc (.cells #[.pointer (some ⟨w.heap.size + 1, 0, none⟩), .int .i64 (vars : Int)] 63)) (w.heap.size + 1) w.heap.size (.slice none 0 0) [] [] room 2 :=
   ⟨hA2.lt, hA2.croom, hA2.cnodes, hA2.cmap, hA2.cnext, hA2.froz, ownsRow_base hA2.row hB, hA2.hmap, hA2.d1, hA2.d2, hA2.d3, by omega, hB⟩
  refine ⟨⟨_, _, [], 2, hA3, ⟨fun p h => by simp at h, fun j h => by simp at h, by simp, fun j h => by simp at h⟩, ⟨0, rfl, by simp, fun j h => by omega⟩, fun _ h => h⟩, fun k hk => ⟨by have := (hO k hk).1; omega, by have := (hO k hk).2; simp; omega⟩, fun ho => by have := (hO _ ho).2; omega, by simp, by simp, by simp⟩
 have HF := Lib.hid hfin
 have HB2 := Lib.hid hb2
 have HO := Lib.hid hO
 clear HN hA1 hA2 hfin hb2 hO
 go_wp2
 go_ret2
 exact ⟨_, _, _, rfl, HF.out, hs, fun k hk => (HO.out k hk).1, HB2.out⟩
theorem vars_any (h : SpaceAt B w s b O vars room ns) : Calls Tryz.prog 27 #[.pointer (some ⟨s, 0, none⟩)] w fun e w' => e = .returned (.int .i64 (vars : Int)) /\ w = w' := by
 have c1 := h.c1
 clear h
 go_enter Tryz.func27, Tryz.ntmps27
 go_wp2
 go_ret
 exact ⟨rfl, rfl⟩
theorem At_any (x : Int) (n : Nat) (h0 : 0 < n) (h1 : n <= 1000000) (w : World) :
  Calls Tryz.prog 62 #[.int .i64 x, .int .i64 (n : Int)] w fun e w' => e = .returned (.int .i64 (pickV x n : Int)) /\ w = w' := by
 have hp := pickV_lt x h0
 have e1 : IntKind.u64.wrap x = x % 18446744073709551616 := by rw [IntKind.wrap_u64]
 have e2 : IntKind.u64.wrap (n : Int) = (n : Int) := IntWalk.u64_in _ ⟨by omega, by omega⟩
 have e3 : Int.tmod (x % 18446744073709551616) (n : Int) = (pickV x n : Int) := by
  unfold pickV
  obtain ⟨m, hm⟩ : ∃ m : Nat, x % 18446744073709551616 = (m : Int) := ⟨(x % 18446744073709551616).toNat, by omega⟩
  rw [hm]; simp
  rfl
 have e4 : IntKind.i64.wrap (pickV x n : Int) = (pickV x n : Int) := IntWalk.i64_in _ ⟨by omega, by omega⟩
 have e5 : ((n : Int) == 0) = false := by rw [beq_eq_false_iff_ne]; omega
 generalize pickV x n = p at *
 go_enter Tryz.func62, Tryz.ntmps62
 go_wp2
 go_ret
 exact ⟨rfl, rfl⟩
theorem free_op (h : SpaceAt B w s b O vars room ns) (hr : Ranked ns) (hl : ns.length <= 90000) (hB : B <= w.heap.size) (bf : Nat) {cp : Nat} (fs : List Int) (hF : IntsAt w bf fs) (hfl : fs.length <= 1000) :
  Calls Tryz.prog 71 #[.pointer (some ⟨s, 0, none⟩), .slice (some ⟨bf, 0, none⟩) fs.length cp] w fun e w' => ∃ n : Int, e = .returned (.int .i64 n) /\ ∃ O', SpaceAt B w' s b O' vars room (swept ns (marksOf ns fs)) /\ Moves O O' w w' := by
 have c0 := h.c0
 have HC := Lib.hid (spSweep (cp := cp) h hr hl hB bf fs hF hfl)
 generalize fs.length = n at *
 clear h hF hr
 go_enter Tryz.func71, Tryz.ntmps71
 go_wp2_with fail
 refine HC.out.mono ?_
 rintro e w1 ⟨n, rfl, hO⟩
 go_wp2
 go_ret
 exact ⟨n, rfl, hO⟩
end
end Go.Proofs.YtcjjekhecjmaeaaGreatDoor
