/- The reference: a text up to the first blank, and what is behind it. -/
import Derived.Test.YthpeifkiaodokaaGreatDoorCtLine
import Derived.Test.YthpeifkiaodokaaGreatDoorSvShelf2
import Derived.Test.YthpeifkiaodokaaGreatDoorSvRPar
import Derived.Test.YthpeifkiaodokaaGreatDoorSvTextI
import Derived.Lib.IndexBytes
namespace Go.Proofs.YthpeifkiaodokaaGreatDoor
open Go.RowKit Go.Shelf Sv

theorem cutF_none {s : ByteArray} {c : UInt8} (h : Lib.index s.data.toList [c] < 0) : cutF s c = (s, ⟨#[]⟩) := by
  unfold cutF Lib.cut
  rw [if_neg (by omega)]
theorem cutF_at {s : ByteArray} {c : UInt8} {j : Nat} (h : Lib.index s.data.toList [c] = (j : Int)) : cutF s c = (s.extract 0 j, s.extract (j + 1) s.size) := by
  unfold cutF Lib.cut
  rw [if_pos (by omega), h]
  simp only [Int.toNat_natCast, List.length_singleton]
  refine Prod.ext ?_ ?_
  · exact (bytes_of (by rw [ext_list']; simp)).symm
  · exact (bytes_of (by rw [ext_end])).symm
set_option maxRecDepth 100000 in
set_option maxHeartbeats 1000000 in
theorem rnext_any (s : ByteArray) (w : World) (hs : s.size ≤ 100000) : Calls Tryz.prog 96 #[.string s] w fun e w' => e = .returned (.tuple #[.string (cutF s 32).1, .string (cutF s 32).2]) ∧ Below w.heap.size w w' := by
  have HI : Hid (Calls Tryz.prog 131 #[.string s, .int .u8 32] w fun e w' => e = .returned (.int .i64 (Lib.index s.data.toList [32])) ∧ w' = w) := by
    have := Tryz.strings_IndexByte s 32 w
    rw [show (32 : Int).toNat.toUInt8 = 32 from rfl, ← Lib.index_one] at this
    exact this
  by_cases h : Lib.index s.data.toList [32] < 0
  · rw [cutF_none h]
    generalize Lib.index s.data.toList [32] = K at *
    go_enter Tryz.func96, Tryz.ntmps96
    go_wp2_with fail
    refine HI.out.mono ?_
    rintro e w1 ⟨rfl, hw1⟩
    rw [hw1]
    clear hw1 HI
    go_wp2
    refine bodyPost_ret (v := .tuple #[.string s, .string ⟨#[]⟩]) (by simp [results, Tryz.results96, go_sem]) rfl ?_
    exact ⟨rfl, Below.refl _ _⟩
  · obtain ⟨j, hj⟩ : ∃ j : Nat, Lib.index s.data.toList [32] = (j : Int) := ⟨(Lib.index s.data.toList [32]).toNat, by omega⟩
    have hroom := index_room s.data.toList [32] (by omega)
    rw [hj] at hroom HI
    have hln : s.data.toList.length = s.size := by simp
    rw [hln] at hroom
    simp only [Int.toNat_natCast, List.length_singleton] at hroom
    rw [cutF_at hj]
    obtain ⟨J1, hJ1⟩ : ∃ J1, j + 1 = J1 := ⟨_, rfl⟩
    rw [hJ1] at hroom ⊢
    have hwr : IntKind.i64.wrap ((j : Int) + 1) = (J1 : Int) := by rw [IntKind.wrap_i64]; omega
    have hj0 : ¬ (j : Int) < 0 := by omega
    have i2 : (j : Int) ≤ (s.size : Int) := by omega
    have i3 : (J1 : Int) ≤ (s.size : Int) := by omega
    have hsl := fun W' => run_slice_string_h (P := Tryz.prog) W' 9 s Tryz.underlying9 .i64 (j : Int) (by omega) i2
    have hsl2 := fun W' => run_slice_string_l (P := Tryz.prog) W' 9 s Tryz.underlying9 .i64 (J1 : Int) (by omega) i3
    simp only [Int.toNat_natCast] at hsl hsl2
    clear h hj hln hJ1
    go_enter Tryz.func96, Tryz.ntmps96
    go_wp2_with fail
    refine HI.out.mono ?_
    rintro e w1 ⟨rfl, hw1⟩
    rw [hw1]
    clear hw1 HI
    go_wp2_with fail
    go_big_region
    have HB : Hid (Below w.heap.size w w.drew) := (Below.refl _ _).drew
    go_wp2
    refine bodyPost_ret (v := .tuple #[.string (s.extract 0 j), .string (s.extract J1 s.size)]) (by simp [results, Tryz.results96, go_sem]) rfl ?_
    exact ⟨rfl, HB.out⟩
end Go.Proofs.YthpeifkiaodokaaGreatDoor
