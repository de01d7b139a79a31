/- strings.Split at one byte. -/
import Derived.Test.YtcjjekhecjmaeaaGreatDoorImCutP
import Derived.Test.YtcjjekhecjmaeaaGreatDoorImBlk
import Derived.Lib.SplitLaws
namespace Go.Proofs.YtcjjekhecjmaeaaGreatDoor
open Go.RowKit
def strV (l : List UInt8) : Value := .string ⟨l.toArray⟩
theorem split_any (s : ByteArray) (c : UInt8) (hs : s.size <= 100000) (n : Int) (W : World) (hm : W.cell? ⟨2, 0, none⟩ = some (.int .i64 n)) :
  Calls Tryz.prog 86 #[.string s, .string ⟨#[c]⟩] W fun e w' => e = .returned (.slice (some ⟨W.heap.size, 0, none⟩) (splitL c s.data.toList).length (splitL c s.data.toList).length) /\ Blk w' W.heap.size 9 ((splitL c s.data.toList).map strV).toArray /\ Below W.heap.size W w' := by
 have h := splitB_L c s
 have hlen : Lib.countB s ⟨#[c]⟩ + 1 = (splitL c s.data.toList).length := by
  have h2 := congrArg List.length h
  rw [List.length_map] at h2
  rw [<- h2]
  exact (Lib.splitB_all _ (show 1 <= (⟨#[c]⟩ : ByteArray).size from Nat.le_refl 1) 0 _ s rfl).symm
 refine (Tryz.strings_Split s ⟨#[c]⟩ n W (by omega) hm (show 1 <= (⟨#[c]⟩ : ByteArray).size from Nat.le_refl 1)).mono fun e w' ⟨he, hw'⟩ => ?_
 rw [hlen] at he
 rw [h, List.map_map] at hw'
 exact ⟨he, hw' ▸ Blk.new _ _ _, hw' ▸ (Below.refl _ _).alloc (Nat.le_refl _) _⟩
end Go.Proofs.YtcjjekhecjmaeaaGreatDoor
