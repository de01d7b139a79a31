/- lies. -/
import Derived.Test.YteipbfadljgppaaArBack
import Derived.Test.YteipbfadljgppaaArPick
namespace Go.Proofs.Yteipbfadljgppaa
open Go.RowKit Go.Maps

theorem own_ge {B b bm : Nat} {w : World} {v : Value} {ns : List Nd} {L : List (Nd × Int)} {room next : Int} (hA : ArenaAt B w b bm v ns L room next) : ∀ k, Own b bm v k → B ≤ k := by
  rintro k (h | h | h)
  · rw [h]; exact hA.B1
  · rw [h]; exact hA.B2
  · exact (hA.row.lt k h).1

set_option maxRecDepth 100000 in
set_option maxHeartbeats 2000000 in
theorem lies_any (w : World) : Calls Try.prog 5 #[] w fun e w' => e = .returned (.bool true) ∧ Below w.heap.size w w' := by
  have HN := Lib.hid (new_any 3 (by omega) (by omega) w w.heap.size (Nat.le_refl _))
  go_enter Try.func5, Try.ntmps5
  go_wp2_with fail
  refine HN.out.mono ?_
  rintro e w1 ⟨rfl, hA1, hb1⟩
  have hs1 := hb1.size
  have HM := Lib.hid (make_new hA1 (by simp) ⟨2, 0, 1⟩ ⟨⟨by decide, by decide⟩, ⟨by decide, by decide⟩, ⟨by decide, by decide⟩⟩ ⟨by decide, by decide, by decide, by decide, by decide, by decide⟩ (by simp) (by decide) (by simp) 0 rfl (by simp) hs1)
  unfold Nd.val at HM
  have HGE := Lib.hid (own_ge hA1)
  clear hA1 HN
  go_wp2_with fail
  refine HM.out.mono ?_
  rintro e w2 ⟨k, v', rfl, hk, -, -, hA2, hK2, -⟩
  obtain rfl : k = 0 := by simpa using hk
  have hb2 : Below w.heap.size w w2 := hb1.trans (hK2.below hs1 HGE.out)
  have HF := Lib.hid (make_found (n := ⟨2, 0, 1⟩) (h := 2) hA2 (by decide) ⟨⟨by decide, by decide⟩, ⟨by decide, by decide⟩, ⟨by decide, by decide⟩⟩ ⟨by decide, by decide, by decide, by decide, by decide, by decide⟩ (by decide))
  unfold Nd.val at HF
  have HA2 := Lib.hid hA2
  clear HM hA2 hK2 hk
  go_wp2_with fail
  refine HF.out.mono ?_
  rintro e w3 ⟨rfl, hb3⟩
  have HL := Lib.hid (len_any (HA2.out.kept (Kept.of_below hb3 (fun _ => False)) (fun _ _ h => h)))
  have hbE := hb2.trans (hb3.mono hb2.size)
  clear HF HA2
  go_wp2_with fail
  refine HL.out.mono ?_
  rintro e w4 ⟨rfl, rfl⟩
  go_wp2
  go_ret
  exact ⟨rfl, hbE⟩
end Go.Proofs.Yteipbfadljgppaa
