/- The contract of the reference's Told at one number. -/
import Derived.Test.YtapphakhlklofaaDoorText
namespace Go.Proofs.YtapphakhlklofaaDoor
open Go.RowKit Num Go.Sort

theorem info9 : (Tryd.prog.info? 9).map (fun i => (i.zero, i.size, i.bytes)) = some (some (.string ⟨#[]⟩), 1, 16) := by kernel_rfl

theorem itoa_any (x : Int) (m : Nat) (w : World) (hx : x = (m : Int)) (h1 : x ≤ 9223372036854775807) (htab : Tab w) :
    Calls Tryd.prog 53 #[.int .i64 x] w fun e w' => e = .returned (.string ⟨(Lib.decDigits m).toArray⟩) ∧ Below w.heap.size w w' := by
  subst hx
  refine (Tryd.strconv_Itoa (m : Int) (by omega) h1 w htab).mono ?_
  rintro e w' ⟨rfl, k, os, rfl⟩
  exact ⟨by rw [Lib.itoa_nonneg], Lib.below_grow _ w (Nat.le_refl _) k os⟩

set_option maxRecDepth 100000 in
set_option maxHeartbeats 1000000 in
theorem told_any (x : Int) (m b off : Nat) (w : World) (hx : x = (m : Int)) (h1 : x ≤ 9223372036854775807) (htab : Tab w) (hc : w.cell? ⟨b, off, none⟩ = some (.int .i64 x)) (hb : b < w.heap.size) :
    Calls Tryd.prog 29 #[.slice (some ⟨b, off, none⟩) 1 1] w fun e w' => e = .returned (.string ⟨(Lib.decDigits m).toArray⟩) ∧ Below w.heap.size w w' := by
  obtain ⟨i0, hi, hz0, hz1, hz2⟩ := info_parts info9
  have HT : Hid (Tab w) := htab
  have HI : Hid (∀ W, Tab W → Calls Tryd.prog 53 #[.int .i64 x] W fun e w' => e = .returned (.string ⟨(Lib.decDigits m).toArray⟩) ∧ Below W.heap.size W w') := fun W hW => itoa_any x m W hx h1 hW
  clear htab hx
  generalize Lib.decDigits m = l at *
  go_enter Tryd.func29, Tryd.ntmps29
  go_wp2_with fail
  go_loopw [3, 8] (fun v i wr => Below w.heap.size w wr ∧ ((i = .int .i64 0 ∧ v = .slice none 0 0) ∨ (i = .int .i64 1 ∧ ∃ g cap, v = .slice (some ⟨g, 0, none⟩) 1 cap ∧ wr.cell? ⟨g, 0, none⟩ = some (.string ⟨l.toArray⟩))))
    (fun _ i _ => 1 - (intOf i).toNat)
  case atStart => exact ⟨Below.refl _ _, Or.inl ⟨rfl, rfl⟩⟩
  case round =>
    obtain ⟨hbw, ⟨rfl, rfl⟩ | ⟨rfl, g, cap, rfl, hcg⟩⟩ := hrel
    · have hcr : wr.cell? ⟨b, off, none⟩ = some (.int .i64 x) := (hbw.cell (p := ⟨b, off, none⟩) hb).trans hc
      go_wp2_with fail
      refine (HI.out _ (HT.out.below hbw)).mono ?_
      rintro e w1 ⟨rfl, hb1⟩
      have hsz := hb1.size
      have hsw := hbw.size
      go_wp2_with (at_builtin; refine wpList_append_own _ rfl _ _ 85 rfl w.heap.size 9 i0 (.string ⟨#[]⟩) 1 16 Tryd.underlying85 hi hz0 hz1 hz2 rfl (by decide) _ _ _ rfl (World.ownsRow_nil _ _ _ _) ⟨w1.heap.size, 0, none⟩ 1 1 [.string ⟨l.toArray⟩] rfl rfl ?c1 ?c2 ?c3 ?c4 ?c5 ?_)
      case c1 => exact cell_one_new _ _ _
      case c2 => intro u hu; simp at hu; subst hu; rfl
      case c3 => unfold maxLen; omega
      case c4 => omega
      case c5 => simp; omega
      intro v' w2 hown hgrow _
      have hb2 : Below w.heap.size w w2 := (((hbw.trans (hb1.mono hsw)).alloc (by omega) _)).grown hgrow (by simp; omega) (fun k hk => by cases hk)
      go_wp2
      go_roundw
      case rel =>
        refine ⟨hb2, Or.inr ⟨rfl, ?_⟩⟩
        rcases id hown.2 with ⟨-, h2⟩ | ⟨g, cap, cur, h2, -⟩
        · simp at h2
        · subst h2
          refine ⟨g, cap, rfl, ?_⟩
          have := hown.cellAt 0 (by omega)
          rw [this]; rfl
      case measure => simp [intOf]
    · go_wp2
      go_ret
      exact ⟨rfl, hbw⟩
end Go.Proofs.YtapphakhlklofaaDoor
