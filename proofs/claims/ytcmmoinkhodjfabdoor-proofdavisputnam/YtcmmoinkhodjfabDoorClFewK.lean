/- few, as the laws without the document's answer have it; clauses that are laid down by a literal. -/
import Derived.Test.YtcmmoinkhodjfabDoorClRow
namespace Go.Proofs.YtcmmoinkhodjfabDoor
open Go.RowKit Go.Deep

def IsB (e : Ending) : Prop := ∃ B, e = .returned (.bool B)

set_option maxRecDepth 100000 in
set_option maxHeartbeats 2000000 in
theorem few_any (v most : Int) (l : List (List Int)) (a : Option Addr) (cap : Nat) (w : World) (hI : ClsIn w a l) (hm : l.length ≤ 9223372036854775807) :
    Calls Tryd.prog 14 #[.int .i64 v, .slice a l.length cap, .int .i64 most] w fun e w' => IsB e ∧ w = w' := by
  have HI := Lib.hid hI
  clear hI
  go_enter Tryd.func14, Tryd.ntmps14
  go_wp2_with fail
  go_loop [7, 8] (fun nV kV => ∃ (k : Nat) (n : Int), k ≤ l.length ∧ kV = .int .i64 (k : Int) ∧ nV = .int .i64 n) (fun _ kV => l.length - (intOf kV).toNat)
  case atStart => exact ⟨0, _, Nat.zero_le _, rfl, rfl⟩
  case round =>
    obtain ⟨k, n, hk, rfl, rfl⟩ := hrel
    by_cases hlt : k < l.length
    · obtain ⟨ad, a', cap', rfl, hl, hc, g1, g2, g3⟩ := HI.out k hlt
      clear g3
      generalize (l.getD k []).length = len at *
      go_wp2
      go_round
      case rel => exact ⟨k + 1, _, hlt, by go_num, rfl⟩
      case measure => simp [intOf]; omega
    · obtain rfl : k = l.length := by omega
      by_cases hv : v ≤ 10
      · go_wp2
        go_ret
        exact ⟨⟨_, rfl⟩, rfl⟩
      · go_wp2
        go_ret
        exact ⟨⟨_, rfl⟩, rfl⟩

/-- Two clauses that are laid down by a literal. -/
theorem two_cls {w : World} {b1 b2 b3 : Nat} {t1 t2 t3 : TypeId} {c1 c2 : List Int} (h1 : Blk w b1 t1 (icells c1).toArray) (h2 : Blk w b2 t2 (icells c2).toArray) (h3 : Blk w b3 t3 #[.slice (some ⟨b1, 0, none⟩) c1.length c1.length, .slice (some ⟨b2, 0, none⟩) c2.length c2.length]) (l1 : c1.length ≤ 9223372036854775807) (l2 : c2.length ≤ 9223372036854775807) : ClsIn w (some ⟨b3, 0, none⟩) [c1, c2] := by
  have hi : ∀ (b : Nat) (t : TypeId) (c : List Int), Blk w b t (icells c).toArray → IntsIn w (some ⟨b, 0, none⟩) c := fun b t c h i hi => ⟨_, rfl, h.lt, by rw [add_plain, Nat.zero_add, h.cell, List.getElem?_toArray, icells_at _ _ hi]⟩
  intro i hl
  match i, hl with
  | 0, _ => exact ⟨_, _, _, rfl, h3.lt, by rw [add_plain, h3.cell]; rfl, Nat.le_refl _, l1, hi _ _ _ h1⟩
  | 1, _ => exact ⟨_, _, _, rfl, h3.lt, by rw [add_plain, h3.cell]; rfl, Nat.le_refl _, l2, hi _ _ _ h2⟩

/-- One clause. -/
theorem one_cls {w : World} {b1 b3 : Nat} {t1 t3 : TypeId} {c1 : List Int} (h1 : Blk w b1 t1 (icells c1).toArray) (h3 : Blk w b3 t3 #[.slice (some ⟨b1, 0, none⟩) c1.length c1.length]) (l1 : c1.length ≤ 9223372036854775807) : ClsIn w (some ⟨b3, 0, none⟩) [c1] := by
  have hi : IntsIn w (some ⟨b1, 0, none⟩) c1 := fun i hi => ⟨_, rfl, h1.lt, by rw [add_plain, Nat.zero_add, h1.cell, List.getElem?_toArray, icells_at _ _ hi]⟩
  intro i hl
  match i, hl with
  | 0, _ => exact ⟨_, _, _, rfl, h3.lt, by rw [add_plain, h3.cell]; rfl, Nat.le_refl _, l1, hi⟩
end Go.Proofs.YtcmmoinkhodjfabDoor
