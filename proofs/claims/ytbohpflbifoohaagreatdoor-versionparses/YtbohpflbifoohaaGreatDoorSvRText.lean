/- The reference: a version's text. -/
import Derived.Test.YtbohpflbifoohaaGreatDoorSvTold
namespace Go.Proofs.YtbohpflbifoohaaGreatDoor
open Go.RowKit Go.Shelf Go.Sort Sv

/-- What strings.ReplaceAll is asked for here. -/
def ReplC : Prop := ∀ (s : List UInt8) (W : World), Lb W → s.length ≤ 1000 →
  Calls Tryz.prog 42 #[.string ⟨s.toArray⟩, .string ⟨#[32]⟩, .string ⟨#[46]⟩] W fun e w' => e = .returned (.string ⟨(Lib.replaceAll s [32] [46]).toArray⟩) ∧ Below W.heap.size W w'

set_option maxRecDepth 100000 in
set_option maxHeartbeats 1000000 in
theorem rtext_any (HJ : JoinC) (HRC : ReplC) (a b c : Int) (ha : -9223372036854775808 ≤ a ∧ a ≤ 9223372036854775807) (hb : -9223372036854775808 ≤ b ∧ b ≤ 9223372036854775807) (hc : -9223372036854775808 ≤ c ∧ c ≤ 9223372036854775807) (w : World) (hw : Lb w) :
    Calls Tryz.prog 15 #[.agg #[.int .i64 a, .int .i64 b, .int .i64 c]] w fun e w' => e = .returned (.string ⟨(wtx a b c).toArray⟩) ∧ Below w.heap.size w w' := by
  have kv := Blk.new w 24 #[.int .i64 a, .int .i64 b, .int .i64 c]
  have hB0 : Below w.heap.size w (w.alloc (.cells #[.int .i64 a, .int .i64 b, .int .i64 c] 24)) := (Below.refl _ w).alloc (Nat.le_refl _) _
  have hl1 := Lib.itoa_length_le a ha.1 ha.2
  have hl2 := Lib.itoa_length_le b hb.1 hb.2
  have hl3 := Lib.itoa_length_le c hc.1 hc.2
  have H1 : Hid (∀ W, Below (w.alloc (.cells #[.int .i64 a, .int .i64 b, .int .i64 c] 24)).heap.size (w.alloc (.cells #[.int .i64 a, .int .i64 b, .int .i64 c] 24)) W → Calls Tryz.prog 43 #[.slice (some ⟨w.heap.size, 0, none⟩) 3 3] W fun e w' => e = .returned (.string ⟨(Lib.itoa a ++ 32 :: (Lib.itoa b ++ 32 :: Lib.itoa c)).toArray⟩) ∧ Below W.heap.size W w') := fun W hbW => told3_any HJ a b c ha hb hc w.heap.size 3 W (hw.below (hB0.trans (hbW.mono hB0.size))) ((kv.below hbW kv.lt).lt) (fun j hj => by
    rw [(kv.below hbW kv.lt).cell j]
    match j, hj with
    | 0, _ => rfl
    | 1, _ => rfl
    | 2, _ => rfl)
  have H2 : Hid (∀ W, Below w.heap.size w W → Calls Tryz.prog 42 #[.string ⟨(Lib.itoa a ++ 32 :: (Lib.itoa b ++ 32 :: Lib.itoa c)).toArray⟩, .string ⟨#[32]⟩, .string ⟨#[46]⟩] W fun e w' => e = .returned (.string ⟨(wtx a b c).toArray⟩) ∧ Below W.heap.size W w') := fun W hbW => by
    have := HRC (Lib.itoa a ++ 32 :: (Lib.itoa b ++ 32 :: Lib.itoa c)) W (hw.below hbW) (by simp; omega)
    rw [text_repl] at this
    exact this
  have HB0 := Lib.hid hB0
  clear hw kv hB0 ha hb hc HJ HRC hl1 hl2 hl3
  generalize (⟨(Lib.itoa a ++ 32 :: (Lib.itoa b ++ 32 :: Lib.itoa c)).toArray⟩ : ByteArray) = R at *
  generalize (⟨(wtx a b c).toArray⟩ : ByteArray) = T at *
  go_enter Tryz.func15, Tryz.ntmps15
  go_wp2_with fail
  generalize w.alloc (.cells #[.int .i64 a, .int .i64 b, .int .i64 c] 24) = W0 at *
  refine (H1.out _ (Below.refl _ _)).mono ?_
  rintro e w1 ⟨rfl, hb1⟩
  have HB1 : Hid (Below w.heap.size w w1) := HB0.out.trans (hb1.mono HB0.out.size)
  clear hb1 H1
  go_wp2_with fail
  refine (H2.out _ HB1.out).mono ?_
  rintro e w2 ⟨rfl, hb2⟩
  have HB2 : Hid (Below w.heap.size w w2) := HB1.out.trans (hb2.mono HB1.out.size)
  clear hb2 H2
  go_wp2
  go_ret
  exact ⟨rfl, HB2.out⟩
end Go.Proofs.YtbohpflbifoohaaGreatDoor
