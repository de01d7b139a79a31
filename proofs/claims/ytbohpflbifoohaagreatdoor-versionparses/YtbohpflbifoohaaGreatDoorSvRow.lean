/- row, Any, Or, Empty. -/
import Derived.Test.YtbohpflbifoohaaGreatDoorSvAnd
namespace Go.Proofs.YtbohpflbifoohaaGreatDoor
open Go.RowKit Sv

set_option maxRecDepth 100000 in
set_option maxHeartbeats 2000000 in
theorem row_any (a b : Nat) (w : World) :
    Calls Tryz.prog 64 #[.int .i64 (a : Int), .int .i64 (b : Int)] w (RgOut w (rowF a b)) := by
  by_cases h : a < b
  · have h' : ¬ (b : Int) ≤ (a : Int) := by omega
    have hb := ((Below.refl w.heap.size w).alloc (Nat.le_refl _) (.cells #[.slice (some ⟨w.heap.size + 1, 0, none⟩) 1 1] 46)).alloc (by rw [World.size_alloc]; omega) (.cells #[.int .i64 (a : Int), .int .i64 (b : Int)] 91)
    have h2 := cell2 (w.alloc (.cells #[.slice (some ⟨w.heap.size + 1, 0, none⟩) 1 1] 46)) (.int .i64 (a : Int)) (.int .i64 (b : Int)) 91
    rw [World.size_alloc] at h2
    have h1 := cell1 w (.slice (some ⟨w.heap.size + 1, 0, none⟩) 1 1) 46
    have h3 : ((w.alloc (.cells #[.slice (some ⟨w.heap.size + 1, 0, none⟩) 1 1] 46)).alloc (.cells #[.int .i64 (a : Int), .int .i64 (b : Int)] 91)).cell? ⟨w.heap.size, 0, none⟩ = some (.slice (some ⟨w.heap.size + 1, 0, none⟩) 1 1) := (((Below.refl _ (w.alloc (.cells #[.slice (some ⟨w.heap.size + 1, 0, none⟩) 1 1] 46))).alloc (Nat.le_refl _) _).cell (p := ⟨w.heap.size, 0, none⟩) (by show w.heap.size < _; rw [World.size_alloc]; omega)).trans h1
    have hs : w.heap.size + 1 < ((w.alloc (.cells #[.slice (some ⟨w.heap.size + 1, 0, none⟩) 1 1] 46)).alloc (.cells #[.int .i64 (a : Int), .int .i64 (b : Int)] 91)).heap.size := by rw [World.size_alloc, World.size_alloc]; omega
    have HB := Lib.hid hb
    have H2 := Lib.hid h2
    have H3 := Lib.hid h3
    have HS := Lib.hid hs
    clear hb h2 h1 h3 hs
    go_enter Tryz.func64, Tryz.ntmps64
    go_wp2
    have h3 := H3.out
    refine bodyPost_ret (v := .agg #[.slice (some ⟨w.heap.size + 1, 0, none⟩) 1 1]) (by simp [results, Tryz.results64, go_sem, h3]) rfl ?_
    refine ⟨_, rfl, ?_, fun g hg => by simp [Value.ownBlock] at hg; omega, HB.out⟩
    rw [rowF, if_pos h]
    exact ⟨⟨_, _, rfl⟩, fun i hi => ⟨w.heap.size + 1, 1, rfl, HS.out, by obtain rfl : i = 0 := (by simp at hi; exact hi); exact H2.out.1, by obtain rfl : i = 0 := (by simp at hi; exact hi); exact H2.out.2⟩⟩
  · have h' : (b : Int) ≤ (a : Int) := by omega
    have h1 := cell1 w (.slice none 0 0) 46
    have H1 := Lib.hid h1
    clear h1
    go_enter Tryz.func64, Tryz.ntmps64
    go_wp2
    have h1 := H1.out
    refine bodyPost_ret (v := .agg #[.slice none 0 0]) (by simp [results, Tryz.results64, go_sem]) rfl ?_
    refine ⟨_, rfl, ?_, fun g hg => by simp [Value.ownBlock] at hg, (Below.refl _ _).alloc (Nat.le_refl _) _⟩
    rw [rowF, if_neg h]
    exact spAt_nil _

/-- A box that a result is put into. -/
theorem put_out {w w1 w' : World} {v : Value} {l : List Span} {b : Nat} (hb : Below w.heap.size w w1) (h1 : w1.cell? ⟨b, 0, none⟩ = some (.slice none 0 0)) (hB : w.heap.size ≤ b) (hl : b < w1.heap.size) (hs : SpAt w' v l) (hn : ∀ g, v.ownBlock = some g → w1.heap.size ≤ g) (h' : Below w1.heap.size w1 w') :
    (w'.setCell ⟨b, 0, none⟩ v).cell? ⟨b, 0, none⟩ = some v ∧ SpAt (w'.setCell ⟨b, 0, none⟩ v) v l ∧ (∀ g, v.ownBlock = some g → w.heap.size ≤ g) ∧ Below w.heap.size w (w'.setCell ⟨b, 0, none⟩ v) := by
  refine ⟨World.cell?_setCell_same' _ _ _ (by rw [h'.cell (p := ⟨b, 0, none⟩) hl, h1]; rfl), hs.set (fun e => by have := hn b e; omega), fun g hg => Nat.le_trans hb.size (hn g hg), (hb.trans (h'.mono hb.size)).setCell (p := ⟨b, 0, none⟩) hB v⟩

set_option maxRecDepth 100000 in
set_option maxHeartbeats 2000000 in
theorem any_any (w : World) : Calls Tryz.prog 31 #[] w (RgOut w anyF) := by
  have HH : Hid (∀ W : World, Calls Tryz.prog 64 #[.int .i64 0, .int .i64 1000000000] W (fun e w' => ∃ v', e = .returned (.agg #[v']) ∧ SpAt w' v' anyF ∧ (∀ g, v'.ownBlock = some g → W.heap.size ≤ g) ∧ Below W.heap.size W w')) := fun W => row_any 0 1000000000 W
  have h1 := cell1 w (.slice none 0 0) 46
  have f1 := frozen1 w (.slice none 0 0) 46
  have b1 : Below w.heap.size w (w.alloc (.cells #[.slice none 0 0] 46)) := (Below.refl _ _).alloc (Nat.le_refl _) _
  have l1 : w.heap.size < (w.alloc (.cells #[.slice none 0 0] 46)).heap.size := by rw [World.size_alloc]; omega
  have H1 := Lib.hid h1
  have F1 := Lib.hid f1
  have B1 := Lib.hid b1
  have L1 := Lib.hid l1
  clear h1 f1 b1 l1
  go_enter Tryz.func31, Tryz.ntmps31
  go_wp2_with fail
  generalize w.alloc (.cells #[.slice none 0 0] 46) = W1 at *
  refine (HH.out _).mono ?_
  rintro e w' ⟨v', rfl, hs, hn, hb⟩
  obtain ⟨va, vc, rfl⟩ := hs.form
  have hc := (hb.cell (p := ⟨w.heap.size, 0, none⟩) L1.out).trans H1.out
  have hf := (hb.frozen (p := ⟨w.heap.size, 0, none⟩) L1.out).trans F1.out
  have HP := Lib.hid (put_out B1.out H1.out (Nat.le_refl _) L1.out hs hn hb)
  clear hs hn hb
  go_wp2
  obtain ⟨h3, h4, h5, h6⟩ := HP.out
  refine bodyPost_ret (v := .agg #[.slice va anyF.length vc]) (by simp [results, Tryz.results31, go_sem, h3]) rfl ?_
  exact ⟨_, rfl, h4, h5, h6⟩
end Go.Proofs.YtbohpflbifoohaaGreatDoor
