/- The law's own reader: a sign and the version's text. -/
import Derived.Test.YtbohpflbifoohaaGreatDoorSvVText
import Derived.Test.YtbohpflbifoohaaGreatDoorSvOr
namespace Go.Proofs.YtbohpflbifoohaaGreatDoor
open Go.RowKit Go.Shelf Sv

theorem range_ok (s : ByteArray) (l : List Span) (hl : rangeF s = .ok l) (w : World) (hs : s.size ≤ 1000) (hw : Lb w) : Calls Tryz.prog 17 #[.string s] w fun e w' => ∃ a c, e = .returned (.tuple #[.agg #[.slice a l.length c], .nilIface]) ∧ SpAt w' (.slice a l.length c) l ∧ (∀ g, (Value.slice a l.length c).ownBlock = some g → w.heap.size ≤ g) ∧ Below w.heap.size w w' :=
  (range_any s w hs hw).mono fun e w' h => by
    rw [hl] at h
    obtain ⟨v, rfl, hsp, hn, hb⟩ := h
    obtain ⟨a, c, rfl⟩ := hsp.form
    exact ⟨a, c, rfl, hsp, hn, hb⟩

set_option maxRecDepth 100000 in
set_option maxHeartbeats 1000000 in
theorem get_list (g V : List UInt8) (l : List Span) (hg : g.length ≤ 2) (hV : V.length ≤ 11) (hl : rangeF ⟨(g ++ V).toArray⟩ = .ok l) (bt : Nat) (w : World) (hbt : bt < w.heap.size) (hw : Lb w) (ht : w.cell? ⟨bt, 0, none⟩ = some (.string ⟨V.toArray⟩)) :
    Calls Tryz.prog 33 #[.string ⟨g.toArray⟩, .pointer (some ⟨bt, 0, none⟩)] w fun e w' => ∃ a c, e = .returned (.agg #[.slice a l.length c]) ∧ SpAt w' (.slice a l.length c) l ∧ Below w.heap.size w w' := by
  have HQ : Hid ((⟨g.toArray⟩ : ByteArray) ++ ⟨V.toArray⟩ = ⟨(g ++ V).toArray⟩) := bytes_of (by simp [ByteArray.data_append])
  have HR : Hid (∀ W, Below w.heap.size w W → Calls Tryz.prog 17 #[.string ((⟨g.toArray⟩ : ByteArray) ++ ⟨V.toArray⟩)] W fun e w' => ∃ a c, e = .returned (.tuple #[.agg #[.slice a l.length c], .nilIface]) ∧ SpAt w' (.slice a l.length c) l ∧ (∀ g, (Value.slice a l.length c).ownBlock = some g → W.heap.size ≤ g) ∧ Below W.heap.size W w') := fun W hb => by
    rw [HQ.out]
    exact range_ok _ l hl W (by show (g ++ V).toArray.size ≤ _; simp; omega) (hw.below hb)
  have q1 : ¬ 9223372036854775807 < g.length + V.length := by omega
  have h1 := cell1 w (.slice none 0 0) 46
  have f1 := frozen1 w (.slice none 0 0) 46
  have b1 : Below w.heap.size w (w.alloc (.cells #[.slice none 0 0] 46)) := (Below.refl _ _).alloc (Nat.le_refl _) _
  have l1 : w.heap.size < (w.alloc (.cells #[.slice none 0 0] 46)).heap.size := by rw [World.size_alloc]; omega
  have t1 := (b1.cell (p := ⟨bt, 0, none⟩) hbt).trans ht
  have H1 := Lib.hid h1
  have F1 := Lib.hid f1
  have B1 := Lib.hid b1
  have L1 := Lib.hid l1
  clear hl hw hg hV h1 f1 b1 l1 ht hbt
  go_enter Tryz.func33, Tryz.ntmps33
  go_wp2_with fail
  generalize w.alloc (.cells #[.slice none 0 0] 46) = W0 at *
  refine (HR.out _ B1.out).mono ?_
  rintro e w1 ⟨a, c, rfl, hsp, hn, hb⟩
  have hba := hb.alloc hb.size (.cells #[.slice a l.length c] 46)
  have hsa := hsp.below ((Below.refl w1.heap.size w1).alloc (Nat.le_refl _) (.cells #[.slice a l.length c] 46)) (Nat.le_refl _)
  have hc := (hba.cell (p := ⟨w.heap.size, 0, none⟩) L1.out).trans H1.out
  have hf := (hba.frozen (p := ⟨w.heap.size, 0, none⟩) L1.out).trans F1.out
  have HP := Lib.hid (put_out B1.out H1.out (Nat.le_refl _) L1.out hsa hn hba)
  clear hsp hn hb t1 HR hba hsa
  go_wp2
  obtain ⟨h3, h4, h5, h6⟩ := HP.out
  refine bodyPost_ret (v := .agg #[.slice a l.length c]) (by simp [results, Tryz.results33, go_sem, h3]) rfl ?_
  exact ⟨_, _, rfl, h4, h6⟩
end Go.Proofs.YtbohpflbifoohaaGreatDoor
