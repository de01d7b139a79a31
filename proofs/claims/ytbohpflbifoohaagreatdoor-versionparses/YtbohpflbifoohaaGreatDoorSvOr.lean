/- Or, Empty. -/
import Derived.Test.YtbohpflbifoohaaGreatDoorSvRow
namespace Go.Proofs.YtbohpflbifoohaaGreatDoor
open Go.RowKit Sv

set_option maxRecDepth 100000 in
set_option maxHeartbeats 2000000 in
theorem or_any (l m : List Span) (hl : Rg l) (hm : Rg m) (v u : Value) (w : World) (hv : SpAt w v l) (hu : SpAt w u m) :
    Calls Tryz.prog 25 #[.agg #[v], .agg #[u]] w (RgOut w (orr l m)) := by
  obtain ⟨a, cap, rfl⟩ := hv.form
  obtain ⟨b, cbp, rfl⟩ := hu.form
  have hB := (box3 w (.slice a l.length cap) (.slice b m.length cbp) (.slice none 0 0) 46 46 46).below
  have HN1 : Hid (∀ W, Below w.heap.size w W → Calls Tryz.prog 27 #[.agg #[.slice a l.length cap]] W (fun e w' => ∃ a' c', e = .returned (.agg #[.slice a' (nt l).length c']) ∧ SpAt w' (.slice a' (nt l).length c') (nt l) ∧ Below W.heap.size W w')) := fun W hW => (not_any l hl _ W (hv.below hW (Nat.le_refl _))).mono fun e w' ⟨v', he, hs, hn, hb⟩ => by obtain ⟨a', c', rfl⟩ := hs.form; exact ⟨a', c', he, hs, hb⟩
  have HN2 : Hid (∀ W, Below w.heap.size w W → Calls Tryz.prog 27 #[.agg #[.slice b m.length cbp]] W (fun e w' => ∃ a' c', e = .returned (.agg #[.slice a' (nt m).length c']) ∧ SpAt w' (.slice a' (nt m).length c') (nt m) ∧ Below W.heap.size W w')) := fun W hW => (not_any m hm _ W (hu.below hW (Nat.le_refl _))).mono fun e w' ⟨v', he, hs, hn, hb⟩ => by obtain ⟨a', c', rfl⟩ := hs.form; exact ⟨a', c', he, hs, hb⟩
  have HA : Hid (∀ v1 v2 W, SpAt W v1 (nt l) → SpAt W v2 (nt m) → Calls Tryz.prog 26 #[.agg #[v1], .agg #[v2]] W (fun e w' => ∃ a' c', e = .returned (.agg #[.slice a' (nd (nt l) (nt m)).length c']) ∧ SpAt w' (.slice a' (nd (nt l) (nt m)).length c') (nd (nt l) (nt m)) ∧ Below W.heap.size W w')) := fun v1 v2 W h1 h2 => (and_any _ _ (rg_nt hl) (rg_nt hm) v1 v2 W h1 h2).mono fun e w' ⟨v', he, hs, hn, hb⟩ => by obtain ⟨a', c', rfl⟩ := hs.form; exact ⟨a', c', he, hs, hb⟩
  have HN3 : Hid (∀ v1 W, SpAt W v1 (nd (nt l) (nt m)) → Calls Tryz.prog 27 #[.agg #[v1]] W (fun e w' => ∃ a' c', e = .returned (.agg #[.slice a' (orr l m).length c']) ∧ SpAt w' (.slice a' (orr l m).length c') (orr l m) ∧ (∀ g, (Value.slice a' (orr l m).length c').ownBlock = some g → W.heap.size ≤ g) ∧ Below W.heap.size W w')) := fun v1 W h1 => (not_any _ (rg_nd (rg_nt hl) (rg_nt hm)) v1 W h1).mono fun e w' ⟨v', he, hs, hn, hb⟩ => by obtain ⟨a', c', rfl⟩ := hs.form; exact ⟨a', c', he, hs, hn, hb⟩
  have hbox := box3 w (.slice a l.length cap) (.slice b m.length cbp) (.slice none 0 0) 46 46 46
  clear hv hu hl hm hB
  go_enter Tryz.func25, Tryz.ntmps25
  go_wp2_with fail
  generalize ((w.alloc (.cells #[.slice a l.length cap] 46)).alloc (.cells #[.slice b m.length cbp] 46)).alloc (.cells #[.slice none 0 0] 46) = W0 at *
  have hs0 := hbox.size
  have hB0 := hbox.below
  have hr0 := hbox.c0
  have ho0 := hbox.c1
  have hc0 := hbox.c2
  have hf0 := hbox.f2
  have SC : Hid (∀ W, Below (w.heap.size + 2) W0 W → W.cell? ⟨w.heap.size, 0, none⟩ = some (.slice a l.length cap) ∧ W.cell? ⟨w.heap.size + 1, 0, none⟩ = some (.slice b m.length cbp)) := fun W hb => ⟨(hb.cell (p := ⟨w.heap.size, 0, none⟩) (by show w.heap.size < _; omega)).trans hr0, (hb.cell (p := ⟨w.heap.size + 1, 0, none⟩) (by show w.heap.size + 1 < _; omega)).trans ho0⟩
  have HB0 := Lib.hid hB0
  have HS0 := Lib.hid hs0
  have HC0 := Lib.hid hc0
  have HF0 := Lib.hid hf0
  have L0 : Hid (w.heap.size + 2 ≤ W0.heap.size) := by show w.heap.size + 2 ≤ W0.heap.size; omega
  have L1 : Hid (w.heap.size + 1 + 1 < W0.heap.size) := by show w.heap.size + 1 + 1 < W0.heap.size; omega
  have D0 : Below W0.heap.size W0 W0.drew := (Below.refl _ _).drew
  have E0 : Below w.heap.size w W0.drew := hB0.drew
  clear hbox hs0 hB0 hr0 ho0 hc0 hf0
  go_region_held3 (fun w' => w'.cell? ⟨w.heap.size, 0, none⟩ = some (.slice a l.length cap) ∧ w'.cell? ⟨w.heap.size + 1, 0, none⟩ = some (.slice b m.length cbp)) (first | exact SC.out _ (D0.mono L0.out) | exact SC.out _ (D1.mono L0.out) | exact SC.out _ (D2.mono L0.out) | exact SC.out _ (D3.mono L0.out) | exact SC.out _ (D4.mono L0.out) | exact SC.out _ D5)
    (first
      | ((with_reducible refine (HN1.out _ E0).mono ?_); rintro e w1 ⟨a1, c1, rfl, hs1, hb1⟩; have D1 : Below W0.heap.size W0 w1 := D0.trans hb1; have E1 : Below w.heap.size w w1 := E0.trans (hb1.mono E0.size); clear HN1)
      | ((with_reducible refine (HN2.out _ E1).mono ?_); rintro e w2 ⟨a2, c2, rfl, hs2, hb2⟩; have D2 : Below W0.heap.size W0 w2 := D1.trans (hb2.mono D1.size); have hs12 := hs1.below hb2 (Nat.le_refl _); clear HN2)
      | ((with_reducible refine (HA.out _ _ _ hs12 hs2).mono ?_); rintro e w3 ⟨a3, c3, rfl, hs3, hb3⟩; have D3 : Below W0.heap.size W0 w3 := D2.trans (hb3.mono D2.size); clear HA)
      | ((with_reducible refine (HN3.out _ _ hs3).mono ?_); rintro e w4 ⟨a4, c4, rfl, hs4, hn4, hb4⟩; have D4 : Below W0.heap.size W0 w4 := D3.trans (hb4.mono D3.size); have hc4 := (D4.cell (p := ⟨w.heap.size + 1 + 1, 0, none⟩) L1.out).trans HC0.out; have hf4 := (D4.frozen (p := ⟨w.heap.size + 1 + 1, 0, none⟩) L1.out).trans HF0.out; have D5 : Below (w.heap.size + 2) W0 (w4.setCell ⟨w.heap.size + 1 + 1, 0, none⟩ (.slice a4 (orr l m).length c4)) := (D4.mono L0.out).setCell (p := ⟨w.heap.size + 1 + 1, 0, none⟩) (Nat.le_refl _) _; clear HN3))
  have hn : ∀ g, (Value.slice a4 (orr l m).length c4).ownBlock = some g → W0.heap.size ≤ g := fun g hg => Nat.le_trans D3.size (hn4 g hg)
  have HP := Lib.hid (put_out HB0.out HC0.out (by omega) L1.out hs4 hn D4)
  clear hs1 hs2 hs12 hs3 hs4 hn4 hn hb1 hb2 hb3 hb4 D0 D1 D2 D3 D4 D5 E0 E1
  go_wp2
  obtain ⟨h3, h4, h5, h6⟩ := HP.out
  refine bodyPost_ret (v := .agg #[.slice a4 (orr l m).length c4]) (by simp [results, Tryz.results25, go_sem, h3]) rfl ?_
  exact ⟨_, rfl, h4, h5, h6⟩

set_option maxRecDepth 100000 in
set_option maxHeartbeats 2000000 in
theorem empty_any (l : List Span) (v : Value) (w : World) (hv : SpAt w v l) :
    Calls Tryz.prog 19 #[.agg #[v]] w fun e w' => e = .returned (.bool (decide (l = []))) ∧ Below w.heap.size w w' := by
  obtain ⟨a, cap, rfl⟩ := hv.form
  clear hv
  have hb := (Below.refl w.heap.size w).alloc (Nat.le_refl _) (.cells #[.slice a l.length cap] 46)
  have hd : decide (l = []) = ((l.length : Int) == 0) := by cases l <;> simp <;> omega
  rw [hd]
  have HB := Lib.hid hb
  clear hb hd
  go_enter Tryz.func19, Tryz.ntmps19
  go_wp2
  go_ret
  exact ⟨rfl, HB.out⟩
end Go.Proofs.YtbohpflbifoohaaGreatDoor
