/- RangeOrders: the law's walk, both versions in order. -/
import Derived.Test.YtbohpflbifoohaaGreatDoorSvOrdP
import Derived.Deep.RegionHeld3
namespace Go.Proofs.YtbohpflbifoohaaGreatDoor
open Go.RowKit Go.Shelf Sv

set_option maxRecDepth 100000 in
set_option maxHeartbeats 8000000 in
theorem orders_in (a b c d e f : Nat) (ha : a ≤ 999) (hb : b ≤ 999) (hc : c ≤ 999) (hd : d ≤ 999) (he : e ≤ 999) (hf : f ≤ 999) (w : World) (hw : Lb w) :
    Calls Tryz.prog 8 #[.agg #[.int .i64 (a : Int), .int .i64 (b : Int), .int .i64 (c : Int)], .agg #[.int .i64 (d : Int), .int .i64 (e : Int), .int .i64 (f : Int)]] w fun e w' => e = .returned (.bool true) ∧ Below w.heap.size w w' := by
  have HR : Hid (∀ W, Below w.heap.size w W → Calls Tryz.prog 32 #[] W fun e w' => e = .returned (.bool true) ∧ Below W.heap.size W w') := fun W hb => ranged_any W (hw.below hb)
  have HR2 : Hid (∀ W, Below w.heap.size w W → Calls Tryz.prog 32 #[] W fun e w' => e = .returned (.bool true) ∧ Below W.heap.size W w') := fun W hb => ranged_any W (hw.below hb)
  have HA1 : Hid (∀ W, Calls Tryz.prog 31 #[] W fun e w' => ∃ a c, e = .returned (.agg #[.slice a anyF.length c]) ∧ SpAt w' (.slice a anyF.length c) anyF ∧ Below W.heap.size W w') := fun W => any_form W
  have HA2 : Hid (∀ W, Calls Tryz.prog 31 #[] W fun e w' => ∃ a c, e = .returned (.agg #[.slice a anyF.length c]) ∧ SpAt w' (.slice a anyF.length c) anyF ∧ Below W.heap.size W w') := fun W => any_form W
  have HV : Hid (∀ va vc W, SpAt W (.slice va anyF.length vc) anyF → Calls Tryz.prog 29 #[.agg #[.slice va anyF.length vc], .agg #[.int .i64 (a : Int), .int .i64 (b : Int), .int .i64 (c : Int)]] W fun e w' => e = .returned (.bool true) ∧ Below W.heap.size W w') := fun va vc W hs => anyhas_in a b c ha hb hc _ W hs
  have HW : Hid (∀ va vc W, SpAt W (.slice va anyF.length vc) anyF → Calls Tryz.prog 29 #[.agg #[.slice va anyF.length vc], .agg #[.int .i64 (d : Int), .int .i64 (e : Int), .int .i64 (f : Int)]] W fun e w' => e = .returned (.bool true) ∧ Below W.heap.size W w') := fun va vc W hs => anyhas_in d e f hd he hf _ W hs
  have HT : Hid (∀ W, Below w.heap.size w W → Calls Tryz.prog 14 #[.agg #[.int .i64 (a : Int), .int .i64 (b : Int), .int .i64 (c : Int)]] W fun e w' => e = .returned (.string ⟨(vtx a b c).toArray⟩) ∧ Below W.heap.size W w') := fun W h => vtext_any a b c ha hb hc W (hw.below h)
  have Glt : Hid (∀ bt W, Below w.heap.size w W → bt < W.heap.size → W.cell? ⟨bt, 0, none⟩ = some (.string ⟨(vtx a b c).toArray⟩) → Calls Tryz.prog 33 #[.string ⟨#[60]⟩, .pointer (some ⟨bt, 0, none⟩)] W fun e w' => ∃ a' c', e = .returned (.agg #[.slice a' (rowF 0 (numN a b c)).length c']) ∧ SpAt w' (.slice a' (rowF 0 (numN a b c)).length c') (rowF 0 (numN a b c)) ∧ Below W.heap.size W w') := fun bt W h1 h2 h3 => get_sign [60] (by unfold Sign; decide) (by decide) a b c ha hb hc _ rfl bt W h2 (hw.below h1) h3
  have Gge : Hid (∀ bt W, Below w.heap.size w W → bt < W.heap.size → W.cell? ⟨bt, 0, none⟩ = some (.string ⟨(vtx a b c).toArray⟩) → Calls Tryz.prog 33 #[.string ⟨#[62, 61]⟩, .pointer (some ⟨bt, 0, none⟩)] W fun e w' => ∃ a' c', e = .returned (.agg #[.slice a' (rowF (numN a b c) ALL).length c']) ∧ SpAt w' (.slice a' (rowF (numN a b c) ALL).length c') (rowF (numN a b c) ALL) ∧ Below W.heap.size W w') := fun bt W h1 h2 h3 => get_sign [62, 61] (by unfold Sign; decide) (by decide) a b c ha hb hc _ rfl bt W h2 (hw.below h1) h3
  have Gca : Hid (∀ bt W, Below w.heap.size w W → bt < W.heap.size → W.cell? ⟨bt, 0, none⟩ = some (.string ⟨(vtx a b c).toArray⟩) → Calls Tryz.prog 33 #[.string ⟨#[94]⟩, .pointer (some ⟨bt, 0, none⟩)] W fun e w' => ∃ a' c', e = .returned (.agg #[.slice a' (rowF (numN a b c) (careN a b c)).length c']) ∧ SpAt w' (.slice a' (rowF (numN a b c) (careN a b c)).length c') (rowF (numN a b c) (careN a b c)) ∧ Below W.heap.size W w') := fun bt W h1 h2 h3 => get_sign [94] (by unfold Sign; decide) (by decide) a b c ha hb hc _ rfl bt W h2 (hw.below h1) h3
  have Gti : Hid (∀ bt W, Below w.heap.size w W → bt < W.heap.size → W.cell? ⟨bt, 0, none⟩ = some (.string ⟨(vtx a b c).toArray⟩) → Calls Tryz.prog 33 #[.string ⟨#[126]⟩, .pointer (some ⟨bt, 0, none⟩)] W fun e w' => ∃ a' c', e = .returned (.agg #[.slice a' (rowF (numN a b c) (numN a (b + 1) 0)).length c']) ∧ SpAt w' (.slice a' (rowF (numN a b c) (numN a (b + 1) 0)).length c') (rowF (numN a b c) (numN a (b + 1) 0)) ∧ Below W.heap.size W w') := fun bt W h1 h2 h3 => get_sign [126] (by unfold Sign; decide) (by decide) a b c ha hb hc _ rfl bt W h2 (hw.below h1) h3
  have Gle : Hid (∀ bt W, Below w.heap.size w W → bt < W.heap.size → W.cell? ⟨bt, 0, none⟩ = some (.string ⟨(vtx a b c).toArray⟩) → Calls Tryz.prog 33 #[.string ⟨#[60, 61]⟩, .pointer (some ⟨bt, 0, none⟩)] W fun e w' => ∃ a' c', e = .returned (.agg #[.slice a' (rowF 0 ((numN a b c) + 1)).length c']) ∧ SpAt w' (.slice a' (rowF 0 ((numN a b c) + 1)).length c') (rowF 0 ((numN a b c) + 1)) ∧ Below W.heap.size W w') := fun bt W h1 h2 h3 => get_sign [60, 61] (by unfold Sign; decide) (by decide) a b c ha hb hc _ rfl bt W h2 (hw.below h1) h3
  have Ggt : Hid (∀ bt W, Below w.heap.size w W → bt < W.heap.size → W.cell? ⟨bt, 0, none⟩ = some (.string ⟨(vtx a b c).toArray⟩) → Calls Tryz.prog 33 #[.string ⟨#[62]⟩, .pointer (some ⟨bt, 0, none⟩)] W fun e w' => ∃ a' c', e = .returned (.agg #[.slice a' (rowF ((numN a b c) + 1) ALL).length c']) ∧ SpAt w' (.slice a' (rowF ((numN a b c) + 1) ALL).length c') (rowF ((numN a b c) + 1) ALL) ∧ Below W.heap.size W w') := fun bt W h1 h2 h3 => get_sign [62] (by unfold Sign; decide) (by decide) a b c ha hb hc _ rfl bt W h2 (hw.below h1) h3
  have Gno : Hid (∀ bt W, Below w.heap.size w W → bt < W.heap.size → W.cell? ⟨bt, 0, none⟩ = some (.string ⟨(vtx a b c).toArray⟩) → Calls Tryz.prog 33 #[.string ⟨#[]⟩, .pointer (some ⟨bt, 0, none⟩)] W fun e w' => ∃ a' c', e = .returned (.agg #[.slice a' (rowF (numN a b c) ((numN a b c) + 1)).length c']) ∧ SpAt w' (.slice a' (rowF (numN a b c) ((numN a b c) + 1)).length c') (rowF (numN a b c) ((numN a b c) + 1)) ∧ Below W.heap.size W w') := fun bt W h1 h2 h3 => get_sign [] (by unfold Sign; decide) (by decide) a b c ha hb hc _ rfl bt W h2 (hw.below h1) h3
  have Gne : Hid (∀ bt W, Below w.heap.size w W → bt < W.heap.size → W.cell? ⟨bt, 0, none⟩ = some (.string ⟨(vtx a b c).toArray⟩) → Calls Tryz.prog 33 #[.string ⟨#[33]⟩, .pointer (some ⟨bt, 0, none⟩)] W fun e w' => ∃ a' c', e = .returned (.agg #[.slice a' (nt (rowF (numN a b c) ((numN a b c) + 1))).length c']) ∧ SpAt w' (.slice a' (nt (rowF (numN a b c) ((numN a b c) + 1))).length c') (nt (rowF (numN a b c) ((numN a b c) + 1))) ∧ Below W.heap.size W w') := fun bt W h1 h2 h3 => get_sign [33] (by unfold Sign; decide) (by decide) a b c ha hb hc _ rfl bt W h2 (hw.below h1) h3
  have Geq : Hid (∀ bt W, Below w.heap.size w W → bt < W.heap.size → W.cell? ⟨bt, 0, none⟩ = some (.string ⟨(vtx a b c).toArray⟩) → Calls Tryz.prog 33 #[.string ⟨#[61]⟩, .pointer (some ⟨bt, 0, none⟩)] W fun e w' => ∃ a' c', e = .returned (.agg #[.slice a' (rowF (numN a b c) ((numN a b c) + 1)).length c']) ∧ SpAt w' (.slice a' (rowF (numN a b c) ((numN a b c) + 1)).length c') (rowF (numN a b c) ((numN a b c) + 1)) ∧ Below W.heap.size W w') := fun bt W h1 h2 h3 => get_sign [61] (by unfold Sign; decide) (by decide) a b c ha hb hc _ rfl bt W h2 (hw.below h1) h3
  have CHlt : Hid (∀ va vc W, SpAt W (.slice va (rowF 0 (numN a b c)).length vc) (rowF 0 (numN a b c)) → Calls Tryz.prog 29 #[.agg #[.slice va (rowF 0 (numN a b c)).length vc], .agg #[.int .i64 (d : Int), .int .i64 (e : Int), .int .i64 (f : Int)]] W fun r w' => r = .returned (.bool (decide ((cmpI (numN d e f) (numN a b c)) < 0))) ∧ Below W.heap.size W w') := fun va vc W hs => has_row _ _ d e f hd he hf _ (Nat.le_of_lt (numN_lt ha hb hc)) _ (z_lt _ _) W hs
  have CHge : Hid (∀ va vc W, SpAt W (.slice va (rowF (numN a b c) ALL).length vc) (rowF (numN a b c) ALL) → Calls Tryz.prog 29 #[.agg #[.slice va (rowF (numN a b c) ALL).length vc], .agg #[.int .i64 (d : Int), .int .i64 (e : Int), .int .i64 (f : Int)]] W fun r w' => r = .returned (.bool (decide (0 ≤ (cmpI (numN d e f) (numN a b c))))) ∧ Below W.heap.size W w') := fun va vc W hs => has_row _ _ d e f hd he hf _ (Nat.le_refl _) _ (z_ge (numN_lt hd he hf) _) W hs
  have CHle : Hid (∀ va vc W, SpAt W (.slice va (rowF 0 ((numN a b c) + 1)).length vc) (rowF 0 ((numN a b c) + 1)) → Calls Tryz.prog 29 #[.agg #[.slice va (rowF 0 ((numN a b c) + 1)).length vc], .agg #[.int .i64 (d : Int), .int .i64 (e : Int), .int .i64 (f : Int)]] W fun r w' => r = .returned (.bool (decide ((cmpI (numN d e f) (numN a b c)) ≤ 0))) ∧ Below W.heap.size W w') := fun va vc W hs => has_row _ _ d e f hd he hf _ (numN_lt ha hb hc) _ (z_le _ _) W hs
  have CHgt : Hid (∀ va vc W, SpAt W (.slice va (rowF ((numN a b c) + 1) ALL).length vc) (rowF ((numN a b c) + 1) ALL) → Calls Tryz.prog 29 #[.agg #[.slice va (rowF ((numN a b c) + 1) ALL).length vc], .agg #[.int .i64 (d : Int), .int .i64 (e : Int), .int .i64 (f : Int)]] W fun r w' => r = .returned (.bool (decide (0 < (cmpI (numN d e f) (numN a b c))))) ∧ Below W.heap.size W w') := fun va vc W hs => has_row _ _ d e f hd he hf _ (Nat.le_refl _) _ (z_gt (numN_lt hd he hf) _) W hs
  have CHno : Hid (∀ va vc W, SpAt W (.slice va (rowF (numN a b c) ((numN a b c) + 1)).length vc) (rowF (numN a b c) ((numN a b c) + 1)) → Calls Tryz.prog 29 #[.agg #[.slice va (rowF (numN a b c) ((numN a b c) + 1)).length vc], .agg #[.int .i64 (d : Int), .int .i64 (e : Int), .int .i64 (f : Int)]] W fun r w' => r = .returned (.bool ((cmpI (numN d e f) (numN a b c)) == 0)) ∧ Below W.heap.size W w') := fun va vc W hs => has_row _ _ d e f hd he hf _ (numN_lt ha hb hc) _ (z_eq _ _) W hs
  have CC : Hid (∀ W, Calls Tryz.prog 12 #[.agg #[.int .i64 (d : Int), .int .i64 (e : Int), .int .i64 (f : Int)], .agg #[.int .i64 (a : Int), .int .i64 (b : Int), .int .i64 (c : Int)]] W fun r w' => r = .returned (.int .i64 (cmpI (numN d e f) (numN a b c))) ∧ Below W.heap.size W w') := fun W => cmpv_any d e f a b c he hf hb hc W
  have CNeq : Hid (∀ v W, SpAt W v (rowF (numN a b c) ((numN a b c) + 1)) → Calls Tryz.prog 27 #[.agg #[v]] W fun r w' => ∃ a' c', r = .returned (.agg #[.slice a' (nt (rowF (numN a b c) ((numN a b c) + 1))).length c']) ∧ SpAt w' (.slice a' (nt (rowF (numN a b c) ((numN a b c) + 1))).length c') (nt (rowF (numN a b c) ((numN a b c) + 1))) ∧ Below W.heap.size W w') := fun v W h => (not_any _ (rg_row (numN_lt ha hb hc)) v W h).mono fun r w' ⟨v', hr, hs, _, hbl⟩ => by obtain ⟨a', c', rfl⟩ := hs.form; exact ⟨a', c', hr, hs, hbl⟩
  have CNlt : Hid (∀ v W, SpAt W v (rowF 0 (numN a b c)) → Calls Tryz.prog 27 #[.agg #[v]] W fun r w' => ∃ a' c', r = .returned (.agg #[.slice a' (nt (rowF 0 (numN a b c))).length c']) ∧ SpAt w' (.slice a' (nt (rowF 0 (numN a b c))).length c') (nt (rowF 0 (numN a b c))) ∧ Below W.heap.size W w') := fun v W h => (not_any _ (rg_row (Nat.le_of_lt (numN_lt ha hb hc))) v W h).mono fun r w' ⟨v', hr, hs, _, hbl⟩ => by obtain ⟨a', c', rfl⟩ := hs.form; exact ⟨a', c', hr, hs, hbl⟩
  have CSne : Hid (∀ v u W, SpAt W v (nt (rowF (numN a b c) ((numN a b c) + 1))) → SpAt W u (nt (rowF (numN a b c) ((numN a b c) + 1))) → Calls Tryz.prog 28 #[.agg #[v], .agg #[u]] W fun r w' => r = .returned (.bool true) ∧ Below W.heap.size W w') := fun v u W h1 h2 => (same_any _ _ (rg_nt (rg_row (numN_lt ha hb hc))) (rg_nt (rg_row (numN_lt ha hb hc))) v u W h1 h2).mono fun r w' ⟨hr, hbl⟩ => ⟨by rw [decide_eq_true rfl] at hr; exact hr, hbl⟩
  have CSge : Hid (∀ v u W, SpAt W v (nt (rowF 0 (numN a b c))) → SpAt W u (rowF (numN a b c) ALL) → Calls Tryz.prog 28 #[.agg #[v], .agg #[u]] W fun r w' => r = .returned (.bool true) ∧ Below W.heap.size W w') := fun v u W h1 h2 => (same_any _ _ (rg_nt (rg_row (Nat.le_of_lt (numN_lt ha hb hc)))) (rg_row (Nat.le_refl _)) v u W h1 h2).mono fun r w' ⟨hr, hbl⟩ => ⟨by rw [decide_eq_true (nt_lt (Nat.le_of_lt (numN_lt ha hb hc)))] at hr; exact hr, hbl⟩
  have CHca : Hid (∀ va vc W, SpAt W (.slice va (rowF (numN a b c) (careN a b c)).length vc) (rowF (numN a b c) (careN a b c)) → Calls Tryz.prog 29 #[.agg #[.slice va (rowF (numN a b c) (careN a b c)).length vc], .agg #[.int .i64 (a : Int), .int .i64 (b : Int), .int .i64 (c : Int)]] W fun r w' => r = .returned (.bool true) ∧ Below W.heap.size W w') := fun va vc W hs => has_row _ _ a b c ha hb hc _ (careN_le ha hb hc) true (own_row (care_gt hb hc)) W hs
  have CHti : Hid (∀ va vc W, SpAt W (.slice va (rowF (numN a b c) (numN a (b + 1) 0)).length vc) (rowF (numN a b c) (numN a (b + 1) 0)) → Calls Tryz.prog 29 #[.agg #[.slice va (rowF (numN a b c) (numN a (b + 1) 0)).length vc], .agg #[.int .i64 (a : Int), .int .i64 (b : Int), .int .i64 (c : Int)]] W fun r w' => r = .returned (.bool true) ∧ Below W.heap.size W w') := fun va vc W hs => has_row _ _ a b c ha hb hc _ (ti_le ha hb) true (own_row (ti_gt hc)) W hs
  have CAca : Hid (∀ v u W, SpAt W v (rowF (numN a b c) (careN a b c)) → SpAt W u (rowF 0 (numN a b c)) → Calls Tryz.prog 26 #[.agg #[v], .agg #[u]] W fun r w' => ∃ a' c', r = .returned (.agg #[.slice a' (nd (rowF (numN a b c) (careN a b c)) (rowF 0 (numN a b c))).length c']) ∧ SpAt w' (.slice a' (nd (rowF (numN a b c) (careN a b c)) (rowF 0 (numN a b c))).length c') (nd (rowF (numN a b c) (careN a b c)) (rowF 0 (numN a b c))) ∧ Below W.heap.size W w') := fun v u W h1 h2 => (and_any _ _ (rg_row (careN_le ha hb hc)) (rg_row (Nat.le_of_lt (numN_lt ha hb hc))) v u W h1 h2).mono fun r w' ⟨v', hr, hs, _, hbl⟩ => by obtain ⟨a', c', rfl⟩ := hs.form; exact ⟨a', c', hr, hs, hbl⟩
  have CEca : Hid (∀ v W, SpAt W v (nd (rowF (numN a b c) (careN a b c)) (rowF 0 (numN a b c))) → Calls Tryz.prog 19 #[.agg #[v]] W fun r w' => r = .returned (.bool true) ∧ Below W.heap.size W w') := fun v W h => (empty_any _ v W h).mono fun r w' ⟨hr, hbl⟩ => ⟨by rw [decide_eq_true (nd_lt (rg_row (careN_le ha hb hc)) (Nat.le_of_lt (numN_lt ha hb hc)))] at hr; exact hr, hbl⟩
  have CAti : Hid (∀ v u W, SpAt W v (rowF (numN a b c) (numN a (b + 1) 0)) → SpAt W u (rowF 0 (numN a b c)) → Calls Tryz.prog 26 #[.agg #[v], .agg #[u]] W fun r w' => ∃ a' c', r = .returned (.agg #[.slice a' (nd (rowF (numN a b c) (numN a (b + 1) 0)) (rowF 0 (numN a b c))).length c']) ∧ SpAt w' (.slice a' (nd (rowF (numN a b c) (numN a (b + 1) 0)) (rowF 0 (numN a b c))).length c') (nd (rowF (numN a b c) (numN a (b + 1) 0)) (rowF 0 (numN a b c))) ∧ Below W.heap.size W w') := fun v u W h1 h2 => (and_any _ _ (rg_row (ti_le ha hb)) (rg_row (Nat.le_of_lt (numN_lt ha hb hc))) v u W h1 h2).mono fun r w' ⟨v', hr, hs, _, hbl⟩ => by obtain ⟨a', c', rfl⟩ := hs.form; exact ⟨a', c', hr, hs, hbl⟩
  have CEti : Hid (∀ v W, SpAt W v (nd (rowF (numN a b c) (numN a (b + 1) 0)) (rowF 0 (numN a b c))) → Calls Tryz.prog 19 #[.agg #[v]] W fun r w' => r = .returned (.bool true) ∧ Below W.heap.size W w') := fun v W h => (empty_any _ v W h).mono fun r w' ⟨hr, hbl⟩ => ⟨by rw [decide_eq_true (nd_lt (rg_row (ti_le ha hb)) (Nat.le_of_lt (numN_lt ha hb hc)))] at hr; exact hr, hbl⟩
  have CHcaw : Hid (∀ va vc W, SpAt W (.slice va (rowF (numN a b c) (careN a b c)).length vc) (rowF (numN a b c) (careN a b c)) → Calls Tryz.prog 29 #[.agg #[.slice va (rowF (numN a b c) (careN a b c)).length vc], .agg #[.int .i64 (d : Int), .int .i64 (e : Int), .int .i64 (f : Int)]] W fun r w' => r = .returned (.bool (decide ((numN a b c) ≤ (numN d e f) ∧ (numN d e f) < careN a b c))) ∧ Below W.heap.size W w') := fun va vc W hs => has_row _ _ d e f hd he hf _ (careN_le ha hb hc) _ decide_eq_true_iff W hs
  have CHtiw : Hid (∀ va vc W, SpAt W (.slice va (rowF (numN a b c) (numN a (b + 1) 0)).length vc) (rowF (numN a b c) (numN a (b + 1) 0)) → Calls Tryz.prog 29 #[.agg #[.slice va (rowF (numN a b c) (numN a (b + 1) 0)).length vc], .agg #[.int .i64 (d : Int), .int .i64 (e : Int), .int .i64 (f : Int)]] W fun r w' => r = .returned (.bool (decide ((numN a b c) ≤ (numN d e f) ∧ (numN d e f) < numN a (b + 1) 0))) ∧ Below W.heap.size W w') := fun va vc W hs => has_row _ _ d e f hd he hf _ (ti_le ha hb) _ decide_eq_true_iff W hs
  have QC : Hid ((decide ((numN a b c) ≤ (numN d e f) ∧ (numN d e f) < careN a b c)) = true → d = a) := fun h => care_own ha hb hc hd he hf (of_decide_eq_true h)
  have QT : Hid ((decide ((numN a b c) ≤ (numN d e f) ∧ (numN d e f) < numN a (b + 1) 0)) = true → e = b ∧ d = a) := fun h => ti_own hb hc he hf (of_decide_eq_true h)
  obtain ⟨Bc, hBc⟩ : ∃ B, B = (decide ((numN a b c) ≤ (numN d e f) ∧ (numN d e f) < careN a b c)) := ⟨_, rfl⟩
  rw [← hBc] at CHcaw QC
  clear hBc
  obtain ⟨Bt, hBt⟩ : ∃ B, B = (decide ((numN a b c) ≤ (numN d e f) ∧ (numN d e f) < numN a (b + 1) 0)) := ⟨_, rfl⟩
  rw [← hBt] at CHtiw QT
  clear hBt
  generalize (cmpI (numN d e f) (numN a b c)) = Z at *
  generalize rowF 0 (numN a b c) = Llt at *
  generalize rowF (numN a b c) ALL = Lge at *
  generalize rowF (numN a b c) (careN a b c) = Lca at *
  generalize rowF (numN a b c) (numN a (b + 1) 0) = Lti at *
  generalize rowF 0 ((numN a b c) + 1) = Lle at *
  generalize rowF ((numN a b c) + 1) ALL = Lgt at *
  generalize rowF (numN a b c) ((numN a b c) + 1) = Leq at *
  generalize vtx a b c = V at *
  have kv := (Blk.new w 23 #[.int .i64 (a : Int), .int .i64 (b : Int), .int .i64 (c : Int)]).alloc (.cells #[.int .i64 (d : Int), .int .i64 (e : Int), .int .i64 (f : Int)] 23)
  have kw := Blk.new (w.alloc (.cells #[.int .i64 (a : Int), .int .i64 (b : Int), .int .i64 (c : Int)] 23)) 23 #[.int .i64 (d : Int), .int .i64 (e : Int), .int .i64 (f : Int)]
  rw [World.size_alloc] at kw
  have hB0 : Below w.heap.size w ((w.alloc (.cells #[.int .i64 (a : Int), .int .i64 (b : Int), .int .i64 (c : Int)] 23)).alloc (.cells #[.int .i64 (d : Int), .int .i64 (e : Int), .int .i64 (f : Int)] 23)) := ((Below.refl _ w).alloc (Nat.le_refl _) _).alloc (by simp only [World.size_alloc]; omega) _
  clear hw HR2 ha hb hc hd he hf
  go_enter Tryz.func8, Tryz.ntmps8
  go_wp2_with fail
  generalize (w.alloc (.cells #[.int .i64 (a : Int), .int .i64 (b : Int), .int .i64 (c : Int)] 23)).alloc (.cells #[.int .i64 (d : Int), .int .i64 (e : Int), .int .i64 (f : Int)] 23) = W0 at *
  have SC : Hid (∀ W, Below W0.heap.size W0 W → W.cell? ⟨w.heap.size, 0, none⟩ = some (.int .i64 (a : Int)) ∧ W.cell? ⟨w.heap.size, 1, none⟩ = some (.int .i64 (b : Int)) ∧ W.cell? ⟨w.heap.size, 2, none⟩ = some (.int .i64 (c : Int)) ∧ W.cell? ⟨w.heap.size + 1, 0, none⟩ = some (.int .i64 (d : Int)) ∧ W.cell? ⟨w.heap.size + 1, 1, none⟩ = some (.int .i64 (e : Int)) ∧ W.cell? ⟨w.heap.size + 1, 2, none⟩ = some (.int .i64 (f : Int))) := fun W hb => ⟨(kv.below hb kv.lt).cell 0, (kv.below hb kv.lt).cell 1, (kv.below hb kv.lt).cell 2, (kw.below hb kw.lt).cell 0, (kw.below hb kw.lt).cell 1, (kw.below hb kw.lt).cell 2⟩
  have HKV := Lib.hid kv
  have HKW := Lib.hid kw
  have HB0 := Lib.hid hB0
  have D0 : Below W0.heap.size W0 W0.drew := (Below.refl _ _).drew
  have E0 : Below w.heap.size w W0.drew := HB0.out.drew
  clear kv kw hB0
  go_region_held3 (fun W => W.cell? ⟨w.heap.size, 0, none⟩ = some (.int .i64 (a : Int)) ∧ W.cell? ⟨w.heap.size, 1, none⟩ = some (.int .i64 (b : Int)) ∧ W.cell? ⟨w.heap.size, 2, none⟩ = some (.int .i64 (c : Int)) ∧ W.cell? ⟨w.heap.size + 1, 0, none⟩ = some (.int .i64 (d : Int)) ∧ W.cell? ⟨w.heap.size + 1, 1, none⟩ = some (.int .i64 (e : Int)) ∧ W.cell? ⟨w.heap.size + 1, 2, none⟩ = some (.int .i64 (f : Int))) (first | exact SC.out _ D0 | exact SC.out _ D1 | exact SC.out _ D2 | exact SC.out _ D3 | exact SC.out _ D4 | exact SC.out _ D5)
    (first
      | ((with_reducible refine (HR.out _ E0).mono ?_); rintro e w1 ⟨rfl, hb1⟩; have D1 : Below W0.heap.size W0 w1 := D0.trans (hb1.mono D0.size); clear HR D0 E0 hb1)
      | ((with_reducible refine (HA1.out _).mono ?_); rintro e w2 ⟨a2, c2, rfl, s2, hb2⟩; have D2 : Below W0.heap.size W0 w2 := D1.trans (hb2.mono D1.size); clear HA1 D1 hb2)
      | ((with_reducible refine (HV.out _ _ _ s2).mono ?_); rintro e w3 ⟨rfl, hb3⟩; have D3 : Below W0.heap.size W0 w3 := D2.trans (hb3.mono D2.size); clear HV D2 hb3 s2)
      | ((with_reducible refine (HA2.out _).mono ?_); rintro e w4 ⟨a4, c4, rfl, s4, hb4⟩; have D4 : Below W0.heap.size W0 w4 := D3.trans (hb4.mono D3.size); clear HA2 D3 hb4)
      | ((with_reducible refine (HW.out _ _ _ s4).mono ?_); rintro e w5 ⟨rfl, hb5⟩; have D5 : Below W0.heap.size W0 w5 := D4.trans (hb5.mono D4.size); clear HW D4 hb5 s4))
  have E : Below w.heap.size w w5 := HB0.out.trans (D5.mono HB0.out.size)
  have HE := Lib.hid E
  have HD5 := Lib.hid D5
  have hc5 := SC.out _ D5
  clear E D5
  go_wp2_with fail
  refine (HT.out _ HE.out).mono ?_
  rintro e w6 ⟨rfl, hb6⟩
  have HE6 : Hid (Below w.heap.size w w6) := HE.out.trans (hb6.mono HE.out.size)
  have HD6 : Hid (Below W0.heap.size W0 w6) := HD5.out.trans (hb6.mono HD5.out.size)
  clear hb6 hc5 HE HD5 HT
  go_wp2_with fail
  have hba := (Below.refl w6.heap.size w6).alloc (Nat.le_refl _) (.cells #[.string ⟨(V).toArray⟩] 9)
  have HEt : Hid (Below w.heap.size w (w6.alloc (.cells #[.string ⟨(V).toArray⟩] 9))) := HE6.out.trans (hba.mono HE6.out.size)
  have HDt : Hid (Below W0.heap.size W0 (w6.alloc (.cells #[.string ⟨(V).toArray⟩] 9))) := HD6.out.trans (hba.mono HD6.out.size)
  have HKt := Lib.hid (Blk.new w6 9 #[.string ⟨(V).toArray⟩])
  clear hba HE6 HD6
  generalize w6.alloc (.cells #[.string ⟨(V).toArray⟩] 9) = T0 at *
  refine (Glt.out _ _ HEt.out HKt.out.lt (HKt.out.cell 0)).mono ?_
  rintro e T1 ⟨alt, clt, rfl, slt, hbT⟩
  have HE1 : Hid (Below w.heap.size w T1) := HEt.out.trans (hbT.mono HEt.out.size)
  have HD1 : Hid (Below W0.heap.size W0 T1) := HDt.out.trans (hbT.mono HDt.out.size)
  have HK1 := Lib.hid (HKt.out.below hbT HKt.out.lt)
  have HSlt := Lib.hid slt
  clear hbT HEt HDt HKt slt Glt
  have HEt := HE1
  have HDt := HD1
  have HKt := HK1
  clear HE1 HD1 HK1
  go_wp2_with fail
  refine (Gge.out _ _ HEt.out HKt.out.lt (HKt.out.cell 0)).mono ?_
  rintro e T2 ⟨age, cge, rfl, sge, hbT⟩
  have HE2 : Hid (Below w.heap.size w T2) := HEt.out.trans (hbT.mono HEt.out.size)
  have HD2 : Hid (Below W0.heap.size W0 T2) := HDt.out.trans (hbT.mono HDt.out.size)
  have HK2 := Lib.hid (HKt.out.below hbT HKt.out.lt)
  have HSge := Lib.hid sge
  have HSlt2 := Lib.hid (HSlt.out.below hbT (Nat.le_refl _))
  clear hbT HEt HDt HKt sge Gge HSlt
  have HEt := HE2
  have HDt := HD2
  have HKt := HK2
  have HSlt := HSlt2
  clear HE2 HD2 HK2 HSlt2
  go_wp2_with fail
  refine (Gca.out _ _ HEt.out HKt.out.lt (HKt.out.cell 0)).mono ?_
  rintro e T3 ⟨aca, cca, rfl, sca, hbT⟩
  have HE3 : Hid (Below w.heap.size w T3) := HEt.out.trans (hbT.mono HEt.out.size)
  have HD3 : Hid (Below W0.heap.size W0 T3) := HDt.out.trans (hbT.mono HDt.out.size)
  have HK3 := Lib.hid (HKt.out.below hbT HKt.out.lt)
  have HSca := Lib.hid sca
  have HSlt3 := Lib.hid (HSlt.out.below hbT (Nat.le_refl _))
  have HSge3 := Lib.hid (HSge.out.below hbT (Nat.le_refl _))
  clear hbT HEt HDt HKt sca Gca HSlt HSge
  have HEt := HE3
  have HDt := HD3
  have HKt := HK3
  have HSlt := HSlt3
  have HSge := HSge3
  clear HE3 HD3 HK3 HSlt3 HSge3
  go_wp2_with fail
  refine (Gti.out _ _ HEt.out HKt.out.lt (HKt.out.cell 0)).mono ?_
  rintro e T4 ⟨ati, cti, rfl, sti, hbT⟩
  have HE4 : Hid (Below w.heap.size w T4) := HEt.out.trans (hbT.mono HEt.out.size)
  have HD4 : Hid (Below W0.heap.size W0 T4) := HDt.out.trans (hbT.mono HDt.out.size)
  have HK4 := Lib.hid (HKt.out.below hbT HKt.out.lt)
  have HSti := Lib.hid sti
  have HSlt4 := Lib.hid (HSlt.out.below hbT (Nat.le_refl _))
  have HSge4 := Lib.hid (HSge.out.below hbT (Nat.le_refl _))
  have HSca4 := Lib.hid (HSca.out.below hbT (Nat.le_refl _))
  clear hbT HEt HDt HKt sti Gti HSlt HSge HSca
  have HEt := HE4
  have HDt := HD4
  have HKt := HK4
  have HSlt := HSlt4
  have HSge := HSge4
  have HSca := HSca4
  clear HE4 HD4 HK4 HSlt4 HSge4 HSca4
  go_wp2_with fail
  have hq : Box4 T4 ((((T4.alloc (.cells #[.slice alt Llt.length clt] 46)).alloc (.cells #[.slice age Lge.length cge] 46)).alloc (.cells #[.slice aca Lca.length cca] 46)).alloc (.cells #[.slice ati Lti.length cti] 46)) (.slice alt Llt.length clt) (.slice age Lge.length cge) (.slice aca Lca.length cca) (.slice ati Lti.length cti) := box4 _ _ _ _ _
  generalize (((T4.alloc (.cells #[.slice alt Llt.length clt] 46)).alloc (.cells #[.slice age Lge.length cge] 46)).alloc (.cells #[.slice aca Lca.length cca] 46)).alloc (.cells #[.slice ati Lti.length cti] 46) = W7 at *
  have HEq : Hid (Below w.heap.size w W7) := HEt.out.trans (hq.below.mono HEt.out.size)
  have HDq : Hid (Below W0.heap.size W0 W7) := HDt.out.trans (hq.below.mono HDt.out.size)
  have HKq := Lib.hid (HKt.out.below hq.below HKt.out.lt)
  have HQ := Lib.hid hq
  have Slt := Lib.hid (HSlt.out.below hq.below (Nat.le_refl _))
  have Sge := Lib.hid (HSge.out.below hq.below (Nat.le_refl _))
  have Sca := Lib.hid (HSca.out.below hq.below (Nat.le_refl _))
  have Sti := Lib.hid (HSti.out.below hq.below (Nat.le_refl _))
  have SQ : Hid (∀ W, Below W7.heap.size W7 W → W.cell? ⟨w.heap.size, 0, none⟩ = some (.int .i64 (a : Int)) ∧ W.cell? ⟨w.heap.size, 1, none⟩ = some (.int .i64 (b : Int)) ∧ W.cell? ⟨w.heap.size, 2, none⟩ = some (.int .i64 (c : Int)) ∧ W.cell? ⟨w.heap.size + 1, 0, none⟩ = some (.int .i64 (d : Int)) ∧ W.cell? ⟨w.heap.size + 1, 1, none⟩ = some (.int .i64 (e : Int)) ∧ W.cell? ⟨w.heap.size + 1, 2, none⟩ = some (.int .i64 (f : Int)) ∧ W.cell? ⟨T4.heap.size, 0, none⟩ = some (.slice alt Llt.length clt) ∧ W.cell? ⟨T4.heap.size + 1, 0, none⟩ = some (.slice age Lge.length cge) ∧ W.cell? ⟨T4.heap.size + 1 + 1, 0, none⟩ = some (.slice aca Lca.length cca) ∧ W.cell? ⟨T4.heap.size + 1 + 1 + 1, 0, none⟩ = some (.slice ati Lti.length cti)) := fun W hb => by
    have h1 := SC.out W (HDq.out.trans (hb.mono HDq.out.size))
    have h2 := HQ.out.kept hb
    exact ⟨h1.1, h1.2.1, h1.2.2.1, h1.2.2.2.1, h1.2.2.2.2.1, h1.2.2.2.2.2, h2.1, h2.2.1, h2.2.2.1, h2.2.2.2⟩
  have Fle : Hid (∀ W, Below W7.heap.size W7 W → Calls Tryz.prog 33 #[.string ⟨#[60, 61]⟩, .pointer (some ⟨w6.heap.size, 0, none⟩)] W fun e w' => ∃ a' c', e = .returned (.agg #[.slice a' Lle.length c']) ∧ SpAt w' (.slice a' Lle.length c') Lle ∧ Below W.heap.size W w') := fun W hb => Gle.out _ W (HEq.out.trans (hb.mono HEq.out.size)) (Nat.lt_of_lt_of_le HKq.out.lt hb.size) ((HKq.out.below hb HKq.out.lt).cell 0)
  have Fgt : Hid (∀ W, Below W7.heap.size W7 W → Calls Tryz.prog 33 #[.string ⟨#[62]⟩, .pointer (some ⟨w6.heap.size, 0, none⟩)] W fun e w' => ∃ a' c', e = .returned (.agg #[.slice a' Lgt.length c']) ∧ SpAt w' (.slice a' Lgt.length c') Lgt ∧ Below W.heap.size W w') := fun W hb => Ggt.out _ W (HEq.out.trans (hb.mono HEq.out.size)) (Nat.lt_of_lt_of_le HKq.out.lt hb.size) ((HKq.out.below hb HKq.out.lt).cell 0)
  have Fno : Hid (∀ W, Below W7.heap.size W7 W → Calls Tryz.prog 33 #[.string ⟨#[]⟩, .pointer (some ⟨w6.heap.size, 0, none⟩)] W fun e w' => ∃ a' c', e = .returned (.agg #[.slice a' Leq.length c']) ∧ SpAt w' (.slice a' Leq.length c') Leq ∧ Below W.heap.size W w') := fun W hb => Gno.out _ W (HEq.out.trans (hb.mono HEq.out.size)) (Nat.lt_of_lt_of_le HKq.out.lt hb.size) ((HKq.out.below hb HKq.out.lt).cell 0)
  have Fne : Hid (∀ W, Below W7.heap.size W7 W → Calls Tryz.prog 33 #[.string ⟨#[33]⟩, .pointer (some ⟨w6.heap.size, 0, none⟩)] W fun e w' => ∃ a' c', e = .returned (.agg #[.slice a' (nt Leq).length c']) ∧ SpAt w' (.slice a' (nt Leq).length c') (nt Leq) ∧ Below W.heap.size W w') := fun W hb => Gne.out _ W (HEq.out.trans (hb.mono HEq.out.size)) (Nat.lt_of_lt_of_le HKq.out.lt hb.size) ((HKq.out.below hb HKq.out.lt).cell 0)
  have Feq : Hid (∀ W, Below W7.heap.size W7 W → Calls Tryz.prog 33 #[.string ⟨#[61]⟩, .pointer (some ⟨w6.heap.size, 0, none⟩)] W fun e w' => ∃ a' c', e = .returned (.agg #[.slice a' Leq.length c']) ∧ SpAt w' (.slice a' Leq.length c') Leq ∧ Below W.heap.size W w') := fun W hb => Geq.out _ W (HEq.out.trans (hb.mono HEq.out.size)) (Nat.lt_of_lt_of_le HKq.out.lt hb.size) ((HKq.out.below hb HKq.out.lt).cell 0)
  have D0 : Below W7.heap.size W7 W7.drew := (Below.refl _ _).drew
  clear hq HQ HKq HDq HDt HEt HKt HSlt HSge HSca HSti SC Gle Ggt Gno Gne Geq HKV HKW HB0
  simp only [List.append_eq, List.cons_append, List.nil_append]
  refine wp_region_held_drew (S := (fun W => W.cell? ⟨w.heap.size, 0, none⟩ = some (.int .i64 (a : Int)) ∧ W.cell? ⟨w.heap.size, 1, none⟩ = some (.int .i64 (b : Int)) ∧ W.cell? ⟨w.heap.size, 2, none⟩ = some (.int .i64 (c : Int)) ∧ W.cell? ⟨w.heap.size + 1, 0, none⟩ = some (.int .i64 (d : Int)) ∧ W.cell? ⟨w.heap.size + 1, 1, none⟩ = some (.int .i64 (e : Int)) ∧ W.cell? ⟨w.heap.size + 1, 2, none⟩ = some (.int .i64 (f : Int)) ∧ W.cell? ⟨T4.heap.size, 0, none⟩ = some (.slice alt Llt.length clt) ∧ W.cell? ⟨T4.heap.size + 1, 0, none⟩ = some (.slice age Lge.length cge) ∧ W.cell? ⟨T4.heap.size + 1 + 1, 0, none⟩ = some (.slice aca Lca.length cca) ∧ W.cell? ⟨T4.heap.size + 1 + 1 + 1, 0, none⟩ = some (.slice ati Lti.length cti))) (by kernel_rfl) ?_ (fun hHeld => ?_)
  · exact SQ.out _ D0
  refine wpAnyH_take (i := 0) (oi := ⟨_, _, _, _, _, _⟩) (v := ?_) rfl (by as_aux_lemma => kernel_rfl) (by as_aux_lemma => kernel_rfl) (by as_aux_lemma => kernel_rfl) (fun _ _ _ h => h) (Or.inl ⟨by rfl, ?_⟩) (by assumption) ?_
  rotate_left
  · (intro w hSw; (try dsimp only at hSw); first | (go_simp; done) | (go_simp; with_reducible rfl))
  try simp only [Act.put, List.setIfInBounds_toArray, List.set_cons_zero, List.set_cons_succ]
  refine wpAnyH_take (i := 1) (oi := ⟨_, _, _, _, _, _⟩) (v := ?_) rfl (by as_aux_lemma => kernel_rfl) (by as_aux_lemma => kernel_rfl) (by as_aux_lemma => kernel_rfl) (fun _ _ _ h => h) (Or.inl ⟨by rfl, ?_⟩) (by assumption) ?_
  rotate_left
  · (intro w hSw; (try dsimp only at hSw); first | (go_simp; done) | (go_simp; with_reducible rfl))
  try simp only [Act.put, List.setIfInBounds_toArray, List.set_cons_zero, List.set_cons_succ]
  refine wpAnyH_take (i := 3) (oi := ⟨_, _, _, _, _, _⟩) (v := ?_) rfl (by as_aux_lemma => kernel_rfl) (by as_aux_lemma => kernel_rfl) (by as_aux_lemma => kernel_rfl) (fun _ _ _ h => h) (Or.inl ⟨by rfl, ?_⟩) (by assumption) ?_
  rotate_left
  · (intro w hSw; (try dsimp only at hSw); first | (go_simp; done) | (go_simp; with_reducible rfl))
  try simp only [Act.put, List.setIfInBounds_toArray, List.set_cons_zero, List.set_cons_succ]
  refine wpAnyH_take (i := 4) (oi := ⟨_, _, _, _, _, _⟩) (v := ?_) rfl (by as_aux_lemma => kernel_rfl) (by as_aux_lemma => kernel_rfl) (by as_aux_lemma => kernel_rfl) (fun _ _ _ h => h) (Or.inl ⟨by rfl, ?_⟩) (by assumption) ?_
  rotate_left
  · (intro w hSw; (try dsimp only at hSw); first | (go_simp; done) | (go_simp; with_reducible rfl))
  try simp only [Act.put, List.setIfInBounds_toArray, List.set_cons_zero, List.set_cons_succ]
  refine wpAnyH_ready (rs := [2]) (by as_aux_lemma => kernel_rfl) (by simp) ?_
  refine AllReadyH.cons (o := ⟨_, _, _, _, _, _⟩) rfl (fun K hK => ?_) AllReadyH.nil
  go_simp
  refine (CHlt.out _ _ _ (Slt.out.below D0 (Nat.le_refl _))).mono ?_
  rintro r x1 ⟨rfl, hb1⟩
  have D1 : Below W7.heap.size W7 x1 := D0.trans (hb1.mono D0.size)
  clear D0 hb1 CHlt
  go_wp2_with fail
  refine hK.out _ _ ?_ (fun hNew => ?_)
  · exact SQ.out _ D1
  clear hK K
  replace hHeld := hNew
  clear hNew
  try simp only [Act.put, List.setIfInBounds_toArray, List.set_cons_zero, List.set_cons_succ]
  refine wpAnyH_ready (rs := [5]) (by as_aux_lemma => kernel_rfl) (by simp) ?_
  refine AllReadyH.cons (o := ⟨_, _, _, _, _, _⟩) rfl (fun K hK => ?_) AllReadyH.nil
  go_simp
  refine (CC.out _).mono ?_
  rintro r x2 ⟨rfl, hb2⟩
  have D2 : Below W7.heap.size W7 x2 := D1.trans (hb2.mono D1.size)
  clear D1 hb2
  go_wp2_with fail
  refine hK.out _ _ ?_ (fun hNew => ?_)
  · exact SQ.out _ D2
  clear hK K
  replace hHeld := hNew
  clear hNew
  try simp only [Act.put, List.setIfInBounds_toArray, List.set_cons_zero, List.set_cons_succ]
  as_aux_lemma =>
    refine wpAnyH_take (i := 6) (oi := ⟨_, _, _, _, _, _⟩) (v := ?_) rfl (by as_aux_lemma => kernel_rfl) (by as_aux_lemma => kernel_rfl) (by as_aux_lemma => kernel_rfl) (fun _ _ _ h => h) (Or.inl ⟨by rfl, ?_⟩) (by assumption) ?_
    rotate_left
    · (intro w hSw; (try dsimp only at hSw); first | (go_simp; done) | (go_simp; with_reducible rfl))
    try simp only [Act.put, List.setIfInBounds_toArray, List.set_cons_zero, List.set_cons_succ]
    refine wpAnyH_take (i := 7) (oi := ⟨_, _, _, _, _, _⟩) (v := ?_) rfl (by as_aux_lemma => kernel_rfl) (by as_aux_lemma => kernel_rfl) (by as_aux_lemma => kernel_rfl) (fun _ _ _ h => h) (Or.inl ⟨by rfl, ?_⟩) (by assumption) ?_
    rotate_left
    · (intro w hSw; (try dsimp only at hSw); first | (go_simp; done) | (go_simp; with_reducible rfl))
    try simp only [Act.put, List.setIfInBounds_toArray, List.set_cons_zero, List.set_cons_succ]
    refine wpAnyH_take (i := 8) (oi := ⟨_, _, _, _, _, _⟩) (v := ?_) rfl (by as_aux_lemma => kernel_rfl) (by as_aux_lemma => kernel_rfl) (by as_aux_lemma => kernel_rfl) (fun _ _ _ h => h) (Or.inl ⟨by rfl, ?_⟩) (by assumption) ?_
    rotate_left
    · (intro w hSw; (try dsimp only at hSw); first | (go_simp; done) | (go_simp; with_reducible rfl))
    try simp only [Act.put, List.setIfInBounds_toArray, List.set_cons_zero, List.set_cons_succ]
    refine wpAnyH_take (i := 9) (oi := ⟨_, _, _, _, _, _⟩) (v := ?_) rfl (by as_aux_lemma => kernel_rfl) (by as_aux_lemma => kernel_rfl) (by as_aux_lemma => kernel_rfl) (fun _ _ _ h => h) (Or.inl ⟨by rfl, ?_⟩) (by assumption) ?_
    rotate_left
    · (intro w hSw; (try dsimp only at hSw); first | (go_simp; done) | (go_simp; with_reducible rfl))
    try simp only [Act.put, List.setIfInBounds_toArray, List.set_cons_zero, List.set_cons_succ]
    refine wpAnyH_take (i := 10) (oi := ⟨_, _, _, _, _, _⟩) (v := ?_) rfl (by as_aux_lemma => kernel_rfl) (by as_aux_lemma => kernel_rfl) (by as_aux_lemma => kernel_rfl) (fun _ _ _ h => h) (Or.inl ⟨by rfl, ?_⟩) (by assumption) ?_
    rotate_left
    · (intro w hSw; (try dsimp only at hSw); first | (go_simp; done) | (go_simp; with_reducible rfl))
    try simp only [Act.put, List.setIfInBounds_toArray, List.set_cons_zero, List.set_cons_succ]
    refine wpAnyH_take (i := 12) (oi := ⟨_, _, _, _, _, _⟩) (v := ?_) rfl (by as_aux_lemma => kernel_rfl) (by as_aux_lemma => kernel_rfl) (by as_aux_lemma => kernel_rfl) (fun _ _ _ h => h) (Or.inl ⟨by rfl, ?_⟩) (by assumption) ?_
    rotate_left
    · (intro w hSw; (try dsimp only at hSw); first | (go_simp; done) | (go_simp; with_reducible rfl))
    try simp only [Act.put, List.setIfInBounds_toArray, List.set_cons_zero, List.set_cons_succ]
    refine wpAnyH_take (i := 13) (oi := ⟨_, _, _, _, _, _⟩) (v := ?_) rfl (by as_aux_lemma => kernel_rfl) (by as_aux_lemma => kernel_rfl) (by as_aux_lemma => kernel_rfl) (fun _ _ _ h => h) (Or.inl ⟨by rfl, ?_⟩) (by assumption) ?_
    rotate_left
    · (intro w hSw; (try dsimp only at hSw); first | (go_simp; done) | (go_simp; with_reducible rfl))
    try simp only [Act.put, List.setIfInBounds_toArray, List.set_cons_zero, List.set_cons_succ]
    refine wpAnyH_ready (rs := [11]) (by as_aux_lemma => kernel_rfl) (by simp) ?_
    refine AllReadyH.cons (o := ⟨_, _, _, _, _, _⟩) rfl (fun K hK => ?_) AllReadyH.nil
    go_simp
    refine (CHge.out _ _ _ (Sge.out.below D2 (Nat.le_refl _))).mono ?_
    rintro r x3 ⟨rfl, hb3⟩
    have D3 : Below W7.heap.size W7 x3 := D2.trans (hb3.mono D2.size)
    clear D2 hb3 CHge
    go_wp2_with fail
    refine hK.out _ _ ?_ (fun hNew => ?_)
    · exact SQ.out _ D3
    clear hK K
    replace hHeld := hNew
    clear hNew
    try simp only [Act.put, List.setIfInBounds_toArray, List.set_cons_zero, List.set_cons_succ]
    refine wpAnyH_ready (rs := [14]) (by as_aux_lemma => kernel_rfl) (by simp) ?_
    refine AllReadyH.cons (o := ⟨_, _, _, _, _, _⟩) rfl (fun K hK => ?_) AllReadyH.nil
    go_simp
    refine (CC.out _).mono ?_
    rintro r x4 ⟨rfl, hb4⟩
    have D4 : Below W7.heap.size W7 x4 := D3.trans (hb4.mono D3.size)
    clear D3 hb4
    go_wp2_with fail
    refine hK.out _ _ ?_ (fun hNew => ?_)
    · exact SQ.out _ D4
    clear hK K
    replace hHeld := hNew
    clear hNew
    try simp only [Act.put, List.setIfInBounds_toArray, List.set_cons_zero, List.set_cons_succ]
    as_aux_lemma =>
      refine wpAnyH_take (i := 15) (oi := ⟨_, _, _, _, _, _⟩) (v := ?_) rfl (by as_aux_lemma => kernel_rfl) (by as_aux_lemma => kernel_rfl) (by as_aux_lemma => kernel_rfl) (fun _ _ _ h => h) (Or.inl ⟨by rfl, ?_⟩) (by assumption) ?_
      rotate_left
      · (intro w hSw; (try dsimp only at hSw); first | (go_simp; done) | (go_simp; with_reducible rfl))
      try simp only [Act.put, List.setIfInBounds_toArray, List.set_cons_zero, List.set_cons_succ]
      refine wpAnyH_take (i := 16) (oi := ⟨_, _, _, _, _, _⟩) (v := ?_) rfl (by as_aux_lemma => kernel_rfl) (by as_aux_lemma => kernel_rfl) (by as_aux_lemma => kernel_rfl) (fun _ _ _ h => h) (Or.inl ⟨by rfl, ?_⟩) (by assumption) ?_
      rotate_left
      · (intro w hSw; (try dsimp only at hSw); first | (go_simp; done) | (go_simp; with_reducible rfl))
      try simp only [Act.put, List.setIfInBounds_toArray, List.set_cons_zero, List.set_cons_succ]
      refine wpAnyH_take (i := 17) (oi := ⟨_, _, _, _, _, _⟩) (v := ?_) rfl (by as_aux_lemma => kernel_rfl) (by as_aux_lemma => kernel_rfl) (by as_aux_lemma => kernel_rfl) (fun _ _ _ h => h) (Or.inl ⟨by rfl, ?_⟩) (by assumption) ?_
      rotate_left
      · (intro w hSw; (try dsimp only at hSw); first | (go_simp; done) | (go_simp; with_reducible rfl))
      try simp only [Act.put, List.setIfInBounds_toArray, List.set_cons_zero, List.set_cons_succ]
      refine wpAnyH_take (i := 18) (oi := ⟨_, _, _, _, _, _⟩) (v := ?_) rfl (by as_aux_lemma => kernel_rfl) (by as_aux_lemma => kernel_rfl) (by as_aux_lemma => kernel_rfl) (fun _ _ _ h => h) (Or.inl ⟨by rfl, ?_⟩) (by assumption) ?_
      rotate_left
      · (intro w hSw; (try dsimp only at hSw); first | (go_simp; done) | (go_simp; with_reducible rfl))
      try simp only [Act.put, List.setIfInBounds_toArray, List.set_cons_zero, List.set_cons_succ]
      refine wpAnyH_take (i := 19) (oi := ⟨_, _, _, _, _, _⟩) (v := ?_) rfl (by as_aux_lemma => kernel_rfl) (by as_aux_lemma => kernel_rfl) (by as_aux_lemma => kernel_rfl) (fun _ _ _ h => h) (Or.inl ⟨by rfl, ?_⟩) (by assumption) ?_
      rotate_left
      · (intro w hSw; (try dsimp only at hSw); first | (go_simp; done) | (go_simp; with_reducible rfl))
      try simp only [Act.put, List.setIfInBounds_toArray, List.set_cons_zero, List.set_cons_succ]
      refine wpAnyH_take (i := 21) (oi := ⟨_, _, _, _, _, _⟩) (v := ?_) rfl (by as_aux_lemma => kernel_rfl) (by as_aux_lemma => kernel_rfl) (by as_aux_lemma => kernel_rfl) (fun _ _ _ h => h) (Or.inl ⟨by rfl, ?_⟩) (by assumption) ?_
      rotate_left
      · (intro w hSw; (try dsimp only at hSw); first | (go_simp; done) | (go_simp; with_reducible rfl))
      try simp only [Act.put, List.setIfInBounds_toArray, List.set_cons_zero, List.set_cons_succ]
      refine wpAnyH_take (i := 23) (oi := ⟨_, _, _, _, _, _⟩) (v := ?_) rfl (by as_aux_lemma => kernel_rfl) (by as_aux_lemma => kernel_rfl) (by as_aux_lemma => kernel_rfl) (fun _ _ _ h => h) (Or.inl ⟨by rfl, ?_⟩) (by assumption) ?_
      rotate_left
      · (intro w hSw; (try dsimp only at hSw); first | (go_simp; done) | (go_simp; with_reducible rfl))
      try simp only [Act.put, List.setIfInBounds_toArray, List.set_cons_zero, List.set_cons_succ]
      refine wpAnyH_take (i := 24) (oi := ⟨_, _, _, _, _, _⟩) (v := ?_) rfl (by as_aux_lemma => kernel_rfl) (by as_aux_lemma => kernel_rfl) (by as_aux_lemma => kernel_rfl) (fun _ _ _ h => h) (Or.inl ⟨by rfl, ?_⟩) (by assumption) ?_
      rotate_left
      · (intro w hSw; (try dsimp only at hSw); first | (go_simp; done) | (go_simp; with_reducible rfl))
      try simp only [Act.put, List.setIfInBounds_toArray, List.set_cons_zero, List.set_cons_succ]
      refine wpAnyH_ready (rs := [20]) (by as_aux_lemma => kernel_rfl) (by simp) ?_
      refine AllReadyH.cons (o := ⟨_, _, _, _, _, _⟩) rfl (fun K hK => ?_) AllReadyH.nil
      go_simp
      refine (Fle.out _ D4).mono ?_
      rintro r x5 ⟨a20, c20, rfl, s20_5, hb5⟩
      have D5 : Below W7.heap.size W7 x5 := D4.trans (hb5.mono D4.size)
      clear D4 hb5 Fle
      go_wp2_with fail
      refine hK.out _ _ ?_ (fun hNew => ?_)
      · exact SQ.out _ D5
      clear hK K
      replace hHeld := hNew
      clear hNew
      try simp only [Act.put, List.setIfInBounds_toArray, List.set_cons_zero, List.set_cons_succ]
      refine wpAnyH_ready (rs := [22]) (by as_aux_lemma => kernel_rfl) (by simp) ?_
      refine AllReadyH.cons (o := ⟨_, _, _, _, _, _⟩) rfl (fun K hK => ?_) AllReadyH.nil
      go_simp
      refine (CHle.out _ _ _ s20_5).mono ?_
      rintro r x6 ⟨rfl, hb6⟩
      have D6 : Below W7.heap.size W7 x6 := D5.trans (hb6.mono D5.size)
      clear D5 hb6 s20_5 CHle
      go_wp2_with fail
      refine hK.out _ _ ?_ (fun hNew => ?_)
      · exact SQ.out _ D6
      clear hK K
      replace hHeld := hNew
      clear hNew
      try simp only [Act.put, List.setIfInBounds_toArray, List.set_cons_zero, List.set_cons_succ]
      as_aux_lemma =>
        refine wpAnyH_ready (rs := [25]) (by as_aux_lemma => kernel_rfl) (by simp) ?_
        refine AllReadyH.cons (o := ⟨_, _, _, _, _, _⟩) rfl (fun K hK => ?_) AllReadyH.nil
        go_simp
        refine (CC.out _).mono ?_
        rintro r x7 ⟨rfl, hb7⟩
        have D7 : Below W7.heap.size W7 x7 := D6.trans (hb7.mono D6.size)
        clear D6 hb7
        go_wp2_with fail
        refine hK.out _ _ ?_ (fun hNew => ?_)
        · exact SQ.out _ D7
        clear hK K
        replace hHeld := hNew
        clear hNew
        try simp only [Act.put, List.setIfInBounds_toArray, List.set_cons_zero, List.set_cons_succ]
        refine wpAnyH_take (i := 26) (oi := ⟨_, _, _, _, _, _⟩) (v := ?_) rfl (by as_aux_lemma => kernel_rfl) (by as_aux_lemma => kernel_rfl) (by as_aux_lemma => kernel_rfl) (fun _ _ _ h => h) (Or.inl ⟨by rfl, ?_⟩) (by assumption) ?_
        rotate_left
        · (intro w hSw; (try dsimp only at hSw); first | (go_simp; done) | (go_simp; with_reducible rfl))
        try simp only [Act.put, List.setIfInBounds_toArray, List.set_cons_zero, List.set_cons_succ]
        refine wpAnyH_take (i := 27) (oi := ⟨_, _, _, _, _, _⟩) (v := ?_) rfl (by as_aux_lemma => kernel_rfl) (by as_aux_lemma => kernel_rfl) (by as_aux_lemma => kernel_rfl) (fun _ _ _ h => h) (Or.inl ⟨by rfl, ?_⟩) (by assumption) ?_
        rotate_left
        · (intro w hSw; (try dsimp only at hSw); first | (go_simp; done) | (go_simp; with_reducible rfl))
        try simp only [Act.put, List.setIfInBounds_toArray, List.set_cons_zero, List.set_cons_succ]
        refine wpAnyH_take (i := 28) (oi := ⟨_, _, _, _, _, _⟩) (v := ?_) rfl (by as_aux_lemma => kernel_rfl) (by as_aux_lemma => kernel_rfl) (by as_aux_lemma => kernel_rfl) (fun _ _ _ h => h) (Or.inl ⟨by rfl, ?_⟩) (by assumption) ?_
        rotate_left
        · (intro w hSw; (try dsimp only at hSw); first | (go_simp; done) | (go_simp; with_reducible rfl))
        try simp only [Act.put, List.setIfInBounds_toArray, List.set_cons_zero, List.set_cons_succ]
        refine wpAnyH_take (i := 29) (oi := ⟨_, _, _, _, _, _⟩) (v := ?_) rfl (by as_aux_lemma => kernel_rfl) (by as_aux_lemma => kernel_rfl) (by as_aux_lemma => kernel_rfl) (fun _ _ _ h => h) (Or.inl ⟨by rfl, ?_⟩) (by assumption) ?_
        rotate_left
        · (intro w hSw; (try dsimp only at hSw); first | (go_simp; done) | (go_simp; with_reducible rfl))
        try simp only [Act.put, List.setIfInBounds_toArray, List.set_cons_zero, List.set_cons_succ]
        refine wpAnyH_take (i := 30) (oi := ⟨_, _, _, _, _, _⟩) (v := ?_) rfl (by as_aux_lemma => kernel_rfl) (by as_aux_lemma => kernel_rfl) (by as_aux_lemma => kernel_rfl) (fun _ _ _ h => h) (Or.inl ⟨by rfl, ?_⟩) (by assumption) ?_
        rotate_left
        · (intro w hSw; (try dsimp only at hSw); first | (go_simp; done) | (go_simp; with_reducible rfl))
        try simp only [Act.put, List.setIfInBounds_toArray, List.set_cons_zero, List.set_cons_succ]
        refine wpAnyH_take (i := 32) (oi := ⟨_, _, _, _, _, _⟩) (v := ?_) rfl (by as_aux_lemma => kernel_rfl) (by as_aux_lemma => kernel_rfl) (by as_aux_lemma => kernel_rfl) (fun _ _ _ h => h) (Or.inl ⟨by rfl, ?_⟩) (by assumption) ?_
        rotate_left
        · (intro w hSw; (try dsimp only at hSw); first | (go_simp; done) | (go_simp; with_reducible rfl))
        try simp only [Act.put, List.setIfInBounds_toArray, List.set_cons_zero, List.set_cons_succ]
        refine wpAnyH_take (i := 34) (oi := ⟨_, _, _, _, _, _⟩) (v := ?_) rfl (by as_aux_lemma => kernel_rfl) (by as_aux_lemma => kernel_rfl) (by as_aux_lemma => kernel_rfl) (fun _ _ _ h => h) (Or.inl ⟨by rfl, ?_⟩) (by assumption) ?_
        rotate_left
        · (intro w hSw; (try dsimp only at hSw); first | (go_simp; done) | (go_simp; with_reducible rfl))
        try simp only [Act.put, List.setIfInBounds_toArray, List.set_cons_zero, List.set_cons_succ]
        refine wpAnyH_take (i := 35) (oi := ⟨_, _, _, _, _, _⟩) (v := ?_) rfl (by as_aux_lemma => kernel_rfl) (by as_aux_lemma => kernel_rfl) (by as_aux_lemma => kernel_rfl) (fun _ _ _ h => h) (Or.inl ⟨by rfl, ?_⟩) (by assumption) ?_
        rotate_left
        · (intro w hSw; (try dsimp only at hSw); first | (go_simp; done) | (go_simp; with_reducible rfl))
        try simp only [Act.put, List.setIfInBounds_toArray, List.set_cons_zero, List.set_cons_succ]
        refine wpAnyH_ready (rs := [31]) (by as_aux_lemma => kernel_rfl) (by simp) ?_
        refine AllReadyH.cons (o := ⟨_, _, _, _, _, _⟩) rfl (fun K hK => ?_) AllReadyH.nil
        go_simp
        refine (Fgt.out _ D7).mono ?_
        rintro r x8 ⟨a31, c31, rfl, s31_8, hb8⟩
        have D8 : Below W7.heap.size W7 x8 := D7.trans (hb8.mono D7.size)
        clear D7 hb8 Fgt
        go_wp2_with fail
        refine hK.out _ _ ?_ (fun hNew => ?_)
        · exact SQ.out _ D8
        clear hK K
        replace hHeld := hNew
        clear hNew
        try simp only [Act.put, List.setIfInBounds_toArray, List.set_cons_zero, List.set_cons_succ]
        as_aux_lemma =>
          refine wpAnyH_ready (rs := [33]) (by as_aux_lemma => kernel_rfl) (by simp) ?_
          refine AllReadyH.cons (o := ⟨_, _, _, _, _, _⟩) rfl (fun K hK => ?_) AllReadyH.nil
          go_simp
          refine (CHgt.out _ _ _ s31_8).mono ?_
          rintro r x9 ⟨rfl, hb9⟩
          have D9 : Below W7.heap.size W7 x9 := D8.trans (hb9.mono D8.size)
          clear D8 hb9 s31_8 CHgt
          go_wp2_with fail
          refine hK.out _ _ ?_ (fun hNew => ?_)
          · exact SQ.out _ D9
          clear hK K
          replace hHeld := hNew
          clear hNew
          try simp only [Act.put, List.setIfInBounds_toArray, List.set_cons_zero, List.set_cons_succ]
          refine wpAnyH_ready (rs := [36]) (by as_aux_lemma => kernel_rfl) (by simp) ?_
          refine AllReadyH.cons (o := ⟨_, _, _, _, _, _⟩) rfl (fun K hK => ?_) AllReadyH.nil
          go_simp
          refine (CC.out _).mono ?_
          rintro r x10 ⟨rfl, hb10⟩
          have D10 : Below W7.heap.size W7 x10 := D9.trans (hb10.mono D9.size)
          clear D9 hb10
          go_wp2_with fail
          refine hK.out _ _ ?_ (fun hNew => ?_)
          · exact SQ.out _ D10
          clear hK K
          replace hHeld := hNew
          clear hNew
          try simp only [Act.put, List.setIfInBounds_toArray, List.set_cons_zero, List.set_cons_succ]
          as_aux_lemma =>
            refine wpAnyH_take (i := 37) (oi := ⟨_, _, _, _, _, _⟩) (v := ?_) rfl (by as_aux_lemma => kernel_rfl) (by as_aux_lemma => kernel_rfl) (by as_aux_lemma => kernel_rfl) (fun _ _ _ h => h) (Or.inl ⟨by rfl, ?_⟩) (by assumption) ?_
            rotate_left
            · (intro w hSw; (try dsimp only at hSw); first | (go_simp; done) | (go_simp; with_reducible rfl))
            try simp only [Act.put, List.setIfInBounds_toArray, List.set_cons_zero, List.set_cons_succ]
            refine wpAnyH_take (i := 38) (oi := ⟨_, _, _, _, _, _⟩) (v := ?_) rfl (by as_aux_lemma => kernel_rfl) (by as_aux_lemma => kernel_rfl) (by as_aux_lemma => kernel_rfl) (fun _ _ _ h => h) (Or.inl ⟨by rfl, ?_⟩) (by assumption) ?_
            rotate_left
            · (intro w hSw; (try dsimp only at hSw); first | (go_simp; done) | (go_simp; with_reducible rfl))
            try simp only [Act.put, List.setIfInBounds_toArray, List.set_cons_zero, List.set_cons_succ]
            refine wpAnyH_take (i := 39) (oi := ⟨_, _, _, _, _, _⟩) (v := ?_) rfl (by as_aux_lemma => kernel_rfl) (by as_aux_lemma => kernel_rfl) (by as_aux_lemma => kernel_rfl) (fun _ _ _ h => h) (Or.inl ⟨by rfl, ?_⟩) (by assumption) ?_
            rotate_left
            · (intro w hSw; (try dsimp only at hSw); first | (go_simp; done) | (go_simp; with_reducible rfl))
            try simp only [Act.put, List.setIfInBounds_toArray, List.set_cons_zero, List.set_cons_succ]
            refine wpAnyH_take (i := 40) (oi := ⟨_, _, _, _, _, _⟩) (v := ?_) rfl (by as_aux_lemma => kernel_rfl) (by as_aux_lemma => kernel_rfl) (by as_aux_lemma => kernel_rfl) (fun _ _ _ h => h) (Or.inl ⟨by rfl, ?_⟩) (by assumption) ?_
            rotate_left
            · (intro w hSw; (try dsimp only at hSw); first | (go_simp; done) | (go_simp; with_reducible rfl))
            try simp only [Act.put, List.setIfInBounds_toArray, List.set_cons_zero, List.set_cons_succ]
            refine wpAnyH_take (i := 41) (oi := ⟨_, _, _, _, _, _⟩) (v := ?_) rfl (by as_aux_lemma => kernel_rfl) (by as_aux_lemma => kernel_rfl) (by as_aux_lemma => kernel_rfl) (fun _ _ _ h => h) (Or.inl ⟨by rfl, ?_⟩) (by assumption) ?_
            rotate_left
            · (intro w hSw; (try dsimp only at hSw); first | (go_simp; done) | (go_simp; with_reducible rfl))
            try simp only [Act.put, List.setIfInBounds_toArray, List.set_cons_zero, List.set_cons_succ]
            refine wpAnyH_take (i := 43) (oi := ⟨_, _, _, _, _, _⟩) (v := ?_) rfl (by as_aux_lemma => kernel_rfl) (by as_aux_lemma => kernel_rfl) (by as_aux_lemma => kernel_rfl) (fun _ _ _ h => h) (Or.inl ⟨by rfl, ?_⟩) (by assumption) ?_
            rotate_left
            · (intro w hSw; (try dsimp only at hSw); first | (go_simp; done) | (go_simp; with_reducible rfl))
            try simp only [Act.put, List.setIfInBounds_toArray, List.set_cons_zero, List.set_cons_succ]
            refine wpAnyH_take (i := 45) (oi := ⟨_, _, _, _, _, _⟩) (v := ?_) rfl (by as_aux_lemma => kernel_rfl) (by as_aux_lemma => kernel_rfl) (by as_aux_lemma => kernel_rfl) (fun _ _ _ h => h) (Or.inl ⟨by rfl, ?_⟩) (by assumption) ?_
            rotate_left
            · (intro w hSw; (try dsimp only at hSw); first | (go_simp; done) | (go_simp; with_reducible rfl))
            try simp only [Act.put, List.setIfInBounds_toArray, List.set_cons_zero, List.set_cons_succ]
            refine wpAnyH_take (i := 46) (oi := ⟨_, _, _, _, _, _⟩) (v := ?_) rfl (by as_aux_lemma => kernel_rfl) (by as_aux_lemma => kernel_rfl) (by as_aux_lemma => kernel_rfl) (fun _ _ _ h => h) (Or.inl ⟨by rfl, ?_⟩) (by assumption) ?_
            rotate_left
            · (intro w hSw; (try dsimp only at hSw); first | (go_simp; done) | (go_simp; with_reducible rfl))
            try simp only [Act.put, List.setIfInBounds_toArray, List.set_cons_zero, List.set_cons_succ]
            refine wpAnyH_ready (rs := [42]) (by as_aux_lemma => kernel_rfl) (by simp) ?_
            refine AllReadyH.cons (o := ⟨_, _, _, _, _, _⟩) rfl (fun K hK => ?_) AllReadyH.nil
            go_simp
            refine (Fno.out _ D10).mono ?_
            rintro r x11 ⟨a42, c42, rfl, s42_11, hb11⟩
            have D11 : Below W7.heap.size W7 x11 := D10.trans (hb11.mono D10.size)
            clear D10 hb11 Fno
            go_wp2_with fail
            refine hK.out _ _ ?_ (fun hNew => ?_)
            · exact SQ.out _ D11
            clear hK K
            replace hHeld := hNew
            clear hNew
            try simp only [Act.put, List.setIfInBounds_toArray, List.set_cons_zero, List.set_cons_succ]
            refine wpAnyH_ready (rs := [44]) (by as_aux_lemma => kernel_rfl) (by simp) ?_
            refine AllReadyH.cons (o := ⟨_, _, _, _, _, _⟩) rfl (fun K hK => ?_) AllReadyH.nil
            go_simp
            refine (CHno.out _ _ _ s42_11).mono ?_
            rintro r x12 ⟨rfl, hb12⟩
            have D12 : Below W7.heap.size W7 x12 := D11.trans (hb12.mono D11.size)
            clear D11 hb12 s42_11 CHno
            go_wp2_with fail
            refine hK.out _ _ ?_ (fun hNew => ?_)
            · exact SQ.out _ D12
            clear hK K
            replace hHeld := hNew
            clear hNew
            try simp only [Act.put, List.setIfInBounds_toArray, List.set_cons_zero, List.set_cons_succ]
            as_aux_lemma =>
              refine wpAnyH_ready (rs := [47]) (by as_aux_lemma => kernel_rfl) (by simp) ?_
              refine AllReadyH.cons (o := ⟨_, _, _, _, _, _⟩) rfl (fun K hK => ?_) AllReadyH.nil
              go_simp
              refine (CC.out _).mono ?_
              rintro r x13 ⟨rfl, hb13⟩
              have D13 : Below W7.heap.size W7 x13 := D12.trans (hb13.mono D12.size)
              clear D12 hb13 CC
              go_wp2_with fail
              refine hK.out _ _ ?_ (fun hNew => ?_)
              · exact SQ.out _ D13
              clear hK K
              replace hHeld := hNew
              clear hNew
              try simp only [Act.put, List.setIfInBounds_toArray, List.set_cons_zero, List.set_cons_succ]
              refine wpAnyH_take (i := 48) (oi := ⟨_, _, _, _, _, _⟩) (v := ?_) rfl (by as_aux_lemma => kernel_rfl) (by as_aux_lemma => kernel_rfl) (by as_aux_lemma => kernel_rfl) (fun _ _ _ h => h) (Or.inl ⟨by rfl, ?_⟩) (by assumption) ?_
              rotate_left
              · (intro w hSw; (try dsimp only at hSw); first | (go_simp; done) | (go_simp; with_reducible rfl))
              try simp only [Act.put, List.setIfInBounds_toArray, List.set_cons_zero, List.set_cons_succ]
              refine wpAnyH_take (i := 49) (oi := ⟨_, _, _, _, _, _⟩) (v := ?_) rfl (by as_aux_lemma => kernel_rfl) (by as_aux_lemma => kernel_rfl) (by as_aux_lemma => kernel_rfl) (fun _ _ _ h => h) (Or.inl ⟨by rfl, ?_⟩) (by assumption) ?_
              rotate_left
              · (intro w hSw; (try dsimp only at hSw); first | (go_simp; done) | (go_simp; with_reducible rfl))
              try simp only [Act.put, List.setIfInBounds_toArray, List.set_cons_zero, List.set_cons_succ]
              refine wpAnyH_take (i := 50) (oi := ⟨_, _, _, _, _, _⟩) (v := ?_) rfl (by as_aux_lemma => kernel_rfl) (by as_aux_lemma => kernel_rfl) (by as_aux_lemma => kernel_rfl) (fun _ _ _ h => h) (Or.inl ⟨by rfl, ?_⟩) (by assumption) ?_
              rotate_left
              · (intro w hSw; (try dsimp only at hSw); first | (go_simp; done) | (go_simp; with_reducible rfl))
              try simp only [Act.put, List.setIfInBounds_toArray, List.set_cons_zero, List.set_cons_succ]
              refine wpAnyH_take (i := 51) (oi := ⟨_, _, _, _, _, _⟩) (v := ?_) rfl (by as_aux_lemma => kernel_rfl) (by as_aux_lemma => kernel_rfl) (by as_aux_lemma => kernel_rfl) (fun _ _ _ h => h) (Or.inl ⟨by rfl, ?_⟩) (by assumption) ?_
              rotate_left
              · (intro w hSw; (try dsimp only at hSw); first | (go_simp; done) | (go_simp; with_reducible rfl))
              try simp only [Act.put, List.setIfInBounds_toArray, List.set_cons_zero, List.set_cons_succ]
              refine wpAnyH_take (i := 52) (oi := ⟨_, _, _, _, _, _⟩) (v := ?_) rfl (by as_aux_lemma => kernel_rfl) (by as_aux_lemma => kernel_rfl) (by as_aux_lemma => kernel_rfl) (fun _ _ _ h => h) (Or.inl ⟨by rfl, ?_⟩) (by assumption) ?_
              rotate_left
              · (intro w hSw; (try dsimp only at hSw); first | (go_simp; done) | (go_simp; with_reducible rfl))
              try simp only [Act.put, List.setIfInBounds_toArray, List.set_cons_zero, List.set_cons_succ]
              refine wpAnyH_take (i := 54) (oi := ⟨_, _, _, _, _, _⟩) (v := ?_) rfl (by as_aux_lemma => kernel_rfl) (by as_aux_lemma => kernel_rfl) (by as_aux_lemma => kernel_rfl) (fun _ _ _ h => h) (Or.inl ⟨by rfl, ?_⟩) (by assumption) ?_
              rotate_left
              · (intro w hSw; (try dsimp only at hSw); first | (go_simp; done) | (go_simp; with_reducible rfl))
              try simp only [Act.put, List.setIfInBounds_toArray, List.set_cons_zero, List.set_cons_succ]
              refine wpAnyH_ready (rs := [53]) (by as_aux_lemma => kernel_rfl) (by simp) ?_
              refine AllReadyH.cons (o := ⟨_, _, _, _, _, _⟩) rfl (fun K hK => ?_) AllReadyH.nil
              go_simp
              refine (Fne.out _ D13).mono ?_
              rintro r x14 ⟨a53, c53, rfl, s53_14, hb14⟩
              have D14 : Below W7.heap.size W7 x14 := D13.trans (hb14.mono D13.size)
              clear D13 hb14 Fne
              go_wp2_with fail
              refine hK.out _ _ ?_ (fun hNew => ?_)
              · exact SQ.out _ D14
              clear hK K
              replace hHeld := hNew
              clear hNew
              try simp only [Act.put, List.setIfInBounds_toArray, List.set_cons_zero, List.set_cons_succ]
              as_aux_lemma =>
                refine wpAnyH_ready (rs := [55]) (by as_aux_lemma => kernel_rfl) (by simp) ?_
                refine AllReadyH.cons (o := ⟨_, _, _, _, _, _⟩) rfl (fun K hK => ?_) AllReadyH.nil
                go_simp
                refine (Feq.out _ D14).mono ?_
                rintro r x15 ⟨a55, c55, rfl, s55_15, hb15⟩
                have D15 : Below W7.heap.size W7 x15 := D14.trans (hb15.mono D14.size)
                have s53_15 := s53_14.below hb15 (Nat.le_refl _)
                clear D14 hb15 s53_14 Feq
                go_wp2_with fail
                refine hK.out _ _ ?_ (fun hNew => ?_)
                · exact SQ.out _ D15
                clear hK K
                replace hHeld := hNew
                clear hNew
                try simp only [Act.put, List.setIfInBounds_toArray, List.set_cons_zero, List.set_cons_succ]
                refine wpAnyH_ready (rs := [56]) (by as_aux_lemma => kernel_rfl) (by simp) ?_
                refine AllReadyH.cons (o := ⟨_, _, _, _, _, _⟩) rfl (fun K hK => ?_) AllReadyH.nil
                go_simp
                refine (CNeq.out _ _ s55_15).mono ?_
                rintro r x16 ⟨a56, c56, rfl, s56_16, hb16⟩
                have D16 : Below W7.heap.size W7 x16 := D15.trans (hb16.mono D15.size)
                have s53_16 := s53_15.below hb16 (Nat.le_refl _)
                clear D15 hb16 s53_15 s55_15 CNeq
                go_wp2_with fail
                refine hK.out _ _ ?_ (fun hNew => ?_)
                · exact SQ.out _ D16
                clear hK K
                replace hHeld := hNew
                clear hNew
                try simp only [Act.put, List.setIfInBounds_toArray, List.set_cons_zero, List.set_cons_succ]
                as_aux_lemma =>
                  refine wpAnyH_ready (rs := [57]) (by as_aux_lemma => kernel_rfl) (by simp) ?_
                  refine AllReadyH.cons (o := ⟨_, _, _, _, _, _⟩) rfl (fun K hK => ?_) AllReadyH.nil
                  go_simp
                  refine (CSne.out _ _ _ s53_16 s56_16).mono ?_
                  rintro r x17 ⟨rfl, hb17⟩
                  have D17 : Below W7.heap.size W7 x17 := D16.trans (hb17.mono D16.size)
                  clear D16 hb17 s53_16 s56_16 CSne
                  go_wp2_with fail
                  refine hK.out _ _ ?_ (fun hNew => ?_)
                  · exact SQ.out _ D17
                  clear hK K
                  replace hHeld := hNew
                  clear hNew
                  try simp only [Act.put, List.setIfInBounds_toArray, List.set_cons_zero, List.set_cons_succ]
                  refine wpAnyH_take (i := 58) (oi := ⟨_, _, _, _, _, _⟩) (v := ?_) rfl (by as_aux_lemma => kernel_rfl) (by as_aux_lemma => kernel_rfl) (by as_aux_lemma => kernel_rfl) (fun _ _ _ h => h) (Or.inl ⟨by rfl, ?_⟩) (by assumption) ?_
                  rotate_left
                  · (intro w hSw; (try dsimp only at hSw); first | (go_simp; done) | (go_simp; with_reducible rfl))
                  try simp only [Act.put, List.setIfInBounds_toArray, List.set_cons_zero, List.set_cons_succ]
                  refine wpAnyH_take (i := 59) (oi := ⟨_, _, _, _, _, _⟩) (v := ?_) rfl (by as_aux_lemma => kernel_rfl) (by as_aux_lemma => kernel_rfl) (by as_aux_lemma => kernel_rfl) (fun _ _ _ h => h) (Or.inl ⟨by rfl, ?_⟩) (by assumption) ?_
                  rotate_left
                  · (intro w hSw; (try dsimp only at hSw); first | (go_simp; done) | (go_simp; with_reducible rfl))
                  try simp only [Act.put, List.setIfInBounds_toArray, List.set_cons_zero, List.set_cons_succ]
                  refine wpAnyH_take (i := 60) (oi := ⟨_, _, _, _, _, _⟩) (v := ?_) rfl (by as_aux_lemma => kernel_rfl) (by as_aux_lemma => kernel_rfl) (by as_aux_lemma => kernel_rfl) (fun _ _ _ h => h) (Or.inl ⟨by rfl, ?_⟩) (by assumption) ?_
                  rotate_left
                  · (intro w hSw; (try dsimp only at hSw); first | (go_simp; done) | (go_simp; with_reducible rfl))
                  try simp only [Act.put, List.setIfInBounds_toArray, List.set_cons_zero, List.set_cons_succ]
                  refine wpAnyH_take (i := 62) (oi := ⟨_, _, _, _, _, _⟩) (v := ?_) rfl (by as_aux_lemma => kernel_rfl) (by as_aux_lemma => kernel_rfl) (by as_aux_lemma => kernel_rfl) (fun _ _ _ h => h) (Or.inl ⟨by rfl, ?_⟩) (by assumption) ?_
                  rotate_left
                  · (intro w hSw; (try dsimp only at hSw); first | (go_simp; done) | (go_simp; with_reducible rfl))
                  try simp only [Act.put, List.setIfInBounds_toArray, List.set_cons_zero, List.set_cons_succ]
                  refine wpAnyH_ready (rs := [61]) (by as_aux_lemma => kernel_rfl) (by simp) ?_
                  refine AllReadyH.cons (o := ⟨_, _, _, _, _, _⟩) rfl (fun K hK => ?_) AllReadyH.nil
                  go_simp
                  refine (CNlt.out _ _ (Slt.out.below D17 (Nat.le_refl _))).mono ?_
                  rintro r x18 ⟨a61, c61, rfl, s61_18, hb18⟩
                  have D18 : Below W7.heap.size W7 x18 := D17.trans (hb18.mono D17.size)
                  clear D17 hb18 CNlt
                  go_wp2_with fail
                  refine hK.out _ _ ?_ (fun hNew => ?_)
                  · exact SQ.out _ D18
                  clear hK K
                  replace hHeld := hNew
                  clear hNew
                  try simp only [Act.put, List.setIfInBounds_toArray, List.set_cons_zero, List.set_cons_succ]
                  as_aux_lemma =>
                    refine wpAnyH_ready (rs := [63]) (by as_aux_lemma => kernel_rfl) (by simp) ?_
                    refine AllReadyH.cons (o := ⟨_, _, _, _, _, _⟩) rfl (fun K hK => ?_) AllReadyH.nil
                    go_simp
                    refine (CSge.out _ _ _ s61_18 (Sge.out.below D18 (Nat.le_refl _))).mono ?_
                    rintro r x19 ⟨rfl, hb19⟩
                    have D19 : Below W7.heap.size W7 x19 := D18.trans (hb19.mono D18.size)
                    clear D18 hb19 s61_18 CSge
                    go_wp2_with fail
                    refine hK.out _ _ ?_ (fun hNew => ?_)
                    · exact SQ.out _ D19
                    clear hK K
                    replace hHeld := hNew
                    clear hNew
                    try simp only [Act.put, List.setIfInBounds_toArray, List.set_cons_zero, List.set_cons_succ]
                    refine wpAnyH_take (i := 64) (oi := ⟨_, _, _, _, _, _⟩) (v := ?_) rfl (by as_aux_lemma => kernel_rfl) (by as_aux_lemma => kernel_rfl) (by as_aux_lemma => kernel_rfl) (fun _ _ _ h => h) (Or.inl ⟨by rfl, ?_⟩) (by assumption) ?_
                    rotate_left
                    · (intro w hSw; (try dsimp only at hSw); first | (go_simp; done) | (go_simp; with_reducible rfl))
                    try simp only [Act.put, List.setIfInBounds_toArray, List.set_cons_zero, List.set_cons_succ]
                    refine wpAnyH_take (i := 65) (oi := ⟨_, _, _, _, _, _⟩) (v := ?_) rfl (by as_aux_lemma => kernel_rfl) (by as_aux_lemma => kernel_rfl) (by as_aux_lemma => kernel_rfl) (fun _ _ _ h => h) (Or.inl ⟨by rfl, ?_⟩) (by assumption) ?_
                    rotate_left
                    · (intro w hSw; (try dsimp only at hSw); first | (go_simp; done) | (go_simp; with_reducible rfl))
                    try simp only [Act.put, List.setIfInBounds_toArray, List.set_cons_zero, List.set_cons_succ]
                    refine wpAnyH_take (i := 66) (oi := ⟨_, _, _, _, _, _⟩) (v := ?_) rfl (by as_aux_lemma => kernel_rfl) (by as_aux_lemma => kernel_rfl) (by as_aux_lemma => kernel_rfl) (fun _ _ _ h => h) (Or.inl ⟨by rfl, ?_⟩) (by assumption) ?_
                    rotate_left
                    · (intro w hSw; (try dsimp only at hSw); first | (go_simp; done) | (go_simp; with_reducible rfl))
                    try simp only [Act.put, List.setIfInBounds_toArray, List.set_cons_zero, List.set_cons_succ]
                    refine wpAnyH_take (i := 67) (oi := ⟨_, _, _, _, _, _⟩) (v := ?_) rfl (by as_aux_lemma => kernel_rfl) (by as_aux_lemma => kernel_rfl) (by as_aux_lemma => kernel_rfl) (fun _ _ _ h => h) (Or.inl ⟨by rfl, ?_⟩) (by assumption) ?_
                    rotate_left
                    · (intro w hSw; (try dsimp only at hSw); first | (go_simp; done) | (go_simp; with_reducible rfl))
                    try simp only [Act.put, List.setIfInBounds_toArray, List.set_cons_zero, List.set_cons_succ]
                    refine wpAnyH_ready (rs := [68]) (by as_aux_lemma => kernel_rfl) (by simp) ?_
                    refine AllReadyH.cons (o := ⟨_, _, _, _, _, _⟩) rfl (fun K hK => ?_) AllReadyH.nil
                    go_simp
                    refine (CHca.out _ _ _ (Sca.out.below D19 (Nat.le_refl _))).mono ?_
                    rintro r x20 ⟨rfl, hb20⟩
                    have D20 : Below W7.heap.size W7 x20 := D19.trans (hb20.mono D19.size)
                    clear D19 hb20 CHca
                    go_wp2_with fail
                    refine hK.out _ _ ?_ (fun hNew => ?_)
                    · exact SQ.out _ D20
                    clear hK K
                    replace hHeld := hNew
                    clear hNew
                    try simp only [Act.put, List.setIfInBounds_toArray, List.set_cons_zero, List.set_cons_succ]
                    as_aux_lemma =>
                      refine wpAnyH_take (i := 69) (oi := ⟨_, _, _, _, _, _⟩) (v := ?_) rfl (by as_aux_lemma => kernel_rfl) (by as_aux_lemma => kernel_rfl) (by as_aux_lemma => kernel_rfl) (fun _ _ _ h => h) (Or.inl ⟨by rfl, ?_⟩) (by assumption) ?_
                      rotate_left
                      · (intro w hSw; (try dsimp only at hSw); first | (go_simp; done) | (go_simp; with_reducible rfl))
                      try simp only [Act.put, List.setIfInBounds_toArray, List.set_cons_zero, List.set_cons_succ]
                      refine wpAnyH_take (i := 70) (oi := ⟨_, _, _, _, _, _⟩) (v := ?_) rfl (by as_aux_lemma => kernel_rfl) (by as_aux_lemma => kernel_rfl) (by as_aux_lemma => kernel_rfl) (fun _ _ _ h => h) (Or.inl ⟨by rfl, ?_⟩) (by assumption) ?_
                      rotate_left
                      · (intro w hSw; (try dsimp only at hSw); first | (go_simp; done) | (go_simp; with_reducible rfl))
                      try simp only [Act.put, List.setIfInBounds_toArray, List.set_cons_zero, List.set_cons_succ]
                      refine wpAnyH_take (i := 71) (oi := ⟨_, _, _, _, _, _⟩) (v := ?_) rfl (by as_aux_lemma => kernel_rfl) (by as_aux_lemma => kernel_rfl) (by as_aux_lemma => kernel_rfl) (fun _ _ _ h => h) (Or.inl ⟨by rfl, ?_⟩) (by assumption) ?_
                      rotate_left
                      · (intro w hSw; (try dsimp only at hSw); first | (go_simp; done) | (go_simp; with_reducible rfl))
                      try simp only [Act.put, List.setIfInBounds_toArray, List.set_cons_zero, List.set_cons_succ]
                      refine wpAnyH_take (i := 72) (oi := ⟨_, _, _, _, _, _⟩) (v := ?_) rfl (by as_aux_lemma => kernel_rfl) (by as_aux_lemma => kernel_rfl) (by as_aux_lemma => kernel_rfl) (fun _ _ _ h => h) (Or.inl ⟨by rfl, ?_⟩) (by assumption) ?_
                      rotate_left
                      · (intro w hSw; (try dsimp only at hSw); first | (go_simp; done) | (go_simp; with_reducible rfl))
                      try simp only [Act.put, List.setIfInBounds_toArray, List.set_cons_zero, List.set_cons_succ]
                      refine wpAnyH_ready (rs := [73]) (by as_aux_lemma => kernel_rfl) (by simp) ?_
                      refine AllReadyH.cons (o := ⟨_, _, _, _, _, _⟩) rfl (fun K hK => ?_) AllReadyH.nil
                      go_simp
                      refine (CHti.out _ _ _ (Sti.out.below D20 (Nat.le_refl _))).mono ?_
                      rintro r x21 ⟨rfl, hb21⟩
                      have D21 : Below W7.heap.size W7 x21 := D20.trans (hb21.mono D20.size)
                      clear D20 hb21 CHti
                      go_wp2_with fail
                      refine hK.out _ _ ?_ (fun hNew => ?_)
                      · exact SQ.out _ D21
                      clear hK K
                      replace hHeld := hNew
                      clear hNew
                      try simp only [Act.put, List.setIfInBounds_toArray, List.set_cons_zero, List.set_cons_succ]
                      refine wpAnyH_take (i := 74) (oi := ⟨_, _, _, _, _, _⟩) (v := ?_) rfl (by as_aux_lemma => kernel_rfl) (by as_aux_lemma => kernel_rfl) (by as_aux_lemma => kernel_rfl) (fun _ _ _ h => h) (Or.inl ⟨by rfl, ?_⟩) (by assumption) ?_
                      rotate_left
                      · (intro w hSw; (try dsimp only at hSw); first | (go_simp; done) | (go_simp; with_reducible rfl))
                      try simp only [Act.put, List.setIfInBounds_toArray, List.set_cons_zero, List.set_cons_succ]
                      refine wpAnyH_take (i := 75) (oi := ⟨_, _, _, _, _, _⟩) (v := ?_) rfl (by as_aux_lemma => kernel_rfl) (by as_aux_lemma => kernel_rfl) (by as_aux_lemma => kernel_rfl) (fun _ _ _ h => h) (Or.inl ⟨by rfl, ?_⟩) (by assumption) ?_
                      rotate_left
                      · (intro w hSw; (try dsimp only at hSw); first | (go_simp; done) | (go_simp; with_reducible rfl))
                      try simp only [Act.put, List.setIfInBounds_toArray, List.set_cons_zero, List.set_cons_succ]
                      refine wpAnyH_take (i := 76) (oi := ⟨_, _, _, _, _, _⟩) (v := ?_) rfl (by as_aux_lemma => kernel_rfl) (by as_aux_lemma => kernel_rfl) (by as_aux_lemma => kernel_rfl) (fun _ _ _ h => h) (Or.inl ⟨by rfl, ?_⟩) (by assumption) ?_
                      rotate_left
                      · (intro w hSw; (try dsimp only at hSw); first | (go_simp; done) | (go_simp; with_reducible rfl))
                      try simp only [Act.put, List.setIfInBounds_toArray, List.set_cons_zero, List.set_cons_succ]
                      refine wpAnyH_take (i := 77) (oi := ⟨_, _, _, _, _, _⟩) (v := ?_) rfl (by as_aux_lemma => kernel_rfl) (by as_aux_lemma => kernel_rfl) (by as_aux_lemma => kernel_rfl) (fun _ _ _ h => h) (Or.inl ⟨by rfl, ?_⟩) (by assumption) ?_
                      rotate_left
                      · (intro w hSw; (try dsimp only at hSw); first | (go_simp; done) | (go_simp; with_reducible rfl))
                      try simp only [Act.put, List.setIfInBounds_toArray, List.set_cons_zero, List.set_cons_succ]
                      refine wpAnyH_ready (rs := [78]) (by as_aux_lemma => kernel_rfl) (by simp) ?_
                      refine AllReadyH.cons (o := ⟨_, _, _, _, _, _⟩) rfl (fun K hK => ?_) AllReadyH.nil
                      go_simp
                      refine (CAca.out _ _ _ (Sca.out.below D21 (Nat.le_refl _)) (Slt.out.below D21 (Nat.le_refl _))).mono ?_
                      rintro r x22 ⟨a78, c78, rfl, s78_22, hb22⟩
                      have D22 : Below W7.heap.size W7 x22 := D21.trans (hb22.mono D21.size)
                      clear D21 hb22 CAca
                      go_wp2_with fail
                      refine hK.out _ _ ?_ (fun hNew => ?_)
                      · exact SQ.out _ D22
                      clear hK K
                      replace hHeld := hNew
                      clear hNew
                      try simp only [Act.put, List.setIfInBounds_toArray, List.set_cons_zero, List.set_cons_succ]
                      as_aux_lemma =>
                        refine wpAnyH_ready (rs := [79]) (by as_aux_lemma => kernel_rfl) (by simp) ?_
                        refine AllReadyH.cons (o := ⟨_, _, _, _, _, _⟩) rfl (fun K hK => ?_) AllReadyH.nil
                        go_simp
                        refine (CEca.out _ _ s78_22).mono ?_
                        rintro r x23 ⟨rfl, hb23⟩
                        have D23 : Below W7.heap.size W7 x23 := D22.trans (hb23.mono D22.size)
                        clear D22 hb23 s78_22 CEca
                        go_wp2_with fail
                        refine hK.out _ _ ?_ (fun hNew => ?_)
                        · exact SQ.out _ D23
                        clear hK K
                        replace hHeld := hNew
                        clear hNew
                        try simp only [Act.put, List.setIfInBounds_toArray, List.set_cons_zero, List.set_cons_succ]
                        refine wpAnyH_take (i := 80) (oi := ⟨_, _, _, _, _, _⟩) (v := ?_) rfl (by as_aux_lemma => kernel_rfl) (by as_aux_lemma => kernel_rfl) (by as_aux_lemma => kernel_rfl) (fun _ _ _ h => h) (Or.inl ⟨by rfl, ?_⟩) (by assumption) ?_
                        rotate_left
                        · (intro w hSw; (try dsimp only at hSw); first | (go_simp; done) | (go_simp; with_reducible rfl))
                        try simp only [Act.put, List.setIfInBounds_toArray, List.set_cons_zero, List.set_cons_succ]
                        refine wpAnyH_take (i := 81) (oi := ⟨_, _, _, _, _, _⟩) (v := ?_) rfl (by as_aux_lemma => kernel_rfl) (by as_aux_lemma => kernel_rfl) (by as_aux_lemma => kernel_rfl) (fun _ _ _ h => h) (Or.inl ⟨by rfl, ?_⟩) (by assumption) ?_
                        rotate_left
                        · (intro w hSw; (try dsimp only at hSw); first | (go_simp; done) | (go_simp; with_reducible rfl))
                        try simp only [Act.put, List.setIfInBounds_toArray, List.set_cons_zero, List.set_cons_succ]
                        refine wpAnyH_take (i := 82) (oi := ⟨_, _, _, _, _, _⟩) (v := ?_) rfl (by as_aux_lemma => kernel_rfl) (by as_aux_lemma => kernel_rfl) (by as_aux_lemma => kernel_rfl) (fun _ _ _ h => h) (Or.inl ⟨by rfl, ?_⟩) (by assumption) ?_
                        rotate_left
                        · (intro w hSw; (try dsimp only at hSw); first | (go_simp; done) | (go_simp; with_reducible rfl))
                        try simp only [Act.put, List.setIfInBounds_toArray, List.set_cons_zero, List.set_cons_succ]
                        refine wpAnyH_take (i := 83) (oi := ⟨_, _, _, _, _, _⟩) (v := ?_) rfl (by as_aux_lemma => kernel_rfl) (by as_aux_lemma => kernel_rfl) (by as_aux_lemma => kernel_rfl) (fun _ _ _ h => h) (Or.inl ⟨by rfl, ?_⟩) (by assumption) ?_
                        rotate_left
                        · (intro w hSw; (try dsimp only at hSw); first | (go_simp; done) | (go_simp; with_reducible rfl))
                        try simp only [Act.put, List.setIfInBounds_toArray, List.set_cons_zero, List.set_cons_succ]
                        refine wpAnyH_ready (rs := [84]) (by as_aux_lemma => kernel_rfl) (by simp) ?_
                        refine AllReadyH.cons (o := ⟨_, _, _, _, _, _⟩) rfl (fun K hK => ?_) AllReadyH.nil
                        go_simp
                        refine (CAti.out _ _ _ (Sti.out.below D23 (Nat.le_refl _)) (Slt.out.below D23 (Nat.le_refl _))).mono ?_
                        rintro r x24 ⟨a84, c84, rfl, s84_24, hb24⟩
                        have D24 : Below W7.heap.size W7 x24 := D23.trans (hb24.mono D23.size)
                        clear D23 hb24 CAti
                        go_wp2_with fail
                        refine hK.out _ _ ?_ (fun hNew => ?_)
                        · exact SQ.out _ D24
                        clear hK K
                        replace hHeld := hNew
                        clear hNew
                        try simp only [Act.put, List.setIfInBounds_toArray, List.set_cons_zero, List.set_cons_succ]
                        as_aux_lemma =>
                          refine wpAnyH_ready (rs := [85]) (by as_aux_lemma => kernel_rfl) (by simp) ?_
                          refine AllReadyH.cons (o := ⟨_, _, _, _, _, _⟩) rfl (fun K hK => ?_) AllReadyH.nil
                          go_simp
                          refine (CEti.out _ _ s84_24).mono ?_
                          rintro r x25 ⟨rfl, hb25⟩
                          have D25 : Below W7.heap.size W7 x25 := D24.trans (hb25.mono D24.size)
                          clear D24 hb25 s84_24 CEti
                          go_wp2_with fail
                          refine hK.out _ _ ?_ (fun hNew => ?_)
                          · exact SQ.out _ D25
                          clear hK K
                          replace hHeld := hNew
                          clear hNew
                          try simp only [Act.put, List.setIfInBounds_toArray, List.set_cons_zero, List.set_cons_succ]
                          refine wpAnyH_take (i := 86) (oi := ⟨_, _, _, _, _, _⟩) (v := ?_) rfl (by as_aux_lemma => kernel_rfl) (by as_aux_lemma => kernel_rfl) (by as_aux_lemma => kernel_rfl) (fun _ _ _ h => h) (Or.inl ⟨by rfl, ?_⟩) (by assumption) ?_
                          rotate_left
                          · (intro w hSw; (try dsimp only at hSw); first | (go_simp; done) | (go_simp; with_reducible rfl))
                          try simp only [Act.put, List.setIfInBounds_toArray, List.set_cons_zero, List.set_cons_succ]
                          refine wpAnyH_take (i := 87) (oi := ⟨_, _, _, _, _, _⟩) (v := ?_) rfl (by as_aux_lemma => kernel_rfl) (by as_aux_lemma => kernel_rfl) (by as_aux_lemma => kernel_rfl) (fun _ _ _ h => h) (Or.inl ⟨by rfl, ?_⟩) (by assumption) ?_
                          rotate_left
                          · (intro w hSw; (try dsimp only at hSw); first | (go_simp; done) | (go_simp; with_reducible rfl))
                          try simp only [Act.put, List.setIfInBounds_toArray, List.set_cons_zero, List.set_cons_succ]
                          refine wpAnyH_take (i := 88) (oi := ⟨_, _, _, _, _, _⟩) (v := ?_) rfl (by as_aux_lemma => kernel_rfl) (by as_aux_lemma => kernel_rfl) (by as_aux_lemma => kernel_rfl) (fun _ _ _ h => h) (Or.inl ⟨by rfl, ?_⟩) (by assumption) ?_
                          rotate_left
                          · (intro w hSw; (try dsimp only at hSw); first | (go_simp; done) | (go_simp; with_reducible rfl))
                          try simp only [Act.put, List.setIfInBounds_toArray, List.set_cons_zero, List.set_cons_succ]
                          refine wpAnyH_take (i := 89) (oi := ⟨_, _, _, _, _, _⟩) (v := ?_) rfl (by as_aux_lemma => kernel_rfl) (by as_aux_lemma => kernel_rfl) (by as_aux_lemma => kernel_rfl) (fun _ _ _ h => h) (Or.inl ⟨by rfl, ?_⟩) (by assumption) ?_
                          rotate_left
                          · (intro w hSw; (try dsimp only at hSw); first | (go_simp; done) | (go_simp; with_reducible rfl))
                          try simp only [Act.put, List.setIfInBounds_toArray, List.set_cons_zero, List.set_cons_succ]
                          refine wpAnyH_ready (rs := [90]) (by as_aux_lemma => kernel_rfl) (by simp) ?_
                          refine AllReadyH.cons (o := ⟨_, _, _, _, _, _⟩) rfl (fun K hK => ?_) AllReadyH.nil
                          go_simp
                          refine (CHcaw.out _ _ _ (Sca.out.below D25 (Nat.le_refl _))).mono ?_
                          rintro r x26 ⟨rfl, hb26⟩
                          have D26 : Below W7.heap.size W7 x26 := D25.trans (hb26.mono D25.size)
                          clear D25 hb26 CHcaw
                          go_wp2_with fail
                          refine hK.out _ _ ?_ (fun hNew => ?_)
                          · exact SQ.out _ D26
                          clear hK K
                          replace hHeld := hNew
                          clear hNew
                          try simp only [Act.put, List.setIfInBounds_toArray, List.set_cons_zero, List.set_cons_succ]
                          cases Bc with
                          | false =>
                            as_aux_lemma =>
                              clear QC
                              refine wpAnyH_take (i := 91) (oi := ⟨_, _, _, _, _, _⟩) (v := ?_) rfl (by as_aux_lemma => kernel_rfl) (by as_aux_lemma => kernel_rfl) (by as_aux_lemma => kernel_rfl) (fun _ _ _ h => h) (Or.inl ⟨by rfl, ?_⟩) (by assumption) ?_
                              rotate_left
                              · (intro w hSw; (try dsimp only at hSw); first | (go_simp; done) | (go_simp; with_reducible rfl))
                              try simp only [Act.put, List.setIfInBounds_toArray, List.set_cons_zero, List.set_cons_succ]
                              refine wpAnyH_take (i := 92) (oi := ⟨_, _, _, _, _, _⟩) (v := ?_) rfl (by as_aux_lemma => kernel_rfl) (by as_aux_lemma => kernel_rfl) (by as_aux_lemma => kernel_rfl) (fun _ _ _ h => h) (Or.inl ⟨by rfl, ?_⟩) (by assumption) ?_
                              rotate_left
                              · (intro w hSw; (try dsimp only at hSw); first | (go_simp; done) | (go_simp; with_reducible rfl))
                              try simp only [Act.put, List.setIfInBounds_toArray, List.set_cons_zero, List.set_cons_succ]
                              refine wpAnyH_take (i := 93) (oi := ⟨_, _, _, _, _, _⟩) (v := undef) rfl (by as_aux_lemma => kernel_rfl) (by as_aux_lemma => kernel_rfl) (by as_aux_lemma => kernel_rfl) (fun _ _ _ h => h) (Or.inr ⟨by rfl, rfl⟩) (by assumption) ?_
                              try simp only [Act.put, List.setIfInBounds_toArray, List.set_cons_zero, List.set_cons_succ]
                              refine wpAnyH_take (i := 94) (oi := ⟨_, _, _, _, _, _⟩) (v := undef) rfl (by as_aux_lemma => kernel_rfl) (by as_aux_lemma => kernel_rfl) (by as_aux_lemma => kernel_rfl) (fun _ _ _ h => h) (Or.inr ⟨by rfl, rfl⟩) (by assumption) ?_
                              try simp only [Act.put, List.setIfInBounds_toArray, List.set_cons_zero, List.set_cons_succ]
                              refine wpAnyH_take (i := 95) (oi := ⟨_, _, _, _, _, _⟩) (v := undef) rfl (by as_aux_lemma => kernel_rfl) (by as_aux_lemma => kernel_rfl) (by as_aux_lemma => kernel_rfl) (fun _ _ _ h => h) (Or.inr ⟨by rfl, rfl⟩) (by assumption) ?_
                              try simp only [Act.put, List.setIfInBounds_toArray, List.set_cons_zero, List.set_cons_succ]
                              refine wpAnyH_take (i := 96) (oi := ⟨_, _, _, _, _, _⟩) (v := undef) rfl (by as_aux_lemma => kernel_rfl) (by as_aux_lemma => kernel_rfl) (by as_aux_lemma => kernel_rfl) (fun _ _ _ h => h) (Or.inr ⟨by rfl, rfl⟩) (by assumption) ?_
                              try simp only [Act.put, List.setIfInBounds_toArray, List.set_cons_zero, List.set_cons_succ]
                              refine wpAnyH_take (i := 97) (oi := ⟨_, _, _, _, _, _⟩) (v := undef) rfl (by as_aux_lemma => kernel_rfl) (by as_aux_lemma => kernel_rfl) (by as_aux_lemma => kernel_rfl) (fun _ _ _ h => h) (Or.inr ⟨by rfl, rfl⟩) (by assumption) ?_
                              try simp only [Act.put, List.setIfInBounds_toArray, List.set_cons_zero, List.set_cons_succ]
                              refine wpAnyH_take (i := 98) (oi := ⟨_, _, _, _, _, _⟩) (v := ?_) rfl (by as_aux_lemma => kernel_rfl) (by as_aux_lemma => kernel_rfl) (by as_aux_lemma => kernel_rfl) (fun _ _ _ h => h) (Or.inl ⟨by rfl, ?_⟩) (by assumption) ?_
                              rotate_left
                              · (intro w hSw; (try dsimp only at hSw); first | (go_simp; done) | (go_simp; with_reducible rfl))
                              try simp only [Act.put, List.setIfInBounds_toArray, List.set_cons_zero, List.set_cons_succ]
                              refine wpAnyH_take (i := 99) (oi := ⟨_, _, _, _, _, _⟩) (v := ?_) rfl (by as_aux_lemma => kernel_rfl) (by as_aux_lemma => kernel_rfl) (by as_aux_lemma => kernel_rfl) (fun _ _ _ h => h) (Or.inl ⟨by rfl, ?_⟩) (by assumption) ?_
                              rotate_left
                              · (intro w hSw; (try dsimp only at hSw); first | (go_simp; done) | (go_simp; with_reducible rfl))
                              try simp only [Act.put, List.setIfInBounds_toArray, List.set_cons_zero, List.set_cons_succ]
                              refine wpAnyH_take (i := 100) (oi := ⟨_, _, _, _, _, _⟩) (v := undef) rfl (by as_aux_lemma => kernel_rfl) (by as_aux_lemma => kernel_rfl) (by as_aux_lemma => kernel_rfl) (fun _ _ _ h => h) (Or.inr ⟨by rfl, rfl⟩) (by assumption) ?_
                              try simp only [Act.put, List.setIfInBounds_toArray, List.set_cons_zero, List.set_cons_succ]
                              refine wpAnyH_take (i := 101) (oi := ⟨_, _, _, _, _, _⟩) (v := undef) rfl (by as_aux_lemma => kernel_rfl) (by as_aux_lemma => kernel_rfl) (by as_aux_lemma => kernel_rfl) (fun _ _ _ h => h) (Or.inr ⟨by rfl, rfl⟩) (by assumption) ?_
                              try simp only [Act.put, List.setIfInBounds_toArray, List.set_cons_zero, List.set_cons_succ]
                              refine wpAnyH_take (i := 102) (oi := ⟨_, _, _, _, _, _⟩) (v := undef) rfl (by as_aux_lemma => kernel_rfl) (by as_aux_lemma => kernel_rfl) (by as_aux_lemma => kernel_rfl) (fun _ _ _ h => h) (Or.inr ⟨by rfl, rfl⟩) (by assumption) ?_
                              try simp only [Act.put, List.setIfInBounds_toArray, List.set_cons_zero, List.set_cons_succ]
                              refine wpAnyH_take (i := 103) (oi := ⟨_, _, _, _, _, _⟩) (v := ?_) rfl (by as_aux_lemma => kernel_rfl) (by as_aux_lemma => kernel_rfl) (by as_aux_lemma => kernel_rfl) (fun _ _ _ h => h) (Or.inl ⟨by rfl, ?_⟩) (by assumption) ?_
                              rotate_left
                              · (intro w hSw; (try dsimp only at hSw); first | (go_simp; done) | (go_simp; with_reducible rfl))
                              try simp only [Act.put, List.setIfInBounds_toArray, List.set_cons_zero, List.set_cons_succ]
                              refine wpAnyH_take (i := 104) (oi := ⟨_, _, _, _, _, _⟩) (v := ?_) rfl (by as_aux_lemma => kernel_rfl) (by as_aux_lemma => kernel_rfl) (by as_aux_lemma => kernel_rfl) (fun _ _ _ h => h) (Or.inl ⟨by rfl, ?_⟩) (by assumption) ?_
                              rotate_left
                              · (intro w hSw; (try dsimp only at hSw); first | (go_simp; done) | (go_simp; with_reducible rfl))
                              try simp only [Act.put, List.setIfInBounds_toArray, List.set_cons_zero, List.set_cons_succ]
                              refine wpAnyH_take (i := 105) (oi := ⟨_, _, _, _, _, _⟩) (v := ?_) rfl (by as_aux_lemma => kernel_rfl) (by as_aux_lemma => kernel_rfl) (by as_aux_lemma => kernel_rfl) (fun _ _ _ h => h) (Or.inl ⟨by rfl, ?_⟩) (by assumption) ?_
                              rotate_left
                              · (intro w hSw; (try dsimp only at hSw); first | (go_simp; done) | (go_simp; with_reducible rfl))
                              try simp only [Act.put, List.setIfInBounds_toArray, List.set_cons_zero, List.set_cons_succ]
                              refine wpAnyH_take (i := 106) (oi := ⟨_, _, _, _, _, _⟩) (v := ?_) rfl (by as_aux_lemma => kernel_rfl) (by as_aux_lemma => kernel_rfl) (by as_aux_lemma => kernel_rfl) (fun _ _ _ h => h) (Or.inl ⟨by rfl, ?_⟩) (by assumption) ?_
                              rotate_left
                              · (intro w hSw; (try dsimp only at hSw); first | (go_simp; done) | (go_simp; with_reducible rfl))
                              try simp only [Act.put, List.setIfInBounds_toArray, List.set_cons_zero, List.set_cons_succ]
                              refine wpAnyH_take (i := 107) (oi := ⟨_, _, _, _, _, _⟩) (v := ?_) rfl (by as_aux_lemma => kernel_rfl) (by as_aux_lemma => kernel_rfl) (by as_aux_lemma => kernel_rfl) (fun _ _ _ h => h) (Or.inl ⟨by rfl, ?_⟩) (by assumption) ?_
                              rotate_left
                              · (intro w hSw; (try dsimp only at hSw); first | (go_simp; done) | (go_simp; with_reducible rfl))
                              try simp only [Act.put, List.setIfInBounds_toArray, List.set_cons_zero, List.set_cons_succ]
                              refine wpAnyH_ready (rs := [108]) (by as_aux_lemma => kernel_rfl) (by simp) ?_
                              refine AllReadyH.cons (o := ⟨_, _, _, _, _, _⟩) rfl (fun K hK => ?_) AllReadyH.nil
                              go_simp
                              refine (CHtiw.out _ _ _ (Sti.out.below D26 (Nat.le_refl _))).mono ?_
                              rintro r x27 ⟨rfl, hb27⟩
                              have D27 : Below W7.heap.size W7 x27 := D26.trans (hb27.mono D26.size)
                              clear D26 hb27 CHtiw
                              go_wp2_with fail
                              refine hK.out _ _ ?_ (fun hNew => ?_)
                              · exact SQ.out _ D27
                              clear hK K
                              replace hHeld := hNew
                              clear hNew
                              try simp only [Act.put, List.setIfInBounds_toArray, List.set_cons_zero, List.set_cons_succ]
                              cases Bt with
                              | false =>
                                as_aux_lemma =>
                                  clear QT
                                  refine wpAnyH_take (i := 109) (oi := ⟨_, _, _, _, _, _⟩) (v := ?_) rfl (by as_aux_lemma => kernel_rfl) (by as_aux_lemma => kernel_rfl) (by as_aux_lemma => kernel_rfl) (fun _ _ _ h => h) (Or.inl ⟨by rfl, ?_⟩) (by assumption) ?_
                                  rotate_left
                                  · (intro w hSw; (try dsimp only at hSw); first | (go_simp; done) | (go_simp; with_reducible rfl))
                                  try simp only [Act.put, List.setIfInBounds_toArray, List.set_cons_zero, List.set_cons_succ]
                                  refine wpAnyH_take (i := 110) (oi := ⟨_, _, _, _, _, _⟩) (v := ?_) rfl (by as_aux_lemma => kernel_rfl) (by as_aux_lemma => kernel_rfl) (by as_aux_lemma => kernel_rfl) (fun _ _ _ h => h) (Or.inl ⟨by rfl, ?_⟩) (by assumption) ?_
                                  rotate_left
                                  · (intro w hSw; (try dsimp only at hSw); first | (go_simp; done) | (go_simp; with_reducible rfl))
                                  try simp only [Act.put, List.setIfInBounds_toArray, List.set_cons_zero, List.set_cons_succ]
                                  refine wpAnyH_take (i := 111) (oi := ⟨_, _, _, _, _, _⟩) (v := undef) rfl (by as_aux_lemma => kernel_rfl) (by as_aux_lemma => kernel_rfl) (by as_aux_lemma => kernel_rfl) (fun _ _ _ h => h) (Or.inr ⟨by rfl, rfl⟩) (by assumption) ?_
                                  try simp only [Act.put, List.setIfInBounds_toArray, List.set_cons_zero, List.set_cons_succ]
                                  refine wpAnyH_take (i := 112) (oi := ⟨_, _, _, _, _, _⟩) (v := undef) rfl (by as_aux_lemma => kernel_rfl) (by as_aux_lemma => kernel_rfl) (by as_aux_lemma => kernel_rfl) (fun _ _ _ h => h) (Or.inr ⟨by rfl, rfl⟩) (by assumption) ?_
                                  try simp only [Act.put, List.setIfInBounds_toArray, List.set_cons_zero, List.set_cons_succ]
                                  refine wpAnyH_take (i := 113) (oi := ⟨_, _, _, _, _, _⟩) (v := undef) rfl (by as_aux_lemma => kernel_rfl) (by as_aux_lemma => kernel_rfl) (by as_aux_lemma => kernel_rfl) (fun _ _ _ h => h) (Or.inr ⟨by rfl, rfl⟩) (by assumption) ?_
                                  try simp only [Act.put, List.setIfInBounds_toArray, List.set_cons_zero, List.set_cons_succ]
                                  refine wpAnyH_take (i := 114) (oi := ⟨_, _, _, _, _, _⟩) (v := undef) rfl (by as_aux_lemma => kernel_rfl) (by as_aux_lemma => kernel_rfl) (by as_aux_lemma => kernel_rfl) (fun _ _ _ h => h) (Or.inr ⟨by rfl, rfl⟩) (by assumption) ?_
                                  try simp only [Act.put, List.setIfInBounds_toArray, List.set_cons_zero, List.set_cons_succ]
                                  refine wpAnyH_take (i := 115) (oi := ⟨_, _, _, _, _, _⟩) (v := undef) rfl (by as_aux_lemma => kernel_rfl) (by as_aux_lemma => kernel_rfl) (by as_aux_lemma => kernel_rfl) (fun _ _ _ h => h) (Or.inr ⟨by rfl, rfl⟩) (by assumption) ?_
                                  try simp only [Act.put, List.setIfInBounds_toArray, List.set_cons_zero, List.set_cons_succ]
                                  refine wpAnyH_take (i := 116) (oi := ⟨_, _, _, _, _, _⟩) (v := undef) rfl (by as_aux_lemma => kernel_rfl) (by as_aux_lemma => kernel_rfl) (by as_aux_lemma => kernel_rfl) (fun _ _ _ h => h) (Or.inr ⟨by rfl, rfl⟩) (by assumption) ?_
                                  try simp only [Act.put, List.setIfInBounds_toArray, List.set_cons_zero, List.set_cons_succ]
                                  refine wpAnyH_take (i := 117) (oi := ⟨_, _, _, _, _, _⟩) (v := undef) rfl (by as_aux_lemma => kernel_rfl) (by as_aux_lemma => kernel_rfl) (by as_aux_lemma => kernel_rfl) (fun _ _ _ h => h) (Or.inr ⟨by rfl, rfl⟩) (by assumption) ?_
                                  try simp only [Act.put, List.setIfInBounds_toArray, List.set_cons_zero, List.set_cons_succ]
                                  refine wpAnyH_take (i := 118) (oi := ⟨_, _, _, _, _, _⟩) (v := undef) rfl (by as_aux_lemma => kernel_rfl) (by as_aux_lemma => kernel_rfl) (by as_aux_lemma => kernel_rfl) (fun _ _ _ h => h) (Or.inr ⟨by rfl, rfl⟩) (by assumption) ?_
                                  try simp only [Act.put, List.setIfInBounds_toArray, List.set_cons_zero, List.set_cons_succ]
                                  refine wpAnyH_take (i := 119) (oi := ⟨_, _, _, _, _, _⟩) (v := undef) rfl (by as_aux_lemma => kernel_rfl) (by as_aux_lemma => kernel_rfl) (by as_aux_lemma => kernel_rfl) (fun _ _ _ h => h) (Or.inr ⟨by rfl, rfl⟩) (by assumption) ?_
                                  try simp only [Act.put, List.setIfInBounds_toArray, List.set_cons_zero, List.set_cons_succ]
                                  refine wpAnyH_take (i := 120) (oi := ⟨_, _, _, _, _, _⟩) (v := undef) rfl (by as_aux_lemma => kernel_rfl) (by as_aux_lemma => kernel_rfl) (by as_aux_lemma => kernel_rfl) (fun _ _ _ h => h) (Or.inr ⟨by rfl, rfl⟩) (by assumption) ?_
                                  try simp only [Act.put, List.setIfInBounds_toArray, List.set_cons_zero, List.set_cons_succ]
                                  refine wpAnyH_take (i := 121) (oi := ⟨_, _, _, _, _, _⟩) (v := undef) rfl (by as_aux_lemma => kernel_rfl) (by as_aux_lemma => kernel_rfl) (by as_aux_lemma => kernel_rfl) (fun _ _ _ h => h) (Or.inr ⟨by rfl, rfl⟩) (by assumption) ?_
                                  try simp only [Act.put, List.setIfInBounds_toArray, List.set_cons_zero, List.set_cons_succ]
                                  refine wpAnyH_take (i := 122) (oi := ⟨_, _, _, _, _, _⟩) (v := undef) rfl (by as_aux_lemma => kernel_rfl) (by as_aux_lemma => kernel_rfl) (by as_aux_lemma => kernel_rfl) (fun _ _ _ h => h) (Or.inr ⟨by rfl, rfl⟩) (by assumption) ?_
                                  try simp only [Act.put, List.setIfInBounds_toArray, List.set_cons_zero, List.set_cons_succ]
                                  refine wpAnyH_take (i := 123) (oi := ⟨_, _, _, _, _, _⟩) (v := ?_) rfl (by as_aux_lemma => kernel_rfl) (by as_aux_lemma => kernel_rfl) (by as_aux_lemma => kernel_rfl) (fun _ _ _ h => h) (Or.inl ⟨by rfl, ?_⟩) (by assumption) ?_
                                  rotate_left
                                  · (intro w hSw; (try dsimp only at hSw); first | (go_simp; done) | (go_simp; with_reducible rfl))
                                  try simp only [Act.put, List.setIfInBounds_toArray, List.set_cons_zero, List.set_cons_succ]
                                  refine wpAnyH_take (i := 124) (oi := ⟨_, _, _, _, _, _⟩) (v := ?_) rfl (by as_aux_lemma => kernel_rfl) (by as_aux_lemma => kernel_rfl) (by as_aux_lemma => kernel_rfl) (fun _ _ _ h => h) (Or.inl ⟨by rfl, ?_⟩) (by assumption) ?_
                                  rotate_left
                                  · (intro w hSw; (try dsimp only at hSw); first | (go_simp; done) | (go_simp; with_reducible rfl))
                                  try simp only [Act.put, List.setIfInBounds_toArray, List.set_cons_zero, List.set_cons_succ]
                                  refine wpAnyH_take (i := 125) (oi := ⟨_, _, _, _, _, _⟩) (v := ?_) rfl (by as_aux_lemma => kernel_rfl) (by as_aux_lemma => kernel_rfl) (by as_aux_lemma => kernel_rfl) (fun _ _ _ h => h) (Or.inl ⟨by rfl, ?_⟩) (by assumption) ?_
                                  rotate_left
                                  · (intro w hSw; (try dsimp only at hSw); first | (go_simp; done) | (go_simp; with_reducible rfl))
                                  try simp only [Act.put, List.setIfInBounds_toArray, List.set_cons_zero, List.set_cons_succ]
                                  refine wpAnyH_done (by kernel_rfl) ?_ _
                                  have HBZ : Hid (Below w.heap.size w x27) := HEq.out.trans (D27.mono HEq.out.size)
                                  clear D27
                                  go_wp2
                                  go_ret
                                  exact ⟨rfl, HBZ.out⟩
                              | true =>
                                as_aux_lemma =>
                                  have q4 := QT.out rfl
                                  have q5 : ((e : Int) == (b : Int)) = true := by rw [q4.1]; simp
                                  have q6 : (e == b) = true := by rw [q4.1]; simp
                                  have q7 : ((d : Int) == (a : Int)) = true := by rw [q4.2]; simp
                                  have q8 : (d == a) = true := by rw [q4.2]; simp
                                  clear q4 QT
                                  refine wpAnyH_take (i := 109) (oi := ⟨_, _, _, _, _, _⟩) (v := ?_) rfl (by as_aux_lemma => kernel_rfl) (by as_aux_lemma => kernel_rfl) (by as_aux_lemma => kernel_rfl) (fun _ _ _ h => h) (Or.inl ⟨by rfl, ?_⟩) (by assumption) ?_
                                  rotate_left
                                  · (intro w hSw; (try dsimp only at hSw); first | (go_simp; done) | (go_simp; with_reducible rfl))
                                  try simp only [Act.put, List.setIfInBounds_toArray, List.set_cons_zero, List.set_cons_succ]
                                  refine wpAnyH_take (i := 110) (oi := ⟨_, _, _, _, _, _⟩) (v := ?_) rfl (by as_aux_lemma => kernel_rfl) (by as_aux_lemma => kernel_rfl) (by as_aux_lemma => kernel_rfl) (fun _ _ _ h => h) (Or.inl ⟨by rfl, ?_⟩) (by assumption) ?_
                                  rotate_left
                                  · (intro w hSw; (try dsimp only at hSw); first | (go_simp; done) | (go_simp; with_reducible rfl))
                                  try simp only [Act.put, List.setIfInBounds_toArray, List.set_cons_zero, List.set_cons_succ]
                                  refine wpAnyH_take (i := 111) (oi := ⟨_, _, _, _, _, _⟩) (v := ?_) rfl (by as_aux_lemma => kernel_rfl) (by as_aux_lemma => kernel_rfl) (by as_aux_lemma => kernel_rfl) (fun _ _ _ h => h) (Or.inl ⟨by rfl, ?_⟩) (by assumption) ?_
                                  rotate_left
                                  · (intro w hSw; (try dsimp only at hSw); first | (go_simp; done) | (go_simp; with_reducible rfl))
                                  try simp only [Act.put, List.setIfInBounds_toArray, List.set_cons_zero, List.set_cons_succ]
                                  refine wpAnyH_take (i := 112) (oi := ⟨_, _, _, _, _, _⟩) (v := ?_) rfl (by as_aux_lemma => kernel_rfl) (by as_aux_lemma => kernel_rfl) (by as_aux_lemma => kernel_rfl) (fun _ _ _ h => h) (Or.inl ⟨by rfl, ?_⟩) (by assumption) ?_
                                  rotate_left
                                  · (intro w hSw; (try dsimp only at hSw); first | (go_simp; done) | (go_simp; with_reducible rfl))
                                  try simp only [Act.put, List.setIfInBounds_toArray, List.set_cons_zero, List.set_cons_succ]
                                  refine wpAnyH_take (i := 113) (oi := ⟨_, _, _, _, _, _⟩) (v := ?_) rfl (by as_aux_lemma => kernel_rfl) (by as_aux_lemma => kernel_rfl) (by as_aux_lemma => kernel_rfl) (fun _ _ _ h => h) (Or.inl ⟨by rfl, ?_⟩) (by assumption) ?_
                                  rotate_left
                                  · (intro w hSw; (try dsimp only at hSw); first | (go_simp; done) | (go_simp; with_reducible rfl))
                                  try simp only [Act.put, List.setIfInBounds_toArray, List.set_cons_zero, List.set_cons_succ]
                                  refine wpAnyH_take (i := 114) (oi := ⟨_, _, _, _, _, _⟩) (v := ?_) rfl (by as_aux_lemma => kernel_rfl) (by as_aux_lemma => kernel_rfl) (by as_aux_lemma => kernel_rfl) (fun _ _ _ h => h) (Or.inl ⟨by rfl, ?_⟩) (by assumption) ?_
                                  rotate_left
                                  · (intro w hSw; (try dsimp only at hSw); first | (go_simp; done) | (go_simp; with_reducible rfl))
                                  try simp only [Act.put, List.setIfInBounds_toArray, List.set_cons_zero, List.set_cons_succ]
                                  refine wpAnyH_take (i := 115) (oi := ⟨_, _, _, _, _, _⟩) (v := ?_) rfl (by as_aux_lemma => kernel_rfl) (by as_aux_lemma => kernel_rfl) (by as_aux_lemma => kernel_rfl) (fun _ _ _ h => h) (Or.inl ⟨by rfl, ?_⟩) (by assumption) ?_
                                  rotate_left
                                  · (intro w hSw; (try dsimp only at hSw); first | (go_simp; done) | (go_simp; with_reducible rfl))
                                  try simp only [Act.put, List.setIfInBounds_toArray, List.set_cons_zero, List.set_cons_succ]
                                  refine wpAnyH_take (i := 116) (oi := ⟨_, _, _, _, _, _⟩) (v := ?_) rfl (by as_aux_lemma => kernel_rfl) (by as_aux_lemma => kernel_rfl) (by as_aux_lemma => kernel_rfl) (fun _ _ _ h => h) (Or.inl ⟨by rfl, ?_⟩) (by assumption) ?_
                                  rotate_left
                                  · (intro w hSw; (try dsimp only at hSw); first | (go_simp; done) | (go_simp; with_reducible rfl))
                                  try simp only [Act.put, List.setIfInBounds_toArray, List.set_cons_zero, List.set_cons_succ]
                                  refine wpAnyH_take (i := 117) (oi := ⟨_, _, _, _, _, _⟩) (v := ?_) rfl (by as_aux_lemma => kernel_rfl) (by as_aux_lemma => kernel_rfl) (by as_aux_lemma => kernel_rfl) (fun _ _ _ h => h) (Or.inl ⟨by rfl, ?_⟩) (by assumption) ?_
                                  rotate_left
                                  · (intro w hSw; (try dsimp only at hSw); first | (go_simp; done) | (go_simp; with_reducible rfl))
                                  try simp only [Act.put, List.setIfInBounds_toArray, List.set_cons_zero, List.set_cons_succ]
                                  refine wpAnyH_take (i := 118) (oi := ⟨_, _, _, _, _, _⟩) (v := ?_) rfl (by as_aux_lemma => kernel_rfl) (by as_aux_lemma => kernel_rfl) (by as_aux_lemma => kernel_rfl) (fun _ _ _ h => h) (Or.inl ⟨by rfl, ?_⟩) (by assumption) ?_
                                  rotate_left
                                  · (intro w hSw; (try dsimp only at hSw); first | (go_simp; done) | (go_simp; with_reducible rfl))
                                  try simp only [Act.put, List.setIfInBounds_toArray, List.set_cons_zero, List.set_cons_succ]
                                  refine wpAnyH_take (i := 119) (oi := ⟨_, _, _, _, _, _⟩) (v := ?_) rfl (by as_aux_lemma => kernel_rfl) (by as_aux_lemma => kernel_rfl) (by as_aux_lemma => kernel_rfl) (fun _ _ _ h => h) (Or.inl ⟨by rfl, ?_⟩) (by assumption) ?_
                                  rotate_left
                                  · (intro w hSw; (try dsimp only at hSw); first | (go_simp; done) | (go_simp; with_reducible rfl))
                                  try simp only [Act.put, List.setIfInBounds_toArray, List.set_cons_zero, List.set_cons_succ]
                                  refine wpAnyH_take (i := 120) (oi := ⟨_, _, _, _, _, _⟩) (v := ?_) rfl (by as_aux_lemma => kernel_rfl) (by as_aux_lemma => kernel_rfl) (by as_aux_lemma => kernel_rfl) (fun _ _ _ h => h) (Or.inl ⟨by rfl, ?_⟩) (by assumption) ?_
                                  rotate_left
                                  · (intro w hSw; (try dsimp only at hSw); first | (go_simp; done) | (go_simp; with_reducible rfl))
                                  try simp only [Act.put, List.setIfInBounds_toArray, List.set_cons_zero, List.set_cons_succ]
                                  refine wpAnyH_take (i := 121) (oi := ⟨_, _, _, _, _, _⟩) (v := ?_) rfl (by as_aux_lemma => kernel_rfl) (by as_aux_lemma => kernel_rfl) (by as_aux_lemma => kernel_rfl) (fun _ _ _ h => h) (Or.inl ⟨by rfl, ?_⟩) (by assumption) ?_
                                  rotate_left
                                  · (intro w hSw; (try dsimp only at hSw); first | (go_simp; done) | (go_simp; with_reducible rfl))
                                  try simp only [Act.put, List.setIfInBounds_toArray, List.set_cons_zero, List.set_cons_succ]
                                  refine wpAnyH_take (i := 122) (oi := ⟨_, _, _, _, _, _⟩) (v := ?_) rfl (by as_aux_lemma => kernel_rfl) (by as_aux_lemma => kernel_rfl) (by as_aux_lemma => kernel_rfl) (fun _ _ _ h => h) (Or.inl ⟨by rfl, ?_⟩) (by assumption) ?_
                                  rotate_left
                                  · (intro w hSw; (try dsimp only at hSw); first | (go_simp; done) | (go_simp; with_reducible rfl))
                                  try simp only [Act.put, List.setIfInBounds_toArray, List.set_cons_zero, List.set_cons_succ]
                                  refine wpAnyH_take (i := 123) (oi := ⟨_, _, _, _, _, _⟩) (v := ?_) rfl (by as_aux_lemma => kernel_rfl) (by as_aux_lemma => kernel_rfl) (by as_aux_lemma => kernel_rfl) (fun _ _ _ h => h) (Or.inl ⟨by rfl, ?_⟩) (by assumption) ?_
                                  rotate_left
                                  · (intro w hSw; (try dsimp only at hSw); first | (go_simp; done) | (go_simp; with_reducible rfl))
                                  try simp only [Act.put, List.setIfInBounds_toArray, List.set_cons_zero, List.set_cons_succ]
                                  refine wpAnyH_take (i := 124) (oi := ⟨_, _, _, _, _, _⟩) (v := ?_) rfl (by as_aux_lemma => kernel_rfl) (by as_aux_lemma => kernel_rfl) (by as_aux_lemma => kernel_rfl) (fun _ _ _ h => h) (Or.inl ⟨by rfl, ?_⟩) (by assumption) ?_
                                  rotate_left
                                  · (intro w hSw; (try dsimp only at hSw); first | (go_simp; done) | (go_simp; with_reducible rfl))
                                  try simp only [Act.put, List.setIfInBounds_toArray, List.set_cons_zero, List.set_cons_succ]
                                  refine wpAnyH_take (i := 125) (oi := ⟨_, _, _, _, _, _⟩) (v := ?_) rfl (by as_aux_lemma => kernel_rfl) (by as_aux_lemma => kernel_rfl) (by as_aux_lemma => kernel_rfl) (fun _ _ _ h => h) (Or.inl ⟨by rfl, ?_⟩) (by assumption) ?_
                                  rotate_left
                                  · (intro w hSw; (try dsimp only at hSw); first | (go_simp; done) | (go_simp; with_reducible rfl))
                                  try simp only [Act.put, List.setIfInBounds_toArray, List.set_cons_zero, List.set_cons_succ]
                                  refine wpAnyH_done (by kernel_rfl) ?_ _
                                  have HBZ : Hid (Below w.heap.size w x27) := HEq.out.trans (D27.mono HEq.out.size)
                                  clear D27
                                  go_wp2
                                  go_ret
                                  exact ⟨rfl, HBZ.out⟩
                          | true =>
                            as_aux_lemma =>
                              have q1 : d = a := QC.out rfl
                              have q2 : ((d : Int) == (a : Int)) = true := by rw [q1]; simp
                              have q3 : (d == a) = true := by rw [q1]; simp
                              clear q1 QC
                              refine wpAnyH_take (i := 91) (oi := ⟨_, _, _, _, _, _⟩) (v := ?_) rfl (by as_aux_lemma => kernel_rfl) (by as_aux_lemma => kernel_rfl) (by as_aux_lemma => kernel_rfl) (fun _ _ _ h => h) (Or.inl ⟨by rfl, ?_⟩) (by assumption) ?_
                              rotate_left
                              · (intro w hSw; (try dsimp only at hSw); first | (go_simp; done) | (go_simp; with_reducible rfl))
                              try simp only [Act.put, List.setIfInBounds_toArray, List.set_cons_zero, List.set_cons_succ]
                              refine wpAnyH_take (i := 92) (oi := ⟨_, _, _, _, _, _⟩) (v := ?_) rfl (by as_aux_lemma => kernel_rfl) (by as_aux_lemma => kernel_rfl) (by as_aux_lemma => kernel_rfl) (fun _ _ _ h => h) (Or.inl ⟨by rfl, ?_⟩) (by assumption) ?_
                              rotate_left
                              · (intro w hSw; (try dsimp only at hSw); first | (go_simp; done) | (go_simp; with_reducible rfl))
                              try simp only [Act.put, List.setIfInBounds_toArray, List.set_cons_zero, List.set_cons_succ]
                              refine wpAnyH_take (i := 93) (oi := ⟨_, _, _, _, _, _⟩) (v := ?_) rfl (by as_aux_lemma => kernel_rfl) (by as_aux_lemma => kernel_rfl) (by as_aux_lemma => kernel_rfl) (fun _ _ _ h => h) (Or.inl ⟨by rfl, ?_⟩) (by assumption) ?_
                              rotate_left
                              · (intro w hSw; (try dsimp only at hSw); first | (go_simp; done) | (go_simp; with_reducible rfl))
                              try simp only [Act.put, List.setIfInBounds_toArray, List.set_cons_zero, List.set_cons_succ]
                              refine wpAnyH_take (i := 94) (oi := ⟨_, _, _, _, _, _⟩) (v := ?_) rfl (by as_aux_lemma => kernel_rfl) (by as_aux_lemma => kernel_rfl) (by as_aux_lemma => kernel_rfl) (fun _ _ _ h => h) (Or.inl ⟨by rfl, ?_⟩) (by assumption) ?_
                              rotate_left
                              · (intro w hSw; (try dsimp only at hSw); first | (go_simp; done) | (go_simp; with_reducible rfl))
                              try simp only [Act.put, List.setIfInBounds_toArray, List.set_cons_zero, List.set_cons_succ]
                              refine wpAnyH_take (i := 95) (oi := ⟨_, _, _, _, _, _⟩) (v := ?_) rfl (by as_aux_lemma => kernel_rfl) (by as_aux_lemma => kernel_rfl) (by as_aux_lemma => kernel_rfl) (fun _ _ _ h => h) (Or.inl ⟨by rfl, ?_⟩) (by assumption) ?_
                              rotate_left
                              · (intro w hSw; (try dsimp only at hSw); first | (go_simp; done) | (go_simp; with_reducible rfl))
                              try simp only [Act.put, List.setIfInBounds_toArray, List.set_cons_zero, List.set_cons_succ]
                              refine wpAnyH_take (i := 96) (oi := ⟨_, _, _, _, _, _⟩) (v := ?_) rfl (by as_aux_lemma => kernel_rfl) (by as_aux_lemma => kernel_rfl) (by as_aux_lemma => kernel_rfl) (fun _ _ _ h => h) (Or.inl ⟨by rfl, ?_⟩) (by assumption) ?_
                              rotate_left
                              · (intro w hSw; (try dsimp only at hSw); first | (go_simp; done) | (go_simp; with_reducible rfl))
                              try simp only [Act.put, List.setIfInBounds_toArray, List.set_cons_zero, List.set_cons_succ]
                              refine wpAnyH_take (i := 97) (oi := ⟨_, _, _, _, _, _⟩) (v := ?_) rfl (by as_aux_lemma => kernel_rfl) (by as_aux_lemma => kernel_rfl) (by as_aux_lemma => kernel_rfl) (fun _ _ _ h => h) (Or.inl ⟨by rfl, ?_⟩) (by assumption) ?_
                              rotate_left
                              · (intro w hSw; (try dsimp only at hSw); first | (go_simp; done) | (go_simp; with_reducible rfl))
                              try simp only [Act.put, List.setIfInBounds_toArray, List.set_cons_zero, List.set_cons_succ]
                              refine wpAnyH_take (i := 98) (oi := ⟨_, _, _, _, _, _⟩) (v := ?_) rfl (by as_aux_lemma => kernel_rfl) (by as_aux_lemma => kernel_rfl) (by as_aux_lemma => kernel_rfl) (fun _ _ _ h => h) (Or.inl ⟨by rfl, ?_⟩) (by assumption) ?_
                              rotate_left
                              · (intro w hSw; (try dsimp only at hSw); first | (go_simp; done) | (go_simp; with_reducible rfl))
                              try simp only [Act.put, List.setIfInBounds_toArray, List.set_cons_zero, List.set_cons_succ]
                              refine wpAnyH_take (i := 99) (oi := ⟨_, _, _, _, _, _⟩) (v := ?_) rfl (by as_aux_lemma => kernel_rfl) (by as_aux_lemma => kernel_rfl) (by as_aux_lemma => kernel_rfl) (fun _ _ _ h => h) (Or.inl ⟨by rfl, ?_⟩) (by assumption) ?_
                              rotate_left
                              · (intro w hSw; (try dsimp only at hSw); first | (go_simp; done) | (go_simp; with_reducible rfl))
                              try simp only [Act.put, List.setIfInBounds_toArray, List.set_cons_zero, List.set_cons_succ]
                              refine wpAnyH_take (i := 100) (oi := ⟨_, _, _, _, _, _⟩) (v := undef) rfl (by as_aux_lemma => kernel_rfl) (by as_aux_lemma => kernel_rfl) (by as_aux_lemma => kernel_rfl) (fun _ _ _ h => h) (Or.inr ⟨by rfl, rfl⟩) (by assumption) ?_
                              try simp only [Act.put, List.setIfInBounds_toArray, List.set_cons_zero, List.set_cons_succ]
                              refine wpAnyH_take (i := 101) (oi := ⟨_, _, _, _, _, _⟩) (v := undef) rfl (by as_aux_lemma => kernel_rfl) (by as_aux_lemma => kernel_rfl) (by as_aux_lemma => kernel_rfl) (fun _ _ _ h => h) (Or.inr ⟨by rfl, rfl⟩) (by assumption) ?_
                              try simp only [Act.put, List.setIfInBounds_toArray, List.set_cons_zero, List.set_cons_succ]
                              refine wpAnyH_take (i := 102) (oi := ⟨_, _, _, _, _, _⟩) (v := undef) rfl (by as_aux_lemma => kernel_rfl) (by as_aux_lemma => kernel_rfl) (by as_aux_lemma => kernel_rfl) (fun _ _ _ h => h) (Or.inr ⟨by rfl, rfl⟩) (by assumption) ?_
                              try simp only [Act.put, List.setIfInBounds_toArray, List.set_cons_zero, List.set_cons_succ]
                              refine wpAnyH_take (i := 103) (oi := ⟨_, _, _, _, _, _⟩) (v := ?_) rfl (by as_aux_lemma => kernel_rfl) (by as_aux_lemma => kernel_rfl) (by as_aux_lemma => kernel_rfl) (fun _ _ _ h => h) (Or.inl ⟨by rfl, ?_⟩) (by assumption) ?_
                              rotate_left
                              · (intro w hSw; (try dsimp only at hSw); first | (go_simp; done) | (go_simp; with_reducible rfl))
                              try simp only [Act.put, List.setIfInBounds_toArray, List.set_cons_zero, List.set_cons_succ]
                              refine wpAnyH_take (i := 104) (oi := ⟨_, _, _, _, _, _⟩) (v := ?_) rfl (by as_aux_lemma => kernel_rfl) (by as_aux_lemma => kernel_rfl) (by as_aux_lemma => kernel_rfl) (fun _ _ _ h => h) (Or.inl ⟨by rfl, ?_⟩) (by assumption) ?_
                              rotate_left
                              · (intro w hSw; (try dsimp only at hSw); first | (go_simp; done) | (go_simp; with_reducible rfl))
                              try simp only [Act.put, List.setIfInBounds_toArray, List.set_cons_zero, List.set_cons_succ]
                              refine wpAnyH_take (i := 105) (oi := ⟨_, _, _, _, _, _⟩) (v := ?_) rfl (by as_aux_lemma => kernel_rfl) (by as_aux_lemma => kernel_rfl) (by as_aux_lemma => kernel_rfl) (fun _ _ _ h => h) (Or.inl ⟨by rfl, ?_⟩) (by assumption) ?_
                              rotate_left
                              · (intro w hSw; (try dsimp only at hSw); first | (go_simp; done) | (go_simp; with_reducible rfl))
                              try simp only [Act.put, List.setIfInBounds_toArray, List.set_cons_zero, List.set_cons_succ]
                              refine wpAnyH_take (i := 106) (oi := ⟨_, _, _, _, _, _⟩) (v := ?_) rfl (by as_aux_lemma => kernel_rfl) (by as_aux_lemma => kernel_rfl) (by as_aux_lemma => kernel_rfl) (fun _ _ _ h => h) (Or.inl ⟨by rfl, ?_⟩) (by assumption) ?_
                              rotate_left
                              · (intro w hSw; (try dsimp only at hSw); first | (go_simp; done) | (go_simp; with_reducible rfl))
                              try simp only [Act.put, List.setIfInBounds_toArray, List.set_cons_zero, List.set_cons_succ]
                              refine wpAnyH_take (i := 107) (oi := ⟨_, _, _, _, _, _⟩) (v := ?_) rfl (by as_aux_lemma => kernel_rfl) (by as_aux_lemma => kernel_rfl) (by as_aux_lemma => kernel_rfl) (fun _ _ _ h => h) (Or.inl ⟨by rfl, ?_⟩) (by assumption) ?_
                              rotate_left
                              · (intro w hSw; (try dsimp only at hSw); first | (go_simp; done) | (go_simp; with_reducible rfl))
                              try simp only [Act.put, List.setIfInBounds_toArray, List.set_cons_zero, List.set_cons_succ]
                              refine wpAnyH_ready (rs := [108]) (by as_aux_lemma => kernel_rfl) (by simp) ?_
                              refine AllReadyH.cons (o := ⟨_, _, _, _, _, _⟩) rfl (fun K hK => ?_) AllReadyH.nil
                              go_simp
                              refine (CHtiw.out _ _ _ (Sti.out.below D26 (Nat.le_refl _))).mono ?_
                              rintro r x27 ⟨rfl, hb27⟩
                              have D27 : Below W7.heap.size W7 x27 := D26.trans (hb27.mono D26.size)
                              clear D26 hb27 CHtiw
                              go_wp2_with fail
                              refine hK.out _ _ ?_ (fun hNew => ?_)
                              · exact SQ.out _ D27
                              clear hK K
                              replace hHeld := hNew
                              clear hNew
                              try simp only [Act.put, List.setIfInBounds_toArray, List.set_cons_zero, List.set_cons_succ]
                              cases Bt with
                              | false =>
                                as_aux_lemma =>
                                  clear QT
                                  refine wpAnyH_take (i := 109) (oi := ⟨_, _, _, _, _, _⟩) (v := ?_) rfl (by as_aux_lemma => kernel_rfl) (by as_aux_lemma => kernel_rfl) (by as_aux_lemma => kernel_rfl) (fun _ _ _ h => h) (Or.inl ⟨by rfl, ?_⟩) (by assumption) ?_
                                  rotate_left
                                  · (intro w hSw; (try dsimp only at hSw); first | (go_simp; done) | (go_simp; with_reducible rfl))
                                  try simp only [Act.put, List.setIfInBounds_toArray, List.set_cons_zero, List.set_cons_succ]
                                  refine wpAnyH_take (i := 110) (oi := ⟨_, _, _, _, _, _⟩) (v := ?_) rfl (by as_aux_lemma => kernel_rfl) (by as_aux_lemma => kernel_rfl) (by as_aux_lemma => kernel_rfl) (fun _ _ _ h => h) (Or.inl ⟨by rfl, ?_⟩) (by assumption) ?_
                                  rotate_left
                                  · (intro w hSw; (try dsimp only at hSw); first | (go_simp; done) | (go_simp; with_reducible rfl))
                                  try simp only [Act.put, List.setIfInBounds_toArray, List.set_cons_zero, List.set_cons_succ]
                                  refine wpAnyH_take (i := 111) (oi := ⟨_, _, _, _, _, _⟩) (v := undef) rfl (by as_aux_lemma => kernel_rfl) (by as_aux_lemma => kernel_rfl) (by as_aux_lemma => kernel_rfl) (fun _ _ _ h => h) (Or.inr ⟨by rfl, rfl⟩) (by assumption) ?_
                                  try simp only [Act.put, List.setIfInBounds_toArray, List.set_cons_zero, List.set_cons_succ]
                                  refine wpAnyH_take (i := 112) (oi := ⟨_, _, _, _, _, _⟩) (v := undef) rfl (by as_aux_lemma => kernel_rfl) (by as_aux_lemma => kernel_rfl) (by as_aux_lemma => kernel_rfl) (fun _ _ _ h => h) (Or.inr ⟨by rfl, rfl⟩) (by assumption) ?_
                                  try simp only [Act.put, List.setIfInBounds_toArray, List.set_cons_zero, List.set_cons_succ]
                                  refine wpAnyH_take (i := 113) (oi := ⟨_, _, _, _, _, _⟩) (v := undef) rfl (by as_aux_lemma => kernel_rfl) (by as_aux_lemma => kernel_rfl) (by as_aux_lemma => kernel_rfl) (fun _ _ _ h => h) (Or.inr ⟨by rfl, rfl⟩) (by assumption) ?_
                                  try simp only [Act.put, List.setIfInBounds_toArray, List.set_cons_zero, List.set_cons_succ]
                                  refine wpAnyH_take (i := 114) (oi := ⟨_, _, _, _, _, _⟩) (v := undef) rfl (by as_aux_lemma => kernel_rfl) (by as_aux_lemma => kernel_rfl) (by as_aux_lemma => kernel_rfl) (fun _ _ _ h => h) (Or.inr ⟨by rfl, rfl⟩) (by assumption) ?_
                                  try simp only [Act.put, List.setIfInBounds_toArray, List.set_cons_zero, List.set_cons_succ]
                                  refine wpAnyH_take (i := 115) (oi := ⟨_, _, _, _, _, _⟩) (v := undef) rfl (by as_aux_lemma => kernel_rfl) (by as_aux_lemma => kernel_rfl) (by as_aux_lemma => kernel_rfl) (fun _ _ _ h => h) (Or.inr ⟨by rfl, rfl⟩) (by assumption) ?_
                                  try simp only [Act.put, List.setIfInBounds_toArray, List.set_cons_zero, List.set_cons_succ]
                                  refine wpAnyH_take (i := 116) (oi := ⟨_, _, _, _, _, _⟩) (v := undef) rfl (by as_aux_lemma => kernel_rfl) (by as_aux_lemma => kernel_rfl) (by as_aux_lemma => kernel_rfl) (fun _ _ _ h => h) (Or.inr ⟨by rfl, rfl⟩) (by assumption) ?_
                                  try simp only [Act.put, List.setIfInBounds_toArray, List.set_cons_zero, List.set_cons_succ]
                                  refine wpAnyH_take (i := 117) (oi := ⟨_, _, _, _, _, _⟩) (v := undef) rfl (by as_aux_lemma => kernel_rfl) (by as_aux_lemma => kernel_rfl) (by as_aux_lemma => kernel_rfl) (fun _ _ _ h => h) (Or.inr ⟨by rfl, rfl⟩) (by assumption) ?_
                                  try simp only [Act.put, List.setIfInBounds_toArray, List.set_cons_zero, List.set_cons_succ]
                                  refine wpAnyH_take (i := 118) (oi := ⟨_, _, _, _, _, _⟩) (v := undef) rfl (by as_aux_lemma => kernel_rfl) (by as_aux_lemma => kernel_rfl) (by as_aux_lemma => kernel_rfl) (fun _ _ _ h => h) (Or.inr ⟨by rfl, rfl⟩) (by assumption) ?_
                                  try simp only [Act.put, List.setIfInBounds_toArray, List.set_cons_zero, List.set_cons_succ]
                                  refine wpAnyH_take (i := 119) (oi := ⟨_, _, _, _, _, _⟩) (v := undef) rfl (by as_aux_lemma => kernel_rfl) (by as_aux_lemma => kernel_rfl) (by as_aux_lemma => kernel_rfl) (fun _ _ _ h => h) (Or.inr ⟨by rfl, rfl⟩) (by assumption) ?_
                                  try simp only [Act.put, List.setIfInBounds_toArray, List.set_cons_zero, List.set_cons_succ]
                                  refine wpAnyH_take (i := 120) (oi := ⟨_, _, _, _, _, _⟩) (v := undef) rfl (by as_aux_lemma => kernel_rfl) (by as_aux_lemma => kernel_rfl) (by as_aux_lemma => kernel_rfl) (fun _ _ _ h => h) (Or.inr ⟨by rfl, rfl⟩) (by assumption) ?_
                                  try simp only [Act.put, List.setIfInBounds_toArray, List.set_cons_zero, List.set_cons_succ]
                                  refine wpAnyH_take (i := 121) (oi := ⟨_, _, _, _, _, _⟩) (v := undef) rfl (by as_aux_lemma => kernel_rfl) (by as_aux_lemma => kernel_rfl) (by as_aux_lemma => kernel_rfl) (fun _ _ _ h => h) (Or.inr ⟨by rfl, rfl⟩) (by assumption) ?_
                                  try simp only [Act.put, List.setIfInBounds_toArray, List.set_cons_zero, List.set_cons_succ]
                                  refine wpAnyH_take (i := 122) (oi := ⟨_, _, _, _, _, _⟩) (v := undef) rfl (by as_aux_lemma => kernel_rfl) (by as_aux_lemma => kernel_rfl) (by as_aux_lemma => kernel_rfl) (fun _ _ _ h => h) (Or.inr ⟨by rfl, rfl⟩) (by assumption) ?_
                                  try simp only [Act.put, List.setIfInBounds_toArray, List.set_cons_zero, List.set_cons_succ]
                                  refine wpAnyH_take (i := 123) (oi := ⟨_, _, _, _, _, _⟩) (v := ?_) rfl (by as_aux_lemma => kernel_rfl) (by as_aux_lemma => kernel_rfl) (by as_aux_lemma => kernel_rfl) (fun _ _ _ h => h) (Or.inl ⟨by rfl, ?_⟩) (by assumption) ?_
                                  rotate_left
                                  · (intro w hSw; (try dsimp only at hSw); first | (go_simp; done) | (go_simp; with_reducible rfl))
                                  try simp only [Act.put, List.setIfInBounds_toArray, List.set_cons_zero, List.set_cons_succ]
                                  refine wpAnyH_take (i := 124) (oi := ⟨_, _, _, _, _, _⟩) (v := ?_) rfl (by as_aux_lemma => kernel_rfl) (by as_aux_lemma => kernel_rfl) (by as_aux_lemma => kernel_rfl) (fun _ _ _ h => h) (Or.inl ⟨by rfl, ?_⟩) (by assumption) ?_
                                  rotate_left
                                  · (intro w hSw; (try dsimp only at hSw); first | (go_simp; done) | (go_simp; with_reducible rfl))
                                  try simp only [Act.put, List.setIfInBounds_toArray, List.set_cons_zero, List.set_cons_succ]
                                  refine wpAnyH_take (i := 125) (oi := ⟨_, _, _, _, _, _⟩) (v := ?_) rfl (by as_aux_lemma => kernel_rfl) (by as_aux_lemma => kernel_rfl) (by as_aux_lemma => kernel_rfl) (fun _ _ _ h => h) (Or.inl ⟨by rfl, ?_⟩) (by assumption) ?_
                                  rotate_left
                                  · (intro w hSw; (try dsimp only at hSw); first | (go_simp; done) | (go_simp; with_reducible rfl))
                                  try simp only [Act.put, List.setIfInBounds_toArray, List.set_cons_zero, List.set_cons_succ]
                                  refine wpAnyH_done (by kernel_rfl) ?_ _
                                  have HBZ : Hid (Below w.heap.size w x27) := HEq.out.trans (D27.mono HEq.out.size)
                                  clear D27
                                  go_wp2
                                  go_ret
                                  exact ⟨rfl, HBZ.out⟩
                              | true =>
                                as_aux_lemma =>
                                  have q4 := QT.out rfl
                                  have q5 : ((e : Int) == (b : Int)) = true := by rw [q4.1]; simp
                                  have q6 : (e == b) = true := by rw [q4.1]; simp
                                  have q7 : ((d : Int) == (a : Int)) = true := by rw [q4.2]; simp
                                  have q8 : (d == a) = true := by rw [q4.2]; simp
                                  clear q4 QT
                                  refine wpAnyH_take (i := 109) (oi := ⟨_, _, _, _, _, _⟩) (v := ?_) rfl (by as_aux_lemma => kernel_rfl) (by as_aux_lemma => kernel_rfl) (by as_aux_lemma => kernel_rfl) (fun _ _ _ h => h) (Or.inl ⟨by rfl, ?_⟩) (by assumption) ?_
                                  rotate_left
                                  · (intro w hSw; (try dsimp only at hSw); first | (go_simp; done) | (go_simp; with_reducible rfl))
                                  try simp only [Act.put, List.setIfInBounds_toArray, List.set_cons_zero, List.set_cons_succ]
                                  refine wpAnyH_take (i := 110) (oi := ⟨_, _, _, _, _, _⟩) (v := ?_) rfl (by as_aux_lemma => kernel_rfl) (by as_aux_lemma => kernel_rfl) (by as_aux_lemma => kernel_rfl) (fun _ _ _ h => h) (Or.inl ⟨by rfl, ?_⟩) (by assumption) ?_
                                  rotate_left
                                  · (intro w hSw; (try dsimp only at hSw); first | (go_simp; done) | (go_simp; with_reducible rfl))
                                  try simp only [Act.put, List.setIfInBounds_toArray, List.set_cons_zero, List.set_cons_succ]
                                  refine wpAnyH_take (i := 111) (oi := ⟨_, _, _, _, _, _⟩) (v := ?_) rfl (by as_aux_lemma => kernel_rfl) (by as_aux_lemma => kernel_rfl) (by as_aux_lemma => kernel_rfl) (fun _ _ _ h => h) (Or.inl ⟨by rfl, ?_⟩) (by assumption) ?_
                                  rotate_left
                                  · (intro w hSw; (try dsimp only at hSw); first | (go_simp; done) | (go_simp; with_reducible rfl))
                                  try simp only [Act.put, List.setIfInBounds_toArray, List.set_cons_zero, List.set_cons_succ]
                                  refine wpAnyH_take (i := 112) (oi := ⟨_, _, _, _, _, _⟩) (v := ?_) rfl (by as_aux_lemma => kernel_rfl) (by as_aux_lemma => kernel_rfl) (by as_aux_lemma => kernel_rfl) (fun _ _ _ h => h) (Or.inl ⟨by rfl, ?_⟩) (by assumption) ?_
                                  rotate_left
                                  · (intro w hSw; (try dsimp only at hSw); first | (go_simp; done) | (go_simp; with_reducible rfl))
                                  try simp only [Act.put, List.setIfInBounds_toArray, List.set_cons_zero, List.set_cons_succ]
                                  refine wpAnyH_take (i := 113) (oi := ⟨_, _, _, _, _, _⟩) (v := ?_) rfl (by as_aux_lemma => kernel_rfl) (by as_aux_lemma => kernel_rfl) (by as_aux_lemma => kernel_rfl) (fun _ _ _ h => h) (Or.inl ⟨by rfl, ?_⟩) (by assumption) ?_
                                  rotate_left
                                  · (intro w hSw; (try dsimp only at hSw); first | (go_simp; done) | (go_simp; with_reducible rfl))
                                  try simp only [Act.put, List.setIfInBounds_toArray, List.set_cons_zero, List.set_cons_succ]
                                  refine wpAnyH_take (i := 114) (oi := ⟨_, _, _, _, _, _⟩) (v := ?_) rfl (by as_aux_lemma => kernel_rfl) (by as_aux_lemma => kernel_rfl) (by as_aux_lemma => kernel_rfl) (fun _ _ _ h => h) (Or.inl ⟨by rfl, ?_⟩) (by assumption) ?_
                                  rotate_left
                                  · (intro w hSw; (try dsimp only at hSw); first | (go_simp; done) | (go_simp; with_reducible rfl))
                                  try simp only [Act.put, List.setIfInBounds_toArray, List.set_cons_zero, List.set_cons_succ]
                                  refine wpAnyH_take (i := 115) (oi := ⟨_, _, _, _, _, _⟩) (v := ?_) rfl (by as_aux_lemma => kernel_rfl) (by as_aux_lemma => kernel_rfl) (by as_aux_lemma => kernel_rfl) (fun _ _ _ h => h) (Or.inl ⟨by rfl, ?_⟩) (by assumption) ?_
                                  rotate_left
                                  · (intro w hSw; (try dsimp only at hSw); first | (go_simp; done) | (go_simp; with_reducible rfl))
                                  try simp only [Act.put, List.setIfInBounds_toArray, List.set_cons_zero, List.set_cons_succ]
                                  refine wpAnyH_take (i := 116) (oi := ⟨_, _, _, _, _, _⟩) (v := ?_) rfl (by as_aux_lemma => kernel_rfl) (by as_aux_lemma => kernel_rfl) (by as_aux_lemma => kernel_rfl) (fun _ _ _ h => h) (Or.inl ⟨by rfl, ?_⟩) (by assumption) ?_
                                  rotate_left
                                  · (intro w hSw; (try dsimp only at hSw); first | (go_simp; done) | (go_simp; with_reducible rfl))
                                  try simp only [Act.put, List.setIfInBounds_toArray, List.set_cons_zero, List.set_cons_succ]
                                  refine wpAnyH_take (i := 117) (oi := ⟨_, _, _, _, _, _⟩) (v := ?_) rfl (by as_aux_lemma => kernel_rfl) (by as_aux_lemma => kernel_rfl) (by as_aux_lemma => kernel_rfl) (fun _ _ _ h => h) (Or.inl ⟨by rfl, ?_⟩) (by assumption) ?_
                                  rotate_left
                                  · (intro w hSw; (try dsimp only at hSw); first | (go_simp; done) | (go_simp; with_reducible rfl))
                                  try simp only [Act.put, List.setIfInBounds_toArray, List.set_cons_zero, List.set_cons_succ]
                                  refine wpAnyH_take (i := 118) (oi := ⟨_, _, _, _, _, _⟩) (v := ?_) rfl (by as_aux_lemma => kernel_rfl) (by as_aux_lemma => kernel_rfl) (by as_aux_lemma => kernel_rfl) (fun _ _ _ h => h) (Or.inl ⟨by rfl, ?_⟩) (by assumption) ?_
                                  rotate_left
                                  · (intro w hSw; (try dsimp only at hSw); first | (go_simp; done) | (go_simp; with_reducible rfl))
                                  try simp only [Act.put, List.setIfInBounds_toArray, List.set_cons_zero, List.set_cons_succ]
                                  refine wpAnyH_take (i := 119) (oi := ⟨_, _, _, _, _, _⟩) (v := ?_) rfl (by as_aux_lemma => kernel_rfl) (by as_aux_lemma => kernel_rfl) (by as_aux_lemma => kernel_rfl) (fun _ _ _ h => h) (Or.inl ⟨by rfl, ?_⟩) (by assumption) ?_
                                  rotate_left
                                  · (intro w hSw; (try dsimp only at hSw); first | (go_simp; done) | (go_simp; with_reducible rfl))
                                  try simp only [Act.put, List.setIfInBounds_toArray, List.set_cons_zero, List.set_cons_succ]
                                  refine wpAnyH_take (i := 120) (oi := ⟨_, _, _, _, _, _⟩) (v := ?_) rfl (by as_aux_lemma => kernel_rfl) (by as_aux_lemma => kernel_rfl) (by as_aux_lemma => kernel_rfl) (fun _ _ _ h => h) (Or.inl ⟨by rfl, ?_⟩) (by assumption) ?_
                                  rotate_left
                                  · (intro w hSw; (try dsimp only at hSw); first | (go_simp; done) | (go_simp; with_reducible rfl))
                                  try simp only [Act.put, List.setIfInBounds_toArray, List.set_cons_zero, List.set_cons_succ]
                                  refine wpAnyH_take (i := 121) (oi := ⟨_, _, _, _, _, _⟩) (v := ?_) rfl (by as_aux_lemma => kernel_rfl) (by as_aux_lemma => kernel_rfl) (by as_aux_lemma => kernel_rfl) (fun _ _ _ h => h) (Or.inl ⟨by rfl, ?_⟩) (by assumption) ?_
                                  rotate_left
                                  · (intro w hSw; (try dsimp only at hSw); first | (go_simp; done) | (go_simp; with_reducible rfl))
                                  try simp only [Act.put, List.setIfInBounds_toArray, List.set_cons_zero, List.set_cons_succ]
                                  refine wpAnyH_take (i := 122) (oi := ⟨_, _, _, _, _, _⟩) (v := ?_) rfl (by as_aux_lemma => kernel_rfl) (by as_aux_lemma => kernel_rfl) (by as_aux_lemma => kernel_rfl) (fun _ _ _ h => h) (Or.inl ⟨by rfl, ?_⟩) (by assumption) ?_
                                  rotate_left
                                  · (intro w hSw; (try dsimp only at hSw); first | (go_simp; done) | (go_simp; with_reducible rfl))
                                  try simp only [Act.put, List.setIfInBounds_toArray, List.set_cons_zero, List.set_cons_succ]
                                  refine wpAnyH_take (i := 123) (oi := ⟨_, _, _, _, _, _⟩) (v := ?_) rfl (by as_aux_lemma => kernel_rfl) (by as_aux_lemma => kernel_rfl) (by as_aux_lemma => kernel_rfl) (fun _ _ _ h => h) (Or.inl ⟨by rfl, ?_⟩) (by assumption) ?_
                                  rotate_left
                                  · (intro w hSw; (try dsimp only at hSw); first | (go_simp; done) | (go_simp; with_reducible rfl))
                                  try simp only [Act.put, List.setIfInBounds_toArray, List.set_cons_zero, List.set_cons_succ]
                                  refine wpAnyH_take (i := 124) (oi := ⟨_, _, _, _, _, _⟩) (v := ?_) rfl (by as_aux_lemma => kernel_rfl) (by as_aux_lemma => kernel_rfl) (by as_aux_lemma => kernel_rfl) (fun _ _ _ h => h) (Or.inl ⟨by rfl, ?_⟩) (by assumption) ?_
                                  rotate_left
                                  · (intro w hSw; (try dsimp only at hSw); first | (go_simp; done) | (go_simp; with_reducible rfl))
                                  try simp only [Act.put, List.setIfInBounds_toArray, List.set_cons_zero, List.set_cons_succ]
                                  refine wpAnyH_take (i := 125) (oi := ⟨_, _, _, _, _, _⟩) (v := ?_) rfl (by as_aux_lemma => kernel_rfl) (by as_aux_lemma => kernel_rfl) (by as_aux_lemma => kernel_rfl) (fun _ _ _ h => h) (Or.inl ⟨by rfl, ?_⟩) (by assumption) ?_
                                  rotate_left
                                  · (intro w hSw; (try dsimp only at hSw); first | (go_simp; done) | (go_simp; with_reducible rfl))
                                  try simp only [Act.put, List.setIfInBounds_toArray, List.set_cons_zero, List.set_cons_succ]
                                  refine wpAnyH_done (by kernel_rfl) ?_ _
                                  have HBZ : Hid (Below w.heap.size w x27) := HEq.out.trans (D27.mono HEq.out.size)
                                  clear D27
                                  go_wp2
                                  go_ret
                                  exact ⟨rfl, HBZ.out⟩
end Go.Proofs.YtbohpflbifoohaaGreatDoor
