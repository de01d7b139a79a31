/- parseWord. -/
import Derived.Test.YtpmpnbbihmgdpaaGreatDoorSvNum
set_option maxHeartbeats 2000000
set_option maxRecDepth 1000000
namespace Go.Proofs.YtpmpnbbihmgdpaaGreatDoor
section
open Go.RowKit Go.Shelf Sv
def numN (a b c : Nat) : Nat := (a * 1000 + b) * 1000 + c
def careN (a b c : Nat) : Nat := if a ≠ 0 then numN (a + 1) 0 0 else if b ≠ 0 then numN a (b + 1) 0 else numN a b (c + 1)
def signF (g : List UInt8) (a b c : Nat) : Except Int (List Span) :=
 if g = [] \/ g = [61] then .ok (rowF (numN a b c) (numN a b c + 1))
 else if g = [33] then .ok (nt (rowF (numN a b c) (numN a b c + 1)))
 else if g = [60] then .ok (rowF 0 (numN a b c))
 else if g = [60, 61] then .ok (rowF 0 (numN a b c + 1))
 else if g = [62] then .ok (rowF (numN a b c + 1) ALL)
 else if g = [62, 61] then .ok (rowF (numN a b c) ALL)
 else if g = [94] then .ok (rowF (numN a b c) (careN a b c))
 else if g = [126] then .ok (rowF (numN a b c) (numN a (b + 1) 0))
 else .error 3
theorem numN_lt {a b c : Nat} (ha : a <= 999) (hb : b <= 999) (hc : c <= 999) : numN a b c < ALL := by unfold numN ALL; omega
theorem careN_le {a b c : Nat} (ha : a <= 999) (hb : b <= 999) (hc : c <= 999) : careN a b c <= ALL := by
 unfold careN numN ALL
 split
 ·omega
 ·split <;> omega
theorem signF_rg {g : List UInt8} {a b c : Nat} (ha : a <= 999) (hb : b <= 999) (hc : c <= 999) {l : List Span} (h : signF g a b c = .ok l) : Rg l := by
 have h1 := numN_lt ha hb hc
 have h2 := careN_le ha hb hc
 have h3 : numN a (b + 1) 0 <= ALL := by unfold numN ALL; omega
 unfold signF at h
 repeat' split at h
 all_goals first
  | (cases h; exact rg_row (by omega))
  | (cases h; exact rg_row (Nat.le_refl _))
  | (cases h; exact rg_nt (rg_row (by omega)))
  | cases h
def RgErr (w : World) (x : Except Int (List Span)) (e : Ending) (w' : World) : Prop :=
 match x with
 | .ok l => ∃ v', e = .returned (.tuple #[.agg #[v'], .nilIface]) /\ SpAt w' v' l /\ (∀ g, v'.ownBlock = some g -> w.heap.size <= g) /\ Below w.heap.size w w'
 | .error k => e = .returned (.tuple #[.agg #[.slice none 0 0], .iface 34 (.int .i64 k)]) /\ Below w.heap.size w w'
theorem sign_box (w : World) (A B C : Value) : ∃ W0 : World, ((w.alloc (.cells #[A, B, C] 23)).alloc (.cells #[.slice none 0 0] 96)) = W0 /\ Blk W0 w.heap.size 23 #[A, B, C] /\ Blk W0 (w.heap.size + 1) 96 #[.slice none 0 0] /\ Below w.heap.size w W0 /\ W0.heap.size = w.heap.size + 2 := by
 have k0 := (Blk.new w 23 #[A, B, C]).alloc (.cells #[.slice none 0 0] 96)
 have k1 := Blk.new (w.alloc (.cells #[A, B, C] 23)) 96 #[.slice none 0 0]
 rw [World.size_alloc] at k1
 exact ⟨_, rfl, k0, k1, ((Below.refl _ w).alloc (Nat.le_refl _) _).alloc (by simp only [World.size_alloc]; omega) _, by simp only [World.size_alloc]⟩
theorem row_form' (x y : Nat) (W : World) : Calls Tryz.prog 198 #[.int .i64 (x : Int), .int .i64 (y : Int)] W fun e w' => ∃ a' c', e = .returned (.agg #[.slice a' (rowF x y).length c']) /\ SpAt w' (.slice a' (rowF x y).length c') (rowF x y) /\ (∀ g, (Value.slice a' (rowF x y).length c').ownBlock = some g -> W.heap.size <= g) /\ Below W.heap.size W w' :=
 (row_any x y W).mono fun e w' ⟨v', he, hs, hn, hb⟩ => by obtain ⟨a', c', rfl⟩ := hs.form; exact ⟨a', c', he, hs, hn, hb⟩
theorem not_form (l : List Span) (hl : Rg l) (v : Value) (W : World) (hv : SpAt W v l) : Calls Tryz.prog 178 #[.agg #[v]] W fun e w' => ∃ a' c', e = .returned (.agg #[.slice a' (nt l).length c']) /\ SpAt w' (.slice a' (nt l).length c') (nt l) /\ (∀ g, (Value.slice a' (nt l).length c').ownBlock = some g -> W.heap.size <= g) /\ Below W.heap.size W w' :=
 (not_any l hl v W hv).mono fun e w' ⟨v', he, hs, hn, hb⟩ => by obtain ⟨a', c', rfl⟩ := hs.form; exact ⟨a', c', he, hs, hn, hb⟩
theorem sign_none (g : ByteArray) (a b c : Nat) (ha : a <= 999) (hb : b <= 999) (hc : c <= 999) (w : World) (hg : g.toList = []) :
  Calls Tryz.prog 216 #[.string g, .agg #[.int .i64 (a : Int), .int .i64 (b : Int), .int .i64 (c : Int)]] w (RgErr w (.ok (rowF (numN a b c) (numN a b c + 1)))) := by
 have HN : Hid (∀ W, Calls Tryz.prog 150 #[.agg #[.int .i64 (a : Int), .int .i64 (b : Int), .int .i64 (c : Int)]] W fun e w' => e = .returned (.int .i64 (numN a b c : Nat)) /\ Below W.heap.size W w') := fun W => number_any a b c (by omega) (by omega) (by omega) W
 have hlt := numN_lt ha hb hc
 generalize numN a b c = n at *
 have hlt' : (n : Int) < 1000000000 := by unfold ALL at hlt; omega
 obtain ⟨W0, hW0, k0, k1, hB, hs0⟩ := sign_box w (.int .i64 (a : Int)) (.int .i64 (b : Int)) (.int .i64 (c : Int))
 have HR := Lib.hid (fun W => row_form' n (n + 1) W)
 have HW0 := Lib.hid hW0
 have HK0 := Lib.hid k0
 have HK1 := Lib.hid k1
 have HB := Lib.hid hB
 have HS := Lib.hid hs0
 have HLT := Lib.hid hlt
 clear hW0 k0 k1 hB hs0 hlt
 go_enter Tryz.func216, Tryz.ntmps216
 go_wp2_with fail
 rw [HW0.out]
 refine (HN.out _).mono ?_
 rintro e w1 ⟨rfl, hb1⟩
 have D1 := Lib.hid hb1
 clear hb1
 go_wp2_with fail
 refine (HR.out _).mono ?_
 rintro e wK ⟨a', c', rfl, hsK, hnn, hbK⟩
 have hn2 : ∀ g, (Value.slice a' (rowF n (n + 1)).length c').ownBlock = some g -> W0.heap.size <= g := fun g hg => Nat.le_trans D1.out.size (hnn g hg)
 have DK : Below W0.heap.size W0 wK := D1.out.trans (hbK.mono D1.out.size)
 have hl1 : w.heap.size + 1 < W0.heap.size := by have := HS.out; omega
 have hc4 : wK.cell? ⟨w.heap.size + 1, 0, none⟩ = some (.slice none 0 0) := (HK1.out.below DK hl1).cell 0
 have hf4 := (HK1.out.below DK hl1).frozen 0
 have HP := Lib.hid (put_out HB.out (HK1.out.cell 0) (Nat.le_succ _) hl1 hsK hn2 DK)
 clear hsK hnn hbK hn2 DK hl1
 go_wp2
 obtain ⟨h3, h4, h5, h6⟩ := HP.out
 refine bodyPost_ret (v := .tuple #[.agg #[.slice a' (rowF n (n + 1)).length c'], .nilIface]) (by simp [results, Tryz.results216, go_sem, h3]) rfl ?_
 exact ⟨_, rfl, h4, h5, h6⟩
theorem sign_eq (g : ByteArray) (a b c : Nat) (ha : a <= 999) (hb : b <= 999) (hc : c <= 999) (w : World) (hg : g.toList = [61]) :
  Calls Tryz.prog 216 #[.string g, .agg #[.int .i64 (a : Int), .int .i64 (b : Int), .int .i64 (c : Int)]] w (RgErr w (.ok (rowF (numN a b c) (numN a b c + 1)))) := by
 have HN : Hid (∀ W, Calls Tryz.prog 150 #[.agg #[.int .i64 (a : Int), .int .i64 (b : Int), .int .i64 (c : Int)]] W fun e w' => e = .returned (.int .i64 (numN a b c : Nat)) /\ Below W.heap.size W w') := fun W => number_any a b c (by omega) (by omega) (by omega) W
 have hlt := numN_lt ha hb hc
 generalize numN a b c = n at *
 have hlt' : (n : Int) < 1000000000 := by unfold ALL at hlt; omega
 obtain ⟨W0, hW0, k0, k1, hB, hs0⟩ := sign_box w (.int .i64 (a : Int)) (.int .i64 (b : Int)) (.int .i64 (c : Int))
 have HR := Lib.hid (fun W => row_form' n (n + 1) W)
 have HW0 := Lib.hid hW0
 have HK0 := Lib.hid k0
 have HK1 := Lib.hid k1
 have HB := Lib.hid hB
 have HS := Lib.hid hs0
 have HLT := Lib.hid hlt
 clear hW0 k0 k1 hB hs0 hlt
 go_enter Tryz.func216, Tryz.ntmps216
 go_wp2_with fail
 rw [HW0.out]
 refine (HN.out _).mono ?_
 rintro e w1 ⟨rfl, hb1⟩
 have D1 := Lib.hid hb1
 clear hb1
 go_wp2_with fail
 refine (HR.out _).mono ?_
 rintro e wK ⟨a', c', rfl, hsK, hnn, hbK⟩
 have hn2 : ∀ g, (Value.slice a' (rowF n (n + 1)).length c').ownBlock = some g -> W0.heap.size <= g := fun g hg => Nat.le_trans D1.out.size (hnn g hg)
 have DK : Below W0.heap.size W0 wK := D1.out.trans (hbK.mono D1.out.size)
 have hl1 : w.heap.size + 1 < W0.heap.size := by have := HS.out; omega
 have hc4 : wK.cell? ⟨w.heap.size + 1, 0, none⟩ = some (.slice none 0 0) := (HK1.out.below DK hl1).cell 0
 have hf4 := (HK1.out.below DK hl1).frozen 0
 have HP := Lib.hid (put_out HB.out (HK1.out.cell 0) (Nat.le_succ _) hl1 hsK hn2 DK)
 clear hsK hnn hbK hn2 DK hl1
 go_wp2
 obtain ⟨h3, h4, h5, h6⟩ := HP.out
 refine bodyPost_ret (v := .tuple #[.agg #[.slice a' (rowF n (n + 1)).length c'], .nilIface]) (by simp [results, Tryz.results216, go_sem, h3]) rfl ?_
 exact ⟨_, rfl, h4, h5, h6⟩
theorem sign_lt (g : ByteArray) (a b c : Nat) (ha : a <= 999) (hb : b <= 999) (hc : c <= 999) (w : World) (hg : g.toList = [60]) :
  Calls Tryz.prog 216 #[.string g, .agg #[.int .i64 (a : Int), .int .i64 (b : Int), .int .i64 (c : Int)]] w (RgErr w (.ok (rowF 0 (numN a b c)))) := by
 have HN : Hid (∀ W, Calls Tryz.prog 150 #[.agg #[.int .i64 (a : Int), .int .i64 (b : Int), .int .i64 (c : Int)]] W fun e w' => e = .returned (.int .i64 (numN a b c : Nat)) /\ Below W.heap.size W w') := fun W => number_any a b c (by omega) (by omega) (by omega) W
 have hlt := numN_lt ha hb hc
 generalize numN a b c = n at *
 have hlt' : (n : Int) < 1000000000 := by unfold ALL at hlt; omega
 obtain ⟨W0, hW0, k0, k1, hB, hs0⟩ := sign_box w (.int .i64 (a : Int)) (.int .i64 (b : Int)) (.int .i64 (c : Int))
 have HR := Lib.hid (fun W => row_form' 0 n W)
 have HW0 := Lib.hid hW0
 have HK0 := Lib.hid k0
 have HK1 := Lib.hid k1
 have HB := Lib.hid hB
 have HS := Lib.hid hs0
 have HLT := Lib.hid hlt
 clear hW0 k0 k1 hB hs0 hlt
 go_enter Tryz.func216, Tryz.ntmps216
 go_wp2_with fail
 rw [HW0.out]
 refine (HN.out _).mono ?_
 rintro e w1 ⟨rfl, hb1⟩
 have D1 := Lib.hid hb1
 clear hb1
 go_wp2_with fail
 refine (HR.out _).mono ?_
 rintro e wK ⟨a', c', rfl, hsK, hnn, hbK⟩
 have hn2 : ∀ g, (Value.slice a' (rowF 0 n).length c').ownBlock = some g -> W0.heap.size <= g := fun g hg => Nat.le_trans D1.out.size (hnn g hg)
 have DK : Below W0.heap.size W0 wK := D1.out.trans (hbK.mono D1.out.size)
 have hl1 : w.heap.size + 1 < W0.heap.size := by have := HS.out; omega
 have hc4 : wK.cell? ⟨w.heap.size + 1, 0, none⟩ = some (.slice none 0 0) := (HK1.out.below DK hl1).cell 0
 have hf4 := (HK1.out.below DK hl1).frozen 0
 have HP := Lib.hid (put_out HB.out (HK1.out.cell 0) (Nat.le_succ _) hl1 hsK hn2 DK)
 clear hsK hnn hbK hn2 DK hl1
 go_wp2
 obtain ⟨h3, h4, h5, h6⟩ := HP.out
 refine bodyPost_ret (v := .tuple #[.agg #[.slice a' (rowF 0 n).length c'], .nilIface]) (by simp [results, Tryz.results216, go_sem, h3]) rfl ?_
 exact ⟨_, rfl, h4, h5, h6⟩
theorem sign_le (g : ByteArray) (a b c : Nat) (ha : a <= 999) (hb : b <= 999) (hc : c <= 999) (w : World) (hg : g.toList = [60, 61]) :
  Calls Tryz.prog 216 #[.string g, .agg #[.int .i64 (a : Int), .int .i64 (b : Int), .int .i64 (c : Int)]] w (RgErr w (.ok (rowF 0 (numN a b c + 1)))) := by
 have HN : Hid (∀ W, Calls Tryz.prog 150 #[.agg #[.int .i64 (a : Int), .int .i64 (b : Int), .int .i64 (c : Int)]] W fun e w' => e = .returned (.int .i64 (numN a b c : Nat)) /\ Below W.heap.size W w') := fun W => number_any a b c (by omega) (by omega) (by omega) W
 have hlt := numN_lt ha hb hc
 generalize numN a b c = n at *
 have hlt' : (n : Int) < 1000000000 := by unfold ALL at hlt; omega
 obtain ⟨W0, hW0, k0, k1, hB, hs0⟩ := sign_box w (.int .i64 (a : Int)) (.int .i64 (b : Int)) (.int .i64 (c : Int))
 have HR := Lib.hid (fun W => row_form' 0 (n + 1) W)
 have HW0 := Lib.hid hW0
 have HK0 := Lib.hid k0
 have HK1 := Lib.hid k1
 have HB := Lib.hid hB
 have HS := Lib.hid hs0
 have HLT := Lib.hid hlt
 clear hW0 k0 k1 hB hs0 hlt
 go_enter Tryz.func216, Tryz.ntmps216
 go_wp2_with fail
 rw [HW0.out]
 refine (HN.out _).mono ?_
 rintro e w1 ⟨rfl, hb1⟩
 have D1 := Lib.hid hb1
 clear hb1
 go_wp2_with fail
 refine (HR.out _).mono ?_
 rintro e wK ⟨a', c', rfl, hsK, hnn, hbK⟩
 have hn2 : ∀ g, (Value.slice a' (rowF 0 (n + 1)).length c').ownBlock = some g -> W0.heap.size <= g := fun g hg => Nat.le_trans D1.out.size (hnn g hg)
 have DK : Below W0.heap.size W0 wK := D1.out.trans (hbK.mono D1.out.size)
 have hl1 : w.heap.size + 1 < W0.heap.size := by have := HS.out; omega
 have hc4 : wK.cell? ⟨w.heap.size + 1, 0, none⟩ = some (.slice none 0 0) := (HK1.out.below DK hl1).cell 0
 have hf4 := (HK1.out.below DK hl1).frozen 0
 have HP := Lib.hid (put_out HB.out (HK1.out.cell 0) (Nat.le_succ _) hl1 hsK hn2 DK)
 clear hsK hnn hbK hn2 DK hl1
 go_wp2
 obtain ⟨h3, h4, h5, h6⟩ := HP.out
 refine bodyPost_ret (v := .tuple #[.agg #[.slice a' (rowF 0 (n + 1)).length c'], .nilIface]) (by simp [results, Tryz.results216, go_sem, h3]) rfl ?_
 exact ⟨_, rfl, h4, h5, h6⟩
theorem sign_gt (g : ByteArray) (a b c : Nat) (ha : a <= 999) (hb : b <= 999) (hc : c <= 999) (w : World) (hg : g.toList = [62]) :
  Calls Tryz.prog 216 #[.string g, .agg #[.int .i64 (a : Int), .int .i64 (b : Int), .int .i64 (c : Int)]] w (RgErr w (.ok (rowF (numN a b c + 1) 1000000000))) := by
 have HN : Hid (∀ W, Calls Tryz.prog 150 #[.agg #[.int .i64 (a : Int), .int .i64 (b : Int), .int .i64 (c : Int)]] W fun e w' => e = .returned (.int .i64 (numN a b c : Nat)) /\ Below W.heap.size W w') := fun W => number_any a b c (by omega) (by omega) (by omega) W
 have hlt := numN_lt ha hb hc
 generalize numN a b c = n at *
 have hlt' : (n : Int) < 1000000000 := by unfold ALL at hlt; omega
 obtain ⟨W0, hW0, k0, k1, hB, hs0⟩ := sign_box w (.int .i64 (a : Int)) (.int .i64 (b : Int)) (.int .i64 (c : Int))
 have HR := Lib.hid (fun W => row_form' (n + 1) 1000000000 W)
 have HW0 := Lib.hid hW0
 have HK0 := Lib.hid k0
 have HK1 := Lib.hid k1
 have HB := Lib.hid hB
 have HS := Lib.hid hs0
 have HLT := Lib.hid hlt
 clear hW0 k0 k1 hB hs0 hlt
 go_enter Tryz.func216, Tryz.ntmps216
 go_wp2_with fail
 rw [HW0.out]
 refine (HN.out _).mono ?_
 rintro e w1 ⟨rfl, hb1⟩
 have D1 := Lib.hid hb1
 clear hb1
 go_wp2_with fail
 refine (HR.out _).mono ?_
 rintro e wK ⟨a', c', rfl, hsK, hnn, hbK⟩
 have hn2 : ∀ g, (Value.slice a' (rowF (n + 1) 1000000000).length c').ownBlock = some g -> W0.heap.size <= g := fun g hg => Nat.le_trans D1.out.size (hnn g hg)
 have DK : Below W0.heap.size W0 wK := D1.out.trans (hbK.mono D1.out.size)
 have hl1 : w.heap.size + 1 < W0.heap.size := by have := HS.out; omega
 have hc4 : wK.cell? ⟨w.heap.size + 1, 0, none⟩ = some (.slice none 0 0) := (HK1.out.below DK hl1).cell 0
 have hf4 := (HK1.out.below DK hl1).frozen 0
 have HP := Lib.hid (put_out HB.out (HK1.out.cell 0) (Nat.le_succ _) hl1 hsK hn2 DK)
 clear hsK hnn hbK hn2 DK hl1
 go_wp2
 obtain ⟨h3, h4, h5, h6⟩ := HP.out
 refine bodyPost_ret (v := .tuple #[.agg #[.slice a' (rowF (n + 1) 1000000000).length c'], .nilIface]) (by simp [results, Tryz.results216, go_sem, h3]) rfl ?_
 exact ⟨_, rfl, h4, h5, h6⟩
theorem sign_ge (g : ByteArray) (a b c : Nat) (ha : a <= 999) (hb : b <= 999) (hc : c <= 999) (w : World) (hg : g.toList = [62, 61]) :
  Calls Tryz.prog 216 #[.string g, .agg #[.int .i64 (a : Int), .int .i64 (b : Int), .int .i64 (c : Int)]] w (RgErr w (.ok (rowF (numN a b c) 1000000000))) := by
 have HN : Hid (∀ W, Calls Tryz.prog 150 #[.agg #[.int .i64 (a : Int), .int .i64 (b : Int), .int .i64 (c : Int)]] W fun e w' => e = .returned (.int .i64 (numN a b c : Nat)) /\ Below W.heap.size W w') := fun W => number_any a b c (by omega) (by omega) (by omega) W
 have hlt := numN_lt ha hb hc
 generalize numN a b c = n at *
 have hlt' : (n : Int) < 1000000000 := by unfold ALL at hlt; omega
 obtain ⟨W0, hW0, k0, k1, hB, hs0⟩ := sign_box w (.int .i64 (a : Int)) (.int .i64 (b : Int)) (.int .i64 (c : Int))
 have HR := Lib.hid (fun W => row_form' n 1000000000 W)
 have HW0 := Lib.hid hW0
 have HK0 := Lib.hid k0
 have HK1 := Lib.hid k1
 have HB := Lib.hid hB
 have HS := Lib.hid hs0
 have HLT := Lib.hid hlt
 clear hW0 k0 k1 hB hs0 hlt
 go_enter Tryz.func216, Tryz.ntmps216
 go_wp2_with fail
 rw [HW0.out]
 refine (HN.out _).mono ?_
 rintro e w1 ⟨rfl, hb1⟩
 have D1 := Lib.hid hb1
 clear hb1
 go_wp2_with fail
 refine (HR.out _).mono ?_
 rintro e wK ⟨a', c', rfl, hsK, hnn, hbK⟩
 have hn2 : ∀ g, (Value.slice a' (rowF n 1000000000).length c').ownBlock = some g -> W0.heap.size <= g := fun g hg => Nat.le_trans D1.out.size (hnn g hg)
 have DK : Below W0.heap.size W0 wK := D1.out.trans (hbK.mono D1.out.size)
 have hl1 : w.heap.size + 1 < W0.heap.size := by have := HS.out; omega
 have hc4 : wK.cell? ⟨w.heap.size + 1, 0, none⟩ = some (.slice none 0 0) := (HK1.out.below DK hl1).cell 0
 have hf4 := (HK1.out.below DK hl1).frozen 0
 have HP := Lib.hid (put_out HB.out (HK1.out.cell 0) (Nat.le_succ _) hl1 hsK hn2 DK)
 clear hsK hnn hbK hn2 DK hl1
 go_wp2
 obtain ⟨h3, h4, h5, h6⟩ := HP.out
 refine bodyPost_ret (v := .tuple #[.agg #[.slice a' (rowF n 1000000000).length c'], .nilIface]) (by simp [results, Tryz.results216, go_sem, h3]) rfl ?_
 exact ⟨_, rfl, h4, h5, h6⟩
theorem sign_not (g : ByteArray) (a b c : Nat) (ha : a <= 999) (hb : b <= 999) (hc : c <= 999) (w : World) (hg : g.toList = [33]) :
  Calls Tryz.prog 216 #[.string g, .agg #[.int .i64 (a : Int), .int .i64 (b : Int), .int .i64 (c : Int)]] w (RgErr w (.ok (nt (rowF (numN a b c) (numN a b c + 1))))) := by
 have HN : Hid (∀ W, Calls Tryz.prog 150 #[.agg #[.int .i64 (a : Int), .int .i64 (b : Int), .int .i64 (c : Int)]] W fun e w' => e = .returned (.int .i64 (numN a b c : Nat)) /\ Below W.heap.size W w') := fun W => number_any a b c (by omega) (by omega) (by omega) W
 have hlt := numN_lt ha hb hc
 generalize numN a b c = n at *
 have hlt' : (n : Int) < 1000000000 := by unfold ALL at hlt; omega
 obtain ⟨W0, hW0, k0, k1, hB, hs0⟩ := sign_box w (.int .i64 (a : Int)) (.int .i64 (b : Int)) (.int .i64 (c : Int))
 have HR := Lib.hid (fun W => row_form' n (n + 1) W)
 have HT : Hid (∀ v W, SpAt W v (rowF n (n + 1)) -> Calls Tryz.prog 178 #[.agg #[v]] W fun e w' => ∃ a' c', e = .returned (.agg #[.slice a' (nt (rowF n (n + 1))).length c']) /\ SpAt w' (.slice a' (nt (rowF n (n + 1))).length c') (nt (rowF n (n + 1))) /\ (∀ g, (Value.slice a' (nt (rowF n (n + 1))).length c').ownBlock = some g -> W.heap.size <= g) /\ Below W.heap.size W w') := fun v W h => not_form _ (rg_row (by omega)) v W h
 have HW0 := Lib.hid hW0
 have HK0 := Lib.hid k0
 have HK1 := Lib.hid k1
 have HB := Lib.hid hB
 have HS := Lib.hid hs0
 have HLT := Lib.hid hlt
 clear hW0 k0 k1 hB hs0 hlt
 go_enter Tryz.func216, Tryz.ntmps216
 go_wp2_with fail
 rw [HW0.out]
 refine (HN.out _).mono ?_
 rintro e w1 ⟨rfl, hb1⟩
 have D1 := Lib.hid hb1
 clear hb1
 go_wp2_with fail
 refine (HR.out _).mono ?_
 rintro e w2 ⟨a2, c2, rfl, hs2, -, hb2⟩
 have D2 : Hid (Below W0.heap.size W0 w2) := D1.out.trans (hb2.mono D1.out.size)
 have HT2 := Lib.hid (HT.out _ _ hs2)
 clear hs2 hb2 HT HR
 go_wp2_with fail
 refine HT2.out.mono ?_
 rintro e wK ⟨a', c', rfl, hsK, hnn, hbK⟩
 have hn2 : ∀ g, (Value.slice a' (nt (rowF n (n + 1))).length c').ownBlock = some g -> W0.heap.size <= g := fun g hg => Nat.le_trans D2.out.size (hnn g hg)
 have DK : Below W0.heap.size W0 wK := D2.out.trans (hbK.mono D2.out.size)
 have hl1 : w.heap.size + 1 < W0.heap.size := by have := HS.out; omega
 have hc4 : wK.cell? ⟨w.heap.size + 1, 0, none⟩ = some (.slice none 0 0) := (HK1.out.below DK hl1).cell 0
 have hf4 := (HK1.out.below DK hl1).frozen 0
 have HP := Lib.hid (put_out HB.out (HK1.out.cell 0) (Nat.le_succ _) hl1 hsK hn2 DK)
 clear hsK hnn hbK hn2 DK hl1
 go_wp2
 obtain ⟨h3, h4, h5, h6⟩ := HP.out
 refine bodyPost_ret (v := .tuple #[.agg #[.slice a' (nt (rowF n (n + 1))).length c'], .nilIface]) (by simp [results, Tryz.results216, go_sem, h3]) rfl ?_
 exact ⟨_, rfl, h4, h5, h6⟩
end
section
open Go.RowKit Go.Shelf Sv
theorem sign_tilde (g : ByteArray) (a b c : Nat) (ha : a <= 999) (hb : b <= 999) (hc : c <= 999) (w : World) (hg : g.toList = [126]) :
  Calls Tryz.prog 216 #[.string g, .agg #[.int .i64 (a : Int), .int .i64 (b : Int), .int .i64 (c : Int)]] w (RgErr w (.ok (rowF (numN a b c) (numN a (b + 1) 0)))) := by
 have HN : Hid (∀ W, Calls Tryz.prog 150 #[.agg #[.int .i64 (a : Int), .int .i64 (b : Int), .int .i64 (c : Int)]] W fun e w' => e = .returned (.int .i64 (numN a b c : Nat)) /\ Below W.heap.size W w') := fun W => number_any a b c (by omega) (by omega) (by omega) W
 have HX := Lib.hid (fun W => next_1 a b c hb W)
 have HM : Hid (∀ W, Calls Tryz.prog 150 #[.agg #[.int .i64 (a : Int), .int .i64 ((b + 1 : Nat) : Int), .int .i64 0]] W fun e w' => e = .returned (.int .i64 (numN a (b + 1) 0 : Nat)) /\ Below W.heap.size W w') := fun W => number_any a (b + 1) 0 (by omega) (by omega) (by omega) W
 generalize numN a (b + 1) 0 = m at *
 generalize numN a b c = n at *
 generalize ((b + 1 : Nat) : Int) = b1 at *
 obtain ⟨W0, hW0, k0, k1, hB, hs0⟩ := sign_box w (.int .i64 (a : Int)) (.int .i64 (b : Int)) (.int .i64 (c : Int))
 have HR := Lib.hid (fun W => row_form' n m W)
 have HW0 := Lib.hid hW0
 have HK0 := Lib.hid k0
 have HK1 := Lib.hid k1
 have HB := Lib.hid hB
 have HS := Lib.hid hs0
 clear hW0 k0 k1 hB hs0
 go_enter Tryz.func216, Tryz.ntmps216
 go_wp2_with fail
 rw [HW0.out]
 refine (HN.out _).mono ?_
 rintro e w1 ⟨rfl, hb1⟩
 have D1 := Lib.hid hb1
 have hl0 : w.heap.size < W0.heap.size := by have := HS.out; omega
 have q0 : w1.cell? ⟨w.heap.size, 0, none⟩ = some (.int .i64 (a : Int)) := (HK0.out.below hb1 hl0).cell 0
 have q1 : w1.cell? ⟨w.heap.size, 1, none⟩ = some (.int .i64 (b : Int)) := (HK0.out.below hb1 hl0).cell 1
 have q2 : w1.cell? ⟨w.heap.size, 2, none⟩ = some (.int .i64 (c : Int)) := (HK0.out.below hb1 hl0).cell 2
 clear hb1 hl0
 go_wp2_with fail
 refine (HX.out _).mono ?_
 rintro e w2 ⟨rfl, hb2⟩
 have D2 : Hid (Below W0.heap.size W0 w2) := D1.out.trans (hb2.mono D1.out.size)
 clear hb2 q0 q1 q2
 go_wp2_with fail
 refine (HM.out _).mono ?_
 rintro e w3 ⟨rfl, hb3⟩
 have D3 : Hid (Below W0.heap.size W0 w3) := D2.out.trans (hb3.mono D2.out.size)
 clear hb3
 go_wp2_with fail
 refine (HR.out _).mono ?_
 rintro e wK ⟨a', c', rfl, hsK, hnn, hbK⟩
 have hn2 : ∀ g, (Value.slice a' (rowF n m).length c').ownBlock = some g -> W0.heap.size <= g := fun g hg => Nat.le_trans D3.out.size (hnn g hg)
 have DK : Below W0.heap.size W0 wK := D3.out.trans (hbK.mono D3.out.size)
 have hl1 : w.heap.size + 1 < W0.heap.size := by have := HS.out; omega
 have hc4 : wK.cell? ⟨w.heap.size + 1, 0, none⟩ = some (.slice none 0 0) := (HK1.out.below DK hl1).cell 0
 have hf4 := (HK1.out.below DK hl1).frozen 0
 have HP := Lib.hid (put_out HB.out (HK1.out.cell 0) (Nat.le_succ _) hl1 hsK hn2 DK)
 clear hsK hnn hbK hn2 DK hl1
 go_wp2
 obtain ⟨h3, h4, h5, h6⟩ := HP.out
 refine bodyPost_ret (v := .tuple #[.agg #[.slice a' (rowF n m).length c'], .nilIface]) (by simp [results, Tryz.results216, go_sem, h3]) rfl ?_
 exact ⟨_, rfl, h4, h5, h6⟩
theorem sign_care_x (g : ByteArray) (a b c : Nat) (ha : a <= 999) (hb : b <= 999) (hc : c <= 999) (w : World) (hg : g.toList = [94]) (pl : Int) (x y z : Int) (m : Nat) (HL : Hid (∀ W, Calls Tryz.prog 237 #[.agg #[.int .i64 (a : Int), .int .i64 (b : Int), .int .i64 (c : Int)]] W fun e w' => e = .returned (.int .i64 pl) /\ Below W.heap.size W w'))
  (HX : Hid (∀ W, Calls Tryz.prog 236 #[.agg #[.int .i64 (a : Int), .int .i64 (b : Int), .int .i64 (c : Int)], .int .i64 pl] W fun e w' => e = .returned (.agg #[.int .i64 x, .int .i64 y, .int .i64 z]) /\ Below W.heap.size W w'))
  (HM : Hid (∀ W, Calls Tryz.prog 150 #[.agg #[.int .i64 x, .int .i64 y, .int .i64 z]] W fun e w' => e = .returned (.int .i64 (m : Int)) /\ Below W.heap.size W w')) :
  Calls Tryz.prog 216 #[.string g, .agg #[.int .i64 (a : Int), .int .i64 (b : Int), .int .i64 (c : Int)]] w (RgErr w (.ok (rowF (numN a b c) m))) := by
 have HN : Hid (∀ W, Calls Tryz.prog 150 #[.agg #[.int .i64 (a : Int), .int .i64 (b : Int), .int .i64 (c : Int)]] W fun e w' => e = .returned (.int .i64 (numN a b c : Nat)) /\ Below W.heap.size W w') := fun W => number_any a b c (by omega) (by omega) (by omega) W
 generalize numN a b c = n at *
 obtain ⟨W0, hW0, k0, k1, hB, hs0⟩ := sign_box w (.int .i64 (a : Int)) (.int .i64 (b : Int)) (.int .i64 (c : Int))
 have HR := Lib.hid (fun W => row_form' n m W)
 have HW0 := Lib.hid hW0
 have HK0 := Lib.hid k0
 have HK1 := Lib.hid k1
 have HB := Lib.hid hB
 have HS := Lib.hid hs0
 clear hW0 k0 k1 hB hs0
 go_enter Tryz.func216, Tryz.ntmps216
 go_wp2_with fail
 rw [HW0.out]
 refine (HN.out _).mono ?_
 rintro e w1 ⟨rfl, hb1⟩
 have D1 := Lib.hid hb1
 have hl0 : w.heap.size < W0.heap.size := by have := HS.out; omega
 have q0 : w1.cell? ⟨w.heap.size, 0, none⟩ = some (.int .i64 (a : Int)) := (HK0.out.below hb1 hl0).cell 0
 have q1 : w1.cell? ⟨w.heap.size, 1, none⟩ = some (.int .i64 (b : Int)) := (HK0.out.below hb1 hl0).cell 1
 have q2 : w1.cell? ⟨w.heap.size, 2, none⟩ = some (.int .i64 (c : Int)) := (HK0.out.below hb1 hl0).cell 2
 clear hb1 hl0
 have HS0 := HS.out
 have L1 : Hid (w.heap.size + 1 < W0.heap.size) := by show w.heap.size + 1 < W0.heap.size; omega
 have L0 : Hid (w.heap.size + 1 <= W0.heap.size) := by show w.heap.size + 1 <= W0.heap.size; omega
 have SC : Hid (∀ W, Below (w.heap.size + 1) W0 W -> W.cell? ⟨w.heap.size, 0, none⟩ = some (.int .i64 (a : Int)) /\ W.cell? ⟨w.heap.size, 1, none⟩ = some (.int .i64 (b : Int)) /\ W.cell? ⟨w.heap.size, 2, none⟩ = some (.int .i64 (c : Int))) := fun W hb => ⟨(HK0.out.below hb (Nat.lt_succ_self _)).cell 0, (HK0.out.below hb (Nat.lt_succ_self _)).cell 1, (HK0.out.below hb (Nat.lt_succ_self _)).cell 2⟩
 have HC0 : Hid (W0.cell? ⟨w.heap.size + 1, 0, none⟩ = some (.slice none 0 0)) := HK1.out.cell 0
 have HF0 : Hid (W0.frozen? ⟨w.heap.size + 1, 0, none⟩ = false) := HK1.out.frozen 0
 have E0 : Below W0.heap.size W0 w1.drew := D1.out.drew
 clear HS0 q0 q1 q2
 go_wp2_with fail
 go_region_held3 (fun w' => w'.cell? ⟨w.heap.size, 0, none⟩ = some (.int .i64 (a : Int)) /\ w'.cell? ⟨w.heap.size, 1, none⟩ = some (.int .i64 (b : Int)) /\ w'.cell? ⟨w.heap.size, 2, none⟩ = some (.int .i64 (c : Int))) (first | exact SC.out _ (E0.mono L0.out) | exact SC.out _ (E1.mono L0.out) | exact SC.out _ (E2.mono L0.out) | exact SC.out _ (E3.mono L0.out) | exact SC.out _ (E4.mono L0.out) | exact SC.out _ E5)
  (first
   | ((with_reducible refine (HL.out _).mono ?_); rintro e w2 ⟨rfl, hb2⟩; have E1 : Below W0.heap.size W0 w2 := E0.trans (hb2.mono E0.size); clear HL)
   | ((with_reducible refine (HX.out _).mono ?_); rintro e w3 ⟨rfl, hb3⟩; have E2 : Below W0.heap.size W0 w3 := E1.trans (hb3.mono E1.size); clear HX)
   | ((with_reducible refine (HM.out _).mono ?_); rintro e w4 ⟨rfl, hb4⟩; have E3 : Below W0.heap.size W0 w4 := E2.trans (hb4.mono E2.size); clear HM)
   | ((with_reducible refine (HR.out _).mono ?_); rintro e wK ⟨a', c', rfl, hsK, hnn, hbK⟩; have E4 : Below W0.heap.size W0 wK := E3.trans (hbK.mono E3.size); have hc4 := (E4.cell (p := ⟨w.heap.size + 1, 0, none⟩) L1.out).trans HC0.out; have hf4 := (E4.frozen (p := ⟨w.heap.size + 1, 0, none⟩) L1.out).trans HF0.out; have E5 : Below (w.heap.size + 1) W0 (wK.setCell ⟨w.heap.size + 1, 0, none⟩ (.slice a' (rowF n m).length c')) := (E4.mono L0.out).setCell (p := ⟨w.heap.size + 1, 0, none⟩) (Nat.le_refl _) _; clear HR))
 have hn2 : ∀ g, (Value.slice a' (rowF n m).length c').ownBlock = some g -> W0.heap.size <= g := fun g hg => Nat.le_trans E3.size (hnn g hg)
 have HP := Lib.hid (put_out HB.out HC0.out (Nat.le_succ _) L1.out hsK hn2 E4)
 clear hsK hnn hbK hn2 E0 E1 E2 E3 E4 E5 hb2 hb3 hb4
 go_wp2
 obtain ⟨h3, h4, h5, h6⟩ := HP.out
 refine bodyPost_ret (v := .tuple #[.agg #[.slice a' (rowF n m).length c'], .nilIface]) (by simp [results, Tryz.results216, go_sem, h3]) rfl ?_
 exact ⟨_, rfl, h4, h5, h6⟩
theorem sign_care (g : ByteArray) (a b c : Nat) (ha : a <= 999) (hb : b <= 999) (hc : c <= 999) (w : World) (hg : g.toList = [94]) :
  Calls Tryz.prog 216 #[.string g, .agg #[.int .i64 (a : Int), .int .i64 (b : Int), .int .i64 (c : Int)]] w (RgErr w (.ok (rowF (numN a b c) (careN a b c)))) := by
 unfold careN
 by_cases h0 : a ≠ 0
 ·rw [if_pos h0]
  exact sign_care_x g a b c ha hb hc w hg 0 ((a + 1 : Nat) : Int) 0 0 _ (fun W => by have := lead_any a b c W; rw [if_pos h0] at this; exact this) (fun W => next_0 a b c ha W) (fun W => number_any (a + 1) 0 0 (by omega) (by omega) (by omega) W)
 ·rw [if_neg h0]
  by_cases h1 : b ≠ 0
  ·rw [if_pos h1]
   exact sign_care_x g a b c ha hb hc w hg 1 (a : Int) ((b + 1 : Nat) : Int) 0 _ (fun W => by have := lead_any a b c W; rw [if_neg h0, if_pos h1] at this; exact this) (fun W => next_1 a b c hb W) (fun W => number_any a (b + 1) 0 (by omega) (by omega) (by omega) W)
  ·rw [if_neg h1]
   exact sign_care_x g a b c ha hb hc w hg 2 (a : Int) (b : Int) ((c + 1 : Nat) : Int) _ (fun W => by have := lead_any a b c W; rw [if_neg h0, if_neg h1] at this; exact this) (fun W => next_2 a b c hc W) (fun W => number_any a b (c + 1) (by omega) (by omega) (by omega) W)
theorem sign_bad (g : ByteArray) (a b c : Nat) (ha : a <= 999) (hb : b <= 999) (hc : c <= 999) (w : World) (g0 : (g.toList == []) = false) (g1 : (g.toList == [61]) = false) (g2 : (g.toList == [33]) = false) (g3 : (g.toList == [60]) = false) (g4 : (g.toList == [60, 61]) = false) (g5 : (g.toList == [62]) = false) (g6 : (g.toList == [62, 61]) = false) (g7 : (g.toList == [94]) = false) (g8 : (g.toList == [126]) = false) :
  Calls Tryz.prog 216 #[.string g, .agg #[.int .i64 (a : Int), .int .i64 (b : Int), .int .i64 (c : Int)]] w (RgErr w (.error 3)) := by
 have HN : Hid (∀ W, Calls Tryz.prog 150 #[.agg #[.int .i64 (a : Int), .int .i64 (b : Int), .int .i64 (c : Int)]] W fun e w' => e = .returned (.int .i64 (numN a b c : Nat)) /\ Below W.heap.size W w') := fun W => number_any a b c (by omega) (by omega) (by omega) W
 generalize numN a b c = n at *
 have ge : g.toList.isEmpty = false := by
  cases h : g.toList with
  | nil => rw [h] at g0; cases g0
  | cons x l => rfl
 obtain ⟨W0, hW0, k0, k1, hB, hs0⟩ := sign_box w (.int .i64 (a : Int)) (.int .i64 (b : Int)) (.int .i64 (c : Int))
 have HW0 := Lib.hid hW0
 have HK1 := Lib.hid k1
 have HB := Lib.hid hB
 have HS := Lib.hid hs0
 clear hW0 k0 k1 hB hs0 g0
 go_enter Tryz.func216, Tryz.ntmps216
 go_wp2_with fail
 rw [HW0.out]
 refine (HN.out _).mono ?_
 rintro e w1 ⟨rfl, hb1⟩
 have hl1 : w.heap.size + 1 < W0.heap.size := by have := HS.out; omega
 have m1 := HK1.out.below hb1 hl1
 have hc4 : w1.cell? ⟨w.heap.size + 1, 0, none⟩ = some (.slice none 0 0) := m1.cell 0
 have hf4 := m1.frozen 0
 have hset : (w1.setCell ⟨w.heap.size + 1, 0, none⟩ (.slice none 0 0)).cell? ⟨w.heap.size + 1, 0, none⟩ = some (.slice none 0 0) := (m1.set (i := 0)).cell 0
 have hB2 : Below w.heap.size w (w1.setCell ⟨w.heap.size + 1, 0, none⟩ (.slice none 0 0)) := (HB.out.trans (hb1.mono HB.out.size)).setCell (p := ⟨w.heap.size + 1, 0, none⟩) (Nat.le_succ _) _
 have HSET := Lib.hid hset
 have HB2 := Lib.hid hB2
 clear hb1 hl1 m1 hset hB2
 go_wp2
 have h3 := HSET.out
 refine bodyPost_ret (v := .tuple #[.agg #[.slice none 0 0], .iface 34 (.int .i64 3)]) (by simp [results, Tryz.results216, go_sem, h3]) rfl ?_
 exact ⟨rfl, HB2.out⟩
theorem signed_any (g : ByteArray) (a b c : Nat) (ha : a <= 999) (hb : b <= 999) (hc : c <= 999) (w : World) :
  Calls Tryz.prog 216 #[.string g, .agg #[.int .i64 (a : Int), .int .i64 (b : Int), .int .i64 (c : Int)]] w (RgErr w (signF g.toList a b c)) := by
 unfold signF
 by_cases h0 : g.toList = [] \/ g.toList = [61]
 ·rw [if_pos h0]
  rcases h0 with h0 | h0
  ·exact sign_none g a b c ha hb hc w h0
  ·exact sign_eq g a b c ha hb hc w h0
 rw [if_neg h0]
 by_cases h1 : g.toList = [33]
 ·rw [if_pos h1]; exact sign_not g a b c ha hb hc w h1
 rw [if_neg h1]
 by_cases h2 : g.toList = [60]
 ·rw [if_pos h2]; exact sign_lt g a b c ha hb hc w h2
 rw [if_neg h2]
 by_cases h3 : g.toList = [60, 61]
 ·rw [if_pos h3]; exact sign_le g a b c ha hb hc w h3
 rw [if_neg h3]
 by_cases h4 : g.toList = [62]
 ·rw [if_pos h4]; exact sign_gt g a b c ha hb hc w h4
 rw [if_neg h4]
 by_cases h5 : g.toList = [62, 61]
 ·rw [if_pos h5]; exact sign_ge g a b c ha hb hc w h5
 rw [if_neg h5]
 by_cases h6 : g.toList = [94]
 ·rw [if_pos h6]; exact sign_care g a b c ha hb hc w h6
 rw [if_neg h6]
 by_cases h7 : g.toList = [126]
 ·rw [if_pos h7]; exact sign_tilde g a b c ha hb hc w h7
 rw [if_neg h7]
 exact sign_bad g a b c ha hb hc w (by simpa using fun e => h0 (.inl e)) (by simpa using fun e => h0 (.inr e)) (by simpa using h1) (by simpa using h2) (by simpa using h3) (by simpa using h4) (by simpa using h5) (by simpa using h6) (by simpa using h7)
end
section
open Go.RowKit Go.Shelf Sv
abbrev marksB : ByteArray := ⟨#[61, 33, 60, 62, 94, 126]⟩
def trimB (s : ByteArray) : ByteArray := ⟨(Lib.trimLeftS s.data.toList marksB.data.toList).toArray⟩
theorem trimB_size (s : ByteArray) : (trimB s).size <= s.size := by
 show (Lib.trimLeftS s.data.toList marksB.data.toList).toArray.size <= s.data.size
 unfold Lib.trimLeftS
 simp only [List.size_toArray]
 have := (List.dropWhile_sublist (l := s.data.toList) (fun x => marksB.data.toList.contains x)).length_le
 simpa using this
def wordF (s : ByteArray) : Except Int (List Span) :=
 if s.toList = [97, 110, 121] then .ok anyF
 else if s.toList = [110, 111, 110, 101] then .ok []
 else match versF (trimB s) with
  | .error k => .error k
  | .ok ns => signF (s.extract 0 (s.size - (trimB s).size)).toList (ns.getD 0 0) (ns.getD 1 0) (ns.getD 2 0)
theorem len3 {ns : List Nat} (h : ns.length = 3) : ∃ a b c, ns = [a, b, c] := by
 match ns, h with
 | [a, b, c], _ => exact ⟨a, b, c, rfl⟩
theorem wordF_rg {s : ByteArray} {l : List Span} (h : wordF s = .ok l) : Rg l := by
 unfold wordF at h
 split at h
 ·cases h; exact rg_any
 ·split at h
  ·cases h; exact rg_nil
  ·split at h
   ·cases h
   ·rename_i ns hns
    obtain ⟨h3, h9⟩ := versF_len hns
    obtain ⟨a, b, c, rfl⟩ := len3 h3
    exact signF_rg (h9 a (by simp)) (h9 b (by simp)) (h9 c (by simp)) h
theorem info_set : (Tryz.prog.info? (Tryz.lays161_ren.t 116)).map (fun i => (i.zero, i.size)) = some (some (.agg (Array.replicate 256 (.bool false))), 256) := by kernel_rfl
theorem marks_ascii : ∀ (j : Nat) (b : UInt8), marksB.data.toList[j]? = some b -> b.toNat < 128 := ascii_of_all (by decide)
theorem trim_any (s : ByteArray) (W : World) : Calls Tryz.prog 107 #[.string s, .string marksB] W fun e w' => e = .returned (.string (trimB s)) /\ Below W.heap.size W w' :=
 Any.strings_TrimLeft_laid Tryz.lays161 info_set s marksB W (by decide) marks_ascii
theorem word_any' (s : ByteArray) (w : World) (h : s.toList = [97, 110, 121]) : Calls Tryz.prog 176 #[.string s] w (RgErr w (.ok anyF)) := by
 have HA : Hid (∀ W, Calls Tryz.prog 144 #[] W fun e w' => ∃ a' c', e = .returned (.agg #[.slice a' anyF.length c']) /\ SpAt w' (.slice a' anyF.length c') anyF /\ (∀ g, (Value.slice a' anyF.length c').ownBlock = some g -> W.heap.size <= g) /\ Below W.heap.size W w') := fun W => (any_any W).mono fun e w' ⟨v', he, hs, hn, hb⟩ => by obtain ⟨a', c', rfl⟩ := hs.form; exact ⟨a', c', he, hs, hn, hb⟩
 have k0 := Blk.new w 96 #[.slice none 0 0]
 have hB : Below w.heap.size w (w.alloc (.cells #[.slice none 0 0] 96)) := (Below.refl _ _).alloc (Nat.le_refl _) _
 have hs0 : (w.alloc (.cells #[.slice none 0 0] 96)).heap.size = w.heap.size + 1 := World.size_alloc _ _
 have hc4 : Hid ((w.alloc (.cells #[.slice none 0 0] 96)).cell? ⟨w.heap.size, 0, none⟩ = some (.slice none 0 0)) := k0.cell 0
 have hf4 : Hid ((w.alloc (.cells #[.slice none 0 0] 96)).frozen? ⟨w.heap.size, 0, none⟩ = false) := k0.frozen 0
 have HB := Lib.hid hB
 have L1 : Hid (w.heap.size < (w.alloc (.cells #[.slice none 0 0] 96)).heap.size) := by show w.heap.size < _; omega
 clear k0 hB hs0
 go_enter Tryz.func176, Tryz.ntmps176
 go_wp2_with fail
 generalize w.alloc (.cells #[.slice none 0 0] 96) = W0 at *
 refine (HA.out _).mono ?_
 rintro e wK ⟨a', c', rfl, hsK, hnn, hbK⟩
 have hc5 := (hbK.cell (p := ⟨w.heap.size, 0, none⟩) L1.out).trans hc4.out
 have hf5 := (hbK.frozen (p := ⟨w.heap.size, 0, none⟩) L1.out).trans hf4.out
 have HP := Lib.hid (put_out HB.out hc4.out (Nat.le_refl _) L1.out hsK hnn hbK)
 clear hsK hnn hbK HA
 go_wp2
 obtain ⟨h3, h4, h5, h6⟩ := HP.out
 refine bodyPost_ret (v := .tuple #[.agg #[.slice a' anyF.length c'], .nilIface]) (by simp [results, Tryz.results176, go_sem, h3]) rfl ?_
 exact ⟨_, rfl, h4, h5, h6⟩
theorem word_none (s : ByteArray) (w : World) (h : s.toList = [110, 111, 110, 101]) : Calls Tryz.prog 176 #[.string s] w (RgErr w (.ok [])) := by
 have hB : Below w.heap.size w (w.alloc (.cells #[.slice none 0 0] 96)) := (Below.refl _ _).alloc (Nat.le_refl _) _
 have k0 : (w.alloc (.cells #[.slice none 0 0] 96)).cell? ⟨w.heap.size, 0, none⟩ = some (.slice none 0 0) := (Blk.new w 96 #[.slice none 0 0]).cell 0
 have HB := Lib.hid hB
 have HK := Lib.hid k0
 clear hB k0
 go_enter Tryz.func176, Tryz.ntmps176
 go_wp2
 have h3 := HK.out
 refine bodyPost_ret (v := .tuple #[.agg #[.slice none 0 0], .nilIface]) (by simp [results, Tryz.results176, go_sem]) rfl ?_
 exact ⟨_, rfl, spAt_nil _, fun g hg => by simp [Value.ownBlock] at hg, HB.out⟩
theorem word_err (s : ByteArray) (w : World) (hs : s.size <= 100000) (hw : Lb w) (h1 : (s.toList == [97, 110, 121]) = false) (h2 : (s.toList == [110, 111, 110, 101]) = false) (k : Int) (hv : versF (trimB s) = .error k) : Calls Tryz.prog 176 #[.string s] w (RgErr w (.error k)) := by
 have HT := Lib.hid (fun W => trim_any s W)
 have HP : Hid (∀ W, Below w.heap.size w W -> Calls Tryz.prog 158 #[.string (trimB s)] W fun e w' => e = .returned (.tuple #[.agg #[.int .i64 0, .int .i64 0, .int .i64 0], .iface 34 (.int .i64 k)]) /\ Below W.heap.size W w') := fun W hb => by have := parse_any (trimB s) W (Nat.le_trans (trimB_size s) hs) (hw.below hb); rw [hv] at this; exact this
 have k0 := Blk.new w 96 #[.slice none 0 0]
 have hB : Below w.heap.size w (w.alloc (.cells #[.slice none 0 0] 96)) := (Below.refl _ _).alloc (Nat.le_refl _) _
 have HK0 := Lib.hid k0
 have HB := Lib.hid hB
 generalize trimB s = t at *
 clear hw hv k0 hB
 go_enter Tryz.func176, Tryz.ntmps176
 go_wp2_with fail
 generalize w.alloc (.cells #[.slice none 0 0] 96) = W0 at *
 refine (HT.out _).mono ?_
 rintro e w1 ⟨rfl, hb1⟩
 have hb01 : Below w.heap.size w w1 := HB.out.trans (hb1.mono HB.out.size)
 have H2 := Lib.hid (HP.out _ hb01)
 have HB1 := Lib.hid hb1
 have HB01 := Lib.hid hb01
 clear hb1 hb01 HP
 go_wp2_with fail
 refine H2.out.mono ?_
 rintro e w2 ⟨rfl, hb2⟩
 have hl := HK0.out.lt
 have m1 := (HK0.out.below HB1.out hl).below hb2 (HK0.out.below HB1.out hl).lt
 have m2 := m1.alloc (.cells z3 23)
 have hc4 : (w2.alloc (.cells z3 23)).cell? ⟨w.heap.size, 0, none⟩ = some (.slice none 0 0) := m2.cell 0
 have hf4 := m2.frozen 0
 have hb02 : Below w.heap.size w w2 := HB01.out.trans (hb2.mono HB01.out.size)
 have hset : ((w2.alloc (.cells z3 23)).setCell ⟨w.heap.size, 0, none⟩ (.slice none 0 0)).cell? ⟨w.heap.size, 0, none⟩ = some (.slice none 0 0) := (m2.set (i := 0)).cell 0
 have hB2 : Below w.heap.size w ((w2.alloc (.cells z3 23)).setCell ⟨w.heap.size, 0, none⟩ (.slice none 0 0)) := (hb02.alloc hb02.size _).setCell (p := ⟨w.heap.size, 0, none⟩) (Nat.le_refl _) _
 have HSET := Lib.hid hset
 have HB2 := Lib.hid hB2
 clear hb2 hl m1 m2 H2 hset hB2 hb02
 go_wp2
 have h3 := HSET.out
 refine bodyPost_ret (v := .tuple #[.agg #[.slice none 0 0], .iface 34 (.int .i64 k)]) (by simp [results, Tryz.results176, go_sem, h3]) rfl ?_
 exact ⟨rfl, HB2.out⟩
theorem sign_form (g : ByteArray) (a b c : Nat) (ha : a <= 999) (hb : b <= 999) (hc : c <= 999) (W : World) : Calls Tryz.prog 216 #[.string g, .agg #[.int .i64 (a : Int), .int .i64 (b : Int), .int .i64 (c : Int)]] W fun e w' => ∃ a' n' c' er, e = .returned (.tuple #[.agg #[.slice a' n' c'], er]) /\ Below W.heap.size W w' /\ (∀ g, (Value.slice a' n' c').ownBlock = some g -> W.heap.size <= g) /\
  (match signF g.toList a b c with
   | .ok l => er = .nilIface /\ SpAt w' (.slice a' n' c') l
   | .error k => er = .iface 34 (.int .i64 k) /\ Value.slice a' n' c' = .slice none 0 0) := (signed_any g a b c ha hb hc W).mono fun e w' h => by
 unfold RgErr at h
 cases hs : signF g.toList a b c with
 | ok l =>
  rw [hs] at h
  obtain ⟨v', he, h1, h2, h3⟩ := h
  obtain ⟨a', c', rfl⟩ := h1.form
  exact ⟨a', _, c', _, he, h3, h2, rfl, h1⟩
 | error k =>
  rw [hs] at h
  obtain ⟨he, h3⟩ := h
  exact ⟨none, 0, 0, _, he, h3, fun g hg => by simp [Value.ownBlock] at hg, rfl, rfl⟩
theorem word_sign (s : ByteArray) (w : World) (hs : s.size <= 100000) (hw : Lb w) (h1 : (s.toList == [97, 110, 121]) = false) (h2 : (s.toList == [110, 111, 110, 101]) = false) (a b c : Nat) (ha : a <= 999) (hb : b <= 999) (hc : c <= 999) (hv : versF (trimB s) = .ok [a, b, c]) : Calls Tryz.prog 176 #[.string s] w (RgErr w (signF (s.extract 0 (s.size - (trimB s).size)).toList a b c)) := by
 have HT := Lib.hid (fun W => trim_any s W)
 have HP : Hid (∀ W, Below w.heap.size w W -> Calls Tryz.prog 158 #[.string (trimB s)] W fun e w' => e = .returned (.tuple #[.agg #[.int .i64 (a : Int), .int .i64 (b : Int), .int .i64 (c : Int)], .nilIface]) /\ Below W.heap.size W w') := fun W hb => by have := parse_any (trimB s) W (Nat.le_trans (trimB_size s) hs) (hw.below hb); rw [hv] at this; exact this
 have hts := trimB_size s
 have k0 := Blk.new w 96 #[.slice none 0 0]
 have hB : Below w.heap.size w (w.alloc (.cells #[.slice none 0 0] 96)) := (Below.refl _ _).alloc (Nat.le_refl _) _
 have HK0 := Lib.hid k0
 have HB := Lib.hid hB
 generalize trimB s = t at *
 have HG := Lib.hid (fun W => sign_form (s.extract 0 (s.size - t.size)) a b c ha hb hc W)
 have hq : (s.size : Int) - (t.size : Int) = ((s.size - t.size : Nat) : Int) := by omega
 have hqs : s.size - t.size <= s.size := by omega
 generalize signF (s.extract 0 (s.size - t.size)).toList a b c = X at *
 generalize s.size - t.size = q at *
 have i0 : (0 : Int) <= (q : Int) := by omega
 have i2 : (q : Int) <= (s.size : Int) := by omega
 have hsl := fun W' => run_slice_string_h (P := Tryz.prog) W' 9 s Tryz.underlying9 .i64 (q : Int) i0 i2
 simp only [Int.toNat_natCast] at hsl
 have hw1 : wrap64 ((s.size : Int) - (t.size : Int)) = (q : Int) := by rw [hq]; unfold wrap64; omega
 have hw2 : IntKind.i64.wrap ((s.size : Int) - (t.size : Int)) = (q : Int) := by rw [IntKind.wrap_i64]; unfold wrap64 at hw1; exact hw1
 clear hw hv k0 hB hts hq
 go_enter Tryz.func176, Tryz.ntmps176
 go_wp2_with fail
 generalize w.alloc (.cells #[.slice none 0 0] 96) = W0 at *
 refine (HT.out _).mono ?_
 rintro e w1 ⟨rfl, hb1⟩
 have hb01 : Below w.heap.size w w1 := HB.out.trans (hb1.mono HB.out.size)
 have H2 := Lib.hid (HP.out _ hb01)
 have HB1 := Lib.hid hb1
 have HB01 := Lib.hid hb01
 clear hb1 hb01 HP
 go_wp2_with fail
 refine H2.out.mono ?_
 rintro e w2 ⟨rfl, hb2⟩
 have hl := HK0.out.lt
 have m1 := ((HK0.out.below HB1.out hl).below hb2 (HK0.out.below HB1.out hl).lt).alloc (.cells #[.int .i64 (a : Int), .int .i64 (b : Int), .int .i64 (c : Int)] 23)
 have hb02 : Below w.heap.size w w2 := HB01.out.trans (hb2.mono HB01.out.size)
 have hb03 := hb02.alloc hb02.size (.cells #[.int .i64 (a : Int), .int .i64 (b : Int), .int .i64 (c : Int)] 23)
 have kv := Blk.new w2 23 #[.int .i64 (a : Int), .int .i64 (b : Int), .int .i64 (c : Int)]
 have HM1 := Lib.hid m1
 have HB03 := Lib.hid hb03
 have HKV := Lib.hid kv
 have hne : w.heap.size < w2.heap.size := Nat.lt_of_lt_of_le (HK0.out.below HB1.out hl).lt hb2.size
 have L1 := Lib.hid hne
 clear hb2 hl m1 H2 hb02 hb03 kv hne
 go_wp2_with fail
 generalize w2.alloc (.cells #[.int .i64 (a : Int), .int .i64 (b : Int), .int .i64 (c : Int)] 23) = W3 at *
 have SC : Hid (∀ W, Below W3.heap.size W3 W -> W.cell? ⟨w2.heap.size, 0, none⟩ = some (.int .i64 (a : Int)) /\ W.cell? ⟨w2.heap.size, 1, none⟩ = some (.int .i64 (b : Int)) /\ W.cell? ⟨w2.heap.size, 2, none⟩ = some (.int .i64 (c : Int))) := fun W hb => ⟨(HKV.out.below hb HKV.out.lt).cell 0, (HKV.out.below hb HKV.out.lt).cell 1, (HKV.out.below hb HKV.out.lt).cell 2⟩
 have E0 : Below W3.heap.size W3 W3.drew := (Below.refl _ _).drew
 go_region_held3 (fun w' => w'.cell? ⟨w2.heap.size, 0, none⟩ = some (.int .i64 (a : Int)) /\ w'.cell? ⟨w2.heap.size, 1, none⟩ = some (.int .i64 (b : Int)) /\ w'.cell? ⟨w2.heap.size, 2, none⟩ = some (.int .i64 (c : Int))) (first | exact SC.out _ E0 | exact SC.out _ E1 | exact S5)
  (first
   | ((with_reducible refine (HG.out _).mono ?_); rintro e wK ⟨a', n', c', er, rfl, hbK, hnK, hmK⟩; have E1 : Below W3.heap.size W3 wK := E0.trans hbK; have mK := HM1.out.below E1 HM1.out.lt; have hc4 : wK.cell? ⟨w.heap.size, 0, none⟩ = some (.slice none 0 0) := mK.cell 0; have hf4 := mK.frozen 0; have S5 : (wK.setCell ⟨w.heap.size, 0, none⟩ (.slice a' n' c')).cell? ⟨w2.heap.size, 0, none⟩ = some (.int .i64 (a : Int)) /\ (wK.setCell ⟨w.heap.size, 0, none⟩ (.slice a' n' c')).cell? ⟨w2.heap.size, 1, none⟩ = some (.int .i64 (b : Int)) /\ (wK.setCell ⟨w.heap.size, 0, none⟩ (.slice a' n' c')).cell? ⟨w2.heap.size, 2, none⟩ = some (.int .i64 (c : Int)) := ⟨(cell_set_other (Nat.ne_of_gt L1.out)).trans (SC.out _ E1).1, (cell_set_other (Nat.ne_of_gt L1.out)).trans (SC.out _ E1).2.1, (cell_set_other (Nat.ne_of_gt L1.out)).trans (SC.out _ E1).2.2⟩; clear HG))
 have hset : (wK.setCell ⟨w.heap.size, 0, none⟩ (.slice a' n' c')).cell? ⟨w.heap.size, 0, none⟩ = some (.slice a' n' c') := (mK.set (i := 0)).cell 0
 have hBF : Below w.heap.size w (wK.setCell ⟨w.heap.size, 0, none⟩ (.slice a' n' c')) := (HB03.out.trans (E1.mono HB03.out.size)).setCell (p := ⟨w.heap.size, 0, none⟩) (Nat.le_refl _) _
 have hlt3 : w.heap.size < W3.heap.size := HM1.out.lt
 have hnb : (Value.slice a' n' c').ownBlock ≠ some w.heap.size := fun e => by have : W3.heap.size <= w.heap.size := hnK _ e; omega
 have hown : ∀ g, (Value.slice a' n' c').ownBlock = some g -> w.heap.size <= g := fun g e => by have : W3.heap.size <= g := hnK _ e; omega
 have HSET := Lib.hid hset
 have HBF := Lib.hid hBF
 have HNB := Lib.hid hnb
 have HOWN := Lib.hid hown
 have HMK := Lib.hid hmK
 clear hset hBF hlt3 hnb hown hmK hnK hbK mK S5 E0 E1
 go_wp2
 have h3 := HSET.out
 refine bodyPost_ret (v := .tuple #[.agg #[.slice a' n' c'], er]) (by simp [results, Tryz.results176, go_sem, h3]) rfl ?_
 have hm := HMK.out
 cases X with
 | ok l =>
  obtain ⟨rfl, hsp⟩ := hm
  exact ⟨_, rfl, hsp.set HNB.out, HOWN.out, HBF.out⟩
 | error k =>
  obtain ⟨rfl, hsl⟩ := hm
  have hb := HBF.out
  rw [hsl] at hb ⊢
  exact ⟨rfl, hb⟩
theorem word_all (s : ByteArray) (w : World) (hs : s.size <= 100000) (hw : Lb w) : Calls Tryz.prog 176 #[.string s] w (RgErr w (wordF s)) := by
 unfold wordF
 by_cases h1 : s.toList = [97, 110, 121]
 ·rw [if_pos h1]; exact word_any' s w h1
 rw [if_neg h1]
 by_cases h2 : s.toList = [110, 111, 110, 101]
 ·rw [if_pos h2]; exact word_none s w h2
 rw [if_neg h2]
 cases hv : versF (trimB s) with
 | error k => exact word_err s w hs hw (by simpa using h1) (by simpa using h2) k hv
 | ok ns =>
  obtain ⟨h3, h9⟩ := versF_len hv
  obtain ⟨a, b, c, rfl⟩ := len3 h3
  exact word_sign s w hs hw (by simpa using h1) (by simpa using h2) a b c (h9 a (by simp)) (h9 b (by simp)) (h9 c (by simp)) hv
end
end Go.Proofs.YtpmpnbbihmgdpaaGreatDoor
