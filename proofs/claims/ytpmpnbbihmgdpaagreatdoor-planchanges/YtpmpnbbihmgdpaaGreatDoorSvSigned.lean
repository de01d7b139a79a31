/- signed: a version with signs ahead. -/
import Derived.Test.YtpmpnbbihmgdpaaGreatDoorSvNum
set_option maxHeartbeats 2000000
set_option maxRecDepth 100000
namespace Go.Proofs.YtpmpnbbihmgdpaaGreatDoor
open Go.RowKit Go.Shelf Sv
def numN (a b c : Nat) : Nat := (a * 1000 + b) * 1000 + c
def careN (a b c : Nat) : Nat := if a ≠ 0 then numN (a + 1) 0 0 else if b ≠ 0 then numN a (b + 1) 0 else numN a b (c + 1)
def signF (g : List UInt8) (a b c : Nat) : Except Int (List Span) :=
 if g = [] \/ g = [61] then .ok (rowF (numN a b c) (numN a b c + 1))
 else if g = [33] then .ok (nt (rowF (numN a b c) (numN a b c + 1)))
 else if g = [60] then .ok (rowF 0 (numN a b c))
 else if g = [60, 61] then .ok (rowF 0 (numN a b c + 1))
 else if g = [62] then .ok (rowF (numN a b c + 1) ALL)
 else if g = [62, 61] then .ok (rowF (numN a b c) ALL)
 else if g = [94] then .ok (rowF (numN a b c) (careN a b c))
 else if g = [126] then .ok (rowF (numN a b c) (numN a (b + 1) 0))
 else .error 3
theorem numN_lt {a b c : Nat} (ha : a <= 999) (hb : b <= 999) (hc : c <= 999) : numN a b c < ALL := by unfold numN ALL; omega
theorem careN_le {a b c : Nat} (ha : a <= 999) (hb : b <= 999) (hc : c <= 999) : careN a b c <= ALL := by
 unfold careN numN ALL
 split
 ·omega
 ·split <;> omega
theorem signF_rg {g : List UInt8} {a b c : Nat} (ha : a <= 999) (hb : b <= 999) (hc : c <= 999) {l : List Span} (h : signF g a b c = .ok l) : Rg l := by
 have h1 := numN_lt ha hb hc
 have h2 := careN_le ha hb hc
 have h3 : numN a (b + 1) 0 <= ALL := by unfold numN ALL; omega
 unfold signF at h
 repeat' split at h
 all_goals first
  | (cases h; exact rg_row (by omega))
  | (cases h; exact rg_row (Nat.le_refl _))
  | (cases h; exact rg_nt (rg_row (by omega)))
  | cases h
def RgErr (w : World) (x : Except Int (List Span)) (e : Ending) (w' : World) : Prop :=
 match x with
 | .ok l => ∃ v', e = .returned (.tuple #[.agg #[v'], .nilIface]) /\ SpAt w' v' l /\ (∀ g, v'.ownBlock = some g -> w.heap.size <= g) /\ Below w.heap.size w w'
 | .error k => e = .returned (.tuple #[.agg #[.slice none 0 0], .iface 34 (.int .i64 k)]) /\ Below w.heap.size w w'
theorem sign_box (w : World) (A B C : Value) : ∃ W0 : World, ((w.alloc (.cells #[A, B, C] 23)).alloc (.cells #[.slice none 0 0] 96)) = W0 /\ Blk W0 w.heap.size 23 #[A, B, C] /\ Blk W0 (w.heap.size + 1) 96 #[.slice none 0 0] /\ Below w.heap.size w W0 /\ W0.heap.size = w.heap.size + 2 := by
 have k0 := (Blk.new w 23 #[A, B, C]).alloc (.cells #[.slice none 0 0] 96)
 have k1 := Blk.new (w.alloc (.cells #[A, B, C] 23)) 96 #[.slice none 0 0]
 rw [World.size_alloc] at k1
 exact ⟨_, rfl, k0, k1, ((Below.refl _ w).alloc (Nat.le_refl _) _).alloc (by simp only [World.size_alloc]; omega) _, by simp only [World.size_alloc]⟩
theorem row_form' (x y : Nat) (W : World) : Calls Tryz.prog 198 #[.int .i64 (x : Int), .int .i64 (y : Int)] W fun e w' => ∃ a' c', e = .returned (.agg #[.slice a' (rowF x y).length c']) /\ SpAt w' (.slice a' (rowF x y).length c') (rowF x y) /\ (∀ g, (Value.slice a' (rowF x y).length c').ownBlock = some g -> W.heap.size <= g) /\ Below W.heap.size W w' :=
 (row_any x y W).mono fun e w' ⟨v', he, hs, hn, hb⟩ => by obtain ⟨a', c', rfl⟩ := hs.form; exact ⟨a', c', he, hs, hn, hb⟩
theorem not_form (l : List Span) (hl : Rg l) (v : Value) (W : World) (hv : SpAt W v l) : Calls Tryz.prog 178 #[.agg #[v]] W fun e w' => ∃ a' c', e = .returned (.agg #[.slice a' (nt l).length c']) /\ SpAt w' (.slice a' (nt l).length c') (nt l) /\ (∀ g, (Value.slice a' (nt l).length c').ownBlock = some g -> W.heap.size <= g) /\ Below W.heap.size W w' :=
 (not_any l hl v W hv).mono fun e w' ⟨v', he, hs, hn, hb⟩ => by obtain ⟨a', c', rfl⟩ := hs.form; exact ⟨a', c', he, hs, hn, hb⟩
theorem sign_none (g : ByteArray) (a b c : Nat) (ha : a <= 999) (hb : b <= 999) (hc : c <= 999) (w : World) (hg : g.toList = []) :
  Calls Tryz.prog 216 #[.string g, .agg #[.int .i64 (a : Int), .int .i64 (b : Int), .int .i64 (c : Int)]] w (RgErr w (.ok (rowF (numN a b c) (numN a b c + 1)))) := by
 have HN : Hid (∀ W, Calls Tryz.prog 150 #[.agg #[.int .i64 (a : Int), .int .i64 (b : Int), .int .i64 (c : Int)]] W fun e w' => e = .returned (.int .i64 (numN a b c : Nat)) /\ Below W.heap.size W w') := fun W => number_any a b c (by omega) (by omega) (by omega) W
 have hlt := numN_lt ha hb hc
 generalize numN a b c = n at *
 have hlt' : (n : Int) < 1000000000 := by unfold ALL at hlt; omega
 obtain ⟨W0, hW0, k0, k1, hB, hs0⟩ := sign_box w (.int .i64 (a : Int)) (.int .i64 (b : Int)) (.int .i64 (c : Int))
 have HR := Lib.hid (fun W => row_form' n (n + 1) W)
 have HW0 := Lib.hid hW0
 have HK0 := Lib.hid k0
 have HK1 := Lib.hid k1
 have HB := Lib.hid hB
 have HS := Lib.hid hs0
 have HLT := Lib.hid hlt
 clear hW0 k0 k1 hB hs0 hlt
 go_enter Tryz.func216, Tryz.ntmps216
 go_wp2_with fail
 rw [HW0.out]
 refine (HN.out _).mono ?_
 rintro e w1 ⟨rfl, hb1⟩
 have D1 := Lib.hid hb1
 clear hb1
 go_wp2_with fail
 refine (HR.out _).mono ?_
 rintro e wK ⟨a', c', rfl, hsK, hnn, hbK⟩
 have hn2 : ∀ g, (Value.slice a' (rowF n (n + 1)).length c').ownBlock = some g -> W0.heap.size <= g := fun g hg => Nat.le_trans D1.out.size (hnn g hg)
 have DK : Below W0.heap.size W0 wK := D1.out.trans (hbK.mono D1.out.size)
 have hl1 : w.heap.size + 1 < W0.heap.size := by have := HS.out; omega
 have hc4 : wK.cell? ⟨w.heap.size + 1, 0, none⟩ = some (.slice none 0 0) := (HK1.out.below DK hl1).cell 0
 have hf4 := (HK1.out.below DK hl1).frozen 0
 have HP := Lib.hid (put_out HB.out (HK1.out.cell 0) (Nat.le_succ _) hl1 hsK hn2 DK)
 clear hsK hnn hbK hn2 DK hl1
 go_wp2
 obtain ⟨h3, h4, h5, h6⟩ := HP.out
 refine bodyPost_ret (v := .tuple #[.agg #[.slice a' (rowF n (n + 1)).length c'], .nilIface]) (by simp [results, Tryz.results216, go_sem, h3]) rfl ?_
 exact ⟨_, rfl, h4, h5, h6⟩
theorem sign_eq (g : ByteArray) (a b c : Nat) (ha : a <= 999) (hb : b <= 999) (hc : c <= 999) (w : World) (hg : g.toList = [61]) :
  Calls Tryz.prog 216 #[.string g, .agg #[.int .i64 (a : Int), .int .i64 (b : Int), .int .i64 (c : Int)]] w (RgErr w (.ok (rowF (numN a b c) (numN a b c + 1)))) := by
 have HN : Hid (∀ W, Calls Tryz.prog 150 #[.agg #[.int .i64 (a : Int), .int .i64 (b : Int), .int .i64 (c : Int)]] W fun e w' => e = .returned (.int .i64 (numN a b c : Nat)) /\ Below W.heap.size W w') := fun W => number_any a b c (by omega) (by omega) (by omega) W
 have hlt := numN_lt ha hb hc
 generalize numN a b c = n at *
 have hlt' : (n : Int) < 1000000000 := by unfold ALL at hlt; omega
 obtain ⟨W0, hW0, k0, k1, hB, hs0⟩ := sign_box w (.int .i64 (a : Int)) (.int .i64 (b : Int)) (.int .i64 (c : Int))
 have HR := Lib.hid (fun W => row_form' n (n + 1) W)
 have HW0 := Lib.hid hW0
 have HK0 := Lib.hid k0
 have HK1 := Lib.hid k1
 have HB := Lib.hid hB
 have HS := Lib.hid hs0
 have HLT := Lib.hid hlt
 clear hW0 k0 k1 hB hs0 hlt
 go_enter Tryz.func216, Tryz.ntmps216
 go_wp2_with fail
 rw [HW0.out]
 refine (HN.out _).mono ?_
 rintro e w1 ⟨rfl, hb1⟩
 have D1 := Lib.hid hb1
 clear hb1
 go_wp2_with fail
 refine (HR.out _).mono ?_
 rintro e wK ⟨a', c', rfl, hsK, hnn, hbK⟩
 have hn2 : ∀ g, (Value.slice a' (rowF n (n + 1)).length c').ownBlock = some g -> W0.heap.size <= g := fun g hg => Nat.le_trans D1.out.size (hnn g hg)
 have DK : Below W0.heap.size W0 wK := D1.out.trans (hbK.mono D1.out.size)
 have hl1 : w.heap.size + 1 < W0.heap.size := by have := HS.out; omega
 have hc4 : wK.cell? ⟨w.heap.size + 1, 0, none⟩ = some (.slice none 0 0) := (HK1.out.below DK hl1).cell 0
 have hf4 := (HK1.out.below DK hl1).frozen 0
 have HP := Lib.hid (put_out HB.out (HK1.out.cell 0) (Nat.le_succ _) hl1 hsK hn2 DK)
 clear hsK hnn hbK hn2 DK hl1
 go_wp2
 obtain ⟨h3, h4, h5, h6⟩ := HP.out
 refine bodyPost_ret (v := .tuple #[.agg #[.slice a' (rowF n (n + 1)).length c'], .nilIface]) (by simp [results, Tryz.results216, go_sem, h3]) rfl ?_
 exact ⟨_, rfl, h4, h5, h6⟩
theorem sign_lt (g : ByteArray) (a b c : Nat) (ha : a <= 999) (hb : b <= 999) (hc : c <= 999) (w : World) (hg : g.toList = [60]) :
  Calls Tryz.prog 216 #[.string g, .agg #[.int .i64 (a : Int), .int .i64 (b : Int), .int .i64 (c : Int)]] w (RgErr w (.ok (rowF 0 (numN a b c)))) := by
 have HN : Hid (∀ W, Calls Tryz.prog 150 #[.agg #[.int .i64 (a : Int), .int .i64 (b : Int), .int .i64 (c : Int)]] W fun e w' => e = .returned (.int .i64 (numN a b c : Nat)) /\ Below W.heap.size W w') := fun W => number_any a b c (by omega) (by omega) (by omega) W
 have hlt := numN_lt ha hb hc
 generalize numN a b c = n at *
 have hlt' : (n : Int) < 1000000000 := by unfold ALL at hlt; omega
 obtain ⟨W0, hW0, k0, k1, hB, hs0⟩ := sign_box w (.int .i64 (a : Int)) (.int .i64 (b : Int)) (.int .i64 (c : Int))
 have HR := Lib.hid (fun W => row_form' 0 n W)
 have HW0 := Lib.hid hW0
 have HK0 := Lib.hid k0
 have HK1 := Lib.hid k1
 have HB := Lib.hid hB
 have HS := Lib.hid hs0
 have HLT := Lib.hid hlt
 clear hW0 k0 k1 hB hs0 hlt
 go_enter Tryz.func216, Tryz.ntmps216
 go_wp2_with fail
 rw [HW0.out]
 refine (HN.out _).mono ?_
 rintro e w1 ⟨rfl, hb1⟩
 have D1 := Lib.hid hb1
 clear hb1
 go_wp2_with fail
 refine (HR.out _).mono ?_
 rintro e wK ⟨a', c', rfl, hsK, hnn, hbK⟩
 have hn2 : ∀ g, (Value.slice a' (rowF 0 n).length c').ownBlock = some g -> W0.heap.size <= g := fun g hg => Nat.le_trans D1.out.size (hnn g hg)
 have DK : Below W0.heap.size W0 wK := D1.out.trans (hbK.mono D1.out.size)
 have hl1 : w.heap.size + 1 < W0.heap.size := by have := HS.out; omega
 have hc4 : wK.cell? ⟨w.heap.size + 1, 0, none⟩ = some (.slice none 0 0) := (HK1.out.below DK hl1).cell 0
 have hf4 := (HK1.out.below DK hl1).frozen 0
 have HP := Lib.hid (put_out HB.out (HK1.out.cell 0) (Nat.le_succ _) hl1 hsK hn2 DK)
 clear hsK hnn hbK hn2 DK hl1
 go_wp2
 obtain ⟨h3, h4, h5, h6⟩ := HP.out
 refine bodyPost_ret (v := .tuple #[.agg #[.slice a' (rowF 0 n).length c'], .nilIface]) (by simp [results, Tryz.results216, go_sem, h3]) rfl ?_
 exact ⟨_, rfl, h4, h5, h6⟩
theorem sign_le (g : ByteArray) (a b c : Nat) (ha : a <= 999) (hb : b <= 999) (hc : c <= 999) (w : World) (hg : g.toList = [60, 61]) :
  Calls Tryz.prog 216 #[.string g, .agg #[.int .i64 (a : Int), .int .i64 (b : Int), .int .i64 (c : Int)]] w (RgErr w (.ok (rowF 0 (numN a b c + 1)))) := by
 have HN : Hid (∀ W, Calls Tryz.prog 150 #[.agg #[.int .i64 (a : Int), .int .i64 (b : Int), .int .i64 (c : Int)]] W fun e w' => e = .returned (.int .i64 (numN a b c : Nat)) /\ Below W.heap.size W w') := fun W => number_any a b c (by omega) (by omega) (by omega) W
 have hlt := numN_lt ha hb hc
 generalize numN a b c = n at *
 have hlt' : (n : Int) < 1000000000 := by unfold ALL at hlt; omega
 obtain ⟨W0, hW0, k0, k1, hB, hs0⟩ := sign_box w (.int .i64 (a : Int)) (.int .i64 (b : Int)) (.int .i64 (c : Int))
 have HR := Lib.hid (fun W => row_form' 0 (n + 1) W)
 have HW0 := Lib.hid hW0
 have HK0 := Lib.hid k0
 have HK1 := Lib.hid k1
 have HB := Lib.hid hB
 have HS := Lib.hid hs0
 have HLT := Lib.hid hlt
 clear hW0 k0 k1 hB hs0 hlt
 go_enter Tryz.func216, Tryz.ntmps216
 go_wp2_with fail
 rw [HW0.out]
 refine (HN.out _).mono ?_
 rintro e w1 ⟨rfl, hb1⟩
 have D1 := Lib.hid hb1
 clear hb1
 go_wp2_with fail
 refine (HR.out _).mono ?_
 rintro e wK ⟨a', c', rfl, hsK, hnn, hbK⟩
 have hn2 : ∀ g, (Value.slice a' (rowF 0 (n + 1)).length c').ownBlock = some g -> W0.heap.size <= g := fun g hg => Nat.le_trans D1.out.size (hnn g hg)
 have DK : Below W0.heap.size W0 wK := D1.out.trans (hbK.mono D1.out.size)
 have hl1 : w.heap.size + 1 < W0.heap.size := by have := HS.out; omega
 have hc4 : wK.cell? ⟨w.heap.size + 1, 0, none⟩ = some (.slice none 0 0) := (HK1.out.below DK hl1).cell 0
 have hf4 := (HK1.out.below DK hl1).frozen 0
 have HP := Lib.hid (put_out HB.out (HK1.out.cell 0) (Nat.le_succ _) hl1 hsK hn2 DK)
 clear hsK hnn hbK hn2 DK hl1
 go_wp2
 obtain ⟨h3, h4, h5, h6⟩ := HP.out
 refine bodyPost_ret (v := .tuple #[.agg #[.slice a' (rowF 0 (n + 1)).length c'], .nilIface]) (by simp [results, Tryz.results216, go_sem, h3]) rfl ?_
 exact ⟨_, rfl, h4, h5, h6⟩
theorem sign_gt (g : ByteArray) (a b c : Nat) (ha : a <= 999) (hb : b <= 999) (hc : c <= 999) (w : World) (hg : g.toList = [62]) :
  Calls Tryz.prog 216 #[.string g, .agg #[.int .i64 (a : Int), .int .i64 (b : Int), .int .i64 (c : Int)]] w (RgErr w (.ok (rowF (numN a b c + 1) 1000000000))) := by
 have HN : Hid (∀ W, Calls Tryz.prog 150 #[.agg #[.int .i64 (a : Int), .int .i64 (b : Int), .int .i64 (c : Int)]] W fun e w' => e = .returned (.int .i64 (numN a b c : Nat)) /\ Below W.heap.size W w') := fun W => number_any a b c (by omega) (by omega) (by omega) W
 have hlt := numN_lt ha hb hc
 generalize numN a b c = n at *
 have hlt' : (n : Int) < 1000000000 := by unfold ALL at hlt; omega
 obtain ⟨W0, hW0, k0, k1, hB, hs0⟩ := sign_box w (.int .i64 (a : Int)) (.int .i64 (b : Int)) (.int .i64 (c : Int))
 have HR := Lib.hid (fun W => row_form' (n + 1) 1000000000 W)
 have HW0 := Lib.hid hW0
 have HK0 := Lib.hid k0
 have HK1 := Lib.hid k1
 have HB := Lib.hid hB
 have HS := Lib.hid hs0
 have HLT := Lib.hid hlt
 clear hW0 k0 k1 hB hs0 hlt
 go_enter Tryz.func216, Tryz.ntmps216
 go_wp2_with fail
 rw [HW0.out]
 refine (HN.out _).mono ?_
 rintro e w1 ⟨rfl, hb1⟩
 have D1 := Lib.hid hb1
 clear hb1
 go_wp2_with fail
 refine (HR.out _).mono ?_
 rintro e wK ⟨a', c', rfl, hsK, hnn, hbK⟩
 have hn2 : ∀ g, (Value.slice a' (rowF (n + 1) 1000000000).length c').ownBlock = some g -> W0.heap.size <= g := fun g hg => Nat.le_trans D1.out.size (hnn g hg)
 have DK : Below W0.heap.size W0 wK := D1.out.trans (hbK.mono D1.out.size)
 have hl1 : w.heap.size + 1 < W0.heap.size := by have := HS.out; omega
 have hc4 : wK.cell? ⟨w.heap.size + 1, 0, none⟩ = some (.slice none 0 0) := (HK1.out.below DK hl1).cell 0
 have hf4 := (HK1.out.below DK hl1).frozen 0
 have HP := Lib.hid (put_out HB.out (HK1.out.cell 0) (Nat.le_succ _) hl1 hsK hn2 DK)
 clear hsK hnn hbK hn2 DK hl1
 go_wp2
 obtain ⟨h3, h4, h5, h6⟩ := HP.out
 refine bodyPost_ret (v := .tuple #[.agg #[.slice a' (rowF (n + 1) 1000000000).length c'], .nilIface]) (by simp [results, Tryz.results216, go_sem, h3]) rfl ?_
 exact ⟨_, rfl, h4, h5, h6⟩
theorem sign_ge (g : ByteArray) (a b c : Nat) (ha : a <= 999) (hb : b <= 999) (hc : c <= 999) (w : World) (hg : g.toList = [62, 61]) :
  Calls Tryz.prog 216 #[.string g, .agg #[.int .i64 (a : Int), .int .i64 (b : Int), .int .i64 (c : Int)]] w (RgErr w (.ok (rowF (numN a b c) 1000000000))) := by
 have HN : Hid (∀ W, Calls Tryz.prog 150 #[.agg #[.int .i64 (a : Int), .int .i64 (b : Int), .int .i64 (c : Int)]] W fun e w' => e = .returned (.int .i64 (numN a b c : Nat)) /\ Below W.heap.size W w') := fun W => number_any a b c (by omega) (by omega) (by omega) W
 have hlt := numN_lt ha hb hc
 generalize numN a b c = n at *
 have hlt' : (n : Int) < 1000000000 := by unfold ALL at hlt; omega
 obtain ⟨W0, hW0, k0, k1, hB, hs0⟩ := sign_box w (.int .i64 (a : Int)) (.int .i64 (b : Int)) (.int .i64 (c : Int))
 have HR := Lib.hid (fun W => row_form' n 1000000000 W)
 have HW0 := Lib.hid hW0
 have HK0 := Lib.hid k0
 have HK1 := Lib.hid k1
 have HB := Lib.hid hB
 have HS := Lib.hid hs0
 have HLT := Lib.hid hlt
 clear hW0 k0 k1 hB hs0 hlt
 go_enter Tryz.func216, Tryz.ntmps216
 go_wp2_with fail
 rw [HW0.out]
 refine (HN.out _).mono ?_
 rintro e w1 ⟨rfl, hb1⟩
 have D1 := Lib.hid hb1
 clear hb1
 go_wp2_with fail
 refine (HR.out _).mono ?_
 rintro e wK ⟨a', c', rfl, hsK, hnn, hbK⟩
 have hn2 : ∀ g, (Value.slice a' (rowF n 1000000000).length c').ownBlock = some g -> W0.heap.size <= g := fun g hg => Nat.le_trans D1.out.size (hnn g hg)
 have DK : Below W0.heap.size W0 wK := D1.out.trans (hbK.mono D1.out.size)
 have hl1 : w.heap.size + 1 < W0.heap.size := by have := HS.out; omega
 have hc4 : wK.cell? ⟨w.heap.size + 1, 0, none⟩ = some (.slice none 0 0) := (HK1.out.below DK hl1).cell 0
 have hf4 := (HK1.out.below DK hl1).frozen 0
 have HP := Lib.hid (put_out HB.out (HK1.out.cell 0) (Nat.le_succ _) hl1 hsK hn2 DK)
 clear hsK hnn hbK hn2 DK hl1
 go_wp2
 obtain ⟨h3, h4, h5, h6⟩ := HP.out
 refine bodyPost_ret (v := .tuple #[.agg #[.slice a' (rowF n 1000000000).length c'], .nilIface]) (by simp [results, Tryz.results216, go_sem, h3]) rfl ?_
 exact ⟨_, rfl, h4, h5, h6⟩
theorem sign_not (g : ByteArray) (a b c : Nat) (ha : a <= 999) (hb : b <= 999) (hc : c <= 999) (w : World) (hg : g.toList = [33]) :
  Calls Tryz.prog 216 #[.string g, .agg #[.int .i64 (a : Int), .int .i64 (b : Int), .int .i64 (c : Int)]] w (RgErr w (.ok (nt (rowF (numN a b c) (numN a b c + 1))))) := by
 have HN : Hid (∀ W, Calls Tryz.prog 150 #[.agg #[.int .i64 (a : Int), .int .i64 (b : Int), .int .i64 (c : Int)]] W fun e w' => e = .returned (.int .i64 (numN a b c : Nat)) /\ Below W.heap.size W w') := fun W => number_any a b c (by omega) (by omega) (by omega) W
 have hlt := numN_lt ha hb hc
 generalize numN a b c = n at *
 have hlt' : (n : Int) < 1000000000 := by unfold ALL at hlt; omega
 obtain ⟨W0, hW0, k0, k1, hB, hs0⟩ := sign_box w (.int .i64 (a : Int)) (.int .i64 (b : Int)) (.int .i64 (c : Int))
 have HR := Lib.hid (fun W => row_form' n (n + 1) W)
 have HT : Hid (∀ v W, SpAt W v (rowF n (n + 1)) -> Calls Tryz.prog 178 #[.agg #[v]] W fun e w' => ∃ a' c', e = .returned (.agg #[.slice a' (nt (rowF n (n + 1))).length c']) /\ SpAt w' (.slice a' (nt (rowF n (n + 1))).length c') (nt (rowF n (n + 1))) /\ (∀ g, (Value.slice a' (nt (rowF n (n + 1))).length c').ownBlock = some g -> W.heap.size <= g) /\ Below W.heap.size W w') := fun v W h => not_form _ (rg_row (by omega)) v W h
 have HW0 := Lib.hid hW0
 have HK0 := Lib.hid k0
 have HK1 := Lib.hid k1
 have HB := Lib.hid hB
 have HS := Lib.hid hs0
 have HLT := Lib.hid hlt
 clear hW0 k0 k1 hB hs0 hlt
 go_enter Tryz.func216, Tryz.ntmps216
 go_wp2_with fail
 rw [HW0.out]
 refine (HN.out _).mono ?_
 rintro e w1 ⟨rfl, hb1⟩
 have D1 := Lib.hid hb1
 clear hb1
 go_wp2_with fail
 refine (HR.out _).mono ?_
 rintro e w2 ⟨a2, c2, rfl, hs2, -, hb2⟩
 have D2 : Hid (Below W0.heap.size W0 w2) := D1.out.trans (hb2.mono D1.out.size)
 have HT2 := Lib.hid (HT.out _ _ hs2)
 clear hs2 hb2 HT HR
 go_wp2_with fail
 refine HT2.out.mono ?_
 rintro e wK ⟨a', c', rfl, hsK, hnn, hbK⟩
 have hn2 : ∀ g, (Value.slice a' (nt (rowF n (n + 1))).length c').ownBlock = some g -> W0.heap.size <= g := fun g hg => Nat.le_trans D2.out.size (hnn g hg)
 have DK : Below W0.heap.size W0 wK := D2.out.trans (hbK.mono D2.out.size)
 have hl1 : w.heap.size + 1 < W0.heap.size := by have := HS.out; omega
 have hc4 : wK.cell? ⟨w.heap.size + 1, 0, none⟩ = some (.slice none 0 0) := (HK1.out.below DK hl1).cell 0
 have hf4 := (HK1.out.below DK hl1).frozen 0
 have HP := Lib.hid (put_out HB.out (HK1.out.cell 0) (Nat.le_succ _) hl1 hsK hn2 DK)
 clear hsK hnn hbK hn2 DK hl1
 go_wp2
 obtain ⟨h3, h4, h5, h6⟩ := HP.out
 refine bodyPost_ret (v := .tuple #[.agg #[.slice a' (nt (rowF n (n + 1))).length c'], .nilIface]) (by simp [results, Tryz.results216, go_sem, h3]) rfl ?_
 exact ⟨_, rfl, h4, h5, h6⟩
end Go.Proofs.YtpmpnbbihmgdpaaGreatDoor
