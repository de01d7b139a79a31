/- Insertion sort. -/
import Derived.Test.YtbklgjmkdhinpaaGreatDoorSrPins
import Derived.Test.YtbklgjmkdhinpaaGreatDoorFmLenS
import Derived.Laws.BitsAllLaws
import Derived.Test.YtbklgjmkdhinpaaGreatDoorSrBase
set_option maxHeartbeats 4000000
set_option maxRecDepth 100000
namespace Go.Proofs.YtbklgjmkdhinpaaGreatDoor.Sr
open Go.RowKit Go.Maps Go.Proofs.YtbklgjmkdhinpaaGreatDoor.Bd Go.Proofs.YtbklgjmkdhinpaaGreatDoor.Fm Go.Sort
theorem bitLen_fin : ∀ x : Fin 256, Lib.bitLen x.val = bitsLen x.val := by decide +kernel
theorem npt_any (n : Nat) (h0 : 0 < n) (hn : n < 256) (w : World) : Calls Tryz.prog 116 #[.int .i64 (n : Int)] w fun e w' => (∃ M : Nat, e = .returned (.int .u64 (M : Int)) /\ n < M /\ M <= 2 * n) /\ w' = w := by
 have hL := Tryz.bits_Len (n : Int) w (by omega) (by omega)
 have e : Lib.bitLen ((n : Int).toNat) = bitsLen n := by rw [Int.toNat_natCast]; exact bitLen_fin ⟨n, hn⟩
 have h1 := lt_two_pow_bitsLen n
 have h2 := two_pow_bitsLen_le h0
 rw [e] at hL
 generalize bitsLen n = k at *
 have hk : k < 10 := by
  have : 2 ^ k < 2 ^ 10 := by omega
  exact (Nat.pow_lt_pow_iff_right (by decide)).1 this
 have w1 : IntKind.u64.wrap (n : Int) = (n : Int) := IntWalk.u64_in _ ⟨by omega, by omega⟩
 have e2 : (2 : Int) ^ k = ((2 ^ k : Nat) : Int) := by simp
 have w2 : IntKind.u64.wrap ((2 : Int) ^ k) = ((2 ^ k : Nat) : Int) := by rw [e2]; exact IntWalk.u64_in _ ⟨by omega, by omega⟩
 have HL := Lib.hid hL
 have HF : Hid (n < 2 ^ k /\ 2 ^ k <= 2 * n) := ⟨h1, h2⟩
 clear hL e h1 h2 e2
 go_enter Tryz.func116, Tryz.ntmps116
 go_wp2_with fail
 refine HL.out.mono ?_
 rintro e w' ⟨rfl, rfl⟩
 go_wp2
 go_ret
 exact ⟨⟨2 ^ k, by first | rfl | simp, HF.out.1, HF.out.2⟩, rfl⟩
theorem xs_any (x : Nat) (z : Int) (hx : x < 18446744073709551616) (h0 : 0 <= z) (h1 : z < 18446744073709551616) : ∃ y : Nat, y < 18446744073709551616 /\ bits .xor .u64 (x : Int) z = (y : Int) := by
 obtain ⟨m, rfl⟩ : ∃ m : Nat, z = (m : Int) := ⟨z.toNat, by omega⟩
 have hm : m < 18446744073709551616 := by omega
 exact ⟨x ^^^ m, Nat.xor_lt_two_pow (n := 64) hx hm, u64_xor_nat x m hx hm⟩
theorem xs_up (x : Nat) (s : Int) (hx : x < 18446744073709551616) : ∃ y : Nat, y < 18446744073709551616 /\ bits .xor .u64 (x : Int) (IntKind.u64.wrap ((x : Int) * s)) = (y : Int) :=
 xs_any x _ hx (by rw [IntKind.wrap_u64]; omega) (by rw [IntKind.wrap_u64]; omega)
theorem xs_down (x : Nat) (hx : x < 18446744073709551616) : ∃ y : Nat, y < 18446744073709551616 /\ bits .xor .u64 (x : Int) ((x : Int) / 128) = (y : Int) :=
 xs_any x _ hx (by omega) (by omega)
theorem next_any (rb x : Nat) (hx : x < 18446744073709551616) (w : World) (c : w.cell? ⟨rb, 0, none⟩ = some (.int .u64 (x : Int))) (f : w.frozen? ⟨rb, 0, none⟩ = false) :
  Calls Tryz.prog 117 #[.pointer (some ⟨rb, 0, none⟩)] w fun e w' => ∃ v : Nat, v < 18446744073709551616 /\ e = .returned (.int .u64 (v : Int)) /\ w'.cell? ⟨rb, 0, none⟩ = some (.int .u64 (v : Int)) /\ w'.frozen? ⟨rb, 0, none⟩ = false /\ Kept (fun j => j = rb) w w' := by
 go_enter Tryz.func117, Tryz.ntmps117
 go_wp2_with fail
 have HK1 : Hid (∀ v : Nat, (((w.setCell ⟨rb, 0, none⟩ (.int .u64 (v : Int))).drew).cell? ⟨rb, 0, none⟩ = some (.int .u64 (v : Int)) /\ ((w.setCell ⟨rb, 0, none⟩ (.int .u64 (v : Int))).drew).frozen? ⟨rb, 0, none⟩ = false) /\ Kept (fun j => j = rb) w (w.setCell ⟨rb, 0, none⟩ (.int .u64 (v : Int))).drew) := fun v => ⟨⟨World.cell?_setCell_same _ _ _ c, by show (World.setCell _ _ _).frozen? _ = false; rw [World.frozen?_setCell]; exact f⟩, (Kept.setCell (S := fun j => j = rb) w ⟨rb, 0, none⟩ _ rfl).drew⟩
 obtain ⟨x1, hx1, e1⟩ := xs_up x 8192 hx
 go_region
 obtain ⟨⟨c1, f1⟩, k1⟩ := HK1.out x1
 clear e1 c f HK1
 generalize (w.setCell ⟨rb, 0, none⟩ (.int .u64 (x1 : Int))).drew = w1 at *
 have c := c1
 have f := f1
 have K1 := Lib.hid k1
 clear c1 f1 k1
 go_wp2_with fail
 have HK2 : Hid (∀ v : Nat, (((w1.setCell ⟨rb, 0, none⟩ (.int .u64 (v : Int))).drew).cell? ⟨rb, 0, none⟩ = some (.int .u64 (v : Int)) /\ ((w1.setCell ⟨rb, 0, none⟩ (.int .u64 (v : Int))).drew).frozen? ⟨rb, 0, none⟩ = false) /\ Kept (fun j => j = rb) w1 (w1.setCell ⟨rb, 0, none⟩ (.int .u64 (v : Int))).drew) := fun v => ⟨⟨World.cell?_setCell_same _ _ _ c, by show (World.setCell _ _ _).frozen? _ = false; rw [World.frozen?_setCell]; exact f⟩, (Kept.setCell (S := fun j => j = rb) w1 ⟨rb, 0, none⟩ _ rfl).drew⟩
 obtain ⟨x2, hx2, e2⟩ := xs_down x1 hx1
 go_region
 obtain ⟨⟨c2, f2⟩, k2⟩ := HK2.out x2
 clear e2 c f HK2
 generalize (w1.setCell ⟨rb, 0, none⟩ (.int .u64 (x2 : Int))).drew = w2 at *
 have c := c2
 have f := f2
 have K2 := Lib.hid (K1.out.trans k2)
 clear c2 f2 k2
 go_wp2_with fail
 have HK3 : Hid (∀ v : Nat, (((w2.setCell ⟨rb, 0, none⟩ (.int .u64 (v : Int))).drew).cell? ⟨rb, 0, none⟩ = some (.int .u64 (v : Int)) /\ ((w2.setCell ⟨rb, 0, none⟩ (.int .u64 (v : Int))).drew).frozen? ⟨rb, 0, none⟩ = false) /\ Kept (fun j => j = rb) w2 (w2.setCell ⟨rb, 0, none⟩ (.int .u64 (v : Int))).drew) := fun v => ⟨⟨World.cell?_setCell_same _ _ _ c, by show (World.setCell _ _ _).frozen? _ = false; rw [World.frozen?_setCell]; exact f⟩, (Kept.setCell (S := fun j => j = rb) w2 ⟨rb, 0, none⟩ _ rfl).drew⟩
 obtain ⟨x3, hx3, e3⟩ := xs_up x2 131072 hx2
 go_region
 obtain ⟨⟨c3, f3⟩, k3⟩ := HK3.out x3
 clear e3 c f HK3
 generalize (w2.setCell ⟨rb, 0, none⟩ (.int .u64 (x3 : Int))).drew = w3 at *
 have c := c3
 have f := f3
 have K3 := Lib.hid (K2.out.trans k3)
 clear c3 f3 k3
 go_wp2_with fail
 go_ret
 exact ⟨x3, hx3, rfl, c, f, K3.out⟩
theorem break_any (g cap : Nat) (d : Array Int) (a b : Nat) (w : World) (h : UR w g d) (hab : a + 8 <= b) (hb : b <= d.size) (hsz : d.size < 256) :
  Calls Tryz.prog 90 #[.slice (some ⟨g, 0, none⟩) d.size cap, .int .i64 (a : Int), .int .i64 (b : Int)] w fun e w' => ∃ d', e = .returned (.tuple #[]) /\ UR w' g d' /\ PermIn a b d d' /\ KG g w w' := by
 have gl := h.lt
 have h0 := Lib.hid h
 obtain ⟨n, hn⟩ : ∃ n, n = d.size := ⟨_, rfl⟩
 obtain ⟨l, hl⟩ : ∃ l, l = b - a := ⟨_, rfl⟩
 obtain ⟨q, hq⟩ : ∃ q, q = l / 4 * 2 := ⟨_, rfl⟩
 rw [<- hn] at hb hsz ⊢
 have HN := Lib.hid hn
 have w1 : IntKind.i64.wrap ((b : Int) - (a : Int)) = (l : Int) := by rw [IntKind.wrap_i64]; omega
 have w2 : IntKind.u64.wrap (l : Int) = (l : Int) := IntWalk.u64_in _ ⟨by omega, by omega⟩
 have q1 : (l : Int) / 4 * 2 = (q : Int) := by omega
 have bl : 8 <= l /\ a + l <= n /\ l < 256 /\ 0 < q /\ q + 2 <= l := by omega
 have bl8 : (8 : Int) <= (l : Int) := by omega
 have bl9 : l <= 256 := by omega
 have HL := Lib.hid hl
 have HAB : Hid (a + l = b) := by show _ = _; omega
 have HP := fun W => Lib.hid (npt_any l (by omega) (by omega) W)
 clear h hn hl hq
 have hbox := below_new w (.cells #[.int .u64 (l : Int)] 160)
 go_enter Tryz.func90, Tryz.ntmps90
 go_wp2_with fail
 refine (HP _).out.mono ?_
 rintro e w3 ⟨⟨M, rfl, hM1, hM2⟩, rfl⟩
 have hb8 : (w.alloc (.cells #[.int .u64 (l : Int)] 160)).cell? ⟨w.heap.size, 0, none⟩ = some (.int .u64 (l : Int)) /\ (w.alloc (.cells #[.int .u64 (l : Int)] 160)).frozen? ⟨w.heap.size, 0, none⟩ = false := by simp
 have HU1 := Lib.hid (h0.out.kept (Kept.of_below hbox (fun j => j = g /\ False)) (fun h => h.2))
 have HK1 : Hid (KG g w (w.alloc (.cells #[.int .u64 (l : Int)] 160))) := Kept.of_below hbox _
 have HB8 := Lib.hid hb8
 clear hbox hb8 HP
 generalize (w.alloc (.cells #[.int .u64 (l : Int)] 160)) = W1 at *
 have hrg : w.heap.size ≠ g := by omega
 obtain ⟨I0, hI0⟩ : ∃ I0, I0 = a + q - 1 := ⟨_, rfl⟩
 obtain ⟨I2, hI2⟩ : ∃ I2, I2 = a + q + 1 := ⟨_, rfl⟩
 have r1 : (a : Int) + (q : Int) - 1 = (I0 : Int) := by omega
 have r2 : (a : Int) + (q : Int) + 1 = (I2 : Int) := by omega
 have bI : I0 + 2 = I2 /\ a <= I0 /\ I2 < a + l := by omega
 clear hI0 hI2
 go_wp2_with fail
 go_loopw [9] (fun iV wr => ∃ (i x : Nat) (dk : Array Int), iV = .int .i64 (i : Int) /\ I0 <= i /\ i <= I2 + 1 /\ dk.size = n /\ x < 18446744073709551616 /\ wr.cell? ⟨w.heap.size, 0, none⟩ = some (.int .u64 (x : Int)) /\ wr.frozen? ⟨w.heap.size, 0, none⟩ = false /\ UR wr g dk /\ PermIn a b d dk /\ KG g w wr) (fun iV _ => I2 + 1 - (intOf iV).toNat)
 case atStart => exact ⟨I0, l, d, by first | rfl | go_num | (congr 1; omega), by omega, by omega, HN.out.symm, by omega, HB8.out.1, HB8.out.2, HU1.out, permIn_refl d a b, HK1.out⟩
 case round =>
  obtain ⟨i, x, dk, rfl, b1, b2, hdk, hx, hcx, hfx, hU, hPM, hK⟩ := hrel
  clear HU1 HK1 HB8
  have hdsz := Lib.hid hdk
  have HPM := Lib.hid hPM
  by_cases hle : i <= I2
  ·have hle2 : (i : Int) <= (I2 : Int) := by omega
   have HNX := Lib.hid (next_any w.heap.size x hx wr hcx hfx)
   have HU := Lib.hid hU
   have HK := Lib.hid hK
   have HLT := Lib.hid (cells_at hcx).lt
   clear hcx hfx hU hK hPM hdk hx
   go_wp2_with fail
   refine HNX.out.mono ?_
   rintro e w4 ⟨v, hv, rfl, hc4, hf4, hk4⟩
   have HU4 := Lib.hid (HU.out.kept hk4 (fun e => hrg e.symm))
   have HK4 : Hid (KG g w w4) := HK.out.andThen hk4 (fun j hj hl => by omega)
   have HC4 := Lib.hid hc4
   have HF4 := Lib.hid hf4
   have HV := Lib.hid hv
   obtain ⟨o, ho⟩ : ∃ o, o = v &&& (M - 1) := ⟨_, rfl⟩
   have ea : bits .and .u64 (v : Int) ((M : Int) - 1) = (o : Int) := by
    rw [show (M : Int) - 1 = ((M - 1 : Nat) : Int) by omega, ho]
    exact bits_and_u64_nat v (M - 1) hv (by omega)
   have hoM : o <= M - 1 := by rw [ho]; exact Nat.and_le_right
   clear hc4 hf4 hk4 hv ho HNX HU HK
   have hi2 : i < n /\ a <= i /\ i < b := by have := HAB.out; omega
   by_cases hol : l <= o
   ·have io : (l : Int) <= (o : Int) := by omega
    obtain ⟨o2, ho2⟩ : ∃ o2, o2 = o - l := ⟨_, rfl⟩
    have wo1 : (o : Int) - (l : Int) = (o2 : Int) := by omega
    have bo2 : o2 < l := by omega
    clear ho2
    by_cases hij : i = a + o2
    ·subst hij
     have hdi : a + o2 < dk.size := by have := hdsz.out; omega
     have hU := HU4.out
     have cx := hU.cell (a + o2) hdi
     have fx := hU.froz (a + o2) hdi
     have ij2 : (a : Int) + (o2 : Int) < (n : Int) := by omega
     obtain ⟨x1, hx1⟩ : ∃ x, x = dk[a + o2]! := ⟨_, rfl⟩
     have kk := (KG.swp (g := g) w4 (a + o2) (a + o2) (.int .u64 x1) (.int .u64 x1)).drew
     have lt4 : w.heap.size < w4.heap.size := (cells_at HC4.out).lt
     have h1 := (kk.cell (a := ⟨w.heap.size, 0, none⟩) lt4 hrg).trans HC4.out
     have h2 := (kk.frozen (a := ⟨w.heap.size, 0, none⟩) lt4 hrg).trans HF4.out
     have h3 := (hU.swp hdi hdi hx1 hx1).drew
     have h4 := permIn_trans _ _ _ a b HPM.out (swp_permIn dk a b (a + o2) (a + o2) (by omega) (by have := HAB.out; omega) (by omega) (by have := HAB.out; omega) (by have := hdsz.out; have := HAB.out; omega))
     have HR := Lib.hid (⟨h1, h2, h3, h4, HK4.out.trans kk⟩ : _ /\ _ /\ _ /\ _ /\ _)
     rw [<- hx1] at cx
     clear hU hx1 h1 h2 h3 h4 kk
     go_wp2_with fail
     go_region
     go_wp2
     go_roundw
     case rel =>
      obtain ⟨h1, h2, h3, h4, h5⟩ := HR.out
      first | exact ⟨a + o2 + 1, v, _, by first | rfl | go_num | (congr 1; omega), by omega, by omega, by rw [swp_size]; exact hdsz.out, HV.out, h1, h2, h3, h4, h5⟩ | ((repeat apply Exists.intro); exact ⟨⟨a + o2 + 1, v, _, by first | rfl | go_num | (congr 1; omega), by omega, by omega, by rw [swp_size]; exact hdsz.out, HV.out, h1, h2, h3, h4, h5⟩, rfl⟩)
     case measure => first | (simp [intOf]; done) | (simp [intOf]; omega)
    ·have bj : i < dk.size /\ (a + o2) < dk.size := by have := hdsz.out; omega
     have hU := HU4.out
     have cx := hU.cell i bj.1
     have fx := hU.froz i bj.1
     have cy := hU.cell (a + o2) bj.2
     have fy := hU.froz (a + o2) bj.2
     have ij1 : (i : Int) < (n : Int) := by omega
     have ij2 : (a : Int) + (o2 : Int) < (n : Int) := by omega
     obtain ⟨x1, hx1⟩ : ∃ x, x = dk[i]! := ⟨_, rfl⟩
     obtain ⟨y1, hy1⟩ : ∃ y, y = dk[a + o2]! := ⟨_, rfl⟩
     have HR : Hid (∃ (i2 x2 : Nat) (de : Array Int), Value.int .i64 ((i : Int) + 1) = .int .i64 (i2 : Int) /\ I0 <= i2 /\ i2 <= I2 + 1 /\ de.size = n /\ x2 < 18446744073709551616 /\ ((w4.setCell ⟨g, i, none⟩ (.int .u64 y1)).setCell ⟨g, (a + o2), none⟩ (.int .u64 x1)).drew.cell? ⟨w.heap.size, 0, none⟩ = some (.int .u64 (x2 : Int)) /\ ((w4.setCell ⟨g, i, none⟩ (.int .u64 y1)).setCell ⟨g, (a + o2), none⟩ (.int .u64 x1)).drew.frozen? ⟨w.heap.size, 0, none⟩ = false /\ UR ((w4.setCell ⟨g, i, none⟩ (.int .u64 y1)).setCell ⟨g, (a + o2), none⟩ (.int .u64 x1)).drew g de /\ PermIn a b d de /\ KG g w ((w4.setCell ⟨g, i, none⟩ (.int .u64 y1)).setCell ⟨g, (a + o2), none⟩ (.int .u64 x1)).drew) := by
      have kk := (KG.swp (g := g) w4 i (a + o2) (.int .u64 y1) (.int .u64 x1)).drew
      have lt4 : w.heap.size < w4.heap.size := (cells_at HC4.out).lt
      exact ⟨i + 1, v, swp dk i (a + o2), by first | rfl | go_num | (congr 1; omega), by omega, by omega, by rw [swp_size]; exact hdsz.out, HV.out, (kk.cell (a := ⟨w.heap.size, 0, none⟩) lt4 hrg).trans HC4.out, (kk.frozen (a := ⟨w.heap.size, 0, none⟩) lt4 hrg).trans HF4.out, (hU.swp bj.1 bj.2 hx1 hy1).drew, permIn_trans _ _ _ a b HPM.out (swp_permIn dk a b i (a + o2) (by omega) (by omega) (by have := HAB.out; omega) (by have := HAB.out; omega) (by have := hdsz.out; omega)), HK4.out.trans kk⟩
     rw [<- hx1] at cx
     rw [<- hy1] at cy
     clear hU hx1 hy1 bj
     go_wp2_with fail
     go_region
     go_wp2
     go_roundw
     case rel => first | exact HR.out | ((repeat apply Exists.intro); exact ⟨HR.out, rfl⟩)
     case measure => first | (simp [intOf]; done) | (simp [intOf]; omega)
   ·have io : ¬ (l : Int) <= (o : Int) := by omega
    have bo2 : o < l := by omega
    by_cases hij : i = a + o
    ·subst hij
     have hdi : a + o < dk.size := by have := hdsz.out; omega
     have hU := HU4.out
     have cx := hU.cell (a + o) hdi
     have fx := hU.froz (a + o) hdi
     have ij2 : (a : Int) + (o : Int) < (n : Int) := by omega
     obtain ⟨x1, hx1⟩ : ∃ x, x = dk[a + o]! := ⟨_, rfl⟩
     have kk := (KG.swp (g := g) w4 (a + o) (a + o) (.int .u64 x1) (.int .u64 x1)).drew
     have lt4 : w.heap.size < w4.heap.size := (cells_at HC4.out).lt
     have h1 := (kk.cell (a := ⟨w.heap.size, 0, none⟩) lt4 hrg).trans HC4.out
     have h2 := (kk.frozen (a := ⟨w.heap.size, 0, none⟩) lt4 hrg).trans HF4.out
     have h3 := (hU.swp hdi hdi hx1 hx1).drew
     have h4 := permIn_trans _ _ _ a b HPM.out (swp_permIn dk a b (a + o) (a + o) (by omega) (by have := HAB.out; omega) (by omega) (by have := HAB.out; omega) (by have := hdsz.out; have := HAB.out; omega))
     have HR := Lib.hid (⟨h1, h2, h3, h4, HK4.out.trans kk⟩ : _ /\ _ /\ _ /\ _ /\ _)
     rw [<- hx1] at cx
     clear hU hx1 h1 h2 h3 h4 kk
     go_wp2_with fail
     go_region
     go_wp2
     go_roundw
     case rel =>
      obtain ⟨h1, h2, h3, h4, h5⟩ := HR.out
      first | exact ⟨a + o + 1, v, _, by first | rfl | go_num | (congr 1; omega), by omega, by omega, by rw [swp_size]; exact hdsz.out, HV.out, h1, h2, h3, h4, h5⟩ | ((repeat apply Exists.intro); exact ⟨⟨a + o + 1, v, _, by first | rfl | go_num | (congr 1; omega), by omega, by omega, by rw [swp_size]; exact hdsz.out, HV.out, h1, h2, h3, h4, h5⟩, rfl⟩)
     case measure => first | (simp [intOf]; done) | (simp [intOf]; omega)
    ·have bj : i < dk.size /\ (a + o) < dk.size := by have := hdsz.out; omega
     have hU := HU4.out
     have cx := hU.cell i bj.1
     have fx := hU.froz i bj.1
     have cy := hU.cell (a + o) bj.2
     have fy := hU.froz (a + o) bj.2
     have ij1 : (i : Int) < (n : Int) := by omega
     have ij2 : (a : Int) + (o : Int) < (n : Int) := by omega
     obtain ⟨x1, hx1⟩ : ∃ x, x = dk[i]! := ⟨_, rfl⟩
     obtain ⟨y1, hy1⟩ : ∃ y, y = dk[a + o]! := ⟨_, rfl⟩
     have HR : Hid (∃ (i2 x2 : Nat) (de : Array Int), Value.int .i64 ((i : Int) + 1) = .int .i64 (i2 : Int) /\ I0 <= i2 /\ i2 <= I2 + 1 /\ de.size = n /\ x2 < 18446744073709551616 /\ ((w4.setCell ⟨g, i, none⟩ (.int .u64 y1)).setCell ⟨g, (a + o), none⟩ (.int .u64 x1)).drew.cell? ⟨w.heap.size, 0, none⟩ = some (.int .u64 (x2 : Int)) /\ ((w4.setCell ⟨g, i, none⟩ (.int .u64 y1)).setCell ⟨g, (a + o), none⟩ (.int .u64 x1)).drew.frozen? ⟨w.heap.size, 0, none⟩ = false /\ UR ((w4.setCell ⟨g, i, none⟩ (.int .u64 y1)).setCell ⟨g, (a + o), none⟩ (.int .u64 x1)).drew g de /\ PermIn a b d de /\ KG g w ((w4.setCell ⟨g, i, none⟩ (.int .u64 y1)).setCell ⟨g, (a + o), none⟩ (.int .u64 x1)).drew) := by
      have kk := (KG.swp (g := g) w4 i (a + o) (.int .u64 y1) (.int .u64 x1)).drew
      have lt4 : w.heap.size < w4.heap.size := (cells_at HC4.out).lt
      exact ⟨i + 1, v, swp dk i (a + o), by first | rfl | go_num | (congr 1; omega), by omega, by omega, by rw [swp_size]; exact hdsz.out, HV.out, (kk.cell (a := ⟨w.heap.size, 0, none⟩) lt4 hrg).trans HC4.out, (kk.frozen (a := ⟨w.heap.size, 0, none⟩) lt4 hrg).trans HF4.out, (hU.swp bj.1 bj.2 hx1 hy1).drew, permIn_trans _ _ _ a b HPM.out (swp_permIn dk a b i (a + o) (by omega) (by omega) (by have := HAB.out; omega) (by have := HAB.out; omega) (by have := hdsz.out; omega)), HK4.out.trans kk⟩
     rw [<- hx1] at cx
     rw [<- hy1] at cy
     clear hU hx1 hy1 bj
     go_wp2_with fail
     go_region
     go_wp2
     go_roundw
     case rel => first | exact HR.out | ((repeat apply Exists.intro); exact ⟨HR.out, rfl⟩)
     case measure => first | (simp [intOf]; done) | (simp [intOf]; omega)
  ·have hle2 : ¬ (i : Int) <= (I2 : Int) := by omega
   clear hcx hfx
   go_wp2
   first | refine bodyPost_end (v := .tuple #[]) (by simp [results, go_sem]) rfl ?_ | refine bodyPost_end (v := .tuple #[]) (by simp [results, Tryz.results90, go_sem]) rfl ?_
   first | exact ⟨rfl, dk, hU, hPM, hK⟩ | exact ⟨dk, rfl, hU, hPM, hK⟩
  end Go.Proofs.YtbklgjmkdhinpaaGreatDoor.Sr
namespace Go.Proofs.YtbklgjmkdhinpaaGreatDoor.Sr
open Go.RowKit Go.Maps Go.Proofs.YtbklgjmkdhinpaaGreatDoor.Bd Go.Proofs.YtbklgjmkdhinpaaGreatDoor.Fm Go.Sort
theorem insInner_go {a j : Nat} {d : Array Int} (hj : a < j) (hl : ltInt d[j]! d[j - 1]! = true) : insInner ltInt a j d = insInner ltInt a (j - 1) (swp d j (j - 1)) := by
 obtain ⟨k, rfl⟩ : ∃ k, j = k + 1 := ⟨j - 1, by omega⟩
 have hl' : ltInt d[k + 1]! d[k]! = true := hl
 show (if (decide (k + 1 > a) && ltInt d[k + 1]! d[k]!) = true then _ else _) = _
 rw [if_pos (by simp [hl']; omega)]; rfl
theorem insInner_stop {a j : Nat} {d : Array Int} (h : a < j -> ltInt d[j]! d[j - 1]! = false) : insInner ltInt a j d = d := by
 cases j with
 | zero => rfl
 | succ k =>
  show (if (decide (k + 1 > a) && ltInt d[k + 1]! d[k]!) = true then _ else _) = _
  by_cases e : a < k + 1
  ·rw [if_neg (by have := h e; simp at this; simp [this])]
  ·rw [if_neg (by simp; omega)]
theorem ins_any (g cap : Nat) (d : Array Int) (a b : Nat) (w : World) (h : UR w g d) (hab : a <= b) (hb : b <= d.size) (hsz : d.size <= 1000000) :
  Calls Tryz.prog 88 #[.slice (some ⟨g, 0, none⟩) d.size cap, .int .i64 (a : Int), .int .i64 (b : Int)] w fun e w' => e = .returned (.tuple #[]) /\ UR w' g (insertionSort ltInt d a b) /\ KG g w w' := by
 have h0 := Lib.hid h
 obtain ⟨n, hn⟩ : ∃ n, n = d.size := ⟨_, rfl⟩
 rw [<- hn] at hb hsz ⊢
 have HN := Lib.hid hn
 have hw1 : IntKind.i64.wrap ((a : Int) + 1) = ((a + 1 : Nat) : Int) := by rw [IntKind.wrap_i64]; omega
 clear h hn
 go_enter Tryz.func88, Tryz.ntmps88
 go_wp2_with fail
 go_loopw [6] (fun iV wr => ∃ (i : Nat) (dk : Array Int), iV = .int .i64 (i : Int) /\ a < i /\ i <= b + 1 /\ dk.size = n /\ UR wr g dk /\ KG g w wr /\ insOuter ltInt a b i dk = insOuter ltInt a b (a + 1) d) (fun iV _ => b + 1 - (intOf iV).toNat)
 case atStart => exact ⟨a + 1, d, rfl, by omega, by omega, HN.out.symm, h0.out, Kept.refl _ _, rfl⟩
 case round =>
  obtain ⟨i, dk, rfl, hai, hi, hdk, hU, hK, heq⟩ := hrel
  clear hw1
  by_cases hlt : i < b
  ·have i1 : (i : Int) < (b : Int) := by omega
   have HO : Hid (insOuter ltInt a b (i + 1) (insInner ltInt a i dk) = insOuter ltInt a b (a + 1) d) := by
    have e : insOuter ltInt a b i dk = insOuter ltInt a b (i + 1) (insInner ltInt a i dk) := by rw [insOuter, if_pos hlt]
    rw [<- e]; exact heq
   have HST : Hid (∃ (j : Nat) (dj : Array Int), Value.int .i64 (i : Int) = .int .i64 (j : Int) /\ j <= i /\ dj.size = n /\ UR wr g dj /\ KG g w wr /\ insInner ltInt a j dj = insInner ltInt a i dk) := ⟨i, dk, rfl, Nat.le_refl _, hdk, hU, hK, rfl⟩
   clear heq hU hK hdk
   go_wp2_with fail
   go_loopw [7] (fun jV wq => ∃ (j : Nat) (dj : Array Int), jV = .int .i64 (j : Int) /\ j <= i /\ dj.size = n /\ UR wq g dj /\ KG g w wq /\ insInner ltInt a j dj = insInner ltInt a i dk) (fun jV _ => (intOf jV).toNat)
   case atStart => exact HST.out
   case round =>
    obtain ⟨j, dj, rfl, hji, hdj, hU, hK, heq⟩ := hrel
    clear HST
    have hwi : IntKind.i64.wrap ((i : Int) + 1) = ((i + 1 : Nat) : Int) := by rw [IntKind.wrap_i64]; omega
    by_cases haj : a < j
    ·have k1 : (a : Int) < (j : Int) := by omega
     have cx := hU.cell j (by omega)
     have cy := hU.cell (j - 1) (by omega)
     have fx := hU.froz j (by omega)
     have fy := hU.froz (j - 1) (by omega)
     have HU : Hid (∀ m x y, x = dj[j]! -> y = dj[j - 1]! -> UR (((wr.drewN m).setCell ⟨g, j, none⟩ (.int .u64 y)).setCell ⟨g, j - 1, none⟩ (.int .u64 x)) g (swp dj j (j - 1))) := fun m x y hx hy => (hU.drewN m).swp (by omega) (by omega) hx hy
     have HK : Hid (∀ m u v, KG g w (((wr.drewN m).setCell ⟨g, j, none⟩ u).setCell ⟨g, j - 1, none⟩ v)) := fun m u v => (hK.drewN m).trans (KG.swp _ _ _ _ _)
     obtain ⟨x, hx⟩ : ∃ x, x = dj[j]! := ⟨_, rfl⟩
     obtain ⟨y, hy⟩ : ∃ y, y = dj[j - 1]! := ⟨_, rfl⟩
     have HU2 : Hid (∀ m, UR (((wr.drewN m).setCell ⟨g, j, none⟩ (.int .u64 y)).setCell ⟨g, j - 1, none⟩ (.int .u64 x)) g (swp dj j (j - 1))) := fun m => HU.out m x y hx hy
     have w3 : IntKind.i64.wrap ((j : Int) - 1) = ((j - 1 : Nat) : Int) := by rw [IntKind.wrap_i64]; omega
     have hne : ¬ j = j - 1 := by omega
     have i2 : (j : Int) < (n : Int) := by omega
     have i3 : ((j - 1 : Nat) : Int) < (n : Int) := by omega
     have hjm : j - 1 < j := by omega
     have hds : Hid ((swp dj j (j - 1)).size = n) := by show _ = _; rw [swp_size, hdj]
     have HUD : Hid (∀ m, UR (wr.drewN m) g dj) := hU.drewN
     have HKD : Hid (∀ m, KG g w (wr.drewN m)) := hK.drewN
     have hds2 := Lib.hid hdj
     have HLT : Hid (∀ B : Bool, decide (x < y) = B -> ltInt dj[j]! dj[j - 1]! = B) := fun B hB => by rw [<- hx, <- hy]; exact hB
     have HEQ := Lib.hid heq
     rw [<- hx] at cx
     rw [<- hy] at cy
     obtain ⟨jm, hjm2⟩ : ∃ jm, jm = j - 1 := ⟨_, rfl⟩
     have HJM := Lib.hid hjm2
     rw [<- hjm2] at cy fy w3 hne i3 hjm hds HU2 HK
     clear hU hK HU heq hx hy hdj hjm2
     by_cases hxy : x < y
     ·have hl := HLT.out true (by simpa using hxy)
      have HQ := Lib.hid ((insInner_go haj hl).symm.trans HEQ.out)
      have hd : decide (x < y) = true := by simpa using hxy
      clear HLT HEQ hl HUD HKD
      go_wp2_with fail
      go_quiet (first | (go_at_call 94; refine Calls.quiet_of_same (lessU_q _ _ _)))
      go_wp2_with fail
      go_region
      go_wp2
      go_roundw
      case rel => exact ⟨jm, swp dj j jm, rfl, by omega, hds.out, HU2.out _, HK.out _ _ _, by rw [HJM.out]; exact HQ.out⟩
      case measure => simp [intOf]; omega
     ·have hl := HLT.out false (by simpa using hxy)
      have HQ := Lib.hid ((insInner_stop (a := a) (fun _ => hl)).symm.trans HEQ.out)
      have hd : decide (x < y) = false := by simpa using hxy
      clear HLT HEQ hl HU2 HK
      go_wp2_with fail
      go_quiet (first | (go_at_call 94; refine Calls.quiet_of_same (lessU_q _ _ _)))
      go_wp2
      go_roundw
      case rel => exact ⟨i + 1, dj, by go_num, by omega, by omega, hds2.out, HUD.out _, HKD.out _, by rw [HQ.out]; exact HO.out⟩
      case measure => simp [intOf]; omega
    ·have k1 : decide ((a : Int) < (j : Int)) = false := by simp; omega
     have HQ := Lib.hid ((insInner_stop (a := a) (j := j) (d := dj) (fun h => absurd h haj)).symm.trans heq)
     have HUD : Hid (∀ m, UR (wr.drewN m) g dj) := hU.drewN
     have HKD : Hid (∀ m, KG g w (wr.drewN m)) := hK.drewN
     have hds2 := Lib.hid hdj
     clear hU hK heq hdj
     go_wp2_with fail
     go_quiet (fail)
     go_wp2
     go_roundw
     case rel => exact ⟨i + 1, dj, by go_num, by omega, by omega, hds2.out, HUD.out _, HKD.out _, by rw [HQ.out]; exact HO.out⟩
     case measure => simp [intOf]; omega
  ·have HD := Lib.hid heq
   clear heq
   have i1 : ¬ (i : Int) < (b : Int) := by omega
   go_wp2
   refine bodyPost_end (v := .tuple #[]) (by simp [results, Tryz.results88, go_sem]) rfl ⟨rfl, ?_, hK⟩
   have := HD.out
   rw [insOuter, if_neg hlt] at this
   rw [insertionSort, <- this]; exact hU
end Go.Proofs.YtbklgjmkdhinpaaGreatDoor.Sr
