/- gathered: the family of the sets of a list. -/
import Derived.Test.YtkpjipohajplgaaGreatDoorBdDone
import Derived.Test.YtkpjipohajplgaaGreatDoorFmSameU
import Derived.Test.YtkpjipohajplgaaGreatDoorCnNum
set_option maxHeartbeats 8000000
set_option maxRecDepth 100000
namespace Go.Proofs.YtkpjipohajplgaaGreatDoor.Fm
open Go.RowKit Go.Maps Go.Proofs.YtkpjipohajplgaaGreatDoor.Bd
theorem and_u64r (a b : Nat) (ha : a < 18446744073709551616) (hb : b < 18446744073709551616) : bits BinOp.and IntKind.u64 (a : Int) (b : Int) = ((a &&& b : Nat) : Int) := bits_and_u64_nat a b ha hb
theorem w_u64r (x : Int) (n : Nat) (h : x = (n : Int)) (hn : n < 18446744073709551616) : IntKind.u64.wrap x = (n : Int) := by subst h; rw [IntKind.wrap_u64]; omega
theorem divs (c A R y : Nat) (hc : 0 < c) (h : y = A + c * R) (hA : A < c) : y / c = R := by
 subst h; rw [Nat.add_mul_div_left _ _ hc, Nat.div_eq_of_lt hA, Nat.zero_add]
theorem st4 (p0 p1 p2 p3 p4 p5 p6 p7 : Nat) : p0 + 256 * (p1 + 256 * (p2 + 256 * (p3 + 256 * (p4 + 256 * (p5 + 256 * (p6 + 256 * p7)))))) + (p1 + 256 * (p2 + 256 * (p3 + 256 * (p4 + 256 * (p5 + 256 * (p6 + 256 * p7)))))) = (p0 + p1 + 256 * (p1 + p2)) + 65536 * ((p2 + p3) + 256 * (p3 + p4) + 65536 * ((p4 + p5) + 256 * (p5 + p6) + 65536 * ((p6 + p7) + 256 * p7))) := by omega
theorem st5 (p0 p1 p2 p3 p4 p5 p6 p7 : Nat) : (p0 + p1 + 256 * (p1 + p2)) + 65536 * ((p2 + p3) + 256 * (p3 + p4) + 65536 * ((p4 + p5) + 256 * (p5 + p6) + 65536 * ((p6 + p7) + 256 * p7))) + ((p2 + p3) + 256 * (p3 + p4) + 65536 * ((p4 + p5) + 256 * (p5 + p6) + 65536 * ((p6 + p7) + 256 * p7))) = (p0 + p1 + p2 + p3 + 256 * (p1 + p2 + p3 + p4) + 65536 * ((p2 + p3 + p4 + p5) + 256 * (p3 + p4 + p5 + p6))) + 4294967296 * ((p4 + p5 + p6 + p7) + 256 * (p5 + p6 + p7) + 65536 * ((p6 + p7) + 256 * p7)) := by omega
theorem st6 (p0 p1 p2 p3 p4 p5 p6 p7 : Nat) : (p0 + p1 + p2 + p3 + 256 * (p1 + p2 + p3 + p4) + 65536 * ((p2 + p3 + p4 + p5) + 256 * (p3 + p4 + p5 + p6))) + 4294967296 * ((p4 + p5 + p6 + p7) + 256 * (p5 + p6 + p7) + 65536 * ((p6 + p7) + 256 * p7)) + ((p4 + p5 + p6 + p7) + 256 * (p5 + p6 + p7) + 65536 * ((p6 + p7) + 256 * p7)) = (p0 + p1 + p2 + p3 + p4 + p5 + p6 + p7) + 128 * (2 * (p1 + p2 + p3 + p4 + p5 + p6 + p7) + 512 * ((p2 + p3 + p4 + p5 + p6 + p7) + 256 * (p3 + p4 + p5 + p6 + p7)) + 33554432 * ((p4 + p5 + p6 + p7) + 256 * (p5 + p6 + p7) + 65536 * ((p6 + p7) + 256 * p7))) := by omega
theorem bd3 {p0 : Nat} (h0 : p0 <= 8) : p0 < 256 := by omega
theorem bd4 {p0 p1 p2 : Nat} (h0 : p0 <= 8) (h1 : p1 <= 8) (h2 : p2 <= 8) : p0 + p1 + 256 * (p1 + p2) < 65536 := by omega
theorem bd5 {p0 p1 p2 p3 p4 p5 p6 : Nat} (h0 : p0 <= 8) (h1 : p1 <= 8) (h2 : p2 <= 8) (h3 : p3 <= 8) (h4 : p4 <= 8) (h5 : p5 <= 8) (h6 : p6 <= 8) : p0 + p1 + p2 + p3 + 256 * (p1 + p2 + p3 + p4) + 65536 * ((p2 + p3 + p4 + p5) + 256 * (p3 + p4 + p5 + p6)) < 4294967296 := by omega
theorem bdS {p0 p1 p2 p3 p4 p5 p6 p7 : Nat} (h0 : p0 <= 8) (h1 : p1 <= 8) (h2 : p2 <= 8) (h3 : p3 <= 8) (h4 : p4 <= 8) (h5 : p5 <= 8) (h6 : p6 <= 8) (h7 : p7 <= 8) : p0 + p1 + p2 + p3 + p4 + p5 + p6 + p7 < 128 := by omega
theorem bdY {p0 p1 p2 p3 p4 p5 p6 p7 : Nat} (h0 : p0 <= 8) (h1 : p1 <= 8) (h2 : p2 <= 8) (h3 : p3 <= 8) (h4 : p4 <= 8) (h5 : p5 <= 8) (h6 : p6 <= 8) (h7 : p7 <= 8) : (p0 + p1 + p2 + p3 + p4 + p5 + p6 + p7) + 128 * (2 * (p1 + p2 + p3 + p4 + p5 + p6 + p7) + 512 * ((p2 + p3 + p4 + p5 + p6 + p7) + 256 * (p3 + p4 + p5 + p6 + p7)) + 33554432 * ((p4 + p5 + p6 + p7) + 256 * (p5 + p6 + p7) + 65536 * ((p6 + p7) + 256 * p7))) < 4000000000000000000 := by omega
theorem eight_end {y3 y4 y5 y6 p0 p1 p2 p3 p4 p5 p6 p7 : Nat} (h0 : p0 <= 8) (h1 : p1 <= 8) (h2 : p2 <= 8) (h3 : p3 <= 8) (h4 : p4 <= 8) (h5 : p5 <= 8) (h6 : p6 <= 8) (h7 : p7 <= 8)
  (e : y3 = p0 + 256 * (p1 + 256 * (p2 + 256 * (p3 + 256 * (p4 + 256 * (p5 + 256 * (p6 + 256 * p7))))))) (e4 : y3 + y3 / 256 = y4) (e5 : y4 + y4 / 65536 = y5) (e6 : y5 + y5 / 4294967296 = y6) :
  y6 < 4000000000000000000 /\ y6 % 128 = p0 + p1 + p2 + p3 + p4 + p5 + p6 + p7 := by
 have a1 := divs 256 _ _ y3 (by decide) e (bd3 h0)
 rw [a1, e, st4] at e4
 have a3 := divs 65536 _ _ y4 (by decide) e4.symm (bd4 h0 h1 h2)
 rw [a3, <- e4, st5] at e5
 have a5 := divs 4294967296 _ _ y5 (by decide) e5.symm (bd5 h0 h1 h2 h3 h4 h5 h6)
 rw [a5, <- e5, st6] at e6
 rw [<- e6]
 refine ⟨bdY h0 h1 h2 h3 h4 h5 h6 h7, ?_⟩
 rw [Nat.add_mul_mod_self_left, Nat.mod_eq_of_lt (bdS h0 h1 h2 h3 h4 h5 h6 h7)]
end Go.Proofs.YtkpjipohajplgaaGreatDoor.Fm
namespace Go.Proofs.YtkpjipohajplgaaGreatDoor.Fm
open Go.RowKit Go.Maps Go.Proofs.YtkpjipohajplgaaGreatDoor.Bd
theorem bE3 {y : Nat} (h : y < 4919131752989213765) : y / 16 + y < 18446744073709551616 := by omega
theorem bE3w {y : Nat} (h : y < 4919131752989213765) : IntKind.u64.wrap ((y : Int) / 16 + (y : Int)) = (y : Int) / 16 + (y : Int) := by rw [IntKind.wrap_u64]; omega
theorem bE7 {y : Nat} (h : y < 4000000000000000000) : IntKind.i64.wrap (y : Int) = (y : Int) := by rw [IntKind.wrap_i64]; omega
theorem bE8 {y P : Nat} (h : y % 128 = P) : (y : Int) % 128 = (P : Int) := by omega
theorem ones64_all (x : Nat) (hx : x < 18446744073709551616) (w : World) : Calls Tryz.prog 33 #[.int .u64 (x : Int)] w fun e w' => e = .returned (.int .i64 (pop x : Int)) /\ w' = w := by
 obtain ⟨y1, y2, y3, e1, l1, e2, l2, e3, p0, p1, p2, p3, p4, p5, p6, p7, h0, h1, h2, h3, h4, h5, h6, h7, ev, es⟩ := pop_math x hx
 obtain ⟨y4, f4⟩ : ∃ y4, y3 + y3 / 256 = y4 := ⟨_, rfl⟩
 obtain ⟨y5, f5⟩ : ∃ y5, y4 + y4 / 65536 = y5 := ⟨_, rfl⟩
 obtain ⟨y6, f6⟩ : ∃ y6, y5 + y5 / 4294967296 = y6 := ⟨_, rfl⟩
 obtain ⟨g6, g7⟩ := eight_end h0 h1 h2 h3 h4 h5 h6 h7 ev f4 f5 f6
 rw [es] at g7
 clear ev es h0 h1 h2 h3 h4 h5 h6 h7 p0 p1 p2 p3 p4 p5 p6 p7
 have g5 : y5 < 4000000000000000000 := Nat.lt_of_le_of_lt (by rw [<- f6]; exact Nat.le_add_right _ _) g6
 have g4 : y4 < 4000000000000000000 := Nat.lt_of_le_of_lt (by rw [<- f5]; exact Nat.le_add_right _ _) g5
 unfold oc1 at e1
 unfold oc2 at e2
 unfold oc3 at e3
 have E1 : IntKind.u64.wrap (bits BinOp.and IntKind.u64 ((x : Int) / 2) 6148914691236517205 + bits BinOp.and IntKind.u64 (x : Int) 6148914691236517205) = (y1 : Int) := by
  have a1 := and_u64r (x / 2) 6148914691236517205 (Nat.lt_of_le_of_lt (Nat.div_le_self _ _) hx) (by decide)
  have a2 := and_u64r x 6148914691236517205 hx (by decide)
  refine w_u64r _ _ ?_ l1
  rw [<- e1, Int.natCast_add, <- a1, <- a2]
  simp
 have E2 : IntKind.u64.wrap (bits BinOp.and IntKind.u64 ((y1 : Int) / 4) 3689348814741910323 + bits BinOp.and IntKind.u64 (y1 : Int) 3689348814741910323) = (y2 : Int) := by
  have a1 := and_u64r (y1 / 4) 3689348814741910323 (Nat.lt_of_le_of_lt (Nat.div_le_self _ _) l1) (by decide)
  have a2 := and_u64r y1 3689348814741910323 l1 (by decide)
  refine w_u64r _ _ ?_ (Nat.lt_trans l2 (by decide))
  rw [<- e2, Int.natCast_add, <- a1, <- a2]
  simp
 have E3 : bits BinOp.and IntKind.u64 ((y2 : Int) / 16 + (y2 : Int)) 1085102592571150095 = (y3 : Int) := by
  have a1 := and_u64r (y2 / 16 + y2) 1085102592571150095 (bE3 l2) (by decide)
  rw [<- e3, <- a1]
  simp
 have E3' : IntKind.u64.wrap ((y2 : Int) / 16 + (y2 : Int)) = (y2 : Int) / 16 + (y2 : Int) := bE3w l2
 have E4 : IntKind.u64.wrap ((y3 : Int) + (y3 : Int) / 256) = (y4 : Int) := w_u64r _ _ (by rw [<- f4]; simp) (Nat.lt_trans g4 (by decide))
 have E5 : IntKind.u64.wrap ((y4 : Int) + (y4 : Int) / 65536) = (y5 : Int) := w_u64r _ _ (by rw [<- f5]; simp) (Nat.lt_trans g5 (by decide))
 have E6 : IntKind.u64.wrap ((y5 : Int) + (y5 : Int) / 4294967296) = (y6 : Int) := w_u64r _ _ (by rw [<- f6]; simp) (Nat.lt_trans g6 (by decide))
 have E7 : IntKind.i64.wrap (y6 : Int) = (y6 : Int) := bE7 g6
 have E8 : bits BinOp.and IntKind.i64 (y6 : Int) 127 = (pop x : Int) := by
  rw [i64_and127]
  exact bE8 g7
 have E9 : wrap64 (y6 : Int) = (y6 : Int) := by rw [<- IntWalk.i64_left]; exact E7
 clear f4 f5 f6 g4 g5 g6
 generalize pop x = P at *
 clear e1 e2 e3 g7 l1 l2 hx
 go_enter Tryz.func33, Tryz.ntmps33
 go_wp2
 go_ret
 exact ⟨rfl, rfl⟩
theorem ones_all (x : Nat) (hx : x < 18446744073709551616) (w : World) : Calls Tryz.prog 20 #[.int .u64 (x : Int)] w fun e w' => e = .returned (.int .i64 (pop x : Int)) /\ w' = w := by
 have HC := Lib.hid (ones64_all x hx w)
 go_enter Tryz.func20, Tryz.ntmps20
 go_wp2_with fail
 refine HC.out.mono ?_
 rintro e w1 ⟨rfl, rfl⟩
 clear HC
 go_wp2
 go_ret
 exact ⟨rfl, rfl⟩
end Go.Proofs.YtkpjipohajplgaaGreatDoor.Fm
namespace Go.Proofs.YtkpjipohajplgaaGreatDoor.Fm
open Go.RowKit Go.Maps Go.Proofs.YtkpjipohajplgaaGreatDoor.Bd
def bestK (l : List Nat) (k : Nat) : Nat := (l.take k).foldl (fun m x => if pop x < pop m then x else m) (l.getD 0 0)
theorem bestK_one {l : List Nat} (h : 0 < l.length) : bestK l 1 = l.getD 0 0 := by
 unfold bestK
 rw [List.take_succ_eq_append_getElem h]
 simp [List.getD_eq_getElem?_getD, List.getElem?_eq_getElem h]
theorem bestK_succ {l : List Nat} {k : Nat} (h : k < l.length) : bestK l (k + 1) = if pop (l.getD k 0) < pop (bestK l k) then l.getD k 0 else bestK l k := by
 unfold bestK
 rw [List.take_succ_eq_append_getElem h, List.foldl_append]
 simp [List.getD_eq_getElem?_getD, List.getElem?_eq_getElem h]
theorem bestK_mem {l : List Nat} (hl : 0 < l.length) : ∀ k, bestK l k ∈ l
 | 0 => by
  show l.getD 0 0 ∈ l
  rw [List.getD_eq_getElem?_getD, List.getElem?_eq_getElem hl]; exact List.getElem_mem hl
 | k + 1 => by
  by_cases h : k < l.length
  ·rw [bestK_succ h]
   split
   ·rw [List.getD_eq_getElem?_getD, List.getElem?_eq_getElem h]; exact List.getElem_mem h
   ·exact bestK_mem hl k
  ·have e : bestK l (k + 1) = bestK l k := by unfold bestK; rw [List.take_of_length_le (by omega), List.take_of_length_le (by omega)]
   rw [e]; exact bestK_mem hl k
theorem lones_any (x : Nat) (hx : x < 18446744073709551616) (w : World) :
  Calls Tryz.prog 4 #[.int .u64 (x : Int)] w fun e w' => e = .returned (.int .i64 (pop x : Int)) /\ w' = w := by
 have HS : Hid (0 + popF 64 x = pop x) := by rw [Nat.zero_add]; exact (rfl : popF 64 x = pop x)
 generalize pop x = P at *
 go_enter Tryz.func4, Tryz.ntmps4
 go_wp2_with fail
 go_loopw [0, 3] (fun xv nv wr => ∃ (d y n : Nat), d <= 64 /\ y < 2 ^ d /\ xv = .int .u64 (y : Int) /\ nv = .int .i64 (n : Int) /\ n + d <= 64 /\ n + popF d y = P /\ wr = w)
  (fun xv _ _ => (intOf xv).toNat)
 case atStart => exact ⟨64, x, 0, Nat.le_refl _, hx, rfl, rfl, by omega, HS.out, rfl⟩
 case round =>
  obtain ⟨d, y, n, hd, hy, rfl, rfl, hn, hp, rfl⟩ := hrel
  clear HS
  by_cases h0 : 0 < y
  ·obtain ⟨d', rfl⟩ : ∃ d', d = d' + 1 := by
    cases d with
    | zero => simp at hy; omega
    | succ d' => exact ⟨d', rfl⟩
   have i1 : (y : Int) > 0 := by omega
   have hy2 : y / 2 < 2 ^ d' := by rw [Nat.pow_succ] at hy; omega
   have p64 : 2 ^ (d' + 1) <= 18446744073709551616 := Nat.pow_le_pow_right (n := 2) (by decide) hd
   have h64 : y < 18446744073709551616 := Nat.lt_of_lt_of_le hy p64
   clear p64
   have e1 : Int.tmod (y : Int) 2 = ((y % 2 : Nat) : Int) := rfl
   have e2 : Int.tdiv (y : Int) 2 = ((y / 2 : Nat) : Int) := rfl
   have hp2 : n + y % 2 + popF d' (y / 2) = P := by rw [<- hp]; simp only [popF]; omega
   have HP2 := Lib.hid hp2
   have HY2 := Lib.hid hy2
   clear hp hy hp2 hy2
   go_wp2
   go_roundw
   case rel => exact ⟨d', y / 2, n + y % 2, by omega, HY2.out, by go_num, by go_num, by omega, HP2.out, trivial⟩
   case measure => simp [intOf]; omega
  ·have : y = 0 := by omega
   subst this
   rw [popF_zero, Nat.add_zero] at hp
   subst hp
   go_wp2
   go_ret
   exact ⟨rfl, rfl⟩
theorem cmp_any (x y : Nat) (hx : x < 18446744073709551616) (hy : y < 18446744073709551616) (w : World) :
  Calls Tryz.prog 19 #[.int .u64 (x : Int), .int .u64 (y : Int)] w fun e w' => e = .returned (.int .i64 ((pop x : Int) - (pop y : Int))) /\ w' = w := by
 have H1 : Hid (∀ W, Calls Tryz.prog 20 #[.int .u64 (x : Int)] W fun e w' => e = .returned (.int .i64 (pop x : Int)) /\ w' = W) := fun W => ones_all x hx W
 have H2 : Hid (∀ W, Calls Tryz.prog 20 #[.int .u64 (y : Int)] W fun e w' => e = .returned (.int .i64 (pop y : Int)) /\ w' = W) := fun W => ones_all y hy W
 have b1 : pop x <= 64 := popF_le 64 x
 have b2 : pop y <= 64 := popF_le 64 y
 generalize pop x = P at *
 generalize pop y = Q at *
 go_enter Tryz.func19, Tryz.ntmps19
 go_wp2_with fail
 refine (H1.out _).mono ?_
 rintro e w1 ⟨rfl, rfl⟩
 go_wp2_with fail
 refine (H2.out _).mono ?_
 rintro e w2 ⟨rfl, rfl⟩
 go_wp2
 go_ret
 exact ⟨rfl, rfl⟩
end Go.Proofs.YtkpjipohajplgaaGreatDoor.Fm
namespace Go.Proofs.YtkpjipohajplgaaGreatDoor.Fm
open Go.RowKit Go.Maps Go.Proofs.YtkpjipohajplgaaGreatDoor.Bd
theorem ad_block (a : Addr) (i : Nat) : (a.add i).block = a.block := by unfold Addr.add; split <;> rfl
def UIn (w : World) (v : Value) (l : List Nat) : Prop := ∃ a c, v = .slice a l.length c /\ ∀ i, i < l.length -> ∃ g : Addr, a = some g /\ g.block < w.heap.size /\ w.cell? (g.add i) = some (.int .u64 (l.getD i 0 : Nat))
theorem UIn.below {w w' : World} {v : Value} {l : List Nat} (h : UIn w v l) (hb : Below w.heap.size w w') : UIn w' v l := by
 obtain ⟨a, c, e, h⟩ := h
 refine ⟨a, c, e, fun i hi => ?_⟩
 obtain ⟨g, h1, h2, h3⟩ := h i hi
 exact ⟨g, h1, Nat.lt_of_lt_of_le h2 hb.size, (hb.cell (p := g.add i) (by rw [ad_block]; exact h2)).trans h3⟩
end Go.Proofs.YtkpjipohajplgaaGreatDoor.Fm
namespace Go.Proofs.YtkpjipohajplgaaGreatDoor.Fm
open Go.RowKit Go.Maps Go.Proofs.YtkpjipohajplgaaGreatDoor.Bd
theorem minfunc_any (l : List Nat) (w : World) (v : Value) (hx : UIn w v l) (hne : 0 < l.length) (h64 : ∀ x ∈ l, x < 2 ^ 64) (hl : l.length <= 1000) :
  Calls Tryz.prog 18 #[v, .func (.func 19) #[] #[]] w fun e w' => e = .returned (.int .u64 (bestK l l.length : Int)) /\ w' = w := by
 obtain ⟨a, cap, rfl, hx⟩ := hx
 have HX := Lib.hid hx
 have H64 := Lib.hid h64
 obtain ⟨g0, rfl, gl0, gc0⟩ := hx 0 hne
 have gc1 : w.cell? g0 = some (.int .u64 (l.getD 0 0 : Nat)) := by rw [<- gc0]; congr 1
 have i0 : ¬ ((l.length : Nat) : Int) < 1 := by omega
 have i1 : (0 : Int) < ((l.length : Nat) : Int) := by omega
 have HB1 := Lib.hid (bestK_one hne)
 clear hx h64
 go_enter Tryz.func18, Tryz.ntmps18
 go_wp2_with fail
 go_loopw [5, 6] (fun mv iv wr => ∃ k : Nat, 1 <= k /\ k <= l.length /\ mv = .int .u64 (bestK l k : Int) /\ iv = .int .i64 (k : Int) /\ wr = w)
  (fun _ iv _ => l.length - (intOf iv).toNat)
 case atStart => exact ⟨1, Nat.le_refl _, hne, by rw [HB1.out]; simp [List.getD_eq_getElem?_getD, List.getElem?_eq_getElem hne], rfl, rfl⟩
 case round =>
  obtain ⟨k, hk1, hk, rfl, rfl, rfl⟩ := hrel
  clear gc0 gc1 i0 i1
  by_cases hlt : k < l.length
  ·obtain ⟨g, e, gl, gc⟩ := HX.out k hlt
   cases e
   have i1 : (k : Int) < (l.length : Int) := by omega
   have hm : l.getD k 0 ∈ l := by rw [List.getD_eq_getElem?_getD, List.getElem?_eq_getElem hlt]; exact List.getElem_mem hlt
   have HC := Lib.hid (cmp_any (l.getD k 0) (bestK l k) (H64.out _ hm) (H64.out _ (bestK_mem hne k)))
   have HS := Lib.hid (bestK_succ hlt)
   have b1 : pop (l.getD k 0) <= 64 := popF_le 64 _
   have b2 : pop (bestK l k) <= 64 := popF_le 64 _
   clear hm
   generalize l.getD k 0 = x at *
   generalize bestK l k = m at *
   generalize pop x = P at *
   generalize pop m = Q at *
   go_wp2_with fail
   refine (HC.out _).mono ?_
   rintro e w1 ⟨rfl, rfl⟩
   clear HC
   by_cases hlq : P < Q
   ·have j1 : (P : Int) - (Q : Int) < 0 := by omega
    go_wp2
    go_roundw
    case rel => exact ⟨k + 1, by omega, by omega, by rw [HS.out, if_pos hlq], by go_num, trivial⟩
    case measure => simp [intOf]; omega
   ·have j1 : ¬ (P : Int) - (Q : Int) < 0 := by omega
    go_wp2
    go_roundw
    case rel => exact ⟨k + 1, by omega, by omega, by rw [HS.out, if_neg hlq], by go_num, trivial⟩
    case measure => simp [intOf]; omega
  ·have e : k = l.length := by omega
   subst e
   go_wp2
   go_ret
   exact ⟨rfl, rfl⟩
theorem smallest_any (l : List Nat) (w : World) (v : Value) (hx : UIn w v l) (h64 : ∀ x ∈ l, x < 2 ^ 64) (hl : l.length <= 1000) :
  Calls Tryz.prog 10 #[v] w fun e w' => e = .returned (.int .u64 (bestK l l.length : Int)) /\ w' = w := by
 by_cases h0 : l.length = 0
 ·obtain rfl := List.eq_nil_of_length_eq_zero h0
  obtain ⟨a, cap, rfl, hx⟩ := hx
  clear hx
  go_enter Tryz.func10, Tryz.ntmps10
  go_wp2
  go_ret
  exact ⟨rfl, rfl⟩
 ·have HM := Lib.hid (minfunc_any l w v hx (by omega) h64 hl)
  obtain ⟨a, cap, rfl, hx⟩ := hx
  have i1 : (((l.length : Nat) : Int) == 0) = false := by rw [beq_eq_false_iff_ne]; omega
  generalize bestK l l.length = m at *
  clear hx
  go_enter Tryz.func10, Tryz.ntmps10
  go_wp2_with fail
  refine HM.out.mono ?_
  rintro e w1 ⟨rfl, rfl⟩
  clear HM
  go_wp2
  go_ret
  exact ⟨rfl, rfl⟩
end Go.Proofs.YtkpjipohajplgaaGreatDoor.Fm
namespace Go.Proofs.YtkpjipohajplgaaGreatDoor.Fm
open Go.RowKit Go.Maps Go.Proofs.YtkpjipohajplgaaGreatDoor.Bd
theorem costOr4 {vars : Nat} (hv6 : vars <= 6) : cost (rr vars (-1)) .or <= 15 := Nat.le_trans (cost_mono (show rr vars (-1) <= 4 by unfold rr; omega) .or) (by decide)
theorem ints_one (w : World) (a : Int) (ia : I64 a) : IntsAt (w.alloc (.cells #[.int .i64 a] 3)) w.heap.size [a] := by
 refine ⟨by simp, fun i hi => ?_, fun x hx => ?_⟩
 ·simp at hi
  subst hi; simp
 ·simp at hx; subst hx; assumption
def GathOut (B s b : Nat) (O : Nat -> Prop) (vars room : Nat) (l : List Nat) (w : World) (e : Ending) (w' : World) : Prop :=
 (∃ h ns' O', e = .returned (.tuple #[.int .i64 h, .nilIface]) /\ FamAt B w' s b O' vars room ns' /\ Mv O O' w w' /\ hasB ns' h = true /\ (∀ y, In ns' h y ↔ y ∈ l) /\ cntT vars ns' <= 25 * l.length /\ ∀ x ∈ l, x < 2 ^ vars) \/
 ∃ O', e = .returned (.tuple #[.int .i64 0, .iface 23 (.int .i64 2)]) /\ Mv O O' w w' /\ ∃ x ∈ l, ¬ x < 2 ^ vars
section
variable {B s b : Nat} {O : Nat -> Prop} {vars room : Nat} {ns0 : List Nd} {w : World}
theorem gathered_any (h : FamAt B w s b O vars room ns0) (hv6 : vars <= 6) (l : List Nat) (a : Option Addr) (cap : Nat) (hx : ∀ i, i < l.length -> ∃ g : Addr, a = some g /\ g.block < w.heap.size /\ w.cell? (g.add i) = some (.int .u64 (l.getD i 0 : Nat)) /\ ¬ O g.block) (h64 : ∀ x ∈ l, x < 2 ^ 64) (hl : l.length <= 30) (hn0 : cntT vars ns0 = 0) (hrm : 900 <= room) :
  Calls Tryz.prog 13 #[.pointer (some ⟨s, 0, none⟩), .slice a l.length cap] w (GathOut B s b O vars room l w) := by
 have HX := Lib.hid hx
 have HST := Lib.hid h
 clear hx h
 go_enter Tryz.func13, Tryz.ntmps13
 go_wp2_with fail
 go_loopw [6, 13] (fun av i wr => ∃ (k : Nat) (ns : List Nd) (O1 : Nat -> Prop) (hz : Int), k <= l.length /\ i = .int .i64 (k : Int) /\ av = .int .i64 hz /\ FamAt B wr s b O1 vars room ns /\ Mv O O1 w wr /\ hasB ns hz = true /\ (∀ y, In ns hz y ↔ y ∈ l.take k) /\ cntT vars ns <= 25 * k /\ ∀ x ∈ l.take k, x < 2 ^ vars)
  (fun _ i _ => l.length - (intOf i).toNat)
 case atStart => exact ⟨0, ns0, O, 0, Nat.zero_le _, rfl, rfl, HST.out, Mv.refl _ _, end_has0 ns0, fun y => ⟨fun hy => (in_zero y hy).elim, fun hy => by simp at hy⟩, by omega, fun x hx => by simp at hx⟩
 case round =>
  obtain ⟨k, ns, O1, hz, hk, rfl, rfl, hF, hM, hh, hm, hc, hr⟩ := hrel
  clear HST
  by_cases hlt : k < l.length
  ·obtain ⟨g, rfl, gl, gc, go⟩ := HX.out k hlt
   have q0 := (hM.cell (a := g.add k) (by rw [ad_block]; exact gl) (by rw [ad_block]; exact go)).trans gc
   have i1 : (k : Int) < (l.length : Int) := by omega
   have eT : l.take (k + 1) = l.take k ++ [l.getD k 0] := by
    rw [List.take_succ_eq_append_getElem hlt]; simp [List.getD_eq_getElem?_getD, List.getElem?_eq_getElem hlt]
   have hmemx : l.getD k 0 ∈ l := by rw [List.getD_eq_getElem?_getD, List.getElem?_eq_getElem hlt]; exact List.getElem_mem hlt
   have hx64 := h64 _ hmemx
   have HT := Lib.hid eT
   have HMX := Lib.hid hmemx
   clear gc go gl eT hmemx
   generalize l.getD k 0 = x at *
   by_cases hxv : x < 2 ^ vars
   ·have HO := Lib.hid (one_any hF x hxv (by omega))
    have HMv := Lib.hid hM
    have HR := Lib.hid hr
    have HM := Lib.hid hm
    have HG := Lib.hid hF.good.ranked
    clear hF hM hr hm
    go_wp2_with fail
    refine HO.out.mono ?_
    rintro e w1 ⟨h1, ns1, O2, rfl, hF1, mv1, x1, hb1, m1, c1⟩
    clear HO
    have hco := costOr4 hv6
    have HOR := Lib.hid (or_any hF1 (x1.has _ hh) hb1 (by omega))
    go_wp2_with fail
    refine HOR.out.mono ?_
    rintro e w2 ⟨h2, ns2, O3, rfl, hF2, mv2, x2, hb2, m2, c2⟩
    clear HOR
    have hfl := hF2.len
    have hb3 := below_new w2 (.cells #[.int .i64 h2] 3)
    have HFR := Lib.hid (free_one (cp := 1) (hF2.new hb3) w2.heap.size h2 (ints_one w2 h2 (has_i64 hb2 (by omega))) hb2)
    have hmv3 : Mv O O3 w (w2.alloc (.cells #[.int .i64 h2] 3)) := ((HMv.out.trans mv1).trans mv2).trans (Mv.of_below hb3)
    have hin : ∀ y, In ns2 h2 y ↔ y ∈ l.take (k + 1) := fun y => by
     rw [m2 y, HT.out, List.mem_append, List.mem_singleton]
     show (In ns1 hz y \/ In ns1 h1 y) ↔ _
     rw [m1 y, in_ext HG.out x1 hh, HM.out y]
    have hal : ∀ y ∈ l.take (k + 1), y < 2 ^ vars := fun y hy => by
     rw [HT.out, List.mem_append, List.mem_singleton] at hy
     rcases hy with hy | rfl
     ·exact HR.out y hy
     ·exact hxv
    have HIN := Lib.hid hin
    have HAL := Lib.hid hal
    have HV3 := Lib.hid hmv3
    clear hF1 mv1 x1 hb1 m1 hF2 mv2 x2 hb2 m2 hb3 hmv3 hin hal HMv HR HM HG
    go_wp2_with fail
    refine HFR.out.mono ?_
    rintro e w4 ⟨n4, ns4, O4, rfl, hF4, mv4, hb4, m4, c4⟩
    clear HFR
    go_wp2
    go_roundw
    case rel => exact ⟨k + 1, ns4, O4, h2, by omega, by go_num, rfl, hF4, HV3.out.trans mv4, hb4, fun y => (m4 y).trans (HIN.out y), by omega, HAL.out⟩
    case measure => simp [intOf]; omega
   ·have HO := Lib.hid (one_bad hF x hxv hx64)
    clear hF
    go_wp2_with fail
    refine HO.out.mono ?_
    rintro e w1 ⟨rfl, rfl⟩
    go_wp2
    go_ret2
    exact .inr ⟨O1, rfl, hM, x, HMX.out, hxv⟩
  ·have e : k = l.length := by omega
   subst e
   rw [List.take_length] at hm hr
   go_wp2
   go_ret2
   exact .inl ⟨hz, ns, O1, rfl, hF, hM, hh, hm, hc, hr⟩
end
end Go.Proofs.YtkpjipohajplgaaGreatDoor.Fm
