/- One set. -/
import Derived.Test.YtbklgjmkdhinpaaGreatDoorFmMake
import Derived.Test.YtbklgjmkdhinpaaGreatDoorBdNode
import Derived.WalkSmall
set_option maxHeartbeats 2000000
set_option maxRecDepth 100000
namespace Go.Proofs.YtbklgjmkdhinpaaGreatDoor.Fm
open Go.RowKit Go.Maps Go.Proofs.YtbklgjmkdhinpaaGreatDoor.Bd
structure FamAt (B : Nat) (w : World) (s b : Nat) (O : Nat -> Prop) (vars room : Nat) (ns : List Nd) : Prop where
 space : SpaceAt B w s b O vars (room : Int) ns
 good : Good vars ns
 v24 : vars <= 24
 rm : room <= 4000
 len : ns.length <= 4000
 hB : B <= w.heap.size
structure Mv (O O' : Nat -> Prop) (w w' : World) : Prop where
 kept : Kept O w w'
 own : ∀ k, O' k -> O k \/ w.heap.size <= k
section
variable {B s b : Nat} {O O' O'' : Nat -> Prop} {vars room : Nat} {ns : List Nd} {w w' w'' : World}
theorem FamAt.new (h : FamAt B w s b O vars room ns) (hb : Below w.heap.size w w') : FamAt B w' s b O vars room ns := ⟨h.space.new hb, h.good, h.v24, h.rm, h.len, Nat.le_trans h.hB hb.size⟩
theorem Mv.refl (O : Nat -> Prop) (w : World) : Mv O O w w := ⟨Kept.refl _ _, fun _ h => .inl h⟩
theorem Mv.of_below (hb : Below w.heap.size w w') : Mv O O w w' := ⟨Kept.of_below hb _, fun _ h => .inl h⟩
theorem Mv.of_moves (h : Moves O O' w w') : Mv O O' w w' := ⟨h.kept, h.own⟩
theorem Mv.trans (h : Mv O O' w w') (k : Mv O' O'' w' w'') : Mv O O'' w w'' :=
 ⟨h.kept.andThen k.kept (fun i hi hlt => (h.own i hi).elim id (fun h => by omega)), fun i hi => by
  rcases k.own i hi with h1 | h1
  ·exact h.own i h1
  ·exact .inr (Nat.le_trans h.kept.size h1)⟩
theorem Mv.size (h : Mv O O' w w') : w.heap.size <= w'.heap.size := h.kept.size
theorem Mv.cell (h : Mv O O' w w') {a : Addr} (hlt : a.block < w.heap.size) (hn : ¬ O a.block) : w'.cell? a = w.cell? a := h.kept.cell hlt hn
theorem Mv.beside (h : Mv O O' w w') {j : Nat} (hlt : j < w.heap.size) (hn : ¬ O j) : ¬ O' j := fun ho => by
 rcases h.own j ho with h1 | h1
 ·exact hn h1
 ·omega
theorem Mv.below {N : Nat} (h : Mv O O' w w') (hB : N <= w.heap.size) (ho : ∀ k, O k -> N <= k) : Below N w w' := h.kept.below hB ho
theorem present_any (hS : SpaceAt B w s b O vars (room : Int) ns) (hl : ns.length <= 90000) (bf : Nat) {cp : Nat} (fs : List Int) (hF : IntsAt w bf fs) (hfl : fs.length <= 1000) (hall : ∀ x ∈ fs, hasB ns x = true) :
  Calls Tryz.prog 29 #[.pointer (some ⟨s, 0, none⟩), .slice (some ⟨bf, 0, none⟩) fs.length cp] w fun e w' => e = .returned .nilIface /\ w = w' := by
 have c0 := hS.c0
 have HS := Lib.hid hS
 have HF := Lib.hid hF
 have HA := Lib.hid hall
 clear hS hF hall
 go_enter Tryz.func29, Tryz.ntmps29
 go_wp2_with fail
 go_loop [9] (fun i => ∃ k : Nat, k <= fs.length /\ i = .int .i64 (k : Int)) (fun i => fs.length - (intOf i).toNat)
 case atStart => exact ⟨0, Nat.zero_le _, rfl⟩
 case round =>
  obtain ⟨k, hk, rfl⟩ := hrel
  by_cases hlt : k < fs.length
  ·have ck := HF.out.cells k hlt
   have HH := Lib.hid (spHas HS.out fs[k] (HF.out.ok _ (List.getElem_mem hlt)) hl)
   rw [HA.out _ (List.getElem_mem hlt)] at HH
   generalize fs[k] = x at *
   go_wp2_with fail
   refine HH.out.mono ?_
   rintro e w' ⟨rfl, rfl⟩
   clear HH
   go_wp2
   go_round
   case rel => exact ⟨k + 1, by omega, by go_num⟩
   case measure => simp [intOf]; omega
  ·go_wp2
   go_ret
   exact ⟨rfl, rfl⟩
theorem answer_any {c : Ctx} {wk : Nat} (hC : CtxAt B w c O vars ns) (hwk : c.wk = wk) (h : Int) :
  Calls Tryz.prog 49 #[.pointer (some ⟨wk, 0, none⟩), .int .i64 h] w fun e w' => e = .returned (.tuple #[.int .i64 h, .nilIface]) /\ w = w' := by
 subst hwk
 have w1 := hC.w1
 clear hC
 go_enter Tryz.func49, Tryz.ntmps49
 go_wp2
 go_ret2
 exact ⟨rfl, rfl⟩
theorem two_ints (w : World) (a c : Int) (ia : I64 a) (ic : I64 c) : IntsAt (w.alloc (.cells #[.int .i64 a, .int .i64 c] 3)) w.heap.size [a, c] := by
 refine ⟨by simp, fun i hi => ?_, fun x hx => ?_⟩
 ·simp at hi
  rcases (by omega : i = 0 \/ i = 1) with rfl | rfl <;> simp
 ·simp at hx; rcases hx with rfl | rfl <;> assumption
theorem ctx_start (hS : FamAt B w s b O vars room ns) : CtxAt B (w.alloc (.cells #[.pointer (some ⟨s, 0, none⟩), .nilIface] 95)) ⟨s, b, w.heap.size, room, [], []⟩ O vars ns := by
 have hb := below_new w (.cells #[.pointer (some ⟨s, 0, none⟩), .nilIface] 95)
 refine ⟨hS.space.new hb, hS.good, hS.v24, hS.rm, hS.len, Nat.le_trans hS.hB hb.size, ?_, fun ho => by have := (hS.space.own _ ho).2; simp only at this; omega, hS.hB, fun p hp => (nomatch hp), List.nodup_nil, fun p hp => (nomatch hp)⟩
 show (w.heap.push _)[w.heap.size]? = _
 simp
end
end Go.Proofs.YtbklgjmkdhinpaaGreatDoor.Fm
namespace Go.Proofs.YtbklgjmkdhinpaaGreatDoor.Bd
open Go.RowKit Go.Maps
def bitsF (n : Nat) : Nat -> Bool := fun i => n.testBit i
theorem shr_bit (vals v : Nat) (hv : vals < 18446744073709551616) : (bits BinOp.and IntKind.u64 ((vals : Int) / 2 ^ v) 1 == 1) = bitsF vals v := by
 have e : (vals : Int) / 2 ^ v = ((vals / 2 ^ v : Nat) : Int) := by simp
 have hd : vals / 2 ^ v <= vals := Nat.div_le_self _ _
 generalize hm : vals / 2 ^ v = m at *
 rw [e, and_one_u64 _ (by omega) (by omega)]
 have hb : bitsF vals v = decide (m % 2 = 1) := by unfold bitsF; rw [Nat.testBit_eq_decide_div_mod_eq, hm]
 rw [hb, Bool.eq_iff_iff]
 simp
 omega
end Go.Proofs.YtbklgjmkdhinpaaGreatDoor.Bd
namespace Go.Proofs.YtbklgjmkdhinpaaGreatDoor.Fm
open Go.RowKit Go.Maps Go.Proofs.YtbklgjmkdhinpaaGreatDoor.Bd
section
variable {B s b : Nat} {O O' O'' : Nat -> Prop} {vars room : Nat} {ns : List Nd} {w w' w'' : World}
theorem fnew_any (vars room : Nat) (hv : vars <= 24) (hrm : room <= 4000) (w : World) (B : Nat) (hB : B <= w.heap.size) :
  Calls Tryz.prog 14 #[.int .i64 (vars : Int), .int .i64 (room : Int)] w fun e w' => ∃ s b O, e = .returned (.tuple #[.pointer (some ⟨s, 0, none⟩), .nilIface]) /\ FamAt B w' s b O vars room [] /\ w.heap.size <= s /\ (∀ k, O k -> w.heap.size <= k) /\ Below w.heap.size w w' := by
 have HN := Lib.hid (new_any (room : Int) (by omega) (by omega) w w.heap.size (Nat.le_refl _))
 go_enter Tryz.func14, Tryz.ntmps14
 go_wp2_with fail
 refine HN.out.mono ?_
 rintro e w1 ⟨rfl, hA1, hb1⟩
 have hs := hb1.size
 have hO := (fun k (h : Go.Proofs.YtbklgjmkdhinpaaGreatDoor.Bd.Own (w.heap.size + 1) w.heap.size (.slice none 0 0) k) => (show w.heap.size <= k /\ k < w1.heap.size from by
  obtain ⟨D, hD, -⟩ := hA1.hmap
  have hbm := hD.lt
  have hlt := hA1.lt
  rcases h with h | h | h
  ·omega
  ·omega
  ·simp [Value.ownBlock] at h))
 have hb2 := hb1.alloc hs (.cells #[.pointer (some ⟨w.heap.size + 1, 0, none⟩), .int .i64 (vars : Int)] 88)
 have hA2 := hA1.kept (Kept.alloc (fun _ => False) w1 (.cells #[.pointer (some ⟨w.heap.size + 1, 0, none⟩), .int .i64 (vars : Int)] 88)) (fun _ _ h => h)
 have hfin : SpaceAt B (w1.alloc (.cells #[.pointer (some ⟨w.heap.size + 1, 0, none⟩), .int .i64 (vars : Int)] 88)) w1.heap.size (w.heap.size + 1) (Go.Proofs.YtbklgjmkdhinpaaGreatDoor.Bd.Own (w.heap.size + 1) w.heap.size (.slice none 0 0)) vars (room : Int) [] := by
  have hA3 : ArenaAt B (w1.alloc (.cells #[.pointer (some ⟨w.heap.size + 1, 0, none⟩), .int .i64 (vars : Int)] 88)) (w.heap.size + 1) w.heap.size (.slice none 0 0) [] [] (room : Int) 2 :=
   ⟨hA2.lt, hA2.croom, hA2.cnodes, hA2.cmap, hA2.cnext, hA2.froz, ownsRow_base hA2.row hB, hA2.hmap, hA2.d1, hA2.d2, hA2.d3, by omega, hB⟩
  refine ⟨⟨_, _, [], 2, hA3, ⟨fun p h => by simp at h, fun j h => by simp at h, by simp, fun j h => by simp at h⟩, ⟨0, rfl, by simp, fun j h => by omega⟩, fun _ h => h⟩, fun k hk => ⟨by have := (hO k hk).1; omega, by have := (hO k hk).2; simp; omega⟩, fun ho => by have := (hO _ ho).2; omega, by simp, by simp, by simp⟩
 have hgood : Good vars [] := ⟨⟨fun j h => by simp at h, fun j h => by simp at h, fun j h => by simp at h, fun j h => by simp at h⟩, fun i j h => by simp at h, fun i h => by simp at h, fun i h => by simp at h, fun i h => by simp at h⟩
 have HF : Hid (FamAt B (w1.alloc (.cells #[.pointer (some ⟨w.heap.size + 1, 0, none⟩), .int .i64 (vars : Int)] 88)) w1.heap.size (w.heap.size + 1) (Go.Proofs.YtbklgjmkdhinpaaGreatDoor.Bd.Own (w.heap.size + 1) w.heap.size (.slice none 0 0)) vars room []) := ⟨hfin, hgood, hv, hrm, by simp, Nat.le_trans hB hb2.size⟩
 have HB2 := Lib.hid hb2
 have HO := Lib.hid hO
 clear HN hA1 hA2 hfin hb2 hO hgood
 go_wp2
 go_ret2
 exact ⟨_, _, _, rfl, HF.out, hs, fun k hk => (HO.out k hk).1, HB2.out⟩
theorem free_any (h : FamAt B w s b O vars room ns) (bf : Nat) {cp : Nat} (fs : List Int) (hF : IntsAt w bf fs) (hfl : fs.length <= 1000) :
  Calls Tryz.prog 52 #[.pointer (some ⟨s, 0, none⟩), .slice (some ⟨bf, 0, none⟩) fs.length cp] w fun e w' => ∃ n : Int, e = .returned (.int .i64 n) /\ ∃ O', SpaceAt B w' s b O' vars (room : Int) (swept ns (marksOf ns fs)) /\ Mv O O' w w' := by
 have c0 := h.space.c0
 have hl := h.len
 have HC := Lib.hid (spSweep (cp := cp) h.space h.good.ranked (by omega) h.hB bf fs hF hfl)
 generalize fs.length = n at *
 clear h hF
 go_enter Tryz.func52, Tryz.ntmps52
 go_wp2_with fail
 refine HC.out.mono ?_
 rintro e w1 ⟨n, rfl, O', hS, hM⟩
 go_wp2
 go_ret
 exact ⟨n, rfl, O', hS, Mv.of_moves hM⟩
end
end Go.Proofs.YtbklgjmkdhinpaaGreatDoor.Fm
namespace Go.Proofs.YtbklgjmkdhinpaaGreatDoor.Fm
open Go.RowKit Go.Maps Go.Proofs.YtbklgjmkdhinpaaGreatDoor.Bd
def hiB (x u : Nat) : Nat := (x >>> u) <<< u
theorem hiB_bit (x u i : Nat) : (hiB x u).testBit i = (decide (u <= i) && x.testBit i) := by
 unfold hiB
 rw [Nat.testBit_shiftLeft]
 by_cases h : u <= i
 ·simp [h, Nat.testBit_shiftRight]
 ·simp [h]
theorem hiB_all (x : Nat) : hiB x 0 = x := by unfold hiB; simp
theorem hiB_none {x u : Nat} (h : x < 2 ^ u) : hiB x u = 0 := by unfold hiB; rw [Nat.shiftRight_eq_div_pow, Nat.div_eq_of_lt h]; simp
theorem hiB_off {x u : Nat} (h : x.testBit u = false) : hiB x u = hiB x (u + 1) := by
 apply Nat.eq_of_testBit_eq; intro i
 rw [hiB_bit, hiB_bit]
 by_cases e : i = u
 ·subst e; simp [h]
 ·have : decide (u <= i) = decide (u + 1 <= i) := by rw [decide_eq_decide]; omega
  rw [this]
theorem hiB_on {x u : Nat} (h : x.testBit u = true) (y : Nat) : (if y.testBit u = true then y ^^^ 2 ^ u = hiB x (u + 1) else False) ↔ y = hiB x u := by
 constructor
 ·intro hy
  split at hy
  ·rename_i hu
   rw [<- xor_back y u, hy]
   apply Nat.eq_of_testBit_eq; intro i
   rw [bit_x, hiB_bit, hiB_bit, hiB_bit]
   by_cases e : i = u
   ·subst e; simp [h]
   ·have : decide (u <= i) = decide (u + 1 <= i) := by rw [decide_eq_decide]; omega
    rw [if_neg e, this]
  ·exact hy.elim
 ·rintro rfl
  have hb : (hiB x u).testBit u = true := by rw [hiB_bit]; simp [h]
  rw [if_pos hb]
  apply Nat.eq_of_testBit_eq; intro i
  rw [bit_x, hiB_bit, hiB_bit, hiB_bit]
  by_cases e : i = u
  ·subst e; simp [h]
  ·have : decide (u <= i) = decide (u + 1 <= i) := by rw [decide_eq_decide]; omega
   rw [if_neg e, this]
def OneS (B : Nat) (c : Ctx) (O : Nat -> Prop) (vars : Nat) (ns : List Nd) (x : Nat) (w : World) (u : Nat) (h : Int) (wr : World) : Prop :=
 ∃ ns' O', u <= vars /\ CtxAt B wr c O' vars ns' /\ MM c O O' w wr /\ Ext ns ns' /\ hasB ns' h = true /\ (u : Int) <= topOf ns' h /\ (∀ y, In ns' h y ↔ y = hiB x u) /\ cntT vars ns' + u <= cntT vars ns + vars
section
variable {B s b : Nat} {c : Ctx} {O O' O'' : Nat -> Prop} {vars room : Nat} {ns : List Nd} {w w' w'' : World}
theorem ones_node {x u : Nat} {h : Int} (hroom : cntT vars ns + vars + 18 < c.room) (hS : OneS B c O vars ns x w (u + 1) h w') (hx : x.testBit u = true) :
  Calls Tryz.prog 85 #[.pointer (some ⟨c.wk, 0, none⟩), .int .i64 (u : Int), .agg #[.int .i64 0, .int .i64 h]] w' fun e w'' => ∃ h', e = .returned (.int .i64 h') /\ OneS B c O vars ns x w u h' w'' := by
 obtain ⟨ns', O', h1, hC, hM, hX, hh, ht, hm, hc⟩ := hS
 have hv24 := hC.v24
 have hcl := cnt_le hC.good
 have hl := hC.len
 have hrm := hC.rm
 have hmd := nodeZ_ok hC.good hv24 (v := (u : Int)) (l := 0) (h := h) (by omega) (by omega) (by omega) (by omega) (end_has0 ns') hh (by rw [end_top0]; omega) (by omega)
 refine (node_any hC (by omega) (u : Int) 0 h (by omega) (by omega) (end_has0 ns') hh (by rw [end_top0]; omega) (by omega)).mono ?_
 rintro e w5 ⟨rfl, O5, hS5, hM5⟩
 have hlen : (nodeZ ns' (u : Int) 0 h).1.length <= 4000 := by have := hmd.len; omega
 refine ⟨_, rfl, _, O5, by omega, hC.moved hS5 hM5 hmd.good hmd.ext hlen, hM.trans (MM.of_moves hM5), hX.trans hmd.ext, hmd.has, hmd.top, fun y => ?_, ?_⟩
 ·rw [hmd.mem y, <- hiB_on hx y]
  have tn : ((u : Int)).toNat = u := by omega
  rw [tn]
  split
  ·exact hm _
  ·exact ⟨fun h => in_zero _ h, fun h => h.elim⟩
 ·have := hmd.cnt
  split at this <;> omega
theorem ones_skip {x u : Nat} {h : Int} (hS : OneS B c O vars ns x w (u + 1) h w') (hx : x.testBit u = false) : OneS B c O vars ns x w u h w' := by
 obtain ⟨ns', O', h1, hC, hM, hX, hh, ht, hm, hc⟩ := hS
 exact ⟨ns', O', by omega, hC, hM, hX, hh, by omega, fun y => by rw [hiB_off hx]; exact hm y, by omega⟩
theorem one_c {wk : Nat} (hC : CtxAt B w c O vars ns) (hwk : c.wk = wk) (x : Nat) (hx : x < 2 ^ vars) (hroom : cntT vars ns + vars + 18 < c.room) :
  Calls Tryz.prog 50 #[.pointer (some ⟨wk, 0, none⟩), .int .u64 (x : Int)] w fun e w' => ∃ h, e = .returned (.int .i64 h) /\ OneS B c O vars ns x w 0 h w' := by
 subst hwk
 have w0 := hC.w0
 have c1 := hC.space.c1
 have hv24 := hC.v24
 have HC := Lib.hid hC
 clear hC
 go_enter Tryz.func50, Tryz.ntmps50
 go_wp2_with fail
 go_loopw [5, 6] (fun hV vV wr => ∃ (u : Nat) (h : Int), hV = .int .i64 h /\ vV = .int .i64 ((u : Int) - 1) /\ OneS B c O vars ns x w u h wr) (fun _ vV _ => (intOf vV + 1).toNat)
 case atStart =>
  exact ⟨vars, 1, rfl, rfl, ns, O, Nat.le_refl _, HC.out, MM.refl _ _ _, Ext.refl _, end_has1 ns, by rw [end_top1]; omega, fun y => by rw [hiB_none hx, in_one], Nat.le_refl _⟩
 case round =>
  obtain ⟨u, h, rfl, rfl, hS⟩ := hrel
  have hul : u <= vars := by obtain ⟨_, _, h1, _⟩ := hS; exact h1
  cases u with
  | zero =>
   have HS := Lib.hid hS
   clear hS
   go_wp2
   go_ret
   exact ⟨h, rfl, HS.out⟩
  | succ u =>
   have e1 : ((u + 1 : Nat) : Int) - 1 = (u : Int) := by omega
   rw [e1]
   have hx64 : x < 18446744073709551616 := Nat.lt_of_lt_of_le hx (Nat.le_trans (Nat.pow_le_pow_right (by omega) hv24) (by decide))
   have hsb := shr_bit x u hx64
   unfold bitsF at hsb
   have HS := Lib.hid hS
   clear hS e1
   cases hbit : x.testBit u with
   | true =>
    rw [hbit] at hsb
    have HN := Lib.hid (ones_node hroom HS.out hbit)
    clear hbit
    go_wp2_with fail
    refine HN.out.mono ?_
    rintro e w5 ⟨h', rfl, hS5⟩
    have HS5 := Lib.hid hS5
    clear hS5
    go_wp2
    go_roundw
    case rel => exact ⟨u, h', rfl, rfl, HS5.out⟩
    case measure => simp [intOf]
   | false =>
    rw [hbit] at hsb
    have HS5 := Lib.hid (ones_skip HS.out hbit)
    clear hbit
    go_wp2
    go_roundw
    case rel => exact ⟨u, h, rfl, rfl, HS5.out⟩
    case measure => simp [intOf]
theorem among_any {rom : Int} (hS : SpaceAt B w s b O vars rom ns) (hv24 : vars <= 24) (x : Nat) (hx : x < 2 ^ vars) :
  Calls Tryz.prog 38 #[.pointer (some ⟨s, 0, none⟩), .int .u64 (x : Int)] w fun e w' => e = .returned .nilIface /\ w = w' := by
 have c1 := hS.c1
 clear hS
 have e1 : (x : Int) / 2 ^ vars = 0 := by
  have e : (x : Int) / 2 ^ vars = ((x / 2 ^ vars : Nat) : Int) := by simp
  rw [e, Nat.div_eq_of_lt hx]; rfl
 go_enter Tryz.func38, Tryz.ntmps38
 go_wp2
 go_ret
 exact ⟨rfl, rfl⟩
def OneOut (B s b : Nat) (O : Nat -> Prop) (vars room : Nat) (ns : List Nd) (x : Nat) (w : World) (e : Ending) (w' : World) : Prop :=
 ∃ h ns' O', e = .returned (.tuple #[.int .i64 h, .nilIface]) /\ FamAt B w' s b O' vars room ns' /\ Mv O O' w w' /\ Ext ns ns' /\ hasB ns' h = true /\ (∀ y, In ns' h y ↔ y = x) /\ cntT vars ns' <= cntT vars ns + vars
theorem one_any (hS : FamAt B w s b O vars room ns) (x : Nat) (hx : x < 2 ^ vars) (hroom : cntT vars ns + vars + 18 < room) :
  Calls Tryz.prog 23 #[.pointer (some ⟨s, 0, none⟩), .int .u64 (x : Int)] w (OneOut B s b O vars room ns x w) := by
 have HA := Lib.hid (among_any hS.space hS.v24 x hx)
 have hb2 := below_new w (.cells #[.pointer (some ⟨s, 0, none⟩), .nilIface] 95)
 have hC2 := ctx_start hS
 have HC := Lib.hid hC2
 have HB := Lib.hid hb2
 clear hS hb2 hC2
 go_enter Tryz.func23, Tryz.ntmps23
 go_wp2_with fail
 refine HA.out.mono ?_
 rintro e w1 ⟨rfl, rfl⟩
 clear HA
 go_wp2_with fail
 generalize (w.alloc (.cells #[.pointer (some ⟨s, 0, none⟩), .nilIface] 95)) = W2 at *
 refine (one_c HC.out rfl x hx hroom).mono ?_
 rintro e w4 ⟨h, rfl, ns4, O4, -, hC4, hM4, hX4, hh4, -, hm4, hc4⟩
 go_wp2_with fail
 refine (answer_any hC4 rfl h).mono ?_
 rintro e w5 ⟨rfl, rfl⟩
 have hMv : Mv O O4 w w4 := by
  refine ⟨(Kept.of_below HB.out O).andThen hM4.kept (fun i hi hlt => ?_), fun i hi => ?_⟩
  ·rcases hi with hi | ⟨q, hq, rfl⟩
   ·exact hi
   ·cases hq
  ·rcases hM4.own i hi with h1 | h1
   ·exact .inl h1
   ·exact .inr (Nat.le_trans HB.out.size h1)
 have hF4 : FamAt B w4 s b O4 vars room ns4 := ⟨hC4.space, hC4.good, hC4.v24, hC4.rm, hC4.len, hC4.hB⟩
 rw [hiB_all] at hm4
 have HOUT : Hid (OneOut B s b O vars room ns x w (.returned (.tuple #[.int .i64 h, .nilIface])) w4) := ⟨h, ns4, O4, rfl, hF4, hMv, hX4, hh4, hm4, by omega⟩
 clear hC4 hM4 hX4 hh4 hm4 hc4 hMv hF4
 go_wp2
 go_ret2
 exact HOUT.out
end
end Go.Proofs.YtbklgjmkdhinpaaGreatDoor.Fm
