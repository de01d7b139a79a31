/- The contract of trimmed. -/
import Derived.Test.YtbklgjmkdhinpaaGreatDoorFmFun
import Derived.Test.YtbklgjmkdhinpaaGreatDoorFmSem
import Derived.Test.YtbklgjmkdhinpaaGreatDoorErAs
set_option maxHeartbeats 1000000
set_option maxRecDepth 100000
namespace Go.Proofs.YtbklgjmkdhinpaaGreatDoor.Fm
open Go.RowKit Go.Maps Go.Proofs.YtbklgjmkdhinpaaGreatDoor.Bd
def stF : Nat -> List Nd -> Int -> Nat -> List Nat
 | 0, _, h, x => if h = 1 then [x] else []
 | d + 1, ns, h, x => if topOf ns h = 24 then (if h = 1 then [x] else []) else stF d ns (nd ns (pl h)).l x ++ stF d ns (nd ns (pl h)).h (x ||| 2 ^ (topOf ns h).toNat)
def stL (ns : List Nd) (h : Int) (x : Nat) : List Nat := stF 24 ns h x
def allS : Nat -> Nat -> List Nat
 | 0, _ => [0]
 | n + 1, v => allS n (v + 1) ++ (allS n (v + 1)).map fun y => 2 ^ v ||| y
theorem allS_low : ∀ (n v y : Nat), y ∈ allS n v -> ∀ i, i < v -> y.testBit i = false
 | 0, v, y, hy, i, hi => by
  unfold allS at hy; rw [List.mem_singleton] at hy; subst hy; simp
 | n + 1, v, y, hy, i, hi => by
  unfold allS at hy
  rcases List.mem_append.1 hy with h | h
  ·exact allS_low n (v + 1) y h i (by omega)
  ·obtain ⟨z, hz, rfl⟩ := List.mem_map.1 h
   rw [Nat.testBit_or, allS_low n (v + 1) z hz i (by omega), Nat.testBit_two_pow]
   simp; omega
section
variable {ns : List Nd} {vars : Nat}
theorem stF_any (hr : Ranked ns) : ∀ (d e : Nat) (h : Int) (x : Nat), 24 <= topOf ns h + d -> 24 <= topOf ns h + e -> stF d ns h x = stF e ns h x
 | 0, 0, h, _, _, _ => rfl
 | 0, e + 1, h, x, hd, _ => by
  have := (topOf_le hr h).2
  unfold stF; rw [if_pos (show topOf ns h = 24 by omega)]
 | d + 1, 0, h, x, _, he => by
  have := (topOf_le hr h).2
  unfold stF; rw [if_pos (show topOf ns h = 24 by omega)]
 | d + 1, e + 1, h, x, hd, he => by
  unfold stF
  by_cases ht : topOf ns h = 24
  ·rw [if_pos ht, if_pos ht]
  ·rw [if_neg ht, if_neg ht]
   obtain ⟨k1, -, k2, -⟩ := kids hr ht
   rw [stF_any hr d e _ _ (by omega) (by omega), stF_any hr d e (nd ns (pl h)).h _ (by omega) (by omega)]
theorem stL_end {h : Int} (ht : topOf ns h = 24) (x : Nat) : stL ns h x = if h = 1 then [x] else [] := by unfold stL stF; rw [if_pos ht]
theorem stL_node (hr : Ranked ns) {h : Int} (ht : topOf ns h ≠ 24) (x : Nat) : stL ns h x = stL ns (nd ns (pl h)).l x ++ stL ns (nd ns (pl h)).h (x ||| 2 ^ (topOf ns h).toNat) := by
 obtain ⟨k1, -, k2, -⟩ := kids hr ht
 have h0 := (topOf_le hr h).1
 show stF 24 ns h x = stF 24 _ _ _ ++ stF 24 _ _ _
 rw [show stF 24 ns h x = stF 23 ns (nd ns (pl h)).l x ++ stF 23 ns (nd ns (pl h)).h (x ||| 2 ^ (topOf ns h).toNat) from by unfold stF; rw [if_neg ht]; rfl]
 rw [stF_any hr 23 24 _ _ (by omega) (by omega), stF_any hr 23 24 (nd ns (pl h)).h _ (by omega) (by omega)]
theorem or_bit_free {y v : Nat} (h : y.testBit v = false) : 2 ^ v ||| y = y ^^^ 2 ^ v := by
 apply Nat.eq_of_testBit_eq; intro i
 rw [Nat.testBit_or, Nat.testBit_two_pow, bit_x]
 by_cases e : i = v
 ·subst e; simp [h]
 ·simp [e, Ne.symm e]
theorem stL_zero (hg : Good vars ns) {h : Int} (x : Nat) (hle : (vars : Int) <= topOf ns h) : stL ns h x = (([0] : List Nat).filter (inB ns h)).map fun y => x ||| y := by
 have ht : topOf ns h = 24 := by
  by_cases t : topOf ns h = 24
  ·exact t
  ·have := top_vars hg t; omega
 rw [stL_end ht, List.filter_cons, inB_end ht]
 by_cases e : h = 1
 ·simp [e]
 ·simp [e]
theorem filter_lo (hr : Ranked ns) {h : Int} {v : Nat} (ht : topOf ns h ≠ 24) (tn : (topOf ns h).toNat = v) (A : List Nat) (low : ∀ y ∈ A, y.testBit v = false) : A.filter (inB ns h) = A.filter (inB ns (nd ns (pl h)).l) := by
 apply List.filter_congr
 intro y hy
 rw [inB_node hr ht, tn, if_neg (by rw [low y hy]; decide)]
theorem filter_hi (hr : Ranked ns) {h : Int} {v : Nat} (ht : topOf ns h ≠ 24) (tn : (topOf ns h).toNat = v) (A : List Nat) (low : ∀ y ∈ A, y.testBit v = false) : A.filter (inB ns h ∘ fun y => 2 ^ v ||| y) = A.filter (inB ns (nd ns (pl h)).h) := by
 apply List.filter_congr
 intro y hy
 have hb := low y hy
 rw [Function.comp_apply, or_bit_free hb, inB_node hr ht, tn, if_pos (by rw [xor_bit, hb]; rfl), xor_back]
theorem filter_no (hr : Ranked ns) {h : Int} {v : Nat} (hv : (v : Int) < topOf ns h) (A : List Nat) : A.filter (inB ns h ∘ fun y => 2 ^ v ||| y) = [] := by
 rw [List.filter_eq_nil_iff]
 intro y hy hin0
 rw [Function.comp_apply] at hin0
 have hin : In ns h (2 ^ v ||| y) := hin0
 have hb : (2 ^ v ||| y).testBit v = true := by rw [Nat.testBit_or, Nat.testBit_two_pow]; simp
 have hc := in_low hr (h := h) (x := 2 ^ v ||| y) (i := v) hv hin
 rw [hb] at hc; cases hc
theorem allS_succ (n v : Nat) : allS (n + 1) v = allS n (v + 1) ++ (allS n (v + 1)).map fun y => 2 ^ v ||| y := rfl
theorem stL_is (hg : Good vars ns) (hv24 : vars <= 24) (n : Nat) : ∀ (v : Nat) (h : Int) (x : Nat), v + n = vars -> hasB ns h = true -> (v : Int) <= topOf ns h -> stL ns h x = ((allS n v).filter (inB ns h)).map fun y => x ||| y := by
 have hr := hg.ranked
 induction n with
 | zero =>
  intro v h x hv hh hle
  exact stL_zero hg x (by omega)
 | succ n ih =>
  intro v h x hv hh hle
  have low : ∀ y ∈ allS n (v + 1), y.testBit v = false := fun y hy => allS_low n (v + 1) y hy v (by omega)
  rw [allS_succ, List.filter_append, List.map_append, List.filter_map, List.map_map]
  by_cases e : topOf ns h = (v : Int)
  ·have ht : topOf ns h ≠ 24 := by omega
   obtain ⟨k1, k2, k3, k4⟩ := kids hr ht
   have tn : (topOf ns h).toNat = v := by omega
   rw [stL_node hr ht, ih (v + 1) _ x (by omega) k2 (by omega), ih (v + 1) _ _ (by omega) k4 (by omega), tn, filter_lo hr ht tn _ low, filter_hi hr ht tn _ low]
   congr 1
   apply List.map_congr_left
   intro y hy
   show _ = x ||| (2 ^ v ||| y)
   rw [Nat.or_assoc]
  ·rw [ih (v + 1) h x (by omega) hh (by omega), filter_no hr (by omega)]
   simp
theorem stL_all (hg : Good vars ns) (hv24 : vars <= 24) {h : Int} (hh : hasB ns h = true) : stL ns h 0 = (allS vars 0).filter (inB ns h) := by
 rw [stL_is hg hv24 vars 0 h 0 (by omega) hh (topOf_le hg.ranked h).1]
 simp
theorem stF_len (ns : List Nd) : ∀ (d : Nat) (h : Int) (x : Nat), (stF d ns h x).length <= 2 ^ d
 | 0, h, x => by unfold stF; split <;> simp
 | d + 1, h, x => by
  unfold stF
  have := Nat.one_le_two_pow (n := d + 1)
  split
  ·split <;> simp <;> omega
  ·have h1 := stF_len ns d (nd ns (pl h)).l x
   have h2 := stF_len ns d (nd ns (pl h)).h (x ||| 2 ^ (topOf ns h).toNat)
   rw [List.length_append, Nat.pow_succ]; omega
end
end Go.Proofs.YtbklgjmkdhinpaaGreatDoor.Fm
namespace Go.Proofs.YtbklgjmkdhinpaaGreatDoor.Bd
open Go.RowKit Go.Maps
structure Tri (w : World) (bk : Nat) (a b c : Int) : Prop where
 lt : bk < w.heap.size
 c0 : w.cell? ⟨bk, 0, none⟩ = some (.int .i64 a)
 c1 : w.cell? ⟨bk, 1, none⟩ = some (.int .i64 b)
 c2 : w.cell? ⟨bk, 2, none⟩ = some (.int .i64 c)
 fz : ∀ i, w.frozen? ⟨bk, i, none⟩ = false
section
variable {w w' : World} {bk bk' i : Nat} {a b c : Int}
theorem Tri.kept {S : Nat -> Prop} (h : Tri w bk a b c) (hk : Kept S w w') (hn : ¬ S bk) : Tri w' bk a b c :=
 ⟨Nat.lt_of_lt_of_le h.lt hk.size, (hk.cell (a := ⟨bk, 0, none⟩) h.lt hn).trans h.c0, (hk.cell (a := ⟨bk, 1, none⟩) h.lt hn).trans h.c1, (hk.cell (a := ⟨bk, 2, none⟩) h.lt hn).trans h.c2, fun i => (hk.frozen (a := ⟨bk, i, none⟩) h.lt hn).trans (h.fz i)⟩
theorem Tri.new (h : Tri w bk a b c) (hb : Below w.heap.size w w') : Tri w' bk a b c := h.kept (Kept.of_below hb (fun _ => False)) (fun h => h)
theorem Tri.other (h : Tri w bk a b c) (u : Value) (hne : bk ≠ bk') : Tri (w.setCell ⟨bk', i, none⟩ u) bk a b c := h.kept (Kept.setCell (S := fun j => j = bk') w ⟨bk', i, none⟩ u rfl) hne
theorem setCell_size (w : World) (x : Addr) (u : Value) : (w.setCell x u).heap.size = w.heap.size := by simp [World.setCell]
theorem Tri.set0 (h : Tri w bk a b c) (x : Int) : Tri (w.setCell ⟨bk, 0, none⟩ (.int .i64 x)) bk x b c :=
 ⟨by rw [setCell_size]; exact h.lt, World.cell?_setCell_same _ _ _ h.c0, by rw [World.cell?_setCell_other _ _ _ _ (by simp)]; exact h.c1, by rw [World.cell?_setCell_other _ _ _ _ (by simp)]; exact h.c2, fun i => by rw [World.frozen?_setCell]; exact h.fz i⟩
theorem Tri.set1 (h : Tri w bk a b c) (x : Int) : Tri (w.setCell ⟨bk, 1, none⟩ (.int .i64 x)) bk a x c :=
 ⟨by rw [setCell_size]; exact h.lt, by rw [World.cell?_setCell_other _ _ _ _ (by simp)]; exact h.c0, World.cell?_setCell_same _ _ _ h.c1, by rw [World.cell?_setCell_other _ _ _ _ (by simp)]; exact h.c2, fun i => by rw [World.frozen?_setCell]; exact h.fz i⟩
theorem Tri.set2 (h : Tri w bk a b c) (x : Int) : Tri (w.setCell ⟨bk, 2, none⟩ (.int .i64 x)) bk a b x :=
 ⟨by rw [setCell_size]; exact h.lt, by rw [World.cell?_setCell_other _ _ _ _ (by simp)]; exact h.c0, by rw [World.cell?_setCell_other _ _ _ _ (by simp)]; exact h.c1, World.cell?_setCell_same _ _ _ h.c2, fun i => by rw [World.frozen?_setCell]; exact h.fz i⟩
theorem tri_new (w : World) (a b c : Int) (t : TypeId) : Tri (w.alloc (.cells #[.int .i64 a, .int .i64 b, .int .i64 c] t)) w.heap.size a b c := by
 obtain ⟨x0, x1, x2, x3⟩ := cell3 w (.int .i64 a) (.int .i64 b) (.int .i64 c) t
 exact ⟨by simp, x0, x1, x2, x3⟩
end
end Go.Proofs.YtbklgjmkdhinpaaGreatDoor.Bd
namespace Go.Proofs.YtbklgjmkdhinpaaGreatDoor.Bd
open Go.RowKit Go.Maps
theorem lawI : Keyed Tryz.prog 3 := int_keyed Tryz.underlying3
theorem keyI {x : Int} (h : I64 x) : keyOf Tryz.prog 3 (.int .i64 x) = some (.int .i64 x) := keyOf_int_mk Tryz.underlying3 (wf_of h)
end Go.Proofs.YtbklgjmkdhinpaaGreatDoor.Bd
namespace Go.Proofs.YtbklgjmkdhinpaaGreatDoor.Bd
open Go.RowKit Go.Maps
structure NV where
 a : Option Addr
 n : Nat
 c : Nat
def NV.val (x : NV) : Value := .agg #[.slice x.a x.n x.c]
def NV.dat (x : NV) : DataW Unit :=
 match x.a with
 | none => .agg [.lit (.int .i64 x.n), .lit (.int .i64 x.c)]
 | some ⟨b, o, none⟩ => .agg [.lit (.int .i64 x.n), .lit (.int .i64 x.c), .lit (.int .i64 b), .lit (.int .i64 o)]
 | some ⟨b, o, some s⟩ => .agg [.lit (.int .i64 x.n), .lit (.int .i64 x.c), .lit (.int .i64 b), .lit (.int .i64 o), .lit (.int .i64 s)]
theorem NV.dat_inj {x y : NV} (h : x.dat = y.dat) : x = y := by
 obtain ⟨a, n, c⟩ := x
 obtain ⟨b, m, d⟩ := y
 rcases a with _ | ⟨ab, ao, _ | sa⟩ <;> rcases b with _ | ⟨bb, bo, _ | sb⟩ <;> simp [NV.dat] at h ⊢ <;> omega
def natR (v : Value) : Option (DataW Unit × List MemPlace) :=
 match v with
 | .agg cs =>
  match cs.toList with
  | [.slice a n c] => some (NV.dat ⟨a, n, c⟩, [])
  | _ => none
 | _ => none
theorem natR_val (x : NV) : natR x.val = some (x.dat, []) := rfl
theorem natR_inv {v : Value} {x : NV} {ps : List MemPlace} (h : natR v = some (x.dat, ps)) : v = x.val := by
 unfold natR at h
 split at h
 ·rename_i cs
  split at h
  ·rename_i a n c e
   simp only [Option.some.injEq, Prod.mk.injEq] at h
   rw [<- NV.dat_inj h.1]
   have : cs = #[.slice a n c] := by cases cs; simp at e; rw [e]
   rw [this]; rfl
  ·cases h
 ·cases h
theorem zeroNat (w : World) : (zeroValue 38).run Tryz.prog w = .ok (.agg #[.slice none 0 0]) w := by kernel_rfl
def NRep (D : DataW Unit) (L : List (Int × NV)) : Prop := Rep I64 (fun x => Lit.int .i64 x) NV.dat D L
section
variable {w : World} {bm n : Nat} {D : DataW Unit} {L : List (Int × NV)}
theorem nlook_found (hD : w.ownsMap Tryz.prog 3 natR bm n D) (hR : NRep D L) {p : Int × NV} (hp : p ∈ L) :
  (Instr.lookup 68 (.map (some bm)) (.int .i64 p.1) true).run Tryz.prog w = .ok (.tuple #[p.2.val, .bool true]) w := by
 obtain ⟨v, ps, hrun, hv⟩ := hD.look_ok lawI Tryz.underlying68 (zeroNat w) (natR_val ⟨none, 0, 0⟩) (keyI (Rep.oks hR p hp))
 rw [Rep.at' hR p hp] at hv
 rw [(Rep.has hR p.1 (Rep.oks hR p hp)).2 (List.mem_map_of_mem hp), natR_inv hv] at hrun
 exact hrun
theorem nlook_none (hD : w.ownsMap Tryz.prog 3 natR bm n D) (hR : NRep D L) {a : Int} (ha : I64 a) (hn : a ∉ L.map Prod.fst) :
  (Instr.lookup 68 (.map (some bm)) (.int .i64 a) true).run Tryz.prog w = .ok (.tuple #[.agg #[.slice none 0 0], .bool false]) w := by
 obtain ⟨v, ps, hrun, hv⟩ := hD.look_ok lawI Tryz.underlying68 (zeroNat w) (natR_val ⟨none, 0, 0⟩) (keyI ha)
 have hh := Rep.not hR ha hn
 rw [atKey_of_not_has hh] at hv
 rw [hh, natR_inv hv] at hrun
 exact hrun
end
end Go.Proofs.YtbklgjmkdhinpaaGreatDoor.Bd
namespace Go.Proofs.YtbklgjmkdhinpaaGreatDoor.Bd
open Go.RowKit Go.Maps
theorem getOf_node {ns : List Nd} {x : Int} (e : topOf ns x ≠ 24) : getOf ns x = nd ns (pl x) := by unfold getOf; rw [if_neg e]; rfl
end Go.Proofs.YtbklgjmkdhinpaaGreatDoor.Bd
namespace Go.Proofs.YtbklgjmkdhinpaaGreatDoor.Bd
open Go.RowKit Num Go.Sort
theorem Dig.take {k : IntKind} {w : World} {a : Option Addr} {cap n : Nat} {ds : List Nat} (h : Dig k w (.slice a ds.length cap) ds) (hn : n <= ds.length) : Dig k w (.slice a n cap) (ds.take n) := by
 obtain ⟨a', cap', hv, hc, hi⟩ := h
 cases hv
 have hl : (ds.take n).length = n := by rw [List.length_take, Nat.min_eq_left hn]
 refine ⟨a, cap, by rw [hl], by omega, fun i hlt => ?_⟩
 rw [hl] at hlt
 obtain ⟨b, off, ha, hb, hcell⟩ := hi i (by omega)
 exact ⟨b, off, ha, hb, by rw [dig_take, if_pos hlt]; exact hcell⟩
theorem Dig.setCell {k : IntKind} {w : World} {v : Value} {ds : List Nat} {B : Nat} (h : Dig k w v ds) (hb : w.heap.size <= B) {W : World} (hW : Below w.heap.size w W) (u : Value) : Dig k (W.setCell ⟨B, 0, none⟩ u) v ds :=
 h.below (hW.setCell hb u)
theorem trimmed_any (v : Value) (ds : List Nat) (w : World) (hd : Dig .u64 w v ds) (sm : ∀ i, dig ds i < 1000000000) (hl : ds.length <= 100000) :
  Calls Tryz.prog 100 #[v] w fun e w' => ∃ v', e = .returned (.agg #[v']) /\ ∃ ds', Dig .u64 w' v' ds' /\ Norm 1000000000 ds' /\ val 1000000000 ds' = val 1000000000 ds /\ ds'.length <= ds.length /\ Below w.heap.size w w' := by
 obtain ⟨a, cap, hv, hc, hcell⟩ := id hd
 subst hv
 have HC : Hid (∀ i, i < ds.length -> ∃ b off, a = some ⟨b, off, none⟩ /\ b < w.heap.size /\ w.cell? ⟨b, off + i, none⟩ = some (.int .u64 ((dig ds i : Nat) : Int))) := hcell
 clear hcell
 go_enter Tryz.func100, Tryz.ntmps100
 go_wp2_with fail
 go_loop [3] (fun n => ∃ k : Nat, k <= ds.length /\ n = .int .i64 k /\ ∀ i, k <= i -> dig ds i = 0) (fun n => (intOf n).toNat)
 case atStart => exact ⟨ds.length, Nat.le_refl _, rfl, fun i hi => dig_beyond ds i hi⟩
 case round =>
  obtain ⟨k, hk, rfl, hz⟩ := hrel
  have HZ : Hid (∀ i, k <= i -> dig ds i = 0) := hz
  clear hz
  by_cases h0 : k = 0
  ·subst h0
   have hx := norm_take (B := 1000000000) (k := 0) (by omega) sm (Nat.zero_le _) (fun h => absurd rfl h)
   have hval := val_take (B := 1000000000) (k := 0) (Nat.zero_le _) HZ.out
   have hnil : ds.take 0 = [] := rfl
   rw [hnil] at hx hval
   go_wp2
   refine bodyPost_ret (v := .agg #[.slice none 0 0]) (by simp [results, Tryz.results100, go_sem]) rfl ?_
   exact ⟨_, rfl, [], Dig.nil _ _, hx, hval, Nat.zero_le _, (Below.refl _ _).alloc (Nat.le_refl _) _⟩
  ·obtain ⟨j, rfl⟩ : ∃ j, k = j + 1 := ⟨k - 1, by omega⟩
   obtain ⟨b, off, ha, hb, hcl⟩ := HC.out j (by omega)
   subst ha
   have hne : ¬ b = w.heap.size := by omega
   have hj := sm j
   by_cases hzj : dig ds j = 0
   ·rw [hzj] at hcl
    go_wp2
    go_round
    case rel =>
     refine ⟨j, by omega, by go_num, fun i hi => ?_⟩
     by_cases e : i = j
     ·rw [e]; exact hzj
     ·exact HZ.out i (by omega)
    case measure => simp [intOf]
   ·have hbq : (((dig ds j : Nat) : Int) == 0) = false := by rw [beq_eq_false_iff_ne]; omega
    have hx := norm_take (B := 1000000000) (k := j + 1) (by omega) sm hk (fun _ => hzj)
    have hval := val_take (B := 1000000000) hk HZ.out
    have hDt := Dig.take hd hk
    clear hzj
    go_wp2
    refine bodyPost_ret (v := .agg #[.slice (some ⟨b, off, none⟩) (j + 1) cap]) (by simp [results, Tryz.results100, go_sem]) rfl ?_
    exact ⟨_, rfl, ds.take (j + 1), hDt.below ((Below.refl _ _).alloc (Nat.le_refl _) _), hx, hval, by rw [List.length_take]; omega, (Below.refl _ _).alloc (Nat.le_refl _) _⟩
end Go.Proofs.YtbklgjmkdhinpaaGreatDoor.Bd
