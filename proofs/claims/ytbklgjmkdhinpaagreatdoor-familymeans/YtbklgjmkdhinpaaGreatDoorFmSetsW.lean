/- The sets of a family are gathered. -/
import Derived.Test.YtbklgjmkdhinpaaGreatDoorFmFun
import Derived.Test.YtbklgjmkdhinpaaGreatDoorFmWays
import Derived.Test.YtbklgjmkdhinpaaGreatDoorCnAdd
set_option maxHeartbeats 4000000
set_option maxRecDepth 100000
namespace Go.Proofs.YtbklgjmkdhinpaaGreatDoor.Fm
open Go.RowKit Go.Maps Go.Proofs.YtbklgjmkdhinpaaGreatDoor.Bd
def stF : Nat -> List Nd -> Int -> Nat -> List Nat
 | 0, _, h, x => if h = 1 then [x] else []
 | d + 1, ns, h, x => if topOf ns h = 24 then (if h = 1 then [x] else []) else stF d ns (nd ns (pl h)).l x ++ stF d ns (nd ns (pl h)).h (x ||| 2 ^ (topOf ns h).toNat)
def stL (ns : List Nd) (h : Int) (x : Nat) : List Nat := stF 24 ns h x
def allS : Nat -> Nat -> List Nat
 | 0, _ => [0]
 | n + 1, v => allS n (v + 1) ++ (allS n (v + 1)).map fun y => 2 ^ v ||| y
theorem allS_low : ∀ (n v y : Nat), y ∈ allS n v -> ∀ i, i < v -> y.testBit i = false
 | 0, v, y, hy, i, hi => by
  unfold allS at hy; rw [List.mem_singleton] at hy; subst hy; simp
 | n + 1, v, y, hy, i, hi => by
  unfold allS at hy
  rcases List.mem_append.1 hy with h | h
  ·exact allS_low n (v + 1) y h i (by omega)
  ·obtain ⟨z, hz, rfl⟩ := List.mem_map.1 h
   rw [Nat.testBit_or, allS_low n (v + 1) z hz i (by omega), Nat.testBit_two_pow]
   simp; omega
section
variable {ns : List Nd} {vars : Nat}
theorem stF_any (hr : Ranked ns) : ∀ (d e : Nat) (h : Int) (x : Nat), 24 <= topOf ns h + d -> 24 <= topOf ns h + e -> stF d ns h x = stF e ns h x
 | 0, 0, h, _, _, _ => rfl
 | 0, e + 1, h, x, hd, _ => by
  have := (topOf_le hr h).2
  unfold stF; rw [if_pos (show topOf ns h = 24 by omega)]
 | d + 1, 0, h, x, _, he => by
  have := (topOf_le hr h).2
  unfold stF; rw [if_pos (show topOf ns h = 24 by omega)]
 | d + 1, e + 1, h, x, hd, he => by
  unfold stF
  by_cases ht : topOf ns h = 24
  ·rw [if_pos ht, if_pos ht]
  ·rw [if_neg ht, if_neg ht]
   obtain ⟨k1, -, k2, -⟩ := kids hr ht
   rw [stF_any hr d e _ _ (by omega) (by omega), stF_any hr d e (nd ns (pl h)).h _ (by omega) (by omega)]
theorem stL_end {h : Int} (ht : topOf ns h = 24) (x : Nat) : stL ns h x = if h = 1 then [x] else [] := by unfold stL stF; rw [if_pos ht]
theorem stL_node (hr : Ranked ns) {h : Int} (ht : topOf ns h ≠ 24) (x : Nat) : stL ns h x = stL ns (nd ns (pl h)).l x ++ stL ns (nd ns (pl h)).h (x ||| 2 ^ (topOf ns h).toNat) := by
 obtain ⟨k1, -, k2, -⟩ := kids hr ht
 have h0 := (topOf_le hr h).1
 show stF 24 ns h x = stF 24 _ _ _ ++ stF 24 _ _ _
 rw [show stF 24 ns h x = stF 23 ns (nd ns (pl h)).l x ++ stF 23 ns (nd ns (pl h)).h (x ||| 2 ^ (topOf ns h).toNat) from by unfold stF; rw [if_neg ht]; rfl]
 rw [stF_any hr 23 24 _ _ (by omega) (by omega), stF_any hr 23 24 (nd ns (pl h)).h _ (by omega) (by omega)]
theorem or_bit_free {y v : Nat} (h : y.testBit v = false) : 2 ^ v ||| y = y ^^^ 2 ^ v := by
 apply Nat.eq_of_testBit_eq; intro i
 rw [Nat.testBit_or, Nat.testBit_two_pow, bit_x]
 by_cases e : i = v
 ·subst e; simp [h]
 ·simp [e, Ne.symm e]
theorem stL_zero (hg : Good vars ns) {h : Int} (x : Nat) (hle : (vars : Int) <= topOf ns h) : stL ns h x = (([0] : List Nat).filter (inB ns h)).map fun y => x ||| y := by
 have ht : topOf ns h = 24 := by
  by_cases t : topOf ns h = 24
  ·exact t
  ·have := top_vars hg t; omega
 rw [stL_end ht, List.filter_cons, inB_end ht]
 by_cases e : h = 1
 ·simp [e]
 ·simp [e]
theorem filter_lo (hr : Ranked ns) {h : Int} {v : Nat} (ht : topOf ns h ≠ 24) (tn : (topOf ns h).toNat = v) (A : List Nat) (low : ∀ y ∈ A, y.testBit v = false) : A.filter (inB ns h) = A.filter (inB ns (nd ns (pl h)).l) := by
 apply List.filter_congr
 intro y hy
 rw [inB_node hr ht, tn, if_neg (by rw [low y hy]; decide)]
theorem filter_hi (hr : Ranked ns) {h : Int} {v : Nat} (ht : topOf ns h ≠ 24) (tn : (topOf ns h).toNat = v) (A : List Nat) (low : ∀ y ∈ A, y.testBit v = false) : A.filter (inB ns h ∘ fun y => 2 ^ v ||| y) = A.filter (inB ns (nd ns (pl h)).h) := by
 apply List.filter_congr
 intro y hy
 have hb := low y hy
 rw [Function.comp_apply, or_bit_free hb, inB_node hr ht, tn, if_pos (by rw [xor_bit, hb]; rfl), xor_back]
theorem filter_no (hr : Ranked ns) {h : Int} {v : Nat} (hv : (v : Int) < topOf ns h) (A : List Nat) : A.filter (inB ns h ∘ fun y => 2 ^ v ||| y) = [] := by
 rw [List.filter_eq_nil_iff]
 intro y hy hin0
 rw [Function.comp_apply] at hin0
 have hin : In ns h (2 ^ v ||| y) := hin0
 have hb : (2 ^ v ||| y).testBit v = true := by rw [Nat.testBit_or, Nat.testBit_two_pow]; simp
 have hc := in_low hr (h := h) (x := 2 ^ v ||| y) (i := v) hv hin
 rw [hb] at hc; cases hc
theorem allS_succ (n v : Nat) : allS (n + 1) v = allS n (v + 1) ++ (allS n (v + 1)).map fun y => 2 ^ v ||| y := rfl
theorem stL_is (hg : Good vars ns) (hv24 : vars <= 24) (n : Nat) : ∀ (v : Nat) (h : Int) (x : Nat), v + n = vars -> hasB ns h = true -> (v : Int) <= topOf ns h -> stL ns h x = ((allS n v).filter (inB ns h)).map fun y => x ||| y := by
 have hr := hg.ranked
 induction n with
 | zero =>
  intro v h x hv hh hle
  exact stL_zero hg x (by omega)
 | succ n ih =>
  intro v h x hv hh hle
  have low : ∀ y ∈ allS n (v + 1), y.testBit v = false := fun y hy => allS_low n (v + 1) y hy v (by omega)
  rw [allS_succ, List.filter_append, List.map_append, List.filter_map, List.map_map]
  by_cases e : topOf ns h = (v : Int)
  ·have ht : topOf ns h ≠ 24 := by omega
   obtain ⟨k1, k2, k3, k4⟩ := kids hr ht
   have tn : (topOf ns h).toNat = v := by omega
   rw [stL_node hr ht, ih (v + 1) _ x (by omega) k2 (by omega), ih (v + 1) _ _ (by omega) k4 (by omega), tn, filter_lo hr ht tn _ low, filter_hi hr ht tn _ low]
   congr 1
   apply List.map_congr_left
   intro y hy
   show _ = x ||| (2 ^ v ||| y)
   rw [Nat.or_assoc]
  ·rw [ih (v + 1) h x (by omega) hh (by omega), filter_no hr (by omega)]
   simp
theorem stL_all (hg : Good vars ns) (hv24 : vars <= 24) {h : Int} (hh : hasB ns h = true) : stL ns h 0 = (allS vars 0).filter (inB ns h) := by
 rw [stL_is hg hv24 vars 0 h 0 (by omega) hh (topOf_le hg.ranked h).1]
 simp
theorem stF_len (ns : List Nd) : ∀ (d : Nat) (h : Int) (x : Nat), (stF d ns h x).length <= 2 ^ d
 | 0, h, x => by unfold stF; split <;> simp
 | d + 1, h, x => by
  unfold stF
  have := Nat.one_le_two_pow (n := d + 1)
  split
  ·split <;> simp <;> omega
  ·have h1 := stF_len ns d (nd ns (pl h)).l x
   have h2 := stF_len ns d (nd ns (pl h)).h (x ||| 2 ^ (topOf ns h).toNat)
   rw [List.length_append, Nat.pow_succ]; omega
end
end Go.Proofs.YtbklgjmkdhinpaaGreatDoor.Fm
namespace Go.Proofs.YtbklgjmkdhinpaaGreatDoor.Fm
open Go.RowKit Go.Maps Go.Proofs.YtbklgjmkdhinpaaGreatDoor.Bd
def ucells (l : List Nat) : List Value := l.map fun n : Nat => Value.int .u64 (n : Int)
theorem ucells_len (l : List Nat) : (ucells l).length = l.length := by simp [ucells]
theorem ucells_app (l m : List Nat) : ucells (l ++ m) = ucells l ++ ucells m := by simp [ucells]
theorem ucells_at (l : List Nat) (i : Nat) (h : i < l.length) : (ucells l)[i]? = some (.int .u64 (l.getD i 0 : Nat)) := by simp [ucells, List.getD_eq_getElem?_getD, h]
theorem infoUint : (Tryz.prog.info? 46).map (fun i => (i.zero, i.size, i.bytes)) = some (some (.int .u64 0), 1, 8) := by kernel_rfl
theorem cell_oneU (w : World) (x : Int) (t : TypeId) : ∀ (j : Nat) (u : Value), [Value.int .u64 x][j]? = some u -> (w.alloc (.cells #[.int .u64 x] t)).cell? ((⟨w.heap.size, 0, none⟩ : Addr).add j) = some u := by
 intro j u hj
 have : j = 0 := by have := (List.getElem?_eq_some_iff.1 hj).1; simp at this; omega
 subst this
 simp at hj
 subst hj
 simp [Addr.add]
theorem or_pow64 (m i : Nat) (hm : m < 2 ^ 24) (hi : i < 24) : bits BinOp.or IntKind.u64 (m : Int) (IntKind.u64.wrap (2 ^ i)) = ((m ||| 2 ^ i : Nat) : Int) := by
 have h1 : (2 : Nat) ^ i < 2 ^ 64 := Nat.pow_lt_pow_right (by decide) (by omega)
 have h2 : (2 : Nat) ^ 24 < 18446744073709551616 := by decide
 have e : IntKind.u64.wrap (2 ^ i) = ((2 ^ i : Nat) : Int) := by
  rw [IntKind.wrap_u64, show ((2 : Int) ^ i) = ((2 ^ i : Nat) : Int) by simp]
  exact Int.emod_eq_of_lt (Int.natCast_nonneg _) (by omega)
 rw [e, bits_or_u64_nat m (2 ^ i) (by omega) (by omega)]
section
variable {B N s b : Nat} {O : Nat -> Prop} {vars : Nat} {room : Int} {ns : List Nd}
def SetsOut (N : Nat) (l : List Nat) (v0 : Value) (w : World) (e : Ending) (w' : World) : Prop :=
 ∃ a c, e = .returned (.slice a l.length c) /\ w'.ownsRow N 46 1 (.slice a l.length c) l.length (ucells l) /\ Kept (fun j => v0.ownBlock = some j) w w' /\ ((Value.slice a l.length c).ownBlock = v0.ownBlock \/ ∃ g, (Value.slice a l.length c).ownBlock = some g /\ w.heap.size <= g)
theorem sets_end (w : World) (hS : SpaceAt B w s b O vars room ns) (hl : ns.length <= 90000) (hN : N <= w.heap.size) (h : Int) (hh : hasB ns h = true) (ht : topOf ns h = 24) (x : Nat) (acc : List Nat) (hacc : acc.length <= 100000000) (a : Option Addr) (c : Nat) (hrow : w.ownsRow N 46 1 (.slice a acc.length c) acc.length (ucells acc)) :
  Calls Tryz.prog 27 #[.pointer (some ⟨s, 0, none⟩), .int .i64 h, .int .u64 (x : Int), .slice a acc.length c] w (SetsOut N (acc ++ stL ns h x) (.slice a acc.length c) w) := by
 have hi := has_i64 hh (by omega)
 have c0 := hS.c0
 have HG := spGet hS h hi hl
 rw [show decide (topOf ns h ≠ 24) = false by simp [ht], show getOf ns h = ⟨0, 0, 0⟩ by unfold getOf; rw [if_pos ht]] at HG
 unfold Nd.val at HG
 have HGT := Lib.hid HG
 obtain ⟨i0, hin, hz0, hz1, hz2⟩ := info_parts infoUint
 have HR := Lib.hid hrow
 rw [stL_end ht]
 by_cases e1 : h = 1
 ·rw [if_pos e1]
  subst e1
  clear HG hS hrow ht hh
  go_enter Tryz.func27, Tryz.ntmps27
  go_wp2_with fail
  refine HGT.out.mono ?_
  rintro e w2 ⟨rfl, hb2⟩
  have hb3 := hb2.alloc hb2.size (.cells #[.int .i64 0, .int .i64 0, .int .i64 0] 83)
  have HB3 := Lib.hid hb3
  have HR3 : Hid ((w2.alloc (.cells #[.int .i64 0, .int .i64 0, .int .i64 0] 83)).ownsRow N 46 1 (.slice a acc.length c) acc.length (ucells acc)) := ownsRow_kept HR.out (Kept.of_below hb3 (fun _ => False)) (fun _ _ h => h)
  have hN3 : N <= (w2.alloc (.cells #[.int .i64 0, .int .i64 0, .int .i64 0] 83)).heap.size := Nat.le_trans hN hb3.size
  clear hb2 hb3 HGT HR
  go_wp2_with (at_builtin; refine wpList_append_own_at _ rfl _ _ 28 rfl N 46 i0 (.int .u64 0) 1 8 Tryz.underlying28 hin hz0 hz1 hz2 rfl (by decide) _ _ _ rfl (HR3.out.alloc _) ⟨w2.heap.size + 1, 0, none⟩ 1 1 [.int .u64 (x : Int)] rfl rfl ?c1 ?c2 ?c3 ?c4 ?c5 ?_)
  case c1 =>
   have e1 : (w2.alloc (.cells #[.int .i64 0, .int .i64 0, .int .i64 0] 83)).heap.size = w2.heap.size + 1 := by simp
   rw [<- e1]; exact cell_oneU _ _ _
  case c2 => intro u hu; simp at hu; subst hu; rfl
  case c3 => unfold maxLen; omega
  case c4 => omega
  case c5 => show N <= (World.alloc _ _).heap.size; rw [World.size_alloc]; omega
  intro v7 w7 hown7 hgrow7 _ hloc7
  have hlen : (acc ++ [x]).length = acc.length + 1 := by simp
  obtain ⟨a7, c7, rfl⟩ : ∃ a7 c7, v7 = .slice a7 (acc.length + 1) c7 := by
   rcases hown7.2 with ⟨-, h2⟩ | ⟨g, cp, cur, h2, -⟩
   ·omega
   ·exact ⟨_, _, h2⟩
  have hk7 : Kept (fun j => (Value.slice a acc.length c).ownBlock = some j) w w7 := ((Kept.of_below HB3.out _).trans (Kept.alloc _ _ _)).trans (Kept.of_grown hgrow7 (fun i h => h))
  have hl7 : (Value.slice a7 (acc.length + 1) c7).ownBlock = (Value.slice a acc.length c).ownBlock \/ ∃ g, (Value.slice a7 (acc.length + 1) c7).ownBlock = some g /\ w.heap.size <= g := by
   rcases hloc7 with h | h
   ·exact .inl h
   ·exact .inr ⟨_, h, by have := HB3.out.size; rw [World.size_alloc] at this; omega⟩
  have HOUT : Hid (SetsOut N (acc ++ [x]) (.slice a acc.length c) w (.returned (.slice a7 (acc.length + 1) c7)) w7) := ⟨a7, c7, by rw [hlen], by rw [hlen, ucells_app]; exact hown7, hk7, by rw [hlen]; exact hl7⟩
  clear hown7 hgrow7 hloc7 hk7 hl7
  go_wp2
  go_ret
  exact HOUT.out
 ·rw [if_neg e1, List.append_nil]
  have h0 : h = 0 := (end_of hh ht).resolve_right e1
  subst h0
  clear HG hS hrow ht hh e1
  go_enter Tryz.func27, Tryz.ntmps27
  go_wp2_with fail
  refine HGT.out.mono ?_
  rintro e w2 ⟨rfl, hb2⟩
  have hb3 := hb2.alloc hb2.size (.cells #[.int .i64 0, .int .i64 0, .int .i64 0] 83)
  have HB3 := Lib.hid hb3
  have HR3 : Hid ((w2.alloc (.cells #[.int .i64 0, .int .i64 0, .int .i64 0] 83)).ownsRow N 46 1 (.slice a acc.length c) acc.length (ucells acc)) := ownsRow_kept HR.out (Kept.of_below hb3 (fun _ => False)) (fun _ _ h => h)
  clear hb2 hb3 HGT HR
  go_wp2
  go_ret
  exact ⟨a, c, rfl, HR3.out, Kept.of_below HB3.out _, .inl rfl⟩
def SetsOk (B N s b : Nat) (O : Nat -> Prop) (vars : Nat) (room : Int) (ns : List Nd) (d : Nat) : Prop :=
 ∀ (w : World), SpaceAt B w s b O vars room ns -> N <= w.heap.size -> ∀ (h : Int), hasB ns h = true -> 24 <= topOf ns h + d -> ∀ (x : Nat), x < 2 ^ 24 -> ∀ (acc : List Nat), acc.length + 2 ^ d <= 100000000 -> ∀ (a : Option Addr) (c : Nat), w.ownsRow N 46 1 (.slice a acc.length c) acc.length (ucells acc) ->
  Calls Tryz.prog 27 #[.pointer (some ⟨s, 0, none⟩), .int .i64 h, .int .u64 (x : Int), .slice a acc.length c] w (SetsOut N (acc ++ stL ns h x) (.slice a acc.length c) w)
theorem sets_node (hr : Ranked ns) (hl : ns.length <= 90000) (hO : ∀ k, O k -> k < N) (hs : s < N) {d : Nat} (ih : SetsOk B N s b O vars room ns d) (w : World) (hS : SpaceAt B w s b O vars room ns) (hN : N <= w.heap.size) (h : Int) (hh : hasB ns h = true) (ht : topOf ns h ≠ 24) (hd : 24 <= topOf ns h + ((d + 1 : Nat) : Int)) (x : Nat) (hx : x < 2 ^ 24) (acc : List Nat) (hacc : acc.length + 2 ^ (d + 1) <= 100000000) (a : Option Addr) (c : Nat) (hrow : w.ownsRow N 46 1 (.slice a acc.length c) acc.length (ucells acc)) :
  Calls Tryz.prog 27 #[.pointer (some ⟨s, 0, none⟩), .int .i64 h, .int .u64 (x : Int), .slice a acc.length c] w (SetsOut N (acc ++ stL ns h x) (.slice a acc.length c) w) := by
 have hi := has_i64 hh (by omega)
 have c0 := hS.c0
 have HG := spGet hS h hi hl
 have h0 := (topOf_le hr h).1
 have ht24 := Go.Proofs.YtbklgjmkdhinpaaGreatDoor.Bd.top_lt hr ht
 obtain ⟨k1, k2, k3, k4⟩ := kids hr ht
 have hst := stL_node hr ht x
 have hgv : (getOf ns h).v = topOf ns h := by rw [getOf_node ht]; exact (node_at ht).2.2.1.symm
 have hgn := getOf_node ht
 rw [show decide (topOf ns h ≠ 24) = true by simp [ht]] at HG
 unfold Nd.val at HG
 rw [<- hgn] at k1 k2 k3 k4 hst
 obtain ⟨t, et⟩ : ∃ t : Nat, topOf ns h = (t : Int) := ⟨(topOf ns h).toNat, by omega⟩
 rw [et] at hgv ht24 k1 k3 hst hd
 have ett : ((t : Int)).toNat = t := by omega
 rw [ett] at hst
 have hp : 2 ^ (d + 1) = 2 ^ d + 2 ^ d := by rw [Nat.pow_succ]; omega
 generalize getOf ns h = gn at *
 obtain ⟨gv, gl, gh⟩ := gn
 simp only at hgv k1 k2 k3 k4 hst HG
 subst hgv
 have hor := or_pow64 x t hx (by omega)
 have hx2 : x ||| 2 ^ t < 2 ^ 24 := Nat.or_lt_two_pow hx (Nat.pow_lt_pow_right (by omega) (by omega))
 have hd1 : 24 <= topOf ns gl + (d : Int) := by omega
 have hd2 : 24 <= topOf ns gh + (d : Int) := by omega
 have ll1 : (stL ns gl x).length <= 2 ^ d := by
  have : stL ns gl x = stF d ns gl x := stF_any hr 24 d gl x (by have := (topOf_le hr gl).1; omega) hd1
  rw [this]; exact stF_len ns d gl x
 have HI1 : Hid (∀ W, SpaceAt B W s b O vars room ns -> N <= W.heap.size -> W.ownsRow N 46 1 (.slice a acc.length c) acc.length (ucells acc) -> Calls Tryz.prog 27 #[.pointer (some ⟨s, 0, none⟩), .int .i64 gl, .int .u64 (x : Int), .slice a acc.length c] W (SetsOut N (acc ++ stL ns gl x) (.slice a acc.length c) W)) := fun W hW hNW hrW => ih W hW hNW gl k2 hd1 x hx acc (by omega) a c hrW
 have HI2 : Hid (∀ W a2 c2, SpaceAt B W s b O vars room ns -> N <= W.heap.size -> W.ownsRow N 46 1 (.slice a2 (acc ++ stL ns gl x).length c2) (acc ++ stL ns gl x).length (ucells (acc ++ stL ns gl x)) -> Calls Tryz.prog 27 #[.pointer (some ⟨s, 0, none⟩), .int .i64 gh, .int .u64 ((x ||| 2 ^ t : Nat) : Int), .slice a2 (acc ++ stL ns gl x).length c2] W (SetsOut N ((acc ++ stL ns gl x) ++ stL ns gh (x ||| 2 ^ t)) (.slice a2 (acc ++ stL ns gl x).length c2) W)) := fun W a2 c2 hW hNW hrW => ih W hW hNW gh k4 hd2 (x ||| 2 ^ t) hx2 (acc ++ stL ns gl x) (by rw [List.length_append]; omega) a2 c2 hrW
 rw [hst, <- List.append_assoc]
 have HGT := Lib.hid HG
 have HR := Lib.hid hrow
 have HS := Lib.hid hS
 clear HG hS hrow hst ih k1 k2 k3 k4 hd1 hd2 hx2 hd ll1 hgn et
 generalize acc ++ stL ns gl x = acc2 at *
 generalize x ||| 2 ^ t = x2 at *
 generalize stL ns gh x2 = l2 at *
 go_enter Tryz.func27, Tryz.ntmps27
 go_wp2_with fail
 refine HGT.out.mono ?_
 rintro e w2 ⟨rfl, hb2⟩
 have hb3 := hb2.alloc hb2.size (.cells #[.int .i64 (t : Int), .int .i64 gl, .int .i64 gh] 83)
 obtain ⟨x0, x1, x2', -⟩ := cell3 w2 (.int .i64 (t : Int)) (.int .i64 gl) (.int .i64 gh) 83
 have hrow3 := ownsRow_kept HR.out (Kept.of_below hb3 (fun _ => False)) (fun _ _ h => h)
 have hN3 : N <= (w2.alloc (.cells #[.int .i64 (t : Int), .int .i64 gl, .int .i64 gh] 83)).heap.size := Nat.le_trans hN hb3.size
 have nbl : w2.heap.size < (w2.alloc (.cells #[.int .i64 (t : Int), .int .i64 gl, .int .i64 gh] 83)).heap.size := by simp
 have H1 := Lib.hid (HI1.out _ (HS.out.new hb3) hN3 hrow3)
 have hown0 : ∀ j, (Value.slice a acc.length c).ownBlock = some j -> N <= j /\ j < w.heap.size := fun j hj => HR.out.lt j hj
 have HOW := Lib.hid hown0
 have HB3 := Lib.hid hb3
 have hww := hb2.size
 clear hb2 hb3 HGT HI1 hrow3 hown0
 go_wp2_with fail
 generalize (w2.alloc (.cells #[.int .i64 (t : Int), .int .i64 gl, .int .i64 gh] 83)) = W3 at *
 refine H1.out.mono ?_
 rintro e w4 ⟨a4, c4, rfl, hrow4, hk4, hl4⟩
 have nb4 : ¬ (Value.slice a acc.length c).ownBlock = some w2.heap.size := fun h => by have := (HOW.out _ h).2; omega
 have y0 := (hk4.cell (a := ⟨w2.heap.size, 0, none⟩) nbl nb4).trans x0
 have y1 := (hk4.cell (a := ⟨w2.heap.size, 1, none⟩) nbl nb4).trans x1
 have y2 := (hk4.cell (a := ⟨w2.heap.size, 2, none⟩) nbl nb4).trans x2'
 have hS4 := (HS.out.new HB3.out).kept hk4 (fun k ho hj => by have := (HOW.out k hj).1; have := hO k ho; omega) (fun hj => by have := (HOW.out s hj).1; omega)
 have hbd : Below w4.heap.size w4 w4.drew := (Below.refl _ _).drew
 have H2 := Lib.hid (HI2.out w4.drew a4 c4 (hS4.new hbd) (Nat.le_trans hN3 hk4.size) (ownsRow_kept hrow4 (Kept.of_below hbd (fun _ => False)) (fun _ _ h => h)))
 have nb6 : ¬ (Value.slice a4 acc2.length c4).ownBlock = some w2.heap.size := fun h => by
  rcases hl4 with k | ⟨g, k, hg⟩
  ·rw [k] at h; exact nb4 h
  ·rw [k] at h; cases h; omega
 have nbl4 : w2.heap.size < w4.drew.heap.size := Nat.lt_of_lt_of_le nbl hk4.size
 have HK4 : Hid (Kept (fun j => (Value.slice a acc.length c).ownBlock = some j) w w4) := (Kept.of_below HB3.out _).trans hk4
 have HL4 := Lib.hid hl4
 have hw3 := HB3.out.size
 clear hk4 hl4 hrow4 hS4 H1 HI2 x0 x1 x2' hbd
 unfold SetsOut at H2
 go_wp2_with fail
 have SB : w4.drew.cell? ⟨w2.heap.size, 0, none⟩ = some (.int .i64 (t : Int)) /\ w4.drew.cell? ⟨w2.heap.size, 2, none⟩ = some (.int .i64 gh) := ⟨y0, y2⟩
 go_region_held3 (fun X => X.cell? ⟨w2.heap.size, 0, none⟩ = some (.int .i64 (t : Int)) /\ X.cell? ⟨w2.heap.size, 2, none⟩ = some (.int .i64 gh)) (first | exact SB | exact hsk)
  (first | (go_at_call 27; with_reducible refine H2.out.mono ?_; rintro e w6 ⟨a6, c6, rfl, hrow6, hk6, hl6⟩; have hsk : w6.cell? ⟨w2.heap.size, 0, none⟩ = some (.int .i64 (t : Int)) /\ w6.cell? ⟨w2.heap.size, 2, none⟩ = some (.int .i64 gh) := ⟨(hk6.cell (a := ⟨w2.heap.size, 0, none⟩) nbl4 nb6).trans SB.1, (hk6.cell (a := ⟨w2.heap.size, 2, none⟩) nbl4 nb6).trans SB.2⟩))
 have hw4 := HK4.out.size
 have hkf : Kept (fun j => (Value.slice a acc.length c).ownBlock = some j) w w6 := HK4.out.drew.andThen hk6 (fun i hi hlt => by
  rcases HL4.out with h | ⟨g, h, hg⟩
  ·rw [<- h]; exact hi
  ·rw [h] at hi; cases hi; omega)
 have hlf : (Value.slice a6 (acc2 ++ l2).length c6).ownBlock = (Value.slice a acc.length c).ownBlock \/ ∃ g, (Value.slice a6 (acc2 ++ l2).length c6).ownBlock = some g /\ w.heap.size <= g := by
  rcases hl6 with h | ⟨g, h, hg⟩
  ·rcases HL4.out with k | ⟨g, k, hg⟩
   ·exact .inl (h.trans k)
   ·exact .inr ⟨g, h.trans k, by omega⟩
  ·exact .inr ⟨g, h, Nat.le_trans hw4 hg⟩
 have HOUT : Hid (SetsOut N (acc2 ++ l2) (.slice a acc.length c) w (.returned (.slice a6 (acc2 ++ l2).length c6)) w6) := ⟨a6, c6, rfl, hrow6, hkf, hlf⟩
 clear hsk hrow6 hk6 hl6 hkf hlf H2 HL4
 rw [List.length_append] at HOUT
 go_wp2
 go_ret
 exact HOUT.out
theorem sets_any (hr : Ranked ns) (hl : ns.length <= 90000) (hO : ∀ k, O k -> k < N) (hs : s < N) : ∀ d, SetsOk B N s b O vars room ns d
 | 0 => fun w hS hN h hh hd x _ acc hacc a c hrow => sets_end w hS hl hN h hh (by have := (topOf_le hr h).2; omega) x acc (by omega) a c hrow
 | d + 1 => fun w hS hN h hh hd x hx acc hacc a c hrow => by
  by_cases ht : topOf ns h = 24
  ·exact sets_end w hS hl hN h hh ht x acc (by have := Nat.one_le_two_pow (n := d + 1); omega) a c hrow
  ·exact sets_node hr hl hO hs (sets_any hr hl hO hs d) w hS hN h hh ht hd x hx acc hacc a c hrow
end
end Go.Proofs.YtbklgjmkdhinpaaGreatDoor.Fm
