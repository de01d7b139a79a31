/- Plain arithmetic that the other texts lean on: numbers as digits to a base, and their decimal numerals. No program stands in it. -/
import Derived.Test.YtbklgjmkdhinpaaFmSem
import Derived.Test.YtbklgjmkdhinpaaFmMap
import Derived.Test.YtbklgjmkdhinpaaFmFunW
import Derived.Lib.ItoaNum
set_option maxHeartbeats 4000000
set_option maxRecDepth 100000
namespace Go.Proofs.Ytbklgjmkdhinpaa.Bd
open Go.RowKit Go.Maps
structure Tri (w : World) (bk : Nat) (a b c : Int) : Prop where
 lt : bk < w.heap.size
 c0 : w.cell? ⟨bk, 0, none⟩ = some (.int .i64 a)
 c1 : w.cell? ⟨bk, 1, none⟩ = some (.int .i64 b)
 c2 : w.cell? ⟨bk, 2, none⟩ = some (.int .i64 c)
 fz : ∀ i, w.frozen? ⟨bk, i, none⟩ = false
section
variable {w w' : World} {bk bk' i : Nat} {a b c : Int}
theorem Tri.kept {S : Nat -> Prop} (h : Tri w bk a b c) (hk : Kept S w w') (hn : ¬ S bk) : Tri w' bk a b c :=
 ⟨Nat.lt_of_lt_of_le h.lt hk.size, (hk.cell (a := ⟨bk, 0, none⟩) h.lt hn).trans h.c0, (hk.cell (a := ⟨bk, 1, none⟩) h.lt hn).trans h.c1, (hk.cell (a := ⟨bk, 2, none⟩) h.lt hn).trans h.c2, fun i => (hk.frozen (a := ⟨bk, i, none⟩) h.lt hn).trans (h.fz i)⟩
theorem Tri.new (h : Tri w bk a b c) (hb : Below w.heap.size w w') : Tri w' bk a b c := h.kept (Kept.of_below hb (fun _ => False)) (fun h => h)
theorem Tri.other (h : Tri w bk a b c) (u : Value) (hne : bk ≠ bk') : Tri (w.setCell ⟨bk', i, none⟩ u) bk a b c := h.kept (Kept.setCell (S := fun j => j = bk') w ⟨bk', i, none⟩ u rfl) hne
theorem tri_new (w : World) (a b c : Int) (t : TypeId) : Tri (w.alloc (.cells #[.int .i64 a, .int .i64 b, .int .i64 c] t)) w.heap.size a b c := by
 obtain ⟨x0, x1, x2, x3⟩ := cell3 w (.int .i64 a) (.int .i64 b) (.int .i64 c) t
 exact ⟨by simp, x0, x1, x2, x3⟩
end
end Go.Proofs.Ytbklgjmkdhinpaa.Bd
namespace Go.Proofs.Ytbklgjmkdhinpaa.Bd
open Go.RowKit Go.Maps
theorem lawI : Keyed Try.prog 3 := int_keyed Try.underlying3
theorem keyI {x : Int} (h : I64 x) : keyOf Try.prog 3 (.int .i64 x) = some (.int .i64 x) := keyOf_int_mk Try.underlying3 (wf_of h)
end Go.Proofs.Ytbklgjmkdhinpaa.Bd
namespace Go.Proofs.Ytbklgjmkdhinpaa.Bd
open Go.RowKit Go.Maps
theorem getOf_node {ns : List Nd} {x : Int} (e : topOf ns x ≠ 24) : getOf ns x = nd ns (pl x) := by unfold getOf; rw [if_neg e]; rfl
end Go.Proofs.Ytbklgjmkdhinpaa.Bd
namespace Go.Proofs.Ytbklgjmkdhinpaa.Fm
open Go.RowKit Go.Maps Go.Proofs.Ytbklgjmkdhinpaa.Bd
def ucells (l : List Nat) : List Value := l.map fun n : Nat => Value.int .u64 (n : Int)
theorem ucells_len (l : List Nat) : (ucells l).length = l.length := by simp [ucells]
theorem ucells_app (l m : List Nat) : ucells (l ++ m) = ucells l ++ ucells m := by simp [ucells]
theorem ucells_at (l : List Nat) (i : Nat) (h : i < l.length) : (ucells l)[i]? = some (.int .u64 (l.getD i 0 : Nat)) := by simp [ucells, List.getD_eq_getElem?_getD, h]
theorem infoUint : (Try.prog.info? 50).map (fun i => (i.zero, i.size, i.bytes)) = some (some (.int .u64 0), 1, 8) := by kernel_rfl
theorem cell_oneU (w : World) (x : Int) (t : TypeId) : ∀ (j : Nat) (u : Value), [Value.int .u64 x][j]? = some u -> (w.alloc (.cells #[.int .u64 x] t)).cell? ((⟨w.heap.size, 0, none⟩ : Addr).add j) = some u := by
 intro j u hj
 have : j = 0 := by have := (List.getElem?_eq_some_iff.1 hj).1; simp at this; omega
 subst this
 simp at hj
 subst hj
 simp [Addr.add]
theorem or_pow64 (m i : Nat) (hm : m < 2 ^ 24) (hi : i < 24) : bits BinOp.or IntKind.u64 (m : Int) (IntKind.u64.wrap (2 ^ i)) = ((m ||| 2 ^ i : Nat) : Int) := by
 have h1 : (2 : Nat) ^ i < 2 ^ 64 := Nat.pow_lt_pow_right (by decide) (by omega)
 have h2 : (2 : Nat) ^ 24 < 18446744073709551616 := by decide
 have e : IntKind.u64.wrap (2 ^ i) = ((2 ^ i : Nat) : Int) := by
  rw [IntKind.wrap_u64, show ((2 : Int) ^ i) = ((2 ^ i : Nat) : Int) by simp]
  exact Int.emod_eq_of_lt (Int.natCast_nonneg _) (by omega)
 rw [e, bits_or_u64_nat m (2 ^ i) (by omega) (by omega)]
section
variable {B N s b : Nat} {O : Nat -> Prop} {vars : Nat} {room : Int} {ns : List Nd}
def SetsOut (N : Nat) (l : List Nat) (v0 : Value) (w : World) (e : Ending) (w' : World) : Prop :=
 ∃ a c, e = .returned (.slice a l.length c) /\ w'.ownsRow N 50 1 (.slice a l.length c) l.length (ucells l) /\ Kept (fun j => v0.ownBlock = some j) w w' /\ ((Value.slice a l.length c).ownBlock = v0.ownBlock \/ ∃ g, (Value.slice a l.length c).ownBlock = some g /\ w.heap.size <= g)
theorem sets_end (w : World) (hS : SpaceAt B w s b O vars room ns) (hl : ns.length <= 90000) (hN : N <= w.heap.size) (h : Int) (hh : hasB ns h = true) (ht : topOf ns h = 24) (x : Nat) (acc : List Nat) (hacc : acc.length <= 100000000) (a : Option Addr) (c : Nat) (hrow : w.ownsRow N 50 1 (.slice a acc.length c) acc.length (ucells acc)) :
  Calls Try.prog 36 #[.pointer (some ⟨s, 0, none⟩), .int .i64 h, .int .u64 (x : Int), .slice a acc.length c] w (SetsOut N (acc ++ stL ns h x) (.slice a acc.length c) w) := by
 have hi := has_i64 hh (by omega)
 have c0 := hS.c0
 have HG := spGet hS h hi hl
 rw [show decide (topOf ns h ≠ 24) = false by simp [ht], show getOf ns h = ⟨0, 0, 0⟩ by unfold getOf; rw [if_pos ht]] at HG
 unfold Nd.val at HG
 have HGT := Lib.hid HG
 obtain ⟨i0, hin, hz0, hz1, hz2⟩ := info_parts infoUint
 have HR := Lib.hid hrow
 rw [stL_end ht]
 by_cases e1 : h = 1
 ·rw [if_pos e1]
  subst e1
  clear HG hS hrow ht hh
  go_enter Try.func36, Try.ntmps36
  go_wp2_with fail
  refine HGT.out.mono ?_
  rintro e w2 ⟨rfl, hb2⟩
  have hb3 := hb2.alloc hb2.size (.cells #[.int .i64 0, .int .i64 0, .int .i64 0] 74)
  have HB3 := Lib.hid hb3
  have HR3 : Hid ((w2.alloc (.cells #[.int .i64 0, .int .i64 0, .int .i64 0] 74)).ownsRow N 50 1 (.slice a acc.length c) acc.length (ucells acc)) := ownsRow_kept HR.out (Kept.of_below hb3 (fun _ => False)) (fun _ _ h => h)
  have hN3 : N <= (w2.alloc (.cells #[.int .i64 0, .int .i64 0, .int .i64 0] 74)).heap.size := Nat.le_trans hN hb3.size
  clear hb2 hb3 HGT HR
  go_wp2_with (at_builtin; refine wpList_append_own_at _ rfl _ _ 29 rfl N 50 i0 (.int .u64 0) 1 8 Try.underlying29 hin hz0 hz1 hz2 rfl (by decide) _ _ _ rfl (HR3.out.alloc _) ⟨w2.heap.size + 1, 0, none⟩ 1 1 [.int .u64 (x : Int)] rfl rfl ?c1 ?c2 ?c3 ?c4 ?c5 ?_)
  case c1 =>
   have e1 : (w2.alloc (.cells #[.int .i64 0, .int .i64 0, .int .i64 0] 74)).heap.size = w2.heap.size + 1 := by simp
   rw [<- e1]; exact cell_oneU _ _ _
  case c2 => intro u hu; simp at hu; subst hu; rfl
  case c3 => unfold maxLen; omega
  case c4 => omega
  case c5 => show N <= (World.alloc _ _).heap.size; rw [World.size_alloc]; omega
  intro v7 w7 hown7 hgrow7 _ hloc7
  have hlen : (acc ++ [x]).length = acc.length + 1 := by simp
  obtain ⟨a7, c7, rfl⟩ : ∃ a7 c7, v7 = .slice a7 (acc.length + 1) c7 := by
   rcases hown7.2 with ⟨-, h2⟩ | ⟨g, cp, cur, h2, -⟩
   ·omega
   ·exact ⟨_, _, h2⟩
  have hk7 : Kept (fun j => (Value.slice a acc.length c).ownBlock = some j) w w7 := ((Kept.of_below HB3.out _).trans (Kept.alloc _ _ _)).trans (Kept.of_grown hgrow7 (fun i h => h))
  have hl7 : (Value.slice a7 (acc.length + 1) c7).ownBlock = (Value.slice a acc.length c).ownBlock \/ ∃ g, (Value.slice a7 (acc.length + 1) c7).ownBlock = some g /\ w.heap.size <= g := by
   rcases hloc7 with h | h
   ·exact .inl h
   ·exact .inr ⟨_, h, by have := HB3.out.size; rw [World.size_alloc] at this; omega⟩
  have HOUT : Hid (SetsOut N (acc ++ [x]) (.slice a acc.length c) w (.returned (.slice a7 (acc.length + 1) c7)) w7) := ⟨a7, c7, by rw [hlen], by rw [hlen, ucells_app]; exact hown7, hk7, by rw [hlen]; exact hl7⟩
  clear hown7 hgrow7 hloc7 hk7 hl7
  go_wp2
  go_ret
  exact HOUT.out
 ·rw [if_neg e1, List.append_nil]
  have h0 : h = 0 := (end_of hh ht).resolve_right e1
  subst h0
  clear HG hS hrow ht hh e1
  go_enter Try.func36, Try.ntmps36
  go_wp2_with fail
  refine HGT.out.mono ?_
  rintro e w2 ⟨rfl, hb2⟩
  have hb3 := hb2.alloc hb2.size (.cells #[.int .i64 0, .int .i64 0, .int .i64 0] 74)
  have HB3 := Lib.hid hb3
  have HR3 : Hid ((w2.alloc (.cells #[.int .i64 0, .int .i64 0, .int .i64 0] 74)).ownsRow N 50 1 (.slice a acc.length c) acc.length (ucells acc)) := ownsRow_kept HR.out (Kept.of_below hb3 (fun _ => False)) (fun _ _ h => h)
  clear hb2 hb3 HGT HR
  go_wp2
  go_ret
  exact ⟨a, c, rfl, HR3.out, Kept.of_below HB3.out _, .inl rfl⟩
def SetsOk (B N s b : Nat) (O : Nat -> Prop) (vars : Nat) (room : Int) (ns : List Nd) (d : Nat) : Prop :=
 ∀ (w : World), SpaceAt B w s b O vars room ns -> N <= w.heap.size -> ∀ (h : Int), hasB ns h = true -> 24 <= topOf ns h + d -> ∀ (x : Nat), x < 2 ^ 24 -> ∀ (acc : List Nat), acc.length + 2 ^ d <= 100000000 -> ∀ (a : Option Addr) (c : Nat), w.ownsRow N 50 1 (.slice a acc.length c) acc.length (ucells acc) ->
  Calls Try.prog 36 #[.pointer (some ⟨s, 0, none⟩), .int .i64 h, .int .u64 (x : Int), .slice a acc.length c] w (SetsOut N (acc ++ stL ns h x) (.slice a acc.length c) w)
theorem sets_node (hr : Ranked ns) (hl : ns.length <= 90000) (hO : ∀ k, O k -> k < N) (hs : s < N) {d : Nat} (ih : SetsOk B N s b O vars room ns d) (w : World) (hS : SpaceAt B w s b O vars room ns) (hN : N <= w.heap.size) (h : Int) (hh : hasB ns h = true) (ht : topOf ns h ≠ 24) (hd : 24 <= topOf ns h + ((d + 1 : Nat) : Int)) (x : Nat) (hx : x < 2 ^ 24) (acc : List Nat) (hacc : acc.length + 2 ^ (d + 1) <= 100000000) (a : Option Addr) (c : Nat) (hrow : w.ownsRow N 50 1 (.slice a acc.length c) acc.length (ucells acc)) :
  Calls Try.prog 36 #[.pointer (some ⟨s, 0, none⟩), .int .i64 h, .int .u64 (x : Int), .slice a acc.length c] w (SetsOut N (acc ++ stL ns h x) (.slice a acc.length c) w) := by
 have hi := has_i64 hh (by omega)
 have c0 := hS.c0
 have HG := spGet hS h hi hl
 have h0 := (topOf_le hr h).1
 have ht24 := Go.Proofs.Ytbklgjmkdhinpaa.Bd.top_lt hr ht
 obtain ⟨k1, k2, k3, k4⟩ := kids hr ht
 have hst := stL_node hr ht x
 have hgv : (getOf ns h).v = topOf ns h := by rw [getOf_node ht]; exact (node_at ht).2.2.1.symm
 have hgn := getOf_node ht
 rw [show decide (topOf ns h ≠ 24) = true by simp [ht]] at HG
 unfold Nd.val at HG
 rw [<- hgn] at k1 k2 k3 k4 hst
 obtain ⟨t, et⟩ : ∃ t : Nat, topOf ns h = (t : Int) := ⟨(topOf ns h).toNat, by omega⟩
 rw [et] at hgv ht24 k1 k3 hst hd
 have ett : ((t : Int)).toNat = t := by omega
 rw [ett] at hst
 have hp : 2 ^ (d + 1) = 2 ^ d + 2 ^ d := by rw [Nat.pow_succ]; omega
 generalize getOf ns h = gn at *
 obtain ⟨gv, gl, gh⟩ := gn
 simp only at hgv k1 k2 k3 k4 hst HG
 subst hgv
 have hor := or_pow64 x t hx (by omega)
 have hx2 : x ||| 2 ^ t < 2 ^ 24 := Nat.or_lt_two_pow hx (Nat.pow_lt_pow_right (by omega) (by omega))
 have hd1 : 24 <= topOf ns gl + (d : Int) := by omega
 have hd2 : 24 <= topOf ns gh + (d : Int) := by omega
 have ll1 : (stL ns gl x).length <= 2 ^ d := by
  have : stL ns gl x = stF d ns gl x := stF_any hr 24 d gl x (by have := (topOf_le hr gl).1; omega) hd1
  rw [this]; exact stF_len ns d gl x
 have HI1 : Hid (∀ W, SpaceAt B W s b O vars room ns -> N <= W.heap.size -> W.ownsRow N 50 1 (.slice a acc.length c) acc.length (ucells acc) -> Calls Try.prog 36 #[.pointer (some ⟨s, 0, none⟩), .int .i64 gl, .int .u64 (x : Int), .slice a acc.length c] W (SetsOut N (acc ++ stL ns gl x) (.slice a acc.length c) W)) := fun W hW hNW hrW => ih W hW hNW gl k2 hd1 x hx acc (by omega) a c hrW
 have HI2 : Hid (∀ W a2 c2, SpaceAt B W s b O vars room ns -> N <= W.heap.size -> W.ownsRow N 50 1 (.slice a2 (acc ++ stL ns gl x).length c2) (acc ++ stL ns gl x).length (ucells (acc ++ stL ns gl x)) -> Calls Try.prog 36 #[.pointer (some ⟨s, 0, none⟩), .int .i64 gh, .int .u64 ((x ||| 2 ^ t : Nat) : Int), .slice a2 (acc ++ stL ns gl x).length c2] W (SetsOut N ((acc ++ stL ns gl x) ++ stL ns gh (x ||| 2 ^ t)) (.slice a2 (acc ++ stL ns gl x).length c2) W)) := fun W a2 c2 hW hNW hrW => ih W hW hNW gh k4 hd2 (x ||| 2 ^ t) hx2 (acc ++ stL ns gl x) (by rw [List.length_append]; omega) a2 c2 hrW
 rw [hst, <- List.append_assoc]
 have HGT := Lib.hid HG
 have HR := Lib.hid hrow
 have HS := Lib.hid hS
 clear HG hS hrow hst ih k1 k2 k3 k4 hd1 hd2 hx2 hd ll1 hgn et
 generalize acc ++ stL ns gl x = acc2 at *
 generalize x ||| 2 ^ t = x2 at *
 generalize stL ns gh x2 = l2 at *
 go_enter Try.func36, Try.ntmps36
 go_wp2_with fail
 refine HGT.out.mono ?_
 rintro e w2 ⟨rfl, hb2⟩
 have hb3 := hb2.alloc hb2.size (.cells #[.int .i64 (t : Int), .int .i64 gl, .int .i64 gh] 74)
 obtain ⟨x0, x1, x2', -⟩ := cell3 w2 (.int .i64 (t : Int)) (.int .i64 gl) (.int .i64 gh) 74
 have hrow3 := ownsRow_kept HR.out (Kept.of_below hb3 (fun _ => False)) (fun _ _ h => h)
 have hN3 : N <= (w2.alloc (.cells #[.int .i64 (t : Int), .int .i64 gl, .int .i64 gh] 74)).heap.size := Nat.le_trans hN hb3.size
 have nbl : w2.heap.size < (w2.alloc (.cells #[.int .i64 (t : Int), .int .i64 gl, .int .i64 gh] 74)).heap.size := by simp
 have H1 := Lib.hid (HI1.out _ (HS.out.new hb3) hN3 hrow3)
 have hown0 : ∀ j, (Value.slice a acc.length c).ownBlock = some j -> N <= j /\ j < w.heap.size := fun j hj => HR.out.lt j hj
 have HOW := Lib.hid hown0
 have HB3 := Lib.hid hb3
 have hww := hb2.size
 clear hb2 hb3 HGT HI1 hrow3 hown0
 go_wp2_with fail
 generalize (w2.alloc (.cells #[.int .i64 (t : Int), .int .i64 gl, .int .i64 gh] 74)) = W3 at *
 refine H1.out.mono ?_
 rintro e w4 ⟨a4, c4, rfl, hrow4, hk4, hl4⟩
 have nb4 : ¬ (Value.slice a acc.length c).ownBlock = some w2.heap.size := fun h => by have := (HOW.out _ h).2; omega
 have y0 := (hk4.cell (a := ⟨w2.heap.size, 0, none⟩) nbl nb4).trans x0
 have y1 := (hk4.cell (a := ⟨w2.heap.size, 1, none⟩) nbl nb4).trans x1
 have y2 := (hk4.cell (a := ⟨w2.heap.size, 2, none⟩) nbl nb4).trans x2'
 have hS4 := (HS.out.new HB3.out).kept hk4 (fun k ho hj => by have := (HOW.out k hj).1; have := hO k ho; omega) (fun hj => by have := (HOW.out s hj).1; omega)
 have hbd : Below w4.heap.size w4 w4.drew := (Below.refl _ _).drew
 have H2 := Lib.hid (HI2.out w4.drew a4 c4 (hS4.new hbd) (Nat.le_trans hN3 hk4.size) (ownsRow_kept hrow4 (Kept.of_below hbd (fun _ => False)) (fun _ _ h => h)))
 have nb6 : ¬ (Value.slice a4 acc2.length c4).ownBlock = some w2.heap.size := fun h => by
  rcases hl4 with k | ⟨g, k, hg⟩
  ·rw [k] at h; exact nb4 h
  ·rw [k] at h; cases h; omega
 have nbl4 : w2.heap.size < w4.drew.heap.size := Nat.lt_of_lt_of_le nbl hk4.size
 have HK4 : Hid (Kept (fun j => (Value.slice a acc.length c).ownBlock = some j) w w4) := (Kept.of_below HB3.out _).trans hk4
 have HL4 := Lib.hid hl4
 have hw3 := HB3.out.size
 clear hk4 hl4 hrow4 hS4 H1 HI2 x0 x1 x2' hbd
 unfold SetsOut at H2
 go_wp2_with fail
 have SB : w4.drew.cell? ⟨w2.heap.size, 0, none⟩ = some (.int .i64 (t : Int)) /\ w4.drew.cell? ⟨w2.heap.size, 2, none⟩ = some (.int .i64 gh) := ⟨y0, y2⟩
 go_region_held3 (fun X => X.cell? ⟨w2.heap.size, 0, none⟩ = some (.int .i64 (t : Int)) /\ X.cell? ⟨w2.heap.size, 2, none⟩ = some (.int .i64 gh)) (first | exact SB | exact hsk)
  (first | (go_at_call 36; with_reducible refine H2.out.mono ?_; rintro e w6 ⟨a6, c6, rfl, hrow6, hk6, hl6⟩; have hsk : w6.cell? ⟨w2.heap.size, 0, none⟩ = some (.int .i64 (t : Int)) /\ w6.cell? ⟨w2.heap.size, 2, none⟩ = some (.int .i64 gh) := ⟨(hk6.cell (a := ⟨w2.heap.size, 0, none⟩) nbl4 nb6).trans SB.1, (hk6.cell (a := ⟨w2.heap.size, 2, none⟩) nbl4 nb6).trans SB.2⟩))
 have hw4 := HK4.out.size
 have hkf : Kept (fun j => (Value.slice a acc.length c).ownBlock = some j) w w6 := HK4.out.drew.andThen hk6 (fun i hi hlt => by
  rcases HL4.out with h | ⟨g, h, hg⟩
  ·rw [<- h]; exact hi
  ·rw [h] at hi; cases hi; omega)
 have hlf : (Value.slice a6 (acc2 ++ l2).length c6).ownBlock = (Value.slice a acc.length c).ownBlock \/ ∃ g, (Value.slice a6 (acc2 ++ l2).length c6).ownBlock = some g /\ w.heap.size <= g := by
  rcases hl6 with h | ⟨g, h, hg⟩
  ·rcases HL4.out with k | ⟨g, k, hg⟩
   ·exact .inl (h.trans k)
   ·exact .inr ⟨g, h.trans k, by omega⟩
  ·exact .inr ⟨g, h, Nat.le_trans hw4 hg⟩
 have HOUT : Hid (SetsOut N (acc2 ++ l2) (.slice a acc.length c) w (.returned (.slice a6 (acc2 ++ l2).length c6)) w6) := ⟨a6, c6, rfl, hrow6, hkf, hlf⟩
 clear hsk hrow6 hk6 hl6 hkf hlf H2 HL4
 rw [List.length_append] at HOUT
 go_wp2
 go_ret
 exact HOUT.out
theorem sets_any (hr : Ranked ns) (hl : ns.length <= 90000) (hO : ∀ k, O k -> k < N) (hs : s < N) : ∀ d, SetsOk B N s b O vars room ns d
 | 0 => fun w hS hN h hh hd x _ acc hacc a c hrow => sets_end w hS hl hN h hh (by have := (topOf_le hr h).2; omega) x acc (by omega) a c hrow
 | d + 1 => fun w hS hN h hh hd x hx acc hacc a c hrow => by
  by_cases ht : topOf ns h = 24
  ·exact sets_end w hS hl hN h hh ht x acc (by have := Nat.one_le_two_pow (n := d + 1); omega) a c hrow
  ·exact sets_node hr hl hO hs (sets_any hr hl hO hs d) w hS hN h hh ht hd x hx acc hacc a c hrow
end
end Go.Proofs.Ytbklgjmkdhinpaa.Fm
namespace Go.Proofs.Ytbklgjmkdhinpaa.Bd.Num
def S (B : Nat) (g : Nat -> Nat) : Nat -> Nat
 | 0 => 0
 | k + 1 => S B g k + g k * B ^ k
theorem S_succ (B : Nat) (g : Nat -> Nat) (k : Nat) : S B g (k + 1) = S B g k + g k * B ^ k := rfl
def dig (ds : List Nat) (i : Nat) : Nat := ds.getD i 0
def val (B : Nat) (ds : List Nat) : Nat := S B (dig ds) ds.length
structure Norm (B : Nat) (ds : List Nat) : Prop where
 small : ∀ i, dig ds i < B
 last : ds.length ≠ 0 -> dig ds (ds.length - 1) ≠ 0
theorem dig_beyond (ds : List Nat) (i : Nat) (h : ds.length <= i) : dig ds i = 0 := by
 unfold dig; simp [List.getD_eq_getElem?_getD, List.getElem?_eq_none h]
theorem dig_append (a : List Nat) (x : Nat) (i : Nat) : dig (a ++ [x]) i = if i < a.length then dig a i else if i = a.length then x else 0 := by
 unfold dig
 simp only [List.getD_eq_getElem?_getD]
 by_cases h : i < a.length
 ·rw [List.getElem?_append_left h, if_pos h]
 ·rw [if_neg h, List.getElem?_append_right (by omega)]
  by_cases e : i = a.length
  ·subst e; simp
  ·rw [if_neg e, List.getElem?_eq_none (by simp; omega)]; rfl
theorem S_congr (B : Nat) (g h : Nat -> Nat) : ∀ k, (∀ i, i < k -> g i = h i) -> S B g k = S B h k
 | 0, _ => rfl
 | k + 1, e => by rw [S_succ, S_succ, S_congr B g h k (fun i hi => e i (by omega)), e k (by omega)]
theorem S_above (B : Nat) (g : Nat -> Nat) (k : Nat) : ∀ m, (∀ i, k <= i -> g i = 0) -> S B g (k + m) = S B g k
 | 0, _ => rfl
 | m + 1, e => by rw [<- Nat.add_assoc, S_succ, S_above B g k m e, e (k + m) (by omega)]; simp
theorem S_val (B : Nat) (ds : List Nat) (n : Nat) (h : ds.length <= n) : S B (dig ds) n = val B ds := by
 obtain ⟨m, rfl⟩ := Nat.exists_eq_add_of_le h
 exact S_above B _ _ m (fun i hi => dig_beyond ds i hi)
theorem S_lt (B : Nat) (g : Nat -> Nat) : ∀ k, (∀ i, g i < B) -> S B g k < B ^ k
 | 0, _ => by simp [S]
 | k + 1, e => by
  have h1 := S_lt B g k e
  have h2 : (g k + 1) * B ^ k <= B * B ^ k := Nat.mul_le_mul_right _ (e k)
  rw [S_succ, Nat.pow_succ, Nat.mul_comm (B ^ k) B]
  rw [Nat.add_mul] at h2
  omega
theorem S_less (B : Nat) (g h : Nat -> Nat) (t : Nat) (hg : ∀ i, g i < B) (ht : g t < h t) : ∀ m, (∀ i, t < i -> i < t + 1 + m -> g i = h i) -> S B g (t + 1 + m) < S B h (t + 1 + m)
 | 0, _ => by
  have h1 := S_lt B g t hg
  have h2 : (g t + 1) * B ^ t <= h t * B ^ t := Nat.mul_le_mul_right _ ht
  rw [Nat.add_mul] at h2
  show S B g t + g t * B ^ t < S B h t + h t * B ^ t
  omega
 | m + 1, e => by
  have h1 := S_less B g h t hg ht m (fun i a b => e i a (by omega))
  rw [<- Nat.add_assoc, S_succ, S_succ, e (t + 1 + m) (by omega) (by omega)]
  omega
def cmpN (x y : Nat) : Int := if x < y then -1 else if y < x then 1 else 0
theorem cmpN_lt {x y : Nat} (h : x < y) : cmpN x y = -1 := by unfold cmpN; rw [if_pos h]
theorem cmpN_gt {x y : Nat} (h : y < x) : cmpN x y = 1 := by unfold cmpN; rw [if_neg (by omega), if_pos h]
theorem cmpN_eq (x : Nat) : cmpN x x = 0 := by unfold cmpN; simp
theorem cmp_lt {B n t : Nat} {a b : List Nat} (ha : ∀ i, dig a i < B) (hn : a.length <= n) (hm : b.length <= n) (htn : t < n) (ht : dig a t < dig b t) (hi : ∀ i, t < i -> i < n -> dig a i = dig b i) : val B a < val B b := by
 obtain ⟨m, rfl⟩ := Nat.exists_eq_add_of_le (show t + 1 <= n from htn)
 have := S_less B (dig a) (dig b) t ha ht m hi
 rwa [S_val B a _ hn, S_val B b _ hm] at this
theorem cmp_eq {B n : Nat} {a b : List Nat} (hn : a.length <= n) (hm : b.length <= n) (hi : ∀ i, i < n -> dig a i = dig b i) : val B a = val B b := by
 rw [<- S_val B a n hn, <- S_val B b n hm]; exact S_congr B _ _ n hi
theorem val_nil (B : Nat) : val B [] = 0 := rfl
theorem dig_nil (i : Nat) : dig [] i = 0 := by unfold dig; simp
theorem val_pos {B : Nat} {ds : List Nat} (h : Norm B ds) (hl : ds.length ≠ 0) : B ^ (ds.length - 1) <= val B ds := by
 obtain ⟨k, hk⟩ : ∃ k, ds.length = k + 1 := ⟨ds.length - 1, by omega⟩
 have h1 := h.last hl
 unfold val
 rw [hk] at h1 ⊢
 rw [S_succ]
 simp only [Nat.add_sub_cancel] at h1 ⊢
 have : 1 * B ^ k <= dig ds k * B ^ k := Nat.mul_le_mul_right _ (by omega)
 omega
theorem val_snoc (B : Nat) (a : List Nat) (x : Nat) : val B (a ++ [x]) = val B a + x * B ^ a.length := by
 unfold val
 rw [List.length_append, List.length_singleton, S_succ]
 rw [S_congr B (dig (a ++ [x])) (dig a) a.length (fun i hi => by rw [dig_append, if_pos hi])]
 rw [dig_append, if_neg (by omega), if_pos rfl]
theorem norm_len {B : Nat} {ds : List Nat} (hB : 2 <= B) (h : Norm B ds) {k : Nat} (hv : val B ds < B ^ k) : ds.length <= k := by
 by_cases hl : ds.length = 0
 ·omega
 ·have h1 := val_pos h hl
  have h2 : B ^ (ds.length - 1) < B ^ k := by omega
  have h3 := (Nat.pow_lt_pow_iff_right (a := B) (by omega)).1 h2
  omega
theorem small_snoc {B x : Nat} {a : List Nat} (ha : ∀ i, dig a i < B) (hx : x < B) (i : Nat) : dig (a ++ [x]) i < B := by
 rw [dig_append]
 have := ha i
 split
 ·exact this
 ·split
  ·exact hx
  ·omega
theorem last_snoc (a : List Nat) (x : Nat) : dig (a ++ [x]) ((a ++ [x]).length - 1) = x := by
 rw [dig_append]; simp
theorem of_step {B n m : Nat} {ds : List Nat} (h : val B ds + m * B ^ ds.length = n) : val B (ds ++ [m % B]) + m / B * B ^ (ds ++ [m % B]).length = n := by
 rw [val_snoc, List.length_append, List.length_singleton, Nat.pow_succ, <- h]
 have h1 := Nat.div_add_mod m B
 generalize B ^ ds.length = p at *
 generalize m / B = q at *
 generalize m % B = r at *
 generalize val B ds = v at *
 subst h1
 grind
theorem of_len {n m : Nat} {ds : List Nat} (hm : 1 <= m) (hn : n <= 9223372036854775807) (h : val 1000000000 ds + m * 1000000000 ^ ds.length = n) : ds.length <= 2 := by
 apply Nat.le_of_not_lt
 intro h3
 have h4 : 1000000000 ^ 3 <= 1000000000 ^ ds.length := Nat.pow_le_pow_right (by omega) h3
 have h5 : 1 * 1000000000 ^ ds.length <= m * 1000000000 ^ ds.length := Nat.mul_le_mul_right _ hm
 omega
theorem cmpN_pos (x y : Nat) : decide (0 < cmpN x y) = decide (y < x) := by
 unfold cmpN
 by_cases h : x < y
 ·rw [if_pos h]; simp; omega
 ·rw [if_neg h]
  by_cases h2 : y < x
  ·rw [if_pos h2]; simp [h2]
  ·rw [if_neg h2]; simp [h2]
theorem fits_step {B j o v : Nat} {g : Nat -> Nat} (h : v = o * B ^ (j + 1) + S B g (j + 1)) : v = (o * B + g j) * B ^ j + S B g j := by
 rw [h, S_succ, Nat.pow_succ]
 generalize B ^ j = p
 generalize S B g j = s
 generalize g j = d
 grind
theorem fits_le {B j o v : Nat} {g : Nat -> Nat} (hB : 0 < B) (h : v = o * B ^ j + S B g j) : o <= v := by
 have h1 : 1 <= B ^ j := Nat.pow_pos hB
 have h2 : o * 1 <= o * B ^ j := Nat.mul_le_mul_left _ h1
 omega
theorem dig_take (ds : List Nat) (k i : Nat) : dig (ds.take k) i = if i < k then dig ds i else 0 := by
 unfold dig
 simp only [List.getD_eq_getElem?_getD, List.getElem?_take]
 split
 ·rfl
 ·rfl
theorem dig_set (ds : List Nat) (k x i : Nat) (h : k < ds.length) : dig (ds.set k x) i = if i = k then x else dig ds i := by
 unfold dig
 simp only [List.getD_eq_getElem?_getD, List.getElem?_set]
 by_cases e : k = i
 ·subst e; simp [h]
 ·rw [if_neg e, if_neg (fun h => e h.symm)]
theorem val_take {B k : Nat} {ds : List Nat} (hk : k <= ds.length) (hz : ∀ i, k <= i -> dig ds i = 0) : val B (ds.take k) = val B ds := by
 unfold val
 rw [List.length_take, Nat.min_eq_left hk]
 obtain ⟨m, hm⟩ := Nat.exists_eq_add_of_le hk
 rw [hm, S_above B (dig ds) k m hz]
 exact S_congr B _ _ k (fun i hi => by rw [dig_take, if_pos hi])
theorem norm_take {B k : Nat} {ds : List Nat} (hB : 0 < B) (sm : ∀ i, dig ds i < B) (hk : k <= ds.length) (hl : k ≠ 0 -> dig ds (k - 1) ≠ 0) : Norm B (ds.take k) := by
 refine ⟨fun i => ?_, fun h => ?_⟩
 ·rw [dig_take]; have := sm i; split <;> omega
 ·rw [List.length_take, Nat.min_eq_left hk] at h ⊢
  rw [dig_take, if_pos (by omega)]
  exact hl h
theorem dig_replicate (n i : Nat) : dig (List.replicate n 0) i = 0 := by
 unfold dig
 simp only [List.getD_eq_getElem?_getD, List.getElem?_replicate]
 split <;> rfl
theorem add_step {B k c x y : Nat} {out : List Nat} {T U : Nat -> Nat} (hk : k < out.length) (h : S B (dig out) k + c * B ^ k = S B T k + S B U k) (hx : T k = x) (hy : U k = y) :
  S B (dig (out.set k ((x + y + c) % B))) (k + 1) + (x + y + c) / B * B ^ (k + 1) = S B T (k + 1) + S B U (k + 1) := by
 rw [S_succ, S_succ, S_succ, hx, hy]
 rw [S_congr B (dig (out.set k ((x + y + c) % B))) (dig out) k (fun i hi => by rw [dig_set _ _ _ _ hk, if_neg (by omega)])]
 rw [dig_set _ _ _ _ hk, if_pos rfl, Nat.pow_succ]
 have h1 := Nat.div_add_mod (x + y + c) B
 generalize (x + y + c) % B = r at *
 generalize (x + y + c) / B = q at *
 generalize B ^ k = p at *
 generalize S B (dig out) k = s1 at *
 generalize S B T k = s2 at *
 generalize S B U k = s3 at *
 grind
theorem no_carry {B n c s t : Nat} (h : s + c * B ^ n = t) (ht : t < B ^ n) : c = 0 := by
 rcases Nat.eq_zero_or_pos c with e | e
 ·exact e
 ·have : 1 * B ^ n <= c * B ^ n := Nat.mul_le_mul_right _ e
  omega
theorem small_set {B k x : Nat} {out : List Nat} (hk : k < out.length) (sm : ∀ i, dig out i < B) (hx : x < B) (i : Nat) : dig (out.set k x) i < B := by
 rw [dig_set _ _ _ _ hk]; have := sm i; split <;> omega
theorem sub_step {B k c c' d x y : Nat} {out : List Nat} {T U : Nat -> Nat} (hk : k < out.length) (h : S B T k + c * B ^ k = S B (dig out) k + S B U k) (hx : T k = x) (hy : U k = y) (hd : x + c' * B = d + (y + c)) :
  S B T (k + 1) + c' * B ^ (k + 1) = S B (dig (out.set k d)) (k + 1) + S B U (k + 1) := by
 rw [S_succ, S_succ, S_succ, hx, hy]
 rw [S_congr B (dig (out.set k d)) (dig out) k (fun i hi => by rw [dig_set _ _ _ _ hk, if_neg (by omega)])]
 rw [dig_set _ _ _ _ hk, if_pos rfl, Nat.pow_succ]
 generalize B ^ k = p at *
 generalize S B (dig out) k = s1 at *
 generalize S B T k = s2 at *
 generalize S B U k = s3 at *
 grind
open Go.Lib
end Go.Proofs.Ytbklgjmkdhinpaa.Bd.Num
