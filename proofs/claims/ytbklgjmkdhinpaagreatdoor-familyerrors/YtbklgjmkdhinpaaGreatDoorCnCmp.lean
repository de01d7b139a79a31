/- The contract of Cmp. -/
import Derived.Test.YtbklgjmkdhinpaaGreatDoorCnTrim
import Derived.Test.YtbklgjmkdhinpaaGreatDoorFmWays
import Derived.Test.YtbklgjmkdhinpaaGreatDoorErAs
set_option maxHeartbeats 4000000
set_option maxRecDepth 100000
namespace Go.Proofs.YtbklgjmkdhinpaaGreatDoor.Fm
open Go.RowKit Go.Maps Go.Proofs.YtbklgjmkdhinpaaGreatDoor.Bd
def ucells (l : List Nat) : List Value := l.map fun n : Nat => Value.int .u64 (n : Int)
theorem ucells_app (l m : List Nat) : ucells (l ++ m) = ucells l ++ ucells m := by simp [ucells]
theorem ucells_at (l : List Nat) (i : Nat) (h : i < l.length) : (ucells l)[i]? = some (.int .u64 (l.getD i 0 : Nat)) := by simp [ucells, List.getD_eq_getElem?_getD, h]
theorem infoUint : (Tryz.prog.info? 46).map (fun i => (i.zero, i.size, i.bytes)) = some (some (.int .u64 0), 1, 8) := by kernel_rfl
theorem cell_oneU (w : World) (x : Int) (t : TypeId) : ∀ (j : Nat) (u : Value), [Value.int .u64 x][j]? = some u -> (w.alloc (.cells #[.int .u64 x] t)).cell? ((⟨w.heap.size, 0, none⟩ : Addr).add j) = some u := by
 intro j u hj
 have : j = 0 := by have := (List.getElem?_eq_some_iff.1 hj).1; simp at this; omega
 subst this
 simp at hj
 subst hj
 simp [Addr.add]
theorem or_pow64 (m i : Nat) (hm : m < 2 ^ 24) (hi : i < 24) : bits BinOp.or IntKind.u64 (m : Int) (IntKind.u64.wrap (2 ^ i)) = ((m ||| 2 ^ i : Nat) : Int) := by
 have h1 : (2 : Nat) ^ i < 2 ^ 64 := Nat.pow_lt_pow_right (by decide) (by omega)
 have h2 : (2 : Nat) ^ 24 < 18446744073709551616 := by decide
 have e : IntKind.u64.wrap (2 ^ i) = ((2 ^ i : Nat) : Int) := by
  rw [IntKind.wrap_u64, show ((2 : Int) ^ i) = ((2 ^ i : Nat) : Int) by simp]
  exact Int.emod_eq_of_lt (Int.natCast_nonneg _) (by omega)
 rw [e, bits_or_u64_nat m (2 ^ i) (by omega) (by omega)]
section
variable {B N s b : Nat} {O : Nat -> Prop} {vars : Nat} {room : Int} {ns : List Nd}
def SetsOut (N : Nat) (l : List Nat) (v0 : Value) (w : World) (e : Ending) (w' : World) : Prop :=
 ∃ a c, e = .returned (.slice a l.length c) /\ w'.ownsRow N 46 1 (.slice a l.length c) l.length (ucells l) /\ Kept (fun j => v0.ownBlock = some j) w w' /\ ((Value.slice a l.length c).ownBlock = v0.ownBlock \/ ∃ g, (Value.slice a l.length c).ownBlock = some g /\ w.heap.size <= g)
theorem sets_end (w : World) (hS : SpaceAt B w s b O vars room ns) (hl : ns.length <= 90000) (hN : N <= w.heap.size) (h : Int) (hh : hasB ns h = true) (ht : topOf ns h = 24) (x : Nat) (acc : List Nat) (hacc : acc.length <= 100000000) (a : Option Addr) (c : Nat) (hrow : w.ownsRow N 46 1 (.slice a acc.length c) acc.length (ucells acc)) :
  Calls Tryz.prog 27 #[.pointer (some ⟨s, 0, none⟩), .int .i64 h, .int .u64 (x : Int), .slice a acc.length c] w (SetsOut N (acc ++ stL ns h x) (.slice a acc.length c) w) := by
 have hi := has_i64 hh (by omega)
 have c0 := hS.c0
 have HG := spGet hS h hi hl
 rw [show decide (topOf ns h ≠ 24) = false by simp [ht], show getOf ns h = ⟨0, 0, 0⟩ by unfold getOf; rw [if_pos ht]] at HG
 unfold Nd.val at HG
 have HGT := Lib.hid HG
 obtain ⟨i0, hin, hz0, hz1, hz2⟩ := info_parts infoUint
 have HR := Lib.hid hrow
 rw [stL_end ht]
 by_cases e1 : h = 1
 ·rw [if_pos e1]
  subst e1
  clear HG hS hrow ht hh
  go_enter Tryz.func27, Tryz.ntmps27
  go_wp2_with fail
  refine HGT.out.mono ?_
  rintro e w2 ⟨rfl, hb2⟩
  have hb3 := hb2.alloc hb2.size (.cells #[.int .i64 0, .int .i64 0, .int .i64 0] 83)
  have HB3 := Lib.hid hb3
  have HR3 : Hid ((w2.alloc (.cells #[.int .i64 0, .int .i64 0, .int .i64 0] 83)).ownsRow N 46 1 (.slice a acc.length c) acc.length (ucells acc)) := ownsRow_kept HR.out (Kept.of_below hb3 (fun _ => False)) (fun _ _ h => h)
  have hN3 : N <= (w2.alloc (.cells #[.int .i64 0, .int .i64 0, .int .i64 0] 83)).heap.size := Nat.le_trans hN hb3.size
  clear hb2 hb3 HGT HR
  go_wp2_with (at_builtin; refine wpList_append_own_at _ rfl _ _ 28 rfl N 46 i0 (.int .u64 0) 1 8 Tryz.underlying28 hin hz0 hz1 hz2 rfl (by decide) _ _ _ rfl (HR3.out.alloc _) ⟨w2.heap.size + 1, 0, none⟩ 1 1 [.int .u64 (x : Int)] rfl rfl ?c1 ?c2 ?c3 ?c4 ?c5 ?_)
  case c1 =>
   have e1 : (w2.alloc (.cells #[.int .i64 0, .int .i64 0, .int .i64 0] 83)).heap.size = w2.heap.size + 1 := by simp
   rw [<- e1]; exact cell_oneU _ _ _
  case c2 => intro u hu; simp at hu; subst hu; rfl
  case c3 => unfold maxLen; omega
  case c4 => omega
  case c5 => show N <= (World.alloc _ _).heap.size; rw [World.size_alloc]; omega
  intro v7 w7 hown7 hgrow7 _ hloc7
  have hlen : (acc ++ [x]).length = acc.length + 1 := by simp
  obtain ⟨a7, c7, rfl⟩ : ∃ a7 c7, v7 = .slice a7 (acc.length + 1) c7 := by
   rcases hown7.2 with ⟨-, h2⟩ | ⟨g, cp, cur, h2, -⟩
   ·omega
   ·exact ⟨_, _, h2⟩
  have hk7 : Kept (fun j => (Value.slice a acc.length c).ownBlock = some j) w w7 := ((Kept.of_below HB3.out _).trans (Kept.alloc _ _ _)).trans (Kept.of_grown hgrow7 (fun i h => h))
  have hl7 : (Value.slice a7 (acc.length + 1) c7).ownBlock = (Value.slice a acc.length c).ownBlock \/ ∃ g, (Value.slice a7 (acc.length + 1) c7).ownBlock = some g /\ w.heap.size <= g := by
   rcases hloc7 with h | h
   ·exact .inl h
   ·exact .inr ⟨_, h, by have := HB3.out.size; rw [World.size_alloc] at this; omega⟩
  have HOUT : Hid (SetsOut N (acc ++ [x]) (.slice a acc.length c) w (.returned (.slice a7 (acc.length + 1) c7)) w7) := ⟨a7, c7, by rw [hlen], by rw [hlen, ucells_app]; exact hown7, hk7, by rw [hlen]; exact hl7⟩
  clear hown7 hgrow7 hloc7 hk7 hl7
  go_wp2
  go_ret
  exact HOUT.out
 ·rw [if_neg e1, List.append_nil]
  have h0 : h = 0 := (end_of hh ht).resolve_right e1
  subst h0
  clear HG hS hrow ht hh e1
  go_enter Tryz.func27, Tryz.ntmps27
  go_wp2_with fail
  refine HGT.out.mono ?_
  rintro e w2 ⟨rfl, hb2⟩
  have hb3 := hb2.alloc hb2.size (.cells #[.int .i64 0, .int .i64 0, .int .i64 0] 83)
  have HB3 := Lib.hid hb3
  have HR3 : Hid ((w2.alloc (.cells #[.int .i64 0, .int .i64 0, .int .i64 0] 83)).ownsRow N 46 1 (.slice a acc.length c) acc.length (ucells acc)) := ownsRow_kept HR.out (Kept.of_below hb3 (fun _ => False)) (fun _ _ h => h)
  clear hb2 hb3 HGT HR
  go_wp2
  go_ret
  exact ⟨a, c, rfl, HR3.out, Kept.of_below HB3.out _, .inl rfl⟩
def SetsOk (B N s b : Nat) (O : Nat -> Prop) (vars : Nat) (room : Int) (ns : List Nd) (d : Nat) : Prop :=
 ∀ (w : World), SpaceAt B w s b O vars room ns -> N <= w.heap.size -> ∀ (h : Int), hasB ns h = true -> 24 <= topOf ns h + d -> ∀ (x : Nat), x < 2 ^ 24 -> ∀ (acc : List Nat), acc.length + 2 ^ d <= 100000000 -> ∀ (a : Option Addr) (c : Nat), w.ownsRow N 46 1 (.slice a acc.length c) acc.length (ucells acc) ->
  Calls Tryz.prog 27 #[.pointer (some ⟨s, 0, none⟩), .int .i64 h, .int .u64 (x : Int), .slice a acc.length c] w (SetsOut N (acc ++ stL ns h x) (.slice a acc.length c) w)
theorem sets_node (hr : Ranked ns) (hl : ns.length <= 90000) (hO : ∀ k, O k -> k < N) (hs : s < N) {d : Nat} (ih : SetsOk B N s b O vars room ns d) (w : World) (hS : SpaceAt B w s b O vars room ns) (hN : N <= w.heap.size) (h : Int) (hh : hasB ns h = true) (ht : topOf ns h ≠ 24) (hd : 24 <= topOf ns h + ((d + 1 : Nat) : Int)) (x : Nat) (hx : x < 2 ^ 24) (acc : List Nat) (hacc : acc.length + 2 ^ (d + 1) <= 100000000) (a : Option Addr) (c : Nat) (hrow : w.ownsRow N 46 1 (.slice a acc.length c) acc.length (ucells acc)) :
  Calls Tryz.prog 27 #[.pointer (some ⟨s, 0, none⟩), .int .i64 h, .int .u64 (x : Int), .slice a acc.length c] w (SetsOut N (acc ++ stL ns h x) (.slice a acc.length c) w) := by
 have hi := has_i64 hh (by omega)
 have c0 := hS.c0
 have HG := spGet hS h hi hl
 have h0 := (topOf_le hr h).1
 have ht24 := Go.Proofs.YtbklgjmkdhinpaaGreatDoor.Bd.top_lt hr ht
 obtain ⟨k1, k2, k3, k4⟩ := kids hr ht
 have hst := stL_node hr ht x
 have hgv : (getOf ns h).v = topOf ns h := by rw [getOf_node ht]; exact (node_at ht).2.2.1.symm
 have hgn := getOf_node ht
 rw [show decide (topOf ns h ≠ 24) = true by simp [ht]] at HG
 unfold Nd.val at HG
 rw [<- hgn] at k1 k2 k3 k4 hst
 obtain ⟨t, et⟩ : ∃ t : Nat, topOf ns h = (t : Int) := ⟨(topOf ns h).toNat, by omega⟩
 rw [et] at hgv ht24 k1 k3 hst hd
 have ett : ((t : Int)).toNat = t := by omega
 rw [ett] at hst
 have hp : 2 ^ (d + 1) = 2 ^ d + 2 ^ d := by rw [Nat.pow_succ]; omega
 generalize getOf ns h = gn at *
 obtain ⟨gv, gl, gh⟩ := gn
 simp only at hgv k1 k2 k3 k4 hst HG
 subst hgv
 have hor := or_pow64 x t hx (by omega)
 have hx2 : x ||| 2 ^ t < 2 ^ 24 := Nat.or_lt_two_pow hx (Nat.pow_lt_pow_right (by omega) (by omega))
 have hd1 : 24 <= topOf ns gl + (d : Int) := by omega
 have hd2 : 24 <= topOf ns gh + (d : Int) := by omega
 have ll1 : (stL ns gl x).length <= 2 ^ d := by
  have : stL ns gl x = stF d ns gl x := stF_any hr 24 d gl x (by have := (topOf_le hr gl).1; omega) hd1
  rw [this]; exact stF_len ns d gl x
 have HI1 : Hid (∀ W, SpaceAt B W s b O vars room ns -> N <= W.heap.size -> W.ownsRow N 46 1 (.slice a acc.length c) acc.length (ucells acc) -> Calls Tryz.prog 27 #[.pointer (some ⟨s, 0, none⟩), .int .i64 gl, .int .u64 (x : Int), .slice a acc.length c] W (SetsOut N (acc ++ stL ns gl x) (.slice a acc.length c) W)) := fun W hW hNW hrW => ih W hW hNW gl k2 hd1 x hx acc (by omega) a c hrW
 have HI2 : Hid (∀ W a2 c2, SpaceAt B W s b O vars room ns -> N <= W.heap.size -> W.ownsRow N 46 1 (.slice a2 (acc ++ stL ns gl x).length c2) (acc ++ stL ns gl x).length (ucells (acc ++ stL ns gl x)) -> Calls Tryz.prog 27 #[.pointer (some ⟨s, 0, none⟩), .int .i64 gh, .int .u64 ((x ||| 2 ^ t : Nat) : Int), .slice a2 (acc ++ stL ns gl x).length c2] W (SetsOut N ((acc ++ stL ns gl x) ++ stL ns gh (x ||| 2 ^ t)) (.slice a2 (acc ++ stL ns gl x).length c2) W)) := fun W a2 c2 hW hNW hrW => ih W hW hNW gh k4 hd2 (x ||| 2 ^ t) hx2 (acc ++ stL ns gl x) (by rw [List.length_append]; omega) a2 c2 hrW
 rw [hst, <- List.append_assoc]
 have HGT := Lib.hid HG
 have HR := Lib.hid hrow
 have HS := Lib.hid hS
 clear HG hS hrow hst ih k1 k2 k3 k4 hd1 hd2 hx2 hd ll1 hgn et
 generalize acc ++ stL ns gl x = acc2 at *
 generalize x ||| 2 ^ t = x2 at *
 generalize stL ns gh x2 = l2 at *
 go_enter Tryz.func27, Tryz.ntmps27
 go_wp2_with fail
 refine HGT.out.mono ?_
 rintro e w2 ⟨rfl, hb2⟩
 have hb3 := hb2.alloc hb2.size (.cells #[.int .i64 (t : Int), .int .i64 gl, .int .i64 gh] 83)
 obtain ⟨x0, x1, x2', -⟩ := cell3 w2 (.int .i64 (t : Int)) (.int .i64 gl) (.int .i64 gh) 83
 have hrow3 := ownsRow_kept HR.out (Kept.of_below hb3 (fun _ => False)) (fun _ _ h => h)
 have hN3 : N <= (w2.alloc (.cells #[.int .i64 (t : Int), .int .i64 gl, .int .i64 gh] 83)).heap.size := Nat.le_trans hN hb3.size
 have nbl : w2.heap.size < (w2.alloc (.cells #[.int .i64 (t : Int), .int .i64 gl, .int .i64 gh] 83)).heap.size := by simp
 have H1 := Lib.hid (HI1.out _ (HS.out.new hb3) hN3 hrow3)
 have hown0 : ∀ j, (Value.slice a acc.length c).ownBlock = some j -> N <= j /\ j < w.heap.size := fun j hj => HR.out.lt j hj
 have HOW := Lib.hid hown0
 have HB3 := Lib.hid hb3
 have hww := hb2.size
 clear hb2 hb3 HGT HI1 hrow3 hown0
 go_wp2_with fail
 generalize (w2.alloc (.cells #[.int .i64 (t : Int), .int .i64 gl, .int .i64 gh] 83)) = W3 at *
 refine H1.out.mono ?_
 rintro e w4 ⟨a4, c4, rfl, hrow4, hk4, hl4⟩
 have nb4 : ¬ (Value.slice a acc.length c).ownBlock = some w2.heap.size := fun h => by have := (HOW.out _ h).2; omega
 have y0 := (hk4.cell (a := ⟨w2.heap.size, 0, none⟩) nbl nb4).trans x0
 have y1 := (hk4.cell (a := ⟨w2.heap.size, 1, none⟩) nbl nb4).trans x1
 have y2 := (hk4.cell (a := ⟨w2.heap.size, 2, none⟩) nbl nb4).trans x2'
 have hS4 := (HS.out.new HB3.out).kept hk4 (fun k ho hj => by have := (HOW.out k hj).1; have := hO k ho; omega) (fun hj => by have := (HOW.out s hj).1; omega)
 have hbd : Below w4.heap.size w4 w4.drew := (Below.refl _ _).drew
 have H2 := Lib.hid (HI2.out w4.drew a4 c4 (hS4.new hbd) (Nat.le_trans hN3 hk4.size) (ownsRow_kept hrow4 (Kept.of_below hbd (fun _ => False)) (fun _ _ h => h)))
 have nb6 : ¬ (Value.slice a4 acc2.length c4).ownBlock = some w2.heap.size := fun h => by
  rcases hl4 with k | ⟨g, k, hg⟩
  ·rw [k] at h; exact nb4 h
  ·rw [k] at h; cases h; omega
 have nbl4 : w2.heap.size < w4.drew.heap.size := Nat.lt_of_lt_of_le nbl hk4.size
 have HK4 : Hid (Kept (fun j => (Value.slice a acc.length c).ownBlock = some j) w w4) := (Kept.of_below HB3.out _).trans hk4
 have HL4 := Lib.hid hl4
 have hw3 := HB3.out.size
 clear hk4 hl4 hrow4 hS4 H1 HI2 x0 x1 x2' hbd
 unfold SetsOut at H2
 go_wp2_with fail
 have SB : w4.drew.cell? ⟨w2.heap.size, 0, none⟩ = some (.int .i64 (t : Int)) /\ w4.drew.cell? ⟨w2.heap.size, 2, none⟩ = some (.int .i64 gh) := ⟨y0, y2⟩
 go_region_held3 (fun X => X.cell? ⟨w2.heap.size, 0, none⟩ = some (.int .i64 (t : Int)) /\ X.cell? ⟨w2.heap.size, 2, none⟩ = some (.int .i64 gh)) (first | exact SB | exact hsk)
  (first | (go_at_call 27; with_reducible refine H2.out.mono ?_; rintro e w6 ⟨a6, c6, rfl, hrow6, hk6, hl6⟩; have hsk : w6.cell? ⟨w2.heap.size, 0, none⟩ = some (.int .i64 (t : Int)) /\ w6.cell? ⟨w2.heap.size, 2, none⟩ = some (.int .i64 gh) := ⟨(hk6.cell (a := ⟨w2.heap.size, 0, none⟩) nbl4 nb6).trans SB.1, (hk6.cell (a := ⟨w2.heap.size, 2, none⟩) nbl4 nb6).trans SB.2⟩))
 have hw4 := HK4.out.size
 have hkf : Kept (fun j => (Value.slice a acc.length c).ownBlock = some j) w w6 := HK4.out.drew.andThen hk6 (fun i hi hlt => by
  rcases HL4.out with h | ⟨g, h, hg⟩
  ·rw [<- h]; exact hi
  ·rw [h] at hi; cases hi; omega)
 have hlf : (Value.slice a6 (acc2 ++ l2).length c6).ownBlock = (Value.slice a acc.length c).ownBlock \/ ∃ g, (Value.slice a6 (acc2 ++ l2).length c6).ownBlock = some g /\ w.heap.size <= g := by
  rcases hl6 with h | ⟨g, h, hg⟩
  ·rcases HL4.out with k | ⟨g, k, hg⟩
   ·exact .inl (h.trans k)
   ·exact .inr ⟨g, h.trans k, by omega⟩
  ·exact .inr ⟨g, h, Nat.le_trans hw4 hg⟩
 have HOUT : Hid (SetsOut N (acc2 ++ l2) (.slice a acc.length c) w (.returned (.slice a6 (acc2 ++ l2).length c6)) w6) := ⟨a6, c6, rfl, hrow6, hkf, hlf⟩
 clear hsk hrow6 hk6 hl6 hkf hlf H2 HL4
 rw [List.length_append] at HOUT
 go_wp2
 go_ret
 exact HOUT.out
theorem sets_any (hr : Ranked ns) (hl : ns.length <= 90000) (hO : ∀ k, O k -> k < N) (hs : s < N) : ∀ d, SetsOk B N s b O vars room ns d
 | 0 => fun w hS hN h hh hd x _ acc hacc a c hrow => sets_end w hS hl hN h hh (by have := (topOf_le hr h).2; omega) x acc (by omega) a c hrow
 | d + 1 => fun w hS hN h hh hd x hx acc hacc a c hrow => by
  by_cases ht : topOf ns h = 24
  ·exact sets_end w hS hl hN h hh ht x acc (by have := Nat.one_le_two_pow (n := d + 1); omega) a c hrow
  ·exact sets_node hr hl hO hs (sets_any hr hl hO hs d) w hS hN h hh ht hd x hx acc hacc a c hrow
end
end Go.Proofs.YtbklgjmkdhinpaaGreatDoor.Fm
namespace Go.Proofs.YtbklgjmkdhinpaaGreatDoor.Bd
open Go.RowKit Num Go.Sort
theorem cmp_any (va vb : Value) (a b : List Nat) (w : World) (ha : Dig .u64 w va a) (hb : Dig .u64 w vb b) (na : ∀ i, dig a i < 1000000000) (nb : ∀ i, dig b i < 1000000000) (la : a.length <= 10000) (lb : b.length <= 10000) :
  Calls Tryz.prog 87 #[.agg #[va], .agg #[vb]] w fun e w' => e = .returned (.int .i64 (cmpN (val 1000000000 a) (val 1000000000 b))) /\ Below w.heap.size w w' := by
 obtain ⟨aa, ca, eva, hca, hcella⟩ := id ha
 obtain ⟨ab, cb, evb, hcb, hcellb⟩ := id hb
 subst eva evb
 clear hcella hcellb hca hcb
 obtain ⟨n, hn, hna, hnb, hln⟩ : ∃ n : Nat, max (a.length : Int) (b.length : Int) = (n : Int) /\ a.length <= n /\ b.length <= n /\ n <= 10000 := ⟨max a.length b.length, by omega, by omega, by omega, by omega⟩
 go_enter Tryz.func87, Tryz.ntmps87
 go_wp2_with fail
 clear hn
 go_loopw [17] (fun i wr => ∃ k : Nat, k <= n /\ i = .int .i64 k /\ (∀ j, n - k <= j -> j < n -> dig a j = dig b j) /\ Below (w.heap.size + 2) ((w.alloc (.cells #[.slice aa a.length ca] 38)).alloc (.cells #[.slice ab b.length cb] 38)) wr)
   (fun i _ => n - (intOf i).toNat)
 case atStart => exact ⟨0, Nat.zero_le _, rfl, fun j h1 h2 => by omega, Below.refl _ _⟩
 case round =>
  obtain ⟨k, hk, rfl, heq, hbel⟩ := hrel
  have HE : Hid (∀ j, n - k <= j -> j < n -> dig a j = dig b j) := heq
  clear heq
  have hbw : Below w.heap.size w wr := (((Below.refl _ _).alloc (Nat.le_refl _) _).alloc (by simp) _).trans (hbel.mono (by omega))
  by_cases hlt : k < n
  ·have c0 : wr.cell? ⟨w.heap.size, 0, none⟩ = some (.slice aa a.length ca) := (hbel.cell (p := ⟨w.heap.size, 0, none⟩) (by simp)).trans (by simp)
   have c1 : wr.cell? ⟨w.heap.size + 1, 0, none⟩ = some (.slice ab b.length cb) := (hbel.cell (p := ⟨w.heap.size + 1, 0, none⟩) (by simp)).trans (by simp)
   have k0 := cell_regrown c0
   have k1 := cell_regrown c1
   have cA : ∀ d os, Calls Tryz.prog 99 #[.agg #[.slice aa a.length ca], .int .i64 ((n : Int) - 1 - k)] (grow (redrawn wr d) os) fun e w'' => e = .returned (.int .u64 ((dig a (n - 1 - k) : Nat) : Int)) /\ ∃ p : Regrown, w'' = grow (redrawn wr p.d) p.os := fun d os => by
    have := digit_int _ a ((n : Int) - 1 - k) (grow (redrawn wr d) os) (ha.below (hbw.trans ((below_regrown wr d os).mono hbw.size))) (by omega) (by omega) (by omega)
    rw [show ((n : Int) - 1 - k).toNat = n - 1 - k by omega] at this
    exact Calls.regrown_of this
   have cB : ∀ d os, Calls Tryz.prog 99 #[.agg #[.slice ab b.length cb], .int .i64 ((n : Int) - 1 - k)] (grow (redrawn wr d) os) fun e w'' => e = .returned (.int .u64 ((dig b (n - 1 - k) : Nat) : Int)) /\ ∃ p : Regrown, w'' = grow (redrawn wr p.d) p.os := fun d os => by
    have := digit_int _ b ((n : Int) - 1 - k) (grow (redrawn wr d) os) (hb.below (hbw.trans ((below_regrown wr d os).mono hbw.size))) (by omega) (by omega) (by omega)
    rw [show ((n : Int) - 1 - k).toNat = n - 1 - k by omega] at this
    exact Calls.regrown_of this
   have hx := na (n - 1 - k)
   have hy := nb (n - 1 - k)
   have hlt' : (k : Int) < n := by omega
   have e1 : IntKind.i64.wrap ((n : Int) - 1) = (n : Int) - 1 := w64 (by omega) (by omega)
   have e2 : IntKind.i64.wrap ((n : Int) - 1 - k) = (n : Int) - 1 - k := w64 (by omega) (by omega)
   go_wp2_with fail
   refine wp_region_quiet_below mixed (by kernel_rfl) ?_
   repeat (quiet_step (first | (go_at_call_of 99 aa; exact cA _ _) | (go_at_call_of 99 ab; exact cB _ _)))
   refine wpQuiet_nil ?_
   intro _ hw'
   obtain ⟨⟨dq, osq⟩, hw''⟩ := hw'
   subst hw''
   clear cA cB k0 k1
   have hgr : Below w.heap.size w (grow (redrawn wr dq) osq) := hbw.trans ((below_regrown wr dq osq).mono hbw.size)
   generalize hdx : dig a (n - 1 - k) = x at *
   generalize hdy : dig b (n - 1 - k) = y at *
   have HX : Hid (dig a (n - 1 - k) = x) := hdx
   have HY : Hid (dig b (n - 1 - k) = y) := hdy
   clear hdx hdy
   go_wp2
   ·go_ret
    refine ⟨ret_int ?_, hgr⟩
    have hxy : x < y := by assumption
    exact (cmpN_lt (cmp_lt na hna hnb (t := n - 1 - k) (by omega) (by rw [HX.out, HY.out]; exact hxy) (fun i h1 h2 => HE.out i (by omega) h2))).symm
   ·go_ret
    refine ⟨ret_int ?_, hgr⟩
    have hxy : y < x := by assumption
    exact (cmpN_gt (cmp_lt nb hnb hna (t := n - 1 - k) (by omega) (by rw [HX.out, HY.out]; exact hxy) (fun i h1 h2 => (HE.out i (by omega) h2).symm))).symm
   ·go_roundw
    case rel =>
     refine ⟨k + 1, by omega, by go_num, fun j h1 h2 => ?_, hbel.trans ((below_regrown wr dq osq).mono (by have := hbel.size; simpa using this))⟩
     by_cases hj : j = n - 1 - k
     ·rw [hj, HX.out, HY.out]; omega
     ·exact HE.out j (by omega) h2
    case measure => simp [intOf]; omega
  ·obtain rfl : k = n := by omega
   go_wp2
   go_ret
   refine ⟨ret_int ?_, hbw⟩
   rw [cmp_eq hna hnb (fun i h => HE.out i (by omega) h), cmpN_eq]
end Go.Proofs.YtbklgjmkdhinpaaGreatDoor.Bd
