/- List: a family's sets, rising. -/
import Derived.Test.YtbklgjmkdhinpaaSrBase
import Derived.RangeFuncBound
import Derived.Laws.CopyOwn
import Derived.Deep.RegionLaw
import Derived.Deep.RegionHeldLaw
import Derived.Test.YtbklgjmkdhinpaaFmRMap
import Derived.Test.YtbklgjmkdhinpaaSrPdq
set_option maxHeartbeats 2000000
set_option maxRecDepth 100000
namespace Go.Proofs.Ytbklgjmkdhinpaa.Fm
open Go.RowKit Go.Maps Go.Proofs.Ytbklgjmkdhinpaa.Bd
def Blk (W : World) (b : Nat) (t : TypeId) (cs : Array Value) : Prop := W.heap[b]? = some (.cells cs t (0, 0))
theorem Blk.lt {W : World} {b : Nat} {t : TypeId} {cs : Array Value} (h : Blk W b t cs) : b < W.heap.size := (Array.getElem?_eq_some_iff.1 h).1
theorem Blk.cell {W : World} {b : Nat} {t : TypeId} {cs : Array Value} (h : Blk W b t cs) (i : Nat) : W.cell? ⟨b, i, none⟩ = cs[i]? := by
 simp [World.cell?, show W.heap[b]? = _ from h]
theorem Blk.frozen {W : World} {b : Nat} {t : TypeId} {cs : Array Value} (h : Blk W b t cs) (i : Nat) : W.frozen? ⟨b, i, none⟩ = false := by simp [World.frozen?, show W.heap[b]? = _ from h]
theorem Blk.new (W : World) (t : TypeId) (cs : Array Value) : Blk (W.alloc (.cells cs t)) W.heap.size t cs := World.alloc_heap_new W _
theorem Blk.kept {W W' : World} {row : Option Nat} {b : Nat} {t : TypeId} {cs : Array Value} (h : Blk W b t cs) (hg : W.grownBy W' row) (hne : some b ≠ row) : Blk W' b t cs := (hg.block b h.lt hne).trans h
theorem Blk.alloc {W : World} {b : Nat} {t : TypeId} {cs : Array Value} (h : Blk W b t cs) (o : Obj) : Blk (W.alloc o) b t cs := h.kept (World.grownBy_alloc W o none) (by simp)
theorem Blk.below {B : Nat} {W W' : World} {b : Nat} {t : TypeId} {cs : Array Value} (h : Blk W b t cs) (hb : Below B W W') (hB : b < B) : Blk W' b t cs := (hb.block b hB).trans h
theorem Blk.other {W : World} {b b' i : Nat} {t : TypeId} {cs : Array Value} {v : Value} (h : Blk W b t cs) (hne : b ≠ b') : Blk (W.setCell ⟨b', i, none⟩ v) b t cs := (Below.heap_setCell _ _ _ b hne).trans h
theorem Blk.put {W : World} {b l : Nat} {t : TypeId} {cs : Array Value} {o' : Obj} (h : Blk W b t cs) (hne : b ≠ l) : Blk (W.putObj l o') b t cs := (World.putObj_heap_other hne).trans h
theorem Blk.set {W : World} {b i : Nat} {t : TypeId} {cs : Array Value} {v : Value} (h : Blk W b t cs) : Blk (W.setCell ⟨b, i, none⟩ v) b t (cs.setIfInBounds i v) := by
 obtain ⟨hlt, hk⟩ := Array.getElem?_eq_some_iff.1 h
 show (W.heap.modify b _)[b]? = _
 rw [Array.getElem?_eq_getElem (by rw [Array.size_modify]; exact hlt), Array.getElem_modify_self, hk]
 rfl
theorem urow_form {B n : Nat} {w : World} {v : Value} {t : TypeId} {cs : List Value} (h : w.ownsRow B t 1 v n cs) : ∃ a c, v = .slice a n c := by
 rcases h.2 with ⟨e, e0⟩ | ⟨g, cap, cur, e, -⟩
 ·exact ⟨none, 0, by rw [e, e0]⟩
 ·exact ⟨_, _, e⟩
theorem urow_cell {B : Nat} {w : World} {a : Option Addr} {c : Nat} {l : List Nat} (h : w.ownsRow B 50 1 (.slice a l.length c) l.length (ucells l)) (i : Nat) (hi : i < l.length) : ∃ g, a = some ⟨g, 0, none⟩ /\ w.cell? ⟨g, i, none⟩ = some (.int .u64 (l.getD i 0 : Nat)) := by
 rcases h.2 with ⟨e, e0⟩ | ⟨g, cap, cur, e, hB, hg, hn, hm, hsz, htake⟩
 ·omega
 ·cases e
  refine ⟨g, rfl, ?_⟩
  have := h.cellAt i (by omega)
  rwa [ucells_at l i hi] at this
theorem RM.below {w w' : World} {b r n cnt : Nat} {S R : Nat -> Prop} (h : RM w b r S R cnt) (hb : Below n w w') (h1 : b < n) (h2 : r < n) : RM w' b r S R cnt := by
 obtain ⟨L, D, left, ⟨es, clock, since, seen, c0, e1, F, hs, hD, e2, rest⟩, h2'⟩ := h
 exact ⟨L, D, left, ⟨es, clock, since, seen, c0, (hb.block b h1).trans e1, F, hs, hD, (hb.block r h2).trans e2, rest⟩, h2'⟩
end Go.Proofs.Ytbklgjmkdhinpaa.Fm
namespace Go.Proofs.Ytbklgjmkdhinpaa.Fm
open Go.RowKit Go.Maps Go.Proofs.Ytbklgjmkdhinpaa.Bd
def Small (T : List Fam) : Prop := ∀ S ∈ T, ∀ x, S x -> x < 64
def mcells (gs : List Nat) : List Value := gs.map fun g => Value.map (some g)
structure RFams (B : Nat) (w : World) (v : Value) (gs : List Nat) (T : List Fam) : Prop where
 row : w.ownsRow B 31 1 v gs.length (mcells gs)
 len : gs.length = T.length
 fams : ∀ i (h1 : i < gs.length) (h2 : i < T.length), FM w gs[i] T[i]
 old : ∀ g ∈ gs, B <= g
section
variable {B : Nat} {w w' : World} {v : Value} {gs : List Nat} {T : List Fam}
theorem RFams.new (h : RFams B w v gs T) (hb : Below w.heap.size w w') : RFams B w' v gs T := ⟨ownsRow_new h.row hb, h.len, fun i h1 h2 => (h.fams i h1 h2).below hb, h.old⟩
theorem RFams.at (h : RFams B w v gs T) (hne : 0 < gs.length) (x : Int) : ∃ b, gs[pickV x gs.length]? = some b /\ FM w b (tAt T x) := by
 have hl := pickV_lt x hne
 refine ⟨gs[pickV x gs.length], List.getElem?_eq_getElem hl, ?_⟩
 have h2 : pickV x gs.length < T.length := by rw [<- h.len]; exact hl
 have := h.fams _ hl h2
 have e : tAt T x = T[pickV x gs.length]'h2 := by
  unfold tAt
  rw [<- h.len, List.getD_eq_getElem?_getD, List.getElem?_eq_getElem h2]
  rfl
 rw [e]; exact this
theorem RFams.cell (h : RFams B w v gs T) (hne : 0 < gs.length) : ∃ g c, v = .slice (some ⟨g, 0, none⟩) gs.length c /\ g < w.heap.size /\ ∀ i b, gs[i]? = some b -> w.cell? ⟨g, i, none⟩ = some (.map (some b)) := by
 rcases h.row.2 with ⟨e, e0⟩ | ⟨g, cap, cur, e, hB, hg, hn, hm, hsz, htake⟩
 ·omega
 ·subst e
  refine ⟨g, cap, rfl, (h.row.lt g rfl).2, fun i b hi => ?_⟩
  have hlt := (List.getElem?_eq_some_iff.1 hi).1
  have := h.row.cellAt i (by omega)
  rw [this]
  simp [mcells, hi]
end
def FI (w0 : World) (b r m : Nat) (S C Q : Nat -> Prop) (wq : World) : Prop := ∃ R cnt, RM wq b r S R cnt /\ FM wq m (fun y => C y \/ (Q y /\ ¬ R y)) /\ Below w0.heap.size w0 wq
section
variable {w0 wq w' : World} {b r m : Nat} {S C Q R : Nat -> Prop} {cnt : Nat}
theorem FI.start (h1 : RM wq b r S S cnt) (h2 : FM wq m C) (hQ : ∀ y, Q y -> S y) (h3 : Below w0.heap.size w0 wq) : FI w0 b r m S C Q wq := ⟨S, cnt, h1, h2.congr (fun y => ⟨.inl, fun h => h.elim id (fun k => (k.2 (hQ y k.1)).elim)⟩), h3⟩
theorem fi_take {x : Nat} (h : FM wq m (fun y => (C y \/ (Q y /\ ¬ R y)) \/ y = x)) (hq : Q x) : FM wq m (fun y => C y \/ (Q y /\ ¬ (R y /\ y ≠ x))) := h.congr (fun y => by
 constructor
 ·rintro ((k | k) | rfl)
  ·exact .inl k
  ·exact .inr ⟨k.1, fun e => k.2 e.1⟩
  ·exact .inr ⟨hq, fun e => e.2 rfl⟩
 ·rintro (k | k)
  ·exact .inl (.inl k)
  ·by_cases e : y = x
   ·exact .inr e
   ·exact .inl (.inr ⟨k.1, fun hr => k.2 ⟨hr, e⟩⟩))
end
end Go.Proofs.Ytbklgjmkdhinpaa.Fm
namespace Go.Proofs.Ytbklgjmkdhinpaa.Fm
open Go.RowKit Go.Maps Go.Proofs.Ytbklgjmkdhinpaa.Bd
def UArg (w : World) (v : Value) (l : List Nat) : Prop := ∃ a c, v = .slice a l.length c /\ ∀ i, i < l.length -> ∃ g, a = some ⟨g, 0, none⟩ /\ g < w.heap.size /\ w.cell? ⟨g, i, none⟩ = some (.int .u64 (l.getD i 0 : Nat))
theorem UArg.below {w w' : World} {v : Value} {l : List Nat} (h : UArg w v l) (hb : Below w.heap.size w w') : UArg w' v l := by
 obtain ⟨a, c, e, h⟩ := h
 refine ⟨a, c, e, fun i hi => ?_⟩
 obtain ⟨g, h1, h2, h3⟩ := h i hi
 exact ⟨g, h1, Nat.lt_of_lt_of_le h2 hb.size, (hb.cell (p := ⟨g, i, none⟩) h2).trans h3⟩
theorem UArg.of_row {B : Nat} {w : World} {v : Value} {l : List Nat} (h : w.ownsRow B 50 1 v l.length (ucells l)) : UArg w v l := by
 obtain ⟨a, c, rfl⟩ := urow_form h
 refine ⟨a, c, rfl, fun i hi => ?_⟩
 obtain ⟨g, rfl, hc⟩ := urow_cell h i hi
 exact ⟨g, rfl, (h.lt g rfl).2, hc⟩
end Go.Proofs.Ytbklgjmkdhinpaa.Fm
namespace Go.Proofs.Ytbklgjmkdhinpaa.Fm
open Go.RowKit Go.Maps Go.Proofs.Ytbklgjmkdhinpaa.Bd Go.Sort Go.Proofs.Ytbklgjmkdhinpaa.Sr
theorem allS_nodup : ∀ (n v : Nat), (allS n v).Nodup
 | 0, v => by unfold allS; simp
 | n + 1, v => by
  have low : ∀ y ∈ allS n (v + 1), y.testBit v = false := fun y hy => allS_low n (v + 1) y hy v (by omega)
  rw [allS_succ, List.nodup_append]
  refine ⟨allS_nodup n (v + 1), ?_, fun x hx y hy e => ?_⟩
  ·refine (List.pairwise_map.2 ?_ : List.Nodup _)
   refine (allS_nodup n (v + 1)).imp_of_mem ?_
   intro x y hx hy hne e
   rw [or_bit_free (low x hx), or_bit_free (low y hy)] at e
   have e2 : (x ^^^ 2 ^ v) ^^^ 2 ^ v = (y ^^^ 2 ^ v) ^^^ 2 ^ v := by rw [e]
   rw [Nat.xor_assoc, Nat.xor_self, Nat.xor_zero, Nat.xor_assoc, Nat.xor_self, Nat.xor_zero] at e2
   exact hne e2
  ·subst e
   obtain ⟨z, hz, rfl⟩ := List.mem_map.1 hy
   have := low _ hx
   rw [Nat.testBit_or, Nat.testBit_two_pow] at this
   simp at this
theorem stL_nodup {vars : Nat} {ns : List Nd} (hg : Good vars ns) (hv : vars <= 24) {h : Int} (hh : hasB ns h = true) : (stL ns h 0).Nodup := by
 rw [stL_all hg hv hh]; exact (allS_nodup vars 0).filter _
theorem allS_mem : ∀ (n v x : Nat), (∀ i, i < v \/ v + n <= i -> x.testBit i = false) -> x ∈ allS n v
 | 0, v, x, h => by
  have : x = 0 := Nat.eq_of_testBit_eq fun i => by rw [Nat.zero_testBit]; exact h i (by omega)
  subst this; unfold allS; simp
 | n + 1, v, x, h => by
  rw [allS_succ, List.mem_append]
  cases hb : x.testBit v with
  | false => exact .inl (allS_mem n (v + 1) x (fun i hi => by
    by_cases e : i = v
    ·subst e; exact hb
    ·exact h i (by omega)))
  | true =>
   refine .inr (List.mem_map.2 ⟨x ^^^ 2 ^ v, allS_mem n (v + 1) _ (fun i hi => ?_), ?_⟩)
   ·rw [Nat.testBit_xor, Nat.testBit_two_pow]
    by_cases e : i = v
    ·subst e; simp [hb]
    ·have := h i (by omega)
     simp [this]; omega
   ·have hf : (x ^^^ 2 ^ v).testBit v = false := by rw [Nat.testBit_xor, Nat.testBit_two_pow]; simp [hb]
    rw [or_bit_free hf, Nat.xor_assoc, Nat.xor_self, Nat.xor_zero]
theorem stL_mem {vars : Nat} {ns : List Nd} (hg : Good vars ns) (hv : vars <= 24) {h : Int} (hh : hasB ns h = true) (x : Nat) : x ∈ stL ns h 0 ↔ In ns h x := by
 rw [stL_all hg hv hh, List.mem_filter]
 constructor
 ·exact fun h => h.2
 ·intro hi
  refine ⟨allS_mem vars 0 x (fun i hi2 => ?_), hi⟩
  rcases hi2 with h | h
  ·omega
  ·cases hb : x.testBit i with
   | false => rfl
   | true => have := in_lt hg hi hb; omega
def castA (l : List Nat) : Array Int := (l.map fun x : Nat => (x : Int)).toArray
theorem castA_size (l : List Nat) : (castA l).size = l.length := by simp [castA]
theorem castA_at (l : List Nat) (i : Nat) (h : i < l.length) : (castA l)[i]! = ((l.getD i 0 : Nat) : Int) := by
 unfold castA
 rw [getElem!_pos _ i (by simpa using h)]
 simp [List.getD_eq_getElem?_getD, List.getElem?_eq_getElem h]
theorem sorted_list {l : List Nat} {d' : Array Int} (hn : l.Nodup) (hp : PermIn 0 l.length (castA l) d') (hs : SortedIn ltInt 0 l.length d') :
  ∃ L : List Nat, L.length = l.length /\ d' = castA L /\ L.Pairwise (· < ·) /\ ∀ x, x ∈ L ↔ x ∈ l := by
 have hsz : d'.size = l.length := hp.1.trans (castA_size l)
 have h3 := hp.2.2
 have e1 : d'.extract 0 l.length = d' := by rw [<- hsz]; exact Array.extract_size
 have e2 : (castA l).extract 0 l.length = castA l := by rw [<- castA_size l]; exact Array.extract_size
 rw [e1, e2] at h3
 have hperm : d'.toList.Perm (l.map fun x : Nat => (x : Int)) := h3
 refine ⟨d'.toList.map Int.toNat, by simp [hsz], ?_, ?_, ?_⟩
 ·unfold castA
  rw [List.map_map]
  have : d'.toList.map ((fun x : Nat => (x : Int)) ∘ Int.toNat) = d'.toList := by
   conv => rhs; rw [<- List.map_id d'.toList]
   apply List.map_congr_left
   intro x hx
   obtain ⟨y, _, rfl⟩ := List.mem_map.1 (hperm.mem_iff.1 hx)
   simp
  rw [this]
 ·have hnd : d'.toList.Nodup := hperm.symm.nodup (List.pairwise_map.2 (hn.imp (fun {a b} h e => h (by have : (a : Int) = (b : Int) := e; omega))))
  rw [List.pairwise_map, List.pairwise_iff_getElem]
  intro i j hi hj hij
  have hi' : i < d'.size := by simpa using hi
  have hj' : j < d'.size := by simpa using hj
  have h1 := hs i j (Nat.zero_le _) hij (by omega)
  rw [getElem!_pos _ j hj', getElem!_pos _ i hi'] at h1
  have h2 : ¬ d'[j] < d'[i] := by simpa [ltInt] using h1
  have h4 : d'[i] ≠ d'[j] := by
   have := List.pairwise_iff_getElem.1 hnd i j hi hj hij
   simpa using this
  have n1 : 0 <= d'[i] := by
   obtain ⟨y, _, e⟩ := List.mem_map.1 (hperm.mem_iff.1 (show d'[i] ∈ d'.toList by simp))
   omega
  show (d'.toList[i]).toNat < (d'.toList[j]).toNat
  simp only [Array.getElem_toList]
  omega
 ·intro x
  rw [List.mem_map]
  constructor
  ·rintro ⟨y, hy, rfl⟩
   obtain ⟨z, hz, rfl⟩ := List.mem_map.1 (hperm.mem_iff.1 hy)
   simpa using hz
  ·intro hx
   exact ⟨(x : Int), hperm.mem_iff.2 (List.mem_map.2 ⟨x, hx, rfl⟩), by simp⟩
theorem sort_any (g cap : Nat) (l : List Nat) (hn : l.Nodup) (h1 : 0 < l.length) (h2 : l.length < 256) (w : World) (h : UR w g (castA l)) :
  Calls Try.prog 37 #[.slice (some ⟨g, 0, none⟩) l.length cap] w fun e w' => ∃ L : List Nat, e = .returned (.tuple #[]) /\ L.length = l.length /\ UR w' g (castA L) /\ L.Pairwise (· < ·) /\ (∀ x, x ∈ L ↔ x ∈ l) /\ KG g w w' := by
 have HB := Lib.hid (Try.bits_Len (l.length : Int) w (by omega) (by omega))
 have hbl : (Lib.bitLen ((l.length : Int)).toNat) = bitsLen l.length := by rw [Int.toNat_natCast]; exact bitLen_fin ⟨_, h2⟩
 have hk : bitsLen l.length <= 1000 := by
  have := two_pow_bitsLen_le h1
  have h3 : 2 ^ bitsLen l.length < 2 ^ 10 := by omega
  have := (Nat.pow_lt_pow_iff_right (by decide)).1 h3
  omega
 rw [hbl] at HB
 have HP := Lib.hid (pdq_any g cap l.length h2 (l.length + 1) 0 l.length (bitsLen l.length) (castA l) w (by omega) h (castA_size l) (Nat.zero_le _) (Nat.le_refl _) (Or.inl rfl) hk)
 unfold PdqOut at HP
 generalize bitsLen l.length = k at *
 have w1 : IntKind.u64.wrap (l.length : Int) = (l.length : Int) := IntWalk.u64_in _ ⟨by omega, by omega⟩
 have HN := Lib.hid hn
 clear h hn hbl
 go_enter Try.func37, Try.ntmps37
 go_wp2_with fail
 refine HB.out.mono ?_
 rintro e w' ⟨rfl, rfl⟩
 go_wp2_with fail
 refine HP.out.mono ?_
 rintro e w2 ⟨d', rfl, hd, hU, hPm, hS, hK⟩
 obtain ⟨L, e1, rfl, e3, e4⟩ := sorted_list HN.out hPm hS
 have HF : Hid (∃ L' : List Nat, L'.length = l.length /\ UR w2 g (castA L') /\ L'.Pairwise (· < ·) /\ (∀ x, x ∈ L' ↔ x ∈ l) /\ KG g w' w2) := ⟨L, e1, hU, e3, e4, hK⟩
 clear HP hd hU hPm hS hK e1 e3 e4 HB
 go_wp2
 first | refine bodyPost_end (v := .tuple #[]) (by first | simp [results, go_sem] | simp [results, Try.results37, go_sem]) rfl ?_ | refine bodyPost_ret (v := .tuple #[]) (by first | simp [results, go_sem] | simp [results, Try.results37, go_sem]) rfl ?_
 obtain ⟨L', h⟩ := HF.out
 first | exact ⟨rfl, L', h⟩ | exact ⟨L', rfl, h⟩
theorem ins_zero (a : Option Addr) (c : Nat) (w : World) : Calls Try.prog 88 #[.slice a 0 c, .int .i64 0, .int .i64 0] w fun e w' => e = .returned (.tuple #[]) /\ w' = w := by
 go_enter Try.func88, Try.ntmps88
 go_wp2_with fail
 refine wp_loop_rounds 1 ?_
 rw [rounds_succ]
 go_wp2
 first | refine bodyPost_end (v := .tuple #[]) (by first | simp [results, go_sem] | simp [results, Try.results88, go_sem]) rfl ?_ | refine bodyPost_ret (v := .tuple #[]) (by first | simp [results, go_sem] | simp [results, Try.results88, go_sem]) rfl ?_
 exact ⟨rfl, rfl⟩
theorem pdq_zero (a : Option Addr) (c : Nat) (k : Int) (w : World) : Calls Try.prog 62 #[.slice a 0 c, .int .i64 0, .int .i64 0, .int .i64 k] w fun e w' => e = .returned (.tuple #[]) /\ w' = w := by
 have HI := Lib.hid (ins_zero a c w)
 go_enter Try.func62, Try.ntmps62
 go_wp2_with fail
 refine wp_loop_rounds 1 ?_
 rw [rounds_succ]
 go_wp2_with fail
 refine HI.out.mono ?_
 rintro e w' ⟨rfl, rfl⟩
 go_wp2
 first | refine bodyPost_ret (v := .tuple #[]) (by first | simp [results, go_sem] | simp [results, Try.results62, go_sem]) rfl ?_ | refine bodyPost_end (v := .tuple #[]) (by first | simp [results, go_sem] | simp [results, Try.results62, go_sem]) rfl ?_
 exact ⟨rfl, rfl⟩
theorem sort_zero (a : Option Addr) (c : Nat) (w : World) : Calls Try.prog 37 #[.slice a 0 c] w fun e w' => e = .returned (.tuple #[]) /\ w' = w := by
 have HB := Lib.hid (Try.bits_Len 0 w (by omega) (by omega))
 have HP := Lib.hid (pdq_zero a c (Lib.bitLen ((0 : Int)).toNat) w)
 generalize Lib.bitLen ((0 : Int)).toNat = k at *
 go_enter Try.func37, Try.ntmps37
 go_wp2_with fail
 refine HB.out.mono ?_
 rintro e w' ⟨rfl, rfl⟩
 go_wp2_with fail
 refine HP.out.mono ?_
 rintro e w2 ⟨rfl, rfl⟩
 go_wp2
 first | refine bodyPost_end (v := .tuple #[]) (by first | simp [results, go_sem] | simp [results, Try.results37, go_sem]) rfl ?_ | refine bodyPost_ret (v := .tuple #[]) (by first | simp [results, go_sem] | simp [results, Try.results37, go_sem]) rfl ?_
 exact ⟨rfl, rfl⟩
section
variable {B s b : Nat} {O : Nat -> Prop} {vars room : Nat} {ns : List Nd}
def ListOut (ns : List Nd) (h : Int) (w : World) (e : Ending) (w' : World) : Prop := ∃ (L : List Nat) (a : Option Addr) (c : Nat), e = .returned (.tuple #[.slice a L.length c, .nilIface]) /\ (∀ W, Below w'.heap.size w' W -> UArg W (.slice a L.length c) L) /\ L.Pairwise (· < ·) /\ (∀ x, x ∈ L ↔ In ns h x) /\ L.length = nsN ns h /\ Below w.heap.size w w'
theorem UArg.of_ur {w : World} {g c : Nat} {L : List Nat} (h : UR w g (castA L)) : UArg w (.slice (some ⟨g, 0, none⟩) L.length c) L :=
 ⟨_, _, rfl, fun i hi => ⟨g, rfl, h.lt, by rw [h.cell i (by rw [castA_size]; exact hi), castA_at L i hi]⟩⟩
theorem UR.of_row {N g c : Nat} {w : World} {l : List Nat} (h : w.ownsRow N 50 1 (.slice (some ⟨g, 0, none⟩) l.length c) l.length (ucells l)) : UR w g (castA l) := by
 refine ⟨(h.lt g rfl).2, fun j hj => ?_, fun j hj => ?_⟩
 ·rw [castA_size] at hj
  have := h.cellAt j (by omega)
  rw [ucells_at l j hj] at this
  rw [castA_at l j hj]; exact this
 ·obtain ⟨g', cap, cur, e, h2, h3, h4⟩ := h.2.resolve_left (fun e => by simp at e)
  cases e
  exact Blk.frozen (W := w) (b := g) (t := 50) (cs := cur) h3 j
theorem list_any (w : World) (hF : FamAt B w s b O vars room ns) (hv6 : vars <= 6) (h : Int) (hh : hasB ns h = true) (most : Int) (hm : (nsN ns h : Int) <= most) :
  Calls Try.prog 12 #[.pointer (some ⟨s, 0, none⟩), .int .i64 h, .int .i64 most] w (ListOut ns h w) := by
 have HL := Lib.hid (listed_yes w hF h hh most hm)
 have hlen := hF.len
 have hln : nsN ns h = (stL ns h 0).length := nsN_len ns h 0
 have hl6 : (stL ns h 0).length <= 64 := by
  have := nsN_vars hF.good hF.v24 hh
  have p6 : 2 ^ vars <= 64 := Nat.pow_le_pow_right (n := 2) (by omega) hv6
  omega
 have HND := Lib.hid (stL_nodup hF.good hF.v24 hh)
 have HMM : Hid (∀ x, x ∈ stL ns h 0 ↔ In ns h x) := fun x => stL_mem hF.good hF.v24 hh x
 have HST : Hid (∀ W, Below w.heap.size w W -> Calls Try.prog 36 #[.pointer (some ⟨s, 0, none⟩), .int .i64 h, .int .u64 0, .slice none 0 0] W (SetsOut w.heap.size (stL ns h 0) (.slice none 0 0) W)) := fun W hW => by
  have := sets_any (B := B) (N := w.heap.size) (s := s) (b := b) (O := O) (vars := vars) (room := (room : Int)) hF.good.ranked (by omega) (fun k hk => (hF.space.own k hk).2) hF.space.slt 24 W (hF.space.new hW) hW.size h hh (by have := (topOf_le hF.good.ranked h).1; omega) 0 (by decide) [] (by decide) none 0 (World.ownsRow_nil _ _ _ _)
  exact this
 have HOUT : Hid (∀ (L : List Nat) (a : Option Addr) (c : Nat) (e : Ending) (w' : World), e = .returned (.tuple #[.slice a L.length c, .nilIface]) -> UArg w' (.slice a L.length c) L -> L.Pairwise (· < ·) -> (∀ x, x ∈ L ↔ x ∈ stL ns h 0) -> L.length = (stL ns h 0).length -> Below w.heap.size w w' -> ListOut ns h w e w') := fun L a c e w' h1 h2 h3 h4 h5 h6 => ⟨L, a, c, h1, fun W hW => h2.below hW, h3, fun x => (h4 x).trans (HMM.out x), by rw [h5, hln], h6⟩
 unfold SetsOut at HST
 generalize stL ns h 0 = l at *
 clear hF hh hm hlen hln HMM
 go_enter Try.func12, Try.ntmps12
 go_wp2_with fail
 refine HL.out.mono ?_
 rintro e w1 ⟨rfl, hb1⟩
 clear HL
 go_wp2_with fail
 refine (HST.out _ hb1).mono ?_
 rintro e w2 ⟨a2, c2, rfl, hrow, hk, -⟩
 have hb2 : Below w.heap.size w w2 := hb1.trans (hk.below hb1.size (fun i hi => by simp [Value.ownBlock] at hi))
 have HB2 := Lib.hid hb2
 by_cases hz : l = []
 ·subst hz
  have HS := Lib.hid (sort_zero a2 c2 w2)
  have HF := Lib.hid (HOUT.out [] a2 c2 _ w2 rfl ⟨a2, c2, rfl, fun i hi => absurd hi (Nat.not_lt_zero _)⟩ List.Pairwise.nil (fun x => Iff.rfl) rfl hb2)
  clear hrow hk hb2 HST HOUT hb1
  simp only [List.length_nil] at HF ⊢
  go_wp2_with fail
  refine HS.out.mono ?_
  rintro e w3 ⟨rfl, rfl⟩
  clear HS
  go_wp2
  refine bodyPost_ret (v := .tuple #[.slice a2 0 c2, .nilIface]) (by simp [results, Try.results12, go_sem]) rfl HF.out
 ·have hpos : 0 < l.length := by cases l <;> simp_all
  obtain ⟨g, rfl, hU, -, -⟩ := row_u hrow hpos
  have HS := Lib.hid (sort_any g c2 l HND.out hpos (by omega) w2 (UR.of_row hrow))
  have HGE : Hid (w.heap.size <= g) := (hrow.lt g rfl).1
  clear hrow hk hb2 HST hU hb1 hz
  go_wp2_with fail
  refine HS.out.mono ?_
  rintro e w3 ⟨L, rfl, hL, hU3, h3, h4, hK⟩
  have HF := Lib.hid (HOUT.out L (some ⟨g, 0, none⟩) c2 _ w3 rfl (UArg.of_ur hU3) h3 h4 hL (HB2.out.trans (hK.below HB2.out.size (fun i e => by rw [e]; exact HGE.out))))
  rw [hL] at HF
  clear hU3 h3 h4 hK HS HOUT hL
  go_wp2
  refine bodyPost_ret (v := .tuple #[.slice (some ⟨g, 0, none⟩) l.length c2, .nilIface]) (by simp [results, Try.results12, go_sem]) rfl HF.out
end
end Go.Proofs.Ytbklgjmkdhinpaa.Fm
