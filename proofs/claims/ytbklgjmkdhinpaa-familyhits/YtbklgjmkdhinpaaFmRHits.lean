/- The reference's Hits: all sets are tried. -/
import Derived.Test.YtbklgjmkdhinpaaFmList
import Derived.Test.YtbklgjmkdhinpaaSrPdq
import Derived.Test.YtbklgjmkdhinpaaFmSameU
import Derived.Test.YtbklgjmkdhinpaaFmRLeast
import Derived.Test.YtbklgjmkdhinpaaFmOps
set_option maxHeartbeats 4000000
set_option maxRecDepth 100000
namespace Go.Proofs.Ytbklgjmkdhinpaa.Fm
open Go.RowKit Go.Maps Go.Proofs.Ytbklgjmkdhinpaa.Bd Go.Sort Go.Proofs.Ytbklgjmkdhinpaa.Sr
theorem allS_nodup : ∀ (n v : Nat), (allS n v).Nodup
 | 0, v => by unfold allS; simp
 | n + 1, v => by
  have low : ∀ y ∈ allS n (v + 1), y.testBit v = false := fun y hy => allS_low n (v + 1) y hy v (by omega)
  rw [allS_succ, List.nodup_append]
  refine ⟨allS_nodup n (v + 1), ?_, fun x hx y hy e => ?_⟩
  ·refine (List.pairwise_map.2 ?_ : List.Nodup _)
   refine (allS_nodup n (v + 1)).imp_of_mem ?_
   intro x y hx hy hne e
   rw [or_bit_free (low x hx), or_bit_free (low y hy)] at e
   have e2 : (x ^^^ 2 ^ v) ^^^ 2 ^ v = (y ^^^ 2 ^ v) ^^^ 2 ^ v := by rw [e]
   rw [Nat.xor_assoc, Nat.xor_self, Nat.xor_zero, Nat.xor_assoc, Nat.xor_self, Nat.xor_zero] at e2
   exact hne e2
  ·subst e
   obtain ⟨z, hz, rfl⟩ := List.mem_map.1 hy
   have := low _ hx
   rw [Nat.testBit_or, Nat.testBit_two_pow] at this
   simp at this
theorem stL_nodup {vars : Nat} {ns : List Nd} (hg : Good vars ns) (hv : vars <= 24) {h : Int} (hh : hasB ns h = true) : (stL ns h 0).Nodup := by
 rw [stL_all hg hv hh]; exact (allS_nodup vars 0).filter _
theorem allS_mem : ∀ (n v x : Nat), (∀ i, i < v \/ v + n <= i -> x.testBit i = false) -> x ∈ allS n v
 | 0, v, x, h => by
  have : x = 0 := Nat.eq_of_testBit_eq fun i => by rw [Nat.zero_testBit]; exact h i (by omega)
  subst this; unfold allS; simp
 | n + 1, v, x, h => by
  rw [allS_succ, List.mem_append]
  cases hb : x.testBit v with
  | false => exact .inl (allS_mem n (v + 1) x (fun i hi => by
    by_cases e : i = v
    ·subst e; exact hb
    ·exact h i (by omega)))
  | true =>
   refine .inr (List.mem_map.2 ⟨x ^^^ 2 ^ v, allS_mem n (v + 1) _ (fun i hi => ?_), ?_⟩)
   ·rw [Nat.testBit_xor, Nat.testBit_two_pow]
    by_cases e : i = v
    ·subst e; simp [hb]
    ·have := h i (by omega)
     simp [this]; omega
   ·have hf : (x ^^^ 2 ^ v).testBit v = false := by rw [Nat.testBit_xor, Nat.testBit_two_pow]; simp [hb]
    rw [or_bit_free hf, Nat.xor_assoc, Nat.xor_self, Nat.xor_zero]
theorem stL_mem {vars : Nat} {ns : List Nd} (hg : Good vars ns) (hv : vars <= 24) {h : Int} (hh : hasB ns h = true) (x : Nat) : x ∈ stL ns h 0 ↔ In ns h x := by
 rw [stL_all hg hv hh, List.mem_filter]
 constructor
 ·exact fun h => h.2
 ·intro hi
  refine ⟨allS_mem vars 0 x (fun i hi2 => ?_), hi⟩
  rcases hi2 with h | h
  ·omega
  ·cases hb : x.testBit i with
   | false => rfl
   | true => have := in_lt hg hi hb; omega
def castA (l : List Nat) : Array Int := (l.map fun x : Nat => (x : Int)).toArray
theorem castA_size (l : List Nat) : (castA l).size = l.length := by simp [castA]
theorem castA_at (l : List Nat) (i : Nat) (h : i < l.length) : (castA l)[i]! = ((l.getD i 0 : Nat) : Int) := by
 unfold castA
 rw [getElem!_pos _ i (by simpa using h)]
 simp [List.getD_eq_getElem?_getD, List.getElem?_eq_getElem h]
theorem sorted_list {l : List Nat} {d' : Array Int} (hn : l.Nodup) (hp : PermIn 0 l.length (castA l) d') (hs : SortedIn ltInt 0 l.length d') :
  ∃ L : List Nat, L.length = l.length /\ d' = castA L /\ L.Pairwise (· < ·) /\ ∀ x, x ∈ L ↔ x ∈ l := by
 have hsz : d'.size = l.length := hp.1.trans (castA_size l)
 have h3 := hp.2.2
 have e1 : d'.extract 0 l.length = d' := by rw [<- hsz]; exact Array.extract_size
 have e2 : (castA l).extract 0 l.length = castA l := by rw [<- castA_size l]; exact Array.extract_size
 rw [e1, e2] at h3
 have hperm : d'.toList.Perm (l.map fun x : Nat => (x : Int)) := h3
 refine ⟨d'.toList.map Int.toNat, by simp [hsz], ?_, ?_, ?_⟩
 ·unfold castA
  rw [List.map_map]
  have : d'.toList.map ((fun x : Nat => (x : Int)) ∘ Int.toNat) = d'.toList := by
   conv => rhs; rw [<- List.map_id d'.toList]
   apply List.map_congr_left
   intro x hx
   obtain ⟨y, _, rfl⟩ := List.mem_map.1 (hperm.mem_iff.1 hx)
   simp
  rw [this]
 ·have hnd : d'.toList.Nodup := hperm.symm.nodup (List.pairwise_map.2 (hn.imp (fun {a b} h e => h (by have : (a : Int) = (b : Int) := e; omega))))
  rw [List.pairwise_map, List.pairwise_iff_getElem]
  intro i j hi hj hij
  have hi' : i < d'.size := by simpa using hi
  have hj' : j < d'.size := by simpa using hj
  have h1 := hs i j (Nat.zero_le _) hij (by omega)
  rw [getElem!_pos _ j hj', getElem!_pos _ i hi'] at h1
  have h2 : ¬ d'[j] < d'[i] := by simpa [ltInt] using h1
  have h4 : d'[i] ≠ d'[j] := by
   have := List.pairwise_iff_getElem.1 hnd i j hi hj hij
   simpa using this
  have n1 : 0 <= d'[i] := by
   obtain ⟨y, _, e⟩ := List.mem_map.1 (hperm.mem_iff.1 (show d'[i] ∈ d'.toList by simp))
   omega
  show (d'.toList[i]).toNat < (d'.toList[j]).toNat
  simp only [Array.getElem_toList]
  omega
 ·intro x
  rw [List.mem_map]
  constructor
  ·rintro ⟨y, hy, rfl⟩
   obtain ⟨z, hz, rfl⟩ := List.mem_map.1 (hperm.mem_iff.1 hy)
   simpa using hz
  ·intro hx
   exact ⟨(x : Int), hperm.mem_iff.2 (List.mem_map.2 ⟨x, hx, rfl⟩), by simp⟩
theorem sort_any (g cap : Nat) (l : List Nat) (hn : l.Nodup) (h1 : 0 < l.length) (h2 : l.length < 256) (w : World) (h : UR w g (castA l)) :
  Calls Try.prog 37 #[.slice (some ⟨g, 0, none⟩) l.length cap] w fun e w' => ∃ L : List Nat, e = .returned (.tuple #[]) /\ L.length = l.length /\ UR w' g (castA L) /\ L.Pairwise (· < ·) /\ (∀ x, x ∈ L ↔ x ∈ l) /\ KG g w w' := by
 have HB := Lib.hid (Try.bits_Len (l.length : Int) w (by omega) (by omega))
 have hbl : (Lib.bitLen ((l.length : Int)).toNat) = bitsLen l.length := by rw [Int.toNat_natCast]; exact bitLen_fin ⟨_, h2⟩
 have hk : bitsLen l.length <= 1000 := by
  have := two_pow_bitsLen_le h1
  have h3 : 2 ^ bitsLen l.length < 2 ^ 10 := by omega
  have := (Nat.pow_lt_pow_iff_right (by decide)).1 h3
  omega
 rw [hbl] at HB
 have HP := Lib.hid (pdq_any g cap l.length h2 (l.length + 1) 0 l.length (bitsLen l.length) (castA l) w (by omega) h (castA_size l) (Nat.zero_le _) (Nat.le_refl _) (Or.inl rfl) hk)
 unfold PdqOut at HP
 generalize bitsLen l.length = k at *
 have w1 : IntKind.u64.wrap (l.length : Int) = (l.length : Int) := IntWalk.u64_in _ ⟨by omega, by omega⟩
 have HN := Lib.hid hn
 clear h hn hbl
 go_enter Try.func37, Try.ntmps37
 go_wp2_with fail
 refine HB.out.mono ?_
 rintro e w' ⟨rfl, rfl⟩
 go_wp2_with fail
 refine HP.out.mono ?_
 rintro e w2 ⟨d', rfl, hd, hU, hPm, hS, hK⟩
 obtain ⟨L, e1, rfl, e3, e4⟩ := sorted_list HN.out hPm hS
 have HF : Hid (∃ L' : List Nat, L'.length = l.length /\ UR w2 g (castA L') /\ L'.Pairwise (· < ·) /\ (∀ x, x ∈ L' ↔ x ∈ l) /\ KG g w' w2) := ⟨L, e1, hU, e3, e4, hK⟩
 clear HP hd hU hPm hS hK e1 e3 e4 HB
 go_wp2
 first | refine bodyPost_end (v := .tuple #[]) (by first | simp [results, go_sem] | simp [results, Try.results37, go_sem]) rfl ?_ | refine bodyPost_ret (v := .tuple #[]) (by first | simp [results, go_sem] | simp [results, Try.results37, go_sem]) rfl ?_
 obtain ⟨L', h⟩ := HF.out
 first | exact ⟨rfl, L', h⟩ | exact ⟨L', rfl, h⟩
theorem ins_zero (a : Option Addr) (c : Nat) (w : World) : Calls Try.prog 88 #[.slice a 0 c, .int .i64 0, .int .i64 0] w fun e w' => e = .returned (.tuple #[]) /\ w' = w := by
 go_enter Try.func88, Try.ntmps88
 go_wp2_with fail
 refine wp_loop_rounds 1 ?_
 rw [rounds_succ]
 go_wp2
 first | refine bodyPost_end (v := .tuple #[]) (by first | simp [results, go_sem] | simp [results, Try.results88, go_sem]) rfl ?_ | refine bodyPost_ret (v := .tuple #[]) (by first | simp [results, go_sem] | simp [results, Try.results88, go_sem]) rfl ?_
 exact ⟨rfl, rfl⟩
theorem pdq_zero (a : Option Addr) (c : Nat) (k : Int) (w : World) : Calls Try.prog 62 #[.slice a 0 c, .int .i64 0, .int .i64 0, .int .i64 k] w fun e w' => e = .returned (.tuple #[]) /\ w' = w := by
 have HI := Lib.hid (ins_zero a c w)
 go_enter Try.func62, Try.ntmps62
 go_wp2_with fail
 refine wp_loop_rounds 1 ?_
 rw [rounds_succ]
 go_wp2_with fail
 refine HI.out.mono ?_
 rintro e w' ⟨rfl, rfl⟩
 go_wp2
 first | refine bodyPost_ret (v := .tuple #[]) (by first | simp [results, go_sem] | simp [results, Try.results62, go_sem]) rfl ?_ | refine bodyPost_end (v := .tuple #[]) (by first | simp [results, go_sem] | simp [results, Try.results62, go_sem]) rfl ?_
 exact ⟨rfl, rfl⟩
theorem sort_zero (a : Option Addr) (c : Nat) (w : World) : Calls Try.prog 37 #[.slice a 0 c] w fun e w' => e = .returned (.tuple #[]) /\ w' = w := by
 have HB := Lib.hid (Try.bits_Len 0 w (by omega) (by omega))
 have HP := Lib.hid (pdq_zero a c (Lib.bitLen ((0 : Int)).toNat) w)
 generalize Lib.bitLen ((0 : Int)).toNat = k at *
 go_enter Try.func37, Try.ntmps37
 go_wp2_with fail
 refine HB.out.mono ?_
 rintro e w' ⟨rfl, rfl⟩
 go_wp2_with fail
 refine HP.out.mono ?_
 rintro e w2 ⟨rfl, rfl⟩
 go_wp2
 first | refine bodyPost_end (v := .tuple #[]) (by first | simp [results, go_sem] | simp [results, Try.results37, go_sem]) rfl ?_ | refine bodyPost_ret (v := .tuple #[]) (by first | simp [results, go_sem] | simp [results, Try.results37, go_sem]) rfl ?_
 exact ⟨rfl, rfl⟩
section
variable {B s b : Nat} {O : Nat -> Prop} {vars room : Nat} {ns : List Nd}
def ListOut (ns : List Nd) (h : Int) (w : World) (e : Ending) (w' : World) : Prop := ∃ (L : List Nat) (a : Option Addr) (c : Nat), e = .returned (.tuple #[.slice a L.length c, .nilIface]) /\ (∀ W, Below w'.heap.size w' W -> UArg W (.slice a L.length c) L) /\ L.Pairwise (· < ·) /\ (∀ x, x ∈ L ↔ In ns h x) /\ L.length = nsN ns h /\ Below w.heap.size w w'
theorem UArg.of_ur {w : World} {g c : Nat} {L : List Nat} (h : UR w g (castA L)) : UArg w (.slice (some ⟨g, 0, none⟩) L.length c) L :=
 ⟨_, _, rfl, fun i hi => ⟨g, rfl, h.lt, by rw [h.cell i (by rw [castA_size]; exact hi), castA_at L i hi]⟩⟩
theorem UR.of_row {N g c : Nat} {w : World} {l : List Nat} (h : w.ownsRow N 50 1 (.slice (some ⟨g, 0, none⟩) l.length c) l.length (ucells l)) : UR w g (castA l) := by
 refine ⟨(h.lt g rfl).2, fun j hj => ?_, fun j hj => ?_⟩
 ·rw [castA_size] at hj
  have := h.cellAt j (by omega)
  rw [ucells_at l j hj] at this
  rw [castA_at l j hj]; exact this
 ·obtain ⟨g', cap, cur, e, h2, h3, h4⟩ := h.2.resolve_left (fun e => by simp at e)
  cases e
  exact Blk.frozen (W := w) (b := g) (t := 50) (cs := cur) h3 j
theorem list_any (w : World) (hF : FamAt B w s b O vars room ns) (hv6 : vars <= 6) (h : Int) (hh : hasB ns h = true) (most : Int) (hm : (nsN ns h : Int) <= most) :
  Calls Try.prog 12 #[.pointer (some ⟨s, 0, none⟩), .int .i64 h, .int .i64 most] w (ListOut ns h w) := by
 have HL := Lib.hid (listed_yes w hF h hh most hm)
 have hlen := hF.len
 have hln : nsN ns h = (stL ns h 0).length := nsN_len ns h 0
 have hl6 : (stL ns h 0).length <= 64 := by
  have := nsN_vars hF.good hF.v24 hh
  have p6 : 2 ^ vars <= 64 := Nat.pow_le_pow_right (n := 2) (by omega) hv6
  omega
 have HND := Lib.hid (stL_nodup hF.good hF.v24 hh)
 have HMM : Hid (∀ x, x ∈ stL ns h 0 ↔ In ns h x) := fun x => stL_mem hF.good hF.v24 hh x
 have HST : Hid (∀ W, Below w.heap.size w W -> Calls Try.prog 36 #[.pointer (some ⟨s, 0, none⟩), .int .i64 h, .int .u64 0, .slice none 0 0] W (SetsOut w.heap.size (stL ns h 0) (.slice none 0 0) W)) := fun W hW => by
  have := sets_any (B := B) (N := w.heap.size) (s := s) (b := b) (O := O) (vars := vars) (room := (room : Int)) hF.good.ranked (by omega) (fun k hk => (hF.space.own k hk).2) hF.space.slt 24 W (hF.space.new hW) hW.size h hh (by have := (topOf_le hF.good.ranked h).1; omega) 0 (by decide) [] (by decide) none 0 (World.ownsRow_nil _ _ _ _)
  exact this
 have HOUT : Hid (∀ (L : List Nat) (a : Option Addr) (c : Nat) (e : Ending) (w' : World), e = .returned (.tuple #[.slice a L.length c, .nilIface]) -> UArg w' (.slice a L.length c) L -> L.Pairwise (· < ·) -> (∀ x, x ∈ L ↔ x ∈ stL ns h 0) -> L.length = (stL ns h 0).length -> Below w.heap.size w w' -> ListOut ns h w e w') := fun L a c e w' h1 h2 h3 h4 h5 h6 => ⟨L, a, c, h1, fun W hW => h2.below hW, h3, fun x => (h4 x).trans (HMM.out x), by rw [h5, hln], h6⟩
 unfold SetsOut at HST
 generalize stL ns h 0 = l at *
 clear hF hh hm hlen hln HMM
 go_enter Try.func12, Try.ntmps12
 go_wp2_with fail
 refine HL.out.mono ?_
 rintro e w1 ⟨rfl, hb1⟩
 clear HL
 go_wp2_with fail
 refine (HST.out _ hb1).mono ?_
 rintro e w2 ⟨a2, c2, rfl, hrow, hk, -⟩
 have hb2 : Below w.heap.size w w2 := hb1.trans (hk.below hb1.size (fun i hi => by simp [Value.ownBlock] at hi))
 have HB2 := Lib.hid hb2
 by_cases hz : l = []
 ·subst hz
  have HS := Lib.hid (sort_zero a2 c2 w2)
  have HF := Lib.hid (HOUT.out [] a2 c2 _ w2 rfl ⟨a2, c2, rfl, fun i hi => absurd hi (Nat.not_lt_zero _)⟩ List.Pairwise.nil (fun x => Iff.rfl) rfl hb2)
  clear hrow hk hb2 HST HOUT hb1
  simp only [List.length_nil] at HF ⊢
  go_wp2_with fail
  refine HS.out.mono ?_
  rintro e w3 ⟨rfl, rfl⟩
  clear HS
  go_wp2
  refine bodyPost_ret (v := .tuple #[.slice a2 0 c2, .nilIface]) (by simp [results, Try.results12, go_sem]) rfl HF.out
 ·have hpos : 0 < l.length := by cases l <;> simp_all
  obtain ⟨g, rfl, hU, -, -⟩ := row_u hrow hpos
  have HS := Lib.hid (sort_any g c2 l HND.out hpos (by omega) w2 (UR.of_row hrow))
  have HGE : Hid (w.heap.size <= g) := (hrow.lt g rfl).1
  clear hrow hk hb2 HST hU hb1 hz
  go_wp2_with fail
  refine HS.out.mono ?_
  rintro e w3 ⟨L, rfl, hL, hU3, h3, h4, hK⟩
  have HF := Lib.hid (HOUT.out L (some ⟨g, 0, none⟩) c2 _ w3 rfl (UArg.of_ur hU3) h3 h4 hL (HB2.out.trans (hK.below HB2.out.size (fun i e => by rw [e]; exact HGE.out))))
  rw [hL] at HF
  clear hU3 h3 h4 hK HS HOUT hL
  go_wp2
  refine bodyPost_ret (v := .tuple #[.slice (some ⟨g, 0, none⟩) l.length c2, .nilIface]) (by simp [results, Try.results12, go_sem]) rfl HF.out
end
end Go.Proofs.Ytbklgjmkdhinpaa.Fm
namespace Go.Proofs.Ytbklgjmkdhinpaa.Fm
open Go.RowKit Go.Maps Go.Proofs.Ytbklgjmkdhinpaa.Bd
def meetB (y x : Nat) : Bool := (bits .and .u64 (y : Int) (x : Int)) != 0
theorem meetB_iff {y x : Nat} (hy : y < 64) (hx : x < 64) : meetB y x = true ↔ ∃ i, x.testBit i = true /\ y.testBit i = true := by
 unfold meetB
 rw [bits_and_u64_nat y x (by omega) (by omega)]
 have e : ((((y &&& x : Nat) : Int) != 0) = true) ↔ (y &&& x) ≠ 0 := by
  rw [bne_iff_ne]; omega
 rw [e]
 constructor
 ·intro h
  apply Classical.byContradiction
  intro hn
  apply h
  apply Nat.eq_of_testBit_eq; intro i
  rw [Nat.testBit_and, Nat.zero_testBit]
  cases h1 : y.testBit i with
  | false => rfl
  | true =>
   cases h2 : x.testBit i with
   | false => rfl
   | true => exact absurd ⟨i, h2, h1⟩ hn
 ·rintro ⟨i, h1, h2⟩ h0
  have : (y &&& x).testBit i = true := by rw [Nat.testBit_and, h1, h2]; rfl
  rw [h0, Nat.zero_testBit] at this; cases this
theorem hits_small {vars : Nat} {S : Nat -> Prop} (hS : ∀ y, S y -> ∀ i, y.testBit i = true -> i < vars) (x : Nat) : leastP (fun x => x < 2 ^ vars /\ HitsAll S x) x ↔ opP .hits S (fun _ => False) x := by
 show (( x < 2 ^ vars /\ HitsAll S x) /\ ∀ y, (y < 2 ^ vars /\ HitsAll S y) -> Sub y x -> y = x) ↔ (HitsAll S x /\ ∀ z, HitsAll S z -> Sub z x -> z = x)
 constructor
 ·rintro ⟨⟨h0, h1⟩, h2⟩
  exact ⟨h1, fun z hz hs => h2 z ⟨Nat.lt_of_le_of_lt hs.le h0, hz⟩ hs⟩
 ·rintro ⟨h1, h2⟩
  have hsub : Sub (x % 2 ^ vars) x := fun i hi => by
   rw [Nat.testBit_mod_two_pow] at hi
   simp at hi; exact hi.2
  have hh : HitsAll S (x % 2 ^ vars) := fun y hy => by
   obtain ⟨i, i1, i2⟩ := h1 y hy
   exact ⟨i, by rw [Nat.testBit_mod_two_pow, i1]; simp [hS y hy i i2], i2⟩
  have e := h2 _ hh hsub
  refine ⟨⟨?_, h1⟩, fun y hy hs => h2 y hy.2 hs⟩
  rw [<- e]; exact Nat.mod_lt _ (Nat.two_pow_pos _)
section
variable {S : Nat -> Prop}
def HOutR (w : World) (g : Nat) (S : Nat -> Prop) (x : Nat) (wq : World) : Prop := FM wq g (fun y => y < x /\ HitsAll S y) /\ Below w.heap.size w wq
def HInR (w : World) (b g r x : Nat) (S : Nat -> Prop) (v : Value) (wq : World) : Prop := ∃ (L : Bool) (R : Nat -> Prop) (cnt : Nat), v = .bool L /\ RM wq b r S R cnt /\ (L = true ↔ ∀ y, S y -> ¬ R y -> ∃ i, x.testBit i = true /\ y.testBit i = true) /\ FM wq g (fun y => y < x /\ HitsAll S y) /\ Below w.heap.size w wq
theorem rhits_any (vars : Nat) (hv6 : vars <= 6) (w : World) (b : Nat) (h : FM w b S) (hS : ∀ x, S x -> x < 2 ^ vars) :
  Calls Try.prog 13 #[.map (some b), .int .i64 (vars : Int)] w fun e w' => ∃ g, e = .returned (.map (some g)) /\ FM w' g (opP .hits S (fun _ => False)) /\ w.heap.size <= g /\ Below w.heap.size w w' := by
 have p6 : 2 ^ vars <= 64 := Nat.pow_le_pow_right (n := 2) (by omega) hv6
 have HSB : Hid (∀ y, S y -> ∀ i, y.testBit i = true -> i < vars) := fun y hy i hi => by
  apply Classical.byContradiction
  intro hn
  rw [Nat.testBit_lt_two_pow (Nat.lt_of_lt_of_le (hS y hy) (Nat.pow_le_pow_right (n := 2) (by omega) (by omega)))] at hi
  cases hi
 have HIFF := Lib.hid (fun x => hits_small HSB.out x)
 obtain ⟨P, hP⟩ : ∃ P, P = 2 ^ vars := ⟨_, rfl⟩
 have e2 : (2 : Int) ^ vars = (P : Int) := by rw [hP]; simp
 rw [<- hP] at p6 hS HIFF
 have w2 : IntKind.u64.wrap ((2 : Int) ^ vars) = (P : Int) := by rw [e2]; exact IntWalk.u64_in _ ⟨by omega, by omega⟩
 have hbl := h.lt
 have h1 := h.below (below_new w (.map #[] 0))
 have hg0 := FM.made w
 have hmm := @run_makeMap Try.prog
 have HS := Lib.hid hS
 have HFB := Lib.hid h
 have HST : Hid (HOutR w w.heap.size S 0 (w.alloc (.map #[] 0))) := ⟨hg0.congr (fun x => ⟨fun h => h.elim, fun h => absurd h.1 (Nat.not_lt_zero _)⟩), below_new w _⟩
 clear h hS h1 hg0 e2 hP
 go_enter Try.func13, Try.ntmps13
 go_wp2_with fail
 go_loopw [12] (fun xV wq => ∃ x : Nat, xV = .int .u64 (x : Int) /\ x <= P /\ HOutR w w.heap.size S x wq) (fun xV _ => P - (intOf xV).toNat)
 case atStart => exact ⟨0, rfl, Nat.zero_le _, HST.out⟩
 case round =>
  obtain ⟨w0, hw0⟩ : ∃ w0, w0 = wr := ⟨_, rfl⟩
  subst hw0
  obtain ⟨x, rfl, hxP, hfm, hb2⟩ := hrel
  have HFM := Lib.hid hfm
  have HB2 := Lib.hid hb2
  clear HST hmm
  by_cases hlt : x < P
  ·have i1 : (x : Int) < (P : Int) := by omega
   have hf1 := HFB.out.below hb2
   obtain ⟨r, hr⟩ : ∃ r, w0.heap.size = r := ⟨_, rfl⟩
   have hws := hb2.size
   clear hfm hb2
   go_wp2_with (at_range; refine wp_range_fam' _ rfl _ rfl b r hr S rfl hf1 ?_; intro w6 cnt6 hrm6 hg6 hs6)
   try go_frame
   have hlg : w.heap.size < r := by have := HFM.out.lt; omega
   have HIN : Hid (HInR w b w.heap.size r x S (.bool true) w6) := ⟨true, S, cnt6, rfl, hrm6, ⟨fun _ y h1 h2 => (h2 h1).elim, fun _ => rfl⟩, HFM.out.grown hg6 (by simp), HB2.out.trans (grown_none hg6 hws)⟩
   clear hrm6 hg6 hs6 hf1 HFM HB2
   go_loopw [7, 8] (fun v _ wq => HInR w b w.heap.size r x S v wq) (fun _ _ wq => wq.rangeLeft b r)
   case atStart => exact HIN.out
   case round =>
    obtain ⟨L, R, cnt, rfl, hrm, hL, hfm1, hb1⟩ := hrel
    have HFM1 := Lib.hid hfm1
    have HB1 := Lib.hid hb1
    have HL := Lib.hid hL
    have HRM := Lib.hid hrm
    clear HIN hL hfm1 hb1
    go_wp2_with (at_next; refine wp_next_fam _ rfl _ rfl b r S R cnt rfl hrm ?_ ?_)
    ·intro hall
     have HL2 : Hid (L = true ↔ HitsAll S x) := HL.out.trans ⟨fun h y hy => h y hy (hall y), fun h y hy _ => h y hy⟩
     clear hall hrm HL HRM
     have wx1 : IntKind.u64.wrap ((x : Int) + 1) = ((x + 1 : Nat) : Int) := by rw [IntKind.wrap_u64]; omega
     cases L with
     | false =>
      have HREL : Hid (HOutR w w.heap.size S (x + 1) wr) := ⟨HFM1.out.congr (fun y => ⟨fun h => ⟨by omega, h.2⟩, fun h => ⟨by
       by_cases e : y = x
       ·subst e; exact absurd (HL2.out.2 h.2) (by decide)
       ·omega, h.2⟩⟩), HB1.out⟩
      clear HFM1 HB1 HL2
      go_wp2
      go_roundw
      case rel => first | exact ⟨x + 1, by first | rfl | go_num | (congr 1; omega), by omega, HREL.out⟩ | ((repeat apply Exists.intro); exact ⟨⟨x + 1, by first | rfl | go_num | (congr 1; omega), by omega, HREL.out⟩, rfl⟩)
      case measure => first | (simp [intOf]; done) | (simp [intOf]; omega)
     | true =>
      obtain ⟨w8, hput, hfm8, hg8⟩ := HFM1.out.put (fun y hy => by omega) (x := x) (show UOk x by unfold UOk; omega)
      have hb8 := HB1.out.trans (grown_below hg8 (Nat.le_refl _) HB1.out.size)
      have HREL : Hid (HOutR w w.heap.size S (x + 1) w8) := ⟨hfm8.congr (fun y => by
       constructor
       ·rintro (h | rfl)
        ·exact ⟨by omega, h.2⟩
        ·exact ⟨by omega, HL2.out.1 rfl⟩
       ·intro h
        by_cases e : y = x
        ·exact .inr e
        ·exact .inl ⟨by omega, h.2⟩), hb8⟩
      clear HFM1 HB1 HL2 hfm8 hg8 hb8
      go_wp2
      go_roundw
      case rel => first | exact ⟨x + 1, by first | rfl | go_num | (congr 1; omega), by omega, HREL.out⟩ | ((repeat apply Exists.intro); exact ⟨⟨x + 1, by first | rfl | go_num | (congr 1; omega), by omega, HREL.out⟩, rfl⟩)
      case measure => first | (simp [intOf]; done) | (simp [intOf]; omega)
    ·intro y w7 cnt7 hRy hSy hyo hrm7 hlt7 hg7 hs7 hen
     have hy64 := HS.out y hSy
     have hfm1' := HFM1.out.grown hg7 (by simp; omega)
     have hb1' := HB1.out.trans (grown_below hg7 (by omega) HB1.out.size)
     have HLT7 : Hid (w7.rangeLeft b r < wr.rangeLeft b r) := by rw [HRM.out.left_eq, hrm7.left_eq]; exact hlt7
     have hmb := meetB_iff (show y < 64 by omega) (show x < 64 by omega)
     have HFIN : Hid (∀ M : Bool, (M = true ↔ ∃ i, x.testBit i = true /\ y.testBit i = true) -> HInR w b w.heap.size r x S (.bool (L && M)) w7) := fun M hM => ⟨L && M, _, cnt7, rfl, hrm7, by
      rw [Bool.and_eq_true, HL.out, hM]
      constructor
      ·rintro ⟨h1, h2⟩ z hz hn
       by_cases e : z = y
       ·subst e; exact h2
       ·exact h1 z hz (fun h => hn ⟨h, e⟩)
      ·intro h
       exact ⟨fun z hz hn => h z hz (fun k => hn k.1), h y hSy (fun k => k.2 rfl)⟩, hfm1', hb1'⟩
     clear hRy hSy hyo hrm7 hlt7 hg7 hs7 hfm1' hb1' HL HFM1 HB1 HRM hrm
     cases L with
     | false =>
      clear hmb
      obtain ⟨M, hM⟩ : ∃ M : Bool, M = true ↔ ∃ i, x.testBit i = true /\ y.testBit i = true := ⟨@decide _ (Classical.propDecidable _), @decide_eq_true_iff _ (Classical.propDecidable _)⟩
      have HF2 := Lib.hid (HFIN.out M hM)
      clear HFIN hM
      go_wp2
      go_roundw
      case rel => first | exact HF2.out | ((repeat apply Exists.intro); exact ⟨HF2.out, rfl⟩)
      case measure => exact HLT7.out
     | true =>
      have HF2 := Lib.hid (HFIN.out (meetB y x) hmb)
      have hmd : (bits .and .u64 (y : Int) (x : Int) != 0) = meetB y x := rfl
      clear HFIN hmb
      generalize meetB y x = M at *
      go_wp2
      go_roundw
      case rel => first | exact HF2.out | ((repeat apply Exists.intro); exact ⟨HF2.out, rfl⟩)
      case measure => exact HLT7.out
  ·obtain rfl : x = P := by omega
   have HRL := Lib.hid (rleast_any w0 w.heap.size (S := fun y => y < x /\ HitsAll S y) hfm (fun y hy => by omega))
   have i1 : ¬ (x : Int) < (x : Int) := by omega
   clear hfm hb2
   go_wp2_with fail
   refine HRL.out.mono ?_
   rintro e w9 ⟨g, rfl, hg9, hge, hb9⟩
   have HO : Hid (FM w9 g (opP .hits S (fun _ => False)) /\ w.heap.size <= g /\ Below w.heap.size w w9) := ⟨hg9.congr (fun y => HIFF.out y), Nat.le_trans HB2.out.size hge, HB2.out.trans (hb9.mono HB2.out.size)⟩
   clear hg9 hge hb9 HRL
   go_wp2
   go_ret
   exact ⟨g, rfl, HO.out⟩
end
end Go.Proofs.Ytbklgjmkdhinpaa.Fm
