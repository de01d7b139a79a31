/- In. -/
import Derived.Test.YtbklgjmkdhinpaaGreatDoorFmSameU
import Derived.Test.YtbklgjmkdhinpaaGreatDoorSrPdq
import Derived.Test.YtbklgjmkdhinpaaGreatDoorFmOneS
import Derived.WalkSmall
import Derived.Laws.BitsAllLaws
set_option maxHeartbeats 2000000
set_option maxRecDepth 100000
namespace Go.Proofs.YtbklgjmkdhinpaaGreatDoor.Fm
open Go.RowKit Go.Maps Go.Proofs.YtbklgjmkdhinpaaGreatDoor.Bd Go.Sort Go.Proofs.YtbklgjmkdhinpaaGreatDoor.Sr
theorem allS_nodup : ∀ (n v : Nat), (allS n v).Nodup
 | 0, v => by unfold allS; simp
 | n + 1, v => by
  have low : ∀ y ∈ allS n (v + 1), y.testBit v = false := fun y hy => allS_low n (v + 1) y hy v (by omega)
  rw [allS_succ, List.nodup_append]
  refine ⟨allS_nodup n (v + 1), ?_, fun x hx y hy e => ?_⟩
  ·refine (List.pairwise_map.2 ?_ : List.Nodup _)
   refine (allS_nodup n (v + 1)).imp_of_mem ?_
   intro x y hx hy hne e
   rw [or_bit_free (low x hx), or_bit_free (low y hy)] at e
   have e2 : (x ^^^ 2 ^ v) ^^^ 2 ^ v = (y ^^^ 2 ^ v) ^^^ 2 ^ v := by rw [e]
   rw [Nat.xor_assoc, Nat.xor_self, Nat.xor_zero, Nat.xor_assoc, Nat.xor_self, Nat.xor_zero] at e2
   exact hne e2
  ·subst e
   obtain ⟨z, hz, rfl⟩ := List.mem_map.1 hy
   have := low _ hx
   rw [Nat.testBit_or, Nat.testBit_two_pow] at this
   simp at this
theorem stL_nodup {vars : Nat} {ns : List Nd} (hg : Good vars ns) (hv : vars <= 24) {h : Int} (hh : hasB ns h = true) : (stL ns h 0).Nodup := by
 rw [stL_all hg hv hh]; exact (allS_nodup vars 0).filter _
theorem allS_mem : ∀ (n v x : Nat), (∀ i, i < v \/ v + n <= i -> x.testBit i = false) -> x ∈ allS n v
 | 0, v, x, h => by
  have : x = 0 := Nat.eq_of_testBit_eq fun i => by rw [Nat.zero_testBit]; exact h i (by omega)
  subst this; unfold allS; simp
 | n + 1, v, x, h => by
  rw [allS_succ, List.mem_append]
  cases hb : x.testBit v with
  | false => exact .inl (allS_mem n (v + 1) x (fun i hi => by
    by_cases e : i = v
    ·subst e; exact hb
    ·exact h i (by omega)))
  | true =>
   refine .inr (List.mem_map.2 ⟨x ^^^ 2 ^ v, allS_mem n (v + 1) _ (fun i hi => ?_), ?_⟩)
   ·rw [Nat.testBit_xor, Nat.testBit_two_pow]
    by_cases e : i = v
    ·subst e; simp [hb]
    ·have := h i (by omega)
     simp [this]; omega
   ·have hf : (x ^^^ 2 ^ v).testBit v = false := by rw [Nat.testBit_xor, Nat.testBit_two_pow]; simp [hb]
    rw [or_bit_free hf, Nat.xor_assoc, Nat.xor_self, Nat.xor_zero]
theorem stL_mem {vars : Nat} {ns : List Nd} (hg : Good vars ns) (hv : vars <= 24) {h : Int} (hh : hasB ns h = true) (x : Nat) : x ∈ stL ns h 0 ↔ In ns h x := by
 rw [stL_all hg hv hh, List.mem_filter]
 constructor
 ·exact fun h => h.2
 ·intro hi
  refine ⟨allS_mem vars 0 x (fun i hi2 => ?_), hi⟩
  rcases hi2 with h | h
  ·omega
  ·cases hb : x.testBit i with
   | false => rfl
   | true => have := in_lt hg hi hb; omega
def castA (l : List Nat) : Array Int := (l.map fun x : Nat => (x : Int)).toArray
theorem castA_size (l : List Nat) : (castA l).size = l.length := by simp [castA]
theorem castA_at (l : List Nat) (i : Nat) (h : i < l.length) : (castA l)[i]! = ((l.getD i 0 : Nat) : Int) := by
 unfold castA
 rw [getElem!_pos _ i (by simpa using h)]
 simp [List.getD_eq_getElem?_getD, List.getElem?_eq_getElem h]
theorem sorted_list {l : List Nat} {d' : Array Int} (hn : l.Nodup) (hp : PermIn 0 l.length (castA l) d') (hs : SortedIn ltInt 0 l.length d') :
  ∃ L : List Nat, L.length = l.length /\ d' = castA L /\ L.Pairwise (· < ·) /\ ∀ x, x ∈ L ↔ x ∈ l := by
 have hsz : d'.size = l.length := hp.1.trans (castA_size l)
 have h3 := hp.2.2
 have e1 : d'.extract 0 l.length = d' := by rw [<- hsz]; exact Array.extract_size
 have e2 : (castA l).extract 0 l.length = castA l := by rw [<- castA_size l]; exact Array.extract_size
 rw [e1, e2] at h3
 have hperm : d'.toList.Perm (l.map fun x : Nat => (x : Int)) := h3
 refine ⟨d'.toList.map Int.toNat, by simp [hsz], ?_, ?_, ?_⟩
 ·unfold castA
  rw [List.map_map]
  have : d'.toList.map ((fun x : Nat => (x : Int)) ∘ Int.toNat) = d'.toList := by
   conv => rhs; rw [<- List.map_id d'.toList]
   apply List.map_congr_left
   intro x hx
   obtain ⟨y, _, rfl⟩ := List.mem_map.1 (hperm.mem_iff.1 hx)
   simp
  rw [this]
 ·have hnd : d'.toList.Nodup := hperm.symm.nodup (List.pairwise_map.2 (hn.imp (fun {a b} h e => h (by have : (a : Int) = (b : Int) := e; omega))))
  rw [List.pairwise_map, List.pairwise_iff_getElem]
  intro i j hi hj hij
  have hi' : i < d'.size := by simpa using hi
  have hj' : j < d'.size := by simpa using hj
  have h1 := hs i j (Nat.zero_le _) hij (by omega)
  rw [getElem!_pos _ j hj', getElem!_pos _ i hi'] at h1
  have h2 : ¬ d'[j] < d'[i] := by simpa [ltInt] using h1
  have h4 : d'[i] ≠ d'[j] := by
   have := List.pairwise_iff_getElem.1 hnd i j hi hj hij
   simpa using this
  have n1 : 0 <= d'[i] := by
   obtain ⟨y, _, e⟩ := List.mem_map.1 (hperm.mem_iff.1 (show d'[i] ∈ d'.toList by simp))
   omega
  show (d'.toList[i]).toNat < (d'.toList[j]).toNat
  simp only [Array.getElem_toList]
  omega
 ·intro x
  rw [List.mem_map]
  constructor
  ·rintro ⟨y, hy, rfl⟩
   obtain ⟨z, hz, rfl⟩ := List.mem_map.1 (hperm.mem_iff.1 hy)
   simpa using hz
  ·intro hx
   exact ⟨(x : Int), hperm.mem_iff.2 (List.mem_map.2 ⟨x, hx, rfl⟩), by simp⟩
theorem sort_any (g cap : Nat) (l : List Nat) (hn : l.Nodup) (h1 : 0 < l.length) (h2 : l.length < 256) (w : World) (h : UR w g (castA l)) :
  Calls Tryz.prog 28 #[.slice (some ⟨g, 0, none⟩) l.length cap] w fun e w' => ∃ L : List Nat, e = .returned (.tuple #[]) /\ L.length = l.length /\ UR w' g (castA L) /\ L.Pairwise (· < ·) /\ (∀ x, x ∈ L ↔ x ∈ l) /\ KG g w w' := by
 have HB := Lib.hid (Tryz.bits_Len (l.length : Int) w (by omega) (by omega))
 have hbl : (Lib.bitLen ((l.length : Int)).toNat) = bitsLen l.length := by rw [Int.toNat_natCast]; exact bitLen_fin ⟨_, h2⟩
 have hk : bitsLen l.length <= 1000 := by
  have := two_pow_bitsLen_le h1
  have h3 : 2 ^ bitsLen l.length < 2 ^ 10 := by omega
  have := (Nat.pow_lt_pow_iff_right (by decide)).1 h3
  omega
 rw [hbl] at HB
 have HP := Lib.hid (pdq_any g cap l.length h2 (l.length + 1) 0 l.length (bitsLen l.length) (castA l) w (by omega) h (castA_size l) (Nat.zero_le _) (Nat.le_refl _) (Or.inl rfl) hk)
 unfold PdqOut at HP
 generalize bitsLen l.length = k at *
 have w1 : IntKind.u64.wrap (l.length : Int) = (l.length : Int) := IntWalk.u64_in _ ⟨by omega, by omega⟩
 have HN := Lib.hid hn
 clear h hn hbl
 go_enter Tryz.func28, Tryz.ntmps28
 go_wp2_with fail
 refine HB.out.mono ?_
 rintro e w' ⟨rfl, rfl⟩
 go_wp2_with fail
 refine HP.out.mono ?_
 rintro e w2 ⟨d', rfl, hd, hU, hPm, hS, hK⟩
 obtain ⟨L, e1, rfl, e3, e4⟩ := sorted_list HN.out hPm hS
 have HF : Hid (∃ L' : List Nat, L'.length = l.length /\ UR w2 g (castA L') /\ L'.Pairwise (· < ·) /\ (∀ x, x ∈ L' ↔ x ∈ l) /\ KG g w' w2) := ⟨L, e1, hU, e3, e4, hK⟩
 clear HP hd hU hPm hS hK e1 e3 e4 HB
 go_wp2
 first | refine bodyPost_end (v := .tuple #[]) (by first | simp [results, go_sem] | simp [results, Tryz.results28, go_sem]) rfl ?_ | refine bodyPost_ret (v := .tuple #[]) (by first | simp [results, go_sem] | simp [results, Tryz.results28, go_sem]) rfl ?_
 obtain ⟨L', h⟩ := HF.out
 first | exact ⟨rfl, L', h⟩ | exact ⟨L', rfl, h⟩
theorem ins_zero (a : Option Addr) (c : Nat) (w : World) : Calls Tryz.prog 88 #[.slice a 0 c, .int .i64 0, .int .i64 0] w fun e w' => e = .returned (.tuple #[]) /\ w' = w := by
 go_enter Tryz.func88, Tryz.ntmps88
 go_wp2_with fail
 refine wp_loop_rounds 1 ?_
 rw [rounds_succ]
 go_wp2
 first | refine bodyPost_end (v := .tuple #[]) (by first | simp [results, go_sem] | simp [results, Tryz.results88, go_sem]) rfl ?_ | refine bodyPost_ret (v := .tuple #[]) (by first | simp [results, go_sem] | simp [results, Tryz.results88, go_sem]) rfl ?_
 exact ⟨rfl, rfl⟩
theorem pdq_zero (a : Option Addr) (c : Nat) (k : Int) (w : World) : Calls Tryz.prog 57 #[.slice a 0 c, .int .i64 0, .int .i64 0, .int .i64 k] w fun e w' => e = .returned (.tuple #[]) /\ w' = w := by
 have HI := Lib.hid (ins_zero a c w)
 go_enter Tryz.func57, Tryz.ntmps57
 go_wp2_with fail
 refine wp_loop_rounds 1 ?_
 rw [rounds_succ]
 go_wp2_with fail
 refine HI.out.mono ?_
 rintro e w' ⟨rfl, rfl⟩
 go_wp2
 first | refine bodyPost_ret (v := .tuple #[]) (by first | simp [results, go_sem] | simp [results, Tryz.results57, go_sem]) rfl ?_ | refine bodyPost_end (v := .tuple #[]) (by first | simp [results, go_sem] | simp [results, Tryz.results57, go_sem]) rfl ?_
 exact ⟨rfl, rfl⟩
theorem sort_zero (a : Option Addr) (c : Nat) (w : World) : Calls Tryz.prog 28 #[.slice a 0 c] w fun e w' => e = .returned (.tuple #[]) /\ w' = w := by
 have HB := Lib.hid (Tryz.bits_Len 0 w (by omega) (by omega))
 have HP := Lib.hid (pdq_zero a c (Lib.bitLen ((0 : Int)).toNat) w)
 generalize Lib.bitLen ((0 : Int)).toNat = k at *
 go_enter Tryz.func28, Tryz.ntmps28
 go_wp2_with fail
 refine HB.out.mono ?_
 rintro e w' ⟨rfl, rfl⟩
 go_wp2_with fail
 refine HP.out.mono ?_
 rintro e w2 ⟨rfl, rfl⟩
 go_wp2
 first | refine bodyPost_end (v := .tuple #[]) (by first | simp [results, go_sem] | simp [results, Tryz.results28, go_sem]) rfl ?_ | refine bodyPost_ret (v := .tuple #[]) (by first | simp [results, go_sem] | simp [results, Tryz.results28, go_sem]) rfl ?_
 exact ⟨rfl, rfl⟩
section
variable {B s b : Nat} {O : Nat -> Prop} {vars room : Nat} {ns : List Nd}
def ListOut (ns : List Nd) (h : Int) (w : World) (e : Ending) (w' : World) : Prop := ∃ (L : List Nat) (a : Option Addr) (c : Nat), e = .returned (.tuple #[.slice a L.length c, .nilIface]) /\ (∀ W, Below w'.heap.size w' W -> UArg W (.slice a L.length c) L) /\ L.Pairwise (· < ·) /\ (∀ x, x ∈ L ↔ In ns h x) /\ L.length = nsN ns h /\ Below w.heap.size w w'
theorem UArg.of_ur {w : World} {g c : Nat} {L : List Nat} (h : UR w g (castA L)) : UArg w (.slice (some ⟨g, 0, none⟩) L.length c) L :=
 ⟨_, _, rfl, fun i hi => ⟨g, rfl, h.lt, by rw [h.cell i (by rw [castA_size]; exact hi), castA_at L i hi]⟩⟩
theorem UR.of_row {N g c : Nat} {w : World} {l : List Nat} (h : w.ownsRow N 46 1 (.slice (some ⟨g, 0, none⟩) l.length c) l.length (ucells l)) : UR w g (castA l) := by
 refine ⟨(h.lt g rfl).2, fun j hj => ?_, fun j hj => ?_⟩
 ·rw [castA_size] at hj
  have := h.cellAt j (by omega)
  rw [ucells_at l j hj] at this
  rw [castA_at l j hj]; exact this
 ·obtain ⟨g', cap, cur, e, h2, h3, h4⟩ := h.2.resolve_left (fun e => by simp at e)
  cases e
  exact Blk.frozen (W := w) (b := g) (t := 46) (cs := cur) h3 j
theorem list_few (w : World) (hF : FamAt B w s b O vars room ns) (h : Int) (hh : hasB ns h = true) (most : Int) (hm : (nsN ns h : Int) <= most) (hn64 : nsN ns h <= 64) :
  Calls Tryz.prog 7 #[.pointer (some ⟨s, 0, none⟩), .int .i64 h, .int .i64 most] w (ListOut ns h w) := by
 have HL := Lib.hid (listed_yes w hF h hh most hm)
 have hlen := hF.len
 have hln : nsN ns h = (stL ns h 0).length := nsN_len ns h 0
 have hl6 : (stL ns h 0).length <= 64 := by omega
 have HND := Lib.hid (stL_nodup hF.good hF.v24 hh)
 have HMM : Hid (∀ x, x ∈ stL ns h 0 ↔ In ns h x) := fun x => stL_mem hF.good hF.v24 hh x
 have HST : Hid (∀ W, Below w.heap.size w W -> Calls Tryz.prog 27 #[.pointer (some ⟨s, 0, none⟩), .int .i64 h, .int .u64 0, .slice none 0 0] W (SetsOut w.heap.size (stL ns h 0) (.slice none 0 0) W)) := fun W hW => by
  have := sets_any (B := B) (N := w.heap.size) (s := s) (b := b) (O := O) (vars := vars) (room := (room : Int)) hF.good.ranked (by omega) (fun k hk => (hF.space.own k hk).2) hF.space.slt 24 W (hF.space.new hW) hW.size h hh (by have := (topOf_le hF.good.ranked h).1; omega) 0 (by decide) [] (by decide) none 0 (World.ownsRow_nil _ _ _ _)
  exact this
 have HOUT : Hid (∀ (L : List Nat) (a : Option Addr) (c : Nat) (e : Ending) (w' : World), e = .returned (.tuple #[.slice a L.length c, .nilIface]) -> UArg w' (.slice a L.length c) L -> L.Pairwise (· < ·) -> (∀ x, x ∈ L ↔ x ∈ stL ns h 0) -> L.length = (stL ns h 0).length -> Below w.heap.size w w' -> ListOut ns h w e w') := fun L a c e w' h1 h2 h3 h4 h5 h6 => ⟨L, a, c, h1, fun W hW => h2.below hW, h3, fun x => (h4 x).trans (HMM.out x), by rw [h5, hln], h6⟩
 unfold SetsOut at HST
 generalize stL ns h 0 = l at *
 clear hF hh hm hlen hln HMM hn64
 go_enter Tryz.func7, Tryz.ntmps7
 go_wp2_with fail
 refine HL.out.mono ?_
 rintro e w1 ⟨rfl, hb1⟩
 clear HL
 go_wp2_with fail
 refine (HST.out _ hb1).mono ?_
 rintro e w2 ⟨a2, c2, rfl, hrow, hk, -⟩
 have hb2 : Below w.heap.size w w2 := hb1.trans (hk.below hb1.size (fun i hi => by simp [Value.ownBlock] at hi))
 have HB2 := Lib.hid hb2
 by_cases hz : l = []
 ·subst hz
  have HS := Lib.hid (sort_zero a2 c2 w2)
  have HF := Lib.hid (HOUT.out [] a2 c2 _ w2 rfl ⟨a2, c2, rfl, fun i hi => absurd hi (Nat.not_lt_zero _)⟩ List.Pairwise.nil (fun x => Iff.rfl) rfl hb2)
  clear hrow hk hb2 HST HOUT hb1
  simp only [List.length_nil] at HF ⊢
  go_wp2_with fail
  refine HS.out.mono ?_
  rintro e w3 ⟨rfl, rfl⟩
  clear HS
  go_wp2
  refine bodyPost_ret (v := .tuple #[.slice a2 0 c2, .nilIface]) (by simp [results, Tryz.results7, go_sem]) rfl HF.out
 ·have hpos : 0 < l.length := by cases l <;> simp_all
  obtain ⟨g, rfl, hU, -, -⟩ := row_u hrow hpos
  have HS := Lib.hid (sort_any g c2 l HND.out hpos (by omega) w2 (UR.of_row hrow))
  have HGE : Hid (w.heap.size <= g) := (hrow.lt g rfl).1
  clear hrow hk hb2 HST hU hb1 hz
  go_wp2_with fail
  refine HS.out.mono ?_
  rintro e w3 ⟨L, rfl, hL, hU3, h3, h4, hK⟩
  have HF := Lib.hid (HOUT.out L (some ⟨g, 0, none⟩) c2 _ w3 rfl (UArg.of_ur hU3) h3 h4 hL (HB2.out.trans (hK.below HB2.out.size (fun i e => by rw [e]; exact HGE.out))))
  rw [hL] at HF
  clear hU3 h3 h4 hK HS HOUT hL
  go_wp2
  refine bodyPost_ret (v := .tuple #[.slice (some ⟨g, 0, none⟩) l.length c2, .nilIface]) (by simp [results, Tryz.results7, go_sem]) rfl HF.out
theorem list_any (w : World) (hF : FamAt B w s b O vars room ns) (hv6 : vars <= 6) (h : Int) (hh : hasB ns h = true) (most : Int) (hm : (nsN ns h : Int) <= most) :
  Calls Tryz.prog 7 #[.pointer (some ⟨s, 0, none⟩), .int .i64 h, .int .i64 most] w (ListOut ns h w) :=
 list_few w hF h hh most hm (by
  have := nsN_vars hF.good hF.v24 hh
  have p6 : 2 ^ vars <= 64 := Nat.pow_le_pow_right (n := 2) (by omega) hv6
  omega)
end
end Go.Proofs.YtbklgjmkdhinpaaGreatDoor.Fm
namespace Go.Proofs.YtbklgjmkdhinpaaGreatDoor.Fm
open Go.RowKit Go.Maps Go.Proofs.YtbklgjmkdhinpaaGreatDoor.Bd Go.Proofs.YtbklgjmkdhinpaaGreatDoor.Bd.Num
section
variable {B s b : Nat} {O : Nat -> Prop} {vars room : Nat} {ns : List Nd}
theorem listed_much (w : World) (hF : FamAt B w s b O vars room ns) (h : Int) (hh : hasB ns h = true) (most : Int) (hm : most < (nsN ns h : Int)) :
  Calls Tryz.prog 26 #[.pointer (some ⟨s, 0, none⟩), .int .i64 h, .int .i64 most] w fun e w' => e = .returned (.iface 42 (.int .i64 4)) /\ Below w.heap.size w w' := by
 have HC := Lib.hid (count_any w hF h hh)
 have hle := nsN_le ns h
 clear hF hh
 generalize nsN ns h = m at *
 go_enter Tryz.func26, Tryz.ntmps26
 go_wp2_with fail
 refine HC.out.mono ?_
 rintro e w1 ⟨v, rfl, hv, hb1⟩
 obtain ⟨⟨xa, xn, xc⟩, rfl, hx⟩ := hv
 have hv : NatAt w1 (.agg #[.slice xa xn xc]) m := ⟨⟨xa, xn, xc⟩, rfl, hx⟩
 have hb2 := below_new w1 (.cells #[.slice xa xn xc] 38)
 have bc : (w1.alloc (.cells #[.slice xa xn xc] 38)).cell? ⟨w1.heap.size, 0, none⟩ = some (.slice xa xn xc) := by simp
 have HFT := Lib.hid (num_fits (hv.new hb2) (by omega))
 have HB := Lib.hid (hb1.trans (hb2.mono hb1.size))
 clear hv hx hb1 hb2 HC
 unfold NV.val
 go_wp2_with fail
 refine HFT.out.mono ?_
 rintro e w2 ⟨rfl, hb3⟩
 have HB2 := Lib.hid (HB.out.trans (hb3.mono HB.out.size))
 have hlt : (m : Int) > most := by omega
 clear hb3 HFT HB
 go_wp2
 go_ret
 exact ⟨rfl, HB2.out⟩
theorem list_much (w : World) (hF : FamAt B w s b O vars room ns) (h : Int) (hh : hasB ns h = true) (most : Int) (hm : most < (nsN ns h : Int)) :
  Calls Tryz.prog 7 #[.pointer (some ⟨s, 0, none⟩), .int .i64 h, .int .i64 most] w fun e w' => e = .returned (.tuple #[.slice none 0 0, .iface 42 (.int .i64 4)]) /\ Below w.heap.size w w' := by
 have HC := Lib.hid (listed_much w hF h hh most hm)
 clear hF hh
 go_enter Tryz.func7, Tryz.ntmps7
 go_wp2_with fail
 refine HC.out.mono ?_
 rintro e w1 ⟨rfl, hb1⟩
 go_wp2
 go_ret2
 exact ⟨rfl, hb1⟩
theorem nsN_is {h : Int} (hg : Good vars ns) (hv : vars <= 24) (hh : hasB ns h = true) {L : List Nat} (hs : L.Pairwise (· < ·)) (hm : ∀ y, y ∈ L ↔ In ns h y) : nsN ns h = L.length := by
 rw [nsN_len ns h 0]
 have h1 := stL_nodup hg hv hh
 have h2 : L.Nodup := hs.imp (fun h => by omega)
 exact ((List.perm_ext_iff_of_nodup h1 h2).2 (fun y => (stL_mem hg hv hh y).trans (hm y).symm)).length_eq
end
end Go.Proofs.YtbklgjmkdhinpaaGreatDoor.Fm
namespace Go.Proofs.YtbklgjmkdhinpaaGreatDoor.Fm
open Go.RowKit Go.Maps Go.Proofs.YtbklgjmkdhinpaaGreatDoor.Bd
theorem clr_bit (t v : Nat) (ht : t < 16777216) (hv : v < 24) (hb : t.testBit v = true) : bits .andNot .u64 (t : Int) (IntKind.u64.wrap (2 ^ v)) = ((t ^^^ 2 ^ v : Nat) : Int) /\ t ^^^ 2 ^ v < 16777216 := by
 have h1 : (2 : Nat) ^ v < 2 ^ 24 := Nat.pow_lt_pow_right (by decide) hv
 have e : IntKind.u64.wrap ((2 : Int) ^ v) = ((2 ^ v : Nat) : Int) := by
  have hw : ∀ n : Nat, n < 18446744073709551616 -> IntKind.u64.wrap (n : Int) = n := fun n hn => by rw [IntKind.wrap_u64]; omega
  rw [show (2 : Int) ^ v = ((2 ^ v : Nat) : Int) by simp]
  exact hw _ (by omega)
 rw [e, u64_andNot_nat t (2 ^ v) (by omega) (by omega), show 18446744073709551615 - 2 ^ v = 2 ^ 64 - (2 ^ v + 1) by omega]
 refine ⟨congrArg (fun z : Nat => (z : Int)) ?_, ?_⟩
 ·apply Nat.eq_of_testBit_eq; intro i
  rw [Nat.testBit_and, Nat.testBit_two_pow_sub_succ (by omega), bit_x, Nat.testBit_two_pow]
  by_cases e : i = v
  ·subst e; simp [hb]
  ·by_cases h6 : i < 64
   ·simp [e, h6, Ne.symm e]
   ·have : t.testBit i = false := Nat.testBit_lt_two_pow (Nat.lt_of_lt_of_le (show t < 2 ^ 24 by omega) (Nat.pow_le_pow_right (n := 2) (by omega) (by omega)))
    simp [e, this]
 ·exact Nat.xor_lt_two_pow (n := 24) ht h1
section
variable {B s b : Nat} {O : Nat -> Prop} {vars : Nat} {room : Nat} {ns : List Nd} {w w' : World}
theorem in_any (hF : FamAt B w s b O vars room ns) (x : Int) (hx : hasB ns x = true) (vals : Nat) (hvals : vals < 2 ^ vars) :
  Calls Tryz.prog 13 #[.pointer (some ⟨s, 0, none⟩), .int .i64 x, .int .u64 (vals : Int)] w fun e w' => e = .returned (.tuple #[.bool (inB ns x vals), .nilIface]) /\ Below w.heap.size w w' := by
 have h := hF.space
 have hg := hF.good
 have hv24 := hF.v24
 have hl : ns.length <= 90000 := by have := hF.len; omega
 have hv2 : vals < 16777216 := by have := Nat.pow_le_pow_right (n := 2) (by omega) hv24; omega
 have HAM := Lib.hid (fun W (hW : Below w.heap.size w W) => among_any (h.new hW) hv24 vals hvals)
 clear hF
 have hi := has_i64 hx (by omega)
 have HP := present_any (cp := 1) (h.new (below_new w (.cells #[.int .i64 x] 3))) (by omega) w.heap.size [x] (ints1 w x hi) (by simp) (fun y hy => by rw [List.mem_singleton] at hy; subst hy; exact hx)
 rw [show [x].length = 1 from rfl] at HP
 have HPR := Lib.hid HP
 have hb := below_new w (.cells #[.int .i64 x] 3)
 have HGT : Hid (∀ (y : Int) (W : World), hasB ns y = true -> Below w.heap.size w W -> Calls Tryz.prog 39 #[.pointer (some ⟨b, 0, none⟩), .int .i64 y] W fun e w' => e = .returned (.tuple #[.agg #[.int .i64 (getOf ns y).v, .int .i64 (getOf ns y).l, .int .i64 (getOf ns y).h], .bool (decide (topOf ns y ≠ 24))]) /\ Below W.heap.size W w') := fun y W hy hW => spGet (h.new hW) y (has_i64 hy (by omega)) hl
 have HC : Hid (∀ W, Below w.heap.size w W -> W.cell? ⟨s, 0, none⟩ = some (.pointer (some ⟨b, 0, none⟩))) := fun W hW => (h.new hW).c0
 have HG := Lib.hid hg
 have c0 := HC.out _ hb
 have HB := Lib.hid hb
 have G0 := Lib.hid (HGT.out x _ hx hb)
 have HX := Lib.hid hx
 clear HP h hg hb hx
 generalize hge : getOf ns x = gn at *
 generalize htp : decide (topOf ns x ≠ 24) = tb at *
 obtain ⟨gv, gl, gh⟩ := gn
 have HGE := Lib.hid hge
 have HTP := Lib.hid htp
 clear hge htp
 simp only at G0
 go_enter Tryz.func13, Tryz.ntmps13
 go_wp2_with fail
 refine HPR.out.mono ?_
 rintro e w1 ⟨rfl, rfl⟩
 clear HPR
 go_wp2_with fail
 refine (HAM.out _ HB.out).mono ?_
 rintro e w1 ⟨rfl, rfl⟩
 clear HAM
 go_wp2_with fail
 refine G0.out.mono ?_
 rintro e w2 ⟨rfl, hb2⟩
 have hb3 : Below w.heap.size w w2 := HB.out.trans (hb2.mono HB.out.size)
 have T0 := Lib.hid (tri_new w2 gv gl gh 83)
 have B4 := Lib.hid (hb3.alloc hb3.size (.cells #[.int .i64 gv, .int .i64 gl, .int .i64 gh] 83))
 clear G0 hb2 hb3 c0
 go_wp2_with fail
 go_loopw [1, 2, 10, 11] (fun hV tV nV okV wr => ∃ (y : Int) (p t : Nat), hV = .int .i64 y /\ tV = .int .u64 (t : Int) /\ t < 16777216 /\ nV = .pointer (some ⟨p, 0, none⟩) /\ okV = .bool (decide (topOf ns y ≠ 24)) /\ Tri wr p (getOf ns y).v (getOf ns y).l (getOf ns y).h /\ hasB ns y = true /\ inB ns y t = inB ns x vals /\ Below w.heap.size w wr)
  (fun hV _ _ _ _ => (24 - topOf ns (intOf hV)).toNat)
 case atStart =>
  refine ⟨x, w2.heap.size, vals, rfl, rfl, hv2, rfl, by rw [HTP.out], by rw [HGE.out]; exact T0.out, HX.out, rfl, B4.out⟩
 case round =>
  obtain ⟨y, p, t, rfl, rfl, htl2, rfl, rfl, hT, hy, hsm, hbr⟩ := hrel
  clear T0 B4
  by_cases ht : topOf ns y = 24
  ·have dt : decide (topOf ns y ≠ 24) = false := by simp [ht]
   rw [dt]
   have hres : inB ns x vals = decide (y = 1 /\ t = 0) := by rw [<- hsm, inB_end ht]
   have HRES := Lib.hid hres
   clear dt hres hsm hT ht
   by_cases hy1 : y = 1
   ·subst hy1
    have et : (((t : Int)) == 0) = decide ((1 : Int) = 1 /\ t = 0) := by
     rw [Bool.eq_iff_iff]; simp
    go_wp2
    go_ret2
    exact ⟨by rw [HRES.out]; first | rfl | (rw [<- et]; rfl) | simp, hbr⟩
   ·have ey : (y == 1) = false := by rw [beq_eq_false_iff_ne]; exact hy1
    have ed : decide (y = 1 /\ t = 0) = false := by simp [hy1]
    go_wp2
    go_ret2
    exact ⟨by rw [HRES.out, ed]; rfl, hbr⟩
  ·have hr := HG.out.ranked
   have hk := kids hr ht
   have hgn : getOf ns y = nd ns (pl y) := by unfold getOf; rw [if_neg ht]; rfl
   rw [hgn] at hT
   have ht0 := (topOf_le hr y).1
   have htl := top_lt hr ht
   have hgv : (nd ns (pl y)).v = topOf ns y := (node_at ht).2.2.1.symm
   have hsn := inB_node hr ht t
   rw [hgv] at hT
   have dt : decide (topOf ns y ≠ 24) = true := by simp [ht]
   rw [dt]
   generalize hty : topOf ns y = ty at *
   have HTY := Lib.hid hty
   clear hty
   obtain ⟨v, rfl⟩ : ∃ v : Nat, ty = (v : Int) := ⟨ty.toNat, by omega⟩
   have q0 := hT.c0
   have q1 := hT.c1
   have q2 := hT.c2
   have HTT := Lib.hid hT
   have hbx := below_new wr (.cells #[.int .i64 (v : Int), .int .i64 (nd ns (pl y)).l, .int .i64 (nd ns (pl y)).h] 83)
   have hbx' := hbr.trans (hbx.mono hbr.size)
   have yc := HC.out _ hbx'
   have HBX := Lib.hid hbx'
   have TX := Lib.hid (tri_new wr (v : Int) (nd ns (pl y)).l (nd ns (pl y)).h 83)
   have hsb : (bits BinOp.and IntKind.u64 ((t : Int) / 2 ^ v) 1 == 1) = t.testBit v := shr_bit t v (by omega)
   have hvt : ((v : Int)).toNat = v := by omega
   rw [hvt] at hsn
   have HSN := Lib.hid (hsn.symm.trans hsm)
   have bx0 : wr.heap.size < (wr.alloc (.cells #[.int .i64 (v : Int), .int .i64 (nd ns (pl y)).l, .int .i64 (nd ns (pl y)).h] 83)).heap.size := by simp
   have KL := Lib.hid hk.2.1
   have KH := Lib.hid hk.2.2.2
   have k1 := hk.1
   have k2 := hk.2.2.1
   clear hT hsm hsn hk hgn hgv dt hbx hbx' hvt
   generalize (nd ns (pl y)).l = lo at *
   generalize (nd ns (pl y)).h = hi' at *
   cases hbit : t.testBit v with
   | true =>
    rw [hbit] at hsb
    have hv24' : v < 24 := by omega
    obtain ⟨hcb, hcl⟩ := clr_bit t v htl2 hv24' hbit
    have HSN' : Hid (inB ns hi' (t ^^^ 2 ^ v) = inB ns x vals) := by have := HSN.out; rw [hbit, if_pos rfl] at this; exact this
    have G1 := Lib.hid (HGT.out hi' _ KH.out HBX.out)
    clear hbit HSN
    generalize t ^^^ 2 ^ v = t2 at *
    go_wp2_with fail
    refine G1.out.mono ?_
    rintro e w5 ⟨rfl, hb5⟩
    have t5 := TX.out.new hb5
    have z0 := t5.c0
    have z1 := t5.fz 0
    have t6 := t5.set0 (getOf ns hi').v
    have z2 := t6.c1
    have z3 := t6.fz 1
    have t7 := t6.set1 (getOf ns hi').l
    have z4 := t7.c2
    have z5 := t7.fz 2
    have T8 := Lib.hid (t7.set2 (getOf ns hi').h)
    have hb6 := HBX.out.trans (hb5.mono HBX.out.size)
    have hws := hbr.size
    have HB8 : Hid (Below w.heap.size w (((w5.setCell ⟨wr.heap.size, 0, none⟩ (.int .i64 (getOf ns hi').v)).setCell ⟨wr.heap.size, 1, none⟩ (.int .i64 (getOf ns hi').l)).setCell ⟨wr.heap.size, 2, none⟩ (.int .i64 (getOf ns hi').h))) := ((hb6.setCell hws _).setCell hws _).setCell hws _
    clear t5 t6 t7 hb6 hb5 G1
    generalize hgy : getOf ns hi' = gy at *
    obtain ⟨g0, g1, g2⟩ := gy
    have HGY := Lib.hid hgy
    clear hgy
    simp only at z2 z4 T8 HB8 z3 z5
    go_wp2
    go_roundw
    case rel => exact ⟨hi', wr.heap.size, t2, rfl, rfl, hcl, rfl, by simp, by rw [HGY.out]; exact T8.out, KH.out, HSN'.out, HB8.out⟩
    case measure =>
     show (24 - topOf ns hi').toNat < (24 - topOf ns y).toNat
     rw [HTY.out]; omega
   | false =>
    rw [hbit] at hsb
    have HSN' : Hid (inB ns lo t = inB ns x vals) := by have := HSN.out; rw [hbit, if_neg (by simp)] at this; exact this
    have G1 := Lib.hid (HGT.out lo _ KL.out HBX.out)
    clear hbit HSN
    go_wp2_with fail
    refine G1.out.mono ?_
    rintro e w5 ⟨rfl, hb5⟩
    have t5 := TX.out.new hb5
    have z0 := t5.c0
    have z1 := t5.fz 0
    have t6 := t5.set0 (getOf ns lo).v
    have z2 := t6.c1
    have z3 := t6.fz 1
    have t7 := t6.set1 (getOf ns lo).l
    have z4 := t7.c2
    have z5 := t7.fz 2
    have T8 := Lib.hid (t7.set2 (getOf ns lo).h)
    have hb6 := HBX.out.trans (hb5.mono HBX.out.size)
    have hws := hbr.size
    have HB8 : Hid (Below w.heap.size w (((w5.setCell ⟨wr.heap.size, 0, none⟩ (.int .i64 (getOf ns lo).v)).setCell ⟨wr.heap.size, 1, none⟩ (.int .i64 (getOf ns lo).l)).setCell ⟨wr.heap.size, 2, none⟩ (.int .i64 (getOf ns lo).h))) := ((hb6.setCell hws _).setCell hws _).setCell hws _
    clear t5 t6 t7 hb6 hb5 G1
    generalize hgy : getOf ns lo = gy at *
    obtain ⟨g0, g1, g2⟩ := gy
    have HGY := Lib.hid hgy
    clear hgy
    simp only at z2 z4 T8 HB8 z3 z5
    go_wp2
    go_roundw
    case rel => exact ⟨lo, wr.heap.size, t, rfl, rfl, htl2, rfl, by simp, by rw [HGY.out]; exact T8.out, KL.out, HSN'.out, HB8.out⟩
    case measure =>
     show (24 - topOf ns lo).toNat < (24 - topOf ns y).toNat
     rw [HTY.out]; omega
end
end Go.Proofs.YtbklgjmkdhinpaaGreatDoor.Fm
