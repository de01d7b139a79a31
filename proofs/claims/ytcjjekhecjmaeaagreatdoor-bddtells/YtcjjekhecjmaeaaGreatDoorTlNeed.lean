/- Which variables make a difference. Plain: no memory. -/
import Derived.Shelf.Sort.Plain
import Derived.Shelf.Slices.CompactI
import Derived.Shelf.Slices.Cells
import Derived.Shelf.Slices.In.SortNone
import Derived.Test.YtcjjekhecjmaeaaGreatDoorProg
import Derived.Test.YtcjjekhecjmaeaaGreatDoorQuads
import Derived.Lib.SlicesCompact
namespace Go.Proofs
open Go.Shelf
def Tryz.lays189_ren : Go.Shelf.Ren := ⟨fun | 189 => 38 | 125 => 77 | 257 => 76 | 128 => 122 | 129 => 123 | 294 => 113 | 295 => 114 | 296 => 115 | 297 => 116 | 298 => 117 | 299 => 118 | 216 => 119 | 300 => 120 | 301 => 121 | 328 => 143 | 329 => 144 | 330 => 145 | 331 => 146 | 332 => 147 | 215 => 148 | 343 => 163 | n => n, fun | 28 => 24 | 3 => 3 | 46 => 65 | 0 => 0 | 51 => 189 | 53 => 90 | 4 => 4 | 183 => 183 | 182 => 182 | 131 => 148 | 5 => 5 | 9 => 9 | 218 => 218 | 222 => 222 | 228 => 236 | 229 => 234 | n => n, fun | n => n⟩
theorem Tryz.lays189 : Go.Proofs.Lays.n189 Tryz.prog Tryz.lays189_ren := {
 mixed := by kernel_rfl
 f125 := Tryz.func77.trans (congrArg some (by kernel_rfl))
 f128 := Tryz.func122.trans (congrArg some (by kernel_rfl))
 f129 := Tryz.func123.trans (congrArg some (by kernel_rfl))
 f189 := Tryz.func38.trans (congrArg some (by kernel_rfl))
 f215 := Tryz.func148.trans (congrArg some (by kernel_rfl))
 f216 := Tryz.func119.trans (congrArg some (by kernel_rfl))
 f257 := Tryz.func76.trans (congrArg some (by kernel_rfl))
 f294 := Tryz.func113.trans (congrArg some (by kernel_rfl))
 f295 := Tryz.func114.trans (congrArg some (by kernel_rfl))
 f296 := Tryz.func115.trans (congrArg some (by kernel_rfl))
 f297 := Tryz.func116.trans (congrArg some (by kernel_rfl))
 f298 := Tryz.func117.trans (congrArg some (by kernel_rfl))
 f299 := Tryz.func118.trans (congrArg some (by kernel_rfl))
 f300 := Tryz.func120.trans (congrArg some (by kernel_rfl))
 f301 := Tryz.func121.trans (congrArg some (by kernel_rfl))
 f328 := Tryz.func143.trans (congrArg some (by kernel_rfl))
 f329 := Tryz.func144.trans (congrArg some (by kernel_rfl))
 f330 := Tryz.func145.trans (congrArg some (by kernel_rfl))
 f331 := Tryz.func146.trans (congrArg some (by kernel_rfl))
 f332 := Tryz.func147.trans (congrArg some (by kernel_rfl))
 f343 := Tryz.func163.trans (congrArg some (by kernel_rfl))
 t0 := Tryz.underlying0
 a0 := Tryz.isAgg0
 z0 := Tryz.sizeOf0
 v0 := Tryz.zeroValue0
 t3 := Tryz.underlying3
 a3 := Tryz.isAgg3
 z3 := Tryz.sizeOf3
 v3 := Tryz.zeroValue3
 t4 := Tryz.underlying4
 a4 := Tryz.isAgg4
 z4 := Tryz.sizeOf4
 v4 := Tryz.zeroValue4
 t5 := Tryz.underlying5
 a5 := Tryz.isAgg5
 z5 := Tryz.sizeOf5
 v5 := Tryz.zeroValue5
 t9 := Tryz.underlying9
 a9 := Tryz.isAgg9
 z9 := Tryz.sizeOf9
 v9 := Tryz.zeroValue9
 t28 := Tryz.underlying24
 a28 := Tryz.isAgg24
 z28 := Tryz.sizeOf24
 v28 := Tryz.zeroValue24
 t46 := Tryz.underlying65
 a46 := Tryz.isAgg65
 z46 := Tryz.sizeOf65
 v46 := Tryz.zeroValue65
 t51 := Tryz.underlying189
 a51 := Tryz.isAgg189
 z51 := Tryz.sizeOf189
 v51 := Tryz.zeroValue189
 t53 := Tryz.underlying90
 a53 := Tryz.isAgg90
 z53 := Tryz.sizeOf90
 v53 := Tryz.zeroValue90
 t131 := Tryz.underlying148
 a131 := Tryz.isAgg148
 z131 := Tryz.sizeOf148
 v131 := Tryz.zeroValue148
 t182 := Tryz.underlying182
 a182 := Tryz.isAgg182
 z182 := Tryz.sizeOf182
 v182 := Tryz.zeroValue182
 t183 := Tryz.underlying183
 a183 := Tryz.isAgg183
 z183 := Tryz.sizeOf183
 v183 := Tryz.zeroValue183
 t218 := Tryz.underlying218
 a218 := Tryz.isAgg218
 z218 := Tryz.sizeOf218
 v218 := Tryz.zeroValue218
 t222 := Tryz.underlying222
 a222 := Tryz.isAgg222
 z222 := Tryz.sizeOf222
 v222 := Tryz.zeroValue222
 t228 := Tryz.underlying236
 a228 := Tryz.isAgg236
 z228 := Tryz.sizeOf236
 v228 := Tryz.zeroValue236
 t229 := Tryz.underlying234
 a229 := Tryz.isAgg234
 z229 := Tryz.sizeOf234
 v229 := Tryz.zeroValue234 }
open Go.Sort Go.RowKit in
theorem Tryz.slices_Sort_int (blk off cap : Nat) (zs : List Int) (w : World) (hH : Holds (Value.int .i64) w blk off zs.toArray) (hblk : blk < w.heap.size) (hsz : zs.length < 4611686018427387904) :
  Calls Tryz.prog 38 #[.slice (some ⟨blk, off, none⟩) zs.length cap] w fun e w' =>
   e = .returned (.tuple #[]) /\ ∃ n os, w' = grow (putRow (Value.int .i64) (Sort.ahead w n) blk off (zs.mergeSort fun x y => decide (x <= y)).toArray) os := Any.slices_Sort_int Tryz.lays189 blk off cap zs w hH hblk hsz
def Tryz.laysNm220_ren : Go.Shelf.Ren := ⟨fun | 20 => 39 | n => n, fun | 22 => 24 | 3 => 3 | 4 => 4 | 0 => 0 | n => n, fun | n => n⟩
theorem Tryz.laysNm220 : Go.Proofs.Lays2.n20 Tryz.prog Tryz.laysNm220_ren := {
 mixed := by kernel_rfl
 f20 := Tryz.func39.trans (congrArg some (by kernel_rfl))
 t0 := Tryz.underlying0
 a0 := Tryz.isAgg0
 z0 := Tryz.sizeOf0
 v0 := Tryz.zeroValue0
 t3 := Tryz.underlying3
 a3 := Tryz.isAgg3
 z3 := Tryz.sizeOf3
 v3 := Tryz.zeroValue3
 t4 := Tryz.underlying4
 a4 := Tryz.isAgg4
 z4 := Tryz.sizeOf4
 v4 := Tryz.zeroValue4
 t22 := Tryz.underlying24
 a22 := Tryz.isAgg24
 z22 := Tryz.sizeOf24
 v22 := Tryz.zeroValue24
 i3 := by kernel_rfl }
open Go.RowKit Go.Lib Go.Sort in
theorem Tryz.slices_Compact_int_cells (b off n c : Nat) (zs : List Int) (w : World) (hz : n <= zs.length) (hbig : n <= 9223372036854775807) (hcap : n <= c) (hc : ∀ j, j < zs.length -> w.cell? ⟨b, off + j, none⟩ = some (.int .i64 (zs.getD j 0))) (hf : ∀ j, j < n -> w.frozen? ⟨b, off + j, none⟩ = false) :
  Calls Tryz.prog 39 #[.slice (some ⟨b, off, none⟩) n c] w fun e w' => e = .returned (.slice (some ⟨b, off, none⟩) (Lib.compact (zs.take n)).length c) /\ ∃ q, w' = (w.drewN q).setCells b off ((Lib.compact (zs.take n) ++ List.replicate (n - (Lib.compact (zs.take n)).length) 0).map (Value.int .i64)) := Any.slices_Compact_int_cells Tryz.laysNm220 b off n c zs w hz hbig hcap hc hf
open Go.RowKit Go.Sort in
theorem Tryz.slices_Sort_int_none (p : Option Addr) (cap : Nat) (w : World) :
  Calls Tryz.prog 38 #[.slice p 0 cap] w fun e w' => e = .returned (.tuple #[]) /\ w' = w := Any.slices_Sort_int_none Tryz.lays189 p cap w
end Go.Proofs
namespace Go.Proofs.YtcjjekhecjmaeaaGreatDoor
open Go.RowKit
theorem bits_xor (i v : Nat) : bitsF (i ^^^ 1 <<< v) = turn (bitsF i) v (!bitsF i v) := by
 funext k
 unfold bitsF turn
 rw [Nat.testBit_xor, Nat.one_shiftLeft, Nat.testBit_two_pow]
 by_cases h : k = v
 ·subst h; simp
 ·rw [if_neg h, decide_eq_false (fun e => h e.symm), Bool.xor_false]
theorem xor_lt {i v vars : Nat} (hi : i < 2 ^ vars) (hv : v < vars) : i ^^^ 1 <<< v < 2 ^ vars := Nat.xor_lt_two_pow hi (by rw [Nat.one_shiftLeft]; exact Nat.pow_lt_pow_right (by omega) hv)
def depT (t : List Bool) (v : Nat) : Bool := (List.range t.length).any fun i => t.getD i false != t.getD (i ^^^ 1 <<< v) false
def needF (vars : Nat) (t : List Bool) : List Int := ((List.range vars).filter (depT t)).map fun v : Nat => (v : Int)
theorem turn_self (f : Nat -> Bool) (v : Nat) : turn f v (f v) = f := by
 funext k; unfold turn; split
 ·rename_i e; rw [e]
 ·rfl
theorem turn_comm (f : Nat -> Bool) {v t : Nat} (b c : Bool) (h : v ≠ t) : turn (turn f v b) t c = turn (turn f t c) v b := by
 funext k; unfold turn
 by_cases h1 : k = t
 ·rw [if_pos h1, if_neg (by omega), if_pos h1]
 ·rw [if_neg h1]
  by_cases h2 : k = v
  ·rw [if_pos h2, if_pos h2]
  ·rw [if_neg h2, if_neg h2, if_neg h1]
section
variable {ns : List Nd} {h : Int} {vars : Nat}
theorem tab_get {i : Nat} (hi : i < 2 ^ vars) : (tabH vars ns h).getD i false = sem ns h (bitsF i) := by
 rw [List.getD_eq_getElem?_getD, List.getElem?_eq_getElem (by rw [tabH_len]; exact hi), Option.getD_some, tabH_at]
theorem sem_ind (hr : Ranked ns) {M : List Bool} (hc : ∀ i, i < ns.length -> mk M i = true -> MarkedOr ns M (nd ns i).l /\ MarkedOr ns M (nd ns i).h) {v : Nat} (hn : ∀ i, mk M i = true -> (nd ns i).v ≠ (v : Int)) (f : Nat -> Bool) (b : Bool) : ∀ (d : Nat) (x : Int), MarkedOr ns M x -> semF d ns x (turn f v b) = semF d ns x f
 | 0, _, _ => rfl
 | d + 1, x, hx => by
  unfold semF
  by_cases ht : topOf ns x = 24
  ·rw [if_pos ht, if_pos ht]
  ·rw [if_neg ht, if_neg ht]
   obtain ⟨m1, m2, m3, m4⟩ := node_at ht
   have hm : mk M (pl x) = true := hx.resolve_left ht
   have h0 := (topOf_le hr x).1
   have hne := hn _ hm
   have hk := hc _ m2 hm
   rw [turn_ne f b (by omega), sem_ind hr hc hn f b d _ hk.1, sem_ind hr hc hn f b d _ hk.2]
theorem dep_false {v : Nat} (hg : Good vars ns) (hno : depT (tabH vars ns h) v = false) (hv : v < vars) (f : Nat -> Bool) (b : Bool) : sem ns h (turn f v b) = sem ns h f := by
 by_cases hb : b = f v
 ·rw [hb, turn_self]
 ·have hb2 : b = !f v := by cases b <;> cases hf : f v <;> simp_all
  have hl := numOf_lt f vars
  have hall : (tabH vars ns h).getD (numOf' f vars) false = (tabH vars ns h).getD (numOf' f vars ^^^ 1 <<< v) false := by
   have := List.any_eq_false.1 hno (numOf' f vars) (List.mem_range.2 (by rw [tabH_len]; exact hl))
   simpa using this
  rw [tab_get hl, tab_get (xor_lt hl hv), bits_xor] at hall
  have hf : ∀ i, i < vars -> f i = bitsF (numOf' f vars) i := fun i hi => (numOf_bit f vars i hi).symm
  rw [sem_vars hg hf h, hall, hb2, hf v hv]
  refine sem_vars hg (fun i hi => ?_) h
  unfold turn
  split
  ·rfl
  ·exact hf i hi
theorem lev_ind (hr : Ranked ns) (hh : hasB ns h = true) {v : Nat} (hv : v <= 24) (hd : ∀ f b, sem ns h (turn f v b) = sem ns h f) : ∀ (t : Nat), t <= v -> ∀ x ∈ levF ns h t, ∀ f b, sem ns x (turn f v b) = sem ns x f
 | 0, _, x, hx => by rw [levF, List.mem_singleton] at hx; subst hx; exact hd
 | t + 1, ht, x, hx => by
  intro f b
  rw [levF, mem_next] at hx
  obtain ⟨y, hy, e⟩ := hx
  have ih := lev_ind hr hh hv hd t (by omega) y hy
  obtain ⟨k1, k2⟩ := lev_ok hr hh t (by omega) y hy
  rcases e with rfl | rfl
  ·rw [<- sem_turn_lo hr (by omega) k1 k2, <- sem_turn_lo hr (by omega) k1 k2, turn_comm f b false (by omega), ih]
  ·rw [<- sem_turn_hi hr (by omega) k1 k2, <- sem_turn_hi hr (by omega) k1 k2, turn_comm f b true (by omega), ih]
theorem dep_iff (hg : Good vars ns) (hh : hasB ns h = true) (h24 : vars <= 24) {v : Nat} (hv : v < vars) : depT (tabH vars ns h) v = true ↔ ∃ i, mk (marksOf ns [h]) i = true /\ (nd ns i).v = (v : Int) := by
 have hr := hg.ranked
 constructor
 ·intro hd
  by_cases hex : ∃ i, mk (marksOf ns [h]) i = true /\ (nd ns i).v = (v : Int)
  ·exact hex
  ·exfalso
   have hn : ∀ i, mk (marksOf ns [h]) i = true -> (nd ns i).v ≠ (v : Int) := fun i hi e => hex ⟨i, hi, e⟩
   obtain ⟨i, hi, hne⟩ := List.any_eq_true.1 hd
   have hi' := List.mem_range.1 hi
   rw [tabH_len] at hi'
   rw [tab_get hi', tab_get (xor_lt hi' hv), bits_xor] at hne
   have := sem_ind hr (marksOf_closed hr [h]) hn (bitsF i) (!bitsF i v) 24 h (marks_top hr h)
   unfold sem at hne
   rw [this] at hne
   simp at hne
 ·rintro ⟨i, hm, hvi⟩
  cases hd : depT (tabH vars ns h) v with
  | true => rfl
  | false =>
   exfalso
   obtain ⟨q1, q2, q3, q4⟩ := mark_lev hg hh h24 hm
   rw [hvi] at q1
   have hx := lev_ind hr hh (by omega) (dep_false hg hd hv) v (Nat.le_refl _) _ q1
   obtain ⟨k1, k2⟩ := lev_ok hr hh v (by omega) _ q1
   have hte : topOf ns (2 + (i : Int)) = (v : Int) := by rw [topOf_at q4, hvi]
   have hp : pl (2 + (i : Int)) = i := by unfold pl; omega
   have hkk := kids hr (h := 2 + (i : Int)) (by omega)
   rw [hp] at hkk
   refine hg.red i q4 (by omega) (same_handle hg hkk.2.1 hkk.2.2.2 fun f => ?_)
   have e1 := sem_turn_lo hr (v := v) (by omega) k1 k2 f
   have e2 := sem_turn_hi hr (v := v) (by omega) k1 k2 f
   unfold loS at e1
   unfold hiS at e2
   rw [if_pos hte, hp, hx] at e1
   rw [if_pos hte, hp, hx] at e2
   rw [<- e1, e2]
theorem asc_eq : ∀ {a b : List Int}, a.Pairwise (· < ·) -> b.Pairwise (· < ·) -> (∀ z, z ∈ a ↔ z ∈ b) -> a = b
 | [], [], _, _, _ => rfl
 | [], y :: b, _, _, h => absurd ((h y).2 (List.mem_cons_self ..)) (by simp)
 | x :: a, [], _, _, h => absurd ((h x).1 (List.mem_cons_self ..)) (by simp)
 | x :: a, y :: b, ha, hb, h => by
  obtain ⟨h1, h2⟩ := List.pairwise_cons.1 ha
  obtain ⟨h3, h4⟩ := List.pairwise_cons.1 hb
  have hxy : x = y := by
   rcases List.mem_cons.1 ((h x).1 (List.mem_cons_self ..)) with e | e
   ·exact e
   ·rcases List.mem_cons.1 ((h y).2 (List.mem_cons_self ..)) with e' | e'
    ·exact e'.symm
    ·have := h3 x e; have := h1 y e'; omega
  subst hxy
  congr 1
  refine asc_eq h2 h4 fun z => ⟨fun hz => ?_, fun hz => ?_⟩
  ·rcases List.mem_cons.1 ((h z).1 (List.mem_cons_of_mem _ hz)) with e | e
   ·have := h1 z hz; omega
   ·exact e
  ·rcases List.mem_cons.1 ((h z).2 (List.mem_cons_of_mem _ hz)) with e | e
   ·have := h3 z hz; omega
   ·exact e
theorem need_is (hg : Good vars ns) (hh : hasB ns h = true) (h24 : vars <= 24) {s : List Int} (hs : s.Pairwise (· < ·)) (hm : ∀ z, z ∈ s ↔ z ∈ (reachTo (marksOf ns [h]) ns.length).map (topOf ns)) : s = needF vars (tabH vars ns h) := by
 refine asc_eq hs ?_ fun z => ?_
 ·unfold needF
  refine List.Pairwise.map _ (fun a b q => ?_) (List.pairwise_lt_range.filter _)
  show (a : Int) < (b : Int)
  omega
 ·rw [hm z]
  unfold needF reachTo
  simp only [List.mem_map, List.mem_filter, List.mem_range]
  constructor
  ·rintro ⟨x, ⟨i, ⟨hi, hmk⟩, rfl⟩, rfl⟩
   obtain ⟨q1, q2, q3, q4⟩ := mark_lev hg hh h24 hmk
   refine ⟨(nd ns i).v.toNat, ⟨q2, (dep_iff hg hh h24 q2).2 ⟨i, hmk, by omega⟩⟩, ?_⟩
   rw [topOf_at q4]; omega
  ·rintro ⟨v, ⟨hv, hd⟩, rfl⟩
   obtain ⟨i, hmk, hvi⟩ := (dep_iff hg hh h24 hv).1 hd
   obtain ⟨q1, q2, q3, q4⟩ := mark_lev hg hh h24 hmk
   exact ⟨2 + (i : Int), ⟨i, ⟨q4, hmk⟩, rfl⟩, by rw [topOf_at q4, hvi]⟩
end
theorem compact_asc (l : List Int) (hl : l.Pairwise (· <= ·)) : (Lib.compact l).Pairwise (· < ·) /\ ∀ z, z ∈ Lib.compact l ↔ z ∈ l := by
 have hget : ∀ i (h : i < l.length), l.toArray[i]! = l[i] := fun i h => by simp [h]
 have hle : ∀ i j (hj : j < l.length) (h : i <= j), l[i]'(by omega) <= l[j] := fun i j hj h => by
  rcases Nat.lt_or_eq_of_le h with h | h
  ·exact List.pairwise_iff_getElem.1 hl i j (by omega) hj h
  ·subst h; exact Int.le_refl _
 constructor
 ·unfold Lib.compact Lib.compactUpTo
  refine List.Pairwise.map _ (fun a b q => ?_) (List.Pairwise.and_mem.1 ((List.pairwise_lt_range (n := l.length)).filter (Lib.keeps l.toArray)))
  obtain ⟨ha, hb, hab⟩ := q
  obtain ⟨ha1, -⟩ := List.mem_filter.1 ha
  obtain ⟨hb1, hb2⟩ := List.mem_filter.1 hb
  have ha' := List.mem_range.1 ha1
  have hb' := List.mem_range.1 hb1
  have hk := of_decide_eq_true hb2
  rw [hget b hb', hget (b - 1) (by omega)] at hk
  have h1 := hle a (b - 1) (by omega) (by omega)
  have h2 := hle (b - 1) b hb' (by omega)
  show l.toArray[a]! < l.toArray[b]!
  rw [hget a ha', hget b hb']
  rcases hk with hk | hk
  ·omega
  ·have : l[b]'hb' ≠ l[b - 1]'(by omega) := hk
   omega
 ·intro z
  unfold Lib.compact Lib.compactUpTo
  simp only [List.mem_map, List.mem_filter, List.mem_range]
  constructor
  ·rintro ⟨j, ⟨hj, -⟩, rfl⟩
   rw [hget j hj]; exact List.getElem_mem hj
  ·intro hz
   obtain ⟨i, hi, rfl⟩ := List.getElem_of_mem hz
   have key : ∀ i (hi : i < l.length), ∃ j, j < l.length /\ Lib.keeps l.toArray j = true /\ l.toArray[j]! = l[i] := by
    intro i
    induction i with
    | zero => exact fun hi => ⟨0, hi, by simp [Lib.keeps], hget 0 hi⟩
    | succ i ih =>
     intro hi
     by_cases e : l[i + 1] = l[i]
     ·obtain ⟨j, h1, h2, h3⟩ := ih (by omega)
      exact ⟨j, h1, h2, by rw [h3, e]⟩
     ·refine ⟨i + 1, hi, ?_, hget _ hi⟩
      unfold Lib.keeps
      rw [hget _ hi, show i + 1 - 1 = i by omega, hget i (by omega)]
      simp [e]
   obtain ⟨j, h1, h2, h3⟩ := key i hi
   exact ⟨j, ⟨h1, h2⟩, h3⟩
theorem sort_asc (l : List Int) : (l.mergeSort fun x y => decide (x <= y)).Pairwise (· <= ·) := by
 have := List.pairwise_mergeSort (le := fun x y : Int => decide (x <= y)) (fun a b c h1 h2 => by simp at *; omega) (fun a b => by simp; omega) l
 exact this.imp (fun h => by simpa using h)
theorem need_list {vars : Nat} {ns : List Nd} {h : Int} (hg : Good vars ns) (hh : hasB ns h = true) (h24 : vars <= 24) : Lib.compact (((reachTo (marksOf ns [h]) ns.length).map (topOf ns)).mergeSort fun x y => decide (x <= y)) = needF vars (tabH vars ns h) := by
 obtain ⟨h1, h2⟩ := compact_asc _ (sort_asc ((reachTo (marksOf ns [h]) ns.length).map (topOf ns)))
 exact need_is hg hh h24 h1 (fun z => (h2 z).trans List.mem_mergeSort)
end Go.Proofs.YtcjjekhecjmaeaaGreatDoor
