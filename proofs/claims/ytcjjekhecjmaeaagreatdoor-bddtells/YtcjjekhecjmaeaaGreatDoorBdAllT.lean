/- All, of a table. -/
import Derived.Test.YtcjjekhecjmaeaaGreatDoorBdKthN
import Derived.Test.YtcjjekhecjmaeaaGreatDoorBdTabS
import Derived.Lib.EndianBits
import Derived.Deep.AppendLies
set_option maxHeartbeats 4000000
set_option maxRecDepth 100000
namespace Go.Proofs.YtcjjekhecjmaeaaGreatDoor
section
open Go.RowKit Go.Maps
def lexi : Nat -> Nat -> List Nat
 | 0, _ => [0]
 | d + 1, v => lexi d (v + 1) ++ (lexi d (v + 1)).map (2 ^ v + ·)
theorem lexi_mul : ∀ (d v x : Nat), x ∈ lexi d v -> ∃ m, x = 2 ^ v * m
 | 0, v, x, h => by simp [lexi] at h; exact ⟨0, by simp [h]⟩
 | d + 1, v, x, h => by
  unfold lexi at h
  rcases List.mem_append.1 h with h | h
  ·obtain ⟨m, rfl⟩ := lexi_mul d (v + 1) x h
   exact ⟨2 * m, by rw [Nat.pow_succ, Nat.mul_assoc]⟩
  ·obtain ⟨y, hy, rfl⟩ := List.mem_map.1 h
   obtain ⟨m, rfl⟩ := lexi_mul d (v + 1) y hy
   exact ⟨1 + 2 * m, by rw [Nat.pow_succ, Nat.mul_add, Nat.mul_one, Nat.mul_assoc]⟩
section
variable {vars : Nat} {ns : List Nd}
theorem kthH_lo {d v : Nat} {h : Int} {k : Nat} (hk : k < waysN vars ns (loS ns h v) (v + 1)) : kthH vars ns (d + 1) v h k = kthH vars ns d (v + 1) (loS ns h v) k := by
 rw [kthH, if_pos hk]
theorem kthH_hi {d v : Nat} {h : Int} {k : Nat} (hk : ¬ k < waysN vars ns (loS ns h v) (v + 1)) : kthH vars ns (d + 1) v h k = 2 ^ v + kthH vars ns d (v + 1) (hiS ns h v) (k - waysN vars ns (loS ns h v) (v + 1)) := by
 rw [kthH, if_neg hk]
theorem lexi_split {d v : Nat} {P Pl Ph : Nat -> Bool} (h1 : ∀ m, P (2 ^ (v + 1) * m) = Pl (2 ^ (v + 1) * m)) (h2 : ∀ m, P (2 ^ v + 2 ^ (v + 1) * m) = Ph (2 ^ (v + 1) * m)) :
  (lexi (d + 1) v).filter P = (lexi d (v + 1)).filter Pl ++ ((lexi d (v + 1)).filter Ph).map (2 ^ v + ·) := by
 have f1 : (lexi d (v + 1)).filter P = (lexi d (v + 1)).filter Pl := List.filter_congr fun x hx => by
  obtain ⟨m, rfl⟩ := lexi_mul d (v + 1) x hx
  exact h1 m
 have f2 : (lexi d (v + 1)).filter (P ∘ (2 ^ v + ·)) = (lexi d (v + 1)).filter Ph := List.filter_congr fun x hx => by
  obtain ⟨m, rfl⟩ := lexi_mul d (v + 1) x hx
  exact h2 m
 rw [lexi, List.filter_append, List.filter_map, f1, f2]
theorem range_split {a b c : Nat} {f fl fh : Nat -> Nat} (h1 : ∀ i, i < a -> f i = fl i) (h2 : ∀ i, f (a + i) = c + fh i) : (List.range a).map fl ++ ((List.range b).map fh).map (c + ·) = (List.range (a + b)).map f := by
 rw [List.range_add, List.map_append, List.map_map, List.map_map]
 congr 1
 ·exact List.map_congr_left fun i hi => (h1 i (List.mem_range.1 hi)).symm
 ·exact List.map_congr_left fun i _ => (h2 i).symm
theorem lexi_zero {v n : Nat} {P : Nat -> Bool} {f : Nat -> Nat} (hf : f 0 = 0) (hn : n = if P 0 = true then 1 else 0) : (lexi 0 v).filter P = (List.range n).map f := by
 subst hn
 unfold lexi
 by_cases h : P 0 = true
 ·simp [h, hf, List.range_succ]
 ·simp [h]
theorem lexi_kth (hg : Good vars ns) (h24 : vars <= 24) (d : Nat) : ∀ (v : Nat) (h : Int) (y : Nat), d + v = vars -> hasB ns h = true -> (v : Int) <= topOf ns h -> y < 2 ^ v ->
  (lexi d v).filter (fun x => sem ns h (bitsF (y + x))) = (List.range (waysN vars ns h v)).map (fun i => kthH vars ns d v h i) := by
 induction d with
 | zero =>
  intro v h y hd hh ht hy
  have hvv : v = vars := by omega
  have he : topOf ns h = 24 := by
   by_cases e : topOf ns h = 24
   ·exact e
   ·have := top_vars hg e; omega
  refine lexi_zero rfl ?_
  rw [Nat.add_zero, sem_end he]
  unfold waysN
  rw [hvv, Nat.sub_self, cntV, sem_end he]
 | succ d ih =>
  intro v h y hd hh ht hy
  have hs := ways_sides hg h24 hh (by omega) ht
  have hl := loS_has hg.ranked (v := (v : Int)) (by omega) hh
  have hi := hiS_has hg.ranked (v := (v : Int)) (by omega) hh
  have hp : 2 ^ (v + 1) = 2 ^ v * 2 := Nat.pow_succ ..
  have hl2 := hl.2.1 ht
  have hi2 := hi.2.1 ht
  have i1 := ih (v + 1) (loS ns h v) y (by omega) hl.1 (by omega) (by omega)
  have i2 := ih (v + 1) (hiS ns h v) (y + 2 ^ v) (by omega) hi.1 (by omega) (by omega)
  have g1 : ∀ m, sem ns h (bitsF (y + 2 ^ (v + 1) * m)) = sem ns (loS ns h v) (bitsF (y + 2 ^ (v + 1) * m)) := fun m => by
   have hb : bitsF (y + 2 ^ (v + 1) * m) v = false := by
    rw [bits_low (by omega) v (by omega)]; exact bits_over hy (Nat.le_refl _)
   rw [sem_sides (v := (v : Int)) hg.ranked (by omega), Int.toNat_natCast, hb, if_neg (by simp)]
  have g2 : ∀ m, sem ns h (bitsF (y + (2 ^ v + 2 ^ (v + 1) * m))) = sem ns (hiS ns h v) (bitsF (y + 2 ^ v + 2 ^ (v + 1) * m)) := fun m => by
   rw [<- Nat.add_assoc]
   have hb : bitsF (y + 2 ^ v + 2 ^ (v + 1) * m) v = true := by
    rw [bits_low (by omega) v (by omega)]; exact bits_up hy
   rw [sem_sides (v := (v : Int)) hg.ranked (by omega), Int.toNat_natCast, hb, if_pos rfl]
  rw [lexi_split (P := fun x => sem ns h (bitsF (y + x))) (Pl := fun x => sem ns (loS ns h v) (bitsF (y + x))) (Ph := fun x => sem ns (hiS ns h v) (bitsF (y + 2 ^ v + x))) g1 g2, i1, i2, hs]
  exact range_split (fun i hi => kthH_lo hi) (fun i => by rw [kthH_hi (by omega), Nat.add_sub_cancel_left])
end
def revF : Nat -> Nat -> Nat -> Nat
 | 0, _, _ => 0
 | d + 1, v, k => (if k.testBit d then 2 ^ v else 0) + revF d (v + 1) k
theorem revF_congr : ∀ (d v k k' : Nat), (∀ i, i < d -> k.testBit i = k'.testBit i) -> revF d v k = revF d v k'
 | 0, _, _, _, _ => rfl
 | d + 1, v, k, k', h => by
  unfold revF
  rw [h d (by omega), revF_congr d (v + 1) k k' (fun i hi => h i (by omega))]
theorem lexi_rev : ∀ (d v : Nat), lexi d v = (List.range (2 ^ d)).map (revF d v)
 | 0, v => by simp [lexi, revF, List.range_succ]
 | d + 1, v => by
  have ih := lexi_rev d (v + 1)
  rw [lexi, ih, Nat.pow_succ, Nat.mul_two, List.range_add, List.map_append, List.map_map, List.map_map]
  congr 1
  ·refine List.map_congr_left fun k hk => ?_
   rw [List.mem_range] at hk
   rw [revF, Nat.testBit_lt_two_pow hk]
   simp
  ·refine List.map_congr_left fun k hk => ?_
   rw [List.mem_range] at hk
   simp only [Function.comp_apply]
   rw [revF, Nat.testBit_two_pow_add_eq, Nat.testBit_lt_two_pow hk, revF_congr d (v + 1) (2 ^ d + k) k (fun i hi => Nat.testBit_two_pow_add_gt hi k)]
   simp
def allN (vars : Nat) (g : Fn') : List Nat := ((List.range (2 ^ vars)).map (revF vars 0)).filter (fun x => g (bitsF x))
theorem allN_kth {vars : Nat} {ns : List Nd} (hg : Good vars ns) (h24 : vars <= 24) {h : Int} (hh : hasB ns h = true) {g : Fn'} (hs : ∀ f, sem ns h f = g f) : allN vars g = (List.range (waysN vars ns h 0)).map (fun i => kthH vars ns vars 0 h i) := by
 have := lexi_kth hg h24 vars 0 h 0 (by omega) hh (topOf_le hg.ranked h).1 (by simp)
 unfold allN
 rw [<- lexi_rev, <- this]
 exact List.filter_congr fun x _ => by rw [Nat.zero_add, hs]
end
section
open Go.RowKit Go.Maps
def ucells (l : List Nat) : List Value := l.map fun (x : Nat) => Value.int .u64 (x : Int)
theorem ucells_snoc (l : List Nat) (x : Nat) : ucells (l ++ [x]) = ucells l ++ [.int .u64 (x : Int)] := by simp [ucells]
def allK (vars : Nat) (g : Fn') (k : Nat) : List Nat := ((List.range k).map (revF vars 0)).filter (fun x => g (bitsF x))
theorem allK_succ (vars : Nat) (g : Fn') (k : Nat) : allK vars g (k + 1) = allK vars g k ++ (if g (bitsF (revF vars 0 k)) = true then [revF vars 0 k] else []) := by
 unfold allK
 rw [List.range_succ, List.map_append, List.filter_append]
 congr 1
 by_cases h : g (bitsF (revF vars 0 k)) = true <;> simp [h]
theorem allK_len (vars : Nat) (g : Fn') (k : Nat) : (allK vars g k).length <= k := by
 unfold allK
 refine Nat.le_trans (List.length_filter_le _ _) ?_
 simp
theorem and1_i64 : ∀ m : Fin 64, bits BinOp.and IntKind.i64 ((m.val : Nat) : Int) 1 = ((m.val % 2 : Nat) : Int) := by decide +kernel
theorem shr1 (k t : Nat) (hk : k < 64) : (bits BinOp.and IntKind.i64 ((k : Int) / 2 ^ t) 1 == 1) = k.testBit t := by
 have e : (k : Int) / 2 ^ t = ((k / 2 ^ t : Nat) : Int) := by simp
 have hd : k / 2 ^ t <= k := Nat.div_le_self _ _
 rw [e, Nat.testBit_eq_decide_div_mod_eq]
 generalize k / 2 ^ t = m at *
 rw [and1_i64 ⟨m, by omega⟩, Bool.eq_iff_iff]
 simp
 omega
theorem or_pow' {o v : Nat} (ho : o < 2 ^ v) (hv : v < 24) : bits BinOp.or IntKind.u64 (o : Int) ((2 : Int) ^ v) = ((o + 2 ^ v : Nat) : Int) := by
 have h24 : 2 ^ v <= 2 ^ 24 := Nat.pow_le_pow_right (by omega) (by omega)
 have h63 : (2 : Nat) ^ 24 < 2 ^ 63 := by decide
 have e : ((2 : Int) ^ v) = ((2 ^ v : Nat) : Int) := by simp
 have := bits_join_low .u64 63 (by decide) (fun n h0 h1 => by rw [IntKind.wrap_u64]; omega) v (o : Int) ((2 ^ v : Nat) : Int) (by omega) (by rw [e]; omega) (by omega) (by omega) (by rw [e, Int.emod_self]) (by omega)
 rw [e, this]; omega
theorem shl_pow' {v : Nat} (hv : v < 24) : IntKind.u64.wrap (2 ^ min v 64) = (2 : Int) ^ v := by
 have h24 : 2 ^ v <= 2 ^ 24 := Nat.pow_le_pow_right (by omega) (by omega)
 have h63 : (2 : Nat) ^ 24 < 2 ^ 63 := by decide
 have e : ((2 : Int) ^ v) = ((2 ^ v : Nat) : Int) := by simp
 rw [show min v 64 = v by omega, e, IntKind.wrap_u64]
 exact Int.emod_eq_of_lt (Int.natCast_nonneg _) (by omega)
theorem revF_step {d v k : Nat} : revF (d + 1) v k = (if k.testBit d then 2 ^ v else 0) + revF d (v + 1) k := rfl
theorem infoUint : (Tryz.prog.info? 65).map (fun i => (i.zero, i.size, i.bytes)) = some (some (.int .u64 0), 1, 8) := by kernel_rfl
theorem row_form {B n : Nat} {w : World} {v : Value} {t : TypeId} {cs : List Value} (h : w.ownsRow B t 1 v n cs) : ∃ a c, v = .slice a n c := by
 rcases h.2 with ⟨e, e0⟩ | ⟨g, cap, cur, e, -⟩
 ·exact ⟨none, 0, by rw [e, e0]⟩
 ·exact ⟨_, _, e⟩
theorem all_any (vars : Nat) (hv0 : 0 < vars) (hv6 : vars <= 6) (g : Nat) (gf : Fn') (w : World) (hB : BoolsAt w g (tabOf vars gf)) :
  Calls Tryz.prog 14 #[.slice (some ⟨g, 0, none⟩) (2 ^ vars) (2 ^ vars), .int .i64 (vars : Int)] w fun e w' => ∃ v, e = .returned v /\ w'.ownsRow w.heap.size 65 1 v (allN vars gf).length (ucells (allN vars gf)) /\ Below w.heap.size w w' := by
 have p6 : 2 ^ vars <= 64 := Nat.pow_le_pow_right (n := 2) (by omega) hv6
 obtain ⟨n, hn⟩ : ∃ n, n = 2 ^ vars := ⟨_, rfl⟩
 obtain ⟨i0, hin, hz0, hz1, hz2⟩ := info_parts infoUint
 have HT : Hid (∀ X, Below w.heap.size w X -> ∀ i, i < n -> X.cell? ⟨g, i, none⟩ = some (.bool (gf (bitsF i)))) := fun X hX i hi => by
  have hl : i < (tabOf vars gf).length := by rw [tabOf_len, <- hn]; exact hi
  rw [hX.cell (p := ⟨g, i, none⟩) hB.lt, hB.cells i hl, tabOf_at]
 have HN := Lib.hid hn
 have hall : allN vars gf = allK vars gf n := by rw [hn]; rfl
 rw [hall, <- hn]
 rw [<- hn] at p6
 clear hB hn hall
 go_enter Tryz.func14, Tryz.ntmps14
 go_wp2_with fail
 go_loopw [5, 11] (fun oV kV wr => ∃ k : Nat, k <= n /\ kV = .int .i64 (k : Int) /\ wr.ownsRow w.heap.size 65 1 oV (allK vars gf k).length (ucells (allK vars gf k)) /\ Below w.heap.size w wr) (fun _ kV _ => n - (intOf kV).toNat)
 case atStart => exact ⟨0, Nat.zero_le _, rfl, World.ownsRow_nil _ _ _ _, Below.refl _ _⟩
 case round =>
  obtain ⟨k, hk, rfl, hrow, hbr⟩ := hrel
  obtain ⟨ra, rc, rfl⟩ := row_form hrow
  have HROW := Lib.hid hrow
  have HBR := Lib.hid hbr
  have hal := allK_len vars gf k
  clear hrow hbr
  by_cases hlt : k < n
  ·go_wp2_with fail
   go_loop [7, 15] (fun xV vV => ∃ v o : Nat, v <= vars /\ vV = .int .i64 (v : Int) /\ xV = .int .u64 (o : Int) /\ o < 2 ^ v /\ o + revF (vars - v) v k = revF vars 0 k) (fun _ vV => vars - (intOf vV).toNat)
   case atStart => exact ⟨0, 0, Nat.zero_le _, rfl, rfl, by simp, by simp⟩
   case round =>
    obtain ⟨v, o, hvl, rfl, rfl, ho, hres⟩ := hrel
    have HO := Lib.hid ho
    have HR := Lib.hid hres
    clear ho hres
    by_cases hv : v < vars
    ·have e1 : (vars : Int) - 1 - (v : Int) = ((vars - (v + 1) : Nat) : Int) := by omega
     have hv24 : v < 24 := by omega
     have hms : vars - (v + 1) < vars - v := by omega
     have hb := shr1 k (vars - (v + 1)) (by omega)
     have hr := HR.out
     rw [show vars - v = (vars - (v + 1)) + 1 by omega, revF_step] at hr
     have hp2 : 2 ^ (v + 1) = 2 ^ v * 2 := Nat.pow_succ ..
     have HP2 := Lib.hid hp2
     have hor := or_pow' HO.out hv24
     have hsh := shl_pow' hv24
     have hw2 : IntKind.u64.wrap ((2 : Int) ^ v) = (2 : Int) ^ v := by rw [show min v 64 = v by omega] at hsh; exact hsh
     have HOR := Lib.hid hor
     have HSH := Lib.hid hsh
     have HW2 := Lib.hid hw2
     clear hor hsh hw2
     clear hp2
     cases hbt : k.testBit (vars - (v + 1)) with
     | false =>
      rw [hbt] at hb
      rw [hbt, if_neg (by simp), Nat.zero_add] at hr
      have HR2 := Lib.hid hr
      clear hbt hr HR
      go_wp2
      go_round
      case rel => exact ⟨v + 1, o, by omega, rfl, rfl, by rw [HP2.out]; have := HO.out; omega, HR2.out⟩
      case measure => simp [intOf]; exact hms
     | true =>
      rw [hbt] at hb
      rw [hbt, if_pos rfl, <- Nat.add_assoc] at hr
      have HR2 := Lib.hid hr
      clear hbt hr HR
      go_wp2
      go_round
      case rel => exact ⟨v + 1, o + 2 ^ v, by omega, rfl, congrArg (Value.int .u64) (by first | exact HOR.out | (rw [HW2.out]; exact HOR.out) | (rw [HSH.out]; exact HOR.out)), by rw [HP2.out]; have := HO.out; omega, HR2.out⟩
      case measure => simp [intOf]; exact hms
    ·obtain rfl : vars = v := by omega
     have hr := HR.out
     rw [Nat.sub_self, revF, Nat.add_zero] at hr
     have hcl := HT.out wr HBR.out o (by rw [HN.out]; exact HO.out)
     have hon : o < n := by rw [HN.out]; exact HO.out
     have HRO := Lib.hid hr
     have HSN := Lib.hid (allK_succ vars gf k)
     rw [<- hr] at HSN
     clear hr HR HO HRO
     cases hgf : gf (bitsF o) with
     | false =>
      rw [hgf] at hcl HSN
      have hsn := HSN.out
      rw [if_neg (by simp), List.append_nil] at hsn
      have HSN2 := Lib.hid hsn
      clear hgf HSN hsn
      go_wp2
      go_roundw
      case rel => exact ⟨k + 1, by omega, rfl, by rw [HSN2.out]; exact HROW.out, HBR.out⟩
      case measure => simp [intOf]; omega
     | true =>
      rw [hgf] at hcl HSN
      have hsn := HSN.out
      rw [if_pos rfl] at hsn
      have HSN2 := Lib.hid hsn
      have hws := HBR.out.size
      clear hgf HSN hsn
      go_wp2_with (at_builtin; refine wpList_append_own_at _ rfl _ _ 41 rfl w.heap.size 65 i0 (.int .u64 0) 1 8 Tryz.underlying41 hin hz0 hz1 hz2 rfl (by decide) _ _ _ rfl (HROW.out.alloc _) ⟨wr.heap.size, 0, none⟩ 1 1 [.int .u64 (o : Int)] rfl rfl ?c1 ?c2 ?c3 ?c4 ?c5 ?_)
      case c2 => first | rfl | trivial | simp | decide
      case c3 => unfold maxLen; omega
      case c4 => omega
      case c5 => omega
      intro v7 w7 hown7 hgrow7 _ hloc7
      have hb7 : Below w.heap.size w w7 := by
       have := (HBR.out.alloc hws (.cells #[.int .u64 (o : Int)] 65)).grown hgrow7 (by simp; omega) (fun k hk => (HROW.out.lt k hk).1)
       exact this
      have e7 : (allK vars gf (k + 1)).length = (allK vars gf k).length + 1 := by rw [HSN2.out]; simp
      rw [<- ucells_snoc, <- HSN2.out, <- e7] at hown7
      have HO7 := Lib.hid hown7
      have HB7 := Lib.hid hb7
      clear hown7 hgrow7 hloc7 hb7 e7
      go_wp2
      go_roundw
      case rel => exact ⟨k + 1, by omega, rfl, HO7.out, HB7.out⟩
      case measure => simp [intOf]; omega
  ·obtain rfl : n = k := by omega
   go_wp2
   refine bodyPost_ret (v := .slice ra (allK vars gf n).length rc) (by simp [results, Tryz.results14, go_sem]) rfl ?_
   exact ⟨_, rfl, HROW.out, HBR.out⟩
end
end Go.Proofs.YtcjjekhecjmaeaaGreatDoor
