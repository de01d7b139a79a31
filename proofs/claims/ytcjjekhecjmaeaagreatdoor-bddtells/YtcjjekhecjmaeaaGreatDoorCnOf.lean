/- The contract of Of. -/
import Derived.Test.YtcjjekhecjmaeaaGreatDoorBdTab
import Derived.Test.YtcjjekhecjmaeaaGreatDoorErTell
set_option maxHeartbeats 1000000
set_option maxRecDepth 100000
namespace Go.Proofs.YtcjjekhecjmaeaaGreatDoor
section
open Go.RowKit Go.Maps
def cntV : Nat -> Nat -> Fn' -> (Nat -> Bool) -> Nat
 | 0, _, g, f => if g f then 1 else 0
 | k + 1, v, g, f => cntV k (v + 1) g (turn f v false) + cntV k (v + 1) g (turn f v true)
theorem turnV_at (f : Nat -> Bool) (v : Nat) (b : Bool) : turn f v b v = b := by unfold turn; rw [if_pos rfl]
theorem turnV_ne (f : Nat -> Bool) {v i : Nat} (b : Bool) (h : i ≠ v) : turn f v b i = f i := by unfold turn; rw [if_neg h]
theorem cntV_congr : ∀ (k v : Nat) {g g' : Fn'} (f : Nat -> Bool), (∀ f', (∀ i, i < v -> f' i = f i) -> g f' = g' f') -> cntV k v g f = cntV k v g' f
 | 0, v, g, g', f, h => by unfold cntV; rw [h f (fun _ _ => rfl)]
 | k + 1, v, g, g', f, h => by
  unfold cntV
  rw [cntV_congr k (v + 1) (turn f v false) (fun f' hf => h f' (fun i hi => by rw [hf i (by omega), turnV_ne f false (by omega)])),
   cntV_congr k (v + 1) (turn f v true) (fun f' hf => h f' (fun i hi => by rw [hf i (by omega), turnV_ne f true (by omega)]))]
theorem cntV_any : ∀ (k v : Nat) {g : Fn'}, (∀ f f' : Nat -> Bool, (∀ i, v <= i -> f i = f' i) -> g f = g f') -> ∀ f f' : Nat -> Bool, (∀ i, v + k <= i -> f i = f' i) -> cntV k v g f = cntV k v g f'
 | 0, v, g, hg, f, f', h => by unfold cntV; rw [hg f f' (fun i hi => h i (by omega))]
 | k + 1, v, g, hg, f, f', h => by
  have key : ∀ (k v u : Nat) (g : Fn') (f f' : Nat -> Bool), u <= v -> (∀ f f' : Nat -> Bool, (∀ i, u <= i -> f i = f' i) -> g f = g f') -> (∀ i, u <= i -> (i < v \/ v + k <= i) -> f i = f' i) -> cntV k v g f = cntV k v g f' := by
   intro k
   induction k with
   | zero => intro v u g f f' _ hg h; unfold cntV; rw [hg f f' (fun i hi => h i hi (by omega))]
   | succ k ih =>
    intro v u g f f' huv hg h
    unfold cntV
    have e : ∀ b, cntV k (v + 1) g (turn f v b) = cntV k (v + 1) g (turn f' v b) := fun b => ih (v + 1) u g _ _ (by omega) hg (fun i hi hc => by
     by_cases hiv : i = v
     ·subst hiv; rw [turnV_at, turnV_at]
     ·rw [turnV_ne f b hiv, turnV_ne f' b hiv]; exact h i hi (by omega))
    rw [e false, e true]
  exact key (k + 1) v v g f f' (Nat.le_refl _) hg (fun i _ hc => h i (by omega))
theorem cntV_not (p : Fn') : ∀ (k v : Nat) (f : Nat -> Bool), cntV k v p f + cntV k v (fun f => !(p f)) f = 2 ^ k
 | 0, v, f => by unfold cntV; by_cases hp : p f = true <;> simp [hp]
 | k + 1, v, f => by
  unfold cntV
  have h1 := cntV_not p k (v + 1) (turn f v false)
  have h2 := cntV_not p k (v + 1) (turn f v true)
  rw [Nat.pow_succ]
  omega
theorem cntV_le (p : Fn') (k v : Nat) (f : Nat -> Bool) : cntV k v p f <= 2 ^ k := by have := cntV_not p k v f; omega
def waysN (vars : Nat) (ns : List Nd) (h : Int) (v : Nat) : Nat := cntV (vars - v) v (sem ns h) (fun _ => false)
def topN (vars : Nat) (ns : List Nd) (h : Int) : Nat := min (topOf ns h).toNat vars
def belowN (vars : Nat) (ns : List Nd) (h : Int) : Nat := waysN vars ns h (topN vars ns h)
section
variable {vars : Nat} {ns : List Nd}
theorem sem_from (hg : Good vars ns) {h : Int} {v : Nat} (hv : (v : Int) <= topOf ns h) : ∀ f f' : Nat -> Bool, (∀ i, v <= i -> f i = f' i) -> sem ns h f = sem ns h f' := fun f f' hf =>
 sem_agree hg.ranked (fun i hi => hf i (by omega))
theorem ways_gap (hg : Good vars ns) {h : Int} : ∀ (d v : Nat), v + d = topN vars ns h -> waysN vars ns h v = belowN vars ns h * 2 ^ d
 | 0, v, e => by
  have : v = topN vars ns h := by omega
  subst this; simp [belowN]
 | d + 1, v, e => by
  have h0 := (topOf_le hg.ranked h).1
  have hvt : ((v + 1 : Nat) : Int) <= topOf ns h := by unfold topN at e; omega
  have hvv : v < vars := by unfold topN at e; omega
  have ih := ways_gap hg (h := h) d (v + 1) (by omega)
  have hs := sem_from hg (h := h) (v := v + 1) hvt
  unfold waysN at ih ⊢
  rw [show vars - v = (vars - (v + 1)) + 1 by omega]
  unfold cntV
  rw [cntV_any _ (v + 1) hs (turn (fun _ => false) v false) (fun _ => false) (fun i hi => turnV_ne _ _ (by omega)),
   cntV_any _ (v + 1) hs (turn (fun _ => false) v true) (fun _ => false) (fun i hi => turnV_ne _ _ (by omega)), ih, Nat.pow_succ]
  rw [<- Nat.mul_assoc]; omega
theorem below_end {h : Int} (hh : hasB ns h = true) (ht : topOf ns h = 24) (hv : vars <= 24) : belowN vars ns h = h.toNat := by
 have e : topN vars ns h = vars := by unfold topN; rw [ht]; simp; omega
 unfold belowN waysN
 rw [e, Nat.sub_self]
 unfold cntV
 rcases end_of hh ht with rfl | rfl
 ·rw [sem_false]; rfl
 ·rw [sem_true]; rfl
theorem below_node (hg : Good vars ns) {h : Int} (ht : topOf ns h ≠ 24) : belowN vars ns h = waysN vars ns (nd ns (pl h)).l ((topOf ns h).toNat + 1) + waysN vars ns (nd ns (pl h)).h ((topOf ns h).toNat + 1) := by
 have hv := top_vars hg ht
 have h0 := (topOf_le hg.ranked h).1
 obtain ⟨k1, -, k2, -⟩ := kids hg.ranked ht
 obtain ⟨v, e⟩ : ∃ v : Nat, topOf ns h = (v : Int) := ⟨(topOf ns h).toNat, by omega⟩
 have et : topN vars ns h = v := by unfold topN; rw [e]; simp; omega
 have en := sem_node hg.ranked ht
 unfold belowN
 rw [et]
 rw [e] at hv k1 k2 en ⊢
 rw [Int.toNat_natCast] at en ⊢
 unfold waysN
 rw [show vars - v = (vars - (v + 1)) + 1 by omega]
 rw [cntV]
 have hl := sem_from hg (h := (nd ns (pl h)).l) (v := v + 1) (by omega)
 have hh := sem_from hg (h := (nd ns (pl h)).h) (v := v + 1) (by omega)
 have e1 : cntV (vars - (v + 1)) (v + 1) (sem ns h) (turn (fun _ => false) v false) = cntV (vars - (v + 1)) (v + 1) (sem ns (nd ns (pl h)).l) (turn (fun _ => false) v false) :=
  cntV_congr _ _ _ (fun f' hf => by
   have : f' v = false := by rw [hf v (by omega), turnV_at]
   rw [en f', this]; rfl)
 have e2 : cntV (vars - (v + 1)) (v + 1) (sem ns h) (turn (fun _ => false) v true) = cntV (vars - (v + 1)) (v + 1) (sem ns (nd ns (pl h)).h) (turn (fun _ => false) v true) :=
  cntV_congr _ _ _ (fun f' hf => by
   have : f' v = true := by rw [hf v (by omega), turnV_at]
   rw [en f', this]; rfl)
 rw [e1, e2, cntV_any _ (v + 1) hl (turn (fun _ => false) v false) (fun _ => false) (fun i hi => turnV_ne _ _ (by omega)),
  cntV_any _ (v + 1) hh (turn (fun _ => false) v true) (fun _ => false) (fun i hi => turnV_ne _ _ (by omega))]
end
end
section
open Go.RowKit Num Go.Sort
theorem Dig.take {k : IntKind} {w : World} {a : Option Addr} {cap n : Nat} {ds : List Nat} (h : Dig k w (.slice a ds.length cap) ds) (hn : n <= ds.length) : Dig k w (.slice a n cap) (ds.take n) := by
 obtain ⟨a', cap', hv, hc, hi⟩ := h
 cases hv
 have hl : (ds.take n).length = n := by rw [List.length_take, Nat.min_eq_left hn]
 refine ⟨a, cap, by rw [hl], by omega, fun i hlt => ?_⟩
 rw [hl] at hlt
 obtain ⟨b, off, ha, hb, hcell⟩ := hi i (by omega)
 exact ⟨b, off, ha, hb, by rw [dig_take, if_pos hlt]; exact hcell⟩
theorem Dig.setCell {k : IntKind} {w : World} {v : Value} {ds : List Nat} {B : Nat} (h : Dig k w v ds) (hb : w.heap.size <= B) {W : World} (hW : Below w.heap.size w W) (u : Value) : Dig k (W.setCell ⟨B, 0, none⟩ u) v ds :=
 h.below (hW.setCell hb u)
theorem trimmed_any (v : Value) (ds : List Nat) (w : World) (hd : Dig .u64 w v ds) (sm : ∀ i, dig ds i < 1000000000) (hl : ds.length <= 100000) :
  Calls Tryz.prog 142 #[v] w fun e w' => ∃ v', e = .returned (.agg #[v']) /\ ∃ ds', Dig .u64 w' v' ds' /\ Norm 1000000000 ds' /\ val 1000000000 ds' = val 1000000000 ds /\ ds'.length <= ds.length /\ Below w.heap.size w w' := by
 obtain ⟨a, cap, hv, hc, hcell⟩ := id hd
 subst hv
 have HC : Hid (∀ i, i < ds.length -> ∃ b off, a = some ⟨b, off, none⟩ /\ b < w.heap.size /\ w.cell? ⟨b, off + i, none⟩ = some (.int .u64 ((dig ds i : Nat) : Int))) := hcell
 clear hcell
 go_enter Tryz.func142, Tryz.ntmps142
 go_wp2_with fail
 go_loop [3] (fun n => ∃ k : Nat, k <= ds.length /\ n = .int .i64 k /\ ∀ i, k <= i -> dig ds i = 0) (fun n => (intOf n).toNat)
 case atStart => exact ⟨ds.length, Nat.le_refl _, rfl, fun i hi => dig_beyond ds i hi⟩
 case round =>
  obtain ⟨k, hk, rfl, hz⟩ := hrel
  have HZ : Hid (∀ i, k <= i -> dig ds i = 0) := hz
  clear hz
  by_cases h0 : k = 0
  ·subst h0
   have hx := norm_take (B := 1000000000) (k := 0) (by omega) sm (Nat.zero_le _) (fun h => absurd rfl h)
   have hval := val_take (B := 1000000000) (k := 0) (Nat.zero_le _) HZ.out
   have hnil : ds.take 0 = [] := rfl
   rw [hnil] at hx hval
   go_wp2
   refine bodyPost_ret (v := .agg #[.slice none 0 0]) (by simp [results, Tryz.results142, go_sem]) rfl ?_
   exact ⟨_, rfl, [], Dig.nil _ _, hx, hval, Nat.zero_le _, (Below.refl _ _).alloc (Nat.le_refl _) _⟩
  ·obtain ⟨j, rfl⟩ : ∃ j, k = j + 1 := ⟨k - 1, by omega⟩
   obtain ⟨b, off, ha, hb, hcl⟩ := HC.out j (by omega)
   subst ha
   have hne : ¬ b = w.heap.size := by omega
   have hj := sm j
   by_cases hzj : dig ds j = 0
   ·rw [hzj] at hcl
    go_wp2
    go_round
    case rel =>
     refine ⟨j, by omega, by go_num, fun i hi => ?_⟩
     by_cases e : i = j
     ·rw [e]; exact hzj
     ·exact HZ.out i (by omega)
    case measure => simp [intOf]
   ·have hbq : (((dig ds j : Nat) : Int) == 0) = false := by rw [beq_eq_false_iff_ne]; omega
    have hx := norm_take (B := 1000000000) (k := j + 1) (by omega) sm hk (fun _ => hzj)
    have hval := val_take (B := 1000000000) hk HZ.out
    have hDt := Dig.take hd hk
    clear hzj
    go_wp2
    refine bodyPost_ret (v := .agg #[.slice (some ⟨b, off, none⟩) (j + 1) cap]) (by simp [results, Tryz.results142, go_sem]) rfl ?_
    exact ⟨_, rfl, ds.take (j + 1), hDt.below ((Below.refl _ _).alloc (Nat.le_refl _) _), hx, hval, by rw [List.length_take]; omega, (Below.refl _ _).alloc (Nat.le_refl _) _⟩
end
section
open Go.RowKit Num Go.Sort
theorem infoU64 : (Tryz.prog.info? 90).map (fun i => (i.zero, i.size, i.bytes)) = some (some (.int .u64 0), 1, 8) := by kernel_rfl
theorem of_any (n : Int) (w : World) (h0 : -9223372036854775808 <= n) (h1 : n <= 9223372036854775807) :
  Calls Tryz.prog 108 #[.int .i64 n] w fun e w' => ∃ v, e = .returned (.agg #[v]) /\ ∃ ds, Dig .u64 w' v ds /\ Norm 1000000000 ds /\ val 1000000000 ds = n.toNat /\ Below w.heap.size w w' := by
 obtain ⟨i0, hi, hz0, hz1, hz2⟩ := info_parts infoU64
 go_enter Tryz.func108, Tryz.ntmps108
 go_wp2_with fail
 go_loopw [0, 3] (fun i v wr => ∃ (ds : List Nat) (m : Int) (a : Option Addr) (cap : Nat), i = .int .i64 m /\ v = .slice a ds.length cap /\ -9223372036854775808 <= m /\ m <= 9223372036854775807 /\ (∀ i, dig ds i < 1000000000) /\ (m <= 0 -> ds.length ≠ 0 -> dig ds (ds.length - 1) ≠ 0) /\ val 1000000000 ds + m.toNat * 1000000000 ^ ds.length = n.toNat /\ wr.ownsRow (w.heap.size + 1) 90 1 (.slice a ds.length cap) ds.length (dcells .u64 ds) /\ Below (w.heap.size + 1) (w.alloc (.cells #[.slice none 0 0] 30)) wr)
   (fun i _ _ => (intOf i).toNat)
 case atStart => exact ⟨[], n, none, 0, rfl, rfl, h0, h1, fun i => by rw [dig_nil]; omega, fun _ h => absurd rfl h, by simp [val_nil], World.ownsRow_nil _ _ _ _, Below.refl _ _⟩
 case round =>
  obtain ⟨ds, m, a, cap, rfl, rfl, hm0, hm1, hsm, hlast, hval, hown, hbel⟩ := hrel
  have HV := hval
  by_cases hpos : 0 < m
  ·obtain ⟨m, rfl⟩ := Int.eq_ofNat_of_zero_le (show 0 <= m by omega)
   rw [Int.toNat_natCast] at hval
   have hlen := of_len (by omega) (by omega) hval
   have hsz := hbel.size
   simp only [World.size_alloc] at hsz
   go_wp2_with (at_builtin; refine wpList_append_own _ rfl _ _ 28 rfl (w.heap.size + 1) 90 i0 (.int .u64 0) 1 8 Tryz.underlying28 hi hz0 hz1 hz2 rfl (by decide) _ _ _ rfl (hown.alloc _) ⟨wr.heap.size, 0, none⟩ 1 1 [.int .u64 ((m : Int) % 1000000000)] rfl rfl ?c1 ?c2 ?c3 ?c4 ?c5 ?_)
   case c1 => exact cell_one_new _ _ _
   case c2 => intro u hu; simp at hu; subst hu; rfl
   case c3 => unfold maxLen; omega
   case c4 => omega
   case c5 => simp; omega
   ·intro v' w1 hown' hgrow _
    have hbel' : Below (w.heap.size + 1) (w.alloc (.cells #[.slice none 0 0] 30)) w1 := (hbel.alloc (by omega) _).grown hgrow (by simp; omega) (fun k hk => (hown.lt k hk).1)
    obtain ⟨a', cap', hv, -⟩ := owns_form hown'
    clear hown hgrow hbel
    go_wp2
    go_roundw
    case rel =>
     refine ⟨ds ++ [m % 1000000000], ((m / 1000000000 : Nat) : Int), a', cap', by go_num, by rw [hv]; simp, by omega, by omega, small_snoc hsm (by omega), fun h _ => ?_, ?_, ?_, hbel'⟩
     ·rw [last_snoc]; omega
     ·rw [Int.toNat_natCast]; exact of_step hval
     ·rw [hv] at hown'
      rw [dcells_snoc]
      simpa using hown'
    case measure => simp [intOf]; omega
  ·have hc : wr.cell? ⟨w.heap.size, 0, none⟩ = some (.slice none 0 0) := (hbel.cell (p := ⟨w.heap.size, 0, none⟩) (by simp)).trans (by simp)
   have hf : wr.frozen? ⟨w.heap.size, 0, none⟩ = false := (hbel.frozen (p := ⟨w.heap.size, 0, none⟩) (by simp)).trans (by simp)
   have hcs : (wr.setCell ⟨w.heap.size, 0, none⟩ (.slice a ds.length cap)).cell? ⟨w.heap.size, 0, none⟩ = some (.slice a ds.length cap) := World.cell?_setCell_same' _ _ _ (by simp [hc])
   go_wp2
   refine bodyPost_ret (v := .agg #[.slice a ds.length cap]) (by simp [results, Tryz.results108, go_sem, hcs]) rfl ?_
   refine ⟨.slice a ds.length cap, rfl, ds, Dig.of_owns (ownsRow_setCell_below hown (Nat.lt_succ_self _) _), ⟨hsm, hlast (by omega)⟩, ?_, ?_⟩
   ·have : m.toNat = 0 := by omega
    rw [this] at hval; simpa using hval
   ·exact (((Below.refl _ _).alloc (Nat.le_refl _) _).trans (hbel.mono (by omega))).setCell (Nat.le_refl _) _
end
end Go.Proofs.YtcjjekhecjmaeaaGreatDoor
