/- All values, in the order in which Kth counts. -/
import Derived.Test.YtfodcmcmbjopaaaDoorBdSem
import Derived.WalkSmall
import Derived.Test.YtfodcmcmbjopaaaDoorBdFun
namespace Go.Proofs.YtfodcmcmbjopaaaDoor
open Go.RowKit Go.Maps

/-- Values as a function: bit v is variable v. -/
def bitsF (n : Nat) : Nat → Bool := fun i => n.testBit i

theorem shr_bit (vals v : Nat) (hv : vals < 18446744073709551616) : (bits BinOp.and IntKind.u64 ((vals : Int) / 2 ^ v) 1 == 1) = bitsF vals v := by
  have e : (vals : Int) / 2 ^ v = ((vals / 2 ^ v : Nat) : Int) := by simp
  have hd : vals / 2 ^ v ≤ vals := Nat.div_le_self _ _
  generalize hm : vals / 2 ^ v = m at *
  rw [e, and_one_u64 _ (by omega) (by omega)]
  have hb : bitsF vals v = decide (m % 2 = 1) := by unfold bitsF; rw [Nat.testBit_eq_decide_div_mod_eq, hm]
  rw [hb, Bool.eq_iff_iff]
  simp
  omega

end Go.Proofs.YtfodcmcmbjopaaaDoor

namespace Go.Proofs.YtfodcmcmbjopaaaDoor
open Go.RowKit Go.Maps

theorem bits_or (i v : Nat) : bitsF (i ||| 1 <<< v) = turn (bitsF i) v true := by
  funext k
  unfold bitsF turn
  rw [Nat.testBit_or, Nat.one_shiftLeft, Nat.testBit_two_pow]
  by_cases h : k = v
  · simp [h]
  · rw [if_neg h, decide_eq_false (fun e => h e.symm), Bool.or_false]

/-- The table of a function. -/
def tabOf (vars : Nat) (g : Fn') : List Bool := (List.range (2 ^ vars)).map fun i => g (bitsF i)
theorem tabOf_len (vars : Nat) (g : Fn') : (tabOf vars g).length = 2 ^ vars := by simp [tabOf]
theorem tabOf_at (vars : Nat) (g : Fn') (i : Nat) (h : i < (tabOf vars g).length) : (tabOf vars g)[i] = g (bitsF i) := by simp [tabOf]

/-- Values of the first variables as a number. -/
def numOf' (f : Nat → Bool) : Nat → Nat
  | 0 => 0
  | n + 1 => numOf' f n + (if f n then 2 ^ n else 0)
theorem numOf_lt (f : Nat → Bool) : ∀ n, numOf' f n < 2 ^ n
  | 0 => by simp [numOf']
  | n + 1 => by
    have := numOf_lt f n
    unfold numOf'
    rw [Nat.pow_succ]
    split <;> omega
theorem numOf_bit (f : Nat → Bool) : ∀ n i, i < n → bitsF (numOf' f n) i = f i
  | n + 1, i, h => by
    have hl := numOf_lt f n
    unfold numOf' bitsF
    by_cases e : i = n
    · subst e
      cases hf : f i with
      | true =>
        rw [if_pos rfl, Nat.add_comm, Nat.testBit_two_pow_add_eq, Nat.testBit_lt_two_pow hl]; rfl
      | false =>
        rw [if_neg (by simp), Nat.add_zero, Nat.testBit_lt_two_pow hl]
    · have hi : i < n := by omega
      have ih := numOf_bit f n i hi
      unfold bitsF at ih
      cases hf : f n with
      | true =>
        rw [if_pos rfl, Nat.add_comm, Nat.testBit_two_pow_add_gt hi, ih]
      | false =>
        rw [if_neg (by simp), Nat.add_zero, ih]

/-- A function hangs on the variables that there are alone. -/
theorem semF_vars {vars : Nat} {ns : List Nd} (hg : Good vars ns) {f g : Nat → Bool} (hfg : ∀ i, i < vars → f i = g i) : ∀ (d : Nat) (h : Int), semF d ns h f = semF d ns h g
  | 0, _ => rfl
  | d + 1, h => by
    unfold semF
    by_cases ht : topOf ns h = 24
    · rw [if_pos ht, if_pos ht]
    · have hv := top_vars hg ht
      have h0 := (topOf_le hg.ranked h).1
      rw [if_neg ht, if_neg ht, hfg (topOf ns h).toNat (by omega), semF_vars hg hfg d, semF_vars hg hfg d]
theorem sem_vars {vars : Nat} {ns : List Nd} (hg : Good vars ns) {f g : Nat → Bool} (hfg : ∀ i, i < vars → f i = g i) (h : Int) : sem ns h f = sem ns h g := semF_vars hg hfg 24 h

/-- Two handles are the same just if their tables are. -/
theorem same_tab {vars : Nat} {ns : List Nd} (hg : Good vars ns) {a b : Int} {p q : Fn'} (ha : hasB ns a = true) (hb : hasB ns b = true) (hp : ∀ f, sem ns a f = p f) (hq : ∀ f, sem ns b f = q f) : a = b ↔ tabOf vars p = tabOf vars q := by
  constructor
  · rintro rfl
    unfold tabOf
    exact List.map_congr_left fun i _ => by rw [← hp, ← hq]
  · intro e
    refine same_handle hg ha hb fun f => ?_
    have hl := numOf_lt f vars
    have hf : ∀ i, i < vars → f i = bitsF (numOf' f vars) i := fun i hi => (numOf_bit f vars i hi).symm
    rw [sem_vars hg hf a, sem_vars hg hf b, hp, hq]
    have h1 := tabOf_at vars p (numOf' f vars) (by rw [tabOf_len]; exact hl)
    have h2 := tabOf_at vars q (numOf' f vars) (by rw [tabOf_len]; exact hl)
    rw [← h1, ← h2]
    simp only [e]
end Go.Proofs.YtfodcmcmbjopaaaDoor

namespace Go.Proofs.YtfodcmcmbjopaaaDoor
open Go.RowKit Go.Maps

/-- Of how many values of k variables, from v on, the others as in f. -/
def cntV : Nat → Nat → Fn' → (Nat → Bool) → Nat
  | 0, _, g, f => if g f then 1 else 0
  | k + 1, v, g, f => cntV k (v + 1) g (turn f v false) + cntV k (v + 1) g (turn f v true)

theorem turnV_at (f : Nat → Bool) (v : Nat) (b : Bool) : turn f v b v = b := by unfold turn; rw [if_pos rfl]
theorem turnV_ne (f : Nat → Bool) {v i : Nat} (b : Bool) (h : i ≠ v) : turn f v b i = f i := by unfold turn; rw [if_neg h]

/-- It hangs on what is behind alone. -/
theorem cntV_congr : ∀ (k v : Nat) {g g' : Fn'} (f : Nat → Bool), (∀ f', (∀ i, i < v → f' i = f i) → g f' = g' f') → cntV k v g f = cntV k v g' f
  | 0, v, g, g', f, h => by unfold cntV; rw [h f (fun _ _ => rfl)]
  | k + 1, v, g, g', f, h => by
    unfold cntV
    rw [cntV_congr k (v + 1) (turn f v false) (fun f' hf => h f' (fun i hi => by rw [hf i (by omega), turnV_ne f false (by omega)])),
      cntV_congr k (v + 1) (turn f v true) (fun f' hf => h f' (fun i hi => by rw [hf i (by omega), turnV_ne f true (by omega)]))]

/-- What the others are does not matter, if the function does not hang on them. -/
theorem cntV_any : ∀ (k v : Nat) {g : Fn'}, (∀ f f' : Nat → Bool, (∀ i, v ≤ i → f i = f' i) → g f = g f') → ∀ f f' : Nat → Bool, (∀ i, v + k ≤ i → f i = f' i) → cntV k v g f = cntV k v g f'
  | 0, v, g, hg, f, f', h => by unfold cntV; rw [hg f f' (fun i hi => h i (by omega))]
  | k + 1, v, g, hg, f, f', h => by
    have key : ∀ (k v u : Nat) (g : Fn') (f f' : Nat → Bool), u ≤ v → (∀ f f' : Nat → Bool, (∀ i, u ≤ i → f i = f' i) → g f = g f') → (∀ i, u ≤ i → (i < v ∨ v + k ≤ i) → f i = f' i) → cntV k v g f = cntV k v g f' := by
      intro k
      induction k with
      | zero => intro v u g f f' _ hg h; unfold cntV; rw [hg f f' (fun i hi => h i hi (by omega))]
      | succ k ih =>
        intro v u g f f' huv hg h
        unfold cntV
        have e : ∀ b, cntV k (v + 1) g (turn f v b) = cntV k (v + 1) g (turn f' v b) := fun b => ih (v + 1) u g _ _ (by omega) hg (fun i hi hc => by
          by_cases hiv : i = v
          · subst hiv; rw [turnV_at, turnV_at]
          · rw [turnV_ne f b hiv, turnV_ne f' b hiv]; exact h i hi (by omega))
        rw [e false, e true]
    exact key (k + 1) v v g f f' (Nat.le_refl _) hg (fun i _ hc => h i (by omega))

theorem cntV_or_and (p q : Fn') : ∀ (k v : Nat) (f : Nat → Bool), cntV k v (fun f => p f || q f) f + cntV k v (fun f => p f && q f) f = cntV k v p f + cntV k v q f
  | 0, v, f => by unfold cntV; by_cases hp : p f = true <;> by_cases hq : q f = true <;> simp [hp, hq]
  | k + 1, v, f => by
    unfold cntV
    have h1 := cntV_or_and p q k (v + 1) (turn f v false)
    have h2 := cntV_or_and p q k (v + 1) (turn f v true)
    omega
theorem cntV_not (p : Fn') : ∀ (k v : Nat) (f : Nat → Bool), cntV k v p f + cntV k v (fun f => !(p f)) f = 2 ^ k
  | 0, v, f => by unfold cntV; by_cases hp : p f = true <;> simp [hp]
  | k + 1, v, f => by
    unfold cntV
    have h1 := cntV_not p k (v + 1) (turn f v false)
    have h2 := cntV_not p k (v + 1) (turn f v true)
    rw [Nat.pow_succ]
    omega
theorem cntV_le (p : Fn') (k v : Nat) (f : Nat → Bool) : cntV k v p f ≤ 2 ^ k := by have := cntV_not p k v f; omega

/-- A handle's, from a variable on. -/
def waysN (vars : Nat) (ns : List Nd) (h : Int) (v : Nat) : Nat := cntV (vars - v) v (sem ns h) (fun _ => false)
/-- .. from its own. -/
def topN (vars : Nat) (ns : List Nd) (h : Int) : Nat := min (topOf ns h).toNat vars
def belowN (vars : Nat) (ns : List Nd) (h : Int) : Nat := waysN vars ns h (topN vars ns h)

section
variable {vars : Nat} {ns : List Nd}

theorem sem_from (hg : Good vars ns) {h : Int} {v : Nat} (hv : (v : Int) ≤ topOf ns h) : ∀ f f' : Nat → Bool, (∀ i, v ≤ i → f i = f' i) → sem ns h f = sem ns h f' := fun f f' hf =>
  sem_agree hg.ranked (fun i hi => hf i (by omega))

/-- A variable that is skipped doubles them. -/
theorem ways_gap (hg : Good vars ns) {h : Int} : ∀ (d v : Nat), v + d = topN vars ns h → waysN vars ns h v = belowN vars ns h * 2 ^ d
  | 0, v, e => by
    have : v = topN vars ns h := by omega
    subst this; simp [belowN]
  | d + 1, v, e => by
    have h0 := (topOf_le hg.ranked h).1
    have hvt : ((v + 1 : Nat) : Int) ≤ topOf ns h := by unfold topN at e; omega
    have hvv : v < vars := by unfold topN at e; omega
    have ih := ways_gap hg (h := h) d (v + 1) (by omega)
    have hs := sem_from hg (h := h) (v := v + 1) hvt
    unfold waysN at ih ⊢
    rw [show vars - v = (vars - (v + 1)) + 1 by omega]
    unfold cntV
    rw [cntV_any _ (v + 1) hs (turn (fun _ => false) v false) (fun _ => false) (fun i hi => turnV_ne _ _ (by omega)),
      cntV_any _ (v + 1) hs (turn (fun _ => false) v true) (fun _ => false) (fun i hi => turnV_ne _ _ (by omega)), ih, Nat.pow_succ]
    rw [← Nat.mul_assoc]; omega

theorem below_end {h : Int} (hh : hasB ns h = true) (ht : topOf ns h = 24) (hv : vars ≤ 24) : belowN vars ns h = h.toNat := by
  have e : topN vars ns h = vars := by unfold topN; rw [ht]; simp; omega
  unfold belowN waysN
  rw [e, Nat.sub_self]
  unfold cntV
  rcases end_of hh ht with rfl | rfl
  · rw [sem_false]; rfl
  · rw [sem_true]; rfl

theorem below_node (hg : Good vars ns) {h : Int} (ht : topOf ns h ≠ 24) : belowN vars ns h = waysN vars ns (nd ns (pl h)).l ((topOf ns h).toNat + 1) + waysN vars ns (nd ns (pl h)).h ((topOf ns h).toNat + 1) := by
  have hv := top_vars hg ht
  have h0 := (topOf_le hg.ranked h).1
  obtain ⟨k1, -, k2, -⟩ := kids hg.ranked ht
  obtain ⟨v, e⟩ : ∃ v : Nat, topOf ns h = (v : Int) := ⟨(topOf ns h).toNat, by omega⟩
  have et : topN vars ns h = v := by unfold topN; rw [e]; simp; omega
  have en := sem_node hg.ranked ht
  unfold belowN
  rw [et]
  rw [e] at hv k1 k2 en ⊢
  rw [Int.toNat_natCast] at en ⊢
  unfold waysN
  rw [show vars - v = (vars - (v + 1)) + 1 by omega]
  rw [cntV]
  have hl := sem_from hg (h := (nd ns (pl h)).l) (v := v + 1) (by omega)
  have hh := sem_from hg (h := (nd ns (pl h)).h) (v := v + 1) (by omega)
  have e1 : cntV (vars - (v + 1)) (v + 1) (sem ns h) (turn (fun _ => false) v false) = cntV (vars - (v + 1)) (v + 1) (sem ns (nd ns (pl h)).l) (turn (fun _ => false) v false) :=
    cntV_congr _ _ _ (fun f' hf => by
      have : f' v = false := by rw [hf v (by omega), turnV_at]
      rw [en f', this]; rfl)
  have e2 : cntV (vars - (v + 1)) (v + 1) (sem ns h) (turn (fun _ => false) v true) = cntV (vars - (v + 1)) (v + 1) (sem ns (nd ns (pl h)).h) (turn (fun _ => false) v true) :=
    cntV_congr _ _ _ (fun f' hf => by
      have : f' v = true := by rw [hf v (by omega), turnV_at]
      rw [en f', this]; rfl)
  rw [e1, e2, cntV_any _ (v + 1) hl (turn (fun _ => false) v false) (fun _ => false) (fun i hi => turnV_ne _ _ (by omega)),
    cntV_any _ (v + 1) hh (turn (fun _ => false) v true) (fun _ => false) (fun i hi => turnV_ne _ _ (by omega))]

/-- All of them. -/
theorem ways_all (hg : Good vars ns) {h : Int} : waysN vars ns h 0 = belowN vars ns h * 2 ^ topN vars ns h := ways_gap hg _ 0 (by omega)
theorem ways_is {g : Fn'} {h : Int} (hs : ∀ f, sem ns h f = g f) : waysN vars ns h 0 = cntV vars 0 g (fun _ => false) := by
  unfold waysN
  rw [Nat.sub_zero, show sem ns h = g from funext hs]
end
end Go.Proofs.YtfodcmcmbjopaaaDoor

namespace Go.Proofs.YtfodcmcmbjopaaaDoor
open Go.RowKit Go.Maps

section
variable {vars : Nat} {ns : List Nd}

theorem ways_sides (hg : Good vars ns) (h24 : vars ≤ 24) {h : Int} {v : Nat} (hh : hasB ns h = true) (hv : v < vars) (ht : (v : Int) ≤ topOf ns h) :
    waysN vars ns h v = waysN vars ns (loS ns h v) (v + 1) + waysN vars ns (hiS ns h v) (v + 1) := by
  have hl := (loS_has hg.ranked (v := (v : Int)) (by omega) hh).2.1 ht
  have hi := (hiS_has hg.ranked (v := (v : Int)) (by omega) hh).2.1 ht
  have sl := sem_from hg (h := loS ns h v) (v := v + 1) (by omega)
  have si := sem_from hg (h := hiS ns h v) (v := v + 1) (by omega)
  unfold waysN
  rw [show vars - v = (vars - (v + 1)) + 1 by omega]
  rw [cntV]
  have e1 : cntV (vars - (v + 1)) (v + 1) (sem ns h) (turn (fun _ => false) v false) = cntV (vars - (v + 1)) (v + 1) (sem ns (loS ns h v)) (turn (fun _ => false) v false) :=
    cntV_congr _ _ _ (fun f' hf => by
      have : f' v = false := by rw [hf v (by omega), turnV_at]
      rw [sem_sides (v := (v : Int)) hg.ranked (by omega) f', Int.toNat_natCast, this]; rfl)
  have e2 : cntV (vars - (v + 1)) (v + 1) (sem ns h) (turn (fun _ => false) v true) = cntV (vars - (v + 1)) (v + 1) (sem ns (hiS ns h v)) (turn (fun _ => false) v true) :=
    cntV_congr _ _ _ (fun f' hf => by
      have : f' v = true := by rw [hf v (by omega), turnV_at]
      rw [sem_sides (v := (v : Int)) hg.ranked (by omega) f', Int.toNat_natCast, this]; rfl)
  rw [e1, e2, cntV_any _ (v + 1) sl (turn (fun _ => false) v false) (fun _ => false) (fun i hi => turnV_ne _ _ (by omega)),
    cntV_any _ (v + 1) si (turn (fun _ => false) v true) (fun _ => false) (fun i hi => turnV_ne _ _ (by omega))]

/-- From variable v on, d of them. -/
def kthH (vars : Nat) (ns : List Nd) : Nat → Nat → Int → Nat → Nat
  | 0, _, _, _ => 0
  | d + 1, v, h, k => if k < waysN vars ns (loS ns h v) (v + 1) then kthH vars ns d (v + 1) (loS ns h v) k else 2 ^ v + kthH vars ns d (v + 1) (hiS ns h v) (k - waysN vars ns (loS ns h v) (v + 1))

theorem kthH_mul : ∀ (d v : Nat) (h : Int) (k : Nat), ∃ m, kthH vars ns d v h k = 2 ^ v * m ∧ m < 2 ^ d
  | 0, v, h, k => ⟨0, by simp [kthH], by simp⟩
  | d + 1, v, h, k => by
    unfold kthH
    split
    · obtain ⟨m, e, hm⟩ := kthH_mul d (v + 1) (loS ns h v) k
      exact ⟨2 * m, by rw [e, Nat.pow_succ, Nat.mul_assoc], by rw [Nat.pow_succ]; omega⟩
    · obtain ⟨m, e, hm⟩ := kthH_mul d (v + 1) (hiS ns h v) (k - waysN vars ns (loS ns h v) (v + 1))
      exact ⟨1 + 2 * m, by rw [e, Nat.pow_succ, Nat.mul_add, Nat.mul_one, Nat.mul_assoc], by rw [Nat.pow_succ]; omega⟩

theorem bits_low {y v m : Nat} (hy : y < 2 ^ v) (i : Nat) (hi : i < v) : bitsF (y + 2 ^ v * m) i = bitsF y i := by
  unfold bitsF
  rw [Nat.add_comm, Nat.testBit_two_pow_mul_add _ hy, if_pos hi]
theorem bits_over {y v i : Nat} (hy : y < 2 ^ v) (hi : v ≤ i) : bitsF y i = false :=
  Nat.testBit_lt_two_pow (Nat.lt_of_lt_of_le hy (Nat.pow_le_pow_right (by omega) hi))
theorem bits_up {y v : Nat} (hy : y < 2 ^ v) : bitsF (y + 2 ^ v) v = true := by
  unfold bitsF
  rw [show y + 2 ^ v = 2 ^ v * 1 + y by omega, Nat.testBit_two_pow_mul_add _ hy, if_neg (by omega)]
  simp
theorem bits_keep {y v i : Nat} (hy : y < 2 ^ v) (hi : i < v) : bitsF (y + 2 ^ v) i = bitsF y i := by
  have := bits_low (m := 1) hy i hi
  rwa [Nat.mul_one] at this

/-- What is told is true. -/
theorem kthH_sem (hg : Good vars ns) (h24 : vars ≤ 24) : ∀ (d v : Nat) (h : Int) (k y : Nat), d + v = vars → hasB ns h = true → (v : Int) ≤ topOf ns h → k < waysN vars ns h v → y < 2 ^ v → sem ns h (bitsF (y + kthH vars ns d v h k)) = true
  | 0, v, h, k, y, hd, hh, ht, hk, hy => by
    have hvv : v = vars := by omega
    subst hvv
    unfold waysN at hk
    rw [Nat.sub_self] at hk
    unfold cntV at hk
    have he : topOf ns h = 24 := by
      by_cases e : topOf ns h = 24
      · exact e
      · have := top_vars hg e; omega
    rw [sem_end he] at hk ⊢
    by_cases h1 : h = 1
    · simp [h1]
    · simp [h1] at hk
  | d + 1, v, h, k, y, hd, hh, ht, hk, hy => by
    have hs := ways_sides hg h24 hh (by omega) ht
    have hl := loS_has hg.ranked (v := (v : Int)) (by omega) hh
    have hi := hiS_has hg.ranked (v := (v : Int)) (by omega) hh
    have hp : 2 ^ (v + 1) = 2 ^ v * 2 := Nat.pow_succ ..
    have hl2 := hl.2.1 ht
    have hi2 := hi.2.1 ht
    rw [sem_sides (v := (v : Int)) hg.ranked (by omega), Int.toNat_natCast]
    unfold kthH
    by_cases hc : k < waysN vars ns (loS ns h v) (v + 1)
    · rw [if_pos hc]
      obtain ⟨m, e, -⟩ := kthH_mul (vars := vars) (ns := ns) d (v + 1) (loS ns h v) k
      have hb : bitsF (y + kthH vars ns d (v + 1) (loS ns h v) k) v = false := by
        rw [e, bits_low (by omega) v (by omega)]; exact bits_over hy (Nat.le_refl _)
      rw [hb, if_neg (by simp)]
      exact kthH_sem hg h24 d (v + 1) (loS ns h v) k y (by omega) hl.1 (by omega) hc (by omega)
    · rw [if_neg hc]
      obtain ⟨m, e, -⟩ := kthH_mul (vars := vars) (ns := ns) d (v + 1) (hiS ns h v) (k - waysN vars ns (loS ns h v) (v + 1))
      rw [← Nat.add_assoc]
      have hb : bitsF (y + 2 ^ v + kthH vars ns d (v + 1) (hiS ns h v) (k - waysN vars ns (loS ns h v) (v + 1))) v = true := by
        rw [e, bits_low (by omega) v (by omega)]; exact bits_up hy
      rw [hb, if_pos rfl]
      exact kthH_sem hg h24 d (v + 1) (hiS ns h v) _ (y + 2 ^ v) (by omega) hi.1 (by omega) (by omega) (by omega)

/-- A less k is ahead. -/
theorem kthH_lt (hg : Good vars ns) (h24 : vars ≤ 24) : ∀ (d v : Nat) (h : Int) (k k' y : Nat), d + v = vars → hasB ns h = true → (v : Int) ≤ topOf ns h → k < k' → k' < waysN vars ns h v → y < 2 ^ v →
    ∃ u, v ≤ u ∧ u < vars ∧ (∀ i, i < u → bitsF (y + kthH vars ns d v h k) i = bitsF (y + kthH vars ns d v h k') i) ∧ bitsF (y + kthH vars ns d v h k) u = false ∧ bitsF (y + kthH vars ns d v h k') u = true
  | 0, v, h, k, k', y, hd, hh, ht, hk, hk', hy => by
    have hvv : v = vars := by omega
    subst hvv
    unfold waysN at hk'
    rw [Nat.sub_self] at hk'
    unfold cntV at hk'
    split at hk' <;> omega
  | d + 1, v, h, k, k', y, hd, hh, ht, hk, hk', hy => by
    have hs := ways_sides hg h24 hh (by omega) ht
    have hl := loS_has hg.ranked (v := (v : Int)) (by omega) hh
    have hi := hiS_has hg.ranked (v := (v : Int)) (by omega) hh
    have hp : 2 ^ (v + 1) = 2 ^ v * 2 := Nat.pow_succ ..
    have hl2 := hl.2.1 ht
    have hi2 := hi.2.1 ht
    unfold kthH
    by_cases hc' : k' < waysN vars ns (loS ns h v) (v + 1)
    · rw [if_pos hc', if_pos (by omega)]
      obtain ⟨u, a, b, c⟩ := kthH_lt hg h24 d (v + 1) (loS ns h v) k k' y (by omega) hl.1 (by omega) hk hc' (by omega)
      exact ⟨u, by omega, b, c⟩
    · rw [if_neg hc']
      by_cases hc : k < waysN vars ns (loS ns h v) (v + 1)
      · rw [if_pos hc]
        obtain ⟨m, e, -⟩ := kthH_mul (vars := vars) (ns := ns) d (v + 1) (loS ns h v) k
        obtain ⟨m', e', -⟩ := kthH_mul (vars := vars) (ns := ns) d (v + 1) (hiS ns h v) (k' - waysN vars ns (loS ns h v) (v + 1))
        rw [← Nat.add_assoc, e, e']
        refine ⟨v, Nat.le_refl _, by omega, fun i hi => ?_, ?_, ?_⟩
        · rw [bits_low (by omega) i (by omega), bits_low (by omega) i (by omega), bits_keep hy hi]
        · rw [bits_low (by omega) v (by omega)]; exact bits_over hy (Nat.le_refl _)
        · rw [bits_low (by omega) v (by omega)]; exact bits_up hy
      · rw [if_neg hc, ← Nat.add_assoc, ← Nat.add_assoc]
        obtain ⟨u, a, b, c⟩ := kthH_lt hg h24 d (v + 1) (hiS ns h v) (k - waysN vars ns (loS ns h v) (v + 1)) (k' - waysN vars ns (loS ns h v) (v + 1)) (y + 2 ^ v) (by omega) hi.1 (by omega) (by omega) (by omega) (by omega)
        exact ⟨u, by omega, b, c⟩
end
end Go.Proofs.YtfodcmcmbjopaaaDoor

namespace Go.Proofs.YtfodcmcmbjopaaaDoor
open Go.RowKit Go.Maps

def lexi : Nat → Nat → List Nat
  | 0, _ => [0]
  | d + 1, v => lexi d (v + 1) ++ (lexi d (v + 1)).map (2 ^ v + ·)

theorem lexi_mul : ∀ (d v x : Nat), x ∈ lexi d v → ∃ m, x = 2 ^ v * m
  | 0, v, x, h => by simp [lexi] at h; exact ⟨0, by simp [h]⟩
  | d + 1, v, x, h => by
    unfold lexi at h
    rcases List.mem_append.1 h with h | h
    · obtain ⟨m, rfl⟩ := lexi_mul d (v + 1) x h
      exact ⟨2 * m, by rw [Nat.pow_succ, Nat.mul_assoc]⟩
    · obtain ⟨y, hy, rfl⟩ := List.mem_map.1 h
      obtain ⟨m, rfl⟩ := lexi_mul d (v + 1) y hy
      exact ⟨1 + 2 * m, by rw [Nat.pow_succ, Nat.mul_add, Nat.mul_one, Nat.mul_assoc]⟩

section
variable {vars : Nat} {ns : List Nd}

theorem kthH_lo {d v : Nat} {h : Int} {k : Nat} (hk : k < waysN vars ns (loS ns h v) (v + 1)) : kthH vars ns (d + 1) v h k = kthH vars ns d (v + 1) (loS ns h v) k := by
  rw [kthH, if_pos hk]
theorem kthH_hi {d v : Nat} {h : Int} {k : Nat} (hk : ¬ k < waysN vars ns (loS ns h v) (v + 1)) : kthH vars ns (d + 1) v h k = 2 ^ v + kthH vars ns d (v + 1) (hiS ns h v) (k - waysN vars ns (loS ns h v) (v + 1)) := by
  rw [kthH, if_neg hk]
theorem lexi_split {d v : Nat} {P Pl Ph : Nat → Bool} (h1 : ∀ m, P (2 ^ (v + 1) * m) = Pl (2 ^ (v + 1) * m)) (h2 : ∀ m, P (2 ^ v + 2 ^ (v + 1) * m) = Ph (2 ^ (v + 1) * m)) :
    (lexi (d + 1) v).filter P = (lexi d (v + 1)).filter Pl ++ ((lexi d (v + 1)).filter Ph).map (2 ^ v + ·) := by
  have f1 : (lexi d (v + 1)).filter P = (lexi d (v + 1)).filter Pl := List.filter_congr fun x hx => by
    obtain ⟨m, rfl⟩ := lexi_mul d (v + 1) x hx
    exact h1 m
  have f2 : (lexi d (v + 1)).filter (P ∘ (2 ^ v + ·)) = (lexi d (v + 1)).filter Ph := List.filter_congr fun x hx => by
    obtain ⟨m, rfl⟩ := lexi_mul d (v + 1) x hx
    exact h2 m
  rw [lexi, List.filter_append, List.filter_map, f1, f2]
theorem range_split {a b c : Nat} {f fl fh : Nat → Nat} (h1 : ∀ i, i < a → f i = fl i) (h2 : ∀ i, f (a + i) = c + fh i) : (List.range a).map fl ++ ((List.range b).map fh).map (c + ·) = (List.range (a + b)).map f := by
  rw [List.range_add, List.map_append, List.map_map, List.map_map]
  congr 1
  · exact List.map_congr_left fun i hi => (h1 i (List.mem_range.1 hi)).symm
  · exact List.map_congr_left fun i _ => (h2 i).symm
theorem lexi_zero {v n : Nat} {P : Nat → Bool} {f : Nat → Nat} (hf : f 0 = 0) (hn : n = if P 0 = true then 1 else 0) : (lexi 0 v).filter P = (List.range n).map f := by
  subst hn
  unfold lexi
  by_cases h : P 0 = true
  · simp [h, hf, List.range_succ]
  · simp [h]

theorem lexi_kth (hg : Good vars ns) (h24 : vars ≤ 24) (d : Nat) : ∀ (v : Nat) (h : Int) (y : Nat), d + v = vars → hasB ns h = true → (v : Int) ≤ topOf ns h → y < 2 ^ v →
    (lexi d v).filter (fun x => sem ns h (bitsF (y + x))) = (List.range (waysN vars ns h v)).map (fun i => kthH vars ns d v h i) := by
  induction d with
  | zero =>
    intro v h y hd hh ht hy
    have hvv : v = vars := by omega
    have he : topOf ns h = 24 := by
      by_cases e : topOf ns h = 24
      · exact e
      · have := top_vars hg e; omega
    refine lexi_zero rfl ?_
    rw [Nat.add_zero, sem_end he]
    unfold waysN
    rw [hvv, Nat.sub_self, cntV, sem_end he]
  | succ d ih =>
    intro v h y hd hh ht hy
    have hs := ways_sides hg h24 hh (by omega) ht
    have hl := loS_has hg.ranked (v := (v : Int)) (by omega) hh
    have hi := hiS_has hg.ranked (v := (v : Int)) (by omega) hh
    have hp : 2 ^ (v + 1) = 2 ^ v * 2 := Nat.pow_succ ..
    have hl2 := hl.2.1 ht
    have hi2 := hi.2.1 ht
    have i1 := ih (v + 1) (loS ns h v) y (by omega) hl.1 (by omega) (by omega)
    have i2 := ih (v + 1) (hiS ns h v) (y + 2 ^ v) (by omega) hi.1 (by omega) (by omega)
    have g1 : ∀ m, sem ns h (bitsF (y + 2 ^ (v + 1) * m)) = sem ns (loS ns h v) (bitsF (y + 2 ^ (v + 1) * m)) := fun m => by
      have hb : bitsF (y + 2 ^ (v + 1) * m) v = false := by
        rw [bits_low (by omega) v (by omega)]; exact bits_over hy (Nat.le_refl _)
      rw [sem_sides (v := (v : Int)) hg.ranked (by omega), Int.toNat_natCast, hb, if_neg (by simp)]
    have g2 : ∀ m, sem ns h (bitsF (y + (2 ^ v + 2 ^ (v + 1) * m))) = sem ns (hiS ns h v) (bitsF (y + 2 ^ v + 2 ^ (v + 1) * m)) := fun m => by
      rw [← Nat.add_assoc]
      have hb : bitsF (y + 2 ^ v + 2 ^ (v + 1) * m) v = true := by
        rw [bits_low (by omega) v (by omega)]; exact bits_up hy
      rw [sem_sides (v := (v : Int)) hg.ranked (by omega), Int.toNat_natCast, hb, if_pos rfl]
    rw [lexi_split (P := fun x => sem ns h (bitsF (y + x))) (Pl := fun x => sem ns (loS ns h v) (bitsF (y + x))) (Ph := fun x => sem ns (hiS ns h v) (bitsF (y + 2 ^ v + x))) g1 g2, i1, i2, hs]
    exact range_split (fun i hi => kthH_lo hi) (fun i => by rw [kthH_hi (by omega), Nat.add_sub_cancel_left])
end

/-- A place's values: the first variable is the highest bit. -/
def revF : Nat → Nat → Nat → Nat
  | 0, _, _ => 0
  | d + 1, v, k => (if k.testBit d then 2 ^ v else 0) + revF d (v + 1) k

theorem revF_congr : ∀ (d v k k' : Nat), (∀ i, i < d → k.testBit i = k'.testBit i) → revF d v k = revF d v k'
  | 0, _, _, _, _ => rfl
  | d + 1, v, k, k', h => by
    unfold revF
    rw [h d (by omega), revF_congr d (v + 1) k k' (fun i hi => h i (by omega))]

theorem revF_lt : ∀ (d v k : Nat), ∃ m, revF d v k = 2 ^ v * m ∧ m < 2 ^ d
  | 0, v, k => ⟨0, by simp [revF], by simp⟩
  | d + 1, v, k => by
    obtain ⟨m, e, hm⟩ := revF_lt d (v + 1) k
    unfold revF
    rw [e]
    by_cases h : k.testBit d = true
    · exact ⟨1 + 2 * m, by rw [if_pos h, Nat.pow_succ, Nat.mul_add, Nat.mul_one, Nat.mul_assoc], by rw [Nat.pow_succ]; omega⟩
    · exact ⟨2 * m, by rw [if_neg h, Nat.pow_succ, Nat.mul_assoc, Nat.zero_add], by rw [Nat.pow_succ]; omega⟩

theorem lexi_rev : ∀ (d v : Nat), lexi d v = (List.range (2 ^ d)).map (revF d v)
  | 0, v => by simp [lexi, revF, List.range_succ]
  | d + 1, v => by
    have ih := lexi_rev d (v + 1)
    rw [lexi, ih, Nat.pow_succ, Nat.mul_two, List.range_add, List.map_append, List.map_map, List.map_map]
    congr 1
    · refine List.map_congr_left fun k hk => ?_
      rw [List.mem_range] at hk
      rw [revF, Nat.testBit_lt_two_pow hk]
      simp
    · refine List.map_congr_left fun k hk => ?_
      rw [List.mem_range] at hk
      simp only [Function.comp_apply]
      rw [revF, Nat.testBit_two_pow_add_eq, Nat.testBit_lt_two_pow hk, revF_congr d (v + 1) (2 ^ d + k) k (fun i hi => Nat.testBit_two_pow_add_gt hi k)]
      simp

/-- What All tells of a table. -/
def allN (vars : Nat) (g : Fn') : List Nat := ((List.range (2 ^ vars)).map (revF vars 0)).filter (fun x => g (bitsF x))
theorem allN_kth {vars : Nat} {ns : List Nd} (hg : Good vars ns) (h24 : vars ≤ 24) {h : Int} (hh : hasB ns h = true) {g : Fn'} (hs : ∀ f, sem ns h f = g f) : allN vars g = (List.range (waysN vars ns h 0)).map (fun i => kthH vars ns vars 0 h i) := by
  have := lexi_kth hg h24 vars 0 h 0 (by omega) hh (topOf_le hg.ranked h).1 (by simp)
  unfold allN
  rw [← lexi_rev, ← this]
  exact List.filter_congr fun x _ => by rw [Nat.zero_add, hs]
end Go.Proofs.YtfodcmcmbjopaaaDoor
