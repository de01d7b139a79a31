/- Of how many values a function is true. -/
import Derived.Test.YtiimdhmbbmkbfaaGreatDoorBdSem
import Derived.WalkSmall
import Derived.Test.YtiimdhmbbmkbfaaGreatDoorBdFun
namespace Go.Proofs.YtiimdhmbbmkbfaaGreatDoor
open Go.RowKit Go.Maps

/-- Values as a function: bit v is variable v. -/
def bitsF (n : Nat) : Nat → Bool := fun i => n.testBit i

theorem shr_bit (vals v : Nat) (hv : vals < 18446744073709551616) : (bits BinOp.and IntKind.u64 ((vals : Int) / 2 ^ v) 1 == 1) = bitsF vals v := by
  have e : (vals : Int) / 2 ^ v = ((vals / 2 ^ v : Nat) : Int) := by simp
  have hd : vals / 2 ^ v ≤ vals := Nat.div_le_self _ _
  generalize hm : vals / 2 ^ v = m at *
  rw [e, and_one_u64 _ (by omega) (by omega)]
  have hb : bitsF vals v = decide (m % 2 = 1) := by unfold bitsF; rw [Nat.testBit_eq_decide_div_mod_eq, hm]
  rw [hb, Bool.eq_iff_iff]
  simp
  omega

end Go.Proofs.YtiimdhmbbmkbfaaGreatDoor

namespace Go.Proofs.YtiimdhmbbmkbfaaGreatDoor
open Go.RowKit Go.Maps

theorem bits_or (i v : Nat) : bitsF (i ||| 1 <<< v) = turn (bitsF i) v true := by
  funext k
  unfold bitsF turn
  rw [Nat.testBit_or, Nat.one_shiftLeft, Nat.testBit_two_pow]
  by_cases h : k = v
  · simp [h]
  · rw [if_neg h, decide_eq_false (fun e => h e.symm), Bool.or_false]

/-- The table of a function. -/
def tabOf (vars : Nat) (g : Fn') : List Bool := (List.range (2 ^ vars)).map fun i => g (bitsF i)
theorem tabOf_len (vars : Nat) (g : Fn') : (tabOf vars g).length = 2 ^ vars := by simp [tabOf]
theorem tabOf_at (vars : Nat) (g : Fn') (i : Nat) (h : i < (tabOf vars g).length) : (tabOf vars g)[i] = g (bitsF i) := by simp [tabOf]

/-- Values of the first variables as a number. -/
def numOf' (f : Nat → Bool) : Nat → Nat
  | 0 => 0
  | n + 1 => numOf' f n + (if f n then 2 ^ n else 0)
theorem numOf_lt (f : Nat → Bool) : ∀ n, numOf' f n < 2 ^ n
  | 0 => by simp [numOf']
  | n + 1 => by
    have := numOf_lt f n
    unfold numOf'
    rw [Nat.pow_succ]
    split <;> omega
theorem numOf_bit (f : Nat → Bool) : ∀ n i, i < n → bitsF (numOf' f n) i = f i
  | n + 1, i, h => by
    have hl := numOf_lt f n
    unfold numOf' bitsF
    by_cases e : i = n
    · subst e
      cases hf : f i with
      | true =>
        rw [if_pos rfl, Nat.add_comm, Nat.testBit_two_pow_add_eq, Nat.testBit_lt_two_pow hl]; rfl
      | false =>
        rw [if_neg (by simp), Nat.add_zero, Nat.testBit_lt_two_pow hl]
    · have hi : i < n := by omega
      have ih := numOf_bit f n i hi
      unfold bitsF at ih
      cases hf : f n with
      | true =>
        rw [if_pos rfl, Nat.add_comm, Nat.testBit_two_pow_add_gt hi, ih]
      | false =>
        rw [if_neg (by simp), Nat.add_zero, ih]

/-- A function hangs on the variables that there are alone. -/
theorem semF_vars {vars : Nat} {ns : List Nd} (hg : Good vars ns) {f g : Nat → Bool} (hfg : ∀ i, i < vars → f i = g i) : ∀ (d : Nat) (h : Int), semF d ns h f = semF d ns h g
  | 0, _ => rfl
  | d + 1, h => by
    unfold semF
    by_cases ht : topOf ns h = 24
    · rw [if_pos ht, if_pos ht]
    · have hv := top_vars hg ht
      have h0 := (topOf_le hg.ranked h).1
      rw [if_neg ht, if_neg ht, hfg (topOf ns h).toNat (by omega), semF_vars hg hfg d, semF_vars hg hfg d]
theorem sem_vars {vars : Nat} {ns : List Nd} (hg : Good vars ns) {f g : Nat → Bool} (hfg : ∀ i, i < vars → f i = g i) (h : Int) : sem ns h f = sem ns h g := semF_vars hg hfg 24 h

/-- Two handles are the same just if their tables are. -/
theorem same_tab {vars : Nat} {ns : List Nd} (hg : Good vars ns) {a b : Int} {p q : Fn'} (ha : hasB ns a = true) (hb : hasB ns b = true) (hp : ∀ f, sem ns a f = p f) (hq : ∀ f, sem ns b f = q f) : a = b ↔ tabOf vars p = tabOf vars q := by
  constructor
  · rintro rfl
    unfold tabOf
    exact List.map_congr_left fun i _ => by rw [← hp, ← hq]
  · intro e
    refine same_handle hg ha hb fun f => ?_
    have hl := numOf_lt f vars
    have hf : ∀ i, i < vars → f i = bitsF (numOf' f vars) i := fun i hi => (numOf_bit f vars i hi).symm
    rw [sem_vars hg hf a, sem_vars hg hf b, hp, hq]
    have h1 := tabOf_at vars p (numOf' f vars) (by rw [tabOf_len]; exact hl)
    have h2 := tabOf_at vars q (numOf' f vars) (by rw [tabOf_len]; exact hl)
    rw [← h1, ← h2]
    simp only [e]
end Go.Proofs.YtiimdhmbbmkbfaaGreatDoor

namespace Go.Proofs.YtiimdhmbbmkbfaaGreatDoor
open Go.RowKit Go.Maps

/-- Of how many values of k variables, from v on, the others as in f. -/
def cntV : Nat → Nat → Fn' → (Nat → Bool) → Nat
  | 0, _, g, f => if g f then 1 else 0
  | k + 1, v, g, f => cntV k (v + 1) g (turn f v false) + cntV k (v + 1) g (turn f v true)

theorem turnV_at (f : Nat → Bool) (v : Nat) (b : Bool) : turn f v b v = b := by unfold turn; rw [if_pos rfl]
theorem turnV_ne (f : Nat → Bool) {v i : Nat} (b : Bool) (h : i ≠ v) : turn f v b i = f i := by unfold turn; rw [if_neg h]

/-- It hangs on what is behind alone. -/
theorem cntV_congr : ∀ (k v : Nat) {g g' : Fn'} (f : Nat → Bool), (∀ f', (∀ i, i < v → f' i = f i) → g f' = g' f') → cntV k v g f = cntV k v g' f
  | 0, v, g, g', f, h => by unfold cntV; rw [h f (fun _ _ => rfl)]
  | k + 1, v, g, g', f, h => by
    unfold cntV
    rw [cntV_congr k (v + 1) (turn f v false) (fun f' hf => h f' (fun i hi => by rw [hf i (by omega), turnV_ne f false (by omega)])),
      cntV_congr k (v + 1) (turn f v true) (fun f' hf => h f' (fun i hi => by rw [hf i (by omega), turnV_ne f true (by omega)]))]

/-- What the others are does not matter, if the function does not hang on them. -/
theorem cntV_any : ∀ (k v : Nat) {g : Fn'}, (∀ f f' : Nat → Bool, (∀ i, v ≤ i → f i = f' i) → g f = g f') → ∀ f f' : Nat → Bool, (∀ i, v + k ≤ i → f i = f' i) → cntV k v g f = cntV k v g f'
  | 0, v, g, hg, f, f', h => by unfold cntV; rw [hg f f' (fun i hi => h i (by omega))]
  | k + 1, v, g, hg, f, f', h => by
    have key : ∀ (k v u : Nat) (g : Fn') (f f' : Nat → Bool), u ≤ v → (∀ f f' : Nat → Bool, (∀ i, u ≤ i → f i = f' i) → g f = g f') → (∀ i, u ≤ i → (i < v ∨ v + k ≤ i) → f i = f' i) → cntV k v g f = cntV k v g f' := by
      intro k
      induction k with
      | zero => intro v u g f f' _ hg h; unfold cntV; rw [hg f f' (fun i hi => h i hi (by omega))]
      | succ k ih =>
        intro v u g f f' huv hg h
        unfold cntV
        have e : ∀ b, cntV k (v + 1) g (turn f v b) = cntV k (v + 1) g (turn f' v b) := fun b => ih (v + 1) u g _ _ (by omega) hg (fun i hi hc => by
          by_cases hiv : i = v
          · subst hiv; rw [turnV_at, turnV_at]
          · rw [turnV_ne f b hiv, turnV_ne f' b hiv]; exact h i hi (by omega))
        rw [e false, e true]
    exact key (k + 1) v v g f f' (Nat.le_refl _) hg (fun i _ hc => h i (by omega))

theorem cntV_or_and (p q : Fn') : ∀ (k v : Nat) (f : Nat → Bool), cntV k v (fun f => p f || q f) f + cntV k v (fun f => p f && q f) f = cntV k v p f + cntV k v q f
  | 0, v, f => by unfold cntV; by_cases hp : p f = true <;> by_cases hq : q f = true <;> simp [hp, hq]
  | k + 1, v, f => by
    unfold cntV
    have h1 := cntV_or_and p q k (v + 1) (turn f v false)
    have h2 := cntV_or_and p q k (v + 1) (turn f v true)
    omega
theorem cntV_not (p : Fn') : ∀ (k v : Nat) (f : Nat → Bool), cntV k v p f + cntV k v (fun f => !(p f)) f = 2 ^ k
  | 0, v, f => by unfold cntV; by_cases hp : p f = true <;> simp [hp]
  | k + 1, v, f => by
    unfold cntV
    have h1 := cntV_not p k (v + 1) (turn f v false)
    have h2 := cntV_not p k (v + 1) (turn f v true)
    rw [Nat.pow_succ]
    omega
theorem cntV_le (p : Fn') (k v : Nat) (f : Nat → Bool) : cntV k v p f ≤ 2 ^ k := by have := cntV_not p k v f; omega

/-- A handle's, from a variable on. -/
def waysN (vars : Nat) (ns : List Nd) (h : Int) (v : Nat) : Nat := cntV (vars - v) v (sem ns h) (fun _ => false)
/-- .. from its own. -/
def topN (vars : Nat) (ns : List Nd) (h : Int) : Nat := min (topOf ns h).toNat vars
def belowN (vars : Nat) (ns : List Nd) (h : Int) : Nat := waysN vars ns h (topN vars ns h)

section
variable {vars : Nat} {ns : List Nd}

theorem sem_from (hg : Good vars ns) {h : Int} {v : Nat} (hv : (v : Int) ≤ topOf ns h) : ∀ f f' : Nat → Bool, (∀ i, v ≤ i → f i = f' i) → sem ns h f = sem ns h f' := fun f f' hf =>
  sem_agree hg.ranked (fun i hi => hf i (by omega))

/-- A variable that is skipped doubles them. -/
theorem ways_gap (hg : Good vars ns) {h : Int} : ∀ (d v : Nat), v + d = topN vars ns h → waysN vars ns h v = belowN vars ns h * 2 ^ d
  | 0, v, e => by
    have : v = topN vars ns h := by omega
    subst this; simp [belowN]
  | d + 1, v, e => by
    have h0 := (topOf_le hg.ranked h).1
    have hvt : ((v + 1 : Nat) : Int) ≤ topOf ns h := by unfold topN at e; omega
    have hvv : v < vars := by unfold topN at e; omega
    have ih := ways_gap hg (h := h) d (v + 1) (by omega)
    have hs := sem_from hg (h := h) (v := v + 1) hvt
    unfold waysN at ih ⊢
    rw [show vars - v = (vars - (v + 1)) + 1 by omega]
    unfold cntV
    rw [cntV_any _ (v + 1) hs (turn (fun _ => false) v false) (fun _ => false) (fun i hi => turnV_ne _ _ (by omega)),
      cntV_any _ (v + 1) hs (turn (fun _ => false) v true) (fun _ => false) (fun i hi => turnV_ne _ _ (by omega)), ih, Nat.pow_succ]
    rw [← Nat.mul_assoc]; omega

theorem below_end {h : Int} (hh : hasB ns h = true) (ht : topOf ns h = 24) (hv : vars ≤ 24) : belowN vars ns h = h.toNat := by
  have e : topN vars ns h = vars := by unfold topN; rw [ht]; simp; omega
  unfold belowN waysN
  rw [e, Nat.sub_self]
  unfold cntV
  rcases end_of hh ht with rfl | rfl
  · rw [sem_false]; rfl
  · rw [sem_true]; rfl

theorem below_node (hg : Good vars ns) {h : Int} (ht : topOf ns h ≠ 24) : belowN vars ns h = waysN vars ns (nd ns (pl h)).l ((topOf ns h).toNat + 1) + waysN vars ns (nd ns (pl h)).h ((topOf ns h).toNat + 1) := by
  have hv := top_vars hg ht
  have h0 := (topOf_le hg.ranked h).1
  obtain ⟨k1, -, k2, -⟩ := kids hg.ranked ht
  obtain ⟨v, e⟩ : ∃ v : Nat, topOf ns h = (v : Int) := ⟨(topOf ns h).toNat, by omega⟩
  have et : topN vars ns h = v := by unfold topN; rw [e]; simp; omega
  have en := sem_node hg.ranked ht
  unfold belowN
  rw [et]
  rw [e] at hv k1 k2 en ⊢
  rw [Int.toNat_natCast] at en ⊢
  unfold waysN
  rw [show vars - v = (vars - (v + 1)) + 1 by omega]
  rw [cntV]
  have hl := sem_from hg (h := (nd ns (pl h)).l) (v := v + 1) (by omega)
  have hh := sem_from hg (h := (nd ns (pl h)).h) (v := v + 1) (by omega)
  have e1 : cntV (vars - (v + 1)) (v + 1) (sem ns h) (turn (fun _ => false) v false) = cntV (vars - (v + 1)) (v + 1) (sem ns (nd ns (pl h)).l) (turn (fun _ => false) v false) :=
    cntV_congr _ _ _ (fun f' hf => by
      have : f' v = false := by rw [hf v (by omega), turnV_at]
      rw [en f', this]; rfl)
  have e2 : cntV (vars - (v + 1)) (v + 1) (sem ns h) (turn (fun _ => false) v true) = cntV (vars - (v + 1)) (v + 1) (sem ns (nd ns (pl h)).h) (turn (fun _ => false) v true) :=
    cntV_congr _ _ _ (fun f' hf => by
      have : f' v = true := by rw [hf v (by omega), turnV_at]
      rw [en f', this]; rfl)
  rw [e1, e2, cntV_any _ (v + 1) hl (turn (fun _ => false) v false) (fun _ => false) (fun i hi => turnV_ne _ _ (by omega)),
    cntV_any _ (v + 1) hh (turn (fun _ => false) v true) (fun _ => false) (fun i hi => turnV_ne _ _ (by omega))]

/-- All of them. -/
theorem ways_all (hg : Good vars ns) {h : Int} : waysN vars ns h 0 = belowN vars ns h * 2 ^ topN vars ns h := ways_gap hg _ 0 (by omega)
theorem ways_is {g : Fn'} {h : Int} (hs : ∀ f, sem ns h f = g f) : waysN vars ns h 0 = cntV vars 0 g (fun _ => false) := by
  unfold waysN
  rw [Nat.sub_zero, show sem ns h = g from funext hs]
end
end Go.Proofs.YtiimdhmbbmkbfaaGreatDoor
