/- Of how many values a function is true. -/
import Derived.Test.YtfodcmcmbjopaabDoorBdTab
namespace Go.Proofs.YtfodcmcmbjopaabDoor
open Go.RowKit Go.Maps

/-- Of how many values of k variables, from v on, the others as in f. -/
def cntV : Nat → Nat → Fn' → (Nat → Bool) → Nat
  | 0, _, g, f => if g f then 1 else 0
  | k + 1, v, g, f => cntV k (v + 1) g (turn f v false) + cntV k (v + 1) g (turn f v true)

theorem turnV_at (f : Nat → Bool) (v : Nat) (b : Bool) : turn f v b v = b := by unfold turn; rw [if_pos rfl]
theorem turnV_ne (f : Nat → Bool) {v i : Nat} (b : Bool) (h : i ≠ v) : turn f v b i = f i := by unfold turn; rw [if_neg h]

/-- It hangs on what is behind alone. -/
theorem cntV_congr : ∀ (k v : Nat) {g g' : Fn'} (f : Nat → Bool), (∀ f', (∀ i, i < v → f' i = f i) → g f' = g' f') → cntV k v g f = cntV k v g' f
  | 0, v, g, g', f, h => by unfold cntV; rw [h f (fun _ _ => rfl)]
  | k + 1, v, g, g', f, h => by
    unfold cntV
    rw [cntV_congr k (v + 1) (turn f v false) (fun f' hf => h f' (fun i hi => by rw [hf i (by omega), turnV_ne f false (by omega)])),
      cntV_congr k (v + 1) (turn f v true) (fun f' hf => h f' (fun i hi => by rw [hf i (by omega), turnV_ne f true (by omega)]))]

/-- What the others are does not matter, if the function does not hang on them. -/
theorem cntV_any : ∀ (k v : Nat) {g : Fn'}, (∀ f f' : Nat → Bool, (∀ i, v ≤ i → f i = f' i) → g f = g f') → ∀ f f' : Nat → Bool, (∀ i, v + k ≤ i → f i = f' i) → cntV k v g f = cntV k v g f'
  | 0, v, g, hg, f, f', h => by unfold cntV; rw [hg f f' (fun i hi => h i (by omega))]
  | k + 1, v, g, hg, f, f', h => by
    have key : ∀ (k v u : Nat) (g : Fn') (f f' : Nat → Bool), u ≤ v → (∀ f f' : Nat → Bool, (∀ i, u ≤ i → f i = f' i) → g f = g f') → (∀ i, u ≤ i → (i < v ∨ v + k ≤ i) → f i = f' i) → cntV k v g f = cntV k v g f' := by
      intro k
      induction k with
      | zero => intro v u g f f' _ hg h; unfold cntV; rw [hg f f' (fun i hi => h i hi (by omega))]
      | succ k ih =>
        intro v u g f f' huv hg h
        unfold cntV
        have e : ∀ b, cntV k (v + 1) g (turn f v b) = cntV k (v + 1) g (turn f' v b) := fun b => ih (v + 1) u g _ _ (by omega) hg (fun i hi hc => by
          by_cases hiv : i = v
          · subst hiv; rw [turnV_at, turnV_at]
          · rw [turnV_ne f b hiv, turnV_ne f' b hiv]; exact h i hi (by omega))
        rw [e false, e true]
    exact key (k + 1) v v g f f' (Nat.le_refl _) hg (fun i _ hc => h i (by omega))

theorem cntV_or_and (p q : Fn') : ∀ (k v : Nat) (f : Nat → Bool), cntV k v (fun f => p f || q f) f + cntV k v (fun f => p f && q f) f = cntV k v p f + cntV k v q f
  | 0, v, f => by unfold cntV; by_cases hp : p f = true <;> by_cases hq : q f = true <;> simp [hp, hq]
  | k + 1, v, f => by
    unfold cntV
    have h1 := cntV_or_and p q k (v + 1) (turn f v false)
    have h2 := cntV_or_and p q k (v + 1) (turn f v true)
    omega
theorem cntV_not (p : Fn') : ∀ (k v : Nat) (f : Nat → Bool), cntV k v p f + cntV k v (fun f => !(p f)) f = 2 ^ k
  | 0, v, f => by unfold cntV; by_cases hp : p f = true <;> simp [hp]
  | k + 1, v, f => by
    unfold cntV
    have h1 := cntV_not p k (v + 1) (turn f v false)
    have h2 := cntV_not p k (v + 1) (turn f v true)
    rw [Nat.pow_succ]
    omega
theorem cntV_le (p : Fn') (k v : Nat) (f : Nat → Bool) : cntV k v p f ≤ 2 ^ k := by have := cntV_not p k v f; omega

/-- A handle's, from a variable on. -/
def waysN (vars : Nat) (ns : List Nd) (h : Int) (v : Nat) : Nat := cntV (vars - v) v (sem ns h) (fun _ => false)
/-- .. from its own. -/
def topN (vars : Nat) (ns : List Nd) (h : Int) : Nat := min (topOf ns h).toNat vars
def belowN (vars : Nat) (ns : List Nd) (h : Int) : Nat := waysN vars ns h (topN vars ns h)

section
variable {vars : Nat} {ns : List Nd}

theorem sem_from (hg : Good vars ns) {h : Int} {v : Nat} (hv : (v : Int) ≤ topOf ns h) : ∀ f f' : Nat → Bool, (∀ i, v ≤ i → f i = f' i) → sem ns h f = sem ns h f' := fun f f' hf =>
  sem_agree hg.ranked (fun i hi => hf i (by omega))

/-- A variable that is skipped doubles them. -/
theorem ways_gap (hg : Good vars ns) {h : Int} : ∀ (d v : Nat), v + d = topN vars ns h → waysN vars ns h v = belowN vars ns h * 2 ^ d
  | 0, v, e => by
    have : v = topN vars ns h := by omega
    subst this; simp [belowN]
  | d + 1, v, e => by
    have h0 := (topOf_le hg.ranked h).1
    have hvt : ((v + 1 : Nat) : Int) ≤ topOf ns h := by unfold topN at e; omega
    have hvv : v < vars := by unfold topN at e; omega
    have ih := ways_gap hg (h := h) d (v + 1) (by omega)
    have hs := sem_from hg (h := h) (v := v + 1) hvt
    unfold waysN at ih ⊢
    rw [show vars - v = (vars - (v + 1)) + 1 by omega]
    unfold cntV
    rw [cntV_any _ (v + 1) hs (turn (fun _ => false) v false) (fun _ => false) (fun i hi => turnV_ne _ _ (by omega)),
      cntV_any _ (v + 1) hs (turn (fun _ => false) v true) (fun _ => false) (fun i hi => turnV_ne _ _ (by omega)), ih, Nat.pow_succ]
    rw [← Nat.mul_assoc]; omega

theorem below_end {h : Int} (hh : hasB ns h = true) (ht : topOf ns h = 24) (hv : vars ≤ 24) : belowN vars ns h = h.toNat := by
  have e : topN vars ns h = vars := by unfold topN; rw [ht]; simp; omega
  unfold belowN waysN
  rw [e, Nat.sub_self]
  unfold cntV
  rcases end_of hh ht with rfl | rfl
  · rw [sem_false]; rfl
  · rw [sem_true]; rfl

theorem below_node (hg : Good vars ns) {h : Int} (ht : topOf ns h ≠ 24) : belowN vars ns h = waysN vars ns (nd ns (pl h)).l ((topOf ns h).toNat + 1) + waysN vars ns (nd ns (pl h)).h ((topOf ns h).toNat + 1) := by
  have hv := top_vars hg ht
  have h0 := (topOf_le hg.ranked h).1
  obtain ⟨k1, -, k2, -⟩ := kids hg.ranked ht
  obtain ⟨v, e⟩ : ∃ v : Nat, topOf ns h = (v : Int) := ⟨(topOf ns h).toNat, by omega⟩
  have et : topN vars ns h = v := by unfold topN; rw [e]; simp; omega
  have en := sem_node hg.ranked ht
  unfold belowN
  rw [et]
  rw [e] at hv k1 k2 en ⊢
  rw [Int.toNat_natCast] at en ⊢
  unfold waysN
  rw [show vars - v = (vars - (v + 1)) + 1 by omega]
  rw [cntV]
  have hl := sem_from hg (h := (nd ns (pl h)).l) (v := v + 1) (by omega)
  have hh := sem_from hg (h := (nd ns (pl h)).h) (v := v + 1) (by omega)
  have e1 : cntV (vars - (v + 1)) (v + 1) (sem ns h) (turn (fun _ => false) v false) = cntV (vars - (v + 1)) (v + 1) (sem ns (nd ns (pl h)).l) (turn (fun _ => false) v false) :=
    cntV_congr _ _ _ (fun f' hf => by
      have : f' v = false := by rw [hf v (by omega), turnV_at]
      rw [en f', this]; rfl)
  have e2 : cntV (vars - (v + 1)) (v + 1) (sem ns h) (turn (fun _ => false) v true) = cntV (vars - (v + 1)) (v + 1) (sem ns (nd ns (pl h)).h) (turn (fun _ => false) v true) :=
    cntV_congr _ _ _ (fun f' hf => by
      have : f' v = true := by rw [hf v (by omega), turnV_at]
      rw [en f', this]; rfl)
  rw [e1, e2, cntV_any _ (v + 1) hl (turn (fun _ => false) v false) (fun _ => false) (fun i hi => turnV_ne _ _ (by omega)),
    cntV_any _ (v + 1) hh (turn (fun _ => false) v true) (fun _ => false) (fun i hi => turnV_ne _ _ (by omega))]

/-- All of them. -/
theorem ways_all (hg : Good vars ns) {h : Int} : waysN vars ns h 0 = belowN vars ns h * 2 ^ topN vars ns h := ways_gap hg _ 0 (by omega)
theorem ways_is {g : Fn'} {h : Int} (hs : ∀ f, sem ns h f = g f) : waysN vars ns h 0 = cntV vars 0 g (fun _ => false) := by
  unfold waysN
  rw [Nat.sub_zero, show sem ns h = g from funext hs]
end
end Go.Proofs.YtfodcmcmbjopaabDoor
