/- What was worked out, in a map by two handles. -/
import Derived.Test.YtbklgjmkdhinpaaGreatDoorFmNode
import Derived.Test.YtbklgjmkdhinpaaGreatDoorFmSem
set_option maxRecDepth 100000
namespace Go.Proofs.YtbklgjmkdhinpaaGreatDoor.Fm
open Go.RowKit Go.Maps Go.Proofs.YtbklgjmkdhinpaaGreatDoor.Bd
inductive K where
  | or | and | less | join | without | least | hits
  deriving DecidableEq
def Sub (y x : Nat) : Prop := ∀ i, y.testBit i = true -> x.testBit i = true
def HitsAll (A : Nat -> Prop) (x : Nat) : Prop := ∀ y, A y -> ∃ i, x.testBit i = true /\ y.testBit i = true
def opP : K -> (Nat -> Prop) -> (Nat -> Prop) -> Nat -> Prop
  | .or, A, B, x => A x \/ B x
  | .and, A, B, x => A x /\ B x
  | .less, A, B, x => A x /\ ¬ B x
  | .join, A, B, x => ∃ y z, A y /\ B z /\ x = y ||| z
  | .without, A, B, x => A x /\ ∀ y, B y -> ¬ Sub y x
  | .least, A, _, x => A x /\ ∀ y, A y -> Sub y x -> y = x
  | .hits, A, _, x => HitsAll A x /\ ∀ z, HitsAll A z -> Sub z x -> z = x
theorem opP_congr (k : K) {A A' B B' : Nat -> Prop} (ha : ∀ x, A x ↔ A' x) (hb : ∀ x, B x ↔ B' x) (x : Nat) : opP k A B x ↔ opP k A' B' x := by
  have e1 : A = A' := funext fun x => propext (ha x)
  have e2 : B = B' := funext fun x => propext (hb x)
  rw [e1, e2]
theorem sub_refl (x : Nat) : Sub x x := fun _ h => h
theorem Sub.trans {x y z : Nat} (h : Sub x y) (k : Sub y z) : Sub x z := fun i hi => k i (h i hi)
theorem Sub.off {y x v : Nat} (h : Sub y x) (hx : x.testBit v = false) : y.testBit v = false := by
  cases e : y.testBit v with
  | false => rfl
  | true => rw [h v e] at hx; cases hx
theorem Sub.le {y x : Nat} (h : Sub y x) : y <= x := by
  have : y &&& x = y := by
    apply Nat.eq_of_testBit_eq; intro i
    rw [Nat.testBit_and]
    cases e : y.testBit i with
    | false => rfl
    | true => rw [h i e]; rfl
  rw [<- this]; exact Nat.and_le_right
theorem sub_zero (x : Nat) : Sub 0 x := fun i h => by simp at h
theorem least_of (P : Nat -> Prop) : ∀ y, P y -> ∃ z, P z /\ (∀ u, P u -> Sub u z -> u = z) /\ Sub z y := by
  intro y
  induction y using Nat.strongRecOn with
  | _ y ih =>
    intro hy
    by_cases h : ∃ u, P u /\ Sub u y /\ u ≠ y
    · obtain ⟨u, h1, h2, h3⟩ := h
      obtain ⟨z, z1, z2, z3⟩ := ih u (by have := h2.le; omega) h1
      exact ⟨z, z1, z2, z3.trans h2⟩
    · refine ⟨y, hy, fun u hu hs => ?_, sub_refl y⟩
      by_cases e : u = y
      · exact e
      · exact absurd ⟨u, hu, hs, e⟩ h
structure Dec (v : Nat) (A A0 A1 : Nat -> Prop) : Prop where
  is : ∀ x, A x ↔ if x.testBit v = true then A1 (x ^^^ 2 ^ v) else A0 x
  l0 : ∀ x, A0 x -> x.testBit v = false
  l1 : ∀ x, A1 x -> x.testBit v = false
section
variable {v : Nat} {A A0 A1 B B0 B1 : Nat -> Prop}
theorem Dec.on (h : Dec v A A0 A1) {x : Nat} (hx : x.testBit v = true) : A x ↔ A1 (x ^^^ 2 ^ v) := by rw [h.is, if_pos hx]
theorem Dec.off (h : Dec v A A0 A1) {x : Nat} (hx : x.testBit v = false) : A x ↔ A0 x := by rw [h.is, if_neg (by rw [hx]; decide)]
theorem Dec.put (h : Dec v A A0 A1) {x : Nat} (hx : A1 x) : A (x ^^^ 2 ^ v) := by
  rw [h.on (by rw [xor_bit, h.l1 x hx]; rfl), xor_back]; exact hx
theorem Dec.put0 (h : Dec v A A0 A1) {x : Nat} (hx : A0 x) : A x := (h.off (h.l0 x hx)).2 hx
theorem bit_x (x v i : Nat) : (x ^^^ 2 ^ v).testBit i = if i = v then !x.testBit v else x.testBit i := by
  by_cases e : i = v
  · subst e; rw [xor_bit, if_pos rfl]
  · rw [xor_bit_ne _ e, if_neg e]
theorem xor_inj {x y v : Nat} (h : x ^^^ 2 ^ v = y ^^^ 2 ^ v) : x = y := by rw [<- xor_back x v, h, xor_back]
theorem sub_x {y x v : Nat} (hy : y.testBit v = false) : Sub y (x ^^^ 2 ^ v) ↔ Sub y x := by
  refine ⟨fun h i hi => ?_, fun h i hi => ?_⟩
  · have := h i hi
    have e : i ≠ v := fun e => by subst e; rw [hy] at hi; cases hi
    rwa [xor_bit_ne _ e] at this
  · have e : i ≠ v := fun e => by subst e; rw [hy] at hi; cases hi
    rw [xor_bit_ne _ e]; exact h i hi
theorem sub_y {y x v : Nat} (hx : x.testBit v = true) (hy : y.testBit v = false) : Sub (y ^^^ 2 ^ v) x ↔ Sub y (x ^^^ 2 ^ v) := by
  rw [sub_x hy]
  refine ⟨fun h i hi => ?_, fun h i hi => ?_⟩
  · have e : i ≠ v := fun e => by subst e; rw [hy] at hi; cases hi
    exact h i (by rw [xor_bit_ne _ e]; exact hi)
  · by_cases e : i = v
    · subst e; exact hx
    · rw [xor_bit_ne _ e] at hi; exact h i hi
theorem dec_join (ha : Dec v A A0 A1) (hb : Dec v B B0 B1) (x : Nat) :
    opP .join A B x ↔ if x.testBit v = true then opP .or (opP .join A1 (opP .or B0 B1)) (opP .join A0 B1) (x ^^^ 2 ^ v) else opP .join A0 B0 x := by
  simp only [opP]
  cases ex : x.testBit v with
  | true =>
    rw [if_pos rfl]
    constructor
    · rintro ⟨y, z, hy, hz, rfl⟩
      rw [Nat.testBit_or] at ex
      cases ey : y.testBit v with
      | true =>
        rw [ha.on ey] at hy
        cases ez : z.testBit v with
        | true =>
          rw [hb.on ez] at hz
          refine .inl ⟨_, _, hy, .inr hz, ?_⟩
          apply Nat.eq_of_testBit_eq; intro i
          simp only [Nat.testBit_or, bit_x, ey, ez]
          split <;> simp
        | false =>
          rw [hb.off ez] at hz
          refine .inl ⟨_, _, hy, .inl hz, ?_⟩
          apply Nat.eq_of_testBit_eq; intro i
          simp only [Nat.testBit_or, bit_x, ey, ez]
          by_cases e : i = v
          · subst e; simp [ez]
          · simp [e]
      | false =>
        rw [ha.off ey] at hy
        have ez : z.testBit v = true := by simpa [ey] using ex
        rw [hb.on ez] at hz
        refine .inr ⟨_, _, hy, hz, ?_⟩
        apply Nat.eq_of_testBit_eq; intro i
        simp only [Nat.testBit_or, bit_x, ey, ez]
        by_cases e : i = v
        · subst e; simp [ey]
        · simp [e]
    · rintro (⟨y, z, hy, hz, e⟩ | ⟨y, z, hy, hz, e⟩)
      · have ly := ha.l1 y hy
        rcases hz with hz | hz
        · have lz := hb.l0 z hz
          refine ⟨_, z, ha.put hy, hb.put0 hz, ?_⟩
          rw [<- xor_back x v, e]
          apply Nat.eq_of_testBit_eq; intro i
          simp only [Nat.testBit_or, bit_x]
          by_cases e : i = v
          · subst e; simp [ly, lz]
          · simp [e]
        · have lz := hb.l1 z hz
          refine ⟨_, _, ha.put hy, hb.put hz, ?_⟩
          rw [<- xor_back x v, e]
          apply Nat.eq_of_testBit_eq; intro i
          simp only [Nat.testBit_or, bit_x]
          by_cases e : i = v
          · subst e; simp [ly, lz]
          · simp [e]
      · have ly := ha.l0 y hy
        have lz := hb.l1 z hz
        refine ⟨_, _, ha.put0 hy, hb.put hz, ?_⟩
        rw [<- xor_back x v, e]
        apply Nat.eq_of_testBit_eq; intro i
        simp only [Nat.testBit_or, bit_x]
        by_cases e : i = v
        · subst e; simp [ly, lz]
        · simp [e]
  | false =>
    rw [if_neg (by decide)]
    constructor
    · rintro ⟨y, z, hy, hz, rfl⟩
      rw [Nat.testBit_or, Bool.or_eq_false_iff] at ex
      exact ⟨y, z, (ha.off ex.1).1 hy, (hb.off ex.2).1 hz, rfl⟩
    · rintro ⟨y, z, hy, hz, rfl⟩
      exact ⟨y, z, ha.put0 hy, hb.put0 hz, rfl⟩
theorem dec_without (ha : Dec v A A0 A1) (hb : Dec v B B0 B1) (x : Nat) :
    opP .without A B x ↔ if x.testBit v = true then opP .without A1 (opP .or B0 B1) (x ^^^ 2 ^ v) else opP .without A0 B0 x := by
  simp only [opP]
  cases ex : x.testBit v with
  | true =>
    rw [if_pos rfl, ha.on ex]
    refine and_congr Iff.rfl ⟨fun h y hy => ?_, fun h y hy => ?_⟩
    · rcases hy with hy | hy
      · rw [sub_x (hb.l0 y hy)]; exact h y (hb.put0 hy)
      · rw [<- sub_y ex (hb.l1 y hy)]; exact h _ (hb.put hy)
    · cases ey : y.testBit v with
      | true =>
        rw [hb.on ey] at hy
        have := h _ (.inr hy)
        rw [<- sub_y ex (hb.l1 _ hy), xor_back] at this; exact this
      | false =>
        rw [hb.off ey] at hy
        have := h _ (.inl hy)
        rwa [sub_x ey] at this
  | false =>
    rw [if_neg (by decide), ha.off ex]
    refine and_congr Iff.rfl ⟨fun h y hy => h y (hb.put0 hy), fun h y hy hs => ?_⟩
    rw [hb.off (hs.off ex)] at hy
    exact h y hy hs
theorem dec_least (ha : Dec v A A0 A1) (x : Nat) (B B' : Nat -> Prop) :
    opP .least A B x ↔ if x.testBit v = true then opP .without (opP .least A1 B') (opP .least A0 B') (x ^^^ 2 ^ v) else opP .least A0 B' x := by
  simp only [opP]
  cases ex : x.testBit v with
  | true =>
    rw [if_pos rfl, ha.on ex]
    constructor
    · rintro ⟨h1, h2⟩
      refine ⟨⟨h1, fun y hy hs => ?_⟩, fun y hy hs => ?_⟩
      · have := h2 _ (ha.put hy) ((sub_y ex (ha.l1 y hy)).2 hs)
        rw [<- this, xor_back]
      · have e := h2 y (ha.put0 hy.1) ((sub_x (ha.l0 y hy.1)).1 hs)
        have := ha.l0 y hy.1
        rw [e, ex] at this; cases this
    · rintro ⟨⟨h1, h2⟩, h3⟩
      refine ⟨h1, fun y hy hs => ?_⟩
      cases ey : y.testBit v with
      | true =>
        rw [ha.on ey] at hy
        have hn := ha.l1 _ hy
        exact xor_inj (h2 _ hy ((sub_y ex hn).1 (by rw [xor_back]; exact hs)))
      | false =>
        rw [ha.off ey] at hy
        obtain ⟨z, z1, z2, z3⟩ := least_of A0 y hy
        exact absurd ((sub_x (ha.l0 z z1)).2 (z3.trans hs)) (h3 z ⟨z1, z2⟩)
  | false =>
    rw [if_neg (by decide), ha.off ex]
    refine and_congr Iff.rfl ⟨fun h y hy hs => h y (ha.put0 hy) hs, fun h y hy hs => ?_⟩
    rw [ha.off (hs.off ex)] at hy
    exact h y hy hs
theorem dec_or (ha : Dec v A A0 A1) (hb : Dec v B B0 B1) (x : Nat) : opP .or A B x ↔ if x.testBit v = true then opP .or A1 B1 (x ^^^ 2 ^ v) else opP .or A0 B0 x := by
  simp only [opP]; rw [ha.is, hb.is]; split <;> rfl
theorem dec_and (ha : Dec v A A0 A1) (hb : Dec v B B0 B1) (x : Nat) : opP .and A B x ↔ if x.testBit v = true then opP .and A1 B1 (x ^^^ 2 ^ v) else opP .and A0 B0 x := by
  simp only [opP]; rw [ha.is, hb.is]; split <;> rfl
theorem dec_less (ha : Dec v A A0 A1) (hb : Dec v B B0 B1) (x : Nat) : opP .less A B x ↔ if x.testBit v = true then opP .less A1 B1 (x ^^^ 2 ^ v) else opP .less A0 B0 x := by
  simp only [opP]; rw [ha.is, hb.is]; split <;> rfl
end
theorem dec_of {ns : List Nd} (hr : Ranked ns) {h v : Int} (hv0 : 0 <= v) (hv : v < 24) (hh : hasB ns h = true) (hle : v <= topOf ns h) : Dec v.toNat (In ns h) (In ns (loZ ns h v)) (In ns (hiZ ns h v)) :=
  ⟨fun x => in_parts hr hv0 hv hle x, fun _ hx => in_low hr (by have := (loZ_has hr hv hh).2 hle; omega) hx, fun _ hx => in_low hr (by have := (hiZ_has (h := h) hr hv).2; omega) hx⟩
def knownZ : K -> Int -> Int -> Option Int
  | .or, a, b => if a = b \/ b = 0 then some a else if a = 0 then some b else none
  | .and, a, b => if a = b then some a else if a = 0 \/ b = 0 then some 0 else none
  | .less, a, b => if a = b \/ a = 0 then some 0 else if b = 0 then some a else none
  | .join, a, b => if a = 0 \/ b = 1 then some a else if b = 0 \/ a = 1 then some b else none
  | .without, a, b => if a = b \/ a = 0 \/ b = 1 then some 0 else if b = 0 then some a else none
  | .least, a, _ => if a = 0 \/ a = 1 then some a else none
  | .hits, a, _ => if a = 0 then some 1 else if a = 1 then some 0 else none
def unB : K -> Bool
  | .least => true
  | .hits => true
  | _ => false
def minZ (ns : List Nd) (a b : Int) : Int := min (topOf ns a) (topOf ns b)
section
variable {ns : List Nd} {a b h : Int} {k : K}
theorem minZ_le (ns : List Nd) (a b : Int) : minZ ns a b <= topOf ns a /\ minZ ns a b <= topOf ns b := by unfold minZ; omega
theorem minZ_bd (hr : Ranked ns) (a b : Int) : 0 <= minZ ns a b /\ minZ ns a b <= 24 := by
  have h1 := topOf_le hr a
  have h2 := topOf_le hr b
  unfold minZ; omega
theorem join_one (A : Nat -> Prop) (x : Nat) : opP .join A (fun y => y = 0) x ↔ A x := by
  simp only [opP]
  exact ⟨fun ⟨y, z, hy, hz, e⟩ => by rw [hz, Nat.or_zero] at e; rw [e]; exact hy, fun h => ⟨x, 0, h, rfl, (Nat.or_zero x).symm⟩⟩
theorem one_join (B : Nat -> Prop) (x : Nat) : opP .join (fun y => y = 0) B x ↔ B x := by
  simp only [opP]
  exact ⟨fun ⟨y, z, hy, hz, e⟩ => by rw [hy, Nat.zero_or] at e; rw [e]; exact hz, fun h => ⟨0, x, rfl, h, (Nat.zero_or x).symm⟩⟩
theorem in0 (ns : List Nd) : In ns 0 = fun _ => False := funext fun x => propext ⟨fun h => in_zero x h, fun h => h.elim⟩
theorem in1 (ns : List Nd) : In ns 1 = fun x => x = 0 := funext fun x => propext (in_one x)
theorem known_mem (e : knownZ k a b = some h) (x : Nat) : In ns h x ↔ opP k (In ns a) (In ns b) x := by
  cases k <;> simp only [knownZ] at e
  case or =>
    split at e
    · rename_i c; cases e
      rcases c with rfl | rfl
      · simp [opP]
      · simp [opP, in0]
    · split at e
      · rename_i c; cases e; subst c; simp [opP, in0]
      · cases e
  case and =>
    split at e
    · rename_i c; cases e; subst c; simp [opP]
    · split at e
      · rename_i c; cases e
        rcases c with rfl | rfl <;> simp [opP, in0]
      · cases e
  case less =>
    split at e
    · rename_i c; cases e
      rcases c with rfl | rfl <;> simp [opP, in0]
    · split at e
      · rename_i c; cases e; subst c; simp [opP, in0]
      · cases e
  case join =>
    split at e
    · rename_i c; cases e
      rcases c with rfl | rfl
      · simp [opP, in0]
      · rw [in1, join_one]
    · split at e
      · rename_i c; cases e
        rcases c with rfl | rfl
        · simp [opP, in0]
        · rw [in1, one_join]
      · cases e
  case without =>
    split at e
    · rename_i c; cases e
      rcases c with rfl | rfl | rfl
      · simp only [opP, in0, false_iff]
        rintro ⟨h1, h2⟩
        exact h2 x h1 (sub_refl x)
      · simp [opP, in0]
      · simp only [opP, in0, in1, false_iff]
        rintro ⟨h1, h2⟩
        exact h2 0 rfl (sub_zero x)
    · split at e
      · rename_i c; cases e; subst c; simp [opP, in0]
      · cases e
  case least =>
    split at e
    · rename_i c; cases e
      rcases c with rfl | rfl
      · simp [opP, in0]
      · simp only [opP, in1]
        exact ⟨fun h => ⟨h, fun y hy _ => hy.trans h.symm⟩, fun h => h.1⟩
    · cases e
  case hits =>
    split at e
    · rename_i c; cases e; subst c
      simp only [opP, in0, in1]
      refine ⟨fun h => ?_, fun h => ?_⟩
      · subst h; exact ⟨fun y hy => hy.elim, fun z _ hs => by have := hs.le; omega⟩
      · exact (h.2 0 (fun y hy => hy.elim) (sub_zero x)).symm
    · split at e
      · rename_i c; cases e; subst c
        simp only [opP, in0, in1, false_iff]
        rintro ⟨h1, -⟩
        obtain ⟨i, -, h2⟩ := h1 0 rfl
        simp at h2
      · cases e
theorem known_has (hr : Ranked ns) (ha : hasB ns a = true) (hb : hasB ns b = true) (e : knownZ k a b = some h) : hasB ns h = true /\ minZ ns a b <= topOf ns h := by
  obtain ⟨m1, m2⟩ := minZ_le ns a b
  have mb := (minZ_bd hr a b).2
  have c1 : hasB ns a = true /\ minZ ns a b <= topOf ns a := ⟨ha, m1⟩
  have c2 : hasB ns b = true /\ minZ ns a b <= topOf ns b := ⟨hb, m2⟩
  have c3 : hasB ns 0 = true /\ minZ ns a b <= topOf ns 0 := ⟨end_has0 ns, by rw [end_top0]; exact mb⟩
  have c4 : hasB ns 1 = true /\ minZ ns a b <= topOf ns 1 := ⟨end_has1 ns, by rw [end_top1]; exact mb⟩
  cases k <;> simp only [knownZ] at e <;> (repeat' split at e) <;> cases e <;> assumption
theorem known_none (hr : Ranked ns) (ha : hasB ns a = true) (hb : hasB ns b = true) (e : knownZ k a b = none) : minZ ns a b < 24 := by
  have ta := topOf_le hr a
  have tb := topOf_le hr b
  obtain ⟨m1, m2⟩ := minZ_le ns a b
  have hab : ¬ (topOf ns a = 24 /\ topOf ns b = 24) := by
    rintro ⟨h1, h2⟩
    rcases end_of ha h1 with rfl | rfl <;> rcases end_of hb h2 with rfl | rfl <;> cases k <;> simp [knownZ] at e
  unfold minZ; omega
end
def cost : Nat -> K -> Nat
  | 0, _ => 0
  | r + 1, .or => 2 * cost r .or + 1
  | r + 1, .and => 2 * cost r .and + 1
  | r + 1, .less => 2 * cost r .less + 1
  | r + 1, .join => 3 * cost r .join + 2 * cost r .or + 1
  | r + 1, .without => 2 * cost r .without + cost r .or + 1
  | r + 1, .least => 2 * cost r .least + cost r .without + 1
  | r + 1, .hits => 2 * cost r .hits + cost r .or + cost r .without + 1
theorem cost_step (r : Nat) (k : K) : cost r k <= cost (r + 1) k := by cases k <;> simp only [cost] <;> omega
theorem cost_mono {r s : Nat} (h : r <= s) (k : K) : cost r k <= cost s k := by
  induction h with
  | refl => exact Nat.le_refl _
  | step _ ih => exact Nat.le_trans ih (cost_step _ _)
theorem cost4 (k : K) : cost 4 k <= 90 := by cases k <;> decide
def rk (vars : Nat) (ns : List Nd) (a b : Int) : Nat := ((vars : Int) - 2 - minZ ns a b).toNat
structure Res (vars : Nat) (k : K) (ns : List Nd) (a b : Int) (ns' : List Nd) (h : Int) : Prop where
  good : Good vars ns'
  ext : Ext ns ns'
  has : hasB ns' h = true
  mem : ∀ x, In ns' h x ↔ opP k (In ns a) (In ns b) x
  top : minZ ns a b <= topOf ns' h
  cnt : cntT vars ns' <= cntT vars ns + cost (rk vars ns a b) k
  len : ns'.length <= 4000
structure MemoOk (k : K) (ns : List Nd) (m : List ((Int × Int) × Int)) : Prop where
  a : ∀ p ∈ m, hasB ns p.1.1 = true
  b : ∀ p ∈ m, hasB ns p.1.2 = true
  h : ∀ p ∈ m, hasB ns p.2 = true
  top : ∀ p ∈ m, minZ ns p.1.1 p.1.2 <= topOf ns p.2
  mem : ∀ p ∈ m, ∀ x, In ns p.2 x ↔ opP k (In ns p.1.1) (In ns p.1.2) x
theorem minZ_ext {ns ns' : List Nd} {a b : Int} (he : Ext ns ns') (ha : hasB ns a = true) (hb : hasB ns b = true) : minZ ns' a b = minZ ns a b := by unfold minZ; rw [he.top _ ha, he.top _ hb]
theorem MemoOk.ext {k : K} {ns ns' : List Nd} {m : List ((Int × Int) × Int)} (hr : Ranked ns) (h : MemoOk k ns m) (he : Ext ns ns') : MemoOk k ns' m :=
  ⟨fun p hp => he.has _ (h.a p hp), fun p hp => he.has _ (h.b p hp), fun p hp => he.has _ (h.h p hp), fun p hp => by rw [minZ_ext he (h.a p hp) (h.b p hp), he.top _ (h.h p hp)]; exact h.top p hp,
   fun p hp x => by rw [in_ext hr he (h.h p hp), opP_congr k (fun y => in_ext hr he (h.a p hp) y) (fun y => in_ext hr he (h.b p hp) y)]; exact h.mem p hp x⟩
theorem MemoOk.nil (k : K) (ns : List Nd) : MemoOk k ns [] := ⟨fun _ h => (nomatch h), fun _ h => (nomatch h), fun _ h => (nomatch h), fun _ h => (nomatch h), fun _ h => (nomatch h)⟩
theorem MemoOk.put {k : K} {ns : List Nd} {m : List ((Int × Int) × Int)} {a b h : Int} (hm : MemoOk k ns m) (ha : hasB ns a = true) (hb : hasB ns b = true) (hh : hasB ns h = true) (ht : minZ ns a b <= topOf ns h) (hx : ∀ x, In ns h x ↔ opP k (In ns a) (In ns b) x) : MemoOk k ns (memoPut m (a, b) h) := by
  refine ⟨fun p hp => ?_, fun p hp => ?_, fun p hp => ?_, fun p hp => ?_, fun p hp => ?_⟩ <;> rcases memoPut_mem hp with rfl | hp
  · exact ha
  · exact hm.a p hp
  · exact hb
  · exact hm.b p hp
  · exact hh
  · exact hm.h p hp
  · exact ht
  · exact hm.top p hp
  · exact hx
  · exact hm.mem p hp
end Go.Proofs.YtbklgjmkdhinpaaGreatDoor.Fm
namespace Go.Proofs.YtbklgjmkdhinpaaGreatDoor.Fm
open Go.RowKit Go.Maps Go.Proofs.YtbklgjmkdhinpaaGreatDoor.Bd
theorem rowPair : (154 : TypeId) < Tryz.prog.types.size := of_decide_eq_true (by kernel_rfl)
theorem widePair : (match Tryz.prog.underlying 154 with | some (.array _ _) | some (.struct _) => true | _ => false) = true := by rw [Tryz.underlying154]
theorem lawPair : Keyed Tryz.prog 154 := Keyed.of_law (deep_law_laid laidOut (m := 2) (by omega) rowPair (by kernel_rfl) widePair)
theorem keyTypePair : Tryz.prog.keyType 154 = true := by kernel_rfl
theorem cellsPair : Tryz.prog.cellsOf 154 = 2 := by kernel_rfl
def prV (p : Int × Int) : Value := .agg #[.int .i64 p.1, .int .i64 p.2]
def PrOk (p : Int × Int) : Prop := I64 p.1 /\ I64 p.2
def prLit (p : Int × Int) : Lit := .string (keyBytes [.int .i64 p.1, .int .i64 p.2])
theorem keyPair (p : Int × Int) (h : PrOk p) : keyOf Tryz.prog 154 (prV p) = some (prLit p) := by
  have hf : (prV p).formed Tryz.prog 154 = true := by simp [Value.formed, Tryz.underlying154, cellsPair, prV]
  unfold keyOf
  rw [Tryz.underlying154]
  simp only [keyTypePair, hf, Bool.and_self, if_true]
  obtain ⟨d, hd⟩ : ∃ d, Tryz.prog.types.size + 1 = d + 2 := ⟨Tryz.prog.types.size - 1, by have : 0 < Tryz.prog.types.size := Nat.lt_of_le_of_lt (Nat.zero_le _) rowPair; omega⟩
  rw [hd]
  unfold Program.keyLits
  rw [Tryz.underlying154]
  have hc : (prV p).cells.toList = [.int .i64 p.1, .int .i64 p.2] := rfl
  rw [hc]
  simp [cellsPair, cellsInt, List.range, List.range.loop, litsInt d h.1, litsInt d h.2, prLit]
theorem prLit_key (p : Int × Int) : WideAt.IsKeyLit (prLit p) := trivial
theorem prLit_inj {p q : Int × Int} (hp : PrOk p) (hq : PrOk q) (h : prLit p = prLit q) : p = q := by
  have := lawPair.inj (keyPair p hp) (h ▸ keyPair q hq)
  cases p; cases q
  simpa [prV] using this
end Go.Proofs.YtbklgjmkdhinpaaGreatDoor.Fm
namespace Go.Proofs.YtbklgjmkdhinpaaGreatDoor.Bd
open Go.RowKit Go.Maps
theorem Rep.put_over {α β : Type} [DecidableEq α] {ok : α -> Prop} {kl : α -> Lit} {el : β -> DataW Unit} {D : DataW Unit} {L : List (α × β)} (h : Rep ok kl el D L) (inj : ∀ a b, ok a -> ok b -> kl a = kl b -> a = b) (key : ∀ a, WideAt.IsKeyLit (kl a)) {a : α} (b : β) (hm : a ∈ L.map Prod.fst) :
    Rep ok kl el (D.put (kl a) (el b)) (L.map fun q => if q.1 = a then (q.1, b) else q) := by
  have hk : (L.map fun q => if q.1 = a then (q.1, b) else q).map Prod.fst = L.map Prod.fst := by
    rw [List.map_map]; apply List.map_congr_left; intro q _; simp only [Function.comp]; split <;> rfl
  obtain ⟨p0, hp0, rfl⟩ := List.mem_map.1 hm
  have ha := h.oks p0 hp0
  have hne : ∀ c, ok c -> c ≠ p0.1 -> kl c ≠ kl p0.1 := fun c hc hca e => hca (inj c p0.1 hc ha e)
  refine ⟨h.tidy.put (key _) _, ?_, ?_, ?_, ?_, ?_, by rw [hk]; exact h.nodup⟩
  · rw [size_put h.tidy, (h.has p0.1 ha).2 hm]; simp [h.size]
  · intro q hq
    obtain ⟨r, hr, rfl⟩ := List.mem_map.1 hq
    have := h.oks r hr
    split <;> exact this
  · intro c hc
    rw [hk]
    by_cases e : c = p0.1
    · rw [e, has_put_same h.tidy.isMap (key _)]; simp only [true_iff]; exact hm
    · rw [has_put_other (hne c hc e)]; exact h.has c hc
  · intro x hx
    have hex : ∃ r ∈ L, x = kl r.1 := by
      by_cases e : x = kl p0.1
      · exact ⟨p0, hp0, e⟩
      · rw [has_put_other e] at hx; exact h.all x hx
    obtain ⟨r, hr, e⟩ := hex
    exact ⟨_, List.mem_map_of_mem hr, by rw [e]; split <;> rfl⟩
  · intro q hq z
    obtain ⟨r, hr, rfl⟩ := List.mem_map.1 hq
    by_cases e : r.1 = p0.1
    · rw [if_pos e]; show (D.put (kl p0.1) (el b)).atKey (kl r.1) z = el b
      rw [e]; exact atKey_put_same h.tidy.isMap (key _) _ _
    · rw [if_neg e, atKey_put_other (hne r.1 (h.oks r hr) e)]; exact h.at' r hr z
end Go.Proofs.YtbklgjmkdhinpaaGreatDoor.Bd
namespace Go.Proofs.YtbklgjmkdhinpaaGreatDoor.Fm
open Go.RowKit Go.Maps Go.Proofs.YtbklgjmkdhinpaaGreatDoor.Bd
section
variable {w : World} {bm n : Nat} {D : DataW Unit} {L : List ((Int × Int) × Int)}
theorem plook_found (hD : w.ownsMap Tryz.prog 154 (plainElem Tryz.prog 3) bm n D) (hR : Rep PrOk prLit (fun x : Int => .lit (.int .i64 x)) D L) {p : (Int × Int) × Int} (hp : p ∈ L) :
    (Instr.lookup 153 (.map (some bm)) (.agg #[.int .i64 p.1.1, .int .i64 p.1.2]) true).run Tryz.prog w = .ok (.tuple #[.int .i64 p.2, .bool true]) w := by
  obtain ⟨v, ps, hrun, hv⟩ := hD.look_ok lawPair Tryz.underlying153 (zeroInt w) (zd := .lit (.int .i64 0)) (zp := []) (elInt ⟨by omega, by omega⟩) (keyPair p.1 (hR.oks p hp))
  rw [hR.at' p hp] at hv
  obtain ⟨a, rfl, hz, -⟩ := plainElem_int_inv Tryz.underlying3 hv
  rw [(hR.has p.1 (hR.oks p hp)).2 (List.mem_map_of_mem hp)] at hrun
  simp at hz
  rw [<- hz.1] at hrun
  exact hrun
theorem plook_none (hD : w.ownsMap Tryz.prog 154 (plainElem Tryz.prog 3) bm n D) (hR : Rep PrOk prLit (fun x : Int => .lit (.int .i64 x)) D L) {a b : Int} (ha : PrOk (a, b)) (hn : (a, b) ∉ L.map Prod.fst) :
    (Instr.lookup 153 (.map (some bm)) (.agg #[.int .i64 a, .int .i64 b]) true).run Tryz.prog w = .ok (.tuple #[.int .i64 0, .bool false]) w := by
  obtain ⟨v, ps, hrun, hv⟩ := hD.look_ok lawPair Tryz.underlying153 (zeroInt w) (zd := .lit (.int .i64 0)) (zp := []) (elInt ⟨by omega, by omega⟩) (keyPair (a, b) ha)
  have hh := hR.not ha hn
  rw [atKey_of_not_has hh] at hv
  obtain ⟨c, rfl, hz, -⟩ := plainElem_int_inv Tryz.underlying3 hv
  rw [hh] at hrun
  simp at hz
  rw [<- hz.1] at hrun
  exact hrun
theorem pstore (hD : w.ownsMap Tryz.prog 154 (plainElem Tryz.prog 3) bm L.length D) (hR : Rep PrOk prLit (fun x : Int => .lit (.int .i64 x)) D L) (hl : L.length < 1000000000) {a b : Int} (ha : PrOk (a, b)) {x : Int} (hx : I64 x) :
    ∃ w' D', (Instr.mapUpdate 153 (.map (some bm)) (.agg #[.int .i64 a, .int .i64 b]) (.int .i64 x)).run Tryz.prog w = .ok () w' /\ w'.ownsMap Tryz.prog 154 (plainElem Tryz.prog 3) bm (memoPut L (a, b) x).length D' /\ Rep PrOk prLit (fun x : Int => .lit (.int .i64 x)) D' (memoPut L (a, b) x) /\ Kept (fun k => k = bm) w w' := by
  obtain ⟨w', hrun, h1, h2⟩ := hD.update lawPair Tryz.underlying153 (by unfold maxLen; omega) (keyPair (a, b) ha) (elInt hx)
  have hR' : Rep PrOk prLit (fun x : Int => .lit (.int .i64 x)) (D.put (prLit (a, b)) (.lit (.int .i64 x))) (memoPut L (a, b) x) := by
    unfold memoPut
    by_cases hm : (a, b) ∈ L.map Prod.fst
    · rw [if_pos hm]; exact hR.put_over (fun _ _ => prLit_inj) prLit_key x hm
    · rw [if_neg hm]; exact hR.put (fun _ _ => prLit_inj) prLit_key ha hm x
  exact ⟨w', _, hrun, hR'.size ▸ ownsMap_norm h1, hR', Kept.of_grown h2 (fun i h => by cases h; rfl)⟩
end
end Go.Proofs.YtbklgjmkdhinpaaGreatDoor.Fm
