/- What is known, in form: plain. -/
import Derived.Test.YtcmmoinkhodjfabDoorPfConf
import Derived.Test.YtcmmoinkhodjfabDoorPfForm
import Derived.Test.YtcmmoinkhodjfabDoorClPlain
namespace Go.Proofs.YtcmmoinkhodjfabDoor
open Go.RowKit

theorem nodup_clauseF (s : Nat × Nat) : (clauseF s).Nodup := by
  have key : ∀ (i : Nat) (x : Int), litOf s i = some x → x = (i : Int) + 1 ∨ x = -((i : Int) + 1) := fun i x h => by
    unfold litOf at h
    by_cases h1 : s.1.testBit i = true
    · rw [if_pos h1] at h; exact Or.inl (Option.some.inj h).symm
    · rw [if_neg h1] at h
      by_cases h2 : s.2.testBit i = true
      · rw [if_pos h2] at h; exact Or.inr (Option.some.inj h).symm
      · rw [if_neg h2] at h; cases h
  unfold clauseF clauseK
  refine List.Pairwise.filterMap (litOf s) (R := fun a b => a ≠ b) (fun a b hab x hx y hy e => ?_) List.nodup_range
  have h1 := key a x hx
  have h2 := key b y hy
  omega
theorem both_iff {c : List Int} (hl : Lits 24 c) : Both c ↔ alwaysF (sidesF c) = true := (alwaysF_both hl).symm
theorem not_both_form {c : List Int} (hl : Lits 24 c) (ha : alwaysF (sidesF c) = false) : ¬ Both (clauseF (sidesF c)) := fun ⟨x, hx, hn⟩ => by
  have : alwaysF (sidesF c) = true := (both_iff hl).1 ⟨x, (mem_form hl ha).1 hx, (mem_form hl ha).1 hn⟩
  rw [ha] at this; cases this

theorem spread_satu {l : List (List Int)} {told t : List Int} {b : Int} {v : Int} (hl : LitsL v l) (h : Spread l told t b) (hc : Cons told) (hs : Lits v told) (hb : b < 0) : Cons t ∧ (∀ x ∈ told, x ∈ t) ∧ Satu l t := by
  induction h with
  | stop e =>
    refine ⟨hc, fun _ h => h, ?_⟩
    have hn := next_is (l := l) hc
    rw [e] at hn
    generalize hr : ((_, 0) : Int × Int) = r at hn
    cases hn with
    | none hh =>
      intro c hcl
      rcases hh c hcl with h | ⟨x, hx, y, hy, hne, _, h1, _, h2⟩
      · exact Or.inl h
      · exact Or.inr ⟨x, hx, y, hy, hne, h1, h2⟩
    | bad hk hh => cases hr; omega
    | one hk hx h0 h1 _ => cases hr; omega
  | step e hx _ ih =>
    obtain ⟨_, q1, q2, h4, h5⟩ := next_step hl hc hs e hx
    obtain ⟨g1, g2, g3⟩ := ih h4 h5 hb
    exact ⟨g1, fun y hy => g2 y (List.mem_append_left _ hy), g3⟩
theorem satu_ex {l : List (List Int)} (hl : LitsL 24 l) {told : List Int} (hc : Cons told) (hs : Lits 24 told) (hn : ¬ Conf l told) : ∃ t, Cons t ∧ (∀ x ∈ told, x ∈ t) ∧ Satu l t := by
  obtain ⟨t, b, h⟩ := spread_ex (v := 24) (by omega) hl _ told (Nat.le_refl _) hc hs
  have hb : b < 0 := by
    rcases Int.lt_or_le b 0 with h1 | h1
    · exact h1
    · exact absurd ((h.conf hl hc hs).1 h1) hn
  exact ⟨t, spread_satu hl h hc hs hb⟩
/-- Two lists of clauses that tell the same. -/
structure Like (K L : List (List Int)) : Prop where
  sub : SubC K L
  sat : ∀ t, Cons t → Satu K t → Satu L t
theorem Like.conf {K L : List (List Int)} (h : Like K L) (hK : LitsL 24 K) {told : List Int} (hc : Cons told) (hs : Lits 24 told) : Conf K told ↔ Conf L told := by
  refine ⟨fun hcf => hcf.mono h.sub (fun _ h => h), fun hcf => Classical.byContradiction fun hn => ?_⟩
  obtain ⟨t, h1, h2, h3⟩ := satu_ex hK hc hs hn
  exact no_conf h1 (h.sat t h1 h3) hcf h2
theorem quiet_same {t c d : List Int} (e : ∀ x, x ∈ c ↔ x ∈ d) (h : (∃ x ∈ c, x ∈ t) ∨ ∃ x ∈ c, ∃ y ∈ c, x ≠ y ∧ -x ∉ t ∧ -y ∉ t) : (∃ x ∈ d, x ∈ t) ∨ ∃ x ∈ d, ∃ y ∈ d, x ≠ y ∧ -x ∉ t ∧ -y ∉ t := by
  rcases h with ⟨x, hx, h⟩ | ⟨x, hx, y, hy, h⟩
  · exact Or.inl ⟨x, (e x).1 hx, h⟩
  · exact Or.inr ⟨x, (e x).1 hx, y, (e y).1 hy, h⟩
theorem Like.skip {K L : List (List Int)} (h : Like K L) {c : List Int} (h0 : ∀ x ∈ c, x ≠ 0) (hb : Both c) : Like K (L ++ [c]) :=
  ⟨h.sub.trans (SubC.of_sub fun _ hd => List.mem_append_left _ hd), fun t hc hs => satu_both h0 hb (h.sat t hc hs)⟩
theorem Like.snoc {K L : List (List Int)} (h : Like K L) {c d : List Int} (e : ∀ x, x ∈ d ↔ x ∈ c) : Like (K ++ [d]) (L ++ [c]) := by
  refine ⟨fun f hf => ?_, fun t hc hs f hf => ?_⟩
  · rcases List.mem_append.1 hf with hf | hf
    · obtain ⟨g, hg, e2⟩ := h.sub f hf
      exact ⟨g, List.mem_append_left _ hg, e2⟩
    · rw [List.mem_singleton] at hf; subst hf
      exact ⟨c, List.mem_append_right _ (List.mem_singleton.2 rfl), e⟩
  · rcases List.mem_append.1 hf with hf | hf
    · exact h.sat t hc (fun g hg => hs g (List.mem_append_left _ hg)) f hf
    · rw [List.mem_singleton] at hf; subst hf
      exact quiet_same e (hs d (List.mem_append_right _ (List.mem_singleton.2 rfl)))
theorem Like.nil : Like [] [] := ⟨SubC.refl _, fun _ _ h => h⟩

/-- Clauses in form, without those that hold always. -/
def formsK (l : List (List Int)) : List (List Int) := l.filterMap fun c => if alwaysF (sidesF c) = true then none else some (clauseF (sidesF c))
theorem formsK_snoc (l : List (List Int)) (c : List Int) : formsK (l ++ [c]) = formsK l ++ (if alwaysF (sidesF c) = true then [] else [clauseF (sidesF c)]) := by
  unfold formsK
  rw [List.filterMap_append]
  congr 1
  cases h : alwaysF (sidesF c) <;> simp [h]
theorem formsK_len (l : List (List Int)) : (formsK l).length ≤ l.length := List.length_filterMap_le _ _
/-- What is known, against what was told. -/
structure KInv (K L : List (List Int)) : Prop where
  lits : LitsL 24 K
  nodup : ∀ d ∈ K, d.Nodup
  like : Like K L
theorem KInv.nil : KInv [] [] := ⟨fun c hc => (by cases hc), fun c hc => (by cases hc), Like.nil⟩
theorem KInv.skip {K L : List (List Int)} (h : KInv K L) {c : List Int} (hl : Lits 24 c) (ha : alwaysF (sidesF c) = true) : KInv K (L ++ [c]) :=
  ⟨h.lits, h.nodup, h.like.skip (fun x hx => (litB_iff.1 (hl x hx)).1) ((both_iff hl).2 ha)⟩
theorem KInv.snoc {K L : List (List Int)} (h : KInv K L) {c : List Int} (hl : Lits 24 c) (ha : alwaysF (sidesF c) = false) : KInv (K ++ [clauseF (sidesF c)]) (L ++ [c]) := by
  refine ⟨fun d hd => ?_, fun d hd => ?_, h.like.snoc fun x => mem_form hl ha⟩
  · rcases List.mem_append.1 hd with hd | hd
    · exact h.lits d hd
    · rw [List.mem_singleton] at hd; subst hd; exact lits_clauseF
  · rcases List.mem_append.1 hd with hd | hd
    · exact h.nodup d hd
    · rw [List.mem_singleton] at hd; subst hd; exact nodup_clauseF _
theorem takeC {l : List (List Int)} {j : Nat} (h : j < l.length) : l.take (j + 1) = l.take j ++ [l.getD j []] := by
  rw [List.take_add_one, List.getElem?_eq_getElem h, List.getD_eq_getElem?_getD, List.getElem?_eq_getElem h]; rfl
theorem kinv_take {l : List (List Int)} (hl : LitsL 24 l) : ∀ k, k ≤ l.length → KInv (formsK (l.take k)) (l.take k) := by
  intro k
  induction k with
  | zero => intro _; exact KInv.nil
  | succ k ih =>
    intro hk
    have h1 := ih (by omega)
    have h2 := hl _ (getD_mem (d := []) (show k < l.length by omega))
    rw [takeC (by omega), formsK_snoc]
    cases ha : alwaysF (sidesF (l.getD k [])) with
    | true => rw [if_pos rfl, List.append_nil]; exact h1.skip h2 ha
    | false => rw [if_neg (by simp)]; exact h1.snoc h2 ha
theorem kinv_forms {l : List (List Int)} (hl : LitsL 24 l) : KInv (formsK l) l := by
  have := kinv_take hl l.length (Nat.le_refl _)
  rw [List.take_length] at this
  exact this
/-- Whether it follows. -/
theorem follows_iff {K L : List (List Int)} (h : KInv K L) {c : List Int} (hl : Lits 24 c) (ha : alwaysF (sidesF c) = false) : Conf K (negC (clauseF (sidesF c))) ↔ Conf L (negC c) := by
  have hn := not_both_form hl ha
  rw [h.like.conf h.lits (cons_negC hn) (fun x hx => by have := litB_iff.1 (lits_clauseF _ (mem_negC.1 hx)); rw [litB_iff]; omega)]
  have e : ∀ x, x ∈ negC (clauseF (sidesF c)) ↔ x ∈ negC c := fun x => by rw [mem_negC, mem_negC]; exact mem_form hl ha
  exact ⟨fun hc => hc.mono (SubC.refl _) fun x hx => (e x).1 hx, fun hc => hc.mono (SubC.refl _) fun x hx => (e x).2 hx⟩
end Go.Proofs.YtcmmoinkhodjfabDoor
