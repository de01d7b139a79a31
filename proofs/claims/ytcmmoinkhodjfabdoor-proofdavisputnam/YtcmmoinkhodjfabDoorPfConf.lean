/- What can't hold, by clauses that can hold by one literal alone: in whatever order they are taken. Plain. -/
import Derived.Test.YtcmmoinkhodjfabDoorClTold
namespace Go.Proofs.YtcmmoinkhodjfabDoor
open Go.RowKit

/-- Told these, a clause can't hold, by telling what clauses can hold by alone. -/
inductive Conf (l : List (List Int)) : List Int → Prop
  | bad {told c : List Int} (hc : c ∈ l) (h : ∀ x ∈ c, -x ∈ told) : Conf l told
  | unit {told c : List Int} {x : Int} (hc : c ∈ l) (hx : x ∈ c) (h : ∀ y ∈ c, y ≠ x → -y ∈ told) (hr : Conf l (x :: told)) : Conf l told

/-- Each clause of the one has one of the other with just its literals. -/
def SubC (l l' : List (List Int)) : Prop := ∀ c ∈ l, ∃ c' ∈ l', ∀ x, x ∈ c ↔ x ∈ c'
theorem SubC.refl (l : List (List Int)) : SubC l l := fun c hc => ⟨c, hc, fun _ => Iff.rfl⟩
theorem SubC.trans {l m n : List (List Int)} (h : SubC l m) (h2 : SubC m n) : SubC l n := fun c hc => by
  obtain ⟨d, hd, e⟩ := h c hc
  obtain ⟨f, hf, e2⟩ := h2 d hd
  exact ⟨f, hf, fun x => (e x).trans (e2 x)⟩
theorem SubC.of_sub {l m : List (List Int)} (h : ∀ c ∈ l, c ∈ m) : SubC l m := fun c hc => ⟨c, h c hc, fun _ => Iff.rfl⟩

theorem Conf.mono {l l' : List (List Int)} {told told' : List Int} (h : Conf l told) (hs : SubC l l') (ht : ∀ x ∈ told, x ∈ told') : Conf l' told' := by
  induction h generalizing told' with
  | bad hc h =>
    obtain ⟨c', hc', e⟩ := hs _ hc
    exact .bad hc' fun x hx => ht _ (h x ((e x).2 hx))
  | unit hc hx h _ ih =>
    obtain ⟨c', hc', e⟩ := hs _ hc
    refine .unit hc' ((e _).1 hx) (fun y hy hne => ht _ (h y ((e y).2 hy) hne)) (ih fun z hz => ?_)
    rcases List.mem_cons.1 hz with rfl | hz
    · exact List.mem_cons_self
    · exact List.mem_cons_of_mem _ (ht z hz)

/-- No clause tells anything more. -/
def Satu (l : List (List Int)) (t : List Int) : Prop := ∀ c ∈ l, (∃ x ∈ c, x ∈ t) ∨ ∃ x ∈ c, ∃ y ∈ c, x ≠ y ∧ -x ∉ t ∧ -y ∉ t
theorem no_conf {l : List (List Int)} {t told : List Int} (hc : Cons t) (hs : Satu l t) (h : Conf l told) (ht : ∀ x ∈ told, x ∈ t) : False := by
  induction h with
  | bad hcl h =>
    rcases hs _ hcl with ⟨x, hx, hxt⟩ | ⟨x, hx, y, hy, _, h1, _⟩
    · exact hc x hxt (ht _ (h x hx))
    · exact h1 (ht _ (h x hx))
  | unit hcl hx h _ ih =>
    rename_i told c x _
    rcases hs _ hcl with ⟨z, hz, hzt⟩ | ⟨z, hz, y, hy, hne, h1, h2⟩
    · by_cases e : z = x
      · subst e
        exact ih fun u hu => by
          rcases List.mem_cons.1 hu with rfl | hu
          · exact hzt
          · exact ht u hu
      · exact hc z hzt (ht _ (h z hz e))
    · by_cases e : z = x
      · exact h2 (ht _ (h y hy (fun e2 => hne (e.trans e2.symm))))
      · exact h1 (ht _ (h z hz e))

/-- What spreads tells of it. -/
theorem Spread.conf {l : List (List Int)} {v : Int} (hl : LitsL v l) {told t : List Int} {b : Int} (h : Spread l told t b) (hc : Cons told) (hs : Lits v told) : 0 ≤ b ↔ Conf l told := by
  induction h with
  | stop e =>
    have hn := next_is (l := l) hc
    rw [e] at hn
    generalize hr : ((_, 0) : Int × Int) = r at hn
    cases hn with
    | none hh =>
      cases hr
      refine ⟨fun h => by omega, fun h => ?_⟩
      refine (no_conf hc (fun c hcl => ?_) h (fun _ h => h)).elim
      rcases hh c hcl with h | ⟨x, hx, y, hy, hne, _, h1, _, h2⟩
      · exact Or.inl h
      · exact Or.inr ⟨x, hx, y, hy, hne, h1, h2⟩
    | bad hk hh =>
      cases hr
      exact ⟨fun _ => .bad (getD_mem hk) fun x hx => (hh x hx).2, fun _ => by omega⟩
    | one hk hx h0 h1 _ =>
      cases hr
      exact absurd rfl (litB_iff.1 (hl _ (getD_mem hk) _ hx)).1
  | step e hx _ ih =>
    obtain ⟨_, q1, q2, h4, h5⟩ := next_step hl hc hs e hx
    rw [ih h4 h5]
    have hn := next_is (l := l) hc
    rw [e] at hn
    generalize hr : ((_, _) : Int × Int) = r at hn
    cases hn with
    | none _ => cases hr; exact absurd rfl hx
    | bad _ _ => cases hr; exact absurd rfl hx
    | one hk hxc h0 h1 hh =>
      cases hr
      refine ⟨fun h => .unit (getD_mem hk) hxc (fun y hy hne => (hh y hy hne).2) (h.mono (SubC.refl _) fun z hz => ?_), fun h => h.mono (SubC.refl _) fun z hz => List.mem_append_left _ hz⟩
      rcases List.mem_append.1 hz with hz | hz
      · exact List.mem_cons_of_mem _ hz
      · rw [List.mem_singleton] at hz; rw [hz]; exact List.mem_cons_self

/-- The other sides. -/
def negC (c : List Int) : List Int := c.map fun x => -x
theorem mem_negC {c : List Int} {x : Int} : x ∈ negC c ↔ -x ∈ c := by
  unfold negC
  rw [List.mem_map]
  exact ⟨fun ⟨y, hy, e⟩ => by rw [← e, Int.neg_neg]; exact hy, fun h => ⟨-x, h, Int.neg_neg x⟩⟩
/-- A literal and its other side. -/
def Both (c : List Int) : Prop := ∃ x ∈ c, -x ∈ c
theorem cons_negC {c : List Int} (h : ¬ Both c) : Cons (negC c) := fun x hx hn => h ⟨-x, mem_negC.1 hx, mem_negC.1 hn⟩

/-- A clause with a literal and its other side never tells anything. -/
theorem satu_both {l : List (List Int)} {t c : List Int} (h0 : ∀ x ∈ c, x ≠ 0) (hb : Both c) (hs : Satu l t) : Satu (l ++ [c]) t := fun d hd => by
  rcases List.mem_append.1 hd with hd | hd
  · exact hs d hd
  · rw [List.mem_singleton] at hd
    subst hd
    obtain ⟨x, hx, hn⟩ := hb
    by_cases h1 : x ∈ t
    · exact Or.inl ⟨x, hx, h1⟩
    · by_cases h2 : -x ∈ t
      · exact Or.inl ⟨-x, hn, h2⟩
      · have := h0 x hx
        exact Or.inr ⟨x, hx, -x, hn, by omega, h2, by rw [Int.neg_neg]; exact h1⟩

/-- What a proof shows, clause by clause. -/
def okAt (v : Int) (l pr : List (List Int)) (i : Nat) : Prop := Lits v (pr.getD i []) ∧ (Both (pr.getD i []) ∨ Conf (l ++ pr.take i) (negC (pr.getD i [])))
def ShowsR (v : Int) (l pr : List (List Int)) (B : Bool) (n : Int) : Prop :=
  (∃ i : Nat, i < pr.length ∧ n = (i : Int) ∧ B = false ∧ ¬ okAt v l pr i ∧ ∀ j, j < i → okAt v l pr j) ∨
  ((∀ j, j < pr.length → okAt v l pr j) ∧ n = (pr.length : Int) ∧ (B = true ↔ pr ≠ [] ∧ pr.getD (pr.length - 1) [] = []))
theorem ShowsR.det {v : Int} {l pr : List (List Int)} {B B' : Bool} {n n' : Int} (h : ShowsR v l pr B n) (h' : ShowsR v l pr B' n') : B = B' ∧ n = n' := by
  rcases h with ⟨i, hi, rfl, rfl, h1, h2⟩ | ⟨h1, rfl, h2⟩
  · rcases h' with ⟨i', hi', rfl, rfl, h1', h2'⟩ | ⟨h1', _, _⟩
    · refine ⟨rfl, ?_⟩
      have a : ¬ i < i' := fun h => h1 (h2' _ h)
      have b : ¬ i' < i := fun h => h1' (h2 _ h)
      omega
    · exact absurd (h1' i hi) h1
  · rcases h' with ⟨i', hi', rfl, rfl, h1', h2'⟩ | ⟨h1', rfl, h2'⟩
    · exact absurd (h1 i' hi') h1'
    · exact ⟨by rw [Bool.eq_iff_iff, h2, h2'], rfl⟩
end Go.Proofs.YtcmmoinkhodjfabDoor
