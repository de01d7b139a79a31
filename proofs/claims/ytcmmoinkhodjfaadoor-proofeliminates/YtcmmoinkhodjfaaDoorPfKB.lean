/- Clauses in a row of one's own: those that came in, and new ones. -/
import Derived.Test.YtcmmoinkhodjfaaDoorClClone
namespace Go.Proofs.YtcmmoinkhodjfaaDoor
open Go.RowKit Go.Deep

structure KB (B : Nat) (wr : World) (kV : Value) (ks : List (List Int)) : Prop where
  row : ∃ cs, wr.ownsRow B 23 1 kV ks.length cs ∧ ClsK B wr cs ks
theorem KB.nil (B : Nat) (w : World) : KB B w (.slice none 0 0) [] := ⟨⟨[], World.ownsRow_nil _ _ _ _, ClsK.nil⟩⟩
theorem KB.new {B : Nat} {w w' : World} {kV : Value} {ks : List (List Int)} (h : KB B w kV ks) (hb : Below w.heap.size w w') : KB B w' kV ks := by
  obtain ⟨cs, h1, h2⟩ := h.row
  exact ⟨⟨cs, row_new' h1 hb, h2.kp (Kp.new hb)⟩⟩
theorem KB.form {B : Nat} {w : World} {kV : Value} {ks : List (List Int)} (h : KB B w kV ks) : ∃ a c, kV = .slice a ks.length c ∧ ks.length ≤ c ∧ c ≤ 9223372036854775807 := by
  obtain ⟨cs, h1, _⟩ := h.row
  exact row_form h1
theorem KB.cls {B : Nat} {w : World} {a : Option Addr} {cap : Nat} {ks : List (List Int)} (h : KB B w (.slice a ks.length cap) ks) : ClsIn w a ks := by
  obtain ⟨cs, h1, h2⟩ := h.row
  exact h2.cls h1
theorem KB.app {B : Nat} {w w7 : World} {kV v7 : Value} {ks : List (List Int)} {cs : List Value} {a : Option Addr} {cap : Nat} {c : List Int} (o : Obj) (hB : B ≤ w.heap.size) (hrow : w.ownsRow B 23 1 kV ks.length cs) (hck : ClsK B w cs ks) (hown : w7.ownsRow B 23 1 v7 (ks.length + 1) (cs ++ [.slice a c.length cap])) (hg : (w.alloc o).grownBy w7 kV.ownBlock) (hc1 : c.length ≤ cap) (hc2 : cap ≤ 9223372036854775807) (hi : IntsK B w a c) : KB B w7 v7 (ks ++ [c]) ∧ Below B w w7 := by
  have hbn := below_new w o
  have hk := Kp.grown (row_new' hrow hbn) hg (by decide)
  refine ⟨⟨⟨_, by simpa using hown, ((hck.kp (Kp.new hbn)).kp hk).snoc hc1 hc2 ((hi.kp (Kp.new hbn)).kp hk)⟩⟩, ?_⟩
  exact (hbn.mono hB).grown hg (by simp; omega) (fun k hk => (hrow.lt k hk).1)
theorem kclit (w : World) (u : Value) (t : TypeId) : ∀ (j : Nat) (x : Value), [u][j]? = some x → (w.alloc (.cells #[u] t)).cell? ((⟨w.heap.size, 0, none⟩ : Addr).add j) = some x := by
  intro j x hu
  cases j with
  | zero => simp at hu; subst hu; rw [add_plain]; simp
  | succ j => simp at hu
theorem kcone (a : Option Addr) (n c : Nat) : ∀ u ∈ [Value.slice a n c], u.oneCell' = true := by
  intro u hu
  rw [List.mem_singleton] at hu
  subst hu
  rfl
/-- All clauses, onto an empty row. -/
def AppK (w : World) (l : List (List Int)) (v' : Value) (W' : World) : Prop := KB w.heap.size W' v' l ∧ Below w.heap.size w W'
theorem app_clsK {w : World} {l : List (List Int)} {a : Option Addr} {cap : Nat} (ty : TypeId) (hI : ClsIn w a l) (hn : a = none → cap = 0) (hl : l.length ≤ 200) :
    ∃ v' W', (Builtin.append_ #[37, 37] ty #[.slice (some ⟨w.heap.size, 0, none⟩) 0 0, .slice a l.length cap]).run Tryd.prog (w.alloc (.cells #[] 23)) = .ok v' W' ∧ AppK w l v' W' := by
  obtain ⟨ic, hic, hc0, hc1, hc2⟩ := info_parts infoCls
  have hrow := World.ownsRow_lit (base := w.heap.size) (e := 23) (size := 1) w #[] 0 (Nat.le_refl _) (by decide) rfl
  have hbn := below_new w (.cells #[] 23)
  cases a with
  | none =>
    obtain rfl : l = [] := by
      cases l with
      | nil => rfl
      | cons c l => obtain ⟨ad, _, _, e, _⟩ := hI 0 (by simp); cases e
    obtain rfl := hn rfl
    exact ⟨_, _, run_append_owned_none _ w.heap.size 37 ty 23 ic 1 Tryd.underlying37 hic _ 0 [] hrow, ⟨⟨[], hrow, ClsK.nil⟩⟩, hbn⟩
  | some ad =>
    obtain ⟨cs, hck, hcell⟩ := cls_cells hI hbn
    obtain ⟨v', W', h1, h2, h3, h4, h5⟩ := run_append_own_at (P := Tryd.prog) (w.alloc (.cells #[] 23)) w.heap.size 37 ty 23 ic (.slice none 0 0) 1 24 Tryd.underlying37 hic hc0 hc1 hc2 rfl (by decide) _ 0 [] hrow ad l.length cap cs (by rw [hck.1, Nat.mul_one]) (fun j u hu => (hcell j u hu).2) hck.one (by unfold maxLen; omega) (by omega) (by simp)
    have hb7 : Below w.heap.size w W' := hbn.grown h3 (by simp) (fun k hk => by simp [Value.ownBlock] at hk; omega)
    have hk := Kp.grown (B := w.heap.size) hrow h3 (by decide)
    exact ⟨v', W', h1, ⟨⟨cs, by simpa using h2, hck.kp hk⟩⟩, hb7⟩
end Go.Proofs.YtcmmoinkhodjfaaDoor
