/- Only. -/
import Derived.Test.YtljeigdkbnichaaGreatDoorCtOf
namespace Go.Proofs.YtljeigdkbnichaaGreatDoor
open Go.RowKit Go.Deep Sv

/-- Bools in memory. -/
def BoolsIn (w : World) (a : Option Addr) (bs : List Bool) : Prop := ∀ i, i < bs.length → ∃ ad : Addr, a = some ad ∧ ad.block < w.heap.size ∧ w.cell? (ad.add i) = some (.bool (bs.getD i false))
theorem BoolsIn.below {B : Nat} {w w' : World} {a : Option Addr} {bs : List Bool} (h : BoolsIn w a bs) (hb : Below B w w') (hB : w.heap.size ≤ B) : BoolsIn w' a bs := fun i hi => by
  obtain ⟨ad, h1, h2, h3⟩ := h i hi
  exact ⟨ad, h1, Nat.lt_of_lt_of_le h2 hb.size, (hb.cell (p := ad.add i) (by rw [addr_block]; omega)).trans h3⟩

set_option maxRecDepth 100000 in
set_option maxHeartbeats 1000000 in
theorem told_c (b3 : Nat) (a : Option Addr) (bs : List Bool) (cap : Nat) (n : Int) (w : World) (hc : w.cell? ⟨b3, 0, none⟩ = some (.slice a bs.length cap)) (hb : BoolsIn w a bs) :
    Calls Tryz.prog 106 #[.int .i64 n, .pointer (some ⟨b3, 0, none⟩)] w fun e w' => e = .returned (.bool (ctTold bs n)) ∧ w' = w := by
  by_cases h1 : n = -1
  · subst h1
    have hT : ctTold bs (-1) = true := by simp [ctTold]
    rw [hT]
    go_enter Tryz.func106, Tryz.ntmps106
    go_wp2
    go_ret
    exact ⟨rfl, rfl⟩
  · by_cases h0 : 0 ≤ n
    · obtain ⟨k, rfl⟩ := Int.eq_ofNat_of_zero_le h0
      by_cases hk : k < bs.length
      · obtain ⟨ad, rfl, hlt, hcell⟩ := hb k hk
        have hT : ctTold bs (k : Int) = bs.getD k false := by simp [ctTold]
        rw [hT]
        generalize bs.getD k false = bb at *
        have hki : (k : Int) < (bs.length : Int) := by omega
        obtain ⟨ab, ao, asp⟩ := ad
        clear hb hT
        go_enter Tryz.func106, Tryz.ntmps106
        go_wp2
        go_ret
        exact ⟨rfl, rfl⟩
      · have hT : ctTold bs (k : Int) = false := by simp [ctTold, List.getD_eq_getElem?_getD, List.getElem?_eq_none (show bs.length ≤ k by omega)]
        rw [hT]
        have hki : ¬ (k : Int) < (bs.length : Int) := by omega
        clear hb hT
        go_enter Tryz.func106, Tryz.ntmps106
        go_wp2
        go_ret
        exact ⟨rfl, rfl⟩
    · have hT : ctTold bs n = false := by simp [ctTold, h1, h0]
      have hq : (n == -1) = false := by simpa using h1
      rw [hT]
      clear hb hT
      go_enter Tryz.func106, Tryz.ntmps106
      go_wp2
      go_ret
      exact ⟨rfl, rfl⟩

theorem clone_cl (c : List Int) (a : Option Addr) (cap : Nat) (w : World) (hp : PlA a) (hi : IntsK 0 w a c) (hl : c.length ≤ 100000) (h0 : a = none → c = []) :
    Calls Tryz.prog 107 #[.slice a c.length cap] w fun e w' => ∃ a' cap', e = .returned (.slice a' c.length cap') ∧ c.length ≤ cap' ∧ cap' ≤ 9223372036854775807 ∧ IntsK 0 w' a' c ∧ Below w.heap.size w w' := by
  obtain ⟨i0, hin, hz0, hz1, hz2⟩ := info_parts infoInt
  cases a with
  | none =>
    obtain rfl := h0 rfl
    exact (AnyE.slices_Clone_nil Tryz.clnCl 0 cap w).mono fun e w' ⟨he, hw⟩ => ⟨none, 0, he, Nat.le_refl _, by omega, (fun i hi => by simp at hi), by rw [hw]; exact Below.refl _ _⟩
  | some ad =>
    obtain ⟨b, o, sp⟩ := ad
    obtain rfl : sp = none := hp _ rfl
    refine (AnyE.slices_Clone Tryz.clnCl i0 _ 1 8 hin hz0 hz1 hz2 rfl (by decide) Tryz.sizeOf3 b o c.length cap (icells c) w (by rw [icells_length]; omega) (by unfold maxLen; omega) (by omega) (fun j u hu => ?_) (fun u hu => by obtain ⟨y, _, rfl⟩ := List.mem_map.1 hu; rfl)).mono fun e w' ⟨v', he, h1, _, h3⟩ => ?_
    · have hj : j < c.length := by have := (List.getElem?_eq_some_iff.1 hu).1; rwa [icells_length] at this
      rw [icells_at c j hj] at hu
      obtain ⟨ad, h1, _, _, h4⟩ := hi j hj
      cases h1
      rw [← hu]
      rwa [add_plain] at h4
    · obtain ⟨a', cap', rfl, h4, h5, h6, _⟩ := intsK_own (l := c) h1
      exact ⟨a', cap', he, h4, h5, h6, h3⟩

def onlyP (P : List (Int × List Int)) (bs : List Bool) (i : Nat) : List (List Int) := ctOnly (P.take i) bs
theorem onlyP_succ (P : List (Int × List Int)) (bs : List Bool) (i : Nat) (h : i < P.length) : onlyP P bs (i + 1) = onlyP P bs i ++ (if ctTold bs (P.getD i default).1 then [(P.getD i default).2] else []) := by
  unfold onlyP ctOnly
  rw [List.take_add_one, List.getElem?_eq_getElem h, List.filter_append, List.map_append, List.getD_eq_getElem?_getD, List.getElem?_eq_getElem h]
  congr 1
  simp only [Option.toList_some, Option.getD_some, List.filter_cons, List.filter_nil]
  split <;> simp
theorem onlyP_len (P : List (Int × List Int)) (bs : List Bool) (i : Nat) : (onlyP P bs i).length ≤ i := by
  unfold onlyP ctOnly
  rw [List.length_map]
  exact Nat.le_trans (List.length_filter_le _ _) (List.length_take_le _ _)
/-- Clauses in a row of one's own. -/
def CO (B : Nat) (W : World) (v : Value) (K : List (List Int)) : Prop := ∃ cs, W.ownsRow B 175 1 v K.length cs ∧ ClsK 0 W cs K
theorem CO.new {B : Nat} {W W' : World} {v : Value} {K : List (List Int)} (h : CO B W v K) (hb : Below W.heap.size W W') : CO B W' v K := by
  obtain ⟨cs, h1, h2⟩ := h
  exact ⟨cs, row_new' h1 hb, h2.kp (Kp.new hb)⟩
theorem CO.app {B : Nat} {W w7 : World} {v v' : Value} {K : List (List Int)} {c : List Int} {a : Option Addr} {cap : Nat} {cs : List Value} (hB : B ≤ W.heap.size) (hrow : W.ownsRow B 175 1 v K.length cs) (hck : ClsK 0 W cs K)
    (hc1 : c.length ≤ cap) (hc2 : cap ≤ 9223372036854775807) (hi : IntsK 0 W a c)
    (hown : w7.ownsRow B 175 1 v' (K.length + 1) (cs ++ [.slice a c.length cap])) (hg : (W.alloc (.cells #[.slice a c.length cap] 175)).grownBy w7 v.ownBlock) : CO B w7 v' (K ++ [c]) ∧ Below B W w7 := by
  have hbn := below_new W (.cells #[.slice a c.length cap] 175)
  have hk : Kp 0 (W.alloc (.cells #[.slice a c.length cap] 175)) w7 := Kp.grown (ownsRow_base (row_new' hrow hbn) (Nat.zero_le _)) hg (by decide)
  have hk3 := (Kp.new (B := 0) hbn).trans hk
  exact ⟨⟨_, by simpa using hown, (hck.kp hk3).snoc hc1 hc2 (hi.kp hk3)⟩, (hbn.mono hB).grown hg (by simp; omega) (fun k hk => (hrow.lt k hk).1)⟩
/-- One clause of the rules, and where it is from. -/
theorem RS.at {B : Nat} {W : World} {cv fv : Value} {P : List (Int × List Int)} (h : RS B W cv fv (P.map Prod.snd) (P.map Prod.fst)) (i : Nat) (hi : i < P.length) :
    ∃ cg cc fg fc a cap, cv = .slice (some ⟨cg, 0, none⟩) P.length cc ∧ fv = .slice (some ⟨fg, 0, none⟩) P.length fc ∧ W.cell? ⟨cg, i, none⟩ = some (.slice a (P.getD i default).2.length cap) ∧ W.cell? ⟨fg, i, none⟩ = some (.int .i64 (P.getD i default).1) ∧ IntsK 0 W a (P.getD i default).2 ∧ PlA a := by
  obtain ⟨cs, h1, h2, _, h4⟩ := h.crow
  have h3 := h.frow
  obtain ⟨cg, cc, e1, _, hc1⟩ := (rowAt_own h1).cells (by rw [List.length_map]; omega)
  obtain ⟨fg, fc, e2, _, hc2⟩ := (rowAt_own h3).cells (by rw [List.length_map]; omega)
  obtain ⟨a, cap, q1, _, _, q4⟩ := h2.2 i (by simpa using hi)
  have g1 : (P.map Prod.snd).getD i [] = (P.getD i default).2 := by simp [List.getD_eq_getElem?_getD, hi]
  have g2 : (P.map Prod.fst).getD i 0 = (P.getD i default).1 := by simp [List.getD_eq_getElem?_getD, hi]
  rw [g1] at q1 q4
  refine ⟨cg, cc, fg, fc, a, cap, by simpa using e1, by simpa using e2, hc1 i _ q1, hc2 i _ (by rw [icells_at _ _ (by simpa using hi), g2]), q4, ?_⟩
  exact h4 _ (List.mem_of_getElem? q1) _ _ _ rfl
end Go.Proofs.YtljeigdkbnichaaGreatDoor
