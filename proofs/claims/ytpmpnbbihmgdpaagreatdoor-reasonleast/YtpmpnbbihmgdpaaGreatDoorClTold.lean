/- What is told, and what follows from it: plain. -/
import Derived.Test.YtpmpnbbihmgdpaaGreatDoorCtOf
import Derived.Test.YtpmpnbbihmgdpaaGreatDoorCtNew
import Derived.Test.YtpmpnbbihmgdpaaGreatDoorCtLine
import Derived.Test.YtpmpnbbihmgdpaaGreatDoorCtMem
import Derived.WalkSmall
set_option maxHeartbeats 1000000
set_option maxRecDepth 100000
namespace Go.Proofs.YtpmpnbbihmgdpaaGreatDoor
section
open Go.RowKit Go.Deep Sv
theorem gathF_24 : ∀ (ls : List Ln) (i : Nat) (its out : List It), its.length <= 24 -> gathF ls i its = .ok out -> out.length <= 24 /\ ∀ x ∈ ls, ctCheck x = 0
 | [], i, its, out, h0, h => by cases h; exact ⟨h0, fun x hx => by cases hx⟩
 | x :: r, i, its, out, h0, h => by
  rw [gathF] at h
  split at h
  ·cases h
  ·rename_i hc
   have hc' : ctCheck x = 0 := Decidable.not_not.1 hc
   have key : ∀ its', its'.length <= 24 -> gathF r (i + 1) its' = .ok out -> out.length <= 24 /\ ∀ y ∈ x :: r, ctCheck y = 0 := fun its' h1 h2 => by
    obtain ⟨g1, g2⟩ := gathF_24 r (i + 1) its' out h1 h2
    exact ⟨g1, fun y hy => by rcases List.mem_cons.1 hy with rfl | hy; exact hc'; exact g2 y hy⟩
   split at h
   ·split at h
    ·cases h
    ·split at h
     ·cases h
     ·rename_i h8
      exact key _ (by simp; omega) h
   ·exact key _ h0 h
theorem newF_ok {ls : List Ln} {its : List It} (h : newF ls = .ok its) : its.length <= 24 /\ ls.length <= 100 /\ ∀ x ∈ ls, ctCheck x = 0 := by
 unfold newF at h
 split at h
 ·cases h
 ·split at h
  ·cases h
  ·rename_i its' hg
   split at h
   ·cases h
   ·cases h
    obtain ⟨h1, h2⟩ := gathF_24 ls 0 [] its' (by simp) hg
    refine ⟨?_, by omega, h2⟩
    unfold sortF
    rw [List.length_mergeSort]
    exact h1
theorem parseF_ok {s : ByteArray} {ls : List Ln} {its : List It} (h : parseF s = .ok (ls, its)) : newF ls = .ok its := by
 unfold parseF at h
 split at h
 ·cases h
 ·split at h
  ·cases h
  ·split at h
   ·cases h
   ·cases h
   ·rename_i hn
    cases h
    exact hn
theorem check_names {x : Ln} (h : ctCheck x = 0) : x.name.size <= 100000 /\ x.other.size <= 100000 := by
 unfold ctCheck at h
 split at h
 ·cases h
 ·split at h
  ·cases h
  ·rename_i h5
   split at h
   ·cases h
   ·rename_i h6
    have hn : NameOk x.name := by
     apply Classical.byContradiction
     intro hc
     exact h5 (Or.inl hc)
    refine ⟨by have := hn.len; omega, ?_⟩
    by_cases hp : x.pair
    ·have ho : NameOk x.other := by
      apply Classical.byContradiction
      intro hc
      exact h5 (Or.inr ⟨hp, hc⟩)
     have := ho.len; omega
    ·have : x.other.size = 0 := by
      apply Classical.byContradiction
      intro hc
      exact h6 ⟨hp, hc⟩
     omega
noncomputable def readF (s : ByteArray) (most : Nat) : Option (List Ln × List It) :=
 if 1500 < s.size then none else match parseF s with
  | .error _ => none
  | .ok (ls, its) => if 200 < (ofL its ls).length \/ most < its.length then none else some (ls, its)
end
section
open Go.RowKit Go.Deep Sv
def nmA : ByteArray := ⟨#[97]⟩
def nmN : ByteArray := ⟨#[]⟩
theorem one_l1 : lineF ⟨#[112, 97, 99, 107, 97, 103, 101, 32, 97, 32, 49, 46, 48, 46, 48]⟩ = .ok ⟨1, nmA, 1, 0, 0, nmN, []⟩ := by kernel_rfl
theorem one_l3 : lineF ⟨#[114, 111, 111, 116, 32, 97, 32, 97, 110, 121]⟩ = .ok ⟨4, nmA, 0, 0, 0, nmN, [(0, 1000000000)]⟩ := by kernel_rfl
theorem nmA_ok : NameOk nmA := by
 refine ⟨by decide, by decide, by decide, by rw [ByteArray.toList_eq]; decide, by rw [ByteArray.toList_eq]; decide, fun k hk => ?_⟩
 obtain rfl : k = 0 := by have : nmA.size = 1 := rfl; omega
 left
 decide
theorem one_c1 : ctCheck ⟨1, nmA, 1, 0, 0, nmN, []⟩ = 0 := by
 unfold ctCheck
 rw [if_neg (by simp), if_neg (fun h => by rcases h with h | ⟨h, _⟩; exact h nmA_ok; simp [Ln.pair] at h), if_neg (fun h => h.2 rfl), if_neg (by simp), if_neg (by simp), if_neg (by simp [InV])]
theorem one_c3 : ctCheck ⟨4, nmA, 0, 0, 0, nmN, [(0, 1000000000)]⟩ = 0 := by
 unfold ctCheck
 rw [if_neg (by simp), if_neg (fun h => by rcases h with h | ⟨h, _⟩; exact h nmA_ok; simp [Ln.pair] at h), if_neg (fun h => h.2 rfl), if_neg (by simp), if_neg (by simp), if_neg (by simp [InV])]
theorem one_n1 : ¬ (8 < namesN ([] ++ [(⟨nmA, 1, 0, 0⟩ : It)]) \/ ([] : List It).length = 24) := by
 have : namesN ([] ++ [(⟨nmA, 1, 0, 0⟩ : It)]) = 1 := by kernel_rfl
 rw [this]; simp
end
section
open Sv
def Asc (l : List It) : Prop := l.Pairwise fun x y => ctCmp x y < 0
theorem gathF_nodup : ∀ (ls : List Ln) (i : Nat) (its out : List It), its.Nodup -> gathF ls i its = .ok out -> out.Nodup
 | [], i, its, out, h0, h => by cases h; exact h0
 | x :: r, i, its, out, h0, h => by
  rw [gathF] at h
  split at h
  ·cases h
  ·split at h
   ·split at h
    ·cases h
    ·rename_i hx
     split at h
     ·cases h
     ·refine gathF_nodup r (i + 1) _ out ?_ h
      rw [List.nodup_append]
      exact ⟨h0, by simp, fun a ha b hb => by
       have : b = x.it := by simpa using hb
       subst this
       exact fun e => hx (e ▸ ha)⟩
   ·exact gathF_nodup r (i + 1) its out h0 h
def itsL (ls : List Ln) : List It := (ls.filter fun x => decide (x.kind = 1)).map Ln.it
theorem gathF_its : ∀ (ls : List Ln) (i : Nat) (its out : List It), gathF ls i its = .ok out -> out = its ++ itsL ls
 | [], i, its, out, h => by cases h; simp [itsL]
 | x :: r, i, its, out, h => by
  rw [gathF] at h
  split at h
  ·cases h
  ·split at h
   ·rename_i hk
    split at h
    ·cases h
    ·split at h
     ·cases h
     ·have := gathF_its r (i + 1) _ out h
      rw [this]
      simp [itsL, hk]
   ·rename_i hk
    have := gathF_its r (i + 1) its out h
    rw [this]
    simp [itsL, hk]
theorem asc_sort {l : List It} (h : l.Nodup) : Asc (sortF l) := by
 have hs : (sortF l).Pairwise fun x y => (!decide (ctCmp y x < 0)) = true := by
  unfold sortF
  refine List.pairwise_mergeSort ?_ ?_ l
  ·intro a b c h1 h2
   simp only [Bool.not_eq_true', decide_eq_false_iff_not] at h1 h2 ⊢
   intro h3
   rcases Int.lt_trichotomy (ctCmp b a) 0 with q | q | q
   ·exact h1 q
   ·have e := ctCmp_eq _ _ q
    subst e
    exact h2 h3
   ·have q' : ctCmp a b < 0 := by rw [ctCmp_anti]; omega
    exact h2 (ctCmp_trans _ _ _ h3 q')
  ·intro a b
   simp only [Bool.or_eq_true, Bool.not_eq_true', decide_eq_false_iff_not]
   have := ctCmp_anti a b
   omega
 have hn : (sortF l).Nodup := (sortF_perm l).nodup_iff.2 h
 refine (hs.and hn).imp fun {a b} hab => ?_
 obtain ⟨h1, h2⟩ := hab
 simp only [Bool.not_eq_true', decide_eq_false_iff_not] at h1
 have h3 := ctCmp_anti a b
 rcases Int.lt_trichotomy (ctCmp a b) 0 with q | q | q
 ·exact q
 ·exact absurd (ctCmp_eq _ _ q) h2
 ·omega
theorem asc_ext {a b : List It} (ha : Asc a) (hb : Asc b) (h : a.Perm b) : a = b := by
 refine List.Perm.eq_of_pairwise (le := fun x y => ctCmp x y < 0) ?_ ha hb h
 intro x y _ _ h1 h2
 have := ctCmp_anti x y
 omega
def insPos (l : List It) (x : It) : Nat -> Nat
 | 0 => 0
 | i + 1 => if ctCmp x (l.getD i default) < 0 then insPos l x i else i + 1
def insAt (l : List It) (x : It) (i : Nat) : List It := l.take i ++ x :: l.drop i
def ritF : List Ln -> List It -> List It
 | [], acc => acc
 | x :: r, acc => if x.kind = 1 then ritF r (insAt acc x.it (insPos acc x.it acc.length)) else ritF r acc
theorem insPos_le (l : List It) (x : It) : ∀ n, insPos l x n <= n
 | 0 => Nat.le_refl _
 | n + 1 => by
  unfold insPos
  split
  ·have := insPos_le l x n; omega
  ·exact Nat.le_refl _
theorem insPos_above (l : List It) (x : It) : ∀ n j, insPos l x n <= j -> j < n -> ctCmp x (l.getD j default) < 0
 | 0, j, _, h => by omega
 | n + 1, j, h1, h2 => by
  unfold insPos at h1
  split at h1
  ·rename_i hc
   rcases Nat.lt_or_ge j n with h | h
   ·exact insPos_above l x n j h1 h
   ·obtain rfl : j = n := by omega
    exact hc
  ·omega
theorem insPos_stop (l : List It) (x : It) : ∀ n k, insPos l x n = k + 1 -> ¬ ctCmp x (l.getD k default) < 0
 | 0, k, h => by simp [insPos] at h
 | n + 1, k, h => by
  unfold insPos at h
  split at h
  ·exact insPos_stop l x n k h
  ·rename_i hc
   obtain rfl : n = k := by omega
   exact hc
theorem insAt_perm (l : List It) (x : It) (i : Nat) : (insAt l x i).Perm (x :: l) := by
 unfold insAt
 have h := List.perm_middle (a := x) (l₁ := l.take i) (l₂ := l.drop i)
 rwa [List.take_append_drop] at h
theorem asc_ins {l : List It} {x : It} (hl : Asc l) (hx : x ∉ l) : Asc (insAt l x (insPos l x l.length)) := by
 obtain ⟨p, hp⟩ : ∃ p, insPos l x l.length = p := ⟨_, rfl⟩
 rw [hp]
 have hple : p <= l.length := by rw [<- hp]; exact insPos_le l x _
 have gd : ∀ j (hj : j < l.length), l.getD j default = l[j] := fun j hj => by rw [List.getD_eq_getElem?_getD, List.getElem?_eq_getElem hj]; rfl
 have habove : ∀ y ∈ l.drop p, ctCmp x y < 0 := fun y hy => by
  obtain ⟨j, hj, rfl⟩ := List.getElem_of_mem hy
  simp only [List.length_drop] at hj
  rw [List.getElem_drop, <- gd (p + j) (by omega)]
  exact insPos_above l x l.length (p + j) (by omega) (by omega)
 have hsplit : Asc (l.take p ++ l.drop p) := by rw [List.take_append_drop]; exact hl
 obtain ⟨h1, h2, h3⟩ := List.pairwise_append.1 hsplit
 have hbelow : ∀ y ∈ l.take p, ctCmp y x < 0 := fun y hy => by
  cases p with
  | zero => simp at hy
  | succ k =>
   have hk : k < l.length := by omega
   have hs := insPos_stop l x l.length k hp
   rw [gd k hk] at hs
   have hne : ctCmp x l[k] ≠ 0 := fun e => hx (ctCmp_eq _ _ e ▸ List.getElem_mem hk)
   have hkx : ctCmp l[k] x < 0 := by rw [ctCmp_anti]; omega
   obtain ⟨j, hj, rfl⟩ := List.getElem_of_mem hy
   simp only [List.length_take] at hj
   rw [List.getElem_take]
   rcases Nat.lt_or_ge j k with h | h
   ·exact ctCmp_trans _ _ _ ((List.pairwise_iff_getElem.1 hl) j k (by omega) hk h) hkx
   ·obtain rfl : j = k := by omega
    exact hkx
 unfold insAt
 refine List.pairwise_append.2 ⟨h1, List.pairwise_cons.2 ⟨habove, h2⟩, fun a ha b hb => ?_⟩
 rcases List.mem_cons.1 hb with rfl | hb
 ·exact hbelow a ha
 ·exact h3 a ha b hb
theorem ritF_perm : ∀ (ls : List Ln) (acc : List It), (ritF ls acc).Perm (acc ++ itsL ls)
 | [], acc => by simp [ritF, itsL]
 | x :: r, acc => by
  unfold ritF
  split
  ·rename_i hk
   refine (ritF_perm r _).trans ?_
   have e : itsL (x :: r) = x.it :: itsL r := by simp [itsL, hk]
   rw [e]
   exact ((insAt_perm acc x.it _).append_right _).trans List.perm_middle.symm
  ·rename_i hk
   have e : itsL (x :: r) = itsL r := by simp [itsL, hk]
   rw [e]
   exact ritF_perm r acc
theorem ritF_asc : ∀ (ls : List Ln) (acc : List It), Asc acc -> (acc ++ itsL ls).Nodup -> Asc (ritF ls acc)
 | [], acc, h, _ => by simpa [ritF] using h
 | x :: r, acc, h, hn => by
  unfold ritF
  split
  ·rename_i hk
   have e : itsL (x :: r) = x.it :: itsL r := by simp [itsL, hk]
   rw [e] at hn
   have hx : x.it ∉ acc := fun ha => (List.nodup_append.1 hn).2.2 _ ha _ (by simp) rfl
   refine ritF_asc r _ (asc_ins h hx) ?_
   refine (List.Perm.nodup_iff ?_).2 hn
   exact ((insAt_perm acc x.it _).append_right _).trans List.perm_middle.symm
  ·rename_i hk
   have e : itsL (x :: r) = itsL r := by simp [itsL, hk]
   rw [e] at hn
   exact ritF_asc r acc h hn
theorem new_asc {ls : List Ln} {its : List It} (h : newF ls = .ok its) : Asc its /\ ritF ls [] = its := by
 unfold newF at h
 split at h
 ·cases h
 ·split at h
  ·cases h
  ·rename_i g hg
   split at h
   ·cases h
   ·cases h
    have hn := gathF_nodup ls 0 [] g (by simp) hg
    have hi := gathF_its ls 0 [] g hg
    simp only [List.nil_append] at hi
    have ha := asc_sort hn
    refine ⟨ha, asc_ext (ritF_asc ls [] List.Pairwise.nil (by simpa [<- hi] using hn)) ha ?_⟩
    refine (ritF_perm ls []).trans ?_
    simp only [List.nil_append, <- hi]
    exact (sortF_perm g).symm
theorem asc_at {l : List It} (h : Asc l) {i j : Nat} (hj : j < l.length) (hij : i < j) : ctCmp (l.getD i default) (l.getD j default) < 0 := by
 have gd : ∀ j (hj : j < l.length), l.getD j default = l[j] := fun j hj => by rw [List.getD_eq_getElem?_getD, List.getElem?_eq_getElem hj]; rfl
 rw [gd i (by omega), gd j hj]
 exact List.pairwise_iff_getElem.1 h i j (by omega) hj hij
theorem cmp_names {x y : It} (h : ctCmp x y < 0) : x.name = y.name \/ Lib.compareBytes x.name.data.toList y.name.data.toList < 0 := by
 unfold ctCmp at h
 split at h
 ·rename_i e; exact Or.inl (bytes_eq e)
 ·exact Or.inr h
end
section
open Go.RowKit
def litB (v x : Int) : Bool := decide (x ≠ 0 /\ -v <= x /\ x <= v)
theorem literal_any (x v : Int) (h0 : 0 <= v) (h1 : v <= 24) (w : World) :
  Calls Tryz.prog 133 #[.int .i64 x, .int .i64 v] w fun e w' => e = .returned (.bool (litB v x)) /\ w = w' := by
 by_cases hx : x = 0
 ·have e : litB v x = false := by simp [litB, hx]
  rw [e]
  go_enter Tryz.func133, Tryz.ntmps133
  go_wp2
  go_ret
  exact ⟨rfl, rfl⟩
 ·by_cases h2 : -v <= x
  ·by_cases h3 : x <= v
   ·have e : litB v x = true := by simp [litB, hx, h2, h3]
    rw [e]
    have hx' : (x != 0) = true := by simpa using hx
    go_enter Tryz.func133, Tryz.ntmps133
    go_wp2
    go_ret
    exact ⟨rfl, rfl⟩
   ·have e : litB v x = false := by simp [litB, h3]
    rw [e]
    go_enter Tryz.func133, Tryz.ntmps133
    go_wp2
    go_ret
    exact ⟨rfl, rfl⟩
  ·have e : litB v x = false := by simp [litB, h2]
   rw [e]
   go_enter Tryz.func133, Tryz.ntmps133
   go_wp2
   go_ret
   exact ⟨rfl, rfl⟩
end
section
open Go.RowKit
def litH (vals : Nat) (x : Int) : Bool := if 0 < x then vals.testBit (x.toNat - 1) else !vals.testBit ((-x).toNat - 1)
end
section
open Go.RowKit
def tv (told : List Int) (i : Nat) : Int := if ((i : Int) + 1) ∈ told then 1 else if -((i : Int) + 1) ∈ told then -1 else 0
def sideF (told : List Int) (x : Int) : Int := if x ∈ told then 1 else if -x ∈ told then -1 else 0
def Cons (told : List Int) : Prop := ∀ x ∈ told, -x ∉ told
def Lits (v : Int) (xs : List Int) : Prop := ∀ x ∈ xs, litB v x = true
theorem litB_iff {v x : Int} : litB v x = true ↔ x ≠ 0 /\ -v <= x /\ x <= v := by simp [litB]
theorem side_pos (told : List Int) (t : Nat) : sideF told ((t : Int) + 1) = tv told t := rfl
theorem side_neg {told : List Int} (hc : Cons told) (t : Nat) : sideF told (-((t : Int) + 1)) = - tv told t := by
 unfold sideF tv
 rw [Int.neg_neg]
 by_cases h1 : ((t : Int) + 1) ∈ told
 ·have h2 := hc _ h1
  rw [if_pos h1, if_neg h2, if_pos h1]
 ·by_cases h2 : -((t : Int) + 1) ∈ told
  ·rw [if_pos h2, if_neg h1, if_pos h2]; rfl
  ·rw [if_neg h2, if_neg h1, if_neg h1, if_neg h2]; rfl
theorem tv_bound (told : List Int) (t : Nat) : -1 <= tv told t /\ tv told t <= 1 := by
 unfold tv; split
 ·omega
 ·split <;> omega
theorem side_bound (told : List Int) (x : Int) : sideF told x = -1 \/ sideF told x = 0 \/ sideF told x = 1 := by
 unfold sideF; split
 ·omega
 ·split <;> omega
theorem side_zero {told : List Int} {x : Int} : sideF told x = 0 ↔ x ∉ told /\ -x ∉ told := by
 unfold sideF
 by_cases h1 : x ∈ told
 ·simp [h1]
 ·by_cases h2 : -x ∈ told
  ·simp [h1, h2]
  ·simp [h1, h2]
theorem side_one {told : List Int} {x : Int} : 0 < sideF told x ↔ x ∈ told := by
 unfold sideF
 by_cases h1 : x ∈ told
 ·simp [h1]
 ·by_cases h2 : -x ∈ told <;> simp [h1, h2]
theorem side_ge {told : List Int} (hc : Cons told) {x : Int} : 0 <= sideF told x ↔ -x ∉ told := by
 unfold sideF
 by_cases h1 : x ∈ told
 ·have := hc x h1
  simp [h1, this]
 ·by_cases h2 : -x ∈ told <;> simp [h1, h2]
def moreF (told : List Int) (one x : Int) : Bool := decide (0 < sideF told x) || (decide (sideF told x = 0) && x != one)
def onlyF (told : List Int) (c : List Int) : Int × Bool :=
 if idxF (fun x => decide (0 <= sideF told x)) c < 0 then (0, true)
 else if (c.drop (idxF (fun x => decide (0 <= sideF told x)) c).toNat).any (moreF told (c.getD (idxF (fun x => decide (0 <= sideF told x)) c).toNat 0)) then (0, false)
 else (c.getD (idxF (fun x => decide (0 <= sideF told x)) c).toNat 0, true)
theorem idxF_cases {α : Type} (p : α -> Bool) (xs : List α) (d : α) : (idxF p xs = -1 /\ ∀ x ∈ xs, p x = false) \/ ∃ k : Nat, idxF p xs = (k : Int) /\ k < xs.length /\ p (xs.getD k d) = true /\ ∀ x ∈ xs.take k, p x = false := by
 unfold idxF
 cases h : xs.findIdx? p with
 | none => exact Or.inl ⟨rfl, fun x hx => by simpa using List.findIdx?_eq_none_iff.1 h x hx⟩
 | some k =>
  rw [List.findIdx?_eq_some_iff_getElem] at h
  obtain ⟨hk, hp, hj⟩ := h
  refine Or.inr ⟨k, rfl, hk, by rw [List.getD_eq_getElem?_getD, List.getElem?_eq_getElem hk]; exact hp, fun x hx => ?_⟩
  obtain ⟨j, hjk, rfl⟩ := List.getElem_of_mem hx
  rw [List.length_take] at hjk
  rw [List.getElem_take]
  simpa using hj j (by omega)
inductive OnlyIs (told c : List Int) : Int × Bool -> Prop
 | none (h : ∀ x ∈ c, x ∉ told /\ -x ∈ told) : OnlyIs told c (0, true)
 | one {x : Int} (hx : x ∈ c) (h0 : x ∉ told) (h1 : -x ∉ told) (h : ∀ y ∈ c, y ≠ x -> y ∉ told /\ -y ∈ told) : OnlyIs told c (x, true)
 | held {x : Int} (hx : x ∈ c) (h : x ∈ told) : OnlyIs told c (0, false)
 | two {x y : Int} (hx : x ∈ c) (hy : y ∈ c) (hne : x ≠ y) (h0 : x ∉ told) (h1 : -x ∉ told) (h2 : y ∉ told) (h3 : -y ∉ told) : OnlyIs told c (0, false)
theorem only_is {told c : List Int} (hc : Cons told) : OnlyIs told c (onlyF told c) := by
 unfold onlyF
 have hng : ∀ x, (decide (0 <= sideF told x)) = false ↔ -x ∈ told := fun x => by
  rw [decide_eq_false_iff_not, side_ge hc, Classical.not_not]
 have hnt : ∀ x, -x ∈ told -> x ∉ told := fun x h h2 => hc x h2 h
 rcases idxF_cases (fun x => decide (0 <= sideF told x)) c 0 with ⟨hi, h⟩ | ⟨k, hi, hk, hp, hl⟩
 ·rw [hi, if_pos (by omega)]
  exact .none fun x hx => ⟨hnt x ((hng x).1 (h x hx)), (hng x).1 (h x hx)⟩
 ·rw [hi, if_neg (by omega), Int.toNat_natCast]
  have hm : c.getD k 0 ∈ c := getD_mem hk
  have hpo : -(c.getD k 0) ∉ told := (side_ge hc).1 (of_decide_eq_true hp)
  by_cases hany : (c.drop k).any (moreF told (c.getD k 0)) = true
  ·rw [if_pos hany]
   obtain ⟨y, hy, hmo⟩ := List.any_eq_true.1 hany
   have hyc := List.mem_of_mem_drop hy
   unfold moreF at hmo
   rw [Bool.or_eq_true, Bool.and_eq_true] at hmo
   rcases hmo with h1 | ⟨h1, h2⟩
   ·exact .held hyc (side_one.1 (of_decide_eq_true h1))
   ·have h3 := side_zero.1 (of_decide_eq_true h1)
    by_cases hot : c.getD k 0 ∈ told
    ·exact .held hm hot
    ·exact .two hm hyc (fun e => by rw [<- e, bne_self_eq_false] at h2; cases h2) hot hpo h3.1 h3.2
  ·rw [if_neg hany]
   have hany' : ∀ y ∈ c.drop k, moreF told (c.getD k 0) y = false := fun y hy => by
    cases hh : moreF told (c.getD k 0) y with
    | false => rfl
    | true => exact absurd (List.any_eq_true.2 ⟨y, hy, hh⟩) hany
   have hot : c.getD k 0 ∉ told := fun h => by
    have := hany' (c.getD k 0) (by
     rw [List.getD_eq_getElem?_getD, List.getElem?_eq_getElem hk]
     exact List.mem_drop_iff_getElem.2 ⟨0, by omega, by simp⟩)
    unfold moreF at this
    rw [Bool.or_eq_false_iff] at this
    exact (of_decide_eq_false this.1) (side_one.2 h)
   refine .one hm hot hpo fun y hy hne => ?_
   rw [<- List.take_append_drop k c, List.mem_append] at hy
   rcases hy with hy | hy
   ·have := (hng y).1 (hl y hy)
    exact ⟨hnt y this, this⟩
   ·have := hany' y hy
    unfold moreF at this
    rw [Bool.or_eq_false_iff, Bool.and_eq_false_iff] at this
    have h1 := of_decide_eq_false this.1
    have h2 : sideF told y ≠ 0 := by
     rcases this.2 with h | h
     ·exact of_decide_eq_false h
     ·simp at h; exact absurd h hne
    have h3 : -y ∈ told := by
     by_cases hm : -y ∈ told
     ·exact hm
     ·exact absurd (side_zero.2 ⟨fun h => h1 (side_one.2 h), hm⟩) h2
    exact ⟨hnt y h3, h3⟩
def nextF (told : List Int) (l : List (List Int)) : Int × Int :=
 match l.findIdx? (fun c => (onlyF told c).2) with | some i => ((i : Int), (onlyF told (l.getD i [])).1) | none => (-1, 0)
theorem nextF_hit {told : List Int} {l : List (List Int)} {k : Nat} (h0 : ∀ j, j < k -> (onlyF told (l.getD j [])).2 = false) (hk : k < l.length) (h1 : (onlyF told (l.getD k [])).2 = true) : nextF told l = ((k : Int), (onlyF told (l.getD k [])).1) := by
 have : l.findIdx? (fun c => (onlyF told c).2) = some k := by
  rw [List.findIdx?_eq_some_iff_getElem]
  refine ⟨hk, ?_, fun j hj => ?_⟩
  ·rw [List.getD_eq_getElem?_getD, List.getElem?_eq_getElem hk] at h1; exact h1
  ·have := h0 j hj
   rw [List.getD_eq_getElem?_getD, List.getElem?_eq_getElem (by omega)] at this
   simpa using this
 unfold nextF; rw [this]
theorem nextF_none {told : List Int} {l : List (List Int)} (h0 : ∀ j, j < l.length -> (onlyF told (l.getD j [])).2 = false) : nextF told l = (-1, 0) := by
 have : l.findIdx? (fun c => (onlyF told c).2) = none := by
  rw [List.findIdx?_eq_none_iff]
  intro x hx
  obtain ⟨j, hj, rfl⟩ := List.getElem_of_mem hx
  have := h0 j hj
  rw [List.getD_eq_getElem?_getD, List.getElem?_eq_getElem hj] at this
  simpa using this
 unfold nextF; rw [this]
inductive NextIs (told : List Int) (l : List (List Int)) : Int × Int -> Prop
 | none (h : ∀ c ∈ l, (∃ x ∈ c, x ∈ told) \/ ∃ x ∈ c, ∃ y ∈ c, x ≠ y /\ x ∉ told /\ -x ∉ told /\ y ∉ told /\ -y ∉ told) : NextIs told l (-1, 0)
 | bad {k : Nat} (hk : k < l.length) (h : ∀ x ∈ l.getD k [], x ∉ told /\ -x ∈ told) : NextIs told l ((k : Int), 0)
 | one {k : Nat} {x : Int} (hk : k < l.length) (hx : x ∈ l.getD k []) (h0 : x ∉ told) (h1 : -x ∉ told) (h : ∀ y ∈ l.getD k [], y ≠ x -> y ∉ told /\ -y ∈ told) : NextIs told l ((k : Int), x)
theorem next_is {told : List Int} {l : List (List Int)} (hc : Cons told) : NextIs told l (nextF told l) := by
 unfold nextF
 cases h : l.findIdx? (fun c => (onlyF told c).2) with
 | none =>
  rw [List.findIdx?_eq_none_iff] at h
  refine .none fun c hcl => ?_
  have h1 := h c hcl
  have h2 := only_is (c := c) hc
  generalize onlyF told c = r at *
  cases h2 with
  | none => simp at h1
  | one => simp at h1
  | held hx h => exact Or.inl ⟨_, hx, h⟩
  | two hx hy hne q0 q1 q2 q3 => exact Or.inr ⟨_, hx, _, hy, hne, q0, q1, q2, q3⟩
 | some k =>
  rw [List.findIdx?_eq_some_iff_getElem] at h
  obtain ⟨hk, hp, -⟩ := h
  have e : l.getD k [] = l[k] := by rw [List.getD_eq_getElem?_getD, List.getElem?_eq_getElem hk]; rfl
  rw [<- e] at hp
  have h2 := only_is (c := l.getD k []) hc
  show NextIs told l ((k : Int), (onlyF told (l.getD k [])).1)
  generalize onlyF told (l.getD k []) = r at *
  cases h2 with
  | none h => exact .bad hk h
  | one hx h0 h1 h => exact .one hk hx h0 h1 h
  | held => simp at hp
  | two => simp at hp
inductive Spread (l : List (List Int)) : List Int -> List Int -> Int -> Prop
 | stop {told : List Int} {i : Int} (h : nextF told l = (i, 0)) : Spread l told told i
 | step {told t : List Int} {i x b : Int} (h : nextF told l = (i, x)) (hx : x ≠ 0) (hs : Spread l (told ++ [x]) t b) : Spread l told t b
def free (told : List Int) : Nat := (List.range 24).countP (fun i => tv told i == 0)
theorem countP_lt {p q : Nat -> Bool} {l : List Nat} (h : ∀ x ∈ l, q x = true -> p x = true) {j : Nat} (hj : j ∈ l) (hp : p j = true) (hq : q j = false) : l.countP q < l.countP p := by
 induction l with
 | nil => cases hj
 | cons a l ih =>
  have hle : l.countP q <= l.countP p := List.countP_mono_left fun x hx => h x (List.mem_cons_of_mem _ hx)
  rw [List.countP_cons, List.countP_cons]
  by_cases e : a = j
  ·subst e; rw [hp, hq]; simp; omega
  ·have := ih (fun x hx => h x (List.mem_cons_of_mem _ hx)) (by cases hj with | head => exact absurd rfl e | tail _ h => exact h)
   have ha := h a (List.mem_cons_self)
   cases hqa : q a with
   | true => rw [ha hqa]; simp; omega
   | false => cases p a <;> simp <;> omega
theorem tv_tell {told : List Int} {x : Int} (hn : -x ∉ told) (i : Nat) : tv (told ++ [x]) i = if (i : Int) + 1 = x then 1 else if (i : Int) + 1 = -x then -1 else tv told i := by
 unfold tv
 simp only [List.mem_append, List.mem_singleton]
 by_cases h1 : (i : Int) + 1 = x
 ·rw [if_pos (Or.inr h1), if_pos h1]
 ·rw [if_neg h1]
  by_cases h2 : (i : Int) + 1 = -x
  ·have h0 : (i : Int) + 1 ∉ told := by rw [h2]; exact hn
   rw [if_pos h2, if_neg (by rintro (h | h); exact h0 h; exact h1 h), if_pos (Or.inr (by omega))]
  ·rw [if_neg h2]
   have h3 : ¬ -((i : Int) + 1) = x := by omega
   have e1 : ((i : Int) + 1 ∈ told \/ (i : Int) + 1 = x) ↔ (i : Int) + 1 ∈ told := ⟨fun h => h.resolve_right h1, Or.inl⟩
   have e2 : (-((i : Int) + 1) ∈ told \/ -((i : Int) + 1) = x) ↔ -((i : Int) + 1) ∈ told := ⟨fun h => h.resolve_right h3, Or.inl⟩
   simp only [e1, e2]
theorem tv_zero {told : List Int} {i : Nat} : tv told i = 0 ↔ (i : Int) + 1 ∉ told /\ -((i : Int) + 1) ∉ told := by
 show sideF told ((i : Int) + 1) = 0 ↔ _
 exact side_zero
theorem free_tell {told : List Int} {x : Int} (hl : litB 24 x = true) (h0 : x ∉ told) (h1 : -x ∉ told) : free (told ++ [x]) < free told := by
 rw [litB_iff] at hl
 have ht := tv_tell h1
 unfold free
 refine countP_lt (j := (if 0 < x then x else -x).toNat - 1) (fun i _ hi => ?_) (List.mem_range.2 (by split <;> omega)) ?_ ?_
 ·have hi' : tv (told ++ [x]) i = 0 := by simpa using hi
  rw [ht] at hi'
  by_cases e1 : (i : Int) + 1 = x
  ·rw [if_pos e1] at hi'; cases hi'
  ·by_cases e2 : (i : Int) + 1 = -x
   ·rw [if_neg e1, if_pos e2] at hi'; cases hi'
   ·rw [if_neg e1, if_neg e2] at hi'; simpa using hi'
 ·have : tv told ((if 0 < x then x else -x).toNat - 1) = 0 := by
   rw [tv_zero]
   by_cases hp : 0 < x
   ·rw [if_pos hp, show ((x.toNat - 1 : Nat) : Int) + 1 = x by omega]; exact ⟨h0, h1⟩
   ·rw [if_neg hp, show (((-x).toNat - 1 : Nat) : Int) + 1 = -x by omega, Int.neg_neg]; exact ⟨h1, h0⟩
  simpa using this
 ·have : tv (told ++ [x]) ((if 0 < x then x else -x).toNat - 1) ≠ 0 := by
   rw [ht]
   by_cases hp : 0 < x
   ·rw [if_pos hp, if_pos (by omega)]; omega
   ·rw [if_neg hp, if_neg (by omega), if_pos (by omega)]; omega
  simpa using this
theorem cons_tell {told : List Int} {x : Int} (hc : Cons told) (hx : x ≠ 0) (h1 : -x ∉ told) : Cons (told ++ [x]) := by
 intro y hy hn
 simp only [List.mem_append, List.mem_singleton] at hy hn
 rcases hy with hy | hy
 ·rcases hn with hn | hn
  ·exact hc y hy hn
  ·exact h1 (by rw [show -x = y by omega]; exact hy)
 ·rcases hn with hn | hn
  ·rw [hy] at hn; exact h1 hn
  ·omega
theorem lits_tell {v : Int} {told : List Int} {x : Int} (hc : Lits v told) (hx : litB v x = true) : Lits v (told ++ [x]) := by
 intro y hy
 simp only [List.mem_append, List.mem_singleton] at hy
 rcases hy with hy | hy
 ·exact hc y hy
 ·rw [hy]; exact hx
theorem cons_nil : Cons [] := fun x hx => by cases hx
theorem lits_nil (v : Int) : Lits v [] := fun x hx => by cases hx
def LitsL (v : Int) (l : List (List Int)) : Prop := ∀ c ∈ l, Lits v c
theorem lit_24 {v x : Int} (hv : v <= 24) (h : litB v x = true) : litB 24 x = true := by
 rw [litB_iff] at *; omega
theorem next_step {l : List (List Int)} {v : Int} (hl : LitsL v l) {told : List Int} (hc : Cons told) (hs : Lits v told) {i x : Int} (e : nextF told l = (i, x)) (hx : x ≠ 0) : litB v x = true /\ x ∉ told /\ -x ∉ told /\ Cons (told ++ [x]) /\ Lits v (told ++ [x]) := by
 have hn := next_is (l := l) hc
 rw [e] at hn
 cases hn with
 | none => exact absurd rfl hx
 | bad => exact absurd rfl hx
 | one hk hxc h0 h1 _ =>
  have hlx := hl _ (getD_mem hk) _ hxc
  exact ⟨hlx, h0, h1, cons_tell hc hx h1, lits_tell hs hlx⟩
theorem Spread.good {l : List (List Int)} {v : Int} (hl : LitsL v l) {told t : List Int} {b : Int} (h : Spread l told t b) (hc : Cons told) (hs : Lits v told) : Cons t /\ Lits v t := by
 induction h with
 | stop _ => exact ⟨hc, hs⟩
 | step e hx _ ih =>
  obtain ⟨_, _, _, h4, h5⟩ := next_step hl hc hs e hx
  exact ih h4 h5
end
end Go.Proofs.YtpmpnbbihmgdpaaGreatDoor
