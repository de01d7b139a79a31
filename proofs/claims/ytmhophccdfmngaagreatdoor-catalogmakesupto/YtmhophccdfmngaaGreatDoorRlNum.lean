/- The reference's NumberOf. -/
import Derived.Test.YtmhophccdfmngaaGreatDoorCtNew
import Derived.Lib.QuietBelow
import Derived.Deep.CutRange
import Derived.Laws.Cover1
import Derived.Test.YtmhophccdfmngaaGreatDoorRlCat
import Derived.Laws.StructEq
set_option maxHeartbeats 2000000
set_option maxRecDepth 100000
namespace Go.Proofs.YtmhophccdfmngaaGreatDoor
section
open Sv
def Asc (l : List It) : Prop := l.Pairwise fun x y => ctCmp x y < 0
theorem gathF_nodup : ∀ (ls : List Ln) (i : Nat) (its out : List It), its.Nodup -> gathF ls i its = .ok out -> out.Nodup
 | [], i, its, out, h0, h => by cases h; exact h0
 | x :: r, i, its, out, h0, h => by
  rw [gathF] at h
  split at h
  ·cases h
  ·split at h
   ·split at h
    ·cases h
    ·rename_i hx
     split at h
     ·cases h
     ·refine gathF_nodup r (i + 1) _ out ?_ h
      rw [List.nodup_append]
      exact ⟨h0, by simp, fun a ha b hb => by
       have : b = x.it := by simpa using hb
       subst this
       exact fun e => hx (e ▸ ha)⟩
   ·exact gathF_nodup r (i + 1) its out h0 h
def itsL (ls : List Ln) : List It := (ls.filter fun x => decide (x.kind = 1)).map Ln.it
theorem gathF_its : ∀ (ls : List Ln) (i : Nat) (its out : List It), gathF ls i its = .ok out -> out = its ++ itsL ls
 | [], i, its, out, h => by cases h; simp [itsL]
 | x :: r, i, its, out, h => by
  rw [gathF] at h
  split at h
  ·cases h
  ·split at h
   ·rename_i hk
    split at h
    ·cases h
    ·split at h
     ·cases h
     ·have := gathF_its r (i + 1) _ out h
      rw [this]
      simp [itsL, hk]
   ·rename_i hk
    have := gathF_its r (i + 1) its out h
    rw [this]
    simp [itsL, hk]
theorem asc_sort {l : List It} (h : l.Nodup) : Asc (sortF l) := by
 have hs : (sortF l).Pairwise fun x y => (!decide (ctCmp y x < 0)) = true := by
  unfold sortF
  refine List.pairwise_mergeSort ?_ ?_ l
  ·intro a b c h1 h2
   simp only [Bool.not_eq_true', decide_eq_false_iff_not] at h1 h2 ⊢
   intro h3
   rcases Int.lt_trichotomy (ctCmp b a) 0 with q | q | q
   ·exact h1 q
   ·have e := ctCmp_eq _ _ q
    subst e
    exact h2 h3
   ·have q' : ctCmp a b < 0 := by rw [ctCmp_anti]; omega
    exact h2 (ctCmp_trans _ _ _ h3 q')
  ·intro a b
   simp only [Bool.or_eq_true, Bool.not_eq_true', decide_eq_false_iff_not]
   have := ctCmp_anti a b
   omega
 have hn : (sortF l).Nodup := (sortF_perm l).nodup_iff.2 h
 refine (hs.and hn).imp fun {a b} hab => ?_
 obtain ⟨h1, h2⟩ := hab
 simp only [Bool.not_eq_true', decide_eq_false_iff_not] at h1
 have h3 := ctCmp_anti a b
 rcases Int.lt_trichotomy (ctCmp a b) 0 with q | q | q
 ·exact q
 ·exact absurd (ctCmp_eq _ _ q) h2
 ·omega
theorem asc_ext {a b : List It} (ha : Asc a) (hb : Asc b) (h : a.Perm b) : a = b := by
 refine List.Perm.eq_of_pairwise (le := fun x y => ctCmp x y < 0) ?_ ha hb h
 intro x y _ _ h1 h2
 have := ctCmp_anti x y
 omega
def insPos (l : List It) (x : It) : Nat -> Nat
 | 0 => 0
 | i + 1 => if ctCmp x (l.getD i default) < 0 then insPos l x i else i + 1
def insAt (l : List It) (x : It) (i : Nat) : List It := l.take i ++ x :: l.drop i
def ritF : List Ln -> List It -> List It
 | [], acc => acc
 | x :: r, acc => if x.kind = 1 then ritF r (insAt acc x.it (insPos acc x.it acc.length)) else ritF r acc
theorem insPos_le (l : List It) (x : It) : ∀ n, insPos l x n <= n
 | 0 => Nat.le_refl _
 | n + 1 => by
  unfold insPos
  split
  ·have := insPos_le l x n; omega
  ·exact Nat.le_refl _
theorem insPos_above (l : List It) (x : It) : ∀ n j, insPos l x n <= j -> j < n -> ctCmp x (l.getD j default) < 0
 | 0, j, _, h => by omega
 | n + 1, j, h1, h2 => by
  unfold insPos at h1
  split at h1
  ·rename_i hc
   rcases Nat.lt_or_ge j n with h | h
   ·exact insPos_above l x n j h1 h
   ·obtain rfl : j = n := by omega
    exact hc
  ·omega
theorem insPos_stop (l : List It) (x : It) : ∀ n k, insPos l x n = k + 1 -> ¬ ctCmp x (l.getD k default) < 0
 | 0, k, h => by simp [insPos] at h
 | n + 1, k, h => by
  unfold insPos at h
  split at h
  ·exact insPos_stop l x n k h
  ·rename_i hc
   obtain rfl : n = k := by omega
   exact hc
theorem insAt_perm (l : List It) (x : It) (i : Nat) : (insAt l x i).Perm (x :: l) := by
 unfold insAt
 have h := List.perm_middle (a := x) (l₁ := l.take i) (l₂ := l.drop i)
 rwa [List.take_append_drop] at h
theorem insAt_len (l : List It) (x : It) (i : Nat) : (insAt l x i).length = l.length + 1 := by rw [(insAt_perm l x i).length_eq]; rfl
theorem asc_ins {l : List It} {x : It} (hl : Asc l) (hx : x ∉ l) : Asc (insAt l x (insPos l x l.length)) := by
 obtain ⟨p, hp⟩ : ∃ p, insPos l x l.length = p := ⟨_, rfl⟩
 rw [hp]
 have hple : p <= l.length := by rw [<- hp]; exact insPos_le l x _
 have gd : ∀ j (hj : j < l.length), l.getD j default = l[j] := fun j hj => by rw [List.getD_eq_getElem?_getD, List.getElem?_eq_getElem hj]; rfl
 have habove : ∀ y ∈ l.drop p, ctCmp x y < 0 := fun y hy => by
  obtain ⟨j, hj, rfl⟩ := List.getElem_of_mem hy
  simp only [List.length_drop] at hj
  rw [List.getElem_drop, <- gd (p + j) (by omega)]
  exact insPos_above l x l.length (p + j) (by omega) (by omega)
 have hsplit : Asc (l.take p ++ l.drop p) := by rw [List.take_append_drop]; exact hl
 obtain ⟨h1, h2, h3⟩ := List.pairwise_append.1 hsplit
 have hbelow : ∀ y ∈ l.take p, ctCmp y x < 0 := fun y hy => by
  cases p with
  | zero => simp at hy
  | succ k =>
   have hk : k < l.length := by omega
   have hs := insPos_stop l x l.length k hp
   rw [gd k hk] at hs
   have hne : ctCmp x l[k] ≠ 0 := fun e => hx (ctCmp_eq _ _ e ▸ List.getElem_mem hk)
   have hkx : ctCmp l[k] x < 0 := by rw [ctCmp_anti]; omega
   obtain ⟨j, hj, rfl⟩ := List.getElem_of_mem hy
   simp only [List.length_take] at hj
   rw [List.getElem_take]
   rcases Nat.lt_or_ge j k with h | h
   ·exact ctCmp_trans _ _ _ ((List.pairwise_iff_getElem.1 hl) j k (by omega) hk h) hkx
   ·obtain rfl : j = k := by omega
    exact hkx
 unfold insAt
 refine List.pairwise_append.2 ⟨h1, List.pairwise_cons.2 ⟨habove, h2⟩, fun a ha b hb => ?_⟩
 rcases List.mem_cons.1 hb with rfl | hb
 ·exact hbelow a ha
 ·exact h3 a ha b hb
theorem ritF_perm : ∀ (ls : List Ln) (acc : List It), (ritF ls acc).Perm (acc ++ itsL ls)
 | [], acc => by simp [ritF, itsL]
 | x :: r, acc => by
  unfold ritF
  split
  ·rename_i hk
   refine (ritF_perm r _).trans ?_
   have e : itsL (x :: r) = x.it :: itsL r := by simp [itsL, hk]
   rw [e]
   exact ((insAt_perm acc x.it _).append_right _).trans List.perm_middle.symm
  ·rename_i hk
   have e : itsL (x :: r) = itsL r := by simp [itsL, hk]
   rw [e]
   exact ritF_perm r acc
theorem ritF_asc : ∀ (ls : List Ln) (acc : List It), Asc acc -> (acc ++ itsL ls).Nodup -> Asc (ritF ls acc)
 | [], acc, h, _ => by simpa [ritF] using h
 | x :: r, acc, h, hn => by
  unfold ritF
  split
  ·rename_i hk
   have e : itsL (x :: r) = x.it :: itsL r := by simp [itsL, hk]
   rw [e] at hn
   have hx : x.it ∉ acc := fun ha => (List.nodup_append.1 hn).2.2 _ ha _ (by simp) rfl
   refine ritF_asc r _ (asc_ins h hx) ?_
   refine (List.Perm.nodup_iff ?_).2 hn
   exact ((insAt_perm acc x.it _).append_right _).trans List.perm_middle.symm
  ·rename_i hk
   have e : itsL (x :: r) = itsL r := by simp [itsL, hk]
   rw [e] at hn
   exact ritF_asc r acc h hn
theorem new_asc {ls : List Ln} {its : List It} (h : newF ls = .ok its) : Asc its /\ ritF ls [] = its := by
 unfold newF at h
 split at h
 ·cases h
 ·split at h
  ·cases h
  ·rename_i g hg
   split at h
   ·cases h
   ·cases h
    have hn := gathF_nodup ls 0 [] g (by simp) hg
    have hi := gathF_its ls 0 [] g hg
    simp only [List.nil_append] at hi
    have ha := asc_sort hn
    refine ⟨ha, asc_ext (ritF_asc ls [] List.Pairwise.nil (by simpa [<- hi] using hn)) ha ?_⟩
    refine (ritF_perm ls []).trans ?_
    simp only [List.nil_append, <- hi]
    exact (sortF_perm g).symm
def RowK (l : List It) (name : ByteArray) (k : Nat) : Option (Nat × Nat) -> Prop
 | none => ∀ i, i < k -> (l.getD i default).name ≠ name
 | some (lo, hi) => lo < hi /\ hi <= k /\ (l.getD lo default).name = name /\ (l.getD (hi - 1) default).name = name /\ ∀ i, i < k -> (l.getD i default).name = name -> lo <= i /\ i < hi
theorem row_k (l : List It) (name : ByteArray) : ∀ k, k <= l.length -> RowK l name k (ctRowO (l.take k) name)
 | 0, _ => by
  simp only [List.take_zero]
  exact fun i h => by omega
 | k + 1, hk => by
  have ih := row_k l name k (by omega)
  have e : l.take (k + 1) = l.take k ++ [l.getD k default] := by
   rw [List.take_add_one, List.getD_eq_getElem?_getD, List.getElem?_eq_getElem (by omega)]; rfl
  have hlen : (l.take k).length = k := by rw [List.length_take]; omega
  rw [e, ctRowO_snoc, hlen]
  cases hr : ctRowO (l.take k) name with
  | none =>
   rw [hr] at ih
   split
   ·rename_i hx
    refine ⟨by simp, by simp, by simpa using hx, by simpa using hx, fun i hi hn => ?_⟩
    rcases Nat.lt_or_ge i k with h | h
    ·exact absurd hn (ih i h)
    ·simp; omega
   ·rename_i hx
    intro i hi
    rcases Nat.lt_or_ge i k with h | h
    ·exact ih i h
    ·obtain rfl : i = k := by omega
     exact hx
  | some p =>
   obtain ⟨lo, hi⟩ := p
   rw [hr] at ih
   obtain ⟨h1, h2, h3, h4, h5⟩ := ih
   split
   ·rename_i hx
    show lo < k + 1 /\ _
    refine ⟨by omega, Nat.le_refl _, h3, by simpa using hx, fun i hi hn => ?_⟩
    rcases Nat.lt_or_ge i k with h | h
    ·have := h5 i h hn; exact ⟨this.1, by omega⟩
    ·exact ⟨show lo <= i by omega, by omega⟩
   ·rename_i hx
    refine ⟨h1, by omega, h3, h4, fun i hi hn => ?_⟩
    rcases Nat.lt_or_ge i k with h | h
    ·exact h5 i h hn
    ·obtain rfl : i = k := by omega
     exact absurd hn hx
theorem asc_at {l : List It} (h : Asc l) {i j : Nat} (hj : j < l.length) (hij : i < j) : ctCmp (l.getD i default) (l.getD j default) < 0 := by
 have gd : ∀ j (hj : j < l.length), l.getD j default = l[j] := fun j hj => by rw [List.getD_eq_getElem?_getD, List.getElem?_eq_getElem hj]; rfl
 rw [gd i (by omega), gd j hj]
 exact List.pairwise_iff_getElem.1 h i j (by omega) hj hij
theorem cmp_names {x y : It} (h : ctCmp x y < 0) : x.name = y.name \/ Lib.compareBytes x.name.data.toList y.name.data.toList < 0 := by
 unfold ctCmp at h
 split at h
 ·rename_i e; exact Or.inl (bytes_eq e)
 ·exact Or.inr h
theorem row_iff {l : List It} (h : Asc l) (name : ByteArray) (i : Nat) (hi : i < l.length) : (l.getD i default).name = name ↔ (ctRow l name).1 <= i /\ i < (ctRow l name).2 := by
 have hk := row_k l name l.length (Nat.le_refl _)
 rw [List.take_length] at hk
 unfold ctRow
 cases hr : ctRowO l name with
 | none =>
  rw [hr] at hk
  exact ⟨fun e => absurd e (hk i hi), fun e => by simp at e⟩
 | some p =>
  obtain ⟨lo, hi'⟩ := p
  rw [hr] at hk
  obtain ⟨h1, h2, h3, h4, h5⟩ := hk
  simp only [Option.getD_some]
  refine ⟨h5 i hi, fun ⟨g1, g2⟩ => ?_⟩
  apply Classical.byContradiction
  intro hne
  have n1 : lo ≠ i := fun e => hne (e ▸ h3)
  have n2 : hi' - 1 ≠ i := fun e => hne (e ▸ h4)
  have c1 := cmp_names (asc_at h hi (show lo < i by omega))
  have c2 := cmp_names (asc_at h (show hi' - 1 < l.length by omega) (show i < hi' - 1 by omega))
  rw [h3] at c1
  rw [h4] at c2
  rcases c1 with c1 | c1
  ·exact hne c1.symm
  ·rcases c2 with c2 | c2
   ·exact hne c2
   ·have := cb_anti name.data.toList (l.getD i default).name.data.toList
    omega
theorem filter_range {p q : Nat -> Bool} (n lo hi : Nat) (h2 : hi <= n) (h : ∀ i, i < n -> (q i = true ↔ (lo <= i /\ i < hi) /\ p i = true)) : (List.range n).filter q = (List.range' lo (hi - lo)).filter p := by
 rcases Nat.lt_or_ge hi lo with hlh | hlh
 ·rw [show hi - lo = 0 by omega]
  simp only [List.range'_zero, List.filter_nil, List.filter_eq_nil_iff]
  intro i hi'
  rw [List.mem_range] at hi'
  intro e
  have := (h i hi').1 e
  omega
 ·have e : List.range n = List.range' 0 lo ++ (List.range' lo (hi - lo) ++ List.range' hi (n - hi)) := by
   rw [List.range_eq_range']
   have a1 := List.range'_append_1 (s := lo) (m := hi - lo) (n := n - hi)
   have a2 := List.range'_append_1 (s := 0) (m := lo) (n := (hi - lo) + (n - hi))
   rw [show lo + (hi - lo) = hi by omega] at a1
   rw [Nat.zero_add] at a2
   rw [a1, a2]
   congr 1; omega
  rw [e, List.filter_append, List.filter_append]
  have f1 : (List.range' 0 lo).filter q = [] := by
   rw [List.filter_eq_nil_iff]
   intro i hi'
   have := List.mem_range'_1.1 hi'
   intro e
   have := (h i (by omega)).1 e
   omega
  have f3 : (List.range' hi (n - hi)).filter q = [] := by
   rw [List.filter_eq_nil_iff]
   intro i hi'
   have := List.mem_range'_1.1 hi'
   intro e
   have := (h i (by omega)).1 e
   omega
  have f2 : (List.range' lo (hi - lo)).filter q = (List.range' lo (hi - lo)).filter p := by
   refine List.filter_congr fun i hi' => ?_
   have := List.mem_range'_1.1 hi'
   rw [Bool.eq_iff_iff, h i (by omega)]
   constructor
   ·exact fun e => e.2
   ·exact fun e => ⟨by omega, e⟩
  rw [f1, f2, f3]; simp
theorem row_end (l : List It) (name : ByteArray) : (ctRow l name).2 <= l.length := by
 have hk := row_k l name l.length (Nat.le_refl _)
 rw [List.take_length] at hk
 unfold ctRow
 cases hr : ctRowO l name with
 | none => simp
 | some p =>
  obtain ⟨lo, hi'⟩ := p
  rw [hr] at hk
  exact hk.2.1
end
section
open Sv
theorem mixedP : Tryz.prog.follows .mixedOrders = true := by kernel_rfl
theorem less_cmp : ∀ a b : List UInt8, Op.bytesLess a b = decide (Lib.compareBytes a b < 0)
 | [], [] => by rfl
 | [], _ :: _ => by rfl
 | _ :: _, [] => by rfl
 | x :: a, y :: b => by
  have ih := less_cmp a b
  unfold Op.bytesLess Lib.compareBytes
  by_cases h1 : x < y
  ·simp [h1]
  ·by_cases h2 : y < x
   ·have h3 : x ≠ y := fun e => by subst e; exact h1 h2
    simp [h1, h2, h3]
   ·have h3 : x = y := u8_eq h1 h2
    subst h3
    simp [ih]
theorem less_names (x y : ByteArray) : Op.bytesLess x.toList y.toList = decide (Lib.compareBytes x.data.toList y.data.toList < 0) := by
 rw [ByteArray.toList_eq, ByteArray.toList_eq]; exact less_cmp _ _
end
section
open Go.RowKit Go.Shelf Go.Lib Sv
theorem ctNumb_at {its : List It} {x : It} {k : Nat} (hk : k < its.length) (hx : x = its.getD k default) (hno : ∀ j, j < k -> x ≠ its.getD j default) : ctNumb its x = (k : Int) := by
 have gd : ∀ j (hj : j < its.length), its.getD j default = its[j] := fun j hj => by rw [List.getD_eq_getElem?_getD, List.getElem?_eq_getElem hj]; rfl
 have h : its.findIdx? (fun y => decide (x = y)) = some k := by
  rw [List.findIdx?_eq_some_iff_getElem]
  refine ⟨hk, by rw [<- gd k hk]; simpa using hx, fun j hj => ?_⟩
  have := hno j hj
  rw [gd j (by omega)] at this
  simpa using this
 unfold ctNumb
 rw [h]
theorem ctNumb_none {its : List It} {x : It} (hno : ∀ j, j < its.length -> x ≠ its.getD j default) : ctNumb its x = -1 := by
 have gd : ∀ j (hj : j < its.length), its.getD j default = its[j] := fun j hj => by rw [List.getD_eq_getElem?_getD, List.getElem?_eq_getElem hj]; rfl
 have h : its.findIdx? (fun y => decide (x = y)) = none := by
  rw [List.findIdx?_eq_none_iff]
  intro y hy
  obtain ⟨j, hj, rfl⟩ := List.getElem_of_mem hy
  have := hno j hj
  rw [gd j hj] at this
  simpa using this
 unfold ctNumb
 rw [h]
theorem eq3n (a b c a' b' c' : Int) (w : World) : (Op.equalIn 9999 48 (.agg #[.int .i64 a, .int .i64 b, .int .i64 c]) (.agg #[.int .i64 a', .int .i64 b', .int .i64 c'])).run Tryz.prog w = .ok (a == a' && (b == b' && c == c')) w := by
 have u3 := Tryz.underlying3
 have a3 := Tryz.isAgg3
 have z3 := Tryz.sizeOf3
 rw [show (9999 : Nat) = 9998 + 1 from rfl, Op.equalIn]
 simp only [Sem.run_bind, run_underlying Tryz.underlying48, Result.andThen_ok]
 simp only [Std.Legacy.Range.forIn_eq_forIn_range', Std.Legacy.Range.size, Nat.sub_zero, Nat.add_sub_cancel, Nat.div_one, List.range'_succ, List.range'_zero, List.forIn_cons, List.forIn_nil]
 by_cases h1 : a = a'
 ·by_cases h2 : b = b'
  ·by_cases h3 : c = c'
   ·subst h1 h2 h3; go_simp
   ·have e3 : (c == c') = false := by simpa using h3
    subst h1 h2; go_simp
  ·have e2 : (b == b') = false := by simpa using h2
   subst h1; go_simp
 ·have e1 : (a == a') = false := by simpa using h1
  go_simp
theorem eqRI (x y : It) (w : World) : (Op.equalIn 10000 69 (.agg #[.string x.name, .int .i64 x.a, .int .i64 x.b, .int .i64 x.c]) (.agg #[.string y.name, .int .i64 y.a, .int .i64 y.b, .int .i64 y.c])).run Tryz.prog w = .ok (decide (x = y)) w := by
 have u3 := Tryz.underlying3
 have a3 := Tryz.isAgg3
 have z3 := Tryz.sizeOf3
 have u9 := Tryz.underlying9
 have a9 := Tryz.isAgg9
 have z9 := Tryz.sizeOf9
 have av := Tryz.isAgg48
 have zv := Tryz.sizeOf48
 have hS : Tryz.prog.underlying 69 = some (.struct (Tryz.prog.fieldsOf 69)) := by kernel_rfl
 have hp : Tryz.prog.stoodInHeld 69 = false := by kernel_rfl
 have he : decide (x = y) = (x.name.toList == y.name.toList && (x.a == y.a && (x.b == y.b && x.c == y.c))) := by
  obtain ⟨n, a, b, c⟩ := x
  obtain ⟨n', a', b', c'⟩ := y
  rw [Bool.eq_iff_iff]
  simp only [decide_eq_true_eq, It.mk.injEq, Bool.and_eq_true, beq_iff_eq]
  constructor
  ·rintro ⟨rfl, rfl, rfl, rfl⟩; exact ⟨rfl, rfl, rfl, rfl⟩
  ·rintro ⟨h, rfl, rfl, rfl⟩; exact ⟨bytes_eq h, rfl, rfl, rfl⟩
 rw [he]
 have h3 := eq3n x.a x.b x.c y.a y.b y.c
 generalize x.name = n at *
 generalize y.name = n' at *
 generalize x.a = a at *
 generalize x.b = b at *
 generalize x.c = c at *
 generalize y.a = a' at *
 generalize y.b = b' at *
 generalize y.c = c' at *
 generalize (a == a' && (b == b' && c == c')) = q at *
 clear he
 rw [show (10000 : Nat) = 9999 + 1 from rfl, run_equalIn_struct w 9999 69 _ _ hS hp]
 simp only [Program.fieldsOf, Tryz.underlying69]
 cases hn : (n.toList == n'.toList) <;> cases q <;> go_simp
theorem rnumof_any (its : List It) (x : It) (v : Value) (w : World) (h : ItsAt w v its) (hl : its.length <= 100000) :
  Calls Tryz.prog 41 #[v, .agg #[.string x.name, .int .i64 x.a, .int .i64 x.b, .int .i64 x.c]] w fun e w' => e = .returned (.int .i64 (ctNumb its x)) /\ Below w.heap.size w w' := by
 obtain ⟨va, vc, rfl, -⟩ := h.form
 have hb0 : Below w.heap.size w (w.alloc (.cells #[.string x.name, .int .i64 x.a, .int .i64 x.b, .int .i64 x.c] 69)) := (Below.refl _ w).alloc (Nat.le_refl _) _
 have k0 := Blk.new w 69 #[.string x.name, .int .i64 x.a, .int .i64 x.b, .int .i64 x.c]
 have HI := Lib.hid (show ItsAt (w.alloc (.cells #[.string x.name, .int .i64 x.a, .int .i64 x.b, .int .i64 x.c] 69)) (.slice va its.length vc) its from h.below hb0 (Nat.le_refl _))
 have HB0 := Lib.hid hb0
 have HK0 := Lib.hid k0
 have HAT := Lib.hid (fun k hk hx hno => ctNumb_at (its := its) (x := x) (k := k) hk hx hno)
 have HNO := Lib.hid (fun hno => ctNumb_none (its := its) (x := x) hno)
 have HEQ := Lib.hid (fun y w => eqRI x y w)
 clear h hb0 k0
 go_enter Tryz.func41, Tryz.ntmps41
 go_upto_region 1 with fail
 generalize w.alloc (.cells #[.string x.name, .int .i64 x.a, .int .i64 x.b, .int .i64 x.c] 69) = W0 at *
 go_wp2_with fail
 go_loopw [9] (fun kV wr => ∃ k : Nat, k <= its.length /\ kV = .int .i64 (k : Int) /\ (∀ j, j < k -> x ≠ its.getD j default) /\ Below W0.heap.size W0 wr) (fun kV _ => its.length - (intOf kV).toNat)
 case atStart => exact ⟨0, Nat.zero_le _, rfl, fun j h => by omega, Below.refl _ _⟩
 case round =>
  obtain ⟨k, hk, rfl, hno, hbr⟩ := hrel
  have HB : Hid (Below w.heap.size w wr) := HB0.out.trans (hbr.mono HB0.out.size)
  have HNK := Lib.hid hno
  have HBR := Lib.hid hbr
  by_cases hlt : k < its.length
  ·obtain ⟨g, cap', e1, hg, c0, c1, c2, c3⟩ := (show ItsAt wr (.slice va its.length vc) its from HI.out.below hbr (Nat.le_refl _)).at k hlt
   simp at e1
   obtain ⟨rfl, rfl⟩ := e1
   have kx := HK0.out.below hbr HK0.out.lt
   have hii0 : (0 : Int) <= (k : Int) := by omega
   have hii1 : (k : Int) < (its.length : Int) := by omega
   obtain ⟨X, hX⟩ : ∃ X, its.getD k default = X := ⟨_, rfl⟩
   rw [hX] at c0 c1 c2 c3
   have HX := Lib.hid hX
   have hA : Below wr.heap.size wr (wr.alloc (.cells #[.string X.name, .int .i64 X.a, .int .i64 X.b, .int .i64 X.c] 69)) := (Below.refl _ _).alloc (Nat.le_refl _) _
   have kn := Blk.new wr 69 #[.string X.name, .int .i64 X.a, .int .i64 X.b, .int .i64 X.c]
   have kx2 := kx.below hA kx.lt
   have HA := Lib.hid hA
   have HKX := Lib.hid kx2
   have HKN := Lib.hid kn
   clear hno hbr kx hA kn kx2 hX
   go_upto_region 4 with fail
   generalize wr.alloc (.cells #[.string X.name, .int .i64 X.a, .int .i64 X.b, .int .i64 X.c] 69) = W3 at *
   clear c0 c1 c2 c3
   have c0 := HKX.out.cell 0
   have c1 := HKX.out.cell 1
   have c2 := HKX.out.cell 2
   have c3 := HKX.out.cell 3
   have d0 := HKN.out.cell 0
   have d1 := HKN.out.cell 1
   have d2 := HKN.out.cell 2
   have d3 := HKN.out.cell 3
   have HW3 : Hid (Below w.heap.size w W3) := HB.out.trans (HA.out.mono HB.out.size)
   have HW4 : Hid (Below W0.heap.size W0 W3) := HBR.out.trans (HA.out.mono HBR.out.size)
   by_cases hx : x = X
   ·have heq : ∀ w, (Op.equalIn 10000 69 (.agg #[.string x.name, .int .i64 x.a, .int .i64 x.b, .int .i64 x.c]) (.agg #[.string X.name, .int .i64 X.a, .int .i64 X.b, .int .i64 X.c])).run Tryz.prog w = .ok true w := fun w => by rw [HEQ.out X w, decide_eq_true hx]
    have HR : Hid (ctNumb its x = (k : Int)) := HAT.out k hlt (by rw [hx, HX.out]) HNK.out
    clear hx HNK HNO HAT HEQ HX
    go_wp2
    go_ret
    exact ⟨by rw [HR.out]; rfl, HW3.out⟩
   ·have heq : ∀ w, (Op.equalIn 10000 69 (.agg #[.string x.name, .int .i64 x.a, .int .i64 x.b, .int .i64 x.c]) (.agg #[.string X.name, .int .i64 X.a, .int .i64 X.b, .int .i64 X.c])).run Tryz.prog w = .ok false w := fun w => by rw [HEQ.out X w, decide_eq_false hx]
    have HN : Hid (∀ j, j < k + 1 -> x ≠ its.getD j default) := fun j hj => by
     rcases Nat.lt_or_ge j k with h | h
     ·exact HNK.out j h
     ·obtain rfl : j = k := by omega
      rw [HX.out]; exact hx
    clear hx HNK HNO HAT HEQ HX
    go_wp2
    go_roundw
    case rel => exact ⟨k + 1, by omega, by go_num, HN.out, HW4.out⟩
    case measure => simp [intOf]; omega
  ·have hni : ¬ (k : Int) < (its.length : Int) := by omega
   obtain rfl : k = its.length := by omega
   have HR : Hid (ctNumb its x = -1) := HNO.out HNK.out
   clear HNO HAT HEQ hno hbr
   go_wp2
   go_ret
   exact ⟨by rw [HR.out]; rfl, HB.out⟩
end
end Go.Proofs.YtmhophccdfmngaaGreatDoor
