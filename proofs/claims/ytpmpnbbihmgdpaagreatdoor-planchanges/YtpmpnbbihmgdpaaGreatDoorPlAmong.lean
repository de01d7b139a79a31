/- plan: among, own. -/
import Derived.Test.YtpmpnbbihmgdpaaGreatDoorCtNew
import Derived.Test.YtpmpnbbihmgdpaaGreatDoorPlSmall
import Derived.Test.YtpmpnbbihmgdpaaGreatDoorCtAmong
set_option maxHeartbeats 1000000
set_option maxRecDepth 100000
namespace Go.Proofs.YtpmpnbbihmgdpaaGreatDoor
section
open Sv
def Asc (l : List It) : Prop := l.Pairwise fun x y => ctCmp x y < 0
theorem gathF_nodup : ∀ (ls : List Ln) (i : Nat) (its out : List It), its.Nodup -> gathF ls i its = .ok out -> out.Nodup
 | [], i, its, out, h0, h => by cases h; exact h0
 | x :: r, i, its, out, h0, h => by
  rw [gathF] at h
  split at h
  ·cases h
  ·split at h
   ·split at h
    ·cases h
    ·rename_i hx
     split at h
     ·cases h
     ·refine gathF_nodup r (i + 1) _ out ?_ h
      rw [List.nodup_append]
      exact ⟨h0, by simp, fun a ha b hb => by
       have : b = x.it := by simpa using hb
       subst this
       exact fun e => hx (e ▸ ha)⟩
   ·exact gathF_nodup r (i + 1) its out h0 h
def itsL (ls : List Ln) : List It := (ls.filter fun x => decide (x.kind = 1)).map Ln.it
theorem gathF_its : ∀ (ls : List Ln) (i : Nat) (its out : List It), gathF ls i its = .ok out -> out = its ++ itsL ls
 | [], i, its, out, h => by cases h; simp [itsL]
 | x :: r, i, its, out, h => by
  rw [gathF] at h
  split at h
  ·cases h
  ·split at h
   ·rename_i hk
    split at h
    ·cases h
    ·split at h
     ·cases h
     ·have := gathF_its r (i + 1) _ out h
      rw [this]
      simp [itsL, hk]
   ·rename_i hk
    have := gathF_its r (i + 1) its out h
    rw [this]
    simp [itsL, hk]
theorem asc_sort {l : List It} (h : l.Nodup) : Asc (sortF l) := by
 have hs : (sortF l).Pairwise fun x y => (!decide (ctCmp y x < 0)) = true := by
  unfold sortF
  refine List.pairwise_mergeSort ?_ ?_ l
  ·intro a b c h1 h2
   simp only [Bool.not_eq_true', decide_eq_false_iff_not] at h1 h2 ⊢
   intro h3
   rcases Int.lt_trichotomy (ctCmp b a) 0 with q | q | q
   ·exact h1 q
   ·have e := ctCmp_eq _ _ q
    subst e
    exact h2 h3
   ·have q' : ctCmp a b < 0 := by rw [ctCmp_anti]; omega
    exact h2 (ctCmp_trans _ _ _ h3 q')
  ·intro a b
   simp only [Bool.or_eq_true, Bool.not_eq_true', decide_eq_false_iff_not]
   have := ctCmp_anti a b
   omega
 have hn : (sortF l).Nodup := (sortF_perm l).nodup_iff.2 h
 refine (hs.and hn).imp fun {a b} hab => ?_
 obtain ⟨h1, h2⟩ := hab
 simp only [Bool.not_eq_true', decide_eq_false_iff_not] at h1
 have h3 := ctCmp_anti a b
 rcases Int.lt_trichotomy (ctCmp a b) 0 with q | q | q
 ·exact q
 ·exact absurd (ctCmp_eq _ _ q) h2
 ·omega
theorem asc_ext {a b : List It} (ha : Asc a) (hb : Asc b) (h : a.Perm b) : a = b := by
 refine List.Perm.eq_of_pairwise (le := fun x y => ctCmp x y < 0) ?_ ha hb h
 intro x y _ _ h1 h2
 have := ctCmp_anti x y
 omega
def insPos (l : List It) (x : It) : Nat -> Nat
 | 0 => 0
 | i + 1 => if ctCmp x (l.getD i default) < 0 then insPos l x i else i + 1
def insAt (l : List It) (x : It) (i : Nat) : List It := l.take i ++ x :: l.drop i
def ritF : List Ln -> List It -> List It
 | [], acc => acc
 | x :: r, acc => if x.kind = 1 then ritF r (insAt acc x.it (insPos acc x.it acc.length)) else ritF r acc
theorem insPos_le (l : List It) (x : It) : ∀ n, insPos l x n <= n
 | 0 => Nat.le_refl _
 | n + 1 => by
  unfold insPos
  split
  ·have := insPos_le l x n; omega
  ·exact Nat.le_refl _
theorem insPos_above (l : List It) (x : It) : ∀ n j, insPos l x n <= j -> j < n -> ctCmp x (l.getD j default) < 0
 | 0, j, _, h => by omega
 | n + 1, j, h1, h2 => by
  unfold insPos at h1
  split at h1
  ·rename_i hc
   rcases Nat.lt_or_ge j n with h | h
   ·exact insPos_above l x n j h1 h
   ·obtain rfl : j = n := by omega
    exact hc
  ·omega
theorem insPos_stop (l : List It) (x : It) : ∀ n k, insPos l x n = k + 1 -> ¬ ctCmp x (l.getD k default) < 0
 | 0, k, h => by simp [insPos] at h
 | n + 1, k, h => by
  unfold insPos at h
  split at h
  ·exact insPos_stop l x n k h
  ·rename_i hc
   obtain rfl : n = k := by omega
   exact hc
theorem insAt_perm (l : List It) (x : It) (i : Nat) : (insAt l x i).Perm (x :: l) := by
 unfold insAt
 have h := List.perm_middle (a := x) (l₁ := l.take i) (l₂ := l.drop i)
 rwa [List.take_append_drop] at h
theorem asc_ins {l : List It} {x : It} (hl : Asc l) (hx : x ∉ l) : Asc (insAt l x (insPos l x l.length)) := by
 obtain ⟨p, hp⟩ : ∃ p, insPos l x l.length = p := ⟨_, rfl⟩
 rw [hp]
 have hple : p <= l.length := by rw [<- hp]; exact insPos_le l x _
 have gd : ∀ j (hj : j < l.length), l.getD j default = l[j] := fun j hj => by rw [List.getD_eq_getElem?_getD, List.getElem?_eq_getElem hj]; rfl
 have habove : ∀ y ∈ l.drop p, ctCmp x y < 0 := fun y hy => by
  obtain ⟨j, hj, rfl⟩ := List.getElem_of_mem hy
  simp only [List.length_drop] at hj
  rw [List.getElem_drop, <- gd (p + j) (by omega)]
  exact insPos_above l x l.length (p + j) (by omega) (by omega)
 have hsplit : Asc (l.take p ++ l.drop p) := by rw [List.take_append_drop]; exact hl
 obtain ⟨h1, h2, h3⟩ := List.pairwise_append.1 hsplit
 have hbelow : ∀ y ∈ l.take p, ctCmp y x < 0 := fun y hy => by
  cases p with
  | zero => simp at hy
  | succ k =>
   have hk : k < l.length := by omega
   have hs := insPos_stop l x l.length k hp
   rw [gd k hk] at hs
   have hne : ctCmp x l[k] ≠ 0 := fun e => hx (ctCmp_eq _ _ e ▸ List.getElem_mem hk)
   have hkx : ctCmp l[k] x < 0 := by rw [ctCmp_anti]; omega
   obtain ⟨j, hj, rfl⟩ := List.getElem_of_mem hy
   simp only [List.length_take] at hj
   rw [List.getElem_take]
   rcases Nat.lt_or_ge j k with h | h
   ·exact ctCmp_trans _ _ _ ((List.pairwise_iff_getElem.1 hl) j k (by omega) hk h) hkx
   ·obtain rfl : j = k := by omega
    exact hkx
 unfold insAt
 refine List.pairwise_append.2 ⟨h1, List.pairwise_cons.2 ⟨habove, h2⟩, fun a ha b hb => ?_⟩
 rcases List.mem_cons.1 hb with rfl | hb
 ·exact hbelow a ha
 ·exact h3 a ha b hb
theorem ritF_perm : ∀ (ls : List Ln) (acc : List It), (ritF ls acc).Perm (acc ++ itsL ls)
 | [], acc => by simp [ritF, itsL]
 | x :: r, acc => by
  unfold ritF
  split
  ·rename_i hk
   refine (ritF_perm r _).trans ?_
   have e : itsL (x :: r) = x.it :: itsL r := by simp [itsL, hk]
   rw [e]
   exact ((insAt_perm acc x.it _).append_right _).trans List.perm_middle.symm
  ·rename_i hk
   have e : itsL (x :: r) = itsL r := by simp [itsL, hk]
   rw [e]
   exact ritF_perm r acc
theorem ritF_asc : ∀ (ls : List Ln) (acc : List It), Asc acc -> (acc ++ itsL ls).Nodup -> Asc (ritF ls acc)
 | [], acc, h, _ => by simpa [ritF] using h
 | x :: r, acc, h, hn => by
  unfold ritF
  split
  ·rename_i hk
   have e : itsL (x :: r) = x.it :: itsL r := by simp [itsL, hk]
   rw [e] at hn
   have hx : x.it ∉ acc := fun ha => (List.nodup_append.1 hn).2.2 _ ha _ (by simp) rfl
   refine ritF_asc r _ (asc_ins h hx) ?_
   refine (List.Perm.nodup_iff ?_).2 hn
   exact ((insAt_perm acc x.it _).append_right _).trans List.perm_middle.symm
  ·rename_i hk
   have e : itsL (x :: r) = itsL r := by simp [itsL, hk]
   rw [e] at hn
   exact ritF_asc r acc h hn
theorem new_asc {ls : List Ln} {its : List It} (h : newF ls = .ok its) : Asc its /\ ritF ls [] = its := by
 unfold newF at h
 split at h
 ·cases h
 ·split at h
  ·cases h
  ·rename_i g hg
   split at h
   ·cases h
   ·cases h
    have hn := gathF_nodup ls 0 [] g (by simp) hg
    have hi := gathF_its ls 0 [] g hg
    simp only [List.nil_append] at hi
    have ha := asc_sort hn
    refine ⟨ha, asc_ext (ritF_asc ls [] List.Pairwise.nil (by simpa [<- hi] using hn)) ha ?_⟩
    refine (ritF_perm ls []).trans ?_
    simp only [List.nil_append, <- hi]
    exact (sortF_perm g).symm
def RowK (l : List It) (name : ByteArray) (k : Nat) : Option (Nat × Nat) -> Prop
 | none => ∀ i, i < k -> (l.getD i default).name ≠ name
 | some (lo, hi) => lo < hi /\ hi <= k /\ (l.getD lo default).name = name /\ (l.getD (hi - 1) default).name = name /\ ∀ i, i < k -> (l.getD i default).name = name -> lo <= i /\ i < hi
theorem row_k (l : List It) (name : ByteArray) : ∀ k, k <= l.length -> RowK l name k (ctRowO (l.take k) name)
 | 0, _ => by
  simp only [List.take_zero]
  exact fun i h => by omega
 | k + 1, hk => by
  have ih := row_k l name k (by omega)
  have e : l.take (k + 1) = l.take k ++ [l.getD k default] := by
   rw [List.take_add_one, List.getD_eq_getElem?_getD, List.getElem?_eq_getElem (by omega)]; rfl
  have hlen : (l.take k).length = k := by rw [List.length_take]; omega
  rw [e, ctRowO_snoc, hlen]
  cases hr : ctRowO (l.take k) name with
  | none =>
   rw [hr] at ih
   split
   ·rename_i hx
    refine ⟨by simp, by simp, by simpa using hx, by simpa using hx, fun i hi hn => ?_⟩
    rcases Nat.lt_or_ge i k with h | h
    ·exact absurd hn (ih i h)
    ·simp; omega
   ·rename_i hx
    intro i hi
    rcases Nat.lt_or_ge i k with h | h
    ·exact ih i h
    ·obtain rfl : i = k := by omega
     exact hx
  | some p =>
   obtain ⟨lo, hi⟩ := p
   rw [hr] at ih
   obtain ⟨h1, h2, h3, h4, h5⟩ := ih
   split
   ·rename_i hx
    show lo < k + 1 /\ _
    refine ⟨by omega, Nat.le_refl _, h3, by simpa using hx, fun i hi hn => ?_⟩
    rcases Nat.lt_or_ge i k with h | h
    ·have := h5 i h hn; exact ⟨this.1, by omega⟩
    ·exact ⟨show lo <= i by omega, by omega⟩
   ·rename_i hx
    refine ⟨h1, by omega, h3, h4, fun i hi hn => ?_⟩
    rcases Nat.lt_or_ge i k with h | h
    ·exact h5 i h hn
    ·obtain rfl : i = k := by omega
     exact absurd hn hx
theorem asc_at {l : List It} (h : Asc l) {i j : Nat} (hj : j < l.length) (hij : i < j) : ctCmp (l.getD i default) (l.getD j default) < 0 := by
 have gd : ∀ j (hj : j < l.length), l.getD j default = l[j] := fun j hj => by rw [List.getD_eq_getElem?_getD, List.getElem?_eq_getElem hj]; rfl
 rw [gd i (by omega), gd j hj]
 exact List.pairwise_iff_getElem.1 h i j (by omega) hj hij
theorem cmp_names {x y : It} (h : ctCmp x y < 0) : x.name = y.name \/ Lib.compareBytes x.name.data.toList y.name.data.toList < 0 := by
 unfold ctCmp at h
 split at h
 ·rename_i e; exact Or.inl (bytes_eq e)
 ·exact Or.inr h
theorem row_iff {l : List It} (h : Asc l) (name : ByteArray) (i : Nat) (hi : i < l.length) : (l.getD i default).name = name ↔ (ctRow l name).1 <= i /\ i < (ctRow l name).2 := by
 have hk := row_k l name l.length (Nat.le_refl _)
 rw [List.take_length] at hk
 unfold ctRow
 cases hr : ctRowO l name with
 | none =>
  rw [hr] at hk
  exact ⟨fun e => absurd e (hk i hi), fun e => by simp at e⟩
 | some p =>
  obtain ⟨lo, hi'⟩ := p
  rw [hr] at hk
  obtain ⟨h1, h2, h3, h4, h5⟩ := hk
  simp only [Option.getD_some]
  refine ⟨h5 i hi, fun ⟨g1, g2⟩ => ?_⟩
  apply Classical.byContradiction
  intro hne
  have n1 : lo ≠ i := fun e => hne (e ▸ h3)
  have n2 : hi' - 1 ≠ i := fun e => hne (e ▸ h4)
  have c1 := cmp_names (asc_at h hi (show lo < i by omega))
  have c2 := cmp_names (asc_at h (show hi' - 1 < l.length by omega) (show i < hi' - 1 by omega))
  rw [h3] at c1
  rw [h4] at c2
  rcases c1 with c1 | c1
  ·exact hne c1.symm
  ·rcases c2 with c2 | c2
   ·exact hne c2
   ·have := cb_anti name.data.toList (l.getD i default).name.data.toList
    omega
end
section
open Sv
noncomputable def amS (its : List It) (name : ByteArray) (rng : List Span) : Nat := bitsN (amongF its name rng)
theorem amS_test (its : List It) (name : ByteArray) (rng : List Span) (i : Nat) : (amS its name rng).testBit i = decide (i ∈ amongF its name rng) := bitsN_test _ _
theorem amS_lt (its : List It) (name : ByteArray) (rng : List Span) : amS its name rng < 2 ^ its.length := bitsN_lt _ _ (amongF_lt its name rng)
theorem amS_lt24 (its : List It) (name : ByteArray) (rng : List Span) (h : its.length <= 24) : amS its name rng < 16777216 :=
 Nat.lt_of_lt_of_le (amS_lt its name rng) (Nat.pow_le_pow_right (n := 2) (by decide) h)
def ownN (its : List It) (x : Ln) : Nat := (ctNumb its x.it).toNat
noncomputable def singleB (its : List It) (set : Nat) : Bool := decide (set < 2 ^ its.length) && its.all fun x => decide (cntB (set &&& amS its x.name anyF) <= 1)
noncomputable def keepsB (its : List It) (x : Ln) (set : Nat) : Bool :=
 if x.kind = 4 then decide (set &&& amS its x.name x.rng ≠ 0)
 else if x.kind = 2 then decide (set &&& 2 ^ ownN its x = 0) || decide (set &&& amS its x.other x.rng ≠ 0)
 else if x.kind = 3 then decide (set &&& 2 ^ ownN its x = 0) || decide (set &&& amS its x.other x.rng = 0)
 else true
noncomputable def badF (its : List It) (ls : List Ln) (set : Nat) : Option Nat := ls.findIdx? fun x => !keepsB its x set
def fitsG : Option Nat -> Bool × Int
 | some n => (false, (n : Int))
 | none => (true, -1)
noncomputable def fitsF (its : List It) (ls : List Ln) (set : Nat) : Bool × Int :=
 if singleB its set = false then (false, -2) else fitsG (badF its ls set)
theorem missF_none : ∀ (ls : List Ln) (i : Nat) (its : List It), missF ls i its = none -> ∀ x ∈ ls, x.pair -> x.it ∈ its
 | [], i, its, _, x, hx, _ => by cases hx
 | y :: r, i, its, h, x, hx, hp => by
  unfold missF at h
  split at h
  ·cases h
  ·rename_i hn
   rcases List.mem_cons.1 hx with rfl | hx
   ·exact Classical.byContradiction fun hc => hn ⟨hp, hc⟩
   ·exact missF_none r (i + 1) its h x hx hp
theorem newF_pair {ls : List Ln} {its : List It} (h : newF ls = .ok its) : ∀ x ∈ ls, x.pair -> x.it ∈ its := by
 unfold newF at h
 split at h
 ·cases h
 ·split at h
  ·cases h
  ·split at h
   ·cases h
   ·rename_i hm
    cases h
    exact missF_none _ _ _ hm
theorem numb_some {its : List It} {x : It} (h : x ∈ its) : ∃ k : Nat, k < its.length /\ ctNumb its x = (k : Int) /\ its.getD k default = x := by
 unfold ctNumb
 cases hf : its.findIdx? (fun y => decide (x = y)) with
 | none =>
  rw [List.findIdx?_eq_none_iff] at hf
  have := hf x h
  simp at this
 | some k =>
  obtain ⟨h1, h2, _⟩ := List.findIdx?_eq_some_iff_getElem.1 hf
  refine ⟨k, h1, rfl, ?_⟩
  rw [List.getD_eq_getElem?_getD, List.getElem?_eq_getElem h1]
  simpa using (of_decide_eq_true h2).symm
theorem own_pair {ls : List Ln} {its : List It} (h : newF ls = .ok its) {x : Ln} (hx : x ∈ ls) (hp : x.pair) : ctNumb its x.it = (ownN its x : Int) /\ ownN its x < its.length /\ its.getD (ownN its x) default = x.it := by
 obtain ⟨k, h1, h2, h3⟩ := numb_some (newF_pair h x hx hp)
 unfold ownN
 rw [h2]
 exact ⟨by simp, by simpa using h1, by simpa using h3⟩
noncomputable def needP (its : List It) (ls : List Ln) : Nat -> List Nat
 | 0 => List.replicate its.length 0
 | n + 1 => if (ls.getD n default).kind = 2 then
   (needP its ls n).set (ownN its (ls.getD n default)) ((needP its ls n).getD (ownN its (ls.getD n default)) 0 ||| (amS its (ls.getD n default).other (ls.getD n default).rng &&& (18446744073709551615 - 2 ^ ownN its (ls.getD n default))))
  else needP its ls n
noncomputable def needF (its : List It) (ls : List Ln) : List Nat := needP its ls ls.length
theorem needP_len (its : List It) (ls : List Ln) : ∀ n, (needP its ls n).length = its.length
 | 0 => by simp [needP]
 | n + 1 => by
  unfold needP
  split
  ·rw [List.length_set, needP_len its ls n]
  ·exact needP_len its ls n
def ordGo (nd : List Nat) : Nat -> List Nat -> Nat -> List Nat -> Option (List Nat)
 | 0, _, _, out => some out
 | f + 1, wait, left, out => if wait = [] then some out else match wait.findIdx? (fun i => decide (nd.getD i 0 &&& left = 0)) with
  | none => none
  | some j => ordGo nd f (wait.eraseIdx j) (left &&& (18446744073709551615 - 2 ^ wait.getD j 0)) (out ++ [wait.getD j 0])
noncomputable def ordF (its : List It) (ls : List Ln) (set : Nat) : Option (List Nat) := ordGo (needF its ls) (itemsP set 24).length (itemsP set 24) set []
end
section
open Go.RowKit Go.Deep Sv
theorem ptake_snoc (A : List Nat) (i : Nat) (h : i < A.length) : A.take (i + 1) = A.take i ++ [A.getD i 0] := by
 rw [List.take_add_one, List.getD_eq_getElem?_getD, List.getElem?_eq_getElem h]; rfl
theorem natS_at (A : List Nat) (i : Nat) (h : i < A.length) : (natS A).getD i 0 = ((A.getD i 0 : Nat) : Int) := by
 simp [natS, List.getD_eq_getElem?_getD, h]
theorem pget_mem (A : List Nat) (i : Nat) (h : i < A.length) : A.getD i 0 ∈ A := by
 rw [List.getD_eq_getElem?_getD, List.getElem?_eq_getElem h]; exact List.getElem_mem h
theorem bitsN_24 (A : List Nat) (n : Nat) (hn : n <= 24) (h : ∀ x ∈ A, x < n) : bitsN A < 16777216 :=
 Nat.lt_of_lt_of_le (bitsN_lt A n h) (Nat.pow_le_pow_right (n := 2) (by decide) hn)
theorem or_u64 (a b : Nat) (ha : a < 18446744073709551616) (hb : b < 18446744073709551616) : bits BinOp.or IntKind.u64 (a : Int) (b : Int) = ((a ||| b : Nat) : Int) := bits_or_u64_nat a b ha hb
theorem pamong_c (bk : Nat) (ls : List Ln) (its : List It) (name : ByteArray) (rng : List Span) (hr : Rg rng) (v : Value) (w : World) (h : CatAt w bk ls its) (hl : its.length <= 24) (hn : name.size <= 100000) (hv : SpAt w v rng) :
  Calls Tryz.prog 143 #[.pointer (some ⟨bk, 0, none⟩), .string name, .agg #[v]] w fun e w' => e = .returned (.int .u64 (amS its name rng : Int)) /\ Below w.heap.size w w' := by
 obtain ⟨va, vc, rfl⟩ := hv.form
 have hbx : Below w.heap.size w (w.alloc (.cells #[.slice va rng.length vc] 96)) := (Below.refl _ w).alloc (Nat.le_refl _) _
 have HAM0 := among_c bk ls its name rng hr (.slice va rng.length vc) _ (h.below hbx (Nat.le_refl _)) (by omega) hn (hv.below hbx (Nat.le_refl _))
 have kr := Blk.new w 96 #[.slice va rng.length vc]
 have HLT := Lib.hid (amongF_lt its name rng)
 have hAl := amongF_len its name rng
 have HBX := Lib.hid hbx
 unfold amS
 have HJ : Hid (∀ W (k : Nat), k < 64 -> Calls Tryz.prog 91 #[.int .i64 (k : Int)] W fun e w' => e = .returned (.int .u64 ((2 ^ k : Nat) : Int)) /\ w' = W) := fun W k hk => just_c k hk W
 generalize amongF its name rng = A at *
 clear h hn hv hr hbx
 go_enter Tryz.func143, Tryz.ntmps143
 go_upto_region 2 with fail
 generalize w.alloc (.cells #[.slice va rng.length vc] 96) = W0 at *
 have d0 : W0.cell? ⟨w.heap.size, 0, none⟩ = some (.slice va rng.length vc) := kr.cell 0
 have HAM := Lib.hid HAM0
 clear HAM0 kr
 go_wp2_with fail
 refine HAM.out.mono ?_
 rintro e w1 ⟨v', rfl, hown, hb1⟩
 obtain ⟨oa, oc, rfl, -⟩ := row_form hown
 have HIN : Hid (IntsIn w1 oa (natS A)) := ints_row (B := W0.heap.size) (c := oc) (by rw [natS_len]; exact hown)
 have HB1 : Hid (Below w.heap.size w w1) := HBX.out.trans (hb1.mono HBX.out.size)
 clear hown hb1 HAM d0 HBX
 go_wp2_with fail
 go_loopw [7, 15] (fun oV iV wr => ∃ i : Nat, i <= A.length /\ iV = .int .i64 (i : Int) /\ oV = .int .u64 ((bitsN (A.take i) : Nat) : Int) /\ wr = w1) (fun _ iV _ => A.length - (intOf iV).toNat)
 case atStart => exact ⟨0, Nat.zero_le _, rfl, rfl, rfl⟩
 case round =>
  obtain ⟨i, hil, rfl, rfl, rfl⟩ := hrel
  by_cases hlt : i < A.length
  ·obtain ⟨ad, rfl, had, c1⟩ := HIN.out i (by rw [natS_len]; exact hlt)
   rw [natS_at A i hlt] at c1
   have hx := HLT.out _ (pget_mem A i hlt)
   have HTK : Hid (bitsN (A.take (i + 1)) = bitsN (A.take i) ||| 2 ^ A.getD i 0) := by show _ = _; rw [ptake_snoc A i hlt, bitsN_snoc]
   have hbn := bitsN_24 (A.take i) its.length hl (fun x hx => HLT.out x (List.mem_of_mem_take hx))
   generalize bitsN (A.take i) = B at *
   generalize A.getD i 0 = x at *
   have hor := or_u64 B (2 ^ x) (by omega) (pow_64 x (by omega))
   have HJi := Lib.hid (HJ.out wr x (by omega))
   rw [<- HTK.out] at hor
   have hii0 : (0 : Int) <= (i : Int) := by omega
   have hii1 : (i : Int) < (A.length : Int) := by omega
   obtain ⟨ab, ao, asp⟩ := ad
   clear HTK
   obtain ⟨B2, hB2⟩ : ∃ B2, bitsN (A.take (i + 1)) = B2 := ⟨_, rfl⟩
   rw [hB2] at hor
   have HB2 := Lib.hid hB2
   clear hB2
   go_wp2_with fail
   refine HJi.out.mono ?_
   rintro e w2 ⟨rfl, rfl⟩
   generalize (2 ^ x : Nat) = P2 at *
   clear HJi
   go_wp2
   go_roundw
   case rel => exact ⟨i + 1, hlt, by go_num, by rw [HB2.out], by first | rfl | trivial⟩
   case measure => simp [intOf]; omega
  ·obtain rfl : i = A.length := by omega
   rw [List.take_length]
   go_wp2
   go_ret
   exact ⟨rfl, HB1.out⟩
theorem pown_c (bk : Nat) (ls : List Ln) (its : List It) (x : Ln) (ra : Option Addr) (rc : Nat) (w : World) (h : CatAt w bk ls its) (hl : its.length <= 24) (hk : ctNumb its x.it = (ownN its x : Int)) (hlt : ownN its x < its.length) :
  Calls Tryz.prog 145 #[.pointer (some ⟨bk, 0, none⟩), .agg #[.int .i64 x.kind, .string x.name, .int .i64 x.a, .int .i64 x.b, .int .i64 x.c, .string x.other, .slice ra x.rng.length rc]] w fun e w' => e = .returned (.int .u64 ((2 ^ ownN its x : Nat) : Int)) /\ Below w.heap.size w w' := by
 have hbx := below_new w (.cells #[.int .i64 x.kind, .string x.name, .int .i64 x.a, .int .i64 x.b, .int .i64 x.c, .string x.other, .slice ra x.rng.length rc] 98)
 have kx := Blk.new w 98 #[.int .i64 x.kind, .string x.name, .int .i64 x.a, .int .i64 x.b, .int .i64 x.c, .string x.other, .slice ra x.rng.length rc]
 have HN0 := number_c bk ls its x.name x.a x.b x.c _ (h.below hbx (Nat.le_refl _)) (by omega)
 have e : (⟨x.name, x.a, x.b, x.c⟩ : It) = x.it := rfl
 rw [e, hk] at HN0
 have HN := Lib.hid HN0
 have HJ : Hid (∀ W, Calls Tryz.prog 91 #[.int .i64 (ownN its x : Int)] W fun e w' => e = .returned (.int .u64 ((2 ^ ownN its x : Nat) : Int)) /\ w' = W) := fun W => just_c _ (by omega) W
 have HBX := Lib.hid hbx
 clear HN0 e hbx h
 generalize ownN its x = o at *
 generalize (2 ^ o : Nat) = P2 at *
 go_enter Tryz.func145, Tryz.ntmps145
 go_upto_region 1 with fail
 generalize w.alloc (.cells #[.int .i64 x.kind, .string x.name, .int .i64 x.a, .int .i64 x.b, .int .i64 x.c, .string x.other, .slice ra x.rng.length rc] 98) = W0 at *
 have c1 : W0.cell? ⟨w.heap.size, 1, none⟩ = some (.string x.name) := kx.cell 1
 have c2 : W0.cell? ⟨w.heap.size, 2, none⟩ = some (.int .i64 x.a) := kx.cell 2
 have c3 : W0.cell? ⟨w.heap.size, 3, none⟩ = some (.int .i64 x.b) := kx.cell 3
 have c4 : W0.cell? ⟨w.heap.size, 4, none⟩ = some (.int .i64 x.c) := kx.cell 4
 clear kx hk
 go_wp2_with fail
 refine HN.out.mono ?_
 rintro e w1 ⟨rfl, hb1⟩
 have HB1 : Hid (Below w.heap.size w w1) := HBX.out.trans (hb1.mono HBX.out.size)
 clear hb1 HN c1 c2 c3 c4
 go_wp2_with fail
 refine (HJ.out w1).mono ?_
 rintro e w2 ⟨rfl, rfl⟩
 clear HJ
 go_wp2
 go_ret
 exact ⟨rfl, HB1.out⟩
end
end Go.Proofs.YtpmpnbbihmgdpaaGreatDoor
