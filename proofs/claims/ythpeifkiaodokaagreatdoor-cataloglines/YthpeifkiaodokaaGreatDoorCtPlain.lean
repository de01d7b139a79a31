/- A catalog, plain: lines, what there is, and its clauses. -/
import Derived.Test.YthpeifkiaodokaaGreatDoorSvRange
import Derived.Test.YthpeifkiaodokaaGreatDoorCtName
import Derived.Test.YthpeifkiaodokaaGreatDoorSvHas
import Derived.Test.YthpeifkiaodokaaGreatDoorSvCmpG
import Derived.Lib.IndexMore
namespace Go.Proofs.YthpeifkiaodokaaGreatDoor
open Sv

instance lawfulBA : LawfulBEq ByteArray where
  eq_of_beq {a b} h := ByteArray.ext (eq_of_beq (show (a.data == b.data) = true from h))
  rfl {a} := beq_self_eq_true a.data
/-- A line. -/
structure Ln where
  kind : Int
  name : ByteArray
  a : Int
  b : Int
  c : Int
  other : ByteArray
  rng : List Span
/-- An item. -/
structure It where
  name : ByteArray
  a : Int
  b : Int
  c : Int
deriving DecidableEq, Inhabited

instance : Inhabited Ln := ⟨⟨0, ⟨#[]⟩, 0, 0, 0, ⟨#[]⟩, []⟩⟩
def Ln.it (x : Ln) : It := ⟨x.name, x.a, x.b, x.c⟩
def Ln.pair (x : Ln) : Prop := x.kind = 2 ∨ x.kind = 3
instance (x : Ln) : Decidable x.pair := inferInstanceAs (Decidable (_ ∨ _))

/-- A text up to its first blank (or another byte), and what is behind it. -/
def cutF (s : ByteArray) (c : UInt8) : ByteArray × ByteArray := (⟨(Lib.cut s.data.toList [c]).1.toArray⟩, ⟨(Lib.cut s.data.toList [c]).2.1.toArray⟩)
theorem cutF_size (s : ByteArray) (c : UInt8) : (cutF s c).1.size ≤ s.size ∧ (cutF s c).2.size ≤ s.size := by
  unfold cutF Lib.cut
  have hl : s.data.toList.length = s.size := by simp
  split
  · simp only [ByteArray.size, List.size_toArray, List.length_take, List.length_drop, Array.length_toList]
    omega
  · simp only [ByteArray.size, List.size_toArray, Array.length_toList, List.length_nil]
    omega

/-- A line's kind, by its first word (0: none). -/
def kindF (w : ByteArray) : Nat :=
  if w.toList = [112, 97, 99, 107, 97, 103, 101] then 1 else if w.toList = [110, 101, 101, 100, 115] then 2 else if w.toList = [99, 108, 97, 115, 104, 101, 115] then 3 else if w.toList = [114, 111, 111, 116] then 4 else 0
theorem kindF_le (w : ByteArray) : kindF w ≤ 4 := by
  unfold kindF
  repeat' split
  all_goals omega

/-- A range's text, of whatever length. -/
def rngF (s : ByteArray) : Except (Int × Option Nat) (List Span) :=
  if 1000 < s.size then .error (4, none) else match rangeF s with
    | .error (k, p) => .error (k, some p)
    | .ok l => .ok l
def tailF (k : Nat) (name : ByteArray) (ns : List Nat) (other rest : ByteArray) : Except (Int × Option Nat) Ln :=
  match rngF rest with
  | .error e => .error e
  | .ok l => .ok ⟨(k : Int), name, ((ns.getD 0 0 : Nat) : Int), ((ns.getD 1 0 : Nat) : Int), ((ns.getD 2 0 : Nat) : Int), other, l⟩
/-- What a line's text tells. -/
def lineF (s : ByteArray) : Except (Int × Option Nat) Ln :=
  if kindF (cutF s 32).1 = 0 then .error (3, none)
  else if kindF (cutF s 32).1 = 4 then tailF 4 (cutF (cutF s 32).2 32).1 [] ⟨#[]⟩ (cutF (cutF s 32).2 32).2
  else match versF (cutF (cutF (cutF s 32).2 32).2 32).1 with
    | .error e => .error (e, none)
    | .ok ns =>
      if kindF (cutF s 32).1 = 1 then
        if (cutF (cutF (cutF s 32).2 32).2 32).2.size = 0 then .ok ⟨1, (cutF (cutF s 32).2 32).1, ((ns.getD 0 0 : Nat) : Int), ((ns.getD 1 0 : Nat) : Int), ((ns.getD 2 0 : Nat) : Int), ⟨#[]⟩, []⟩ else .error (3, none)
      else tailF (kindF (cutF s 32).1) (cutF (cutF s 32).2 32).1 ns (cutF (cutF (cutF (cutF s 32).2 32).2 32).2 32).1 (cutF (cutF (cutF (cutF s 32).2 32).2 32).2 32).2

/-- Lines of a text that are not empty, each with its place. -/
def lnsF (s : ByteArray) : Nat → Nat → List (Nat × ByteArray)
  | 0, _ => []
  | f + 1, k => if s.size ≤ k then [] else
    (if (cutF (s.extract k s.size) 10).1.size = 0 then [] else [(k, (cutF (s.extract k s.size) 10).1)]) ++ lnsF s f (k + (cutF (s.extract k s.size) 10).1.size + 1)

/-- What lines tell, one behind the other, with their places. -/
def plF : List (Nat × ByteArray) → List (Nat × Ln) → Except (Int × Nat) (List (Nat × Ln))
  | [], acc => .ok acc
  | x :: r, acc => match lineF x.2 with
    | .error e => .error (e.1, x.1)
    | .ok l => plF r (acc ++ [(x.1, l)])
theorem plF_app (l r : List (Nat × ByteArray)) : ∀ (acc : List (Nat × Ln)), plF (l ++ r) acc = match plF l acc with
    | .error e => .error e
    | .ok acc' => plF r acc' := by
  induction l with
  | nil => intro acc; rfl
  | cons x l ih =>
    intro acc
    rw [List.cons_append, plF, plF]
    split
    · rfl
    · exact ih _
theorem plF_len : ∀ (l : List (Nat × ByteArray)) (acc : List (Nat × Ln)) (out : List (Nat × Ln)), plF l acc = .ok out → out.length = acc.length + l.length := by
  intro l
  induction l with
  | nil => intro acc out h; cases h; rfl
  | cons x l ih =>
    intro acc out h
    unfold plF at h
    split at h
    · cases h
    · have := ih _ _ h
      simp at this ⊢; omega

/-- A version's parts are from 0 to 999. -/
def InV (a b c : Int) : Prop := (0 ≤ a ∧ a ≤ 999) ∧ (0 ≤ b ∧ b ≤ 999) ∧ 0 ≤ c ∧ c ≤ 999
instance (a b c : Int) : Decidable (InV a b c) := inferInstanceAs (Decidable (_ ∧ _))

open Classical in
/-- What is wrong with a line (0: nothing). -/
noncomputable def ctCheck (x : Ln) : Int :=
  if x.kind < 1 ∨ 4 < x.kind then 1
  else if ¬ NameOk x.name ∨ (x.pair ∧ ¬ NameOk x.other) then 5
  else if ¬ x.pair ∧ x.other.size ≠ 0 then 1
  else if x.kind = 1 ∧ x.rng ≠ [] then 1
  else if x.kind = 4 ∧ (x.a ≠ 0 ∨ x.b ≠ 0 ∨ x.c ≠ 0) then 1
  else if ¬ InV x.a x.b x.c then 2 else 0

/-- How many names there are. -/
def namesN (l : List It) : Nat := ((l.map It.name).eraseDups).length

noncomputable def gathF : List Ln → Nat → List It → Except (Int × Nat) (List It)
  | [], _, its => .ok its
  | x :: r, i, its =>
    if ctCheck x ≠ 0 then .error (ctCheck x, i)
    else if x.kind = 1 then
      if x.it ∈ its then .error (9, i)
      else if 8 < namesN (its ++ [x.it]) ∨ its.length = 24 then .error (4, i)
      else gathF r (i + 1) (its ++ [x.it])
    else gathF r (i + 1) its

/-- Names in order; of one name the newest first. -/
def ctCmp (x y : It) : Int := if x.name.toList = y.name.toList then cmp3 (tI y.a y.b y.c) (tI x.a x.b x.c) 3 else Lib.compareBytes x.name.data.toList y.name.data.toList
def sortF (l : List It) : List It := l.mergeSort fun x y => !decide (ctCmp y x < 0)

/-- The first line that speaks of an item that is not there. -/
def missF : List Ln → Nat → List It → Option Nat
  | [], _, _ => none
  | x :: r, i, its => if x.pair ∧ x.it ∉ its then some i else missF r (i + 1) its

/-- What lines make: items, or an error (at a line). -/
noncomputable def newF (ls : List Ln) : Except (Int × Option Nat) (List It) :=
  if 100 < ls.length then .error (4, none)
  else match gathF ls 0 [] with
    | .error e => .error (e.1, some e.2)
    | .ok its => match missF ls 0 (sortF its) with
      | some i => .error (7, some i)
      | none => .ok (sortF its)

/-- What a text tells: lines and items, or an error (at a place). -/
noncomputable def parseF (s : ByteArray) : Except (Int × Option Nat) (List Ln × List It) :=
  if 20000 < s.size then .error (4, none)
  else match plF (lnsF s s.size 0) [] with
    | .error e => .error (e.1, some e.2)
    | .ok ps => match newF (ps.map Prod.snd) with
      | .error (e, none) => .error (e, none)
      | .error (e, some i) => .error (e, some ((ps.map Prod.fst).getD i 0))
      | .ok its => .ok (ps.map Prod.snd, its)

/-! ### What is among the items -/
/-- From which item to which a name's lie. -/
def ctRowO (its : List It) (name : ByteArray) : Option (Nat × Nat) :=
  its.zipIdx.foldl (fun r x => if x.1.name = name then some ((r.map Prod.fst).getD x.2, x.2 + 1) else r) none
theorem ctRowO_snoc (l : List It) (x : It) (name : ByteArray) : ctRowO (l ++ [x]) name = if x.name = name then some (((ctRowO l name).map Prod.fst).getD l.length, l.length + 1) else ctRowO l name := by
  unfold ctRowO
  rw [List.zipIdx_append, List.foldl_append]
  simp
def ctRow (its : List It) (name : ByteArray) : Nat × Nat := (ctRowO its name).getD (0, 0)
/-- The version is in the range. -/
def hasF (rng : List Span) (x : It) : Prop := InV x.a x.b x.c ∧ mem rng (numV x.a.toNat x.b.toNat x.c.toNat)
open Classical in
noncomputable def amongF (its : List It) (name : ByteArray) (rng : List Span) : List Nat :=
  (List.range' (ctRow its name).1 ((ctRow its name).2 - (ctRow its name).1)).filter fun i => decide (hasF rng (its.getD i default))
def ctNumb (its : List It) (x : It) : Int := match its.findIdx? (fun y => decide (x = y)) with | some i => (i : Int) | none => -1

/-! ### Clauses -/
def notF1 (k : Int) : Int := -(k + 1)
def ctPairs (its : List It) : List (Int × List Int) :=
  its.zipIdx.flatMap fun x => (its.take x.2).zipIdx.flatMap fun y => if y.1.name = x.1.name then [(-1, [notF1 y.2, notF1 x.2])] else []
noncomputable def lineC (its : List It) (n : Nat) (x : Ln) : List (Int × List Int) :=
  if x.kind = 4 then [((n : Int), (amongF its x.name x.rng).map fun (k : Nat) => ((k : Int) + 1))]
  else if x.kind = 2 then [((n : Int), notF1 (ctNumb its x.it) :: (amongF its x.other x.rng).map fun (k : Nat) => ((k : Int) + 1))]
  else if x.kind = 3 then (amongF its x.other x.rng).map fun (k : Nat) => ((n : Int), [notF1 (ctNumb its x.it), notF1 (k : Int)])
  else []
noncomputable def ofF (its : List It) (ls : List Ln) : List (Int × List Int) := ctPairs its ++ ls.zipIdx.flatMap fun x => lineC its x.2 x.1
/-- Is a clause from a line that is told? -/
def ctTold (lines : List Bool) (n : Int) : Bool := decide (n = -1) || (decide (0 ≤ n) && lines.getD n.toNat false)
def ctOnly (l : List (Int × List Int)) (lines : List Bool) : List (List Int) := (l.filter fun x => ctTold lines x.1).map Prod.snd
end Go.Proofs.YthpeifkiaodokaaGreatDoor
