/-
  No cell of these rows narrows 'for every input' (looked for: loops, veiled, ifaces, maps, wideKeys, modest, calm, conditions, laid).
  DERIVED. THE GIVEN ROWS OF THIS SEAT. 5 by the template 'for every input the law returns true; each argument reads behind the call as it read before'; 0 by the template 'total and deterministic' (their statements: YtbklgjmkdhinpaaTotals.lean).
  GIVEN WITH THE SEED: the statements are not yours to turn. If you find one false, say at which input.
  Laid BY PROGRAM, IN A SANDBOX (cutbox-rows.mjs): the forced cells as the released guide's own fill.sh prints them over the translation 481186d14ae383a4… (all of the seat's roots in one cut). By AI agents, Wed Nov 11 2026. No macro, syntax, notation, axiom, sorry.
-/
import Derived.Test.YtbklgjmkdhinpaaChecked
import GoSem.Claim
import GoSem.ClaimJoined
import GoSem.ClaimMapViews
import Derived.JoinedTies
import Derived.KernelRfl
namespace Go.Proofs.Ytbklgjmkdhinpaa
/- THE CELL 'sum', in the pinned program and in every row, IS THE sha256 OF THE DUMP (.gsa) THAT YtbklgjmkdhinpaaProg.lean LOADS. Nothing in Lean hashes anything: it is a label: what it is worth is what the hold of that sum in a sandbox is worth. -/
noncomputable def Try.pinned : Pinned := { name := "ytbklgjmkdhinpaa", sum := "481186d14ae383a401e672612250f7ef5dce54a8e11df26ff5a431e9fbeee1d1", checked := Try.checked }
namespace Rows
def none {H : Type} : Left H := { results := [], args := [] }

/-- 'solspacelaw.FamilySame': WHATEVER THE INPUT: true; the input reads as it did. -/
def familySameSpec : ChangeSpec := { name := "familySame", fn := fun _ => fun
  | [d1, d2] => { results := [.lit (.bool true)], args := [d1, d2] }
  | _ => none }
def familySameRow : OpenClaim := { program := "ytbklgjmkdhinpaa", sum := "481186d14ae383a401e672612250f7ef5dce54a8e11df26ff5a431e9fbeee1d1", func := "solspace/solspacelaw.FamilySame", spec := "familySame", unfollowed := true, recurses := true, plainKeys := false, apart := false }
def FamilySameSaid : Prop := familySameRow.holds Try.pinned (OpenSpec.ofChange familySameSpec)

/-- ITS FALSE NEIGHBOUR: 'it returns false'. Refute it at one input. -/
def familySameWrong : ChangeSpec := { name := "familySame", fn := fun _ => fun
  | [d1, d2] => { results := [.lit (.bool false)], args := [d1, d2] }
  | _ => none }
def FamilySameWrongFalsely : Prop := familySameRow.holds Try.pinned (OpenSpec.ofChange familySameWrong)

/-- 'solspacelaw.FamilyHits': WHATEVER THE INPUT: true; the input reads as it did. -/
def familyHitsSpec : ChangeSpec := { name := "familyHits", fn := fun _ => fun
  | [d1, d2] => { results := [.lit (.bool true)], args := [d1, d2] }
  | _ => none }
def familyHitsRow : OpenClaim := { program := "ytbklgjmkdhinpaa", sum := "481186d14ae383a401e672612250f7ef5dce54a8e11df26ff5a431e9fbeee1d1", func := "solspace/solspacelaw.FamilyHits", spec := "familyHits", unfollowed := true, recurses := true, plainKeys := false, apart := false }
def FamilyHitsSaid : Prop := familyHitsRow.holds Try.pinned (OpenSpec.ofChange familyHitsSpec)

/-- ITS FALSE NEIGHBOUR: 'it returns false'. Refute it at one input. -/
def familyHitsWrong : ChangeSpec := { name := "familyHits", fn := fun _ => fun
  | [d1, d2] => { results := [.lit (.bool false)], args := [d1, d2] }
  | _ => none }
def FamilyHitsWrongFalsely : Prop := familyHitsRow.holds Try.pinned (OpenSpec.ofChange familyHitsWrong)

/-- 'solspacekeep.FamilyLaws': WHATEVER THE INPUT: true; the input reads as it did. -/
def familyLawsSpec : ChangeSpec := { name := "familyLaws", fn := fun _ => fun
  | [d1, d2, d3, d4, d5] => { results := [.lit (.bool true)], args := [d1, d2, d3, d4, d5] }
  | _ => none }
def familyLawsRow : OpenClaim := { program := "ytbklgjmkdhinpaa", sum := "481186d14ae383a401e672612250f7ef5dce54a8e11df26ff5a431e9fbeee1d1", func := "solspace/solspacekeep.FamilyLaws", spec := "familyLaws", unfollowed := true, recurses := true, plainKeys := false, apart := false }
def FamilyLawsSaid : Prop := familyLawsRow.holds Try.pinned (OpenSpec.ofChange familyLawsSpec)

/-- ITS FALSE NEIGHBOUR: 'it returns false'. Refute it at one input. -/
def familyLawsWrong : ChangeSpec := { name := "familyLaws", fn := fun _ => fun
  | [d1, d2, d3, d4, d5] => { results := [.lit (.bool false)], args := [d1, d2, d3, d4, d5] }
  | _ => none }
def FamilyLawsWrongFalsely : Prop := familyLawsRow.holds Try.pinned (OpenSpec.ofChange familyLawsWrong)

/-- 'solspacekeep.FamilyLeasts': WHATEVER THE INPUT: true; the input reads as it did. -/
def familyLeastsSpec : ChangeSpec := { name := "familyLeasts", fn := fun _ => fun
  | [d1, d2] => { results := [.lit (.bool true)], args := [d1, d2] }
  | _ => none }
def familyLeastsRow : OpenClaim := { program := "ytbklgjmkdhinpaa", sum := "481186d14ae383a401e672612250f7ef5dce54a8e11df26ff5a431e9fbeee1d1", func := "solspace/solspacekeep.FamilyLeasts", spec := "familyLeasts", unfollowed := true, recurses := true, plainKeys := false, apart := false }
def FamilyLeastsSaid : Prop := familyLeastsRow.holds Try.pinned (OpenSpec.ofChange familyLeastsSpec)

/-- ITS FALSE NEIGHBOUR: 'it returns false'. Refute it at one input. -/
def familyLeastsWrong : ChangeSpec := { name := "familyLeasts", fn := fun _ => fun
  | [d1, d2] => { results := [.lit (.bool false)], args := [d1, d2] }
  | _ => none }
def FamilyLeastsWrongFalsely : Prop := familyLeastsRow.holds Try.pinned (OpenSpec.ofChange familyLeastsWrong)

/-- 'solspacekeep.FamilyTwice': WHATEVER THE INPUT: true; the input reads as it did. -/
def familyTwiceSpec : ChangeSpec := { name := "familyTwice", fn := fun _ => fun
  | [d1, d2] => { results := [.lit (.bool true)], args := [d1, d2] }
  | _ => none }
def familyTwiceRow : OpenClaim := { program := "ytbklgjmkdhinpaa", sum := "481186d14ae383a401e672612250f7ef5dce54a8e11df26ff5a431e9fbeee1d1", func := "solspace/solspacekeep.FamilyTwice", spec := "familyTwice", unfollowed := true, recurses := true, plainKeys := false, apart := false }
def FamilyTwiceSaid : Prop := familyTwiceRow.holds Try.pinned (OpenSpec.ofChange familyTwiceSpec)

/-- ITS FALSE NEIGHBOUR: 'it returns false'. Refute it at one input. -/
def familyTwiceWrong : ChangeSpec := { name := "familyTwice", fn := fun _ => fun
  | [d1, d2] => { results := [.lit (.bool false)], args := [d1, d2] }
  | _ => none }
def FamilyTwiceWrongFalsely : Prop := familyTwiceRow.holds Try.pinned (OpenSpec.ofChange familyTwiceWrong)

/- THE SECOND FORM. 'bulk': how many values and letters a reading holds, each counted each time it is reached (what is shared counts as often as it is met; a slice's spare places count too). A statement '..UptoSaid' is the law's where the arguments, and the package variables that the reading takes, are together of bulk at most 1048576: NARROWER than '..Said'. Prove '..Said' where nothing that the law and all that it calls make is longer than what came in: it says more and counts as full. Else prove '..UptoSaid'. A law counts once. -/
mutual
def uptoBulk {H : Type} : DataW H → Nat
  | .lit (.string bytes) => bytes.length + 1
  | .lit _ => 1
  | .nil => 1
  | .ptr d => uptoBulk d + 1
  | .slice elems spare => uptoBulkAll elems + uptoBulkAll spare + 1
  | .agg parts => uptoBulkAll parts + 1
  | .iface _ d => uptoBulk d + 1
  | .map entries => uptoBulkEntries entries + 1
  | .held _ => 1
def uptoBulkAll {H : Type} : List (DataW H) → Nat
  | [] => 0
  | d :: r => uptoBulk d + uptoBulkAll r
def uptoBulkEntries {H : Type} : List (Lit × DataW H) → Nat
  | [] => 0
  | x :: r => uptoBulkEntry x + uptoBulkEntries r
def uptoBulkEntry {H : Type} : Lit × DataW H → Nat
  | (.string bytes, d) => bytes.length + uptoBulk d + 1
  | (_, d) => uptoBulk d + 1
 end
def uptoSmall : (H : Type) → List (DataW H) → Bool := fun _ ds => decide (uptoBulkAll ds ≤ 1048576)
def OpenSpec.upto (s : _root_.Go.ChangeSpec) : _root_.Go.OpenSpec := { _root_.Go.OpenSpec.ofChange s with cond := some uptoSmall }

/-- 'solspacelaw.FamilySame', WHERE WHAT IT READS IS OF BULK AT MOST 1048576: true; the input reads as it did. -/
def familySameUptoRow : OpenClaim := { program := "ytbklgjmkdhinpaa", sum := "481186d14ae383a401e672612250f7ef5dce54a8e11df26ff5a431e9fbeee1d1", func := "solspace/solspacelaw.FamilySame", spec := "familySame", unfollowed := true, recurses := true, plainKeys := false, apart := false, narrowed := true }
def FamilySameUptoSaid : Prop := familySameUptoRow.holds Try.pinned (OpenSpec.upto familySameSpec)

/-- 'solspacelaw.FamilyHits', WHERE WHAT IT READS IS OF BULK AT MOST 1048576: true; the input reads as it did. -/
def familyHitsUptoRow : OpenClaim := { program := "ytbklgjmkdhinpaa", sum := "481186d14ae383a401e672612250f7ef5dce54a8e11df26ff5a431e9fbeee1d1", func := "solspace/solspacelaw.FamilyHits", spec := "familyHits", unfollowed := true, recurses := true, plainKeys := false, apart := false, narrowed := true }
def FamilyHitsUptoSaid : Prop := familyHitsUptoRow.holds Try.pinned (OpenSpec.upto familyHitsSpec)

/-- 'solspacekeep.FamilyLaws', WHERE WHAT IT READS IS OF BULK AT MOST 1048576: true; the input reads as it did. -/
def familyLawsUptoRow : OpenClaim := { program := "ytbklgjmkdhinpaa", sum := "481186d14ae383a401e672612250f7ef5dce54a8e11df26ff5a431e9fbeee1d1", func := "solspace/solspacekeep.FamilyLaws", spec := "familyLaws", unfollowed := true, recurses := true, plainKeys := false, apart := false, narrowed := true }
def FamilyLawsUptoSaid : Prop := familyLawsUptoRow.holds Try.pinned (OpenSpec.upto familyLawsSpec)

/-- 'solspacekeep.FamilyLeasts', WHERE WHAT IT READS IS OF BULK AT MOST 1048576: true; the input reads as it did. -/
def familyLeastsUptoRow : OpenClaim := { program := "ytbklgjmkdhinpaa", sum := "481186d14ae383a401e672612250f7ef5dce54a8e11df26ff5a431e9fbeee1d1", func := "solspace/solspacekeep.FamilyLeasts", spec := "familyLeasts", unfollowed := true, recurses := true, plainKeys := false, apart := false, narrowed := true }
def FamilyLeastsUptoSaid : Prop := familyLeastsUptoRow.holds Try.pinned (OpenSpec.upto familyLeastsSpec)

/-- 'solspacekeep.FamilyTwice', WHERE WHAT IT READS IS OF BULK AT MOST 1048576: true; the input reads as it did. -/
def familyTwiceUptoRow : OpenClaim := { program := "ytbklgjmkdhinpaa", sum := "481186d14ae383a401e672612250f7ef5dce54a8e11df26ff5a431e9fbeee1d1", func := "solspace/solspacekeep.FamilyTwice", spec := "familyTwice", unfollowed := true, recurses := true, plainKeys := false, apart := false, narrowed := true }
def FamilyTwiceUptoSaid : Prop := familyTwiceUptoRow.holds Try.pinned (OpenSpec.upto familyTwiceSpec)

end Rows
end Go.Proofs.Ytbklgjmkdhinpaa
