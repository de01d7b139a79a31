/-
  No cell of these rows narrows 'for every input' (looked for: loops, veiled, ifaces, maps, wideKeys, modest, calm, conditions, laid).
  DERIVED. THE GIVEN ROWS OF THIS SEAT. 3 by the template 'for every input the law returns true; each argument reads behind the call as it read before'; 0 by the template 'total and deterministic' (their statements: YtacgoopgifoojaaTotals.lean).
  GIVEN WITH THE SEED: the statements are not yours to turn. If you find one false, say at which input.
  Laid BY PROGRAM, IN A SANDBOX (cutbox-rows.mjs): the forced cells as the released guide's own fill.sh prints them over the translation 4eb05b5779a21c32… (all of the seat's roots in one cut). By AI agents, Wed Nov 11 2026. No macro, syntax, notation, axiom, sorry.
-/
import Derived.Test.YtacgoopgifoojaaChecked
import GoSem.Claim
import GoSem.ClaimJoined
import GoSem.ClaimMapViews
import Derived.JoinedTies
import Derived.KernelRfl
namespace Go.Proofs.Ytacgoopgifoojaa
/- THE CELL 'sum', in the pinned program and in every row, IS THE sha256 OF THE DUMP (.gsa) THAT YtacgoopgifoojaaProg.lean LOADS. Nothing in Lean hashes anything: it is a label: what it is worth is what the hold of that sum in a sandbox is worth. -/
noncomputable def Try.pinned : Pinned := { name := "ytacgoopgifoojaa", sum := "4eb05b5779a21c325d37ec3c68cb55d3830a8fb922e0cac3c371d11983a653b4", checked := Try.checked }
namespace Rows
def none {H : Type} : Left H := { results := [], args := [] }

/-- 'solspacelaw.BddMeans': WHATEVER THE INPUT: true; the input reads as it did. -/
def bddMeansSpec : ChangeSpec := { name := "bddMeans", fn := fun _ => fun
  | [d1, d2, d3] => { results := [.lit (.bool true)], args := [d1, d2, d3] }
  | _ => none }
def bddMeansRow : OpenClaim := { program := "ytacgoopgifoojaa", sum := "4eb05b5779a21c325d37ec3c68cb55d3830a8fb922e0cac3c371d11983a653b4", func := "solspace/solspacelaw.BddMeans", spec := "bddMeans", unfollowed := true, recurses := true, plainKeys := false, apart := false }
def BddMeansSaid : Prop := bddMeansRow.holds Try.pinned (OpenSpec.ofChange bddMeansSpec)

/-- ITS FALSE NEIGHBOUR: 'it returns false'. Refute it at one input. -/
def bddMeansWrong : ChangeSpec := { name := "bddMeans", fn := fun _ => fun
  | [d1, d2, d3] => { results := [.lit (.bool false)], args := [d1, d2, d3] }
  | _ => none }
def BddMeansWrongFalsely : Prop := bddMeansRow.holds Try.pinned (OpenSpec.ofChange bddMeansWrong)

/-- 'solspacelaw.BddSame': WHATEVER THE INPUT: true; the input reads as it did. -/
def bddSameSpec : ChangeSpec := { name := "bddSame", fn := fun _ => fun
  | [d1, d2] => { results := [.lit (.bool true)], args := [d1, d2] }
  | _ => none }
def bddSameRow : OpenClaim := { program := "ytacgoopgifoojaa", sum := "4eb05b5779a21c325d37ec3c68cb55d3830a8fb922e0cac3c371d11983a653b4", func := "solspace/solspacelaw.BddSame", spec := "bddSame", unfollowed := true, recurses := true, plainKeys := false, apart := false }
def BddSameSaid : Prop := bddSameRow.holds Try.pinned (OpenSpec.ofChange bddSameSpec)

/-- ITS FALSE NEIGHBOUR: 'it returns false'. Refute it at one input. -/
def bddSameWrong : ChangeSpec := { name := "bddSame", fn := fun _ => fun
  | [d1, d2] => { results := [.lit (.bool false)], args := [d1, d2] }
  | _ => none }
def BddSameWrongFalsely : Prop := bddSameRow.holds Try.pinned (OpenSpec.ofChange bddSameWrong)

/-- 'solspacekeep.BddShannon': WHATEVER THE INPUT: true; the input reads as it did. -/
def bddShannonSpec : ChangeSpec := { name := "bddShannon", fn := fun _ => fun
  | [d1, d2, d3] => { results := [.lit (.bool true)], args := [d1, d2, d3] }
  | _ => none }
def bddShannonRow : OpenClaim := { program := "ytacgoopgifoojaa", sum := "4eb05b5779a21c325d37ec3c68cb55d3830a8fb922e0cac3c371d11983a653b4", func := "solspace/solspacekeep.BddShannon", spec := "bddShannon", unfollowed := true, recurses := true, plainKeys := false, apart := false }
def BddShannonSaid : Prop := bddShannonRow.holds Try.pinned (OpenSpec.ofChange bddShannonSpec)

/-- ITS FALSE NEIGHBOUR: 'it returns false'. Refute it at one input. -/
def bddShannonWrong : ChangeSpec := { name := "bddShannon", fn := fun _ => fun
  | [d1, d2, d3] => { results := [.lit (.bool false)], args := [d1, d2, d3] }
  | _ => none }
def BddShannonWrongFalsely : Prop := bddShannonRow.holds Try.pinned (OpenSpec.ofChange bddShannonWrong)

/- THE SECOND FORM. 'bulk': how many values and letters a reading holds, each counted each time it is reached (what is shared counts as often as it is met; a slice's spare places count too). A statement '..UptoSaid' is the law's where the arguments, and the package variables that the reading takes, are together of bulk at most 1048576: NARROWER than '..Said'. Prove '..Said' where nothing that the law and all that it calls make is longer than what came in: it says more and counts as full. Else prove '..UptoSaid'. A law counts once. -/
mutual
def uptoBulk {H : Type} : DataW H → Nat
  | .lit (.string bytes) => bytes.length + 1
  | .lit _ => 1
  | .nil => 1
  | .ptr d => uptoBulk d + 1
  | .slice elems spare => uptoBulkAll elems + uptoBulkAll spare + 1
  | .agg parts => uptoBulkAll parts + 1
  | .iface _ d => uptoBulk d + 1
  | .map entries => uptoBulkEntries entries + 1
  | .held _ => 1
def uptoBulkAll {H : Type} : List (DataW H) → Nat
  | [] => 0
  | d :: r => uptoBulk d + uptoBulkAll r
def uptoBulkEntries {H : Type} : List (Lit × DataW H) → Nat
  | [] => 0
  | x :: r => uptoBulkEntry x + uptoBulkEntries r
def uptoBulkEntry {H : Type} : Lit × DataW H → Nat
  | (.string bytes, d) => bytes.length + uptoBulk d + 1
  | (_, d) => uptoBulk d + 1
 end
def uptoSmall : (H : Type) → List (DataW H) → Bool := fun _ ds => decide (uptoBulkAll ds ≤ 1048576)
def OpenSpec.upto (s : _root_.Go.ChangeSpec) : _root_.Go.OpenSpec := { _root_.Go.OpenSpec.ofChange s with cond := some uptoSmall }

/-- 'solspacelaw.BddMeans', WHERE WHAT IT READS IS OF BULK AT MOST 1048576: true; the input reads as it did. -/
def bddMeansUptoRow : OpenClaim := { program := "ytacgoopgifoojaa", sum := "4eb05b5779a21c325d37ec3c68cb55d3830a8fb922e0cac3c371d11983a653b4", func := "solspace/solspacelaw.BddMeans", spec := "bddMeans", unfollowed := true, recurses := true, plainKeys := false, apart := false, narrowed := true }
def BddMeansUptoSaid : Prop := bddMeansUptoRow.holds Try.pinned (OpenSpec.upto bddMeansSpec)

/-- 'solspacelaw.BddSame', WHERE WHAT IT READS IS OF BULK AT MOST 1048576: true; the input reads as it did. -/
def bddSameUptoRow : OpenClaim := { program := "ytacgoopgifoojaa", sum := "4eb05b5779a21c325d37ec3c68cb55d3830a8fb922e0cac3c371d11983a653b4", func := "solspace/solspacelaw.BddSame", spec := "bddSame", unfollowed := true, recurses := true, plainKeys := false, apart := false, narrowed := true }
def BddSameUptoSaid : Prop := bddSameUptoRow.holds Try.pinned (OpenSpec.upto bddSameSpec)

/-- 'solspacekeep.BddShannon', WHERE WHAT IT READS IS OF BULK AT MOST 1048576: true; the input reads as it did. -/
def bddShannonUptoRow : OpenClaim := { program := "ytacgoopgifoojaa", sum := "4eb05b5779a21c325d37ec3c68cb55d3830a8fb922e0cac3c371d11983a653b4", func := "solspace/solspacekeep.BddShannon", spec := "bddShannon", unfollowed := true, recurses := true, plainKeys := false, apart := false, narrowed := true }
def BddShannonUptoSaid : Prop := bddShannonUptoRow.holds Try.pinned (OpenSpec.upto bddShannonSpec)

end Rows
end Go.Proofs.Ytacgoopgifoojaa
