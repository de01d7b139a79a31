/- A map from handles to nodes; a range over a map of nodes. -/
import Derived.Test.YtllobejhkajobaaDoorArPairs
namespace Go.Proofs.YtllobejhkajobaaDoor
open Go.RowKit Go.Maps

def Nd.data (n : Nd) : DataW Unit := .agg [.lit (.int .i64 n.v), .lit (.int .i64 n.l), .lit (.int .i64 n.h)]
def ndOf : List Value → Option (DataW Unit × List MemPlace)
  | [.int .i64 a, .int .i64 b, .int .i64 c] => some (Nd.data ⟨a, b, c⟩, [])
  | _ => none
def ndElem : Value → Option (DataW Unit × List MemPlace)
  | .agg cs => ndOf cs.toList
  | _ => none
theorem ndElem_mk (n : Nd) : ndElem n.val = some (n.data, []) := rfl
theorem ndOf_inv {l : List Value} {n : Nd} {ps : List MemPlace} (h : ndOf l = some (n.data, ps)) : l = [.int .i64 n.v, .int .i64 n.l, .int .i64 n.h] := by
  unfold ndOf at h
  split at h
  · simp only [Option.some.injEq, Prod.mk.injEq, Nd.data, DataW.agg.injEq, List.cons.injEq, DataW.lit.injEq, Lit.int.injEq, true_and, and_true] at h
    obtain ⟨⟨h1, h2, h3⟩, -⟩ := h
    rw [h1, h2, h3]
  · cases h
theorem ndElem_inv {v : Value} {n : Nd} {ps : List MemPlace} (h : ndElem v = some (n.data, ps)) : v = .agg #[.int .i64 n.v, .int .i64 n.l, .int .i64 n.h] := by
  cases v with
  | agg cs =>
    have := ndOf_inv (l := cs.toList) h
    rw [show cs = #[.int .i64 n.v, .int .i64 n.l, .int .i64 n.h] from Array.toList_inj.1 this]
  | _ => cases h

theorem zeroNode (w : World) : (zeroValue 42).run Tryd.prog w = .ok (.agg #[.int .i64 0, .int .i64 0, .int .i64 0]) w := by kernel_rfl
theorem lawInt : Keyed Tryd.prog 3 := int_keyed Tryd.underlying3
theorem keyInt {x : Int} (h : I64 x) : keyOf Tryd.prog 3 (.int .i64 x) = some (.int .i64 x) := keyOf_int_mk Tryd.underlying3 (wf_of h)

def BRep (D : DataW Unit) (L : List (Int × Nd)) : Prop := Rep I64 (fun x => Lit.int .i64 x) Nd.data D L

section
variable {w : World} {bb n : Nat} {D : DataW Unit} {L : List (Int × Nd)}

theorem back_found (hD : w.ownsMap Tryd.prog 3 ndElem bb n D) (hR : BRep D L) {p : Int × Nd} (hp : p ∈ L) :
    (Instr.lookup 31 (.map (some bb)) (.int .i64 p.1) true).run Tryd.prog w = .ok (.tuple #[.agg #[.int .i64 p.2.v, .int .i64 p.2.l, .int .i64 p.2.h], .bool true]) w ∧ (Instr.lookup 31 (.map (some bb)) (.int .i64 p.1) false).run Tryd.prog w = .ok (.agg #[.int .i64 p.2.v, .int .i64 p.2.l, .int .i64 p.2.h]) w := by
  have hk := keyInt (hR.oks p hp)
  constructor
  · obtain ⟨v, ps, hrun, hv⟩ := hD.look_ok lawInt Tryd.underlying31 (zeroNode w) (ndElem_mk ⟨0, 0, 0⟩) hk
    rw [hR.at' p hp] at hv
    rw [ndElem_inv hv, (hR.has p.1 (hR.oks p hp)).2 (List.mem_map_of_mem hp)] at hrun
    exact hrun
  · obtain ⟨v, ps, hrun, hv⟩ := hD.lookup lawInt Tryd.underlying31 (zeroNode w) (ndElem_mk ⟨0, 0, 0⟩) hk
    rw [hR.at' p hp] at hv
    rw [ndElem_inv hv] at hrun
    exact hrun

theorem back_none (hD : w.ownsMap Tryd.prog 3 ndElem bb n D) (hR : BRep D L) {x : Int} (hx : I64 x) (hn : x ∉ L.map Prod.fst) :
    (Instr.lookup 31 (.map (some bb)) (.int .i64 x) true).run Tryd.prog w = .ok (.tuple #[.agg #[.int .i64 0, .int .i64 0, .int .i64 0], .bool false]) w := by
  obtain ⟨v, ps, hrun, hv⟩ := hD.look_ok lawInt Tryd.underlying31 (zeroNode w) (ndElem_mk ⟨0, 0, 0⟩) (keyInt hx)
  have hh := hR.not hx hn
  rw [atKey_of_not_has hh] at hv
  rw [ndElem_inv hv, hh] at hrun
  exact hrun

theorem back_store (hD : w.ownsMap Tryd.prog 3 ndElem bb L.length D) (hR : BRep D L) (hl : L.length < 1000000) {x : Int} (hx : I64 x) (hn : x ∉ L.map Prod.fst) (m : Nd) :
    ∃ w' D', (Instr.mapUpdate 31 (.map (some bb)) (.int .i64 x) (.agg #[.int .i64 m.v, .int .i64 m.l, .int .i64 m.h])).run Tryd.prog w = .ok () w' ∧ w'.ownsMap Tryd.prog 3 ndElem bb (L ++ [(x, m)]).length D' ∧ BRep D' (L ++ [(x, m)]) ∧ Kept (fun k => k = bb) w w' := by
  obtain ⟨w', hrun, h1, h2⟩ := hD.update lawInt Tryd.underlying31 (by unfold maxLen; omega) (keyInt hx) (ndElem_mk m)
  refine ⟨w', _, hrun, ?_, Rep.put hR (fun a b _ _ e => by injection e) (fun _ => trivial) hx hn m, Kept.of_grown h2 (fun i h => by cases h; rfl)⟩
  rw [List.length_append]; exact h1
end

theorem store_same {w : World} {bm : Nat} {D : DataW Unit} {L : List (Nd × Int)} (hD : w.ownsMap Tryd.prog 39 (plainElem Tryd.prog 3) bm L.length D) (hR : Rep Nd.Ok Nd.lit (fun x : Int => .lit (.int .i64 x)) D L) (hl : L.length < 1000000) {p : Nd × Int} (hp : p ∈ L) (hx : I64 p.2) :
    ∃ w' D', (Instr.mapUpdate 56 (.map (some bm)) (.agg #[.int .i64 p.1.v, .int .i64 p.1.l, .int .i64 p.1.h]) (.int .i64 p.2)).run Tryd.prog w = .ok () w' ∧ w'.ownsMap Tryd.prog 39 (plainElem Tryd.prog 3) bm L.length D' ∧ Rep Nd.Ok Nd.lit (fun x : Int => .lit (.int .i64 x)) D' L ∧ Kept (fun k => k = bm) w w' := by
  obtain ⟨w', hrun, h1, h2⟩ := hD.update lawNode Tryd.underlying56 (by unfold maxLen; omega) (keyNode p.1 (hR.oks p hp)) (elInt hx)
  have hR' := hR.put_same (fun _ _ => litNode_inj) litNode_key hp
  exact ⟨w', _, hrun, hR'.size ▸ ownsMap_norm h1, hR', Kept.of_grown h2 (fun i h => by cases h; rfl)⟩

/-- A step of a range over a map of nodes: one of its pairs, whichever the tape says. -/
theorem wpList_next_nodes (w : World) {ops : Array Oper} {rest : List Oper} {o : Oper} {a : Act} {Q : Exit → Act → World → Prop} (hg : o.guard = none) (it : Operand) (hop : o.op = Op.next it false)
    (b r n : Nat) (D : DataW Unit) (left : Lit → Bool) (cnt : Nat) (L : List (Nd × Int)) (hR : Rep Nd.Ok Nd.lit (fun x : Int => .lit (.int .i64 x)) D L) (hleft : ∀ kl, left kl = true → Maps.has D kl = true)
    (hit : a.eval it = .pointer (some ⟨r, 0, none⟩)) (h : w.ranges Tryd.prog 39 (plainElem Tryd.prog 3) b r n D left cnt)
    (hDone : wpList Tryd.prog ops Q rest (a.put o.dst (.tuple #[.bool false])) w)
    (hMore : ∀ (m : Nd) (x : Int), (m, x) ∈ L → ∀ (w' : World) (left' : Lit → Bool) (cnt' : Nat), (∀ kl, left' kl = true → Maps.has D kl = true) → w'.ranges Tryd.prog 39 (plainElem Tryd.prog 3) b r n D left' cnt' → cnt' < cnt → w.grownBy w' (some r) → w'.heap.size = w.heap.size →
      (Instr.entry (.pointer (some ⟨r, 0, none⟩))).run Tryd.prog w' = .ok (.tuple #[.agg #[.int .i64 m.v, .int .i64 m.l, .int .i64 m.h], .int .i64 x]) w' →
      wpList Tryd.prog ops Q rest (a.put o.dst (.tuple #[.bool true, .agg #[.int .i64 m.v, .int .i64 m.l, .int .i64 m.h], .int .i64 x])) w') :
    wpList Tryd.prog ops Q (o :: rest) a w := by
  refine wpList_plain hg fun K' hK' => ?_
  unfold Oper.wp
  rcases h.next lawNode o.type with ⟨-, -, hrun⟩ | ⟨key, v, kl, y, w', cnt', hkey, hlk, hv, hat, hrun, hrg, hlt, hgr, hsz, hen⟩
  · simp [execOp, hop, hit, hrun, Result.andThen]
    exact hK' _ _ hDone
  · obtain ⟨p, hp, rfl⟩ := hR.all kl (hleft kl hlk)
    have ek : key = p.1.val := lawNode.inj hkey (keyNode p.1 (hR.oks p hp))
    have ey : y.1 = .lit (.int .i64 p.2) := by rw [← hat (.lit (.int .i64 0)), hR.at' p hp]
    obtain ⟨c, rfl, hc, -⟩ := plainElem_int_inv Tryd.underlying3 hv
    have ec : c = p.2 := by
      rw [hc] at ey; simpa using ey
    subst ec
    subst ek
    simp [execOp, hop, hit, hrun, Result.andThen]
    exact hK' _ _ (hMore p.1 p.2 hp w' _ cnt' (fun kl hl => hleft kl (by simp at hl; exact hl.1)) hrg hlt hgr hsz hen)
end Go.Proofs.YtllobejhkajobaaDoor
