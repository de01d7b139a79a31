/- Make: what it refuses, and what is there already. -/
import Derived.Test.YtiimdhmbbmkbfaaGreatDoorArFree
namespace Go.Proofs.YtiimdhmbbmkbfaaGreatDoor
open Go.RowKit Go.Maps

theorem zeroInt (w : World) : (zeroValue 3).run Tryz.prog w = .ok (.int .i64 0) w := by kernel_rfl
theorem elInt {x : Int} (h : I64 x) : plainElem (H := Unit) Tryz.prog 3 (.int .i64 x) = some (.lit (.int .i64 x), []) := plainElem_int Tryz.underlying3 (wf_of h)

theorem ownsMap_norm {P : Program} {k : TypeId} {R : Value → Option (DataW Unit × List MemPlace)} {w : World} {b n : Nat} {D : DataW Unit} (h : w.ownsMap P k R b n D) : w.ownsMap P k R b (Maps.size D) D := by
  obtain ⟨es, clock, h1, h2, h3, rfl⟩ := h
  exact ⟨es, clock, h1, h2, by simp [Maps.size, length_sorted], rfl⟩

section
variable {w : World} {bm n : Nat} {D : DataW Unit} {L : List (Nd × Int)}

theorem look_found (hD : w.ownsMap Tryz.prog 99 (plainElem Tryz.prog 3) bm n D) (hR : Rep Nd.Ok Nd.lit (fun x : Int => .lit (.int .i64 x)) D L) {p : Nd × Int} (hp : p ∈ L) :
    (Instr.lookup 113 (.map (some bm)) (.agg #[.int .i64 p.1.v, .int .i64 p.1.l, .int .i64 p.1.h]) true).run Tryz.prog w = .ok (.tuple #[.int .i64 p.2, .bool true]) w := by
  obtain ⟨v, ps, hrun, hv⟩ := hD.look_ok lawNode Tryz.underlying113 (zeroInt w) (zd := .lit (.int .i64 0)) (zp := []) (elInt ⟨by omega, by omega⟩) (keyNode p.1 (hR.oks p hp))
  rw [hR.at' p hp] at hv
  obtain ⟨a, rfl, hz, -⟩ := plainElem_int_inv Tryz.underlying3 hv
  rw [(hR.has p.1 (hR.oks p hp)).2 (List.mem_map_of_mem hp)] at hrun
  simp at hz
  rw [← hz.1] at hrun
  exact hrun

theorem look_none (hD : w.ownsMap Tryz.prog 99 (plainElem Tryz.prog 3) bm n D) (hR : Rep Nd.Ok Nd.lit (fun x : Int => .lit (.int .i64 x)) D L) {a : Nd} (ha : a.Ok) (hn : a ∉ L.map Prod.fst) :
    (Instr.lookup 113 (.map (some bm)) (.agg #[.int .i64 a.v, .int .i64 a.l, .int .i64 a.h]) true).run Tryz.prog w = .ok (.tuple #[.int .i64 0, .bool false]) w := by
  obtain ⟨v, ps, hrun, hv⟩ := hD.look_ok lawNode Tryz.underlying113 (zeroInt w) (zd := .lit (.int .i64 0)) (zp := []) (elInt ⟨by omega, by omega⟩) (keyNode a ha)
  have hh := hR.not ha hn
  rw [atKey_of_not_has hh] at hv
  obtain ⟨c, rfl, hz, -⟩ := plainElem_int_inv Tryz.underlying3 hv
  rw [hh] at hrun
  simp at hz
  rw [← hz.1] at hrun
  exact hrun

theorem store_new (hD : w.ownsMap Tryz.prog 99 (plainElem Tryz.prog 3) bm L.length D) (hR : Rep Nd.Ok Nd.lit (fun x : Int => .lit (.int .i64 x)) D L) (hl : L.length < 1000000) {a : Nd} (ha : a.Ok) (hn : a ∉ L.map Prod.fst) {x : Int} (hx : I64 x) :
    ∃ w' D', (Instr.mapUpdate 113 (.map (some bm)) (.agg #[.int .i64 a.v, .int .i64 a.l, .int .i64 a.h]) (.int .i64 x)).run Tryz.prog w = .ok () w' ∧ w'.ownsMap Tryz.prog 99 (plainElem Tryz.prog 3) bm (L ++ [(a, x)]).length D' ∧ Rep Nd.Ok Nd.lit (fun x : Int => .lit (.int .i64 x)) D' (L ++ [(a, x)]) ∧ Kept (fun k => k = bm) w w' := by
  obtain ⟨w', hrun, h1, h2⟩ := hD.update lawNode Tryz.underlying113 (by unfold maxLen; omega) (keyNode a ha) (elInt hx)
  refine ⟨w', _, hrun, ?_, hR.put (fun _ _ => litNode_inj) litNode_key ha hn x, Kept.of_grown h2 (fun i h => by cases h; rfl)⟩
  rw [List.length_append]; exact h1
end

section
variable {B b bm : Nat} {w : World} {v : Value} {ns : List Nd} {L : List (Nd × Int)} {room next : Int}

/-- What Make asks of a node before it looks for it. -/
structure Fit (ns : List Nd) (n : Nd) : Prop where
  v0 : 0 ≤ n.v
  v1 : n.v < 24
  l : hasB ns n.l = true
  h : hasB ns n.h = true
  tl : n.v < topOf ns n.l
  th : n.v < topOf ns n.h

/-- Which error is told, if Make does not come to the looking. -/
def refusal (ns : List Nd) (n : Nd) : Option Int :=
  if n.v < 0 ∨ 24 ≤ n.v then some 2 else if hasB ns n.l = false ∨ hasB ns n.h = false then some 7 else if topOf ns n.l ≤ n.v ∨ topOf ns n.h ≤ n.v then some 10 else none

theorem refusal_none {n : Nd} (h : refusal ns n = none) : Fit ns n := by
  unfold refusal at h
  split at h
  · cases h
  · split at h
    · cases h
    · split at h
      · cases h
      · rename_i h1 h2 h3
        exact ⟨by omega, by omega, by simpa using (not_or.1 h2).1, by simpa using (not_or.1 h2).2, by omega, by omega⟩

set_option maxRecDepth 100000 in
set_option maxHeartbeats 2000000 in
theorem make_range (n : Nd) (h : n.v < 0 ∨ 24 ≤ n.v) :
    Calls Tryz.prog 77 #[.pointer (some ⟨b, 0, none⟩), n.val] w fun e w' => e = .returned (.tuple #[.int .i64 0, .iface 52 (.int .i64 2)]) ∧ Below w.heap.size w w' := by
  obtain ⟨x, lo, hi⟩ := n
  simp only at h
  have hbn := below_new w (.cells #[.int .i64 x, .int .i64 lo, .int .i64 hi] 99)
  unfold Nd.val
  by_cases h1 : x < 0
  · clear h
    go_enter Tryz.func77, Tryz.ntmps77
    go_wp2
    go_ret2
    exact ⟨rfl, hbn⟩
  · have h2 : 24 ≤ x := by omega
    clear h
    go_enter Tryz.func77, Tryz.ntmps77
    go_wp2
    go_ret2
    exact ⟨rfl, hbn⟩

theorem below_drewN (B : Nat) (w : World) (n : Nat) : Below B w (w.drewN n) := ⟨rfl, rfl, rfl, Nat.le_refl _, fun _ _ => rfl⟩

/-- Has and Top, asked beside the node's box. -/
theorem has_box (hA : ArenaAt B w b bm v ns L room next) (o : Obj) (h : Int) (hi : I64 h) (hl : ns.length ≤ 1000000) :
    Calls Tryz.prog 60 #[.pointer (some ⟨b, 0, none⟩), .int .i64 h] (w.alloc o) fun e w' => e = .returned (.bool (hasB ns h)) ∧ w.alloc o = w' :=
  has_any (hA.kept (Kept.alloc (fun _ => False) w o) (fun _ _ h => h)) h hi hl
theorem top_box (hA : ArenaAt B w b bm v ns L room next) (o : Obj) (h : Int) (hi : I64 h) (hl : ns.length ≤ 1000000) (m : Nat) :
    Calls Tryz.prog 32 #[.pointer (some ⟨b, 0, none⟩), .int .i64 h] ((w.alloc o).drewN m) fun e w' => e = .returned (.int .i64 (topOf ns h)) ∧ ∃ m', w' = (w.alloc o).drewN m' :=
  (top_any ((hA.kept (Kept.alloc (fun _ => False) w o) (fun _ _ h => h)).kept (kept_drewN _ _ m) (fun _ _ h => h)) h hi hl).mono fun _ _ ⟨h1, h2⟩ => ⟨h1, m, h2.symm⟩

set_option maxRecDepth 100000 in
set_option maxHeartbeats 2000000 in
theorem make_missing (hA : ArenaAt B w b bm v ns L room next) (hl : ns.length ≤ 1000000) (n : Nd) (hn : n.Ok) (h0 : 0 ≤ n.v) (h1 : n.v < 24) (h : hasB ns n.l = false ∨ hasB ns n.h = false) :
    Calls Tryz.prog 77 #[.pointer (some ⟨b, 0, none⟩), n.val] w fun e w' => e = .returned (.tuple #[.int .i64 0, .iface 52 (.int .i64 7)]) ∧ Below w.heap.size w w' := by
  obtain ⟨x, lo, hi⟩ := n
  simp only at h h0 h1
  have hbn := below_new w (.cells #[.int .i64 x, .int .i64 lo, .int .i64 hi] 99)
  have HL := Lib.hid (has_box hA (.cells #[.int .i64 x, .int .i64 lo, .int .i64 hi] 99) lo hn.2.1 hl)
  have HH := Lib.hid (has_box hA (.cells #[.int .i64 x, .int .i64 lo, .int .i64 hi] 99) hi hn.2.2 hl)
  clear hA hn hl
  unfold Nd.val
  by_cases hlo : hasB ns lo = false
  · rw [hlo] at HL
    clear h hlo HH
    go_enter Tryz.func77, Tryz.ntmps77
    go_wp2_with fail
    refine HL.out.mono ?_
    rintro e w1 ⟨rfl, rfl⟩
    go_wp2
    go_ret2
    exact ⟨rfl, hbn⟩
  · have hlo' : hasB ns lo = true := by simpa using hlo
    have hhi : hasB ns hi = false := h.resolve_left hlo
    rw [hlo'] at HL
    rw [hhi] at HH
    clear h hlo hlo' hhi
    go_enter Tryz.func77, Tryz.ntmps77
    go_wp2_with fail
    refine HL.out.mono ?_
    rintro e w1 ⟨rfl, rfl⟩
    go_wp2_with fail
    refine HH.out.mono ?_
    rintro e w1 ⟨rfl, rfl⟩
    go_wp2
    go_ret2
    exact ⟨rfl, hbn⟩

set_option maxRecDepth 100000 in
set_option maxHeartbeats 2000000 in
theorem make_order (hA : ArenaAt B w b bm v ns L room next) (hl : ns.length ≤ 1000000) (n : Nd) (hn : n.Ok) (h0 : 0 ≤ n.v) (h1 : n.v < 24) (h2 : hasB ns n.l = true) (h3 : hasB ns n.h = true) (h : topOf ns n.l ≤ n.v ∨ topOf ns n.h ≤ n.v) :
    Calls Tryz.prog 77 #[.pointer (some ⟨b, 0, none⟩), n.val] w fun e w' => e = .returned (.tuple #[.int .i64 0, .iface 52 (.int .i64 10)]) ∧ Below w.heap.size w w' := by
  obtain ⟨x, lo, hi⟩ := n
  simp only at h h0 h1 h2 h3
  have hbn := below_new w (.cells #[.int .i64 x, .int .i64 lo, .int .i64 hi] 99)
  have HL := Lib.hid (has_box hA (.cells #[.int .i64 x, .int .i64 lo, .int .i64 hi] 99) lo hn.2.1 hl)
  have HH := Lib.hid (has_box hA (.cells #[.int .i64 x, .int .i64 lo, .int .i64 hi] 99) hi hn.2.2 hl)
  have TL := Lib.hid (top_box hA (.cells #[.int .i64 x, .int .i64 lo, .int .i64 hi] 99) lo hn.2.1 hl)
  have TH := Lib.hid (top_box hA (.cells #[.int .i64 x, .int .i64 lo, .int .i64 hi] 99) hi hn.2.2 hl)
  rw [h2] at HL
  rw [h3] at HH
  clear hA hn hl h2 h3
  unfold Nd.val
  generalize topOf ns lo = tl at *
  generalize topOf ns hi = th at *
  by_cases hlo : tl ≤ x
  · have d1 : decide (tl ≤ x) = true := decide_eq_true hlo
    clear h
    go_enter Tryz.func77, Tryz.ntmps77
    go_wp2_with fail
    refine HL.out.mono ?_
    rintro e w1 ⟨rfl, rfl⟩
    go_wp2_with fail
    refine HH.out.mono ?_
    rintro e w1 ⟨rfl, rfl⟩
    clear HL HH
    go_wp2_with fail
    go_quiet (first | (go_at_call 32; with_reducible exact TL.out _) | (go_at_call 32; with_reducible exact TH.out _))
    go_wp2
    go_ret2
    exact ⟨rfl, hbn.trans (below_drewN _ _ _)⟩
  · have hhi : th ≤ x := h.resolve_left hlo
    have d1 : decide (tl ≤ x) = false := decide_eq_false hlo
    have d2 : decide (th ≤ x) = true := decide_eq_true hhi
    clear h
    go_enter Tryz.func77, Tryz.ntmps77
    go_wp2_with fail
    refine HL.out.mono ?_
    rintro e w1 ⟨rfl, rfl⟩
    go_wp2_with fail
    refine HH.out.mono ?_
    rintro e w1 ⟨rfl, rfl⟩
    clear HL HH
    go_wp2_with fail
    go_quiet (first | (go_at_call 32; with_reducible exact TL.out _) | (go_at_call 32; with_reducible exact TH.out _))
    go_wp2
    go_ret2
    exact ⟨rfl, hbn.trans (below_drewN _ _ _)⟩
end
end Go.Proofs.YtiimdhmbbmkbfaaGreatDoor
