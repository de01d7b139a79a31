/- Maps from handles to numbers of any size. -/
import Derived.Test.YtiimdhmbbmkbfaaGreatDoorBdDone
import Derived.Test.YtiimdhmbbmkbfaaGreatDoorCnDouble
namespace Go.Proofs.YtiimdhmbbmkbfaaGreatDoor
open Go.RowKit Go.Maps

/-- A number of any size, as a value: where its digits lie. -/
structure NV where
  a : Option Addr
  n : Nat
  c : Nat
def NV.val (x : NV) : Value := .agg #[.slice x.a x.n x.c]
def NV.dat (x : NV) : DataW Unit :=
  match x.a with
  | none => .agg [.lit (.int .i64 x.n), .lit (.int .i64 x.c)]
  | some ⟨b, o, none⟩ => .agg [.lit (.int .i64 x.n), .lit (.int .i64 x.c), .lit (.int .i64 b), .lit (.int .i64 o)]
  | some ⟨b, o, some s⟩ => .agg [.lit (.int .i64 x.n), .lit (.int .i64 x.c), .lit (.int .i64 b), .lit (.int .i64 o), .lit (.int .i64 s)]
theorem NV.dat_inj {x y : NV} (h : x.dat = y.dat) : x = y := by
  obtain ⟨a, n, c⟩ := x
  obtain ⟨b, m, d⟩ := y
  rcases a with _ | ⟨ab, ao, _ | sa⟩ <;> rcases b with _ | ⟨bb, bo, _ | sb⟩ <;> simp [NV.dat] at h ⊢ <;> omega

def natR (v : Value) : Option (DataW Unit × List MemPlace) :=
  match v with
  | .agg cs =>
    match cs.toList with
    | [.slice a n c] => some (NV.dat ⟨a, n, c⟩, [])
    | _ => none
  | _ => none
theorem natR_val (x : NV) : natR x.val = some (x.dat, []) := rfl
theorem natR_inv {v : Value} {x : NV} {ps : List MemPlace} (h : natR v = some (x.dat, ps)) : v = x.val := by
  unfold natR at h
  split at h
  · rename_i cs
    split at h
    · rename_i a n c e
      simp only [Option.some.injEq, Prod.mk.injEq] at h
      rw [← NV.dat_inj h.1]
      have : cs = #[.slice a n c] := by cases cs; simp at e; rw [e]
      rw [this]; rfl
    · cases h
  · cases h

theorem zeroNat (w : World) : (zeroValue 30).run Tryz.prog w = .ok (.agg #[.slice none 0 0]) w := by kernel_rfl
def NRep (D : DataW Unit) (L : List (Int × NV)) : Prop := Rep I64 (fun x => Lit.int .i64 x) NV.dat D L

section
variable {w : World} {bm n : Nat} {D : DataW Unit} {L : List (Int × NV)}
theorem nlook_found (hD : w.ownsMap Tryz.prog 3 natR bm n D) (hR : NRep D L) {p : Int × NV} (hp : p ∈ L) :
    (Instr.lookup 71 (.map (some bm)) (.int .i64 p.1) true).run Tryz.prog w = .ok (.tuple #[p.2.val, .bool true]) w := by
  obtain ⟨v, ps, hrun, hv⟩ := hD.look_ok lawI Tryz.underlying71 (zeroNat w) (natR_val ⟨none, 0, 0⟩) (keyI (Rep.oks hR p hp))
  rw [Rep.at' hR p hp] at hv
  rw [(Rep.has hR p.1 (Rep.oks hR p hp)).2 (List.mem_map_of_mem hp), natR_inv hv] at hrun
  exact hrun
theorem nlook_none (hD : w.ownsMap Tryz.prog 3 natR bm n D) (hR : NRep D L) {a : Int} (ha : I64 a) (hn : a ∉ L.map Prod.fst) :
    (Instr.lookup 71 (.map (some bm)) (.int .i64 a) true).run Tryz.prog w = .ok (.tuple #[.agg #[.slice none 0 0], .bool false]) w := by
  obtain ⟨v, ps, hrun, hv⟩ := hD.look_ok lawI Tryz.underlying71 (zeroNat w) (natR_val ⟨none, 0, 0⟩) (keyI ha)
  have hh := Rep.not hR ha hn
  rw [atKey_of_not_has hh] at hv
  rw [hh, natR_inv hv] at hrun
  exact hrun
theorem nstore (hD : w.ownsMap Tryz.prog 3 natR bm L.length D) (hR : NRep D L) (hl : L.length < 1000000) {a : Int} (ha : I64 a) (hn : a ∉ L.map Prod.fst) (x : NV) :
    ∃ w' D', (Instr.mapUpdate 71 (.map (some bm)) (.int .i64 a) x.val).run Tryz.prog w = .ok () w' ∧ w'.ownsMap Tryz.prog 3 natR bm (L ++ [(a, x)]).length D' ∧ NRep D' (L ++ [(a, x)]) ∧ Kept (fun k => k = bm) w w' := by
  obtain ⟨w', hrun, h1, h2⟩ := hD.update lawI Tryz.underlying71 (by unfold maxLen; omega) (keyI ha) (natR_val x)
  have hR' : NRep (D.put (.int .i64 a) x.dat) (L ++ [(a, x)]) := Rep.put hR (fun a b _ _ e => by injection e) (fun _ => trivial) ha hn x
  exact ⟨w', _, hrun, hR'.size ▸ ownsMap_norm h1, hR', Kept.of_grown h2 (fun i h => by cases h; rfl)⟩
end
end Go.Proofs.YtiimdhmbbmkbfaaGreatDoor
