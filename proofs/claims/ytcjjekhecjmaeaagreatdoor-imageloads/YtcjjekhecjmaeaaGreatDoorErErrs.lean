/- errors.As at an api.Errno. -/
import Derived.Test.YtcjjekhecjmaeaaGreatDoorProg
import Derived.KernelRfl
import Derived.Test.YtcjjekhecjmaeaaGreatDoorCnNum
import Derived.WalkKit
import Derived.WalkSpells
import Derived.WalkLawsBesides
import Derived.Deep.Cut
import Derived.Deep.DeepCutAuto
import Derived.Deep.RegionWith
import Derived.Deep.LoopGhost
import Derived.Deep.DeepFit
import Derived.Deep.DeepMust
import Derived.Deep.Light
import Derived.Lib.QuietBelow
import Derived.Lib.MinMax
import Derived.BigQuiet
import Derived.LaidEql
import Derived.Stop.Asserts
import Derived.RowKitTokens
set_option maxHeartbeats 400000
namespace Go.Proofs.YtcjjekhecjmaeaaGreatDoor
section
open Go.RowKit Num
def Dig (k : IntKind) (w : World) (v : Value) (ds : List Nat) : Prop :=
 ∃ a cap, v = .slice a ds.length cap /\ ds.length <= cap /\ ∀ i, i < ds.length -> ∃ b off, a = some ⟨b, off, none⟩ /\ b < w.heap.size /\ w.cell? ⟨b, off + i, none⟩ = some (.int k ((dig ds i : Nat) : Int))
theorem Dig.below {k : IntKind} {w w' : World} {v : Value} {ds : List Nat} (h : Dig k w v ds) (hb : Below w.heap.size w w') : Dig k w' v ds := by
 obtain ⟨a, cap, hv, hc, hi⟩ := h
 refine ⟨a, cap, hv, hc, fun i hl => ?_⟩
 obtain ⟨b, off, ha, hlt, hcell⟩ := hi i hl
 exact ⟨b, off, ha, Nat.lt_of_lt_of_le hlt hb.size, (hb.cell (p := ⟨b, off + i, none⟩) hlt).trans hcell⟩
theorem Dig.set {k : IntKind} {w : World} {v : Value} {ds : List Nat} (h : Dig k w v ds) {p : Addr} {u0 : Value} (hp : w.cell? p = some u0) (hu : ∀ n, u0 ≠ .int k n) (u : Value) : Dig k (w.setCell p u) v ds := by
 obtain ⟨a, cap, hv, hc, hi⟩ := h
 refine ⟨a, cap, hv, hc, fun i hl => ?_⟩
 obtain ⟨b, off, ha, hb, hcell⟩ := hi i hl
 refine ⟨b, off, ha, by simpa [World.setCell] using hb, ?_⟩
 rw [World.cell?_setCell_other _ _ _ _ (fun e => by subst e; rw [hp] at hcell; exact hu _ (Option.some.inj hcell))]
 exact hcell
theorem Dig.nil (k : IntKind) (w : World) : Dig k w (.slice none 0 0) [] := ⟨none, 0, rfl, Nat.le_refl _, fun i h => by simp at h⟩
def dcells (k : IntKind) (ds : List Nat) : List Value := ds.map fun d : Nat => Value.int k (d : Int)
theorem dcells_snoc (k : IntKind) (ds : List Nat) (x : Nat) : dcells k (ds ++ [x]) = dcells k ds ++ [Value.int k (x : Int)] := by simp [dcells]
theorem dcells_at (k : IntKind) (ds : List Nat) (i : Nat) (h : i < ds.length) : (dcells k ds)[i]? = some (.int k ((dig ds i : Nat) : Int)) := by
 unfold dcells dig
 simp [List.getD_eq_getElem?_getD, List.getElem?_eq_getElem h]
theorem dcells_set (k : IntKind) (ds : List Nat) (j x : Nat) : (dcells k ds).set j (.int k (x : Int)) = dcells k (ds.set j x) := by simp [dcells, List.map_set]
theorem dcells_made (k : IntKind) (n : Nat) : (madeCells #[Value.int k 0] n).toList = dcells k (List.replicate n 0) := by rw [toList_madeCells_one]; simp [dcells]
theorem owns_form {w : World} {base : Nat} {e : TypeId} {v : Value} {n : Nat} {xs : List Value} (h : w.ownsRow base e 1 v n xs) : ∃ a cap, v = .slice a n cap /\ n <= cap := by
 rcases h.2 with ⟨h1, h2⟩ | ⟨g, cap, cur, h1, _, _, h2, _⟩
 ·exact ⟨none, 0, by rw [h1, h2], by omega⟩
 ·exact ⟨_, cap, h1, h2⟩
theorem owns_set {k : IntKind} {w : World} {base g n cap : Nat} {e : TypeId} {ds : List Nat} (h : w.ownsRow base e 1 (.slice (some ⟨g, 0, none⟩) n cap) n (dcells k ds)) (j x : Nat) : (w.setCell ⟨g, j, none⟩ (.int k (x : Int))).ownsRow base e 1 (.slice (some ⟨g, 0, none⟩) n cap) n (dcells k (ds.set j x)) := by
 rw [<- dcells_set]; exact (h.stored j _).1
theorem Dig.of_owns {k : IntKind} {w : World} {base : Nat} {e : TypeId} {v : Value} {ds : List Nat} (h : w.ownsRow base e 1 v ds.length (dcells k ds)) : Dig k w v ds := by
 rcases h.2 with ⟨h1, h2⟩ | ⟨g, cap, cur, h1, hb, hg, h2, _⟩
 ·obtain rfl : ds = [] := List.length_eq_zero_iff.1 h2
  rw [h1]; exact Dig.nil k w
 ·subst h1
  refine ⟨_, cap, rfl, h2, fun i hi => ⟨g, 0, rfl, ?_, ?_⟩⟩
  ·by_cases hlt : g < w.heap.size
   ·exact hlt
   ·rw [Array.getElem?_eq_none (by omega)] at hg; simp at hg
  ·rw [Nat.zero_add, h.cellAt i (by omega), dcells_at k ds i hi]
theorem cellOld {w : World} {b off : Nat} (o : Obj) (h : b < w.heap.size) : (w.alloc o).cell? ⟨b, off, none⟩ = w.cell? ⟨b, off, none⟩ :=
 ((Below.refl w.heap.size w).alloc (Nat.le_refl _) o).cell (p := ⟨b, off, none⟩) h
theorem cell1_0 (w : World) (A : Value) (t : TypeId) : (w.alloc (.cells #[A] t)).cell? ⟨w.heap.size, 0, none⟩ = some A := by simp
theorem frozen1_0 (w : World) (A : Value) (t : TypeId) : (w.alloc (.cells #[A] t)).frozen? ⟨w.heap.size, 0, none⟩ = false := by simp
theorem mixed : Tryz.prog.follows .mixedOrders = true := by kernel_rfl
theorem w64 {x : Int} (h0 : -9223372036854775808 <= x) (h1 : x <= 9223372036854775807) : IntKind.i64.wrap x = x := IntWalk.i64_in x ⟨h0, h1⟩
theorem ret_int {k : IntKind} {a b : Int} (h : a = b) : Ending.returned (.int k a) = .returned (.int k b) := by rw [h]
theorem digit_any (v : Value) (ds : List Nat) (i : Nat) (w : World) (hd : Dig .u64 w v ds) (_hi : i <= 1000000) (_hl : ds.length <= 1000000) :
  Calls Tryz.prog 60 #[.agg #[v], .int .i64 (i : Int)] w fun e w' => e = .returned (.int .u64 ((dig ds i : Nat) : Int)) /\ Below w.heap.size w w' := by
 obtain ⟨a, cap, rfl, hc, hcell⟩ := hd
 by_cases hlt : i < ds.length
 ·obtain ⟨b, off, rfl, hb, hcl⟩ := hcell i hlt
  have hne : ¬ b = w.heap.size := by omega
  clear hcell
  generalize dig ds i = d at *
  go_enter Tryz.func60, Tryz.ntmps60
  go_wp2
  go_ret
  exact ⟨rfl, (Below.refl _ _).alloc (Nat.le_refl _) _⟩
 ·have hz := dig_beyond ds i (by omega)
  rw [hz]
  clear hcell hz
  go_enter Tryz.func60, Tryz.ntmps60
  go_wp2
  go_ret
  exact ⟨rfl, (Below.refl _ _).alloc (Nat.le_refl _) _⟩
theorem digit_int (v : Value) (ds : List Nat) (i : Int) (w : World) (hd : Dig .u64 w v ds) (h0 : 0 <= i) (hi : i <= 1000000) (hl : ds.length <= 1000000) :
  Calls Tryz.prog 60 #[.agg #[v], .int .i64 i] w fun e w' => e = .returned (.int .u64 ((dig ds i.toNat : Nat) : Int)) /\ Below w.heap.size w w' := by
 obtain ⟨n, rfl⟩ := Int.eq_ofNat_of_zero_le h0
 rw [Int.toNat_natCast]
 exact digit_any v ds n w hd (by omega) hl
end
section
open Go.RowKit Go.Extern.Stop Go.Stop Go.Extern
namespace Errs
theorem valueOfP (t : Addr) (w : World) : (ReflectliteValue.unpack (.iface 117 (.pointer (some t)))).run Tryz.prog w
  = .ok (.agg #[.pointer (some ⟨7, 117, none⟩), .pointer (some ⟨w.heap.size, 0, none⟩), .int .u64 150]) (w.alloc (.cells #[.pointer (some t)] 117)) := by kernel_rfl
theorem typeP (a : Addr) (w : World) : (ReflectliteValue.methodAny (ReflectliteValue.valueError "reflectlite.Value.Type" 0) (fun t _ _ _ => ReflectliteType.toType t) #[.agg #[.pointer (some ⟨7, 117, none⟩), .pointer (some a), .int .u64 150]]).run Tryz.prog w
  = .ok (.iface 200 (.agg #[.pointer (some ⟨7, 117, none⟩)])) w := by kernel_rfl
theorem kindP (w : World) : ((ReflectliteType.abiMethod fun t => (fun a : Nat => Value.int IntKind.u8 (a : Int)) <$> Rtype.kind t) #[.pointer (some ⟨7, 117, none⟩)]).run Tryz.prog w = .ok (.int .u8 22) w := by kernel_rfl
theorem kindE (w : World) : ((ReflectliteType.abiMethod fun t => (fun a : Nat => Value.int IntKind.u8 (a : Int)) <$> Rtype.kind t) #[.pointer (some ⟨7, 54, none⟩)]).run Tryz.prog w = .ok (.int .u8 2) w := by kernel_rfl
theorem method_run (z : Sem Value) (f : TypeId -> Addr -> Nat -> Nat -> Sem Value) (v : Value) (t : TypeId) (a : Addr) (fl : Nat) (w : World) (h : (ReflectliteValue.parts v).run Tryz.prog w = .ok (some (t, a, fl)) w) :
  (ReflectliteValue.method z f #[v]).run Tryz.prog w = (f t a fl (fl % 32)).run Tryz.prog w := by
 obtain ⟨F, hF, hG⟩ : ∃ F : Option (TypeId × Addr × Nat) -> Sem Value, ReflectliteValue.method z f #[v] = (ReflectliteValue.parts v >>= F) /\ ∀ t a fl, F (some (t, a, fl)) = f t a fl (fl % 32) := ⟨_, rfl, fun _ _ _ => rfl⟩
 rw [hF]
 simp only [Sem.run_bind, h, Result.andThen]
 rw [hG]
theorem partsP (a : Addr) (w : World) : (ReflectliteValue.parts (.agg #[.pointer (some ⟨7, 117, none⟩), .pointer (some a), .int .u64 150])).run Tryz.prog w = .ok (some (117, a, 150)) w := by kernel_rfl
theorem isNilP (a p : Addr) (W : World) (ha : W.cell? a = some (.pointer (some p))) :
  (ReflectliteValue.method (ReflectliteValue.valueError "reflectlite.Value.IsNil" 0) ReflectliteValue.isNil #[.agg #[.pointer (some ⟨7, 117, none⟩), .pointer (some a), .int .u64 150]]).run Tryz.prog W = .ok (.bool false) W := by
 rw [method_run _ _ _ _ _ _ _ (partsP a W)]
 simp [ReflectliteValue.isNil, loadVar, isAgg, underlying, Tryz.underlying117, ha, Result.andThen]
theorem elemP (w : World) : (ReflectliteType.method ReflectliteType.elem #[.agg #[.pointer (some ⟨7, 117, none⟩)]]).run Tryz.prog w = .ok (.iface 200 (.agg #[.pointer (some ⟨7, 54, none⟩)])) w := by kernel_rfl
theorem implementsE (w : World) : (ReflectliteType.relation "Implements" ReflectliteType.implements_ #[.agg #[.pointer (some ⟨7, 54, none⟩)], .iface 200 (.agg #[.pointer (some ⟨7, 32, none⟩)])]).run Tryz.prog w = .ok (.bool true) w := by kernel_rfl
theorem typeOfE (v : Value) (w : World) : (ReflectliteType.typeOf #[.iface 54 v]).run Tryz.prog w = .ok (.iface 200 (.agg #[.pointer (some ⟨7, 54, none⟩)])) w := by kernel_rfl
theorem assignableE (w : World) : (ReflectliteType.relation "AssignableTo" ReflectliteType.assignableTo #[.agg #[.pointer (some ⟨7, 54, none⟩)], .iface 200 (.agg #[.pointer (some ⟨7, 54, none⟩)])]).run Tryz.prog w = .ok (.bool true) w := by kernel_rfl
theorem valueOfE (n : Int) (w : World) : (ReflectliteValue.unpack (.iface 54 (.int .i64 n))).run Tryz.prog w
  = .ok (.agg #[.pointer (some ⟨7, 54, none⟩), .pointer (some ⟨w.heap.size, 0, none⟩), .int .u64 130]) (w.alloc (.cells #[.int .i64 n] 54)) := by kernel_rfl
theorem elemOfP (w : World) : (Rtype.elem? 117).run Tryz.prog w = .ok (some 54) w := by kernel_rfl
theorem mkE (p : Addr) (w : World) : (ReflectliteValue.mk 54 p ReflectliteValue.flagAddr).run Tryz.prog w = .ok (.agg #[.pointer (some ⟨7, 54, none⟩), .pointer (some p), .int .u64 386]) w := by kernel_rfl
theorem elemVP (a p : Addr) (W : World) (ha : W.cell? a = some (.pointer (some p))) :
  (ReflectliteValue.method (ReflectliteValue.valueError "reflectlite.Value.Elem" 0) ReflectliteValue.elem #[.agg #[.pointer (some ⟨7, 117, none⟩), .pointer (some a), .int .u64 150]]).run Tryz.prog W
   = .ok (.agg #[.pointer (some ⟨7, 54, none⟩), .pointer (some p), .int .u64 386]) W := by
 rw [method_run _ _ _ _ _ _ _ (partsP a W)]
 simp [ReflectliteValue.elem, loadVar, isAgg, underlying, Tryz.underlying117, ha, Result.andThen, elemOfP, mkE]
theorem partsEa (a : Addr) (w : World) : (ReflectliteValue.parts (.agg #[.pointer (some ⟨7, 54, none⟩), .pointer (some a), .int .u64 386])).run Tryz.prog w = .ok (some (54, a, 386)) w := by kernel_rfl
theorem partsE (a : Addr) (w : World) : (ReflectliteValue.parts (.agg #[.pointer (some ⟨7, 54, none⟩), .pointer (some a), .int .u64 130])).run Tryz.prog w = .ok (some (54, a, 130)) w := by kernel_rfl
theorem directE (w : World) : (Rtype.directlyAssignable 54 54).run Tryz.prog w = .ok true w := by kernel_rfl
theorem set_form (v x : Value) : ∃ F : Option (TypeId × Addr × Nat) -> Option (TypeId × Addr × Nat) -> Sem Value, ReflectliteValue.set #[v, x] = (ReflectliteValue.parts v >>= fun p => ReflectliteValue.parts x >>= fun q => F p q) /\
  ∀ a b, ∃ G : Value -> Sem Value, F (some (54, a, 386)) (some (54, b, 130)) = (loadVar 54 b >>= fun val => Rtype.directlyAssignable 54 54 >>= fun d => if d = true then (storeVar 54 a val >>= fun _ => pure (.tuple #[])) else G val) := ⟨_, rfl, fun _ _ => ⟨_, rfl⟩⟩
theorem setE (ta b : Addr) (n : Int) (old : Value) (W : World) (hb : W.cell? b = some (.int .i64 n)) (ht : W.cell? ta = some old) (hf : W.frozen? ta = false) :
  (ReflectliteValue.set #[.agg #[.pointer (some ⟨7, 54, none⟩), .pointer (some ta), .int .u64 386], .agg #[.pointer (some ⟨7, 54, none⟩), .pointer (some b), .int .u64 130]]).run Tryz.prog W
   = .ok (.tuple #[]) (W.setCell ta (.int .i64 n)) := by
 obtain ⟨F, hF, hG⟩ := set_form (.agg #[.pointer (some ⟨7, 54, none⟩), .pointer (some ta), .int .u64 386]) (.agg #[.pointer (some ⟨7, 54, none⟩), .pointer (some b), .int .u64 130])
 obtain ⟨G, hG⟩ := hG ta b
 rw [hF]
 simp only [Sem.run_bind, partsEa, partsE, Result.andThen]
 rw [hG]
 simp [loadVar, isAgg, underlying, Tryz.underlying54, hb, Result.andThen, directE, storeVar, Value.cells, storeCells, Addr.add]
 rw [run_store Tryz.prog W ta _ _ (by rfl)]
 simp [ht, hf]
end Errs
end
end Go.Proofs.YtcjjekhecjmaeaaGreatDoor
