/- errors.As at an api.Errno: it is found, and set. -/
import Derived.Test.YtbklgjmkdhinpaaGreatDoorProg
import Derived.Test.YtbklgjmkdhinpaaGreatDoorCnNum
import Derived.WalkKit
import Derived.WalkSpells
import Derived.WalkLawsBesides
import Derived.Deep.Cut
import Derived.Deep.DeepCutAuto
import Derived.Deep.RegionWith
import Derived.Deep.LoopGhost
import Derived.Deep.DeepFit
import Derived.Deep.DeepMust
import Derived.Deep.Light
import Derived.Lib.QuietBelow
import Derived.Lib.MinMax
import Derived.BigQuiet
import Derived.LaidEql
import Derived.Stop.Asserts
import Derived.RowKitTokens
set_option maxHeartbeats 4000000
set_option maxRecDepth 100000
namespace Go.Proofs.YtbklgjmkdhinpaaGreatDoor.Bd
open Go.RowKit Num
def Dig (k : IntKind) (w : World) (v : Value) (ds : List Nat) : Prop :=
 ∃ a cap, v = .slice a ds.length cap /\ ds.length <= cap /\ ∀ i, i < ds.length -> ∃ b off, a = some ⟨b, off, none⟩ /\ b < w.heap.size /\ w.cell? ⟨b, off + i, none⟩ = some (.int k ((dig ds i : Nat) : Int))
theorem Dig.below {k : IntKind} {w w' : World} {v : Value} {ds : List Nat} (h : Dig k w v ds) (hb : Below w.heap.size w w') : Dig k w' v ds := by
 obtain ⟨a, cap, hv, hc, hi⟩ := h
 refine ⟨a, cap, hv, hc, fun i hl => ?_⟩
 obtain ⟨b, off, ha, hlt, hcell⟩ := hi i hl
 exact ⟨b, off, ha, Nat.lt_of_lt_of_le hlt hb.size, (hb.cell (p := ⟨b, off + i, none⟩) hlt).trans hcell⟩
theorem Dig.set {k : IntKind} {w : World} {v : Value} {ds : List Nat} (h : Dig k w v ds) {p : Addr} {u0 : Value} (hp : w.cell? p = some u0) (hu : ∀ n, u0 ≠ .int k n) (u : Value) : Dig k (w.setCell p u) v ds := by
 obtain ⟨a, cap, hv, hc, hi⟩ := h
 refine ⟨a, cap, hv, hc, fun i hl => ?_⟩
 obtain ⟨b, off, ha, hb, hcell⟩ := hi i hl
 refine ⟨b, off, ha, by simpa [World.setCell] using hb, ?_⟩
 rw [World.cell?_setCell_other _ _ _ _ (fun e => by subst e; rw [hp] at hcell; exact hu _ (Option.some.inj hcell))]
 exact hcell
theorem Dig.nil (k : IntKind) (w : World) : Dig k w (.slice none 0 0) [] := ⟨none, 0, rfl, Nat.le_refl _, fun i h => by simp at h⟩
def dcells (k : IntKind) (ds : List Nat) : List Value := ds.map fun d : Nat => Value.int k (d : Int)
theorem dcells_snoc (k : IntKind) (ds : List Nat) (x : Nat) : dcells k (ds ++ [x]) = dcells k ds ++ [Value.int k (x : Int)] := by simp [dcells]
theorem dcells_at (k : IntKind) (ds : List Nat) (i : Nat) (h : i < ds.length) : (dcells k ds)[i]? = some (.int k ((dig ds i : Nat) : Int)) := by
 unfold dcells dig
 simp [List.getD_eq_getElem?_getD, List.getElem?_eq_getElem h]
theorem dcells_set (k : IntKind) (ds : List Nat) (j x : Nat) : (dcells k ds).set j (.int k (x : Int)) = dcells k (ds.set j x) := by simp [dcells, List.map_set]
theorem dcells_made (k : IntKind) (n : Nat) : (madeCells #[Value.int k 0] n).toList = dcells k (List.replicate n 0) := by rw [toList_madeCells_one]; simp [dcells]
theorem owns_form {w : World} {base : Nat} {e : TypeId} {v : Value} {n : Nat} {xs : List Value} (h : w.ownsRow base e 1 v n xs) : ∃ a cap, v = .slice a n cap /\ n <= cap := by
 rcases h.2 with ⟨h1, h2⟩ | ⟨g, cap, cur, h1, _, _, h2, _⟩
 ·exact ⟨none, 0, by rw [h1, h2], by omega⟩
 ·exact ⟨_, cap, h1, h2⟩
theorem owns_set {k : IntKind} {w : World} {base g n cap : Nat} {e : TypeId} {ds : List Nat} (h : w.ownsRow base e 1 (.slice (some ⟨g, 0, none⟩) n cap) n (dcells k ds)) (j x : Nat) : (w.setCell ⟨g, j, none⟩ (.int k (x : Int))).ownsRow base e 1 (.slice (some ⟨g, 0, none⟩) n cap) n (dcells k (ds.set j x)) := by
 rw [<- dcells_set]; exact (h.stored j _).1
theorem owns_below {w w' : World} {base : Nat} {e : TypeId} {size : Nat} {v : Value} {n : Nat} {xs : List Value} (h : w.ownsRow base e size v n xs) (hb : Below w.heap.size w w') : w'.ownsRow base e size v n xs := by
 obtain ⟨h1, h2⟩ := h
 refine ⟨h1, ?_⟩
 rcases h2 with h2 | ⟨g, cap, cur, hv, hg, hh, r⟩
 ·exact Or.inl h2
 ·have hlt : g < w.heap.size := by
   by_cases hlt : g < w.heap.size
   ·exact hlt
   ·rw [Array.getElem?_eq_none (by omega)] at hh; simp at hh
  exact Or.inr ⟨g, cap, cur, hv, hg, by rw [hb.block g hlt]; exact hh, r⟩
theorem Dig.of_owns {k : IntKind} {w : World} {base : Nat} {e : TypeId} {v : Value} {ds : List Nat} (h : w.ownsRow base e 1 v ds.length (dcells k ds)) : Dig k w v ds := by
 rcases h.2 with ⟨h1, h2⟩ | ⟨g, cap, cur, h1, hb, hg, h2, _⟩
 ·obtain rfl : ds = [] := List.length_eq_zero_iff.1 h2
  rw [h1]; exact Dig.nil k w
 ·subst h1
  refine ⟨_, cap, rfl, h2, fun i hi => ⟨g, 0, rfl, ?_, ?_⟩⟩
  ·by_cases hlt : g < w.heap.size
   ·exact hlt
   ·rw [Array.getElem?_eq_none (by omega)] at hg; simp at hg
  ·rw [Nat.zero_add, h.cellAt i (by omega), dcells_at k ds i hi]
theorem cellOld {w : World} {b off : Nat} (o : Obj) (h : b < w.heap.size) : (w.alloc o).cell? ⟨b, off, none⟩ = w.cell? ⟨b, off, none⟩ :=
 ((Below.refl w.heap.size w).alloc (Nat.le_refl _) o).cell (p := ⟨b, off, none⟩) h
theorem cell1_0 (w : World) (A : Value) (t : TypeId) : (w.alloc (.cells #[A] t)).cell? ⟨w.heap.size, 0, none⟩ = some A := by simp
theorem frozen1_0 (w : World) (A : Value) (t : TypeId) : (w.alloc (.cells #[A] t)).frozen? ⟨w.heap.size, 0, none⟩ = false := by simp
theorem cell2_0 (w : World) (A : Value) (t : TypeId) (o : Obj) : ((w.alloc (.cells #[A] t)).alloc o).cell? ⟨w.heap.size, 0, none⟩ = some A := by
 rw [cellOld o (by simp), cell1_0]
theorem cell2_1 (w : World) (A : Value) (t : TypeId) (o : Obj) : ((w.alloc o).alloc (.cells #[A] t)).cell? ⟨w.heap.size + 1, 0, none⟩ = some A := by
 have := cell1_0 (w.alloc o) A t; rwa [World.size_alloc] at this
theorem frozen2_1 (w : World) (A : Value) (t : TypeId) (o : Obj) : ((w.alloc o).alloc (.cells #[A] t)).frozen? ⟨w.heap.size + 1, 0, none⟩ = false := by
 have := frozen1_0 (w.alloc o) A t; rwa [World.size_alloc] at this
theorem cell3_0 (w : World) (A : Value) (t : TypeId) (o p : Obj) : (((w.alloc (.cells #[A] t)).alloc o).alloc p).cell? ⟨w.heap.size, 0, none⟩ = some A := by
 rw [cellOld p (by simp; omega), cell2_0]
theorem cell3_1 (w : World) (A : Value) (t : TypeId) (o p : Obj) : (((w.alloc o).alloc (.cells #[A] t)).alloc p).cell? ⟨w.heap.size + 1, 0, none⟩ = some A := by
 rw [cellOld p (by simp), cell2_1]
theorem cell3_2 (w : World) (A : Value) (t : TypeId) (o p : Obj) : (((w.alloc o).alloc p).alloc (.cells #[A] t)).cell? ⟨w.heap.size + 1 + 1, 0, none⟩ = some A := by
 have := cell2_1 (w.alloc o) A t p; rwa [World.size_alloc] at this
theorem frozen3_2 (w : World) (A : Value) (t : TypeId) (o p : Obj) : (((w.alloc o).alloc p).alloc (.cells #[A] t)).frozen? ⟨w.heap.size + 1 + 1, 0, none⟩ = false := by
 have := frozen2_1 (w.alloc o) A t p; rwa [World.size_alloc] at this
theorem mixed : Tryz.prog.follows .mixedOrders = true := by kernel_rfl
theorem w64 {x : Int} (h0 : -9223372036854775808 <= x) (h1 : x <= 9223372036854775807) : IntKind.i64.wrap x = x := IntWalk.i64_in x ⟨h0, h1⟩
theorem wu64 {x : Int} (h0 : 0 <= x) (h1 : x <= 18446744073709551615) : IntKind.u64.wrap x = x := IntWalk.u64_in x ⟨h0, h1⟩
theorem ret_int {k : IntKind} {a b : Int} (h : a = b) : Ending.returned (.int k a) = .returned (.int k b) := by rw [h]
theorem digit_any (v : Value) (ds : List Nat) (i : Nat) (w : World) (hd : Dig .u64 w v ds) (_hi : i <= 1000000) (_hl : ds.length <= 1000000) :
  Calls Tryz.prog 99 #[.agg #[v], .int .i64 (i : Int)] w fun e w' => e = .returned (.int .u64 ((dig ds i : Nat) : Int)) /\ Below w.heap.size w w' := by
 obtain ⟨a, cap, rfl, hc, hcell⟩ := hd
 by_cases hlt : i < ds.length
 ·obtain ⟨b, off, rfl, hb, hcl⟩ := hcell i hlt
  have hne : ¬ b = w.heap.size := by omega
  clear hcell
  generalize dig ds i = d at *
  go_enter Tryz.func99, Tryz.ntmps99
  go_wp2
  go_ret
  exact ⟨rfl, (Below.refl _ _).alloc (Nat.le_refl _) _⟩
 ·have hz := dig_beyond ds i (by omega)
  rw [hz]
  clear hcell hz
  go_enter Tryz.func99, Tryz.ntmps99
  go_wp2
  go_ret
  exact ⟨rfl, (Below.refl _ _).alloc (Nat.le_refl _) _⟩
theorem digit_int (v : Value) (ds : List Nat) (i : Int) (w : World) (hd : Dig .u64 w v ds) (h0 : 0 <= i) (hi : i <= 1000000) (hl : ds.length <= 1000000) :
  Calls Tryz.prog 99 #[.agg #[v], .int .i64 i] w fun e w' => e = .returned (.int .u64 ((dig ds i.toNat : Nat) : Int)) /\ Below w.heap.size w w' := by
 obtain ⟨n, rfl⟩ := Int.eq_ofNat_of_zero_le h0
 rw [Int.toNat_natCast]
 exact digit_any v ds n w hd (by omega) hl
end Go.Proofs.YtbklgjmkdhinpaaGreatDoor.Bd
namespace Go.Proofs.YtbklgjmkdhinpaaGreatDoor
open Go.RowKit Go.Extern.Stop Go.Stop Go.Extern
namespace Errs
theorem valueOfP (t : Addr) (w : World) : (ReflectliteValue.unpack (.iface 168 (.pointer (some t)))).run Tryz.prog w
  = .ok (.agg #[.pointer (some ⟨5, 168, none⟩), .pointer (some ⟨w.heap.size, 0, none⟩), .int .u64 150]) (w.alloc (.cells #[.pointer (some t)] 168)) := by kernel_rfl
theorem typeP (a : Addr) (w : World) : (ReflectliteValue.methodAny (ReflectliteValue.valueError "reflectlite.Value.Type" 0) (fun t _ _ _ => ReflectliteType.toType t) #[.agg #[.pointer (some ⟨5, 168, none⟩), .pointer (some a), .int .u64 150]]).run Tryz.prog w
  = .ok (.iface 191 (.agg #[.pointer (some ⟨5, 168, none⟩)])) w := by kernel_rfl
theorem kindP (w : World) : ((ReflectliteType.abiMethod fun t => (fun a : Nat => Value.int IntKind.u8 (a : Int)) <$> Rtype.kind t) #[.pointer (some ⟨5, 168, none⟩)]).run Tryz.prog w = .ok (.int .u8 22) w := by kernel_rfl
theorem kindE (w : World) : ((ReflectliteType.abiMethod fun t => (fun a : Nat => Value.int IntKind.u8 (a : Int)) <$> Rtype.kind t) #[.pointer (some ⟨5, 42, none⟩)]).run Tryz.prog w = .ok (.int .u8 2) w := by kernel_rfl
theorem method_run (z : Sem Value) (f : TypeId -> Addr -> Nat -> Nat -> Sem Value) (v : Value) (t : TypeId) (a : Addr) (fl : Nat) (w : World) (h : (ReflectliteValue.parts v).run Tryz.prog w = .ok (some (t, a, fl)) w) :
  (ReflectliteValue.method z f #[v]).run Tryz.prog w = (f t a fl (fl % 32)).run Tryz.prog w := by
 obtain ⟨F, hF, hG⟩ : ∃ F : Option (TypeId × Addr × Nat) -> Sem Value, ReflectliteValue.method z f #[v] = (ReflectliteValue.parts v >>= F) /\ ∀ t a fl, F (some (t, a, fl)) = f t a fl (fl % 32) := ⟨_, rfl, fun _ _ _ => rfl⟩
 rw [hF]
 simp only [Sem.run_bind, h, Result.andThen]
 rw [hG]
theorem partsP (a : Addr) (w : World) : (ReflectliteValue.parts (.agg #[.pointer (some ⟨5, 168, none⟩), .pointer (some a), .int .u64 150])).run Tryz.prog w = .ok (some (168, a, 150)) w := by kernel_rfl
theorem isNilP (a p : Addr) (W : World) (ha : W.cell? a = some (.pointer (some p))) :
  (ReflectliteValue.method (ReflectliteValue.valueError "reflectlite.Value.IsNil" 0) ReflectliteValue.isNil #[.agg #[.pointer (some ⟨5, 168, none⟩), .pointer (some a), .int .u64 150]]).run Tryz.prog W = .ok (.bool false) W := by
 rw [method_run _ _ _ _ _ _ _ (partsP a W)]
 simp [ReflectliteValue.isNil, loadVar, isAgg, underlying, Tryz.underlying168, ha, Result.andThen]
theorem elemP (w : World) : (ReflectliteType.method ReflectliteType.elem #[.agg #[.pointer (some ⟨5, 168, none⟩)]]).run Tryz.prog w = .ok (.iface 191 (.agg #[.pointer (some ⟨5, 42, none⟩)])) w := by kernel_rfl
theorem implementsE (w : World) : (ReflectliteType.relation "Implements" ReflectliteType.implements_ #[.agg #[.pointer (some ⟨5, 42, none⟩)], .iface 191 (.agg #[.pointer (some ⟨5, 33, none⟩)])]).run Tryz.prog w = .ok (.bool true) w := by kernel_rfl
theorem typeOfE (v : Value) (w : World) : (ReflectliteType.typeOf #[.iface 42 v]).run Tryz.prog w = .ok (.iface 191 (.agg #[.pointer (some ⟨5, 42, none⟩)])) w := by kernel_rfl
theorem assignableE (w : World) : (ReflectliteType.relation "AssignableTo" ReflectliteType.assignableTo #[.agg #[.pointer (some ⟨5, 42, none⟩)], .iface 191 (.agg #[.pointer (some ⟨5, 42, none⟩)])]).run Tryz.prog w = .ok (.bool true) w := by kernel_rfl
theorem valueOfE (n : Int) (w : World) : (ReflectliteValue.unpack (.iface 42 (.int .i64 n))).run Tryz.prog w
  = .ok (.agg #[.pointer (some ⟨5, 42, none⟩), .pointer (some ⟨w.heap.size, 0, none⟩), .int .u64 130]) (w.alloc (.cells #[.int .i64 n] 42)) := by kernel_rfl
theorem elemOfP (w : World) : (Rtype.elem? 168).run Tryz.prog w = .ok (some 42) w := by kernel_rfl
theorem mkE (p : Addr) (w : World) : (ReflectliteValue.mk 42 p ReflectliteValue.flagAddr).run Tryz.prog w = .ok (.agg #[.pointer (some ⟨5, 42, none⟩), .pointer (some p), .int .u64 386]) w := by kernel_rfl
theorem elemVP (a p : Addr) (W : World) (ha : W.cell? a = some (.pointer (some p))) :
  (ReflectliteValue.method (ReflectliteValue.valueError "reflectlite.Value.Elem" 0) ReflectliteValue.elem #[.agg #[.pointer (some ⟨5, 168, none⟩), .pointer (some a), .int .u64 150]]).run Tryz.prog W
   = .ok (.agg #[.pointer (some ⟨5, 42, none⟩), .pointer (some p), .int .u64 386]) W := by
 rw [method_run _ _ _ _ _ _ _ (partsP a W)]
 simp [ReflectliteValue.elem, loadVar, isAgg, underlying, Tryz.underlying168, ha, Result.andThen, elemOfP, mkE]
theorem partsEa (a : Addr) (w : World) : (ReflectliteValue.parts (.agg #[.pointer (some ⟨5, 42, none⟩), .pointer (some a), .int .u64 386])).run Tryz.prog w = .ok (some (42, a, 386)) w := by kernel_rfl
theorem partsE (a : Addr) (w : World) : (ReflectliteValue.parts (.agg #[.pointer (some ⟨5, 42, none⟩), .pointer (some a), .int .u64 130])).run Tryz.prog w = .ok (some (42, a, 130)) w := by kernel_rfl
theorem directE (w : World) : (Rtype.directlyAssignable 42 42).run Tryz.prog w = .ok true w := by kernel_rfl
theorem set_form (v x : Value) : ∃ F : Option (TypeId × Addr × Nat) -> Option (TypeId × Addr × Nat) -> Sem Value, ReflectliteValue.set #[v, x] = (ReflectliteValue.parts v >>= fun p => ReflectliteValue.parts x >>= fun q => F p q) /\
  ∀ a b, ∃ G : Value -> Sem Value, F (some (42, a, 386)) (some (42, b, 130)) = (loadVar 42 b >>= fun val => Rtype.directlyAssignable 42 42 >>= fun d => if d = true then (storeVar 42 a val >>= fun _ => pure (.tuple #[])) else G val) := ⟨_, rfl, fun _ _ => ⟨_, rfl⟩⟩
theorem setE (ta b : Addr) (n : Int) (old : Value) (W : World) (hb : W.cell? b = some (.int .i64 n)) (ht : W.cell? ta = some old) (hf : W.frozen? ta = false) :
  (ReflectliteValue.set #[.agg #[.pointer (some ⟨5, 42, none⟩), .pointer (some ta), .int .u64 386], .agg #[.pointer (some ⟨5, 42, none⟩), .pointer (some b), .int .u64 130]]).run Tryz.prog W
   = .ok (.tuple #[]) (W.setCell ta (.int .i64 n)) := by
 obtain ⟨F, hF, hG⟩ := set_form (.agg #[.pointer (some ⟨5, 42, none⟩), .pointer (some ta), .int .u64 386]) (.agg #[.pointer (some ⟨5, 42, none⟩), .pointer (some b), .int .u64 130])
 obtain ⟨G, hG⟩ := hG ta b
 rw [hF]
 simp only [Sem.run_bind, partsEa, partsE, Result.andThen]
 rw [hG]
 simp [loadVar, isAgg, underlying, Tryz.underlying42, hb, Result.andThen, directE, storeVar, Value.cells, storeCells, Addr.add]
 rw [run_store Tryz.prog W ta _ _ (by rfl)]
 simp [ht, hf]
end Errs
end Go.Proofs.YtbklgjmkdhinpaaGreatDoor
namespace Go.Proofs.YtbklgjmkdhinpaaGreatDoor
open Go.RowKit Go.Extern.Stop Go.Stop Go.Extern
namespace Errs
theorem methodKind (h : Value) (w : World) : (Go.method 330 191 (.agg #[h]) "Kind").run Tryz.prog w = .ok (154, h) w := by kernel_rfl
theorem methodElem (h : Value) (w : World) : (Go.method 330 191 (.agg #[h]) "Elem").run Tryz.prog w = .ok (167, .agg #[h]) w := by kernel_rfl
theorem methodImplements (h : Value) (w : World) : (Go.method 330 191 (.agg #[h]) "Implements").run Tryz.prog w = .ok (168, .agg #[h]) w := by kernel_rfl
theorem methodAssignableTo (h : Value) (w : World) : (Go.method 330 191 (.agg #[h]) "AssignableTo").run Tryz.prog w = .ok (165, .agg #[h]) w := by kernel_rfl
theorem as_hit (n : Int) (t : Addr) (old : Value) (w : World) (hg : w.cell? ⟨1, 0, none⟩ = some (.iface 191 (.agg #[.pointer (some ⟨5, 33, none⟩)]))) (ht0 : w.cell? t = some old) (hf0 : w.frozen? t = false) :
  Calls Tryz.prog 121 #[.iface 42 (.int .i64 n), .iface 168 (.pointer (some t))] w fun ev w' => ev = .returned (.bool true) /\ w' = ((((w.alloc (.cells #[.pointer (some t)] 168)).alloc (.cells #[.pointer (some ⟨5, 168, none⟩), .pointer (some ⟨w.heap.size, 0, none⟩), .int .u64 150] 181)).alloc (.cells #[.pointer (some ⟨5, 168, none⟩), .pointer (some ⟨w.heap.size, 0, none⟩), .int .u64 150] 181)).alloc (.cells #[.int .i64 n] 42)).setCell t (.int .i64 n) := by
 have h6 := @run_callFunc_extern Tryz.prog 131 _ (fun args => ReflectliteValue.unpack (args.getD 0 (.tuple #[]))) Tryz.func131 (by kernel_rfl) (by kernel_rfl) (by kernel_rfl) (by kernel_rfl)
 have h7 := @run_callFunc_extern Tryz.prog 132 _ (ReflectliteValue.methodAny (ReflectliteValue.valueError "reflectlite.Value.Type" 0) (fun t _ _ _ => ReflectliteType.toType t)) Tryz.func132 (by kernel_rfl) (by kernel_rfl) (by kernel_rfl) (by kernel_rfl)
 have h8 := @run_callFunc_extern Tryz.prog 133 _ (ReflectliteValue.method (ReflectliteValue.valueError "reflectlite.Value.IsNil" 0) ReflectliteValue.isNil) Tryz.func133 (by kernel_rfl) (by kernel_rfl) (by kernel_rfl) (by kernel_rfl)
 have h27 := @run_callFunc_extern Tryz.prog 154 _ (ReflectliteType.abiMethod fun t => do pure (.int .u8 (<- Rtype.kind t))) Tryz.func154 (by kernel_rfl) (by kernel_rfl) (by kernel_rfl) (by kernel_rfl)
 have h37 := @run_callFunc_extern Tryz.prog 167 _ (ReflectliteType.method ReflectliteType.elem) Tryz.func167 (by kernel_rfl) (by kernel_rfl) (by kernel_rfl) (by kernel_rfl)
 have h38 := @run_callFunc_extern Tryz.prog 168 _ (ReflectliteType.relation "Implements" ReflectliteType.implements_) Tryz.func168 (by kernel_rfl) (by kernel_rfl) (by kernel_rfl) (by kernel_rfl)
 have h10 := @run_callFunc_extern Tryz.prog 137 _ ReflectliteType.typeOf Tryz.func137 (by kernel_rfl) (by kernel_rfl) (by kernel_rfl) (by kernel_rfl)
 have h35 := @run_callFunc_extern Tryz.prog 165 _ (ReflectliteType.relation "AssignableTo" ReflectliteType.assignableTo) Tryz.func165 (by kernel_rfl) (by kernel_rfl) (by kernel_rfl) (by kernel_rfl)
 have h11 := @run_callFunc_extern Tryz.prog 138 _ (ReflectliteValue.method (ReflectliteValue.valueError "reflectlite.Value.Elem" 0) ReflectliteValue.elem) Tryz.func138 (by kernel_rfl) (by kernel_rfl) (by kernel_rfl) (by kernel_rfl)
 have h12 := @run_callFunc_extern Tryz.prog 139 _ ReflectliteValue.set Tryz.func139 (by kernel_rfl) (by kernel_rfl) (by kernel_rfl) (by kernel_rfl)
 have tO := typeOfE
 have mA := methodAssignableTo
 have a25 := assignableE
 have v25 := valueOfE
 have f6 := valueOfP
 have f7 := typeP
 have mK := methodKind
 have mE := methodElem
 have mI := methodImplements
 have k27 := kindP
 have k25 := kindE
 have e27 := elemP
 have i25 := implementsE
 have n8 := isNilP ⟨w.heap.size, 0, none⟩ t ((w.alloc (.cells #[.pointer (some t)] 168)).alloc (.cells #[.pointer (some ⟨5, 168, none⟩), .pointer (some ⟨w.heap.size, 0, none⟩), .int .u64 150] 181)) (by simp)
 have hlt : 1 < w.heap.size := by
  rcases Nat.lt_or_ge 1 w.heap.size with h | h
  ·exact h
  ·simp [World.cell?, Array.getElem?_eq_none h] at hg
 have hg2 : ((w.alloc (.cells #[.pointer (some t)] 168)).alloc (.cells #[.pointer (some ⟨5, 168, none⟩), .pointer (some ⟨w.heap.size, 0, none⟩), .int .u64 150] 181)).cell? ⟨1, 0, none⟩ = some (.iface 191 (.agg #[.pointer (some ⟨5, 33, none⟩)])) := by
  rw [World.cell?_alloc_lt _ _ ⟨1, 0, none⟩ (by simp only [World.size_alloc]; omega), World.cell?_alloc_lt _ _ ⟨1, 0, none⟩ hlt]; exact hg
 have htl : t.block < w.heap.size := by
  rcases Nat.lt_or_ge t.block w.heap.size with h | h
  ·exact h
  ·simp [World.cell?, Array.getElem?_eq_none h] at ht0
 have el := elemVP ⟨w.heap.size, 0, none⟩ t (((w.alloc (.cells #[.pointer (some t)] 168)).alloc (.cells #[.pointer (some ⟨5, 168, none⟩), .pointer (some ⟨w.heap.size, 0, none⟩), .int .u64 150] 181)).alloc (.cells #[.pointer (some ⟨5, 168, none⟩), .pointer (some ⟨w.heap.size, 0, none⟩), .int .u64 150] 181)) (by rw [World.cell?_alloc_lt _ _ ⟨w.heap.size, 0, none⟩ (by simp; omega)]; simp)
 have st := setE t ⟨w.heap.size + 1 + 1 + 1, 0, none⟩ n old ((((w.alloc (.cells #[.pointer (some t)] 168)).alloc (.cells #[.pointer (some ⟨5, 168, none⟩), .pointer (some ⟨w.heap.size, 0, none⟩), .int .u64 150] 181)).alloc (.cells #[.pointer (some ⟨5, 168, none⟩), .pointer (some ⟨w.heap.size, 0, none⟩), .int .u64 150] 181)).alloc (.cells #[.int .i64 n] 42))
  (by rw [World.cell?_alloc_at _ _ _ _ (by simp)]; rfl)
  (by rw [World.cell?_alloc_lt _ _ t (by simp; omega), World.cell?_alloc_lt _ _ t (by simp; omega), World.cell?_alloc_lt _ _ t (by simp; omega), World.cell?_alloc_lt _ _ t htl]; exact ht0)
  (by rw [World.frozen?_alloc_old _ _ t (by simp; omega), World.frozen?_alloc_old _ _ t (by simp; omega), World.frozen?_alloc_old _ _ t (by simp; omega), World.frozen?_alloc_old _ _ t (Nat.ne_of_lt htl)]; exact hf0)
 go_enter Tryz.func121, Tryz.ntmps121
 go_wp2
 refine wp_loop_rounds 1 ?_
 rw [rounds_succ]
 go_wp2
 go_ret
 exact ⟨rfl, rfl⟩
end Errs
end Go.Proofs.YtbklgjmkdhinpaaGreatDoor
