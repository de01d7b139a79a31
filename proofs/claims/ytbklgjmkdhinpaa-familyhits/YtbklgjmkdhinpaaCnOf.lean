/- The contract of Of. -/
import Derived.Test.YtbklgjmkdhinpaaProg
import Derived.Test.YtbklgjmkdhinpaaCnNum
import Derived.WalkKit
import Derived.WalkSpells
import Derived.WalkLawsBesides
import Derived.Deep.Cut
import Derived.Deep.DeepCutAuto
import Derived.Deep.RegionWith
import Derived.Deep.LoopGhost
import Derived.Deep.DeepFit
import Derived.Deep.DeepMust
import Derived.Deep.Light
import Derived.Lib.QuietBelow
import Derived.Lib.MinMax
import Derived.BigQuiet
set_option maxHeartbeats 1000000
set_option maxRecDepth 100000
namespace Go.Proofs.Ytbklgjmkdhinpaa.Bd
open Go.RowKit Num
def Dig (k : IntKind) (w : World) (v : Value) (ds : List Nat) : Prop :=
 ∃ a cap, v = .slice a ds.length cap /\ ds.length <= cap /\ ∀ i, i < ds.length -> ∃ b off, a = some ⟨b, off, none⟩ /\ b < w.heap.size /\ w.cell? ⟨b, off + i, none⟩ = some (.int k ((dig ds i : Nat) : Int))
theorem Dig.below {k : IntKind} {w w' : World} {v : Value} {ds : List Nat} (h : Dig k w v ds) (hb : Below w.heap.size w w') : Dig k w' v ds := by
 obtain ⟨a, cap, hv, hc, hi⟩ := h
 refine ⟨a, cap, hv, hc, fun i hl => ?_⟩
 obtain ⟨b, off, ha, hlt, hcell⟩ := hi i hl
 exact ⟨b, off, ha, Nat.lt_of_lt_of_le hlt hb.size, (hb.cell (p := ⟨b, off + i, none⟩) hlt).trans hcell⟩
theorem Dig.set {k : IntKind} {w : World} {v : Value} {ds : List Nat} (h : Dig k w v ds) {p : Addr} {u0 : Value} (hp : w.cell? p = some u0) (hu : ∀ n, u0 ≠ .int k n) (u : Value) : Dig k (w.setCell p u) v ds := by
 obtain ⟨a, cap, hv, hc, hi⟩ := h
 refine ⟨a, cap, hv, hc, fun i hl => ?_⟩
 obtain ⟨b, off, ha, hb, hcell⟩ := hi i hl
 refine ⟨b, off, ha, by simpa [World.setCell] using hb, ?_⟩
 rw [World.cell?_setCell_other _ _ _ _ (fun e => by subst e; rw [hp] at hcell; exact hu _ (Option.some.inj hcell))]
 exact hcell
theorem Dig.nil (k : IntKind) (w : World) : Dig k w (.slice none 0 0) [] := ⟨none, 0, rfl, Nat.le_refl _, fun i h => by simp at h⟩
def dcells (k : IntKind) (ds : List Nat) : List Value := ds.map fun d : Nat => Value.int k (d : Int)
theorem dcells_snoc (k : IntKind) (ds : List Nat) (x : Nat) : dcells k (ds ++ [x]) = dcells k ds ++ [Value.int k (x : Int)] := by simp [dcells]
theorem dcells_at (k : IntKind) (ds : List Nat) (i : Nat) (h : i < ds.length) : (dcells k ds)[i]? = some (.int k ((dig ds i : Nat) : Int)) := by
 unfold dcells dig
 simp [List.getD_eq_getElem?_getD, List.getElem?_eq_getElem h]
theorem dcells_set (k : IntKind) (ds : List Nat) (j x : Nat) : (dcells k ds).set j (.int k (x : Int)) = dcells k (ds.set j x) := by simp [dcells, List.map_set]
theorem dcells_made (k : IntKind) (n : Nat) : (madeCells #[Value.int k 0] n).toList = dcells k (List.replicate n 0) := by rw [toList_madeCells_one]; simp [dcells]
theorem owns_form {w : World} {base : Nat} {e : TypeId} {v : Value} {n : Nat} {xs : List Value} (h : w.ownsRow base e 1 v n xs) : ∃ a cap, v = .slice a n cap /\ n <= cap := by
 rcases h.2 with ⟨h1, h2⟩ | ⟨g, cap, cur, h1, _, _, h2, _⟩
 ·exact ⟨none, 0, by rw [h1, h2], by omega⟩
 ·exact ⟨_, cap, h1, h2⟩
theorem owns_set {k : IntKind} {w : World} {base g n cap : Nat} {e : TypeId} {ds : List Nat} (h : w.ownsRow base e 1 (.slice (some ⟨g, 0, none⟩) n cap) n (dcells k ds)) (j x : Nat) : (w.setCell ⟨g, j, none⟩ (.int k (x : Int))).ownsRow base e 1 (.slice (some ⟨g, 0, none⟩) n cap) n (dcells k (ds.set j x)) := by
 rw [<- dcells_set]; exact (h.stored j _).1
theorem owns_below {w w' : World} {base : Nat} {e : TypeId} {size : Nat} {v : Value} {n : Nat} {xs : List Value} (h : w.ownsRow base e size v n xs) (hb : Below w.heap.size w w') : w'.ownsRow base e size v n xs := by
 obtain ⟨h1, h2⟩ := h
 refine ⟨h1, ?_⟩
 rcases h2 with h2 | ⟨g, cap, cur, hv, hg, hh, r⟩
 ·exact Or.inl h2
 ·have hlt : g < w.heap.size := by
   by_cases hlt : g < w.heap.size
   ·exact hlt
   ·rw [Array.getElem?_eq_none (by omega)] at hh; simp at hh
  exact Or.inr ⟨g, cap, cur, hv, hg, by rw [hb.block g hlt]; exact hh, r⟩
theorem Dig.of_owns {k : IntKind} {w : World} {base : Nat} {e : TypeId} {v : Value} {ds : List Nat} (h : w.ownsRow base e 1 v ds.length (dcells k ds)) : Dig k w v ds := by
 rcases h.2 with ⟨h1, h2⟩ | ⟨g, cap, cur, h1, hb, hg, h2, _⟩
 ·obtain rfl : ds = [] := List.length_eq_zero_iff.1 h2
  rw [h1]; exact Dig.nil k w
 ·subst h1
  refine ⟨_, cap, rfl, h2, fun i hi => ⟨g, 0, rfl, ?_, ?_⟩⟩
  ·by_cases hlt : g < w.heap.size
   ·exact hlt
   ·rw [Array.getElem?_eq_none (by omega)] at hg; simp at hg
  ·rw [Nat.zero_add, h.cellAt i (by omega), dcells_at k ds i hi]
theorem cellOld {w : World} {b off : Nat} (o : Obj) (h : b < w.heap.size) : (w.alloc o).cell? ⟨b, off, none⟩ = w.cell? ⟨b, off, none⟩ :=
 ((Below.refl w.heap.size w).alloc (Nat.le_refl _) o).cell (p := ⟨b, off, none⟩) h
theorem cell1_0 (w : World) (A : Value) (t : TypeId) : (w.alloc (.cells #[A] t)).cell? ⟨w.heap.size, 0, none⟩ = some A := by simp
theorem frozen1_0 (w : World) (A : Value) (t : TypeId) : (w.alloc (.cells #[A] t)).frozen? ⟨w.heap.size, 0, none⟩ = false := by simp
theorem cell2_0 (w : World) (A : Value) (t : TypeId) (o : Obj) : ((w.alloc (.cells #[A] t)).alloc o).cell? ⟨w.heap.size, 0, none⟩ = some A := by
 rw [cellOld o (by simp), cell1_0]
theorem cell2_1 (w : World) (A : Value) (t : TypeId) (o : Obj) : ((w.alloc o).alloc (.cells #[A] t)).cell? ⟨w.heap.size + 1, 0, none⟩ = some A := by
 have := cell1_0 (w.alloc o) A t; rwa [World.size_alloc] at this
theorem frozen2_1 (w : World) (A : Value) (t : TypeId) (o : Obj) : ((w.alloc o).alloc (.cells #[A] t)).frozen? ⟨w.heap.size + 1, 0, none⟩ = false := by
 have := frozen1_0 (w.alloc o) A t; rwa [World.size_alloc] at this
theorem cell3_0 (w : World) (A : Value) (t : TypeId) (o p : Obj) : (((w.alloc (.cells #[A] t)).alloc o).alloc p).cell? ⟨w.heap.size, 0, none⟩ = some A := by
 rw [cellOld p (by simp; omega), cell2_0]
theorem cell3_1 (w : World) (A : Value) (t : TypeId) (o p : Obj) : (((w.alloc o).alloc (.cells #[A] t)).alloc p).cell? ⟨w.heap.size + 1, 0, none⟩ = some A := by
 rw [cellOld p (by simp), cell2_1]
theorem cell3_2 (w : World) (A : Value) (t : TypeId) (o p : Obj) : (((w.alloc o).alloc p).alloc (.cells #[A] t)).cell? ⟨w.heap.size + 1 + 1, 0, none⟩ = some A := by
 have := cell2_1 (w.alloc o) A t p; rwa [World.size_alloc] at this
theorem frozen3_2 (w : World) (A : Value) (t : TypeId) (o p : Obj) : (((w.alloc o).alloc p).alloc (.cells #[A] t)).frozen? ⟨w.heap.size + 1 + 1, 0, none⟩ = false := by
 have := frozen2_1 (w.alloc o) A t p; rwa [World.size_alloc] at this
theorem mixed : Try.prog.follows .mixedOrders = true := by kernel_rfl
theorem w64 {x : Int} (h0 : -9223372036854775808 <= x) (h1 : x <= 9223372036854775807) : IntKind.i64.wrap x = x := IntWalk.i64_in x ⟨h0, h1⟩
theorem wu64 {x : Int} (h0 : 0 <= x) (h1 : x <= 18446744073709551615) : IntKind.u64.wrap x = x := IntWalk.u64_in x ⟨h0, h1⟩
theorem ret_int {k : IntKind} {a b : Int} (h : a = b) : Ending.returned (.int k a) = .returned (.int k b) := by rw [h]
theorem digit_any (v : Value) (ds : List Nat) (i : Nat) (w : World) (hd : Dig .u64 w v ds) (_hi : i <= 1000000) (_hl : ds.length <= 1000000) :
  Calls Try.prog 101 #[.agg #[v], .int .i64 (i : Int)] w fun e w' => e = .returned (.int .u64 ((dig ds i : Nat) : Int)) /\ Below w.heap.size w w' := by
 obtain ⟨a, cap, rfl, hc, hcell⟩ := hd
 by_cases hlt : i < ds.length
 ·obtain ⟨b, off, rfl, hb, hcl⟩ := hcell i hlt
  have hne : ¬ b = w.heap.size := by omega
  clear hcell
  generalize dig ds i = d at *
  go_enter Try.func101, Try.ntmps101
  go_wp2
  go_ret
  exact ⟨rfl, (Below.refl _ _).alloc (Nat.le_refl _) _⟩
 ·have hz := dig_beyond ds i (by omega)
  rw [hz]
  clear hcell hz
  go_enter Try.func101, Try.ntmps101
  go_wp2
  go_ret
  exact ⟨rfl, (Below.refl _ _).alloc (Nat.le_refl _) _⟩
theorem digit_int (v : Value) (ds : List Nat) (i : Int) (w : World) (hd : Dig .u64 w v ds) (h0 : 0 <= i) (hi : i <= 1000000) (hl : ds.length <= 1000000) :
  Calls Try.prog 101 #[.agg #[v], .int .i64 i] w fun e w' => e = .returned (.int .u64 ((dig ds i.toNat : Nat) : Int)) /\ Below w.heap.size w w' := by
 obtain ⟨n, rfl⟩ := Int.eq_ofNat_of_zero_le h0
 rw [Int.toNat_natCast]
 exact digit_any v ds n w hd (by omega) hl
end Go.Proofs.Ytbklgjmkdhinpaa.Bd
namespace Go.Proofs.Ytbklgjmkdhinpaa.Bd
open Go.RowKit Go.Maps
structure NV where
 a : Option Addr
 n : Nat
 c : Nat
def NV.val (x : NV) : Value := .agg #[.slice x.a x.n x.c]
def NV.dat (x : NV) : DataW Unit :=
 match x.a with
 | none => .agg [.lit (.int .i64 x.n), .lit (.int .i64 x.c)]
 | some ⟨b, o, none⟩ => .agg [.lit (.int .i64 x.n), .lit (.int .i64 x.c), .lit (.int .i64 b), .lit (.int .i64 o)]
 | some ⟨b, o, some s⟩ => .agg [.lit (.int .i64 x.n), .lit (.int .i64 x.c), .lit (.int .i64 b), .lit (.int .i64 o), .lit (.int .i64 s)]
theorem NV.dat_inj {x y : NV} (h : x.dat = y.dat) : x = y := by
 obtain ⟨a, n, c⟩ := x
 obtain ⟨b, m, d⟩ := y
 rcases a with _ | ⟨ab, ao, _ | sa⟩ <;> rcases b with _ | ⟨bb, bo, _ | sb⟩ <;> simp [NV.dat] at h ⊢ <;> omega
def natR (v : Value) : Option (DataW Unit × List MemPlace) :=
 match v with
 | .agg cs =>
  match cs.toList with
  | [.slice a n c] => some (NV.dat ⟨a, n, c⟩, [])
  | _ => none
 | _ => none
theorem natR_val (x : NV) : natR x.val = some (x.dat, []) := rfl
theorem natR_inv {v : Value} {x : NV} {ps : List MemPlace} (h : natR v = some (x.dat, ps)) : v = x.val := by
 unfold natR at h
 split at h
 ·rename_i cs
  split at h
  ·rename_i a n c e
   simp only [Option.some.injEq, Prod.mk.injEq] at h
   rw [<- NV.dat_inj h.1]
   have : cs = #[.slice a n c] := by cases cs; simp at e; rw [e]
   rw [this]; rfl
  ·cases h
 ·cases h
theorem zeroNat (w : World) : (zeroValue 83).run Try.prog w = .ok (.agg #[.slice none 0 0]) w := by kernel_rfl
def NRep (D : DataW Unit) (L : List (Int × NV)) : Prop := Rep I64 (fun x => Lit.int .i64 x) NV.dat D L
section
variable {w : World} {bm n : Nat} {D : DataW Unit} {L : List (Int × NV)}
theorem nlook_found (hD : w.ownsMap Try.prog 3 natR bm n D) (hR : NRep D L) {p : Int × NV} (hp : p ∈ L) :
  (Instr.lookup 110 (.map (some bm)) (.int .i64 p.1) true).run Try.prog w = .ok (.tuple #[p.2.val, .bool true]) w := by
 obtain ⟨v, ps, hrun, hv⟩ := hD.look_ok lawI Try.underlying110 (zeroNat w) (natR_val ⟨none, 0, 0⟩) (keyI (Rep.oks hR p hp))
 rw [Rep.at' hR p hp] at hv
 rw [(Rep.has hR p.1 (Rep.oks hR p hp)).2 (List.mem_map_of_mem hp), natR_inv hv] at hrun
 exact hrun
theorem nlook_none (hD : w.ownsMap Try.prog 3 natR bm n D) (hR : NRep D L) {a : Int} (ha : I64 a) (hn : a ∉ L.map Prod.fst) :
  (Instr.lookup 110 (.map (some bm)) (.int .i64 a) true).run Try.prog w = .ok (.tuple #[.agg #[.slice none 0 0], .bool false]) w := by
 obtain ⟨v, ps, hrun, hv⟩ := hD.look_ok lawI Try.underlying110 (zeroNat w) (natR_val ⟨none, 0, 0⟩) (keyI ha)
 have hh := Rep.not hR ha hn
 rw [atKey_of_not_has hh] at hv
 rw [hh, natR_inv hv] at hrun
 exact hrun
end
end Go.Proofs.Ytbklgjmkdhinpaa.Bd
namespace Go.Proofs.Ytbklgjmkdhinpaa.Bd
open Go.RowKit Num Go.Sort
theorem Dig.take {k : IntKind} {w : World} {a : Option Addr} {cap n : Nat} {ds : List Nat} (h : Dig k w (.slice a ds.length cap) ds) (hn : n <= ds.length) : Dig k w (.slice a n cap) (ds.take n) := by
 obtain ⟨a', cap', hv, hc, hi⟩ := h
 cases hv
 have hl : (ds.take n).length = n := by rw [List.length_take, Nat.min_eq_left hn]
 refine ⟨a, cap, by rw [hl], by omega, fun i hlt => ?_⟩
 rw [hl] at hlt
 obtain ⟨b, off, ha, hb, hcell⟩ := hi i (by omega)
 exact ⟨b, off, ha, hb, by rw [dig_take, if_pos hlt]; exact hcell⟩
theorem Dig.setCell {k : IntKind} {w : World} {v : Value} {ds : List Nat} {B : Nat} (h : Dig k w v ds) (hb : w.heap.size <= B) {W : World} (hW : Below w.heap.size w W) (u : Value) : Dig k (W.setCell ⟨B, 0, none⟩ u) v ds :=
 h.below (hW.setCell hb u)
theorem trimmed_any (v : Value) (ds : List Nat) (w : World) (hd : Dig .u64 w v ds) (sm : ∀ i, dig ds i < 1000000000) (hl : ds.length <= 100000) :
  Calls Try.prog 109 #[v] w fun e w' => ∃ v', e = .returned (.agg #[v']) /\ ∃ ds', Dig .u64 w' v' ds' /\ Norm 1000000000 ds' /\ val 1000000000 ds' = val 1000000000 ds /\ ds'.length <= ds.length /\ Below w.heap.size w w' := by
 obtain ⟨a, cap, hv, hc, hcell⟩ := id hd
 subst hv
 have HC : Hid (∀ i, i < ds.length -> ∃ b off, a = some ⟨b, off, none⟩ /\ b < w.heap.size /\ w.cell? ⟨b, off + i, none⟩ = some (.int .u64 ((dig ds i : Nat) : Int))) := hcell
 clear hcell
 go_enter Try.func109, Try.ntmps109
 go_wp2_with fail
 go_loop [3] (fun n => ∃ k : Nat, k <= ds.length /\ n = .int .i64 k /\ ∀ i, k <= i -> dig ds i = 0) (fun n => (intOf n).toNat)
 case atStart => exact ⟨ds.length, Nat.le_refl _, rfl, fun i hi => dig_beyond ds i hi⟩
 case round =>
  obtain ⟨k, hk, rfl, hz⟩ := hrel
  have HZ : Hid (∀ i, k <= i -> dig ds i = 0) := hz
  clear hz
  by_cases h0 : k = 0
  ·subst h0
   have hx := norm_take (B := 1000000000) (k := 0) (by omega) sm (Nat.zero_le _) (fun h => absurd rfl h)
   have hval := val_take (B := 1000000000) (k := 0) (Nat.zero_le _) HZ.out
   have hnil : ds.take 0 = [] := rfl
   rw [hnil] at hx hval
   go_wp2
   refine bodyPost_ret (v := .agg #[.slice none 0 0]) (by simp [results, Try.results109, go_sem]) rfl ?_
   exact ⟨_, rfl, [], Dig.nil _ _, hx, hval, Nat.zero_le _, (Below.refl _ _).alloc (Nat.le_refl _) _⟩
  ·obtain ⟨j, rfl⟩ : ∃ j, k = j + 1 := ⟨k - 1, by omega⟩
   obtain ⟨b, off, ha, hb, hcl⟩ := HC.out j (by omega)
   subst ha
   have hne : ¬ b = w.heap.size := by omega
   have hj := sm j
   by_cases hzj : dig ds j = 0
   ·rw [hzj] at hcl
    go_wp2
    go_round
    case rel =>
     refine ⟨j, by omega, by go_num, fun i hi => ?_⟩
     by_cases e : i = j
     ·rw [e]; exact hzj
     ·exact HZ.out i (by omega)
    case measure => simp [intOf]
   ·have hbq : (((dig ds j : Nat) : Int) == 0) = false := by rw [beq_eq_false_iff_ne]; omega
    have hx := norm_take (B := 1000000000) (k := j + 1) (by omega) sm hk (fun _ => hzj)
    have hval := val_take (B := 1000000000) hk HZ.out
    have hDt := Dig.take hd hk
    clear hzj
    go_wp2
    refine bodyPost_ret (v := .agg #[.slice (some ⟨b, off, none⟩) (j + 1) cap]) (by simp [results, Try.results109, go_sem]) rfl ?_
    exact ⟨_, rfl, ds.take (j + 1), hDt.below ((Below.refl _ _).alloc (Nat.le_refl _) _), hx, hval, by rw [List.length_take]; omega, (Below.refl _ _).alloc (Nat.le_refl _) _⟩
end Go.Proofs.Ytbklgjmkdhinpaa.Bd
namespace Go.Proofs.Ytbklgjmkdhinpaa.Bd
open Go.RowKit Num Go.Sort
theorem infoU64 : (Try.prog.info? 113).map (fun i => (i.zero, i.size, i.bytes)) = some (some (.int .u64 0), 1, 8) := by kernel_rfl
theorem of_any (n : Int) (w : World) (h0 : -9223372036854775808 <= n) (h1 : n <= 9223372036854775807) :
  Calls Try.prog 82 #[.int .i64 n] w fun e w' => ∃ v, e = .returned (.agg #[v]) /\ ∃ ds, Dig .u64 w' v ds /\ Norm 1000000000 ds /\ val 1000000000 ds = n.toNat /\ Below w.heap.size w w' := by
 obtain ⟨i0, hi, hz0, hz1, hz2⟩ := info_parts infoU64
 go_enter Try.func82, Try.ntmps82
 go_wp2_with fail
 go_loopw [0, 3] (fun i v wr => ∃ (ds : List Nat) (m : Int) (a : Option Addr) (cap : Nat), i = .int .i64 m /\ v = .slice a ds.length cap /\ -9223372036854775808 <= m /\ m <= 9223372036854775807 /\ (∀ i, dig ds i < 1000000000) /\ (m <= 0 -> ds.length ≠ 0 -> dig ds (ds.length - 1) ≠ 0) /\ val 1000000000 ds + m.toNat * 1000000000 ^ ds.length = n.toNat /\ wr.ownsRow (w.heap.size + 1) 113 1 (.slice a ds.length cap) ds.length (dcells .u64 ds) /\ Below (w.heap.size + 1) (w.alloc (.cells #[.slice none 0 0] 83)) wr)
   (fun i _ _ => (intOf i).toNat)
 case atStart => exact ⟨[], n, none, 0, rfl, rfl, h0, h1, fun i => by rw [dig_nil]; omega, fun _ h => absurd rfl h, by simp [val_nil], World.ownsRow_nil _ _ _ _, Below.refl _ _⟩
 case round =>
  obtain ⟨ds, m, a, cap, rfl, rfl, hm0, hm1, hsm, hlast, hval, hown, hbel⟩ := hrel
  have HV := hval
  by_cases hpos : 0 < m
  ·obtain ⟨m, rfl⟩ := Int.eq_ofNat_of_zero_le (show 0 <= m by omega)
   rw [Int.toNat_natCast] at hval
   have hlen := of_len (by omega) (by omega) hval
   have hsz := hbel.size
   simp only [World.size_alloc] at hsz
   go_wp2_with (at_builtin; refine wpList_append_own _ rfl _ _ 81 rfl (w.heap.size + 1) 113 i0 (.int .u64 0) 1 8 Try.underlying81 hi hz0 hz1 hz2 rfl (by decide) _ _ _ rfl (hown.alloc _) ⟨wr.heap.size, 0, none⟩ 1 1 [.int .u64 ((m : Int) % 1000000000)] rfl rfl ?c1 ?c2 ?c3 ?c4 ?c5 ?_)
   case c1 => exact cell_one_new _ _ _
   case c2 => intro u hu; simp at hu; subst hu; rfl
   case c3 => unfold maxLen; omega
   case c4 => omega
   case c5 => simp; omega
   ·intro v' w1 hown' hgrow _
    have hbel' : Below (w.heap.size + 1) (w.alloc (.cells #[.slice none 0 0] 83)) w1 := (hbel.alloc (by omega) _).grown hgrow (by simp; omega) (fun k hk => (hown.lt k hk).1)
    obtain ⟨a', cap', hv, -⟩ := owns_form hown'
    clear hown hgrow hbel
    go_wp2
    go_roundw
    case rel =>
     refine ⟨ds ++ [m % 1000000000], ((m / 1000000000 : Nat) : Int), a', cap', by go_num, by rw [hv]; simp, by omega, by omega, small_snoc hsm (by omega), fun h _ => ?_, ?_, ?_, hbel'⟩
     ·rw [last_snoc]; omega
     ·rw [Int.toNat_natCast]; exact of_step hval
     ·rw [hv] at hown'
      rw [dcells_snoc]
      simpa using hown'
    case measure => simp [intOf]; omega
  ·have hc : wr.cell? ⟨w.heap.size, 0, none⟩ = some (.slice none 0 0) := (hbel.cell (p := ⟨w.heap.size, 0, none⟩) (by simp)).trans (by simp)
   have hf : wr.frozen? ⟨w.heap.size, 0, none⟩ = false := (hbel.frozen (p := ⟨w.heap.size, 0, none⟩) (by simp)).trans (by simp)
   have hcs : (wr.setCell ⟨w.heap.size, 0, none⟩ (.slice a ds.length cap)).cell? ⟨w.heap.size, 0, none⟩ = some (.slice a ds.length cap) := World.cell?_setCell_same' _ _ _ (by simp [hc])
   go_wp2
   refine bodyPost_ret (v := .agg #[.slice a ds.length cap]) (by simp [results, Try.results82, go_sem, hcs]) rfl ?_
   refine ⟨.slice a ds.length cap, rfl, ds, Dig.of_owns (ownsRow_setCell_below hown (Nat.lt_succ_self _) _), ⟨hsm, hlast (by omega)⟩, ?_, ?_⟩
   ·have : m.toNat = 0 := by omega
    rw [this] at hval; simpa using hval
   ·exact (((Below.refl _ _).alloc (Nat.le_refl _) _).trans (hbel.mono (by omega))).setCell (Nat.le_refl _) _
end Go.Proofs.Ytbklgjmkdhinpaa.Bd
