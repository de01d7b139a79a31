/- api.Tell of nil and of a plain Errno. -/
import Derived.Lib.ItoaNum
import Derived.Test.YtcjjekhecjmaeaaGreatDoorProg
import Derived.KernelRfl
import Derived.WalkKit
import Derived.WalkSpells
import Derived.WalkLawsBesides
import Derived.Deep.Cut
import Derived.Deep.DeepCutAuto
import Derived.Deep.RegionWith
import Derived.Deep.LoopGhost
import Derived.Deep.DeepFit
import Derived.Deep.DeepMust
import Derived.Deep.Light
import Derived.Lib.QuietBelow
import Derived.Lib.MinMax
import Derived.BigQuiet
import Derived.LaidEql
import Derived.Stop.Asserts
import Derived.RowKitTokens
set_option maxHeartbeats 400000
namespace Go.Proofs.YtcjjekhecjmaeaaGreatDoor.Num
def S (B : Nat) (g : Nat -> Nat) : Nat -> Nat
 | 0 => 0
 | k + 1 => S B g k + g k * B ^ k
theorem S_succ (B : Nat) (g : Nat -> Nat) (k : Nat) : S B g (k + 1) = S B g k + g k * B ^ k := rfl
def dig (ds : List Nat) (i : Nat) : Nat := ds.getD i 0
def val (B : Nat) (ds : List Nat) : Nat := S B (dig ds) ds.length
structure Norm (B : Nat) (ds : List Nat) : Prop where
 small : ∀ i, dig ds i < B
 last : ds.length ≠ 0 -> dig ds (ds.length - 1) ≠ 0
theorem dig_beyond (ds : List Nat) (i : Nat) (h : ds.length <= i) : dig ds i = 0 := by
 unfold dig; simp [List.getD_eq_getElem?_getD, List.getElem?_eq_none h]
theorem dig_append (a : List Nat) (x : Nat) (i : Nat) : dig (a ++ [x]) i = if i < a.length then dig a i else if i = a.length then x else 0 := by
 unfold dig
 simp only [List.getD_eq_getElem?_getD]
 by_cases h : i < a.length
 ·rw [List.getElem?_append_left h, if_pos h]
 ·rw [if_neg h, List.getElem?_append_right (by omega)]
  by_cases e : i = a.length
  ·subst e; simp
  ·rw [if_neg e, List.getElem?_eq_none (by simp; omega)]; rfl
theorem S_congr (B : Nat) (g h : Nat -> Nat) : ∀ k, (∀ i, i < k -> g i = h i) -> S B g k = S B h k
 | 0, _ => rfl
 | k + 1, e => by rw [S_succ, S_succ, S_congr B g h k (fun i hi => e i (by omega)), e k (by omega)]
theorem S_above (B : Nat) (g : Nat -> Nat) (k : Nat) : ∀ m, (∀ i, k <= i -> g i = 0) -> S B g (k + m) = S B g k
 | 0, _ => rfl
 | m + 1, e => by rw [<- Nat.add_assoc, S_succ, S_above B g k m e, e (k + m) (by omega)]; simp
theorem S_val (B : Nat) (ds : List Nat) (n : Nat) (h : ds.length <= n) : S B (dig ds) n = val B ds := by
 obtain ⟨m, rfl⟩ := Nat.exists_eq_add_of_le h
 exact S_above B _ _ m (fun i hi => dig_beyond ds i hi)
theorem S_lt (B : Nat) (g : Nat -> Nat) : ∀ k, (∀ i, g i < B) -> S B g k < B ^ k
 | 0, _ => by simp [S]
 | k + 1, e => by
  have h1 := S_lt B g k e
  have h2 : (g k + 1) * B ^ k <= B * B ^ k := Nat.mul_le_mul_right _ (e k)
  rw [S_succ, Nat.pow_succ, Nat.mul_comm (B ^ k) B]
  rw [Nat.add_mul] at h2
  omega
theorem val_lt {B : Nat} {ds : List Nat} (h : ∀ i, dig ds i < B) : val B ds < B ^ ds.length := S_lt B _ _ h
theorem val_nil (B : Nat) : val B [] = 0 := rfl
theorem dig_nil (i : Nat) : dig [] i = 0 := by unfold dig; simp
theorem val_pos {B : Nat} {ds : List Nat} (h : Norm B ds) (hl : ds.length ≠ 0) : B ^ (ds.length - 1) <= val B ds := by
 obtain ⟨k, hk⟩ : ∃ k, ds.length = k + 1 := ⟨ds.length - 1, by omega⟩
 have h1 := h.last hl
 unfold val
 rw [hk] at h1 ⊢
 rw [S_succ]
 simp only [Nat.add_sub_cancel] at h1 ⊢
 have : 1 * B ^ k <= dig ds k * B ^ k := Nat.mul_le_mul_right _ (by omega)
 omega
theorem val_snoc (B : Nat) (a : List Nat) (x : Nat) : val B (a ++ [x]) = val B a + x * B ^ a.length := by
 unfold val
 rw [List.length_append, List.length_singleton, S_succ]
 rw [S_congr B (dig (a ++ [x])) (dig a) a.length (fun i hi => by rw [dig_append, if_pos hi])]
 rw [dig_append, if_neg (by omega), if_pos rfl]
theorem norm_len {B : Nat} {ds : List Nat} (hB : 2 <= B) (h : Norm B ds) {k : Nat} (hv : val B ds < B ^ k) : ds.length <= k := by
 by_cases hl : ds.length = 0
 ·omega
 ·have h1 := val_pos h hl
  have h2 : B ^ (ds.length - 1) < B ^ k := by omega
  have h3 := (Nat.pow_lt_pow_iff_right (a := B) (by omega)).1 h2
  omega
theorem small_snoc {B x : Nat} {a : List Nat} (ha : ∀ i, dig a i < B) (hx : x < B) (i : Nat) : dig (a ++ [x]) i < B := by
 rw [dig_append]
 have := ha i
 split
 ·exact this
 ·split
  ·exact hx
  ·omega
theorem last_snoc (a : List Nat) (x : Nat) : dig (a ++ [x]) ((a ++ [x]).length - 1) = x := by
 rw [dig_append]; simp
theorem of_step {B n m : Nat} {ds : List Nat} (h : val B ds + m * B ^ ds.length = n) : val B (ds ++ [m % B]) + m / B * B ^ (ds ++ [m % B]).length = n := by
 rw [val_snoc, List.length_append, List.length_singleton, Nat.pow_succ, <- h]
 have h1 := Nat.div_add_mod m B
 generalize B ^ ds.length = p at *
 generalize m / B = q at *
 generalize m % B = r at *
 generalize val B ds = v at *
 subst h1
 grind
theorem of_len {n m : Nat} {ds : List Nat} (hm : 1 <= m) (hn : n <= 9223372036854775807) (h : val 1000000000 ds + m * 1000000000 ^ ds.length = n) : ds.length <= 2 := by
 apply Nat.le_of_not_lt
 intro h3
 have h4 : 1000000000 ^ 3 <= 1000000000 ^ ds.length := Nat.pow_le_pow_right (by omega) h3
 have h5 : 1 * 1000000000 ^ ds.length <= m * 1000000000 ^ ds.length := Nat.mul_le_mul_right _ hm
 omega
theorem dig_take (ds : List Nat) (k i : Nat) : dig (ds.take k) i = if i < k then dig ds i else 0 := by
 unfold dig
 simp only [List.getD_eq_getElem?_getD, List.getElem?_take]
 split
 ·rfl
 ·rfl
theorem dig_set (ds : List Nat) (k x i : Nat) (h : k < ds.length) : dig (ds.set k x) i = if i = k then x else dig ds i := by
 unfold dig
 simp only [List.getD_eq_getElem?_getD, List.getElem?_set]
 by_cases e : k = i
 ·subst e; simp [h]
 ·rw [if_neg e, if_neg (fun h => e h.symm)]
theorem val_take {B k : Nat} {ds : List Nat} (hk : k <= ds.length) (hz : ∀ i, k <= i -> dig ds i = 0) : val B (ds.take k) = val B ds := by
 unfold val
 rw [List.length_take, Nat.min_eq_left hk]
 obtain ⟨m, hm⟩ := Nat.exists_eq_add_of_le hk
 rw [hm, S_above B (dig ds) k m hz]
 exact S_congr B _ _ k (fun i hi => by rw [dig_take, if_pos hi])
theorem norm_take {B k : Nat} {ds : List Nat} (hB : 0 < B) (sm : ∀ i, dig ds i < B) (hk : k <= ds.length) (hl : k ≠ 0 -> dig ds (k - 1) ≠ 0) : Norm B (ds.take k) := by
 refine ⟨fun i => ?_, fun h => ?_⟩
 ·rw [dig_take]; have := sm i; split <;> omega
 ·rw [List.length_take, Nat.min_eq_left hk] at h ⊢
  rw [dig_take, if_pos (by omega)]
  exact hl h
theorem dig_replicate (n i : Nat) : dig (List.replicate n 0) i = 0 := by
 unfold dig
 simp only [List.getD_eq_getElem?_getD, List.getElem?_replicate]
 split <;> rfl
theorem add_step {B k c x y : Nat} {out : List Nat} {T U : Nat -> Nat} (hk : k < out.length) (h : S B (dig out) k + c * B ^ k = S B T k + S B U k) (hx : T k = x) (hy : U k = y) :
  S B (dig (out.set k ((x + y + c) % B))) (k + 1) + (x + y + c) / B * B ^ (k + 1) = S B T (k + 1) + S B U (k + 1) := by
 rw [S_succ, S_succ, S_succ, hx, hy]
 rw [S_congr B (dig (out.set k ((x + y + c) % B))) (dig out) k (fun i hi => by rw [dig_set _ _ _ _ hk, if_neg (by omega)])]
 rw [dig_set _ _ _ _ hk, if_pos rfl, Nat.pow_succ]
 have h1 := Nat.div_add_mod (x + y + c) B
 generalize (x + y + c) % B = r at *
 generalize (x + y + c) / B = q at *
 generalize B ^ k = p at *
 generalize S B (dig out) k = s1 at *
 generalize S B T k = s2 at *
 generalize S B U k = s3 at *
 grind
theorem no_carry {B n c s t : Nat} (h : s + c * B ^ n = t) (ht : t < B ^ n) : c = 0 := by
 rcases Nat.eq_zero_or_pos c with e | e
 ·exact e
 ·have : 1 * B ^ n <= c * B ^ n := Nat.mul_le_mul_right _ e
  omega
theorem small_set {B k x : Nat} {out : List Nat} (hk : k < out.length) (sm : ∀ i, dig out i < B) (hx : x < B) (i : Nat) : dig (out.set k x) i < B := by
 rw [dig_set _ _ _ _ hk]; have := sm i; split <;> omega
theorem shift_step {B k c x P : Nat} {out : List Nat} {T : Nat -> Nat} (hk : k < out.length) (h : S B (dig out) k + c * B ^ k = S B T k * P) (hx : T k = x) :
  S B (dig (out.set k ((x * P + c) % B))) (k + 1) + (x * P + c) / B * B ^ (k + 1) = S B T (k + 1) * P := by
 rw [S_succ, S_succ, hx]
 rw [S_congr B (dig (out.set k ((x * P + c) % B))) (dig out) k (fun i hi => by rw [dig_set _ _ _ _ hk, if_neg (by omega)])]
 rw [dig_set _ _ _ _ hk, if_pos rfl, Nat.pow_succ]
 have h1 := Nat.div_add_mod (x * P + c) B
 generalize (x * P + c) % B = r at *
 generalize (x * P + c) / B = q at *
 generalize B ^ k = p at *
 generalize S B (dig out) k = s1 at *
 generalize S B T k = s2 at *
 grind
open Go.Lib
end Go.Proofs.YtcjjekhecjmaeaaGreatDoor.Num
namespace Go.Proofs.YtcjjekhecjmaeaaGreatDoor
open Go.RowKit Num
def Dig (k : IntKind) (w : World) (v : Value) (ds : List Nat) : Prop :=
 ∃ a cap, v = .slice a ds.length cap /\ ds.length <= cap /\ ∀ i, i < ds.length -> ∃ b off, a = some ⟨b, off, none⟩ /\ b < w.heap.size /\ w.cell? ⟨b, off + i, none⟩ = some (.int k ((dig ds i : Nat) : Int))
theorem Dig.below {k : IntKind} {w w' : World} {v : Value} {ds : List Nat} (h : Dig k w v ds) (hb : Below w.heap.size w w') : Dig k w' v ds := by
 obtain ⟨a, cap, hv, hc, hi⟩ := h
 refine ⟨a, cap, hv, hc, fun i hl => ?_⟩
 obtain ⟨b, off, ha, hlt, hcell⟩ := hi i hl
 exact ⟨b, off, ha, Nat.lt_of_lt_of_le hlt hb.size, (hb.cell (p := ⟨b, off + i, none⟩) hlt).trans hcell⟩
theorem Dig.set {k : IntKind} {w : World} {v : Value} {ds : List Nat} (h : Dig k w v ds) {p : Addr} {u0 : Value} (hp : w.cell? p = some u0) (hu : ∀ n, u0 ≠ .int k n) (u : Value) : Dig k (w.setCell p u) v ds := by
 obtain ⟨a, cap, hv, hc, hi⟩ := h
 refine ⟨a, cap, hv, hc, fun i hl => ?_⟩
 obtain ⟨b, off, ha, hb, hcell⟩ := hi i hl
 refine ⟨b, off, ha, by simpa [World.setCell] using hb, ?_⟩
 rw [World.cell?_setCell_other _ _ _ _ (fun e => by subst e; rw [hp] at hcell; exact hu _ (Option.some.inj hcell))]
 exact hcell
theorem Dig.nil (k : IntKind) (w : World) : Dig k w (.slice none 0 0) [] := ⟨none, 0, rfl, Nat.le_refl _, fun i h => by simp at h⟩
def dcells (k : IntKind) (ds : List Nat) : List Value := ds.map fun d : Nat => Value.int k (d : Int)
theorem dcells_length (k : IntKind) (ds : List Nat) : (dcells k ds).length = ds.length := by simp [dcells]
theorem dcells_snoc (k : IntKind) (ds : List Nat) (x : Nat) : dcells k (ds ++ [x]) = dcells k ds ++ [Value.int k (x : Int)] := by simp [dcells]
theorem dcells_at (k : IntKind) (ds : List Nat) (i : Nat) (h : i < ds.length) : (dcells k ds)[i]? = some (.int k ((dig ds i : Nat) : Int)) := by
 unfold dcells dig
 simp [List.getD_eq_getElem?_getD, List.getElem?_eq_getElem h]
theorem dcells_set (k : IntKind) (ds : List Nat) (j x : Nat) : (dcells k ds).set j (.int k (x : Int)) = dcells k (ds.set j x) := by simp [dcells, List.map_set]
theorem dcells_made (k : IntKind) (n : Nat) : (madeCells #[Value.int k 0] n).toList = dcells k (List.replicate n 0) := by rw [toList_madeCells_one]; simp [dcells]
theorem owns_form {w : World} {base : Nat} {e : TypeId} {v : Value} {n : Nat} {xs : List Value} (h : w.ownsRow base e 1 v n xs) : ∃ a cap, v = .slice a n cap /\ n <= cap := by
 rcases h.2 with ⟨h1, h2⟩ | ⟨g, cap, cur, h1, _, _, h2, _⟩
 ·exact ⟨none, 0, by rw [h1, h2], by omega⟩
 ·exact ⟨_, cap, h1, h2⟩
theorem owns_set {k : IntKind} {w : World} {base g n cap : Nat} {e : TypeId} {ds : List Nat} (h : w.ownsRow base e 1 (.slice (some ⟨g, 0, none⟩) n cap) n (dcells k ds)) (j x : Nat) : (w.setCell ⟨g, j, none⟩ (.int k (x : Int))).ownsRow base e 1 (.slice (some ⟨g, 0, none⟩) n cap) n (dcells k (ds.set j x)) := by
 rw [<- dcells_set]; exact (h.stored j _).1
theorem owns_below {w w' : World} {base : Nat} {e : TypeId} {size : Nat} {v : Value} {n : Nat} {xs : List Value} (h : w.ownsRow base e size v n xs) (hb : Below w.heap.size w w') : w'.ownsRow base e size v n xs := by
 obtain ⟨h1, h2⟩ := h
 refine ⟨h1, ?_⟩
 rcases h2 with h2 | ⟨g, cap, cur, hv, hg, hh, r⟩
 ·exact Or.inl h2
 ·have hlt : g < w.heap.size := by
   by_cases hlt : g < w.heap.size
   ·exact hlt
   ·rw [Array.getElem?_eq_none (by omega)] at hh; simp at hh
  exact Or.inr ⟨g, cap, cur, hv, hg, by rw [hb.block g hlt]; exact hh, r⟩
theorem Dig.of_owns {k : IntKind} {w : World} {base : Nat} {e : TypeId} {v : Value} {ds : List Nat} (h : w.ownsRow base e 1 v ds.length (dcells k ds)) : Dig k w v ds := by
 rcases h.2 with ⟨h1, h2⟩ | ⟨g, cap, cur, h1, hb, hg, h2, _⟩
 ·obtain rfl : ds = [] := List.length_eq_zero_iff.1 h2
  rw [h1]; exact Dig.nil k w
 ·subst h1
  refine ⟨_, cap, rfl, h2, fun i hi => ⟨g, 0, rfl, ?_, ?_⟩⟩
  ·by_cases hlt : g < w.heap.size
   ·exact hlt
   ·rw [Array.getElem?_eq_none (by omega)] at hg; simp at hg
  ·rw [Nat.zero_add, h.cellAt i (by omega), dcells_at k ds i hi]
theorem cellOld {w : World} {b off : Nat} (o : Obj) (h : b < w.heap.size) : (w.alloc o).cell? ⟨b, off, none⟩ = w.cell? ⟨b, off, none⟩ :=
 ((Below.refl w.heap.size w).alloc (Nat.le_refl _) o).cell (p := ⟨b, off, none⟩) h
theorem cell1_0 (w : World) (A : Value) (t : TypeId) : (w.alloc (.cells #[A] t)).cell? ⟨w.heap.size, 0, none⟩ = some A := by simp
theorem frozen1_0 (w : World) (A : Value) (t : TypeId) : (w.alloc (.cells #[A] t)).frozen? ⟨w.heap.size, 0, none⟩ = false := by simp
theorem cell2_0 (w : World) (A : Value) (t : TypeId) (o : Obj) : ((w.alloc (.cells #[A] t)).alloc o).cell? ⟨w.heap.size, 0, none⟩ = some A := by
 rw [cellOld o (by simp), cell1_0]
theorem cell2_1 (w : World) (A : Value) (t : TypeId) (o : Obj) : ((w.alloc o).alloc (.cells #[A] t)).cell? ⟨w.heap.size + 1, 0, none⟩ = some A := by
 have := cell1_0 (w.alloc o) A t; rwa [World.size_alloc] at this
theorem frozen2_1 (w : World) (A : Value) (t : TypeId) (o : Obj) : ((w.alloc o).alloc (.cells #[A] t)).frozen? ⟨w.heap.size + 1, 0, none⟩ = false := by
 have := frozen1_0 (w.alloc o) A t; rwa [World.size_alloc] at this
theorem cell3_0 (w : World) (A : Value) (t : TypeId) (o p : Obj) : (((w.alloc (.cells #[A] t)).alloc o).alloc p).cell? ⟨w.heap.size, 0, none⟩ = some A := by
 rw [cellOld p (by simp; omega), cell2_0]
theorem cell3_1 (w : World) (A : Value) (t : TypeId) (o p : Obj) : (((w.alloc o).alloc (.cells #[A] t)).alloc p).cell? ⟨w.heap.size + 1, 0, none⟩ = some A := by
 rw [cellOld p (by simp), cell2_1]
theorem cell3_2 (w : World) (A : Value) (t : TypeId) (o p : Obj) : (((w.alloc o).alloc p).alloc (.cells #[A] t)).cell? ⟨w.heap.size + 1 + 1, 0, none⟩ = some A := by
 have := cell2_1 (w.alloc o) A t p; rwa [World.size_alloc] at this
theorem frozen3_2 (w : World) (A : Value) (t : TypeId) (o p : Obj) : (((w.alloc o).alloc p).alloc (.cells #[A] t)).frozen? ⟨w.heap.size + 1 + 1, 0, none⟩ = false := by
 have := frozen2_1 (w.alloc o) A t p; rwa [World.size_alloc] at this
theorem mixed : Tryz.prog.follows .mixedOrders = true := by kernel_rfl
theorem wu64 {x : Int} (h0 : 0 <= x) (h1 : x <= 18446744073709551615) : IntKind.u64.wrap x = x := IntWalk.u64_in x ⟨h0, h1⟩
theorem digit_any (v : Value) (ds : List Nat) (i : Nat) (w : World) (hd : Dig .u64 w v ds) (_hi : i <= 1000000) (_hl : ds.length <= 1000000) :
  Calls Tryz.prog 60 #[.agg #[v], .int .i64 (i : Int)] w fun e w' => e = .returned (.int .u64 ((dig ds i : Nat) : Int)) /\ Below w.heap.size w w' := by
 obtain ⟨a, cap, rfl, hc, hcell⟩ := hd
 by_cases hlt : i < ds.length
 ·obtain ⟨b, off, rfl, hb, hcl⟩ := hcell i hlt
  have hne : ¬ b = w.heap.size := by omega
  clear hcell
  generalize dig ds i = d at *
  go_enter Tryz.func60, Tryz.ntmps60
  go_wp2
  go_ret
  exact ⟨rfl, (Below.refl _ _).alloc (Nat.le_refl _) _⟩
 ·have hz := dig_beyond ds i (by omega)
  rw [hz]
  clear hcell hz
  go_enter Tryz.func60, Tryz.ntmps60
  go_wp2
  go_ret
  exact ⟨rfl, (Below.refl _ _).alloc (Nat.le_refl _) _⟩
end Go.Proofs.YtcjjekhecjmaeaaGreatDoor
namespace Go.Proofs.YtcjjekhecjmaeaaGreatDoor
open Go.RowKit Go.Extern.Stop Go.Stop Go.Extern
def Glob (w : World) : Prop := w.cell? ⟨0, 0, none⟩ = some (.iface 200 (.agg #[.pointer (some ⟨7, 32, none⟩)]))
theorem Glob.lt {w : World} (h : Glob w) : 0 < w.heap.size := by
 rcases Nat.lt_or_ge 0 w.heap.size with h1 | h1
 ·exact h1
 ·unfold Glob at h
  simp [World.cell?, Array.getElem?_eq_none h1] at h
theorem Glob.below {w w' : World} (h : Glob w) (hb : Below w.heap.size w w') : Glob w' := (hb.cell (p := ⟨0, 0, none⟩) h.lt).trans h
end Go.Proofs.YtcjjekhecjmaeaaGreatDoor
