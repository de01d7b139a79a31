/- Ints as keys of maps. -/
import Derived.Test.YtkpjipohajplgaaGreatDoorErAs
import Derived.Test.YtkpjipohajplgaaGreatDoorCards
import Derived.Test.YtkpjipohajplgaaGreatDoorTie
import Derived.ProofKit
import Derived.OpenShut
import Derived.Deep.DeepHandedRow
import Derived.LaidHandle
import Derived.LaidSub
import Derived.Test.YtkpjipohajplgaaGreatDoorProg
import Derived.Laws.Bits64b
import Derived.Laws.Bits128
import Derived.Test.YtkpjipohajplgaaGreatDoorFmSem
set_option maxHeartbeats 1000000
set_option maxRecDepth 100000
namespace Go.Proofs.YtkpjipohajplgaaGreatDoor
open Go.RowKit Go.Extern.Stop Go.Stop Go.Extern Go.Proofs.YtkpjipohajplgaaGreatDoor.Bd
def Glob (w : World) : Prop := w.cell? ⟨0, 0, none⟩ = some (.iface 161 (.agg #[.pointer (some ⟨1, 31, none⟩)]))
theorem Glob.lt {w : World} (h : Glob w) : 0 < w.heap.size := by
 rcases Nat.lt_or_ge 0 w.heap.size with h1 | h1
 ·exact h1
 ·unfold Glob at h
  simp [World.cell?, Array.getElem?_eq_none h1] at h
theorem Glob.below {w w' : World} (h : Glob w) (hb : Below w.heap.size w w') : Glob w' := (hb.cell (p := ⟨0, 0, none⟩) h.lt).trans h
theorem tell_errno (n : Int) (w : World) (hg : Glob w) :
  Calls Tryz.prog 49 #[.iface 23 (.int .i64 n)] w fun e w' => e = .returned (.int .i64 n) /\ Below w.heap.size w w' := by
 have H := Errs.as_hit n ⟨w.heap.size, 0, none⟩ (.int .i64 0) (w.alloc (.cells #[.int .i64 0] 23)) (hg.below ((Below.refl _ _).alloc (Nat.le_refl _) _)) (cell1_0 _ _ _) (frozen1_0 _ _ _)
 go_enter Tryz.func49, Tryz.ntmps49
 go_wp2_with fail
 refine H.mono ?_
 rintro e w' ⟨rfl, hw⟩
 have hc : w'.cell? ⟨w.heap.size, 0, none⟩ = some (.int .i64 n) := by
  rw [hw]
  refine World.cell?_setCell_same' _ _ _ ?_
  rw [World.cell?_alloc_lt _ _ ⟨w.heap.size, 0, none⟩ (by simp; omega), World.cell?_alloc_lt _ _ ⟨w.heap.size, 0, none⟩ (by simp; omega), World.cell?_alloc_lt _ _ ⟨w.heap.size, 0, none⟩ (by simp; omega), World.cell?_alloc_lt _ _ ⟨w.heap.size, 0, none⟩ (by simp), cell1_0]
  rfl
 have hb : Below w.heap.size w w' := by
  rw [hw]
  exact ((((((Below.refl _ _).alloc (Nat.le_refl _) _).alloc (by simp) _).alloc (by simp; omega) _).alloc (by simp; omega) _).alloc (by simp; omega) _).setCell (Nat.le_refl _) _
 clear H hw
 go_wp2
 go_ret
 exact ⟨rfl, hb⟩
theorem tell_nil (w : World) : Calls Tryz.prog 49 #[.nilIface] w fun e w' => e = .returned (.int .i64 0) /\ w = w' := by
 go_enter Tryz.func49, Tryz.ntmps49
 go_wp2
 go_ret
 exact ⟨rfl, rfl⟩
end Go.Proofs.YtkpjipohajplgaaGreatDoor
namespace Go.Proofs.YtkpjipohajplgaaGreatDoor
open Go.ChangeShapes Go.WideShapes Go.ChangeAt Go.RowKit
theorem own : ownKnob Tryz.prog.godebug = none := by kernel_rfl
theorem gErr : Tryz.prog.globalNamed "errors.errorType" = some 0 := by kernel_rfl
theorem rtypeIs : (Tryz.prog.cutTypes.find? (·.1 == "internal/reflectlite.rtype")).map (·.2) = some 161 := by kernel_rfl
theorem oneRow : ((List.range 200).filter fun t => Tryz.prog.rowNamed t [101, 114, 114, 111, 114]) = [31] := by kernel_rfl
theorem typesSize : Tryz.prog.types.size = 200 := by kernel_rfl
theorem glob_of {W : World} {l : List (String × DataW Unit)} (h : laidMetH Tryz.prog l W) (hk : (l.filter fun x => x.1 == "errors.errorType") = [("errors.errorType", Rows.laid_errors_errorType)]) : Glob W := by
 have h2 := h.filter fun x => x.1 == "errors.errorType"
 rw [hk] at h2
 have h3 : laidMet Tryz.prog [] W /\ handlesMet Tryz.prog [("errors.errorType", Rows.laid_errors_errorType)] W := h2
 obtain ⟨name, u, ty, e1, e2, e3, e4, e5⟩ := h3.2 _ (List.mem_singleton.2 rfl)
 have en : name = [101, 114, 114, 111, 114] := (Option.some.inj e1).symm
 subst en
 obtain rfl := Option.some.inj (rtypeIs.symm.trans e2)
 have hm : ty ∈ (List.range 200).filter fun t => Tryz.prog.rowNamed t [101, 114, 114, 111, 114] := List.mem_filter.2 ⟨List.mem_range.2 (by rw [<- typesSize]; exact e3), e4⟩
 rw [oneRow] at hm
 obtain rfl := List.mem_singleton.1 hm
 have hh : typeHandle Tryz.prog 31 = .pointer (some ⟨1, 31, none⟩) := by kernel_rfl
 rw [hh] at e5
 have h6 := World.var?_cell gErr e5 0
 unfold Glob; simpa using h6
def refill (cs : Array Value) : Obj -> Obj
 | .cells _ t frozen => .cells cs t frozen
 | o => o
noncomputable def laidWorld (os : Os) : World :=
 { World.holding Tryz.prog os ⟨#[], #[], []⟩ with heap := (World.holding Tryz.prog os ⟨#[], #[], []⟩).heap.modify 0 (refill #[.iface 161 (.agg #[.pointer (some ⟨1, 31, none⟩)])]) }
end Go.Proofs.YtkpjipohajplgaaGreatDoor
namespace Go.Proofs.YtkpjipohajplgaaGreatDoor
def b8 (x : Nat) : Nat := ((List.range 8).filter fun i => x.testBit i).length
def oc1 (M x : Nat) : Nat := ((x / 2) &&& M) + (x &&& M)
def oc2 (M x : Nat) : Nat := ((x / 4) &&& M) + (x &&& M)
def oc3 (M x : Nat) : Nat := (x / 16 + x) &&& M
theorem and_split (k a r c M : Nat) (ha : a < 2 ^ k) (hc : c < 2 ^ k) : (a + 2 ^ k * r) &&& (c + 2 ^ k * M) = (a &&& c) + 2 ^ k * (r &&& M) := by
 apply Nat.eq_of_testBit_eq
 intro i
 have hac : a &&& c < 2 ^ k := Nat.lt_of_le_of_lt Nat.and_le_left ha
 rw [Nat.testBit_and, Nat.add_comm a, Nat.add_comm c, Nat.add_comm (a &&& c), Nat.testBit_two_pow_mul_add _ ha, Nat.testBit_two_pow_mul_add _ hc, Nat.testBit_two_pow_mul_add _ hac]
 split
 ·rw [Nat.testBit_and]
 ·rw [Nat.testBit_and]
theorem oc1_8 : ∀ a : Fin 256, ∀ b : Fin 2, ((a.val + 256 * b.val) / 2 &&& 85) = (a.val / 2 &&& 85) /\ oc1 85 a.val < 256 := by decide +kernel
theorem oc2_8 : ∀ a : Fin 256, ∀ b : Fin 4, ((a.val + 256 * b.val) / 4 % 256 &&& 51) = (a.val / 4 &&& 51) := by decide +kernel
theorem oc_8 : ∀ a : Fin 256, oc3 15 (oc2 51 (oc1 85 a.val)) = b8 a.val /\ oc1 85 a.val < 256 /\ oc2 51 (oc1 85 a.val) < 256 /\ (oc2 51 (oc1 85 a.val)) % 16 <= 4 /\ (oc2 51 (oc1 85 a.val)) / 16 <= 4 /\ b8 a.val <= 8 := by decide +kernel
theorem oc3_8 : ∀ p : Fin 5, ∀ q : Fin 5, ∀ b : Fin 16, ((p.val + 16 * q.val) / 16 + b.val * 16 + (p.val + 16 * q.val)) % 256 &&& 15 = (q.val + p.val) /\ ((p.val + 16 * q.val) / 16 + (p.val + 16 * q.val)) &&& 15 = q.val + p.val := by decide +kernel
end Go.Proofs.YtkpjipohajplgaaGreatDoor
namespace Go.Proofs.YtkpjipohajplgaaGreatDoor
theorem oc1_split (a r M : Nat) (ha : a < 256) : oc1 (85 + 256 * M) (a + 256 * r) = oc1 85 a + 256 * oc1 M r := by
 unfold oc1
 have h1 : (a + 256 * r) / 2 = (a + 256 * (r % 2)) / 2 + 2 ^ 8 * (r / 2) := by omega
 have h2 : (a + 256 * (r % 2)) / 2 < 2 ^ 8 := by omega
 have h3 := (oc1_8 ⟨a, ha⟩ ⟨r % 2, by omega⟩).1
 have s1 := and_split 8 ((a + 256 * (r % 2)) / 2) (r / 2) 85 M h2 (by decide)
 have s2 := and_split 8 a r 85 M ha (by decide)
 simp only at h3
 rw [h1]
 rw [h3] at s1
 simp only [Nat.reducePow] at s1 s2 ⊢
 rw [s1, s2]
 omega
theorem oc2_split (a r M : Nat) (ha : a < 256) : oc2 (51 + 256 * M) (a + 256 * r) = oc2 51 a + 256 * oc2 M r := by
 unfold oc2
 have h1 : (a + 256 * r) / 4 = (a + 256 * (r % 4)) / 4 + 2 ^ 8 * (r / 4) := by omega
 have h2 : (a + 256 * (r % 4)) / 4 < 2 ^ 8 := by omega
 have h3 := (oc2_8 ⟨a, ha⟩ ⟨r % 4, by omega⟩)
 have s1 := and_split 8 ((a + 256 * (r % 4)) / 4) (r / 4) 51 M h2 (by decide)
 have s2 := and_split 8 a r 51 M ha (by decide)
 simp only at h3
 rw [Nat.mod_eq_of_lt (show (a + 256 * (r % 4)) / 4 < 256 by omega)] at h3
 rw [h1]
 rw [h3] at s1
 simp only [Nat.reducePow] at s1 s2 ⊢
 rw [s1, s2]
 omega
theorem oc3_split (a r M : Nat) (ha : a < 256) (h1 : a % 16 <= 4) (h2 : a / 16 <= 4) (h3 : r % 16 <= 4) : oc3 (15 + 256 * M) (a + 256 * r) = oc3 15 a + 256 * oc3 M r := by
 unfold oc3
 have e : (a + 256 * r) / 16 + (a + 256 * r) = (a / 16 + (r % 16) * 16 + a) + 2 ^ 8 * (r / 16 + r) := by omega
 have hl : a / 16 + (r % 16) * 16 + a < 2 ^ 8 := by omega
 have s := and_split 8 (a / 16 + (r % 16) * 16 + a) (r / 16 + r) 15 M hl (by decide)
 have h := oc3_8 ⟨a % 16, by omega⟩ ⟨a / 16, by omega⟩ ⟨r % 16, by omega⟩
 simp only at h
 rw [show a % 16 + 16 * (a / 16) = a by omega] at h
 rw [Nat.mod_eq_of_lt (show a / 16 + (r % 16) * 16 + a < 256 by omega)] at h
 rw [e]
 simp only [Nat.reducePow] at s ⊢
 rw [s, h.1, h.2]
end Go.Proofs.YtkpjipohajplgaaGreatDoor
namespace Go.Proofs.YtkpjipohajplgaaGreatDoor
def popF : Nat -> Nat -> Nat
 | 0, _ => 0
 | d + 1, x => x % 2 + popF d (x / 2)
def pop (x : Nat) : Nat := popF 64 x
theorem popF_zero : ∀ d, popF d 0 = 0
 | 0 => rfl
 | d + 1 => by unfold popF; rw [Nat.zero_div, popF_zero d]
theorem popF_le : ∀ d x, popF d x <= d
 | 0, _ => Nat.le_refl _
 | d + 1, x => by
  have := popF_le d (x / 2)
  unfold popF; omega
theorem popF_byte (d a r : Nat) (ha : a < 256) : popF (d + 8) (a + 256 * r) = popF 8 a + popF d r := by
 simp only [popF]
 have e : (a + 256 * r) / 2 / 2 / 2 / 2 / 2 / 2 / 2 / 2 = r := by omega
 rw [e]
 omega
theorem b8_pop : ∀ a : Fin 256, b8 a.val = popF 8 a.val := by decide +kernel
def valB : List Nat -> Nat
 | [] => 0
 | a :: l => a + 256 * valB l
def repB (m : Nat) : Nat -> Nat
 | 0 => 0
 | k + 1 => m + 256 * repB m k
theorem valB_mod16 : ∀ (l : List Nat), (∀ a ∈ l, a % 16 <= 4) -> valB l % 16 <= 4
 | [], _ => by simp [valB]
 | a :: l, h => by
  have := h a (List.mem_cons_self ..)
  unfold valB; omega
theorem oc1_list : ∀ (l : List Nat), (∀ a ∈ l, a < 256) -> oc1 (repB 85 l.length) (valB l) = valB (l.map (oc1 85))
 | [], _ => by simp [repB, valB, oc1]
 | a :: l, h => by
  rw [List.length_cons, List.map_cons]
  unfold repB valB
  rw [oc1_split _ _ _ (h a (List.mem_cons_self ..)), oc1_list l (fun b hb => h b (List.mem_cons_of_mem _ hb))]
theorem oc2_list : ∀ (l : List Nat), (∀ a ∈ l, a < 256) -> oc2 (repB 51 l.length) (valB l) = valB (l.map (oc2 51))
 | [], _ => by simp [repB, valB, oc2]
 | a :: l, h => by
  rw [List.length_cons, List.map_cons]
  unfold repB valB
  rw [oc2_split _ _ _ (h a (List.mem_cons_self ..)), oc2_list l (fun b hb => h b (List.mem_cons_of_mem _ hb))]
theorem oc3_list : ∀ (l : List Nat), (∀ a ∈ l, a < 256 /\ a % 16 <= 4 /\ a / 16 <= 4) -> oc3 (repB 15 l.length) (valB l) = valB (l.map (oc3 15))
 | [], _ => by simp [repB, valB, oc3]
 | a :: l, h => by
  obtain ⟨h1, h2, h3⟩ := h a (List.mem_cons_self ..)
  rw [List.length_cons, List.map_cons]
  unfold repB valB
  rw [oc3_split _ _ _ h1 h2 h3 (valB_mod16 l (fun b hb => (h b (List.mem_cons_of_mem _ hb)).2.1)), oc3_list l (fun b hb => h b (List.mem_cons_of_mem _ hb))]
theorem pop_list : ∀ (l : List Nat), (∀ a ∈ l, a < 256) -> popF (8 * l.length) (valB l) = (l.map b8).sum
 | [], _ => rfl
 | a :: l, h => by
  have ha := h a (List.mem_cons_self ..)
  rw [List.length_cons, List.map_cons, List.sum_cons, show 8 * (l.length + 1) = 8 * l.length + 8 by omega]
  unfold valB
  rw [popF_byte _ _ _ ha, pop_list l (fun b hb => h b (List.mem_cons_of_mem _ hb)), b8_pop ⟨a, ha⟩]
theorem valB_lt : ∀ (l : List Nat), (∀ a ∈ l, a < 256) -> valB l < 256 ^ l.length
 | [], _ => by simp [valB]
 | a :: l, h => by
  have ha := h a (List.mem_cons_self ..)
  have := valB_lt l (fun b hb => h b (List.mem_cons_of_mem _ hb))
  rw [List.length_cons, Nat.pow_succ]
  unfold valB; omega
def bytesOf : Nat -> Nat -> List Nat
 | 0, _ => []
 | k + 1, x => x % 256 :: bytesOf k (x / 256)
theorem bytesOf_len : ∀ k x, (bytesOf k x).length = k
 | 0, _ => rfl
 | k + 1, x => by unfold bytesOf; rw [List.length_cons, bytesOf_len]
theorem bytesOf_lt : ∀ k x, ∀ a ∈ bytesOf k x, a < 256
 | 0, _, a, h => by simp [bytesOf] at h
 | k + 1, x, a, h => by
  unfold bytesOf at h
  rcases List.mem_cons.1 h with e | e
  ·omega
  ·exact bytesOf_lt k _ a e
theorem bytesOf_val : ∀ k x, x < 256 ^ k -> valB (bytesOf k x) = x
 | 0, x, h => by simp at h; simp [bytesOf, valB, h]
 | k + 1, x, h => by
  unfold bytesOf valB
  rw [bytesOf_val k (x / 256) (by rw [Nat.pow_succ] at h; omega)]
  omega
theorem eight : ∀ (m : List Nat), m.length = 8 -> (∀ a ∈ m, a <= 8) -> ∃ p0 p1 p2 p3 p4 p5 p6 p7, p0 <= 8 /\ p1 <= 8 /\ p2 <= 8 /\ p3 <= 8 /\ p4 <= 8 /\ p5 <= 8 /\ p6 <= 8 /\ p7 <= 8 /\ valB m = p0 + 256 * (p1 + 256 * (p2 + 256 * (p3 + 256 * (p4 + 256 * (p5 + 256 * (p6 + 256 * p7)))))) /\ p0 + p1 + p2 + p3 + p4 + p5 + p6 + p7 = m.sum
 | [m0, m1, m2, m3, m4, m5, m6, m7], _, h => by
  refine ⟨m0, m1, m2, m3, m4, m5, m6, m7, h m0 (by simp), h m1 (by simp), h m2 (by simp), h m3 (by simp), h m4 (by simp), h m5 (by simp), h m6 (by simp), h m7 (by simp), by simp only [valB]; omega, ?_⟩
  simp only [List.sum_cons, List.sum_nil]
  omega
theorem pop_math (x : Nat) (hx : x < 18446744073709551616) : ∃ y1 y2 y3 : Nat, oc1 6148914691236517205 x = y1 /\ y1 < 18446744073709551616 /\ oc2 3689348814741910323 y1 = y2 /\ y2 < 4919131752989213765 /\ oc3 1085102592571150095 y2 = y3 /\
  ∃ p0 p1 p2 p3 p4 p5 p6 p7, p0 <= 8 /\ p1 <= 8 /\ p2 <= 8 /\ p3 <= 8 /\ p4 <= 8 /\ p5 <= 8 /\ p6 <= 8 /\ p7 <= 8 /\ y3 = p0 + 256 * (p1 + 256 * (p2 + 256 * (p3 + 256 * (p4 + 256 * (p5 + 256 * (p6 + 256 * p7)))))) /\ p0 + p1 + p2 + p3 + p4 + p5 + p6 + p7 = pop x := by
 have hb := bytesOf_lt 8 x
 have hv := bytesOf_val 8 x hx
 have hl := bytesOf_len 8 x
 generalize bytesOf 8 x = l at *
 subst hv
 have A : ∀ a ∈ l, oc3 15 (oc2 51 (oc1 85 a)) = b8 a /\ oc1 85 a < 256 /\ oc2 51 (oc1 85 a) < 256 /\ (oc2 51 (oc1 85 a)) % 16 <= 4 /\ (oc2 51 (oc1 85 a)) / 16 <= 4 /\ b8 a <= 8 := fun a ha => oc_8 ⟨a, hb a ha⟩
 have e1 : oc1 6148914691236517205 (valB l) = valB (l.map (oc1 85)) := by
  have := oc1_list l hb
  rw [hl] at this; exact this
 have h1 : ∀ a ∈ l.map (oc1 85), a < 256 := fun a ha => by
  obtain ⟨b, hb, rfl⟩ := List.mem_map.1 ha
  exact (A b hb).2.1
 have e2 : oc2 3689348814741910323 (valB (l.map (oc1 85))) = valB ((l.map (oc1 85)).map (oc2 51)) := by
  have := oc2_list _ h1
  rw [List.length_map, hl] at this; exact this
 have h2 : ∀ a ∈ (l.map (oc1 85)).map (oc2 51), a < 256 /\ a % 16 <= 4 /\ a / 16 <= 4 := fun a ha => by
  obtain ⟨b, hb, rfl⟩ := List.mem_map.1 ha
  obtain ⟨c, hc, rfl⟩ := List.mem_map.1 hb
  exact ⟨(A c hc).2.2.1, (A c hc).2.2.2.1, (A c hc).2.2.2.2.1⟩
 have e3 : oc3 1085102592571150095 (valB ((l.map (oc1 85)).map (oc2 51))) = valB (((l.map (oc1 85)).map (oc2 51)).map (oc3 15)) := by
  have := oc3_list _ h2
  rw [List.length_map, List.length_map, hl] at this; exact this
 have e4 : ((l.map (oc1 85)).map (oc2 51)).map (oc3 15) = l.map b8 := by
  rw [List.map_map, List.map_map]
  exact List.map_congr_left fun a ha => (A a ha).1
 have hp := pop_list l hb
 rw [hl] at hp
 have b1 := valB_lt _ h1
 rw [List.length_map, hl] at b1
 refine ⟨_, _, _, e1, b1, e2, ?_, e3, ?_⟩
 ·have hl2 : ((l.map (oc1 85)).map (oc2 51)).length = 8 := by rw [List.length_map, List.length_map, hl]
  generalize (l.map (oc1 85)).map (oc2 51) = m at *
  match m, hl2, h2 with
  | [m0, m1, m2, m3, m4, m5, m6, m7], _, h2 =>
   have k0 := h2 m0 (by simp)
   have k1 := h2 m1 (by simp)
   have k2 := h2 m2 (by simp)
   have k3 := h2 m3 (by simp)
   have k4 := h2 m4 (by simp)
   have k5 := h2 m5 (by simp)
   have k6 := h2 m6 (by simp)
   have k7 := h2 m7 (by simp)
   simp only [valB]
   omega
 ·rw [e4]
  have h8 : ∀ a ∈ l.map b8, a <= 8 := fun a ha => by
   obtain ⟨b, hb, rfl⟩ := List.mem_map.1 ha
   exact (A b hb).2.2.2.2.2
  have hs : pop (valB l) = (l.map b8).sum := hp
  rw [hs]
  exact eight (l.map b8) (by rw [List.length_map, hl]) h8
end Go.Proofs.YtkpjipohajplgaaGreatDoor
namespace Go.Proofs.YtkpjipohajplgaaGreatDoor.Bd
open Go.RowKit Go.Maps
structure Tri (w : World) (bk : Nat) (a b c : Int) : Prop where
 lt : bk < w.heap.size
 c0 : w.cell? ⟨bk, 0, none⟩ = some (.int .i64 a)
 c1 : w.cell? ⟨bk, 1, none⟩ = some (.int .i64 b)
 c2 : w.cell? ⟨bk, 2, none⟩ = some (.int .i64 c)
 fz : ∀ i, w.frozen? ⟨bk, i, none⟩ = false
section
variable {w w' : World} {bk bk' i : Nat} {a b c : Int}
theorem Tri.kept {S : Nat -> Prop} (h : Tri w bk a b c) (hk : Kept S w w') (hn : ¬ S bk) : Tri w' bk a b c :=
 ⟨Nat.lt_of_lt_of_le h.lt hk.size, (hk.cell (a := ⟨bk, 0, none⟩) h.lt hn).trans h.c0, (hk.cell (a := ⟨bk, 1, none⟩) h.lt hn).trans h.c1, (hk.cell (a := ⟨bk, 2, none⟩) h.lt hn).trans h.c2, fun i => (hk.frozen (a := ⟨bk, i, none⟩) h.lt hn).trans (h.fz i)⟩
theorem Tri.new (h : Tri w bk a b c) (hb : Below w.heap.size w w') : Tri w' bk a b c := h.kept (Kept.of_below hb (fun _ => False)) (fun h => h)
theorem Tri.other (h : Tri w bk a b c) (u : Value) (hne : bk ≠ bk') : Tri (w.setCell ⟨bk', i, none⟩ u) bk a b c := h.kept (Kept.setCell (S := fun j => j = bk') w ⟨bk', i, none⟩ u rfl) hne
theorem tri_new (w : World) (a b c : Int) (t : TypeId) : Tri (w.alloc (.cells #[.int .i64 a, .int .i64 b, .int .i64 c] t)) w.heap.size a b c := by
 obtain ⟨x0, x1, x2, x3⟩ := cell3 w (.int .i64 a) (.int .i64 b) (.int .i64 c) t
 exact ⟨by simp, x0, x1, x2, x3⟩
end
end Go.Proofs.YtkpjipohajplgaaGreatDoor.Bd
namespace Go.Proofs.YtkpjipohajplgaaGreatDoor.Bd
open Go.RowKit Go.Maps
theorem lawI : Keyed Tryz.prog 3 := int_keyed Tryz.underlying3
theorem keyI {x : Int} (h : I64 x) : keyOf Tryz.prog 3 (.int .i64 x) = some (.int .i64 x) := keyOf_int_mk Tryz.underlying3 (wf_of h)
end Go.Proofs.YtkpjipohajplgaaGreatDoor.Bd
