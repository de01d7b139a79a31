/- A row of uints that is sorted in its place: what lies there, a swap. -/
import Derived.Test.YtbklgjmkdhinpaaGreatDoorFmSameU
import Derived.Test.YtbklgjmkdhinpaaGreatDoorFmRFamP
import Derived.Test.YtbklgjmkdhinpaaGreatDoorRows
import Derived.Test.YtbklgjmkdhinpaaGreatDoorChecked
import Derived.ProofKit
import Derived.SizedLaws
import Derived.OpenShut
import Derived.Sort.AssemblyPlain
import Derived.BigRegion
import Derived.BigQuiet
set_option maxHeartbeats 4000000
set_option maxRecDepth 100000
namespace Go.Proofs.YtbklgjmkdhinpaaGreatDoor.Fm
open Go.ChangeShapes Go.WideShapes Go.ChangeAt Go.RowKit Go.Maps Go.Proofs.YtbklgjmkdhinpaaGreatDoor.Bd
theorem small_len {L : List Nat} (h : L.Pairwise (· < ·)) (h6 : ∀ x ∈ L, x < 64) : L.length <= 64 := nodupLe 64 L (h.imp (fun h => by omega)) h6
end Go.Proofs.YtbklgjmkdhinpaaGreatDoor.Fm
namespace Go.Proofs.YtbklgjmkdhinpaaGreatDoor.Sr
open Go.RowKit Go.Maps Go.Proofs.YtbklgjmkdhinpaaGreatDoor.Bd Go.Proofs.YtbklgjmkdhinpaaGreatDoor.Fm Go.Sort
structure UR (w : World) (g : Nat) (d : Array Int) : Prop where
 lt : g < w.heap.size
 cell : ∀ j, j < d.size -> w.cell? ⟨g, j, none⟩ = some (.int .u64 d[j]!)
 froz : ∀ j, j < d.size -> w.frozen? ⟨g, j, none⟩ = false
abbrev KG (g : Nat) (w w' : World) : Prop := Kept (fun j => j = g) w w'
section
variable {w w' : World} {g : Nat} {d : Array Int}
theorem UR.set (h : UR w g d) {i : Nat} (hi : i < d.size) (x : Int) : UR (w.setCell ⟨g, i, none⟩ (.int .u64 x)) g (d.setIfInBounds i x) := by
 refine ⟨by simpa using h.lt, fun j hj => ?_, fun j hj => ?_⟩
 ·rw [Array.size_setIfInBounds] at hj
  by_cases e : j = i
  ·subst e
   rw [World.cell?_setCell_same _ _ _ (h.cell j hj), getElem!_set_same d j x hj]
  ·rw [World.cell?_setCell_other _ _ _ _ (by intro e2; injection e2 with _ e3; exact e e3.symm), getElem!_set_other d i j x e]
   exact h.cell j hj
 ·rw [Array.size_setIfInBounds] at hj
  rw [World.frozen?_setCell]; exact h.froz j hj
theorem UR.swp (h : UR w g d) {i j : Nat} {x y : Int} (hi : i < d.size) (hj : j < d.size) (hx : x = d[i]!) (hy : y = d[j]!) : UR ((w.setCell ⟨g, i, none⟩ (.int .u64 y)).setCell ⟨g, j, none⟩ (.int .u64 x)) g (swp d i j) := by
 subst hx hy
 exact (h.set hi _).set (by simpa using hj) _
theorem UR.drew (h : UR w g d) : UR w.drew g d := ⟨h.lt, h.cell, h.froz⟩
theorem UR.drewN (h : UR w g d) (m : Nat) : UR (w.drewN m) g d := ⟨h.lt, h.cell, h.froz⟩
theorem KG.drewN (h : KG g w w') (m : Nat) : KG g w (w'.drewN m) := h.trans (Kept.of_below (below_drewN (Below.refl _ _) m) _)
theorem lessU_q (x y : Int) (w : World) : Calls Tryz.prog 94 #[.int .u64 x, .int .u64 y] w fun e w' => e = .returned (.bool (decide (x < y))) /\ w' = w := (lessU_any x y w).mono fun _ _ h => ⟨h.1, h.2.symm⟩
theorem KG.swp (w : World) (i j : Nat) (u v : Value) : KG g w ((w.setCell ⟨g, i, none⟩ u).setCell ⟨g, j, none⟩ v) := (Kept.setCell (S := fun k => k = g) w ⟨g, i, none⟩ u rfl).trans (Kept.setCell (S := fun k => k = g) _ ⟨g, j, none⟩ v rfl)
theorem KG.drew (h : KG g w w') : KG g w w'.drew := h.trans (Kept.of_below (Below.refl _ _).drew _)
end
theorem swp_size (d : Array Int) (i j : Nat) : (swp d i j).size = d.size := by simp [swp]
theorem rev_any (g cap : Nat) (d : Array Int) (a b : Nat) (w : World) (h : UR w g d) (hab : a < b) (hb : b <= d.size) (hsz : d.size <= 1000000) :
  Calls Tryz.prog 92 #[.slice (some ⟨g, 0, none⟩) d.size cap, .int .i64 (a : Int), .int .i64 (b : Int)] w fun e w' => e = .returned (.tuple #[]) /\ UR w' g (reverseRange d a b) /\ KG g w w' := by
 have h0 := Lib.hid h
 obtain ⟨n, hn⟩ : ∃ n, n = d.size := ⟨_, rfl⟩
 rw [<- hn] at hb hsz ⊢
 have HN := Lib.hid hn
 have hw1 : IntKind.i64.wrap ((b : Int) - 1) = ((b - 1 : Nat) : Int) := by rw [IntKind.wrap_i64]; omega
 clear h hn
 go_enter Tryz.func92, Tryz.ntmps92
 go_wp2_with fail
 go_loopw [6, 7] (fun iV jV wr => ∃ (i j : Nat) (dk : Array Int), iV = .int .i64 (i : Int) /\ jV = .int .i64 (j : Int) /\ i <= b /\ j < b /\ dk.size = n /\ UR wr g dk /\ KG g w wr /\ reverseLoop i j dk = reverseLoop a (b - 1) d) (fun iV _ _ => b - (intOf iV).toNat)
 case atStart => exact ⟨a, b - 1, d, rfl, rfl, by omega, by omega, HN.out.symm, h0.out, Kept.refl _ _, rfl⟩
 case round =>
  obtain ⟨i, j, dk, rfl, rfl, hi, hj, hdk, hU, hK, heq⟩ := hrel
  by_cases hlt : i < j
  ·have i1 : (i : Int) < (j : Int) := by omega
   have cx := hU.cell i (by omega)
   have cy := hU.cell j (by omega)
   have fx := hU.froz i (by omega)
   have fy := hU.froz j (by omega)
   have HU : Hid (∀ x y, x = dk[i]! -> y = dk[j]! -> UR ((wr.setCell ⟨g, i, none⟩ (.int .u64 y)).setCell ⟨g, j, none⟩ (.int .u64 x)).drew g (swp dk i j)) := fun x y hx hy => (hU.swp (by omega) (by omega) hx hy).drew
   have HK : Hid (∀ u v, KG g w ((wr.setCell ⟨g, i, none⟩ u).setCell ⟨g, j, none⟩ v).drew) := fun u v => (hK.trans (KG.swp _ _ _ _ _)).drew
   have HQ : Hid (reverseLoop (i + 1) (j - 1) (swp dk i j) = reverseLoop a (b - 1) d) := by
    have e : reverseLoop i j dk = reverseLoop (i + 1) (j - 1) (swp dk i j) := by rw [reverseLoop, if_pos hlt]
    rw [<- e]; exact heq
   obtain ⟨x, hx⟩ : ∃ x, x = dk[i]! := ⟨_, rfl⟩
   obtain ⟨y, hy⟩ : ∃ y, y = dk[j]! := ⟨_, rfl⟩
   have HU2 := Lib.hid (HU.out x y hx hy)
   rw [<- hx] at cx
   rw [<- hy] at cy
   have hne : ¬ i = j := by omega
   have w2 : IntKind.i64.wrap ((i : Int) + 1) = ((i + 1 : Nat) : Int) := by rw [IntKind.wrap_i64]; omega
   have w3 : IntKind.i64.wrap ((j : Int) - 1) = ((j - 1 : Nat) : Int) := by rw [IntKind.wrap_i64]; omega
   have i2 : (i : Int) < (n : Int) := by omega
   have i3 : (j : Int) < (n : Int) := by omega
   have hds : Hid ((swp dk i j).size = n) := by show _ = _; rw [swp_size, hdk]
   clear hU hK HU heq hx hy hdk
   go_wp2_with fail
   go_region
   go_wp2
   go_roundw
   case rel => exact ⟨i + 1, j - 1, swp dk i j, by go_num, rfl, by omega, by omega, hds.out, HU2.out, HK.out _ _, HQ.out⟩
   case measure => simp [intOf]; omega
  ·have HD := Lib.hid heq
   clear heq
   have i1 : ¬ (i : Int) < (j : Int) := by omega
   go_wp2
   refine bodyPost_end (v := .tuple #[]) (by simp [results, Tryz.results92, go_sem]) rfl ⟨rfl, ?_, hK⟩
   have := HD.out
   rw [reverseLoop, if_neg hlt] at this
   rw [reverseRange, <- this]; exact hU
end Go.Proofs.YtbklgjmkdhinpaaGreatDoor.Sr
