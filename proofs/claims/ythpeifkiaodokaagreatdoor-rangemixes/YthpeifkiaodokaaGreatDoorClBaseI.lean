/- Clauses in memory; the first int of which something is true. -/
import Derived.Test.YthpeifkiaodokaaGreatDoorCnBase
import Derived.Deep.RegionHeld3
import Derived.Lib.Hide
import Derived.Deep.Slices
namespace Go.Proofs.YthpeifkiaodokaaGreatDoor
open Go.RowKit

def I64 (x : Int) : Prop := -9223372036854775808 ≤ x ∧ x ≤ 9223372036854775807

theorem below_new (w : World) (o : Obj) : Below w.heap.size w (w.alloc o) := (Below.refl _ _).alloc (Nat.le_refl _) _
theorem addr_block (a : Addr) (i : Nat) : (a.add i).block = a.block := by unfold Addr.add; split <;> rfl

/-- Ints that lie in memory from an address on. -/
def IntsIn (w : World) (a : Option Addr) (xs : List Int) : Prop :=
  ∀ i, i < xs.length → ∃ ad : Addr, a = some ad ∧ ad.block < w.heap.size ∧ w.cell? (ad.add i) = some (.int .i64 (xs.getD i 0))
theorem IntsIn.below {w w' : World} {a : Option Addr} {xs : List Int} (h : IntsIn w a xs) (hb : Below w.heap.size w w') : IntsIn w' a xs := by
  intro i hi
  obtain ⟨ad, ha, hl, hc⟩ := h i hi
  exact ⟨ad, ha, Nat.lt_of_lt_of_le hl hb.size, (hb.cell (by rw [addr_block]; exact hl)).trans hc⟩
theorem IntsIn.nil (w : World) (a : Option Addr) : IntsIn w a [] := fun i hi => by simp at hi

/-- Clauses that lie in memory from an address on. -/
def ClsIn (w : World) (a : Option Addr) (l : List (List Int)) : Prop :=
  ∀ i, i < l.length → ∃ (ad : Addr) (a' : Option Addr) (cap : Nat), a = some ad ∧ ad.block < w.heap.size ∧ w.cell? (ad.add i) = some (.slice a' (l.getD i []).length cap) ∧ (l.getD i []).length ≤ cap ∧ cap ≤ 9223372036854775807 ∧ IntsIn w a' (l.getD i [])
theorem ClsIn.below {w w' : World} {a : Option Addr} {l : List (List Int)} (h : ClsIn w a l) (hb : Below w.heap.size w w') : ClsIn w' a l := by
  intro i hi
  obtain ⟨ad, a', cap, ha, hl, hc, h1, h2, h3⟩ := h i hi
  exact ⟨ad, a', cap, ha, Nat.lt_of_lt_of_le hl hb.size, (hb.cell (by rw [addr_block]; exact hl)).trans hc, h1, h2, h3.below hb⟩

def LitsOk (l : List (List Int)) : Prop := ∀ c ∈ l, ∀ x ∈ c, I64 x
theorem getD_mem {α : Type} {l : List α} {i : Nat} {d : α} (h : i < l.length) : l.getD i d ∈ l := by
  rw [List.getD_eq_getElem?_getD, List.getElem?_eq_getElem h]; exact List.getElem_mem h

/-- The first place of which p is true; -1: none. -/
def idxF {α : Type} (p : α → Bool) (xs : List α) : Int := match xs.findIdx? p with | some i => (i : Int) | none => -1

theorem idxF_hit {α : Type} {p : α → Bool} {xs : List α} {k : Nat} {d : α} (h0 : ∀ j, j < k → p (xs.getD j d) = false) (hk : k < xs.length) (h1 : p (xs.getD k d) = true) : idxF p xs = (k : Int) := by
  have : xs.findIdx? p = some k := by
    rw [List.findIdx?_eq_some_iff_getElem]
    refine ⟨hk, ?_, fun j hj => ?_⟩
    · rw [List.getD_eq_getElem?_getD, List.getElem?_eq_getElem hk] at h1; exact h1
    · have := h0 j hj
      rw [List.getD_eq_getElem?_getD, List.getElem?_eq_getElem (by omega)] at this
      simpa using this
  simp [idxF, this]
theorem idxF_none {α : Type} {p : α → Bool} {xs : List α} {d : α} (h0 : ∀ j, j < xs.length → p (xs.getD j d) = false) : idxF p xs = -1 := by
  have : xs.findIdx? p = none := by
    rw [List.findIdx?_eq_none_iff]
    intro x hx
    obtain ⟨j, hj, rfl⟩ := List.getElem_of_mem hx
    have := h0 j hj
    rw [List.getD_eq_getElem?_getD, List.getElem?_eq_getElem hj] at this
    simpa using this
  simp [idxF, this]
theorem idxF_any {α : Type} (p : α → Bool) (xs : List α) : decide (0 ≤ idxF p xs) = xs.any p := by
  rw [Bool.eq_iff_iff]
  simp only [decide_eq_true_eq]
  unfold idxF
  cases h : xs.findIdx? p with
  | none =>
    rw [List.findIdx?_eq_none_iff] at h
    simp only [List.any_eq_true]
    constructor
    · intro h; omega
    · rintro ⟨x, hx, hp⟩; rw [h x hx] at hp; cases hp
  | some i =>
    rw [List.findIdx?_eq_some_iff_getElem] at h
    obtain ⟨hi, hp, -⟩ := h
    simp only [List.any_eq_true]
    exact ⟨fun _ => ⟨_, List.getElem_mem hi, hp⟩, fun _ => by omega⟩

set_option maxRecDepth 100000 in
set_option maxHeartbeats 1000000 in
theorem ix_ints (F : Nat) (cb : Array Value) (p : Int → Bool) (xs : List Int) (a : Option Addr) (cap : Nat) (w : World) (hm : xs.length ≤ 9223372036854775807)
    (hent : ∀ args w, (callFunc F args).run Tryz.prog w = .ok (.enter F args) w) (hI : IntsIn w a xs)
    (hf : ∀ W i, Below w.heap.size w W → i < xs.length → Calls Tryz.prog F (#[.int .i64 (xs.getD i 0)] ++ cb) W fun e w' => e = .returned (.bool (p (xs.getD i 0))) ∧ Below W.heap.size W w') :
    Calls Tryz.prog 169 #[.slice a xs.length cap, .func (.func F) #[] cb] w fun e w' => e = .returned (.int .i64 (idxF p xs)) ∧ Below w.heap.size w w' := by
  have HF := Lib.hid hf
  have HI := Lib.hid hI
  clear hf hI
  go_enter Tryz.func169, Tryz.ntmps169
  go_wp2_with fail
  go_loopw [8] (fun kV wr => ∃ k : Nat, k ≤ xs.length ∧ kV = .int .i64 (k : Int) ∧ (∀ j, j < k → p (xs.getD j 0) = false) ∧ Below w.heap.size w wr) (fun kV _ => xs.length - (intOf kV).toNat)
  case atStart => exact ⟨0, Nat.zero_le _, rfl, fun j h => by omega, Below.refl _ _⟩
  case round =>
    obtain ⟨k, hk, rfl, h1, hbr⟩ := hrel
    have H1 := Lib.hid h1
    have HBR := Lib.hid hbr
    clear h1 hbr
    by_cases hlt : k < xs.length
    · obtain ⟨ad, rfl, hl, hc⟩ := HI.out.below HBR.out k hlt
      have HC := Lib.hid (HF.out wr k HBR.out hlt)
      cases hp : p (xs.getD k 0) with
      | true =>
        rw [hp] at HC
        have HP := Lib.hid hp
        clear hp
        generalize hx : xs.getD k 0 = x at *
        have HX := Lib.hid hx
        clear hx
        go_wp2_with fail
        refine HC.out.mono ?_
        rintro e w1 ⟨rfl, hb1⟩
        have HB1 : Hid (Below w.heap.size w w1) := HBR.out.trans (hb1.mono HBR.out.size)
        clear hb1 HC
        go_wp2
        go_ret
        exact ⟨by rw [idxF_hit H1.out hlt (by rw [HX.out]; exact HP.out)]; rfl, HB1.out⟩
      | false =>
        rw [hp] at HC
        have HP := Lib.hid hp
        clear hp
        generalize hx : xs.getD k 0 = x at *
        have HX := Lib.hid hx
        clear hx
        go_wp2_with fail
        refine HC.out.mono ?_
        rintro e w1 ⟨rfl, hb1⟩
        have HB1 : Hid (Below w.heap.size w w1) := HBR.out.trans (hb1.mono HBR.out.size)
        clear hb1 HC
        go_wp2
        go_roundw
        case rel => exact ⟨k + 1, hlt, by go_num, fun j hj => (by
          rcases Nat.lt_succ_iff_lt_or_eq.1 hj with e | e
          · exact H1.out j e
          · rw [e, HX.out]; exact HP.out), HB1.out⟩
        case measure => simp [intOf]; omega
    · obtain rfl : k = xs.length := by omega
      go_wp2
      go_ret
      exact ⟨by rw [idxF_none H1.out]; rfl, HBR.out⟩

set_option maxRecDepth 100000 in
set_option maxHeartbeats 1000000 in
theorem cf_ints (F : Nat) (cb : Array Value) (p : Int → Bool) (xs : List Int) (a : Option Addr) (cap : Nat) (w : World) (hm : xs.length ≤ 9223372036854775807)
    (hent : ∀ args w, (callFunc F args).run Tryz.prog w = .ok (.enter F args) w) (hI : IntsIn w a xs)
    (hf : ∀ W i, Below w.heap.size w W → i < xs.length → Calls Tryz.prog F (#[.int .i64 (xs.getD i 0)] ++ cb) W fun e w' => e = .returned (.bool (p (xs.getD i 0))) ∧ Below W.heap.size W w') :
    Calls Tryz.prog 140 #[.slice a xs.length cap, .func (.func F) #[] cb] w fun e w' => e = .returned (.bool (xs.any p)) ∧ Below w.heap.size w w' := by
  have H := Lib.hid (ix_ints F cb p xs a cap w hm hent hI hf)
  clear hf hI hent
  rw [← idxF_any]
  generalize idxF p xs = i at *
  go_enter Tryz.func140, Tryz.ntmps140
  go_wp2_with fail
  refine H.out.mono ?_
  rintro e w1 ⟨rfl, hb1⟩
  have HB1 := Lib.hid hb1
  clear hb1 H
  go_wp2
  go_ret
  exact ⟨by first | rfl | simp, HB1.out⟩
end Go.Proofs.YthpeifkiaodokaaGreatDoor
