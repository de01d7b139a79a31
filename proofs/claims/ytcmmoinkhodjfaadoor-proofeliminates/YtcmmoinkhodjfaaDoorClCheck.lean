/- Check, Holds, AllHold: by their contracts. -/
import Derived.Test.YtcmmoinkhodjfaaDoorClBaseI
namespace Go.Proofs.YtcmmoinkhodjfaaDoor
open Go.RowKit

/-- A literal over so many variables. -/
def litB (v x : Int) : Bool := decide (x ≠ 0 ∧ -v ≤ x ∧ x ≤ v)

set_option maxRecDepth 100000 in
set_option maxHeartbeats 1000000 in
theorem literal_any (x v : Int) (h0 : 0 ≤ v) (h1 : v ≤ 24) (w : World) :
    Calls Tryd.prog 49 #[.int .i64 x, .int .i64 v] w fun e w' => e = .returned (.bool (litB v x)) ∧ w = w' := by
  by_cases hx : x = 0
  · have e : litB v x = false := by simp [litB, hx]
    rw [e]
    go_enter Tryd.func49, Tryd.ntmps49
    go_wp2
    go_ret
    exact ⟨rfl, rfl⟩
  · by_cases h2 : -v ≤ x
    · by_cases h3 : x ≤ v
      · have e : litB v x = true := by simp [litB, hx, h2, h3]
        rw [e]
        have hx' : (x != 0) = true := by simpa using hx
        go_enter Tryd.func49, Tryd.ntmps49
        go_wp2
        go_ret
        exact ⟨rfl, rfl⟩
      · have e : litB v x = false := by simp [litB, h3]
        rw [e]
        go_enter Tryd.func49, Tryd.ntmps49
        go_wp2
        go_ret
        exact ⟨rfl, rfl⟩
    · have e : litB v x = false := by simp [litB, h2]
      rw [e]
      go_enter Tryd.func49, Tryd.ntmps49
      go_wp2
      go_ret
      exact ⟨rfl, rfl⟩

set_option maxRecDepth 100000 in
set_option maxHeartbeats 1000000 in
theorem check1_any (x v : Int) (h0 : 0 ≤ v) (h1 : v ≤ 24) (b : Nat) (w : World) (hc : w.cell? ⟨b, 0, none⟩ = some (.int .i64 v)) :
    Calls Tryd.prog 48 #[.int .i64 x, .pointer (some ⟨b, 0, none⟩)] w fun e w' => e = .returned (.bool (!litB v x)) ∧ w = w' := by
  have HL := Lib.hid (literal_any x v h0 h1 w)
  generalize litB v x = B at *
  go_enter Tryd.func48, Tryd.ntmps48
  go_wp2_with fail
  refine HL.out.mono ?_
  rintro e w1 ⟨rfl, rfl⟩
  go_wp2
  go_ret
  exact ⟨by first | rfl | simp, rfl⟩

set_option maxRecDepth 100000 in
theorem ent_check1 : ∀ args w, (callFunc 48 args).run Tryd.prog w = .ok (.enter 48 args) w := by intro args w; kernel_rfl

/-- What Check says: the error's number and its place (-1: none); 0: nothing. -/
def badC (v : Int) (c : List Int) : Bool := decide (48 < c.length) || c.any (fun x => !litB v x)
def codeC (c : List Int) : Int := if 48 < c.length then 4 else 2
def checkF (v : Int) (l : List (List Int)) : Int × Int :=
  if v < 0 ∨ 24 < v then (2, -1) else if 200 < l.length then (4, -1) else match l.findIdx? (badC v) with | some i => (codeC (l.getD i []), (i : Int)) | none => (0, -1)

theorem checkF_at {v : Int} {l : List (List Int)} (h0 : 0 ≤ v) (h1 : v ≤ 24) (hl : l.length ≤ 200) {k : Nat} (hk : k < l.length) (h2 : ∀ j, j < k → badC v (l.getD j []) = false) (h3 : badC v (l.getD k []) = true) : checkF v l = (codeC (l.getD k []), (k : Int)) := by
  have : l.findIdx? (badC v) = some k := by
    rw [List.findIdx?_eq_some_iff_getElem]
    refine ⟨hk, ?_, fun j hj => ?_⟩
    · rw [List.getD_eq_getElem?_getD, List.getElem?_eq_getElem hk] at h3; exact h3
    · have := h2 j hj
      rw [List.getD_eq_getElem?_getD, List.getElem?_eq_getElem (by omega)] at this
      simpa using this
  unfold checkF
  rw [if_neg (by omega), if_neg (by omega), this]
theorem checkF_ok {v : Int} {l : List (List Int)} (h0 : 0 ≤ v) (h1 : v ≤ 24) (hl : l.length ≤ 200) (h2 : ∀ j, j < l.length → badC v (l.getD j []) = false) : checkF v l = (0, -1) := by
  have : l.findIdx? (badC v) = none := by
    rw [List.findIdx?_eq_none_iff]
    intro x hx
    obtain ⟨j, hj, rfl⟩ := List.getElem_of_mem hx
    have := h2 j hj
    rw [List.getD_eq_getElem?_getD, List.getElem?_eq_getElem hj] at this
    simpa using this
  unfold checkF
  rw [if_neg (by omega), if_neg (by omega), this]

/-- An error as Check makes it: none, a plain one, one at a place. -/
def ErrIs (w : World) (e : Value) (m pl : Int) : Prop :=
  (m = 0 ∧ pl = -1 ∧ e = .nilIface) ∨ (m ≠ 0 ∧ pl = -1 ∧ e = .iface 27 (.int .i64 m)) ∨
  (m ≠ 0 ∧ ∃ b, b < w.heap.size ∧ e = .iface 79 (.pointer (some ⟨b, 0, none⟩)) ∧ w.cell? ⟨b, 0, none⟩ = some (.int .i64 m) ∧ w.cell? ⟨b, 1, none⟩ = some (.int .i64 pl))
theorem ErrIs.below {w w' : World} {e : Value} {m pl : Int} (h : ErrIs w e m pl) (hb : Below w.heap.size w w') : ErrIs w' e m pl := by
  rcases h with h | h | ⟨h0, b, h1, h2, h3, h4⟩
  · exact Or.inl h
  · exact Or.inr (Or.inl h)
  · exact Or.inr (Or.inr ⟨h0, b, Nat.lt_of_lt_of_le h1 hb.size, h2, (hb.cell (p := ⟨b, 0, none⟩) h1).trans h3, (hb.cell (p := ⟨b, 1, none⟩) h1).trans h4⟩)

set_option maxRecDepth 100000 in
set_option maxHeartbeats 2000000 in
theorem check_any (v : Int) (l : List (List Int)) (a : Option Addr) (cap : Nat) (w : World) (hI : ClsIn w a l) (hm : l.length ≤ 9223372036854775807) :
    Calls Tryd.prog 33 #[.int .i64 v, .slice a l.length cap] w fun e w' => ∃ er, e = .returned er ∧ ErrIs w' er (checkF v l).1 (checkF v l).2 ∧ Below w.heap.size w w' := by
  have hb0 := below_new w (.cells #[.int .i64 v] 3)
  by_cases hv : v < 0 ∨ 24 < v
  · have e : checkF v l = (2, -1) := by unfold checkF; rw [if_pos hv]
    rw [e]
    have fin : Calls Tryd.prog 33 #[.int .i64 v, .slice a l.length cap] w fun e w' => e = .returned (.iface 27 (.int .i64 2)) ∧ Below w.heap.size w w' := by
      have HB := Lib.hid hb0
      clear hb0 e hI
      by_cases h : v < 0
      · go_enter Tryd.func33, Tryd.ntmps33
        go_wp2
        go_ret
        exact ⟨rfl, HB.out⟩
      · have h2 : 24 < v := by omega
        clear hv
        go_enter Tryd.func33, Tryd.ntmps33
        go_wp2
        go_ret
        exact ⟨rfl, HB.out⟩
    exact fin.mono fun e w' ⟨he, hb⟩ => ⟨_, he, Or.inr (Or.inl ⟨by omega, rfl, rfl⟩), hb⟩
  have hv0 : 0 ≤ v := by omega
  have hv1 : v ≤ 24 := by omega
  clear hv
  by_cases hl : 200 < l.length
  · have e : checkF v l = (4, -1) := by unfold checkF; rw [if_neg (by omega), if_pos hl]
    rw [e]
    have fin : Calls Tryd.prog 33 #[.int .i64 v, .slice a l.length cap] w fun e w' => e = .returned (.iface 27 (.int .i64 4)) ∧ Below w.heap.size w w' := by
      have HB := Lib.hid hb0
      clear hb0 e hI
      go_enter Tryd.func33, Tryd.ntmps33
      go_wp2
      go_ret
      exact ⟨rfl, HB.out⟩
    exact fin.mono fun e w' ⟨he, hb⟩ => ⟨_, he, Or.inr (Or.inl ⟨by omega, rfl, rfl⟩), hb⟩
  have HI := Lib.hid hI
  have HB := Lib.hid hb0
  have HV : Hid (∀ W, Below (w.heap.size + 1) (w.alloc (.cells #[.int .i64 v] 3)) W → W.cell? ⟨w.heap.size, 0, none⟩ = some (.int .i64 v)) := fun W hW => (hW.cell (p := ⟨w.heap.size, 0, none⟩) (by simp)).trans (by simp)
  clear hI hb0
  go_enter Tryd.func33, Tryd.ntmps33
  go_wp2_with fail
  go_loopw [20] (fun kV wr => ∃ k : Nat, k ≤ l.length ∧ kV = .int .i64 (k : Int) ∧ (∀ j, j < k → badC v (l.getD j []) = false) ∧ Below (w.heap.size + 1) (w.alloc (.cells #[.int .i64 v] 3)) wr) (fun kV _ => l.length - (intOf kV).toNat)
  case atStart => exact ⟨0, Nat.zero_le _, rfl, fun j h => by omega, Below.refl _ _⟩
  case round =>
    obtain ⟨k, hk, rfl, h1, hbr⟩ := hrel
    have hbw : Below w.heap.size w wr := HB.out.trans (hbr.mono (Nat.le_succ _))
    have hcv := HV.out _ hbr
    have H1 := Lib.hid h1
    have HBR := Lib.hid hbr
    have HBW := Lib.hid hbw
    have hws := hbw.size
    have hws1 := hbr.size
    rw [World.size_alloc] at hws1
    clear h1 hbr hbw
    by_cases hlt : k < l.length
    · obtain ⟨ad, a', cap', rfl, hl', hc, g1, g2, g3⟩ := HI.out.below HBW.out k hlt
      have HG := Lib.hid g3
      clear g3
      generalize hx : l.getD k [] = c at *
      have HX := Lib.hid hx
      clear hx
      by_cases h48 : 48 < c.length
      · have hres : checkF v l = (4, (k : Int)) := by
          rw [checkF_at hv0 hv1 (by omega) hlt H1.out (by rw [HX.out]; simp [badC, h48]), HX.out]; simp [codeC, h48]
        have HRES := Lib.hid hres
        have hbx := HBW.out.trans ((below_new wr (.cells #[.int .i64 4, .int .i64 (k : Int)] 81)).mono hws)
        have HBX := Lib.hid hbx
        clear hres hbx
        go_wp2
        go_ret
        refine ⟨_, rfl, ?_, HBX.out⟩
        rw [HRES.out]
        exact Or.inr (Or.inr ⟨by show (4 : Int) ≠ 0; omega, wr.heap.size, by simp, rfl, by simp, by simp⟩)
      · have HC := Lib.hid (cf_ints 48 #[.pointer (some ⟨w.heap.size, 0, none⟩)] (fun x => !litB v x) c a' cap' wr (by omega) ent_check1 HG.out (fun W i hW hi => (check1_any (c.getD i 0) v hv0 hv1 w.heap.size W ((hW.cell (p := ⟨w.heap.size, 0, none⟩) (by show w.heap.size < _; omega)).trans hcv)).mono fun e w' ⟨he, hw⟩ => ⟨he, hw ▸ Below.refl _ _⟩))
        cases hp : c.any (fun x => !litB v x) with
        | true =>
          rw [hp] at HC
          have hres : checkF v l = (2, (k : Int)) := by
            rw [checkF_at hv0 hv1 (by omega) hlt H1.out (by rw [HX.out]; unfold badC; rw [hp]; simp), HX.out]; simp [codeC, h48]
          have HRES := Lib.hid hres
          clear hres hp
          go_wp2_with fail
          refine HC.out.mono ?_
          rintro e w1 ⟨rfl, hb1⟩
          have hbw1 := HBW.out.trans (hb1.mono hws)
          have hbx := hbw1.trans ((below_new w1 (.cells #[.int .i64 2, .int .i64 (k : Int)] 81)).mono hbw1.size)
          have HBX := Lib.hid hbx
          clear hbx hbw1 hb1 HC
          go_wp2
          go_ret
          refine ⟨_, rfl, ?_, HBX.out⟩
          rw [HRES.out]
          exact Or.inr (Or.inr ⟨by show (2 : Int) ≠ 0; omega, w1.heap.size, by simp, rfl, by simp, by simp⟩)
        | false =>
          rw [hp] at HC
          have HBC : Hid (badC v c = false) := by show badC v c = false; unfold badC; rw [hp]; simp; omega
          clear hp
          go_wp2_with fail
          refine HC.out.mono ?_
          rintro e w1 ⟨rfl, hb1⟩
          have HB1 : Hid (Below (w.heap.size + 1) (w.alloc (.cells #[.int .i64 v] 3)) w1) := HBR.out.trans (hb1.mono hws1)
          clear hb1 HC
          go_wp2
          go_roundw
          case rel => exact ⟨k + 1, hlt, by go_num, fun j hj => (by
            rcases Nat.lt_succ_iff_lt_or_eq.1 hj with e | e
            · exact H1.out j e
            · rw [e, HX.out]; exact HBC.out), HB1.out⟩
          case measure => simp [intOf]; omega
    · obtain rfl : k = l.length := by omega
      have hres := checkF_ok hv0 hv1 (by omega) H1.out
      have HRES := Lib.hid hres
      clear hres
      go_wp2
      go_ret
      exact ⟨_, rfl, by rw [HRES.out]; exact Or.inl ⟨rfl, rfl, rfl⟩, HBW.out⟩
end Go.Proofs.YtcmmoinkhodjfaaDoor
