/- The reference's Told of numbers, and whether two clauses are the same. -/
import Derived.Test.YtcmmoinkhodjfaaDoorPfTextF
import Derived.Test.YtcmmoinkhodjfaaDoorPfShelf
import Derived.Test.YtcmmoinkhodjfaaDoorClRow
import Derived.Test.YtcmmoinkhodjfaaDoorClKp
import Derived.Lib.ItoaLen
import Derived.Lib.LaidTab
import Derived.Lib.AppendIntMem
import Derived.Maps.AppendAt
namespace Go.Proofs.YtcmmoinkhodjfaaDoor
open Go.RowKit Go.Shelf Go.Deep

def Tab (w : World) : Prop := Lib.TabIs Tryd.prog w "internal/strconv.uint64pow10" .u64 Lib.pow10Tab
theorem Tab.below {w w' : World} (h : Tab w) (hb : Below w.heap.size w w') : Tab w' := Lib.tabBelow_of_tabIs h w' hb
theorem itoa_any (n : Int) (h : Near n) (w : World) (hw : Tab w) : Calls Tryd.prog 64 #[.int .i64 n] w fun e w' => e = .returned (.string ⟨(Lib.itoa n).toArray⟩) ∧ Below w.heap.size w w' :=
  (Tryd.strconv_Itoa n (by have := h.1; omega) (by have := h.2; omega) w hw).mono fun _ _ ⟨he, k, os, hw'⟩ => ⟨he, hw' ▸ Lib.below_grow _ w (Nat.le_refl _) k os⟩
theorem infoStr : (Tryd.prog.info? 9).map (fun i => (i.zero, i.size, i.bytes)) = some (some (.string ⟨#[]⟩), 1, 16) := by kernel_rfl
def strsF (c : List Int) : List Value := c.map fun x => .string ⟨(Lib.itoa x).toArray⟩
theorem strs_snoc {c : List Int} {k : Nat} (hk : k < c.length) : strsF (c.take (k + 1)) = strsF (c.take k) ++ [.string ⟨(Lib.itoa (c.getD k 0)).toArray⟩] := by
  rw [List.take_add_one, List.getElem?_eq_getElem hk, List.getD_eq_getElem?_getD, List.getElem?_eq_getElem hk]
  unfold strsF
  rw [List.map_append]
  rfl
theorem told_len {c : List Int} (hc : ∀ x ∈ c, Near x) (hl : c.length ≤ 48) : (toldF c).length ≤ 140737488355328 := by
  have hlen : ∀ d : List Int, (∀ x ∈ d, Near x) → (Lib.joinTail [32] (d.map Lib.itoa)).length ≤ 22 * d.length := by
    intro d
    induction d with
    | nil => intro _; simp [Lib.joinTail]
    | cons y d ih =>
      intro hd
      have h1 := ih (fun z hz => hd z (List.mem_cons_of_mem _ hz))
      have hy := hd y List.mem_cons_self
      have h2 := Lib.itoa_length_le y (by have := hy.1; omega) (by have := hy.2; omega)
      rw [List.map_cons, tail_cons, List.length_cons, List.length_append, List.length_cons]
      omega
  unfold toldF
  cases c with
  | nil => simp [Lib.join_nil]
  | cons y d =>
    have hy := hc y List.mem_cons_self
    have h1 := hlen d (fun z hz => hc z (List.mem_cons_of_mem _ hz))
    have h2 := Lib.itoa_length_le y (by have := hy.1; omega) (by have := hy.2; omega)
    rw [List.map_cons, Lib.join_cons, List.length_append]
    simp only [List.length_cons] at hl
    omega
/-- strings.Join of a row of one's own. -/
theorem join_row {B : Nat} {w : World} {c : List Int} {v : Value} (hc : ∀ x ∈ c, Near x) (hl : c.length ≤ 48) (h : w.ownsRow B 9 1 v c.length (strsF c)) :
    Calls Tryd.prog 65 #[v, .string ⟨#[32]⟩] w fun e w' => e = .returned (.string ⟨(toldF c).toArray⟩) ∧ Below w.heap.size w w' := by
  rcases h.2 with ⟨rfl, h0⟩ | ⟨g, cap, cur, rfl, _, hg, hcap, _⟩
  · obtain rfl : c = [] := List.length_eq_zero_iff.1 h0
    exact (Tryd.strings_Join_none none 0 ⟨#[32]⟩ w).mono fun e w' ⟨he, hw⟩ => ⟨he, hw ▸ Below.refl _ _⟩
  · have e1 : (c.map fun x => (⟨(Lib.itoa x).toArray⟩ : ByteArray)).length = c.length := by rw [List.length_map]
    have e2 : ((c.map fun x => (⟨(Lib.itoa x).toArray⟩ : ByteArray)).map (·.data.toList)) = c.map Lib.itoa := by rw [List.map_map]; rfl
    have := Tryd.strings_Join g 0 cap (c.map fun x => ⟨(Lib.itoa x).toArray⟩) ⟨#[32]⟩ w (fun j x hx => by
      have hj : j < c.length := by rw [← e1]; exact (List.getElem?_eq_some_iff.1 hx).1
      have h2 := h.cellAt j (by omega)
      rw [Nat.zero_add]
      refine h2.trans ?_
      unfold strsF
      rw [List.getElem?_map] at hx ⊢
      cases hcj : c[j]? with
      | none => rw [hcj] at hx; cases hx
      | some y => rw [hcj] at hx; simp at hx; simp [hx]) (Array.getElem?_eq_some_iff.1 hg).1 (by rw [e1]; omega) (by rw [e1]; exact hcap) (by rw [e2]; exact told_len hc hl)
    rw [e1, e2] at this
    exact this

set_option maxRecDepth 100000 in
set_option maxHeartbeats 1000000 in
theorem told_any (c : List Int) (hc : ∀ x ∈ c, Near x) (hl : c.length ≤ 48) (a : Option Addr) (cap : Nat) (w : World) (hI : IntsIn w a c) (hw : Tab w) :
    Calls Tryd.prog 60 #[.slice a c.length cap] w fun e w' => e = .returned (.string ⟨(toldF c).toArray⟩) ∧ Below w.heap.size w w' := by
  obtain ⟨i0, hi, hz0, hz1, hz2⟩ := info_parts infoStr
  have HI := Lib.hid hI
  have HT : Hid (∀ k, k < c.length → ∀ W, Below w.heap.size w W → Calls Tryd.prog 64 #[.int .i64 (c.getD k 0)] W fun e w' => e = .returned (.string ⟨(Lib.itoa (c.getD k 0)).toArray⟩) ∧ Below W.heap.size W w') := fun k hk W hB => itoa_any _ (hc _ (getD_mem hk)) W (hw.below hB)
  have HJ : Hid (∀ (W : World) (v : Value), W.ownsRow w.heap.size 9 1 v c.length (strsF c) → Calls Tryd.prog 65 #[v, .string ⟨#[32]⟩] W fun e w' => e = .returned (.string ⟨(toldF c).toArray⟩) ∧ Below W.heap.size W w') := fun W v h => join_row hc hl h
  have HS : Hid (∀ k, k < c.length → strsF (c.take (k + 1)) = strsF (c.take k) ++ [.string ⟨(Lib.itoa (c.getD k 0)).toArray⟩]) := fun k hk => strs_snoc hk
  have HE : Hid (strsF (c.take c.length) = strsF c) := by show _ = _; rw [List.take_length]
  have HZ : Hid (strsF (c.take 0) = []) := rfl
  clear hI hw hc
  generalize (⟨(toldF c).toArray⟩ : ByteArray) = R at *
  go_enter Tryd.func60, Tryd.ntmps60
  go_wp2_with fail
  go_loopw [3, 8] (fun v i wr => ∃ k : Nat, k ≤ c.length ∧ i = .int .i64 (k : Int) ∧ wr.ownsRow w.heap.size 9 1 v k (strsF (c.take k)) ∧ Below w.heap.size w wr) (fun _ i _ => c.length - (intOf i).toNat)
  case atStart => exact ⟨0, by omega, rfl, World.ownsRow_nil _ _ _ _, Below.refl _ _⟩
  case round =>
    obtain ⟨k, hk, rfl, hrow, hbr⟩ := hrel
    obtain ⟨wo, rfl⟩ : ∃ wo, wo = wr := ⟨_, rfl⟩
    obtain ⟨va, vc, rfl, -, -⟩ := row_form hrow
    have HROW := Lib.hid hrow
    have HBR := Lib.hid hbr
    clear hrow hbr
    by_cases hlt : k < c.length
    · obtain ⟨ad, rfl, hb0, c0⟩ := HI.out.below HBR.out k hlt
      have HIk := Lib.hid (HT.out k hlt)
      have HSk := Lib.hid (HS.out k hlt)
      generalize c.getD k 0 = x at *
      generalize strsF (c.take k) = S at *
      go_wp2_with fail
      refine (HIk.out _ HBR.out).mono ?_
      rintro e w1 ⟨rfl, hb1⟩
      have hsz := hb1.size
      have hsw := HBR.out.size
      have HR1 := Lib.hid (row_new' HROW.out hb1)
      have HB1 : Hid (Below w.heap.size w w1) := HBR.out.trans (hb1.mono HBR.out.size)
      clear hb1 c0 HIk
      generalize (⟨(Lib.itoa x).toArray⟩ : ByteArray) = y at *
      go_wp2_with (at_builtin; refine wpList_append_own_at _ rfl _ _ 140 rfl w.heap.size 9 i0 (.string ⟨#[]⟩) 1 16 Tryd.underlying140 hi hz0 hz1 hz2 rfl (by decide) _ _ _ rfl (HR1.out.alloc _) ⟨w1.heap.size, 0, none⟩ 1 1 [.string y] rfl rfl ?c1 ?c2 ?c3 ?c4 ?c5 ?_)
      case c1 => exact cell_one_new _ _ _
      case c2 => intro u hu; simp at hu; subst hu; rfl
      case c3 => unfold maxLen; omega
      case c4 => omega
      case c5 => simp; omega
      intro v' w2 hown hgrow _ _
      have hb2 : Below w.heap.size w w2 := (HB1.out.alloc (by omega) _).grown hgrow (by simp; omega) (fun j hj => (HR1.out.lt j hj).1)
      rw [← HSk.out] at hown
      have HO := Lib.hid hown
      have HB2 := Lib.hid hb2
      clear hown hgrow hb2
      go_wp2
      go_roundw
      case rel => exact ⟨k + 1, by omega, by go_num, HO.out, HB2.out⟩
      case measure => simp [intOf]; omega
    · obtain rfl : k = c.length := by omega
      rw [HE.out] at HROW
      have HJ3 := Lib.hid (HJ.out wo _ HROW.out)
      go_wp2_with fail
      refine HJ3.out.mono ?_
      rintro e w2 ⟨rfl, hb2⟩
      have HB2 : Hid (Below w.heap.size w w2) := HBR.out.trans (hb2.mono HBR.out.size)
      clear hb2
      go_wp2
      go_ret
      exact ⟨rfl, HB2.out⟩

set_option maxRecDepth 100000 in
set_option maxHeartbeats 1000000 in
theorem sameC_any (c d : List Int) (hc : ∀ x ∈ c, Near x) (hd : ∀ x ∈ d, Near x) (hl : c.length ≤ 48) (hl2 : d.length ≤ 48) (a b : Option Addr) (cap cap2 : Nat) (w : World) (hI : IntsIn w a c) (hI2 : IntsIn w b d) (hw : Tab w) :
    Calls Tryd.prog 55 #[.slice a c.length cap, .slice b d.length cap2] w fun e w' => e = .returned (.bool (decide (c = d))) ∧ Below w.heap.size w w' := by
  have HT1 := Lib.hid (told_any c hc hl a cap w hI hw)
  have HT2 : Hid (∀ W, Below w.heap.size w W → Calls Tryd.prog 60 #[.slice b d.length cap2] W fun e w' => e = .returned (.string ⟨(toldF d).toArray⟩) ∧ Below W.heap.size W w') := fun W hW => told_any d hd hl2 b cap2 W (hI2.below hW) (hw.below hW)
  have HD : Hid ((toldF c == toldF d) = decide (c = d)) := by
    show _ = _
    rw [Bool.eq_iff_iff, beq_iff_eq, decide_eq_true_eq]
    exact ⟨told_inj hc hd, fun h => by rw [h]⟩
  clear hI hI2 hw hc hd
  go_enter Tryd.func55, Tryd.ntmps55
  go_wp2_with fail
  refine HT1.out.mono ?_
  rintro e w1 ⟨rfl, hb1⟩
  have HB1 := Lib.hid hb1
  have HT3 := Lib.hid (HT2.out w1 hb1)
  clear hb1 HT1
  go_wp2_with fail
  refine HT3.out.mono ?_
  rintro e w2 ⟨rfl, hb2⟩
  have HB2 : Hid (Below w.heap.size w w2) := HB1.out.trans (hb2.mono HB1.out.size)
  clear hb2 HT3
  go_wp2
  go_ret
  exact ⟨by rw [← HD.out]; rfl, HB2.out⟩
end Go.Proofs.YtcmmoinkhodjfaaDoor
