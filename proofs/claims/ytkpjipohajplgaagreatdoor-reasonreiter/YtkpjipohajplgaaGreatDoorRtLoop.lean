/- The law of Reiter's rule: early answers. -/
import Derived.Test.YtkpjipohajplgaaGreatDoorFmRLeast
import Derived.Test.YtkpjipohajplgaaGreatDoorFmMap
import Derived.Test.YtkpjipohajplgaaGreatDoorRtGath
import Derived.Test.YtkpjipohajplgaaGreatDoorRtReit
set_option maxHeartbeats 4000000
set_option maxRecDepth 100000
namespace Go.Proofs.YtkpjipohajplgaaGreatDoor.Fm
open Go.RowKit Go.Maps Go.Proofs.YtkpjipohajplgaaGreatDoor.Bd
def meetB (y x : Nat) : Bool := (bits .and .u64 (y : Int) (x : Int)) != 0
theorem meetB_iff {y x : Nat} (hy : y < 64) (hx : x < 64) : meetB y x = true ↔ ∃ i, x.testBit i = true /\ y.testBit i = true := by
  unfold meetB
  rw [bits_and_u64_nat y x (by omega) (by omega)]
  have e : ((((y &&& x : Nat) : Int) != 0) = true) ↔ (y &&& x) ≠ 0 := by
    rw [bne_iff_ne]; omega
  rw [e]
  constructor
  · intro h
    apply Classical.byContradiction
    intro hn
    apply h
    apply Nat.eq_of_testBit_eq; intro i
    rw [Nat.testBit_and, Nat.zero_testBit]
    cases h1 : y.testBit i with
    | false => rfl
    | true =>
      cases h2 : x.testBit i with
      | false => rfl
      | true => exact absurd ⟨i, h2, h1⟩ hn
  · rintro ⟨i, h1, h2⟩ h0
    have : (y &&& x).testBit i = true := by rw [Nat.testBit_and, h1, h2]; rfl
    rw [h0, Nat.zero_testBit] at this; cases this
theorem hits_small {vars : Nat} {S : Nat -> Prop} (hS : ∀ y, S y -> ∀ i, y.testBit i = true -> i < vars) (x : Nat) : leastP (fun x => x < 2 ^ vars /\ HitsAll S x) x ↔ opP .hits S (fun _ => False) x := by
  show (( x < 2 ^ vars /\ HitsAll S x) /\ ∀ y, (y < 2 ^ vars /\ HitsAll S y) -> Sub y x -> y = x) ↔ (HitsAll S x /\ ∀ z, HitsAll S z -> Sub z x -> z = x)
  constructor
  · rintro ⟨⟨h0, h1⟩, h2⟩
    exact ⟨h1, fun z hz hs => h2 z ⟨Nat.lt_of_le_of_lt hs.le h0, hz⟩ hs⟩
  · rintro ⟨h1, h2⟩
    have hsub : Sub (x % 2 ^ vars) x := fun i hi => by
      rw [Nat.testBit_mod_two_pow] at hi
      simp at hi; exact hi.2
    have hh : HitsAll S (x % 2 ^ vars) := fun y hy => by
      obtain ⟨i, i1, i2⟩ := h1 y hy
      exact ⟨i, by rw [Nat.testBit_mod_two_pow, i1]; simp [hS y hy i i2], i2⟩
    have e := h2 _ hh hsub
    refine ⟨⟨?_, h1⟩, fun y hy hs => h2 y hy.2 hs⟩
    rw [<- e]; exact Nat.mod_lt _ (Nat.two_pow_pos _)
section
variable {S : Nat -> Prop}
def HOutR (w : World) (g : Nat) (S : Nat -> Prop) (x : Nat) (wq : World) : Prop := FM wq g (fun y => y < x /\ HitsAll S y) /\ Below w.heap.size w wq
def HInR (w : World) (b g r x : Nat) (S : Nat -> Prop) (v : Value) (wq : World) : Prop := ∃ (L : Bool) (R : Nat -> Prop) (cnt : Nat), v = .bool L /\ RM wq b r S R cnt /\ (L = true ↔ ∀ y, S y -> ¬ R y -> ∃ i, x.testBit i = true /\ y.testBit i = true) /\ FM wq g (fun y => y < x /\ HitsAll S y) /\ Below w.heap.size w wq
theorem rhits_any (vars : Nat) (hv6 : vars <= 6) (w : World) (b : Nat) (h : FM w b S) (hS : ∀ x, S x -> x < 2 ^ vars) :
    Calls Tryz.prog 5 #[.map (some b), .int .i64 (vars : Int)] w fun e w' => ∃ g, e = .returned (.map (some g)) /\ FM w' g (opP .hits S (fun _ => False)) /\ w.heap.size <= g /\ Below w.heap.size w w' := by
  have p6 : 2 ^ vars <= 64 := Nat.pow_le_pow_right (n := 2) (by omega) hv6
  have HSB : Hid (∀ y, S y -> ∀ i, y.testBit i = true -> i < vars) := fun y hy i hi => by
    apply Classical.byContradiction
    intro hn
    rw [Nat.testBit_lt_two_pow (Nat.lt_of_lt_of_le (hS y hy) (Nat.pow_le_pow_right (n := 2) (by omega) (by omega)))] at hi
    cases hi
  have HIFF := Lib.hid (fun x => hits_small HSB.out x)
  obtain ⟨P, hP⟩ : ∃ P, P = 2 ^ vars := ⟨_, rfl⟩
  have e2 : (2 : Int) ^ vars = (P : Int) := by rw [hP]; simp
  rw [<- hP] at p6 hS HIFF
  have w2 : IntKind.u64.wrap ((2 : Int) ^ vars) = (P : Int) := by rw [e2]; exact IntWalk.u64_in _ ⟨by omega, by omega⟩
  have hbl := h.lt
  have h1 := h.below (below_new w (.map #[] 0))
  have hg0 := FM.made w
  have hmm := @run_makeMap Tryz.prog
  have HS := Lib.hid hS
  have HFB := Lib.hid h
  have HST : Hid (HOutR w w.heap.size S 0 (w.alloc (.map #[] 0))) := ⟨hg0.congr (fun x => ⟨fun h => h.elim, fun h => absurd h.1 (Nat.not_lt_zero _)⟩), below_new w _⟩
  clear h hS h1 hg0 e2 hP
  go_enter Tryz.func5, Tryz.ntmps5
  go_wp2_with fail
  go_loopw [12] (fun xV wq => ∃ x : Nat, xV = .int .u64 (x : Int) /\ x <= P /\ HOutR w w.heap.size S x wq) (fun xV _ => P - (intOf xV).toNat)
  case atStart => exact ⟨0, rfl, Nat.zero_le _, HST.out⟩
  case round =>
    obtain ⟨w0, hw0⟩ : ∃ w0, w0 = wr := ⟨_, rfl⟩
    subst hw0
    obtain ⟨x, rfl, hxP, hfm, hb2⟩ := hrel
    have HFM := Lib.hid hfm
    have HB2 := Lib.hid hb2
    clear HST hmm
    by_cases hlt : x < P
    · have i1 : (x : Int) < (P : Int) := by omega
      have hf1 := HFB.out.below hb2
      obtain ⟨r, hr⟩ : ∃ r, w0.heap.size = r := ⟨_, rfl⟩
      have hws := hb2.size
      clear hfm hb2
      go_wp2_with (at_range; refine wp_range_fam' _ rfl _ rfl b r hr S rfl hf1 ?_; intro w6 cnt6 hrm6 hg6 hs6)
      try go_frame
      have hlg : w.heap.size < r := by have := HFM.out.lt; omega
      have HIN : Hid (HInR w b w.heap.size r x S (.bool true) w6) := ⟨true, S, cnt6, rfl, hrm6, ⟨fun _ y h1 h2 => (h2 h1).elim, fun _ => rfl⟩, HFM.out.grown hg6 (by simp), HB2.out.trans (grown_none hg6 hws)⟩
      clear hrm6 hg6 hs6 hf1 HFM HB2
      go_loopw [7, 8] (fun v _ wq => HInR w b w.heap.size r x S v wq) (fun _ _ wq => wq.rangeLeft b r)
      case atStart => exact HIN.out
      case round =>
        obtain ⟨L, R, cnt, rfl, hrm, hL, hfm1, hb1⟩ := hrel
        have HFM1 := Lib.hid hfm1
        have HB1 := Lib.hid hb1
        have HL := Lib.hid hL
        have HRM := Lib.hid hrm
        clear HIN hL hfm1 hb1
        go_wp2_with (at_next; refine wp_next_fam _ rfl _ rfl b r S R cnt rfl hrm ?_ ?_)
        · intro hall
          have HL2 : Hid (L = true ↔ HitsAll S x) := HL.out.trans ⟨fun h y hy => h y hy (hall y), fun h y hy _ => h y hy⟩
          clear hall hrm HL HRM
          have wx1 : IntKind.u64.wrap ((x : Int) + 1) = ((x + 1 : Nat) : Int) := by rw [IntKind.wrap_u64]; omega
          cases L with
          | false =>
            have HREL : Hid (HOutR w w.heap.size S (x + 1) wr) := ⟨HFM1.out.congr (fun y => ⟨fun h => ⟨by omega, h.2⟩, fun h => ⟨by
              by_cases e : y = x
              · subst e; exact absurd (HL2.out.2 h.2) (by decide)
              · omega, h.2⟩⟩), HB1.out⟩
            clear HFM1 HB1 HL2
            go_wp2
            go_roundw
            case rel => first | exact ⟨x + 1, by first | rfl | go_num | (congr 1; omega), by omega, HREL.out⟩ | ((repeat apply Exists.intro); exact ⟨⟨x + 1, by first | rfl | go_num | (congr 1; omega), by omega, HREL.out⟩, rfl⟩)
            case measure => first | (simp [intOf]; done) | (simp [intOf]; omega)
          | true =>
            obtain ⟨w8, hput, hfm8, hg8⟩ := HFM1.out.put (fun y hy => by omega) (x := x) (show UOk x by unfold UOk; omega)
            have hb8 := HB1.out.trans (grown_below hg8 (Nat.le_refl _) HB1.out.size)
            have HREL : Hid (HOutR w w.heap.size S (x + 1) w8) := ⟨hfm8.congr (fun y => by
              constructor
              · rintro (h | rfl)
                · exact ⟨by omega, h.2⟩
                · exact ⟨by omega, HL2.out.1 rfl⟩
              · intro h
                by_cases e : y = x
                · exact .inr e
                · exact .inl ⟨by omega, h.2⟩), hb8⟩
            clear HFM1 HB1 HL2 hfm8 hg8 hb8
            go_wp2
            go_roundw
            case rel => first | exact ⟨x + 1, by first | rfl | go_num | (congr 1; omega), by omega, HREL.out⟩ | ((repeat apply Exists.intro); exact ⟨⟨x + 1, by first | rfl | go_num | (congr 1; omega), by omega, HREL.out⟩, rfl⟩)
            case measure => first | (simp [intOf]; done) | (simp [intOf]; omega)
        · intro y w7 cnt7 hRy hSy hyo hrm7 hlt7 hg7 hs7 hen
          have hy64 := HS.out y hSy
          have hfm1' := HFM1.out.grown hg7 (by simp; omega)
          have hb1' := HB1.out.trans (grown_below hg7 (by omega) HB1.out.size)
          have HLT7 : Hid (w7.rangeLeft b r < wr.rangeLeft b r) := by rw [HRM.out.left_eq, hrm7.left_eq]; exact hlt7
          have hmb := meetB_iff (show y < 64 by omega) (show x < 64 by omega)
          have HFIN : Hid (∀ M : Bool, (M = true ↔ ∃ i, x.testBit i = true /\ y.testBit i = true) -> HInR w b w.heap.size r x S (.bool (L && M)) w7) := fun M hM => ⟨L && M, _, cnt7, rfl, hrm7, by
            rw [Bool.and_eq_true, HL.out, hM]
            constructor
            · rintro ⟨h1, h2⟩ z hz hn
              by_cases e : z = y
              · subst e; exact h2
              · exact h1 z hz (fun h => hn ⟨h, e⟩)
            · intro h
              exact ⟨fun z hz hn => h z hz (fun k => hn k.1), h y hSy (fun k => k.2 rfl)⟩, hfm1', hb1'⟩
          clear hRy hSy hyo hrm7 hlt7 hg7 hs7 hfm1' hb1' HL HFM1 HB1 HRM hrm
          cases L with
          | false =>
            clear hmb
            obtain ⟨M, hM⟩ : ∃ M : Bool, M = true ↔ ∃ i, x.testBit i = true /\ y.testBit i = true := ⟨@decide _ (Classical.propDecidable _), @decide_eq_true_iff _ (Classical.propDecidable _)⟩
            have HF2 := Lib.hid (HFIN.out M hM)
            clear HFIN hM
            go_wp2
            go_roundw
            case rel => first | exact HF2.out | ((repeat apply Exists.intro); exact ⟨HF2.out, rfl⟩)
            case measure => exact HLT7.out
          | true =>
            have HF2 := Lib.hid (HFIN.out (meetB y x) hmb)
            have hmd : (bits .and .u64 (y : Int) (x : Int) != 0) = meetB y x := rfl
            clear HFIN hmb
            generalize meetB y x = M at *
            go_wp2
            go_roundw
            case rel => first | exact HF2.out | ((repeat apply Exists.intro); exact ⟨HF2.out, rfl⟩)
            case measure => exact HLT7.out
    · obtain rfl : x = P := by omega
      have HRL := Lib.hid (rleast_any w0 w.heap.size (S := fun y => y < x /\ HitsAll S y) hfm (fun y hy => by omega))
      have i1 : ¬ (x : Int) < (x : Int) := by omega
      clear hfm hb2
      go_wp2_with fail
      refine HRL.out.mono ?_
      rintro e w9 ⟨g, rfl, hg9, hge, hb9⟩
      have HO : Hid (FM w9 g (opP .hits S (fun _ => False)) /\ w.heap.size <= g /\ Below w.heap.size w w9) := ⟨hg9.congr (fun y => HIFF.out y), Nat.le_trans HB2.out.size hge, HB2.out.trans (hb9.mono HB2.out.size)⟩
      clear hg9 hge hb9 HRL
      go_wp2
      go_ret
      exact ⟨g, rfl, HO.out⟩
end
end Go.Proofs.YtkpjipohajplgaaGreatDoor.Fm
namespace Go.Proofs.YtkpjipohajplgaaGreatDoor.Fm
open Go.RowKit Go.Maps Go.Proofs.YtkpjipohajplgaaGreatDoor.Bd
def eF (vars : Int) (l : List Nat) (k : Nat) : Int :=
  if vars < 0 \/ 24 < vars then 2 else if 200 < l.length then 4 else if (l.take k).any (fun x => decide (2 ^ vars.toNat <= x)) = true then 2 else 0
theorem any_take_succ {l : List Nat} {k : Nat} (h : k < l.length) (p : Nat -> Bool) : (l.take (k + 1)).any p = ((l.take k).any p || p (l.getD k 0)) := by
  rw [List.take_succ_eq_append_getElem h, List.any_append]
  simp [List.getD_eq_getElem?_getD, List.getElem?_eq_getElem h]
theorem eF_set {vars : Int} {l : List Nat} {k : Nat} (h : k < l.length) (hne : eF vars l k ≠ 0) : eF vars l (k + 1) = eF vars l k := by
  unfold eF at hne ⊢
  rw [any_take_succ h]
  split
  · rfl
  · split
    · rfl
    · rename_i h1 h2
      rw [if_neg h1, if_neg h2] at hne
      by_cases h3 : (l.take k).any (fun x => decide (2 ^ vars.toNat <= x)) = true
      · rw [h3, Bool.true_or]
      · rw [if_neg h3] at hne; exact absurd rfl hne
theorem eF_go {vars : Int} {l : List Nat} {k : Nat} (h : k < l.length) (hz : eF vars l k = 0) : 0 <= vars /\ vars <= 24 /\ l.length <= 200 /\ eF vars l (k + 1) = if l.getD k 0 < 2 ^ vars.toNat then 0 else 2 := by
  unfold eF at hz ⊢
  by_cases h1 : vars < 0 \/ 24 < vars
  · rw [if_pos h1] at hz; cases hz
  · rw [if_neg h1] at hz ⊢
    by_cases h2 : 200 < l.length
    · rw [if_pos h2] at hz; cases hz
    · rw [if_neg h2] at hz ⊢
      rw [any_take_succ h]
      refine ⟨by omega, by omega, by omega, ?_⟩
      by_cases h3 : (l.take k).any (fun x => decide (2 ^ vars.toNat <= x)) = true
      · rw [if_pos h3] at hz; cases hz
      · have h4 : (l.take k).any (fun x => decide (2 ^ vars.toNat <= x)) = false := by simpa using h3
        rw [h4, Bool.false_or]
        by_cases h5 : l.getD k 0 < 2 ^ vars.toNat
        · rw [if_pos h5, if_neg (fun h => by have := of_decide_eq_true h; omega)]
        · rw [if_neg h5, if_pos (decide_eq_true (by omega))]
theorem eF_zero (vars : Int) (l : List Nat) : eF vars l 0 = if vars < 0 \/ 24 < vars then 2 else if 200 < l.length then 4 else 0 := by
  unfold eF; simp
theorem eF_end (vars : Int) (l : List Nat) : (eF vars l l.length = 0 /\ 0 <= vars /\ vars <= 24 /\ l.length <= 200 /\ ∀ x ∈ l, x < 2 ^ vars.toNat) \/
    (eF vars l l.length = 2 /\ (vars < 0 \/ 24 < vars)) \/ (eF vars l l.length = 4 /\ 0 <= vars /\ vars <= 24 /\ 200 < l.length) \/
    (eF vars l l.length = 2 /\ 0 <= vars /\ vars <= 24 /\ l.length <= 200 /\ ∃ x ∈ l, ¬ x < 2 ^ vars.toNat) := by
  unfold eF
  rw [List.take_length]
  by_cases h1 : vars < 0 \/ 24 < vars
  · rw [if_pos h1]; exact .inr (.inl ⟨rfl, h1⟩)
  · rw [if_neg h1]
    by_cases h2 : 200 < l.length
    · rw [if_pos h2]; exact .inr (.inr (.inl ⟨rfl, by omega, by omega, h2⟩))
    · rw [if_neg h2]
      by_cases h3 : l.any (fun x => decide (2 ^ vars.toNat <= x)) = true
      · rw [if_pos h3]
        refine .inr (.inr (.inr ⟨rfl, by omega, by omega, by omega, ?_⟩))
        obtain ⟨x, hx, hd⟩ := List.any_eq_true.1 h3
        exact ⟨x, hx, by have := of_decide_eq_true hd; omega⟩
      · rw [if_neg h3]
        refine .inl ⟨rfl, by omega, by omega, by omega, fun x hx => ?_⟩
        apply Classical.byContradiction
        intro hn
        exact h3 (List.any_eq_true.2 ⟨x, hx, decide_eq_true (by omega)⟩)
theorem reit_said {vars : Int} {l : List Nat} {w w' : World} {e : Ending} (h : ReitOut vars l w e w') :
    Below w.heap.size w w' /\ ((eF vars l l.length ≠ 0 /\ e = .returned (.tuple #[.slice none 0 0, .iface 23 (.int .i64 (eF vars l l.length))])) \/
     (eF vars l l.length = 0 /\ ∃ v m, e = .returned (.tuple #[v, .nilIface]) /\ (∀ W, Below w'.heap.size w' W -> UArg W v m) /\ m.Pairwise (· < ·) /\ m.length <= 64 /\ ∀ y, y ∈ m ↔ opP .hits (fun x => x ∈ l) (fun _ => False) y)) := by
  obtain ⟨hb, h⟩ := h
  refine ⟨hb, ?_⟩
  rcases eF_end vars l with ⟨e0, h1, h2, h3, h4⟩ | ⟨e0, h1⟩ | ⟨e0, h1, h2, h3⟩ | ⟨e0, h1, h2, h3, x, hx, hn⟩ <;> rw [e0]
  · rcases h with ⟨k, -⟩ | ⟨-, -, k, -⟩ | ⟨-, -, -, ⟨x, hx, hn⟩, -⟩ | ⟨-, -, -, -, h⟩
    · omega
    · omega
    · exact absurd (h4 x hx) hn
    · exact .inr ⟨rfl, h⟩
  · rcases h with ⟨-, h⟩ | ⟨k1, k2, -, -⟩ | ⟨k1, k2, -, -⟩ | ⟨k1, k2, -, -⟩
    · exact .inl ⟨by decide, h⟩
    · omega
    · omega
    · omega
  · rcases h with ⟨k, -⟩ | ⟨-, -, -, h⟩ | ⟨-, -, k, -⟩ | ⟨-, -, k, -⟩
    · omega
    · exact .inl ⟨by decide, h⟩
    · omega
    · omega
  · rcases h with ⟨k, -⟩ | ⟨-, -, k, -⟩ | ⟨-, -, -, -, h⟩ | ⟨-, -, -, k, -⟩
    · omega
    · omega
    · exact .inl ⟨by decide, h⟩
    · exact absurd (k x hx) hn
def FP (w : World) (b : Nat) (l : List Nat) (k : Nat) : Prop := ∃ L, FL w b L /\ L.length <= k /\ ∀ x, x ∈ L ↔ x ∈ l.take k
theorem FP.put {w : World} {b : Nat} {l : List Nat} {k : Nat} (h : FP w b l k) (hk : k < l.length) (hl : l.length <= 1000) (hx : UOk (l.getD k 0)) :
    ∃ w', (Instr.mapUpdate 25 (.map (some b)) (.int .u64 (l.getD k 0 : Int)) (.bool true)).run Tryz.prog w = .ok () w' /\ FP w' b l (k + 1) /\ w.grownBy w' (some b) := by
  obtain ⟨L, h1, h2, h3⟩ := h
  obtain ⟨w', hr, h', hg⟩ := h1.put (by omega) hx
  refine ⟨w', hr, ⟨_, h', ?_, fun y => ?_⟩, hg⟩
  · unfold putU; split
    · omega
    · rw [List.length_append]; simp; omega
  · rw [mem_putU, h3, List.take_succ_eq_append_getElem hk, List.mem_append, List.mem_singleton, List.getD_eq_getElem?_getD, List.getElem?_eq_getElem hk]; rfl
theorem FP.fm {w : World} {b : Nat} {l : List Nat} (h : FP w b l l.length) : FM w b (fun x => x ∈ l) := by
  obtain ⟨L, h1, -, h3⟩ := h
  exact ⟨L, h1, fun x => by rw [h3, List.take_length]⟩
end Go.Proofs.YtkpjipohajplgaaGreatDoor.Fm
namespace Go.Proofs.YtkpjipohajplgaaGreatDoor.Fm
open Go.RowKit Go.Maps Go.Proofs.YtkpjipohajplgaaGreatDoor.Bd
theorem rreiter_early (vars : Int) (l : List Nat) (v : Value) (w : World) (hx : UIn w v l) (hc : (30 < l.length /\ l.length <= 200) \/ 250 < l.length \/ (6 < vars /\ vars <= 24)) :
    Calls Tryz.prog 3 #[.int .i64 vars, v] w fun e w' => e = .returned (.bool true) /\ w' = w := by
  obtain ⟨a, cap, rfl, hx⟩ := hx
  clear hx
  generalize l.length = n at *
  by_cases c1 : 30 < n
  · have i1 : (n : Int) > 30 := by omega
    by_cases c2 : n <= 200
    · have i2 : (n : Int) <= 200 := by omega
      go_enter Tryz.func3, Tryz.ntmps3
      go_wp2
      go_ret
      exact ⟨rfl, rfl⟩
    · have i2 : ¬ (n : Int) <= 200 := by omega
      by_cases c3 : 250 < n
      · have i3 : (n : Int) > 250 := by omega
        go_enter Tryz.func3, Tryz.ntmps3
        go_wp2
        go_ret
        exact ⟨rfl, rfl⟩
      · have i3 : ¬ (n : Int) > 250 := by omega
        have i4 : vars > 6 := by omega
        have i5 : vars <= 24 := by omega
        go_enter Tryz.func3, Tryz.ntmps3
        go_wp2
        go_ret
        exact ⟨rfl, rfl⟩
  · have i1 : ¬ (n : Int) > 30 := by omega
    have i3 : ¬ (n : Int) > 250 := by omega
    have i4 : vars > 6 := by omega
    have i5 : vars <= 24 := by omega
    go_enter Tryz.func3, Tryz.ntmps3
    go_wp2
    go_ret
    exact ⟨rfl, rfl⟩
end Go.Proofs.YtkpjipohajplgaaGreatDoor.Fm
