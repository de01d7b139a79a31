/- What is told is so: plain. -/
import Derived.Test.YtpmpnbbihmgdpaaGreatDoorCtLine
import Derived.Test.YtpmpnbbihmgdpaaGreatDoorCtMem
import Derived.Test.YtpmpnbbihmgdpaaGreatDoorClTold
set_option maxHeartbeats 2000000
set_option maxRecDepth 100000
namespace Go.Proofs.YtpmpnbbihmgdpaaGreatDoor
section
open Go.RowKit
theorem check1_any (x v : Int) (h0 : 0 <= v) (h1 : v <= 24) (b : Nat) (w : World) (hc : w.cell? ⟨b, 0, none⟩ = some (.int .i64 v)) :
  Calls Tryz.prog 132 #[.int .i64 x, .pointer (some ⟨b, 0, none⟩)] w fun e w' => e = .returned (.bool (!litB v x)) /\ w = w' := by
 have HL := Lib.hid (literal_any x v h0 h1 w)
 generalize litB v x = B at *
 go_enter Tryz.func132, Tryz.ntmps132
 go_wp2_with fail
 refine HL.out.mono ?_
 rintro e w1 ⟨rfl, rfl⟩
 go_wp2
 go_ret
 exact ⟨by first | rfl | simp, rfl⟩
theorem ent_check1 : ∀ args w, (callFunc 132 args).run Tryz.prog w = .ok (.enter 132 args) w := by intro args w; kernel_rfl
def badC (v : Int) (c : List Int) : Bool := decide (48 < c.length) || c.any (fun x => !litB v x)
def codeC (c : List Int) : Int := if 48 < c.length then 4 else 2
def checkF (v : Int) (l : List (List Int)) : Int × Int :=
 if v < 0 \/ 24 < v then (2, -1) else if 200 < l.length then (4, -1) else match l.findIdx? (badC v) with | some i => (codeC (l.getD i []), (i : Int)) | none => (0, -1)
theorem checkF_at {v : Int} {l : List (List Int)} (h0 : 0 <= v) (h1 : v <= 24) (hl : l.length <= 200) {k : Nat} (hk : k < l.length) (h2 : ∀ j, j < k -> badC v (l.getD j []) = false) (h3 : badC v (l.getD k []) = true) : checkF v l = (codeC (l.getD k []), (k : Int)) := by
 have : l.findIdx? (badC v) = some k := by
  rw [List.findIdx?_eq_some_iff_getElem]
  refine ⟨hk, ?_, fun j hj => ?_⟩
  ·rw [List.getD_eq_getElem?_getD, List.getElem?_eq_getElem hk] at h3; exact h3
  ·have := h2 j hj
   rw [List.getD_eq_getElem?_getD, List.getElem?_eq_getElem (by omega)] at this
   simpa using this
 unfold checkF
 rw [if_neg (by omega), if_neg (by omega), this]
theorem checkF_ok {v : Int} {l : List (List Int)} (h0 : 0 <= v) (h1 : v <= 24) (hl : l.length <= 200) (h2 : ∀ j, j < l.length -> badC v (l.getD j []) = false) : checkF v l = (0, -1) := by
 have : l.findIdx? (badC v) = none := by
  rw [List.findIdx?_eq_none_iff]
  intro x hx
  obtain ⟨j, hj, rfl⟩ := List.getElem_of_mem hx
  have := h2 j hj
  rw [List.getD_eq_getElem?_getD, List.getElem?_eq_getElem hj] at this
  simpa using this
 unfold checkF
 rw [if_neg (by omega), if_neg (by omega), this]
theorem check_any (v : Int) (l : List (List Int)) (a : Option Addr) (cap : Nat) (w : World) (hI : ClsIn w a l) (hm : l.length <= 9223372036854775807) :
  Calls Tryz.prog 69 #[.int .i64 v, .slice a l.length cap] w fun e w' => ∃ er, e = .returned er /\ ErrIs w' er (checkF v l).1 (checkF v l).2 /\ Below w.heap.size w w' := by
 have hb0 := below_new w (.cells #[.int .i64 v] 3)
 by_cases hv : v < 0 \/ 24 < v
 ·have e : checkF v l = (2, -1) := by unfold checkF; rw [if_pos hv]
  rw [e]
  have fin : Calls Tryz.prog 69 #[.int .i64 v, .slice a l.length cap] w fun e w' => e = .returned (.iface 34 (.int .i64 2)) /\ Below w.heap.size w w' := by
   have HB := Lib.hid hb0
   clear hb0 e hI
   by_cases h : v < 0
   ·go_enter Tryz.func69, Tryz.ntmps69
    go_wp2
    go_ret
    exact ⟨rfl, HB.out⟩
   ·have h2 : 24 < v := by omega
    clear hv
    go_enter Tryz.func69, Tryz.ntmps69
    go_wp2
    go_ret
    exact ⟨rfl, HB.out⟩
  exact fin.mono fun e w' ⟨he, hb⟩ => ⟨_, he, Or.inr (Or.inl ⟨by omega, rfl, rfl⟩), hb⟩
 have hv0 : 0 <= v := by omega
 have hv1 : v <= 24 := by omega
 clear hv
 by_cases hl : 200 < l.length
 ·have e : checkF v l = (4, -1) := by unfold checkF; rw [if_neg (by omega), if_pos hl]
  rw [e]
  have fin : Calls Tryz.prog 69 #[.int .i64 v, .slice a l.length cap] w fun e w' => e = .returned (.iface 34 (.int .i64 4)) /\ Below w.heap.size w w' := by
   have HB := Lib.hid hb0
   clear hb0 e hI
   go_enter Tryz.func69, Tryz.ntmps69
   go_wp2
   go_ret
   exact ⟨rfl, HB.out⟩
  exact fin.mono fun e w' ⟨he, hb⟩ => ⟨_, he, Or.inr (Or.inl ⟨by omega, rfl, rfl⟩), hb⟩
 have HI := Lib.hid hI
 have HB := Lib.hid hb0
 have HV : Hid (∀ W, Below (w.heap.size + 1) (w.alloc (.cells #[.int .i64 v] 3)) W -> W.cell? ⟨w.heap.size, 0, none⟩ = some (.int .i64 v)) := fun W hW => (hW.cell (p := ⟨w.heap.size, 0, none⟩) (by simp)).trans (by simp)
 clear hI hb0
 go_enter Tryz.func69, Tryz.ntmps69
 go_wp2_with fail
 go_loopw [20] (fun kV wr => ∃ k : Nat, k <= l.length /\ kV = .int .i64 (k : Int) /\ (∀ j, j < k -> badC v (l.getD j []) = false) /\ Below (w.heap.size + 1) (w.alloc (.cells #[.int .i64 v] 3)) wr) (fun kV _ => l.length - (intOf kV).toNat)
 case atStart => exact ⟨0, Nat.zero_le _, rfl, fun j h => by omega, Below.refl _ _⟩
 case round =>
  obtain ⟨k, hk, rfl, h1, hbr⟩ := hrel
  have hbw : Below w.heap.size w wr := HB.out.trans (hbr.mono (Nat.le_succ _))
  have hcv := HV.out _ hbr
  have H1 := Lib.hid h1
  have HBR := Lib.hid hbr
  have HBW := Lib.hid hbw
  have hws := hbw.size
  have hws1 := hbr.size
  rw [World.size_alloc] at hws1
  clear h1 hbr hbw
  by_cases hlt : k < l.length
  ·obtain ⟨ad, a', cap', rfl, hl', hc, g1, g2, g3⟩ := HI.out.below HBW.out k hlt
   have HG := Lib.hid g3
   clear g3
   generalize hx : l.getD k [] = c at *
   have HX := Lib.hid hx
   clear hx
   by_cases h48 : 48 < c.length
   ·have hres : checkF v l = (4, (k : Int)) := by
     rw [checkF_at hv0 hv1 (by omega) hlt H1.out (by rw [HX.out]; simp [badC, h48]), HX.out]; simp [codeC, h48]
    have HRES := Lib.hid hres
    have hbx := HBW.out.trans ((below_new wr (.cells #[.int .i64 4, .int .i64 (k : Int)] 195)).mono hws)
    have HBX := Lib.hid hbx
    clear hres hbx
    go_wp2
    go_ret
    refine ⟨_, rfl, ?_, HBX.out⟩
    rw [HRES.out]
    exact Or.inr (Or.inr ⟨by show (4 : Int) ≠ 0; omega, wr.heap.size, by simp, rfl, by simp, by simp⟩)
   ·have HC := Lib.hid (cf_ints 132 #[.pointer (some ⟨w.heap.size, 0, none⟩)] (fun x => !litB v x) c a' cap' wr (by omega) ent_check1 HG.out (fun W i hW hi => (check1_any (c.getD i 0) v hv0 hv1 w.heap.size W ((hW.cell (p := ⟨w.heap.size, 0, none⟩) (by show w.heap.size < _; omega)).trans hcv)).mono fun e w' ⟨he, hw⟩ => ⟨he, hw ▸ Below.refl _ _⟩))
    cases hp : c.any (fun x => !litB v x) with
    | true =>
     rw [hp] at HC
     have hres : checkF v l = (2, (k : Int)) := by
      rw [checkF_at hv0 hv1 (by omega) hlt H1.out (by rw [HX.out]; unfold badC; rw [hp]; simp), HX.out]; simp [codeC, h48]
     have HRES := Lib.hid hres
     clear hres hp
     go_wp2_with fail
     refine HC.out.mono ?_
     rintro e w1 ⟨rfl, hb1⟩
     have hbw1 := HBW.out.trans (hb1.mono hws)
     have hbx := hbw1.trans ((below_new w1 (.cells #[.int .i64 2, .int .i64 (k : Int)] 195)).mono hbw1.size)
     have HBX := Lib.hid hbx
     clear hbx hbw1 hb1 HC
     go_wp2
     go_ret
     refine ⟨_, rfl, ?_, HBX.out⟩
     rw [HRES.out]
     exact Or.inr (Or.inr ⟨by show (2 : Int) ≠ 0; omega, w1.heap.size, by simp, rfl, by simp, by simp⟩)
    | false =>
     rw [hp] at HC
     have HBC : Hid (badC v c = false) := by show badC v c = false; unfold badC; rw [hp]; simp; omega
     clear hp
     go_wp2_with fail
     refine HC.out.mono ?_
     rintro e w1 ⟨rfl, hb1⟩
     have HB1 : Hid (Below (w.heap.size + 1) (w.alloc (.cells #[.int .i64 v] 3)) w1) := HBR.out.trans (hb1.mono hws1)
     clear hb1 HC
     go_wp2
     go_roundw
     case rel => exact ⟨k + 1, hlt, by go_num, fun j hj => (by
      rcases Nat.lt_succ_iff_lt_or_eq.1 hj with e | e
      ·exact H1.out j e
      ·rw [e, HX.out]; exact HBC.out), HB1.out⟩
     case measure => simp [intOf]; omega
  ·obtain rfl : k = l.length := by omega
   have hres := checkF_ok hv0 hv1 (by omega) H1.out
   have HRES := Lib.hid hres
   clear hres
   go_wp2
   go_ret
   exact ⟨_, rfl, by rw [HRES.out]; exact Or.inl ⟨rfl, rfl, rfl⟩, HBW.out⟩
end
section
open Go.RowKit Go.Deep
theorem check_fine {v : Int} {l : List (List Int)} (h : (checkF v l).1 = 0) : 0 <= v /\ v <= 24 /\ l.length <= 200 /\ LitsL v l /\ checkF v l = (0, -1) /\ ∀ c ∈ l, c.length <= 48 := by
 unfold checkF at h ⊢
 by_cases h1 : v < 0 \/ 24 < v
 ·rw [if_pos h1] at h; cases h
 ·by_cases h2 : 200 < l.length
  ·rw [if_neg h1, if_pos h2] at h; cases h
  ·rw [if_neg h1, if_neg h2] at h ⊢
   cases h3 : l.findIdx? (badC v) with
   | some i =>
    rw [h3] at h
    simp only [codeC] at h
    split at h <;> omega
   | none =>
    rw [List.findIdx?_eq_none_iff] at h3
    refine ⟨by omega, by omega, by omega, fun c hc x hx => ?_, rfl, fun c hc => ?_⟩
    ·have := h3 c hc
     unfold badC at this
     rw [Bool.or_eq_false_iff, List.any_eq_false] at this
     simpa using this.2 x hx
    ·have := h3 c hc
     unfold badC at this
     rw [Bool.or_eq_false_iff] at this
     have := of_decide_eq_false this.1
     omega
end
section
open Go.RowKit Go.Deep
structure St where
 told : List Int
 decs : List (Int × List Int)
 prf : List (List Int)
inductive Res where
 | sat (told : List Int)
 | unsat (prf : List (List Int))
 | limit
def refC (decs : List (Int × List Int)) : List Int := decs.map fun d => -d.1
def leastF (v : Nat) (told : List Int) : Int := idxF (fun i => tv told i == 0) (List.range v)
def stepF (v : Nat) (l : List (List Int)) (s : St) : St ⊕ Res :=
 if (nextF s.told (l ++ s.prf)).2 ≠ 0 then .inl { s with told := s.told ++ [(nextF s.told (l ++ s.prf)).2] }
 else if 0 <= (nextF s.told (l ++ s.prf)).1 then
  match s.decs.getLast? with
  | none => .inr (.unsat (s.prf ++ [refC s.decs]))
  | some d => if s.prf.length + 1 = 2000 then .inr .limit else .inl ⟨d.2, s.decs.dropLast, s.prf ++ [refC s.decs]⟩
 else if leastF v s.told < 0 then .inr (.sat s.told)
 else .inl ⟨s.told ++ [leastF v s.told + 1], s.decs ++ [(leastF v s.told + 1, s.told)], s.prf⟩
inductive Run (v : Nat) (l : List (List Int)) : St -> Res -> Prop
 | done {s : St} {r : Res} (h : stepF v l s = .inr r) : Run v l s r
 | go {s s' : St} {r : Res} (h : stepF v l s = .inl s') (hr : Run v l s' r) : Run v l s r
theorem Run.at_done {v : Nat} {l : List (List Int)} {s : St} {r r' : Res} (h : Run v l s r) (hd : stepF v l s = .inr r') : r = r' := by
 cases h with
 | done h => rw [hd] at h; cases h; rfl
 | go h _ => rw [hd] at h; cases h
theorem Run.at_go {v : Nat} {l : List (List Int)} {s s' : St} {r : Res} (h : Run v l s r) (hd : stepF v l s = .inl s') : Run v l s' r := by
 cases h with
 | done h => rw [hd] at h; cases h
 | go h hr => rw [hd] at h; cases h; exact hr
def GoodD (v : Nat) (k : Nat) (d : Int × List Int) : Prop := Cons d.2 /\ Lits v d.2 /\ k + free d.2 <= 24 /\ litB v d.1 = true
structure Good (v : Nat) (s : St) : Prop where
 cons : Cons s.told
 lits : Lits v s.told
 few : s.decs.length + free s.told <= 24
 pl : s.prf.length < 2000
 litsP : LitsL v s.prf
 ds : ∀ k d, s.decs[k]? = some d -> GoodD v k d
theorem free_le (told : List Int) : free told <= 24 := by
 unfold free
 refine Nat.le_trans List.countP_le_length ?_
 simp
theorem least_is {v : Nat} {told : List Int} : (leastF v told = -1 /\ ∀ i, i < v -> tv told i ≠ 0) \/ ∃ k : Nat, leastF v told = (k : Int) /\ k < v /\ tv told k = 0 /\ ∀ i, i < k -> tv told i ≠ 0 := by
 unfold leastF
 rcases idxF_cases (fun i => tv told i == 0) (List.range v) 0 with ⟨h, h1⟩ | ⟨k, h, hk, h1, h2⟩
 ·exact Or.inl ⟨h, fun i hi => by simpa using h1 i (List.mem_range.2 hi)⟩
 ·rw [List.length_range] at hk
  have e : (List.range v).getD k 0 = k := by simp [List.getD_eq_getElem?_getD, hk]
  rw [e] at h1
  refine Or.inr ⟨k, h, hk, by simpa using h1, fun i hi => ?_⟩
  have := h2 i (by rw [List.take_range, List.mem_range]; omega)
  simpa using this
theorem litsL_append {v : Int} {l m : List (List Int)} (h1 : LitsL v l) (h2 : LitsL v m) : LitsL v (l ++ m) := fun c hc => by
 rcases List.mem_append.1 hc with h | h
 ·exact h1 c h
 ·exact h2 c h
theorem refC_lits {v : Nat} {s : St} (h : Good v s) : Lits v (refC s.decs) := by
 intro x hx
 unfold refC at hx
 obtain ⟨d, hd, rfl⟩ := List.mem_map.1 hx
 obtain ⟨k, hk⟩ := List.getElem?_of_mem hd
 have := (h.ds k d hk).2.2.2
 rw [litB_iff] at *
 omega
def mu (s : St) : Nat := (2000 - s.prf.length) * 25 + free s.told
theorem step_good {v : Nat} {l : List (List Int)} (hv : v <= 24) (hl : LitsL v l) {s s' : St} (h : Good v s) (e : stepF v l s = .inl s') : Good v s' /\ mu s' < mu s := by
 unfold stepF at e
 have hlp := litsL_append hl h.litsP
 by_cases h1 : (nextF s.told (l ++ s.prf)).2 ≠ 0
 ·rw [if_pos h1] at e
  injection e with e
  subst e
  obtain ⟨q1, q2, q3, q4, q5⟩ := next_step hlp h.cons h.lits (i := (nextF s.told (l ++ s.prf)).1) (x := (nextF s.told (l ++ s.prf)).2) rfl h1
  have hf := free_tell (lit_24 (by omega) q1) q2 q3
  have := h.few
  exact ⟨⟨q4, q5, by show s.decs.length + free (s.told ++ _) <= 24; omega, h.pl, h.litsP, h.ds⟩, by unfold mu; show (2000 - s.prf.length) * 25 + free (s.told ++ _) < _; omega⟩
 ·rw [if_neg h1] at e
  by_cases h2 : 0 <= (nextF s.told (l ++ s.prf)).1
  ·rw [if_pos h2] at e
   cases hd : s.decs.getLast? with
   | none => rw [hd] at e; cases e
   | some d =>
    rw [hd] at e
    by_cases h3 : s.prf.length + 1 = 2000
    ·simp only [if_pos h3] at e; cases e
    ·simp only [if_neg h3] at e
     injection e with e
     subst e
     have hne : s.decs ≠ [] := fun e => by rw [e] at hd; cases hd
     have hpos := List.length_pos_iff.2 hne
     have hlast : s.decs[s.decs.length - 1]? = some d := by rw [<- List.getLast?_eq_getElem?]; exact hd
     obtain ⟨g1, g2, g3, g4⟩ := h.ds _ _ hlast
     have hpl := h.pl
     refine ⟨⟨g1, g2, by show s.decs.dropLast.length + free d.2 <= 24; rw [List.length_dropLast]; exact g3, by show (s.prf ++ [_]).length < 2000; simp; omega, litsL_append h.litsP (fun c hc => by rw [List.mem_singleton] at hc; subst hc; exact refC_lits h), fun k d' hk => ?_⟩, ?_⟩
     ·have hk' : s.decs.dropLast[k]? = some d' := hk
      rw [List.getElem?_dropLast] at hk'
      split at hk'
      ·exact h.ds k d' hk'
      ·cases hk'
     ·have := free_le d.2
      unfold mu
      show (2000 - (s.prf ++ [refC s.decs]).length) * 25 + free d.2 < (2000 - s.prf.length) * 25 + free s.told
      simp only [List.length_append, List.length_singleton]
      have : 2000 - s.prf.length = (2000 - (s.prf.length + 1)) + 1 := by omega
      rw [this, Nat.add_mul]
      omega
  ·rw [if_neg h2] at e
   by_cases h3 : leastF v s.told < 0
   ·rw [if_pos h3] at e; cases e
   ·rw [if_neg h3] at e
    injection e with e
    subst e
    rcases least_is (v := v) (told := s.told) with ⟨h4, _⟩ | ⟨k, h4, hk, h5, _⟩
    ·omega
    ·have hlt : litB v ((k : Int) + 1) = true := by rw [litB_iff]; omega
     obtain ⟨n1, n2⟩ := tv_zero.1 h5
     have hf := free_tell (lit_24 (by omega) hlt) n1 n2
     have := h.few
     rw [h4]
     refine ⟨⟨cons_tell h.cons (by omega) n2, lits_tell h.lits hlt, ?_, h.pl, h.litsP, fun j d hj => ?_⟩, ?_⟩
     ·show (s.decs ++ [_]).length + free (s.told ++ _) <= 24
      simp only [List.length_append, List.length_singleton]; omega
     ·have hj' : (s.decs ++ [((k : Int) + 1, s.told)])[j]? = some d := hj
      rw [List.getElem?_append] at hj'
      split at hj'
      ·exact h.ds j d hj'
      ·rename_i hge
       have hjl : j - s.decs.length = 0 := by
        rcases Nat.eq_zero_or_pos (j - s.decs.length) with h | h
        ·exact h
        ·rw [List.getElem?_eq_none (by simp; omega)] at hj'; cases hj'
       rw [hjl] at hj'
       simp at hj'
       subst hj'
       exact ⟨h.cons, h.lits, by show j + free s.told <= 24; omega, hlt⟩
     ·unfold mu
      show (2000 - s.prf.length) * 25 + free (s.told ++ _) < _
      omega
theorem run_ex {v : Nat} {l : List (List Int)} (hv : v <= 24) (hl : LitsL v l) : ∀ (n : Nat) (s : St), mu s <= n -> Good v s -> ∃ r, Run v l s r := by
 intro n
 induction n with
 | zero =>
  intro s hm hg
  cases e : stepF v l s with
  | inr r => exact ⟨r, .done e⟩
  | inl s' => have := (step_good hv hl hg e).2; omega
 | succ n ih =>
  intro s hm hg
  cases e : stepF v l s with
  | inr r => exact ⟨r, .done e⟩
  | inl s' =>
   obtain ⟨g, hlt⟩ := step_good hv hl hg e
   obtain ⟨r, hr⟩ := ih s' (by omega) g
   exact ⟨r, .go e hr⟩
def st0 : St := ⟨[], [], []⟩
theorem good0 (v : Nat) : Good v st0 := ⟨cons_nil, lits_nil v, by decide, by decide, (fun c hc => by cases hc), (fun k d h => by simp [st0] at h)⟩
end
section
open Go.RowKit Go.Deep
theorem litH_neg' {vals : Nat} {x : Int} (hx : x ≠ 0) : litH vals (-x) = !litH vals x := by
 unfold litH
 by_cases hp : 0 < x
 ·rw [if_neg (by omega), if_pos hp, Int.neg_neg]
 ·rw [if_pos (by omega), if_neg hp, Bool.not_not]
def Sat (vals : Nat) (xs : List Int) : Prop := ∀ x ∈ xs, litH vals x = true
def SatL (vals : Nat) (l : List (List Int)) : Prop := ∀ c ∈ l, ∃ x ∈ c, litH vals x = true
theorem next_sound {v : Int} {l : List (List Int)} (hl : LitsL v l) {told : List Int} (hc : Cons told) {vals : Nat} (hs : SatL vals l) (ht : Sat vals told) : (0 <= (nextF told l).1 -> (nextF told l).2 ≠ 0) /\ ((nextF told l).2 ≠ 0 -> litH vals (nextF told l).2 = true) := by
 have hn := next_is (l := l) hc
 generalize nextF told l = r at hn
 cases hn with
 | none => exact ⟨fun h => by simp at h, fun h => absurd rfl h⟩
 | bad hk h =>
  exfalso
  obtain ⟨x, hx, hh⟩ := hs _ (getD_mem hk)
  have h0 := (litB_iff.1 (hl _ (getD_mem hk) x hx)).1
  have := ht _ (h x hx).2
  rw [litH_neg' h0, hh] at this
  cases this
 | one hk hx h0 h1 h =>
  rename_i k x
  refine ⟨fun _ => (litB_iff.1 (hl _ (getD_mem hk) _ hx)).1, fun _ => ?_⟩
  obtain ⟨y, hy, hh⟩ := hs _ (getD_mem hk)
  by_cases e : y = x
  ·rw [<- e]; exact hh
  ·exfalso
   have hy0 := (litB_iff.1 (hl _ (getD_mem hk) y hy)).1
   have := ht _ (h y hy e).2
   rw [litH_neg' hy0, hh] at this
   cases this
theorem sat_tell {vals : Nat} {told : List Int} {x : Int} (h : Sat vals told) (hx : litH vals x = true) : Sat vals (told ++ [x]) := fun y hy => by
 simp only [List.mem_append, List.mem_singleton] at hy
 rcases hy with hy | hy
 ·exact h y hy
 ·rw [hy]; exact hx
end
end Go.Proofs.YtpmpnbbihmgdpaaGreatDoor
