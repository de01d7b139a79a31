/- Eliminate, as the reference has it. -/
import Derived.Test.YtcmmoinkhodjfaaDoorPfOnce
import Derived.Test.YtcmmoinkhodjfaaDoorPfElimW
namespace Go.Proofs.YtcmmoinkhodjfaaDoor
open Go.RowKit Go.Deep

theorem clsF_len (P : List (Nat × Nat)) : (clsF P).length = P.length := by unfold clsF; rw [List.length_map]
theorem clsF_at {P : List (Nat × Nat)} {i : Nat} (h : i < P.length) : (clsF P).getD i [] = clauseF (P.getD i (0, 0)) := by
  unfold clsF
  rw [List.getD_eq_getElem?_getD, List.getElem?_map, List.getD_eq_getElem?_getD, List.getElem?_eq_getElem h]
  rfl
theorem clsF_near (P : List (Nat × Nat)) : ∀ d ∈ clsF P, (∀ x ∈ d, Near x) ∧ d.length ≤ 24 := fun d hd => by
  obtain ⟨s, _, rfl⟩ := List.mem_map.1 hd
  exact cl_near s
theorem KR.at' {H B : Nat} {w : World} {K : List (List Int)} {a : Option Addr} {cap : Nat} (h : KR H B w (.slice a K.length cap) K) {i : Nat} (hi : i < K.length) : ∃ ad a' cap', a = some ad ∧ ad.block < w.heap.size ∧ w.cell? (ad.add i) = some (.slice a' (K.getD i []).length cap') ∧ (K.getD i []).length ≤ cap' ∧ cap' ≤ 9223372036854775807 ∧ IntsK 0 w a' (K.getD i []) := by
  obtain ⟨cs, h1, h2, _⟩ := h
  obtain ⟨a', cap', q1, q2, q3, q4⟩ := h2.2 i hi
  rcases h1.2 with ⟨e, e0⟩ | ⟨g, cap2, cur, e, hB, hg, -⟩
  · omega
  · injection e with e1 e2 e3
    subst e1 e3
    refine ⟨_, a', cap', rfl, (Array.getElem?_eq_some_iff.1 hg).1, ?_, q2, q3, q4⟩
    have := h1.cellAt i (by omega)
    rw [add_plain, Nat.zero_add, this, q1]
/-- The clauses, those of the next round, and how many. -/
structure RE (H : Nat) (w wr : World) (P : List (Nat × Nat)) (aV : Value) (n : List (Nat × Nat)) (nV : Value) (s : List Int) (sV : Value) : Prop where
  all : KR 0 w.heap.size wr aV (clsF P)
  now : KR H w.heap.size wr nV (clsF n)
  row : wr.ownsRow w.heap.size 3 1 sV s.length (icells s)
  an : ApartP aV nV
  low : ∀ k, sV.ownBlock = some k → k < H
  hH : H ≤ wr.heap.size
  below : Below w.heap.size w wr
theorem apart_nil (v : Value) : ApartP v (.slice none 0 0) := by
  cases hk : v.ownBlock with
  | none => exact Or.inl hk
  | some k => exact Or.inr (by rw [hk]; simp [Value.ownBlock])
section
variable {H : Nat} {w wr w' : World} {P n n' : List (Nat × Nat)} {aV nV sV v' : Value} {s : List Int}
theorem RE.new (h : RE H w wr P aV n nV s sV) (hb : Below wr.heap.size wr w') : RE H w w' P aV n nV s sV :=
  ⟨h.all.new hb, h.now.new hb, row_new' h.row hb, h.an, h.low, Nat.le_trans h.hH hb.size, h.below.trans (hb.mono h.below.size)⟩
theorem RE.once (h : RE H w wr P aV n nV s sV) (hr : OnceR H w.heap.size wr nV v' (clsF n') w') : RE H w w' P aV n' v' s sV := by
  obtain ⟨ca, ha, _⟩ := h.all
  obtain ⟨cn, hn, _⟩ := h.now
  refine ⟨h.all.kept (fun k hk => hr.fr k (h.all.lt k hk).2 (apart_ne h.an hk)) hr.kp, hr.kr, row_block h.row fun k hk => hr.fr k (h.row.lt k hk).2 (fun e => ?_), h.an.grown ha (Nat.le_refl _) hr.own, h.low, Nat.le_trans h.hH hr.kp.size, h.below.trans hr.below⟩
  rcases ownBlocks_ne h.row hn (by decide) with q | q
  · rw [q] at hk; cases hk
  · exact q (hk.trans e.symm)
theorem RE.turn (h : RE H w wr P aV n nV s sV) : RE wr.heap.size w wr n nV [] (.slice none 0 0) s sV :=
  ⟨h.now.down (Nat.zero_le _), KR.nil _ _ _, h.row, apart_nil _, fun k hk => (h.row.lt k hk).2, Nat.le_refl _, h.below⟩
theorem RE.app {sV' : Value} {x : Int} (h : RE H w wr P aV n nV s sV) (hown : w'.ownsRow w.heap.size 3 1 sV' (s.length + 1) (icells s ++ [.int .i64 x])) (hg : wr.grownBy w' sV.ownBlock) : RE w'.heap.size w w' n nV [] (.slice none 0 0) (s ++ [x]) sV' := by
  obtain ⟨cn, hn, _⟩ := h.now
  have e : icells (s ++ [x]) = icells s ++ [.int .i64 x] := by unfold icells; rw [List.map_append]; rfl
  refine ⟨(h.now.ints (fun k hk => hg.block k (h.now.lt k hk).2 (fun e => ?_)) hg.size (fun k hk hH => hg.block k hk (fun e => ?_))).down (Nat.zero_le _), KR.nil _ _ _, by rw [e]; simpa using hown, apart_nil _, fun k hk => (hown.lt k hk).2, Nat.le_refl _, h.below.grown hg h.below.size (fun k hk => (h.row.lt k hk).1)⟩
  · rcases ownBlocks_ne h.row hn (by decide) with q | q
    · rw [q] at e; cases e
    · exact q (e.symm.trans hk.symm)
  · have := h.low k e.symm
    omega
end
theorem RE.start (w : World) : RE w.heap.size w w [] (.slice none 0 0) [] (.slice none 0 0) [] (.slice none 0 0) :=
  ⟨KR.nil _ _ _, KR.nil _ _ _, World.ownsRow_nil _ _ _ _, apart_nil _, fun k hk => by simp [Value.ownBlock] at hk, Nat.le_refl _, Below.refl _ _⟩
def RElimAns (n : Nat) (l : List (List Int)) (e : Ending) (w' : World) : Prop :=
  (elimK (firstL l) n = none ∧ e = .returned (.tuple #[.slice none 0 0, .bool false, .int .i64 4])) ∨
  (∃ s m, elimK (firstL l) n = some (s, m) ∧ ∃ a c, e = .returned (.tuple #[.slice a s.length c, .bool (decide (m = [])), .int .i64 0]) ∧ IntsIn w' a s)
theorem now_next {l : List (List Int)} {k : Nat} {s : List Int} {P : List (Nat × Nat)} (h : elimK (firstL l) k = some (s, P)) (hf : ¬ 2000 < (nowF P k).length) : elimK (firstL l) (k + 1) = some (s ++ [((nowF P k).length : Int)], nowF P k) := by
  have e := now_few.2 hf
  rw [e] at hf ⊢
  exact elimK_next h hf
theorem now_stop {l : List (List Int)} {k n : Nat} {s : List Int} {P : List (Nat × Nat)} (h : elimK (firstL l) k = some (s, P)) (hf : 2000 < (nowF P k).length) (hn : k < n) : elimK (firstL l) n = none :=
  elimK_stop h (now_few.1.1 hf) hn

set_option maxRecDepth 100000 in
set_option maxHeartbeats 4000000 in
theorem relim_any (n : Nat) (hn : n ≤ 24) (l : List (List Int)) (h200 : l.length ≤ 200) (a1 : Option Addr) (c1 : Nat) (w : World) (hI : ClsIn w a1 l) (hw : Tab w) :
    Calls Tryd.prog 23 #[.int .i64 (n : Int), .slice a1 l.length c1] w fun e w' => RElimAns n l e w' ∧ Below w.heap.size w w' := by
  have HI := Lib.hid hI
  have HW := Lib.hid hw
  have HST := Lib.hid (RE.start w)
  have HON : Hid (∀ (H : Nat) (wr : World) (P : List (Nat × Nat)) (aV : Value) (m : List (Nat × Nat)) (na : Option Addr) (nc : Nat) (s : List Int) (sV : Value) (c : List Int) (a : Option Addr) (cap : Nat), RE H w wr P aV m (.slice na (clsF m).length nc) s sV → Tidy m → m.length ≤ 10000000 → IntsIn wr a c → c.length ≤ 9223372036854775807 → Calls Tryd.prog 43 #[.slice na (clsF m).length nc, .slice a c.length cap] wr fun e w' => ∃ v', e = .returned v' ∧ RE H w w' P aV (addF m (sidesF c)) v' s sV ∧ Kp 0 wr w') := fun H wr P aV m na nc s sV c a cap hre ht hl hi hm => by
    refine (once_any H w.heap.size (clsF m) (clsF_near m) (by rw [clsF_len]; exact hl) c na a nc cap wr hre.below.size hre.hH hre.now hi hm (HW.out.below hre.below)).mono fun e w' ⟨v', he, hr⟩ => ⟨v', he, ?_⟩
    rw [once_add ht] at hr
    exact ⟨hre.once hr, hr.kp⟩
  obtain ⟨i0, hin, hz0, hz1, hz2⟩ := info_parts infoInt
  clear hI hw
  go_enter Tryd.func23, Tryd.ntmps23
  go_wp2_with fail
  go_loopw [7, 23] (fun nV iV wr => ∃ (i : Nat) (m : List (Nat × Nat)), i ≤ l.length ∧ iV = .int .i64 (i : Int) ∧ m = addsF [] ((l.take i).map sidesF) ∧ RE w.heap.size w wr [] (.slice none 0 0) m nV [] (.slice none 0 0)) (fun _ iV _ => l.length - (intOf iV).toNat)
  case atStart => exact ⟨0, [], Nat.zero_le _, rfl, rfl, HST.out⟩
  case round =>
    obtain ⟨i, m, hi, rfl, hme, hre⟩ := hrel
    obtain ⟨wo, rfl⟩ : ∃ wo, wo = wr := ⟨_, rfl⟩
    obtain ⟨na, nc, rfl, -, -⟩ := hre.now.form
    have HRE := Lib.hid hre
    have hml : m.length ≤ 200 := by
      rw [hme]
      have := adds_le [] ((l.take i).map sidesF)
      rw [List.length_map, List.length_take, List.length_nil] at this
      omega
    have HTD : Hid (Tidy m) := by
      show Tidy m
      rw [hme]
      exact tidy_adds (fun s hs => by cases hs) fun s hs => by
        obtain ⟨c, _, rfl⟩ := List.mem_map.1 hs
        exact sides_small c
    have HME := Lib.hid hme
    clear hre HST hme
    by_cases hlt : i < l.length
    · obtain ⟨ad, ca, cc, rfl, hb0, hc0, hd1, hd2, hdi⟩ := HI.out.below HRE.out.below i hlt
      have HSS : Hid (addsF [] ((l.take (i + 1)).map sidesF) = addF (addsF [] ((l.take i).map sidesF)) (sidesF (l.getD i []))) := by
        show _ = _
        rw [List.take_add_one, List.getElem?_eq_getElem hlt, List.getD_eq_getElem?_getD, List.getElem?_eq_getElem hlt, List.map_append, adds_append]
        rfl
      have HCA := Lib.hid (HON.out _ wo _ _ m na nc _ _ (l.getD i []) ca cc HRE.out HTD.out (by omega) hdi (by omega))
      generalize (l.getD i []) = c at *
      clear hdi
      go_wp2_with fail
      refine HCA.out.mono ?_
      rintro e w2 ⟨v', rfl, hr2, -⟩
      have HR2 := Lib.hid hr2
      obtain ⟨va, vc, rfl, -, -⟩ := hr2.now.form
      clear hr2 HCA
      go_wp2
      go_roundw
      case rel => exact ⟨i + 1, addF m (sidesF c), hlt, by go_num, by rw [HSS.out, ← HME.out], HR2.out⟩
      case measure => simp [intOf]; omega
    · obtain rfl : i = l.length := by omega
      have HFL : Hid (m = firstL l) := by show _ = _; rw [HME.out, List.take_length]; rfl
      have HS2 : Hid (∃ H, RE H w wo m (.slice na (clsF m).length nc) [] (.slice none 0 0) [] (.slice none 0 0)) := ⟨_, HRE.out.turn⟩
      have HEK : Hid (elimK (firstL l) 0 = some ([], m)) := by show _ = _; rw [HFL.out]; rfl
      have hm2 : m.length ≤ 2000 := by omega
      clear HME HRE HFL hml hi hlt
      go_wp2_with fail
      go_loopw [7, 10, 32] (fun aV sV kV wr => ∃ (k : Nat) (s : List Int) (P : List (Nat × Nat)), k ≤ n ∧ kV = .int .i64 (k : Int) ∧ elimK (firstL l) k = some (s, P) ∧ Tidy P ∧ P.length ≤ 2000 ∧ ∃ H, RE H w wr P aV [] (.slice none 0 0) s sV) (fun _ _ kV _ => n - (intOf kV).toNat)
      case atStart => exact ⟨0, [], m, Nat.zero_le _, rfl, HEK.out, HTD.out, hm2, HS2.out⟩
      case round =>
        obtain ⟨k, s, P, hk, rfl, hek, htp, hpl, H, hre⟩ := hrel
        obtain ⟨wq, rfl⟩ : ∃ wo, wo = wr := ⟨_, rfl⟩
        obtain ⟨aa, ac, rfl, -, -⟩ := hre.all.form
        obtain ⟨sa, sc, rfl, hsc1, hsc2⟩ := row_form hre.row
        have HRE := Lib.hid hre
        have HK := Lib.hid hek
        have HTP := Lib.hid htp
        have hsl : s.length ≤ n := by rw [elimK_len hek]; exact hk
        have hcl := clsF_len P
        have hcp : (clsF P).length ≤ 2000 := by omega
        have HCL := Lib.hid hcl
        clear hre hek htp HS2 HEK hcl HTD hm2
        by_cases hlt : k < n
        · have hk24 : k < 24 := by omega
          have HYN : Hid (∀ t ∈ P, (decide ((k : Int) + 1 ∈ clauseF t) = t.1.testBit k) ∧ (decide (-(k : Int) - 1 ∈ clauseF t) = t.2.testBit k)) := fun t ht => ⟨cl_yes (HTP.out t ht).2 hk24, by rw [show -(k : Int) - 1 = -((k : Int) + 1) by omega]; exact cl_no (HTP.out t ht).2 hk24⟩
          have HAT : Hid (∀ i, i < (clsF P).length → i < P.length ∧ (clsF P).getD i [] = clauseF (P.getD i (0, 0)) ∧ P.getD i (0, 0) ∈ P) := fun i hi => ⟨by rw [← HCL.out]; exact hi, clsF_at (by rw [← HCL.out]; exact hi), getD_mem (by rw [← HCL.out]; exact hi)⟩
          go_wp2_with fail
          go_loopw [12, 37] (fun nV iV wr => ∃ (i : Nat) (m : List (Nat × Nat)), i ≤ (clsF P).length ∧ iV = .int .i64 (i : Int) ∧ m = (P.take i).foldl (restG k) [] ∧ Tidy m ∧ m.length ≤ i ∧ RE H w wr P (.slice aa (clsF P).length ac) m nV s (.slice sa s.length sc)) (fun _ iV _ => (clsF P).length - (intOf iV).toNat)
          case atStart => exact ⟨0, [], Nat.zero_le _, rfl, rfl, (fun s hs => by cases hs), Nat.le_refl _, HRE.out⟩
          case round =>
            obtain ⟨i, m, hi, rfl, hme, htm, hml, hre⟩ := hrel
            obtain ⟨wo, rfl⟩ : ∃ wo, wo = wr := ⟨_, rfl⟩
            obtain ⟨na, nc, rfl, -, -⟩ := hre.now.form
            have HR := Lib.hid hre
            have HM := Lib.hid hme
            have HTM := Lib.hid htm
            clear hre hme htm HRE
            by_cases hil : i < (clsF P).length
            · obtain ⟨ad, ca, cc, rfl, hb0, hc0, hd1, hd2, hdi⟩ := HR.out.all.at' hil
              obtain ⟨hip, hge, hgm⟩ := HAT.out i hil
              rw [hge] at hc0 hd1 hdi
              obtain ⟨hy, hz⟩ := HYN.out _ hgm
              have HTT := Lib.hid (HTP.out _ hgm)
              have HFO : Hid ((P.take (i + 1)).foldl (restG k) [] = restG k m (P.getD i (0, 0))) := by show _ = _; rw [foldl_take _ _ hip, HM.out]
              have hrl := restG_len k m (P.getD i (0, 0))
              have HTR := Lib.hid (tidy_rest (v := k) HTM.out HTT.out.1)
              generalize (P.getD i (0, 0)) = t at *
              have hsd := sides_clauseF HTT.out.1 HTT.out.2
              have hcn := (cl_near t).2
              have HH1 := Lib.hid (has_any (clauseF t) ((k : Int) + 1) ca cc wo hdi.ints (by omega))
              have HH2 := Lib.hid (has_any (clauseF t) (-(k : Int) - 1) ca cc wo hdi.ints (by omega))
              rw [hy] at HH1
              rw [hz] at HH2
              have HCA := Lib.hid (HON.out _ wo _ _ m na nc _ _ (clauseF t) ca cc HR.out HTM.out (by omega) hdi.ints (by omega))
              rw [hsd] at HCA
              generalize clauseF t = c at *
              clear hy hz hsd hge hgm hdi
              cases ht1 : t.1.testBit k with
              | true =>
                rw [ht1] at HH1
                have e : restG k m t = m := by unfold restG; rw [if_neg (by rw [ht1]; simp)]
                rw [e] at HFO hrl HTR
                clear e ht1
                go_wp2_with fail
                refine HH1.out.mono ?_
                rintro e w2 ⟨rfl, rfl⟩
                clear HH1
                go_wp2
                go_roundw
                case rel => exact ⟨i + 1, m, hil, by go_num, HFO.out.symm, HTM.out, by omega, HR.out⟩
                case measure => simp [intOf]; omega
              | false =>
                rw [ht1] at HH1
                cases ht2 : t.2.testBit k with
                | true =>
                  rw [ht2] at HH2
                  have e : restG k m t = m := by unfold restG; rw [if_neg (by rw [ht2]; simp)]
                  rw [e] at HFO hrl HTR
                  clear e ht1 ht2
                  go_wp2_with fail
                  refine HH1.out.mono ?_
                  rintro e w2 ⟨rfl, rfl⟩
                  clear HH1
                  go_wp2_with fail
                  refine HH2.out.mono ?_
                  rintro e w2 ⟨rfl, rfl⟩
                  clear HH2
                  go_wp2
                  go_roundw
                  case rel => exact ⟨i + 1, m, hil, by go_num, HFO.out.symm, HTM.out, by omega, HR.out⟩
                  case measure => simp [intOf]; omega
                | false =>
                  rw [ht2] at HH2
                  have e : restG k m t = addF m t := by unfold restG; rw [if_pos ⟨ht1, ht2⟩]
                  rw [e] at HFO hrl HTR
                  clear e ht1 ht2
                  go_wp2_with fail
                  refine HH1.out.mono ?_
                  rintro e w2 ⟨rfl, rfl⟩
                  clear HH1
                  go_wp2_with fail
                  refine HH2.out.mono ?_
                  rintro e w2 ⟨rfl, rfl⟩
                  clear HH2
                  go_wp2_with fail
                  refine HCA.out.mono ?_
                  rintro e w2 ⟨v', rfl, hr2, -⟩
                  have HR2 := Lib.hid hr2
                  obtain ⟨va, vc, rfl, -, -⟩ := hr2.now.form
                  clear hr2 HCA
                  go_wp2
                  go_roundw
                  case rel => exact ⟨i + 1, addF m t, hil, by go_num, HFO.out.symm, HTR.out, by omega, HR2.out⟩
                  case measure => simp [intOf]; omega
            · obtain rfl : i = (clsF P).length := by omega
              have HM0 : Hid (m = addsF [] (restF P k)) := by
                show _ = _
                rw [HM.out, HCL.out, List.take_length, restG_is]
              have hm2 : m.length ≤ 2000 := by omega
              clear HM hml hi hil HYN
              obtain ⟨m0, hm0⟩ : ∃ m0, m0 = m := ⟨_, rfl⟩
              rw [← hm0] at HM0
              have HSM : Hid (m = (P.take 0).foldl (rowG k P) m0) := by rw [hm0]; rfl
              clear hm0
              have HBA : Hid (Tidy m) := HTM.out
              go_wp2_with fail
              go_loopw [12, 60] (fun nV iV wr => ∃ (i : Nat) (m : List (Nat × Nat)), i ≤ (clsF P).length ∧ iV = .int .i64 (i : Int) ∧ m = (P.take i).foldl (rowG k P) m0 ∧ Tidy m ∧ m.length ≤ 2000 + i * 2000 ∧ RE H w wr P (.slice aa (clsF P).length ac) m nV s (.slice sa s.length sc)) (fun _ iV _ => (clsF P).length - (intOf iV).toNat)
              case atStart => exact ⟨0, m, Nat.zero_le _, rfl, HSM.out, HBA.out, by omega, HR.out⟩
              case round =>
                obtain ⟨i, m, hi, rfl, hme, htm, hml, hre⟩ := hrel
                obtain ⟨w4, rfl⟩ : ∃ wo, wo = wr := ⟨_, rfl⟩
                obtain ⟨na, nc, rfl, -, -⟩ := hre.now.form
                have HR4 := Lib.hid hre
                have HM := Lib.hid hme
                have HT4 := Lib.hid htm
                clear hre hme htm HR HTM HSM HBA
                by_cases hil : i < (clsF P).length
                · obtain ⟨ad, pa, pc, rfl, hb0, hc0, hd1, hd2, hdi⟩ := HR4.out.all.at' hil
                  obtain ⟨hip, hge, hgm⟩ := HAT.out i hil
                  rw [hge] at hc0 hd1 hdi
                  have HTA := Lib.hid (HTP.out _ hgm)
                  have HFO : Hid ((P.take (i + 1)).foldl (rowG k P) m0 = rowG k P m (P.getD i (0, 0))) := by show _ = _; rw [foldl_take _ _ hip, HM.out]
                  generalize (P.getD i (0, 0)) = ta at *
                  have hca := (cl_near ta).2
                  have HIA := Lib.hid hdi
                  have HRS : Hid (∀ t ∈ P, resF (clauseF ta) (clauseF t) (k : Int) = if ta.1.testBit k = true ∧ t.2.testBit k = true then (if alwaysF (resolveF ta t k) = true then (8, []) else (0, clauseF (resolveF ta t k))) else (1, [])) := fun t ht => res_cl HTA.out (HTP.out t ht) hk24
                  obtain ⟨A, hA⟩ : ∃ A, clauseF ta = A := ⟨_, rfl⟩
                  rw [hA] at hc0 hd1 HIA HRS hca
                  clear hdi hge hgm hA
                  have HS5 : Hid (m = (P.take 0).foldl (pairG k ta) m) := rfl
                  obtain ⟨m1, hm1⟩ : ∃ m1, m1 = m := ⟨_, rfl⟩
                  have HM1 : Hid (m = (P.take 0).foldl (pairG k ta) m1) := by rw [hm1]; rfl
                  rw [← hm1] at HFO
                  clear hm1 HS5 HM
                  go_wp2_with fail
                  go_loopw [12, 66] (fun nV jV wr => ∃ (j : Nat) (m : List (Nat × Nat)), j ≤ (clsF P).length ∧ jV = .int .i64 (j : Int) ∧ m = (P.take j).foldl (pairG k ta) m1 ∧ Tidy m ∧ m.length ≤ 2000 + i * 2000 + j ∧ IntsK 0 wr pa A ∧ RE H w wr P (.slice (some ad) (clsF P).length ac) m nV s (.slice sa s.length sc)) (fun _ jV _ => (clsF P).length - (intOf jV).toNat)
                  case atStart => exact ⟨0, m, Nat.zero_le _, rfl, HM1.out, HT4.out, by omega, HIA.out, HR4.out⟩
                  case round =>
                    obtain ⟨j, m, hj, rfl, hme, htm, hml2, hia, hre⟩ := hrel
                    obtain ⟨w5, rfl⟩ : ∃ wo, wo = wr := ⟨_, rfl⟩
                    obtain ⟨na, nc, rfl, -, -⟩ := hre.now.form
                    have HR5 := Lib.hid hre
                    have HM := Lib.hid hme
                    have HT5 := Lib.hid htm
                    have HIA5 := Lib.hid hia
                    clear hre hme htm hia HR4 HT4 HM1 HIA hc0
                    by_cases hjl : j < (clsF P).length
                    · obtain ⟨ad2, qa, qc, had, hb02, hc02, hd12, hd22, hdi2⟩ := HR5.out.all.at' hjl
                      obtain rfl := Option.some.inj had
                      obtain ⟨hjp, hge, hgm⟩ := HAT.out j hjl
                      rw [hge] at hc02 hd12 hdi2
                      have HRB := Lib.hid (HRS.out _ hgm)
                      have HTB := Lib.hid (HTP.out _ hgm)
                      have HFJ : Hid ((P.take (j + 1)).foldl (pairG k ta) m1 = pairG k ta m (P.getD j (0, 0))) := by show _ = _; rw [foldl_take _ _ hjp, HM.out]
                      generalize (P.getD j (0, 0)) = tb at *
                      have hcb := (cl_near tb).2
                      have HRV := Lib.hid (rresolve_any A (clauseF tb) (k : Int) pa qa pc qc w5 HIA5.out.ints (by omega) hdi2.ints (by omega))
                      have hpl2 := pairG_len k ta m tb
                      have HTPR := Lib.hid (tidy_pair (v := k) HT5.out HTA.out.1 HTB.out.1)
                      have hrs := resolve_small (v := k) HTA.out.1 HTB.out.1
                      have HRSM := Lib.hid hrs
                      rw [HRB.out] at HRV
                      generalize clauseF tb = Bc at *
                      clear hdi2 hge hgm HRB hrs had
                      by_cases hbit : ta.1.testBit k = true ∧ tb.2.testBit k = true
                      · rw [if_pos hbit] at HRV
                        cases hal : alwaysF (resolveF ta tb k) with
                        | true =>
                          rw [hal, if_pos rfl] at HRV
                          have e : pairG k ta m tb = m := by unfold pairG addF; rw [if_pos hbit, if_pos (Or.inl hal)]
                          rw [e] at HFJ
                          clear e hbit hal hpl2 HTPR
                          go_wp2_with fail
                          refine HRV.out.mono ?_
                          rintro e w6 ⟨⟨ra, rc, rfl, -⟩, hb6⟩
                          have HR6 := Lib.hid (HR5.out.new hb6)
                          have HI6 := Lib.hid (HIA5.out.kp (Kp.new hb6))
                          clear hb6 HRV
                          go_wp2
                          go_roundw
                          case rel => exact ⟨j + 1, m, hjl, by go_num, HFJ.out.symm, HT5.out, by omega, HI6.out, HR6.out⟩
                          case measure => simp [intOf]; omega
                        | false =>
                          rw [hal, if_neg (by simp)] at HRV
                          have e : pairG k ta m tb = addF m (resolveF ta tb k) := by unfold pairG; rw [if_pos hbit]
                          rw [e] at HFJ hpl2 HTPR
                          have hsd := sides_clauseF HRSM.out hal
                          have hcr := (cl_near (resolveF ta tb k)).2
                          have HSD := Lib.hid hsd
                          generalize resolveF ta tb k = r at *
                          generalize clauseF r = C at *
                          clear e hbit hal hsd
                          go_wp2_with fail
                          refine HRV.out.mono ?_
                          rintro e w6 ⟨⟨ra, rc, rfl, hrow⟩, hb6⟩
                          simp only at hrow
                          have HR6 := Lib.hid (HR5.out.new hb6)
                          have HI6 := Lib.hid (HIA5.out.kp (Kp.new hb6))
                          have hin6 := ints_row hrow
                          have HCA := Lib.hid (HON.out _ w6 _ _ m na nc _ _ C ra rc HR6.out HT5.out (by omega) hin6 (by omega))
                          rw [HSD.out] at HCA
                          clear hb6 HRV hrow hin6
                          go_wp2_with fail
                          refine HCA.out.mono ?_
                          rintro e w7 ⟨v', rfl, hr7, hkp7⟩
                          have HR7 := Lib.hid hr7
                          have HI7 := Lib.hid (HI6.out.kp hkp7)
                          obtain ⟨va, vc, rfl, -, -⟩ := hr7.now.form
                          clear hr7 hkp7 HCA HR6
                          go_wp2
                          go_roundw
                          case rel => exact ⟨j + 1, addF m r, hjl, by go_num, HFJ.out.symm, HTPR.out, by omega, HI7.out, HR7.out⟩
                          case measure => simp [intOf]; omega
                      · rw [if_neg hbit] at HRV
                        have e : pairG k ta m tb = m := by unfold pairG; rw [if_neg hbit]
                        rw [e] at HFJ
                        clear e hbit hpl2 HTPR
                        go_wp2_with fail
                        refine HRV.out.mono ?_
                        rintro e w6 ⟨⟨ra, rc, rfl, -⟩, hb6⟩
                        have HR6 := Lib.hid (HR5.out.new hb6)
                        have HI6 := Lib.hid (HIA5.out.kp (Kp.new hb6))
                        clear hb6 HRV
                        go_wp2
                        go_roundw
                        case rel => exact ⟨j + 1, m, hjl, by go_num, HFJ.out.symm, HT5.out, by omega, HI6.out, HR6.out⟩
                        case measure => simp [intOf]; omega
                    · obtain rfl : j = (clsF P).length := by omega
                      have HMJ : Hid (m = rowG k P m1 ta) := by
                        show _ = _
                        rw [HM.out, HCL.out, List.take_length]
                        rfl
                      clear HM
                      go_wp2
                      go_roundw
                      case rel => exact ⟨i + 1, m, hil, by go_num, by rw [HFO.out]; exact HMJ.out, HT5.out, by omega, HR5.out⟩
                      case measure => simp [intOf]; omega
                · obtain rfl : i = (clsF P).length := by omega
                  have HNW : Hid (m = nowF P k) := by
                    show _ = _
                    rw [HM.out, HCL.out, List.take_length, rows_is k P HTP.out, HM0.out]
                    rfl
                  have hcm := clsF_len m
                  have HCM := Lib.hid hcm
                  have hml3 : (clsF m).length ≤ 10000000 := by omega
                  clear HM HM0 hml hcm
                  by_cases htm : 2000 < (clsF m).length
                  · have HNO : Hid (elimK (firstL l) n = none) := now_stop HK.out (by rw [← HNW.out, ← HCM.out]; exact htm) hlt
                    go_wp2
                    refine bodyPost_ret (v := .tuple #[.slice none 0 0, .bool false, .int .i64 4]) (by simp [results, Tryd.results23, go_sem]) rfl ?_
                    exact ⟨Or.inl ⟨HNO.out, rfl⟩, HR4.out.below⟩
                  · have HNE : Hid (elimK (firstL l) (k + 1) = some (s ++ [((clsF m).length : Int)], m)) := by
                      show _ = _
                      have := now_next HK.out (by rw [← HNW.out, ← HCM.out]; exact htm)
                      rw [← HNW.out, ← HCM.out] at this
                      exact this
                    have HTN : Hid (Tidy m) := HT4.out
                    have hmm : m.length ≤ 2000 := by have := HCM.out; omega
                    have hw4 := HR4.out.below.size
                    have HROW : Hid (w4.ownsRow w.heap.size 3 1 (.slice sa s.length sc) s.length (icells s)) := HR4.out.row
                    go_wp2_with (first | (at_builtin; refine wpList_append_own_at _ rfl _ _ 22 rfl w.heap.size 3 i0 (.int .i64 0) 1 8 Tryd.underlying22 hin hz0 hz1 hz2 rfl (by decide) _ _ _ rfl (HROW.out.alloc _) ⟨w4.heap.size, 0, none⟩ 1 1 [.int .i64 ((clsF m).length : Int)] rfl rfl ?c1 ?c2 ?c3 ?c4 ?c5 ?_))
                    case c1 => exact cell_lit _ _ _
                    case c2 => exact one_lit _
                    case c3 => unfold maxLen; omega
                    case c4 => omega
                    case c5 => simp; omega
                    intro v7 w7 hown7 hgrow7 _ _
                    have hre7 := (HR4.out.new (below_new _ _)).app hown7 hgrow7
                    have HR7 : Hid (∃ H, RE H w w7 m (.slice na (clsF m).length nc) [] (.slice none 0 0) (s ++ [((clsF m).length : Int)]) v7) := ⟨_, hre7⟩
                    clear hown7 hgrow7 hre7
                    go_wp2
                    go_roundw
                    case rel => exact ⟨k + 1, _, m, hlt, by go_num, HNE.out, HTN.out, hmm, HR7.out⟩
                    case measure => simp [intOf]; omega
        · obtain rfl : k = n := by omega
          have HDD : Hid ((((clsF P).length : Int) == 0) = decide (P = [])) := by
            show _ = _
            rw [HCL.out]
            cases P with
            | nil => rfl
            | cons x P =>
              rw [show decide (x :: P = []) = false from by simp, beq_eq_false_iff_ne]
              simp; omega
          go_wp2
          go_ret3
          exact ⟨Or.inr ⟨s, P, HK.out, sa, sc, by rw [← HDD.out]; rfl, ints_row HRE.out.row⟩, HRE.out.below⟩
end Go.Proofs.YtcmmoinkhodjfaaDoor
