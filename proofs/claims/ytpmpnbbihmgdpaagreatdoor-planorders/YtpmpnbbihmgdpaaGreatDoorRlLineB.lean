/- The reference: LineParse, lines of packages. -/
import Derived.Test.YtpmpnbbihmgdpaaGreatDoorPlRChange
import Derived.Test.YtpmpnbbihmgdpaaGreatDoorPlROrdP
import Derived.Test.YtpmpnbbihmgdpaaGreatDoorCtAsc
import Derived.Test.YtpmpnbbihmgdpaaGreatDoorSvTurns
import Derived.Test.YtpmpnbbihmgdpaaGreatDoorPlROrder
import Derived.Test.YtpmpnbbihmgdpaaGreatDoorCtParse
import Derived.Test.YtpmpnbbihmgdpaaGreatDoorPlSmall
import Derived.Test.YtpmpnbbihmgdpaaGreatDoorErTell
import Derived.Deep.QuietTactic
import Derived.BigQuiet
import Derived.Test.YtpmpnbbihmgdpaaGreatDoorCtLineB
import Derived.Test.YtpmpnbbihmgdpaaGreatDoorRlLine
import Derived.Test.YtpmpnbbihmgdpaaGreatDoorSvShelfC
set_option maxHeartbeats 4000000
set_option maxRecDepth 100000
namespace Go.Proofs.YtpmpnbbihmgdpaaGreatDoor
section
open Go.RowKit Sv
def nowF (M : Nat) (l : List Nat) : Nat := l.foldl (fun n x => n ^^^ 2 ^ x) M
theorem nowF_test : ∀ (l : List Nat) (M y : Nat), l.Nodup -> (nowF M l).testBit y = (M.testBit y ^^ decide (y ∈ l))
 | [], M, y, _ => by simp [nowF]
 | x :: l, M, y, h => by
  obtain ⟨h1, h2⟩ := List.nodup_cons.1 h
  have ih := nowF_test l (M ^^^ 2 ^ x) y h2
  show (nowF (M ^^^ 2 ^ x) l).testBit y = _
  rw [ih, Nat.testBit_xor, Nat.testBit_two_pow, Bool.xor_assoc]
  congr 1
  by_cases e : x = y
  ·subst e
   simp [h1]
  ·have e' : y ≠ x := fun h => e h.symm
   simp [e, e']
theorem nodup_take' {l : List Nat} (hn : l.Nodup) {i : Nat} (hi : i < l.length) : l.getD i 0 ∉ l.take i := fun hm => by
 obtain ⟨k, hk, e⟩ := List.getElem_of_mem hm
 rw [List.length_take] at hk
 rw [List.getElem_take] at e
 have e2 : l.getD i 0 = l[i] := by rw [List.getD_eq_getElem?_getD, List.getElem?_eq_getElem hi]; rfl
 exact (List.pairwise_iff_getElem.1 hn) k i (by omega) hi (by omega) (by rw [e, e2])
def stepsF (a b : List Nat) (fr tt : Nat) : List (Nat × Bool) := (goF a tt).map (fun i => (i, false)) ++ (comeF b fr).map fun i => (i, true)
structure StIs (n M1 M2 : Nat) (st : List (Nat × Bool)) : Prop where
 lt : ∀ p ∈ st, p.1 < n
 comes : ∀ i, i < st.length -> (st.getD i (0, false)).2 = !(nowF M1 ((st.map Prod.fst).take i)).testBit (st.getD i (0, false)).1
 both : ∀ p ∈ st, (M1 &&& M2).testBit p.1 = false
 prev : ∀ i, i + 1 < st.length -> (st.getD i (0, false)).2 = true -> (st.getD (i + 1) (0, false)).2 = true
 fin : nowF M1 (st.map Prod.fst) = M2
 len : st.length <= 48
theorem steps_fst (a b : List Nat) (fr tt : Nat) : (stepsF a b fr tt).map Prod.fst = goF a tt ++ comeF b fr := by
 unfold stepsF
 rw [List.map_append, List.map_map, List.map_map]
 have e1 : (Prod.fst ∘ fun i : Nat => (i, false)) = id := by funext i; rfl
 have e2 : (Prod.fst ∘ fun i : Nat => (i, true)) = id := by funext i; rfl
 rw [e1, e2, List.map_id, List.map_id]
theorem goF_mem {ls : List Ln} {its : List It} {M1 M2 : Nat} {a : List Nat} (h : OrdIs ls its M1 a) (y : Nat) : y ∈ goF a M2 ↔ M1.testBit y = true /\ M2.testBit y = false := by
 unfold goF
 rw [List.mem_filter, List.mem_reverse, h.mem, decide_eq_true_iff]
 simp
theorem comeF_mem {ls : List Ln} {its : List It} {M1 M2 : Nat} {b : List Nat} (h : OrdIs ls its M2 b) (y : Nat) : y ∈ comeF b M1 ↔ M2.testBit y = true /\ M1.testBit y = false := by
 unfold comeF
 rw [List.mem_filter, h.mem, decide_eq_true_iff]
 simp
theorem steps_is {ls : List Ln} {its : List It} {M1 M2 : Nat} {a b : List Nat} (ha : OrdIs ls its M1 a) (hb : OrdIs ls its M2 b) : StIs its.length M1 M2 (stepsF a b M1 M2) := by
 have hfst := steps_fst a b M1 M2
 have hnd : ((stepsF a b M1 M2).map Prod.fst).Nodup := by
  rw [hfst, List.nodup_append]
  refine ⟨?_, ?_, fun x hx y hy e => ?_⟩
  ·unfold goF; exact List.Nodup.sublist List.filter_sublist ((List.reverse_perm a).nodup_iff.2 ha.nodup)
  ·unfold comeF; exact List.Nodup.sublist List.filter_sublist hb.nodup
  ·subst e
   have h1 := (goF_mem ha x).1 hx
   have h2 := (comeF_mem hb x).1 hy
   rw [h1.1] at h2
   cases h2.2
 have hmem : ∀ p ∈ stepsF a b M1 M2, (p.2 = false /\ M1.testBit p.1 = true /\ M2.testBit p.1 = false /\ p.1 ∈ a) \/ (p.2 = true /\ M2.testBit p.1 = true /\ M1.testBit p.1 = false /\ p.1 ∈ b) := fun p hp => by
  rcases List.mem_append.1 hp with hp | hp
  ·obtain ⟨i, hi, rfl⟩ := List.mem_map.1 hp
   obtain ⟨h1, h2⟩ := (goF_mem ha i).1 hi
   exact Or.inl ⟨rfl, h1, h2, by unfold goF at hi; exact List.mem_reverse.1 (List.mem_filter.1 hi).1⟩
  ·obtain ⟨i, hi, rfl⟩ := List.mem_map.1 hp
   obtain ⟨h1, h2⟩ := (comeF_mem hb i).1 hi
   exact Or.inr ⟨rfl, h1, h2, by unfold comeF at hi; exact (List.mem_filter.1 hi).1⟩
 have gm : ∀ i, i < (stepsF a b M1 M2).length -> (stepsF a b M1 M2).getD i (0, false) ∈ stepsF a b M1 M2 := fun i hi => by
  rw [List.getD_eq_getElem?_getD, List.getElem?_eq_getElem hi]; exact List.getElem_mem hi
 refine ⟨fun p hp => ?_, fun i hi => ?_, fun p hp => ?_, fun i hi h => ?_, ?_, ?_⟩
 ·rcases hmem p hp with ⟨_, _, _, h⟩ | ⟨_, _, _, h⟩
  ·exact ha.lt _ h
  ·exact hb.lt _ h
 ·have hnt : (((stepsF a b M1 M2).map Prod.fst).take i).Nodup := List.Nodup.sublist (List.take_sublist _ _) hnd
  rw [nowF_test _ _ _ hnt]
  have hout : ((stepsF a b M1 M2).getD i (0, false)).1 ∉ ((stepsF a b M1 M2).map Prod.fst).take i := by
   have := nodup_take' hnd (i := i) (by rw [List.length_map]; exact hi)
   rwa [show ((stepsF a b M1 M2).map Prod.fst).getD i 0 = ((stepsF a b M1 M2).getD i (0, false)).1 by simp [List.getD_eq_getElem?_getD, hi]] at this
  rw [decide_eq_false hout, Bool.xor_false]
  rcases hmem _ (gm i hi) with ⟨h1, h2, _, _⟩ | ⟨h1, _, h2, _⟩
  ·rw [h1, h2]; rfl
  ·rw [h1, h2]; rfl
 ·rw [Nat.testBit_and]
  rcases hmem p hp with ⟨_, _, h2, _⟩ | ⟨_, _, h2, _⟩
  ·rw [h2, Bool.and_false]
  ·rw [h2, Bool.false_and]
 ·unfold stepsF at h hi ⊢
  rw [List.getD_eq_getElem?_getD] at h ⊢
  rw [List.length_append, List.length_map, List.length_map] at hi
  rcases Nat.lt_or_ge i (goF a M2).length with hlt | hge
  ·rw [List.getElem?_append_left (by rw [List.length_map]; exact hlt)] at h
   simp [hlt] at h
  ·rw [List.getElem?_append_right (by rw [List.length_map]; omega)]
   rw [List.length_map]
   simp [show i + 1 - (goF a M2).length < (comeF b M1).length by omega]
 ·apply Nat.eq_of_testBit_eq
  intro y
  rw [nowF_test _ _ _ hnd, hfst]
  have e : decide (y ∈ goF a M2 ++ comeF b M1) = ((M1.testBit y && !M2.testBit y) || (M2.testBit y && !M1.testBit y)) := by
   rw [Bool.eq_iff_iff, decide_eq_true_iff, List.mem_append, goF_mem ha, comeF_mem hb]
   simp
  rw [e]
  cases M1.testBit y <;> cases M2.testBit y <;> rfl
 ·unfold stepsF goF comeF
  rw [List.length_append, List.length_map, List.length_map]
  have h1 := List.length_filter_le (fun i => !M2.testBit i) a.reverse
  have h2 := List.length_filter_le (fun i => !M1.testBit i) b
  rw [List.length_reverse] at h1
  have := ha.len
  have := hb.len
  omega
theorem chR_two {its : List It} {ls : List Ln} {fr tt : Nat} : (∃ k1 k2, chR its ls fr tt = .error k1 /\ chR its ls tt fr = .error k2) \/ (∃ a b, ordR its ls fr = .ok a /\ ordR its ls tt = .ok b /\ chR its ls fr tt = .ok (stepsF a b fr tt) /\ chR its ls tt fr = .ok (stepsF b a tt fr)) := by
 unfold chR stepsF
 cases ordR its ls fr with
 | error k =>
  cases ordR its ls tt with
  | error k2 => exact Or.inl ⟨_, _, rfl, rfl⟩
  | ok b => exact Or.inl ⟨_, _, rfl, rfl⟩
 | ok a =>
  cases ordR its ls tt with
  | error k2 => exact Or.inl ⟨_, _, rfl, rfl⟩
  | ok b => exact Or.inr ⟨a, b, rfl, rfl, rfl, rfl⟩
end
section
open Go.RowKit Go.Deep Sv
theorem stCells_at : ∀ (l : List (Nat × Bool)) (i : Nat), i < l.length -> (stCells l)[i * 2]? = some (.int .i64 ((l.getD i (0, false)).1 : Int)) /\ (stCells l)[i * 2 + 1]? = some (.bool (l.getD i (0, false)).2)
 | [], i, h => by simp at h
 | x :: l, 0, _ => ⟨rfl, rfl⟩
 | x :: l, i + 1, h => by
  have ih := stCells_at l i (by simpa using h)
  have e : stCells (x :: l) = [.int .i64 (x.1 : Int), .bool x.2] ++ stCells l := rfl
  rw [e, List.getElem?_append_right (by simp; omega), List.getElem?_append_right (by simp; omega)]
  simp only [List.length_cons, List.length_nil, Nat.zero_add, Nat.reduceAdd]
  rw [show (i + 1) * 2 - 2 = i * 2 by omega, show (i + 1) * 2 + 1 - 2 = i * 2 + 1 by omega]
  exact ih
end
section
open Sv
theorem lns_cut (s : ByteArray) : ∀ (f k : Nat), s.size <= k + f -> k <= s.size -> lnsF s f k = (cutB s ⟨#[10]⟩ f k).filter (fun x => decide (x.2.size ≠ 0)) := by
 intro f
 induction f with
 | zero =>
  intro k h1 h2
  obtain rfl : k = s.size := by omega
  simp [lnsF, cutB]
 | succ f ih =>
  intro k h1 h2
  have hL : (s.extract k s.size).data.toList = s.data.toList.drop k := ext_end s k
  have hsz : (s.extract k s.size).size = s.size - k := by simp [ByteArray.size_extract]
  rcases Nat.lt_or_ge k s.size with hk | hk
  ·rw [lnsF_step hk, cutB]
   by_cases hi : Lib.index (s.extract k s.size).data.toList [10] < 0
   ·have e : cutF (s.extract k s.size) 10 = (s.extract k s.size, ⟨#[]⟩) := by
     unfold cutF Lib.cut
     rw [if_neg (by omega)]
    rw [if_pos hi, e, lnsF_end (by simp only; omega)]
    by_cases h0 : (s.extract k s.size).size = 0
    ·omega
    ·simp only [if_neg h0, List.append_nil]
     rw [List.filter_cons, if_pos (decide_eq_true h0), List.filter_nil]
   ·obtain ⟨j, hj⟩ : ∃ j : Nat, Lib.index (s.extract k s.size).data.toList [10] = (j : Int) := ⟨(Lib.index (s.extract k s.size).data.toList [10]).toNat, by omega⟩
    have hroom := index_room (s.extract k s.size).data.toList [10] (by omega)
    rw [hj] at hroom
    have hlen : (s.extract k s.size).data.toList.length = s.size - k := by rw [Array.length_toList]; exact hsz
    simp only [List.length_cons, List.length_nil, Int.toNat_natCast] at hroom
    have e1 : (cutF (s.extract k s.size) 10).1 = s.extract k (k + j) := by
     unfold cutF Lib.cut
     rw [if_pos (by omega)]
     simp only
     rw [hj]
     refine ba_ext ?_
     simp only [Int.toNat_natCast]
     rw [hL, ext_list', List.take_drop]
    have e2 : (s.extract k (k + j)).size = j := by
     simp only [ByteArray.size_extract]
     omega
    rw [if_neg hi, e1, e2]
    simp only
    rw [hj]
    simp only [Int.toNat_natCast]
    rw [ih (k + j + 1) (by omega) (by omega)]
    show _ = List.filter _ (_ :: cutB s ⟨#[10]⟩ f (k + j + 1))
    rw [List.filter_cons]
    by_cases hj0 : j = 0
    ·rw [if_pos hj0, if_neg (by rw [e2]; simp [hj0])]; rfl
    ·rw [if_neg hj0, if_pos (by rw [e2]; simp [hj0])]; rfl
  ·obtain rfl : k = s.size := by omega
   rw [lnsF_end (Nat.le_refl _)]
   have he : (s.extract s.size s.size).data.toList = [] := by rw [hL]; simp
   rw [cutB]
   show [] = List.filter _ (if Lib.index (s.extract s.size s.size).data.toList [10] < 0 then _ else _)
   rw [he]
   have : Lib.index ([] : List UInt8) [10] < 0 := by decide
   rw [if_pos this]
   simp
end
section
open Go.RowKit Go.Shelf Sv
theorem rline_ver (s : ByteArray) (w : World) (hs : s.size <= 100000) (hw : Lb w) (hF : FineR w) (ad : Addr) (cap : Nat) (hK : KindsAt w ad cap) (K : Nat) (hK13 : K = 1 \/ K = 2 \/ K = 3) (hk : kindF (cutF s 32).1 = K) (ke : Int) (hver : versF (cutF (cutF (cutF s 32).2 32).2 32).1 = .error ke) : Calls Tryz.prog 99 #[.string s] w (RlRes w (.error (ke, none))) := by
 have hK4 : ((K : Int) == 4) = false := by rw [beq_eq_false_iff_ne]; omega
 have hK0 : ((K : Int) == 0) = false := by rw [beq_eq_false_iff_ne]; omega
 have k0 := (Blk.new w 54 z7).alloc (.cells #[.int .i64 0, .int .i64 0] 49)
 have k1 := Blk.new (w.alloc (.cells z7 54)) 49 #[.int .i64 0, .int .i64 0]
 rw [World.size_alloc] at k1
 have hB0 : Below w.heap.size w ((w.alloc (.cells z7 54)).alloc (.cells #[.int .i64 0, .int .i64 0] 49)) := ((Below.refl _ w).alloc (Nat.le_refl _) _).alloc (by simp) _
 have HK0 := Lib.hid k0
 have HK1 := Lib.hid k1
 have HB0 := Lib.hid hB0
 have HN1 := Lib.hid (fun W => rnext_any s W hs)
 have hz2 := (cutF_size s 32).2
 have HLW := Lib.hid hw
 have HFN := Lib.hid hF
 have HKD := Lib.hid hK
 obtain ⟨w1, hw1⟩ : ∃ w1, (cutF s 32).1 = w1 := ⟨_, rfl⟩
 obtain ⟨s2, hs2⟩ : ∃ s2, (cutF s 32).2 = s2 := ⟨_, rfl⟩
 rw [hw1] at hk HN1
 rw [hs2] at hz2 HN1
 have hz2' : s2.size <= 100000 := by omega
 have HKX : Hid (∀ k, 1 <= k -> k <= 4 -> ((⟨(wl k).toArray⟩ : ByteArray).toList == w1.toList) = decide (kindF w1 = k)) := fun k h1 h4 => kind_lt h1 h4
 rw [hk] at HKX
 have HN2 := Lib.hid (fun W => rnext_any s2 W hz2')
 have hz3 := (cutF_size s2 32).2
 obtain ⟨nm, hnm⟩ : ∃ nm, (cutF s2 32).1 = nm := ⟨_, rfl⟩
 obtain ⟨s3, hs3⟩ : ∃ s3, (cutF s2 32).2 = s3 := ⟨_, rfl⟩
 rw [hnm] at HN2
 rw [hs3] at hz3 HN2
 have hz3' : s3.size <= 100000 := by omega
 have HN3 := Lib.hid (fun W => rnext_any s3 W hz3')
 have hz4 := cutF_size s3 32
 obtain ⟨vw, hvw⟩ : ∃ vw, (cutF s3 32).1 = vw := ⟨_, rfl⟩
 obtain ⟨s4, hs4⟩ : ∃ s4, (cutF s3 32).2 = s4 := ⟨_, rfl⟩
 rw [hvw, hs4] at hz4 HN3
 have hz4' : s4.size <= 100000 := by omega
 have HVP0 : ∀ W, Below w.heap.size w W -> Calls Tryz.prog 108 #[.string vw] W fun e w' => e = .returned (rversV (versF vw)) /\ Below W.heap.size W w' := fun W hb => rvparse_any splitC vw W (by omega) (hw.below hb)
 rw [hs2, hs3, hvw] at hver
 rw [hver] at HVP0
 have hke := versF_err hver
 have hke' : (ke != 0) = true := by simpa using hke
 have HVP : Hid (∀ W, Below w.heap.size w W -> Calls Tryz.prog 108 #[.string vw] W fun e w' => e = .returned (.tuple #[.agg #[.int .i64 0, .int .i64 0, .int .i64 0], .int .i64 ke]) /\ Below W.heap.size W w') := HVP0
 clear HVP0 hke hver hz3 hz4 hnm hs3 hvw hs4
 clear k0 k1 hB0 hw hF hK hz2 hs
 go_enter Tryz.func99, Tryz.ntmps99
 go_wp2_with fail
 generalize (w.alloc (.cells z7 54)).alloc (.cells #[.int .i64 0, .int .i64 0] 49) = W0 at *
 refine (HN1.out _).mono ?_
 rintro e wA ⟨rfl, hbA⟩
 have hx := Blk.new wA 54 z7
 have hA : Below wA.heap.size wA (wA.alloc (.cells z7 54)) := (Below.refl _ _).alloc (Nat.le_refl _) _
 have hA0 : Below W0.heap.size W0 (wA.alloc (.cells z7 54)) := hbA.trans (hA.mono hbA.size)
 have hLR : LR w (wA.alloc (.cells z7 54)) wA.heap.size z7 := ⟨HK0.out.below hA0 HK0.out.lt, HK1.out.below hA0 HK1.out.lt, hx, Nat.lt_of_lt_of_le HK1.out.lt hbA.size, HB0.out.trans (hA0.mono HB0.out.size)⟩
 have HLR := Lib.hid hLR
 clear hbA hx hA hA0 hLR HN1 HK0 HK1 HB0
 go_wp2_with fail
 generalize wA.alloc (.cells z7 54) = W1 at *
 obtain ⟨b, hb⟩ : ∃ b, wA.heap.size = b := ⟨_, rfl⟩
 rw [hb] at HLR ⊢
 clear hb
 go_loopw [7] (fun kV wr => ∃ k : Nat, 1 <= k /\ k <= 5 /\ kV = .int .i64 (k : Int) /\ LR w wr b (x7 (kup K k) ⟨#[]⟩ 0 0 0 ⟨#[]⟩ (.slice none 0 0))) (fun kV _ => 5 - (intOf kV).toNat)
 case atStart => exact ⟨1, by omega, by omega, rfl, by rw [show kup K 1 = 0 by unfold kup; split <;> omega]; exact HLR.out⟩
 case round =>
  clear HLR
  obtain ⟨k, hk1, hk5, rfl, hLR⟩ := hrel
  have HL := Lib.hid hLR
  clear hLR
  by_cases hlt : k <= 4
  ·have hkd := HKD.out.below HL.out.B
   have g0 := hkd.c
   have g1 := hkd.s k (by omega)
   have hc := HKX.out k hk1 hlt
   have x0 : wr.cell? ⟨b, 0, none⟩ = some (.int .i64 ((kup K k : Nat) : Int)) := HL.out.x.cell 0
   have xf := HL.out.x.frozen 0
   clear hkd
   by_cases he : K = k
   ·have hst := HL.out.set 0 (.int .i64 (k : Int))
    have HST : Hid (LR w (wr.setCell ⟨b, 0, none⟩ (.int .i64 (k : Int))) b (x7 (kup K (k + 1)) ⟨#[]⟩ 0 0 0 ⟨#[]⟩ (.slice none 0 0))) := by
     have e : kup K (k + 1) = k := by unfold kup; rw [if_pos (by omega)]; exact he
     rw [e]; exact hst
    rw [decide_eq_true he] at hc
    generalize kup K k = KU at *
    generalize (⟨(wl k).toArray⟩ : ByteArray) = WK at *
    clear hst he
    go_wp2
    go_roundw
    case rel => exact ⟨k + 1, by omega, by omega, by go_num, HST.out⟩
    case measure => simp [intOf]; omega
   ·have HST : Hid (LR w wr b (x7 (kup K (k + 1)) ⟨#[]⟩ 0 0 0 ⟨#[]⟩ (.slice none 0 0))) := by
     have e : kup K (k + 1) = kup K k := by
      unfold kup
      by_cases h : K < k
      ·rw [if_pos h, if_pos (by omega)]
      ·rw [if_neg h, if_neg (by omega)]
     rw [e]; exact HL.out
    rw [decide_eq_false he] at hc
    generalize kup K k = KU at *
    generalize (⟨(wl k).toArray⟩ : ByteArray) = WK at *
    clear he
    go_wp2
    go_roundw
    case rel => exact ⟨k + 1, by omega, by omega, by go_num, HST.out⟩
    case measure => simp [intOf]; omega
  ·obtain rfl : k = 5 := by omega
   have hku : kup K 5 = K := by unfold kup; rw [if_pos (by omega)]
   rw [hku] at HL
   clear hku
   have xc0 : wr.cell? ⟨b, 0, none⟩ = some (.int .i64 (K : Int)) := HL.out.x.cell 0
   go_wp2_with fail
   refine (HN2.out _).mono ?_
   rintro e wB ⟨rfl, hb⟩
   have HLB := Lib.hid (HL.out.step hb)
   clear hb HN2 HL
   have xb0 : wB.cell? ⟨b, 0, none⟩ = some (.int .i64 (K : Int)) := HLB.out.x.cell 0
   have xb1 : wB.cell? ⟨b, 1, none⟩ = some (.string ⟨#[]⟩) := HLB.out.x.cell 1
   have xg1 := HLB.out.x.frozen 1
   have HL2 : Hid (LR w (wB.setCell ⟨b, 1, none⟩ (.string nm)) b (x7 K nm 0 0 0 ⟨#[]⟩ (.slice none 0 0))) := HLB.out.set 1 (.string nm)
   have y0 : (wB.setCell ⟨b, 1, none⟩ (.string nm)).cell? ⟨b, 0, none⟩ = some (.int .i64 (K : Int)) := HL2.out.x.cell 0
   clear HLB xc0
   go_wp2_with fail
   generalize wB.setCell ⟨b, 1, none⟩ (.string nm) = W2 at *
   clear xb0 xb1 xg1
   refine (HN3.out _).mono ?_
   rintro e wC ⟨rfl, hb⟩
   have HL3 := Lib.hid (HL2.out.step hb)
   have HV3 := Lib.hid (HVP.out _ HL3.out.B)
   clear hb HN3 HL2 y0 HVP
   go_wp2_with fail
   refine HV3.out.mono ?_
   rintro e wD ⟨rfl, hb⟩
   have HL4 := Lib.hid (HL3.out.step hb)
   have kv := Blk.new wD 44 #[.int .i64 0, .int .i64 0, .int .i64 0]
   have hbv : Below wD.heap.size wD (wD.alloc (.cells #[.int .i64 0, .int .i64 0, .int .i64 0] 44)) := (Below.refl _ _).alloc (Nat.le_refl _) _
   have HL := Lib.hid (HL4.out.step hbv)
   have HKV := Lib.hid kv
   clear hb hbv HL3 HL4 HV3 kv
   have HBR := Lib.hid (refBare ke (wD.alloc (.cells #[.int .i64 0, .int .i64 0, .int .i64 0] 44)))
   clear HKV
   go_wp2_with fail
   generalize wD.alloc (.cells #[.int .i64 0, .int .i64 0, .int .i64 0] 44) = W5 at *
   refine HBR.out.mono ?_
   rintro e wE ⟨rfl, hbE⟩
   have hE := HL.out.step hbE
   have zc0 : wE.cell? ⟨w.heap.size, 0, none⟩ = some (.int .i64 0) := hE.z.cell 0
   have zc1 : wE.cell? ⟨w.heap.size, 1, none⟩ = some (.string ⟨#[]⟩) := hE.z.cell 1
   have zc2 : wE.cell? ⟨w.heap.size, 2, none⟩ = some (.int .i64 0) := hE.z.cell 2
   have zc3 : wE.cell? ⟨w.heap.size, 3, none⟩ = some (.int .i64 0) := hE.z.cell 3
   have zc4 : wE.cell? ⟨w.heap.size, 4, none⟩ = some (.int .i64 0) := hE.z.cell 4
   have zc5 : wE.cell? ⟨w.heap.size, 5, none⟩ = some (.string ⟨#[]⟩) := hE.z.cell 5
   have zc6 : wE.cell? ⟨w.heap.size, 6, none⟩ = some (.slice none 0 0) := hE.z.cell 6
   have zf0 := hE.z.frozen 0
   have zf1 := hE.z.frozen 1
   have zf2 := hE.z.frozen 2
   have zf3 := hE.z.frozen 3
   have zf4 := hE.z.frozen 4
   have zf5 := hE.z.frozen 5
   have zf6 := hE.z.frozen 6
   have fc0 : wE.cell? ⟨w.heap.size + 1, 0, none⟩ = some (.int .i64 0) := hE.f.cell 0
   have fc1 : wE.cell? ⟨w.heap.size + 1, 1, none⟩ = some (.int .i64 0) := hE.f.cell 1
   have ff0 := hE.f.frozen 0
   have ff1 := hE.f.frozen 1
   obtain ⟨Z, hZ, qz, qf, qB, -⟩ := hE.done (.int .i64 0) (.string ⟨#[]⟩) (.int .i64 0) (.int .i64 0) (.int .i64 0) (.string ⟨#[]⟩) (.slice none 0 0) (.int .i64 ke) (.int .i64 (-1))
   have HZ := Lib.hid hZ
   have HQZ := Lib.hid qz
   have HQF := Lib.hid qf
   have HQB := Lib.hid qB
   clear hZ qz qf qB hE hbE HBR HL
   go_wp2
   clear zc0 zc1 zc2 zc3 zc4 zc5 zc6 zf0 zf1 zf2 zf3 zf4 zf5 zf6 fc0 fc1 ff0 ff1
   rw [HZ.out]
   have r0 := HQZ.out.cell 0
   have r1 := HQZ.out.cell 1
   have r2 := HQZ.out.cell 2
   have r3 := HQZ.out.cell 3
   have r4 := HQZ.out.cell 4
   have r5 := HQZ.out.cell 5
   have r6 := HQZ.out.cell 6
   have s0 := HQF.out.cell 0
   have s1 := HQF.out.cell 1
   refine bodyPost_ret (v := .tuple #[.agg z7, .agg #[.int .i64 ke, .int .i64 (-1)]]) (by simp [results, Tryz.results99, go_sem, r0, r1, r2, r3, r4, r5, r6, s0, s1]) rfl ?_
   exact ⟨zeroLn, none, 0, ke, -1, rfl, nsAt_nil _, rg_nil, fun g hg => by simp [Value.ownBlock] at hg, HQB.out, rfl, rfl, rfl⟩
end
section
open Go.RowKit Go.Shelf Sv
theorem rline_pkg_bad (s : ByteArray) (w : World) (hs : s.size <= 100000) (hw : Lb w) (hF : FineR w) (ad : Addr) (cap : Nat) (hK : KindsAt w ad cap) (hk : kindF (cutF s 32).1 = 1) (va vb vc : Nat) (hver : versF (cutF (cutF (cutF s 32).2 32).2 32).1 = .ok [va, vb, vc]) (hr : (cutF (cutF (cutF s 32).2 32).2 32).2.size ≠ 0) : Calls Tryz.prog 99 #[.string s] w (RlRes w (.error (3, none))) := by
 have k0 := (Blk.new w 54 z7).alloc (.cells #[.int .i64 0, .int .i64 0] 49)
 have k1 := Blk.new (w.alloc (.cells z7 54)) 49 #[.int .i64 0, .int .i64 0]
 rw [World.size_alloc] at k1
 have hB0 : Below w.heap.size w ((w.alloc (.cells z7 54)).alloc (.cells #[.int .i64 0, .int .i64 0] 49)) := ((Below.refl _ w).alloc (Nat.le_refl _) _).alloc (by simp) _
 have HK0 := Lib.hid k0
 have HK1 := Lib.hid k1
 have HB0 := Lib.hid hB0
 have HN1 := Lib.hid (fun W => rnext_any s W hs)
 have hz2 := (cutF_size s 32).2
 have HLW := Lib.hid hw
 have HFN := Lib.hid hF
 have HKD := Lib.hid hK
 obtain ⟨w1, hw1⟩ : ∃ w1, (cutF s 32).1 = w1 := ⟨_, rfl⟩
 obtain ⟨s2, hs2⟩ : ∃ s2, (cutF s 32).2 = s2 := ⟨_, rfl⟩
 rw [hw1] at hk HN1
 rw [hs2] at hz2 HN1
 have hz2' : s2.size <= 100000 := by omega
 have HKX : Hid (∀ k, 1 <= k -> k <= 4 -> ((⟨(wl k).toArray⟩ : ByteArray).toList == w1.toList) = decide (kindF w1 = k)) := fun k h1 h4 => kind_lt h1 h4
 rw [hk] at HKX
 have HN2 := Lib.hid (fun W => rnext_any s2 W hz2')
 have hz3 := (cutF_size s2 32).2
 obtain ⟨nm, hnm⟩ : ∃ nm, (cutF s2 32).1 = nm := ⟨_, rfl⟩
 obtain ⟨s3, hs3⟩ : ∃ s3, (cutF s2 32).2 = s3 := ⟨_, rfl⟩
 rw [hnm] at HN2
 rw [hs3] at hz3 HN2
 have hz3' : s3.size <= 100000 := by omega
 have HN3 := Lib.hid (fun W => rnext_any s3 W hz3')
 have hz4 := cutF_size s3 32
 obtain ⟨vw, hvw⟩ : ∃ vw, (cutF s3 32).1 = vw := ⟨_, rfl⟩
 obtain ⟨s4, hs4⟩ : ∃ s4, (cutF s3 32).2 = s4 := ⟨_, rfl⟩
 rw [hvw, hs4] at hz4 HN3
 have hz4' : s4.size <= 100000 := by omega
 have HVP0 : ∀ W, Below w.heap.size w W -> Calls Tryz.prog 108 #[.string vw] W fun e w' => e = .returned (rversV (versF vw)) /\ Below W.heap.size W w' := fun W hb => rvparse_any splitC vw W (by omega) (hw.below hb)
 rw [hs2, hs3, hvw] at hver
 rw [hver] at HVP0
 have HVP : Hid (∀ W, Below w.heap.size w W -> Calls Tryz.prog 108 #[.string vw] W fun e w' => e = .returned (.tuple #[.agg #[.int .i64 (va : Int), .int .i64 (vb : Int), .int .i64 (vc : Int)], .int .i64 0]) /\ Below W.heap.size W w') := HVP0
 clear HVP0 hver
 have hs3q := hs3
 clear hz3 hz4 hnm hs3 hvw
 rw [hs2, show (cutF s2 32).2 = s3 from hs3q, hs4] at hr
 have hrb : (s4.toList == []) = false := by
  rw [beq_eq_false_iff_ne, ByteArray.toList_eq]
  intro e
  have := congrArg List.length e
  simp at this
  exact hr (by rw [this]; rfl)
 clear hr hs3q hs4
 clear k0 k1 hB0 hw hF hK hz2 hs
 go_enter Tryz.func99, Tryz.ntmps99
 go_wp2_with fail
 generalize (w.alloc (.cells z7 54)).alloc (.cells #[.int .i64 0, .int .i64 0] 49) = W0 at *
 refine (HN1.out _).mono ?_
 rintro e wA ⟨rfl, hbA⟩
 have hx := Blk.new wA 54 z7
 have hA : Below wA.heap.size wA (wA.alloc (.cells z7 54)) := (Below.refl _ _).alloc (Nat.le_refl _) _
 have hA0 : Below W0.heap.size W0 (wA.alloc (.cells z7 54)) := hbA.trans (hA.mono hbA.size)
 have hLR : LR w (wA.alloc (.cells z7 54)) wA.heap.size z7 := ⟨HK0.out.below hA0 HK0.out.lt, HK1.out.below hA0 HK1.out.lt, hx, Nat.lt_of_lt_of_le HK1.out.lt hbA.size, HB0.out.trans (hA0.mono HB0.out.size)⟩
 have HLR := Lib.hid hLR
 clear hbA hx hA hA0 hLR HN1 HK0 HK1 HB0
 go_wp2_with fail
 generalize wA.alloc (.cells z7 54) = W1 at *
 obtain ⟨b, hb⟩ : ∃ b, wA.heap.size = b := ⟨_, rfl⟩
 rw [hb] at HLR ⊢
 clear hb
 go_loopw [7] (fun kV wr => ∃ k : Nat, 1 <= k /\ k <= 5 /\ kV = .int .i64 (k : Int) /\ LR w wr b (x7 (kup 1 k) ⟨#[]⟩ 0 0 0 ⟨#[]⟩ (.slice none 0 0))) (fun kV _ => 5 - (intOf kV).toNat)
 case atStart => exact ⟨1, by omega, by omega, rfl, by rw [show kup 1 1 = 0 by unfold kup; split <;> omega]; exact HLR.out⟩
 case round =>
  clear HLR
  obtain ⟨k, hk1, hk5, rfl, hLR⟩ := hrel
  have HL := Lib.hid hLR
  clear hLR
  by_cases hlt : k <= 4
  ·have hkd := HKD.out.below HL.out.B
   have g0 := hkd.c
   have g1 := hkd.s k (by omega)
   have hc := HKX.out k hk1 hlt
   have x0 : wr.cell? ⟨b, 0, none⟩ = some (.int .i64 ((kup 1 k : Nat) : Int)) := HL.out.x.cell 0
   have xf := HL.out.x.frozen 0
   clear hkd
   by_cases he : 1 = k
   ·have hst := HL.out.set 0 (.int .i64 (k : Int))
    have HST : Hid (LR w (wr.setCell ⟨b, 0, none⟩ (.int .i64 (k : Int))) b (x7 (kup 1 (k + 1)) ⟨#[]⟩ 0 0 0 ⟨#[]⟩ (.slice none 0 0))) := by
     have e : kup 1 (k + 1) = k := by unfold kup; rw [if_pos (by omega)]; exact he
     rw [e]; exact hst
    rw [decide_eq_true he] at hc
    generalize kup 1 k = KU at *
    generalize (⟨(wl k).toArray⟩ : ByteArray) = WK at *
    clear hst he
    go_wp2
    go_roundw
    case rel => exact ⟨k + 1, by omega, by omega, by go_num, HST.out⟩
    case measure => simp [intOf]; omega
   ·have HST : Hid (LR w wr b (x7 (kup 1 (k + 1)) ⟨#[]⟩ 0 0 0 ⟨#[]⟩ (.slice none 0 0))) := by
     have e : kup 1 (k + 1) = kup 1 k := by
      unfold kup
      by_cases h : 1 < k
      ·rw [if_pos h, if_pos (by omega)]
      ·rw [if_neg h, if_neg (by omega)]
     rw [e]; exact HL.out
    rw [decide_eq_false he] at hc
    generalize kup 1 k = KU at *
    generalize (⟨(wl k).toArray⟩ : ByteArray) = WK at *
    clear he
    go_wp2
    go_roundw
    case rel => exact ⟨k + 1, by omega, by omega, by go_num, HST.out⟩
    case measure => simp [intOf]; omega
  ·obtain rfl : k = 5 := by omega
   have hku : kup 1 5 = 1 := by unfold kup; rw [if_pos (by omega)]
   rw [hku] at HL
   clear hku
   have xc0 : wr.cell? ⟨b, 0, none⟩ = some (.int .i64 (1 : Int)) := HL.out.x.cell 0
   go_wp2_with fail
   refine (HN2.out _).mono ?_
   rintro e wB ⟨rfl, hb⟩
   have HLB := Lib.hid (HL.out.step hb)
   clear hb HN2 HL
   have xb0 : wB.cell? ⟨b, 0, none⟩ = some (.int .i64 1) := HLB.out.x.cell 0
   have xb1 : wB.cell? ⟨b, 1, none⟩ = some (.string ⟨#[]⟩) := HLB.out.x.cell 1
   have xg1 := HLB.out.x.frozen 1
   have HL2 : Hid (LR w (wB.setCell ⟨b, 1, none⟩ (.string nm)) b (x7 1 nm 0 0 0 ⟨#[]⟩ (.slice none 0 0))) := HLB.out.set 1 (.string nm)
   have y0 : (wB.setCell ⟨b, 1, none⟩ (.string nm)).cell? ⟨b, 0, none⟩ = some (.int .i64 1) := HL2.out.x.cell 0
   clear HLB xc0
   go_wp2_with fail
   generalize wB.setCell ⟨b, 1, none⟩ (.string nm) = W2 at *
   clear xb0 xb1 xg1
   refine (HN3.out _).mono ?_
   rintro e wC ⟨rfl, hb⟩
   have HL3 := Lib.hid (HL2.out.step hb)
   have HV3 := Lib.hid (HVP.out _ HL3.out.B)
   clear hb HN3 HL2 y0 HVP
   go_wp2_with fail
   refine HV3.out.mono ?_
   rintro e wD ⟨rfl, hb⟩
   have HL4 := Lib.hid (HL3.out.step hb)
   have kv := Blk.new wD 44 #[.int .i64 (va : Int), .int .i64 (vb : Int), .int .i64 (vc : Int)]
   have hbv : Below wD.heap.size wD (wD.alloc (.cells #[.int .i64 (va : Int), .int .i64 (vb : Int), .int .i64 (vc : Int)] 44)) := (Below.refl _ _).alloc (Nat.le_refl _) _
   have HL := Lib.hid (HL4.out.step hbv)
   have HKV := Lib.hid kv
   clear hb hbv HL3 HL4 HV3 kv
   have v0 := HKV.out.cell 0
   have v1 := HKV.out.cell 1
   have v2 := HKV.out.cell 2
   have e0 : (wD.alloc (.cells #[.int .i64 (va : Int), .int .i64 (vb : Int), .int .i64 (vc : Int)] 44)).cell? ⟨b, 0, none⟩ = some (.int .i64 1) := HL.out.x.cell 0
   have e2 : (wD.alloc (.cells #[.int .i64 (va : Int), .int .i64 (vb : Int), .int .i64 (vc : Int)] 44)).cell? ⟨b, 2, none⟩ = some (.int .i64 0) := HL.out.x.cell 2
   have e3 : (wD.alloc (.cells #[.int .i64 (va : Int), .int .i64 (vb : Int), .int .i64 (vc : Int)] 44)).cell? ⟨b, 3, none⟩ = some (.int .i64 0) := HL.out.x.cell 3
   have e4 : (wD.alloc (.cells #[.int .i64 (va : Int), .int .i64 (vb : Int), .int .i64 (vc : Int)] 44)).cell? ⟨b, 4, none⟩ = some (.int .i64 0) := HL.out.x.cell 4
   have e2f := HL.out.x.frozen 2
   have e3f := HL.out.x.frozen 3
   have e4f := HL.out.x.frozen 4
   have hz5 := (((HL.out.set 2 (.int .i64 (va : Int))).set 3 (.int .i64 (vb : Int))).set 4 (.int .i64 (vc : Int)))
   have HX5 : Hid (LR w ((((wD.alloc (.cells #[.int .i64 (va : Int), .int .i64 (vb : Int), .int .i64 (vc : Int)] 44)).setCell ⟨b, 2, none⟩ (.int .i64 (va : Int))).setCell ⟨b, 3, none⟩ (.int .i64 (vb : Int))).setCell ⟨b, 4, none⟩ (.int .i64 (vc : Int))) b (x7 1 nm (va : Int) (vb : Int) (vc : Int) ⟨#[]⟩ (.slice none 0 0))) := hz5
   have m0 : ((((wD.alloc (.cells #[.int .i64 (va : Int), .int .i64 (vb : Int), .int .i64 (vc : Int)] 44)).setCell ⟨b, 2, none⟩ (.int .i64 (va : Int))).setCell ⟨b, 3, none⟩ (.int .i64 (vb : Int))).setCell ⟨b, 4, none⟩ (.int .i64 (vc : Int))).cell? ⟨b, 0, none⟩ = some (.int .i64 1) := hz5.x.cell 0
   clear hz5 HL
   go_upto_region 17 with fail
   obtain ⟨W5, hW5⟩ : ∃ W5, ((((wD.alloc (.cells #[.int .i64 (va : Int), .int .i64 (vb : Int), .int .i64 (vc : Int)] 44)).setCell ⟨b, 2, none⟩ (.int .i64 (va : Int))).setCell ⟨b, 3, none⟩ (.int .i64 (vb : Int))).setCell ⟨b, 4, none⟩ (.int .i64 (vc : Int))) = W5 := ⟨_, rfl⟩
   rw [hW5] at HX5 m0 ⊢
   clear hW5 v0 v1 v2 e0 e2 e3 e4 e2f e3f e4f HKV
   have HL := HX5
   clear HX5
   have HBR := Lib.hid (refBare 3 W5)
   go_wp2_with fail
   refine HBR.out.mono ?_
   rintro e wE ⟨rfl, hbE⟩
   have hE := HL.out.step hbE
   have zc0 : wE.cell? ⟨w.heap.size, 0, none⟩ = some (.int .i64 0) := hE.z.cell 0
   have zc1 : wE.cell? ⟨w.heap.size, 1, none⟩ = some (.string ⟨#[]⟩) := hE.z.cell 1
   have zc2 : wE.cell? ⟨w.heap.size, 2, none⟩ = some (.int .i64 0) := hE.z.cell 2
   have zc3 : wE.cell? ⟨w.heap.size, 3, none⟩ = some (.int .i64 0) := hE.z.cell 3
   have zc4 : wE.cell? ⟨w.heap.size, 4, none⟩ = some (.int .i64 0) := hE.z.cell 4
   have zc5 : wE.cell? ⟨w.heap.size, 5, none⟩ = some (.string ⟨#[]⟩) := hE.z.cell 5
   have zc6 : wE.cell? ⟨w.heap.size, 6, none⟩ = some (.slice none 0 0) := hE.z.cell 6
   have zf0 := hE.z.frozen 0
   have zf1 := hE.z.frozen 1
   have zf2 := hE.z.frozen 2
   have zf3 := hE.z.frozen 3
   have zf4 := hE.z.frozen 4
   have zf5 := hE.z.frozen 5
   have zf6 := hE.z.frozen 6
   have fc0 : wE.cell? ⟨w.heap.size + 1, 0, none⟩ = some (.int .i64 0) := hE.f.cell 0
   have fc1 : wE.cell? ⟨w.heap.size + 1, 1, none⟩ = some (.int .i64 0) := hE.f.cell 1
   have ff0 := hE.f.frozen 0
   have ff1 := hE.f.frozen 1
   obtain ⟨Z, hZ, qz, qf, qB, -⟩ := hE.done (.int .i64 0) (.string ⟨#[]⟩) (.int .i64 0) (.int .i64 0) (.int .i64 0) (.string ⟨#[]⟩) (.slice none 0 0) (.int .i64 3) (.int .i64 (-1))
   have HZ := Lib.hid hZ
   have HQZ := Lib.hid qz
   have HQF := Lib.hid qf
   have HQB := Lib.hid qB
   clear hZ qz qf qB hE hbE HBR HL
   go_wp2
   clear zc0 zc1 zc2 zc3 zc4 zc5 zc6 zf0 zf1 zf2 zf3 zf4 zf5 zf6 fc0 fc1 ff0 ff1
   rw [HZ.out]
   have r0 := HQZ.out.cell 0
   have r1 := HQZ.out.cell 1
   have r2 := HQZ.out.cell 2
   have r3 := HQZ.out.cell 3
   have r4 := HQZ.out.cell 4
   have r5 := HQZ.out.cell 5
   have r6 := HQZ.out.cell 6
   have s0 := HQF.out.cell 0
   have s1 := HQF.out.cell 1
   refine bodyPost_ret (v := .tuple #[.agg z7, .agg #[.int .i64 3, .int .i64 (-1)]]) (by simp [results, Tryz.results99, go_sem, r0, r1, r2, r3, r4, r5, r6, s0, s1]) rfl ?_
   exact ⟨zeroLn, none, 0, 3, -1, rfl, nsAt_nil _, rg_nil, fun g hg => by simp [Value.ownBlock] at hg, HQB.out, rfl, rfl, rfl⟩
theorem rline_pkg (s : ByteArray) (w : World) (hs : s.size <= 100000) (hw : Lb w) (hF : FineR w) (ad : Addr) (cap : Nat) (hK : KindsAt w ad cap) (hk : kindF (cutF s 32).1 = 1) (va vb vc : Nat) (hver : versF (cutF (cutF (cutF s 32).2 32).2 32).1 = .ok [va, vb, vc]) (hr : (cutF (cutF (cutF s 32).2 32).2 32).2.size = 0) : Calls Tryz.prog 99 #[.string s] w (RlRes w (.ok ⟨1, (cutF (cutF s 32).2 32).1, (va : Int), (vb : Int), (vc : Int), ⟨#[]⟩, []⟩)) := by
 have k0 := (Blk.new w 54 z7).alloc (.cells #[.int .i64 0, .int .i64 0] 49)
 have k1 := Blk.new (w.alloc (.cells z7 54)) 49 #[.int .i64 0, .int .i64 0]
 rw [World.size_alloc] at k1
 have hB0 : Below w.heap.size w ((w.alloc (.cells z7 54)).alloc (.cells #[.int .i64 0, .int .i64 0] 49)) := ((Below.refl _ w).alloc (Nat.le_refl _) _).alloc (by simp) _
 have HK0 := Lib.hid k0
 have HK1 := Lib.hid k1
 have HB0 := Lib.hid hB0
 have HN1 := Lib.hid (fun W => rnext_any s W hs)
 have hz2 := (cutF_size s 32).2
 have HLW := Lib.hid hw
 have HFN := Lib.hid hF
 have HKD := Lib.hid hK
 obtain ⟨w1, hw1⟩ : ∃ w1, (cutF s 32).1 = w1 := ⟨_, rfl⟩
 obtain ⟨s2, hs2⟩ : ∃ s2, (cutF s 32).2 = s2 := ⟨_, rfl⟩
 rw [hw1] at hk HN1
 rw [hs2] at hz2 HN1
 have hz2' : s2.size <= 100000 := by omega
 have HKX : Hid (∀ k, 1 <= k -> k <= 4 -> ((⟨(wl k).toArray⟩ : ByteArray).toList == w1.toList) = decide (kindF w1 = k)) := fun k h1 h4 => kind_lt h1 h4
 rw [hk] at HKX
 have HN2 := Lib.hid (fun W => rnext_any s2 W hz2')
 have hz3 := (cutF_size s2 32).2
 obtain ⟨nm, hnm⟩ : ∃ nm, (cutF s2 32).1 = nm := ⟨_, rfl⟩
 obtain ⟨s3, hs3⟩ : ∃ s3, (cutF s2 32).2 = s3 := ⟨_, rfl⟩
 rw [hnm] at HN2
 rw [hs3] at hz3 HN2
 have hz3' : s3.size <= 100000 := by omega
 have HN3 := Lib.hid (fun W => rnext_any s3 W hz3')
 have hz4 := cutF_size s3 32
 obtain ⟨vw, hvw⟩ : ∃ vw, (cutF s3 32).1 = vw := ⟨_, rfl⟩
 obtain ⟨s4, hs4⟩ : ∃ s4, (cutF s3 32).2 = s4 := ⟨_, rfl⟩
 rw [hvw, hs4] at hz4 HN3
 have hz4' : s4.size <= 100000 := by omega
 have HVP0 : ∀ W, Below w.heap.size w W -> Calls Tryz.prog 108 #[.string vw] W fun e w' => e = .returned (rversV (versF vw)) /\ Below W.heap.size W w' := fun W hb => rvparse_any splitC vw W (by omega) (hw.below hb)
 rw [hs2, hs3, hvw] at hver
 rw [hver] at HVP0
 have HVP : Hid (∀ W, Below w.heap.size w W -> Calls Tryz.prog 108 #[.string vw] W fun e w' => e = .returned (.tuple #[.agg #[.int .i64 (va : Int), .int .i64 (vb : Int), .int .i64 (vc : Int)], .int .i64 0]) /\ Below W.heap.size W w') := HVP0
 clear HVP0 hver
 rw [hs2, hs3, hs4] at hr
 rw [hs2, hnm]
 have hrb : (s4.toList == []) = true := by
  rw [beq_iff_eq, ByteArray.toList_eq]
  exact List.length_eq_zero_iff.1 (by rw [Array.length_toList]; exact hr)
 clear hz3 hz4 hnm hs3 hvw hr hs4
 clear k0 k1 hB0 hw hF hK hz2 hs
 go_enter Tryz.func99, Tryz.ntmps99
 go_wp2_with fail
 generalize (w.alloc (.cells z7 54)).alloc (.cells #[.int .i64 0, .int .i64 0] 49) = W0 at *
 refine (HN1.out _).mono ?_
 rintro e wA ⟨rfl, hbA⟩
 have hx := Blk.new wA 54 z7
 have hA : Below wA.heap.size wA (wA.alloc (.cells z7 54)) := (Below.refl _ _).alloc (Nat.le_refl _) _
 have hA0 : Below W0.heap.size W0 (wA.alloc (.cells z7 54)) := hbA.trans (hA.mono hbA.size)
 have hLR : LR w (wA.alloc (.cells z7 54)) wA.heap.size z7 := ⟨HK0.out.below hA0 HK0.out.lt, HK1.out.below hA0 HK1.out.lt, hx, Nat.lt_of_lt_of_le HK1.out.lt hbA.size, HB0.out.trans (hA0.mono HB0.out.size)⟩
 have HLR := Lib.hid hLR
 clear hbA hx hA hA0 hLR HN1 HK0 HK1 HB0
 go_wp2_with fail
 generalize wA.alloc (.cells z7 54) = W1 at *
 obtain ⟨b, hb⟩ : ∃ b, wA.heap.size = b := ⟨_, rfl⟩
 rw [hb] at HLR ⊢
 clear hb
 go_loopw [7] (fun kV wr => ∃ k : Nat, 1 <= k /\ k <= 5 /\ kV = .int .i64 (k : Int) /\ LR w wr b (x7 (kup 1 k) ⟨#[]⟩ 0 0 0 ⟨#[]⟩ (.slice none 0 0))) (fun kV _ => 5 - (intOf kV).toNat)
 case atStart => exact ⟨1, by omega, by omega, rfl, by rw [show kup 1 1 = 0 by unfold kup; split <;> omega]; exact HLR.out⟩
 case round =>
  clear HLR
  obtain ⟨k, hk1, hk5, rfl, hLR⟩ := hrel
  have HL := Lib.hid hLR
  clear hLR
  by_cases hlt : k <= 4
  ·have hkd := HKD.out.below HL.out.B
   have g0 := hkd.c
   have g1 := hkd.s k (by omega)
   have hc := HKX.out k hk1 hlt
   have x0 : wr.cell? ⟨b, 0, none⟩ = some (.int .i64 ((kup 1 k : Nat) : Int)) := HL.out.x.cell 0
   have xf := HL.out.x.frozen 0
   clear hkd
   by_cases he : 1 = k
   ·have hst := HL.out.set 0 (.int .i64 (k : Int))
    have HST : Hid (LR w (wr.setCell ⟨b, 0, none⟩ (.int .i64 (k : Int))) b (x7 (kup 1 (k + 1)) ⟨#[]⟩ 0 0 0 ⟨#[]⟩ (.slice none 0 0))) := by
     have e : kup 1 (k + 1) = k := by unfold kup; rw [if_pos (by omega)]; exact he
     rw [e]; exact hst
    rw [decide_eq_true he] at hc
    generalize kup 1 k = KU at *
    generalize (⟨(wl k).toArray⟩ : ByteArray) = WK at *
    clear hst he
    go_wp2
    go_roundw
    case rel => exact ⟨k + 1, by omega, by omega, by go_num, HST.out⟩
    case measure => simp [intOf]; omega
   ·have HST : Hid (LR w wr b (x7 (kup 1 (k + 1)) ⟨#[]⟩ 0 0 0 ⟨#[]⟩ (.slice none 0 0))) := by
     have e : kup 1 (k + 1) = kup 1 k := by
      unfold kup
      by_cases h : 1 < k
      ·rw [if_pos h, if_pos (by omega)]
      ·rw [if_neg h, if_neg (by omega)]
     rw [e]; exact HL.out
    rw [decide_eq_false he] at hc
    generalize kup 1 k = KU at *
    generalize (⟨(wl k).toArray⟩ : ByteArray) = WK at *
    clear he
    go_wp2
    go_roundw
    case rel => exact ⟨k + 1, by omega, by omega, by go_num, HST.out⟩
    case measure => simp [intOf]; omega
  ·obtain rfl : k = 5 := by omega
   have hku : kup 1 5 = 1 := by unfold kup; rw [if_pos (by omega)]
   rw [hku] at HL
   clear hku
   have xc0 : wr.cell? ⟨b, 0, none⟩ = some (.int .i64 (1 : Int)) := HL.out.x.cell 0
   go_wp2_with fail
   refine (HN2.out _).mono ?_
   rintro e wB ⟨rfl, hb⟩
   have HLB := Lib.hid (HL.out.step hb)
   clear hb HN2 HL
   have xb0 : wB.cell? ⟨b, 0, none⟩ = some (.int .i64 1) := HLB.out.x.cell 0
   have xb1 : wB.cell? ⟨b, 1, none⟩ = some (.string ⟨#[]⟩) := HLB.out.x.cell 1
   have xg1 := HLB.out.x.frozen 1
   have HL2 : Hid (LR w (wB.setCell ⟨b, 1, none⟩ (.string nm)) b (x7 1 nm 0 0 0 ⟨#[]⟩ (.slice none 0 0))) := HLB.out.set 1 (.string nm)
   have y0 : (wB.setCell ⟨b, 1, none⟩ (.string nm)).cell? ⟨b, 0, none⟩ = some (.int .i64 1) := HL2.out.x.cell 0
   clear HLB xc0
   go_wp2_with fail
   generalize wB.setCell ⟨b, 1, none⟩ (.string nm) = W2 at *
   clear xb0 xb1 xg1
   refine (HN3.out _).mono ?_
   rintro e wC ⟨rfl, hb⟩
   have HL3 := Lib.hid (HL2.out.step hb)
   have HV3 := Lib.hid (HVP.out _ HL3.out.B)
   clear hb HN3 HL2 y0 HVP
   go_wp2_with fail
   refine HV3.out.mono ?_
   rintro e wD ⟨rfl, hb⟩
   have HL4 := Lib.hid (HL3.out.step hb)
   have kv := Blk.new wD 44 #[.int .i64 (va : Int), .int .i64 (vb : Int), .int .i64 (vc : Int)]
   have hbv : Below wD.heap.size wD (wD.alloc (.cells #[.int .i64 (va : Int), .int .i64 (vb : Int), .int .i64 (vc : Int)] 44)) := (Below.refl _ _).alloc (Nat.le_refl _) _
   have HL := Lib.hid (HL4.out.step hbv)
   have HKV := Lib.hid kv
   clear hb hbv HL3 HL4 HV3 kv
   have v0 := HKV.out.cell 0
   have v1 := HKV.out.cell 1
   have v2 := HKV.out.cell 2
   have e0 : (wD.alloc (.cells #[.int .i64 (va : Int), .int .i64 (vb : Int), .int .i64 (vc : Int)] 44)).cell? ⟨b, 0, none⟩ = some (.int .i64 1) := HL.out.x.cell 0
   have e2 : (wD.alloc (.cells #[.int .i64 (va : Int), .int .i64 (vb : Int), .int .i64 (vc : Int)] 44)).cell? ⟨b, 2, none⟩ = some (.int .i64 0) := HL.out.x.cell 2
   have e3 : (wD.alloc (.cells #[.int .i64 (va : Int), .int .i64 (vb : Int), .int .i64 (vc : Int)] 44)).cell? ⟨b, 3, none⟩ = some (.int .i64 0) := HL.out.x.cell 3
   have e4 : (wD.alloc (.cells #[.int .i64 (va : Int), .int .i64 (vb : Int), .int .i64 (vc : Int)] 44)).cell? ⟨b, 4, none⟩ = some (.int .i64 0) := HL.out.x.cell 4
   have e2f := HL.out.x.frozen 2
   have e3f := HL.out.x.frozen 3
   have e4f := HL.out.x.frozen 4
   have hz5 := (((HL.out.set 2 (.int .i64 (va : Int))).set 3 (.int .i64 (vb : Int))).set 4 (.int .i64 (vc : Int)))
   have HX5 : Hid (LR w ((((wD.alloc (.cells #[.int .i64 (va : Int), .int .i64 (vb : Int), .int .i64 (vc : Int)] 44)).setCell ⟨b, 2, none⟩ (.int .i64 (va : Int))).setCell ⟨b, 3, none⟩ (.int .i64 (vb : Int))).setCell ⟨b, 4, none⟩ (.int .i64 (vc : Int))) b (x7 1 nm (va : Int) (vb : Int) (vc : Int) ⟨#[]⟩ (.slice none 0 0))) := hz5
   have m0 : ((((wD.alloc (.cells #[.int .i64 (va : Int), .int .i64 (vb : Int), .int .i64 (vc : Int)] 44)).setCell ⟨b, 2, none⟩ (.int .i64 (va : Int))).setCell ⟨b, 3, none⟩ (.int .i64 (vb : Int))).setCell ⟨b, 4, none⟩ (.int .i64 (vc : Int))).cell? ⟨b, 0, none⟩ = some (.int .i64 1) := hz5.x.cell 0
   clear hz5 HL
   go_upto_region 17 with fail
   obtain ⟨W5, hW5⟩ : ∃ W5, ((((wD.alloc (.cells #[.int .i64 (va : Int), .int .i64 (vb : Int), .int .i64 (vc : Int)] 44)).setCell ⟨b, 2, none⟩ (.int .i64 (va : Int))).setCell ⟨b, 3, none⟩ (.int .i64 (vb : Int))).setCell ⟨b, 4, none⟩ (.int .i64 (vc : Int))) = W5 := ⟨_, rfl⟩
   rw [hW5] at HX5 m0 ⊢
   clear hW5 v0 v1 v2 e0 e2 e3 e4 e2f e3f e4f HKV
   have HE := HX5
   clear HX5
   have hfn := HFN.out.below HE.out.B
   have gf0 : W5.cell? ⟨0, 0, none⟩ = some (.int .i64 0) := hfn.c0
   have gf1 : W5.cell? ⟨0, 1, none⟩ = some (.int .i64 (-1)) := hfn.c1
   have hbne := HE.out.ne
   have hlw := HFN.out.lt
   have n1 : ¬ 0 = w.heap.size := by omega
   have n2 : ¬ b = w.heap.size := by omega
   have n3 : ¬ b = w.heap.size + 1 := by omega
   have n4 : ¬ w.heap.size = 0 := by omega
   clear hbne hlw
   have zc0 : W5.cell? ⟨w.heap.size, 0, none⟩ = some (.int .i64 0) := HE.out.z.cell 0
   have zc1 : W5.cell? ⟨w.heap.size, 1, none⟩ = some (.string ⟨#[]⟩) := HE.out.z.cell 1
   have zc2 : W5.cell? ⟨w.heap.size, 2, none⟩ = some (.int .i64 0) := HE.out.z.cell 2
   have zc3 : W5.cell? ⟨w.heap.size, 3, none⟩ = some (.int .i64 0) := HE.out.z.cell 3
   have zc4 : W5.cell? ⟨w.heap.size, 4, none⟩ = some (.int .i64 0) := HE.out.z.cell 4
   have zc5 : W5.cell? ⟨w.heap.size, 5, none⟩ = some (.string ⟨#[]⟩) := HE.out.z.cell 5
   have zc6 : W5.cell? ⟨w.heap.size, 6, none⟩ = some (.slice none 0 0) := HE.out.z.cell 6
   have zf0 := HE.out.z.frozen 0
   have zf1 := HE.out.z.frozen 1
   have zf2 := HE.out.z.frozen 2
   have zf3 := HE.out.z.frozen 3
   have zf4 := HE.out.z.frozen 4
   have zf5 := HE.out.z.frozen 5
   have zf6 := HE.out.z.frozen 6
   have fc0 : W5.cell? ⟨w.heap.size + 1, 0, none⟩ = some (.int .i64 0) := HE.out.f.cell 0
   have fc1 : W5.cell? ⟨w.heap.size + 1, 1, none⟩ = some (.int .i64 0) := HE.out.f.cell 1
   have ff0 := HE.out.f.frozen 0
   have ff1 := HE.out.f.frozen 1
   have xx0 : W5.cell? ⟨b, 0, none⟩ = some (.int .i64 1) := HE.out.x.cell 0
   have xx1 : W5.cell? ⟨b, 1, none⟩ = some (.string nm) := HE.out.x.cell 1
   have xx2 : W5.cell? ⟨b, 2, none⟩ = some (.int .i64 (va : Int)) := HE.out.x.cell 2
   have xx3 : W5.cell? ⟨b, 3, none⟩ = some (.int .i64 (vb : Int)) := HE.out.x.cell 3
   have xx4 : W5.cell? ⟨b, 4, none⟩ = some (.int .i64 (vc : Int)) := HE.out.x.cell 4
   have xx5 : W5.cell? ⟨b, 5, none⟩ = some (.string ⟨#[]⟩) := HE.out.x.cell 5
   have xx6 : W5.cell? ⟨b, 6, none⟩ = some (.slice none 0 0) := HE.out.x.cell 6
   obtain ⟨Z, hZ, qz, qf, qB, qN⟩ := HE.out.done (.int .i64 1) (.string nm) (.int .i64 (va : Int)) (.int .i64 (vb : Int)) (.int .i64 (vc : Int)) (.string ⟨#[]⟩) (.slice none 0 0) (.int .i64 0) (.int .i64 (-1))
   have HZ := Lib.hid hZ
   have HQZ := Lib.hid qz
   have HQF := Lib.hid qf
   have HQB := Lib.hid qB
   have HQN := Lib.hid qN
   clear hZ qz qf qB qN hfn
   go_wp2_with fail
   go_big_region
   clear gf0 gf1 n1 n2 n3 n4
   clear zc0 zc1 zc2 zc3 zc4 zc5 zc6 zf0 zf1 zf2 zf3 zf4 zf5 zf6 fc0 fc1 ff0 ff1
   clear xx0 xx1 xx2 xx3 xx4 xx5 xx6
   rw [HZ.out]
   go_wp2
   have r0 := HQZ.out.cell 0
   have r1 := HQZ.out.cell 1
   have r2 := HQZ.out.cell 2
   have r3 := HQZ.out.cell 3
   have r4 := HQZ.out.cell 4
   have r5 := HQZ.out.cell 5
   have r6 := HQZ.out.cell 6
   have s0 := HQF.out.cell 0
   have s1 := HQF.out.cell 1
   refine bodyPost_ret (v := .tuple #[.agg #[.int .i64 1, .string nm, .int .i64 (va : Int), .int .i64 (vb : Int), .int .i64 (vc : Int), .string ⟨#[]⟩, (.slice none 0 0)], .agg #[.int .i64 0, .int .i64 (-1)]]) (by simp [results, Tryz.results99, go_sem, r0, r1, r2, r3, r4, r5, r6, s0, s1]) rfl ?_
   refine ⟨⟨1, nm, (va : Int), (vb : Int), (vc : Int), ⟨#[]⟩, []⟩, none, 0, 0, -1, rfl, nsAt_nil _, rg_nil, fun g hg => by simp [Value.ownBlock] at hg, HQB.out.drew, rfl, rfl, rfl⟩
end
end Go.Proofs.YtpmpnbbihmgdpaaGreatDoor
