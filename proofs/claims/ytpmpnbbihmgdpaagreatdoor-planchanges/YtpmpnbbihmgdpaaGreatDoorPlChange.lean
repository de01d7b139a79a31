/- plan: Change. -/
import Derived.Test.YtpmpnbbihmgdpaaGreatDoorPlPlanP
import Derived.Test.YtpmpnbbihmgdpaaGreatDoorPlMath
import Derived.Test.YtpmpnbbihmgdpaaGreatDoorPlSmall
import Derived.Test.YtpmpnbbihmgdpaaGreatDoorCtSmall
import Derived.Test.YtpmpnbbihmgdpaaGreatDoorPlOrder
import Derived.Test.YtpmpnbbihmgdpaaGreatDoorCtLines
import Derived.Test.YtpmpnbbihmgdpaaGreatDoorCtParse
set_option maxHeartbeats 4000000
set_option maxRecDepth 100000
namespace Go.Proofs.YtpmpnbbihmgdpaaGreatDoor
section
open Sv
theorem not_test (k i : Nat) (hk : k < 64) (hi : i < 64) : (18446744073709551615 - 2 ^ k).testBit i = decide (i ≠ k) := by
 have h := pow_64 k hk
 have e : 18446744073709551615 - 2 ^ k = 2 ^ 64 - (2 ^ k + 1) := by omega
 rw [e, Nat.testBit_two_pow_sub_succ h, Nat.testBit_two_pow, decide_eq_true hi, Bool.true_and, <- decide_not]
 congr 1
 exact propext ⟨fun h e => h e.symm, fun h e => h e.symm⟩
theorem mem_eraseN {l : List Nat} (hn : l.Nodup) {j : Nat} (hj : j < l.length) (i : Nat) : i ∈ l.eraseIdx j ↔ i ∈ l /\ i ≠ l.getD j 0 := by
 have e : l.getD j 0 = l[j] := by rw [List.getD_eq_getElem?_getD, List.getElem?_eq_getElem hj]; rfl
 rw [List.mem_eraseIdx_iff_getElem, e]
 constructor
 ·rintro ⟨k, hk, hne, rfl⟩
  refine ⟨List.getElem_mem hk, fun h => hne ?_⟩
  apply Classical.byContradiction
  intro hkj
  rcases Nat.lt_or_gt_of_ne hkj with hlt | hgt
  ·exact (List.pairwise_iff_getElem.1 hn) k j hk hj hlt h
  ·exact (List.pairwise_iff_getElem.1 hn) j k hj hk hgt h.symm
 ·rintro ⟨hm, hne⟩
  obtain ⟨k, hk, rfl⟩ := List.getElem_of_mem hm
  exact ⟨k, hk, fun h => hne (by subst h; rfl), rfl⟩
theorem perm_erase {l : List Nat} {j : Nat} (hj : j < l.length) : l.Perm (l.getD j 0 :: l.eraseIdx j) := by
 have e : l.getD j 0 = l[j] := by rw [List.getD_eq_getElem?_getD, List.getElem?_eq_getElem hj]; rfl
 have h1 : l.take j ++ l[j] :: l.drop (j + 1) = l := by rw [<- List.drop_eq_getElem_cons hj, List.take_append_drop]
 rw [e, List.eraseIdx_eq_take_drop_succ]
 have h2 := List.perm_middle (a := l[j]) (l₁ := l.take j) (l₂ := l.drop (j + 1))
 rw [h1] at h2
 exact h2
theorem ordGo_spec (nd : List Nat) : ∀ (f : Nat) (wait : List Nat) (left : Nat) (out R : List Nat), wait.length = f -> wait.Nodup -> (∀ i ∈ wait, i < 64) -> (∀ i, left.testBit i = decide (i ∈ wait)) -> ordGo nd f wait left out = some R ->
  ∃ t, R = out ++ t /\ t.Perm wait /\ ∀ k, k < t.length -> ∀ m ∈ wait, (nd.getD (t.getD k 0) 0).testBit m = true -> m ∈ t.take k
 | 0, wait, left, out, R, hf, _, _, _, h => by
  cases h
  obtain rfl := List.length_eq_zero_iff.1 hf
  exact ⟨[], by simp, List.Perm.refl _, fun k hk => by simp at hk⟩
 | f + 1, wait, left, out, R, hf, hn, h64, hb, h => by
  rw [ordGo] at h
  split at h
  ·rename_i e; subst e; cases hf
  ·split at h
   ·cases h
   ·rename_i j hj
    have hjl := (List.findIdx?_eq_some_iff_findIdx_eq.1 hj).1
    have hrdy : nd.getD (wait.getD j 0) 0 &&& left = 0 := by
     obtain ⟨h1, h2, _⟩ := List.findIdx?_eq_some_iff_getElem.1 hj
     have e : wait.getD j 0 = wait[j] := by rw [List.getD_eq_getElem?_getD, List.getElem?_eq_getElem hjl]; rfl
     rw [e]
     exact of_decide_eq_true h2
    have hx64 := h64 _ (pget_mem wait j hjl)
    have hlen : (wait.eraseIdx j).length = f := by rw [List.length_eraseIdx_of_lt hjl]; omega
    obtain ⟨t, rfl, hp, ht⟩ := ordGo_spec nd f (wait.eraseIdx j) _ _ R hlen (hn.sublist (List.eraseIdx_sublist _ _)) (fun i hi => h64 i (List.mem_of_mem_eraseIdx hi)) (fun i => by
     rw [Nat.testBit_and, hb]
     by_cases hi : i ∈ wait
     ·rw [not_test _ _ hx64 (h64 i hi), decide_eq_true hi, Bool.true_and]
      congr 1
      exact propext ⟨fun h => (mem_eraseN hn hjl i).2 ⟨hi, h⟩, fun h => ((mem_eraseN hn hjl i).1 h).2⟩
     ·rw [decide_eq_false hi, Bool.false_and, decide_eq_false (fun h => hi (List.mem_of_mem_eraseIdx h))]) h
    refine ⟨wait.getD j 0 :: t, by simp, ((List.Perm.cons _ hp).trans (perm_erase hjl).symm), fun k hk m hm hbit => ?_⟩
    cases k with
    | zero =>
     exfalso
     exact (and_zero_iff _ _).1 hrdy m ⟨hbit, by rw [hb, decide_eq_true hm]⟩
    | succ k =>
     rw [List.take_succ_cons, List.mem_cons]
     by_cases hmx : m = wait.getD j 0
     ·exact Or.inl hmx
     ·refine Or.inr (ht k (by simpa using hk) m ((mem_eraseN hn hjl m).2 ⟨hm, hmx⟩) ?_)
      simpa using hbit
theorem itemsP_mem (set : Nat) (h : set < 16777216) (i : Nat) : set.testBit i = decide (i ∈ itemsP set 24) := by
 unfold itemsP
 rw [Bool.eq_iff_iff, decide_eq_true_iff, List.mem_filter, List.mem_range]
 refine ⟨fun hb => ⟨?_, hb⟩, fun h => h.2⟩
 apply Classical.byContradiction
 intro hc
 rw [test_of_lt (n := 24) h (by omega)] at hb
 cases hb
theorem itemsP_nodup (set : Nat) : (itemsP set 24).Nodup := by
 unfold itemsP
 exact List.Nodup.sublist List.filter_sublist List.nodup_range
theorem needP_test {ls : List Ln} {its : List It} (hN : newF ls = .ok its) (x m : Nat) (hx : x < its.length) : ∀ n, n <= ls.length -> (((needP its ls n).getD x 0).testBit m = true ↔ ∃ q, q < n /\ (ls.getD q default).kind = 2 /\ ownN its (ls.getD q default) = x /\ m ∈ amongF its (ls.getD q default).other (ls.getD q default).rng /\ m ≠ x)
 | 0, _ => by
  unfold needP
  rw [List.getD_eq_getElem?_getD, List.getElem?_replicate, if_pos hx]
  simp
 | n + 1, hn => by
  have ih := needP_test hN x m hx n (by omega)
  have hl := (newF_ok hN).1
  have hmem := lget_mem ls n (by omega)
  unfold needP
  by_cases hk : (ls.getD n default).kind = 2
  ·rw [if_pos hk, List.getD_eq_getElem?_getD, List.getElem?_set]
   have ho := own_pair hN hmem (Or.inl hk)
   by_cases hox : ownN its (ls.getD n default) = x
   ·rw [if_pos hox, if_pos (by rw [needP_len]; omega), Option.getD_some, hox, Nat.testBit_or, Bool.or_eq_true, ih, Nat.testBit_and, amS_test]
    constructor
    ·rintro (⟨q, h1, h2⟩ | h)
     ·exact ⟨q, by omega, h2⟩
     ·rw [Bool.and_eq_true, decide_eq_true_iff] at h
      have hm := amongF_lt its _ _ m h.1
      rw [not_test x m (by omega) (by omega), decide_eq_true_iff] at h
      exact ⟨n, by omega, hk, hox, h.1, h.2⟩
    ·rintro ⟨q, h1, h2, h3, h4, h5⟩
     rcases Nat.lt_succ_iff_lt_or_eq.1 h1 with e | e
     ·exact Or.inl ⟨q, e, h2, h3, h4, h5⟩
     ·subst e
      have hm := amongF_lt its _ _ m h4
      refine Or.inr ?_
      rw [decide_eq_true h4, not_test x m (by omega) (by omega), decide_eq_true h5]
      rfl
   ·rw [if_neg hox, <- List.getD_eq_getElem?_getD, ih]
    constructor
    ·rintro ⟨q, h1, h2⟩; exact ⟨q, by omega, h2⟩
    ·rintro ⟨q, h1, h2, h3, h4⟩
     rcases Nat.lt_succ_iff_lt_or_eq.1 h1 with e | e
     ·exact ⟨q, e, h2, h3, h4⟩
     ·subst e; exact absurd h3 hox
  ·rw [if_neg hk, ih]
   constructor
   ·rintro ⟨q, h1, h2⟩; exact ⟨q, by omega, h2⟩
   ·rintro ⟨q, h1, h2, h3⟩
    rcases Nat.lt_succ_iff_lt_or_eq.1 h1 with e | e
    ·exact ⟨q, e, h2, h3⟩
    ·subst e; exact absurd h2 hk
structure OrdIs (ls : List Ln) (its : List It) (set : Nat) (l : List Nat) : Prop where
 lt : ∀ x ∈ l, x < its.length
 nodup : l.Nodup
 mem : ∀ i, set.testBit i = decide (i ∈ l)
 len : l.length <= 24
 need : ∀ i, i < l.length -> ∀ x ∈ ls, x.kind = 2 -> ctNumb its x.it = ((l.getD i 0 : Nat) : Int) -> ∀ m ∈ amongF its x.other x.rng, m ≠ l.getD i 0 -> set.testBit m = true -> m ∈ l.take i
theorem ordR_is {ls : List Ln} {its : List It} (hN : newF ls = .ok its) {set : Nat} (hs : set < 2 ^ its.length) {l : List Nat} (h : ordR its ls set = .ok l) : OrdIs ls its set l := by
 have hl := (newF_ok hN).1
 have hs24 : set < 16777216 := Nat.lt_of_lt_of_le hs (Nat.pow_le_pow_right (n := 2) (by decide) hl)
 have ho : ordF its ls set = some l := by
  unfold ordR at h
  split at h
  ·cases h
  ·cases ho : ordF its ls set with
   | none => rw [ho] at h; cases h
   | some l' => rw [ho] at h; cases h; rfl
 unfold ordF at ho
 have hlt : ∀ i ∈ itemsP set 24, i < its.length := fun x hx => by
  have hb : set.testBit x = true := by rw [itemsP_mem set hs24, decide_eq_true hx]
  apply Classical.byContradiction
  intro hc
  rw [test_of_lt hs (by omega)] at hb
  cases hb
 obtain ⟨t, rfl, hp, ht⟩ := ordGo_spec (needF its ls) _ (itemsP set 24) set [] l rfl (itemsP_nodup set) (fun i hi => by have := hlt i hi; omega) (itemsP_mem set hs24) ho
 refine ⟨fun x hx => hlt x (hp.mem_iff.1 hx), hp.nodup_iff.2 (itemsP_nodup set), fun i => by rw [itemsP_mem set hs24]; congr 1; exact propext hp.mem_iff.symm, by rw [hp.length_eq]; exact itemsP_len set 24, fun i hi x hx hk hnum m hm hne hb => ?_⟩
 have hmi : m ∈ itemsP set 24 := by rw [itemsP_mem set hs24] at hb; exact of_decide_eq_true hb
 refine ht i hi m hmi ?_
 obtain ⟨n, hn, rfl⟩ := List.getElem_of_mem hx
 have hgx : ls.getD n default = ls[n] := by rw [List.getD_eq_getElem?_getD, List.getElem?_eq_getElem hn]; rfl
 have hown := (own_pair hN hx (Or.inl hk)).1
 rw [hnum] at hown
 refine (needP_test hN (l.getD i 0) m (hlt _ (hp.mem_iff.1 (pget_mem l i hi))) ls.length (Nat.le_refl _)).2 ⟨n, hn, ?_, ?_, ?_, hne⟩
 ·rw [hgx]; exact hk
 ·rw [hgx]; omega
 ·rw [hgx]; exact hm
end
section
open Go.RowKit Go.Shelf Go.Deep Sv
attribute [local go_sem] Oper.semAt_some
theorem going_in (a : Option Addr) (n c : Nat) (stay : Nat) (w : World) :
  CallsIn Fence.wide 3 Tryz.prog 92 #[.slice a n c, .int .u64 (stay : Int)] w fun e w' => e = .returned (.func (.func 147) #[] #[.pointer (some ⟨w.heap.size, 0, none⟩), .pointer (some ⟨w.heap.size + 1, 0, none⟩)]) /\ w' = (w.alloc (.cells #[.slice a n c] 31)).alloc (.cells #[.int .u64 (stay : Int)] 69) := by
 refine callsIn_of_wp Tryz.func92 rfl trivial ?_ rfl
 simp only [Tryz.ntmps92, List.size_toArray, List.length_cons, List.length_nil, Nat.reduceAdd, Nat.reduceSub, Array.replicate_succ, Array.replicate_zero, List.push_toArray, List.append_toArray, List.nil_append, List.cons_append]
 gi_wp2
 go_ret
 exact ⟨by simp, rfl⟩
def goF (l : List Nat) (stay : Nat) : List Nat := l.reverse.filter fun i => !stay.testBit i
theorem goF_take (l : List Nat) (stay k : Nat) (h : k < l.length) : goF (l.take (k + 1)) stay = (if stay.testBit (l.getD k 0) then [] else [l.getD k 0]) ++ goF (l.take k) stay := by
 unfold goF
 rw [ptake_snoc l k h, List.reverse_append, List.filter_append]
 congr 1
 by_cases hb : stay.testBit (l.getD k 0) = true
 ·rw [if_pos hb]; simp only [List.reverse_singleton, List.filter_cons, hb]; rfl
 ·rw [if_neg hb]
  have : stay.testBit (l.getD k 0) = false := by simpa using hb
  simp only [List.reverse_singleton, List.filter_cons, this]; rfl
def KpG (B bo : Nat) (W W' : World) : Prop := ∀ k, k < B -> k ≠ bo -> W'.heap[k]? = W.heap[k]?
def encN (x : Nat) : Array Value := #[.int .i64 (x : Int)]
theorem kpG_cell {B bo : Nat} {W W' : World} (h : KpG B bo W W') {p : Addr} (h1 : p.block < B) (h2 : p.block ≠ bo) : W'.cell? p = W.cell? p := by
 have := h p.block h1 h2
 unfold World.cell?
 rw [this]
theorem addBlock (ad : Addr) (j : Nat) : (ad.add j).block = ad.block := by unfold Addr.add; split <;> rfl
theorem going1_in (l B bo b : Nat) (A : List Nat) (a : Option Addr) (c stay : Nat) (hA : ∀ x ∈ A, x < 24) (hAl : A.length <= 24) (hst : stay < 18446744073709551616) (J Jx : List Nat -> World -> Prop)
  (hJd : ∀ (pre : List Nat) (W : World) (n : Nat), J pre W -> J pre (W.drewN n))
  (hY : ∀ (pre : List Nat) (x : Nat) (W : World), J pre W -> pre.length < (goF A stay).length -> YieldAt Fence.wide (3 - 1) Tryz.prog l #[.int .i64 (x : Int)] W fun e W' =>
   (e = .returned (.bool true) /\ J (pre ++ [x]) W' /\ KpG B bo W W') \/ (e = .returned (.bool false) /\ Jx (pre ++ [x]) W'))
  (W : World) (hb : b < B) (hb1 : b + 1 < B) (hn0 : b ≠ bo) (hn1 : b + 1 ≠ bo) (h0 : W.cell? ⟨b, 0, none⟩ = some (.slice a A.length c)) (h1 : W.cell? ⟨b + 1, 0, none⟩ = some (.int .u64 (stay : Int))) (hI : ∀ i, i < A.length -> ∃ ad : Addr, a = some ad /\ ad.block < B /\ ad.block ≠ bo /\ W.cell? (ad.add i) = some (.int .i64 ((A.getD i 0 : Nat) : Int))) (hJ : J [] W) :
  CallsIn Fence.wide 3 Tryz.prog 147 #[.func (.yield l) #[] #[], .pointer (some ⟨b, 0, none⟩), .pointer (some ⟨b + 1, 0, none⟩)] W fun e W' => (∃ v, e = .returned v) /\ ((∃ ys, ys = goF A stay /\ J ys W') \/ (∃ pre, pre <+: goF A stay /\ Jx pre W')) := by
 have HY := Lib.hid hY
 have HJD := Lib.hid hJd
 have HJU : Hid (∀ W (k : Nat), k < 24 -> CallsIn Fence.wide 2 Tryz.prog 91 #[.int .i64 (k : Int)] W fun e w' => e = .returned (.int .u64 ((2 ^ k : Nat) : Int)) /\ w' = W) := fun W k hk => callsIn_wide.2 (just_c k (by omega) W)
 have HI := Lib.hid hI
 have HA := Lib.hid hA
 clear hY hJd hI hA
 refine callsIn_of_wp Tryz.func147 rfl trivial ?_ rfl
 simp only [Tryz.ntmps147, List.size_toArray, List.length_cons, List.length_nil, Nat.reduceAdd, Nat.reduceSub, Array.replicate_succ, Array.replicate_zero, List.push_toArray, List.append_toArray, List.nil_append, List.cons_append]
 gi_wp2_with fail
 gi_loopw [4] (fun p wr => ∃ (pre : List Nat) (k : Nat), p = .int .i64 ((k : Int) - 1) /\ k <= A.length /\ pre ++ goF (A.take k) stay = goF A stay /\ KpG B bo W wr /\ J pre wr) (fun p _ => (intOf p + 1).toNat)
 case atStart => exact ⟨[], A.length, by go_num, Nat.le_refl _, by rw [List.take_length]; rfl, fun _ _ _ => rfl, hJ⟩
 case round =>
  obtain ⟨pre, k, rfl, hk, hcut, hkp, hJs⟩ := hrel
  have HJ := Lib.hid hJs
  have HC := Lib.hid hcut
  have HKP := Lib.hid hkp
  have d0 : wr.cell? ⟨b, 0, none⟩ = some (.slice a A.length c) := (kpG_cell hkp hb hn0).trans h0
  have d1 : wr.cell? ⟨b + 1, 0, none⟩ = some (.int .u64 (stay : Int)) := (kpG_cell hkp hb1 hn1).trans h1
  clear hJs hcut hkp
  by_cases hk0 : k = 0
  ·subst hk0
   have hcut := HC.out
   rw [show goF (A.take 0) stay = [] by simp [goF], List.append_nil] at hcut
   have HX := Lib.hid hcut
   clear hcut HC
   gi_wp2
   refine bodyPost_end (results_none rfl _ _ _) rfl ?_
   exact ⟨⟨_, rfl⟩, .inl ⟨pre, HX.out, HJ.out⟩⟩
  ·obtain ⟨j, rfl⟩ : ∃ j, k = j + 1 := ⟨k - 1, by omega⟩
   have hj : j < A.length := by omega
   obtain ⟨ad, rfl, had, hado, cA⟩ := HI.out j hj
   have cA2 : wr.cell? (ad.add j) = some (.int .i64 ((A.getD j 0 : Nat) : Int)) := (kpG_cell (p := ad.add j) HKP.out (by rw [addBlock]; exact had) (by rw [addBlock]; exact hado)).trans cA
   have hx24 := HA.out _ (pget_mem A j hj)
   have hgo := goF_take A stay j hj
   have hcut := HC.out
   rw [hgo] at hcut
   have HX := Lib.hid hcut
   have hand := and_u64 stay (2 ^ A.getD j 0) hst (pow_64 _ (by omega))
   have hpn := and_pow_ne stay (A.getD j 0)
   have hjw : ((j + 1 : Nat) : Int) - 1 = (j : Int) := by omega
   rw [hjw]
   have hj0 : (0 : Int) <= (j : Int) := by omega
   have hj1 : (j : Int) < (A.length : Int) := by omega
   obtain ⟨x, hx⟩ : ∃ x, A.getD j 0 = x := ⟨_, rfl⟩
   rw [hx] at cA2 hx24 HX hand hpn
   have HJx := Lib.hid (fun W => HJU.out W x hx24)
   have HJP : Hid (∀ W, Calls Tryz.prog 91 #[.int .i64 (x : Int)] W fun e w' => e = .returned (.int .u64 ((2 ^ x : Nat) : Int)) /\ w' = W) := fun W => just_c x (by omega) W
   obtain ⟨P2, hP2⟩ : ∃ P2, (2 ^ x : Nat) = P2 := ⟨_, rfl⟩
   rw [hP2] at hand hpn HJx HJP
   have hmx : Tryz.prog.follows .mixedOrders = true := by kernel_rfl
   obtain ⟨ab, ao, asp⟩ := ad
   clear hgo hcut hx hP2 HC cA had hado hjw
   generalize stay &&& P2 = Q at *
   cases ht : stay.testBit x with
   | true =>
    rw [ht] at hpn HX
    have hq : ((Q : Int) == 0) = false := by have := hpn.2 rfl; simpa using this
    have hq2 : ¬ (Q : Int) = 0 := by have := hpn.2 rfl; omega
    rw [if_pos rfl, List.nil_append] at HX
    have HJ1 : Hid (∀ n, J pre (wr.drewN n)) := fun n => HJD.out _ _ n HJ.out
    clear hpn
    gi_upto_region 3 with fail
    refine wpIn_wide.2 ?_
    have HQQ : Hid (∀ n, Calls Tryz.prog 91 #[.int .i64 (x : Int)] (wr.drewN n) fun e w' => e = .returned (.int .u64 (P2 : Int)) /\ w' = wr.drewN n) := fun n => HJP.out _
    go_quiet (first | (go_at_call 91; refine Calls.quiet_of_same (HQQ.out _)))
    have HKP2 : Hid (KpG B bo W (wr.drewN nq)) := HKP.out
    have HJ2 := Lib.hid (HJ1.out nq)
    clear HJ1 HQQ d0 d1 cA2
    gi_wp2
    go_roundw
    case rel => exact ⟨pre, j, rfl, by omega, HX.out, HKP2.out, HJ2.out⟩
    case measure => first | (simp [intOf]; done) | (simp [intOf]; omega)
   | false =>
    rw [ht] at hpn HX
    have hq0 : Q = 0 := by
     apply Classical.byContradiction
     intro h
     cases hpn.1 h
    subst hq0
    have hand0 : bits BinOp.and IntKind.u64 (stay : Int) (P2 : Int) = 0 := hand
    rw [if_neg (by simp)] at HX
    have hlen : pre.length < (goF A stay).length := by
     rw [<- HX.out]; simp
    obtain ⟨fn, tmps, assign, body, hy, hR⟩ := HY.out pre x wr.drew (HJD.out _ _ 1 HJ.out) hlen
    clear hpn hand
    have hR2 := hR.mono (R' := fun e W' => ∃ bv : Bool, e = .returned (.bool bv) /\ ((bv = true /\ J (pre ++ [x]) W' /\ KpG B bo wr.drew W') \/ (bv = false /\ Jx (pre ++ [x]) W'))) (by
     rintro e W' (⟨h1, h2, h3⟩ | ⟨h1, h2⟩)
     ·exact ⟨true, h1, Or.inl ⟨rfl, h2, h3⟩⟩
     ·exact ⟨false, h1, Or.inr ⟨rfl, h2⟩⟩)
    clear hR
    gi_wp2_with fail
    gi_region_with_o (first | (refine ⟨trivial, ?_⟩; gi_at_call 91; refine (HJx.out _).mono ?_; rintro e w' ⟨rfl, rfl⟩) | (refine hR2.mono ?_; rintro e W3 ⟨bv, rfl, hor⟩))
    all_goals
     rcases hor with ⟨rfl, hJ3, hk3⟩ | ⟨rfl, hJx3⟩
     ·have HJ3 := Lib.hid hJ3
      have HK3 : Hid (KpG B bo W W3) := fun q h1 h2 => (hk3 q h1 h2).trans (HKP.out q h1 h2)
      clear hJ3 hk3 d0 d1 cA2 hR2
      gi_wp2
      go_roundw
      case rel => exact ⟨pre ++ [x], j, rfl, by omega, by rw [List.append_assoc]; exact HX.out, HK3.out, HJ3.out⟩
      case measure => first | (simp [intOf]; done) | (simp [intOf]; omega)
     ·clear hR2
      gi_wp2
      refine bodyPost_ret (results_none rfl _ _ _) rfl ?_
      exact ⟨⟨_, rfl⟩, .inr ⟨_, ⟨_, by rw [List.append_assoc]; exact HX.out⟩, hJx3⟩⟩
end
section
open Go.RowKit Go.Deep Go.Shelf Sv
attribute [local go_sem] Oper.semAt_some
def comeF (b : List Nat) (fr : Nat) : List Nat := b.filter fun i => !fr.testBit i
noncomputable def chR (its : List It) (ls : List Ln) (fr tt : Nat) : Except Int (List (Nat × Bool)) :=
 match ordR its ls fr with
 | .error k => .error k
 | .ok a => match ordR its ls tt with
  | .error k => .error k
  | .ok b => .ok ((goF a tt).map (fun i => (i, false)) ++ (comeF b fr).map fun i => (i, true))
def stCells (l : List (Nat × Bool)) : List Value := l.flatMap fun x => [.int .i64 (x.1 : Int), .bool x.2]
theorem stCells_snoc (l : List (Nat × Bool)) (x : Nat × Bool) : stCells (l ++ [x]) = stCells l ++ [.int .i64 (x.1 : Int), .bool x.2] := by
 unfold stCells; rw [List.flatMap_append]; simp
def ChangeRes (w : World) (r : Except Int (List (Nat × Bool))) (e : Ending) (w' : World) : Prop :=
 match r with
 | .error k => e = .returned (.tuple #[.slice none 0 0, .iface 34 (.int .i64 k)]) /\ Below w.heap.size w w'
 | .ok l => ∃ v, e = .returned (.tuple #[v, .nilIface]) /\ w'.ownsRow w.heap.size 89 2 v l.length (stCells l) /\ Below w.heap.size w w'
theorem infoSt : (Tryz.prog.info? 89).map (fun i => (i.zero, i.size, i.bytes)) = some (some (.agg #[.int .i64 0, .bool false]), 2, 16) := by kernel_rfl
theorem cell_two_newP (w : World) (A B : Value) (t : TypeId) : ∀ (j : Nat) (u : Value), [A, B][j]? = some u -> (w.alloc (.cells #[A, B] t)).cell? (Addr.add ⟨w.heap.size, 0, none⟩ j) = some u := by
 intro j u h
 match j, h with
 | 0, h => simp at h; subst h; simp [Addr.add]
 | 1, h => simp at h; subst h; simp [Addr.add]
 | j + 2, h => simp at h
structure ChS (w W0 W : World) (bo B : Nat) (ov : Value) (st : List (Nat × Bool)) : Prop where
 box : Blk W bo 85 #[ov]
 row : W.ownsRow B 89 2 ov st.length (stCells st)
 kp : KpG B bo W0 W
 bel : Below w.heap.size w W
 sz : B <= W.heap.size
 lo : w.heap.size <= bo
 lt : bo < B
section
variable {w W0 W W' : World} {bo B : Nat} {ov : Value} {st : List (Nat × Bool)}
theorem ChS.new (h : ChS w W0 W bo B ov st) (hb : Below W.heap.size W W') : ChS w W0 W' bo B ov st :=
 ⟨h.box.below hb h.box.lt, row_new' h.row hb, fun k h1 h2 => (hb.block k (Nat.lt_of_lt_of_le h1 h.sz)).trans (h.kp k h1 h2), h.bel.trans (hb.mono h.bel.size), Nat.le_trans h.sz hb.size, h.lo, h.lt⟩
theorem ChS.app (h : ChS w W0 W bo B ov st) {x : Nat} {b : Bool} {w7 : World} {v7 : Value} (hown : w7.ownsRow B 89 2 v7 (st.length + 1) (stCells st ++ [.int .i64 (x : Int), .bool b])) (hgr : (W.alloc (.cells #[.int .i64 (x : Int), .bool b] 89)).grownBy w7 ov.ownBlock) :
  Blk w7 bo 85 #[ov] /\ ChS w W0 (w7.setCell ⟨bo, 0, none⟩ v7) bo B v7 (st ++ [(x, b)]) := by
 have h' := h.new (below_new W (.cells #[.int .i64 (x : Int), .bool b] 89))
 have hlt := h.lt; have hlo := h.lo
 have ho : ∀ k, k < B -> some k ≠ ov.ownBlock := fun k hk e => by have := (h.row.lt k e.symm).1; omega
 have q := h'.box.kept hgr (ho bo hlt)
 have hB7 : Below w.heap.size w w7 := h'.bel.grown hgr (by have := h'.bel.size; omega) (fun k hk => by have := (h.row.lt k hk).1; omega)
 refine ⟨q, q.set (i := 0), ?_, fun k h1 h2 => ?_, hB7.setCell (p := ⟨bo, 0, none⟩) hlo _, ?_, hlo, hlt⟩
 ·rw [stCells_snoc, List.length_append]
  exact row_setLow hown hlt
 ·refine (Below.heap_setCell _ _ _ k (show k ≠ bo from h2)).trans ((hgr.block k (Nat.lt_of_lt_of_le h1 h'.sz) (ho k h1)).trans (h'.kp k h1 h2))
 ·have := h'.sz; have := hgr.size; simp; omega
end
theorem ChS.own {w W0 : World} {bo B : Nat} (hB : w.heap.size <= B) (f : List Nat -> List (Nat × Bool)) : OwnFrom B (fun (pre : List Nat) W => ∃ ov, ChS w W0 W bo B ov (f pre)) := by
 intro pre W W' row ⟨ov, h⟩ hg hr
 have hr' : ∀ r, row = some r -> ∃ o : Obj, W.heap[r]? = some o /\ o.isCells = false := fun r e => (hr r e).2
 exact ⟨ov, blk_kept h.box hg hr', row_keptO h.row hg hr', fun k h1 h2 => (hg.block k (Nat.lt_of_lt_of_le h1 h.sz) (fun e => by have := (hr k e.symm).1; omega)).trans (h.kp k h1 h2), ownFrom_below (β := Unit) (Nat.le_refl _) hB () W W' row h.bel hg hr, Nat.le_trans h.sz hg.size, h.lo, h.lt⟩
theorem going_stops (B bo b : Nat) (A : List Nat) (a : Option Addr) (c stay : Nat) (hA : ∀ x ∈ A, x < 24) (hAl : A.length <= 24) (hst : stay < 18446744073709551616) (w : World) (hb : b < w.heap.size) (hb1 : b + 1 < w.heap.size) (hbB : b < B) (hbB1 : b + 1 < B) (hn0 : b ≠ bo) (hn1 : b + 1 ≠ bo) (h0 : w.cell? ⟨b, 0, none⟩ = some (.slice a A.length c)) (h1 : w.cell? ⟨b + 1, 0, none⟩ = some (.int .u64 (stay : Int))) (hI : ∀ i, i < A.length -> ∃ ad : Addr, a = some ad /\ ad.block < w.heap.size /\ ad.block < B /\ ad.block ≠ bo /\ w.cell? (ad.add i) = some (.int .i64 ((A.getD i 0 : Nat) : Int))) :
  SeqStopsK Fence.wide 3 Tryz.prog 147 #[.pointer (some ⟨b, 0, none⟩), .pointer (some ⟨b + 1, 0, none⟩)] encN (KpG B bo) (fun ys => ys = goF A stay) (fun pre => pre <+: goF A stay) (goF A stay).length w := fun l J Jx W hW hJ _ hY hJ0 =>
 going1_in l B bo b A a c stay hA hAl hst J Jx (fun pre W n h => hJ pre W _ none h (grown_drewN W n) (fun r e => by cases e)) hY W hbB hbB1 hn0 hn1 ((hW.cell (p := ⟨b, 0, none⟩) hb).trans h0) ((hW.cell (p := ⟨b + 1, 0, none⟩) hb1).trans h1) (fun i hi => by
  obtain ⟨ad, e, q1, q2, q3, q4⟩ := hI i hi
  exact ⟨ad, e, q2, q3, (hW.cell (p := ad.add i) (by rw [addBlock]; exact q1)).trans q4⟩) hJ0
theorem kpG_t {B bo : Nat} {A C D : World} (h : KpG B bo A C) (k : KpG B bo C D) : KpG B bo A D := fun q h1 h2 => (k q h1 h2).trans (h q h1 h2)
theorem kpG_b {B bo : Nat} {w : World} (hB : B <= w.heap.size) (W : World) (l : Nat) (o o' : Obj) (hl : w.heap.size <= l) (_ : W.heap[l]? = some o) (_ : o.isCells = false) (_ : o.isWalk = false) : KpG B bo W (W.putObj l o') :=
 fun k h1 _ => World.putObj_heap_other (by omega)
end
end Go.Proofs.YtpmpnbbihmgdpaaGreatDoor
