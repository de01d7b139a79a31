/- PlanOrdered: the law's walk. -/
import Derived.Test.YtpmpnbbihmgdpaaGreatDoorPlPlanP
import Derived.Test.YtpmpnbbihmgdpaaGreatDoorPlMath
import Derived.Test.YtpmpnbbihmgdpaaGreatDoorPlSmall
import Derived.Test.YtpmpnbbihmgdpaaGreatDoorCtSmall
import Derived.Test.YtpmpnbbihmgdpaaGreatDoorPlAmong
import Derived.Lib.QuietBelow
import Derived.Deep.CutRange
import Derived.Laws.Cover1
import Derived.Test.YtpmpnbbihmgdpaaGreatDoorPrulesL
import Derived.Deep.QuietTactic
import Derived.BigQuiet
set_option maxHeartbeats 2000000
set_option maxRecDepth 100000
namespace Go.Proofs.YtpmpnbbihmgdpaaGreatDoor
section
open Sv
theorem not_test (k i : Nat) (hk : k < 64) (hi : i < 64) : (18446744073709551615 - 2 ^ k).testBit i = decide (i ≠ k) := by
 have h := pow_64 k hk
 have e : 18446744073709551615 - 2 ^ k = 2 ^ 64 - (2 ^ k + 1) := by omega
 rw [e, Nat.testBit_two_pow_sub_succ h, Nat.testBit_two_pow, decide_eq_true hi, Bool.true_and, <- decide_not]
 congr 1
 exact propext ⟨fun h e => h e.symm, fun h e => h e.symm⟩
theorem mem_eraseN {l : List Nat} (hn : l.Nodup) {j : Nat} (hj : j < l.length) (i : Nat) : i ∈ l.eraseIdx j ↔ i ∈ l /\ i ≠ l.getD j 0 := by
 have e : l.getD j 0 = l[j] := by rw [List.getD_eq_getElem?_getD, List.getElem?_eq_getElem hj]; rfl
 rw [List.mem_eraseIdx_iff_getElem, e]
 constructor
 ·rintro ⟨k, hk, hne, rfl⟩
  refine ⟨List.getElem_mem hk, fun h => hne ?_⟩
  apply Classical.byContradiction
  intro hkj
  rcases Nat.lt_or_gt_of_ne hkj with hlt | hgt
  ·exact (List.pairwise_iff_getElem.1 hn) k j hk hj hlt h
  ·exact (List.pairwise_iff_getElem.1 hn) j k hj hk hgt h.symm
 ·rintro ⟨hm, hne⟩
  obtain ⟨k, hk, rfl⟩ := List.getElem_of_mem hm
  exact ⟨k, hk, fun h => hne (by subst h; rfl), rfl⟩
theorem perm_erase {l : List Nat} {j : Nat} (hj : j < l.length) : l.Perm (l.getD j 0 :: l.eraseIdx j) := by
 have e : l.getD j 0 = l[j] := by rw [List.getD_eq_getElem?_getD, List.getElem?_eq_getElem hj]; rfl
 have h1 : l.take j ++ l[j] :: l.drop (j + 1) = l := by rw [<- List.drop_eq_getElem_cons hj, List.take_append_drop]
 rw [e, List.eraseIdx_eq_take_drop_succ]
 have h2 := List.perm_middle (a := l[j]) (l₁ := l.take j) (l₂ := l.drop (j + 1))
 rw [h1] at h2
 exact h2
theorem ordGo_spec (nd : List Nat) : ∀ (f : Nat) (wait : List Nat) (left : Nat) (out R : List Nat), wait.length = f -> wait.Nodup -> (∀ i ∈ wait, i < 64) -> (∀ i, left.testBit i = decide (i ∈ wait)) -> ordGo nd f wait left out = some R ->
  ∃ t, R = out ++ t /\ t.Perm wait /\ ∀ k, k < t.length -> ∀ m ∈ wait, (nd.getD (t.getD k 0) 0).testBit m = true -> m ∈ t.take k
 | 0, wait, left, out, R, hf, _, _, _, h => by
  cases h
  obtain rfl := List.length_eq_zero_iff.1 hf
  exact ⟨[], by simp, List.Perm.refl _, fun k hk => by simp at hk⟩
 | f + 1, wait, left, out, R, hf, hn, h64, hb, h => by
  rw [ordGo] at h
  split at h
  ·rename_i e; subst e; cases hf
  ·split at h
   ·cases h
   ·rename_i j hj
    have hjl := (List.findIdx?_eq_some_iff_findIdx_eq.1 hj).1
    have hrdy : nd.getD (wait.getD j 0) 0 &&& left = 0 := by
     obtain ⟨h1, h2, _⟩ := List.findIdx?_eq_some_iff_getElem.1 hj
     have e : wait.getD j 0 = wait[j] := by rw [List.getD_eq_getElem?_getD, List.getElem?_eq_getElem hjl]; rfl
     rw [e]
     exact of_decide_eq_true h2
    have hx64 := h64 _ (pget_mem wait j hjl)
    have hlen : (wait.eraseIdx j).length = f := by rw [List.length_eraseIdx_of_lt hjl]; omega
    obtain ⟨t, rfl, hp, ht⟩ := ordGo_spec nd f (wait.eraseIdx j) _ _ R hlen (hn.sublist (List.eraseIdx_sublist _ _)) (fun i hi => h64 i (List.mem_of_mem_eraseIdx hi)) (fun i => by
     rw [Nat.testBit_and, hb]
     by_cases hi : i ∈ wait
     ·rw [not_test _ _ hx64 (h64 i hi), decide_eq_true hi, Bool.true_and]
      congr 1
      exact propext ⟨fun h => (mem_eraseN hn hjl i).2 ⟨hi, h⟩, fun h => ((mem_eraseN hn hjl i).1 h).2⟩
     ·rw [decide_eq_false hi, Bool.false_and, decide_eq_false (fun h => hi (List.mem_of_mem_eraseIdx h))]) h
    refine ⟨wait.getD j 0 :: t, by simp, ((List.Perm.cons _ hp).trans (perm_erase hjl).symm), fun k hk m hm hbit => ?_⟩
    cases k with
    | zero =>
     exfalso
     exact (and_zero_iff _ _).1 hrdy m ⟨hbit, by rw [hb, decide_eq_true hm]⟩
    | succ k =>
     rw [List.take_succ_cons, List.mem_cons]
     by_cases hmx : m = wait.getD j 0
     ·exact Or.inl hmx
     ·refine Or.inr (ht k (by simpa using hk) m ((mem_eraseN hn hjl m).2 ⟨hm, hmx⟩) ?_)
      simpa using hbit
theorem itemsP_mem (set : Nat) (h : set < 16777216) (i : Nat) : set.testBit i = decide (i ∈ itemsP set 24) := by
 unfold itemsP
 rw [Bool.eq_iff_iff, decide_eq_true_iff, List.mem_filter, List.mem_range]
 refine ⟨fun hb => ⟨?_, hb⟩, fun h => h.2⟩
 apply Classical.byContradiction
 intro hc
 rw [test_of_lt (n := 24) h (by omega)] at hb
 cases hb
theorem itemsP_nodup (set : Nat) : (itemsP set 24).Nodup := by
 unfold itemsP
 exact List.Nodup.sublist List.filter_sublist List.nodup_range
theorem needP_test {ls : List Ln} {its : List It} (hN : newF ls = .ok its) (x m : Nat) (hx : x < its.length) : ∀ n, n <= ls.length -> (((needP its ls n).getD x 0).testBit m = true ↔ ∃ q, q < n /\ (ls.getD q default).kind = 2 /\ ownN its (ls.getD q default) = x /\ m ∈ amongF its (ls.getD q default).other (ls.getD q default).rng /\ m ≠ x)
 | 0, _ => by
  unfold needP
  rw [List.getD_eq_getElem?_getD, List.getElem?_replicate, if_pos hx]
  simp
 | n + 1, hn => by
  have ih := needP_test hN x m hx n (by omega)
  have hl := (newF_ok hN).1
  have hmem := lget_mem ls n (by omega)
  unfold needP
  by_cases hk : (ls.getD n default).kind = 2
  ·rw [if_pos hk, List.getD_eq_getElem?_getD, List.getElem?_set]
   have ho := own_pair hN hmem (Or.inl hk)
   by_cases hox : ownN its (ls.getD n default) = x
   ·rw [if_pos hox, if_pos (by rw [needP_len]; omega), Option.getD_some, hox, Nat.testBit_or, Bool.or_eq_true, ih, Nat.testBit_and, amS_test]
    constructor
    ·rintro (⟨q, h1, h2⟩ | h)
     ·exact ⟨q, by omega, h2⟩
     ·rw [Bool.and_eq_true, decide_eq_true_iff] at h
      have hm := amongF_lt its _ _ m h.1
      rw [not_test x m (by omega) (by omega), decide_eq_true_iff] at h
      exact ⟨n, by omega, hk, hox, h.1, h.2⟩
    ·rintro ⟨q, h1, h2, h3, h4, h5⟩
     rcases Nat.lt_succ_iff_lt_or_eq.1 h1 with e | e
     ·exact Or.inl ⟨q, e, h2, h3, h4, h5⟩
     ·subst e
      have hm := amongF_lt its _ _ m h4
      refine Or.inr ?_
      rw [decide_eq_true h4, not_test x m (by omega) (by omega), decide_eq_true h5]
      rfl
   ·rw [if_neg hox, <- List.getD_eq_getElem?_getD, ih]
    constructor
    ·rintro ⟨q, h1, h2⟩; exact ⟨q, by omega, h2⟩
    ·rintro ⟨q, h1, h2, h3, h4⟩
     rcases Nat.lt_succ_iff_lt_or_eq.1 h1 with e | e
     ·exact ⟨q, e, h2, h3, h4⟩
     ·subst e; exact absurd h3 hox
  ·rw [if_neg hk, ih]
   constructor
   ·rintro ⟨q, h1, h2⟩; exact ⟨q, by omega, h2⟩
   ·rintro ⟨q, h1, h2, h3⟩
    rcases Nat.lt_succ_iff_lt_or_eq.1 h1 with e | e
    ·exact ⟨q, e, h2, h3⟩
    ·subst e; exact absurd h2 hk
structure OrdIs (ls : List Ln) (its : List It) (set : Nat) (l : List Nat) : Prop where
 lt : ∀ x ∈ l, x < its.length
 nodup : l.Nodup
 mem : ∀ i, set.testBit i = decide (i ∈ l)
 len : l.length <= 24
 need : ∀ i, i < l.length -> ∀ x ∈ ls, x.kind = 2 -> ctNumb its x.it = ((l.getD i 0 : Nat) : Int) -> ∀ m ∈ amongF its x.other x.rng, m ≠ l.getD i 0 -> set.testBit m = true -> m ∈ l.take i
theorem ordR_false {ls : List Ln} {its : List It} {set : Nat} {k : Int} (h : ordR its ls set = .error k) : ((fitsF its ls set).1 = false /\ k = 13) \/ ((fitsF its ls set).1 = true /\ k = 11) := by
 unfold ordR at h
 cases hf : (fitsF its ls set).1 with
 | false => rw [if_pos hf] at h; cases h; exact Or.inl ⟨rfl, rfl⟩
 | true =>
  rw [if_neg (by rw [hf]; decide)] at h
  cases ho : ordF its ls set with
  | none => rw [ho] at h; cases h; exact Or.inr ⟨rfl, rfl⟩
  | some l => rw [ho] at h; cases h
theorem ordR_is {ls : List Ln} {its : List It} (hN : newF ls = .ok its) {set : Nat} (hs : set < 2 ^ its.length) {l : List Nat} (h : ordR its ls set = .ok l) : OrdIs ls its set l := by
 have hl := (newF_ok hN).1
 have hs24 : set < 16777216 := Nat.lt_of_lt_of_le hs (Nat.pow_le_pow_right (n := 2) (by decide) hl)
 have ho : ordF its ls set = some l := by
  unfold ordR at h
  split at h
  ·cases h
  ·cases ho : ordF its ls set with
   | none => rw [ho] at h; cases h
   | some l' => rw [ho] at h; cases h; rfl
 unfold ordF at ho
 have hlt : ∀ i ∈ itemsP set 24, i < its.length := fun x hx => by
  have hb : set.testBit x = true := by rw [itemsP_mem set hs24, decide_eq_true hx]
  apply Classical.byContradiction
  intro hc
  rw [test_of_lt hs (by omega)] at hb
  cases hb
 obtain ⟨t, rfl, hp, ht⟩ := ordGo_spec (needF its ls) _ (itemsP set 24) set [] l rfl (itemsP_nodup set) (fun i hi => by have := hlt i hi; omega) (itemsP_mem set hs24) ho
 refine ⟨fun x hx => hlt x (hp.mem_iff.1 hx), hp.nodup_iff.2 (itemsP_nodup set), fun i => by rw [itemsP_mem set hs24]; congr 1; exact propext hp.mem_iff.symm, by rw [hp.length_eq]; exact itemsP_len set 24, fun i hi x hx hk hnum m hm hne hb => ?_⟩
 have hmi : m ∈ itemsP set 24 := by rw [itemsP_mem set hs24] at hb; exact of_decide_eq_true hb
 refine ht i hi m hmi ?_
 obtain ⟨n, hn, rfl⟩ := List.getElem_of_mem hx
 have hgx : ls.getD n default = ls[n] := by rw [List.getD_eq_getElem?_getD, List.getElem?_eq_getElem hn]; rfl
 have hown := (own_pair hN hx (Or.inl hk)).1
 rw [hnum] at hown
 refine (needP_test hN (l.getD i 0) m (hlt _ (hp.mem_iff.1 (pget_mem l i hi))) ls.length (Nat.le_refl _)).2 ⟨n, hn, ?_, ?_, ?_, hne⟩
 ·rw [hgx]; exact hk
 ·rw [hgx]; omega
 ·rw [hgx]; exact hm
end
section
open Sv
theorem mixedP : Tryz.prog.follows .mixedOrders = true := by kernel_rfl
end
section
open Go.RowKit Go.Deep Sv
theorem pord_none (s : ByteArray) (set : Nat) (w : World) (hw : Lw w) (hr : readF s 24 = none) : Calls Tryz.prog 9 #[.string s, .int .u64 (set : Int)] w fun e w' => e = .returned (.bool true) /\ Below w.heap.size w w' := by
 have HRD0 := read_c s 24 w hw
 rw [hr] at HRD0
 have HRD : Hid (Calls Tryz.prog 25 #[.string s, .int .i64 24] w fun e w' => e = .returned (.tuple #[.pointer none, .agg #[.int .i64 0, .slice none 0 0, .slice none 0 0], .bool false]) /\ Below w.heap.size w w') := HRD0
 have HCO : Hid (∀ W, Below w.heap.size w W -> Calls Tryz.prog 36 #[] W fun e w' => e = .returned (.bool true) /\ Below W.heap.size W w') := fun W hb => planned_c W (hw.below hb)
 clear HRD0 hr hw
 go_enter Tryz.func9, Tryz.ntmps9
 go_wp2_with fail
 refine HRD.out.mono ?_
 rintro e w1 ⟨rfl, hb1⟩
 have HB1 : Hid (Below w.heap.size w (w1.alloc (.cells #[.int .i64 0, .slice none 0 0, .slice none 0 0] 65))) := hb1.alloc hb1.size _
 clear hb1 HRD
 go_upto_region 2 with fail
 generalize w1.alloc (.cells #[.int .i64 0, .slice none 0 0, .slice none 0 0] 65) = W1 at *
 go_wp2_with fail
 refine (HCO.out W1 HB1.out).mono ?_
 rintro e w2 ⟨rfl, hb2⟩
 have HB2 : Hid (Below w.heap.size w w2) := HB1.out.trans (hb2.mono HB1.out.size)
 clear hb2 HB1
 go_wp2_with fail
 refine (HCO.out w2 HB2.out).mono ?_
 rintro e w3 ⟨rfl, hb3⟩
 have HB3 : Hid (Below w.heap.size w w3) := HB2.out.trans (hb3.mono HB2.out.size)
 clear hb3 HB2 HCO
 go_wp2
 go_ret
 exact ⟨rfl, HB3.out⟩
theorem bitsN_take (l : List Nat) (i : Nat) (h : i < l.length) : bitsN (l.take (i + 1)) = bitsN (l.take i) ||| 2 ^ l.getD i 0 := by
 rw [ptake_snoc l i h, bitsN_snoc]
theorem nodup_take {l : List Nat} (hn : l.Nodup) {i : Nat} (hi : i < l.length) : l.getD i 0 ∉ l.take i := fun hm => by
 obtain ⟨k, hk, e⟩ := List.getElem_of_mem hm
 rw [List.length_take] at hk
 rw [List.getElem_take] at e
 have e2 : l.getD i 0 = l[i] := by rw [List.getD_eq_getElem?_getD, List.getElem?_eq_getElem hi]; rfl
 exact (List.pairwise_iff_getElem.1 hn) k i (by omega) hi (by omega) (by rw [e, e2])
theorem pord_err (s : ByteArray) (set : Nat) (hs : set < 18446744073709551616) (w : World) (hw : Lw w) (ls : List Ln) (its : List It) (hr : readF s 24 = some (ls, its)) (er : Int) (hE : ordR its ls (set &&& (2 ^ its.length - 1)) = .error er) : Calls Tryz.prog 9 #[.string s, .int .u64 (set : Int)] w fun e w' => e = .returned (.bool true) /\ Below w.heap.size w w' := by
 obtain ⟨hN, hP, hv⟩ := readF_ok hr
 have HRD := Lib.hid (read_some s w hw ls its 24 hr)
 have HCO : Hid (∀ W, Below w.heap.size w W -> Calls Tryz.prog 36 #[] W fun e w' => e = .returned (.bool true) /\ Below W.heap.size W w') := fun W hb => planned_c W (hw.below hb)
 have hand := mask_u64 set its.length hs hv
 have hms : set &&& (2 ^ its.length - 1) < 18446744073709551616 := Nat.lt_of_le_of_lt Nat.and_le_left hs
 obtain ⟨M, hM⟩ : ∃ M, set &&& (2 ^ its.length - 1) = M := ⟨_, rfl⟩
 rw [hM] at hand hms hE
 have hor := ordR_false hE
 have HOR : Hid (∀ W bk, CatAt W bk ls its -> Calls Tryz.prog 33 #[.pointer (some ⟨bk, 0, none⟩), .int .u64 (M : Int)] W fun e w' => e = .returned (.tuple #[.slice none 0 0, .iface 34 (.int .i64 er)]) /\ Below W.heap.size W w') := fun W bk hc => by
  have h := order_c bk ls its hN M W hc hms
  rw [hE] at h
  exact h
 have HFI : Hid (∀ W bk, CatAt W bk ls its -> Calls Tryz.prog 31 #[.pointer (some ⟨bk, 0, none⟩), .int .u64 (M : Int)] W fun e w' => e = .returned (.tuple #[.bool (fitsF its ls M).1, .int .i64 (fitsF its ls M).2]) /\ Below W.heap.size W w') := fun W bk hc => fits_c bk ls its hN M W hc hms
 have HTE : Hid (∀ W, Below w.heap.size w W -> Calls Tryz.prog 28 #[.iface 34 (.int .i64 er)] W fun e w' => e = .returned (.int .i64 er) /\ Below W.heap.size W w') := fun W hb => tell_errno er W (hw.below hb).lb.glob
 have hfin : (er == 11) = (fitsF its ls M).1 := by
  rcases hor with ⟨h1, rfl⟩ | ⟨h1, rfl⟩
  ·rw [h1]; rfl
  ·rw [h1]; rfl
 clear hr hw hN hM hE hor
 generalize (fitsF its ls M).1 = fb at *
 generalize (fitsF its ls M).2 = fk at *
 generalize ofL its ls = P at *
 go_enter Tryz.func9, Tryz.ntmps9
 go_wp2_with fail
 refine HRD.out.mono ?_
 rintro e w1 ⟨bc, ca, cc, fa, fc, rfl, hnc, hcat, hrs, hb1⟩
 have hbn := below_new w1 (.cells #[.int .i64 (its.length : Int), .slice ca P.length cc, .slice fa P.length fc] 65)
 have kr := Blk.new w1 65 #[.int .i64 (its.length : Int), .slice ca P.length cc, .slice fa P.length fc]
 have HCAT := Lib.hid (hcat.below hbn (Nat.le_refl _))
 have HB1 := Lib.hid (hb1.trans (hbn.mono hb1.size))
 clear hcat hrs hb1 hbn HRD
 go_upto_region 2 with fail
 generalize w1.alloc (.cells #[.int .i64 (its.length : Int), .slice ca P.length cc, .slice fa P.length fc] 65) = W1 at *
 generalize w1.heap.size = b4 at *
 go_wp2_with fail
 refine (HCO.out W1 HB1.out).mono ?_
 rintro e w2 ⟨rfl, hb2⟩
 have HB2 : Hid (Below w.heap.size w w2) := HB1.out.trans (hb2.mono HB1.out.size)
 have kr2 := kr.below hb2 kr.lt
 have HC2 := Lib.hid (HCAT.out.below hb2 (Nat.le_refl _))
 have HO2 := Lib.hid (HOR.out w2 bc HC2.out)
 have d0 : w2.cell? ⟨b4, 0, none⟩ = some (.int .i64 (its.length : Int)) := kr2.cell 0
 clear hb2 HB1 HCO HCAT HOR kr kr2
 go_wp2_with fail
 refine HO2.out.mono ?_
 rintro e w3 ⟨rfl, hb3⟩
 have HB3 : Hid (Below w.heap.size w w3) := HB2.out.trans (hb3.mono HB2.out.size)
 have HF3 := Lib.hid (HFI.out w3 bc (HC2.out.below hb3 (Nat.le_refl _)))
 clear hb3 HB2 HO2 HC2 HFI d0
 go_wp2_with fail
 refine HF3.out.mono ?_
 rintro e w4 ⟨rfl, hb4⟩
 have HB4 : Hid (Below w.heap.size w w4) := HB3.out.trans (hb4.mono HB3.out.size)
 have HT4 := Lib.hid (HTE.out w4 HB4.out)
 clear hb4 HB3 HF3 HTE
 go_wp2_with fail
 refine HT4.out.mono ?_
 rintro e w5 ⟨rfl, hb5⟩
 have HB5 : Hid (Below w.heap.size w w5) := HB4.out.trans (hb5.mono HB4.out.size)
 have hbb : (fb == fb) = true := by simp
 clear hb5 HB4 HT4
 go_wp2
 go_ret
 exact ⟨by first | rfl | simp, HB5.out⟩
end
end Go.Proofs.YtpmpnbbihmgdpaaGreatDoor
