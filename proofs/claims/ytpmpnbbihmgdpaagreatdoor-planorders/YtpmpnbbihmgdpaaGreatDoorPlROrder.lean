/- plan: the reference's Order: the walk. -/
import Derived.Test.YtpmpnbbihmgdpaaGreatDoorPlROrdP
import Derived.BigQuiet
set_option maxHeartbeats 4000000
set_option maxRecDepth 100000
namespace Go.Proofs.YtpmpnbbihmgdpaaGreatDoor
section
open Go.RowKit Go.Deep Sv
theorem ix_intsF (F : Nat) (cb : Array Value) (p : Int -> Bool) (xs : List Int) (a : Option Addr) (cap : Nat) (w : World) (hm : xs.length <= 9223372036854775807)
  (hent : ∀ args w, (callFunc F args).run Tryz.prog w = .ok (.enter F args) w) (hI : IntsIn w a xs)
  (hf : ∀ W i, Below w.heap.size w W -> i < xs.length -> Calls Tryz.prog F (#[.int .i64 (xs.getD i 0)] ++ cb) W fun e w' => e = .returned (.bool (p (xs.getD i 0))) /\ Below W.heap.size W w') :
  Calls Tryz.prog 90 #[.slice a xs.length cap, .func (.func F) #[] cb] w fun e w' => e = .returned (.int .i64 (idxF p xs)) /\ Below w.heap.size w w' := by
 have HF := Lib.hid hf
 have HI := Lib.hid hI
 clear hf hI
 go_enter Tryz.func90, Tryz.ntmps90
 go_wp2_with fail
 go_loopw [8] (fun kV wr => ∃ k : Nat, k <= xs.length /\ kV = .int .i64 (k : Int) /\ (∀ j, j < k -> p (xs.getD j 0) = false) /\ Below w.heap.size w wr) (fun kV _ => xs.length - (intOf kV).toNat)
 case atStart => exact ⟨0, Nat.zero_le _, rfl, fun j h => by omega, Below.refl _ _⟩
 case round =>
  obtain ⟨k, hk, rfl, h1, hbr⟩ := hrel
  have H1 := Lib.hid h1
  have HBR := Lib.hid hbr
  clear h1 hbr
  by_cases hlt : k < xs.length
  ·obtain ⟨ad, rfl, hl, hc⟩ := HI.out.below HBR.out k hlt
   have HC := Lib.hid (HF.out wr k HBR.out hlt)
   cases hp : p (xs.getD k 0) with
   | true =>
    rw [hp] at HC
    have HP := Lib.hid hp
    clear hp
    generalize hx : xs.getD k 0 = x at *
    have HX := Lib.hid hx
    clear hx
    go_wp2_with fail
    refine HC.out.mono ?_
    rintro e w1 ⟨rfl, hb1⟩
    have HB1 : Hid (Below w.heap.size w w1) := HBR.out.trans (hb1.mono HBR.out.size)
    clear hb1 HC
    go_wp2
    go_ret
    exact ⟨by rw [idxF_hit H1.out hlt (by rw [HX.out]; exact HP.out)]; rfl, HB1.out⟩
   | false =>
    rw [hp] at HC
    have HP := Lib.hid hp
    clear hp
    generalize hx : xs.getD k 0 = x at *
    have HX := Lib.hid hx
    clear hx
    go_wp2_with fail
    refine HC.out.mono ?_
    rintro e w1 ⟨rfl, hb1⟩
    have HB1 : Hid (Below w.heap.size w w1) := HBR.out.trans (hb1.mono HBR.out.size)
    clear hb1 HC
    go_wp2
    go_roundw
    case rel => exact ⟨k + 1, hlt, by go_num, fun j hj => (by
     rcases Nat.lt_succ_iff_lt_or_eq.1 hj with e | e
     ·exact H1.out j e
     ·rw [e, HX.out]; exact HP.out), HB1.out⟩
    case measure => simp [intOf]; omega
  ·obtain rfl : k = xs.length := by omega
   go_wp2
   go_ret
   exact ⟨by rw [idxF_none H1.out]; rfl, HBR.out⟩
theorem ent_ord1 : ∀ args w, (callFunc 89 args).run Tryz.prog w = .ok (.enter 89 args) w := by intro args w; kernel_rfl
theorem ord1_c (nd : List Nat) (n : Nat) (hn : nd.length = n) (g b8 b10 left k : Nat) (hl : left < 18446744073709551616) (hk : k < n) (hnd : nd.getD k 0 < 16777216) (w : World) (h8 : w.cell? ⟨b8, 0, none⟩ = some (.slice (some ⟨g, 0, none⟩) n n)) (h10 : w.cell? ⟨b10, 0, none⟩ = some (.int .u64 (left : Int))) (h : NdB w g nd) :
  Calls Tryz.prog 89 #[.int .i64 (k : Int), .pointer (some ⟨b8, 0, none⟩), .pointer (some ⟨b10, 0, none⟩)] w fun e w' => e = .returned (.bool (decide (nd.getD k 0 &&& left = 0))) /\ Below w.heap.size w w' := by
 have c := h.cell (n := k) (by omega)
 have hk0 : (0 : Int) <= (k : Int) := by omega
 have hk1 : (k : Int) < (n : Int) := by omega
 have hand := and_u64 (nd.getD k 0) left (by omega) hl
 have HQ : Hid ((((nd.getD k 0 &&& left : Nat) : Int) == 0) = decide (nd.getD k 0 &&& left = 0)) := by
  show _ = _
  by_cases hq : nd.getD k 0 &&& left = 0
  ·rw [decide_eq_true hq, hq]; rfl
  ·rw [decide_eq_false hq]; simpa using hq
 clear h hnd hn
 generalize nd.getD k 0 = N0 at *
 generalize N0 &&& left = Q at *
 generalize decide (Q = 0) = D at *
 have HQ2 := HQ.out
 go_enter Tryz.func89, Tryz.ntmps89
 go_upto_region 1 with fail
 go_quiet (fail)
 go_wp2
 go_ret
 exact ⟨by first | rfl | (rw [HQ.out]; rfl) | simp [HQ.out], below_drewN (Below.refl _ _) _⟩
theorem order_false (bk : Nat) (ls : List Ln) (its : List It) (hN : newF ls = .ok its) (set : Nat) (w : World) (h : CatAt w bk ls its) (hs : set < 18446744073709551616) (hf : (fitsF its ls set).1 = false) :
  Calls Tryz.prog 33 #[.pointer (some ⟨bk, 0, none⟩), .int .u64 (set : Int)] w (OrderRes w (ordR its ls set)) := by
 have HFI0 := fits_c bk ls its hN set w h hs
 rw [hf] at HFI0
 have HFI := Lib.hid HFI0
 have HR : ordR its ls set = .error 13 := by unfold ordR; rw [if_pos hf]
 rw [HR]
 show Calls _ _ _ _ fun e w' => e = .returned (.tuple #[.slice none 0 0, .iface 34 (.int .i64 13)]) /\ Below w.heap.size w w'
 clear HFI0 hf h hN HR
 generalize (fitsF its ls set).2 = f2 at *
 go_enter Tryz.func33, Tryz.ntmps33
 go_wp2_with fail
 refine HFI.out.mono ?_
 rintro e w1 ⟨rfl, hb1⟩
 have HB1 := Lib.hid hb1
 clear hb1 HFI
 go_wp2
 go_ret2
 exact ⟨rfl, HB1.out⟩
theorem order_true (bk : Nat) (ls : List Ln) (its : List It) (hN : newF ls = .ok its) (set : Nat) (w : World) (h : CatAt w bk ls its) (hs : set < 2 ^ its.length) (hf : (fitsF its ls set).1 = true) :
  Calls Tryz.prog 33 #[.pointer (some ⟨bk, 0, none⟩), .int .u64 (set : Int)] w (OrderRes w (ordR its ls set)) := by
 obtain ⟨i0, hin, hz0, hz1, hz2⟩ := info_parts infoInt
 have hl := (newF_ok hN).1
 have hs24 : set < 16777216 := Nat.lt_of_lt_of_le hs (Nat.pow_le_pow_right (n := 2) (by decide) hl)
 have HFI0 := fits_c bk ls its hN set w h (by omega)
 rw [hf] at HFI0
 have HFI := Lib.hid HFI0
 have HR : Hid (ordR its ls set = ordG (ordGo (needF its ls) (itemsP set 24).length (itemsP set 24) set [])) := by show _ = _; unfold ordR ordF; rw [if_neg (by rw [hf]; decide)]
 have HNE : Hid (∀ W, Below w.heap.size w W -> Calls Tryz.prog 87 #[.pointer (some ⟨bk, 0, none⟩)] W fun e w' => ∃ g, e = .returned (.slice (some ⟨g, 0, none⟩) its.length its.length) /\ W.heap.size <= g /\ NdB w' g (needF its ls) /\ Below W.heap.size W w') := fun W hb => needed_c bk ls its hN W (h.below hb (Nat.le_refl _))
 have HIT : Hid (∀ W, Calls Tryz.prog 88 #[.int .u64 (set : Int)] W fun e w' => ∃ v, e = .returned v /\ w'.ownsRow W.heap.size 3 1 v (itemsP set 24).length (icells (natS (itemsP set 24))) /\ Below W.heap.size W w') := fun W => items_c0 set hs24 W
 have HWL : Hid (∀ x ∈ itemsP set 24, x < its.length) := fun x hx => by
  unfold itemsP at hx
  have hb := (List.mem_filter.1 hx).2
  apply Classical.byContradiction
  intro hc
  rw [test_of_lt hs (by omega)] at hb
  cases hb
 have HNDL : Hid ((needF its ls).length = its.length) := needP_len its ls ls.length
 have HNDB : Hid (∀ k, (needF its ls).getD k 0 < 16777216) := fun k => needP_lt its ls hl ls.length k
 have HIL := itemsP_len set 24
 clear HFI0 hf h hN hs
 generalize (fitsF its ls set).2 = f2 at *
 generalize needF its ls = ND at *
 generalize itemsP set 24 = IT at *
 go_enter Tryz.func33, Tryz.ntmps33
 go_wp2_with fail
 refine HFI.out.mono ?_
 rintro e w1 ⟨rfl, hb1⟩
 have HN1 := Lib.hid (HNE.out w1 hb1)
 have HB1 := Lib.hid hb1
 clear hb1 HFI HNE
 go_wp2_with fail
 refine HN1.out.mono ?_
 rintro e w2 ⟨g, rfl, hg1, hnb, hb2⟩
 have HNB := Lib.hid hnb
 have HB2 : Hid (Below w.heap.size w w2) := HB1.out.trans (hb2.mono HB1.out.size)
 have hg0 : w.heap.size <= g := Nat.le_trans HB1.out.size hg1
 have hgl := hnb.lt
 clear hnb hb2 HN1 HB1
 go_wp2_with fail
 refine (HIT.out w2).mono ?_
 rintro e w3 ⟨wv, rfl, hwr, hb3⟩
 have hw3 := hb3.size
 obtain ⟨wa, wc, rfl, -⟩ := row_form hwr
 have hsd : OrdS w ((w3.alloc (.cells #[.slice (some ⟨g, 0, none⟩) its.length its.length] 57)).alloc (.cells #[.int .u64 (set : Int)] 69)) g w2.heap.size w3.heap.size (w3.heap.size + 1) its.length ND IT [] set (.slice wa IT.length wc) (.slice none 0 0) := by
  have hba := below_new w3 (.cells #[.slice (some ⟨g, 0, none⟩) its.length its.length] 57)
  have hbb := below_new (w3.alloc (.cells #[.slice (some ⟨g, 0, none⟩) its.length its.length] 57)) (.cells #[.int .u64 (set : Int)] 69)
  have hbc := hba.trans (hbb.mono hba.size)
  have k1 := Blk.new w3 57 #[.slice (some ⟨g, 0, none⟩) its.length its.length]
  have k2 := Blk.new (w3.alloc (.cells #[.slice (some ⟨g, 0, none⟩) its.length its.length] 57)) 69 #[.int .u64 (set : Int)]
  rw [World.size_alloc] at k2
  exact ⟨k1.below hbb k1.lt, k2, (HNB.out.below hb3).below hbc, row_new' hwr hbc, fun k hk => (hwr.lt k hk).2, World.ownsRow_nil _ _ _ _, HB2.out.trans ((hb3.trans (hbc.mono hb3.size)).mono HB2.out.size), hg0, hgl, hw3, Nat.lt_succ_self _⟩
 have HSD := Lib.hid hsd
 clear hsd hwr hb3 HIT HNB
 go_upto_region 6 with fail
 generalize (w3.alloc (.cells #[.slice (some ⟨g, 0, none⟩) its.length its.length] 57)).alloc (.cells #[.int .u64 (set : Int)] 69) = W5 at *
 generalize w3.heap.size = b8 at *
 generalize w2.heap.size = Bw at *
 go_wp2_with fail
 go_loopw [9, 12] (fun wV oV wr => ∃ (wait out : List Nat) (left : Nat), OrdS w wr g Bw b8 (b8 + 1) its.length ND wait out left wV oV /\ ordGo ND wait.length wait left out = ordGo ND IT.length IT set [] /\ (∀ x ∈ wait, x < its.length) /\ left < 16777216 /\ wait.length + out.length <= 24) (fun wV _ _ => match wV with | .slice _ n _ => n | _ => 0)
 case atStart => exact ⟨IT, [], set, HSD.out, rfl, HWL.out, hs24, by simpa using HIL⟩
 case round =>
  clear HSD
  obtain ⟨wait, out, left, hst, hgo, hwl, hl24, h24⟩ := hrel
  have HST := Lib.hid hst
  have HGO := Lib.hid hgo
  have HWT := Lib.hid hwl
  obtain ⟨wa2, wc2, rfl, -⟩ := row_form hst.wait
  obtain ⟨oa2, oc2, rfl, -⟩ := row_form hst.out
  clear hst hgo hwl
  by_cases hwe : wait = []
  ·subst hwe
   have HRR : Hid (ordR its ls set = .ok out) := by show _ = _; rw [HR.out, <- HGO.out, ordGo_nil]; rfl
   go_wp2
   go_ret2
   rw [HRR.out]
   exact ⟨_, rfl, ownsRow_base HST.out.out (by have := HST.out.h3; have := HST.out.h2; omega), HST.out.B⟩
  ·have hwp : (0 : Int) < (wait.length : Int) := by
    have : wait.length ≠ 0 := fun e => hwe (List.length_eq_zero_iff.1 e)
    omega
   have HWE := Lib.hid hwe
   have h8 : wr.cell? ⟨b8, 0, none⟩ = some (.slice (some ⟨g, 0, none⟩) its.length its.length) := HST.out.p8.cell 0
   have HIX0 := ix_intsF 89 #[.pointer (some ⟨b8, 0, none⟩), .pointer (some ⟨b8 + 1, 0, none⟩)] (fun x : Int => decide (ND.getD x.toNat 0 &&& left = 0)) (natS wait) wa2 wc2 wr (by rw [natS_len]; omega) ent_ord1 (ints_row (B := Bw) (c := wc2) (by rw [natS_len]; exact HST.out.wait)) (fun W i hW hi => by
    rw [natS_len] at hi
    rw [natS_at wait i hi, Int.toNat_natCast]
    exact ord1_c ND its.length HNDL.out g b8 (b8 + 1) left (wait.getD i 0) (by omega) (HWT.out _ (pget_mem wait i hi)) (HNDB.out _) W ((HST.out.new hW).p8.cell 0) ((HST.out.new hW).p10.cell 0) (HST.out.new hW).nd)
   rw [natS_len, idx_nat (fun i => decide (ND.getD i 0 &&& left = 0))] at HIX0
   have HIX := Lib.hid HIX0
   clear HIX0 hwe
   go_wp2_with fail
   refine HIX.out.mono ?_
   rintro e w6 ⟨rfl, hb6⟩
   have HS6 := Lib.hid (HST.out.new hb6)
   clear HIX HST hb6 h8
   cases hfi : wait.findIdx? (fun i => decide (ND.getD i 0 &&& left = 0)) with
   | none =>
    have HRR : Hid (ordR its ls set = .error 11) := by show _ = _; rw [HR.out, <- HGO.out, ordGo_none HWE.out hfi]; rfl
    have hix : idxF (fun i => decide (ND.getD i 0 &&& left = 0)) wait = -1 := by unfold idxF; rw [hfi]
    rw [hix]
    clear hfi hix
    go_wp2
    go_ret2
    rw [HRR.out]
    exact ⟨rfl, HS6.out.B⟩
   | some j =>
    have hj := (List.findIdx?_eq_some_iff_findIdx_eq.1 hfi).1
    have HG2 : Hid (ordGo ND (wait.eraseIdx j).length (wait.eraseIdx j) (left &&& (18446744073709551615 - 2 ^ wait.getD j 0)) (out ++ [wait.getD j 0]) = ordGo ND IT.length IT set []) := by show _ = _; rw [<- HGO.out, ordGo_some hfi]
    have hix : idxF (fun i => decide (ND.getD i 0 &&& left = 0)) wait = (j : Int) := by unfold idxF; rw [hfi]
    rw [hix]
    clear hfi hix HGO
    obtain ⟨ad, had, -, c1⟩ := (ints_row (B := Bw) (c := wc2) (by rw [natS_len]; exact HS6.out.wait) : IntsIn w6 wa2 (natS wait)) j (by rw [natS_len]; exact hj)
    rw [natS_at wait j hj] at c1
    have hxw := HWT.out _ (pget_mem wait j hj)
    have HW2 : Hid (∀ x ∈ wait.eraseIdx j, x < its.length) := fun x hx => HWT.out x (List.mem_of_mem_eraseIdx hx)
    have hel : (wait.eraseIdx j).length = wait.length - 1 := List.length_eraseIdx_of_lt hj
    have HEL := Lib.hid hel
    obtain ⟨gw, cap', hgw⟩ : ∃ gw cap', Value.slice wa2 wait.length wc2 = .slice (some ⟨gw, 0, none⟩) wait.length cap' := by
     rcases HS6.out.wait.2 with ⟨e, e0⟩ | ⟨gw, cap', cur, e, _⟩
     ·omega
     ·exact ⟨gw, cap', e⟩
    cases hgw
    cases had
    rw [add_plain, Nat.zero_add] at c1
    obtain ⟨x, hx⟩ : ∃ x, wait.getD j 0 = x := ⟨_, rfl⟩
    rw [hx] at c1 hxw HG2
    have hj0 : (0 : Int) <= (j : Int) := by omega
    have hj1 : (j : Int) < (wait.length : Int) := by omega
    have HX := Lib.hid hx
    clear hx hel HWT
    have HOUT : Hid (w6.ownsRow (b8 + 1 + 1) 3 1 (.slice oa2 out.length oc2) out.length (icells (natS out))) := HS6.out.out
    have hbs := HS6.out.p10.lt
    have hjn : ¬ (j : Int) < 0 := by omega
    go_wp2_with (at_builtin; refine wpList_append_own_at _ rfl _ _ 31 rfl (b8 + 1 + 1) 3 i0 (.int .i64 0) 1 8 Tryz.underlying31 hin hz0 hz1 hz2 rfl (by decide) _ _ _ rfl (HOUT.out.alloc _) ⟨w6.heap.size, 0, none⟩ 1 1 [.int .i64 (x : Int)] rfl rfl ?c1 ?c2 ?c3 ?c4 ?c5 ?_)
    case c1 => exact cell_lit _ _ _
    case c2 => exact one_lit _
    case c3 => unfold maxLen; omega
    case c4 => omega
    case c5 => simp; omega
    intro v7 w7 hown7 hgrow7 _ hloc7
    have HS7 := Lib.hid (HS6.out.app hown7 hgrow7)
    clear hown7 hgrow7 hloc7 HS6 HOUT c1 hbs
    obtain ⟨va7, vc7, rfl, -⟩ := row_form HS7.out.out
    rw [show (out ++ [x]).length = out.length + 1 by simp]
    have hS8 := HS7.out.new (W' := w7.drew) ((Below.refl _ _).drew)
    obtain ⟨L2, hL2⟩ : ∃ L2, left &&& (18446744073709551615 - 2 ^ x) = L2 := ⟨_, rfl⟩
    have hL24 : L2 < 16777216 := by rw [<- hL2]; exact Nat.lt_of_le_of_lt Nat.and_le_left hl24
    have hand := u64_andNot_nat left (2 ^ x) (by omega) (pow_64 x (by omega))
    rw [hL2] at hand HG2
    have HJ : Hid (∀ W, Calls Tryz.prog 91 #[.int .i64 (x : Int)] W fun e w' => e = .returned (.int .u64 ((2 ^ x : Nat) : Int)) /\ w' = W) := fun W => just_c x (by omega) W
    have c2 : w7.drew.cell? ⟨gw, j, none⟩ = some (.int .i64 (x : Int)) := by
     obtain ⟨ad, e, -, c⟩ := (ints_row (B := Bw) (c := wc2) (by rw [natS_len]; exact hS8.wait) : IntsIn w7.drew (some ⟨gw, 0, none⟩) (natS wait)) j (by rw [natS_len]; exact hj)
     cases e
     rw [add_plain, Nat.zero_add, natS_at wait j hj, HX.out] at c
     exact c
    have c10 : w7.drew.cell? ⟨b8 + 1, 0, none⟩ = some (.int .u64 (left : Int)) := hS8.p10.cell 0
    have fz : w7.drew.frozen? ⟨b8 + 1, 0, none⟩ = false := hS8.p10.frozen 0
    have hS9 := hS8.store L2
    have HSE : Hid ((w7.drew.setCell ⟨b8 + 1, 0, none⟩ (.int .u64 (L2 : Int))).cell? ⟨gw, j, none⟩ = some (.int .i64 (x : Int))) := (cell_set_other (by have := hS8.wlt gw rfl; omega)).trans c2
    have HDEL : Hid (Calls Tryz.prog 49 #[.slice (some ⟨gw, 0, none⟩) wait.length wc2, .int .i64 (j : Int), .int .i64 ((j + 1 : Nat) : Int)] (w7.drew.setCell ⟨b8 + 1, 0, none⟩ (.int .u64 (L2 : Int))) fun e w' => e = .returned (.slice (some ⟨gw, 0, none⟩) (wait.eraseIdx j).length wc2) /\ OrdS w w' g Bw b8 (b8 + 1) its.length ND (wait.eraseIdx j) (out ++ [x]) L2 (.slice (some ⟨gw, 0, none⟩) (wait.eraseIdx j).length wc2) (.slice va7 (out ++ [x]).length vc7)) := by
     have hd := del_one (natS wait) j gw wc2 Bw _ (by rw [natS_len]; exact hS9.wait) (by rw [natS_len]; exact hj)
     rw [natS_len, <- natS_erase, natS_len] at hd
     exact hd.mono fun e w' ⟨he, h1, h2⟩ => ⟨he, hS9.del h1 h2⟩
    have HS0 := Lib.hid c2
    rw [show (out ++ [x]).length = out.length + 1 by simp] at HDEL
    clear hS8 hS9 HS7 hL2 HX
    generalize (2 ^ x : Nat) = P2 at *
    have hjw : IntKind.i64.wrap ((j : Int) + 1) = ((j + 1 : Nat) : Int) := by rw [IntKind.wrap_i64]; omega
    go_wp2_with fail
    refine wp_region_noPanic ?_
    refine wp_region_held_drew (S := (fun W => W.cell? ⟨gw, j, none⟩ = some (.int .i64 (x : Int)))) (by kernel_rfl) HS0.out (fun hHeld => ?_)
    refine wpAnyH_take (i := 1) (oi := ⟨_, _, _, _, _, _⟩) (v := ?_) rfl (by as_aux_lemma => kernel_rfl) (by as_aux_lemma => kernel_rfl) (by as_aux_lemma => kernel_rfl) (fun _ _ _ h => h) (Or.inl ⟨by rfl, ?_⟩) (by assumption) ?_
    rotate_left
    ·(intro w hSw; (try dsimp only at hSw); first | (go_simp; done) | (go_simp; with_reducible rfl))
    try simp only [Act.put, List.setIfInBounds_toArray, List.set_cons_zero, List.set_cons_succ]
    refine wpAnyH_take (i := 2) (oi := ⟨_, _, _, _, _, _⟩) (v := ?_) rfl (by as_aux_lemma => kernel_rfl) (by as_aux_lemma => kernel_rfl) (by as_aux_lemma => kernel_rfl) (fun _ _ _ h => h) (Or.inl ⟨by rfl, ?_⟩) (by assumption) ?_
    rotate_left
    ·(intro w hSw; (try dsimp only at hSw); first | (go_simp; done) | (go_simp; with_reducible rfl))
    try simp only [Act.put, List.setIfInBounds_toArray, List.set_cons_zero, List.set_cons_succ]
    refine wpAnyH_take (i := 3) (oi := ⟨_, _, _, _, _, _⟩) (v := ?_) rfl (by as_aux_lemma => kernel_rfl) (by as_aux_lemma => kernel_rfl) (by as_aux_lemma => kernel_rfl) (fun _ _ _ h => h) (Or.inl ⟨by rfl, ?_⟩) (by assumption) ?_
    rotate_left
    ·(intro w hSw; (try dsimp only at hSw); first | (go_simp; done) | (go_simp; with_reducible rfl))
    try simp only [Act.put, List.setIfInBounds_toArray, List.set_cons_zero, List.set_cons_succ]
    refine wpAnyH_take (i := 4) (oi := ⟨_, _, _, _, _, _⟩) (v := ?_) rfl (by as_aux_lemma => kernel_rfl) (by as_aux_lemma => kernel_rfl) (by as_aux_lemma => kernel_rfl) (fun _ _ _ h => h) (Or.inl ⟨by rfl, ?_⟩) (by assumption) ?_
    rotate_left
    ·(intro w hSw; (try dsimp only at hSw); first | (go_simp; done) | (go_simp; with_reducible rfl))
    try simp only [Act.put, List.setIfInBounds_toArray, List.set_cons_zero, List.set_cons_succ]
    refine wpAnyH_ready (rs := [0, 5]) (by as_aux_lemma => kernel_rfl) (by simp) ?_
    refine AllReadyH.cons (o := ⟨_, _, _, _, _, _⟩) rfl (fun K hK => ?_) (AllReadyH.cons (o := ⟨_, _, _, _, _, _⟩) rfl (fun K hK => ?_) AllReadyH.nil)
    ·go_simp
     refine hK.out _ _ ?_ (fun hNew => ?_)
     ·exact hHeld
     clear hK K
     replace hHeld := hNew
     clear hNew
     try simp only [Act.put, List.setIfInBounds_toArray, List.set_cons_zero, List.set_cons_succ]
     refine wpAnyH_ready (rs := [5]) (by as_aux_lemma => kernel_rfl) (by simp) ?_
     refine AllReadyH.cons (o := ⟨_, _, _, _, _, _⟩) rfl (fun K hK => ?_) AllReadyH.nil
     go_simp
     refine (HJ.out _).mono ?_
     rintro e y ⟨rfl, hy⟩
     rw [hy]
     clear hy
     try simp only
     refine hK.out _ _ ?_ (fun hNew => ?_)
     ·exact hHeld
     clear hK K
     replace hHeld := hNew
     clear hNew
     try simp only [Act.put, List.setIfInBounds_toArray, List.set_cons_zero, List.set_cons_succ]
     refine wpAnyH_take (i := 6) (oi := ⟨_, _, _, _, _, _⟩) (v := ?_) rfl (by as_aux_lemma => kernel_rfl) (by as_aux_lemma => kernel_rfl) (by as_aux_lemma => kernel_rfl) (fun _ _ _ h => h) (Or.inl ⟨by rfl, ?_⟩) (by assumption) ?_
     rotate_left
     ·(intro w hSw; (try dsimp only at hSw); first | (go_simp; done) | (go_simp; with_reducible rfl))
     try simp only [Act.put, List.setIfInBounds_toArray, List.set_cons_zero, List.set_cons_succ]
     refine wpAnyH_ready (rs := [7]) (by as_aux_lemma => kernel_rfl) (by simp) ?_
     refine AllReadyH.cons (o := ⟨_, _, _, _, _, _⟩) rfl (fun K hK => ?_) AllReadyH.nil
     go_simp
     refine hK.out _ _ ?_ (fun hNew => ?_)
     ·exact HSE.out
     clear hK K
     replace hHeld := hNew
     clear hNew
     try simp only [Act.put, List.setIfInBounds_toArray, List.set_cons_zero, List.set_cons_succ]
     refine wpAnyH_done (by kernel_rfl) (NoPanic.normal ?_) _
     have HDD := Lib.hid (HDEL.out)
     clear hHeld HDEL
     go_wp2_with fail
     refine HDD.out.mono ?_
     rintro e w9 ⟨rfl, hs9⟩
     have HS9 := Lib.hid hs9
     clear hs9 HDD c2 c10 fz
     go_wp2
     go_roundw
     case rel => exact ⟨wait.eraseIdx j, out ++ [x], L2, HS9.out, HG2.out, HW2.out, hL24, by rw [HEL.out, List.length_append, List.length_singleton]; omega⟩
     case measure =>
      have := HEL.out
      simp only [HEL.out]
      omega
    ·go_simp
     refine (HJ.out _).mono ?_
     rintro e y ⟨rfl, hy⟩
     rw [hy]
     clear hy
     try simp only
     refine hK.out _ _ ?_ (fun hNew => ?_)
     ·exact hHeld
     clear hK K
     replace hHeld := hNew
     clear hNew
     try simp only [Act.put, List.setIfInBounds_toArray, List.set_cons_zero, List.set_cons_succ]
     refine wpAnyH_ready (rs := [0]) (by as_aux_lemma => kernel_rfl) (by simp) ?_
     refine AllReadyH.cons (o := ⟨_, _, _, _, _, _⟩) rfl (fun K hK => ?_) AllReadyH.nil
     go_simp
     refine hK.out _ _ ?_ (fun hNew => ?_)
     ·exact hHeld
     clear hK K
     replace hHeld := hNew
     clear hNew
     try simp only [Act.put, List.setIfInBounds_toArray, List.set_cons_zero, List.set_cons_succ]
     refine wpAnyH_take (i := 6) (oi := ⟨_, _, _, _, _, _⟩) (v := ?_) rfl (by as_aux_lemma => kernel_rfl) (by as_aux_lemma => kernel_rfl) (by as_aux_lemma => kernel_rfl) (fun _ _ _ h => h) (Or.inl ⟨by rfl, ?_⟩) (by assumption) ?_
     rotate_left
     ·(intro w hSw; (try dsimp only at hSw); first | (go_simp; done) | (go_simp; with_reducible rfl))
     try simp only [Act.put, List.setIfInBounds_toArray, List.set_cons_zero, List.set_cons_succ]
     refine wpAnyH_ready (rs := [7]) (by as_aux_lemma => kernel_rfl) (by simp) ?_
     refine AllReadyH.cons (o := ⟨_, _, _, _, _, _⟩) rfl (fun K hK => ?_) AllReadyH.nil
     go_simp
     refine hK.out _ _ ?_ (fun hNew => ?_)
     ·exact HSE.out
     clear hK K
     replace hHeld := hNew
     clear hNew
     try simp only [Act.put, List.setIfInBounds_toArray, List.set_cons_zero, List.set_cons_succ]
     refine wpAnyH_done (by kernel_rfl) (NoPanic.normal ?_) _
     have HDD := Lib.hid (HDEL.out)
     clear hHeld HDEL
     go_wp2_with fail
     refine HDD.out.mono ?_
     rintro e w9 ⟨rfl, hs9⟩
     have HS9 := Lib.hid hs9
     clear hs9 HDD c2 c10 fz
     go_wp2
     go_roundw
     case rel => exact ⟨wait.eraseIdx j, out ++ [x], L2, HS9.out, HG2.out, HW2.out, hL24, by rw [HEL.out, List.length_append, List.length_singleton]; omega⟩
     case measure =>
      have := HEL.out
      simp only [HEL.out]
      omega
theorem order_c (bk : Nat) (ls : List Ln) (its : List It) (hN : newF ls = .ok its) (set : Nat) (w : World) (h : CatAt w bk ls its) (hs : set < 18446744073709551616) :
  Calls Tryz.prog 33 #[.pointer (some ⟨bk, 0, none⟩), .int .u64 (set : Int)] w (OrderRes w (ordR its ls set)) := by
 cases hf : (fitsF its ls set).1 with
 | false => exact order_false bk ls its hN set w h hs hf
 | true =>
  refine order_true bk ls its hN set w h ?_ hf
  cases hsb : singleB its set with
  | false => rw [show fitsF its ls set = (false, -2) by unfold fitsF; rw [if_pos hsb]] at hf; cases hf
  | true =>
   unfold singleB at hsb
   exact of_decide_eq_true (Bool.and_eq_true_iff.1 hsb).1
end
section
open Go.RowKit Go.Deep Sv
theorem rin2_c (set : Nat) (hs : set < 18446744073709551616) (b k : Nat) (hk : k < 24) (w : World) (hc : w.cell? ⟨b, 0, none⟩ = some (.int .u64 (set : Int))) :
  Calls Tryz.prog 84 #[.int .i64 (k : Int), .pointer (some ⟨b, 0, none⟩)] w fun e w' => e = .returned (.bool (set.testBit k)) /\ w' = w := by
 have h1 := shr_bit1 set k hs
 go_enter Tryz.func84, Tryz.ntmps84
 go_wp2
 go_ret
 exact ⟨by first | rfl | simp, rfl⟩
def ROrderRes (w : World) (r : Except Int (List Nat)) (e : Ending) (w' : World) : Prop :=
 match r with
 | .error k => e = .returned (.tuple #[.slice none 0 0, .int .i64 k]) /\ Below w.heap.size w w'
 | .ok l => ∃ v, e = .returned (.tuple #[v, .int .i64 0]) /\ w'.ownsRow w.heap.size 3 1 v l.length (icells (natS l)) /\ Below w.heap.size w w'
theorem filter_mid (A B : List Nat) (x : Nat) (hn : (A ++ x :: B).Nodup) : (A ++ x :: B).filter (fun i => !decide (i = x)) = A ++ B := by
 rw [List.nodup_append] at hn
 obtain ⟨-, hb, hc⟩ := hn
 obtain ⟨hd, -⟩ := List.nodup_cons.1 hb
 have hf : ∀ (l : List Nat), x ∉ l -> l.filter (fun i => !decide (i = x)) = l := fun l hl => by
  rw [List.filter_eq_self]
  intro a ha
  have : a ≠ x := fun h => hl (h ▸ ha)
  simp [this]
 rw [List.filter_append, List.filter_cons, hf A (fun hm => hc x hm x List.mem_cons_self rfl), hf B hd]
 simp
theorem filter_ne {L : List Nat} (hn : L.Nodup) {j : Nat} (hj : j < L.length) : L.filter (fun i => !decide (i = L.getD j 0)) = L.eraseIdx j := by
 have e : L.getD j 0 = L[j] := by rw [List.getD_eq_getElem?_getD, List.getElem?_eq_getElem hj]; rfl
 have h1 : L = L.take j ++ L.getD j 0 :: L.drop (j + 1) := by rw [e, <- List.drop_eq_getElem_cons hj, List.take_append_drop]
 rw [List.eraseIdx_eq_take_drop_succ]
 have := filter_mid (L.take j) (L.drop (j + 1)) (L.getD j 0) (by rw [<- h1]; exact hn)
 rw [<- h1] at this
 exact this
theorem waitL_nodup (set : Nat) (out : List Nat) : (waitL set out).Nodup := by
 unfold waitL; exact List.Nodup.sublist List.filter_sublist (itemsP_nodup set)
theorem waitL_step (set : Nat) (out : List Nat) {j : Nat} (hj : j < (waitL set out).length) : waitL set (out ++ [(waitL set out).getD j 0]) = (waitL set out).eraseIdx j := by
 rw [<- filter_ne (waitL_nodup set out) hj]
 unfold waitL
 rw [List.filter_filter]
 congr 1
 funext i
 simp [Bool.and_comm]
theorem left_step {set : Nat} {out : List Nat} {left : Nat} (h24 : ∀ i ∈ waitL set out, i < 64) (hl : ∀ i, left.testBit i = decide (i ∈ waitL set out)) {j : Nat} (hj : j < (waitL set out).length) (i : Nat) : (left &&& (18446744073709551615 - 2 ^ (waitL set out).getD j 0)).testBit i = decide (i ∈ (waitL set out).eraseIdx j) := by
 rw [Nat.testBit_and, hl]
 by_cases hi : i ∈ waitL set out
 ·rw [not_test _ _ (h24 _ (pget_mem _ j hj)) (h24 i hi), decide_eq_true hi, Bool.true_and]
  congr 1
  exact propext ⟨fun h => (mem_eraseN (waitL_nodup set out) hj i).2 ⟨hi, h⟩, fun h => ((mem_eraseN (waitL_nodup set out) hj i).1 h).2⟩
 ·rw [decide_eq_false hi, Bool.false_and, decide_eq_false (fun h => hi (List.mem_of_mem_eraseIdx h))]
theorem rorder_false (ls : List Ln) (its : List It) (hN : newF ls = .ok its) (set : Nat) (v : Value) (w : World) (h : RLs w v ls) (hf : (fitsF its ls set).1 = false) :
  Calls Tryz.prog 32 #[v, .int .u64 (set : Int)] w (ROrderRes w (ordR its ls set)) := by
 obtain ⟨va, vc, rfl⟩ : ∃ a c, v = .slice a ls.length c := by obtain ⟨vs', _, h2⟩ := h; obtain ⟨a, c, e, _⟩ := h2.form; exact ⟨a, c, e⟩
 have hba := below_new w (.cells #[.slice va ls.length vc] 25)
 have hbb := below_new (w.alloc (.cells #[.slice va ls.length vc] 25)) (.cells #[.int .u64 (set : Int)] 69)
 have hbc := hba.trans (hbb.mono hba.size)
 have k1 := (Blk.new w 25 #[.slice va ls.length vc]).alloc (.cells #[.int .u64 (set : Int)] 69)
 have k2 := Blk.new (w.alloc (.cells #[.slice va ls.length vc] 25)) 69 #[.int .u64 (set : Int)]
 rw [World.size_alloc] at k2
 have HF0 := rfits_any ls its hN set (.slice va ls.length vc) _ (h.below hbc (Nat.le_refl _))
 rw [hf] at HF0
 have HF := Lib.hid HF0
 have HBC := Lib.hid hbc
 rw [show ordR its ls set = .error 13 by unfold ordR; rw [if_pos hf]]
 show Calls _ _ _ _ fun e w' => e = .returned (.tuple #[.slice none 0 0, .int .i64 13]) /\ Below w.heap.size w w'
 clear HF0 h hN hf hba hbb hbc
 generalize (fitsF its ls set).2 = f2 at *
 go_enter Tryz.func32, Tryz.ntmps32
 go_upto_region 1 with fail
 generalize (w.alloc (.cells #[.slice va ls.length vc] 25)).alloc (.cells #[.int .u64 (set : Int)] 69) = W0 at *
 have c1 : W0.cell? ⟨w.heap.size, 0, none⟩ = some (.slice va ls.length vc) := k1.cell 0
 have c2 : W0.cell? ⟨w.heap.size + 1, 0, none⟩ = some (.int .u64 (set : Int)) := k2.cell 0
 go_wp2_with fail
 refine HF.out.mono ?_
 rintro e w1 ⟨rfl, hb1⟩
 have HB1 : Hid (Below w.heap.size w w1) := HBC.out.trans (hb1.mono HBC.out.size)
 clear hb1 HF k1 k2 c1 c2
 go_wp2
 go_ret2
 exact ⟨rfl, HB1.out⟩
end
end Go.Proofs.YtpmpnbbihmgdpaaGreatDoor
