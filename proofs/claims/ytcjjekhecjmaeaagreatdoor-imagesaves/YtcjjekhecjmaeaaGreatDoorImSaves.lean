/- ImageSaves: what the law answers. -/
import Derived.Test.YtcjjekhecjmaeaaGreatDoorBdErr
import Derived.Test.YtcjjekhecjmaeaaGreatDoorImSavE
import Derived.Test.YtcjjekhecjmaeaaGreatDoorBdMade
set_option maxHeartbeats 3000000
set_option maxRecDepth 100000
namespace Go.Proofs.YtcjjekhecjmaeaaGreatDoor
open Go.ChangeShapes Go.WideShapes Go.ChangeAt Go.RowKit Go.Maps
theorem conv_bytes {W : World} {v : Value} {l : List UInt8} (h : BytesAt W v l) (hl : 0 < l.length) : (convert 49 9 v).run Tryz.prog W = .ok (.string ⟨l.toArray⟩) W := by
 obtain ⟨a, c, rfl, h⟩ := h
 obtain ⟨g, rfl, -, -⟩ := h 0 hl
 refine run_convert_bytes_back W _ _ 5 ⟨g, 0, none⟩ c l (by kernel_rfl) (by kernel_rfl) (by kernel_rfl) (fun j hj => ?_)
 obtain ⟨g2, e, -, h3⟩ := h j hj
 cases e
 have : (⟨g, 0, none⟩ : Addr).add j = ⟨g, j, none⟩ := by unfold Addr.add; split <;> simp_all
 rw [this]; exact h3
theorem tabH_is {vars : Nat} {ns : List Nd} {h : Int} {p : Fn'} (hp : ∀ f, sem ns h f = p f) : tabOf vars p = tabH vars ns h := by
 unfold tabH
 exact congrArg (tabOf vars) (funext fun f => (hp f).symm)
theorem saves_walk (vars : Nat) (hv0 : 0 < vars) (hv6 : vars <= 6) (xs : List Quad) (va : Value) (w : World) (hx : ArgQuads w va xs) (hxl : xs.length <= 25) (hT : Tab10 w) (hG : Glob w) :
  Calls Tryz.prog 4 #[.int .i64 (vars : Int), va] w fun e w' => e = .returned (.bool true) /\ Below w.heap.size w w' := by
 have HM := Lib.hid (made_yes vars hv0 hv6 xs va w hx hxl)
 obtain ⟨hsem, hlen, hal⟩ := fun_ok hv0 hv6 xs [] [0, 1] _ (sems_start (good_nil vars)) (by simp) (by simp; omega)
 have p6 := pow_le6 hv6
 obtain ⟨a0, c0, rfl, -⟩ := hx
 have hTl := hsem.len
 have hne : 0 < (funF vars ([], [0, 1]) xs).2.length := by rw [hal]; simp; omega
 have hN27 : (funF vars ([], [0, 1]) xs).2.length <= 27 := by rw [hal]; simp; omega
 have hnl : (funF vars ([], [0, 1]) xs).1.length <= 5000 := by simp at hlen; omega
 have HSEM := Lib.hid hsem
 have HT := Lib.hid hT
 have HG := Lib.hid hG
 clear hsem hlen hal hT hG
 go_enter Tryz.func4, Tryz.ntmps4
 go_wp2_with fail
 refine HM.out.mono ?_
 rintro e w1 ⟨s, b, O, ga, c, tv, gs, rfl, hm⟩
 have htab := hm.tabs
 have hints := hm.ints
 have hsp := hm.space
 have HB1 := Lib.hid hm.below
 generalize (funF vars ([], [0, 1]) xs).2 = al at *
 generalize (funF vars ([], [0, 1]) xs).1 = ns at *
 generalize (funT vars [fun _ => false, fun _ => true] xs) = T at *
 have hgl : gs.length = al.length := by rw [htab.len, List.length_map]; exact hTl.symm
 obtain ⟨tg, tc, rfl, htg, htc, -⟩ := htab.form (by omega)
 obtain ⟨k, hk⟩ : ∃ k, k = al.length - 1 := ⟨_, rfl⟩
 have lk : k < al.length := by omega
 have hgk : k < gs.length := by omega
 have tk : k < T.length := by omega
 have htk := htc k hgk
 have hik := hints.cells k lk
 have hhk := HSEM.out.has _ (List.getElem_mem lk)
 have hbk : BoolsAt w1 gs[k] (tabH vars ns al[k]) := by
  have := htab.tabs k hgk (by rw [List.length_map]; exact tk)
  rw [List.getElem_map, tabH_is (HSEM.out.sem k lk tk)] at this
  exact this
 have HT1 := HT.out.below HB1.out
 have HSV := Lib.hid (save_any hsp HSEM.out.good.ranked hnl (by omega) HT1 al[k] hhk)
 have HSB : Hid (∀ W, Below w1.heap.size w1 W -> Calls Tryz.prog 18 #[.pointer (some ⟨s, 0, none⟩), .int .i64 (-1)] W fun e w' => e = .returned (.tuple #[.slice none 0 0, errOf 7]) /\ W = w') := fun W hW => save_bad (hsp.new hW) hnl (-1) ⟨by omega, by omega⟩ (by simp [hasB, topOf])
 have HSN : Hid (∀ W, Calls Tryz.prog 18 #[.pointer none, .int .i64 0] W fun e w' => e = .returned (.tuple #[.slice none 0 0, errOf 7]) /\ W = w') := fun W => save_nil 0 W
 have HIM : Hid (∀ W, Below w1.heap.size w1 W -> Calls Tryz.prog 19 #[.slice (some ⟨gs[k], 0, none⟩) (2 ^ vars) (2 ^ vars), .int .i64 (vars : Int)] W fun e w' => e = .returned (.string ⟨(imgF vars ns (postF ns 25 al[k] []) al[k]).toArray⟩) /\ Below W.heap.size W w') := fun W hW => rimage_any HSEM.out.good hv6 hnl al[k] hhk W (HT1.below hW) gs[k] (hbk.new hW)
 have HBA : Hid (∀ W, Below w1.heap.size w1 W -> Calls Tryz.prog 20 #[errOf 7, .int .i64 7] W fun e w' => e = .returned (.bool true) /\ Below W.heap.size W w') := fun W hW => bare_code 7 7 W (HG.out.below (HB1.out.trans (hW.mono HB1.out.size)))
 have HCK : Hid (∀ W, Below w1.heap.size w1 W -> W.cell? ⟨tg, k, none⟩ = some (.slice (some ⟨gs[k], 0, none⟩) (2 ^ vars) (2 ^ vars))) := fun W hW => (hW.cell (p := ⟨tg, k, none⟩) htg).trans htk
 have hil : 0 < (imgF vars ns (postF ns 25 al[k] []) al[k]).length := by unfold imgF; simp only [List.length_append, List.length_cons, List.length_nil]; omega
 rw [hgl]
 have eNN : (al.length != al.length) = false := by simp
 clear hm htab hints htc hsp hTl HM hhk hbk HT1 HT HG HSEM
 generalize imgF vars ns (postF ns 25 al[k] []) al[k] = IM at *
 generalize al[k] = x at *
 generalize gs[k] = gk at *
 generalize 2 ^ vars = n at *
 subst hk
 generalize al.length = N at *
 generalize gs.length = Ng at *
 obtain ⟨m, rfl⟩ : ∃ m, N = m + 1 := ⟨N - 1, by omega⟩
 simp only [Nat.add_sub_cancel] at *
 have i1 : (m : Int) < ((m + 1 : Nat) : Int) := by omega
 have i2 : (m : Int) < (m : Int) + 1 := by omega
 have i3 : (m : Int) + 1 - 1 = (m : Int) := by omega
 go_wp2_with fail
 refine HSV.out.mono ?_
 rintro e w2 ⟨v2, rfl, hM2, hb2⟩
 obtain ⟨a2, c2, rfl⟩ := hM2.form
 have HB2 := Lib.hid hb2
 have HCV : Hid (∀ W, Below w2.heap.size w2 W -> (convert 49 9 (.slice a2 IM.length c2)).run Tryz.prog W = .ok (.string ⟨IM.toArray⟩) W) := fun W hW => conv_bytes (hM2.below hW).bytes hil
 clear HSV hM2
 go_wp2_with fail
 refine (HSB.out w2 HB2.out).mono ?_
 rintro e w3 ⟨rfl, rfl⟩
 go_wp2_with fail
 refine (HSN.out w2).mono ?_
 rintro e w3 ⟨rfl, rfl⟩
 clear HSB HSN hb2
 generalize errOf 7 = E7 at *
 have HIM2 : Hid (∀ W, Below w2.heap.size w2 W -> Calls Tryz.prog 19 #[.slice (some ⟨gk, 0, none⟩) n n, .int .i64 (vars : Int)] W fun e w' => e = .returned (.string ⟨IM.toArray⟩) /\ Below w2.heap.size w2 w') := fun W hW => (HIM.out W (HB2.out.trans (hW.mono HB2.out.size))).mono (by
  rintro e w' ⟨rfl, hb⟩
  exact ⟨rfl, hW.trans (hb.mono hW.size)⟩)
 have HBA2 : Hid (∀ W, Below w2.heap.size w2 W -> Calls Tryz.prog 20 #[E7, .int .i64 7] W fun e w' => e = .returned (.bool true) /\ Below w2.heap.size w2 w') := fun W hW => (HBA.out W (HB2.out.trans (hW.mono HB2.out.size))).mono (by
  rintro e w' ⟨rfl, hb⟩
  exact ⟨rfl, hW.trans (hb.mono hW.size)⟩)
 have SK : Hid (∀ W, Below w2.heap.size w2 W -> W.cell? ⟨tg, m, none⟩ = some (.slice (some ⟨gk, 0, none⟩) n n) /\ (convert 49 9 (.slice a2 IM.length c2)).run Tryz.prog W = .ok (.string ⟨IM.toArray⟩) W) := fun W hW => ⟨HCK.out W (HB2.out.trans (hW.mono HB2.out.size)), HCV.out W hW⟩
 have kT := fun d os => (SK.out (Go.Sort.grow (redrawn w2 d) os) (below_regrown w2 d os)).1
 have kC := fun d os => (SK.out (Go.Sort.grow (redrawn w2 d) os) (below_regrown w2 d os)).2
 have HI : Hid (∀ d os, Calls Tryz.prog 19 #[.slice (some ⟨gk, 0, none⟩) n n, .int .i64 (vars : Int)] (Go.Sort.grow (redrawn w2 d) os) fun e w'' => e = .returned (.string ⟨IM.toArray⟩) /\ ∃ p : Regrown, w'' = Go.Sort.grow (redrawn w2 p.d) p.os) := fun d os => (HIM2.out _ (below_regrown w2 d os)).mono (by
  rintro e w' ⟨rfl, hb⟩
  exact ⟨rfl, regrown_of_below hb⟩)
 have HBB : Hid (∀ d os, Calls Tryz.prog 20 #[E7, .int .i64 7] (Go.Sort.grow (redrawn w2 d) os) fun e w'' => e = .returned (.bool true) /\ ∃ p : Regrown, w'' = Go.Sort.grow (redrawn w2 p.d) p.os) := fun d os => (HBA2.out _ (below_regrown w2 d os)).mono (by
  rintro e w' ⟨rfl, hb⟩
  exact ⟨rfl, regrown_of_below hb⟩)
 have HFB : Hid (∀ W, Below w2.heap.size w2 W -> Below w.heap.size w W) := fun W hW => HB1.out.trans ((HB2.out.trans (hW.mono HB2.out.size)).mono HB1.out.size)
 clear HCV HCK HIM HBA HIM2 HBA2 SK
 go_upto_region 10 with fail
 refine wp_region_quiet_below mixed (by kernel_rfl) ?_
 repeat (quiet_step (first | (go_at_call 19; exact HI.out _ _) | (go_at_call 20; exact HBB.out _ _)))
 refine wpQuiet_nil ?_
 intro _ hw'
 obtain ⟨⟨dq, osq⟩, hw''⟩ := hw'
 subst hw''
 have hbq := Lib.hid (HFB.out _ (below_regrown w2 dq osq))
 clear kT kC HI HBB
 generalize Go.Sort.grow (redrawn w2 dq) osq = wq at *
 go_wp2
 go_ret
 exact ⟨rfl, hbq.out⟩
end Go.Proofs.YtcjjekhecjmaeaaGreatDoor
