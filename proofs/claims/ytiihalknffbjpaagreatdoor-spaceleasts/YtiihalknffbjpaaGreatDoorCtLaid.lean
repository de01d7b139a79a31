/- What the rows' lists give of the catalog's words; bools as arguments; a world in which the lists hold. -/
import Derived.Test.YtiihalknffbjpaaGreatDoorCtRead
import Derived.Test.YtiihalknffbjpaaGreatDoorWyFrom
import Derived.Test.YtiihalknffbjpaaGreatDoorSpLaid
import Derived.Test.YtiihalknffbjpaaGreatDoorCards
import Derived.Test.YtiihalknffbjpaaGreatDoorTie
import Derived.Test.YtiihalknffbjpaaGreatDoorSvCuts
import Derived.ProofKit
import Derived.OpenShut
import Derived.Deep.DeepHandedRow
import Derived.LaidHandle
import Derived.LaidSub
import Derived.Stop.LaidErr
import Derived.Shelf.Vars
import Derived.Lib.LaidTab
import Derived.Test.YtiihalknffbjpaaGreatDoorCtOf
import Derived.Test.YtiihalknffbjpaaGreatDoorCtLines
import Derived.Deep.Grids
import Derived.Lib.SmallJoins
set_option maxHeartbeats 4000000
set_option maxRecDepth 100000
namespace Go.Proofs.YtiihalknffbjpaaGreatDoor
open Go.RowKit Go.Deep Sv
theorem read_some (s:ByteArray) (w:World) (hw:Lw w) (ls:List Ln) (its:List It) (m:Nat) (hr:readF s m=some (ls,its)):Calls Tryz.prog 33 #[.string s,.int .i64 (m:Int)] w fun e w'=>∃ bc ca cc fa fc,e=.returned (.tuple #[.pointer (some ⟨bc,0,none⟩),.agg #[.int .i64 (its.length:Int),.slice ca (ofL its ls).length cc,.slice fa (ofL its ls).length fc],.bool true])/\(ca=none->cc=0)/\CatAt w' bc ls its/\RS w.heap.size w' (.slice ca (ofL its ls).length cc) (.slice fa (ofL its ls).length fc) ((ofL its ls).map Prod.snd) ((ofL its ls).map Prod.fst)/\Below w.heap.size w w':=by
 have HRD0:=read_c s m w hw
 rw [hr] at HRD0
 refine HRD0.mono fun e w' ⟨bc,cv,fv,h1,h2,h3,h4⟩=>?_
 obtain ⟨ca,cc,e1,hn1⟩:∃ a c,cv=.slice a (ofL its ls).length c/\(a=none->c=0):=by obtain ⟨cs,h1,_⟩:=h3.crow;obtain ⟨a,c,e,hn,_⟩:=(rowAt_own h1).form;exact ⟨a,c,by simpa using e,hn⟩
 obtain ⟨fa,fc,e2⟩:∃ a c,fv=.slice a (ofL its ls).length c:=by obtain ⟨a,c,e,_⟩:=(rowAt_own h3.frow).form;exact ⟨a,c,by simpa using e⟩
 subst e1 e2
 exact ⟨bc,ca,cc,fa,fc,h1,hn1,h2,h3,h4⟩
theorem readF_ok {s:ByteArray} {m:Nat} {ls:List Ln} {its:List It} (hr:readF s m=some (ls,its)):newF ls=.ok its/\(ofL its ls).length<=200/\its.length<=m:=by
 unfold readF at hr
 split at hr
 ·cases hr
 ·split at hr
  ·cases hr
  ·rename_i ls' its' hp
   split at hr
   ·cases hr
   ·rename_i hle
    cases hr
    exact ⟨parseF_ok hp,by omega,by omega⟩
end Go.Proofs.YtiihalknffbjpaaGreatDoor
namespace Go.Proofs.YtiihalknffbjpaaGreatDoor.Bd
open Go.RowKit Go.Deep Sv Lib Go.Sort
theorem best_form (x:Wy):x.best=.tuple #[.int .u64 (((if x.can then x.items else 0):Nat):Int),if x.can then .nilIface else .iface 57 (.int .i64 8)]:=by
 unfold Wy.best
 cases x.can <;> rfl
theorem wrap_uB (x:Int) (n:Nat) (h:x=(n:Int)) (hn:n<18446744073709551616):IntKind.u64.wrap x=(n:Int):=by subst h;rw [IntKind.wrap_u64];omega
theorem mask_u64B (set n:Nat) (hs:set<18446744073709551616) (hn:n<=24):bits BinOp.and IntKind.u64 (set:Int) (IntKind.u64.wrap (IntKind.u64.wrap (2 ^ n) - 1))=((set % 2 ^ n:Nat):Int):=by
 have h1:(2:Nat) ^ n<18446744073709551616:=Nat.pow_lt_pow_right (n:=64) (by decide) (by omega)
 rw [wrap_uB ((2:Int) ^ n) (2 ^ n) (by simp) h1]
 have h0:0<2 ^ n:=Nat.two_pow_pos n
 rw [wrap_uB (((2 ^ n:Nat):Int) - 1) (2 ^ n - 1) (by omega) (by omega),bits_and_u64_nat set (2 ^ n - 1) hs (by omega),Nat.and_two_pow_sub_one_eq_mod]
theorem sleasts_none (s:ByteArray) (vals now:Nat) (costs:List Int) (sa:Option Addr) (cap:Nat) (w:World) (hw:Lw w) (hr:readF s 10=none):Calls Tryz.prog 6 #[.string s,.int .u64 (vals:Int),.int .u64 (now:Int),.slice sa costs.length cap] w fun e w'=>e=.returned (.bool true)/\Below w.heap.size w w':=by
 have hbA:=Go.Proofs.YtiihalknffbjpaaGreatDoor.below_new w (.cells #[.slice sa costs.length cap] 47)
 have HRD0:=read_c s 10 _ (hw.below hbA)
 rw [hr] at HRD0
 have HRD:Hid (Calls Tryz.prog 33 #[.string s,.int .i64 10] (w.alloc (.cells #[.slice sa costs.length cap] 47)) fun e w'=>e=.returned (.tuple #[.pointer none,.agg #[.int .i64 0,.slice none 0 0,.slice none 0 0],.bool false])/\Below (w.alloc (.cells #[.slice sa costs.length cap] 47)).heap.size (w.alloc (.cells #[.slice sa costs.length cap] 47)) w'):=HRD0
 have HCO:Hid (∀ W,Below w.heap.size w W->Calls Tryz.prog 34 #[] W fun e w'=>e=.returned (.bool true)/\Below W.heap.size W w'):=fun W hb=>laid_k W (hw.below hb)
 have HBA:=Lib.hid hbA
 clear HRD0 hr hw hbA
 go_enter Tryz.func6,Tryz.ntmps6
 go_wp2_with fail
 refine HRD.out.mono ?_
 rintro e w1 ⟨rfl,hb1⟩
 have hb1':Below w.heap.size w w1:=HBA.out.trans (hb1.mono HBA.out.size)
 have HB1:Hid (Below w.heap.size w (w1.alloc (.cells #[.int .i64 0,.slice none 0 0,.slice none 0 0] 65))):=hb1'.alloc hb1'.size _
 clear hb1 hb1' HRD HBA
 go_upto_region 2 with fail
 generalize w1.alloc (.cells #[.int .i64 0,.slice none 0 0,.slice none 0 0] 65)=W1 at *
 go_wp2_with fail
 refine (HCO.out W1 HB1.out).mono ?_
 rintro e w2 ⟨rfl,hb2⟩
 have HB2:Hid (Below w.heap.size w w2):=HB1.out.trans (hb2.mono HB1.out.size)
 clear hb2 HB1
 go_wp2_with fail
 refine (HCO.out w2 HB2.out).mono ?_
 rintro e w3 ⟨rfl,hb3⟩
 have HB3:Hid (Below w.heap.size w w3):=HB2.out.trans (hb3.mono HB2.out.size)
 clear hb3 HB2 HCO
 go_wp2
 go_ret
 exact ⟨rfl,HB3.out⟩
theorem sleasts_long (s:ByteArray) (vals now:Nat) (costs:List Int) (hlen:30<costs.length) (sa:Option Addr) (cap:Nat) (w:World) (hw:Lw w) (ls:List Ln) (its:List It) (hr:readF s 10=some (ls,its)):Calls Tryz.prog 6 #[.string s,.int .u64 (vals:Int),.int .u64 (now:Int),.slice sa costs.length cap] w fun e w'=>e=.returned (.bool true)/\Below w.heap.size w w':=by
 have hbA:=Go.Proofs.YtiihalknffbjpaaGreatDoor.below_new w (.cells #[.slice sa costs.length cap] 47)
 have hca:(w.alloc (.cells #[.slice sa costs.length cap] 47)).cell? ⟨w.heap.size,0,none⟩=some (.slice sa costs.length cap):=by simp
 have HRD:=Lib.hid (read_some s _ (hw.below hbA) ls its 10 hr)
 have HCO:Hid (∀ W,Below w.heap.size w W->Calls Tryz.prog 34 #[] W fun e w'=>e=.returned (.bool true)/\Below W.heap.size W w'):=fun W hb=>laid_k W (hw.below hb)
 have HBA:=Lib.hid hbA
 have hl3:(30:Int)<(costs.length:Int):=by omega
 have HCA:Hid (∀ W,Below (w.alloc (.cells #[.slice sa costs.length cap] 47)).heap.size (w.alloc (.cells #[.slice sa costs.length cap] 47)) W->W.cell? ⟨w.heap.size,0,none⟩=some (.slice sa costs.length cap)):=fun W hW=>(hW.cell (p:=⟨w.heap.size,0,none⟩) (by simp)).trans hca
 clear hr hw hbA hca
 go_enter Tryz.func6,Tryz.ntmps6
 go_wp2_with fail
 refine HRD.out.mono ?_
 rintro e w1 ⟨bc,ca,cc,fa,fc,rfl,hnc,hcat,hrs,hb1⟩
 have hbn:=hb1.alloc hb1.size (.cells #[.int .i64 (its.length:Int),.slice ca (ofL its ls).length cc,.slice fa (ofL its ls).length fc] 65)
 have HB1:=Lib.hid hbn
 clear hcat hrs hb1 hbn HRD
 go_upto_region 2 with fail
 generalize w1.alloc (.cells #[.int .i64 (its.length:Int),.slice ca (ofL its ls).length cc,.slice fa (ofL its ls).length fc] 65)=W1 at *
 go_wp2_with fail
 refine (HCO.out W1 (HBA.out.trans (HB1.out.mono HBA.out.size))).mono ?_
 rintro e w2 ⟨rfl,hb2⟩
 have hb12:=HB1.out.trans (hb2.mono HB1.out.size)
 have k2:=HCA.out _ hb12
 have HB2:Hid (Below w.heap.size w w2):=HBA.out.trans (hb12.mono HBA.out.size)
 have HB12:=Lib.hid hb12
 clear hb2 HB1 hb12
 go_wp2_with fail
 refine (HCO.out w2 HB2.out).mono ?_
 rintro e w3 ⟨rfl,hb3⟩
 have HB3:Hid (Below w.heap.size w w3):=HB2.out.trans (hb3.mono HB2.out.size)
 have k3:=HCA.out _ (HB12.out.trans (hb3.mono HB12.out.size))
 clear hb3 HB2 HCO HB12 k2
 go_wp2
 go_ret
 exact ⟨rfl,HB3.out⟩
theorem sleasts_some (s:ByteArray) (vals now:Nat) (hvals:vals<18446744073709551616) (hnow:now<18446744073709551616) (costs:List Int) (hlen:costs.length<=30) (sa:Option Addr) (cap:Nat) (w:World) (hw:Lw w) (hI:IntsIn w sa costs) (ls:List Ln) (its:List It) (hr:readF s 10=some (ls,its)):Calls Tryz.prog 6 #[.string s,.int .u64 (vals:Int),.int .u64 (now:Int),.slice sa costs.length cap] w fun e w'=>e=.returned (.bool true)/\Below w.heap.size w w':=by
 obtain ⟨hN,hP,hv⟩:=readF_ok hr
 have hbA:=Go.Proofs.YtiihalknffbjpaaGreatDoor.below_new w (.cells #[.slice sa costs.length cap] 47)
 have hca:(w.alloc (.cells #[.slice sa costs.length cap] 47)).cell? ⟨w.heap.size,0,none⟩=some (.slice sa costs.length cap):=by simp
 have HRD:=Lib.hid (read_some s _ (hw.below hbA) ls its 10 hr)
 have HCO:Hid (∀ W,Below w.heap.size w W->Calls Tryz.prog 34 #[] W fun e w'=>e=.returned (.bool true)/\Below W.heap.size W w'):=fun W hb=>laid_k W (hw.below hb)
 have HLW:=Lib.hid hw
 have hnk:=newF_ok hN
 have hnm:∀ x ∈ ls,x.name.size<=100000/\x.other.size<=100000:=fun x hx=>check_names (hnk.2.2 x hx)
 have hfine:=ofL_fine hN
 have hLL:LitsL its.length ((ofL its ls).map Prod.snd):=fun c hc=>by
  obtain ⟨x,hx,rfl⟩:=List.mem_map.1 hc
  exact (hfine x hx).1
 have hroom:((2 * 2 ^ its.length + 25 * its.length:Nat):Int)<=4000 + 1:=by
  have:=pow10 hv
  omega
 have HOF:Hid (∀ W bk,CatAt W bk ls its->Calls Tryz.prog 15 #[.pointer (some ⟨bk,0,none⟩),.int .i64 4000] W fun e w'=>∃ p s b O,e=.returned (.tuple #[.pointer (some ⟨p,0,none⟩),.nilIface])/\SolAt W.heap.size w' p s b O its.length 4000 (clF ((ofL its ls).map Prod.snd))/\Below W.heap.size W w'):=fun W bk hc=>of_fine bk ls its W hc hN hv (by omega) hnm hP 4000 (by decide) (by decide) hroom
 have hKl:((ofL its ls).map Prod.snd).length=(ofL its ls).length:=List.length_map _
 generalize hvr:its.length=vars at *
 generalize hK:(ofL its ls).map Prod.snd=K at *
 have HLL:=Lib.hid hLL
 have HBA:=Lib.hid hbA
 have HCA:Hid (∀ W,Below (w.alloc (.cells #[.slice sa costs.length cap] 47)).heap.size (w.alloc (.cells #[.slice sa costs.length cap] 47)) W->W.cell? ⟨w.heap.size,0,none⟩=some (.slice sa costs.length cap)):=fun W hW=>(hW.cell (p:=⟨w.heap.size,0,none⟩) (by simp)).trans hca
 have HIW:Hid (∀ W,Below w.heap.size w W->IntsIn W sa costs):=fun W hW=>hI.below hW
 have hl3:¬ (30:Int)<(costs.length:Int):=by omega
 rw [<- hKl] at HRD hP
 clear hr hw hN hnk hnm hfine hroom hvr hLL hKl hK hbA hca hI
 go_enter Tryz.func6,Tryz.ntmps6
 go_wp2_with fail
 refine HRD.out.mono ?_
 rintro e w1 ⟨bc,ca,cc,fa,fc,rfl,hnc,hcat,hrs,hb1⟩
 have hbn:=Go.Proofs.YtiihalknffbjpaaGreatDoor.below_new w1 (.cells #[.int .i64 (vars:Int),.slice ca K.length cc,.slice fa K.length fc] 65)
 have kr:=Blk.new w1 65 #[.int .i64 (vars:Int),.slice ca K.length cc,.slice fa K.length fc]
 have HCAT:=Lib.hid (hcat.below hbn (Nat.le_refl _))
 have HX1:=Lib.hid (hb1.trans (hbn.mono hb1.size))
 clear hcat hrs hb1 hbn HRD
 go_upto_region 2 with fail
 generalize w1.alloc (.cells #[.int .i64 (vars:Int),.slice ca K.length cc,.slice fa K.length fc] 65)=W1 at *
 generalize w1.heap.size=b4 at *
 go_wp2_with fail
 refine (HCO.out W1 (HBA.out.trans (HX1.out.mono HBA.out.size))).mono ?_
 rintro e w2 ⟨rfl,hb2⟩
 have HX2:=Lib.hid (HX1.out.trans (hb2.mono HX1.out.size))
 have kr2:=kr.below hb2 kr.lt
 have HO2:=Lib.hid (HOF.out w2 bc (HCAT.out.below hb2 (Nat.le_refl _)))
 have k2:=HCA.out _ HX2.out
 clear hb2 HX1 HCO HCAT HOF kr
 go_wp2_with fail
 refine HO2.out.mono ?_
 rintro e w3 ⟨p,sp,b,O,rfl,hsol,hb3⟩
 have HX3:=Lib.hid (HX2.out.trans (hb3.mono HX2.out.size))
 have kr3:=kr2.below hb3 kr2.lt
 have HSOL:=Lib.hid hsol
 have KR3:=Lib.hid kr3
 have d1:w3.cell? ⟨b4,0,none⟩=some (.int .i64 (vars:Int)):=kr3.cell 0
 have hmk:=mask_u64B vals vars hvals (by omega)
 have hmlt:vals % 2 ^ vars<2 ^ vars:=Nat.mod_lt _ (Nat.two_pow_pos vars)
 generalize vals % 2 ^ vars=mv at *
 have hp10:=pow10 hv
 have hmv:mv<18446744073709551616:=by omega
 clear hb3 hsol HX2 HO2 kr2 kr3 k2
 go_wp2_with fail
 have HHD:Hid (∀ W,Below w3.heap.size w3 W->Calls Tryz.prog 35 #[.pointer (some ⟨sp,0,none⟩),.int .i64 (clF K).2,.int .u64 (mv:Int)] W fun e w'=>e=.returned (.tuple #[.bool (allK mv K),.nilIface])/\Below W.heap.size W w'):=fun W hW=>sol_holds (HSOL.out.space.new hW) (by omega) HLL.out mv hmv
 have SC:Hid (∀ X,Below w3.heap.size w3 X->X.cell? ⟨p,0,none⟩=some (.pointer (some ⟨sp,0,none⟩))/\X.cell? ⟨p,1,none⟩=some (.int .i64 (clF K).2)):=fun X hX=>⟨(HSOL.out.new hX).blk.cell 0,(HSOL.out.new hX).blk.cell 1⟩
 have D0:Below w3.heap.size w3 w3.drew:=(Below.refl _ _).drew
 clear d1 hmk
 generalize hal:(clF K).2=al at HHD SC
 generalize hAB:allK mv K=AB at *
 go_region_held3 (fun X=>X.cell? ⟨p,0,none⟩=some (.pointer (some ⟨sp,0,none⟩))/\X.cell? ⟨p,1,none⟩=some (.int .i64 al)) (first | exact SC.out _ D0 | exact SC.out _ D1)
  (first | ((with_reducible refine (HHD.out _ D0).mono ?_);rintro e w5 ⟨rfl,hb5⟩;have D1:Below w3.heap.size w3 w5:=D0.trans (hb5.mono D0.size);clear hb5))
 have hsol5:=HSOL.out.new D1
 have hcl:=clF_all (show vars<=12 by omega) HLL.out
 have hcn:=clF_len (show vars<=12 by omega) HLL.out
 have HL5:Hid (∀ W,Below w5.heap.size w5 W->Calls Tryz.prog 27 #[.pointer (some ⟨p,0,none⟩)] W fun e w'=>e=.returned (fromW leastC vars (clF K).1 (clF K).2 0).best/\Below W.heap.size W w'):=fun W hW=>least_c (hsol5.new hW) hcl.good hcn (by omega) hcl.has
 have HN5:Hid (∀ x:Nat,x<18446744073709551616->∀ W,Below w5.heap.size w5 W->Calls Tryz.prog 28 #[.pointer (some ⟨p,0,none⟩),.int .u64 (x:Int)] W fun e w'=>e=.returned (fromW (nearC x) vars (clF K).1 (clF K).2 0).best/\Below W.heap.size W w'):=fun x hx W hW=>near_c (hsol5.new hW) hcl.good hcn (by omega) hcl.has x hx
 have HX5:=Lib.hid (HX3.out.trans (D1.mono HX3.out.size))
 have HC5:Hid (∀ W,Below w5.heap.size w5 W->Calls Tryz.prog 31 #[.pointer (some ⟨p,0,none⟩),.slice sa costs.length cap] W fun e w'=>e=.returned (cheapV vars (clF K) costs)/\Below W.heap.size W w'):=fun W hW=>cheap_c (hsol5.new hW) hcl.good hcn (by omega) hcl.has costs (by omega) sa cap (HIW.out W (HBA.out.trans ((HX5.out.trans (hW.mono HX5.out.size)).mono HBA.out.size)))
 have KR5:=Lib.hid (KR3.out.below D1 KR3.out.lt)
 clear hsol5 hcl hcn KR3 HX3 D0 D1 SC HHD HSOL
 have hK1:=bestK leastC (show vars<=12 by omega) HLL.out
 have hK2:=bestK (nearC now) (show vars<=12 by omega) HLL.out
 have hK3:=bestK (cheapC costs) (show vars<=12 by omega) HLL.out
 have hK4:=bestK (nearC mv) (show vars<=12 by omega) HLL.out
 have hself:=near_self (show vars<=12 by omega) HLL.out hmlt
 rw [hAB] at hself
 have HL6:=HL5.out
 have HN6:=HN5.out now hnow
 have HN7:=HN5.out mv hmv
 have HC6:=HC5.out
 unfold cheapV at HC6
 clear HL5 HN5 HC5
 generalize fromW leastC vars (clF K).1 (clF K).2 0=R1 at *
 generalize fromW (nearC now) vars (clF K).1 (clF K).2 0=R2 at *
 generalize fromW (cheapC costs) vars (clF K).1 (clF K).2 0=R3 at *
 generalize fromW (nearC mv) vars (clF K).1 (clF K).2 0=R4 at *
 rw [best_form,hK1.can] at HL6
 rw [best_form,hK2.can] at HN6
 rw [best_form,hK4.can] at HN7
 rw [best_form,hK3.can] at HC6
 have HL:=Lib.hid HL6
 have HN:=Lib.hid HN6
 have HM:=Lib.hid HN7
 have HC:=Lib.hid HC6
 clear HL6 HN6 HN7 HC6
 have hk5:Hid (∀ W,Below w5.heap.size w5 W->W.cell? ⟨w.heap.size,0,none⟩=some (.slice sa costs.length cap)):=fun W hW=>HCA.out W (HX5.out.trans (hW.mono HX5.out.size))
 have HBW:Hid (∀ W,Below w5.heap.size w5 W->Below w.heap.size w W):=fun W hW=>HBA.out.trans ((HX5.out.trans (hW.mono HX5.out.size)).mono HBA.out.size)
 clear HCA HX5 HBA
 have HTE:Hid (∀ W,Below w.heap.size w W->Calls Tryz.prog 39 #[.iface 57 (.int .i64 8)] W fun e w'=>e=.returned (.int .i64 8)/\Below W.heap.size W w'):=fun W hW=>tell_errno 8 W (HLW.out.below hW).lb.glob
 have HTN:Hid (∀ W,Below w.heap.size w W->Calls Tryz.prog 39 #[.nilIface] W fun e w'=>e=.returned (.int .i64 0)/\Below W.heap.size W w'):=fun W _=>(tell_nil W).mono fun e w' ⟨h1,h2⟩=>⟨h1,h2 ▸ Below.refl _ _⟩
 cases hSB:satB K with
 | false =>
  have hA:AB=false:=by
   cases hq:AB with
   | false=>rfl
   | true=>rw [hq] at hAB;have:=(hK1.least mv hAB).1;rw [hK1.can,hSB] at this;cases this
  subst hA
  rw [hSB] at HL HN HM HC
  simp only [Bool.false_eq_true,if_false] at HL HN HM HC
  obtain ⟨c1,c2,hcv⟩:∃ c1 c2,(if costs.any badC=true then Value.tuple #[.int .u64 0,.iface 57 (.int .i64 2)] else Value.tuple #[.int .u64 ((0:Nat):Int),.iface 57 (.int .i64 8)])=Value.tuple #[c1,c2]:=by split <;> exact ⟨_,_,rfl⟩
  rw [hcv] at HC
  clear HM hself hK1 hK2 hK3 hK4 HTN
  go_wp2_with fail
  refine (HL.out w5 (Below.refl _ _)).mono ?_
  rintro e w6 ⟨rfl,d6⟩
  go_wp2_with fail
  refine (HN.out w6 d6).mono ?_
  rintro e w7 ⟨rfl,hb7⟩
  have d7:=d6.trans (hb7.mono d6.size)
  have k7:=hk5.out w7 d7
  clear hb7 HL HN
  go_wp2_with fail
  refine (HC.out w7 d7).mono ?_
  rintro e w8 ⟨rfl,hb8⟩
  have d8:=d7.trans (hb8.mono d7.size)
  clear hb8 HC k7
  go_wp2_with fail
  refine (HTE.out w8 (HBW.out _ d8)).mono ?_
  rintro e w9 ⟨rfl,hb9⟩
  have d9:=d8.trans (hb9.mono d8.size)
  go_wp2_with fail
  refine (HTE.out w9 (HBW.out _ d9)).mono ?_
  rintro e w10 ⟨rfl,hb10⟩
  have HF:Hid (Below w.heap.size w w10):=HBW.out _ (d9.trans (hb10.mono d9.size))
  clear hb9 hb10 d6 d7 d8 d9
  go_wp2
  go_ret
  exact ⟨rfl,HF.out⟩
 | true =>
  rw [hSB] at HL HN HM HC
  simp only [if_true] at HL HN HM HC
  cases hq:AB with
  | false =>
   clear hAB
   subst hq
   obtain ⟨c1,c2,hcv⟩:∃ c1 c2,(if costs.any badC=true then Value.tuple #[.int .u64 0,.iface 57 (.int .i64 2)] else Value.tuple #[.int .u64 (R3.items:Int),.nilIface])=Value.tuple #[c1,c2]:=by split <;> exact ⟨_,_,rfl⟩
   rw [hcv] at HC
   clear HM hself hK1 hK2 hK3 hK4 HTE
   go_wp2_with fail
   refine (HL.out w5 (Below.refl _ _)).mono ?_
   rintro e w6 ⟨rfl,d6⟩
   go_wp2_with fail
   refine (HN.out w6 d6).mono ?_
   rintro e w7 ⟨rfl,hb7⟩
   have d7:=d6.trans (hb7.mono d6.size)
   have k7:=hk5.out w7 d7
   clear hb7 HL HN
   go_wp2_with fail
   refine (HC.out w7 d7).mono ?_
   rintro e w8 ⟨rfl,hb8⟩
   have d8:=d7.trans (hb8.mono d7.size)
   clear hb8 HC k7
   go_wp2_with fail
   refine (HTN.out w8 (HBW.out _ d8)).mono ?_
   rintro e w9 ⟨rfl,hb9⟩
   have d9:=d8.trans (hb9.mono d8.size)
   go_wp2_with fail
   refine (HTN.out w9 (HBW.out _ d9)).mono ?_
   rintro e w10 ⟨rfl,hb10⟩
   have HF:Hid (Below w.heap.size w w10):=HBW.out _ (d9.trans (hb10.mono d9.size))
   clear hb9 hb10 d6 d7 d8 d9
   go_wp2
   go_ret
   exact ⟨rfl,HF.out⟩
  | true =>
   rw [hq] at hAB hself
   subst hq
   have l1:=(hK1.least mv hAB).2
   have l2:=(hK2.least mv hAB).2
   have l3:=(hK3.least mv hAB).2
   rw [hK1.cost (hK1.can.trans hSB),<- pay_least,<- pay_least] at l1
   rw [hK2.cost (hK2.can.trans hSB),<- pay_near,<- pay_near] at l2
   rw [hK3.cost (hK3.can.trans hSB),<- pay_cheap,<- pay_cheap] at l3
   have s1:=hK1.small (hK1.can.trans hSB)
   have s2:=hK2.small (hK2.can.trans hSB)
   have s3:=hK3.small (hK3.can.trans hSB)
   have hs4:=hself rfl
   rw [hs4] at HM
   clear hself hK1 hK2 hK3 hK4 HTE HTN
   have hx2:R2.items ^^^ now<18446744073709551616:=Nat.xor_lt_two_pow (n:=64) (by omega) hnow
   have hx4:mv ^^^ now<18446744073709551616:=Nat.xor_lt_two_pow (n:=64) (by omega) hnow
   have hb2:=bits_xor_u64_nat R2.items now (by omega) hnow
   have hb4:=bits_xor_u64_nat mv now hmv hnow
   cases hbad:costs.any badC with
   | true =>
    rw [hbad] at HC
    simp only [if_true] at HC
    go_wp2_with fail
    refine (HL.out w5 (Below.refl _ _)).mono ?_
    rintro e w6 ⟨rfl,d6⟩
    go_wp2_with fail
    refine (HN.out w6 d6).mono ?_
    rintro e w7 ⟨rfl,hb7⟩
    have d7:=d6.trans (hb7.mono d6.size)
    have k7:=hk5.out w7 d7
    clear hb7 HL HN
    go_wp2_with fail
    refine (HC.out w7 d7).mono ?_
    rintro e w8 ⟨rfl,hb8⟩
    have d8:=d7.trans (hb8.mono d7.size)
    clear hb8 HC k7
    go_wp2_with fail
    refine (HM.out w8 d8).mono ?_
    rintro e w9 ⟨rfl,hb9⟩
    have d9:=d8.trans (hb9.mono d8.size)
    clear hb9 HM d6 d7 d8
    have kb9:w9.cell? ⟨b4,0,none⟩=some (.int .i64 (vars:Int)):=(KR5.out.below d9 KR5.out.lt).cell 0
    have kc9:=hk5.out w9 d9
    have HI9:=Lib.hid (HIW.out w9 (HBW.out _ d9))
    have O1:=Lib.hid (ones_c R1.items vars b4 (by omega) (by omega) w9 kb9)
    have O2:=Lib.hid (ones_c mv vars b4 hmv (by omega) w9 kb9)
    have O3:=Lib.hid (ones_c (R2.items ^^^ now) vars b4 hx2 (by omega) w9 kb9)
    have O4:=Lib.hid (ones_c (mv ^^^ now) vars b4 hx4 (by omega) w9 kb9)
    generalize payI (fun _=>1) R1.items vars=p1 at *
    generalize payI (fun _=>1) mv vars=p2 at *
    generalize payI (fun _=>1) (R2.items ^^^ now) vars=p3 at *
    generalize payI (fun _=>1) (mv ^^^ now) vars=p4 at *
    have HF:=Lib.hid (HBW.out _ d9)
    clear d9 HI9 kc9
    go_wp2_with fail
    refine O1.out.mono ?_
    rintro e x1 ⟨rfl,rfl⟩
    go_wp2_with fail
    refine O2.out.mono ?_
    rintro e x2 ⟨rfl,rfl⟩
    go_wp2_with fail
    refine O3.out.mono ?_
    rintro e x3 ⟨rfl,rfl⟩
    go_wp2_with fail
    refine O4.out.mono ?_
    rintro e x4 ⟨rfl,rfl⟩
    go_wp2
    go_ret
    exact ⟨rfl,HF.out⟩
   | false =>
    rw [hbad] at HC
    simp only [Bool.false_eq_true,if_false] at HC
    go_wp2_with fail
    refine (HL.out w5 (Below.refl _ _)).mono ?_
    rintro e w6 ⟨rfl,d6⟩
    go_wp2_with fail
    refine (HN.out w6 d6).mono ?_
    rintro e w7 ⟨rfl,hb7⟩
    have d7:=d6.trans (hb7.mono d6.size)
    have k7:=hk5.out w7 d7
    clear hb7 HL HN
    go_wp2_with fail
    refine (HC.out w7 d7).mono ?_
    rintro e w8 ⟨rfl,hb8⟩
    have d8:=d7.trans (hb8.mono d7.size)
    clear hb8 HC k7
    go_wp2_with fail
    refine (HM.out w8 d8).mono ?_
    rintro e w9 ⟨rfl,hb9⟩
    have d9:=d8.trans (hb9.mono d8.size)
    clear hb9 HM d6 d7 d8
    have kb9:w9.cell? ⟨b4,0,none⟩=some (.int .i64 (vars:Int)):=(KR5.out.below d9 KR5.out.lt).cell 0
    have kc9:=hk5.out w9 d9
    have HI9:=Lib.hid (HIW.out w9 (HBW.out _ d9))
    have O1:=Lib.hid (ones_c R1.items vars b4 (by omega) (by omega) w9 kb9)
    have O2:=Lib.hid (ones_c mv vars b4 hmv (by omega) w9 kb9)
    have O3:=Lib.hid (ones_c (R2.items ^^^ now) vars b4 hx2 (by omega) w9 kb9)
    have O4:=Lib.hid (ones_c (mv ^^^ now) vars b4 hx4 (by omega) w9 kb9)
    generalize payI (fun _=>1) R1.items vars=p1 at *
    generalize payI (fun _=>1) mv vars=p2 at *
    generalize payI (fun _=>1) (R2.items ^^^ now) vars=p3 at *
    generalize payI (fun _=>1) (mv ^^^ now) vars=p4 at *
    have PR:Hid (∀ a:Nat,a<18446744073709551616->∀ W,Below w9.heap.size w9 W->Calls Tryz.prog 41 #[.int .u64 (a:Int),.pointer (some ⟨b4,0,none⟩),.pointer (some ⟨w.heap.size,0,none⟩)] W fun e w'=>e=.returned (.int .i64 (payI (costP costs) a vars))/\Below W.heap.size W w'):=fun a ha W hW=>price_c a vars b4 ha (by omega) costs hbad w.heap.size sa cap W ((KR5.out.below (d9.trans (hW.mono d9.size)) KR5.out.lt).cell 0) (hk5.out W (d9.trans (hW.mono d9.size))) (HIW.out W (HBW.out _ (d9.trans (hW.mono d9.size))))
    have Q1:=PR.out R3.items (by omega)
    have Q2:=PR.out mv hmv
    generalize payI (costP costs) R3.items vars=p5 at *
    generalize payI (costP costs) mv vars=p6 at *
    have P1:=Lib.hid Q1
    have P2:=Lib.hid Q2
    have D9:=Lib.hid d9
    clear d9 HI9 kc9 PR Q1 Q2 kb9
    go_wp2_with fail
    refine O1.out.mono ?_
    rintro e x1 ⟨rfl,rfl⟩
    go_wp2_with fail
    refine O2.out.mono ?_
    rintro e x2 ⟨rfl,rfl⟩
    go_wp2_with fail
    refine O3.out.mono ?_
    rintro e x3 ⟨rfl,rfl⟩
    go_wp2_with fail
    refine O4.out.mono ?_
    rintro e x4 ⟨rfl,rfl⟩
    go_wp2_with fail
    refine (P1.out w9 (Below.refl _ _)).mono ?_
    rintro e w10 ⟨rfl,hb10⟩
    go_wp2_with fail
    refine (P2.out w10 hb10).mono ?_
    rintro e w11 ⟨rfl,hb11⟩
    have HF:Hid (Below w.heap.size w w11):=HBW.out _ (D9.out.trans ((hb10.trans (hb11.mono hb10.size)).mono D9.out.size))
    clear hb10 hb11
    go_wp2
    go_ret
    exact ⟨rfl,HF.out⟩
theorem sleasts_any (s:ByteArray) (vals:Nat) (hvals:vals<18446744073709551616) (now:Nat) (hnow:now<18446744073709551616) (costs:List Int) (sa:Option Addr) (cap:Nat) (w:World) (hw:Lw w) (hI:IntsIn w sa costs):Calls Tryz.prog 6 #[.string s,.int .u64 (vals:Int),.int .u64 (now:Int),.slice sa costs.length cap] w fun e w'=>e=.returned (.bool true)/\Below w.heap.size w w':=by
 cases hr:readF s 10 with
 | none=>exact sleasts_none s vals now costs sa cap w hw hr
 | some r =>
  obtain ⟨ls,its⟩:=r
  by_cases hlen:30<costs.length
  ·exact sleasts_long s vals now costs hlen sa cap w hw ls its hr
  ·exact sleasts_some s vals now hvals hnow costs (by omega) sa cap w hw hI ls its hr
end Go.Proofs.YtiihalknffbjpaaGreatDoor.Bd
namespace Go.Proofs.YtiihalknffbjpaaGreatDoor
open Go.ChangeShapes Go.WideShapes Go.ChangeAt Go.RowKit
theorem own:ownKnob Tryz.prog.godebug=none:=by kernel_rfl
theorem gErr:Tryz.prog.globalNamed "errors.errorType"=some 2:=by kernel_rfl
theorem rtypeIs:(Tryz.prog.cutTypes.find? (·.1 == "internal/reflectlite.rtype")).map (·.2)=some 362:=by kernel_rfl
theorem oneRow:((List.range 513).filter fun t=>Tryz.prog.rowNamed t [101,114,114,111,114])=[31]:=by kernel_rfl
theorem typesSize:Tryz.prog.types.size=513:=by kernel_rfl
theorem glob_of {W:World} {l:List (String × DataW Unit)} (h:laidMetH Tryz.prog l W) (hk:(l.filter fun x=>x.1 == "errors.errorType")=[("errors.errorType",Rows.laid_errors_errorType)]):Glob W:=by
 have h2:=h.filter fun x=>x.1 == "errors.errorType"
 rw [hk] at h2
 have h3:laidMet Tryz.prog [] W/\handlesMet Tryz.prog [("errors.errorType",Rows.laid_errors_errorType)] W:=h2
 obtain ⟨name,u,ty,e1,e2,e3,e4,e5⟩:=h3.2 _ (List.mem_singleton.2 rfl)
 have en:name=[101,114,114,111,114]:=(Option.some.inj e1).symm
 subst en
 obtain rfl:=Option.some.inj (rtypeIs.symm.trans e2)
 have hm:ty ∈ (List.range 513).filter fun t=>Tryz.prog.rowNamed t [101,114,114,111,114]:=List.mem_filter.2 ⟨List.mem_range.2 (by rw [<- typesSize];exact e3),e4⟩
 rw [oneRow] at hm
 obtain rfl:=List.mem_singleton.1 hm
 have hh:typeHandle Tryz.prog 31=.pointer (some ⟨12,31,none⟩):=by kernel_rfl
 rw [hh] at e5
 have h6:=World.var?_cell gErr e5 0
 unfold Glob;simpa using h6
def refill (cs:Array Value):Obj->Obj
 | .cells _ t frozen=>.cells cs t frozen
 | o=>o
end Go.Proofs.YtiihalknffbjpaaGreatDoor
namespace Go.Proofs.YtiihalknffbjpaaGreatDoor
open Go.ChangeShapes Go.WideShapes Go.ChangeAt Go.RowKit Go.Shelf
theorem gTab:Tryz.prog.globalNamed "internal/strconv.uint64pow10"=some 4:=by kernel_rfl
theorem gTabType:(Tryz.prog.globals[4]?).map (·.type)=some 416:=by kernel_rfl
theorem cellsTab:Tryz.prog.cellsOf 416=20:=by kernel_rfl
theorem cellsTabE:Tryz.prog.cellsOf 165=1:=by kernel_rfl
theorem gSyn:Tryz.prog.globalNamed "strconv.ErrSyntax"=some 10:=by kernel_rfl
theorem gSynType:(Tryz.prog.globals[10]?).map (·.type)=some 31:=by kernel_rfl
theorem gRng:Tryz.prog.globalNamed "strconv.ErrRange"=some 11:=by kernel_rfl
theorem gRngType:(Tryz.prog.globals[11]?).map (·.type)=some 31:=by kernel_rfl
theorem cellsEs:Tryz.prog.cellsOf 486=1:=by kernel_rfl
theorem cellsStr:Tryz.prog.cellsOf 9=1:=by kernel_rfl
theorem starEs : "*" ++ "errors.errorString" = "*errors.errorString":=by decide
theorem rowEs (u:TypeId) (h:Tryz.prog.typeName? 3 u=some "*errors.errorString"):u=484 :=
 typeName_ptr_named (nm := "errors.errorString") (by rw [starEs];kernel_rfl) (by kernel_rfl) (by decide) u (by rw [starEs];exact h)
theorem tab_of {W:World} {l:List (String × DataW Unit)} (h:laidMetH Tryz.prog l W) (hk:(l.filter fun x=>x.1 == "internal/strconv.uint64pow10")=[("internal/strconv.uint64pow10",Lib.tabData .u64 Lib.pow10Tab)]):Lib.TabIs Tryz.prog W "internal/strconv.uint64pow10" .u64 Lib.pow10Tab:=by
 have h2:=h.filter fun x=>x.1 == "internal/strconv.uint64pow10"
 rw [hk] at h2
 have h3:laidMet Tryz.prog [("internal/strconv.uint64pow10",Lib.tabData .u64 Lib.pow10Tab)] W:=h2
 exact Lib.tabIs_of_head (rest:=[]) gTab gTabType Tryz.underlying416 Tryz.underlying165 cellsTabE cellsTab h3
theorem syn_of {W:World} {l:List (String × DataW Unit)} (h:laidMetH Tryz.prog l W) (hk:(l.filter fun x=>x.1 == "strconv.ErrSyntax")=[("strconv.ErrSyntax",Rows.laid_strconv_ErrSyntax)]):∃ ev,W.cell? ⟨10,0,none⟩=some ev/\(ev=.nilIface\/∃ te pe,ev=.iface te pe):=by
 have h2:=h.filter fun x=>x.1 == "strconv.ErrSyntax"
 rw [hk] at h2
 have h3:laidMet Tryz.prog [("strconv.ErrSyntax",Rows.laid_strconv_ErrSyntax)] W:=h2
 obtain ⟨a0,s0,hv0,-,-,-⟩:=laid_sentinel h3 gSyn gSynType Tryz.underlying31 rowEs Tryz.underlying484 Tryz.underlying486 rfl rfl Tryz.underlying9 cellsEs cellsStr
 exact ⟨_,by have h0:=World.var?_cell gSyn hv0 0;simpa using h0,.inr ⟨_,_,rfl⟩⟩
theorem rng_of {W:World} {l:List (String × DataW Unit)} (h:laidMetH Tryz.prog l W) (hk:(l.filter fun x=>x.1 == "strconv.ErrRange")=[("strconv.ErrRange",Rows.laid_strconv_ErrRange)]):∃ ev,W.cell? ⟨11,0,none⟩=some ev/\(ev=.nilIface\/∃ te pe,ev=.iface te pe):=by
 have h2:=h.filter fun x=>x.1 == "strconv.ErrRange"
 rw [hk] at h2
 have h3:laidMet Tryz.prog [("strconv.ErrRange",Rows.laid_strconv_ErrRange)] W:=h2
 obtain ⟨a0,s0,hv0,-,-,-⟩:=laid_sentinel h3 gRng gRngType Tryz.underlying31 rowEs Tryz.underlying484 Tryz.underlying486 rfl rfl Tryz.underlying9 cellsEs cellsStr
 exact ⟨_,by have h0:=World.var?_cell gRng hv0 0;simpa using h0,.inr ⟨_,_,rfl⟩⟩
theorem ml_of {W:World} (h:W.ShapedOpen Tryz.prog):∃ n,W.cell? ⟨5,0,none⟩=some (.int .i64 n) :=
 cell_of_shapedOpen_int (zero:=#[.int .i64 0]) (t:=3) h (of_decide_eq_true (by kernel_rfl)) (by kernel_rfl) rfl (by kernel_rfl) (by kernel_rfl) Tryz.underlying3
theorem big_of {W:World} (h:W.ShapedOpen Tryz.prog):12<=W.heap.size:=by
 obtain ⟨o,_,ho,_⟩:=h.2 12 (of_decide_eq_true (by kernel_rfl)) (of_decide_eq_true (by kernel_rfl))
 have:=(Array.getElem?_eq_some_iff.1 ho).1
 omega
theorem lb_of {W:World} {l:List (String × DataW Unit)} (h:laidMetH Tryz.prog l W) (hs:W.ShapedOpen Tryz.prog)
  (k1:(l.filter fun x=>x.1 == "internal/strconv.uint64pow10")=[("internal/strconv.uint64pow10",Lib.tabData .u64 Lib.pow10Tab)])
  (k2:(l.filter fun x=>x.1 == "strconv.ErrSyntax")=[("strconv.ErrSyntax",Rows.laid_strconv_ErrSyntax)])
  (k3:(l.filter fun x=>x.1 == "strconv.ErrRange")=[("strconv.ErrRange",Rows.laid_strconv_ErrRange)])
  (k4:(l.filter fun x=>x.1 == "errors.errorType")=[("errors.errorType",Rows.laid_errors_errorType)]):Lb W :=
 ⟨ml_of hs,syn_of h k2,rng_of h k3,tab_of h k1,glob_of h k4,big_of hs⟩
def cellsIn1:DataW Unit->List Value
 | .lit (.int k z)=>[.int k z]
 | _=>[undef]
def cellsIn2:DataW Unit->List Value
 | .agg l=>l.flatMap cellsIn1
 | d=>cellsIn1 d
def cellsIn:DataW Unit->Array Value
 | .agg l=>(l.flatMap cellsIn2).toArray
 | _=>#[]
end Go.Proofs.YtiihalknffbjpaaGreatDoor
namespace Go.Proofs.YtiihalknffbjpaaGreatDoor
open Go.ChangeShapes Go.WideShapes Go.ChangeAt Go.RowKit Go.Shelf
theorem gWords:Tryz.prog.globalNamed "solspace/catalog.words"=some 3:=by kernel_rfl
theorem gWordsType:(Tryz.prog.globals[3]?).map (·.type)=some 330:=by kernel_rfl
theorem cellsWords:Tryz.prog.cellsOf 330=5:=by kernel_rfl
theorem cells_of_strs {H:Type} {enc:TypeId × Value->H} {P:Program} {w:World} {base:Nat} {sp:Nat->Bool} {held:Bool} {fuel:Nat} {t e:TypeId} {n:Nat} {cs:List Value} {zs:List ByteArray} {p:List MemPlace}
  (ht:P.underlying t=some (.array n e)) (he:P.underlying e=some .string) (hce:P.cellsOf e=1) (hct:P.cellsOf t=n)
  (h:DataW.trod enc P w base sp held fuel t cs=some (.agg (zs.map fun z=>.lit (.string z.data.toList)),p)):cs=zs.map fun z=>Value.string z:=by
 cases fuel with
 | zero=>simp [DataW.trod] at h
 | succ fuel =>
  simp only [DataW.trod,ht,hce,hct,Nat.mul_one] at h
  split at h
  ·rename_i hl
   obtain ⟨xs,hm,hx⟩:=Option.map_eq_some_iff.1 h
   have hxs:xs.map (·.1)=zs.map fun z=>(DataW.lit (.string z.data.toList):DataW H):=by
    have:=congrArg Prod.fst hx
    simpa using this
   have hxl:xs.length=n:=by simpa using Lib.mapM_length hm
   have hzl:zs.length=n:=by
    have:=congrArg List.length hxs
    simp at this
    omega
   apply List.ext_getElem?
   intro i
   by_cases hi:i<n
   ·obtain ⟨b,hb,hf⟩:=Lib.mapM_at hm i i (by simp [hi])
    obtain ⟨z,hc,rfl,_⟩:=DataW.trod_string he hf
    have h1:cs[i]?=some (.string z):=by
     have:=congrArg (·[0]?) hc
     simpa [List.getElem?_take,List.getElem?_drop] using this
    have h2:(xs.map (·.1))[i]?=some (DataW.lit (.string z.data.toList):DataW H):=by simp [hb]
    rw [hxs] at h2
    simp only [List.getElem?_map,Option.map_eq_some_iff,DataW.lit.injEq,Lit.string.injEq] at h2
    obtain ⟨z',hz',e⟩:=h2
    obtain rfl:z'=z:=ByteArray.ext (Array.toList_inj.1 e)
    simp [h1,hz']
   ·rw [List.getElem?_eq_none (by omega),List.getElem?_eq_none (by simp;omega)]
  ·cases h
theorem words_of {W:World} {l:List (String × DataW Unit)} (h:laidMetH Tryz.prog l W) (hk:(l.filter fun x=>x.1 == "solspace/catalog.words")=[("solspace/catalog.words",Rows.laid_solspace_catalog_words)]):WordsAt W:=by
 have h2:=h.filter fun x=>x.1 == "solspace/catalog.words"
 rw [hk] at h2
 have h3:laidMet Tryz.prog [("solspace/catalog.words",Rows.laid_solspace_catalog_words)] W:=h2
 obtain ⟨ps,⟨g',t',cs,fuel,p,q,hg',ht',hvar,hd,_,_⟩,_⟩:=h3
 obtain rfl:=Option.some.inj (gWords.symm.trans hg')
 obtain rfl:=Option.some.inj (gWordsType.symm.trans ht')
 have hcs:=cells_of_strs (zs:=[⟨#[]⟩,⟨#[112,97,99,107,97,103,101]⟩,⟨#[110,101,101,100,115]⟩,⟨#[99,108,97,115,104,101,115]⟩,⟨#[114,111,111,116]⟩]) Tryz.underlying330 Tryz.underlying9 cellsStr cellsWords hd
 have H:=fun (i:Nat)=>World.var?_cell gWords hvar i
 obtain ⟨cs⟩:=cs
 simp only at hcs
 subst hcs
 exact ⟨by simpa using H 0,by simpa using H 1,by simpa using H 2,by simpa using H 3,by simpa using H 4⟩
noncomputable def laidWorldK (os:Os):World :=
 let w0:=World.holding Tryz.prog os ⟨#[.cells #[.string ⟨#[118,97,108,117,101,32,111,117,116,32,111,102,32,114,97,110,103,101]⟩] 486,.cells #[.string ⟨#[105,110,118,97,108,105,100,32,115,121,110,116,97,120]⟩] 486],#[],[]⟩
 { w0 with heap:=((((((((w0.heap.modify 2 (refill #[.iface 362 (.agg #[.pointer (some ⟨12,31,none⟩)])])).modify 10 (refill #[.iface 484 (.pointer (some ⟨18,0,none⟩))])).modify 11 (refill #[.iface 484 (.pointer (some ⟨17,0,none⟩))])).modify 4 (refill (cellsIn Rows.laid_internal_strconv_uint64pow10))).modify 6 (refill (cellsIn Rows.laid_unicode_utf8_first))).modify 7 (refill (cellsIn Rows.laid_unicode_utf8_acceptRanges))).modify 8 (refill (cellsIn Rows.laid_math_bits_deBruijn32tab))).modify 9 (refill (cellsIn Rows.laid_math_bits_deBruijn64tab))).modify 3 (refill #[.string ⟨#[]⟩,.string ⟨#[112,97,99,107,97,103,101]⟩,.string ⟨#[110,101,101,100,115]⟩,.string ⟨#[99,108,97,115,104,101,115]⟩,.string ⟨#[114,111,111,116]⟩]) }
end Go.Proofs.YtiihalknffbjpaaGreatDoor
