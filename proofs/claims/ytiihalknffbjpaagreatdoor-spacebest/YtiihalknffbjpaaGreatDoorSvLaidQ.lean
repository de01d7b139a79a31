/- What the rows' lists give of the catalog's words and of solspaceref.kinds; a world in which the lists hold. -/
import Derived.Test.YtiihalknffbjpaaGreatDoorSbCost
import Derived.Test.YtiihalknffbjpaaGreatDoorSiIns
import Derived.Test.YtiihalknffbjpaaGreatDoorWyBelow
import Derived.Test.YtiihalknffbjpaaGreatDoorCards
import Derived.Test.YtiihalknffbjpaaGreatDoorTie
import Derived.Test.YtiihalknffbjpaaGreatDoorSvCuts
import Derived.ProofKit
import Derived.OpenShut
import Derived.Deep.DeepHandedRow
import Derived.LaidHandle
import Derived.LaidSub
import Derived.Stop.LaidErr
import Derived.Shelf.Vars
import Derived.Lib.LaidTab
import Derived.Test.YtiihalknffbjpaaGreatDoorSvRHas
import Derived.Lib.SmallJoins
import Derived.ChangeSame
import Derived.Deep.Slices
set_option maxHeartbeats 4000000
set_option maxRecDepth 100000
namespace Go.Proofs.YtiihalknffbjpaaGreatDoor.Bd
open Go.RowKit Go.Deep Sv Lib Go.Sort
theorem best_formB (x:Wy):x.best=.tuple #[.int .u64 (((if x.can then x.items else 0):Nat):Int),if x.can then .nilIface else .iface 57 (.int .i64 8)]:=by
 unfold Wy.best
 cases x.can <;> rfl
theorem sbest_none (s:ByteArray) (now:Nat) (costs:List Int) (sa:Option Addr) (cap:Nat) (w:World) (hw:Lw w) (hF:FineR w) (ad:Addr) (kc:Nat) (hK:KindsAt w ad kc) (h:bothF s=none):Calls Tryz.prog 4 #[.string s,.int .u64 (now:Int),.slice sa costs.length cap] w fun e w'=>e=.returned (.bool true)/\Below w.heap.size w w':=by
 have hb0:Below w.heap.size w ((w.alloc (.cells #[.int .u64 (now:Int)] 48)).alloc (.cells #[.slice sa costs.length cap] 47)):=((Below.refl _ _).alloc (Nat.le_refl _) _).alloc (by simp) _
 have HB0:=both_c s _ (hw.below hb0) (hF.below hb0) ad kc (hK.below hb0)
 rw [h] at HB0
 generalize hW0:(w.alloc (.cells #[.int .u64 (now:Int)] 48)).alloc (.cells #[.slice sa costs.length cap] 47)=W0 at *
 have HB:Hid (Calls Tryz.prog 13 #[.string s] W0 fun e w'=>e=.returned (.tuple #[.pointer none,.slice none 0 0,.bool false])/\Below W0.heap.size W0 w'):=HB0
 have HBA:=Lib.hid hb0
 have HW0:=Lib.hid hW0
 clear HB0 hw hF hK h hb0 hW0
 go_enter Tryz.func4,Tryz.ntmps4
 go_upto_region 1 with fail
 rw [HW0.out]
 go_wp2_with fail
 refine HB.out.mono ?_
 rintro e w1 ⟨rfl,hb1⟩
 have HF:Hid (Below w.heap.size w w1):=HBA.out.trans (hb1.mono HBA.out.size)
 clear hb1 HB
 go_wp2
 go_ret
 exact ⟨rfl,HF.out⟩
theorem sbest_some (s:ByteArray) (now:Nat) (hnow:now<18446744073709551616) (costs:List Int) (sa:Option Addr) (cap:Nat) (w:World) (hw:Lw w) (hF:FineR w) (ad:Addr) (kc:Nat) (hK:KindsAt w ad kc) (hI:IntsIn w sa costs) (ls:List Ln) (its:List It) (h:bothF s=some (ls,its)):Calls Tryz.prog 4 #[.string s,.int .u64 (now:Int),.slice sa costs.length cap] w fun e w'=>e=.returned (.bool true)/\Below w.heap.size w w':=by
 have hb0:Below w.heap.size w ((w.alloc (.cells #[.int .u64 (now:Int)] 48)).alloc (.cells #[.slice sa costs.length cap] 47)):=((Below.refl _ _).alloc (Nat.le_refl _) _).alloc (by simp) _
 have kA:=(Blk.new w 48 #[.int .u64 (now:Int)]).alloc (.cells #[.slice sa costs.length cap] 47)
 have kB:=Blk.new (w.alloc (.cells #[.int .u64 (now:Int)] 48)) 47 #[.slice sa costs.length cap]
 simp only [World.size_alloc] at kB
 have HB0:=both_c s _ (hw.below hb0) (hF.below hb0) ad kc (hK.below hb0)
 rw [h] at HB0
 generalize hW0:(w.alloc (.cells #[.int .u64 (now:Int)] 48)).alloc (.cells #[.slice sa costs.length cap] 47)=W0 at *
 have HB:Hid (Calls Tryz.prog 13 #[.string s] W0 fun e w'=>∃ bc v,e=.returned (.tuple #[.pointer (some ⟨bc,0,none⟩),v,.bool true])/\CatAt w' bc ls its/\RLs w' v ls/\Below W0.heap.size W0 w'):=HB0
 have HBA:=Lib.hid hb0
 have HW0:=Lib.hid hW0
 have HKA:=Lib.hid kA
 have HKB:=Lib.hid kB
 have HLW:=Lib.hid hw
 have HIN:=Lib.hid hI
 have hN:=bothF_new h
 have HN:=Lib.hid hN
 have hszw:=hb0.size
 clear HB0 hw hF hK h hb0 hW0 kA kB hI hN
 go_enter Tryz.func4,Tryz.ntmps4
 go_upto_region 1 with fail
 rw [HW0.out]
 go_wp2_with fail
 refine HB.out.mono ?_
 rintro e w1 ⟨bc,v,rfl,hc1,hv1,hb1⟩
 obtain ⟨va,vc,rfl⟩:∃ va vc,v=.slice va ls.length vc:=by obtain ⟨vs,_,h2⟩:=hv1;obtain ⟨a,c,e,_⟩:=h2.form;exact ⟨a,c,e⟩
 have k1:w1.cell? ⟨w.heap.size + 1,0,none⟩=some (.slice sa costs.length cap):=(HKB.out.below hb1 HKB.out.lt).cell 0
 have HC1:=Lib.hid hc1
 have HV1:=Lib.hid hv1
 have HB1:=Lib.hid hb1
 clear hc1 hv1 hb1 HB HW0
 by_cases hl40:40<costs.length
 ·have hl4:(40:Int)<(costs.length:Int):=by omega
  have HF:Hid (Below w.heap.size w w1):=HBA.out.trans (HB1.out.mono HBA.out.size)
  go_wp2
  go_ret
  exact ⟨rfl,HF.out⟩
 have hl4:¬ (40:Int)<(costs.length:Int):=by omega
 have HS1:=Lib.hid (small_c ls its _ 8 w1 HV1.out HN.out)
 go_wp2_with fail
 refine HS1.out.mono ?_
 rintro e w2 ⟨ca,cc,rfl,hcl2,hb2⟩
 have hbn:=Go.Proofs.YtiihalknffbjpaaGreatDoor.below_new w2 (.cells #[.int .i64 (its.length:Int)] 3)
 have kn:=Blk.new w2 3 #[.int .i64 (its.length:Int)]
 have HCL2:=Lib.hid (hcl2.below hbn)
 have hb02:=(HB1.out.trans (hb2.mono HB1.out.size)).trans (hbn.mono (Nat.le_trans HB1.out.size hb2.size))
 have HB2:=Lib.hid hb02
 have HC2:=Lib.hid ((HC1.out.below hb2 (Nat.le_refl _)).below hbn (Nat.le_refl _))
 clear hcl2 hb2 hbn HS1 HC1 HV1 HB1 k1 hb02
 by_cases hP:¬ ((ofL its ls).length<=200/\its.length<=8)
 ·have hd:(decide ((ofL its ls).length<=200) && decide (its.length<=8))=false:=by
   rw [Bool.and_eq_false_iff]
   by_cases q:(ofL its ls).length<=200
   ·right;exact decide_eq_false (fun e=>hP ⟨q,e⟩)
   ·left;exact decide_eq_false q
  rw [hd]
  have HF:Hid (Below w.heap.size w (w2.alloc (.cells #[.int .i64 (its.length:Int)] 3))):=HBA.out.trans (HB2.out.mono HBA.out.size)
  clear HN
  go_wp2
  go_ret
  exact ⟨rfl,HF.out⟩
 obtain ⟨hP2,hv8⟩:=Decidable.not_not.1 hP
 clear hP
 rw [decide_eq_true hP2,decide_eq_true hv8]
 have hN:=HN.out
 have hnk:=newF_ok hN
 have hnm:∀ x ∈ ls,x.name.size<=100000/\x.other.size<=100000:=fun x hx=>check_names (hnk.2.2 x hx)
 have hfine:=ofL_fine hN
 have hLL:LitsL its.length ((ofL its ls).map Prod.snd):=fun c hc=>by
  obtain ⟨x,hx,rfl⟩:=List.mem_map.1 hc
  exact (hfine x hx).1
 have hroom:((2 * 2 ^ its.length + 25 * its.length:Nat):Int)<=4000 + 1:=by
  have:=pow10 (show its.length<=10 by omega)
  omega
 have HOF:Hid (∀ W bk,CatAt W bk ls its->Calls Tryz.prog 15 #[.pointer (some ⟨bk,0,none⟩),.int .i64 4000] W fun e w'=>∃ p s b O,e=.returned (.tuple #[.pointer (some ⟨p,0,none⟩),.nilIface])/\SolAt W.heap.size w' p s b O its.length 4000 (clF ((ofL its ls).map Prod.snd))/\Below W.heap.size W w'):=fun W bk hc=>of_fine bk ls its W hc hN (by omega) (by omega) hnm hP2 4000 (by decide) (by decide) hroom
 have hKl:((ofL its ls).map Prod.snd).length=(ofL its ls).length:=List.length_map _
 rw [<- hKl] at hP2 ⊢
 generalize hvr:its.length=vars at *
 generalize hK:(ofL its ls).map Prod.snd=K at *
 have HLL:=Lib.hid hLL
 have HO2:=Lib.hid (HOF.out _ bc HC2.out)
 have HRI:Hid (∀ W,ClsIn W ca K->Calls Tryz.prog 17 #[.int .i64 (vars:Int),.slice ca K.length cc] W fun e w'=>∃ v,e=.returned v/\w'.ownsRow W.heap.size 48 1 v (insF vars K (2 ^ vars)).length (ucells (insF vars K (2 ^ vars)))/\Below W.heap.size W w'):=fun W hc=>rinstalls_any vars hv8 K ca cc W hc (by omega) HLL.out
 clear hN hnk hnm hfine hroom hvr hLL hKl hK HN HOF HC2
 go_upto_region 5 with fail
 generalize w2.alloc (.cells #[.int .i64 (vars:Int)] 3)=W2 at *
 generalize w2.heap.size=bn at *
 go_wp2_with fail
 refine HO2.out.mono ?_
 rintro e w3 ⟨p,sp,b,O,rfl,hsol,hb3⟩
 have kn3:=kn.below hb3 kn.lt
 have c3:w3.cell? ⟨bn,0,none⟩=some (.int .i64 (vars:Int)):=kn3.cell 0
 have HR3:=Lib.hid (HRI.out w3 (HCL2.out.below hb3))
 have HB3:=Lib.hid (HB2.out.trans (hb3.mono HB2.out.size))
 have HSOL:=Lib.hid hsol
 have KN3:=Lib.hid kn3
 clear hb3 hsol HO2 HCL2 HRI HB2 kn kn3
 go_wp2_with fail
 refine HR3.out.mono ?_
 rintro e w4 ⟨v4,rfl,hrow4,hb4⟩
 obtain ⟨la,lc,rfl,-⟩:=row_form hrow4
 have hU4:=urow_in hrow4
 have hba:=Go.Proofs.YtiihalknffbjpaaGreatDoor.below_new w4 (.cells #[.slice la (insF vars K (2 ^ vars)).length lc] 38)
 have ka:=Blk.new w4 38 #[.slice la (insF vars K (2 ^ vars)).length lc]
 have hb34:=hb4.trans (hba.mono hb4.size)
 have HU5:=Lib.hid (hU4.below hba)
 have HS5:=Lib.hid (HSOL.out.new hb34)
 have KN5:=Lib.hid (KN3.out.below hb34 KN3.out.lt)
 have hb05:=HB3.out.trans (hb34.mono HB3.out.size)
 have KA5:=Lib.hid (HKA.out.below hb05 HKA.out.lt)
 have KB5:=Lib.hid (HKB.out.below hb05 HKB.out.lt)
 have hbw5:=HBA.out.trans (hb05.mono HBA.out.size)
 have HW5:=Lib.hid hbw5
 have HG5:=Lib.hid (HLW.out.below hbw5).lb.glob
 have HI5:=Lib.hid (HIN.out.below hbw5)
 have KL5:=Lib.hid ka
 clear hrow4 hb4 hU4 hba hb34 hb05 hbw5 HSOL KN3 HB3 HR3 HKA HKB HBA HLW HIN c3 ka
 go_upto_region 11 with fail
 generalize w4.alloc (.cells #[.slice la (insF vars K (2 ^ vars)).length lc] 38)=W5 at *
 generalize w4.heap.size=ba at *
 have hlen:(insF vars K (2 ^ vars)).length<=1000:=by have h1:=insF_len (vars:=vars) (K:=K) (2 ^ vars);have h2:(2:Nat) ^ vars<=256:=Nat.pow_le_pow_right (n:=2) (by omega) hv8;omega
 have hmem:∀ x ∈ insF vars K (2 ^ vars),x<18446744073709551616:=fun x hx=>by have h1:=(mem_ins.1 hx).1;have h2:(2:Nat) ^ vars<=256:=Nat.pow_le_pow_right (n:=2) (by omega) hv8;omega
 have ONE:∀ (C:Cost) (hC:CostOk C) (F:FuncId) (cb:Array Value) (hent:∀ args w,(callFunc F args).run Tryz.prog w=.ok (.enter F args) w) W,Below W5.heap.size W5 W->CostAt W F cb C vars->Calls Tryz.prog 24 #[.int .u64 (((if (fromW C vars (clF K).1 (clF K).2 0).can then (fromW C vars (clF K).1 (clF K).2 0).items else 0):Nat):Int),(if (fromW C vars (clF K).1 (clF K).2 0).can then .nilIface else .iface 57 (.int .i64 8)),.func (.func F) #[] cb,.pointer (some ⟨ba,0,none⟩),.pointer (some ⟨bn,0,none⟩)] W fun e w'=>e=.returned (.bool true)/\Below W.heap.size W w':=fun C hC F cb hent W hW hCA =>
  sb1_c C hC vars hv8 _ hlen hmem la lc F cb hent W (HG5.out.below hW) (HU5.out.below hW) hCA ba bn ((KL5.out.below hW KL5.out.lt).cell 0) ((KN5.out.below hW KN5.out.lt).cell 0) _ (cheapest_is C (by omega) HLL.out).1 (cheapest_is C (by omega) HLL.out).2
 have hcl:=clF_all (show vars<=12 by omega) HLL.out
 have hcn:=clF_len (show vars<=12 by omega) HLL.out
 have HL5:∀ W,Below W5.heap.size W5 W->Calls Tryz.prog 27 #[.pointer (some ⟨p,0,none⟩)] W fun e w'=>e=.returned (fromW leastC vars (clF K).1 (clF K).2 0).best/\Below W.heap.size W w':=fun W hW=>least_c (HS5.out.new hW) hcl.good hcn (by omega) hcl.has
 have HN5:∀ W,Below W5.heap.size W5 W->Calls Tryz.prog 28 #[.pointer (some ⟨p,0,none⟩),.int .u64 (now:Int)] W fun e w'=>e=.returned (fromW (nearC now) vars (clF K).1 (clF K).2 0).best/\Below W.heap.size W w':=fun W hW=>near_c (HS5.out.new hW) hcl.good hcn (by omega) hcl.has now (by omega)
 have HC5:∀ W,Below W5.heap.size W5 W->Calls Tryz.prog 31 #[.pointer (some ⟨p,0,none⟩),.slice sa costs.length cap] W fun e w'=>e=.returned (cheapV vars (clF K) costs)/\Below W.heap.size W w':=fun W hW=>cheap_c (HS5.out.new hW) hcl.good hcn (by omega) hcl.has costs (by omega) sa cap (HI5.out.below hW)
 have O1:=Lib.hid (fun W hW=>ONE leastC (fun i b=>oneI_ok _) 29 #[] ent_sb2 W hW (fun W' j bb _ _=>sb2_c (j:Int) bb W'))
 have O2:=Lib.hid (fun W hW=>ONE (nearC now) (fun i b=>oneI_ok _) 30 #[.pointer (some ⟨w.heap.size,0,none⟩)] ent_sb3 W hW (fun W' j bb hW' hj=>sb3_c now j bb w.heap.size W' (by omega) (by omega) ((KA5.out.below (hW.trans (hW'.mono hW.size)) KA5.out.lt).cell 0)))
 have O3:=fun (hbad:costs.any badC=false)=>Lib.hid (fun W hW=>ONE (cheapC costs) (cheapC_ok hbad) 32 #[.pointer (some ⟨w.heap.size + 1,0,none⟩)] ent_sb4 W hW (fun W' j bb hW' hj=>sb4_c costs j bb (w.heap.size + 1) sa cap W' (by omega) ((KB5.out.below (hW.trans (hW'.mono hW.size)) KB5.out.lt).cell 0) (HI5.out.below (hW.trans (hW'.mono hW.size)))))
 have KA:Hid (∀ W,Below W5.heap.size W5 W->W.cell? ⟨w.heap.size,0,none⟩=some (.int .u64 (now:Int))):=fun W hW=>(KA5.out.below hW KA5.out.lt).cell 0
 have KB:Hid (∀ W,Below W5.heap.size W5 W->W.cell? ⟨w.heap.size + 1,0,none⟩=some (.slice sa costs.length cap)):=fun W hW=>(KB5.out.below hW KB5.out.lt).cell 0
 have HIN:Hid (∀ W,Below W5.heap.size W5 W->IntsIn W sa costs):=fun W hW=>HI5.out.below hW
 have HG:Hid (∀ W,Below W5.heap.size W5 W->Calls Tryz.prog 26 #[.iface 57 (.int .i64 2),.int .i64 2] W fun e w'=>e=.returned (.bool true)/\Below W.heap.size W w'):=fun W hW=>bare_any 2 2 (.iface 57 (.int .i64 2)) W (HG5.out.below hW) (Or.inr (Or.inl ⟨by decide,rfl,rfl⟩))
 simp only [best_formB] at HL5 HN5
 unfold cheapV at HC5
 simp only [best_formB] at HC5
 clear ONE hcl hcn HS5 HU5 KN5 KL5 HI5 HG5 KA5 KB5 HLL hlen hmem
 generalize fromW leastC vars (clF K).1 (clF K).2 0=R1 at *
 generalize fromW (nearC now) vars (clF K).1 (clF K).2 0=R2 at *
 generalize fromW (cheapC costs) vars (clF K).1 (clF K).2 0=R3 at *
 have HL:=Lib.hid HL5
 have HNR:=Lib.hid HN5
 clear HL5 HN5
 generalize (if R1.can then Value.nilIface else .iface 57 (.int .i64 8))=er1 at *
 generalize (if R1.can then R1.items else 0)=it1 at *
 generalize (if R2.can then Value.nilIface else .iface 57 (.int .i64 8))=er2 at *
 generalize (if R2.can then R2.items else 0)=it2 at *
 go_wp2_with fail
 refine (HL.out W5 (Below.refl _ _)).mono ?_
 rintro e w6 ⟨rfl,d6⟩
 have k6:=KA.out w6 d6
 go_wp2_with fail
 refine (HNR.out w6 d6).mono ?_
 rintro e w7 ⟨rfl,hb7⟩
 have d7:=d6.trans (hb7.mono d6.size)
 clear hb7 HL HNR k6 d6
 go_wp2_with fail
 refine (O1.out w7 d7).mono ?_
 rintro e w8 ⟨rfl,hb8⟩
 have d8:=d7.trans (hb8.mono d7.size)
 clear hb8 O1
 go_wp2_with fail
 refine (O2.out w8 d8).mono ?_
 rintro e w9 ⟨rfl,hb9⟩
 have d9:=d8.trans (hb9.mono d8.size)
 have k9:=KB.out w9 d9
 clear hb9 O2 d7 d8
 cases hbad:costs.any badC with
 | true =>
  rw [hbad] at HC5
  simp only [if_true] at HC5
  have HC:=Lib.hid HC5
  have HBAD:=Lib.hid hbad
  clear HC5 O3 hbad
  go_wp2_with fail
  refine (HC.out w9 d9).mono ?_
  rintro e w10 ⟨rfl,hb10⟩
  have d10:=d9.trans (hb10.mono d9.size)
  have k10:=KB.out w10 d10
  have HI10:=Lib.hid (HIN.out w10 d10)
  clear hb10 HC k9 d9
  go_wp2_with fail
  go_loop [23] (fun iV=>∃ i:Nat,i<=costs.length/\iV=.int .i64 (i:Int)/\∀ j,j<i->badC (costs.getD j 0)=false) (fun iV=>costs.length - (intOf iV).toNat)
  case atStart=>exact ⟨0,Nat.zero_le _,rfl,fun j h=>by omega⟩
  case round =>
   obtain ⟨i,hi,rfl,hall⟩:=hrel
   have HALL:=Lib.hid hall
   clear hall
   by_cases hlt:i<costs.length
   ·have hii0:(0:Int)<=(i:Int):=by omega
    have hii1:(i:Int)<(costs.length:Int):=by omega
    obtain ⟨ad,rfl,had,hcell⟩:=HI10.out i hlt
    obtain ⟨ab,ao,asp⟩:=ad
    generalize hx:costs.getD i 0=x at *
    have HX:=Lib.hid hx
    clear hx
    by_cases h1:x<0
    ·go_wp2_with fail
     refine (HG.out w10 d10).mono ?_
     rintro e w11 ⟨rfl,hb11⟩
     have HF:Hid (Below w.heap.size w w11):=HW5.out.trans ((d10.trans (hb11.mono d10.size)).mono HW5.out.size)
     clear hb11
     go_wp2
     go_ret
     exact ⟨rfl,HF.out⟩
    ·by_cases h2:1000000<x
     ·go_wp2_with fail
      refine (HG.out w10 d10).mono ?_
      rintro e w11 ⟨rfl,hb11⟩
      have HF:Hid (Below w.heap.size w w11):=HW5.out.trans ((d10.trans (hb11.mono d10.size)).mono HW5.out.size)
      clear hb11
      go_wp2
      go_ret
      exact ⟨rfl,HF.out⟩
     ·go_wp2
      go_round
      case rel=>exact ⟨i + 1,hlt,by go_num,fun j hj=>by
       by_cases e:j<i
       ·exact HALL.out j e
       ·obtain rfl:j=i:=by omega
        rw [HX.out];unfold badC;simp;omega⟩
      case measure=>simp [intOf];omega
   ·exfalso
    obtain ⟨x,hx,hbx⟩:=List.any_eq_true.1 HBAD.out
    obtain ⟨j,hj,rfl⟩:=List.getElem_of_mem hx
    have:=HALL.out j (by omega)
    rw [List.getD_eq_getElem?_getD,List.getElem?_eq_getElem hj] at this
    rw [Option.getD_some,hbx] at this
    cases this
 | false =>
  rw [hbad] at HC5
  simp only [Bool.false_eq_true,if_false] at HC5
  have O4:=O3 hbad
  have HC:=Lib.hid HC5
  have HBAD:=Lib.hid hbad
  clear HC5 O3 hbad HG
  generalize (if R3.can then Value.nilIface else .iface 57 (.int .i64 8))=er3 at *
  generalize (if R3.can then R3.items else 0)=it3 at *
  go_wp2_with fail
  refine (HC.out w9 d9).mono ?_
  rintro e w10 ⟨rfl,hb10⟩
  have d10:=d9.trans (hb10.mono d9.size)
  have k10:=KB.out w10 d10
  have HI10:=Lib.hid (HIN.out w10 d10)
  clear hb10 HC k9 d9
  go_wp2_with fail
  go_loop [23] (fun iV=>∃ i:Nat,i<=costs.length/\iV=.int .i64 (i:Int)/\∀ j,j<i->badC (costs.getD j 0)=false) (fun iV=>costs.length - (intOf iV).toNat)
  case atStart=>exact ⟨0,Nat.zero_le _,rfl,fun j h=>by omega⟩
  case round =>
   obtain ⟨i,hi,rfl,hall⟩:=hrel
   have HALL:=Lib.hid hall
   clear hall
   by_cases hlt:i<costs.length
   ·have hii0:(0:Int)<=(i:Int):=by omega
    have hii1:(i:Int)<(costs.length:Int):=by omega
    obtain ⟨ad,rfl,had,hcell⟩:=HI10.out i hlt
    obtain ⟨ab,ao,asp⟩:=ad
    generalize hx:costs.getD i 0=x at *
    have HX:=Lib.hid hx
    clear hx
    have hnb:badC x=false:=by
     have:=List.any_eq_false.1 HBAD.out x (by rw [<- HX.out];exact getD_mem hlt)
     simpa using this
    unfold badC at hnb
    rw [Bool.or_eq_false_iff] at hnb
    have h1:¬ x<0:=of_decide_eq_false hnb.1
    have h2:¬ 1000000<x:=of_decide_eq_false hnb.2
    clear hnb
    go_wp2
    go_round
    case rel=>exact ⟨i + 1,hlt,by go_num,fun j hj=>by
     by_cases e:j<i
     ·exact HALL.out j e
     ·obtain rfl:j=i:=by omega
      rw [HX.out];unfold badC;simp;omega⟩
    case measure=>simp [intOf];omega
   ·obtain rfl:i=costs.length:=by omega
    clear HI10
    go_wp2_with fail
    refine (O4.out w10 d10).mono ?_
    rintro e w11 ⟨rfl,hb11⟩
    have HF:Hid (Below w.heap.size w w11):=HW5.out.trans ((d10.trans (hb11.mono d10.size)).mono HW5.out.size)
    clear hb11
    go_wp2
    go_ret
    exact ⟨rfl,HF.out⟩
theorem sbest_any (s:ByteArray) (now:Nat) (hnow:now<18446744073709551616) (costs:List Int) (sa:Option Addr) (cap:Nat) (w:World) (hw:Lw w) (hF:FineR w) (ad:Addr) (kc:Nat) (hK:KindsAt w ad kc) (hI:IntsIn w sa costs):Calls Tryz.prog 4 #[.string s,.int .u64 (now:Int),.slice sa costs.length cap] w fun e w'=>e=.returned (.bool true)/\Below w.heap.size w w':=by
 cases h:bothF s with
 | none=>exact sbest_none s now costs sa cap w hw hF ad kc hK h
 | some r=>exact sbest_some s now hnow costs sa cap w hw hF ad kc hK hI r.1 r.2 h
end Go.Proofs.YtiihalknffbjpaaGreatDoor.Bd
namespace Go.Proofs.YtiihalknffbjpaaGreatDoor
open Go.ChangeShapes Go.WideShapes Go.ChangeAt Go.RowKit
theorem own:ownKnob Tryz.prog.godebug=none:=by kernel_rfl
theorem gErr:Tryz.prog.globalNamed "errors.errorType"=some 2:=by kernel_rfl
theorem rtypeIs:(Tryz.prog.cutTypes.find? (·.1 == "internal/reflectlite.rtype")).map (·.2)=some 362:=by kernel_rfl
theorem oneRow:((List.range 513).filter fun t=>Tryz.prog.rowNamed t [101,114,114,111,114])=[31]:=by kernel_rfl
theorem typesSize:Tryz.prog.types.size=513:=by kernel_rfl
theorem glob_of {W:World} {l:List (String × DataW Unit)} (h:laidMetH Tryz.prog l W) (hk:(l.filter fun x=>x.1 == "errors.errorType")=[("errors.errorType",Rows.laid_errors_errorType)]):Glob W:=by
 have h2:=h.filter fun x=>x.1 == "errors.errorType"
 rw [hk] at h2
 have h3:laidMet Tryz.prog [] W/\handlesMet Tryz.prog [("errors.errorType",Rows.laid_errors_errorType)] W:=h2
 obtain ⟨name,u,ty,e1,e2,e3,e4,e5⟩:=h3.2 _ (List.mem_singleton.2 rfl)
 have en:name=[101,114,114,111,114]:=(Option.some.inj e1).symm
 subst en
 obtain rfl:=Option.some.inj (rtypeIs.symm.trans e2)
 have hm:ty ∈ (List.range 513).filter fun t=>Tryz.prog.rowNamed t [101,114,114,111,114]:=List.mem_filter.2 ⟨List.mem_range.2 (by rw [<- typesSize];exact e3),e4⟩
 rw [oneRow] at hm
 obtain rfl:=List.mem_singleton.1 hm
 have hh:typeHandle Tryz.prog 31=.pointer (some ⟨12,31,none⟩):=by kernel_rfl
 rw [hh] at e5
 have h6:=World.var?_cell gErr e5 0
 unfold Glob;simpa using h6
def refill (cs:Array Value):Obj->Obj
 | .cells _ t frozen=>.cells cs t frozen
 | o=>o
end Go.Proofs.YtiihalknffbjpaaGreatDoor
namespace Go.Proofs.YtiihalknffbjpaaGreatDoor
open Go.ChangeShapes Go.WideShapes Go.ChangeAt Go.RowKit Go.Shelf
theorem gTab:Tryz.prog.globalNamed "internal/strconv.uint64pow10"=some 4:=by kernel_rfl
theorem gTabType:(Tryz.prog.globals[4]?).map (·.type)=some 416:=by kernel_rfl
theorem cellsTab:Tryz.prog.cellsOf 416=20:=by kernel_rfl
theorem cellsTabE:Tryz.prog.cellsOf 165=1:=by kernel_rfl
theorem gSyn:Tryz.prog.globalNamed "strconv.ErrSyntax"=some 10:=by kernel_rfl
theorem gSynType:(Tryz.prog.globals[10]?).map (·.type)=some 31:=by kernel_rfl
theorem gRng:Tryz.prog.globalNamed "strconv.ErrRange"=some 11:=by kernel_rfl
theorem gRngType:(Tryz.prog.globals[11]?).map (·.type)=some 31:=by kernel_rfl
theorem cellsEs:Tryz.prog.cellsOf 486=1:=by kernel_rfl
theorem cellsStr:Tryz.prog.cellsOf 9=1:=by kernel_rfl
theorem starEs : "*" ++ "errors.errorString" = "*errors.errorString":=by decide
theorem rowEs (u:TypeId) (h:Tryz.prog.typeName? 3 u=some "*errors.errorString"):u=484 :=
 typeName_ptr_named (nm := "errors.errorString") (by rw [starEs];kernel_rfl) (by kernel_rfl) (by decide) u (by rw [starEs];exact h)
theorem tab_of {W:World} {l:List (String × DataW Unit)} (h:laidMetH Tryz.prog l W) (hk:(l.filter fun x=>x.1 == "internal/strconv.uint64pow10")=[("internal/strconv.uint64pow10",Lib.tabData .u64 Lib.pow10Tab)]):Lib.TabIs Tryz.prog W "internal/strconv.uint64pow10" .u64 Lib.pow10Tab:=by
 have h2:=h.filter fun x=>x.1 == "internal/strconv.uint64pow10"
 rw [hk] at h2
 have h3:laidMet Tryz.prog [("internal/strconv.uint64pow10",Lib.tabData .u64 Lib.pow10Tab)] W:=h2
 exact Lib.tabIs_of_head (rest:=[]) gTab gTabType Tryz.underlying416 Tryz.underlying165 cellsTabE cellsTab h3
theorem syn_of {W:World} {l:List (String × DataW Unit)} (h:laidMetH Tryz.prog l W) (hk:(l.filter fun x=>x.1 == "strconv.ErrSyntax")=[("strconv.ErrSyntax",Rows.laid_strconv_ErrSyntax)]):∃ ev,W.cell? ⟨10,0,none⟩=some ev/\(ev=.nilIface\/∃ te pe,ev=.iface te pe):=by
 have h2:=h.filter fun x=>x.1 == "strconv.ErrSyntax"
 rw [hk] at h2
 have h3:laidMet Tryz.prog [("strconv.ErrSyntax",Rows.laid_strconv_ErrSyntax)] W:=h2
 obtain ⟨a0,s0,hv0,-,-,-⟩:=laid_sentinel h3 gSyn gSynType Tryz.underlying31 rowEs Tryz.underlying484 Tryz.underlying486 rfl rfl Tryz.underlying9 cellsEs cellsStr
 exact ⟨_,by have h0:=World.var?_cell gSyn hv0 0;simpa using h0,.inr ⟨_,_,rfl⟩⟩
theorem rng_of {W:World} {l:List (String × DataW Unit)} (h:laidMetH Tryz.prog l W) (hk:(l.filter fun x=>x.1 == "strconv.ErrRange")=[("strconv.ErrRange",Rows.laid_strconv_ErrRange)]):∃ ev,W.cell? ⟨11,0,none⟩=some ev/\(ev=.nilIface\/∃ te pe,ev=.iface te pe):=by
 have h2:=h.filter fun x=>x.1 == "strconv.ErrRange"
 rw [hk] at h2
 have h3:laidMet Tryz.prog [("strconv.ErrRange",Rows.laid_strconv_ErrRange)] W:=h2
 obtain ⟨a0,s0,hv0,-,-,-⟩:=laid_sentinel h3 gRng gRngType Tryz.underlying31 rowEs Tryz.underlying484 Tryz.underlying486 rfl rfl Tryz.underlying9 cellsEs cellsStr
 exact ⟨_,by have h0:=World.var?_cell gRng hv0 0;simpa using h0,.inr ⟨_,_,rfl⟩⟩
theorem ml_of {W:World} (h:W.ShapedOpen Tryz.prog):∃ n,W.cell? ⟨5,0,none⟩=some (.int .i64 n) :=
 cell_of_shapedOpen_int (zero:=#[.int .i64 0]) (t:=3) h (of_decide_eq_true (by kernel_rfl)) (by kernel_rfl) rfl (by kernel_rfl) (by kernel_rfl) Tryz.underlying3
theorem big_of {W:World} (h:W.ShapedOpen Tryz.prog):12<=W.heap.size:=by
 obtain ⟨o,_,ho,_⟩:=h.2 12 (of_decide_eq_true (by kernel_rfl)) (of_decide_eq_true (by kernel_rfl))
 have:=(Array.getElem?_eq_some_iff.1 ho).1
 omega
theorem lb_of {W:World} {l:List (String × DataW Unit)} (h:laidMetH Tryz.prog l W) (hs:W.ShapedOpen Tryz.prog)
  (k1:(l.filter fun x=>x.1 == "internal/strconv.uint64pow10")=[("internal/strconv.uint64pow10",Lib.tabData .u64 Lib.pow10Tab)])
  (k2:(l.filter fun x=>x.1 == "strconv.ErrSyntax")=[("strconv.ErrSyntax",Rows.laid_strconv_ErrSyntax)])
  (k3:(l.filter fun x=>x.1 == "strconv.ErrRange")=[("strconv.ErrRange",Rows.laid_strconv_ErrRange)])
  (k4:(l.filter fun x=>x.1 == "errors.errorType")=[("errors.errorType",Rows.laid_errors_errorType)]):Lb W :=
 ⟨ml_of hs,syn_of h k2,rng_of h k3,tab_of h k1,glob_of h k4,big_of hs⟩
def cellsIn1:DataW Unit->List Value
 | .lit (.int k z)=>[.int k z]
 | _=>[undef]
def cellsIn2:DataW Unit->List Value
 | .agg l=>l.flatMap cellsIn1
 | d=>cellsIn1 d
def cellsIn:DataW Unit->Array Value
 | .agg l=>(l.flatMap cellsIn2).toArray
 | _=>#[]
end Go.Proofs.YtiihalknffbjpaaGreatDoor
namespace Go.Proofs.YtiihalknffbjpaaGreatDoor
open Go.ChangeShapes Go.WideShapes Go.ChangeAt Go.RowKit Go.Shelf
theorem gFine:Tryz.prog.globalNamed "solspace/solspaceref.Fine"=some 0:=by kernel_rfl
theorem gFineType:(Tryz.prog.globals[0]?).map (·.type)=some 96:=by kernel_rfl
theorem cellsIntF:Tryz.prog.cellsOf 3=1:=by kernel_rfl
theorem cellsErrno:Tryz.prog.cellsOf 57=1:=by kernel_rfl
theorem cellsFault:Tryz.prog.cellsOf 96=2:=by kernel_rfl
theorem fineR_of {W:World} {l:List (String × DataW Unit)} (h:laidMetH Tryz.prog l W) (hk:(l.filter fun x=>x.1 == "solspace/solspaceref.Fine")=[("solspace/solspaceref.Fine",Rows.laid_solspace_solspaceref_Fine)]):FineR W:=by
 have h2:=h.filter fun x=>x.1 == "solspace/solspaceref.Fine"
 rw [hk] at h2
 have h3:laidMet Tryz.prog [("solspace/solspaceref.Fine",Rows.laid_solspace_solspaceref_Fine)] W:=h2
 obtain ⟨ps,⟨g',t',cs,fuel,p,q,hg',ht',hvar,hd,_,_⟩,_⟩:=h3
 obtain rfl:=Option.some.inj (gFine.symm.trans hg')
 obtain rfl:=Option.some.inj (gFineType.symm.trans ht')
 obtain ⟨y0,y1,n,hx,hl,g0,g1⟩:=trod_struct2 Tryz.underlying96 hd
 rw [cellsFault] at hl
 obtain ⟨cs⟩:=cs
 simp only at hl g0 g1
 match cs,hl with
 | [v0,v1],_ =>
  simp [cellsErrno,cellsIntF] at g0 g1
  obtain ⟨z0,e0,x0,-⟩:=DataW.trod_int Tryz.underlying57 g0
  obtain ⟨z1,e1,x1,-⟩:=DataW.trod_int Tryz.underlying3 g1
  simp at e0 e1
  subst e0 e1 x0 x1
  simp [Rows.laid_solspace_solspaceref_Fine] at hx
  obtain ⟨⟨rfl,rfl⟩,-⟩:=hx
  have h0:W.cell? ⟨0,0,none⟩=some (.int .i64 0):=by have:=World.var?_cell gFine hvar 0;simpa using this
  exact ⟨h0,by have:=World.var?_cell gFine hvar 1;simpa using this,World.block_lt_of_cell? _ _ h0⟩
end Go.Proofs.YtiihalknffbjpaaGreatDoor
namespace Go.Proofs.YtiihalknffbjpaaGreatDoor
open Go.ChangeShapes Go.WideShapes Go.ChangeAt Go.RowKit Go.Shelf
theorem gWords:Tryz.prog.globalNamed "solspace/catalog.words"=some 3:=by kernel_rfl
theorem gWordsType:(Tryz.prog.globals[3]?).map (·.type)=some 330:=by kernel_rfl
theorem cellsWords:Tryz.prog.cellsOf 330=5:=by kernel_rfl
theorem cells_of_strs {H:Type} {enc:TypeId × Value->H} {P:Program} {w:World} {base:Nat} {sp:Nat->Bool} {held:Bool} {fuel:Nat} {t e:TypeId} {n:Nat} {cs:List Value} {zs:List ByteArray} {p:List MemPlace}
  (ht:P.underlying t=some (.array n e)) (he:P.underlying e=some .string) (hce:P.cellsOf e=1) (hct:P.cellsOf t=n)
  (h:DataW.trod enc P w base sp held fuel t cs=some (.agg (zs.map fun z=>.lit (.string z.data.toList)),p)):cs=zs.map fun z=>Value.string z:=by
 cases fuel with
 | zero=>simp [DataW.trod] at h
 | succ fuel =>
  simp only [DataW.trod,ht,hce,hct,Nat.mul_one] at h
  split at h
  ·rename_i hl
   obtain ⟨xs,hm,hx⟩:=Option.map_eq_some_iff.1 h
   have hxs:xs.map (·.1)=zs.map fun z=>(DataW.lit (.string z.data.toList):DataW H):=by
    have:=congrArg Prod.fst hx
    simpa using this
   have hxl:xs.length=n:=by simpa using Lib.mapM_length hm
   have hzl:zs.length=n:=by
    have:=congrArg List.length hxs
    simp at this
    omega
   apply List.ext_getElem?
   intro i
   by_cases hi:i<n
   ·obtain ⟨b,hb,hf⟩:=Lib.mapM_at hm i i (by simp [hi])
    obtain ⟨z,hc,rfl,_⟩:=DataW.trod_string he hf
    have h1:cs[i]?=some (.string z):=by
     have:=congrArg (·[0]?) hc
     simpa [List.getElem?_take,List.getElem?_drop] using this
    have h2:(xs.map (·.1))[i]?=some (DataW.lit (.string z.data.toList):DataW H):=by simp [hb]
    rw [hxs] at h2
    simp only [List.getElem?_map,Option.map_eq_some_iff,DataW.lit.injEq,Lit.string.injEq] at h2
    obtain ⟨z',hz',e⟩:=h2
    obtain rfl:z'=z:=ByteArray.ext (Array.toList_inj.1 e)
    simp [h1,hz']
   ·rw [List.getElem?_eq_none (by omega),List.getElem?_eq_none (by simp;omega)]
  ·cases h
theorem words_of {W:World} {l:List (String × DataW Unit)} (h:laidMetH Tryz.prog l W) (hk:(l.filter fun x=>x.1 == "solspace/catalog.words")=[("solspace/catalog.words",Rows.laid_solspace_catalog_words)]):WordsAt W:=by
 have h2:=h.filter fun x=>x.1 == "solspace/catalog.words"
 rw [hk] at h2
 have h3:laidMet Tryz.prog [("solspace/catalog.words",Rows.laid_solspace_catalog_words)] W:=h2
 obtain ⟨ps,⟨g',t',cs,fuel,p,q,hg',ht',hvar,hd,_,_⟩,_⟩:=h3
 obtain rfl:=Option.some.inj (gWords.symm.trans hg')
 obtain rfl:=Option.some.inj (gWordsType.symm.trans ht')
 have hcs:=cells_of_strs (zs:=[⟨#[]⟩,⟨#[112,97,99,107,97,103,101]⟩,⟨#[110,101,101,100,115]⟩,⟨#[99,108,97,115,104,101,115]⟩,⟨#[114,111,111,116]⟩]) Tryz.underlying330 Tryz.underlying9 cellsStr cellsWords hd
 have H:=fun (i:Nat)=>World.var?_cell gWords hvar i
 obtain ⟨cs⟩:=cs
 simp only at hcs
 subst hcs
 exact ⟨by simpa using H 0,by simpa using H 1,by simpa using H 2,by simpa using H 3,by simpa using H 4⟩
theorem gKinds:Tryz.prog.globalNamed "solspace/solspaceref.kinds"=some 1:=by kernel_rfl
theorem gKindsType:(Tryz.prog.globals[1]?).map (·.type)=some 167:=by kernel_rfl
theorem kinds_of {W:World} {l:List (String × DataW Unit)} (h:laidMetH Tryz.prog l W) (hk:(l.filter fun x=>x.1 == "solspace/solspaceref.kinds")=[("solspace/solspaceref.kinds",Rows.laid_solspace_solspaceref_kinds)]):∃ ad cap,KindsAt W ad cap:=by
 have h2:=h.filter fun x=>x.1 == "solspace/solspaceref.kinds"
 rw [hk] at h2
 have h3:laidMet Tryz.prog [("solspace/solspaceref.kinds",Rows.laid_solspace_solspaceref_kinds)] W:=h2
 obtain ⟨ps,⟨g',t',cs,fuel,p,q,hg',ht',hvar,hd,_,_⟩,_⟩:=h3
 obtain rfl:=Option.some.inj (gKinds.symm.trans hg')
 obtain rfl:=Option.some.inj (gKindsType.symm.trans ht')
 have H:=World.var?_cell gKinds hvar 0
 rcases Go.Deep.open_slice1 Tryz.underlying167 cellsStr hd with ⟨_,hx⟩ | ⟨a,len,cap,m,n,V,D,Pl,hcs,hb,hl,hm,hmm,hx,hc⟩
 ·simp [Rows.laid_solspace_solspaceref_kinds] at hx
 ·have h1:=congrArg Prod.fst hx
  simp only [Rows.laid_solspace_solspaceref_kinds,DataW.slice.injEq] at h1
  obtain ⟨h1,h1b⟩:=h1
  have hlen:len=5:=by have:=congrArg List.length h1;simpa using this.symm
  subst hlen
  have hm5:5<=m:=by rw [hmm];split <;> omega
  have hD:∀ j,j<5->D j=.lit (.string (wl j)):=fun j hj=>by
   have:=congrArg (·[j]?) h1
   simp only [List.getElem?_map] at this
   match j,hj with
   | 0,_=>simpa [wl] using this.symm
   | 1,_=>simpa [wl] using this.symm
   | 2,_=>simpa [wl] using this.symm
   | 3,_=>simpa [wl] using this.symm
   | 4,_=>simpa [wl] using this.symm
  have hcell:∀ j,j<5->W.cell? (a.add j)=some (.string ⟨(wl j).toArray⟩):=fun j hj=>by
   obtain ⟨z,hz,hzd,_⟩:=DataW.trod_string Tryz.underlying9 (hc j (by omega)).2
   rw [(hc j (by omega)).1]
   have e1:V j=.string z:=by simpa using hz
   rw [e1]
   have e2:z.data.toList=wl j:=by
    have h7:=hD j hj
    have h8:=congrArg Prod.fst hzd
    simp only at h8
    rw [h8] at h7
    simpa using h7
   rw [bytes_of e2]
  refine ⟨a,cap,?_,hcell,?_,?_⟩
  ·obtain ⟨cs⟩:=cs
   simp only at hcs
   subst hcs
   simpa using H
  ·have h0:W.cell? ⟨1,0,none⟩=some (.slice (some a) 5 cap):=by
    obtain ⟨cs⟩:=cs
    simp only at hcs
    subst hcs
    simpa using H
   exact World.block_lt_of_cell? _ _ h0
  ·have:=World.block_lt_of_cell? _ _ (hcell 0 (by omega))
   rwa [addr_block] at this
noncomputable def laidWorldQ (os:Os):World :=
 let w0:=World.holding Tryz.prog os ⟨#[.cells #[.string ⟨#[118,97,108,117,101,32,111,117,116,32,111,102,32,114,97,110,103,101]⟩] 486,.cells #[.string ⟨#[105,110,118,97,108,105,100,32,115,121,110,116,97,120]⟩] 486,.cells #[.string ⟨#[]⟩,.string ⟨#[112,97,99,107,97,103,101]⟩,.string ⟨#[110,101,101,100,115]⟩,.string ⟨#[99,108,97,115,104,101,115]⟩,.string ⟨#[114,111,111,116]⟩] 9],#[],[]⟩
 { w0 with heap:=((((((((((w0.heap.modify 2 (refill #[.iface 362 (.agg #[.pointer (some ⟨12,31,none⟩)])])).modify 10 (refill #[.iface 484 (.pointer (some ⟨18,0,none⟩))])).modify 11 (refill #[.iface 484 (.pointer (some ⟨17,0,none⟩))])).modify 4 (refill (cellsIn Rows.laid_internal_strconv_uint64pow10))).modify 6 (refill (cellsIn Rows.laid_unicode_utf8_first))).modify 7 (refill (cellsIn Rows.laid_unicode_utf8_acceptRanges))).modify 8 (refill (cellsIn Rows.laid_math_bits_deBruijn32tab))).modify 9 (refill (cellsIn Rows.laid_math_bits_deBruijn64tab))).modify 3 (refill #[.string ⟨#[]⟩,.string ⟨#[112,97,99,107,97,103,101]⟩,.string ⟨#[110,101,101,100,115]⟩,.string ⟨#[99,108,97,115,104,101,115]⟩,.string ⟨#[114,111,111,116]⟩])).modify 0 (refill #[.int .i64 0,.int .i64 (-1)])).modify 1 (refill #[.slice (some ⟨19,0,none⟩) 5 5]) }
end Go.Proofs.YtiihalknffbjpaaGreatDoor
