/- What the rows' lists give of the catalog's words and of solspaceref.kinds; a world in which the lists hold. -/
import Derived.Test.YtiihalknffbjpaaGreatDoorRlRules
import Derived.Test.YtiihalknffbjpaaGreatDoorRlBoth
import Derived.Test.YtiihalknffbjpaaGreatDoorCards
import Derived.Test.YtiihalknffbjpaaGreatDoorTie
import Derived.Deep.DeepHandedRow
import Derived.Stop.LaidErr
import Derived.Lib.SmallJoins
namespace Go.Proofs.YtiihalknffbjpaaGreatDoor
set_option maxHeartbeats 4000000
set_option maxRecDepth 100000
namespace Bd
open Go.RowKit Go.Deep Sv
theorem zt4:∀args w,(callFunc 29 args).run Tryz.prog w=.ok (.enter 29 args) w:=by intro args w;kernel_rfl
theorem zub:∀args w,(callFunc 30 args).run Tryz.prog w=.ok (.enter 30 args) w:=by intro args w;kernel_rfl
theorem zto:∀args w,(callFunc 32 args).run Tryz.prog w=.ok (.enter 32 args) w:=by intro args w;kernel_rfl
theorem zww(i:Int)(bb:Bool)(w:World):zR 29 #[.int .i64 i,.bool bb] w (.int .i64 (zqx bb)):=by
 unfold zqx;cases bb
 ·go_enter Tryz.func29,Tryz.ntmps29;go_wp2;go_ret;exact⟨rfl,Below.refl _ _⟩
 ·go_enter Tryz.func29,Tryz.ntmps29;go_wp2;go_ret;exact⟨rfl,Below.refl _ _⟩
theorem zwx(now i:Nat)(bb:Bool)(a:Nat)(w:World)(hi:i<64)(hnow:now<2^64)(ha:w.cell? ⟨a,0,none⟩=some (.int .u64 now)):zR 30 #[.int .i64 i,.bool bb,.pointer (some ⟨a,0,none⟩)] w (.int .i64 (zgF now i bb)):=by
 have hs:=zeM now i (by omega);have hi0:(0:Int)<=(i:Int):=by omega
 unfold zgF zqx;cases bb<;>cases hb:now.testBit i<;>rw[hb] at hs <;>
 ·clear hb;go_enter Tryz.func30,Tryz.ntmps30;go_wp2;go_ret;exact⟨rfl,Below.refl _ _⟩
theorem zwP(costs:List Int)(i:Nat)(bb:Bool)(a:Nat)(sa:Option Addr)(cap:Nat)(w:World)(hi:i<64)(ha:w.cell? ⟨a,0,none⟩=some (.slice sa costs.length cap))(hI:zaN w sa costs):zR 32 #[.int .i64 i,.bool bb,.pointer (some ⟨a,0,none⟩)] w (.int .i64 (zdb costs i bb)):=by
 unfold zdb;cases bb with
 |false =>rw[if_neg (by simp)];clear hI;go_enter Tryz.func32,Tryz.ntmps32;go_wp2;go_ret;exact⟨rfl,Below.refl _ _⟩
 |true =>
  by_cases hlt:i<costs.length
  ·rw[if_pos ⟨rfl,hlt⟩];obtain⟨ad,rfl,had,cA⟩:=hI i hlt;generalize costs.getD i 0=x at *;have h0:(0:Int)<=(i:Int):=by omega
   have h1:(i:Int)<(costs.length:Int):=by omega
   obtain⟨ab,ao,asp⟩:=ad;clear hI had;go_enter Tryz.func32,Tryz.ntmps32;go_wp2;go_ret;exact⟨rfl,Below.refl _ _⟩
  ·rw[if_neg (fun h=>hlt h.2)];have h1:¬(i:Int)<(costs.length:Int):=by omega
   clear hI;go_enter Tryz.func32,Tryz.ntmps32;go_wp2;go_ret;exact⟨rfl,Below.refl _ _⟩
theorem zwM(C:zcq)(hC:zc9 C)(vars:Nat)(hv:vars<=8)(L:List Nat)(hlen:L.length<=1000)(hL:∀x∈L,x<18446744073709551616)(la:Option Addr)(lc:Nat)(F:FuncId)(cb:Array Value)(hent:∀args w,(callFunc F args).run Tryz.prog w=.ok (.enter F args) w)(w:World)(hg:ziC w)(hU:UIn w la L)(hCA:zdy w F cb C vars)(ba bn:Nat)(ka:w.cell? ⟨ba,0,none⟩=some (.slice la L.length lc))(kn:w.cell? ⟨bn,0,none⟩=some (.int .i64 vars))
  (x:Wy) (h1:(chF C vars L).2.1=x.can) (h2:x.can=true->(chF C vars L).2.2=x.items) :
  zR 24 #[.int .u64 (((if x.can then x.items else 0):Nat):Int),(if x.can then .nilIface else .iface 57 (.int .i64 8)),.func (.func F) #[] cb,.pointer (some ⟨ba,0,none⟩),.pointer (some ⟨bn,0,none⟩)] w (.bool true):=by
 have HCH0:=zh3 C hC vars hv L hlen hL la lc F cb hent w hU hCA;rw[h1] at HCH0;have HBR:Hid (∀W,zB w W->zR 26 #[.iface 57 (.int .i64 8),.int .i64 8] W (.bool true)):=fun W hW=>zld 8 8 (.iface 57 (.int .i64 8)) W (hg.below hW) (Or.inr (Or.inl ⟨by decide,rfl,rfl⟩));cases hc:x.can with
 |false =>rw[hc] at HCH0;simp only[Bool.false_eq_true,if_false];have HCH:=zH HCH0;generalize (chF C vars L).2.2=y at *;clear HCH0 h1 h2 hU hCA hC hL hent hg;go_enter Tryz.func24,Tryz.ntmps24;go_wp2_with fail;refine HCH.out.mono ?_;rintro e w1 ⟨rfl,hb1⟩;have HB1:=zH (HBR.out w1 hb1);have HB:=zH hb1;clear HCH hb1 HBR ka kn;go_wp2_with fail;refine HB1.out.mono ?_;rintro e w2 ⟨rfl,hb2⟩;have HF:=zH (zT HB.out hb2);clear hb2;go_wp2;go_ret;exact⟨rfl,HF.out⟩
 |true =>rw[hc,h2 hc] at HCH0;simp only[if_true];have HCH:=zH HCH0;generalize x.items=y at *;clear HCH0 h1 h2 hU hCA hC hL hent hg HBR;go_enter Tryz.func24,Tryz.ntmps24;go_wp2_with fail;refine HCH.out.mono ?_;rintro e w1 ⟨rfl,hb1⟩;have HB:=zH hb1;clear HCH hb1 ka kn;go_wp2;go_ret;exact⟨rfl,HB.out⟩
theorem zu9(ls:List Ln)(its:List It)(v:Value)(m:Nat)(w:World)(h:RLs w v ls)(hN:zd7 ls=.ok its) :
  zC 14 #[v,.int .i64 m] w fun e w'=>∃ca cc,e=.returned (.tuple #[.slice ca (ofL its ls).length cc,.int .i64 its.length,.bool (decide ((ofL its ls).length<=200)&&decide (its.length<=m))])/\zey w' ca ((ofL its ls).map Prod.snd)/\zB w w':=by
 obtain⟨hi24,hl100,hck⟩:=zkE hN;obtain⟨hasc,hri⟩:=zuR hN;obtain⟨va,vc,rfl⟩:∃va vc,v=.slice va ls.length vc:=by obtain⟨vs,_,h2⟩:=h;obtain⟨a,c,e,_⟩:=h2.form;exact⟨a,c,e⟩
 have HRU:=zH (zmj ls its _ w h hl100 hi24 hri hasc);have HIT:Hid (∀W,zB w W->zC 46 #[.slice va ls.length vc] W fun e w'=>∃a c,e=.returned (.slice a its.length c)/\zB W w'):=fun W hW=>(zhz ls _ W (h.below hW zN) (by omega)).mono fun e w' ⟨v',h1,h2,h3⟩=>by
  rw[hri] at h2;obtain⟨a,c,e1,-⟩:=(zad h2).form;exact⟨a,c,by rw[h1,e1],h3⟩
 clear h hN hck hasc hri;generalize ofL its ls=P at *;generalize its.length=n at *;go_enter Tryz.func14,Tryz.ntmps14;go_wp2_with fail;refine HRU.out.mono ?_;rintro e w2 ⟨cv,fv,rfl,hrs2,hb2⟩;obtain⟨ca,cc,rfl⟩:∃a c,cv=.slice a P.length c:=by obtain⟨cs,h1,_⟩:=hrs2.crow;obtain⟨a,c,e,_⟩:=(zad h1).form;exact⟨a,c,by simpa using e⟩
 have hcl:zey w2 ca (P.map Prod.snd):=by
  obtain⟨cs,h1,h2,_⟩:=hrs2.crow;exact zg5.cls (B:=0) (cap:=cc) h2 (by simpa using ownsRow_base h1 (Nat.zero_le _))
 have HCL:=zH hcl;have HB2:=zH hb2;have HI2:=zH (HIT.out w2 hb2);clear hrs2 hb2 hcl HRU HIT;go_wp2_with fail;refine HI2.out.mono ?_;rintro e w3 ⟨ia,ic,rfl,hb3⟩;have HF:Hid (zey w3 ca (P.map Prod.snd)/\zB w w3):=⟨HCL.out.below hb3,zT HB2.out hb3⟩;clear hb3 HI2 HCL HB2
 by_cases hp:P.length<=200
 ·rw[decide_eq_true hp]
  by_cases hm:n<=m
  ·have hmi:(n:Int)<=(m:Int):=by omega
   go_wp2;refine bodyPost_ret (v:=.tuple #[.slice ca P.length cc,.int .i64 n,.bool true]) (by simp[results,Tryz.f14,go_sem]) rfl ?_;exact⟨ca,cc,by simp[hp,hm],HF.out.1,HF.out.2⟩
  ·have hmi:¬(n:Int)<=(m:Int):=by omega
   go_wp2;refine bodyPost_ret (v:=.tuple #[.slice ca P.length cc,.int .i64 n,.bool false]) (by simp[results,Tryz.f14,go_sem]) rfl ?_;exact⟨ca,cc,by simp[hp,hm],HF.out.1,HF.out.2⟩
 ·rw[decide_eq_false hp];go_wp2;refine bodyPost_ret (v:=.tuple #[.slice ca P.length cc,.int .i64 n,.bool false]) (by simp[results,Tryz.f14,go_sem]) rfl ?_;exact⟨ca,cc,by simp[hp],HF.out.1,HF.out.2⟩
end Bd
namespace Bd
open Go.RowKit Go.Deep Sv Lib Go.Sort
theorem zg8(x:Wy):x.best=.tuple #[.int .u64 (((if x.can then x.items else 0):Nat):Int),if x.can then .nilIface else .iface 57 (.int .i64 8)]:=by
 unfold Wy.best;cases x.can<;>rfl
theorem zmi(s:ByteArray)(now:Nat)(costs:List Int)(sa:Option Addr)(cap:Nat)(w:World)(hw:Lw w)(hF:zdA w)(ad:Addr)(kc:Nat)(hK:zbJ w ad kc)(h:zfK s=none):zR 4 #[.string s,.int .u64 now,.slice sa costs.length cap] w (.bool true):=by
 have hb0:zB w ((w.alloc (.cells #[.int .u64 now] 48)).alloc (.cells #[.slice sa costs.length cap] 47)):=(zF.alloc zN _).alloc (by simp) _;have HB0:=zsP s _ (hw.below hb0) (hF.below hb0) ad kc (hK.below hb0);rw[h] at HB0;generalize hW0:(w.alloc (.cells #[.int .u64 now] 48)).alloc (.cells #[.slice sa costs.length cap] 47)=W0 at *;have HB:Hid (zR 13 #[.string s] W0 (.tuple #[.pointer none,.slice none 0 0,.bool false])):=HB0;have HBA:=zH hb0;have HW0:=zH hW0;clear HB0 hw hF hK h hb0 hW0;go_enter Tryz.func4,Tryz.ntmps4;go_upto_region 1 with fail;rw[HW0.out];go_wp2_with fail;refine HB.out.mono ?_;rintro e w1 ⟨rfl,hb1⟩;have HF:Hid (zB w w1):=zT HBA.out hb1;clear hb1 HB;go_wp2;go_ret;exact⟨rfl,HF.out⟩
theorem zmT(s:ByteArray)(now:Nat)(hnow:now<18446744073709551616)(costs:List Int)(sa:Option Addr)(cap:Nat)(w:World)(hw:Lw w)(hF:zdA w)(ad:Addr)(kc:Nat)(hK:zbJ w ad kc)(hI:zaN w sa costs)(ls:List Ln)(its:List It)(h:zfK s=some (ls,its)):zR 4 #[.string s,.int .u64 now,.slice sa costs.length cap] w (.bool true):=by
 have hb0:zB w ((w.alloc (.cells #[.int .u64 now] 48)).alloc (.cells #[.slice sa costs.length cap] 47)):=(zF.alloc zN _).alloc (by simp) _;have kA:=(Blk.new w 48 #[.int .u64 now]).alloc (.cells #[.slice sa costs.length cap] 47);have kB:=Blk.new (w.alloc (.cells #[.int .u64 now] 48)) 47 #[.slice sa costs.length cap];simp only[World.size_alloc] at kB;have HB0:=zsP s _ (hw.below hb0) (hF.below hb0) ad kc (hK.below hb0);rw[h] at HB0;generalize hW0:(w.alloc (.cells #[.int .u64 now] 48)).alloc (.cells #[.slice sa costs.length cap] 47)=W0 at *;have HB:Hid (zC 13 #[.string s] W0 fun e w'=>∃bc v,e=.returned (.tuple #[.pointer (some ⟨bc,0,none⟩),v,.bool true])/\zfI w' bc ls its/\RLs w' v ls/\zB W0 w'):=HB0;have HBA:=zH hb0;have HW0:=zH hW0;have HKA:=zH kA;have HKB:=zH kB;have HLW:=zH hw;have HIN:=zH hI;have hN:=zow h;have HN:=zH hN;have hszw:=hb0.size;clear HB0 hw hF hK h hb0 hW0 kA kB hI hN;go_enter Tryz.func4,Tryz.ntmps4;go_upto_region 1 with fail;rw[HW0.out];go_wp2_with fail;refine HB.out.mono ?_;rintro e w1 ⟨bc,v,rfl,hc1,hv1,hb1⟩;obtain⟨va,vc,rfl⟩:∃va vc,v=.slice va ls.length vc:=by obtain⟨vs,_,h2⟩:=hv1;obtain⟨a,c,e,_⟩:=h2.form;exact⟨a,c,e⟩
 have k1:w1.cell? ⟨w.heap.size+1,0,none⟩=some (.slice sa costs.length cap):=(HKB.out.below hb1 HKB.out.lt).cell 0;have HC1:=zH hc1;have HV1:=zH hv1;have HB1:=zH hb1;clear hc1 hv1 hb1 HB HW0
 by_cases hl40:40<costs.length
 ·have hl4:(40:Int)<(costs.length:Int):=by omega
  have HF:Hid (zB w w1):=zT HBA.out HB1.out;go_wp2;go_ret;exact⟨rfl,HF.out⟩
 have hl4:¬(40:Int)<(costs.length:Int):=by omega
 have HS1:=zH (zu9 ls its _ 8 w1 HV1.out HN.out);go_wp2_with fail;refine HS1.out.mono ?_;rintro e w2 ⟨ca,cc,rfl,hcl2,hb2⟩;have hbn:=Go.Proofs.YtiihalknffbjpaaGreatDoor.below_new w2 (.cells #[.int .i64 its.length] 3);have kn:=Blk.new w2 3 #[.int .i64 its.length];have HCL2:=zH (hcl2.below hbn);have hb02:=(zT HB1.out hb2).trans (hbn.mono (Nat.le_trans HB1.out.size hb2.size));have HB2:=zH hb02;have HC2:=zH ((HC1.out.below hb2 zN).below hbn zN);clear hcl2 hb2 hbn HS1 HC1 HV1 HB1 k1 hb02
 by_cases hP:¬((ofL its ls).length<=200/\its.length<=8)
 ·have hd:(decide ((ofL its ls).length<=200)&&decide (its.length<=8))=false:=by
   rw[Bool.and_eq_false_iff]
   by_cases q:(ofL its ls).length<=200
   ·right;exact decide_eq_false (fun e=>hP ⟨q,e⟩)
   ·left;exact decide_eq_false q
  rw[hd];have HF:Hid (zB w (w2.alloc (.cells #[.int .i64 its.length] 3))):=zT HBA.out HB2.out;clear HN;go_wp2;go_ret;exact⟨rfl,HF.out⟩
 obtain⟨hP2,hv8⟩:=Decidable.not_not.1 hP;clear hP;rw[decide_eq_true hP2,decide_eq_true hv8];have hN:=HN.out;have hnk:=zkE hN;have hnm:∀x∈ls,x.name.size<=100000/\x.other.size<=100000:=fun x hx=>zj5 (hnk.2.2 x hx);have hfine:=zlN hN;have hLL:zed its.length ((ofL its ls).map Prod.snd):=fun c hc=>by
  obtain⟨x,hx,rfl⟩:=List.mem_map.1 hc;exact(hfine x hx).1
 have hroom:((2*2^its.length+25*its.length:Nat):Int)<=4000+1:=by
  have:=zpt (show its.length<=10 by omega);omega
 have HOF:Hid (∀W bk,zfI W bk ls its->zC 15 #[.pointer (some ⟨bk,0,none⟩),.int .i64 4000] W fun e w'=>∃p s b O,e=.returned (.tuple #[.pointer (some ⟨p,0,none⟩),.nilIface])/\ze0 W.heap.size w' p s b O its.length 4000 (clF ((ofL its ls).map Prod.snd))/\zB W w'):=fun W bk hc=>ztW bk ls its W hc hN (by omega) (by omega) hnm hP2 4000 (by decide) (by decide) hroom;have hKl:((ofL its ls).map Prod.snd).length=(ofL its ls).length:=List.length_map _;rw[<-hKl] at hP2 ⊢;generalize hvr:its.length=vars at *;generalize hK:(ofL its ls).map Prod.snd=K at *;have HLL:=zH hLL;have HO2:=zH (HOF.out _ bc HC2.out);have HRI:Hid (∀W,zey W ca K->zC 17 #[.int .i64 vars,.slice ca K.length cc] W fun e w'=>∃v,e=.returned v/\w'.ownsRow W.heap.size 48 1 v (zdC vars K (2^vars)).length (zdM (zdC vars K (2^vars)))/\zB W w'):=fun W hc=>zig vars hv8 K ca cc W hc (by omega) HLL.out;clear hN hnk hnm hfine hroom hvr hLL hKl hK HN HOF HC2;go_upto_region 5 with fail;generalize w2.alloc (.cells #[.int .i64 vars] 3)=W2 at *;generalize w2.heap.size=bn at *;go_wp2_with fail;refine HO2.out.mono ?_;rintro e w3 ⟨p,sp,b,O,rfl,hsol,hb3⟩;have kn3:=kn.below hb3 kn.lt;have c3:_=some (Value.int .i64 vars):=kn3.cell 0;have HR3:=zH (HRI.out w3 (HCL2.out.below hb3));have HB3:=zH (zT HB2.out hb3);have HSOL:=zH hsol;have KN3:=zH kn3;clear hb3 hsol HO2 HCL2 HRI HB2 kn kn3;go_wp2_with fail;refine HR3.out.mono ?_;rintro e w4 ⟨v4,rfl,hrow4,hb4⟩;obtain⟨la,lc,rfl,-⟩:=row_form hrow4;have hU4:=ztu hrow4;have hba:=Go.Proofs.YtiihalknffbjpaaGreatDoor.below_new w4 (.cells #[.slice la (zdC vars K (2^vars)).length lc] 38);have ka:=Blk.new w4 38 #[.slice la (zdC vars K (2^vars)).length lc];have hb34:=zT hb4 hba;have HU5:=zH (hU4.below hba);have HS5:=zH (HSOL.out.new hb34);have KN5:=zH (KN3.out.below hb34 KN3.out.lt);have hb05:=zT HB3.out hb34;have KA5:=zH (HKA.out.below hb05 HKA.out.lt);have KB5:=zH (HKB.out.below hb05 HKB.out.lt);have hbw5:=zT HBA.out hb05;have HW5:=zH hbw5;have HG5:=zH (HLW.out.below hbw5).lb.glob;have HI5:=zH (HIN.out.below hbw5);have KL5:=zH ka;clear hrow4 hb4 hU4 hba hb34 hb05 hbw5 HSOL KN3 HB3 HR3 HKA HKB HBA HLW HIN c3 ka;go_upto_region 11 with fail;generalize w4.alloc (.cells #[.slice la (zdC vars K (2^vars)).length lc] 38)=W5 at *;generalize w4.heap.size=ba at *;have hlen:(zdC vars K (2^vars)).length<=1000:=by have h1:=zmb (vars:=vars) (K:=K) (2^vars);have h2:(2:Nat)^vars<=256:=Nat.pow_le_pow_right (n:=2) (by omega) hv8;omega
 have hmem:∀x∈zdC vars K (2^vars),x<18446744073709551616:=fun x hx=>by have h1:=(zgP.1 hx).1;have h2:(2:Nat)^vars<=256:=Nat.pow_le_pow_right (n:=2) (by omega) hv8;omega
 have ONE:∀(C:zcq) (hC:zc9 C) (F:FuncId) (cb:Array Value) (hent:∀args w,(callFunc F args).run Tryz.prog w=.ok (.enter F args) w) W,zB W5 W->zdy W F cb C vars->zR 24 #[.int .u64 (((if (zaA C vars (clF K).1 (clF K).2 0).can then (zaA C vars (clF K).1 (clF K).2 0).items else 0):Nat):Int),(if (zaA C vars (clF K).1 (clF K).2 0).can then .nilIface else .iface 57 (.int .i64 8)),.func (.func F) #[] cb,.pointer (some ⟨ba,0,none⟩),.pointer (some ⟨bn,0,none⟩)] W (.bool true):=fun C hC F cb hent W hW hCA =>
  zwM C hC vars hv8 _ hlen hmem la lc F cb hent W (HG5.out.below hW) (HU5.out.below hW) hCA ba bn ((KL5.out.below hW KL5.out.lt).cell 0) ((KN5.out.below hW KN5.out.lt).cell 0) _ (zgB C (by omega) HLL.out).1 (zgB C (by omega) HLL.out).2
 have hcl:=zib (show vars<=12 by omega) HLL.out;have hcn:=ztt (show vars<=12 by omega) HLL.out;have HL5:∀W,zB W5 W->zC 27 #[.pointer (some ⟨p,0,none⟩)] W fun e w'=>e=.returned (zaA zg7 vars (clF K).1 (clF K).2 0).best/\zB W w':=fun W hW=>zuc (HS5.out.new hW) hcl.good hcn (by omega) hcl.has;have HN5:∀W,zB W5 W->zC 28 #[.pointer (some ⟨p,0,none⟩),.int .u64 now] W fun e w'=>e=.returned (zaA (zgF now) vars (clF K).1 (clF K).2 0).best/\zB W w':=fun W hW=>zvm (HS5.out.new hW) hcl.good hcn (by omega) hcl.has now (by omega);have HC5:∀W,zB W5 W->zR 31 #[.pointer (some ⟨p,0,none⟩),.slice sa costs.length cap] W (zlv vars (clF K) costs):=fun W hW=>ztK (HS5.out.new hW) hcl.good hcn (by omega) hcl.has costs (by omega) sa cap (HI5.out.below hW);have O1:=zH (fun W hW=>ONE zg7 (fun i b=>ziv _) 29 #[] zt4 W hW (fun W' j bb _ _=>zww (j:Int) bb W'));have O2:=zH (fun W hW=>ONE (zgF now) (fun i b=>ziv _) 30 #[.pointer (some ⟨w.heap.size,0,none⟩)] zub W hW (fun W' j bb hW' hj=>zwx now j bb w.heap.size W' (by omega) (by omega) ((KA5.out.below (zT hW hW') KA5.out.lt).cell 0)));have O3:=fun (hbad:costs.any zjD=false)=>zH (fun W hW=>ONE (zdb costs) (zjp hbad) 32 #[.pointer (some ⟨w.heap.size+1,0,none⟩)] zto W hW (fun W' j bb hW' hj=>zwP costs j bb (w.heap.size+1) sa cap W' (by omega) ((KB5.out.below (zT hW hW') KB5.out.lt).cell 0) (HI5.out.below (zT hW hW'))));have KA:Hid (∀W,zB W5 W->W.cell? ⟨w.heap.size,0,none⟩=some (.int .u64 now)):=fun W hW=>(KA5.out.below hW KA5.out.lt).cell 0;have KB:Hid (∀W,zB W5 W->W.cell? ⟨w.heap.size+1,0,none⟩=some (.slice sa costs.length cap)):=fun W hW=>(KB5.out.below hW KB5.out.lt).cell 0;have HIN:Hid (∀W,zB W5 W->zaN W sa costs):=fun W hW=>HI5.out.below hW;have HG:Hid (∀W,zB W5 W->zR 26 #[.iface 57 (.int .i64 2),.int .i64 2] W (.bool true)):=fun W hW=>zld 2 2 (.iface 57 (.int .i64 2)) W (HG5.out.below hW) (Or.inr (Or.inl ⟨by decide,rfl,rfl⟩));simp only[zg8] at HL5 HN5;unfold zlv at HC5;simp only[zg8] at HC5;clear ONE hcl hcn HS5 HU5 KN5 KL5 HI5 HG5 KA5 KB5 HLL hlen hmem;generalize zaA zg7 vars (clF K).1 (clF K).2 0=R1 at *;generalize zaA (zgF now) vars (clF K).1 (clF K).2 0=R2 at *;generalize zaA (zdb costs) vars (clF K).1 (clF K).2 0=R3 at *;have HL:=zH HL5;have HNR:=zH HN5;clear HL5 HN5;generalize (if R1.can then Value.nilIface else .iface 57 (.int .i64 8))=er1 at *;generalize (if R1.can then R1.items else 0)=it1 at *;generalize (if R2.can then Value.nilIface else .iface 57 (.int .i64 8))=er2 at *;generalize (if R2.can then R2.items else 0)=it2 at *;go_wp2_with fail;refine(HL.out W5 zF).mono ?_;rintro e w6 ⟨rfl,d6⟩;have k6:=KA.out w6 d6;go_wp2_with fail;refine(HNR.out w6 d6).mono ?_;rintro e w7 ⟨rfl,hb7⟩;have d7:=zT d6 hb7;clear hb7 HL HNR k6 d6;go_wp2_with fail;refine(O1.out w7 d7).mono ?_;rintro e w8 ⟨rfl,hb8⟩;have d8:=zT d7 hb8;clear hb8 O1;go_wp2_with fail;refine(O2.out w8 d8).mono ?_;rintro e w9 ⟨rfl,hb9⟩;have d9:=zT d8 hb9;have k9:=KB.out w9 d9;clear hb9 O2 d7 d8;cases hbad:costs.any zjD with
 |true =>
  rw[hbad] at HC5;simp only[if_true] at HC5;have HC:=zH HC5;have HBAD:=zH hbad;clear HC5 O3 hbad;go_wp2_with fail;refine(HC.out w9 d9).mono ?_;rintro e w10 ⟨rfl,hb10⟩;have d10:=zT d9 hb10;have k10:=KB.out w10 d10;have HI10:=zH (HIN.out w10 d10);clear hb10 HC k9 d9;go_wp2_with fail;go_loop [23] (fun iV=>∃i:Nat,i<=costs.length/\iV=.int .i64 i/\∀j,j<i->zjD (costs.getD j 0)=false) (fun iV=>costs.length-(intOf iV).toNat)
  case atStart=>exact⟨0,Nat.zero_le _,rfl,fun j h=>by omega⟩
  case round =>
   obtain⟨i,hi,rfl,hall⟩:=hrel;have HALL:=zH hall;clear hall
   by_cases hlt:i<costs.length
   ·have hii0:(0:Int)<=(i:Int):=by omega
    have hii1:(i:Int)<(costs.length:Int):=by omega
    obtain⟨ad,rfl,had,hcell⟩:=HI10.out i hlt;obtain⟨ab,ao,asp⟩:=ad;generalize hx:costs.getD i 0=x at *;have HX:=zH hx;clear hx
    by_cases h1:x<0
    ·go_wp2_with fail;refine(HG.out w10 d10).mono ?_;rintro e w11 ⟨rfl,hb11⟩;have HF:Hid (zB w w11):=HW5.out.trans ((zT d10 hb11).mono HW5.out.size);clear hb11;go_wp2;go_ret;exact⟨rfl,HF.out⟩
    ·by_cases h2:1000000<x
     ·go_wp2_with fail;refine(HG.out w10 d10).mono ?_;rintro e w11 ⟨rfl,hb11⟩;have HF:Hid (zB w w11):=HW5.out.trans ((zT d10 hb11).mono HW5.out.size);clear hb11;go_wp2;go_ret;exact⟨rfl,HF.out⟩
     ·go_wp2;go_round
      case rel=>exact ⟨i + 1,hlt,by go_num,fun j hj=>by
       by_cases e:j<i
       ·exact HALL.out j e
       ·obtain rfl:j=i:=by omega
        rw [HX.out];unfold zjD;simp;omega⟩
      case measure=>simp[intOf];omega
   ·exfalso;obtain⟨x,hx,hbx⟩:=List.any_eq_true.1 HBAD.out;obtain⟨j,hj,rfl⟩:=List.getElem_of_mem hx;have:=HALL.out j (by omega);rw[List.getD_eq_getElem?_getD,List.getElem?_eq_getElem hj] at this;rw[Option.getD_some,hbx] at this;cases this
 |false =>
  rw[hbad] at HC5;simp only[Bool.false_eq_true,if_false] at HC5;have O4:=O3 hbad;have HC:=zH HC5;have HBAD:=zH hbad;clear HC5 O3 hbad HG;generalize (if R3.can then Value.nilIface else .iface 57 (.int .i64 8))=er3 at *;generalize (if R3.can then R3.items else 0)=it3 at *;go_wp2_with fail;refine(HC.out w9 d9).mono ?_;rintro e w10 ⟨rfl,hb10⟩;have d10:=zT d9 hb10;have k10:=KB.out w10 d10;have HI10:=zH (HIN.out w10 d10);clear hb10 HC k9 d9;go_wp2_with fail;go_loop [23] (fun iV=>∃i:Nat,i<=costs.length/\iV=.int .i64 i/\∀j,j<i->zjD (costs.getD j 0)=false) (fun iV=>costs.length-(intOf iV).toNat)
  case atStart=>exact⟨0,Nat.zero_le _,rfl,fun j h=>by omega⟩
  case round =>
   obtain⟨i,hi,rfl,hall⟩:=hrel;have HALL:=zH hall;clear hall
   by_cases hlt:i<costs.length
   ·have hii0:(0:Int)<=(i:Int):=by omega
    have hii1:(i:Int)<(costs.length:Int):=by omega
    obtain⟨ad,rfl,had,hcell⟩:=HI10.out i hlt;obtain⟨ab,ao,asp⟩:=ad;generalize hx:costs.getD i 0=x at *;have HX:=zH hx;clear hx;have hnb:zjD x=false:=by
     have:=List.any_eq_false.1 HBAD.out x (by rw[<-HX.out];exact zby hlt);simpa using this
    unfold zjD at hnb;rw[Bool.or_eq_false_iff] at hnb;have h1:¬x<0:=of_decide_eq_false hnb.1;have h2:¬1000000<x:=of_decide_eq_false hnb.2;clear hnb;go_wp2;go_round
    case rel=>exact ⟨i + 1,hlt,by go_num,fun j hj=>by
     by_cases e:j<i
     ·exact HALL.out j e
     ·obtain rfl:j=i:=by omega
      rw [HX.out];unfold zjD;simp;omega⟩
    case measure=>simp[intOf];omega
   ·obtain rfl:i=costs.length:=by omega
    clear HI10;go_wp2_with fail;refine(O4.out w10 d10).mono ?_;rintro e w11 ⟨rfl,hb11⟩;have HF:Hid (zB w w11):=HW5.out.trans ((zT d10 hb11).mono HW5.out.size);clear hb11;go_wp2;go_ret;exact⟨rfl,HF.out⟩
theorem sbest_any(s:ByteArray)(now:Nat)(hnow:now<18446744073709551616)(costs:List Int)(sa:Option Addr)(cap:Nat)(w:World)(hw:Lw w)(hF:zdA w)(ad:Addr)(kc:Nat)(hK:zbJ w ad kc)(hI:zaN w sa costs):zR 4 #[.string s,.int .u64 now,.slice sa costs.length cap] w (.bool true):=by
 cases h:zfK s with
 |none=>exact zmi s now costs sa cap w hw hF ad kc hK h
 |some r=>exact zmT s now hnow costs sa cap w hw hF ad kc hK hI r.1 r.2 h
end Bd
section
open Go.ChangeShapes Go.WideShapes Go.ChangeAt Go.RowKit
theorem own:ownKnob Tryz.prog.godebug=none:=by kernel_rfl
theorem zw9:Tryz.prog.globalNamed "errors.errorType"=some 2:=by kernel_rfl
theorem zuH:(Tryz.prog.cutTypes.find? (·.1 == "internal/reflectlite.rtype")).map (·.2)=some 362:=by kernel_rfl
theorem zvH:((List.range 513).filter fun t=>Tryz.prog.rowNamed t [101,114,114,111,114])=[31]:=by kernel_rfl
theorem zn1:Tryz.prog.types.size=513:=by kernel_rfl
theorem zuq{W:World}{l:List (String × DataW Unit)}(h:laidMetH Tryz.prog l W)(hk:(l.filter fun x=>x.1 == "errors.errorType")=[("errors.errorType",Rows.laid_errors_errorType)]):ziC W:=by
 have h2:=h.filter fun x=>x.1 == "errors.errorType";rw[hk] at h2;have h3:laidMet Tryz.prog [] W/\handlesMet Tryz.prog [("errors.errorType",Rows.laid_errors_errorType)] W:=h2;obtain⟨name,u,ty,e1,e2,e3,e4,e5⟩:=h3.2 _ (List.mem_singleton.2 rfl);have en:name=[101,114,114,111,114]:=(Option.some.inj e1).symm;subst en;obtain rfl:=Option.some.inj (zuH.symm.trans e2);have hm:ty∈(List.range 513).filter fun t=>Tryz.prog.rowNamed t [101,114,114,111,114]:=List.mem_filter.2 ⟨List.mem_range.2 (by rw[<-zn1];exact e3),e4⟩;rw[zvH] at hm;obtain rfl:=List.mem_singleton.1 hm;have hh:typeHandle Tryz.prog 31=.pointer (some ⟨12,31,none⟩):=by kernel_rfl
 rw[hh] at e5;have h6:=World.var?_cell zw9 e5 0;unfold ziC;simpa using h6
def zdF(cs:Array Value):Obj->Obj
 |.cells _ t frozen=>.cells cs t frozen
 |o=>o
end
section
open Go.ChangeShapes Go.WideShapes Go.ChangeAt Go.RowKit Go.Shelf
theorem zxf:Tryz.prog.globalNamed "internal/strconv.uint64pow10"=some 4:=by kernel_rfl
theorem zrP:(Tryz.prog.globals[4]?).map (·.type)=some 416:=by kernel_rfl
theorem zqT:Tryz.prog.cellsOf 416=20:=by kernel_rfl
theorem zob:Tryz.prog.cellsOf 165=1:=by kernel_rfl
theorem zwV:Tryz.prog.globalNamed "strconv.ErrSyntax"=some 10:=by kernel_rfl
theorem zri:(Tryz.prog.globals[10]?).map (·.type)=some 31:=by kernel_rfl
theorem zwW:Tryz.prog.globalNamed "strconv.ErrRange"=some 11:=by kernel_rfl
theorem zrO:(Tryz.prog.globals[11]?).map (·.type)=some 31:=by kernel_rfl
theorem zo4:Tryz.prog.cellsOf 486=1:=by kernel_rfl
theorem zfR:Tryz.prog.cellsOf 9=1:=by kernel_rfl
theorem zsW : "*" ++ "errors.errorString" = "*errors.errorString":=by decide
theorem zvr(u:TypeId)(h:Tryz.prog.typeName? 3 u=some "*errors.errorString"):u=484 :=
 typeName_ptr_named (nm := "errors.errorString") (by rw[zsW];kernel_rfl) (by kernel_rfl) (by decide) u (by rw[zsW];exact h)
theorem zwl{W:World}{l:List (String × DataW Unit)}(h:laidMetH Tryz.prog l W)(hk:(l.filter fun x=>x.1 == "internal/strconv.uint64pow10")=[("internal/strconv.uint64pow10",Lib.tabData .u64 Lib.pow10Tab)]):Lib.TabIs Tryz.prog W "internal/strconv.uint64pow10" .u64 Lib.pow10Tab:=by
 have h2:=h.filter fun x=>x.1 == "internal/strconv.uint64pow10";rw[hk] at h2;have h3:laidMet Tryz.prog [("internal/strconv.uint64pow10",Lib.tabData .u64 Lib.pow10Tab)] W:=h2;exact Lib.tabIs_of_head (rest:=[]) zxf zrP Tryz.underlying416 Tryz.underlying165 zob zqT h3
theorem zvt{W:World}{l:List (String × DataW Unit)}(h:laidMetH Tryz.prog l W)(hk:(l.filter fun x=>x.1 == "strconv.ErrSyntax")=[("strconv.ErrSyntax",Rows.laid_strconv_ErrSyntax)]):∃ev,W.cell? ⟨10,0,none⟩=some ev/\(ev=.nilIface\/∃te pe,ev=.iface te pe):=by
 have h2:=h.filter fun x=>x.1 == "strconv.ErrSyntax";rw[hk] at h2;have h3:laidMet Tryz.prog [("strconv.ErrSyntax",Rows.laid_strconv_ErrSyntax)] W:=h2;obtain⟨a0,s0,hv0,-,-,-⟩:=laid_sentinel h3 zwV zri Tryz.underlying31 zvr Tryz.underlying484 Tryz.underlying486 rfl rfl Tryz.underlying9 zo4 zfR;exact⟨_,by have h0:=World.var?_cell zwV hv0 0;simpa using h0,.inr ⟨_,_,rfl⟩⟩
theorem zvY{W:World}{l:List (String × DataW Unit)}(h:laidMetH Tryz.prog l W)(hk:(l.filter fun x=>x.1 == "strconv.ErrRange")=[("strconv.ErrRange",Rows.laid_strconv_ErrRange)]):∃ev,W.cell? ⟨11,0,none⟩=some ev/\(ev=.nilIface\/∃te pe,ev=.iface te pe):=by
 have h2:=h.filter fun x=>x.1 == "strconv.ErrRange";rw[hk] at h2;have h3:laidMet Tryz.prog [("strconv.ErrRange",Rows.laid_strconv_ErrRange)] W:=h2;obtain⟨a0,s0,hv0,-,-,-⟩:=laid_sentinel h3 zwW zrO Tryz.underlying31 zvr Tryz.underlying484 Tryz.underlying486 rfl rfl Tryz.underlying9 zo4 zfR;exact⟨_,by have h0:=World.var?_cell zwW hv0 0;simpa using h0,.inr ⟨_,_,rfl⟩⟩
theorem zwt{W:World}(h:W.ShapedOpen Tryz.prog):∃n,W.cell? ⟨5,0,none⟩=some (.int .i64 n) :=
 cell_of_shapedOpen_int (zero:=#[.int .i64 0]) (t:=3) h (of_decide_eq_true (by kernel_rfl)) (by kernel_rfl) rfl (by kernel_rfl) (by kernel_rfl) Tryz.underlying3
theorem zvT{W:World}(h:W.ShapedOpen Tryz.prog):12<=W.heap.size:=by
 obtain⟨o,_,ho,_⟩:=h.2 12 (of_decide_eq_true (by kernel_rfl)) (of_decide_eq_true (by kernel_rfl));have:=(Array.getElem?_eq_some_iff.1 ho).1;omega
theorem zwv{W:World}{l:List (String × DataW Unit)}(h:laidMetH Tryz.prog l W)(hs:W.ShapedOpen Tryz.prog)
  (k1:(l.filter fun x=>x.1 == "internal/strconv.uint64pow10")=[("internal/strconv.uint64pow10",Lib.tabData .u64 Lib.pow10Tab)])
  (k2:(l.filter fun x=>x.1 == "strconv.ErrSyntax")=[("strconv.ErrSyntax",Rows.laid_strconv_ErrSyntax)])
  (k3:(l.filter fun x=>x.1 == "strconv.ErrRange")=[("strconv.ErrRange",Rows.laid_strconv_ErrRange)])
  (k4:(l.filter fun x=>x.1 == "errors.errorType")=[("errors.errorType",Rows.laid_errors_errorType)]):Lb W :=
 ⟨zwt hs,zvt h k2,zvY h k3,zwl h k1,zuq h k4,zvT hs⟩
def zlh:DataW Unit->List Value
 |.lit (.int k z)=>[.int k z]
 |_=>[undef]
def zr2:DataW Unit->List Value
 |.agg l=>l.flatMap zlh
 |d=>zlh d
def zgO:DataW Unit->Array Value
 |.agg l=>(l.flatMap zr2).toArray
 |_=>#[]
end
section
open Go.ChangeShapes Go.WideShapes Go.ChangeAt Go.RowKit Go.Shelf
theorem ztN:Tryz.prog.globalNamed "solspace/solspaceref.Fine"=some 0:=by kernel_rfl
theorem zoY:(Tryz.prog.globals[0]?).map (·.type)=some 96:=by kernel_rfl
theorem zqm:Tryz.prog.cellsOf 3=1:=by kernel_rfl
theorem znh:Tryz.prog.cellsOf 57=1:=by kernel_rfl
theorem znn:Tryz.prog.cellsOf 96=2:=by kernel_rfl
theorem zr7{W:World}{l:List (String × DataW Unit)}(h:laidMetH Tryz.prog l W)(hk:(l.filter fun x=>x.1 == "solspace/solspaceref.Fine")=[("solspace/solspaceref.Fine",Rows.laid_solspace_solspaceref_Fine)]):zdA W:=by
 have h2:=h.filter fun x=>x.1 == "solspace/solspaceref.Fine";rw[hk] at h2;have h3:laidMet Tryz.prog [("solspace/solspaceref.Fine",Rows.laid_solspace_solspaceref_Fine)] W:=h2;obtain⟨ps,⟨g',t',cs,fuel,p,q,hg',ht',hvar,hd,_,_⟩,_⟩:=h3;obtain rfl:=Option.some.inj (ztN.symm.trans hg');obtain rfl:=Option.some.inj (zoY.symm.trans ht');obtain⟨y0,y1,n,hx,hl,g0,g1⟩:=trod_struct2 Tryz.underlying96 hd;rw[znn] at hl;obtain⟨cs⟩:=cs;simp only at hl g0 g1
 match cs,hl with
 |[v0,v1],_ =>
  simp[znh,zqm] at g0 g1;obtain⟨z0,e0,x0,-⟩:=DataW.trod_int Tryz.underlying57 g0;obtain⟨z1,e1,x1,-⟩:=DataW.trod_int Tryz.underlying3 g1;simp at e0 e1;subst e0 e1 x0 x1;simp[Rows.laid_solspace_solspaceref_Fine] at hx;obtain⟨⟨rfl,rfl⟩,-⟩:=hx;have h0:W.cell? ⟨0,0,none⟩=some (.int .i64 0):=by have:=World.var?_cell ztN hvar 0;simpa using this
  exact⟨h0,by have:=World.var?_cell ztN hvar 1;simpa using this,World.block_lt_of_cell? _ _ h0⟩
end
section
open Go.ChangeShapes Go.WideShapes Go.ChangeAt Go.RowKit Go.Shelf
theorem zsQ:Tryz.prog.globalNamed "solspace/catalog.words"=some 3:=by kernel_rfl
theorem zm1:(Tryz.prog.globals[3]?).map (·.type)=some 330:=by kernel_rfl
theorem zm2:Tryz.prog.cellsOf 330=5:=by kernel_rfl
theorem zif{H:Type}{enc:TypeId × Value->H}{P:Program}{w:World}{base:Nat}{sp:Nat->Bool}{held:Bool}{fuel:Nat}{t e:TypeId}{n:Nat}{cs:List Value}{zs:List ByteArray}{p:List MemPlace}
  (ht:P.underlying t=some (.array n e)) (he:P.underlying e=some .string) (hce:P.cellsOf e=1) (hct:P.cellsOf t=n)
  (h:DataW.trod enc P w base sp held fuel t cs=some (.agg (zs.map fun z=>.lit (.string z.data.toList)),p)):cs=zs.map fun z=>Value.string z:=by
 cases fuel with
 |zero=>simp[DataW.trod] at h
 |succ fuel =>
  simp only[DataW.trod,ht,hce,hct,Nat.mul_one] at h;split at h
  ·rename_i hl;obtain⟨xs,hm,hx⟩:=Option.map_eq_some_iff.1 h;have hxs:xs.map (·.1)=zs.map fun z=>(DataW.lit (.string z.data.toList):DataW H):=by
    have:=congrArg Prod.fst hx;simpa using this
   have hxl:xs.length=n:=by simpa using Lib.mapM_length hm
   have hzl:zs.length=n:=by
    have:=congrArg List.length hxs;simp at this;omega
   apply List.ext_getElem?;intro i
   by_cases hi:i<n
   ·obtain⟨b,hb,hf⟩:=Lib.mapM_at hm i i (by simp[hi]);obtain⟨z,hc,rfl,_⟩:=DataW.trod_string he hf;have h1:cs[i]?=some (.string z):=by
     have:=congrArg (·[0]?) hc;simpa[List.getElem?_take,List.getElem?_drop] using this
    have h2:(xs.map (·.1))[i]?=some (DataW.lit (.string z.data.toList):DataW H):=by simp[hb]
    rw[hxs] at h2;simp only[List.getElem?_map,Option.map_eq_some_iff,DataW.lit.injEq,Lit.string.injEq] at h2;obtain⟨z',hz',e⟩:=h2;obtain rfl:z'=z:=ByteArray.ext (Array.toList_inj.1 e);simp[h1,hz']
   ·rw[List.getElem?_eq_none (by omega),List.getElem?_eq_none (by simp;omega)]
  ·cases h
theorem zsr{W:World}{l:List (String × DataW Unit)}(h:laidMetH Tryz.prog l W)(hk:(l.filter fun x=>x.1 == "solspace/catalog.words")=[("solspace/catalog.words",Rows.laid_solspace_catalog_words)]):zds W:=by
 have h2:=h.filter fun x=>x.1 == "solspace/catalog.words";rw[hk] at h2;have h3:laidMet Tryz.prog [("solspace/catalog.words",Rows.laid_solspace_catalog_words)] W:=h2;obtain⟨ps,⟨g',t',cs,fuel,p,q,hg',ht',hvar,hd,_,_⟩,_⟩:=h3;obtain rfl:=Option.some.inj (zsQ.symm.trans hg');obtain rfl:=Option.some.inj (zm1.symm.trans ht');have hcs:=zif (zs:=[⟨#[]⟩,⟨#[112,97,99,107,97,103,101]⟩,⟨#[110,101,101,100,115]⟩,⟨#[99,108,97,115,104,101,115]⟩,⟨#[114,111,111,116]⟩]) Tryz.underlying330 Tryz.underlying9 zfR zm2 hd;have H:=fun (i:Nat)=>World.var?_cell zsQ hvar i;obtain⟨cs⟩:=cs;simp only at hcs;subst hcs;exact⟨by simpa using H 0,by simpa using H 1,by simpa using H 2,by simpa using H 3,by simpa using H 4⟩
theorem zsX:Tryz.prog.globalNamed "solspace/solspaceref.kinds"=some 1:=by kernel_rfl
theorem zmR:(Tryz.prog.globals[1]?).map (·.type)=some 167:=by kernel_rfl
theorem zso{W:World}{l:List (String × DataW Unit)}(h:laidMetH Tryz.prog l W)(hk:(l.filter fun x=>x.1 == "solspace/solspaceref.kinds")=[("solspace/solspaceref.kinds",Rows.laid_solspace_solspaceref_kinds)]):∃ad cap,zbJ W ad cap:=by
 have h2:=h.filter fun x=>x.1 == "solspace/solspaceref.kinds";rw[hk] at h2;have h3:laidMet Tryz.prog [("solspace/solspaceref.kinds",Rows.laid_solspace_solspaceref_kinds)] W:=h2;obtain⟨ps,⟨g',t',cs,fuel,p,q,hg',ht',hvar,hd,_,_⟩,_⟩:=h3;obtain rfl:=Option.some.inj (zsX.symm.trans hg');obtain rfl:=Option.some.inj (zmR.symm.trans ht');have H:=World.var?_cell zsX hvar 0;rcases Go.Deep.open_slice1 Tryz.underlying167 zfR hd with ⟨_,hx⟩|⟨a,len,cap,m,n,V,D,Pl,hcs,hb,hl,hm,hmm,hx,hc⟩
 ·simp[Rows.laid_solspace_solspaceref_kinds] at hx
 ·have h1:=congrArg Prod.fst hx;simp only[Rows.laid_solspace_solspaceref_kinds,DataW.slice.injEq] at h1;obtain⟨h1,h1b⟩:=h1;have hlen:len=5:=by have:=congrArg List.length h1;simpa using this.symm
  subst hlen;have hm5:5<=m:=by rw[hmm];split<;>omega
  have hD:∀j,j<5->D j=.lit (.string (wl j)):=fun j hj=>by
   have:=congrArg (·[j]?) h1;simp only[List.getElem?_map] at this
   match j,hj with
   |0,_=>simpa[wl] using this.symm
   |1,_=>simpa[wl] using this.symm
   |2,_=>simpa[wl] using this.symm
   |3,_=>simpa[wl] using this.symm
   |4,_=>simpa[wl] using this.symm
  have hcell:∀j,j<5->W.cell? (a.add j)=some (.string ⟨(wl j).toArray⟩):=fun j hj=>by
   obtain⟨z,hz,hzd,_⟩:=DataW.trod_string Tryz.underlying9 (hc j (by omega)).2;rw[(hc j (by omega)).1];have e1:V j=.string z:=by simpa using hz
   rw[e1];have e2:z.data.toList=wl j:=by
    have h7:=hD j hj;have h8:=congrArg Prod.fst hzd;simp only at h8;rw[h8] at h7;simpa using h7
   rw[zdV e2]
  refine⟨a,cap,?_,hcell,?_,?_⟩
  ·obtain⟨cs⟩:=cs;simp only at hcs;subst hcs;simpa using H
  ·have h0:W.cell? ⟨1,0,none⟩=some (.slice (some a) 5 cap):=by
    obtain⟨cs⟩:=cs;simp only at hcs;subst hcs;simpa using H
   exact World.block_lt_of_cell? _ _ h0
  ·have:=World.block_lt_of_cell? _ _ (hcell 0 (by omega))
   rwa [zbN] at this
noncomputable def zff(os:Os):World :=
 let w0:=World.holding Tryz.prog os ⟨#[.cells #[.string ⟨#[118,97,108,117,101,32,111,117,116,32,111,102,32,114,97,110,103,101]⟩] 486,.cells #[.string ⟨#[105,110,118,97,108,105,100,32,115,121,110,116,97,120]⟩] 486,.cells #[.string ⟨#[]⟩,.string ⟨#[112,97,99,107,97,103,101]⟩,.string ⟨#[110,101,101,100,115]⟩,.string ⟨#[99,108,97,115,104,101,115]⟩,.string ⟨#[114,111,111,116]⟩] 9],#[],[]⟩
 { w0 with heap:=((((((((((w0.heap.modify 2 (zdF #[.iface 362 (.agg #[.pointer (some ⟨12,31,none⟩)])])).modify 10 (zdF #[.iface 484 (.pointer (some ⟨18,0,none⟩))])).modify 11 (zdF #[.iface 484 (.pointer (some ⟨17,0,none⟩))])).modify 4 (zdF (zgO Rows.laid_internal_strconv_uint64pow10))).modify 6 (zdF (zgO Rows.laid_unicode_utf8_first))).modify 7 (zdF (zgO Rows.laid_unicode_utf8_acceptRanges))).modify 8 (zdF (zgO Rows.laid_math_bits_deBruijn32tab))).modify 9 (zdF (zgO Rows.laid_math_bits_deBruijn64tab))).modify 3 (zdF #[.string ⟨#[]⟩,.string ⟨#[112,97,99,107,97,103,101]⟩,.string ⟨#[110,101,101,100,115]⟩,.string ⟨#[99,108,97,115,104,101,115]⟩,.string ⟨#[114,111,111,116]⟩])).modify 0 (zdF #[.int .i64 0,.int .i64 (-1)])).modify 1 (zdF #[.slice (some ⟨19,0,none⟩) 5 5]) }
end
end Go.Proofs.YtiihalknffbjpaaGreatDoor
