import Derived.Test.YthifnefkdjkicaaGreatDoorSbCost
import Derived.Test.YthifnefkdjkicaaGreatDoorCards
import Derived.Test.YthifnefkdjkicaaGreatDoorTie
import Derived.Deep.DeepHandedRow
import Derived.Stop.LaidErr
import Derived.Lib.SmallJoins
namespace Go.Proofs.YthifnefkdjkicaaGreatDoor
set_option maxHeartbeats 4000000
set_option maxRecDepth 100000
namespace Bd
open Go.RowKit Go.Deep Sv Lib Go.Sort
theorem zds(x:Wy):x.best=.tuple #[.int .u64 (((if x.can then x.items else 0):Nat):Int),if x.can then .nilIface else .iface 42 (.int .i64 8)]:=by
 unfold Wy.best;cases x.can<;>rfl
theorem zgx(s:ByteArray)(now:Nat)(costs:List Int)(sa:Option Addr)(cap:Nat)(w:World)(hw:Lw w)(hF:yu w)(ad:Addr)(kc:Nat)(hK:xg w ad kc)(h:Zu s=none):zR 3 #[s,.int .u64 now,.slice sa costs.length cap] w (.bool true):=by
 have j:zB w ((w.alloc (.cells #[.int .u64 now] 22)).alloc (.cells #[.slice sa costs.length cap] 23)):=(zF.alloc zN _).alloc (by simp) _;have o:=zeH s _ (hw.below j) (hF.below j) ad kc (hK.below j);rw[h] at o;generalize p:(w.alloc (.cells #[.int .u64 now] 22)).alloc (.cells #[.slice sa costs.length cap] 23)=W0 at *;have HB:Hid (zR 4 #[s] W0 (.tuple #[.pointer none,.slice none 0 0,false])):=o;have u:=zH j;have y:=zH p;clear o hw hF hK h j p;go_enter Tryz.func3,Tryz.ntmps3;go_upto_region 1 with fail;rw[y.out];go_wp2_with fail;refine HB.out.mono ?_;rintro e w1 ⟨rfl,q⟩;have HF:Hid (zB w w1):=zT u.out q;clear q HB;go_wp2;go_ret;exact⟨rfl,HF.out⟩
theorem zj4(s:ByteArray)(now:Nat)(hnow:now<18446744073709551616)(costs:List Int)(sa:Option Addr)(cap:Nat)(w:World)(hw:Lw w)(hF:yu w)(ad:Addr)(kc:Nat)(hK:xg w ad kc)(hI:qe w sa costs)(ls:List Ln)(its:List It)(h:Zu s=some (ls,its)):zR 3 #[.string s,.int .u64 now,.slice sa costs.length cap] w (.bool true):=by
 have a7:zB w ((w.alloc (.cells #[.int .u64 now] 22)).alloc (.cells #[.slice sa costs.length cap] 23)):=(zF.alloc zN _).alloc (by simp) _;have kA:=(Blk.new w 22 #[.int .u64 now]).alloc (.cells #[.slice sa costs.length cap] 23);have kB:=Blk.new (w.alloc (.cells #[.int .u64 now] 22)) 23 #[.slice sa costs.length cap];simp only[zA0] at kB;have aF:=zeH s _ (hw.below a7) (hF.below a7) ad kc (hK.below a7);rw[h] at aF;generalize be:(w.alloc (.cells #[.int .u64 now] 22)).alloc (.cells #[.slice sa costs.length cap] 23)=W0 at *;have HB:Hid (zC 4 #[.string s] W0 fun e w'=>∃bc v,e=.returned (.tuple #[.pointer (some ⟨bc,0,none⟩),v,true])/\xY w' bc ls its/\RLs w' v ls/\zB W0 w'):=aF;have aw:=zH a7;have b7:=zH be;have aI:=zH kA;have aa:=zH kB;have aY:=zH hw;have a9:=zH hI;have hN:=zm3 h;have HN:=zH hN;have bt:=a7.size;clear aF hw hF hK h a7 be kA kB hI hN;go_enter Tryz.func3,Tryz.ntmps3;go_upto_region 1 with fail;rw[b7.out];go_wp2_with fail;refine HB.out.mono ?_;rintro e w1 ⟨bc,v,rfl,bj,aT,aP⟩;obtain⟨va,vc,rfl⟩:∃va vc,v=.slice va ls.length vc:=by obtain⟨vs,_,h2⟩:=aT;obtain⟨a,c,e,_⟩:=h2.form;exact⟨a,c,e⟩
 have k1:w1.cell? ⟨w.heap.size+1,0,none⟩=some (.slice sa costs.length cap):=(aa.out.below aP aa.out.lt).cell 0;have aW:=zH bj;have b6:=zH aT;have av:=zH aP;clear bj aT aP HB b7
 by_cases hl40:40<costs.length
 ·have bs:(40:Int)<(costs.length:Int):=by omega
  have HF:Hid (zB w w1):=zT aw.out av.out;go_wp2;go_ret;exact⟨rfl,HF.out⟩
 have bs:¬(40:Int)<(costs.length:Int):=by omega
 have b4:=zH (zl8 ls its _ 8 w1 b6.out HN.out);go_wp2_with fail;refine b4.out.mono ?_;rintro e w2 ⟨ca,cc,rfl,aj,aB⟩;have aD:=Go.Proofs.YthifnefkdjkicaaGreatDoor.below_new w2 (.cells #[its.length] 3);have kn:=Blk.new w2 3 #[its.length];have a8:=zH (aj.below aD);have ah:=(zT av.out aB).trans (aD.mono (Nat.le_trans av.out.size aB.size));have aG:=zH ah;have aX:=zH ((aW.out.below aB zN).below aD zN);clear aj aB aD b4 aW b6 av k1 ah
 by_cases hP:¬((ofL its ls).length<=200/\its.length<=8)
 ·have hd:(decide ((ofL its ls).length<=200)&&decide (its.length<=8))=false:=by
   rw[Bool.and_eq_false_iff]
   by_cases q:(ofL its ls).length<=200
   ·right;exact decide_eq_false (fun e=>hP ⟨q,e⟩)
   ·left;exact decide_eq_false q
  rw[hd];have HF:Hid (zB w (w2.alloc (.cells #[its.length] 3))):=zT aw.out aG.out;clear HN;go_wp2;go_ret;exact⟨rfl,HF.out⟩
 obtain⟨aO,ar⟩:=Decidable.not_not.1 hP;clear hP;rw[decide_eq_true aO,decide_eq_true ar];have hN:=HN.out;have bl:=zay hN;have bm:∀x∈ls,x.name.size<=100000/\x.other.size<=100000:=fun x hx=>zj3 (bl.2.2 x hx);have a0:=ze1 hN;have b9:yP its.length ((ofL its ls).map Prod.snd):=fun c hc=>by
  obtain⟨x,hx,rfl⟩:=List.mem_map.1 hc;exact(a0 x hx).1
 have a1:((2*2^its.length+25*its.length:Nat):Int)<=4000+1:=by
  have:=Kh (show its.length<=10 by omega);omega
 have b1:Hid (∀W bk,xY W bk ls its->zC 6 #[.pointer (some ⟨bk,0,none⟩),(4000:Int)] W fun e w'=>∃p s b O,e=.returned (.tuple #[.pointer (some ⟨p,0,none⟩),.nilIface])/\Zh W.heap.size w' p s b O its.length 4000 (clF ((ofL its ls).map Prod.snd))/\zB W w'):=fun W bk hc=>zlk bk ls its W hc hN (by omega) (by omega) bm aO 4000 (by decide) (by decide) a1;have b8:((ofL its ls).map Prod.snd).length=(ofL its ls).length:=List.length_map _;rw[<-b8] at aO ⊢;generalize bu:its.length=vars at *;generalize hK:(ofL its ls).map Prod.snd=K at *;have a5:=zH b9;have b0:=zH (b1.out _ bc aX.out);have b3:Hid (∀W,xJ W ca K->zC 7 #[vars,.slice ca K.length cc] W fun e w'=>∃v,e=.returned v/\w'.ownsRow W.heap.size 22 1 v (qj vars K (2^vars)).length (ZN (qj vars K (2^vars)))/\zB W w'):=fun W hc=>zoe vars ar K ca cc W hc (by omega) a5.out;clear hN bl bm a0 a1 bu b9 b8 hK HN b1 aX;go_upto_region 5 with fail;generalize w2.alloc (.cells #[vars] 3)=W2 at *;generalize w2.heap.size=bn at *;go_wp2_with fail;refine b0.out.mono ?_;rintro e w3 ⟨p,sp,b,O,rfl,aq,aC⟩;have aU:=kn.below aC kn.lt;have c3:_=some (Value.int .i64 vars):=aU.cell 0;have b2:=zH (b3.out w3 (a8.out.below aC));have aV:=zH (zT aG.out aC);have ac:=zH aq;have aM:=zH aU;clear aC aq b0 a8 b3 aG kn aU;go_wp2_with fail;refine b2.out.mono ?_;rintro e w4 ⟨v4,rfl,M,bf⟩;obtain⟨la,lc,rfl,-⟩:=row_form M;have bd:=zmj M;have aQ:=Go.Proofs.YthifnefkdjkicaaGreatDoor.below_new w4 (.cells #[.slice la (qj vars K (2^vars)).length lc] 36);have ka:=Blk.new w4 36 #[.slice la (qj vars K (2^vars)).length lc];have Y:=zT bf aQ;have b5:=zH (bd.below aQ);have ay:=zH (ac.out.new Y);have aN:=zH (aM.out.below Y aM.out.lt);have X:=zT aV.out Y;have ae:=zH (aI.out.below X aI.out.lt);have af:=zH (aa.out.below X aa.out.lt);have Z:=zT aw.out X;have a6:=zH Z;have aH:=zH (aY.out.below Z).lb.glob;have ax:=zH (a9.out.below Z);have aL:=zH ka;clear M bf bd aQ Y X Z ac aM aV b2 aI aa aw aY a9 c3 ka;go_upto_region 11 with fail;generalize w4.alloc (.cells #[.slice la (qj vars K (2^vars)).length lc] 36)=W5 at *;generalize w4.heap.size=ba at *;have am:(qj vars K (2^vars)).length<=1000:=by have h1:=zcy (vars:=vars) (K:=K) (2^vars);have h2:(2:Nat)^vars<=256:=Nat.pow_le_pow_right (n:=2) (by omega) ar;omega
 have an:∀x∈qj vars K (2^vars),x<18446744073709551616:=fun x hx=>by have h1:=(Xm.1 hx).1;have h2:(2:Nat)^vars<=256:=Nat.pow_le_pow_right (n:=2) (by omega) ar;omega
 have az:∀(C:zJ) (hC:Zj C) (F:FuncId) (cb:Array Value) (ak:∀ag w,(callFunc F ag).run Tryz.prog w=.ok (.enter F ag) w) W,zB W5 W->ZA W F cb C vars->zR 8 #[.int .u64 (((if (zw C vars (clF K).1 (clF K).2 0).can then (zw C vars (clF K).1 (clF K).2 0).items else 0):Nat):Int),(if (zw C vars (clF K).1 (clF K).2 0).can then .nilIface else .iface 42 (.int .i64 8)),.func (.func F) #[] cb,.pointer (some ba),.pointer (some bn)] W (.bool true):=fun C hC F cb ak W hW bp =>
  zhw C hC vars ar _ am an la lc F cb ak W (aH.out.below hW) (b5.out.below hW) bp ba bn ((aL.out.below hW aL.out.lt).cell 0) ((aN.out.below hW aN.out.lt).cell 0) _ (zfK C (by omega) a5.out).1 (zfK C (by omega) a5.out).2
 have a4:=Jl (show vars<=12 by omega) a5.out;have aE:=zm2 (show vars<=12 by omega) a5.out;have aJ:∀W,zB W5 W->zC 11 #[.pointer (some ⟨p,0,none⟩)] W fun e w'=>e=.returned (zw YE vars (clF K).1 (clF K).2 0).best/\zB W w':=fun W hW=>znM (ay.out.new hW) a4.good aE (by omega) a4.has;have aK:∀W,zB W5 W->zC 12 #[.pointer (some ⟨p,0,none⟩),.int .u64 now] W fun e w'=>e=.returned (zw (ZO now) vars (clF K).1 (clF K).2 0).best/\zB W w':=fun W hW=>zhc (ay.out.new hW) a4.good aE (by omega) a4.has now (by omega);have R:∀W,zB W5 W->zR 15 #[.pointer (some ⟨p,0,none⟩),.slice sa costs.length cap] W (KG vars (clF K) costs):=fun W hW=>zgA (ay.out.new hW) a4.good aE (by omega) a4.has costs (by omega) sa cap (ax.out.below hW);have O1:=zH (fun W hW=>az YE (fun i b=>KD _) 13 #[] zhx W hW (fun W' j bb _ _=>zoU (j:Int) bb W'));have O2:=zH (fun W hW=>az (ZO now) (fun i b=>KD _) 14 #[.pointer (some w.heap.size)] znD W hW (fun W' j bb aA hj=>zn3 now j bb w.heap.size W' (by omega) (by omega) ((ae.out.below (zT hW aA) ae.out.lt).cell 0)));have O3:=fun (hbad:costs.any xh=false)=>zH (fun W hW=>az (Zd costs) (zfS hbad) 16 #[.pointer (some ⟨w.heap.size+1,0,none⟩)] zqa W hW (fun W' j bb aA hj=>zlv costs j bb (w.heap.size+1) sa cap W' (by omega) ((af.out.below (zT hW aA) af.out.lt).cell 0) (ax.out.below (zT hW aA))));have KA:Hid (∀W,zB W5 W->W.cell? w.heap.size=some (.int .u64 now)):=fun W hW=>(ae.out.below hW ae.out.lt).cell 0;have KB:Hid (∀W,zB W5 W->W.cell? ⟨w.heap.size+1,0,none⟩=some (.slice sa costs.length cap)):=fun W hW=>(af.out.below hW af.out.lt).cell 0;have a9:Hid (∀W,zB W5 W->qe W sa costs):=fun W hW=>ax.out.below hW;have HG:Hid (∀W,zB W5 W->zR 10 #[.iface 42 (.int .i64 2),(2:Int)] W (.bool true)):=fun W hW=>zcB 2 2 (.iface 42 (.int .i64 2)) W (aH.out.below hW) (Or.inr (Or.inl ⟨by decide,rfl,rfl⟩));simp only[zds] at aJ aK;unfold KG at R;simp only[zds] at R;clear az a4 aE ay b5 aN aL ax aH ae af a5 am an;generalize zw YE vars (clF K).1 (clF K).2 0=R1 at *;generalize zw (ZO now) vars (clF K).1 (clF K).2 0=R2 at *;generalize zw (Zd costs) vars (clF K).1 (clF K).2 0=R3 at *;have HL:=zH aJ;have aZ:=zH aK;clear aJ aK;generalize (if R1.can then Value.nilIface else .iface 42 (.int .i64 8))=er1 at *;generalize (if R1.can then R1.items else 0)=it1 at *;generalize (if R2.can then Value.nilIface else .iface 42 (.int .i64 8))=er2 at *;generalize (if R2.can then R2.items else 0)=it2 at *;go_wp2_with fail;refine(HL.out W5 zF).mono ?_;rintro e w6 ⟨rfl,d6⟩;have k6:=KA.out w6 d6;go_wp2_with fail;refine(aZ.out w6 d6).mono ?_;rintro e w7 ⟨rfl,bg⟩;have d7:=zT d6 bg;clear bg HL aZ k6 d6;go_wp2_with fail;refine(O1.out w7 d7).mono ?_;rintro e w8 ⟨rfl,bh⟩;have d8:=zT d7 bh;clear bh O1;go_wp2_with fail;refine(O2.out w8 d8).mono ?_;rintro e w9 ⟨rfl,bi⟩;have d9:=zT d8 bi;have k9:=KB.out w9 d9;clear bi O2 d7 d8;cases hbad:costs.any xh with
 |true =>
  rw[hbad] at R;simp only[if_true] at R;have HC:=zH R;have a3:=zH hbad;clear R O3 hbad;go_wp2_with fail;refine(HC.out w9 d9).mono ?_;rintro e a2 ⟨rfl,J⟩;have u:=zT d9 J;have bv:=KB.out a2 u;have V:=zH (a9.out a2 u);clear J HC k9 d9;go_wp2_with fail;go_loop [23] (fun iV=>∃i:Nat,i<=costs.length/\iV=.int .i64 i/\∀j,j<i->xh (costs.getD j 0)=false) (fun iV=>costs.length-(intOf iV).toNat)
  case atStart=>exact⟨0,Nat.zero_le _,rfl,fun j h=>by omega⟩
  case round =>
   obtain⟨i,hi,rfl,y⟩:=hrel;have U:=zH y;clear y
   by_cases hlt:i<costs.length
   ·have aR:(0:Int)<=(i:Int):=by omega
    have aS:(i:Int)<(costs.length:Int):=by omega
    obtain⟨ad,rfl,bq,ai⟩:=V.out i hlt;obtain⟨ab,ao,bo⟩:=ad;generalize hx:costs.getD i 0=x at *;have HX:=zH hx;clear hx
    by_cases h1:x<0
    ·go_wp2_with fail;refine(HG.out a2 u).mono ?_;rintro e au ⟨rfl,o⟩;have HF:Hid (zB w au):=a6.out.trans ((zT u o).mono a6.out.size);clear o;go_wp2;go_ret;exact⟨rfl,HF.out⟩
    ·by_cases h2:1000000<x
     ·go_wp2_with fail;refine(HG.out a2 u).mono ?_;rintro e au ⟨rfl,o⟩;have HF:Hid (zB w au):=a6.out.trans ((zT u o).mono a6.out.size);clear o;go_wp2;go_ret;exact⟨rfl,HF.out⟩
     ·go_wp2;go_round
      case rel=>exact ⟨i + 1,hlt,by go_num,fun j hj=>by
       by_cases e:j<i
       ·exact U.out j e
       ·obtain rfl:j=i:=by omega
        rw [HX.out];unfold xh;simp;omega⟩
      case measure=>simp[intOf];omega
   ·exfalso;obtain⟨x,hx,br⟩:=List.any_eq_true.1 a3.out;obtain⟨j,hj,rfl⟩:=List.getElem_of_mem hx;have:=U.out j (by omega);rw[List.getD_eq_getElem?_getD,List.getElem?_eq_getElem hj] at this;rw[Option.getD_some,br] at this;cases this
 |false =>
  rw[hbad] at R;simp only[Bool.false_eq_true,if_false] at R;have O4:=O3 hbad;have HC:=zH R;have a3:=zH hbad;clear R O3 hbad HG;generalize (if R3.can then Value.nilIface else .iface 42 (.int .i64 8))=er3 at *;generalize (if R3.can then R3.items else 0)=it3 at *;go_wp2_with fail;refine(HC.out w9 d9).mono ?_;rintro e a2 ⟨rfl,J⟩;have u:=zT d9 J;have bv:=KB.out a2 u;have V:=zH (a9.out a2 u);clear J HC k9 d9;go_wp2_with fail;go_loop [23] (fun iV=>∃i:Nat,i<=costs.length/\iV=.int .i64 i/\∀j,j<i->xh (costs.getD j 0)=false) (fun iV=>costs.length-(intOf iV).toNat)
  case atStart=>exact⟨0,Nat.zero_le _,rfl,fun j h=>by omega⟩
  case round =>
   obtain⟨i,hi,rfl,y⟩:=hrel;have U:=zH y;clear y
   by_cases hlt:i<costs.length
   ·have aR:(0:Int)<=(i:Int):=by omega
    have aS:(i:Int)<(costs.length:Int):=by omega
    obtain⟨ad,rfl,bq,ai⟩:=V.out i hlt;obtain⟨ab,ao,bo⟩:=ad;generalize hx:costs.getD i 0=x at *;have HX:=zH hx;clear hx;have ap:xh x=false:=by
     have:=List.any_eq_false.1 a3.out x (by rw[<-HX.out];exact xR hlt);simpa using this
    unfold xh at ap;rw[Bool.or_eq_false_iff] at ap;have h1:¬x<0:=of_decide_eq_false ap.1;have h2:¬1000000<x:=of_decide_eq_false ap.2;clear ap;go_wp2;go_round
    case rel=>exact ⟨i + 1,hlt,by go_num,fun j hj=>by
     by_cases e:j<i
     ·exact U.out j e
     ·obtain rfl:j=i:=by omega
      rw [HX.out];unfold xh;simp;omega⟩
    case measure=>simp[intOf];omega
   ·obtain rfl:i=costs.length:=by omega
    clear V;go_wp2_with fail;refine(O4.out a2 u).mono ?_;rintro e au ⟨rfl,o⟩;have HF:Hid (zB w au):=a6.out.trans ((zT u o).mono a6.out.size);clear o;go_wp2;go_ret;exact⟨rfl,HF.out⟩
theorem sbest_any(s:ByteArray)(now:Nat)(hnow:now<18446744073709551616)(costs:List Int)(sa:Option Addr)(cap:Nat)(w:World)(hw:Lw w)(hF:yu w)(ad:Addr)(kc:Nat)(hK:xg w ad kc)(hI:qe w sa costs):zR 3 #[s,.int .u64 now,.slice sa costs.length cap] w (.bool true):=by
 cases h:Zu s with
 |none=>exact zgx s now costs sa cap w hw hF ad kc hK h
 |some r=>exact zj4 s now hnow costs sa cap w hw hF ad kc hK hI r.1 r.2 h
end Bd
section
open Go.ChangeShapes Go.WideShapes Go.ChangeAt Go.RowKit
theorem own:ownKnob Tryz.prog.godebug=none:=by kernel_rfl
theorem zkE:Tryz.prog.globalNamed "errors.errorType"=some 3:=by kernel_rfl
theorem zij:(Tryz.prog.cutTypes.find? (·.1 == "internal/reflectlite.rtype")).map (·.2)=some 262:=by kernel_rfl
theorem zkm:((List.range 394).filter fun t=>Tryz.prog.rowNamed t [101,114,114,111,114])=[33]:=by kernel_rfl
theorem zhp:Tryz.prog.types.size=394:=by kernel_rfl
theorem zoy{W:World}{l:List (String × DataW Unit)}(h:laidMetH Tryz.prog l W)(hk:(l.filter fun x=>x.1 == "errors.errorType")=[("errors.errorType",Rows.laid_errors_errorType)]):yU W:=by
 have h2:=h.filter fun x=>x.1 == "errors.errorType";rw[hk] at h2;have h3:laidMet Tryz.prog [] W/\handlesMet Tryz.prog [("errors.errorType",Rows.laid_errors_errorType)] W:=h2;obtain⟨name,u,ty,e1,e2,e3,e4,e5⟩:=h3.2 _ (List.mem_singleton.2 rfl);have en:name=[101,114,114,111,114]:=(Option.some.inj e1).symm;subst en;obtain rfl:=Option.some.inj (zij.symm.trans e2);have hm:ty∈(List.range 394).filter fun t=>Tryz.prog.rowNamed t [101,114,114,111,114]:=List.mem_filter.2 ⟨List.mem_range.2 (by rw[<-zhp];exact e3),e4⟩;rw[zkm] at hm;obtain rfl:=List.mem_singleton.1 hm;have hh:typeHandle Tryz.prog 33=.pointer (some ⟨12,33,none⟩):=by kernel_rfl
 rw[hh] at e5;have h6:=World.var?_cell zkE e5 0;unfold yU;simpa using h6
def ZL(cs:Array Value):Obj->Obj
 |.cells _ t frozen=>.cells cs t frozen
 |o=>o
end
section
open Go.ChangeShapes Go.WideShapes Go.ChangeAt Go.RowKit Go.Shelf
theorem zif:Tryz.prog.globalNamed "internal/strconv.uint64pow10"=some 9:=by kernel_rfl
theorem zkP:(Tryz.prog.globals[9]?).map (·.type)=some 354:=by kernel_rfl
theorem ziT:Tryz.prog.cellsOf 354=20:=by kernel_rfl
theorem zpO:Tryz.prog.cellsOf 314=1:=by kernel_rfl
theorem zdT:Tryz.prog.globalNamed "strconv.ErrSyntax"=some 7:=by kernel_rfl
theorem zoE:(Tryz.prog.globals[7]?).map (·.type)=some 33:=by kernel_rfl
theorem zfM:Tryz.prog.globalNamed "strconv.ErrRange"=some 8:=by kernel_rfl
theorem zgl:(Tryz.prog.globals[8]?).map (·.type)=some 33:=by kernel_rfl
theorem zez:Tryz.prog.cellsOf 362=1:=by kernel_rfl
theorem Jo:Tryz.prog.cellsOf 9=1:=by kernel_rfl
theorem ze8 : "*" ++ "errors.errorString" = "*errors.errorString":=by decide
theorem zfO(u:TypeId)(h:Tryz.prog.typeName? 3 u=some "*errors.errorString"):u=360 :=
 typeName_ptr_named (nm := "errors.errorString") (by rw[ze8];kernel_rfl) (by kernel_rfl) (by decide) u (by rw[ze8];exact h)
theorem zkB{W:World}{l:List (String × DataW Unit)}(h:laidMetH Tryz.prog l W)(hk:(l.filter fun x=>x.1 == "internal/strconv.uint64pow10")=[("internal/strconv.uint64pow10",Lib.tabData .u64 Lib.pow10Tab)]):Lib.TabIs Tryz.prog W "internal/strconv.uint64pow10" .u64 Lib.pow10Tab:=by
 have h2:=h.filter fun x=>x.1 == "internal/strconv.uint64pow10";rw[hk] at h2;have h3:laidMet Tryz.prog [("internal/strconv.uint64pow10",Lib.tabData .u64 Lib.pow10Tab)] W:=h2;exact Lib.tabIs_of_head (rest:=[]) zif zkP Tryz.underlying354 Tryz.underlying314 zpO ziT h3
theorem zor{W:World}{l:List (String × DataW Unit)}(h:laidMetH Tryz.prog l W)(hk:(l.filter fun x=>x.1 == "strconv.ErrSyntax")=[("strconv.ErrSyntax",Rows.laid_strconv_ErrSyntax)]):∃ev,W.cell? ⟨7,0,none⟩=some ev/\(ev=.nilIface\/∃te pe,ev=.iface te pe):=by
 have h2:=h.filter fun x=>x.1 == "strconv.ErrSyntax";rw[hk] at h2;have h3:laidMet Tryz.prog [("strconv.ErrSyntax",Rows.laid_strconv_ErrSyntax)] W:=h2;obtain⟨a0,s0,j,-,-,-⟩:=laid_sentinel h3 zdT zoE Tryz.underlying33 zfO Tryz.underlying360 Tryz.underlying362 rfl rfl Tryz.underlying9 zez Jo;exact⟨_,by have h0:=World.var?_cell zdT j 0;simpa using h0,.inr ⟨_,_,rfl⟩⟩
theorem zlp{W:World}{l:List (String × DataW Unit)}(h:laidMetH Tryz.prog l W)(hk:(l.filter fun x=>x.1 == "strconv.ErrRange")=[("strconv.ErrRange",Rows.laid_strconv_ErrRange)]):∃ev,W.cell? ⟨8,0,none⟩=some ev/\(ev=.nilIface\/∃te pe,ev=.iface te pe):=by
 have h2:=h.filter fun x=>x.1 == "strconv.ErrRange";rw[hk] at h2;have h3:laidMet Tryz.prog [("strconv.ErrRange",Rows.laid_strconv_ErrRange)] W:=h2;obtain⟨a0,s0,j,-,-,-⟩:=laid_sentinel h3 zfM zgl Tryz.underlying33 zfO Tryz.underlying360 Tryz.underlying362 rfl rfl Tryz.underlying9 zez Jo;exact⟨_,by have h0:=World.var?_cell zfM j 0;simpa using h0,.inr ⟨_,_,rfl⟩⟩
theorem zmh{W:World}(h:W.ShapedOpen Tryz.prog):∃n,W.cell? ⟨4,0,none⟩=some (.int .i64 n) :=
 cell_of_shapedOpen_int (zero:=#[.int .i64 0]) (t:=3) h (of_decide_eq_true (by kernel_rfl)) (by kernel_rfl) rfl (by kernel_rfl) (by kernel_rfl) Tryz.underlying3
theorem ziW{W:World}(h:W.ShapedOpen Tryz.prog):12<=W.heap.size:=by
 obtain⟨o,_,ho,_⟩:=h.2 12 (of_decide_eq_true (by kernel_rfl)) (of_decide_eq_true (by kernel_rfl));have:=(Array.getElem?_eq_some_iff.1 ho).1;omega
theorem zqb{W:World}{l:List (String × DataW Unit)}(h:laidMetH Tryz.prog l W)(hs:W.ShapedOpen Tryz.prog)
  (k1:(l.filter fun x=>x.1 == "internal/strconv.uint64pow10")=[("internal/strconv.uint64pow10",Lib.tabData .u64 Lib.pow10Tab)])
  (k2:(l.filter fun x=>x.1 == "strconv.ErrSyntax")=[("strconv.ErrSyntax",Rows.laid_strconv_ErrSyntax)])
  (k3:(l.filter fun x=>x.1 == "strconv.ErrRange")=[("strconv.ErrRange",Rows.laid_strconv_ErrRange)])
  (k4:(l.filter fun x=>x.1 == "errors.errorType")=[("errors.errorType",Rows.laid_errors_errorType)]):Lb W :=
 ⟨zmh hs,zor h k2,zlp h k3,zkB h k1,zoy h k4,ziW hs⟩
def zdi:DataW Unit->List Value
 |.lit (.int k z)=>[.int k z]
 |_=>[undef]
def zhf:DataW Unit->List Value
 |.agg l=>l.flatMap zdi
 |d=>zdi d
def XQ:DataW Unit->Array Value
 |.agg l=>(l.flatMap zhf).toArray
 |_=>#[]
end
section
open Go.ChangeShapes Go.WideShapes Go.ChangeAt Go.RowKit Go.Shelf
theorem zah:Tryz.prog.globalNamed "solspace/solspaceref.Fine"=some 0:=by kernel_rfl
theorem zo5:(Tryz.prog.globals[0]?).map (·.type)=some 50:=by kernel_rfl
theorem zk8:Tryz.prog.cellsOf 3=1:=by kernel_rfl
theorem zpZ:Tryz.prog.cellsOf 42=1:=by kernel_rfl
theorem zpa:Tryz.prog.cellsOf 50=2:=by kernel_rfl
theorem zp2{W:World}{l:List (String × DataW Unit)}(h:laidMetH Tryz.prog l W)(hk:(l.filter fun x=>x.1 == "solspace/solspaceref.Fine")=[("solspace/solspaceref.Fine",Rows.laid_solspace_solspaceref_Fine)]):yu W:=by
 have h2:=h.filter fun x=>x.1 == "solspace/solspaceref.Fine";rw[hk] at h2;have h3:laidMet Tryz.prog [("solspace/solspaceref.Fine",Rows.laid_solspace_solspaceref_Fine)] W:=h2;obtain⟨ps,⟨g',t',cs,o,p,q,u,y,j,hd,_,_⟩,_⟩:=h3;obtain rfl:=Option.some.inj (zah.symm.trans u);obtain rfl:=Option.some.inj (zo5.symm.trans y);obtain⟨y0,y1,n,hx,hl,g0,g1⟩:=trod_struct2 Tryz.underlying50 hd;rw[zpa] at hl;obtain⟨cs⟩:=cs;simp only at hl g0 g1
 match cs,hl with
 |[v0,v1],_ =>
  simp[zpZ,zk8] at g0 g1;obtain⟨z0,e0,x0,-⟩:=DataW.trod_int Tryz.underlying42 g0;obtain⟨z1,e1,x1,-⟩:=DataW.trod_int Tryz.underlying3 g1;simp at e0 e1;subst e0 e1 x0 x1;simp[Rows.laid_solspace_solspaceref_Fine] at hx;obtain⟨⟨rfl,rfl⟩,-⟩:=hx;have h0:W.cell? ⟨0,0,none⟩=some (.int .i64 0):=by have:=World.var?_cell zah j 0;simpa using this
  exact⟨h0,by have:=World.var?_cell zah j 1;simpa using this,World.block_lt_of_cell? _ _ h0⟩
end
section
open Go.ChangeShapes Go.WideShapes Go.ChangeAt Go.RowKit Go.Shelf
theorem zdL:Tryz.prog.globalNamed "solspace/catalog.words"=some 2:=by kernel_rfl
theorem zmI:(Tryz.prog.globals[2]?).map (·.type)=some 204:=by kernel_rfl
theorem zgh:Tryz.prog.cellsOf 204=5:=by kernel_rfl
theorem zkN{H:Type}{enc:TypeId × Value->H}{P:Program}{w:World}{base:Nat}{sp:Nat->Bool}{held:Bool}{fuel:Nat}{t e:TypeId}{n:Nat}{cs:List Value}{zs:List ByteArray}{p:List MemPlace}
  (ht:P.underlying t=some (.array n e)) (he:P.underlying e=some .string) (hce:P.cellsOf e=1) (hct:P.cellsOf t=n)
  (h:DataW.trod enc P w base sp held fuel t cs=some (.agg (zs.map fun z=>.lit (.string z.data.toList)),p)):cs=zs.map fun z=>Value.string z:=by
 cases fuel with
 |zero=>simp[DataW.trod] at h
 |succ fuel =>
  simp only[DataW.trod,ht,hce,hct,Nat.mul_one] at h;split at h
  ·rename_i hl;obtain⟨xs,hm,hx⟩:=Option.map_eq_some_iff.1 h;have j:xs.map (·.1)=zs.map fun z=>(DataW.lit (.string z.data.toList):DataW H):=by
    have:=congrArg Prod.fst hx;simpa using this
   have q:xs.length=n:=by simpa using Lib.mapM_length hm
   have u:zs.length=n:=by
    have:=congrArg List.length j;simp at this;omega
   apply List.ext_getElem?;intro i
   by_cases hi:i<n
   ·obtain⟨b,hb,hf⟩:=Lib.mapM_at hm i i (by simp[hi]);obtain⟨z,hc,rfl,_⟩:=DataW.trod_string he hf;have h1:cs[i]?=some (.string z):=by
     have:=congrArg (·[0]?) hc;simpa[List.getElem?_take,List.getElem?_drop] using this
    have h2:(xs.map (·.1))[i]?=some (DataW.lit (.string z.data.toList):DataW H):=by simp[hb]
    rw[j] at h2;simp only[List.getElem?_map,Option.map_eq_some_iff,DataW.lit.injEq,Lit.string.injEq] at h2;obtain⟨z',o,e⟩:=h2;obtain rfl:z'=z:=ByteArray.ext (Array.toList_inj.1 e);simp[h1,o]
   ·rw[List.getElem?_eq_none (by omega),List.getElem?_eq_none (by simp;omega)]
  ·cases h
theorem zhl{W:World}{l:List (String × DataW Unit)}(h:laidMetH Tryz.prog l W)(hk:(l.filter fun x=>x.1 == "solspace/catalog.words")=[("solspace/catalog.words",Rows.laid_solspace_catalog_words)]):Z9 W:=by
 have h2:=h.filter fun x=>x.1 == "solspace/catalog.words";rw[hk] at h2;have h3:laidMet Tryz.prog [("solspace/catalog.words",Rows.laid_solspace_catalog_words)] W:=h2;obtain⟨ps,⟨g',t',cs,u,p,q,y,C,j,hd,_,_⟩,_⟩:=h3;obtain rfl:=Option.some.inj (zdL.symm.trans y);obtain rfl:=Option.some.inj (zmI.symm.trans C);have o:=zkN (zs:=[⟨#[]⟩,⟨#[112,97,99,107,97,103,101]⟩,⟨#[110,101,101,100,115]⟩,⟨#[99,108,97,115,104,101,115]⟩,⟨#[114,111,111,116]⟩]) Tryz.underlying204 Tryz.underlying9 Jo zgh hd;have H:=fun (i:Nat)=>World.var?_cell zdL j i;obtain⟨cs⟩:=cs;simp only at o;subst o;exact⟨by simpa using H 0,by simpa using H 1,by simpa using H 2,by simpa using H 3,by simpa using H 4⟩
theorem zcq:Tryz.prog.globalNamed "solspace/solspaceref.kinds"=some 1:=by kernel_rfl
theorem zpF:(Tryz.prog.globals[1]?).map (·.type)=some 78:=by kernel_rfl
theorem zpQ{W:World}{l:List (String × DataW Unit)}(h:laidMetH Tryz.prog l W)(hk:(l.filter fun x=>x.1 == "solspace/solspaceref.kinds")=[("solspace/solspaceref.kinds",Rows.laid_solspace_solspaceref_kinds)]):∃ad u,xg W ad u:=by
 have h2:=h.filter fun x=>x.1 == "solspace/solspaceref.kinds";rw[hk] at h2;have h3:laidMet Tryz.prog [("solspace/solspaceref.kinds",Rows.laid_solspace_solspaceref_kinds)] W:=h2;obtain⟨ps,⟨g',t',cs,K,p,q,M,U,J,hd,_,_⟩,_⟩:=h3;obtain rfl:=Option.some.inj (zcq.symm.trans M);obtain rfl:=Option.some.inj (zpF.symm.trans U);have H:=World.var?_cell zcq J 0;rcases Go.Deep.open_slice1 Tryz.underlying78 Jo hd with ⟨_,hx⟩|⟨a,len,u,m,n,V,D,Pl,y,hb,hl,hm,R,hx,hc⟩
 ·simp[Rows.laid_solspace_solspaceref_kinds] at hx
 ·have h1:=congrArg Prod.fst hx;simp only[Rows.laid_solspace_solspaceref_kinds,DataW.slice.injEq] at h1;obtain⟨h1,Y⟩:=h1;have C:len=5:=by have:=congrArg List.length h1;simpa using this.symm
  subst C;have Z:5<=m:=by rw[R];split<;>omega
  have hD:∀j,j<5->D j=.lit (.string (wl j)):=fun j hj=>by
   have:=congrArg (·[j]?) h1;simp only[List.getElem?_map] at this
   match j,hj with
   |0,_=>simpa[wl] using this.symm
   |1,_=>simpa[wl] using this.symm
   |2,_=>simpa[wl] using this.symm
   |3,_=>simpa[wl] using this.symm
   |4,_=>simpa[wl] using this.symm
  have o:∀j,j<5->W.cell? (a.add j)=some (.string ⟨(wl j).toArray⟩):=fun j hj=>by
   obtain⟨z,hz,X,_⟩:=DataW.trod_string Tryz.underlying9 (hc j (by omega)).2;rw[(hc j (by omega)).1];have e1:V j=.string z:=by simpa using hz
   rw[e1];have e2:z.data.toList=wl j:=by
    have h7:=hD j hj;have h8:=congrArg Prod.fst X;simp only at h8;rw[h8] at h7;simpa using h7
   rw[Xa e2]
  refine⟨a,u,?_,o,?_,?_⟩
  ·obtain⟨cs⟩:=cs;simp only at y;subst y;simpa using H
  ·have h0:W.cell? ⟨1,0,none⟩=some (.slice (some a) 5 u):=by
    obtain⟨cs⟩:=cs;simp only at y;subst y;simpa using H
   exact World.block_lt_of_cell? _ _ h0
  ·have:=World.block_lt_of_cell? _ _ (o 0 (by omega))
   rwa [Zt] at this
noncomputable def zbR(os:Os):World :=
 let w0:=World.holding Tryz.prog os ⟨#[.cells #[.string ⟨#[118,97,108,117,101,32,111,117,116,32,111,102,32,114,97,110,103,101]⟩] 362,.cells #[.string ⟨#[105,110,118,97,108,105,100,32,115,121,110,116,97,120]⟩] 362,.cells #[.string ⟨#[]⟩,.string ⟨#[112,97,99,107,97,103,101]⟩,.string ⟨#[110,101,101,100,115]⟩,.string ⟨#[99,108,97,115,104,101,115]⟩,.string ⟨#[114,111,111,116]⟩] 9],#[],[]⟩
 { w0 with heap:=((((((((((w0.heap.modify 3 (ZL #[.iface 262 (.agg #[.pointer (some ⟨12,33,none⟩)])])).modify 7 (ZL #[.iface 360 (.pointer (some ⟨18,0,none⟩))])).modify 8 (ZL #[.iface 360 (.pointer (some ⟨17,0,none⟩))])).modify 9 (ZL (XQ Rows.laid_internal_strconv_uint64pow10))).modify 5 (ZL (XQ Rows.laid_unicode_utf8_first))).modify 6 (ZL (XQ Rows.laid_unicode_utf8_acceptRanges))).modify 10 (ZL (XQ Rows.laid_math_bits_deBruijn32tab))).modify 11 (ZL (XQ Rows.laid_math_bits_deBruijn64tab))).modify 2 (ZL #[.string ⟨#[]⟩,.string ⟨#[112,97,99,107,97,103,101]⟩,.string ⟨#[110,101,101,100,115]⟩,.string ⟨#[99,108,97,115,104,101,115]⟩,.string ⟨#[114,111,111,116]⟩])).modify 0 (ZL #[(0:Int),.int .i64 (-1)])).modify 1 (ZL #[.slice (some ⟨19,0,none⟩) 5 5]) }
end
end Go.Proofs.YthifnefkdjkicaaGreatDoor
