/- All installations, in their order: plain. -/
import Derived.Test.YtiihalknffbjpaaGreatDoorWyBest
import Derived.Shelf.Strconv.AppendInt10
namespace Go.Proofs.YtiihalknffbjpaaGreatDoor
set_option maxHeartbeats 4000000
set_option maxRecDepth 100000
namespace Bd
open Go.RowKit Go.Maps Go.Deep
def Wy.best(x:Wy):Value:=.tuple (if x.can then #[.int .u64 x.items,.nilIface] else #[.int .u64 0,.iface 57 (.int .i64 8)])
section
variable {B p s b:Nat} {O:Nat->Prop} {vars:Nat} {room:Int} {st:List Nd × Int} {F:FuncId} {cb:Array Value} {C:zcq} {w:World}
theorem zdy.new{W0 W1:World}(h:zdy W0 F cb C vars)(hb:zB W0 W1):zdy W1 F cb C vars:=fun W i bb hW hi=>h W i bb (zT hb hW) hi
theorem zqu(hsol:ze0 B w p s b O vars room st)(hg:zcI vars st.1)(hl:st.1.length<=90000)(h24:vars<=24)(hent:∀args w,(callFunc F args).run Tryz.prog w=.ok (.enter F args) w)(hcok:zc9 C)(hcat:zdy w F cb C vars)(hh:zaV st.1 st.2=true) :
  zC 84 #[.pointer (some ⟨p,0,none⟩),.func (.func F) #[] cb] w fun e w'=>e=.returned (zaA C vars st.1 st.2 0).best/\zB w w':=by
 have HWH:=zH (zn4 hsol hl hh);have HCH:Hid (∀W,zB w W->zC 171 #[.pointer (some ⟨p,0,none⟩),.func (.func F) #[] cb] W fun e w'=>e=.returned (zaA C vars st.1 st.2 0).val/\zB W w'):=fun W hW=>zmh (hsol.new hW) hg hl h24 hent hcok (hcat.new hW) hh;clear hsol hg hcat hh hent hcok;generalize zaA C vars st.1 st.2 0=R at *;obtain⟨ri,rc,rb⟩:=R;unfold Wy.val at HCH;unfold Wy.best;go_enter Tryz.func84,Tryz.ntmps84;go_wp2_with fail;refine HWH.out.mono ?_;rintro e w2 ⟨rfl,hb2⟩;clear HWH;go_wp2_with fail;refine(HCH.out _ hb2).mono ?_;rintro e w4 ⟨rfl,hb4⟩;have kb:=Blk.new w4 279 #[.int .u64 ri,.int .i64 rc,.bool rb];have q0:=kb.cell 0;have q2:=kb.cell 2;have HB:Hid (zB w (w4.alloc (.cells #[.int .u64 ri,.int .i64 rc,.bool rb] 279))):=(zT hb2 hb4).alloc (Nat.le_trans hb2.size hb4.size) _;clear kb hb2 hb4 HCH;go_upto_region 5 with fail;generalize w4.alloc (.cells #[.int .u64 ri,.int .i64 rc,.bool rb] 279)=W5 at *;cases rb with
 |false =>go_wp2;go_ret2;exact⟨rfl,HB.out⟩
 |true =>go_wp2;go_ret2;exact⟨rfl,HB.out⟩
def zg7:zcq:=fun _ b=>zqx b
theorem ziv(x:Bool):0<=zqx x/\zqx x<=1000000:=by unfold zqx;split<;>omega
theorem zm9:∀args w,(callFunc 85 args).run Tryz.prog w=.ok (.enter 85 args) w:=by intro args w;kernel_rfl
theorem zq6(i:Int)(bb:Bool)(w:World):zR 85 #[.int .i64 i,.bool bb] w (.int .i64 (zqx bb)):=by
 have HO:=zH (zvu bb w);go_enter Tryz.func85,Tryz.ntmps85;go_wp2_with fail;refine HO.out.mono ?_;rintro e w1 ⟨rfl,rfl⟩;go_wp2;go_ret;exact⟨rfl,Below.refl _ _⟩
theorem zuc(hsol:ze0 B w p s b O vars room st)(hg:zcI vars st.1)(hl:st.1.length<=90000)(h24:vars<=24)(hh:zaV st.1 st.2=true) :
  zC 27 #[.pointer (some ⟨p,0,none⟩)] w fun e w'=>e=.returned (zaA zg7 vars st.1 st.2 0).best/\zB w w':=by
 have HS:=zH (zqu (F:=85) (cb:=#[]) (C:=zg7) hsol hg hl h24 zm9 (fun _ b=>ziv b) (fun W i bb _ _=>zq6 i bb W) hh);clear hsol hg hh;generalize zaA zg7 vars st.1 st.2 0=R at *;obtain⟨ri,rc,rb⟩:=R;unfold Wy.best at *;cases rb with
 |false =>go_enter Tryz.func27,Tryz.ntmps27;go_wp2_with fail;refine HS.out.mono ?_;rintro e w1 ⟨rfl,hb⟩;have HB:=zH hb;clear HS hb;go_wp2;go_ret2;exact⟨rfl,HB.out⟩
 |true =>go_enter Tryz.func27,Tryz.ntmps27;go_wp2_with fail;refine HS.out.mono ?_;rintro e w1 ⟨rfl,hb⟩;have HB:=zH hb;clear HS hb;go_wp2;go_ret2;exact⟨rfl,HB.out⟩
def zgF(now:Nat):zcq:=fun i b=>zqx (b != now.testBit i)
theorem zn8:∀args w,(callFunc 87 args).run Tryz.prog w=.ok (.enter 87 args) w:=by intro args w;kernel_rfl
theorem zu7(now i:Nat)(bb:Bool)(a:Nat)(w:World)(hi:i<64)(hnow:now<2^64)(ha:w.cell? ⟨a,0,none⟩=some (.int .u64 now)):zR 87 #[.int .i64 i,.bool bb,.pointer (some ⟨a,0,none⟩)] w (.int .i64 (zgF now i bb)):=by
 have HO:=zH (zvu (bb != now.testBit i) w);have hs:=zeM now i (by omega);have hR:(!(bb==now.testBit i))=(bb != now.testBit i):=rfl;unfold zgF;go_enter Tryz.func87,Tryz.ntmps87;go_wp2_with fail;refine HO.out.mono ?_;rintro e w1 ⟨rfl,rfl⟩;go_wp2;go_ret;exact⟨rfl,Below.refl _ _⟩
theorem zpF(now vars:Nat)(hv:vars<=24)(hnow:now<2^64){a:Nat}{W0:World}(ha:a<W0.heap.size)(ca:W0.cell? ⟨a,0,none⟩=some (.int .u64 now)):zdy W0 87 #[.pointer (some ⟨a,0,none⟩)] (zgF now) vars:=fun W j bb hW hj =>
 zu7 now j bb a W (by omega) hnow ((hW.cell (p:=⟨a,0,none⟩) ha).trans ca)
theorem zvm(hsol:ze0 B w p s b O vars room st)(hg:zcI vars st.1)(hl:st.1.length<=90000)(h24:vars<=24)(hh:zaV st.1 st.2=true)(now:Nat)(hnow:now<2^64) :
  zC 28 #[.pointer (some ⟨p,0,none⟩),.int .u64 now] w fun e w'=>e=.returned (zaA (zgF now) vars st.1 st.2 0).best/\zB w w':=by
 have hbA:=Go.Proofs.YtiihalknffbjpaaGreatDoor.below_new w (.cells #[.int .u64 now] 48);have HS:=zH (zqu (F:=87) (cb:=#[.pointer (some ⟨w.heap.size,0,none⟩)]) (C:=zgF now) (hsol.new hbA) hg hl h24 zn8 (fun i b=>ziv _) (zpF now vars h24 hnow (by simp) (by simp)) hh);have HBA:=zH hbA;clear hsol hg hh hbA;generalize zaA (zgF now) vars st.1 st.2 0=R at *;obtain⟨ri,rc,rb⟩:=R;unfold Wy.best at *;cases rb with
 |false =>go_enter Tryz.func28,Tryz.ntmps28;go_wp2_with fail;refine HS.out.mono ?_;rintro e w1 ⟨rfl,hb⟩;have HB:Hid (zB w w1):=zT HBA.out hb;clear HS hb HBA;go_wp2;go_ret2;exact⟨rfl,HB.out⟩
 |true =>go_enter Tryz.func28,Tryz.ntmps28;go_wp2_with fail;refine HS.out.mono ?_;rintro e w1 ⟨rfl,hb⟩;have HB:Hid (zB w w1):=zT HBA.out hb;clear HS hb HBA;go_wp2;go_ret2;exact⟨rfl,HB.out⟩
end
end Bd
section
open Go.RowKit Go.Deep
theorem zrV(F:Nat)(cb:Array Value)(p:Int->Bool)(xs:List Int)(a:Option Addr)(cap:Nat)(w:World)(hm:xs.length<=9223372036854775807)
  (hent:∀args w,(callFunc F args).run Tryz.prog w=.ok (.enter F args) w) (hI:zaN w a xs)
  (hf:∀W i,zB w W->i<xs.length->zR F (#[.int .i64 (xs.getD i 0)]++cb) W (.bool (p (xs.getD i 0)))) :
  zR 173 #[.slice a xs.length cap,.func (.func F) #[] cb] w (.int .i64 (znN p xs)):=by
 have HF:=zH hf;have HI:=zH hI;clear hf hI;go_enter Tryz.func173,Tryz.ntmps173;go_wp2_with fail;go_loopw [8] (fun kV wr=>∃k:Nat,k<=xs.length/\kV=.int .i64 k/\(∀j,j<k->p (xs.getD j 0)=false)/\zB w wr) (fun kV _=>xs.length-(intOf kV).toNat)
 case atStart=>exact⟨0,Nat.zero_le _,rfl,fun j h=>by omega,Below.refl _ _⟩
 case round =>
  obtain⟨k,hk,rfl,h1,hbr⟩:=hrel;have H1:=zH h1;have HBR:=zH hbr;clear h1 hbr
  by_cases hlt:k<xs.length
  ·obtain⟨ad,rfl,hl,hc⟩:=HI.out.below HBR.out k hlt;have HC:=zH (HF.out wr k HBR.out hlt);cases hp:p (xs.getD k 0) with
   |true =>rw[hp] at HC;have HP:=zH hp;clear hp;generalize hx:xs.getD k 0=x at *;have HX:=zH hx;clear hx;go_wp2_with fail;refine HC.out.mono ?_;rintro e w1 ⟨rfl,hb1⟩;have HB1:Hid (zB w w1):=zT HBR.out hb1;clear hb1 HC;go_wp2;go_ret;exact⟨by rw[zip H1.out hlt (by rw[HX.out];exact HP.out)];rfl,HB1.out⟩
   |false =>
    rw[hp] at HC;have HP:=zH hp;clear hp;generalize hx:xs.getD k 0=x at *;have HX:=zH hx;clear hx;go_wp2_with fail;refine HC.out.mono ?_;rintro e w1 ⟨rfl,hb1⟩;have HB1:Hid (zB w w1):=zT HBR.out hb1;clear hb1 HC;go_wp2;go_roundw
    case rel=>exact ⟨k + 1,hlt,by go_num,fun j hj=>(by
     rcases Nat.lt_succ_iff_lt_or_eq.1 hj with e|e
     ·exact H1.out j e
     ·rw [e,HX.out];exact HP.out),HB1.out⟩
    case measure=>simp[intOf];omega
  ·obtain rfl:k=xs.length:=by omega
   go_wp2;go_ret;exact⟨by rw[zgA H1.out];rfl,HBR.out⟩
theorem zro(F:Nat)(cb:Array Value)(p:Int->Bool)(xs:List Int)(a:Option Addr)(cap:Nat)(w:World)(hm:xs.length<=9223372036854775807)
  (hent:∀args w,(callFunc F args).run Tryz.prog w=.ok (.enter F args) w) (hI:zaN w a xs)
  (hf:∀W i,zB w W->i<xs.length->zR F (#[.int .i64 (xs.getD i 0)]++cb) W (.bool (p (xs.getD i 0)))) :
  zR 89 #[.slice a xs.length cap,.func (.func F) #[] cb] w (.bool (xs.any p)):=by
 have H:=zH (zrV F cb p xs a cap w hm hent hI hf);clear hf hI hent;rw[<-ziA];generalize znN p xs=i at *;go_enter Tryz.func89,Tryz.ntmps89;go_wp2_with fail;refine H.out.mono ?_;rintro e w1 ⟨rfl,hb1⟩;have HB1:=zH hb1;clear hb1 H;go_wp2;go_ret;exact⟨by first|rfl|simp,HB1.out⟩
end
namespace Bd
open Go.RowKit Go.Maps Go.Deep
def zjD(x:Int):Bool:=decide (x<0)||decide (1000000<x)
theorem zmX:∀args w,(callFunc 90 args).run Tryz.prog w=.ok (.enter 90 args) w:=by intro args w;kernel_rfl
theorem zmC:∀args w,(callFunc 91 args).run Tryz.prog w=.ok (.enter 91 args) w:=by intro args w;kernel_rfl
theorem zra(x:Int)(w:World):zR 90 #[.int .i64 x] w (.bool (zjD x)):=by
 unfold zjD
 by_cases h:x<0
 ·rw[decide_eq_true h];go_enter Tryz.func90,Tryz.ntmps90;go_wp2;go_ret;exact⟨rfl,Below.refl _ _⟩
 ·rw[decide_eq_false h];go_enter Tryz.func90,Tryz.ntmps90;go_wp2;go_ret;exact⟨by simp,Below.refl _ _⟩
def zdb(costs:List Int):zcq:=fun i b=>if b=true/\i<costs.length then costs.getD i 0 else 0
theorem zjp{costs:List Int}(h:costs.any zjD=false):zc9 (zdb costs):=by
 intro i b;unfold zdb;split
 ·rename_i q;have:=List.any_eq_false.1 h (costs.getD i 0) (by rw[List.getD_eq_getElem?_getD,List.getElem?_eq_getElem q.2];exact List.getElem_mem q.2);unfold zjD at this;generalize costs.getD i 0=x at this ⊢;simp at this;omega
 ·omega
theorem zrA(costs:List Int)(i:Nat)(bb:Bool)(a:Nat)(sa:Option Addr)(cap:Nat)(w:World)(hi:i<64)(ha:w.cell? ⟨a,0,none⟩=some (.slice sa costs.length cap))(hI:zaN w sa costs):zR 91 #[.int .i64 i,.bool bb,.pointer (some ⟨a,0,none⟩)] w (.int .i64 (zdb costs i bb)):=by
 unfold zdb;cases bb with
 |false =>rw[if_neg (by simp)];clear hI;go_enter Tryz.func91,Tryz.ntmps91;go_wp2;go_ret;exact⟨rfl,Below.refl _ _⟩
 |true =>
  by_cases hlt:i<costs.length
  ·rw[if_pos ⟨rfl,hlt⟩];obtain⟨ad,rfl,had,cA⟩:=hI i hlt;generalize costs.getD i 0=x at *;have h0:(0:Int)<=(i:Int):=by omega
   have h1:(i:Int)<(costs.length:Int):=by omega
   obtain⟨ab,ao,asp⟩:=ad;clear hI had;go_enter Tryz.func91,Tryz.ntmps91;go_wp2;go_ret;exact⟨rfl,Below.refl _ _⟩
  ·rw[if_neg (fun e=>hlt e.2)];have h1:¬(i:Int)<(costs.length:Int):=by omega
   clear hI;go_enter Tryz.func91,Tryz.ntmps91;go_wp2;go_ret;exact⟨rfl,Below.refl _ _⟩
theorem zmH(costs:List Int)(vars:Nat)(hv:vars<=24){a:Nat}{sa:Option Addr}{cap:Nat}{W0:World}(ha:a<W0.heap.size)(ca:W0.cell? ⟨a,0,none⟩=some (.slice sa costs.length cap))(hI:zaN W0 sa costs):zdy W0 91 #[.pointer (some ⟨a,0,none⟩)] (zdb costs) vars:=fun W j bb hW hj =>
 zrA costs j bb a sa cap W (by omega) ((hW.cell (p:=⟨a,0,none⟩) ha).trans ca) (hI.below hW)
section
variable {B p s b:Nat} {O:Nat->Prop} {vars:Nat} {room:Int} {st:List Nd × Int} {w:World}
def zlv(vars:Nat)(st:List Nd × Int)(costs:List Int):Value:=if costs.any zjD then .tuple #[.int .u64 0,.iface 57 (.int .i64 2)] else (zaA (zdb costs) vars st.1 st.2 0).best
theorem ztK(hsol:ze0 B w p s b O vars room st)(hg:zcI vars st.1)(hl:st.1.length<=90000)(h24:vars<=24)(hh:zaV st.1 st.2=true)(costs:List Int)(hm:costs.length<=1000000)(sa:Option Addr)(cap:Nat)(hI:zaN w sa costs) :
  zR 31 #[.pointer (some ⟨p,0,none⟩),.slice sa costs.length cap] w (zlv vars st costs):=by
 have hbA:=Go.Proofs.YtiihalknffbjpaaGreatDoor.below_new w (.cells #[.slice sa costs.length cap] 47);have hca:(w.alloc (.cells #[.slice sa costs.length cap] 47)).cell? ⟨w.heap.size,0,none⟩=some (.slice sa costs.length cap):=by simp
 have HWH:=zH (zn4 (hsol.new hbA) hl hh);have HIA:=zH (hI.below hbA);have HCF:Hid (∀W,Below (w.alloc (.cells #[.slice sa costs.length cap] 47)).heap.size (w.alloc (.cells #[.slice sa costs.length cap] 47)) W->zR 89 #[.slice sa costs.length cap,.func (.func 90) #[] #[]] W (.bool (costs.any zjD))):=fun W hW=>zro 90 #[] zjD costs sa cap W (by omega) zmX (HIA.out.below hW) (fun W' i _ _=>zra (costs.getD i 0) W');have HBS:Hid (costs.any zjD=false->∀W,Below (w.alloc (.cells #[.slice sa costs.length cap] 47)).heap.size (w.alloc (.cells #[.slice sa costs.length cap] 47)) W->zC 84 #[.pointer (some ⟨p,0,none⟩),.func (.func 91) #[] #[.pointer (some ⟨w.heap.size,0,none⟩)]] W fun e w'=>e=.returned (zaA (zdb costs) vars st.1 st.2 0).best/\zB W w'):=fun hok W hW =>
  zqu (F:=91) (cb:=#[.pointer (some ⟨w.heap.size,0,none⟩)]) (C:=zdb costs) ((hsol.new hbA).new hW) hg hl h24 zmC (zjp hok) ((zmH costs vars h24 (by simp) hca HIA.out).new hW) hh
 have HBA:=zH hbA;have HCA:Hid (∀W,Below (w.alloc (.cells #[.slice sa costs.length cap] 47)).heap.size (w.alloc (.cells #[.slice sa costs.length cap] 47)) W->W.cell? ⟨w.heap.size,0,none⟩=some (.slice sa costs.length cap)):=fun W hW=>(hW.cell (p:=⟨w.heap.size,0,none⟩) (by simp)).trans hca;clear hsol hg hh hI HIA hbA hca;unfold zlv;cases hq:costs.any zjD with
 |true =>rw[if_pos rfl];rw[hq] at HCF;clear HBS;go_enter Tryz.func31,Tryz.ntmps31;go_wp2_with fail;refine HWH.out.mono ?_;rintro e w2 ⟨rfl,hb2⟩;clear HWH;have ca:=HCA.out w2 hb2;go_wp2_with fail;refine(HCF.out w2 hb2).mono ?_;rintro e w3 ⟨rfl,hb3⟩;have hb23:=zT hb2 hb3;have HB3:Hid (zB w w3):=zT HBA.out hb23;clear ca HCF HCA hb2 hb3;clear hb23;go_wp2;go_ret2;exact⟨rfl,HB3.out⟩
 |false =>
  rw[if_neg (by simp)];have HBE:=zH (HBS.out hq);rw[hq] at HCF;clear HBS hq;generalize zaA (zdb costs) vars st.1 st.2 0=R at *;obtain⟨ri,rc,rb⟩:=R;unfold Wy.best at *;go_enter Tryz.func31,Tryz.ntmps31;go_wp2_with fail;refine HWH.out.mono ?_;rintro e w2 ⟨rfl,hb2⟩;clear HWH;have ca:=HCA.out w2 hb2;go_wp2_with fail;refine(HCF.out w2 hb2).mono ?_;rintro e w3 ⟨rfl,hb3⟩;have hb23:=zT hb2 hb3;have HB3:Hid (zB w w3):=zT HBA.out hb23;clear ca HCF HCA hb2 hb3;go_wp2_with fail;refine(HBE.out w3 hb23).mono ?_;rintro e w4 ⟨rfl,hb4⟩;have HB4:Hid (zB w w4):=zT HB3.out hb4;clear hb4 HBE hb23;cases rb with
  |false =>go_wp2;go_ret2;exact⟨rfl,HB4.out⟩
  |true =>go_wp2;go_ret2;exact⟨rfl,HB4.out⟩
end
end Bd
namespace Bd
open Go.RowKit
def zdp(C:zcq):Nat->Nat->(Nat->Bool)->Int
 |0,_,_=>0
 |k+1,v,f=>C v (f v)+zdp C k (v+1) f
def Agr(k v:Nat)(f f':Nat->Bool):Prop:=∀i,(i<v\/v+k<=i)->f' i=f i
def znB(k v:Nat)(f' f'':Nat->Bool):Prop:=(∀i,v<=i->i<v+k->f' i=f'' i)\/∃j,v<=j/\j<v+k/\f' j=true/\f'' j=false/\∀i,v<=i->i<j->f' i=f'' i
theorem Agr.down{k v:Nat}{f f':Nat->Bool}(h:Agr (k+1) v f f'){b:Bool}(hb:f' v=b):Agr k (v+1) (turn f v b) f':=fun i hi=>by
 by_cases e:i=v
 ·rw[e,zbS,hb]
 ·rw[za6 _ _ e];exact h i (by omega)
theorem Agr.up{k v:Nat}{f f':Nat->Bool}{b:Bool}(h:Agr k (v+1) (turn f v b) f'):Agr (k+1) v f f':=fun i hi=>by
 rw[h i (by omega),za6 _ _ (by omega)]
theorem Agr.at{k v:Nat}{f f':Nat->Bool}{b:Bool}(h:Agr k (v+1) (turn f v b) f'):f' v=b:=by rw[h v (by omega),zbS]
theorem znB.up{k v:Nat}{f' f'':Nat->Bool}(h:znB k (v+1) f' f'')(e:f' v=f'' v):znB (k+1) v f' f'':=by
 rcases h with h|⟨j,h1,h2,h3,h4,h5⟩
 ·left;intro i h1 h2
  by_cases ei:i=v
  ·rw[ei,e]
  ·exact h i (by omega) (by omega)
 ·right;refine⟨j,by omega,by omega,h3,h4,fun i i1 i2=>?_⟩
  by_cases ei:i=v
  ·rw[ei,e]
  ·exact h5 i (by omega) i2
structure zxm(C:zcq)(k v:Nat)(g:Fn')(f:Nat->Bool)(x:Wy):Prop where
 no:x.can=false->∀f',Agr k v f f'->g f'=false
 yes:x.can=true->∃f',Agr k v f f'/\g f'=true/\x.cost=zdp C k v f'/\(∀i,x.items.testBit i=(decide (v<=i/\i<v+k)&&f' i))/\∀f'',Agr k v f f''->g f''=true->x.cost<zdp C k v f''\/x.cost=zdp C k v f''/\znB k v f' f''
theorem zfY(C:zcq):∀(k v:Nat) (g:Fn') (f:Nat->Bool),zxm C k v g f (zd3 C k v g f)
 |0,v,g,f=>by
  have key:∀f',Agr 0 v f f'->f'=f:=fun f' h=>funext fun i=>h i (by omega);unfold zd3;refine⟨fun h f' hf=>by rw[key f' hf];exact h,fun h=>⟨f,fun _ _=>rfl,h,rfl,fun i=>?_,fun f'' hf _=>Or.inr ⟨rfl,Or.inl fun i h1 h2=>by omega⟩⟩⟩;have:decide (v<=i/\i<v+0)=false:=decide_eq_false (by omega);rw[this];simp
 |k+1,v,g,f=>by
  have ho:=zfY C k (v+1) g (turn f v false);have hi:=zfY C k (v+1) g (turn f v true);unfold zd3;generalize zd3 C k (v+1) g (turn f v false)=wo at ho;generalize zd3 C k (v+1) g (turn f v true)=wi at hi
  by_cases hc:wi.can=true/\(wo.can=false\/(wiF C v wi).cost<=(woF C v wo).cost)
  ·have hB:zka C v wo wi=wiF C v wi:=by unfold zka;rw[if_pos hc]
   rw[hB];obtain⟨f',a1,a2,a3,a4,a5⟩:=hi.yes hc.1;have hv:=a1.at
   refine⟨fun h=>absurd (h.symm.trans hc.1) (by simp),fun _=>⟨f',a1.up,a2,?_,fun i=>?_,fun f'' hf hg=>?_⟩⟩
   ·show wi.cost+C v true=C v (f' v)+_;rw[hv,a3];omega
   ·show (wi.items|||2^v).testBit i=_;rw[Nat.testBit_or,Nat.testBit_two_pow,a4 i]
    by_cases e:v=i
    ·subst e;rw[hv];have:decide (v<=v/\v<v+(k+1))=true:=decide_eq_true (by omega);rw[this];simp
    ·have:decide (v+1<=i/\i<v+1+k)=decide (v<=i/\i<v+(k+1)):=by
      by_cases q:v+1<=i/\i<v+1+k
      ·rw[decide_eq_true q,decide_eq_true (by omega)]
      ·rw[decide_eq_false q,decide_eq_false (by omega)]
     rw[this];simp[e]
   ·show wi.cost+C v true<C v (f'' v)+_\/wi.cost+C v true=C v (f'' v)+_/\_;cases hq:f'' v with
    |true =>
     rcases a5 f'' (hf.down hq) hg with h|⟨h,hl⟩
     ·left;omega
     ·right;exact⟨by omega,hl.up (hv.trans hq.symm)⟩
    |false =>
     have hcan:wo.can=true:=by
      cases e:wo.can with
      |true=>rfl
      |false=>exact absurd (hg.symm.trans (ho.no e f'' (hf.down hq))) (by simp)
     have hle:wi.cost+C v true<=wo.cost+C v false:=by
      rcases hc.2 with h|h
      ·exact absurd (h.symm.trans hcan) (by simp)
      ·exact h
     obtain⟨fo,b1,b2,b3,b4,b5⟩:=ho.yes hcan;have hmin:wo.cost<=zdp C k (v+1) f'':=by rcases b5 f'' (hf.down hq) hg with h|⟨h,_⟩<;>omega
     by_cases e:wi.cost+C v true<C v false+zdp C k (v+1) f''
     ·left;exact e
     ·right;exact⟨by omega,Or.inr ⟨v,Nat.le_refl _,by omega,hv,hq,fun i h1 h2=>by omega⟩⟩
  ·have hB:zka C v wo wi=woF C v wo:=by unfold zka;rw[if_neg hc]
   rw[hB];refine⟨fun h f' hf=>?_,fun h=>?_⟩
   ·have hco:wo.can=false:=h;have hci:wi.can=false:=by
     cases e:wi.can with
     |false=>rfl
     |true=>exact absurd ⟨e,Or.inl hco⟩ hc
    cases hq:f' v with
    |true=>exact hi.no hci f' (hf.down hq)
    |false=>exact ho.no hco f' (hf.down hq)
   ·have hco:wo.can=true:=h;obtain⟨f',a1,a2,a3,a4,a5⟩:=ho.yes hco;have hv:=a1.at
    refine⟨f',a1.up,a2,?_,fun i=>?_,fun f'' hf hg=>?_⟩
    ·show wo.cost+C v false=C v (f' v)+_;rw[hv,a3];omega
    ·show wo.items.testBit i=_;rw[a4 i]
     by_cases e:v=i
     ·subst e;rw[hv];simp
     ·have:decide (v+1<=i/\i<v+1+k)=decide (v<=i/\i<v+(k+1)):=by
       by_cases q:v+1<=i/\i<v+1+k
       ·rw[decide_eq_true q,decide_eq_true (by omega)]
       ·rw[decide_eq_false q,decide_eq_false (by omega)]
      rw[this]
    ·show wo.cost+C v false<C v (f'' v)+_\/wo.cost+C v false=C v (f'' v)+_/\_;cases hq:f'' v with
     |false =>
      rcases a5 f'' (hf.down hq) hg with h|⟨h,hl⟩
      ·left;omega
      ·right;exact⟨by omega,hl.up (hv.trans hq.symm)⟩
     |true =>
      left;have hci:wi.can=true:=by
       cases e:wi.can with
       |true=>rfl
       |false=>exact absurd (hg.symm.trans (hi.no e f'' (hf.down hq))) (by simp)
      obtain⟨fi,b1,b2,b3,b4,b5⟩:=hi.yes hci;have hmin:wi.cost<=zdp C k (v+1) f'':=by rcases b5 f'' (hf.down hq) hg with h|⟨h,_⟩<;>omega
      have hlt:¬(wi.cost+C v true<=wo.cost+C v false):=fun e=>hc ⟨hci,Or.inr e⟩;omega
end Bd
namespace Bd
open Go.RowKit Go.Deep Sv
section
variable {B p s b vars:Nat} {O:Nat->Prop} {room:Int} {K:List (List Int)} {w:World}
theorem zib(h12:vars<=12)(hl:zed vars K):ClR vars K (clF K):=by
 have:=zqq h12 K hl K.length zN
 rwa [List.take_length] at this
theorem ztt(h12:vars<=12)(hl:zed vars K):(clF K).1.length<=90000:=by
 have:=(zib h12 hl).len;have:=zgm h12;omega
def zup(vars:Nat)(K:List (List Int)):Nat:=zs5 vars 0 (fun f=>K.all (clS f)) (fun _=>false)
end
end Bd
namespace Bd
open Go.RowKit
theorem zfP(g:Fn'):∀(k v:Nat) (f:Nat->Bool),zs5 k v g f≠0↔∃f':Nat->Bool,(∀i,i<v\/v+k<=i->f' i=f i)/\g f'=true
 |0,v,f=>by
  unfold zs5;constructor
  ·intro h;refine⟨f,fun _ _=>rfl,?_⟩;cases hg:g f with
   |true=>rfl
   |false=>rw[hg] at h;exact absurd rfl h
  ·rintro⟨f',h1,h2⟩;have:f'=f:=funext fun i=>h1 i (by omega);rw[<-this,h2];simp
 |k+1,v,f=>by
  unfold zs5;have h0:=zfP g k (v+1) (turn f v false);have h1:=zfP g k (v+1) (turn f v true);constructor
  ·intro h
   by_cases e:zs5 k (v+1) g (turn f v false)=0
   ·obtain⟨f',a,b⟩:=h1.1 (by omega);exact⟨f',fun i hi=>by rw[a i (by omega),za6 _ _ (by omega)],b⟩
   ·obtain⟨f',a,b⟩:=h0.1 e;exact⟨f',fun i hi=>by rw[a i (by omega),za6 _ _ (by omega)],b⟩
  ·rintro⟨f',a,b⟩;have key:∀i,i<v+1\/v+1+k<=i->f' i=turn f v (f' v) i:=fun i hi=>by
    by_cases e:i=v
    ·rw[e,zbS]
    ·rw[za6 _ _ e];exact a i (by omega)
   cases hv:f' v with
   |false=>rw[hv] at key;have:=h0.2 ⟨f',key,b⟩;omega
   |true=>rw[hv] at key;have:=h1.2 ⟨f',key,b⟩;omega
theorem zjs{vars:Nat}{c:List Int}(hl:zfH vars c){f g:Nat->Bool}(h:∀i,i<vars->f i=g i):clS f c=clS g c:=by
 unfold clS;rw[Bool.eq_iff_iff,List.any_eq_true,List.any_eq_true];have key:∀x∈c,zkd f x=zkd g x:=fun x hx=>by unfold zkd;rw[h _ (zfj (hl x hx))]
 exact⟨fun⟨x,h1,h2⟩=>⟨x,h1,by rw[<-key x h1];exact h2⟩,fun⟨x,h1,h2⟩=>⟨x,h1,by rw[key x h1];exact h2⟩⟩
theorem zdN{vars:Nat}{K:List (List Int)}(hl:zed vars K){f g:Nat->Bool}(h:∀i,i<vars->f i=g i):K.all (clS f)=K.all (clS g):=by
 rw[Bool.eq_iff_iff,List.all_eq_true,List.all_eq_true];exact⟨fun a c hc=>by rw[<-zjs (hl c hc) h];exact a c hc,fun a c hc=>by rw[zjs (hl c hc) h];exact a c hc⟩
theorem zeO{vars:Nat}(h24:vars<=24){K:List (List Int)}(hl:zed vars K)(vals:Nat):K.all (clS (zaY vals))=zhy vals K:=by
 unfold zhy;rw[Bool.eq_iff_iff,List.all_eq_true,List.all_eq_true];have h24:∀c∈K,zfH 24 c:=fun c hc x hx=>zfx (by omega) (hl c hc x hx);exact⟨fun h c hc=>by rw[<-zlG (h24 c hc)];exact h c hc,fun h c hc=>by rw[zlG (h24 c hc)];exact h c hc⟩
theorem zoG{vars:Nat}(h24:vars<=24){K:List (List Int)}(hl:zed vars K){vals:Nat}(h:zwp vals K):zhy vals K=true:=by
 unfold zhy;rw[List.all_eq_true];intro c hc;obtain⟨x,hx,hh⟩:=h c hc;unfold zfB;rw[List.any_eq_true];exact⟨x,hx,by unfold zuC;rw[zfx (by omega) (hl c hc x hx),hh];rfl⟩
theorem zre{vars:Nat}(h24:vars<=24){K:List (List Int)}(hl:zed vars K):zup vars K≠0↔zvi K=true:=by
 unfold zup;rw[zfP,znU];constructor
 ·rintro⟨f',-,h2⟩;refine⟨zgp f' vars,zu0 ?_⟩;rw[<-zeO h24 hl,zdN hl (g:=f') (fun i hi=>zjl f' vars i hi)];exact h2
 ·rintro⟨vals,h⟩;refine⟨fun i=>decide (i<vars)&&zaY vals i,fun i hi=>?_,?_⟩
  ·have:¬i<vars:=by omega
   simp[this]
  ·rw[zdN hl (g:=zaY vals) (fun i hi=>by simp[hi]),zeO h24 hl];exact zoG h24 hl h
end Bd
namespace Bd
open Go.RowKit
section
variable {vars:Nat} {K:List (List Int)}
theorem zwg(h24:vars<=24)(hl:zed vars K):zvi K=true↔∃f:Nat->Bool,(∀j,vars<=j->f j=false)/\K.all (clS f)=true:=by
 rw[<-zre h24 hl];unfold zup;rw[zfP];exact⟨fun⟨f,h1,h2⟩=>⟨f,fun j hj=>h1 j (by omega),h2⟩,fun⟨f,h1,h2⟩=>⟨f,fun j hj=>h1 j (by omega),h2⟩⟩
end
end Bd
namespace Bd
open Go.RowKit
theorem zdW(C:zcq):∀(k v:Nat) (f g:Nat->Bool),(∀i,v<=i->i<v+k->f i=g i)->zdp C k v f=zdp C k v g
 |0,_,_,_,_=>rfl
 |k+1,v,f,g,h=>by
  show C v (f v)+_=C v (g v)+_;rw[h v zN (by omega),zdW C k (v+1) f g (fun i h1 h2=>h i (by omega) (by omega))]
theorem zjH(C:zcq):∀(k v:Nat) (f:Nat->Bool),zdp C (k+1) v f=zdp C k v f+C (v+k) (f (v+k))
 |0,v,f=>by show C v (f v)+0=0+C (v+0) (f (v+0));rw[Nat.add_zero];omega
 |k+1,v,f=>by
  have:=zjH C k (v+1) f;show C v (f v)+zdp C (k+1) (v+1) f=(C v (f v)+zdp C k (v+1) f)+_;rw[this,show v+1+k=v+(k+1) by omega];omega
section
variable {vars:Nat} {K:List (List Int)}
structure zwC(C:zcq)(vars:Nat)(K:List (List Int))(x:Wy):Prop where
 can:x.can=zvi K
 cost:x.can=true->x.cost=zdp C vars 0 (zaY x.items)
 small:x.can=true->x.items<2^vars
 holds:x.can=true->zhy x.items K=true
 least:∀vals,zhy vals K=true->x.can=true/\x.cost<=zdp C vars 0 (zaY vals)
theorem zwT(C:zcq)(h12:vars<=12)(hl:zed vars K):zwC C vars K (zaA C vars (clF K).1 (clF K).2 0):=by
 have hb:=zfY C (vars-0) 0 (sem (clF K).1 (clF K).2) (fun _=>false);have hs:=(zib h12 hl).sem;have hsat:=zwg (show vars<=24 by omega) hl;unfold zaA;rw[Nat.sub_zero] at hb ⊢;generalize zd3 C vars 0 (sem (clF K).1 (clF K).2) (fun _=>false)=x at hb;have key:x.can=true->∃f':Nat->Bool,(∀i,i<vars->zaY x.items i=f' i)/\x.cost=zdp C vars 0 (zaY x.items)/\x.items<2^vars/\K.all (clS f')=true/\(∀j,vars<=j->f' j=false)/\∀f'',Agr vars 0 (fun _=>false) f''->K.all (clS f'')=true->x.cost<=zdp C vars 0 f'':=fun hc=>by
  obtain⟨f',a1,a2,a3,a4,a5⟩:=hb.yes hc;have hbit:∀i,i<vars->zaY x.items i=f' i:=fun i hi=>by
   show x.items.testBit i=_;rw[a4 i,decide_eq_true (by omega),Bool.true_and]
  refine⟨f',hbit,?_,?_,(hs f').symm.trans a2,fun j hj=>a1 j (by omega),fun f'' hf hg=>?_⟩
  ·rw[a3];exact zdW C vars 0 _ _ (fun i _ h2=>(hbit i (by omega)).symm)
  ·apply Nat.lt_pow_two_of_testBit;intro i hi;rw[a4 i,decide_eq_false (by omega),Bool.false_and]
  ·rcases a5 f'' hf ((hs f'').trans hg) with h|⟨h,_⟩<;>omega
 refine⟨?_,fun hc=>?_,fun hc=>?_,fun hc=>?_,fun vals hv=>?_⟩
 ·cases hc:x.can with
  |true =>obtain⟨f',-,-,-,h4,h5,-⟩:=key hc;exact(hsat.2 ⟨f',h5,h4⟩).symm
  |false =>
   cases hq:zvi K with
   |false=>rfl
   |true =>obtain⟨f,a,b⟩:=hsat.1 hq;exact absurd ((hs f).trans b) (by rw[hb.no hc f (fun j hj=>a j (by omega))];simp)
 ·obtain⟨f',-,h2,-⟩:=key hc;exact h2
 ·obtain⟨f',-,-,h3,-⟩:=key hc;exact h3
 ·obtain⟨f',h1,-,-,h4,-⟩:=key hc;rw[<-zeO (show vars<=24 by omega) hl,zdN hl h1];exact h4
 ·have ha:K.all (clS (fun j=>if j<vars then zaY vals j else false))=true:=by
   rw[zdN hl (g:=zaY vals) (fun i hi=>if_pos hi),zeO (by omega) hl];exact hv
  have hc:x.can=true:=by
   cases hc:x.can with
   |true=>rfl
   |false=>exact absurd ((hs _).trans ha) (by rw[hb.no hc _ (fun j hj=>if_neg (by omega))];simp)
  obtain⟨f',-,-,-,-,-,h6⟩:=key hc;refine⟨hc,?_⟩;have:=h6 _ (fun j hj=>if_neg (by omega)) ha;rw[zdW C vars 0 _ (zaY vals) (fun i _ h2=>if_pos (by omega))] at this;exact this
end
end Bd
namespace Bd
open Go.RowKit
def ziD(k vars:Nat):Nat->Nat
 |0=>0
 |m+1=>if k.testBit (vars-1-m) then ziD k vars m|||2^m else ziD k vars m
theorem zhu{i m:Nat}(e:¬m=i):decide (i<m+1)=decide (i<m):=by
 by_cases q:i<m
 ·rw[decide_eq_true q,decide_eq_true (by omega)]
 ·rw[decide_eq_false q,decide_eq_false (by omega)]
theorem zh2(k vars:Nat):∀m i,(ziD k vars m).testBit i=(decide (i<m)&&k.testBit (vars-1-i))
 |0,i=>by simp[ziD]
 |m+1,i=>by
  have ih:=zh2 k vars m i;unfold ziD;split
  ·rename_i h;rw[Nat.testBit_or,Nat.testBit_two_pow,ih]
   by_cases e:m=i
   ·subst e;simp[h]
   ·rw[zhu e];simp[e]
  ·rename_i h;rw[ih]
   by_cases e:m=i
   ·subst e;simp at h;simp[h]
   ·rw[zhu e]
theorem zoV(k vars m:Nat):ziD k vars m<2^m:=Nat.lt_pow_two_of_testBit _ (fun i hi=>by rw[zh2,decide_eq_false (by omega)];rfl)
def zfF(vars k:Nat):Nat:=ziD k vars vars
theorem zgW(vars k:Nat):zfF vars k<2^vars:=zoV k vars vars
theorem zd0{vars i:Nat}(k:Nat)(hi:i<vars):(zfF vars k).testBit i=k.testBit (vars-1-i):=by
 unfold zfF;rw[zh2,decide_eq_true hi,Bool.true_and]
theorem zfr{vars i x:Nat}(hx:x<2^vars)(hi:vars<=i):x.testBit i=false:=Nat.testBit_lt_two_pow (Nat.lt_of_lt_of_le hx (Nat.pow_le_pow_right (by omega) hi))
theorem zeD{vars k:Nat}(hk:k<2^vars):zfF vars (zfF vars k)=k:=by
 apply Nat.eq_of_testBit_eq;intro i
 by_cases hi:i<vars
 ·rw[zd0 _ hi,zd0 _ (by omega)];congr 1;omega
 ·rw[zfr (zgW _ _) (by omega),zfr hk (by omega)]
theorem zmI{x y i:Nat}(hx:x.testBit i=false)(hy:y.testBit i=true)(h:∀j,i<j->x.testBit j=y.testBit j):x<y:=by
 have e:x/2^(i+1)=y/2^(i+1):=Nat.eq_of_testBit_eq (fun j=>by rw[Nat.testBit_div_two_pow,Nat.testBit_div_two_pow];exact h _ (by omega));rw[Nat.testBit_eq_decide_div_mod_eq] at hx hy;have hx':=of_decide_eq_false hx;have hy':=of_decide_eq_true hy;have dx:x/2^(i+1)=x/2^i/2:=by rw[Nat.pow_succ,Nat.div_div_eq_div_mul]
 have dy:y/2^(i+1)=y/2^i/2:=by rw[Nat.pow_succ,Nat.div_div_eq_div_mul]
 exact Nat.lt_of_not_le (fun hle=>by have:=Nat.div_le_div_right (c:=2^i) hle;omega)
theorem ztc{vars x y:Nat}(hx:x<2^vars)(hy:y<2^vars)(h:znB vars 0 (zaY x) (zaY y)):zfF vars y<=zfF vars x:=by
 rcases h with h|⟨j,-,hj,h1,h2,h3⟩
 ·have:x=y:=by
   apply Nat.eq_of_testBit_eq;intro i
   by_cases hi:i<vars
   ·exact h i (Nat.zero_le _) (by omega)
   ·rw[zfr hx (by omega),zfr hy (by omega)]
  rw[this];exact Nat.le_refl _
 ·apply Nat.le_of_lt;refine zmI (i:=vars-1-j) ?_ ?_ ?_
  ·rw[zd0 _ (by omega),show vars-1-(vars-1-j)=j by omega];exact h2
  ·rw[zd0 _ (by omega),show vars-1-(vars-1-j)=j by omega];exact h1
  ·intro i hi
   by_cases hv:i<vars
   ·rw[zd0 _ hv,zd0 _ hv];exact(h3 (vars-1-i) (Nat.zero_le _) (by omega)).symm
   ·rw[zfr (zgW _ _) (by omega),zfr (zgW _ _) (by omega)]
section
variable {vars:Nat} {K:List (List Int)}
def zdC(vars:Nat)(K:List (List Int))(j:Nat):List Nat:=((List.range j).map fun i=>zfF vars (2^vars-1-i)).filter fun x=>zhy x K
theorem zjf(j:Nat):zdC vars K (j+1)=if zhy (zfF vars (2^vars-1-j)) K=true then zdC vars K j++[zfF vars (2^vars-1-j)] else zdC vars K j:=by
 unfold zdC;rw[List.range_succ,List.map_append,List.filter_append];split
 ·rename_i h;simp[h]
 ·rename_i h;simp[h]
theorem zlp{j y:Nat}:y∈zdC vars K j↔(∃i,i<j/\zfF vars (2^vars-1-i)=y)/\zhy y K=true:=by
 unfold zdC;rw[List.mem_filter,List.mem_map];constructor
 ·rintro⟨⟨i,hi,e⟩,h⟩;exact⟨⟨i,List.mem_range.1 hi,e⟩,h⟩
 ·rintro⟨⟨i,hi,e⟩,h⟩;exact⟨⟨i,List.mem_range.2 hi,e⟩,h⟩
theorem zgP{y:Nat}:y∈zdC vars K (2^vars)↔y<2^vars/\zhy y K=true:=by
 rw[zlp];constructor
 ·rintro⟨⟨i,-,rfl⟩,h⟩;exact⟨zgW _ _,h⟩
 ·rintro⟨h1,h2⟩;have:=zgW vars y;refine⟨⟨2^vars-1-zfF vars y,by omega,?_⟩,h2⟩;rw[show 2^vars-1-(2^vars-1-zfF vars y)=zfF vars y by omega,zeD h1]
theorem zmb(j:Nat):(zdC vars K j).length<=j:=by
 unfold zdC;have:=List.length_filter_le (fun x=>zhy x K) ((List.range j).map fun i=>zfF vars (2^vars-1-i));simpa using this
def chS(C:zcq)(vars:Nat)(st:Int × Bool × Nat)(x:Nat):Int × Bool × Nat:=if st.2.1=false\/zdp C vars 0 (zaY x)<st.1 then (zdp C vars 0 (zaY x),true,x) else st
def chF(C:zcq)(vars:Nat)(l:List Nat):Int × Bool × Nat:=l.foldl (chS C vars) (0,false,0)
theorem zli(C:zcq)(l:List Nat)(x:Nat):chF C vars (l++[x])=chS C vars (chF C vars l) x:=by unfold chF;rw[List.foldl_append];rfl
structure zxa(C:zcq)(vars:Nat)(l:List Nat)(st:Int × Bool × Nat):Prop where
 no:st.2.1=false->l=[]
 yes:st.2.1=true->st.2.2∈l/\st.1=zdp C vars 0 (zaY st.2.2)/\∀y∈l,st.1<zdp C vars 0 (zaY y)\/st.1=zdp C vars 0 (zaY y)/\zfF vars y<=zfF vars st.2.2
theorem zwm(C:zcq):∀j,j<=2^vars->zxa C vars (zdC vars K j) (chF C vars (zdC vars K j))
 |0,_=>⟨fun _=>rfl,fun h=>(by cases h)⟩
 |j+1,hj=>by
  have ih:=zwm C j (by omega);rw[zjf];split
  ·have hlow:∀y∈zdC vars K j,2^vars-1-j<zfF vars y:=fun y hy=>by
    obtain⟨⟨i,hi,rfl⟩,-⟩:=zlp.1 hy;rw[zeD (by omega)];omega
   have hx:zfF vars (zfF vars (2^vars-1-j))=2^vars-1-j:=zeD (by omega);generalize zfF vars (2^vars-1-j)=x at *;rw[zli];generalize chF C vars (zdC vars K j)=st at *;unfold chS;split
   ·rename_i hc;refine⟨fun h=>(by cases h),fun _=>⟨List.mem_append_right _ (List.mem_singleton.2 rfl),rfl,fun y hy=>?_⟩⟩;show zdp C vars 0 (zaY x)<_\/zdp C vars 0 (zaY x)=_/\zfF vars y<=zfF vars x;rcases List.mem_append.1 hy with hy|hy
    ·rcases hc with hc|hc
     ·rw[ih.no hc] at hy;cases hy
     ·cases hs:st.2.1 with
      |false=>rw[ih.no hs] at hy;cases hy
      |true=>rcases (ih.yes hs).2.2 y hy with h|⟨h,-⟩<;>left<;>omega
    ·rw[List.mem_singleton] at hy;subst hy;exact Or.inr ⟨rfl,Nat.le_refl _⟩
   ·rename_i hc;refine⟨fun h=>absurd (Or.inl h) hc,fun hs=>?_⟩;obtain⟨h1,h2,h3⟩:=ih.yes hs;refine⟨List.mem_append_left _ h1,h2,fun y hy=>?_⟩;rcases List.mem_append.1 hy with hy|hy
    ·exact h3 y hy
    ·rw[List.mem_singleton] at hy;subst hy;have h4:¬zdp C vars 0 (zaY y)<st.1:=fun e=>hc (Or.inr e);have h5:=hlow _ h1
     by_cases e:st.1<zdp C vars 0 (zaY y)
     ·exact Or.inl e
     ·exact Or.inr ⟨by omega,by omega⟩
  ·exact ih
theorem zsC(C:zcq)(h12:vars<=12)(hl:zed vars K)(hc:(zaA C vars (clF K).1 (clF K).2 0).can=true){vals:Nat}(ha:zhy vals K=true):(zaA C vars (clF K).1 (clF K).2 0).cost<zdp C vars 0 (zaY vals)\/(zaA C vars (clF K).1 (clF K).2 0).cost=zdp C vars 0 (zaY vals)/\znB vars 0 (zaY (zaA C vars (clF K).1 (clF K).2 0).items) (zaY vals):=by
 have hb:=zfY C (vars-0) 0 (sem (clF K).1 (clF K).2) (fun _=>false);have hs:=(zib h12 hl).sem;have ha':K.all (clS (fun j=>if j<vars then zaY vals j else false))=true:=by
  rw[zdN hl (g:=zaY vals) (fun i hi=>if_pos hi),zeO (by omega) hl];exact ha
 unfold zaA at *;rw[Nat.sub_zero] at *;generalize zd3 C vars 0 (sem (clF K).1 (clF K).2) (fun _=>false)=x at *;obtain⟨f',a1,a2,a3,a4,a5⟩:=hb.yes hc;have hbit:∀i,i<vars->zaY x.items i=f' i:=fun i hi=>by
  show x.items.testBit i=_;rw[a4 i,decide_eq_true (by omega),Bool.true_and]
 have h6:=a5 _ (fun j hj=>if_neg (by omega)) ((hs _).trans ha');rw[zdW C vars 0 _ (zaY vals) (fun i _ h2=>if_pos (by omega))] at h6;rcases h6 with h|⟨h,hL⟩
 ·exact Or.inl h
 ·refine Or.inr ⟨h,?_⟩;rcases hL with hL|⟨j,j1,j2,j3,j4,j5⟩
  ·exact Or.inl fun i i1 i2=>by have:f' i=if i<vars then zaY vals i else false:=hL i i1 i2;rw[if_pos (by omega)] at this;rw[hbit i (by omega)];exact this
  ·refine Or.inr ⟨j,j1,j2,by rw[hbit j (by omega)];exact j3,by have j4':(if j<vars then zaY vals j else false)=false:=j4;rw[if_pos (by omega)] at j4';exact j4',fun i i1 i2=>?_⟩;have:f' i=if i<vars then zaY vals i else false:=j5 i i1 i2;rw[if_pos (by omega)] at this;rw[hbit i (by omega)];exact this
theorem ztD{x y:Nat}(hx:x<2^vars)(hy:y<2^vars)(h:zfF vars x=zfF vars y):x=y:=by rw[<-zeD hx,h,zeD hy]
theorem zgB(C:zcq)(h12:vars<=12)(hl:zed vars K):(chF C vars (zdC vars K (2^vars))).2.1=(zaA C vars (clF K).1 (clF K).2 0).can/\((zaA C vars (clF K).1 (clF K).2 0).can=true->(chF C vars (zdC vars K (2^vars))).2.2=(zaA C vars (clF K).1 (clF K).2 0).items):=by
 have hk:=zwm (K:=K) (vars:=vars) C (2^vars) zN;have hb:=zwT C h12 hl;have hL:=fun hc vals=>zsC (vals:=vals) C h12 hl hc;generalize zaA C vars (clF K).1 (clF K).2 0=x at *;generalize chF C vars (zdC vars K (2^vars))=st at *;have e:st.2.1=x.can:=by
  cases hc:x.can with
  |true =>
   cases hs:st.2.1 with
   |true=>rfl
   |false =>have h0:=hk.no hs;have:x.items∈zdC vars K (2^vars):=zgP.2 ⟨hb.small hc,hb.holds hc⟩;rw[h0] at this;cases this
  |false =>
   cases hs:st.2.1 with
   |false=>rfl
   |true =>have:=(zgP.1 (hk.yes hs).1).2;rw[(hb.least _ this).1] at hc;cases hc
 refine⟨e,fun hc=>?_⟩;obtain⟨h1,h2,h3⟩:=hk.yes (e.trans hc);obtain⟨h4,h5⟩:=zgP.1 h1;have h6:=h3 _ (zgP.2 ⟨hb.small hc,hb.holds hc⟩);rw[<-hb.cost hc] at h6;have h7:=hL hc _ h5;rw[<-h2] at h7;rcases h6 with h6|⟨h6,h8⟩
 ·rcases h7 with h7|⟨h7,-⟩<;>omega
 ·rcases h7 with h7|⟨h7,h9⟩
  ·omega
  ·have:=ztc (hb.small hc) h4 h9;exact ztD h4 (hb.small hc) (by omega)
end
end Bd
end Go.Proofs.YtiihalknffbjpaaGreatDoor
