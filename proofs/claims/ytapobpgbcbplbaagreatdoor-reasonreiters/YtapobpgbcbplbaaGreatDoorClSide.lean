/- What is told, in memory: side, tell, only, next. -/
import Derived.Test.YtapobpgbcbplbaaGreatDoorCtOnly
set_option maxHeartbeats 4000000
set_option maxRecDepth 100000
namespace Go.Proofs.YtapobpgbcbplbaaGreatDoor
section
open Go.RowKit Go.Deep Sv
theorem zkC(B:Nat)(n:Int)(P:List (Int × List Int))(cv fv:Value)(bs:List Bool)(la:Option Addr)(lc:Nat)(w:World)(hr:RS B w cv fv (P.map Prod.snd) (P.map Prod.fst))(hb:xN w la bs)(hP:P.length<=10000)(hc:∀x∈P,x.2.length<=1000) :
  zC 65 #[.agg #[.int .i64 n,cv,fv],.slice la bs.length lc] w fun e w'=>∃v',e=.returned v'/\CO w.heap.size w' v' (qb P bs)/\zB w w':=by
 obtain⟨ca,cc,rfl,-⟩:∃a c,cv=.slice a P.length c/\True:=by obtain⟨cs,h1,_⟩:=hr.crow;obtain⟨a,c,e,_⟩:=(zD h1).form;exact⟨a,c,by simpa using e,trivial⟩
 obtain⟨fa,fc,rfl,-⟩:∃a c,fv=.slice a P.length c/\True:=by obtain⟨a,c,e,_⟩:=(zD hr.frow).form;exact⟨a,c,by simpa using e,trivial⟩
 obtain⟨ic,hic,hc0',hc1',hc2'⟩:=info_parts Ku;have hb1:=zf w (.cells #[.int .i64 n,.slice ca P.length cc,.slice fa P.length fc] 26);have hb2:=zf (w.alloc (.cells #[.int .i64 n,.slice ca P.length cc,.slice fa P.length fc] 26)) (.cells #[.slice la bs.length lc] 65);have k2:=(Blk.new w 26 #[.int .i64 n,.slice ca P.length cc,.slice fa P.length fc]).alloc (.cells #[.slice la bs.length lc] 65);have k3:=Blk.new (w.alloc (.cells #[.int .i64 n,.slice ca P.length cc,.slice fa P.length fc] 26)) 65 #[.slice la bs.length lc];rw[World.size_alloc] at k3;have hbb:=zT hb1 hb2;have HR:=zH ((hr.new hb1).new hb2);have HBO:=zH (hb.below hbb zN);have HBB:=zH hbb;have HC:=zH hc;have HEND:Hid (xA P bs P.length=qb P bs):=by show _=_;unfold xA;rw[List.take_length]
 generalize qb P bs=RES at *;clear hb1 hb2 hr hb hbb hc;go_enter Tryz.func65,Tryz.ntmps65;go_upto_region 1 with fail;generalize (w.alloc (.cells #[.int .i64 n,.slice ca P.length cc,.slice fa P.length fc] 26)).alloc (.cells #[.slice la bs.length lc] 65)=W0 at *;have c1:_=some (Value.slice ca P.length cc):=k2.cell 1;go_wp2_with fail;go_loopw [6,13] (fun oV iV wr=>∃(i:Nat),i<=P.length/\iV=.int .i64 i/\CO W0.heap.size wr oV (xA P bs i)/\zB W0 wr) (fun _ iV _=>P.length-(intOf iV).toNat)
 case atStart=>exact⟨0,Nat.zero_le _,rfl,⟨[],World.ownsRow_nil _ _ _ _,zX.nil⟩,Below.refl _ _⟩
 case round =>
  obtain⟨i,hil,rfl,hco,hbw⟩:=hrel;obtain⟨ca0,cc0,rfl,-⟩:∃a c,_=Value.slice a (xA P bs i).length c/\True:=by obtain⟨cs,h1,_⟩:=hco;obtain⟨a,c,e,_⟩:=(zD h1).form;exact⟨a,c,e,trivial⟩
  by_cases hlt:i<P.length
  ·obtain⟨cg,cc',fg,fc',a,cap,e1,e2,q1,q2,q3,q4⟩:=(HR.out.new hbw).at i hlt;simp at e1 e2;obtain⟨rfl,rfl⟩:=e1;obtain⟨rfl,rfl⟩:=e2;have HSU:=zH (zn6 P bs i hlt);have hxl:=HC.out (P.getD i default) (by rw[List.getD_eq_getElem?_getD,List.getElem?_eq_getElem hlt];exact List.getElem_mem hlt);have hol:=zd5 P bs i;have k2':=k2.below hbw k2.lt;have k3':=k3.below hbw k3.lt;have d2:wr.cell? ⟨w.heap.size,2,none⟩=some (.slice (some ⟨fg,0,none⟩) P.length fc):=k2'.cell 2;have d3:wr.cell? ⟨w.heap.size+1,0,none⟩=some (.slice la bs.length lc):=k3'.cell 0;obtain⟨f,hfe⟩:∃f,(P.getD i default).1=f:=⟨_,rfl⟩;obtain⟨c,hce⟩:∃c,(P.getD i default).2=c:=⟨_,rfl⟩;rw[hfe] at q2;rw[hce] at q1 q3 hxl;rw[hfe,hce] at HSU;have HTO:=zH (zhw (w.heap.size+1) la bs lc f wr d3 (HBO.out.below hbw zN));have HCL:=zH (zlx c a cap wr q4 q3 (by omega) (fun e=>by cases c with|nil=>rfl|cons y c=>obtain⟨ad,h,_⟩:=q3 0 (by simp);rw[e] at h;cases h));have HCO:=zH hco;have HBW:=zH hbw;have hws:=hbw.size;have hii0:(0:Int)<=(i:Int):=by omega
   have hii1:(i:Int)<(P.length:Int):=by omega
   clear hfe hce q3 q4 k2' k3' hco hbw d3;cases htd:yH bs f with
   |true =>
    rw[htd] at HTO HSU;go_wp2_with fail;refine HTO.out.mono ?_;rintro e w' ⟨rfl,hw'⟩;rw[hw'];clear hw';clear w';clear HTO q1 q2 d2;go_wp2_with fail;refine HCL.out.mono ?_;rintro e w4 ⟨a',cap',rfl,t1,t2,t3,hb4⟩;obtain⟨cs,hrow,hck⟩:=HCO.out.new hb4;have HROW:=zH hrow;have HCK:=zH hck;have HT3:=zH t3;have HB4:=zH hb4;have hs4:=hb4.size;clear HCL HCO hrow hck t3 hb4;go_wp2_with (at_builtin;refine wpList_append_own_at _ rfl _ _ 23 rfl W0.heap.size 202 ic (.slice none 0 0) 1 24 Tryz.underlying23 hic hc0' hc1' hc2' rfl (by decide) _ _ _ rfl (HROW.out.alloc _) ⟨w4.heap.size,0,none⟩ 1 1 [.slice a' c.length cap'] rfl rfl ?c1 ?c2 ?c3 ?c4 ?c5 ?_)
    case c1=>exact KI _ _ _
    case c2=>intro u hu;rw[List.mem_singleton] at hu;subst hu;rfl
    case c3=>unfold maxLen;omega
    case c4=>omega
    case c5=>simp;omega
    intro v7 w7 hown7 hgrow7 _ hloc7;obtain⟨hco7,hb7⟩:=CO.app (by omega) HROW.out HCK.out t1 t2 HT3.out hown7 hgrow7;have HC7:Hid (CO W0.heap.size w7 v7 (xA P bs (i+1))):=by show CO _ _ _ _;rw[HSU.out,if_pos (by simp)];exact hco7
    have HB7:Hid (zB W0 w7):=(HBW.out.trans (HB4.out.mono hws)).trans hb7;clear hown7 hgrow7 hloc7 hco7 hb7 HROW HCK HT3 HB4 HSU;go_wp2;go_roundw
    case rel=>exact⟨i+1,hlt,by go_num,HC7.out,HB7.out⟩
    case measure=>simp[intOf];omega
   |false =>
    rw[htd] at HTO HSU;go_wp2_with fail;refine HTO.out.mono ?_;rintro e w' ⟨rfl,hw'⟩;rw[hw'];clear hw';clear w';have HC7:Hid (CO W0.heap.size wr (.slice ca0 (xA P bs i).length cc0) (xA P bs (i+1))):=by show CO _ _ _ _;rw[HSU.out,if_neg (by simp),List.append_nil];exact HCO.out
    clear HTO q1 q2 d2 HCL HCO HSU;go_wp2;go_roundw
    case rel=>exact⟨i+1,hlt,by go_num,HC7.out,HBW.out⟩
    case measure=>simp[intOf];omega
  ·obtain rfl:i=P.length:=by omega
   have HCO:=zH hco;have HBW:=zH hbw;clear hco hbw;go_wp2;go_ret;obtain⟨cs,g1,g2⟩:=HCO.out;rw[<-HEND.out];exact⟨_,rfl,⟨cs,yu g1 HBB.out.size,g2⟩,zT HBB.out HBW.out⟩
end
section
open Go.RowKit Go.Deep
theorem zkq{W0 w:World}{ad:Addr}{l:List (List Int)}(h:yK W0 (some ad) l)(hb:zB W0 w):∃cs:List Value,zX W0.heap.size w cs l/\∀j u,cs[j]?=some u->ad.block<W0.heap.size/\w.cell? (ad.add j)=some u:=by
 have each:∀i,i<l.length->∃u:Value,(∃(a:Option Addr) (cap:Nat),u=.slice a (l.getD i []).length cap/\(l.getD i []).length<=cap/\cap<=9223372036854775807/\qp W0.heap.size w a (l.getD i []))/\ad.block<W0.heap.size/\w.cell? (ad.add i)=some u:=by
  intro i hi;obtain⟨ad',a',cap,e,h1,h2,h3,h4,h5⟩:=h i hi;obtain rfl:=Option.some.inj e;exact⟨_,⟨a',cap,rfl,h3,h4,qp.of h5 hb⟩,h1,(hb.cell (by rw[xm];exact h1)).trans h2⟩
 obtain⟨q,hq⟩:=choose_lt (fun i hi=>each i hi);have hlen:((List.range l.length).map q).length=l.length:=by simp
 have hat:∀i,i<l.length->((List.range l.length).map q)[i]?=some (q i):=fun i hi=>by simp[hi]
 refine⟨(List.range l.length).map q,⟨hlen,fun i hi=>?_⟩,fun j u hj=>?_⟩
 ·obtain⟨a,cap,e,h1,h2,h3⟩:=(hq i hi).1;exact⟨a,cap,by rw[hat i hi,e],h1,h2,h3⟩
 ·have hj':j<l.length:=by have:=(List.getElem?_eq_some_iff.1 hj).1;rw[hlen] at this;exact this
  rw[hat j hj'] at hj;obtain rfl:=Option.some.inj hj;exact(hq j hj').2
theorem zmy(W0:World)(l:List (List Int))(a:Option Addr)(cap:Nat)(hn:a=none->cap=0)(hl:l.length<=100000)(w:World)(hI:yK W0 a l)(hb:zB W0 w) :
  zC 102 #[.slice a l.length cap] w fun e w'=>∃va vc,e=.returned (.slice va l.length vc)/\(∃cs,w'.ownsRow w.heap.size 202 1 (.slice va l.length vc) l.length cs/\zX W0.heap.size w' cs l)/\zB w w':=by
 obtain⟨ic,hic,hc0,hc1,hc2⟩:=info_parts Ku;have hq:=fun (x:Option Addr) (n c:Nat) (W:World)=>Lib.run_eql_slice_nil (P:=Tryz.prog) W 23 202 x n c 0 0 Tryz.underlying23;cases a with
 |none =>
  obtain rfl:cap=0:=hn rfl;obtain rfl:l=[]:=by
   cases l with
   |nil=>rfl
   |cons c l=>obtain⟨ad,_,_,e,_⟩:=hI 0 (by simp);cases e
  have fin:zC 102 #[.slice none 0 0] w fun e w'=>e=.returned (.slice none 0 0)/\w=w':=by
   go_enter Tryz.func102,Tryz.ntmps102;go_wp2;go_ret;exact⟨rfl,rfl⟩
  exact fin.mono fun e w' ⟨he,hw⟩=>⟨none,0,he,⟨[],World.ownsRow_nil _ _ _ _,zX.nil⟩,hw▸Below.refl _ _⟩
 |some ad =>
  obtain⟨cs,hck,hcell⟩:=zkq hI hb;have hcl:=hck.1;have hrow:=World.ownsRow_lit (base:=w.heap.size) (e:=202) (size:=1) w #[] 0 zN (by decide) rfl;have hone:=hck.one;have hnews:∀j u,cs[j]?=some u->(w.alloc (.cells #[] 202)).cell? (ad.add j)=some u:=fun j u hu=>by
   obtain⟨h1,h2⟩:=hcell j u hu;rw[World.cell?_alloc_lt _ _ _ (by rw[xm];exact Nat.lt_of_lt_of_le h1 hb.size)];exact h2
  have HCK:=zH hck;have HROW:=zH hrow;have HONE:=zH hone;have HNEWS:=zH hnews;have HCL:=zH hcl;clear hI hck hcell hrow hone hnews hcl hn;generalize hL:l.length=L at *;clear hL;go_enter Tryz.func102,Tryz.ntmps102;go_wp2_with (at_builtin;refine wpList_append_own_at _ rfl _ _ 23 rfl w.heap.size 202 ic (.slice none 0 0) 1 24 Tryz.underlying23 hic hc0 hc1 hc2 rfl (by decide) _ _ _ rfl HROW.out ad L cap cs rfl (by rw[HCL.out,Nat.mul_one]) HNEWS.out HONE.out ?c3 ?c4 ?c5 ?_)
  case c3=>unfold maxLen;omega
  case c4=>omega
  intro v7 w7 hown7 hgrow7 _ _;have hb7:zB w w7:=(zf w (.cells #[] 202)).grown hgrow7 (by simp) (fun k hk=>by
   simp [Value.ownBlock] at hk;omega)
  have HK:Hid (zX W0.heap.size w7 cs l):=HCK.out.kp (Kp.new hb7);have hown8:w7.ownsRow w.heap.size 202 1 v7 L cs:=by simpa using hown7
  obtain⟨va,vc,rfl,-,-⟩:=yU hown8;have HO:=zH hown8;have HB7:=zH hb7;clear hown7 hown8 hgrow7 hb7 HROW HNEWS;go_wp2;go_ret;exact⟨_,_,rfl,⟨cs,HO.out,HK.out⟩,HB7.out⟩
end
section
open Go.RowKit
theorem zgw(x v:Int)(h0:0<=v)(h1:v<=24)(b:Nat)(w:World)(hc:w.cell? ⟨b,0,none⟩=some (.int .i64 v)) :
  zC 159 #[.int .i64 x,.pointer (some ⟨b,0,none⟩)] w fun e w'=>e=.returned (.bool (!qi v x))/\w=w':=by
 have HL:=zH (zfw x v h0 h1 w);generalize qi v x=B at *;go_enter Tryz.func159,Tryz.ntmps159;go_wp2_with fail;refine HL.out.mono ?_;rintro e w1 ⟨rfl,rfl⟩;go_wp2;go_ret;exact⟨by first|rfl|simp,rfl⟩
theorem zgb:∀args w,(callFunc 159 args).run Tryz.prog w=.ok (.enter 159 args) w:=by intro args w;kernel_rfl
def yV(v:Int)(c:List Int):Bool:=decide (48<c.length)||c.any (fun x=>!qi v x)
def YU(c:List Int):Int:=if 48<c.length then 4 else 2
def qB(v:Int)(l:List (List Int)):Int × Int :=
 if v<0\/24<v then (2,-1) else if 200<l.length then (4,-1) else match l.findIdx? (yV v) with|some i=>(YU (l.getD i []),(i:Int))|none=>(0,-1)
theorem ze2{v:Int}{l:List (List Int)}(h0:0<=v)(h1:v<=24)(hl:l.length<=200){k:Nat}(hk:k<l.length)(h2:∀j,j<k->yV v (l.getD j [])=false)(h3:yV v (l.getD k [])=true):qB v l=(YU (l.getD k []),(k:Int)):=by
 have:l.findIdx? (yV v)=some k:=by
  rw[List.findIdx?_eq_some_iff_getElem];refine⟨hk,?_,fun j hj=>?_⟩
  ·rw[List.getD_eq_getElem?_getD,List.getElem?_eq_getElem hk] at h3;exact h3
  ·have:=h2 j hj;rw[List.getD_eq_getElem?_getD,List.getElem?_eq_getElem (by omega)] at this;simpa using this
 unfold qB;rw[if_neg (by omega),if_neg (by omega),this]
theorem zff{v:Int}{l:List (List Int)}(h0:0<=v)(h1:v<=24)(hl:l.length<=200)(h2:∀j,j<l.length->yV v (l.getD j [])=false):qB v l=(0,-1):=by
 have:l.findIdx? (yV v)=none:=by
  rw[List.findIdx?_eq_none_iff];intro x hx;obtain⟨j,hj,rfl⟩:=List.getElem_of_mem hx;have:=h2 j hj;rw[List.getD_eq_getElem?_getD,List.getElem?_eq_getElem hj] at this;simpa using this
 unfold qB;rw[if_neg (by omega),if_neg (by omega),this]
theorem znN(v:Int)(l:List (List Int))(a:Option Addr)(cap:Nat)(w:World)(hI:yK w a l)(hm:l.length<=9223372036854775807) :
  zC 101 #[.int .i64 v,.slice a l.length cap] w fun e w'=>∃er,e=.returned er/\ZN w' er (qB v l).1 (qB v l).2/\zB w w':=by
 have hb0:=zf w (.cells #[.int .i64 v] 3)
 by_cases hv:v<0\/24<v
 ·have e:qB v l=(2,-1):=by unfold qB;rw[if_pos hv]
  rw[e];have fin:zR 101 #[.int .i64 v,.slice a l.length cap] w (.iface 64 (.int .i64 2)):=by
   have HB:=zH hb0;clear hb0 e hI
   by_cases h:v<0
   ·go_enter Tryz.func101,Tryz.ntmps101;go_wp2;go_ret;exact⟨rfl,HB.out⟩
   ·have h2:24<v:=by omega
    clear hv;go_enter Tryz.func101,Tryz.ntmps101;go_wp2;go_ret;exact⟨rfl,HB.out⟩
  exact fin.mono fun e w' ⟨he,hb⟩=>⟨_,he,Or.inr (Or.inl ⟨by omega,rfl,rfl⟩),hb⟩
 have hv0:0<=v:=by omega
 have hv1:v<=24:=by omega
 clear hv
 by_cases hl:200<l.length
 ·have e:qB v l=(4,-1):=by unfold qB;rw[if_neg (by omega),if_pos hl]
  rw[e];have fin:zR 101 #[.int .i64 v,.slice a l.length cap] w (.iface 64 (.int .i64 4)):=by
   have HB:=zH hb0;clear hb0 e hI;go_enter Tryz.func101,Tryz.ntmps101;go_wp2;go_ret;exact⟨rfl,HB.out⟩
  exact fin.mono fun e w' ⟨he,hb⟩=>⟨_,he,Or.inr (Or.inl ⟨by omega,rfl,rfl⟩),hb⟩
 have HI:=zH hI;have HB:=zH hb0;have HV:Hid (∀W,Below (w.heap.size+1) (w.alloc (.cells #[.int .i64 v] 3)) W->W.cell? ⟨w.heap.size,0,none⟩=some (.int .i64 v)):=fun W hW=>(hW.cell (p:=⟨w.heap.size,0,none⟩) (by simp)).trans (by simp);clear hI hb0;go_enter Tryz.func101,Tryz.ntmps101;go_wp2_with fail;go_loopw [20] (fun kV wr=>∃k:Nat,k<=l.length/\kV=.int .i64 k/\(∀j,j<k->yV v (l.getD j [])=false)/\Below (w.heap.size+1) (w.alloc (.cells #[.int .i64 v] 3)) wr) (fun kV _=>l.length-(intOf kV).toNat)
 case atStart=>exact⟨0,Nat.zero_le _,rfl,fun j h=>by omega,Below.refl _ _⟩
 case round =>
  obtain⟨k,hk,rfl,h1,hbr⟩:=hrel;have hbw:zB w wr:=HB.out.trans (hbr.mono (Nat.le_succ _));have hcv:=HV.out _ hbr;have H1:=zH h1;have HBR:=zH hbr;have HBW:=zH hbw;have hws:=hbw.size;have hws1:=hbr.size;rw[World.size_alloc] at hws1;clear h1 hbr hbw
  by_cases hlt:k<l.length
  ·obtain⟨ad,a',cap',rfl,hl',hc,g1,g2,g3⟩:=HI.out.below HBW.out k hlt;have HG:=zH g3;clear g3;generalize hx:l.getD k []=c at *;have HX:=zH hx;clear hx
   by_cases h48:48<c.length
   ·have hres:qB v l=(4,(k:Int)):=by
     rw[ze2 hv0 hv1 (by omega) hlt H1.out (by rw[HX.out];simp[yV,h48]),HX.out];simp[YU,h48]
    have HRES:=zH hres;have hbx:=HBW.out.trans ((zf wr (.cells #[.int .i64 4,.int .i64 k] 86)).mono hws);have HBX:=zH hbx;clear hres hbx;go_wp2;go_ret;refine⟨_,rfl,?_,HBX.out⟩;rw[HRES.out];exact Or.inr (Or.inr ⟨by show (4:Int)≠0;omega,wr.heap.size,by simp,rfl,by simp,by simp⟩)
   ·have HC:=zH (zbz 159 #[.pointer (some ⟨w.heap.size,0,none⟩)] (fun x=>!qi v x) c a' cap' wr (by omega) zgb HG.out (fun W i hW hi=>(zgw (c.getD i 0) v hv0 hv1 w.heap.size W ((hW.cell (p:=⟨w.heap.size,0,none⟩) (by show w.heap.size<_;omega)).trans hcv)).mono fun e w' ⟨he,hw⟩=>⟨he,hw▸Below.refl _ _⟩));cases hp:c.any (fun x=>!qi v x) with
    |true =>
     rw[hp] at HC;have hres:qB v l=(2,(k:Int)):=by
      rw[ze2 hv0 hv1 (by omega) hlt H1.out (by rw[HX.out];unfold yV;rw[hp];simp),HX.out];simp[YU,h48]
     have HRES:=zH hres;clear hres hp;go_wp2_with fail;refine HC.out.mono ?_;rintro e w1 ⟨rfl,hb1⟩;have hbw1:=HBW.out.trans (hb1.mono hws);have hbx:=hbw1.trans ((zf w1 (.cells #[.int .i64 2,.int .i64 k] 86)).mono hbw1.size);have HBX:=zH hbx;clear hbx hbw1 hb1 HC;go_wp2;go_ret;refine⟨_,rfl,?_,HBX.out⟩;rw[HRES.out];exact Or.inr (Or.inr ⟨by show (2:Int)≠0;omega,w1.heap.size,by simp,rfl,by simp,by simp⟩)
    |false =>
     rw[hp] at HC;have HBC:Hid (yV v c=false):=by show yV v c=false;unfold yV;rw[hp];simp;omega
     clear hp;go_wp2_with fail;refine HC.out.mono ?_;rintro e w1 ⟨rfl,hb1⟩;have HB1:Hid (Below (w.heap.size+1) (w.alloc (.cells #[.int .i64 v] 3)) w1):=HBR.out.trans (hb1.mono hws1);clear hb1 HC;go_wp2;go_roundw
     case rel=>exact ⟨k + 1,hlt,by go_num,fun j hj=>(by
      rcases Nat.lt_succ_iff_lt_or_eq.1 hj with e|e
      ·exact H1.out j e
      ·rw [e,HX.out];exact HBC.out),HB1.out⟩
     case measure=>simp[intOf];omega
  ·obtain rfl:k=l.length:=by omega
   have hres:=zff hv0 hv1 (by omega) H1.out;have HRES:=zH hres;clear hres;go_wp2;go_ret;exact⟨_,rfl,by rw[HRES.out];exact Or.inl ⟨rfl,rfl,rfl⟩,HBW.out⟩
end
section
open Go.RowKit Go.Deep
theorem zl9{v:Int}{l:List (List Int)}(h:(qB v l).1=0):0<=v/\v<=24/\l.length<=200/\yt v l/\qB v l=(0,-1)/\∀c∈l,c.length<=48:=by
 unfold qB at h ⊢
 by_cases h1:v<0\/24<v
 ·rw[if_pos h1] at h;cases h
 ·by_cases h2:200<l.length
  ·rw[if_neg h1,if_pos h2] at h;cases h
  ·rw[if_neg h1,if_neg h2] at h ⊢;cases h3:l.findIdx? (yV v) with
   |some i =>rw[h3] at h;simp only[YU] at h;split at h<;>omega
   |none =>
    rw[List.findIdx?_eq_none_iff] at h3;refine⟨by omega,by omega,by omega,fun c hc x hx=>?_,rfl,fun c hc=>?_⟩
    ·have:=h3 c hc;unfold yV at this;rw[Bool.or_eq_false_iff,List.any_eq_false] at this;simpa using this.2 x hx
    ·have:=h3 c hc;unfold yV at this;rw[Bool.or_eq_false_iff] at this;have:=of_decide_eq_false this.1;omega
end
section
open Go.RowKit Go.Deep
structure St where
 told:List Int
 decs:List (Int × List Int)
 prf:List (List Int)
inductive Res where
 |sat (told:List Int)
 |unsat (prf:List (List Int))
 |limit
def zE(decs:List (Int × List Int)):List Int:=decs.map fun d=>-d.1
def yB(v:Nat)(told:List Int):Int:=yZ (fun i=>tv told i==0) (List.range v)
def qz(v:Nat)(l:List (List Int))(s:St):St ⊕ Res :=
 if (zO s.told (l++s.prf)).2≠0 then .inl { s with told:=s.told++[(zO s.told (l++s.prf)).2] }
 else if 0<=(zO s.told (l++s.prf)).1 then
  match s.decs.getLast? with
  |none=>.inr (.unsat (s.prf++[zE s.decs]))
  |some d=>if s.prf.length+1=2000 then .inr .limit else .inl ⟨d.2,s.decs.dropLast,s.prf++[zE s.decs]⟩
 else if yB v s.told<0 then .inr (.sat s.told)
 else .inl ⟨s.told++[yB v s.told+1],s.decs++[(yB v s.told+1,s.told)],s.prf⟩
inductive Run (v:Nat) (l:List (List Int)):St->Res->Prop
 |done {s:St} {r:Res} (h:qz v l s=.inr r):Run v l s r
 |go {s s':St} {r:Res} (h:qz v l s=.inl s') (hr:Run v l s' r):Run v l s r
theorem Run.at_done{v:Nat}{l:List (List Int)}{s:St}{r r':Res}(h:Run v l s r)(hd:qz v l s=.inr r'):r=r':=by
 cases h with
 |done h=>rw[hd] at h;cases h;rfl
 |go h _=>rw[hd] at h;cases h
theorem Run.at_go{v:Nat}{l:List (List Int)}{s s':St}{r:Res}(h:Run v l s r)(hd:qz v l s=.inl s'):Run v l s' r:=by
 cases h with
 |done h=>rw[hd] at h;cases h
 |go h hr=>rw[hd] at h;cases h;exact hr
def zjh(v:Nat)(k:Nat)(d:Int × List Int):Prop:=qN d.2/\yP v d.2/\k+free d.2<=24/\qi v d.1=true
structure zI(v:Nat)(s:St):Prop where
 cons:qN s.told
 lits:yP v s.told
 few:s.decs.length+free s.told<=24
 pl:s.prf.length<2000
 litsP:yt v s.prf
 ds:∀k d,s.decs[k]?=some d->zjh v k d
theorem zjN(told:List Int):free told<=24:=by
 unfold free;refine Nat.le_trans List.countP_le_length ?_;simp
theorem Qz{v:Nat}{told:List Int}:(yB v told=-1/\∀i,i<v->tv told i≠0)\/∃k:Nat,yB v told=(k:Int)/\k<v/\tv told k=0/\∀i,i<k->tv told i≠0:=by
 unfold yB;rcases KN (fun i=>tv told i==0) (List.range v) 0 with ⟨h,h1⟩|⟨k,h,hk,h1,h2⟩
 ·exact Or.inl ⟨h,fun i hi=>by simpa using h1 i (List.mem_range.2 hi)⟩
 ·rw[List.length_range] at hk;have e:(List.range v).getD k 0=k:=by simp[List.getD_eq_getElem?_getD,hk]
  rw[e] at h1;refine Or.inr ⟨k,h,hk,by simpa using h1,fun i hi=>?_⟩;have:=h2 i (by rw[List.take_range,List.mem_range];omega);simpa using this
theorem Ym{v:Int}{l m:List (List Int)}(h1:yt v l)(h2:yt v m):yt v (l++m):=fun c hc=>by
 rcases List.mem_append.1 hc with h|h
 ·exact h1 c h
 ·exact h2 c h
theorem zfi{v:Nat}{s:St}(h:zI v s):yP v (zE s.decs):=by
 intro x hx;unfold zE at hx;obtain⟨d,hd,rfl⟩:=List.mem_map.1 hx;obtain⟨k,hk⟩:=List.getElem?_of_mem hd;have:=(h.ds k d hk).2.2.2;rw[q7] at *;omega
def mu(s:St):Nat:=(2000-s.prf.length)*25+free s.told
theorem YN{v:Nat}{l:List (List Int)}(hv:v<=24)(hl:yt v l){s s':St}(h:zI v s)(e:qz v l s=.inl s'):zI v s'/\mu s'<mu s:=by
 unfold qz at e;have hlp:=Ym hl h.litsP
 by_cases h1:(zO s.told (l++s.prf)).2≠0
 ·rw[if_pos h1] at e;injection e with e;subst e;obtain⟨q1,q2,q3,q4,q5⟩:=Xq hlp h.cons h.lits (i:=(zO s.told (l++s.prf)).1) (x:=(zO s.told (l++s.prf)).2) rfl h1;have hf:=zdU (XY (by omega) q1) q2 q3;have:=h.few;exact⟨⟨q4,q5,by show s.decs.length+free (s.told++_)<=24;omega,h.pl,h.litsP,h.ds⟩,by unfold mu;show (2000-s.prf.length)*25+free (s.told++_)<_;omega⟩
 ·rw[if_neg h1] at e
  by_cases h2:0<=(zO s.told (l++s.prf)).1
  ·rw[if_pos h2] at e;cases hd:s.decs.getLast? with
   |none=>rw[hd] at e;cases e
   |some d =>
    rw[hd] at e
    by_cases h3:s.prf.length+1=2000
    ·simp only[if_pos h3] at e;cases e
    ·simp only[if_neg h3] at e;injection e with e;subst e;have hne:s.decs≠[]:=fun e=>by rw[e] at hd;cases hd
     have hpos:=List.length_pos_iff.2 hne;have hlast:s.decs[s.decs.length-1]?=some d:=by rw[<-List.getLast?_eq_getElem?];exact hd
     obtain⟨g1,g2,g3,g4⟩:=h.ds _ _ hlast;have hpl:=h.pl;refine⟨⟨g1,g2,by show s.decs.dropLast.length+free d.2<=24;rw[List.length_dropLast];exact g3,by show (s.prf++[_]).length<2000;simp;omega,Ym h.litsP (fun c hc=>by rw[List.mem_singleton] at hc;subst hc;exact zfi h),fun k d' hk=>?_⟩,?_⟩
     ·have hk':s.decs.dropLast[k]?=some d':=hk;rw[List.getElem?_dropLast] at hk';split at hk'
      ·exact h.ds k d' hk'
      ·cases hk'
     ·have:=zjN d.2;unfold mu;show (2000-(s.prf++[zE s.decs]).length)*25+free d.2<(2000-s.prf.length)*25+free s.told;simp only[List.length_append,List.length_singleton];have:2000-s.prf.length=(2000-(s.prf.length+1))+1:=by omega
      rw[this,Nat.add_mul];omega
  ·rw[if_neg h2] at e
   by_cases h3:yB v s.told<0
   ·rw[if_pos h3] at e;cases e
   ·rw[if_neg h3] at e;injection e with e;subst e;rcases Qz (v:=v) (told:=s.told) with ⟨h4,_⟩|⟨k,h4,hk,h5,_⟩
    ·omega
    ·have hlt:qi v ((k:Int)+1)=true:=by rw[q7];omega
     obtain⟨n1,n2⟩:=Z9.1 h5;have hf:=zdU (XY (by omega) hlt) n1 n2;have:=h.few;rw[h4];refine⟨⟨zeT h.cons (by omega) n2,zcV h.lits hlt,?_,h.pl,h.litsP,fun j d hj=>?_⟩,?_⟩
     ·show (s.decs++[_]).length+free (s.told++_)<=24;simp only[List.length_append,List.length_singleton];omega
     ·have hj':(s.decs++[((k:Int)+1,s.told)])[j]?=some d:=hj;rw[List.getElem?_append] at hj';split at hj'
      ·exact h.ds j d hj'
      ·rename_i hge;have hjl:j-s.decs.length=0:=by
        rcases Nat.eq_zero_or_pos (j-s.decs.length) with h|h
        ·exact h
        ·rw[List.getElem?_eq_none (by simp;omega)] at hj';cases hj'
       rw[hjl] at hj';simp at hj';subst hj';exact⟨h.cons,h.lits,by show j+free s.told<=24;omega,hlt⟩
     ·unfold mu;show (2000-s.prf.length)*25+free (s.told++_)<_;omega
theorem zh5{v:Nat}{l:List (List Int)}(hv:v<=24)(hl:yt v l):∀(n:Nat) (s:St),mu s<=n->zI v s->∃r,Run v l s r:=by
 intro n
 induction n with
 |zero =>
  intro s hm hg;cases e:qz v l s with
  |inr r=>exact⟨r,.done e⟩
  |inl s'=>have:=(YN hv hl hg e).2;omega
 |succ n ih =>
  intro s hm hg;cases e:qz v l s with
  |inr r=>exact⟨r,.done e⟩
  |inl s' =>obtain⟨g,hlt⟩:=YN hv hl hg e;obtain⟨r,hr⟩:=ih s' (by omega) g;exact⟨r,.go e hr⟩
def st0:St:=⟨[],[],[]⟩
theorem Kk(v:Nat):zI v st0:=⟨znn,zkr v,by decide,by decide,(fun c hc=>by cases hc),(fun k d h=>by simp[st0] at h)⟩
end
section
open Go.RowKit Go.Deep
structure yY(w:World)(p:Addr)(told:List Int):Prop where
 lt:p.block<w.heap.size
 cell:∀i,i<24->w.cell? (p.add i)=some (.int .i8 (tv told i))
 fz:∀i,i<24->w.frozen? (p.add i)=false
theorem yY.below{w w':World}{p:Addr}{told:List Int}(h:yY w p told)(hb:zB w w'):yY w' p told :=
 ⟨Nat.lt_of_lt_of_le h.lt hb.size,fun i hi=>(hb.cell (by rw[xm];exact h.lt)).trans (h.cell i hi),fun i hi=>(hb.frozen (by rw[xm];exact h.lt)).trans (h.fz i hi)⟩
theorem znQ{p:Addr}{i j:Nat}(h:p.add i=p.add j):i=j:=by
 unfold Addr.add at h
 by_cases hi:i=0<;>by_cases hj:j=0
 ·omega
 ·subst hi;rw[if_pos rfl,if_neg hj] at h;have:=congrArg Addr.off h;simp at this;omega
 ·subst hj;rw[if_pos rfl,if_neg hi] at h;have:=congrArg Addr.off h;simp at this;omega
 ·rw[if_neg hi,if_neg hj] at h;have:=congrArg Addr.off h;simp at this;omega
def qO(x:Int):Nat:=(if 0<x then x else -x).toNat-1
def yN(x:Int):Int:=if 0<x then 1 else -1
theorem yY.tell{w:World}{p:Addr}{told:List Int}(h:yY w p told){x:Int}(hx:qi 24 x=true)(hn:-x∉told):yY (w.setCell (p.add (qO x)) (.int .i8 (yN x))) p (told++[x]):=by
 rw[q7] at hx;have ht:qO x<24:=by unfold qO;split<;>omega
 refine⟨by simpa[World.setCell] using h.lt,fun i hi=>?_,fun i hi=>by rw[World.frozen?_setCell];exact h.fz i hi⟩;rw[zaJ hn]
 by_cases e:i=qO x
 ·rw[e,World.cell?_setCell_same' _ _ _ (by rw[h.cell _ ht];rfl)];unfold qO yN
  by_cases hp:0<x
  ·rw[if_pos hp,if_pos hp,if_pos (by omega)]
  ·rw[if_neg hp,if_neg hp,if_neg (by omega),if_pos (by omega)]
 ·rw[World.cell?_setCell_other _ _ _ _ (fun h=>e (znQ h).symm),h.cell i hi];unfold qO at e
  by_cases hp:0<x
  ·rw[if_pos hp] at e;rw[if_neg (by omega),if_neg (by omega)]
  ·rw[if_neg hp] at e;rw[if_neg (by omega),if_neg (by omega)]
theorem zcm(p:Addr)(told:List Int)(hc:qN told)(x:Int)(hx:qi 24 x=true)(w:World)(hv:yY w p told) :
  zC 194 #[.pointer (some p),.int .i64 x] w fun e w'=>e=.returned (.int .i8 (qt told x))/\w=w':=by
 rw[q7] at hx
 by_cases hp:0<x
 ·obtain⟨t,rfl⟩:∃t:Nat,x=(t:Int)+1:=⟨x.toNat-1,by omega⟩;have ht:t<24:=by omega
  have hc:=hv.cell t ht;rw[zlg];clear hx hv;generalize tv told t=s at *;go_enter Tryz.func194,Tryz.ntmps194;go_wp2;go_ret;exact⟨rfl,rfl⟩
 ·obtain⟨t,rfl⟩:∃t:Nat,x=-((t:Int)+1):=⟨(-x).toNat-1,by omega⟩;have ht:t<24:=by omega
  have hcl:=hv.cell t ht;have hb:=zkb told t;rw[zkX hc];clear hx hv hc;generalize tv told t=s at *;have hw:IntKind.i8.wrap (-s)=-s:=by
   have:s=-1\/s=0\/s=1:=by omega
   rcases this with rfl|rfl|rfl<;>decide
  go_enter Tryz.func194,Tryz.ntmps194;go_wp2;go_ret;exact⟨by first|rfl|simp[hw],rfl⟩
theorem zaQ(p:Addr)(told:List Int)(x:Int)(hx:qi 24 x=true)(w:World)(hv:yY w p told) :
  zC 104 #[.pointer (some p),.int .i64 x] w fun e w'=>e=.returned (.tuple #[])/\w'=w.setCell (p.add (qO x)) (.int .i8 (yN x)):=by
 rw[q7] at hx
 by_cases hp:0<x
 ·obtain⟨t,rfl⟩:∃t:Nat,x=(t:Int)+1:=⟨x.toNat-1,by omega⟩;have ht:t<24:=by omega
  have hc:=hv.cell t ht;have hf:=hv.fz t ht;have e1:qO ((t:Int)+1)=t:=by unfold qO;rw[if_pos hp];omega
  have e2:yN ((t:Int)+1)=1:=by unfold yN;rw[if_pos hp]
  rw[e1,e2];clear hx hv e1 e2;go_enter Tryz.func104,Tryz.ntmps104;go_wp2;refine bodyPost_end (v:=.tuple #[]) (by simp[results,Tryz.results104,go_sem]) rfl ?_;exact⟨rfl,rfl⟩
 ·obtain⟨t,rfl⟩:∃t:Nat,x=-((t:Int)+1):=⟨(-x).toNat-1,by omega⟩;have ht:t<24:=by omega
  have hc:=hv.cell t ht;have hf:=hv.fz t ht;have e1:qO (-((t:Int)+1))=t:=by unfold qO;rw[if_neg hp];omega
  have e2:yN (-((t:Int)+1))=-1:=by unfold yN;rw[if_neg hp]
  rw[e1,e2];clear hx hv e1 e2;go_enter Tryz.func104,Tryz.ntmps104;go_wp2;refine bodyPost_end (v:=.tuple #[]) (by simp[results,Tryz.results104,go_sem]) rfl ?_;exact⟨rfl,rfl⟩
theorem zlR(p:Addr)(told:List Int)(hc:qN told)(x:Int)(hx:qi 24 x=true)(b:Nat)(w:World)(hv:yY w p told)(hb:w.cell? ⟨b,0,none⟩=some (.pointer (some p))) :
  zC 193 #[.int .i64 x,.pointer (some ⟨b,0,none⟩)] w fun e w'=>e=.returned (.bool (decide (0<=qt told x)))/\w=w':=by
 have HS:=zH (zcm p told hc x hx w hv);clear hv hx hc;generalize qt told x=s at *;go_enter Tryz.func193,Tryz.ntmps193;go_wp2_with fail;refine HS.out.mono ?_;rintro e w1 ⟨rfl,rfl⟩;go_wp2;go_ret;exact⟨by first|rfl|simp,rfl⟩
theorem zoC(p:Addr)(told:List Int)(hc:qN told)(x one:Int)(hx:qi 24 x=true)(b b2:Nat)(w:World)(hv:yY w p told)(hb:w.cell? ⟨b,0,none⟩=some (.pointer (some p)))(hb2:w.cell? ⟨b2,0,none⟩=some (.int .i64 one)) :
  zC 195 #[.int .i64 x,.pointer (some ⟨b,0,none⟩),.pointer (some ⟨b2,0,none⟩)] w fun e w'=>e=.returned (.bool (xO told one x))/\w=w':=by
 have HS:=zH (zcm p told hc x hx w hv);have hsb:=zkP told x;unfold xO;clear hv hx hc;generalize qt told x=s at *;rcases hsb with rfl|rfl|rfl
 ·go_enter Tryz.func195,Tryz.ntmps195;go_wp2_with (go_at_call 194;refine HS.out.mono ?_;rintro e w1 ⟨rfl,rfl⟩);go_ret;exact⟨by first|rfl|simp,rfl⟩
 ·go_enter Tryz.func195,Tryz.ntmps195;go_wp2_with (go_at_call 194;refine HS.out.mono ?_;rintro e w1 ⟨rfl,rfl⟩);go_ret;exact⟨by first|rfl|simp,rfl⟩
 ·go_enter Tryz.func195,Tryz.ntmps195;go_wp2_with (go_at_call 194;refine HS.out.mono ?_;rintro e w1 ⟨rfl,rfl⟩);go_ret;exact⟨by first|rfl|simp,rfl⟩
theorem qr.drop{w:World}{ad:Addr}{xs:List Int}(h:qr w (some ad) xs)(k:Nat):qr w (some (ad.add k)) (xs.drop k):=by
 intro i hi;rw[List.length_drop] at hi;obtain⟨ad',e,hl,hc⟩:=h (k+i) (by omega);obtain rfl:=Option.some.inj e;refine⟨_,rfl,by rw[xm];exact hl,?_⟩;rw[add_add,hc];simp[List.getD_eq_getElem?_getD]
theorem zj4:∀args w,(callFunc 193 args).run Tryz.prog w=.ok (.enter 193 args) w:=by intro args w;kernel_rfl
theorem zod:∀args w,(callFunc 195 args).run Tryz.prog w=.ok (.enter 195 args) w:=by intro args w;kernel_rfl
theorem zkk(p:Addr)(told:List Int)(hc:qN told)(c:List Int)(hx:yP 24 c)(a:Option Addr)(cap:Nat)(w:World)(hv:yY w p told)(hI:qr w a c)(hm:cap<=9223372036854775807)(hm2:c.length<=cap) :
  zR 161 #[.pointer (some p),.slice a c.length cap] w (.tuple #[.int .i64 (qD told c).1,.bool (qD told c).2]):=by
 have hb0:=zf w (.cells #[.pointer (some p)] 262);have hc0:∀W,Below (w.heap.size+1) (w.alloc (.cells #[.pointer (some p)] 262)) W->W.cell? ⟨w.heap.size,0,none⟩=some (.pointer (some p)):=fun W hW=>(hW.cell (p:=⟨w.heap.size,0,none⟩) (by simp)).trans (by simp);have HIX:=zH (zbJ 193 #[.pointer (some ⟨w.heap.size,0,none⟩)] (fun x=>decide (0<=qt told x)) c a cap (w.alloc (.cells #[.pointer (some p)] 262)) (by omega) zj4 (hI.below hb0) (fun W i hW hi=>(zlR p told hc (c.getD i 0) (hx _ (xL hi)) w.heap.size W ((hv.below hb0).below hW) (hc0 W (hW.mono (by simp)))).mono fun e w' ⟨he,hw⟩=>⟨he,hw▸Below.refl _ _⟩));have HB0:=zH hb0;have HC0:=zH hc0;have HV:=zH hv;have HI:=zH hI;have HX:=zH hx;have HCO:=zH hc;clear hb0 hc0 hv hI hx hc;rcases KN (fun x=>decide (0<=qt told x)) c 0 with ⟨hi,-⟩|⟨k,hi,hk,-,-⟩
 ·have hres:qD told c=(0,true):=by unfold qD;rw[hi,if_pos (by omega)]
  rw[hres];rw[hi] at HIX;clear hi hres;go_enter Tryz.func161,Tryz.ntmps161;go_wp2_with fail;refine HIX.out.mono ?_;rintro e w1 ⟨rfl,hb1⟩;have HB1:Hid (zB w w1):=HB0.out.trans (hb1.mono (by simp));clear hb1 HIX;go_wp2;go_ret2;exact⟨rfl,HB1.out⟩
 ·have hres:qD told c=if (c.drop k).any (xO told (c.getD k 0)) then (0,false) else (c.getD k 0,true):=by
   unfold qD;rw[hi,if_neg (by omega),Int.toNat_natCast]
  rw[hi] at HIX;have HRES:=zH hres;clear hi hres;obtain⟨ad,rfl,-,-⟩:=HI.out k hk;go_enter Tryz.func161,Tryz.ntmps161;go_wp2_with fail;refine HIX.out.mono ?_;rintro e w1 ⟨rfl,hb1⟩;replace hb1:=Below.mono (B':=w.heap.size+1) hb1 (by simp);have hb1':zB w w1:=HB0.out.trans (hb1.mono (by omega));have hI1:=HI.out.below hb1';have hv1:=HV.out.below hb1';obtain⟨ad',ea,hl,hcell⟩:=hI1 k hk;obtain rfl:=Option.some.inj ea;clear ea;generalize hone:c.getD k 0=one at *;have hb2:zB w1 (w1.alloc (.cells #[.int .i64 one] 3)):=zf w1 _;have hlen:(c.drop k).length=c.length-k:=by simp
  have HCF:=zbz 195 #[.pointer (some ⟨w.heap.size,0,none⟩),.pointer (some ⟨w1.heap.size,0,none⟩)] (xO told one) (c.drop k) (some (ad.add k)) (cap-k) (w1.alloc (.cells #[.int .i64 one] 3)) (by rw[hlen];omega) zod ((hI1.below hb2).drop k) (fun W i hW hi=>(zoC p told HCO.out ((c.drop k).getD i 0) one (HX.out _ (List.mem_of_mem_drop (xL hi))) w.heap.size w1.heap.size W ((hv1.below hb2).below hW) (HC0.out W (hb1.trans ((hb2.trans (hW.mono (by simp))).mono (by have:=hb1.size;rw[World.size_alloc] at this;exact this)))) ((hW.cell (p:=⟨w1.heap.size,0,none⟩) (by simp)).trans (by simp))).mono fun e w' ⟨he,hw⟩=>⟨he,hw▸Below.refl _ _⟩);rw[hlen] at HCF;have HCFF:=zH HCF;have HBX:Hid (∀W,Below (w1.alloc (.cells #[.int .i64 one] 3)).heap.size (w1.alloc (.cells #[.int .i64 one] 3)) W->zB w W/\W.cell? ⟨w1.heap.size,0,none⟩=some (.int .i64 one)):=fun W hW=>⟨hb1'.trans ((hb2.trans (hW.mono (by simp))).mono hb1'.size),(hW.cell (p:=⟨w1.heap.size,0,none⟩) (by simp)).trans (by simp)⟩;clear HCF hlen hb1 hb1' hI1 hv1 HIX hb2 hone;generalize hmore:(c.drop k).any (xO told one)=more at *;clear hmore;cases more with
  |true =>have HR2:Hid (qD told c=(0,false)):=HRES.out;clear HRES;go_wp2_with fail;refine HCFF.out.mono ?_;rintro e w2 ⟨rfl,hb2⟩;have HB2:=zH (HBX.out _ hb2);clear hb2 HCFF HBX;go_wp2;go_ret2;exact⟨by rw[HR2.out];rfl,HB2.out.1⟩
  |false =>have HR2:Hid (qD told c=(one,true)):=HRES.out;clear HRES;go_wp2_with fail;refine HCFF.out.mono ?_;rintro e w2 ⟨rfl,hb2⟩;have HB2:=zH (HBX.out _ hb2);have hone:=HB2.out.2;clear hb2 HCFF HBX;go_wp2;go_ret2;exact⟨by rw[HR2.out];rfl,HB2.out.1⟩
theorem Jf(p:Addr)(told:List Int)(hc:qN told)(l:List (List Int))(hx:yt 24 l)(a:Option Addr)(cap:Nat)(w:World)(hv:yY w p told)(hI:yK w a l)(hm:l.length<=9223372036854775807) :
  zR 103 #[.pointer (some p),.slice a l.length cap] w (.tuple #[.int .i64 (zO told l).1,.int .i64 (zO told l).2]):=by
 have HV:=zH hv;have HI:=zH hI;have HX:=zH hx;have HCO:=zH hc;clear hv hI hx hc;go_enter Tryz.func103,Tryz.ntmps103;go_wp2_with fail;go_loopw [12] (fun kV wr=>∃k:Nat,k<=l.length/\kV=.int .i64 k/\(∀j,j<k->(qD told (l.getD j [])).2=false)/\zB w wr) (fun kV _=>l.length-(intOf kV).toNat)
 case atStart=>exact⟨0,Nat.zero_le _,rfl,fun j h=>by omega,Below.refl _ _⟩
 case round =>
  obtain⟨k,hk,rfl,h1,hbr⟩:=hrel;have H1:=zH h1;have HBR:=zH hbr;clear h1 hbr
  by_cases hlt:k<l.length
  ·obtain⟨ad,a',cap',rfl,hl',hcl,g1,g2,g3⟩:=HI.out.below HBR.out k hlt;have HON:=zH (zkk p told HCO.out (l.getD k []) (HX.out _ (xL hlt)) a' cap' wr (HV.out.below HBR.out) g3 g2 g1);have HN:Hid ((qD told (l.getD k [])).2=true->zO told l=((k:Int),(qD told (l.getD k [])).1)):=fun h=>zfO H1.out hlt h;generalize hcc:l.getD k []=c at *;have HCC:=zH hcc;clear hcc;generalize hr:qD told c=r at *;have HRR:=zH hr;obtain⟨x,ok⟩:=r;simp only at HON HN;clear g3 hr;cases ok with
   |true =>have HR:Hid (zO told l=((k:Int),x)):=HN.out rfl;clear HN;go_wp2_with fail;refine HON.out.mono ?_;rintro e w1 ⟨rfl,hb1⟩;have HB1:Hid (zB w w1):=zT HBR.out hb1;clear hb1 HON;go_wp2;go_ret2;exact⟨by rw[HR.out];rfl,HB1.out⟩
   |false =>
    clear HN;go_wp2_with fail;refine HON.out.mono ?_;rintro e w1 ⟨rfl,hb1⟩;have HB1:Hid (zB w w1):=zT HBR.out hb1;clear hb1 HON;go_wp2;go_roundw
    case rel=>exact ⟨k + 1,hlt,by go_num,fun j hj=>(by
     rcases Nat.lt_succ_iff_lt_or_eq.1 hj with e|e
     ·exact H1.out j e
     ·rw [e,HCC.out,HRR.out]),HB1.out⟩
    case measure=>simp[intOf];omega
  ·obtain rfl:k=l.length:=by omega
   have HR:Hid (zO told l=(-1,0)):=zfX H1.out;go_wp2;go_ret2;exact⟨by rw[HR.out];rfl,HBR.out⟩
end
end Go.Proofs.YtapobpgbcbplbaaGreatDoor
