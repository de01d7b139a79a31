/- Bytes from a place on. Plain. -/
import Derived.Test.YtlamemjfaogjmaaGreatDoorPlKeeps
import Derived.Shelf.Strings.OnBuilder
import Derived.Shelf.Strings.Replace
import Derived.Shelf.Strings.BuilderK
open Go.Proofs.YtlamemjfaogjmaaGreatDoor
set_option maxHeartbeats 2000000
set_option maxRecDepth 100000
namespace Go.Proofs.YtlamemjfaogjmaaGreatDoor
open Go.RowKit Go.Deep Sv
theorem zgg(bk:Nat)(ls:List Ln)(its:List It)(set:Nat)(w:World)(h:zV w bk ls its)(hl:its.length<=24)(hlt:¬set<2^its.length) :
  zR 40 #[.pointer (some ⟨bk,0,none⟩),.int .u64 set] w (.bool (qh its set)):=by
 have HI:=zH (XC bk ls its w h (by omega));have hz:¬(set:Int)/2^its.length=0:=fun e=>by
  have:set/2^its.length=0:=by
   have e2:((set/2^its.length:Nat):Int)=(set:Int)/2^its.length:=by simp
   omega
  exact hlt ((Yj _ _).1 this)
 have HB:Hid (qh its set=false):=by show _=_;unfold qh;rw[decide_eq_false hlt,Bool.false_and]
 rw[HB.out];clear h hlt;go_enter Tryz.func40,Tryz.ntmps40;go_wp2_with fail;refine HI.out.mono ?_;rintro e w1 ⟨v',rfl,hown,hb1⟩;obtain⟨ia,ic,rfl,-⟩:∃a c,v'=.slice a its.length c/\True:=by obtain⟨a,c,e,_⟩:=(zD hown).form;exact⟨a,c,e,trivial⟩
 have HB1:=zH hb1;clear hown hb1 HI;go_wp2;go_ret;exact⟨rfl,HB1.out⟩
theorem zgQ(bk:Nat)(ls:List Ln)(its:List It)(set:Nat)(w:World)(h:zV w bk ls its)(hl:its.length<=24)(hnm:∀x∈its,x.name.size<=100000)(hlt:set<2^its.length) :
  zR 40 #[.pointer (some ⟨bk,0,none⟩),.int .u64 set] w (.bool (qh its set)):=by
 have hs:set<16777216:=Nat.lt_of_lt_of_le hlt (Nat.pow_le_pow_right (n:=2) (by decide) hl);have HI:=zH (XC bk ls its w h (by omega));have hz:(set:Int)/2^its.length=0:=by
  have e2:((set/2^its.length:Nat):Int)=(set:Int)/2^its.length:=by simp
  have:=(Yj set its.length).2 hlt;omega
 have HNM:=zH hnm;have HCAT:=zH h;have HSB:Hid (qh its set=its.all fun x=>decide (qZ (set&&&amS its x.name zd)<=1)):=by show _=_;unfold qh;rw[decide_eq_true hlt,Bool.true_and]
 have HANY:Hid (∀W,zC 70 #[] W fun e w'=>∃a' c',e=.returned (.agg #[.slice a' zd.length c'])/\zb w' (.slice a' zd.length c') zd/\zB W w'):=fun W=>(xW W).mono fun e w' ⟨v',he,hs,hn,hb⟩=>by obtain⟨a',c',rfl⟩:=hs.form;exact⟨a',c',he,hs,hb⟩
 have HAM:Hid (∀(W:World) (nm:ByteArray) (va:Option Addr) (vc:Nat),zB w W->nm.size<=100000->zb W (.slice va zd.length vc) zd->zR 45 #[.pointer (some ⟨bk,0,none⟩),.string nm,.agg #[.slice va zd.length vc]] W (.int .u64 (amS its nm zd))):=fun W nm va vc hb hn hsp =>
  Z6 bk ls its nm zd Zu (.slice va zd.length vc) W (h.below hb zN) hl hn hsp
 have HON:Hid (∀(W:World) (q:Nat),q<16777216->zC 69 #[.int .u64 q] W fun e w'=>e=.returned (.int .i64 (qZ q))/\w'=W):=fun W q hq=>zd8 q hq W;clear h hlt hnm;go_enter Tryz.func40,Tryz.ntmps40;go_wp2_with fail;refine HI.out.mono ?_;rintro e w1 ⟨v',rfl,hown,hb1⟩;obtain⟨ia,ic,rfl,-⟩:∃a c,v'=.slice a its.length c/\True:=by obtain⟨a,c,e,_⟩:=(zD hown).form;exact⟨a,c,e,trivial⟩
 have HIT:Hid (zS w1 (.slice ia its.length ic) its):=zD hown;have HB1:=zH hb1;clear hown hb1 HI;go_wp2_with fail;go_loopw [17] (fun iV wr=>∃i:Nat,i<=its.length/\iV=.int .i64 i/\(∀j,j<i->qZ (set&&&amS its (its.getD j default).name zd)<=1)/\zB w1 wr) (fun iV _=>its.length-(intOf iV).toNat)
 case atStart=>exact⟨0,Nat.zero_le _,rfl,fun j hj=>by omega,Below.refl _ _⟩
 case round =>
  obtain⟨i,hil,rfl,hall,hbr⟩:=hrel;have HALL:=zH hall;have HBR:=zH hbr;clear hall
  by_cases hlt:i<its.length
  ·obtain⟨g,cap',e,hg,c0,c1,c2,c3⟩:=(show zS wr _ its from HIT.out.below hbr zN).at i hlt;simp at e;obtain⟨rfl,rfl⟩:=e;have hii0:(0:Int)<=(i:Int):=by omega
   have hii1:(i:Int)<(its.length:Int):=by omega
   have hnm:=HNM.out (its.getD i default) (by rw[List.getD_eq_getElem?_getD,List.getElem?_eq_getElem hlt];exact List.getElem_mem hlt);have HX:Hid (∃x,its.getD i default=x):=⟨_,rfl⟩;obtain⟨x,hx⟩:=HX.out;rw[hx] at c0 c1 c2 c3 hnm;have HXE:=zH hx;have hbn:=qE wr (.cells #[.string x.name,.int .i64 x.a,.int .i64 x.b,.int .i64 x.c] 145);have kx:=Blk.new wr 145 #[.string x.name,.int .i64 x.a,.int .i64 x.b,.int .i64 x.c];have HBN:Hid (zB w1 (wr.alloc (.cells #[.string x.name,.int .i64 x.a,.int .i64 x.b,.int .i64 x.c] 145))):=zT hbr hbn;have hNw:(wr.alloc (.cells #[.string x.name,.int .i64 x.a,.int .i64 x.b,.int .i64 x.c] 145)).heap.size=wr.heap.size+1:=by simp
   clear hbr hbn hx HX;go_upto_region 7 with fail;generalize wr.alloc (.cells #[.string x.name,.int .i64 x.a,.int .i64 x.b,.int .i64 x.c] 145)=W6 at *;generalize wr.heap.size=bx at *;have hxl:=kx.lt;have SC:Hid (∀W,zB W6 W->W.cell? ⟨bx,0,none⟩=some (.string x.name)):=fun W h=>(kx.below h hxl).cell 0;have D0:zB W6 W6.drew:=zF.drew;have HAq:Hid (∀(W:World) (va:Option Addr) (vc:Nat),zB W6 W->zb W (.slice va zd.length vc) zd->zR 45 #[.pointer (some ⟨bk,0,none⟩),.string x.name,.agg #[.slice va zd.length vc]] W (.int .u64 (amS its x.name zd))):=fun W va vc hb hsp=>HAM.out W x.name va vc (HB1.out.trans ((zT HBN.out hb).mono HB1.out.size)) hnm hsp;have ham:=ZE its x.name zd hl;have hand:=yl set (amS its x.name zd) (by omega) (by omega);have hq24:set&&&amS its x.name zd<16777216:=Nat.lt_of_le_of_lt Nat.and_le_left hs;obtain⟨A,hA⟩:∃A,amS its x.name zd=A:=⟨_,rfl⟩;rw[hA] at HAq ham hand hq24;have HAE:=zH hA;obtain⟨Q,hQ⟩:∃Q,set&&&A=Q:=⟨_,rfl⟩;rw[hQ] at hand hq24;have HQE:=zH hQ;have HOQ:Hid (∀(W:World),zC 69 #[.int .u64 Q] W fun e w'=>e=.returned (.int .i64 (qZ Q))/\w'=W):=fun W=>HON.out W Q hq24;have HANQ:=zH HANY.out;clear hA hQ c0 c1 c2 c3 kx hnm;obtain⟨C,hC⟩:∃C,qZ Q=C:=⟨_,rfl⟩;rw[hC] at HOQ;have HCE:=zH hC;clear hC;go_region_held3 (fun W=>W.cell? ⟨bx,0,none⟩=some (.string x.name)) (first|exact SC.out _ D0|exact SC.out _ D1|exact SC.out _ D2)
    (first
     |((with_reducible refine(HANQ.out _).mono ?_);rintro e x1 ⟨a1,q1,rfl,hsp1,hb1'⟩;have D1:zB W6 x1:=zT D0 hb1';clear HANQ D0 hb1')
     |((with_reducible refine(HAq.out _ _ _ D1 hsp1).mono ?_);rintro e x2 ⟨rfl,hb2'⟩;have D2:zB W6 x2:=zT D1 hb2';clear HAq D1 hb2' hsp1)
     | ((with_reducible refine (HOQ.out _).mono ?_);rintro e x3 ⟨rfl,hw3⟩;rw [hw3];clear HOQ hw3))
   have HB3:Hid (zB w1 x2):=zT HBN.out D2;clear SC D2 HBN HANY HAM HON hand
   by_cases hc:C<=1
   ·have HNX:Hid (∀j,j<i+1->qZ (set&&&amS its (its.getD j default).name zd)<=1):=fun j hj=>by
     rcases Nat.lt_succ_iff_lt_or_eq.1 hj with e|e
     ·exact HALL.out j e
     ·rw[e,HXE.out,HAE.out,HQE.out,HCE.out];exact hc
    go_wp2;go_roundw
    case rel=>exact⟨i+1,hlt,by go_num,HNX.out,HB3.out⟩
    case measure=>simp[intOf];omega
   ·have hci:(1:Int)<(C:Int):=by omega
    have HSB1:Hid (qh its set=false):=by
     show _=_;rw[HSB.out,List.all_eq_false];refine⟨x,by rw[<-HXE.out,List.getD_eq_getElem?_getD,List.getElem?_eq_getElem hlt];exact List.getElem_mem hlt,?_⟩;rw[HAE.out,HQE.out,HCE.out];simpa using hc
    have HB4:Hid (zB w x2):=zT HB1.out HB3.out;clear hc;go_wp2;go_ret;exact⟨by rw[HSB1.out];rfl,HB4.out⟩
  ·have hni:¬(i:Int)<(its.length:Int):=by omega
   have HSB1:Hid (qh its set=true):=by
    show _=_;rw[HSB.out,List.all_eq_true];intro x hx;obtain⟨j,hj,rfl⟩:=List.getElem_of_mem hx;have:=HALL.out j (by omega);rw[List.getD_eq_getElem?_getD,List.getElem?_eq_getElem hj] at this;exact decide_eq_true this
   have HB2:Hid (zB w wr):=zT HB1.out HBR.out;clear hbr HBR;go_wp2;go_ret;exact⟨by rw[HSB1.out];rfl,HB2.out⟩
theorem zb5(bk:Nat)(ls:List Ln)(its:List It)(set:Nat)(w:World)(h:zV w bk ls its)(hl:its.length<=24)(hnm:∀x∈its,x.name.size<=100000) :
  zR 40 #[.pointer (some ⟨bk,0,none⟩),.int .u64 set] w (.bool (qh its set)):=by
 by_cases hlt:set<2^its.length
 ·exact zgQ bk ls its set w h hl hnm hlt
 ·exact zgg bk ls its set w h hl hlt
end Go.Proofs.YtlamemjfaogjmaaGreatDoor
namespace Go.Proofs.YtlamemjfaogjmaaGreatDoor
open Go.RowKit Go.Deep Sv
theorem X9{ls:List Ln}{its:List It}(h:zk ls=.ok its):its.Perm (qy ls):=by
 unfold zk at h;split at h
 ·cases h
 ·split at h
  ·cases h
  ·rename_i g hg;split at h
   ·cases h
   ·cases h;have hi:=Ya ls 0 [] g hg;simp only[List.nil_append] at hi;exact hi▸xP g
theorem zhM{ls:List Ln}{its:List It}(h:zk ls=.ok its):∀x∈its,x.name.size<=100000:=fun x hx=>by
 have hm:=(X9 h).mem_iff.1 hx;unfold qy at hm;obtain⟨y,hy,rfl⟩:=List.mem_map.1 hm;exact(YY ((ya h).2.2 y (List.mem_filter.1 hy).1)).1
theorem XW{its:List It}{ls:List Ln}{set:Nat}(h:∀j,j<ls.length->zZ its (ls.getD j default) set=true):xL its ls set=none:=by
 unfold xL;rw[List.findIdx?_eq_none_iff];intro x hx;obtain⟨j,hj,rfl⟩:=List.getElem_of_mem hx;have:=h j hj;rw[List.getD_eq_getElem?_getD,List.getElem?_eq_getElem hj] at this;simpa using this
theorem Yb{its:List It}{ls:List Ln}{set i:Nat}(hi:i<ls.length)(h:∀j,j<i->zZ its (ls.getD j default) set=true)(hb:zZ its (ls.getD i default) set=false):xL its ls set=some i:=by
 unfold xL;rw[List.findIdx?_eq_some_iff_getElem];refine⟨hi,?_,fun j hj=>?_⟩
 ·rw[List.getD_eq_getElem?_getD,List.getElem?_eq_getElem hi] at hb;simpa using hb
 ·have:=h j hj;rw[List.getD_eq_getElem?_getD,List.getElem?_eq_getElem (show j<ls.length by omega)] at this;simpa using this
theorem Zh(ls:List Ln)(i:Nat)(h:i<ls.length):ls.getD i default∈ls:=by
 rw[List.getD_eq_getElem?_getD,List.getElem?_eq_getElem h];exact List.getElem_mem h
theorem Jg(bk:Nat)(ls:List Ln)(its:List It)(hN:zk ls=.ok its)(set:Nat)(w:World)(h:zV w bk ls its)(hs:set<18446744073709551616) :
  zR 20 #[.pointer (some ⟨bk,0,none⟩),.int .u64 set] w (.tuple #[.bool (zm its ls set).1,.int .i64 (zm its ls set).2]):=by
 obtain⟨hl,hll,hck⟩:=ya hN;have HSI0:=zb5 bk ls its set w h hl (zhM hN);cases hsi:qh its set with
 |false =>
  rw[hsi] at HSI0;have HSI:=zH HSI0;have HF:Hid (zm its ls set=(false,-2)):=by show _=_;unfold zm;rw[if_pos hsi]
  rw[HF.out];clear HSI0 hsi h hck;go_enter Tryz.func20,Tryz.ntmps20;go_wp2_with fail;refine HSI.out.mono ?_;rintro e w1 ⟨rfl,hb1⟩;have HB1:=zH hb1;clear hb1 HSI;go_wp2;go_ret2;exact⟨rfl,HB1.out⟩
 |true =>
  rw[hsi] at HSI0;have HSI:=zH HSI0;have HF:Hid (zm its ls set=QN (xL its ls set)):=by show _=_;unfold zm;rw[if_neg (by rw[hsi];decide)]
  have HCAT:=zH h;have HKE:Hid (∀(W:World) (i:Nat) (ra:Option Addr) (rc:Nat) (x:Ln),i<ls.length->ls.getD i default=x->zB w W->zb W (.slice ra x.rng.length rc) x.rng->Rg x.rng->zR 42 #[.pointer (some ⟨bk,0,none⟩),.agg #[.int .i64 x.kind,.string x.name,.int .i64 x.a,.int .i64 x.b,.int .i64 x.c,.string x.other,.slice ra x.rng.length rc],.int .u64 set] W (.bool (zZ its x set))):=fun W i ra rc x hi hx hb hsp hr =>
   zfQ bk ls its hN x (hx▸Zh ls i hi) ra rc set W (HCAT.out.below hb zN) hsp hr hs
  clear HSI0 hsi h hck hN;go_enter Tryz.func20,Tryz.ntmps20;go_wp2_with fail;refine HSI.out.mono ?_;rintro e w1 ⟨rfl,hb1⟩;have HLN:=zH (zbv bk ls its w1 (HCAT.out.below hb1 zN) (by omega));have HB1:=zH hb1;clear hb1 HSI;go_wp2_with fail;refine HLN.out.mono ?_;rintro e w2 ⟨lv,rfl,hlv,hb2⟩;obtain⟨la,lc,rfl⟩:∃a c,lv=.slice a ls.length c:=by obtain⟨vs',_,h2⟩:=hlv;obtain⟨a,c,e,_⟩:=h2.form;exact⟨a,c,e⟩
  have HLV:=zH hlv;have HB2:Hid (zB w w2):=zT HB1.out hb2;clear hlv hb2 HLN HB1;go_wp2_with fail;go_loopw [15] (fun iV wr=>∃i:Nat,i<=ls.length/\iV=.int .i64 i/\(∀j,j<i->zZ its (ls.getD j default) set=true)/\zB w2 wr) (fun iV _=>ls.length-(intOf iV).toNat)
  case atStart=>exact⟨0,Nat.zero_le _,rfl,fun j hj=>by omega,Below.refl _ _⟩
  case round =>
   obtain⟨i,hil,rfl,hall,hbr⟩:=hrel;have HALL:=zH hall;clear hall
   by_cases hlt:i<ls.length
   ·have hii0:(0:Int)<=(i:Int):=by omega
    have hii1:(i:Int)<(ls.length:Int):=by omega
    obtain⟨g,cap',rv,e,hg,hsp,hrg,c0,c1,c2,c3,c4,c5,c6⟩:=(HLV.out.below hbr zN).at i hlt;simp at e;obtain⟨rfl,rfl⟩:=e;obtain⟨x,hxe⟩:∃x,ls.getD i default=x:=⟨_,rfl⟩;rw[hxe] at hsp hrg c0 c1 c2 c3 c4 c5;obtain⟨ra,rc,rfl⟩:=hsp.form;have hb6:=qE wr (.cells #[.int .i64 x.kind,.string x.name,.int .i64 x.a,.int .i64 x.b,.int .i64 x.c,.string x.other,.slice ra x.rng.length rc] 92);have kx:=Blk.new wr 92 #[.int .i64 x.kind,.string x.name,.int .i64 x.a,.int .i64 x.b,.int .i64 x.c,.string x.other,.slice ra x.rng.length rc];have HB6:Hid (zB w2 (wr.alloc (.cells #[.int .i64 x.kind,.string x.name,.int .i64 x.a,.int .i64 x.b,.int .i64 x.c,.string x.other,.slice ra x.rng.length rc] 92))):=zT hbr hb6;have HK6:=zH (HKE.out _ i ra rc x hlt hxe (zT HB2.out HB6.out) (hsp.below hb6 zN) hrg);have HXE:=zH hxe;clear hsp hrg hxe hb6 hbr;go_upto_region 6 with fail;generalize wr.alloc (.cells #[.int .i64 x.kind,.string x.name,.int .i64 x.a,.int .i64 x.b,.int .i64 x.c,.string x.other,.slice ra x.rng.length rc] 92)=W6 at *;generalize wr.heap.size=bx at *;have x0:_=some (Value.int .i64 x.kind):=kx.cell 0;have x1:_=some (Value.string x.name):=kx.cell 1;have x2:_=some (Value.int .i64 x.a):=kx.cell 2;have x3:_=some (Value.int .i64 x.b):=kx.cell 3;have x4:_=some (Value.int .i64 x.c):=kx.cell 4;have x5:_=some (Value.string x.other):=kx.cell 5;have x6:_=some (Value.slice ra x.rng.length rc):=kx.cell 6;clear c0 c1 c2 c3 c4 c5 c6 hg kx;go_wp2_with fail;refine HK6.out.mono ?_;rintro e w7 ⟨rfl,hb7⟩;have HB7:Hid (zB w2 w7):=zT HB6.out hb7;clear hb7 HB6 HK6 x0 x1 x2 x3 x4 x5 x6;cases hk:zZ its x set with
    |true =>
     have HNX:Hid (∀j,j<i+1->zZ its (ls.getD j default) set=true):=fun j hj=>by
      rcases Nat.lt_succ_iff_lt_or_eq.1 hj with e|e
      ·exact HALL.out j e
      ·rw[e,HXE.out];exact hk
     clear hk;go_wp2;go_roundw
     case rel=>exact⟨i+1,hlt,by go_num,HNX.out,HB7.out⟩
     case measure=>simp[intOf];omega
    |false =>
     have HBD:Hid (zm its ls set=(false,(i:Int))):=by show _=_;rw[HF.out,Yb hlt HALL.out (by rw[HXE.out];exact hk)];rfl
     have HB8:Hid (zB w w7):=zT HB2.out HB7.out;clear hk;go_wp2;go_ret2;exact⟨by rw[HBD.out];rfl,HB8.out⟩
   ·obtain rfl:i=ls.length:=by omega
    have HBD:Hid (zm its ls set=(true,-1)):=by show _=_;rw[HF.out,XW HALL.out];rfl
    have HB8:Hid (zB w wr):=zT HB2.out hbr;clear hbr;go_wp2;go_ret2;exact⟨by rw[HBD.out];rfl,HB8.out⟩
end Go.Proofs.YtlamemjfaogjmaaGreatDoor
namespace Go.Proofs.YtlamemjfaogjmaaGreatDoor
open Sv
theorem XU(x:Nat):qZ x<=1↔∀i k,i<24->k<24->x.testBit i=true->x.testBit k=true->i=k:=by
 unfold qZ;obtain⟨L,hL⟩:∃L,(List.range 24).filter (fun i=>x.testBit i)=L:=⟨_,rfl⟩;have hm:∀i,i∈L↔i<24/\x.testBit i=true:=fun i=>by rw[<-hL,List.mem_filter,List.mem_range]
 have hnd:L.Nodup:=by rw[<-hL];exact List.Nodup.sublist List.filter_sublist List.nodup_range
 rw[hL];constructor
 ·intro h i k hi hk h1 h2;have a:=(hm i).2 ⟨hi,h1⟩;have b:=(hm k).2 ⟨hk,h2⟩
  match L,h,a,b with
  |[y],_,a,b=>rw[List.mem_singleton] at a b;rw[a,b]
  |[],_,a,_=>cases a
  |_ :: _ :: _,h,_,_=>simp at h
 ·intro h
  match L,hm,hnd with
  |[],_,_=>simp
  |[y],_,_=>simp
  |y :: z :: r,hm,hnd =>exfalso;have a:=(hm y).1 (by simp);have b:=(hm z).1 (by simp);have:=h y z a.1 b.1 a.2 b.2;subst this;simp at hnd
theorem zfz{ls:List Ln}{its:List It}(h:zk ls=.ok its):∀x∈its,InV x.a x.b x.c:=fun x hx=>by
 have hm:=(X9 h).mem_iff.1 hx;unfold qy at hm;obtain⟨y,hy,rfl⟩:=List.mem_map.1 hm;exact zea ((ya h).2.2 y (List.mem_filter.1 hy).1)
theorem KP(its:List It)(i:Nat)(h:i<its.length):its.getD i default∈its:=by
 rw[List.getD_eq_getElem?_getD,List.getElem?_eq_getElem h];exact List.getElem_mem h
theorem zeZ{x:It}(h:InV x.a x.b x.c):qL zd x:=by
 refine⟨h,?_⟩;obtain⟨⟨a0,a1⟩,⟨b0,b1⟩,c0,c1⟩:=h;refine J4.2 ?_;show _<1000000000;unfold yV;omega
open Classical in
theorem zdR{its:List It}(ha:Asc its)(name:ByteArray)(rng:List Span)(i:Nat):i∈zO its name rng↔i<its.length/\(its.getD i default).name=name/\qL rng (its.getD i default):=by
 unfold zO;rw[List.mem_filter,List.mem_range'_1,decide_eq_true_iff];have hb:=Yd its name;constructor
 ·rintro⟨h1,h2⟩;have hi:i<its.length:=by omega
  exact⟨hi,(Y1 ha name i hi).2 (by omega),h2⟩
 ·rintro⟨hi,hn,h2⟩;have:=(Y1 ha name i hi).1 hn;exact⟨by omega,h2⟩
theorem YH{ls:List Ln}{its:List It}(h:zk ls=.ok its)(name:ByteArray)(i:Nat):i∈zO its name zd↔i<its.length/\(its.getD i default).name=name:=by
 rw[zdR (ZF h).1];exact⟨fun⟨a,b,_⟩=>⟨a,b⟩,fun⟨a,b⟩=>⟨a,b,zeZ (zfz h _ (KP its i a))⟩⟩
def Jt(its:List It)(set:Nat):Prop:=set<2^its.length/\∀i k,i<its.length->k<its.length->i≠k->set.testBit i=true->set.testBit k=true->(its.getD i default).name≠(its.getD k default).name
theorem ze5{ls:List Ln}{its:List It}(h:zk ls=.ok its)(set:Nat):qh its set=true↔Jt its set:=by
 have hl:=(ya h).1;unfold qh Jt;rw[Bool.and_eq_true,decide_eq_true_iff,List.all_eq_true];constructor
 ·rintro⟨h1,h2⟩;refine⟨h1,fun i k hi hk hne b1 b2 hn=>hne ?_⟩;have:=of_decide_eq_true (h2 _ (KP its i hi));rw[XU] at this;refine this i k (by omega) (by omega) ?_ ?_
  ·rw[Nat.testBit_and,b1,ZB,decide_eq_true ((YH h _ i).2 ⟨hi,rfl⟩)];rfl
  ·rw[Nat.testBit_and,b2,ZB,decide_eq_true ((YH h _ k).2 ⟨hk,hn.symm⟩)];rfl
 ·rintro⟨h1,h2⟩;refine⟨h1,fun x hx=>decide_eq_true ?_⟩;rw[XU];intro i k hi hk b1 b2;rw[Nat.testBit_and,Bool.and_eq_true,ZB,decide_eq_true_iff,YH h] at b1 b2;apply Classical.byContradiction;intro hne;exact h2 i k b1.2.1 b2.2.1 hne b1.1 b2.1 (b1.2.2.trans b2.2.2.symm)
def qx(set:Nat)(l:List Nat):Bool:=l.any fun k=>set.testBit k
theorem YP(its:List It)(name:ByteArray)(rng:List Span)(set:Nat):decide (set&&&amS its name rng≠0)=qx set (zO its name rng):=by
 rw[Bool.eq_iff_iff,decide_eq_true_iff];unfold qx;rw[List.any_eq_true];constructor
 ·intro h;apply Classical.byContradiction;intro hc;refine h ((Ql _ _).2 fun i ⟨h1,h2⟩=>hc ⟨i,?_,h1⟩);rw[ZB] at h2;exact of_decide_eq_true h2
 ·rintro⟨k,hk,hb⟩ h;refine(Ql _ _).1 h k ⟨hb,?_⟩;rw[ZB,decide_eq_true hk]
theorem zfZ(its:List It)(name:ByteArray)(rng:List Span)(set:Nat):decide (set&&&amS its name rng=0)=!qx set (zO its name rng):=by
 rw[<-YP,Bool.eq_iff_iff];simp
theorem zd1(set k:Nat):decide (set&&&2^k=0)=!set.testBit k:=by
 have:=Yf set k;rw[Bool.eq_iff_iff,decide_eq_true_iff];cases hb:set.testBit k
 ·rw[hb] at this;simp at this ⊢;exact this
 ·rw[hb] at this;simp at this ⊢;exact this
theorem zec(its:List It)(x:Ln)(set:Nat):zZ its x set =
  if x.kind=4 then qx set (zO its x.name x.rng)
  else if x.kind=2 then !set.testBit (zi its x)||qx set (zO its x.other x.rng)
  else if x.kind=3 then !set.testBit (zi its x)||!qx set (zO its x.other x.rng)
  else true:=by
 unfold zZ;rw[YP,YP,zfZ,zd1]
end Go.Proofs.YtlamemjfaogjmaaGreatDoor
namespace Go.Proofs.YtlamemjfaogjmaaGreatDoor
open Sv
theorem zeY:Tryz.prog.follows .mixedOrders=true:=by kernel_rfl
theorem Kg:∀a b:List UInt8,Op.bytesLess a b=decide (Lib.compareBytes a b<0)
 |[],[]=>by rfl
 |[],_ :: _=>by rfl
 |_ :: _,[]=>by rfl
 |x :: a,y :: b=>by
  have ih:=Kg a b;unfold Op.bytesLess Lib.compareBytes
  by_cases h1:x<y
  ·simp[h1]
  ·by_cases h2:y<x
   ·have h3:x≠y:=fun e=>by subst e;exact h1 h2
    simp[h1,h2,h3]
   ·have h3:x=y:=Q7 h1 h2;subst h3;simp[ih]
theorem XO(x y:ByteArray):Op.bytesLess x.toList y.toList=decide (Lib.compareBytes x.data.toList y.data.toList<0):=by
 rw[ByteArray.toList_eq,ByteArray.toList_eq];exact Kg _ _
end Go.Proofs.YtlamemjfaogjmaaGreatDoor
namespace Go.Proofs.YtlamemjfaogjmaaGreatDoor
open Go.RowKit
theorem zu(n lo hi:Int)(w:World):zC 66 #[.int .i64 n,.int .i64 lo,.int .i64 hi] w fun e w'=>e=.returned (.bool (decide (lo<=n/\n<=hi)))/\w=w':=by
 by_cases h1:lo<=n
 ·by_cases h2:n<=hi
  ·rw[show decide (lo<=n/\n<=hi)=true by simp[h1,h2]];go_enter Tryz.func66,Tryz.ntmps66;go_wp2;go_ret;exact⟨rfl,rfl⟩
  ·rw[show decide (lo<=n/\n<=hi)=false by simp[h2]];go_enter Tryz.func66,Tryz.ntmps66;go_wp2;go_ret;exact⟨rfl,rfl⟩
 ·rw[show decide (lo<=n/\n<=hi)=false by simp[h1]];go_enter Tryz.func66,Tryz.ntmps66;go_wp2;go_ret;exact⟨rfl,rfl⟩
end Go.Proofs.YtlamemjfaogjmaaGreatDoor
namespace Go.Proofs
open Go.Shelf
def Tryz.lays137_ren:Go.Shelf.Ren:=⟨fun|137=>79|217=>109|266=>136|n=>n,fun|9=>9|5=>5|3=>3|n=>n,fun|n=>n⟩
theorem Tryz.lays137:Go.Proofs.Lays.n137 Tryz.prog Tryz.lays137_ren:={
 mixed:=by kernel_rfl
 f137:=zK Tryz.func79 (by kernel_rfl)
 f217:=zK Tryz.func109 (by kernel_rfl)
 f266:=zK Tryz.func136 (by kernel_rfl)
 t3:=Tryz.underlying3
 a3:=Tryz.isAgg3
 z3:=Tryz.sizeOf3
 v3:=Tryz.zeroValue3
 t5:=Tryz.underlying5
 a5:=Tryz.isAgg5
 z5:=Tryz.sizeOf5
 v5:=Tryz.zeroValue5
 t9:=Tryz.underlying9
 a9:=Tryz.isAgg9
 z9:=Tryz.sizeOf9
 v9:=Tryz.zeroValue9 }
open Go.RowKit in
theorem Tryz.strings_IndexByte(s:ByteArray)(c:Int)(w:World) :
  zC 79 #[.string s,.int .u8 c] w fun e w'=>e=.returned (.int .i64 (Lib.indexByte s.data.toList c.toNat.toUInt8))/\w'=w:=Any.strings_IndexByte Tryz.lays137 s c w
def Tryz.lays146_ren:Go.Shelf.Ren:=⟨fun|146=>30|221=>50|268=>76|138=>77|143=>78|195=>105|197=>106|218=>107|219=>108|260=>132|217=>109|225=>133|224=>134|267=>135|266=>136|314=>156|n=>n,fun|9=>9|31=>78|3=>3|4=>4|0=>0|105=>197|21=>21|5=>5|46=>22|119=>242|139=>245|138=>244|146=>246|51=>151|n=>n,fun|1=>4|3=>5|4=>6|n=>n⟩
theorem Tryz.lays146:Go.Proofs.Lays.n146 Tryz.prog Tryz.lays146_ren:={
 mixed:=by kernel_rfl
 f138:=zK Tryz.func77 (by kernel_rfl)
 f143:=zK Tryz.func78 (by kernel_rfl)
 f146:=zK Tryz.func30 (by kernel_rfl)
 f195:=zK Tryz.func105 (by kernel_rfl)
 f197:=zK Tryz.func106 (by kernel_rfl)
 f217:=zK Tryz.func109 (by kernel_rfl)
 f218:=zK Tryz.func107 (by kernel_rfl)
 f219:=zK Tryz.func108 (by kernel_rfl)
 f221:=zK Tryz.func50 (by kernel_rfl)
 f224:=zK Tryz.func134 (by kernel_rfl)
 f225:=zK Tryz.func133 (by kernel_rfl)
 f260:=zK Tryz.func132 (by kernel_rfl)
 f266:=zK Tryz.func136 (by kernel_rfl)
 f267:=zK Tryz.func135 (by kernel_rfl)
 f268:=zK Tryz.func76 (by kernel_rfl)
 f314:=zK Tryz.func156 (by kernel_rfl)
 t0:=Tryz.underlying0
 a0:=Tryz.isAgg0
 z0:=Tryz.sizeOf0
 v0:=Tryz.zeroValue0
 t3:=Tryz.underlying3
 a3:=Tryz.isAgg3
 z3:=Tryz.sizeOf3
 v3:=Tryz.zeroValue3
 t4:=Tryz.underlying4
 a4:=Tryz.isAgg4
 z4:=Tryz.sizeOf4
 v4:=Tryz.zeroValue4
 t5:=Tryz.underlying5
 a5:=Tryz.isAgg5
 z5:=Tryz.sizeOf5
 v5:=Tryz.zeroValue5
 t9:=Tryz.underlying9
 a9:=Tryz.isAgg9
 z9:=Tryz.sizeOf9
 v9:=Tryz.zeroValue9
 t21:=Tryz.underlying21
 a21:=Tryz.isAgg21
 z21:=Tryz.sizeOf21
 v21:=Tryz.zeroValue21
 t31:=Tryz.underlying78
 a31:=Tryz.isAgg78
 z31:=Tryz.sizeOf78
 v31:=Tryz.zeroValue78
 t46:=Tryz.underlying22
 a46:=Tryz.isAgg22
 z46:=Tryz.sizeOf22
 v46:=Tryz.zeroValue22
 t51:=Tryz.underlying151
 a51:=Tryz.isAgg151
 z51:=Tryz.sizeOf151
 v51:=Tryz.zeroValue151
 t105:=Tryz.underlying197
 a105:=Tryz.isAgg197
 z105:=Tryz.sizeOf197
 v105:=Tryz.zeroValue197
 t119:=Tryz.underlying242
 a119:=Tryz.isAgg242
 z119:=Tryz.sizeOf242
 t138:=Tryz.underlying244
 a138:=Tryz.isAgg244
 z138:=Tryz.sizeOf244
 v138:=Tryz.zeroValue244
 t139:=Tryz.underlying245
 a139:=Tryz.isAgg245
 z139:=Tryz.sizeOf245
 v139:=Tryz.zeroValue245
 t146:=Tryz.underlying246
 a146:=Tryz.isAgg246
 z146:=Tryz.sizeOf246
 v146:=Tryz.zeroValue246
 g1:=by kernel_rfl
 g3:=by kernel_rfl
 g4:=by kernel_rfl }
open Go.RowKit Go.Lib in
theorem Tryz.strings_Split(s sep:ByteArray)(m:Int)(w:World)(hs:s.size<4294967281)(hm:w.cell? ⟨4,0,none⟩=some (.int .i64 m))(h1:1<=sep.size) :
  zC 30 #[.string s,.string sep] w fun e w' =>
   e=.returned (.slice (some ⟨w.heap.size,0,none⟩) (Lib.countB s sep+1) (Lib.countB s sep+1))/\w'=w.alloc (.cells ((Lib.splitB sep 0 (Lib.countB s sep) s).map Value.string).toArray 9):=Any.strings_Split Tryz.lays146 (by kernel_rfl) s sep m w hs hm h1
end Go.Proofs
namespace Go.Proofs.YtlamemjfaogjmaaGreatDoor
open Go.RowKit Go.Shelf Sv
def ptx(n:Nat):List UInt8:=Lib.itoa (n:Int)
structure Jp(n:Nat):Prop where
 tells:qw (ptx n)=.ok n
 digit:∀x∈ptx n,48<=x/\x<=57
 some:ptx n≠[]
 short:(ptx n).length<=3
theorem Jp.not{n:Nat}(h:Jp n){c:UInt8}(hc:c<48\/57<c):c∉ptx n:=fun e=>by
 have:=h.digit c e;rcases hc with hc|hc
 ·exact absurd hc (UInt8.not_lt.2 this.1)
 ·exact absurd hc (UInt8.not_lt.2 this.2)
theorem Zv{s:ByteArray}{l:List UInt8}(h:s.data.toList=l):s=⟨l.toArray⟩:=by
 obtain⟨d⟩:=s;subst h;simp
theorem zbr(l:List UInt8)(i j:Nat):((⟨l.toArray⟩:ByteArray).extract i j).data.toList=(l.take j).drop i:=by
 rw[ByteArray.data_extract];simp[List.take_drop];rcases Nat.le_total i j with h|h
 ·rw[Nat.add_sub_cancel' h]
 ·rw[List.drop_of_length_le (by simp;omega),List.drop_of_length_le (by simp;omega)]
end Go.Proofs.YtlamemjfaogjmaaGreatDoor
namespace Go.Proofs.YtlamemjfaogjmaaGreatDoor
open Go.RowKit Go.Shelf Sv
theorem ZW{s t:ByteArray}(h:s.data.toList=t.data.toList):s=t:=by
 rw[Zv h,<-Zv (s:=t) rfl]
theorem Zy(s:ByteArray)(i j:Nat):(s.extract i j).data.toList=(s.data.toList.take j).drop i:=by
 conv=>lhs;rw[Zv (s:=s) rfl]
 exact zbr _ _ _
theorem zeK(s:ByteArray)(k j:Nat)(h:k+j<=s.size):(s.extract k s.size).extract 0 j=s.extract k (k+j):=by
 apply ZW;rw[Zy,Zy,Zy,List.drop_zero,List.take_drop,List.take_take];congr 2;omega
theorem zd5(s:ByteArray)(k i:Nat):(s.extract k s.size).extract i (s.extract k s.size).size=s.extract (k+i) s.size:=by
 apply ZW;rw[Lib.extract_to_end,Lib.extract_to_end,Lib.extract_to_end,List.drop_drop]
theorem zah(s m:ByteArray)(hm:1<=m.size):∀(f k:Nat),s.size<=k+f->k<=s.size->Lib.splitB m 0 (Lib.countB (s.extract k s.size) m) (s.extract k s.size)=(zg s m f k).map (·.2):=by
 intro f
 induction f with
 |zero =>
  intro k h1 h2;have hz:(s.extract k s.size).size=0:=by simp;omega
  have hx:Lib.indexB (s.extract k s.size) m=-1:=by
   show Lib.index (s.extract k s.size).data.toList m.data.toList=-1;have h0:(s.extract k s.size).data.toList=[]:=by rw[Lib.extract_to_end];exact List.drop_eq_nil_of_le (by simp;omega)
   have hne:m.data.toList≠[]:=fun e=>by
    have:m.data.toList.length=m.size:=by simp
    rw[e] at this;simp at this;omega
   rw[h0];cases hm':m.data.toList with
   |nil=>exact absurd hm' hne
   |cons a r=>simp[Lib.index]
  rw[Lib.splitB_miss _ _ _ _ hx];rfl
 |succ f ih =>
  intro k h1 h2;have hge:=Lib.index_ge (s.extract k s.size).data.toList m.data.toList
  by_cases hneg:Lib.index (s.extract k s.size).data.toList m.data.toList<0
  ·have hx:Lib.indexB (s.extract k s.size) m=-1:=by
    show Lib.index (s.extract k s.size).data.toList m.data.toList=-1;omega
   rw[Lib.splitB_miss _ _ _ _ hx,Qn hneg];rfl
  ·obtain⟨j,hj⟩:=Int.eq_ofNat_of_zero_le (Int.not_lt.1 hneg);have hx:Lib.indexB (s.extract k s.size) m=(j:Int):=hj;have hr:=Zp (s.extract k s.size).data.toList m.data.toList (by rw[hj];omega);rw[hj] at hr;have hl:(s.extract k s.size).data.toList.length=s.size-k:=by rw[Lib.extract_to_end];simp
   have hml:m.data.toList.length=m.size:=by simp
   rw[hl,hml,Int.toNat_natCast] at hr;rw[Lib.countB_hit _ _ j hm hx,Nat.add_comm 1,Lib.splitB_hit _ _ _ _ j hx,QD hj,List.map_cons,Nat.add_zero,zd5,<-Nat.add_assoc,zeK s k j (by omega),ih _ (by omega) (by omega)]
end Go.Proofs.YtlamemjfaogjmaaGreatDoor
namespace Go.Proofs.YtlamemjfaogjmaaGreatDoor
open Go.RowKit Go.Shelf Sv
theorem JH(s:ByteArray)(k:Nat):(s.extract k s.size).data.toList=s.data.toList.drop k:=by
 rw[Zy,List.take_of_length_le (by rw[Array.length_toList];exact Nat.le_refl _)]
end Go.Proofs.YtlamemjfaogjmaaGreatDoor
