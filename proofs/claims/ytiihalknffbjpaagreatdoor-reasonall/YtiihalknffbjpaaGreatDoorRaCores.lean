/- reason: Cores. -/
import Derived.Test.YtiihalknffbjpaaGreatDoorRsPlain
set_option maxHeartbeats 4000000
set_option maxRecDepth 100000
namespace Go.Proofs.YtiihalknffbjpaaGreatDoor
section
open Go.RowKit Go.Deep Sv
def yZ(ls:List Nat)(set i:Nat):List Nat:=((List.range i).filter fun k=>set.testBit k).map fun k=>ls.getD k 0
def qW(ls:List Nat)(set:Nat):List Nat:=yZ ls set ls.length
theorem zkh(ls:List Nat)(set i:Nat):yZ ls set (i+1)=yZ ls set i++(if set.testBit i then [ls.getD i 0] else []):=by
 unfold yZ;rw[List.range_succ,List.filter_append,List.map_append];congr 1;cases h:set.testBit i<;>simp[h]
theorem zbK(ls:List Nat)(set i:Nat):(yZ ls set i).length<=i:=by
 unfold yZ;rw[List.length_map];exact Nat.le_trans (List.length_filter_le _ _) (by simp)
theorem zk0{ls:List Nat}{set x:Nat}(h:x∈qW ls set):x∈ls:=by
 unfold qW yZ at h;obtain⟨k,hk,rfl⟩:=List.mem_map.1 h;exact yv (List.mem_range.1 (List.mem_filter.1 hk).1)
theorem ziH(n m:Int)(cv fv:Value)(ls:List Nat)(la:Option Addr)(lc:Nat)(set:Nat)(hset:set<18446744073709551616)(hln:ls.length<=64)(w:World)(hl:qh w la (zq ls)) :
  zC 202 #[.agg #[.int .i64 n,cv,fv,.slice la ls.length lc,.int .i64 m],.int .u64 set] w fun e w'=>∃v,e=.returned v/\w'.ownsRow w.heap.size 3 1 v (zq (qW ls set)).length (zd (zq (qW ls set)))/\zB w w':=by
 obtain⟨i0,hin,hz0,hz1,hz2⟩:=info_parts yY;have hb1:=zo w (.cells #[.int .i64 n,cv,fv,.slice la ls.length lc,.int .i64 m] 202);have kb:=Blk.new w 202 #[.int .i64 n,cv,fv,.slice la ls.length lc,.int .i64 m];have HL:=zH (hl.below hb1);have HB1:=zH hb1;clear hl hb1;go_enter Tryz.func202,Tryz.ntmps202;go_upto_region 1 with fail;generalize w.alloc (.cells #[.int .i64 n,cv,fv,.slice la ls.length lc,.int .i64 m] 202)=W0 at *;have c3:_=some (Value.slice la ls.length lc):=kb.cell 3;go_wp2_with fail;clear c3 kb;go_loopw [5,11] (fun oV iV wr=>∃i:Nat,i<=ls.length/\iV=.int .i64 i/\wr.ownsRow W0.heap.size 3 1 oV (zq (yZ ls set i)).length (zd (zq (yZ ls set i)))/\zB W0 wr) (fun _ iV _=>ls.length-(intOf iV).toNat)
 case atStart=>exact⟨0,Nat.zero_le _,rfl,World.ownsRow_nil _ _ _ _,Below.refl _ _⟩
 case round =>
  obtain⟨i,hi,rfl,hrow,hbw⟩:=hrel;obtain⟨oa,oc,rfl,-⟩:=zJ hrow;have HROW:=zH hrow;have HBW:=zH hbw;have hsz:=hbw.size;have hpl:=zbK ls set i;clear hrow
  by_cases hlt:i<ls.length
  ·have hii0:(0:Int)<=(i:Int):=by omega
   have hii1:(i:Int)<(ls.length:Int):=by omega
   obtain⟨ad,rfl,had,hcell⟩:=HL.out.below hbw i (by simpa[zq] using hlt);have hxe:(zq ls).getD i 0=((ls.getD i 0:Nat):Int):=by simp[zq,List.getD_eq_getElem?_getD,hlt]
   rw[hxe] at hcell;have hs:=K9 set i hset;have HST:=zH (zkh ls set i);generalize ls.getD i 0=x at *;obtain⟨ab,ao,asp⟩:=ad;clear hbw hxe;generalize hL:(zq (yZ ls set i)).length=n8 at *;have hn8:n8<=64:=by rw[<-hL];simp[zq];omega
   have HL8:=zH hL;clear hL;cases hb:set.testBit i with
   |false =>
    rw[hb] at hs HST;simp only[Bool.false_eq_true,if_false,List.append_nil] at HST;have HR8:Hid (wr.ownsRow W0.heap.size 3 1 (.slice oa n8 oc) (zq (yZ ls set (i+1))).length (zd (zq (yZ ls set (i+1))))):=by
     show World.ownsRow _ _ _ _ _ _ _;rw[HST.out,HL8.out];exact HROW.out
    clear HST hb;go_wp2;go_roundw
    case rel=>exact⟨i+1,hlt,by go_num,HR8.out,HBW.out⟩
    case measure=>simp[intOf];omega
   |true =>
    rw[hb] at hs HST;simp only[if_true] at HST;clear hb;go_upto_region 6 with fail;go_wp2_with (at_builtin;refine wpList_append_own_at _ rfl _ _ 47 rfl W0.heap.size 3 i0 (.int .i64 0) 1 8 Tryz.underlying47 hin hz0 hz1 hz2 rfl (by decide) _ _ _ rfl (HROW.out.alloc _) ⟨wr.heap.size,0,none⟩ 1 1 [.int .i64 x] rfl rfl ?e1 ?e2 ?e3 ?e4 ?e5 ?_)
    try(case e1=>exact yJ _ _ _)
    case e2=>first|exact yI _|rfl
    case e3=>unfold maxLen;omega
    case e4=>omega
    case e5=>first|omega|(simp;omega)
    intro v8 w8 hown8 hgrow8 _ hloc8;have HR8:Hid (w8.ownsRow W0.heap.size 3 1 v8 (zq (yZ ls set (i+1))).length (zd (zq (yZ ls set (i+1))))):=by
     show World.ownsRow _ _ _ _ _ _ _;have e:zq (yZ ls set i++[x])=zq (yZ ls set i)++[(x:Int)]:=by simp[zq]
     rw[HST.out,e,yO,List.length_append,HL8.out];exact hown8
    have HB8:Hid (zB W0 w8):=(HBW.out.alloc hsz _).grown hgrow8 (by simp;omega) (fun k hk=>(HROW.out.lt k hk).1);obtain⟨v8a,v8c,rfl,-⟩:=zJ hown8;clear hown8 hgrow8 hloc8 HROW HST;go_wp2;go_roundw
    case rel=>exact⟨i+1,hlt,by go_num,HR8.out,HB8.out⟩
    case measure=>simp[intOf];omega
  ·obtain rfl:i=ls.length:=by omega
   clear hbw HL;go_wp2;go_ret;exact⟨_,rfl,yn HROW.out HB1.out.size,zT HB1.out HBW.out⟩
def Z3(l:List Bool):List Value:=l.map Value.bool
theorem zje(l:List Bool)(x:Bool):Z3 (l++[x])=Z3 l++[.bool x]:=by simp[Z3]
theorem zkt{B:Nat}{w:World}{a:Option Addr}{c:Nat}{l:List Bool}(h:w.ownsRow B 4 1 (.slice a l.length c) l.length (Z3 l)):xU w a l:=by
 intro i hi;rcases h.2 with ⟨e,e0⟩|⟨g,cap,cur,e,-,hg,-⟩
 ·omega
 ·injection e with e1 e2 e3;subst e1;have:=h.cellAt i (by omega);refine⟨_,rfl,(Array.getElem?_eq_some_iff.1 hg).1,?_⟩;rw[yd,Nat.zero_add];subst e3;rw[this];simp[Z3,List.getD_eq_getElem?_getD,hi]
def xg(so:Nat->Bool)(k:Nat):List Bool:=(List.range k).map so
theorem zhZ(so:Nat->Bool)(k:Nat):xg so (k+1)=xg so k++[so k]:=by unfold xg;rw[List.range_succ,List.map_append];rfl
theorem Yj(so:Nat->Bool)(k:Nat):(xg so k).length=k:=by simp[xg]
theorem zgj(B n:Nat)(P:List (Int × List Int))(cv fv:Value)(m:Nat)(ls:List Nat)(la:Option Addr)(lc:Nat)(w:World)(hr:RS B w cv fv (P.map Prod.snd) (P.map Prod.fst))(hl:qh w la (zq ls))(hlt:∀x∈ls,x<m)(hm:m<=1000)(hln:ls.length<=10)(hP:P.length<=10000)(hc:∀x∈P,x.2.length<=1000)
  (hck:∀set,(qM n (zS P (inF m (qW ls set)))).1=0) (so:Nat->Bool) (hso:∀set b er,Qm n (zS P (inF m (qW ls set))) b er->b=so set/\er=.nilIface) :
  zC 123 #[.agg #[.int .i64 n,cv,fv,.slice la ls.length lc,.int .i64 m]] w fun e w'=>∃a c,e=.returned (.tuple #[.slice a (2^ls.length) c,.nilIface])/\xU w' a (xg so (2^ls.length))/\zB w w':=by
 obtain⟨i0,hin,hz0,hz1,hz2⟩:=info_parts Ks;have h12:(2:Nat)^ls.length<=1024:=Nat.pow_le_pow_right (n:=2) (j:=10) (by omega) hln;have hsh:IntKind.u64.wrap (2^ls.length)=((2^ls.length:Nat):Int):=by
  rw[IntKind.wrap_u64,show ((2:Int)^ls.length)=((2^ls.length:Nat):Int) by simp];exact Int.emod_eq_of_lt (Int.natCast_nonneg _) (by omega)
 have hb1:=zo w (.cells #[.int .i64 n,cv,fv,.slice la ls.length lc,.int .i64 m] 202);have kb:=Blk.new w 202 #[.int .i64 n,cv,fv,.slice la ls.length lc,.int .i64 m];have HPK:Hid (∀W set,zB w W->set<18446744073709551616->zC 202 #[.agg #[.int .i64 n,cv,fv,.slice la ls.length lc,.int .i64 m],.int .u64 ((set:Nat):Int)] W fun e w'=>∃a c,e=.returned (.slice a (qW ls set).length c)/\qh w' a (zq (qW ls set))/\zB W w'):=fun W set hW hs=>(ziH (n:Int) (m:Int) cv fv ls la lc set hs (by omega) W (hl.below hW)).mono fun e w' ⟨v',h1,h2,h3⟩=>by
  obtain⟨a,c,rfl,-⟩:=zJ h2;exact⟨a,c,by rw[h1];simp[zq],Qn h2,h3⟩
 have HCN:Hid (∀W set a c,zB w W->qh W a (zq (qW ls set))->zR 110 #[.agg #[.int .i64 n,cv,fv,.slice la ls.length lc,.int .i64 m],.slice a (qW ls set).length c] W (.tuple #[.bool (so set),.nilIface])):=fun W set a c hW hI=>(zfM B n P cv fv m (qW ls set) a c la ls.length lc W (hr.new hW) hI (fun x hx=>hlt x (zk0 hx)) hm (by have:=zbK ls set ls.length;unfold qW;omega) hP hc (hck set)).mono fun e w' ⟨b,er,h1,h2,h3⟩=>by
  obtain⟨rfl,rfl⟩:=hso set b er h2;exact⟨h1,h3⟩
 have HB1:=zH hb1;clear hr hl hlt hc hck hso hb1;generalize hN:(2^ls.length:Nat)=N at *;clear hN;go_enter Tryz.func123,Tryz.ntmps123;go_upto_region 1 with fail;generalize w.alloc (.cells #[.int .i64 n,cv,fv,.slice la ls.length lc,.int .i64 m] 202)=W0 at *;have c3:_=some (Value.slice la ls.length lc):=kb.cell 3;go_wp2_with fail;clear c3;go_loopw [4,12] (fun oV kV wr=>∃k:Nat,k<=N/\kV=.int .u64 k/\wr.ownsRow W0.heap.size 4 1 oV (xg so k).length (Z3 (xg so k))/\zB W0 wr) (fun _ kV _=>N-(intOf kV).toNat)
 case atStart=>exact⟨0,Nat.zero_le _,rfl,World.ownsRow_nil _ _ _ _,Below.refl _ _⟩
 case round =>
  obtain⟨k,hk,rfl,hrow,hbw⟩:=hrel;have hsz:=hbw.size;rw[Yj] at hrow;obtain⟨oa,oc,rfl,-⟩:=zJ hrow
  by_cases hlt:k<N
  ·have hki:(k:Int)<(N:Int):=by omega
   have hw1:IntKind.u64.wrap ((k:Int)+1)=(k:Int)+1:=by rw[IntKind.wrap_u64];omega
   have kb2:=kb.below hbw kb.lt;have SC:Hid (∀X,zB wr X->X.cell? ⟨w.heap.size,0,none⟩=some (.int .i64 n)/\X.cell? ⟨w.heap.size,1,none⟩=some cv/\X.cell? ⟨w.heap.size,2,none⟩=some fv/\X.cell? ⟨w.heap.size,3,none⟩=some (.slice la ls.length lc)/\X.cell? ⟨w.heap.size,4,none⟩=some (.int .i64 m)):=fun X h=>⟨(kb2.below h kb2.lt).cell 0,(kb2.below h kb2.lt).cell 1,(kb2.below h kb2.lt).cell 2,(kb2.below h kb2.lt).cell 3,(kb2.below h kb2.lt).cell 4⟩;have hbw0:=zT HB1.out hbw;have HP:Hid (∀W,zB wr W->zC 202 #[.agg #[.int .i64 n,cv,fv,.slice la ls.length lc,.int .i64 m],.int .u64 k] W fun e w'=>∃a c,e=.returned (.slice a (qW ls k).length c)/\qh w' a (zq (qW ls k))/\zB W w'):=fun W hW=>HPK.out W k (zT hbw0 hW) (by omega);have HC:Hid (∀W a c,zB wr W->qh W a (zq (qW ls k))->zR 110 #[.agg #[.int .i64 n,cv,fv,.slice la ls.length lc,.int .i64 m],.slice a (qW ls k).length c] W (.tuple #[.bool (so k),.nilIface])):=fun W a c hW hI=>HCN.out W k a c (zT hbw0 hW) hI;have HROW:=zH hrow;have HBW:=zH hbw;have HST:=zH (zhZ so k);have D0:zB wr wr.drew:=zF.drew;generalize hpk:(qW ls k).length=pl at *;generalize hso:so k=sk at *;clear hrow hbw hbw0 kb2 hpk hso;go_upto_region 5 with fail;go_region_held3 (fun X=>X.cell? ⟨w.heap.size,0,none⟩=some (.int .i64 n)/\X.cell? ⟨w.heap.size,1,none⟩=some cv/\X.cell? ⟨w.heap.size,2,none⟩=some fv/\X.cell? ⟨w.heap.size,3,none⟩=some (.slice la ls.length lc)/\X.cell? ⟨w.heap.size,4,none⟩=some (.int .i64 m)) (first|exact SC.out _ D0|exact SC.out _ D1|exact SC.out _ D2)
    (first
     |((with_reducible refine(HP.out _ D0).mono ?_);rintro e x1 ⟨pa,pc,rfl,hip,hb1⟩;have D1:zB wr x1:=zT D0 hb1;clear hb1 D0)
     | ((with_reducible refine (HC.out _ _ _ D1 hip).mono ?_);rintro e x2 ⟨rfl,hb2⟩;have D2:zB wr x2:=zT D1 hb2;clear hb2 D1 hip))
   have HR2:=zH (Xw HROW.out D2);have HB2:=zH (zT HBW.out D2);have hs2:=HB2.out.size;clear D2 SC HP HC HROW HBW;go_upto_region 8 with fail;go_wp2_with (at_builtin;refine wpList_append_own_at _ rfl _ _ 219 rfl W0.heap.size 4 i0 (.bool false) 1 1 Tryz.underlying219 hin hz0 hz1 hz2 rfl (by decide) _ _ _ rfl (HR2.out.alloc _) ⟨x2.heap.size,0,none⟩ 1 1 [.bool sk] rfl rfl ?e1 ?e2 ?e3 ?e4 ?e5 ?_)
   try(case e1=>exact QA _ _ _)
   case e2=>first|rfl|(intro u hu;rw[List.mem_singleton] at hu;subst hu;rfl)
   case e3=>unfold maxLen;omega
   case e4=>omega
   case e5=>first|omega|(simp;omega)
   intro v8 w8 hown8 hgrow8 _ hloc8;have HR8:Hid (w8.ownsRow W0.heap.size 4 1 v8 (xg so (k+1)).length (Z3 (xg so (k+1)))):=by
    show World.ownsRow _ _ _ _ _ _ _;rw[Yj,HST.out,zje];exact hown8
   have HB8:Hid (zB W0 w8):=(HB2.out.alloc hs2 _).grown hgrow8 (by simp;omega) (fun k hk=>(HR2.out.lt k hk).1);obtain⟨v8a,v8c,rfl,-⟩:=zJ hown8;clear hown8 hgrow8 hloc8 HR2 HST;go_wp2;go_roundw
   case rel=>exact⟨k+1,hlt,by go_num,HR8.out,HB8.out⟩
   case measure=>simp[intOf];omega
  ·obtain rfl:k=N:=by omega
   have HF:Hid (xU wr oa (xg so k)/\zB w wr):=⟨zkt (c:=oc) (by rw[Yj];exact hrow),zT HB1.out hbw⟩;clear hrow hbw HPK HCN;go_wp2;go_ret2;exact⟨oa,oc,rfl,HF.out.1,HF.out.2⟩
end
section
open Go.RowKit Go.Deep Sv
theorem zec:∀args w,(callFunc 125 args).run Tryz.prog w=.ok (.enter 125 args) w:=by intro args w;kernel_rfl
theorem zh8:∀args w,(callFunc 126 args).run Tryz.prog w=.ok (.enter 126 args) w:=by intro args w;kernel_rfl
theorem ziZ{n x:Nat}(hn:n<=12)(hx:x<2^n):(2^n-1)&&&(18446744073709551615-x)=2^n-1-x:=by
 have h12:(2:Nat)^n<=4096:=Nat.pow_le_pow_right (n:=2) (j:=12) (by omega) hn;apply Nat.eq_of_testBit_eq;intro i;have e1:18446744073709551615-x=2^64-(x+1):=by omega
 have e2:2^n-1-x=2^n-(x+1):=by omega
 rw[Nat.testBit_and,e1,e2,Nat.testBit_two_pow_sub_succ (show x<2^64 by omega),Nat.testBit_two_pow_sub_succ hx,Nat.testBit_two_pow_sub_one]
 by_cases hi:i<n
 ·rw[decide_eq_true hi,decide_eq_true (show i<64 by omega)];simp
 ·rw[decide_eq_false hi];simp
theorem zbY(so:Nat->Bool){N x:Nat}(hx:x<N):(xg so N).getD x false=so x:=by
 unfold xg;simp[List.getD_eq_getElem?_getD,hx]
section
variable (so:Nat->Bool) (N:Nat) (bt:Nat) (ta:Option Addr) (tc:Nat)
theorem zie(x:Nat)(hx:x<N)(w:World)(kt:w.cell? ⟨bt,0,none⟩=some (.slice ta N tc))(hB:xU w ta (xg so N)) :
  zR 125 #[.int .u64 x,.pointer (some ⟨bt,0,none⟩)] w (.bool (!so x)):=by
 obtain⟨ad,rfl,had,cA⟩:=hB x (by rw[Yj];exact hx);rw[zbY so hx] at cA;have h0:(0:Int)<=(x:Int):=by omega
 have h1:(x:Int)<(N:Int):=by omega
 generalize so x=sx at *;obtain⟨ab,ao,asp⟩:=ad;clear hB had;go_enter Tryz.func125,Tryz.ntmps125;go_wp2;go_ret;exact⟨rfl,Below.refl _ _⟩
theorem zkd(n:Nat)(hn:n<=12)(hN:N=2^n)(ba:Nat)(x:Nat)(hx:x<N)(w:World)(kt:w.cell? ⟨bt,0,none⟩=some (.slice ta N tc))(ka:w.cell? ⟨ba,0,none⟩=some (.int .u64 ((N-1:Nat):Int)))(hB:xU w ta (xg so N)) :
  zR 126 #[.int .u64 x,.pointer (some ⟨bt,0,none⟩),.pointer (some ⟨ba,0,none⟩)] w (.bool (so (N-1-x))):=by
 have h12:(2:Nat)^n<=4096:=Nat.pow_le_pow_right (n:=2) (j:=12) (by omega) hn;have hno:=u64_andNot_nat (N-1) x (by omega) (by omega);rw[hN,ziZ hn (by omega),<-hN] at hno;obtain⟨ad,rfl,had,cA⟩:=hB (N-1-x) (by rw[Yj];omega);rw[zbY so (by omega)] at cA;have hy:N-1-x<N:=by omega
 generalize N-1-x=y at *;generalize N-1=al at *;have h0:(0:Int)<=(y:Int):=by omega
 have h1:(y:Int)<(N:Int):=by omega
 generalize so y=sx at *;obtain⟨ab,ao,asp⟩:=ad;clear hB had hN;go_enter Tryz.func126,Tryz.ntmps126;go_wp2;go_ret;exact⟨rfl,Below.refl _ _⟩
end
def yR(w:World)(a:Option Addr)(l:List Nat):Prop:=∀i,i<l.length->∃ad:Addr,a=some ad/\ad.block<w.heap.size/\w.cell? (ad.add i)=some (.int .u64 (l.getD i 0:Nat))
theorem yR.below{w w':World}{a:Option Addr}{l:List Nat}(h:yR w a l)(hb:zB w w'):yR w' a l:=fun i hi=>by
 obtain⟨ad,h1,h2,h3⟩:=h i hi;exact⟨ad,h1,Nat.lt_of_lt_of_le h2 hb.size,(hb.cell (p:=ad.add i) (by rw[yH];exact h2)).trans h3⟩
theorem Xi{B:Nat}{w:World}{a:Option Addr}{c:Nat}{l:List Nat}(h:w.ownsRow B 48 1 (.slice a l.length c) l.length (xG l)):yR w a l:=by
 intro i hi;rcases h.2 with ⟨e,e0⟩|⟨g,cap,cur,e,-,hg,-⟩
 ·omega
 ·injection e with e1 e2 e3;subst e1;have:=h.cellAt i (by omega);refine⟨_,rfl,(Array.getElem?_eq_some_iff.1 hg).1,?_⟩;rw[yd,Nat.zero_add];subst e3;rw[this];simp[xG,List.getD_eq_getElem?_getD,hi]
noncomputable def soC(its:List It)(ls:List Ln)(set:Nat):Bool:=Zx (zS (ofL its ls) (inF ls.length (qW (qA ls) set)))
theorem zjv(bk:Nat)(ls:List Ln)(its:List It)(w:World)(h:xA w bk ls its)(hN:zQ ls=.ok its)(hv:its.length<=12)(hP:(ofL its ls).length<=200)(hS:10<(qA ls).length) :
  zR 50 #[.pointer (some ⟨bk,0,none⟩)] w (.tuple #[.slice none 0 0,.slice none 0 0,.iface 57 (.int .i64 4)]):=by
 have hnk:=Qk hN;have HSA:=zH (zcC bk ls its w h (by omega) (by omega) (fun x hx=>zan (hnk.2.2 x hx)) hP);have hs10:(10:Int)<((qA ls).length:Int):=by omega
 clear h hN hnk;generalize ofL its ls=P at *;go_enter Tryz.func50,Tryz.ntmps50;go_wp2_with fail;refine HSA.out.mono ?_;rintro e w1 ⟨cv,fv,lv,rfl,hrs,hrow,hb1⟩;obtain⟨ca,cc,rfl,-⟩:∃a c,cv=.slice a P.length c/\True:=by obtain⟨cs,h1,_⟩:=hrs.crow;obtain⟨a,c,e,_⟩:=(zj h1).form;exact⟨a,c,by simpa using e,trivial⟩
 obtain⟨fa,fc,rfl,-⟩:∃a c,fv=.slice a P.length c/\True:=by obtain⟨a,c,e,_⟩:=(zj hrs.frow).form;exact⟨a,c,by simpa using e,trivial⟩
 obtain⟨sa,sc,hv2,-⟩:=QF hrow;rw[ZR] at hv2;subst hv2;have HF:Hid (zB w (w1.alloc (.cells #[.int .i64 its.length,.slice ca P.length cc,.slice fa P.length fc,.slice sa (qA ls).length sc,.int .i64 ls.length] 202))):=zL hb1;clear hrs hrow hb1 HSA;go_wp2;refine bodyPost_ret (v:=.tuple #[.slice none 0 0,.slice none 0 0,.iface 57 (.int .i64 4)]) (by simp[results,Tryz.results50,go_sem]) rfl ?_;exact⟨rfl,HF.out⟩
theorem zfC(bk:Nat)(ls:List Ln)(its:List It)(w:World)(h:xA w bk ls its)(hN:zQ ls=.ok its)(hv:its.length<=12)(hP:(ofL its ls).length<=200)(hS:(qA ls).length<=10)(n:Nat)(hn:n=(qA ls).length) :
  zC 50 #[.pointer (some ⟨bk,0,none⟩)] w fun e w'=>∃a1 c1 a2 c2,e=.returned (.tuple #[.slice a1 (zI n (fun s=>!soC its ls s) (2^n)).length c1,.slice a2 (zI n (fun s=>soC its ls (2^n-1-s)) (2^n)).length c2,.nilIface])/\yR w' a1 (zI n (fun s=>!soC its ls s) (2^n))/\yR w' a2 (zI n (fun s=>soC its ls (2^n-1-s)) (2^n))/\zB w w':=by
 have hnk:=Qk hN;have HSA:=zH (zcC bk ls its w h (by omega) (by omega) (fun x hx=>zan (hnk.2.2 x hx)) hP);have hfine:=Xr hN;have HTB:Hid (∀W cv fv la lc,RS w.heap.size W cv fv ((ofL its ls).map Prod.snd) ((ofL its ls).map Prod.fst)->qh W la (zq (qA ls))->zC 123 #[.agg #[.int .i64 its.length,cv,fv,.slice la (qA ls).length lc,.int .i64 ls.length]] W fun e w'=>∃a c,e=.returned (.tuple #[.slice a (2^n) c,.nilIface])/\xU w' a (xg (soC its ls) (2^n))/\zB W w'):=fun W cv fv la lc h1 h2=>by
  subst hn;exact zgj w.heap.size its.length (ofL its ls) cv fv ls.length (qA ls) la lc W h1 h2 (zbV ls ls.length) (by omega) hS (by omega) (fun x hx=>Nat.le_trans (hfine x hx).2 (by omega)) (fun set=>zd1 hN hP _) (soC its ls) (fun set b er hc=>zdw hN hv _ hc)
 have hs10:¬(10:Int)<((qA ls).length:Int):=by omega
 have h12:(2:Nat)^n<=1024:=Nat.pow_le_pow_right (n:=2) (j:=10) (by omega) (by omega);have hp0:=Nat.two_pow_pos n;have hsh:IntKind.u64.wrap (2^n)=((2^n:Nat):Int):=by
  rw[IntKind.wrap_u64,show ((2:Int)^n)=((2^n:Nat):Int) by simp];exact Int.emod_eq_of_lt (Int.natCast_nonneg _) (by omega)
 have hsb:IntKind.u64.wrap (((2^n:Nat):Int)-1)=((2^n-1:Nat):Int):=by rw[IntKind.wrap_u64];omega
 have hn12:n<=12:=by omega
 rw[<-hn] at HTB hs10;have HNS:=zH hn;clear h hN hnk hfine;generalize hP2:ofL its ls=P at *;clear hP2;generalize hso:soC its ls=so at *;clear hso;go_enter Tryz.func50,Tryz.ntmps50;go_wp2_with fail;refine HSA.out.mono ?_;rintro e w1 ⟨cv,fv,lv,rfl,hrs,hrow,hb1⟩;obtain⟨ca,cc,rfl,-⟩:∃a c,cv=.slice a P.length c/\True:=by obtain⟨cs,h1,_⟩:=hrs.crow;obtain⟨a,c,e,_⟩:=(zj h1).form;exact⟨a,c,by simpa using e,trivial⟩
 obtain⟨fa,fc,rfl,-⟩:∃a c,fv=.slice a P.length c/\True:=by obtain⟨a,c,e,_⟩:=(zj hrs.frow).form;exact⟨a,c,by simpa using e,trivial⟩
 obtain⟨sa,sc,hv2,hq1,hq2,hq3,hq4⟩:=QF hrow;rw[ZR,<-HNS.out] at hv2;subst hv2;have hbn:=zo w1 (.cells #[.int .i64 its.length,.slice ca P.length cc,.slice fa P.length fc,.slice sa n sc,.int .i64 ls.length] 202);have kr:=Blk.new w1 202 #[.int .i64 its.length,.slice ca P.length cc,.slice fa P.length fc,.slice sa n sc,.int .i64 ls.length];have HT1:=zH (HTB.out _ (.slice ca P.length cc) (.slice fa P.length fc) sa sc (hrs.new hbn) (hq3.ints.below hbn));have HB1:=zH (zT hb1 hbn);clear hrs hrow hb1 hbn hq1 hq2 hq3 hq4 HSA HTB hn HNS;go_upto_region 4 with fail;generalize w1.alloc (.cells #[.int .i64 its.length,.slice ca P.length cc,.slice fa P.length fc,.slice sa n sc,.int .i64 ls.length] 202)=W2 at *;generalize w1.heap.size=b4 at *;have y0:_=some (Value.int .i64 its.length):=kr.cell 0;have y1:_=some (Value.slice ca P.length cc):=kr.cell 1;have y2:_=some (Value.slice fa P.length fc):=kr.cell 2;have y3:_=some (Value.slice sa n sc):=kr.cell 3;have y4:_=some (Value.int .i64 ls.length):=kr.cell 4;go_wp2_with fail;refine HT1.out.mono ?_;rintro e w3 ⟨ta,tc,rfl,hbo,hb3⟩;clear y0 y1 y2 y3 y4 HT1;generalize hNN:(2^n:Nat)=N at *;have hba:=zo w3 (.cells #[.slice ta N tc] 219);have kt:=Blk.new w3 219 #[.slice ta N tc];have hb34:=zT hb3 hba;have kr4:=kr.below hb34 kr.lt;have HBO:=zH (hbo.below hba zN);have HB4:=zH (zT HB1.out hb34);clear hbo hb3 hba hb34 kr HB1;go_upto_region 7 with fail;generalize w3.alloc (.cells #[.slice ta N tc] 219)=W4 at *;generalize w3.heap.size=bt at *;have y3:_=some (Value.slice sa n sc):=kr4.cell 3;have hb5:=zo W4 (.cells #[.int .u64 ((N-1:Nat):Int)] 48);have ka:=Blk.new W4 48 #[.int .u64 ((N-1:Nat):Int)];have kr5:=kr4.below hb5 kr4.lt;have kt5:=kt.below hb5 kt.lt;have HBO5:=zH (HBO.out.below hb5 zN);have HB5:=zH (zT HB4.out hb5);clear hb5 HBO HB4 kr4 kt;go_upto_region 10 with fail;clear y3;generalize W4.alloc (.cells #[.int .u64 ((N-1:Nat):Int)] 48)=W5 at *;generalize W4.heap.size=ba at *;have HL1:Hid (∀W,zB W5 W->zC 124 #[.int .i64 n,.func (.func 125) #[] #[.pointer (some ⟨bt,0,none⟩)]] W fun e w'=>∃a c,e=.returned (.slice a (zI n (fun s=>!so s) N).length c)/\yR w' a (zI n (fun s=>!so s) N)/\zB W w'):=fun W hW=>by
  refine(zaX n hn12 125 #[.pointer (some ⟨bt,0,none⟩)] zec (fun s=>!so s) W (fun W' x hW' hx=>zie so N bt ta tc x (hNN▸hx) W' ((kt5.below (zT hW hW') kt5.lt).cell 0) (HBO5.out.below (zT hW hW') zN))).mono fun e w' ⟨v',h1,h2,h3⟩=>?_;rw[hNN] at h2;obtain⟨a,c,rfl,-⟩:=zJ h2;exact⟨a,c,h1,Xi h2,h3⟩
 have HL2:Hid (∀W,zB W5 W->zC 124 #[.int .i64 n,.func (.func 126) #[] #[.pointer (some ⟨bt,0,none⟩),.pointer (some ⟨ba,0,none⟩)]] W fun e w'=>∃a c,e=.returned (.slice a (zI n (fun s=>so (N-1-s)) N).length c)/\yR w' a (zI n (fun s=>so (N-1-s)) N)/\zB W w'):=fun W hW=>by
  refine(zaX n hn12 126 #[.pointer (some ⟨bt,0,none⟩),.pointer (some ⟨ba,0,none⟩)] zh8 (fun s=>so (N-1-s)) W (fun W' x hW' hx=>zkd so N bt ta tc n hn12 hNN.symm ba x (hNN▸hx) W' ((kt5.below (zT hW hW') kt5.lt).cell 0) ((ka.below (zT hW hW') ka.lt).cell 0) (HBO5.out.below (zT hW hW') zN))).mono fun e w' ⟨v',h1,h2,h3⟩=>?_;rw[hNN] at h2;obtain⟨a,c,rfl,-⟩:=zJ h2;exact⟨a,c,h1,Xi h2,h3⟩
 have KR5:=zH kr5;have z3:_=some (Value.slice sa n sc):=kr5.cell 3;have HE1:Hid (zI n (fun s=>!so s) (2^n)=zI n (fun s=>!so s) N):=(show _=_ by rw[hNN]);have HE2:Hid (zI n (fun s=>so (2^n-1-s)) (2^n)=zI n (fun s=>so (N-1-s)) N):=(show _=_ by rw[hNN]);clear HBO5 kt5 ka kr5 hNN hsb hsh;generalize zI n (fun s=>!so s) N=L1 at *;generalize zI n (fun s=>so (N-1-s)) N=L2 at *;go_wp2_with fail;refine(HL1.out W5 zF).mono ?_;rintro e w6 ⟨a1,c1,rfl,hu1,hb6⟩;have z6:w6.cell? ⟨b4,3,none⟩=some (.slice sa n sc):=(KR5.out.below hb6 KR5.out.lt).cell 3;have HU1:=zH hu1;have HB6:=zH hb6;clear hu1 hb6 HL1 z3;go_wp2_with fail;refine(HL2.out w6 HB6.out).mono ?_;rintro e w7 ⟨a2,c2,rfl,hu2,hb7⟩;have HF:Hid (yR w7 a1 L1/\yR w7 a2 L2/\zB w w7):=⟨HU1.out.below hb7,hu2,HB5.out.trans ((zT HB6.out hb7).mono HB5.out.size)⟩;clear hu2 hb7 HL2 z6;go_wp2;refine bodyPost_ret (v:=.tuple #[.slice a1 L1.length c1,.slice a2 L2.length c2,.nilIface]) (by simp[results,Tryz.results50,go_sem]) rfl ?_;exact⟨a1,c1,a2,c2,by rw[HE1.out,HE2.out],by rw[HE1.out];exact HF.out.1,by rw[HE2.out];exact HF.out.2.1,HF.out.2.2⟩
end
end Go.Proofs.YtiihalknffbjpaaGreatDoor
