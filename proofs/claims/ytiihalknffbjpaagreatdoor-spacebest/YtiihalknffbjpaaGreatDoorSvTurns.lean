/- Turning places: rising ones are told by what is in them; what a rule makes of two. -/
import Derived.Test.YtiihalknffbjpaaGreatDoorSiMath
import Derived.Shelf.Strings.OnBuilder
import Derived.Shelf.Strings.Replace
import Derived.Shelf.Strings.BuilderK
namespace Go.Proofs.YtiihalknffbjpaaGreatDoor
set_option maxHeartbeats 4000000
set_option maxRecDepth 100000
section
open Go.RowKit
theorem zae(n lo hi:Int)(w:World):zC 209 #[.int .i64 n,.int .i64 lo,.int .i64 hi] w fun e w'=>e=.returned (.bool (decide (lo<=n/\n<=hi)))/\w=w':=by
 by_cases h1:lo<=n
 ·by_cases h2:n<=hi
  ·rw[show decide (lo<=n/\n<=hi)=true by simp[h1,h2]];go_enter Tryz.func209,Tryz.ntmps209;go_wp2;go_ret;exact⟨rfl,rfl⟩
  ·rw[show decide (lo<=n/\n<=hi)=false by simp[h2]];go_enter Tryz.func209,Tryz.ntmps209;go_wp2;go_ret;exact⟨rfl,rfl⟩
 ·rw[show decide (lo<=n/\n<=hi)=false by simp[h1]];go_enter Tryz.func209,Tryz.ntmps209;go_wp2;go_ret;exact⟨rfl,rfl⟩
theorem zl1(vals t:Nat):zkF vals ((t:Int)+1)=vals.testBit t:=by
 unfold zkF;rw[if_pos (by omega)];congr 1
theorem zlt(vals t:Nat):zkF vals (-((t:Int)+1))=!vals.testBit t:=by
 unfold zkF;rw[if_neg (by omega),show (- -((t:Int)+1)).toNat-1=t by omega]
theorem zk3{α:Type}{p:α->Bool}{xs:List α}{k:Nat}{d:α}(hk:k<xs.length)(h1:p (xs.getD k d)=true):xs.any p=true:=List.any_eq_true.2 ⟨_,zby hk,h1⟩
theorem zlx{α:Type}{p:α->Bool}{xs:List α}{d:α}(h0:∀j,j<xs.length->p (xs.getD j d)=false):xs.any p=false:=by
 rw[List.any_eq_false];intro x hx;obtain⟨j,hj,rfl⟩:=List.getElem_of_mem hx;have:=h0 j hj;rw[List.getD_eq_getElem?_getD,List.getElem?_eq_getElem hj] at this;simpa using this
end
section
open Go.RowKit
theorem zmA(c:List Int)(a:Option Addr)(cap:Nat)(vals:Nat)(hv:vals<18446744073709551616)(w:World)(hI:zaN w a c)(hm:c.length<=9223372036854775807)(hr:∀x∈c,ziE 24 x=true) :
  zC 162 #[.slice a c.length cap,.int .u64 vals] w fun e w'=>e=.returned (.bool (c.any (zkF vals)))/\w=w':=by
 have HI:=zH hI;have HR:=zH hr;clear hI hr;go_enter Tryz.func162,Tryz.ntmps162;go_wp2_with fail;go_loop [9] (fun kV=>∃k:Nat,k<=c.length/\kV=.int .i64 k/\(∀j,j<k->zkF vals (c.getD j 0)=false)) (fun kV=>c.length-(intOf kV).toNat)
 case atStart=>exact⟨0,Nat.zero_le _,rfl,fun j h=>by omega⟩
 case round =>
  obtain⟨k,hk,rfl,h1⟩:=hrel;have H1:=zH h1;clear h1
  by_cases hlt:k<c.length
  ·obtain⟨ad,rfl,hl,hc⟩:=HI.out k hlt;have hx0:=HR.out _ (zby (d:=0) hlt);generalize hx:c.getD k 0=x at *;have hx1:x≠0/\-24<=x/\x<=24:=by simpa[ziE] using hx0
   have HX:=zH hx;clear hx hx0
   by_cases hp:0<x
   ·obtain⟨t,rfl⟩:∃t:Nat,x=(t:Int)+1:=⟨x.toNat-1,by omega⟩;have ht:t<24:=by omega
    have hs:=zeM vals t hv;cases hb:vals.testBit t with
    |true =>rw[hb] at hs;have HRES:Hid (c.any (zkF vals)=true):=zk3 (d:=0) hlt (by rw[HX.out,zl1];exact hb);clear hb hx1;go_wp2;go_ret;exact⟨by rw[HRES.out];rfl,rfl⟩
    |false =>
     rw[hb] at hs;have HRES:Hid (zkF vals ((t:Int)+1)=false):=by show _=false;rw[zl1];exact hb
     clear hb hx1;go_wp2;go_round
     case rel=>exact ⟨k + 1,hlt,by go_num,fun j hj=>(by
      rcases Nat.lt_succ_iff_lt_or_eq.1 hj with e|e
      ·exact H1.out j e
      ·rw [e,HX.out];exact HRES.out)⟩
     case measure=>simp[intOf];omega
   ·obtain⟨t,rfl⟩:∃t:Nat,x=-((t:Int)+1):=⟨(-x).toNat-1,by omega⟩;have ht:t<24:=by omega
    have hs:=zsA vals t hv;cases hb:vals.testBit t with
    |false =>rw[hb] at hs;have HRES:Hid (c.any (zkF vals)=true):=zk3 (d:=0) hlt (by rw[HX.out,zlt,hb];rfl);clear hb hx1;go_wp2;go_ret;exact⟨by rw[HRES.out];rfl,rfl⟩
    |true =>
     rw[hb] at hs;have HRES:Hid (zkF vals (-((t:Int)+1))=false):=by show _=false;rw[zlt,hb];rfl
     clear hb hx1;go_wp2;go_round
     case rel=>exact ⟨k + 1,hlt,by go_num,fun j hj=>(by
      rcases Nat.lt_succ_iff_lt_or_eq.1 hj with e|e
      ·exact H1.out j e
      ·rw [e,HX.out];exact HRES.out)⟩
     case measure=>simp[intOf];omega
  ·obtain rfl:k=c.length:=by omega
   have HRES:Hid (c.any (zkF vals)=false):=zlx H1.out;go_wp2;go_ret;exact⟨by rw[HRES.out];rfl,rfl⟩
theorem zqF{vals:Nat}{c:List Int}(hr:∀x∈c,ziE 24 x=true):zfB vals c=c.any (zkF vals):=by
 unfold zfB;rw[Bool.eq_iff_iff,List.any_eq_true,List.any_eq_true];constructor
 ·rintro⟨x,hx,h⟩;exact⟨x,hx,by unfold zuC at h;rw[hr x hx] at h;simpa using h⟩
 ·rintro⟨x,hx,h⟩;exact⟨x,hx,by unfold zuC;rw[hr x hx,h];rfl⟩
theorem zjx(l:List (List Int))(a:Option Addr)(cap:Nat)(vals:Nat)(hv:vals<18446744073709551616)(w:World)(hI:zey w a l)(hm:l.length<=9223372036854775807)(hr:∀c∈l,∀x∈c,ziE 24 x=true) :
  zC 76 #[.slice a l.length cap,.int .u64 vals] w fun e w'=>e=.returned (.bool (zhy vals l))/\w=w':=by
 have HI:=zH hI;have HR:=zH hr;clear hI hr;rw[zuh];go_enter Tryz.func76,Tryz.ntmps76;go_wp2_with fail;go_loop [9] (fun kV=>∃k:Nat,k<=l.length/\kV=.int .i64 k/\(∀j,j<k->(!zfB vals (l.getD j []))=false)) (fun kV=>l.length-(intOf kV).toNat)
 case atStart=>exact⟨0,Nat.zero_le _,rfl,fun j h=>by omega⟩
 case round =>
  obtain⟨k,hk,rfl,h1⟩:=hrel;have H1:=zH h1;clear h1
  by_cases hlt:k<l.length
  ·obtain⟨ad,a',cap',rfl,hl,hc,g1,g2,g3⟩:=HI.out k hlt;have hr0:=HR.out _ (zby (d:=[]) hlt);have HC:=zH (zmA (l.getD k []) a' cap' vals hv w g3 (by omega) hr0);rw[<-zqF hr0] at HC;generalize hx:l.getD k []=c at *;have HX:=zH hx;clear hx hr0 g3;cases hb:zfB vals c with
   |true =>
    rw[hb] at HC;have HB:=zH hb;clear hb;go_wp2_with fail;refine HC.out.mono ?_;rintro e w1 ⟨rfl,rfl⟩;clear HC;go_wp2;go_round
    case rel=>exact ⟨k + 1,hlt,by go_num,fun j hj=>(by
     rcases Nat.lt_succ_iff_lt_or_eq.1 hj with e|e
     ·exact H1.out j e
     ·rw [e,HX.out,HB.out];rfl)⟩
    case measure=>simp[intOf];omega
   |false =>rw[hb] at HC;have HRES:Hid (l.any (fun c=>!zfB vals c)=true):=zk3 (d:=[]) hlt (by rw[HX.out,hb];rfl);clear hb;go_wp2_with fail;refine HC.out.mono ?_;rintro e w1 ⟨rfl,rfl⟩;clear HC;go_wp2;go_ret;exact⟨by rw[HRES.out];rfl,rfl⟩
  ·obtain rfl:k=l.length:=by omega
   have HRES:Hid (l.any (fun c=>!zfB vals c)=false):=zlx H1.out;go_wp2;go_ret;exact⟨by rw[HRES.out];rfl,rfl⟩
end
namespace Bd
open Go.RowKit Go.Deep
def zdM(l:List Nat):List Value:=l.map fun n:Nat=>Value.int .u64 n
theorem zkY(l:List Nat)(x:Nat):zdM (l++[x])=zdM l++[.int .u64 x]:=by simp[zdM]
theorem zol(l:List Nat)(i:Nat)(h:i<l.length):(zdM l)[i]?=some (.int .u64 (l.getD i 0:Nat)):=by simp[zdM,List.getD_eq_getElem?_getD,h]
theorem zpn:(Tryz.prog.info? 48).map (fun i=>(i.zero,i.size,i.bytes))=some (some (.int .u64 0),1,8):=by kernel_rfl
theorem zpY(w:World)(x:Int)(t:TypeId):∀(j:Nat) (u:Value),[Value.int .u64 x][j]?=some u->(w.alloc (.cells #[.int .u64 x] t)).cell? ((⟨w.heap.size,0,none⟩:Addr).add j)=some u:=by
 intro j u hj;have:j=0:=by have:=(List.getElem?_eq_some_iff.1 hj).1;simp at this;omega
 subst this;rw[zbF,(Blk.new w t #[.int .u64 x]).cell];exact hj
theorem zr9(x:Int):∀u∈[Value.int .u64 x],u.oneCell'=true:=fun u hu=>by
 rw[List.mem_singleton] at hu;subst hu;rfl
theorem zqR:∀m:Fin 256,bits BinOp.and IntKind.i64 ((m.val:Nat):Int) 1=((m.val%2:Nat):Int):=by decide +kernel
theorem ztn(k t:Nat)(hk:k<256):(bits BinOp.and IntKind.i64 ((k:Int)/2^t) 1==1)=k.testBit t:=by
 have e:(k:Int)/2^t=((k/2^t:Nat):Int):=by simp
 have hd:k/2^t<=k:=Nat.div_le_self _ _;rw[e,zqR ⟨k/2^t,by omega⟩,Nat.testBit_eq_decide_div_mod_eq,Bool.eq_iff_iff];simp;omega
def UIn(w:World)(a:Option Addr)(l:List Nat):Prop:=∀i,i<l.length->∃ad:Addr,a=some ad/\ad.block<w.heap.size/\w.cell? (ad.add i)=some (.int .u64 (l.getD i 0:Nat))
theorem UIn.below{w w':World}{a:Option Addr}{l:List Nat}(h:UIn w a l)(hb:zB w w'):UIn w' a l:=fun i hi=>by
 obtain⟨ad,h1,h2,h3⟩:=h i hi;exact⟨ad,h1,Nat.lt_of_lt_of_le h2 hb.size,(hb.cell (p:=ad.add i) (by rw[zbN];exact h2)).trans h3⟩
theorem ztu{B:Nat}{w:World}{a:Option Addr}{c:Nat}{l:List Nat}(h:w.ownsRow B 48 1 (.slice a l.length c) l.length (zdM l)):UIn w a l:=by
 intro i hi;rcases h.2 with ⟨e,e0⟩|⟨g,cap,cur,e,-,hg,-⟩
 ·omega
 ·injection e with e1 e2 e3;subst e1;have:=h.cellAt i (by omega);refine⟨_,rfl,(Array.getElem?_eq_some_iff.1 hg).1,?_⟩;rw[zbF,Nat.zero_add,<-zol l i hi];subst e3;exact this
theorem zig(vars:Nat)(hv:vars<=8)(K:List (List Int))(a:Option Addr)(cap:Nat)(w:World)(hI:zey w a K)(hm:K.length<=10000)(hl:zed vars K) :
  zC 17 #[.int .i64 vars,.slice a K.length cap] w fun e w'=>∃v,e=.returned v/\w'.ownsRow w.heap.size 48 1 v (zdC vars K (2^vars)).length (zdM (zdC vars K (2^vars)))/\zB w w':=by
 obtain⟨i0,hin,hz0,hz1,hz2⟩:=info_parts zpn;have hp8:(2:Nat)^vars<=256:=Nat.pow_le_pow_right (n:=2) (by omega) hv;have hp0:0<(2:Nat)^vars:=Nat.two_pow_pos vars;have HAH:Hid (∀x:Nat,x<18446744073709551616->∀W,zB w W->zC 76 #[.slice a K.length cap,.int .u64 x] W fun e w'=>e=.returned (.bool (zhy x K))/\W=w'):=fun x hx W hW=>zjx K a cap x hx W (hI.below hW) (by omega) (fun c hc y hy=>zfx (by omega) (hl c hc y hy));obtain⟨N,hN⟩:∃N,N=2^vars:=⟨_,rfl⟩;have hw1:IntKind.i64.wrap (IntKind.i64.wrap (2^vars)-1)=(N:Int)-1:=by
  have e:((2:Int)^vars)=(N:Int):=by rw[hN];simp
  rw[e,IntKind.wrap_i64,IntKind.wrap_i64];omega
 have hw2:wrap64 (wrap64 (2^vars)-1)=(N:Int)-1:=by
  have e:((2:Int)^vars)=(N:Int):=by rw[hN];simp
  have hN':N<=256:=by rw[hN];exact hp8
  rw[e];unfold wrap64;omega
 rw[<-hN] at hp8 hp0 ⊢;clear hI hl;have HN:=zH hN;clear hN;go_enter Tryz.func17,Tryz.ntmps17;go_wp2_with fail;go_loopw [5,6] (fun oV kV wr=>∃(j:Nat),j<=N/\kV=.int .i64 ((N:Int)-1-(j:Int))/\wr.ownsRow w.heap.size 48 1 oV (zdC vars K j).length (zdM (zdC vars K j))/\zB w wr) (fun _ kV _=>(intOf kV+1).toNat)
 case atStart=>exact⟨0,Nat.zero_le _,by rw[hw2];simp,World.ownsRow_nil _ _ _ _,Below.refl _ _⟩
 case round =>
  obtain⟨j,hj,rfl,hrow,hbw⟩:=hrel;clear hw1 hw2;have HROW:=zH hrow;have HBW:=zH hbw;have hsz:=hbw.size;clear hrow hbw
  by_cases hlt:j<N
  ·obtain⟨k,hk⟩:∃k:Nat,(N:Int)-1-(j:Int)=(k:Int):=⟨N-1-j,by omega⟩;have HK1:Hid (k=N-1-j):=(show k=N-1-j by omega);have hkb:k<256:=by omega
   have hkw:IntKind.i64.wrap ((k:Int)-1)=(k:Int)-1:=by rw[IntKind.wrap_i64];omega
   have hk0:(0:Int)<=(k:Int):=by omega
   rw[hk];go_wp2_with fail;go_loop [7,17] (fun xV iV=>∃(i:Nat),i<=vars/\iV=.int .i64 i/\xV=.int .u64 (ziD k vars i:Nat)) (fun _ iV=>vars-(intOf iV).toNat)
   case atStart=>exact⟨0,Nat.zero_le _,rfl,rfl⟩
   case round =>
    obtain⟨i,hi,rfl,rfl⟩:=hrel;have hG:=zoV k vars i;have hGp:(2:Nat)^i<=256:=Nat.pow_le_pow_right (n:=2) (by omega) (show i<=8 by omega)
    by_cases hlt2:i<vars
    ·have hii:(i:Int)<(vars:Int):=by omega
     have t1:IntKind.i64.wrap ((vars:Int)-1)=(vars:Int)-1:=by rw[IntKind.wrap_i64];omega
     obtain⟨t,ht⟩:∃t:Nat,(vars:Int)-1-(i:Int)=(t:Int):=⟨vars-1-i,by omega⟩;have t2:IntKind.i64.wrap ((vars:Int)-1-(i:Int))=(t:Int):=by rw[ht,IntKind.wrap_i64];omega
     have ht0:(0:Int)<=(t:Int):=by omega
     have hs:=ztn k t hkb;have hor:=zle (ziD k vars i) i (by omega) (by omega);have HG:Hid (ziD k vars (i+1)=if k.testBit t then ziD k vars i|||2^i else ziD k vars i):=by
      show _=_;rw[ziD,show vars-1-i=t by omega]
     generalize ziD k vars i=g at *;cases hb:k.testBit t with
     |true =>
      rw[hb] at hs HG;rw[if_pos rfl] at HG;clear hb;go_wp2;go_round
      case rel=>exact⟨i+1,hlt2,by go_num,by rw[HG.out]⟩
      case measure=>simp[intOf];omega
     |false =>
      rw[hb] at hs HG;rw[if_neg (by simp)] at HG;clear hb;go_wp2;go_round
      case rel=>exact⟨i+1,hlt2,by go_num,by rw[HG.out]⟩
      case measure=>simp[intOf];omega
    ·obtain rfl:i=vars:=by omega
     have HST:Hid (zdC i K (j+1)=if zhy (ziD k i i) K=true then zdC i K j++[ziD k i i] else zdC i K j):=by
      have h:=zjf (vars:=i) (K:=K) j;rw[<-HN.out,<-HK1.out] at h;exact h
     have HA:=zH (HAH.out (ziD k i i) (by omega) wr HBW.out);have hil:=zmb (vars:=i) (K:=K) j;generalize ziD k i i=g at *;go_wp2_with fail;refine HA.out.mono ?_;rintro e wy ⟨rfl,rfl⟩;obtain⟨oa,oc,rfl,-⟩:=row_form HROW.out;generalize hL:(zdC i K j).length=n at *;have HL:=zH hL;clear hL HA HAH;cases hq:zhy g K with
     |true =>
      rw[hq,if_pos rfl] at HST;clear hq;go_wp2_with (at_builtin;refine wpList_append_own_at _ rfl _ _ 38 rfl w.heap.size 48 i0 (.int .u64 0) 1 8 Tryz.underlying38 hin hz0 hz1 hz2 rfl (by decide) _ _ _ rfl (HROW.out.alloc _) ⟨wr.heap.size,0,none⟩ 1 1 [.int .u64 g] rfl rfl ?e1 ?e2 ?e3 ?e4 ?e5 ?_)
      case e1=>exact zpY _ _ _
      case e2=>exact zr9 _
      case e3=>unfold maxLen;omega
      case e4=>omega
      case e5=>simp;omega
      intro v8 w8 hown8 hgrow8 _ hloc8;have HR8:Hid (w8.ownsRow w.heap.size 48 1 v8 (zdC i K (j+1)).length (zdM (zdC i K (j+1)))):=by
       show World.ownsRow _ _ _ _ _ _ _;rw[HST.out,zkY,List.length_append,HL.out];exact hown8
      have HB8:Hid (zB w w8):=(HBW.out.alloc hsz _).grown hgrow8 (by simp;omega) (fun k hk=>(HROW.out.lt k hk).1);obtain⟨v8a,v8c,rfl,-⟩:=row_form hown8;clear hown8 hgrow8 hloc8 HROW HST;go_wp2;go_roundw
      case rel=>exact⟨j+1,hlt,by have:=HK1.out;first|(simp;done)|(simp;omega),HR8.out,HB8.out⟩
      case measure=>first|(simp[intOf];done)|(simp[intOf];omega)
     |false =>
      rw[hq,if_neg (by simp)] at HST;clear hq;have HR8:Hid (wr.ownsRow w.heap.size 48 1 (.slice oa n oc) (zdC i K (j+1)).length (zdM (zdC i K (j+1)))):=by
       show World.ownsRow _ _ _ _ _ _ _;rw[HST.out,HL.out];exact HROW.out
      clear HROW HST;go_wp2;go_roundw
      case rel=>exact⟨j+1,hlt,by have:=HK1.out;first|(simp;done)|(simp;omega),HR8.out,HBW.out⟩
      case measure=>first|(simp[intOf];done)|(simp[intOf];omega)
  ·obtain rfl:j=N:=by omega
   have hneg:¬(0:Int)<=(j:Int)-1-(j:Int):=by omega
   clear HAH;go_wp2;go_ret;exact⟨_,rfl,HROW.out,HBW.out⟩
end Bd
namespace Bd
open Go.RowKit Go.Deep
theorem zov{C:zcq}(hC:zc9 C):∀(k v:Nat) (f:Nat->Bool),0<=zdp C k v f/\zdp C k v f<=1000000*(k:Int)
 |0,_,_=>⟨Int.le_refl _,by show (0:Int)<=_;omega⟩
 |k+1,v,f=>by
  have h1:=zov hC k (v+1) f;have h2:=hC v (f v);show 0<=C v (f v)+zdp C k (v+1) f/\C v (f v)+zdp C k (v+1) f<=_;omega
theorem zh3(C:zcq)(hC:zc9 C)(vars:Nat)(hv:vars<=8)(L:List Nat)(hlen:L.length<=1000)(hL:∀x∈L,x<18446744073709551616)(la:Option Addr)(lc:Nat)(F:FuncId)(cb:Array Value)(hent:∀args w,(callFunc F args).run Tryz.prog w=.ok (.enter F args) w)(w:World)(hU:UIn w la L)(hCA:zdy w F cb C vars) :
  zR 25 #[.slice la L.length lc,.int .i64 vars,.func (.func F) #[] cb] w (.tuple #[.int .u64 ((chF C vars L).2.2:Nat),.bool (chF C vars L).2.1]):=by
 have HU:=zH hU;have HL:=zH hL;have HC:Hid (zc9 C):=hC;have HCA:Hid (∀W (i:Nat) (b:Bool),zB w W->i<vars->zR F (#[.int .i64 i,.bool b]++cb) W (.int .i64 (C i b))):=hCA;clear hU hL hC hCA;go_enter Tryz.func25,Tryz.ntmps25;go_wp2_with fail;go_loopw [8,9,10,17] (fun bV sV aV iV wr=>∃(i:Nat),i<=L.length/\iV=.int .i64 i/\bV=.int .i64 (chF C vars (L.take i)).1/\sV=.bool (chF C vars (L.take i)).2.1/\aV=.int .u64 ((chF C vars (L.take i)).2.2:Nat)/\zB w wr) (fun _ _ _ iV _=>L.length-(intOf iV).toNat)
 case atStart=>exact⟨0,Nat.zero_le _,rfl,rfl,rfl,rfl,Below.refl _ _⟩
 case round =>
  obtain⟨i,hi,rfl,rfl,rfl,rfl,hbw⟩:=hrel
  by_cases hlt:i<L.length
  ·have hii0:(0:Int)<=(i:Int):=by omega
   have hii1:(i:Int)<(L.length:Int):=by omega
   obtain⟨ad,rfl,had,hcell⟩:=HU.out.below hbw i hlt;have hx:=HL.out _ (zby (d:=0) hlt);have HTK:Hid (chF C vars (L.take (i+1))=chS C vars (chF C vars (L.take i)) (L.getD i 0)):=by
    show _=_;rw[<-zli,List.take_add_one,List.getD_eq_getElem?_getD,List.getElem?_eq_getElem hlt];rfl
   generalize L.getD i 0=x at *;obtain⟨ab,ao,asp⟩:=ad;have HBW:=zH hbw;clear hbw;generalize hst:chF C vars (L.take i)=st at *;clear hst;obtain⟨sb,ss,sx⟩:=st;dsimp only at *;go_wp2_with fail;go_loopw [13,22] (fun nV kV wx=>∃(k:Nat),k<=vars/\kV=.int .i64 k/\nV=.int .i64 (zdp C k 0 (zaY x))/\zB w wx) (fun _ kV _=>vars-(intOf kV).toNat)
   case atStart=>exact⟨0,Nat.zero_le _,rfl,rfl,HBW.out⟩
   case round =>
    obtain⟨k,hk,rfl,rfl,hbx⟩:=hrel;have HBX:=zH hbx;clear hbx;have hc1:=zov HC.out k 0 (zaY x)
    by_cases hlt2:k<vars
    ·have hkk:(k:Int)<(vars:Int):=by omega
     have hk0:(0:Int)<=(k:Int):=by omega
     have hs:=zeM x k hx;have HCL:=zH (HCA.out _ k (x.testBit k) HBX.out hlt2);have hsn:zdp C (k+1) 0 (zaY x)=zdp C k 0 (zaY x)+C k (x.testBit k):=by rw[zjH,Nat.zero_add];rfl
     have HSN:=zH hsn;have hc2:=HC.out k (x.testBit k);have hwr:IntKind.i64.wrap (zdp C k 0 (zaY x)+C k (x.testBit k))=zdp C k 0 (zaY x)+C k (x.testBit k):=by rw[IntKind.wrap_i64];omega
     clear hsn hcell;generalize zdp C k 0 (zaY x)=n0 at *;generalize C k (x.testBit k)=n1 at *;generalize x.testBit k=tb at *;go_wp2_with fail;refine HCL.out.mono ?_;rintro e w2 ⟨rfl,hb2⟩;have HB2:=zH (zT HBX.out hb2);clear hb2 HBX HCL;go_wp2;go_roundw
     case rel=>exact⟨k+1,hlt2,by go_num,by rw[HSN.out],HB2.out⟩
     case measure=>simp[intOf];omega
    ·obtain rfl:k=vars:=by omega
     unfold chS at HTK;dsimp only at HTK;generalize zdp C k 0 (zaY x)=n0 at *;clear hcell HCA;cases ss with
     |false =>
      rw[if_pos (Or.inl rfl)] at HTK;go_wp2;go_roundw
      case rel=>exact⟨i+1,hlt,by go_num,by rw[HTK.out],by rw[HTK.out],by rw[HTK.out],HBX.out⟩
      case measure=>simp[intOf];omega
     |true =>
      by_cases hn:n0<sb
      ·rw[if_pos (Or.inr hn)] at HTK;go_wp2;go_roundw
       case rel=>exact⟨i+1,hlt,by go_num,by rw[HTK.out],by rw[HTK.out],by rw[HTK.out],HBX.out⟩
       case measure=>simp[intOf];omega
      ·rw[if_neg (fun h=>h.elim (fun h=>by cases h) hn)] at HTK;go_wp2;go_roundw
       case rel=>exact⟨i+1,hlt,by go_num,by rw[HTK.out],by rw[HTK.out],by rw[HTK.out],HBX.out⟩
       case measure=>simp[intOf];omega
  ·obtain rfl:i=L.length:=by omega
   rw[List.take_length];have HBW:=zH hbw;clear hbw HU HL HCA;go_wp2;go_ret2;exact⟨rfl,HBW.out⟩
end Bd
namespace Go.Proofs
open Go.Shelf
def Tryz.lays137_ren:Go.Shelf.Ren:=⟨fun|137=>204|217=>269|266=>310|n=>n,fun|9=>9|5=>5|3=>3|n=>n,fun|n=>n⟩
theorem Tryz.lays137:Go.Proofs.Lays.n137 Tryz.prog Tryz.lays137_ren:={
 mixed:=by kernel_rfl
 f137:=zK Tryz.func204 (by kernel_rfl)
 f217:=zK Tryz.func269 (by kernel_rfl)
 f266:=zK Tryz.func310 (by kernel_rfl)
 t3:=Tryz.underlying3
 a3:=Tryz.isAgg3
 z3:=Tryz.sizeOf3
 v3:=Tryz.zeroValue3
 t5:=Tryz.underlying5
 a5:=Tryz.isAgg5
 z5:=Tryz.sizeOf5
 v5:=Tryz.zeroValue5
 t9:=Tryz.underlying9
 a9:=Tryz.isAgg9
 z9:=Tryz.sizeOf9
 v9:=Tryz.zeroValue9 }
open Go.RowKit in
theorem Tryz.strings_IndexByte(s:ByteArray)(c:Int)(w:World) :
  zC 204 #[.string s,.int .u8 c] w fun e w'=>e=.returned (.int .i64 (Lib.indexByte s.data.toList c.toNat.toUInt8))/\w'=w:=Any.strings_IndexByte Tryz.lays137 s c w
def Tryz.lays146_ren:Go.Shelf.Ren:=⟨fun|146=>113|221=>187|268=>249|138=>207|143=>250|195=>273|197=>257|218=>274|219=>272|260=>302|217=>269|225=>313|224=>314|267=>315|266=>310|314=>349|n=>n,fun|9=>9|31=>167|3=>3|4=>4|0=>0|105=>387|21=>21|5=>5|46=>48|119=>444|139=>447|138=>446|146=>461|51=>417|n=>n,fun|1=>5|3=>6|4=>7|n=>n⟩
theorem Tryz.lays146:Go.Proofs.Lays.n146 Tryz.prog Tryz.lays146_ren:={
 mixed:=by kernel_rfl
 f138:=zK Tryz.func207 (by kernel_rfl)
 f143:=zK Tryz.func250 (by kernel_rfl)
 f146:=zK Tryz.func113 (by kernel_rfl)
 f195:=zK Tryz.func273 (by kernel_rfl)
 f197:=zK Tryz.func257 (by kernel_rfl)
 f217:=zK Tryz.func269 (by kernel_rfl)
 f218:=zK Tryz.func274 (by kernel_rfl)
 f219:=zK Tryz.func272 (by kernel_rfl)
 f221:=zK Tryz.func187 (by kernel_rfl)
 f224:=zK Tryz.func314 (by kernel_rfl)
 f225:=zK Tryz.func313 (by kernel_rfl)
 f260:=zK Tryz.func302 (by kernel_rfl)
 f266:=zK Tryz.func310 (by kernel_rfl)
 f267:=zK Tryz.func315 (by kernel_rfl)
 f268:=zK Tryz.func249 (by kernel_rfl)
 f314:=zK Tryz.func349 (by kernel_rfl)
 t0:=Tryz.underlying0
 a0:=Tryz.isAgg0
 z0:=Tryz.sizeOf0
 v0:=Tryz.zeroValue0
 t3:=Tryz.underlying3
 a3:=Tryz.isAgg3
 z3:=Tryz.sizeOf3
 v3:=Tryz.zeroValue3
 t4:=Tryz.underlying4
 a4:=Tryz.isAgg4
 z4:=Tryz.sizeOf4
 v4:=Tryz.zeroValue4
 t5:=Tryz.underlying5
 a5:=Tryz.isAgg5
 z5:=Tryz.sizeOf5
 v5:=Tryz.zeroValue5
 t9:=Tryz.underlying9
 a9:=Tryz.isAgg9
 z9:=Tryz.sizeOf9
 v9:=Tryz.zeroValue9
 t21:=Tryz.underlying21
 a21:=Tryz.isAgg21
 z21:=Tryz.sizeOf21
 v21:=Tryz.zeroValue21
 t31:=Tryz.underlying167
 a31:=Tryz.isAgg167
 z31:=Tryz.sizeOf167
 v31:=Tryz.zeroValue167
 t46:=Tryz.underlying48
 a46:=Tryz.isAgg48
 z46:=Tryz.sizeOf48
 v46:=Tryz.zeroValue48
 t51:=Tryz.underlying417
 a51:=Tryz.isAgg417
 z51:=Tryz.sizeOf417
 v51:=Tryz.zeroValue417
 t105:=Tryz.underlying387
 a105:=Tryz.isAgg387
 z105:=Tryz.sizeOf387
 v105:=Tryz.zeroValue387
 t119:=Tryz.underlying444
 a119:=Tryz.isAgg444
 z119:=Tryz.sizeOf444
 t138:=Tryz.underlying446
 a138:=Tryz.isAgg446
 z138:=Tryz.sizeOf446
 v138:=Tryz.zeroValue446
 t139:=Tryz.underlying447
 a139:=Tryz.isAgg447
 z139:=Tryz.sizeOf447
 v139:=Tryz.zeroValue447
 t146:=Tryz.underlying461
 a146:=Tryz.isAgg461
 z146:=Tryz.sizeOf461
 v146:=Tryz.zeroValue461
 g1:=by kernel_rfl
 g3:=by kernel_rfl
 g4:=by kernel_rfl }
open Go.RowKit Go.Lib in
theorem Tryz.strings_Split(s sep:ByteArray)(m:Int)(w:World)(hs:s.size<4294967281)(hm:w.cell? ⟨5,0,none⟩=some (.int .i64 m))(h1:1<=sep.size) :
  zC 113 #[.string s,.string sep] w fun e w' =>
   e=.returned (.slice (some ⟨w.heap.size,0,none⟩) (Lib.countB s sep+1) (Lib.countB s sep+1))/\w'=w.alloc (.cells ((Lib.splitB sep 0 (Lib.countB s sep) s).map Value.string).toArray 9):=Any.strings_Split Tryz.lays146 (by kernel_rfl) s sep m w hs hm h1
end Go.Proofs
section
open Go.RowKit Go.Shelf Sv
def ptx(n:Nat):List UInt8:=Lib.itoa (n:Int)
structure zsZ(n:Nat):Prop where
 tells:zcA (ptx n)=.ok n
 digit:∀x∈ptx n,48<=x/\x<=57
 some:ptx n≠[]
 short:(ptx n).length<=3
theorem zsZ.not{n:Nat}(h:zsZ n){c:UInt8}(hc:c<48\/57<c):c∉ptx n:=fun e=>by
 have:=h.digit c e;rcases hc with hc|hc
 ·exact absurd hc (UInt8.not_lt.2 this.1)
 ·exact absurd hc (UInt8.not_lt.2 this.2)
theorem zdV{s:ByteArray}{l:List UInt8}(h:s.data.toList=l):s=⟨l.toArray⟩:=by
 obtain⟨d⟩:=s;subst h;simp
theorem zrf(l:List UInt8)(i j:Nat):((⟨l.toArray⟩:ByteArray).extract i j).data.toList=(l.take j).drop i:=by
 rw[ByteArray.data_extract];simp[List.take_drop];rcases Nat.le_total i j with h|h
 ·rw[Nat.add_sub_cancel' h]
 ·rw[List.drop_of_length_le (by simp;omega),List.drop_of_length_le (by simp;omega)]
end
section
open Go.RowKit Go.Shelf Sv
theorem ziU{s t:ByteArray}(h:s.data.toList=t.data.toList):s=t:=by
 rw[zdV h,<-zdV (s:=t) rfl]
theorem zcX(s:ByteArray)(i j:Nat):(s.extract i j).data.toList=(s.data.toList.take j).drop i:=by
 conv=>lhs;rw[zdV (s:=s) rfl]
 exact zrf _ _ _
theorem zqY(s:ByteArray)(k j:Nat)(h:k+j<=s.size):(s.extract k s.size).extract 0 j=s.extract k (k+j):=by
 apply ziU;rw[zcX,zcX,zcX,List.drop_zero,List.take_drop,List.take_take];congr 2;omega
theorem zqN(s:ByteArray)(k i:Nat):(s.extract k s.size).extract i (s.extract k s.size).size=s.extract (k+i) s.size:=by
 apply ziU;rw[Lib.extract_to_end,Lib.extract_to_end,Lib.extract_to_end,List.drop_drop]
theorem zjS(s m:ByteArray)(hm:1<=m.size):∀(f k:Nat),s.size<=k+f->k<=s.size->Lib.splitB m 0 (Lib.countB (s.extract k s.size) m) (s.extract k s.size)=(zbs s m f k).map (·.2):=by
 intro f
 induction f with
 |zero =>
  intro k h1 h2;have hz:(s.extract k s.size).size=0:=by simp;omega
  have hx:Lib.indexB (s.extract k s.size) m=-1:=by
   show Lib.index (s.extract k s.size).data.toList m.data.toList=-1;have h0:(s.extract k s.size).data.toList=[]:=by rw[Lib.extract_to_end];exact List.drop_eq_nil_of_le (by simp;omega)
   have hne:m.data.toList≠[]:=fun e=>by
    have:m.data.toList.length=m.size:=by simp
    rw[e] at this;simp at this;omega
   rw[h0];cases hm':m.data.toList with
   |nil=>exact absurd hm' hne
   |cons a r=>simp[Lib.index]
  rw[Lib.splitB_miss _ _ _ _ hx];rfl
 |succ f ih =>
  intro k h1 h2;have hge:=Lib.index_ge (s.extract k s.size).data.toList m.data.toList
  by_cases hneg:Lib.index (s.extract k s.size).data.toList m.data.toList<0
  ·have hx:Lib.indexB (s.extract k s.size) m=-1:=by
    show Lib.index (s.extract k s.size).data.toList m.data.toList=-1;omega
   rw[Lib.splitB_miss _ _ _ _ hx,zeI hneg];rfl
  ·obtain⟨j,hj⟩:=Int.eq_ofNat_of_zero_le (Int.not_lt.1 hneg);have hx:Lib.indexB (s.extract k s.size) m=(j:Int):=hj;have hr:=zcx (s.extract k s.size).data.toList m.data.toList (by rw[hj];omega);rw[hj] at hr;have hl:(s.extract k s.size).data.toList.length=s.size-k:=by rw[Lib.extract_to_end];simp
   have hml:m.data.toList.length=m.size:=by simp
   rw[hl,hml,Int.toNat_natCast] at hr;rw[Lib.countB_hit _ _ j hm hx,Nat.add_comm 1,Lib.splitB_hit _ _ _ _ j hx,zeJ hj,List.map_cons,Nat.add_zero,zqN,<-Nat.add_assoc,zqY s k j (by omega),ih _ (by omega) (by omega)]
end
section
open Go.RowKit Go.Shelf Sv
theorem zqs(s:ByteArray)(k:Nat):(s.extract k s.size).data.toList=s.data.toList.drop k:=by
 rw[zcX,List.take_of_length_le (by rw[Array.length_toList];exact Nat.le_refl _)]
end
section
open Go.RowKit Go.Shelf Sv
theorem zoE{s:ByteArray}{c:UInt8}(h:Lib.index s.data.toList [c]<0):zas s c=(s,⟨#[]⟩):=by
 unfold zas Lib.cut;rw[if_neg (by omega)]
theorem zuV{s:ByteArray}{c:UInt8}{j:Nat}(h:Lib.index s.data.toList [c]=(j:Int)):zas s c=(s.extract 0 j,s.extract (j+1) s.size):=by
 unfold zas Lib.cut;rw[if_pos (by omega),h];simp only[Int.toNat_natCast,List.length_singleton];refine Prod.ext ?_ ?_
 ·exact(zdV (by rw[zcX];simp)).symm
 ·exact(zdV (by rw[zqs])).symm
theorem zbv(s:ByteArray)(w:World)(hs:s.size<=100000):zR 130 #[.string s] w (.tuple #[.string (zas s 32).1,.string (zas s 32).2]):=by
 have HI:Hid (zC 204 #[.string s,.int .u8 32] w fun e w'=>e=.returned (.int .i64 (Lib.index s.data.toList [32]))/\w'=w):=by
  have:=Tryz.strings_IndexByte s 32 w;rw[show (32:Int).toNat.toUInt8=32 from rfl,<-Lib.index_one] at this;exact this
 by_cases h:Lib.index s.data.toList [32]<0
 ·rw[zoE h];generalize Lib.index s.data.toList [32]=K at *;go_enter Tryz.func130,Tryz.ntmps130;go_wp2_with fail;refine HI.out.mono ?_;rintro e w1 ⟨rfl,hw1⟩;rw[hw1];clear hw1 HI;go_wp2;refine bodyPost_ret (v:=.tuple #[.string s,.string ⟨#[]⟩]) (by simp[results,Tryz.results130,go_sem]) rfl ?_;exact⟨rfl,Below.refl _ _⟩
 ·obtain⟨j,hj⟩:∃j:Nat,Lib.index s.data.toList [32]=(j:Int):=⟨(Lib.index s.data.toList [32]).toNat,by omega⟩;have hroom:=zcx s.data.toList [32] (by omega);rw[hj] at hroom HI;have hln:s.data.toList.length=s.size:=by simp
  rw[hln] at hroom;simp only[Int.toNat_natCast,List.length_singleton] at hroom;rw[zuV hj];obtain⟨J1,hJ1⟩:∃J1,j+1=J1:=⟨_,rfl⟩;rw[hJ1] at hroom ⊢;have hwr:IntKind.i64.wrap ((j:Int)+1)=(J1:Int):=by rw[IntKind.wrap_i64];omega
  have hj0:¬(j:Int)<0:=by omega
  have i2:(j:Int)<=(s.size:Int):=by omega
  have i3:(J1:Int)<=(s.size:Int):=by omega
  have hsl:=fun W'=>run_slice_string_h (P:=Tryz.prog) W' 9 s Tryz.underlying9 .i64 (j:Int) (by omega) i2;have hsl2:=fun W'=>run_slice_string_l (P:=Tryz.prog) W' 9 s Tryz.underlying9 .i64 (J1:Int) (by omega) i3;simp only[Int.toNat_natCast] at hsl hsl2;clear h hj hln hJ1;go_enter Tryz.func130,Tryz.ntmps130;go_wp2_with fail;refine HI.out.mono ?_;rintro e w1 ⟨rfl,hw1⟩;rw[hw1];clear hw1 HI;go_wp2_with fail;go_big_region;have HB:Hid (zB w w.drew):=zF.drew;go_wp2;refine bodyPost_ret (v:=.tuple #[.string (s.extract 0 j),.string (s.extract J1 s.size)]) (by simp[results,Tryz.results130,go_sem]) rfl ?_;exact⟨rfl,HB.out⟩
end
namespace Sv
def inP:List Nat->Nat->Bool
 |[],_=>false
 |a :: r,n=>if a<=n then !inP r n else false
def Up:List Nat->Prop
 |[]=>True
 |a :: r=>(∀x∈r,a<x)/\Up r
def tp:List zau->List Nat
 |[]=>[]
 |s :: r=>s.1 :: s.2 :: tp r
theorem zeu{l:List Nat}{n:Nat}(h:∀x∈l,n<x):inP l n=false:=by
 cases l with
 |nil=>rfl
 |cons a r=>rw[inP,if_neg (by have:=h a List.mem_cons_self;omega)]
theorem zoe{l m:List Nat}:Up l->Up m->(∀n,inP l n=inP m n)->l=m:=by
 induction l generalizing m with
 |nil =>
  intro _ hm h;cases m with
  |nil=>rfl
  |cons b q =>have:=h b;rw[inP,inP,if_pos zN,zeu (fun x hx=>hm.1 x hx)] at this;cases this
 |cons a r ih =>
  intro hl hm h;cases m with
  |nil =>have:=h a;rw[inP,inP,if_pos zN,zeu (fun x hx=>hl.1 x hx)] at this;cases this
  |cons b q =>
   have hab:a=b:=by
    rcases Nat.lt_trichotomy a b with hlt|heq|hlt
    ·have:=h a;rw[inP,inP,if_pos zN,if_neg (by omega),zeu (fun x hx=>hl.1 x hx)] at this;cases this
    ·exact heq
    ·have:=h b;rw[inP,inP,if_neg (by omega),if_pos zN,zeu (fun x hx=>hm.1 x hx)] at this;cases this
   subst hab;rw[ih hl.2 hm.2 fun n=>?_]
   by_cases hn:a<=n
   ·have:=h n;rw[inP,inP,if_pos hn,if_pos hn] at this;cases hx:inP r n<;>cases hy:inP q n<;>simp_all
   ·rw[zeu (fun x hx=>by have:=hl.1 x hx;omega),zeu (fun x hx=>by have:=hm.1 x hx;omega)]
theorem zwj:∀{l:List zau} {lo:Nat},zb1 lo l->∀x∈tp l,lo<=x:=by
 intro l
 induction l with
 |nil=>intro lo _ x hx;cases hx
 |cons s r ih =>
  intro lo h x hx;obtain⟨h1,h2,h3,h4⟩:=h;rw[tp] at hx;rcases List.mem_cons.1 hx with rfl|hx
  ·exact h1
  ·rcases List.mem_cons.1 hx with rfl|hx
   ·omega
   ·have:=ih h4 x hx;omega
theorem ztF:∀{l:List zau} {lo:Nat},zb1 lo l->Up (tp l):=by
 intro l
 induction l with
 |nil=>intro lo _;trivial
 |cons s r ih =>
  intro lo h;obtain⟨h1,h2,h3,h4⟩:=h;refine⟨fun x hx=>?_,fun x hx=>?_,ih h4⟩
  ·rcases List.mem_cons.1 hx with rfl|hx
   ·exact h2
   ·have:=zwj h4 x hx;omega
  ·have:=zwj h4 x hx;omega
theorem zg0:∀{l:List zau} {lo n:Nat},zb1 lo l->(inP (tp l) n=true↔mem l n):=by
 intro l
 induction l with
 |nil=>intro lo n _;simp[tp,inP,zdk]
 |cons s r ih =>
  intro lo n h;obtain⟨h1,h2,h3,h4⟩:=h;have hr:=ih (n:=n) h4;have hg:mem r n->s.2+1<=n:=h4.ge;rw[tp,inP,inP,mem_cons]
  by_cases a:s.1<=n
  ·rw[if_pos a]
   by_cases b:s.2<=n
   ·rw[if_pos b];simp only[Bool.not_not,hr];constructor
    ·exact Or.inr
    ·rintro (⟨_,h⟩|h)
     ·omega
     ·exact h
   ·rw[if_neg b];simp only[Bool.not_false,true_iff];left;omega
  ·rw[if_neg a];simp only[Bool.false_eq_true,false_iff];rintro (⟨h,_⟩|h)
   ·omega
   ·have:=hg h;omega
theorem zjm(l:List zau):(tp l).length=l.length*2:=by
 induction l with
 |nil=>rfl
 |cons s r ih=>rw[tp,List.length_cons,List.length_cons,ih,List.length_cons];omega
theorem zv5{a b:Nat}:tp (zb2 a b)=if a<b then [a,b] else []:=by
 unfold zb2;split<;>rfl
def Srt:List Nat->Prop
 |[]=>True
 |a :: r=>(∀x∈r,a<=x)/\Srt r
theorem zkO{l r:List Nat}:Srt (l++r)↔Srt l/\Srt r/\∀x∈l,∀y∈r,x<=y:=by
 induction l with
 |nil=>simp[Srt]
 |cons a l ih =>
  rw[List.cons_append,Srt,Srt,ih];constructor
  ·rintro⟨h1,h2,h3,h4⟩;refine⟨⟨fun x hx=>h1 x (List.mem_append_left _ hx),h2⟩,h3,fun x hx y hy=>?_⟩;rcases List.mem_cons.1 hx with rfl|hx
   ·exact h1 y (List.mem_append_right _ hy)
   ·exact h4 x hx y hy
  ·rintro⟨⟨h1,h2⟩,h3,h4⟩;refine⟨fun x hx=>?_,h2,h3,fun x hx y hy=>h4 x (List.mem_cons_of_mem _ hx) y hy⟩;rcases List.mem_append.1 hx with hx|hx
   ·exact h1 x hx
   ·exact h4 a List.mem_cons_self x hx
def zfi(l:List Nat)(n:Nat):Nat->Nat
 |0=>0
 |k+1=>if n<l.getD k 0 then zfi l n k else k+1
theorem znX(l:List Nat)(n k:Nat):zfi l n k<=k:=by
 induction k with
 |zero=>exact Nat.le_refl _
 |succ k ih=>unfold zfi;split<;>omega
def zjY(l:List Nat)(n:Nat):List Nat:=l.take (zfi l n l.length)++n :: l.drop (zfi l n l.length)
theorem zvF(l:List Nat)(n:Nat):∀k j,zfi l n k<=j->j<k->n<l.getD j 0:=by
 intro k
 induction k with
 |zero=>intro j _ h;omega
 |succ k ih =>
  intro j h1 h2;unfold zfi at h1;split at h1
  ·rename_i hlt
   by_cases hj:j<k
   ·exact ih j h1 hj
   ·obtain rfl:j=k:=by omega
    exact hlt
  ·omega
theorem zwi(l:List Nat)(n:Nat):∀k,0<zfi l n k->l.getD (zfi l n k-1) 0<=n:=by
 intro k
 induction k with
 |zero=>intro h;exact absurd h (by simp[zfi])
 |succ k ih =>
  unfold zfi;split
  ·exact ih
  ·rename_i h;intro _;simpa using h
theorem zuf{l:List Nat}{n x:Nat}:x∈zjY l n↔x=n\/x∈l:=by
 unfold zjY;rw[List.mem_append,List.mem_cons];have:x∈l↔x∈l.take (zfi l n l.length)\/x∈l.drop (zfi l n l.length):=by
  rw[<-List.mem_append,List.take_append_drop]
 rw[this];constructor
 ·rintro (h|h|h)<;>simp[h]
 ·rintro (h|h|h)<;>simp[h]
theorem zuO{l:List Nat}{n:Nat}(h:Srt l):Srt (zjY l n):=by
 unfold zjY;have hsplit:=h;rw[<-List.take_append_drop (zfi l n l.length) l,zkO] at hsplit;obtain⟨h1,h2,h3⟩:=hsplit;have hp:=znX l n l.length;rw[zkO];refine⟨h1,⟨fun x hx=>?_,h2⟩,fun x hx y hy=>?_⟩
 ·obtain⟨i,hi,rfl⟩:=List.getElem_of_mem hx;rw[List.length_drop] at hi;have:=zvF l n l.length (zfi l n l.length+i) (by omega) (by omega);rw[List.getD_eq_getElem?_getD,List.getElem?_eq_getElem (by omega)] at this;rw[List.getElem_drop];simp at this;omega
 ·rcases List.mem_cons.1 hy with rfl|hy
  ·by_cases hz:0<zfi l y l.length
   ·have hlo:=zwi l y l.length hz
    -- the last one of the first part is not greater,and all of them are not greater than it
    have hlast:l.getD (zfi l y l.length-1) 0∈l.take (zfi l y l.length):=by
     rw[List.getD_eq_getElem?_getD,List.getElem?_eq_getElem (by omega)];simp only[Option.getD_some];exact List.mem_iff_getElem.2 ⟨zfi l y l.length-1,by rw[List.length_take];omega,by rw[List.getElem_take]⟩
    obtain⟨i,hi,rfl⟩:=List.getElem_of_mem hx;rw[List.length_take] at hi;rw[List.getElem_take];have hsr:∀(a b:Nat) (hb:b<l.length),(hab:a<=b)->l[a]'(by omega)<=l[b]:=by
     intro a b hb hab;rcases Nat.lt_or_eq_of_le hab with hlt|rfl
     ·have hs2:=h;rw[<-List.take_append_drop (a+1) l,zkO] at hs2;refine hs2.2.2 _ ?_ _ ?_
      ·exact List.mem_iff_getElem.2 ⟨a,by rw[List.length_take];omega,by rw[List.getElem_take]⟩
      ·exact List.mem_iff_getElem.2 ⟨b-(a+1),by rw[List.length_drop];omega,by rw[List.getElem_drop];congr 1;omega⟩
     ·exact Nat.le_refl _
    have:=hsr i (zfi l y l.length-1) (by omega) (by omega);rw[List.getD_eq_getElem?_getD,List.getElem?_eq_getElem (by omega)] at hlo;simp only[Option.getD_some] at hlo;omega
   ·rw[show zfi l y l.length=0 by omega] at hx;simp at hx
  ·exact h3 x hx y hy
def zfN(acc:List Nat)(l:List Nat):List Nat:=l.foldl zjY acc
theorem ziu:∀{l acc:List Nat},Srt acc->Srt (zfN acc l):=by
 intro l
 induction l with
 |nil=>intro acc h;exact h
 |cons a r ih=>intro acc h;exact ih (acc:=zjY acc a) (zuO h)
theorem zhT:∀{l acc:List Nat} {x:Nat},x∈zfN acc l↔x∈acc\/x∈l:=by
 intro l
 induction l with
 |nil=>intro acc x;simp[zfN]
 |cons a r ih =>
  intro acc x;show x∈zfN (zjY acc a) r↔_;rw[ih,zuf,List.mem_cons];constructor
  ·rintro ((h|h)|h)<;>simp[h]
  ·rintro (h|h|h)<;>simp[h]
def zbb(f:Nat->Bool):Bool->List Nat->List Nat
 |_,[]=>[]
 |is,n :: r=>if f n=is then zbb f is r else n :: zbb f (f n) r
def zkr(f:Nat->Bool):Bool->List Nat->Nat->Bool
 |is,[],_=>is
 |is,n :: r,x=>if n<=x then zkr f (f n) r x else is
theorem zjj{f:Nat->Bool}:∀{l:List Nat} {is:Bool},∀x∈zbb f is l,x∈l:=by
 intro l
 induction l with
 |nil=>intro is x hx;cases hx
 |cons n r ih =>
  intro is x hx;unfold zbb at hx;split at hx
  ·exact List.mem_cons_of_mem _ (ih x hx)
  ·rcases List.mem_cons.1 hx with rfl|hx
   ·exact List.mem_cons_self
   ·exact List.mem_cons_of_mem _ (ih x hx)
theorem zrQ{f:Nat->Bool}{n:Nat}:∀{l:List Nat},Srt l->(∀x∈l,n<=x)->∀x∈zbb f (f n) l,n<x:=by
 intro l
 induction l with
 |nil=>intro _ _ x hx;cases hx
 |cons m r ih =>
  intro hs hl x hx;have hm:=hl m List.mem_cons_self;unfold zbb at hx;split at hx
  ·exact ih hs.2 (fun y hy=>hl y (List.mem_cons_of_mem _ hy)) x hx
  ·rename_i hne;have hlt:n<m:=by
    rcases Nat.lt_or_eq_of_le hm with h|rfl
    ·exact h
    ·exact absurd rfl hne
   rcases List.mem_cons.1 hx with rfl|hx
   ·exact hlt
   ·have:=hs.1 x (zjj x hx);omega
theorem zrY{f:Nat->Bool}:∀{l:List Nat} {is:Bool},Srt l->Up (zbb f is l):=by
 intro l
 induction l with
 |nil=>intro is _;trivial
 |cons n r ih =>
  intro is hs;unfold zbb;split
  ·exact ih hs.2
  ·exact⟨zrQ hs.2 hs.1,ih hs.2⟩
theorem zrc{f:Nat->Bool}{x:Nat}:∀{l:List Nat} {is:Bool},Srt l->(inP (zbb f is l) x ^^ is)=zkr f is l x:=by
 intro l
 induction l with
 |nil=>intro is _;simp[zbb,inP,zkr]
 |cons n r ih =>
  intro is hs;have h1:=ih (is:=f n) hs.2;unfold zbb zkr
  by_cases hn:n<=x
  ·rw[if_pos hn];split
   ·rename_i e;rw[<-e];exact h1
   ·rename_i e;rw[inP,if_pos hn,<-h1];cases hf:f n<;>cases is<;>simp_all
  ·rw[if_neg hn];split
   ·rw[zeu (fun y hy=>by have:=hs.1 y (zjj y hy);omega)];simp
   ·rw[inP,if_neg hn];simp
theorem ztI{f:Nat->Bool}{x:Nat}:∀{l:List Nat} {is:Bool},Srt l->(∃e∈l,e<=x)->∃m∈l,(∀e∈l,e<=m↔e<=x)/\zkr f is l x=f m:=by
 intro l
 induction l with
 |nil=>rintro is _ ⟨e,he,_⟩;cases he
 |cons n r ih =>
  intro is hs hex;have hn:n<=x:=by
   obtain⟨e,he,hle⟩:=hex;rcases List.mem_cons.1 he with rfl|he
   ·exact hle
   ·have:=hs.1 e he;omega
  unfold zkr;rw[if_pos hn]
  by_cases h:∃e∈r,e<=x
  ·obtain⟨m,hm,h1,h2⟩:=ih (is:=f n) hs.2 h;refine⟨m,List.mem_cons_of_mem _ hm,fun e he=>?_,h2⟩;rcases List.mem_cons.1 he with rfl|he
   ·have:=hs.1 m hm;exact⟨fun _=>hn,fun _=>this⟩
   ·exact h1 e he
  ·refine⟨n,List.mem_cons_self,fun e he=>?_,?_⟩
   ·rcases List.mem_cons.1 he with rfl|he
    ·exact⟨fun _=>hn,fun _=>Nat.le_refl _⟩
    ·have hgt:¬e<=x:=fun hle=>h ⟨e,he,hle⟩;constructor
     ·intro hle;omega
     ·intro hle;exact absurd hle hgt
   ·cases r with
    |nil=>rfl
    |cons m q =>unfold zkr;rw[if_neg (fun hle=>h ⟨m,List.mem_cons_self,hle⟩)]
theorem zjn{m x:Nat}:∀{l:List Nat},(∀e∈l,e<=m↔e<=x)->inP l m=inP l x:=by
 intro l
 induction l with
 |nil=>intro _;rfl
 |cons a r ih =>
  intro h;have:=h a List.mem_cons_self;unfold inP;rw[ih (fun e he=>h e (List.mem_cons_of_mem _ he))]
  by_cases ha:a<=x
  ·rw[if_pos ha,if_pos (this.2 ha)]
  ·rw[if_neg ha,if_neg (fun hm=>ha (this.1 hm))]
def zgX(a b:List Nat)(rule:Bool->Bool->Bool)(n:Nat):Bool:=decide (n<ALL)&&rule (inP a n) (inP b n)
def zcU(a b:List Nat):List Nat:=zfN (zfN (zfN [] [0,ALL]) a) b
def zsk(a b:List Nat)(rule:Bool->Bool->Bool):List Nat:=zbb (zgX a b rule) false (zcU a b)
theorem zfm(a b:List Nat):Srt (zcU a b):=ziu (ziu (ziu trivial))
theorem zd1{a b:List Nat}{x:Nat}:x∈zcU a b↔(x=0\/x=ALL)\/x∈a\/x∈b:=by
 unfold zcU;rw[zhT,zhT,zhT];simp[or_assoc]
theorem zpM(a b:List Nat)(rule:Bool->Bool->Bool)(x:Nat):inP (zsk a b rule) x=zgX a b rule x:=by
 have h:=zrc (f:=zgX a b rule) (x:=x) (is:=false) (zfm a b);obtain⟨m,hm,h1,h2⟩:=ztI (f:=zgX a b rule) (x:=x) (is:=false) (zfm a b) ⟨0,zd1.2 (Or.inl (Or.inl rfl)),Nat.zero_le _⟩;rw[h2] at h;simp only[Bool.xor_false] at h;unfold zsk;rw[h];unfold zgX;have hA:=h1 ALL (zd1.2 (Or.inl (Or.inr rfl)));rw[zjn (l:=a) (fun e he=>h1 e (zd1.2 (Or.inr (Or.inl he)))),zjn (l:=b) (fun e he=>h1 e (zd1.2 (Or.inr (Or.inr he))))];congr 1;rw[decide_eq_decide];omega
theorem zoD(a b:List Nat)(rule:Bool->Bool->Bool):Up (zsk a b rule):=zrY (zfm a b)
open Classical in
theorem zuK{l m:List zau}(hl:Rg l)(hm:Rg m):zsk (tp l) (tp m) (fun x y=>x&&y)=tp (nd l m) :=
 zoe (zoD _ _ _) (ztF (zhO hl hm)) fun n=>by
  rw[zpM,Bool.eq_iff_iff,zg0 (zhO hl hm),zs3 hl hm];unfold zgX;rw[Bool.and_eq_true,Bool.and_eq_true,zg0 hl,zg0 hm,decide_eq_true_iff];exact⟨fun h=>h.2,fun h=>⟨hl.lt h.1,h⟩⟩
theorem zvW{l m:List zau}(hl:Rg l)(hm:Rg m):zsk (tp l) (tp m) (fun x y=>x||y)=tp (orr l m) :=
 zoe (zoD _ _ _) (ztF (zja hl hm)) fun n=>by
  rw[zpM,Bool.eq_iff_iff,zg0 (zja hl hm),zs9 hl hm];unfold zgX;rw[Bool.and_eq_true,Bool.or_eq_true,zg0 hl,zg0 hm,decide_eq_true_iff];exact⟨fun h=>h.2,fun h=>⟨h.elim hl.lt hm.lt,h⟩⟩
theorem zts{l:List zau}(hl:Rg l):zsk (tp l) [] (fun x _=>!x)=tp (nt l) :=
 zoe (zoD _ _ _) (ztF (zeb hl)) fun n=>by
  rw[zpM,Bool.eq_iff_iff,zg0 (zeb hl),zlB hl];unfold zgX;rw[Bool.and_eq_true,Bool.not_eq_true',decide_eq_true_iff,<-Bool.not_eq_true,zg0 hl]
theorem zmt(a b:List Nat):(zcU a b).length=a.length+b.length+2:=by
 have hi:∀(l:List Nat) (n:Nat),(zjY l n).length=l.length+1:=fun l n=>by
  unfold zjY;rw[List.length_append,List.length_cons,List.length_take,List.length_drop];have:=znX l n l.length;omega
 have ha:∀(l acc:List Nat),(zfN acc l).length=acc.length+l.length:=fun l=>by
  induction l with
  |nil=>intro acc;rfl
  |cons x l ih=>intro acc;show (zfN (zjY acc x) l).length=_;rw[ih,hi,List.length_cons];omega
 unfold zcU;rw[ha,ha,ha];simp;omega
end Sv
end Go.Proofs.YtiihalknffbjpaaGreatDoor
