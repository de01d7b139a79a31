/- The reference: a text up to the first blank, and what is behind it. -/
import Derived.Test.YtiihalknffbjpaaGreatDoorSpText
import Derived.Shelf.Strings.OnBuilder
import Derived.Shelf.Strings.Replace
import Derived.Shelf.Strings.BuilderK
namespace Go.Proofs.YtiihalknffbjpaaGreatDoor
set_option maxHeartbeats 4000000
set_option maxRecDepth 100000
namespace Bd
open Go.RowKit Go.Deep Sv
section
variable {B p s b vars:Nat} {O:Nat->Prop} {room:Int} {K:List (List Int)} {w:World}
theorem ziM(h12:vars<=12)(hl:ze2 vars K):ClR vars K (clF K):=by
 have:=zpP h12 K hl K.length zN
 rwa [List.take_length] at this
theorem zo3(h12:vars<=12)(hl:ze2 vars K):(clF K).1.length<=90000:=by
 have:=(ziM h12 hl).len;have:=ze3 h12;omega
def zjA(vars:Nat)(K:List (List Int)):Nat:=zeg vars 0 (fun f=>K.all (clS f)) (fun _=>false)
theorem zsO(h12:vars<=12)(K:List (List Int)):zjA vars K<=100000000:=by
 have h1:=zpL (fun f=>K.all (clS f)) vars 0 (fun _=>false);have h2:=ze3 h12;unfold zjA;omega
theorem zoG(hS:zag B w s b O vars room (clF K).1)(h12:vars<=12)(hl:ze2 vars K) :
  zC 18 #[.pointer (some ⟨s,0,none⟩),.int .i64 (clF K).2] w fun e w'=>∃a n c,e=.returned (.tuple #[.agg #[.slice a n c],.nilIface])/\zbj w' (.agg #[.slice a n c]) (zjA vars K)/\zB w w':=by
 have hc:=ziM h12 hl;refine(zqp w hS hc.good (zo3 h12 hl) (by omega) (clF K).2 hc.has).mono ?_;rintro e w' ⟨v,rfl,hn,hb⟩;rw[zvT hc.sem] at hn;have hn0:=hn;obtain⟨x,rfl,-⟩:=hn0;exact⟨x.a,x.n,x.c,rfl,hn,hb⟩
end
end Bd
namespace Bd
open Go.RowKit
theorem zjF{vars:Nat}{c:List Int}(hl:zfS vars c){f g:Nat->Bool}(h:∀i,i<vars->f i=g i):clS f c=clS g c:=by
 unfold clS;rw[Bool.eq_iff_iff,List.any_eq_true,List.any_eq_true];have key:∀x∈c,zlt f x=zlt g x:=fun x hx=>by unfold zlt;rw[h _ (zfs (hl x hx))]
 exact⟨fun⟨x,h1,h2⟩=>⟨x,h1,by rw[<-key x h1];exact h2⟩,fun⟨x,h1,h2⟩=>⟨x,h1,by rw[key x h1];exact h2⟩⟩
theorem zha{vars:Nat}{K:List (List Int)}(hl:ze2 vars K){f g:Nat->Bool}(h:∀i,i<vars->f i=g i):K.all (clS f)=K.all (clS g):=by
 rw[Bool.eq_iff_iff,List.all_eq_true,List.all_eq_true];exact⟨fun a c hc=>by rw[<-zjF (hl c hc) h];exact a c hc,fun a c hc=>by rw[zjF (hl c hc) h];exact a c hc⟩
theorem ziC{vars:Nat}(h24:vars<=24){K:List (List Int)}(hl:ze2 vars K)(vals:Nat):K.all (clS (zkt vals))=zkn vals K:=by
 unfold zkn;rw[Bool.eq_iff_iff,List.all_eq_true,List.all_eq_true];have h24:∀c∈K,zfS 24 c:=fun c hc x hx=>zgE (by omega) (hl c hc x hx);exact⟨fun h c hc=>by rw[<-zmh (h24 c hc)];exact h c hc,fun h c hc=>by rw[zmh (h24 c hc)];exact h c hc⟩
end Bd
namespace Bd
open Go.RowKit
section
variable {vars:Nat} {K:List (List Int)}
theorem zvP(h12:vars<=12)(hl:ze2 vars K){v:Nat}(hv:v<vars)(is:Bool):zqM vars (clF K).1 (clF K).2 is v=true↔∀f:Nat->Bool,(∀j,vars<=j->f j=false)->K.all (clS f)=true->f v=is:=by
 rw[zsE hv];have hs:=(ziM h12 hl).sem;exact⟨fun h f a b=>h f a ((hs f).trans b),fun h f a b=>h f a ((hs f).symm.trans b)⟩
end
end Bd
namespace Bd
open Go.RowKit
def ziZ(k vars:Nat):Nat->Nat
 |0=>0
 |m+1=>if k.testBit (vars-1-m) then ziZ k vars m|||2^m else ziZ k vars m
theorem zd5{i m:Nat}(e:¬m=i):decide (i<m+1)=decide (i<m):=by
 by_cases q:i<m
 ·rw[decide_eq_true q,decide_eq_true (by omega)]
 ·rw[decide_eq_false q,decide_eq_false (by omega)]
theorem ziO(k vars:Nat):∀m i,(ziZ k vars m).testBit i=(decide (i<m)&&k.testBit (vars-1-i))
 |0,i=>by simp[ziZ]
 |m+1,i=>by
  have ih:=ziO k vars m i;unfold ziZ;split
  ·rename_i h;rw[Nat.testBit_or,Nat.testBit_two_pow,ih]
   by_cases e:m=i
   ·subst e;simp[h]
   ·rw[zd5 e];simp[e]
  ·rename_i h;rw[ih]
   by_cases e:m=i
   ·subst e;simp at h;simp[h]
   ·rw[zd5 e]
theorem zpO(k vars m:Nat):ziZ k vars m<2^m:=Nat.lt_pow_two_of_testBit _ (fun i hi=>by rw[ziO,decide_eq_false (by omega)];rfl)
def zkr(vars k:Nat):Nat:=ziZ k vars vars
theorem zls(vars k:Nat):zkr vars k<2^vars:=zpO k vars vars
theorem zii{vars i:Nat}(k:Nat)(hi:i<vars):(zkr vars k).testBit i=k.testBit (vars-1-i):=by
 unfold zkr;rw[ziO,decide_eq_true hi,Bool.true_and]
theorem zoL{vars i x:Nat}(hx:x<2^vars)(hi:vars<=i):x.testBit i=false:=Nat.testBit_lt_two_pow (Nat.lt_of_lt_of_le hx (Nat.pow_le_pow_right (by omega) hi))
theorem zs4{vars k:Nat}(hk:k<2^vars):zkr vars (zkr vars k)=k:=by
 apply Nat.eq_of_testBit_eq;intro i
 by_cases hi:i<vars
 ·rw[zii _ hi,zii _ (by omega)];congr 1;omega
 ·rw[zoL (zls _ _) (by omega),zoL hk (by omega)]
def fnN(f:Nat->Bool):Nat->Nat
 |0=>0
 |m+1=>if f m then fnN f m|||2^m else fnN f m
theorem zlp(f:Nat->Bool):∀m i,(fnN f m).testBit i=(decide (i<m)&&f i)
 |0,i=>by simp[fnN]
 |m+1,i=>by
  have ih:=zlp f m i;unfold fnN;split
  ·rename_i h;rw[Nat.testBit_or,Nat.testBit_two_pow,ih]
   by_cases e:m=i
   ·subst e;simp[h]
   ·rw[zd5 e];simp[e]
  ·rename_i h;rw[ih]
   by_cases e:m=i
   ·subst e;simp at h;simp[h]
   ·rw[zd5 e]
theorem zwM(f:Nat->Bool)(m:Nat):fnN f m<2^m:=Nat.lt_pow_two_of_testBit _ (fun i hi=>by rw[zlp,decide_eq_false (by omega)];rfl)
section
variable {vars:Nat} {K:List (List Int)}
def zeK(vars:Nat)(K:List (List Int))(j:Nat):List Nat:=((List.range j).map fun i=>zkr vars (2^vars-1-i)).filter fun x=>zkn x K
theorem zpJ(j:Nat):zeK vars K (j+1)=if zkn (zkr vars (2^vars-1-j)) K=true then zeK vars K j++[zkr vars (2^vars-1-j)] else zeK vars K j:=by
 unfold zeK;rw[List.range_succ,List.map_append,List.filter_append];split
 ·rename_i h;simp[h]
 ·rename_i h;simp[h]
theorem zrF{j y:Nat}:y∈zeK vars K j↔(∃i,i<j/\zkr vars (2^vars-1-i)=y)/\zkn y K=true:=by
 unfold zeK;rw[List.mem_filter,List.mem_map];constructor
 ·rintro⟨⟨i,hi,e⟩,h⟩;exact⟨⟨i,List.mem_range.1 hi,e⟩,h⟩
 ·rintro⟨⟨i,hi,e⟩,h⟩;exact⟨⟨i,List.mem_range.2 hi,e⟩,h⟩
theorem zkx{y:Nat}:y∈zeK vars K (2^vars)↔y<2^vars/\zkn y K=true:=by
 rw[zrF];constructor
 ·rintro⟨⟨i,-,rfl⟩,h⟩;exact⟨zls _ _,h⟩
 ·rintro⟨h1,h2⟩;have:=zls vars y;refine⟨⟨2^vars-1-zkr vars y,by omega,?_⟩,h2⟩;rw[show 2^vars-1-(2^vars-1-zkr vars y)=zkr vars y by omega,zs4 h1]
theorem zrP(j:Nat):(zeK vars K j).length<=j:=by
 unfold zeK;have:=List.length_filter_le (fun x=>zkn x K) ((List.range j).map fun i=>zkr vars (2^vars-1-i));simpa using this
theorem zwj(h12:vars<=12)(hl:ze2 vars K){v:Nat}(hv:v<vars)(is:Bool):((zeK vars K (2^vars)).all fun x=>x.testBit v==is)=zqM vars (clF K).1 (clF K).2 is v:=by
 rw[Bool.eq_iff_iff,zvP h12 hl hv is,List.all_eq_true];constructor
 ·intro h f hf hK;obtain⟨x,hxv,hxb⟩:∃x,x<2^vars/\∀i,i<vars->zkt x i=f i:=by
   exact⟨fnN f vars,zwM f vars,fun i hi=>by show (fnN f vars).testBit i=_;rw[zlp,decide_eq_true hi,Bool.true_and]⟩
  have ha:zkn x K=true:=by rw[<-ziC (show vars<=24 by omega) hl,zha hl hxb];exact hK
  have:=h x (zkx.2 ⟨hxv,ha⟩);rw[<-hxb v hv];exact eq_of_beq this
 ·intro h x hx;obtain⟨h1,h2⟩:=zkx.1 hx;have:=h (fun j=>if j<vars then zkt x j else false) (fun j hj=>if_neg (by omega)) (by
   rw [zha hl (g:=zkt x) (fun i hi=>if_pos hi),ziC (by omega) hl];exact h2)
  rw[if_pos hv] at this;exact beq_iff_eq.2 this
end
end Bd
section
open Go.RowKit
theorem zae(n lo hi:Int)(w:World):zC 209 #[.int .i64 n,.int .i64 lo,.int .i64 hi] w fun e w'=>e=.returned (.bool (decide (lo<=n/\n<=hi)))/\w=w':=by
 by_cases h1:lo<=n
 ·by_cases h2:n<=hi
  ·rw[show decide (lo<=n/\n<=hi)=true by simp[h1,h2]];go_enter Tryz.func209,Tryz.ntmps209;go_wp2;go_ret;exact⟨rfl,rfl⟩
  ·rw[show decide (lo<=n/\n<=hi)=false by simp[h2]];go_enter Tryz.func209,Tryz.ntmps209;go_wp2;go_ret;exact⟨rfl,rfl⟩
 ·rw[show decide (lo<=n/\n<=hi)=false by simp[h1]];go_enter Tryz.func209,Tryz.ntmps209;go_wp2;go_ret;exact⟨rfl,rfl⟩
theorem zl9(vals t:Nat):zlZ vals ((t:Int)+1)=vals.testBit t:=by
 unfold zlZ;rw[if_pos (by omega)];congr 1
theorem zme(vals t:Nat):zlZ vals (-((t:Int)+1))=!vals.testBit t:=by
 unfold zlZ;rw[if_neg (by omega),show (- -((t:Int)+1)).toNat-1=t by omega]
theorem zky{α:Type}{p:α->Bool}{xs:List α}{k:Nat}{d:α}(hk:k<xs.length)(h1:p (xs.getD k d)=true):xs.any p=true:=List.any_eq_true.2 ⟨_,zbL hk,h1⟩
theorem zmV{α:Type}{p:α->Bool}{xs:List α}{d:α}(h0:∀j,j<xs.length->p (xs.getD j d)=false):xs.any p=false:=by
 rw[List.any_eq_false];intro x hx;obtain⟨j,hj,rfl⟩:=List.getElem_of_mem hx;have:=h0 j hj;rw[List.getD_eq_getElem?_getD,List.getElem?_eq_getElem hj] at this;simpa using this
end
section
open Go.RowKit
theorem znR(c:List Int)(a:Option Addr)(cap:Nat)(vals:Nat)(hv:vals<18446744073709551616)(w:World)(hI:zbu w a c)(hm:c.length<=9223372036854775807)(hr:∀x∈c,zi0 24 x=true) :
  zC 162 #[.slice a c.length cap,.int .u64 vals] w fun e w'=>e=.returned (.bool (c.any (zlZ vals)))/\w=w':=by
 have HI:=zH hI;have HR:=zH hr;clear hI hr;go_enter Tryz.func162,Tryz.ntmps162;go_wp2_with fail;go_loop [9] (fun kV=>∃k:Nat,k<=c.length/\kV=.int .i64 k/\(∀j,j<k->zlZ vals (c.getD j 0)=false)) (fun kV=>c.length-(intOf kV).toNat)
 case atStart=>exact⟨0,Nat.zero_le _,rfl,fun j h=>by omega⟩
 case round =>
  obtain⟨k,hk,rfl,h1⟩:=hrel;have H1:=zH h1;clear h1
  by_cases hlt:k<c.length
  ·obtain⟨ad,rfl,hl,hc⟩:=HI.out k hlt;have hx0:=HR.out _ (zbL (d:=0) hlt);generalize hx:c.getD k 0=x at *;have hx1:x≠0/\-24<=x/\x<=24:=by simpa[zi0] using hx0
   have HX:=zH hx;clear hx hx0
   by_cases hp:0<x
   ·obtain⟨t,rfl⟩:∃t:Nat,x=(t:Int)+1:=⟨x.toNat-1,by omega⟩;have ht:t<24:=by omega
    have hs:=ziI vals t hv;cases hb:vals.testBit t with
    |true =>rw[hb] at hs;have HRES:Hid (c.any (zlZ vals)=true):=zky (d:=0) hlt (by rw[HX.out,zl9];exact hb);clear hb hx1;go_wp2;go_ret;exact⟨by rw[HRES.out];rfl,rfl⟩
    |false =>
     rw[hb] at hs;have HRES:Hid (zlZ vals ((t:Int)+1)=false):=by show _=false;rw[zl9];exact hb
     clear hb hx1;go_wp2;go_round
     case rel=>exact ⟨k + 1,hlt,by go_num,fun j hj=>(by
      rcases Nat.lt_succ_iff_lt_or_eq.1 hj with e|e
      ·exact H1.out j e
      ·rw [e,HX.out];exact HRES.out)⟩
     case measure=>simp[intOf];omega
   ·obtain⟨t,rfl⟩:∃t:Nat,x=-((t:Int)+1):=⟨(-x).toNat-1,by omega⟩;have ht:t<24:=by omega
    have hs:=zmt vals t hv;cases hb:vals.testBit t with
    |false =>rw[hb] at hs;have HRES:Hid (c.any (zlZ vals)=true):=zky (d:=0) hlt (by rw[HX.out,zme,hb];rfl);clear hb hx1;go_wp2;go_ret;exact⟨by rw[HRES.out];rfl,rfl⟩
    |true =>
     rw[hb] at hs;have HRES:Hid (zlZ vals (-((t:Int)+1))=false):=by show _=false;rw[zme,hb];rfl
     clear hb hx1;go_wp2;go_round
     case rel=>exact ⟨k + 1,hlt,by go_num,fun j hj=>(by
      rcases Nat.lt_succ_iff_lt_or_eq.1 hj with e|e
      ·exact H1.out j e
      ·rw [e,HX.out];exact HRES.out)⟩
     case measure=>simp[intOf];omega
  ·obtain rfl:k=c.length:=by omega
   have HRES:Hid (c.any (zlZ vals)=false):=zmV H1.out;go_wp2;go_ret;exact⟨by rw[HRES.out];rfl,rfl⟩
theorem ztr{vals:Nat}{c:List Int}(hr:∀x∈c,zi0 24 x=true):zhj vals c=c.any (zlZ vals):=by
 unfold zhj;rw[Bool.eq_iff_iff,List.any_eq_true,List.any_eq_true];constructor
 ·rintro⟨x,hx,h⟩;exact⟨x,hx,by unfold zw7 at h;rw[hr x hx] at h;simpa using h⟩
 ·rintro⟨x,hx,h⟩;exact⟨x,hx,by unfold zw7;rw[hr x hx,h];rfl⟩
theorem zjk(l:List (List Int))(a:Option Addr)(cap:Nat)(vals:Nat)(hv:vals<18446744073709551616)(w:World)(hI:zeD w a l)(hm:l.length<=9223372036854775807)(hr:∀c∈l,∀x∈c,zi0 24 x=true) :
  zC 76 #[.slice a l.length cap,.int .u64 vals] w fun e w'=>e=.returned (.bool (zkn vals l))/\w=w':=by
 have HI:=zH hI;have HR:=zH hr;clear hI hr;rw[zvx];go_enter Tryz.func76,Tryz.ntmps76;go_wp2_with fail;go_loop [9] (fun kV=>∃k:Nat,k<=l.length/\kV=.int .i64 k/\(∀j,j<k->(!zhj vals (l.getD j []))=false)) (fun kV=>l.length-(intOf kV).toNat)
 case atStart=>exact⟨0,Nat.zero_le _,rfl,fun j h=>by omega⟩
 case round =>
  obtain⟨k,hk,rfl,h1⟩:=hrel;have H1:=zH h1;clear h1
  by_cases hlt:k<l.length
  ·obtain⟨ad,a',cap',rfl,hl,hc,g1,g2,g3⟩:=HI.out k hlt;have hr0:=HR.out _ (zbL (d:=[]) hlt);have HC:=zH (znR (l.getD k []) a' cap' vals hv w g3 (by omega) hr0);rw[<-ztr hr0] at HC;generalize hx:l.getD k []=c at *;have HX:=zH hx;clear hx hr0 g3;cases hb:zhj vals c with
   |true =>
    rw[hb] at HC;have HB:=zH hb;clear hb;go_wp2_with fail;refine HC.out.mono ?_;rintro e w1 ⟨rfl,rfl⟩;clear HC;go_wp2;go_round
    case rel=>exact ⟨k + 1,hlt,by go_num,fun j hj=>(by
     rcases Nat.lt_succ_iff_lt_or_eq.1 hj with e|e
     ·exact H1.out j e
     ·rw [e,HX.out,HB.out];rfl)⟩
    case measure=>simp[intOf];omega
   |false =>rw[hb] at HC;have HRES:Hid (l.any (fun c=>!zhj vals c)=true):=zky (d:=[]) hlt (by rw[HX.out,hb];rfl);clear hb;go_wp2_with fail;refine HC.out.mono ?_;rintro e w1 ⟨rfl,rfl⟩;clear HC;go_wp2;go_ret;exact⟨by rw[HRES.out];rfl,rfl⟩
  ·obtain rfl:k=l.length:=by omega
   have HRES:Hid (l.any (fun c=>!zhj vals c)=false):=zmV H1.out;go_wp2;go_ret;exact⟨by rw[HRES.out];rfl,rfl⟩
end
namespace Bd
open Go.RowKit Go.Deep
def zdO(l:List Nat):List Value:=l.map fun n:Nat=>Value.int .u64 n
theorem zlh(l:List Nat)(x:Nat):zdO (l++[x])=zdO l++[.int .u64 x]:=by simp[zdO]
theorem zo0(l:List Nat)(i:Nat)(h:i<l.length):(zdO l)[i]?=some (.int .u64 (l.getD i 0:Nat)):=by simp[zdO,List.getD_eq_getElem?_getD,h]
theorem zp3:(Tryz.prog.info? 48).map (fun i=>(i.zero,i.size,i.bytes))=some (some (.int .u64 0),1,8):=by kernel_rfl
theorem zqG(w:World)(x:Int)(t:TypeId):∀(j:Nat) (u:Value),[Value.int .u64 x][j]?=some u->(w.alloc (.cells #[.int .u64 x] t)).cell? ((⟨w.heap.size,0,none⟩:Addr).add j)=some u:=by
 intro j u hj;have:j=0:=by have:=(List.getElem?_eq_some_iff.1 hj).1;simp at this;omega
 subst this;rw[add_plain,(Blk.new w t #[.int .u64 x]).cell];exact hj
theorem zti(x:Int):∀u∈[Value.int .u64 x],u.oneCell'=true:=fun u hu=>by
 rw[List.mem_singleton] at hu;subst hu;rfl
theorem zrZ:∀m:Fin 256,bits BinOp.and IntKind.i64 ((m.val:Nat):Int) 1=((m.val%2:Nat):Int):=by decide +kernel
theorem zug(k t:Nat)(hk:k<256):(bits BinOp.and IntKind.i64 ((k:Int)/2^t) 1==1)=k.testBit t:=by
 have e:(k:Int)/2^t=((k/2^t:Nat):Int):=by simp
 have hd:k/2^t<=k:=Nat.div_le_self _ _;rw[e,zrZ ⟨k/2^t,by omega⟩,Nat.testBit_eq_decide_div_mod_eq,Bool.eq_iff_iff];simp;omega
def UIn(w:World)(a:Option Addr)(l:List Nat):Prop:=∀i,i<l.length->∃ad:Addr,a=some ad/\ad.block<w.heap.size/\w.cell? (ad.add i)=some (.int .u64 (l.getD i 0:Nat))
theorem UIn.below{w w':World}{a:Option Addr}{l:List Nat}(h:UIn w a l)(hb:zB w w'):UIn w' a l:=fun i hi=>by
 obtain⟨ad,h1,h2,h3⟩:=h i hi;exact⟨ad,h1,Nat.lt_of_lt_of_le h2 hb.size,(hb.cell (p:=ad.add i) (by rw[zb8];exact h2)).trans h3⟩
theorem zvy{B:Nat}{w:World}{a:Option Addr}{c:Nat}{l:List Nat}(h:w.ownsRow B 48 1 (.slice a l.length c) l.length (zdO l)):UIn w a l:=by
 intro i hi;rcases h.2 with ⟨e,e0⟩|⟨g,cap,cur,e,-,hg,-⟩
 ·omega
 ·injection e with e1 e2 e3;subst e1;have:=h.cellAt i (by omega);refine⟨_,rfl,(Array.getElem?_eq_some_iff.1 hg).1,?_⟩;rw[add_plain,Nat.zero_add,<-zo0 l i hi];subst e3;exact this
theorem zhU(vars:Nat)(hv:vars<=8)(K:List (List Int))(a:Option Addr)(cap:Nat)(w:World)(hI:zeD w a K)(hm:K.length<=10000)(hl:ze2 vars K) :
  zC 17 #[.int .i64 vars,.slice a K.length cap] w fun e w'=>∃v,e=.returned v/\w'.ownsRow w.heap.size 48 1 v (zeK vars K (2^vars)).length (zdO (zeK vars K (2^vars)))/\zB w w':=by
 obtain⟨i0,hin,hz0,hz1,hz2⟩:=info_parts zp3;have hp8:(2:Nat)^vars<=256:=Nat.pow_le_pow_right (n:=2) (by omega) hv;have hp0:0<(2:Nat)^vars:=Nat.two_pow_pos vars;have HAH:Hid (∀x:Nat,x<18446744073709551616->∀W,zB w W->zC 76 #[.slice a K.length cap,.int .u64 x] W fun e w'=>e=.returned (.bool (zkn x K))/\W=w'):=fun x hx W hW=>zjk K a cap x hx W (hI.below hW) (by omega) (fun c hc y hy=>zgE (by omega) (hl c hc y hy));obtain⟨N,hN⟩:∃N,N=2^vars:=⟨_,rfl⟩;have hw1:IntKind.i64.wrap (IntKind.i64.wrap (2^vars)-1)=(N:Int)-1:=by
  have e:((2:Int)^vars)=(N:Int):=by rw[hN];simp
  rw[e,IntKind.wrap_i64,IntKind.wrap_i64];omega
 have hw2:wrap64 (wrap64 (2^vars)-1)=(N:Int)-1:=by
  have e:((2:Int)^vars)=(N:Int):=by rw[hN];simp
  have hN':N<=256:=by rw[hN];exact hp8
  rw[e];unfold wrap64;omega
 rw[<-hN] at hp8 hp0 ⊢;clear hI hl;have HN:=zH hN;clear hN;go_enter Tryz.func17,Tryz.ntmps17;go_wp2_with fail;go_loopw [5,6] (fun oV kV wr=>∃(j:Nat),j<=N/\kV=.int .i64 ((N:Int)-1-(j:Int))/\wr.ownsRow w.heap.size 48 1 oV (zeK vars K j).length (zdO (zeK vars K j))/\zB w wr) (fun _ kV _=>(intOf kV+1).toNat)
 case atStart=>exact⟨0,Nat.zero_le _,by rw[hw2];simp,World.ownsRow_nil _ _ _ _,Below.refl _ _⟩
 case round =>
  obtain⟨j,hj,rfl,hrow,hbw⟩:=hrel;clear hw1 hw2;have HROW:=zH hrow;have HBW:=zH hbw;have hsz:=hbw.size;clear hrow hbw
  by_cases hlt:j<N
  ·obtain⟨k,hk⟩:∃k:Nat,(N:Int)-1-(j:Int)=(k:Int):=⟨N-1-j,by omega⟩;have HK1:Hid (k=N-1-j):=(show k=N-1-j by omega);have hkb:k<256:=by omega
   have hkw:IntKind.i64.wrap ((k:Int)-1)=(k:Int)-1:=by rw[IntKind.wrap_i64];omega
   have hk0:(0:Int)<=(k:Int):=by omega
   rw[hk];go_wp2_with fail;go_loop [7,17] (fun xV iV=>∃(i:Nat),i<=vars/\iV=.int .i64 i/\xV=.int .u64 (ziZ k vars i:Nat)) (fun _ iV=>vars-(intOf iV).toNat)
   case atStart=>exact⟨0,Nat.zero_le _,rfl,rfl⟩
   case round =>
    obtain⟨i,hi,rfl,rfl⟩:=hrel;have hG:=zpO k vars i;have hGp:(2:Nat)^i<=256:=Nat.pow_le_pow_right (n:=2) (by omega) (show i<=8 by omega)
    by_cases hlt2:i<vars
    ·have hii:(i:Int)<(vars:Int):=by omega
     have t1:IntKind.i64.wrap ((vars:Int)-1)=(vars:Int)-1:=by rw[IntKind.wrap_i64];omega
     obtain⟨t,ht⟩:∃t:Nat,(vars:Int)-1-(i:Int)=(t:Int):=⟨vars-1-i,by omega⟩;have t2:IntKind.i64.wrap ((vars:Int)-1-(i:Int))=(t:Int):=by rw[ht,IntKind.wrap_i64];omega
     have ht0:(0:Int)<=(t:Int):=by omega
     have hs:=zug k t hkb;have hor:=zmU (ziZ k vars i) i (by omega) (by omega);have HG:Hid (ziZ k vars (i+1)=if k.testBit t then ziZ k vars i|||2^i else ziZ k vars i):=by
      show _=_;rw[ziZ,show vars-1-i=t by omega]
     generalize ziZ k vars i=g at *;cases hb:k.testBit t with
     |true =>
      rw[hb] at hs HG;rw[if_pos rfl] at HG;clear hb;go_wp2;go_round
      case rel=>exact⟨i+1,hlt2,by go_num,by rw[HG.out]⟩
      case measure=>simp[intOf];omega
     |false =>
      rw[hb] at hs HG;rw[if_neg (by simp)] at HG;clear hb;go_wp2;go_round
      case rel=>exact⟨i+1,hlt2,by go_num,by rw[HG.out]⟩
      case measure=>simp[intOf];omega
    ·obtain rfl:i=vars:=by omega
     have HST:Hid (zeK i K (j+1)=if zkn (ziZ k i i) K=true then zeK i K j++[ziZ k i i] else zeK i K j):=by
      have h:=zpJ (vars:=i) (K:=K) j;rw[<-HN.out,<-HK1.out] at h;exact h
     have HA:=zH (HAH.out (ziZ k i i) (by omega) wr HBW.out);have hil:=zrP (vars:=i) (K:=K) j;generalize ziZ k i i=g at *;go_wp2_with fail;refine HA.out.mono ?_;rintro e wy ⟨rfl,rfl⟩;obtain⟨oa,oc,rfl,-⟩:=row_form HROW.out;generalize hL:(zeK i K j).length=n at *;have HL:=zH hL;clear hL HA HAH;cases hq:zkn g K with
     |true =>
      rw[hq,if_pos rfl] at HST;clear hq;go_wp2_with (at_builtin;refine wpList_append_own_at _ rfl _ _ 38 rfl w.heap.size 48 i0 (.int .u64 0) 1 8 Tryz.underlying38 hin hz0 hz1 hz2 rfl (by decide) _ _ _ rfl (HROW.out.alloc _) ⟨wr.heap.size,0,none⟩ 1 1 [.int .u64 g] rfl rfl ?e1 ?e2 ?e3 ?e4 ?e5 ?_)
      case e1=>exact zqG _ _ _
      case e2=>exact zti _
      case e3=>unfold maxLen;omega
      case e4=>omega
      case e5=>simp;omega
      intro v8 w8 hown8 hgrow8 _ hloc8;have HR8:Hid (w8.ownsRow w.heap.size 48 1 v8 (zeK i K (j+1)).length (zdO (zeK i K (j+1)))):=by
       show World.ownsRow _ _ _ _ _ _ _;rw[HST.out,zlh,List.length_append,HL.out];exact hown8
      have HB8:Hid (zB w w8):=(HBW.out.alloc hsz _).grown hgrow8 (by simp;omega) (fun k hk=>(HROW.out.lt k hk).1);obtain⟨v8a,v8c,rfl,-⟩:=row_form hown8;clear hown8 hgrow8 hloc8 HROW HST;go_wp2;go_roundw
      case rel=>exact⟨j+1,hlt,by have:=HK1.out;first|(simp;done)|(simp;omega),HR8.out,HB8.out⟩
      case measure=>first|(simp[intOf];done)|(simp[intOf];omega)
     |false =>
      rw[hq,if_neg (by simp)] at HST;clear hq;have HR8:Hid (wr.ownsRow w.heap.size 48 1 (.slice oa n oc) (zeK i K (j+1)).length (zdO (zeK i K (j+1)))):=by
       show World.ownsRow _ _ _ _ _ _ _;rw[HST.out,HL.out];exact HROW.out
      clear HROW HST;go_wp2;go_roundw
      case rel=>exact⟨j+1,hlt,by have:=HK1.out;first|(simp;done)|(simp;omega),HR8.out,HBW.out⟩
      case measure=>first|(simp[intOf];done)|(simp[intOf];omega)
  ·obtain rfl:j=N:=by omega
   have hneg:¬(0:Int)<=(j:Int)-1-(j:Int):=by omega
   clear HAH;go_wp2;go_ret;exact⟨_,rfl,HROW.out,HBW.out⟩
end Bd
namespace Go.Proofs
open Go.Shelf
def Tryz.lays137_ren:Go.Shelf.Ren:=⟨fun|137=>204|217=>269|266=>310|n=>n,fun|9=>9|5=>5|3=>3|n=>n,fun|n=>n⟩
theorem Tryz.lays137:Go.Proofs.Lays.n137 Tryz.prog Tryz.lays137_ren:={
 zdx:=by kernel_rfl
 f137:=zK Tryz.func204 (by kernel_rfl)
 f217:=zK Tryz.func269 (by kernel_rfl)
 f266:=zK Tryz.func310 (by kernel_rfl)
 t3:=Tryz.underlying3
 a3:=Tryz.isAgg3
 z3:=Tryz.sizeOf3
 v3:=Tryz.zeroValue3
 t5:=Tryz.underlying5
 a5:=Tryz.isAgg5
 z5:=Tryz.sizeOf5
 v5:=Tryz.zeroValue5
 t9:=Tryz.underlying9
 a9:=Tryz.isAgg9
 z9:=Tryz.sizeOf9
 v9:=Tryz.zeroValue9 }
open Go.RowKit in
theorem Tryz.strings_IndexByte(s:ByteArray)(c:Int)(w:World) :
  zC 204 #[.string s,.int .u8 c] w fun e w'=>e=.returned (.int .i64 (Lib.indexByte s.data.toList c.toNat.toUInt8))/\w'=w:=Any.strings_IndexByte Tryz.lays137 s c w
def Tryz.laysM171_ren:Go.Shelf.Ren:=⟨fun|171=>81|243=>169|246=>235|283=>231|284=>232|285=>233|286=>234|129=>293|317=>292|318=>294|319=>295|320=>296|337=>328|338=>329|n=>n,fun|3=>3|9=>9|2=>2|4=>4|171=>349|0=>0|53=>165|37=>163|5=>5|173=>352|212=>416|51=>417|20=>20|213=>418|46=>48|232=>468|233=>469|n=>n,fun|17=>4|18=>8|19=>9|n=>n⟩
theorem Tryz.laysM171:Go.Proofs.LaysM.n171 Tryz.prog Tryz.laysM171_ren:={
 zdx:=by kernel_rfl
 f129:=zK Tryz.func293 (by kernel_rfl)
 f171:=zK Tryz.func81 (by kernel_rfl)
 f243:=zK Tryz.func169 (by kernel_rfl)
 f246:=zK Tryz.func235 (by kernel_rfl)
 f283:=zK Tryz.func231 (by kernel_rfl)
 f284:=zK Tryz.func232 (by kernel_rfl)
 f285:=zK Tryz.func233 (by kernel_rfl)
 f286:=zK Tryz.func234 (by kernel_rfl)
 f317:=zK Tryz.func292 (by kernel_rfl)
 f318:=zK Tryz.func294 (by kernel_rfl)
 f319:=zK Tryz.func295 (by kernel_rfl)
 f320:=zK Tryz.func296 (by kernel_rfl)
 f337:=zK Tryz.func328 (by kernel_rfl)
 f338:=zK Tryz.func329 (by kernel_rfl)
 t0:=Tryz.underlying0
 a0:=Tryz.isAgg0
 z0:=Tryz.sizeOf0
 v0:=Tryz.zeroValue0
 t2:=Tryz.underlying2
 a2:=Tryz.isAgg2
 z2:=Tryz.sizeOf2
 v2:=Tryz.zeroValue2
 t3:=Tryz.underlying3
 a3:=Tryz.isAgg3
 z3:=Tryz.sizeOf3
 v3:=Tryz.zeroValue3
 t4:=Tryz.underlying4
 a4:=Tryz.isAgg4
 z4:=Tryz.sizeOf4
 v4:=Tryz.zeroValue4
 t5:=Tryz.underlying5
 a5:=Tryz.isAgg5
 z5:=Tryz.sizeOf5
 v5:=Tryz.zeroValue5
 t9:=Tryz.underlying9
 a9:=Tryz.isAgg9
 z9:=Tryz.sizeOf9
 v9:=Tryz.zeroValue9
 t20:=Tryz.underlying20
 a20:=Tryz.isAgg20
 z20:=Tryz.sizeOf20
 v20:=Tryz.zeroValue20
 t37:=Tryz.underlying163
 a37:=Tryz.isAgg163
 z37:=Tryz.sizeOf163
 v37:=Tryz.zeroValue163
 t46:=Tryz.underlying48
 a46:=Tryz.isAgg48
 z46:=Tryz.sizeOf48
 v46:=Tryz.zeroValue48
 t51:=Tryz.underlying417
 a51:=Tryz.isAgg417
 z51:=Tryz.sizeOf417
 v51:=Tryz.zeroValue417
 t53:=Tryz.underlying165
 a53:=Tryz.isAgg165
 z53:=Tryz.sizeOf165
 v53:=Tryz.zeroValue165
 t171:=Tryz.underlying349
 a171:=Tryz.isAgg349
 z171:=Tryz.sizeOf349
 v171:=Tryz.zeroValue349
 t173:=Tryz.underlying352
 a173:=Tryz.isAgg352
 z173:=Tryz.sizeOf352
 v173:=Tryz.zeroValue352
 t212:=Tryz.underlying416
 a212:=Tryz.isAgg416
 z212:=Tryz.sizeOf416
 v212:=Tryz.zeroValue416
 t213:=Tryz.underlying418
 a213:=Tryz.isAgg418
 z213:=Tryz.sizeOf418
 t232:=Tryz.underlying468
 a232:=Tryz.isAgg468
 z232:=Tryz.sizeOf468
 v232:=Tryz.zeroValue468
 t233:=Tryz.underlying469
 a233:=Tryz.isAgg469
 z233:=Tryz.sizeOf469
 v233:=Tryz.zeroValue469
 g17:=by kernel_rfl
 g18:=by kernel_rfl
 g19:=by kernel_rfl
 i0:=by kernel_rfl
 i2:=by kernel_rfl
 i3:=by kernel_rfl
 i4:=by kernel_rfl
 i5:=by kernel_rfl
 i9:=by kernel_rfl
 i20:=by kernel_rfl
 i37:=by kernel_rfl
 i46:=by kernel_rfl
 i51:=by kernel_rfl
 i53:=by kernel_rfl
 i171:=by kernel_rfl
 i173:=by kernel_rfl
 i212:=by kernel_rfl
 i232:=by kernel_rfl
 i233:=by kernel_rfl
 m17:=by kernel_rfl
 m18:=by kernel_rfl
 m19:=by kernel_rfl }
open Go.RowKit Go.Sort Go.Lib in
theorem Tryz.strconv_Itoa(n:Int)(h0:-9223372036854775808<=n)(h1:n<=9223372036854775807)(w:World)(htab:Lib.TabIs Tryz.prog w "internal/strconv.uint64pow10" .u64 Lib.pow10Tab) :
  zC 81 #[.int .i64 n] w fun e w'=>e=.returned (.string ⟨(Lib.itoa n).toArray⟩)/\∃k os,w'=grow (w.drewN k) os:=Any.strconv_Itoa Tryz.laysM171 n h0 h1 w htab
def Tryz.lays146_ren:Go.Shelf.Ren:=⟨fun|146=>113|221=>187|268=>249|138=>207|143=>250|195=>273|197=>257|218=>274|219=>272|260=>302|217=>269|225=>313|224=>314|267=>315|266=>310|314=>349|n=>n,fun|9=>9|31=>167|3=>3|4=>4|0=>0|105=>387|21=>21|5=>5|46=>48|119=>444|139=>447|138=>446|146=>461|51=>417|n=>n,fun|1=>5|3=>6|4=>7|n=>n⟩
theorem Tryz.lays146:Go.Proofs.Lays.n146 Tryz.prog Tryz.lays146_ren:={
 zdx:=by kernel_rfl
 f138:=zK Tryz.func207 (by kernel_rfl)
 f143:=zK Tryz.func250 (by kernel_rfl)
 f146:=zK Tryz.func113 (by kernel_rfl)
 f195:=zK Tryz.func273 (by kernel_rfl)
 f197:=zK Tryz.func257 (by kernel_rfl)
 f217:=zK Tryz.func269 (by kernel_rfl)
 f218:=zK Tryz.func274 (by kernel_rfl)
 f219:=zK Tryz.func272 (by kernel_rfl)
 f221:=zK Tryz.func187 (by kernel_rfl)
 f224:=zK Tryz.func314 (by kernel_rfl)
 f225:=zK Tryz.func313 (by kernel_rfl)
 f260:=zK Tryz.func302 (by kernel_rfl)
 f266:=zK Tryz.func310 (by kernel_rfl)
 f267:=zK Tryz.func315 (by kernel_rfl)
 f268:=zK Tryz.func249 (by kernel_rfl)
 f314:=zK Tryz.func349 (by kernel_rfl)
 t0:=Tryz.underlying0
 a0:=Tryz.isAgg0
 z0:=Tryz.sizeOf0
 v0:=Tryz.zeroValue0
 t3:=Tryz.underlying3
 a3:=Tryz.isAgg3
 z3:=Tryz.sizeOf3
 v3:=Tryz.zeroValue3
 t4:=Tryz.underlying4
 a4:=Tryz.isAgg4
 z4:=Tryz.sizeOf4
 v4:=Tryz.zeroValue4
 t5:=Tryz.underlying5
 a5:=Tryz.isAgg5
 z5:=Tryz.sizeOf5
 v5:=Tryz.zeroValue5
 t9:=Tryz.underlying9
 a9:=Tryz.isAgg9
 z9:=Tryz.sizeOf9
 v9:=Tryz.zeroValue9
 t21:=Tryz.underlying21
 a21:=Tryz.isAgg21
 z21:=Tryz.sizeOf21
 v21:=Tryz.zeroValue21
 t31:=Tryz.underlying167
 a31:=Tryz.isAgg167
 z31:=Tryz.sizeOf167
 v31:=Tryz.zeroValue167
 t46:=Tryz.underlying48
 a46:=Tryz.isAgg48
 z46:=Tryz.sizeOf48
 v46:=Tryz.zeroValue48
 t51:=Tryz.underlying417
 a51:=Tryz.isAgg417
 z51:=Tryz.sizeOf417
 v51:=Tryz.zeroValue417
 t105:=Tryz.underlying387
 a105:=Tryz.isAgg387
 z105:=Tryz.sizeOf387
 v105:=Tryz.zeroValue387
 t119:=Tryz.underlying444
 a119:=Tryz.isAgg444
 z119:=Tryz.sizeOf444
 t138:=Tryz.underlying446
 a138:=Tryz.isAgg446
 z138:=Tryz.sizeOf446
 v138:=Tryz.zeroValue446
 t139:=Tryz.underlying447
 a139:=Tryz.isAgg447
 z139:=Tryz.sizeOf447
 v139:=Tryz.zeroValue447
 t146:=Tryz.underlying461
 a146:=Tryz.isAgg461
 z146:=Tryz.sizeOf461
 v146:=Tryz.zeroValue461
 g1:=by kernel_rfl
 g3:=by kernel_rfl
 g4:=by kernel_rfl }
open Go.RowKit Go.Lib in
theorem Tryz.strings_Split(s sep:ByteArray)(m:Int)(w:World)(hs:s.size<4294967281)(hm:w.cell? ⟨5,0,none⟩=some (.int .i64 m))(h1:1<=sep.size) :
  zC 113 #[.string s,.string sep] w fun e w' =>
   e=.returned (.slice (some ⟨w.heap.size,0,none⟩) (Lib.countB s sep+1) (Lib.countB s sep+1))/\w'=w.alloc (.cells ((Lib.splitB sep 0 (Lib.countB s sep) s).map Value.string).toArray 9):=Any.strings_Split Tryz.lays146 (by kernel_rfl) s sep m w hs hm h1
end Go.Proofs
section
open Go.RowKit Go.Shelf Sv
def ptx(n:Nat):List UInt8:=Lib.itoa (n:Int)
structure ztY(n:Nat):Prop where
 tells:zcC (ptx n)=.ok n
 digit:∀x∈ptx n,48<=x/\x<=57
 some:ptx n≠[]
 short:(ptx n).length<=3
theorem ztY.not{n:Nat}(h:ztY n){c:UInt8}(hc:c<48\/57<c):c∉ptx n:=fun e=>by
 have:=h.digit c e;rcases hc with hc|hc
 ·exact absurd hc (UInt8.not_lt.2 this.1)
 ·exact absurd hc (UInt8.not_lt.2 this.2)
theorem zd3{s:ByteArray}{l:List UInt8}(h:s.data.toList=l):s=⟨l.toArray⟩:=by
 obtain⟨d⟩:=s;subst h;simp
theorem zsQ(l:List UInt8)(i j:Nat):((⟨l.toArray⟩:ByteArray).extract i j).data.toList=(l.take j).drop i:=by
 rw[ByteArray.data_extract];simp[List.take_drop];rcases Nat.le_total i j with h|h
 ·rw[Nat.add_sub_cancel' h]
 ·rw[List.drop_of_length_le (by simp;omega),List.drop_of_length_le (by simp;omega)]
end
section
open Go.RowKit Go.Shelf Sv
theorem zj2{s t:ByteArray}(h:s.data.toList=t.data.toList):s=t:=by
 rw[zd3 h,<-zd3 (s:=t) rfl]
theorem zc8(s:ByteArray)(i j:Nat):(s.extract i j).data.toList=(s.data.toList.take j).drop i:=by
 conv=>lhs;rw[zd3 (s:=s) rfl]
 exact zsQ _ _ _
theorem zrM(s:ByteArray)(k j:Nat)(h:k+j<=s.size):(s.extract k s.size).extract 0 j=s.extract k (k+j):=by
 apply zj2;rw[zc8,zc8,zc8,List.drop_zero,List.take_drop,List.take_take];congr 2;omega
theorem ztB(s:ByteArray)(k i:Nat):(s.extract k s.size).extract i (s.extract k s.size).size=s.extract (k+i) s.size:=by
 apply zj2;rw[Lib.extract_to_end,Lib.extract_to_end,Lib.extract_to_end,List.drop_drop]
theorem zi2(s m:ByteArray)(hm:1<=m.size):∀(f k:Nat),s.size<=k+f->k<=s.size->Lib.splitB m 0 (Lib.countB (s.extract k s.size) m) (s.extract k s.size)=(zbw s m f k).map (·.2):=by
 intro f
 induction f with
 |zero =>
  intro k h1 h2;have hz:(s.extract k s.size).size=0:=by simp;omega
  have hx:Lib.indexB (s.extract k s.size) m=-1:=by
   show Lib.index (s.extract k s.size).data.toList m.data.toList=-1;have h0:(s.extract k s.size).data.toList=[]:=by rw[Lib.extract_to_end];exact List.drop_eq_nil_of_le (by simp;omega)
   have hne:m.data.toList≠[]:=fun e=>by
    have:m.data.toList.length=m.size:=by simp
    rw[e] at this;simp at this;omega
   rw[h0];cases hm':m.data.toList with
   |nil=>exact absurd hm' hne
   |cons a r=>simp[Lib.index]
  rw[Lib.splitB_miss _ _ _ _ hx];rfl
 |succ f ih =>
  intro k h1 h2;have hge:=Lib.index_ge (s.extract k s.size).data.toList m.data.toList
  by_cases hneg:Lib.index (s.extract k s.size).data.toList m.data.toList<0
  ·have hx:Lib.indexB (s.extract k s.size) m=-1:=by
    show Lib.index (s.extract k s.size).data.toList m.data.toList=-1;omega
   rw[Lib.splitB_miss _ _ _ _ hx,zeS hneg];rfl
  ·obtain⟨j,hj⟩:=Int.eq_ofNat_of_zero_le (Int.not_lt.1 hneg);have hx:Lib.indexB (s.extract k s.size) m=(j:Int):=hj;have hr:=zcz (s.extract k s.size).data.toList m.data.toList (by rw[hj];omega);rw[hj] at hr;have hl:(s.extract k s.size).data.toList.length=s.size-k:=by rw[Lib.extract_to_end];simp
   have hml:m.data.toList.length=m.size:=by simp
   rw[hl,hml,Int.toNat_natCast] at hr;rw[Lib.countB_hit _ _ j hm hx,Nat.add_comm 1,Lib.splitB_hit _ _ _ _ j hx,zeL hj,List.map_cons,Nat.add_zero,ztB,<-Nat.add_assoc,zrM s k j (by omega),ih _ (by omega) (by omega)]
end
section
open Go.RowKit Go.Shelf Sv
theorem zrp(s:ByteArray)(k:Nat):(s.extract k s.size).data.toList=s.data.toList.drop k:=by
 rw[zc8,List.take_of_length_le (by rw[Array.length_toList];exact Nat.le_refl _)]
end
section
open Go.RowKit Go.Shelf Sv
theorem zp9{s:ByteArray}{c:UInt8}(h:Lib.index s.data.toList [c]<0):zar s c=(s,⟨#[]⟩):=by
 unfold zar Lib.cut;rw[if_neg (by omega)]
theorem zuT{s:ByteArray}{c:UInt8}{j:Nat}(h:Lib.index s.data.toList [c]=(j:Int)):zar s c=(s.extract 0 j,s.extract (j+1) s.size):=by
 unfold zar Lib.cut;rw[if_pos (by omega),h];simp only[Int.toNat_natCast,List.length_singleton];refine Prod.ext ?_ ?_
 ·exact(zd3 (by rw[zc8];simp)).symm
 ·exact(zd3 (by rw[zrp])).symm
theorem zby(s:ByteArray)(w:World)(hs:s.size<=100000):zR 130 #[.string s] w (.tuple #[.string (zar s 32).1,.string (zar s 32).2]):=by
 have HI:Hid (zC 204 #[.string s,.int .u8 32] w fun e w'=>e=.returned (.int .i64 (Lib.index s.data.toList [32]))/\w'=w):=by
  have:=Tryz.strings_IndexByte s 32 w;rw[show (32:Int).toNat.toUInt8=32 from rfl,<-Lib.index_one] at this;exact this
 by_cases h:Lib.index s.data.toList [32]<0
 ·rw[zp9 h];generalize Lib.index s.data.toList [32]=K at *;go_enter Tryz.func130,Tryz.ntmps130;go_wp2_with fail;refine HI.out.mono ?_;rintro e w1 ⟨rfl,hw1⟩;rw[hw1];clear hw1 HI;go_wp2;refine bodyPost_ret (v:=.tuple #[.string s,.string ⟨#[]⟩]) (by simp[results,Tryz.results130,go_sem]) rfl ?_;exact⟨rfl,Below.refl _ _⟩
 ·obtain⟨j,hj⟩:∃j:Nat,Lib.index s.data.toList [32]=(j:Int):=⟨(Lib.index s.data.toList [32]).toNat,by omega⟩;have hroom:=zcz s.data.toList [32] (by omega);rw[hj] at hroom HI;have hln:s.data.toList.length=s.size:=by simp
  rw[hln] at hroom;simp only[Int.toNat_natCast,List.length_singleton] at hroom;rw[zuT hj];obtain⟨J1,hJ1⟩:∃J1,j+1=J1:=⟨_,rfl⟩;rw[hJ1] at hroom ⊢;have hwr:IntKind.i64.wrap ((j:Int)+1)=(J1:Int):=by rw[IntKind.wrap_i64];omega
  have hj0:¬(j:Int)<0:=by omega
  have i2:(j:Int)<=(s.size:Int):=by omega
  have i3:(J1:Int)<=(s.size:Int):=by omega
  have hsl:=fun W'=>run_slice_string_h (P:=Tryz.prog) W' 9 s Tryz.underlying9 .i64 (j:Int) (by omega) i2;have hsl2:=fun W'=>run_slice_string_l (P:=Tryz.prog) W' 9 s Tryz.underlying9 .i64 (J1:Int) (by omega) i3;simp only[Int.toNat_natCast] at hsl hsl2;clear h hj hln hJ1;go_enter Tryz.func130,Tryz.ntmps130;go_wp2_with fail;refine HI.out.mono ?_;rintro e w1 ⟨rfl,hw1⟩;rw[hw1];clear hw1 HI;go_wp2_with fail;go_big_region;have HB:Hid (zB w w.drew):=zF.drew;go_wp2;refine bodyPost_ret (v:=.tuple #[.string (s.extract 0 j),.string (s.extract J1 s.size)]) (by simp[results,Tryz.results130,go_sem]) rfl ?_;exact⟨rfl,HB.out⟩
end
end Go.Proofs.YtiihalknffbjpaaGreatDoor
