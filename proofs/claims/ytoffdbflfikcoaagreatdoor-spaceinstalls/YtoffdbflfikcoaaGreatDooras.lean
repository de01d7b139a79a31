import Derived.Test.YtoffdbflfikcoaaGreatDoorar
import Derived.Shelf.Strings.OnBuilder
import Derived.Shelf.Strings.Replace
import Derived.Shelf.Strings.BuilderK
open Go.Proofs.Tryz Go.RowKit
open Go.Proofs.YtoffdbflfikcoaaGreatDoor
set_option maxHeartbeats 4000000
set_option maxRecDepth 100000
namespace Go.Proofs.YtoffdbflfikcoaaGreatDoor.Bd
section
open Num Go.Sort
theorem qg.small{w:World}{v:Value}{m:Nat}(h:qg w v m)(hm:m<=100000000) :
  (m=0/\∃a c,v=.agg #[.slice a 0 c])\/(m≠0/\∃b o c,v=.agg #[.slice (some ⟨b,o,none⟩) 1 c]/\b<w.heap.size/\w.cell? ⟨b,o,none⟩=some (.int .u64 m)):=by
 obtain⟨s,ds,rfl,⟨a,q,rfl,hc,hi⟩,hN,hv,hl⟩:=h.open hm
 match ds,hl with
 |[],_=>exact .inl ⟨by rw[<-hv,zgU],a,q,rfl⟩
 |[d],_ =>
  obtain⟨b,o,rfl,hb,j⟩:=hi 0 (by simp);have hd:val 1000000000 [d]=d:=by unfold val;simp[S,dig]
  have h0:=hN.last (by simp);have e:d=m:=by rw[<-hd];exact hv
  subst e;exact .inr ⟨h0,b,o,q,rfl,hb,j⟩
theorem zfl{w:World}{v:Value}{m:Nat}(h:qg w v m)(hm:m<=100000000):zR 25 #[v] w (.bool (decide (m=0))):=by
 rcases h.small hm with ⟨h0,a,c,rfl⟩|⟨h0,b,j,c,rfl,-,-⟩
 ·rw[zq9 h0];clear h hm h0;have HB:Hid (zB w (w.alloc (.cells #[.slice a 0 c] 42))):=below_new w _;go_enter func25,ntmps25;go_wp2;go_ret;exact⟨by first|rfl|simp,HB.out⟩
 ·rw[zf5 h0];clear h hm h0;have HB:Hid (zB w (w.alloc (.cells #[.slice (some ⟨b,j,none⟩) 1 c] 42))):=below_new w _;go_enter func25,ntmps25;go_wp2;go_ret;exact⟨by first|rfl|simp,HB.out⟩
theorem zjI(B u:Nat)(hu64:u<18446744073709551616)(w:World)(hBw:B<=w.heap.size)(htab:Lib.TabIs prog w "internal/strconv.uint64pow10" .u64 Lib.pow10Tab) :
  zC 26 #[.slice none 0 0,.int .u64 u,(10:Int)] w fun e w'=>∃v',e=.returned v'/\w'.ownsRow B 5 1 v' (Lib.decDigits u).length (Lib.byteCells (Lib.decDigits u))/\Below B w w':=by
 have H0:=Tryz.internal_strconv_AppendUint_10 B 0 u hu64 (.slice none 0 0) [] w (zrp _ _ _ _) hBw (by omega) htab;have H:=zH H0;clear H0 htab;go_enter func26,ntmps26;go_wp2_with fail;refine H.out.mono ?_;rintro e w1 ⟨v',rfl,h1,h2,-⟩;have HF:Hid (w1.ownsRow B 5 1 v' (Lib.decDigits u).length (Lib.byteCells (Lib.decDigits u))/\Below B w w1):=by
  have:w1.ownsRow B 5 1 v' (Lib.decDigits u).length (Lib.byteCells (Lib.decDigits u)):=by simpa using h1
  exact⟨this,h2⟩
 clear h1 h2;go_wp2;go_ret;exact⟨v',rfl,HF.out⟩
theorem zo1{w:World}{base:Nat}{v:Value}{l:List UInt8}(h:w.ownsRow base 5 1 v l.length (Lib.byteCells l))(hl:l≠[]) :
  (convert 80 9 v).run prog w=.ok (.string ⟨l.toArray⟩) w:=by
 rcases id h.2 with ⟨h1,h2⟩|⟨g,o,q,h1,hb,hg,h2,_⟩
 ·exact absurd (zsT.1 h2) hl
 ·subst h1;refine run_convert_bytes_back (P:=prog) w 80 9 5 g o l ztE zso zrf (fun j hj=>?_);rw[Lib.add_plain,zrI,h.cellAt j (by omega)];simp[Lib.byteCells,hj]
theorem zme:Lib.decDigits 0=[48]:=by kernel_rfl
theorem zoB{w:World}{v:Value}{m:Nat}(h:qg w v m)(hm:m<=100000000)(htab:Lib.TabIs prog w "internal/strconv.uint64pow10" .u64 Lib.pow10Tab) :
  zR 10 #[v] w (.string ⟨(Lib.decDigits m).toArray⟩):=by
 rcases h.small hm with ⟨h0,a,c,rfl⟩|⟨h0,b,j,c,rfl,hb,u⟩
 ·have q:=below_new w (.cells #[.slice a 0 c] 42);have hz:=zfl (h.new q) hm;rw[zq9 h0] at hz;have HZ:=zH hz;have HB:=zH q;subst h0;rw[zme];clear h hm hz q htab;go_enter func10,ntmps10;go_wp2_with fail;refine HZ.out.mono ?_;rintro e w1 ⟨rfl,y⟩;have J:Hid (zB w w1):=zT HB.out y;clear y HZ HB;go_wp2;go_ret;exact⟨rfl,J.out⟩
 ·have q:=below_new w (.cells #[.slice (some ⟨b,j,none⟩) 1 c] 42);have hz:=zfl (h.new q) hm;rw[zf5 h0] at hz;have HZ:=zH hz;have HB:=zH q;have c0:(w.alloc (.cells #[.slice (some ⟨b,j,none⟩) 1 c] 42)).cell? w.heap.size=some (.slice (some ⟨b,j,none⟩) 1 c):=by simp
  have c1:=(q.cell (p:=⟨b,j,none⟩) hb).trans u;have a1:(w.alloc (.cells #[.slice (some ⟨b,j,none⟩) 1 c] 42)).heap.size=w.heap.size+1:=zc1 _ _;have Z:b<(w.alloc (.cells #[.slice (some ⟨b,j,none⟩) 1 c] 42)).heap.size:=by omega
  have HT:Hid (∀W,zB w W->Lib.TabIs prog W "internal/strconv.uint64pow10" .u64 Lib.pow10Tab):=fun W hW=>Lib.tabBelow_of_tabIs htab W hW;have X:Lib.decDigits m≠[]:=fun h=>by
   have h1:=Lib.decDigits_length m;have h2:=Lib.nDigits_pos m;rw[h,zrY] at h1;omega
  have U:=zH X;clear h hz q htab u X;go_enter func10,ntmps10;go_upto_region 1 with fail;generalize w.alloc (.cells #[.slice (some ⟨b,j,none⟩) 1 c] 42)=W0 at *;go_wp2_with fail;refine HZ.out.mono ?_;rintro e w1 ⟨rfl,y⟩;have d0:w1.cell? w.heap.size=some (.slice (some ⟨b,j,none⟩) 1 c):=(y.cell (p:=w) (by show w.heap.size<_;omega)).trans c0;have d1:w1.cell? ⟨b,j,none⟩=some (.int .u64 m):=(y.cell (p:=⟨b,j,none⟩) Z).trans c1;have M:zB w w1:=zT HB.out y;have R:=zH (zjI w1.heap.size m (by omega) w1 zN (HT.out w1 M));have J:=zH M;clear y HZ HB c0 c1 HT M;go_wp2_with fail;refine R.out.mono ?_;rintro e w2 ⟨v2,rfl,C,V⟩;have a0:=zo1 C U.out;have Y:Hid (zB w w2):=zT J.out V;clear V R J d0 d1 C U;go_wp2_with fail;go_loopw [4,20] (fun o i wr=>o=v2/\i=.int .i64 0/\wr=w2) (fun _ _ _=>0)
  case atStart=>exact⟨rfl,rfl,rfl⟩
  case round =>obtain⟨rfl,rfl,rfl⟩:=hrel;go_wp2;go_ret;exact⟨rfl,Y.out⟩
end
section
open Go.Deep Sv
section
variable {B p s b vars:Nat} {O:Nat->Prop} {room:Int} {K:List (List Int)} {w:World}
theorem JU(h12:vars<=12)(hl:xq vars K):ClR vars K (clF K):=by
 have:=zbL h12 K hl K.length zN
 rwa [zrC] at this
theorem zfC(h12:vars<=12)(hl:xq vars K):(clF K).1.length<=90000:=by
 have:=(JU h12 hl).len;have:=Jm h12;omega
def QT(vars:Nat)(K:List (List Int)):Nat:=qE vars 0 (fun f=>K.all (clS f)) (fun _=>false)
theorem zkp(h12:vars<=12)(K:List (List Int)):QT vars K<=100000000:=by
 have h1:=zfr (fun f=>K.all (clS f)) vars 0 (fun _=>false);have h2:=Jm h12;unfold QT;omega
theorem zi6(hS:zt B w s b O vars room (clF K).1)(h12:vars<=12)(hl:xq vars K) :
  zC 9 #[.pointer (some s),.int .i64 (clF K).2] w fun e w'=>∃a n c,e=.returned (.tuple #[.agg #[.slice a n c],.nilIface])/\qg w' (.agg #[.slice a n c]) (QT vars K)/\zB w w':=by
 have hc:=JU h12 hl;refine(zqc w hS hc.good (zfC h12 hl) (by omega) (clF K).2 hc.has).mono ?_;rintro e w' ⟨v,rfl,hn,hb⟩;rw[zpj hc.sem] at hn;have j:=hn;obtain⟨x,rfl,-⟩:=j;exact⟨x.a,x.n,x.c,rfl,hn,hb⟩
end
end
section
theorem zdp{vars:Nat}{c:List Int}(hl:qk vars c){f g:Nat->Bool}(h:∀i,i<vars->f i=g i):clS f c=clS g c:=by
 unfold clS;rw[zrB,zrM,zrM];have j:∀x∈c,xN f x=xN g x:=fun x hx=>by unfold xN;rw[h _ (YY (hl x hx))]
 exact⟨fun⟨x,h1,h2⟩=>⟨x,h1,by rw[<-j x h1];exact h2⟩,fun⟨x,h1,h2⟩=>⟨x,h1,by rw[j x h1];exact h2⟩⟩
theorem zaf{vars:Nat}{K:List (List Int)}(hl:xq vars K){f g:Nat->Bool}(h:∀i,i<vars->f i=g i):K.all (clS f)=K.all (clS g):=by
 rw[zrB,ztS,ztS];exact⟨fun a c hc=>by rw[<-zdp (hl c hc) h];exact a c hc,fun a c hc=>by rw[zdp (hl c hc) h];exact a c hc⟩
theorem zco{vars:Nat}(h24:vars<=24){K:List (List Int)}(hl:xq vars K)(vals:Nat):K.all (clS (Qa vals))=xG vals K:=by
 unfold xG;rw[zrB,ztS,ztS];have h24:∀c∈K,qk 24 c:=fun c hc x hx=>Yd (by omega) (hl c hc x hx);exact⟨fun h c hc=>by rw[<-zea (h24 c hc)];exact h c hc,fun h c hc=>by rw[zea (h24 c hc)];exact h c hc⟩
end
section
section
variable {vars:Nat} {K:List (List Int)}
theorem zjd(h12:vars<=12)(hl:xq vars K){v:Nat}(hv:v<vars)(is:Bool):ZT vars (clF K).1 (clF K).2 is v=true↔∀f:Nat->Bool,(∀j,vars<=j->f j=false)->K.all (clS f)=true->f v=is:=by
 rw[ziD hv];have hs:=(JU h12 hl).sem;exact⟨fun h f a b=>h f a ((hs f).trans b),fun h f a b=>h f a ((hs f).symm.trans b)⟩
end
end
section
def xr(k vars:Nat):Nat->Nat
 |0=>0
 |m+1=>if k.testBit (vars-1-m) then xr k vars m|||2^m else xr k vars m
theorem K3{i m:Nat}(e:¬m=i):decide (i<m+1)=decide (i<m):=by
 by_cases q:i<m
 ·rw[zq9 q,zq9 (by omega)]
 ·rw[zf5 q,zf5 (by omega)]
theorem zaO(k vars:Nat):∀m i,(xr k vars m).testBit i=(decide (i<m)&&k.testBit (vars-1-i))
 |0,i=>by simp[xr]
 |m+1,i=>by
  have ih:=zaO k vars m i;unfold xr;split
  ·rename_i h;rw[zvp,ztU,ih]
   by_cases e:m=i
   ·subst e;simp[h]
   ·rw[K3 e];simp[e]
  ·rename_i h;rw[ih]
   by_cases e:m=i
   ·subst e;simp at h;simp[h]
   ·rw[K3 e]
theorem zdY(k vars m:Nat):xr k vars m<2^m:=ztO _ (fun i hi=>by rw[zaO,zf5 (by omega)];rfl)
def xD(vars k:Nat):Nat:=xr k vars vars
theorem zcp(vars k:Nat):xD vars k<2^vars:=zdY k vars vars
theorem za7{vars i:Nat}(k:Nat)(hi:i<vars):(xD vars k).testBit i=k.testBit (vars-1-i):=by
 unfold xD;rw[zaO,zq9 hi,zuZ]
theorem zcQ{vars i x:Nat}(hx:x<2^vars)(hi:vars<=i):x.testBit i=false:=zug (zc6 hx (zrt (by omega) hi))
theorem znv{vars k:Nat}(hk:k<2^vars):xD vars (xD vars k)=k:=by
 apply Nat.eq_of_testBit_eq;intro i
 by_cases hi:i<vars
 ·rw[za7 _ hi,za7 _ (by omega)];congr 1;omega
 ·rw[zcQ (zcp _ _) (by omega),zcQ hk (by omega)]
def fnN(f:Nat->Bool):Nat->Nat
 |0=>0
 |m+1=>if f m then fnN f m|||2^m else fnN f m
theorem zaV(f:Nat->Bool):∀m i,(fnN f m).testBit i=(decide (i<m)&&f i)
 |0,i=>by simp[fnN]
 |m+1,i=>by
  have ih:=zaV f m i;unfold fnN;split
  ·rename_i h;rw[zvp,ztU,ih]
   by_cases e:m=i
   ·subst e;simp[h]
   ·rw[K3 e];simp[e]
  ·rename_i h;rw[ih]
   by_cases e:m=i
   ·subst e;simp at h;simp[h]
   ·rw[K3 e]
theorem zqH(f:Nat->Bool)(m:Nat):fnN f m<2^m:=ztO _ (fun i hi=>by rw[zaV,zf5 (by omega)];rfl)
section
variable {vars:Nat} {K:List (List Int)}
def qM(vars:Nat)(K:List (List Int))(j:Nat):List Nat:=((List.range j).map fun i=>xD vars (2^vars-1-i)).filter fun x=>xG x K
theorem zib(j:Nat):qM vars K (j+1)=if xG (xD vars (2^vars-1-j)) K=true then qM vars K j++[xD vars (2^vars-1-j)] else qM vars K j:=by
 unfold qM;rw[zta,zrv,zsg];split
 ·rename_i h;simp[h]
 ·rename_i h;simp[h]
theorem zld{j y:Nat}:y∈qM vars K j↔(∃i,i<j/\xD vars (2^vars-1-i)=y)/\xG y K=true:=by
 unfold qM;rw[zr8,zrA];constructor
 ·rintro⟨⟨i,hi,e⟩,h⟩;exact⟨⟨i,zsa.1 hi,e⟩,h⟩
 ·rintro⟨⟨i,hi,e⟩,h⟩;exact⟨⟨i,zsa.2 hi,e⟩,h⟩
theorem zaS{y:Nat}:y∈qM vars K (2^vars)↔y<2^vars/\xG y K=true:=by
 rw[zld];constructor
 ·rintro⟨⟨i,-,rfl⟩,h⟩;exact⟨zcp _ _,h⟩
 ·rintro⟨h1,h2⟩;have:=zcp vars y;refine⟨⟨2^vars-1-xD vars y,by omega,?_⟩,h2⟩;rw[show 2^vars-1-(2^vars-1-xD vars y)=xD vars y by omega,znv h1]
theorem zlh(j:Nat):(qM vars K j).length<=j:=by
 unfold qM;have:=zsi (fun x=>xG x K) ((List.range j).map fun i=>xD vars (2^vars-1-i));simpa using this
theorem znh(h12:vars<=12)(hl:xq vars K){v:Nat}(hv:v<vars)(is:Bool):((qM vars K (2^vars)).all fun x=>x.testBit v==is)=ZT vars (clF K).1 (clF K).2 is v:=by
 rw[zrB,zjd h12 hl hv is,ztS];constructor
 ·intro h f hf hK;obtain⟨x,q,o⟩:∃x,x<2^vars/\∀i,i<vars->Qa x i=f i:=by
   exact⟨fnN f vars,zqH f vars,fun i hi=>by show (fnN f vars).testBit i=_;rw[zaV,zq9 hi,zuZ]⟩
  have ha:xG x K=true:=by rw[<-zco (show vars<=24 by omega) hl,zaf hl o];exact hK
  have:=h x (zaS.2 ⟨q,ha⟩);rw[<-o v hv];exact eq_of_beq this
 ·intro h x hx;obtain⟨h1,h2⟩:=zaS.1 hx;have:=h (fun j=>if j<vars then Qa x j else false) (fun j hj=>zc2 (by omega)) (by
   rw [zaf hl (g:=Qa x) (fun i hi=>zc3 hi),zco (by omega) hl];exact h2)
  rw[zc3 hv] at this;exact ztW.2 this
end
end
end Go.Proofs.YtoffdbflfikcoaaGreatDoor.Bd
namespace Go.Proofs.YtoffdbflfikcoaaGreatDoor
section
theorem zX(n lo hi:Int)(w:World):zC 125 #[n,lo,hi] w fun e w'=>e=.returned (decide (lo<=n/\n<=hi))/\w=w':=by
 by_cases h1:lo<=n
 ·by_cases h2:n<=hi
  ·rw[show decide (lo<=n/\n<=hi)=true by simp[h1,h2]];go_enter func125,ntmps125;go_wp2;go_ret;exact⟨rfl,rfl⟩
  ·rw[show decide (lo<=n/\n<=hi)=false by simp[h2]];go_enter func125,ntmps125;go_wp2;go_ret;exact⟨rfl,rfl⟩
 ·rw[show decide (lo<=n/\n<=hi)=false by simp[h1]];go_enter func125,ntmps125;go_wp2;go_ret;exact⟨rfl,rfl⟩
theorem zgo(vals t:Nat):yG vals ((t:Int)+1)=vals.testBit t:=by
 unfold yG;rw[zc3 (by omega)];congr 1
theorem zen(vals t:Nat):yG vals (-((t:Int)+1))=!vals.testBit t:=by
 unfold yG;rw[zc2 (by omega),show (- -((t:Int)+1)).toNat-1=t by omega]
theorem zca{α:Type}{p:α->Bool}{xs:List α}{k:Nat}{d:α}(hk:k<xs.length)(h1:p (xs.getD k d)=true):xs.any p=true:=zrM.2 ⟨_,Zk hk,h1⟩
theorem zgk{α:Type}{p:α->Bool}{xs:List α}{d:α}(h0:∀j,j<xs.length->p (xs.getD j d)=false):xs.any p=false:=by
 rw[List.any_eq_false];intro x hx;obtain⟨j,hj,rfl⟩:=zrQ hx;have:=h0 j hj;rw[zc0,zc5 hj] at this;simpa using this
theorem zlr(c:List Int)(a:Option Addr)(cap:Nat)(vals:Nat)(hv:vals<18446744073709551616)(w:World)(hI:qO w a c)(hm:c.length<=9223372036854775807)(hr:∀x∈c,yt 24 x=true) :
  zC 58 #[.slice a c.length cap,.int .u64 vals] w fun e w'=>e=.returned (.bool (c.any (yG vals)))/\w=w':=by
 have HI:=zH hI;have HR:=zH hr;clear hI hr;go_enter func58,ntmps58;go_wp2_with fail;go_loop [9] (fun kV=>∃k:Nat,k<=c.length/\kV=.int .i64 k/\(∀j,j<k->yG vals (c.getD j 0)=false)) (fun kV=>c.length-(intOf kV).toNat)
 case atStart=>exact⟨0,zf6 _,rfl,fun j h=>by omega⟩
 case round =>
  obtain⟨k,hk,rfl,h1⟩:=hrel;have H1:=zH h1;clear h1
  by_cases hlt:k<c.length
  ·obtain⟨ad,rfl,hl,hc⟩:=HI.out k hlt;have u:=HR.out _ (Zk (d:=0) hlt);generalize hx:c.getD k 0=x at *;have q:x≠0/\-24<=x/\x<=24:=by simpa[yt] using u
   have HX:=zH hx;clear hx u
   by_cases hp:0<x
   ·obtain⟨t,rfl⟩:∃t:Nat,x=(t:Int)+1:=⟨x.toNat-1,by omega⟩;have ht:t<24:=by omega
    have hs:=zaU vals t hv;cases hb:vals.testBit t with
    |true =>rw[hb] at hs;have o:Hid (c.any (yG vals)=true):=zca (d:=0) hlt (by rw[HX.out,zgo];exact hb);clear hb q;go_wp2;go_ret;exact⟨by rw[o.out];rfl,rfl⟩
    |false =>
     rw[hb] at hs;have o:Hid (yG vals ((t:Int)+1)=false):=by show _=false;rw[zgo];exact hb
     clear hb q;go_wp2;go_round
     case rel=>exact ⟨k + 1,hlt,by go_num,fun j hj=>(by
      rcases zse.1 hj with e|e
      ·exact H1.out j e
      ·rw [e,HX.out];exact o.out)⟩
     case measure=>simp[intOf];omega
   ·obtain⟨t,rfl⟩:∃t:Nat,x=-((t:Int)+1):=⟨(-x).toNat-1,by omega⟩;have ht:t<24:=by omega
    have hs:=zgv vals t hv;cases hb:vals.testBit t with
    |false =>rw[hb] at hs;have o:Hid (c.any (yG vals)=true):=zca (d:=0) hlt (by rw[HX.out,zen,hb];rfl);clear hb q;go_wp2;go_ret;exact⟨by rw[o.out];rfl,rfl⟩
    |true =>
     rw[hb] at hs;have o:Hid (yG vals (-((t:Int)+1))=false):=by show _=false;rw[zen,hb];rfl
     clear hb q;go_wp2;go_round
     case rel=>exact ⟨k + 1,hlt,by go_num,fun j hj=>(by
      rcases zse.1 hj with e|e
      ·exact H1.out j e
      ·rw [e,HX.out];exact o.out)⟩
     case measure=>simp[intOf];omega
  ·obtain rfl:k=c.length:=by omega
   have o:Hid (c.any (yG vals)=false):=zgk H1.out;go_wp2;go_ret;exact⟨by rw[o.out];rfl,rfl⟩
theorem zmk{vals:Nat}{c:List Int}(hr:∀x∈c,yt 24 x=true):Qb vals c=c.any (yG vals):=by
 unfold Qb;rw[zrB,zrM,zrM];constructor
 ·rintro⟨x,hx,h⟩;exact⟨x,hx,by unfold Ka at h;rw[hr x hx] at h;simpa using h⟩
 ·rintro⟨x,hx,h⟩;exact⟨x,hx,by unfold Ka;rw[hr x hx,h];rfl⟩
theorem zjF(l:List (List Int))(a:Option Addr)(cap:Nat)(vals:Nat)(hv:vals<18446744073709551616)(w:World)(hI:xX w a l)(hm:l.length<=9223372036854775807)(hr:∀c∈l,∀x∈c,yt 24 x=true) :
  zC 22 #[.slice a l.length cap,.int .u64 vals] w fun e w'=>e=.returned (xG vals l)/\w=w':=by
 have HI:=zH hI;have HR:=zH hr;clear hI hr;rw[zoT];go_enter func22,ntmps22;go_wp2_with fail;go_loop [9] (fun kV=>∃k:Nat,k<=l.length/\kV=.int .i64 k/\(∀j,j<k->(!Qb vals (l.getD j []))=false)) (fun kV=>l.length-(intOf kV).toNat)
 case atStart=>exact⟨0,zf6 _,rfl,fun j h=>by omega⟩
 case round =>
  obtain⟨k,hk,rfl,h1⟩:=hrel;have H1:=zH h1;clear h1
  by_cases hlt:k<l.length
  ·obtain⟨ad,a',q,rfl,hl,hc,g1,g2,g3⟩:=HI.out k hlt;have u:=HR.out _ (Zk (d:=[]) hlt);have HC:=zH (zlr (l.getD k []) a' q vals hv w g3 (by omega) u);rw[<-zmk u] at HC;generalize hx:l.getD k []=c at *;have HX:=zH hx;clear hx u g3;cases hb:Qb vals c with
   |true =>
    rw[hb] at HC;have HB:=zH hb;clear hb;go_wp2_with fail;refine HC.out.mono ?_;rintro e w1 ⟨rfl,rfl⟩;clear HC;go_wp2;go_round
    case rel=>exact ⟨k + 1,hlt,by go_num,fun j hj=>(by
     rcases zse.1 hj with e|e
     ·exact H1.out j e
     ·rw [e,HX.out,HB.out];rfl)⟩
    case measure=>simp[intOf];omega
   |false =>rw[hb] at HC;have o:Hid (l.any (fun c=>!Qb vals c)=true):=zca (d:=[]) hlt (by rw[HX.out,hb];rfl);clear hb;go_wp2_with fail;refine HC.out.mono ?_;rintro e w1 ⟨rfl,rfl⟩;clear HC;go_wp2;go_ret;exact⟨by rw[o.out];rfl,rfl⟩
  ·obtain rfl:k=l.length:=by omega
   have o:Hid (l.any (fun c=>!Qb vals c)=false):=zgk H1.out;go_wp2;go_ret;exact⟨by rw[o.out];rfl,rfl⟩
end
end Go.Proofs.YtoffdbflfikcoaaGreatDoor
namespace Go.Proofs.YtoffdbflfikcoaaGreatDoor.Bd
open Go.Deep
def Z7(l:List Nat):List Value:=l.map fun n:Nat=>Value.int .u64 n
theorem znp(l:List Nat)(x:Nat):Z7 (l++[x])=Z7 l++[.int .u64 x]:=by simp[Z7]
theorem zqR(l:List Nat)(i:Nat)(h:i<l.length):(Z7 l)[i]?=some (.int .u64 (l.getD i 0:Nat)):=by simp[Z7,List.getD_eq_getElem?_getD,h]
theorem zoS:(prog.info? 48).map (fun i=>(i.zero,i.size,i.bytes))=some (some (.int .u64 0),1,8):=by kernel_rfl
theorem ziI(w:World)(x:Int)(t:TypeId):∀(j:Nat) (u:Value),[Value.int .u64 x][j]?=some u->(w.alloc (.cells #[.int .u64 x] t)).cell? ((w.heap.size:Addr).add j)=some u:=by
 intro j u hj;have:j=0:=by have:=(zrJ.1 hj).1;simp at this;omega
 subst this;rw[add_plain,(Blk.new w t #[.int .u64 x]).cell];exact hj
theorem zk4(x:Int):∀u∈[Value.int .u64 x],u.oneCell'=true:=fun u hu=>by
 rw[zra] at hu;subst hu;rfl
theorem zmW:∀m:Fin 256,bits BinOp.and IntKind.i64 ((m.val:Nat):Int) 1=((m.val%2:Nat):Int):=by decide +kernel
theorem zia(k t:Nat)(hk:k<256):(bits BinOp.and IntKind.i64 ((k:Int)/2^t) 1==1)=k.testBit t:=by
 have e:(k:Int)/2^t=((k/2^t:Nat):Int):=by simp
 have hd:k/2^t<=k:=zu3 _ _;rw[e,zmW ⟨k/2^t,by omega⟩,zsW,zrB];simp;omega
def UIn(w:World)(a:Option Addr)(l:List Nat):Prop:=∀i,i<l.length->∃ad:Addr,a=some ad/\ad.block<w.heap.size/\w.cell? (ad.add i)=some (.int .u64 (l.getD i 0:Nat))
theorem UIn.below{w w':World}{a:Option Addr}{l:List Nat}(h:UIn w a l)(hb:zB w w'):UIn w' a l:=fun i hi=>by
 obtain⟨ad,h1,h2,h3⟩:=h i hi;exact⟨ad,h1,zc6 h2 hb.size,(hb.cell (p:=ad.add i) (by rw[Z0];exact h2)).trans h3⟩
theorem zof{B:Nat}{w:World}{a:Option Addr}{c:Nat}{l:List Nat}(h:w.ownsRow B 48 1 (.slice a l.length c) l.length (Z7 l)):UIn w a l:=by
 intro i hi;rcases h.2 with ⟨e,e0⟩|⟨g,j,o,e,-,hg,-⟩
 ·omega
 ·injection e with e1 e2 e3;subst e1;have:=h.cellAt i (by omega);refine⟨_,rfl,(zrg.1 hg).1,?_⟩;rw[add_plain,zrI,<-zqR l i hi];subst e3;exact this
theorem ziv(vars:Nat)(hv:vars<=8)(K:List (List Int))(a:Option Addr)(cap:Nat)(w:World)(hI:xX w a K)(hm:K.length<=10000)(hl:xq vars K) :
  zC 8 #[vars,.slice a K.length cap] w fun e w'=>∃v,e=.returned v/\w'.ownsRow w 48 1 v (qM vars K (2^vars)).length (Z7 (qM vars K (2^vars)))/\zB w w':=by
 obtain⟨i0,a2,a8,a9,aa⟩:=info_parts zoS;have Z:(2:Nat)^vars<=256:=zrt (n:=2) (by omega) hv;have a5:0<(2:Nat)^vars:=Nat.two_pow_pos vars;have U:Hid (∀x:Nat,x<18446744073709551616->∀W,zB w W->zC 22 #[.slice a K.length cap,.int .u64 x] W fun e w'=>e=.returned (xG x K)/\W=w'):=fun x hx W hW=>zjF K a cap x hx W (hI.below hW) (by omega) (fun c hc y hy=>Yd (by omega) (hl c hc y hy));obtain⟨N,hN⟩:∃N,N=2^vars:=⟨_,rfl⟩;have a7:IntKind.i64.wrap (IntKind.i64.wrap (2^vars)-1)=(N:Int)-1:=by
  have e:((2:Int)^vars)=(N:Int):=by rw[hN];simp
  rw[e,zrl,zrl];omega
 have a0:wrap64 (wrap64 (2^vars)-1)=(N:Int)-1:=by
  have e:((2:Int)^vars)=(N:Int):=by rw[hN];simp
  have hN':N<=256:=by rw[hN];exact Z
  rw[e];unfold wrap64;omega
 rw[<-hN] at Z a5 ⊢;clear hI hl;have HN:=zH hN;clear hN;go_enter func8,ntmps8;go_wp2_with fail;go_loopw [5,6] (fun oV kV wr=>∃(j:Nat),j<=N/\kV=.int .i64 ((N:Int)-1-(j:Int))/\wr.ownsRow w 48 1 oV (qM vars K j).length (Z7 (qM vars K j))/\zB w wr) (fun _ kV _=>(intOf kV+1).toNat)
 case atStart=>exact⟨0,zf6 _,by rw[a0];simp,zrp _ _ _ _,zf0 _ _⟩
 case round =>
  obtain⟨j,hj,rfl,M,Y⟩:=hrel;clear a7 a0;have o:=zH M;have R:=zH Y;have a6:=Y.size;clear M Y
  by_cases hlt:j<N
  ·obtain⟨k,hk⟩:∃k:Nat,(N:Int)-1-(j:Int)=(k:Int):=⟨N-1-j,by omega⟩;have V:Hid (k=N-1-j):=(show k=N-1-j by omega);have a3:k<256:=by omega
   have af:IntKind.i64.wrap ((k:Int)-1)=(k:Int)-1:=by rw[zrl];omega
   have ae:(0:Int)<=(k:Int):=by omega
   rw[hk];go_wp2_with fail;go_loop [7,17] (fun xV iV=>∃(i:Nat),i<=vars/\iV=.int .i64 i/\xV=.int .u64 (xr k vars i:Nat)) (fun _ iV=>vars-(intOf iV).toNat)
   case atStart=>exact⟨0,zf6 _,rfl,rfl⟩
   case round =>
    obtain⟨i,hi,rfl,rfl⟩:=hrel;have hG:=zdY k vars i;have ab:(2:Nat)^i<=256:=zrt (n:=2) (by omega) (show i<=8 by omega)
    by_cases hlt2:i<vars
    ·have ac:(i:Int)<(vars:Int):=by omega
     have t1:IntKind.i64.wrap ((vars:Int)-1)=(vars:Int)-1:=by rw[zrl];omega
     obtain⟨t,ht⟩:∃t:Nat,(vars:Int)-1-(i:Int)=(t:Int):=⟨vars-1-i,by omega⟩;have t2:IntKind.i64.wrap ((vars:Int)-1-(i:Int))=(t:Int):=by rw[ht,zrl];omega
     have ah:(0:Int)<=(t:Int):=by omega
     have hs:=zia k t a3;have ag:=zgw (xr k vars i) i (by omega) (by omega);have HG:Hid (xr k vars (i+1)=if k.testBit t then xr k vars i|||2^i else xr k vars i):=by
      show _=_;rw[xr,show vars-1-i=t by omega]
     generalize xr k vars i=g at *;cases hb:k.testBit t with
     |true =>
      rw[hb] at hs HG;rw[zc3 rfl] at HG;clear hb;go_wp2;go_round
      case rel=>exact⟨i+1,hlt2,by go_num,by rw[HG.out]⟩
      case measure=>simp[intOf];omega
     |false =>
      rw[hb] at hs HG;rw[zc2 (by simp)] at HG;clear hb;go_wp2;go_round
      case rel=>exact⟨i+1,hlt2,by go_num,by rw[HG.out]⟩
      case measure=>simp[intOf];omega
    ·obtain rfl:i=vars:=by omega
     have C:Hid (qM i K (j+1)=if xG (xr k i i) K=true then qM i K j++[xr k i i] else qM i K j):=by
      have h:=zib (vars:=i) (K:=K) j;rw[<-HN.out,<-V.out] at h;exact h
     have HA:=zH (U.out (xr k i i) (by omega) wr R.out);have ad:=zlh (vars:=i) (K:=K) j;generalize xr k i i=g at *;go_wp2_with fail;refine HA.out.mono ?_;rintro e wy ⟨rfl,rfl⟩;obtain⟨oa,oc,rfl,-⟩:=row_form o.out;generalize hL:(qM i K j).length=n at *;have HL:=zH hL;clear hL HA U;cases hq:xG g K with
     |true =>
      rw[hq,zc3 rfl] at C;clear hq;go_wp2_with (at_builtin;refine wpList_append_own_at _ rfl _ _ 38 rfl w.heap.size 48 i0 (.int .u64 0) 1 8 underlying38 a2 a8 a9 aa rfl (by decide) _ _ _ rfl (o.out.alloc _) wr.heap.size 1 1 [.int .u64 g] rfl rfl ?e1 ?e2 ?e3 ?e4 ?e5 ?_)
      case e1=>exact ziI _ _ _
      case e2=>exact zk4 _
      case e3=>unfold maxLen;omega
      case e4=>omega
      case e5=>simp;omega
      intro v8 w8 u q _ J;have X:Hid (w8.ownsRow w 48 1 v8 (qM i K (j+1)).length (Z7 (qM i K (j+1)))):=by
       show World.ownsRow _ _ _ _ _ _ _;rw[C.out,znp,zf4,HL.out];exact u
      have a1:Hid (zB w w8):=(R.out.alloc a6 _).grown q (by simp;omega) (fun k hk=>(o.out.lt k hk).1);obtain⟨ai,aj,rfl,-⟩:=row_form u;clear u q J o C;go_wp2;go_roundw
      case rel=>exact⟨j+1,hlt,by have:=V.out;first|(simp;done)|(simp;omega),X.out,a1.out⟩
      case measure=>first|(simp[intOf];done)|(simp[intOf];omega)
     |false =>
      rw[hq,zc2 (by simp)] at C;clear hq;have X:Hid (wr.ownsRow w 48 1 (.slice oa n oc) (qM i K (j+1)).length (Z7 (qM i K (j+1)))):=by
       show World.ownsRow _ _ _ _ _ _ _;rw[C.out,HL.out];exact o.out
      clear o C;go_wp2;go_roundw
      case rel=>exact⟨j+1,hlt,by have:=V.out;first|(simp;done)|(simp;omega),X.out,R.out⟩
      case measure=>first|(simp[intOf];done)|(simp[intOf];omega)
  ·obtain rfl:j=N:=by omega
   have a4:¬(0:Int)<=(j:Int)-1-(j:Int):=by omega
   clear U;go_wp2;go_ret;exact⟨_,rfl,o.out,R.out⟩
end Go.Proofs.YtoffdbflfikcoaaGreatDoor.Bd
namespace Go.Proofs
open Go.Shelf
def Tryz.lays137_ren:Go.Shelf.Ren:=⟨fun|137=>119|217=>173|266=>212|n=>n,fun|9=>9|5=>5|3=>3|n=>n,fun|n=>n⟩
theorem Tryz.lays137:Go.Proofs.Lays.n137 prog Tryz.lays137_ren:=by constructor<;>intros<;>kernel_rfl
open Go.RowKit in
theorem Tryz.strings_IndexByte(s:ByteArray)(c:Int)(w:World) :
  zC 119 #[s,.int .u8 c] w fun e w'=>e=.returned (.int .i64 (Lib.indexByte s.data.toList c.toNat.toUInt8))/\w'=w:=Any.strings_IndexByte Tryz.lays137 s c w
def Tryz.laysM171_ren:Go.Shelf.Ren:=⟨fun|171=>28|243=>65|246=>112|283=>108|284=>109|285=>110|286=>111|129=>161|317=>160|318=>162|319=>163|320=>164|337=>206|338=>207|n=>n,fun|3=>3|9=>9|2=>2|4=>4|171=>206|0=>0|53=>82|37=>80|5=>5|173=>209|212=>270|51=>271|20=>20|213=>272|46=>48|232=>342|233=>343|n=>n,fun|17=>4|18=>6|19=>7|n=>n⟩
theorem Tryz.laysM171:Go.Proofs.LaysM.n171 prog Tryz.laysM171_ren:=by constructor;constructor;all_goals(intros;kernel_rfl)
open Go.RowKit Go.Sort Go.Lib in
theorem Tryz.strconv_Itoa(n:Int)(h0:-9223372036854775808<=n)(h1:n<=9223372036854775807)(w:World)(htab:Lib.TabIs prog w "internal/strconv.uint64pow10" .u64 Lib.pow10Tab) :
  zC 28 #[n] w fun e w'=>e=.returned (.string ⟨(Lib.itoa n).toArray⟩)/\∃k os,w'=grow (w.drewN k) os:=Any.strconv_Itoa Tryz.laysM171 n h0 h1 w htab
def Tryz.lays146_ren:Go.Shelf.Ren:=⟨fun|146=>32|221=>73|268=>116|138=>117|143=>118|195=>169|197=>170|218=>171|219=>172|260=>208|217=>173|225=>209|224=>210|267=>211|266=>212|314=>235|n=>n,fun|9=>9|31=>84|3=>3|4=>4|0=>0|105=>278|21=>21|5=>5|46=>48|119=>344|139=>347|138=>346|146=>348|51=>271|n=>n,fun|1=>5|3=>8|4=>9|n=>n⟩
theorem Tryz.lays146:Go.Proofs.Lays.n146 prog Tryz.lays146_ren:=by constructor<;>intros<;>kernel_rfl
open Go.RowKit Go.Lib in
theorem Tryz.strings_Split(s sep:ByteArray)(m:Int)(w:World)(hs:s.size<4294967281)(hm:w.cell? ⟨5,0,none⟩=some (.int .i64 m))(h1:1<=sep.size) :
  zC 32 #[s,sep] w fun e w' =>
   e=.returned (.slice (some w) (Lib.countB s sep+1) (Lib.countB s sep+1))/\w'=w.alloc (.cells ((Lib.splitB sep 0 (Lib.countB s sep) s).map Value.string).toArray 9):=Any.strings_Split Tryz.lays146 (by kernel_rfl) s sep m w hs hm h1
end Go.Proofs
namespace Go.Proofs.YtoffdbflfikcoaaGreatDoor
section
open Go.Shelf Sv
def ptx(n:Nat):List UInt8:=Lib.itoa (n:Int)
structure zfz(n:Nat):Prop where
 tells:yp (ptx n)=.ok n
 digit:∀x∈ptx n,48<=x/\x<=57
 some:ptx n≠[]
 short:(ptx n).length<=3
theorem zfz.not{n:Nat}(h:zfz n){c:UInt8}(hc:c<48\/57<c):c∉ptx n:=fun e=>by
 have:=h.digit c e;rcases hc with hc|hc
 ·exact absurd hc (UInt8.not_lt.2 this.1)
 ·exact absurd hc (UInt8.not_lt.2 this.2)
theorem Y6{s:ByteArray}{l:List UInt8}(h:s.data.toList=l):s=⟨l.toArray⟩:=by
 obtain⟨d⟩:=s;subst h;simp
theorem zlI(l:List UInt8)(i j:Nat):((⟨l.toArray⟩:ByteArray).extract i j).data.toList=(l.take j).drop i:=by
 rw[ByteArray.data_extract];simp[List.take_drop];rcases Nat.le_total i j with h|h
 ·rw[Nat.add_sub_cancel' h]
 ·rw[zty (by simp;omega),zty (by simp;omega)]
theorem XX{s t:ByteArray}(h:s.data.toList=t.data.toList):s=t:=by
 rw[Y6 h,<-Y6 (s:=t) rfl]
theorem Xe(s:ByteArray)(i j:Nat):(s.extract i j).data.toList=(s.data.toList.take j).drop i:=by
 conv=>lhs;rw[Y6 (s:=s) rfl]
 exact zlI _ _ _
theorem zin(s:ByteArray)(k j:Nat)(h:k+j<=s.size):(s.extract k s.size).extract 0 j=s.extract k (k+j):=by
 apply XX;rw[Xe,Xe,Xe,ztn,List.take_drop,List.take_take];congr 2;omega
theorem zpR(s:ByteArray)(k i:Nat):(s.extract k s.size).extract i (s.extract k s.size).size=s.extract (k+i) s.size:=by
 apply XX;rw[Lib.extract_to_end,Lib.extract_to_end,Lib.extract_to_end,List.drop_drop]
theorem zdt(s m:ByteArray)(hm:1<=m.size):∀(f k:Nat),s.size<=k+f->k<=s.size->Lib.splitB m 0 (Lib.countB (s.extract k s.size) m) (s.extract k s.size)=(zq s m f k).map (·.2):=by
 intro f
 induction f with
 |zero =>
  intro k h1 h2;have hz:(s.extract k s.size).size=0:=by simp;omega
  have hx:Lib.indexB (s.extract k s.size) m=-1:=by
   show Lib.index (s.extract k s.size).data.toList m.data.toList=-1;have h0:(s.extract k s.size).data.toList=[]:=by rw[Lib.extract_to_end];exact List.drop_eq_nil_of_le (by simp;omega)
   have q:m.data.toList≠[]:=fun e=>by
    have:m.data.toList.length=m.size:=by simp
    rw[e] at this;simp at this;omega
   rw[h0];cases hm':m.data.toList with
   |nil=>exact absurd hm' q
   |cons a r=>simp[Lib.index]
  rw[Lib.splitB_miss _ _ _ _ hx];rfl
 |succ f ih =>
  intro k h1 h2;have u:=Lib.index_ge (s.extract k s.size).data.toList m.data.toList
  by_cases hneg:Lib.index (s.extract k s.size).data.toList m.data.toList<0
  ·have hx:Lib.indexB (s.extract k s.size) m=-1:=by
    show Lib.index (s.extract k s.size).data.toList m.data.toList=-1;omega
   rw[Lib.splitB_miss _ _ _ _ hx,Kt hneg];rfl
  ·obtain⟨j,hj⟩:=zue (Int.not_lt.1 hneg);have hx:Lib.indexB (s.extract k s.size) m=(j:Int):=hj;have hr:=YX (s.extract k s.size).data.toList m.data.toList (by rw[hj];omega);rw[hj] at hr;have hl:(s.extract k s.size).data.toList.length=s.size-k:=by rw[Lib.extract_to_end];simp
   have o:m.data.toList.length=m.size:=by simp
   rw[hl,o,zrh] at hr;rw[Lib.countB_hit _ _ j hm hx,zve 1,Lib.splitB_hit _ _ _ _ j hx,Je hj,ztf,Nat.add_zero,zpR,<-Nat.add_assoc,zin s k j (by omega),ih _ (by omega) (by omega)]
end
