import Derived.Test.YtoffdbflfikcoaaGreatDoora3
import Derived.RangeFuncOwn
open Go.RowKit
namespace Go.Proofs.YtoffdbflfikcoaaGreatDoor
section
def ZQ(s:Nat × Nat)(x:Int):Nat × Nat :=
 if 0<x/\x<=24 then (s.1|||2^(x.toNat-1),s.2) else if -24<=x/\x<0 then (s.1,s.2|||2^((-x).toNat-1)) else s
def zn(c:List Int):Nat × Nat:=c.foldl ZQ (0,0)
theorem zl2(c:List Int)(x:Int):zn (c++[x])=ZQ (zn c) x:=by unfold zn;rw[ztJ];rfl
theorem zd8(m k i:Nat):(m|||2^k).testBit i=(m.testBit i||decide (k=i)):=by
 rw[zvp,ztU]
theorem zga(c:List Int)(s:Nat × Nat)(i:Nat):((c.foldl ZQ s).1.testBit i=(s.1.testBit i||decide (i<24/\(i:Int)+1∈c)))/\((c.foldl ZQ s).2.testBit i=(s.2.testBit i||decide (i<24/\-((i:Int)+1)∈c))):=by
 induction c generalizing s with
 |nil=>simp
 |cons x c ih =>
  rw[List.foldl_cons,(ih _).1,(ih _).2];unfold ZQ
  by_cases h1:0<x/\x<=24
  ·rw[zc3 h1];have e2:(-((i:Int)+1)∈x :: c)↔-((i:Int)+1)∈c:=by
    rw[zrw];exact⟨fun h=>h.resolve_left (by omega),Or.inr⟩
   have e1:(i<24/\(i:Int)+1∈x :: c)↔(x.toNat-1=i\/(i<24/\(i:Int)+1∈c)):=by
    rw[zrw];constructor
    ·rintro⟨h,h2|h2⟩
     ·exact Or.inl (by omega)
     ·exact Or.inr ⟨h,h2⟩
    ·rintro (h|⟨h,h2⟩)
     ·exact⟨by omega,Or.inl (by omega)⟩
     ·exact⟨h,Or.inr h2⟩
   refine⟨?_,by simp only[e2]⟩;show ((s.1|||2^(x.toNat-1)).testBit i||_)=_;rw[zd8,Bool.or_assoc,<-Bool.decide_or];simp only[e1]
  ·rw[zc2 h1]
   by_cases h2:-24<=x/\x<0
   ·rw[zc3 h2];have e2:((i:Int)+1∈x :: c)↔(i:Int)+1∈c:=by
     rw[zrw];exact⟨fun h=>h.resolve_left (by omega),Or.inr⟩
    have e1:(i<24/\-((i:Int)+1)∈x :: c)↔((-x).toNat-1=i\/(i<24/\-((i:Int)+1)∈c)):=by
     rw[zrw];constructor
     ·rintro⟨h,h3|h3⟩
      ·exact Or.inl (by omega)
      ·exact Or.inr ⟨h,h3⟩
     ·rintro (h|⟨h,h3⟩)
      ·exact⟨by omega,Or.inl (by omega)⟩
      ·exact⟨h,Or.inr h3⟩
    refine⟨by simp only[e2],?_⟩;show ((s.2|||2^((-x).toNat-1)).testBit i||_)=_;rw[zd8,Bool.or_assoc,<-Bool.decide_or];simp only[e1]
   ·rw[zc2 h2];have e1:(i<24/\(i:Int)+1∈x :: c)↔(i<24/\(i:Int)+1∈c):=by
     rw[zrw];exact⟨fun⟨h,h3⟩=>⟨h,h3.resolve_left (by omega)⟩,fun⟨h,h3⟩=>⟨h,Or.inr h3⟩⟩
    have e2:(i<24/\-((i:Int)+1)∈x :: c)↔(i<24/\-((i:Int)+1)∈c):=by
     rw[zrw];exact⟨fun⟨h,h3⟩=>⟨h,h3.resolve_left (by omega)⟩,fun⟨h,h3⟩=>⟨h,Or.inr h3⟩⟩
    simp only[e1,e2,and_self]
theorem YE(c:List Int)(i:Nat):(zn c).1.testBit i=decide (i<24/\(i:Int)+1∈c):=by
 have:=(zga c (0,0) i).1;simpa[zn] using this
theorem Yt(c:List Int)(i:Nat):(zn c).2.testBit i=decide (i<24/\-((i:Int)+1)∈c):=by
 have:=(zga c (0,0) i).2;simpa[zn] using this
def Small(s:Nat × Nat):Prop:=s.1<2^24/\s.2<2^24
theorem zdo{m:Nat}(h:∀i,24<=i->m.testBit i=false):m<2^24:=ztO m h
theorem zcC(c:List Int):Small (zn c) :=
 ⟨zdo fun i hi=>by rw[YE];simp;omega,zdo fun i hi=>by rw[Yt];simp;omega⟩
def qI(s:Nat × Nat):Bool:=decide (s.1&&&s.2≠0)
theorem zc8{s:Nat × Nat}:qI s=true↔∃i,s.1.testBit i=true/\s.2.testBit i=true:=by
 unfold qI;rw[zrz];constructor
 ·intro h;obtain⟨i,hi⟩:=Nat.exists_testBit_of_ne_zero h;rw[Nat.testBit_and,zs1] at hi;exact⟨i,hi⟩
 ·rintro⟨i,h1,h2⟩ h;have:(s.1&&&s.2).testBit i=true:=by rw[Nat.testBit_and,h1,h2];rfl
  rw[h] at this;simp at this
def xm(s:Nat × Nat)(i:Nat):Option Int:=if s.1.testBit i=true then some ((i:Int)+1) else if s.2.testBit i=true then some (-((i:Int)+1)) else none
def yO(s:Nat × Nat)(k:Nat):List Int:=(List.range k).filterMap (xm s)
def ql(s:Nat × Nat):List Int:=yO s 24
theorem zbH(s:Nat × Nat)(k:Nat):yO s (k+1)=yO s k++(xm s k).toList:=by
 unfold yO;rw[zta,List.filterMap_append];congr 1
theorem zaR(s:Nat × Nat)(k:Nat):(yO s k).length<=k:=by
 unfold yO;refine zf1 (List.length_filterMap_le _ _) ?_;simp
theorem zmr{s:Nat × Nat}(ha:qI s=false){x:Int}:x∈ql s↔∃i:Nat,i<24/\((x=(i:Int)+1/\s.1.testBit i=true)\/(x=-((i:Int)+1)/\s.2.testBit i=true)):=by
 unfold ql yO;rw[List.mem_filterMap];constructor
 ·rintro⟨i,hi,h⟩;rw[zsa] at hi;unfold xm at h
  by_cases h1:s.1.testBit i=true
  ·rw[zc3 h1] at h;exact⟨i,hi,Or.inl ⟨(zru h).symm,h1⟩⟩
  ·rw[zc2 h1] at h
   by_cases h2:s.2.testBit i=true
   ·rw[zc3 h2] at h;exact⟨i,hi,Or.inr ⟨(zru h).symm,h2⟩⟩
   ·rw[zc2 h2] at h;cases h
 ·rintro⟨i,hi,⟨e,h1⟩|⟨e,h2⟩⟩
  ·exact⟨i,zsa.2 hi,by unfold xm;rw[zc3 h1,e]⟩
  ·refine⟨i,zsa.2 hi,?_⟩;unfold xm;rw[zc2,zc3 h2,e];intro h1;have:=zc8.2 ⟨i,h1,h2⟩;rw[ha] at this;cases this
theorem ziV{s:Nat × Nat}:qk 24 (ql s):=fun x hx=>by
 unfold ql yO at hx;obtain⟨i,hi,h⟩:=List.mem_filterMap.1 hx;rw[zsa] at hi;rw[xJ];unfold xm at h
 by_cases h1:s.1.testBit i=true
 ·rw[zc3 h1] at h;have:=zru h;omega
 ·rw[zc2 h1] at h
  by_cases h2:s.2.testBit i=true
  ·rw[zc3 h2] at h;have:=zru h;omega
  ·rw[zc2 h2] at h;cases h
theorem znQ{c:List Int}(hl:qk 24 c):qI (zn c)=true↔∃x∈c,-x∈c:=by
 rw[zc8];constructor
 ·rintro⟨i,h1,h2⟩;rw[YE,zrz] at h1;rw[Yt,zrz] at h2;exact⟨_,h1.2,h2.2⟩
 ·rintro⟨x,hx,hn⟩;have h:=xJ.1 (hl x hx)
  by_cases hp:0<x
  ·refine⟨x.toNat-1,?_,?_⟩
   ·rw[YE,zrz];exact⟨by omega,by rw[show ((x.toNat-1:Nat):Int)+1=x by omega];exact hx⟩
   ·rw[Yt,zrz];exact⟨by omega,by rw[show ((x.toNat-1:Nat):Int)+1=x by omega];exact hn⟩
  ·refine⟨(-x).toNat-1,?_,?_⟩
   ·rw[YE,zrz];exact⟨by omega,by rw[show (((-x).toNat-1:Nat):Int)+1=-x by omega];exact hn⟩
   ·rw[Yt,zrz];exact⟨by omega,by rw[show (((-x).toNat-1:Nat):Int)+1=-x by omega,Int.neg_neg];exact hx⟩
theorem QG{c:List Int}(hl:qk 24 c)(ha:qI (zn c)=false){x:Int}:x∈ql (zn c)↔x∈c:=by
 rw[zmr ha];constructor
 ·rintro⟨i,hi,⟨e,h⟩|⟨e,h⟩⟩
  ·rw[YE,zrz] at h;rw[e];exact h.2
  ·rw[Yt,zrz] at h;rw[e];exact h.2
 ·intro hx;have h:=xJ.1 (hl x hx)
  by_cases hp:0<x
  ·refine⟨x.toNat-1,by omega,Or.inl ⟨by omega,?_⟩⟩;rw[YE,zrz];exact⟨by omega,by rw[show ((x.toNat-1:Nat):Int)+1=x by omega];exact hx⟩
  ·refine⟨(-x).toNat-1,by omega,Or.inr ⟨by omega,?_⟩⟩;rw[Yt,zrz];exact⟨by omega,by rw[show (((-x).toNat-1:Nat):Int)+1=-x by omega,Int.neg_neg];exact hx⟩
end
section
theorem znk(s:Nat × Nat):(ql s).Nodup:=by
 have j:∀(i:Nat) (x:Int),xm s i=some x->x=(i:Int)+1\/x=-((i:Int)+1):=fun i x h=>by
  unfold xm at h
  by_cases h1:s.1.testBit i=true
  ·rw[zc3 h1] at h;exact Or.inl (zru h).symm
  ·rw[zc2 h1] at h
   by_cases h2:s.2.testBit i=true
   ·rw[zc3 h2] at h;exact Or.inr (zru h).symm
   ·rw[zc2 h2] at h;cases h
 unfold ql yO;refine List.Pairwise.filterMap (xm s) (R:=fun a b=>a≠b) (fun a b o x hx y hy e=>?_) List.nodup_range;have h1:=j a x hx;have h2:=j b y hy;omega
theorem zd2{c:List Int}(hl:qk 24 c):zbz c↔qI (zn c)=true:=(znQ hl).symm
structure Qg(K L:List (List Int)):Prop where
 sub:ZJ K L
 sat:∀t,Zz t->Jz K t->Jz L t
theorem zmg{t c d:List Int}(e:∀x,x∈c↔x∈d)(h:(∃x∈c,x∈t)\/∃x∈c,∃y∈c,x≠y/\-x∉t/\-y∉t):(∃x∈d,x∈t)\/∃x∈d,∃y∈d,x≠y/\-x∉t/\-y∉t:=by
 rcases h with ⟨x,hx,h⟩|⟨x,hx,y,hy,h⟩
 ·exact Or.inl ⟨x,(e x).1 hx,h⟩
 ·exact Or.inr ⟨x,(e x).1 hx,y,(e y).1 hy,h⟩
theorem Qg.skip{K L:List (List Int)}(h:Qg K L){c:List Int}(h0:∀x∈c,x≠0)(hb:zbz c):Qg K (L++[c]) :=
 ⟨h.sub.trans (ZJ.of_sub fun _ hd=>ztN _ hd),fun t hc hs=>zpn h0 hb (h.sat t hc hs)⟩
theorem Qg.snoc{K L:List (List Int)}(h:Qg K L){c d:List Int}(e:∀x,x∈d↔x∈c):Qg (K++[d]) (L++[c]):=by
 refine⟨fun f hf=>?_,fun t hc hs f hf=>?_⟩
 ·rcases zro.1 hf with hf|hf
  ·obtain⟨g,hg,e2⟩:=h.sub f hf;exact⟨g,ztN _ hg,e2⟩
  ·rw[zra] at hf;subst hf;exact⟨c,zuJ _ (zra.2 rfl),e⟩
 ·rcases zro.1 hf with hf|hf
  ·exact h.sat t hc (fun g hg=>hs g (ztN _ hg)) f hf
  ·rw[zra] at hf;subst hf;exact zmg e (hs d (zuJ _ (zra.2 rfl)))
theorem Qg.nil:Qg [] []:=⟨ZJ.refl _,fun _ _ h=>h⟩
structure QW(K L:List (List Int)):Prop where
 lits:xq 24 K
 nodup:∀d∈K,d.Nodup
 like:Qg K L
theorem QW.nil:QW [] []:=⟨fun c hc=>(by cases hc),fun c hc=>(by cases hc),Qg.nil⟩
theorem QW.skip{K L:List (List Int)}(h:QW K L){c:List Int}(hl:qk 24 c)(ha:qI (zn c)=true):QW K (L++[c]) :=
 ⟨h.lits,h.nodup,h.like.skip (fun x hx=>(xJ.1 (hl x hx)).1) ((zd2 hl).2 ha)⟩
theorem QW.snoc{K L:List (List Int)}(h:QW K L){c:List Int}(hl:qk 24 c)(ha:qI (zn c)=false):QW (K++[ql (zn c)]) (L++[c]):=by
 refine⟨fun d hd=>?_,fun d hd=>?_,h.like.snoc fun x=>QG hl ha⟩
 ·rcases zro.1 hd with hd|hd
  ·exact h.lits d hd
  ·rw[zra] at hd;subst hd;exact ziV
 ·rcases zro.1 hd with hd|hd
  ·exact h.nodup d hd
  ·rw[zra] at hd;subst hd;exact znk _
end
namespace Bd
open Go.Maps
def ZZ(m:List Bool):Nat:=m.countP id
theorem zcM:∀(m:List Bool) (i:Nat),ZZ (m.set i true)<=ZZ m+1
 |[],_=>by simp[ZZ]
 |a :: m,0=>by unfold ZZ;simp only[zrd,List.countP_cons];split<;>split<;>simp<;>omega
 |a :: m,i+1=>by
  have:=zcM m i;unfold ZZ at *;simp only[zre,List.countP_cons];omega
theorem zbt{vars:Nat}{ns:List Nd}(hg:zG vars ns):∀(d:Nat) (h:Int) (m:List Bool),ZZ (zS d ns h m)+1<=ZZ m+2^((vars:Int)-za ns h).toNat
 |0,h,m=>by have:=zr1 (n:=((vars:Int)-za ns h).toNat);unfold zS;omega
 |d+1,h,m=>by
  have h1:=zr1 (n:=((vars:Int)-za ns h).toNat);unfold zS;split
  ·omega
  ·rename_i hn;have ht:=(not_or.1 hn).1;have hv:=Xb hg ht;obtain⟨k1,-,k2,-⟩:=Zh hg.ranked ht;have e:(h-2).toNat=pl h:=rfl;rw[e];have i1:=zbt hg d (nd ns (pl h)).l (m.set (pl h) true);have i2:=zbt hg d (nd ns (pl h)).h (zS d ns (nd ns (pl h)).l (m.set (pl h) true));have i0:=zcM m (pl h);have hp:2^((vars:Int)-za ns h).toNat=2^(((vars:Int)-za ns h).toNat-1)+2^(((vars:Int)-za ns h).toNat-1):=by
    obtain⟨q,hq⟩:∃q,((vars:Int)-za ns h).toNat=q+1:=⟨((vars:Int)-za ns h).toNat-1,by omega⟩;rw[hq,zsR,zsU];omega
   have p1:2^((vars:Int)-za ns (nd ns (pl h)).l).toNat<=2^(((vars:Int)-za ns h).toNat-1):=zrt (by omega) (by omega);have p2:2^((vars:Int)-za ns (nd ns (pl h)).h).toNat<=2^(((vars:Int)-za ns h).toNat-1):=zrt (by omega) (by omega);omega
theorem zoC{ns:List Nd}{M:List Bool}(hl:M.length=ns.length):cnt (qw ns M)<=ZZ M:=by
 unfold cnt qw ZZ;rw[<-ztB,zu5];have e:M=(List.range ns.length).map fun i=>mk M i:=by
  apply zuR (by simp[hl]);intro i h1 h2;simp[zgC M i h1]
 conv=>rhs;rw[e,zu5]
 refine List.countP_mono_left fun i _ h=>?_
 by_cases hm:mk M i=true
 ·exact hm
 ·simp[Function.comp,hm] at h
theorem zmS{vars:Nat}{ns:List Nd}(hg:zG vars ns)(h:Int):cnt (qw ns (qs ns [h]))+1<=2^vars:=by
 have h1:=zoC (zcn ns [h]);have h2:=zbt hg 24 h (List.replicate ns.length false);have h3:ZZ (List.replicate ns.length false)=0:=by
  unfold ZZ;rw[List.countP_eq_zero];intro b hb;rw[(List.mem_replicate.1 hb).2];simp
 have h4:qs ns [h]=zS 24 ns h (List.replicate ns.length false):=rfl;rw[<-h4,h3] at h2;have h5:2^((vars:Int)-za ns h).toNat<=2^vars:=zrt (by omega) (by have:=(qe hg.ranked h).1;omega);omega
def zU(x:Int):Nat:=x.natAbs-1
def xN(f:Nat->Bool)(x:Int):Bool:=f (zU x)==decide (0<x)
def clS(f:Nat->Bool)(c:List Int):Bool:=c.any (xN f)
theorem Jc(ns:List Nd)(n:Nd):za (ZH ns n).1 (ZH ns n).2=n.v/\nd (ZH ns n).1 (pl (ZH ns n).2)=n:=by
 unfold ZH
 by_cases c:idx ns n<ns.length
 ·rw[zc3 c];have hp:pl (2+(idx ns n:Int))=idx ns n:=by unfold pl;omega
  exact⟨by show za ns (2+(idx ns n:Int))=_;rw[Yq c,Ki c],by show nd ns (pl (2+(idx ns n:Int)))=n;rw[hp,Ki c]⟩
 ·rw[zc2 c];have hp:pl (2+(qi ns:Int))=qi ns:=by unfold pl;omega
  exact⟨zff (QN ns),by show nd (qp ns (qi ns) n) (pl (2+(qi ns:Int)))=n;rw[hp,Zw (QN ns) _ (.inr rfl),zc3 rfl]⟩
theorem zkV(ns:List Nd)(v:Int)(is:Bool):za (xH ns v is).1 (xH ns v is).2=v/\(nd (xH ns v is).1 (pl (xH ns v is).2)=⟨v,0,1⟩\/nd (xH ns v is).1 (pl (xH ns v is).2)=⟨v,1,0⟩):=by
 unfold xH yn;cases is with
 |true=>simp only[ztL];rw[zc2 (by omega)];exact⟨(Jc ns ⟨v,0,1⟩).1,.inl (Jc ns ⟨v,0,1⟩).2⟩
 |false=>simp only[zsu,zvs];rw[zc2 (by omega)];exact⟨(Jc ns ⟨v,1,0⟩).1,.inr (Jc ns ⟨v,1,0⟩).2⟩
theorem zgD{vars:Nat}{ns:List Nd}(hg:zG vars ns){v:Int}(is:Bool)(hv0:0<=v)(hv:v<(vars:Int))(hv24:v<24)(hl:ns.length<=900000):cnt (xH ns v is).1<=cnt ns+1/\(xH ns v is).1.length<=max ns.length (cnt ns+1):=by
 unfold xH;cases is with
 |true =>simp only[ztL];have h:=YK hg (v:=v) (l:=0) (h:=1) hl hv0 hv24 hv (Qd ns) (xT ns) (by rw[Y7];exact hv24) (by rw[Yc];exact hv24);exact⟨h.cnt,h.tight⟩
 |false =>simp only[zsu,zvs];have h:=YK hg (v:=v) (l:=1) (h:=0) hl hv0 hv24 hv (xT ns) (Qd ns) (by rw[Yc];exact hv24) (by rw[Y7];exact hv24);exact⟨h.cnt,h.tight⟩
def chn:Nat->List Nd->Int->Prop
 |0,_,_=>True
 |d+1,ns,h=>za ns h=24\/(nd ns (pl h)).l=1/\chn d ns (nd ns (pl h)).h\/(nd ns (pl h)).h=1/\chn d ns (nd ns (pl h)).l
theorem zcy{f:Nat->Bool}{v:Nat}{b:Bool}{x:Int}(h:zU x=v):xN (turn f v b) x=(b==decide (0<x)):=by unfold xN;rw[h,KJ]
theorem zfK{f:Nat->Bool}{v:Nat}{b:Bool}{x:Int}(h:zU x≠v):xN (turn f v b) x=xN f x:=by unfold xN;rw[Ym _ _ h]
theorem zaB{f:Nat->Bool}{v:Nat}{b:Bool}{ys:List Int}(h:∃x∈ys,zU x=v/\decide (0<x)=b):clS (turn f v b) ys=true:=by
 obtain⟨x,h1,h2,h3⟩:=h;unfold clS;rw[zrM];exact⟨x,h1,by rw[zcy h2,h3];simp⟩
theorem KA{f:Nat->Bool}{v:Nat}{b:Bool}{ys:List Int}(h:¬∃x∈ys,zU x=v/\decide (0<x)=b):clS (turn f v b) ys=clS f (ys.filter fun x=>decide (zU x≠v)):=by
 unfold clS;rw[zrB,zrM,zrM];constructor
 ·rintro⟨x,h1,h2⟩
  by_cases e:zU x=v
  ·rw[zcy e] at h2;exact absurd ⟨x,h1,e,by simpa using (ztW.1 h2).symm⟩ h
  ·exact⟨x,zr8.2 ⟨h1,by simpa using e⟩,by rw[zfK e] at h2;exact h2⟩
 ·rintro⟨x,h1,h2⟩;obtain⟨h3,h4⟩:=zr8.1 h1;exact⟨x,h3,by rw[zfK (by simpa using h4)];exact h2⟩
theorem zfB{vars:Nat}{ns:List Nd}(hg:zG vars ns){h:Int}(ht:za ns h≠24)(f:Nat->Bool)(b:Bool):sem ns (if b=true then (nd ns (pl h)).h else (nd ns (pl h)).l) f=sem ns h (turn f (za ns h).toNat b):=by
 obtain⟨k1,-,k2,-⟩:=Zh hg.ranked ht;have h0:=(qe hg.ranked h).1;rw[YN hg.ranked ht,KJ];cases b
 ·simp only[zsu,zvs];exact Yr hg.ranked (fun i hi=>(Ym _ _ (by omega)).symm)
 ·simp only[ztL];exact Yr hg.ranked (fun i hi=>(Ym _ _ (by omega)).symm)
theorem zaZ{vars:Nat}{ns:List Nd}(hg:zG vars ns):∀(d:Nat) (h:Int) (ys:List Int),zh ns h=true->(∀f,sem ns h f=clS f ys)->chn d ns h
 |0,_,_,_,_=>trivial
 |d+1,h,ys,hh,hs=>by
  unfold chn
  by_cases ht:za ns h=24
  ·exact .inl ht
  ·right;obtain⟨-,j,-,p⟩:=Zh hg.ranked ht;obtain⟨-,hp,-,-⟩:=xo ht;have hv:=YW hg.ranked ht;have u:(nd ns (pl h)).l≠(nd ns (pl h)).h:=hg.red _ hp (by rw[<-(xo ht).2.2.1];exact hv);have o:∀f,sem ns (nd ns (pl h)).l f=clS (turn f (za ns h).toNat false) ys:=fun f=>by rw[<-hs];exact zfB hg ht f false
   have q:∀f,sem ns (nd ns (pl h)).h f=clS (turn f (za ns h).toNat true) ys:=fun f=>by rw[<-hs];exact zfB hg ht f true
   by_cases P:∃x∈ys,zU x=(za ns h).toNat/\decide (0<x)=true
   ·have h1:(nd ns (pl h)).h=1:=K7 hg p (xT ns) (fun f=>by rw[q f,zaB P,Zy])
    by_cases N:∃x∈ys,zU x=(za ns h).toNat/\decide (0<x)=false
    ·exact absurd ((K7 hg j (xT ns) (fun f=>by rw[o f,zaB N,Zy])).trans h1.symm) u
    ·exact .inr ⟨h1,zaZ hg d _ _ j (fun f=>by rw[o f,KA N])⟩
   ·by_cases N:∃x∈ys,zU x=(za ns h).toNat/\decide (0<x)=false
    ·exact .inl ⟨K7 hg j (xT ns) (fun f=>by rw[o f,zaB N,Zy]),zaZ hg d _ _ p (fun f=>by rw[q f,KA P])⟩
    ·exact absurd (K7 hg j p (fun f=>by rw[o f,q f,KA N,KA P])) u
theorem YV{d:Nat}{ns:List Nd}{m:List (Nd × Int)}{k:Nd}(h:∃y,qP true k=some y):(zu d true ns m k).1=ns/\(zu d true ns m k).2.1=m:=by
 obtain⟨y,hy⟩:=h;cases d with
 |zero=>unfold zu;exact⟨rfl,rfl⟩
 |succ d=>unfold zu;rw[hy];exact⟨rfl,rfl⟩
theorem zdz(z:Int):∃y,qP true ⟨1,1,z⟩=some y:=⟨1,by unfold qP;rw[zc3 rfl];unfold yN;rw[zc3 (.inl rfl)]⟩
theorem zeQ(z:Int):∃y,qP true ⟨z,1,1⟩=some y:=⟨1,by unfold qP;rw[zc3 rfl];unfold yN;rw[zc3 (.inr rfl)]⟩
theorem zcR(z:Int):∃y,qP true ⟨0,1,z⟩=some y:=by
 unfold qP;rw[zc3 rfl];unfold yN
 by_cases h:(1:Int)=z
 ·exact⟨1,by rw[zc3 (.inr h)]⟩
 ·exact⟨z,by rw[zc2 (by rintro (h'|h');cases h';exact h h'),zc3 rfl]⟩
theorem zb3{vars:Nat}{x v:Int}(hv24:v<24):∀(d:Nat) (ns:List Nd) (m:List (Nd × Int)) (out:Int),zG vars ns->QB true ns m->za ns x=v->(nd ns (pl x)=⟨v,0,1⟩\/nd ns (pl x)=⟨v,1,0⟩)->zh ns out=true->chn d ns out->24<=zg ns ⟨x,1,out⟩+d->ns.length+2*2^vars<=900000 ->
  cnt (zu d true ns m ⟨x,1,out⟩).1<=cnt ns+d/\(zu d true ns m ⟨x,1,out⟩).1.length<=max ns.length (cnt ns+d)
 |0,ns,m,out,_,_,_,_,_,_,_,_=>by unfold zu;exact⟨zri _,ztq _ _⟩
 |d+1,ns,m,out,hg,hm,hx,hn,ho,hc,hd,hl=>by
  have j:cnt ns<=cnt ns+(d+1)/\ns.length<=max ns.length (cnt ns+(d+1)):=⟨by omega,ztq _ _⟩;have t1:=Yc ns;have U:=zr1 (n:=vars);have Y:zh ns x=true:=by unfold zh;rw[hx];simp[hv24]
  have h3:yX ns ⟨x,1,out⟩:=⟨Y,xT ns,ho⟩;unfold zu;cases e:qP true ⟨x,1,out⟩ with
  |some y=>exact j
  |none =>
   cases e2:look m ⟨x,1,out⟩ with
   |some y=>exact j
   |none =>
    have hr:=hg.ranked;have o:=XV hr h3 e;have p:=(QK hr ⟨x,1,out⟩).1;have X:=zbZ hg o;obtain⟨m1,-,m3⟩:=Kw ns ⟨x,1,out⟩;simp only at m1 m3;obtain⟨l3,lt⟩:=zah hr h3 o;obtain⟨g3,gt⟩:=zal hr h3 o;have a1:=Kb (vars:=vars) hr (loK ns ⟨x,1,out⟩ (zg ns ⟨x,1,out⟩));have i1:=Qw (op:=true) (vars:=vars) d ns m _ hg hm l3 (by omega) (by omega);have g3':=g3.ext i1.ext;have gm:=Ke g3 i1.ext;have a2:=Kb (vars:=vars) i1.good.ranked (hiK ns ⟨x,1,out⟩ (zg ns ⟨x,1,out⟩));have l1:=i1.len;have i2:=Qw (op:=true) (vars:=vars) d _ _ _ i1.good i1.memo g3' (by rw[gm];omega) (by omega);have l2:=i2.len;have h1':=i2.ext.has _ i1.has;have t1':=i2.ext.top _ i1.has;have V:zg ns ⟨x,1,out⟩=v\/(zg ns ⟨x,1,out⟩≠v/\zg ns ⟨x,1,out⟩=za ns out):=by unfold zg;simp only;rw[hx,t1];omega
    have C:loS ns 1 (zg ns ⟨x,1,out⟩)=1:=by unfold loS;rw[zc2 (by omega)]
    have q:hiS ns 1 (zg ns ⟨x,1,out⟩)=1:=by unfold hiS;rw[zc2 (by omega)]
    have hb:cnt (zu d true (zu d true ns m (loK ns ⟨x,1,out⟩ (zg ns ⟨x,1,out⟩))).1 (zu d true ns m (loK ns ⟨x,1,out⟩ (zg ns ⟨x,1,out⟩))).2.1 (hiK ns ⟨x,1,out⟩ (zg ns ⟨x,1,out⟩))).1<=cnt ns+d /\
      (zu d true (zu d true ns m (loK ns ⟨x,1,out⟩ (zg ns ⟨x,1,out⟩))).1 (zu d true ns m (loK ns ⟨x,1,out⟩ (zg ns ⟨x,1,out⟩))).2.1 (hiK ns ⟨x,1,out⟩ (zg ns ⟨x,1,out⟩))).1.length<=max ns.length (cnt ns+d):=by
     rcases V with hv|⟨hv,ht⟩
     ·have kl:∃y,qP true (loK ns ⟨x,1,out⟩ (zg ns ⟨x,1,out⟩))=some y:=by
       unfold loK;simp only;rw[C,show loS ns x (zg ns ⟨x,1,out⟩)=(nd ns (pl x)).l by unfold loS;rw[zc3 (by omega)]];rcases hn with hn|hn<;>rw[hn]
       ·exact zcR _
       ·exact zdz _
      have kh:∃y,qP true (hiK ns ⟨x,1,out⟩ (zg ns ⟨x,1,out⟩))=some y:=by
       unfold hiK;simp only;rw[q,show hiS ns x (zg ns ⟨x,1,out⟩)=(nd ns (pl x)).h by unfold hiS;rw[zc3 (by omega)]];rcases hn with hn|hn<;>rw[hn]
       ·exact zdz _
       ·exact zcR _
      rw[(YV kl).1,(YV kl).2,(YV kh).1];exact⟨by omega,ztq _ _⟩
     ·have u:za ns out≠24:=by omega
      have a0:loS ns x (zg ns ⟨x,1,out⟩)=x:=by unfold loS;rw[zc2 (by omega)]
      have M:hiS ns x (zg ns ⟨x,1,out⟩)=x:=by unfold hiS;rw[zc2 (by omega)]
      have Z:loS ns out (zg ns ⟨x,1,out⟩)=(nd ns (pl out)).l:=by unfold loS;rw[zc3 ht.symm]
      have K:hiS ns out (zg ns ⟨x,1,out⟩)=(nd ns (pl out)).h:=by unfold hiS;rw[zc3 ht.symm]
      have el:loK ns ⟨x,1,out⟩ (zg ns ⟨x,1,out⟩)=⟨x,1,(nd ns (pl out)).l⟩:=by unfold loK;simp only;rw[a0,C,Z]
      have eh:hiK ns ⟨x,1,out⟩ (zg ns ⟨x,1,out⟩)=⟨x,1,(nd ns (pl out)).h⟩:=by unfold hiK;simp only;rw[M,q,K]
      rw[el] at lt;rw[eh] at gt;obtain⟨-,R,-,J⟩:=Zh hr u;unfold chn at hc;rcases hc with hc|⟨hc,hk⟩|⟨hc,hk⟩
      ·exact absurd hc u
      ·have kl:∃y,qP true (loK ns ⟨x,1,out⟩ (zg ns ⟨x,1,out⟩))=some y:=by rw[el,hc];exact zeQ _
       rw[(YV kl).1,(YV kl).2,eh];exact zb3 hv24 d ns m _ hg hm hx hn J hk (by omega) hl
      ·have kh:∃y,qP true (hiK ns ⟨x,1,out⟩ (zg ns ⟨x,1,out⟩))=some y:=by rw[eh,hc];exact zeQ _
       rw[(YV kh).1,el];exact zb3 hv24 d ns m _ hg hm hx hn R hk (by omega) hl
    have h:=YK i2.good (v:=zg ns ⟨x,1,out⟩) (by omega) p o X h1' i2.has (by rw[t1'];have:=i1.top;omega) (by have:=i2.top;rw[gm] at this;omega);have h5:=h.cnt;have h6:=h.tight;exact⟨by show cnt (yn _ _ _ _).1<=_;omega,by show (yn _ _ _ _).1.length<=_;omega⟩
structure EiR(vars:Nat)(ns:List Nd)(ys:List Int)(st:List Nd × Int):Prop where
 good:zG vars st.1
 ext:Ext ns st.1
 has:zh st.1 st.2=true
 sem:∀f,sem st.1 st.2 f=clS f ys
 cnt:cnt st.1<=cnt ns+25*ys.length
 tight:st.1.length<=max ns.length (Go.Proofs.YtoffdbflfikcoaaGreatDoor.Bd.cnt ns+25*ys.length)
theorem zjK{vars:Nat}{ns:List Nd}(hg:zG vars ns):EiR vars ns [] (ns,0) :=
 ⟨hg,Ext.refl _,Qd ns,fun f=>ZI f,zri _,ztq _ _⟩
def ZA(ns:List Nd)(x:Int):List Nd × Int:=xH ns (zU x:Int) (decide (0<x))
def YJ(st:List Nd × Int)(x:Int):List Nd × Int:=xI true (ZA st.1 x).1 ⟨(ZA st.1 x).2,1,st.2⟩
theorem zfV{vars:Nat}{ns:List Nd}(hg:zG vars ns){x:Int}(hv:zU x<vars)(h24:vars<=24)(hl:ns.length+2^vars<=900000):OpR vars ns (ZA ns x) (fun f=>xN f x):=by
 have:=zlD hg (v:=(zU x:Int)) (decide (0<x)) (by omega) (by omega) (by omega) hl;exact⟨this.good,this.ext,this.has,fun f=>by have:=this.sem f;exact this,this.len,this.cnt,this.tight⟩
theorem EiR.step{vars:Nat}{ns:List Nd}{ys:List Int}{st:List Nd × Int}(h:EiR vars ns ys st){x:Int}(hv:zU x<vars)(h24:vars<=24)(hl:st.1.length+2^vars<=600000)(hpw:2^vars<=100000):EiR vars ns (x :: ys) (YJ st x):=by
 have p:=zr1 (n:=vars);have hL:=zfV h.good hv h24 (by omega);have hF:=zgD h.good (v:=(zU x:Int)) (decide (0<x)) (by omega) (by omega) (by omega) (by omega);have hN:=zkV st.1 (zU x:Int) (decide (0<x));have o:=hL.len;unfold YJ;unfold ZA at *;generalize xH st.1 (zU x:Int) (decide (0<x))=a at *;have ho:zh a.1 st.2=true:=hL.ext.has _ h.has;have h3:yX a.1 ⟨a.2,1,st.2⟩:=⟨hL.has,xT _,ho⟩;have hp:=Kb (vars:=vars) hL.good.ranked ⟨a.2,1,st.2⟩;have j:∀f,Go.Proofs.YtoffdbflfikcoaaGreatDoor.Bd.sem a.1 st.2 f=clS f ys:=fun f=>by rw[xY h.good.ranked hL.ext h.has,h.sem f]
 have q:=(QK hL.good.ranked ⟨a.2,1,st.2⟩).1;have hM:=Qw (op:=true) 24 a.1 [] ⟨a.2,1,st.2⟩ hL.good (JS true a.1) h3 (by omega) (by omega);have hO:=zb3 (vars:=vars) (x:=a.2) (v:=(zU x:Int)) (by omega) 24 a.1 [] st.2 hL.good (JS true a.1) hN.1 hN.2 ho (zaZ hL.good 24 st.2 ys ho j) (by omega) (by omega);have hc:=h.cnt;have hT:=h.tight;refine⟨hM.good,h.ext.trans (hL.ext.trans hM.ext),hM.has,fun f=>?_,?_,?_⟩
 ·show Go.Proofs.YtoffdbflfikcoaaGreatDoor.Bd.sem (zu 24 true a.1 [] ⟨a.2,1,st.2⟩).1 (zu 24 true a.1 [] ⟨a.2,1,st.2⟩).2.2 f=_;rw[hM.sem f];show opS true (Go.Proofs.YtoffdbflfikcoaaGreatDoor.Bd.sem a.1 a.2 f) (Go.Proofs.YtoffdbflfikcoaaGreatDoor.Bd.sem a.1 1 f) (Go.Proofs.YtoffdbflfikcoaaGreatDoor.Bd.sem a.1 st.2 f)=_;rw[Zy,hL.sem f,j f];simp only[opS,ztL,clS,List.any_cons];cases xN f x<;>simp
 ·have:=hO.1;have:=hF.1;rw[zrb];show Go.Proofs.YtoffdbflfikcoaaGreatDoor.Bd.cnt (zu 24 true a.1 [] ⟨a.2,1,st.2⟩).1<=_;omega
 ·have:=hO.2;have:=hF.1;have:=hF.2;rw[zrb];show (zu 24 true a.1 [] ⟨a.2,1,st.2⟩).1.length<=_;omega
def ym(ns:List Nd)(xs:List Int):List Nd × Int:=xs.foldr (fun x st=>YJ st x) (ns,0)
theorem XD{vars:Nat}{ns:List Nd}(hg:zG vars ns)(h24:vars<=24)(hl:ns.length+2^vars<=500000)(hc:cnt ns<=400000)(hpw:2^vars<=100000):∀(xs:List Int),xs.length<=100->(∀x∈xs,zU x<vars)->EiR vars ns xs (ym ns xs)
 |[],_,_=>zjK hg
 |x :: xs,hn,hx=>by
  have ih:=XD hg h24 hl hc hpw xs (by simp at hn;omega) (fun y hy=>hx y (zst _ hy));exact ih.step (hx x (zsf ..)) h24 (by have:=ih.tight;simp at hn;omega) hpw
def yw(st:List Nd × Int)(c:List Int):List Nd × Int :=
 if qI (zn c)=true then xI true st.1 ⟨st.2,1,0⟩ else xI true (ym st.1 (ql (zn c))).1 ⟨st.2,(ym st.1 (ql (zn c))).2,0⟩
def Jy(st:List Nd × Int)(c:List Int):List Nd × Int:=(qw (yw st c).1 (qs (yw st c).1 [(yw st c).2]),(yw st c).2)
def clF(cs:List (List Int)):List Nd × Int:=cs.foldl Jy ([],1)
structure ClR(vars:Nat)(cs:List (List Int))(st:List Nd × Int):Prop where
 good:zG vars st.1
 has:zh st.1 st.2=true
 sem:∀f,sem st.1 st.2 f=cs.all (clS f)
 cnt:cnt st.1+1<=2^vars
 len:st.1.length<=2*2^vars+600
theorem zpA{f:Nat->Bool}{c:List Int}(hl:qk 24 c)(ha:qI (zn c)=false):clS f (ql (zn c))=clS f c:=by
 unfold clS;rw[zrB,zrM,zrM];exact⟨fun⟨x,h1,h2⟩=>⟨x,(QG hl ha).1 h1,h2⟩,fun⟨x,h1,h2⟩=>⟨x,(QG hl ha).2 h1,h2⟩⟩
theorem zqj{f:Nat->Bool}{c:List Int}(hl:qk 24 c)(ha:qI (zn c)=true):clS f c=true:=by
 obtain⟨x,h1,h2⟩:=(zd2 hl).2 ha;have h0:=xJ.1 (hl x h1);unfold clS;rw[zrM];have e:zU (-x)=zU x:=by unfold zU;omega
 by_cases hx:xN f x=true
 ·exact⟨x,h1,hx⟩
 ·refine⟨-x,h2,?_⟩;unfold xN at *;rw[e]
  by_cases hp:0<x
  ·have:¬0 < -x:=by omega
   rw[zq9 hp] at hx;rw[zf5 this];cases hf:f (zU x)<;>simp[hf] at hx ⊢
  ·have:0 < -x:=by omega
   rw[zf5 hp] at hx;rw[zq9 this];cases hf:f (zU x)<;>simp[hf] at hx ⊢
theorem YY{vars:Nat}{x:Int}(h:yt vars x=true):zU x<vars:=by
 have:=xJ.1 h;unfold zU;omega
theorem Jm{vars:Nat}(h:vars<=12):2^vars<=4096:=zrt (by omega) h
theorem zbA(s:Nat × Nat):(ql s).length<=24:=zaR s 24
theorem zfn{vars:Nat}(h24:vars<=24){c:List Int}(hl:qk vars c):(ql (zn c)).length<=vars:=by
 have j:∀k,vars+k<=24->yO (zn c) (vars+k)=yO (zn c) vars:=by
  intro k
  induction k with
  |zero=>intro _;rfl
  |succ k ih =>
   intro hk;have h1:(zn c).1.testBit (vars+k)=false:=by
    rw[YE,zsm];rintro⟨-,h⟩;have:=xJ.1 (hl _ h);omega
   have h2:(zn c).2.testBit (vars+k)=false:=by
    rw[Yt,zsm];rintro⟨-,h⟩;have:=xJ.1 (hl _ h);omega
   rw[show vars+(k+1)=(vars+k)+1 by omega,zbH,ih (by omega)];unfold xm;rw[zc2 (by rw[h1];simp),zc2 (by rw[h2];simp)];simp
 have:=j (24-vars) (by omega);rw[show vars+(24-vars)=24 by omega] at this;show (yO (zn c) 24).length<=vars;rw[this];exact zaR _ _
theorem zcS{vars:Nat}{cs:List (List Int)}{st:List Nd × Int}(h:ClR vars cs st)(h12:vars<=12){c:List Int}(hl:qk vars c) :
  OpR vars (if qI (zn c)=true then st.1 else (ym st.1 (ql (zn c))).1) (yw st c) (fun f=>cs.all (clS f)&&clS f c):=by
 have hp:=Jm h12;have j:qk 24 c:=fun x hx=>Yd (by omega) (hl x hx);have hc:=h.cnt;have hn:=h.len
 by_cases ha:qI (zn c)=true
 ·unfold yw;rw[zc3 ha,zc3 ha];have:=zeO true h.good (k:=⟨st.2,1,0⟩) ⟨h.has,xT _,Qd _⟩ (by omega);refine⟨this.good,this.ext,this.has,fun f=>?_,this.len,this.cnt,this.tight⟩;rw[this.sem f,Zy,ZI,h.sem f,zqj j ha];simp only[opS,ztL];cases cs.all (clS f)<;>rfl
 ·have ha':qI (zn c)=false:=by simpa using ha
  have hv:∀x∈ql (zn c),zU x<vars:=fun x hx=>YY (hl x ((QG j ha').1 hx));have he:=XD h.good (by omega) (by omega) (by omega) (by omega) (ql (zn c)) (by have:=zbA (zn c);omega) hv;have ht:=he.tight;have o:=zbA (zn c);unfold yw;rw[zc2 ha,zc2 ha];have:=zeO true he.good (k:=⟨st.2,(ym st.1 (ql (zn c))).2,0⟩) ⟨he.ext.has _ h.has,he.has,Qd _⟩ (by omega);refine⟨this.good,this.ext,this.has,fun f=>?_,this.len,this.cnt,this.tight⟩;rw[this.sem f,ZI,xY h.good.ranked he.ext h.has,h.sem f,he.sem f,zpA j ha'];simp only[opS,ztL];cases cs.all (clS f)<;>simp
theorem zlz{vars:Nat}{cs:List (List Int)}{st:List Nd × Int}(h:ClR vars cs st)(h12:vars<=12){c:List Int}(hl:qk vars c):ClR vars (cs++[c]) (Jy st c):=by
 have h1:=zcS h h12 hl;have hp:=Jm h12;have j:qk 24 c:=fun x hx=>Yd (by omega) (hl x hx);have hc:=h.cnt;have hn:=h.len;have hb:cnt (if qI (zn c)=true then st.1 else (ym st.1 (ql (zn c))).1)<=cnt st.1+600/\(if qI (zn c)=true then st.1 else (ym st.1 (ql (zn c))).1).length<=max st.1.length (cnt st.1+600):=by
  by_cases ha:qI (zn c)=true
  ·rw[zc3 ha];exact⟨by omega,by omega⟩
  ·rw[zc2 ha];have ha':qI (zn c)=false:=by simpa using ha
   have hv:∀x∈ql (zn c),zU x<vars:=fun x hx=>YY (hl x ((QG j ha').1 hx));have o:=zbA (zn c);have he:=XD h.good (by omega) (by omega) (by omega) (by omega) (ql (zn c)) (by omega) hv;exact⟨by have:=he.cnt;omega,by have:=he.tight;omega⟩
 generalize (if qI (zn c)=true then st.1 else (ym st.1 (ql (zn c))).1)=ns1 at *;have hk:=zhU h1.good (fs:=[(yw st c).2]) (zra.2 rfl) h1.has;have ht:=h1.tight;refine⟨zjR h1.good _,hk.1,fun f=>?_,zmS h1.good _,?_⟩
 ·show Go.Proofs.YtoffdbflfikcoaaGreatDoor.Bd.sem (qw (yw st c).1 (qs (yw st c).1 [(yw st c).2])) (yw st c).2 f=_;rw[hk.2 f,h1.sem f,List.all_append];simp
 ·show (qw _ _).length<=_;rw[ZM];omega
theorem zcZ(cs:List (List Int))(c:List Int):clF (cs++[c])=Jy (clF cs) c:=by unfold clF;rw[ztJ];rfl
theorem ziR(vars:Nat):zG vars []:=⟨⟨fun j h=>by simp at h,fun j h=>by simp at h,fun j h=>by simp at h,fun j h=>by simp at h⟩,fun i j h=>by simp at h,fun i h=>by simp at h,fun i h=>by simp at h,fun i h=>by simp at h⟩
theorem zn8(vars:Nat):ClR vars [] ([],1) :=
 ⟨ziR vars,xT _,fun f=>by rw[Zy];rfl,by show cnt []+1<=_;have:=zr1 (n:=vars);simpa[cnt] using this,zf6 _⟩
theorem zbL{vars:Nat}(h12:vars<=12)(cs:List (List Int))(hl:xq vars cs):∀k,k<=cs.length->ClR vars (cs.take k) (clF (cs.take k))
 |0,_=>by rw[zvq];exact zn8 vars
 |k+1,hk=>by
  have ih:=zbL h12 cs hl k (by omega);rw[zry (by omega),zcZ];exact zlz ih h12 (hl _ (zr0 _))
theorem zf8{vals:Nat}{x:Int}(h:yt 24 x=true):xN (Qa vals) x=Ka vals x:=by
 have h0:=xJ.1 h;unfold xN Ka yG Qa zU;rw[h,zuZ]
 by_cases hp:0<x
 ·rw[zc3 hp,zq9 hp,show x.natAbs-1=x.toNat-1 by omega];simp
 ·rw[zc2 hp,zf5 hp,show x.natAbs-1=(-x).toNat-1 by omega];cases vals.testBit ((-x).toNat-1)<;>rfl
theorem zea{vals:Nat}{c:List Int}(h:qk 24 c):clS (Qa vals) c=Qb vals c:=by
 unfold clS Qb;rw[zrB,zrM,zrM];exact⟨fun⟨x,h1,h2⟩=>⟨x,h1,by rw[<-zf8 (h x h1)];exact h2⟩,fun⟨x,h1,h2⟩=>⟨x,h1,by rw[zf8 (h x h1)];exact h2⟩⟩
end Bd
namespace Bd
open Go.Maps
structure zt(B:Nat)(w:World)(s b:Nat)(O:Nat->Prop)(vars:Nat)(room:Int)(ns:List Nd):Prop where
 arena:∃bm v L next,zM B w b bm v ns L room next/\Z8 ns L/\(∃i:Nat,next=2+(i:Int)/\i<=ns.length/\∀j,j<i->(nd ns j).v<24)/\(∀k,Own b bm v k->O k)
 own:∀k,O k->B<=k/\k<w.heap.size
 sO:¬O s
 slt:s<w.heap.size
 c0:w.cell? s=some (.pointer (some b))
 c1:w.cell? ⟨s,1,none⟩=some (.int .i64 vars)
def qj(w:World)(k:Nat):Prop:=∃o:Obj,w.heap[k]?=some o/\o.isCells=true
theorem qj.lt{w:World}{k:Nat}(h:qj w k):k<w.heap.size:=by
 obtain⟨o,h1,-⟩:=h;exact(zrg.1 h1).1
theorem qj.kept{w w':World}{S:Nat->Prop}{k:Nat}(h:qj w k)(hk:zc S w w')(hn:¬S k):qj w' k:=by
 obtain⟨o,h1,h2⟩:=h;exact⟨o,(hk.block k (zrg.1 h1).1 hn).trans h1,h2⟩
theorem qj.below{w w':World}{k:Nat}(h:qj w k)(hb:zB w w'):qj w' k:=h.kept (zc.of_below hb (fun _=>False)) (fun h=>h)
theorem zp1{w:World}{a:Addr}{v:Value}(h:w.cell? a=some v):qj w a.block:=by
 unfold World.cell? at h;cases e:w.heap[a.block]? with
 |none=>rw[e] at h;cases h
 |some o =>rw[e] at h;cases o<;>first|exact⟨_,e,rfl⟩|cases h
theorem zcF{w:World}{P:Program}{k:TypeId}{R:Value->Option (DataW Unit × List MemPlace)}{bm n:Nat}{D:DataW Unit}(h:w.ownsMap P k R bm n D):¬qj w bm:=by
 obtain⟨es,j,hb,-⟩:=h;rintro⟨o,h1,h2⟩;rw[hb] at h1;cases h1;cases h2
theorem zlW{W:World}{B t k n:Nat}{v:Value}{cs:List Value}(h:W.ownsRow B t k v n cs):∀(j:Nat) (o:Obj),v.ownBlock=some j->W.heap[j]?=some o->o.isCells=true:=by
 intro j o hj ho;rcases h.2 with ⟨rfl,_⟩|⟨g,p,q,rfl,_,hg,_⟩
 ·simp[Value.ownBlock] at hj
 ·simp only[Value.ownBlock,zsd] at hj;subst hj;rw[hg] at ho;cases ho;rfl
theorem zoa{W:World}{B t k n:Nat}{v:Value}{cs:List Value}(h:W.ownsRow B t k v n cs){j:Nat}(hj:v.ownBlock=some j):qj W j:=by
 have hl:=(h.lt j hj).2;obtain⟨o,ho⟩:∃o,W.heap[j]?=some o:=⟨_,zsI hl⟩;exact⟨o,ho,zlW h j o hj ho⟩
structure zP(O O':Nat->Prop)(w w':World):Prop where
 kept:zc O w w'
 own:∀k,O' k->O k\/w.heap.size<=k
 map:∀k,O' k->qj w' k\/(O k/\¬qj w k)
section
variable {B s b:Nat} {O O' O'':Nat->Prop} {vars:Nat} {room:Int} {ns:List Nd} {w w' w'':World}
theorem zt.kept{S:Nat->Prop}(h:zt B w s b O vars room ns)(hk:zc S w w')(hn:∀k,O k->¬S k)(hs:¬S s):zt B w' s b O vars room ns:=by
 obtain⟨bm,v,L,next,hA,hB,hN,hO⟩:=h.arena;exact ⟨⟨bm,v,L,next,hA.kept hk (fun k hk=>hn k (hO k hk)),hB,hN,hO⟩,fun k j=>⟨(h.own k j).1,zc6 (h.own k j).2 hk.size⟩,h.sO,zc6 h.slt hk.size,
  (hk.cell (a:=s) h.slt hs).trans h.c0,(hk.cell (a:=⟨s,1,none⟩) h.slt hs).trans h.c1⟩
theorem zt.new(h:zt B w s b O vars room ns)(hb:zB w w'):zt B w' s b O vars room ns:=h.kept (zc.of_below hb (fun _=>False)) (fun _ _ h=>h) (fun h=>h)
theorem zt.old(h:zt B w s b O vars room ns){j:Nat}(hj:w.heap.size<=j):¬O j:=fun ho=>by have:=(h.own j ho).2;omega
theorem zP.refl(O:Nat->Prop)(w:World):zP O O w w:=⟨zc.refl _ _,fun _ h=>.inl h,fun k h=>(Classical.em (qj w k)).imp id (fun n=>⟨h,n⟩)⟩
theorem zP.of_below(O:Nat->Prop)(hb:zB w w'):zP O O w w':=⟨zc.of_below hb _,fun _ h=>.inl h,fun k h=>(Classical.em (qj w k)).imp (fun c=>c.below hb) (fun n=>⟨h,n⟩)⟩
theorem zP.trans(h:zP O O' w w')(k:zP O' O'' w' w''):zP O O'' w w'' :=
 ⟨h.kept.andThen k.kept (fun i hi j=>(h.own i hi).elim id (fun h=>by omega)),fun i hi=>by
  rcases k.own i hi with h1|h1
  ·exact h.own i h1
  ·exact .inr (zf1 h.kept.size h1),fun i hi=>by
  rcases k.map i hi with h1|⟨h1,h2⟩
  ·exact .inl h1
  ·rcases h.map i h1 with h3|h3
   ·exact absurd h3 h2
   ·exact .inr h3⟩
theorem zP.size(h:zP O O' w w'):w.heap.size<=w'.heap.size:=h.kept.size
theorem zP.cell(h:zP O O' w w'){a:Addr}(hlt:a.block<w.heap.size)(hn:¬O a.block):w'.cell? a=w.cell? a:=h.kept.cell hlt hn
theorem zP.beside(h:zP O O' w w'){j:Nat}(hlt:j<w.heap.size)(hn:¬O j):¬O' j:=fun ho=>by
 rcases h.own j ho with h1|h1
 ·exact hn h1
 ·omega
theorem zP.below{B:Nat}(h:zP O O' w w')(hB:B<=w.heap.size)(ho:∀k,O k->B<=k):Below B w w':=h.kept.below hB ho
theorem zt.moved{bm:Nat}{v v':Value}{ns':List Nd}{L':List (Nd × Int)}{next':Int}(h:zt B w s b O vars room ns)(hbm0:¬qj w bm)(hO:∀k,Own b bm v k->O k)(hA:zM B w' b bm v' ns' L' room next')(hB:Z8 ns' L')(hN:∃i:Nat,next'=2+(i:Int)/\i<=ns'.length/\∀j,j<i->(nd ns' j).v<24)
  (hk:zc (Own b bm v) w w') (hv:v'.ownBlock=v.ownBlock\/∃g,v'.ownBlock=some g/\w.heap.size<=g):∃O',zt B w' s b O' vars room ns'/\zP O O' w w':=by
 have hs:¬Own b bm v s:=fun ho=>h.sO (hO s ho);obtain⟨D,hD,-⟩:=hA.hmap;have o:=hD.lt;refine⟨Own b bm v',⟨⟨bm,v',L',next',hA,hB,hN,fun _ h=>h⟩,?_,?_,zc6 h.slt hk.size,(hk.cell (a:=s) h.slt hs).trans h.c0,(hk.cell (a:=⟨s,1,none⟩) h.slt hs).trans h.c1⟩,hk.mono hO,?_,?_⟩
 ·rintro k (e|e|e)
  ·have:=h.own k (hO k (.inl e));exact⟨this.1,zc6 this.2 hk.size⟩
  ·have:=h.own k (hO k (.inr (.inl e)));exact⟨this.1,zc6 this.2 hk.size⟩
  ·exact hA.row.lt k e
 ·rintro (e|e|e)
  ·exact h.sO (hO s (.inl e))
  ·exact h.sO (hO s (.inr (.inl e)))
  ·rcases hv with h1|⟨g,h1,h2⟩
   ·exact h.sO (hO s (.inr (.inr (by rw[<-h1];exact e))))
   ·rw[h1] at e;cases e;have:=h.slt;omega
 ·rintro k (e|e|e)
  ·exact .inl (hO k (.inl e))
  ·exact .inl (hO k (.inr (.inl e)))
  ·rcases hv with h1|⟨g,h1,h2⟩
   ·exact .inl (hO k (.inr (.inr (by rw[<-h1];exact e))))
   ·rw[h1] at e;cases e;exact .inr h2
 ·rintro k (e|e|e)
  ·rw[e];exact .inl (zp1 hA.croom)
  ·rw[e];exact .inr ⟨hO bm (.inr (.inl rfl)),hbm0⟩
  ·exact .inl (zoa hA.row e)
theorem zgB:∀ns:List Nd,(QP ns).length=cnt ns:=by
 intro ns;unfold QP cnt;have j:(ns.map fun n=>decide (n.v<24))=(List.range ns.length).map fun i=>decide ((nd ns i).v<24):=by
  apply zuR (by simp);intro i h1 h2;simp at h1 h2;simp[Qn ns i h1]
 rw[<-ztB,<-ztB];have e1:List.countP (fun n:Nd=>decide (n.v<24)) ns=List.countP (fun b:Bool=>b) (ns.map fun n=>decide (n.v<24)):=by rw[zu5];rfl
 have e2:List.countP (fun i=>decide ((nd ns i).v<24)) (List.range ns.length)=List.countP (fun b:Bool=>b) ((List.range ns.length).map fun i=>decide ((nd ns i).v<24)):=by rw[zu5];rfl
 rw[e1,e2,j]
theorem zlL(hS:zt B w s b O vars room ns)(hl:ns.length<=90000)(hroom:(cnt ns:Int)<room)(hB:B<=w.heap.size)(n:Nd)(hn:n.Ok)(hf:Fit ns n) :
  zC 233 #[.pointer (some b),n.val] w fun e w'=>e=.returned (.tuple #[.int .i64 (ZH ns n).2,.nilIface])/\∃O',zt B w' s b O' vars room (ZH ns n).1/\zP O O' w w':=by
 obtain⟨bm,v,L,next,hA,q,⟨i,K,M,R⟩,hO⟩:=hS.arena;have X:L.length<=ns.length:=by rw[KN q];exact zeD ns
 have V:L.length<=cnt ns:=by rw[KN q];exact Nat.le_of_eq (zgB ns)
 unfold ZH
 by_cases c:idx ns n<ns.length
 ·rw[zc3 c];have U:(n,2+(idx ns n:Int))∈L:=by
   have:=q.all _ c (by rw[Ki c];exact hf.v1)
   rwa [Ki c] at this
  exact(zk5 hA (by omega) n hn hf _ U).mono fun e w' ⟨he,hb⟩=>⟨he,O,hS.new hb,zP.of_below O hb⟩
 ·rw[zc2 c];have u:n∉L.map Prod.fst:=fun h=>by
   obtain⟨p,hp,rfl⟩:=zrA.1 h;obtain⟨j,hj,-,rfl⟩:=q.mem p hp;exact zgd c hj rfl
  refine(zpb hA (by omega) n hn hf u (by omega) (by omega) i K M hB).mono ?_;rintro e w' ⟨k,v',rfl,hk,y,o,C,hK,hv⟩;have hocc':∀j,j<k->(nd ns j).v<24:=fun j hj=>by
   by_cases h:j<i
   ·exact R j h
   ·exact y j (by omega) hj
  obtain rfl:k=qi ns:=zq5 hk hocc' o;refine⟨rfl,hS.moved (by obtain⟨D0,J,-⟩:=hA.hmap;exact zcF J) hO C (zpI q hk o hf.v1 u) ⟨qi ns,rfl,?_,fun j hj=>?_⟩ hK hv⟩
  ·have:=(zcs (n:=n) hk).2;exact zf1 hk this
  ·show (nd (qp ns (qi ns) n) j).v<24;rw[Zw hk j (by omega),zc2 (by omega)];exact hocc' j hj
theorem zfy(hS:zt B w s b O vars room ns)(h:Int)(hi:I64 h)(hl:ns.length<=90000) :
  zC 59 #[.pointer (some b),h] w fun e w'=>e=.returned (zh ns h)/\w=w':=by
 obtain⟨bm,v,L,next,hA,-⟩:=hS.arena;exact Kz hA h hi (by omega)
theorem zaw(hS:zt B w s b O vars room ns)(h:Int)(hi:I64 h)(hl:ns.length<=90000) :
  zC 60 #[.pointer (some b),h] w fun e w'=>e=.returned (.int .i64 (za ns h))/\w=w':=by
 obtain⟨bm,v,L,next,hA,-⟩:=hS.arena;exact Kf hA h hi (by omega)
theorem YF(hS:zt B w s b O vars room ns)(h:Int)(hi:I64 h)(hl:ns.length<=90000) :
  zR 103 #[.pointer (some b),h] w (.tuple #[(zo ns h).val,.bool (decide (za ns h≠24))]):=by
 obtain⟨bm,v,L,next,hA,-⟩:=hS.arena;exact X7 hA h hi (by omega)
theorem zpv(hS:zt B w s b O vars room ns)(hr:zZ ns)(hl:ns.length<=90000)(hB:B<=w.heap.size)(bf:Nat){cp:Nat}(fs:List Int)(hF:Zp w bf fs)(hfl:fs.length<=1000) :
  zC 102 #[.pointer (some b),.slice (some bf) fs.length cp] w fun e w'=>∃n:Int,e=.returned (.int .i64 n)/\∃O',zt B w' s b O' vars room (qw ns (qs ns fs))/\zP O O' w w':=by
 obtain⟨bm,v,L,next,hA,o,-,hO⟩:=hS.arena;have u:L.length<=ns.length:=by rw[KN o];exact zeD ns
 refine(zkz hr o (by omega) hA bf fs hF hfl hB (by omega)).mono ?_;rintro e w' ⟨rfl,p,hK⟩;exact⟨_,rfl,hS.moved (by obtain⟨D0,q,-⟩:=hA.hmap;exact zcF q) hO p (zps o) ⟨0,rfl,zf6 _,fun j h=>by omega⟩ hK (.inl rfl)⟩
end
end Bd
