/- A space as it lies in memory. -/
import Derived.Test.YtjmfeefogikdfaaGreatDoorClCheck
import Derived.Test.YtjmfeefogikdfaaGreatDoorWyP
import Derived.RangeFuncOwn
namespace Go.Proofs.YtjmfeefogikdfaaGreatDoor
section
open Go.RowKit Go.Deep
theorem zlU{v:Int}{l:List (List Int)}(h:(qU v l).1=0):0<=v/\v<=24/\l.length<=200/\zU v l/\qU v l=(0,-1)/\∀c∈l,c.length<=48:=by
 unfold qU at h ⊢
 by_cases h1:v<0\/24<v
 ·rw[if_pos h1] at h;cases h
 ·by_cases h2:200<l.length
  ·rw[if_neg h1,if_pos h2] at h;cases h
  ·rw[if_neg h1,if_neg h2] at h ⊢;cases h3:l.findIdx? (xk v) with
   |some i =>rw[h3] at h;simp only[Y6] at h;split at h<;>omega
   |none =>
    rw[List.findIdx?_eq_none_iff] at h3;refine⟨by omega,by omega,by omega,fun c hc x hx=>?_,rfl,fun c hc=>?_⟩
    ·have:=h3 c hc;unfold xk at this;rw[Bool.or_eq_false_iff,List.any_eq_false] at this;simpa using this.2 x hx
    ·have:=h3 c hc;unfold xk at this;rw[Bool.or_eq_false_iff] at this;have:=of_decide_eq_false this.1;omega
end
section
open Go.RowKit
theorem zkV(s:Nat × Nat):(qi s).Nodup:=by
 have key:∀(i:Nat) (x:Int),yP s i=some x->x=(i:Int)+1\/x=-((i:Int)+1):=fun i x h=>by
  unfold yP at h
  by_cases h1:s.1.testBit i=true
  ·rw[if_pos h1] at h;exact Or.inl (Option.some.inj h).symm
  ·rw[if_neg h1] at h
   by_cases h2:s.2.testBit i=true
   ·rw[if_pos h2] at h;exact Or.inr (Option.some.inj h).symm
   ·rw[if_neg h2] at h;cases h
 unfold qi yv;refine List.Pairwise.filterMap (yP s) (R:=fun a b=>a≠b) (fun a b hab x hx y hy e=>?_) List.nodup_range;have h1:=key a x hx;have h2:=key b y hy;omega
theorem zbm{c:List Int}(hl:zS 24 c):Jc c↔qu (zk c)=true:=(zkF hl).symm
structure ZH(K L:List (List Int)):Prop where
 sub:Zc K L
 sat:∀t,qV t->XX K t->XX L t
theorem zkn{t c d:List Int}(e:∀x,x∈c↔x∈d)(h:(∃x∈c,x∈t)\/∃x∈c,∃y∈c,x≠y/\-x∉t/\-y∉t):(∃x∈d,x∈t)\/∃x∈d,∃y∈d,x≠y/\-x∉t/\-y∉t:=by
 rcases h with ⟨x,hx,h⟩|⟨x,hx,y,hy,h⟩
 ·exact Or.inl ⟨x,(e x).1 hx,h⟩
 ·exact Or.inr ⟨x,(e x).1 hx,y,(e y).1 hy,h⟩
theorem ZH.skip{K L:List (List Int)}(h:ZH K L){c:List Int}(h0:∀x∈c,x≠0)(hb:Jc c):ZH K (L++[c]) :=
 ⟨h.sub.trans (Zc.of_sub fun _ hd=>List.mem_append_left _ hd),fun t hc hs=>zkT h0 hb (h.sat t hc hs)⟩
theorem ZH.snoc{K L:List (List Int)}(h:ZH K L){c d:List Int}(e:∀x,x∈d↔x∈c):ZH (K++[d]) (L++[c]):=by
 refine⟨fun f hf=>?_,fun t hc hs f hf=>?_⟩
 ·rcases List.mem_append.1 hf with hf|hf
  ·obtain⟨g,hg,e2⟩:=h.sub f hf;exact⟨g,List.mem_append_left _ hg,e2⟩
  ·rw[List.mem_singleton] at hf;subst hf;exact⟨c,List.mem_append_right _ (List.mem_singleton.2 rfl),e⟩
 ·rcases List.mem_append.1 hf with hf|hf
  ·exact h.sat t hc (fun g hg=>hs g (List.mem_append_left _ hg)) f hf
  ·rw[List.mem_singleton] at hf;subst hf;exact zkn e (hs d (List.mem_append_right _ (List.mem_singleton.2 rfl)))
theorem ZH.nil:ZH [] []:=⟨Zc.refl _,fun _ _ h=>h⟩
structure Z9(K L:List (List Int)):Prop where
 lits:zU 24 K
 nodup:∀d∈K,d.Nodup
 like:ZH K L
theorem Z9.nil:Z9 [] []:=⟨fun c hc=>(by cases hc),fun c hc=>(by cases hc),ZH.nil⟩
theorem Z9.skip{K L:List (List Int)}(h:Z9 K L){c:List Int}(hl:zS 24 c)(ha:qu (zk c)=true):Z9 K (L++[c]) :=
 ⟨h.lits,h.nodup,h.like.skip (fun x hx=>(qx.1 (hl x hx)).1) ((zbm hl).2 ha)⟩
theorem Z9.snoc{K L:List (List Int)}(h:Z9 K L){c:List Int}(hl:zS 24 c)(ha:qu (zk c)=false):Z9 (K++[qi (zk c)]) (L++[c]):=by
 refine⟨fun d hd=>?_,fun d hd=>?_,h.like.snoc fun x=>Qe hl ha⟩
 ·rcases List.mem_append.1 hd with hd|hd
  ·exact h.lits d hd
  ·rw[List.mem_singleton] at hd;subst hd;exact zmb
 ·rcases List.mem_append.1 hd with hd|hd
  ·exact h.nodup d hd
  ·rw[List.mem_singleton] at hd;subst hd;exact zkV _
end
namespace Bd
open Go.RowKit Go.Maps
def Zt(m:List Bool):Nat:=m.countP id
theorem zeT:∀(m:List Bool) (i:Nat),Zt (m.set i true)<=Zt m+1
 |[],_=>by simp[Zt]
 |a :: m,0=>by unfold Zt;simp only[List.set_cons_zero,List.countP_cons];split<;>split<;>simp<;>omega
 |a :: m,i+1=>by
  have:=zeT m i;unfold Zt at *;simp only[List.set_cons_succ,List.countP_cons];omega
theorem JC{vars:Nat}{ns:List Nd}(hg:zr vars ns):∀(d:Nat) (h:Int) (m:List Bool),Zt (zO d ns h m)+1<=Zt m+2^((vars:Int)-za ns h).toNat
 |0,h,m=>by have:=Nat.one_le_two_pow (n:=((vars:Int)-za ns h).toNat);unfold zO;omega
 |d+1,h,m=>by
  have h1:=Nat.one_le_two_pow (n:=((vars:Int)-za ns h).toNat);unfold zO;split
  ·omega
  ·rename_i hn;have ht:=(not_or.1 hn).1;have hv:=Q6 hg ht;obtain⟨k1,-,k2,-⟩:=xx hg.ranked ht;have e:(h-2).toNat=pl h:=rfl;rw[e];have i1:=JC hg d (nd ns (pl h)).l (m.set (pl h) true);have i2:=JC hg d (nd ns (pl h)).h (zO d ns (nd ns (pl h)).l (m.set (pl h) true));have i0:=zeT m (pl h);have hp:2^((vars:Int)-za ns h).toNat=2^(((vars:Int)-za ns h).toNat-1)+2^(((vars:Int)-za ns h).toNat-1):=by
    obtain⟨q,hq⟩:∃q,((vars:Int)-za ns h).toNat=q+1:=⟨((vars:Int)-za ns h).toNat-1,by omega⟩;rw[hq,Nat.add_sub_cancel,Nat.pow_succ];omega
   have p1:2^((vars:Int)-za ns (nd ns (pl h)).l).toNat<=2^(((vars:Int)-za ns h).toNat-1):=Nat.pow_le_pow_right (by omega) (by omega);have p2:2^((vars:Int)-za ns (nd ns (pl h)).h).toNat<=2^(((vars:Int)-za ns h).toNat-1):=Nat.pow_le_pow_right (by omega) (by omega);omega
theorem zmv{ns:List Nd}{M:List Bool}(hl:M.length=ns.length):cnt (qs ns M)<=Zt M:=by
 unfold cnt qs Zt;rw[<-List.countP_eq_length_filter,List.countP_map];have e:M=(List.range ns.length).map fun i=>mk M i:=by
  apply List.ext_getElem (by simp[hl]);intro i h1 h2;simp[zen M i h1]
 conv=>rhs;rw[e,List.countP_map]
 refine List.countP_mono_left fun i _ h=>?_
 by_cases hm:mk M i=true
 ·exact hm
 ·simp[Function.comp,hm] at h
theorem zhV{vars:Nat}{ns:List Nd}(hg:zr vars ns)(h:Int):cnt (qs ns (qq ns [h]))+1<=2^vars:=by
 have h1:=zmv (zaP ns [h]);have h2:=JC hg 24 h (List.replicate ns.length false);have h3:Zt (List.replicate ns.length false)=0:=by
  unfold Zt;rw[List.countP_eq_zero];intro b hb;rw[(List.mem_replicate.1 hb).2];simp
 have h4:qq ns [h]=zO 24 ns h (List.replicate ns.length false):=rfl;rw[<-h4,h3] at h2;have h5:2^((vars:Int)-za ns h).toNat<=2^vars:=Nat.pow_le_pow_right (by omega) (by have:=(zY hg.ranked h).1;omega);omega
def zM(x:Int):Nat:=x.natAbs-1
def xd(f:Nat->Bool)(x:Int):Bool:=f (zM x)==decide (0<x)
def clS(f:Nat->Bool)(c:List Int):Bool:=c.any (xd f)
theorem X1(ns:List Nd)(n:Nd):za (Zj ns n).1 (Zj ns n).2=n.v/\nd (Zj ns n).1 (pl (Zj ns n).2)=n:=by
 unfold Zj
 by_cases c:idx ns n<ns.length
 ·rw[if_pos c];have hp:pl (2+(idx ns n:Int))=idx ns n:=by unfold pl;omega
  exact⟨by show za ns (2+(idx ns n:Int))=_;rw[Qp c,Xq c],by show nd ns (pl (2+(idx ns n:Int)))=n;rw[hp,Xq c]⟩
 ·rw[if_neg c];have hp:pl (2+(qg ns:Int))=qg ns:=by unfold pl;omega
  exact⟨zbI (Z7 ns),by show nd (qo ns (qg ns) n) (pl (2+(qg ns:Int)))=n;rw[hp,xL (Z7 ns) _ (.inr rfl),if_pos rfl]⟩
theorem zj3(ns:List Nd)(v:Int)(is:Bool):za (xt ns v is).1 (xt ns v is).2=v/\(nd (xt ns v is).1 (pl (xt ns v is).2)=⟨v,0,1⟩\/nd (xt ns v is).1 (pl (xt ns v is).2)=⟨v,1,0⟩):=by
 unfold xt yd;cases is with
 |true=>simp only[if_true];rw[if_neg (by omega)];exact⟨(X1 ns ⟨v,0,1⟩).1,.inl (X1 ns ⟨v,0,1⟩).2⟩
 |false=>simp only[Bool.false_eq_true,if_false];rw[if_neg (by omega)];exact⟨(X1 ns ⟨v,1,0⟩).1,.inr (X1 ns ⟨v,1,0⟩).2⟩
theorem zei{vars:Nat}{ns:List Nd}(hg:zr vars ns){v:Int}(is:Bool)(hv0:0<=v)(hv:v<(vars:Int))(hv24:v<24)(hl:ns.length<=900000):cnt (xt ns v is).1<=cnt ns+1/\(xt ns v is).1.length<=max ns.length (cnt ns+1):=by
 unfold xt;cases is with
 |true =>simp only[if_true];have h:=QZ hg (v:=v) (l:=0) (h:=1) hl hv0 hv24 hv (ZK ns) (xE ns) (by rw[Yt];exact hv24) (by rw[Qs];exact hv24);exact⟨h.cnt,h.tight⟩
 |false =>simp only[Bool.false_eq_true,if_false];have h:=QZ hg (v:=v) (l:=1) (h:=0) hl hv0 hv24 hv (xE ns) (ZK ns) (by rw[Qs];exact hv24) (by rw[Yt];exact hv24);exact⟨h.cnt,h.tight⟩
def chn:Nat->List Nd->Int->Prop
 |0,_,_=>True
 |d+1,ns,h=>za ns h=24\/(nd ns (pl h)).l=1/\chn d ns (nd ns (pl h)).h\/(nd ns (pl h)).h=1/\chn d ns (nd ns (pl h)).l
theorem zbV{f:Nat->Bool}{v:Nat}{b:Bool}{x:Int}(h:zM x=v):xd (turn f v b) x=(b==decide (0<x)):=by unfold xd;rw[h,XP]
theorem zcT{f:Nat->Bool}{v:Nat}{b:Bool}{x:Int}(h:zM x≠v):xd (turn f v b) x=xd f x:=by unfold xd;rw[Qr _ _ h]
theorem J3{f:Nat->Bool}{v:Nat}{b:Bool}{ys:List Int}(h:∃x∈ys,zM x=v/\decide (0<x)=b):clS (turn f v b) ys=true:=by
 obtain⟨x,h1,h2,h3⟩:=h;unfold clS;rw[List.any_eq_true];exact⟨x,h1,by rw[zbV h2,h3];simp⟩
theorem XN{f:Nat->Bool}{v:Nat}{b:Bool}{ys:List Int}(h:¬∃x∈ys,zM x=v/\decide (0<x)=b):clS (turn f v b) ys=clS f (ys.filter fun x=>decide (zM x≠v)):=by
 unfold clS;rw[Bool.eq_iff_iff,List.any_eq_true,List.any_eq_true];constructor
 ·rintro⟨x,h1,h2⟩
  by_cases e:zM x=v
  ·rw[zbV e] at h2;exact absurd ⟨x,h1,e,by simpa using (beq_iff_eq.1 h2).symm⟩ h
  ·exact⟨x,List.mem_filter.2 ⟨h1,by simpa using e⟩,by rw[zcT e] at h2;exact h2⟩
 ·rintro⟨x,h1,h2⟩;obtain⟨h3,h4⟩:=List.mem_filter.1 h1;exact⟨x,h3,by rw[zcT (by simpa using h4)];exact h2⟩
theorem zbx{vars:Nat}{ns:List Nd}(hg:zr vars ns){h:Int}(ht:za ns h≠24)(f:Nat->Bool)(b:Bool):sem ns (if b=true then (nd ns (pl h)).h else (nd ns (pl h)).l) f=sem ns h (turn f (za ns h).toNat b):=by
 obtain⟨k1,-,k2,-⟩:=xx hg.ranked ht;have h0:=(zY hg.ranked h).1;rw[Qm hg.ranked ht,XP];cases b
 ·simp only[Bool.false_eq_true,if_false];exact QC hg.ranked (fun i hi=>(Qr _ _ (by omega)).symm)
 ·simp only[if_true];exact QC hg.ranked (fun i hi=>(Qr _ _ (by omega)).symm)
theorem JA{vars:Nat}{ns:List Nd}(hg:zr vars ns):∀(d:Nat) (h:Int) (ys:List Int),zg ns h=true->(∀f,sem ns h f=clS f ys)->chn d ns h
 |0,_,_,_,_=>trivial
 |d+1,h,ys,hh,hs=>by
  unfold chn
  by_cases ht:za ns h=24
  ·exact .inl ht
  ·right;obtain⟨-,hl1,-,hh1⟩:=xx hg.ranked ht;obtain⟨-,hp,-,-⟩:=yE ht;have hv:=Q4 hg.ranked ht;have hne:(nd ns (pl h)).l≠(nd ns (pl h)).h:=hg.red _ hp (by rw[<-(yE ht).2.2.1];exact hv);have slo:∀f,sem ns (nd ns (pl h)).l f=clS (turn f (za ns h).toNat false) ys:=fun f=>by rw[<-hs];exact zbx hg ht f false
   have shi:∀f,sem ns (nd ns (pl h)).h f=clS (turn f (za ns h).toNat true) ys:=fun f=>by rw[<-hs];exact zbx hg ht f true
   by_cases P:∃x∈ys,zM x=(za ns h).toNat/\decide (0<x)=true
   ·have h1:(nd ns (pl h)).h=1:=Kj hg hh1 (xE ns) (fun f=>by rw[shi f,J3 P,xZ])
    by_cases N:∃x∈ys,zM x=(za ns h).toNat/\decide (0<x)=false
    ·exact absurd ((Kj hg hl1 (xE ns) (fun f=>by rw[slo f,J3 N,xZ])).trans h1.symm) hne
    ·exact .inr ⟨h1,JA hg d _ _ hl1 (fun f=>by rw[slo f,XN N])⟩
   ·by_cases N:∃x∈ys,zM x=(za ns h).toNat/\decide (0<x)=false
    ·exact .inl ⟨Kj hg hl1 (xE ns) (fun f=>by rw[slo f,J3 N,xZ]),JA hg d _ _ hh1 (fun f=>by rw[shi f,XN P])⟩
    ·exact absurd (Kj hg hl1 hh1 (fun f=>by rw[slo f,shi f,XN N,XN P])) hne
theorem Yn{d:Nat}{ns:List Nd}{m:List (Nd × Int)}{k:Nd}(h:∃y,qB true k=some y):(zo d true ns m k).1=ns/\(zo d true ns m k).2.1=m:=by
 obtain⟨y,hy⟩:=h;cases d with
 |zero=>unfold zo;exact⟨rfl,rfl⟩
 |succ d=>unfold zo;rw[hy];exact⟨rfl,rfl⟩
theorem zbD(z:Int):∃y,qB true ⟨1,1,z⟩=some y:=⟨1,by unfold qB;rw[if_pos rfl];unfold yu;rw[if_pos (.inl rfl)]⟩
theorem zcw(z:Int):∃y,qB true ⟨z,1,1⟩=some y:=⟨1,by unfold qB;rw[if_pos rfl];unfold yu;rw[if_pos (.inr rfl)]⟩
theorem zeE(z:Int):∃y,qB true ⟨0,1,z⟩=some y:=by
 unfold qB;rw[if_pos rfl];unfold yu
 by_cases h:(1:Int)=z
 ·exact⟨1,by rw[if_pos (.inr h)]⟩
 ·exact⟨z,by rw[if_neg (by rintro (h'|h');cases h';exact h h'),if_pos rfl]⟩
theorem Jy{vars:Nat}{x v:Int}(hv24:v<24):∀(d:Nat) (ns:List Nd) (m:List (Nd × Int)) (out:Int),zr vars ns->Z1 true ns m->za ns x=v->(nd ns (pl x)=⟨v,0,1⟩\/nd ns (pl x)=⟨v,1,0⟩)->zg ns out=true->chn d ns out->24<=ze ns ⟨x,1,out⟩+d->ns.length+2*2^vars<=900000 ->
  cnt (zo d true ns m ⟨x,1,out⟩).1<=cnt ns+d/\(zo d true ns m ⟨x,1,out⟩).1.length<=max ns.length (cnt ns+d)
 |0,ns,m,out,_,_,_,_,_,_,_,_=>by unfold zo;exact⟨Nat.le_refl _,Nat.le_max_left _ _⟩
 |d+1,ns,m,out,hg,hm,hx,hn,ho,hc,hd,hl=>by
  have stay:cnt ns<=cnt ns+(d+1)/\ns.length<=max ns.length (cnt ns+(d+1)):=⟨by omega,Nat.le_max_left _ _⟩;have t1:=Qs ns;have hone:=Nat.one_le_two_pow (n:=vars);have hxh:zg ns x=true:=by unfold zg;rw[hx];simp[hv24]
  have h3:yJ ns ⟨x,1,out⟩:=⟨hxh,xE ns,ho⟩;unfold zo;cases e:qB true ⟨x,1,out⟩ with
  |some y=>exact stay
  |none =>
   cases e2:look m ⟨x,1,out⟩ with
   |some y=>exact stay
   |none =>
    have hr:=hg.ranked;have hmv:=Xs hr h3 e;have hmv0:=(Qb hr ⟨x,1,out⟩).1;have hvv:=Ja hg hmv;obtain⟨m1,-,m3⟩:=Xh ns ⟨x,1,out⟩;simp only at m1 m3;obtain⟨l3,lt⟩:=JU hr h3 hmv;obtain⟨g3,gt⟩:=zav hr h3 hmv;have hp1:=Xg (vars:=vars) hr (loK ns ⟨x,1,out⟩ (ze ns ⟨x,1,out⟩));have i1:=ZU (op:=true) (vars:=vars) d ns m _ hg hm l3 (by omega) (by omega);have g3':=g3.ext i1.ext;have gm:=YN g3 i1.ext;have hp2:=Xg (vars:=vars) i1.good.ranked (hiK ns ⟨x,1,out⟩ (ze ns ⟨x,1,out⟩));have l1:=i1.len;have i2:=ZU (op:=true) (vars:=vars) d _ _ _ i1.good i1.memo g3' (by rw[gm];omega) (by omega);have l2:=i2.len;have h1':=i2.ext.has _ i1.has;have t1':=i2.ext.top _ i1.has;have hvM:ze ns ⟨x,1,out⟩=v\/(ze ns ⟨x,1,out⟩≠v/\ze ns ⟨x,1,out⟩=za ns out):=by unfold ze;simp only;rw[hx,t1];omega
    have lo1:loS ns 1 (ze ns ⟨x,1,out⟩)=1:=by unfold loS;rw[if_neg (by omega)]
    have hi1:hiS ns 1 (ze ns ⟨x,1,out⟩)=1:=by unfold hiS;rw[if_neg (by omega)]
    have hb:cnt (zo d true (zo d true ns m (loK ns ⟨x,1,out⟩ (ze ns ⟨x,1,out⟩))).1 (zo d true ns m (loK ns ⟨x,1,out⟩ (ze ns ⟨x,1,out⟩))).2.1 (hiK ns ⟨x,1,out⟩ (ze ns ⟨x,1,out⟩))).1<=cnt ns+d /\
      (zo d true (zo d true ns m (loK ns ⟨x,1,out⟩ (ze ns ⟨x,1,out⟩))).1 (zo d true ns m (loK ns ⟨x,1,out⟩ (ze ns ⟨x,1,out⟩))).2.1 (hiK ns ⟨x,1,out⟩ (ze ns ⟨x,1,out⟩))).1.length<=max ns.length (cnt ns+d):=by
     rcases hvM with hv|⟨hv,ht⟩
     ·have kl:∃y,qB true (loK ns ⟨x,1,out⟩ (ze ns ⟨x,1,out⟩))=some y:=by
       unfold loK;simp only;rw[lo1,show loS ns x (ze ns ⟨x,1,out⟩)=(nd ns (pl x)).l by unfold loS;rw[if_pos (by omega)]];rcases hn with hn|hn<;>rw[hn]
       ·exact zeE _
       ·exact zbD _
      have kh:∃y,qB true (hiK ns ⟨x,1,out⟩ (ze ns ⟨x,1,out⟩))=some y:=by
       unfold hiK;simp only;rw[hi1,show hiS ns x (ze ns ⟨x,1,out⟩)=(nd ns (pl x)).h by unfold hiS;rw[if_pos (by omega)]];rcases hn with hn|hn<;>rw[hn]
       ·exact zbD _
       ·exact zeE _
      rw[(Yn kl).1,(Yn kl).2,(Yn kh).1];exact⟨by omega,Nat.le_max_left _ _⟩
     ·have htn:za ns out≠24:=by omega
      have lox:loS ns x (ze ns ⟨x,1,out⟩)=x:=by unfold loS;rw[if_neg (by omega)]
      have hix:hiS ns x (ze ns ⟨x,1,out⟩)=x:=by unfold hiS;rw[if_neg (by omega)]
      have loo:loS ns out (ze ns ⟨x,1,out⟩)=(nd ns (pl out)).l:=by unfold loS;rw[if_pos ht.symm]
      have hio:hiS ns out (ze ns ⟨x,1,out⟩)=(nd ns (pl out)).h:=by unfold hiS;rw[if_pos ht.symm]
      have el:loK ns ⟨x,1,out⟩ (ze ns ⟨x,1,out⟩)=⟨x,1,(nd ns (pl out)).l⟩:=by unfold loK;simp only;rw[lox,lo1,loo]
      have eh:hiK ns ⟨x,1,out⟩ (ze ns ⟨x,1,out⟩)=⟨x,1,(nd ns (pl out)).h⟩:=by unfold hiK;simp only;rw[hix,hi1,hio]
      rw[el] at lt;rw[eh] at gt;obtain⟨-,hl1,-,hh1⟩:=xx hr htn;unfold chn at hc;rcases hc with hc|⟨hc,hk⟩|⟨hc,hk⟩
      ·exact absurd hc htn
      ·have kl:∃y,qB true (loK ns ⟨x,1,out⟩ (ze ns ⟨x,1,out⟩))=some y:=by rw[el,hc];exact zcw _
       rw[(Yn kl).1,(Yn kl).2,eh];exact Jy hv24 d ns m _ hg hm hx hn hh1 hk (by omega) hl
      ·have kh:∃y,qB true (hiK ns ⟨x,1,out⟩ (ze ns ⟨x,1,out⟩))=some y:=by rw[eh,hc];exact zcw _
       rw[(Yn kh).1,el];exact Jy hv24 d ns m _ hg hm hx hn hl1 hk (by omega) hl
    have h:=QZ i2.good (v:=ze ns ⟨x,1,out⟩) (by omega) hmv0 hmv hvv h1' i2.has (by rw[t1'];have:=i1.top;omega) (by have:=i2.top;rw[gm] at this;omega);have h5:=h.cnt;have h6:=h.tight;exact⟨by show cnt (yd _ _ _ _).1<=_;omega,by show (yd _ _ _ _).1.length<=_;omega⟩
structure EiR(vars:Nat)(ns:List Nd)(ys:List Int)(st:List Nd × Int):Prop where
 good:zr vars st.1
 ext:Ext ns st.1
 has:zg st.1 st.2=true
 sem:∀f,sem st.1 st.2 f=clS f ys
 cnt:cnt st.1<=cnt ns+25*ys.length
 tight:st.1.length<=max ns.length (Go.Proofs.YtjmfeefogikdfaaGreatDoor.Bd.cnt ns+25*ys.length)
theorem zfj{vars:Nat}{ns:List Nd}(hg:zr vars ns):EiR vars ns [] (ns,0) :=
 ⟨hg,Ext.refl _,ZK ns,fun f=>Zm f,Nat.le_refl _,Nat.le_max_left _ _⟩
def Zn(ns:List Nd)(x:Int):List Nd × Int:=xt ns (zM x:Int) (decide (0<x))
def Q5(st:List Nd × Int)(x:Int):List Nd × Int:=xg true (Zn st.1 x).1 ⟨(Zn st.1 x).2,1,st.2⟩
theorem zdx{vars:Nat}{ns:List Nd}(hg:zr vars ns){x:Int}(hv:zM x<vars)(h24:vars<=24)(hl:ns.length+2^vars<=900000):OpR vars ns (Zn ns x) (fun f=>xd f x):=by
 have:=zjU hg (v:=(zM x:Int)) (decide (0<x)) (by omega) (by omega) (by omega) hl;exact⟨this.good,this.ext,this.has,fun f=>by have:=this.sem f;exact this,this.len,this.cnt,this.tight⟩
theorem EiR.step{vars:Nat}{ns:List Nd}{ys:List Int}{st:List Nd × Int}(h:EiR vars ns ys st){x:Int}(hv:zM x<vars)(h24:vars<=24)(hl:st.1.length+2^vars<=600000)(hpw:2^vars<=100000):EiR vars ns (x :: ys) (Q5 st x):=by
 have hone:=Nat.one_le_two_pow (n:=vars);have hL:=zdx h.good hv h24 (by omega);have hF:=zei h.good (v:=(zM x:Int)) (decide (0<x)) (by omega) (by omega) (by omega) (by omega);have hN:=zj3 st.1 (zM x:Int) (decide (0<x));have hlen:=hL.len;unfold Q5;unfold Zn at *;generalize xt st.1 (zM x:Int) (decide (0<x))=a at *;have ho:zg a.1 st.2=true:=hL.ext.has _ h.has;have h3:yJ a.1 ⟨a.2,1,st.2⟩:=⟨hL.has,xE _,ho⟩;have hp:=Xg (vars:=vars) hL.good.ranked ⟨a.2,1,st.2⟩;have hsm:∀f,Go.Proofs.YtjmfeefogikdfaaGreatDoor.Bd.sem a.1 st.2 f=clS f ys:=fun f=>by rw[xC h.good.ranked hL.ext h.has,h.sem f]
 have hmb:=(Qb hL.good.ranked ⟨a.2,1,st.2⟩).1;have hM:=ZU (op:=true) 24 a.1 [] ⟨a.2,1,st.2⟩ hL.good (KP true a.1) h3 (by omega) (by omega);have hO:=Jy (vars:=vars) (x:=a.2) (v:=(zM x:Int)) (by omega) 24 a.1 [] st.2 hL.good (KP true a.1) hN.1 hN.2 ho (JA hL.good 24 st.2 ys ho hsm) (by omega) (by omega);have hc:=h.cnt;have hT:=h.tight;refine⟨hM.good,h.ext.trans (hL.ext.trans hM.ext),hM.has,fun f=>?_,?_,?_⟩
 ·show Go.Proofs.YtjmfeefogikdfaaGreatDoor.Bd.sem (zo 24 true a.1 [] ⟨a.2,1,st.2⟩).1 (zo 24 true a.1 [] ⟨a.2,1,st.2⟩).2.2 f=_;rw[hM.sem f];show opS true (Go.Proofs.YtjmfeefogikdfaaGreatDoor.Bd.sem a.1 a.2 f) (Go.Proofs.YtjmfeefogikdfaaGreatDoor.Bd.sem a.1 1 f) (Go.Proofs.YtjmfeefogikdfaaGreatDoor.Bd.sem a.1 st.2 f)=_;rw[xZ,hL.sem f,hsm f];simp only[opS,if_true,clS,List.any_cons];cases xd f x<;>simp
 ·have:=hO.1;have:=hF.1;rw[List.length_cons];show Go.Proofs.YtjmfeefogikdfaaGreatDoor.Bd.cnt (zo 24 true a.1 [] ⟨a.2,1,st.2⟩).1<=_;omega
 ·have:=hO.2;have:=hF.1;have:=hF.2;rw[List.length_cons];show (zo 24 true a.1 [] ⟨a.2,1,st.2⟩).1.length<=_;omega
def ya(ns:List Nd)(xs:List Int):List Nd × Int:=xs.foldr (fun x st=>Q5 st x) (ns,0)
theorem Xf{vars:Nat}{ns:List Nd}(hg:zr vars ns)(h24:vars<=24)(hl:ns.length+2^vars<=500000)(hc:cnt ns<=400000)(hpw:2^vars<=100000):∀(xs:List Int),xs.length<=100->(∀x∈xs,zM x<vars)->EiR vars ns xs (ya ns xs)
 |[],_,_=>zfj hg
 |x :: xs,hn,hx=>by
  have ih:=Xf hg h24 hl hc hpw xs (by simp at hn;omega) (fun y hy=>hx y (List.mem_cons_of_mem _ hy));exact ih.step (hx x (List.mem_cons_self ..)) h24 (by have:=ih.tight;simp at hn;omega) hpw
def yf(st:List Nd × Int)(c:List Int):List Nd × Int :=
 if qu (zk c)=true then xg true st.1 ⟨st.2,1,0⟩ else xg true (ya st.1 (qi (zk c))).1 ⟨st.2,(ya st.1 (qi (zk c))).2,0⟩
def XO(st:List Nd × Int)(c:List Int):List Nd × Int:=(qs (yf st c).1 (qq (yf st c).1 [(yf st c).2]),(yf st c).2)
def clF(cs:List (List Int)):List Nd × Int:=cs.foldl XO ([],1)
structure ClR(vars:Nat)(cs:List (List Int))(st:List Nd × Int):Prop where
 good:zr vars st.1
 has:zg st.1 st.2=true
 sem:∀f,sem st.1 st.2 f=cs.all (clS f)
 cnt:cnt st.1+1<=2^vars
 len:st.1.length<=2*2^vars+600
theorem ziy{f:Nat->Bool}{c:List Int}(hl:zS 24 c)(ha:qu (zk c)=false):clS f (qi (zk c))=clS f c:=by
 unfold clS;rw[Bool.eq_iff_iff,List.any_eq_true,List.any_eq_true];exact⟨fun⟨x,h1,h2⟩=>⟨x,(Qe hl ha).1 h1,h2⟩,fun⟨x,h1,h2⟩=>⟨x,(Qe hl ha).2 h1,h2⟩⟩
theorem zhE{f:Nat->Bool}{c:List Int}(hl:zS 24 c)(ha:qu (zk c)=true):clS f c=true:=by
 obtain⟨x,h1,h2⟩:=(zbm hl).2 ha;have h0:=qx.1 (hl x h1);unfold clS;rw[List.any_eq_true];have e:zM (-x)=zM x:=by unfold zM;omega
 by_cases hx:xd f x=true
 ·exact⟨x,h1,hx⟩
 ·refine⟨-x,h2,?_⟩;unfold xd at *;rw[e]
  by_cases hp:0<x
  ·have:¬0 < -x:=by omega
   rw[decide_eq_true hp] at hx;rw[decide_eq_false this];cases hf:f (zM x)<;>simp[hf] at hx ⊢
  ·have:0 < -x:=by omega
   rw[decide_eq_false hp] at hx;rw[decide_eq_true this];cases hf:f (zM x)<;>simp[hf] at hx ⊢
theorem Ye{vars:Nat}{x:Int}(h:zJ vars x=true):zM x<vars:=by
 have:=qx.1 h;unfold zM;omega
theorem JR{vars:Nat}(h:vars<=12):2^vars<=4096:=Nat.pow_le_pow_right (by omega) h
theorem J9(s:Nat × Nat):(qi s).length<=24:=JZ s 24
theorem zcP{vars:Nat}(h24:vars<=24){c:List Int}(hl:zS vars c):(qi (zk c)).length<=vars:=by
 have key:∀k,vars+k<=24->yv (zk c) (vars+k)=yv (zk c) vars:=by
  intro k
  induction k with
  |zero=>intro _;rfl
  |succ k ih =>
   intro hk;have h1:(zk c).1.testBit (vars+k)=false:=by
    rw[Qx,decide_eq_false_iff_not];rintro⟨-,h⟩;have:=qx.1 (hl _ h);omega
   have h2:(zk c).2.testBit (vars+k)=false:=by
    rw[QI,decide_eq_false_iff_not];rintro⟨-,h⟩;have:=qx.1 (hl _ h);omega
   rw[show vars+(k+1)=(vars+k)+1 by omega,zab,ih (by omega)];unfold yP;rw[if_neg (by rw[h1];simp),if_neg (by rw[h2];simp)];simp
 have:=key (24-vars) (by omega);rw[show vars+(24-vars)=24 by omega] at this;show (yv (zk c) 24).length<=vars;rw[this];exact JZ _ _
theorem zee{vars:Nat}{cs:List (List Int)}{st:List Nd × Int}(h:ClR vars cs st)(h12:vars<=12){c:List Int}(hl:zS vars c) :
  OpR vars (if qu (zk c)=true then st.1 else (ya st.1 (qi (zk c))).1) (yf st c) (fun f=>cs.all (clS f)&&clS f c):=by
 have hp:=JR h12;have hl24:zS 24 c:=fun x hx=>Zl (by omega) (hl x hx);have hc:=h.cnt;have hn:=h.len
 by_cases ha:qu (zk c)=true
 ·unfold yf;rw[if_pos ha,if_pos ha];have:=za6 true h.good (k:=⟨st.2,1,0⟩) ⟨h.has,xE _,ZK _⟩ (by omega);refine⟨this.good,this.ext,this.has,fun f=>?_,this.len,this.cnt,this.tight⟩;rw[this.sem f,xZ,Zm,h.sem f,zhE hl24 ha];simp only[opS,if_true];cases cs.all (clS f)<;>rfl
 ·have ha':qu (zk c)=false:=by simpa using ha
  have hv:∀x∈qi (zk c),zM x<vars:=fun x hx=>Ye (hl x ((Qe hl24 ha').1 hx));have he:=Xf h.good (by omega) (by omega) (by omega) (by omega) (qi (zk c)) (by have:=J9 (zk c);omega) hv;have ht:=he.tight;have hcl:=J9 (zk c);unfold yf;rw[if_neg ha,if_neg ha];have:=za6 true he.good (k:=⟨st.2,(ya st.1 (qi (zk c))).2,0⟩) ⟨he.ext.has _ h.has,he.has,ZK _⟩ (by omega);refine⟨this.good,this.ext,this.has,fun f=>?_,this.len,this.cnt,this.tight⟩;rw[this.sem f,Zm,xC h.good.ranked he.ext h.has,h.sem f,he.sem f,ziy hl24 ha'];simp only[opS,if_true];cases cs.all (clS f)<;>simp
theorem zmt{vars:Nat}{cs:List (List Int)}{st:List Nd × Int}(h:ClR vars cs st)(h12:vars<=12){c:List Int}(hl:zS vars c):ClR vars (cs++[c]) (XO st c):=by
 have h1:=zee h h12 hl;have hp:=JR h12;have hl24:zS 24 c:=fun x hx=>Zl (by omega) (hl x hx);have hc:=h.cnt;have hn:=h.len;have hb:cnt (if qu (zk c)=true then st.1 else (ya st.1 (qi (zk c))).1)<=cnt st.1+600/\(if qu (zk c)=true then st.1 else (ya st.1 (qi (zk c))).1).length<=max st.1.length (cnt st.1+600):=by
  by_cases ha:qu (zk c)=true
  ·rw[if_pos ha];exact⟨by omega,by omega⟩
  ·rw[if_neg ha];have ha':qu (zk c)=false:=by simpa using ha
   have hv:∀x∈qi (zk c),zM x<vars:=fun x hx=>Ye (hl x ((Qe hl24 ha').1 hx));have hcl:=J9 (zk c);have he:=Xf h.good (by omega) (by omega) (by omega) (by omega) (qi (zk c)) (by omega) hv;exact⟨by have:=he.cnt;omega,by have:=he.tight;omega⟩
 generalize (if qu (zk c)=true then st.1 else (ya st.1 (qi (zk c))).1)=ns1 at *;have hk:=ziw h1.good (fs:=[(yf st c).2]) (List.mem_singleton.2 rfl) h1.has;have ht:=h1.tight;refine⟨zhM h1.good _,hk.1,fun f=>?_,zhV h1.good _,?_⟩
 ·show Go.Proofs.YtjmfeefogikdfaaGreatDoor.Bd.sem (qs (yf st c).1 (qq (yf st c).1 [(yf st c).2])) (yf st c).2 f=_;rw[hk.2 f,h1.sem f,List.all_append];simp
 ·show (qs _ _).length<=_;rw[xW];omega
theorem zdL(cs:List (List Int))(c:List Int):clF (cs++[c])=XO (clF cs) c:=by unfold clF;rw[List.foldl_append];rfl
theorem zkL(vars:Nat):zr vars []:=⟨⟨fun j h=>by simp at h,fun j h=>by simp at h,fun j h=>by simp at h,fun j h=>by simp at h⟩,fun i j h=>by simp at h,fun i h=>by simp at h,fun i h=>by simp at h,fun i h=>by simp at h⟩
theorem zgp(vars:Nat):ClR vars [] ([],1) :=
 ⟨zkL vars,xE _,fun f=>by rw[xZ];rfl,by show cnt []+1<=_;have:=Nat.one_le_two_pow (n:=vars);simpa[cnt] using this,Nat.zero_le _⟩
theorem zai{vars:Nat}(h12:vars<=12)(cs:List (List Int))(hl:zU vars cs):∀k,k<=cs.length->ClR vars (cs.take k) (clF (cs.take k))
 |0,_=>by rw[List.take_zero];exact zgp vars
 |k+1,hk=>by
  have ih:=zai h12 cs hl k (by omega);rw[List.take_succ_eq_append_getElem (by omega),zdL];exact zmt ih h12 (hl _ (List.getElem_mem _))
theorem zby{vals:Nat}{x:Int}(h:zJ 24 x=true):xd (qR vals) x=Y9 vals x:=by
 have h0:=qx.1 h;unfold xd Y9 xu qR zM;rw[h,Bool.true_and]
 by_cases hp:0<x
 ·rw[if_pos hp,decide_eq_true hp,show x.natAbs-1=x.toNat-1 by omega];simp
 ·rw[if_neg hp,decide_eq_false hp,show x.natAbs-1=(-x).toNat-1 by omega];cases vals.testBit ((-x).toNat-1)<;>rfl
theorem XK{vals:Nat}{c:List Int}(h:zS 24 c):clS (qR vals) c=YL vals c:=by
 unfold clS YL;rw[Bool.eq_iff_iff,List.any_eq_true,List.any_eq_true];exact⟨fun⟨x,h1,h2⟩=>⟨x,h1,by rw[<-zby (h x h1)];exact h2⟩,fun⟨x,h1,h2⟩=>⟨x,h1,by rw[zby (h x h1)];exact h2⟩⟩
end Bd
namespace Bd
open Go.RowKit Go.Maps
structure zm(B:Nat)(w:World)(s b:Nat)(O:Nat->Prop)(vars:Nat)(room:Int)(ns:List Nd):Prop where
 arena:∃bm v L next,zE B w b bm v ns L room next/\Zv ns L/\(∃i:Nat,next=2+(i:Int)/\i<=ns.length/\∀j,j<i->(nd ns j).v<24)/\(∀k,Own b bm v k->O k)
 own:∀k,O k->B<=k/\k<w.heap.size
 sO:¬O s
 slt:s<w.heap.size
 c0:w.cell? ⟨s,0,none⟩=some (.pointer (some ⟨b,0,none⟩))
 c1:w.cell? ⟨s,1,none⟩=some (.int .i64 vars)
def qk(w:World)(k:Nat):Prop:=∃o:Obj,w.heap[k]?=some o/\o.isCells=true
theorem qk.lt{w:World}{k:Nat}(h:qk w k):k<w.heap.size:=by
 obtain⟨o,h1,-⟩:=h;exact(Array.getElem?_eq_some_iff.1 h1).1
theorem qk.kept{w w':World}{S:Nat->Prop}{k:Nat}(h:qk w k)(hk:zb S w w')(hn:¬S k):qk w' k:=by
 obtain⟨o,h1,h2⟩:=h;exact⟨o,(hk.block k (Array.getElem?_eq_some_iff.1 h1).1 hn).trans h1,h2⟩
theorem qk.below{w w':World}{k:Nat}(h:qk w k)(hb:zB w w'):qk w' k:=h.kept (zb.of_below hb (fun _=>False)) (fun h=>h)
theorem zgj{w:World}{a:Addr}{v:Value}(h:w.cell? a=some v):qk w a.block:=by
 unfold World.cell? at h;cases e:w.heap[a.block]? with
 |none=>rw[e] at h;cases h
 |some o =>rw[e] at h;cases o<;>first|exact⟨_,e,rfl⟩|cases h
theorem zea{w:World}{P:Program}{k:TypeId}{R:Value->Option (DataW Unit × List MemPlace)}{bm n:Nat}{D:DataW Unit}(h:w.ownsMap P k R bm n D):¬qk w bm:=by
 obtain⟨es,clock,hb,-⟩:=h;rintro⟨o,h1,h2⟩;rw[hb] at h1;cases h1;cases h2
theorem zhP{W:World}{B t k n:Nat}{v:Value}{cs:List Value}(h:W.ownsRow B t k v n cs):∀(j:Nat) (o:Obj),v.ownBlock=some j->W.heap[j]?=some o->o.isCells=true:=by
 intro j o hj ho;rcases h.2 with ⟨rfl,_⟩|⟨g,cap,cur,rfl,_,hg,_⟩
 ·simp[Value.ownBlock] at hj
 ·simp only[Value.ownBlock,Option.some.injEq] at hj;subst hj;rw[hg] at ho;cases ho;rfl
theorem zgS{W:World}{B t k n:Nat}{v:Value}{cs:List Value}(h:W.ownsRow B t k v n cs){j:Nat}(hj:v.ownBlock=some j):qk W j:=by
 have hl:=(h.lt j hj).2;obtain⟨o,ho⟩:∃o,W.heap[j]?=some o:=⟨_,Array.getElem?_eq_getElem hl⟩;exact⟨o,ho,zhP h j o hj ho⟩
structure zI(O O':Nat->Prop)(w w':World):Prop where
 kept:zb O w w'
 own:∀k,O' k->O k\/w.heap.size<=k
 map:∀k,O' k->qk w' k\/(O k/\¬qk w k)
section
variable {B s b:Nat} {O O' O'':Nat->Prop} {vars:Nat} {room:Int} {ns:List Nd} {w w' w'':World}
theorem zm.kept{S:Nat->Prop}(h:zm B w s b O vars room ns)(hk:zb S w w')(hn:∀k,O k->¬S k)(hs:¬S s):zm B w' s b O vars room ns:=by
 obtain⟨bm,v,L,next,hA,hB,hN,hO⟩:=h.arena;exact ⟨⟨bm,v,L,next,hA.kept hk (fun k hk=>hn k (hO k hk)),hB,hN,hO⟩,fun k hk'=>⟨(h.own k hk').1,Nat.lt_of_lt_of_le (h.own k hk').2 hk.size⟩,h.sO,Nat.lt_of_lt_of_le h.slt hk.size,
  (hk.cell (a:=⟨s,0,none⟩) h.slt hs).trans h.c0,(hk.cell (a:=⟨s,1,none⟩) h.slt hs).trans h.c1⟩
theorem zm.new(h:zm B w s b O vars room ns)(hb:zB w w'):zm B w' s b O vars room ns:=h.kept (zb.of_below hb (fun _=>False)) (fun _ _ h=>h) (fun h=>h)
theorem zm.old(h:zm B w s b O vars room ns){j:Nat}(hj:w.heap.size<=j):¬O j:=fun ho=>by have:=(h.own j ho).2;omega
theorem zI.refl(O:Nat->Prop)(w:World):zI O O w w:=⟨zb.refl _ _,fun _ h=>.inl h,fun k h=>(Classical.em (qk w k)).imp id (fun n=>⟨h,n⟩)⟩
theorem zI.of_below(O:Nat->Prop)(hb:zB w w'):zI O O w w':=⟨zb.of_below hb _,fun _ h=>.inl h,fun k h=>(Classical.em (qk w k)).imp (fun c=>c.below hb) (fun n=>⟨h,n⟩)⟩
theorem zI.trans(h:zI O O' w w')(k:zI O' O'' w' w''):zI O O'' w w'' :=
 ⟨h.kept.andThen k.kept (fun i hi hlt=>(h.own i hi).elim id (fun h=>by omega)),fun i hi=>by
  rcases k.own i hi with h1|h1
  ·exact h.own i h1
  ·exact .inr (Nat.le_trans h.kept.size h1),fun i hi=>by
  rcases k.map i hi with h1|⟨h1,h2⟩
  ·exact .inl h1
  ·rcases h.map i h1 with h3|h3
   ·exact absurd h3 h2
   ·exact .inr h3⟩
theorem zI.size(h:zI O O' w w'):w.heap.size<=w'.heap.size:=h.kept.size
theorem zI.cell(h:zI O O' w w'){a:Addr}(hlt:a.block<w.heap.size)(hn:¬O a.block):w'.cell? a=w.cell? a:=h.kept.cell hlt hn
theorem zI.beside(h:zI O O' w w'){j:Nat}(hlt:j<w.heap.size)(hn:¬O j):¬O' j:=fun ho=>by
 rcases h.own j ho with h1|h1
 ·exact hn h1
 ·omega
theorem zI.below{B:Nat}(h:zI O O' w w')(hB:B<=w.heap.size)(ho:∀k,O k->B<=k):Below B w w':=h.kept.below hB ho
theorem zm.moved{bm:Nat}{v v':Value}{ns':List Nd}{L':List (Nd × Int)}{next':Int}(h:zm B w s b O vars room ns)(hbm0:¬qk w bm)(hO:∀k,Own b bm v k->O k)(hA:zE B w' b bm v' ns' L' room next')(hB:Zv ns' L')(hN:∃i:Nat,next'=2+(i:Int)/\i<=ns'.length/\∀j,j<i->(nd ns' j).v<24)
  (hk:zb (Own b bm v) w w') (hv:v'.ownBlock=v.ownBlock\/∃g,v'.ownBlock=some g/\w.heap.size<=g):∃O',zm B w' s b O' vars room ns'/\zI O O' w w':=by
 have hs:¬Own b bm v s:=fun ho=>h.sO (hO s ho);obtain⟨D,hD,-⟩:=hA.hmap;have hbm:=hD.lt;refine⟨Own b bm v',⟨⟨bm,v',L',next',hA,hB,hN,fun _ h=>h⟩,?_,?_,Nat.lt_of_lt_of_le h.slt hk.size,(hk.cell (a:=⟨s,0,none⟩) h.slt hs).trans h.c0,(hk.cell (a:=⟨s,1,none⟩) h.slt hs).trans h.c1⟩,hk.mono hO,?_,?_⟩
 ·rintro k (e|e|e)
  ·have:=h.own k (hO k (.inl e));exact⟨this.1,Nat.lt_of_lt_of_le this.2 hk.size⟩
  ·have:=h.own k (hO k (.inr (.inl e)));exact⟨this.1,Nat.lt_of_lt_of_le this.2 hk.size⟩
  ·exact hA.row.lt k e
 ·rintro (e|e|e)
  ·exact h.sO (hO s (.inl e))
  ·exact h.sO (hO s (.inr (.inl e)))
  ·rcases hv with h1|⟨g,h1,h2⟩
   ·exact h.sO (hO s (.inr (.inr (by rw[<-h1];exact e))))
   ·rw[h1] at e;cases e;have:=h.slt;omega
 ·rintro k (e|e|e)
  ·exact .inl (hO k (.inl e))
  ·exact .inl (hO k (.inr (.inl e)))
  ·rcases hv with h1|⟨g,h1,h2⟩
   ·exact .inl (hO k (.inr (.inr (by rw[<-h1];exact e))))
   ·rw[h1] at e;cases e;exact .inr h2
 ·rintro k (e|e|e)
  ·rw[e];exact .inl (zgj hA.croom)
  ·rw[e];exact .inr ⟨hO bm (.inr (.inl rfl)),hbm0⟩
  ·exact .inl (zgS hA.row e)
theorem zbh:∀ns:List Nd,(Qu ns).length=cnt ns:=by
 intro ns;unfold Qu cnt;have key:(ns.map fun n=>decide (n.v<24))=(List.range ns.length).map fun i=>decide ((nd ns i).v<24):=by
  apply List.ext_getElem (by simp);intro i h1 h2;simp at h1 h2;simp[ZA ns i h1]
 rw[<-List.countP_eq_length_filter,<-List.countP_eq_length_filter];have e1:List.countP (fun n:Nd=>decide (n.v<24)) ns=List.countP (fun b:Bool=>b) (ns.map fun n=>decide (n.v<24)):=by rw[List.countP_map];rfl
 have e2:List.countP (fun i=>decide ((nd ns i).v<24)) (List.range ns.length)=List.countP (fun b:Bool=>b) ((List.range ns.length).map fun i=>decide ((nd ns i).v<24)):=by rw[List.countP_map];rfl
 rw[e1,e2,key]
theorem zno(hS:zm B w s b O vars room ns)(hl:ns.length<=90000)(hroom:(cnt ns:Int)<room)(hB:B<=w.heap.size)(n:Nd)(hn:n.Ok)(hf:Fit ns n) :
  zC 197 #[.pointer (some ⟨b,0,none⟩),n.val] w fun e w'=>e=.returned (.tuple #[.int .i64 (Zj ns n).2,.nilIface])/\∃O',zm B w' s b O' vars room (Zj ns n).1/\zI O O' w w':=by
 obtain⟨bm,v,L,next,hA,hBk,⟨i,hi1,hi2,hi3⟩,hO⟩:=hS.arena;have hLl:L.length<=ns.length:=by rw[XB hBk];exact zdf ns
 have hLc:L.length<=cnt ns:=by rw[XB hBk];exact Nat.le_of_eq (zbh ns)
 unfold Zj
 by_cases c:idx ns n<ns.length
 ·rw[if_pos c];have hin:(n,2+(idx ns n:Int))∈L:=by
   have:=hBk.all _ c (by rw[Xq c];exact hf.v1)
   rwa [Xq c] at this
  exact(zg8 hA (by omega) n hn hf _ hin).mono fun e w' ⟨he,hb⟩=>⟨he,O,hS.new hb,zI.of_below O hb⟩
 ·rw[if_neg c];have hnin:n∉L.map Prod.fst:=fun h=>by
   obtain⟨p,hp,rfl⟩:=List.mem_map.1 h;obtain⟨j,hj,-,rfl⟩:=hBk.mem p hp;exact zcq c hj rfl
  refine(zm5 hA (by omega) n hn hf hnin (by omega) (by omega) i hi1 hi2 hB).mono ?_;rintro e w' ⟨k,v',rfl,hk,hocc,hfree,hA',hK,hv⟩;have hocc':∀j,j<k->(nd ns j).v<24:=fun j hj=>by
   by_cases h:j<i
   ·exact hi3 j h
   ·exact hocc j (by omega) hj
  obtain rfl:k=qg ns:=zmW hk hocc' hfree;refine⟨rfl,hS.moved (by obtain⟨D0,hD0,-⟩:=hA.hmap;exact zea hD0) hO hA' (zlq hBk hk hfree hf.v1 hnin) ⟨qg ns,rfl,?_,fun j hj=>?_⟩ hK hv⟩
  ·have:=(JO (n:=n) hk).2;exact Nat.le_trans hk this
  ·show (nd (qo ns (qg ns) n) j).v<24;rw[xL hk j (by omega),if_neg (by omega)];exact hocc' j hj
theorem zaZ(hS:zm B w s b O vars room ns)(h:Int)(hi:I64 h)(hl:ns.length<=90000) :
  zC 63 #[.pointer (some ⟨b,0,none⟩),.int .i64 h] w fun e w'=>e=.returned (.bool (zg ns h))/\w=w':=by
 obtain⟨bm,v,L,next,hA,-⟩:=hS.arena;exact Kb hA h hi (by omega)
theorem KQ(hS:zm B w s b O vars room ns)(h:Int)(hi:I64 h)(hl:ns.length<=90000) :
  zC 64 #[.pointer (some ⟨b,0,none⟩),.int .i64 h] w fun e w'=>e=.returned (.int .i64 (za ns h))/\w=w':=by
 obtain⟨bm,v,L,next,hA,-⟩:=hS.arena;exact Y8 hA h hi (by omega)
theorem Qi(hS:zm B w s b O vars room ns)(h:Int)(hi:I64 h)(hl:ns.length<=90000) :
  zR 29 #[.pointer (some ⟨b,0,none⟩),.int .i64 h] w (.tuple #[(zj ns h).val,.bool (decide (za ns h≠24))]):=by
 obtain⟨bm,v,L,next,hA,-⟩:=hS.arena;exact YF hA h hi (by omega)
theorem zf8(hS:zm B w s b O vars room ns)(hr:qe ns)(hl:ns.length<=90000)(hB:B<=w.heap.size)(bf:Nat){cp:Nat}(fs:List Int)(hF:xN w bf fs)(hfl:fs.length<=1000) :
  zC 91 #[.pointer (some ⟨b,0,none⟩),.slice (some ⟨bf,0,none⟩) fs.length cp] w fun e w'=>∃n:Int,e=.returned (.int .i64 n)/\∃O',zm B w' s b O' vars room (qs ns (qq ns fs))/\zI O O' w w':=by
 obtain⟨bm,v,L,next,hA,hBk,-,hO⟩:=hS.arena;have hLl:L.length<=ns.length:=by rw[XB hBk];exact zdf ns
 refine(ziq hr hBk (by omega) hA bf fs hF hfl hB (by omega)).mono ?_;rintro e w' ⟨rfl,hA',hK⟩;exact⟨_,rfl,hS.moved (by obtain⟨D0,hD0,-⟩:=hA.hmap;exact zea hD0) hO hA' (znB hBk) ⟨0,rfl,Nat.zero_le _,fun j h=>by omega⟩ hK (.inl rfl)⟩
end
end Bd
end Go.Proofs.YtjmfeefogikdfaaGreatDoor
