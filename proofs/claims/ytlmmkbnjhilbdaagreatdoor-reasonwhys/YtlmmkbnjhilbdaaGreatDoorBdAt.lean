/- A space as it lies in memory. -/
import Derived.Test.YtlmmkbnjhilbdaaGreatDoorPfForm
namespace Go.Proofs.YtlmmkbnjhilbdaaGreatDoor
section
open Go.RowKit
theorem znT(s:Nat × Nat):(qp s).Nodup:=by
 have key:∀(i:Nat) (x:Int),yZ s i=some x->x=(i:Int)+1\/x=-((i:Int)+1):=fun i x h=>by
  unfold yZ at h
  by_cases h1:s.1.testBit i=true
  ·rw[if_pos h1] at h;exact Or.inl (Option.some.inj h).symm
  ·rw[if_neg h1] at h
   by_cases h2:s.2.testBit i=true
   ·rw[if_pos h2] at h;exact Or.inr (Option.some.inj h).symm
   ·rw[if_neg h2] at h;cases h
 unfold qp yE;refine List.Pairwise.filterMap (yZ s) (R:=fun a b=>a≠b) (fun a b hab x hx y hy e=>?_) List.nodup_range;have h1:=key a x hx;have h2:=key b y hy;omega
theorem zcG{c:List Int}(hl:zY 24 c):zaC c↔qB (zm c)=true:=(zl4 hl).symm
structure ZK(K L:List (List Int)):Prop where
 sub:Zk K L
 sat:∀t,yd t->KE K t->KE L t
theorem zoZ{t c d:List Int}(e:∀x,x∈c↔x∈d)(h:(∃x∈c,x∈t)\/∃x∈c,∃y∈c,x≠y/\-x∉t/\-y∉t):(∃x∈d,x∈t)\/∃x∈d,∃y∈d,x≠y/\-x∉t/\-y∉t:=by
 rcases h with ⟨x,hx,h⟩|⟨x,hx,y,hy,h⟩
 ·exact Or.inl ⟨x,(e x).1 hx,h⟩
 ·exact Or.inr ⟨x,(e x).1 hx,y,(e y).1 hy,h⟩
theorem ZK.skip{K L:List (List Int)}(h:ZK K L){c:List Int}(h0:∀x∈c,x≠0)(hb:zaC c):ZK K (L++[c]) :=
 ⟨h.sub.trans (Zk.of_sub fun _ hd=>List.mem_append_left _ hd),fun t hc hs=>zon h0 hb (h.sat t hc hs)⟩
theorem ZK.snoc{K L:List (List Int)}(h:ZK K L){c d:List Int}(e:∀x,x∈d↔x∈c):ZK (K++[d]) (L++[c]):=by
 refine⟨fun f hf=>?_,fun t hc hs f hf=>?_⟩
 ·rcases List.mem_append.1 hf with hf|hf
  ·obtain⟨g,hg,e2⟩:=h.sub f hf;exact⟨g,List.mem_append_left _ hg,e2⟩
  ·rw[List.mem_singleton] at hf;subst hf;exact⟨c,List.mem_append_right _ (List.mem_singleton.2 rfl),e⟩
 ·rcases List.mem_append.1 hf with hf|hf
  ·exact h.sat t hc (fun g hg=>hs g (List.mem_append_left _ hg)) f hf
  ·rw[List.mem_singleton] at hf;subst hf;exact zoZ e (hs d (List.mem_append_right _ (List.mem_singleton.2 rfl)))
theorem ZK.nil:ZK [] []:=⟨Zk.refl _,fun _ _ h=>h⟩
structure Qs(K L:List (List Int)):Prop where
 lits:qs 24 K
 nodup:∀d∈K,d.Nodup
 like:ZK K L
theorem Qs.nil:Qs [] []:=⟨fun c hc=>(by cases hc),fun c hc=>(by cases hc),ZK.nil⟩
theorem Qs.skip{K L:List (List Int)}(h:Qs K L){c:List Int}(hl:zY 24 c)(ha:qB (zm c)=true):Qs K (L++[c]) :=
 ⟨h.lits,h.nodup,h.like.skip (fun x hx=>(qG.1 (hl x hx)).1) ((zcG hl).2 ha)⟩
theorem Qs.snoc{K L:List (List Int)}(h:Qs K L){c:List Int}(hl:zY 24 c)(ha:qB (zm c)=false):Qs (K++[qp (zm c)]) (L++[c]):=by
 refine⟨fun d hd=>?_,fun d hd=>?_,h.like.snoc fun x=>Qu hl ha⟩
 ·rcases List.mem_append.1 hd with hd|hd
  ·exact h.lits d hd
  ·rw[List.mem_singleton] at hd;subst hd;exact zk2
 ·rcases List.mem_append.1 hd with hd|hd
  ·exact h.nodup d hd
  ·rw[List.mem_singleton] at hd;subst hd;exact znT _
end
namespace Bd
open Go.RowKit Go.Maps
def ZF(m:List Bool):Nat:=m.countP id
theorem zcP:∀(m:List Bool) (i:Nat),ZF (m.set i true)<=ZF m+1
 |[],_=>by simp[ZF]
 |a :: m,0=>by unfold ZF;simp only[List.set_cons_zero,List.countP_cons];split<;>split<;>simp<;>omega
 |a :: m,i+1=>by
  have:=zcP m i;unfold ZF at *;simp only[List.set_cons_succ,List.countP_cons];omega
theorem zaq{vars:Nat}{ns:List Nd}(hg:zu vars ns):∀(d:Nat) (h:Int) (m:List Bool),ZF (zQ d ns h m)+1<=ZF m+2^((vars:Int)-zb ns h).toNat
 |0,h,m=>by have:=Nat.one_le_two_pow (n:=((vars:Int)-zb ns h).toNat);unfold zQ;omega
 |d+1,h,m=>by
  have h1:=Nat.one_le_two_pow (n:=((vars:Int)-zb ns h).toNat);unfold zQ;split
  ·omega
  ·rename_i hn;have ht:=(not_or.1 hn).1;have hv:=YN hg ht;obtain⟨k1,-,k2,-⟩:=xN hg.ranked ht;have e:(h-2).toNat=pl h:=rfl;rw[e];have i1:=zaq hg d (nd ns (pl h)).l (m.set (pl h) true);have i2:=zaq hg d (nd ns (pl h)).h (zQ d ns (nd ns (pl h)).l (m.set (pl h) true));have i0:=zcP m (pl h);have hp:2^((vars:Int)-zb ns h).toNat=2^(((vars:Int)-zb ns h).toNat-1)+2^(((vars:Int)-zb ns h).toNat-1):=by
    obtain⟨q,hq⟩:∃q,((vars:Int)-zb ns h).toNat=q+1:=⟨((vars:Int)-zb ns h).toNat-1,by omega⟩;rw[hq,Nat.add_sub_cancel,Nat.pow_succ];omega
   have p1:2^((vars:Int)-zb ns (nd ns (pl h)).l).toNat<=2^(((vars:Int)-zb ns h).toNat-1):=Nat.pow_le_pow_right (by omega) (by omega);have p2:2^((vars:Int)-zb ns (nd ns (pl h)).h).toNat<=2^(((vars:Int)-zb ns h).toNat-1):=Nat.pow_le_pow_right (by omega) (by omega);omega
theorem zhH{ns:List Nd}{M:List Bool}(hl:M.length=ns.length):cnt (qy ns M)<=ZF M:=by
 unfold cnt qy ZF;rw[<-List.countP_eq_length_filter,List.countP_map];have e:M=(List.range ns.length).map fun i=>mk M i:=by
  apply List.ext_getElem (by simp[hl]);intro i h1 h2;simp[ze1 M i h1]
 conv=>rhs;rw[e,List.countP_map]
 refine List.countP_mono_left fun i _ h=>?_
 by_cases hm:mk M i=true
 ·exact hm
 ·simp[Function.comp,hm] at h
theorem zhr{vars:Nat}{ns:List Nd}(hg:zu vars ns)(h:Int):cnt (qy ns (qx ns [h]))+1<=2^vars:=by
 have h1:=zhH (JG ns [h]);have h2:=zaq hg 24 h (List.replicate ns.length false);have h3:ZF (List.replicate ns.length false)=0:=by
  unfold ZF;rw[List.countP_eq_zero];intro b hb;rw[(List.mem_replicate.1 hb).2];simp
 have h4:qx ns [h]=zQ 24 ns h (List.replicate ns.length false):=rfl;rw[<-h4,h3] at h2;have h5:2^((vars:Int)-zb ns h).toNat<=2^vars:=Nat.pow_le_pow_right (by omega) (by have:=(qi hg.ranked h).1;omega);omega
def zP(x:Int):Nat:=x.natAbs-1
def xw(f:Nat->Bool)(x:Int):Bool:=f (zP x)==decide (0<x)
def clS(f:Nat->Bool)(c:List Int):Bool:=c.any (xw f)
theorem KQ(ns:List Nd)(n:Nd):zb (Zn ns n).1 (Zn ns n).2=n.v/\nd (Zn ns n).1 (pl (Zn ns n).2)=n:=by
 unfold Zn
 by_cases c:idx ns n<ns.length
 ·rw[if_pos c];have hp:pl (2+(idx ns n:Int))=idx ns n:=by unfold pl;omega
  exact⟨by show zb ns (2+(idx ns n:Int))=_;rw[QL c,XE c],by show nd ns (pl (2+(idx ns n:Int)))=n;rw[hp,XE c]⟩
 ·rw[if_neg c];have hp:pl (2+(ql ns:Int))=ql ns:=by unfold pl;omega
  exact⟨zfk (Qw ns),by show nd (qt ns (ql ns) n) (pl (2+(ql ns:Int)))=n;rw[hp,x9 (Qw ns) _ (.inr rfl),if_pos rfl]⟩
theorem zm5(ns:List Nd)(v:Int)(is:Bool):zb (xk ns v is).1 (xk ns v is).2=v/\(nd (xk ns v is).1 (pl (xk ns v is).2)=⟨v,0,1⟩\/nd (xk ns v is).1 (pl (xk ns v is).2)=⟨v,1,0⟩):=by
 unfold xk yl;cases is with
 |true=>simp only[if_true];rw[if_neg (by omega)];exact⟨(KQ ns ⟨v,0,1⟩).1,.inl (KQ ns ⟨v,0,1⟩).2⟩
 |false=>simp only[Bool.false_eq_true,if_false];rw[if_neg (by omega)];exact⟨(KQ ns ⟨v,1,0⟩).1,.inr (KQ ns ⟨v,1,0⟩).2⟩
theorem zcr{vars:Nat}{ns:List Nd}(hg:zu vars ns){v:Int}(is:Bool)(hv0:0<=v)(hv:v<(vars:Int))(hv24:v<24)(hl:ns.length<=900000):cnt (xk ns v is).1<=cnt ns+1/\(xk ns v is).1.length<=max ns.length (cnt ns+1):=by
 unfold xk;cases is with
 |true =>simp only[if_true];have h:=QW hg (v:=v) (l:=0) (h:=1) hl hv0 hv24 hv (ZX ns) (xE ns) (by rw[YH];exact hv24) (by rw[QF];exact hv24);exact⟨h.cnt,h.tight⟩
 |false =>simp only[Bool.false_eq_true,if_false];have h:=QW hg (v:=v) (l:=1) (h:=0) hl hv0 hv24 hv (xE ns) (ZX ns) (by rw[QF];exact hv24) (by rw[YH];exact hv24);exact⟨h.cnt,h.tight⟩
def chn:Nat->List Nd->Int->Prop
 |0,_,_=>True
 |d+1,ns,h=>zb ns h=24\/(nd ns (pl h)).l=1/\chn d ns (nd ns (pl h)).h\/(nd ns (pl h)).h=1/\chn d ns (nd ns (pl h)).l
theorem zgn{f:Nat->Bool}{v:Nat}{b:Bool}{x:Int}(h:zP x=v):xw (turn f v b) x=(b==decide (0<x)):=by unfold xw;rw[h,KW]
theorem zed{f:Nat->Bool}{v:Nat}{b:Bool}{x:Int}(h:zP x≠v):xw (turn f v b) x=xw f x:=by unfold xw;rw[Q6 _ _ h]
theorem J7{f:Nat->Bool}{v:Nat}{b:Bool}{ys:List Int}(h:∃x∈ys,zP x=v/\decide (0<x)=b):clS (turn f v b) ys=true:=by
 obtain⟨x,h1,h2,h3⟩:=h;unfold clS;rw[List.any_eq_true];exact⟨x,h1,by rw[zgn h2,h3];simp⟩
theorem X5{f:Nat->Bool}{v:Nat}{b:Bool}{ys:List Int}(h:¬∃x∈ys,zP x=v/\decide (0<x)=b):clS (turn f v b) ys=clS f (ys.filter fun x=>decide (zP x≠v)):=by
 unfold clS;rw[Bool.eq_iff_iff,List.any_eq_true,List.any_eq_true];constructor
 ·rintro⟨x,h1,h2⟩
  by_cases e:zP x=v
  ·rw[zgn e] at h2;exact absurd ⟨x,h1,e,by simpa using (beq_iff_eq.1 h2).symm⟩ h
  ·exact⟨x,List.mem_filter.2 ⟨h1,by simpa using e⟩,by rw[zed e] at h2;exact h2⟩
 ·rintro⟨x,h1,h2⟩;obtain⟨h3,h4⟩:=List.mem_filter.1 h1;exact⟨x,h3,by rw[zed (by simpa using h4)];exact h2⟩
theorem zcM{vars:Nat}{ns:List Nd}(hg:zu vars ns){h:Int}(ht:zb ns h≠24)(f:Nat->Bool)(b:Bool):sem ns (if b=true then (nd ns (pl h)).h else (nd ns (pl h)).l) f=sem ns h (turn f (zb ns h).toNat b):=by
 obtain⟨k1,-,k2,-⟩:=xN hg.ranked ht;have h0:=(qi hg.ranked h).1;rw[Yu hg.ranked ht,KW];cases b
 ·simp only[Bool.false_eq_true,if_false];exact Q3 hg.ranked (fun i hi=>(Q6 _ _ (by omega)).symm)
 ·simp only[if_true];exact Q3 hg.ranked (fun i hi=>(Q6 _ _ (by omega)).symm)
theorem zbG{vars:Nat}{ns:List Nd}(hg:zu vars ns):∀(d:Nat) (h:Int) (ys:List Int),zj ns h=true->(∀f,sem ns h f=clS f ys)->chn d ns h
 |0,_,_,_,_=>trivial
 |d+1,h,ys,hh,hs=>by
  unfold chn
  by_cases ht:zb ns h=24
  ·exact .inl ht
  ·right;obtain⟨-,hl1,-,hh1⟩:=xN hg.ranked ht;obtain⟨-,hp,-,-⟩:=yU ht;have hv:=YC hg.ranked ht;have hne:(nd ns (pl h)).l≠(nd ns (pl h)).h:=hg.red _ hp (by rw[<-(yU ht).2.2.1];exact hv);have slo:∀f,sem ns (nd ns (pl h)).l f=clS (turn f (zb ns h).toNat false) ys:=fun f=>by rw[<-hs];exact zcM hg ht f false
   have shi:∀f,sem ns (nd ns (pl h)).h f=clS (turn f (zb ns h).toNat true) ys:=fun f=>by rw[<-hs];exact zcM hg ht f true
   by_cases P:∃x∈ys,zP x=(zb ns h).toNat/\decide (0<x)=true
   ·have h1:(nd ns (pl h)).h=1:=X8 hg hh1 (xE ns) (fun f=>by rw[shi f,J7 P,Zj])
    by_cases N:∃x∈ys,zP x=(zb ns h).toNat/\decide (0<x)=false
    ·exact absurd ((X8 hg hl1 (xE ns) (fun f=>by rw[slo f,J7 N,Zj])).trans h1.symm) hne
    ·exact .inr ⟨h1,zbG hg d _ _ hl1 (fun f=>by rw[slo f,X5 N])⟩
   ·by_cases N:∃x∈ys,zP x=(zb ns h).toNat/\decide (0<x)=false
    ·exact .inl ⟨X8 hg hl1 (xE ns) (fun f=>by rw[slo f,J7 N,Zj]),zbG hg d _ _ hh1 (fun f=>by rw[shi f,X5 P])⟩
    ·exact absurd (X8 hg hl1 hh1 (fun f=>by rw[slo f,shi f,X5 N,X5 P])) hne
theorem YR{d:Nat}{ns:List Nd}{m:List (Nd × Int)}{k:Nd}(h:∃y,qK true k=some y):(zr d true ns m k).1=ns/\(zr d true ns m k).2.1=m:=by
 obtain⟨y,hy⟩:=h;cases d with
 |zero=>unfold zr;exact⟨rfl,rfl⟩
 |succ d=>unfold zr;rw[hy];exact⟨rfl,rfl⟩
theorem zdG(z:Int):∃y,qK true ⟨1,1,z⟩=some y:=⟨1,by unfold qK;rw[if_pos rfl];unfold yI;rw[if_pos (.inl rfl)]⟩
theorem zcV(z:Int):∃y,qK true ⟨z,1,1⟩=some y:=⟨1,by unfold qK;rw[if_pos rfl];unfold yI;rw[if_pos (.inr rfl)]⟩
theorem zfC(z:Int):∃y,qK true ⟨0,1,z⟩=some y:=by
 unfold qK;rw[if_pos rfl];unfold yI
 by_cases h:(1:Int)=z
 ·exact⟨1,by rw[if_pos (.inr h)]⟩
 ·exact⟨z,by rw[if_neg (by rintro (h'|h');cases h';exact h h'),if_pos rfl]⟩
theorem zbA{vars:Nat}{x v:Int}(hv24:v<24):∀(d:Nat) (ns:List Nd) (m:List (Nd × Int)) (out:Int),zu vars ns->Z7 true ns m->zb ns x=v->(nd ns (pl x)=⟨v,0,1⟩\/nd ns (pl x)=⟨v,1,0⟩)->zj ns out=true->chn d ns out->24<=zf ns ⟨x,1,out⟩+d->ns.length+2*2^vars<=900000 ->
  cnt (zr d true ns m ⟨x,1,out⟩).1<=cnt ns+d/\(zr d true ns m ⟨x,1,out⟩).1.length<=max ns.length (cnt ns+d)
 |0,ns,m,out,_,_,_,_,_,_,_,_=>by unfold zr;exact⟨Nat.le_refl _,Nat.le_max_left _ _⟩
 |d+1,ns,m,out,hg,hm,hx,hn,ho,hc,hd,hl=>by
  have stay:cnt ns<=cnt ns+(d+1)/\ns.length<=max ns.length (cnt ns+(d+1)):=⟨by omega,Nat.le_max_left _ _⟩;have t1:=QF ns;have hone:=Nat.one_le_two_pow (n:=vars);have hxh:zj ns x=true:=by unfold zj;rw[hx];simp[hv24]
  have h3:yR ns ⟨x,1,out⟩:=⟨hxh,xE ns,ho⟩;unfold zr;cases e:qK true ⟨x,1,out⟩ with
  |some y=>exact stay
  |none =>
   cases e2:look m ⟨x,1,out⟩ with
   |some y=>exact stay
   |none =>
    have hr:=hg.ranked;have hmv:=XO hr h3 e;have hmv0:=(Qm hr ⟨x,1,out⟩).1;have hvv:=zaY hg hmv;obtain⟨m1,-,m3⟩:=XA ns ⟨x,1,out⟩;simp only at m1 m3;obtain⟨l3,lt⟩:=J5 hr h3 hmv;obtain⟨g3,gt⟩:=zbI hr h3 hmv;have hp1:=Xo (vars:=vars) hr (loK ns ⟨x,1,out⟩ (zf ns ⟨x,1,out⟩));have i1:=Z5 (op:=true) (vars:=vars) d ns m _ hg hm l3 (by omega) (by omega);have g3':=g3.ext i1.ext;have gm:=Xm g3 i1.ext;have hp2:=Xo (vars:=vars) i1.good.ranked (hiK ns ⟨x,1,out⟩ (zf ns ⟨x,1,out⟩));have l1:=i1.len;have i2:=Z5 (op:=true) (vars:=vars) d _ _ _ i1.good i1.memo g3' (by rw[gm];omega) (by omega);have l2:=i2.len;have h1':=i2.ext.has _ i1.has;have t1':=i2.ext.top _ i1.has;have hvM:zf ns ⟨x,1,out⟩=v\/(zf ns ⟨x,1,out⟩≠v/\zf ns ⟨x,1,out⟩=zb ns out):=by unfold zf;simp only;rw[hx,t1];omega
    have lo1:loS ns 1 (zf ns ⟨x,1,out⟩)=1:=by unfold loS;rw[if_neg (by omega)]
    have hi1:hiS ns 1 (zf ns ⟨x,1,out⟩)=1:=by unfold hiS;rw[if_neg (by omega)]
    have hb:cnt (zr d true (zr d true ns m (loK ns ⟨x,1,out⟩ (zf ns ⟨x,1,out⟩))).1 (zr d true ns m (loK ns ⟨x,1,out⟩ (zf ns ⟨x,1,out⟩))).2.1 (hiK ns ⟨x,1,out⟩ (zf ns ⟨x,1,out⟩))).1<=cnt ns+d /\
      (zr d true (zr d true ns m (loK ns ⟨x,1,out⟩ (zf ns ⟨x,1,out⟩))).1 (zr d true ns m (loK ns ⟨x,1,out⟩ (zf ns ⟨x,1,out⟩))).2.1 (hiK ns ⟨x,1,out⟩ (zf ns ⟨x,1,out⟩))).1.length<=max ns.length (cnt ns+d):=by
     rcases hvM with hv|⟨hv,ht⟩
     ·have kl:∃y,qK true (loK ns ⟨x,1,out⟩ (zf ns ⟨x,1,out⟩))=some y:=by
       unfold loK;simp only;rw[lo1,show loS ns x (zf ns ⟨x,1,out⟩)=(nd ns (pl x)).l by unfold loS;rw[if_pos (by omega)]];rcases hn with hn|hn<;>rw[hn]
       ·exact zfC _
       ·exact zdG _
      have kh:∃y,qK true (hiK ns ⟨x,1,out⟩ (zf ns ⟨x,1,out⟩))=some y:=by
       unfold hiK;simp only;rw[hi1,show hiS ns x (zf ns ⟨x,1,out⟩)=(nd ns (pl x)).h by unfold hiS;rw[if_pos (by omega)]];rcases hn with hn|hn<;>rw[hn]
       ·exact zdG _
       ·exact zfC _
      rw[(YR kl).1,(YR kl).2,(YR kh).1];exact⟨by omega,Nat.le_max_left _ _⟩
     ·have htn:zb ns out≠24:=by omega
      have lox:loS ns x (zf ns ⟨x,1,out⟩)=x:=by unfold loS;rw[if_neg (by omega)]
      have hix:hiS ns x (zf ns ⟨x,1,out⟩)=x:=by unfold hiS;rw[if_neg (by omega)]
      have loo:loS ns out (zf ns ⟨x,1,out⟩)=(nd ns (pl out)).l:=by unfold loS;rw[if_pos ht.symm]
      have hio:hiS ns out (zf ns ⟨x,1,out⟩)=(nd ns (pl out)).h:=by unfold hiS;rw[if_pos ht.symm]
      have el:loK ns ⟨x,1,out⟩ (zf ns ⟨x,1,out⟩)=⟨x,1,(nd ns (pl out)).l⟩:=by unfold loK;simp only;rw[lox,lo1,loo]
      have eh:hiK ns ⟨x,1,out⟩ (zf ns ⟨x,1,out⟩)=⟨x,1,(nd ns (pl out)).h⟩:=by unfold hiK;simp only;rw[hix,hi1,hio]
      rw[el] at lt;rw[eh] at gt;obtain⟨-,hl1,-,hh1⟩:=xN hr htn;unfold chn at hc;rcases hc with hc|⟨hc,hk⟩|⟨hc,hk⟩
      ·exact absurd hc htn
      ·have kl:∃y,qK true (loK ns ⟨x,1,out⟩ (zf ns ⟨x,1,out⟩))=some y:=by rw[el,hc];exact zcV _
       rw[(YR kl).1,(YR kl).2,eh];exact zbA hv24 d ns m _ hg hm hx hn hh1 hk (by omega) hl
      ·have kh:∃y,qK true (hiK ns ⟨x,1,out⟩ (zf ns ⟨x,1,out⟩))=some y:=by rw[eh,hc];exact zcV _
       rw[(YR kh).1,el];exact zbA hv24 d ns m _ hg hm hx hn hl1 hk (by omega) hl
    have h:=QW i2.good (v:=zf ns ⟨x,1,out⟩) (by omega) hmv0 hmv hvv h1' i2.has (by rw[t1'];have:=i1.top;omega) (by have:=i2.top;rw[gm] at this;omega);have h5:=h.cnt;have h6:=h.tight;exact⟨by show cnt (yl _ _ _ _).1<=_;omega,by show (yl _ _ _ _).1.length<=_;omega⟩
structure EiR(vars:Nat)(ns:List Nd)(ys:List Int)(st:List Nd × Int):Prop where
 good:zu vars st.1
 ext:Ext ns st.1
 has:zj st.1 st.2=true
 sem:∀f,sem st.1 st.2 f=clS f ys
 cnt:cnt st.1<=cnt ns+25*ys.length
 tight:st.1.length<=max ns.length (Go.Proofs.YtlmmkbnjhilbdaaGreatDoor.Bd.cnt ns+25*ys.length)
theorem zkp{vars:Nat}{ns:List Nd}(hg:zu vars ns):EiR vars ns [] (ns,0) :=
 ⟨hg,Ext.refl _,ZX ns,fun f=>Zh f,Nat.le_refl _,Nat.le_max_left _ _⟩
def Zr(ns:List Nd)(x:Int):List Nd × Int:=xk ns (zP x:Int) (decide (0<x))
def QH(st:List Nd × Int)(x:Int):List Nd × Int:=xr true (Zr st.1 x).1 ⟨(Zr st.1 x).2,1,st.2⟩
theorem zfG{vars:Nat}{ns:List Nd}(hg:zu vars ns){x:Int}(hv:zP x<vars)(h24:vars<=24)(hl:ns.length+2^vars<=900000):OpR vars ns (Zr ns x) (fun f=>xw f x):=by
 have:=ziZ hg (v:=(zP x:Int)) (decide (0<x)) (by omega) (by omega) (by omega) hl;exact⟨this.good,this.ext,this.has,fun f=>by have:=this.sem f;exact this,this.len,this.cnt,this.tight⟩
theorem EiR.step{vars:Nat}{ns:List Nd}{ys:List Int}{st:List Nd × Int}(h:EiR vars ns ys st){x:Int}(hv:zP x<vars)(h24:vars<=24)(hl:st.1.length+2^vars<=600000)(hpw:2^vars<=100000):EiR vars ns (x :: ys) (QH st x):=by
 have hone:=Nat.one_le_two_pow (n:=vars);have hL:=zfG h.good hv h24 (by omega);have hF:=zcr h.good (v:=(zP x:Int)) (decide (0<x)) (by omega) (by omega) (by omega) (by omega);have hN:=zm5 st.1 (zP x:Int) (decide (0<x));have hlen:=hL.len;unfold QH;unfold Zr at *;generalize xk st.1 (zP x:Int) (decide (0<x))=a at *;have ho:zj a.1 st.2=true:=hL.ext.has _ h.has;have h3:yR a.1 ⟨a.2,1,st.2⟩:=⟨hL.has,xE _,ho⟩;have hp:=Xo (vars:=vars) hL.good.ranked ⟨a.2,1,st.2⟩;have hsm:∀f,Go.Proofs.YtlmmkbnjhilbdaaGreatDoor.Bd.sem a.1 st.2 f=clS f ys:=fun f=>by rw[xJ h.good.ranked hL.ext h.has,h.sem f]
 have hmb:=(Qm hL.good.ranked ⟨a.2,1,st.2⟩).1;have hM:=Z5 (op:=true) 24 a.1 [] ⟨a.2,1,st.2⟩ hL.good (KS true a.1) h3 (by omega) (by omega);have hO:=zbA (vars:=vars) (x:=a.2) (v:=(zP x:Int)) (by omega) 24 a.1 [] st.2 hL.good (KS true a.1) hN.1 hN.2 ho (zbG hL.good 24 st.2 ys ho hsm) (by omega) (by omega);have hc:=h.cnt;have hT:=h.tight;refine⟨hM.good,h.ext.trans (hL.ext.trans hM.ext),hM.has,fun f=>?_,?_,?_⟩
 ·show Go.Proofs.YtlmmkbnjhilbdaaGreatDoor.Bd.sem (zr 24 true a.1 [] ⟨a.2,1,st.2⟩).1 (zr 24 true a.1 [] ⟨a.2,1,st.2⟩).2.2 f=_;rw[hM.sem f];show opS true (Go.Proofs.YtlmmkbnjhilbdaaGreatDoor.Bd.sem a.1 a.2 f) (Go.Proofs.YtlmmkbnjhilbdaaGreatDoor.Bd.sem a.1 1 f) (Go.Proofs.YtlmmkbnjhilbdaaGreatDoor.Bd.sem a.1 st.2 f)=_;rw[Zj,hL.sem f,hsm f];simp only[opS,if_true,clS,List.any_cons];cases xw f x<;>simp
 ·have:=hO.1;have:=hF.1;rw[List.length_cons];show Go.Proofs.YtlmmkbnjhilbdaaGreatDoor.Bd.cnt (zr 24 true a.1 [] ⟨a.2,1,st.2⟩).1<=_;omega
 ·have:=hO.2;have:=hF.1;have:=hF.2;rw[List.length_cons];show (zr 24 true a.1 [] ⟨a.2,1,st.2⟩).1.length<=_;omega
def ym(ns:List Nd)(xs:List Int):List Nd × Int:=xs.foldr (fun x st=>QH st x) (ns,0)
theorem Xc{vars:Nat}{ns:List Nd}(hg:zu vars ns)(h24:vars<=24)(hl:ns.length+2^vars<=500000)(hc:cnt ns<=400000)(hpw:2^vars<=100000):∀(xs:List Int),xs.length<=100->(∀x∈xs,zP x<vars)->EiR vars ns xs (ym ns xs)
 |[],_,_=>zkp hg
 |x :: xs,hn,hx=>by
  have ih:=Xc hg h24 hl hc hpw xs (by simp at hn;omega) (fun y hy=>hx y (List.mem_cons_of_mem _ hy));exact ih.step (hx x (List.mem_cons_self ..)) h24 (by have:=ih.tight;simp at hn;omega) hpw
def yp(st:List Nd × Int)(c:List Int):List Nd × Int :=
 if qB (zm c)=true then xr true st.1 ⟨st.2,1,0⟩ else xr true (ym st.1 (qp (zm c))).1 ⟨st.2,(ym st.1 (qp (zm c))).2,0⟩
def Jr(st:List Nd × Int)(c:List Int):List Nd × Int:=(qy (yp st c).1 (qx (yp st c).1 [(yp st c).2]),(yp st c).2)
def clF(cs:List (List Int)):List Nd × Int:=cs.foldl Jr ([],1)
structure ClR(vars:Nat)(cs:List (List Int))(st:List Nd × Int):Prop where
 good:zu vars st.1
 has:zj st.1 st.2=true
 sem:∀f,sem st.1 st.2 f=cs.all (clS f)
 cnt:cnt st.1+1<=2^vars
 len:st.1.length<=2*2^vars+600
theorem zh8{f:Nat->Bool}{c:List Int}(hl:zY 24 c)(ha:qB (zm c)=false):clS f (qp (zm c))=clS f c:=by
 unfold clS;rw[Bool.eq_iff_iff,List.any_eq_true,List.any_eq_true];exact⟨fun⟨x,h1,h2⟩=>⟨x,(Qu hl ha).1 h1,h2⟩,fun⟨x,h1,h2⟩=>⟨x,(Qu hl ha).2 h1,h2⟩⟩
theorem zo9{f:Nat->Bool}{c:List Int}(hl:zY 24 c)(ha:qB (zm c)=true):clS f c=true:=by
 obtain⟨x,h1,h2⟩:=(zcG hl).2 ha;have h0:=qG.1 (hl x h1);unfold clS;rw[List.any_eq_true];have e:zP (-x)=zP x:=by unfold zP;omega
 by_cases hx:xw f x=true
 ·exact⟨x,h1,hx⟩
 ·refine⟨-x,h2,?_⟩;unfold xw at *;rw[e]
  by_cases hp:0<x
  ·have:¬0 < -x:=by omega
   rw[decide_eq_true hp] at hx;rw[decide_eq_false this];cases hf:f (zP x)<;>simp[hf] at hx ⊢
  ·have:0 < -x:=by omega
   rw[decide_eq_false hp] at hx;rw[decide_eq_true this];cases hf:f (zP x)<;>simp[hf] at hx ⊢
theorem Yx{vars:Nat}{x:Int}(h:zO vars x=true):zP x<vars:=by
 have:=qG.1 h;unfold zP;omega
theorem Ks{vars:Nat}(h:vars<=12):2^vars<=4096:=Nat.pow_le_pow_right (by omega) h
theorem zbc(s:Nat × Nat):(qp s).length<=24:=zag s 24
theorem zcY{vars:Nat}(h24:vars<=24){c:List Int}(hl:zY vars c):(qp (zm c)).length<=vars:=by
 have key:∀k,vars+k<=24->yE (zm c) (vars+k)=yE (zm c) vars:=by
  intro k
  induction k with
  |zero=>intro _;rfl
  |succ k ih =>
   intro hk;have h1:(zm c).1.testBit (vars+k)=false:=by
    rw[Ye,decide_eq_false_iff_not];rintro⟨-,h⟩;have:=qG.1 (hl _ h);omega
   have h2:(zm c).2.testBit (vars+k)=false:=by
    rw[QG,decide_eq_false_iff_not];rintro⟨-,h⟩;have:=qG.1 (hl _ h);omega
   rw[show vars+(k+1)=(vars+k)+1 by omega,JB,ih (by omega)];unfold yZ;rw[if_neg (by rw[h1];simp),if_neg (by rw[h2];simp)];simp
 have:=key (24-vars) (by omega);rw[show vars+(24-vars)=24 by omega] at this;show (yE (zm c) 24).length<=vars;rw[this];exact zag _ _
theorem zcv{vars:Nat}{cs:List (List Int)}{st:List Nd × Int}(h:ClR vars cs st)(h12:vars<=12){c:List Int}(hl:zY vars c) :
  OpR vars (if qB (zm c)=true then st.1 else (ym st.1 (qp (zm c))).1) (yp st c) (fun f=>cs.all (clS f)&&clS f c):=by
 have hp:=Ks h12;have hl24:zY 24 c:=fun x hx=>Zz (by omega) (hl x hx);have hc:=h.cnt;have hn:=h.len
 by_cases ha:qB (zm c)=true
 ·unfold yp;rw[if_pos ha,if_pos ha];have:=zc9 true h.good (k:=⟨st.2,1,0⟩) ⟨h.has,xE _,ZX _⟩ (by omega);refine⟨this.good,this.ext,this.has,fun f=>?_,this.len,this.cnt,this.tight⟩;rw[this.sem f,Zj,Zh,h.sem f,zo9 hl24 ha];simp only[opS,if_true];cases cs.all (clS f)<;>rfl
 ·have ha':qB (zm c)=false:=by simpa using ha
  have hv:∀x∈qp (zm c),zP x<vars:=fun x hx=>Yx (hl x ((Qu hl24 ha').1 hx));have he:=Xc h.good (by omega) (by omega) (by omega) (by omega) (qp (zm c)) (by have:=zbc (zm c);omega) hv;have ht:=he.tight;have hcl:=zbc (zm c);unfold yp;rw[if_neg ha,if_neg ha];have:=zc9 true he.good (k:=⟨st.2,(ym st.1 (qp (zm c))).2,0⟩) ⟨he.ext.has _ h.has,he.has,ZX _⟩ (by omega);refine⟨this.good,this.ext,this.has,fun f=>?_,this.len,this.cnt,this.tight⟩;rw[this.sem f,Zh,xJ h.good.ranked he.ext h.has,h.sem f,he.sem f,zh8 hl24 ha'];simp only[opS,if_true];cases cs.all (clS f)<;>simp
theorem zoW{vars:Nat}{cs:List (List Int)}{st:List Nd × Int}(h:ClR vars cs st)(h12:vars<=12){c:List Int}(hl:zY vars c):ClR vars (cs++[c]) (Jr st c):=by
 have h1:=zcv h h12 hl;have hp:=Ks h12;have hl24:zY 24 c:=fun x hx=>Zz (by omega) (hl x hx);have hc:=h.cnt;have hn:=h.len;have hb:cnt (if qB (zm c)=true then st.1 else (ym st.1 (qp (zm c))).1)<=cnt st.1+600/\(if qB (zm c)=true then st.1 else (ym st.1 (qp (zm c))).1).length<=max st.1.length (cnt st.1+600):=by
  by_cases ha:qB (zm c)=true
  ·rw[if_pos ha];exact⟨by omega,by omega⟩
  ·rw[if_neg ha];have ha':qB (zm c)=false:=by simpa using ha
   have hv:∀x∈qp (zm c),zP x<vars:=fun x hx=>Yx (hl x ((Qu hl24 ha').1 hx));have hcl:=zbc (zm c);have he:=Xc h.good (by omega) (by omega) (by omega) (by omega) (qp (zm c)) (by omega) hv;exact⟨by have:=he.cnt;omega,by have:=he.tight;omega⟩
 generalize (if qB (zm c)=true then st.1 else (ym st.1 (qp (zm c))).1)=ns1 at *;have hk:=zld h1.good (fs:=[(yp st c).2]) (List.mem_singleton.2 rfl) h1.has;have ht:=h1.tight;refine⟨znA h1.good _,hk.1,fun f=>?_,zhr h1.good _,?_⟩
 ·show Go.Proofs.YtlmmkbnjhilbdaaGreatDoor.Bd.sem (qy (yp st c).1 (qx (yp st c).1 [(yp st c).2])) (yp st c).2 f=_;rw[hk.2 f,h1.sem f,List.all_append];simp
 ·show (qy _ _).length<=_;rw[Zu];omega
theorem zfX(cs:List (List Int))(c:List Int):clF (cs++[c])=Jr (clF cs) c:=by unfold clF;rw[List.foldl_append];rfl
theorem zkF(vars:Nat):zu vars []:=⟨⟨fun j h=>by simp at h,fun j h=>by simp at h,fun j h=>by simp at h,fun j h=>by simp at h⟩,fun i j h=>by simp at h,fun i h=>by simp at h,fun i h=>by simp at h,fun i h=>by simp at h⟩
theorem zkW(vars:Nat):ClR vars [] ([],1) :=
 ⟨zkF vars,xE _,fun f=>by rw[Zj];rfl,by show cnt []+1<=_;have:=Nat.one_le_two_pow (n:=vars);simpa[cnt] using this,Nat.zero_le _⟩
theorem zbg{vars:Nat}(h12:vars<=12)(cs:List (List Int))(hl:qs vars cs):∀k,k<=cs.length->ClR vars (cs.take k) (clF (cs.take k))
 |0,_=>by rw[List.take_zero];exact zkW vars
 |k+1,hk=>by
  have ih:=zbg h12 cs hl k (by omega);rw[List.take_succ_eq_append_getElem (by omega),zfX];exact zoW ih h12 (hl _ (List.getElem_mem _))
theorem zf8{vals:Nat}{x:Int}(h:zO 24 x=true):xw (xQ vals) x=XW vals x:=by
 have h0:=qG.1 h;unfold xw XW xL xQ zP;rw[h,Bool.true_and]
 by_cases hp:0<x
 ·rw[if_pos hp,decide_eq_true hp,show x.natAbs-1=x.toNat-1 by omega];simp
 ·rw[if_neg hp,decide_eq_false hp,show x.natAbs-1=(-x).toNat-1 by omega];cases vals.testBit ((-x).toNat-1)<;>rfl
theorem zeb{vals:Nat}{c:List Int}(h:zY 24 c):clS (xQ vals) c=Xq vals c:=by
 unfold clS Xq;rw[Bool.eq_iff_iff,List.any_eq_true,List.any_eq_true];exact⟨fun⟨x,h1,h2⟩=>⟨x,h1,by rw[<-zf8 (h x h1)];exact h2⟩,fun⟨x,h1,h2⟩=>⟨x,h1,by rw[zf8 (h x h1)];exact h2⟩⟩
end Bd
namespace Bd
open Go.RowKit Go.Maps
structure zo(B:Nat)(w:World)(s b:Nat)(O:Nat->Prop)(vars:Nat)(room:Int)(ns:List Nd):Prop where
 arena:∃bm v L next,zD B w b bm v ns L room next/\ZA ns L/\(∃i:Nat,next=2+(i:Int)/\i<=ns.length/\∀j,j<i->(nd ns j).v<24)/\(∀k,Own b bm v k->O k)
 own:∀k,O k->B<=k/\k<w.heap.size
 sO:¬O s
 slt:s<w.heap.size
 c0:w.cell? ⟨s,0,none⟩=some (.pointer (some ⟨b,0,none⟩))
 c1:w.cell? ⟨s,1,none⟩=some (.int .i64 vars)
def qo(w:World)(k:Nat):Prop:=∃o:Obj,w.heap[k]?=some o/\o.isCells=true
theorem qo.lt{w:World}{k:Nat}(h:qo w k):k<w.heap.size:=by
 obtain⟨o,h1,-⟩:=h;exact(Array.getElem?_eq_some_iff.1 h1).1
theorem qo.kept{w w':World}{S:Nat->Prop}{k:Nat}(h:qo w k)(hk:ze S w w')(hn:¬S k):qo w' k:=by
 obtain⟨o,h1,h2⟩:=h;exact⟨o,(hk.block k (Array.getElem?_eq_some_iff.1 h1).1 hn).trans h1,h2⟩
theorem qo.below{w w':World}{k:Nat}(h:qo w k)(hb:zB w w'):qo w' k:=h.kept (ze.of_below hb (fun _=>False)) (fun h=>h)
theorem zku{w:World}{a:Addr}{v:Value}(h:w.cell? a=some v):qo w a.block:=by
 unfold World.cell? at h;cases e:w.heap[a.block]? with
 |none=>rw[e] at h;cases h
 |some o =>rw[e] at h;cases o<;>first|exact⟨_,e,rfl⟩|cases h
theorem zcS{w:World}{P:Program}{k:TypeId}{R:Value->Option (DataW Unit × List MemPlace)}{bm n:Nat}{D:DataW Unit}(h:w.ownsMap P k R bm n D):¬qo w bm:=by
 obtain⟨es,clock,hb,-⟩:=h;rintro⟨o,h1,h2⟩;rw[hb] at h1;cases h1;cases h2
theorem zhi{W:World}{B t k n:Nat}{v:Value}{cs:List Value}(h:W.ownsRow B t k v n cs):∀(j:Nat) (o:Obj),v.ownBlock=some j->W.heap[j]?=some o->o.isCells=true:=by
 intro j o hj ho;rcases h.2 with ⟨rfl,_⟩|⟨g,cap,cur,rfl,_,hg,_⟩
 ·simp[Value.ownBlock] at hj
 ·simp only[Value.ownBlock,Option.some.injEq] at hj;subst hj;rw[hg] at ho;cases ho;rfl
theorem zoI{W:World}{B t k n:Nat}{v:Value}{cs:List Value}(h:W.ownsRow B t k v n cs){j:Nat}(hj:v.ownBlock=some j):qo W j:=by
 have hl:=(h.lt j hj).2;obtain⟨o,ho⟩:∃o,W.heap[j]?=some o:=⟨_,Array.getElem?_eq_getElem hl⟩;exact⟨o,ho,zhi h j o hj ho⟩
structure zJ(O O':Nat->Prop)(w w':World):Prop where
 kept:ze O w w'
 own:∀k,O' k->O k\/w.heap.size<=k
 map:∀k,O' k->qo w' k\/(O k/\¬qo w k)
section
variable {B s b:Nat} {O O' O'':Nat->Prop} {vars:Nat} {room:Int} {ns:List Nd} {w w' w'':World}
theorem zo.kept{S:Nat->Prop}(h:zo B w s b O vars room ns)(hk:ze S w w')(hn:∀k,O k->¬S k)(hs:¬S s):zo B w' s b O vars room ns:=by
 obtain⟨bm,v,L,next,hA,hB,hN,hO⟩:=h.arena;exact ⟨⟨bm,v,L,next,hA.kept hk (fun k hk=>hn k (hO k hk)),hB,hN,hO⟩,fun k hk'=>⟨(h.own k hk').1,Nat.lt_of_lt_of_le (h.own k hk').2 hk.size⟩,h.sO,Nat.lt_of_lt_of_le h.slt hk.size,
  (hk.cell (a:=⟨s,0,none⟩) h.slt hs).trans h.c0,(hk.cell (a:=⟨s,1,none⟩) h.slt hs).trans h.c1⟩
theorem zo.new(h:zo B w s b O vars room ns)(hb:zB w w'):zo B w' s b O vars room ns:=h.kept (ze.of_below hb (fun _=>False)) (fun _ _ h=>h) (fun h=>h)
theorem zo.old(h:zo B w s b O vars room ns){j:Nat}(hj:w.heap.size<=j):¬O j:=fun ho=>by have:=(h.own j ho).2;omega
theorem zJ.refl(O:Nat->Prop)(w:World):zJ O O w w:=⟨ze.refl _ _,fun _ h=>.inl h,fun k h=>(Classical.em (qo w k)).imp id (fun n=>⟨h,n⟩)⟩
theorem zJ.of_below(O:Nat->Prop)(hb:zB w w'):zJ O O w w':=⟨ze.of_below hb _,fun _ h=>.inl h,fun k h=>(Classical.em (qo w k)).imp (fun c=>c.below hb) (fun n=>⟨h,n⟩)⟩
theorem zJ.trans(h:zJ O O' w w')(k:zJ O' O'' w' w''):zJ O O'' w w'' :=
 ⟨h.kept.andThen k.kept (fun i hi hlt=>(h.own i hi).elim id (fun h=>by omega)),fun i hi=>by
  rcases k.own i hi with h1|h1
  ·exact h.own i h1
  ·exact .inr (Nat.le_trans h.kept.size h1),fun i hi=>by
  rcases k.map i hi with h1|⟨h1,h2⟩
  ·exact .inl h1
  ·rcases h.map i h1 with h3|h3
   ·exact absurd h3 h2
   ·exact .inr h3⟩
theorem zJ.size(h:zJ O O' w w'):w.heap.size<=w'.heap.size:=h.kept.size
theorem zJ.cell(h:zJ O O' w w'){a:Addr}(hlt:a.block<w.heap.size)(hn:¬O a.block):w'.cell? a=w.cell? a:=h.kept.cell hlt hn
theorem zJ.beside(h:zJ O O' w w'){j:Nat}(hlt:j<w.heap.size)(hn:¬O j):¬O' j:=fun ho=>by
 rcases h.own j ho with h1|h1
 ·exact hn h1
 ·omega
theorem zJ.below{B:Nat}(h:zJ O O' w w')(hB:B<=w.heap.size)(ho:∀k,O k->B<=k):Below B w w':=h.kept.below hB ho
theorem zo.moved{bm:Nat}{v v':Value}{ns':List Nd}{L':List (Nd × Int)}{next':Int}(h:zo B w s b O vars room ns)(hbm0:¬qo w bm)(hO:∀k,Own b bm v k->O k)(hA:zD B w' b bm v' ns' L' room next')(hB:ZA ns' L')(hN:∃i:Nat,next'=2+(i:Int)/\i<=ns'.length/\∀j,j<i->(nd ns' j).v<24)
  (hk:ze (Own b bm v) w w') (hv:v'.ownBlock=v.ownBlock\/∃g,v'.ownBlock=some g/\w.heap.size<=g):∃O',zo B w' s b O' vars room ns'/\zJ O O' w w':=by
 have hs:¬Own b bm v s:=fun ho=>h.sO (hO s ho);obtain⟨D,hD,-⟩:=hA.hmap;have hbm:=hD.lt;refine⟨Own b bm v',⟨⟨bm,v',L',next',hA,hB,hN,fun _ h=>h⟩,?_,?_,Nat.lt_of_lt_of_le h.slt hk.size,(hk.cell (a:=⟨s,0,none⟩) h.slt hs).trans h.c0,(hk.cell (a:=⟨s,1,none⟩) h.slt hs).trans h.c1⟩,hk.mono hO,?_,?_⟩
 ·rintro k (e|e|e)
  ·have:=h.own k (hO k (.inl e));exact⟨this.1,Nat.lt_of_lt_of_le this.2 hk.size⟩
  ·have:=h.own k (hO k (.inr (.inl e)));exact⟨this.1,Nat.lt_of_lt_of_le this.2 hk.size⟩
  ·exact hA.row.lt k e
 ·rintro (e|e|e)
  ·exact h.sO (hO s (.inl e))
  ·exact h.sO (hO s (.inr (.inl e)))
  ·rcases hv with h1|⟨g,h1,h2⟩
   ·exact h.sO (hO s (.inr (.inr (by rw[<-h1];exact e))))
   ·rw[h1] at e;cases e;have:=h.slt;omega
 ·rintro k (e|e|e)
  ·exact .inl (hO k (.inl e))
  ·exact .inl (hO k (.inr (.inl e)))
  ·rcases hv with h1|⟨g,h1,h2⟩
   ·exact .inl (hO k (.inr (.inr (by rw[<-h1];exact e))))
   ·rw[h1] at e;cases e;exact .inr h2
 ·rintro k (e|e|e)
  ·rw[e];exact .inl (zku hA.croom)
  ·rw[e];exact .inr ⟨hO bm (.inr (.inl rfl)),hbm0⟩
  ·exact .inl (zoI hA.row e)
theorem zcU:∀ns:List Nd,(Yo ns).length=cnt ns:=by
 intro ns;unfold Yo cnt;have key:(ns.map fun n=>decide (n.v<24))=(List.range ns.length).map fun i=>decide ((nd ns i).v<24):=by
  apply List.ext_getElem (by simp);intro i h1 h2;simp at h1 h2;simp[ZS ns i h1]
 rw[<-List.countP_eq_length_filter,<-List.countP_eq_length_filter];have e1:List.countP (fun n:Nd=>decide (n.v<24)) ns=List.countP (fun b:Bool=>b) (ns.map fun n=>decide (n.v<24)):=by rw[List.countP_map];rfl
 have e2:List.countP (fun i=>decide ((nd ns i).v<24)) (List.range ns.length)=List.countP (fun b:Bool=>b) ((List.range ns.length).map fun i=>decide ((nd ns i).v<24)):=by rw[List.countP_map];rfl
 rw[e1,e2,key]
theorem zok(hS:zo B w s b O vars room ns)(hl:ns.length<=90000)(hroom:(cnt ns:Int)<room)(hB:B<=w.heap.size)(n:Nd)(hn:n.Ok)(hf:Fit ns n) :
  zC 218 #[.pointer (some ⟨b,0,none⟩),n.val] w fun e w'=>e=.returned (.tuple #[.int .i64 (Zn ns n).2,.nilIface])/\∃O',zo B w' s b O' vars room (Zn ns n).1/\zJ O O' w w':=by
 obtain⟨bm,v,L,next,hA,hBk,⟨i,hi1,hi2,hi3⟩,hO⟩:=hS.arena;have hLl:L.length<=ns.length:=by rw[X4 hBk];exact zfY ns
 have hLc:L.length<=cnt ns:=by rw[X4 hBk];exact Nat.le_of_eq (zcU ns)
 unfold Zn
 by_cases c:idx ns n<ns.length
 ·rw[if_pos c];have hin:(n,2+(idx ns n:Int))∈L:=by
   have:=hBk.all _ c (by rw[XE c];exact hf.v1)
   rwa [XE c] at this
  exact(zk6 hA (by omega) n hn hf _ hin).mono fun e w' ⟨he,hb⟩=>⟨he,O,hS.new hb,zJ.of_below O hb⟩
 ·rw[if_neg c];have hnin:n∉L.map Prod.fst:=fun h=>by
   obtain⟨p,hp,rfl⟩:=List.mem_map.1 h;obtain⟨j,hj,-,rfl⟩:=hBk.mem p hp;exact zdH c hj rfl
  refine(ziE hA (by omega) n hn hf hnin (by omega) (by omega) i hi1 hi2 hB).mono ?_;rintro e w' ⟨k,v',rfl,hk,hocc,hfree,hA',hK,hv⟩;have hocc':∀j,j<k->(nd ns j).v<24:=fun j hj=>by
   by_cases h:j<i
   ·exact hi3 j h
   ·exact hocc j (by omega) hj
  obtain rfl:k=ql ns:=zhK hk hocc' hfree;refine⟨rfl,hS.moved (by obtain⟨D0,hD0,-⟩:=hA.hmap;exact zcS hD0) hO hA' (ziM hBk hk hfree hf.v1 hnin) ⟨ql ns,rfl,?_,fun j hj=>?_⟩ hK hv⟩
  ·have:=(JN (n:=n) hk).2;exact Nat.le_trans hk this
  ·show (nd (qt ns (ql ns) n) j).v<24;rw[x9 hk j (by omega),if_neg (by omega)];exact hocc' j hj
theorem zce(hS:zo B w s b O vars room ns)(h:Int)(hi:I64 h)(hl:ns.length<=90000) :
  zC 64 #[.pointer (some ⟨b,0,none⟩),.int .i64 h] w fun e w'=>e=.returned (.bool (zj ns h))/\w=w':=by
 obtain⟨bm,v,L,next,hA,-⟩:=hS.arena;exact KM hA h hi (by omega)
theorem zbM(hS:zo B w s b O vars room ns)(h:Int)(hi:I64 h)(hl:ns.length<=90000) :
  zC 65 #[.pointer (some ⟨b,0,none⟩),.int .i64 h] w fun e w'=>e=.returned (.int .i64 (zb ns h))/\w=w':=by
 obtain⟨bm,v,L,next,hA,-⟩:=hS.arena;exact XC hA h hi (by omega)
theorem Q9(hS:zo B w s b O vars room ns)(h:Int)(hi:I64 h)(hl:ns.length<=90000) :
  zR 103 #[.pointer (some ⟨b,0,none⟩),.int .i64 h] w (.tuple #[(zl ns h).val,.bool (decide (zb ns h≠24))]):=by
 obtain⟨bm,v,L,next,hA,-⟩:=hS.arena;exact XT hA h hi (by omega)
theorem zmo(hS:zo B w s b O vars room ns)(hr:qg ns)(hl:ns.length<=90000)(hB:B<=w.heap.size)(bf:Nat){cp:Nat}(fs:List Int)(hF:xZ w bf fs)(hfl:fs.length<=1000) :
  zC 101 #[.pointer (some ⟨b,0,none⟩),.slice (some ⟨bf,0,none⟩) fs.length cp] w fun e w'=>∃n:Int,e=.returned (.int .i64 n)/\∃O',zo B w' s b O' vars room (qy ns (qx ns fs))/\zJ O O' w w':=by
 obtain⟨bm,v,L,next,hA,hBk,-,hO⟩:=hS.arena;have hLl:L.length<=ns.length:=by rw[X4 hBk];exact zfY ns
 refine(zke hr hBk (by omega) hA bf fs hF hfl hB (by omega)).mono ?_;rintro e w' ⟨rfl,hA',hK⟩;exact⟨_,rfl,hS.moved (by obtain⟨D0,hD0,-⟩:=hA.hmap;exact zcS hD0) hO hA' (zhD hBk) ⟨0,rfl,Nat.zero_le _,fun j h=>by omega⟩ hK (.inl rfl)⟩
end
end Bd
end Go.Proofs.YtlmmkbnjhilbdaaGreatDoor
