/- node, sides, present, variable, begin. -/
import Derived.Test.YtiihalknffbjpaaGreatDoorPfForm
import Derived.RangeFuncOwn
namespace Go.Proofs.YtiihalknffbjpaaGreatDoor
set_option maxHeartbeats 1000000
set_option maxRecDepth 100000
section
open Go.RowKit
theorem zsf{c:List Int}(hl:zfH 24 c):zxq c↔zaD (zai c)=true:=(zjN hl).symm
end
namespace Bd
open Go.RowKit Go.Maps
def zdH(m:List Bool):Nat:=m.countP id
theorem zhm:∀(m:List Bool) (i:Nat),zdH (m.set i true)<=zdH m+1
 |[],_=>by simp[zdH]
 |a :: m,0=>by unfold zdH;simp only[List.set_cons_zero,List.countP_cons];split<;>split<;>simp<;>omega
 |a :: m,i+1=>by
  have:=zhm m i;unfold zdH at *;simp only[List.set_cons_succ,List.countP_cons];omega
theorem ze3{vars:Nat}{ns:List Nd}(hg:zcI vars ns):∀(d:Nat) (h:Int) (m:List Bool),zdH (za9 d ns h m)+1<=zdH m+2^((vars:Int)-zaa ns h).toNat
 |0,h,m=>by have:=Nat.one_le_two_pow (n:=((vars:Int)-zaa ns h).toNat);unfold za9;omega
 |d+1,h,m=>by
  have h1:=Nat.one_le_two_pow (n:=((vars:Int)-zaa ns h).toNat);unfold za9;split
  ·omega
  ·rename_i hn;have ht:=(not_or.1 hn).1;have hv:=zfW hg ht;obtain⟨k1,-,k2,-⟩:=znP hg.ranked ht;have e:(h-2).toNat=pl h:=rfl;rw[e];have i1:=ze3 hg d (nd ns (pl h)).l (m.set (pl h) true);have i2:=ze3 hg d (nd ns (pl h)).h (za9 d ns (nd ns (pl h)).l (m.set (pl h) true));have i0:=zhm m (pl h);have hp:2^((vars:Int)-zaa ns h).toNat=2^(((vars:Int)-zaa ns h).toNat-1)+2^(((vars:Int)-zaa ns h).toNat-1):=by
    obtain⟨q,hq⟩:∃q,((vars:Int)-zaa ns h).toNat=q+1:=⟨((vars:Int)-zaa ns h).toNat-1,by omega⟩;rw[hq,Nat.add_sub_cancel,Nat.pow_succ];omega
   have p1:2^((vars:Int)-zaa ns (nd ns (pl h)).l).toNat<=2^(((vars:Int)-zaa ns h).toNat-1):=Nat.pow_le_pow_right (by omega) (by omega);have p2:2^((vars:Int)-zaa ns (nd ns (pl h)).h).toNat<=2^(((vars:Int)-zaa ns h).toNat-1):=Nat.pow_le_pow_right (by omega) (by omega);omega
theorem zi4{ns:List Nd}{M:List Bool}(hl:M.length=ns.length):cnt (zbB ns M)<=zdH M:=by
 unfold cnt zbB zdH;rw[<-List.countP_eq_length_filter,List.countP_map];have e:M=(List.range ns.length).map fun i=>mk M i:=by
  apply List.ext_getElem (by simp[hl]);intro i h1 h2;simp[zvA M i h1]
 conv=>rhs;rw[e,List.countP_map]
 refine List.countP_mono_left fun i _ h=>?_
 by_cases hm:mk M i=true
 ·exact hm
 ·simp[Function.comp,hm] at h
theorem zoA{vars:Nat}{ns:List Nd}(hg:zcI vars ns)(h:Int):cnt (zbB ns (zax ns [h]))+1<=2^vars:=by
 have h1:=zi4 (zcR ns [h]);have h2:=ze3 hg 24 h (List.replicate ns.length false);have h3:zdH (List.replicate ns.length false)=0:=by
  unfold zdH;rw[List.countP_eq_zero];intro b hb;rw[(List.mem_replicate.1 hb).2];simp
 have h4:zax ns [h]=za9 24 ns h (List.replicate ns.length false):=rfl;rw[<-h4,h3] at h2;have h5:2^((vars:Int)-zaa ns h).toNat<=2^vars:=Nat.pow_le_pow_right (by omega) (by have:=(zar hg.ranked h).1;omega);omega
def zcV(x:Int):Nat:=x.natAbs-1
def zkd(f:Nat->Bool)(x:Int):Bool:=f (zcV x)==decide (0<x)
def clS(f:Nat->Bool)(c:List Int):Bool:=c.any (zkd f)
theorem zdY(ns:List Nd)(n:Nd):zaa (zfE ns n).1 (zfE ns n).2=n.v/\nd (zfE ns n).1 (pl (zfE ns n).2)=n:=by
 unfold zfE
 by_cases c:idx ns n<ns.length
 ·rw[if_pos c];have hp:pl (2+(idx ns n:Int))=idx ns n:=by unfold pl;omega
  exact⟨by show zaa ns (2+(idx ns n:Int))=_;rw[zdh c,ziZ c],by show nd ns (pl (2+(idx ns n:Int)))=n;rw[hp,ziZ c]⟩
 ·rw[if_neg c];have hp:pl (2+(zbo ns:Int))=zbo ns:=by unfold pl;omega
  exact⟨zi2 (zcO ns),by show nd (zdT ns (zbo ns) n) (pl (2+(zbo ns:Int)))=n;rw[hp,zb9 (zcO ns) _ (.inr rfl),if_pos rfl]⟩
theorem zpu(ns:List Nd)(v:Int)(is:Bool):zaa (zj0 ns v is).1 (zj0 ns v is).2=v/\(nd (zj0 ns v is).1 (pl (zj0 ns v is).2)=⟨v,0,1⟩\/nd (zj0 ns v is).1 (pl (zj0 ns v is).2)=⟨v,1,0⟩):=by
 unfold zj0 zcE;cases is with
 |true=>simp only[if_true];rw[if_neg (by omega)];exact⟨(zdY ns ⟨v,0,1⟩).1,.inl (zdY ns ⟨v,0,1⟩).2⟩
 |false=>simp only[Bool.false_eq_true,if_false];rw[if_neg (by omega)];exact⟨(zdY ns ⟨v,1,0⟩).1,.inr (zdY ns ⟨v,1,0⟩).2⟩
theorem zma{vars:Nat}{ns:List Nd}(hg:zcI vars ns){v:Int}(is:Bool)(hv0:0<=v)(hv:v<(vars:Int))(hv24:v<24)(hl:ns.length<=900000):cnt (zj0 ns v is).1<=cnt ns+1/\(zj0 ns v is).1.length<=max ns.length (cnt ns+1):=by
 unfold zj0;cases is with
 |true =>simp only[if_true];have h:=zde hg (v:=v) (l:=0) (h:=1) hl hv0 hv24 hv (zcd ns) (zbg ns) (by rw[zdZ];exact hv24) (by rw[zdt];exact hv24);exact⟨h.cnt,h.tight⟩
 |false =>simp only[Bool.false_eq_true,if_false];have h:=zde hg (v:=v) (l:=1) (h:=0) hl hv0 hv24 hv (zbg ns) (zcd ns) (by rw[zdt];exact hv24) (by rw[zdZ];exact hv24);exact⟨h.cnt,h.tight⟩
def chn:Nat->List Nd->Int->Prop
 |0,_,_=>True
 |d+1,ns,h=>zaa ns h=24\/(nd ns (pl h)).l=1/\chn d ns (nd ns (pl h)).h\/(nd ns (pl h)).h=1/\chn d ns (nd ns (pl h)).l
theorem zjh{f:Nat->Bool}{v:Nat}{b:Bool}{x:Int}(h:zcV x=v):zkd (turn f v b) x=(b==decide (0<x)):=by unfold zkd;rw[h,zhQ]
theorem zhA{f:Nat->Bool}{v:Nat}{b:Bool}{x:Int}(h:zcV x≠v):zkd (turn f v b) x=zkd f x:=by unfold zkd;rw[zeA _ _ h]
theorem zkq{f:Nat->Bool}{v:Nat}{b:Bool}{ys:List Int}(h:∃x∈ys,zcV x=v/\decide (0<x)=b):clS (turn f v b) ys=true:=by
 obtain⟨x,h1,h2,h3⟩:=h;unfold clS;rw[List.any_eq_true];exact⟨x,h1,by rw[zjh h2,h3];simp⟩
theorem zf7{f:Nat->Bool}{v:Nat}{b:Bool}{ys:List Int}(h:¬∃x∈ys,zcV x=v/\decide (0<x)=b):clS (turn f v b) ys=clS f (ys.filter fun x=>decide (zcV x≠v)):=by
 unfold clS;rw[Bool.eq_iff_iff,List.any_eq_true,List.any_eq_true];constructor
 ·rintro⟨x,h1,h2⟩
  by_cases e:zcV x=v
  ·rw[zjh e] at h2;exact absurd ⟨x,h1,e,by simpa using (beq_iff_eq.1 h2).symm⟩ h
  ·exact⟨x,List.mem_filter.2 ⟨h1,by simpa using e⟩,by rw[zhA e] at h2;exact h2⟩
 ·rintro⟨x,h1,h2⟩;obtain⟨h3,h4⟩:=List.mem_filter.1 h1;exact⟨x,h3,by rw[zhA (by simpa using h4)];exact h2⟩
theorem zp5{vars:Nat}{ns:List Nd}(hg:zcI vars ns){h:Int}(ht:zaa ns h≠24)(f:Nat->Bool)(b:Bool):sem ns (if b=true then (nd ns (pl h)).h else (nd ns (pl h)).l) f=sem ns h (turn f (zaa ns h).toNat b):=by
 obtain⟨k1,-,k2,-⟩:=znP hg.ranked ht;have h0:=(zar hg.ranked h).1;rw[zeC hg.ranked ht,zhQ];cases b
 ·simp only[Bool.false_eq_true,if_false];exact zcD hg.ranked (fun i hi=>(zeA _ _ (by omega)).symm)
 ·simp only[if_true];exact zcD hg.ranked (fun i hi=>(zeA _ _ (by omega)).symm)
theorem zn9{vars:Nat}{ns:List Nd}(hg:zcI vars ns):∀(d:Nat) (h:Int) (ys:List Int),zaV ns h=true->(∀f,sem ns h f=clS f ys)->chn d ns h
 |0,_,_,_,_=>trivial
 |d+1,h,ys,hh,hs=>by
  unfold chn
  by_cases ht:zaa ns h=24
  ·exact .inl ht
  ·right;obtain⟨-,hl1,-,hh1⟩:=znP hg.ranked ht;obtain⟨-,hp,-,-⟩:=zbL ht;have hv:=zjO hg.ranked ht;have hne:(nd ns (pl h)).l≠(nd ns (pl h)).h:=hg.red _ hp (by rw[<-(zbL ht).2.2.1];exact hv);have slo:∀f,sem ns (nd ns (pl h)).l f=clS (turn f (zaa ns h).toNat false) ys:=fun f=>by rw[<-hs];exact zp5 hg ht f false
   have shi:∀f,sem ns (nd ns (pl h)).h f=clS (turn f (zaa ns h).toNat true) ys:=fun f=>by rw[<-hs];exact zp5 hg ht f true
   by_cases P:∃x∈ys,zcV x=(zaa ns h).toNat/\decide (0<x)=true
   ·have h1:(nd ns (pl h)).h=1:=zdr hg hh1 (zbg ns) (fun f=>by rw[shi f,zkq P,zbW])
    by_cases N:∃x∈ys,zcV x=(zaa ns h).toNat/\decide (0<x)=false
    ·exact absurd ((zdr hg hl1 (zbg ns) (fun f=>by rw[slo f,zkq N,zbW])).trans h1.symm) hne
    ·exact .inr ⟨h1,zn9 hg d _ _ hl1 (fun f=>by rw[slo f,zf7 N])⟩
   ·by_cases N:∃x∈ys,zcV x=(zaa ns h).toNat/\decide (0<x)=false
    ·exact .inl ⟨zdr hg hl1 (zbg ns) (fun f=>by rw[slo f,zkq N,zbW]),zn9 hg d _ _ hh1 (fun f=>by rw[shi f,zf7 P])⟩
    ·exact absurd (zdr hg hl1 hh1 (fun f=>by rw[slo f,shi f,zf7 N,zf7 P])) hne
theorem zd4{d:Nat}{ns:List Nd}{m:List (Nd × Int)}{k:Nd}(h:∃y,za1 true k=some y):(zak d true ns m k).1=ns/\(zak d true ns m k).2.1=m:=by
 obtain⟨y,hy⟩:=h;cases d with
 |zero=>unfold zak;exact⟨rfl,rfl⟩
 |succ d=>unfold zak;rw[hy];exact⟨rfl,rfl⟩
theorem zlm(z:Int):∃y,za1 true ⟨1,1,z⟩=some y:=⟨1,by unfold za1;rw[if_pos rfl];unfold zha;rw[if_pos (.inl rfl)]⟩
theorem zlY(z:Int):∃y,za1 true ⟨z,1,1⟩=some y:=⟨1,by unfold za1;rw[if_pos rfl];unfold zha;rw[if_pos (.inr rfl)]⟩
theorem zlH(z:Int):∃y,za1 true ⟨0,1,z⟩=some y:=by
 unfold za1;rw[if_pos rfl];unfold zha
 by_cases h:(1:Int)=z
 ·exact⟨1,by rw[if_pos (.inr h)]⟩
 ·exact⟨z,by rw[if_neg (by rintro (h'|h');cases h';exact h h'),if_pos rfl]⟩
theorem zn5{vars:Nat}{x v:Int}(hv24:v<24):∀(d:Nat) (ns:List Nd) (m:List (Nd × Int)) (out:Int),zcI vars ns->zeP true ns m->zaa ns x=v->(nd ns (pl x)=⟨v,0,1⟩\/nd ns (pl x)=⟨v,1,0⟩)->zaV ns out=true->chn d ns out->24<=zaz ns ⟨x,1,out⟩+d->ns.length+2*2^vars<=900000 ->
  cnt (zak d true ns m ⟨x,1,out⟩).1<=cnt ns+d/\(zak d true ns m ⟨x,1,out⟩).1.length<=max ns.length (cnt ns+d)
 |0,ns,m,out,_,_,_,_,_,_,_,_=>by unfold zak;exact⟨Nat.le_refl _,Nat.le_max_left _ _⟩
 |d+1,ns,m,out,hg,hm,hx,hn,ho,hc,hd,hl=>by
  have stay:cnt ns<=cnt ns+(d+1)/\ns.length<=max ns.length (cnt ns+(d+1)):=⟨by omega,Nat.le_max_left _ _⟩;have t1:=zdt ns;have hone:=Nat.one_le_two_pow (n:=vars);have hxh:zaV ns x=true:=by unfold zaV;rw[hx];simp[hv24]
  have h3:zhM ns ⟨x,1,out⟩:=⟨hxh,zbg ns,ho⟩;unfold zak;cases e:za1 true ⟨x,1,out⟩ with
  |some y=>exact stay
  |none =>
   cases e2:look m ⟨x,1,out⟩ with
   |some y=>exact stay
   |none =>
    have hr:=hg.ranked;have hmv:=zcY hr h3 e;have hmv0:=(zdQ hr ⟨x,1,out⟩).1;have hvv:=zge hg hmv;obtain⟨m1,-,m3⟩:=zgI ns ⟨x,1,out⟩;simp only at m1 m3;obtain⟨l3,lt⟩:=zkI hr h3 hmv;obtain⟨g3,gt⟩:=zj4 hr h3 hmv;have hp1:=zqr (vars:=vars) hr (loK ns ⟨x,1,out⟩ (zaz ns ⟨x,1,out⟩));have i1:=zcs (op:=true) (vars:=vars) d ns m _ hg hm l3 (by omega) (by omega);have g3':=g3.ext i1.ext;have gm:=zeL g3 i1.ext;have hp2:=zqr (vars:=vars) i1.good.ranked (hiK ns ⟨x,1,out⟩ (zaz ns ⟨x,1,out⟩));have l1:=i1.len;have i2:=zcs (op:=true) (vars:=vars) d _ _ _ i1.good i1.memo g3' (by rw[gm];omega) (by omega);have l2:=i2.len;have h1':=i2.ext.has _ i1.has;have t1':=i2.ext.top _ i1.has;have hvM:zaz ns ⟨x,1,out⟩=v\/(zaz ns ⟨x,1,out⟩≠v/\zaz ns ⟨x,1,out⟩=zaa ns out):=by unfold zaz;simp only;rw[hx,t1];omega
    have lo1:loS ns 1 (zaz ns ⟨x,1,out⟩)=1:=by unfold loS;rw[if_neg (by omega)]
    have hi1:hiS ns 1 (zaz ns ⟨x,1,out⟩)=1:=by unfold hiS;rw[if_neg (by omega)]
    have hb:cnt (zak d true (zak d true ns m (loK ns ⟨x,1,out⟩ (zaz ns ⟨x,1,out⟩))).1 (zak d true ns m (loK ns ⟨x,1,out⟩ (zaz ns ⟨x,1,out⟩))).2.1 (hiK ns ⟨x,1,out⟩ (zaz ns ⟨x,1,out⟩))).1<=cnt ns+d /\
      (zak d true (zak d true ns m (loK ns ⟨x,1,out⟩ (zaz ns ⟨x,1,out⟩))).1 (zak d true ns m (loK ns ⟨x,1,out⟩ (zaz ns ⟨x,1,out⟩))).2.1 (hiK ns ⟨x,1,out⟩ (zaz ns ⟨x,1,out⟩))).1.length<=max ns.length (cnt ns+d):=by
     rcases hvM with hv|⟨hv,ht⟩
     ·have kl:∃y,za1 true (loK ns ⟨x,1,out⟩ (zaz ns ⟨x,1,out⟩))=some y:=by
       unfold loK;simp only;rw[lo1,show loS ns x (zaz ns ⟨x,1,out⟩)=(nd ns (pl x)).l by unfold loS;rw[if_pos (by omega)]];rcases hn with hn|hn<;>rw[hn]
       ·exact zlH _
       ·exact zlm _
      have kh:∃y,za1 true (hiK ns ⟨x,1,out⟩ (zaz ns ⟨x,1,out⟩))=some y:=by
       unfold hiK;simp only;rw[hi1,show hiS ns x (zaz ns ⟨x,1,out⟩)=(nd ns (pl x)).h by unfold hiS;rw[if_pos (by omega)]];rcases hn with hn|hn<;>rw[hn]
       ·exact zlm _
       ·exact zlH _
      rw[(zd4 kl).1,(zd4 kl).2,(zd4 kh).1];exact⟨by omega,Nat.le_max_left _ _⟩
     ·have htn:zaa ns out≠24:=by omega
      have lox:loS ns x (zaz ns ⟨x,1,out⟩)=x:=by unfold loS;rw[if_neg (by omega)]
      have hix:hiS ns x (zaz ns ⟨x,1,out⟩)=x:=by unfold hiS;rw[if_neg (by omega)]
      have loo:loS ns out (zaz ns ⟨x,1,out⟩)=(nd ns (pl out)).l:=by unfold loS;rw[if_pos ht.symm]
      have hio:hiS ns out (zaz ns ⟨x,1,out⟩)=(nd ns (pl out)).h:=by unfold hiS;rw[if_pos ht.symm]
      have el:loK ns ⟨x,1,out⟩ (zaz ns ⟨x,1,out⟩)=⟨x,1,(nd ns (pl out)).l⟩:=by unfold loK;simp only;rw[lox,lo1,loo]
      have eh:hiK ns ⟨x,1,out⟩ (zaz ns ⟨x,1,out⟩)=⟨x,1,(nd ns (pl out)).h⟩:=by unfold hiK;simp only;rw[hix,hi1,hio]
      rw[el] at lt;rw[eh] at gt;obtain⟨-,hl1,-,hh1⟩:=znP hr htn;unfold chn at hc;rcases hc with hc|⟨hc,hk⟩|⟨hc,hk⟩
      ·exact absurd hc htn
      ·have kl:∃y,za1 true (loK ns ⟨x,1,out⟩ (zaz ns ⟨x,1,out⟩))=some y:=by rw[el,hc];exact zlY _
       rw[(zd4 kl).1,(zd4 kl).2,eh];exact zn5 hv24 d ns m _ hg hm hx hn hh1 hk (by omega) hl
      ·have kh:∃y,za1 true (hiK ns ⟨x,1,out⟩ (zaz ns ⟨x,1,out⟩))=some y:=by rw[eh,hc];exact zlY _
       rw[(zd4 kh).1,el];exact zn5 hv24 d ns m _ hg hm hx hn hl1 hk (by omega) hl
    have h:=zde i2.good (v:=zaz ns ⟨x,1,out⟩) (by omega) hmv0 hmv hvv h1' i2.has (by rw[t1'];have:=i1.top;omega) (by have:=i2.top;rw[gm] at this;omega);have h5:=h.cnt;have h6:=h.tight;exact⟨by show cnt (zcE _ _ _ _).1<=_;omega,by show (zcE _ _ _ _).1.length<=_;omega⟩
structure EiR(vars:Nat)(ns:List Nd)(ys:List Int)(st:List Nd × Int):Prop where
 good:zcI vars st.1
 ext:Ext ns st.1
 has:zaV st.1 st.2=true
 sem:∀f,sem st.1 st.2 f=clS f ys
 cnt:cnt st.1<=cnt ns+25*ys.length
 tight:st.1.length<=max ns.length (Go.Proofs.YtiihalknffbjpaaGreatDoor.Bd.cnt ns+25*ys.length)
theorem zuu{vars:Nat}{ns:List Nd}(hg:zcI vars ns):EiR vars ns [] (ns,0) :=
 ⟨hg,Ext.refl _,zcd ns,fun f=>zbu f,Nat.le_refl _,Nat.le_max_left _ _⟩
def znM(ns:List Nd)(x:Int):List Nd × Int:=zj0 ns (zcV x:Int) (decide (0<x))
def zkH(st:List Nd × Int)(x:Int):List Nd × Int:=zj1 true (znM st.1 x).1 ⟨(znM st.1 x).2,1,st.2⟩
theorem zo3{vars:Nat}{ns:List Nd}(hg:zcI vars ns){x:Int}(hv:zcV x<vars)(h24:vars<=24)(hl:ns.length+2^vars<=900000):OpR vars ns (znM ns x) (fun f=>zkd f x):=by
 have:=zwb hg (v:=(zcV x:Int)) (decide (0<x)) (by omega) (by omega) (by omega) hl;exact⟨this.good,this.ext,this.has,fun f=>by have:=this.sem f;exact this,this.len,this.cnt,this.tight⟩
theorem EiR.step{vars:Nat}{ns:List Nd}{ys:List Int}{st:List Nd × Int}(h:EiR vars ns ys st){x:Int}(hv:zcV x<vars)(h24:vars<=24)(hl:st.1.length+2^vars<=600000)(hpw:2^vars<=100000):EiR vars ns (x :: ys) (zkH st x):=by
 have hone:=Nat.one_le_two_pow (n:=vars);have hL:=zo3 h.good hv h24 (by omega);have hF:=zma h.good (v:=(zcV x:Int)) (decide (0<x)) (by omega) (by omega) (by omega) (by omega);have hN:=zpu st.1 (zcV x:Int) (decide (0<x));have hlen:=hL.len;unfold zkH;unfold znM at *;generalize zj0 st.1 (zcV x:Int) (decide (0<x))=a at *;have ho:zaV a.1 st.2=true:=hL.ext.has _ h.has;have h3:zhM a.1 ⟨a.2,1,st.2⟩:=⟨hL.has,zbg _,ho⟩;have hp:=zqr (vars:=vars) hL.good.ranked ⟨a.2,1,st.2⟩;have hsm:∀f,Go.Proofs.YtiihalknffbjpaaGreatDoor.Bd.sem a.1 st.2 f=clS f ys:=fun f=>by rw[zbK h.good.ranked hL.ext h.has,h.sem f]
 have hmb:=(zdQ hL.good.ranked ⟨a.2,1,st.2⟩).1;have hM:=zcs (op:=true) 24 a.1 [] ⟨a.2,1,st.2⟩ hL.good (zfZ true a.1) h3 (by omega) (by omega);have hO:=zn5 (vars:=vars) (x:=a.2) (v:=(zcV x:Int)) (by omega) 24 a.1 [] st.2 hL.good (zfZ true a.1) hN.1 hN.2 ho (zn9 hL.good 24 st.2 ys ho hsm) (by omega) (by omega);have hc:=h.cnt;have hT:=h.tight;refine⟨hM.good,h.ext.trans (hL.ext.trans hM.ext),hM.has,fun f=>?_,?_,?_⟩
 ·show Go.Proofs.YtiihalknffbjpaaGreatDoor.Bd.sem (zak 24 true a.1 [] ⟨a.2,1,st.2⟩).1 (zak 24 true a.1 [] ⟨a.2,1,st.2⟩).2.2 f=_;rw[hM.sem f];show opS true (Go.Proofs.YtiihalknffbjpaaGreatDoor.Bd.sem a.1 a.2 f) (Go.Proofs.YtiihalknffbjpaaGreatDoor.Bd.sem a.1 1 f) (Go.Proofs.YtiihalknffbjpaaGreatDoor.Bd.sem a.1 st.2 f)=_;rw[zbW,hL.sem f,hsm f];simp only[opS,if_true,clS,List.any_cons];cases zkd f x<;>simp
 ·have:=hO.1;have:=hF.1;rw[List.length_cons];show Go.Proofs.YtiihalknffbjpaaGreatDoor.Bd.cnt (zak 24 true a.1 [] ⟨a.2,1,st.2⟩).1<=_;omega
 ·have:=hO.2;have:=hF.1;have:=hF.2;rw[List.length_cons];show (zak 24 true a.1 [] ⟨a.2,1,st.2⟩).1.length<=_;omega
def zcB(ns:List Nd)(xs:List Int):List Nd × Int:=xs.foldr (fun x st=>zkH st x) (ns,0)
theorem zgr{vars:Nat}{ns:List Nd}(hg:zcI vars ns)(h24:vars<=24)(hl:ns.length+2^vars<=500000)(hc:cnt ns<=400000)(hpw:2^vars<=100000):∀(xs:List Int),xs.length<=100->(∀x∈xs,zcV x<vars)->EiR vars ns xs (zcB ns xs)
 |[],_,_=>zuu hg
 |x :: xs,hn,hx=>by
  have ih:=zgr hg h24 hl hc hpw xs (by simp at hn;omega) (fun y hy=>hx y (List.mem_cons_of_mem _ hy));exact ih.step (hx x (List.mem_cons_self ..)) h24 (by have:=ih.tight;simp at hn;omega) hpw
def zgZ(st:List Nd × Int)(c:List Int):List Nd × Int :=
 if zaD (zai c)=true then zj1 true st.1 ⟨st.2,1,0⟩ else zj1 true (zcB st.1 (zaB (zai c))).1 ⟨st.2,(zcB st.1 (zaB (zai c))).2,0⟩
def zl3(st:List Nd × Int)(c:List Int):List Nd × Int:=(zbB (zgZ st c).1 (zax (zgZ st c).1 [(zgZ st c).2]),(zgZ st c).2)
def clF(cs:List (List Int)):List Nd × Int:=cs.foldl zl3 ([],1)
structure ClR(vars:Nat)(cs:List (List Int))(st:List Nd × Int):Prop where
 good:zcI vars st.1
 has:zaV st.1 st.2=true
 sem:∀f,sem st.1 st.2 f=cs.all (clS f)
 cnt:cnt st.1+1<=2^vars
 len:st.1.length<=2*2^vars+600
theorem zq8{f:Nat->Bool}{c:List Int}(hl:zfH 24 c)(ha:zaD (zai c)=false):clS f (zaB (zai c))=clS f c:=by
 unfold clS;rw[Bool.eq_iff_iff,List.any_eq_true,List.any_eq_true];exact⟨fun⟨x,h1,h2⟩=>⟨x,(zdf hl ha).1 h1,h2⟩,fun⟨x,h1,h2⟩=>⟨x,(zdf hl ha).2 h1,h2⟩⟩
theorem znb{f:Nat->Bool}{c:List Int}(hl:zfH 24 c)(ha:zaD (zai c)=true):clS f c=true:=by
 obtain⟨x,h1,h2⟩:=(zsf hl).2 ha;have h0:=zbx.1 (hl x h1);unfold clS;rw[List.any_eq_true];have e:zcV (-x)=zcV x:=by unfold zcV;omega
 by_cases hx:zkd f x=true
 ·exact⟨x,h1,hx⟩
 ·refine⟨-x,h2,?_⟩;unfold zkd at *;rw[e]
  by_cases hp:0<x
  ·have:¬0 < -x:=by omega
   rw[decide_eq_true hp] at hx;rw[decide_eq_false this];cases hf:f (zcV x)<;>simp[hf] at hx ⊢
  ·have:0 < -x:=by omega
   rw[decide_eq_false hp] at hx;rw[decide_eq_true this];cases hf:f (zcV x)<;>simp[hf] at hx ⊢
theorem zfj{vars:Nat}{x:Int}(h:ziE vars x=true):zcV x<vars:=by
 have:=zbx.1 h;unfold zcV;omega
theorem zgm{vars:Nat}(h:vars<=12):2^vars<=4096:=Nat.pow_le_pow_right (by omega) h
theorem zew(s:Nat × Nat):(zaB s).length<=24:=zec s 24
theorem zfw{vars:Nat}(h24:vars<=24){c:List Int}(hl:zfH vars c):(zaB (zai c)).length<=vars:=by
 have key:∀k,vars+k<=24->zbp (zai c) (vars+k)=zbp (zai c) vars:=by
  intro k
  induction k with
  |zero=>intro _;rfl
  |succ k ih =>
   intro hk;have h1:(zai c).1.testBit (vars+k)=false:=by
    rw[zcF,decide_eq_false_iff_not];rintro⟨-,h⟩;have:=zbx.1 (hl _ h);omega
   have h2:(zai c).2.testBit (vars+k)=false:=by
    rw[zdd,decide_eq_false_iff_not];rintro⟨-,h⟩;have:=zbx.1 (hl _ h);omega
   rw[show vars+(k+1)=(vars+k)+1 by omega,zdE,ih (by omega)];unfold zeS;rw[if_neg (by rw[h1];simp),if_neg (by rw[h2];simp)];simp
 have:=key (24-vars) (by omega);rw[show vars+(24-vars)=24 by omega] at this;show (zbp (zai c) 24).length<=vars;rw[this];exact zec _ _
theorem zsT{vars:Nat}{cs:List (List Int)}{st:List Nd × Int}(h:ClR vars cs st)(h12:vars<=12){c:List Int}(hl:zfH vars c) :
  OpR vars (if zaD (zai c)=true then st.1 else (zcB st.1 (zaB (zai c))).1) (zgZ st c) (fun f=>cs.all (clS f)&&clS f c):=by
 have hp:=zgm h12;have hl24:zfH 24 c:=fun x hx=>zfx (by omega) (hl x hx);have hc:=h.cnt;have hn:=h.len
 by_cases ha:zaD (zai c)=true
 ·unfold zgZ;rw[if_pos ha,if_pos ha];have:=zpQ true h.good (k:=⟨st.2,1,0⟩) ⟨h.has,zbg _,zcd _⟩ (by omega);refine⟨this.good,this.ext,this.has,fun f=>?_,this.len,this.cnt,this.tight⟩;rw[this.sem f,zbW,zbu,h.sem f,znb hl24 ha];simp only[opS,if_true];cases cs.all (clS f)<;>rfl
 ·have ha':zaD (zai c)=false:=by simpa using ha
  have hv:∀x∈zaB (zai c),zcV x<vars:=fun x hx=>zfj (hl x ((zdf hl24 ha').1 hx));have he:=zgr h.good (by omega) (by omega) (by omega) (by omega) (zaB (zai c)) (by have:=zew (zai c);omega) hv;have ht:=he.tight;have hcl:=zew (zai c);unfold zgZ;rw[if_neg ha,if_neg ha];have:=zpQ true he.good (k:=⟨st.2,(zcB st.1 (zaB (zai c))).2,0⟩) ⟨he.ext.has _ h.has,he.has,zcd _⟩ (by omega);refine⟨this.good,this.ext,this.has,fun f=>?_,this.len,this.cnt,this.tight⟩;rw[this.sem f,zbu,zbK h.good.ranked he.ext h.has,h.sem f,he.sem f,zq8 hl24 ha'];simp only[opS,if_true];cases cs.all (clS f)<;>simp
theorem zt8{vars:Nat}{cs:List (List Int)}{st:List Nd × Int}(h:ClR vars cs st)(h12:vars<=12){c:List Int}(hl:zfH vars c):ClR vars (cs++[c]) (zl3 st c):=by
 have h1:=zsT h h12 hl;have hp:=zgm h12;have hl24:zfH 24 c:=fun x hx=>zfx (by omega) (hl x hx);have hc:=h.cnt;have hn:=h.len;have hb:cnt (if zaD (zai c)=true then st.1 else (zcB st.1 (zaB (zai c))).1)<=cnt st.1+600/\(if zaD (zai c)=true then st.1 else (zcB st.1 (zaB (zai c))).1).length<=max st.1.length (cnt st.1+600):=by
  by_cases ha:zaD (zai c)=true
  ·rw[if_pos ha];exact⟨by omega,by omega⟩
  ·rw[if_neg ha];have ha':zaD (zai c)=false:=by simpa using ha
   have hv:∀x∈zaB (zai c),zcV x<vars:=fun x hx=>zfj (hl x ((zdf hl24 ha').1 hx));have hcl:=zew (zai c);have he:=zgr h.good (by omega) (by omega) (by omega) (by omega) (zaB (zai c)) (by omega) hv;exact⟨by have:=he.cnt;omega,by have:=he.tight;omega⟩
 generalize (if zaD (zai c)=true then st.1 else (zcB st.1 (zaB (zai c))).1)=ns1 at *;have hk:=zmz h1.good (fs:=[(zgZ st c).2]) (List.mem_singleton.2 rfl) h1.has;have ht:=h1.tight;refine⟨znw h1.good _,hk.1,fun f=>?_,zoA h1.good _,?_⟩
 ·show Go.Proofs.YtiihalknffbjpaaGreatDoor.Bd.sem (zbB (zgZ st c).1 (zax (zgZ st c).1 [(zgZ st c).2])) (zgZ st c).2 f=_;rw[hk.2 f,h1.sem f,List.all_append];simp
 ·show (zbB _ _).length<=_;rw[zaG];omega
theorem zl6(cs:List (List Int))(c:List Int):clF (cs++[c])=zl3 (clF cs) c:=by unfold clF;rw[List.foldl_append];rfl
theorem zp4(vars:Nat):zcI vars []:=⟨⟨fun j h=>by simp at h,fun j h=>by simp at h,fun j h=>by simp at h,fun j h=>by simp at h⟩,fun i j h=>by simp at h,fun i h=>by simp at h,fun i h=>by simp at h,fun i h=>by simp at h⟩
theorem zt7(vars:Nat):ClR vars [] ([],1) :=
 ⟨zp4 vars,zbg _,fun f=>by rw[zbW];rfl,by show cnt []+1<=_;have:=Nat.one_le_two_pow (n:=vars);simpa[cnt] using this,Nat.zero_le _⟩
theorem zqq{vars:Nat}(h12:vars<=12)(cs:List (List Int))(hl:zed vars cs):∀k,k<=cs.length->ClR vars (cs.take k) (clF (cs.take k))
 |0,_=>by rw[List.take_zero];exact zt7 vars
 |k+1,hk=>by
  have ih:=zqq h12 cs hl k (by omega);rw[List.take_succ_eq_append_getElem (by omega),zl6];exact zt8 ih h12 (hl _ (List.getElem_mem _))
theorem zjb{vals:Nat}{x:Int}(h:ziE 24 x=true):zkd (zaY vals) x=zuC vals x:=by
 have h0:=zbx.1 h;unfold zkd zuC zkF zaY zcV;rw[h,Bool.true_and]
 by_cases hp:0<x
 ·rw[if_pos hp,decide_eq_true hp,show x.natAbs-1=x.toNat-1 by omega];simp
 ·rw[if_neg hp,decide_eq_false hp,show x.natAbs-1=(-x).toNat-1 by omega];cases vals.testBit ((-x).toNat-1)<;>rfl
theorem zlG{vals:Nat}{c:List Int}(h:zfH 24 c):clS (zaY vals) c=zfB vals c:=by
 unfold clS zfB;rw[Bool.eq_iff_iff,List.any_eq_true,List.any_eq_true];exact⟨fun⟨x,h1,h2⟩=>⟨x,h1,by rw[<-zjb (h x h1)];exact h2⟩,fun⟨x,h1,h2⟩=>⟨x,h1,by rw[zjb (h x h1)];exact h2⟩⟩
end Bd
namespace Bd
open Go.RowKit Go.Maps
structure zag(B:Nat)(w:World)(s b:Nat)(O:Nat->Prop)(vars:Nat)(room:Int)(ns:List Nd):Prop where
 arena:∃bm v L next,zam B w b bm v ns L room next/\zqo ns L/\(∃i:Nat,next=2+(i:Int)/\i<=ns.length/\∀j,j<i->(nd ns j).v<24)/\(∀k,Own b bm v k->O k)
 own:∀k,O k->B<=k/\k<w.heap.size
 sO:¬O s
 slt:s<w.heap.size
 c0:w.cell? ⟨s,0,none⟩=some (.pointer (some ⟨b,0,none⟩))
 c1:w.cell? ⟨s,1,none⟩=some (.int .i64 vars)
def zaw(w:World)(k:Nat):Prop:=∃o:Obj,w.heap[k]?=some o/\o.isCells=true
theorem zaw.kept{w w':World}{S:Nat->Prop}{k:Nat}(h:zaw w k)(hk:zan S w w')(hn:¬S k):zaw w' k:=by
 obtain⟨o,h1,h2⟩:=h;exact⟨o,(hk.block k (Array.getElem?_eq_some_iff.1 h1).1 hn).trans h1,h2⟩
theorem zaw.below{w w':World}{k:Nat}(h:zaw w k)(hb:zB w w'):zaw w' k:=h.kept (zan.of_below hb (fun _=>False)) (fun h=>h)
theorem zq2{w:World}{a:Addr}{v:Value}(h:w.cell? a=some v):zaw w a.block:=by
 unfold World.cell? at h;cases e:w.heap[a.block]? with
 |none=>rw[e] at h;cases h
 |some o =>rw[e] at h;cases o<;>first|exact⟨_,e,rfl⟩|cases h
theorem zlj{w:World}{P:Program}{k:TypeId}{R:Value->Option (DataW Unit × List MemPlace)}{bm n:Nat}{D:DataW Unit}(h:w.ownsMap P k R bm n D):¬zaw w bm:=by
 obtain⟨es,clock,hb,-⟩:=h;rintro⟨o,h1,h2⟩;rw[hb] at h1;cases h1;cases h2
theorem zq0{W:World}{B t k n:Nat}{v:Value}{cs:List Value}(h:W.ownsRow B t k v n cs):∀(j:Nat) (o:Obj),v.ownBlock=some j->W.heap[j]?=some o->o.isCells=true:=by
 intro j o hj ho;rcases h.2 with ⟨rfl,_⟩|⟨g,cap,cur,rfl,_,hg,_⟩
 ·simp[Value.ownBlock] at hj
 ·simp only[Value.ownBlock,Option.some.injEq] at hj;subst hj;rw[hg] at ho;cases ho;rfl
theorem zkR{W:World}{B t k n:Nat}{v:Value}{cs:List Value}(h:W.ownsRow B t k v n cs){j:Nat}(hj:v.ownBlock=some j):zaw W j:=by
 have hl:=(h.lt j hj).2;obtain⟨o,ho⟩:∃o,W.heap[j]?=some o:=⟨_,Array.getElem?_eq_getElem hl⟩;exact⟨o,ho,zq0 h j o hj ho⟩
structure za2(O O':Nat->Prop)(w w':World):Prop where
 kept:zan O w w'
 own:∀k,O' k->O k\/w.heap.size<=k
 map:∀k,O' k->zaw w' k\/(O k/\¬zaw w k)
section
variable {B s b:Nat} {O O' O'':Nat->Prop} {vars:Nat} {room:Int} {ns:List Nd} {w w' w'':World}
theorem zag.kept{S:Nat->Prop}(h:zag B w s b O vars room ns)(hk:zan S w w')(hn:∀k,O k->¬S k)(hs:¬S s):zag B w' s b O vars room ns:=by
 obtain⟨bm,v,L,next,hA,hB,hN,hO⟩:=h.arena;exact ⟨⟨bm,v,L,next,hA.kept hk (fun k hk=>hn k (hO k hk)),hB,hN,hO⟩,fun k hk'=>⟨(h.own k hk').1,Nat.lt_of_lt_of_le (h.own k hk').2 hk.size⟩,h.sO,Nat.lt_of_lt_of_le h.slt hk.size,
  (hk.cell (a:=⟨s,0,none⟩) h.slt hs).trans h.c0,(hk.cell (a:=⟨s,1,none⟩) h.slt hs).trans h.c1⟩
theorem zag.new(h:zag B w s b O vars room ns)(hb:zB w w'):zag B w' s b O vars room ns:=h.kept (zan.of_below hb (fun _=>False)) (fun _ _ h=>h) (fun h=>h)
theorem za2.refl(O:Nat->Prop)(w:World):za2 O O w w:=⟨zan.refl _ _,fun _ h=>.inl h,fun k h=>(Classical.em (zaw w k)).imp id (fun n=>⟨h,n⟩)⟩
theorem za2.of_below(O:Nat->Prop)(hb:zB w w'):za2 O O w w':=⟨zan.of_below hb _,fun _ h=>.inl h,fun k h=>(Classical.em (zaw w k)).imp (fun c=>c.below hb) (fun n=>⟨h,n⟩)⟩
theorem za2.trans(h:za2 O O' w w')(k:za2 O' O'' w' w''):za2 O O'' w w'' :=
 ⟨h.kept.andThen k.kept (fun i hi hlt=>(h.own i hi).elim id (fun h=>by omega)),fun i hi=>by
  rcases k.own i hi with h1|h1
  ·exact h.own i h1
  ·exact .inr (Nat.le_trans h.kept.size h1),fun i hi=>by
  rcases k.map i hi with h1|⟨h1,h2⟩
  ·exact .inl h1
  ·rcases h.map i h1 with h3|h3
   ·exact absurd h3 h2
   ·exact .inr h3⟩
theorem za2.size(h:za2 O O' w w'):w.heap.size<=w'.heap.size:=h.kept.size
theorem za2.cell(h:za2 O O' w w'){a:Addr}(hlt:a.block<w.heap.size)(hn:¬O a.block):w'.cell? a=w.cell? a:=h.kept.cell hlt hn
theorem za2.beside(h:za2 O O' w w'){j:Nat}(hlt:j<w.heap.size)(hn:¬O j):¬O' j:=fun ho=>by
 rcases h.own j ho with h1|h1
 ·exact hn h1
 ·omega
theorem za2.below{B:Nat}(h:za2 O O' w w')(hB:B<=w.heap.size)(ho:∀k,O k->B<=k):Below B w w':=h.kept.below hB ho
theorem zag.moved{bm:Nat}{v v':Value}{ns':List Nd}{L':List (Nd × Int)}{next':Int}(h:zag B w s b O vars room ns)(hbm0:¬zaw w bm)(hO:∀k,Own b bm v k->O k)(hA:zam B w' b bm v' ns' L' room next')(hB:zqo ns' L')(hN:∃i:Nat,next'=2+(i:Int)/\i<=ns'.length/\∀j,j<i->(nd ns' j).v<24)
  (hk:zan (Own b bm v) w w') (hv:v'.ownBlock=v.ownBlock\/∃g,v'.ownBlock=some g/\w.heap.size<=g):∃O',zag B w' s b O' vars room ns'/\za2 O O' w w':=by
 have hs:¬Own b bm v s:=fun ho=>h.sO (hO s ho);obtain⟨D,hD,-⟩:=hA.hmap;have hbm:=hD.lt;refine⟨Own b bm v',⟨⟨bm,v',L',next',hA,hB,hN,fun _ h=>h⟩,?_,?_,Nat.lt_of_lt_of_le h.slt hk.size,(hk.cell (a:=⟨s,0,none⟩) h.slt hs).trans h.c0,(hk.cell (a:=⟨s,1,none⟩) h.slt hs).trans h.c1⟩,hk.mono hO,?_,?_⟩
 ·rintro k (e|e|e)
  ·have:=h.own k (hO k (.inl e));exact⟨this.1,Nat.lt_of_lt_of_le this.2 hk.size⟩
  ·have:=h.own k (hO k (.inr (.inl e)));exact⟨this.1,Nat.lt_of_lt_of_le this.2 hk.size⟩
  ·exact hA.row.lt k e
 ·rintro (e|e|e)
  ·exact h.sO (hO s (.inl e))
  ·exact h.sO (hO s (.inr (.inl e)))
  ·rcases hv with h1|⟨g,h1,h2⟩
   ·exact h.sO (hO s (.inr (.inr (by rw[<-h1];exact e))))
   ·rw[h1] at e;cases e;have:=h.slt;omega
 ·rintro k (e|e|e)
  ·exact .inl (hO k (.inl e))
  ·exact .inl (hO k (.inr (.inl e)))
  ·rcases hv with h1|⟨g,h1,h2⟩
   ·exact .inl (hO k (.inr (.inr (by rw[<-h1];exact e))))
   ·rw[h1] at e;cases e;exact .inr h2
 ·rintro k (e|e|e)
  ·rw[e];exact .inl (zq2 hA.croom)
  ·rw[e];exact .inr ⟨hO bm (.inr (.inl rfl)),hbm0⟩
  ·exact .inl (zkR hA.row e)
theorem zjX:∀ns:List Nd,(zkC ns).length=cnt ns:=by
 intro ns;unfold zkC cnt;have key:(ns.map fun n=>decide (n.v<24))=(List.range ns.length).map fun i=>decide ((nd ns i).v<24):=by
  apply List.ext_getElem (by simp);intro i h1 h2;simp at h1 h2;simp[zg4 ns i h1]
 rw[<-List.countP_eq_length_filter,<-List.countP_eq_length_filter];have e1:List.countP (fun n:Nd=>decide (n.v<24)) ns=List.countP (fun b:Bool=>b) (ns.map fun n=>decide (n.v<24)):=by rw[List.countP_map];rfl
 have e2:List.countP (fun i=>decide ((nd ns i).v<24)) (List.range ns.length)=List.countP (fun b:Bool=>b) ((List.range ns.length).map fun i=>decide ((nd ns i).v<24)):=by rw[List.countP_map];rfl
 rw[e1,e2,key]
theorem zrw(hS:zag B w s b O vars room ns)(hl:ns.length<=90000)(hroom:(cnt ns:Int)<room)(hB:B<=w.heap.size)(n:Nd)(hn:n.Ok)(hf:Fit ns n) :
  zC 350 #[.pointer (some ⟨b,0,none⟩),n.val] w fun e w'=>e=.returned (.tuple #[.int .i64 (zfE ns n).2,.nilIface])/\∃O',zag B w' s b O' vars room (zfE ns n).1/\za2 O O' w w':=by
 obtain⟨bm,v,L,next,hA,hBk,⟨i,hi1,hi2,hi3⟩,hO⟩:=hS.arena;have hLl:L.length<=ns.length:=by rw[zf8 hBk];exact zln ns
 have hLc:L.length<=cnt ns:=by rw[zf8 hBk];exact Nat.le_of_eq (zjX ns)
 unfold zfE
 by_cases c:idx ns n<ns.length
 ·rw[if_pos c];have hin:(n,2+(idx ns n:Int))∈L:=by
   have:=hBk.all _ c (by rw[ziZ c];exact hf.v1)
   rwa [ziZ c] at this
  exact(znD hA (by omega) n hn hf _ hin).mono fun e w' ⟨he,hb⟩=>⟨he,O,hS.new hb,za2.of_below O hb⟩
 ·rw[if_neg c];have hnin:n∉L.map Prod.fst:=fun h=>by
   obtain⟨p,hp,rfl⟩:=List.mem_map.1 h;obtain⟨j,hj,-,rfl⟩:=hBk.mem p hp;exact zlP c hj rfl
  refine(zrt hA (by omega) n hn hf hnin (by omega) (by omega) i hi1 hi2 hB).mono ?_;rintro e w' ⟨k,v',rfl,hk,hocc,hfree,hA',hK,hv⟩;have hocc':∀j,j<k->(nd ns j).v<24:=fun j hj=>by
   by_cases h:j<i
   ·exact hi3 j h
   ·exact hocc j (by omega) hj
  obtain rfl:k=zbo ns:=zrE hk hocc' hfree;refine⟨rfl,hS.moved (by obtain⟨D0,hD0,-⟩:=hA.hmap;exact zlj hD0) hO hA' (zo9 hBk hk hfree hf.v1 hnin) ⟨zbo ns,rfl,?_,fun j hj=>?_⟩ hK hv⟩
  ·have:=(zev (n:=n) hk).2;exact Nat.le_trans hk this
  ·show (nd (zdT ns (zbo ns) n) j).v<24;rw[zb9 hk j (by omega),if_neg (by omega)];exact hocc' j hj
theorem zv9(hS:zag B w s b O vars room ns)(h:Int)(hi:I64 h)(hl:ns.length<=90000) :
  zC 163 #[.pointer (some ⟨b,0,none⟩),.int .i64 h] w fun e w'=>e=.returned (.bool (zaV ns h))/\w=w':=by
 obtain⟨bm,v,L,next,hA,-⟩:=hS.arena;exact zid hA h hi (by omega)
theorem zvN(hS:zag B w s b O vars room ns)(h:Int)(hi:I64 h)(hl:ns.length<=90000) :
  zC 164 #[.pointer (some ⟨b,0,none⟩),.int .i64 h] w fun e w'=>e=.returned (.int .i64 (zaa ns h))/\w=w':=by
 obtain⟨bm,v,L,next,hA,-⟩:=hS.arena;exact zgN hA h hi (by omega)
theorem zsv(hS:zag B w s b O vars room ns)(h:Int)(hi:I64 h)(hl:ns.length<=90000) :
  zR 92 #[.pointer (some ⟨b,0,none⟩),.int .i64 h] w (.tuple #[(zav ns h).val,.bool (decide (zaa ns h≠24))]):=by
 obtain⟨bm,v,L,next,hA,-⟩:=hS.arena;exact zgi hA h hi (by omega)
theorem ztz(hS:zag B w s b O vars room ns)(hr:zaF ns)(hl:ns.length<=90000)(hB:B<=w.heap.size)(bf:Nat){cp:Nat}(fs:List Int)(hF:zeF w bf fs)(hfl:fs.length<=1000) :
  zC 226 #[.pointer (some ⟨b,0,none⟩),.slice (some ⟨bf,0,none⟩) fs.length cp] w fun e w'=>∃n:Int,e=.returned (.int .i64 n)/\∃O',zag B w' s b O' vars room (zbB ns (zax ns fs))/\za2 O O' w w':=by
 obtain⟨bm,v,L,next,hA,hBk,-,hO⟩:=hS.arena;have hLl:L.length<=ns.length:=by rw[zf8 hBk];exact zln ns
 refine(zp1 hr hBk (by omega) hA bf fs hF hfl hB (by omega)).mono ?_;rintro e w' ⟨rfl,hA',hK⟩;exact⟨_,rfl,hS.moved (by obtain⟨D0,hD0,-⟩:=hA.hmap;exact zlj hD0) hO hA' (zm3 hBk) ⟨0,rfl,Nat.zero_le _,fun j h=>by omega⟩ hK (.inl rfl)⟩
end
end Bd
namespace Bd
open Go.RowKit Go.Maps
section
variable {B s b:Nat} {O:Nat->Prop} {vars:Nat} {room:Int} {ns:List Nd} {w:World}
theorem zin(hS:zag B w s b O vars room ns)(hl:ns.length<=90000)(hroom:(cnt ns:Int)<room)(hB:B<=w.heap.size)(v l h:Int)(hv0:0<=v)(hv1:v<24)(hl1:zaV ns l=true)(hh1:zaV ns h=true)(tl:v<zaa ns l)(th:v<zaa ns h) :
  zC 323 #[.pointer (some ⟨s,0,none⟩),.int .i64 v,.int .i64 l,.int .i64 h] w fun e w'=>e=.returned (.tuple #[.int .i64 (zcE ns v l h).2,.nilIface])/\∃O',zag B w' s b O' vars room (zcE ns v l h).1/\za2 O O' w w':=by
 have c0:=hS.c0
 by_cases e:l=h
 ·have hn:zcE ns v l h=(ns,l):=by unfold zcE;rw[if_pos e]
  rw[hn];subst e;have HS:=zH hS;clear hS hl1 hh1 tl th hn;go_enter Tryz.func323,Tryz.ntmps323;go_wp2;go_ret2;exact⟨rfl,O,HS.out,za2.refl _ _⟩
 ·have hn:zcE ns v l h=zfE ns ⟨v,l,h⟩:=by unfold zcE;rw[if_neg e]
  rw[hn];have HM:=zH (zrw hS hl hroom hB ⟨v,l,h⟩ ⟨⟨by show _<=v;omega,by show v<=_;omega⟩,zbY hl1 (by omega),zbY hh1 (by omega)⟩ ⟨hv0,hv1,hl1,hh1,tl,th⟩);unfold Nd.val at HM;clear hS hl1 hh1 tl th hn;generalize zfE ns ⟨v,l,h⟩=r at *;go_enter Tryz.func323,Tryz.ntmps323;go_wp2_with fail;refine HM.out.mono ?_;rintro e w' ⟨rfl,hO⟩;go_wp2;go_ret2;exact⟨rfl,hO⟩
theorem zoO(hS:zag B w s b O vars room ns)(hl:ns.length<=90000)(h v:Int)(hi:I64 h)(hv1:v<24) :
  zR 351 #[.pointer (some ⟨s,0,none⟩),.int .i64 h,.int .i64 v] w (.tuple #[.int .i64 (loS ns h v),.int .i64 (hiS ns h v)]):=by
 have c0:=hS.c0;have HG:=zH (zsv hS h hi hl);have hsl:=hS.slt
 by_cases ht:zaa ns h=24
 ·have e1:loS ns h v=h:=by unfold loS;rw[if_neg (by omega)]
  have e2:hiS ns h v=h:=by unfold hiS;rw[if_neg (by omega)]
  rw[e1,e2];rw[show decide (zaa ns h≠24)=false by simp[ht]] at HG;generalize zav ns h=gn at *;obtain⟨gv,gl,gh⟩:=gn;unfold Nd.val at HG;clear hS e1 e2 ht;go_enter Tryz.func351,Tryz.ntmps351;go_wp2_with fail;refine HG.out.mono ?_;rintro e w1 ⟨rfl,hb1⟩;have hb2:=hb1.alloc hb1.size (.cells #[.int .i64 gv,.int .i64 gl,.int .i64 gh] 176);clear HG;go_wp2;go_ret2;exact⟨rfl,hb2⟩
 ·rw[show decide (zaa ns h≠24)=true by simp[ht]] at HG;have hgv:(zav ns h).v=zaa ns h:=by
   obtain⟨h1,h2,h3,h4⟩:=zbL ht;unfold zav;rw[if_neg ht];exact h3.symm
  have hgn:zav ns h=nd ns (pl h):=by unfold zav;rw[if_neg ht];rfl
  by_cases ev:zaa ns h=v
  ·have e1:loS ns h v=(zav ns h).l:=by unfold loS;rw[if_pos ev,hgn]
   have e2:hiS ns h v=(zav ns h).h:=by unfold hiS;rw[if_pos ev,hgn]
   rw[e1,e2];rw[ev] at hgv;generalize zav ns h=gn at *;obtain⟨gv,gl,gh⟩:=gn;simp only at hgv;subst hgv;unfold Nd.val at HG;clear hS e1 e2 ht ev hgn;go_enter Tryz.func351,Tryz.ntmps351;go_wp2_with fail;refine HG.out.mono ?_;rintro e w1 ⟨rfl,hb1⟩;have hb2:=hb1.alloc hb1.size (.cells #[.int .i64 gv,.int .i64 gl,.int .i64 gh] 176);obtain⟨x0,x1,x2,-⟩:=zd6 w1 (.int .i64 gv) (.int .i64 gl) (.int .i64 gh) 176;clear HG;go_wp2_with fail;go_quiet (fail);go_wp2;go_ret2;exact⟨rfl,hb2.trans (zat _ _ _)⟩
  ·have e1:loS ns h v=h:=by unfold loS;rw[if_neg ev]
   have e2:hiS ns h v=h:=by unfold hiS;rw[if_neg ev]
   rw[e1,e2];have hne:¬(zav ns h).v=v:=by rw[hgv];exact ev
   generalize zav ns h=gn at *;obtain⟨gv,gl,gh⟩:=gn;simp only at hne;unfold Nd.val at HG;clear hS e1 e2 ht ev hgn hgv;go_enter Tryz.func351,Tryz.ntmps351;go_wp2_with fail;refine HG.out.mono ?_;rintro e w1 ⟨rfl,hb1⟩;have hb2:=hb1.alloc hb1.size (.cells #[.int .i64 gv,.int .i64 gl,.int .i64 gh] 176);obtain⟨x0,x1,x2,-⟩:=zd6 w1 (.int .i64 gv) (.int .i64 gl) (.int .i64 gh) 176;clear HG;go_wp2;go_ret2;exact⟨rfl,hb2⟩
theorem zkl(hS:zag B w s b O vars room ns)(hl:ns.length<=90000)(bf:Nat){cp:Nat}(fs:List Int)(hF:zeF w bf fs)(hfl:fs.length<=1000)(hall:∀x∈fs,zaV ns x=true) :
  zC 77 #[.pointer (some ⟨s,0,none⟩),.slice (some ⟨bf,0,none⟩) fs.length cp] w fun e w'=>e=.returned .nilIface/\w=w':=by
 have c0:=hS.c0;have HS:=zH hS;have HF:=zH hF;have HA:=zH hall;clear hS hF hall;go_enter Tryz.func77,Tryz.ntmps77;go_wp2_with fail;go_loop [9] (fun i=>∃k:Nat,k<=fs.length/\i=.int .i64 k) (fun i=>fs.length-(intOf i).toNat)
 case atStart=>exact⟨0,Nat.zero_le _,rfl⟩
 case round =>
  obtain⟨k,hk,rfl⟩:=hrel
  by_cases hlt:k<fs.length
  ·have ck:=HF.out.cells k hlt;have HH:=zH (zv9 HS.out fs[k] (HF.out.ok _ (List.getElem_mem hlt)) hl);rw[HA.out _ (List.getElem_mem hlt)] at HH;generalize fs[k]=x at *;go_wp2_with fail;refine HH.out.mono ?_;rintro e w' ⟨rfl,rfl⟩;clear HH;go_wp2;go_round
   case rel=>exact⟨k+1,by omega,by go_num⟩
   case measure=>simp[intOf];omega
  ·go_wp2;go_ret;exact⟨rfl,rfl⟩
theorem zjw(hS:zag B w s b O vars room ns)(v:Int)(h0:0<=v)(h1:v<(vars:Int)) :
  zC 322 #[.pointer (some ⟨s,0,none⟩),.int .i64 v] w fun e w'=>e=.returned .nilIface/\w=w':=by
 have c1:=hS.c1;clear hS;go_enter Tryz.func322,Tryz.ntmps322;go_wp2
 all_goals
  go_ret;exact⟨rfl,rfl⟩
end
end Bd
end Go.Proofs.YtiihalknffbjpaaGreatDoor
