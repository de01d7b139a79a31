/- node, sides, present, variable, begin. -/
import Derived.Test.YtiihalknffbjpaaGreatDoorPfForm
import Derived.RangeFuncOwn
namespace Go.Proofs.YtiihalknffbjpaaGreatDoor
set_option maxHeartbeats 1000000
set_option maxRecDepth 100000
section
open Go.RowKit
theorem zsw{c:List Int}(hl:zfS 24 c):zyp c↔zaB (zai c)=true:=(zjN hl).symm
end
namespace Bd
open Go.RowKit Go.Maps
def zdJ(m:List Bool):Nat:=m.countP id
theorem zhp:∀(m:List Bool) (i:Nat),zdJ (m.set i true)<=zdJ m+1
 |[],_=>by simp[zdJ]
 |a :: m,0=>by unfold zdJ;simp only[List.set_cons_zero,List.countP_cons];split<;>split<;>simp<;>omega
 |a :: m,i+1=>by
  have:=zhp m i;unfold zdJ at *;simp only[List.set_cons_succ,List.countP_cons];omega
theorem zfz{vars:Nat}{ns:List Nd}(hg:zcq vars ns):∀(d:Nat) (h:Int) (m:List Bool),zdJ (za7 d ns h m)+1<=zdJ m+2^((vars:Int)-zaa ns h).toNat
 |0,h,m=>by have:=Nat.one_le_two_pow (n:=((vars:Int)-zaa ns h).toNat);unfold za7;omega
 |d+1,h,m=>by
  have h1:=Nat.one_le_two_pow (n:=((vars:Int)-zaa ns h).toNat);unfold za7;split
  ·omega
  ·rename_i hn;have ht:=(not_or.1 hn).1;have hv:=zd0 hg ht;obtain⟨k1,-,k2,-⟩:=zlS hg.ranked ht;have e:(h-2).toNat=pl h:=rfl;rw[e];have i1:=zfz hg d (nd ns (pl h)).l (m.set (pl h) true);have i2:=zfz hg d (nd ns (pl h)).h (za7 d ns (nd ns (pl h)).l (m.set (pl h) true));have i0:=zhp m (pl h);have hp:2^((vars:Int)-zaa ns h).toNat=2^(((vars:Int)-zaa ns h).toNat-1)+2^(((vars:Int)-zaa ns h).toNat-1):=by
    obtain⟨q,hq⟩:∃q,((vars:Int)-zaa ns h).toNat=q+1:=⟨((vars:Int)-zaa ns h).toNat-1,by omega⟩;rw[hq,Nat.add_sub_cancel,Nat.pow_succ];omega
   have p1:2^((vars:Int)-zaa ns (nd ns (pl h)).l).toNat<=2^(((vars:Int)-zaa ns h).toNat-1):=Nat.pow_le_pow_right (by omega) (by omega);have p2:2^((vars:Int)-zaa ns (nd ns (pl h)).h).toNat<=2^(((vars:Int)-zaa ns h).toNat-1):=Nat.pow_le_pow_right (by omega) (by omega);omega
theorem zki{ns:List Nd}{M:List Bool}(hl:M.length=ns.length):cnt (zbD ns M)<=zdJ M:=by
 unfold cnt zbD zdJ;rw[<-List.countP_eq_length_filter,List.countP_map];have e:M=(List.range ns.length).map fun i=>mk M i:=by
  apply List.ext_getElem (by simp[hl]);intro i h1 h2;simp[zxf M i h1]
 conv=>rhs;rw[e,List.countP_map]
 refine List.countP_mono_left fun i _ h=>?_
 by_cases hm:mk M i=true
 ·exact hm
 ·simp[Function.comp,hm] at h
theorem zp5{vars:Nat}{ns:List Nd}(hg:zcq vars ns)(h:Int):cnt (zbD ns (zaw ns [h]))+1<=2^vars:=by
 have h1:=zki (zcU ns [h]);have h2:=zfz hg 24 h (List.replicate ns.length false);have h3:zdJ (List.replicate ns.length false)=0:=by
  unfold zdJ;rw[List.countP_eq_zero];intro b hb;rw[(List.mem_replicate.1 hb).2];simp
 have h4:zaw ns [h]=za7 24 ns h (List.replicate ns.length false):=rfl;rw[<-h4,h3] at h2;have h5:2^((vars:Int)-zaa ns h).toNat<=2^vars:=Nat.pow_le_pow_right (by omega) (by have:=(zam hg.ranked h).1;omega);omega
def zcW(x:Int):Nat:=x.natAbs-1
def zlt(f:Nat->Bool)(x:Int):Bool:=f (zcW x)==decide (0<x)
def clS(f:Nat->Bool)(c:List Int):Bool:=c.any (zlt f)
theorem zdW(ns:List Nd)(n:Nd):zaa (zfM ns n).1 (zfM ns n).2=n.v/\nd (zfM ns n).1 (pl (zfM ns n).2)=n:=by
 unfold zfM
 by_cases c:idx ns n<ns.length
 ·rw[if_pos c];have hp:pl (2+(idx ns n:Int))=idx ns n:=by unfold pl;omega
  exact⟨by show zaa ns (2+(idx ns n:Int))=_;rw[zdh c,zjo c],by show nd ns (pl (2+(idx ns n:Int)))=n;rw[hp,zjo c]⟩
 ·rw[if_neg c];have hp:pl (2+(zbr ns:Int))=zbr ns:=by unfold pl;omega
  exact⟨zkb (zcR ns),by show nd (zd2 ns (zbr ns) n) (pl (2+(zbr ns:Int)))=n;rw[hp,zb7 (zcR ns) _ (.inr rfl),if_pos rfl]⟩
theorem zp0(ns:List Nd)(v:Int)(is:Bool):zaa (zkq ns v is).1 (zkq ns v is).2=v/\(nd (zkq ns v is).1 (pl (zkq ns v is).2)=⟨v,0,1⟩\/nd (zkq ns v is).1 (pl (zkq ns v is).2)=⟨v,1,0⟩):=by
 unfold zkq zcE;cases is with
 |true=>simp only[if_true];rw[if_neg (by omega)];exact⟨(zdW ns ⟨v,0,1⟩).1,.inl (zdW ns ⟨v,0,1⟩).2⟩
 |false=>simp only[Bool.false_eq_true,if_false];rw[if_neg (by omega)];exact⟨(zdW ns ⟨v,1,0⟩).1,.inr (zdW ns ⟨v,1,0⟩).2⟩
theorem zmO{vars:Nat}{ns:List Nd}(hg:zcq vars ns){v:Int}(is:Bool)(hv0:0<=v)(hv:v<(vars:Int))(hv24:v<24)(hl:ns.length<=900000):cnt (zkq ns v is).1<=cnt ns+1/\(zkq ns v is).1.length<=max ns.length (cnt ns+1):=by
 unfold zkq;cases is with
 |true =>simp only[if_true];have h:=zde hg (v:=v) (l:=0) (h:=1) hl hv0 hv24 hv (zce ns) (zbh ns) (by rw[zd6];exact hv24) (by rw[zdg];exact hv24);exact⟨h.cnt,h.tight⟩
 |false =>simp only[Bool.false_eq_true,if_false];have h:=zde hg (v:=v) (l:=1) (h:=0) hl hv0 hv24 hv (zbh ns) (zce ns) (by rw[zdg];exact hv24) (by rw[zd6];exact hv24);exact⟨h.cnt,h.tight⟩
def chn:Nat->List Nd->Int->Prop
 |0,_,_=>True
 |d+1,ns,h=>zaa ns h=24\/(nd ns (pl h)).l=1/\chn d ns (nd ns (pl h)).h\/(nd ns (pl h)).h=1/\chn d ns (nd ns (pl h)).l
theorem zkd{f:Nat->Bool}{v:Nat}{b:Bool}{x:Int}(h:zcW x=v):zlt (turn f v b) x=(b==decide (0<x)):=by unfold zlt;rw[h,zh6]
theorem zhD{f:Nat->Bool}{v:Nat}{b:Bool}{x:Int}(h:zcW x≠v):zlt (turn f v b) x=zlt f x:=by unfold zlt;rw[zeF _ _ h]
theorem zkO{f:Nat->Bool}{v:Nat}{b:Bool}{ys:List Int}(h:∃x∈ys,zcW x=v/\decide (0<x)=b):clS (turn f v b) ys=true:=by
 obtain⟨x,h1,h2,h3⟩:=h;unfold clS;rw[List.any_eq_true];exact⟨x,h1,by rw[zkd h2,h3];simp⟩
theorem zgf{f:Nat->Bool}{v:Nat}{b:Bool}{ys:List Int}(h:¬∃x∈ys,zcW x=v/\decide (0<x)=b):clS (turn f v b) ys=clS f (ys.filter fun x=>decide (zcW x≠v)):=by
 unfold clS;rw[Bool.eq_iff_iff,List.any_eq_true,List.any_eq_true];constructor
 ·rintro⟨x,h1,h2⟩
  by_cases e:zcW x=v
  ·rw[zkd e] at h2;exact absurd ⟨x,h1,e,by simpa using (beq_iff_eq.1 h2).symm⟩ h
  ·exact⟨x,List.mem_filter.2 ⟨h1,by simpa using e⟩,by rw[zhD e] at h2;exact h2⟩
 ·rintro⟨x,h1,h2⟩;obtain⟨h3,h4⟩:=List.mem_filter.1 h1;exact⟨x,h3,by rw[zhD (by simpa using h4)];exact h2⟩
theorem zqe{vars:Nat}{ns:List Nd}(hg:zcq vars ns){h:Int}(ht:zaa ns h≠24)(f:Nat->Bool)(b:Bool):sem ns (if b=true then (nd ns (pl h)).h else (nd ns (pl h)).l) f=sem ns h (turn f (zaa ns h).toNat b):=by
 obtain⟨k1,-,k2,-⟩:=zlS hg.ranked ht;have h0:=(zam hg.ranked h).1;rw[zdV hg.ranked ht,zh6];cases b
 ·simp only[Bool.false_eq_true,if_false];exact zcG hg.ranked (fun i hi=>(zeF _ _ (by omega)).symm)
 ·simp only[if_true];exact zcG hg.ranked (fun i hi=>(zeF _ _ (by omega)).symm)
theorem zqr{vars:Nat}{ns:List Nd}(hg:zcq vars ns):∀(d:Nat) (h:Int) (ys:List Int),zaP ns h=true->(∀f,sem ns h f=clS f ys)->chn d ns h
 |0,_,_,_,_=>trivial
 |d+1,h,ys,hh,hs=>by
  unfold chn
  by_cases ht:zaa ns h=24
  ·exact .inl ht
  ·right;obtain⟨-,hl1,-,hh1⟩:=zlS hg.ranked ht;obtain⟨-,hp,-,-⟩:=zbq ht;have hv:=zhv hg.ranked ht;have hne:(nd ns (pl h)).l≠(nd ns (pl h)).h:=hg.red _ hp (by rw[<-(zbq ht).2.2.1];exact hv);have slo:∀f,sem ns (nd ns (pl h)).l f=clS (turn f (zaa ns h).toNat false) ys:=fun f=>by rw[<-hs];exact zqe hg ht f false
   have shi:∀f,sem ns (nd ns (pl h)).h f=clS (turn f (zaa ns h).toNat true) ys:=fun f=>by rw[<-hs];exact zqe hg ht f true
   by_cases P:∃x∈ys,zcW x=(zaa ns h).toNat/\decide (0<x)=true
   ·have h1:(nd ns (pl h)).h=1:=zdm hg hh1 (zbh ns) (fun f=>by rw[shi f,zkO P,zbJ])
    by_cases N:∃x∈ys,zcW x=(zaa ns h).toNat/\decide (0<x)=false
    ·exact absurd ((zdm hg hl1 (zbh ns) (fun f=>by rw[slo f,zkO N,zbJ])).trans h1.symm) hne
    ·exact .inr ⟨h1,zqr hg d _ _ hl1 (fun f=>by rw[slo f,zgf N])⟩
   ·by_cases N:∃x∈ys,zcW x=(zaa ns h).toNat/\decide (0<x)=false
    ·exact .inl ⟨zdm hg hl1 (zbh ns) (fun f=>by rw[slo f,zkO N,zbJ]),zqr hg d _ _ hh1 (fun f=>by rw[shi f,zgf P])⟩
    ·exact absurd (zdm hg hl1 hh1 (fun f=>by rw[slo f,shi f,zgf N,zgf P])) hne
theorem zd8{d:Nat}{ns:List Nd}{m:List (Nd × Int)}{k:Nd}(h:∃y,za2 true k=some y):(zak d true ns m k).1=ns/\(zak d true ns m k).2.1=m:=by
 obtain⟨y,hy⟩:=h;cases d with
 |zero=>unfold zak;exact⟨rfl,rfl⟩
 |succ d=>unfold zak;rw[hy];exact⟨rfl,rfl⟩
theorem zlN(z:Int):∃y,za2 true ⟨1,1,z⟩=some y:=⟨1,by unfold za2;rw[if_pos rfl];unfold zhQ;rw[if_pos (.inl rfl)]⟩
theorem zlM(z:Int):∃y,za2 true ⟨z,1,1⟩=some y:=⟨1,by unfold za2;rw[if_pos rfl];unfold zhQ;rw[if_pos (.inr rfl)]⟩
theorem zmG(z:Int):∃y,za2 true ⟨0,1,z⟩=some y:=by
 unfold za2;rw[if_pos rfl];unfold zhQ
 by_cases h:(1:Int)=z
 ·exact⟨1,by rw[if_pos (.inr h)]⟩
 ·exact⟨z,by rw[if_neg (by rintro (h'|h');cases h';exact h h'),if_pos rfl]⟩
theorem zqZ{vars:Nat}{x v:Int}(hv24:v<24):∀(d:Nat) (ns:List Nd) (m:List (Nd × Int)) (out:Int),zcq vars ns->zeY true ns m->zaa ns x=v->(nd ns (pl x)=⟨v,0,1⟩\/nd ns (pl x)=⟨v,1,0⟩)->zaP ns out=true->chn d ns out->24<=zay ns ⟨x,1,out⟩+d->ns.length+2*2^vars<=900000 ->
  cnt (zak d true ns m ⟨x,1,out⟩).1<=cnt ns+d/\(zak d true ns m ⟨x,1,out⟩).1.length<=max ns.length (cnt ns+d)
 |0,ns,m,out,_,_,_,_,_,_,_,_=>by unfold zak;exact⟨Nat.le_refl _,Nat.le_max_left _ _⟩
 |d+1,ns,m,out,hg,hm,hx,hn,ho,hc,hd,hl=>by
  have stay:cnt ns<=cnt ns+(d+1)/\ns.length<=max ns.length (cnt ns+(d+1)):=⟨by omega,Nat.le_max_left _ _⟩;have t1:=zdg ns;have hone:=Nat.one_le_two_pow (n:=vars);have hxh:zaP ns x=true:=by unfold zaP;rw[hx];simp[hv24]
  have h3:zhY ns ⟨x,1,out⟩:=⟨hxh,zbh ns,ho⟩;unfold zak;cases e:za2 true ⟨x,1,out⟩ with
  |some y=>exact stay
  |none =>
   cases e2:look m ⟨x,1,out⟩ with
   |some y=>exact stay
   |none =>
    have hr:=hg.ranked;have hmv:=zcY hr h3 e;have hmv0:=(zdI hr ⟨x,1,out⟩).1;have hvv:=zg1 hg hmv;obtain⟨m1,-,m3⟩:=zgQ ns ⟨x,1,out⟩;simp only at m1 m3;obtain⟨l3,lt⟩:=zku hr h3 hmv;obtain⟨g3,gt⟩:=zkL hr h3 hmv;have hp1:=zrm (vars:=vars) hr (loK ns ⟨x,1,out⟩ (zay ns ⟨x,1,out⟩));have i1:=zcx (op:=true) (vars:=vars) d ns m _ hg hm l3 (by omega) (by omega);have g3':=g3.ext i1.ext;have gm:=zeO g3 i1.ext;have hp2:=zrm (vars:=vars) i1.good.ranked (hiK ns ⟨x,1,out⟩ (zay ns ⟨x,1,out⟩));have l1:=i1.len;have i2:=zcx (op:=true) (vars:=vars) d _ _ _ i1.good i1.memo g3' (by rw[gm];omega) (by omega);have l2:=i2.len;have h1':=i2.ext.has _ i1.has;have t1':=i2.ext.top _ i1.has;have hvM:zay ns ⟨x,1,out⟩=v\/(zay ns ⟨x,1,out⟩≠v/\zay ns ⟨x,1,out⟩=zaa ns out):=by unfold zay;simp only;rw[hx,t1];omega
    have lo1:loS ns 1 (zay ns ⟨x,1,out⟩)=1:=by unfold loS;rw[if_neg (by omega)]
    have hi1:hiS ns 1 (zay ns ⟨x,1,out⟩)=1:=by unfold hiS;rw[if_neg (by omega)]
    have hb:cnt (zak d true (zak d true ns m (loK ns ⟨x,1,out⟩ (zay ns ⟨x,1,out⟩))).1 (zak d true ns m (loK ns ⟨x,1,out⟩ (zay ns ⟨x,1,out⟩))).2.1 (hiK ns ⟨x,1,out⟩ (zay ns ⟨x,1,out⟩))).1<=cnt ns+d /\
      (zak d true (zak d true ns m (loK ns ⟨x,1,out⟩ (zay ns ⟨x,1,out⟩))).1 (zak d true ns m (loK ns ⟨x,1,out⟩ (zay ns ⟨x,1,out⟩))).2.1 (hiK ns ⟨x,1,out⟩ (zay ns ⟨x,1,out⟩))).1.length<=max ns.length (cnt ns+d):=by
     rcases hvM with hv|⟨hv,ht⟩
     ·have kl:∃y,za2 true (loK ns ⟨x,1,out⟩ (zay ns ⟨x,1,out⟩))=some y:=by
       unfold loK;simp only;rw[lo1,show loS ns x (zay ns ⟨x,1,out⟩)=(nd ns (pl x)).l by unfold loS;rw[if_pos (by omega)]];rcases hn with hn|hn<;>rw[hn]
       ·exact zmG _
       ·exact zlN _
      have kh:∃y,za2 true (hiK ns ⟨x,1,out⟩ (zay ns ⟨x,1,out⟩))=some y:=by
       unfold hiK;simp only;rw[hi1,show hiS ns x (zay ns ⟨x,1,out⟩)=(nd ns (pl x)).h by unfold hiS;rw[if_pos (by omega)]];rcases hn with hn|hn<;>rw[hn]
       ·exact zlN _
       ·exact zmG _
      rw[(zd8 kl).1,(zd8 kl).2,(zd8 kh).1];exact⟨by omega,Nat.le_max_left _ _⟩
     ·have htn:zaa ns out≠24:=by omega
      have lox:loS ns x (zay ns ⟨x,1,out⟩)=x:=by unfold loS;rw[if_neg (by omega)]
      have hix:hiS ns x (zay ns ⟨x,1,out⟩)=x:=by unfold hiS;rw[if_neg (by omega)]
      have loo:loS ns out (zay ns ⟨x,1,out⟩)=(nd ns (pl out)).l:=by unfold loS;rw[if_pos ht.symm]
      have hio:hiS ns out (zay ns ⟨x,1,out⟩)=(nd ns (pl out)).h:=by unfold hiS;rw[if_pos ht.symm]
      have el:loK ns ⟨x,1,out⟩ (zay ns ⟨x,1,out⟩)=⟨x,1,(nd ns (pl out)).l⟩:=by unfold loK;simp only;rw[lox,lo1,loo]
      have eh:hiK ns ⟨x,1,out⟩ (zay ns ⟨x,1,out⟩)=⟨x,1,(nd ns (pl out)).h⟩:=by unfold hiK;simp only;rw[hix,hi1,hio]
      rw[el] at lt;rw[eh] at gt;obtain⟨-,hl1,-,hh1⟩:=zlS hr htn;unfold chn at hc;rcases hc with hc|⟨hc,hk⟩|⟨hc,hk⟩
      ·exact absurd hc htn
      ·have kl:∃y,za2 true (loK ns ⟨x,1,out⟩ (zay ns ⟨x,1,out⟩))=some y:=by rw[el,hc];exact zlM _
       rw[(zd8 kl).1,(zd8 kl).2,eh];exact zqZ hv24 d ns m _ hg hm hx hn hh1 hk (by omega) hl
      ·have kh:∃y,za2 true (hiK ns ⟨x,1,out⟩ (zay ns ⟨x,1,out⟩))=some y:=by rw[eh,hc];exact zlM _
       rw[(zd8 kh).1,el];exact zqZ hv24 d ns m _ hg hm hx hn hl1 hk (by omega) hl
    have h:=zde i2.good (v:=zay ns ⟨x,1,out⟩) (by omega) hmv0 hmv hvv h1' i2.has (by rw[t1'];have:=i1.top;omega) (by have:=i2.top;rw[gm] at this;omega);have h5:=h.cnt;have h6:=h.tight;exact⟨by show cnt (zcE _ _ _ _).1<=_;omega,by show (zcE _ _ _ _).1.length<=_;omega⟩
structure EiR(vars:Nat)(ns:List Nd)(ys:List Int)(st:List Nd × Int):Prop where
 good:zcq vars st.1
 ext:Ext ns st.1
 has:zaP st.1 st.2=true
 sem:∀f,sem st.1 st.2 f=clS f ys
 cnt:cnt st.1<=cnt ns+25*ys.length
 tight:st.1.length<=max ns.length (Go.Proofs.YtiihalknffbjpaaGreatDoor.Bd.cnt ns+25*ys.length)
theorem zv7{vars:Nat}{ns:List Nd}(hg:zcq vars ns):EiR vars ns [] (ns,0) :=
 ⟨hg,Ext.refl _,zce ns,fun f=>zbm f,Nat.le_refl _,Nat.le_max_left _ _⟩
def zox(ns:List Nd)(x:Int):List Nd × Int:=zkq ns (zcW x:Int) (decide (0<x))
def zlz(st:List Nd × Int)(x:Int):List Nd × Int:=zkp true (zox st.1 x).1 ⟨(zox st.1 x).2,1,st.2⟩
theorem zpZ{vars:Nat}{ns:List Nd}(hg:zcq vars ns){x:Int}(hv:zcW x<vars)(h24:vars<=24)(hl:ns.length+2^vars<=900000):OpR vars ns (zox ns x) (fun f=>zlt f x):=by
 have:=zxj hg (v:=(zcW x:Int)) (decide (0<x)) (by omega) (by omega) (by omega) hl;exact⟨this.good,this.ext,this.has,fun f=>by have:=this.sem f;exact this,this.len,this.cnt,this.tight⟩
theorem EiR.step{vars:Nat}{ns:List Nd}{ys:List Int}{st:List Nd × Int}(h:EiR vars ns ys st){x:Int}(hv:zcW x<vars)(h24:vars<=24)(hl:st.1.length+2^vars<=600000)(hpw:2^vars<=100000):EiR vars ns (x :: ys) (zlz st x):=by
 have hone:=Nat.one_le_two_pow (n:=vars);have hL:=zpZ h.good hv h24 (by omega);have hF:=zmO h.good (v:=(zcW x:Int)) (decide (0<x)) (by omega) (by omega) (by omega) (by omega);have hN:=zp0 st.1 (zcW x:Int) (decide (0<x));have hlen:=hL.len;unfold zlz;unfold zox at *;generalize zkq st.1 (zcW x:Int) (decide (0<x))=a at *;have ho:zaP a.1 st.2=true:=hL.ext.has _ h.has;have h3:zhY a.1 ⟨a.2,1,st.2⟩:=⟨hL.has,zbh _,ho⟩;have hp:=zrm (vars:=vars) hL.good.ranked ⟨a.2,1,st.2⟩;have hsm:∀f,Go.Proofs.YtiihalknffbjpaaGreatDoor.Bd.sem a.1 st.2 f=clS f ys:=fun f=>by rw[zbM h.good.ranked hL.ext h.has,h.sem f]
 have hmb:=(zdI hL.good.ranked ⟨a.2,1,st.2⟩).1;have hM:=zcx (op:=true) 24 a.1 [] ⟨a.2,1,st.2⟩ hL.good (zfZ true a.1) h3 (by omega) (by omega);have hO:=zqZ (vars:=vars) (x:=a.2) (v:=(zcW x:Int)) (by omega) 24 a.1 [] st.2 hL.good (zfZ true a.1) hN.1 hN.2 ho (zqr hL.good 24 st.2 ys ho hsm) (by omega) (by omega);have hc:=h.cnt;have hT:=h.tight;refine⟨hM.good,h.ext.trans (hL.ext.trans hM.ext),hM.has,fun f=>?_,?_,?_⟩
 ·show Go.Proofs.YtiihalknffbjpaaGreatDoor.Bd.sem (zak 24 true a.1 [] ⟨a.2,1,st.2⟩).1 (zak 24 true a.1 [] ⟨a.2,1,st.2⟩).2.2 f=_;rw[hM.sem f];show opS true (Go.Proofs.YtiihalknffbjpaaGreatDoor.Bd.sem a.1 a.2 f) (Go.Proofs.YtiihalknffbjpaaGreatDoor.Bd.sem a.1 1 f) (Go.Proofs.YtiihalknffbjpaaGreatDoor.Bd.sem a.1 st.2 f)=_;rw[zbJ,hL.sem f,hsm f];simp only[opS,if_true,clS,List.any_cons];cases zlt f x<;>simp
 ·have:=hO.1;have:=hF.1;rw[List.length_cons];show Go.Proofs.YtiihalknffbjpaaGreatDoor.Bd.cnt (zak 24 true a.1 [] ⟨a.2,1,st.2⟩).1<=_;omega
 ·have:=hO.2;have:=hF.1;have:=hF.2;rw[List.length_cons];show (zak 24 true a.1 [] ⟨a.2,1,st.2⟩).1.length<=_;omega
def zcD(ns:List Nd)(xs:List Int):List Nd × Int:=xs.foldr (fun x st=>zlz st x) (ns,0)
theorem zg3{vars:Nat}{ns:List Nd}(hg:zcq vars ns)(h24:vars<=24)(hl:ns.length+2^vars<=500000)(hc:cnt ns<=400000)(hpw:2^vars<=100000):∀(xs:List Int),xs.length<=100->(∀x∈xs,zcW x<vars)->EiR vars ns xs (zcD ns xs)
 |[],_,_=>zv7 hg
 |x :: xs,hn,hx=>by
  have ih:=zg3 hg h24 hl hc hpw xs (by simp at hn;omega) (fun y hy=>hx y (List.mem_cons_of_mem _ hy));exact ih.step (hx x (List.mem_cons_self ..)) h24 (by have:=ih.tight;simp at hn;omega) hpw
def zhe(st:List Nd × Int)(c:List Int):List Nd × Int :=
 if zaB (zai c)=true then zkp true st.1 ⟨st.2,1,0⟩ else zkp true (zcD st.1 (zaz (zai c))).1 ⟨st.2,(zcD st.1 (zaz (zai c))).2,0⟩
def zmb(st:List Nd × Int)(c:List Int):List Nd × Int:=(zbD (zhe st c).1 (zaw (zhe st c).1 [(zhe st c).2]),(zhe st c).2)
def clF(cs:List (List Int)):List Nd × Int:=cs.foldl zmb ([],1)
structure ClR(vars:Nat)(cs:List (List Int))(st:List Nd × Int):Prop where
 good:zcq vars st.1
 has:zaP st.1 st.2=true
 sem:∀f,sem st.1 st.2 f=cs.all (clS f)
 cnt:cnt st.1+1<=2^vars
 len:st.1.length<=2*2^vars+600
theorem zrH{f:Nat->Bool}{c:List Int}(hl:zfS 24 c)(ha:zaB (zai c)=false):clS f (zaz (zai c))=clS f c:=by
 unfold clS;rw[Bool.eq_iff_iff,List.any_eq_true,List.any_eq_true];exact⟨fun⟨x,h1,h2⟩=>⟨x,(zdl hl ha).1 h1,h2⟩,fun⟨x,h1,h2⟩=>⟨x,(zdl hl ha).2 h1,h2⟩⟩
theorem znW{f:Nat->Bool}{c:List Int}(hl:zfS 24 c)(ha:zaB (zai c)=true):clS f c=true:=by
 obtain⟨x,h1,h2⟩:=(zsw hl).2 ha;have h0:=zbA.1 (hl x h1);unfold clS;rw[List.any_eq_true];have e:zcW (-x)=zcW x:=by unfold zcW;omega
 by_cases hx:zlt f x=true
 ·exact⟨x,h1,hx⟩
 ·refine⟨-x,h2,?_⟩;unfold zlt at *;rw[e]
  by_cases hp:0<x
  ·have:¬0 < -x:=by omega
   rw[decide_eq_true hp] at hx;rw[decide_eq_false this];cases hf:f (zcW x)<;>simp[hf] at hx ⊢
  ·have:0 < -x:=by omega
   rw[decide_eq_false hp] at hx;rw[decide_eq_true this];cases hf:f (zcW x)<;>simp[hf] at hx ⊢
theorem zfs{vars:Nat}{x:Int}(h:zi0 vars x=true):zcW x<vars:=by
 have:=zbA.1 h;unfold zcW;omega
theorem ze3{vars:Nat}(h:vars<=12):2^vars<=4096:=Nat.pow_le_pow_right (by omega) h
theorem zeH(s:Nat × Nat):(zaz s).length<=24:=zeB s 24
theorem zfH{vars:Nat}(h24:vars<=24){c:List Int}(hl:zfS vars c):(zaz (zai c)).length<=vars:=by
 have key:∀k,vars+k<=24->zbs (zai c) (vars+k)=zbs (zai c) vars:=by
  intro k
  induction k with
  |zero=>intro _;rfl
  |succ k ih =>
   intro hk;have h1:(zai c).1.testBit (vars+k)=false:=by
    rw[zcH,decide_eq_false_iff_not];rintro⟨-,h⟩;have:=zbA.1 (hl _ h);omega
   have h2:(zai c).2.testBit (vars+k)=false:=by
    rw[zdj,decide_eq_false_iff_not];rintro⟨-,h⟩;have:=zbA.1 (hl _ h);omega
   rw[show vars+(k+1)=(vars+k)+1 by omega,zdG,ih (by omega)];unfold ze0;rw[if_neg (by rw[h1];simp),if_neg (by rw[h2];simp)];simp
 have:=key (24-vars) (by omega);rw[show vars+(24-vars)=24 by omega] at this;show (zbs (zai c) 24).length<=vars;rw[this];exact zeB _ _
theorem zt2{vars:Nat}{cs:List (List Int)}{st:List Nd × Int}(h:ClR vars cs st)(h12:vars<=12){c:List Int}(hl:zfS vars c) :
  OpR vars (if zaB (zai c)=true then st.1 else (zcD st.1 (zaz (zai c))).1) (zhe st c) (fun f=>cs.all (clS f)&&clS f c):=by
 have hp:=ze3 h12;have hl24:zfS 24 c:=fun x hx=>zgE (by omega) (hl x hx);have hc:=h.cnt;have hn:=h.len
 by_cases ha:zaB (zai c)=true
 ·unfold zhe;rw[if_pos ha,if_pos ha];have:=zqc true h.good (k:=⟨st.2,1,0⟩) ⟨h.has,zbh _,zce _⟩ (by omega);refine⟨this.good,this.ext,this.has,fun f=>?_,this.len,this.cnt,this.tight⟩;rw[this.sem f,zbJ,zbm,h.sem f,znW hl24 ha];simp only[opS,if_true];cases cs.all (clS f)<;>rfl
 ·have ha':zaB (zai c)=false:=by simpa using ha
  have hv:∀x∈zaz (zai c),zcW x<vars:=fun x hx=>zfs (hl x ((zdl hl24 ha').1 hx));have he:=zg3 h.good (by omega) (by omega) (by omega) (by omega) (zaz (zai c)) (by have:=zeH (zai c);omega) hv;have ht:=he.tight;have hcl:=zeH (zai c);unfold zhe;rw[if_neg ha,if_neg ha];have:=zqc true he.good (k:=⟨st.2,(zcD st.1 (zaz (zai c))).2,0⟩) ⟨he.ext.has _ h.has,he.has,zce _⟩ (by omega);refine⟨this.good,this.ext,this.has,fun f=>?_,this.len,this.cnt,this.tight⟩;rw[this.sem f,zbm,zbM h.good.ranked he.ext h.has,h.sem f,he.sem f,zrH hl24 ha'];simp only[opS,if_true];cases cs.all (clS f)<;>simp
theorem zwi{vars:Nat}{cs:List (List Int)}{st:List Nd × Int}(h:ClR vars cs st)(h12:vars<=12){c:List Int}(hl:zfS vars c):ClR vars (cs++[c]) (zmb st c):=by
 have h1:=zt2 h h12 hl;have hp:=ze3 h12;have hl24:zfS 24 c:=fun x hx=>zgE (by omega) (hl x hx);have hc:=h.cnt;have hn:=h.len;have hb:cnt (if zaB (zai c)=true then st.1 else (zcD st.1 (zaz (zai c))).1)<=cnt st.1+600/\(if zaB (zai c)=true then st.1 else (zcD st.1 (zaz (zai c))).1).length<=max st.1.length (cnt st.1+600):=by
  by_cases ha:zaB (zai c)=true
  ·rw[if_pos ha];exact⟨by omega,by omega⟩
  ·rw[if_neg ha];have ha':zaB (zai c)=false:=by simpa using ha
   have hv:∀x∈zaz (zai c),zcW x<vars:=fun x hx=>zfs (hl x ((zdl hl24 ha').1 hx));have hcl:=zeH (zai c);have he:=zg3 h.good (by omega) (by omega) (by omega) (by omega) (zaz (zai c)) (by omega) hv;exact⟨by have:=he.cnt;omega,by have:=he.tight;omega⟩
 generalize (if zaB (zai c)=true then st.1 else (zcD st.1 (zaz (zai c))).1)=ns1 at *;have hk:=zoe h1.good (fs:=[(zhe st c).2]) (List.mem_singleton.2 rfl) h1.has;have ht:=h1.tight;refine⟨zor h1.good _,hk.1,fun f=>?_,zp5 h1.good _,?_⟩
 ·show Go.Proofs.YtiihalknffbjpaaGreatDoor.Bd.sem (zbD (zhe st c).1 (zaw (zhe st c).1 [(zhe st c).2])) (zhe st c).2 f=_;rw[hk.2 f,h1.sem f,List.all_append];simp
 ·show (zbD _ _).length<=_;rw[zaG];omega
theorem zmu(cs:List (List Int))(c:List Int):clF (cs++[c])=zmb (clF cs) c:=by unfold clF;rw[List.foldl_append];rfl
theorem zp6(vars:Nat):zcq vars []:=⟨⟨fun j h=>by simp at h,fun j h=>by simp at h,fun j h=>by simp at h,fun j h=>by simp at h⟩,fun i j h=>by simp at h,fun i h=>by simp at h,fun i h=>by simp at h,fun i h=>by simp at h⟩
theorem zvL(vars:Nat):ClR vars [] ([],1) :=
 ⟨zp6 vars,zbh _,fun f=>by rw[zbJ];rfl,by show cnt []+1<=_;have:=Nat.one_le_two_pow (n:=vars);simpa[cnt] using this,Nat.zero_le _⟩
theorem zpP{vars:Nat}(h12:vars<=12)(cs:List (List Int))(hl:ze2 vars cs):∀k,k<=cs.length->ClR vars (cs.take k) (clF (cs.take k))
 |0,_=>by rw[List.take_zero];exact zvL vars
 |k+1,hk=>by
  have ih:=zpP h12 cs hl k (by omega);rw[List.take_succ_eq_append_getElem (by omega),zmu];exact zwi ih h12 (hl _ (List.getElem_mem _))
theorem zkk{vals:Nat}{x:Int}(h:zi0 24 x=true):zlt (zkt vals) x=zw7 vals x:=by
 have h0:=zbA.1 h;unfold zlt zw7 zlZ zkt zcW;rw[h,Bool.true_and]
 by_cases hp:0<x
 ·rw[if_pos hp,decide_eq_true hp,show x.natAbs-1=x.toNat-1 by omega];simp
 ·rw[if_neg hp,decide_eq_false hp,show x.natAbs-1=(-x).toNat-1 by omega];cases vals.testBit ((-x).toNat-1)<;>rfl
theorem zmh{vals:Nat}{c:List Int}(h:zfS 24 c):clS (zkt vals) c=zhj vals c:=by
 unfold clS zhj;rw[Bool.eq_iff_iff,List.any_eq_true,List.any_eq_true];exact⟨fun⟨x,h1,h2⟩=>⟨x,h1,by rw[<-zkk (h x h1)];exact h2⟩,fun⟨x,h1,h2⟩=>⟨x,h1,by rw[zkk (h x h1)];exact h2⟩⟩
end Bd
namespace Bd
open Go.RowKit Go.Maps
structure zag(B:Nat)(w:World)(s b:Nat)(O:Nat->Prop)(vars:Nat)(room:Int)(ns:List Nd):Prop where
 arena:∃bm v L next,zan B w b bm v ns L room next/\zri ns L/\(∃i:Nat,next=2+(i:Int)/\i<=ns.length/\∀j,j<i->(nd ns j).v<24)/\(∀k,Own b bm v k->O k)
 own:∀k,O k->B<=k/\k<w.heap.size
 sO:¬O s
 slt:s<w.heap.size
 c0:w.cell? ⟨s,0,none⟩=some (.pointer (some ⟨b,0,none⟩))
 c1:w.cell? ⟨s,1,none⟩=some (.int .i64 vars)
def zav(w:World)(k:Nat):Prop:=∃o:Obj,w.heap[k]?=some o/\o.isCells=true
theorem zav.kept{w w':World}{S:Nat->Prop}{k:Nat}(h:zav w k)(hk:zah S w w')(hn:¬S k):zav w' k:=by
 obtain⟨o,h1,h2⟩:=h;exact⟨o,(hk.block k (Array.getElem?_eq_some_iff.1 h1).1 hn).trans h1,h2⟩
theorem zav.below{w w':World}{k:Nat}(h:zav w k)(hb:zB w w'):zav w' k:=h.kept (zah.of_below hb (fun _=>False)) (fun h=>h)
theorem zr9{w:World}{a:Addr}{v:Value}(h:w.cell? a=some v):zav w a.block:=by
 unfold World.cell? at h;cases e:w.heap[a.block]? with
 |none=>rw[e] at h;cases h
 |some o =>rw[e] at h;cases o<;>first|exact⟨_,e,rfl⟩|cases h
theorem zmp{w:World}{P:Program}{k:TypeId}{R:Value->Option (DataW Unit × List MemPlace)}{bm n:Nat}{D:DataW Unit}(h:w.ownsMap P k R bm n D):¬zav w bm:=by
 obtain⟨es,clock,hb,-⟩:=h;rintro⟨o,h1,h2⟩;rw[hb] at h1;cases h1;cases h2
theorem zty{W:World}{B t k n:Nat}{v:Value}{cs:List Value}(h:W.ownsRow B t k v n cs):∀(j:Nat) (o:Obj),v.ownBlock=some j->W.heap[j]?=some o->o.isCells=true:=by
 intro j o hj ho;rcases h.2 with ⟨rfl,_⟩|⟨g,cap,cur,rfl,_,hg,_⟩
 ·simp[Value.ownBlock] at hj
 ·simp only[Value.ownBlock,Option.some.injEq] at hj;subst hj;rw[hg] at ho;cases ho;rfl
theorem zla{W:World}{B t k n:Nat}{v:Value}{cs:List Value}(h:W.ownsRow B t k v n cs){j:Nat}(hj:v.ownBlock=some j):zav W j:=by
 have hl:=(h.lt j hj).2;obtain⟨o,ho⟩:∃o,W.heap[j]?=some o:=⟨_,Array.getElem?_eq_getElem hl⟩;exact⟨o,ho,zty h j o hj ho⟩
structure za3(O O':Nat->Prop)(w w':World):Prop where
 kept:zah O w w'
 own:∀k,O' k->O k\/w.heap.size<=k
 map:∀k,O' k->zav w' k\/(O k/\¬zav w k)
section
variable {B s b:Nat} {O O' O'':Nat->Prop} {vars:Nat} {room:Int} {ns:List Nd} {w w' w'':World}
theorem zag.kept{S:Nat->Prop}(h:zag B w s b O vars room ns)(hk:zah S w w')(hn:∀k,O k->¬S k)(hs:¬S s):zag B w' s b O vars room ns:=by
 obtain⟨bm,v,L,next,hA,hB,hN,hO⟩:=h.arena;exact ⟨⟨bm,v,L,next,hA.kept hk (fun k hk=>hn k (hO k hk)),hB,hN,hO⟩,fun k hk'=>⟨(h.own k hk').1,Nat.lt_of_lt_of_le (h.own k hk').2 hk.size⟩,h.sO,Nat.lt_of_lt_of_le h.slt hk.size,
  (hk.cell (a:=⟨s,0,none⟩) h.slt hs).trans h.c0,(hk.cell (a:=⟨s,1,none⟩) h.slt hs).trans h.c1⟩
theorem zag.new(h:zag B w s b O vars room ns)(hb:zB w w'):zag B w' s b O vars room ns:=h.kept (zah.of_below hb (fun _=>False)) (fun _ _ h=>h) (fun h=>h)
theorem za3.refl(O:Nat->Prop)(w:World):za3 O O w w:=⟨zah.refl _ _,fun _ h=>.inl h,fun k h=>(Classical.em (zav w k)).imp id (fun n=>⟨h,n⟩)⟩
theorem za3.of_below(O:Nat->Prop)(hb:zB w w'):za3 O O w w':=⟨zah.of_below hb _,fun _ h=>.inl h,fun k h=>(Classical.em (zav w k)).imp (fun c=>c.below hb) (fun n=>⟨h,n⟩)⟩
theorem za3.trans(h:za3 O O' w w')(k:za3 O' O'' w' w''):za3 O O'' w w'' :=
 ⟨h.kept.andThen k.kept (fun i hi hlt=>(h.own i hi).elim id (fun h=>by omega)),fun i hi=>by
  rcases k.own i hi with h1|h1
  ·exact h.own i h1
  ·exact .inr (Nat.le_trans h.kept.size h1),fun i hi=>by
  rcases k.map i hi with h1|⟨h1,h2⟩
  ·exact .inl h1
  ·rcases h.map i h1 with h3|h3
   ·exact absurd h3 h2
   ·exact .inr h3⟩
theorem za3.size(h:za3 O O' w w'):w.heap.size<=w'.heap.size:=h.kept.size
theorem za3.cell(h:za3 O O' w w'){a:Addr}(hlt:a.block<w.heap.size)(hn:¬O a.block):w'.cell? a=w.cell? a:=h.kept.cell hlt hn
theorem za3.beside(h:za3 O O' w w'){j:Nat}(hlt:j<w.heap.size)(hn:¬O j):¬O' j:=fun ho=>by
 rcases h.own j ho with h1|h1
 ·exact hn h1
 ·omega
theorem za3.below{B:Nat}(h:za3 O O' w w')(hB:B<=w.heap.size)(ho:∀k,O k->B<=k):Below B w w':=h.kept.below hB ho
theorem zag.moved{bm:Nat}{v v':Value}{ns':List Nd}{L':List (Nd × Int)}{next':Int}(h:zag B w s b O vars room ns)(hbm0:¬zav w bm)(hO:∀k,Own b bm v k->O k)(hA:zan B w' b bm v' ns' L' room next')(hB:zri ns' L')(hN:∃i:Nat,next'=2+(i:Int)/\i<=ns'.length/\∀j,j<i->(nd ns' j).v<24)
  (hk:zah (Own b bm v) w w') (hv:v'.ownBlock=v.ownBlock\/∃g,v'.ownBlock=some g/\w.heap.size<=g):∃O',zag B w' s b O' vars room ns'/\za3 O O' w w':=by
 have hs:¬Own b bm v s:=fun ho=>h.sO (hO s ho);obtain⟨D,hD,-⟩:=hA.hmap;have hbm:=hD.lt;refine⟨Own b bm v',⟨⟨bm,v',L',next',hA,hB,hN,fun _ h=>h⟩,?_,?_,Nat.lt_of_lt_of_le h.slt hk.size,(hk.cell (a:=⟨s,0,none⟩) h.slt hs).trans h.c0,(hk.cell (a:=⟨s,1,none⟩) h.slt hs).trans h.c1⟩,hk.mono hO,?_,?_⟩
 ·rintro k (e|e|e)
  ·have:=h.own k (hO k (.inl e));exact⟨this.1,Nat.lt_of_lt_of_le this.2 hk.size⟩
  ·have:=h.own k (hO k (.inr (.inl e)));exact⟨this.1,Nat.lt_of_lt_of_le this.2 hk.size⟩
  ·exact hA.row.lt k e
 ·rintro (e|e|e)
  ·exact h.sO (hO s (.inl e))
  ·exact h.sO (hO s (.inr (.inl e)))
  ·rcases hv with h1|⟨g,h1,h2⟩
   ·exact h.sO (hO s (.inr (.inr (by rw[<-h1];exact e))))
   ·rw[h1] at e;cases e;have:=h.slt;omega
 ·rintro k (e|e|e)
  ·exact .inl (hO k (.inl e))
  ·exact .inl (hO k (.inr (.inl e)))
  ·rcases hv with h1|⟨g,h1,h2⟩
   ·exact .inl (hO k (.inr (.inr (by rw[<-h1];exact e))))
   ·rw[h1] at e;cases e;exact .inr h2
 ·rintro k (e|e|e)
  ·rw[e];exact .inl (zr9 hA.croom)
  ·rw[e];exact .inr ⟨hO bm (.inr (.inl rfl)),hbm0⟩
  ·exact .inl (zla hA.row e)
theorem zjE:∀ns:List Nd,(zlx ns).length=cnt ns:=by
 intro ns;unfold zlx cnt;have key:(ns.map fun n=>decide (n.v<24))=(List.range ns.length).map fun i=>decide ((nd ns i).v<24):=by
  apply List.ext_getElem (by simp);intro i h1 h2;simp at h1 h2;simp[zhm ns i h1]
 rw[<-List.countP_eq_length_filter,<-List.countP_eq_length_filter];have e1:List.countP (fun n:Nd=>decide (n.v<24)) ns=List.countP (fun b:Bool=>b) (ns.map fun n=>decide (n.v<24)):=by rw[List.countP_map];rfl
 have e2:List.countP (fun i=>decide ((nd ns i).v<24)) (List.range ns.length)=List.countP (fun b:Bool=>b) ((List.range ns.length).map fun i=>decide ((nd ns i).v<24)):=by rw[List.countP_map];rfl
 rw[e1,e2,key]
theorem zs5(hS:zag B w s b O vars room ns)(hl:ns.length<=90000)(hroom:(cnt ns:Int)<room)(hB:B<=w.heap.size)(n:Nd)(hn:n.Ok)(hf:Fit ns n) :
  zC 350 #[.pointer (some ⟨b,0,none⟩),n.val] w fun e w'=>e=.returned (.tuple #[.int .i64 (zfM ns n).2,.nilIface])/\∃O',zag B w' s b O' vars room (zfM ns n).1/\za3 O O' w w':=by
 obtain⟨bm,v,L,next,hA,hBk,⟨i,hi1,hi2,hi3⟩,hO⟩:=hS.arena;have hLl:L.length<=ns.length:=by rw[zgg hBk];exact zmd ns
 have hLc:L.length<=cnt ns:=by rw[zgg hBk];exact Nat.le_of_eq (zjE ns)
 unfold zfM
 by_cases c:idx ns n<ns.length
 ·rw[if_pos c];have hin:(n,2+(idx ns n:Int))∈L:=by
   have:=hBk.all _ c (by rw[zjo c];exact hf.v1)
   rwa [zjo c] at this
  exact(znn hA (by omega) n hn hf _ hin).mono fun e w' ⟨he,hb⟩=>⟨he,O,hS.new hb,za3.of_below O hb⟩
 ·rw[if_neg c];have hnin:n∉L.map Prod.fst:=fun h=>by
   obtain⟨p,hp,rfl⟩:=List.mem_map.1 h;obtain⟨j,hj,-,rfl⟩:=hBk.mem p hp;exact zmE c hj rfl
  refine(ztk hA (by omega) n hn hf hnin (by omega) (by omega) i hi1 hi2 hB).mono ?_;rintro e w' ⟨k,v',rfl,hk,hocc,hfree,hA',hK,hv⟩;have hocc':∀j,j<k->(nd ns j).v<24:=fun j hj=>by
   by_cases h:j<i
   ·exact hi3 j h
   ·exact hocc j (by omega) hj
  obtain rfl:k=zbr ns:=zrz hk hocc' hfree;refine⟨rfl,hS.moved (by obtain⟨D0,hD0,-⟩:=hA.hmap;exact zmp hD0) hO hA' (zpv hBk hk hfree hf.v1 hnin) ⟨zbr ns,rfl,?_,fun j hj=>?_⟩ hK hv⟩
  ·have:=(zes (n:=n) hk).2;exact Nat.le_trans hk this
  ·show (nd (zd2 ns (zbr ns) n) j).v<24;rw[zb7 hk j (by omega),if_neg (by omega)];exact hocc' j hj
theorem zwU(hS:zag B w s b O vars room ns)(h:Int)(hi:I64 h)(hl:ns.length<=90000) :
  zC 163 #[.pointer (some ⟨b,0,none⟩),.int .i64 h] w fun e w'=>e=.returned (.bool (zaP ns h))/\w=w':=by
 obtain⟨bm,v,L,next,hA,-⟩:=hS.arena;exact ziv hA h hi (by omega)
theorem zuK(hS:zag B w s b O vars room ns)(h:Int)(hi:I64 h)(hl:ns.length<=90000) :
  zC 164 #[.pointer (some ⟨b,0,none⟩),.int .i64 h] w fun e w'=>e=.returned (.int .i64 (zaa ns h))/\w=w':=by
 obtain⟨bm,v,L,next,hA,-⟩:=hS.arena;exact zgG hA h hi (by omega)
theorem zlr(hS:zag B w s b O vars room ns)(h:Int)(hi:I64 h)(hl:ns.length<=90000) :
  zR 92 #[.pointer (some ⟨b,0,none⟩),.int .i64 h] w (.tuple #[(zas ns h).val,.bool (decide (zaa ns h≠24))]):=by
 obtain⟨bm,v,L,next,hA,-⟩:=hS.arena;exact zgn hA h hi (by omega)
theorem zvO(hS:zag B w s b O vars room ns)(hr:zaF ns)(hl:ns.length<=90000)(hB:B<=w.heap.size)(bf:Nat){cp:Nat}(fs:List Int)(hF:zeh w bf fs)(hfl:fs.length<=1000) :
  zC 226 #[.pointer (some ⟨b,0,none⟩),.slice (some ⟨bf,0,none⟩) fs.length cp] w fun e w'=>∃n:Int,e=.returned (.int .i64 n)/\∃O',zag B w' s b O' vars room (zbD ns (zaw ns fs))/\za3 O O' w w':=by
 obtain⟨bm,v,L,next,hA,hBk,-,hO⟩:=hS.arena;have hLl:L.length<=ns.length:=by rw[zgg hBk];exact zmd ns
 refine(zpy hr hBk (by omega) hA bf fs hF hfl hB (by omega)).mono ?_;rintro e w' ⟨rfl,hA',hK⟩;exact⟨_,rfl,hS.moved (by obtain⟨D0,hD0,-⟩:=hA.hmap;exact zmp hD0) hO hA' (znb hBk) ⟨0,rfl,Nat.zero_le _,fun j h=>by omega⟩ hK (.inl rfl)⟩
end
end Bd
namespace Bd
open Go.RowKit Go.Maps
section
variable {B s b:Nat} {O:Nat->Prop} {vars:Nat} {room:Int} {ns:List Nd} {w:World}
theorem ziu(hS:zag B w s b O vars room ns)(hl:ns.length<=90000)(hroom:(cnt ns:Int)<room)(hB:B<=w.heap.size)(v l h:Int)(hv0:0<=v)(hv1:v<24)(hl1:zaP ns l=true)(hh1:zaP ns h=true)(tl:v<zaa ns l)(th:v<zaa ns h) :
  zC 323 #[.pointer (some ⟨s,0,none⟩),.int .i64 v,.int .i64 l,.int .i64 h] w fun e w'=>e=.returned (.tuple #[.int .i64 (zcE ns v l h).2,.nilIface])/\∃O',zag B w' s b O' vars room (zcE ns v l h).1/\za3 O O' w w':=by
 have c0:=hS.c0
 by_cases e:l=h
 ·have hn:zcE ns v l h=(ns,l):=by unfold zcE;rw[if_pos e]
  rw[hn];subst e;have HS:=zH hS;clear hS hl1 hh1 tl th hn;go_enter Tryz.func323,Tryz.ntmps323;go_wp2;go_ret2;exact⟨rfl,O,HS.out,za3.refl _ _⟩
 ·have hn:zcE ns v l h=zfM ns ⟨v,l,h⟩:=by unfold zcE;rw[if_neg e]
  rw[hn];have HM:=zH (zs5 hS hl hroom hB ⟨v,l,h⟩ ⟨⟨by show _<=v;omega,by show v<=_;omega⟩,zbg hl1 (by omega),zbg hh1 (by omega)⟩ ⟨hv0,hv1,hl1,hh1,tl,th⟩);unfold Nd.val at HM;clear hS hl1 hh1 tl th hn;generalize zfM ns ⟨v,l,h⟩=r at *;go_enter Tryz.func323,Tryz.ntmps323;go_wp2_with fail;refine HM.out.mono ?_;rintro e w' ⟨rfl,hO⟩;go_wp2;go_ret2;exact⟨rfl,hO⟩
theorem zpx(hS:zag B w s b O vars room ns)(hl:ns.length<=90000)(h v:Int)(hi:I64 h)(hv1:v<24) :
  zR 351 #[.pointer (some ⟨s,0,none⟩),.int .i64 h,.int .i64 v] w (.tuple #[.int .i64 (loS ns h v),.int .i64 (hiS ns h v)]):=by
 have c0:=hS.c0;have HG:=zH (zlr hS h hi hl);have hsl:=hS.slt
 by_cases ht:zaa ns h=24
 ·have e1:loS ns h v=h:=by unfold loS;rw[if_neg (by omega)]
  have e2:hiS ns h v=h:=by unfold hiS;rw[if_neg (by omega)]
  rw[e1,e2];rw[show decide (zaa ns h≠24)=false by simp[ht]] at HG;generalize zas ns h=gn at *;obtain⟨gv,gl,gh⟩:=gn;unfold Nd.val at HG;clear hS e1 e2 ht;go_enter Tryz.func351,Tryz.ntmps351;go_wp2_with fail;refine HG.out.mono ?_;rintro e w1 ⟨rfl,hb1⟩;have hb2:=hb1.alloc hb1.size (.cells #[.int .i64 gv,.int .i64 gl,.int .i64 gh] 176);clear HG;go_wp2;go_ret2;exact⟨rfl,hb2⟩
 ·rw[show decide (zaa ns h≠24)=true by simp[ht]] at HG;have hgv:(zas ns h).v=zaa ns h:=by
   obtain⟨h1,h2,h3,h4⟩:=zbq ht;unfold zas;rw[if_neg ht];exact h3.symm
  have hgn:zas ns h=nd ns (pl h):=by unfold zas;rw[if_neg ht];rfl
  by_cases ev:zaa ns h=v
  ·have e1:loS ns h v=(zas ns h).l:=by unfold loS;rw[if_pos ev,hgn]
   have e2:hiS ns h v=(zas ns h).h:=by unfold hiS;rw[if_pos ev,hgn]
   rw[e1,e2];rw[ev] at hgv;generalize zas ns h=gn at *;obtain⟨gv,gl,gh⟩:=gn;simp only at hgv;subst hgv;unfold Nd.val at HG;clear hS e1 e2 ht ev hgn;go_enter Tryz.func351,Tryz.ntmps351;go_wp2_with fail;refine HG.out.mono ?_;rintro e w1 ⟨rfl,hb1⟩;have hb2:=hb1.alloc hb1.size (.cells #[.int .i64 gv,.int .i64 gl,.int .i64 gh] 176);obtain⟨x0,x1,x2,-⟩:=zed w1 (.int .i64 gv) (.int .i64 gl) (.int .i64 gh) 176;clear HG;go_wp2_with fail;go_quiet (fail);go_wp2;go_ret2;exact⟨rfl,hb2.trans (zat _ _ _)⟩
  ·have e1:loS ns h v=h:=by unfold loS;rw[if_neg ev]
   have e2:hiS ns h v=h:=by unfold hiS;rw[if_neg ev]
   rw[e1,e2];have hne:¬(zas ns h).v=v:=by rw[hgv];exact ev
   generalize zas ns h=gn at *;obtain⟨gv,gl,gh⟩:=gn;simp only at hne;unfold Nd.val at HG;clear hS e1 e2 ht ev hgn hgv;go_enter Tryz.func351,Tryz.ntmps351;go_wp2_with fail;refine HG.out.mono ?_;rintro e w1 ⟨rfl,hb1⟩;have hb2:=hb1.alloc hb1.size (.cells #[.int .i64 gv,.int .i64 gl,.int .i64 gh] 176);obtain⟨x0,x1,x2,-⟩:=zed w1 (.int .i64 gv) (.int .i64 gl) (.int .i64 gh) 176;clear HG;go_wp2;go_ret2;exact⟨rfl,hb2⟩
theorem zgL(hS:zag B w s b O vars room ns)(hl:ns.length<=90000)(bf:Nat){cp:Nat}(fs:List Int)(hF:zeh w bf fs)(hfl:fs.length<=1000)(hall:∀x∈fs,zaP ns x=true) :
  zC 77 #[.pointer (some ⟨s,0,none⟩),.slice (some ⟨bf,0,none⟩) fs.length cp] w fun e w'=>e=.returned .nilIface/\w=w':=by
 have c0:=hS.c0;have HS:=zH hS;have HF:=zH hF;have HA:=zH hall;clear hS hF hall;go_enter Tryz.func77,Tryz.ntmps77;go_wp2_with fail;go_loop [9] (fun i=>∃k:Nat,k<=fs.length/\i=.int .i64 k) (fun i=>fs.length-(intOf i).toNat)
 case atStart=>exact⟨0,Nat.zero_le _,rfl⟩
 case round =>
  obtain⟨k,hk,rfl⟩:=hrel
  by_cases hlt:k<fs.length
  ·have ck:=HF.out.cells k hlt;have HH:=zH (zwU HS.out fs[k] (HF.out.ok _ (List.getElem_mem hlt)) hl);rw[HA.out _ (List.getElem_mem hlt)] at HH;generalize fs[k]=x at *;go_wp2_with fail;refine HH.out.mono ?_;rintro e w' ⟨rfl,rfl⟩;clear HH;go_wp2;go_round
   case rel=>exact⟨k+1,by omega,by go_num⟩
   case measure=>simp[intOf];omega
  ·go_wp2;go_ret;exact⟨rfl,rfl⟩
theorem zj6(hS:zag B w s b O vars room ns)(v:Int)(h0:0<=v)(h1:v<(vars:Int)) :
  zC 322 #[.pointer (some ⟨s,0,none⟩),.int .i64 v] w fun e w'=>e=.returned .nilIface/\w=w':=by
 have c1:=hS.c1;clear hS;go_enter Tryz.func322,Tryz.ntmps322;go_wp2
 all_goals
  go_ret;exact⟨rfl,rfl⟩
end
end Bd
end Go.Proofs.YtiihalknffbjpaaGreatDoor
