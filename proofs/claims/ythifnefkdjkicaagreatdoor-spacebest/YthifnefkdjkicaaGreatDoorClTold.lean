import Derived.Test.YthifnefkdjkicaaGreatDoorBdMakes
import Derived.Deep.Slices
namespace Go.Proofs.YthifnefkdjkicaaGreatDoor
set_option maxHeartbeats 1000000
set_option maxRecDepth 100000
namespace Bd
open Go.RowKit Go.Maps
structure OpR(vars:Nat)(ns:List Nd)(r:List Nd × Int)(g:(Nat->Bool)->Bool):Prop where
 good:zU vars r.1
 ext:Ext ns r.1
 has:zj r.1 r.2=true
 sem:∀f,sem r.1 r.2 f=g f
 len:r.1.length+1<=ns.length+2^vars
 cnt:cnt r.1+1<=cnt ns+2^vars
 tight:r.1.length+1<=max (ns.length+1) (Go.Proofs.YthifnefkdjkicaaGreatDoor.Bd.cnt ns+2^vars)
def xC(op:Bool)(ns:List Nd)(k:Nd):List Nd × Int:=((zu 24 op ns [] k).1,(zu 24 op ns [] k).2.2)
def xt(ns:List Nd)(v:Int)(is:Bool):List Nd × Int:=if is=true then yi ns v 0 1 else yi ns v 1 0
section
variable {vars:Nat} {ns:List Nd}
theorem JG(op:Bool)(ns:List Nd):Qj op ns []:=⟨fun p h=>(by cases h),fun p h=>(by cases h),fun p h=>(by cases h),fun p h=>(by cases h)⟩
theorem ZZ(ns:List Nd):zj ns 0=true:=by simp[zj]
theorem xT(ns:List Nd):zj ns 1=true:=by simp[zj]
theorem Y4(ns:List Nd):za ns 0=24:=by simp[za]
theorem Yj(ns:List Nd):za ns 1=24:=by simp[za]
theorem Xk(hr:qd ns)(k:Nd):2^rk vars ns k<=2^vars:=Nat.pow_le_pow_right (by omega) (by unfold rk;have:=(QK hr k).1;omega)
theorem zd5(op:Bool)(hg:zU vars ns){k:Nd}(h3:yJ ns k)(hl:ns.length+2^vars<=900000):OpR vars ns (xC op ns k) (fun f=>opS op (sem ns k.v f) (sem ns k.l f) (sem ns k.h f)):=by
 have hp:=Xk (vars:=vars) hg.ranked k;have h:=Qi (op:=op) 24 ns [] k hg (JG op ns) h3 (by have:=(QK hg.ranked k).1;omega) (by omega);exact⟨h.good,h.ext,h.has,h.sem,by have:=h.len;show (zu 24 op ns [] k).1.length+1<=_;omega,by have:=h.cnt;show Go.Proofs.YthifnefkdjkicaaGreatDoor.Bd.cnt (zu 24 op ns [] k).1+1<=_;omega,by have:=h.tight;show (zu 24 op ns [] k).1.length+1<=_;omega⟩
theorem zlw(hg:zU vars ns){v:Int}(is:Bool)(hv0:0<=v)(hv:v<(vars:Int))(hv24:v<24)(hl:ns.length+2^vars<=900000):OpR vars ns (xt ns v is) (fun f=>f v.toNat==is):=by
 have h1:1<=vars:=by omega
 have h2:2<=2^vars:=by
  obtain⟨q,rfl⟩:∃q,vars=q+1:=⟨vars-1,by omega⟩;have:=Nat.one_le_two_pow (n:=q);rw[Nat.pow_succ];omega
 unfold xt;cases is with
 |true =>rw[zA2 rfl];have h:=Q4 hg (v:=v) (l:=0) (h:=1) (by omega) hv0 hv24 hv (ZZ ns) (xT ns) (by rw[Y4];exact hv24) (by rw[Yj];exact hv24);exact⟨h.good,h.ext,h.has,fun f=>by rw[h.sem f,ZT,ZJ];cases f v.toNat<;>rfl,by have:=h.len;omega,by have:=h.cnt;omega,by have:=h.tight;omega⟩
 |false =>rw[zA1 (by simp)];have h:=Q4 hg (v:=v) (l:=1) (h:=0) (by omega) hv0 hv24 hv (xT ns) (ZZ ns) (by rw[Yj];exact hv24) (by rw[Y4];exact hv24);exact⟨h.good,h.ext,h.has,fun f=>by rw[h.sem f,ZT,ZJ];cases f v.toNat<;>rfl,by have:=h.len;omega,by have:=h.cnt;omega,by have:=h.tight;omega⟩
end
end Bd
namespace Bd
open Go.RowKit Go.Maps
theorem zbL{ns:List Nd}(hr:qd ns):∀(d:Nat) (h:Int) (m:List Bool),m.length=ns.length->(∀i,mk m i=true->(nd ns i).v<24)->∀i,mk (zY d ns h m) i=true->(nd ns i).v<24
 |0,_,_,_,hm=>hm
 |d+1,h,m,hl,hm=>by
  unfold zY;split
  ·exact hm
  ·rename_i hn;obtain⟨b1,b2,b3⟩:=Qz (not_or.1 hn).1;have b4:=(qx hr h).2;have b5:=(not_or.1 hn).1;refine zbL hr d _ _ (by rw[Z5,List.length_set,hl]) (zbL hr d _ _ (by rw[List.length_set,hl]) ?_);intro i hi;rw[KM _ _ _ (by omega)] at hi
   by_cases e:i=(h-2).toNat
   ·rw[e];omega
   ·rw[decide_eq_false e,Bool.false_or] at hi;exact hm i hi
theorem zgN{ns:List Nd}(hr:qd ns)(fs:List Int):∀i,mk (qt ns fs) i=true->(nd ns i).v<24:=by
 have:∀(fs:List Int) (m:List Bool),m.length=ns.length->(∀i,mk m i=true->(nd ns i).v<24)->∀i,mk (fs.foldl (fun m h=>zY 24 ns h m) m) i=true->(nd ns i).v<24:=by
  intro fs
  induction fs with
  |nil=>intro m _ h;exact h
  |cons f fs ih=>intro m hl h;exact ih _ (by rw[Z5,hl]) (zbL hr 24 f m hl h)
 exact this fs _ (by simp) (fun i h=>by rw[zfg] at h;cases h)
theorem zdl{ns:List Nd}(hr:qd ns)(fs:List Int):∀i,i<ns.length->mk (qt ns fs) i=true->yW ns (qt ns fs) (nd ns i).l/\yW ns (qt ns fs) (nd ns i).h:=by
 have:∀(fs:List Int) (m:List Bool),m.length=ns.length->(∀i,i<ns.length->mk m i=true->yW ns m (nd ns i).l/\yW ns m (nd ns i).h) ->
   ∀i,i<ns.length->mk (fs.foldl (fun m h=>zY 24 ns h m) m) i=true->yW ns (fs.foldl (fun m h=>zY 24 ns h m) m) (nd ns i).l/\yW ns (fs.foldl (fun m h=>zY 24 ns h m) m) (nd ns i).h:=by
  intro fs
  induction fs with
  |nil=>intro m _ h;exact h
  |cons f fs ih =>
   intro m hl h;refine ih _ (by rw[Z5,hl]) (fun i hi hm=>?_)
   by_cases h0:mk m i=true
   ·exact⟨(h i hi h0).1.grow hl 24 f,(h i hi h0).2.grow hl 24 f⟩
   ·exact(Ja hr 24 f m hl (by have:=(qx hr f).1;omega)).2 i hi hm (by simpa using h0)
 exact this fs _ (by simp) (fun i _ h=>by rw[zfg] at h;cases h)
theorem zpu{ns:List Nd}(hr:qd ns)(fs:List Int):qd (qy ns (qt ns fs)):=by
 have hc:=zdl hr fs;have p:=zgN hr fs;generalize qt ns fs=M at *;have u:∀j,j<ns.length->mk M j=true/\nd (qy ns M) j=nd ns j\/mk M j=false/\nd (qy ns M) j=⟨24,0,0⟩:=fun j hj=>by
  rw[QE ns M j hj]
  by_cases h:mk M j=true
  ·exact .inl ⟨h,by rw[zA2 h]⟩
  ·exact .inr ⟨by simpa using h,by rw[zA1 h]⟩
 have o:∀h,yW ns M h->zj ns h=true->za (qy ns M) h=za ns h/\zj (qy ns M) h=true:=fun h hm hh=>by
  have e:za (qy ns M) h=za ns h:=by
   rw[zdz];rcases hm with hm|hm
   ·rw[hm];split<;>rfl
   ·rw[zA2 hm]
  exact⟨e,by unfold zj at *;rw[e];exact hh⟩
 refine⟨?_,?_,?_,?_⟩<;>intro j hj<;>rw[Zv] at hj
 ·rcases u j hj with ⟨-,e⟩|⟨-,e⟩
  ·rw[e];exact hr.v0 j hj
  ·rw[e];simp
 ·intro hv;rcases u j hj with ⟨hm,e⟩|⟨-,e⟩
  ·rw[e];have:=hr.l j hj (p j hm);have q:=o _ (hc j hj hm).1 this.2;rw[q.1];exact⟨this.1,q.2⟩
  ·rw[e] at hv;simp at hv
 ·intro hv;rcases u j hj with ⟨hm,e⟩|⟨-,e⟩
  ·rw[e];have:=hr.h j hj (p j hm);have q:=o _ (hc j hj hm).2 this.2;rw[q.1];exact⟨this.1,q.2⟩
  ·rw[e] at hv;simp at hv
 ·rcases u j hj with ⟨-,e⟩|⟨-,e⟩
  ·rw[e];exact hr.ok j hj
  ·rw[e];exact⟨⟨by decide,by decide⟩,⟨by decide,by decide⟩,⟨by decide,by decide⟩⟩
theorem zoa{ns:List Nd}{L:List (Nd × Int)}{M:List Bool}(hB:ZQ ns L):ZQ (qy ns M) (LTo L M ns.length):=by
 refine⟨fun p hp=>?_,fun i hi hv=>?_,?_,fun i hi hv=>?_⟩
 ·obtain⟨h1,h2⟩:=List.mem_filter.1 hp;obtain⟨i,hi,hv,rfl⟩:=hB.mem p h1;simp only[show (2+(i:Int)-2).toNat=i by omega,decide_eq_false (show ¬ns.length<=i by omega),Bool.false_or] at h2;refine⟨i,by rw[Zv];exact hi,?_,?_⟩<;>rw[QE ns M i hi,zA2 h2]
  exact hv
 ·rw[Zv] at hi;rw[QE ns M i hi] at hv ⊢
  by_cases hm:mk M i=true
  ·rw[zA2 hm] at hv ⊢;exact List.mem_filter.2 ⟨hB.all i hi hv,by simp only[show (2+(i:Int)-2).toNat=i by omega,hm,Bool.or_true]⟩
  ·rw[zA1 hm] at hv;simp at hv
 ·exact hB.nodup.sublist (List.filter_sublist.map _)
 ·rw[Zv] at hi;rw[QE ns M i hi] at hv ⊢
  by_cases hm:mk M i=true
  ·rw[zA2 hm] at hv ⊢;exact hB.free i hi hv
  ·rw[zA1 hm]
def QW(ns:List Nd):List Nat:=(List.range ns.length).filter fun i=>decide ((nd ns i).v<24)
theorem KW{ns:List Nd}{L:List (Nd × Int)}(hB:ZQ ns L):L.length=(QW ns).length:=by
 have hp:L.Perm ((QW ns).map fun i:Nat=>(nd ns i,2+(i:Int))):=by
  refine(List.perm_ext_iff_of_nodup (List.Pairwise.of_map Prod.fst (fun a b h e=>h (e▸rfl)) hB.nodup) (List.Pairwise.map _ (fun a b h e=>h (by have:=(Prod.mk.inj e).2;omega)) (List.nodup_range.filter _))).2 fun p=>?_;rw[List.mem_map];constructor
  ·intro h;obtain⟨i,hi,hv,rfl⟩:=hB.mem p h;exact⟨i,List.mem_filter.2 ⟨List.mem_range.2 hi,by simpa using hv⟩,rfl⟩
  ·rintro⟨i,hi,rfl⟩;obtain⟨h1,h2⟩:=List.mem_filter.1 hi;exact hB.all i (List.mem_range.1 h1) (by simpa using h2)
 rw[hp.length_eq,List.length_map]
theorem zdE(ns:List Nd):(QW ns).length<=ns.length:=by
 unfold QW;exact Nat.le_trans (List.length_filter_le _ _) (by simp)
end Bd
namespace Bd
open Go.RowKit Go.Maps
section
variable {ns:List Nd} {vars:Nat}
theorem zjC(hr:qd ns)(fs:List Int):∀h∈fs,yW ns (qt ns fs) h:=by
 have:∀(fs:List Int) (m:List Bool),m.length=ns.length->∀h,(h∈fs\/yW ns m h)->yW ns (fs.foldl (fun m h=>zY 24 ns h m) m) h:=by
  intro fs
  induction fs with
  |nil=>intro m _ h hh;exact hh.elim (fun h=>by cases h) id
  |cons f fs ih =>
   intro m hl h hh;refine ih _ (by rw[Z5,hl]) h ?_;rcases hh with hh|hh
   ·rcases List.mem_cons.1 hh with rfl|hh
    ·exact .inr (Ja hr 24 h m hl (by have:=(qx hr h).1;omega)).1
    ·exact .inl hh
   ·exact .inr (hh.grow hl 24 f)
 exact fun h hh=>this fs _ (by simp) h (.inl hh)
theorem zck{M:List Bool}{h:Int}(hm:yW ns M h):za (qy ns M) h=za ns h/\(za ns h≠24->nd (qy ns M) (pl h)=nd ns (pl h)):=by
 have e:za (qy ns M) h=za ns h:=by
  rw[zdz];rcases hm with hm|hm
  ·rw[hm];split<;>rfl
  ·rw[zA2 hm]
 refine⟨e,fun ht=>?_⟩;rcases hm with hm|hm
 ·exact absurd hm ht
 ·rw[QE ns M _ (xj ht).2.1,zA2 (show mk M (pl h)=true from hm)]
theorem zpj(hg:zU vars ns)(fs:List Int):zU vars (qy ns (qt ns fs)):=by
 have hr:=zpu hg.ranked fs;generalize qt ns fs=M at *;have o:∀j,j<ns.length->mk M j=true/\nd (qy ns M) j=nd ns j\/nd (qy ns M) j=⟨24,0,0⟩:=fun j hj=>by
  rw[QE ns M j hj]
  by_cases h:mk M j=true
  ·exact .inl ⟨h,by rw[zA2 h]⟩
  ·exact .inr (by rw[zA1 h])
 refine⟨hr,fun i j hi hj hv e=>?_,fun i hi hv=>?_,fun i hi hv=>?_,fun i hi hv=>?_⟩
 ·rw[Zv] at hi hj;rcases o i hi with ⟨-,e1⟩|e1<;>rw[e1] at hv e
  ·rcases o j hj with ⟨-,e2⟩|e2<;>rw[e2] at e
   ·exact hg.once i j hi hj hv e
   ·rw[e] at hv;simp at hv
  ·simp at hv
 ·rw[Zv] at hi;rcases o i hi with ⟨-,e1⟩|e1<;>rw[e1] at hv ⊢
  ·exact hg.red i hi hv
  ·simp at hv
 ·rw[Zv] at hi;rcases o i hi with ⟨-,e1⟩|e1<;>rw[e1] at hv ⊢
  ·exact hg.vars i hi hv
  ·simp at hv
 ·rw[Zv] at hi;rcases o i hi with ⟨-,e1⟩|e1<;>rw[e1] at hv ⊢
  exact hg.free i hi hv
theorem za1(hr:qd ns)(fs:List Int)(f:Nat->Bool):∀(d:Nat) (h:Int),yW ns (qt ns fs) h->yC d (qy ns (qt ns fs)) h f=yC d ns h f
 |0,_,_=>rfl
 |d+1,h,hm=>by
  obtain⟨e1,e2⟩:=zck hm;unfold yC;rw[e1]
  by_cases ht:za ns h=24
  ·rw[zA2 ht,zA2 ht]
  ·have hk:=zdl hr fs (pl h) (xj ht).2.1 (hm.resolve_left ht);rw[zA1 ht,zA1 ht,e2 ht,za1 hr fs f d _ hk.1,za1 hr fs f d _ hk.2]
theorem zo4(hg:zU vars ns){fs:List Int}{h:Int}(hh:h∈fs)(hb:zj ns h=true):zj (qy ns (qt ns fs)) h=true/\∀f,sem (qy ns (qt ns fs)) h f=sem ns h f:=by
 have hm:=zjC hg.ranked fs h hh;refine⟨?_,fun f=>za1 hg.ranked fs f 24 h hm⟩;unfold zj;rw[(zck hm).1];exact hb
end
abbrev Fn':Type:=(Nat->Bool)->Bool
end Bd
namespace Bd
open Go.RowKit Go.Maps
def Yk(f:Nat->Bool):Nat->Nat
 |0=>0
 |n+1=>Yk f n+(if f n then 2^n else 0)
theorem zeA(f:Nat->Bool):∀n,Yk f n<2^n
 |0=>by simp[Yk]
 |n+1=>by
  have:=zeA f n;unfold Yk;rw[Nat.pow_succ];split<;>omega
theorem zcD(f:Nat->Bool):∀n i,i<n->zM (Yk f n) i=f i
 |n+1,i,h=>by
  have hl:=zeA f n;unfold Yk zM
  by_cases e:i=n
  ·subst e;cases hf:f i with
   |true =>rw[zA2 rfl,Nat.add_comm,Nat.testBit_two_pow_add_eq,Nat.testBit_lt_two_pow hl];rfl
   |false =>rw[zA1 (by simp),Nat.add_zero,Nat.testBit_lt_two_pow hl]
  ·have hi:i<n:=by omega
   have ih:=zcD f n i hi;unfold zM at ih;cases hf:f n with
   |true =>rw[zA2 rfl,Nat.add_comm,Nat.testBit_two_pow_add_gt hi,ih]
   |false =>rw[zA1 (by simp),Nat.add_zero,ih]
end Bd
namespace Bd
open Go.RowKit Go.Maps
def QF:Nat->Nat->Fn'->(Nat->Bool)->Nat
 |0,_,g,f=>if g f then 1 else 0
 |k+1,v,g,f=>QF k (v+1) g (turn f v false)+QF k (v+1) g (turn f v true)
theorem ZM(f:Nat->Bool)(v:Nat)(b:Bool):turn f v b v=b:=by unfold turn;rw[zA2 rfl]
theorem xn(f:Nat->Bool){v i:Nat}(b:Bool)(h:i≠v):turn f v b i=f i:=by unfold turn;rw[zA1 h]
def zlB(vars:Nat)(ns:List Nd)(h:Int)(v:Nat):Nat:=QF (vars-v) v (sem ns h) (fun _=>false)
def y9(vars:Nat)(ns:List Nd)(h:Int):Nat:=min (za ns h).toNat vars
def zny(vars:Nat)(ns:List Nd)(h:Int):Nat:=zlB vars ns h (y9 vars ns h)
section
variable {vars:Nat} {ns:List Nd}
theorem J6(hg:zU vars ns){h:Int}{v:Nat}(hv:(v:Int)<=za ns h):∀f f':Nat->Bool,(∀i,v<=i->f i=f' i)->sem ns h f=sem ns h f':=fun f f' hf =>
 Yy hg.ranked (fun i hi=>hf i (by omega))
end
end Bd
namespace Bd
open Go.RowKit
structure Wy where
 items:Nat
 cost:Int
 can:Bool
abbrev zJ:Type:=Nat->Bool->Int
def woF(C:zJ)(i:Nat)(wo:Wy):Wy:=⟨wo.items,wo.cost+C i false,wo.can⟩
def wiF(C:zJ)(i:Nat)(wi:Wy):Wy:=⟨wi.items|||2^i,wi.cost+C i true,wi.can⟩
def xG(C:zJ)(i:Nat)(wo wi:Wy):Wy:=if wi.can=true/\(wo.can=false\/(wiF C i wi).cost<=(woF C i wo).cost) then wiF C i wi else woF C i wo
def qo(C:zJ):Nat->Nat->Fn'->(Nat->Bool)->Wy
 |0,_,g,f=>⟨0,0,g f⟩
 |k+1,v,g,f=>xG C v (qo C k (v+1) g (turn f v false)) (qo C k (v+1) g (turn f v true))
theorem YP(C:zJ):∀(k v:Nat) {g g':Fn'} (f:Nat->Bool),(∀f',(∀i,i<v->f' i=f i)->g f'=g' f')->qo C k v g f=qo C k v g' f
 |0,v,g,g',f,h=>by unfold qo;rw[h f (fun _ _=>rfl)]
 |k+1,v,g,g',f,h=>by
  unfold qo;rw [YP C k (v + 1) (turn f v false) (fun f' hf=>h f' (fun i hi=>by rw [hf i (by omega),xn _ _ (by omega)])),
   YP C k (v + 1) (turn f v true) (fun f' hf=>h f' (fun i hi=>by rw [hf i (by omega),xn _ _ (by omega)]))]
theorem Xn(C:zJ):∀(k v:Nat) {g:Fn'},(∀f f':Nat->Bool,(∀i,v<=i->f i=f' i)->g f=g f')->∀f f':Nat->Bool,(∀i,v+k<=i->f i=f' i)->qo C k v g f=qo C k v g f'
 |0,v,g,hg,f,f',h=>by unfold qo;rw[hg f f' h]
 |k+1,v,g,hg,f,f',h=>by
  unfold qo;have j:∀b,qo C k (v+1) g (turn f v b)=qo C k (v+1) g (turn f' v b):=fun b=>by
   have e:qo C k (v + 1) g (turn f v b)=qo C k (v + 1) (fun f0=>g (turn f0 v b)) (turn f v b):=YP C k (v + 1) _ (fun f0 hf=>by
    have:turn f0 v b=f0:=funext fun i=>by
     by_cases e:i=v
     ·rw[e,ZM,hf v (by omega),ZM]
     ·rw[xn _ _ e]
    rw [this])
   have e':qo C k (v + 1) g (turn f' v b)=qo C k (v + 1) (fun f0=>g (turn f0 v b)) (turn f' v b):=YP C k (v + 1) _ (fun f0 hf=>by
    have:turn f0 v b=f0:=funext fun i=>by
     by_cases e:i=v
     ·rw[e,ZM,hf v (by omega),ZM]
     ·rw[xn _ _ e]
    rw [this])
   rw[e,e'];refine Xn C k (v+1) (fun a c o=>hg _ _ (fun i hi=>?_)) _ _ (fun i hi=>?_)
   ·by_cases e:i=v
    ·rw[e,ZM,ZM]
    ·rw[xn _ _ e,xn _ _ e];exact o i (by omega)
   ·rw[xn _ _ (by omega),xn _ _ (by omega)];exact h i (by omega)
  rw[j false,j true]
def zw(C:zJ)(vars:Nat)(ns:List Nd)(h:Int)(v:Nat):Wy:=qo C (vars-v) v (sem ns h) (fun _=>false)
def yk(C:zJ)(vars:Nat)(ns:List Nd)(h:Int):Wy:=zw C vars ns h (y9 vars ns h)
section
variable {C:zJ} {vars:Nat} {ns:List Nd}
theorem zit(hg:zU vars ns){h:Int}{v:Nat}(hv:v<y9 vars ns h):zw C vars ns h v=xG C v (zw C vars ns h (v+1)) (zw C vars ns h (v+1)):=by
 have h0:=(qx hg.ranked h).1;have j:((v+1:Nat):Int)<=za ns h:=by unfold y9 at hv;omega
 have o:v<vars:=by unfold y9 at hv;omega
 have hs:=J6 hg (h:=h) (v:=v+1) j;unfold zw;rw[show vars-v=(vars-(v+1))+1 by omega]
 conv=>lhs;unfold qo
 rw [Xn C _ (v + 1) hs (turn (fun _=>false) v false) (fun _=>false) (fun i hi=>xn _ _ (by omega)),
  Xn C _ (v + 1) hs (turn (fun _=>false) v true) (fun _=>false) (fun i hi=>xn _ _ (by omega))]
theorem zjh{h:Int}(hh:zj ns h=true)(ht:za ns h=24)(hv:vars<=24):yk C vars ns h=⟨0,0,decide (h=1)⟩:=by
 have e:y9 vars ns h=vars:=by unfold y9;rw[ht];simp;omega
 unfold yk zw;rw[e,Nat.sub_self];unfold qo;rcases Y3 hh ht with rfl|rfl
 ·rw[ZJ];rfl
 ·rw[ZT];rfl
theorem zok(hg:zU vars ns){h:Int}(ht:za ns h≠24):yk C vars ns h=xG C (za ns h).toNat (zw C vars ns (nd ns (pl h)).l ((za ns h).toNat+1)) (zw C vars ns (nd ns (pl h)).h ((za ns h).toNat+1)):=by
 have hv:=Ku hg ht;have h0:=(qx hg.ranked h).1;obtain⟨k1,-,k2,-⟩:=ZF hg.ranked ht;obtain⟨v,e⟩:∃v:Nat,za ns h=(v:Int):=⟨(za ns h).toNat,by omega⟩;have et:y9 vars ns h=v:=by unfold y9;rw[e];simp;omega
 have en:=Xe hg.ranked ht;unfold yk;rw[et];rw[e] at hv k1 k2 en ⊢;rw[Int.toNat_natCast] at en ⊢;unfold zw;rw[show vars-v=(vars-(v+1))+1 by omega];rw[qo];have hl:=J6 hg (h:=(nd ns (pl h)).l) (v:=v+1) (by omega);have hh:=J6 hg (h:=(nd ns (pl h)).h) (v:=v+1) (by omega);have e1:qo C (vars-(v+1)) (v+1) (sem ns h) (turn (fun _=>false) v false)=qo C (vars-(v+1)) (v+1) (sem ns (nd ns (pl h)).l) (turn (fun _=>false) v false) :=
  YP C _ _ _ (fun f' hf=>by
   have:f' v=false:=by rw[hf v (by omega),ZM]
   rw [en f',this];rfl)
 have e2:qo C (vars-(v+1)) (v+1) (sem ns h) (turn (fun _=>false) v true)=qo C (vars-(v+1)) (v+1) (sem ns (nd ns (pl h)).h) (turn (fun _=>false) v true) :=
  YP C _ _ _ (fun f' hf=>by
   have:f' v=true:=by rw[hf v (by omega),ZM]
   rw [en f',this];rfl)
 rw [e1,e2,Xn C _ (v + 1) hl (turn (fun _=>false) v false) (fun _=>false) (fun i hi=>xn _ _ (by omega)),
  Xn C _ (v + 1) hh (turn (fun _=>false) v true) (fun _=>false) (fun i hi=>xn _ _ (by omega))]
structure XJ(k v:Nat)(x:Wy):Prop where
 c0:0<=x.cost
 c1:x.cost<=1000000*(k:Int)
 it:x.items<2^(v+k)
def Zj(C:zJ):Prop:=∀i b,0<=C i b/\C i b<=1000000
theorem XJ.bet(hC:Zj C){k v:Nat}{a b:Wy}(ha:XJ k (v+1) a)(hb:XJ k (v+1) b):XJ (k+1) v (xG C v a b):=by
 have h1:=hC v false;have h2:=hC v true;have e:v+1+k=v+(k+1):=by omega
 have:=ha.c0;have:=ha.c1;have:=hb.c0;have:=hb.c1;have i1:=ha.it;have i2:=hb.it;rw[e] at i1 i2;unfold xG;split
 ·refine⟨by show 0<=b.cost+C v true;omega,by show b.cost+C v true<=_;omega,?_⟩;show b.items|||2^v<2^(v+(k+1));exact Nat.or_lt_two_pow i2 (Nat.pow_lt_pow_right (by omega) (by omega))
 ·exact⟨by show 0<=a.cost+C v false;omega,by show a.cost+C v false<=_;omega,i1⟩
theorem zbu(hC:Zj C)(g:Fn'):∀(k v:Nat) (f:Nat->Bool),XJ k v (qo C k v g f)
 |0,v,f=>⟨Int.le_refl _,by show (0:Int)<=_;omega,Nat.two_pow_pos _⟩
 |k+1,v,f=>by unfold qo;exact(zbu hC g k (v+1) _).bet hC (zbu hC g k (v+1) _)
theorem za0(hC:Zj C)(hv24:vars<=24)(h:Int)(v:Nat):0<=(zw C vars ns h v).cost/\(zw C vars ns h v).cost<=24000000/\(v<=vars->(zw C vars ns h v).items<2^vars):=by
 have:=zbu hC (sem ns h) (vars-v) v (fun _=>false);have h1:=this.c0;have h2:=this.c1;exact⟨h1,by show (qo C (vars-v) v (sem ns h) (fun _=>false)).cost<=_;omega,fun hv=>by have:=this.it;rw[show v+(vars-v)=vars by omega] at this;exact this⟩
end
end Bd
section
theorem X7(w:World)(v:Value)(t:TypeId):(w.alloc (.cells #[v] t)).cell? w.heap.size=some v:=by simp
theorem za6(w:World)(v:Value)(t:TypeId):(w.alloc (.cells #[v] t)).frozen? w.heap.size=false:=by simp
end
section
open Go.RowKit
def Qo(w:World)(e:Value)(m pl:Int):Prop :=
 (m=0/\pl=-1/\e=.nilIface)\/(m≠0/\pl=-1/\e=.iface 42 (.int .i64 m)) \/
 (m≠0/\∃b,b<w.heap.size/\e=.iface 100 (.pointer (some ⟨b,0,none⟩))/\w.cell? ⟨b,0,none⟩=some (.int .i64 m)/\w.cell? ⟨b,1,none⟩=some (.int .i64 pl))
theorem Qo.below{w w':World}{e:Value}{m pl:Int}(h:Qo w e m pl)(hb:zB w w'):Qo w' e m pl:=by
 rcases h with h|h|⟨h0,b,h1,h2,h3,h4⟩
 ·exact Or.inl h
 ·exact Or.inr (Or.inl h)
 ·exact Or.inr (Or.inr ⟨h0,b,Nat.lt_of_lt_of_le h1 hb.size,h2,(hb.cell (p:=b) h1).trans h3,(hb.cell (p:=⟨b,1,none⟩) h1).trans h4⟩)
end
section
open Go.RowKit
def I64(x:Int):Prop:=-9223372036854775808<=x/\x<=9223372036854775807
theorem below_new(w:World)(o:Obj):zB w (w.alloc o):=zF.alloc zN _
theorem Zt(a:Addr)(i:Nat):(a.add i).block=a.block:=by unfold Addr.add;split<;>rfl
def qe(w:World)(a:Option Addr)(xs:List Int):Prop :=
 ∀i,i<xs.length->∃ad:Addr,a=some ad/\ad.block<w.heap.size/\w.cell? (ad.add i)=some (.int .i64 (xs.getD i 0))
theorem qe.below{w w':World}{a:Option Addr}{xs:List Int}(h:qe w a xs)(hb:zB w w'):qe w' a xs:=by
 intro i hi;obtain⟨ad,ha,hl,hc⟩:=h i hi;exact⟨ad,ha,Nat.lt_of_lt_of_le hl hb.size,(hb.cell (by rw[Zt];exact hl)).trans hc⟩
theorem qe.nil(w:World)(a:Option Addr):qe w a []:=fun i hi=>by simp at hi
def xJ(w:World)(a:Option Addr)(l:List (List Int)):Prop :=
 ∀i,i<l.length->∃(ad:Addr) (a':Option Addr) (cap:Nat),a=some ad/\ad.block<w.heap.size/\w.cell? (ad.add i)=some (.slice a' (l.getD i []).length cap)/\(l.getD i []).length<=cap/\cap<=9223372036854775807/\qe w a' (l.getD i [])
theorem xJ.below{w w':World}{a:Option Addr}{l:List (List Int)}(h:xJ w a l)(hb:zB w w'):xJ w' a l:=by
 intro i hi;obtain⟨ad,a',j,ha,hl,hc,h1,h2,h3⟩:=h i hi;exact⟨ad,a',j,ha,Nat.lt_of_lt_of_le hl hb.size,(hb.cell (by rw[Zt];exact hl)).trans hc,h1,h2,h3.below hb⟩
theorem xR{α:Type}{l:List α}{i:Nat}{d:α}(h:i<l.length):l.getD i d∈l:=by
 rw[List.getD_eq_getElem?_getD,List.getElem?_eq_getElem h];exact List.getElem_mem h
def yI{α:Type}(p:α->Bool)(xs:List α):Int:=match xs.findIdx? p with|some i=>(i:Int)|none=>-1
theorem JV{α:Type}{p:α->Bool}{xs:List α}{k:Nat}{d:α}(h0:∀j,j<k->p (xs.getD j d)=false)(hk:k<xs.length)(h1:p (xs.getD k d)=true):yI p xs=(k:Int):=by
 have:xs.findIdx? p=some k:=by
  rw[List.findIdx?_eq_some_iff_getElem];refine⟨hk,?_,fun j hj=>?_⟩
  ·rw[List.getD_eq_getElem?_getD,List.getElem?_eq_getElem hk] at h1;exact h1
  ·have:=h0 j hj;rw[List.getD_eq_getElem?_getD,List.getElem?_eq_getElem (by omega)] at this;simpa using this
 simp[yI,this]
theorem zbP{α:Type}{p:α->Bool}{xs:List α}{d:α}(h0:∀j,j<xs.length->p (xs.getD j d)=false):yI p xs=-1:=by
 have:xs.findIdx? p=none:=by
  rw[List.findIdx?_eq_none_iff];intro x hx;obtain⟨j,hj,rfl⟩:=List.getElem_of_mem hx;have:=h0 j hj;rw[List.getD_eq_getElem?_getD,List.getElem?_eq_getElem hj] at this;simpa using this
 simp[yI,this]
theorem zaI{α:Type}(p:α->Bool)(xs:List α):decide (0<=yI p xs)=xs.any p:=by
 rw[Bool.eq_iff_iff];simp only[decide_eq_true_eq];unfold yI;cases h:xs.findIdx? p with
 |none =>
  rw[List.findIdx?_eq_none_iff] at h;simp only[List.any_eq_true];constructor
  ·intro h;omega
  ·rintro⟨x,hx,hp⟩;rw[h x hx] at hp;cases hp
 |some i =>rw[List.findIdx?_eq_some_iff_getElem] at h;obtain⟨hi,hp,-⟩:=h;simp only[List.any_eq_true];exact⟨fun _=>⟨_,List.getElem_mem hi,hp⟩,fun _=>by omega⟩
theorem ziv(F:Nat)(cb:Array Value)(p:Int->Bool)(xs:List Int)(a:Option Addr)(cap:Nat)(w:World)(hm:xs.length<=9223372036854775807)
  (hent:∀q w,(callFunc F q).run Tryz.prog w=.ok (.enter F q) w) (hI:qe w a xs)
  (hf:∀W i,zB w W->i<xs.length->zR F (#[.int .i64 (xs.getD i 0)]++cb) W (.bool (p (xs.getD i 0)))) :
  zR 131 #[.slice a xs.length cap,.func (.func F) #[] cb] w (.int .i64 (yI p xs)):=by
 have HF:=zH hf;have HI:=zH hI;clear hf hI;go_enter Tryz.func131,Tryz.ntmps131;go_wp2_with fail;go_loopw [8] (fun kV wr=>∃k:Nat,k<=xs.length/\kV=.int .i64 k/\(∀j,j<k->p (xs.getD j 0)=false)/\zB w wr) (fun kV _=>xs.length-(intOf kV).toNat)
 case atStart=>exact⟨0,Nat.zero_le _,rfl,fun j h=>by omega,Below.refl _ _⟩
 case round =>
  obtain⟨k,hk,rfl,h1,J⟩:=hrel;have H1:=zH h1;have o:=zH J;clear h1 J
  by_cases hlt:k<xs.length
  ·obtain⟨ad,rfl,hl,hc⟩:=HI.out.below o.out k hlt;have HC:=zH (HF.out wr k o.out hlt);cases hp:p (xs.getD k 0) with
   |true =>rw[hp] at HC;have HP:=zH hp;clear hp;generalize hx:xs.getD k 0=x at *;have HX:=zH hx;clear hx;go_wp2_with fail;refine HC.out.mono ?_;rintro e w1 ⟨rfl,u⟩;have y:Hid (zB w w1):=zT o.out u;clear u HC;go_wp2;go_ret;exact⟨by rw[JV H1.out hlt (by rw[HX.out];exact HP.out)];rfl,y.out⟩
   |false =>
    rw[hp] at HC;have HP:=zH hp;clear hp;generalize hx:xs.getD k 0=x at *;have HX:=zH hx;clear hx;go_wp2_with fail;refine HC.out.mono ?_;rintro e w1 ⟨rfl,u⟩;have y:Hid (zB w w1):=zT o.out u;clear u HC;go_wp2;go_roundw
    case rel=>exact ⟨k + 1,hlt,by go_num,fun j hj=>(by
     rcases Nat.lt_succ_iff_lt_or_eq.1 hj with e|e
     ·exact H1.out j e
     ·rw [e,HX.out];exact HP.out),y.out⟩
    case measure=>simp[intOf];omega
  ·obtain rfl:k=xs.length:=by omega
   go_wp2;go_ret;exact⟨by rw[zbP H1.out];rfl,o.out⟩
theorem zk9(F:Nat)(cb:Array Value)(p:Int->Bool)(xs:List Int)(a:Option Addr)(cap:Nat)(w:World)(hm:xs.length<=9223372036854775807)
  (hent:∀j w,(callFunc F j).run Tryz.prog w=.ok (.enter F j) w) (hI:qe w a xs)
  (hf:∀W i,zB w W->i<xs.length->zR F (#[.int .i64 (xs.getD i 0)]++cb) W (.bool (p (xs.getD i 0)))) :
  zR 90 #[.slice a xs.length cap,.func (.func F) #[] cb] w (.bool (xs.any p)):=by
 have H:=zH (ziv F cb p xs a cap w hm hent hI hf);clear hf hI hent;rw[<-zaI];generalize yI p xs=i at *;go_enter Tryz.func90,Tryz.ntmps90;go_wp2_with fail;refine H.out.mono ?_;rintro e w1 ⟨rfl,o⟩;have q:=zH o;clear o H;go_wp2;go_ret;exact⟨by first|rfl|simp,q.out⟩
end
section
open Go.RowKit
def yj(v x:Int):Bool:=decide (x≠0/\-v<=x/\x<=v)
end
section
open Go.RowKit
def yq(vals:Nat)(x:Int):Bool:=if 0<x then vals.testBit (x.toNat-1) else !vals.testBit ((-x).toNat-1)
def QR(vals:Nat)(x:Int):Bool:=yj 24 x&&yq vals x
def ZE(vals:Nat)(c:List Int):Bool:=c.any (QR vals)
theorem XB(vals t:Nat)(hv:vals<18446744073709551616):(bits BinOp.and IntKind.u64 ((vals:Int)/2^t) 1==1)=vals.testBit t:=by
 have e:(vals:Int)/2^t=((vals/2^t:Nat):Int):=by simp
 have hd:vals/2^t<=vals:=Nat.div_le_self _ _;rw[e,Nat.testBit_eq_decide_div_mod_eq];generalize vals/2^t=m at *;rw[and_one_u64 _ (by omega) (by omega),Bool.eq_iff_iff];simp;omega
theorem zkA(vals t:Nat)(hv:vals<18446744073709551616):(bits BinOp.and IntKind.u64 ((vals:Int)/2^t) 1==0)=!vals.testBit t:=by
 have e:(vals:Int)/2^t=((vals/2^t:Nat):Int):=by simp
 have hd:vals/2^t<=vals:=Nat.div_le_self _ _;rw[e,Nat.testBit_eq_decide_div_mod_eq];generalize vals/2^t=m at *;rw[and_one_u64 _ (by omega) (by omega),Bool.eq_iff_iff];simp;omega
end
section
open Go.RowKit
def tv(told:List Int)(i:Nat):Int:=if ((i:Int)+1)∈told then 1 else if -((i:Int)+1)∈told then -1 else 0
def xM(told:List Int)(x:Int):Int:=if x∈told then 1 else if -x∈told then -1 else 0
def Zn(told:List Int):Prop:=∀x∈told,-x∉told
def ql(v:Int)(xs:List Int):Prop:=∀x∈xs,yj v x=true
theorem xA{v x:Int}:yj v x=true↔x≠0/\-v<=x/\x<=v:=by simp[yj]
theorem zco{told:List Int}{x:Int}:xM told x=0↔x∉told/\-x∉told:=by
 unfold xM
 by_cases h1:x∈told
 ·simp[h1]
 ·by_cases h2:-x∈told
  ·simp[h1,h2]
  ·simp[h1,h2]
theorem zbo{told:List Int}{x:Int}:0<xM told x↔x∈told:=by
 unfold xM
 by_cases h1:x∈told
 ·simp[h1]
 ·by_cases h2:-x∈told<;>simp[h1,h2]
theorem zfL{told:List Int}(hc:Zn told){x:Int}:0<=xM told x↔-x∉told:=by
 unfold xM
 by_cases h1:x∈told
 ·have:=hc x h1;simp[h1,this]
 ·by_cases h2:-x∈told<;>simp[h1,h2]
def Yp(told:List Int)(one x:Int):Bool:=decide (0<xM told x)||(decide (xM told x=0)&&x != one)
def Qu(told:List Int)(c:List Int):Int × Bool :=
 if yI (fun x=>decide (0<=xM told x)) c<0 then (0,true)
 else if (c.drop (yI (fun x=>decide (0<=xM told x)) c).toNat).any (Yp told (c.getD (yI (fun x=>decide (0<=xM told x)) c).toNat 0)) then (0,false)
 else (c.getD (yI (fun x=>decide (0<=xM told x)) c).toNat 0,true)
theorem zhL{α:Type}(p:α->Bool)(xs:List α)(d:α):(yI p xs=-1/\∀x∈xs,p x=false)\/∃k:Nat,yI p xs=(k:Int)/\k<xs.length/\p (xs.getD k d)=true/\∀x∈xs.take k,p x=false:=by
 unfold yI;cases h:xs.findIdx? p with
 |none=>exact Or.inl ⟨rfl,fun x hx=>by simpa using List.findIdx?_eq_none_iff.1 h x hx⟩
 |some k =>rw[List.findIdx?_eq_some_iff_getElem] at h;obtain⟨hk,hp,hj⟩:=h;refine Or.inr ⟨k,rfl,hk,by rw[List.getD_eq_getElem?_getD,List.getElem?_eq_getElem hk];exact hp,fun x hx=>?_⟩;obtain⟨j,o,rfl⟩:=List.getElem_of_mem hx;rw[List.length_take] at o;rw[List.getElem_take];simpa using hj j (by omega)
inductive Xz (told c:List Int):Int × Bool->Prop
 |none (h:∀x∈c,x∉told/\-x∈told):Xz told c (0,true)
 |one {x:Int} (hx:x∈c) (h0:x∉told) (h1:-x∉told) (h:∀y∈c,y≠x->y∉told/\-y∈told):Xz told c (x,true)
 |held {x:Int} (hx:x∈c) (h:x∈told):Xz told c (0,false)
 |two {x y:Int} (hx:x∈c) (hy:y∈c) (hne:x≠y) (h0:x∉told) (h1:-x∉told) (h2:y∉told) (h3:-y∉told):Xz told c (0,false)
theorem zeh{told c:List Int}(hc:Zn told):Xz told c (Qu told c):=by
 unfold Qu;have q:∀x,(decide (0<=xM told x))=false↔-x∈told:=fun x=>by
  rw[decide_eq_false_iff_not,zfL hc,Classical.not_not]
 have u:∀x,-x∈told->x∉told:=fun x h h2=>hc x h2 h;rcases zhL (fun x=>decide (0<=xM told x)) c 0 with ⟨hi,h⟩|⟨k,hi,hk,hp,hl⟩
 ·rw[hi,zA2 (by omega)];exact .none fun x hx=>⟨u x ((q x).1 (h x hx)),(q x).1 (h x hx)⟩
 ·rw[hi,zA1 (by omega),Int.toNat_natCast];have hm:c.getD k 0∈c:=xR hk;have J:-(c.getD k 0)∉told:=(zfL hc).1 (of_decide_eq_true hp)
  by_cases j:(c.drop k).any (Yp told (c.getD k 0))=true
  ·rw[zA2 j];obtain⟨y,hy,p⟩:=List.any_eq_true.1 j;have K:=List.mem_of_mem_drop hy;unfold Yp at p;rw[Bool.or_eq_true,Bool.and_eq_true] at p;rcases p with h1|⟨h1,h2⟩
   ·exact .held K (zbo.1 (of_decide_eq_true h1))
   ·have h3:=zco.1 (of_decide_eq_true h1)
    by_cases o:c.getD k 0∈told
    ·exact .held hm o
    ·exact .two hm K (fun e=>by rw[<-e,bne_self_eq_false] at h2;cases h2) o J h3.1 h3.2
  ·rw[zA1 j];have hany':∀y∈c.drop k,Yp told (c.getD k 0) y=false:=fun y hy=>by
    cases hh:Yp told (c.getD k 0) y with
    |false=>rfl
    |true=>exact absurd (List.any_eq_true.2 ⟨y,hy,hh⟩) j
   have o:c.getD k 0∉told:=fun h=>by
    have:=hany' (c.getD k 0) (by
     rw[List.getD_eq_getElem?_getD,List.getElem?_eq_getElem hk];exact List.mem_drop_iff_getElem.2 ⟨0,by omega,by simp⟩)
    unfold Yp at this;rw[Bool.or_eq_false_iff] at this;exact(of_decide_eq_false this.1) (zbo.2 h)
   refine .one hm o J fun y hy M=>?_;rw[<-List.take_append_drop k c,List.mem_append] at hy;rcases hy with hy|hy
   ·have:=(q y).1 (hl y hy);exact⟨u y this,this⟩
   ·have:=hany' y hy;unfold Yp at this;rw[Bool.or_eq_false_iff,Bool.and_eq_false_iff] at this;have h1:=of_decide_eq_false this.1;have h2:xM told y≠0:=by
     rcases this.2 with h|h
     ·exact of_decide_eq_false h
     ·simp at h;exact absurd h M
    have h3:-y∈told:=by
     by_cases hm:-y∈told
     ·exact hm
     ·exact absurd (zco.2 ⟨fun h=>h1 (zbo.2 h),hm⟩) h2
    exact⟨u y h3,h3⟩
def XD(told:List Int)(l:List (List Int)):Int × Int :=
 match l.findIdx? (fun c=>(Qu told c).2) with|some i=>((i:Int),(Qu told (l.getD i [])).1)|none=>(-1,0)
inductive X6 (told:List Int) (l:List (List Int)):Int × Int->Prop
 |none (h:∀c∈l,(∃x∈c,x∈told)\/∃x∈c,∃y∈c,x≠y/\x∉told/\-x∉told/\y∉told/\-y∉told):X6 told l (-1,0)
 |bad {k:Nat} (hk:k<l.length) (h:∀x∈l.getD k [],x∉told/\-x∈told):X6 told l ((k:Int),0)
 |one {k:Nat} {x:Int} (hk:k<l.length) (hx:x∈l.getD k []) (h0:x∉told) (h1:-x∉told) (h:∀y∈l.getD k [],y≠x->y∉told/\-y∈told):X6 told l ((k:Int),x)
theorem zgE{told:List Int}{l:List (List Int)}(hc:Zn told):X6 told l (XD told l):=by
 unfold XD;cases h:l.findIdx? (fun c=>(Qu told c).2) with
 |none =>
  rw[List.findIdx?_eq_none_iff] at h;refine .none fun c j=>?_;have h1:=h c j;have h2:=zeh (c:=c) hc;generalize Qu told c=r at *;cases h2 with
  |none=>simp at h1
  |one=>simp at h1
  |held hx h=>exact Or.inl ⟨_,hx,h⟩
  |two hx hy hne q0 q1 q2 q3=>exact Or.inr ⟨_,hx,_,hy,hne,q0,q1,q2,q3⟩
 |some k =>
  rw[List.findIdx?_eq_some_iff_getElem] at h;obtain⟨hk,hp,-⟩:=h;have e:l.getD k []=l[k]:=by rw[List.getD_eq_getElem?_getD,List.getElem?_eq_getElem hk];rfl
  rw[<-e] at hp;have h2:=zeh (c:=l.getD k []) hc;show X6 told l ((k:Int),(Qu told (l.getD k [])).1);generalize Qu told (l.getD k [])=r at *;cases h2 with
  |none h=>exact .bad hk h
  |one hx h0 h1 h=>exact .one hk hx h0 h1 h
  |held=>simp at hp
  |two=>simp at hp
inductive XR (l:List (List Int)):List Int->List Int->Int->Prop
 |stop {told:List Int} {i:Int} (h:XD told l=(i,0)):XR l told told i
 |step {told t:List Int} {i x b:Int} (h:XD told l=(i,x)) (hx:x≠0) (hs:XR l (told++[x]) t b):XR l told t b
def free(told:List Int):Nat:=(List.range 24).countP (fun i=>tv told i==0)
theorem znh{told:List Int}{x:Int}(hn:-x∉told)(i:Nat):tv (told++[x]) i=if (i:Int)+1=x then 1 else if (i:Int)+1=-x then -1 else tv told i:=by
 unfold tv;simp only[List.mem_append,List.mem_singleton]
 by_cases h1:(i:Int)+1=x
 ·rw[zA2 (Or.inr h1),zA2 h1]
 ·rw[zA1 h1]
  by_cases h2:(i:Int)+1=-x
  ·have h0:(i:Int)+1∉told:=by rw[h2];exact hn
   rw[zA2 h2,zA1 (by rintro (h|h);exact h0 h;exact h1 h),zA2 (Or.inr (by omega))]
  ·rw[zA1 h2];have h3:¬-((i:Int)+1)=x:=by omega
   have e1:((i:Int)+1∈told\/(i:Int)+1=x)↔(i:Int)+1∈told:=⟨fun h=>h.resolve_right h1,Or.inl⟩;have e2:(-((i:Int)+1)∈told\/-((i:Int)+1)=x)↔-((i:Int)+1)∈told:=⟨fun h=>h.resolve_right h3,Or.inl⟩;simp only[e1,e2]
theorem zoF{told:List Int}{x:Int}(hc:Zn told)(hx:x≠0)(h1:-x∉told):Zn (told++[x]):=by
 intro y hy hn;simp only[List.mem_append,List.mem_singleton] at hy hn;rcases hy with hy|hy
 ·rcases hn with hn|hn
  ·exact hc y hy hn
  ·exact h1 (by rw[show -x=y by omega];exact hy)
 ·rcases hn with hn|hn
  ·rw[hy] at hn;exact h1 hn
  ·omega
theorem zo1{v:Int}{told:List Int}{x:Int}(hc:ql v told)(hx:yj v x=true):ql v (told++[x]):=by
 intro y hy;simp only[List.mem_append,List.mem_singleton] at hy;rcases hy with hy|hy
 ·exact hc y hy
 ·rw[hy];exact hx
def yP(v:Int)(l:List (List Int)):Prop:=∀c∈l,ql v c
theorem QM{v x:Int}(hv:v<=24)(h:yj v x=true):yj 24 x=true:=by
 rw[xA] at *;omega
theorem zna{l:List (List Int)}{v:Int}(hl:yP v l){told:List Int}(hc:Zn told)(hs:ql v told){i x:Int}(e:XD told l=(i,x))(hx:x≠0):yj v x=true/\x∉told/\-x∉told/\Zn (told++[x])/\ql v (told++[x]):=by
 have hn:=zgE (l:=l) hc;rw[e] at hn;cases hn with
 |none=>exact absurd rfl hx
 |bad=>exact absurd rfl hx
 |one hk hxc h0 h1 _ =>have j:=hl _ (xR hk) _ hxc;exact⟨j,h0,h1,zoF hc hx h1,zo1 hs j⟩
theorem XR.good{l:List (List Int)}{v:Int}(hl:yP v l){told t:List Int}{b:Int}(h:XR l told t b)(hc:Zn told)(hs:ql v told):Zn t/\ql v t:=by
 induction h with
 |stop _=>exact⟨hc,hs⟩
 |step e hx _ ih =>obtain⟨_,_,_,h4,h5⟩:=zna hl hc hs e hx;exact ih h4 h5
end
end Go.Proofs.YthifnefkdjkicaaGreatDoor
