import Derived.Test.YtoffdbflfikcoaaGreatDoora2
import Derived.Deep.Slices
open Go.RowKit
namespace Go.Proofs.YtoffdbflfikcoaaGreatDoor
set_option maxHeartbeats 1000000
set_option maxRecDepth 100000
namespace Bd
open Go.Maps
theorem zaJ{ns:List Nd}(hr:zZ ns):∀(d:Nat) (h:Int) (m:List Bool),m.length=ns.length->(∀i,mk m i=true->(nd ns i).v<24)->∀i,mk (zS d ns h m) i=true->(nd ns i).v<24
 |0,_,_,_,hm=>hm
 |d+1,h,m,hl,hm=>by
  unfold zS;split
  ·exact hm
  ·rename_i hn;obtain⟨b1,b2,b3⟩:=QY (not_or.1 hn).1;have b4:=(qe hr h).2;have b5:=(not_or.1 hn).1;refine zaJ hr d _ _ (by rw[Qh,zr3,hl]) (zaJ hr d _ _ (by rw[zr3,hl]) ?_);intro i hi;rw[KD _ _ _ (by omega)] at hi
   by_cases e:i=(h-2).toNat
   ·rw[e];omega
   ·rw[zf5 e,zt0] at hi;exact hm i hi
theorem zlj{ns:List Nd}(hr:zZ ns)(fs:List Int):∀i,mk (qs ns fs) i=true->(nd ns i).v<24:=by
 have:∀(fs:List Int) (m:List Bool),m.length=ns.length->(∀i,mk m i=true->(nd ns i).v<24)->∀i,mk (fs.foldl (fun m h=>zS 24 ns h m) m) i=true->(nd ns i).v<24:=by
  intro fs
  induction fs with
  |nil=>intro m _ h;exact h
  |cons f fs ih=>intro m hl h;exact ih _ (by rw[Qh,hl]) (zaJ hr 24 f m hl h)
 exact this fs _ (by simp) (fun i h=>by rw[zel] at h;cases h)
theorem zd4{ns:List Nd}(hr:zZ ns)(fs:List Int):∀i,i<ns.length->mk (qs ns fs) i=true->xk ns (qs ns fs) (nd ns i).l/\xk ns (qs ns fs) (nd ns i).h:=by
 have:∀(fs:List Int) (m:List Bool),m.length=ns.length->(∀i,i<ns.length->mk m i=true->xk ns m (nd ns i).l/\xk ns m (nd ns i).h) ->
   ∀i,i<ns.length->mk (fs.foldl (fun m h=>zS 24 ns h m) m) i=true->xk ns (fs.foldl (fun m h=>zS 24 ns h m) m) (nd ns i).l/\xk ns (fs.foldl (fun m h=>zS 24 ns h m) m) (nd ns i).h:=by
  intro fs
  induction fs with
  |nil=>intro m _ h;exact h
  |cons f fs ih =>
   intro m hl h;refine ih _ (by rw[Qh,hl]) (fun i hi hm=>?_)
   by_cases h0:mk m i=true
   ·exact⟨(h i hi h0).1.grow hl 24 f,(h i hi h0).2.grow hl 24 f⟩
   ·exact(Jt hr 24 f m hl (by have:=(qe hr f).1;omega)).2 i hi hm (by simpa using h0)
 exact this fs _ (by simp) (fun i _ h=>by rw[zel] at h;cases h)
theorem zqU{ns:List Nd}(hr:zZ ns)(fs:List Int):zZ (qw ns (qs ns fs)):=by
 have hc:=zd4 hr fs;have p:=zlj hr fs;generalize qs ns fs=M at *;have u:∀j,j<ns.length->mk M j=true/\nd (qw ns M) j=nd ns j\/mk M j=false/\nd (qw ns M) j=⟨24,0,0⟩:=fun j hj=>by
  rw[QF ns M j hj]
  by_cases h:mk M j=true
  ·exact .inl ⟨h,by rw[zc3 h]⟩
  ·exact .inr ⟨by simpa using h,by rw[zc2 h]⟩
 have o:∀h,xk ns M h->zh ns h=true->za (qw ns M) h=za ns h/\zh (qw ns M) h=true:=fun h hm hh=>by
  have e:za (qw ns M) h=za ns h:=by
   rw[zfd];rcases hm with hm|hm
   ·rw[hm];split<;>rfl
   ·rw[zc3 hm]
  exact⟨e,by unfold zh at *;rw[e];exact hh⟩
 refine⟨?_,?_,?_,?_⟩<;>intro j hj<;>rw[ZM] at hj
 ·rcases u j hj with ⟨-,e⟩|⟨-,e⟩
  ·rw[e];exact hr.v0 j hj
  ·rw[e];simp
 ·intro hv;rcases u j hj with ⟨hm,e⟩|⟨-,e⟩
  ·rw[e];have:=hr.l j hj (p j hm);have q:=o _ (hc j hj hm).1 this.2;rw[q.1];exact⟨this.1,q.2⟩
  ·rw[e] at hv;simp at hv
 ·intro hv;rcases u j hj with ⟨hm,e⟩|⟨-,e⟩
  ·rw[e];have:=hr.h j hj (p j hm);have q:=o _ (hc j hj hm).2 this.2;rw[q.1];exact⟨this.1,q.2⟩
  ·rw[e] at hv;simp at hv
 ·rcases u j hj with ⟨-,e⟩|⟨-,e⟩
  ·rw[e];exact hr.ok j hj
  ·rw[e];exact⟨⟨by decide,by decide⟩,⟨by decide,by decide⟩,⟨by decide,by decide⟩⟩
theorem zps{ns:List Nd}{L:List (Nd × Int)}{M:List Bool}(hB:Z8 ns L):Z8 (qw ns M) (LTo L M ns.length):=by
 refine⟨fun p hp=>?_,fun i hi hv=>?_,?_,fun i hi hv=>?_⟩
 ·obtain⟨h1,h2⟩:=zr8.1 hp;obtain⟨i,hi,hv,rfl⟩:=hB.mem p h1;simp only[show (2+(i:Int)-2).toNat=i by omega,zf5 (show ¬ns.length<=i by omega),zt0] at h2;refine⟨i,by rw[ZM];exact hi,?_,?_⟩<;>rw[QF ns M i hi,zc3 h2]
  exact hv
 ·rw[ZM] at hi;rw[QF ns M i hi] at hv ⊢
  by_cases hm:mk M i=true
  ·rw[zc3 hm] at hv ⊢;exact zr8.2 ⟨hB.all i hi hv,by simp only[show (2+(i:Int)-2).toNat=i by omega,hm,Bool.or_true]⟩
  ·rw[zc2 hm] at hv;simp at hv
 ·exact hB.nodup.sublist (List.filter_sublist.map _)
 ·rw[ZM] at hi;rw[QF ns M i hi] at hv ⊢
  by_cases hm:mk M i=true
  ·rw[zc3 hm] at hv ⊢;exact hB.free i hi hv
  ·rw[zc2 hm]
def QP(ns:List Nd):List Nat:=(List.range ns.length).filter fun i=>decide ((nd ns i).v<24)
theorem KN{ns:List Nd}{L:List (Nd × Int)}(hB:Z8 ns L):L.length=(QP ns).length:=by
 have hp:L.Perm ((QP ns).map fun i:Nat=>(nd ns i,2+(i:Int))):=by
  refine(List.perm_ext_iff_of_nodup (List.Pairwise.of_map Prod.fst (fun a b h e=>h (e▸rfl)) hB.nodup) (List.Pairwise.map _ (fun a b h e=>h (by have:=(Prod.mk.inj e).2;omega)) (List.nodup_range.filter _))).2 fun p=>?_;rw[zrA];constructor
  ·intro h;obtain⟨i,hi,hv,rfl⟩:=hB.mem p h;exact⟨i,zr8.2 ⟨zsa.2 hi,by simpa using hv⟩,rfl⟩
  ·rintro⟨i,hi,rfl⟩;obtain⟨h1,h2⟩:=zr8.1 hi;exact hB.all i (zsa.1 h1) (by simpa using h2)
 rw[hp.length_eq,zrs]
theorem zeD(ns:List Nd):(QP ns).length<=ns.length:=by
 unfold QP;exact zf1 (zsi _ _) (by simp)
end Bd
namespace Bd
open Go.Maps
section
variable {ns:List Nd} {vars:Nat}
theorem znW(hr:zZ ns)(fs:List Int):∀h∈fs,xk ns (qs ns fs) h:=by
 have:∀(fs:List Int) (m:List Bool),m.length=ns.length->∀h,(h∈fs\/xk ns m h)->xk ns (fs.foldl (fun m h=>zS 24 ns h m) m) h:=by
  intro fs
  induction fs with
  |nil=>intro m _ h hh;exact hh.elim (fun h=>by cases h) id
  |cons f fs ih =>
   intro m hl h hh;refine ih _ (by rw[Qh,hl]) h ?_;rcases hh with hh|hh
   ·rcases zrw.1 hh with rfl|hh
    ·exact .inr (Jt hr 24 h m hl (by have:=(qe hr h).1;omega)).1
    ·exact .inl hh
   ·exact .inr (hh.grow hl 24 f)
 exact fun h hh=>this fs _ (by simp) h (.inl hh)
theorem zd5{M:List Bool}{h:Int}(hm:xk ns M h):za (qw ns M) h=za ns h/\(za ns h≠24->nd (qw ns M) (pl h)=nd ns (pl h)):=by
 have e:za (qw ns M) h=za ns h:=by
  rw[zfd];rcases hm with hm|hm
  ·rw[hm];split<;>rfl
  ·rw[zc3 hm]
 refine⟨e,fun ht=>?_⟩;rcases hm with hm|hm
 ·exact absurd hm ht
 ·rw[QF ns M _ (xo ht).2.1,zc3 (show mk M (pl h)=true from hm)]
theorem zjR(hg:zG vars ns)(fs:List Int):zG vars (qw ns (qs ns fs)):=by
 have hr:=zqU hg.ranked fs;generalize qs ns fs=M at *;have o:∀j,j<ns.length->mk M j=true/\nd (qw ns M) j=nd ns j\/nd (qw ns M) j=⟨24,0,0⟩:=fun j hj=>by
  rw[QF ns M j hj]
  by_cases h:mk M j=true
  ·exact .inl ⟨h,by rw[zc3 h]⟩
  ·exact .inr (by rw[zc2 h])
 refine⟨hr,fun i j hi hj hv e=>?_,fun i hi hv=>?_,fun i hi hv=>?_,fun i hi hv=>?_⟩
 ·rw[ZM] at hi hj;rcases o i hi with ⟨-,e1⟩|e1<;>rw[e1] at hv e
  ·rcases o j hj with ⟨-,e2⟩|e2<;>rw[e2] at e
   ·exact hg.once i j hi hj hv e
   ·rw[e] at hv;simp at hv
  ·simp at hv
 ·rw[ZM] at hi;rcases o i hi with ⟨-,e1⟩|e1<;>rw[e1] at hv ⊢
  ·exact hg.red i hi hv
  ·simp at hv
 ·rw[ZM] at hi;rcases o i hi with ⟨-,e1⟩|e1<;>rw[e1] at hv ⊢
  ·exact hg.vars i hi hv
  ·simp at hv
 ·rw[ZM] at hi;rcases o i hi with ⟨-,e1⟩|e1<;>rw[e1] at hv ⊢
  exact hg.free i hi hv
theorem zck(hr:zZ ns)(fs:List Int)(f:Nat->Bool):∀(d:Nat) (h:Int),xk ns (qs ns fs) h->yK d (qw ns (qs ns fs)) h f=yK d ns h f
 |0,_,_=>rfl
 |d+1,h,hm=>by
  obtain⟨e1,e2⟩:=zd5 hm;unfold yK;rw[e1]
  by_cases ht:za ns h=24
  ·rw[zc3 ht,zc3 ht]
  ·have hk:=zd4 hr fs (pl h) (xo ht).2.1 (hm.resolve_left ht);rw[zc2 ht,zc2 ht,e2 ht,zck hr fs f d _ hk.1,zck hr fs f d _ hk.2]
theorem zhU(hg:zG vars ns){fs:List Int}{h:Int}(hh:h∈fs)(hb:zh ns h=true):zh (qw ns (qs ns fs)) h=true/\∀f,sem (qw ns (qs ns fs)) h f=sem ns h f:=by
 have hm:=znW hg.ranked fs h hh;refine⟨?_,fun f=>zck hg.ranked fs f 24 h hm⟩;unfold zh;rw[(zd5 hm).1];exact hb
end
abbrev Fn':Type:=(Nat->Bool)->Bool
end Bd
namespace Bd
open Go.Maps
def qE:Nat->Nat->Fn'->(Nat->Bool)->Nat
 |0,_,g,f=>if g f then 1 else 0
 |k+1,v,g,f=>qE k (v+1) g (turn f v false)+qE k (v+1) g (turn f v true)
theorem xL(f:Nat->Bool)(v:Nat)(b:Bool):turn f v b v=b:=by unfold turn;rw[zc3 rfl]
theorem yl(f:Nat->Bool){v i:Nat}(b:Bool)(h:i≠v):turn f v b i=f i:=by unfold turn;rw[zc2 h]
theorem Ju:∀(k v:Nat) {g g':Fn'} (f:Nat->Bool),(∀f',(∀i,i<v->f' i=f i)->g f'=g' f')->qE k v g f=qE k v g' f
 |0,v,g,g',f,h=>by unfold qE;rw[h f (fun _ _=>rfl)]
 |k+1,v,g,g',f,h=>by
  unfold qE;rw [Ju k (v + 1) (turn f v false) (fun f' hf=>h f' (fun i hi=>by rw [hf i (by omega),yl f false (by omega)])),
   Ju k (v + 1) (turn f v true) (fun f' hf=>h f' (fun i hi=>by rw [hf i (by omega),yl f true (by omega)]))]
theorem KF:∀(k v:Nat) {g:Fn'},(∀f f':Nat->Bool,(∀i,v<=i->f i=f' i)->g f=g f')->∀f f':Nat->Bool,(∀i,v+k<=i->f i=f' i)->qE k v g f=qE k v g f'
 |0,v,g,hg,f,f',h=>by unfold qE;rw[hg f f' (fun i hi=>h i (by omega))]
 |k+1,v,g,hg,f,f',h=>by
  have j:∀(k v u:Nat) (g:Fn') (f f':Nat->Bool),u<=v->(∀f f':Nat->Bool,(∀i,u<=i->f i=f' i)->g f=g f')->(∀i,u<=i->(i<v\/v+k<=i)->f i=f' i)->qE k v g f=qE k v g f':=by
   intro k
   induction k with
   |zero=>intro v u g f f' _ hg h;unfold qE;rw[hg f f' (fun i hi=>h i hi (by omega))]
   |succ k ih =>
    intro v u g f f' o hg h;unfold qE;have e:∀ b,qE k (v + 1) g (turn f v b)=qE k (v + 1) g (turn f' v b):=fun b=>ih (v + 1) u g _ _ (by omega) hg (fun i hi hc=>by
     by_cases hiv:i=v
     ·subst hiv;rw[xL,xL]
     ·rw [yl f b hiv,yl f' b hiv];exact h i hi (by omega))
    rw[e false,e true]
  exact j (k+1) v v g f f' zN hg (fun i _ hc=>h i (by omega))
theorem zb4(p:Fn'):∀(k v:Nat) (f:Nat->Bool),qE k v p f+qE k v (fun f=>!(p f)) f=2^k
 |0,v,f=>by unfold qE;by_cases hp:p f=true<;>simp[hp]
 |k+1,v,f=>by
  unfold qE;have h1:=zb4 p k (v+1) (turn f v false);have h2:=zb4 p k (v+1) (turn f v true);rw[zsU];omega
theorem zfr(p:Fn')(k v:Nat)(f:Nat->Bool):qE k v p f<=2^k:=by have:=zb4 p k v f;omega
def yo(vars:Nat)(ns:List Nd)(h:Int)(v:Nat):Nat:=qE (vars-v) v (sem ns h) (fun _=>false)
def zV(vars:Nat)(ns:List Nd)(h:Int):Nat:=min (za ns h).toNat vars
def yJ(vars:Nat)(ns:List Nd)(h:Int):Nat:=yo vars ns h (zV vars ns h)
section
variable {vars:Nat} {ns:List Nd}
theorem YQ(hg:zG vars ns){h:Int}{v:Nat}(hv:(v:Int)<=za ns h):∀f f':Nat->Bool,(∀i,v<=i->f i=f' i)->sem ns h f=sem ns h f':=fun f f' hf =>
 Yr hg.ranked (fun i hi=>hf i (by omega))
theorem zeT(hg:zG vars ns){h:Int}:∀(d v:Nat),v+d=zV vars ns h->yo vars ns h v=yJ vars ns h*2^d
 |0,v,e=>by
  have:v=zV vars ns h:=by omega
  subst this;simp[yJ]
 |d+1,v,e=>by
  have h0:=(qe hg.ranked h).1;have j:((v+1:Nat):Int)<=za ns h:=by unfold zV at e;omega
  have o:v<vars:=by unfold zV at e;omega
  have ih:=zeT hg (h:=h) d (v+1) (by omega);have hs:=YQ hg (h:=h) (v:=v+1) j;unfold yo at ih ⊢;rw[show vars-v=(vars-(v+1))+1 by omega];unfold qE;rw [KF _ (v + 1) hs (turn (fun _=>false) v false) (fun _=>false) (fun i hi=>yl _ _ (by omega)),
   KF _ (v + 1) hs (turn (fun _=>false) v true) (fun _=>false) (fun i hi=>yl _ _ (by omega)),ih,zsU]
  rw[<-Nat.mul_assoc];omega
theorem zql{h:Int}(hh:zh ns h=true)(ht:za ns h=24)(hv:vars<=24):yJ vars ns h=h.toNat:=by
 have e:zV vars ns h=vars:=by unfold zV;rw[ht];simp;omega
 unfold yJ yo;rw[e,Nat.sub_self];unfold qE;rcases Q5 hh ht with rfl|rfl
 ·rw[ZI];rfl
 ·rw[Zy];rfl
theorem zqN(hg:zG vars ns){h:Int}(ht:za ns h≠24):yJ vars ns h=yo vars ns (nd ns (pl h)).l ((za ns h).toNat+1)+yo vars ns (nd ns (pl h)).h ((za ns h).toNat+1):=by
 have hv:=Xb hg ht;have h0:=(qe hg.ranked h).1;obtain⟨k1,-,k2,-⟩:=Zh hg.ranked ht;obtain⟨v,e⟩:∃v:Nat,za ns h=(v:Int):=⟨(za ns h).toNat,by omega⟩;have et:zV vars ns h=v:=by unfold zV;rw[e];simp;omega
 have en:=YN hg.ranked ht;unfold yJ;rw[et];rw[e] at hv k1 k2 en ⊢;rw[zrh] at en ⊢;unfold yo;rw[show vars-v=(vars-(v+1))+1 by omega];rw[qE];have hl:=YQ hg (h:=(nd ns (pl h)).l) (v:=v+1) (by omega);have hh:=YQ hg (h:=(nd ns (pl h)).h) (v:=v+1) (by omega);have e1:qE (vars-(v+1)) (v+1) (sem ns h) (turn (fun _=>false) v false)=qE (vars-(v+1)) (v+1) (sem ns (nd ns (pl h)).l) (turn (fun _=>false) v false) :=
  Ju _ _ _ (fun f' hf=>by
   have:f' v=false:=by rw[hf v (by omega),xL]
   rw [en f',this];rfl)
 have e2:qE (vars-(v+1)) (v+1) (sem ns h) (turn (fun _=>false) v true)=qE (vars-(v+1)) (v+1) (sem ns (nd ns (pl h)).h) (turn (fun _=>false) v true) :=
  Ju _ _ _ (fun f' hf=>by
   have:f' v=true:=by rw[hf v (by omega),xL]
   rw [en f',this];rfl)
 rw [e1,e2,KF _ (v + 1) hl (turn (fun _=>false) v false) (fun _=>false) (fun i hi=>yl _ _ (by omega)),
  KF _ (v + 1) hh (turn (fun _=>false) v true) (fun _=>false) (fun i hi=>yl _ _ (by omega))]
theorem zpj{g:Fn'}{h:Int}(hs:∀f,sem ns h f=g f):yo vars ns h 0=qE vars 0 g (fun _=>false):=by
 unfold yo;rw[zuH,show sem ns h=g from funext hs]
end
end Bd
namespace Bd
structure Wy where
 items:Nat
 cost:Int
 can:Bool
abbrev qx:Type:=Nat->Bool->Int
def woF(C:qx)(i:Nat)(wo:Wy):Wy:=⟨wo.items,wo.cost+C i false,wo.can⟩
def wiF(C:qx)(i:Nat)(wi:Wy):Wy:=⟨wi.items|||2^i,wi.cost+C i true,wi.can⟩
def xR(C:qx)(i:Nat)(wo wi:Wy):Wy:=if wi.can=true/\(wo.can=false\/(wiF C i wi).cost<=(woF C i wo).cost) then wiF C i wi else woF C i wo
def qt(C:qx):Nat->Nat->Fn'->(Nat->Bool)->Wy
 |0,_,g,f=>⟨0,0,g f⟩
 |k+1,v,g,f=>xR C v (qt C k (v+1) g (turn f v false)) (qt C k (v+1) g (turn f v true))
theorem Xc(C:qx):∀(k v:Nat) {g g':Fn'} (f:Nat->Bool),(∀f',(∀i,i<v->f' i=f i)->g f'=g' f')->qt C k v g f=qt C k v g' f
 |0,v,g,g',f,h=>by unfold qt;rw[h f (fun _ _=>rfl)]
 |k+1,v,g,g',f,h=>by
  unfold qt;rw [Xc C k (v + 1) (turn f v false) (fun f' hf=>h f' (fun i hi=>by rw [hf i (by omega),yl _ _ (by omega)])),
   Xc C k (v + 1) (turn f v true) (fun f' hf=>h f' (fun i hi=>by rw [hf i (by omega),yl _ _ (by omega)]))]
theorem XA(C:qx):∀(k v:Nat) {g:Fn'},(∀f f':Nat->Bool,(∀i,v<=i->f i=f' i)->g f=g f')->∀f f':Nat->Bool,(∀i,v+k<=i->f i=f' i)->qt C k v g f=qt C k v g f'
 |0,v,g,hg,f,f',h=>by unfold qt;rw[hg f f' h]
 |k+1,v,g,hg,f,f',h=>by
  unfold qt;have j:∀b,qt C k (v+1) g (turn f v b)=qt C k (v+1) g (turn f' v b):=fun b=>by
   have e:qt C k (v + 1) g (turn f v b)=qt C k (v + 1) (fun f0=>g (turn f0 v b)) (turn f v b):=Xc C k (v + 1) _ (fun f0 hf=>by
    have:turn f0 v b=f0:=funext fun i=>by
     by_cases e:i=v
     ·rw[e,xL,hf v (by omega),xL]
     ·rw[yl _ _ e]
    rw [this])
   have e':qt C k (v + 1) g (turn f' v b)=qt C k (v + 1) (fun f0=>g (turn f0 v b)) (turn f' v b):=Xc C k (v + 1) _ (fun f0 hf=>by
    have:turn f0 v b=f0:=funext fun i=>by
     by_cases e:i=v
     ·rw[e,xL,hf v (by omega),xL]
     ·rw[yl _ _ e]
    rw [this])
   rw[e,e'];refine XA C k (v+1) (fun a c o=>hg _ _ (fun i hi=>?_)) _ _ (fun i hi=>?_)
   ·by_cases e:i=v
    ·rw[e,xL,xL]
    ·rw[yl _ _ e,yl _ _ e];exact o i (by omega)
   ·rw[yl _ _ (by omega),yl _ _ (by omega)];exact h i (by omega)
  rw[j false,j true]
def qd(C:qx)(vars:Nat)(ns:List Nd)(h:Int)(v:Nat):Wy:=qt C (vars-v) v (sem ns h) (fun _=>false)
def yv(C:qx)(vars:Nat)(ns:List Nd)(h:Int):Wy:=qd C vars ns h (zV vars ns h)
section
variable {C:qx} {vars:Nat} {ns:List Nd}
theorem zpK(hg:zG vars ns){h:Int}{v:Nat}(hv:v<zV vars ns h):qd C vars ns h v=xR C v (qd C vars ns h (v+1)) (qd C vars ns h (v+1)):=by
 have h0:=(qe hg.ranked h).1;have j:((v+1:Nat):Int)<=za ns h:=by unfold zV at hv;omega
 have o:v<vars:=by unfold zV at hv;omega
 have hs:=YQ hg (h:=h) (v:=v+1) j;unfold qd;rw[show vars-v=(vars-(v+1))+1 by omega]
 conv=>lhs;unfold qt
 rw [XA C _ (v + 1) hs (turn (fun _=>false) v false) (fun _=>false) (fun i hi=>yl _ _ (by omega)),
  XA C _ (v + 1) hs (turn (fun _=>false) v true) (fun _=>false) (fun i hi=>yl _ _ (by omega))]
theorem zh2{h:Int}(hh:zh ns h=true)(ht:za ns h=24)(hv:vars<=24):yv C vars ns h=⟨0,0,decide (h=1)⟩:=by
 have e:zV vars ns h=vars:=by unfold zV;rw[ht];simp;omega
 unfold yv qd;rw[e,Nat.sub_self];unfold qt;rcases Q5 hh ht with rfl|rfl
 ·rw[ZI];rfl
 ·rw[Zy];rfl
theorem zl8(hg:zG vars ns){h:Int}(ht:za ns h≠24):yv C vars ns h=xR C (za ns h).toNat (qd C vars ns (nd ns (pl h)).l ((za ns h).toNat+1)) (qd C vars ns (nd ns (pl h)).h ((za ns h).toNat+1)):=by
 have hv:=Xb hg ht;have h0:=(qe hg.ranked h).1;obtain⟨k1,-,k2,-⟩:=Zh hg.ranked ht;obtain⟨v,e⟩:∃v:Nat,za ns h=(v:Int):=⟨(za ns h).toNat,by omega⟩;have et:zV vars ns h=v:=by unfold zV;rw[e];simp;omega
 have en:=YN hg.ranked ht;unfold yv;rw[et];rw[e] at hv k1 k2 en ⊢;rw[zrh] at en ⊢;unfold qd;rw[show vars-v=(vars-(v+1))+1 by omega];rw[qt];have hl:=YQ hg (h:=(nd ns (pl h)).l) (v:=v+1) (by omega);have hh:=YQ hg (h:=(nd ns (pl h)).h) (v:=v+1) (by omega);have e1:qt C (vars-(v+1)) (v+1) (sem ns h) (turn (fun _=>false) v false)=qt C (vars-(v+1)) (v+1) (sem ns (nd ns (pl h)).l) (turn (fun _=>false) v false) :=
  Xc C _ _ _ (fun f' hf=>by
   have:f' v=false:=by rw[hf v (by omega),xL]
   rw [en f',this];rfl)
 have e2:qt C (vars-(v+1)) (v+1) (sem ns h) (turn (fun _=>false) v true)=qt C (vars-(v+1)) (v+1) (sem ns (nd ns (pl h)).h) (turn (fun _=>false) v true) :=
  Xc C _ _ _ (fun f' hf=>by
   have:f' v=true:=by rw[hf v (by omega),xL]
   rw [en f',this];rfl)
 rw [e1,e2,XA C _ (v + 1) hl (turn (fun _=>false) v false) (fun _=>false) (fun i hi=>yl _ _ (by omega)),
  XA C _ (v + 1) hh (turn (fun _=>false) v true) (fun _=>false) (fun i hi=>yl _ _ (by omega))]
structure Kg(k v:Nat)(x:Wy):Prop where
 c0:0<=x.cost
 c1:x.cost<=1000000*(k:Int)
 it:x.items<2^(v+k)
def QZ(C:qx):Prop:=∀i b,0<=C i b/\C i b<=1000000
theorem Kg.bet(hC:QZ C){k v:Nat}{a b:Wy}(ha:Kg k (v+1) a)(hb:Kg k (v+1) b):Kg (k+1) v (xR C v a b):=by
 have h1:=hC v false;have h2:=hC v true;have e:v+1+k=v+(k+1):=by omega
 have:=ha.c0;have:=ha.c1;have:=hb.c0;have:=hb.c1;have i1:=ha.it;have i2:=hb.it;rw[e] at i1 i2;unfold xR;split
 ·refine⟨by show 0<=b.cost+C v true;omega,by show b.cost+C v true<=_;omega,?_⟩;show b.items|||2^v<2^(v+(k+1));exact Nat.or_lt_two_pow i2 (zuT (by omega) (by omega))
 ·exact⟨by show 0<=a.cost+C v false;omega,by show a.cost+C v false<=_;omega,i1⟩
theorem zaW(hC:QZ C)(g:Fn'):∀(k v:Nat) (f:Nat->Bool),Kg k v (qt C k v g f)
 |0,v,f=>⟨Int.le_refl _,by show (0:Int)<=_;omega,Nat.two_pow_pos _⟩
 |k+1,v,f=>by unfold qt;exact(zaW hC g k (v+1) _).bet hC (zaW hC g k (v+1) _)
theorem J3(hC:QZ C)(hv24:vars<=24)(h:Int)(v:Nat):0<=(qd C vars ns h v).cost/\(qd C vars ns h v).cost<=24000000/\(v<=vars->(qd C vars ns h v).items<2^vars):=by
 have:=zaW hC (sem ns h) (vars-v) v (fun _=>false);have h1:=this.c0;have h2:=this.c1;exact⟨h1,by show (qt C (vars-v) v (sem ns h) (fun _=>false)).cost<=_;omega,fun hv=>by have:=this.it;rw[show v+(vars-v)=vars by omega] at this;exact this⟩
end
end Bd
section
theorem QS(w:World)(v:Value)(t:TypeId):(w.alloc (.cells #[v] t)).cell? w.heap.size=some v:=by simp
theorem Xu(w:World)(v:Value)(t:TypeId):(w.alloc (.cells #[v] t)).frozen? w.heap.size=false:=by simp
end
section
def YT(w:World)(e:Value)(m pl:Int):Prop :=
 (m=0/\pl=-1/\e=.nilIface)\/(m≠0/\pl=-1/\e=.iface 53 (.int .i64 m)) \/
 (m≠0/\∃b,b<w.heap.size/\e=.iface 110 (.pointer (some ⟨b,0,none⟩))/\w.cell? ⟨b,0,none⟩=some (.int .i64 m)/\w.cell? ⟨b,1,none⟩=some (.int .i64 pl))
theorem YT.below{w w':World}{e:Value}{m pl:Int}(h:YT w e m pl)(hb:zB w w'):YT w' e m pl:=by
 rcases h with h|h|⟨h0,b,h1,h2,h3,h4⟩
 ·exact Or.inl h
 ·exact Or.inr (Or.inl h)
 ·exact Or.inr (Or.inr ⟨h0,b,zc6 h1 hb.size,h2,(hb.cell (p:=b) h1).trans h3,(hb.cell (p:=⟨b,1,none⟩) h1).trans h4⟩)
end
section
def I64(x:Int):Prop:=-9223372036854775808<=x/\x<=9223372036854775807
theorem below_new(w:World)(o:Obj):zB w (w.alloc o):=zF.alloc zN _
theorem Z0(a:Addr)(i:Nat):(a.add i).block=a.block:=by unfold Addr.add;split<;>rfl
def qO(w:World)(a:Option Addr)(xs:List Int):Prop :=
 ∀i,i<xs.length->∃ad:Addr,a=some ad/\ad.block<w.heap.size/\w.cell? (ad.add i)=some (.int .i64 (xs.getD i 0))
theorem qO.below{w w':World}{a:Option Addr}{xs:List Int}(h:qO w a xs)(hb:zB w w'):qO w' a xs:=by
 intro i hi;obtain⟨ad,ha,hl,hc⟩:=h i hi;exact⟨ad,ha,zc6 hl hb.size,(hb.cell (by rw[Z0];exact hl)).trans hc⟩
theorem qO.nil(w:World)(a:Option Addr):qO w a []:=fun i hi=>by simp at hi
def xX(w:World)(a:Option Addr)(l:List (List Int)):Prop :=
 ∀i,i<l.length->∃(ad:Addr) (a':Option Addr) (cap:Nat),a=some ad/\ad.block<w.heap.size/\w.cell? (ad.add i)=some (.slice a' (l.getD i []).length cap)/\(l.getD i []).length<=cap/\cap<=9223372036854775807/\qO w a' (l.getD i [])
theorem xX.below{w w':World}{a:Option Addr}{l:List (List Int)}(h:xX w a l)(hb:zB w w'):xX w' a l:=by
 intro i hi;obtain⟨ad,a',j,ha,hl,hc,h1,h2,h3⟩:=h i hi;exact⟨ad,a',j,ha,zc6 hl hb.size,(hb.cell (by rw[Z0];exact hl)).trans hc,h1,h2,h3.below hb⟩
theorem Zk{α:Type}{l:List α}{i:Nat}{d:α}(h:i<l.length):l.getD i d∈l:=by
 rw[zc0,zc5 h];exact zr0 h
def xt{α:Type}(p:α->Bool)(xs:List α):Int:=match xs.findIdx? p with|some i=>(i:Int)|none=>-1
theorem zdi{α:Type}{p:α->Bool}{xs:List α}{k:Nat}{d:α}(h0:∀j,j<k->p (xs.getD j d)=false)(hk:k<xs.length)(h1:p (xs.getD k d)=true):xt p xs=(k:Int):=by
 have:xs.findIdx? p=some k:=by
  rw[zrU];refine⟨hk,?_,fun j hj=>?_⟩
  ·rw[zc0,zc5 hk] at h1;exact h1
  ·have:=h0 j hj;rw[zc0,zc5 (by omega)] at this;simpa using this
 simp[xt,this]
theorem zgl{α:Type}{p:α->Bool}{xs:List α}{d:α}(h0:∀j,j<xs.length->p (xs.getD j d)=false):xt p xs=-1:=by
 have:xs.findIdx? p=none:=by
  rw[zsr];intro x hx;obtain⟨j,hj,rfl⟩:=zrQ hx;have:=h0 j hj;rw[zc0,zc5 hj] at this;simpa using this
 simp[xt,this]
theorem zeK{α:Type}(p:α->Bool)(xs:List α):decide (0<=xt p xs)=xs.any p:=by
 rw[zrB];simp only[zrz];unfold xt;cases h:xs.findIdx? p with
 |none =>
  rw[zsr] at h;simp only[zrM];constructor
  ·intro h;omega
  ·rintro⟨x,hx,hp⟩;rw[h x hx] at hp;cases hp
 |some i =>rw[zrU] at h;obtain⟨hi,hp,-⟩:=h;simp only[zrM];exact⟨fun _=>⟨_,zr0 hi,hp⟩,fun _=>by omega⟩
theorem zku(F:Nat)(cb:Array Value)(p:Int->Bool)(xs:List Int)(a:Option Addr)(cap:Nat)(w:World)(hm:xs.length<=9223372036854775807)
  (hent:∀q w,(callFunc F q).run Tryz.prog w=.ok (.enter F q) w) (hI:qO w a xs)
  (hf:∀W i,zB w W->i<xs.length->zR F (#[.int .i64 (xs.getD i 0)]++cb) W (.bool (p (xs.getD i 0)))) :
  zR 148 #[.slice a xs.length cap,.func (.func F) #[] cb] w (.int .i64 (xt p xs)):=by
 have HF:=zH hf;have HI:=zH hI;clear hf hI;go_enter Tryz.func148,Tryz.ntmps148;go_wp2_with fail;go_loopw [8] (fun kV wr=>∃k:Nat,k<=xs.length/\kV=.int .i64 k/\(∀j,j<k->p (xs.getD j 0)=false)/\zB w wr) (fun kV _=>xs.length-(intOf kV).toNat)
 case atStart=>exact⟨0,zf6 _,rfl,fun j h=>by omega,zf0 _ _⟩
 case round =>
  obtain⟨k,hk,rfl,h1,J⟩:=hrel;have H1:=zH h1;have o:=zH J;clear h1 J
  by_cases hlt:k<xs.length
  ·obtain⟨ad,rfl,hl,hc⟩:=HI.out.below o.out k hlt;have HC:=zH (HF.out wr k o.out hlt);cases hp:p (xs.getD k 0) with
   |true =>rw[hp] at HC;have HP:=zH hp;clear hp;generalize hx:xs.getD k 0=x at *;have HX:=zH hx;clear hx;go_wp2_with fail;refine HC.out.mono ?_;rintro e w1 ⟨rfl,u⟩;have y:Hid (zB w w1):=zT o.out u;clear u HC;go_wp2;go_ret;exact⟨by rw[zdi H1.out hlt (by rw[HX.out];exact HP.out)];rfl,y.out⟩
   |false =>
    rw[hp] at HC;have HP:=zH hp;clear hp;generalize hx:xs.getD k 0=x at *;have HX:=zH hx;clear hx;go_wp2_with fail;refine HC.out.mono ?_;rintro e w1 ⟨rfl,u⟩;have y:Hid (zB w w1):=zT o.out u;clear u HC;go_wp2;go_roundw
    case rel=>exact ⟨k + 1,hlt,by go_num,fun j hj=>(by
     rcases zse.1 hj with e|e
     ·exact H1.out j e
     ·rw [e,HX.out];exact HP.out),y.out⟩
    case measure=>simp[intOf];omega
  ·obtain rfl:k=xs.length:=by omega
   go_wp2;go_ret;exact⟨by rw[zgl H1.out];rfl,o.out⟩
theorem zoH(F:Nat)(cb:Array Value)(p:Int->Bool)(xs:List Int)(a:Option Addr)(cap:Nat)(w:World)(hm:xs.length<=9223372036854775807)
  (hent:∀j w,(callFunc F j).run Tryz.prog w=.ok (.enter F j) w) (hI:qO w a xs)
  (hf:∀W i,zB w W->i<xs.length->zR F (#[.int .i64 (xs.getD i 0)]++cb) W (.bool (p (xs.getD i 0)))) :
  zR 96 #[.slice a xs.length cap,.func (.func F) #[] cb] w (.bool (xs.any p)):=by
 have H:=zH (zku F cb p xs a cap w hm hent hI hf);clear hf hI hent;rw[<-zeK];generalize xt p xs=i at *;go_enter Tryz.func96,Tryz.ntmps96;go_wp2_with fail;refine H.out.mono ?_;rintro e w1 ⟨rfl,o⟩;have q:=zH o;clear o H;go_wp2;go_ret;exact⟨by first|rfl|simp,q.out⟩
end
section
def yt(v x:Int):Bool:=decide (x≠0/\-v<=x/\x<=v)
end
section
def yG(vals:Nat)(x:Int):Bool:=if 0<x then vals.testBit (x.toNat-1) else !vals.testBit ((-x).toNat-1)
def Ka(vals:Nat)(x:Int):Bool:=yt 24 x&&yG vals x
def Qb(vals:Nat)(c:List Int):Bool:=c.any (Ka vals)
theorem zaU(vals t:Nat)(hv:vals<18446744073709551616):(bits BinOp.and IntKind.u64 ((vals:Int)/2^t) 1==1)=vals.testBit t:=by
 have e:(vals:Int)/2^t=((vals/2^t:Nat):Int):=by simp
 have hd:vals/2^t<=vals:=zu3 _ _;rw[e,zsW];generalize vals/2^t=m at *;rw[and_one_u64 _ (by omega) (by omega),zrB];simp;omega
theorem zgv(vals t:Nat)(hv:vals<18446744073709551616):(bits BinOp.and IntKind.u64 ((vals:Int)/2^t) 1==0)=!vals.testBit t:=by
 have e:(vals:Int)/2^t=((vals/2^t:Nat):Int):=by simp
 have hd:vals/2^t<=vals:=zu3 _ _;rw[e,zsW];generalize vals/2^t=m at *;rw[and_one_u64 _ (by omega) (by omega),zrB];simp;omega
end
section
def tv(told:List Int)(i:Nat):Int:=if ((i:Int)+1)∈told then 1 else if -((i:Int)+1)∈told then -1 else 0
def xW(told:List Int)(x:Int):Int:=if x∈told then 1 else if -x∈told then -1 else 0
def Zz(told:List Int):Prop:=∀x∈told,-x∉told
def qk(v:Int)(xs:List Int):Prop:=∀x∈xs,yt v x=true
theorem xJ{v x:Int}:yt v x=true↔x≠0/\-v<=x/\x<=v:=by simp[yt]
theorem zd1{told:List Int}{x:Int}:xW told x=0↔x∉told/\-x∉told:=by
 unfold xW
 by_cases h1:x∈told
 ·simp[h1]
 ·by_cases h2:-x∈told
  ·simp[h1,h2]
  ·simp[h1,h2]
theorem za1{told:List Int}{x:Int}:0<xW told x↔x∈told:=by
 unfold xW
 by_cases h1:x∈told
 ·simp[h1]
 ·by_cases h2:-x∈told<;>simp[h1,h2]
theorem zgM{told:List Int}(hc:Zz told){x:Int}:0<=xW told x↔-x∉told:=by
 unfold xW
 by_cases h1:x∈told
 ·have:=hc x h1;simp[h1,this]
 ·by_cases h2:-x∈told<;>simp[h1,h2]
def Yg(told:List Int)(one x:Int):Bool:=decide (0<xW told x)||(decide (xW told x=0)&&x != one)
def QJ(told:List Int)(c:List Int):Int × Bool :=
 if xt (fun x=>decide (0<=xW told x)) c<0 then (0,true)
 else if (c.drop (xt (fun x=>decide (0<=xW told x)) c).toNat).any (Yg told (c.getD (xt (fun x=>decide (0<=xW told x)) c).toNat 0)) then (0,false)
 else (c.getD (xt (fun x=>decide (0<=xW told x)) c).toNat 0,true)
theorem zoq{α:Type}(p:α->Bool)(xs:List α)(d:α):(xt p xs=-1/\∀x∈xs,p x=false)\/∃k:Nat,xt p xs=(k:Int)/\k<xs.length/\p (xs.getD k d)=true/\∀x∈xs.take k,p x=false:=by
 unfold xt;cases h:xs.findIdx? p with
 |none=>exact Or.inl ⟨rfl,fun x hx=>by simpa using zsr.1 h x hx⟩
 |some k =>rw[zrU] at h;obtain⟨hk,hp,hj⟩:=h;refine Or.inr ⟨k,rfl,hk,by rw[zc0,zc5 hk];exact hp,fun x hx=>?_⟩;obtain⟨j,o,rfl⟩:=zrQ hx;rw[zrj] at o;rw[ztH];simpa using hj j (by omega)
inductive Xw (told c:List Int):Int × Bool->Prop
 |none (h:∀x∈c,x∉told/\-x∈told):Xw told c (0,true)
 |one {x:Int} (hx:x∈c) (h0:x∉told) (h1:-x∉told) (h:∀y∈c,y≠x->y∉told/\-y∈told):Xw told c (x,true)
 |held {x:Int} (hx:x∈c) (h:x∈told):Xw told c (0,false)
 |two {x y:Int} (hx:x∈c) (hy:y∈c) (hne:x≠y) (h0:x∉told) (h1:-x∉told) (h2:y∉told) (h3:-y∉told):Xw told c (0,false)
theorem zgG{told c:List Int}(hc:Zz told):Xw told c (QJ told c):=by
 unfold QJ;have q:∀x,(decide (0<=xW told x))=false↔-x∈told:=fun x=>by
  rw[zsm,zgM hc,Classical.not_not]
 have u:∀x,-x∈told->x∉told:=fun x h h2=>hc x h2 h;rcases zoq (fun x=>decide (0<=xW told x)) c 0 with ⟨hi,h⟩|⟨k,hi,hk,hp,hl⟩
 ·rw[hi,zc3 (by omega)];exact .none fun x hx=>⟨u x ((q x).1 (h x hx)),(q x).1 (h x hx)⟩
 ·rw[hi,zc2 (by omega),zrh];have hm:c.getD k 0∈c:=Zk hk;have J:-(c.getD k 0)∉told:=(zgM hc).1 (zrZ hp)
  by_cases j:(c.drop k).any (Yg told (c.getD k 0))=true
  ·rw[zc3 j];obtain⟨y,hy,p⟩:=zrM.1 j;have K:=zuU hy;unfold Yg at p;rw[Bool.or_eq_true,zs1] at p;rcases p with h1|⟨h1,h2⟩
   ·exact .held K (za1.1 (zrZ h1))
   ·have h3:=zd1.1 (zrZ h1)
    by_cases o:c.getD k 0∈told
    ·exact .held hm o
    ·exact .two hm K (fun e=>by rw[<-e,bne_self_eq_false] at h2;cases h2) o J h3.1 h3.2
  ·rw[zc2 j];have hany':∀y∈c.drop k,Yg told (c.getD k 0) y=false:=fun y hy=>by
    cases hh:Yg told (c.getD k 0) y with
    |false=>rfl
    |true=>exact absurd (zrM.2 ⟨y,hy,hh⟩) j
   have o:c.getD k 0∉told:=fun h=>by
    have:=hany' (c.getD k 0) (by
     rw[zc0,zc5 hk];exact List.mem_drop_iff_getElem.2 ⟨0,by omega,by simp⟩)
    unfold Yg at this;rw[Bool.or_eq_false_iff] at this;exact(of_decide_eq_false this.1) (za1.2 h)
   refine .one hm o J fun y hy M=>?_;rw[<-zrN k c,zro] at hy;rcases hy with hy|hy
   ·have:=(q y).1 (hl y hy);exact⟨u y this,this⟩
   ·have:=hany' y hy;unfold Yg at this;rw[Bool.or_eq_false_iff,Bool.and_eq_false_iff] at this;have h1:=of_decide_eq_false this.1;have h2:xW told y≠0:=by
     rcases this.2 with h|h
     ·exact of_decide_eq_false h
     ·simp at h;exact absurd h M
    have h3:-y∈told:=by
     by_cases hm:-y∈told
     ·exact hm
     ·exact absurd (zd1.2 ⟨fun h=>h1 (za1.2 h),hm⟩) h2
    exact⟨u y h3,h3⟩
def XN(told:List Int)(l:List (List Int)):Int × Int :=
 match l.findIdx? (fun c=>(QJ told c).2) with|some i=>((i:Int),(QJ told (l.getD i [])).1)|none=>(-1,0)
inductive XP (told:List Int) (l:List (List Int)):Int × Int->Prop
 |none (h:∀c∈l,(∃x∈c,x∈told)\/∃x∈c,∃y∈c,x≠y/\x∉told/\-x∉told/\y∉told/\-y∉told):XP told l (-1,0)
 |bad {k:Nat} (hk:k<l.length) (h:∀x∈l.getD k [],x∉told/\-x∈told):XP told l ((k:Int),0)
 |one {k:Nat} {x:Int} (hk:k<l.length) (hx:x∈l.getD k []) (h0:x∉told) (h1:-x∉told) (h:∀y∈l.getD k [],y≠x->y∉told/\-y∈told):XP told l ((k:Int),x)
theorem ziz{told:List Int}{l:List (List Int)}(hc:Zz told):XP told l (XN told l):=by
 unfold XN;cases h:l.findIdx? (fun c=>(QJ told c).2) with
 |none =>
  rw[zsr] at h;refine .none fun c j=>?_;have h1:=h c j;have h2:=zgG (c:=c) hc;generalize QJ told c=r at *;cases h2 with
  |none=>simp at h1
  |one=>simp at h1
  |held hx h=>exact Or.inl ⟨_,hx,h⟩
  |two hx hy hne q0 q1 q2 q3=>exact Or.inr ⟨_,hx,_,hy,hne,q0,q1,q2,q3⟩
 |some k =>
  rw[zrU] at h;obtain⟨hk,hp,-⟩:=h;have e:l.getD k []=l[k]:=by rw[zc0,zc5 hk];rfl
  rw[<-e] at hp;have h2:=zgG (c:=l.getD k []) hc;show XP told l ((k:Int),(QJ told (l.getD k [])).1);generalize QJ told (l.getD k [])=r at *;cases h2 with
  |none h=>exact .bad hk h
  |one hx h0 h1 h=>exact .one hk hx h0 h1 h
  |held=>simp at hp
  |two=>simp at hp
inductive X4 (l:List (List Int)):List Int->List Int->Int->Prop
 |stop {told:List Int} {i:Int} (h:XN told l=(i,0)):X4 l told told i
 |step {told t:List Int} {i x b:Int} (h:XN told l=(i,x)) (hx:x≠0) (hs:X4 l (told++[x]) t b):X4 l told t b
def free(told:List Int):Nat:=(List.range 24).countP (fun i=>tv told i==0)
theorem zqq{told:List Int}{x:Int}(hn:-x∉told)(i:Nat):tv (told++[x]) i=if (i:Int)+1=x then 1 else if (i:Int)+1=-x then -1 else tv told i:=by
 unfold tv;simp only[zro,zra]
 by_cases h1:(i:Int)+1=x
 ·rw[zc3 (Or.inr h1),zc3 h1]
 ·rw[zc2 h1]
  by_cases h2:(i:Int)+1=-x
  ·have h0:(i:Int)+1∉told:=by rw[h2];exact hn
   rw[zc3 h2,zc2 (by rintro (h|h);exact h0 h;exact h1 h),zc3 (Or.inr (by omega))]
  ·rw[zc2 h2];have h3:¬-((i:Int)+1)=x:=by omega
   have e1:((i:Int)+1∈told\/(i:Int)+1=x)↔(i:Int)+1∈told:=⟨fun h=>h.resolve_right h1,Or.inl⟩;have e2:(-((i:Int)+1)∈told\/-((i:Int)+1)=x)↔-((i:Int)+1)∈told:=⟨fun h=>h.resolve_right h3,Or.inl⟩;simp only[e1,e2]
theorem zpU{told:List Int}{x:Int}(hc:Zz told)(hx:x≠0)(h1:-x∉told):Zz (told++[x]):=by
 intro y hy hn;simp only[zro,zra] at hy hn;rcases hy with hy|hy
 ·rcases hn with hn|hn
  ·exact hc y hy hn
  ·exact h1 (by rw[show -x=y by omega];exact hy)
 ·rcases hn with hn|hn
  ·rw[hy] at hn;exact h1 hn
  ·omega
theorem zhp{v:Int}{told:List Int}{x:Int}(hc:qk v told)(hx:yt v x=true):qk v (told++[x]):=by
 intro y hy;simp only[zro,zra] at hy;rcases hy with hy|hy
 ·exact hc y hy
 ·rw[hy];exact hx
def xq(v:Int)(l:List (List Int)):Prop:=∀c∈l,qk v c
theorem Yd{v x:Int}(hv:v<=24)(h:yt v x=true):yt 24 x=true:=by
 rw[xJ] at *;omega
theorem zj2{l:List (List Int)}{v:Int}(hl:xq v l){told:List Int}(hc:Zz told)(hs:qk v told){i x:Int}(e:XN told l=(i,x))(hx:x≠0):yt v x=true/\x∉told/\-x∉told/\Zz (told++[x])/\qk v (told++[x]):=by
 have hn:=ziz (l:=l) hc;rw[e] at hn;cases hn with
 |none=>exact absurd rfl hx
 |bad=>exact absurd rfl hx
 |one hk hxc h0 h1 _ =>have j:=hl _ (Zk hk) _ hxc;exact⟨j,h0,h1,zpU hc hx h1,zhp hs j⟩
theorem X4.good{l:List (List Int)}{v:Int}(hl:xq v l){told t:List Int}{b:Int}(h:X4 l told t b)(hc:Zz told)(hs:qk v told):Zz t/\qk v t:=by
 induction h with
 |stop _=>exact⟨hc,hs⟩
 |step e hx _ ih =>obtain⟨_,_,_,h4,h5⟩:=zj2 hl hc hs e hx;exact ih h4 h5
end
section
inductive Y0 (l:List (List Int)):List Int->Prop
 |bad {told c:List Int} (hc:c∈l) (h:∀x∈c,-x∈told):Y0 l told
 |unit {told c:List Int} {x:Int} (hc:c∈l) (hx:x∈c) (h:∀y∈c,y≠x->-y∈told) (hr:Y0 l (x :: told)):Y0 l told
def ZJ(l l':List (List Int)):Prop:=∀c∈l,∃c'∈l',∀x,x∈c↔x∈c'
theorem ZJ.refl(l:List (List Int)):ZJ l l:=fun c hc=>⟨c,hc,fun _=>Iff.rfl⟩
theorem ZJ.trans{l m n:List (List Int)}(h:ZJ l m)(h2:ZJ m n):ZJ l n:=fun c hc=>by
 obtain⟨d,hd,e⟩:=h c hc;obtain⟨f,hf,e2⟩:=h2 d hd;exact⟨f,hf,fun x=>(e x).trans (e2 x)⟩
theorem ZJ.of_sub{l m:List (List Int)}(h:∀c∈l,c∈m):ZJ l m:=fun c hc=>⟨c,h c hc,fun _=>Iff.rfl⟩
theorem Y0.mono{l l':List (List Int)}{told told':List Int}(h:Y0 l told)(hs:ZJ l l')(ht:∀x∈told,x∈told'):Y0 l' told':=by
 induction h generalizing told' with
 |bad hc h =>obtain⟨c',j,e⟩:=hs _ hc;exact .bad j fun x hx=>ht _ (h x ((e x).2 hx))
 |unit hc hx h _ ih =>
  obtain⟨c',j,e⟩:=hs _ hc;refine .unit j ((e _).1 hx) (fun y hy o=>ht _ (h y ((e y).2 hy) o)) (ih fun z hz=>?_);rcases zrw.1 hz with rfl|hz
  ·exact zsf
  ·exact zst _ (ht z hz)
def Jz(l:List (List Int))(t:List Int):Prop:=∀c∈l,(∃x∈c,x∈t)\/∃x∈c,∃y∈c,x≠y/\-x∉t/\-y∉t
def zbz(c:List Int):Prop:=∃x∈c,-x∈c
theorem zpn{l:List (List Int)}{t c:List Int}(h0:∀x∈c,x≠0)(hb:zbz c)(hs:Jz l t):Jz (l++[c]) t:=fun d hd=>by
 rcases zro.1 hd with hd|hd
 ·exact hs d hd
 ·rw[zra] at hd;subst hd;obtain⟨x,hx,hn⟩:=hb
  by_cases h1:x∈t
  ·exact Or.inl ⟨x,hx,h1⟩
  ·by_cases h2:-x∈t
   ·exact Or.inl ⟨-x,hn,h2⟩
   ·have:=h0 x hx;exact Or.inr ⟨x,hx,-x,hn,by omega,h2,by rw[Int.neg_neg];exact h1⟩
end
