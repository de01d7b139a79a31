/- Form and Resolve: plain. -/
import Derived.Test.YtiihalknffbjpaaGreatDoorBdMakes
import Derived.Deep.Slices
namespace Go.Proofs.YtiihalknffbjpaaGreatDoor
set_option maxHeartbeats 1000000
set_option maxRecDepth 100000
namespace Bd
open Go.RowKit Go.Maps
structure OpR(vars:Nat)(ns:List Nd)(r:List Nd × Int)(g:(Nat->Bool)->Bool):Prop where
 good:zcI vars r.1
 ext:Ext ns r.1
 has:zaV r.1 r.2=true
 sem:∀f,sem r.1 r.2 f=g f
 len:r.1.length+1<=ns.length+2^vars
 cnt:cnt r.1+1<=cnt ns+2^vars
 tight:r.1.length+1<=max (ns.length+1) (Go.Proofs.YtiihalknffbjpaaGreatDoor.Bd.cnt ns+2^vars)
def zj1(op:Bool)(ns:List Nd)(k:Nd):List Nd × Int:=((zak 24 op ns [] k).1,(zak 24 op ns [] k).2.2)
def zj0(ns:List Nd)(v:Int)(is:Bool):List Nd × Int:=if is=true then zcE ns v 0 1 else zcE ns v 1 0
section
variable {vars:Nat} {ns:List Nd}
theorem zfZ(op:Bool)(ns:List Nd):zeP op ns []:=⟨fun p h=>(by cases h),fun p h=>(by cases h),fun p h=>(by cases h),fun p h=>(by cases h)⟩
theorem zcd(ns:List Nd):zaV ns 0=true:=by simp[zaV]
theorem zbg(ns:List Nd):zaV ns 1=true:=by simp[zaV]
theorem zdZ(ns:List Nd):zaa ns 0=24:=by simp[zaa]
theorem zdt(ns:List Nd):zaa ns 1=24:=by simp[zaa]
theorem zqr(hr:zaF ns)(k:Nd):2^rk vars ns k<=2^vars:=Nat.pow_le_pow_right (by omega) (by unfold rk;have:=(zdQ hr k).1;omega)
theorem zpQ(op:Bool)(hg:zcI vars ns){k:Nd}(h3:zhM ns k)(hl:ns.length+2^vars<=900000):OpR vars ns (zj1 op ns k) (fun f=>opS op (sem ns k.v f) (sem ns k.l f) (sem ns k.h f)):=by
 have hp:=zqr (vars:=vars) hg.ranked k;have h:=zcs (op:=op) 24 ns [] k hg (zfZ op ns) h3 (by have:=(zdQ hg.ranked k).1;omega) (by omega);exact⟨h.good,h.ext,h.has,h.sem,by have:=h.len;show (zak 24 op ns [] k).1.length+1<=_;omega,by have:=h.cnt;show Go.Proofs.YtiihalknffbjpaaGreatDoor.Bd.cnt (zak 24 op ns [] k).1+1<=_;omega,by have:=h.tight;show (zak 24 op ns [] k).1.length+1<=_;omega⟩
theorem zwb(hg:zcI vars ns){v:Int}(is:Bool)(hv0:0<=v)(hv:v<(vars:Int))(hv24:v<24)(hl:ns.length+2^vars<=900000):OpR vars ns (zj0 ns v is) (fun f=>f v.toNat==is):=by
 have h1:1<=vars:=by omega
 have h2:2<=2^vars:=by
  obtain⟨q,rfl⟩:∃q,vars=q+1:=⟨vars-1,by omega⟩;have:=Nat.one_le_two_pow (n:=q);rw[Nat.pow_succ];omega
 unfold zj0;cases is with
 |true =>rw[if_pos rfl];have h:=zde hg (v:=v) (l:=0) (h:=1) (by omega) hv0 hv24 hv (zcd ns) (zbg ns) (by rw[zdZ];exact hv24) (by rw[zdt];exact hv24);exact⟨h.good,h.ext,h.has,fun f=>by rw[h.sem f,zbW,zbu];cases f v.toNat<;>rfl,by have:=h.len;omega,by have:=h.cnt;omega,by have:=h.tight;omega⟩
 |false =>rw[if_neg (by simp)];have h:=zde hg (v:=v) (l:=1) (h:=0) (by omega) hv0 hv24 hv (zbg ns) (zcd ns) (by rw[zdt];exact hv24) (by rw[zdZ];exact hv24);exact⟨h.good,h.ext,h.has,fun f=>by rw[h.sem f,zbW,zbu];cases f v.toNat<;>rfl,by have:=h.len;omega,by have:=h.cnt;omega,by have:=h.tight;omega⟩
end
end Bd
namespace Bd
open Go.RowKit Go.Maps
theorem zeV{ns:List Nd}(hr:zaF ns):∀(d:Nat) (h:Int) (m:List Bool),m.length=ns.length->(∀i,mk m i=true->(nd ns i).v<24)->∀i,mk (za9 d ns h m) i=true->(nd ns i).v<24
 |0,_,_,_,hm=>hm
 |d+1,h,m,hl,hm=>by
  unfold za9;split
  ·exact hm
  ·rename_i hn;obtain⟨b1,b2,b3⟩:=zb8 (not_or.1 hn).1;have b4:=(zar hr h).2;have b5:=(not_or.1 hn).1;refine zeV hr d _ _ (by rw[zaU,List.length_set,hl]) (zeV hr d _ _ (by rw[List.length_set,hl]) ?_);intro i hi;rw[zlW _ _ _ (by omega)] at hi
   by_cases e:i=(h-2).toNat
   ·rw[e];omega
   ·rw[decide_eq_false e,Bool.false_or] at hi;exact hm i hi
theorem zjP{ns:List Nd}(hr:zaF ns)(fs:List Int):∀i,mk (zax ns fs) i=true->(nd ns i).v<24:=by
 have:∀(fs:List Int) (m:List Bool),m.length=ns.length->(∀i,mk m i=true->(nd ns i).v<24)->∀i,mk (fs.foldl (fun m h=>za9 24 ns h m) m) i=true->(nd ns i).v<24:=by
  intro fs
  induction fs with
  |nil=>intro m _ h;exact h
  |cons f fs ih=>intro m hl h;exact ih _ (by rw[zaU,hl]) (zeV hr 24 f m hl h)
 exact this fs _ (by simp) (fun i h=>by rw[zpk] at h;cases h)
theorem zea{ns:List Nd}(hr:zaF ns)(fs:List Int):∀i,i<ns.length->mk (zax ns fs) i=true->za0 ns (zax ns fs) (nd ns i).l/\za0 ns (zax ns fs) (nd ns i).h:=by
 have:∀(fs:List Int) (m:List Bool),m.length=ns.length->(∀i,i<ns.length->mk m i=true->za0 ns m (nd ns i).l/\za0 ns m (nd ns i).h) ->
   ∀i,i<ns.length->mk (fs.foldl (fun m h=>za9 24 ns h m) m) i=true->za0 ns (fs.foldl (fun m h=>za9 24 ns h m) m) (nd ns i).l/\za0 ns (fs.foldl (fun m h=>za9 24 ns h m) m) (nd ns i).h:=by
  intro fs
  induction fs with
  |nil=>intro m _ h;exact h
  |cons f fs ih =>
   intro m hl h;refine ih _ (by rw[zaU,hl]) (fun i hi hm=>?_)
   by_cases h0:mk m i=true
   ·exact⟨(h i hi h0).1.grow hl 24 f,(h i hi h0).2.grow hl 24 f⟩
   ·exact(zcJ hr 24 f m hl (by have:=(zar hr f).1;omega)).2 i hi hm (by simpa using h0)
 exact this fs _ (by simp) (fun i _ h=>by rw[zpk] at h;cases h)
theorem zfC{ns:List Nd}(hr:zaF ns)(fs:List Int):zaF (zbB ns (zax ns fs)):=by
 have hc:=zea hr fs;have hreal:=zjP hr fs;generalize zax ns fs=M at *;have key:∀j,j<ns.length->mk M j=true/\nd (zbB ns M) j=nd ns j\/mk M j=false/\nd (zbB ns M) j=⟨24,0,0⟩:=fun j hj=>by
  rw[zcM ns M j hj]
  by_cases h:mk M j=true
  ·exact .inl ⟨h,by rw[if_pos h]⟩
  ·exact .inr ⟨by simpa using h,by rw[if_neg h]⟩
 have child:∀h,za0 ns M h->zaV ns h=true->zaa (zbB ns M) h=zaa ns h/\zaV (zbB ns M) h=true:=fun h hm hh=>by
  have e:zaa (zbB ns M) h=zaa ns h:=by
   rw[ziW];rcases hm with hm|hm
   ·rw[hm];split<;>rfl
   ·rw[if_pos hm]
  exact⟨e,by unfold zaV at *;rw[e];exact hh⟩
 refine⟨?_,?_,?_,?_⟩<;>intro j hj<;>rw[zaG] at hj
 ·rcases key j hj with ⟨-,e⟩|⟨-,e⟩
  ·rw[e];exact hr.v0 j hj
  ·rw[e];simp
 ·intro hv;rcases key j hj with ⟨hm,e⟩|⟨-,e⟩
  ·rw[e];have:=hr.l j hj (hreal j hm);have hcl:=child _ (hc j hj hm).1 this.2;rw[hcl.1];exact⟨this.1,hcl.2⟩
  ·rw[e] at hv;simp at hv
 ·intro hv;rcases key j hj with ⟨hm,e⟩|⟨-,e⟩
  ·rw[e];have:=hr.h j hj (hreal j hm);have hcl:=child _ (hc j hj hm).2 this.2;rw[hcl.1];exact⟨this.1,hcl.2⟩
  ·rw[e] at hv;simp at hv
 ·rcases key j hj with ⟨-,e⟩|⟨-,e⟩
  ·rw[e];exact hr.ok j hj
  ·rw[e];exact⟨⟨by decide,by decide⟩,⟨by decide,by decide⟩,⟨by decide,by decide⟩⟩
theorem zm3{ns:List Nd}{L:List (Nd × Int)}{M:List Bool}(hB:zqo ns L):zqo (zbB ns M) (LTo L M ns.length):=by
 refine⟨fun p hp=>?_,fun i hi hv=>?_,?_,fun i hi hv=>?_⟩
 ·obtain⟨h1,h2⟩:=List.mem_filter.1 hp;obtain⟨i,hi,hv,rfl⟩:=hB.mem p h1;simp only[show (2+(i:Int)-2).toNat=i by omega,decide_eq_false (show ¬ns.length<=i by omega),Bool.false_or] at h2;refine⟨i,by rw[zaG];exact hi,?_,?_⟩<;>rw[zcM ns M i hi,if_pos h2]
  exact hv
 ·rw[zaG] at hi;rw[zcM ns M i hi] at hv ⊢
  by_cases hm:mk M i=true
  ·rw[if_pos hm] at hv ⊢;exact List.mem_filter.2 ⟨hB.all i hi hv,by simp only[show (2+(i:Int)-2).toNat=i by omega,hm,Bool.or_true]⟩
  ·rw[if_neg hm] at hv;simp at hv
 ·exact hB.nodup.sublist (List.filter_sublist.map _)
 ·rw[zaG] at hi;rw[zcM ns M i hi] at hv ⊢
  by_cases hm:mk M i=true
  ·rw[if_pos hm] at hv ⊢;exact hB.free i hi hv
  ·rw[if_neg hm]
def zkC(ns:List Nd):List Nat:=(List.range ns.length).filter fun i=>decide ((nd ns i).v<24)
theorem zf8{ns:List Nd}{L:List (Nd × Int)}(hB:zqo ns L):L.length=(zkC ns).length:=by
 have hp:L.Perm ((zkC ns).map fun i:Nat=>(nd ns i,2+(i:Int))):=by
  refine(List.perm_ext_iff_of_nodup (List.Pairwise.of_map Prod.fst (fun a b h e=>h (e▸rfl)) hB.nodup) (List.Pairwise.map _ (fun a b h e=>h (by have:=(Prod.mk.inj e).2;omega)) (List.nodup_range.filter _))).2 fun p=>?_;rw[List.mem_map];constructor
  ·intro h;obtain⟨i,hi,hv,rfl⟩:=hB.mem p h;exact⟨i,List.mem_filter.2 ⟨List.mem_range.2 hi,by simpa using hv⟩,rfl⟩
  ·rintro⟨i,hi,rfl⟩;obtain⟨h1,h2⟩:=List.mem_filter.1 hi;exact hB.all i (List.mem_range.1 h1) (by simpa using h2)
 rw[hp.length_eq,List.length_map]
theorem zln(ns:List Nd):(zkC ns).length<=ns.length:=by
 unfold zkC;exact Nat.le_trans (List.length_filter_le _ _) (by simp)
end Bd
namespace Bd
open Go.RowKit Go.Maps
section
variable {ns:List Nd} {vars:Nat}
theorem znG(hr:zaF ns)(fs:List Int):∀h∈fs,za0 ns (zax ns fs) h:=by
 have:∀(fs:List Int) (m:List Bool),m.length=ns.length->∀h,(h∈fs\/za0 ns m h)->za0 ns (fs.foldl (fun m h=>za9 24 ns h m) m) h:=by
  intro fs
  induction fs with
  |nil=>intro m _ h hh;exact hh.elim (fun h=>by cases h) id
  |cons f fs ih =>
   intro m hl h hh;refine ih _ (by rw[zaU,hl]) h ?_;rcases hh with hh|hh
   ·rcases List.mem_cons.1 hh with rfl|hh
    ·exact .inr (zcJ hr 24 h m hl (by have:=(zar hr h).1;omega)).1
    ·exact .inl hh
   ·exact .inr (hh.grow hl 24 f)
 exact fun h hh=>this fs _ (by simp) h (.inl hh)
theorem zhb{M:List Bool}{h:Int}(hm:za0 ns M h):zaa (zbB ns M) h=zaa ns h/\(zaa ns h≠24->nd (zbB ns M) (pl h)=nd ns (pl h)):=by
 have e:zaa (zbB ns M) h=zaa ns h:=by
  rw[ziW];rcases hm with hm|hm
  ·rw[hm];split<;>rfl
  ·rw[if_pos hm]
 refine⟨e,fun ht=>?_⟩;rcases hm with hm|hm
 ·exact absurd hm ht
 ·rw[zcM ns M _ (zbL ht).2.1,if_pos (show mk M (pl h)=true from hm)]
theorem znw(hg:zcI vars ns)(fs:List Int):zcI vars (zbB ns (zax ns fs)):=by
 have hr:=zfC hg.ranked fs;generalize zax ns fs=M at *;have key:∀j,j<ns.length->mk M j=true/\nd (zbB ns M) j=nd ns j\/nd (zbB ns M) j=⟨24,0,0⟩:=fun j hj=>by
  rw[zcM ns M j hj]
  by_cases h:mk M j=true
  ·exact .inl ⟨h,by rw[if_pos h]⟩
  ·exact .inr (by rw[if_neg h])
 refine⟨hr,fun i j hi hj hv e=>?_,fun i hi hv=>?_,fun i hi hv=>?_,fun i hi hv=>?_⟩
 ·rw[zaG] at hi hj;rcases key i hi with ⟨-,e1⟩|e1<;>rw[e1] at hv e
  ·rcases key j hj with ⟨-,e2⟩|e2<;>rw[e2] at e
   ·exact hg.once i j hi hj hv e
   ·rw[e] at hv;simp at hv
  ·simp at hv
 ·rw[zaG] at hi;rcases key i hi with ⟨-,e1⟩|e1<;>rw[e1] at hv ⊢
  ·exact hg.red i hi hv
  ·simp at hv
 ·rw[zaG] at hi;rcases key i hi with ⟨-,e1⟩|e1<;>rw[e1] at hv ⊢
  ·exact hg.vars i hi hv
  ·simp at hv
 ·rw[zaG] at hi;rcases key i hi with ⟨-,e1⟩|e1<;>rw[e1] at hv ⊢
  exact hg.free i hi hv
theorem zfo(hr:zaF ns)(fs:List Int)(f:Nat->Bool):∀(d:Nat) (h:Int),za0 ns (zax ns fs) h->zhD d (zbB ns (zax ns fs)) h f=zhD d ns h f
 |0,_,_=>rfl
 |d+1,h,hm=>by
  obtain⟨e1,e2⟩:=zhb hm;unfold zhD;rw[e1]
  by_cases ht:zaa ns h=24
  ·rw[if_pos ht,if_pos ht]
  ·have hk:=zea hr fs (pl h) (zbL ht).2.1 (hm.resolve_left ht);rw[if_neg ht,if_neg ht,e2 ht,zfo hr fs f d _ hk.1,zfo hr fs f d _ hk.2]
theorem zmz(hg:zcI vars ns){fs:List Int}{h:Int}(hh:h∈fs)(hb:zaV ns h=true):zaV (zbB ns (zax ns fs)) h=true/\∀f,sem (zbB ns (zax ns fs)) h f=sem ns h f:=by
 have hm:=znG hg.ranked fs h hh;refine⟨?_,fun f=>zfo hg.ranked fs f 24 h hm⟩;unfold zaV;rw[(zhb hm).1];exact hb
end
abbrev Fn':Type:=(Nat->Bool)->Bool
end Bd
namespace Bd
open Go.RowKit Go.Maps
def zgp(f:Nat->Bool):Nat->Nat
 |0=>0
 |n+1=>zgp f n+(if f n then 2^n else 0)
theorem zlL(f:Nat->Bool):∀n,zgp f n<2^n
 |0=>by simp[zgp]
 |n+1=>by
  have:=zlL f n;unfold zgp;rw[Nat.pow_succ];split<;>omega
theorem zjl(f:Nat->Bool):∀n i,i<n->zaY (zgp f n) i=f i
 |n+1,i,h=>by
  have hl:=zlL f n;unfold zgp zaY
  by_cases e:i=n
  ·subst e;cases hf:f i with
   |true =>rw[if_pos rfl,Nat.add_comm,Nat.testBit_two_pow_add_eq,Nat.testBit_lt_two_pow hl];rfl
   |false =>rw[if_neg (by simp),Nat.add_zero,Nat.testBit_lt_two_pow hl]
  ·have hi:i<n:=by omega
   have ih:=zjl f n i hi;unfold zaY at ih;cases hf:f n with
   |true =>rw[if_pos rfl,Nat.add_comm,Nat.testBit_two_pow_add_gt hi,ih]
   |false =>rw[if_neg (by simp),Nat.add_zero,ih]
end Bd
namespace Bd
open Go.RowKit Go.Maps
def zs5:Nat->Nat->Fn'->(Nat->Bool)->Nat
 |0,_,g,f=>if g f then 1 else 0
 |k+1,v,g,f=>zs5 k (v+1) g (turn f v false)+zs5 k (v+1) g (turn f v true)
theorem zbS(f:Nat->Bool)(v:Nat)(b:Bool):turn f v b v=b:=by unfold turn;rw[if_pos rfl]
theorem za6(f:Nat->Bool){v i:Nat}(b:Bool)(h:i≠v):turn f v b i=f i:=by unfold turn;rw[if_neg h]
def zjg(vars:Nat)(ns:List Nd)(h:Int):Nat:=min (zaa ns h).toNat vars
section
variable {vars:Nat} {ns:List Nd}
theorem zh4(hg:zcI vars ns){h:Int}{v:Nat}(hv:(v:Int)<=zaa ns h):∀f f':Nat->Bool,(∀i,v<=i->f i=f' i)->sem ns h f=sem ns h f':=fun f f' hf =>
 zcD hg.ranked (fun i hi=>hf i (by omega))
end
end Bd
namespace Bd
open Go.RowKit
structure Wy where
 items:Nat
 cost:Int
 can:Bool
abbrev zcq:Type:=Nat->Bool->Int
def woF(C:zcq)(i:Nat)(wo:Wy):Wy:=⟨wo.items,wo.cost+C i false,wo.can⟩
def wiF(C:zcq)(i:Nat)(wi:Wy):Wy:=⟨wi.items|||2^i,wi.cost+C i true,wi.can⟩
def zka(C:zcq)(i:Nat)(wo wi:Wy):Wy:=if wi.can=true/\(wo.can=false\/(wiF C i wi).cost<=(woF C i wo).cost) then wiF C i wi else woF C i wo
def zd3(C:zcq):Nat->Nat->Fn'->(Nat->Bool)->Wy
 |0,_,g,f=>⟨0,0,g f⟩
 |k+1,v,g,f=>zka C v (zd3 C k (v+1) g (turn f v false)) (zd3 C k (v+1) g (turn f v true))
theorem zcy(C:zcq):∀(k v:Nat) {g g':Fn'} (f:Nat->Bool),(∀f',(∀i,i<v->f' i=f i)->g f'=g' f')->zd3 C k v g f=zd3 C k v g' f
 |0,v,g,g',f,h=>by unfold zd3;rw[h f (fun _ _=>rfl)]
 |k+1,v,g,g',f,h=>by
  unfold zd3;rw [zcy C k (v + 1) (turn f v false) (fun f' hf=>h f' (fun i hi=>by rw [hf i (by omega),za6 _ _ (by omega)])),
   zcy C k (v + 1) (turn f v true) (fun f' hf=>h f' (fun i hi=>by rw [hf i (by omega),za6 _ _ (by omega)]))]
theorem zeN(C:zcq):∀(k v:Nat) {g:Fn'},(∀f f':Nat->Bool,(∀i,v<=i->f i=f' i)->g f=g f')->∀f f':Nat->Bool,(∀i,v+k<=i->f i=f' i)->zd3 C k v g f=zd3 C k v g f'
 |0,v,g,hg,f,f',h=>by unfold zd3;rw[hg f f' h]
 |k+1,v,g,hg,f,f',h=>by
  unfold zd3;have key:∀b,zd3 C k (v+1) g (turn f v b)=zd3 C k (v+1) g (turn f' v b):=fun b=>by
   have e:zd3 C k (v + 1) g (turn f v b)=zd3 C k (v + 1) (fun f0=>g (turn f0 v b)) (turn f v b):=zcy C k (v + 1) _ (fun f0 hf=>by
    have:turn f0 v b=f0:=funext fun i=>by
     by_cases e:i=v
     ·rw[e,zbS,hf v (by omega),zbS]
     ·rw[za6 _ _ e]
    rw [this])
   have e':zd3 C k (v + 1) g (turn f' v b)=zd3 C k (v + 1) (fun f0=>g (turn f0 v b)) (turn f' v b):=zcy C k (v + 1) _ (fun f0 hf=>by
    have:turn f0 v b=f0:=funext fun i=>by
     by_cases e:i=v
     ·rw[e,zbS,hf v (by omega),zbS]
     ·rw[za6 _ _ e]
    rw [this])
   rw[e,e'];refine zeN C k (v+1) (fun a c hac=>hg _ _ (fun i hi=>?_)) _ _ (fun i hi=>?_)
   ·by_cases e:i=v
    ·rw[e,zbS,zbS]
    ·rw[za6 _ _ e,za6 _ _ e];exact hac i (by omega)
   ·rw[za6 _ _ (by omega),za6 _ _ (by omega)];exact h i (by omega)
  rw[key false,key true]
def zaA(C:zcq)(vars:Nat)(ns:List Nd)(h:Int)(v:Nat):Wy:=zd3 C (vars-v) v (sem ns h) (fun _=>false)
def zbA(C:zcq)(vars:Nat)(ns:List Nd)(h:Int):Wy:=zaA C vars ns h (zjg vars ns h)
section
variable {C:zcq} {vars:Nat} {ns:List Nd}
theorem zry(hg:zcI vars ns){h:Int}{v:Nat}(hv:v<zjg vars ns h):zaA C vars ns h v=zka C v (zaA C vars ns h (v+1)) (zaA C vars ns h (v+1)):=by
 have h0:=(zar hg.ranked h).1;have hvt:((v+1:Nat):Int)<=zaa ns h:=by unfold zjg at hv;omega
 have hvv:v<vars:=by unfold zjg at hv;omega
 have hs:=zh4 hg (h:=h) (v:=v+1) hvt;unfold zaA;rw[show vars-v=(vars-(v+1))+1 by omega]
 conv=>lhs;unfold zd3
 rw [zeN C _ (v + 1) hs (turn (fun _=>false) v false) (fun _=>false) (fun i hi=>za6 _ _ (by omega)),
  zeN C _ (v + 1) hs (turn (fun _=>false) v true) (fun _=>false) (fun i hi=>za6 _ _ (by omega))]
theorem zmY{h:Int}(hh:zaV ns h=true)(ht:zaa ns h=24)(hv:vars<=24):zbA C vars ns h=⟨0,0,decide (h=1)⟩:=by
 have e:zjg vars ns h=vars:=by unfold zjg;rw[ht];simp;omega
 unfold zbA zaA;rw[e,Nat.sub_self];unfold zd3;rcases zhB hh ht with rfl|rfl
 ·rw[zbu];rfl
 ·rw[zbW];rfl
theorem zkc(hg:zcI vars ns){h:Int}(ht:zaa ns h≠24):zbA C vars ns h=zka C (zaa ns h).toNat (zaA C vars ns (nd ns (pl h)).l ((zaa ns h).toNat+1)) (zaA C vars ns (nd ns (pl h)).h ((zaa ns h).toNat+1)):=by
 have hv:=zfW hg ht;have h0:=(zar hg.ranked h).1;obtain⟨k1,-,k2,-⟩:=znP hg.ranked ht;obtain⟨v,e⟩:∃v:Nat,zaa ns h=(v:Int):=⟨(zaa ns h).toNat,by omega⟩;have et:zjg vars ns h=v:=by unfold zjg;rw[e];simp;omega
 have en:=zeC hg.ranked ht;unfold zbA;rw[et];rw[e] at hv k1 k2 en ⊢;rw[Int.toNat_natCast] at en ⊢;unfold zaA;rw[show vars-v=(vars-(v+1))+1 by omega];rw[zd3];have hl:=zh4 hg (h:=(nd ns (pl h)).l) (v:=v+1) (by omega);have hh:=zh4 hg (h:=(nd ns (pl h)).h) (v:=v+1) (by omega);have e1:zd3 C (vars-(v+1)) (v+1) (sem ns h) (turn (fun _=>false) v false)=zd3 C (vars-(v+1)) (v+1) (sem ns (nd ns (pl h)).l) (turn (fun _=>false) v false) :=
  zcy C _ _ _ (fun f' hf=>by
   have:f' v=false:=by rw[hf v (by omega),zbS]
   rw [en f',this];rfl)
 have e2:zd3 C (vars-(v+1)) (v+1) (sem ns h) (turn (fun _=>false) v true)=zd3 C (vars-(v+1)) (v+1) (sem ns (nd ns (pl h)).h) (turn (fun _=>false) v true) :=
  zcy C _ _ _ (fun f' hf=>by
   have:f' v=true:=by rw[hf v (by omega),zbS]
   rw [en f',this];rfl)
 rw [e1,e2,zeN C _ (v + 1) hl (turn (fun _=>false) v false) (fun _=>false) (fun i hi=>za6 _ _ (by omega)),
  zeN C _ (v + 1) hh (turn (fun _=>false) v true) (fun _=>false) (fun i hi=>za6 _ _ (by omega))]
structure zwf(k v:Nat)(x:Wy):Prop where
 c0:0<=x.cost
 c1:x.cost<=1000000*(k:Int)
 it:x.items<2^(v+k)
def zc9(C:zcq):Prop:=∀i b,0<=C i b/\C i b<=1000000
theorem zwf.bet(hC:zc9 C){k v:Nat}{a b:Wy}(ha:zwf k (v+1) a)(hb:zwf k (v+1) b):zwf (k+1) v (zka C v a b):=by
 have h1:=hC v false;have h2:=hC v true;have e:v+1+k=v+(k+1):=by omega
 have:=ha.c0;have:=ha.c1;have:=hb.c0;have:=hb.c1;have i1:=ha.it;have i2:=hb.it;rw[e] at i1 i2;unfold zka;split
 ·refine⟨by show 0<=b.cost+C v true;omega,by show b.cost+C v true<=_;omega,?_⟩;show b.items|||2^v<2^(v+(k+1));exact Nat.or_lt_two_pow i2 (Nat.pow_lt_pow_right (by omega) (by omega))
 ·exact⟨by show 0<=a.cost+C v false;omega,by show a.cost+C v false<=_;omega,i1⟩
theorem zk6(hC:zc9 C)(g:Fn'):∀(k v:Nat) (f:Nat->Bool),zwf k v (zd3 C k v g f)
 |0,v,f=>⟨Int.le_refl _,by show (0:Int)<=_;omega,Nat.two_pow_pos _⟩
 |k+1,v,f=>by unfold zd3;exact(zk6 hC g k (v+1) _).bet hC (zk6 hC g k (v+1) _)
theorem zhG(hC:zc9 C)(hv24:vars<=24)(h:Int)(v:Nat):0<=(zaA C vars ns h v).cost/\(zaA C vars ns h v).cost<=24000000/\(v<=vars->(zaA C vars ns h v).items<2^vars):=by
 have:=zk6 hC (sem ns h) (vars-v) v (fun _=>false);have h1:=this.c0;have h2:=this.c1;exact⟨h1,by show (zd3 C (vars-v) v (sem ns h) (fun _=>false)).cost<=_;omega,fun hv=>by have:=this.it;rw[show v+(vars-v)=vars by omega] at this;exact this⟩
end
end Bd
section
theorem zhX(w:World)(v:Value)(t:TypeId):(w.alloc (.cells #[v] t)).cell? ⟨w.heap.size,0,none⟩=some v:=by simp
theorem zju(w:World)(v:Value)(t:TypeId):(w.alloc (.cells #[v] t)).frozen? ⟨w.heap.size,0,none⟩=false:=by simp
end
section
open Go.RowKit
def zmr(w:World)(e:Value)(m pl:Int):Prop :=
 (m=0/\pl=-1/\e=.nilIface)\/(m≠0/\pl=-1/\e=.iface 57 (.int .i64 m)) \/
 (m≠0/\∃b,b<w.heap.size/\e=.iface 260 (.pointer (some ⟨b,0,none⟩))/\w.cell? ⟨b,0,none⟩=some (.int .i64 m)/\w.cell? ⟨b,1,none⟩=some (.int .i64 pl))
theorem zmr.below{w w':World}{e:Value}{m pl:Int}(h:zmr w e m pl)(hb:zB w w'):zmr w' e m pl:=by
 rcases h with h|h|⟨h0,b,h1,h2,h3,h4⟩
 ·exact Or.inl h
 ·exact Or.inr (Or.inl h)
 ·exact Or.inr (Or.inr ⟨h0,b,Nat.lt_of_lt_of_le h1 hb.size,h2,(hb.cell (p:=⟨b,0,none⟩) h1).trans h3,(hb.cell (p:=⟨b,1,none⟩) h1).trans h4⟩)
end
section
open Go.RowKit
def I64(x:Int):Prop:=-9223372036854775808<=x/\x<=9223372036854775807
theorem below_new(w:World)(o:Obj):zB w (w.alloc o):=zF.alloc zN _
theorem zbN(a:Addr)(i:Nat):(a.add i).block=a.block:=by unfold Addr.add;split<;>rfl
def zaN(w:World)(a:Option Addr)(xs:List Int):Prop :=
 ∀i,i<xs.length->∃ad:Addr,a=some ad/\ad.block<w.heap.size/\w.cell? (ad.add i)=some (.int .i64 (xs.getD i 0))
theorem zaN.below{w w':World}{a:Option Addr}{xs:List Int}(h:zaN w a xs)(hb:zB w w'):zaN w' a xs:=by
 intro i hi;obtain⟨ad,ha,hl,hc⟩:=h i hi;exact⟨ad,ha,Nat.lt_of_lt_of_le hl hb.size,(hb.cell (by rw[zbN];exact hl)).trans hc⟩
theorem zaN.nil(w:World)(a:Option Addr):zaN w a []:=fun i hi=>by simp at hi
def zey(w:World)(a:Option Addr)(l:List (List Int)):Prop :=
 ∀i,i<l.length->∃(ad:Addr) (a':Option Addr) (cap:Nat),a=some ad/\ad.block<w.heap.size/\w.cell? (ad.add i)=some (.slice a' (l.getD i []).length cap)/\(l.getD i []).length<=cap/\cap<=9223372036854775807/\zaN w a' (l.getD i [])
theorem zey.below{w w':World}{a:Option Addr}{l:List (List Int)}(h:zey w a l)(hb:zB w w'):zey w' a l:=by
 intro i hi;obtain⟨ad,a',cap,ha,hl,hc,h1,h2,h3⟩:=h i hi;exact⟨ad,a',cap,ha,Nat.lt_of_lt_of_le hl hb.size,(hb.cell (by rw[zbN];exact hl)).trans hc,h1,h2,h3.below hb⟩
theorem zby{α:Type}{l:List α}{i:Nat}{d:α}(h:i<l.length):l.getD i d∈l:=by
 rw[List.getD_eq_getElem?_getD,List.getElem?_eq_getElem h];exact List.getElem_mem h
def znN{α:Type}(p:α->Bool)(xs:List α):Int:=match xs.findIdx? p with|some i=>(i:Int)|none=>-1
theorem zip{α:Type}{p:α->Bool}{xs:List α}{k:Nat}{d:α}(h0:∀j,j<k->p (xs.getD j d)=false)(hk:k<xs.length)(h1:p (xs.getD k d)=true):znN p xs=(k:Int):=by
 have:xs.findIdx? p=some k:=by
  rw[List.findIdx?_eq_some_iff_getElem];refine⟨hk,?_,fun j hj=>?_⟩
  ·rw[List.getD_eq_getElem?_getD,List.getElem?_eq_getElem hk] at h1;exact h1
  ·have:=h0 j hj;rw[List.getD_eq_getElem?_getD,List.getElem?_eq_getElem (by omega)] at this;simpa using this
 simp[znN,this]
theorem zgA{α:Type}{p:α->Bool}{xs:List α}{d:α}(h0:∀j,j<xs.length->p (xs.getD j d)=false):znN p xs=-1:=by
 have:xs.findIdx? p=none:=by
  rw[List.findIdx?_eq_none_iff];intro x hx;obtain⟨j,hj,rfl⟩:=List.getElem_of_mem hx;have:=h0 j hj;rw[List.getD_eq_getElem?_getD,List.getElem?_eq_getElem hj] at this;simpa using this
 simp[znN,this]
theorem ziA{α:Type}(p:α->Bool)(xs:List α):decide (0<=znN p xs)=xs.any p:=by
 rw[Bool.eq_iff_iff];simp only[decide_eq_true_eq];unfold znN;cases h:xs.findIdx? p with
 |none =>
  rw[List.findIdx?_eq_none_iff] at h;simp only[List.any_eq_true];constructor
  ·intro h;omega
  ·rintro⟨x,hx,hp⟩;rw[h x hx] at hp;cases hp
 |some i =>rw[List.findIdx?_eq_some_iff_getElem] at h;obtain⟨hi,hp,-⟩:=h;simp only[List.any_eq_true];exact⟨fun _=>⟨_,List.getElem_mem hi,hp⟩,fun _=>by omega⟩
theorem ztQ(F:Nat)(cb:Array Value)(p:Int->Bool)(xs:List Int)(a:Option Addr)(cap:Nat)(w:World)(hm:xs.length<=9223372036854775807)
  (hent:∀args w,(callFunc F args).run Tryz.prog w=.ok (.enter F args) w) (hI:zaN w a xs)
  (hf:∀W i,zB w W->i<xs.length->zR F (#[.int .i64 (xs.getD i 0)]++cb) W (.bool (p (xs.getD i 0)))) :
  zR 238 #[.slice a xs.length cap,.func (.func F) #[] cb] w (.int .i64 (znN p xs)):=by
 have HF:=zH hf;have HI:=zH hI;clear hf hI;go_enter Tryz.func238,Tryz.ntmps238;go_wp2_with fail;go_loopw [8] (fun kV wr=>∃k:Nat,k<=xs.length/\kV=.int .i64 k/\(∀j,j<k->p (xs.getD j 0)=false)/\zB w wr) (fun kV _=>xs.length-(intOf kV).toNat)
 case atStart=>exact⟨0,Nat.zero_le _,rfl,fun j h=>by omega,Below.refl _ _⟩
 case round =>
  obtain⟨k,hk,rfl,h1,hbr⟩:=hrel;have H1:=zH h1;have HBR:=zH hbr;clear h1 hbr
  by_cases hlt:k<xs.length
  ·obtain⟨ad,rfl,hl,hc⟩:=HI.out.below HBR.out k hlt;have HC:=zH (HF.out wr k HBR.out hlt);cases hp:p (xs.getD k 0) with
   |true =>rw[hp] at HC;have HP:=zH hp;clear hp;generalize hx:xs.getD k 0=x at *;have HX:=zH hx;clear hx;go_wp2_with fail;refine HC.out.mono ?_;rintro e w1 ⟨rfl,hb1⟩;have HB1:Hid (zB w w1):=zT HBR.out hb1;clear hb1 HC;go_wp2;go_ret;exact⟨by rw[zip H1.out hlt (by rw[HX.out];exact HP.out)];rfl,HB1.out⟩
   |false =>
    rw[hp] at HC;have HP:=zH hp;clear hp;generalize hx:xs.getD k 0=x at *;have HX:=zH hx;clear hx;go_wp2_with fail;refine HC.out.mono ?_;rintro e w1 ⟨rfl,hb1⟩;have HB1:Hid (zB w w1):=zT HBR.out hb1;clear hb1 HC;go_wp2;go_roundw
    case rel=>exact ⟨k + 1,hlt,by go_num,fun j hj=>(by
     rcases Nat.lt_succ_iff_lt_or_eq.1 hj with e|e
     ·exact H1.out j e
     ·rw [e,HX.out];exact HP.out),HB1.out⟩
    case measure=>simp[intOf];omega
  ·obtain rfl:k=xs.length:=by omega
   go_wp2;go_ret;exact⟨by rw[zgA H1.out];rfl,HBR.out⟩
theorem ztr(F:Nat)(cb:Array Value)(p:Int->Bool)(xs:List Int)(a:Option Addr)(cap:Nat)(w:World)(hm:xs.length<=9223372036854775807)
  (hent:∀args w,(callFunc F args).run Tryz.prog w=.ok (.enter F args) w) (hI:zaN w a xs)
  (hf:∀W i,zB w W->i<xs.length->zR F (#[.int .i64 (xs.getD i 0)]++cb) W (.bool (p (xs.getD i 0)))) :
  zR 174 #[.slice a xs.length cap,.func (.func F) #[] cb] w (.bool (xs.any p)):=by
 have H:=zH (ztQ F cb p xs a cap w hm hent hI hf);clear hf hI hent;rw[<-ziA];generalize znN p xs=i at *;go_enter Tryz.func174,Tryz.ntmps174;go_wp2_with fail;refine H.out.mono ?_;rintro e w1 ⟨rfl,hb1⟩;have HB1:=zH hb1;clear hb1 H;go_wp2;go_ret;exact⟨by first|rfl|simp,HB1.out⟩
end
section
open Go.RowKit
def ziE(v x:Int):Bool:=decide (x≠0/\-v<=x/\x<=v)
end
section
open Go.RowKit
def zkF(vals:Nat)(x:Int):Bool:=if 0<x then vals.testBit (x.toNat-1) else !vals.testBit ((-x).toNat-1)
def zuC(vals:Nat)(x:Int):Bool:=ziE 24 x&&zkF vals x
def zfB(vals:Nat)(c:List Int):Bool:=c.any (zuC vals)
theorem zeM(vals t:Nat)(hv:vals<18446744073709551616):(bits BinOp.and IntKind.u64 ((vals:Int)/2^t) 1==1)=vals.testBit t:=by
 have e:(vals:Int)/2^t=((vals/2^t:Nat):Int):=by simp
 have hd:vals/2^t<=vals:=Nat.div_le_self _ _;rw[e,Nat.testBit_eq_decide_div_mod_eq];generalize vals/2^t=m at *;rw[and_one_u64 _ (by omega) (by omega),Bool.eq_iff_iff];simp;omega
theorem zsA(vals t:Nat)(hv:vals<18446744073709551616):(bits BinOp.and IntKind.u64 ((vals:Int)/2^t) 1==0)=!vals.testBit t:=by
 have e:(vals:Int)/2^t=((vals/2^t:Nat):Int):=by simp
 have hd:vals/2^t<=vals:=Nat.div_le_self _ _;rw[e,Nat.testBit_eq_decide_div_mod_eq];generalize vals/2^t=m at *;rw[and_one_u64 _ (by omega) (by omega),Bool.eq_iff_iff];simp;omega
end
section
open Go.RowKit
def zfH(v:Int)(xs:List Int):Prop:=∀x∈xs,ziE v x=true
theorem zbx{v x:Int}:ziE v x=true↔x≠0/\-v<=x/\x<=v:=by simp[ziE]
def zed(v:Int)(l:List (List Int)):Prop:=∀c∈l,zfH v c
theorem zfx{v x:Int}(hv:v<=24)(h:ziE v x=true):ziE 24 x=true:=by
 rw[zbx] at *;omega
end
section
open Go.RowKit
def zxq(c:List Int):Prop:=∃x∈c,-x∈c
end
section
open Go.RowKit
def zfJ(s:Nat × Nat)(x:Int):Nat × Nat :=
 if 0<x/\x<=24 then (s.1|||2^(x.toNat-1),s.2) else if -24<=x/\x<0 then (s.1,s.2|||2^((-x).toNat-1)) else s
def zai(c:List Int):Nat × Nat:=c.foldl zfJ (0,0)
theorem zk4(c:List Int)(x:Int):zai (c++[x])=zfJ (zai c) x:=by unfold zai;rw[List.foldl_append];rfl
theorem zs1(m k i:Nat):(m|||2^k).testBit i=(m.testBit i||decide (k=i)):=by
 rw[Nat.testBit_or,Nat.testBit_two_pow]
theorem zjV(c:List Int)(s:Nat × Nat)(i:Nat):((c.foldl zfJ s).1.testBit i=(s.1.testBit i||decide (i<24/\(i:Int)+1∈c)))/\((c.foldl zfJ s).2.testBit i=(s.2.testBit i||decide (i<24/\-((i:Int)+1)∈c))):=by
 induction c generalizing s with
 |nil=>simp
 |cons x c ih =>
  rw[List.foldl_cons,(ih _).1,(ih _).2];unfold zfJ
  by_cases h1:0<x/\x<=24
  ·rw[if_pos h1];have e2:(-((i:Int)+1)∈x :: c)↔-((i:Int)+1)∈c:=by
    rw[List.mem_cons];exact⟨fun h=>h.resolve_left (by omega),Or.inr⟩
   have e1:(i<24/\(i:Int)+1∈x :: c)↔(x.toNat-1=i\/(i<24/\(i:Int)+1∈c)):=by
    rw[List.mem_cons];constructor
    ·rintro⟨h,h2|h2⟩
     ·exact Or.inl (by omega)
     ·exact Or.inr ⟨h,h2⟩
    ·rintro (h|⟨h,h2⟩)
     ·exact⟨by omega,Or.inl (by omega)⟩
     ·exact⟨h,Or.inr h2⟩
   refine⟨?_,by simp only[e2]⟩;show ((s.1|||2^(x.toNat-1)).testBit i||_)=_;rw[zs1,Bool.or_assoc,<-Bool.decide_or];simp only[e1]
  ·rw[if_neg h1]
   by_cases h2:-24<=x/\x<0
   ·rw[if_pos h2];have e2:((i:Int)+1∈x :: c)↔(i:Int)+1∈c:=by
     rw[List.mem_cons];exact⟨fun h=>h.resolve_left (by omega),Or.inr⟩
    have e1:(i<24/\-((i:Int)+1)∈x :: c)↔((-x).toNat-1=i\/(i<24/\-((i:Int)+1)∈c)):=by
     rw[List.mem_cons];constructor
     ·rintro⟨h,h3|h3⟩
      ·exact Or.inl (by omega)
      ·exact Or.inr ⟨h,h3⟩
     ·rintro (h|⟨h,h3⟩)
      ·exact⟨by omega,Or.inl (by omega)⟩
      ·exact⟨h,Or.inr h3⟩
    refine⟨by simp only[e2],?_⟩;show ((s.2|||2^((-x).toNat-1)).testBit i||_)=_;rw[zs1,Bool.or_assoc,<-Bool.decide_or];simp only[e1]
   ·rw[if_neg h2];have e1:(i<24/\(i:Int)+1∈x :: c)↔(i<24/\(i:Int)+1∈c):=by
     rw[List.mem_cons];exact⟨fun⟨h,h3⟩=>⟨h,h3.resolve_left (by omega)⟩,fun⟨h,h3⟩=>⟨h,Or.inr h3⟩⟩
    have e2:(i<24/\-((i:Int)+1)∈x :: c)↔(i<24/\-((i:Int)+1)∈c):=by
     rw[List.mem_cons];exact⟨fun⟨h,h3⟩=>⟨h,h3.resolve_left (by omega)⟩,fun⟨h,h3⟩=>⟨h,Or.inr h3⟩⟩
    simp only[e1,e2,and_self]
theorem zcF(c:List Int)(i:Nat):(zai c).1.testBit i=decide (i<24/\(i:Int)+1∈c):=by
 have:=(zjV c (0,0) i).1;simpa[zai] using this
theorem zdd(c:List Int)(i:Nat):(zai c).2.testBit i=decide (i<24/\-((i:Int)+1)∈c):=by
 have:=(zjV c (0,0) i).2;simpa[zai] using this
def Small(s:Nat × Nat):Prop:=s.1<2^24/\s.2<2^24
theorem zlz{m:Nat}(h:∀i,24<=i->m.testBit i=false):m<2^24:=Nat.lt_pow_two_of_testBit m h
theorem zgh(c:List Int):Small (zai c) :=
 ⟨zlz fun i hi=>by rw[zcF];simp;omega,zlz fun i hi=>by rw[zdd];simp;omega⟩
def zaD(s:Nat × Nat):Bool:=decide (s.1&&&s.2≠0)
theorem zhe{s:Nat × Nat}:zaD s=true↔∃i,s.1.testBit i=true/\s.2.testBit i=true:=by
 unfold zaD;rw[decide_eq_true_eq];constructor
 ·intro h;obtain⟨i,hi⟩:=Nat.exists_testBit_of_ne_zero h;rw[Nat.testBit_and,Bool.and_eq_true] at hi;exact⟨i,hi⟩
 ·rintro⟨i,h1,h2⟩ h;have:(s.1&&&s.2).testBit i=true:=by rw[Nat.testBit_and,h1,h2];rfl
  rw[h] at this;simp at this
def zeS(s:Nat × Nat)(i:Nat):Option Int:=if s.1.testBit i=true then some ((i:Int)+1) else if s.2.testBit i=true then some (-((i:Int)+1)) else none
def zbp(s:Nat × Nat)(k:Nat):List Int:=(List.range k).filterMap (zeS s)
def zaB(s:Nat × Nat):List Int:=zbp s 24
theorem zdE(s:Nat × Nat)(k:Nat):zbp s (k+1)=zbp s k++(zeS s k).toList:=by
 unfold zbp;rw[List.range_succ,List.filterMap_append];congr 1
theorem zec(s:Nat × Nat)(k:Nat):(zbp s k).length<=k:=by
 unfold zbp;refine Nat.le_trans (List.length_filterMap_le _ _) ?_;simp
theorem zj2{s:Nat × Nat}(ha:zaD s=false){x:Int}:x∈zaB s↔∃i:Nat,i<24/\((x=(i:Int)+1/\s.1.testBit i=true)\/(x=-((i:Int)+1)/\s.2.testBit i=true)):=by
 unfold zaB zbp;rw[List.mem_filterMap];constructor
 ·rintro⟨i,hi,h⟩;rw[List.mem_range] at hi;unfold zeS at h
  by_cases h1:s.1.testBit i=true
  ·rw[if_pos h1] at h;exact⟨i,hi,Or.inl ⟨(Option.some.inj h).symm,h1⟩⟩
  ·rw[if_neg h1] at h
   by_cases h2:s.2.testBit i=true
   ·rw[if_pos h2] at h;exact⟨i,hi,Or.inr ⟨(Option.some.inj h).symm,h2⟩⟩
   ·rw[if_neg h2] at h;cases h
 ·rintro⟨i,hi,⟨e,h1⟩|⟨e,h2⟩⟩
  ·exact⟨i,List.mem_range.2 hi,by unfold zeS;rw[if_pos h1,e]⟩
  ·refine⟨i,List.mem_range.2 hi,?_⟩;unfold zeS;rw[if_neg,if_pos h2,e];intro h1;have:=zhe.2 ⟨i,h1,h2⟩;rw[ha] at this;cases this
theorem zjN{c:List Int}(hl:zfH 24 c):zaD (zai c)=true↔∃x∈c,-x∈c:=by
 rw[zhe];constructor
 ·rintro⟨i,h1,h2⟩;rw[zcF,decide_eq_true_eq] at h1;rw[zdd,decide_eq_true_eq] at h2;exact⟨_,h1.2,h2.2⟩
 ·rintro⟨x,hx,hn⟩;have h:=zbx.1 (hl x hx)
  by_cases hp:0<x
  ·refine⟨x.toNat-1,?_,?_⟩
   ·rw[zcF,decide_eq_true_eq];exact⟨by omega,by rw[show ((x.toNat-1:Nat):Int)+1=x by omega];exact hx⟩
   ·rw[zdd,decide_eq_true_eq];exact⟨by omega,by rw[show ((x.toNat-1:Nat):Int)+1=x by omega];exact hn⟩
  ·refine⟨(-x).toNat-1,?_,?_⟩
   ·rw[zcF,decide_eq_true_eq];exact⟨by omega,by rw[show (((-x).toNat-1:Nat):Int)+1=-x by omega];exact hn⟩
   ·rw[zdd,decide_eq_true_eq];exact⟨by omega,by rw[show (((-x).toNat-1:Nat):Int)+1=-x by omega,Int.neg_neg];exact hx⟩
theorem zdf{c:List Int}(hl:zfH 24 c)(ha:zaD (zai c)=false){x:Int}:x∈zaB (zai c)↔x∈c:=by
 rw[zj2 ha];constructor
 ·rintro⟨i,hi,⟨e,h⟩|⟨e,h⟩⟩
  ·rw[zcF,decide_eq_true_eq] at h;rw[e];exact h.2
  ·rw[zdd,decide_eq_true_eq] at h;rw[e];exact h.2
 ·intro hx;have h:=zbx.1 (hl x hx)
  by_cases hp:0<x
  ·refine⟨x.toNat-1,by omega,Or.inl ⟨by omega,?_⟩⟩;rw[zcF,decide_eq_true_eq];exact⟨by omega,by rw[show ((x.toNat-1:Nat):Int)+1=x by omega];exact hx⟩
  ·refine⟨(-x).toNat-1,by omega,Or.inr ⟨by omega,?_⟩⟩;rw[zdd,decide_eq_true_eq];exact⟨by omega,by rw[show (((-x).toNat-1:Nat):Int)+1=-x by omega,Int.neg_neg];exact hx⟩
end
end Go.Proofs.YtiihalknffbjpaaGreatDoor
