/- The way that costs the least: plain. -/
import Derived.Test.YtjmfeefogikdfaaGreatDoorBdNode
namespace Go.Proofs.YtjmfeefogikdfaaGreatDoor
namespace Bd
open Go.RowKit Go.Maps
def yu(k:Nd):Option Int:=if k.v=1\/k.l=k.h then some k.l else if k.v=0 then some k.h else if k.l=1/\k.h=0 then some k.v else none
def J4(k:Nd):Option Int:=if k.v=k.l then some 0 else if k.v=0 then some k.l else if k.l=0 then some k.v else none
def qB(op:Bool)(k:Nd):Option Int:=if op=true then yu k else J4 k
def opS(op a b c:Bool):Bool:=if op=true then (if a=true then b else c) else (a != b)
def ze(ns:List Nd)(k:Nd):Int:=min (min (za ns k.v) (za ns k.l)) (za ns k.h)
def loK(ns:List Nd)(k:Nd)(v:Int):Nd:=⟨loS ns k.v v,loS ns k.l v,loS ns k.h v⟩
def hiK(ns:List Nd)(k:Nd)(v:Int):Nd:=⟨hiS ns k.v v,hiS ns k.l v,hiS ns k.h v⟩
def look{α:Type}[DecidableEq α](m:List (α × Int))(k:α):Option Int:=(m.find? fun p=>decide (p.1=k)).map Prod.snd
def Zo{α:Type}[DecidableEq α](m:List (α × Int))(k:α)(h:Int):List (α × Int):=if k∈m.map Prod.fst then m.map (fun q=>if q.1=k then (q.1,h) else q) else m++[(k,h)]
def zo:Nat->Bool->List Nd->List (Nd × Int)->Nd->List Nd × List (Nd × Int) × Int
  |0,op,ns,m,k=>(ns,m,(qB op k).getD 0)
  |d+1,op,ns,m,k =>
    match qB op k with
    |some h=>(ns,m,h)
    |none =>
      match look m k with
      |some h=>(ns,m,h)
      |none =>
        let r1:=zo d op ns m (loK ns k (ze ns k))
        let r2:=zo d op r1.1 r1.2.1 (hiK ns k (ze ns k))
        let r3:=yd r2.1 (ze ns k) r1.2.2 r2.2.2
        (r3.1,Zo r2.2.1 k r3.2,r3.2)
section
variable {α:Type} [DecidableEq α] {m:List (α × Int)} {k:α}
theorem zcm{h:Int}(e:look m k=some h):(k,h)∈m:=by
  unfold look at e;obtain⟨p,hp,rfl⟩:=Option.map_eq_some_iff.1 e;have h1:=List.find?_some hp;have h2:=List.mem_of_find?_eq_some hp;simp at h1;subst h1;exact h2
theorem zhv(e:look m k=none):k∉m.map Prod.fst:=by
  unfold look at e;rw[Option.map_eq_none_iff,List.find?_eq_none] at e;intro h;obtain⟨p,hp,rfl⟩:=List.mem_map.1 h;exact e p hp (by simp)
theorem XY{h:Int}{p:α × Int}(hp:p∈Zo m k h):p=(k,h)\/p∈m:=by
  unfold Zo at hp;split at hp
  · obtain⟨q,hq,rfl⟩:=List.mem_map.1 hp
    by_cases e:q.1=k
    · rw[if_pos e];exact .inl (by rw[e])
    · rw[if_neg e];exact .inr hq
  · rcases List.mem_append.1 hp with hp|hp
    · exact .inr hp
    · rw[List.mem_singleton] at hp;exact .inl hp
theorem zgu(h:Int):(Zo m k h).length<=m.length+1:=by
  unfold Zo;split
  · simp
  · simp
end
structure yJ(ns:List Nd)(k:Nd):Prop where
  a:zg ns k.v=true
  b:zg ns k.l=true
  c:zg ns k.h=true
structure Z1(op:Bool)(ns:List Nd)(m:List (Nd × Int)):Prop where
  keys:∀p∈m,yJ ns p.1
  has:∀p∈m,zg ns p.2=true
  top:∀p∈m,ze ns p.1<=za ns p.2
  sem:∀p∈m,∀f,sem ns p.2 f=opS op (sem ns p.1.v f) (sem ns p.1.l f) (sem ns p.1.h f)
section
variable {ns:List Nd} {op:Bool} {m:List (Nd × Int)} {k:Nd} {vars:Nat}
theorem Xh(ns:List Nd)(k:Nd):ze ns k<=za ns k.v/\ze ns k<=za ns k.l/\ze ns k<=za ns k.h:=by unfold ze;omega
theorem zbv{x:Int}(h1:x<=za ns k.v)(h2:x<=za ns k.l)(h3:x<=za ns k.h):x<=ze ns k:=by unfold ze;omega
theorem Qb(hr:qe ns)(k:Nd):0<=ze ns k/\ze ns k<=24:=by
  have h1:=zY hr k.v;have h2:=zY hr k.l;have h3:=zY hr k.h;unfold ze;omega
theorem yJ.ext{ns':List Nd}(h:yJ ns k)(he:Ext ns ns'):yJ ns' k:=⟨he.has _ h.a,he.has _ h.b,he.has _ h.c⟩
theorem YN{ns':List Nd}(h:yJ ns k)(he:Ext ns ns'):ze ns' k=ze ns k:=by unfold ze;rw[he.top _ h.a,he.top _ h.b,he.top _ h.c]
theorem Z1.ext{ns':List Nd}(hr:qe ns)(h:Z1 op ns m)(he:Ext ns ns'):Z1 op ns' m :=
  ⟨fun p hp=>(h.keys p hp).ext he,fun p hp=>he.has _ (h.has p hp),fun p hp=>by rw [YN (h.keys p hp) he,he.top _ (h.has p hp)];exact h.top p hp,
   fun p hp f=>by rw [xC hr he (h.has p hp),xC hr he (h.keys p hp).a,xC hr he (h.keys p hp).b,xC hr he (h.keys p hp).c];exact h.sem p hp f⟩
theorem zjv{h:Int}(hh:h=0\/h=1):za ns h=24:=by rcases hh with rfl|rfl<;>simp[za]
theorem zel(hr:qe ns){h:Int}(h3:yJ ns k)(e:qB op k=some h):zg ns h=true/\ze ns k<=za ns h/\∀f,sem ns h f=opS op (sem ns k.v f) (sem ns k.l f) (sem ns k.h f):=by
  obtain⟨m1,m2,m3⟩:=Xh ns k;have mb:=(Qb hr k).2;unfold qB at e;cases op with
  |true =>
    simp only[if_true] at e;unfold yu at e;split at e
    · rename_i c
      cases e;refine⟨h3.b,m2,fun f=>?_⟩;rcases c with c|c
      · rw[c,xZ];simp[opS]
      · rw[c];simp only[opS,if_true];split<;>rfl
    · split at e
      · rename_i c
        cases e;refine⟨h3.c,m3,fun f=>?_⟩;rw[c,Zm];simp[opS]
      · split at e
        · rename_i c
          cases e;refine⟨h3.a,m1,fun f=>?_⟩;rw[c.1,c.2,xZ,Zm];simp only[opS,if_true];cases sem ns k.v f<;>rfl
        · cases e
  |false =>
    simp only[Bool.false_eq_true,if_false] at e;unfold J4 at e;split at e
    · rename_i c
      cases e;refine⟨by simp[zg],by rw[zjv (.inl rfl)];exact mb,fun f=>?_⟩;rw[c,Zm];simp[opS]
    · split at e
      · rename_i c
        cases e;refine⟨h3.b,m2,fun f=>?_⟩;rw[c,Zm];simp[opS]
      · split at e
        · rename_i c
          cases e;refine⟨h3.a,m1,fun f=>?_⟩;rw[c,Zm];simp[opS]
        · cases e
theorem Xs(hr:qe ns)(h3:yJ ns k)(e:qB op k=none):ze ns k<24:=by
  have tv:=zY hr k.v;have tl:=zY hr k.l;obtain⟨m1,m2,m3⟩:=Xh ns k;unfold qB at e;cases op with
  |true =>
    simp only[if_true] at e;unfold yu at e;split at e
    · cases e
    · split at e
      · cases e
      · rename_i c1 c2
        by_cases t:za ns k.v=24
        · rcases QX h3.a t with h|h
          · exact absurd h c2
          · exact absurd (.inl h) c1
        · omega
  |false =>
    simp only[Bool.false_eq_true,if_false] at e;unfold J4 at e;split at e
    · cases e
    · split at e
      · cases e
      · split at e
        · cases e
        · rename_i c1 c2 c3
          by_cases t:za ns k.v=24
          · by_cases u:za ns k.l=24
            · rcases QX h3.a t with h|h<;>rcases QX h3.b u with g|g<;>first|exact absurd h c2|exact absurd g c3|exact absurd (h.trans g.symm) c1
            · omega
          · omega
def rk(vars:Nat)(ns:List Nd)(k:Nd):Nat:=((vars:Int)-ze ns k).toNat
structure JK(vars:Nat)(op:Bool)(ns:List Nd)(m:List (Nd × Int))(k:Nd)(r:List Nd × List (Nd × Int) × Int):Prop where
  good:zr vars r.1
  ext:Ext ns r.1
  memo:Z1 op r.1 r.2.1
  has:zg r.1 r.2.2=true
  sem:∀f,sem r.1 r.2.2 f=opS op (sem ns k.v f) (sem ns k.l f) (sem ns k.h f)
  top:ze ns k<=za r.1 r.2.2
  cnt:cnt r.1+1<=cnt ns+2^rk vars ns k
  len:r.1.length+1<=ns.length+2^rk vars ns k
  tight:r.1.length+1<=max (ns.length+1) (Go.Proofs.YtjmfeefogikdfaaGreatDoor.Bd.cnt ns+2^rk vars ns k)
  mlen:r.2.1.length+1<=m.length+2^rk vars ns k
theorem JU(hr:qe ns)(h3:yJ ns k)(hv:ze ns k<24):yJ ns (loK ns k (ze ns k))/\ze ns k<ze ns (loK ns k (ze ns k)):=by
  obtain⟨m1,m2,m3⟩:=Xh ns k;have a:=QE hr hv h3.a;have b:=QE hr hv h3.b;have c:=QE hr hv h3.c;refine⟨⟨a.1,b.1,c.1⟩,?_⟩;have:=zbv (ns:=ns) (k:=loK ns k (ze ns k)) (x:=ze ns k+1) (a.2.1 m1) (b.2.1 m2) (c.2.1 m3);omega
theorem zav(hr:qe ns)(h3:yJ ns k)(hv:ze ns k<24):yJ ns (hiK ns k (ze ns k))/\ze ns k<ze ns (hiK ns k (ze ns k)):=by
  obtain⟨m1,m2,m3⟩:=Xh ns k;have a:=QH hr hv h3.a;have b:=QH hr hv h3.b;have c:=QH hr hv h3.c;refine⟨⟨a.1,b.1,c.1⟩,?_⟩;have:=zbv (ns:=ns) (k:=hiK ns k (ze ns k)) (x:=ze ns k+1) (a.2.1 m1) (b.2.1 m2) (c.2.1 m3);omega
theorem Q6(hg:zr vars ns){h:Int}(ht:za ns h≠24):za ns h<(vars:Int):=by
  obtain⟨h1,h2,h3,-⟩:=yE ht;have:=Q4 hg.ranked ht;rw[h3] at this ⊢;exact hg.vars _ h2 this
theorem Ja(hg:zr vars ns)(hv:ze ns k<24):ze ns k<(vars:Int):=by
  have:ze ns k=za ns k.v\/ze ns k=za ns k.l\/ze ns k=za ns k.h:=by unfold ze;omega
  rcases this with e|e|e<;>rw[e] at hv ⊢<;>exact Q6 hg (by omega)
theorem zgD(op c a b d x y z:Bool):opS op (if c=true then a else x) (if c=true then b else y) (if c=true then d else z)=if c=true then opS op a b d else opS op x y z:=by
  cases c<;>simp
theorem K3(hg:zr vars ns)(hm:Z1 op ns m){h:Int}(hh:zg ns h=true)(ht:ze ns k<=za ns h)(hs:∀f,Go.Proofs.YtjmfeefogikdfaaGreatDoor.Bd.sem ns h f=opS op (Go.Proofs.YtjmfeefogikdfaaGreatDoor.Bd.sem ns k.v f) (Go.Proofs.YtjmfeefogikdfaaGreatDoor.Bd.sem ns k.l f) (Go.Proofs.YtjmfeefogikdfaaGreatDoor.Bd.sem ns k.h f)):JK vars op ns m k (ns,m,h):=by
  have:=Nat.one_le_two_pow (n:=rk vars ns k);exact⟨hg,Ext.refl _,hm,hh,hs,ht,by show Go.Proofs.YtjmfeefogikdfaaGreatDoor.Bd.cnt ns+1<=_;omega,by show ns.length+1<=_;omega,by show ns.length+1<=_;omega,by show m.length+1<=_;omega⟩
theorem ZU:∀(d:Nat) (ns:List Nd) (m:List (Nd × Int)) (k:Nd),zr vars ns->Z1 op ns m->yJ ns k->24<=ze ns k+d->ns.length+2^rk vars ns k<=900000->JK vars op ns m k (zo d op ns m k)
  |0,ns,m,k,hg,hm,h3,hd,_=>by
    unfold zo;cases e:qB op k with
    |none=>have:=Xs hg.ranked h3 e;omega
    |some h =>obtain⟨a,b,c⟩:=zel hg.ranked h3 e;exact K3 hg hm a b c
  |d+1,ns,m,k,hg,hm,h3,hd,hl=>by
    unfold zo;cases e:qB op k with
    |some h =>obtain⟨a,b,c⟩:=zel hg.ranked h3 e;exact K3 hg hm a b c
    |none =>
      cases e2:look m k with
      |some h =>have hp:=zcm e2;exact K3 hg hm (hm.has _ hp) (hm.top _ hp) (hm.sem _ hp)
      |none =>
        have hr:=hg.ranked;have hv:=Xs hr h3 e;have hvv:=Ja hg hv;have hv0:=(Qb hr k).1;obtain⟨l3,lt⟩:=JU hr h3 hv;obtain⟨g3,gt⟩:=zav hr h3 hv;have hpow:2^rk vars ns k=2^(rk vars ns k-1)+2^(rk vars ns k-1):=by
          have:1<=rk vars ns k:=by unfold rk;omega
          obtain⟨q,hq⟩:∃q,rk vars ns k=q+1:=⟨rk vars ns k-1,by omega⟩;rw[hq,Nat.add_sub_cancel,Nat.pow_succ];omega
        have pge:=Nat.one_le_two_pow (n:=rk vars ns k-1);have p1:2^rk vars ns (loK ns k (ze ns k))<=2^(rk vars ns k-1):=Nat.pow_le_pow_right (by omega) (by unfold rk;omega);have i1:=ZU d ns m (loK ns k (ze ns k)) hg hm l3 (by omega) (by omega);show JK vars op ns m k (_,_,_);generalize zo d op ns m (loK ns k (ze ns k))=r1 at *;have g3':=g3.ext i1.ext;have gm:=YN g3 i1.ext;have p2:2^rk vars r1.1 (hiK ns k (ze ns k))<=2^(rk vars ns k-1):=Nat.pow_le_pow_right (by omega) (by unfold rk;rw[gm];omega);have l1:=i1.len;have c1:=i1.cnt;have m1:=i1.mlen;have i2:=ZU d r1.1 r1.2.1 (hiK ns k (ze ns k)) i1.good i1.memo g3' (by rw[gm];omega) (by omega);generalize zo d op r1.1 r1.2.1 (hiK ns k (ze ns k))=r2 at *;have l2:=i2.len;have c2:=i2.cnt;have t1:=i1.tight;have t2:=i2.tight;have m2:=i2.mlen;have h1':=i2.ext.has _ i1.has;have t1':za r2.1 r1.2.2=za r1.1 r1.2.2:=i2.ext.top _ i1.has;have i3:=QZ i2.good (v:=ze ns k) (l:=r1.2.2) (h:=r2.2.2) (by omega) hv0 hv hvv h1' i2.has (by rw[t1'];have:=i1.top;omega) (by have:=i2.top;rw[gm] at this;omega);generalize yd r2.1 (ze ns k) r1.2.2 r2.2.2=r3 at *;have x13:=(i1.ext.trans i2.ext).trans i3.ext;have c3:=i3.cnt;have t3:=i3.tight;have l3':=i3.len;have hsem:∀f,Go.Proofs.YtjmfeefogikdfaaGreatDoor.Bd.sem r3.1 r3.2 f=opS op (Go.Proofs.YtjmfeefogikdfaaGreatDoor.Bd.sem ns k.v f) (Go.Proofs.YtjmfeefogikdfaaGreatDoor.Bd.sem ns k.l f) (Go.Proofs.YtjmfeefogikdfaaGreatDoor.Bd.sem ns k.h f):=fun f=>by
          rw [i3.sem f,xC i1.good.ranked i2.ext i1.has,i1.sem f,i2.sem f,xC hr i1.ext g3.a,xC hr i1.ext g3.b,xC hr i1.ext g3.c,
            QJ (h:=k.v) hr hv f,QJ (h:=k.l) hr hv f,QJ (h:=k.h) hr hv f,zgD]
          rfl
        have mp:=zgu (m:=r2.2.1) (k:=k) r3.2;have mo:=i2.memo.ext i2.good.ranked i3.ext;have htop:ze ns k<=za r3.1 r3.2:=i3.top;have h3x:=h3.ext x13;have mk:=YN h3 x13;refine⟨i3.good,x13,⟨fun p hp=>?_,fun p hp=>?_,fun p hp=>?_,fun p hp f=>?_⟩,i3.has,hsem,htop,by show Go.Proofs.YtjmfeefogikdfaaGreatDoor.Bd.cnt r3.1+1<=_;omega,by show r3.1.length+1<=_;omega,by show r3.1.length+1<=_;omega,by show (Zo r2.2.1 k r3.2).length+1<=_;omega⟩
        · rcases XY hp with rfl|hp
          · exact h3x
          · exact mo.keys p hp
        · rcases XY hp with rfl|hp
          · exact i3.has
          · exact mo.has p hp
        · rcases XY hp with rfl|hp
          · show ze r3.1 k<=_;rw[mk];exact htop
          · exact mo.top p hp
        · rcases XY hp with rfl|hp
          · show Go.Proofs.YtjmfeefogikdfaaGreatDoor.Bd.sem r3.1 r3.2 f=_
            rw[hsem f,xC hr x13 h3.a,xC hr x13 h3.b,xC hr x13 h3.c]
          · exact mo.sem p hp f
end
end Bd
namespace Bd
open Go.RowKit Go.Maps
structure OpR(vars:Nat)(ns:List Nd)(r:List Nd × Int)(g:(Nat->Bool)->Bool):Prop where
  good:zr vars r.1
  ext:Ext ns r.1
  has:zg r.1 r.2=true
  sem:∀f,sem r.1 r.2 f=g f
  len:r.1.length+1<=ns.length+2^vars
  cnt:cnt r.1+1<=cnt ns+2^vars
  tight:r.1.length+1<=max (ns.length+1) (Go.Proofs.YtjmfeefogikdfaaGreatDoor.Bd.cnt ns+2^vars)
def xg(op:Bool)(ns:List Nd)(k:Nd):List Nd × Int:=((zo 24 op ns [] k).1,(zo 24 op ns [] k).2.2)
def xt(ns:List Nd)(v:Int)(is:Bool):List Nd × Int:=if is=true then yd ns v 0 1 else yd ns v 1 0
section
variable {vars:Nat} {ns:List Nd}
theorem KP(op:Bool)(ns:List Nd):Z1 op ns []:=⟨fun p h=>(by cases h),fun p h=>(by cases h),fun p h=>(by cases h),fun p h=>(by cases h)⟩
theorem ZK(ns:List Nd):zg ns 0=true:=by simp[zg]
theorem xE(ns:List Nd):zg ns 1=true:=by simp[zg]
theorem Yt(ns:List Nd):za ns 0=24:=by simp[za]
theorem Qs(ns:List Nd):za ns 1=24:=by simp[za]
theorem Xg(hr:qe ns)(k:Nd):2^rk vars ns k<=2^vars:=Nat.pow_le_pow_right (by omega) (by unfold rk;have:=(Qb hr k).1;omega)
theorem za6(op:Bool)(hg:zr vars ns){k:Nd}(h3:yJ ns k)(hl:ns.length+2^vars<=900000):OpR vars ns (xg op ns k) (fun f=>opS op (sem ns k.v f) (sem ns k.l f) (sem ns k.h f)):=by
  have hp:=Xg (vars:=vars) hg.ranked k;have h:=ZU (op:=op) 24 ns [] k hg (KP op ns) h3 (by have:=(Qb hg.ranked k).1;omega) (by omega);exact⟨h.good,h.ext,h.has,h.sem,by have:=h.len;show (zo 24 op ns [] k).1.length+1<=_;omega,by have:=h.cnt;show Go.Proofs.YtjmfeefogikdfaaGreatDoor.Bd.cnt (zo 24 op ns [] k).1+1<=_;omega,by have:=h.tight;show (zo 24 op ns [] k).1.length+1<=_;omega⟩
theorem zjU(hg:zr vars ns){v:Int}(is:Bool)(hv0:0<=v)(hv:v<(vars:Int))(hv24:v<24)(hl:ns.length+2^vars<=900000):OpR vars ns (xt ns v is) (fun f=>f v.toNat==is):=by
  have h1:1<=vars:=by omega
  have h2:2<=2^vars:=by
    obtain⟨q,rfl⟩:∃q,vars=q+1:=⟨vars-1,by omega⟩;have:=Nat.one_le_two_pow (n:=q);rw[Nat.pow_succ];omega
  unfold xt;cases is with
  |true =>rw[if_pos rfl];have h:=QZ hg (v:=v) (l:=0) (h:=1) (by omega) hv0 hv24 hv (ZK ns) (xE ns) (by rw[Yt];exact hv24) (by rw[Qs];exact hv24);exact⟨h.good,h.ext,h.has,fun f=>by rw[h.sem f,xZ,Zm];cases f v.toNat<;>rfl,by have:=h.len;omega,by have:=h.cnt;omega,by have:=h.tight;omega⟩
  |false =>rw[if_neg (by simp)];have h:=QZ hg (v:=v) (l:=1) (h:=0) (by omega) hv0 hv24 hv (xE ns) (ZK ns) (by rw[Qs];exact hv24) (by rw[Yt];exact hv24);exact⟨h.good,h.ext,h.has,fun f=>by rw[h.sem f,xZ,Zm];cases f v.toNat<;>rfl,by have:=h.len;omega,by have:=h.cnt;omega,by have:=h.tight;omega⟩
end
end Bd
namespace Bd
open Go.RowKit Go.Maps
theorem JN{ns:List Nd}(hr:qe ns):∀(d:Nat) (h:Int) (m:List Bool),m.length=ns.length->(∀i,mk m i=true->(nd ns i).v<24)->∀i,mk (zO d ns h m) i=true->(nd ns i).v<24
  |0,_,_,_,hm=>hm
  |d+1,h,m,hl,hm=>by
    unfold zO;split
    · exact hm
    · rename_i hn
      obtain⟨b1,b2,b3⟩:=Z2 (not_or.1 hn).1;have b4:=(zY hr h).2;have b5:=(not_or.1 hn).1;refine JN hr d _ _ (by rw[Zz,List.length_set,hl]) (JN hr d _ _ (by rw[List.length_set,hl]) ?_);intro i hi;rw[XG _ _ _ (by omega)] at hi
      by_cases e:i=(h-2).toNat
      · rw[e];omega
      · rw[decide_eq_false e,Bool.false_or] at hi;exact hm i hi
theorem ziJ{ns:List Nd}(hr:qe ns)(fs:List Int):∀i,mk (qq ns fs) i=true->(nd ns i).v<24:=by
  have:∀(fs:List Int) (m:List Bool),m.length=ns.length->(∀i,mk m i=true->(nd ns i).v<24)->∀i,mk (fs.foldl (fun m h=>zO 24 ns h m) m) i=true->(nd ns i).v<24:=by
    intro fs
    induction fs with
    |nil=>intro m _ h;exact h
    |cons f fs ih=>intro m hl h;exact ih _ (by rw[Zz,hl]) (JN hr 24 f m hl h)
  exact this fs _ (by simp) (fun i h=>by rw[ze4] at h;cases h)
theorem zaU{ns:List Nd}(hr:qe ns)(fs:List Int):∀i,i<ns.length->mk (qq ns fs) i=true->yS ns (qq ns fs) (nd ns i).l/\yS ns (qq ns fs) (nd ns i).h:=by
  have:∀(fs:List Int) (m:List Bool),m.length=ns.length->(∀i,i<ns.length->mk m i=true->yS ns m (nd ns i).l/\yS ns m (nd ns i).h) ->
      ∀i,i<ns.length->mk (fs.foldl (fun m h=>zO 24 ns h m) m) i=true->yS ns (fs.foldl (fun m h=>zO 24 ns h m) m) (nd ns i).l/\yS ns (fs.foldl (fun m h=>zO 24 ns h m) m) (nd ns i).h:=by
    intro fs
    induction fs with
    |nil=>intro m _ h;exact h
    |cons f fs ih =>
      intro m hl h;refine ih _ (by rw[Zz,hl]) (fun i hi hm=>?_)
      by_cases h0:mk m i=true
      · exact⟨(h i hi h0).1.grow hl 24 f,(h i hi h0).2.grow hl 24 f⟩
      · exact(Xz hr 24 f m hl (by have:=(zY hr f).1;omega)).2 i hi hm (by simpa using h0)
  exact this fs _ (by simp) (fun i _ h=>by rw[ze4] at h;cases h)
theorem zib{ns:List Nd}(hr:qe ns)(fs:List Int):qe (qs ns (qq ns fs)):=by
  have hc:=zaU hr fs;have hreal:=ziJ hr fs;generalize qq ns fs=M at *;have key:∀j,j<ns.length->mk M j=true/\nd (qs ns M) j=nd ns j\/mk M j=false/\nd (qs ns M) j=⟨24,0,0⟩:=fun j hj=>by
    rw[Qg ns M j hj]
    by_cases h:mk M j=true
    · exact .inl ⟨h,by rw[if_pos h]⟩
    · exact .inr ⟨by simpa using h,by rw[if_neg h]⟩
  have child:∀h,yS ns M h->zg ns h=true->za (qs ns M) h=za ns h/\zg (qs ns M) h=true:=fun h hm hh=>by
    have e:za (qs ns M) h=za ns h:=by
      rw[ze7];rcases hm with hm|hm
      · rw[hm];split<;>rfl
      · rw[if_pos hm]
    exact⟨e,by unfold zg at *;rw[e];exact hh⟩
  refine⟨?_,?_,?_,?_⟩<;>intro j hj<;>rw[xW] at hj
  · rcases key j hj with ⟨-,e⟩|⟨-,e⟩
    · rw[e];exact hr.v0 j hj
    · rw[e];simp
  · intro hv
    rcases key j hj with ⟨hm,e⟩|⟨-,e⟩
    · rw[e]
      have:=hr.l j hj (hreal j hm);have hcl:=child _ (hc j hj hm).1 this.2;rw[hcl.1];exact⟨this.1,hcl.2⟩
    · rw[e] at hv;simp at hv
  · intro hv
    rcases key j hj with ⟨hm,e⟩|⟨-,e⟩
    · rw[e]
      have:=hr.h j hj (hreal j hm);have hcl:=child _ (hc j hj hm).2 this.2;rw[hcl.1];exact⟨this.1,hcl.2⟩
    · rw[e] at hv;simp at hv
  · rcases key j hj with ⟨-,e⟩|⟨-,e⟩
    · rw[e];exact hr.ok j hj
    · rw[e];exact⟨⟨by decide,by decide⟩,⟨by decide,by decide⟩,⟨by decide,by decide⟩⟩
theorem znB{ns:List Nd}{L:List (Nd × Int)}{M:List Bool}(hB:Zv ns L):Zv (qs ns M) (LTo L M ns.length):=by
  refine⟨fun p hp=>?_,fun i hi hv=>?_,?_,fun i hi hv=>?_⟩
  · obtain⟨h1,h2⟩:=List.mem_filter.1 hp
    obtain⟨i,hi,hv,rfl⟩:=hB.mem p h1;simp only[show (2+(i:Int)-2).toNat=i by omega,decide_eq_false (show ¬ns.length<=i by omega),Bool.false_or] at h2;refine⟨i,by rw[xW];exact hi,?_,?_⟩<;>rw[Qg ns M i hi,if_pos h2]
    exact hv
  · rw[xW] at hi
    rw[Qg ns M i hi] at hv ⊢
    by_cases hm:mk M i=true
    · rw[if_pos hm] at hv ⊢
      exact List.mem_filter.2 ⟨hB.all i hi hv,by simp only[show (2+(i:Int)-2).toNat=i by omega,hm,Bool.or_true]⟩
    · rw[if_neg hm] at hv;simp at hv
  · exact hB.nodup.sublist (List.filter_sublist.map _)
  · rw[xW] at hi
    rw[Qg ns M i hi] at hv ⊢
    by_cases hm:mk M i=true
    · rw[if_pos hm] at hv ⊢;exact hB.free i hi hv
    · rw[if_neg hm]
def Qu(ns:List Nd):List Nat:=(List.range ns.length).filter fun i=>decide ((nd ns i).v<24)
theorem XB{ns:List Nd}{L:List (Nd × Int)}(hB:Zv ns L):L.length=(Qu ns).length:=by
  have hp:L.Perm ((Qu ns).map fun i:Nat=>(nd ns i,2+(i:Int))):=by
    refine(List.perm_ext_iff_of_nodup (List.Pairwise.of_map Prod.fst (fun a b h e=>h (e▸rfl)) hB.nodup) (List.Pairwise.map _ (fun a b h e=>h (by have:=(Prod.mk.inj e).2;omega)) (List.nodup_range.filter _))).2 fun p=>?_;rw[List.mem_map];constructor
    · intro h
      obtain⟨i,hi,hv,rfl⟩:=hB.mem p h;exact⟨i,List.mem_filter.2 ⟨List.mem_range.2 hi,by simpa using hv⟩,rfl⟩
    · rintro⟨i,hi,rfl⟩
      obtain⟨h1,h2⟩:=List.mem_filter.1 hi;exact hB.all i (List.mem_range.1 h1) (by simpa using h2)
  rw[hp.length_eq,List.length_map]
theorem zdf(ns:List Nd):(Qu ns).length<=ns.length:=by
  unfold Qu;exact Nat.le_trans (List.length_filter_le _ _) (by simp)
end Bd
namespace Bd
open Go.RowKit Go.Maps
section
variable {ns:List Nd} {vars:Nat}
theorem zky(hr:qe ns)(fs:List Int):∀h∈fs,yS ns (qq ns fs) h:=by
  have:∀(fs:List Int) (m:List Bool),m.length=ns.length->∀h,(h∈fs\/yS ns m h)->yS ns (fs.foldl (fun m h=>zO 24 ns h m) m) h:=by
    intro fs
    induction fs with
    |nil=>intro m _ h hh;exact hh.elim (fun h=>by cases h) id
    |cons f fs ih =>
      intro m hl h hh;refine ih _ (by rw[Zz,hl]) h ?_;rcases hh with hh|hh
      · rcases List.mem_cons.1 hh with rfl|hh
        · exact .inr (Xz hr 24 h m hl (by have:=(zY hr h).1;omega)).1
        · exact .inl hh
      · exact .inr (hh.grow hl 24 f)
  exact fun h hh=>this fs _ (by simp) h (.inl hh)
theorem zdH{M:List Bool}{h:Int}(hm:yS ns M h):za (qs ns M) h=za ns h/\(za ns h≠24->nd (qs ns M) (pl h)=nd ns (pl h)):=by
  have e:za (qs ns M) h=za ns h:=by
    rw[ze7];rcases hm with hm|hm
    · rw[hm];split<;>rfl
    · rw[if_pos hm]
  refine⟨e,fun ht=>?_⟩;rcases hm with hm|hm
  · exact absurd hm ht
  · rw[Qg ns M _ (yE ht).2.1,if_pos (show mk M (pl h)=true from hm)]
theorem zhM(hg:zr vars ns)(fs:List Int):zr vars (qs ns (qq ns fs)):=by
  have hr:=zib hg.ranked fs;generalize qq ns fs=M at *;have key:∀j,j<ns.length->mk M j=true/\nd (qs ns M) j=nd ns j\/nd (qs ns M) j=⟨24,0,0⟩:=fun j hj=>by
    rw[Qg ns M j hj]
    by_cases h:mk M j=true
    · exact .inl ⟨h,by rw[if_pos h]⟩
    · exact .inr (by rw[if_neg h])
  refine⟨hr,fun i j hi hj hv e=>?_,fun i hi hv=>?_,fun i hi hv=>?_,fun i hi hv=>?_⟩
  · rw[xW] at hi hj
    rcases key i hi with ⟨-,e1⟩|e1<;>rw[e1] at hv e
    · rcases key j hj with ⟨-,e2⟩|e2<;>rw[e2] at e
      · exact hg.once i j hi hj hv e
      · rw[e] at hv;simp at hv
    · simp at hv
  · rw[xW] at hi
    rcases key i hi with ⟨-,e1⟩|e1<;>rw[e1] at hv ⊢
    · exact hg.red i hi hv
    · simp at hv
  · rw[xW] at hi
    rcases key i hi with ⟨-,e1⟩|e1<;>rw[e1] at hv ⊢
    · exact hg.vars i hi hv
    · simp at hv
  · rw[xW] at hi
    rcases key i hi with ⟨-,e1⟩|e1<;>rw[e1] at hv ⊢
    exact hg.free i hi hv
theorem Jq(hr:qe ns)(fs:List Int)(f:Nat->Bool):∀(d:Nat) (h:Int),yS ns (qq ns fs) h->yr d (qs ns (qq ns fs)) h f=yr d ns h f
  |0,_,_=>rfl
  |d+1,h,hm=>by
    obtain⟨e1,e2⟩:=zdH hm;unfold yr;rw[e1]
    by_cases ht:za ns h=24
    · rw[if_pos ht,if_pos ht]
    · have hk:=zaU hr fs (pl h) (yE ht).2.1 (hm.resolve_left ht)
      rw[if_neg ht,if_neg ht,e2 ht,Jq hr fs f d _ hk.1,Jq hr fs f d _ hk.2]
theorem ziw(hg:zr vars ns){fs:List Int}{h:Int}(hh:h∈fs)(hb:zg ns h=true):zg (qs ns (qq ns fs)) h=true/\∀f,sem (qs ns (qq ns fs)) h f=sem ns h f:=by
  have hm:=zky hg.ranked fs h hh;refine⟨?_,fun f=>Jq hg.ranked fs f 24 h hm⟩;unfold zg;rw[(zdH hm).1];exact hb
end
abbrev Fn':Type:=(Nat->Bool)->Bool
end Bd
namespace Bd
open Go.RowKit Go.Maps
def Qy(f:Nat->Bool):Nat->Nat
  |0=>0
  |n+1=>Qy f n+(if f n then 2^n else 0)
theorem zds(f:Nat->Bool):∀n,Qy f n<2^n
  |0=>by simp[Qy]
  |n+1=>by
    have:=zds f n;unfold Qy;rw[Nat.pow_succ];split<;>omega
theorem zdp(f:Nat->Bool):∀n i,i<n->qR (Qy f n) i=f i
  |n+1,i,h=>by
    have hl:=zds f n;unfold Qy qR
    by_cases e:i=n
    · subst e
      cases hf:f i with
      |true =>rw[if_pos rfl,Nat.add_comm,Nat.testBit_two_pow_add_eq,Nat.testBit_lt_two_pow hl];rfl
      |false =>rw[if_neg (by simp),Nat.add_zero,Nat.testBit_lt_two_pow hl]
    · have hi:i<n:=by omega
      have ih:=zdp f n i hi;unfold qR at ih;cases hf:f n with
      |true =>rw[if_pos rfl,Nat.add_comm,Nat.testBit_two_pow_add_gt hi,ih]
      |false =>rw[if_neg (by simp),Nat.add_zero,ih]
end Bd
namespace Bd
open Go.RowKit Go.Maps
def qp:Nat->Nat->Fn'->(Nat->Bool)->Nat
  |0,_,g,f=>if g f then 1 else 0
  |k+1,v,g,f=>qp k (v+1) g (turn f v false)+qp k (v+1) g (turn f v true)
theorem xw(f:Nat->Bool)(v:Nat)(b:Bool):turn f v b v=b:=by unfold turn;rw[if_pos rfl]
theorem qS(f:Nat->Bool){v i:Nat}(b:Bool)(h:i≠v):turn f v b i=f i:=by unfold turn;rw[if_neg h]
theorem XV:∀(k v:Nat) {g g':Fn'} (f:Nat->Bool),(∀f',(∀i,i<v->f' i=f i)->g f'=g' f')->qp k v g f=qp k v g' f
  |0,v,g,g',f,h=>by unfold qp;rw[h f (fun _ _=>rfl)]
  |k+1,v,g,g',f,h=>by
    unfold qp;rw [XV k (v + 1) (turn f v false) (fun f' hf=>h f' (fun i hi=>by rw [hf i (by omega),qS f false (by omega)])),
      XV k (v + 1) (turn f v true) (fun f' hf=>h f' (fun i hi=>by rw [hf i (by omega),qS f true (by omega)]))]
theorem Ko:∀(k v:Nat) {g:Fn'},(∀f f':Nat->Bool,(∀i,v<=i->f i=f' i)->g f=g f')->∀f f':Nat->Bool,(∀i,v+k<=i->f i=f' i)->qp k v g f=qp k v g f'
  |0,v,g,hg,f,f',h=>by unfold qp;rw[hg f f' (fun i hi=>h i (by omega))]
  |k+1,v,g,hg,f,f',h=>by
    have key:∀(k v u:Nat) (g:Fn') (f f':Nat->Bool),u<=v->(∀f f':Nat->Bool,(∀i,u<=i->f i=f' i)->g f=g f')->(∀i,u<=i->(i<v\/v+k<=i)->f i=f' i)->qp k v g f=qp k v g f':=by
      intro k
      induction k with
      |zero=>intro v u g f f' _ hg h;unfold qp;rw[hg f f' (fun i hi=>h i hi (by omega))]
      |succ k ih =>
        intro v u g f f' huv hg h;unfold qp;have e:∀ b,qp k (v + 1) g (turn f v b)=qp k (v + 1) g (turn f' v b):=fun b=>ih (v + 1) u g _ _ (by omega) hg (fun i hi hc=>by
          by_cases hiv:i=v
          · subst hiv;rw[xw,xw]
          · rw [qS f b hiv,qS f' b hiv];exact h i hi (by omega))
        rw[e false,e true]
    exact key (k+1) v v g f f' zN hg (fun i _ hc=>h i (by omega))
theorem Jk(p:Fn'):∀(k v:Nat) (f:Nat->Bool),qp k v p f+qp k v (fun f=>!(p f)) f=2^k
  |0,v,f=>by unfold qp;by_cases hp:p f=true<;>simp[hp]
  |k+1,v,f=>by
    unfold qp;have h1:=Jk p k (v+1) (turn f v false);have h2:=Jk p k (v+1) (turn f v true);rw[Nat.pow_succ];omega
theorem zic(p:Fn')(k v:Nat)(f:Nat->Bool):qp k v p f<=2^k:=by have:=Jk p k v f;omega
def q7(vars:Nat)(ns:List Nd)(h:Int)(v:Nat):Nat:=qp (vars-v) v (sem ns h) (fun _=>false)
def zQ(vars:Nat)(ns:List Nd)(h:Int):Nat:=min (za ns h).toNat vars
def yq(vars:Nat)(ns:List Nd)(h:Int):Nat:=q7 vars ns h (zQ vars ns h)
section
variable {vars:Nat} {ns:List Nd}
theorem Yc(hg:zr vars ns){h:Int}{v:Nat}(hv:(v:Int)<=za ns h):∀f f':Nat->Bool,(∀i,v<=i->f i=f' i)->sem ns h f=sem ns h f':=fun f f' hf =>
  QC hg.ranked (fun i hi=>hf i (by omega))
theorem zc7(hg:zr vars ns){h:Int}:∀(d v:Nat),v+d=zQ vars ns h->q7 vars ns h v=yq vars ns h*2^d
  |0,v,e=>by
    have:v=zQ vars ns h:=by omega
    subst this;simp[yq]
  |d+1,v,e=>by
    have h0:=(zY hg.ranked h).1;have hvt:((v+1:Nat):Int)<=za ns h:=by unfold zQ at e;omega
    have hvv:v<vars:=by unfold zQ at e;omega
    have ih:=zc7 hg (h:=h) d (v+1) (by omega);have hs:=Yc hg (h:=h) (v:=v+1) hvt;unfold q7 at ih ⊢;rw[show vars-v=(vars-(v+1))+1 by omega];unfold qp;rw [Ko _ (v + 1) hs (turn (fun _=>false) v false) (fun _=>false) (fun i hi=>qS _ _ (by omega)),
      Ko _ (v + 1) hs (turn (fun _=>false) v true) (fun _=>false) (fun i hi=>qS _ _ (by omega)),ih,Nat.pow_succ]
    rw[<-Nat.mul_assoc];omega
theorem zm2{h:Int}(hh:zg ns h=true)(ht:za ns h=24)(hv:vars<=24):yq vars ns h=h.toNat:=by
  have e:zQ vars ns h=vars:=by unfold zQ;rw[ht];simp;omega
  unfold yq q7;rw[e,Nat.sub_self];unfold qp;rcases QX hh ht with rfl|rfl
  · rw[Zm];rfl
  · rw[xZ];rfl
theorem zka(hg:zr vars ns){h:Int}(ht:za ns h≠24):yq vars ns h=q7 vars ns (nd ns (pl h)).l ((za ns h).toNat+1)+q7 vars ns (nd ns (pl h)).h ((za ns h).toNat+1):=by
  have hv:=Q6 hg ht;have h0:=(zY hg.ranked h).1;obtain⟨k1,-,k2,-⟩:=xx hg.ranked ht;obtain⟨v,e⟩:∃v:Nat,za ns h=(v:Int):=⟨(za ns h).toNat,by omega⟩;have et:zQ vars ns h=v:=by unfold zQ;rw[e];simp;omega
  have en:=Qm hg.ranked ht;unfold yq;rw[et];rw[e] at hv k1 k2 en ⊢;rw[Int.toNat_natCast] at en ⊢;unfold q7;rw[show vars-v=(vars-(v+1))+1 by omega];rw[qp];have hl:=Yc hg (h:=(nd ns (pl h)).l) (v:=v+1) (by omega);have hh:=Yc hg (h:=(nd ns (pl h)).h) (v:=v+1) (by omega);have e1:qp (vars-(v+1)) (v+1) (sem ns h) (turn (fun _=>false) v false)=qp (vars-(v+1)) (v+1) (sem ns (nd ns (pl h)).l) (turn (fun _=>false) v false) :=
    XV _ _ _ (fun f' hf=>by
      have:f' v=false:=by rw[hf v (by omega),xw]
      rw [en f',this];rfl)
  have e2:qp (vars-(v+1)) (v+1) (sem ns h) (turn (fun _=>false) v true)=qp (vars-(v+1)) (v+1) (sem ns (nd ns (pl h)).h) (turn (fun _=>false) v true) :=
    XV _ _ _ (fun f' hf=>by
      have:f' v=true:=by rw[hf v (by omega),xw]
      rw [en f',this];rfl)
  rw [e1,e2,Ko _ (v + 1) hl (turn (fun _=>false) v false) (fun _=>false) (fun i hi=>qS _ _ (by omega)),
    Ko _ (v + 1) hh (turn (fun _=>false) v true) (fun _=>false) (fun i hi=>qS _ _ (by omega))]
theorem zjC{g:Fn'}{h:Int}(hs:∀f,sem ns h f=g f):q7 vars ns h 0=qp vars 0 g (fun _=>false):=by
  unfold q7;rw[Nat.sub_zero,show sem ns h=g from funext hs]
end
end Bd
namespace Bd
open Go.RowKit
structure Wy where
  items:Nat
  cost:Int
  can:Bool
abbrev qt:Type:=Nat->Bool->Int
def woF(C:qt)(i:Nat)(wo:Wy):Wy:=⟨wo.items,wo.cost+C i false,wo.can⟩
def wiF(C:qt)(i:Nat)(wi:Wy):Wy:=⟨wi.items|||2^i,wi.cost+C i true,wi.can⟩
def xz(C:qt)(i:Nat)(wo wi:Wy):Wy:=if wi.can=true/\(wo.can=false\/(wiF C i wi).cost<=(woF C i wo).cost) then wiF C i wi else woF C i wo
def qr(C:qt):Nat->Nat->Fn'->(Nat->Bool)->Wy
  |0,_,g,f=>⟨0,0,g f⟩
  |k+1,v,g,f=>xz C v (qr C k (v+1) g (turn f v false)) (qr C k (v+1) g (turn f v true))
theorem Yf(C:qt):∀(k v:Nat) {g g':Fn'} (f:Nat->Bool),(∀f',(∀i,i<v->f' i=f i)->g f'=g' f')->qr C k v g f=qr C k v g' f
  |0,v,g,g',f,h=>by unfold qr;rw[h f (fun _ _=>rfl)]
  |k+1,v,g,g',f,h=>by
    unfold qr;rw [Yf C k (v + 1) (turn f v false) (fun f' hf=>h f' (fun i hi=>by rw [hf i (by omega),qS _ _ (by omega)])),
      Yf C k (v + 1) (turn f v true) (fun f' hf=>h f' (fun i hi=>by rw [hf i (by omega),qS _ _ (by omega)]))]
theorem Y0(C:qt):∀(k v:Nat) {g:Fn'},(∀f f':Nat->Bool,(∀i,v<=i->f i=f' i)->g f=g f')->∀f f':Nat->Bool,(∀i,v+k<=i->f i=f' i)->qr C k v g f=qr C k v g f'
  |0,v,g,hg,f,f',h=>by unfold qr;rw[hg f f' h]
  |k+1,v,g,hg,f,f',h=>by
    unfold qr;have key:∀b,qr C k (v+1) g (turn f v b)=qr C k (v+1) g (turn f' v b):=fun b=>by
      have e:qr C k (v + 1) g (turn f v b)=qr C k (v + 1) (fun f0=>g (turn f0 v b)) (turn f v b):=Yf C k (v + 1) _ (fun f0 hf=>by
        have:turn f0 v b=f0:=funext fun i=>by
          by_cases e:i=v
          · rw[e,xw,hf v (by omega),xw]
          · rw[qS _ _ e]
        rw [this])
      have e':qr C k (v + 1) g (turn f' v b)=qr C k (v + 1) (fun f0=>g (turn f0 v b)) (turn f' v b):=Yf C k (v + 1) _ (fun f0 hf=>by
        have:turn f0 v b=f0:=funext fun i=>by
          by_cases e:i=v
          · rw[e,xw,hf v (by omega),xw]
          · rw[qS _ _ e]
        rw [this])
      rw[e,e'];refine Y0 C k (v+1) (fun a c hac=>hg _ _ (fun i hi=>?_)) _ _ (fun i hi=>?_)
      · by_cases e:i=v
        · rw[e,xw,xw]
        · rw[qS _ _ e,qS _ _ e];exact hac i (by omega)
      · rw[qS _ _ (by omega),qS _ _ (by omega)];exact h i (by omega)
    rw[key false,key true]
def qf(C:qt)(vars:Nat)(ns:List Nd)(h:Int)(v:Nat):Wy:=qr C (vars-v) v (sem ns h) (fun _=>false)
def yi(C:qt)(vars:Nat)(ns:List Nd)(h:Int):Wy:=qf C vars ns h (zQ vars ns h)
section
variable {C:qt} {vars:Nat} {ns:List Nd}
theorem zfe(hg:zr vars ns){h:Int}{v:Nat}(hv:v<zQ vars ns h):qf C vars ns h v=xz C v (qf C vars ns h (v+1)) (qf C vars ns h (v+1)):=by
  have h0:=(zY hg.ranked h).1;have hvt:((v+1:Nat):Int)<=za ns h:=by unfold zQ at hv;omega
  have hvv:v<vars:=by unfold zQ at hv;omega
  have hs:=Yc hg (h:=h) (v:=v+1) hvt;unfold qf;rw[show vars-v=(vars-(v+1))+1 by omega]
  conv=>lhs;unfold qr
  rw [Y0 C _ (v + 1) hs (turn (fun _=>false) v false) (fun _=>false) (fun i hi=>qS _ _ (by omega)),
    Y0 C _ (v + 1) hs (turn (fun _=>false) v true) (fun _=>false) (fun i hi=>qS _ _ (by omega))]
theorem zmN{h:Int}(hh:zg ns h=true)(ht:za ns h=24)(hv:vars<=24):yi C vars ns h=⟨0,0,decide (h=1)⟩:=by
  have e:zQ vars ns h=vars:=by unfold zQ;rw[ht];simp;omega
  unfold yi qf;rw[e,Nat.sub_self];unfold qr;rcases QX hh ht with rfl|rfl
  · rw[Zm];rfl
  · rw[xZ];rfl
theorem zin(hg:zr vars ns){h:Int}(ht:za ns h≠24):yi C vars ns h=xz C (za ns h).toNat (qf C vars ns (nd ns (pl h)).l ((za ns h).toNat+1)) (qf C vars ns (nd ns (pl h)).h ((za ns h).toNat+1)):=by
  have hv:=Q6 hg ht;have h0:=(zY hg.ranked h).1;obtain⟨k1,-,k2,-⟩:=xx hg.ranked ht;obtain⟨v,e⟩:∃v:Nat,za ns h=(v:Int):=⟨(za ns h).toNat,by omega⟩;have et:zQ vars ns h=v:=by unfold zQ;rw[e];simp;omega
  have en:=Qm hg.ranked ht;unfold yi;rw[et];rw[e] at hv k1 k2 en ⊢;rw[Int.toNat_natCast] at en ⊢;unfold qf;rw[show vars-v=(vars-(v+1))+1 by omega];rw[qr];have hl:=Yc hg (h:=(nd ns (pl h)).l) (v:=v+1) (by omega);have hh:=Yc hg (h:=(nd ns (pl h)).h) (v:=v+1) (by omega);have e1:qr C (vars-(v+1)) (v+1) (sem ns h) (turn (fun _=>false) v false)=qr C (vars-(v+1)) (v+1) (sem ns (nd ns (pl h)).l) (turn (fun _=>false) v false) :=
    Yf C _ _ _ (fun f' hf=>by
      have:f' v=false:=by rw[hf v (by omega),xw]
      rw [en f',this];rfl)
  have e2:qr C (vars-(v+1)) (v+1) (sem ns h) (turn (fun _=>false) v true)=qr C (vars-(v+1)) (v+1) (sem ns (nd ns (pl h)).h) (turn (fun _=>false) v true) :=
    Yf C _ _ _ (fun f' hf=>by
      have:f' v=true:=by rw[hf v (by omega),xw]
      rw [en f',this];rfl)
  rw [e1,e2,Y0 C _ (v + 1) hl (turn (fun _=>false) v false) (fun _=>false) (fun i hi=>qS _ _ (by omega)),
    Y0 C _ (v + 1) hh (turn (fun _=>false) v true) (fun _=>false) (fun i hi=>qS _ _ (by omega))]
structure Yy(k v:Nat)(x:Wy):Prop where
  c0:0<=x.cost
  c1:x.cost<=1000000*(k:Int)
  it:x.items<2^(v+k)
def Qq(C:qt):Prop:=∀i b,0<=C i b/\C i b<=1000000
theorem Yy.bet(hC:Qq C){k v:Nat}{a b:Wy}(ha:Yy k (v+1) a)(hb:Yy k (v+1) b):Yy (k+1) v (xz C v a b):=by
  have h1:=hC v false;have h2:=hC v true;have e:v+1+k=v+(k+1):=by omega
  have:=ha.c0;have:=ha.c1;have:=hb.c0;have:=hb.c1;have i1:=ha.it;have i2:=hb.it;rw[e] at i1 i2;unfold xz;split
  · refine⟨by show 0<=b.cost+C v true;omega,by show b.cost+C v true<=_;omega,?_⟩
    show b.items|||2^v<2^(v+(k+1));exact Nat.or_lt_two_pow i2 (Nat.pow_lt_pow_right (by omega) (by omega))
  · exact⟨by show 0<=a.cost+C v false;omega,by show a.cost+C v false<=_;omega,i1⟩
theorem JE(hC:Qq C)(g:Fn'):∀(k v:Nat) (f:Nat->Bool),Yy k v (qr C k v g f)
  |0,v,f=>⟨Int.le_refl _,by show (0:Int)<=_;omega,Nat.two_pow_pos _⟩
  |k+1,v,f=>by unfold qr;exact(JE hC g k (v+1) _).bet hC (JE hC g k (v+1) _)
theorem zaF(hC:Qq C)(hv24:vars<=24)(h:Int)(v:Nat):0<=(qf C vars ns h v).cost/\(qf C vars ns h v).cost<=24000000/\(v<=vars->(qf C vars ns h v).items<2^vars):=by
  have:=JE hC (sem ns h) (vars-v) v (fun _=>false);have h1:=this.c0;have h2:=this.c1;exact⟨h1,by show (qr C (vars-v) v (sem ns h) (fun _=>false)).cost<=_;omega,fun hv=>by have:=this.it;rw[show v+(vars-v)=vars by omega] at this;exact this⟩
end
end Bd
end Go.Proofs.YtjmfeefogikdfaaGreatDoor
