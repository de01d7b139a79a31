import Derived.Shelf.SlicesG.Delete
import Derived.Lib.OwnBridge
import Derived.Test.YtoffdbflfikcoaaGreatDoorao
open Go.RowKit
namespace Go.Proofs.YtoffdbflfikcoaaGreatDoor
set_option maxHeartbeats 4000000
set_option maxRecDepth 100000
section
open Sv
def Asc(l:List It):Prop:=l.Pairwise fun x y=>zY x y<0
theorem zau:∀(ls:List Ln) (i:Nat) (its out:List It),its.Nodup->qh ls i its=.ok out->out.Nodup
 |[],i,its,out,h0,h=>by cases h;exact h0
 |x :: r,i,its,out,h0,h=>by
  rw[qh] at h;split at h
  ·cases h
  ·split at h
   ·split at h
    ·cases h
    ·rename_i hx;split at h
     ·cases h
     ·refine zau r (i+1) _ out ?_ h;rw[zts];exact ⟨h0,by simp,fun a ha b hb=>by
       have:b=x.it:=by simpa using hb
       subst this;exact fun e=>hx (e ▸ ha)⟩
   ·exact zau r (i+1) its out h0 h
def yL(ls:List Ln):List It:=(ls.filter fun x=>decide (x.kind=1)).map Ln.it
theorem zas:∀(ls:List Ln) (i:Nat) (its out:List It),qh ls i its=.ok out->out=its++yL ls
 |[],i,its,out,h=>by cases h;simp[yL]
 |x :: r,i,its,out,h=>by
  rw[qh] at h;split at h
  ·cases h
  ·split at h
   ·rename_i hk;split at h
    ·cases h
    ·split at h
     ·cases h
     ·have:=zas r (i+1) _ out h;rw[this];simp[yL,hk]
   ·rename_i hk;have:=zas r (i+1) its out h;rw[this];simp[yL,hk]
theorem zjE{l:List It}(h:l.Nodup):Asc (ya l):=by
 have hs:(ya l).Pairwise fun x y=>(!decide (zY y x<0))=true:=by
  unfold ya;refine List.pairwise_mergeSort ?_ ?_ l
  ·intro a b c h1 h2;simp only[zux,zsm] at h1 h2 ⊢;intro h3;rcases Int.lt_trichotomy (zY b a) 0 with q|q|q
   ·exact h1 q
   ·have e:=Kn _ _ q;subst e;exact h2 h3
   ·have q':zY a b<0:=by rw[YM];omega
    exact h2 (zbE _ _ _ h3 q')
  ·intro a b;simp only[Bool.or_eq_true,zux,zsm];have:=YM a b;omega
 have hn:(ya l).Nodup:=(Q7 l).nodup_iff.2 h;refine(hs.and hn).imp fun {a b} hab=>?_;obtain⟨h1,h2⟩:=hab;simp only[zux,zsm] at h1;have h3:=YM a b;rcases Int.lt_trichotomy (zY a b) 0 with q|q|q
 ·exact q
 ·exact absurd (Kn _ _ q) h2
 ·omega
theorem zlu{a b:List It}(ha:Asc a)(hb:Asc b)(h:a.Perm b):a=b:=by
 refine List.Perm.eq_of_pairwise (le:=fun x y=>zY x y<0) ?_ ha hb h;intro x y _ _ h1 h2;have:=YM x y;omega
def yC(l:List It)(x:It):Nat->Nat
 |0=>0
 |i+1=>if zY x (l.getD i default)<0 then yC l x i else i+1
def xU(l:List It)(x:It)(i:Nat):List It:=l.take i++x :: l.drop i
def qy:List Ln->List It->List It
 |[],acc=>acc
 |x :: r,acc=>if x.kind=1 then qy r (xU acc x.it (yC acc x.it acc.length)) else qy r acc
theorem zcV(l:List It)(x:It):∀n,yC l x n<=n
 |0=>zri _
 |n+1=>by
  unfold yC;split
  ·have:=zcV l x n;omega
  ·exact zri _
theorem zfe(l:List It)(x:It):∀n j,yC l x n<=j->j<n->zY x (l.getD j default)<0
 |0,j,_,h=>by omega
 |n+1,j,h1,h2=>by
  unfold yC at h1;split at h1
  ·rename_i hc;rcases zsh j n with h|h
   ·exact zfe l x n j h1 h
   ·obtain rfl:j=n:=by omega
    exact hc
  ·omega
theorem zev(l:List It)(x:It):∀n k,yC l x n=k+1->¬zY x (l.getD k default)<0
 |0,k,h=>by simp[yC] at h
 |n+1,k,h=>by
  unfold yC at h;split at h
  ·exact zev l x n k h
  ·rename_i hc;obtain rfl:n=k:=by omega
   exact hc
theorem zbd(l:List It)(x:It)(i:Nat):(xU l x i).Perm (x :: l):=by
 unfold xU;have h:=List.perm_middle (a:=x) (l₁:=l.take i) (l₂:=l.drop i)
 rwa [zrN] at h
theorem zaY(l:List It)(x:It)(i:Nat):(xU l x i).length=l.length+1:=by rw[(zbd l x i).length_eq];rfl
theorem zh3{l:List It}{x:It}(hl:Asc l)(hx:x∉l):Asc (xU l x (yC l x l.length)):=by
 obtain⟨p,hp⟩:∃p,yC l x l.length=p:=⟨_,rfl⟩;rw[hp];have K:p<=l.length:=by rw[<-hp];exact zcV l x _
 have gd:∀j (hj:j<l.length),l.getD j default=l[j]:=fun j hj=>by rw[zc0,zc5 hj];rfl
 have o:∀y∈l.drop p,zY x y<0:=fun y hy=>by
  obtain⟨j,hj,rfl⟩:=zrQ hy;simp only[zrK] at hj;rw[List.getElem_drop,<-gd (p+j) (by omega)];exact zfe l x l.length (p+j) (by omega) (by omega)
 have u:Asc (l.take p++l.drop p):=by rw[zrN];exact hl
 obtain⟨h1,h2,h3⟩:=List.pairwise_append.1 u;have q:∀y∈l.take p,zY y x<0:=fun y hy=>by
  cases p with
  |zero=>simp at hy
  |succ k =>
   have hk:k<l.length:=by omega
   have hs:=zev l x l.length k hp;rw[gd k hk] at hs;have M:zY x l[k]≠0:=fun e=>hx (Kn _ _ e▸zr0 hk);have J:zY l[k] x<0:=by rw[YM];omega
   obtain⟨j,hj,rfl⟩:=zrQ hy;simp only[zrj] at hj;rw[ztH];rcases zsh j k with h|h
   ·exact zbE _ _ _ ((List.pairwise_iff_getElem.1 hl) j k (by omega) hk h) J
   ·obtain rfl:j=k:=by omega
    exact J
 unfold xU;refine List.pairwise_append.2 ⟨h1,List.pairwise_cons.2 ⟨o,h2⟩,fun a ha b hb=>?_⟩;rcases zrw.1 hb with rfl|hb
 ·exact q a ha
 ·exact h3 a ha b hb
theorem KB:∀(ls:List Ln) (acc:List It),(qy ls acc).Perm (acc++yL ls)
 |[],acc=>by simp[qy,yL]
 |x :: r,acc=>by
  unfold qy;split
  ·rename_i hk;refine(KB r _).trans ?_;have e:yL (x :: r)=x.it :: yL r:=by simp[yL,hk]
   rw[e];exact((zbd acc x.it _).append_right _).trans List.perm_middle.symm
  ·rename_i hk;have e:yL (x :: r)=yL r:=by simp[yL,hk]
   rw[e];exact KB r acc
theorem zam:∀(ls:List Ln) (acc:List It),Asc acc->(acc++yL ls).Nodup->Asc (qy ls acc)
 |[],acc,h,_=>by simpa[qy] using h
 |x :: r,acc,h,hn=>by
  unfold qy;split
  ·rename_i hk;have e:yL (x :: r)=x.it :: yL r:=by simp[yL,hk]
   rw[e] at hn;have hx:x.it∉acc:=fun ha=>(zts.1 hn).2.2 _ ha _ (by simp) rfl;refine zam r _ (zh3 h hx) ?_;refine(List.Perm.nodup_iff ?_).2 hn;exact((zbd acc x.it _).append_right _).trans List.perm_middle.symm
  ·rename_i hk;have e:yL (x :: r)=yL r:=by simp[yL,hk]
   rw[e] at hn;exact zam r acc h hn
theorem zo6{ls:List Ln}{its:List It}(h:qA ls=.ok its):Asc its/\qy ls []=its:=by
 unfold qA at h;split at h
 ·cases h
 ·split at h
  ·cases h
  ·rename_i g hg;split at h
   ·cases h
   ·cases h;have hn:=zau ls 0 [] g (by simp) hg;have hi:=zas ls 0 [] g hg;simp only[zrX] at hi;have ha:=zjE hn;refine⟨ha,zlu (zam ls [] List.Pairwise.nil (by simpa[<-hi] using hn)) ha ?_⟩;refine(KB ls []).trans ?_;simp only[zrX,<-hi];exact(Q7 g).symm
def zp3(l:List It)(name:ByteArray)(k:Nat):Option (Nat × Nat)->Prop
 |none=>∀i,i<k->(l.getD i default).name≠name
 |some (lo,hi)=>lo<hi/\hi<=k/\(l.getD lo default).name=name/\(l.getD (hi-1) default).name=name/\∀i,i<k->(l.getD i default).name=name->lo<=i/\i<hi
theorem zba(l:List It)(name:ByteArray):∀k,k<=l.length->zp3 l name k (yk (l.take k) name)
 |0,_=>by
  simp only[zvq];exact fun i h=>by omega
 |k+1,hk=>by
  have ih:=zba l name k (by omega);have e:l.take (k+1)=l.take k++[l.getD k default]:=by
   rw[zs8,zc0,zc5 (by omega)];rfl
  have j:(l.take k).length=k:=by rw[zrj];omega
  rw[e,zaz,j];cases hr:yk (l.take k) name with
  |none =>
   rw[hr] at ih;split
   ·rename_i hx;refine⟨by simp,by simp,by simpa using hx,by simpa using hx,fun i hi hn=>?_⟩;rcases zsh i k with h|h
    ·exact absurd hn (ih i h)
    ·simp;omega
   ·rename_i hx;intro i hi;rcases zsh i k with h|h
    ·exact ih i h
    ·obtain rfl:i=k:=by omega
     exact hx
  |some p =>
   obtain⟨lo,hi⟩:=p;rw[hr] at ih;obtain⟨h1,h2,h3,h4,h5⟩:=ih;split
   ·rename_i hx;show lo<k+1/\_;refine⟨by omega,zri _,h3,by simpa using hx,fun i hi hn=>?_⟩;rcases zsh i k with h|h
    ·have:=h5 i h hn;exact⟨this.1,by omega⟩
    ·exact⟨show lo<=i by omega,by omega⟩
   ·rename_i hx;refine⟨h1,by omega,h3,h4,fun i hi hn=>?_⟩;rcases zsh i k with h|h
    ·exact h5 i h hn
    ·obtain rfl:i=k:=by omega
     exact absurd hn hx
theorem zdq{l:List It}(h:Asc l){i j:Nat}(hj:j<l.length)(hij:i<j):zY (l.getD i default) (l.getD j default)<0:=by
 have gd:∀j (hj:j<l.length),l.getD j default=l[j]:=fun j hj=>by rw[zc0,zc5 hj];rfl
 rw[gd i (by omega),gd j hj];exact List.pairwise_iff_getElem.1 h i j (by omega) hj hij
theorem zeE{x y:It}(h:zY x y<0):x.name=y.name\/Lib.compareBytes x.name.data.toList y.name.data.toList<0:=by
 unfold zY at h;split at h
 ·rename_i e;exact Or.inl (Zd e)
 ·exact Or.inr h
theorem zki{l:List It}(h:Asc l)(name:ByteArray)(i:Nat)(hi:i<l.length):(l.getD i default).name=name↔(yf l name).1<=i/\i<(yf l name).2:=by
 have hk:=zba l name l.length zN;rw[zrC] at hk;unfold yf;cases hr:yk l name with
 |none =>rw[hr] at hk;exact⟨fun e=>absurd e (hk i hi),fun e=>by simp at e⟩
 |some p =>
  obtain⟨lo,o⟩:=p;rw[hr] at hk;obtain⟨h1,h2,h3,h4,h5⟩:=hk;simp only[Option.getD_some];refine⟨h5 i hi,fun⟨g1,g2⟩=>?_⟩;apply zss;intro j;have n1:lo≠i:=fun e=>j (e▸h3);have n2:o-1≠i:=fun e=>j (e▸h4);have c1:=zeE (zdq h hi (show lo<i by omega));have c2:=zeE (zdq h (show o-1<l.length by omega) (show i<o-1 by omega));rw[h3] at c1;rw[h4] at c2;rcases c1 with c1|c1
  ·exact j c1.symm
  ·rcases c2 with c2|c2
   ·exact j c2
   ·have:=YZ name.data.toList (l.getD i default).name.data.toList;omega
theorem zgZ{p q:Nat->Bool}(n lo hi:Nat)(h2:hi<=n)(h:∀i,i<n->(q i=true↔(lo<=i/\i<hi)/\p i=true)):(List.range n).filter q=(List.range' lo (hi-lo)).filter p:=by
 rcases zsh hi lo with hlh|hlh
 ·rw[show hi-lo=0 by omega];simp only[ztQ,zs0,zui];intro i j;rw[zsa] at j;intro e;have:=(h i j).1 e;omega
 ·have e:List.range n=List.range' 0 lo++(List.range' lo (hi-lo)++List.range' hi (n-hi)):=by
   rw[List.range_eq_range'];have a1:=List.range'_append_1 (s:=lo) (m:=hi-lo) (n:=n-hi);have a2:=List.range'_append_1 (s:=0) (m:=lo) (n:=(hi-lo)+(n-hi));rw[show lo+(hi-lo)=hi by omega] at a1;rw[zrI] at a2;rw[a1,a2];congr 1;omega
  rw[e,zsg,zsg];have f1:(List.range' 0 lo).filter q=[]:=by
   rw[zui];intro i j;have:=zuv.1 j;intro e;have:=(h i (by omega)).1 e;omega
  have f3:(List.range' hi (n-hi)).filter q=[]:=by
   rw[zui];intro i j;have:=zuv.1 j;intro e;have:=(h i (by omega)).1 e;omega
  have f2:(List.range' lo (hi-lo)).filter q=(List.range' lo (hi-lo)).filter p:=by
   refine ztt fun i j=>?_;have:=zuv.1 j;rw[zrB,h i (by omega)];constructor
   ·exact fun e=>e.2
   ·exact fun e=>⟨by omega,e⟩
  rw[f1,f2,f3];simp
theorem zpN(l:List It)(name:ByteArray):(yf l name).2<=l.length:=by
 have hk:=zba l name l.length zN;rw[zrC] at hk;unfold yf;cases hr:yk l name with
 |none=>simp
 |some p =>obtain⟨lo,j⟩:=p;rw[hr] at hk;exact hk.2.1
end
section
open Go.Deep
structure St where
 told:List Int
 decs:List (Int × List Int)
 prf:List (List Int)
def zqI(v:Nat)(k:Nat)(d:Int × List Int):Prop:=Zz d.2/\qk v d.2/\k+free d.2<=24/\yt v d.1=true
structure zG(v:Nat)(s:St):Prop where
 cons:Zz s.told
 lits:qk v s.told
 few:s.decs.length+free s.told<=24
 pl:s.prf.length<2000
 litsP:xq v s.prf
 ds:∀k d,s.decs[k]?=some d->zqI v k d
end
section
open Go.Deep
def Sat(vals:Nat)(xs:List Int):Prop:=∀x∈xs,yG vals x=true
def zaI(vals:Nat)(l:List (List Int)):Prop:=∀c∈l,∃x∈c,yG vals x=true
theorem zkG{vals:Nat}{told:List Int}{x:Int}(h:Sat vals told)(hx:yG vals x=true):Sat vals (told++[x]):=fun y hy=>by
 simp only[zro,zra] at hy;rcases hy with hy|hy
 ·exact h y hy
 ·rw[hy];exact hx
end
section
open Go.Deep
structure Xa(w:World)(p:Addr)(told:List Int):Prop where
 lt:p.block<w.heap.size
 cell:∀i,i<24->w.cell? (p.add i)=some (.int .i8 (tv told i))
 fz:∀i,i<24->w.frozen? (p.add i)=false
theorem Xa.below{w w':World}{p:Addr}{told:List Int}(h:Xa w p told)(hb:zB w w'):Xa w' p told :=
 ⟨zc6 h.lt hb.size,fun i hi=>(hb.cell (by rw[Z0];exact h.lt)).trans (h.cell i hi),fun i hi=>(hb.frozen (by rw[Z0];exact h.lt)).trans (h.fz i hi)⟩
theorem znY{p:Addr}{i j:Nat}(h:p.add i=p.add j):i=j:=by
 unfold Addr.add at h
 by_cases hi:i=0<;>by_cases hj:j=0
 ·omega
 ·subst hi;rw[zc3 rfl,zc2 hj] at h;have:=zsj Addr.off h;simp at this;omega
 ·subst hj;rw[zc3 rfl,zc2 hi] at h;have:=zsj Addr.off h;simp at this;omega
 ·rw[zc2 hi,zc2 hj] at h;have:=zsj Addr.off h;simp at this;omega
def YP(x:Int):Nat:=(if 0<x then x else -x).toNat-1
def zdF(x:Int):Int:=if 0<x then 1 else -1
theorem Xa.tell{w:World}{p:Addr}{told:List Int}(h:Xa w p told){x:Int}(hx:yt 24 x=true)(hn:-x∉told):Xa (w.setCell (p.add (YP x)) (.int .i8 (zdF x))) p (told++[x]):=by
 rw[xJ] at hx;have ht:YP x<24:=by unfold YP;split<;>omega
 refine⟨by simpa[World.setCell] using h.lt,fun i hi=>?_,fun i hi=>by rw[zrE];exact h.fz i hi⟩;rw[zqq hn]
 by_cases e:i=YP x
 ·rw[e,zrx _ _ _ (by rw[h.cell _ ht];rfl)];unfold YP zdF
  by_cases hp:0<x
  ·rw[zc3 hp,zc3 hp,zc3 (by omega)]
  ·rw[zc2 hp,zc2 hp,zc2 (by omega),zc3 (by omega)]
 ·rw[zrc _ _ _ _ (fun h=>e (znY h).symm),h.cell i hi];unfold YP at e
  by_cases hp:0<x
  ·rw[zc3 hp] at e;rw[zc2 (by omega),zc2 (by omega)]
  ·rw[zc2 hp] at e;rw[zc2 (by omega),zc2 (by omega)]
theorem qO.drop{w:World}{ad:Addr}{xs:List Int}(h:qO w (some ad) xs)(k:Nat):qO w (some (ad.add k)) (xs.drop k):=by
 intro i hi;rw[zrK] at hi;obtain⟨j,e,hl,hc⟩:=h (k+i) (by omega);obtain rfl:=zru e;refine⟨_,rfl,by rw[Z0];exact hl,?_⟩;rw[add_add,hc];simp[List.getD_eq_getElem?_getD]
end
section
open Go.Deep
def tvl(told:List Int):List Value:=(List.range 24).map fun i=>Value.int .i8 (tv told i)
theorem zkS(told:List Int):(tvl told).length=24:=by simp[tvl]
end
section
open Go.Deep
def zmU(vals:Nat)(ds:List (Int × List Int)):Prop:=∀d∈ds,yG vals d.1=true
structure Inv(l:List (List Int))(ds:List (Int × List Int))(told:List Int):Prop where
 imp:∀vals,zaI vals l->zmU vals ds->Sat vals told
 first:∀x∈told,x<0->∀vals,zaI vals l->(∀d∈ds,d.1 < -x->yG vals d.1=true)->yG vals x=true
 low:∀d∈ds,∀u,0<u->u<=d.1->u∈told\/-u∈told
 mem:∀d∈ds,d.1∈told
 pos:∀d∈ds,0<d.1
theorem Inv.tell{l:List (List Int)}{ds:List (Int × List Int)}{told:List Int}(h:Inv l ds told){x:Int}(h0:x∉told)(h1:-x∉told)(hx:∀vals,zaI vals l->Sat vals told->yG vals x=true):Inv l ds (told++[x]):=by
 refine⟨fun vals hs hd=>zkG (h.imp vals hs hd) (hx vals hs (h.imp vals hs hd)),fun y hy j vals hs hd=>?_,fun d hd u q J=>?_,fun d hd=>zro.2 (Or.inl (h.mem d hd)),h.pos⟩
 ·simp only[zro,zra] at hy;rcases hy with hy|hy
  ·exact h.first y hy j vals hs hd
  ·subst hy;refine hx vals hs (h.imp vals hs fun d o=>hd d o ?_);rcases Int.lt_or_le d.1 (-y) with hlt|hle
   ·exact hlt
   ·rcases h.low d o (-y) (by omega) hle with h2|h2
    ·exact absurd h2 h1
    ·rw[Int.neg_neg] at h2;exact absurd h2 h0
 ·rcases h.low d hd u q J with h2|h2
  ·exact Or.inl (zro.2 (Or.inl h2))
  ·exact Or.inr (zro.2 (Or.inl h2))
end
section
open Go.Deep
theorem XU{α:Type}[BEq α][LawfulBEq α]:∀{l m:List α},l.Nodup->(∀x∈l,x∈m)->l.length<=m.length
 |[],_,_,_=>zf6 _
 |a :: l,m,hn,hs=>by
  have hm:=hs a (by simp);have hn':=List.nodup_cons.1 hn;have h1:=XU (l:=l) (m:=m.erase a) hn'.2 (fun x hx =>
   (List.mem_erase_of_ne (fun e:x=a=>hn'.1 (e ▸ hx))).2 (hs x (by simp [hx])))
  rw[List.length_erase_of_mem hm] at h1;have:=List.length_pos_of_mem hm;simp only[zrb];omega
end
section
open Go.Deep Sv
def KQ(w:World)(a:Option Addr)(bs:List Bool):Prop:=∀i,i<bs.length->∃ad:Addr,a=some ad/\ad.block<w.heap.size/\w.cell? (ad.add i)=some (.bool (bs.getD i false))
theorem KQ.below{B:Nat}{w w':World}{a:Option Addr}{bs:List Bool}(h:KQ w a bs)(hb:Below B w w')(hB:w.heap.size<=B):KQ w' a bs:=fun i hi=>by
 obtain⟨ad,h1,h2,h3⟩:=h i hi;exact⟨ad,h1,zc6 h2 hb.size,(hb.cell (p:=ad.add i) (by rw[Z0];omega)).trans h3⟩
def CO(B:Nat)(W:World)(v:Value)(K:List (List Int)):Prop:=∃cs,W.ownsRow B 117 1 v K.length cs/\yh 0 W cs K
theorem CO.new{B:Nat}{W W':World}{v:Value}{K:List (List Int)}(h:CO B W v K)(hb:zB W W'):CO B W' v K:=by
 obtain⟨cs,h1,h2⟩:=h;exact⟨cs,zA h1 hb,h2.kp (Kp.new hb)⟩
theorem CO.app{B:Nat}{W w7:World}{v v':Value}{K:List (List Int)}{c:List Int}{a:Option Addr}{cap:Nat}{cs:List Value}(hB:B<=W.heap.size)(hrow:W.ownsRow B 117 1 v K.length cs)(hck:yh 0 W cs K)
  (hc1:c.length<=cap) (hc2:cap<=9223372036854775807) (hi:q7 0 W a c)
  (hown:w7.ownsRow B 117 1 v' (K.length+1) (cs++[.slice a c.length cap])) (hg:(W.alloc (.cells #[.slice a c.length cap] 117)).grownBy w7 v.ownBlock):CO B w7 v' (K++[c])/\Below B W w7:=by
 have j:=below_new W (.cells #[.slice a c.length cap] 117);have hk:Kp 0 (W.alloc (.cells #[.slice a c.length cap] 117)) w7:=Kp.grown (ownsRow_base (zA hrow j) (zf6 _)) hg (by decide);have o:=(Kp.new (B:=0) j).trans hk;exact⟨⟨_,by simpa using hown,(hck.kp o).snoc hc1 hc2 (hi.kp o)⟩,(j.mono hB).grown hg (by simp;omega) (fun k hk=>(hrow.lt k hk).1)⟩
theorem RS.at{B:Nat}{W:World}{cv fv:Value}{P:List (Int × List Int)}(h:RS B W cv fv (P.map Prod.snd) (P.map Prod.fst))(i:Nat)(hi:i<P.length) :
  ∃cg cc fg fc a j,cv=.slice (some ⟨cg,0,none⟩) P.length cc/\fv=.slice (some ⟨fg,0,none⟩) P.length fc/\W.cell? ⟨cg,i,none⟩=some (.slice a (P.getD i default).2.length j)/\W.cell? ⟨fg,i,none⟩=some (.int .i64 (P.getD i default).1)/\q7 0 W a (P.getD i default).2/\PlA a:=by
 obtain⟨cs,h1,h2,_,h4⟩:=h.crow;have h3:=h.frow;obtain⟨cg,cc,e1,_,o⟩:=(zx h1).cells (by rw[zrs];omega);obtain⟨fg,fc,e2,_,q⟩:=(zx h3).cells (by rw[zrs];omega);obtain⟨a,j,q1,_,_,q4⟩:=h2.2 i (by simpa using hi);have g1:(P.map Prod.snd).getD i []=(P.getD i default).2:=by simp[List.getD_eq_getElem?_getD,hi]
 have g2:(P.map Prod.fst).getD i 0=(P.getD i default).1:=by simp[List.getD_eq_getElem?_getD,hi]
 rw[g1] at q1 q4;refine⟨cg,cc,fg,fc,a,j,by simpa using e1,by simpa using e2,o i _ q1,q i _ (by rw[QQ _ _ (by simpa using hi),g2]),q4,?_⟩;exact h4 _ (ztM q1) _ _ _ rfl
end
section
open Go.Deep
def YR(d:Int × List Int):List Value:=.int .i64 d.1 :: tvl d.2
def qZ(ds:List (Int × List Int)):List Value:=ds.flatMap YR
theorem zbT(d:Int × List Int):(YR d).length=25:=by simp[YR,zkS]
theorem zeU(ds:List (Int × List Int))(d:Int × List Int):qZ (ds++[d])=qZ ds++YR d:=by simp[qZ]
theorem XH{ds:List (Int × List Int)}{k:Nat}{d:Int × List Int}(h:ds[k]?=some d)(j:Nat)(hj:j<25):(qZ ds)[k*25+j]?=(YR d)[j]?:=by
 induction ds generalizing k with
 |nil=>simp at h
 |cons e ds ih =>
  have he:qZ (e :: ds)=YR e++qZ ds:=rfl;rw[he];cases k with
  |zero =>simp at h;subst h;rw[Nat.zero_mul,zrI,zrk (by rw[zbT];exact hj)]
  |succ k =>rw[zrG (by rw[zbT];omega),zbT,show (k+1)*25+j-25=k*25+j by omega];exact ih (by simpa using h)
section
end
end
section
open Go.Deep
theorem set0(cV dV pV u:Value)(told:List Int):([cV]++tvl told++[dV,pV]).toArray.setIfInBounds 0 u=([u]++tvl told++[dV,pV]).toArray:=by
 rw[zf3];rfl
end
section
open Go.Deep
section
variable {v:Nat} {l:List (List Int)} {s:St}
end
theorem YT.set3{W:World}{b:Nat}{e:Value}{m pl:Int}(h:YT W e m pl)(hb:W.cell? b=some (.bool false))(y0 y1 y2:Value):YT (((W.setCell b y0).setCell ⟨b,1,none⟩ y1).setCell ⟨b,2,none⟩ y2) e m pl:=by
 rcases h with h|h|⟨h0,k,h1,h2,h3,h4⟩
 ·exact Or.inl h
 ·exact Or.inr (Or.inl h)
 ·have hk:k≠b:=fun e=>by rw[e,hb] at h3;cases h3
  refine Or.inr (Or.inr ⟨h0,k,by simpa[World.setCell] using h1,h2,?_,?_⟩)
  ·rw[zrc _ _ _ _ (fun e=>hk (zsj Addr.block e).symm),zrc _ _ _ _ (fun e=>hk (zsj Addr.block e).symm),zrc _ _ _ _ (fun e=>hk (zsj Addr.block e).symm)];exact h3
  ·rw[zrc _ _ _ _ (fun e=>hk (zsj Addr.block e).symm),zrc _ _ _ _ (fun e=>hk (zsj Addr.block e).symm),zrc _ _ _ _ (fun e=>hk (zsj Addr.block e).symm)];exact h4
end
section
open Go.Deep Sv
def inF(m:Nat)(ls:List Nat):List Bool:=(List.range m).map fun i=>decide (i∈ls)
theorem zaq(m:Nat)(ls:List Nat):(inF m ls).length=m:=by simp[inF]
theorem zeG{m i:Nat}(ls:List Nat)(h:i<m):(inF m ls).getD i false=decide (i∈ls):=by simp[inF,List.getD_eq_getElem?_getD,h]
def Km(W:World)(g:Nat)(bs:List Bool):Prop:=∃o,Blk W g 4 o/\o.size=bs.length/\∀j,j<bs.length->o[j]?=some (.bool (bs.getD j false))
theorem Km.bools{W:World}{g:Nat}{bs:List Bool}(h:Km W g bs):KQ W (some g) bs:=fun j hj=>by
 obtain⟨o,h1,_,h3⟩:=h;exact⟨_,rfl,h1.lt,by rw[add_plain,zrI,h1.cell j,h3 j hj]⟩
theorem Km.tell{W:World}{g m:Nat}{ls:List Nat}(h:Km W g (inF m ls)){n:Nat}(hn:n<m):Km (W.setCell ⟨g,n,none⟩ (.bool true)) g (inF m (ls++[n])):=by
 obtain⟨o,h1,h2,h3⟩:=h;rw[zaq] at h2 h3;refine⟨_,h1.set,by rw[Array.size_setIfInBounds,zaq,h2],fun j hj=>?_⟩;rw[zaq] at hj;rw[Array.getElem?_setIfInBounds,zeG _ hj]
 by_cases e:n=j
 ·subst e;rw[zc3 rfl,zc3 (by omega)];simp
 ·rw[zc2 e,h3 j hj,zeG _ hj];have:(j∈ls++[n])↔j∈ls:=by simp;exact fun h=>absurd h.symm e
  simp only[this]
end
section
open Go.Deep Sv
theorem zaQ:∀(ls:List Ln) (i:Nat) (its out:List It),yi its<=8->qh ls i its=.ok out->yi out<=8
 |[],i,its,out,h0,h=>by cases h;exact h0
 |x :: r,i,its,out,h0,h=>by
  rw[qh] at h;split at h
  ·cases h
  ·split at h
   ·split at h
    ·cases h
    ·split at h
     ·cases h
     ·rename_i hx;exact zaQ r (i+1) _ out (by omega) h
   ·exact zaQ r (i+1) its out h0 h
theorem zdR:∀(ls:List Ln) (i:Nat) (its:List It),qD ls i its=none->∀x∈ls,x.pair->x.it∈its
 |[],_,_,_,x,hx,_=>by cases hx
 |y :: r,i,its,h,x,hx,hp=>by
  unfold qD at h;split at h
  ·cases h
  ·rename_i hy;rcases zrw.1 hx with rfl|hx
   ·exact zss fun e=>hy ⟨hp,e⟩
   ·exact zdR r (i+1) its h x hx hp
theorem znl{ls:List Ln}{its:List It}(h:qA ls=.ok its):(∀x∈ls,x.pair->x.it∈its)/\∃g:List It,yi g<=8/\its.Perm g:=by
 unfold qA at h;split at h
 ·cases h
 ·split at h
  ·cases h
  ·rename_i g hg;split at h
   ·cases h
   ·rename_i hm;cases h;exact⟨zdR ls 0 _ hm,g,zaQ ls 0 [] g (by decide) hg,Q7 g⟩
theorem zdj{its:List It}{x:It}(h:x∈its):0<=qK its x/\qK its x<its.length:=by
 unfold qK;cases hf:its.findIdx? (fun y=>decide (x=y)) with
 |none =>rw[zsr] at hf;have:=hf x h;simp at this
 |some i =>rw[zrU] at hf;obtain⟨hi,_⟩:=hf;exact⟨by simp,by simpa using hi⟩
theorem zgQ(its:List It)(nm:ByteArray)(rng:List zf):qk its.length ((qo its nm rng).map fun (k:Nat)=>((k:Int)+1)):=fun x hx=>by
 obtain⟨k,hk,rfl⟩:=zrA.1 hx;have:=Y2 its nm rng k hk;rw[xJ];omega
theorem zfE{ls:List Ln}{its:List It}(h:qA ls=.ok its):∀x∈ofL its ls,qk its.length x.2/\x.2.length<=48:=by
 intro x hx;have hl:=(J9 h).1;rcases zro.1 hx with hx|hx
 ·obtain⟨k,hk,hx⟩:=ztR.1 hx;obtain⟨j,hj,hx⟩:=ztR.1 hx;have hk':=zsa.1 hk;have hj':=zsa.1 hj;unfold pr0 at hx;split at hx
  ·rw[zra] at hx;subst hx;refine⟨fun y hy=>?_,by simp⟩;simp only[zrw,zuQ,zu8] at hy;rw[xJ];unfold zD at hy;rcases hy with rfl|rfl<;>omega
  ·cases hx
 ·obtain⟨n,hn,hx⟩:=ztR.1 hx;have hn':=zsa.1 hn;have q:ls.getD n default∈ls:=by rw[zc0,zc5 hn'];exact zr0 hn'
  have o:=(znl h).1 _ q;generalize ls.getD n default=X at *;have l1:=Yw its X.name X.rng;have l2:=Yw its X.other X.rng;unfold yy at hx;split at hx
  ·rw[zra] at hx;subst hx;exact⟨zgQ _ _ _,by simp;omega⟩
  ·split at hx
   ·rename_i hk;rw[zra] at hx;subst hx;have J:=zdj (o (Or.inl hk));refine⟨fun y hy=>?_,by simp;omega⟩;rcases zrw.1 hy with rfl|hy
    ·rw[xJ];unfold zD;omega
    ·exact zgQ _ _ _ y hy
   ·split at hx
    ·rename_i hk;obtain⟨k,u,rfl⟩:=zrA.1 hx;have J:=zdj (o (Or.inr hk));have K:=Y2 its X.other X.rng k u;refine⟨fun y hy=>?_,by simp⟩;simp only[zrw,zuQ,zu8] at hy;rw[xJ];unfold zD at hy;rcases hy with rfl|rfl<;>omega
    ·cases hx
end
namespace Bd
open Go.Deep Sv
structure Zo(B:Nat)(w:World)(p s b:Nat)(O:Nat->Prop)(vars:Nat)(room:Int)(st:List Nd × Int):Prop where
 space:zt B w s b O vars room st.1
 blk:Blk w p 37 #[.pointer (some s),st.2]
 out:¬O p
theorem zt.base{B B' s b vars:Nat}{O:Nat->Prop}{room:Int}{ns:List Nd}{w:World}(h:zt B w s b O vars room ns)(hB:B'<=B):zt B' w s b O vars room ns:=by
 obtain⟨bm,v,L,next,hA,h1,h2,h3⟩:=h.arena;exact⟨⟨bm,v,L,next,⟨hA.lt,hA.croom,hA.cnodes,hA.cmap,hA.cnext,hA.froz,Go.Proofs.YtoffdbflfikcoaaGreatDoor.Bd.ownsRow_base hA.row hB,hA.hmap,hA.d1,hA.d2,hA.d3,zf1 hB hA.B1,zf1 hB hA.B2⟩,h1,h2,h3⟩,fun k hk=>⟨zf1 hB (h.own k hk).1,(h.own k hk).2⟩,h.sO,h.slt,h.c0,h.c1⟩
theorem Zo.new{B p s b vars:Nat}{O:Nat->Prop}{room:Int}{st:List Nd × Int}{w w':World}(h:Zo B w p s b O vars room st)(hb:zB w w'):Zo B w' p s b O vars room st :=
 ⟨h.space.new hb,h.blk.below hb h.blk.lt,h.out⟩
theorem zkb{B:Nat}{W:World}{a:Option Addr}{c:Nat}{fv:Value}{P:List (Int × List Int)}(h:RS B W (.slice a P.length c) fv (P.map Prod.snd) (P.map Prod.fst)):xX W a (P.map Prod.snd):=by
 obtain⟨cs,h1,h2,_⟩:=h.crow;exact yh.cls (B:=0) (cap:=c) h2 (by simpa using ownsRow_base h1 (zf6 _))
theorem zkM(bk:Nat)(ls:List Ln)(its:List It)(w:World)(h:Zj w bk ls its)(hN:qA ls=.ok its)(hl:its.length<=10)(hll:ls.length<=120)(hnm:∀x∈ls,x.name.size<=100000/\x.other.size<=100000)(hP:(ofL its ls).length<=200)(room:Int)(hr0:0<=room)(hr4:room<=4000)(hrl:((2*2^its.length+25*its.length:Nat):Int)<=room+1) :
  zC 6 #[.pointer (some bk),room] w fun e w'=>∃p s b O,e=.returned (.tuple #[.pointer (some ⟨p,0,none⟩),.nilIface])/\Zo w.heap.size w' p s b O its.length room (clF ((ofL its ls).map Prod.snd))/\zB w w':=by
 have HO:Hid (zC 19 #[.pointer (some bk)] w fun e w'=>∃a c fa fn fc,e=.returned (.tuple #[.agg #[its.length,.slice a (ofL its ls).length c,.slice fa fn fc],.nilIface])/\xX w' a ((ofL its ls).map Prod.snd)/\zB w w'):=(zhq bk ls its w h (by omega) hll hnm).mono fun e w' hr=>by
  rcases hr with ⟨h1,-⟩|⟨-,cv,fv,h1,h2,h3⟩
  ·omega
  ·obtain⟨cs,c1,-⟩:=h2.crow;obtain⟨a,c,rfl,-,-⟩:=Go.Proofs.YtoffdbflfikcoaaGreatDoor.row_form c1;obtain⟨fa,fc,rfl,-,-⟩:=Go.Proofs.YtoffdbflfikcoaaGreatDoor.row_form h2.frow;rw[zrs] at h1 h2;exact⟨a,c,fa,_,fc,h1,zkb h2,h3⟩
 have j:=zfE hN;have a1:xq its.length ((ofL its ls).map Prod.snd):=fun c hc=>by
  obtain⟨x,hx,rfl⟩:=zrA.1 hc;exact(j x hx).1
 have a4:∀c∈(ofL its ls).map Prod.snd,c.length<=9223372036854775807:=fun c hc=>by
  obtain⟨x,hx,rfl⟩:=zrA.1 hc;have:=(j x hx).2;omega
 have a0:((ofL its ls).map Prod.snd).length=(ofL its ls).length:=zrs _;generalize (ofL its ls).map Prod.snd=K at *;rw[<-a0] at HO hP;have a9:=zH a1;have aa:=zH a4;have ab:=zH hrl;clear h hnm j a1 a4 hN a0 hrl;generalize its.length=vars at *;go_enter Tryz.func6,Tryz.ntmps6;go_wp2_with fail;refine HO.out.mono ?_;rintro e w1 ⟨a,c,fa,fn,fc,rfl,Y,a2⟩;have kR:=Blk.new w1 65 #[vars,.slice a K.length c,.slice fa fn fc];have q:=Go.Proofs.YtoffdbflfikcoaaGreatDoor.below_new w1 (.cells #[vars,.slice a K.length c,.slice fa fn fc] 65);have Z:=Y.below q;have M:=zT a2 q;clear HO Y;go_upto_region 4 with fail;generalize w1.alloc (.cells #[vars,.slice a K.length c,.slice fa fn fc] 65)=WA at *;have X:=zH (zn3 vars (by omega) room hr0 hr4 WA WA.heap.size zN);have a8:=zH Z;have a6:=zH M;have ah:=kR.cell 0;have KR:=zH kR;have a5:=M.size;have af:=q.size;clear Z M kR q a2;go_wp2_with fail;refine X.out.mono ?_;rintro e w2 ⟨s,b,O,rfl,hS,hs,hO,o⟩;have V:=zH (zlb (w0:=WA) hr4 ab.out o hS hl K a9.out a c a8.out (by omega) aa.out);have ai:w2.cell? ⟨w1.heap.size,1,none⟩=some (.slice a K.length c):=(KR.out.below o KR.out.lt).cell 1;have ad:=hS.slt;have U:=zH o;have ae:=fun k h=>(hS.own k h).2;clear hS o X;go_wp2_with fail;refine V.out.mono ?_;rintro e w3 ⟨rfl,O3,J,y⟩;have ag:=y.size;have ac:=U.out.size;have a3:zB WA w3:=U.out.trans (y.below ac hO);have R:zB w3 (w3.alloc (.cells #[.pointer (some ⟨s,0,none⟩),.int .i64 (clF K).2] 37)):=Go.Proofs.YtoffdbflfikcoaaGreatDoor.below_new w3 _;have u:Hid (Zo w.heap.size (w3.alloc (.cells #[.pointer (some ⟨s,0,none⟩),.int .i64 (clF K).2] 37)) w3.heap.size s b O3 vars room (clF K)):=⟨(J.new R).base a5,Blk.new _ _ _,fun h=>by have:=(J.own _ h).2;omega⟩;have a7:Hid (zB w (w3.alloc (.cells #[.pointer (some ⟨s,0,none⟩),.int .i64 (clF K).2] 37))):=(a6.out.trans (a3.mono a5)).trans (R.mono (by omega));clear J y a3 R V;go_wp2;go_ret2;exact⟨_,s,b,O3,rfl,u.out,a7.out⟩
end Bd
namespace Bd
open Go.Maps Go.Deep
structure Yh(W0:World)(B p s b:Nat)(O:Nat->Prop)(vars:Nat)(room:Int)(st:List Nd × Int)(F:FuncId)(cb:Array Value)(C:qx)(dk:Nat):Prop where
 sol:Zo B W0 p s b O vars room st
 good:zG vars st.1
 len:st.1.length<=90000
 v24:vars<=24
 ent:∀args w,(callFunc F args).run Tryz.prog w=.ok (.enter F args) w
 cok:QZ C
 cat:Ys W0 F cb C vars
 dkl:W0.heap.size<=dk
def Yx(C:qx)(dk vars:Nat)(ns:List Nd)(r:Wy)(W:World)(e:Ending)(w':World):Prop:=e=.returned r.val/\∃L',qm C w' dk vars ns L'/\zc (fun k=>k=dk) W w'
abbrev wkV(p:Nat)(F:FuncId)(cb:Array Value)(dk:Nat):Value:=.agg #[.pointer (some p),.func (.func F) #[] cb,.map (some dk)]
section
variable {W0:World} {B p s b:Nat} {O:Nat->Prop} {vars:Nat} {room:Int} {st:List Nd × Int} {F:FuncId} {cb:Array Value} {C:qx} {dk:Nat}
def zed(W0:World)(p vars:Nat)(ns:List Nd)(F:FuncId)(cb:Array Value)(C:qx)(dk d:Nat):Prop :=
 ∀(h:Int) (L:List (Int × Wy)) (W:World),zB W0 W->qm C W dk vars ns L->zh ns h=true->24<=za ns h+d->zC 167 #[wkV p F cb dk,h] W (Yx C dk vars ns (yv C vars ns h) W)
def zdP(W0:World)(p vars:Nat)(ns:List Nd)(F:FuncId)(cb:Array Value)(C:qx)(dk d:Nat):Prop :=
 ∀(h:Int) (v:Nat) (L:List (Int × Wy)) (W:World),zB W0 W->qm C W dk vars ns L->zh ns h=true->(v:Int)<=za ns h->v<=vars->24<=za ns h+d->zC 115 #[wkV p F cb dk,v,h] W (Yx C dk vars ns (qd C vars ns h v) W)
theorem _root_.Go.Proofs.YtoffdbflfikcoaaGreatDoor.Blk.keptB{S:Nat->Prop}{w w':World}{q:Nat}{t:TypeId}{cs:Array Value}(h:Blk w q t cs)(hk:zc S w w')(hn:¬S q):Blk w' q t cs:=(hk.block q h.lt hn).trans h
structure FrS(C:qx)(W0 W:World)(p dk vars:Nat)(ns:List Nd)(F:FuncId)(cb:Array Value)(q:Nat)(x:Wy)(X:World):Prop where
 w0:Blk X W.heap.size 215 #[.pointer (some p),.func (.func F) #[] cb,.map (some dk)]
 w1:Blk X (W.heap.size+1) 152 #[.int .u64 0,(0:Int),false]
 w2:Blk X q 152 #[.int .u64 x.items,x.cost,x.can]
 q1:W.heap.size+1<q
 dq:dk≠q
 bel:zB W0 X
 way:∃L',qm C X dk vars ns L'
 kep:zc (fun k=>k=dk) W X
theorem FrS.below{W X X':World}{ns:List Nd}{q:Nat}{x:Wy}(h:FrS C W0 W p dk vars ns F cb q x X)(hb:zB X X'):FrS C W0 W p dk vars ns F cb q x X':=by
 obtain⟨L',hL⟩:=h.way;exact⟨h.w0.below hb h.w0.lt,h.w1.below hb h.w1.lt,h.w2.below hb h.w2.lt,h.q1,h.dq,zT h.bel hb,⟨L',hL.new hb⟩,h.kep.andThen (zc.of_below hb (fun _=>False)) (fun _ h _=>h.elim)⟩
theorem FrS.put{W X:World}{ns:List Nd}{q:Nat}{x:Wy}(h:FrS C W0 W p dk vars ns F cb q x X)(hW:W0.heap.size<=W.heap.size)(y:Wy):FrS C W0 W p dk vars ns F cb q y (((X.setCell q (.int .u64 y.items)).setCell ⟨q,1,none⟩ (.int .i64 y.cost)).setCell ⟨q,2,none⟩ (.bool y.can)):=by
 obtain⟨L',hL⟩:=h.way;have h1:=h.q1;have h2:=h.dq;have hk:zc (fun k=>k=q) X (((X.setCell q (.int .u64 y.items)).setCell ⟨q,1,none⟩ (.int .i64 y.cost)).setCell ⟨q,2,none⟩ (.bool y.can)) :=
  ((zc.setCell (S:=fun k=>k=q) X q _ rfl).andThen (zc.setCell (S:=fun k=>k=q) _ ⟨q,1,none⟩ _ rfl) (fun _ h _=>h)).andThen (zc.setCell (S:=fun k=>k=q) _ ⟨q,2,none⟩ _ rfl) (fun _ h _=>h)
 exact ⟨((h.w0.other (by omega)).other (by omega)).other (by omega),((h.w1.other (by omega)).other (by omega)).other (by omega),set3 h.w2 _ _ _,h1,h2,
  ((h.bel.setCell (p:=q) (by show W0.heap.size<=q;omega) _).setCell (p:=⟨q,1,none⟩) (by show W0.heap.size<=q;omega) _).setCell (p:=⟨q,2,none⟩) (by show W0.heap.size<=q;omega) _,
  ⟨L',hL.kept hk h2⟩,h.kep.andThen hk (fun i e hi=>by omega)⟩
theorem zeL(cx:Yh W0 B p s b O vars room st F cb C dk){d:Nat}(ih:zed W0 p vars st.1 F cb C dk d):zdP W0 p vars st.1 F cb C dk d:=by
 intro h v L W hW hM hh aK aL hd;have ac:=y7 hh (by have:=cx.len;omega);have hr:=cx.good.ranked;have aD:=qe hr h;have V:=cx.v24;have ax:=hM.lt;have ab:=hW.size;have k0:=(Blk.new W 215 #[.pointer (some p),.func (.func F) #[] cb,.map (some dk)]).alloc (.cells #[.int .u64 0,(0:Int),false] 152);have k1:=Blk.new (W.alloc (.cells #[.pointer (some p),.func (.func F) #[] cb,.map (some dk)] 215)) 152 #[.int .u64 0,(0:Int),false];simp only[zc1] at k1;have a3:zB W ((W.alloc (.cells #[.pointer (some p),.func (.func F) #[] cb,.map (some dk)] 215)).alloc (.cells #[.int .u64 0,(0:Int),false] 152)):=((zf0 _ W).alloc zN _).alloc (by simp only[zc1];omega) _;have az:((W.alloc (.cells #[.pointer (some p),.func (.func F) #[] cb,.map (some dk)] 215)).alloc (.cells #[.int .u64 0,(0:Int),false] 152)).heap.size=W.heap.size+1+1:=by simp only[zc1]
 have Z:=zH cx;have ar:Hid ((zV vars st.1 h:Int)=min (za st.1 h) (vars:Int)):=by show _=_;unfold zV;omega
 have aA:v<=zV vars st.1 h:=by unfold zV;omega
 have aI:zV vars st.1 h<=vars:=by unfold zV;omega
 have ae:Hid (yv C vars st.1 h=qd C vars st.1 h (zV vars st.1 h)):=rfl;have aa:Hid (∀k,k<zV vars st.1 h->qd C vars st.1 h k=xR C k (qd C vars st.1 h (k+1)) (qd C vars st.1 h (k+1))):=fun k hk=>zpK cx.good hk;have aq:Hid (∀k,k<=vars->(0<=(qd C vars st.1 h k).cost/\(qd C vars st.1 h k).cost<=24000000)/\(qd C vars st.1 h k).items<2^24):=fun k hk=>by
  have:=J3 (ns:=st.1) cx.cok V h k;exact⟨⟨this.1,this.2.1⟩,zc6 (this.2.2 hk) (zrt (by omega) V)⟩
 have a7:Hid (zC 167 #[wkV p F cb dk,.int .i64 h] ((W.alloc (.cells #[.pointer (some p),.func (.func F) #[] cb,.map (some dk)] 215)).alloc (.cells #[.int .u64 0,(0:Int),false] 152)) (Yx C dk vars st.1 (yv C vars st.1 h) ((W.alloc (.cells #[.pointer (some p),.func (.func F) #[] cb,.map (some dk)] 215)).alloc (.cells #[.int .u64 0,(0:Int),false] 152)))):=ih h L _ (hW.trans (a3.mono ab)) (hM.new a3) hh hd;rw[ae.out] at a7;generalize aB:zV vars st.1 h=tp at *;clear ae aB;have au:=zH hW;unfold wkV;unfold wkV at a7;go_enter Tryz.func115,Tryz.ntmps115;go_upto_region 1 with fail;generalize aw:(W.alloc (.cells #[.pointer (some p),.func (.func F) #[] cb,.map (some dk)] 215)).alloc (.cells #[.int .u64 0,(0:Int),false] 152)=WA at *;have c0:=k0.cell 0;have c1:=k0.cell 1;have c2:=k0.cell 2;go_wp2_with fail;refine a7.out.mono ?_;rintro e w1 ⟨rfl,L1,aj,a4⟩;obtain⟨X,hX⟩:∃X,qd C vars st.1 h tp=X:=⟨_,rfl⟩;rw[hX];unfold Wy.val;have aM:=a4.size;have aC:dk≠W.heap.size:=by omega
 have a5:dk≠W.heap.size+1:=by omega
 have a8:zB w1 (w1.alloc (.cells #[.int .u64 X.items,X.cost,X.can] 152)):=Go.Proofs.YtoffdbflfikcoaaGreatDoor.below_new w1 _;have ad:∀{q:Nat} {t:TypeId} {cs:Array Value},Blk WA q t cs->dk≠q->Blk w1 q t cs:=fun {q t cs} hB hne=>hB.keptB a4 (fun e=>hne e.symm);have ai:FrS C W0 W p dk vars st.1 F cb w1.heap.size X (w1.alloc (.cells #[.int .u64 X.items,X.cost,X.can] 152)):=by
  have av:zB W0 WA:=au.out.trans (a3.mono ab);have aE:=Z.out.dkl;exact⟨(ad k0 aC).alloc _,(ad k1 a5).alloc _,Blk.new _ _ _,by omega,by omega,(av.trans (a4.below (by omega) (fun i e=>by omega))).trans (a8.mono (by omega)),⟨L1,aj.new a8⟩,((zc.of_below a3 (fun k=>k=dk)).andThen a4 (fun _ h _=>h)).andThen (zc.of_below a8 (fun _=>False)) (fun _ h _=>h.elim)⟩
 have J:=zH ai;have HX:=zH hX;clear a7 aj a4 ad k0 k1 a3 a8 c0 c1 c2 ai hX hM aw;go_upto_region 2 with fail;generalize hq:w1.heap.size=q at *;generalize w1.alloc (.cells #[.int .u64 X.items,X.cost,X.can] 152)=W2 at *;have u:=Z.out.sol.new J.out.bel;have c0:_=some (Value.pointer (some p)):=J.out.w0.cell 0;have c1:_=some (Value.pointer (some s)):=u.blk.cell 0;have c2:W2.cell? s=some (.pointer (some b)):=u.space.c0;have ag:Hid (∀n,zC 60 #[.pointer (some b),.int .i64 h] (W2.drewN n) fun e w'=>e=.returned (.int .i64 (za st.1 h))/\w'=W2.drewN n):=fun n=>(zaw (u.space.new (xp _ W2 n)) h ac (by have:=Z.out.len;omega)).mono fun e w' ⟨h1,h2⟩=>⟨h1,h2.symm⟩;have ah:Hid (∀n,zC 7 #[.pointer (some s)] (W2.drewN n) fun e w'=>e=.returned (.int .i64 vars)/\w'=W2.drewN n):=fun n=>(Ja (u.space.new (xp _ W2 n))).mono fun e w' ⟨h1,h2⟩=>⟨h1,h2.symm⟩;clear u;have ay:min (za st.1 h) (vars:Int)-1=(tp:Int)-1:=by have:=ar.out;omega
 go_quiet (first|(go_at_call 60;refine Calls.quiet_of_same (ag.out _))|(go_at_call 7;refine Calls.quiet_of_same (ah.out _)));have U:=zH (J.out.below (xp _ W2 nq));clear c0 c1 c2 ag ah J;generalize W2.drewN nq=W3 at *;rw[<-HX.out] at U;clear HX;go_wp2_with fail;go_loopw [8] (fun i wr=>∃k:Nat,i=.int .i64 ((k:Int)-1)/\v<=k/\k<=tp/\FrS C W0 W p dk vars st.1 F cb q (qd C vars st.1 h k) wr) (fun i _=>(intOf i+1).toNat)
 case atStart=>exact⟨tp,by first|rfl|go_num,aA,zri _,U.out⟩
 case round =>
  clear U;obtain⟨k,rfl,aJ,aH,o⟩:=hrel;have y:=aq.out k (by omega)
  by_cases hke:k=v
  ·subst hke;obtain⟨X,hX⟩:∃X,qd C vars st.1 h k=X:=⟨_,rfl⟩;rw[hX] at o;have e0:=o.w2.cell 0;have e1:=o.w2.cell 1;have e2:=o.w2.cell 2;have z0:=o.w1.cell 0;have z1:=o.w1.cell 1;have z2:=o.w1.cell 2;have y0:=o.w1.frozen 0;have y1:=o.w1.frozen 1;have y2:=o.w1.frozen 2;have M:=set3 o.w1 (.int .u64 X.items) (.int .i64 X.cost) (.bool X.can);have r0:=M.cell 0;have r1:=M.cell 1;have r2:=M.cell 2;have a9:Hid (∃L',qm C (((wr.setCell ⟨W.heap.size+1,0,none⟩ (.int .u64 X.items)).setCell ⟨W.heap.size+1,1,none⟩ (.int .i64 X.cost)).setCell ⟨W.heap.size+1,2,none⟩ (.bool X.can)) dk vars st.1 L'/\zc (fun k=>k=dk) W (((wr.setCell ⟨W.heap.size+1,0,none⟩ (.int .u64 X.items)).setCell ⟨W.heap.size+1,1,none⟩ (.int .i64 X.cost)).setCell ⟨W.heap.size+1,2,none⟩ (.bool X.can))):=by
    obtain⟨L',hL⟩:=o.way;have hk:zc (fun k=>k=W.heap.size+1) wr (((wr.setCell ⟨W.heap.size+1,0,none⟩ (.int .u64 X.items)).setCell ⟨W.heap.size+1,1,none⟩ (.int .i64 X.cost)).setCell ⟨W.heap.size+1,2,none⟩ (.bool X.can)) :=
     ((zc.setCell (S:=fun k=>k=W.heap.size+1) wr ⟨W.heap.size+1,0,none⟩ _ rfl).andThen (zc.setCell (S:=fun k=>k=W.heap.size+1) _ ⟨W.heap.size+1,1,none⟩ _ rfl) (fun _ h _=>h)).andThen (zc.setCell (S:=fun k=>k=W.heap.size+1) _ ⟨W.heap.size+1,2,none⟩ _ rfl) (fun _ h _=>h)
    exact⟨L',hL.kept hk a5,o.kep.andThen hk (fun i e hi=>by omega)⟩
   have HX:=zH hX;clear o M hX;go_wp2;refine zc4 (v:=.agg #[.int .u64 X.items,X.cost,X.can]) (by simp[results,Tryz.f115,go_sem,r0,r1,r2]) rfl ?_;exact⟨by rw[HX.out];rfl,a9.out⟩
  ·obtain⟨j,rfl⟩:∃j,k=j+1:=⟨k-1,by omega⟩;have K:=aa.out j (by omega);obtain⟨X,hX⟩:∃X,qd C vars st.1 h (j+1)=X:=⟨_,rfl⟩;rw[hX] at o K y;have a6:Hid (zC 168 #[.agg #[.pointer (some p),.func (.func F) #[] cb,.map (some dk)],.int .i64 j,.agg #[.int .u64 X.items,X.cost,X.can],.agg #[.int .u64 X.items,X.cost,X.can]] wr fun e w'=>e=.returned (xR C j X X).val/\zB wr w'):=zfc F cb C vars V Z.out.ent Z.out.cok Z.out.cat o.bel p dk j (by omega) X X y.1 y.1 y.2;obtain⟨Y,hY⟩:∃Y,xR C j X X=Y:=⟨_,rfl⟩;rw[hY] at a6 K;unfold Wy.val at a6;have e0:=o.w2.cell 0;have e1:=o.w2.cell 1;have e2:=o.w2.cell 2;have a0:=o.w0.cell 0;have a1:=o.w0.cell 1;have a2:=o.w0.cell 2;have am:((j+1:Nat):Int)-1=(j:Int):=by omega
   rw[am];have aG:(v:Int)<=(j:Int):=by omega
   have aF:(0:Int)<=(j:Int):=by omega
   have af:=zH o;have ao:=zH K;clear o K hX hY am y;go_wp2_with fail;refine a6.out.mono ?_;rintro e w5 ⟨rfl,ak⟩;have R:=af.out.below ak;have f0:=R.w2.cell 0;have f1:=R.w2.cell 1;have f2:=R.w2.cell 2;have g0:=R.w2.frozen 0;have g1:=R.w2.frozen 1;have g2:=R.w2.frozen 2;have an:Hid (FrS C W0 W p dk vars st.1 F cb q (qd C vars st.1 h j) (((w5.setCell q (.int .u64 Y.items)).setCell ⟨q,1,none⟩ (.int .i64 Y.cost)).setCell ⟨q,2,none⟩ (.bool Y.can))):=by
    show FrS _ _ _ _ _ _ _ _ _ _ _ _;rw[ao.out];exact R.put ab Y
   clear R ak a6 af e0 e1 e2 a0 a1 a2;go_wp2;go_roundw
   case rel=>exact⟨j,by go_num,by omega,by omega,an.out⟩
   case measure=>first|(simp[intOf];done)|(simp[intOf];omega)
end
end Bd
