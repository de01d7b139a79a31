/- Up to twelve variables, of which those of a name forbid one another, the search never comes to its lid: plain. -/
import Derived.Test.YtapobpgbcbplbaaGreatDoorClBack
set_option maxRecDepth 100000
namespace Go.Proofs.YtapobpgbcbplbaaGreatDoor
section
open Sv
def Asc(l:List It):Prop:=l.Pairwise fun x y=>qf x y<0
theorem JT:∀(ls:List Ln) (i:Nat) (its out:List It),its.Nodup->ql ls i its=.ok out->out.Nodup
 |[],i,its,out,h0,h=>by cases h;exact h0
 |x :: r,i,its,out,h0,h=>by
  rw[ql] at h;split at h
  ·cases h
  ·split at h
   ·split at h
    ·cases h
    ·rename_i hx;split at h
     ·cases h
     ·refine JT r (i+1) _ out ?_ h;rw[List.nodup_append];exact ⟨h0,by simp,fun a ha b hb=>by
       have:b=x.it:=by simpa using hb
       subst this;exact fun e=>hx (e ▸ ha)⟩
   ·exact JT r (i+1) its out h0 h
def yq(ls:List Ln):List It:=(ls.filter fun x=>decide (x.kind=1)).map Ln.it
theorem zaO:∀(ls:List Ln) (i:Nat) (its out:List It),ql ls i its=.ok out->out=its++yq ls
 |[],i,its,out,h=>by cases h;simp[yq]
 |x :: r,i,its,out,h=>by
  rw[ql] at h;split at h
  ·cases h
  ·split at h
   ·rename_i hk;split at h
    ·cases h
    ·split at h
     ·cases h
     ·have:=zaO r (i+1) _ out h;rw[this];simp[yq,hk]
   ·rename_i hk;have:=zaO r (i+1) its out h;rw[this];simp[yq,hk]
theorem zhO{l:List It}(h:l.Nodup):Asc (qL l):=by
 have hs:(qL l).Pairwise fun x y=>(!decide (qf y x<0))=true:=by
  unfold qL;refine List.pairwise_mergeSort ?_ ?_ l
  ·intro a b c h1 h2;simp only[Bool.not_eq_true',decide_eq_false_iff_not] at h1 h2 ⊢;intro h3;rcases Int.lt_trichotomy (qf b a) 0 with q|q|q
   ·exact h1 q
   ·have e:=Yj _ _ q;subst e;exact h2 h3
   ·have q':qf a b<0:=by rw[Qe];omega
    exact h2 (zab _ _ _ h3 q')
  ·intro a b;simp only[Bool.or_eq_true,Bool.not_eq_true',decide_eq_false_iff_not];have:=Qe a b;omega
 have hn:(qL l).Nodup:=(YP l).nodup_iff.2 h;refine(hs.and hn).imp fun {a b} hab=>?_;obtain⟨h1,h2⟩:=hab;simp only[Bool.not_eq_true',decide_eq_false_iff_not] at h1;have h3:=Qe a b;rcases Int.lt_trichotomy (qf a b) 0 with q|q|q
 ·exact q
 ·exact absurd (Yj _ _ q) h2
 ·omega
theorem zoe{a b:List It}(ha:Asc a)(hb:Asc b)(h:a.Perm b):a=b:=by
 refine List.Perm.eq_of_pairwise (le:=fun x y=>qf x y<0) ?_ ha hb h;intro x y _ _ h1 h2;have:=Qe x y;omega
def x7(l:List It)(x:It):Nat->Nat
 |0=>0
 |i+1=>if qf x (l.getD i default)<0 then x7 l x i else i+1
def YT(l:List It)(x:It)(i:Nat):List It:=l.take i++x :: l.drop i
def ZI:List Ln->List It->List It
 |[],acc=>acc
 |x :: r,acc=>if x.kind=1 then ZI r (YT acc x.it (x7 acc x.it acc.length)) else ZI r acc
theorem zcD(l:List It)(x:It):∀n,x7 l x n<=n
 |0=>Nat.le_refl _
 |n+1=>by
  unfold x7;split
  ·have:=zcD l x n;omega
  ·exact Nat.le_refl _
theorem ze7(l:List It)(x:It):∀n j,x7 l x n<=j->j<n->qf x (l.getD j default)<0
 |0,j,_,h=>by omega
 |n+1,j,h1,h2=>by
  unfold x7 at h1;split at h1
  ·rename_i hc;rcases Nat.lt_or_ge j n with h|h
   ·exact ze7 l x n j h1 h
   ·obtain rfl:j=n:=by omega
    exact hc
  ·omega
theorem zcw(l:List It)(x:It):∀n k,x7 l x n=k+1->¬qf x (l.getD k default)<0
 |0,k,h=>by simp[x7] at h
 |n+1,k,h=>by
  unfold x7 at h;split at h
  ·exact zcw l x n k h
  ·rename_i hc;obtain rfl:n=k:=by omega
   exact hc
theorem zco(l:List It)(x:It)(i:Nat):(YT l x i).Perm (x :: l):=by
 unfold YT;have h:=List.perm_middle (a:=x) (l₁:=l.take i) (l₂:=l.drop i)
 rwa [List.take_append_drop] at h
theorem zht{l:List It}{x:It}(hl:Asc l)(hx:x∉l):Asc (YT l x (x7 l x l.length)):=by
 obtain⟨p,hp⟩:∃p,x7 l x l.length=p:=⟨_,rfl⟩;rw[hp];have hple:p<=l.length:=by rw[<-hp];exact zcD l x _
 have gd:∀j (hj:j<l.length),l.getD j default=l[j]:=fun j hj=>by rw[List.getD_eq_getElem?_getD,List.getElem?_eq_getElem hj];rfl
 have habove:∀y∈l.drop p,qf x y<0:=fun y hy=>by
  obtain⟨j,hj,rfl⟩:=List.getElem_of_mem hy;simp only[List.length_drop] at hj;rw[List.getElem_drop,<-gd (p+j) (by omega)];exact ze7 l x l.length (p+j) (by omega) (by omega)
 have hsplit:Asc (l.take p++l.drop p):=by rw[List.take_append_drop];exact hl
 obtain⟨h1,h2,h3⟩:=List.pairwise_append.1 hsplit;have hbelow:∀y∈l.take p,qf y x<0:=fun y hy=>by
  cases p with
  |zero=>simp at hy
  |succ k =>
   have hk:k<l.length:=by omega
   have hs:=zcw l x l.length k hp;rw[gd k hk] at hs;have hne:qf x l[k]≠0:=fun e=>hx (Yj _ _ e▸List.getElem_mem hk);have hkx:qf l[k] x<0:=by rw[Qe];omega
   obtain⟨j,hj,rfl⟩:=List.getElem_of_mem hy;simp only[List.length_take] at hj;rw[List.getElem_take];rcases Nat.lt_or_ge j k with h|h
   ·exact zab _ _ _ ((List.pairwise_iff_getElem.1 hl) j k (by omega) hk h) hkx
   ·obtain rfl:j=k:=by omega
    exact hkx
 unfold YT;refine List.pairwise_append.2 ⟨h1,List.pairwise_cons.2 ⟨habove,h2⟩,fun a ha b hb=>?_⟩;rcases List.mem_cons.1 hb with rfl|hb
 ·exact hbelow a ha
 ·exact h3 a ha b hb
theorem zaY:∀(ls:List Ln) (acc:List It),(ZI ls acc).Perm (acc++yq ls)
 |[],acc=>by simp[ZI,yq]
 |x :: r,acc=>by
  unfold ZI;split
  ·rename_i hk;refine(zaY r _).trans ?_;have e:yq (x :: r)=x.it :: yq r:=by simp[yq,hk]
   rw[e];exact((zco acc x.it _).append_right _).trans List.perm_middle.symm
  ·rename_i hk;have e:yq (x :: r)=yq r:=by simp[yq,hk]
   rw[e];exact zaY r acc
theorem zax:∀(ls:List Ln) (acc:List It),Asc acc->(acc++yq ls).Nodup->Asc (ZI ls acc)
 |[],acc,h,_=>by simpa[ZI] using h
 |x :: r,acc,h,hn=>by
  unfold ZI;split
  ·rename_i hk;have e:yq (x :: r)=x.it :: yq r:=by simp[yq,hk]
   rw[e] at hn;have hx:x.it∉acc:=fun ha=>(List.nodup_append.1 hn).2.2 _ ha _ (by simp) rfl;refine zax r _ (zht h hx) ?_;refine(List.Perm.nodup_iff ?_).2 hn;exact((zco acc x.it _).append_right _).trans List.perm_middle.symm
  ·rename_i hk;have e:yq (x :: r)=yq r:=by simp[yq,hk]
   rw[e] at hn;exact zax r acc h hn
theorem ziu{ls:List Ln}{its:List It}(h:qU ls=.ok its):Asc its/\ZI ls []=its:=by
 unfold qU at h;split at h
 ·cases h
 ·split at h
  ·cases h
  ·rename_i g hg;split at h
   ·cases h
   ·cases h;have hn:=JT ls 0 [] g (by simp) hg;have hi:=zaO ls 0 [] g hg;simp only[List.nil_append] at hi;have ha:=zhO hn;refine⟨ha,zoe (zax ls [] List.Pairwise.nil (by simpa[<-hi] using hn)) ha ?_⟩;refine(zaY ls []).trans ?_;simp only[List.nil_append,<-hi];exact(YP g).symm
theorem zcW{l:List It}(h:Asc l){i j:Nat}(hj:j<l.length)(hij:i<j):qf (l.getD i default) (l.getD j default)<0:=by
 have gd:∀j (hj:j<l.length),l.getD j default=l[j]:=fun j hj=>by rw[List.getD_eq_getElem?_getD,List.getElem?_eq_getElem hj];rfl
 rw[gd i (by omega),gd j hj];exact List.pairwise_iff_getElem.1 h i j (by omega) hj hij
theorem ze9{x y:It}(h:qf x y<0):x.name=y.name\/Lib.compareBytes x.name.data.toList y.name.data.toList<0:=by
 unfold qf at h;split at h
 ·rename_i e;exact Or.inl (QL e)
 ·exact Or.inr h
theorem zaT{p q:Nat->Bool}(n lo hi:Nat)(h2:hi<=n)(h:∀i,i<n->(q i=true↔(lo<=i/\i<hi)/\p i=true)):(List.range n).filter q=(List.range' lo (hi-lo)).filter p:=by
 rcases Nat.lt_or_ge hi lo with hlh|hlh
 ·rw[show hi-lo=0 by omega];simp only[List.range'_zero,List.filter_nil,List.filter_eq_nil_iff];intro i hi';rw[List.mem_range] at hi';intro e;have:=(h i hi').1 e;omega
 ·have e:List.range n=List.range' 0 lo++(List.range' lo (hi-lo)++List.range' hi (n-hi)):=by
   rw[List.range_eq_range'];have a1:=List.range'_append_1 (s:=lo) (m:=hi-lo) (n:=n-hi);have a2:=List.range'_append_1 (s:=0) (m:=lo) (n:=(hi-lo)+(n-hi));rw[show lo+(hi-lo)=hi by omega] at a1;rw[Nat.zero_add] at a2;rw[a1,a2];congr 1;omega
  rw[e,List.filter_append,List.filter_append];have f1:(List.range' 0 lo).filter q=[]:=by
   rw[List.filter_eq_nil_iff];intro i hi';have:=List.mem_range'_1.1 hi';intro e;have:=(h i (by omega)).1 e;omega
  have f3:(List.range' hi (n-hi)).filter q=[]:=by
   rw[List.filter_eq_nil_iff];intro i hi';have:=List.mem_range'_1.1 hi';intro e;have:=(h i (by omega)).1 e;omega
  have f2:(List.range' lo (hi-lo)).filter q=(List.range' lo (hi-lo)).filter p:=by
   refine List.filter_congr fun i hi'=>?_;have:=List.mem_range'_1.1 hi';rw[Bool.eq_iff_iff,h i (by omega)];constructor
   ·exact fun e=>e.2
   ·exact fun e=>⟨by omega,e⟩
  rw[f1,f2,f3];simp
end
section
open Go.RowKit Go.Deep
theorem Xx{vals:Nat}{x:Int}(hx:x≠0):xh vals (-x)=!xh vals x:=by
 unfold xh
 by_cases hp:0<x
 ·rw[if_neg (by omega),if_pos hp,Int.neg_neg]
 ·rw[if_pos (by omega),if_neg hp,Bool.not_not]
def Sat(vals:Nat)(xs:List Int):Prop:=∀x∈xs,xh vals x=true
def xg(vals:Nat)(l:List (List Int)):Prop:=∀c∈l,∃x∈c,xh vals x=true
theorem zaL{v:Int}{l:List (List Int)}(hl:yt v l){told:List Int}(hc:qN told){vals:Nat}(hs:xg vals l)(ht:Sat vals told):(0<=(zO told l).1->(zO told l).2≠0)/\((zO told l).2≠0->xh vals (zO told l).2=true):=by
 have hn:=Xj (l:=l) hc;generalize zO told l=r at hn;cases hn with
 |none=>exact⟨fun h=>by simp at h,fun h=>absurd rfl h⟩
 |bad hk h =>exfalso;obtain⟨x,hx,hh⟩:=hs _ (xL hk);have h0:=(q7.1 (hl _ (xL hk) x hx)).1;have:=ht _ (h x hx).2;rw[Xx h0,hh] at this;cases this
 |one hk hx h0 h1 h =>
  rename_i k x;refine⟨fun _=>(q7.1 (hl _ (xL hk) _ hx)).1,fun _=>?_⟩;obtain⟨y,hy,hh⟩:=hs _ (xL hk)
  by_cases e:y=x
  ·rw[<-e];exact hh
  ·exfalso;have hy0:=(q7.1 (hl _ (xL hk) y hy)).1;have:=ht _ (h y hy e).2;rw[Xx hy0,hh] at this;cases this
theorem ze8{vals:Nat}{told:List Int}{x:Int}(h:Sat vals told)(hx:xh vals x=true):Sat vals (told++[x]):=fun y hy=>by
 simp only[List.mem_append,List.mem_singleton] at hy;rcases hy with hy|hy
 ·exact h y hy
 ·rw[hy];exact hx
end
section
open Go.RowKit Go.Deep
def zep(vals:Nat)(ds:List (Int × List Int)):Prop:=∀d∈ds,xh vals d.1=true
structure Inv(l:List (List Int))(ds:List (Int × List Int))(told:List Int):Prop where
 imp:∀vals,xg vals l->zep vals ds->Sat vals told
 first:∀x∈told,x<0->∀vals,xg vals l->(∀d∈ds,d.1 < -x->xh vals d.1=true)->xh vals x=true
 low:∀d∈ds,∀u,0<u->u<=d.1->u∈told\/-u∈told
 mem:∀d∈ds,d.1∈told
 pos:∀d∈ds,0<d.1
structure Zw(l:List (List Int))(s:St):Prop where
 now:Inv l s.decs s.told
 past:∀k d,s.decs[k]?=some d->Inv l (s.decs.take k) d.2
 prf:∀vals,xg vals l->xg vals s.prf
theorem zej(l:List (List Int)):Zw l st0:=by
 refine⟨⟨(fun _ _ _ x hx=>by cases hx),(fun x hx=>by cases hx),(fun d hd=>by cases hd),(fun d hd=>by cases hd),(fun d hd=>by cases hd)⟩,(fun k d h=>by simp[st0] at h),(fun _ _ c hc=>by cases hc)⟩
theorem Jk{vals:Nat}{l m:List (List Int)}(h1:xg vals l)(h2:xg vals m):xg vals (l++m):=fun c hc=>by
 rcases List.mem_append.1 hc with h|h
 ·exact h1 c h
 ·exact h2 c h
theorem Inv.tell{l:List (List Int)}{ds:List (Int × List Int)}{told:List Int}(h:Inv l ds told){x:Int}(h0:x∉told)(h1:-x∉told)(hx:∀vals,xg vals l->Sat vals told->xh vals x=true):Inv l ds (told++[x]):=by
 refine⟨fun vals hs hd=>ze8 (h.imp vals hs hd) (hx vals hs (h.imp vals hs hd)),fun y hy hneg vals hs hd=>?_,fun d hd u hu0 hu1=>?_,fun d hd=>List.mem_append.2 (Or.inl (h.mem d hd)),h.pos⟩
 ·simp only[List.mem_append,List.mem_singleton] at hy;rcases hy with hy|hy
  ·exact h.first y hy hneg vals hs hd
  ·subst hy;refine hx vals hs (h.imp vals hs fun d hdd=>hd d hdd ?_);rcases Int.lt_or_le d.1 (-y) with hlt|hle
   ·exact hlt
   ·rcases h.low d hdd (-y) (by omega) hle with h2|h2
    ·exact absurd h2 h1
    ·rw[Int.neg_neg] at h2;exact absurd h2 h0
 ·rcases h.low d hd u hu0 hu1 with h2|h2
  ·exact Or.inl (List.mem_append.2 (Or.inl h2))
  ·exact Or.inr (List.mem_append.2 (Or.inl h2))
theorem zbc{v:Nat}{l:List (List Int)}(hl:yt v l){s s':St}(hg:zI v s)(h:Zw l s)(e:qz v l s=.inl s'):Zw l s':=by
 have hlp:=Ym hl hg.litsP;have hsl:∀vals,xg vals l->xg vals (l++s.prf):=fun vals hs=>Jk hs (h.prf vals hs);unfold qz at e
 by_cases h1:(zO s.told (l++s.prf)).2≠0
 ·rw[if_pos h1] at e;injection e with e;subst e;obtain⟨q1,q2,q3,q4,q5⟩:=Xq hlp hg.cons hg.lits (i:=(zO s.told (l++s.prf)).1) (x:=(zO s.told (l++s.prf)).2) rfl h1;exact⟨h.now.tell q2 q3 (fun vals hs ht=>(zaL hlp hg.cons (hsl vals hs) ht).2 h1),h.past,h.prf⟩
 ·rw[if_neg h1] at e
  by_cases h2:0<=(zO s.told (l++s.prf)).1
  ·rw[if_pos h2] at e;cases hd:s.decs.getLast? with
   |none=>rw[hd] at e;cases e
   |some d =>
    rw[hd] at e
    by_cases h3:s.prf.length+1=2000
    ·simp only[if_pos h3] at e;cases e
    ·simp only[if_neg h3] at e;injection e with e;subst e;have hlast:s.decs[s.decs.length-1]?=some d:=by rw[<-List.getLast?_eq_getElem?];exact hd
     have hp:=h.past _ _ hlast;rw[<-List.dropLast_eq_take] at hp;refine⟨hp,fun k d' hk=>?_,fun vals hs=>Jk (h.prf vals hs) (fun c hc=>?_)⟩
     ·have hk':s.decs.dropLast[k]?=some d':=hk;rw[List.getElem?_dropLast] at hk';split at hk'
      ·rename_i hlt;have:=h.past k d' hk';rw[show (s.decs.dropLast).take k=s.decs.take k by rw[List.dropLast_eq_take,List.take_take,Nat.min_eq_left (by omega)]];exact this
      ·cases hk'
     ·rw[List.mem_singleton] at hc;subst hc
      by_cases hall:zep vals s.decs
      ·exfalso;exact absurd ((zaL hlp hg.cons (hsl vals hs) (h.now.imp vals hs hall)).1 h2) h1
      ·have:∃d∈s.decs,xh vals d.1≠true:=Classical.byContradiction fun hn=>hall fun d hd=>Classical.byContradiction fun hne=>hn ⟨d,hd,hne⟩;obtain⟨d',hd',hne⟩:=this;refine⟨-d'.1,List.mem_map.2 ⟨d',hd',rfl⟩,?_⟩;rw[Xx (by have:=h.now.pos d' hd';omega)];simpa using hne
  ·rw[if_neg h2] at e
   by_cases h3:yB v s.told<0
   ·rw[if_pos h3] at e;cases e
   ·rw[if_neg h3] at e;injection e with e;subst e;rcases Qz (v:=v) (told:=s.told) with ⟨h4,_⟩|⟨k,h4,hk,h5,h6⟩
    ·omega
    ·rw[h4];have hn:=h.now;refine⟨⟨fun vals hs hd=>?_,fun x hx hneg vals hs hd=>?_,fun d hd u hu0 hu1=>?_,fun d hd=>?_,fun d hd=>?_⟩,fun j d hj=>?_,h.prf⟩
     ·exact ze8 (hn.imp vals hs fun d h=>hd d (List.mem_append.2 (Or.inl h))) (hd ((k:Int)+1,s.told) (List.mem_append.2 (Or.inr List.mem_cons_self)))
     ·have hx':x∈s.told++[(k:Int)+1]:=hx;simp only[List.mem_append,List.mem_singleton] at hx';rcases hx' with hx'|hx'
      ·exact hn.first x hx' hneg vals hs fun d h hlt=>hd d (List.mem_append.2 (Or.inl h)) hlt
      ·omega
     ·have hd':d∈s.decs++[((k:Int)+1,s.told)]:=hd;show u∈s.told++[(k:Int)+1]\/-u∈s.told++[(k:Int)+1];simp only[List.mem_append,List.mem_singleton] at hd' ⊢;rcases hd' with hd'|hd'
      ·rcases hn.low d hd' u hu0 hu1 with h|h
       ·exact Or.inl (Or.inl h)
       ·exact Or.inr (Or.inl h)
      ·subst hd'
       by_cases e:u=(k:Int)+1
       ·exact Or.inl (Or.inr e)
       ·have hu1':u<=(k:Int)+1:=hu1;have:=h6 (u.toNat-1) (by omega);have h7:¬(((u.toNat-1:Nat):Int)+1∉s.told/\-(((u.toNat-1:Nat):Int)+1)∉s.told):=fun h=>this (Z9.2 h);rw[show ((u.toNat-1:Nat):Int)+1=u by omega] at h7
        by_cases h8:u∈s.told
        ·exact Or.inl (Or.inl h8)
        ·exact Or.inr (Or.inl (Classical.byContradiction fun h9=>h7 ⟨h8,h9⟩))
     ·have hd':d∈s.decs++[((k:Int)+1,s.told)]:=hd;show d.1∈s.told++[(k:Int)+1];simp only[List.mem_append,List.mem_singleton] at hd' ⊢;rcases hd' with hd'|hd'
      ·exact Or.inl (hn.mem d hd')
      ·exact Or.inr (by rw[hd'])
     ·have hd':d∈s.decs++[((k:Int)+1,s.told)]:=hd;simp only[List.mem_append,List.mem_singleton] at hd';rcases hd' with hd'|hd'
      ·exact hn.pos d hd'
      ·rw[hd'];show (0:Int)<(k:Int)+1;omega
     ·have hj':(s.decs++[((k:Int)+1,s.told)])[j]?=some d:=hj;show Inv l ((s.decs++[((k:Int)+1,s.told)]).take j) d.2;rw[List.getElem?_append] at hj';split at hj'
      ·rename_i hlt;rw[List.take_append_of_le_length (by omega)];exact h.past j d hj'
      ·rename_i hge;have hjl:j-s.decs.length=0:=by
        rcases Nat.eq_zero_or_pos (j-s.decs.length) with h|h
        ·exact h
        ·rw[List.getElem?_eq_none (by simp;omega)] at hj';cases hj'
       rw[hjl] at hj';simp at hj';subst hj';have:j=s.decs.length:=by omega
       rw[this,List.take_append_of_le_length zN,List.take_length];exact hn
theorem zku{v:Nat}{l:List (List Int)}(hv:v<=24)(hl:yt v l){s:St}{r:Res}(hr:Run v l s r):zI v s->Zw l s ->
  (∀p,r=.unsat p->∀vals,¬xg vals l)/\(∀t,r=.sat t->∃ds,Inv l ds t/\yP v t/\qN t/\(∀i,i<v->tv t i≠0)/\∀c∈l,∃x∈c,x∈t):=by
 induction hr with
 |go h _ ih=>intro hg hi;exact ih (YN hv hl hg h).1 (zbc hl hg hi h)
 |done h =>
  rename_i s r;intro hg hi;have hlp:=Ym hl hg.litsP;unfold qz at h
  by_cases h1:(zO s.told (l++s.prf)).2≠0
  ·rw[if_pos h1] at h;cases h
  ·rw[if_neg h1] at h
   by_cases h2:0<=(zO s.told (l++s.prf)).1
   ·rw[if_pos h2] at h;cases hd:s.decs.getLast? with
    |none =>rw[hd] at h;injection h with h;subst h;have hd0:s.decs=[]:=List.getLast?_eq_none_iff.1 hd;refine⟨fun p _ vals hs=>?_,(fun t h=>by cases h)⟩;exact absurd ((zaL hlp hg.cons (Jk hs (hi.prf vals hs)) (hi.now.imp vals hs (fun d hd=>by rw[hd0] at hd;cases hd))).1 h2) h1
    |some d =>
     rw[hd] at h
     by_cases h3:s.prf.length+1=2000
     ·simp only[if_pos h3] at h;injection h with h;subst h;exact⟨(fun p h=>by cases h),(fun t h=>by cases h)⟩
     ·simp only[if_neg h3] at h;cases h
   ·rw[if_neg h2] at h
    by_cases h3:yB v s.told<0
    ·rw[if_pos h3] at h;injection h with h;subst h;refine⟨(fun p h=>by cases h),fun t h=>?_⟩;cases h;rcases Qz (v:=v) (told:=s.told) with ⟨_,h4⟩|⟨k,h4,_⟩
     ·refine⟨s.decs,hi.now,hg.lits,hg.cons,h4,fun c hc=>?_⟩;have hn:=Xj (l:=l++s.prf) hg.cons;generalize zO s.told (l++s.prf)=r at *;cases hn with
      |none h5 =>
       rcases h5 c (List.mem_append.2 (Or.inl hc)) with h6|⟨x,hx,_,_,_,n1,n2,_⟩
       ·exact h6
       ·exfalso;have hb:=q7.1 (hl c hc x hx)
        by_cases hp:0<x
        ·have:=h4 (x.toNat-1) (by omega);exact this (Z9.2 (by rw[show ((x.toNat-1:Nat):Int)+1=x by omega];exact⟨n1,n2⟩))
        ·have:=h4 ((-x).toNat-1) (by omega);exact this (Z9.2 (by rw[show (((-x).toNat-1:Nat):Int)+1=-x by omega,Int.neg_neg];exact⟨n2,n1⟩))
      |bad=>exact absurd (Int.natCast_nonneg _) h2
      |one=>exact absurd (Int.natCast_nonneg _) h2
     ·omega
    ·rw[if_neg h3] at h;cases h
theorem zm6{v:Nat}{t:List Int}(hl:yP v t)(hc:qN t)(hv:v<=24):Sat (yr t 24) t:=fun x hx=>by
 have hb:=q7.1 (hl x hx);unfold xh
 by_cases hp:0<x
 ·rw[if_pos hp,zaE];have:tv t (x.toNat-1)=1:=by unfold tv;rw[if_pos (by rw[show ((x.toNat-1:Nat):Int)+1=x by omega];exact hx)]
  rw[this];simp;omega
 ·rw[if_neg hp,zaE];have:tv t ((-x).toNat-1)=-1:=by
   unfold tv;rw[show (((-x).toNat-1:Nat):Int)+1=-x by omega,Int.neg_neg,if_neg (hc x hx),if_pos hx]
  rw[this];simp
end
section
open Go.RowKit Go.Deep
def Kj(c:List Int):Prop:=c.Pairwise (fun x y=>y<x)
theorem XU{α:Type}[BEq α][LawfulBEq α]:∀{l m:List α},l.Nodup->(∀x∈l,x∈m)->l.length<=m.length
 |[],_,_,_=>Nat.zero_le _
 |a :: l,m,hn,hs=>by
  have hm:=hs a (by simp);have hn':=List.nodup_cons.1 hn;have h1:=XU (l:=l) (m:=m.erase a) hn'.2 (fun x hx =>
   (List.mem_erase_of_ne (fun e:x=a=>hn'.1 (e ▸ hx))).2 (hs x (by simp [hx])))
  rw[List.length_erase_of_mem hm] at h1;have:=List.length_pos_of_mem hm;simp only[List.length_cons];omega
def Jz(l:List (List Int))(t:List Int):Prop :=
 ∀c∈l,(∃x∈c,x∈t)\/∃x∈c,∃y∈c,x≠y/\x∉t/\-x∉t/\y∉t/\-y∉t
def QD(l:List (List Int))(ds:List (Int × List Int)):Prop :=
 ∀(k:Nat) (d:Int × List Int),ds[k]?=some d->Jz l d.2/\d.1∉d.2/\-d.1∉d.2
structure Kx(F:List (List Int))(s:St):Prop where
 nodup:s.prf.Nodup
 pre:∀k,k<s.decs.length->zE (s.decs.take (k+1))∉s.prf
 all:∀c∈s.prf,c∈F
theorem zmI(F:List (List Int)):Kx F st0:=⟨.nil,(fun k hk=>by simp[st0] at hk),(fun c hc=>by cases hc)⟩
theorem zg4(l:List (List Int)):QD l st0.decs:=fun k d h=>by simp[st0] at h
theorem zmU{t:List Int}{l:List (List Int)}(hc:qN t)(h1:¬(zO t l).2≠0)(h2:¬0<=(zO t l).1):Jz l t:=by
 have h:=Xj (l:=l) hc;generalize zO t l=r at *;cases h with
 |none h=>exact h
 |bad hk h=>exact absurd (Int.natCast_nonneg _) h2
 |one hk _ _ _ _=>exact absurd (Int.natCast_nonneg _) h2
theorem znc{s:St}(hc:qN s.told){P:List (List Int)}(hs:Jz P s.told)(hm:∀d∈s.decs,d.1∈s.told){x:Int}(h1:-x∉s.told)(T:List Int):zE (s.decs++[(x,T)])∉P:=by
 intro hP;have e:∀y∈zE (s.decs++[(x,T)]),y=-x\/-y∈s.told:=by
  intro y hy;unfold zE at hy;obtain⟨d,hd,rfl⟩:=List.mem_map.1 hy;rcases List.mem_append.1 hd with h|h
  ·exact Or.inr (by rw[Int.neg_neg];exact hm d h)
  ·rw[List.mem_singleton] at h;subst h;exact Or.inl rfl
 rcases hs _ hP with ⟨y,hy,ht⟩|⟨y,hy,z,hz,hne,hy0,hy1,hz0,hz1⟩
 ·rcases e y hy with rfl|h
  ·exact h1 ht
  ·exact hc y ht h
 ·rcases e y hy with rfl|h
  ·rcases e z hz with rfl|h
   ·exact hne rfl
   ·exact hz1 h
  ·exact hy1 h
theorem zb5(ds:List (Int × List Int)):(zE ds).length=ds.length:=by simp[zE]
theorem zda{l:List (List Int)}{s:St}(hi:Zw l s)(hq:QD l s.decs):Kj (zE s.decs):=by
 unfold Kj zE;rw[List.pairwise_map,List.pairwise_iff_getElem];intro i j hi' hj' hij;have ej:s.decs[j]?=some s.decs[j]:=List.getElem?_eq_getElem hj';have hp:=hi.past j _ ej;have hn:=(hq j _ ej).2;have hmi:s.decs[i]∈s.decs.take j:=by
  rw[List.mem_take_iff_getElem];exact⟨i,by omega,rfl⟩
 have hpos:=hi.now.pos s.decs[j] (List.getElem_mem hj');rcases Int.lt_or_le s.decs[i].1 s.decs[j].1 with h|h
 ·omega
 ·rcases hp.low _ hmi s.decs[j].1 hpos h with h2|h2
  ·exact absurd h2 hn.1
  ·exact absurd h2 hn.2
theorem zoA{l:List (List Int)}{s:St}(hi:Zw l s)(hc:∀(k:Nat) (d:Int × List Int),s.decs[k]?=some d->qN d.2)(hq:QD l s.decs){i j:Nat}(hij:i<j)(hj:j<s.decs.length){c:List Int}(hcl:c∈l)(he:∀x∈c,x=-(s.decs[i]'(by omega)).1\/x=-(s.decs[j]).1):False:=by
 have ej:s.decs[j]?=some s.decs[j]:=List.getElem?_eq_getElem hj;have hp:=hi.past j _ ej;obtain⟨hst,h0,h1⟩:=hq j _ ej;have hmi:s.decs[i]∈s.decs.take j:=by
  rw[List.mem_take_iff_getElem];exact⟨i,by omega,rfl⟩
 have hm:=hp.mem _ hmi;rcases hst c hcl with ⟨y,hy,ht⟩|⟨y,hy,z,hz,hne,hy0,hy1,hz0,hz1⟩
 ·rcases he y hy with rfl|rfl
  ·exact hc j _ ej _ hm ht
  ·exact h1 ht
 ·rcases he y hy with rfl|rfl
  ·exact hy1 (by rw[Int.neg_neg];exact hm)
  ·rcases he z hz with rfl|rfl
   ·exact hz1 (by rw[Int.neg_neg];exact hm)
   ·exact hne rfl
theorem zlJ{v:Nat}{l F:List (List Int)}{s s':St}(hg:zI v s)(hi:Zw l s)(hq:QD l s.decs)(hd:Kx F s)(hin:zE s.decs∈F)(e:qz v l s=.inl s'):QD l s'.decs/\Kx F s':=by
 unfold qz at e
 by_cases h1:(zO s.told (l++s.prf)).2≠0
 ·rw[if_pos h1] at e;injection e with e;subst e;exact⟨hq,hd.nodup,hd.pre,hd.all⟩
 ·rw[if_neg h1] at e
  by_cases h2:0<=(zO s.told (l++s.prf)).1
  ·rw[if_pos h2] at e;cases hl:s.decs.getLast? with
   |none=>rw[hl] at e;cases e
   |some d =>
    rw[hl] at e
    by_cases h3:s.prf.length+1=2000
    ·simp only[if_pos h3] at e;cases e
    ·simp only[if_neg h3] at e;injection e with e;subst e;have hne:s.decs≠[]:=fun e=>by rw[e] at hl;cases hl
     have hpos:=List.length_pos_iff.2 hne;have hnew:zE s.decs∉s.prf:=by
      have:=hd.pre (s.decs.length-1) (by omega)
      rwa [List.take_of_length_le (by omega)] at this
     refine⟨fun k d' hk=>?_,?_,fun k hk=>?_,fun c hc=>?_⟩
     ·have hk':s.decs.dropLast[k]?=some d':=hk;rw[List.getElem?_dropLast] at hk';split at hk'
      ·exact hq k d' hk'
      ·cases hk'
     ·show (s.prf++[zE s.decs]).Nodup;rw[List.nodup_append];refine⟨hd.nodup,by simp,fun a ha b hb=>?_⟩;rw[List.mem_singleton] at hb;subst hb;exact fun e=>hnew (e▸ha)
     ·have hk':k<s.decs.dropLast.length:=hk;rw[List.length_dropLast] at hk';show zE (s.decs.dropLast.take (k+1))∉s.prf++[zE s.decs];rw[List.dropLast_eq_take,List.take_take,Nat.min_eq_left (by omega),List.mem_append];rintro (h|h)
      ·exact hd.pre k (by omega) h
      ·rw[List.mem_singleton] at h;have:=congrArg List.length h;rw[zb5,zb5,List.length_take] at this;omega
     ·have hc':c∈s.prf++[zE s.decs]:=hc;rcases List.mem_append.1 hc' with h|h
      ·exact hd.all c h
      ·rw[List.mem_singleton] at h;subst h;exact hin
  ·rw[if_neg h2] at e
   by_cases h3:yB v s.told<0
   ·rw[if_pos h3] at e;cases e
   ·rw[if_neg h3] at e;injection e with e;subst e;have hst:=zmU hg.cons h1 h2;rcases Qz (v:=v) (told:=s.told) with ⟨h4,_⟩|⟨k,h4,hk,h5,_⟩
    ·omega
    ·obtain⟨n1,n2⟩:=Z9.1 h5;rw[h4];refine⟨fun j d hj=>?_,hd.nodup,fun j hj=>?_,hd.all⟩
     ·have hj':(s.decs++[((k:Int)+1,s.told)])[j]?=some d:=hj;rw[List.getElem?_append] at hj';split at hj'
      ·exact hq j d hj'
      ·rename_i hge;have hjl:j-s.decs.length=0:=by
        rcases Nat.eq_zero_or_pos (j-s.decs.length) with h|h
        ·exact h
        ·rw[List.getElem?_eq_none (by simp;omega)] at hj';cases hj'
       rw[hjl] at hj';simp at hj';subst hj';exact⟨fun c hc=>hst c (List.mem_append.2 (Or.inl hc)),n1,n2⟩
     ·have hj':j<(s.decs++[((k:Int)+1,s.told)]).length:=hj;simp only[List.length_append,List.length_singleton] at hj';show zE ((s.decs++[((k:Int)+1,s.told)]).take (j+1))∉s.prf
      by_cases hjl:j=s.decs.length
      ·rw[List.take_of_length_le (by simp;omega)];exact znc hg.cons (fun c hc=>hst c (List.mem_append.2 (Or.inr hc))) hi.now.mem n2 s.told
      ·rw[List.take_append_of_le_length (by omega)];exact hd.pre j (by omega)
theorem zlq{v:Nat}{l F:List (List Int)}(hv:v<=24)(hl:yt v l)(hF:F.length<2000)(hin:∀s,zI v s->Zw l s->QD l s.decs->zE s.decs∈F){s:St}{r:Res}(hr:Run v l s r):zI v s->Zw l s->QD l s.decs->Kx F s->r≠.limit:=by
 induction hr with
 |@done s r h =>
  intro hg hi hq hd hlim;subst hlim;unfold qz at h
  by_cases h1:(zO s.told (l++s.prf)).2≠0
  ·rw[if_pos h1] at h;cases h
  ·rw[if_neg h1] at h
   by_cases h2:0<=(zO s.told (l++s.prf)).1
   ·rw[if_pos h2] at h;cases hlast:s.decs.getLast? with
    |none=>rw[hlast] at h;cases h
    |some d =>
     rw[hlast] at h
     by_cases h3:s.prf.length+1=2000
     ·have:=XU hd.nodup hd.all;have hlt:=hd.nodup;have hne:s.decs≠[]:=fun e=>by rw[e] at hlast;cases hlast
      have hpos:=List.length_pos_iff.2 hne;have hnew:zE s.decs∉s.prf:=by
       have:=hd.pre (s.decs.length-1) (by omega)
       rwa [List.take_of_length_le (by omega)] at this
      have h4:=XU (l:=zE s.decs :: s.prf) (m:=F) (List.nodup_cons.2 ⟨hnew,hd.nodup⟩) (fun c hc=>by
       rcases List.mem_cons.1 hc with rfl|h
       ·exact hin s hg hi hq
       ·exact hd.all c h)
      simp only[List.length_cons] at h4;omega
     ·simp only[if_neg h3] at h;cases h
   ·rw[if_neg h2] at h
    by_cases h3:yB v s.told<0
    ·rw[if_pos h3] at h;cases h
    ·rw[if_neg h3] at h;cases h
 |@go s s' r h _ ih =>intro hg hi hq hd;obtain⟨q1,q2⟩:=zlJ hg hi hq hd (hin s hg hi hq) h;exact ih (YN hv hl hg h).1 (zbc hl hg hi h) q1 q2
theorem Jr{v:Nat}{l:List (List Int)}{s:St}(hg:zI v s)(hi:Zw l s):∀x∈zE s.decs,x<0/\-(v:Int)<=x:=by
 intro x hx;have h1:=zfi hg x hx;rw[q7] at h1;unfold zE at hx;obtain⟨d,hd,rfl⟩:=List.mem_map.1 hx;have:=hi.now.pos d hd;omega
end
section
open Go.RowKit Go.Deep Sv
def gA{α:Type}[DecidableEq α](nm:Nat->α):Nat->List (List Int) × List (List Int)
 |0=>([[]],[])
 |v+1=>if v≠0/\nm v=nm (v-1) then ((gA nm v).1++(gA nm v).2.map (·++[-((v:Int)+1)]),(gA nm v).2)
  else ((gA nm v).1++(gA nm v).1.map (·++[-((v:Int)+1)]),(gA nm v).1)
def xk{α:Type}[DecidableEq α](nm:Nat->α)(v:Nat):List Nat:=(List.range v).filter fun i=>decide (¬(i≠0/\nm i=nm (i-1)))
def ZJ:Nat->Nat->Nat->Nat->Bool
 |0,_,a,_=>decide (a<2000)
 |n+1,k,a,b=>decide (a<2000)&&ZJ n k (a+b) b&&(match k with|0=>true|k+1=>ZJ n k (a+a) a)
theorem zi1:ZJ 12 8 1 0=true:=by decide +kernel
theorem ziH:∀{n k a b:Nat},ZJ n k a b=true->a<2000
 |0,_,_,_,h=>by simpa[ZJ] using h
 |n+1,k,a,b,h=>by simp only[ZJ,Bool.and_eq_true,decide_eq_true_eq] at h;exact h.1.1
theorem za4{α:Type}[DecidableEq α](nm:Nat->α):∀v,v<=12->(xk nm v).length<=8->ZJ (12-v) (8-(xk nm v).length) (gA nm v).1.length (gA nm v).2.length=true
 |0,_,_=>zi1
 |v+1,hv,hn=>by
  have e:xk nm (v+1)=xk nm v++(if ¬(v≠0/\nm v=nm (v-1)) then [v] else []):=by
   unfold xk;rw[List.range_succ,List.filter_append];congr 1
   by_cases h:v≠0/\nm v=nm (v-1)
   ·simp[h]
   ·rw[if_pos h,List.filter_cons,if_pos (decide_eq_true h),List.filter_nil]
  have e12:12-v=(12-(v+1))+1:=by omega
  by_cases h:v≠0/\nm v=nm (v-1)
  ·rw[if_neg (by simpa using h),List.append_nil] at e;rw[e] at hn ⊢;have ih:=za4 nm v (by omega) hn;rw[e12] at ih;simp only[ZJ,Bool.and_eq_true,decide_eq_true_eq] at ih;unfold gA;rw[if_pos h];simp only[List.length_append,List.length_map];exact ih.1.2
  ·rw[if_pos h] at e;rw[e,List.length_append] at hn ⊢;have ih:=za4 nm v (by omega) (by simp at hn;omega);rw[e12] at ih;simp only[ZJ,Bool.and_eq_true,decide_eq_true_eq] at ih;unfold gA;rw[if_neg h];simp only[List.length_append,List.length_map,List.length_singleton];have e8:8-(xk nm v).length=(8-((xk nm v).length+1))+1:=by simp at hn;omega
   rw[e8] at ih;exact ih.2
def Zl(x:Int):Nat:=(-x-1).toNat
theorem YW{α:Type}[DecidableEq α](nm:Nat->α):∀(v:Nat) (c:List Int),Kj c->(∀x∈c,x<0/\-(v:Int)<=x)->c.Pairwise (fun x y=>nm (Zl x)≠nm (Zl y)) ->
  c∈(gA nm v).1/\(v≠0->(∀x∈c,nm (Zl x)≠nm (v-1))->c∈(gA nm v).2)
 |0,c,_,hb,_=>by
  cases c with
  |nil=>exact⟨by simp[gA],fun h=>absurd rfl h⟩
  |cons x c=>have:=hb x (by simp);omega
 |v+1,c,hd,hb,hp=>by
  have low:(∀x∈c,x≠-((v:Int)+1))->∀x∈c,x<0/\-(v:Int)<=x:=fun h x hx=>by
   have h1:=hb x hx;have h2:=h x hx;omega
  have hI:Zl (-((v:Int)+1))=v:=by unfold Zl;omega
  constructor
  ·rcases List.eq_nil_or_concat c with rfl|⟨c',y,rfl⟩
   ·have:=(YW nm v [] .nil (by simp) .nil).1;unfold gA;split<;>exact List.mem_append.2 (Or.inl this)
   ·rw[List.concat_eq_append] at *;have hd':=List.pairwise_append.1 hd;have hp':=List.pairwise_append.1 hp
    by_cases e:y=-((v:Int)+1)
    ·subst e;have hb':∀x∈c',x<0/\-(v:Int)<=x:=fun x hx=>by
      have h1:=hb x (by simp[hx]);have h2:=hd'.2.2 x hx _ (List.mem_singleton.2 rfl);omega
     have ih:=YW nm v c' hd'.1 hb' hp'.1;have hnm:∀x∈c',nm (Zl x)≠nm v:=fun x hx=>by
      have:=hp'.2.2 x hx _ (List.mem_singleton.2 rfl)
      rwa [hI] at this
     unfold gA
     by_cases h:v≠0/\nm v=nm (v-1)
     ·rw[if_pos h];exact List.mem_append.2 (Or.inr (List.mem_map.2 ⟨c',ih.2 h.1 (fun x hx=>by rw[<-h.2];exact hnm x hx),rfl⟩))
     ·rw[if_neg h];exact List.mem_append.2 (Or.inr (List.mem_map.2 ⟨c',ih.1,rfl⟩))
    ·have hlow:∀x∈c'++[y],x≠-((v:Int)+1):=fun x hx e'=>by
      rcases List.mem_append.1 hx with h|h
      ·have h2:=hd'.2.2 x h y (by simp);have h3:=hb y (by simp);omega
      ·rw[List.mem_singleton] at h;exact e (h▸e')
     have ih:=(YW nm v _ hd (low hlow) hp).1;unfold gA;split<;>exact List.mem_append.2 (Or.inl ih)
  ·intro _ hnm;have hne:∀x∈c,x≠-((v:Int)+1):=fun x hx e=>hnm x hx (by rw[e,hI];rfl);have ih:=YW nm v c hd (low hne) hp;unfold gA
   by_cases h:v≠0/\nm v=nm (v-1)
   ·rw[if_pos h];exact ih.2 h.1 (fun x hx=>by have:=hnm x hx;rw[<-h.2];exact this)
   ·rw[if_neg h];exact ih.1
theorem zle{α:Type}[DecidableEq α](nm:Nat->α){v:Nat}{l:List (List Int)}(hv:v<=12)(hl:yt v l)(hn:(xk nm v).length<=8)(h2:∀i j,i<j->j<v->nm i=nm j->[-((i:Int)+1),-((j:Int)+1)]∈l){r:Res}(hr:Run v l st0 r):r≠.limit:=by
 refine zlq (F:=(gA nm v).1) (by omega) hl (ziH (za4 nm v hv hn)) (fun s hg hi hq=>?_) hr (Kk v) (zej l) (zg4 l) (zmI _);refine(YW nm v _ (zda hi hq) (Jr hg hi) ?_).1;have hdn:=zda hi hq;unfold Kj zE at hdn;rw[List.pairwise_map,List.pairwise_iff_getElem] at hdn;unfold zE;rw[List.pairwise_map,List.pairwise_iff_getElem];intro i j hi' hj' hij he;have hlt:=hdn i j hi' hj' hij;have b1:=Jr hg hi (-(s.decs[i]).1) (List.mem_map.2 ⟨_,List.getElem_mem hi',rfl⟩);have b2:=Jr hg hi (-(s.decs[j]).1) (List.mem_map.2 ⟨_,List.getElem_mem hj',rfl⟩);have e1:((Zl (-(s.decs[i]).1):Nat):Int)+1=(s.decs[i]).1:=by unfold Zl;omega
 have e2:((Zl (-(s.decs[j]).1):Nat):Int)+1=(s.decs[j]).1:=by unfold Zl;omega
 have hcl:=h2 _ _ (by omega) (by omega) he;rw[e1,e2] at hcl;exact zoA hi (fun k d hk=>(hg.ds k d hk).1) hq hij hj' hcl (fun x hx=>by
  simp only[List.mem_cons,List.not_mem_nil,or_false] at hx;exact hx)
end
end Go.Proofs.YtapobpgbcbplbaaGreatDoor
