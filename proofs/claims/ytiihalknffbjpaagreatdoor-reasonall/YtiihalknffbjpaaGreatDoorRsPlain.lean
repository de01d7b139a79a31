/- What the rules of a catalog are as clauses: plain. -/
import Derived.Test.YtiihalknffbjpaaGreatDoorCtAsc
import Derived.Shelf.SlicesG.Delete
import Derived.Lib.OwnBridge
set_option maxRecDepth 100000
namespace Go.Proofs.YtiihalknffbjpaaGreatDoor
section
open Go.RowKit Go.Deep
theorem KO{vals:Nat}{x:Int}(hx:x≠0):xS vals (-x)=!xS vals x:=by
 unfold xS
 by_cases hp:0<x
 ·rw[if_neg (by omega),if_pos hp,Int.neg_neg]
 ·rw[if_pos (by omega),if_neg hp,Bool.not_not]
def Sat(vals:Nat)(xs:List Int):Prop:=∀x∈xs,xS vals x=true
def xn(vals:Nat)(l:List (List Int)):Prop:=∀c∈l,∃x∈c,xS vals x=true
theorem K4{v:Int}{l:List (List Int)}(hl:qL v l){told:List Int}(hc:qD told){vals:Nat}(hs:xn vals l)(ht:Sat vals told):(0<=(zt told l).1->(zt told l).2≠0)/\((zt told l).2≠0->xS vals (zt told l).2=true):=by
 have hn:=Qj (l:=l) hc;generalize zt told l=r at hn;cases hn with
 |none=>exact⟨fun h=>by simp at h,fun h=>absurd rfl h⟩
 |bad hk h =>exfalso;obtain⟨x,hx,hh⟩:=hs _ (yv hk);have h0:=(qw.1 (hl _ (yv hk) x hx)).1;have:=ht _ (h x hx).2;rw[KO h0,hh] at this;cases this
 |one hk hx h0 h1 h =>
  rename_i k x;refine⟨fun _=>(qw.1 (hl _ (yv hk) _ hx)).1,fun _=>?_⟩;obtain⟨y,hy,hh⟩:=hs _ (yv hk)
  by_cases e:y=x
  ·rw[<-e];exact hh
  ·exfalso;have hy0:=(qw.1 (hl _ (yv hk) y hy)).1;have:=ht _ (h y hy e).2;rw[KO hy0,hh] at this;cases this
theorem zcB{vals:Nat}{told:List Int}{x:Int}(h:Sat vals told)(hx:xS vals x=true):Sat vals (told++[x]):=fun y hy=>by
 simp only[List.mem_append,List.mem_singleton] at hy;rcases hy with hy|hy
 ·exact h y hy
 ·rw[hy];exact hx
end
section
open Go.RowKit Go.Deep
def zcv(vals:Nat)(ds:List (Int × List Int)):Prop:=∀d∈ds,xS vals d.1=true
structure Inv(l:List (List Int))(ds:List (Int × List Int))(told:List Int):Prop where
 imp:∀vals,xn vals l->zcv vals ds->Sat vals told
 first:∀x∈told,x<0->∀vals,xn vals l->(∀d∈ds,d.1 < -x->xS vals d.1=true)->xS vals x=true
 low:∀d∈ds,∀u,0<u->u<=d.1->u∈told\/-u∈told
 mem:∀d∈ds,d.1∈told
 pos:∀d∈ds,0<d.1
structure Zr(l:List (List Int))(s:St):Prop where
 now:Inv l s.decs s.told
 past:∀k d,s.decs[k]?=some d->Inv l (s.decs.take k) d.2
 prf:∀vals,xn vals l->xn vals s.prf
theorem zaM(l:List (List Int)):Zr l st0:=by
 refine⟨⟨(fun _ _ _ x hx=>by cases hx),(fun x hx=>by cases hx),(fun d hd=>by cases hd),(fun d hd=>by cases hd),(fun d hd=>by cases hd)⟩,(fun k d h=>by simp[st0] at h),(fun _ _ c hc=>by cases hc)⟩
theorem KF{vals:Nat}{l m:List (List Int)}(h1:xn vals l)(h2:xn vals m):xn vals (l++m):=fun c hc=>by
 rcases List.mem_append.1 hc with h|h
 ·exact h1 c h
 ·exact h2 c h
theorem Inv.tell{l:List (List Int)}{ds:List (Int × List Int)}{told:List Int}(h:Inv l ds told){x:Int}(h0:x∉told)(h1:-x∉told)(hx:∀vals,xn vals l->Sat vals told->xS vals x=true):Inv l ds (told++[x]):=by
 refine⟨fun vals hs hd=>zcB (h.imp vals hs hd) (hx vals hs (h.imp vals hs hd)),fun y hy hneg vals hs hd=>?_,fun d hd u hu0 hu1=>?_,fun d hd=>List.mem_append.2 (Or.inl (h.mem d hd)),h.pos⟩
 ·simp only[List.mem_append,List.mem_singleton] at hy;rcases hy with hy|hy
  ·exact h.first y hy hneg vals hs hd
  ·subst hy;refine hx vals hs (h.imp vals hs fun d hdd=>hd d hdd ?_);rcases Int.lt_or_le d.1 (-y) with hlt|hle
   ·exact hlt
   ·rcases h.low d hdd (-y) (by omega) hle with h2|h2
    ·exact absurd h2 h1
    ·rw[Int.neg_neg] at h2;exact absurd h2 h0
 ·rcases h.low d hd u hu0 hu1 with h2|h2
  ·exact Or.inl (List.mem_append.2 (Or.inl h2))
  ·exact Or.inr (List.mem_append.2 (Or.inl h2))
theorem JG{v:Nat}{l:List (List Int)}(hl:qL v l){s s':St}(hg:yW v s)(h:Zr l s)(e:qy v l s=.inl s'):Zr l s':=by
 have hlp:=QN hl hg.litsP;have hsl:∀vals,xn vals l->xn vals (l++s.prf):=fun vals hs=>KF hs (h.prf vals hs);unfold qy at e
 by_cases h1:(zt s.told (l++s.prf)).2≠0
 ·rw[if_pos h1] at e;injection e with e;subst e;obtain⟨q1,q2,q3,q4,q5⟩:=Yv hlp hg.cons hg.lits (i:=(zt s.told (l++s.prf)).1) (x:=(zt s.told (l++s.prf)).2) rfl h1;exact⟨h.now.tell q2 q3 (fun vals hs ht=>(K4 hlp hg.cons (hsl vals hs) ht).2 h1),h.past,h.prf⟩
 ·rw[if_neg h1] at e
  by_cases h2:0<=(zt s.told (l++s.prf)).1
  ·rw[if_pos h2] at e;cases hd:s.decs.getLast? with
   |none=>rw[hd] at e;cases e
   |some d =>
    rw[hd] at e
    by_cases h3:s.prf.length+1=2000
    ·simp only[if_pos h3] at e;cases e
    ·simp only[if_neg h3] at e;injection e with e;subst e;have hlast:s.decs[s.decs.length-1]?=some d:=by rw[<-List.getLast?_eq_getElem?];exact hd
     have hp:=h.past _ _ hlast;rw[<-List.dropLast_eq_take] at hp;refine⟨hp,fun k d' hk=>?_,fun vals hs=>KF (h.prf vals hs) (fun c hc=>?_)⟩
     ·have hk':s.decs.dropLast[k]?=some d':=hk;rw[List.getElem?_dropLast] at hk';split at hk'
      ·rename_i hlt;have:=h.past k d' hk';rw[show (s.decs.dropLast).take k=s.decs.take k by rw[List.dropLast_eq_take,List.take_take,Nat.min_eq_left (by omega)]];exact this
      ·cases hk'
     ·rw[List.mem_singleton] at hc;subst hc
      by_cases hall:zcv vals s.decs
      ·exfalso;exact absurd ((K4 hlp hg.cons (hsl vals hs) (h.now.imp vals hs hall)).1 h2) h1
      ·have:∃d∈s.decs,xS vals d.1≠true:=Classical.byContradiction fun hn=>hall fun d hd=>Classical.byContradiction fun hne=>hn ⟨d,hd,hne⟩;obtain⟨d',hd',hne⟩:=this;refine⟨-d'.1,List.mem_map.2 ⟨d',hd',rfl⟩,?_⟩;rw[KO (by have:=h.now.pos d' hd';omega)];simpa using hne
  ·rw[if_neg h2] at e
   by_cases h3:yr v s.told<0
   ·rw[if_pos h3] at e;cases e
   ·rw[if_neg h3] at e;injection e with e;subst e;rcases ZJ (v:=v) (told:=s.told) with ⟨h4,_⟩|⟨k,h4,hk,h5,h6⟩
    ·omega
    ·rw[h4];have hn:=h.now;refine⟨⟨fun vals hs hd=>?_,fun x hx hneg vals hs hd=>?_,fun d hd u hu0 hu1=>?_,fun d hd=>?_,fun d hd=>?_⟩,fun j d hj=>?_,h.prf⟩
     ·exact zcB (hn.imp vals hs fun d h=>hd d (List.mem_append.2 (Or.inl h))) (hd ((k:Int)+1,s.told) (List.mem_append.2 (Or.inr List.mem_cons_self)))
     ·have hx':x∈s.told++[(k:Int)+1]:=hx;simp only[List.mem_append,List.mem_singleton] at hx';rcases hx' with hx'|hx'
      ·exact hn.first x hx' hneg vals hs fun d h hlt=>hd d (List.mem_append.2 (Or.inl h)) hlt
      ·omega
     ·have hd':d∈s.decs++[((k:Int)+1,s.told)]:=hd;show u∈s.told++[(k:Int)+1]\/-u∈s.told++[(k:Int)+1];simp only[List.mem_append,List.mem_singleton] at hd' ⊢;rcases hd' with hd'|hd'
      ·rcases hn.low d hd' u hu0 hu1 with h|h
       ·exact Or.inl (Or.inl h)
       ·exact Or.inr (Or.inl h)
      ·subst hd'
       by_cases e:u=(k:Int)+1
       ·exact Or.inl (Or.inr e)
       ·have hu1':u<=(k:Int)+1:=hu1;have:=h6 (u.toNat-1) (by omega);have h7:¬(((u.toNat-1:Nat):Int)+1∉s.told/\-(((u.toNat-1:Nat):Int)+1)∉s.told):=fun h=>this (Qa.2 h);rw[show ((u.toNat-1:Nat):Int)+1=u by omega] at h7
        by_cases h8:u∈s.told
        ·exact Or.inl (Or.inl h8)
        ·exact Or.inr (Or.inl (Classical.byContradiction fun h9=>h7 ⟨h8,h9⟩))
     ·have hd':d∈s.decs++[((k:Int)+1,s.told)]:=hd;show d.1∈s.told++[(k:Int)+1];simp only[List.mem_append,List.mem_singleton] at hd' ⊢;rcases hd' with hd'|hd'
      ·exact Or.inl (hn.mem d hd')
      ·exact Or.inr (by rw[hd'])
     ·have hd':d∈s.decs++[((k:Int)+1,s.told)]:=hd;simp only[List.mem_append,List.mem_singleton] at hd';rcases hd' with hd'|hd'
      ·exact hn.pos d hd'
      ·rw[hd'];show (0:Int)<(k:Int)+1;omega
     ·have hj':(s.decs++[((k:Int)+1,s.told)])[j]?=some d:=hj;show Inv l ((s.decs++[((k:Int)+1,s.told)]).take j) d.2;rw[List.getElem?_append] at hj';split at hj'
      ·rename_i hlt;rw[List.take_append_of_le_length (by omega)];exact h.past j d hj'
      ·rename_i hge;have hjl:j-s.decs.length=0:=by
        rcases Nat.eq_zero_or_pos (j-s.decs.length) with h|h
        ·exact h
        ·rw[List.getElem?_eq_none (by simp;omega)] at hj';cases hj'
       rw[hjl] at hj';simp at hj';subst hj';have:j=s.decs.length:=by omega
       rw[this,List.take_append_of_le_length zN,List.take_length];exact hn
theorem zfj{v:Nat}{l:List (List Int)}(hv:v<=24)(hl:qL v l){s:St}{r:Res}(hr:Run v l s r):yW v s->Zr l s ->
  (∀p,r=.unsat p->∀vals,¬xn vals l)/\(∀t,r=.sat t->∃ds,Inv l ds t/\ya v t/\qD t/\(∀i,i<v->tv t i≠0)/\∀c∈l,∃x∈c,x∈t):=by
 induction hr with
 |go h _ ih=>intro hg hi;exact ih (Qy hv hl hg h).1 (JG hl hg hi h)
 |done h =>
  rename_i s r;intro hg hi;have hlp:=QN hl hg.litsP;unfold qy at h
  by_cases h1:(zt s.told (l++s.prf)).2≠0
  ·rw[if_pos h1] at h;cases h
  ·rw[if_neg h1] at h
   by_cases h2:0<=(zt s.told (l++s.prf)).1
   ·rw[if_pos h2] at h;cases hd:s.decs.getLast? with
    |none =>rw[hd] at h;injection h with h;subst h;have hd0:s.decs=[]:=List.getLast?_eq_none_iff.1 hd;refine⟨fun p _ vals hs=>?_,(fun t h=>by cases h)⟩;exact absurd ((K4 hlp hg.cons (KF hs (hi.prf vals hs)) (hi.now.imp vals hs (fun d hd=>by rw[hd0] at hd;cases hd))).1 h2) h1
    |some d =>
     rw[hd] at h
     by_cases h3:s.prf.length+1=2000
     ·simp only[if_pos h3] at h;injection h with h;subst h;exact⟨(fun p h=>by cases h),(fun t h=>by cases h)⟩
     ·simp only[if_neg h3] at h;cases h
   ·rw[if_neg h2] at h
    by_cases h3:yr v s.told<0
    ·rw[if_pos h3] at h;injection h with h;subst h;refine⟨(fun p h=>by cases h),fun t h=>?_⟩;cases h;rcases ZJ (v:=v) (told:=s.told) with ⟨_,h4⟩|⟨k,h4,_⟩
     ·refine⟨s.decs,hi.now,hg.lits,hg.cons,h4,fun c hc=>?_⟩;have hn:=Qj (l:=l++s.prf) hg.cons;generalize zt s.told (l++s.prf)=r at *;cases hn with
      |none h5 =>
       rcases h5 c (List.mem_append.2 (Or.inl hc)) with h6|⟨x,hx,_,_,_,n1,n2,_⟩
       ·exact h6
       ·exfalso;have hb:=qw.1 (hl c hc x hx)
        by_cases hp:0<x
        ·have:=h4 (x.toNat-1) (by omega);exact this (Qa.2 (by rw[show ((x.toNat-1:Nat):Int)+1=x by omega];exact⟨n1,n2⟩))
        ·have:=h4 ((-x).toNat-1) (by omega);exact this (Qa.2 (by rw[show (((-x).toNat-1:Nat):Int)+1=-x by omega,Int.neg_neg];exact⟨n2,n1⟩))
      |bad=>exact absurd (Int.natCast_nonneg _) h2
      |one=>exact absurd (Int.natCast_nonneg _) h2
     ·omega
    ·rw[if_neg h3] at h;cases h
theorem zif{v:Nat}{t:List Int}(hl:ya v t)(hc:qD t)(hv:v<=24):Sat (yb t 24) t:=fun x hx=>by
 have hb:=qw.1 (hl x hx);unfold xS
 by_cases hp:0<x
 ·rw[if_pos hp,Xf];have:tv t (x.toNat-1)=1:=by unfold tv;rw[if_pos (by rw[show ((x.toNat-1:Nat):Int)+1=x by omega];exact hx)]
  rw[this];simp;omega
 ·rw[if_neg hp,Xf];have:tv t ((-x).toNat-1)=-1:=by
   unfold tv;rw[show (((-x).toNat-1:Nat):Int)+1=-x by omega,Int.neg_neg,if_neg (hc x hx),if_pos hx]
  rw[this];simp
end
section
open Go.RowKit Go.Deep
def YF(c:List Int):Prop:=c.Pairwise (fun x y=>y<x)
theorem Xl{α:Type}[BEq α][LawfulBEq α]:∀{l m:List α},l.Nodup->(∀x∈l,x∈m)->l.length<=m.length
 |[],_,_,_=>Nat.zero_le _
 |a :: l,m,hn,hs=>by
  have hm:=hs a (by simp);have hn':=List.nodup_cons.1 hn;have h1:=Xl (l:=l) (m:=m.erase a) hn'.2 (fun x hx =>
   (List.mem_erase_of_ne (fun e:x=a=>hn'.1 (e ▸ hx))).2 (hs x (by simp [hx])))
  rw[List.length_erase_of_mem hm] at h1;have:=List.length_pos_of_mem hm;simp only[List.length_cons];omega
def K0(l:List (List Int))(t:List Int):Prop :=
 ∀c∈l,(∃x∈c,x∈t)\/∃x∈c,∃y∈c,x≠y/\x∉t/\-x∉t/\y∉t/\-y∉t
def Qi(l:List (List Int))(ds:List (Int × List Int)):Prop :=
 ∀(k:Nat) (d:Int × List Int),ds[k]?=some d->K0 l d.2/\d.1∉d.2/\-d.1∉d.2
structure YI(F:List (List Int))(s:St):Prop where
 nodup:s.prf.Nodup
 pre:∀k,k<s.decs.length->zn (s.decs.take (k+1))∉s.prf
 all:∀c∈s.prf,c∈F
theorem zgU(F:List (List Int)):YI F st0:=⟨.nil,(fun k hk=>by simp[st0] at hk),(fun c hc=>by cases hc)⟩
theorem zkk(l:List (List Int)):Qi l st0.decs:=fun k d h=>by simp[st0] at h
theorem zkl{t:List Int}{l:List (List Int)}(hc:qD t)(h1:¬(zt t l).2≠0)(h2:¬0<=(zt t l).1):K0 l t:=by
 have h:=Qj (l:=l) hc;generalize zt t l=r at *;cases h with
 |none h=>exact h
 |bad hk h=>exact absurd (Int.natCast_nonneg _) h2
 |one hk _ _ _ _=>exact absurd (Int.natCast_nonneg _) h2
theorem ziy{s:St}(hc:qD s.told){P:List (List Int)}(hs:K0 P s.told)(hm:∀d∈s.decs,d.1∈s.told){x:Int}(h1:-x∉s.told)(T:List Int):zn (s.decs++[(x,T)])∉P:=by
 intro hP;have e:∀y∈zn (s.decs++[(x,T)]),y=-x\/-y∈s.told:=by
  intro y hy;unfold zn at hy;obtain⟨d,hd,rfl⟩:=List.mem_map.1 hy;rcases List.mem_append.1 hd with h|h
  ·exact Or.inr (by rw[Int.neg_neg];exact hm d h)
  ·rw[List.mem_singleton] at h;subst h;exact Or.inl rfl
 rcases hs _ hP with ⟨y,hy,ht⟩|⟨y,hy,z,hz,hne,hy0,hy1,hz0,hz1⟩
 ·rcases e y hy with rfl|h
  ·exact h1 ht
  ·exact hc y ht h
 ·rcases e y hy with rfl|h
  ·rcases e z hz with rfl|h
   ·exact hne rfl
   ·exact hz1 h
  ·exact hy1 h
theorem za2(ds:List (Int × List Int)):(zn ds).length=ds.length:=by simp[zn]
theorem zaJ{l:List (List Int)}{s:St}(hi:Zr l s)(hq:Qi l s.decs):YF (zn s.decs):=by
 unfold YF zn;rw[List.pairwise_map,List.pairwise_iff_getElem];intro i j hi' hj' hij;have ej:s.decs[j]?=some s.decs[j]:=List.getElem?_eq_getElem hj';have hp:=hi.past j _ ej;have hn:=(hq j _ ej).2;have hmi:s.decs[i]∈s.decs.take j:=by
  rw[List.mem_take_iff_getElem];exact⟨i,by omega,rfl⟩
 have hpos:=hi.now.pos s.decs[j] (List.getElem_mem hj');rcases Int.lt_or_le s.decs[i].1 s.decs[j].1 with h|h
 ·omega
 ·rcases hp.low _ hmi s.decs[j].1 hpos h with h2|h2
  ·exact absurd h2 hn.1
  ·exact absurd h2 hn.2
theorem zjQ{l:List (List Int)}{s:St}(hi:Zr l s)(hc:∀(k:Nat) (d:Int × List Int),s.decs[k]?=some d->qD d.2)(hq:Qi l s.decs){i j:Nat}(hij:i<j)(hj:j<s.decs.length){c:List Int}(hcl:c∈l)(he:∀x∈c,x=-(s.decs[i]'(by omega)).1\/x=-(s.decs[j]).1):False:=by
 have ej:s.decs[j]?=some s.decs[j]:=List.getElem?_eq_getElem hj;have hp:=hi.past j _ ej;obtain⟨hst,h0,h1⟩:=hq j _ ej;have hmi:s.decs[i]∈s.decs.take j:=by
  rw[List.mem_take_iff_getElem];exact⟨i,by omega,rfl⟩
 have hm:=hp.mem _ hmi;rcases hst c hcl with ⟨y,hy,ht⟩|⟨y,hy,z,hz,hne,hy0,hy1,hz0,hz1⟩
 ·rcases he y hy with rfl|rfl
  ·exact hc j _ ej _ hm ht
  ·exact h1 ht
 ·rcases he y hy with rfl|rfl
  ·exact hy1 (by rw[Int.neg_neg];exact hm)
  ·rcases he z hz with rfl|rfl
   ·exact hz1 (by rw[Int.neg_neg];exact hm)
   ·exact hne rfl
theorem zff{v:Nat}{l F:List (List Int)}{s s':St}(hg:yW v s)(hi:Zr l s)(hq:Qi l s.decs)(hd:YI F s)(hin:zn s.decs∈F)(e:qy v l s=.inl s'):Qi l s'.decs/\YI F s':=by
 unfold qy at e
 by_cases h1:(zt s.told (l++s.prf)).2≠0
 ·rw[if_pos h1] at e;injection e with e;subst e;exact⟨hq,hd.nodup,hd.pre,hd.all⟩
 ·rw[if_neg h1] at e
  by_cases h2:0<=(zt s.told (l++s.prf)).1
  ·rw[if_pos h2] at e;cases hl:s.decs.getLast? with
   |none=>rw[hl] at e;cases e
   |some d =>
    rw[hl] at e
    by_cases h3:s.prf.length+1=2000
    ·simp only[if_pos h3] at e;cases e
    ·simp only[if_neg h3] at e;injection e with e;subst e;have hne:s.decs≠[]:=fun e=>by rw[e] at hl;cases hl
     have hpos:=List.length_pos_iff.2 hne;have hnew:zn s.decs∉s.prf:=by
      have:=hd.pre (s.decs.length-1) (by omega)
      rwa [List.take_of_length_le (by omega)] at this
     refine⟨fun k d' hk=>?_,?_,fun k hk=>?_,fun c hc=>?_⟩
     ·have hk':s.decs.dropLast[k]?=some d':=hk;rw[List.getElem?_dropLast] at hk';split at hk'
      ·exact hq k d' hk'
      ·cases hk'
     ·show (s.prf++[zn s.decs]).Nodup;rw[List.nodup_append];refine⟨hd.nodup,by simp,fun a ha b hb=>?_⟩;rw[List.mem_singleton] at hb;subst hb;exact fun e=>hnew (e▸ha)
     ·have hk':k<s.decs.dropLast.length:=hk;rw[List.length_dropLast] at hk';show zn (s.decs.dropLast.take (k+1))∉s.prf++[zn s.decs];rw[List.dropLast_eq_take,List.take_take,Nat.min_eq_left (by omega),List.mem_append];rintro (h|h)
      ·exact hd.pre k (by omega) h
      ·rw[List.mem_singleton] at h;have:=congrArg List.length h;rw[za2,za2,List.length_take] at this;omega
     ·have hc':c∈s.prf++[zn s.decs]:=hc;rcases List.mem_append.1 hc' with h|h
      ·exact hd.all c h
      ·rw[List.mem_singleton] at h;subst h;exact hin
  ·rw[if_neg h2] at e
   by_cases h3:yr v s.told<0
   ·rw[if_pos h3] at e;cases e
   ·rw[if_neg h3] at e;injection e with e;subst e;have hst:=zkl hg.cons h1 h2;rcases ZJ (v:=v) (told:=s.told) with ⟨h4,_⟩|⟨k,h4,hk,h5,_⟩
    ·omega
    ·obtain⟨n1,n2⟩:=Qa.1 h5;rw[h4];refine⟨fun j d hj=>?_,hd.nodup,fun j hj=>?_,hd.all⟩
     ·have hj':(s.decs++[((k:Int)+1,s.told)])[j]?=some d:=hj;rw[List.getElem?_append] at hj';split at hj'
      ·exact hq j d hj'
      ·rename_i hge;have hjl:j-s.decs.length=0:=by
        rcases Nat.eq_zero_or_pos (j-s.decs.length) with h|h
        ·exact h
        ·rw[List.getElem?_eq_none (by simp;omega)] at hj';cases hj'
       rw[hjl] at hj';simp at hj';subst hj';exact⟨fun c hc=>hst c (List.mem_append.2 (Or.inl hc)),n1,n2⟩
     ·have hj':j<(s.decs++[((k:Int)+1,s.told)]).length:=hj;simp only[List.length_append,List.length_singleton] at hj';show zn ((s.decs++[((k:Int)+1,s.told)]).take (j+1))∉s.prf
      by_cases hjl:j=s.decs.length
      ·rw[List.take_of_length_le (by simp;omega)];exact ziy hg.cons (fun c hc=>hst c (List.mem_append.2 (Or.inr hc))) hi.now.mem n2 s.told
      ·rw[List.take_append_of_le_length (by omega)];exact hd.pre j (by omega)
theorem zgr{v:Nat}{l F:List (List Int)}(hv:v<=24)(hl:qL v l)(hF:F.length<2000)(hin:∀s,yW v s->Zr l s->Qi l s.decs->zn s.decs∈F){s:St}{r:Res}(hr:Run v l s r):yW v s->Zr l s->Qi l s.decs->YI F s->r≠.limit:=by
 induction hr with
 |@done s r h =>
  intro hg hi hq hd hlim;subst hlim;unfold qy at h
  by_cases h1:(zt s.told (l++s.prf)).2≠0
  ·rw[if_pos h1] at h;cases h
  ·rw[if_neg h1] at h
   by_cases h2:0<=(zt s.told (l++s.prf)).1
   ·rw[if_pos h2] at h;cases hlast:s.decs.getLast? with
    |none=>rw[hlast] at h;cases h
    |some d =>
     rw[hlast] at h
     by_cases h3:s.prf.length+1=2000
     ·have:=Xl hd.nodup hd.all;have hlt:=hd.nodup;have hne:s.decs≠[]:=fun e=>by rw[e] at hlast;cases hlast
      have hpos:=List.length_pos_iff.2 hne;have hnew:zn s.decs∉s.prf:=by
       have:=hd.pre (s.decs.length-1) (by omega)
       rwa [List.take_of_length_le (by omega)] at this
      have h4:=Xl (l:=zn s.decs :: s.prf) (m:=F) (List.nodup_cons.2 ⟨hnew,hd.nodup⟩) (fun c hc=>by
       rcases List.mem_cons.1 hc with rfl|h
       ·exact hin s hg hi hq
       ·exact hd.all c h)
      simp only[List.length_cons] at h4;omega
     ·simp only[if_neg h3] at h;cases h
   ·rw[if_neg h2] at h
    by_cases h3:yr v s.told<0
    ·rw[if_pos h3] at h;cases h
    ·rw[if_neg h3] at h;cases h
 |@go s s' r h _ ih =>intro hg hi hq hd;obtain⟨q1,q2⟩:=zff hg hi hq hd (hin s hg hi hq) h;exact ih (Qy hv hl hg h).1 (JG hl hg hi h) q1 q2
theorem XV{v:Nat}{l:List (List Int)}{s:St}(hg:yW v s)(hi:Zr l s):∀x∈zn s.decs,x<0/\-(v:Int)<=x:=by
 intro x hx;have h1:=zax hg x hx;rw[qw] at h1;unfold zn at hx;obtain⟨d,hd,rfl⟩:=List.mem_map.1 hx;have:=hi.now.pos d hd;omega
end
section
open Go.RowKit Go.Deep Sv
def gA{α:Type}[DecidableEq α](nm:Nat->α):Nat->List (List Int) × List (List Int)
 |0=>([[]],[])
 |v+1=>if v≠0/\nm v=nm (v-1) then ((gA nm v).1++(gA nm v).2.map (·++[-((v:Int)+1)]),(gA nm v).2)
  else ((gA nm v).1++(gA nm v).1.map (·++[-((v:Int)+1)]),(gA nm v).1)
def xI{α:Type}[DecidableEq α](nm:Nat->α)(v:Nat):List Nat:=(List.range v).filter fun i=>decide (¬(i≠0/\nm i=nm (i-1)))
def ZN:Nat->Nat->Nat->Nat->Bool
 |0,_,a,_=>decide (a<2000)
 |n+1,k,a,b=>decide (a<2000)&&ZN n k (a+b) b&&(match k with|0=>true|k+1=>ZN n k (a+a) a)
theorem zdD:ZN 12 8 1 0=true:=by decide +kernel
theorem zk3:∀{n k a b:Nat},ZN n k a b=true->a<2000
 |0,_,_,_,h=>by simpa[ZN] using h
 |n+1,k,a,b,h=>by simp only[ZN,Bool.and_eq_true,decide_eq_true_eq] at h;exact h.1.1
theorem Je{α:Type}[DecidableEq α](nm:Nat->α):∀v,v<=12->(xI nm v).length<=8->ZN (12-v) (8-(xI nm v).length) (gA nm v).1.length (gA nm v).2.length=true
 |0,_,_=>zdD
 |v+1,hv,hn=>by
  have e:xI nm (v+1)=xI nm v++(if ¬(v≠0/\nm v=nm (v-1)) then [v] else []):=by
   unfold xI;rw[List.range_succ,List.filter_append];congr 1
   by_cases h:v≠0/\nm v=nm (v-1)
   ·simp[h]
   ·rw[if_pos h,List.filter_cons,if_pos (decide_eq_true h),List.filter_nil]
  have e12:12-v=(12-(v+1))+1:=by omega
  by_cases h:v≠0/\nm v=nm (v-1)
  ·rw[if_neg (by simpa using h),List.append_nil] at e;rw[e] at hn ⊢;have ih:=Je nm v (by omega) hn;rw[e12] at ih;simp only[ZN,Bool.and_eq_true,decide_eq_true_eq] at ih;unfold gA;rw[if_pos h];simp only[List.length_append,List.length_map];exact ih.1.2
  ·rw[if_pos h] at e;rw[e,List.length_append] at hn ⊢;have ih:=Je nm v (by omega) (by simp at hn;omega);rw[e12] at ih;simp only[ZN,Bool.and_eq_true,decide_eq_true_eq] at ih;unfold gA;rw[if_neg h];simp only[List.length_append,List.length_map,List.length_singleton];have e8:8-(xI nm v).length=(8-((xI nm v).length+1))+1:=by simp at hn;omega
   rw[e8] at ih;exact ih.2
def Zw(x:Int):Nat:=(-x-1).toNat
theorem Yz{α:Type}[DecidableEq α](nm:Nat->α):∀(v:Nat) (c:List Int),YF c->(∀x∈c,x<0/\-(v:Int)<=x)->c.Pairwise (fun x y=>nm (Zw x)≠nm (Zw y)) ->
  c∈(gA nm v).1/\(v≠0->(∀x∈c,nm (Zw x)≠nm (v-1))->c∈(gA nm v).2)
 |0,c,_,hb,_=>by
  cases c with
  |nil=>exact⟨by simp[gA],fun h=>absurd rfl h⟩
  |cons x c=>have:=hb x (by simp);omega
 |v+1,c,hd,hb,hp=>by
  have low:(∀x∈c,x≠-((v:Int)+1))->∀x∈c,x<0/\-(v:Int)<=x:=fun h x hx=>by
   have h1:=hb x hx;have h2:=h x hx;omega
  have hI:Zw (-((v:Int)+1))=v:=by unfold Zw;omega
  constructor
  ·rcases List.eq_nil_or_concat c with rfl|⟨c',y,rfl⟩
   ·have:=(Yz nm v [] .nil (by simp) .nil).1;unfold gA;split<;>exact List.mem_append.2 (Or.inl this)
   ·rw[List.concat_eq_append] at *;have hd':=List.pairwise_append.1 hd;have hp':=List.pairwise_append.1 hp
    by_cases e:y=-((v:Int)+1)
    ·subst e;have hb':∀x∈c',x<0/\-(v:Int)<=x:=fun x hx=>by
      have h1:=hb x (by simp[hx]);have h2:=hd'.2.2 x hx _ (List.mem_singleton.2 rfl);omega
     have ih:=Yz nm v c' hd'.1 hb' hp'.1;have hnm:∀x∈c',nm (Zw x)≠nm v:=fun x hx=>by
      have:=hp'.2.2 x hx _ (List.mem_singleton.2 rfl)
      rwa [hI] at this
     unfold gA
     by_cases h:v≠0/\nm v=nm (v-1)
     ·rw[if_pos h];exact List.mem_append.2 (Or.inr (List.mem_map.2 ⟨c',ih.2 h.1 (fun x hx=>by rw[<-h.2];exact hnm x hx),rfl⟩))
     ·rw[if_neg h];exact List.mem_append.2 (Or.inr (List.mem_map.2 ⟨c',ih.1,rfl⟩))
    ·have hlow:∀x∈c'++[y],x≠-((v:Int)+1):=fun x hx e'=>by
      rcases List.mem_append.1 hx with h|h
      ·have h2:=hd'.2.2 x h y (by simp);have h3:=hb y (by simp);omega
      ·rw[List.mem_singleton] at h;exact e (h▸e')
     have ih:=(Yz nm v _ hd (low hlow) hp).1;unfold gA;split<;>exact List.mem_append.2 (Or.inl ih)
  ·intro _ hnm;have hne:∀x∈c,x≠-((v:Int)+1):=fun x hx e=>hnm x hx (by rw[e,hI];rfl);have ih:=Yz nm v c hd (low hne) hp;unfold gA
   by_cases h:v≠0/\nm v=nm (v-1)
   ·rw[if_pos h];exact ih.2 h.1 (fun x hx=>by have:=hnm x hx;rw[<-h.2];exact this)
   ·rw[if_neg h];exact ih.1
theorem J7{α:Type}[DecidableEq α](nm:Nat->α){v:Nat}{l:List (List Int)}(hv:v<=12)(hl:qL v l)(hn:(xI nm v).length<=8)(h2:∀i j,i<j->j<v->nm i=nm j->[-((i:Int)+1),-((j:Int)+1)]∈l){r:Res}(hr:Run v l st0 r):r≠.limit:=by
 refine zgr (F:=(gA nm v).1) (by omega) hl (zk3 (Je nm v hv hn)) (fun s hg hi hq=>?_) hr (QU v) (zaM l) (zkk l) (zgU _);refine(Yz nm v _ (zaJ hi hq) (XV hg hi) ?_).1;have hdn:=zaJ hi hq;unfold YF zn at hdn;rw[List.pairwise_map,List.pairwise_iff_getElem] at hdn;unfold zn;rw[List.pairwise_map,List.pairwise_iff_getElem];intro i j hi' hj' hij he;have hlt:=hdn i j hi' hj' hij;have b1:=XV hg hi (-(s.decs[i]).1) (List.mem_map.2 ⟨_,List.getElem_mem hi',rfl⟩);have b2:=XV hg hi (-(s.decs[j]).1) (List.mem_map.2 ⟨_,List.getElem_mem hj',rfl⟩);have e1:((Zw (-(s.decs[i]).1):Nat):Int)+1=(s.decs[i]).1:=by unfold Zw;omega
 have e2:((Zw (-(s.decs[j]).1):Nat):Int)+1=(s.decs[j]).1:=by unfold Zw;omega
 have hcl:=h2 _ _ (by omega) (by omega) he;rw[e1,e2] at hcl;exact zjQ hi (fun k d hk=>(hg.ds k d hk).1) hq hij hj' hcl (fun x hx=>by
  simp only[List.mem_cons,List.not_mem_nil,or_false] at hx;exact hx)
end
section
open Go.RowKit Go.Deep Sv
noncomputable def Zx(l:List (List Int)):Bool:=@decide (∃vals,xn vals l) (Classical.propDecidable _)
theorem J6{l:List (List Int)}:Zx l=true↔∃vals,xn vals l:=by unfold Zx;exact @decide_eq_true_iff _ (Classical.propDecidable _)
theorem ziG{l:List (List Int)}:Zx l=false↔∀vals,¬xn vals l:=by
 rw[<-Bool.not_eq_true,J6];exact⟨fun h v hv=>h ⟨v,hv⟩,fun h ⟨v,hv⟩=>h v hv⟩
theorem zbp{v:Nat}{l:List (List Int)}{b:Bool}{er:Value}(hv:v<=24)(hl:qL v l)(hn:∀r,Run v l st0 r->r≠.limit)(h:Qm v l b er):b=Zx l/\er=.nilIface:=by
 obtain⟨r,hr,h⟩:=h;obtain⟨h1,h2⟩:=zfj hv hl hr (QU v) (zaM l);rcases h with ⟨t,rfl,rfl,rfl⟩|⟨p,rfl,rfl,rfl⟩|⟨rfl,-,-⟩
 ·obtain⟨ds,-,hli,hco,-,hall⟩:=h2 t rfl;refine⟨(J6.2 ⟨yb t 24,fun c hc=>?_⟩).symm,rfl⟩;obtain⟨x,hx,ht⟩:=hall c hc;exact⟨x,hx,zif hli hco hv x ht⟩
 ·exact⟨(ziG.2 (h1 p rfl)).symm,rfl⟩
 ·exact absurd rfl (hn _ hr)
end
section
open Go.RowKit Go.Deep Sv
theorem zaH:∀(ls:List Ln) (i:Nat) (its out:List It),its.length<=24->zU ls i its=.ok out->out.length<=24/\∀x∈ls,qp x=0
 |[],i,its,out,h0,h=>by cases h;exact⟨h0,fun x hx=>by cases hx⟩
 |x :: r,i,its,out,h0,h=>by
  rw[zU] at h;split at h
  ·cases h
  ·rename_i hc;have hc':qp x=0:=Decidable.not_not.1 hc;have key:∀its',its'.length<=24->zU r (i+1) its'=.ok out->out.length<=24/\∀y∈x :: r,qp y=0:=fun its' h1 h2=>by
    obtain⟨g1,g2⟩:=zaH r (i+1) its' out h1 h2;exact⟨g1,fun y hy=>by rcases List.mem_cons.1 hy with rfl|hy;exact hc';exact g2 y hy⟩
   split at h
   ·split at h
    ·cases h
    ·split at h
     ·cases h
     ·rename_i h8;exact key _ (by simp;omega) h
   ·exact key _ h0 h
theorem Qk{ls:List Ln}{its:List It}(h:zQ ls=.ok its):its.length<=24/\ls.length<=100/\∀x∈ls,qp x=0:=by
 unfold zQ at h;split at h
 ·cases h
 ·split at h
  ·cases h
  ·rename_i its' hg;split at h
   ·cases h
   ·cases h;obtain⟨h1,h2⟩:=zaH ls 0 [] its' (by simp) hg;refine⟨?_,by omega,h2⟩;unfold qR;rw[List.length_mergeSort];exact h1
theorem zhS{s:ByteArray}{ls:List Ln}{its:List It}(h:yD s=.ok (ls,its)):zQ ls=.ok its:=by
 unfold yD at h;split at h
 ·cases h
 ·split at h
  ·cases h
  ·split at h
   ·cases h
   ·cases h
   ·rename_i hn;cases h;exact hn
theorem zan{x:Ln}(h:qp x=0):x.name.size<=100000/\x.other.size<=100000:=by
 unfold qp at h;split at h
 ·cases h
 ·split at h
  ·cases h
  ·rename_i h5;split at h
   ·cases h
   ·rename_i h6;have hn:zl x.name:=by
     apply Classical.byContradiction;intro hc;exact h5 (Or.inl hc)
    refine⟨by have:=hn.len;omega,?_⟩
    by_cases hp:x.pair
    ·have ho:zl x.other:=by
      apply Classical.byContradiction;intro hc;exact h5 (Or.inr ⟨hp,hc⟩)
     have:=ho.len;omega
    ·have:x.other.size=0:=by
      apply Classical.byContradiction;intro hc;exact h6 ⟨hp,hc⟩
     omega
end
section
open Go.RowKit Go.Deep Sv
theorem Kb:∀(ls:List Ln) (i:Nat) (its out:List It),qO its<=8->zU ls i its=.ok out->qO out<=8
 |[],i,its,out,h0,h=>by cases h;exact h0
 |x :: r,i,its,out,h0,h=>by
  rw[zU] at h;split at h
  ·cases h
  ·split at h
   ·split at h
    ·cases h
    ·split at h
     ·cases h
     ·rename_i hx;exact Kb r (i+1) _ out (by omega) h
   ·exact Kb r (i+1) its out h0 h
theorem J4:∀(ls:List Ln) (i:Nat) (its:List It),qd ls i its=none->∀x∈ls,x.pair->x.it∈its
 |[],_,_,_,x,hx,_=>by cases hx
 |y :: r,i,its,h,x,hx,hp=>by
  unfold qd at h;split at h
  ·cases h
  ·rename_i hy;rcases List.mem_cons.1 hx with rfl|hx
   ·exact Classical.byContradiction fun e=>hy ⟨hp,e⟩
   ·exact J4 r (i+1) its h x hx hp
theorem zcn{ls:List Ln}{its:List It}(h:zQ ls=.ok its):(∀x∈ls,x.pair->x.it∈its)/\∃g:List It,qO g<=8/\its.Perm g:=by
 unfold zQ at h;split at h
 ·cases h
 ·split at h
  ·cases h
  ·rename_i g hg;split at h
   ·cases h
   ·rename_i hm;cases h;exact⟨J4 ls 0 _ hm,g,Kb ls 0 [] g (by decide) hg,Qo g⟩
def yT(its:List It)(i:Nat):ByteArray:=(its.getD i default).name
theorem zjk{its:List It}(h:Asc its){i j:Nat}(hij:i<j)(hj:j<its.length)(hne:yT its j≠yT its (j-1)):yT its i≠yT its j:=by
 intro e
 by_cases h1:i=j-1
 ·exact hne (h1▸e.symm)
 ·have a1:=YU (YV h (i:=i) (j:=j-1) (by omega) (by omega));have a2:=YU (YV h (i:=j-1) (j:=j) hj (by omega));unfold yT at *;rcases a2 with a2|a2
  ·exact hne a2.symm
  ·rcases a1 with a1|a1
   ·exact hne (by rw[<-a1,e])
   ·rw[e] at a1;have:=Qq (its.getD j default).name.data.toList (its.getD (j-1) default).name.data.toList;omega
theorem JR{ls:List Ln}{its:List It}(h:zQ ls=.ok its):(xI (yT its) its.length).length<=8:=by
 have ha:=(KV h).1;obtain⟨-,g,hg,hp⟩:=zcn h;refine Nat.le_trans ?_ hg;unfold qO;have hn:((xI (yT its) its.length).map (yT its)).Nodup:=by
  have hlt:∀x∈xI (yT its) its.length,x<its.length/\¬(x≠0/\yT its x=yT its (x-1)):=fun x hx=>by
   unfold xI at hx;have:=List.mem_filter.1 hx;exact⟨List.mem_range.1 this.1,of_decide_eq_true this.2⟩
  have hasc:(xI (yT its) its.length).Pairwise (·<·):=List.Pairwise.filter _ List.pairwise_lt_range;show List.Pairwise _ _;rw[List.pairwise_map];refine(List.pairwise_iff_getElem.2 fun i j hi hj hij=>?_);have hlt2:=List.pairwise_iff_getElem.1 hasc i j hi hj hij;have hj2:=hlt _ (List.getElem_mem hj);exact zjk ha hlt2 hj2.1 (fun e=>hj2.2 ⟨by omega,e⟩)
 have hle:=Xl (m:=(g.map It.name).eraseDups) hn (fun x hx=>by
  obtain⟨i,hi,rfl⟩:=List.mem_map.1 hx;unfold xI at hi;have hil:=List.mem_range.1 (List.mem_filter.1 hi).1;rw[List.mem_eraseDups];refine List.mem_map.2 ⟨its.getD i default,hp.mem_iff.1 ?_,rfl⟩;rw[List.getD_eq_getElem?_getD,List.getElem?_eq_getElem hil];exact List.getElem_mem hil)
 rw[List.length_map] at hle;exact hle
theorem zcs{its:List It}{x:It}(h:x∈its):0<=ql its x/\ql its x<its.length:=by
 unfold ql;cases hf:its.findIdx? (fun y=>decide (x=y)) with
 |none =>rw[List.findIdx?_eq_none_iff] at hf;have:=hf x h;simp at this
 |some i =>rw[List.findIdx?_eq_some_iff_getElem] at hf;obtain⟨hi,_⟩:=hf;exact⟨by simp,by simpa using hi⟩
theorem za6(its:List It)(nm:ByteArray)(rng:List zc):ya its.length ((zZ its nm rng).map fun (k:Nat)=>((k:Int)+1)):=fun x hx=>by
 obtain⟨k,hk,rfl⟩:=List.mem_map.1 hx;have:=QS its nm rng k hk;rw[qw];omega
theorem Xr{ls:List Ln}{its:List It}(h:zQ ls=.ok its):∀x∈ofL its ls,ya its.length x.2/\x.2.length<=48:=by
 intro x hx;have hl:=(Qk h).1;rcases List.mem_append.1 hx with hx|hx
 ·obtain⟨k,hk,hx⟩:=List.mem_flatMap.1 hx;obtain⟨j,hj,hx⟩:=List.mem_flatMap.1 hx;have hk':=List.mem_range.1 hk;have hj':=List.mem_range.1 hj;unfold pr0 at hx;split at hx
  ·rw[List.mem_singleton] at hx;subst hx;refine⟨fun y hy=>?_,by simp⟩;simp only[List.mem_cons,List.not_mem_nil,or_false] at hy;rw[qw];unfold zp at hy;rcases hy with rfl|rfl<;>omega
  ·cases hx
 ·obtain⟨n,hn,hx⟩:=List.mem_flatMap.1 hx;have hn':=List.mem_range.1 hn;have hmem:ls.getD n default∈ls:=by rw[List.getD_eq_getElem?_getD,List.getElem?_eq_getElem hn'];exact List.getElem_mem hn'
  have hpair:=(zcn h).1 _ hmem;generalize ls.getD n default=X at *;have l1:=Qc its X.name X.rng;have l2:=Qc its X.other X.rng;unfold yj at hx;split at hx
  ·rw[List.mem_singleton] at hx;subst hx;exact⟨za6 _ _ _,by simp;omega⟩
  ·split at hx
   ·rename_i hk;rw[List.mem_singleton] at hx;subst hx;have hnb:=zcs (hpair (Or.inl hk));refine⟨fun y hy=>?_,by simp;omega⟩;rcases List.mem_cons.1 hy with rfl|hy
    ·rw[qw];unfold zp;omega
    ·exact za6 _ _ _ y hy
   ·split at hx
    ·rename_i hk;obtain⟨k,hk2,rfl⟩:=List.mem_map.1 hx;have hnb:=zcs (hpair (Or.inr hk));have hka:=QS its X.other X.rng k hk2;refine⟨fun y hy=>?_,by simp⟩;simp only[List.mem_cons,List.not_mem_nil,or_false] at hy;rw[qw];unfold zp at hy;rcases hy with rfl|rfl<;>omega
    ·cases hx
theorem zch(P:List (Int × List Int))(bs:List Bool):(zS P bs).length<=P.length:=by
 unfold zS;rw[List.length_map];exact List.length_filter_le _ _
theorem XD{P:List (Int × List Int)}{bs:List Bool}{c:List Int}(h:c∈zS P bs):∃x∈P,x.2=c:=by
 unfold zS at h;obtain⟨x,hx,rfl⟩:=List.mem_map.1 h;exact⟨x,(List.mem_filter.1 hx).1,rfl⟩
theorem YG{ls:List Ln}{its:List It}(h:zQ ls=.ok its)(bs:List Bool):qL its.length (zS (ofL its ls) bs):=fun c hc=>by
 obtain⟨x,hx,rfl⟩:=XD hc;exact(Xr h x hx).1
theorem zd1{ls:List Ln}{its:List It}(h:zQ ls=.ok its)(hP:(ofL its ls).length<=200)(bs:List Bool):(qM (its.length:Nat) (zS (ofL its ls) bs)).1=0:=by
 have hl:=(Qk h).1;rw[zcP (by omega) (by omega) (Nat.le_trans (zch _ _) hP) (fun j hj=>?_)];have hm:(zS (ofL its ls) bs).getD j []∈zS (ofL its ls) bs:=by rw[List.getD_eq_getElem?_getD,List.getElem?_eq_getElem hj];exact List.getElem_mem hj
 obtain⟨x,hx,e⟩:=XD hm;obtain⟨h1,h2⟩:=Xr h x hx;rw[<-e];unfold xi;rw[Bool.or_eq_false_iff];refine⟨by simp;omega,?_⟩;rw[List.any_eq_false];intro y hy;simp[h1 y hy]
theorem JY(its:List It)(ls:List Ln)(bs:List Bool)(i j:Nat)(hij:i<j)(hj:j<its.length)(e:yT its i=yT its j):[-((i:Int)+1),-((j:Int)+1)]∈zS (ofL its ls) bs:=by
 unfold zS;refine List.mem_map.2 ⟨(-1,[-((i:Int)+1),-((j:Int)+1)]),List.mem_filter.2 ⟨List.mem_append.2 (Or.inl ?_),by simp[q7]⟩,rfl⟩;refine List.mem_flatMap.2 ⟨j,List.mem_range.2 hj,List.mem_flatMap.2 ⟨i,List.mem_range.2 hij,?_⟩⟩;unfold pr0;unfold yT at e;rw[if_pos e];simp[zp]
theorem zdw{ls:List Ln}{its:List It}(h:zQ ls=.ok its)(hv:its.length<=12)(bs:List Bool){b:Bool}{er:Value}(hc:Qm its.length (zS (ofL its ls) bs) b er):b=Zx (zS (ofL its ls) bs)/\er=.nilIface :=
 zbp (by omega) (YG h bs) (fun _ hr=>J7 (yT its) hv (YG h bs) (JR h) (JY its ls bs) hr) hc
end
end Go.Proofs.YtiihalknffbjpaaGreatDoor
