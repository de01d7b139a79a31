/- What the search has in memory. -/
import Derived.Test.YtjmfeefogikdfaaGreatDoorClSide
set_option maxHeartbeats 2000000
set_option maxRecDepth 100000
namespace Go.Proofs.YtjmfeefogikdfaaGreatDoor
section
open Go.RowKit Go.Deep
def tvl(told:List Int):List Value:=(List.range 24).map fun i=>Value.int .i8 (tv told i)
theorem KO(told:List Int)(i:Nat)(h:i<24):(tvl told)[i]?=some (.int .i8 (tv told i)):=by simp[tvl,h]
theorem qy(told:List Int):(tvl told).length=24:=by simp[tvl]
theorem zgr{W:World}{b:Nat}{t:TypeId}{pre post:List Value}{told:List Int}(h:Blk W b t (pre++tvl told++post).toArray):xo W ⟨b,pre.length,none⟩ told:=by
 refine⟨h.lt,fun i hi=>?_,fun i hi=>?_⟩
 ·rw[add_plain,h.cell,List.getElem?_toArray,List.append_assoc,List.getElem?_append_right (by omega),Nat.add_sub_cancel_left,List.getElem?_append_left (by rw[qy];exact hi),KO _ _ hi]
 ·rw[add_plain];exact h.frozen _
theorem zkQ{told:List Int}{x:Int}(hx:zJ 24 x=true)(hn:-x∉told):(tvl told).set (qZ x) (.int .i8 (xp x))=tvl (told++[x]):=by
 rw[qx] at hx;apply List.ext_getElem?;intro i;rw[List.getElem?_set,qy]
 by_cases hi:i<24
 ·rw[KO _ _ hi,KO _ _ hi,JY hn];unfold qZ xp
  by_cases hp:0<x
  ·rw[if_pos hp,if_pos hp]
   by_cases e:x.toNat-1=i
   ·rw[if_pos e,if_pos (by omega),if_pos (by omega)]
   ·rw[if_neg e,if_neg (by omega),if_neg (by omega)]
  ·rw[if_neg hp,if_neg hp]
   by_cases e:(-x).toNat-1=i
   ·rw[if_pos e,if_pos (by omega),if_neg (by omega),if_pos (by omega)]
   ·rw[if_neg e,if_neg (by omega),if_neg (by omega)]
 ·rw[List.getElem?_eq_none (by rw[qy];omega),List.getElem?_eq_none (by rw[qy];omega)];have:qZ x<24:=by unfold qZ;split<;>omega
  rw[if_neg (by omega)]
theorem zgB{W:World}{b:Nat}{t:TypeId}{pre post:List Value}{told:List Int}{x:Int}(hx:zJ 24 x=true)(hn:-x∉told)(h:Blk W b t (pre++tvl told++post).toArray) :
  Blk (W.setCell ((⟨b,pre.length,none⟩:Addr).add (qZ x)) (.int .i8 (xp x))) b t (pre++tvl (told++[x])++post).toArray:=by
 have:=h.set (i:=pre.length+qZ x) (v:=.int .i8 (xp x));have ht:qZ x<24:=by rw[qx] at hx;unfold qZ;split<;>omega
 rw[add_plain];rw[List.setIfInBounds_toArray,List.append_assoc,List.set_append_right _ _ (by omega),Nat.add_sub_cancel_left,List.set_append_left _ _ (by rw[qy];exact ht),zkQ hx hn,<-List.append_assoc] at this;exact this
end
section
open Go.RowKit Go.Deep
def yK(told:List Int):Nat->Nat
 |0=>0
 |k+1=>if 0<tv told k then yK told k|||2^k else yK told k
theorem ze9(told:List Int):∀k,yK told k<2^k
 |0=>by simp[yK]
 |k+1=>by
  have h:=ze9 told k;have h2:2^k<2^(k+1):=Nat.pow_lt_pow_right (by omega) (by omega);unfold yK;split
  ·exact Nat.or_lt_two_pow (by omega) h2
  ·omega
theorem zaI(told:List Int):∀k i,(yK told k).testBit i=(decide (i<k)&&decide (0<tv told i))
 |0,i=>by simp[yK]
 |k+1,i=>by
  have h:=zaI told k i;unfold yK;split
  ·rename_i hp;rw[Nat.testBit_or,h,Nat.testBit_two_pow]
   by_cases e:k=i
   ·subst e;simp[hp]
   ·by_cases h1:i<k
    ·simp[h1,e,show i<k+1 by omega]
    ·simp[h1,e,show ¬i<k+1 by omega]
  ·rename_i hp;rw[h]
   by_cases e:k=i
   ·subst e;simp[hp]
   ·by_cases h1:i<k
    ·simp[h1,show i<k+1 by omega]
    ·simp[h1,show ¬i<k+1 by omega]
theorem zmq(o k:Nat)(ho:o<2^k)(hk:k<24):bits BinOp.or IntKind.u64 (o:Int) ((2:Int)^k)=((o|||2^k:Nat):Int):=by
 have h24:2^k<=2^24:=Nat.pow_le_pow_right (by omega) (by omega);have h63:(2:Nat)^24<18446744073709551616:=by decide
 have e:((2:Int)^k)=((2^k:Nat):Int):=by simp
 rw[e,bits_or_u64_nat o (2^k) (by omega) (by omega)]
theorem zkh{k:Nat}(hk:k<24):IntKind.u64.wrap (2^min k 64)=(2:Int)^k:=by
 have h24:2^k<=2^24:=Nat.pow_le_pow_right (by omega) (by omega);have h63:(2:Nat)^24<2^63:=by decide
 have e:((2:Int)^k)=((2^k:Nat):Int):=by simp
 rw[show min k 64=k by omega,e,IntKind.wrap_u64];exact Int.emod_eq_of_lt (Int.natCast_nonneg _) (by omega)
theorem zmw(p:Addr)(told:List Int)(w:World)(hv:xo w p told) :
  zR 26 #[.pointer (some p)] w (.int .u64 ((yK told 24:Nat):Int)):=by
 have HV:=zH hv;clear hv;go_enter Tryz.func26,Tryz.ntmps26;go_wp2_with fail;go_loopw [3,7] (fun nV kV wr=>∃k:Nat,k<=24/\kV=.int .i64 k/\nV=.int .u64 ((yK told k:Nat):Int)/\zB w wr) (fun _ kV _=>24-(intOf kV).toNat)
 case atStart=>exact⟨0,by omega,rfl,rfl,Below.refl _ _⟩
 case round =>
  obtain⟨k,hk,rfl,rfl,hbr⟩:=hrel;have HBR:=zH hbr;clear hbr
  by_cases hlt:k<24
  ·have hc:=(HV.out.below HBR.out).cell k hlt;have hi0:(0:Int)<=(k:Int):=by omega
   have hi1:(k:Int)<24:=by omega
   have hor:=zmq (yK told k) k (ze9 told k) hlt;have hsh:=zkh hlt;have hw2:IntKind.u64.wrap ((2:Int)^k)=(2:Int)^k:=by rw[show min k 64=k by omega] at hsh;exact hsh
   have HOR:=zH hor;have HSH:=zH hsh;have HW2:=zH hw2;have HN:Hid (yK told (k+1)=if 0<tv told k then yK told k|||2^k else yK told k):=rfl;clear hor hsh hw2;generalize tv told k=s at *;generalize yK told k=o at *;go_wp2_with fail;go_quiet (fail);have hbn:zB w (wr.drewN nq):=HBR.out.trans ⟨rfl,rfl,rfl,Nat.le_refl _,fun _ _=>rfl⟩;have HBN:=zH hbn;clear hbn
   by_cases hp:0<s
   ·have HN2:=zH (HN.out.trans (if_pos hp));go_wp2;go_roundw
    case rel=>exact⟨k+1,hlt,by go_num,congrArg (Value.int .u64) (by rw[HN2.out];first|exact HOR.out|(rw[HW2.out];exact HOR.out)|(rw[HSH.out];exact HOR.out)),HBN.out⟩
    case measure=>simp[intOf];omega
   ·have HN2:=zH (HN.out.trans (if_neg hp));go_wp2;go_roundw
    case rel=>exact⟨k+1,hlt,by go_num,by rw[HN2.out],HBN.out⟩
    case measure=>simp[intOf];omega
  ·obtain rfl:k=24:=by omega
   go_wp2;go_ret;exact⟨rfl,HBR.out⟩
theorem znm(p:Addr)(told:List Int)(v:Nat)(hv24:v<=24)(cap:Nat)(w:World)(hv:xo w p told) :
  zC 25 #[.slice (some p) v cap,.int .i8 0] w fun e w'=>e=.returned (.int .i64 (yW v told))/\w=w':=by
 have HV:=zH hv;clear hv;go_enter Tryz.func25,Tryz.ntmps25;go_wp2_with fail;go_loop [8] (fun kV=>∃k:Nat,k<=v/\kV=.int .i64 k/\∀i,i<k->tv told i≠0) (fun kV=>v-(intOf kV).toNat)
 case atStart=>exact⟨0,by omega,rfl,fun i h=>by omega⟩
 case round =>
  obtain⟨k,hk,rfl,h1⟩:=hrel;have H1:=zH h1;clear h1
  by_cases hlt:k<v
  ·have hc:=HV.out.cell k (by omega);have HL:=zH (QB (v:=v) (told:=told));generalize hs:tv told k=s at *;have HS:=zH hs;clear hs
   by_cases h0:s=0
   ·have HR:Hid (yW v told=(k:Int)):=by
     rcases HL.out with ⟨_,h⟩|⟨j,e,hj,h2,h3⟩
     ·exact absurd (HS.out.trans h0) (h k hlt)
     ·have:j=k:=by
       rcases Nat.lt_trichotomy j k with h|h|h
       ·exact absurd h2 (H1.out j h)
       ·exact h
       ·exact absurd (HS.out.trans h0) (h3 k h)
      rw[<-this];exact e
    subst h0;go_wp2;go_ret;exact⟨by rw[HR.out];rfl,rfl⟩
   ·have h0':(0==s)=false:=by simp;omega
    go_wp2;go_round
    case rel=>exact ⟨k + 1,hlt,by go_num,fun i hi=>(by
     rcases Nat.lt_succ_iff_lt_or_eq.1 hi with e|e
     ·exact H1.out i e
     ·rw [e,HS.out];exact h0)⟩
    case measure=>simp[intOf];omega
  ·obtain rfl:k=v:=by omega
   have HR:Hid (yW k told=-1):=by
    rcases QB (v:=k) (told:=told) with ⟨e,_⟩|⟨j,e,hj,h2,h3⟩
    ·exact e
    ·exact absurd h2 (H1.out j hj)
   go_wp2;go_ret;exact⟨by rw[HR.out];rfl,rfl⟩
end
section
open Go.RowKit Go.Deep
def zeC(vals:Nat)(ds:List (Int × List Int)):Prop:=∀d∈ds,xu vals d.1=true
structure Inv(l:List (List Int))(ds:List (Int × List Int))(told:List Int):Prop where
 imp:∀vals,xe vals l->zeC vals ds->Sat vals told
 first:∀x∈told,x<0->∀vals,xe vals l->(∀d∈ds,d.1 < -x->xu vals d.1=true)->xu vals x=true
 low:∀d∈ds,∀u,0<u->u<=d.1->u∈told\/-u∈told
 mem:∀d∈ds,d.1∈told
 pos:∀d∈ds,0<d.1
structure ZX(l:List (List Int))(s:St):Prop where
 now:Inv l s.decs s.told
 past:∀k d,s.decs[k]?=some d->Inv l (s.decs.take k) d.2
 prf:∀vals,xe vals l->xe vals s.prf
theorem zeh(l:List (List Int)):ZX l st0:=by
 refine⟨⟨(fun _ _ _ x hx=>by cases hx),(fun x hx=>by cases hx),(fun d hd=>by cases hd),(fun d hd=>by cases hd),(fun d hd=>by cases hd)⟩,(fun k d h=>by simp[st0] at h),(fun _ _ c hc=>by cases hc)⟩
theorem zal{vals:Nat}{l m:List (List Int)}(h1:xe vals l)(h2:xe vals m):xe vals (l++m):=fun c hc=>by
 rcases List.mem_append.1 hc with h|h
 ·exact h1 c h
 ·exact h2 c h
theorem Inv.tell{l:List (List Int)}{ds:List (Int × List Int)}{told:List Int}(h:Inv l ds told){x:Int}(h0:x∉told)(h1:-x∉told)(hx:∀vals,xe vals l->Sat vals told->xu vals x=true):Inv l ds (told++[x]):=by
 refine⟨fun vals hs hd=>zcM (h.imp vals hs hd) (hx vals hs (h.imp vals hs hd)),fun y hy hneg vals hs hd=>?_,fun d hd u hu0 hu1=>?_,fun d hd=>List.mem_append.2 (Or.inl (h.mem d hd)),h.pos⟩
 ·simp only[List.mem_append,List.mem_singleton] at hy;rcases hy with hy|hy
  ·exact h.first y hy hneg vals hs hd
  ·subst hy;refine hx vals hs (h.imp vals hs fun d hdd=>hd d hdd ?_);rcases Int.lt_or_le d.1 (-y) with hlt|hle
   ·exact hlt
   ·rcases h.low d hdd (-y) (by omega) hle with h2|h2
    ·exact absurd h2 h1
    ·rw[Int.neg_neg] at h2;exact absurd h2 h0
 ·rcases h.low d hd u hu0 hu1 with h2|h2
  ·exact Or.inl (List.mem_append.2 (Or.inl h2))
  ·exact Or.inr (List.mem_append.2 (Or.inl h2))
theorem zd0{v:Nat}{l:List (List Int)}(hl:zU v l){s s':St}(hg:zr v s)(h:ZX l s)(e:qL v l s=.inl s'):ZX l s':=by
 have hlp:=YK hl hg.litsP;have hsl:∀vals,xe vals l->xe vals (l++s.prf):=fun vals hs=>zal hs (h.prf vals hs);unfold qL at e
 by_cases h1:(zG s.told (l++s.prf)).2≠0
 ·rw[if_pos h1] at e;injection e with e;subst e;obtain⟨q1,q2,q3,q4,q5⟩:=XR hlp hg.cons hg.lits (i:=(zG s.told (l++s.prf)).1) (x:=(zG s.told (l++s.prf)).2) rfl h1;exact⟨h.now.tell q2 q3 (fun vals hs ht=>(Jz hlp hg.cons (hsl vals hs) ht).2 h1),h.past,h.prf⟩
 ·rw[if_neg h1] at e
  by_cases h2:0<=(zG s.told (l++s.prf)).1
  ·rw[if_pos h2] at e;cases hd:s.decs.getLast? with
   |none=>rw[hd] at e;cases e
   |some d =>
    rw[hd] at e
    by_cases h3:s.prf.length+1=2000
    ·simp only[if_pos h3] at e;cases e
    ·simp only[if_neg h3] at e;injection e with e;subst e;have hlast:s.decs[s.decs.length-1]?=some d:=by rw[<-List.getLast?_eq_getElem?];exact hd
     have hp:=h.past _ _ hlast;rw[<-List.dropLast_eq_take] at hp;refine⟨hp,fun k d' hk=>?_,fun vals hs=>zal (h.prf vals hs) (fun c hc=>?_)⟩
     ·have hk':s.decs.dropLast[k]?=some d':=hk;rw[List.getElem?_dropLast] at hk';split at hk'
      ·rename_i hlt;have:=h.past k d' hk';rw[show (s.decs.dropLast).take k=s.decs.take k by rw[List.dropLast_eq_take,List.take_take,Nat.min_eq_left (by omega)]];exact this
      ·cases hk'
     ·rw[List.mem_singleton] at hc;subst hc
      by_cases hall:zeC vals s.decs
      ·exfalso;exact absurd ((Jz hlp hg.cons (hsl vals hs) (h.now.imp vals hs hall)).1 h2) h1
      ·have:∃d∈s.decs,xu vals d.1≠true:=Classical.byContradiction fun hn=>hall fun d hd=>Classical.byContradiction fun hne=>hn ⟨d,hd,hne⟩;obtain⟨d',hd',hne⟩:=this;refine⟨-d'.1,List.mem_map.2 ⟨d',hd',rfl⟩,?_⟩;rw[zaH (by have:=h.now.pos d' hd';omega)];simpa using hne
  ·rw[if_neg h2] at e
   by_cases h3:yW v s.told<0
   ·rw[if_pos h3] at e;cases e
   ·rw[if_neg h3] at e;injection e with e;subst e;rcases QB (v:=v) (told:=s.told) with ⟨h4,_⟩|⟨k,h4,hk,h5,h6⟩
    ·omega
    ·rw[h4];have hn:=h.now;refine⟨⟨fun vals hs hd=>?_,fun x hx hneg vals hs hd=>?_,fun d hd u hu0 hu1=>?_,fun d hd=>?_,fun d hd=>?_⟩,fun j d hj=>?_,h.prf⟩
     ·exact zcM (hn.imp vals hs fun d h=>hd d (List.mem_append.2 (Or.inl h))) (hd ((k:Int)+1,s.told) (List.mem_append.2 (Or.inr List.mem_cons_self)))
     ·have hx':x∈s.told++[(k:Int)+1]:=hx;simp only[List.mem_append,List.mem_singleton] at hx';rcases hx' with hx'|hx'
      ·exact hn.first x hx' hneg vals hs fun d h hlt=>hd d (List.mem_append.2 (Or.inl h)) hlt
      ·omega
     ·have hd':d∈s.decs++[((k:Int)+1,s.told)]:=hd;show u∈s.told++[(k:Int)+1]\/-u∈s.told++[(k:Int)+1];simp only[List.mem_append,List.mem_singleton] at hd' ⊢;rcases hd' with hd'|hd'
      ·rcases hn.low d hd' u hu0 hu1 with h|h
       ·exact Or.inl (Or.inl h)
       ·exact Or.inr (Or.inl h)
      ·subst hd'
       by_cases e:u=(k:Int)+1
       ·exact Or.inl (Or.inr e)
       ·have hu1':u<=(k:Int)+1:=hu1;have:=h6 (u.toNat-1) (by omega);have h7:¬(((u.toNat-1:Nat):Int)+1∉s.told/\-(((u.toNat-1:Nat):Int)+1)∉s.told):=fun h=>this (Qw.2 h);rw[show ((u.toNat-1:Nat):Int)+1=u by omega] at h7
        by_cases h8:u∈s.told
        ·exact Or.inl (Or.inl h8)
        ·exact Or.inr (Or.inl (Classical.byContradiction fun h9=>h7 ⟨h8,h9⟩))
     ·have hd':d∈s.decs++[((k:Int)+1,s.told)]:=hd;show d.1∈s.told++[(k:Int)+1];simp only[List.mem_append,List.mem_singleton] at hd' ⊢;rcases hd' with hd'|hd'
      ·exact Or.inl (hn.mem d hd')
      ·exact Or.inr (by rw[hd'])
     ·have hd':d∈s.decs++[((k:Int)+1,s.told)]:=hd;simp only[List.mem_append,List.mem_singleton] at hd';rcases hd' with hd'|hd'
      ·exact hn.pos d hd'
      ·rw[hd'];show (0:Int)<(k:Int)+1;omega
     ·have hj':(s.decs++[((k:Int)+1,s.told)])[j]?=some d:=hj;show Inv l ((s.decs++[((k:Int)+1,s.told)]).take j) d.2;rw[List.getElem?_append] at hj';split at hj'
      ·rename_i hlt;rw[List.take_append_of_le_length (by omega)];exact h.past j d hj'
      ·rename_i hge;have hjl:j-s.decs.length=0:=by
        rcases Nat.eq_zero_or_pos (j-s.decs.length) with h|h
        ·exact h
        ·rw[List.getElem?_eq_none (by simp;omega)] at hj';cases hj'
       rw[hjl] at hj';simp at hj';subst hj';have:j=s.decs.length:=by omega
       rw[this,List.take_append_of_le_length zN,List.take_length];exact hn
theorem zkk{v:Nat}{l:List (List Int)}(hv:v<=24)(hl:zU v l){s:St}{r:Res}(hr:Run v l s r):zr v s->ZX l s ->
  (∀p,r=.unsat p->∀vals,¬xe vals l)/\(∀t,r=.sat t->∃ds,Inv l ds t/\zS v t/\qV t/\(∀i,i<v->tv t i≠0)/\∀c∈l,∃x∈c,x∈t):=by
 induction hr with
 |go h _ ih=>intro hg hi;exact ih (YM hv hl hg h).1 (zd0 hl hg hi h)
 |done h =>
  rename_i s r;intro hg hi;have hlp:=YK hl hg.litsP;unfold qL at h
  by_cases h1:(zG s.told (l++s.prf)).2≠0
  ·rw[if_pos h1] at h;cases h
  ·rw[if_neg h1] at h
   by_cases h2:0<=(zG s.told (l++s.prf)).1
   ·rw[if_pos h2] at h;cases hd:s.decs.getLast? with
    |none =>rw[hd] at h;injection h with h;subst h;have hd0:s.decs=[]:=List.getLast?_eq_none_iff.1 hd;refine⟨fun p _ vals hs=>?_,(fun t h=>by cases h)⟩;exact absurd ((Jz hlp hg.cons (zal hs (hi.prf vals hs)) (hi.now.imp vals hs (fun d hd=>by rw[hd0] at hd;cases hd))).1 h2) h1
    |some d =>
     rw[hd] at h
     by_cases h3:s.prf.length+1=2000
     ·simp only[if_pos h3] at h;injection h with h;subst h;exact⟨(fun p h=>by cases h),(fun t h=>by cases h)⟩
     ·simp only[if_neg h3] at h;cases h
   ·rw[if_neg h2] at h
    by_cases h3:yW v s.told<0
    ·rw[if_pos h3] at h;injection h with h;subst h;refine⟨(fun p h=>by cases h),fun t h=>?_⟩;cases h;rcases QB (v:=v) (told:=s.told) with ⟨_,h4⟩|⟨k,h4,_⟩
     ·refine⟨s.decs,hi.now,hg.lits,hg.cons,h4,fun c hc=>?_⟩;have hn:=Xt (l:=l++s.prf) hg.cons;generalize zG s.told (l++s.prf)=r at *;cases hn with
      |none h5 =>
       rcases h5 c (List.mem_append.2 (Or.inl hc)) with h6|⟨x,hx,_,_,_,n1,n2,_⟩
       ·exact h6
       ·exfalso;have hb:=qx.1 (hl c hc x hx)
        by_cases hp:0<x
        ·have:=h4 (x.toNat-1) (by omega);exact this (Qw.2 (by rw[show ((x.toNat-1:Nat):Int)+1=x by omega];exact⟨n1,n2⟩))
        ·have:=h4 ((-x).toNat-1) (by omega);exact this (Qw.2 (by rw[show (((-x).toNat-1:Nat):Int)+1=-x by omega,Int.neg_neg];exact⟨n2,n1⟩))
      |bad=>exact absurd (Int.natCast_nonneg _) h2
      |one=>exact absurd (Int.natCast_nonneg _) h2
     ·omega
    ·rw[if_neg h3] at h;cases h
theorem zlX{v:Nat}{t:List Int}(hl:zS v t)(hc:qV t)(hv:v<=24):Sat (yK t 24) t:=fun x hx=>by
 have hb:=qx.1 (hl x hx);unfold xu
 by_cases hp:0<x
 ·rw[if_pos hp,zaI];have:tv t (x.toNat-1)=1:=by unfold tv;rw[if_pos (by rw[show ((x.toNat-1:Nat):Int)+1=x by omega];exact hx)]
  rw[this];simp;omega
 ·rw[if_neg hp,zaI];have:tv t ((-x).toNat-1)=-1:=by
   unfold tv;rw[show (((-x).toNat-1:Nat):Int)+1=-x by omega,Int.neg_neg,if_neg (hc x hx),if_pos hx]
  rw[this];simp
end
section
open Go.RowKit Go.Deep
def Z6:Nat->List (List Int)
 |0=>[[]]
 |v+1=>Z6 v++(Z6 v).map (·++[-((v:Int)+1)])
theorem zb3:∀v,(Z6 v).length=2^v
 |0=>rfl
 |v+1=>by
  simp only[Z6,List.length_append,List.length_map,zb3 v,Nat.pow_succ];omega
def Jt(c:List Int):Prop:=c.Pairwise (fun x y=>y<x)
theorem Ku:∀(v:Nat) (c:List Int),Jt c->(∀x∈c,x<0/\-(v:Int)<=x)->c∈Z6 v
 |0,c,_,hb=>by
  cases c with
  |nil=>simp[Z6]
  |cons x c=>have:=hb x (by simp);omega
 |v+1,c,hd,hb=>by
  unfold Z6;rw[List.mem_append];rcases List.eq_nil_or_concat c with rfl|⟨c',y,rfl⟩
  ·exact Or.inl (Ku v [] .nil (by simp))
  ·rw[List.concat_eq_append] at *;have hd':=List.pairwise_append.1 hd;have hy:=hb y (by simp)
   by_cases e:y=-((v:Int)+1)
   ·refine Or.inr (List.mem_map.2 ⟨c',Ku v c' hd'.1 (fun x hx=>?_),by rw[e]⟩);have h1:=hb x (by simp[hx]);have h2:=hd'.2.2 x hx y (by simp);omega
   ·refine Or.inl (Ku v _ hd (fun x hx=>?_));have h1:=hb x hx;rcases List.mem_append.1 hx with h|h
    ·have:=hd'.2.2 x h y (by simp);omega
    ·simp at h;omega
theorem QT{α:Type}[BEq α][LawfulBEq α]:∀{l m:List α},l.Nodup->(∀x∈l,x∈m)->l.length<=m.length
 |[],_,_,_=>Nat.zero_le _
 |a :: l,m,hn,hs=>by
  have hm:=hs a (by simp);have hn':=List.nodup_cons.1 hn;have h1:=QT (l:=l) (m:=m.erase a) hn'.2 (fun x hx =>
   (List.mem_erase_of_ne (fun e:x=a=>hn'.1 (e ▸ hx))).2 (hs x (by simp [hx])))
  rw[List.length_erase_of_mem hm] at h1;have:=List.length_pos_of_mem hm;simp only[List.length_cons];omega
def zaS(l:List (List Int))(t:List Int):Prop :=
 ∀c∈l,(∃x∈c,x∈t)\/∃x∈c,∃y∈c,x≠y/\x∉t/\-x∉t/\y∉t/\-y∉t
def Yj(l:List (List Int))(ds:List (Int × List Int)):Prop :=
 ∀(k:Nat) (d:Int × List Int),ds[k]?=some d->zaS l d.2/\d.1∉d.2/\-d.1∉d.2
structure KA(F:List (List Int))(s:St):Prop where
 nodup:s.prf.Nodup
 pre:∀k,k<s.decs.length->zA (s.decs.take (k+1))∉s.prf
 all:∀c∈s.prf,c∈F
theorem zfZ(F:List (List Int)):KA F st0:=⟨.nil,(fun k hk=>by simp[st0] at hk),(fun c hc=>by cases hc)⟩
theorem zgg(l:List (List Int)):Yj l st0.decs:=fun k d h=>by simp[st0] at h
theorem zgX{t:List Int}{l:List (List Int)}(hc:qV t)(h1:¬(zG t l).2≠0)(h2:¬0<=(zG t l).1):zaS l t:=by
 have h:=Xt (l:=l) hc;generalize zG t l=r at *;cases h with
 |none h=>exact h
 |bad hk h=>exact absurd (Int.natCast_nonneg _) h2
 |one hk _ _ _ _=>exact absurd (Int.natCast_nonneg _) h2
theorem zme{s:St}(hc:qV s.told){P:List (List Int)}(hs:zaS P s.told)(hm:∀d∈s.decs,d.1∈s.told){x:Int}(h1:-x∉s.told)(T:List Int):zA (s.decs++[(x,T)])∉P:=by
 intro hP;have e:∀y∈zA (s.decs++[(x,T)]),y=-x\/-y∈s.told:=by
  intro y hy;unfold zA at hy;obtain⟨d,hd,rfl⟩:=List.mem_map.1 hy;rcases List.mem_append.1 hd with h|h
  ·exact Or.inr (by rw[Int.neg_neg];exact hm d h)
  ·rw[List.mem_singleton] at h;subst h;exact Or.inl rfl
 rcases hs _ hP with ⟨y,hy,ht⟩|⟨y,hy,z,hz,hne,hy0,hy1,hz0,hz1⟩
 ·rcases e y hy with rfl|h
  ·exact h1 ht
  ·exact hc y ht h
 ·rcases e y hy with rfl|h
  ·rcases e z hz with rfl|h
   ·exact hne rfl
   ·exact hz1 h
  ·exact hy1 h
theorem zeV(ds:List (Int × List Int)):(zA ds).length=ds.length:=by simp[zA]
theorem zji{l:List (List Int)}{s:St}(hi:ZX l s)(hq:Yj l s.decs):Jt (zA s.decs):=by
 unfold Jt zA;rw[List.pairwise_map,List.pairwise_iff_getElem];intro i j hi' hj' hij;have ej:s.decs[j]?=some s.decs[j]:=List.getElem?_eq_getElem hj';have hp:=hi.past j _ ej;have hn:=(hq j _ ej).2;have hmi:s.decs[i]∈s.decs.take j:=by
  rw[List.mem_take_iff_getElem];exact⟨i,by omega,rfl⟩
 have hpos:=hi.now.pos s.decs[j] (List.getElem_mem hj');rcases Int.lt_or_le s.decs[i].1 s.decs[j].1 with h|h
 ·omega
 ·rcases hp.low _ hmi s.decs[j].1 hpos h with h2|h2
  ·exact absurd h2 hn.1
  ·exact absurd h2 hn.2
theorem zgC{v:Nat}{l F:List (List Int)}{s s':St}(hg:zr v s)(hi:ZX l s)(hq:Yj l s.decs)(hd:KA F s)(hin:zA s.decs∈F)(e:qL v l s=.inl s'):Yj l s'.decs/\KA F s':=by
 unfold qL at e
 by_cases h1:(zG s.told (l++s.prf)).2≠0
 ·rw[if_pos h1] at e;injection e with e;subst e;exact⟨hq,hd.nodup,hd.pre,hd.all⟩
 ·rw[if_neg h1] at e
  by_cases h2:0<=(zG s.told (l++s.prf)).1
  ·rw[if_pos h2] at e;cases hl:s.decs.getLast? with
   |none=>rw[hl] at e;cases e
   |some d =>
    rw[hl] at e
    by_cases h3:s.prf.length+1=2000
    ·simp only[if_pos h3] at e;cases e
    ·simp only[if_neg h3] at e;injection e with e;subst e;have hne:s.decs≠[]:=fun e=>by rw[e] at hl;cases hl
     have hpos:=List.length_pos_iff.2 hne;have hnew:zA s.decs∉s.prf:=by
      have:=hd.pre (s.decs.length-1) (by omega)
      rwa [List.take_of_length_le (by omega)] at this
     refine⟨fun k d' hk=>?_,?_,fun k hk=>?_,fun c hc=>?_⟩
     ·have hk':s.decs.dropLast[k]?=some d':=hk;rw[List.getElem?_dropLast] at hk';split at hk'
      ·exact hq k d' hk'
      ·cases hk'
     ·show (s.prf++[zA s.decs]).Nodup;rw[List.nodup_append];refine⟨hd.nodup,by simp,fun a ha b hb=>?_⟩;rw[List.mem_singleton] at hb;subst hb;exact fun e=>hnew (e▸ha)
     ·have hk':k<s.decs.dropLast.length:=hk;rw[List.length_dropLast] at hk';show zA (s.decs.dropLast.take (k+1))∉s.prf++[zA s.decs];rw[List.dropLast_eq_take,List.take_take,Nat.min_eq_left (by omega),List.mem_append];rintro (h|h)
      ·exact hd.pre k (by omega) h
      ·rw[List.mem_singleton] at h;have:=congrArg List.length h;rw[zeV,zeV,List.length_take] at this;omega
     ·have hc':c∈s.prf++[zA s.decs]:=hc;rcases List.mem_append.1 hc' with h|h
      ·exact hd.all c h
      ·rw[List.mem_singleton] at h;subst h;exact hin
  ·rw[if_neg h2] at e
   by_cases h3:yW v s.told<0
   ·rw[if_pos h3] at e;cases e
   ·rw[if_neg h3] at e;injection e with e;subst e;have hst:=zgX hg.cons h1 h2;rcases QB (v:=v) (told:=s.told) with ⟨h4,_⟩|⟨k,h4,hk,h5,_⟩
    ·omega
    ·obtain⟨n1,n2⟩:=Qw.1 h5;rw[h4];refine⟨fun j d hj=>?_,hd.nodup,fun j hj=>?_,hd.all⟩
     ·have hj':(s.decs++[((k:Int)+1,s.told)])[j]?=some d:=hj;rw[List.getElem?_append] at hj';split at hj'
      ·exact hq j d hj'
      ·rename_i hge;have hjl:j-s.decs.length=0:=by
        rcases Nat.eq_zero_or_pos (j-s.decs.length) with h|h
        ·exact h
        ·rw[List.getElem?_eq_none (by simp;omega)] at hj';cases hj'
       rw[hjl] at hj';simp at hj';subst hj';exact⟨fun c hc=>hst c (List.mem_append.2 (Or.inl hc)),n1,n2⟩
     ·have hj':j<(s.decs++[((k:Int)+1,s.told)]).length:=hj;simp only[List.length_append,List.length_singleton] at hj';show zA ((s.decs++[((k:Int)+1,s.told)]).take (j+1))∉s.prf
      by_cases hjl:j=s.decs.length
      ·rw[List.take_of_length_le (by simp;omega)];exact zme hg.cons (fun c hc=>hst c (List.mem_append.2 (Or.inr hc))) hi.now.mem n2 s.told
      ·rw[List.take_append_of_le_length (by omega)];exact hd.pre j (by omega)
theorem zgZ{v:Nat}{l F:List (List Int)}(hv:v<=24)(hl:zU v l)(hF:F.length<2000)(hin:∀s,zr v s->ZX l s->Yj l s.decs->zA s.decs∈F){s:St}{r:Res}(hr:Run v l s r):zr v s->ZX l s->Yj l s.decs->KA F s->r≠.limit:=by
 induction hr with
 |@done s r h =>
  intro hg hi hq hd hlim;subst hlim;unfold qL at h
  by_cases h1:(zG s.told (l++s.prf)).2≠0
  ·rw[if_pos h1] at h;cases h
  ·rw[if_neg h1] at h
   by_cases h2:0<=(zG s.told (l++s.prf)).1
   ·rw[if_pos h2] at h;cases hlast:s.decs.getLast? with
    |none=>rw[hlast] at h;cases h
    |some d =>
     rw[hlast] at h
     by_cases h3:s.prf.length+1=2000
     ·have:=QT hd.nodup hd.all;have hlt:=hd.nodup;have hne:s.decs≠[]:=fun e=>by rw[e] at hlast;cases hlast
      have hpos:=List.length_pos_iff.2 hne;have hnew:zA s.decs∉s.prf:=by
       have:=hd.pre (s.decs.length-1) (by omega)
       rwa [List.take_of_length_le (by omega)] at this
      have h4:=QT (l:=zA s.decs :: s.prf) (m:=F) (List.nodup_cons.2 ⟨hnew,hd.nodup⟩) (fun c hc=>by
       rcases List.mem_cons.1 hc with rfl|h
       ·exact hin s hg hi hq
       ·exact hd.all c h)
      simp only[List.length_cons] at h4;omega
     ·simp only[if_neg h3] at h;cases h
   ·rw[if_neg h2] at h
    by_cases h3:yW v s.told<0
    ·rw[if_pos h3] at h;cases h
    ·rw[if_neg h3] at h;cases h
 |@go s s' r h _ ih =>intro hg hi hq hd;obtain⟨q1,q2⟩:=zgC hg hi hq hd (hin s hg hi hq) h;exact ih (YM hv hl hg h).1 (zd0 hl hg hi h) q1 q2
theorem zmD{v:Nat}{l:List (List Int)}{s:St}(hg:zr v s)(hi:ZX l s):∀x∈zA s.decs,x<0/\-(v:Int)<=x:=by
 intro x hx;have h1:=zcY hg x hx;rw[qx] at h1;unfold zA at hx;obtain⟨d,hd,rfl⟩:=List.mem_map.1 hx;have:=hi.now.pos d hd;omega
theorem zh4{v:Nat}{l:List (List Int)}(hv:v<=10)(hl:zU v l){r:Res}(hr:Run v l st0 r):r≠.limit:=by
 refine zgZ (F:=Z6 v) (by omega) hl ?_ (fun s hg hi hq=>Ku v _ (zji hi hq) (zmD hg hi)) hr (KM v) (zeh l) (zgg l) (zfZ _);rw[zb3];have:=Nat.pow_le_pow_right (n:=2) (by omega) hv;omega
end
section
open Go.RowKit Go.Deep Sv
def KK(w:World)(a:Option Addr)(bs:List Bool):Prop:=∀i,i<bs.length->∃ad:Addr,a=some ad/\ad.block<w.heap.size/\w.cell? (ad.add i)=some (.bool (bs.getD i false))
theorem KK.below{B:Nat}{w w':World}{a:Option Addr}{bs:List Bool}(h:KK w a bs)(hb:Below B w w')(hB:w.heap.size<=B):KK w' a bs:=fun i hi=>by
 obtain⟨ad,h1,h2,h3⟩:=h i hi;exact⟨ad,h1,Nat.lt_of_lt_of_le h2 hb.size,(hb.cell (p:=ad.add i) (by rw[xP];omega)).trans h3⟩
def CO(B:Nat)(W:World)(v:Value)(K:List (List Int)):Prop:=∃cs,W.ownsRow B 43 1 v K.length cs/\zx 0 W cs K
theorem CO.new{B:Nat}{W W':World}{v:Value}{K:List (List Int)}(h:CO B W v K)(hb:zB W W'):CO B W' v K:=by
 obtain⟨cs,h1,h2⟩:=h;exact⟨cs,zZ h1 hb,h2.kp (Kp.new hb)⟩
theorem CO.app{B:Nat}{W w7:World}{v v':Value}{K:List (List Int)}{c:List Int}{a:Option Addr}{cap:Nat}{cs:List Value}(hB:B<=W.heap.size)(hrow:W.ownsRow B 43 1 v K.length cs)(hck:zx 0 W cs K)
  (hc1:c.length<=cap) (hc2:cap<=9223372036854775807) (hi:qA 0 W a c)
  (hown:w7.ownsRow B 43 1 v' (K.length+1) (cs++[.slice a c.length cap])) (hg:(W.alloc (.cells #[.slice a c.length cap] 43)).grownBy w7 v.ownBlock):CO B w7 v' (K++[c])/\Below B W w7:=by
 have hbn:=below_new W (.cells #[.slice a c.length cap] 43);have hk:Kp 0 (W.alloc (.cells #[.slice a c.length cap] 43)) w7:=Kp.grown (ownsRow_base (zZ hrow hbn) (Nat.zero_le _)) hg (by decide);have hk3:=(Kp.new (B:=0) hbn).trans hk;exact⟨⟨_,by simpa using hown,(hck.kp hk3).snoc hc1 hc2 (hi.kp hk3)⟩,(hbn.mono hB).grown hg (by simp;omega) (fun k hk=>(hrow.lt k hk).1)⟩
theorem RS.at{B:Nat}{W:World}{cv fv:Value}{P:List (Int × List Int)}(h:RS B W cv fv (P.map Prod.snd) (P.map Prod.fst))(i:Nat)(hi:i<P.length) :
  ∃cg cc fg fc a cap,cv=.slice (some ⟨cg,0,none⟩) P.length cc/\fv=.slice (some ⟨fg,0,none⟩) P.length fc/\W.cell? ⟨cg,i,none⟩=some (.slice a (P.getD i default).2.length cap)/\W.cell? ⟨fg,i,none⟩=some (.int .i64 (P.getD i default).1)/\qA 0 W a (P.getD i default).2/\PlA a:=by
 obtain⟨cs,h1,h2,_,h4⟩:=h.crow;have h3:=h.frow;obtain⟨cg,cc,e1,_,hc1⟩:=(qj h1).cells (by rw[List.length_map];omega);obtain⟨fg,fc,e2,_,hc2⟩:=(qj h3).cells (by rw[List.length_map];omega);obtain⟨a,cap,q1,_,_,q4⟩:=h2.2 i (by simpa using hi);have g1:(P.map Prod.snd).getD i []=(P.getD i default).2:=by simp[List.getD_eq_getElem?_getD,hi]
 have g2:(P.map Prod.fst).getD i 0=(P.getD i default).1:=by simp[List.getD_eq_getElem?_getD,hi]
 rw[g1] at q1 q4;refine⟨cg,cc,fg,fc,a,cap,by simpa using e1,by simpa using e2,hc1 i _ q1,hc2 i _ (by rw[ZV _ _ (by simpa using hi),g2]),q4,?_⟩;exact h4 _ (List.mem_of_getElem? q1) _ _ _ rfl
end
section
open Go.RowKit Go.Deep
theorem zkM{W0 w:World}{ad:Addr}{l:List (List Int)}(h:qY W0 (some ad) l)(hb:zB W0 w):∃cs:List Value,zx W0.heap.size w cs l/\∀j u,cs[j]?=some u->ad.block<W0.heap.size/\w.cell? (ad.add j)=some u:=by
 have each:∀i,i<l.length->∃u:Value,(∃(a:Option Addr) (cap:Nat),u=.slice a (l.getD i []).length cap/\(l.getD i []).length<=cap/\cap<=9223372036854775807/\qA W0.heap.size w a (l.getD i []))/\ad.block<W0.heap.size/\w.cell? (ad.add i)=some u:=by
  intro i hi;obtain⟨ad',a',cap,e,h1,h2,h3,h4,h5⟩:=h i hi;obtain rfl:=Option.some.inj e;exact⟨_,⟨a',cap,rfl,h3,h4,qA.of h5 hb⟩,h1,(hb.cell (by rw[xP];exact h1)).trans h2⟩
 obtain⟨q,hq⟩:=choose_lt (fun i hi=>each i hi);have hlen:((List.range l.length).map q).length=l.length:=by simp
 have hat:∀i,i<l.length->((List.range l.length).map q)[i]?=some (q i):=fun i hi=>by simp[hi]
 refine⟨(List.range l.length).map q,⟨hlen,fun i hi=>?_⟩,fun j u hj=>?_⟩
 ·obtain⟨a,cap,e,h1,h2,h3⟩:=(hq i hi).1;exact⟨a,cap,by rw[hat i hi,e],h1,h2,h3⟩
 ·have hj':j<l.length:=by have:=(List.getElem?_eq_some_iff.1 hj).1;rw[hlen] at this;exact this
  rw[hat j hj'] at hj;obtain rfl:=Option.some.inj hj;exact(hq j hj').2
theorem JJ(W0:World)(l:List (List Int))(a:Option Addr)(cap:Nat)(hn:a=none->cap=0)(hl:l.length<=100000)(w:World)(hI:qY W0 a l)(hb:zB W0 w) :
  zC 20 #[.slice a l.length cap] w fun e w'=>∃va vc,e=.returned (.slice va l.length vc)/\(∃cs,w'.ownsRow w.heap.size 43 1 (.slice va l.length vc) l.length cs/\zx W0.heap.size w' cs l)/\zB w w':=by
 obtain⟨ic,hic,hc0,hc1,hc2⟩:=info_parts YQ;have hq:=fun (x:Option Addr) (n c:Nat) (W:World)=>Lib.run_eql_slice_nil (P:=Tryz.prog) W 24 43 x n c 0 0 Tryz.underlying24;cases a with
 |none =>
  obtain rfl:cap=0:=hn rfl;obtain rfl:l=[]:=by
   cases l with
   |nil=>rfl
   |cons c l=>obtain⟨ad,_,_,e,_⟩:=hI 0 (by simp);cases e
  have fin:zC 20 #[.slice none 0 0] w fun e w'=>e=.returned (.slice none 0 0)/\w=w':=by
   go_enter Tryz.func20,Tryz.ntmps20;go_wp2;go_ret;exact⟨rfl,rfl⟩
  exact fin.mono fun e w' ⟨he,hw⟩=>⟨none,0,he,⟨[],World.ownsRow_nil _ _ _ _,zx.nil⟩,hw▸Below.refl _ _⟩
 |some ad =>
  obtain⟨cs,hck,hcell⟩:=zkM hI hb;have hcl:=hck.1;have hrow:=World.ownsRow_lit (base:=w.heap.size) (e:=43) (size:=1) w #[] 0 zN (by decide) rfl;have hone:=hck.one;have hnews:∀j u,cs[j]?=some u->(w.alloc (.cells #[] 43)).cell? (ad.add j)=some u:=fun j u hu=>by
   obtain⟨h1,h2⟩:=hcell j u hu;rw[World.cell?_alloc_lt _ _ _ (by rw[xP];exact Nat.lt_of_lt_of_le h1 hb.size)];exact h2
  have HCK:=zH hck;have HROW:=zH hrow;have HONE:=zH hone;have HNEWS:=zH hnews;have HCL:=zH hcl;clear hI hck hcell hrow hone hnews hcl hn;generalize hL:l.length=L at *;clear hL;go_enter Tryz.func20,Tryz.ntmps20;go_wp2_with (at_builtin;refine wpList_append_own_at _ rfl _ _ 24 rfl w.heap.size 43 ic (.slice none 0 0) 1 24 Tryz.underlying24 hic hc0 hc1 hc2 rfl (by decide) _ _ _ rfl HROW.out ad L cap cs rfl (by rw[HCL.out,Nat.mul_one]) HNEWS.out HONE.out ?c3 ?c4 ?c5 ?_)
  case c3=>unfold maxLen;omega
  case c4=>omega
  intro v7 w7 hown7 hgrow7 _ _;have hb7:zB w w7:=(below_new w (.cells #[] 43)).grown hgrow7 (by simp) (fun k hk=>by
   simp [Value.ownBlock] at hk;omega)
  have HK:Hid (zx W0.heap.size w7 cs l):=HCK.out.kp (Kp.new hb7);have hown8:w7.ownsRow w.heap.size 43 1 v7 L cs:=by simpa using hown7
  obtain⟨va,vc,rfl,-,-⟩:=row_form hown8;have HO:=zH hown8;have HB7:=zH hb7;clear hown7 hown8 hgrow7 hb7 HROW HNEWS;go_wp2;go_ret;exact⟨_,_,rfl,⟨cs,HO.out,HK.out⟩,HB7.out⟩
end
section
open Go.RowKit Go.Deep
def yT(d:Int × List Int):List Value:=.int .i64 d.1 :: tvl d.2
def zV(ds:List (Int × List Int)):List Value:=ds.flatMap yT
theorem Qt(d:Int × List Int):(yT d).length=25:=by simp[yT,qy]
theorem J1(ds:List (Int × List Int)):(zV ds).length=ds.length*25:=by
 induction ds with
 |nil=>rfl
 |cons d ds ih =>have:zV (d :: ds)=yT d++zV ds:=rfl;rw[this,List.length_append,Qt,ih,List.length_cons];omega
theorem Xw(ds:List (Int × List Int))(d:Int × List Int):zV (ds++[d])=zV ds++yT d:=by simp[zV]
theorem Yg{ds:List (Int × List Int)}{k:Nat}{d:Int × List Int}(h:ds[k]?=some d)(j:Nat)(hj:j<25):(zV ds)[k*25+j]?=(yT d)[j]?:=by
 induction ds generalizing k with
 |nil=>simp at h
 |cons e ds ih =>
  have he:zV (e :: ds)=yT e++zV ds:=rfl;rw[he];cases k with
  |zero =>simp at h;subst h;rw[Nat.zero_mul,Nat.zero_add,List.getElem?_append_left (by rw[Qt];exact hj)]
  |succ k =>rw[List.getElem?_append_right (by rw[Qt];omega),Qt,show (k+1)*25+j-25=k*25+j by omega];exact ih (by simpa using h)
structure SAt(B:Nat)(w:World)(sb:Nat)(l:List (List Int))(s:St)(cV dV pV:Value):Prop where
 blk:Blk w sb 72 ([cV]++tvl s.told++[dV,pV]).toArray
 Bsb:B<=sb
 crow:∃cs,w.ownsRow B 43 1 cV (l++s.prf).length cs/\zx B w cs (l++s.prf)
 prow:∃ps,w.ownsRow B 43 1 pV s.prf.length ps/\zx 0 w ps s.prf
 drow:w.ownsRow B 148 25 dV s.decs.length (zV s.decs)
 apart:cV.ownBlock=none\/cV.ownBlock≠pV.ownBlock
section
variable {B sb:Nat} {w w':World} {l:List (List Int)} {s:St} {cV dV pV:Value}
theorem SAt.new(h:SAt B w sb l s cV dV pV)(hb:zB w w'):SAt B w' sb l s cV dV pV:=by
 obtain⟨cs,h1,h2⟩:=h.crow;obtain⟨ps,h3,h4⟩:=h.prow;exact⟨h.blk.below hb h.blk.lt,h.Bsb,⟨cs,zZ h1 hb,h2.kp (Kp.new hb)⟩,⟨ps,zZ h3 hb,h4.kp (Kp.new hb)⟩,zZ h.drow hb,h.apart⟩
theorem SAt.vals(h:SAt B w sb l s cV dV pV):xo w ⟨sb,1,none⟩ s.told:=zgr (pre:=[cV]) (post:=[dV,pV]) h.blk
theorem SAt.c0(h:SAt B w sb l s cV dV pV):w.cell? ⟨sb,0,none⟩=some cV:=by rw[h.blk.cell];rfl
theorem SAt.c25(h:SAt B w sb l s cV dV pV):w.cell? ⟨sb,25,none⟩=some dV:=by
 rw[h.blk.cell,List.getElem?_toArray,List.getElem?_append_right (by simp[qy])];simp[qy]
theorem SAt.c26(h:SAt B w sb l s cV dV pV):w.cell? ⟨sb,26,none⟩=some pV:=by
 rw[h.blk.cell,List.getElem?_toArray,List.getElem?_append_right (by simp[qy])];simp[qy]
theorem SAt.fz(h:SAt B w sb l s cV dV pV)(i:Nat):w.frozen? ⟨sb,i,none⟩=false:=h.blk.frozen i
theorem SAt.rows(h:SAt B w sb l s cV dV pV)(i:Nat)(u:Value):(∃cs,(w.setCell ⟨sb,i,none⟩ u).ownsRow B 43 1 cV (l++s.prf).length cs/\zx B (w.setCell ⟨sb,i,none⟩ u) cs (l++s.prf))/\(∃ps,(w.setCell ⟨sb,i,none⟩ u).ownsRow B 43 1 pV s.prf.length ps/\zx 0 (w.setCell ⟨sb,i,none⟩ u) ps s.prf)/\(w.setCell ⟨sb,i,none⟩ u).ownsRow B 148 25 dV s.decs.length (zV s.decs):=by
 obtain⟨cs,h1,h2⟩:=h.crow;obtain⟨ps,h3,h4⟩:=h.prow;have hk:Kp B w (w.setCell ⟨sb,i,none⟩ u):=Kp.set h.Bsb h.blk (by decide);exact⟨⟨cs,ownsRow_setCell_other h1 (qH h1 h.blk (by decide)) u,h2.kp hk⟩,⟨ps,ownsRow_setCell_other h3 (qH h3 h.blk (by decide)) u,h4.kp hk.zero⟩,ownsRow_setCell_other h.drow (qH h.drow h.blk (by decide)) u⟩
theorem SAt.tell(h:SAt B w sb l s cV dV pV){x:Int}(hx:zJ 24 x=true)(hn:-x∉s.told):SAt B (w.setCell ((⟨sb,1,none⟩:Addr).add (qZ x)) (.int .i8 (xp x))) sb l ⟨s.told++[x],s.decs,s.prf⟩ cV dV pV:=by
 have hb:=zgB (pre:=[cV]) (post:=[dV,pV]) hx hn h.blk;have hr:=h.rows (1+qZ x) (.int .i8 (xp x));rw[add_plain] at *;exact⟨hb,h.Bsb,hr.1,hr.2.1,hr.2.2,h.apart⟩
end
end
end Go.Proofs.YtjmfeefogikdfaaGreatDoor
