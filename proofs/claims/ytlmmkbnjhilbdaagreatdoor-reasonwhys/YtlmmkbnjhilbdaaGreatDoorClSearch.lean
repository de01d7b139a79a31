/- What the search has in memory. -/
import Derived.Test.YtlmmkbnjhilbdaaGreatDoorClFirstM
set_option maxHeartbeats 4000000
set_option maxRecDepth 100000
namespace Go.Proofs.YtlmmkbnjhilbdaaGreatDoor
section
open Go.RowKit Go.Deep
def KC(c:List Int):Prop:=c.Pairwise (fun x y=>y<x)
theorem Qv{α:Type}[BEq α][LawfulBEq α]:∀{l m:List α},l.Nodup->(∀x∈l,x∈m)->l.length<=m.length
 |[],_,_,_=>Nat.zero_le _
 |a :: l,m,hn,hs=>by
  have hm:=hs a (by simp);have hn':=List.nodup_cons.1 hn;have h1:=Qv (l:=l) (m:=m.erase a) hn'.2 (fun x hx =>
   (List.mem_erase_of_ne (fun e:x=a=>hn'.1 (e ▸ hx))).2 (hs x (by simp [hx])))
  rw[List.length_erase_of_mem hm] at h1;have:=List.length_pos_of_mem hm;simp only[List.length_cons];omega
def JU(l:List (List Int))(t:List Int):Prop :=
 ∀c∈l,(∃x∈c,x∈t)\/∃x∈c,∃y∈c,x≠y/\x∉t/\-x∉t/\y∉t/\-y∉t
def Ym(l:List (List Int))(ds:List (Int × List Int)):Prop :=
 ∀(k:Nat) (d:Int × List Int),ds[k]?=some d->JU l d.2/\d.1∉d.2/\-d.1∉d.2
structure KX(F:List (List Int))(s:St):Prop where
 nodup:s.prf.Nodup
 pre:∀k,k<s.decs.length->zA (s.decs.take (k+1))∉s.prf
 all:∀c∈s.prf,c∈F
theorem zn0(F:List (List Int)):KX F st0:=⟨.nil,(fun k hk=>by simp[st0] at hk),(fun c hc=>by cases hc)⟩
theorem zog(l:List (List Int)):Ym l st0.decs:=fun k d h=>by simp[st0] at h
theorem zob{t:List Int}{l:List (List Int)}(hc:yd t)(h1:¬(zG t l).2≠0)(h2:¬0<=(zG t l).1):JU l t:=by
 have h:=XK (l:=l) hc;generalize zG t l=r at *;cases h with
 |none h=>exact h
 |bad hk h=>exact absurd (Int.natCast_nonneg _) h2
 |one hk _ _ _ _=>exact absurd (Int.natCast_nonneg _) h2
theorem ziw{s:St}(hc:yd s.told){P:List (List Int)}(hs:JU P s.told)(hm:∀d∈s.decs,d.1∈s.told){x:Int}(h1:-x∉s.told)(T:List Int):zA (s.decs++[(x,T)])∉P:=by
 intro hP;have e:∀y∈zA (s.decs++[(x,T)]),y=-x\/-y∈s.told:=by
  intro y hy;unfold zA at hy;obtain⟨d,hd,rfl⟩:=List.mem_map.1 hy;rcases List.mem_append.1 hd with h|h
  ·exact Or.inr (by rw[Int.neg_neg];exact hm d h)
  ·rw[List.mem_singleton] at h;subst h;exact Or.inl rfl
 rcases hs _ hP with ⟨y,hy,ht⟩|⟨y,hy,z,hz,hne,hy0,hy1,hz0,hz1⟩
 ·rcases e y hy with rfl|h
  ·exact h1 ht
  ·exact hc y ht h
 ·rcases e y hy with rfl|h
  ·rcases e z hz with rfl|h
   ·exact hne rfl
   ·exact hz1 h
  ·exact hy1 h
theorem zeY(ds:List (Int × List Int)):(zA ds).length=ds.length:=by simp[zA]
theorem zfV{l:List (List Int)}{s:St}(hi:ZL l s)(hq:Ym l s.decs):KC (zA s.decs):=by
 unfold KC zA;rw[List.pairwise_map,List.pairwise_iff_getElem];intro i j hi' hj' hij;have ej:s.decs[j]?=some s.decs[j]:=List.getElem?_eq_getElem hj';have hp:=hi.past j _ ej;have hn:=(hq j _ ej).2;have hmi:s.decs[i]∈s.decs.take j:=by
  rw[List.mem_take_iff_getElem];exact⟨i,by omega,rfl⟩
 have hpos:=hi.now.pos s.decs[j] (List.getElem_mem hj');rcases Int.lt_or_le s.decs[i].1 s.decs[j].1 with h|h
 ·omega
 ·rcases hp.low _ hmi s.decs[j].1 hpos h with h2|h2
  ·exact absurd h2 hn.1
  ·exact absurd h2 hn.2
theorem zjd{l:List (List Int)}{s:St}(hi:ZL l s)(hc:∀(k:Nat) (d:Int × List Int),s.decs[k]?=some d->yd d.2)(hq:Ym l s.decs){i j:Nat}(hij:i<j)(hj:j<s.decs.length){c:List Int}(hcl:c∈l)(he:∀x∈c,x=-(s.decs[i]'(by omega)).1\/x=-(s.decs[j]).1):False:=by
 have ej:s.decs[j]?=some s.decs[j]:=List.getElem?_eq_getElem hj;have hp:=hi.past j _ ej;obtain⟨hst,h0,h1⟩:=hq j _ ej;have hmi:s.decs[i]∈s.decs.take j:=by
  rw[List.mem_take_iff_getElem];exact⟨i,by omega,rfl⟩
 have hm:=hp.mem _ hmi;rcases hst c hcl with ⟨y,hy,ht⟩|⟨y,hy,z,hz,hne,hy0,hy1,hz0,hz1⟩
 ·rcases he y hy with rfl|rfl
  ·exact hc j _ ej _ hm ht
  ·exact h1 ht
 ·rcases he y hy with rfl|rfl
  ·exact hy1 (by rw[Int.neg_neg];exact hm)
  ·rcases he z hz with rfl|rfl
   ·exact hz1 (by rw[Int.neg_neg];exact hm)
   ·exact hne rfl
theorem zk9{v:Nat}{l F:List (List Int)}{s s':St}(hg:zu v s)(hi:ZL l s)(hq:Ym l s.decs)(hd:KX F s)(hin:zA s.decs∈F)(e:qU v l s=.inl s'):Ym l s'.decs/\KX F s':=by
 unfold qU at e
 by_cases h1:(zG s.told (l++s.prf)).2≠0
 ·rw[if_pos h1] at e;injection e with e;subst e;exact⟨hq,hd.nodup,hd.pre,hd.all⟩
 ·rw[if_neg h1] at e
  by_cases h2:0<=(zG s.told (l++s.prf)).1
  ·rw[if_pos h2] at e;cases hl:s.decs.getLast? with
   |none=>rw[hl] at e;cases e
   |some d =>
    rw[hl] at e
    by_cases h3:s.prf.length+1=2000
    ·simp only[if_pos h3] at e;cases e
    ·simp only[if_neg h3] at e;injection e with e;subst e;have hne:s.decs≠[]:=fun e=>by rw[e] at hl;cases hl
     have hpos:=List.length_pos_iff.2 hne;have hnew:zA s.decs∉s.prf:=by
      have:=hd.pre (s.decs.length-1) (by omega)
      rwa [List.take_of_length_le (by omega)] at this
     refine⟨fun k d' hk=>?_,?_,fun k hk=>?_,fun c hc=>?_⟩
     ·have hk':s.decs.dropLast[k]?=some d':=hk;rw[List.getElem?_dropLast] at hk';split at hk'
      ·exact hq k d' hk'
      ·cases hk'
     ·show (s.prf++[zA s.decs]).Nodup;rw[List.nodup_append];refine⟨hd.nodup,by simp,fun a ha b hb=>?_⟩;rw[List.mem_singleton] at hb;subst hb;exact fun e=>hnew (e▸ha)
     ·have hk':k<s.decs.dropLast.length:=hk;rw[List.length_dropLast] at hk';show zA (s.decs.dropLast.take (k+1))∉s.prf++[zA s.decs];rw[List.dropLast_eq_take,List.take_take,Nat.min_eq_left (by omega),List.mem_append];rintro (h|h)
      ·exact hd.pre k (by omega) h
      ·rw[List.mem_singleton] at h;have:=congrArg List.length h;rw[zeY,zeY,List.length_take] at this;omega
     ·have hc':c∈s.prf++[zA s.decs]:=hc;rcases List.mem_append.1 hc' with h|h
      ·exact hd.all c h
      ·rw[List.mem_singleton] at h;subst h;exact hin
  ·rw[if_neg h2] at e
   by_cases h3:yX v s.told<0
   ·rw[if_pos h3] at e;cases e
   ·rw[if_neg h3] at e;injection e with e;subst e;have hst:=zob hg.cons h1 h2;rcases Yd (v:=v) (told:=s.told) with ⟨h4,_⟩|⟨k,h4,hk,h5,_⟩
    ·omega
    ·obtain⟨n1,n2⟩:=QO.1 h5;rw[h4];refine⟨fun j d hj=>?_,hd.nodup,fun j hj=>?_,hd.all⟩
     ·have hj':(s.decs++[((k:Int)+1,s.told)])[j]?=some d:=hj;rw[List.getElem?_append] at hj';split at hj'
      ·exact hq j d hj'
      ·rename_i hge;have hjl:j-s.decs.length=0:=by
        rcases Nat.eq_zero_or_pos (j-s.decs.length) with h|h
        ·exact h
        ·rw[List.getElem?_eq_none (by simp;omega)] at hj';cases hj'
       rw[hjl] at hj';simp at hj';subst hj';exact⟨fun c hc=>hst c (List.mem_append.2 (Or.inl hc)),n1,n2⟩
     ·have hj':j<(s.decs++[((k:Int)+1,s.told)]).length:=hj;simp only[List.length_append,List.length_singleton] at hj';show zA ((s.decs++[((k:Int)+1,s.told)]).take (j+1))∉s.prf
      by_cases hjl:j=s.decs.length
      ·rw[List.take_of_length_le (by simp;omega)];exact ziw hg.cons (fun c hc=>hst c (List.mem_append.2 (Or.inr hc))) hi.now.mem n2 s.told
      ·rw[List.take_append_of_le_length (by omega)];exact hd.pre j (by omega)
theorem zma{v:Nat}{l F:List (List Int)}(hv:v<=24)(hl:qs v l)(hF:F.length<2000)(hin:∀s,zu v s->ZL l s->Ym l s.decs->zA s.decs∈F){s:St}{r:Res}(hr:Run v l s r):zu v s->ZL l s->Ym l s.decs->KX F s->r≠.limit:=by
 induction hr with
 |@done s r h =>
  intro hg hi hq hd hlim;subst hlim;unfold qU at h
  by_cases h1:(zG s.told (l++s.prf)).2≠0
  ·rw[if_pos h1] at h;cases h
  ·rw[if_neg h1] at h
   by_cases h2:0<=(zG s.told (l++s.prf)).1
   ·rw[if_pos h2] at h;cases hlast:s.decs.getLast? with
    |none=>rw[hlast] at h;cases h
    |some d =>
     rw[hlast] at h
     by_cases h3:s.prf.length+1=2000
     ·have:=Qv hd.nodup hd.all;have hlt:=hd.nodup;have hne:s.decs≠[]:=fun e=>by rw[e] at hlast;cases hlast
      have hpos:=List.length_pos_iff.2 hne;have hnew:zA s.decs∉s.prf:=by
       have:=hd.pre (s.decs.length-1) (by omega)
       rwa [List.take_of_length_le (by omega)] at this
      have h4:=Qv (l:=zA s.decs :: s.prf) (m:=F) (List.nodup_cons.2 ⟨hnew,hd.nodup⟩) (fun c hc=>by
       rcases List.mem_cons.1 hc with rfl|h
       ·exact hin s hg hi hq
       ·exact hd.all c h)
      simp only[List.length_cons] at h4;omega
     ·simp only[if_neg h3] at h;cases h
   ·rw[if_neg h2] at h
    by_cases h3:yX v s.told<0
    ·rw[if_pos h3] at h;cases h
    ·rw[if_neg h3] at h;cases h
 |@go s s' r h _ ih =>intro hg hi hq hd;obtain⟨q1,q2⟩:=zk9 hg hi hq hd (hin s hg hi hq) h;exact ih (XP hv hl hg h).1 (zcW hl hg hi h) q1 q2
theorem JA{v:Nat}{l:List (List Int)}{s:St}(hg:zu v s)(hi:ZL l s):∀x∈zA s.decs,x<0/\-(v:Int)<=x:=by
 intro x hx;have h1:=zda hg x hx;rw[qG] at h1;unfold zA at hx;obtain⟨d,hd,rfl⟩:=List.mem_map.1 hx;have:=hi.now.pos d hd;omega
end
section
open Go.RowKit Go.Deep Sv
def gA{α:Type}[DecidableEq α](nm:Nat->α):Nat->List (List Int) × List (List Int)
 |0=>([[]],[])
 |v+1=>if v≠0/\nm v=nm (v-1) then ((gA nm v).1++(gA nm v).2.map (·++[-((v:Int)+1)]),(gA nm v).2)
  else ((gA nm v).1++(gA nm v).1.map (·++[-((v:Int)+1)]),(gA nm v).1)
def xS{α:Type}[DecidableEq α](nm:Nat->α)(v:Nat):List Nat:=(List.range v).filter fun i=>decide (¬(i≠0/\nm i=nm (i-1)))
def Z0:Nat->Nat->Nat->Nat->Bool
 |0,_,a,_=>decide (a<2000)
 |n+1,k,a,b=>decide (a<2000)&&Z0 n k (a+b) b&&(match k with|0=>true|k+1=>Z0 n k (a+a) a)
theorem zom:Z0 12 8 1 0=true:=by decide +kernel
theorem zpb:∀{n k a b:Nat},Z0 n k a b=true->a<2000
 |0,_,_,_,h=>by simpa[Z0] using h
 |n+1,k,a,b,h=>by simp only[Z0,Bool.and_eq_true,decide_eq_true_eq] at h;exact h.1.1
theorem J2{α:Type}[DecidableEq α](nm:Nat->α):∀v,v<=12->(xS nm v).length<=8->Z0 (12-v) (8-(xS nm v).length) (gA nm v).1.length (gA nm v).2.length=true
 |0,_,_=>zom
 |v+1,hv,hn=>by
  have e:xS nm (v+1)=xS nm v++(if ¬(v≠0/\nm v=nm (v-1)) then [v] else []):=by
   unfold xS;rw[List.range_succ,List.filter_append];congr 1
   by_cases h:v≠0/\nm v=nm (v-1)
   ·simp[h]
   ·rw[if_pos h,List.filter_cons,if_pos (decide_eq_true h),List.filter_nil]
  have e12:12-v=(12-(v+1))+1:=by omega
  by_cases h:v≠0/\nm v=nm (v-1)
  ·rw[if_neg (by simpa using h),List.append_nil] at e;rw[e] at hn ⊢;have ih:=J2 nm v (by omega) hn;rw[e12] at ih;simp only[Z0,Bool.and_eq_true,decide_eq_true_eq] at ih;unfold gA;rw[if_pos h];simp only[List.length_append,List.length_map];exact ih.1.2
  ·rw[if_pos h] at e;rw[e,List.length_append] at hn ⊢;have ih:=J2 nm v (by omega) (by simp at hn;omega);rw[e12] at ih;simp only[Z0,Bool.and_eq_true,decide_eq_true_eq] at ih;unfold gA;rw[if_neg h];simp only[List.length_append,List.length_map,List.length_singleton];have e8:8-(xS nm v).length=(8-((xS nm v).length+1))+1:=by simp at hn;omega
   rw[e8] at ih;exact ih.2
def ZT(x:Int):Nat:=(-x-1).toNat
theorem XB{α:Type}[DecidableEq α](nm:Nat->α):∀(v:Nat) (c:List Int),KC c->(∀x∈c,x<0/\-(v:Int)<=x)->c.Pairwise (fun x y=>nm (ZT x)≠nm (ZT y)) ->
  c∈(gA nm v).1/\(v≠0->(∀x∈c,nm (ZT x)≠nm (v-1))->c∈(gA nm v).2)
 |0,c,_,hb,_=>by
  cases c with
  |nil=>exact⟨by simp[gA],fun h=>absurd rfl h⟩
  |cons x c=>have:=hb x (by simp);omega
 |v+1,c,hd,hb,hp=>by
  have low:(∀x∈c,x≠-((v:Int)+1))->∀x∈c,x<0/\-(v:Int)<=x:=fun h x hx=>by
   have h1:=hb x hx;have h2:=h x hx;omega
  have hI:ZT (-((v:Int)+1))=v:=by unfold ZT;omega
  constructor
  ·rcases List.eq_nil_or_concat c with rfl|⟨c',y,rfl⟩
   ·have:=(XB nm v [] .nil (by simp) .nil).1;unfold gA;split<;>exact List.mem_append.2 (Or.inl this)
   ·rw[List.concat_eq_append] at *;have hd':=List.pairwise_append.1 hd;have hp':=List.pairwise_append.1 hp
    by_cases e:y=-((v:Int)+1)
    ·subst e;have hb':∀x∈c',x<0/\-(v:Int)<=x:=fun x hx=>by
      have h1:=hb x (by simp[hx]);have h2:=hd'.2.2 x hx _ (List.mem_singleton.2 rfl);omega
     have ih:=XB nm v c' hd'.1 hb' hp'.1;have hnm:∀x∈c',nm (ZT x)≠nm v:=fun x hx=>by
      have:=hp'.2.2 x hx _ (List.mem_singleton.2 rfl)
      rwa [hI] at this
     unfold gA
     by_cases h:v≠0/\nm v=nm (v-1)
     ·rw[if_pos h];exact List.mem_append.2 (Or.inr (List.mem_map.2 ⟨c',ih.2 h.1 (fun x hx=>by rw[<-h.2];exact hnm x hx),rfl⟩))
     ·rw[if_neg h];exact List.mem_append.2 (Or.inr (List.mem_map.2 ⟨c',ih.1,rfl⟩))
    ·have hlow:∀x∈c'++[y],x≠-((v:Int)+1):=fun x hx e'=>by
      rcases List.mem_append.1 hx with h|h
      ·have h2:=hd'.2.2 x h y (by simp);have h3:=hb y (by simp);omega
      ·rw[List.mem_singleton] at h;exact e (h▸e')
     have ih:=(XB nm v _ hd (low hlow) hp).1;unfold gA;split<;>exact List.mem_append.2 (Or.inl ih)
  ·intro _ hnm;have hne:∀x∈c,x≠-((v:Int)+1):=fun x hx e=>hnm x hx (by rw[e,hI];rfl);have ih:=XB nm v c hd (low hne) hp;unfold gA
   by_cases h:v≠0/\nm v=nm (v-1)
   ·rw[if_pos h];exact ih.2 h.1 (fun x hx=>by have:=hnm x hx;rw[<-h.2];exact this)
   ·rw[if_neg h];exact ih.1
theorem zjk{α:Type}[DecidableEq α](nm:Nat->α){v:Nat}{l:List (List Int)}(hv:v<=12)(hl:qs v l)(hn:(xS nm v).length<=8)(h2:∀i j,i<j->j<v->nm i=nm j->[-((i:Int)+1),-((j:Int)+1)]∈l){r:Res}(hr:Run v l st0 r):r≠.limit:=by
 refine zma (F:=(gA nm v).1) (by omega) hl (zpb (J2 nm v hv hn)) (fun s hg hi hq=>?_) hr (Kt v) (zd9 l) (zog l) (zn0 _);refine(XB nm v _ (zfV hi hq) (JA hg hi) ?_).1;have hdn:=zfV hi hq;unfold KC zA at hdn;rw[List.pairwise_map,List.pairwise_iff_getElem] at hdn;unfold zA;rw[List.pairwise_map,List.pairwise_iff_getElem];intro i j hi' hj' hij he;have hlt:=hdn i j hi' hj' hij;have b1:=JA hg hi (-(s.decs[i]).1) (List.mem_map.2 ⟨_,List.getElem_mem hi',rfl⟩);have b2:=JA hg hi (-(s.decs[j]).1) (List.mem_map.2 ⟨_,List.getElem_mem hj',rfl⟩);have e1:((ZT (-(s.decs[i]).1):Nat):Int)+1=(s.decs[i]).1:=by unfold ZT;omega
 have e2:((ZT (-(s.decs[j]).1):Nat):Int)+1=(s.decs[j]).1:=by unfold ZT;omega
 have hcl:=h2 _ _ (by omega) (by omega) he;rw[e1,e2] at hcl;exact zjd hi (fun k d hk=>(hg.ds k d hk).1) hq hij hj' hcl (fun x hx=>by
  simp only[List.mem_cons,List.not_mem_nil,or_false] at hx;exact hx)
end
section
open Go.RowKit Go.Deep Sv
def Yw(w:World)(a:Option Addr)(bs:List Bool):Prop:=∀i,i<bs.length->∃ad:Addr,a=some ad/\ad.block<w.heap.size/\w.cell? (ad.add i)=some (.bool (bs.getD i false))
theorem Yw.below{B:Nat}{w w':World}{a:Option Addr}{bs:List Bool}(h:Yw w a bs)(hb:Below B w w')(hB:w.heap.size<=B):Yw w' a bs:=fun i hi=>by
 obtain⟨ad,h1,h2,h3⟩:=h i hi;exact⟨ad,h1,Nat.lt_of_lt_of_le h2 hb.size,(hb.cell (p:=ad.add i) (by rw[xD];omega)).trans h3⟩
theorem zjT(b3:Nat)(a:Option Addr)(bs:List Bool)(cap:Nat)(n:Int)(w:World)(hc:w.cell? ⟨b3,0,none⟩=some (.slice a bs.length cap))(hb:Yw w a bs) :
  zC 127 #[.int .i64 n,.pointer (some ⟨b3,0,none⟩)] w fun e w'=>e=.returned (.bool (yN bs n))/\w'=w:=by
 by_cases h1:n=-1
 ·subst h1;have hT:yN bs (-1)=true:=by simp[yN]
  rw[hT];go_enter Tryz.func127,Tryz.ntmps127;go_wp2;go_ret;exact⟨rfl,rfl⟩
 ·by_cases h0:0<=n
  ·obtain⟨k,rfl⟩:=Int.eq_ofNat_of_zero_le h0
   by_cases hk:k<bs.length
   ·obtain⟨ad,rfl,hlt,hcell⟩:=hb k hk;have hT:yN bs (k:Int)=bs.getD k false:=by simp[yN]
    rw[hT];generalize bs.getD k false=bb at *;have hki:(k:Int)<(bs.length:Int):=by omega
    obtain⟨ab,ao,asp⟩:=ad;clear hb hT;go_enter Tryz.func127,Tryz.ntmps127;go_wp2;go_ret;exact⟨rfl,rfl⟩
   ·have hT:yN bs (k:Int)=false:=by simp[yN,List.getD_eq_getElem?_getD,List.getElem?_eq_none (show bs.length<=k by omega)]
    rw[hT];have hki:¬(k:Int)<(bs.length:Int):=by omega
    clear hb hT;go_enter Tryz.func127,Tryz.ntmps127;go_wp2;go_ret;exact⟨rfl,rfl⟩
  ·have hT:yN bs n=false:=by simp[yN,h1,h0]
   have hq:(n==-1)=false:=by simpa using h1
   rw[hT];clear hb hT;go_enter Tryz.func127,Tryz.ntmps127;go_wp2;go_ret;exact⟨rfl,rfl⟩
theorem zhE(c:List Int)(a:Option Addr)(cap:Nat)(w:World)(hp:PlA a)(hi:qH 0 w a c)(hl:c.length<=100000)(h0:a=none->c=[]) :
  zC 128 #[.slice a c.length cap] w fun e w'=>∃a' cap',e=.returned (.slice a' c.length cap')/\c.length<=cap'/\cap'<=9223372036854775807/\qH 0 w' a' c/\zB w w':=by
 obtain⟨i0,hin,hz0,hz1,hz2⟩:=info_parts Zt;cases a with
 |none =>obtain rfl:=h0 rfl;exact(AnyE.slices_Clone_nil Tryz.clnCl 0 cap w).mono fun e w' ⟨he,hw⟩=>⟨none,0,he,Nat.le_refl _,by omega,(fun i hi=>by simp at hi),by rw[hw];exact Below.refl _ _⟩
 |some ad =>
  obtain⟨b,o,sp⟩:=ad;obtain rfl:sp=none:=hp _ rfl;refine(AnyE.slices_Clone Tryz.clnCl i0 _ 1 8 hin hz0 hz1 hz2 rfl (by decide) Tryz.sizeOf3 b o c.length cap (icells c) w (by rw[xT];omega) (by unfold maxLen;omega) (by omega) (fun j u hu=>?_) (fun u hu=>by obtain⟨y,_,rfl⟩:=List.mem_map.1 hu;rfl)).mono fun e w' ⟨v',he,h1,_,h3⟩=>?_
  ·have hj:j<c.length:=by have:=(List.getElem?_eq_some_iff.1 hu).1;rwa [xT] at this
   rw[ZE c j hj] at hu;obtain⟨ad,h1,_,_,h4⟩:=hi j hj;cases h1;rw[<-hu]
   rwa [add_plain] at h4
  ·obtain⟨a',cap',rfl,h4,h5,h6,_⟩:=QV (l:=c) h1;exact⟨a',cap',he,h4,h5,h6,h3⟩
def Zb(P:List (Int × List Int))(bs:List Bool)(i:Nat):List (List Int):=qm (P.take i) bs
theorem zhj(P:List (Int × List Int))(bs:List Bool)(i:Nat)(h:i<P.length):Zb P bs (i+1)=Zb P bs i++(if yN bs (P.getD i default).1 then [(P.getD i default).2] else []):=by
 unfold Zb qm;rw[List.take_add_one,List.getElem?_eq_getElem h,List.filter_append,List.map_append,List.getD_eq_getElem?_getD,List.getElem?_eq_getElem h];congr 1;simp only[Option.toList_some,Option.getD_some,List.filter_cons,List.filter_nil];split<;>simp
theorem zdC(P:List (Int × List Int))(bs:List Bool)(i:Nat):(Zb P bs i).length<=i:=by
 unfold Zb qm;rw[List.length_map];exact Nat.le_trans (List.length_filter_le _ _) (List.length_take_le _ _)
def CO(B:Nat)(W:World)(v:Value)(K:List (List Int)):Prop:=∃cs,W.ownsRow B 127 1 v K.length cs/\qe 0 W cs K
theorem CO.new{B:Nat}{W W':World}{v:Value}{K:List (List Int)}(h:CO B W v K)(hb:zB W W'):CO B W' v K:=by
 obtain⟨cs,h1,h2⟩:=h;exact⟨cs,zU h1 hb,h2.kp (Kp.new hb)⟩
theorem CO.app{B:Nat}{W w7:World}{v v':Value}{K:List (List Int)}{c:List Int}{a:Option Addr}{cap:Nat}{cs:List Value}(hB:B<=W.heap.size)(hrow:W.ownsRow B 127 1 v K.length cs)(hck:qe 0 W cs K)
  (hc1:c.length<=cap) (hc2:cap<=9223372036854775807) (hi:qH 0 W a c)
  (hown:w7.ownsRow B 127 1 v' (K.length+1) (cs++[.slice a c.length cap])) (hg:(W.alloc (.cells #[.slice a c.length cap] 127)).grownBy w7 v.ownBlock):CO B w7 v' (K++[c])/\Below B W w7:=by
 have hbn:=below_new W (.cells #[.slice a c.length cap] 127);have hk:Kp 0 (W.alloc (.cells #[.slice a c.length cap] 127)) w7:=Kp.grown (ownsRow_base (zU hrow hbn) (Nat.zero_le _)) hg (by decide);have hk3:=(Kp.new (B:=0) hbn).trans hk;exact⟨⟨_,by simpa using hown,(hck.kp hk3).snoc hc1 hc2 (hi.kp hk3)⟩,(hbn.mono hB).grown hg (by simp;omega) (fun k hk=>(hrow.lt k hk).1)⟩
theorem RS.at{B:Nat}{W:World}{cv fv:Value}{P:List (Int × List Int)}(h:RS B W cv fv (P.map Prod.snd) (P.map Prod.fst))(i:Nat)(hi:i<P.length) :
  ∃cg cc fg fc a cap,cv=.slice (some ⟨cg,0,none⟩) P.length cc/\fv=.slice (some ⟨fg,0,none⟩) P.length fc/\W.cell? ⟨cg,i,none⟩=some (.slice a (P.getD i default).2.length cap)/\W.cell? ⟨fg,i,none⟩=some (.int .i64 (P.getD i default).1)/\qH 0 W a (P.getD i default).2/\PlA a:=by
 obtain⟨cs,h1,h2,_,h4⟩:=h.crow;have h3:=h.frow;obtain⟨cg,cc,e1,_,hc1⟩:=(zx h1).cells (by rw[List.length_map];omega);obtain⟨fg,fc,e2,_,hc2⟩:=(zx h3).cells (by rw[List.length_map];omega);obtain⟨a,cap,q1,_,_,q4⟩:=h2.2 i (by simpa using hi);have g1:(P.map Prod.snd).getD i []=(P.getD i default).2:=by simp[List.getD_eq_getElem?_getD,hi]
 have g2:(P.map Prod.fst).getD i 0=(P.getD i default).1:=by simp[List.getD_eq_getElem?_getD,hi]
 rw[g1] at q1 q4;refine⟨cg,cc,fg,fc,a,cap,by simpa using e1,by simpa using e2,hc1 i _ q1,hc2 i _ (by rw[ZE _ _ (by simpa using hi),g2]),q4,?_⟩;exact h4 _ (List.mem_of_getElem? q1) _ _ _ rfl
end
section
open Go.RowKit Go.Deep Sv
theorem zpg(B:Nat)(n:Int)(P:List (Int × List Int))(cv fv:Value)(bs:List Bool)(la:Option Addr)(lc:Nat)(w:World)(hr:RS B w cv fv (P.map Prod.snd) (P.map Prod.fst))(hb:Yw w la bs)(hP:P.length<=10000)(hc:∀x∈P,x.2.length<=1000) :
  zC 80 #[.agg #[.int .i64 n,cv,fv],.slice la bs.length lc] w fun e w'=>∃v',e=.returned v'/\CO w.heap.size w' v' (qm P bs)/\zB w w':=by
 obtain⟨ca,cc,rfl,-⟩:∃a c,cv=.slice a P.length c/\True:=by obtain⟨cs,h1,_⟩:=hr.crow;obtain⟨a,c,e,_⟩:=(zx h1).form;exact⟨a,c,by simpa using e,trivial⟩
 obtain⟨fa,fc,rfl,-⟩:∃a c,fv=.slice a P.length c/\True:=by obtain⟨a,c,e,_⟩:=(zx hr.frow).form;exact⟨a,c,by simpa using e,trivial⟩
 obtain⟨ic,hic,hc0',hc1',hc2'⟩:=info_parts X3;have hb1:=below_new w (.cells #[.int .i64 n,.slice ca P.length cc,.slice fa P.length fc] 26);have hb2:=below_new (w.alloc (.cells #[.int .i64 n,.slice ca P.length cc,.slice fa P.length fc] 26)) (.cells #[.slice la bs.length lc] 165);have k2:=(Blk.new w 26 #[.int .i64 n,.slice ca P.length cc,.slice fa P.length fc]).alloc (.cells #[.slice la bs.length lc] 165);have k3:=Blk.new (w.alloc (.cells #[.int .i64 n,.slice ca P.length cc,.slice fa P.length fc] 26)) 165 #[.slice la bs.length lc];rw[World.size_alloc] at k3;have hbb:=zT hb1 hb2;have HR:=zH ((hr.new hb1).new hb2);have HBO:=zH (hb.below hbb zN);have HBB:=zH hbb;have HC:=zH hc;have HEND:Hid (Zb P bs P.length=qm P bs):=by show _=_;unfold Zb;rw[List.take_length]
 generalize qm P bs=RES at *;clear hb1 hb2 hr hb hbb hc;go_enter Tryz.func80,Tryz.ntmps80;go_upto_region 1 with fail;generalize (w.alloc (.cells #[.int .i64 n,.slice ca P.length cc,.slice fa P.length fc] 26)).alloc (.cells #[.slice la bs.length lc] 165)=W0 at *;have c1:_=some (Value.slice ca P.length cc):=k2.cell 1;go_wp2_with fail;go_loopw [6,13] (fun oV iV wr=>∃(i:Nat),i<=P.length/\iV=.int .i64 i/\CO W0.heap.size wr oV (Zb P bs i)/\zB W0 wr) (fun _ iV _=>P.length-(intOf iV).toNat)
 case atStart=>exact⟨0,Nat.zero_le _,rfl,⟨[],World.ownsRow_nil _ _ _ _,qe.nil⟩,Below.refl _ _⟩
 case round =>
  obtain⟨i,hil,rfl,hco,hbw⟩:=hrel;obtain⟨ca0,cc0,rfl,-⟩:∃a c,_=Value.slice a (Zb P bs i).length c/\True:=by obtain⟨cs,h1,_⟩:=hco;obtain⟨a,c,e,_⟩:=(zx h1).form;exact⟨a,c,e,trivial⟩
  by_cases hlt:i<P.length
  ·obtain⟨cg,cc',fg,fc',a,cap,e1,e2,q1,q2,q3,q4⟩:=(HR.out.new hbw).at i hlt;simp at e1 e2;obtain⟨rfl,rfl⟩:=e1;obtain⟨rfl,rfl⟩:=e2;have HSU:=zH (zhj P bs i hlt);have hxl:=HC.out (P.getD i default) (by rw[List.getD_eq_getElem?_getD,List.getElem?_eq_getElem hlt];exact List.getElem_mem hlt);have hol:=zdC P bs i;have k2':=k2.below hbw k2.lt;have k3':=k3.below hbw k3.lt;have d2:wr.cell? ⟨w.heap.size,2,none⟩=some (.slice (some ⟨fg,0,none⟩) P.length fc):=k2'.cell 2;have d3:wr.cell? ⟨w.heap.size+1,0,none⟩=some (.slice la bs.length lc):=k3'.cell 0;obtain⟨f,hfe⟩:∃f,(P.getD i default).1=f:=⟨_,rfl⟩;obtain⟨c,hce⟩:∃c,(P.getD i default).2=c:=⟨_,rfl⟩;rw[hfe] at q2;rw[hce] at q1 q3 hxl;rw[hfe,hce] at HSU;have HTO:=zH (zjT (w.heap.size+1) la bs lc f wr d3 (HBO.out.below hbw zN));have HCL:=zH (zhE c a cap wr q4 q3 (by omega) (fun e=>by cases c with|nil=>rfl|cons y c=>obtain⟨ad,h,_⟩:=q3 0 (by simp);rw[e] at h;cases h));have HCO:=zH hco;have HBW:=zH hbw;have hws:=hbw.size;have hii0:(0:Int)<=(i:Int):=by omega
   have hii1:(i:Int)<(P.length:Int):=by omega
   clear hfe hce q3 q4 k2' k3' hco hbw d3;cases htd:yN bs f with
   |true =>
    rw[htd] at HTO HSU;go_wp2_with fail;refine HTO.out.mono ?_;rintro e w' ⟨rfl,hw'⟩;rw[hw'];clear hw';clear w';clear HTO q1 q2 d2;go_wp2_with fail;refine HCL.out.mono ?_;rintro e w4 ⟨a',cap',rfl,t1,t2,t3,hb4⟩;obtain⟨cs,hrow,hck⟩:=HCO.out.new hb4;have HROW:=zH hrow;have HCK:=zH hck;have HT3:=zH t3;have HB4:=zH hb4;have hs4:=hb4.size;clear HCL HCO hrow hck t3 hb4;go_wp2_with (at_builtin;refine wpList_append_own_at _ rfl _ _ 23 rfl W0.heap.size 127 ic (.slice none 0 0) 1 24 Tryz.underlying23 hic hc0' hc1' hc2' rfl (by decide) _ _ _ rfl (HROW.out.alloc _) ⟨w4.heap.size,0,none⟩ 1 1 [.slice a' c.length cap'] rfl rfl ?c1 ?c2 ?c3 ?c4 ?c5 ?_)
    case c1=>exact zbb _ _ _
    case c2=>intro u hu;rw[List.mem_singleton] at hu;subst hu;rfl
    case c3=>unfold maxLen;omega
    case c4=>omega
    case c5=>simp;omega
    intro v7 w7 hown7 hgrow7 _ hloc7;obtain⟨hco7,hb7⟩:=CO.app (by omega) HROW.out HCK.out t1 t2 HT3.out hown7 hgrow7;have HC7:Hid (CO W0.heap.size w7 v7 (Zb P bs (i+1))):=by show CO _ _ _ _;rw[HSU.out,if_pos (by simp)];exact hco7
    have HB7:Hid (zB W0 w7):=(HBW.out.trans (HB4.out.mono hws)).trans hb7;clear hown7 hgrow7 hloc7 hco7 hb7 HROW HCK HT3 HB4 HSU;go_wp2;go_roundw
    case rel=>exact⟨i+1,hlt,by go_num,HC7.out,HB7.out⟩
    case measure=>simp[intOf];omega
   |false =>
    rw[htd] at HTO HSU;go_wp2_with fail;refine HTO.out.mono ?_;rintro e w' ⟨rfl,hw'⟩;rw[hw'];clear hw';clear w';have HC7:Hid (CO W0.heap.size wr (.slice ca0 (Zb P bs i).length cc0) (Zb P bs (i+1))):=by show CO _ _ _ _;rw[HSU.out,if_neg (by simp),List.append_nil];exact HCO.out
    clear HTO q1 q2 d2 HCL HCO HSU;go_wp2;go_roundw
    case rel=>exact⟨i+1,hlt,by go_num,HC7.out,HBW.out⟩
    case measure=>simp[intOf];omega
  ·obtain rfl:i=P.length:=by omega
   have HCO:=zH hco;have HBW:=zH hbw;clear hco hbw;go_wp2;go_ret;obtain⟨cs,g1,g2⟩:=HCO.out;rw[<-HEND.out];exact⟨_,rfl,⟨cs,ownsRow_base g1 HBB.out.size,g2⟩,zT HBB.out HBW.out⟩
end
section
open Go.RowKit Go.Deep
theorem zpE{W0 w:World}{ad:Addr}{l:List (List Int)}(h:yr W0 (some ad) l)(hb:zB W0 w):∃cs:List Value,qe W0.heap.size w cs l/\∀j u,cs[j]?=some u->ad.block<W0.heap.size/\w.cell? (ad.add j)=some u:=by
 have each:∀i,i<l.length->∃u:Value,(∃(a:Option Addr) (cap:Nat),u=.slice a (l.getD i []).length cap/\(l.getD i []).length<=cap/\cap<=9223372036854775807/\qH W0.heap.size w a (l.getD i []))/\ad.block<W0.heap.size/\w.cell? (ad.add i)=some u:=by
  intro i hi;obtain⟨ad',a',cap,e,h1,h2,h3,h4,h5⟩:=h i hi;obtain rfl:=Option.some.inj e;exact⟨_,⟨a',cap,rfl,h3,h4,qH.of h5 hb⟩,h1,(hb.cell (by rw[xD];exact h1)).trans h2⟩
 obtain⟨q,hq⟩:=choose_lt (fun i hi=>each i hi);have hlen:((List.range l.length).map q).length=l.length:=by simp
 have hat:∀i,i<l.length->((List.range l.length).map q)[i]?=some (q i):=fun i hi=>by simp[hi]
 refine⟨(List.range l.length).map q,⟨hlen,fun i hi=>?_⟩,fun j u hj=>?_⟩
 ·obtain⟨a,cap,e,h1,h2,h3⟩:=(hq i hi).1;exact⟨a,cap,by rw[hat i hi,e],h1,h2,h3⟩
 ·have hj':j<l.length:=by have:=(List.getElem?_eq_some_iff.1 hj).1;rw[hlen] at this;exact this
  rw[hat j hj'] at hj;obtain rfl:=Option.some.inj hj;exact(hq j hj').2
theorem zbf(W0:World)(l:List (List Int))(a:Option Addr)(cap:Nat)(hn:a=none->cap=0)(hl:l.length<=100000)(w:World)(hI:yr W0 a l)(hb:zB W0 w) :
  zC 119 #[.slice a l.length cap] w fun e w'=>∃va vc,e=.returned (.slice va l.length vc)/\(∃cs,w'.ownsRow w.heap.size 127 1 (.slice va l.length vc) l.length cs/\qe W0.heap.size w' cs l)/\zB w w':=by
 obtain⟨ic,hic,hc0,hc1,hc2⟩:=info_parts X3;have hq:=fun (x:Option Addr) (n c:Nat) (W:World)=>Lib.run_eql_slice_nil (P:=Tryz.prog) W 23 127 x n c 0 0 Tryz.underlying23;cases a with
 |none =>
  obtain rfl:cap=0:=hn rfl;obtain rfl:l=[]:=by
   cases l with
   |nil=>rfl
   |cons c l=>obtain⟨ad,_,_,e,_⟩:=hI 0 (by simp);cases e
  have fin:zC 119 #[.slice none 0 0] w fun e w'=>e=.returned (.slice none 0 0)/\w=w':=by
   go_enter Tryz.func119,Tryz.ntmps119;go_wp2;go_ret;exact⟨rfl,rfl⟩
  exact fin.mono fun e w' ⟨he,hw⟩=>⟨none,0,he,⟨[],World.ownsRow_nil _ _ _ _,qe.nil⟩,hw▸Below.refl _ _⟩
 |some ad =>
  obtain⟨cs,hck,hcell⟩:=zpE hI hb;have hcl:=hck.1;have hrow:=World.ownsRow_lit (base:=w.heap.size) (e:=127) (size:=1) w #[] 0 zN (by decide) rfl;have hone:=hck.one;have hnews:∀j u,cs[j]?=some u->(w.alloc (.cells #[] 127)).cell? (ad.add j)=some u:=fun j u hu=>by
   obtain⟨h1,h2⟩:=hcell j u hu;rw[World.cell?_alloc_lt _ _ _ (by rw[xD];exact Nat.lt_of_lt_of_le h1 hb.size)];exact h2
  have HCK:=zH hck;have HROW:=zH hrow;have HONE:=zH hone;have HNEWS:=zH hnews;have HCL:=zH hcl;clear hI hck hcell hrow hone hnews hcl hn;generalize hL:l.length=L at *;clear hL;go_enter Tryz.func119,Tryz.ntmps119;go_wp2_with (at_builtin;refine wpList_append_own_at _ rfl _ _ 23 rfl w.heap.size 127 ic (.slice none 0 0) 1 24 Tryz.underlying23 hic hc0 hc1 hc2 rfl (by decide) _ _ _ rfl HROW.out ad L cap cs rfl (by rw[HCL.out,Nat.mul_one]) HNEWS.out HONE.out ?c3 ?c4 ?c5 ?_)
  case c3=>unfold maxLen;omega
  case c4=>omega
  intro v7 w7 hown7 hgrow7 _ _;have hb7:zB w w7:=(below_new w (.cells #[] 127)).grown hgrow7 (by simp) (fun k hk=>by
   simp [Value.ownBlock] at hk;omega)
  have HK:Hid (qe W0.heap.size w7 cs l):=HCK.out.kp (Kp.new hb7);have hown8:w7.ownsRow w.heap.size 127 1 v7 L cs:=by simpa using hown7
  obtain⟨va,vc,rfl,-,-⟩:=row_form hown8;have HO:=zH hown8;have HB7:=zH hb7;clear hown7 hown8 hgrow7 hb7 HROW HNEWS;go_wp2;go_ret;exact⟨_,_,rfl,⟨cs,HO.out,HK.out⟩,HB7.out⟩
end
section
open Go.RowKit Go.Deep
def yW(d:Int × List Int):List Value:=.int .i64 d.1 :: tvl d.2
def zX(ds:List (Int × List Int)):List Value:=ds.flatMap yW
theorem QS(d:Int × List Int):(yW d).length=25:=by simp[yW,qI]
theorem zbi(ds:List (Int × List Int)):(zX ds).length=ds.length*25:=by
 induction ds with
 |nil=>rfl
 |cons d ds ih =>have:zX (d :: ds)=yW d++zX ds:=rfl;rw[this,List.length_append,QS,ih,List.length_cons];omega
theorem Y2(ds:List (Int × List Int))(d:Int × List Int):zX (ds++[d])=zX ds++yW d:=by simp[zX]
theorem Yz{ds:List (Int × List Int)}{k:Nat}{d:Int × List Int}(h:ds[k]?=some d)(j:Nat)(hj:j<25):(zX ds)[k*25+j]?=(yW d)[j]?:=by
 induction ds generalizing k with
 |nil=>simp at h
 |cons e ds ih =>
  have he:zX (e :: ds)=yW e++zX ds:=rfl;rw[he];cases k with
  |zero =>simp at h;subst h;rw[Nat.zero_mul,Nat.zero_add,List.getElem?_append_left (by rw[QS];exact hj)]
  |succ k =>rw[List.getElem?_append_right (by rw[QS];omega),QS,show (k+1)*25+j-25=k*25+j by omega];exact ih (by simpa using h)
structure SAt(B:Nat)(w:World)(sb:Nat)(l:List (List Int))(s:St)(cV dV pV:Value):Prop where
 blk:Blk w sb 226 ([cV]++tvl s.told++[dV,pV]).toArray
 Bsb:B<=sb
 crow:∃cs,w.ownsRow B 127 1 cV (l++s.prf).length cs/\qe B w cs (l++s.prf)
 prow:∃ps,w.ownsRow B 127 1 pV s.prf.length ps/\qe 0 w ps s.prf
 drow:w.ownsRow B 268 25 dV s.decs.length (zX s.decs)
 apart:cV.ownBlock=none\/cV.ownBlock≠pV.ownBlock
section
variable {B sb:Nat} {w w':World} {l:List (List Int)} {s:St} {cV dV pV:Value}
theorem SAt.new(h:SAt B w sb l s cV dV pV)(hb:zB w w'):SAt B w' sb l s cV dV pV:=by
 obtain⟨cs,h1,h2⟩:=h.crow;obtain⟨ps,h3,h4⟩:=h.prow;exact⟨h.blk.below hb h.blk.lt,h.Bsb,⟨cs,zU h1 hb,h2.kp (Kp.new hb)⟩,⟨ps,zU h3 hb,h4.kp (Kp.new hb)⟩,zU h.drow hb,h.apart⟩
theorem SAt.vals(h:SAt B w sb l s cV dV pV):xA w ⟨sb,1,none⟩ s.told:=zmE (pre:=[cV]) (post:=[dV,pV]) h.blk
theorem SAt.c0(h:SAt B w sb l s cV dV pV):w.cell? ⟨sb,0,none⟩=some cV:=by rw[h.blk.cell];rfl
theorem SAt.c25(h:SAt B w sb l s cV dV pV):w.cell? ⟨sb,25,none⟩=some dV:=by
 rw[h.blk.cell,List.getElem?_toArray,List.getElem?_append_right (by simp[qI])];simp[qI]
theorem SAt.c26(h:SAt B w sb l s cV dV pV):w.cell? ⟨sb,26,none⟩=some pV:=by
 rw[h.blk.cell,List.getElem?_toArray,List.getElem?_append_right (by simp[qI])];simp[qI]
theorem SAt.fz(h:SAt B w sb l s cV dV pV)(i:Nat):w.frozen? ⟨sb,i,none⟩=false:=h.blk.frozen i
theorem SAt.rows(h:SAt B w sb l s cV dV pV)(i:Nat)(u:Value):(∃cs,(w.setCell ⟨sb,i,none⟩ u).ownsRow B 127 1 cV (l++s.prf).length cs/\qe B (w.setCell ⟨sb,i,none⟩ u) cs (l++s.prf))/\(∃ps,(w.setCell ⟨sb,i,none⟩ u).ownsRow B 127 1 pV s.prf.length ps/\qe 0 (w.setCell ⟨sb,i,none⟩ u) ps s.prf)/\(w.setCell ⟨sb,i,none⟩ u).ownsRow B 268 25 dV s.decs.length (zX s.decs):=by
 obtain⟨cs,h1,h2⟩:=h.crow;obtain⟨ps,h3,h4⟩:=h.prow;have hk:Kp B w (w.setCell ⟨sb,i,none⟩ u):=Kp.set h.Bsb h.blk (by decide);exact⟨⟨cs,ownsRow_setCell_other h1 (qW h1 h.blk (by decide)) u,h2.kp hk⟩,⟨ps,ownsRow_setCell_other h3 (qW h3 h.blk (by decide)) u,h4.kp hk.zero⟩,ownsRow_setCell_other h.drow (qW h.drow h.blk (by decide)) u⟩
theorem SAt.tell(h:SAt B w sb l s cV dV pV){x:Int}(hx:zO 24 x=true)(hn:-x∉s.told):SAt B (w.setCell ((⟨sb,1,none⟩:Addr).add (yh x)) (.int .i8 (xz x))) sb l ⟨s.told++[x],s.decs,s.prf⟩ cV dV pV:=by
 have hb:=zos (pre:=[cV]) (post:=[dV,pV]) hx hn h.blk;have hr:=h.rows (1+yh x) (.int .i8 (xz x));rw[add_plain] at *;exact⟨hb,h.Bsb,hr.1,hr.2.1,hr.2.2,h.apart⟩
end
end
end Go.Proofs.YtlmmkbnjhilbdaaGreatDoor
