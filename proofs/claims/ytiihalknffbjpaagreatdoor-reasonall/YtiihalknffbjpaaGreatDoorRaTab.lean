/- reason: picked, table. -/
import Derived.Test.YtiihalknffbjpaaGreatDoorClFirstM
import Derived.Shelf.SlicesG.Delete
import Derived.Lib.OwnBridge
set_option maxHeartbeats 4000000
set_option maxRecDepth 100000
namespace Go.Proofs.YtiihalknffbjpaaGreatDoor
section
open Go.RowKit Go.Deep
def zrT(c:List Int):Prop:=c.Pairwise (fun x y=>y<x)
theorem zev{α:Type}[BEq α][LawfulBEq α]:∀{l m:List α},l.Nodup->(∀x∈l,x∈m)->l.length<=m.length
 |[],_,_,_=>Nat.zero_le _
 |a :: l,m,hn,hs=>by
  have hm:=hs a (by simp);have hn':=List.nodup_cons.1 hn;have h1:=zev (l:=l) (m:=m.erase a) hn'.2 (fun x hx =>
   (List.mem_erase_of_ne (fun e:x=a=>hn'.1 (e ▸ hx))).2 (hs x (by simp [hx])))
  rw[List.length_erase_of_mem hm] at h1;have:=List.length_pos_of_mem hm;simp only[List.length_cons];omega
def zqx(l:List (List Int))(t:List Int):Prop :=
 ∀c∈l,(∃x∈c,x∈t)\/∃x∈c,∃y∈c,x≠y/\x∉t/\-x∉t/\y∉t/\-y∉t
def zhG(l:List (List Int))(ds:List (Int × List Int)):Prop :=
 ∀(k:Nat) (d:Int × List Int),ds[k]?=some d->zqx l d.2/\d.1∉d.2/\-d.1∉d.2
structure zrS(F:List (List Int))(s:St):Prop where
 nodup:s.prf.Nodup
 pre:∀k,k<s.decs.length->zbf (s.decs.take (k+1))∉s.prf
 all:∀c∈s.prf,c∈F
theorem zsi(F:List (List Int)):zrS F st0:=⟨.nil,(fun k hk=>by simp[st0] at hk),(fun c hc=>by cases hc)⟩
theorem zrr(l:List (List Int)):zhG l st0.decs:=fun k d h=>by simp[st0] at h
theorem zmP{t:List Int}{l:List (List Int)}(hc:zdH t)(h1:¬(zaF t l).2≠0)(h2:¬0<=(zaF t l).1):zqx l t:=by
 have h:=zda (l:=l) hc;generalize zaF t l=r at *;cases h with
 |none h=>exact h
 |bad hk h=>exact absurd (Int.natCast_nonneg _) h2
 |one hk _ _ _ _=>exact absurd (Int.natCast_nonneg _) h2
theorem zoe{s:St}(hc:zdH s.told){P:List (List Int)}(hs:zqx P s.told)(hm:∀d∈s.decs,d.1∈s.told){x:Int}(h1:-x∉s.told)(T:List Int):zbf (s.decs++[(x,T)])∉P:=by
 intro hP;have e:∀y∈zbf (s.decs++[(x,T)]),y=-x\/-y∈s.told:=by
  intro y hy;unfold zbf at hy;obtain⟨d,hd,rfl⟩:=List.mem_map.1 hy;rcases List.mem_append.1 hd with h|h
  ·exact Or.inr (by rw[Int.neg_neg];exact hm d h)
  ·rw[List.mem_singleton] at h;subst h;exact Or.inl rfl
 rcases hs _ hP with ⟨y,hy,ht⟩|⟨y,hy,z,hz,hne,hy0,hy1,hz0,hz1⟩
 ·rcases e y hy with rfl|h
  ·exact h1 ht
  ·exact hc y ht h
 ·rcases e y hy with rfl|h
  ·rcases e z hz with rfl|h
   ·exact hne rfl
   ·exact hz1 h
  ·exact hy1 h
theorem zgC(ds:List (Int × List Int)):(zbf ds).length=ds.length:=by simp[zbf]
theorem zfq{l:List (List Int)}{s:St}(hi:zmL l s)(hq:zhG l s.decs):zrT (zbf s.decs):=by
 unfold zrT zbf;rw[List.pairwise_map,List.pairwise_iff_getElem];intro i j hi' hj' hij;have ej:s.decs[j]?=some s.decs[j]:=List.getElem?_eq_getElem hj';have hp:=hi.past j _ ej;have hn:=(hq j _ ej).2;have hmi:s.decs[i]∈s.decs.take j:=by
  rw[List.mem_take_iff_getElem];exact⟨i,by omega,rfl⟩
 have hpos:=hi.now.pos s.decs[j] (List.getElem_mem hj');rcases Int.lt_or_le s.decs[i].1 s.decs[j].1 with h|h
 ·omega
 ·rcases hp.low _ hmi s.decs[j].1 hpos h with h2|h2
  ·exact absurd h2 hn.1
  ·exact absurd h2 hn.2
theorem zmh{l:List (List Int)}{s:St}(hi:zmL l s)(hc:∀(k:Nat) (d:Int × List Int),s.decs[k]?=some d->zdH d.2)(hq:zhG l s.decs){i j:Nat}(hij:i<j)(hj:j<s.decs.length){c:List Int}(hcl:c∈l)(he:∀x∈c,x=-(s.decs[i]'(by omega)).1\/x=-(s.decs[j]).1):False:=by
 have ej:s.decs[j]?=some s.decs[j]:=List.getElem?_eq_getElem hj;have hp:=hi.past j _ ej;obtain⟨hst,h0,h1⟩:=hq j _ ej;have hmi:s.decs[i]∈s.decs.take j:=by
  rw[List.mem_take_iff_getElem];exact⟨i,by omega,rfl⟩
 have hm:=hp.mem _ hmi;rcases hst c hcl with ⟨y,hy,ht⟩|⟨y,hy,z,hz,hne,hy0,hy1,hz0,hz1⟩
 ·rcases he y hy with rfl|rfl
  ·exact hc j _ ej _ hm ht
  ·exact h1 ht
 ·rcases he y hy with rfl|rfl
  ·exact hy1 (by rw[Int.neg_neg];exact hm)
  ·rcases he z hz with rfl|rfl
   ·exact hz1 (by rw[Int.neg_neg];exact hm)
   ·exact hne rfl
theorem zkl{v:Nat}{l F:List (List Int)}{s s':St}(hg:zg9 v s)(hi:zmL l s)(hq:zhG l s.decs)(hd:zrS F s)(hin:zbf s.decs∈F)(e:zbG v l s=.inl s'):zhG l s'.decs/\zrS F s':=by
 unfold zbG at e
 by_cases h1:(zaF s.told (l++s.prf)).2≠0
 ·rw[if_pos h1] at e;injection e with e;subst e;exact⟨hq,hd.nodup,hd.pre,hd.all⟩
 ·rw[if_neg h1] at e
  by_cases h2:0<=(zaF s.told (l++s.prf)).1
  ·rw[if_pos h2] at e;cases hl:s.decs.getLast? with
   |none=>rw[hl] at e;cases e
   |some d =>
    rw[hl] at e
    by_cases h3:s.prf.length+1=2000
    ·simp only[if_pos h3] at e;cases e
    ·simp only[if_neg h3] at e;injection e with e;subst e;have hne:s.decs≠[]:=fun e=>by rw[e] at hl;cases hl
     have hpos:=List.length_pos_iff.2 hne;have hnew:zbf s.decs∉s.prf:=by
      have:=hd.pre (s.decs.length-1) (by omega)
      rwa [List.take_of_length_le (by omega)] at this
     refine⟨fun k d' hk=>?_,?_,fun k hk=>?_,fun c hc=>?_⟩
     ·have hk':s.decs.dropLast[k]?=some d':=hk;rw[List.getElem?_dropLast] at hk';split at hk'
      ·exact hq k d' hk'
      ·cases hk'
     ·show (s.prf++[zbf s.decs]).Nodup;rw[List.nodup_append];refine⟨hd.nodup,by simp,fun a ha b hb=>?_⟩;rw[List.mem_singleton] at hb;subst hb;exact fun e=>hnew (e▸ha)
     ·have hk':k<s.decs.dropLast.length:=hk;rw[List.length_dropLast] at hk';show zbf (s.decs.dropLast.take (k+1))∉s.prf++[zbf s.decs];rw[List.dropLast_eq_take,List.take_take,Nat.min_eq_left (by omega),List.mem_append];rintro (h|h)
      ·exact hd.pre k (by omega) h
      ·rw[List.mem_singleton] at h;have:=congrArg List.length h;rw[zgC,zgC,List.length_take] at this;omega
     ·have hc':c∈s.prf++[zbf s.decs]:=hc;rcases List.mem_append.1 hc' with h|h
      ·exact hd.all c h
      ·rw[List.mem_singleton] at h;subst h;exact hin
  ·rw[if_neg h2] at e
   by_cases h3:zbs v s.told<0
   ·rw[if_pos h3] at e;cases e
   ·rw[if_neg h3] at e;injection e with e;subst e;have hst:=zmP hg.cons h1 h2;rcases zbY (v:=v) (told:=s.told) with ⟨h4,_⟩|⟨k,h4,hk,h5,_⟩
    ·omega
    ·obtain⟨n1,n2⟩:=zdb.1 h5;rw[h4];refine⟨fun j d hj=>?_,hd.nodup,fun j hj=>?_,hd.all⟩
     ·have hj':(s.decs++[((k:Int)+1,s.told)])[j]?=some d:=hj;rw[List.getElem?_append] at hj';split at hj'
      ·exact hq j d hj'
      ·rename_i hge;have hjl:j-s.decs.length=0:=by
        rcases Nat.eq_zero_or_pos (j-s.decs.length) with h|h
        ·exact h
        ·rw[List.getElem?_eq_none (by simp;omega)] at hj';cases hj'
       rw[hjl] at hj';simp at hj';subst hj';exact⟨fun c hc=>hst c (List.mem_append.2 (Or.inl hc)),n1,n2⟩
     ·have hj':j<(s.decs++[((k:Int)+1,s.told)]).length:=hj;simp only[List.length_append,List.length_singleton] at hj';show zbf ((s.decs++[((k:Int)+1,s.told)]).take (j+1))∉s.prf
      by_cases hjl:j=s.decs.length
      ·rw[List.take_of_length_le (by simp;omega)];exact zoe hg.cons (fun c hc=>hst c (List.mem_append.2 (Or.inr hc))) hi.now.mem n2 s.told
      ·rw[List.take_append_of_le_length (by omega)];exact hd.pre j (by omega)
theorem zgo{v:Nat}{l F:List (List Int)}(hv:v<=24)(hl:zbT v l)(hF:F.length<2000)(hin:∀s,zg9 v s->zmL l s->zhG l s.decs->zbf s.decs∈F){s:St}{r:Res}(hr:Run v l s r):zg9 v s->zmL l s->zhG l s.decs->zrS F s->r≠.limit:=by
 induction hr with
 |@done s r h =>
  intro hg hi hq hd hlim;subst hlim;unfold zbG at h
  by_cases h1:(zaF s.told (l++s.prf)).2≠0
  ·rw[if_pos h1] at h;cases h
  ·rw[if_neg h1] at h
   by_cases h2:0<=(zaF s.told (l++s.prf)).1
   ·rw[if_pos h2] at h;cases hlast:s.decs.getLast? with
    |none=>rw[hlast] at h;cases h
    |some d =>
     rw[hlast] at h
     by_cases h3:s.prf.length+1=2000
     ·have:=zev hd.nodup hd.all;have hlt:=hd.nodup;have hne:s.decs≠[]:=fun e=>by rw[e] at hlast;cases hlast
      have hpos:=List.length_pos_iff.2 hne;have hnew:zbf s.decs∉s.prf:=by
       have:=hd.pre (s.decs.length-1) (by omega)
       rwa [List.take_of_length_le (by omega)] at this
      have h4:=zev (l:=zbf s.decs :: s.prf) (m:=F) (List.nodup_cons.2 ⟨hnew,hd.nodup⟩) (fun c hc=>by
       rcases List.mem_cons.1 hc with rfl|h
       ·exact hin s hg hi hq
       ·exact hd.all c h)
      simp only[List.length_cons] at h4;omega
     ·simp only[if_neg h3] at h;cases h
   ·rw[if_neg h2] at h
    by_cases h3:zbs v s.told<0
    ·rw[if_pos h3] at h;cases h
    ·rw[if_neg h3] at h;cases h
 |@go s s' r h _ ih =>intro hg hi hq hd;obtain⟨q1,q2⟩:=zkl hg hi hq hd (hin s hg hi hq) h;exact ih (zb6 hv hl hg h).1 (zio hl hg hi h) q1 q2
theorem zgb{v:Nat}{l:List (List Int)}{s:St}(hg:zg9 v s)(hi:zmL l s):∀x∈zbf s.decs,x<0/\-(v:Int)<=x:=by
 intro x hx;have h1:=zgH hg x hx;rw[zaq] at h1;unfold zbf at hx;obtain⟨d,hd,rfl⟩:=List.mem_map.1 hx;have:=hi.now.pos d hd;omega
end
section
open Go.RowKit Go.Deep Sv
def gA{α:Type}[DecidableEq α](nm:Nat->α):Nat->List (List Int) × List (List Int)
 |0=>([[]],[])
 |v+1=>if v≠0/\nm v=nm (v-1) then ((gA nm v).1++(gA nm v).2.map (·++[-((v:Int)+1)]),(gA nm v).2)
  else ((gA nm v).1++(gA nm v).1.map (·++[-((v:Int)+1)]),(gA nm v).1)
def zdF{α:Type}[DecidableEq α](nm:Nat->α)(v:Nat):List Nat:=(List.range v).filter fun i=>decide (¬(i≠0/\nm i=nm (i-1)))
def zds:Nat->Nat->Nat->Nat->Bool
 |0,_,a,_=>decide (a<2000)
 |n+1,k,a,b=>decide (a<2000)&&zds n k (a+b) b&&(match k with|0=>true|k+1=>zds n k (a+a) a)
theorem zj1:zds 12 8 1 0=true:=by decide +kernel
theorem zja:∀{n k a b:Nat},zds n k a b=true->a<2000
 |0,_,_,_,h=>by simpa[zds] using h
 |n+1,k,a,b,h=>by simp only[zds,Bool.and_eq_true,decide_eq_true_eq] at h;exact h.1.1
theorem zib{α:Type}[DecidableEq α](nm:Nat->α):∀v,v<=12->(zdF nm v).length<=8->zds (12-v) (8-(zdF nm v).length) (gA nm v).1.length (gA nm v).2.length=true
 |0,_,_=>zj1
 |v+1,hv,hn=>by
  have e:zdF nm (v+1)=zdF nm v++(if ¬(v≠0/\nm v=nm (v-1)) then [v] else []):=by
   unfold zdF;rw[List.range_succ,List.filter_append];congr 1
   by_cases h:v≠0/\nm v=nm (v-1)
   ·simp[h]
   ·rw[if_pos h,List.filter_cons,if_pos (decide_eq_true h),List.filter_nil]
  have e12:12-v=(12-(v+1))+1:=by omega
  by_cases h:v≠0/\nm v=nm (v-1)
  ·rw[if_neg (by simpa using h),List.append_nil] at e;rw[e] at hn ⊢;have ih:=zib nm v (by omega) hn;rw[e12] at ih;simp only[zds,Bool.and_eq_true,decide_eq_true_eq] at ih;unfold gA;rw[if_pos h];simp only[List.length_append,List.length_map];exact ih.1.2
  ·rw[if_pos h] at e;rw[e,List.length_append] at hn ⊢;have ih:=zib nm v (by omega) (by simp at hn;omega);rw[e12] at ih;simp only[zds,Bool.and_eq_true,decide_eq_true_eq] at ih;unfold gA;rw[if_neg h];simp only[List.length_append,List.length_map,List.length_singleton];have e8:8-(zdF nm v).length=(8-((zdF nm v).length+1))+1:=by simp at hn;omega
   rw[e8] at ih;exact ih.2
def zfi(x:Int):Nat:=(-x-1).toNat
theorem zgG{α:Type}[DecidableEq α](nm:Nat->α):∀(v:Nat) (c:List Int),zrT c->(∀x∈c,x<0/\-(v:Int)<=x)->c.Pairwise (fun x y=>nm (zfi x)≠nm (zfi y)) ->
  c∈(gA nm v).1/\(v≠0->(∀x∈c,nm (zfi x)≠nm (v-1))->c∈(gA nm v).2)
 |0,c,_,hb,_=>by
  cases c with
  |nil=>exact⟨by simp[gA],fun h=>absurd rfl h⟩
  |cons x c=>have:=hb x (by simp);omega
 |v+1,c,hd,hb,hp=>by
  have low:(∀x∈c,x≠-((v:Int)+1))->∀x∈c,x<0/\-(v:Int)<=x:=fun h x hx=>by
   have h1:=hb x hx;have h2:=h x hx;omega
  have hI:zfi (-((v:Int)+1))=v:=by unfold zfi;omega
  constructor
  ·rcases List.eq_nil_or_concat c with rfl|⟨c',y,rfl⟩
   ·have:=(zgG nm v [] .nil (by simp) .nil).1;unfold gA;split<;>exact List.mem_append.2 (Or.inl this)
   ·rw[List.concat_eq_append] at *;have hd':=List.pairwise_append.1 hd;have hp':=List.pairwise_append.1 hp
    by_cases e:y=-((v:Int)+1)
    ·subst e;have hb':∀x∈c',x<0/\-(v:Int)<=x:=fun x hx=>by
      have h1:=hb x (by simp[hx]);have h2:=hd'.2.2 x hx _ (List.mem_singleton.2 rfl);omega
     have ih:=zgG nm v c' hd'.1 hb' hp'.1;have hnm:∀x∈c',nm (zfi x)≠nm v:=fun x hx=>by
      have:=hp'.2.2 x hx _ (List.mem_singleton.2 rfl)
      rwa [hI] at this
     unfold gA
     by_cases h:v≠0/\nm v=nm (v-1)
     ·rw[if_pos h];exact List.mem_append.2 (Or.inr (List.mem_map.2 ⟨c',ih.2 h.1 (fun x hx=>by rw[<-h.2];exact hnm x hx),rfl⟩))
     ·rw[if_neg h];exact List.mem_append.2 (Or.inr (List.mem_map.2 ⟨c',ih.1,rfl⟩))
    ·have hlow:∀x∈c'++[y],x≠-((v:Int)+1):=fun x hx e'=>by
      rcases List.mem_append.1 hx with h|h
      ·have h2:=hd'.2.2 x h y (by simp);have h3:=hb y (by simp);omega
      ·rw[List.mem_singleton] at h;exact e (h▸e')
     have ih:=(zgG nm v _ hd (low hlow) hp).1;unfold gA;split<;>exact List.mem_append.2 (Or.inl ih)
  ·intro _ hnm;have hne:∀x∈c,x≠-((v:Int)+1):=fun x hx e=>hnm x hx (by rw[e,hI];rfl);have ih:=zgG nm v c hd (low hne) hp;unfold gA
   by_cases h:v≠0/\nm v=nm (v-1)
   ·rw[if_pos h];exact ih.2 h.1 (fun x hx=>by have:=hnm x hx;rw[<-h.2];exact this)
   ·rw[if_neg h];exact ih.1
theorem zcD{α:Type}[DecidableEq α](nm:Nat->α){v:Nat}{l:List (List Int)}(hv:v<=12)(hl:zbT v l)(hn:(zdF nm v).length<=8)(h2:∀i j,i<j->j<v->nm i=nm j->[-((i:Int)+1),-((j:Int)+1)]∈l){r:Res}(hr:Run v l st0 r):r≠.limit:=by
 refine zgo (F:=(gA nm v).1) (by omega) hl (zja (zib nm v hv hn)) (fun s hg hi hq=>?_) hr (zjT v) (zsC l) (zrr l) (zsi _);refine(zgG nm v _ (zfq hi hq) (zgb hg hi) ?_).1;have hdn:=zfq hi hq;unfold zrT zbf at hdn;rw[List.pairwise_map,List.pairwise_iff_getElem] at hdn;unfold zbf;rw[List.pairwise_map,List.pairwise_iff_getElem];intro i j hi' hj' hij he;have hlt:=hdn i j hi' hj' hij;have b1:=zgb hg hi (-(s.decs[i]).1) (List.mem_map.2 ⟨_,List.getElem_mem hi',rfl⟩);have b2:=zgb hg hi (-(s.decs[j]).1) (List.mem_map.2 ⟨_,List.getElem_mem hj',rfl⟩);have e1:((zfi (-(s.decs[i]).1):Nat):Int)+1=(s.decs[i]).1:=by unfold zfi;omega
 have e2:((zfi (-(s.decs[j]).1):Nat):Int)+1=(s.decs[j]).1:=by unfold zfi;omega
 have hcl:=h2 _ _ (by omega) (by omega) he;rw[e1,e2] at hcl;exact zmh hi (fun k d hk=>(hg.ds k d hk).1) hq hij hj' hcl (fun x hx=>by
  simp only[List.mem_cons,List.not_mem_nil,or_false] at hx;exact hx)
end
section
open Go.RowKit Go.Deep Sv
noncomputable def zmM(l:List (List Int)):Bool:=@decide (∃vals,zhF vals l) (Classical.propDecidable _)
theorem zg8{l:List (List Int)}:zmM l=true↔∃vals,zhF vals l:=by unfold zmM;exact @decide_eq_true_iff _ (Classical.propDecidable _)
theorem zjF{l:List (List Int)}:zmM l=false↔∀vals,¬zhF vals l:=by
 rw[<-Bool.not_eq_true,zg8];exact⟨fun h v hv=>h ⟨v,hv⟩,fun h ⟨v,hv⟩=>h v hv⟩
theorem zij{v:Nat}{l:List (List Int)}{b:Bool}{er:Value}(hv:v<=24)(hl:zbT v l)(hn:∀r,Run v l st0 r->r≠.limit)(h:zqr v l b er):b=zmM l/\er=.nilIface:=by
 obtain⟨r,hr,h⟩:=h;obtain⟨h1,h2⟩:=zqh hv hl hr (zjT v) (zsC l);rcases h with ⟨t,rfl,rfl,rfl⟩|⟨p,rfl,rfl,rfl⟩|⟨rfl,-,-⟩
 ·obtain⟨ds,-,hli,hco,-,hall⟩:=h2 t rfl;refine⟨(zg8.2 ⟨zfd t 24,fun c hc=>?_⟩).symm,rfl⟩;obtain⟨x,hx,ht⟩:=hall c hc;exact⟨x,hx,znp hli hco hv x ht⟩
 ·exact⟨(zjF.2 (h1 p rfl)).symm,rfl⟩
 ·exact absurd rfl (hn _ hr)
end
section
open Go.RowKit Go.Deep Sv
theorem zip:∀(ls:List Ln) (i:Nat) (its out:List It),its.length<=24->za2 ls i its=.ok out->out.length<=24/\∀x∈ls,zay x=0
 |[],i,its,out,h0,h=>by cases h;exact⟨h0,fun x hx=>by cases hx⟩
 |x :: r,i,its,out,h0,h=>by
  rw[za2] at h;split at h
  ·cases h
  ·rename_i hc;have hc':zay x=0:=Decidable.not_not.1 hc;have key:∀its',its'.length<=24->za2 r (i+1) its'=.ok out->out.length<=24/\∀y∈x :: r,zay y=0:=fun its' h1 h2=>by
    obtain⟨g1,g2⟩:=zip r (i+1) its' out h1 h2;exact⟨g1,fun y hy=>by rcases List.mem_cons.1 hy with rfl|hy;exact hc';exact g2 y hy⟩
   split at h
   ·split at h
    ·cases h
    ·split at h
     ·cases h
     ·rename_i h8;exact key _ (by simp;omega) h
   ·exact key _ h0 h
theorem zdc{ls:List Ln}{its:List It}(h:zcr ls=.ok its):its.length<=24/\ls.length<=100/\∀x∈ls,zay x=0:=by
 unfold zcr at h;split at h
 ·cases h
 ·split at h
  ·cases h
  ·rename_i its' hg;split at h
   ·cases h
   ·cases h;obtain⟨h1,h2⟩:=zip ls 0 [] its' (by simp) hg;refine⟨?_,by omega,h2⟩;unfold zbX;rw[List.length_mergeSort];exact h1
theorem zmq{s:ByteArray}{ls:List Ln}{its:List It}(h:zbw s=.ok (ls,its)):zcr ls=.ok its:=by
 unfold zbw at h;split at h
 ·cases h
 ·split at h
  ·cases h
  ·split at h
   ·cases h
   ·cases h
   ·rename_i hn;cases h;exact hn
theorem zfb{x:Ln}(h:zay x=0):x.name.size<=100000/\x.other.size<=100000:=by
 unfold zay at h;split at h
 ·cases h
 ·split at h
  ·cases h
  ·rename_i h5;split at h
   ·cases h
   ·rename_i h6;have hn:zai x.name:=by
     apply Classical.byContradiction;intro hc;exact h5 (Or.inl hc)
    refine⟨by have:=hn.len;omega,?_⟩
    by_cases hp:x.pair
    ·have ho:zai x.other:=by
      apply Classical.byContradiction;intro hc;exact h5 (Or.inr ⟨hp,hc⟩)
     have:=ho.len;omega
    ·have:x.other.size=0:=by
      apply Classical.byContradiction;intro hc;exact h6 ⟨hp,hc⟩
     omega
end
section
open Go.RowKit Go.Deep Sv
theorem zdg:∀(ls:List Ln) (i:Nat) (its out:List It),zaY its<=8->za2 ls i its=.ok out->zaY out<=8
 |[],i,its,out,h0,h=>by cases h;exact h0
 |x :: r,i,its,out,h0,h=>by
  rw[za2] at h;split at h
  ·cases h
  ·split at h
   ·split at h
    ·cases h
    ·split at h
     ·cases h
     ·rename_i hx;exact zdg r (i+1) _ out (by omega) h
   ·exact zdg r (i+1) its out h0 h
theorem ziw:∀(ls:List Ln) (i:Nat) (its:List It),zbi ls i its=none->∀x∈ls,x.pair->x.it∈its
 |[],_,_,_,x,hx,_=>by cases hx
 |y :: r,i,its,h,x,hx,hp=>by
  unfold zbi at h;split at h
  ·cases h
  ·rename_i hy;rcases List.mem_cons.1 hx with rfl|hx
   ·exact Classical.byContradiction fun e=>hy ⟨hp,e⟩
   ·exact ziw r (i+1) its h x hx hp
theorem ziE{ls:List Ln}{its:List It}(h:zcr ls=.ok its):(∀x∈ls,x.pair->x.it∈its)/\∃g:List It,zaY g<=8/\its.Perm g:=by
 unfold zcr at h;split at h
 ·cases h
 ·split at h
  ·cases h
  ·rename_i g hg;split at h
   ·cases h
   ·rename_i hm;cases h;exact⟨ziw ls 0 _ hm,g,zdg ls 0 [] g (by decide) hg,zbK g⟩
def zcK(its:List It)(i:Nat):ByteArray:=(its.getD i default).name
theorem zif{its:List It}(h:Asc its){i j:Nat}(hij:i<j)(hj:j<its.length)(hne:zcK its j≠zcK its (j-1)):zcK its i≠zcK its j:=by
 intro e
 by_cases h1:i=j-1
 ·exact hne (h1▸e.symm)
 ·have a1:=zdG (zii h (i:=i) (j:=j-1) (by omega) (by omega));have a2:=zdG (zii h (i:=j-1) (j:=j) hj (by omega));unfold zcK at *;rcases a2 with a2|a2
  ·exact hne a2.symm
  ·rcases a1 with a1|a1
   ·exact hne (by rw[<-a1,e])
   ·rw[e] at a1;have:=zdi (its.getD j default).name.data.toList (its.getD (j-1) default).name.data.toList;omega
theorem zlq{ls:List Ln}{its:List It}(h:zcr ls=.ok its):(zdF (zcK its) its.length).length<=8:=by
 have ha:=(zhQ h).1;obtain⟨-,g,hg,hp⟩:=ziE h;refine Nat.le_trans ?_ hg;unfold zaY;have hn:((zdF (zcK its) its.length).map (zcK its)).Nodup:=by
  have hlt:∀x∈zdF (zcK its) its.length,x<its.length/\¬(x≠0/\zcK its x=zcK its (x-1)):=fun x hx=>by
   unfold zdF at hx;have:=List.mem_filter.1 hx;exact⟨List.mem_range.1 this.1,of_decide_eq_true this.2⟩
  have hasc:(zdF (zcK its) its.length).Pairwise (·<·):=List.Pairwise.filter _ List.pairwise_lt_range;show List.Pairwise _ _;rw[List.pairwise_map];refine(List.pairwise_iff_getElem.2 fun i j hi hj hij=>?_);have hlt2:=List.pairwise_iff_getElem.1 hasc i j hi hj hij;have hj2:=hlt _ (List.getElem_mem hj);exact zif ha hlt2 hj2.1 (fun e=>hj2.2 ⟨by omega,e⟩)
 have hle:=zev (m:=(g.map It.name).eraseDups) hn (fun x hx=>by
  obtain⟨i,hi,rfl⟩:=List.mem_map.1 hx;unfold zdF at hi;have hil:=List.mem_range.1 (List.mem_filter.1 hi).1;rw[List.mem_eraseDups];refine List.mem_map.2 ⟨its.getD i default,hp.mem_iff.1 ?_,rfl⟩;rw[List.getD_eq_getElem?_getD,List.getElem?_eq_getElem hil];exact List.getElem_mem hil)
 rw[List.length_map] at hle;exact hle
theorem zkV{its:List It}{x:It}(h:x∈its):0<=zaP its x/\zaP its x<its.length:=by
 unfold zaP;cases hf:its.findIdx? (fun y=>decide (x=y)) with
 |none =>rw[List.findIdx?_eq_none_iff] at hf;have:=hf x h;simp at this
 |some i =>rw[List.findIdx?_eq_some_iff_getElem] at hf;obtain⟨hi,_⟩:=hf;exact⟨by simp,by simpa using hi⟩
theorem zfC(its:List It)(nm:ByteArray)(rng:List Span):zeZ its.length ((zaK its nm rng).map fun (k:Nat)=>((k:Int)+1)):=fun x hx=>by
 obtain⟨k,hk,rfl⟩:=List.mem_map.1 hx;have:=zcp its nm rng k hk;rw[zaq];omega
theorem zez{ls:List Ln}{its:List It}(h:zcr ls=.ok its):∀x∈ofL its ls,zeZ its.length x.2/\x.2.length<=48:=by
 intro x hx;have hl:=(zdc h).1;rcases List.mem_append.1 hx with hx|hx
 ·obtain⟨k,hk,hx⟩:=List.mem_flatMap.1 hx;obtain⟨j,hj,hx⟩:=List.mem_flatMap.1 hx;have hk':=List.mem_range.1 hk;have hj':=List.mem_range.1 hj;unfold pr0 at hx;split at hx
  ·rw[List.mem_singleton] at hx;subst hx;refine⟨fun y hy=>?_,by simp⟩;simp only[List.mem_cons,List.not_mem_nil,or_false] at hy;rw[zaq];unfold zaA at hy;rcases hy with rfl|rfl<;>omega
  ·cases hx
 ·obtain⟨n,hn,hx⟩:=List.mem_flatMap.1 hx;have hn':=List.mem_range.1 hn;have hmem:ls.getD n default∈ls:=by rw[List.getD_eq_getElem?_getD,List.getElem?_eq_getElem hn'];exact List.getElem_mem hn'
  have hpair:=(ziE h).1 _ hmem;generalize ls.getD n default=X at *;have l1:=zbI its X.name X.rng;have l2:=zbI its X.other X.rng;unfold zcg at hx;split at hx
  ·rw[List.mem_singleton] at hx;subst hx;exact⟨zfC _ _ _,by simp;omega⟩
  ·split at hx
   ·rename_i hk;rw[List.mem_singleton] at hx;subst hx;have hnb:=zkV (hpair (Or.inl hk));refine⟨fun y hy=>?_,by simp;omega⟩;rcases List.mem_cons.1 hy with rfl|hy
    ·rw[zaq];unfold zaA;omega
    ·exact zfC _ _ _ y hy
   ·split at hx
    ·rename_i hk;obtain⟨k,hk2,rfl⟩:=List.mem_map.1 hx;have hnb:=zkV (hpair (Or.inr hk));have hka:=zcp its X.other X.rng k hk2;refine⟨fun y hy=>?_,by simp⟩;simp only[List.mem_cons,List.not_mem_nil,or_false] at hy;rw[zaq];unfold zaA at hy;rcases hy with rfl|rfl<;>omega
    ·cases hx
theorem zgF(P:List (Int × List Int))(bs:List Bool):(zaC P bs).length<=P.length:=by
 unfold zaC;rw[List.length_map];exact List.length_filter_le _ _
theorem zgj{P:List (Int × List Int)}{bs:List Bool}{c:List Int}(h:c∈zaC P bs):∃x∈P,x.2=c:=by
 unfold zaC at h;obtain⟨x,hx,rfl⟩:=List.mem_map.1 h;exact⟨x,(List.mem_filter.1 hx).1,rfl⟩
theorem zdt{ls:List Ln}{its:List It}(h:zcr ls=.ok its)(bs:List Bool):zbT its.length (zaC (ofL its ls) bs):=fun c hc=>by
 obtain⟨x,hx,rfl⟩:=zgj hc;exact(zez h x hx).1
theorem zi9{ls:List Ln}{its:List It}(h:zcr ls=.ok its)(hP:(ofL its ls).length<=200)(bs:List Bool):(zaX (its.length:Nat) (zaC (ofL its ls) bs)).1=0:=by
 have hl:=(zdc h).1;rw[zhe (by omega) (by omega) (Nat.le_trans (zgF _ _) hP) (fun j hj=>?_)];have hm:(zaC (ofL its ls) bs).getD j []∈zaC (ofL its ls) bs:=by rw[List.getD_eq_getElem?_getD,List.getElem?_eq_getElem hj];exact List.getElem_mem hj
 obtain⟨x,hx,e⟩:=zgj hm;obtain⟨h1,h2⟩:=zez h x hx;rw[<-e];unfold zhy;rw[Bool.or_eq_false_iff];refine⟨by simp;omega,?_⟩;rw[List.any_eq_false];intro y hy;simp[h1 y hy]
theorem zfl(its:List It)(ls:List Ln)(bs:List Bool)(i j:Nat)(hij:i<j)(hj:j<its.length)(e:zcK its i=zcK its j):[-((i:Int)+1),-((j:Int)+1)]∈zaC (ofL its ls) bs:=by
 unfold zaC;refine List.mem_map.2 ⟨(-1,[-((i:Int)+1),-((j:Int)+1)]),List.mem_filter.2 ⟨List.mem_append.2 (Or.inl ?_),by simp[zba]⟩,rfl⟩;refine List.mem_flatMap.2 ⟨j,List.mem_range.2 hj,List.mem_flatMap.2 ⟨i,List.mem_range.2 hij,?_⟩⟩;unfold pr0;unfold zcK at e;rw[if_pos e];simp[zaA]
theorem zji{ls:List Ln}{its:List It}(h:zcr ls=.ok its)(hv:its.length<=12)(bs:List Bool){b:Bool}{er:Value}(hc:zqr its.length (zaC (ofL its ls) bs) b er):b=zmM (zaC (ofL its ls) bs)/\er=.nilIface :=
 zij (by omega) (zdt h bs) (fun _ hr=>zcD (zcK its) hv (zdt h bs) (zlq h) (zfl its ls bs) hr) hc
end
section
open Go.RowKit Go.Deep Sv
def zcJ(ls:List Nat)(set i:Nat):List Nat:=((List.range i).filter fun k=>set.testBit k).map fun k=>ls.getD k 0
def zb1(ls:List Nat)(set:Nat):List Nat:=zcJ ls set ls.length
theorem zjV(ls:List Nat)(set i:Nat):zcJ ls set (i+1)=zcJ ls set i++(if set.testBit i then [ls.getD i 0] else []):=by
 unfold zcJ;rw[List.range_succ,List.filter_append,List.map_append];congr 1;cases h:set.testBit i<;>simp[h]
theorem zhx(ls:List Nat)(set i:Nat):(zcJ ls set i).length<=i:=by
 unfold zcJ;rw[List.length_map];exact Nat.le_trans (List.length_filter_le _ _) (by simp)
theorem zkH{ls:List Nat}{set x:Nat}(h:x∈zb1 ls set):x∈ls:=by
 unfold zb1 zcJ at h;obtain⟨k,hk,rfl⟩:=List.mem_map.1 h;exact zaM (List.mem_range.1 (List.mem_filter.1 hk).1)
theorem zm9(n m:Int)(cv fv:Value)(ls:List Nat)(la:Option Addr)(lc:Nat)(set:Nat)(hset:set<18446744073709551616)(hln:ls.length<=64)(w:World)(hl:zaN w la (zbE ls)) :
  zC 202 #[.agg #[.int .i64 n,cv,fv,.slice la ls.length lc,.int .i64 m],.int .u64 set] w fun e w'=>∃v,e=.returned v/\w'.ownsRow w.heap.size 3 1 v (zbE (zb1 ls set)).length (zaf (zbE (zb1 ls set)))/\zB w w':=by
 obtain⟨i0,hin,hz0,hz1,hz2⟩:=info_parts zbe;have hb1:=zac w (.cells #[.int .i64 n,cv,fv,.slice la ls.length lc,.int .i64 m] 202);have kb:=Blk.new w 202 #[.int .i64 n,cv,fv,.slice la ls.length lc,.int .i64 m];have HL:=zH (hl.below hb1);have HB1:=zH hb1;clear hl hb1;go_enter Tryz.func202,Tryz.ntmps202;go_upto_region 1 with fail;generalize w.alloc (.cells #[.int .i64 n,cv,fv,.slice la ls.length lc,.int .i64 m] 202)=W0 at *;have c3:_=some (Value.slice la ls.length lc):=kb.cell 3;go_wp2_with fail;clear c3 kb;go_loopw [5,11] (fun oV iV wr=>∃i:Nat,i<=ls.length/\iV=.int .i64 i/\wr.ownsRow W0.heap.size 3 1 oV (zbE (zcJ ls set i)).length (zaf (zbE (zcJ ls set i)))/\zB W0 wr) (fun _ iV _=>ls.length-(intOf iV).toNat)
 case atStart=>exact⟨0,Nat.zero_le _,rfl,World.ownsRow_nil _ _ _ _,Below.refl _ _⟩
 case round =>
  obtain⟨i,hi,rfl,hrow,hbw⟩:=hrel;obtain⟨oa,oc,rfl,-⟩:=zaj hrow;have HROW:=zH hrow;have HBW:=zH hbw;have hsz:=hbw.size;have hpl:=zhx ls set i;clear hrow
  by_cases hlt:i<ls.length
  ·have hii0:(0:Int)<=(i:Int):=by omega
   have hii1:(i:Int)<(ls.length:Int):=by omega
   obtain⟨ad,rfl,had,hcell⟩:=HL.out.below hbw i (by simpa[zbE] using hlt);have hxe:(zbE ls).getD i 0=((ls.getD i 0:Nat):Int):=by simp[zbE,List.getD_eq_getElem?_getD,hlt]
   rw[hxe] at hcell;have hs:=zgt set i hset;have HST:=zH (zjV ls set i);generalize ls.getD i 0=x at *;obtain⟨ab,ao,asp⟩:=ad;clear hbw hxe;generalize hL:(zbE (zcJ ls set i)).length=n8 at *;have hn8:n8<=64:=by rw[<-hL];simp[zbE];omega
   have HL8:=zH hL;clear hL;cases hb:set.testBit i with
   |false =>
    rw[hb] at hs HST;simp only[Bool.false_eq_true,if_false,List.append_nil] at HST;have HR8:Hid (wr.ownsRow W0.heap.size 3 1 (.slice oa n8 oc) (zbE (zcJ ls set (i+1))).length (zaf (zbE (zcJ ls set (i+1))))):=by
     show World.ownsRow _ _ _ _ _ _ _;rw[HST.out,HL8.out];exact HROW.out
    clear HST hb;go_wp2;go_roundw
    case rel=>exact⟨i+1,hlt,by go_num,HR8.out,HBW.out⟩
    case measure=>simp[intOf];omega
   |true =>
    rw[hb] at hs HST;simp only[if_true] at HST;clear hb;go_upto_region 6 with fail;go_wp2_with (at_builtin;refine wpList_append_own_at _ rfl _ _ 47 rfl W0.heap.size 3 i0 (.int .i64 0) 1 8 Tryz.underlying47 hin hz0 hz1 hz2 rfl (by decide) _ _ _ rfl (HROW.out.alloc _) ⟨wr.heap.size,0,none⟩ 1 1 [.int .i64 x] rfl rfl ?e1 ?e2 ?e3 ?e4 ?e5 ?_)
    try(case e1=>exact zaQ _ _ _)
    case e2=>first|exact za0 _|rfl
    case e3=>unfold maxLen;omega
    case e4=>omega
    case e5=>first|omega|(simp;omega)
    intro v8 w8 hown8 hgrow8 _ hloc8;have HR8:Hid (w8.ownsRow W0.heap.size 3 1 v8 (zbE (zcJ ls set (i+1))).length (zaf (zbE (zcJ ls set (i+1))))):=by
     show World.ownsRow _ _ _ _ _ _ _;have e:zbE (zcJ ls set i++[x])=zbE (zcJ ls set i)++[(x:Int)]:=by simp[zbE]
     rw[HST.out,e,zao,List.length_append,HL8.out];exact hown8
    have HB8:Hid (zB W0 w8):=(HBW.out.alloc hsz _).grown hgrow8 (by simp;omega) (fun k hk=>(HROW.out.lt k hk).1);obtain⟨v8a,v8c,rfl,-⟩:=zaj hown8;clear hown8 hgrow8 hloc8 HROW HST;go_wp2;go_roundw
    case rel=>exact⟨i+1,hlt,by go_num,HR8.out,HB8.out⟩
    case measure=>simp[intOf];omega
  ·obtain rfl:i=ls.length:=by omega
   clear hbw HL;go_wp2;go_ret;exact⟨_,rfl,zal HROW.out HB1.out.size,zT HB1.out HBW.out⟩
def zde(l:List Bool):List Value:=l.map Value.bool
theorem zhn(l:List Bool)(x:Bool):zde (l++[x])=zde l++[.bool x]:=by simp[zde]
theorem zpx{B:Nat}{w:World}{a:Option Addr}{c:Nat}{l:List Bool}(h:w.ownsRow B 4 1 (.slice a l.length c) l.length (zde l)):zbM w a l:=by
 intro i hi;rcases h.2 with ⟨e,e0⟩|⟨g,cap,cur,e,-,hg,-⟩
 ·omega
 ·injection e with e1 e2 e3;subst e1;have:=h.cellAt i (by omega);refine⟨_,rfl,(Array.getElem?_eq_some_iff.1 hg).1,?_⟩;rw[zau,Nat.zero_add];subst e3;rw[this];simp[zde,List.getD_eq_getElem?_getD,hi]
def zhA(so:Nat->Bool)(k:Nat):List Bool:=(List.range k).map so
theorem zl2(so:Nat->Bool)(k:Nat):zhA so (k+1)=zhA so k++[so k]:=by unfold zhA;rw[List.range_succ,List.map_append];rfl
theorem zdB(so:Nat->Bool)(k:Nat):(zhA so k).length=k:=by simp[zhA]
theorem zpF(B n:Nat)(P:List (Int × List Int))(cv fv:Value)(m:Nat)(ls:List Nat)(la:Option Addr)(lc:Nat)(w:World)(hr:RS B w cv fv (P.map Prod.snd) (P.map Prod.fst))(hl:zaN w la (zbE ls))(hlt:∀x∈ls,x<m)(hm:m<=1000)(hln:ls.length<=10)(hP:P.length<=10000)(hc:∀x∈P,x.2.length<=1000)
  (hck:∀set,(zaX n (zaC P (inF m (zb1 ls set)))).1=0) (so:Nat->Bool) (hso:∀set b er,zqr n (zaC P (inF m (zb1 ls set))) b er->b=so set/\er=.nilIface) :
  zC 123 #[.agg #[.int .i64 n,cv,fv,.slice la ls.length lc,.int .i64 m]] w fun e w'=>∃a c,e=.returned (.tuple #[.slice a (2^ls.length) c,.nilIface])/\zbM w' a (zhA so (2^ls.length))/\zB w w':=by
 obtain⟨i0,hin,hz0,hz1,hz2⟩:=info_parts zeY;have h12:(2:Nat)^ls.length<=1024:=Nat.pow_le_pow_right (n:=2) (j:=10) (by omega) hln;have hsh:IntKind.u64.wrap (2^ls.length)=((2^ls.length:Nat):Int):=by
  rw[IntKind.wrap_u64,show ((2:Int)^ls.length)=((2^ls.length:Nat):Int) by simp];exact Int.emod_eq_of_lt (Int.natCast_nonneg _) (by omega)
 have hb1:=zac w (.cells #[.int .i64 n,cv,fv,.slice la ls.length lc,.int .i64 m] 202);have kb:=Blk.new w 202 #[.int .i64 n,cv,fv,.slice la ls.length lc,.int .i64 m];have HPK:Hid (∀W set,zB w W->set<18446744073709551616->zC 202 #[.agg #[.int .i64 n,cv,fv,.slice la ls.length lc,.int .i64 m],.int .u64 ((set:Nat):Int)] W fun e w'=>∃a c,e=.returned (.slice a (zb1 ls set).length c)/\zaN w' a (zbE (zb1 ls set))/\zB W w'):=fun W set hW hs=>(zm9 (n:Int) (m:Int) cv fv ls la lc set hs (by omega) W (hl.below hW)).mono fun e w' ⟨v',h1,h2,h3⟩=>by
  obtain⟨a,c,rfl,-⟩:=zaj h2;exact⟨a,c,by rw[h1];simp[zbE],zcA h2,h3⟩
 have HCN:Hid (∀W set a c,zB w W->zaN W a (zbE (zb1 ls set))->zR 110 #[.agg #[.int .i64 n,cv,fv,.slice la ls.length lc,.int .i64 m],.slice a (zb1 ls set).length c] W (.tuple #[.bool (so set),.nilIface])):=fun W set a c hW hI=>(zr5 B n P cv fv m (zb1 ls set) a c la ls.length lc W (hr.new hW) hI (fun x hx=>hlt x (zkH hx)) hm (by have:=zhx ls set ls.length;unfold zb1;omega) hP hc (hck set)).mono fun e w' ⟨b,er,h1,h2,h3⟩=>by
  obtain⟨rfl,rfl⟩:=hso set b er h2;exact⟨h1,h3⟩
 have HB1:=zH hb1;clear hr hl hlt hc hck hso hb1;generalize hN:(2^ls.length:Nat)=N at *;clear hN;go_enter Tryz.func123,Tryz.ntmps123;go_upto_region 1 with fail;generalize w.alloc (.cells #[.int .i64 n,cv,fv,.slice la ls.length lc,.int .i64 m] 202)=W0 at *;have c3:_=some (Value.slice la ls.length lc):=kb.cell 3;go_wp2_with fail;clear c3;go_loopw [4,12] (fun oV kV wr=>∃k:Nat,k<=N/\kV=.int .u64 k/\wr.ownsRow W0.heap.size 4 1 oV (zhA so k).length (zde (zhA so k))/\zB W0 wr) (fun _ kV _=>N-(intOf kV).toNat)
 case atStart=>exact⟨0,Nat.zero_le _,rfl,World.ownsRow_nil _ _ _ _,Below.refl _ _⟩
 case round =>
  obtain⟨k,hk,rfl,hrow,hbw⟩:=hrel;have hsz:=hbw.size;rw[zdB] at hrow;obtain⟨oa,oc,rfl,-⟩:=zaj hrow
  by_cases hlt:k<N
  ·have hki:(k:Int)<(N:Int):=by omega
   have hw1:IntKind.u64.wrap ((k:Int)+1)=(k:Int)+1:=by rw[IntKind.wrap_u64];omega
   have kb2:=kb.below hbw kb.lt;have SC:Hid (∀X,zB wr X->X.cell? ⟨w.heap.size,0,none⟩=some (.int .i64 n)/\X.cell? ⟨w.heap.size,1,none⟩=some cv/\X.cell? ⟨w.heap.size,2,none⟩=some fv/\X.cell? ⟨w.heap.size,3,none⟩=some (.slice la ls.length lc)/\X.cell? ⟨w.heap.size,4,none⟩=some (.int .i64 m)):=fun X h=>⟨(kb2.below h kb2.lt).cell 0,(kb2.below h kb2.lt).cell 1,(kb2.below h kb2.lt).cell 2,(kb2.below h kb2.lt).cell 3,(kb2.below h kb2.lt).cell 4⟩;have hbw0:=zT HB1.out hbw;have HP:Hid (∀W,zB wr W->zC 202 #[.agg #[.int .i64 n,cv,fv,.slice la ls.length lc,.int .i64 m],.int .u64 k] W fun e w'=>∃a c,e=.returned (.slice a (zb1 ls k).length c)/\zaN w' a (zbE (zb1 ls k))/\zB W w'):=fun W hW=>HPK.out W k (zT hbw0 hW) (by omega);have HC:Hid (∀W a c,zB wr W->zaN W a (zbE (zb1 ls k))->zR 110 #[.agg #[.int .i64 n,cv,fv,.slice la ls.length lc,.int .i64 m],.slice a (zb1 ls k).length c] W (.tuple #[.bool (so k),.nilIface])):=fun W a c hW hI=>HCN.out W k a c (zT hbw0 hW) hI;have HROW:=zH hrow;have HBW:=zH hbw;have HST:=zH (zl2 so k);have D0:zB wr wr.drew:=zF.drew;generalize hpk:(zb1 ls k).length=pl at *;generalize hso:so k=sk at *;clear hrow hbw hbw0 kb2 hpk hso;go_upto_region 5 with fail;go_region_held3 (fun X=>X.cell? ⟨w.heap.size,0,none⟩=some (.int .i64 n)/\X.cell? ⟨w.heap.size,1,none⟩=some cv/\X.cell? ⟨w.heap.size,2,none⟩=some fv/\X.cell? ⟨w.heap.size,3,none⟩=some (.slice la ls.length lc)/\X.cell? ⟨w.heap.size,4,none⟩=some (.int .i64 m)) (first|exact SC.out _ D0|exact SC.out _ D1|exact SC.out _ D2)
    (first
     |((with_reducible refine(HP.out _ D0).mono ?_);rintro e x1 ⟨pa,pc,rfl,hip,hb1⟩;have D1:zB wr x1:=zT D0 hb1;clear hb1 D0)
     | ((with_reducible refine (HC.out _ _ _ D1 hip).mono ?_);rintro e x2 ⟨rfl,hb2⟩;have D2:zB wr x2:=zT D1 hb2;clear hb2 D1 hip))
   have HR2:=zH (zgq HROW.out D2);have HB2:=zH (zT HBW.out D2);have hs2:=HB2.out.size;clear D2 SC HP HC HROW HBW;go_upto_region 8 with fail;go_wp2_with (at_builtin;refine wpList_append_own_at _ rfl _ _ 219 rfl W0.heap.size 4 i0 (.bool false) 1 1 Tryz.underlying219 hin hz0 hz1 hz2 rfl (by decide) _ _ _ rfl (HR2.out.alloc _) ⟨x2.heap.size,0,none⟩ 1 1 [.bool sk] rfl rfl ?e1 ?e2 ?e3 ?e4 ?e5 ?_)
   try(case e1=>exact zco _ _ _)
   case e2=>first|rfl|(intro u hu;rw[List.mem_singleton] at hu;subst hu;rfl)
   case e3=>unfold maxLen;omega
   case e4=>omega
   case e5=>first|omega|(simp;omega)
   intro v8 w8 hown8 hgrow8 _ hloc8;have HR8:Hid (w8.ownsRow W0.heap.size 4 1 v8 (zhA so (k+1)).length (zde (zhA so (k+1)))):=by
    show World.ownsRow _ _ _ _ _ _ _;rw[zdB,HST.out,zhn];exact hown8
   have HB8:Hid (zB W0 w8):=(HB2.out.alloc hs2 _).grown hgrow8 (by simp;omega) (fun k hk=>(HR2.out.lt k hk).1);obtain⟨v8a,v8c,rfl,-⟩:=zaj hown8;clear hown8 hgrow8 hloc8 HR2 HST;go_wp2;go_roundw
   case rel=>exact⟨k+1,hlt,by go_num,HR8.out,HB8.out⟩
   case measure=>simp[intOf];omega
  ·obtain rfl:k=N:=by omega
   have HF:Hid (zbM wr oa (zhA so k)/\zB w wr):=⟨zpx (c:=oc) (by rw[zdB];exact hrow),zT HB1.out hbw⟩;clear hrow hbw HPK HCN;go_wp2;go_ret2;exact⟨oa,oc,rfl,HF.out.1,HF.out.2⟩
end
end Go.Proofs.YtiihalknffbjpaaGreatDoor
