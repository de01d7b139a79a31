/- reason: Cores. -/
import Derived.Test.YtapobpgbcbplbaaGreatDoorRsCore
import Derived.Test.YtapobpgbcbplbaaGreatDoorRsTwelve
set_option maxHeartbeats 4000000
set_option maxRecDepth 100000
namespace Go.Proofs.YtapobpgbcbplbaaGreatDoor
section
open Go.RowKit Go.Deep Sv
noncomputable def ZO(l:List (List Int)):Bool:=@decide (∃vals,xg vals l) (Classical.propDecidable _)
theorem Qo{l:List (List Int)}:ZO l=true↔∃vals,xg vals l:=by unfold ZO;exact @decide_eq_true_iff _ (Classical.propDecidable _)
theorem zeU{l:List (List Int)}:ZO l=false↔∀vals,¬xg vals l:=by
 rw[<-Bool.not_eq_true,Qo];exact⟨fun h v hv=>h ⟨v,hv⟩,fun h ⟨v,hv⟩=>h v hv⟩
theorem zoa{l m:List (List Int)}(h:∀c∈l,c∈m)(hm:ZO m=true):ZO l=true:=by
 obtain⟨v,hv⟩:=Qo.1 hm;exact Qo.2 ⟨v,fun c hc=>hv c (h c hc)⟩
theorem zir{v:Nat}{l:List (List Int)}{b:Bool}{er:Value}(hv:v<=24)(hl:yt v l)(hn:∀r,Run v l st0 r->r≠.limit)(h:Qx v l b er):b=ZO l/\er=.nilIface:=by
 obtain⟨r,hr,h⟩:=h;obtain⟨h1,h2⟩:=zku hv hl hr (Kk v) (zej l);rcases h with ⟨t,rfl,rfl,rfl⟩|⟨p,rfl,rfl,rfl⟩|⟨rfl,-,-⟩
 ·obtain⟨ds,-,hli,hco,-,hall⟩:=h2 t rfl;refine⟨(Qo.2 ⟨yr t 24,fun c hc=>?_⟩).symm,rfl⟩;obtain⟨x,hx,ht⟩:=hall c hc;exact⟨x,hx,zm6 hli hco hv x ht⟩
 ·exact⟨(zeU.2 (h1 p rfl)).symm,rfl⟩
 ·exact absurd rfl (hn _ hr)
theorem zn2{m:Nat}{a b:List Nat}(h:∀x∈a,x∈b){f:Int}(ht:yH (inF m a) f=true):yH (inF m b) f=true:=by
 unfold yH at *
 by_cases h1:f=-1
 ·simp[h1]
 ·by_cases h0:0<=f
  ·obtain⟨k,rfl⟩:=Int.eq_ofNat_of_zero_le h0
   by_cases hk:k<m
   ·have e1:=QG a hk;have e2:=QG b hk;simp only[Int.toNat_natCast] at *
    simp_all
   ·simp[List.getD_eq_getElem?_getD,inF,hk,h1] at ht
  ·simp[h1,h0] at ht
theorem zj6{P:List (Int × List Int)}{m:Nat}{a b:List Nat}(h:∀x∈a,x∈b):∀c∈qb P (inF m a),c∈qb P (inF m b):=by
 intro c hc;unfold qb at *;obtain⟨x,hx,rfl⟩:=List.mem_map.1 hc;obtain⟨h1,h2⟩:=List.mem_filter.1 hx;exact List.mem_map.2 ⟨x,List.mem_filter.2 ⟨h1,zn2 h h2⟩,rfl⟩
end
section
open Go.RowKit Go.Deep Sv
theorem zby:∀(ls:List Ln) (i:Nat) (its out:List It),its.length<=24->ql ls i its=.ok out->out.length<=24/\∀x∈ls,qJ x=0
 |[],i,its,out,h0,h=>by cases h;exact⟨h0,fun x hx=>by cases hx⟩
 |x :: r,i,its,out,h0,h=>by
  rw[ql] at h;split at h
  ·cases h
  ·rename_i hc;have hc':qJ x=0:=Decidable.not_not.1 hc;have key:∀its',its'.length<=24->ql r (i+1) its'=.ok out->out.length<=24/\∀y∈x :: r,qJ y=0:=fun its' h1 h2=>by
    obtain⟨g1,g2⟩:=zby r (i+1) its' out h1 h2;exact⟨g1,fun y hy=>by rcases List.mem_cons.1 hy with rfl|hy;exact hc';exact g2 y hy⟩
   split at h
   ·split at h
    ·cases h
    ·split at h
     ·cases h
     ·rename_i h8;exact key _ (by simp;omega) h
   ·exact key _ h0 h
theorem YB{ls:List Ln}{its:List It}(h:qU ls=.ok its):its.length<=24/\ls.length<=100/\∀x∈ls,qJ x=0:=by
 unfold qU at h;split at h
 ·cases h
 ·split at h
  ·cases h
  ·rename_i its' hg;split at h
   ·cases h
   ·cases h;obtain⟨h1,h2⟩:=zby ls 0 [] its' (by simp) hg;refine⟨?_,by omega,h2⟩;unfold qL;rw[List.length_mergeSort];exact h1
theorem zbE{s:ByteArray}{ls:List Ln}{its:List It}(h:xz s=.ok (ls,its)):qU ls=.ok its:=by
 unfold xz at h;split at h
 ·cases h
 ·split at h
  ·cases h
  ·split at h
   ·cases h
   ·cases h
   ·rename_i hn;cases h;exact hn
theorem ze6{x:Ln}(h:qJ x=0):x.name.size<=100000/\x.other.size<=100000:=by
 unfold qJ at h;split at h
 ·cases h
 ·split at h
  ·cases h
  ·rename_i h5;split at h
   ·cases h
   ·rename_i h6;have hn:zV x.name:=by
     apply Classical.byContradiction;intro hc;exact h5 (Or.inl hc)
    refine⟨by have:=hn.len;omega,?_⟩
    by_cases hp:x.pair
    ·have ho:zV x.other:=by
      apply Classical.byContradiction;intro hc;exact h5 (Or.inr ⟨hp,hc⟩)
     have:=ho.len;omega
    ·have:x.other.size=0:=by
      apply Classical.byContradiction;intro hc;exact h6 ⟨hp,hc⟩
     omega
noncomputable def Zd(s:ByteArray)(most:Nat):Option (List Ln × List It) :=
 if 1500<s.size then none else match xz s with
  |.error _=>none
  |.ok (ls,its)=>if 200<(ofL its ls).length\/most<its.length then none else some (ls,its)
end
section
open Go.RowKit Go.Deep Sv
theorem zaW:∀(ls:List Ln) (i:Nat) (its out:List It),qX its<=8->ql ls i its=.ok out->qX out<=8
 |[],i,its,out,h0,h=>by cases h;exact h0
 |x :: r,i,its,out,h0,h=>by
  rw[ql] at h;split at h
  ·cases h
  ·split at h
   ·split at h
    ·cases h
    ·split at h
     ·cases h
     ·rename_i hx;exact zaW r (i+1) _ out (by omega) h
   ·exact zaW r (i+1) its out h0 h
theorem zew:∀(ls:List Ln) (i:Nat) (its:List It),yn ls i its=none->∀x∈ls,x.pair->x.it∈its
 |[],_,_,_,x,hx,_=>by cases hx
 |y :: r,i,its,h,x,hx,hp=>by
  unfold yn at h;split at h
  ·cases h
  ·rename_i hy;rcases List.mem_cons.1 hx with rfl|hx
   ·exact Classical.byContradiction fun e=>hy ⟨hp,e⟩
   ·exact zew r (i+1) its h x hx hp
theorem zbT{ls:List Ln}{its:List It}(h:qU ls=.ok its):(∀x∈ls,x.pair->x.it∈its)/\∃g:List It,qX g<=8/\its.Perm g:=by
 unfold qU at h;split at h
 ·cases h
 ·split at h
  ·cases h
  ·rename_i g hg;split at h
   ·cases h
   ·rename_i hm;cases h;exact⟨zew ls 0 _ hm,g,zaW ls 0 [] g (by decide) hg,YP g⟩
def yR(its:List It)(i:Nat):ByteArray:=(its.getD i default).name
theorem zi3{its:List It}(h:Asc its){i j:Nat}(hij:i<j)(hj:j<its.length)(hne:yR its j≠yR its (j-1)):yR its i≠yR its j:=by
 intro e
 by_cases h1:i=j-1
 ·exact hne (h1▸e.symm)
 ·have a1:=ze9 (zcW h (i:=i) (j:=j-1) (by omega) (by omega));have a2:=ze9 (zcW h (i:=j-1) (j:=j) hj (by omega));unfold yR at *;rcases a2 with a2|a2
  ·exact hne a2.symm
  ·rcases a1 with a1|a1
   ·exact hne (by rw[<-a1,e])
   ·rw[e] at a1;have:=XL (its.getD j default).name.data.toList (its.getD (j-1) default).name.data.toList;omega
theorem zmr{ls:List Ln}{its:List It}(h:qU ls=.ok its):(xk (yR its) its.length).length<=8:=by
 have ha:=(ziu h).1;obtain⟨-,g,hg,hp⟩:=zbT h;refine Nat.le_trans ?_ hg;unfold qX;have hn:((xk (yR its) its.length).map (yR its)).Nodup:=by
  have hlt:∀x∈xk (yR its) its.length,x<its.length/\¬(x≠0/\yR its x=yR its (x-1)):=fun x hx=>by
   unfold xk at hx;have:=List.mem_filter.1 hx;exact⟨List.mem_range.1 this.1,of_decide_eq_true this.2⟩
  have hasc:(xk (yR its) its.length).Pairwise (·<·):=List.Pairwise.filter _ List.pairwise_lt_range;show List.Pairwise _ _;rw[List.pairwise_map];refine(List.pairwise_iff_getElem.2 fun i j hi hj hij=>?_);have hlt2:=List.pairwise_iff_getElem.1 hasc i j hi hj hij;have hj2:=hlt _ (List.getElem_mem hj);exact zi3 ha hlt2 hj2.1 (fun e=>hj2.2 ⟨by omega,e⟩)
 have hle:=XU (m:=(g.map It.name).eraseDups) hn (fun x hx=>by
  obtain⟨i,hi,rfl⟩:=List.mem_map.1 hx;unfold xk at hi;have hil:=List.mem_range.1 (List.mem_filter.1 hi).1;rw[List.mem_eraseDups];refine List.mem_map.2 ⟨its.getD i default,hp.mem_iff.1 ?_,rfl⟩;rw[List.getD_eq_getElem?_getD,List.getElem?_eq_getElem hil];exact List.getElem_mem hil)
 rw[List.length_map] at hle;exact hle
theorem zdj{its:List It}{x:It}(h:x∈its):0<=qQ its x/\qQ its x<its.length:=by
 unfold qQ;cases hf:its.findIdx? (fun y=>decide (x=y)) with
 |none =>rw[List.findIdx?_eq_none_iff] at hf;have:=hf x h;simp at this
 |some i =>rw[List.findIdx?_eq_some_iff_getElem] at hf;obtain⟨hi,_⟩:=hf;exact⟨by simp,by simpa using hi⟩
theorem zdI(its:List It)(nm:ByteArray)(rng:List zh):yP its.length ((qS its nm rng).map fun (k:Nat)=>((k:Int)+1)):=fun x hx=>by
 obtain⟨k,hk,rfl⟩:=List.mem_map.1 hx;have:=zaH its nm rng k hk;rw[q7];omega
theorem J4{ls:List Ln}{its:List It}(h:qU ls=.ok its):∀x∈ofL its ls,yP its.length x.2/\x.2.length<=48:=by
 intro x hx;have hl:=(YB h).1;rcases List.mem_append.1 hx with hx|hx
 ·obtain⟨k,hk,hx⟩:=List.mem_flatMap.1 hx;obtain⟨j,hj,hx⟩:=List.mem_flatMap.1 hx;have hk':=List.mem_range.1 hk;have hj':=List.mem_range.1 hj;unfold pr0 at hx;split at hx
  ·rw[List.mem_singleton] at hx;subst hx;refine⟨fun y hy=>?_,by simp⟩;simp only[List.mem_cons,List.not_mem_nil,or_false] at hy;rw[q7];unfold qj at hy;rcases hy with rfl|rfl<;>omega
  ·cases hx
 ·obtain⟨n,hn,hx⟩:=List.mem_flatMap.1 hx;have hn':=List.mem_range.1 hn;have hmem:ls.getD n default∈ls:=by rw[List.getD_eq_getElem?_getD,List.getElem?_eq_getElem hn'];exact List.getElem_mem hn'
  have hpair:=(zbT h).1 _ hmem;generalize ls.getD n default=X at *;have l1:=XW its X.name X.rng;have l2:=XW its X.other X.rng;unfold qY at hx;split at hx
  ·rw[List.mem_singleton] at hx;subst hx;exact⟨zdI _ _ _,by simp;omega⟩
  ·split at hx
   ·rename_i hk;rw[List.mem_singleton] at hx;subst hx;have hnb:=zdj (hpair (Or.inl hk));refine⟨fun y hy=>?_,by simp;omega⟩;rcases List.mem_cons.1 hy with rfl|hy
    ·rw[q7];unfold qj;omega
    ·exact zdI _ _ _ y hy
   ·split at hx
    ·rename_i hk;obtain⟨k,hk2,rfl⟩:=List.mem_map.1 hx;have hnb:=zdj (hpair (Or.inr hk));have hka:=zaH its X.other X.rng k hk2;refine⟨fun y hy=>?_,by simp⟩;simp only[List.mem_cons,List.not_mem_nil,or_false] at hy;rw[q7];unfold qj at hy;rcases hy with rfl|rfl<;>omega
    ·cases hx
theorem zjq(P:List (Int × List Int))(bs:List Bool):(qb P bs).length<=P.length:=by
 unfold qb;rw[List.length_map];exact List.length_filter_le _ _
theorem zeq{P:List (Int × List Int)}{bs:List Bool}{c:List Int}(h:c∈qb P bs):∃x∈P,x.2=c:=by
 unfold qb at h;obtain⟨x,hx,rfl⟩:=List.mem_map.1 h;exact⟨x,(List.mem_filter.1 hx).1,rfl⟩
theorem za7{ls:List Ln}{its:List It}(h:qU ls=.ok its)(bs:List Bool):yt its.length (qb (ofL its ls) bs):=fun c hc=>by
 obtain⟨x,hx,rfl⟩:=zeq hc;exact(J4 h x hx).1
theorem zdP{ls:List Ln}{its:List It}(h:qU ls=.ok its)(hP:(ofL its ls).length<=200)(bs:List Bool):(qB (its.length:Nat) (qb (ofL its ls) bs)).1=0:=by
 have hl:=(YB h).1;rw[zff (by omega) (by omega) (Nat.le_trans (zjq _ _) hP) (fun j hj=>?_)];have hm:(qb (ofL its ls) bs).getD j []∈qb (ofL its ls) bs:=by rw[List.getD_eq_getElem?_getD,List.getElem?_eq_getElem hj];exact List.getElem_mem hj
 obtain⟨x,hx,e⟩:=zeq hm;obtain⟨h1,h2⟩:=J4 h x hx;rw[<-e];unfold yV;rw[Bool.or_eq_false_iff];refine⟨by simp;omega,?_⟩;rw[List.any_eq_false];intro y hy;simp[h1 y hy]
theorem znY(its:List It)(ls:List Ln)(bs:List Bool)(i j:Nat)(hij:i<j)(hj:j<its.length)(e:yR its i=yR its j):[-((i:Int)+1),-((j:Int)+1)]∈qb (ofL its ls) bs:=by
 unfold qb;refine List.mem_map.2 ⟨(-1,[-((i:Int)+1),-((j:Int)+1)]),List.mem_filter.2 ⟨List.mem_append.2 (Or.inl ?_),by simp[yH]⟩,rfl⟩;refine List.mem_flatMap.2 ⟨j,List.mem_range.2 hj,List.mem_flatMap.2 ⟨i,List.mem_range.2 hij,?_⟩⟩;unfold pr0;unfold yR at e;rw[if_pos e];simp[qj]
theorem zeJ{ls:List Ln}{its:List It}(h:qU ls=.ok its)(hv:its.length<=12)(bs:List Bool){b:Bool}{er:Value}(hc:Qx its.length (qb (ofL its ls) bs) b er):b=ZO (qb (ofL its ls) bs)/\er=.nilIface :=
 zir (by omega) (za7 h bs) (fun _ hr=>zle (yR its) hv (za7 h bs) (zmr h) (znY its ls bs) hr) hc
end
section
open Go.RowKit Go.Deep Sv
def yG(ls:List Nat)(set i:Nat):List Nat:=((List.range i).filter fun k=>set.testBit k).map fun k=>ls.getD k 0
def yb(ls:List Nat)(set:Nat):List Nat:=yG ls set ls.length
theorem zoD(ls:List Nat)(set i:Nat):yG ls set (i+1)=yG ls set i++(if set.testBit i then [ls.getD i 0] else []):=by
 unfold yG;rw[List.range_succ,List.filter_append,List.map_append];congr 1;cases h:set.testBit i<;>simp[h]
theorem zdW(ls:List Nat)(set i:Nat):(yG ls set i).length<=i:=by
 unfold yG;rw[List.length_map];exact Nat.le_trans (List.length_filter_le _ _) (by simp)
theorem zlk{ls:List Nat}{set x:Nat}(h:x∈yb ls set):x∈ls:=by
 unfold yb yG at h;obtain⟨k,hk,rfl⟩:=List.mem_map.1 h;exact xL (List.mem_range.1 (List.mem_filter.1 hk).1)
theorem zmu(n m:Int)(cv fv:Value)(ls:List Nat)(la:Option Addr)(lc:Nat)(set:Nat)(hset:set<18446744073709551616)(hln:ls.length<=64)(w:World)(hl:qr w la (zu ls)) :
  zC 38 #[.agg #[.int .i64 n,cv,fv,.slice la ls.length lc,.int .i64 m],.int .u64 set] w fun e w'=>∃v,e=.returned v/\w'.ownsRow w.heap.size 3 1 v (zu (yb ls set)).length (zn (zu (yb ls set)))/\zB w w':=by
 obtain⟨i0,hin,hz0,hz1,hz2⟩:=info_parts Zm;have hb1:=zf w (.cells #[.int .i64 n,cv,fv,.slice la ls.length lc,.int .i64 m] 61);have kb:=Blk.new w 61 #[.int .i64 n,cv,fv,.slice la ls.length lc,.int .i64 m];have HL:=zH (hl.below hb1);have HB1:=zH hb1;clear hl hb1;go_enter Tryz.func38,Tryz.ntmps38;go_upto_region 1 with fail;generalize w.alloc (.cells #[.int .i64 n,cv,fv,.slice la ls.length lc,.int .i64 m] 61)=W0 at *;have c3:_=some (Value.slice la ls.length lc):=kb.cell 3;go_wp2_with fail;clear c3 kb;go_loopw [5,11] (fun oV iV wr=>∃i:Nat,i<=ls.length/\iV=.int .i64 i/\wr.ownsRow W0.heap.size 3 1 oV (zu (yG ls set i)).length (zn (zu (yG ls set i)))/\zB W0 wr) (fun _ iV _=>ls.length-(intOf iV).toNat)
 case atStart=>exact⟨0,Nat.zero_le _,rfl,World.ownsRow_nil _ _ _ _,Below.refl _ _⟩
 case round =>
  obtain⟨i,hi,rfl,hrow,hbw⟩:=hrel;obtain⟨oa,oc,rfl,-⟩:=yU hrow;have HROW:=zH hrow;have HBW:=zH hbw;have hsz:=hbw.size;have hpl:=zdW ls set i;clear hrow
  by_cases hlt:i<ls.length
  ·have hii0:(0:Int)<=(i:Int):=by omega
   have hii1:(i:Int)<(ls.length:Int):=by omega
   obtain⟨ad,rfl,had,hcell⟩:=HL.out.below hbw i (by simpa[zu] using hlt);have hxe:(zu ls).getD i 0=((ls.getD i 0:Nat):Int):=by simp[zu,List.getD_eq_getElem?_getD,hlt]
   rw[hxe] at hcell;have hs:=zbk set i hset;have HST:=zH (zoD ls set i);generalize ls.getD i 0=x at *;obtain⟨ab,ao,asp⟩:=ad;clear hbw hxe;generalize hL:(zu (yG ls set i)).length=n8 at *;have hn8:n8<=64:=by rw[<-hL];simp[zu];omega
   have HL8:=zH hL;clear hL;cases hb:set.testBit i with
   |false =>
    rw[hb] at hs HST;simp only[Bool.false_eq_true,if_false,List.append_nil] at HST;have HR8:Hid (wr.ownsRow W0.heap.size 3 1 (.slice oa n8 oc) (zu (yG ls set (i+1))).length (zn (zu (yG ls set (i+1))))):=by
     show World.ownsRow _ _ _ _ _ _ _;rw[HST.out,HL8.out];exact HROW.out
    clear HST hb;go_wp2;go_roundw
    case rel=>exact⟨i+1,hlt,by go_num,HR8.out,HBW.out⟩
    case measure=>simp[intOf];omega
   |true =>
    rw[hb] at hs HST;simp only[if_true] at HST;clear hb;go_upto_region 6 with fail;go_wp2_with (at_builtin;refine wpList_append_own_at _ rfl _ _ 24 rfl W0.heap.size 3 i0 (.int .i64 0) 1 8 Tryz.underlying24 hin hz0 hz1 hz2 rfl (by decide) _ _ _ rfl (HROW.out.alloc _) ⟨wr.heap.size,0,none⟩ 1 1 [.int .i64 x] rfl rfl ?e1 ?e2 ?e3 ?e4 ?e5 ?_)
    try(case e1=>exact Yg _ _ _)
    case e2=>first|exact QU _|rfl
    case e3=>unfold maxLen;omega
    case e4=>omega
    case e5=>first|omega|(simp;omega)
    intro v8 w8 hown8 hgrow8 _ hloc8;have HR8:Hid (w8.ownsRow W0.heap.size 3 1 v8 (zu (yG ls set (i+1))).length (zn (zu (yG ls set (i+1))))):=by
     show World.ownsRow _ _ _ _ _ _ _;have e:zu (yG ls set i++[x])=zu (yG ls set i)++[(x:Int)]:=by simp[zu]
     rw[HST.out,e,QJ,List.length_append,HL8.out];exact hown8
    have HB8:Hid (zB W0 w8):=(HBW.out.alloc hsz _).grown hgrow8 (by simp;omega) (fun k hk=>(HROW.out.lt k hk).1);obtain⟨v8a,v8c,rfl,-⟩:=yU hown8;clear hown8 hgrow8 hloc8 HROW HST;go_wp2;go_roundw
    case rel=>exact⟨i+1,hlt,by go_num,HR8.out,HB8.out⟩
    case measure=>simp[intOf];omega
  ·obtain rfl:i=ls.length:=by omega
   clear hbw HL;go_wp2;go_ret;exact⟨_,rfl,yu HROW.out HB1.out.size,zT HB1.out HBW.out⟩
def Qn(l:List Bool):List Value:=l.map Value.bool
theorem zoy(l:List Bool)(x:Bool):Qn (l++[x])=Qn l++[.bool x]:=by simp[Qn]
theorem zlw{B:Nat}{w:World}{a:Option Addr}{c:Nat}{l:List Bool}(h:w.ownsRow B 4 1 (.slice a l.length c) l.length (Qn l)):xN w a l:=by
 intro i hi;rcases h.2 with ⟨e,e0⟩|⟨g,cap,cur,e,-,hg,-⟩
 ·omega
 ·injection e with e1 e2 e3;subst e1;have:=h.cellAt i (by omega);refine⟨_,rfl,(Array.getElem?_eq_some_iff.1 hg).1,?_⟩;rw[yo,Nat.zero_add];subst e3;rw[this];simp[Qn,List.getD_eq_getElem?_getD,hi]
def yQ(so:Nat->Bool)(k:Nat):List Bool:=(List.range k).map so
theorem zhq(so:Nat->Bool)(k:Nat):yQ so (k+1)=yQ so k++[so k]:=by unfold yQ;rw[List.range_succ,List.map_append];rfl
theorem Yu(so:Nat->Bool)(k:Nat):(yQ so k).length=k:=by simp[yQ]
theorem zha(B n:Nat)(P:List (Int × List Int))(cv fv:Value)(m:Nat)(ls:List Nat)(la:Option Addr)(lc:Nat)(w:World)(hr:RS B w cv fv (P.map Prod.snd) (P.map Prod.fst))(hl:qr w la (zu ls))(hlt:∀x∈ls,x<m)(hm:m<=1000)(hln:ls.length<=10)(hP:P.length<=10000)(hc:∀x∈P,x.2.length<=1000)
  (hck:∀set,(qB n (qb P (inF m (yb ls set)))).1=0) (so:Nat->Bool) (hso:∀set b er,Qx n (qb P (inF m (yb ls set))) b er->b=so set/\er=.nilIface) :
  zC 16 #[.agg #[.int .i64 n,cv,fv,.slice la ls.length lc,.int .i64 m]] w fun e w'=>∃a c,e=.returned (.tuple #[.slice a (2^ls.length) c,.nilIface])/\xN w' a (yQ so (2^ls.length))/\zB w w':=by
 obtain⟨i0,hin,hz0,hz1,hz2⟩:=info_parts zcK;have h12:(2:Nat)^ls.length<=1024:=Nat.pow_le_pow_right (n:=2) (j:=10) (by omega) hln;have hsh:IntKind.u64.wrap (2^ls.length)=((2^ls.length:Nat):Int):=by
  rw[IntKind.wrap_u64,show ((2:Int)^ls.length)=((2^ls.length:Nat):Int) by simp];exact Int.emod_eq_of_lt (Int.natCast_nonneg _) (by omega)
 have hb1:=zf w (.cells #[.int .i64 n,cv,fv,.slice la ls.length lc,.int .i64 m] 61);have kb:=Blk.new w 61 #[.int .i64 n,cv,fv,.slice la ls.length lc,.int .i64 m];have HPK:Hid (∀W set,zB w W->set<18446744073709551616->zC 38 #[.agg #[.int .i64 n,cv,fv,.slice la ls.length lc,.int .i64 m],.int .u64 ((set:Nat):Int)] W fun e w'=>∃a c,e=.returned (.slice a (yb ls set).length c)/\qr w' a (zu (yb ls set))/\zB W w'):=fun W set hW hs=>(zmu (n:Int) (m:Int) cv fv ls la lc set hs (by omega) W (hl.below hW)).mono fun e w' ⟨v',h1,h2,h3⟩=>by
  obtain⟨a,c,rfl,-⟩:=yU h2;exact⟨a,c,by rw[h1];simp[zu],zdc h2,h3⟩
 have HCN:Hid (∀W set a c,zB w W->qr W a (zu (yb ls set))->zR 36 #[.agg #[.int .i64 n,cv,fv,.slice la ls.length lc,.int .i64 m],.slice a (yb ls set).length c] W (.tuple #[.bool (so set),.nilIface])):=fun W set a c hW hI=>(zbF B n P cv fv m (yb ls set) a c la ls.length lc W (hr.new hW) hI (fun x hx=>hlt x (zlk hx)) hm (by have:=zdW ls set ls.length;unfold yb;omega) hP hc (hck set)).mono fun e w' ⟨b,er,h1,h2,h3⟩=>by
  obtain⟨rfl,rfl⟩:=hso set b er h2;exact⟨h1,h3⟩
 have HB1:=zH hb1;clear hr hl hlt hc hck hso hb1;generalize hN:(2^ls.length:Nat)=N at *;clear hN;go_enter Tryz.func16,Tryz.ntmps16;go_upto_region 1 with fail;generalize w.alloc (.cells #[.int .i64 n,cv,fv,.slice la ls.length lc,.int .i64 m] 61)=W0 at *;have c3:_=some (Value.slice la ls.length lc):=kb.cell 3;go_wp2_with fail;clear c3;go_loopw [4,12] (fun oV kV wr=>∃k:Nat,k<=N/\kV=.int .u64 k/\wr.ownsRow W0.heap.size 4 1 oV (yQ so k).length (Qn (yQ so k))/\zB W0 wr) (fun _ kV _=>N-(intOf kV).toNat)
 case atStart=>exact⟨0,Nat.zero_le _,rfl,World.ownsRow_nil _ _ _ _,Below.refl _ _⟩
 case round =>
  obtain⟨k,hk,rfl,hrow,hbw⟩:=hrel;have hsz:=hbw.size;rw[Yu] at hrow;obtain⟨oa,oc,rfl,-⟩:=yU hrow
  by_cases hlt:k<N
  ·have hki:(k:Int)<(N:Int):=by omega
   have hw1:IntKind.u64.wrap ((k:Int)+1)=(k:Int)+1:=by rw[IntKind.wrap_u64];omega
   have kb2:=kb.below hbw kb.lt;have SC:Hid (∀X,zB wr X->X.cell? ⟨w.heap.size,0,none⟩=some (.int .i64 n)/\X.cell? ⟨w.heap.size,1,none⟩=some cv/\X.cell? ⟨w.heap.size,2,none⟩=some fv/\X.cell? ⟨w.heap.size,3,none⟩=some (.slice la ls.length lc)/\X.cell? ⟨w.heap.size,4,none⟩=some (.int .i64 m)):=fun X h=>⟨(kb2.below h kb2.lt).cell 0,(kb2.below h kb2.lt).cell 1,(kb2.below h kb2.lt).cell 2,(kb2.below h kb2.lt).cell 3,(kb2.below h kb2.lt).cell 4⟩;have hbw0:=zT HB1.out hbw;have HP:Hid (∀W,zB wr W->zC 38 #[.agg #[.int .i64 n,cv,fv,.slice la ls.length lc,.int .i64 m],.int .u64 k] W fun e w'=>∃a c,e=.returned (.slice a (yb ls k).length c)/\qr w' a (zu (yb ls k))/\zB W w'):=fun W hW=>HPK.out W k (zT hbw0 hW) (by omega);have HC:Hid (∀W a c,zB wr W->qr W a (zu (yb ls k))->zR 36 #[.agg #[.int .i64 n,cv,fv,.slice la ls.length lc,.int .i64 m],.slice a (yb ls k).length c] W (.tuple #[.bool (so k),.nilIface])):=fun W a c hW hI=>HCN.out W k a c (zT hbw0 hW) hI;have HROW:=zH hrow;have HBW:=zH hbw;have HST:=zH (zhq so k);have D0:zB wr wr.drew:=zF.drew;generalize hpk:(yb ls k).length=pl at *;generalize hso:so k=sk at *;clear hrow hbw hbw0 kb2 hpk hso;go_upto_region 5 with fail;go_region_held3 (fun X=>X.cell? ⟨w.heap.size,0,none⟩=some (.int .i64 n)/\X.cell? ⟨w.heap.size,1,none⟩=some cv/\X.cell? ⟨w.heap.size,2,none⟩=some fv/\X.cell? ⟨w.heap.size,3,none⟩=some (.slice la ls.length lc)/\X.cell? ⟨w.heap.size,4,none⟩=some (.int .i64 m)) (first|exact SC.out _ D0|exact SC.out _ D1|exact SC.out _ D2)
    (first
     |((with_reducible refine(HP.out _ D0).mono ?_);rintro e x1 ⟨pa,pc,rfl,hip,hb1⟩;have D1:zB wr x1:=zT D0 hb1;clear hb1 D0)
     | ((with_reducible refine (HC.out _ _ _ D1 hip).mono ?_);rintro e x2 ⟨rfl,hb2⟩;have D2:zB wr x2:=zT D1 hb2;clear hb2 D1 hip))
   have HR2:=zH (KF HROW.out D2);have HB2:=zH (zT HBW.out D2);have hs2:=HB2.out.size;clear D2 SC HP HC HROW HBW;go_upto_region 8 with fail;go_wp2_with (at_builtin;refine wpList_append_own_at _ rfl _ _ 65 rfl W0.heap.size 4 i0 (.bool false) 1 1 Tryz.underlying65 hin hz0 hz1 hz2 rfl (by decide) _ _ _ rfl (HR2.out.alloc _) ⟨x2.heap.size,0,none⟩ 1 1 [.bool sk] rfl rfl ?e1 ?e2 ?e3 ?e4 ?e5 ?_)
   try(case e1=>exact zbL _ _ _)
   case e2=>first|rfl|(intro u hu;rw[List.mem_singleton] at hu;subst hu;rfl)
   case e3=>unfold maxLen;omega
   case e4=>omega
   case e5=>first|omega|(simp;omega)
   intro v8 w8 hown8 hgrow8 _ hloc8;have HR8:Hid (w8.ownsRow W0.heap.size 4 1 v8 (yQ so (k+1)).length (Qn (yQ so (k+1)))):=by
    show World.ownsRow _ _ _ _ _ _ _;rw[Yu,HST.out,zoy];exact hown8
   have HB8:Hid (zB W0 w8):=(HB2.out.alloc hs2 _).grown hgrow8 (by simp;omega) (fun k hk=>(HR2.out.lt k hk).1);obtain⟨v8a,v8c,rfl,-⟩:=yU hown8;clear hown8 hgrow8 hloc8 HR2 HST;go_wp2;go_roundw
   case rel=>exact⟨k+1,hlt,by go_num,HR8.out,HB8.out⟩
   case measure=>simp[intOf];omega
  ·obtain rfl:k=N:=by omega
   have HF:Hid (xN wr oa (yQ so k)/\zB w wr):=⟨zlw (c:=oc) (by rw[Yu];exact hrow),zT HB1.out hbw⟩;clear hrow hbw HPK HCN;go_wp2;go_ret2;exact⟨oa,oc,rfl,HF.out.1,HF.out.2⟩
end
section
open Go.RowKit Go.Deep Sv
theorem zgH:∀args w,(callFunc 18 args).run Tryz.prog w=.ok (.enter 18 args) w:=by intro args w;kernel_rfl
theorem zl4:∀args w,(callFunc 19 args).run Tryz.prog w=.ok (.enter 19 args) w:=by intro args w;kernel_rfl
theorem zjo{n x:Nat}(hn:n<=12)(hx:x<2^n):(2^n-1)&&&(18446744073709551615-x)=2^n-1-x:=by
 have h12:(2:Nat)^n<=4096:=Nat.pow_le_pow_right (n:=2) (j:=12) (by omega) hn;apply Nat.eq_of_testBit_eq;intro i;have e1:18446744073709551615-x=2^64-(x+1):=by omega
 have e2:2^n-1-x=2^n-(x+1):=by omega
 rw[Nat.testBit_and,e1,e2,Nat.testBit_two_pow_sub_succ (show x<2^64 by omega),Nat.testBit_two_pow_sub_succ hx,Nat.testBit_two_pow_sub_one]
 by_cases hi:i<n
 ·rw[decide_eq_true hi,decide_eq_true (show i<64 by omega)];simp
 ·rw[decide_eq_false hi];simp
theorem zbR(so:Nat->Bool){N x:Nat}(hx:x<N):(yQ so N).getD x false=so x:=by
 unfold yQ;simp[List.getD_eq_getElem?_getD,hx]
section
variable (so:Nat->Bool) (N:Nat) (bt:Nat) (ta:Option Addr) (tc:Nat)
theorem zli(x:Nat)(hx:x<N)(w:World)(kt:w.cell? ⟨bt,0,none⟩=some (.slice ta N tc))(hB:xN w ta (yQ so N)) :
  zR 18 #[.int .u64 x,.pointer (some ⟨bt,0,none⟩)] w (.bool (!so x)):=by
 obtain⟨ad,rfl,had,cA⟩:=hB x (by rw[Yu];exact hx);rw[zbR so hx] at cA;have h0:(0:Int)<=(x:Int):=by omega
 have h1:(x:Int)<(N:Int):=by omega
 generalize so x=sx at *;obtain⟨ab,ao,asp⟩:=ad;clear hB had;go_enter Tryz.func18,Tryz.ntmps18;go_wp2;go_ret;exact⟨rfl,Below.refl _ _⟩
theorem zk4(n:Nat)(hn:n<=12)(hN:N=2^n)(ba:Nat)(x:Nat)(hx:x<N)(w:World)(kt:w.cell? ⟨bt,0,none⟩=some (.slice ta N tc))(ka:w.cell? ⟨ba,0,none⟩=some (.int .u64 ((N-1:Nat):Int)))(hB:xN w ta (yQ so N)) :
  zR 19 #[.int .u64 x,.pointer (some ⟨bt,0,none⟩),.pointer (some ⟨ba,0,none⟩)] w (.bool (so (N-1-x))):=by
 have h12:(2:Nat)^n<=4096:=Nat.pow_le_pow_right (n:=2) (j:=12) (by omega) hn;have hno:=u64_andNot_nat (N-1) x (by omega) (by omega);rw[hN,zjo hn (by omega),<-hN] at hno;obtain⟨ad,rfl,had,cA⟩:=hB (N-1-x) (by rw[Yu];omega);rw[zbR so (by omega)] at cA;have hy:N-1-x<N:=by omega
 generalize N-1-x=y at *;generalize N-1=al at *;have h0:(0:Int)<=(y:Int):=by omega
 have h1:(y:Int)<(N:Int):=by omega
 generalize so y=sx at *;obtain⟨ab,ao,asp⟩:=ad;clear hB had hN;go_enter Tryz.func19,Tryz.ntmps19;go_wp2;go_ret;exact⟨rfl,Below.refl _ _⟩
end
def yc(w:World)(a:Option Addr)(l:List Nat):Prop:=∀i,i<l.length->∃ad:Addr,a=some ad/\ad.block<w.heap.size/\w.cell? (ad.add i)=some (.int .u64 (l.getD i 0:Nat))
theorem yc.below{w w':World}{a:Option Addr}{l:List Nat}(h:yc w a l)(hb:zB w w'):yc w' a l:=fun i hi=>by
 obtain⟨ad,h1,h2,h3⟩:=h i hi;exact⟨ad,h1,Nat.lt_of_lt_of_le h2 hb.size,(hb.cell (p:=ad.add i) (by rw[xm];exact h2)).trans h3⟩
theorem za5{B:Nat}{w:World}{a:Option Addr}{c:Nat}{l:List Nat}(h:w.ownsRow B 68 1 (.slice a l.length c) l.length (Zi l)):yc w a l:=by
 intro i hi;rcases h.2 with ⟨e,e0⟩|⟨g,cap,cur,e,-,hg,-⟩
 ·omega
 ·injection e with e1 e2 e3;subst e1;have:=h.cellAt i (by omega);refine⟨_,rfl,(Array.getElem?_eq_some_iff.1 hg).1,?_⟩;rw[yo,Nat.zero_add];subst e3;rw[this];simp[Zi,List.getD_eq_getElem?_getD,hi]
noncomputable def soC(its:List It)(ls:List Ln)(set:Nat):Bool:=ZO (qb (ofL its ls) (inF ls.length (yb (zz ls) set)))
theorem znZ(bk:Nat)(ls:List Ln)(its:List It)(w:World)(h:ya w bk ls its)(hN:qU ls=.ok its)(hv:its.length<=12)(hP:(ofL its ls).length<=200)(hS:(zz ls).length<=10)(n:Nat)(hn:n=(zz ls).length) :
  zC 7 #[.pointer (some ⟨bk,0,none⟩)] w fun e w'=>∃a1 c1 a2 c2,e=.returned (.tuple #[.slice a1 (qg n (fun s=>!soC its ls s) (2^n)).length c1,.slice a2 (qg n (fun s=>soC its ls (2^n-1-s)) (2^n)).length c2,.nilIface])/\yc w' a1 (qg n (fun s=>!soC its ls s) (2^n))/\yc w' a2 (qg n (fun s=>soC its ls (2^n-1-s)) (2^n))/\zB w w':=by
 have hnk:=YB hN;have HSA:=zH (zbD bk ls its w h (by omega) (by omega) (fun x hx=>ze6 (hnk.2.2 x hx)) hP);have hfine:=J4 hN;have HTB:Hid (∀W cv fv la lc,RS w.heap.size W cv fv ((ofL its ls).map Prod.snd) ((ofL its ls).map Prod.fst)->qr W la (zu (zz ls))->zC 16 #[.agg #[.int .i64 its.length,cv,fv,.slice la (zz ls).length lc,.int .i64 ls.length]] W fun e w'=>∃a c,e=.returned (.tuple #[.slice a (2^n) c,.nilIface])/\xN w' a (yQ (soC its ls) (2^n))/\zB W w'):=fun W cv fv la lc h1 h2=>by
  subst hn;exact zha w.heap.size its.length (ofL its ls) cv fv ls.length (zz ls) la lc W h1 h2 (zdB ls ls.length) (by omega) hS (by omega) (fun x hx=>Nat.le_trans (hfine x hx).2 (by omega)) (fun set=>zdP hN hP _) (soC its ls) (fun set b er hc=>zeJ hN hv _ hc)
 have hs10:¬(10:Int)<((zz ls).length:Int):=by omega
 have h12:(2:Nat)^n<=1024:=Nat.pow_le_pow_right (n:=2) (j:=10) (by omega) (by omega);have hp0:=Nat.two_pow_pos n;have hsh:IntKind.u64.wrap (2^n)=((2^n:Nat):Int):=by
  rw[IntKind.wrap_u64,show ((2:Int)^n)=((2^n:Nat):Int) by simp];exact Int.emod_eq_of_lt (Int.natCast_nonneg _) (by omega)
 have hsb:IntKind.u64.wrap (((2^n:Nat):Int)-1)=((2^n-1:Nat):Int):=by rw[IntKind.wrap_u64];omega
 have hn12:n<=12:=by omega
 rw[<-hn] at HTB hs10;have HNS:=zH hn;clear h hN hnk hfine;generalize hP2:ofL its ls=P at *;clear hP2;generalize hso:soC its ls=so at *;clear hso;go_enter Tryz.func7,Tryz.ntmps7;go_wp2_with fail;refine HSA.out.mono ?_;rintro e w1 ⟨cv,fv,lv,rfl,hrs,hrow,hb1⟩;obtain⟨ca,cc,rfl,-⟩:∃a c,cv=.slice a P.length c/\True:=by obtain⟨cs,h1,_⟩:=hrs.crow;obtain⟨a,c,e,_⟩:=(zD h1).form;exact⟨a,c,by simpa using e,trivial⟩
 obtain⟨fa,fc,rfl,-⟩:∃a c,fv=.slice a P.length c/\True:=by obtain⟨a,c,e,_⟩:=(zD hrs.frow).form;exact⟨a,c,by simpa using e,trivial⟩
 obtain⟨sa,sc,hv2,hq1,hq2,hq3,hq4⟩:=Z3 hrow;rw[xw,<-HNS.out] at hv2;subst hv2;have hbn:=zf w1 (.cells #[.int .i64 its.length,.slice ca P.length cc,.slice fa P.length fc,.slice sa n sc,.int .i64 ls.length] 61);have kr:=Blk.new w1 61 #[.int .i64 its.length,.slice ca P.length cc,.slice fa P.length fc,.slice sa n sc,.int .i64 ls.length];have HT1:=zH (HTB.out _ (.slice ca P.length cc) (.slice fa P.length fc) sa sc (hrs.new hbn) (hq3.ints.below hbn));have HB1:=zH (zT hb1 hbn);clear hrs hrow hb1 hbn hq1 hq2 hq3 hq4 HSA HTB hn HNS;go_upto_region 4 with fail;generalize w1.alloc (.cells #[.int .i64 its.length,.slice ca P.length cc,.slice fa P.length fc,.slice sa n sc,.int .i64 ls.length] 61)=W2 at *;generalize w1.heap.size=b4 at *;have y0:_=some (Value.int .i64 its.length):=kr.cell 0;have y1:_=some (Value.slice ca P.length cc):=kr.cell 1;have y2:_=some (Value.slice fa P.length fc):=kr.cell 2;have y3:_=some (Value.slice sa n sc):=kr.cell 3;have y4:_=some (Value.int .i64 ls.length):=kr.cell 4;go_wp2_with fail;refine HT1.out.mono ?_;rintro e w3 ⟨ta,tc,rfl,hbo,hb3⟩;clear y0 y1 y2 y3 y4 HT1;generalize hNN:(2^n:Nat)=N at *;have hba:=zf w3 (.cells #[.slice ta N tc] 65);have kt:=Blk.new w3 65 #[.slice ta N tc];have hb34:=zT hb3 hba;have kr4:=kr.below hb34 kr.lt;have HBO:=zH (hbo.below hba zN);have HB4:=zH (zT HB1.out hb34);clear hbo hb3 hba hb34 kr HB1;go_upto_region 7 with fail;generalize w3.alloc (.cells #[.slice ta N tc] 65)=W4 at *;generalize w3.heap.size=bt at *;have y3:_=some (Value.slice sa n sc):=kr4.cell 3;have hb5:=zf W4 (.cells #[.int .u64 ((N-1:Nat):Int)] 68);have ka:=Blk.new W4 68 #[.int .u64 ((N-1:Nat):Int)];have kr5:=kr4.below hb5 kr4.lt;have kt5:=kt.below hb5 kt.lt;have HBO5:=zH (HBO.out.below hb5 zN);have HB5:=zH (zT HB4.out hb5);clear hb5 HBO HB4 kr4 kt;go_upto_region 10 with fail;clear y3;generalize W4.alloc (.cells #[.int .u64 ((N-1:Nat):Int)] 68)=W5 at *;generalize W4.heap.size=ba at *;have HL1:Hid (∀W,zB W5 W->zC 17 #[.int .i64 n,.func (.func 18) #[] #[.pointer (some ⟨bt,0,none⟩)]] W fun e w'=>∃a c,e=.returned (.slice a (qg n (fun s=>!so s) N).length c)/\yc w' a (qg n (fun s=>!so s) N)/\zB W w'):=fun W hW=>by
  refine(zeI n hn12 18 #[.pointer (some ⟨bt,0,none⟩)] zgH (fun s=>!so s) W (fun W' x hW' hx=>zli so N bt ta tc x (hNN▸hx) W' ((kt5.below (zT hW hW') kt5.lt).cell 0) (HBO5.out.below (zT hW hW') zN))).mono fun e w' ⟨v',h1,h2,h3⟩=>?_;rw[hNN] at h2;obtain⟨a,c,rfl,-⟩:=yU h2;exact⟨a,c,h1,za5 h2,h3⟩
 have HL2:Hid (∀W,zB W5 W->zC 17 #[.int .i64 n,.func (.func 19) #[] #[.pointer (some ⟨bt,0,none⟩),.pointer (some ⟨ba,0,none⟩)]] W fun e w'=>∃a c,e=.returned (.slice a (qg n (fun s=>so (N-1-s)) N).length c)/\yc w' a (qg n (fun s=>so (N-1-s)) N)/\zB W w'):=fun W hW=>by
  refine(zeI n hn12 19 #[.pointer (some ⟨bt,0,none⟩),.pointer (some ⟨ba,0,none⟩)] zl4 (fun s=>so (N-1-s)) W (fun W' x hW' hx=>zk4 so N bt ta tc n hn12 hNN.symm ba x (hNN▸hx) W' ((kt5.below (zT hW hW') kt5.lt).cell 0) ((ka.below (zT hW hW') ka.lt).cell 0) (HBO5.out.below (zT hW hW') zN))).mono fun e w' ⟨v',h1,h2,h3⟩=>?_;rw[hNN] at h2;obtain⟨a,c,rfl,-⟩:=yU h2;exact⟨a,c,h1,za5 h2,h3⟩
 have KR5:=zH kr5;have z3:_=some (Value.slice sa n sc):=kr5.cell 3;have HE1:Hid (qg n (fun s=>!so s) (2^n)=qg n (fun s=>!so s) N):=(show _=_ by rw[hNN]);have HE2:Hid (qg n (fun s=>so (2^n-1-s)) (2^n)=qg n (fun s=>so (N-1-s)) N):=(show _=_ by rw[hNN]);clear HBO5 kt5 ka kr5 hNN hsb hsh;generalize qg n (fun s=>!so s) N=L1 at *;generalize qg n (fun s=>so (N-1-s)) N=L2 at *;go_wp2_with fail;refine(HL1.out W5 zF).mono ?_;rintro e w6 ⟨a1,c1,rfl,hu1,hb6⟩;have z6:w6.cell? ⟨b4,3,none⟩=some (.slice sa n sc):=(KR5.out.below hb6 KR5.out.lt).cell 3;have HU1:=zH hu1;have HB6:=zH hb6;clear hu1 hb6 HL1 z3;go_wp2_with fail;refine(HL2.out w6 HB6.out).mono ?_;rintro e w7 ⟨a2,c2,rfl,hu2,hb7⟩;have HF:Hid (yc w7 a1 L1/\yc w7 a2 L2/\zB w w7):=⟨HU1.out.below hb7,hu2,HB5.out.trans ((zT HB6.out hb7).mono HB5.out.size)⟩;clear hu2 hb7 HL2 z6;go_wp2;refine bodyPost_ret (v:=.tuple #[.slice a1 L1.length c1,.slice a2 L2.length c2,.nilIface]) (by simp[results,Tryz.results7,go_sem]) rfl ?_;exact⟨a1,c1,a2,c2,by rw[HE1.out,HE2.out],by rw[HE1.out];exact HF.out.1,by rw[HE2.out];exact HF.out.2.1,HF.out.2.2⟩
end
end Go.Proofs.YtapobpgbcbplbaaGreatDoor
