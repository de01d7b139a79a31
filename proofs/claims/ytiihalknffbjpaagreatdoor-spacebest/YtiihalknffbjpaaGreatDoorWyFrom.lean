/- space: from. -/
import Derived.Shelf.SlicesG.Delete
import Derived.Lib.OwnBridge
import Derived.Test.YtiihalknffbjpaaGreatDoorSpClauses
import Derived.Test.YtiihalknffbjpaaGreatDoorWyMem
namespace Go.Proofs.YtiihalknffbjpaaGreatDoor
set_option maxHeartbeats 4000000
set_option maxRecDepth 100000
section
open Sv
def Asc(l:List It):Prop:=l.Pairwise fun x y=>zbe x y<0
theorem zej:∀(ls:List Ln) (i:Nat) (its out:List It),its.Nodup->zbj ls i its=.ok out->out.Nodup
 |[],i,its,out,h0,h=>by cases h;exact h0
 |x :: r,i,its,out,h0,h=>by
  rw[zbj] at h;split at h
  ·cases h
  ·split at h
   ·split at h
    ·cases h
    ·rename_i hx;split at h
     ·cases h
     ·refine zej r (i+1) _ out ?_ h;rw[List.nodup_append];exact ⟨h0,by simp,fun a ha b hb=>by
       have:b=x.it:=by simpa using hb
       subst this;exact fun e=>hx (e ▸ ha)⟩
   ·exact zej r (i+1) its out h0 h
def zhF(ls:List Ln):List It:=(ls.filter fun x=>decide (x.kind=1)).map Ln.it
theorem zgM:∀(ls:List Ln) (i:Nat) (its out:List It),zbj ls i its=.ok out->out=its++zhF ls
 |[],i,its,out,h=>by cases h;simp[zhF]
 |x :: r,i,its,out,h=>by
  rw[zbj] at h;split at h
  ·cases h
  ·split at h
   ·rename_i hk;split at h
    ·cases h
    ·split at h
     ·cases h
     ·have:=zgM r (i+1) _ out h;rw[this];simp[zhF,hk]
   ·rename_i hk;have:=zgM r (i+1) its out h;rw[this];simp[zhF,hk]
theorem zr5{l:List It}(h:l.Nodup):Asc (zco l):=by
 have hs:(zco l).Pairwise fun x y=>(!decide (zbe y x<0))=true:=by
  unfold zco;refine List.pairwise_mergeSort ?_ ?_ l
  ·intro a b c h1 h2;simp only[Bool.not_eq_true',decide_eq_false_iff_not] at h1 h2 ⊢;intro h3;rcases Int.lt_trichotomy (zbe b a) 0 with q|q|q
   ·exact h1 q
   ·have e:=zeH _ _ q;subst e;exact h2 h3
   ·have q':zbe a b<0:=by rw[zb6];omega
    exact h2 (zes _ _ _ h3 q')
  ·intro a b;simp only[Bool.or_eq_true,Bool.not_eq_true',decide_eq_false_iff_not];have:=zb6 a b;omega
 have hn:(zco l).Nodup:=(zb7 l).nodup_iff.2 h;refine(hs.and hn).imp fun {a b} hab=>?_;obtain⟨h1,h2⟩:=hab;simp only[Bool.not_eq_true',decide_eq_false_iff_not] at h1;have h3:=zb6 a b;rcases Int.lt_trichotomy (zbe a b) 0 with q|q|q
 ·exact q
 ·exact absurd (zeH _ _ q) h2
 ·omega
theorem zuQ{a b:List It}(ha:Asc a)(hb:Asc b)(h:a.Perm b):a=b:=by
 refine List.Perm.eq_of_pairwise (le:=fun x y=>zbe x y<0) ?_ ha hb h;intro x y _ _ h1 h2;have:=zb6 x y;omega
def zbE(l:List It)(x:It):Nat->Nat
 |0=>0
 |i+1=>if zbe x (l.getD i default)<0 then zbE l x i else i+1
def zet(l:List It)(x:It)(i:Nat):List It:=l.take i++x :: l.drop i
def zd8:List Ln->List It->List It
 |[],acc=>acc
 |x :: r,acc=>if x.kind=1 then zd8 r (zet acc x.it (zbE acc x.it acc.length)) else zd8 r acc
theorem zjB(l:List It)(x:It):∀n,zbE l x n<=n
 |0=>Nat.le_refl _
 |n+1=>by
  unfold zbE;split
  ·have:=zjB l x n;omega
  ·exact Nat.le_refl _
theorem zfA(l:List It)(x:It):∀n j,zbE l x n<=j->j<n->zbe x (l.getD j default)<0
 |0,j,_,h=>by omega
 |n+1,j,h1,h2=>by
  unfold zbE at h1;split at h1
  ·rename_i hc;rcases Nat.lt_or_ge j n with h|h
   ·exact zfA l x n j h1 h
   ·obtain rfl:j=n:=by omega
    exact hc
  ·omega
theorem zgD(l:List It)(x:It):∀n k,zbE l x n=k+1->¬zbe x (l.getD k default)<0
 |0,k,h=>by simp[zbE] at h
 |n+1,k,h=>by
  unfold zbE at h;split at h
  ·exact zgD l x n k h
  ·rename_i hc;obtain rfl:n=k:=by omega
   exact hc
theorem zfd(l:List It)(x:It)(i:Nat):(zet l x i).Perm (x :: l):=by
 unfold zet;have h:=List.perm_middle (a:=x) (l₁:=l.take i) (l₂:=l.drop i)
 rwa [List.take_append_drop] at h
theorem zgV(l:List It)(x:It)(i:Nat):(zet l x i).length=l.length+1:=by rw[(zfd l x i).length_eq];rfl
theorem ztS{l:List It}{x:It}(hl:Asc l)(hx:x∉l):Asc (zet l x (zbE l x l.length)):=by
 obtain⟨p,hp⟩:∃p,zbE l x l.length=p:=⟨_,rfl⟩;rw[hp];have hple:p<=l.length:=by rw[<-hp];exact zjB l x _
 have gd:∀j (hj:j<l.length),l.getD j default=l[j]:=fun j hj=>by rw[List.getD_eq_getElem?_getD,List.getElem?_eq_getElem hj];rfl
 have habove:∀y∈l.drop p,zbe x y<0:=fun y hy=>by
  obtain⟨j,hj,rfl⟩:=List.getElem_of_mem hy;simp only[List.length_drop] at hj;rw[List.getElem_drop,<-gd (p+j) (by omega)];exact zfA l x l.length (p+j) (by omega) (by omega)
 have hsplit:Asc (l.take p++l.drop p):=by rw[List.take_append_drop];exact hl
 obtain⟨h1,h2,h3⟩:=List.pairwise_append.1 hsplit;have hbelow:∀y∈l.take p,zbe y x<0:=fun y hy=>by
  cases p with
  |zero=>simp at hy
  |succ k =>
   have hk:k<l.length:=by omega
   have hs:=zgD l x l.length k hp;rw[gd k hk] at hs;have hne:zbe x l[k]≠0:=fun e=>hx (zeH _ _ e▸List.getElem_mem hk);have hkx:zbe l[k] x<0:=by rw[zb6];omega
   obtain⟨j,hj,rfl⟩:=List.getElem_of_mem hy;simp only[List.length_take] at hj;rw[List.getElem_take];rcases Nat.lt_or_ge j k with h|h
   ·exact zes _ _ _ ((List.pairwise_iff_getElem.1 hl) j k (by omega) hk h) hkx
   ·obtain rfl:j=k:=by omega
    exact hkx
 unfold zet;refine List.pairwise_append.2 ⟨h1,List.pairwise_cons.2 ⟨habove,h2⟩,fun a ha b hb=>?_⟩;rcases List.mem_cons.1 hb with rfl|hb
 ·exact hbelow a ha
 ·exact h3 a ha b hb
theorem zeR:∀(ls:List Ln) (acc:List It),(zd8 ls acc).Perm (acc++zhF ls)
 |[],acc=>by simp[zd8,zhF]
 |x :: r,acc=>by
  unfold zd8;split
  ·rename_i hk;refine(zeR r _).trans ?_;have e:zhF (x :: r)=x.it :: zhF r:=by simp[zhF,hk]
   rw[e];exact((zfd acc x.it _).append_right _).trans List.perm_middle.symm
  ·rename_i hk;have e:zhF (x :: r)=zhF r:=by simp[zhF,hk]
   rw[e];exact zeR r acc
theorem zhR:∀(ls:List Ln) (acc:List It),Asc acc->(acc++zhF ls).Nodup->Asc (zd8 ls acc)
 |[],acc,h,_=>by simpa[zd8] using h
 |x :: r,acc,h,hn=>by
  unfold zd8;split
  ·rename_i hk;have e:zhF (x :: r)=x.it :: zhF r:=by simp[zhF,hk]
   rw[e] at hn;have hx:x.it∉acc:=fun ha=>(List.nodup_append.1 hn).2.2 _ ha _ (by simp) rfl;refine zhR r _ (ztS h hx) ?_;refine(List.Perm.nodup_iff ?_).2 hn;exact((zfd acc x.it _).append_right _).trans List.perm_middle.symm
  ·rename_i hk;have e:zhF (x :: r)=zhF r:=by simp[zhF,hk]
   rw[e] at hn;exact zhR r acc h hn
theorem zuR{ls:List Ln}{its:List It}(h:zd7 ls=.ok its):Asc its/\zd8 ls []=its:=by
 unfold zd7 at h;split at h
 ·cases h
 ·split at h
  ·cases h
  ·rename_i g hg;split at h
   ·cases h
   ·cases h;have hn:=zej ls 0 [] g (by simp) hg;have hi:=zgM ls 0 [] g hg;simp only[List.nil_append] at hi;have ha:=zr5 hn;refine⟨ha,zuQ (zhR ls [] List.Pairwise.nil (by simpa[<-hi] using hn)) ha ?_⟩;refine(zeR ls []).trans ?_;simp only[List.nil_append,<-hi];exact(zb7 g).symm
def zxb(l:List It)(name:ByteArray)(k:Nat):Option (Nat × Nat)->Prop
 |none=>∀i,i<k->(l.getD i default).name≠name
 |some (lo,hi)=>lo<hi/\hi<=k/\(l.getD lo default).name=name/\(l.getD (hi-1) default).name=name/\∀i,i<k->(l.getD i default).name=name->lo<=i/\i<hi
theorem zui(l:List It)(name:ByteArray):∀k,k<=l.length->zxb l name k (zbr (l.take k) name)
 |0,_=>by
  simp only[List.take_zero];exact fun i h=>by omega
 |k+1,hk=>by
  have ih:=zui l name k (by omega);have e:l.take (k+1)=l.take k++[l.getD k default]:=by
   rw[List.take_add_one,List.getD_eq_getElem?_getD,List.getElem?_eq_getElem (by omega)];rfl
  have hlen:(l.take k).length=k:=by rw[List.length_take];omega
  rw[e,zeq,hlen];cases hr:zbr (l.take k) name with
  |none =>
   rw[hr] at ih;split
   ·rename_i hx;refine⟨by simp,by simp,by simpa using hx,by simpa using hx,fun i hi hn=>?_⟩;rcases Nat.lt_or_ge i k with h|h
    ·exact absurd hn (ih i h)
    ·simp;omega
   ·rename_i hx;intro i hi;rcases Nat.lt_or_ge i k with h|h
    ·exact ih i h
    ·obtain rfl:i=k:=by omega
     exact hx
  |some p =>
   obtain⟨lo,hi⟩:=p;rw[hr] at ih;obtain⟨h1,h2,h3,h4,h5⟩:=ih;split
   ·rename_i hx;show lo<k+1/\_;refine⟨by omega,Nat.le_refl _,h3,by simpa using hx,fun i hi hn=>?_⟩;rcases Nat.lt_or_ge i k with h|h
    ·have:=h5 i h hn;exact⟨this.1,by omega⟩
    ·exact⟨show lo<=i by omega,by omega⟩
   ·rename_i hx;refine⟨h1,by omega,h3,h4,fun i hi hn=>?_⟩;rcases Nat.lt_or_ge i k with h|h
    ·exact h5 i h hn
    ·obtain rfl:i=k:=by omega
     exact absurd hn hx
theorem zsE{l:List It}(h:Asc l){i j:Nat}(hj:j<l.length)(hij:i<j):zbe (l.getD i default) (l.getD j default)<0:=by
 have gd:∀j (hj:j<l.length),l.getD j default=l[j]:=fun j hj=>by rw[List.getD_eq_getElem?_getD,List.getElem?_eq_getElem hj];rfl
 rw[gd i (by omega),gd j hj];exact List.pairwise_iff_getElem.1 h i j (by omega) hj hij
theorem ziR{x y:It}(h:zbe x y<0):x.name=y.name\/Lib.compareBytes x.name.data.toList y.name.data.toList<0:=by
 unfold zbe at h;split at h
 ·rename_i e;exact Or.inl (zbq e)
 ·exact Or.inr h
theorem zuy{l:List It}(h:Asc l)(name:ByteArray)(i:Nat)(hi:i<l.length):(l.getD i default).name=name↔(zcn l name).1<=i/\i<(zcn l name).2:=by
 have hk:=zui l name l.length zN;rw[List.take_length] at hk;unfold zcn;cases hr:zbr l name with
 |none =>rw[hr] at hk;exact⟨fun e=>absurd e (hk i hi),fun e=>by simp at e⟩
 |some p =>
  obtain⟨lo,hi'⟩:=p;rw[hr] at hk;obtain⟨h1,h2,h3,h4,h5⟩:=hk;simp only[Option.getD_some];refine⟨h5 i hi,fun⟨g1,g2⟩=>?_⟩;apply Classical.byContradiction;intro hne;have n1:lo≠i:=fun e=>hne (e▸h3);have n2:hi'-1≠i:=fun e=>hne (e▸h4);have c1:=ziR (zsE h hi (show lo<i by omega));have c2:=ziR (zsE h (show hi'-1<l.length by omega) (show i<hi'-1 by omega));rw[h3] at c1;rw[h4] at c2;rcases c1 with c1|c1
  ·exact hne c1.symm
  ·rcases c2 with c2|c2
   ·exact hne c2
   ·have:=zfh name.data.toList (l.getD i default).name.data.toList;omega
theorem ziG{p q:Nat->Bool}(n lo hi:Nat)(h2:hi<=n)(h:∀i,i<n->(q i=true↔(lo<=i/\i<hi)/\p i=true)):(List.range n).filter q=(List.range' lo (hi-lo)).filter p:=by
 rcases Nat.lt_or_ge hi lo with hlh|hlh
 ·rw[show hi-lo=0 by omega];simp only[List.range'_zero,List.filter_nil,List.filter_eq_nil_iff];intro i hi';rw[List.mem_range] at hi';intro e;have:=(h i hi').1 e;omega
 ·have e:List.range n=List.range' 0 lo++(List.range' lo (hi-lo)++List.range' hi (n-hi)):=by
   rw[List.range_eq_range'];have a1:=List.range'_append_1 (s:=lo) (m:=hi-lo) (n:=n-hi);have a2:=List.range'_append_1 (s:=0) (m:=lo) (n:=(hi-lo)+(n-hi));rw[show lo+(hi-lo)=hi by omega] at a1;rw[Nat.zero_add] at a2;rw[a1,a2];congr 1;omega
  rw[e,List.filter_append,List.filter_append];have f1:(List.range' 0 lo).filter q=[]:=by
   rw[List.filter_eq_nil_iff];intro i hi';have:=List.mem_range'_1.1 hi';intro e;have:=(h i (by omega)).1 e;omega
  have f3:(List.range' hi (n-hi)).filter q=[]:=by
   rw[List.filter_eq_nil_iff];intro i hi';have:=List.mem_range'_1.1 hi';intro e;have:=(h i (by omega)).1 e;omega
  have f2:(List.range' lo (hi-lo)).filter q=(List.range' lo (hi-lo)).filter p:=by
   refine List.filter_congr fun i hi'=>?_;have:=List.mem_range'_1.1 hi';rw[Bool.eq_iff_iff,h i (by omega)];constructor
   ·exact fun e=>e.2
   ·exact fun e=>⟨by omega,e⟩
  rw[f1,f2,f3];simp
theorem ztC(l:List It)(name:ByteArray):(zcn l name).2<=l.length:=by
 have hk:=zui l name l.length zN;rw[List.take_length] at hk;unfold zcn;cases hr:zbr l name with
 |none=>simp
 |some p =>obtain⟨lo,hi'⟩:=p;rw[hr] at hk;exact hk.2.1
end
section
open Go.RowKit Go.Deep
def zwp(vals:Nat)(l:List (List Int)):Prop:=∀c∈l,∃x∈c,zkF vals x=true
theorem zu0{vals:Nat}{l:List (List Int)}(h:zhy vals l=true):zwp vals l:=fun c hc=>by
 unfold zhy at h;rw[List.all_eq_true] at h;have:=h c hc;unfold zfB at this;obtain⟨x,hx,h2⟩:=List.any_eq_true.1 this;unfold zuC at h2;rw[Bool.and_eq_true] at h2;exact⟨x,hx,h2.2⟩
end
section
open Go.RowKit Go.Deep Sv
noncomputable def zvi(l:List (List Int)):Bool:=@decide (∃vals,zwp vals l) (Classical.propDecidable _)
theorem znU{l:List (List Int)}:zvi l=true↔∃vals,zwp vals l:=by unfold zvi;exact @decide_eq_true_iff _ (Classical.propDecidable _)
end
section
open Go.RowKit Go.Deep Sv
theorem zel:∀(ls:List Ln) (i:Nat) (its out:List It),zbk its<=8->zbj ls i its=.ok out->zbk out<=8
 |[],i,its,out,h0,h=>by cases h;exact h0
 |x :: r,i,its,out,h0,h=>by
  rw[zbj] at h;split at h
  ·cases h
  ·split at h
   ·split at h
    ·cases h
    ·split at h
     ·cases h
     ·rename_i hx;exact zel r (i+1) _ out (by omega) h
   ·exact zel r (i+1) its out h0 h
theorem zlM:∀(ls:List Ln) (i:Nat) (its:List It),zbC ls i its=none->∀x∈ls,x.pair->x.it∈its
 |[],_,_,_,x,hx,_=>by cases hx
 |y :: r,i,its,h,x,hx,hp=>by
  unfold zbC at h;split at h
  ·cases h
  ·rename_i hy;rcases List.mem_cons.1 hx with rfl|hx
   ·exact Classical.byContradiction fun e=>hy ⟨hp,e⟩
   ·exact zlM r (i+1) its h x hx hp
theorem zrU{ls:List Ln}{its:List It}(h:zd7 ls=.ok its):(∀x∈ls,x.pair->x.it∈its)/\∃g:List It,zbk g<=8/\its.Perm g:=by
 unfold zd7 at h;split at h
 ·cases h
 ·split at h
  ·cases h
  ·rename_i g hg;split at h
   ·cases h
   ·rename_i hm;cases h;exact⟨zlM ls 0 _ hm,g,zel ls 0 [] g (by decide) hg,zb7 g⟩
theorem zpL{its:List It}{x:It}(h:x∈its):0<=zaZ its x/\zaZ its x<its.length:=by
 unfold zaZ;cases hf:its.findIdx? (fun y=>decide (x=y)) with
 |none =>rw[List.findIdx?_eq_none_iff] at hf;have:=hf x h;simp at this
 |some i =>rw[List.findIdx?_eq_some_iff_getElem] at hf;obtain⟨hi,_⟩:=hf;exact⟨by simp,by simpa using hi⟩
theorem zhf(its:List It)(nm:ByteArray)(rng:List zau):zfH its.length ((zaP its nm rng).map fun (k:Nat)=>((k:Int)+1)):=fun x hx=>by
 obtain⟨k,hk,rfl⟩:=List.mem_map.1 hx;have:=zc8 its nm rng k hk;rw[zbx];omega
theorem zlN{ls:List Ln}{its:List It}(h:zd7 ls=.ok its):∀x∈ofL its ls,zfH its.length x.2/\x.2.length<=48:=by
 intro x hx;have hl:=(zkE h).1;rcases List.mem_append.1 hx with hx|hx
 ·obtain⟨k,hk,hx⟩:=List.mem_flatMap.1 hx;obtain⟨j,hj,hx⟩:=List.mem_flatMap.1 hx;have hk':=List.mem_range.1 hk;have hj':=List.mem_range.1 hj;unfold pr0 at hx;split at hx
  ·rw[List.mem_singleton] at hx;subst hx;refine⟨fun y hy=>?_,by simp⟩;simp only[List.mem_cons,List.not_mem_nil,or_false] at hy;rw[zbx];unfold zaI at hy;rcases hy with rfl|rfl<;>omega
  ·cases hx
 ·obtain⟨n,hn,hx⟩:=List.mem_flatMap.1 hx;have hn':=List.mem_range.1 hn;have hmem:ls.getD n default∈ls:=by rw[List.getD_eq_getElem?_getD,List.getElem?_eq_getElem hn'];exact List.getElem_mem hn'
  have hpair:=(zrU h).1 _ hmem;generalize ls.getD n default=X at *;have l1:=zb5 its X.name X.rng;have l2:=zb5 its X.other X.rng;unfold zcQ at hx;split at hx
  ·rw[List.mem_singleton] at hx;subst hx;exact⟨zhf _ _ _,by simp;omega⟩
  ·split at hx
   ·rename_i hk;rw[List.mem_singleton] at hx;subst hx;have hnb:=zpL (hpair (Or.inl hk));refine⟨fun y hy=>?_,by simp;omega⟩;rcases List.mem_cons.1 hy with rfl|hy
    ·rw[zbx];unfold zaI;omega
    ·exact zhf _ _ _ y hy
   ·split at hx
    ·rename_i hk;obtain⟨k,hk2,rfl⟩:=List.mem_map.1 hx;have hnb:=zpL (hpair (Or.inr hk));have hka:=zc8 its X.other X.rng k hk2;refine⟨fun y hy=>?_,by simp⟩;simp only[List.mem_cons,List.not_mem_nil,or_false] at hy;rw[zbx];unfold zaI at hy;rcases hy with rfl|rfl<;>omega
    ·cases hx
end
namespace Bd
open Go.RowKit Go.Deep Sv
structure ze0(B:Nat)(w:World)(p s b:Nat)(O:Nat->Prop)(vars:Nat)(room:Int)(st:List Nd × Int):Prop where
 space:zag B w s b O vars room st.1
 blk:Blk w p 37 #[.pointer (some ⟨s,0,none⟩),.int .i64 st.2]
 out:¬O p
theorem zag.base{B B' s b vars:Nat}{O:Nat->Prop}{room:Int}{ns:List Nd}{w:World}(h:zag B w s b O vars room ns)(hB:B'<=B):zag B' w s b O vars room ns:=by
 obtain⟨bm,v,L,next,hA,h1,h2,h3⟩:=h.arena;exact⟨⟨bm,v,L,next,⟨hA.lt,hA.croom,hA.cnodes,hA.cmap,hA.cnext,hA.froz,Go.Proofs.YtiihalknffbjpaaGreatDoor.Bd.ownsRow_base hA.row hB,hA.hmap,hA.d1,hA.d2,hA.d3,Nat.le_trans hB hA.B1,Nat.le_trans hB hA.B2⟩,h1,h2,h3⟩,fun k hk=>⟨Nat.le_trans hB (h.own k hk).1,(h.own k hk).2⟩,h.sO,h.slt,h.c0,h.c1⟩
theorem ze0.new{B p s b vars:Nat}{O:Nat->Prop}{room:Int}{st:List Nd × Int}{w w':World}(h:ze0 B w p s b O vars room st)(hb:zB w w'):ze0 B w' p s b O vars room st :=
 ⟨h.space.new hb,h.blk.below hb h.blk.lt,h.out⟩
theorem zpC{B:Nat}{W:World}{a:Option Addr}{c:Nat}{fv:Value}{P:List (Int × List Int)}(h:RS B W (.slice a P.length c) fv (P.map Prod.snd) (P.map Prod.fst)):zey W a (P.map Prod.snd):=by
 obtain⟨cs,h1,h2,_⟩:=h.crow;exact zg5.cls (B:=0) (cap:=c) h2 (by simpa using ownsRow_base h1 (Nat.zero_le _))
theorem ztW(bk:Nat)(ls:List Ln)(its:List It)(w:World)(h:zfI w bk ls its)(hN:zd7 ls=.ok its)(hl:its.length<=10)(hll:ls.length<=120)(hnm:∀x∈ls,x.name.size<=100000/\x.other.size<=100000)(hP:(ofL its ls).length<=200)(room:Int)(hr0:0<=room)(hr4:room<=4000)(hrl:((2*2^its.length+25*its.length:Nat):Int)<=room+1) :
  zC 15 #[.pointer (some ⟨bk,0,none⟩),.int .i64 room] w fun e w'=>∃p s b O,e=.returned (.tuple #[.pointer (some ⟨p,0,none⟩),.nilIface])/\ze0 w.heap.size w' p s b O its.length room (clF ((ofL its ls).map Prod.snd))/\zB w w':=by
 have HO:Hid (zC 73 #[.pointer (some ⟨bk,0,none⟩)] w fun e w'=>∃a c fa fn fc,e=.returned (.tuple #[.agg #[.int .i64 its.length,.slice a (ofL its ls).length c,.slice fa fn fc],.nilIface])/\zey w' a ((ofL its ls).map Prod.snd)/\zB w w'):=(zxn bk ls its w h (by omega) hll hnm).mono fun e w' hr=>by
  rcases hr with ⟨h1,-⟩|⟨-,cv,fv,h1,h2,h3⟩
  ·omega
  ·obtain⟨cs,c1,-⟩:=h2.crow;obtain⟨a,c,rfl,-,-⟩:=Go.Proofs.YtiihalknffbjpaaGreatDoor.row_form c1;obtain⟨fa,fc,rfl,-,-⟩:=Go.Proofs.YtiihalknffbjpaaGreatDoor.row_form h2.frow;rw[List.length_map] at h1 h2;exact⟨a,c,fa,_,fc,h1,zpC h2,h3⟩
 have hfine:=zlN hN;have hLL:zed its.length ((ofL its ls).map Prod.snd):=fun c hc=>by
  obtain⟨x,hx,rfl⟩:=List.mem_map.1 hc;exact(hfine x hx).1
 have hmc:∀c∈(ofL its ls).map Prod.snd,c.length<=9223372036854775807:=fun c hc=>by
  obtain⟨x,hx,rfl⟩:=List.mem_map.1 hc;have:=(hfine x hx).2;omega
 have hKl:((ofL its ls).map Prod.snd).length=(ofL its ls).length:=List.length_map _;generalize (ofL its ls).map Prod.snd=K at *;rw[<-hKl] at HO hP;have HLL:=zH hLL;have HMC:=zH hmc;have HRL:=zH hrl;clear h hnm hfine hLL hmc hN hKl hrl;generalize its.length=vars at *;go_enter Tryz.func15,Tryz.ntmps15;go_wp2_with fail;refine HO.out.mono ?_;rintro e w1 ⟨a,c,fa,fn,fc,rfl,hI1,hb1⟩;have kR:=Blk.new w1 65 #[.int .i64 vars,.slice a K.length c,.slice fa fn fc];have hbA:=Go.Proofs.YtiihalknffbjpaaGreatDoor.below_new w1 (.cells #[.int .i64 vars,.slice a K.length c,.slice fa fn fc] 65);have hIA:=hI1.below hbA;have hb2:=zT hb1 hbA;clear HO hI1;go_upto_region 4 with fail;generalize w1.alloc (.cells #[.int .i64 vars,.slice a K.length c,.slice fa fn fc] 65)=WA at *;have HNW:=zH (zqG vars (by omega) room hr0 hr4 WA WA.heap.size zN);have HIA:=zH hIA;have HB2:=zH hb2;have kc0:=kR.cell 0;have KR:=zH kR;have hsz:=hb2.size;have hw1:=hbA.size;clear hIA hb2 kR hbA hb1;go_wp2_with fail;refine HNW.out.mono ?_;rintro e w2 ⟨s,b,O,rfl,hS,hs,hO,hb3⟩;have HCL:=zH (zoa (w0:=WA) hr4 HRL.out hb3 hS hl K HLL.out a c HIA.out (by omega) HMC.out);have kr2:w2.cell? ⟨w1.heap.size,1,none⟩=some (.slice a K.length c):=(KR.out.below hb3 KR.out.lt).cell 1;have hs2:=hS.slt;have HB3:=zH hb3;have hso:=fun k h=>(hS.own k h).2;clear hS hb3 HNW;go_wp2_with fail;refine HCL.out.mono ?_;rintro e w3 ⟨rfl,O3,hS3,hM3⟩;have hw3:=hM3.size;have hw2:=HB3.out.size;have hb4:zB WA w3:=HB3.out.trans (hM3.below hw2 hO);have hb5:zB w3 (w3.alloc (.cells #[.pointer (some ⟨s,0,none⟩),.int .i64 (clF K).2] 37)):=Go.Proofs.YtiihalknffbjpaaGreatDoor.below_new w3 _;have HFIN:Hid (ze0 w.heap.size (w3.alloc (.cells #[.pointer (some ⟨s,0,none⟩),.int .i64 (clF K).2] 37)) w3.heap.size s b O3 vars room (clF K)):=⟨(hS3.new hb5).base hsz,Blk.new _ _ _,fun h=>by have:=(hS3.own _ h).2;omega⟩;have HBF:Hid (zB w (w3.alloc (.cells #[.pointer (some ⟨s,0,none⟩),.int .i64 (clF K).2] 37))):=(HB2.out.trans (hb4.mono hsz)).trans (hb5.mono (by omega));clear hS3 hM3 hb4 hb5 HCL;go_wp2;go_ret2;exact⟨_,s,b,O3,rfl,HFIN.out,HBF.out⟩
end Bd
namespace Bd
open Go.RowKit Go.Maps Go.Deep
structure zuv(W0:World)(B p s b:Nat)(O:Nat->Prop)(vars:Nat)(room:Int)(st:List Nd × Int)(F:FuncId)(cb:Array Value)(C:zcq)(dk:Nat):Prop where
 sol:ze0 B W0 p s b O vars room st
 good:zcI vars st.1
 len:st.1.length<=90000
 v24:vars<=24
 ent:∀args w,(callFunc F args).run Tryz.prog w=.ok (.enter F args) w
 cok:zc9 C
 cat:zdy W0 F cb C vars
 dkl:W0.heap.size<=dk
def zkx(C:zcq)(dk vars:Nat)(ns:List Nd)(r:Wy)(W:World)(e:Ending)(w':World):Prop:=e=.returned r.val/\∃L',zdR C w' dk vars ns L'/\zan (fun k=>k=dk) W w'
abbrev wkV(p:Nat)(F:FuncId)(cb:Array Value)(dk:Nat):Value:=.agg #[.pointer (some ⟨p,0,none⟩),.func (.func F) #[] cb,.map (some dk)]
section
variable {W0:World} {B p s b:Nat} {O:Nat->Prop} {vars:Nat} {room:Int} {st:List Nd × Int} {F:FuncId} {cb:Array Value} {C:zcq} {dk:Nat}
def zl8(W0:World)(p vars:Nat)(ns:List Nd)(F:FuncId)(cb:Array Value)(C:zcq)(dk d:Nat):Prop :=
 ∀(h:Int) (L:List (Int × Wy)) (W:World),zB W0 W->zdR C W dk vars ns L->zaV ns h=true->24<=zaa ns h+d->zC 298 #[wkV p F cb dk,.int .i64 h] W (zkx C dk vars ns (zbA C vars ns h) W)
def zpR(W0:World)(p vars:Nat)(ns:List Nd)(F:FuncId)(cb:Array Value)(C:zcq)(dk d:Nat):Prop :=
 ∀(h:Int) (v:Nat) (L:List (Int × Wy)) (W:World),zB W0 W->zdR C W dk vars ns L->zaV ns h=true->(v:Int)<=zaa ns h->v<=vars->24<=zaa ns h+d->zC 237 #[wkV p F cb dk,.int .i64 v,.int .i64 h] W (zkx C dk vars ns (zaA C vars ns h v) W)
theorem _root_.Go.Proofs.YtiihalknffbjpaaGreatDoor.Blk.keptB{S:Nat->Prop}{w w':World}{q:Nat}{t:TypeId}{cs:Array Value}(h:Blk w q t cs)(hk:zan S w w')(hn:¬S q):Blk w' q t cs:=(hk.block q h.lt hn).trans h
structure FrS(C:zcq)(W0 W:World)(p dk vars:Nat)(ns:List Nd)(F:FuncId)(cb:Array Value)(q:Nat)(x:Wy)(X:World):Prop where
 w0:Blk X W.heap.size 357 #[.pointer (some ⟨p,0,none⟩),.func (.func F) #[] cb,.map (some dk)]
 w1:Blk X (W.heap.size+1) 279 #[.int .u64 0,.int .i64 0,.bool false]
 w2:Blk X q 279 #[.int .u64 x.items,.int .i64 x.cost,.bool x.can]
 q1:W.heap.size+1<q
 dq:dk≠q
 bel:zB W0 X
 way:∃L',zdR C X dk vars ns L'
 kep:zan (fun k=>k=dk) W X
theorem FrS.below{W X X':World}{ns:List Nd}{q:Nat}{x:Wy}(h:FrS C W0 W p dk vars ns F cb q x X)(hb:zB X X'):FrS C W0 W p dk vars ns F cb q x X':=by
 obtain⟨L',hL⟩:=h.way;exact⟨h.w0.below hb h.w0.lt,h.w1.below hb h.w1.lt,h.w2.below hb h.w2.lt,h.q1,h.dq,zT h.bel hb,⟨L',hL.new hb⟩,h.kep.andThen (zan.of_below hb (fun _=>False)) (fun _ h _=>h.elim)⟩
theorem FrS.put{W X:World}{ns:List Nd}{q:Nat}{x:Wy}(h:FrS C W0 W p dk vars ns F cb q x X)(hW:W0.heap.size<=W.heap.size)(y:Wy):FrS C W0 W p dk vars ns F cb q y (((X.setCell ⟨q,0,none⟩ (.int .u64 y.items)).setCell ⟨q,1,none⟩ (.int .i64 y.cost)).setCell ⟨q,2,none⟩ (.bool y.can)):=by
 obtain⟨L',hL⟩:=h.way;have h1:=h.q1;have h2:=h.dq;have hk:zan (fun k=>k=q) X (((X.setCell ⟨q,0,none⟩ (.int .u64 y.items)).setCell ⟨q,1,none⟩ (.int .i64 y.cost)).setCell ⟨q,2,none⟩ (.bool y.can)) :=
  ((zan.setCell (S:=fun k=>k=q) X ⟨q,0,none⟩ _ rfl).andThen (zan.setCell (S:=fun k=>k=q) _ ⟨q,1,none⟩ _ rfl) (fun _ h _=>h)).andThen (zan.setCell (S:=fun k=>k=q) _ ⟨q,2,none⟩ _ rfl) (fun _ h _=>h)
 exact ⟨((h.w0.other (by omega)).other (by omega)).other (by omega),((h.w1.other (by omega)).other (by omega)).other (by omega),zof h.w2 _ _ _,h1,h2,
  ((h.bel.setCell (p:=⟨q,0,none⟩) (by show W0.heap.size<=q;omega) _).setCell (p:=⟨q,1,none⟩) (by show W0.heap.size<=q;omega) _).setCell (p:=⟨q,2,none⟩) (by show W0.heap.size<=q;omega) _,
  ⟨L',hL.kept hk h2⟩,h.kep.andThen hk (fun i e hi=>by omega)⟩
theorem ziH(cx:zuv W0 B p s b O vars room st F cb C dk){d:Nat}(ih:zl8 W0 p vars st.1 F cb C dk d):zpR W0 p vars st.1 F cb C dk d:=by
 intro h v L W hW hM hh hvt hvv hd;have hi64:=zbY hh (by have:=cx.len;omega);have hr:=cx.good.ranked;have h24:=zar hr h;have hv24:=cx.v24;have hdkW:=hM.lt;have hW0:=hW.size;have k0:=(Blk.new W 357 #[.pointer (some ⟨p,0,none⟩),.func (.func F) #[] cb,.map (some dk)]).alloc (.cells #[.int .u64 0,.int .i64 0,.bool false] 279);have k1:=Blk.new (W.alloc (.cells #[.pointer (some ⟨p,0,none⟩),.func (.func F) #[] cb,.map (some dk)] 357)) 279 #[.int .u64 0,.int .i64 0,.bool false];simp only[World.size_alloc] at k1;have hbA:zB W ((W.alloc (.cells #[.pointer (some ⟨p,0,none⟩),.func (.func F) #[] cb,.map (some dk)] 357)).alloc (.cells #[.int .u64 0,.int .i64 0,.bool false] 279)):=((Below.refl _ W).alloc zN _).alloc (by simp only[World.size_alloc];omega) _;have hszA:((W.alloc (.cells #[.pointer (some ⟨p,0,none⟩),.func (.func F) #[] cb,.map (some dk)] 357)).alloc (.cells #[.int .u64 0,.int .i64 0,.bool false] 279)).heap.size=W.heap.size+1+1:=by simp only[World.size_alloc]
 have HCX:=zH cx;have HTN:Hid ((zjg vars st.1 h:Int)=min (zaa st.1 h) (vars:Int)):=by show _=_;unfold zjg;omega
 have htn:v<=zjg vars st.1 h:=by unfold zjg;omega
 have htv:zjg vars st.1 h<=vars:=by unfold zjg;omega
 have HBL:Hid (zbA C vars st.1 h=zaA C vars st.1 h (zjg vars st.1 h)):=rfl;have HGAP:Hid (∀k,k<zjg vars st.1 h->zaA C vars st.1 h k=zka C k (zaA C vars st.1 h (k+1)) (zaA C vars st.1 h (k+1))):=fun k hk=>zry cx.good hk;have HOK:Hid (∀k,k<=vars->(0<=(zaA C vars st.1 h k).cost/\(zaA C vars st.1 h k).cost<=24000000)/\(zaA C vars st.1 h k).items<2^24):=fun k hk=>by
  have:=zhG (ns:=st.1) cx.cok hv24 h k;exact⟨⟨this.1,this.2.1⟩,Nat.lt_of_lt_of_le (this.2.2 hk) (Nat.pow_le_pow_right (by omega) hv24)⟩
 have HCB:Hid (zC 298 #[wkV p F cb dk,.int .i64 h] ((W.alloc (.cells #[.pointer (some ⟨p,0,none⟩),.func (.func F) #[] cb,.map (some dk)] 357)).alloc (.cells #[.int .u64 0,.int .i64 0,.bool false] 279)) (zkx C dk vars st.1 (zbA C vars st.1 h) ((W.alloc (.cells #[.pointer (some ⟨p,0,none⟩),.func (.func F) #[] cb,.map (some dk)] 357)).alloc (.cells #[.int .u64 0,.int .i64 0,.bool false] 279)))):=ih h L _ (hW.trans (hbA.mono hW0)) (hM.new hbA) hh hd;rw[HBL.out] at HCB;generalize htp:zjg vars st.1 h=tp at *;clear HBL htp;have HWW:=zH hW;unfold wkV;unfold wkV at HCB;go_enter Tryz.func237,Tryz.ntmps237;go_upto_region 1 with fail;generalize hWA:(W.alloc (.cells #[.pointer (some ⟨p,0,none⟩),.func (.func F) #[] cb,.map (some dk)] 357)).alloc (.cells #[.int .u64 0,.int .i64 0,.bool false] 279)=WA at *;have c0:=k0.cell 0;have c1:=k0.cell 1;have c2:=k0.cell 2;go_wp2_with fail;refine HCB.out.mono ?_;rintro e w1 ⟨rfl,L1,hM1,hk1⟩;obtain⟨X,hX⟩:∃X,zaA C vars st.1 h tp=X:=⟨_,rfl⟩;rw[hX];unfold Wy.val;have hw1:=hk1.size;have ndk:dk≠W.heap.size:=by omega
 have ndk1:dk≠W.heap.size+1:=by omega
 have hbB:zB w1 (w1.alloc (.cells #[.int .u64 X.items,.int .i64 X.cost,.bool X.can] 279)):=Go.Proofs.YtiihalknffbjpaaGreatDoor.below_new w1 _;have kp1:∀{q:Nat} {t:TypeId} {cs:Array Value},Blk WA q t cs->dk≠q->Blk w1 q t cs:=fun {q t cs} hB hne=>hB.keptB hk1 (fun e=>hne e.symm);have hFS:FrS C W0 W p dk vars st.1 F cb w1.heap.size X (w1.alloc (.cells #[.int .u64 X.items,.int .i64 X.cost,.bool X.can] 279)):=by
  have hA1:zB W0 WA:=HWW.out.trans (hbA.mono hW0);have hd0:=HCX.out.dkl;exact⟨(kp1 k0 ndk).alloc _,(kp1 k1 ndk1).alloc _,Blk.new _ _ _,by omega,by omega,(hA1.trans (hk1.below (by omega) (fun i e=>by omega))).trans (hbB.mono (by omega)),⟨L1,hM1.new hbB⟩,((zan.of_below hbA (fun k=>k=dk)).andThen hk1 (fun _ h _=>h)).andThen (zan.of_below hbB (fun _=>False)) (fun _ h _=>h.elim)⟩
 have HFS0:=zH hFS;have HX:=zH hX;clear HCB hM1 hk1 kp1 k0 k1 hbA hbB c0 c1 c2 hFS hX hM hWA;go_upto_region 2 with fail;generalize hq:w1.heap.size=q at *;generalize w1.alloc (.cells #[.int .u64 X.items,.int .i64 X.cost,.bool X.can] 279)=W2 at *;have hsol2:=HCX.out.sol.new HFS0.out.bel;have c0:_=some (Value.pointer (some ⟨p,0,none⟩)):=HFS0.out.w0.cell 0;have c1:_=some (Value.pointer (some ⟨s,0,none⟩)):=hsol2.blk.cell 0;have c2:W2.cell? ⟨s,0,none⟩=some (.pointer (some ⟨b,0,none⟩)):=hsol2.space.c0;have HTQ:Hid (∀n,zC 164 #[.pointer (some ⟨b,0,none⟩),.int .i64 h] (W2.drewN n) fun e w'=>e=.returned (.int .i64 (zaa st.1 h))/\w'=W2.drewN n):=fun n=>(zvN (hsol2.space.new (zat _ W2 n)) h hi64 (by have:=HCX.out.len;omega)).mono fun e w' ⟨h1,h2⟩=>⟨h1,h2.symm⟩;have HVQ:Hid (∀n,zC 16 #[.pointer (some ⟨s,0,none⟩)] (W2.drewN n) fun e w'=>e=.returned (.int .i64 vars)/\w'=W2.drewN n):=fun n=>(zll (hsol2.space.new (zat _ W2 n))).mono fun e w' ⟨h1,h2⟩=>⟨h1,h2.symm⟩;clear hsol2;have hmin:min (zaa st.1 h) (vars:Int)-1=(tp:Int)-1:=by have:=HTN.out;omega
 go_quiet (first|(go_at_call 164;refine Calls.quiet_of_same (HTQ.out _))|(go_at_call 16;refine Calls.quiet_of_same (HVQ.out _)));have HFS1:=zH (HFS0.out.below (zat _ W2 nq));clear c0 c1 c2 HTQ HVQ HFS0;generalize W2.drewN nq=W3 at *;rw[<-HX.out] at HFS1;clear HX;go_wp2_with fail;go_loopw [8] (fun i wr=>∃k:Nat,i=.int .i64 ((k:Int)-1)/\v<=k/\k<=tp/\FrS C W0 W p dk vars st.1 F cb q (zaA C vars st.1 h k) wr) (fun i _=>(intOf i+1).toNat)
 case atStart=>exact⟨tp,by first|rfl|go_num,htn,Nat.le_refl _,HFS1.out⟩
 case round =>
  clear HFS1;obtain⟨k,rfl,hvk,hkt,hfs⟩:=hrel;have hokk:=HOK.out k (by omega)
  by_cases hke:k=v
  ·subst hke;obtain⟨X,hX⟩:∃X,zaA C vars st.1 h k=X:=⟨_,rfl⟩;rw[hX] at hfs;have e0:=hfs.w2.cell 0;have e1:=hfs.w2.cell 1;have e2:=hfs.w2.cell 2;have z0:=hfs.w1.cell 0;have z1:=hfs.w1.cell 1;have z2:=hfs.w1.cell 2;have y0:=hfs.w1.frozen 0;have y1:=hfs.w1.frozen 1;have y2:=hfs.w1.frozen 2;have hres:=zof hfs.w1 (.int .u64 X.items) (.int .i64 X.cost) (.bool X.can);have r0:=hres.cell 0;have r1:=hres.cell 1;have r2:=hres.cell 2;have HFIN:Hid (∃L',zdR C (((wr.setCell ⟨W.heap.size+1,0,none⟩ (.int .u64 X.items)).setCell ⟨W.heap.size+1,1,none⟩ (.int .i64 X.cost)).setCell ⟨W.heap.size+1,2,none⟩ (.bool X.can)) dk vars st.1 L'/\zan (fun k=>k=dk) W (((wr.setCell ⟨W.heap.size+1,0,none⟩ (.int .u64 X.items)).setCell ⟨W.heap.size+1,1,none⟩ (.int .i64 X.cost)).setCell ⟨W.heap.size+1,2,none⟩ (.bool X.can))):=by
    obtain⟨L',hL⟩:=hfs.way;have hk:zan (fun k=>k=W.heap.size+1) wr (((wr.setCell ⟨W.heap.size+1,0,none⟩ (.int .u64 X.items)).setCell ⟨W.heap.size+1,1,none⟩ (.int .i64 X.cost)).setCell ⟨W.heap.size+1,2,none⟩ (.bool X.can)) :=
     ((zan.setCell (S:=fun k=>k=W.heap.size+1) wr ⟨W.heap.size+1,0,none⟩ _ rfl).andThen (zan.setCell (S:=fun k=>k=W.heap.size+1) _ ⟨W.heap.size+1,1,none⟩ _ rfl) (fun _ h _=>h)).andThen (zan.setCell (S:=fun k=>k=W.heap.size+1) _ ⟨W.heap.size+1,2,none⟩ _ rfl) (fun _ h _=>h)
    exact⟨L',hL.kept hk ndk1,hfs.kep.andThen hk (fun i e hi=>by omega)⟩
   have HX:=zH hX;clear hfs hres hX;go_wp2;refine bodyPost_ret (v:=.agg #[.int .u64 X.items,.int .i64 X.cost,.bool X.can]) (by simp[results,Tryz.f237,go_sem,r0,r1,r2]) rfl ?_;exact⟨by rw[HX.out];rfl,HFIN.out⟩
  ·obtain⟨j,rfl⟩:∃j,k=j+1:=⟨k-1,by omega⟩;have hgap:=HGAP.out j (by omega);obtain⟨X,hX⟩:∃X,zaA C vars st.1 h (j+1)=X:=⟨_,rfl⟩;rw[hX] at hfs hgap hokk;have HBT:Hid (zC 299 #[.agg #[.pointer (some ⟨p,0,none⟩),.func (.func F) #[] cb,.map (some dk)],.int .i64 j,.agg #[.int .u64 X.items,.int .i64 X.cost,.bool X.can],.agg #[.int .u64 X.items,.int .i64 X.cost,.bool X.can]] wr fun e w'=>e=.returned (zka C j X X).val/\zB wr w'):=zl5 F cb C vars hv24 HCX.out.ent HCX.out.cok HCX.out.cat hfs.bel p dk j (by omega) X X hokk.1 hokk.1 hokk.2;obtain⟨Y,hY⟩:∃Y,zka C j X X=Y:=⟨_,rfl⟩;rw[hY] at HBT hgap;unfold Wy.val at HBT;have e0:=hfs.w2.cell 0;have e1:=hfs.w2.cell 1;have e2:=hfs.w2.cell 2;have a0:=hfs.w0.cell 0;have a1:=hfs.w0.cell 1;have a2:=hfs.w0.cell 2;have hjw:((j+1:Nat):Int)-1=(j:Int):=by omega
   rw[hjw];have hj1:(v:Int)<=(j:Int):=by omega
   have hj0:(0:Int)<=(j:Int):=by omega
   have HFS:=zH hfs;have HGP:=zH hgap;clear hfs hgap hX hY hjw hokk;go_wp2_with fail;refine HBT.out.mono ?_;rintro e w5 ⟨rfl,hb5⟩;have hf5:=HFS.out.below hb5;have f0:=hf5.w2.cell 0;have f1:=hf5.w2.cell 1;have f2:=hf5.w2.cell 2;have g0:=hf5.w2.frozen 0;have g1:=hf5.w2.frozen 1;have g2:=hf5.w2.frozen 2;have HFN:Hid (FrS C W0 W p dk vars st.1 F cb q (zaA C vars st.1 h j) (((w5.setCell ⟨q,0,none⟩ (.int .u64 Y.items)).setCell ⟨q,1,none⟩ (.int .i64 Y.cost)).setCell ⟨q,2,none⟩ (.bool Y.can))):=by
    show FrS _ _ _ _ _ _ _ _ _ _ _ _;rw[HGP.out];exact hf5.put hW0 Y
   clear hf5 hb5 HBT HFS e0 e1 e2 a0 a1 a2;go_wp2;go_roundw
   case rel=>exact⟨j,by go_num,by omega,by omega,HFN.out⟩
   case measure=>first|(simp[intOf];done)|(simp[intOf];omega)
end
end Bd
end Go.Proofs.YtiihalknffbjpaaGreatDoor
