/- plan: keeps (printed by gen/genkeeps.py). -/
import Derived.Test.YtlamemjfaogjmaaGreatDoorCtReadP
set_option maxHeartbeats 2000000
set_option maxRecDepth 100000
namespace Go.Proofs.YtlamemjfaogjmaaGreatDoor
section
open Sv
def Asc(l:List It):Prop:=l.Pairwise fun x y=>zw x y<0
theorem Xe:∀(ls:List Ln) (i:Nat) (its out:List It),its.Nodup->zE ls i its=.ok out->out.Nodup
 |[],i,its,out,h0,h=>by cases h;exact h0
 |x :: r,i,its,out,h0,h=>by
  rw[zE] at h;split at h
  ·cases h
  ·split at h
   ·split at h
    ·cases h
    ·rename_i hx;split at h
     ·cases h
     ·refine Xe r (i+1) _ out ?_ h;rw[List.nodup_append];exact ⟨h0,by simp,fun a ha b hb=>by
       have:b=x.it:=by simpa using hb
       subst this;exact fun e=>hx (e ▸ ha)⟩
   ·exact Xe r (i+1) its out h0 h
def qy(ls:List Ln):List It:=(ls.filter fun x=>decide (x.kind=1)).map Ln.it
theorem Ya:∀(ls:List Ln) (i:Nat) (its out:List It),zE ls i its=.ok out->out=its++qy ls
 |[],i,its,out,h=>by cases h;simp[qy]
 |x :: r,i,its,out,h=>by
  rw[zE] at h;split at h
  ·cases h
  ·split at h
   ·rename_i hk;split at h
    ·cases h
    ·split at h
     ·cases h
     ·have:=Ya r (i+1) _ out h;rw[this];simp[qy,hk]
   ·rename_i hk;have:=Ya r (i+1) its out h;rw[this];simp[qy,hk]
theorem zco{l:List It}(h:l.Nodup):Asc (qq l):=by
 have hs:(qq l).Pairwise fun x y=>(!decide (zw y x<0))=true:=by
  unfold qq;refine List.pairwise_mergeSort ?_ ?_ l
  ·intro a b c h1 h2;simp only[Bool.not_eq_true',decide_eq_false_iff_not] at h1 h2 ⊢;intro h3;rcases Int.lt_trichotomy (zw b a) 0 with q|q|q
   ·exact h1 q
   ·have e:=Z0 _ _ q;subst e;exact h2 h3
   ·have q':zw a b<0:=by rw[Zi];omega
    exact h2 (Yr _ _ _ h3 q')
  ·intro a b;simp only[Bool.or_eq_true,Bool.not_eq_true',decide_eq_false_iff_not];have:=Zi a b;omega
 have hn:(qq l).Nodup:=(xP l).nodup_iff.2 h;refine(hs.and hn).imp fun {a b} hab=>?_;obtain⟨h1,h2⟩:=hab;simp only[Bool.not_eq_true',decide_eq_false_iff_not] at h1;have h3:=Zi a b;rcases Int.lt_trichotomy (zw a b) 0 with q|q|q
 ·exact q
 ·exact absurd (Z0 _ _ q) h2
 ·omega
theorem zhz{a b:List It}(ha:Asc a)(hb:Asc b)(h:a.Perm b):a=b:=by
 refine List.Perm.eq_of_pairwise (le:=fun x y=>zw x y<0) ?_ ha hb h;intro x y _ _ h1 h2;have:=Zi x y;omega
def qG(l:List It)(x:It):Nat->Nat
 |0=>0
 |i+1=>if zw x (l.getD i default)<0 then qG l x i else i+1
def yj(l:List It)(x:It)(i:Nat):List It:=l.take i++x :: l.drop i
def zP:List Ln->List It->List It
 |[],acc=>acc
 |x :: r,acc=>if x.kind=1 then zP r (yj acc x.it (qG acc x.it acc.length)) else zP r acc
theorem KY(l:List It)(x:It):∀n,qG l x n<=n
 |0=>Nat.le_refl _
 |n+1=>by
  unfold qG;split
  ·have:=KY l x n;omega
  ·exact Nat.le_refl _
theorem K2(l:List It)(x:It):∀n j,qG l x n<=j->j<n->zw x (l.getD j default)<0
 |0,j,_,h=>by omega
 |n+1,j,h1,h2=>by
  unfold qG at h1;split at h1
  ·rename_i hc;rcases Nat.lt_or_ge j n with h|h
   ·exact K2 l x n j h1 h
   ·obtain rfl:j=n:=by omega
    exact hc
  ·omega
theorem XV(l:List It)(x:It):∀n k,qG l x n=k+1->¬zw x (l.getD k default)<0
 |0,k,h=>by simp[qG] at h
 |n+1,k,h=>by
  unfold qG at h;split at h
  ·exact XV l x n k h
  ·rename_i hc;obtain rfl:n=k:=by omega
   exact hc
theorem Xj(l:List It)(x:It)(i:Nat):(yj l x i).Perm (x :: l):=by
 unfold yj;have h:=List.perm_middle (a:=x) (l₁:=l.take i) (l₂:=l.drop i)
 rwa [List.take_append_drop] at h
theorem Yu(l:List It)(x:It)(i:Nat):(yj l x i).length=l.length+1:=by rw[(Xj l x i).length_eq];rfl
theorem zed{l:List It}{x:It}(hl:Asc l)(hx:x∉l):Asc (yj l x (qG l x l.length)):=by
 obtain⟨p,hp⟩:∃p,qG l x l.length=p:=⟨_,rfl⟩;rw[hp];have hple:p<=l.length:=by rw[<-hp];exact KY l x _
 have gd:∀j (hj:j<l.length),l.getD j default=l[j]:=fun j hj=>by rw[List.getD_eq_getElem?_getD,List.getElem?_eq_getElem hj];rfl
 have habove:∀y∈l.drop p,zw x y<0:=fun y hy=>by
  obtain⟨j,hj,rfl⟩:=List.getElem_of_mem hy;simp only[List.length_drop] at hj;rw[List.getElem_drop,<-gd (p+j) (by omega)];exact K2 l x l.length (p+j) (by omega) (by omega)
 have hsplit:Asc (l.take p++l.drop p):=by rw[List.take_append_drop];exact hl
 obtain⟨h1,h2,h3⟩:=List.pairwise_append.1 hsplit;have hbelow:∀y∈l.take p,zw y x<0:=fun y hy=>by
  cases p with
  |zero=>simp at hy
  |succ k =>
   have hk:k<l.length:=by omega
   have hs:=XV l x l.length k hp;rw[gd k hk] at hs;have hne:zw x l[k]≠0:=fun e=>hx (Z0 _ _ e▸List.getElem_mem hk);have hkx:zw l[k] x<0:=by rw[Zi];omega
   obtain⟨j,hj,rfl⟩:=List.getElem_of_mem hy;simp only[List.length_take] at hj;rw[List.getElem_take];rcases Nat.lt_or_ge j k with h|h
   ·exact Yr _ _ _ ((List.pairwise_iff_getElem.1 hl) j k (by omega) hk h) hkx
   ·obtain rfl:j=k:=by omega
    exact hkx
 unfold yj;refine List.pairwise_append.2 ⟨h1,List.pairwise_cons.2 ⟨habove,h2⟩,fun a ha b hb=>?_⟩;rcases List.mem_cons.1 hb with rfl|hb
 ·exact hbelow a ha
 ·exact h3 a ha b hb
theorem Qw:∀(ls:List Ln) (acc:List It),(zP ls acc).Perm (acc++qy ls)
 |[],acc=>by simp[zP,qy]
 |x :: r,acc=>by
  unfold zP;split
  ·rename_i hk;refine(Qw r _).trans ?_;have e:qy (x :: r)=x.it :: qy r:=by simp[qy,hk]
   rw[e];exact((Xj acc x.it _).append_right _).trans List.perm_middle.symm
  ·rename_i hk;have e:qy (x :: r)=qy r:=by simp[qy,hk]
   rw[e];exact Qw r acc
theorem Y2:∀(ls:List Ln) (acc:List It),Asc acc->(acc++qy ls).Nodup->Asc (zP ls acc)
 |[],acc,h,_=>by simpa[zP] using h
 |x :: r,acc,h,hn=>by
  unfold zP;split
  ·rename_i hk;have e:qy (x :: r)=x.it :: qy r:=by simp[qy,hk]
   rw[e] at hn;have hx:x.it∉acc:=fun ha=>(List.nodup_append.1 hn).2.2 _ ha _ (by simp) rfl;refine Y2 r _ (zed h hx) ?_;refine(List.Perm.nodup_iff ?_).2 hn;exact((Xj acc x.it _).append_right _).trans List.perm_middle.symm
  ·rename_i hk;have e:qy (x :: r)=qy r:=by simp[qy,hk]
   rw[e] at hn;exact Y2 r acc h hn
theorem ZF{ls:List Ln}{its:List It}(h:zk ls=.ok its):Asc its/\zP ls []=its:=by
 unfold zk at h;split at h
 ·cases h
 ·split at h
  ·cases h
  ·rename_i g hg;split at h
   ·cases h
   ·cases h;have hn:=Xe ls 0 [] g (by simp) hg;have hi:=Ya ls 0 [] g hg;simp only[List.nil_append] at hi;have ha:=zco hn;refine⟨ha,zhz (Y2 ls [] List.Pairwise.nil (by simpa[<-hi] using hn)) ha ?_⟩;refine(Qw ls []).trans ?_;simp only[List.nil_append,<-hi];exact(xP g).symm
def zgB(l:List It)(name:ByteArray)(k:Nat):Option (Nat × Nat)->Prop
 |none=>∀i,i<k->(l.getD i default).name≠name
 |some (lo,hi)=>lo<hi/\hi<=k/\(l.getD lo default).name=name/\(l.getD (hi-1) default).name=name/\∀i,i<k->(l.getD i default).name=name->lo<=i/\i<hi
theorem Yl(l:List It)(name:ByteArray):∀k,k<=l.length->zgB l name k (qv (l.take k) name)
 |0,_=>by
  simp only[List.take_zero];exact fun i h=>by omega
 |k+1,hk=>by
  have ih:=Yl l name k (by omega);have e:l.take (k+1)=l.take k++[l.getD k default]:=by
   rw[List.take_add_one,List.getD_eq_getElem?_getD,List.getElem?_eq_getElem (by omega)];rfl
  have hlen:(l.take k).length=k:=by rw[List.length_take];omega
  rw[e,Y8,hlen];cases hr:qv (l.take k) name with
  |none =>
   rw[hr] at ih;split
   ·rename_i hx;refine⟨by simp,by simp,by simpa using hx,by simpa using hx,fun i hi hn=>?_⟩;rcases Nat.lt_or_ge i k with h|h
    ·exact absurd hn (ih i h)
    ·simp;omega
   ·rename_i hx;intro i hi;rcases Nat.lt_or_ge i k with h|h
    ·exact ih i h
    ·obtain rfl:i=k:=by omega
     exact hx
  |some p =>
   obtain⟨lo,hi⟩:=p;rw[hr] at ih;obtain⟨h1,h2,h3,h4,h5⟩:=ih;split
   ·rename_i hx;show lo<k+1/\_;refine⟨by omega,Nat.le_refl _,h3,by simpa using hx,fun i hi hn=>?_⟩;rcases Nat.lt_or_ge i k with h|h
    ·have:=h5 i h hn;exact⟨this.1,by omega⟩
    ·exact⟨show lo<=i by omega,by omega⟩
   ·rename_i hx;refine⟨h1,by omega,h3,h4,fun i hi hn=>?_⟩;rcases Nat.lt_or_ge i k with h|h
    ·exact h5 i h hn
    ·obtain rfl:i=k:=by omega
     exact absurd hn hx
theorem zaC{l:List It}(h:Asc l){i j:Nat}(hj:j<l.length)(hij:i<j):zw (l.getD i default) (l.getD j default)<0:=by
 have gd:∀j (hj:j<l.length),l.getD j default=l[j]:=fun j hj=>by rw[List.getD_eq_getElem?_getD,List.getElem?_eq_getElem hj];rfl
 rw[gd i (by omega),gd j hj];exact List.pairwise_iff_getElem.1 h i j (by omega) hj hij
theorem KM{x y:It}(h:zw x y<0):x.name=y.name\/Lib.compareBytes x.name.data.toList y.name.data.toList<0:=by
 unfold zw at h;split at h
 ·rename_i e;exact Or.inl (yE e)
 ·exact Or.inr h
theorem Y1{l:List It}(h:Asc l)(name:ByteArray)(i:Nat)(hi:i<l.length):(l.getD i default).name=name↔(qo l name).1<=i/\i<(qo l name).2:=by
 have hk:=Yl l name l.length zN;rw[List.take_length] at hk;unfold qo;cases hr:qv l name with
 |none =>rw[hr] at hk;exact⟨fun e=>absurd e (hk i hi),fun e=>by simp at e⟩
 |some p =>
  obtain⟨lo,hi'⟩:=p;rw[hr] at hk;obtain⟨h1,h2,h3,h4,h5⟩:=hk;simp only[Option.getD_some];refine⟨h5 i hi,fun⟨g1,g2⟩=>?_⟩;apply Classical.byContradiction;intro hne;have n1:lo≠i:=fun e=>hne (e▸h3);have n2:hi'-1≠i:=fun e=>hne (e▸h4);have c1:=KM (zaC h hi (show lo<i by omega));have c2:=KM (zaC h (show hi'-1<l.length by omega) (show i<hi'-1 by omega));rw[h3] at c1;rw[h4] at c2;rcases c1 with c1|c1
  ·exact hne c1.symm
  ·rcases c2 with c2|c2
   ·exact hne c2
   ·have:=ZD name.data.toList (l.getD i default).name.data.toList;omega
theorem zbB{p q:Nat->Bool}(n lo hi:Nat)(h2:hi<=n)(h:∀i,i<n->(q i=true↔(lo<=i/\i<hi)/\p i=true)):(List.range n).filter q=(List.range' lo (hi-lo)).filter p:=by
 rcases Nat.lt_or_ge hi lo with hlh|hlh
 ·rw[show hi-lo=0 by omega];simp only[List.range'_zero,List.filter_nil,List.filter_eq_nil_iff];intro i hi';rw[List.mem_range] at hi';intro e;have:=(h i hi').1 e;omega
 ·have e:List.range n=List.range' 0 lo++(List.range' lo (hi-lo)++List.range' hi (n-hi)):=by
   rw[List.range_eq_range'];have a1:=List.range'_append_1 (s:=lo) (m:=hi-lo) (n:=n-hi);have a2:=List.range'_append_1 (s:=0) (m:=lo) (n:=(hi-lo)+(n-hi));rw[show lo+(hi-lo)=hi by omega] at a1;rw[Nat.zero_add] at a2;rw[a1,a2];congr 1;omega
  rw[e,List.filter_append,List.filter_append];have f1:(List.range' 0 lo).filter q=[]:=by
   rw[List.filter_eq_nil_iff];intro i hi';have:=List.mem_range'_1.1 hi';intro e;have:=(h i (by omega)).1 e;omega
  have f3:(List.range' hi (n-hi)).filter q=[]:=by
   rw[List.filter_eq_nil_iff];intro i hi';have:=List.mem_range'_1.1 hi';intro e;have:=(h i (by omega)).1 e;omega
  have f2:(List.range' lo (hi-lo)).filter q=(List.range' lo (hi-lo)).filter p:=by
   refine List.filter_congr fun i hi'=>?_;have:=List.mem_range'_1.1 hi';rw[Bool.eq_iff_iff,h i (by omega)];constructor
   ·exact fun e=>e.2
   ·exact fun e=>⟨by omega,e⟩
  rw[f1,f2,f3];simp
theorem zcd(l:List It)(name:ByteArray):(qo l name).2<=l.length:=by
 have hk:=Yl l name l.length zN;rw[List.take_length] at hk;unfold qo;cases hr:qv l name with
 |none=>simp
 |some p =>obtain⟨lo,hi'⟩:=p;rw[hr] at hk;exact hk.2.1
end
section
open Sv
noncomputable def amS(its:List It)(name:ByteArray)(rng:List Span):Nat:=yC (zO its name rng)
theorem ZB(its:List It)(name:ByteArray)(rng:List Span)(i:Nat):(amS its name rng).testBit i=decide (i∈zO its name rng):=Kc _ _
theorem zhe(its:List It)(name:ByteArray)(rng:List Span):amS its name rng<2^its.length:=KW _ _ (xF its name rng)
theorem ZE(its:List It)(name:ByteArray)(rng:List Span)(h:its.length<=24):amS its name rng<16777216 :=
 Nat.lt_of_lt_of_le (zhe its name rng) (Nat.pow_le_pow_right (n:=2) (by decide) h)
def zi(its:List It)(x:Ln):Nat:=(zJ its x.it).toNat
noncomputable def qh(its:List It)(set:Nat):Bool:=decide (set<2^its.length)&&its.all fun x=>decide (qZ (set&&&amS its x.name zd)<=1)
noncomputable def zZ(its:List It)(x:Ln)(set:Nat):Bool :=
 if x.kind=4 then decide (set&&&amS its x.name x.rng≠0)
 else if x.kind=2 then decide (set&&&2^zi its x=0)||decide (set&&&amS its x.other x.rng≠0)
 else if x.kind=3 then decide (set&&&2^zi its x=0)||decide (set&&&amS its x.other x.rng=0)
 else true
noncomputable def xL(its:List It)(ls:List Ln)(set:Nat):Option Nat:=ls.findIdx? fun x=>!zZ its x set
def QN:Option Nat->Bool × Int
 |some n=>(false,(n:Int))
 |none=>(true,-1)
noncomputable def zm(its:List It)(ls:List Ln)(set:Nat):Bool × Int :=
 if qh its set=false then (false,-2) else QN (xL its ls set)
theorem KB:∀(ls:List Ln) (i:Nat) (its:List It),zI ls i its=none->∀x∈ls,x.pair->x.it∈its
 |[],i,its,_,x,hx,_=>by cases hx
 |y :: r,i,its,h,x,hx,hp=>by
  unfold zI at h;split at h
  ·cases h
  ·rename_i hn;rcases List.mem_cons.1 hx with rfl|hx
   ·exact Classical.byContradiction fun hc=>hn ⟨hp,hc⟩
   ·exact KB r (i+1) its h x hx hp
theorem zgr{ls:List Ln}{its:List It}(h:zk ls=.ok its):∀x∈ls,x.pair->x.it∈its:=by
 unfold zk at h;split at h
 ·cases h
 ·split at h
  ·cases h
  ·split at h
   ·cases h
   ·rename_i hm;cases h;exact KB _ _ _ hm
theorem zeg{its:List It}{x:It}(h:x∈its):∃k:Nat,k<its.length/\zJ its x=(k:Int)/\its.getD k default=x:=by
 unfold zJ;cases hf:its.findIdx? (fun y=>decide (x=y)) with
 |none =>rw[List.findIdx?_eq_none_iff] at hf;have:=hf x h;simp at this
 |some k =>obtain⟨h1,h2,_⟩:=List.findIdx?_eq_some_iff_getElem.1 hf;refine⟨k,h1,rfl,?_⟩;rw[List.getD_eq_getElem?_getD,List.getElem?_eq_getElem h1];simpa using (of_decide_eq_true h2).symm
theorem xk{ls:List Ln}{its:List It}(h:zk ls=.ok its){x:Ln}(hx:x∈ls)(hp:x.pair):zJ its x.it=(zi its x:Int)/\zi its x<its.length/\its.getD (zi its x) default=x.it:=by
 obtain⟨k,h1,h2,h3⟩:=zeg (zgr h x hx hp);unfold zi;rw[h2];exact⟨by simp,by simpa using h1,by simpa using h3⟩
noncomputable def qi(its:List It)(ls:List Ln):Nat->List Nat
 |0=>List.replicate its.length 0
 |n+1=>if (ls.getD n default).kind=2 then
   (qi its ls n).set (zi its (ls.getD n default)) ((qi its ls n).getD (zi its (ls.getD n default)) 0|||(amS its (ls.getD n default).other (ls.getD n default).rng&&&(18446744073709551615-2^zi its (ls.getD n default))))
  else qi its ls n
noncomputable def q7(its:List It)(ls:List Ln):List Nat:=qi its ls ls.length
theorem Z8(its:List It)(ls:List Ln):∀n,(qi its ls n).length=its.length
 |0=>by simp[qi]
 |n+1=>by
  unfold qi;split
  ·rw[List.length_set,Z8 its ls n]
  ·exact Z8 its ls n
def qH(nd:List Nat):Nat->List Nat->Nat->List Nat->Option (List Nat)
 |0,_,_,out=>some out
 |f+1,wait,left,out=>if wait=[] then some out else match wait.findIdx? (fun i=>decide (nd.getD i 0&&&left=0)) with
  |none=>none
  |some j=>qH nd f (wait.eraseIdx j) (left&&&(18446744073709551615-2^wait.getD j 0)) (out++[wait.getD j 0])
noncomputable def Zc(its:List It)(ls:List Ln)(set:Nat):Option (List Nat):=qH (q7 its ls) (zx set 24).length (zx set 24) set []
end
section
open Go.RowKit Go.Deep Sv
theorem Qj(A:List Nat)(i:Nat)(h:i<A.length):A.take (i+1)=A.take i++[A.getD i 0]:=by
 rw[List.take_add_one,List.getD_eq_getElem?_getD,List.getElem?_eq_getElem h];rfl
theorem yS(A:List Nat)(i:Nat)(h:i<A.length):(zq A).getD i 0=((A.getD i 0:Nat):Int):=by
 simp[zq,List.getD_eq_getElem?_getD,h]
theorem yw(A:List Nat)(i:Nat)(h:i<A.length):A.getD i 0∈A:=by
 rw[List.getD_eq_getElem?_getD,List.getElem?_eq_getElem h];exact List.getElem_mem h
theorem zfs(A:List Nat)(n:Nat)(hn:n<=24)(h:∀x∈A,x<n):yC A<16777216 :=
 Nat.lt_of_lt_of_le (KW A n h) (Nat.pow_le_pow_right (n:=2) (by decide) hn)
theorem JX(a b:Nat)(ha:a<18446744073709551616)(hb:b<18446744073709551616):bits BinOp.or IntKind.u64 (a:Int) (b:Int)=((a|||b:Nat):Int):=bits_or_u64_nat a b ha hb
theorem Z6(bk:Nat)(ls:List Ln)(its:List It)(name:ByteArray)(rng:List Span)(hr:Rg rng)(v:Value)(w:World)(h:zV w bk ls its)(hl:its.length<=24)(hn:name.size<=100000)(hv:zb w v rng) :
  zR 45 #[.pointer (some ⟨bk,0,none⟩),.string name,.agg #[v]] w (.int .u64 (amS its name rng)):=by
 obtain⟨va,vc,rfl⟩:=hv.form;have hbx:zB w (w.alloc (.cells #[.slice va rng.length vc] 90)):=(Below.refl _ w).alloc zN _;have HAM0:=zba bk ls its name rng hr (.slice va rng.length vc) _ (h.below hbx zN) (by omega) hn (hv.below hbx zN);have kr:=Blk.new w 90 #[.slice va rng.length vc];have HLT:=zH (xF its name rng);have hAl:=Zl its name rng;have HBX:=zH hbx;unfold amS;have HJ:Hid (∀W (k:Nat),k<64->zC 25 #[.int .i64 k] W fun e w'=>e=.returned (.int .u64 ((2^k:Nat):Int))/\w'=W):=fun W k hk=>x8 k hk W;generalize zO its name rng=A at *;clear h hn hv hr hbx;go_enter Tryz.func45,Tryz.ntmps45;go_upto_region 2 with fail;generalize w.alloc (.cells #[.slice va rng.length vc] 90)=W0 at *;have d0:_=some (Value.slice va rng.length vc):=kr.cell 0;have HAM:=zH HAM0;clear HAM0 kr;go_wp2_with fail;refine HAM.out.mono ?_;rintro e w1 ⟨v',rfl,hown,hb1⟩;obtain⟨oa,oc,rfl,-⟩:=qm hown;have HIN:Hid (zW w1 oa (zq A)):=yd (B:=W0.heap.size) (c:=oc) (by rw[zz];exact hown);have HB1:Hid (zB w w1):=zT HBX.out hb1;clear hown hb1 HAM d0 HBX;go_wp2_with fail;go_loopw [7,15] (fun oV iV wr=>∃i:Nat,i<=A.length/\iV=.int .i64 i/\oV=.int .u64 ((yC (A.take i):Nat):Int)/\wr=w1) (fun _ iV _=>A.length-(intOf iV).toNat)
 case atStart=>exact⟨0,Nat.zero_le _,rfl,rfl,rfl⟩
 case round =>
  obtain⟨i,hil,rfl,rfl,rfl⟩:=hrel
  by_cases hlt:i<A.length
  ·obtain⟨ad,rfl,had,c1⟩:=HIN.out i (by rw[zz];exact hlt);rw[yS A i hlt] at c1;have hx:=HLT.out _ (yw A i hlt);have HTK:Hid (yC (A.take (i+1))=yC (A.take i)|||2^A.getD i 0):=by show _=_;rw[Qj A i hlt,zcI]
   have hbn:=zfs (A.take i) its.length hl (fun x hx=>HLT.out x (List.mem_of_mem_take hx));generalize yC (A.take i)=B at *;generalize A.getD i 0=x at *;have hor:=JX B (2^x) (by omega) (xu x (by omega));have HJi:=zH (HJ.out wr x (by omega));rw[<-HTK.out] at hor;have hii0:(0:Int)<=(i:Int):=by omega
   have hii1:(i:Int)<(A.length:Int):=by omega
   obtain⟨ab,ao,asp⟩:=ad;clear HTK;obtain⟨B2,hB2⟩:∃B2,yC (A.take (i+1))=B2:=⟨_,rfl⟩;rw[hB2] at hor;have HB2:=zH hB2;clear hB2;go_wp2_with fail;refine HJi.out.mono ?_;rintro e w2 ⟨rfl,rfl⟩;generalize (2^x:Nat)=P2 at *;clear HJi;go_wp2;go_roundw
   case rel=>exact⟨i+1,hlt,by go_num,by rw[HB2.out],by first|rfl|trivial⟩
   case measure=>simp[intOf];omega
  ·obtain rfl:i=A.length:=by omega
   rw[List.take_length];go_wp2;go_ret;exact⟨rfl,HB1.out⟩
theorem Xk(bk:Nat)(ls:List Ln)(its:List It)(x:Ln)(ra:Option Addr)(rc:Nat)(w:World)(h:zV w bk ls its)(hl:its.length<=24)(hk:zJ its x.it=(zi its x:Int))(hlt:zi its x<its.length) :
  zR 46 #[.pointer (some ⟨bk,0,none⟩),.agg #[.int .i64 x.kind,.string x.name,.int .i64 x.a,.int .i64 x.b,.int .i64 x.c,.string x.other,.slice ra x.rng.length rc]] w (.int .u64 ((2^zi its x:Nat):Int)):=by
 have hbx:=qE w (.cells #[.int .i64 x.kind,.string x.name,.int .i64 x.a,.int .i64 x.b,.int .i64 x.c,.string x.other,.slice ra x.rng.length rc] 92);have kx:=Blk.new w 92 #[.int .i64 x.kind,.string x.name,.int .i64 x.a,.int .i64 x.b,.int .i64 x.c,.string x.other,.slice ra x.rng.length rc];have HN0:=YD bk ls its x.name x.a x.b x.c _ (h.below hbx zN) (by omega);have e:(⟨x.name,x.a,x.b,x.c⟩:It)=x.it:=rfl;rw[e,hk] at HN0;have HN:=zH HN0;have HJ:Hid (∀W,zC 25 #[.int .i64 (zi its x)] W fun e w'=>e=.returned (.int .u64 ((2^zi its x:Nat):Int))/\w'=W):=fun W=>x8 _ (by omega) W;have HBX:=zH hbx;clear HN0 e hbx h;generalize zi its x=o at *;generalize (2^o:Nat)=P2 at *;go_enter Tryz.func46,Tryz.ntmps46;go_upto_region 1 with fail;generalize w.alloc (.cells #[.int .i64 x.kind,.string x.name,.int .i64 x.a,.int .i64 x.b,.int .i64 x.c,.string x.other,.slice ra x.rng.length rc] 92)=W0 at *;have c1:_=some (Value.string x.name):=kx.cell 1;have c2:_=some (Value.int .i64 x.a):=kx.cell 2;have c3:_=some (Value.int .i64 x.b):=kx.cell 3;have c4:_=some (Value.int .i64 x.c):=kx.cell 4;clear kx hk;go_wp2_with fail;refine HN.out.mono ?_;rintro e w1 ⟨rfl,hb1⟩;have HB1:Hid (zB w w1):=zT HBX.out hb1;clear hb1 HN c1 c2 c3 c4;go_wp2_with fail;refine(HJ.out w1).mono ?_;rintro e w2 ⟨rfl,rfl⟩;clear HJ;go_wp2;go_ret;exact⟨rfl,HB1.out⟩
end
section
open Go.RowKit Go.Deep Sv
structure KH(bk:Nat)(ls:List Ln)(its:List It)(x:Ln)(ra:Option Addr)(rc:Nat)(set:Nat)(w:World):Prop where
 cat:zV w bk ls its
 len:its.length<=24
 n1:x.name.size<=100000
 n2:x.other.size<=100000
 sp:zb w (.slice ra x.rng.length rc) x.rng
 rg:Rg x.rng
 s:set<18446744073709551616
theorem Qc(n:Nat)(h:¬n=0):¬(n:Int)=0:=by omega
theorem ZI(n:Nat)(h:¬n=0):((n:Int) != 0)=true:=by simpa using h
theorem ZP(n:Nat)(h:¬n=0):((n:Int)==0)=false:=by simpa using h
theorem ZO(n:Nat)(h:n=0):(n:Int)=0:=by omega
theorem zeu(bk:Nat)(ls:List Ln)(its:List It)(x:Ln)(ra:Option Addr)(rc:Nat)(set:Nat)(w:World)(hh:KH bk ls its x ra rc set w)(hk:x.kind=4) :
  zR 42 #[.pointer (some ⟨bk,0,none⟩),.agg #[.int .i64 x.kind,.string x.name,.int .i64 x.a,.int .i64 x.b,.int .i64 x.c,.string x.other,.slice ra x.rng.length rc],.int .u64 set] w (.bool (zZ its x set)):=by
 obtain⟨h,hl,hn1,hn2,hsp,hr,hs⟩:=hh;have hbx:=qE w (.cells #[.int .i64 x.kind,.string x.name,.int .i64 x.a,.int .i64 x.b,.int .i64 x.c,.string x.other,.slice ra x.rng.length rc] 92);have kx:=Blk.new w 92 #[.int .i64 x.kind,.string x.name,.int .i64 x.a,.int .i64 x.b,.int .i64 x.c,.string x.other,.slice ra x.rng.length rc];have HBX:=zH hbx;have HAM:=zH (Z6 bk ls its x.name x.rng hr (.slice ra x.rng.length rc) _ (h.below hbx zN) hl hn1 (hsp.below hbx zN));have ham:=ZE its x.name x.rng hl;have hand:=yl set (amS its x.name x.rng) hs (by omega);unfold zZ;rw[if_pos hk];generalize amS its x.name x.rng=A at *;generalize set&&&A=Q at *;have HK:=zH hk;clear hk;clear h hsp hr hn1 hn2 hbx;go_enter Tryz.func42,Tryz.ntmps42;go_upto_region 1 with fail;generalize w.alloc (.cells #[.int .i64 x.kind,.string x.name,.int .i64 x.a,.int .i64 x.b,.int .i64 x.c,.string x.other,.slice ra x.rng.length rc] 92)=W0 at *;have c0:_=some (Value.int .i64 x.kind):=kx.cell 0;have c1:_=some (Value.string x.name):=kx.cell 1;have c6:_=some (Value.slice ra x.rng.length rc):=kx.cell 6;rw[HK.out] at c0;clear kx HK;go_wp2_with fail;refine HAM.out.mono ?_;rintro e w1 ⟨rfl,hb1⟩;have HB1:Hid (zB w w1):=zT HBX.out hb1;clear hb1 HAM c0 c1 c6
 by_cases hq:Q=0
 ·have hqi:=ZO Q hq;have HQ:Hid (decide (Q≠0)=false):=decide_eq_false (fun h=>h hq);clear hq;go_wp2;go_ret;exact⟨by rw[HQ.out];rfl,HB1.out⟩
 ·have hqi:=Qc Q hq;have hqb:=ZI Q hq;have hqc:=ZP Q hq;have HQ:Hid (decide (Q≠0)=true):=decide_eq_true hq;clear hq;go_wp2;go_ret;exact⟨by rw[HQ.out];rfl,HB1.out⟩
theorem zbi(bk:Nat)(ls:List Ln)(its:List It)(x:Ln)(ra:Option Addr)(rc:Nat)(set:Nat)(w:World)(hh:KH bk ls its x ra rc set w)(hk:x.kind=2)(hk1:zJ its x.it=(zi its x:Int))(hlt:zi its x<its.length) :
  zR 42 #[.pointer (some ⟨bk,0,none⟩),.agg #[.int .i64 x.kind,.string x.name,.int .i64 x.a,.int .i64 x.b,.int .i64 x.c,.string x.other,.slice ra x.rng.length rc],.int .u64 set] w (.bool (zZ its x set)):=by
 obtain⟨h,hl,hn1,hn2,hsp,hr,hs⟩:=hh;have hbx:=qE w (.cells #[.int .i64 x.kind,.string x.name,.int .i64 x.a,.int .i64 x.b,.int .i64 x.c,.string x.other,.slice ra x.rng.length rc] 92);have kx:=Blk.new w 92 #[.int .i64 x.kind,.string x.name,.int .i64 x.a,.int .i64 x.b,.int .i64 x.c,.string x.other,.slice ra x.rng.length rc];have HBX:=zH hbx;have HOW:=zH (Xk bk ls its x ra rc _ (h.below hbx zN) hl hk1 hlt);have HAM:Hid (∀W,Below (w.alloc (.cells #[.int .i64 x.kind,.string x.name,.int .i64 x.a,.int .i64 x.b,.int .i64 x.c,.string x.other,.slice ra x.rng.length rc] 92)).heap.size (w.alloc (.cells #[.int .i64 x.kind,.string x.name,.int .i64 x.a,.int .i64 x.b,.int .i64 x.c,.string x.other,.slice ra x.rng.length rc] 92)) W->zR 45 #[.pointer (some ⟨bk,0,none⟩),.string x.other,.agg #[.slice ra x.rng.length rc]] W (.int .u64 (amS its x.other x.rng))):=fun W hb =>
  Z6 bk ls its x.other x.rng hr (.slice ra x.rng.length rc) W ((h.below hbx zN).below hb zN) hl hn2 ((hsp.below hbx zN).below hb zN)
 have ham:=ZE its x.other x.rng hl;have hand:=yl set (amS its x.other x.rng) hs (by omega);have hano:=yl set (2^zi its x) hs (xu _ (by omega));unfold zZ;rw[if_neg (by omega),if_pos hk];generalize amS its x.other x.rng=A at *;generalize (2^zi its x:Nat)=O at *;generalize set&&&O=R at *;generalize set&&&A=Q at *;have HK:=zH hk;clear hk1 hlt hk;clear h hsp hr hn1 hn2 hbx;go_enter Tryz.func42,Tryz.ntmps42;go_upto_region 1 with fail;generalize w.alloc (.cells #[.int .i64 x.kind,.string x.name,.int .i64 x.a,.int .i64 x.b,.int .i64 x.c,.string x.other,.slice ra x.rng.length rc] 92)=W0 at *;have c0:_=some (Value.int .i64 x.kind):=kx.cell 0;have c1:_=some (Value.string x.name):=kx.cell 1;have c2:_=some (Value.int .i64 x.a):=kx.cell 2;have c3:_=some (Value.int .i64 x.b):=kx.cell 3;have c4:_=some (Value.int .i64 x.c):=kx.cell 4;have c5:_=some (Value.string x.other):=kx.cell 5;have c6:_=some (Value.slice ra x.rng.length rc):=kx.cell 6;have K0:=zH kx;rw[HK.out] at c0 HOW;clear kx HK;go_wp2_with fail;refine HOW.out.mono ?_;rintro e w1 ⟨rfl,hb1⟩;have HB1:Hid (zB w w1):=zT HBX.out hb1;have HA1:=zH (HAM.out w1 hb1);have k1:=K0.out.below hb1 K0.out.lt;clear hb1 HAM HOW K0 c0 c1 c2 c3 c4 c5 c6
 by_cases hp:R=0
 ·have hpi:=ZO R hp;have HP:Hid (decide (R=0)=true):=decide_eq_true hp;clear hp k1 HA1;go_wp2;go_ret;exact⟨by rw[HP.out,Bool.true_or];rfl,HB1.out⟩
 ·have hpi:=Qc R hp;have hpb:=ZI R hp;have hpc:=ZP R hp;have HP:Hid (decide (R=0)=false):=decide_eq_false hp;clear hp;have e5:_=some (Value.string x.other):=k1.cell 5;have e6:_=some (Value.slice ra x.rng.length rc):=k1.cell 6;clear k1;go_wp2_with fail;refine HA1.out.mono ?_;rintro e w2 ⟨rfl,hb2⟩;have HB2:Hid (zB w w2):=zT HB1.out hb2;clear hb2 HA1 e5 e6
  by_cases hq:Q=0
  ·have hqi:=ZO Q hq;have HQ:Hid (decide (Q≠0)=false):=decide_eq_false (fun h=>h hq);clear hq;go_wp2;go_ret;exact⟨by rw[HP.out,Bool.false_or,HQ.out];rfl,HB2.out⟩
  ·have hqi:=Qc Q hq;have hqb:=ZI Q hq;have hqc:=ZP Q hq;have HQ:Hid (decide (Q≠0)=true):=decide_eq_true hq;clear hq;go_wp2;go_ret;exact⟨by rw[HP.out,Bool.false_or,HQ.out];rfl,HB2.out⟩
theorem zc8(bk:Nat)(ls:List Ln)(its:List It)(x:Ln)(ra:Option Addr)(rc:Nat)(set:Nat)(w:World)(hh:KH bk ls its x ra rc set w)(hk:x.kind=3)(hk1:zJ its x.it=(zi its x:Int))(hlt:zi its x<its.length) :
  zR 42 #[.pointer (some ⟨bk,0,none⟩),.agg #[.int .i64 x.kind,.string x.name,.int .i64 x.a,.int .i64 x.b,.int .i64 x.c,.string x.other,.slice ra x.rng.length rc],.int .u64 set] w (.bool (zZ its x set)):=by
 obtain⟨h,hl,hn1,hn2,hsp,hr,hs⟩:=hh;have hbx:=qE w (.cells #[.int .i64 x.kind,.string x.name,.int .i64 x.a,.int .i64 x.b,.int .i64 x.c,.string x.other,.slice ra x.rng.length rc] 92);have kx:=Blk.new w 92 #[.int .i64 x.kind,.string x.name,.int .i64 x.a,.int .i64 x.b,.int .i64 x.c,.string x.other,.slice ra x.rng.length rc];have HBX:=zH hbx;have HOW:=zH (Xk bk ls its x ra rc _ (h.below hbx zN) hl hk1 hlt);have HAM:Hid (∀W,Below (w.alloc (.cells #[.int .i64 x.kind,.string x.name,.int .i64 x.a,.int .i64 x.b,.int .i64 x.c,.string x.other,.slice ra x.rng.length rc] 92)).heap.size (w.alloc (.cells #[.int .i64 x.kind,.string x.name,.int .i64 x.a,.int .i64 x.b,.int .i64 x.c,.string x.other,.slice ra x.rng.length rc] 92)) W->zR 45 #[.pointer (some ⟨bk,0,none⟩),.string x.other,.agg #[.slice ra x.rng.length rc]] W (.int .u64 (amS its x.other x.rng))):=fun W hb =>
  Z6 bk ls its x.other x.rng hr (.slice ra x.rng.length rc) W ((h.below hbx zN).below hb zN) hl hn2 ((hsp.below hbx zN).below hb zN)
 have ham:=ZE its x.other x.rng hl;have hand:=yl set (amS its x.other x.rng) hs (by omega);have hano:=yl set (2^zi its x) hs (xu _ (by omega));unfold zZ;rw[if_neg (by omega),if_neg (by omega),if_pos hk];generalize amS its x.other x.rng=A at *;generalize (2^zi its x:Nat)=O at *;generalize set&&&O=R at *;generalize set&&&A=Q at *;have HK:=zH hk;clear hk1 hlt hk;clear h hsp hr hn1 hn2 hbx;go_enter Tryz.func42,Tryz.ntmps42;go_upto_region 1 with fail;generalize w.alloc (.cells #[.int .i64 x.kind,.string x.name,.int .i64 x.a,.int .i64 x.b,.int .i64 x.c,.string x.other,.slice ra x.rng.length rc] 92)=W0 at *;have c0:_=some (Value.int .i64 x.kind):=kx.cell 0;have c1:_=some (Value.string x.name):=kx.cell 1;have c2:_=some (Value.int .i64 x.a):=kx.cell 2;have c3:_=some (Value.int .i64 x.b):=kx.cell 3;have c4:_=some (Value.int .i64 x.c):=kx.cell 4;have c5:_=some (Value.string x.other):=kx.cell 5;have c6:_=some (Value.slice ra x.rng.length rc):=kx.cell 6;have K0:=zH kx;rw[HK.out] at c0 HOW;clear kx HK;go_wp2_with fail;refine HOW.out.mono ?_;rintro e w1 ⟨rfl,hb1⟩;have HB1:Hid (zB w w1):=zT HBX.out hb1;have HA1:=zH (HAM.out w1 hb1);have k1:=K0.out.below hb1 K0.out.lt;clear hb1 HAM HOW K0 c0 c1 c2 c3 c4 c5 c6
 by_cases hp:R=0
 ·have hpi:=ZO R hp;have HP:Hid (decide (R=0)=true):=decide_eq_true hp;clear hp k1 HA1;go_wp2;go_ret;exact⟨by rw[HP.out,Bool.true_or];rfl,HB1.out⟩
 ·have hpi:=Qc R hp;have hpb:=ZI R hp;have hpc:=ZP R hp;have HP:Hid (decide (R=0)=false):=decide_eq_false hp;clear hp;have e5:_=some (Value.string x.other):=k1.cell 5;have e6:_=some (Value.slice ra x.rng.length rc):=k1.cell 6;clear k1;go_wp2_with fail;refine HA1.out.mono ?_;rintro e w2 ⟨rfl,hb2⟩;have HB2:Hid (zB w w2):=zT HB1.out hb2;clear hb2 HA1 e5 e6
  by_cases hq:Q=0
  ·have hqi:=ZO Q hq;have HQ:Hid (decide (Q=0)=true):=decide_eq_true hq;clear hq;go_wp2;go_ret;exact⟨by rw[HP.out,Bool.false_or,HQ.out];rfl,HB2.out⟩
  ·have hqi:=Qc Q hq;have hqb:=ZI Q hq;have hqc:=ZP Q hq;have HQ:Hid (decide (Q=0)=false):=decide_eq_false hq;clear hq;go_wp2;go_ret;exact⟨by rw[HP.out,Bool.false_or,HQ.out];rfl,HB2.out⟩
theorem zeX(bk:Nat)(ls:List Ln)(its:List It)(x:Ln)(ra:Option Addr)(rc:Nat)(set:Nat)(w:World)(hh:KH bk ls its x ra rc set w)(h2:¬x.kind=2)(h3:¬x.kind=3)(h4:¬x.kind=4) :
  zR 42 #[.pointer (some ⟨bk,0,none⟩),.agg #[.int .i64 x.kind,.string x.name,.int .i64 x.a,.int .i64 x.b,.int .i64 x.c,.string x.other,.slice ra x.rng.length rc],.int .u64 set] w (.bool (zZ its x set)):=by
 obtain⟨h,hl,hn1,hn2,hsp,hr,hs⟩:=hh;have hbx:=qE w (.cells #[.int .i64 x.kind,.string x.name,.int .i64 x.a,.int .i64 x.b,.int .i64 x.c,.string x.other,.slice ra x.rng.length rc] 92);have kx:=Blk.new w 92 #[.int .i64 x.kind,.string x.name,.int .i64 x.a,.int .i64 x.b,.int .i64 x.c,.string x.other,.slice ra x.rng.length rc];have HBX:=zH hbx;unfold zZ;rw[if_neg h4,if_neg h2,if_neg h3];clear h hsp hr hn1 hn2 hbx;go_enter Tryz.func42,Tryz.ntmps42;go_upto_region 1 with fail;generalize w.alloc (.cells #[.int .i64 x.kind,.string x.name,.int .i64 x.a,.int .i64 x.b,.int .i64 x.c,.string x.other,.slice ra x.rng.length rc] 92)=W0 at *;have c0:_=some (Value.int .i64 x.kind):=kx.cell 0;clear kx;go_wp2;go_ret;exact⟨rfl,HBX.out⟩
theorem zfQ(bk:Nat)(ls:List Ln)(its:List It)(hN:zk ls=.ok its)(x:Ln)(hx:x∈ls)(ra:Option Addr)(rc:Nat)(set:Nat)(w:World)(h:zV w bk ls its)(hsp:zb w (.slice ra x.rng.length rc) x.rng)(hr:Rg x.rng)(hs:set<18446744073709551616) :
  zR 42 #[.pointer (some ⟨bk,0,none⟩),.agg #[.int .i64 x.kind,.string x.name,.int .i64 x.a,.int .i64 x.b,.int .i64 x.c,.string x.other,.slice ra x.rng.length rc],.int .u64 set] w (.bool (zZ its x set)):=by
 obtain⟨hl,-,hck⟩:=ya hN;obtain⟨hn1,hn2⟩:=YY (hck x hx)
 by_cases h4:x.kind=4
 ·exact zeu bk ls its x ra rc set w ⟨h,hl,hn1,hn2,hsp,hr,hs⟩ h4
 ·by_cases h2:x.kind=2
  ·obtain⟨a,b,-⟩:=xk hN hx (Or.inl h2);exact zbi bk ls its x ra rc set w ⟨h,hl,hn1,hn2,hsp,hr,hs⟩ h2 a b
  ·by_cases h3:x.kind=3
   ·obtain⟨a,b,-⟩:=xk hN hx (Or.inr h3);exact zc8 bk ls its x ra rc set w ⟨h,hl,hn1,hn2,hsp,hr,hs⟩ h3 a b
   ·exact zeX bk ls its x ra rc set w ⟨h,hl,hn1,hn2,hsp,hr,hs⟩ h2 h3 h4
end
end Go.Proofs.YtlamemjfaogjmaaGreatDoor
