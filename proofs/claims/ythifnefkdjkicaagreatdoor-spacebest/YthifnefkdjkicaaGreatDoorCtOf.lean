import Derived.Test.YthifnefkdjkicaaGreatDoorCtRu
set_option maxHeartbeats 4000000
set_option maxRecDepth 100000
namespace Go.Proofs.YthifnefkdjkicaaGreatDoor
section
open Go.RowKit Go.Deep Sv
def qG(l:List Nat):List Int:=l.map fun (k:Nat)=>((k:Int)+1)
theorem zhd(l:List Nat)(i:Nat)(h:i<l.length):qG (l.take (i+1))=qG (l.take i)++[((l.getD i 0:Nat):Int)+1]:=by
 unfold qG;rw[List.take_add_one,List.getElem?_eq_getElem h,List.map_append,List.getD_eq_getElem?_getD,List.getElem?_eq_getElem h];rfl
theorem zed(l:List Nat)(v:Value)(w:World)(hl:l.length<=100000)(hb:∀x∈l,x<=100000)(hv:yf w v l.length (zm (l.map fun (k:Nat)=>(k:Int)))) :
  zC 49 #[v] w fun e w'=>∃v',e=.returned v'/\w'.ownsRow w.heap.size 3 1 v' l.length (zm (qG l))/\(l=[]->v'=.slice none 0 0)/\zB w w':=by
 obtain⟨va,vc,rfl,-⟩:=hv.form;obtain⟨i0,Y,a0,a1,a2⟩:=info_parts Z0;have HV:=zH hv;have HB:=zH hb;clear hv hb;go_enter Tryz.func49,Tryz.ntmps49;go_wp2_with fail;go_loopw [3,8] (fun oV iV wr=>∃(i:Nat),i<=l.length/\iV=.int .i64 i/\wr.ownsRow w.heap.size 3 1 oV i (zm (qG (l.take i)))/\(i=0->oV=.slice none 0 0)/\zB w wr) (fun _ iV _=>l.length-(intOf iV).toNat)
 case atStart=>exact⟨0,Nat.zero_le _,rfl,World.ownsRow_nil _ _ _ _,fun _=>rfl,Below.refl _ _⟩
 case round =>
  obtain⟨i,a4,rfl,j,h0,u⟩:=hrel;obtain⟨oa,oc,rfl,-⟩:=(zD j).form
  by_cases hlt:i<l.length
  ·have K:=HV.out.below u zN;obtain⟨g,a3,e,hg,hc⟩:=K.cells (by omega);simp at e;obtain⟨rfl,rfl⟩:=e;have hx:wr.cell? ⟨g,i,none⟩=some (.int .i64 ((l.getD i 0:Nat):Int)):=hc i _ (by rw[QN _ _ (by simpa using hlt)];simp[List.getD_eq_getElem?_getD,hlt]);have Z:l.getD i 0<=100000:=HB.out _ (by rw[List.getD_eq_getElem?_getD,List.getElem?_eq_getElem hlt];exact List.getElem_mem hlt);have J:=zH (zhd l i hlt);obtain⟨x,M⟩:∃x,l.getD i 0=x:=⟨_,rfl⟩;rw[M] at hx Z J;have V:(0:Int)<=(i:Int):=by omega
   have X:(i:Int)<(l.length:Int):=by omega
   have a6:IntKind.i64.wrap ((x:Int)+1)=(x:Int)+1:=by rw[IntKind.wrap_i64];omega
   have o:=zH j;have C:=zH u;have a5:=u.size;clear M j u hc K h0;go_wp2_with (at_builtin;refine wpList_append_own_at _ rfl _ _ 23 rfl w.heap.size 3 i0 (.int .i64 0) 1 8 Tryz.underlying23 Y a0 a1 a2 rfl (by decide) _ _ _ rfl (o.out.alloc _) wr.heap.size 1 1 [.int .i64 ((x:Int)+1)] rfl rfl ?c1 ?c2 ?c3 ?c4 ?c5 ?_)
   case c1=>exact xN _ _ _
   case c2=>exact xw _
   case c3=>unfold maxLen;omega
   case c4=>omega
   case c5=>simp;omega
   intro v7 w7 q p _ y;have U:Hid (w7.ownsRow w.heap.size 3 1 v7 (i+1) (zm (qG (l.take (i+1))))):=by
    show World.ownsRow _ _ _ _ _ _ _;rw[J.out,Z1];exact q
   have R:Hid (zB w w7):=(zL C.out).grown p (by simp;omega) (fun k hk=>(o.out.lt k hk).1);clear q p y o C J;go_wp2;go_roundw
   case rel=>exact⟨i+1,hlt,by go_num,U.out,fun e=>by omega,R.out⟩
   case measure=>simp[intOf];omega
  ·obtain rfl:i=l.length:=by omega
   rw[List.take_length] at j;have o:=zH j;have C:=zH u;have H0:Hid (l=[]->Value.slice oa l.length oc=.slice none 0 0):=fun e=>h0 (by rw[e];rfl);clear j u h0;go_wp2;go_ret;exact⟨_,rfl,o.out,H0.out,C.out⟩
end
section
open Go.RowKit Go.Deep Sv
theorem Ka{b:Nat}{t:TypeId}:∀(vs:List Value) (o:Nat) (w:World) (cs:Array Value),Blk w b t cs->∃j,Blk (w.setCells b o vs) b t j
 |[],_,_,cs,h=>⟨cs,h⟩
 |v :: r,o,_,_,h=>Ka r (o+1) _ _ (h.set (i:=o) (v:=v))
theorem Xc{B b:Nat}(hb:B<=b):∀(vs:List Value) (o:Nat) {a w:World},Below B a w->Below B a (w.setCells b o vs)
 |[],_,_,_,h=>h
 |v :: r,o,_,_,h=>Xc hb r (o+1) (h.setCell (p:=⟨b,o,none⟩) hb v)
theorem zej(l:List Int)(j:Nat)(h:j<(zm l).length):(zm l)[j]=.int .i64 (l.getD j 0):=by
 have hl:j<l.length:=by simpa[Qe] using h
 have e:=QN l j hl;rw[List.getElem?_eq_getElem h] at e;exact Option.some.inj e
theorem zcG{W:World}{g:Nat}{x:Int}{l:List Int}(hx:W.cell? g=some (.int .i64 x))(hr:∀j,j<l.length->W.cell? ⟨g,j+1,none⟩=some (.int .i64 (l.getD j 0)))(hW:∃o,Blk W g 3 o):qU 0 W (some g) (x :: l):=by
 obtain⟨o,hW⟩:=hW;intro i hi;refine⟨_,rfl,hW.lt,Or.inr ⟨_,_,hW⟩,?_⟩;cases i with
 |zero=>simpa[Addr.add] using hx
 |succ i =>have h:=hr i (by simpa using hi);simpa[Addr.add,List.getD_cons_succ] using h
theorem zlQ(l:List Int)(x:Int)(v:Value)(vb B:Nat)(w:World)(hB:B<=w.heap.size)(hv:w.ownsRow B 3 1 v l.length (zm l))(h0:l=[]->v=.slice none 0 0)(hb:Blk w vb 3 #[x])(hne:v.ownBlock≠some vb)(hl:l.length<=100000) :
  zC 52 #[v,(0:Int),.slice (some vb) 1 1] w fun e w'=>∃g o,e=.returned (.slice (some ⟨g,0,none⟩) (l.length+1) o)/\l.length+1<=o/\o<=9223372036854775807/\qU 0 w' (some ⟨g,0,none⟩) (x :: l)/\B<=g/\Below B w w':=by
 have X:∀(j:Nat) (u:Value),[Value.int .i64 x][j]?=some u->w.cell? ⟨vb,0+j,none⟩=some u:=fun j u hu=>by
  cases j with
  |zero=>simp at hu;subst hu;exact hb.cell 0
  |succ j=>simp at hu
 have J:∀u∈[Value.int .i64 x],u.oneCell'=true:=xw _;have Y:∀u∈zm l,u.oneCell'=true:=fun u hu=>by obtain⟨y,_,rfl⟩:=List.mem_map.1 hu;rfl
 by_cases hz:l=[]
 ·subst hz;obtain rfl:=h0 rfl;refine(Any2.slices_Insert_int_end_grow Tryz.insInt none 0 0 vb 0 1 1 [] [.int .i64 x] w (by omega) (by omega) (by omega) (by omega) rfl rfl (fun _=>rfl) (fun a e=>by cases e) X J).mono ?_;rintro e w' ⟨rfl,rfl⟩;have V:=grownCap_ge w 1 0 3;have q:=grownCap_le_maxLen w 1 0 3 (by unfold maxLen;omega);unfold maxLen at q;refine⟨_,_,rfl,V,q,?_,hB,((Below.refl _ w).drew).alloc hB _⟩;intro i hi;have hW:=Blk.new w.drew 3 ((([]:List Value)++[Value.int .i64 x]).toArray++Builtin.zeroCells (Value.int .i64 0).cells (grownCap w (0+1) 0 3-(0+1)));refine⟨_,rfl,hW.lt,Or.inr ⟨_,_,hW⟩,?_⟩;obtain rfl:i=0:=by simpa using hi
  refine(hW.cell 0).trans ?_;rw[Array.getElem?_append_left (by simp)];rfl
 ·have hn:0<l.length:=List.length_pos_iff.2 hz;rcases hv.2 with ⟨_,e0⟩|⟨g,o,C,rfl,K,hg,R,U,a5,a1⟩
  ·omega
  ·have hG:Blk w g 3 C:=hg;have a2:vb≠g:=fun e=>hne (by rw[e];rfl);have a0:∀(j:Nat) (u:Value),(zm l)[j]?=some u->w.cell? ⟨g,0+j,none⟩=some u:=fun j u hu=>by
    rw[Nat.zero_add];have hj:j<l.length:=by have:=(List.getElem?_eq_some_iff.1 hu).1;simpa[Qe] using this
    have:=hv.cellAt j (by omega);rw[this];exact hu
   unfold maxLen at U
   by_cases hroom:l.length+1<=o
   ·have p:∀j,j<l.length+1->(w.cell? ⟨g,0+j,none⟩).isSome=true:=fun j hj=>by
     rw[Nat.zero_add,hG.cell j];simp;omega
    refine(Any2.slices_Insert_int_shift Tryz.insInt g 0 l.length o 0 vb 0 1 1 (zm l) [.int .i64 x] w hn (by omega) hroom U a2 (by simp[Qe]) rfl a0 p (fun j _=>hG.frozen _) X Y J 3 3 1 C.size (by unfold World.shape?;rw[show w.heap[vb]?=_ from hb];rfl) (by unfold World.shape?;rw[hg]) (by omega) (hb.frozen _) (hb.frozen _)).mono ?_;rintro e w' ⟨rfl,rfl⟩;have a3:=World.cell?_setCells_in g (zm l) 1 w.drew (fun j hj=>by rw[Nat.add_comm 1 j,<-Nat.zero_add (j+1)];exact p (j+1) (by have:=Qe l;omega));obtain⟨c1,M⟩:=Ka (zm l) 1 w.drew C (show Blk w.drew g 3 C from hG);refine⟨g,o,rfl,hroom,U,?_,K,Xc K _ _ (Xc K _ _ (Below.refl _ w).drew)⟩;refine zcG ?_ ?_ ?_
    ·have:=World.cell?_setCells_in g [Value.int .i64 x] 0 (w.drew.setCells g 1 (zm l)) (fun j hj=>by
      refine isSome_setCells g _ _ _ (fun k hk=>by rw [Nat.add_comm 1 k,<- Nat.zero_add (k + 1)];exact p (k + 1) (by have:=Qe l;omega)) _ (by rw [Nat.zero_add] at *;exact by rw [<- Nat.zero_add j];exact p j (by simp at hj;omega))) 0 (by simp)
     simpa using this
    ·intro j hj;have h1:=World.cell?_setCells_out g [Value.int .i64 x] 0 (w.drew.setCells g 1 (zm l)) ⟨g,j+1,none⟩ (fun _ _=>Or.inr (by simp));have h2:=a3 j (by have:=Qe l;omega);rw[Nat.add_comm 1 j,zej] at h2;exact h1.trans h2
    ·exact Ka _ _ _ _ M
   ·refine(Any2.slices_Insert_int_grow Tryz.insInt g 0 l.length o 0 vb 0 1 1 (zm l) [.int .i64 x] w hn (by omega) R (by omega) (by omega) (by simp[Qe]) rfl a0 X Y J).mono ?_;rintro e w' ⟨rfl,rfl⟩;have V:=grownCap_ge w (l.length+1) o 3;have q:=grownCap_le_maxLen w (l.length+1) o 3 (by unfold maxLen;omega);unfold maxLen at q;obtain⟨A,hA⟩:∃A,((zm l).take 0).toArray++Builtin.zeroCells (Value.int .i64 0).cells (l.length+1-0)++Builtin.zeroCells (Value.int .i64 0).cells (grownCap w (l.length+1) o 3-(l.length+1))=A:=⟨_,rfl⟩;have a4:l.length+1<=A.size:=by rw[<-hA];simp[size_zeroCells,Value.cells]
    rw[show Tryz.insInt_ren.t 3=3 from rfl,hA];have hW:=Blk.new w 3 A;have Z:Blk (w.alloc (.cells A 3)).drew w.heap.size 3 A:=hW;obtain⟨c1,M⟩:=Ka [Value.int .i64 x] 0 _ A Z;have hc1':Blk (((w.alloc (.cells A 3)).drew.setCells w.heap.size 0 [Value.int .i64 x]).drew) w.heap.size 3 c1:=M;have p:∀j,j<l.length+1->((w.alloc (.cells A 3)).drew.cell? ⟨w.heap.size,j,none⟩).isSome=true:=fun j hj=>by
     rw[Z.cell j];simp;omega
    refine⟨w.heap.size,_,rfl,V,q,?_,hB,Xc hB _ _ (Xc hB _ _ (((Below.refl _ w).alloc hB _).drew)).drew⟩;refine zcG ?_ ?_ (Ka _ _ _ _ hc1')
    ·have h1:=World.cell?_setCells_out w.heap.size (zm l) 1 (((w.alloc (.cells A 3)).drew.setCells w.heap.size 0 [Value.int .i64 x]).drew) w.heap.size (fun _ _=>Or.inl (by simp));have h2:=World.cell?_setCells_in w.heap.size [Value.int .i64 x] 0 (w.alloc (.cells A 3)).drew (fun j hj=>by rw[Nat.zero_add];exact p j (by simp at hj;omega)) 0 (by simp);exact h1.trans (by simpa using h2)
    ·intro j hj;have h2:=World.cell?_setCells_in w.heap.size (zm l) 1 (((w.alloc (.cells A 3)).drew.setCells w.heap.size 0 [Value.int .i64 x]).drew) (fun k hk=>isSome_setCells w.heap.size [Value.int .i64 x] 0 (w.alloc (.cells A 3)).drew (fun j hj=>by rw[Nat.zero_add];exact p j (by simp at hj;omega)) _ (p _ (by have:=Qe l;omega))) j (by have:=Qe l;omega);rw[Nat.add_comm 1 j,zej] at h2;exact h2
end
section
open Go.RowKit Go.Deep Sv
def pr0(its:List It)(k j:Nat):List (Int × List Int):=if (its.getD j default).name=(its.getD k default).name then [(-1,[zE (j:Int),zE (k:Int)])] else []
def prI(its:List It)(k i:Nat):List (Int × List Int):=(List.range i).flatMap (pr0 its k)
def prF(its:List It)(k:Nat):List (Int × List Int):=(List.range k).flatMap fun k=>prI its k k
theorem zbK(its:List It)(k i:Nat):prI its k (i+1)=prI its k i++pr0 its k i:=by unfold prI;rw[List.range_succ,List.flatMap_append];simp
theorem zaa(its:List It)(k:Nat):prF its (k+1)=prF its k++prI its k k:=by unfold prF;rw[List.range_succ,List.flatMap_append];simp
noncomputable def lnL(its:List It)(ls:List Ln)(n:Nat):List (Int × List Int):=(List.range n).flatMap fun n=>yy its n (ls.getD n default)
theorem zbd(its:List It)(ls:List Ln)(n:Nat):lnL its ls (n+1)=lnL its ls n++yy its n (ls.getD n default):=by unfold lnL;rw[List.range_succ,List.flatMap_append];simp
noncomputable def ofL(its:List It)(ls:List Ln):List (Int × List Int):=prF its its.length++lnL its ls ls.length
theorem zpD(its:List It)(k j:Nat):(pr0 its k j).length<=1:=by unfold pr0;split<;>simp
theorem JF(its:List It)(k:Nat):∀i,(prI its k i).length<=i
 |0=>by simp[prI]
 |i+1=>by rw[zbK,List.length_append];have:=JF its k i;have:=zpD its k i;omega
theorem Jj(its:List It):∀k,k<=24->(prF its k).length<=k*24
 |0,_=>by simp[prF]
 |k+1,h=>by rw[zaa,List.length_append];have:=Jj its k (by omega);have:=JF its k k;omega
theorem Q8(its:List It)(name:ByteArray)(rng:List zf):(qs its name rng).length<=its.length:=by
 unfold qs;refine Nat.le_trans (List.length_filter_le _ _) ?_;rw[List.length_range'];have:=zaB its name;omega
theorem Y6(its:List It)(name:ByteArray)(rng:List zf):∀x∈qs its name rng,x<its.length:=by
 intro x hx;unfold qs at hx;have h:=(List.mem_range'_1.1 (List.mem_filter.1 hx).1);have:=zaB its name;omega
theorem zli(its:List It)(n:Nat)(x:Ln)(h:its.length<=24):(yy its n x).length<=24:=by
 have:=Q8 its x.other x.rng;unfold yy;split
 ·simp
 ·split
  ·simp
  ·split
   ·simp;omega
   ·simp
theorem JW(its:List It)(ls:List Ln)(h:its.length<=24):∀n,(lnL its ls n).length<=n*24
 |0=>by simp[lnL]
 |n+1=>by rw[zbd,List.length_append];have:=JW its ls h n;have:=zli its n (ls.getD n default) h;omega
structure OS(w W:World)(b5:Nat)(n:Int)(cv fv:Value)(P:List (Int × List Int))(iv:Value)(its:List It):Prop where
 r2:Blk W w.heap.size 60 #[(0:Int),.slice none 0 0,.slice none 0 0]
 r5:Blk W b5 60 #[n,cv,fv]
 rs:RS (b5+1) W cv fv (P.map Prod.snd) (P.map Prod.fst)
 B:zB w W
 lo:w.heap.size<b5
 its:W.ownsRow w.heap.size 115 4 iv its.length (zl its)
section
variable {w W W':World} {b5:Nat} {n:Int} {cv fv iv:Value} {P:List (Int × List Int)} {its:List It}
theorem OS.new(h:OS w W b5 n cv fv P iv its)(hb:zB W W'):OS w W' b5 n cv fv P iv its :=
 ⟨h.r2.below hb h.r2.lt,h.r5.below hb h.r5.lt,h.rs.new hb,zT h.B hb,h.lo,zI h.its hb⟩
theorem OS.keep(h:OS w W b5 n cv fv P iv its)(hf:Fr b5 cv fv W W'){k:Nat}{cs:Array Value}{t:TypeId}(hk:Blk W k t cs)(h1:t≠60)(h2:t≠107)(h3:t≠3):Blk W' k t cs:=by
 obtain⟨j,hc,-⟩:=h.rs.crow;refine(hf.block k hk.lt (hk.ne_type h.r5 h1) (fun e=>Xo hc hk h2 e.symm) (fun e=>Xo h.rs.frow hk h3 e.symm)).trans hk
theorem OS.keepRow(h:OS w W b5 n cv fv P iv its)(hf:Fr b5 cv fv W W'){B t k m:Nat}{v:Value}{cs:List Value}(hr:W.ownsRow B t k v m cs)(h1:t≠60)(h2:t≠107)(h3:t≠3):W'.ownsRow B t k v m cs:=by
 refine⟨hr.1,?_⟩;rcases hr.2 with h'|⟨g,j,o,e,hB,hg,r⟩
 ·exact .inl h'
 ·exact .inr ⟨g,j,o,e,hB,h.keep hf hg h1 h2 h3,r⟩
theorem OS.add(h:OS w W b5 n cv fv P iv its){cv' fv':Value}{f:Int}{c:List Int}(hf:Fr b5 cv fv W W')(h5:Blk W' b5 60 #[n,cv',fv'])(hr:RS (b5+1) W' cv' fv' (P.map Prod.snd++[c]) (P.map Prod.fst++[f])):OS w W' b5 n cv' fv' (P++[(f,c)]) iv its :=
 ⟨h.r2.below hf.B (by have:=h.lo;omega),h5,by simpa using hr,h.B.trans (hf.B.mono (Nat.le_of_lt h.lo)),h.lo,h.keepRow hf h.its (by decide) (by decide) (by decide)⟩
theorem OS.keepInts(h:OS w W b5 n cv fv P iv its)(hf:Fr b5 cv fv W W'){B m:Nat}{v:Value}{cs:List Value}(hr:W.ownsRow B 3 1 v m cs)(hn:∀g,v.ownBlock=some g->some g≠fv.ownBlock):W'.ownsRow B 3 1 v m cs:=by
 obtain⟨p,hc,-⟩:=h.rs.crow;refine⟨hr.1,?_⟩;rcases hr.2 with h'|⟨g,o,j,e,hB,hg,r⟩
 ·exact .inl h'
 ·have hk:Blk W g 3 j:=hg;exact .inr ⟨g,o,j,e,hB,(hf.block g hk.lt (hk.ne_type h.r5 (by decide)) (fun e=>Xo hc hk (by decide) e.symm) (hn g (by rw[e];rfl))).trans hg,r⟩
theorem OS.fresh(h:OS w W b5 n cv fv P iv its){g:Nat}(hg:W.heap.size<=g):some g≠fv.ownBlock:=fun e=>by
 have:=(h.rs.frow.lt g e.symm).2;omega
end
theorem J5{B:Nat}{w:World}{v:Value}{l:List Int}(h:w.ownsRow B 3 1 v l.length (zm l)):∃a j,v=.slice a l.length j/\l.length<=j/\j<=9223372036854775807/\qU 0 w a l/\PlA a:=by
 rcases h.2 with ⟨e,e0⟩|⟨g,j,p,e,hB,hg,hn,hm,q,o⟩
 ·exact⟨none,0,by rw[e,e0],by omega,by omega,fun i hi=>by omega,fun ad e=>by cases e⟩
 ·unfold maxLen at hm;refine⟨_,_,e,hn,hm,fun i hi=>⟨_,rfl,(show Blk w g 3 p from hg).lt,Or.inr ⟨_,_,hg⟩,?_⟩,fun ad e=>by cases e;rfl⟩;subst e;have:=h.cellAt i (by omega);rw[ZK,Nat.zero_add,this,QN l i hi]
theorem zbe(its:List It)(x:It)(h:its.length<=24):-1<=qI its x/\qI its x<=24:=by
 unfold qI;split
 ·rename_i i hi;have:=(List.findIdx?_eq_some_iff_findIdx_eq.1 hi).1;omega
 ·omega
theorem zpn(bk bm:Nat)(lv iv:Value)(ls:List Ln)(vs:List Value)(w:World)(h1:Blk w bk 170 #[lv,iv,.map (some bm)])(hr:qO w ls vs)(h2:yf w lv ls.length (qw ls vs))(hl:ls.length<=100000) :
  zC 48 #[.pointer (some bk)] w fun e w'=>∃v',e=.returned v'/\w'.ownsRow w.heap.size 97 7 v' ls.length (qw ls vs)/\zB w w':=by
 have HI:=zH (zcA ls vs hr.1 hr.one lv w h2 hl);obtain⟨va,vc,rfl,-⟩:=h2.form;have c0:_=some (Value.slice va ls.length vc):=h1.cell 0;clear h1 h2 hr hl;go_enter Tryz.func48,Tryz.ntmps48;go_wp2_with fail;refine HI.out.mono ?_;rintro e w1 ⟨v',rfl,j,o⟩;have HR:=zH j;have p:=zH o;clear o HI j c0;go_wp2;go_ret;exact⟨v',rfl,HR.out,p.out⟩
end
section
open Go.RowKit Go.Deep Sv
section
variable {w W:World} {b5:Nat} {n:Int} {cv fv iv:Value} {P:List (Int × List Int)} {its:List It}
def zec(w W:World)(b5:Nat)(n:Int)(cv fv:Value)(P:List (Int × List Int))(iv:Value)(its:List It)(f:Int)(c:List Int)(e:Ending)(w':World):Prop :=
 e=.returned (.tuple #[])/\∃j o,OS w w' b5 n j o (P++[(f,c)]) iv its/\Fr b5 cv fv W w'/\Loc W cv j/\Loc W fv o
theorem zaA(h:OS w W b5 n cv fv P iv its)(hP:P.length<=90000)(f:Int)(a:Option Addr)(c:List Int)(cap:Nat)(hc1:c.length<=cap)(hc2:cap<=9223372036854775807)(hi:qU 0 W a c)(hN:0<c.length->∀g,(Value.slice a c.length cap).ownBlock=some g->some g≠fv.ownBlock)(hpa:PlA a) :
  zC 46 #[f,.slice a c.length cap,.pointer (some b5)] W (zec w W b5 n cv fv P iv its f c) :=
 (znz b5 n W cv fv _ _ f a c cap h.r5 h.rs hc1 hc2 hi hN hpa (by simp;omega) (by simp;omega)).mono fun _ _ ⟨he,cv',fv',h1,h2,h3,h4,h5⟩=>⟨he,cv',fv',h.add h3 h1 h2,h3,h4,h5⟩
theorem zdj(h:OS w W b5 n cv fv P iv its)(hP:P.length<=90000)(f x y:Int) :
  zC 46 #[f,.slice (some W.heap.size) 2 2,.pointer (some b5)] (W.alloc (.cells #[x,y] 3)) (zec w (W.alloc (.cells #[x,y] 3)) b5 n cv fv P iv its f [x,y]):=by
 have j:=below_new W (.cells #[x,y] 3);have hB:=Blk.new W 3 #[x,y];refine zaA (h.new j) hP f (some W.heap.size) [x,y] 2 zN (by omega) (fun i hi=>⟨_,rfl,hB.lt,Or.inr ⟨_,_,hB⟩,?_⟩) (fun _ g hg e=>?_) (fun ad e=>by cases e;rfl)
 ·rw[ZK,Nat.zero_add,hB.cell i]
  match i,hi with
  |0,_=>rfl
  |1,_=>rfl
 ·simp[Value.ownBlock] at hg;have:=(h.rs.frow.lt g e.symm).2;omega
end
theorem RS.set{B b i:Nat}{W:World}{cv fv v:Value}{K:List (List Int)}{F:List Int}{cs:Array Value}(h:RS B W cv fv K F)(hb:Blk W b 60 cs)(hlt:b<B):RS B (W.setCell ⟨b,i,none⟩ v) cv fv K F:=by
 obtain⟨c,h1,h2,h3⟩:=h.crow;exact⟨⟨c,Zs h1 hlt,h2.kp (Kp.set (Nat.zero_le _) hb (by decide)),h3⟩,Zs h.frow hlt⟩
theorem RS.base{B B':Nat}{W:World}{cv fv:Value}{K:List (List Int)}{F:List Int}(h:RS B W cv fv K F)(hlt:B'<=B):RS B' W cv fv K F:=by
 obtain⟨c,h1,h2,h3⟩:=h.crow;exact⟨⟨c,ownsRow_base h1 hlt,h2,h3⟩,ownsRow_base h.frow hlt⟩
def zgL(w:World)(n:Int)(P:List (Int × List Int))(e:Ending)(w':World):Prop :=
 (200<P.length/\e=.returned (.tuple #[.agg #[(0:Int),.slice none 0 0,.slice none 0 0],.iface 42 (.int .i64 4)])/\zB w w') \/
 (P.length<=200/\∃cv fv,e=.returned (.tuple #[.agg #[n,cv,fv],.nilIface])/\RS w.heap.size w' cv fv (P.map Prod.snd) (P.map Prod.fst)/\zB w w')
theorem zaX{its:List It}(hl:its.length<=24)(nm:ByteArray)(rng:List zf):(qs its nm rng).length<=24/\∀x∈qs its nm rng,x<=24 :=
 ⟨Nat.le_trans (Q8 _ _ _) hl,fun x hx=>by have:=Y6 its nm rng x hx;omega⟩
theorem YU(l:List Nat):(qG l).length=l.length:=by simp[qG]
theorem zlA(bk:Nat)(ls:List Ln)(its:List It)(w:World)(h:xY w bk ls its)(hl:its.length<=24)(hll:ls.length<=120)(hnm:∀x∈ls,x.name.size<=100000/\x.other.size<=100000) :
  zC 21 #[.pointer (some bk)] w (zgL w (its.length:Int) (ofL its ls)):=by
 have ai:Hid (ofL its ls=prF its its.length++lnL its ls ls.length):=rfl;generalize ofL its ls=PF at *;have HC:=zH h;have aL:zB w (w.alloc (.cells #[(0:Int),.slice none 0 0,.slice none 0 0] 60)):=(Below.refl _ w).alloc zN _;have k2:=Blk.new w 60 #[(0:Int),.slice none 0 0,.slice none 0 0];have bb:=zH (znA bk ls its _ (h.below aL zN) (by omega));clear h;go_enter Tryz.func21,Tryz.ntmps21;go_upto_region 1 with fail;generalize w.alloc (.cells #[(0:Int),.slice none 0 0,.slice none 0 0] 60)=W0 at *;go_wp2_with fail;refine bb.out.mono ?_;rintro e w1 ⟨iv,rfl,au,aJ⟩;have b6:=aL.size;have bI:=aJ.size;have aE:=k2.lt;have o:OS w (w1.alloc (.cells #[its.length,.slice none 0 0,.slice none 0 0] 60)) w1.heap.size (its.length:Int) (.slice none 0 0) (.slice none 0 0) (prF its 0) iv its :=
  ⟨((k2.below aJ aE).alloc _),Blk.new _ _ _,RS.nil _ _,(aL.trans (aJ.mono b6)).alloc (by omega) _,by omega,ownsRow_base (zI au (below_new _ _)) b6⟩
 have ae:=zH o;obtain⟨ia,ic,rfl,-⟩:=(zD au).form;clear o au aJ bb aL k2 aE b6;go_upto_region 4 with fail;generalize w1.alloc (.cells #[its.length,.slice none 0 0,.slice none 0 0] 60)=W1 at *;generalize w1.heap.size=b5 at *;clear bI;go_wp2_with fail;go_loopw [24] (fun kV wr=>∃(k:Nat) (cv fv:Value),k<=its.length/\kV=.int .i64 k/\OS w wr b5 (its.length:Int) cv fv (prF its k) (.slice ia its.length ic) its) (fun kV _=>its.length-(intOf kV).toNat)
 case atStart=>exact⟨0,_,_,Nat.zero_le _,rfl,ae.out⟩
 case round =>
  obtain⟨k,cv,fv,bE,rfl,o⟩:=hrel
  by_cases hlt:k<its.length
  ·obtain⟨g,an,e,hg,c0,c1,c2,c3⟩:=(show yd wr _ its from zD o.its).at k hlt;simp at e;obtain⟨rfl,rfl⟩:=e;obtain⟨X,aV⟩:∃X,its.getD k default=X:=⟨_,rfl⟩;rw[aV] at c0 c1 c2 c3;have bw:=zH aV;clear aV;have b0:(0:Int)<=(k:Int):=by omega
   have b1:(k:Int)<(its.length:Int):=by omega
   have a4:=below_new wr (.cells #[X.name,X.a,X.b,X.c] 115);have kx:=Blk.new wr 115 #[X.name,X.a,X.b,X.c];have aG:OS w (wr.alloc (.cells #[X.name,X.a,X.b,X.c] 115)) b5 (its.length:Int) cv fv (prF its k++prI its k 0) (.slice (some ⟨g,0,none⟩) its.length ic) its:=by
    rw[show prI its k 0=[] from rfl,List.append_nil];exact o.new a4
   have q:=zH aG;have HX:=zH kx;clear o aG a4 kx ae;go_upto_region 7 with fail;generalize wr.alloc (.cells #[X.name,X.a,X.b,X.c] 115)=W2 at *;generalize wr.heap.size=bx at *;clear c0 c1 c2 c3 hg;go_wp2_with fail;go_loopw [30] (fun iV wr=>∃(i:Nat) (cv fv:Value),i<=k/\iV=.int .i64 i/\OS w wr b5 (its.length:Int) cv fv (prF its k++prI its k i) (.slice (some ⟨g,0,none⟩) its.length ic) its/\Blk wr bx 115 #[X.name,X.a,X.b,X.c]) (fun iV _=>k-(intOf iV).toNat)
   case atStart=>exact⟨0,_,_,Nat.zero_le _,rfl,q.out,HX.out⟩
   case round =>
    clear q HX W2;obtain⟨i,cv,fv,bM,rfl,o,hX⟩:=hrel
    by_cases hlt2:i<k
    ·obtain⟨g',an,e,hg,c0,c1,c2,c3⟩:=(show yd wr _ its from zD o.its).at i (by omega);simp at e;obtain⟨rfl,rfl⟩:=e;have b2:(0:Int)<=(i:Int):=by omega
     have b3:(i:Int)<(its.length:Int):=by omega
     have bD:(i:Int)<(k:Int):=by omega
     have x0:_=some (Value.string X.name):=hX.cell 0;have Z:=zH (zbK its k i);have aC:Hid (pr0 its k i=if (its.getD i default).name=X.name then [(-1,[zE (i:Int),zE (k:Int)])] else []):=by show _=_;unfold pr0;rw[bw.out]
     obtain⟨Y,bh⟩:∃Y,(its.getD i default).name=Y:=⟨_,rfl⟩;rw[bh] at c0 aC;have ae:=zH o;have HX:=zH hX;have a9:(prF its k++prI its k i).length<=90000:=by have:=Jj its k (by omega);have:=JF its k i;rw[List.length_append];omega
     clear o hX c1 c2 c3 bh hg;go_upto_region 10 with fail
     by_cases heq:Y=X.name
     ·have aI:Hid (prF its k++prI its k (i+1)=(prF its k++prI its k i)++[(-1,[zE (i:Int),zE (k:Int)])]):=by show _=_;rw[Z.out,aC.out,zA2 heq,List.append_assoc]
      clear aC Z;go_big_region;have ao:zB wr wr.drew:=zF.drew;have ak:=zH (ae.out.new ao);have bf:=zH (HX.out.below ao HX.out.lt);clear ao ae HX x0 c0 heq;generalize wr.drew=W3 at *;go_wp2_with fail;refine(X8 (i:Int) (by omega) (by omega) _).mono ?_;rintro e w' ⟨rfl,rfl⟩;go_wp2_with fail;refine(X8 (k:Int) (by omega) (by omega) _).mono ?_;rintro e w' ⟨rfl,rfl⟩;go_wp2_with fail;refine(zdj ak.out a9 (-1) (zE (i:Int)) (zE (k:Int))).mono ?_;rintro e w4 ⟨rfl,a2,a0,ho,hf,-,-⟩;have M:Hid (OS w w4 b5 (its.length:Int) a2 a0 (prF its k++prI its k (i+1)) (.slice (some ⟨g,0,none⟩) its.length ic) its):=by show OS _ _ _ _ _ _ _ _ _;rw[aI.out];exact ho
      have aT:=zH ((ak.out.new (below_new _ _)).keep hf (bf.out.alloc _) (by decide) (by decide) (by decide));clear ho hf ak bf aI;go_wp2;go_roundw
      case rel=>exact⟨i+1,a2,a0,by omega,by go_num,M.out,aT.out⟩
      case measure=>simp[intOf];omega
     ·have aI:Hid (prI its k (i+1)=prI its k i):=by show _=_;rw[Z.out,aC.out,zA1 heq,List.append_nil]
      clear aC Z;have bK:(Y.toList==X.name.toList)=false:=by rw[beq_eq_false_iff_ne];exact fun h=>heq (Zb h)
      go_big_region;have ao:zB wr wr.drew:=zF.drew;have M:Hid (OS w wr.drew b5 (its.length:Int) cv fv (prF its k++prI its k (i+1)) (.slice (some ⟨g,0,none⟩) its.length ic) its):=by show OS _ _ _ _ _ _ _ _ _;rw[aI.out];exact ae.out.new ao
      have aT:=zH (HX.out.below ao HX.out.lt);clear ao ae HX x0 c0;generalize wr.drew=W3 at *;go_wp2;go_roundw
      case rel=>exact⟨i+1,cv,fv,by omega,by go_num,M.out,aT.out⟩
      case measure=>simp[intOf];omega
    ·obtain rfl:i=k:=by omega
     have M:Hid (OS w wr b5 (its.length:Int) cv fv (prF its (i+1)) (.slice (some ⟨g,0,none⟩) its.length ic) its):=by show OS _ _ _ _ _ _ _ _ _;rw[zaa];exact o
     clear o hX;go_wp2;go_roundw
     case rel=>exact⟨i+1,cv,fv,by omega,by go_num,M.out⟩
     case measure=>simp[intOf];omega
  ·obtain rfl:k=its.length:=by omega
   have aQ:=zH o;obtain⟨lv,bt,bm,q1,⟨vs,q2,bu⟩,-,-⟩:=HC.out;have bd:=zH (zpn bk bm lv bt ls vs wr (q1.below o.B q1.lt) (q2.below o.B zN) (bu.below o.B zN) (by omega));have bv:=zH q2;clear o ae W1 q1 q2 bu lv bt bm;go_wp2_with fail;refine bd.out.mono ?_;rintro e w2 ⟨lv,rfl,V,a4⟩;have aH:=aQ.out.new a4;have a7:Hid (OS w w2 b5 (its.length:Int) cv fv (prF its its.length++lnL its ls 0) (.slice ia its.length ic) its):=by show OS _ _ _ _ _ _ _ _ _;rw[show lnL its ls 0=[] from rfl,List.append_nil];exact aH
   have a6:=zH (ownsRow_base V aQ.out.B.size);obtain⟨la,lc,rfl,-⟩:=(zD V).form;clear V a4 aH bd aQ;go_wp2_with fail;go_loopw [53] (fun nV wr=>∃(n:Nat) (cv fv:Value),n<=ls.length/\nV=.int .i64 n/\OS w wr b5 (its.length:Int) cv fv (prF its its.length++lnL its ls n) (.slice ia its.length ic) its/\wr.ownsRow w.heap.size 97 7 (.slice la ls.length lc) ls.length (qw ls vs)) (fun nV _=>ls.length-(intOf nV).toNat)
   case atStart=>exact⟨0,_,_,Nat.zero_le _,rfl,a7.out,a6.out⟩
   case round =>
    clear a7 a6 bE hlt;obtain⟨n,cv,fv,bH,rfl,o,V⟩:=hrel
    by_cases hlt:n<ls.length
    ·obtain⟨g,an,rv,e,hg,aM,b4,c0,c1,c2,c3,c4,c5,c6⟩:=ZX.at ⟨vs,bv.out.below o.B zN,zD V⟩ n hlt;simp at e;obtain⟨rfl,rfl⟩:=e;have bp:=hnm (ls.getD n default) (by rw[List.getD_eq_getElem?_getD,List.getElem?_eq_getElem hlt];exact List.getElem_mem hlt);have Z:=zH (zbd its ls n);have a9:(prF its its.length++lnL its ls n).length<=80000:=by have:=Jj its its.length hl;have:=JW its ls hl n;rw[List.length_append];omega
     obtain⟨x,bs⟩:∃x,ls.getD n default=x:=⟨_,rfl⟩;rw[bs] at aM b4 c0 c1 c2 c3 c4 c5 bp Z;obtain⟨bF,bo⟩:=bp;obtain⟨ra,rc,rfl⟩:=aM.form;have b0:(0:Int)<=(n:Int):=by omega
     have b1:(n:Int)<(ls.length:Int):=by omega
     have a4:=below_new wr (.cells #[x.kind,x.name,x.a,x.b,x.c,x.other,.slice ra x.rng.length rc] 97);have kx:=Blk.new wr 97 #[x.kind,x.name,x.a,x.b,x.c,x.other,.slice ra x.rng.length rc];have q:=zH (o.new a4);have ax:=zH (aM.below a4 zN);have U:=zH b4;have a6:=zH (zI V a4);clear bs aM b4 o V a4 bH;go_upto_region 17 with fail;generalize wr.alloc (.cells #[x.kind,x.name,x.a,x.b,x.c,x.other,.slice ra x.rng.length rc] 97)=W2 at *;generalize wr.heap.size=bx at *;clear c0 c1 c2 c3 c4 c5 c6 hg;have d0:_=some (Value.int .i64 x.kind):=kx.cell 0;have d1:_=some (Value.string x.name):=kx.cell 1;have d2:_=some (Value.int .i64 x.a):=kx.cell 2;have d3:_=some (Value.int .i64 x.b):=kx.cell 3;have d4:_=some (Value.int .i64 x.c):=kx.cell 4;have d5:_=some (Value.string x.other):=kx.cell 5;have d6:_=some (Value.slice ra x.rng.length rc):=kx.cell 6;have HX:=zH kx;have y:=zH (HC.out.below q.out.B zN);have bg:=q.out.B.size;clear kx
     by_cases hk4:x.kind=4
     ·have a5:Hid (yy its n x=[((n:Int),qG (qs its x.name x.rng))]):=by show _=_;unfold yy qG;rw[zA2 hk4]
      have ay:=zaX hl x.name x.rng;have ab:=zH (zbQ bk ls its x.name x.rng U.out _ W2 y.out (by omega) bF ax.out);generalize qs its x.name x.rng=am at *;go_wp2_with fail;refine ab.out.mono ?_;rintro e w3 ⟨av,rfl,J,u⟩;have aD:=zH (zed am av w3 (by omega) (fun x hx=>by have:=ay.2 x hx;omega) (zD J));obtain⟨aa,ac,rfl,-⟩:=(zD J).form;clear ab d0 d1 d2 d3 d4 d5 d6 J;go_wp2_with fail;refine aD.out.mono ?_;rintro e w4 ⟨tv,rfl,ag,-,a3⟩;have ap:=q.out.new u;have aq:=ap.new a3;obtain⟨ta,tc,rfl,t1,t2,t3,t5⟩:=J5 (l:=qG am) (by rw[YU];exact ag);have R:=zH (zaA aq (Nat.le_trans a9 (by omega)) (n:Int) ta (qG am) tc t1 t2 t3 (fun _ g hg=>ap.fresh ((ag.lt g hg).1)) t5);have M:=zH aq;have C:=zH (zI (zI a6.out u) a3);clear aD ap aq ag u a3 t1 t2 t3;go_wp2_with fail;refine R.out.mono ?_;rintro e w5 ⟨rfl,a2,a0,ho,hf,-,-⟩;have a8:Hid (OS w w5 b5 (its.length:Int) a2 a0 (prF its its.length++lnL its ls (n+1)) (.slice ia its.length ic) its):=by show OS _ _ _ _ _ _ _ _ _;rw[Z.out,a5.out,<-List.append_assoc];exact ho
      have K:=zH (M.out.keepRow hf C.out (by decide) (by decide) (by decide));clear R ho hf M C;go_wp2;go_roundw
      case rel=>exact⟨n+1,a2,a0,hlt,by go_num,a8.out,K.out⟩
      case measure=>simp[intOf];omega
     ·by_cases hk2:x.kind=2
      ·have a5:Hid (yy its n x=[((n:Int),zE (qI its ⟨x.name,x.a,x.b,x.c⟩) :: qG (qs its x.other x.rng))]):=by show _=_;unfold yy qG;rw[zA1 hk4,zA2 hk2];rfl
       have ay:=zaX hl x.other x.rng;have bG:=zbe its ⟨x.name,x.a,x.b,x.c⟩ hl;have aB:=zH (zbh bk ls its x.name x.a x.b x.c W2 y.out (by omega));have ab:=zH (fun w3 u=>zbQ bk ls its x.other x.rng U.out (.slice ra x.rng.length rc) w3 (y.out.below (B:=W2.heap.size) u zN) (by omega) bo (ax.out.below u zN));generalize qs its x.other x.rng=am at *;generalize qI its ⟨x.name,x.a,x.b,x.c⟩=nu at *;go_wp2_with fail;refine aB.out.mono ?_;rintro e w3 ⟨rfl,u⟩;clear aB d0 d1 d2 d3 d4 d5 d6;go_wp2_with fail;refine(X8 nu (by omega) (by omega) _).mono ?_;rintro e w' ⟨rfl,ah⟩;rw[ah];clear ah;clear w';have aw:=HX.out.below u HX.out.lt;have d5:_=some (Value.string x.other):=aw.cell 5;have d6:_=some (Value.slice ra x.rng.length rc):=aw.cell 6;have az:=zH (ab.out w3 u);have a7:=zH (q.out.new u);have a1:=zH (zI a6.out u);generalize zE nu=own at *;clear aw ab u q a6 HX y ax U bg;go_wp2_with fail;refine az.out.mono ?_;rintro e w4 ⟨av,rfl,J,a3⟩;have aD:=zH (zed am av w4 (by omega) (fun x hx=>by have:=ay.2 x hx;omega) (zD J));obtain⟨aa,ac,rfl,-⟩:=(zD J).form;have M:=zH (a7.out.new a3);have C:=zH (zI a1.out a3);clear d5 d6 J az a7 a1 a3;go_wp2_with fail;refine aD.out.mono ?_;rintro e w5 ⟨tv,rfl,ag,bq,aW⟩;have br:=Blk.new w5 3 #[own];have aK:=below_new w5 (.cells #[own] 3);have aj:=zH (zlQ (qG am) own tv w5.heap.size w4.heap.size (w5.alloc (.cells #[own] 3)) (Nat.le_trans aW.size aK.size) (by rw[YU];exact zI ag aK) (fun e=>bq (by cases am with|nil=>rfl|cons _ _=>cases e)) br (fun e=>by have:=(ag.lt _ e).2;omega) (by rw[YU];omega));have b9:=zH (zT aW aK);obtain⟨ta,tc,rfl,-⟩:=(zD ag).form;rw[YU] at aj;clear aD ag bq aW br aK;go_wp2_with fail;refine aj.out.mono ?_;rintro e w6 ⟨g6,aU,rfl,t1,t2,t3,t4,bi⟩;have aX:=b9.out.trans bi;have aR:=zH (M.out.new aX);have aA:=zH (zI C.out aX);have R:=zH (zaA aR.out (Nat.le_trans a9 (by omega)) (n:Int) (some g6) (own :: qG am) aU (by simp[YU];exact t1) t2 t3 (fun _ g hg=>by simp[Value.ownBlock] at hg;subst hg;exact M.out.fresh t4) (fun ad e=>by cases e;rfl));rw[List.length_cons,YU] at R;clear aj bi aX b9 M C t1 t2 t3 t4;go_wp2_with fail;refine R.out.mono ?_;rintro e w7 ⟨rfl,a2,a0,ho,hf,-,-⟩;have a8:Hid (OS w w7 b5 (its.length:Int) a2 a0 (prF its its.length++lnL its ls (n+1)) (.slice ia its.length ic) its):=by show OS _ _ _ _ _ _ _ _ _;rw[Z.out,a5.out,<-List.append_assoc];exact ho
       have K:=zH (aR.out.keepRow hf aA.out (by decide) (by decide) (by decide));clear R ho hf aR aA;go_wp2;go_roundw
       case rel=>exact⟨n+1,a2,a0,hlt,by go_num,a8.out,K.out⟩
       case measure=>simp[intOf];omega
      ·by_cases hk3:x.kind=3
       ·have a5:Hid (yy its n x=(qs its x.other x.rng).map fun (k:Nat)=>((n:Int),[zE (qI its ⟨x.name,x.a,x.b,x.c⟩),zE (k:Int)])):=by show _=_;unfold yy;rw[zA1 hk4,zA1 hk2,zA2 hk3];rfl
        have ay:=zaX hl x.other x.rng;have bG:=zbe its ⟨x.name,x.a,x.b,x.c⟩ hl;have aB:=zH (zbh bk ls its x.name x.a x.b x.c W2 y.out (by omega));have ab:=zH (fun w3 u=>zbQ bk ls its x.other x.rng U.out (.slice ra x.rng.length rc) w3 (y.out.below (B:=W2.heap.size) u zN) (by omega) bo (ax.out.below u zN));generalize qs its x.other x.rng=am at *;generalize qI its ⟨x.name,x.a,x.b,x.c⟩=nu at *;go_wp2_with fail;refine aB.out.mono ?_;rintro e w3 ⟨rfl,u⟩;clear aB d0 d1 d2 d3 d4 d5 d6;go_wp2_with fail;refine(X8 nu (by omega) (by omega) _).mono ?_;rintro e w' ⟨rfl,ah⟩;rw[ah];clear ah;clear w';have aw:=HX.out.below u HX.out.lt;have d5:_=some (Value.string x.other):=aw.cell 5;have d6:_=some (Value.slice ra x.rng.length rc):=aw.cell 6;have az:=zH (ab.out w3 u);have a7:=zH (q.out.new u);have a1:=zH (zI a6.out u);generalize zE nu=own at *;clear aw ab u q a6 HX y ax U bg;go_wp2_with fail;refine az.out.mono ?_;rintro e w4 ⟨av,rfl,J,a3⟩;have ba:Hid (∀g,av.ownBlock=some g->some g≠fv.ownBlock):=fun g hg=>a7.out.fresh (J.lt g hg).1;have b8:=zH J;have M:Hid (OS w w4 b5 (its.length:Int) cv fv ((prF its its.length++lnL its ls n)++((am.take 0).map fun (k:Nat)=>((n:Int),[own,zE (k:Int)]))) (.slice ia its.length ic) its):=by show OS _ _ _ _ _ _ _ _ _;rw[List.take_zero,List.map_nil,List.append_nil];exact a7.out.new a3
        have C:=zH (zI a1.out a3);obtain⟨aa,ac,rfl,-⟩:=(zD J).form;clear d5 d6 J az a7 a1 a3;go_wp2_with fail;go_loopw [110] (fun jV wr=>∃(j:Nat) (cv fv:Value),j<=am.length/\jV=.int .i64 j/\OS w wr b5 (its.length:Int) cv fv ((prF its its.length++lnL its ls n)++((am.take j).map fun (k:Nat)=>((n:Int),[own,zE (k:Int)]))) (.slice ia its.length ic) its/\wr.ownsRow w.heap.size 97 7 (.slice (some ⟨g,0,none⟩) ls.length lc) ls.length (qw ls vs)/\wr.ownsRow w3.heap.size 3 1 (.slice aa am.length ac) am.length (zm (am.map fun (k:Nat)=>(k:Int)))/\(∀g,(Value.slice aa am.length ac).ownBlock=some g->some g≠fv.ownBlock)) (fun jV _=>am.length-(intOf jV).toNat)
        case atStart=>exact⟨0,_,_,Nat.zero_le _,rfl,M.out,C.out,b8.out,ba.out⟩
        case round =>
         clear ba b8 M C;obtain⟨j,cv,fv,bN,rfl,o,V,J,aZ⟩:=hrel
         by_cases hjt:j<am.length
         ·obtain⟨ga,an,e,bC,bj⟩:=(zD J).cells (by omega);simp at e;obtain⟨rfl,rfl⟩:=e;have bA:wr.cell? ⟨ga,j,none⟩=some (.int .i64 ((am.getD j 0:Nat):Int)):=bj j _ (by rw[QN _ _ (by simpa using hjt)];simp[List.getD_eq_getElem?_getD,hjt]);have bP:am.getD j 0<=24:=ay.2 _ (by rw[List.getD_eq_getElem?_getD,List.getElem?_eq_getElem hjt];exact List.getElem_mem hjt);have aF:((prF its its.length++lnL its ls n)++((am.take j).map fun (k:Nat)=>((n:Int),[own,zE (k:Int)]))).length<=90000:=by have h1:=List.length_take_le j am;have h2:=ay.1;rw[List.length_append,List.length_map];omega
          have be:Hid ((am.take (j+1)).map (fun (k:Nat)=>((n:Int),[own,zE (k:Int)]))=(am.take j).map (fun (k:Nat)=>((n:Int),[own,zE (k:Int)]))++[((n:Int),[own,zE ((am.getD j 0:Nat):Int)])]):=by
           show _=_;rw[List.take_add_one,List.getElem?_eq_getElem hjt,List.map_append,List.getD_eq_getElem?_getD,List.getElem?_eq_getElem hjt];rfl
          generalize am.getD j 0=kk at *;have b2:(0:Int)<=(j:Int):=by omega
          have b3:(j:Int)<(am.length:Int):=by omega
          have aS:=zH o;have bc:=zH V;have b7:=zH J;have aO:=zH aZ;have bL:=bC;clear o V J aZ bj;go_wp2_with fail;refine(X8 (kk:Int) (by omega) (by omega) _).mono ?_;rintro e w' ⟨rfl,ah⟩;rw[ah];clear ah;clear w';clear bA;generalize zE (kk:Int)=nk at *;go_wp2_with fail;refine(zdj aS.out aF (n:Int) own nk).mono ?_;rintro e w5 ⟨rfl,a2,a0,ho,hf,-,bn⟩;have a8:Hid (OS w w5 b5 (its.length:Int) a2 a0 ((prF its its.length++lnL its ls n)++((am.take (j+1)).map fun (k:Nat)=>((n:Int),[own,zE (k:Int)]))) (.slice ia its.length ic) its):=by show OS _ _ _ _ _ _ _ _ _;rw[be.out,<-List.append_assoc];exact ho
          have ar:=aS.out.new (below_new wr (.cells #[own,nk] 3));have K:=zH (ar.keepRow hf (zI bc.out (below_new _ _)) (by decide) (by decide) (by decide));have aN:=zH (ar.keepInts hf (zI b7.out (below_new _ _)) aO.out);have aP:Hid (∀g,(Value.slice (some ga) am.length ac).ownBlock=some g->some g≠a0.ownBlock):=fun g hg=>by
           rcases bn with e|⟨g',e,bB⟩
           ·rw[e];exact aO.out g hg
           ·rw[e];simp[Value.ownBlock] at hg;simp at bB ⊢;omega
          clear ho hf bn ar aS bc b7 aO be;go_wp2;go_roundw
          case rel=>exact⟨j+1,a2,a0,hjt,by go_num,a8.out,K.out,aN.out,aP.out⟩
          case measure=>simp[intOf];omega
         ·obtain rfl:j=am.length:=by omega
          have a8:Hid (OS w wr b5 (its.length:Int) cv fv (prF its its.length++lnL its ls (n+1)) (.slice ia its.length ic) its):=by
           show OS _ _ _ _ _ _ _ _ _;rw[Z.out,a5.out,<-List.append_assoc];rw[List.take_length] at o;exact o
          have K:=zH V;clear o V J aZ Z a5;go_wp2;go_roundw
          case rel=>exact⟨n+1,cv,fv,hlt,by go_num,a8.out,K.out⟩
          case measure=>simp[intOf];omega
       ·have a5:Hid (yy its n x=[]):=by show _=_;unfold yy;rw[zA1 hk4,zA1 hk2,zA1 hk3]
        have a8:Hid (OS w W2 b5 (its.length:Int) cv fv (prF its its.length++lnL its ls (n+1)) (.slice ia its.length ic) its):=by show OS _ _ _ _ _ _ _ _ _;rw[Z.out,a5.out,List.append_nil];exact q.out
        clear Z a5 HX y ax U q;go_wp2;go_roundw
        case rel=>exact⟨n+1,cv,fv,hlt,by go_num,a8.out,a6.out⟩
        case measure=>simp[intOf];omega
    ·obtain rfl:n=ls.length:=by omega
     have af:(prF its its.length++lnL its ls ls.length).length=PF.length:=by rw[ai.out]
     obtain⟨bJ,aY,-⟩:=o.rs.crow;rw[List.length_map,af] at aY;obtain⟨ca,cc,rfl,-⟩:=(zD aY).form;have c0:_=some (Value.int .i64 its.length):=o.r5.cell 0;have c1:_=some (Value.slice ca PF.length cc):=o.r5.cell 1;have c2:_=some fv:=o.r5.cell 2;have d0:_=some (Value.int .i64 0):=o.r2.cell 0;have d1:_=some (Value.slice none 0 0):=o.r2.cell 1;have d2:_=some (Value.slice none 0 0):=o.r2.cell 2;have f0:=o.r2.frozen 0;have f1:=o.r2.frozen 1;have f2:=o.r2.frozen 2;have HO:=zH o;have bO:=o.lo;clear aY o V af
     by_cases hbig:200<PF.length
     ·have bz:(200:Int)<(PF.length:Int):=by omega
      have q0:Blk (((wr.setCell w.heap.size (.int .i64 0)).setCell ⟨w.heap.size,1,none⟩ (.slice none 0 0)).setCell ⟨w.heap.size,2,none⟩ (.slice none 0 0)) w.heap.size 60 #[(0:Int),.slice none 0 0,.slice none 0 0]:=((HO.out.r2.set (i:=0)).set (i:=1)).set (i:=2);have hB:zB w (((wr.setCell w.heap.size (.int .i64 0)).setCell ⟨w.heap.size,1,none⟩ (.slice none 0 0)).setCell ⟨w.heap.size,2,none⟩ (.slice none 0 0)):=((HO.out.B.setCell (p:=w.heap.size) zN _).setCell (p:=⟨w.heap.size,1,none⟩) zN _).setCell (p:=⟨w.heap.size,2,none⟩) zN _;have Q0:=zH q0;have HB:=zH hB;clear q0 hB HO;go_wp2;generalize ((wr.setCell w.heap.size (.int .i64 0)).setCell ⟨w.heap.size,1,none⟩ (.slice none 0 0)).setCell ⟨w.heap.size,2,none⟩ (.slice none 0 0)=WG at *;have r0:=Q0.out.cell 0;have r1:=Q0.out.cell 1;have r2:=Q0.out.cell 2;refine bodyPost_ret (v:=.tuple #[.agg #[(0:Int),.slice none 0 0,.slice none 0 0],.iface 42 (.int .i64 4)]) (by simp[results,Tryz.f21,go_sem,r0,r1,r2]) rfl ?_;exact .inl ⟨hbig,rfl,HB.out⟩
     ·have bz:¬(200:Int)<(PF.length:Int):=by omega
      have q0:Blk (((wr.setCell w.heap.size (.int .i64 its.length)).setCell ⟨w.heap.size,1,none⟩ (.slice ca PF.length cc)).setCell ⟨w.heap.size,2,none⟩ fv) w.heap.size 60 #[its.length,.slice ca PF.length cc,fv]:=((HO.out.r2.set (i:=0)).set (i:=1)).set (i:=2);have hB:zB w (((wr.setCell w.heap.size (.int .i64 its.length)).setCell ⟨w.heap.size,1,none⟩ (.slice ca PF.length cc)).setCell ⟨w.heap.size,2,none⟩ fv):=((HO.out.B.setCell (p:=w.heap.size) zN _).setCell (p:=⟨w.heap.size,1,none⟩) zN _).setCell (p:=⟨w.heap.size,2,none⟩) zN _;have hR:=(((HO.out.rs.set (i:=0) (v:=.int .i64 its.length) HO.out.r2 (by omega)).set (i:=1) (v:=.slice ca PF.length cc) (HO.out.r2.set (i:=0)) (by omega)).set (i:=2) (v:=fv) ((HO.out.r2.set (i:=0)).set (i:=1)) (by omega)).base (B':=w.heap.size) (by omega);rw[<-ai.out] at hR;have Q0:=zH q0;have HB:=zH hB;have HR:=zH hR;obtain⟨fa,fc,bl,-⟩:=(zD HO.out.rs.frow).form;rw[List.length_map,<-ai.out] at bl;subst bl;clear q0 hB HO hR;go_wp2;generalize ((wr.setCell w.heap.size (.int .i64 its.length)).setCell ⟨w.heap.size,1,none⟩ (.slice ca PF.length cc)).setCell ⟨w.heap.size,2,none⟩ (.slice fa PF.length fc)=WG at *;have r0:=Q0.out.cell 0;have r1:=Q0.out.cell 1;have r2:=Q0.out.cell 2;refine bodyPost_ret (v:=.tuple #[.agg #[its.length,.slice ca PF.length cc,.slice fa PF.length fc],.nilIface]) (by simp[results,Tryz.f21,go_sem,r0,r1,r2]) rfl ?_;exact .inr ⟨by omega,_,_,rfl,HR.out,HB.out⟩
end
end Go.Proofs.YthifnefkdjkicaaGreatDoor
