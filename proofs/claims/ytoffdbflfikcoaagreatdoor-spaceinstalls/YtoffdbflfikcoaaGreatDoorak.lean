import Derived.Test.YtoffdbflfikcoaaGreatDooraj
set_option maxHeartbeats 4000000
set_option maxRecDepth 100000
namespace Go.Proofs.YtoffdbflfikcoaaGreatDoor
section
open Go.RowKit Go.Deep Sv
theorem X6{b:Nat}{t:TypeId}:∀(vs:List Value) (o:Nat) (w:World) (cs:Array Value),Blk w b t cs->∃j,Blk (w.setCells b o vs) b t j
 |[],_,_,cs,h=>⟨cs,h⟩
 |v :: r,o,_,_,h=>X6 r (o+1) _ _ (h.set (i:=o) (v:=v))
theorem XS{B b:Nat}(hb:B<=b):∀(vs:List Value) (o:Nat) {a w:World},Below B a w->Below B a (w.setCells b o vs)
 |[],_,_,_,h=>h
 |v :: r,o,_,_,h=>XS hb r (o+1) (h.setCell (p:=⟨b,o,none⟩) hb v)
theorem zfQ(l:List Int)(j:Nat)(h:j<(icells l).length):(icells l)[j]=.int .i64 (l.getD j 0):=by
 have hl:j<l.length:=by simpa[Qm] using h
 have e:=QQ l j hl;rw[zc5 h] at e;exact zru e
theorem zdU{W:World}{g:Nat}{x:Int}{l:List Int}(hx:W.cell? g=some (.int .i64 x))(hr:∀j,j<l.length->W.cell? ⟨g,j+1,none⟩=some (.int .i64 (l.getD j 0)))(hW:∃o,Blk W g 3 o):q7 0 W (some g) (x :: l):=by
 obtain⟨o,hW⟩:=hW;intro i hi;refine⟨_,rfl,hW.lt,Or.inr ⟨_,_,hW⟩,?_⟩;cases i with
 |zero=>simpa[Addr.add] using hx
 |succ i =>have h:=hr i (by simpa using hi);simpa[Addr.add,List.getD_cons_succ] using h
theorem zkI(l:List Int)(x:Int)(v:Value)(vb B:Nat)(w:World)(hB:B<=w.heap.size)(hv:w.ownsRow B 3 1 v l.length (icells l))(h0:l=[]->v=.slice none 0 0)(hb:Blk w vb 3 #[x])(hne:v.ownBlock≠some vb)(hl:l.length<=100000) :
  zC 49 #[v,(0:Int),.slice (some vb) 1 1] w fun e w'=>∃g o,e=.returned (.slice (some ⟨g,0,none⟩) (l.length+1) o)/\l.length+1<=o/\o<=9223372036854775807/\q7 0 w' (some ⟨g,0,none⟩) (x :: l)/\B<=g/\Below B w w':=by
 have X:∀(j:Nat) (u:Value),[Value.int .i64 x][j]?=some u->w.cell? ⟨vb,0+j,none⟩=some u:=fun j u hu=>by
  cases j with
  |zero=>simp at hu;subst hu;exact hb.cell 0
  |succ j=>simp at hu
 have J:∀u∈[Value.int .i64 x],u.oneCell'=true:=yq _;have Y:∀u∈icells l,u.oneCell'=true:=fun u hu=>by obtain⟨y,_,rfl⟩:=zrA.1 hu;rfl
 by_cases hz:l=[]
 ·subst hz;obtain rfl:=h0 rfl;refine(Any2.slices_Insert_int_end_grow Tryz.insInt none 0 0 vb 0 1 1 [] [.int .i64 x] w (by omega) (by omega) (by omega) (by omega) rfl rfl (fun _=>rfl) (fun a e=>by cases e) X J).mono ?_;rintro e w' ⟨rfl,rfl⟩;have V:=grownCap_ge w 1 0 3;have q:=grownCap_le_maxLen w 1 0 3 (by unfold maxLen;omega);unfold maxLen at q;refine⟨_,_,rfl,V,q,?_,hB,((zf0 _ w).drew).alloc hB _⟩;intro i hi;have hW:=Blk.new w.drew 3 ((([]:List Value)++[Value.int .i64 x]).toArray++Builtin.zeroCells (Value.int .i64 0).cells (grownCap w (0+1) 0 3-(0+1)));refine⟨_,rfl,hW.lt,Or.inr ⟨_,_,hW⟩,?_⟩;obtain rfl:i=0:=by simpa using hi
  refine(hW.cell 0).trans ?_;rw[ztb (by simp)];rfl
 ·have hn:0<l.length:=List.length_pos_iff.2 hz;rcases hv.2 with ⟨_,e0⟩|⟨g,o,C,rfl,K,hg,R,U,a5,a1⟩
  ·omega
  ·have hG:Blk w g 3 C:=hg;have a2:vb≠g:=fun e=>hne (by rw[e];rfl);have a0:∀(j:Nat) (u:Value),(icells l)[j]?=some u->w.cell? ⟨g,0+j,none⟩=some u:=fun j u hu=>by
    rw[zrI];have hj:j<l.length:=by have:=(zrJ.1 hu).1;simpa[Qm] using this
    have:=hv.cellAt j (by omega);rw[this];exact hu
   unfold maxLen at U
   by_cases hroom:l.length+1<=o
   ·have p:∀j,j<l.length+1->(w.cell? ⟨g,0+j,none⟩).isSome=true:=fun j hj=>by
     rw[zrI,hG.cell j];simp;omega
    refine(Any2.slices_Insert_int_shift Tryz.insInt g 0 l.length o 0 vb 0 1 1 (icells l) [.int .i64 x] w hn (by omega) hroom U a2 (by simp[Qm]) rfl a0 p (fun j _=>hG.frozen _) X Y J 3 3 1 C.size (by unfold World.shape?;rw[show w.heap[vb]?=_ from hb];rfl) (by unfold World.shape?;rw[hg]) (by omega) (hb.frozen _) (hb.frozen _)).mono ?_;rintro e w' ⟨rfl,rfl⟩;have a3:=World.cell?_setCells_in g (icells l) 1 w.drew (fun j hj=>by rw[zve 1 j,<-zrI (j+1)];exact p (j+1) (by have:=Qm l;omega));obtain⟨c1,M⟩:=X6 (icells l) 1 w.drew C (show Blk w.drew g 3 C from hG);refine⟨g,o,rfl,hroom,U,?_,K,XS K _ _ (XS K _ _ (zf0 _ w).drew)⟩;refine zdU ?_ ?_ ?_
    ·have:=World.cell?_setCells_in g [Value.int .i64 x] 0 (w.drew.setCells g 1 (icells l)) (fun j hj=>by
      refine isSome_setCells g _ _ _ (fun k hk=>by rw [zve 1 k,<- zrI (k + 1)];exact p (k + 1) (by have:=Qm l;omega)) _ (by rw [zrI] at *;exact by rw [<- zrI j];exact p j (by simp at hj;omega))) 0 (by simp)
     simpa using this
    ·intro j hj;have h1:=World.cell?_setCells_out g [Value.int .i64 x] 0 (w.drew.setCells g 1 (icells l)) ⟨g,j+1,none⟩ (fun _ _=>Or.inr (by simp));have h2:=a3 j (by have:=Qm l;omega);rw[zve 1 j,zfQ] at h2;exact h1.trans h2
    ·exact X6 _ _ _ _ M
   ·refine(Any2.slices_Insert_int_grow Tryz.insInt g 0 l.length o 0 vb 0 1 1 (icells l) [.int .i64 x] w hn (by omega) R (by omega) (by omega) (by simp[Qm]) rfl a0 X Y J).mono ?_;rintro e w' ⟨rfl,rfl⟩;have V:=grownCap_ge w (l.length+1) o 3;have q:=grownCap_le_maxLen w (l.length+1) o 3 (by unfold maxLen;omega);unfold maxLen at q;obtain⟨A,hA⟩:∃A,((icells l).take 0).toArray++Builtin.zeroCells (Value.int .i64 0).cells (l.length+1-0)++Builtin.zeroCells (Value.int .i64 0).cells (grownCap w (l.length+1) o 3-(l.length+1))=A:=⟨_,rfl⟩;have a4:l.length+1<=A.size:=by rw[<-hA];simp[size_zeroCells,Value.cells]
    rw[show Tryz.insInt_ren.t 3=3 from rfl,hA];have hW:=Blk.new w 3 A;have Z:Blk (w.alloc (.cells A 3)).drew w.heap.size 3 A:=hW;obtain⟨c1,M⟩:=X6 [Value.int .i64 x] 0 _ A Z;have hc1':Blk (((w.alloc (.cells A 3)).drew.setCells w.heap.size 0 [Value.int .i64 x]).drew) w.heap.size 3 c1:=M;have p:∀j,j<l.length+1->((w.alloc (.cells A 3)).drew.cell? ⟨w.heap.size,j,none⟩).isSome=true:=fun j hj=>by
     rw[Z.cell j];simp;omega
    refine⟨w.heap.size,_,rfl,V,q,?_,hB,XS hB _ _ (XS hB _ _ (((zf0 _ w).alloc hB _).drew)).drew⟩;refine zdU ?_ ?_ (X6 _ _ _ _ hc1')
    ·have h1:=World.cell?_setCells_out w.heap.size (icells l) 1 (((w.alloc (.cells A 3)).drew.setCells w.heap.size 0 [Value.int .i64 x]).drew) w.heap.size (fun _ _=>Or.inl (by simp));have h2:=World.cell?_setCells_in w.heap.size [Value.int .i64 x] 0 (w.alloc (.cells A 3)).drew (fun j hj=>by rw[zrI];exact p j (by simp at hj;omega)) 0 (by simp);exact h1.trans (by simpa using h2)
    ·intro j hj;have h2:=World.cell?_setCells_in w.heap.size (icells l) 1 (((w.alloc (.cells A 3)).drew.setCells w.heap.size 0 [Value.int .i64 x]).drew) (fun k hk=>isSome_setCells w.heap.size [Value.int .i64 x] 0 (w.alloc (.cells A 3)).drew (fun j hj=>by rw[zrI];exact p j (by simp at hj;omega)) _ (p _ (by have:=Qm l;omega))) j (by have:=Qm l;omega);rw[zve 1 j,zfQ] at h2;exact h2
end
section
open Go.RowKit Go.Deep Sv
def pr0(its:List It)(k j:Nat):List (Int × List Int):=if (its.getD j default).name=(its.getD k default).name then [(-1,[zD (j:Int),zD (k:Int)])] else []
def prI(its:List It)(k i:Nat):List (Int × List Int):=(List.range i).flatMap (pr0 its k)
def prF(its:List It)(k:Nat):List (Int × List Int):=(List.range k).flatMap fun k=>prI its k k
theorem zaH(its:List It)(k i:Nat):prI its k (i+1)=prI its k i++pr0 its k i:=by unfold prI;rw[zta,zu6];simp
theorem zbX(its:List It)(k:Nat):prF its (k+1)=prF its k++prI its k k:=by unfold prF;rw[zta,zu6];simp
noncomputable def lnL(its:List It)(ls:List Ln)(n:Nat):List (Int × List Int):=(List.range n).flatMap fun n=>yy its n (ls.getD n default)
theorem zbf(its:List It)(ls:List Ln)(n:Nat):lnL its ls (n+1)=lnL its ls n++yy its n (ls.getD n default):=by unfold lnL;rw[zta,zu6];simp
noncomputable def ofL(its:List It)(ls:List Ln):List (Int × List Int):=prF its its.length++lnL its ls ls.length
theorem zqP(its:List It)(k j:Nat):(pr0 its k j).length<=1:=by unfold pr0;split<;>simp
theorem K8(its:List It)(k:Nat):∀i,(prI its k i).length<=i
 |0=>by simp[prI]
 |i+1=>by rw[zaH,zf4];have:=K8 its k i;have:=zqP its k i;omega
theorem JE(its:List It):∀k,k<=24->(prF its k).length<=k*24
 |0,_=>by simp[prF]
 |k+1,h=>by rw[zbX,zf4];have:=JE its k (by omega);have:=K8 its k k;omega
theorem Yw(its:List It)(name:ByteArray)(rng:List zf):(qo its name rng).length<=its.length:=by
 unfold qo;refine zf1 (zsi _ _) ?_;rw[List.length_range'];have:=za4 its name;omega
theorem Y2(its:List It)(name:ByteArray)(rng:List zf):∀x∈qo its name rng,x<its.length:=by
 intro x hx;unfold qo at hx;have h:=(zuv.1 (zr8.1 hx).1);have:=za4 its name;omega
theorem znB(its:List It)(n:Nat)(x:Ln)(h:its.length<=24):(yy its n x).length<=24:=by
 have:=Yw its x.other x.rng;unfold yy;split
 ·simp
 ·split
  ·simp
  ·split
   ·simp;omega
   ·simp
theorem zan(its:List It)(ls:List Ln)(h:its.length<=24):∀n,(lnL its ls n).length<=n*24
 |0=>by simp[lnL]
 |n+1=>by rw[zbf,zf4];have:=zan its ls h n;have:=znB its n (ls.getD n default) h;omega
structure OS(w W:World)(b5:Nat)(n:Int)(cv fv:Value)(P:List (Int × List Int))(iv:Value)(its:List It):Prop where
 r2:Blk W w.heap.size 65 #[(0:Int),.slice none 0 0,.slice none 0 0]
 r5:Blk W b5 65 #[n,cv,fv]
 rs:RS (b5+1) W cv fv (P.map Prod.snd) (P.map Prod.fst)
 B:zB w W
 lo:w.heap.size<b5
 its:W.ownsRow w 125 4 iv its.length (zl its)
section
variable {w W W':World} {b5:Nat} {n:Int} {cv fv iv:Value} {P:List (Int × List Int)} {its:List It}
theorem OS.new(h:OS w W b5 n cv fv P iv its)(hb:zB W W'):OS w W' b5 n cv fv P iv its :=
 ⟨h.r2.below hb h.r2.lt,h.r5.below hb h.r5.lt,h.rs.new hb,zT h.B hb,h.lo,zA h.its hb⟩
theorem OS.keep(h:OS w W b5 n cv fv P iv its)(hf:Fr b5 cv fv W W'){k:Nat}{cs:Array Value}{t:TypeId}(hk:Blk W k t cs)(h1:t≠65)(h2:t≠117)(h3:t≠3):Blk W' k t cs:=by
 obtain⟨j,hc,-⟩:=h.rs.crow;refine(hf.block k hk.lt (hk.ne_type h.r5 h1) (fun e=>Xx hc hk h2 e.symm) (fun e=>Xx h.rs.frow hk h3 e.symm)).trans hk
theorem OS.keepRow(h:OS w W b5 n cv fv P iv its)(hf:Fr b5 cv fv W W'){B t k m:Nat}{v:Value}{cs:List Value}(hr:W.ownsRow B t k v m cs)(h1:t≠65)(h2:t≠117)(h3:t≠3):W'.ownsRow B t k v m cs:=by
 refine⟨hr.1,?_⟩;rcases hr.2 with h'|⟨g,j,o,e,hB,hg,r⟩
 ·exact .inl h'
 ·exact .inr ⟨g,j,o,e,hB,h.keep hf hg h1 h2 h3,r⟩
theorem OS.add(h:OS w W b5 n cv fv P iv its){cv' fv':Value}{f:Int}{c:List Int}(hf:Fr b5 cv fv W W')(h5:Blk W' b5 65 #[n,cv',fv'])(hr:RS (b5+1) W' cv' fv' (P.map Prod.snd++[c]) (P.map Prod.fst++[f])):OS w W' b5 n cv' fv' (P++[(f,c)]) iv its :=
 ⟨h.r2.below hf.B (by have:=h.lo;omega),h5,by simpa using hr,h.B.trans (hf.B.mono (Nat.le_of_lt h.lo)),h.lo,h.keepRow hf h.its (by decide) (by decide) (by decide)⟩
theorem OS.keepInts(h:OS w W b5 n cv fv P iv its)(hf:Fr b5 cv fv W W'){B m:Nat}{v:Value}{cs:List Value}(hr:W.ownsRow B 3 1 v m cs)(hn:∀g,v.ownBlock=some g->some g≠fv.ownBlock):W'.ownsRow B 3 1 v m cs:=by
 obtain⟨p,hc,-⟩:=h.rs.crow;refine⟨hr.1,?_⟩;rcases hr.2 with h'|⟨g,o,j,e,hB,hg,r⟩
 ·exact .inl h'
 ·have hk:Blk W g 3 j:=hg;exact .inr ⟨g,o,j,e,hB,(hf.block g hk.lt (hk.ne_type h.r5 (by decide)) (fun e=>Xx hc hk (by decide) e.symm) (hn g (by rw[e];rfl))).trans hg,r⟩
theorem OS.fresh(h:OS w W b5 n cv fv P iv its){g:Nat}(hg:W.heap.size<=g):some g≠fv.ownBlock:=fun e=>by
 have:=(h.rs.frow.lt g e.symm).2;omega
end
theorem zbx{B:Nat}{w:World}{v:Value}{l:List Int}(h:w.ownsRow B 3 1 v l.length (icells l)):∃a j,v=.slice a l.length j/\l.length<=j/\j<=9223372036854775807/\q7 0 w a l/\PlA a:=by
 rcases h.2 with ⟨e,e0⟩|⟨g,j,p,e,hB,hg,hn,hm,q,o⟩
 ·exact⟨none,0,by rw[e,e0],by omega,by omega,fun i hi=>by omega,fun ad e=>by cases e⟩
 ·unfold maxLen at hm;refine⟨_,_,e,hn,hm,fun i hi=>⟨_,rfl,(show Blk w g 3 p from hg).lt,Or.inr ⟨_,_,hg⟩,?_⟩,fun ad e=>by cases e;rfl⟩;subst e;have:=h.cellAt i (by omega);rw[add_plain,zrI,this,QQ l i hi]
theorem zbc(its:List It)(x:It)(h:its.length<=24):-1<=qK its x/\qK its x<=24:=by
 unfold qK;split
 ·rename_i i hi;have:=(List.findIdx?_eq_some_iff_findIdx_eq.1 hi).1;omega
 ·omega
theorem zjH(bk bm:Nat)(lv iv:Value)(ls:List Ln)(vs:List Value)(w:World)(h1:Blk w bk 183 #[lv,iv,.map (some bm)])(hr:qT w ls vs)(h2:yj w lv ls.length (qu ls vs))(hl:ls.length<=100000) :
  zC 45 #[.pointer (some bk)] w fun e w'=>∃v',e=.returned v'/\w'.ownsRow w 107 7 v' ls.length (qu ls vs)/\zB w w':=by
 have HI:=zH (zgH ls vs hr.1 hr.one lv w h2 hl);obtain⟨va,vc,rfl,-⟩:=h2.form;have c0:_=some (Value.slice va ls.length vc):=h1.cell 0;clear h1 h2 hr hl;go_enter Tryz.func45,Tryz.ntmps45;go_wp2_with fail;refine HI.out.mono ?_;rintro e w1 ⟨v',rfl,j,o⟩;have HR:=zH j;have p:=zH o;clear o HI j c0;go_wp2;go_ret;exact⟨v',rfl,HR.out,p.out⟩
end
section
open Go.RowKit Go.Deep Sv
section
variable {w W:World} {b5:Nat} {n:Int} {cv fv iv:Value} {P:List (Int × List Int)} {its:List It}
def zfx(w W:World)(b5:Nat)(n:Int)(cv fv:Value)(P:List (Int × List Int))(iv:Value)(its:List It)(f:Int)(c:List Int)(e:Ending)(w':World):Prop :=
 e=.returned (.tuple #[])/\∃j o,OS w w' b5 n j o (P++[(f,c)]) iv its/\Fr b5 cv fv W w'/\Loc W cv j/\Loc W fv o
theorem zak(h:OS w W b5 n cv fv P iv its)(hP:P.length<=90000)(f:Int)(a:Option Addr)(c:List Int)(cap:Nat)(hc1:c.length<=cap)(hc2:cap<=9223372036854775807)(hi:q7 0 W a c)(hN:0<c.length->∀g,(Value.slice a c.length cap).ownBlock=some g->some g≠fv.ownBlock)(hpa:PlA a) :
  zC 43 #[f,.slice a c.length cap,.pointer (some b5)] W (zfx w W b5 n cv fv P iv its f c) :=
 (zoW b5 n W cv fv _ _ f a c cap h.r5 h.rs hc1 hc2 hi hN hpa (by simp;omega) (by simp;omega)).mono fun _ _ ⟨he,cv',fv',h1,h2,h3,h4,h5⟩=>⟨he,cv',fv',h.add h3 h1 h2,h3,h4,h5⟩
theorem ze7(h:OS w W b5 n cv fv P iv its)(hP:P.length<=90000)(f x y:Int) :
  zC 43 #[f,.slice (some W) 2 2,.pointer (some b5)] (W.alloc (.cells #[x,y] 3)) (zfx w (W.alloc (.cells #[x,y] 3)) b5 n cv fv P iv its f [x,y]):=by
 have j:=below_new W (.cells #[x,y] 3);have hB:=Blk.new W 3 #[x,y];refine zak (h.new j) hP f (some W.heap.size) [x,y] 2 zN (by omega) (fun i hi=>⟨_,rfl,hB.lt,Or.inr ⟨_,_,hB⟩,?_⟩) (fun _ g hg e=>?_) (fun ad e=>by cases e;rfl)
 ·rw[add_plain,zrI,hB.cell i]
  match i,hi with
  |0,_=>rfl
  |1,_=>rfl
 ·simp[Value.ownBlock] at hg;have:=(h.rs.frow.lt g e.symm).2;omega
end
theorem RS.set{B b i:Nat}{W:World}{cv fv v:Value}{K:List (List Int)}{F:List Int}{cs:Array Value}(h:RS B W cv fv K F)(hb:Blk W b 65 cs)(hlt:b<B):RS B (W.setCell ⟨b,i,none⟩ v) cv fv K F:=by
 obtain⟨c,h1,h2,h3⟩:=h.crow;exact⟨⟨c,ZD h1 hlt,h2.kp (Kp.set (zf6 _) hb (by decide)),h3⟩,ZD h.frow hlt⟩
theorem RS.base{B B':Nat}{W:World}{cv fv:Value}{K:List (List Int)}{F:List Int}(h:RS B W cv fv K F)(hlt:B'<=B):RS B' W cv fv K F:=by
 obtain⟨c,h1,h2,h3⟩:=h.crow;exact⟨⟨c,ownsRow_base h1 hlt,h2,h3⟩,ownsRow_base h.frow hlt⟩
def zkK(w:World)(n:Int)(P:List (Int × List Int))(e:Ending)(w':World):Prop :=
 (200<P.length/\e=.returned (.tuple #[.agg #[(0:Int),.slice none 0 0,.slice none 0 0],.iface 53 (.int .i64 4)])/\zB w w') \/
 (P.length<=200/\∃cv fv,e=.returned (.tuple #[.agg #[n,cv,fv],.nilIface])/\RS w.heap.size w' cv fv (P.map Prod.snd) (P.map Prod.fst)/\zB w w')
theorem zbm{its:List It}(hl:its.length<=24)(nm:ByteArray)(rng:List zf):(qo its nm rng).length<=24/\∀x∈qo its nm rng,x<=24 :=
 ⟨zf1 (Yw _ _ _) hl,fun x hx=>by have:=Y2 its nm rng x hx;omega⟩
theorem Xf(l:List Nat):(qG l).length=l.length:=by simp[qG]
theorem zhq(bk:Nat)(ls:List Ln)(its:List It)(w:World)(h:Zj w bk ls its)(hl:its.length<=24)(hll:ls.length<=120)(hnm:∀x∈ls,x.name.size<=100000/\x.other.size<=100000) :
  zC 19 #[.pointer (some bk)] w (zkK w (its.length:Int) (ofL its ls)):=by
 have ai:Hid (ofL its ls=prF its its.length++lnL its ls ls.length):=rfl;generalize ofL its ls=PF at *;have HC:=zH h;have aM:zB w (w.alloc (.cells #[(0:Int),.slice none 0 0,.slice none 0 0] 65)):=(zf0 _ w).alloc zN _;have k2:=Blk.new w 65 #[(0:Int),.slice none 0 0,.slice none 0 0];have bc:=zH (zlY bk ls its _ (h.below aM zN) (by omega));clear h;go_enter Tryz.func19,Tryz.ntmps19;go_upto_region 1 with fail;generalize w.alloc (.cells #[(0:Int),.slice none 0 0,.slice none 0 0] 65)=W0 at *;go_wp2_with fail;refine bc.out.mono ?_;rintro e w1 ⟨iv,rfl,aw,aK⟩;have b7:=aM.size;have bJ:=aK.size;have aF:=k2.lt;have o:OS w (w1.alloc (.cells #[its.length,.slice none 0 0,.slice none 0 0] 65)) w1.heap.size (its.length:Int) (.slice none 0 0) (.slice none 0 0) (prF its 0) iv its :=
  ⟨((k2.below aK aF).alloc _),Blk.new _ _ _,RS.nil _ _,(aM.trans (aK.mono b7)).alloc (by omega) _,by omega,ownsRow_base (zA aw (below_new _ _)) b7⟩
 have ae:=zH o;obtain⟨ia,ic,rfl,-⟩:=(zx aw).form;clear o aw aK bc aM k2 aF b7;go_upto_region 4 with fail;generalize w1.alloc (.cells #[its.length,.slice none 0 0,.slice none 0 0] 65)=W1 at *;generalize w1.heap.size=b5 at *;clear bJ;go_wp2_with fail;go_loopw [24] (fun kV wr=>∃(k:Nat) (cv fv:Value),k<=its.length/\kV=.int .i64 k/\OS w wr b5 (its.length:Int) cv fv (prF its k) (.slice ia its.length ic) its) (fun kV _=>its.length-(intOf kV).toNat)
 case atStart=>exact⟨0,_,_,zf6 _,rfl,ae.out⟩
 case round =>
  obtain⟨k,cv,fv,bF,rfl,o⟩:=hrel
  by_cases hlt:k<its.length
  ·obtain⟨g,an,e,hg,c0,c1,c2,c3⟩:=(show yc wr _ its from zx o.its).at k hlt;simp at e;obtain⟨rfl,rfl⟩:=e;obtain⟨X,aW⟩:∃X,its.getD k default=X:=⟨_,rfl⟩;rw[aW] at c0 c1 c2 c3;have bz:=zH aW;clear aW;have b1:(0:Int)<=(k:Int):=by omega
   have b2:(k:Int)<(its.length:Int):=by omega
   have a4:=below_new wr (.cells #[X.name,X.a,X.b,X.c] 125);have kx:=Blk.new wr 125 #[X.name,X.a,X.b,X.c];have aH:OS w (wr.alloc (.cells #[X.name,X.a,X.b,X.c] 125)) b5 (its.length:Int) cv fv (prF its k++prI its k 0) (.slice (some ⟨g,0,none⟩) its.length ic) its:=by
    rw[show prI its k 0=[] from rfl,zrS];exact o.new a4
   have q:=zH aH;have HX:=zH kx;clear o aH a4 kx ae;go_upto_region 7 with fail;generalize wr.alloc (.cells #[X.name,X.a,X.b,X.c] 125)=W2 at *;generalize wr.heap.size=bx at *;clear c0 c1 c2 c3 hg;go_wp2_with fail;go_loopw [30] (fun iV wr=>∃(i:Nat) (cv fv:Value),i<=k/\iV=.int .i64 i/\OS w wr b5 (its.length:Int) cv fv (prF its k++prI its k i) (.slice (some ⟨g,0,none⟩) its.length ic) its/\Blk wr bx 125 #[X.name,X.a,X.b,X.c]) (fun iV _=>k-(intOf iV).toNat)
   case atStart=>exact⟨0,_,_,zf6 _,rfl,q.out,HX.out⟩
   case round =>
    clear q HX W2;obtain⟨i,cv,fv,bN,rfl,o,hX⟩:=hrel
    by_cases hlt2:i<k
    ·obtain⟨g',an,e,hg,c0,c1,c2,c3⟩:=(show yc wr _ its from zx o.its).at i (by omega);simp at e;obtain⟨rfl,rfl⟩:=e;have b3:(0:Int)<=(i:Int):=by omega
     have b4:(i:Int)<(its.length:Int):=by omega
     have bE:(i:Int)<(k:Int):=by omega
     have x0:_=some (Value.string X.name):=hX.cell 0;have Z:=zH (zaH its k i);have aD:Hid (pr0 its k i=if (its.getD i default).name=X.name then [(-1,[zD (i:Int),zD (k:Int)])] else []):=by show _=_;unfold pr0;rw[bz.out]
     obtain⟨Y,bi⟩:∃Y,(its.getD i default).name=Y:=⟨_,rfl⟩;rw[bi] at c0 aD;have ae:=zH o;have HX:=zH hX;have a9:(prF its k++prI its k i).length<=90000:=by have:=JE its k (by omega);have:=K8 its k i;rw[zf4];omega
     clear o hX c1 c2 c3 bi hg;go_upto_region 10 with fail
     by_cases heq:Y=X.name
     ·have aJ:Hid (prF its k++prI its k (i+1)=(prF its k++prI its k i)++[(-1,[zD (i:Int),zD (k:Int)])]):=by show _=_;rw[Z.out,aD.out,zc3 heq,zrH]
      clear aD Z;go_big_region;have ao:zB wr wr.drew:=zF.drew;have ak:=zH (ae.out.new ao);have bg:=zH (HX.out.below ao HX.out.lt);clear ao ae HX x0 c0 heq;generalize wr.drew=W3 at *;go_wp2_with fail;refine(XI (i:Int) (by omega) (by omega) _).mono ?_;rintro e w' ⟨rfl,rfl⟩;go_wp2_with fail;refine(XI (k:Int) (by omega) (by omega) _).mono ?_;rintro e w' ⟨rfl,rfl⟩;go_wp2_with fail;refine(ze7 ak.out a9 (-1) (zD (i:Int)) (zD (k:Int))).mono ?_;rintro e w4 ⟨rfl,a2,a0,ho,hf,-,-⟩;have M:Hid (OS w w4 b5 (its.length:Int) a2 a0 (prF its k++prI its k (i+1)) (.slice (some ⟨g,0,none⟩) its.length ic) its):=by show OS _ _ _ _ _ _ _ _ _;rw[aJ.out];exact ho
      have aU:=zH ((ak.out.new (below_new _ _)).keep hf (bg.out.alloc _) (by decide) (by decide) (by decide));clear ho hf ak bg aJ;go_wp2;go_roundw
      case rel=>exact⟨i+1,a2,a0,by omega,by go_num,M.out,aU.out⟩
      case measure=>simp[intOf];omega
     ·have aJ:Hid (prI its k (i+1)=prI its k i):=by show _=_;rw[Z.out,aD.out,zc2 heq,zrS]
      clear aD Z;have bL:(Y.toList==X.name.toList)=false:=by rw[zf2];exact fun h=>heq (Zd h)
      go_big_region;have ao:zB wr wr.drew:=zF.drew;have M:Hid (OS w wr.drew b5 (its.length:Int) cv fv (prF its k++prI its k (i+1)) (.slice (some ⟨g,0,none⟩) its.length ic) its):=by show OS _ _ _ _ _ _ _ _ _;rw[aJ.out];exact ae.out.new ao
      have aU:=zH (HX.out.below ao HX.out.lt);clear ao ae HX x0 c0;generalize wr.drew=W3 at *;go_wp2;go_roundw
      case rel=>exact⟨i+1,cv,fv,by omega,by go_num,M.out,aU.out⟩
      case measure=>simp[intOf];omega
    ·obtain rfl:i=k:=by omega
     have M:Hid (OS w wr b5 (its.length:Int) cv fv (prF its (i+1)) (.slice (some ⟨g,0,none⟩) its.length ic) its):=by show OS _ _ _ _ _ _ _ _ _;rw[zbX];exact o
     clear o hX;go_wp2;go_roundw
     case rel=>exact⟨i+1,cv,fv,by omega,by go_num,M.out⟩
     case measure=>simp[intOf];omega
  ·obtain rfl:k=its.length:=by omega
   have aR:=zH o;obtain⟨lv,bu,bm,q1,⟨vs,q2,bv⟩,-,-⟩:=HC.out;have be:=zH (zjH bk bm lv bu ls vs wr (q1.below o.B q1.lt) (q2.below o.B zN) (bv.below o.B zN) (by omega));have bw:=zH q2;clear o ae W1 q1 q2 bv lv bu bm;go_wp2_with fail;refine be.out.mono ?_;rintro e w2 ⟨lv,rfl,V,a4⟩;have aI:=aR.out.new a4;have a7:Hid (OS w w2 b5 (its.length:Int) cv fv (prF its its.length++lnL its ls 0) (.slice ia its.length ic) its):=by show OS _ _ _ _ _ _ _ _ _;rw[show lnL its ls 0=[] from rfl,zrS];exact aI
   have a6:=zH (ownsRow_base V aR.out.B.size);obtain⟨la,lc,rfl,-⟩:=(zx V).form;clear V a4 aI be aR;go_wp2_with fail;go_loopw [53] (fun nV wr=>∃(n:Nat) (cv fv:Value),n<=ls.length/\nV=.int .i64 n/\OS w wr b5 (its.length:Int) cv fv (prF its its.length++lnL its ls n) (.slice ia its.length ic) its/\wr.ownsRow w 107 7 (.slice la ls.length lc) ls.length (qu ls vs)) (fun nV _=>ls.length-(intOf nV).toNat)
   case atStart=>exact⟨0,_,_,zf6 _,rfl,a7.out,a6.out⟩
   case round =>
    clear a7 a6 bF hlt;obtain⟨n,cv,fv,bI,rfl,o,V⟩:=hrel
    by_cases hlt:n<ls.length
    ·obtain⟨g,an,rv,e,hg,aN,b6,c0,c1,c2,c3,c4,c5,c6⟩:=Z3.at ⟨vs,bw.out.below o.B zN,zx V⟩ n hlt;simp at e;obtain⟨rfl,rfl⟩:=e;have bq:=hnm (ls.getD n default) (by rw[zc0,zc5 hlt];exact zr0 hlt);have Z:=zH (zbf its ls n);have a9:(prF its its.length++lnL its ls n).length<=80000:=by have:=JE its its.length hl;have:=zan its ls hl n;rw[zf4];omega
     obtain⟨x,bt⟩:∃x,ls.getD n default=x:=⟨_,rfl⟩;rw[bt] at aN b6 c0 c1 c2 c3 c4 c5 bq Z;obtain⟨bG,bp⟩:=bq;obtain⟨ra,rc,rfl⟩:=aN.form;have b1:(0:Int)<=(n:Int):=by omega
     have b2:(n:Int)<(ls.length:Int):=by omega
     have a4:=below_new wr (.cells #[x.kind,x.name,x.a,x.b,x.c,x.other,.slice ra x.rng.length rc] 107);have kx:=Blk.new wr 107 #[x.kind,x.name,x.a,x.b,x.c,x.other,.slice ra x.rng.length rc];have q:=zH (o.new a4);have ay:=zH (aN.below a4 zN);have U:=zH b6;have a6:=zH (zA V a4);clear bt aN b6 o V a4 bI;go_upto_region 17 with fail;generalize wr.alloc (.cells #[x.kind,x.name,x.a,x.b,x.c,x.other,.slice ra x.rng.length rc] 107)=W2 at *;generalize wr.heap.size=bx at *;clear c0 c1 c2 c3 c4 c5 c6 hg;have d0:_=some (Value.int .i64 x.kind):=kx.cell 0;have d1:_=some (Value.string x.name):=kx.cell 1;have d2:_=some (Value.int .i64 x.a):=kx.cell 2;have d3:_=some (Value.int .i64 x.b):=kx.cell 3;have d4:_=some (Value.int .i64 x.c):=kx.cell 4;have d5:_=some (Value.string x.other):=kx.cell 5;have d6:_=some (Value.slice ra x.rng.length rc):=kx.cell 6;have HX:=zH kx;have y:=zH (HC.out.below q.out.B zN);have bh:=q.out.B.size;clear kx
     by_cases hk4:x.kind=4
     ·have a5:Hid (yy its n x=[((n:Int),qG (qo its x.name x.rng))]):=by show _=_;unfold yy qG;rw[zc3 hk4]
      have az:=zbm hl x.name x.rng;have ab:=zH (zci bk ls its x.name x.rng U.out _ W2 y.out (by omega) bG ay.out);generalize qo its x.name x.rng=am at *;go_wp2_with fail;refine ab.out.mono ?_;rintro e w3 ⟨av,rfl,J,u⟩;have aE:=zH (zdM am av w3 (by omega) (fun x hx=>by have:=az.2 x hx;omega) (zx J));obtain⟨aa,ac,rfl,-⟩:=(zx J).form;clear ab d0 d1 d2 d3 d4 d5 d6 J;go_wp2_with fail;refine aE.out.mono ?_;rintro e w4 ⟨tv,rfl,ag,-,a3⟩;have aq:=q.out.new u;have ar:=aq.new a3;obtain⟨ta,tc,rfl,t1,t2,t3,t5⟩:=zbx (l:=qG am) (by rw[Xf];exact ag);have R:=zH (zak ar (zf1 a9 (by omega)) (n:Int) ta (qG am) tc t1 t2 t3 (fun _ g hg=>aq.fresh ((ag.lt g hg).1)) t5);have M:=zH ar;have C:=zH (zA (zA a6.out u) a3);clear aE aq ar ag u a3 t1 t2 t3;go_wp2_with fail;refine R.out.mono ?_;rintro e w5 ⟨rfl,a2,a0,ho,hf,-,-⟩;have a8:Hid (OS w w5 b5 (its.length:Int) a2 a0 (prF its its.length++lnL its ls (n+1)) (.slice ia its.length ic) its):=by show OS _ _ _ _ _ _ _ _ _;rw[Z.out,a5.out,<-zrH];exact ho
      have K:=zH (M.out.keepRow hf C.out (by decide) (by decide) (by decide));clear R ho hf M C;go_wp2;go_roundw
      case rel=>exact⟨n+1,a2,a0,hlt,by go_num,a8.out,K.out⟩
      case measure=>simp[intOf];omega
     ·by_cases hk2:x.kind=2
      ·have a5:Hid (yy its n x=[((n:Int),zD (qK its ⟨x.name,x.a,x.b,x.c⟩) :: qG (qo its x.other x.rng))]):=by show _=_;unfold yy qG;rw[zc2 hk4,zc3 hk2];rfl
       have az:=zbm hl x.other x.rng;have bH:=zbc its ⟨x.name,x.a,x.b,x.c⟩ hl;have aC:=zH (zbU bk ls its x.name x.a x.b x.c W2 y.out (by omega));have ab:=zH (fun w3 u=>zci bk ls its x.other x.rng U.out (.slice ra x.rng.length rc) w3 (y.out.below (B:=W2.heap.size) u zN) (by omega) bp (ay.out.below u zN));generalize qo its x.other x.rng=am at *;generalize qK its ⟨x.name,x.a,x.b,x.c⟩=nu at *;go_wp2_with fail;refine aC.out.mono ?_;rintro e w3 ⟨rfl,u⟩;clear aC d0 d1 d2 d3 d4 d5 d6;go_wp2_with fail;refine(XI nu (by omega) (by omega) _).mono ?_;rintro e w' ⟨rfl,ah⟩;rw[ah];clear ah;clear w';have ax:=HX.out.below u HX.out.lt;have d5:_=some (Value.string x.other):=ax.cell 5;have d6:_=some (Value.slice ra x.rng.length rc):=ax.cell 6;have aA:=zH (ab.out w3 u);have a7:=zH (q.out.new u);have a1:=zH (zA a6.out u);generalize zD nu=own at *;clear ax ab u q a6 HX y ay U bh;go_wp2_with fail;refine aA.out.mono ?_;rintro e w4 ⟨av,rfl,J,a3⟩;have aE:=zH (zdM am av w4 (by omega) (fun x hx=>by have:=az.2 x hx;omega) (zx J));obtain⟨aa,ac,rfl,-⟩:=(zx J).form;have M:=zH (a7.out.new a3);have C:=zH (zA a1.out a3);clear d5 d6 J aA a7 a1 a3;go_wp2_with fail;refine aE.out.mono ?_;rintro e w5 ⟨tv,rfl,ag,br,aX⟩;have bs:=Blk.new w5 3 #[own];have aL:=below_new w5 (.cells #[own] 3);have aj:=zH (zkI (qG am) own tv w5.heap.size w4.heap.size (w5.alloc (.cells #[own] 3)) (zf1 aX.size aL.size) (by rw[Xf];exact zA ag aL) (fun e=>br (by cases am with|nil=>rfl|cons _ _=>cases e)) bs (fun e=>by have:=(ag.lt _ e).2;omega) (by rw[Xf];omega));have ba:=zH (zT aX aL);obtain⟨ta,tc,rfl,-⟩:=(zx ag).form;rw[Xf] at aj;clear aE ag br aX bs aL;go_wp2_with fail;refine aj.out.mono ?_;rintro e w6 ⟨g6,aV,rfl,t1,t2,t3,t4,bj⟩;have aY:=ba.out.trans bj;have aS:=zH (M.out.new aY);have aB:=zH (zA C.out aY);have R:=zH (zak aS.out (zf1 a9 (by omega)) (n:Int) (some g6) (own :: qG am) aV (by simp[Xf];exact t1) t2 t3 (fun _ g hg=>by simp[Value.ownBlock] at hg;subst hg;exact M.out.fresh t4) (fun ad e=>by cases e;rfl));rw[zrb,Xf] at R;clear aj bj aY ba M C t1 t2 t3 t4;go_wp2_with fail;refine R.out.mono ?_;rintro e w7 ⟨rfl,a2,a0,ho,hf,-,-⟩;have a8:Hid (OS w w7 b5 (its.length:Int) a2 a0 (prF its its.length++lnL its ls (n+1)) (.slice ia its.length ic) its):=by show OS _ _ _ _ _ _ _ _ _;rw[Z.out,a5.out,<-zrH];exact ho
       have K:=zH (aS.out.keepRow hf aB.out (by decide) (by decide) (by decide));clear R ho hf aS aB;go_wp2;go_roundw
       case rel=>exact⟨n+1,a2,a0,hlt,by go_num,a8.out,K.out⟩
       case measure=>simp[intOf];omega
      ·by_cases hk3:x.kind=3
       ·have a5:Hid (yy its n x=(qo its x.other x.rng).map fun (k:Nat)=>((n:Int),[zD (qK its ⟨x.name,x.a,x.b,x.c⟩),zD (k:Int)])):=by show _=_;unfold yy;rw[zc2 hk4,zc2 hk2,zc3 hk3];rfl
        have az:=zbm hl x.other x.rng;have bH:=zbc its ⟨x.name,x.a,x.b,x.c⟩ hl;have aC:=zH (zbU bk ls its x.name x.a x.b x.c W2 y.out (by omega));have ab:=zH (fun w3 u=>zci bk ls its x.other x.rng U.out (.slice ra x.rng.length rc) w3 (y.out.below (B:=W2.heap.size) u zN) (by omega) bp (ay.out.below u zN));generalize qo its x.other x.rng=am at *;generalize qK its ⟨x.name,x.a,x.b,x.c⟩=nu at *;go_wp2_with fail;refine aC.out.mono ?_;rintro e w3 ⟨rfl,u⟩;clear aC d0 d1 d2 d3 d4 d5 d6;go_wp2_with fail;refine(XI nu (by omega) (by omega) _).mono ?_;rintro e w' ⟨rfl,ah⟩;rw[ah];clear ah;clear w';have ax:=HX.out.below u HX.out.lt;have d5:_=some (Value.string x.other):=ax.cell 5;have d6:_=some (Value.slice ra x.rng.length rc):=ax.cell 6;have aA:=zH (ab.out w3 u);have a7:=zH (q.out.new u);have a1:=zH (zA a6.out u);generalize zD nu=own at *;clear ax ab u q a6 HX y ay U bh;go_wp2_with fail;refine aA.out.mono ?_;rintro e w4 ⟨av,rfl,J,a3⟩;have bb:Hid (∀g,av.ownBlock=some g->some g≠fv.ownBlock):=fun g hg=>a7.out.fresh (J.lt g hg).1;have b9:=zH J;have M:Hid (OS w w4 b5 (its.length:Int) cv fv ((prF its its.length++lnL its ls n)++((am.take 0).map fun (k:Nat)=>((n:Int),[own,zD (k:Int)]))) (.slice ia its.length ic) its):=by show OS _ _ _ _ _ _ _ _ _;rw[zvq,zuI,zrS];exact a7.out.new a3
        have C:=zH (zA a1.out a3);obtain⟨aa,ac,rfl,-⟩:=(zx J).form;clear d5 d6 J aA a7 a1 a3;go_wp2_with fail;go_loopw [110] (fun jV wr=>∃(j:Nat) (cv fv:Value),j<=am.length/\jV=.int .i64 j/\OS w wr b5 (its.length:Int) cv fv ((prF its its.length++lnL its ls n)++((am.take j).map fun (k:Nat)=>((n:Int),[own,zD (k:Int)]))) (.slice ia its.length ic) its/\wr.ownsRow w 107 7 (.slice (some ⟨g,0,none⟩) ls.length lc) ls.length (qu ls vs)/\wr.ownsRow w3 3 1 (.slice aa am.length ac) am.length (icells (am.map fun (k:Nat)=>(k:Int)))/\(∀g,(Value.slice aa am.length ac).ownBlock=some g->some g≠fv.ownBlock)) (fun jV _=>am.length-(intOf jV).toNat)
        case atStart=>exact⟨0,_,_,zf6 _,rfl,M.out,C.out,b9.out,bb.out⟩
        case round =>
         clear bb b9 M C;obtain⟨j,cv,fv,bO,rfl,o,V,J,b0⟩:=hrel
         by_cases hjt:j<am.length
         ·obtain⟨ga,an,e,bD,bl⟩:=(zx J).cells (by omega);simp at e;obtain⟨rfl,rfl⟩:=e;have bB:wr.cell? ⟨ga,j,none⟩=some (.int .i64 ((am.getD j 0:Nat):Int)):=bl j _ (by rw[QQ _ _ (by simpa using hjt)];simp[List.getD_eq_getElem?_getD,hjt]);have bQ:am.getD j 0<=24:=az.2 _ (by rw[zc0,zc5 hjt];exact zr0 hjt);have aG:((prF its its.length++lnL its ls n)++((am.take j).map fun (k:Nat)=>((n:Int),[own,zD (k:Int)]))).length<=90000:=by have h1:=List.length_take_le j am;have h2:=az.1;rw[zf4,zrs];omega
          have bf:Hid ((am.take (j+1)).map (fun (k:Nat)=>((n:Int),[own,zD (k:Int)]))=(am.take j).map (fun (k:Nat)=>((n:Int),[own,zD (k:Int)]))++[((n:Int),[own,zD ((am.getD j 0:Nat):Int)])]):=by
           show _=_;rw[zs8,zc5 hjt,zrv,zc0,zc5 hjt];rfl
          generalize am.getD j 0=kk at *;have b3:(0:Int)<=(j:Int):=by omega
          have b4:(j:Int)<(am.length:Int):=by omega
          have aT:=zH o;have bd:=zH V;have b8:=zH J;have aP:=zH b0;have bM:=bD;clear o V J b0 bl;go_wp2_with fail;refine(XI (kk:Int) (by omega) (by omega) _).mono ?_;rintro e w' ⟨rfl,ah⟩;rw[ah];clear ah;clear w';clear bB;generalize zD (kk:Int)=nk at *;go_wp2_with fail;refine(ze7 aT.out aG (n:Int) own nk).mono ?_;rintro e w5 ⟨rfl,a2,a0,ho,hf,-,bo⟩;have a8:Hid (OS w w5 b5 (its.length:Int) a2 a0 ((prF its its.length++lnL its ls n)++((am.take (j+1)).map fun (k:Nat)=>((n:Int),[own,zD (k:Int)]))) (.slice ia its.length ic) its):=by show OS _ _ _ _ _ _ _ _ _;rw[bf.out,<-zrH];exact ho
          have au:=aT.out.new (below_new wr (.cells #[own,nk] 3));have K:=zH (au.keepRow hf (zA bd.out (below_new _ _)) (by decide) (by decide) (by decide));have aO:=zH (au.keepInts hf (zA b8.out (below_new _ _)) aP.out);have aQ:Hid (∀g,(Value.slice (some ga) am.length ac).ownBlock=some g->some g≠a0.ownBlock):=fun g hg=>by
           rcases bo with e|⟨g',e,bC⟩
           ·rw[e];exact aP.out g hg
           ·rw[e];simp[Value.ownBlock] at hg;simp at bC ⊢;omega
          clear ho hf bo au aT bd b8 aP bf;go_wp2;go_roundw
          case rel=>exact⟨j+1,a2,a0,hjt,by go_num,a8.out,K.out,aO.out,aQ.out⟩
          case measure=>simp[intOf];omega
         ·obtain rfl:j=am.length:=by omega
          have a8:Hid (OS w wr b5 (its.length:Int) cv fv (prF its its.length++lnL its ls (n+1)) (.slice ia its.length ic) its):=by
           show OS _ _ _ _ _ _ _ _ _;rw[Z.out,a5.out,<-zrH];rw[zrC] at o;exact o
          have K:=zH V;clear o V J b0 Z a5;go_wp2;go_roundw
          case rel=>exact⟨n+1,cv,fv,hlt,by go_num,a8.out,K.out⟩
          case measure=>simp[intOf];omega
       ·have a5:Hid (yy its n x=[]):=by show _=_;unfold yy;rw[zc2 hk4,zc2 hk2,zc2 hk3]
        have a8:Hid (OS w W2 b5 (its.length:Int) cv fv (prF its its.length++lnL its ls (n+1)) (.slice ia its.length ic) its):=by show OS _ _ _ _ _ _ _ _ _;rw[Z.out,a5.out,zrS];exact q.out
        clear Z a5 HX y ay U q;go_wp2;go_roundw
        case rel=>exact⟨n+1,cv,fv,hlt,by go_num,a8.out,a6.out⟩
        case measure=>simp[intOf];omega
    ·obtain rfl:n=ls.length:=by omega
     have af:(prF its its.length++lnL its ls ls.length).length=PF.length:=by rw[ai.out]
     obtain⟨bK,aZ,-⟩:=o.rs.crow;rw[zrs,af] at aZ;obtain⟨ca,cc,rfl,-⟩:=(zx aZ).form;have c0:_=some (Value.int .i64 its.length):=o.r5.cell 0;have c1:_=some (Value.slice ca PF.length cc):=o.r5.cell 1;have c2:_=some fv:=o.r5.cell 2;have d0:_=some (Value.int .i64 0):=o.r2.cell 0;have d1:_=some (Value.slice none 0 0):=o.r2.cell 1;have d2:_=some (Value.slice none 0 0):=o.r2.cell 2;have f0:=o.r2.frozen 0;have f1:=o.r2.frozen 1;have f2:=o.r2.frozen 2;have HO:=zH o;have bP:=o.lo;clear aZ o V af
     by_cases hbig:200<PF.length
     ·have bA:(200:Int)<(PF.length:Int):=by omega
      have q0:Blk (((wr.setCell w (.int .i64 0)).setCell ⟨w.heap.size,1,none⟩ (.slice none 0 0)).setCell ⟨w.heap.size,2,none⟩ (.slice none 0 0)) w.heap.size 65 #[(0:Int),.slice none 0 0,.slice none 0 0]:=((HO.out.r2.set (i:=0)).set (i:=1)).set (i:=2);have hB:zB w (((wr.setCell w (.int .i64 0)).setCell ⟨w.heap.size,1,none⟩ (.slice none 0 0)).setCell ⟨w.heap.size,2,none⟩ (.slice none 0 0)):=((HO.out.B.setCell (p:=w) zN _).setCell (p:=⟨w.heap.size,1,none⟩) zN _).setCell (p:=⟨w.heap.size,2,none⟩) zN _;have Q0:=zH q0;have HB:=zH hB;clear q0 hB HO;go_wp2;generalize ((wr.setCell w (.int .i64 0)).setCell ⟨w.heap.size,1,none⟩ (.slice none 0 0)).setCell ⟨w.heap.size,2,none⟩ (.slice none 0 0)=WG at *;have r0:=Q0.out.cell 0;have r1:=Q0.out.cell 1;have r2:=Q0.out.cell 2;refine zc4 (v:=.tuple #[.agg #[(0:Int),.slice none 0 0,.slice none 0 0],.iface 53 (.int .i64 4)]) (by simp[results,Tryz.f19,go_sem,r0,r1,r2]) rfl ?_;exact .inl ⟨hbig,rfl,HB.out⟩
     ·have bA:¬(200:Int)<(PF.length:Int):=by omega
      have q0:Blk (((wr.setCell w (.int .i64 its.length)).setCell ⟨w.heap.size,1,none⟩ (.slice ca PF.length cc)).setCell ⟨w.heap.size,2,none⟩ fv) w.heap.size 65 #[its.length,.slice ca PF.length cc,fv]:=((HO.out.r2.set (i:=0)).set (i:=1)).set (i:=2);have hB:zB w (((wr.setCell w (.int .i64 its.length)).setCell ⟨w.heap.size,1,none⟩ (.slice ca PF.length cc)).setCell ⟨w.heap.size,2,none⟩ fv):=((HO.out.B.setCell (p:=w) zN _).setCell (p:=⟨w.heap.size,1,none⟩) zN _).setCell (p:=⟨w.heap.size,2,none⟩) zN _;have hR:=(((HO.out.rs.set (i:=0) (v:=.int .i64 its.length) HO.out.r2 (by omega)).set (i:=1) (v:=.slice ca PF.length cc) (HO.out.r2.set (i:=0)) (by omega)).set (i:=2) (v:=fv) ((HO.out.r2.set (i:=0)).set (i:=1)) (by omega)).base (B':=w.heap.size) (by omega);rw[<-ai.out] at hR;have Q0:=zH q0;have HB:=zH hB;have HR:=zH hR;obtain⟨fa,fc,bn,-⟩:=(zx HO.out.rs.frow).form;rw[zrs,<-ai.out] at bn;subst bn;clear q0 hB HO hR;go_wp2;generalize ((wr.setCell w (.int .i64 its.length)).setCell ⟨w.heap.size,1,none⟩ (.slice ca PF.length cc)).setCell ⟨w.heap.size,2,none⟩ (.slice fa PF.length fc)=WG at *;have r0:=Q0.out.cell 0;have r1:=Q0.out.cell 1;have r2:=Q0.out.cell 2;refine zc4 (v:=.tuple #[.agg #[its.length,.slice ca PF.length cc,.slice fa PF.length fc],.nilIface]) (by simp[results,Tryz.f19,go_sem,r0,r1,r2]) rfl ?_;exact .inr ⟨by omega,_,_,rfl,HR.out,HB.out⟩
end
