import Derived.Test.YtoffdbflfikcoaaGreatDoorai
import Derived.Maps.OwnIn
import Derived.Sort.CutIn
open Go.Proofs.Tryz Go.RowKit
set_option maxHeartbeats 4000000
set_option maxRecDepth 100000
namespace Go.Proofs.YtoffdbflfikcoaaGreatDoor
section
open Go.Deep Go.Shelf Sv
def RgN(ls:List Ln)(vs:List Value)(b:Option Nat):Prop:=∀i,i<ls.length->0<(ls.getD i default).rng.length->∀g,(vs.getD i undef).ownBlock=some g->some g≠b
theorem RgN.nil(b:Option Nat):RgN [] [] b:=fun i h=>by simp at h
theorem RgN.none(ls:List Ln)(vs:List Value):RgN ls vs none:=fun _ _ _ _ _ h=>by cases h
theorem zk.lt'{w:World}{v:Value}{l:List zf}(h:zk w v l)(hl:0<l.length){g:Nat}(hg:v.ownBlock=some g):g<w.heap.size:=by
 obtain⟨g',j,e,o,_⟩:=h.cells 0 hl;rw[e] at hg;simp[Value.ownBlock] at hg;omega
theorem RgN.new{W:World}{ls:List Ln}{vs:List Value}(h:qT W ls vs){b:Nat}(hb:W.heap.size<=b):RgN ls vs (some b):=fun i hi hl g hg e=>by
 have:=(h.2 i hi).1.lt' hl hg;cases e;omega
theorem RgN.snoc{ls:List Ln}{vs:List Value}{b:Option Nat}(h:RgN ls vs b)(hv:vs.length=ls.length){x:Ln}{v:Value}(hx:0<x.rng.length->∀g,v.ownBlock=some g->some g≠b):RgN (ls++[x]) (vs++[v]) b:=by
 intro i hi
 by_cases hl:i<ls.length
 ·have e1:(ls++[x]).getD i default=ls.getD i default:=by simp[List.getD_eq_getElem?_getD,List.getElem?_append_left hl]
  have e2:(vs++[v]).getD i undef=vs.getD i undef:=by simp[List.getD_eq_getElem?_getD,List.getElem?_append_left (show i<vs.length by rw[hv];exact hl)]
  rw[e1,e2];exact h i hl
 ·obtain rfl:i=ls.length:=by simp at hi;omega
  have e1:(ls++[x]).getD ls.length default=x:=by simp[List.getD_eq_getElem?_getD]
  have e2:(vs++[v]).getD ls.length undef=v:=by simp[List.getD_eq_getElem?_getD,<-hv]
  rw[e1,e2];exact hx
theorem zk.grown{W W':World}{v:Value}{l:List zf}{row:Option Nat}(h:zk W v l)(hg:W.grownBy W' row)(hn:0<l.length->∀g,v.ownBlock=some g->some g≠row):zk W' v l :=
 ⟨h.form,fun i hi=>by
  obtain⟨g,p,e,j,c0,c1⟩:=h.cells i hi;have o:=hn (by omega) g (by rw[e];rfl);exact ⟨g,p,e,zc6 j hg.size,(Qq hg j o).trans c0,(Qq hg j o).trans c1⟩⟩
theorem qT.grown{W W':World}{ls:List Ln}{vs:List Value}{row:Option Nat}(h:qT W ls vs)(hg:W.grownBy W' row)(hn:RgN ls vs row):qT W' ls vs:=⟨h.1,fun i hi=>⟨(h.2 i hi).1.grown hg (hn i hi),(h.2 i hi).2⟩⟩
theorem zk.one'{W:World}{b:Nat}{v x:Value}{l:List zf}{i:Nat}(h:zk W v l)(hn:0<l.length->∀g,v.ownBlock=some g->some g≠some b):zk (W.setCell ⟨b,i,none⟩ x) v l :=
 ⟨h.form,fun j hj=>by
  obtain⟨g,p,e,hg,c0,c1⟩:=h.cells j hj;have o:g≠b:=fun e'=>hn (by omega) g (by rw[e];rfl) (by rw[e']);exact ⟨g,p,e,by simp [World.setCell];exact hg,(qq o).trans c0,(qq o).trans c1⟩⟩
theorem qT.set{W:World}{ls:List Ln}{vs:List Value}{b i:Nat}{x:Value}(h:qT W ls vs)(hn:RgN ls vs (some b)):qT (W.setCell ⟨b,i,none⟩ x) ls vs:=⟨h.1,fun j hj=>⟨(h.2 j hj).1.one' (hn j hj),(h.2 j hj).2⟩⟩
theorem qT.keptO{W W':World}{ls:List Ln}{vs:List Value}{row:Option Nat}(h:qT W ls vs)(hg:W.grownBy W' row)(hr:∀r,row=some r->∃o:Obj,W.heap[r]?=some o/\o.isCells=false):qT W' ls vs:=⟨h.1,fun i hi=>⟨XM (h.2 i hi).1 hg hr,(h.2 i hi).2⟩⟩
theorem zfT{W W':World}{B t k n:Nat}{v:Value}{cs:List Value}{row:Option Nat}(h:W.ownsRow B t k v n cs)(hg:W.grownBy W' row)(hr:∀r,row=some r->∃o:Obj,W.heap[r]?=some o/\o.isCells=false):W'.ownsRow B t k v n cs:=by
 obtain⟨h1,h2⟩:=h;refine⟨h1,?_⟩;rcases h2 with h2|⟨g,j,p,rfl,hB,hh,r⟩
 ·exact Or.inl h2
 ·refine Or.inr ⟨g,j,p,rfl,hB,(hg.block g (zrg.1 hh).1 (fun e=>?_)).trans hh,r⟩;obtain⟨o,ho,hc⟩:=hr g e.symm;rw[hh] at ho;cases ho;cases hc
theorem Zm{W W':World}{B t k n:Nat}{v:Value}{cs:List Value}{row:Option Nat}(h:W.ownsRow B t k v n cs)(hg:W.grownBy W' row)(hne:v.ownBlock=none\/v.ownBlock≠row):W'.ownsRow B t k v n cs:=by
 obtain⟨h1,h2⟩:=h;refine⟨h1,?_⟩;rcases h2 with h2|⟨g,j,o,rfl,hB,hh,r⟩
 ·exact Or.inl h2
 ·refine Or.inr ⟨g,j,o,rfl,hB,(hg.block g (zrg.1 hh).1 (fun e=>?_)).trans hh,r⟩;rcases hne with h|h
  ·simp[Value.ownBlock] at h
  ·exact h e
theorem ZD{W:World}{B t k n b i:Nat}{v x:Value}{cs:List Value}(h:W.ownsRow B t k v n cs)(hb:b<B):(W.setCell ⟨b,i,none⟩ x).ownsRow B t k v n cs:=by
 refine⟨h.1,?_⟩;rcases h.2 with h1|⟨g,j,o,h1,h2,h3,h4⟩
 ·exact .inl h1
 ·exact .inr ⟨g,j,o,h1,h2,(zrF _ _ _ g (by show g≠b;omega)).trans h3,h4⟩
theorem zdl(w:World)(A B C D E F G:Value)(t:TypeId):∀(j:Nat) (u:Value),[A,B,C,D,E,F,G][j]?=some u->(w.alloc (.cells #[A,B,C,D,E,F,G] t)).cell? (Addr.add w.heap.size j)=some u:=by
 intro j u h
 match j,h with
 |0,h=>simp at h;subst h;simp[Addr.add]
 |1,h=>simp at h;subst h;simp[Addr.add]
 |2,h=>simp at h;subst h;simp[Addr.add]
 |3,h=>simp at h;subst h;simp[Addr.add]
 |4,h=>simp at h;subst h;simp[Addr.add]
 |5,h=>simp at h;subst h;simp[Addr.add]
 |6,h=>simp at h;subst h;simp[Addr.add]
 |j+7,h=>simp at h
structure PS(w W:World)(lv sv:Value)(ls:List Ln)(vs:List Value)(ss:List Nat):Prop where
 r0:Blk W w.heap.size 22 #[.pointer none]
 r1:Blk W (w.heap.size+1) 31 #[.nilIface]
 r2:Blk W (w.heap.size+1+1) 98 #[lv]
 r3:Blk W (w.heap.size+1+1+1) 47 #[sv]
 lrow:W.ownsRow (w.heap.size+1+1+1+1+1) 107 7 lv ls.length (qu ls vs)
 srow:W.ownsRow (w.heap.size+1+1+1+1+1) 3 1 sv ss.length (icells (ss.map fun (k:Nat)=>(k:Int)))
 rg:qT W ls vs
 nl:RgN ls vs lv.ownBlock
 ns:RgN ls vs sv.ownBlock
 lo:∀k,k<w.heap.size+1+1+1+1+1->RgN ls vs (some k)
 B:zB w W
 sz:w.heap.size+1+1+1+1+1<=W.heap.size
theorem PS.step{w W W':World}{lv sv:Value}{ls:List Ln}{vs:List Value}{ss:List Nat}(h:PS w W lv sv ls vs ss)(hb:zB W W'):PS w W' lv sv ls vs ss :=
 ⟨h.r0.below hb h.r0.lt,h.r1.below hb h.r1.lt,h.r2.below hb h.r2.lt,h.r3.below hb h.r3.lt,zA h.lrow hb,zA h.srow hb,h.rg.below hb zN,h.nl,h.ns,h.lo,zT h.B hb,zf1 h.sz hb.size⟩
theorem PS.own{w:World}(B:Nat)(hB:w.heap.size<=B)(Φ:List Pc->List Ln->List Nat->Prop):OwnFrom B (fun (pre:List Pc) W=>∃lv sv ls vs ss,Φ pre ls ss/\PS w W lv sv ls vs ss):=by
 intro pre W W' row ⟨lv,sv,ls,vs,ss,hΦ,h⟩ hg hr;have hr':∀r,row=some r->∃o:Obj,W.heap[r]?=some o/\o.isCells=false:=fun r e=>(hr r e).2;exact⟨lv,sv,ls,vs,ss,hΦ,⟨yB h.r0 hg hr',yB h.r1 hg hr',yB h.r2 hg hr',yB h.r3 hg hr',zfT h.lrow hg hr',zfT h.srow hg hr',h.rg.keptO hg hr',h.nl,h.ns,h.lo,ownFrom_below (β:=Unit) zN hB () W W' row h.B hg hr,zf1 h.sz hg.size⟩⟩
theorem PS.appL{w W w':World}{lv lv' sv v:Value}{ls:List Ln}{vs:List Value}{ss:List Nat}{x:Ln}(h:PS w W lv sv ls vs ss)(hv:zk W v x.rng)(hrg:Rg x.rng)(hn:0<x.rng.length->∀g,v.ownBlock=some g->w.heap.size+1+1+1+1+1<=g/\some g≠lv.ownBlock/\some g≠sv.ownBlock)
  (hown:w'.ownsRow (w.heap.size+1+1+1+1+1) 107 7 lv' (ls.length+1) (qu ls vs++ZC x v)) (hg:W.grownBy w' lv.ownBlock) (hloc:lv'.ownBlock=lv.ownBlock\/lv'.ownBlock=some W.heap.size) :
  PS w (w'.setCell ⟨w.heap.size+1+1,0,none⟩ lv') lv' sv (ls++[x]) (vs++[v]) ss/\Blk w' (w.heap.size+1+1) 98 #[lv]/\Blk (w'.setCell ⟨w.heap.size+1+1,0,none⟩ lv') (w.heap.size+1+1+1) 47 #[sv]:=by
 have o:∀b,b<w.heap.size+1+1+1+1+1->some b≠lv.ownBlock:=fun b hb e=>by have:=(h.lrow.lt b e.symm).1;omega
 have q0:=h.r0.kept hg (o _ (by omega));have q1:=h.r1.kept hg (o _ (by omega));have q2:=h.r2.kept hg (o _ (by omega));have q3:=h.r3.kept hg (o _ (by omega));have hx:0<x.rng.length->∀g,v.ownBlock=some g->some g≠lv.ownBlock:=fun h1 g h2=>(hn h1 g h2).2.1;have u:qT w' (ls++[x]) (vs++[v]):=(h.rg.grown hg h.nl).snoc (hv.grown hg hx) hrg;have q:∀k,k<w.heap.size+1+1+1+1+1->RgN (ls++[x]) (vs++[v]) (some k):=fun k hk=>(h.lo k hk).snoc h.rg.1 (fun h1 g h2 e=>by have:=(hn h1 g h2).1;cases e;omega);have j:=Zm h.srow hg (ZW h.srow h.lrow (by decide));have hB:zB w w':=h.B.grown hg h.B.size (fun k hk=>by have:=(h.lrow.lt k hk).1;omega);refine⟨⟨q0.other (by omega),q1.other (by omega),q2.set (i:=0),q3.other (by omega),?_,ZD j (by omega),u.set (q _ (by omega)),?_,h.ns.snoc h.rg.1 (fun h1 g h2=>(hn h1 g h2).2.2),q,hB.setCell (p:=⟨w.heap.size+1+1,0,none⟩) (by show w.heap.size<=w.heap.size+1+1;omega) _,by simp[World.setCell];exact zf1 h.sz hg.size⟩,q2,q3.other (by omega)⟩
 ·rw[zbM _ _ _ _ h.rg.1,zf4];exact ZD hown (by omega)
 ·rcases hloc with e|e
  ·rw[e];exact h.nl.snoc h.rg.1 hx
  ·rw[e];refine(RgN.new h.rg zN).snoc h.rg.1 (fun h1 g h2 e2=>?_);have:=hv.lt' h1 h2;cases e2;omega
theorem PS.appS{w W w':World}{lv sv sv':Value}{ls:List Ln}{vs:List Value}{ss:List Nat}{k:Nat}(h:PS w W lv sv ls vs ss)
  (hown:w'.ownsRow (w.heap.size+1+1+1+1+1) 3 1 sv' (ss.length+1) (icells (ss.map fun (k:Nat)=>(k:Int))++[.int .i64 k])) (hg:W.grownBy w' sv.ownBlock) (hloc:sv'.ownBlock=sv.ownBlock\/sv'.ownBlock=some W.heap.size) :
  PS w (w'.setCell ⟨w.heap.size+1+1+1,0,none⟩ sv') lv sv' ls vs (ss++[k])/\Blk w' (w.heap.size+1+1+1) 47 #[sv]:=by
 have o:∀b,b<w.heap.size+1+1+1+1+1->some b≠sv.ownBlock:=fun b hb e=>by have:=(h.srow.lt b e.symm).1;omega
 have q0:=h.r0.kept hg (o _ (by omega));have q1:=h.r1.kept hg (o _ (by omega));have q2:=h.r2.kept hg (o _ (by omega));have q3:=h.r3.kept hg (o _ (by omega));have q:qT w' ls vs:=h.rg.grown hg h.ns;have j:=Zm h.lrow hg (ZW h.lrow h.srow (by decide));have hB:zB w w':=h.B.grown hg h.B.size (fun k hk=>by have:=(h.srow.lt k hk).1;omega);refine⟨⟨q0.other (by omega),q1.other (by omega),q2.other (by omega),q3.set (i:=0),ZD j (by omega),?_,q.set (h.lo _ (by omega)),h.nl,?_,h.lo,hB.setCell (p:=⟨w.heap.size+1+1+1,0,none⟩) (by show w.heap.size<=w.heap.size+1+1+1;omega) _,by simp[World.setCell];exact zf1 h.sz hg.size⟩,q3⟩
 ·rw[zrv,zf4];have e:icells (List.map (fun (k:Nat)=>(k:Int)) ss++List.map (fun (k:Nat)=>(k:Int)) [k])=icells (ss.map fun (k:Nat)=>(k:Int))++[.int .i64 k]:=by rw[ztf,zuI,Ze]
  rw[e];exact ZD hown (by omega)
 ·rcases hloc with e|e
  ·rw[e];exact h.ns
  ·rw[e];exact RgN.new h.rg zN
theorem zer{W:World}{B t k n:Nat}{v:Value}{cs:List Value}(h:W.ownsRow B t k v n cs):∀(j:Nat) (o:Obj),v.ownBlock=some j->W.heap[j]?=some o->o.isCells=true:=by
 intro j o hj ho;rcases h.2 with ⟨rfl,_⟩|⟨g,p,q,rfl,_,hg,_⟩
 ·simp[Value.ownBlock] at hj
 ·simp only[Value.ownBlock,zsd] at hj;subst hj;rw[hg] at ho;cases ho;rfl
theorem zdb{bt:Nat}{W W1 W':World}{B t k n:Nat}{v:Value}{cs:List Value}(hK:Kp1 bt W W1)(h:W1.ownsRow B t k v n cs)(hg:W1.grownBy W' v.ownBlock)(h1:bt<B)(h2:5<B)(h3:bt<W1.heap.size)(h4:5<W1.heap.size):Kp1 bt W W':=by
 have j:∀b,b<B->some b≠v.ownBlock:=fun b hb e=>by have:=(h.lt b e.symm).1;omega
 exact⟨(Qq hg h3 (j _ h1)).trans hK.1,(Qq hg h4 (j _ h2)).trans hK.2⟩
theorem yS.set{w:World}{b:Nat}{ls:List Ln}{vs:List Value}{its:List It}{B k i:Nat}{x:Value}(h:yS w b ls vs its B)(hk:k<B)(hn:RgN ls vs (some k)):yS (w.setCell ⟨k,i,none⟩ x) b ls vs its B:=by
 obtain⟨lv,iv,bm,h1,h2,h3,h4,h5,h6,h7,h8,h9⟩:=h;exact⟨lv,iv,bm,h1.other (by omega),h2.set hn,h3.set (fun g hg=>by have:=h8 g hg;omega),yj.set h4 (fun g hg=>by have:=h9 g hg;omega),h5.block (zrF _ _ _ _ (by show bm≠k;omega)),h6,h7,h8,h9⟩
theorem yS.putD{w:World}{b D:Nat}{ls:List Ln}{vs:List Value}{its:List It}{B:Nat}{o':Obj}(h:yS w b ls vs its B)(hK:∃o,w.heap[D]?=some o/\o.isCells=false/\∀es c,o≠.map es c):yS (w.putObj D o') b ls vs its B:=by
 obtain⟨lv,iv,bm,h1,h2,h3,h4,h5,h6,h7,h8,h9⟩:=h;obtain⟨o,ho,hc,hm⟩:=hK;have q:b≠D:=by
  rintro rfl;rw[show w.heap[b]?=_ from h1] at ho;cases ho;cases hc
 have u:bm≠D:=by
  rintro rfl;obtain⟨E,n,⟨es,j,p,_⟩,_⟩:=h5;rw[p] at ho;cases ho;exact hm _ _ rfl
 refine⟨lv,iv,bm,h1.put q,h2.keptO (grownBy_putObj' _ D o') (fun r e=>by cases e;exact⟨_,ho,hc⟩),h3.put ho hc (fun h=>?_),yj.put h4 ho hc (fun h=>?_),h5.block (World.putObj_heap_other u),h6,h7,h8,h9⟩
 ·rw[Jl _ _ h2.1] at h;omega
 ·rw[xQ] at h;omega
end
section
open Go.Deep Sv
theorem zlY(bk:Nat)(ls:List Ln)(its:List It)(w:World)(h:Zj w bk ls its)(hl:its.length<=100000) :
  zC 42 #[.pointer (some bk)] w fun e w'=>∃v',e=.returned v'/\w'.ownsRow w 125 4 v' its.length (zl its)/\zB w w':=by
 obtain⟨lv,iv,bm,h1,h2,h3,h4⟩:=h;have HI:=zH (zob its iv w h3 hl);obtain⟨va,vc,rfl,-⟩:=h3.form;have c1:_=some (Value.slice va its.length vc):=h1.cell 1;clear h1 h2 h3 h4 hl;go_enter func42,ntmps42;go_wp2_with fail;refine HI.out.mono ?_;rintro e w1 ⟨v',rfl,j,o⟩;have HR:=zH j;have p:=zH o;clear o HI j c1;go_wp2;go_ret;exact⟨v',rfl,HR.out,p.out⟩
theorem zmh(name:ByteArray):∀(l:List It) (r:Nat × Nat),yk l name=some r->r.1<r.2/\r.2<=l.length:=by
 intro l
 induction h:l.length generalizing l with
 |zero =>intro r hr;obtain rfl:l=[]:=ztv h;cases hr
 |succ n ih =>
  intro r hr;obtain⟨l',x,rfl⟩:∃l' x,l=l'++[x]:=by
   rcases List.eq_nil_or_concat l with e|⟨l',x,e⟩
   ·subst e;simp at h
   ·exact⟨l',x,by rw[e,List.concat_eq_append]⟩
  have hl':l'.length=n:=by simpa using h
  rw[zaz] at hr;split at hr
  ·cases hr;cases hf:yk l' name with
   |none=>simp[hl']
   |some r' =>have:=ih l' hl' r' hf;simp[hl'];omega
  ·have:=ih l' hl' r hr;omega
theorem za4(its:List It)(name:ByteArray):(yf its name).1<=(yf its name).2/\(yf its name).2<=its.length:=by
 unfold yf;cases h:yk its name with
 |none=>simp
 |some r=>have:=zmh name its r h;simp;omega
open Classical in
noncomputable def amP(its:List It)(name:ByteArray)(rng:List zf)(i:Nat):List Nat :=
 (List.range' (yf its name).1 (i-(yf its name).1)).filter fun i=>decide (xh rng (its.getD i default))
theorem zhe(its:List It)(name:ByteArray)(rng:List zf):amP its name rng (yf its name).1=[]:=by unfold amP;simp
theorem zoj(its:List It)(name:ByteArray)(rng:List zf):amP its name rng (yf its name).2=qo its name rng:=rfl
open Classical in
theorem zjc(its:List It)(name:ByteArray)(rng:List zf){i:Nat}(hi:(yf its name).1<=i):amP its name rng (i+1)=amP its name rng i++(if xh rng (its.getD i default) then [i] else []):=by
 unfold amP;rw[show i+1-(yf its name).1=(i-(yf its name).1)+1 by omega,List.range'_concat,zsg,Nat.one_mul,show (yf its name).1+(i-(yf its name).1)=i by omega];congr 1
 by_cases h:xh rng (its.getD i default)
 ·rw[zc3 h];simp only[zsp,zs0,zq9 h,ztL]
 ·rw[zc2 h];simp only[zsp,zs0,zf5 h,zsu,zvs]
theorem zm0(its:List It)(name:ByteArray)(rng:List zf)(i:Nat):(amP its name rng i).length<=i:=by
 unfold amP;refine zf1 (zsi _ _) ?_;rw[List.length_range'];omega
end
section
open Go.Deep Sv
theorem znz(a b:Int)(W:World):(Instr.field 187 (.agg #[a,b]) 0).run prog W=.ok (.int .i64 a) W/\(Instr.field 187 (.agg #[a,b]) 1).run prog W=.ok (.int .i64 b) W:=by
 constructor<;>kernel_rfl
theorem zci(bk:Nat)(ls:List Ln)(its:List It)(name:ByteArray)(rng:List zf)(hr:Rg rng)(v:Value)(w:World)(h:Zj w bk ls its)(hl:its.length<=100000)(hn:name.size<=100000)(hv:zk w v rng) :
  zC 47 #[.pointer (some bk),name,.agg #[v]] w fun e w'=>∃v',e=.returned v'/\w'.ownsRow w 3 1 v' (qo its name rng).length (icells ((qo its name rng).map fun (k:Nat)=>(k:Int)))/\zB w w':=by
 obtain⟨va,vc,rfl⟩:=hv.form;obtain⟨lv,iv,bm,h1,h2,h3,h4⟩:=h;obtain⟨ia,ic,rfl,-⟩:=h3.form;obtain⟨i0,az,aB,aC,aD⟩:=info_parts ZO;have a0:Hid (∀W i,zB w W->zC 91 #[.agg #[.slice va rng.length vc],.agg #[.int .i64 (its.getD i default).a,.int .i64 (its.getD i default).b,.int .i64 (its.getD i default).c]] W fun e w'=>(e=.returned true/\xh rng (its.getD i default)\/e=.returned false/\¬xh rng (its.getD i default))/\zB W w'):=fun W i hW=>(zgj rng hr va vc (its.getD i default) W (hv.below hW zN)).mono fun e w' ⟨he,hb⟩=>by
  refine⟨?_,hb⟩
  by_cases hh:xh rng (its.getD i default)
  ·exact Or.inl ⟨by rw[he];congr 2;exact @zq9 _ (Classical.propDecidable _) hh,hh⟩
  ·exact Or.inr ⟨by rw[he];congr 2;exact @zf5 _ (Classical.propDecidable _) hh,hh⟩
 have a3:zB w (w.alloc (.cells #[.slice va rng.length vc] 105)):=(zf0 _ w).alloc zN _;have kr:=Blk.new w 105 #[.slice va rng.length vc];have k1:=h1.below a3 h1.lt;have h5:=h4.below a3 zN;have o:=fun (n:Nat)=>((h5.block (w':=(w.alloc (.cells #[.slice va rng.length vc] 105)).drewN n) rfl).look hn).2;clear h5;have HI:=zH (show yc (w.alloc (.cells #[.slice va rng.length vc] 105)) (.slice ia its.length ic) its from h3.below a3 zN);have V:=zH a3;have af:=zH (zhe its name rng);have aa:=zH (zoj its name rng);have ac:Hid (∀i,(yf its name).1<=i->amP its name rng (i+1)=amP its name rng i++(@ite _ (xh rng (its.getD i default)) (Classical.propDecidable _) [i] [])):=fun i hi=>zjc its name rng hi;have ak:=zH (fun i=>zm0 its name rng i);have ag:=za4 its name;have j:(yk its name).getD (0,0)=yf its name:=rfl;simp only[j,YG] at o;obtain⟨la,lc,rfl,-⟩:∃la lc,lv=.slice la ls.length lc/\True:=by obtain⟨vs,_,h2⟩:=h2;obtain⟨x,y,e,_⟩:=h2.form;exact⟨x,y,e,trivial⟩
 clear j h1 h2 h3 h4 a3 hv hr hn;generalize amP its name rng=am at *;generalize qo its name rng=amF at *;obtain⟨lo,a8⟩:∃lo,(yf its name).1=lo:=⟨_,rfl⟩;obtain⟨hi,a7⟩:∃hi,(yf its name).2=hi:=⟨_,rfl⟩;rw[a8,a7] at ag;simp only[a8,a7] at o;rw[a8] at af ac;rw[a7] at aa;clear a8 a7;obtain⟨aq,aE⟩:=ag;go_enter func47,ntmps47;go_upto_region 4 with fail;generalize w.alloc (.cells #[.slice va rng.length vc] 105)=W0 at *;have d2:_=some (Value.map (some bm)):=k1.cell 2;have K:=o 1;rw[show W0.drewN 1=W0.drew from rfl] at K;clear o;obtain⟨au,av⟩:=znz (lo:Int) (hi:Int) W0.drew;go_big_region;clear d2 K au av;have a1:zB W0 W0.drew:=⟨rfl,rfl,rfl,zri _,fun _ _=>rfl⟩;have ah:=kr.below a1 kr.lt;have k2:=k1.below a1 k1.lt;have aj:=zH (show yc W0.drew (.slice ia its.length ic) its from HI.out.below a1 zN);have a9:Hid (zB w W0.drew):=zT V.out a1;clear a1 kr k1 HI V;generalize W0.drew=W1 at *;go_wp2_with fail;go_loopw [7,8] (fun oV iV wr=>∃(i:Nat),lo<=i/\i<=hi/\iV=.int .i64 i/\wr.ownsRow W1 3 1 oV (am i).length (icells ((am i).map fun (k:Nat)=>(k:Int)))/\zB w wr/\zB W1 wr) (fun _ iV _=>hi-(intOf iV).toNat)
 case atStart=>exact⟨lo,zri _,aq,rfl,by rw[af.out];exact zrp _ _ _ _,a9.out,zf0 _ _⟩
 case round =>
  obtain⟨i,ay,aF,rfl,j,a2,Y⟩:=hrel;obtain⟨oa,oc,rfl,-⟩:=(zx j).form
  by_cases hlt:i<hi
  ·obtain⟨g,an,e,hg,c0,c1,c2,c3⟩:=(show yc wr _ its from aj.out.below Y zN).at i (by omega);simp at e;obtain⟨rfl,rfl⟩:=e;have aw:(0:Int)<=(i:Int):=by omega
   have ax:(i:Int)<(its.length:Int):=by omega
   have ao:=ak.out i;have M:=zH (ac.out i ay);have a6:=zH (fun W hW=>a0.out W i hW);have q:=zH j;have X:=zH a2;have a5:=zH Y;have ad:=ah.below Y ah.lt;have k3:=k2.below Y k2.lt;have aA:=ad.lt;have ar:=k3.lt;generalize its.getD i default=x at *;have SC:Hid (∀W,zB wr W->W.cell? w.heap.size=some (.slice va rng.length vc)/\W.cell? ⟨bk,1,none⟩=some (.slice (some g) its.length ic)/\W.cell? ⟨g,i*4+1,none⟩=some (.int .i64 x.a)/\W.cell? ⟨g,i*4+2,none⟩=some (.int .i64 x.b)/\W.cell? ⟨g,i*4+3,none⟩=some (.int .i64 x.c)):=fun W h=>⟨(ad.below h aA).cell 0,(k3.below h ar).cell 1,(h.cell (p:=⟨g,i*4+1,none⟩) hg).trans c1,(h.cell (p:=⟨g,i*4+2,none⟩) hg).trans c2,(h.cell (p:=⟨g,i*4+3,none⟩) hg).trans c3⟩;have D0:zB wr wr.drew:=zF.drew;have E0:zB w wr.drew:=a2.drew;clear j a2 Y ad k3 c0 c1 c2 c3 a0 ac;go_upto_region 7 with fail
   by_cases hh:xh rng x
   ·have HQ:Hid (∀W,zB w W->zR 91 #[.agg #[.slice va rng.length vc],.agg #[x.a,x.b,x.c]] W (.bool true)):=fun W hW=>(a6.out W hW).mono fun e w' ⟨h,hb⟩=>⟨by rcases h with h|h;exact h.1;exact absurd hh h.2,hb⟩;have HA:Hid (am (i+1)=am i++[i]):=by show _=_;rw[M.out,zc3 hh]
    clear a6 M hh;go_region_held3 (fun W=>W.cell? w.heap.size=some (.slice va rng.length vc)/\W.cell? ⟨bk,1,none⟩=some (.slice (some g) its.length ic)/\W.cell? ⟨g,i*4+1,none⟩=some (.int .i64 x.a)/\W.cell? ⟨g,i*4+2,none⟩=some (.int .i64 x.b)/\W.cell? ⟨g,i*4+3,none⟩=some (.int .i64 x.c)) (first|exact SC.out _ D0|exact SC.out _ D1)
     (((with_reducible refine(HQ.out _ E0).mono ?_);rintro e x1 ⟨rfl,C⟩;have D1:zB wr x1:=zT D0 C;clear HQ D0 E0 C))
    have U:=zA q.out D1;have V:Hid (zB w x1):=zT X.out D1;have Z:Hid (zB W1 x1):=zT a5.out D1;have u:=zH U;have aG:=V.out.size;have aH:=Z.out.size;clear D1 U SC q X a5;go_wp2_with (at_builtin;refine wpList_append_own_at _ rfl _ _ 47 rfl W1.heap.size 3 i0 (.int .i64 0) 1 8 zrq az aB aC aD rfl (by decide) _ _ _ rfl (u.out.alloc _) x1.heap.size 1 1 [.int .i64 i] rfl rfl ?c1 ?c2 ?c3 ?c4 ?c5 ?_)
    case c1=>exact yI _ _ _
    case c2=>exact yq _
    case c3=>unfold maxLen;omega
    case c4=>omega
    case c5=>simp;omega
    intro v7 w7 R J _ a4;have ab:Hid (w7.ownsRow W1 3 1 v7 (am (i+1)).length (icells ((am (i+1)).map fun (k:Nat)=>(k:Int)))):=by
     show World.ownsRow _ _ _ _ _ _ _;rw[HA.out,zrv,ztf,zuI,Ze,zf4];exact R
    have ae:Hid (zB W1 w7):=(zL Z.out).grown J (by simp;omega) (fun k hk=>(u.out.lt k hk).1);have ai:Hid (zB w w7):=zT a9.out ae.out;clear R J a4 u V Z;go_wp2;go_roundw
    case rel=>exact⟨i+1,by omega,hlt,by go_num,ab.out,ai.out,ae.out⟩
    case measure=>simp[intOf];omega
   ·have HQ:Hid (∀W,zB w W->zR 91 #[.agg #[.slice va rng.length vc],.agg #[x.a,x.b,x.c]] W (.bool false)):=fun W hW=>(a6.out W hW).mono fun e w' ⟨h,hb⟩=>⟨by rcases h with h|h;exact absurd h.2 hh;exact h.1,hb⟩;have HA:Hid (am (i+1)=am i):=by show _=_;rw[M.out,zc2 hh,zrS]
    clear a6 M hh;go_region_held3 (fun W=>W.cell? w.heap.size=some (.slice va rng.length vc)/\W.cell? ⟨bk,1,none⟩=some (.slice (some g) its.length ic)/\W.cell? ⟨g,i*4+1,none⟩=some (.int .i64 x.a)/\W.cell? ⟨g,i*4+2,none⟩=some (.int .i64 x.b)/\W.cell? ⟨g,i*4+3,none⟩=some (.int .i64 x.c)) (first|exact SC.out _ D0|exact SC.out _ D1)
     (((with_reducible refine(HQ.out _ E0).mono ?_);rintro e x1 ⟨rfl,C⟩;have D1:zB wr x1:=zT D0 C;clear HQ D0 E0 C))
    have ab:Hid (x1.ownsRow W1 3 1 (.slice oa (am i).length oc) (am (i+1)).length (icells ((am (i+1)).map fun (k:Nat)=>(k:Int)))):=by
     show World.ownsRow _ _ _ _ _ _ _;rw[HA.out];exact zA q.out D1
    have V:Hid (zB w x1):=zT X.out D1;have Z:Hid (zB W1 x1):=zT a5.out D1;clear D1 SC q X a5;go_wp2;go_roundw
    case rel=>exact⟨i+1,by omega,hlt,by go_num,ab.out,V.out,Z.out⟩
    case measure=>simp[intOf];omega
  ·obtain rfl:i=hi:=by omega
   rw[aa.out] at j;have q:=zH j;have X:=zH a2;clear j a2 Y;go_wp2;go_ret;rw[aa.out];exact⟨_,rfl,ownsRow_base q.out a9.out.size,X.out⟩
end
section
open Go.Deep Sv
def ClN(K:List (List Int))(cs:List Value)(b:Option Nat):Prop:=∀i,i<K.length->0<(K.getD i []).length->∀g,(cs.getD i undef).ownBlock=some g->some g≠b
theorem ClN.nil(b:Option Nat):ClN [] [] b:=fun i h=>by simp at h
theorem ClN.new{W:World}{cs:List Value}{K:List (List Int)}(h:yh 0 W cs K){b:Nat}(hb:W.heap.size<=b):ClN K cs (some b):=fun i hi hl g hg e=>by
 obtain⟨a,j,h1,_,_,h4⟩:=h.2 i hi;obtain⟨ad,h5,h6,_⟩:=h4 0 hl;rw[zc0,h1,h5] at hg;simp[Value.ownBlock] at hg;cases e;omega
theorem ClN.snoc{K:List (List Int)}{cs:List Value}{b:Option Nat}(h:ClN K cs b)(hv:cs.length=K.length){c:List Int}{v:Value}(hx:0<c.length->∀g,v.ownBlock=some g->some g≠b):ClN (K++[c]) (cs++[v]) b:=by
 intro i hi
 by_cases hl:i<K.length
 ·have e1:(K++[c]).getD i []=K.getD i []:=by simp[List.getD_eq_getElem?_getD,List.getElem?_append_left hl]
  have e2:(cs++[v]).getD i undef=cs.getD i undef:=by simp[List.getD_eq_getElem?_getD,List.getElem?_append_left (show i<cs.length by rw[hv];exact hl)]
  rw[e1,e2];exact h i hl
 ·obtain rfl:i=K.length:=by simp at hi;omega
  have e1:(K++[c]).getD K.length []=c:=by simp[List.getD_eq_getElem?_getD]
  have e2:(cs++[v]).getD K.length undef=v:=by simp[List.getD_eq_getElem?_getD,<-hv]
  rw[e1,e2];exact hx
theorem q7.heapOf{W W':World}{a:Option Addr}{c:List Int}(h:q7 0 W a c)(hs:W.heap.size<=W'.heap.size)(hb:∀ad,a=some ad->ad.block<W.heap.size->W'.heap[ad.block]?=W.heap[ad.block]?):q7 0 W' a c:=fun i hi=>by
 obtain⟨ad,h1,h2,h3,h4⟩:=h i hi;have e:=hb ad h1 h2;refine⟨ad,h1,zc6 h2 hs,by rw[e];exact h3,?_⟩;rw[zuS (w:=W) (by rw[Z0];exact e)];exact h4
theorem yh.grownN{W W':World}{cs:List Value}{K:List (List Int)}{row:Option Nat}(h:yh 0 W cs K)(hg:W.grownBy W' row)(hn:ClN K cs row):yh 0 W' cs K:=⟨h.1,fun i hi=>by
 obtain⟨a,o,h1,h2,h3,h4⟩:=h.2 i hi;refine⟨a,o,h1,h2,h3,?_⟩
 by_cases hl:0<(K.getD i []).length
 ·refine h4.heapOf hg.size (fun ad e p=>hg.block _ p (hn i hi hl _ ?_));rw[zc0,h1,e];rfl
 ·exact fun j hj=>by omega⟩
def PlA(a:Option Addr):Prop:=∀ad,a=some ad->ad.spot=none
def PlC(cs:List Value):Prop:=∀u∈cs,∀a n c,u=.slice a n c->PlA a
theorem PlC.snoc{cs:List Value}(h:PlC cs){a:Option Addr}(ha:PlA a)(n c:Nat):PlC (cs++[.slice a n c]):=by
 intro u hu;rcases zro.1 hu with hu|hu
 ·exact h u hu
 ·rw[zra] at hu;subst hu;intro a' n' c' e;cases e;exact ha
structure RS(B:Nat)(W:World)(cv fv:Value)(K:List (List Int))(F:List Int):Prop where
 crow:∃cs,W.ownsRow B 117 1 cv K.length cs/\yh 0 W cs K/\ClN K cs fv.ownBlock/\PlC cs
 frow:W.ownsRow B 3 1 fv F.length (icells F)
theorem RS.nil(B:Nat)(W:World):RS B W (.slice none 0 0) (.slice none 0 0) [] []:=⟨⟨[],zrp _ _ _ _,yh.nil,ClN.nil _,fun u hu=>by cases hu⟩,zrp _ _ _ _⟩
theorem RS.new{B:Nat}{W W':World}{cv fv:Value}{K:List (List Int)}{F:List Int}(h:RS B W cv fv K F)(hb:zB W W'):RS B W' cv fv K F:=by
 obtain⟨cs,h1,h2,h3⟩:=h.crow;exact⟨⟨cs,zA h1 hb,h2.kp (Kp.new hb),h3⟩,zA h.frow hb⟩
structure Fr(b5:Nat)(cv fv:Value)(W W':World):Prop where
 size:W.heap.size<=W'.heap.size
 block:∀k,k<W.heap.size->k≠b5->some k≠cv.ownBlock->some k≠fv.ownBlock->W'.heap[k]?=W.heap[k]?
 B:Below b5 W W'
def Loc(W:World)(v v':Value):Prop:=v'.ownBlock=v.ownBlock\/∃g,v'.ownBlock=some g/\W.heap.size<=g
theorem RS.appC{b5:Nat}{n:Int}{W w7:World}{cv cv' fv:Value}{K:List (List Int)}{F:List Int}{c:List Int}{a:Option Addr}{cap:Nat}{cs:List Value}
  (h5:Blk W b5 65 #[n,cv,fv]) (hfr:W.ownsRow (b5+1) 3 1 fv F.length (icells F)) (hrow:W.ownsRow (b5+1) 117 1 cv K.length cs) (hck:yh 0 W cs K) (hcn:ClN K cs fv.ownBlock) (hpl:PlC cs) (hpa:PlA a)
  (hc1:c.length<=cap) (hc2:cap<=9223372036854775807) (hi:q7 0 W a c) (hN:0<c.length->∀g,(Value.slice a c.length cap).ownBlock=some g->some g≠fv.ownBlock)
  (hown:w7.ownsRow (b5+1) 117 1 cv' (K.length+1) (cs++[.slice a c.length cap])) (hg:(W.alloc (.cells #[.slice a c.length cap] 117)).grownBy w7 cv.ownBlock) :
  Blk w7 b5 65 #[n,cv,fv]/\Blk (w7.setCell ⟨b5,1,none⟩ cv') b5 65 #[n,cv',fv]/\RS (b5+1) (w7.setCell ⟨b5,1,none⟩ cv') cv' fv (K++[c]) F/\(∀k,k<W.heap.size->k≠b5->some k≠cv.ownBlock->(w7.setCell ⟨b5,1,none⟩ cv').heap[k]?=W.heap[k]?)/\Below b5 W (w7.setCell ⟨b5,1,none⟩ cv'):=by
 have j:=below_new W (.cells #[.slice a c.length cap] 117);have h5':=h5.below j h5.lt;have hl:=h5.lt;have y:some b5≠cv.ownBlock:=fun e=>by have:=(hrow.lt b5 e.symm).1;omega
 have q5:=h5'.kept hg y;have hk:Kp 0 (W.alloc (.cells #[.slice a c.length cap] 117)) w7:=Kp.grown (ownsRow_base (zA hrow j) (zf6 _)) hg (by decide);have u:Kp 0 w7 (w7.setCell ⟨b5,1,none⟩ cv'):=Kp.set (zf6 _) q5 (by decide);have o:=(Kp.new (B:=0) j).trans (hk.trans u);have q:=Zm (zA hfr j) hg (ZW (zA hfr j) (zA hrow j) (by decide));refine⟨q5,q5.set (i:=1),⟨⟨_,by simpa using ZD hown (zsA _),(hck.kp o).snoc hc1 hc2 (hi.kp o),hcn.snoc hck.1 hN,hpl.snoc hpa _ _⟩,ZD q (zsA _)⟩,fun k h1 h2 h3=>?_,?_⟩
 ·refine(zrF _ _ _ k (fun e=>h2 e)).trans ((hg.block k (by simp;omega) h3).trans (j.block k h1))
 ·exact((j.mono (Nat.le_of_lt hl)).grown hg (by simp;omega) (fun k hk=>by have:=(hrow.lt k hk).1;omega)).setCell (p:=⟨b5,1,none⟩) zN _
theorem RS.appF{b5:Nat}{n:Int}{W w7:World}{cv fv fv':Value}{K:List (List Int)}{F:List Int}{x:Int}
  (h5:Blk W b5 65 #[n,cv,fv]) (hr:RS (b5+1) W cv fv K F)
  (hown:w7.ownsRow (b5+1) 3 1 fv' (F.length+1) (icells F++[.int .i64 x])) (hg:(W.alloc (.cells #[x] 3)).grownBy w7 fv.ownBlock) (hloc:fv'.ownBlock=fv.ownBlock\/fv'.ownBlock=some (W.heap.size+1)) :
  Blk w7 b5 65 #[n,cv,fv]/\Blk (w7.setCell ⟨b5,2,none⟩ fv') b5 65 #[n,cv,fv']/\RS (b5+1) (w7.setCell ⟨b5,2,none⟩ fv') cv fv' K (F++[x])/\(∀k,k<W.heap.size->k≠b5->some k≠fv.ownBlock->(w7.setCell ⟨b5,2,none⟩ fv').heap[k]?=W.heap[k]?)/\Below b5 W (w7.setCell ⟨b5,2,none⟩ fv'):=by
 have j:=below_new W (.cells #[x] 3);obtain⟨cs,o,u,y,U⟩:=(hr.new j).crow;have C:=hr.frow;have q:=(hr.new j).frow;have h5':=h5.below j h5.lt;have hl:=h5.lt;have R:some b5≠fv.ownBlock:=fun e=>by have:=(C.lt b5 e.symm).1;omega
 have q5:=h5'.kept hg R;have M:Kp 0 w7 (w7.setCell ⟨b5,2,none⟩ fv'):=Kp.set (zf6 _) q5 (by decide);have J:=Zm o hg (ZW o q (by decide));refine⟨q5,q5.set (i:=2),⟨⟨cs,ZD J (zsA _),(u.grownN hg y).kp M,?_,U⟩,by rw[zf4,Ze];exact ZD hown (zsA _)⟩,fun k h1 h2 h3=>?_,?_⟩
 ·rcases hloc with e|e
  ·rw[e];exact y
  ·rw[e];exact ClN.new u (by simp)
 ·refine(zrF _ _ _ k (fun e=>h2 e)).trans ((hg.block k (by simp;omega) h3).trans (j.block k h1))
 ·exact((j.mono (Nat.le_of_lt hl)).grown hg (by simp;omega) (fun k hk=>by have:=(C.lt k hk).1;omega)).setCell (p:=⟨b5,2,none⟩) zN _
theorem XC(w:World)(u:Value)(t:TypeId):∀(j:Nat) (x:Value),[u][j]?=some x->(w.alloc (.cells #[u] t)).cell? ((w.heap.size:Addr).add j)=some x:=by
 intro j x hu;cases j with
 |zero=>simp at hu;subst hu;simp[Addr.add]
 |succ j=>simp at hu
theorem XI(k:Int)(h0:-10000<=k)(h1:k<=10000)(w:World):zC 44 #[k] w fun e w'=>e=.returned (.int .i64 (zD k))/\w'=w:=by
 have e1:IntKind.i64.wrap (k+1)=k+1:=by rw[zrl];omega
 have e2:IntKind.i64.wrap (-(k+1))=-(k+1):=by rw[zrl];omega
 go_enter func44,ntmps44;go_wp2;go_ret;exact⟨rfl,rfl⟩
theorem zoW(b5:Nat)(n:Int)(W:World)(cv fv:Value)(K:List (List Int))(F:List Int)(from_:Int)(a:Option Addr)(c:List Int)(cap:Nat)(h5:Blk W b5 65 #[n,cv,fv])(hr:RS (b5+1) W cv fv K F)
  (hc1:c.length<=cap) (hc2:cap<=9223372036854775807) (hi:q7 0 W a c) (hN:0<c.length->∀g,(Value.slice a c.length cap).ownBlock=some g->some g≠fv.ownBlock) (hpa:PlA a) (hK:K.length<=100000) (hF:F.length<=100000) :
  zC 43 #[from_,.slice a c.length cap,.pointer (some b5)] W fun e w'=>e=.returned (.tuple #[])/\∃X Y,Blk w' b5 65 #[n,X,Y]/\RS (b5+1) w' X Y (K++[c]) (F++[from_])/\Fr b5 cv fv W w'/\Loc W cv X/\Loc W fv Y:=by
 obtain⟨cs,R,ae,af,ai⟩:=hr.crow;have ar:=zH ai;have aq:=zH hpa;have a9:=hr.frow;obtain⟨ca,cc,rfl,-⟩:=(zx R).form;obtain⟨fa,fc,rfl,-⟩:=(zx a9).form;have c1:_=some (Value.slice ca K.length cc):=h5.cell 1;have aB:=h5.lt;have H5:=zH h5;have J:=zH R;have U:=zH a9;have ab:=zH ae;have ac:=zH af;have HI:=zH hi;have HN:=zH hN;obtain⟨ic,av,a6,a7,a8⟩:=info_parts znT;obtain⟨i0,aw,ay,az,aA⟩:=info_parts ZO;clear R ae af a9 h5 hi hN hr ai hpa;go_enter func43,ntmps43;go_wp2_with (at_builtin;refine wpList_append_own_at _ rfl _ _ 26 rfl (b5+1) 117 ic (.slice none 0 0) 1 24 ztG av a6 a7 a8 rfl (by decide) _ _ _ rfl (J.out.alloc _) W.heap.size 1 1 [.slice a c.length cap] rfl rfl ?c1 ?c2 ?c3 ?c4 ?c5 ?_)
 case c1=>exact XC _ _ _
 case c2=>intro u hu;rw[zra] at hu;subst hu;rfl
 case c3=>unfold maxLen;omega
 case c4=>omega
 case c5=>simp;omega
 intro v7 w7 q j _ C;obtain⟨q5,q6,aj,ag,Z⟩:=RS.appC H5.out U.out J.out ab.out ac.out ar.out aq.out hc1 hc2 HI.out HN.out q j;have an:Hid (Loc W (.slice ca K.length cc) v7):=by
  rcases C with e|e
  ·exact .inl e
  ·exact .inr ⟨_,e,by omega⟩
 have e1:_=some (Value.slice ca K.length cc):=q5.cell 1;have f1:=q5.frozen 1;have H6:=zH q6;have V:=zH aj;have ad:=zH ag;have aa:=zH Z;have ax:=Z.size;obtain⟨g7,M,rfl⟩:=ownsRow_succ q;clear q j C q5 q6 aj ag Z J U ab ac HI HN H5 c1;go_upto_region 1 with fail;generalize w7.setCell ⟨b5,1,none⟩ (.slice (some g7) (K.length+1) M)=W6 at *;clear e1 f1;have c2:_=some (Value.slice fa F.length fc):=H6.out.cell 2;have U:=zH V.out.frow;have aC:=H6.out.lt;go_wp2_with (at_builtin;refine wpList_append_own_at _ rfl _ _ 47 rfl (b5+1) 3 i0 (.int .i64 0) 1 8 zrq aw ay az aA rfl (by decide) _ _ _ rfl (U.out.alloc _) W6.heap.size 1 1 [.int .i64 from_] rfl rfl ?a1 ?a2 ?a3 ?a4 ?a5 ?_)
 case a1=>exact yI _ _ _
 case a2=>exact yq _
 case a3=>unfold maxLen;omega
 case a4=>omega
 case a5=>simp;omega
 intro v8 w8 y o _ p;obtain⟨q5,q6,ak,ah,a0⟩:=RS.appF H6.out V.out y o p;have e2:_=some (Value.slice fa F.length fc):=q5.cell 2;have f2:=q5.frozen 2;have ao:Hid (Loc W (.slice fa F.length fc) v8):=by
  rcases p with e|e
  ·exact .inl e
  ·exact .inr ⟨_,e,by omega⟩
 have am:Hid (Fr b5 (.slice ca K.length cc) (.slice fa F.length fc) W (w8.setCell ⟨b5,2,none⟩ v8)):=⟨zf1 ax a0.size,fun k h1 h2 h3 h4=>(ah k (by omega) h2 h4).trans (ad.out k h1 h2 h3),aa.out.trans a0⟩;have HX:Hid (Blk (w8.setCell ⟨b5,2,none⟩ v8) b5 65 #[n,.slice (some g7) (K.length+1) M,v8]/\RS (b5+1) (w8.setCell ⟨b5,2,none⟩ v8) (.slice (some g7) (K.length+1) M) v8 (K++[c]) (F++[from_])):=⟨q6,ak⟩;obtain⟨g8,au,rfl⟩:=ownsRow_succ y;clear y o p q5 q6 ak ah a0 V ad aa U H6 c2;go_wp2;refine zuC (v:=.tuple #[]) (by simp[results,results43,go_sem]) rfl ?_;exact⟨rfl,_,_,HX.out.1,HX.out.2,am.out,an.out,ao.out⟩
end
section
open Go.Deep Sv
def qG(l:List Nat):List Int:=l.map fun (k:Nat)=>((k:Int)+1)
theorem zjM(l:List Nat)(i:Nat)(h:i<l.length):qG (l.take (i+1))=qG (l.take i)++[((l.getD i 0:Nat):Int)+1]:=by
 unfold qG;rw[zs8,zc5 h,zrv,zc0,zc5 h];rfl
theorem zdM(l:List Nat)(v:Value)(w:World)(hl:l.length<=100000)(hb:∀x∈l,x<=100000)(hv:yj w v l.length (icells (l.map fun (k:Nat)=>(k:Int)))) :
  zC 46 #[v] w fun e w'=>∃v',e=.returned v'/\w'.ownsRow w 3 1 v' l.length (icells (qG l))/\(l=[]->v'=.slice none 0 0)/\zB w w':=by
 obtain⟨va,vc,rfl,-⟩:=hv.form;obtain⟨i0,Y,a0,a1,a2⟩:=info_parts ZO;have HV:=zH hv;have HB:=zH hb;clear hv hb;go_enter func46,ntmps46;go_wp2_with fail;go_loopw [3,8] (fun oV iV wr=>∃(i:Nat),i<=l.length/\iV=.int .i64 i/\wr.ownsRow w 3 1 oV i (icells (qG (l.take i)))/\(i=0->oV=.slice none 0 0)/\zB w wr) (fun _ iV _=>l.length-(intOf iV).toNat)
 case atStart=>exact⟨0,zf6 _,rfl,zrp _ _ _ _,fun _=>rfl,zf0 _ _⟩
 case round =>
  obtain⟨i,a4,rfl,j,h0,u⟩:=hrel;obtain⟨oa,oc,rfl,-⟩:=(zx j).form
  by_cases hlt:i<l.length
  ·have K:=HV.out.below u zN;obtain⟨g,a3,e,hg,hc⟩:=K.cells (by omega);simp at e;obtain⟨rfl,rfl⟩:=e;have hx:wr.cell? ⟨g,i,none⟩=some (.int .i64 ((l.getD i 0:Nat):Int)):=hc i _ (by rw[QQ _ _ (by simpa using hlt)];simp[List.getD_eq_getElem?_getD,hlt]);have Z:l.getD i 0<=100000:=HB.out _ (by rw[zc0,zc5 hlt];exact zr0 hlt);have J:=zH (zjM l i hlt);obtain⟨x,M⟩:∃x,l.getD i 0=x:=⟨_,rfl⟩;rw[M] at hx Z J;have V:(0:Int)<=(i:Int):=by omega
   have X:(i:Int)<(l.length:Int):=by omega
   have a6:IntKind.i64.wrap ((x:Int)+1)=(x:Int)+1:=by rw[zrl];omega
   have o:=zH j;have C:=zH u;have a5:=u.size;clear M j u hc K h0;go_wp2_with (at_builtin;refine wpList_append_own_at _ rfl _ _ 47 rfl w.heap.size 3 i0 (.int .i64 0) 1 8 zrq Y a0 a1 a2 rfl (by decide) _ _ _ rfl (o.out.alloc _) wr.heap.size 1 1 [.int .i64 ((x:Int)+1)] rfl rfl ?c1 ?c2 ?c3 ?c4 ?c5 ?_)
   case c1=>exact yI _ _ _
   case c2=>exact yq _
   case c3=>unfold maxLen;omega
   case c4=>omega
   case c5=>simp;omega
   intro v7 w7 q p _ y;have U:Hid (w7.ownsRow w 3 1 v7 (i+1) (icells (qG (l.take (i+1))))):=by
    show World.ownsRow _ _ _ _ _ _ _;rw[J.out,Ze];exact q
   have R:Hid (zB w w7):=(zL C.out).grown p (by simp;omega) (fun k hk=>(o.out.lt k hk).1);clear q p y o C J;go_wp2;go_roundw
   case rel=>exact⟨i+1,hlt,by go_num,U.out,fun e=>by omega,R.out⟩
   case measure=>simp[intOf];omega
  ·obtain rfl:i=l.length:=by omega
   rw[zrC] at j;have o:=zH j;have C:=zH u;have H0:Hid (l=[]->Value.slice oa l.length oc=.slice none 0 0):=fun e=>h0 (by rw[e];rfl);clear j u h0;go_wp2;go_ret;exact⟨_,rfl,o.out,H0.out,C.out⟩
end
