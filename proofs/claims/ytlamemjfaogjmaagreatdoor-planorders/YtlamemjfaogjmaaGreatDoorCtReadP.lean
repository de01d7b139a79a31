/- What read tells, plain. -/
import Derived.Test.YtlamemjfaogjmaaGreatDoorCtNew
import Derived.Maps.OwnIn
import Derived.Sort.CutIn
set_option maxHeartbeats 4000000
set_option maxRecDepth 100000
namespace Go.Proofs.YtlamemjfaogjmaaGreatDoor
section
open Go.RowKit Go.Deep Go.Shelf Sv
def RgN(ls:List Ln)(vs:List Value)(b:Option Nat):Prop:=∀i,i<ls.length->0<(ls.getD i default).rng.length->∀g,(vs.getD i undef).ownBlock=some g->some g≠b
theorem RgN.nil(b:Option Nat):RgN [] [] b:=fun i h=>by simp at h
theorem RgN.none(ls:List Ln)(vs:List Value):RgN ls vs none:=fun _ _ _ _ _ h=>by cases h
theorem zb.lt'{w:World}{v:Value}{l:List Span}(h:zb w v l)(hl:0<l.length){g:Nat}(hg:v.ownBlock=some g):g<w.heap.size:=by
 obtain⟨g',cap,e,hlt,_⟩:=h.cells 0 hl;rw[e] at hg;simp[Value.ownBlock] at hg;omega
theorem RgN.new{W:World}{ls:List Ln}{vs:List Value}(h:zY W ls vs){b:Nat}(hb:W.heap.size<=b):RgN ls vs (some b):=fun i hi hl g hg e=>by
 have:=(h.2 i hi).1.lt' hl hg;cases e;omega
theorem RgN.snoc{ls:List Ln}{vs:List Value}{b:Option Nat}(h:RgN ls vs b)(hv:vs.length=ls.length){x:Ln}{v:Value}(hx:0<x.rng.length->∀g,v.ownBlock=some g->some g≠b):RgN (ls++[x]) (vs++[v]) b:=by
 intro i hi
 by_cases hl:i<ls.length
 ·have e1:(ls++[x]).getD i default=ls.getD i default:=by simp[List.getD_eq_getElem?_getD,List.getElem?_append_left hl]
  have e2:(vs++[v]).getD i undef=vs.getD i undef:=by simp[List.getD_eq_getElem?_getD,List.getElem?_append_left (show i<vs.length by rw[hv];exact hl)]
  rw[e1,e2];exact h i hl
 ·obtain rfl:i=ls.length:=by simp at hi;omega
  have e1:(ls++[x]).getD ls.length default=x:=by simp[List.getD_eq_getElem?_getD]
  have e2:(vs++[v]).getD ls.length undef=v:=by simp[List.getD_eq_getElem?_getD,<-hv]
  rw[e1,e2];exact hx
theorem zb.grown{W W':World}{v:Value}{l:List Span}{row:Option Nat}(h:zb W v l)(hg:W.grownBy W' row)(hn:0<l.length->∀g,v.ownBlock=some g->some g≠row):zb W' v l :=
 ⟨h.form,fun i hi=>by
  obtain⟨g,cap,e,hlt,c0,c1⟩:=h.cells i hi;have hne:=hn (by omega) g (by rw[e];rfl);exact ⟨g,cap,e,Nat.lt_of_lt_of_le hlt hg.size,(y9 hg hlt hne).trans c0,(y9 hg hlt hne).trans c1⟩⟩
theorem zY.grown{W W':World}{ls:List Ln}{vs:List Value}{row:Option Nat}(h:zY W ls vs)(hg:W.grownBy W' row)(hn:RgN ls vs row):zY W' ls vs:=⟨h.1,fun i hi=>⟨(h.2 i hi).1.grown hg (hn i hi),(h.2 i hi).2⟩⟩
theorem zb.one'{W:World}{b:Nat}{v x:Value}{l:List Span}{i:Nat}(h:zb W v l)(hn:0<l.length->∀g,v.ownBlock=some g->some g≠some b):zb (W.setCell ⟨b,i,none⟩ x) v l :=
 ⟨h.form,fun j hj=>by
  obtain⟨g,cap,e,hg,c0,c1⟩:=h.cells j hj;have hne:g≠b:=fun e'=>hn (by omega) g (by rw[e];rfl) (by rw[e']);exact ⟨g,cap,e,by simp [World.setCell];exact hg,(cell_set_other hne).trans c0,(cell_set_other hne).trans c1⟩⟩
theorem zY.set{W:World}{ls:List Ln}{vs:List Value}{b i:Nat}{x:Value}(h:zY W ls vs)(hn:RgN ls vs (some b)):zY (W.setCell ⟨b,i,none⟩ x) ls vs:=⟨h.1,fun j hj=>⟨(h.2 j hj).1.one' (hn j hj),(h.2 j hj).2⟩⟩
theorem zY.keptO{W W':World}{ls:List Ln}{vs:List Value}{row:Option Nat}(h:zY W ls vs)(hg:W.grownBy W' row)(hr:∀r,row=some r->∃o:Obj,W.heap[r]?=some o/\o.isCells=false):zY W' ls vs:=⟨h.1,fun i hi=>⟨ZR (h.2 i hi).1 hg hr,(h.2 i hi).2⟩⟩
theorem Q5{W W':World}{B t k n:Nat}{v:Value}{cs:List Value}{row:Option Nat}(h:W.ownsRow B t k v n cs)(hg:W.grownBy W' row)(hr:∀r,row=some r->∃o:Obj,W.heap[r]?=some o/\o.isCells=false):W'.ownsRow B t k v n cs:=by
 obtain⟨h1,h2⟩:=h;refine⟨h1,?_⟩;rcases h2 with h2|⟨g,cap,cur,rfl,hB,hh,r⟩
 ·exact Or.inl h2
 ·refine Or.inr ⟨g,cap,cur,rfl,hB,(hg.block g (Array.getElem?_eq_some_iff.1 hh).1 (fun e=>?_)).trans hh,r⟩;obtain⟨o,ho,hc⟩:=hr g e.symm;rw[hh] at ho;cases ho;cases hc
theorem QC{W W':World}{B t k n:Nat}{v:Value}{cs:List Value}{row:Option Nat}(h:W.ownsRow B t k v n cs)(hg:W.grownBy W' row)(hne:v.ownBlock=none\/v.ownBlock≠row):W'.ownsRow B t k v n cs:=by
 obtain⟨h1,h2⟩:=h;refine⟨h1,?_⟩;rcases h2 with h2|⟨g,cap,cur,rfl,hB,hh,r⟩
 ·exact Or.inl h2
 ·refine Or.inr ⟨g,cap,cur,rfl,hB,(hg.block g (Array.getElem?_eq_some_iff.1 hh).1 (fun e=>?_)).trans hh,r⟩;rcases hne with h|h
  ·simp[Value.ownBlock] at h
  ·exact h e
theorem xj{W:World}{B t k n b i:Nat}{v x:Value}{cs:List Value}(h:W.ownsRow B t k v n cs)(hb:b<B):(W.setCell ⟨b,i,none⟩ x).ownsRow B t k v n cs:=by
 refine⟨h.1,?_⟩;rcases h.2 with h1|⟨g,cap,cur,h1,h2,h3,h4⟩
 ·exact .inl h1
 ·exact .inr ⟨g,cap,cur,h1,h2,(Below.heap_setCell _ _ _ g (by show g≠b;omega)).trans h3,h4⟩
theorem Jr(w:World)(A B C D E F G:Value)(t:TypeId):∀(j:Nat) (u:Value),[A,B,C,D,E,F,G][j]?=some u->(w.alloc (.cells #[A,B,C,D,E,F,G] t)).cell? (Addr.add ⟨w.heap.size,0,none⟩ j)=some u:=by
 intro j u h
 match j,h with
 |0,h=>simp at h;subst h;simp[Addr.add]
 |1,h=>simp at h;subst h;simp[Addr.add]
 |2,h=>simp at h;subst h;simp[Addr.add]
 |3,h=>simp at h;subst h;simp[Addr.add]
 |4,h=>simp at h;subst h;simp[Addr.add]
 |5,h=>simp at h;subst h;simp[Addr.add]
 |6,h=>simp at h;subst h;simp[Addr.add]
 |j+7,h=>simp at h
structure PS(w W:World)(lv sv:Value)(ls:List Ln)(vs:List Value)(ss:List Nat):Prop where
 r0:Blk W w.heap.size 23 #[.pointer none]
 r1:Blk W (w.heap.size+1) 32 #[.nilIface]
 r2:Blk W (w.heap.size+1+1) 83 #[lv]
 r3:Blk W (w.heap.size+1+1+1) 27 #[sv]
 lrow:W.ownsRow (w.heap.size+1+1+1+1+1) 92 7 lv ls.length (zG ls vs)
 srow:W.ownsRow (w.heap.size+1+1+1+1+1) 3 1 sv ss.length (zn (ss.map fun (k:Nat)=>(k:Int)))
 rg:zY W ls vs
 nl:RgN ls vs lv.ownBlock
 ns:RgN ls vs sv.ownBlock
 lo:∀k,k<w.heap.size+1+1+1+1+1->RgN ls vs (some k)
 B:zB w W
 sz:w.heap.size+1+1+1+1+1<=W.heap.size
theorem PS.step{w W W':World}{lv sv:Value}{ls:List Ln}{vs:List Value}{ss:List Nat}(h:PS w W lv sv ls vs ss)(hb:zB W W'):PS w W' lv sv ls vs ss :=
 ⟨h.r0.below hb h.r0.lt,h.r1.below hb h.r1.lt,h.r2.below hb h.r2.lt,h.r3.below hb h.r3.lt,qK h.lrow hb,qK h.srow hb,h.rg.below hb zN,h.nl,h.ns,h.lo,zT h.B hb,Nat.le_trans h.sz hb.size⟩
theorem PS.own{w:World}(B:Nat)(hB:w.heap.size<=B)(Φ:List Pc->List Ln->List Nat->Prop):OwnFrom B (fun (pre:List Pc) W=>∃lv sv ls vs ss,Φ pre ls ss/\PS w W lv sv ls vs ss):=by
 intro pre W W' row ⟨lv,sv,ls,vs,ss,hΦ,h⟩ hg hr;have hr':∀r,row=some r->∃o:Obj,W.heap[r]?=some o/\o.isCells=false:=fun r e=>(hr r e).2;exact⟨lv,sv,ls,vs,ss,hΦ,⟨qC h.r0 hg hr',qC h.r1 hg hr',qC h.r2 hg hr',qC h.r3 hg hr',Q5 h.lrow hg hr',Q5 h.srow hg hr',h.rg.keptO hg hr',h.nl,h.ns,h.lo,ownFrom_below (β:=Unit) zN hB () W W' row h.B hg hr,Nat.le_trans h.sz hg.size⟩⟩
theorem PS.appL{w W w':World}{lv lv' sv v:Value}{ls:List Ln}{vs:List Value}{ss:List Nat}{x:Ln}(h:PS w W lv sv ls vs ss)(hv:zb W v x.rng)(hrg:Rg x.rng)(hn:0<x.rng.length->∀g,v.ownBlock=some g->w.heap.size+1+1+1+1+1<=g/\some g≠lv.ownBlock/\some g≠sv.ownBlock)
  (hown:w'.ownsRow (w.heap.size+1+1+1+1+1) 92 7 lv' (ls.length+1) (zG ls vs++yQ x v)) (hg:W.grownBy w' lv.ownBlock) (hloc:lv'.ownBlock=lv.ownBlock\/lv'.ownBlock=some W.heap.size) :
  PS w (w'.setCell ⟨w.heap.size+1+1,0,none⟩ lv') lv' sv (ls++[x]) (vs++[v]) ss/\Blk w' (w.heap.size+1+1) 83 #[lv]/\Blk (w'.setCell ⟨w.heap.size+1+1,0,none⟩ lv') (w.heap.size+1+1+1) 27 #[sv]:=by
 have hne:∀b,b<w.heap.size+1+1+1+1+1->some b≠lv.ownBlock:=fun b hb e=>by have:=(h.lrow.lt b e.symm).1;omega
 have q0:=h.r0.kept hg (hne _ (by omega));have q1:=h.r1.kept hg (hne _ (by omega));have q2:=h.r2.kept hg (hne _ (by omega));have q3:=h.r3.kept hg (hne _ (by omega));have hx:0<x.rng.length->∀g,v.ownBlock=some g->some g≠lv.ownBlock:=fun h1 g h2=>(hn h1 g h2).2.1;have rg1:zY w' (ls++[x]) (vs++[v]):=(h.rg.grown hg h.nl).snoc (hv.grown hg hx) hrg;have lo1:∀k,k<w.heap.size+1+1+1+1+1->RgN (ls++[x]) (vs++[v]) (some k):=fun k hk=>(h.lo k hk).snoc h.rg.1 (fun h1 g h2 e=>by have:=(hn h1 g h2).1;cases e;omega);have srow1:=QC h.srow hg (Qz h.srow h.lrow (by decide));have hB:zB w w':=h.B.grown hg h.B.size (fun k hk=>by have:=(h.lrow.lt k hk).1;omega);refine⟨⟨q0.other (by omega),q1.other (by omega),q2.set (i:=0),q3.other (by omega),?_,xj srow1 (by omega),rg1.set (lo1 _ (by omega)),?_,h.ns.snoc h.rg.1 (fun h1 g h2=>(hn h1 g h2).2.2),lo1,hB.setCell (p:=⟨w.heap.size+1+1,0,none⟩) (by show w.heap.size<=w.heap.size+1+1;omega) _,by simp[World.setCell];exact Nat.le_trans h.sz hg.size⟩,q2,q3.other (by omega)⟩
 ·rw[Xi _ _ _ _ h.rg.1,List.length_append];exact xj hown (by omega)
 ·rcases hloc with e|e
  ·rw[e];exact h.nl.snoc h.rg.1 hx
  ·rw[e];refine(RgN.new h.rg zN).snoc h.rg.1 (fun h1 g h2 e2=>?_);have:=hv.lt' h1 h2;cases e2;omega
theorem PS.appS{w W w':World}{lv sv sv':Value}{ls:List Ln}{vs:List Value}{ss:List Nat}{k:Nat}(h:PS w W lv sv ls vs ss)
  (hown:w'.ownsRow (w.heap.size+1+1+1+1+1) 3 1 sv' (ss.length+1) (zn (ss.map fun (k:Nat)=>(k:Int))++[.int .i64 k])) (hg:W.grownBy w' sv.ownBlock) (hloc:sv'.ownBlock=sv.ownBlock\/sv'.ownBlock=some W.heap.size) :
  PS w (w'.setCell ⟨w.heap.size+1+1+1,0,none⟩ sv') lv sv' ls vs (ss++[k])/\Blk w' (w.heap.size+1+1+1) 27 #[sv]:=by
 have hne:∀b,b<w.heap.size+1+1+1+1+1->some b≠sv.ownBlock:=fun b hb e=>by have:=(h.srow.lt b e.symm).1;omega
 have q0:=h.r0.kept hg (hne _ (by omega));have q1:=h.r1.kept hg (hne _ (by omega));have q2:=h.r2.kept hg (hne _ (by omega));have q3:=h.r3.kept hg (hne _ (by omega));have rg1:zY w' ls vs:=h.rg.grown hg h.ns;have lrow1:=QC h.lrow hg (Qz h.lrow h.srow (by decide));have hB:zB w w':=h.B.grown hg h.B.size (fun k hk=>by have:=(h.srow.lt k hk).1;omega);refine⟨⟨q0.other (by omega),q1.other (by omega),q2.other (by omega),q3.set (i:=0),xj lrow1 (by omega),?_,rg1.set (h.lo _ (by omega)),h.nl,?_,h.lo,hB.setCell (p:=⟨w.heap.size+1+1+1,0,none⟩) (by show w.heap.size<=w.heap.size+1+1+1;omega) _,by simp[World.setCell];exact Nat.le_trans h.sz hg.size⟩,q3⟩
 ·rw[List.map_append,List.length_append];have e:zn (List.map (fun (k:Nat)=>(k:Int)) ss++List.map (fun (k:Nat)=>(k:Int)) [k])=zn (ss.map fun (k:Nat)=>(k:Int))++[.int .i64 k]:=by rw[List.map_cons,List.map_nil,xm]
  rw[e];exact xj hown (by omega)
 ·rcases hloc with e|e
  ·rw[e];exact h.ns
  ·rw[e];exact RgN.new h.rg zN
theorem QE{W:World}{B t k n:Nat}{v:Value}{cs:List Value}(h:W.ownsRow B t k v n cs):∀(j:Nat) (o:Obj),v.ownBlock=some j->W.heap[j]?=some o->o.isCells=true:=by
 intro j o hj ho;rcases h.2 with ⟨rfl,_⟩|⟨g,cap,cur,rfl,_,hg,_⟩
 ·simp[Value.ownBlock] at hj
 ·simp only[Value.ownBlock,Option.some.injEq] at hj;subst hj;rw[hg] at ho;cases ho;rfl
theorem J7{bt:Nat}{W W1 W':World}{B t k n:Nat}{v:Value}{cs:List Value}(hK:Kp1 bt W W1)(h:W1.ownsRow B t k v n cs)(hg:W1.grownBy W' v.ownBlock)(h1:bt<B)(h2:4<B)(h3:bt<W1.heap.size)(h4:4<W1.heap.size):Kp1 bt W W':=by
 have hne:∀b,b<B->some b≠v.ownBlock:=fun b hb e=>by have:=(h.lt b e.symm).1;omega
 exact⟨(y9 hg h3 (hne _ h1)).trans hK.1,(y9 hg h4 (hne _ h2)).trans hK.2⟩
theorem qQ.set{w:World}{b:Nat}{ls:List Ln}{vs:List Value}{its:List It}{B k i:Nat}{x:Value}(h:qQ w b ls vs its B)(hk:k<B)(hn:RgN ls vs (some k)):qQ (w.setCell ⟨k,i,none⟩ x) b ls vs its B:=by
 obtain⟨lv,iv,bm,h1,h2,h3,h4,h5,h6,h7,h8,h9⟩:=h;exact⟨lv,iv,bm,h1.other (by omega),h2.set hn,h3.set (fun g hg=>by have:=h8 g hg;omega),qt.set h4 (fun g hg=>by have:=h9 g hg;omega),h5.block (Below.heap_setCell _ _ _ _ (by show bm≠k;omega)),h6,h7,h8,h9⟩
theorem qQ.putD{w:World}{b D:Nat}{ls:List Ln}{vs:List Value}{its:List It}{B:Nat}{o':Obj}(h:qQ w b ls vs its B)(hK:∃o,w.heap[D]?=some o/\o.isCells=false/\∀es c,o≠.map es c):qQ (w.putObj D o') b ls vs its B:=by
 obtain⟨lv,iv,bm,h1,h2,h3,h4,h5,h6,h7,h8,h9⟩:=h;obtain⟨o,ho,hc,hm⟩:=hK;have hbD:b≠D:=by
  rintro rfl;rw[show w.heap[b]?=_ from h1] at ho;cases ho;cases hc
 have hmD:bm≠D:=by
  rintro rfl;obtain⟨E,n,⟨es,clock,h10,_⟩,_⟩:=h5;rw[h10] at ho;cases ho;exact hm _ _ rfl
 refine⟨lv,iv,bm,h1.put hbD,h2.keptO (grownBy_putObj' _ D o') (fun r e=>by cases e;exact⟨_,ho,hc⟩),h3.put ho hc (fun h=>?_),qt.put h4 ho hc (fun h=>?_),h5.block (World.putObj_heap_other hmD),h6,h7,h8,h9⟩
 ·rw[QL _ _ h2.1] at h;omega
 ·rw[yr] at h;omega
end
section
open Go.RowKit Go.Deep Sv
theorem XC(bk:Nat)(ls:List Ln)(its:List It)(w:World)(h:zV w bk ls its)(hl:its.length<=100000) :
  zC 43 #[.pointer (some ⟨bk,0,none⟩)] w fun e w'=>∃v',e=.returned v'/\w'.ownsRow w.heap.size 145 4 v' its.length (zf its)/\zB w w':=by
 obtain⟨lv,iv,bm,h1,h2,h3,h4⟩:=h;have HI:=zH (ze1 its iv w h3 hl);obtain⟨va,vc,rfl,-⟩:=h3.form;have c1:_=some (Value.slice va its.length vc):=h1.cell 1;clear h1 h2 h3 h4 hl;go_enter Tryz.func43,Tryz.ntmps43;go_wp2_with fail;refine HI.out.mono ?_;rintro e w1 ⟨v',rfl,hrow,hb1⟩;have HR:=zH hrow;have HB1:=zH hb1;clear hb1 HI hrow c1;go_wp2;go_ret;exact⟨v',rfl,HR.out,HB1.out⟩
theorem zbv(bk:Nat)(ls:List Ln)(its:List It)(w:World)(h:zV w bk ls its)(hl:ls.length<=100000) :
  zC 41 #[.pointer (some ⟨bk,0,none⟩)] w fun e w'=>∃v',e=.returned v'/\yI w' v' ls/\zB w w':=by
 obtain⟨lv,iv,bm,h1,⟨vs,h2,h2'⟩,h3,h4⟩:=h;have HI:=zH (Xl ls vs h2.1 h2.one lv w h2' hl);obtain⟨va,vc,rfl,-⟩:=h2'.form;have c0:_=some (Value.slice va ls.length vc):=h1.cell 0;have HRG:=zH h2;clear h1 h2 h2' h3 h4 hl;go_enter Tryz.func41,Tryz.ntmps41;go_wp2_with fail;refine HI.out.mono ?_;rintro e w1 ⟨v',rfl,hrow,hb1⟩;have HR:Hid (yI w1 v' ls):=⟨vs,HRG.out.below hb1 zN,zD hrow⟩;have HB1:=zH hb1;clear hb1 HI hrow c0;go_wp2;go_ret;exact⟨v',rfl,HR.out,HB1.out⟩
theorem zfv(name:ByteArray):∀(l:List It) (r:Nat × Nat),qv l name=some r->r.1<r.2/\r.2<=l.length:=by
 intro l
 induction h:l.length generalizing l with
 |zero =>intro r hr;obtain rfl:l=[]:=List.eq_nil_of_length_eq_zero h;cases hr
 |succ n ih =>
  intro r hr;obtain⟨l',x,rfl⟩:∃l' x,l=l'++[x]:=by
   rcases List.eq_nil_or_concat l with e|⟨l',x,e⟩
   ·subst e;simp at h
   ·exact⟨l',x,by rw[e,List.concat_eq_append]⟩
  have hl':l'.length=n:=by simpa using h
  rw[Y8] at hr;split at hr
  ·cases hr;cases hf:qv l' name with
   |none=>simp[hl']
   |some r' =>have:=ih l' hl' r' hf;simp[hl'];omega
  ·have:=ih l' hl' r hr;omega
theorem Yd(its:List It)(name:ByteArray):(qo its name).1<=(qo its name).2/\(qo its name).2<=its.length:=by
 unfold qo;cases h:qv its name with
 |none=>simp
 |some r=>have:=zfv name its r h;simp;omega
open Classical in
noncomputable def amP(its:List It)(name:ByteArray)(rng:List Span)(i:Nat):List Nat :=
 (List.range' (qo its name).1 (i-(qo its name).1)).filter fun i=>decide (qL rng (its.getD i default))
theorem zhj(its:List It)(name:ByteArray)(rng:List Span):amP its name rng (qo its name).1=[]:=by unfold amP;simp
theorem zfE(its:List It)(name:ByteArray)(rng:List Span):amP its name rng (qo its name).2=zO its name rng:=rfl
open Classical in
theorem zcV(its:List It)(name:ByteArray)(rng:List Span){i:Nat}(hi:(qo its name).1<=i):amP its name rng (i+1)=amP its name rng i++(if qL rng (its.getD i default) then [i] else []):=by
 unfold amP;rw[show i+1-(qo its name).1=(i-(qo its name).1)+1 by omega,List.range'_concat,List.filter_append,Nat.one_mul,show (qo its name).1+(i-(qo its name).1)=i by omega];congr 1
 by_cases h:qL rng (its.getD i default)
 ·rw[if_pos h];simp only[List.filter_cons,List.filter_nil,decide_eq_true h,if_true]
 ·rw[if_neg h];simp only[List.filter_cons,List.filter_nil,decide_eq_false h,Bool.false_eq_true,if_false]
theorem zfd(its:List It)(name:ByteArray)(rng:List Span)(i:Nat):(amP its name rng i).length<=i:=by
 unfold amP;refine Nat.le_trans (List.length_filter_le _ _) ?_;rw[List.length_range'];omega
end
section
open Go.RowKit Go.Deep Sv
theorem zej(a b:Int)(W:World):(Instr.field 193 (.agg #[.int .i64 a,.int .i64 b]) 0).run Tryz.prog W=.ok (.int .i64 a) W/\(Instr.field 193 (.agg #[.int .i64 a,.int .i64 b]) 1).run Tryz.prog W=.ok (.int .i64 b) W:=by
 constructor<;>kernel_rfl
theorem zba(bk:Nat)(ls:List Ln)(its:List It)(name:ByteArray)(rng:List Span)(hr:Rg rng)(v:Value)(w:World)(h:zV w bk ls its)(hl:its.length<=100000)(hn:name.size<=100000)(hv:zb w v rng) :
  zC 73 #[.pointer (some ⟨bk,0,none⟩),.string name,.agg #[v]] w fun e w'=>∃v',e=.returned v'/\w'.ownsRow w.heap.size 3 1 v' (zO its name rng).length (zn ((zO its name rng).map fun (k:Nat)=>(k:Int)))/\zB w w':=by
 obtain⟨va,vc,rfl⟩:=hv.form;obtain⟨lv,iv,bm,h1,h2,h3,h4⟩:=h;obtain⟨ia,ic,rfl,-⟩:=h3.form;obtain⟨i0,hin,hz0,hz1,hz2⟩:=info_parts xM;have HHAS:Hid (∀W i,zB w W->zC 104 #[.agg #[.slice va rng.length vc],.agg #[.int .i64 (its.getD i default).a,.int .i64 (its.getD i default).b,.int .i64 (its.getD i default).c]] W fun e w'=>(e=.returned (.bool true)/\qL rng (its.getD i default)\/e=.returned (.bool false)/\¬qL rng (its.getD i default))/\zB W w'):=fun W i hW=>(zan rng hr va vc (its.getD i default) W (hv.below hW zN)).mono fun e w' ⟨he,hb⟩=>by
  refine⟨?_,hb⟩
  by_cases hh:qL rng (its.getD i default)
  ·exact Or.inl ⟨by rw[he];congr 2;exact @decide_eq_true _ (Classical.propDecidable _) hh,hh⟩
  ·exact Or.inr ⟨by rw[he];congr 2;exact @decide_eq_false _ (Classical.propDecidable _) hh,hh⟩
 have hbx:zB w (w.alloc (.cells #[.slice va rng.length vc] 90)):=(Below.refl _ w).alloc zN _;have kr:=Blk.new w 90 #[.slice va rng.length vc];have k1:=h1.below hbx h1.lt;have h5:=h4.below hbx zN;have hlook:=fun (n:Nat)=>((h5.block (w':=(w.alloc (.cells #[.slice va rng.length vc] 90)).drewN n) rfl).look hn).2;clear h5;have HI:=zH (show zS (w.alloc (.cells #[.slice va rng.length vc] 90)) (.slice ia its.length ic) its from h3.below hbx zN);have HBX:=zH hbx;have HST:=zH (zhj its name rng);have HEN:=zH (zfE its name rng);have HSU:Hid (∀i,(qo its name).1<=i->amP its name rng (i+1)=amP its name rng i++(@ite _ (qL rng (its.getD i default)) (Classical.propDecidable _) [i] [])):=fun i hi=>zcV its name rng hi;have HLE:=zH (fun i=>zfd its name rng i);have hbd:=Yd its name;have hrow:(qv its name).getD (0,0)=qo its name:=rfl;simp only[hrow,xX] at hlook;obtain⟨la,lc,rfl,-⟩:∃la lc,lv=.slice la ls.length lc/\True:=by obtain⟨vs,_,h2⟩:=h2;obtain⟨x,y,e,_⟩:=h2.form;exact⟨x,y,e,trivial⟩
 clear hrow h1 h2 h3 h4 hbx hv hr hn;generalize amP its name rng=am at *;generalize zO its name rng=amF at *;obtain⟨lo,hlo⟩:∃lo,(qo its name).1=lo:=⟨_,rfl⟩;obtain⟨hi,hhi⟩:∃hi,(qo its name).2=hi:=⟨_,rfl⟩;rw[hlo,hhi] at hbd;simp only[hlo,hhi] at hlook;rw[hlo] at HST HSU;rw[hhi] at HEN;clear hlo hhi;obtain⟨hb1,hb2⟩:=hbd;go_enter Tryz.func73,Tryz.ntmps73;go_upto_region 4 with fail;generalize w.alloc (.cells #[.slice va rng.length vc] 90)=W0 at *;have d2:_=some (Value.map (some bm)):=k1.cell 2;have hlookD:=hlook 1;rw[show W0.drewN 1=W0.drew from rfl] at hlookD;clear hlook;obtain⟨hf0,hf1⟩:=zej (lo:Int) (hi:Int) W0.drew;go_big_region;clear d2 hlookD hf0 hf1;have hbq:zB W0 W0.drew:=⟨rfl,rfl,rfl,Nat.le_refl _,fun _ _=>rfl⟩;have kr1:=kr.below hbq kr.lt;have k2:=k1.below hbq k1.lt;have HI1:=zH (show zS W0.drew (.slice ia its.length ic) its from HI.out.below hbq zN);have HBQ:Hid (zB w W0.drew):=zT HBX.out hbq;clear hbq kr k1 HI HBX;generalize W0.drew=W1 at *;go_wp2_with fail;go_loopw [7,8] (fun oV iV wr=>∃(i:Nat),lo<=i/\i<=hi/\iV=.int .i64 i/\wr.ownsRow W1.heap.size 3 1 oV (am i).length (zn ((am i).map fun (k:Nat)=>(k:Int)))/\zB w wr/\zB W1 wr) (fun _ iV _=>hi-(intOf iV).toNat)
 case atStart=>exact⟨lo,Nat.le_refl _,hb1,rfl,by rw[HST.out];exact World.ownsRow_nil _ _ _ _,HBQ.out,Below.refl _ _⟩
 case round =>
  obtain⟨i,hil,hih,rfl,hrow,hbw,hbr⟩:=hrel;obtain⟨oa,oc,rfl,-⟩:=(zD hrow).form
  by_cases hlt:i<hi
  ·obtain⟨g,cap',e,hg,c0,c1,c2,c3⟩:=(show zS wr _ its from HI1.out.below hbr zN).at i (by omega);simp at e;obtain⟨rfl,rfl⟩:=e;have hii0:(0:Int)<=(i:Int):=by omega
   have hii1:(i:Int)<(its.length:Int):=by omega
   have hale:=HLE.out i;have HSUi:=zH (HSU.out i hil);have HHi:=zH (fun W hW=>HHAS.out W i hW);have HROW:=zH hrow;have HBW:=zH hbw;have HBR:=zH hbr;have kr3:=kr1.below hbr kr1.lt;have k3:=k2.below hbr k2.lt;have hxl:=kr3.lt;have hbl:=k3.lt;generalize its.getD i default=x at *;have SC:Hid (∀W,zB wr W->W.cell? ⟨w.heap.size,0,none⟩=some (.slice va rng.length vc)/\W.cell? ⟨bk,1,none⟩=some (.slice (some ⟨g,0,none⟩) its.length ic)/\W.cell? ⟨g,i*4+1,none⟩=some (.int .i64 x.a)/\W.cell? ⟨g,i*4+2,none⟩=some (.int .i64 x.b)/\W.cell? ⟨g,i*4+3,none⟩=some (.int .i64 x.c)):=fun W h=>⟨(kr3.below h hxl).cell 0,(k3.below h hbl).cell 1,(h.cell (p:=⟨g,i*4+1,none⟩) hg).trans c1,(h.cell (p:=⟨g,i*4+2,none⟩) hg).trans c2,(h.cell (p:=⟨g,i*4+3,none⟩) hg).trans c3⟩;have D0:zB wr wr.drew:=zF.drew;have E0:zB w wr.drew:=hbw.drew;clear hrow hbw hbr kr3 k3 c0 c1 c2 c3 HHAS HSU;go_upto_region 7 with fail
   by_cases hh:qL rng x
   ·have HQ:Hid (∀W,zB w W->zR 104 #[.agg #[.slice va rng.length vc],.agg #[.int .i64 x.a,.int .i64 x.b,.int .i64 x.c]] W (.bool true)):=fun W hW=>(HHi.out W hW).mono fun e w' ⟨h,hb⟩=>⟨by rcases h with h|h;exact h.1;exact absurd hh h.2,hb⟩;have HA:Hid (am (i+1)=am i++[i]):=by show _=_;rw[HSUi.out,if_pos hh]
    clear HHi HSUi hh;go_region_held3 (fun W=>W.cell? ⟨w.heap.size,0,none⟩=some (.slice va rng.length vc)/\W.cell? ⟨bk,1,none⟩=some (.slice (some ⟨g,0,none⟩) its.length ic)/\W.cell? ⟨g,i*4+1,none⟩=some (.int .i64 x.a)/\W.cell? ⟨g,i*4+2,none⟩=some (.int .i64 x.b)/\W.cell? ⟨g,i*4+3,none⟩=some (.int .i64 x.c)) (first|exact SC.out _ D0|exact SC.out _ D1)
     (((with_reducible refine(HQ.out _ E0).mono ?_);rintro e x1 ⟨rfl,hb1'⟩;have D1:zB wr x1:=zT D0 hb1';clear HQ D0 E0 hb1'))
    have hrow2:=qK HROW.out D1;have HBX:Hid (zB w x1):=zT HBW.out D1;have HBY:Hid (zB W1 x1):=zT HBR.out D1;have HROW2:=zH hrow2;have hxs:=HBX.out.size;have hys:=HBY.out.size;clear D1 hrow2 SC HROW HBW HBR;go_wp2_with (at_builtin;refine wpList_append_own_at _ rfl _ _ 27 rfl W1.heap.size 3 i0 (.int .i64 0) 1 8 Tryz.underlying27 hin hz0 hz1 hz2 rfl (by decide) _ _ _ rfl (HROW2.out.alloc _) ⟨x1.heap.size,0,none⟩ 1 1 [.int .i64 i] rfl rfl ?c1 ?c2 ?c3 ?c4 ?c5 ?_)
    case c1=>exact xK _ _ _
    case c2=>exact xx _
    case c3=>unfold maxLen;omega
    case c4=>omega
    case c5=>simp;omega
    intro v7 w7 hown7 hgrow7 _ hloc7;have HR7:Hid (w7.ownsRow W1.heap.size 3 1 v7 (am (i+1)).length (zn ((am (i+1)).map fun (k:Nat)=>(k:Int)))):=by
     show World.ownsRow _ _ _ _ _ _ _;rw[HA.out,List.map_append,List.map_cons,List.map_nil,xm,List.length_append];exact hown7
    have HB8:Hid (zB W1 w7):=(zL HBY.out).grown hgrow7 (by simp;omega) (fun k hk=>(HROW2.out.lt k hk).1);have HB7:Hid (zB w w7):=zT HBQ.out HB8.out;clear hown7 hgrow7 hloc7 HROW2 HBX HBY;go_wp2;go_roundw
    case rel=>exact⟨i+1,by omega,hlt,by go_num,HR7.out,HB7.out,HB8.out⟩
    case measure=>simp[intOf];omega
   ·have HQ:Hid (∀W,zB w W->zR 104 #[.agg #[.slice va rng.length vc],.agg #[.int .i64 x.a,.int .i64 x.b,.int .i64 x.c]] W (.bool false)):=fun W hW=>(HHi.out W hW).mono fun e w' ⟨h,hb⟩=>⟨by rcases h with h|h;exact absurd h.2 hh;exact h.1,hb⟩;have HA:Hid (am (i+1)=am i):=by show _=_;rw[HSUi.out,if_neg hh,List.append_nil]
    clear HHi HSUi hh;go_region_held3 (fun W=>W.cell? ⟨w.heap.size,0,none⟩=some (.slice va rng.length vc)/\W.cell? ⟨bk,1,none⟩=some (.slice (some ⟨g,0,none⟩) its.length ic)/\W.cell? ⟨g,i*4+1,none⟩=some (.int .i64 x.a)/\W.cell? ⟨g,i*4+2,none⟩=some (.int .i64 x.b)/\W.cell? ⟨g,i*4+3,none⟩=some (.int .i64 x.c)) (first|exact SC.out _ D0|exact SC.out _ D1)
     (((with_reducible refine(HQ.out _ E0).mono ?_);rintro e x1 ⟨rfl,hb1'⟩;have D1:zB wr x1:=zT D0 hb1';clear HQ D0 E0 hb1'))
    have HR7:Hid (x1.ownsRow W1.heap.size 3 1 (.slice oa (am i).length oc) (am (i+1)).length (zn ((am (i+1)).map fun (k:Nat)=>(k:Int)))):=by
     show World.ownsRow _ _ _ _ _ _ _;rw[HA.out];exact qK HROW.out D1
    have HBX:Hid (zB w x1):=zT HBW.out D1;have HBY:Hid (zB W1 x1):=zT HBR.out D1;clear D1 SC HROW HBW HBR;go_wp2;go_roundw
    case rel=>exact⟨i+1,by omega,hlt,by go_num,HR7.out,HBX.out,HBY.out⟩
    case measure=>simp[intOf];omega
  ·obtain rfl:i=hi:=by omega
   rw[HEN.out] at hrow;have HROW:=zH hrow;have HBW:=zH hbw;clear hrow hbw hbr;go_wp2;go_ret;rw[HEN.out];exact⟨_,rfl,ZV HROW.out HBQ.out.size,HBW.out⟩
end
section
open Go.RowKit Go.Deep Sv
def ClN(K:List (List Int))(cs:List Value)(b:Option Nat):Prop:=∀i,i<K.length->0<(K.getD i []).length->∀g,(cs.getD i undef).ownBlock=some g->some g≠b
theorem ClN.nil(b:Option Nat):ClN [] [] b:=fun i h=>by simp at h
theorem ClN.new{W:World}{cs:List Value}{K:List (List Int)}(h:yW 0 W cs K){b:Nat}(hb:W.heap.size<=b):ClN K cs (some b):=fun i hi hl g hg e=>by
 obtain⟨a,cap,h1,_,_,h4⟩:=h.2 i hi;obtain⟨ad,h5,h6,_⟩:=h4 0 hl;rw[List.getD_eq_getElem?_getD,h1,h5] at hg;simp[Value.ownBlock] at hg;cases e;omega
theorem ClN.snoc{K:List (List Int)}{cs:List Value}{b:Option Nat}(h:ClN K cs b)(hv:cs.length=K.length){c:List Int}{v:Value}(hx:0<c.length->∀g,v.ownBlock=some g->some g≠b):ClN (K++[c]) (cs++[v]) b:=by
 intro i hi
 by_cases hl:i<K.length
 ·have e1:(K++[c]).getD i []=K.getD i []:=by simp[List.getD_eq_getElem?_getD,List.getElem?_append_left hl]
  have e2:(cs++[v]).getD i undef=cs.getD i undef:=by simp[List.getD_eq_getElem?_getD,List.getElem?_append_left (show i<cs.length by rw[hv];exact hl)]
  rw[e1,e2];exact h i hl
 ·obtain rfl:i=K.length:=by simp at hi;omega
  have e1:(K++[c]).getD K.length []=c:=by simp[List.getD_eq_getElem?_getD]
  have e2:(cs++[v]).getD K.length undef=v:=by simp[List.getD_eq_getElem?_getD,<-hv]
  rw[e1,e2];exact hx
def PlA(a:Option Addr):Prop:=∀ad,a=some ad->ad.spot=none
def PlC(cs:List Value):Prop:=∀u∈cs,∀a n c,u=.slice a n c->PlA a
theorem PlC.snoc{cs:List Value}(h:PlC cs){a:Option Addr}(ha:PlA a)(n c:Nat):PlC (cs++[.slice a n c]):=by
 intro u hu;rcases List.mem_append.1 hu with hu|hu
 ·exact h u hu
 ·rw[List.mem_singleton] at hu;subst hu;intro a' n' c' e;cases e;exact ha
end
section
open Go.RowKit Go.Deep Sv
theorem Zl(its:List It)(name:ByteArray)(rng:List Span):(zO its name rng).length<=its.length:=by
 unfold zO;refine Nat.le_trans (List.length_filter_le _ _) ?_;rw[List.length_range'];have:=Yd its name;omega
theorem xF(its:List It)(name:ByteArray)(rng:List Span):∀x∈zO its name rng,x<its.length:=by
 intro x hx;unfold zO at hx;have h:=(List.mem_range'_1.1 (List.mem_filter.1 hx).1);have:=Yd its name;omega
section
end
theorem zhn(bk bm:Nat)(lv iv:Value)(ls:List Ln)(vs:List Value)(w:World)(h1:Blk w bk 141 #[lv,iv,.map (some bm)])(hr:zY w ls vs)(h2:qt w lv ls.length (zG ls vs))(hl:ls.length<=100000) :
  zC 41 #[.pointer (some ⟨bk,0,none⟩)] w fun e w'=>∃v',e=.returned v'/\w'.ownsRow w.heap.size 92 7 v' ls.length (zG ls vs)/\zB w w':=by
 have HI:=zH (Xl ls vs hr.1 hr.one lv w h2 hl);obtain⟨va,vc,rfl,-⟩:=h2.form;have c0:_=some (Value.slice va ls.length vc):=h1.cell 0;clear h1 h2 hr hl;go_enter Tryz.func41,Tryz.ntmps41;go_wp2_with fail;refine HI.out.mono ?_;rintro e w1 ⟨v',rfl,hrow,hb1⟩;have HR:=zH hrow;have HB1:=zH hb1;clear hb1 HI hrow c0;go_wp2;go_ret;exact⟨v',rfl,HR.out,HB1.out⟩
end
section
open Go.RowKit Go.Deep Sv
theorem X5:∀(ls:List Ln) (i:Nat) (its out:List It),its.length<=24->zE ls i its=.ok out->out.length<=24/\∀x∈ls,zM x=0
 |[],i,its,out,h0,h=>by cases h;exact⟨h0,fun x hx=>by cases hx⟩
 |x :: r,i,its,out,h0,h=>by
  rw[zE] at h;split at h
  ·cases h
  ·rename_i hc;have hc':zM x=0:=Decidable.not_not.1 hc;have key:∀its',its'.length<=24->zE r (i+1) its'=.ok out->out.length<=24/\∀y∈x :: r,zM y=0:=fun its' h1 h2=>by
    obtain⟨g1,g2⟩:=X5 r (i+1) its' out h1 h2;exact⟨g1,fun y hy=>by rcases List.mem_cons.1 hy with rfl|hy;exact hc';exact g2 y hy⟩
   split at h
   ·split at h
    ·cases h
    ·split at h
     ·cases h
     ·rename_i h8;exact key _ (by simp;omega) h
   ·exact key _ h0 h
theorem ya{ls:List Ln}{its:List It}(h:zk ls=.ok its):its.length<=24/\ls.length<=100/\∀x∈ls,zM x=0:=by
 unfold zk at h;split at h
 ·cases h
 ·split at h
  ·cases h
  ·rename_i its' hg;split at h
   ·cases h
   ·cases h;obtain⟨h1,h2⟩:=X5 ls 0 [] its' (by simp) hg;refine⟨?_,by omega,h2⟩;unfold qq;rw[List.length_mergeSort];exact h1
theorem zdK{s:ByteArray}{ls:List Ln}{its:List It}(h:qP s=.ok (ls,its)):zk ls=.ok its:=by
 unfold qP at h;split at h
 ·cases h
 ·split at h
  ·cases h
  ·split at h
   ·cases h
   ·cases h
   ·rename_i hn;cases h;exact hn
theorem YY{x:Ln}(h:zM x=0):x.name.size<=100000/\x.other.size<=100000:=by
 unfold zM at h;split at h
 ·cases h
 ·split at h
  ·cases h
  ·rename_i h5;split at h
   ·cases h
   ·rename_i h6;have hn:zh x.name:=by
     apply Classical.byContradiction;intro hc;exact h5 (Or.inl hc)
    refine⟨by have:=hn.len;omega,?_⟩
    by_cases hp:x.pair
    ·have ho:zh x.other:=by
      apply Classical.byContradiction;intro hc;exact h5 (Or.inr ⟨hp,hc⟩)
     have:=ho.len;omega
    ·have:x.other.size=0:=by
      apply Classical.byContradiction;intro hc;exact h6 ⟨hp,hc⟩
     omega
end
end Go.Proofs.YtlamemjfaogjmaaGreatDoor
