/- The reference's Items. -/
import Derived.Test.YtiihalknffbjpaaGreatDoorRlAmong
set_option maxHeartbeats 8000000
set_option maxRecDepth 100000
namespace Go.Proofs.YtiihalknffbjpaaGreatDoor
section
open Go.RowKit Go.Deep Sv
theorem zic{B:Nat}{W w7:World}{cv cv' fv:Value}{K:List (List Int)}{F:List Int}{c:List Int}{a:Option Addr}{cap:Nat}{cs:List Value}
  (hfr:W.ownsRow B 3 1 fv F.length (zd F)) (hrow:W.ownsRow B 81 1 cv K.length cs) (hck:zE 0 W cs K) (hcn:ClN K cs fv.ownBlock) (hpl:PlC cs) (hpa:PlA a)
  (hc1:c.length<=cap) (hc2:cap<=9223372036854775807) (hi:zW 0 W a c) (hN:0<c.length->∀g,(Value.slice a c.length cap).ownBlock=some g->some g≠fv.ownBlock)
  (hown:w7.ownsRow B 81 1 cv' (K.length+1) (cs++[.slice a c.length cap])) (hg:(W.alloc (.cells #[.slice a c.length cap] 81)).grownBy w7 cv.ownBlock) :
  RS B w7 cv' fv (K++[c]) F:=by
 have hbn:=zo W (.cells #[.slice a c.length cap] 81);have hk:Kp 0 (W.alloc (.cells #[.slice a c.length cap] 81)) w7:=Kp.grown (yn (zm hrow hbn) (Nat.zero_le _)) hg (by decide);have hk3:=(Kp.new (B:=0) hbn).trans hk;have hf7:=xD (zm hfr hbn) hg (xr (zm hfr hbn) (zm hrow hbn) (by decide));exact⟨⟨_,by simpa using hown,(hck.kp hk3).snoc hc1 hc2 (hi.kp hk3),hcn.snoc hck.1 hN,hpl.snoc hpa _ _⟩,hf7⟩
theorem zjC{B:Nat}{W w7:World}{cv fv fv':Value}{K:List (List Int)}{F:List Int}{x:Int}(hr:RS B W cv fv K F)
  (hown:w7.ownsRow B 3 1 fv' (F.length+1) (zd F++[.int .i64 x])) (hg:(W.alloc (.cells #[.int .i64 x] 3)).grownBy w7 fv.ownBlock) (hloc:fv'.ownBlock=fv.ownBlock\/fv'.ownBlock=some (W.alloc (.cells #[.int .i64 x] 3)).heap.size) :
  RS B w7 cv fv' K (F++[x]):=by
 have hbn:=zo W (.cells #[.int .i64 x] 3);obtain⟨cs,hrow,hck,hcn,hpl⟩:=(hr.new hbn).crow;have hfr2:=(hr.new hbn).frow;have hc7:=xD hrow hg (xr hrow hfr2 (by decide));refine⟨⟨cs,hc7,hck.grownN hg hcn,?_,hpl⟩,by rw[List.length_append,yO];exact hown⟩;rcases hloc with e|e
 ·rw[e];exact hcn
 ·rw[e];exact ClN.new hck zN
structure RR(w W:World)(cv fv iv:Value)(P:List (Int × List Int))(its:List It):Prop where
 rs:RS w.heap.size W cv fv (P.map Prod.snd) (P.map Prod.fst)
 it:W.ownsRow w.heap.size 93 4 iv its.length (zh its)
 bel:zB w W
theorem RR.new{w W W':World}{cv fv iv:Value}{P:List (Int × List Int)}{its:List It}(h:RR w W cv fv iv P its)(hb:zB W W'):RR w W' cv fv iv P its :=
 ⟨h.rs.new hb,zm h.it hb,zT h.bel hb⟩
theorem RR.cform{w W:World}{cv fv iv:Value}{P:List (Int × List Int)}{its:List It}(h:RR w W cv fv iv P its):∃a c,cv=.slice a P.length c:=by
 obtain⟨cs,h1,_⟩:=h.rs.crow;obtain⟨a,c,e,_⟩:=(zj h1).form;exact⟨a,c,by simpa using e⟩
theorem RR.fform{w W:World}{cv fv iv:Value}{P:List (Int × List Int)}{its:List It}(h:RR w W cv fv iv P its):∃a c,fv=.slice a P.length c:=by
 obtain⟨a,c,e,_⟩:=(zj h.rs.frow).form;exact⟨a,c,by simpa using e⟩
theorem RR.appC{w W w7:World}{cv cv' fv iv:Value}{P:List (Int × List Int)}{its:List It}{c:List Int}{a:Option Addr}{cap:Nat}{cs:List Value}(h:RR w W cv fv iv P its)
  (hrow:W.ownsRow w.heap.size 81 1 cv P.length cs) (hck:zE 0 W cs (P.map Prod.snd)) (hcn:ClN (P.map Prod.snd) cs fv.ownBlock) (hpl:PlC cs) (hpa:PlA a)
  (hc1:c.length<=cap) (hc2:cap<=9223372036854775807) (hi:zW 0 W a c) (hN:0<c.length->∀g,(Value.slice a c.length cap).ownBlock=some g->some g≠fv.ownBlock)
  (hown:w7.ownsRow w.heap.size 81 1 cv' (P.length+1) (cs++[.slice a c.length cap])) (hg:(W.alloc (.cells #[.slice a c.length cap] 81)).grownBy w7 cv.ownBlock) :
  RS w.heap.size w7 cv' fv (P.map Prod.snd++[c]) (P.map Prod.fst)/\w7.ownsRow w.heap.size 93 4 iv its.length (zh its)/\zB w w7:=by
 have hbn:=zo W (.cells #[.slice a c.length cap] 81);have hrow':W.ownsRow w.heap.size 81 1 cv (P.map Prod.snd).length cs:=by simpa using hrow
 refine⟨zic (by simpa using h.rs.frow) hrow' hck hcn hpl hpa hc1 hc2 hi hN (by simpa using hown) hg,xD (zm h.it hbn) hg (xr (zm h.it hbn) (zm hrow hbn) (by decide)),?_⟩;exact(zL h.bel).grown hg (by simp;have:=h.bel.size;omega) (fun k hk=>(hrow.lt k hk).1)
theorem RR.appF{w W w7:World}{cv fv fv' iv:Value}{K:List (List Int)}{F:List Int}{P:List (Int × List Int)}{c:List Int}{its:List It}{x:Int}(hr:RS w.heap.size W cv fv K F)(hK:K=P.map Prod.snd++[c])(hF:F=P.map Prod.fst)
  (hit:W.ownsRow w.heap.size 93 4 iv its.length (zh its)) (hb:zB w W)
  (hown:w7.ownsRow w.heap.size 3 1 fv' (F.length+1) (zd F++[.int .i64 x])) (hg:(W.alloc (.cells #[.int .i64 x] 3)).grownBy w7 fv.ownBlock) (hloc:fv'.ownBlock=fv.ownBlock\/fv'.ownBlock=some (W.alloc (.cells #[.int .i64 x] 3)).heap.size) :
  RR w w7 cv fv' iv (P++[(x,c)]) its:=by
 have hbn:=zo W (.cells #[.int .i64 x] 3);refine⟨?_,xD (zm hit hbn) hg (xr (zm hit hbn) (zm hr.frow hbn) (by decide)),(zL hb).grown hg (by simp;have:=hb.size;omega) (fun k hk=>(hr.frow.lt k hk).1)⟩;have:=zjC hr hown hg hloc;rw[hK,hF] at this;simpa using this
theorem JO(W:World)(x y:Int):zW 0 (W.alloc (.cells #[.int .i64 x,.int .i64 y] 3)) (some ⟨W.heap.size,0,none⟩) [x,y]:=fun i hi=>by
 have hB:=Blk.new W 3 #[.int .i64 x,.int .i64 y];refine⟨_,rfl,hB.lt,Or.inr ⟨_,_,hB⟩,?_⟩;rw[yd,Nat.zero_add,hB.cell i]
 match i,hi with
 |0,_=>rfl
 |1,_=>rfl
end
section
open Sv
theorem zgv:Tryz.prog.follows .mixedOrders=true:=by kernel_rfl
theorem zco:∀a b:List UInt8,Op.bytesLess a b=decide (Lib.compareBytes a b<0)
 |[],[]=>by rfl
 |[],_ :: _=>by rfl
 |_ :: _,[]=>by rfl
 |x :: a,y :: b=>by
  have ih:=zco a b;unfold Op.bytesLess Lib.compareBytes
  by_cases h1:x<y
  ·simp[h1]
  ·by_cases h2:y<x
   ·have h3:x≠y:=fun e=>by subst e;exact h1 h2
    simp[h1,h2,h3]
   ·have h3:x=y:=YL h1 h2;subst h3;simp[ih]
theorem X3(x y:ByteArray):Op.bytesLess x.toList y.toList=decide (Lib.compareBytes x.data.toList y.data.toList<0):=by
 rw[ByteArray.toList_eq,ByteArray.toList_eq];exact zco _ _
end
section
open Go.RowKit Sv
theorem zkV{P:Program}(w:World)(dT sT ty elem:TypeId)(g o dLen dCap:Nat)(a:Addr)(sLen sCap k:Nat)(cur:Array Value)(t:TypeId)(cs:List Value)
  (hu:P.underlying dT=some (.slice elem)) (hs:(P.info? elem).map (·.size)=some k)
  (hg:w.heap[g]?=some (.cells cur t (0,0))) (hn:cs.length=Nat.min sLen dLen*k)
  (hsrc:∀j v,cs[j]?=some v->w.cell? (a.add j)=some v) (hfit:o+cs.length<=cur.size) (h1:∀v∈cs,v.oneCell'=true) :
  (Builtin.copy_ #[dT,sT] ty #[.slice (some ⟨g,o,none⟩) dLen dCap,.slice (some a) sLen sCap]).run P w =
   .ok (goInt (Nat.min sLen dLen)) (w.setRow g (cur.toList.take o++cs++cur.toList.drop (o+cs.length)).toArray):=by
 have hl:=run_loadCells_list (P:=P) w a cs hsrc;have hst:=run_storeCells_at P g o t cs 0 cur w hg (by simpa using hfit) h1;cases hq:P.info? elem with
 |none=>simp[hq] at hs
 |some i =>
  have hi:i.size=k:=by simpa[hq] using hs
  simp[Builtin.copy_,run_underlying hu,Builtin.lenOf,Builtin.firstCells,sizeOf,typeInfo,hq,hi,<-hn,hl,hst]
theorem zfh{P:Program}(w:World)(dT sT ty elem:TypeId)(d a:Option Addr)(dLen dCap sLen sCap k:Nat)(hu:P.underlying dT=some (.slice elem))(hs:(P.info? elem).map (·.size)=some k)(hn:Nat.min sLen dLen=0) :
  (Builtin.copy_ #[dT,sT] ty #[.slice d dLen dCap,.slice a sLen sCap]).run P w=.ok (goInt 0) w:=by
 have hl:∀a,(loadCells a 0).run P w=.ok #[] w:=fun a=>run_loadCells_list (P:=P) w a [] (fun j v h=>by simp at h);cases hq:P.info? elem with
 |none=>simp[hq] at hs
 |some i =>cases d<;>cases a<;>simp[Builtin.copy_,run_underlying hu,Builtin.lenOf,Builtin.firstCells,sizeOf,typeInfo,hq,hn,storeCells,hl]
theorem Jb{P:Program}{ops:Array Oper}{o:Oper}{a:Act}{w:World}{K:Act->World->Prop}{Q:Exit->Act->World->Prop}{E:Prop}(hgd:o.guard=none)(d s:Operand)(dT sT:TypeId)
  (ho:o.op=.call { callee:=.builtin .copy,args:=#[d,s],argTypes:=#[dT,sT] }) (elem:TypeId) (hu:P.underlying dT=some (.slice elem)) (k:Nat) (hsz:(P.info? elem).map (·.size)=some k)
  (dp sp:Option Addr) (dLen dCap sLen sCap:Nat) (hd:a.eval d=.slice dp dLen dCap) (hs:a.eval s=.slice sp sLen sCap)
  (g off:Nat) (cur:List Value) (t:TypeId) (hg:w.heap[g]?=some (.cells cur.toArray t (0,0))) (cs:List Value) (hn:cs.length=Nat.min sLen dLen*k) (hk:0<k)
  (hpos:0<cs.length->dp=some ⟨g,off,none⟩/\∃ad,sp=some ad/\∀j v,cs[j]?=some v->w.cell? (ad.add j)=some v)
  (hfit:off+cs.length<=cur.length) (h1:∀v∈cs,v.oneCell'=true) (B:Nat) (w0:World) (hb:RowKit.Below B w0 w) (hBg:B<=g)
  (h:∀w' v,RowKit.Hid (w'.heap[g]?=some (.cells (splice cur off cs).toArray t (0,0)))->RowKit.Hid (∀k,k≠g->w'.heap[k]?=w.heap[k]?)->RowKit.Below B w0 w'->K (a.put o.dst v) w') :
  if Region.wanted o (yielded ops a.tmps)=true then Oper.wp P o a w K Q else E:=by
 have hw:Region.wanted o (yielded ops a.tmps)=true:=by simp[Region.wanted,hgd]
 rw[if_pos hw]
 by_cases h0:cs.length=0
 ·obtain rfl:cs=[]:=List.eq_nil_of_length_eq_zero h0;have hz:Nat.min sLen dLen=0:=by
   rcases Nat.mul_eq_zero.1 (show Nat.min sLen dLen*k=0 by simpa using hn.symm) with e|e
   ·exact e
   ·omega
  have hrun:=zfh (P:=P) w dT sT o.type elem dp sp dLen dCap sLen sCap k hu hsz hz;unfold Oper.wp;simp[execOp,ho,resolve,invoke,builtin,hd,hs,hrun,Result.andThen];exact h w _ (show _=_ by simpa[splice] using hg) (fun _ _=>rfl) hb
 ·obtain⟨rfl,ad,rfl,hsrc⟩:=hpos (by omega);have hrun:=zkV (P:=P) w dT sT o.type elem g off dLen dCap ad sLen sCap k cur.toArray t cs hu hsz hg hn hsrc (by simpa using hfit) h1;unfold Oper.wp;simp[execOp,ho,resolve,invoke,builtin,hd,hs,hrun,Result.andThen];exact h _ _ (show _=_ by simpa[splice] using setRow_heap w g _ _ t _ hg) (fun k hk=>setRow_other w g k _ hk) (below_setRow hb hBg _)
theorem zlt(l:List It)(i:Nat):zh (l.take i)=(zh l).take (i*4):=by
 rcases Nat.le_total i l.length with h|h
 ·have e:zh l=zh (l.take i)++zh (l.drop i):=by rw[<-Xc,List.take_append_drop]
  have hl:(zh (l.take i)).length=i*4:=by rw[xq,List.length_take];omega
  rw[e,<-hl,List.take_left]
 ·rw[List.take_of_length_le h,List.take_of_length_le (by rw[xq];omega)]
theorem zjr(l:List It)(i:Nat):zh (l.drop i)=(zh l).drop (i*4):=by
 rcases Nat.le_total i l.length with h|h
 ·have e:zh l=zh (l.take i)++zh (l.drop i):=by rw[<-Xc,List.take_append_drop]
  have hl:(zh (l.take i)).length=i*4:=by rw[xq,List.length_take];omega
  rw[e,<-hl,List.drop_left]
 ·rw[List.drop_of_length_le h,List.drop_of_length_le (by rw[xq];omega)];rfl
theorem zi2{L:List Value}{p:Nat}(h:p+4<=L.length)(a b c d:Value):(((L.set p a).set (p+1) b).set (p+2) c).set (p+3) d=L.take p++([a,b,c,d]++L.drop (p+4)):=by
 apply List.ext_getElem?;intro j;simp only[List.getElem?_set,List.getElem?_append,List.length_take,List.length_set,List.getElem?_take,List.length_cons,List.length_nil,List.getElem?_drop];rcases Nat.lt_trichotomy j p with q|q|q
 ·rw[if_neg (by omega),if_neg (by omega),if_neg (by omega),if_neg (by omega),if_pos (by omega),if_pos q]
 ·subst q;rw[if_neg (by omega),if_neg (by omega),if_neg (by omega),if_pos rfl,if_pos (by omega),if_neg (by omega),if_pos (by omega)];simp[show j-min j L.length=0 by omega]
 ·by_cases q1:j=p+1
  ·subst q1;rw[if_neg (by omega),if_neg (by omega),if_pos rfl,if_pos (by omega),if_neg (by omega),if_pos (by omega)];simp[show p+1-min p L.length=1 by omega]
  ·by_cases q2:j=p+2
   ·subst q2;rw[if_neg (by omega),if_pos rfl,if_pos (by omega),if_neg (by omega),if_pos (by omega)];simp[show p+2-min p L.length=2 by omega]
   ·by_cases q3:j=p+3
    ·subst q3;rw[if_pos rfl,if_pos (by omega),if_neg (by omega),if_pos (by omega)];simp[show p+3-min p L.length=3 by omega]
    ·rw[if_neg (by omega),if_neg (by omega),if_neg (by omega),if_neg (by omega),if_neg (by omega),if_neg (by omega)];congr 1;omega
theorem zhc{acc:List It}{x z:It}{i cap:Nat}{cur:List Value}(hi:i<=acc.length)(hsz:cur.length=cap*4)(hnc:acc.length+1<=cap)(htk:cur.take ((acc.length+1)*4)=zh acc++zG z) :
  ((((splice cur ((i+1)*4) ((zh acc).drop (i*4))).set (i*4) (.string x.name)).set (i*4+1) (.int .i64 x.a)).set (i*4+2) (.int .i64 x.b)).set (i*4+3) (.int .i64 x.c)=zh (xu acc x i)++cur.drop ((acc.length+1)*4):=by
 have hL:(zh acc).length=acc.length*4:=xq acc;have hD:((zh acc).drop (i*4)).length=(acc.length-i)*4:=by rw[List.length_drop,hL];omega
 have hcur:cur=zh acc++(zG z++cur.drop ((acc.length+1)*4)):=by
  have:=List.take_append_drop ((acc.length+1)*4) cur;rw[htk] at this;rw[<-List.append_assoc];exact this.symm
 have hlen:(splice cur ((i+1)*4) ((zh acc).drop (i*4))).length=cur.length:=length_splice _ _ _ (by rw[hD,hsz];omega);rw[zi2 (by rw[hlen,hsz];omega)];have e1:(splice cur ((i+1)*4) ((zh acc).drop (i*4))).take (i*4)=zh (acc.take i):=by
  unfold splice;rw[List.take_append_of_le_length (by rw[List.length_take,hsz];omega),List.take_take,show min (i*4) ((i+1)*4)=i*4 by omega];rw[hcur,List.take_append_of_le_length (by rw[hL];omega),zlt]
 have e2:(splice cur ((i+1)*4) ((zh acc).drop (i*4))).drop (i*4+4)=zh (acc.drop i)++cur.drop ((acc.length+1)*4):=by
  unfold splice;have hl:(cur.take ((i+1)*4)).length=i*4+4:=by rw[List.length_take,hsz];omega
  rw[<-hl,List.drop_left,zjr,hD];congr 2;omega
 rw[e1,e2];unfold xu;rw[Xc];show _=(_++zh (x :: acc.drop i))++_;rw[show zh (x :: acc.drop i)=zG x++zh (acc.drop i) from rfl];simp[zG]
theorem zjd{w3:World}{B i:Nat}{acc:List It}{x z:It}{v':Value}(hi:i<=acc.length)(hown:w3.ownsRow B 93 4 v' (acc.length+1) (zh acc++zG z)) :
  ∃(g cap:Nat) (cur CS:List Value),v'=.slice (some ⟨g,0,none⟩) (acc.length+1) cap/\B<=g/\acc.length+1<=cap/\w3.heap[g]?=some (.cells cur.toArray 93 (0,0)) /\
   (∀w4:World,w4.heap[g]?=some (.cells (splice cur ((i+1)*4) CS).toArray 93 (0,0))->(∃c0 c1 c2 c3,w4.cell? ⟨g,i*4,none⟩=some c0/\w4.cell? ⟨g,i*4+1,none⟩=some c1/\w4.cell? ⟨g,i*4+2,none⟩=some c2/\w4.cell? ⟨g,i*4+3,none⟩=some c3)/\(∀j,w4.frozen? ⟨g,j,none⟩=false)/\((((w4.setCell ⟨g,i*4,none⟩ (.string x.name)).setCell ⟨g,i*4+1,none⟩ (.int .i64 x.a)).setCell ⟨g,i*4+2,none⟩ (.int .i64 x.b)).setCell ⟨g,i*4+3,none⟩ (.int .i64 x.c)).ownsRow B 93 4 (.slice (some ⟨g,0,none⟩) (acc.length+1) cap) (acc.length+1) (zh (xu acc x i))) /\
   (∀j v,CS[j]?=some v->w3.cell? ⟨g,i*4+j,none⟩=some v)/\(∀v∈CS,v.oneCell'=true)/\CS.length=Nat.min (acc.length+1-i) (acc.length+1-(i+1))*4/\(i+1)*4+CS.length<=cur.length:=by
 rcases hown.2 with ⟨_,h0'⟩|⟨g,cap,cur,rfl,hBg,hg,hnc,hmx,hsz,htk⟩
 ·exact absurd h0' (by simp)
 have hL:(zh acc).length=acc.length*4:=xq acc;have hD:((zh acc).drop (i*4)).length=(acc.length-i)*4:=by rw[List.length_drop,hL];omega
 have hsz':cur.toList.length=cap*4:=by simpa using hsz
 refine⟨g,cap,cur.toList,(zh acc).drop (i*4),rfl,hBg,hnc,by simpa using hg,fun w4 h4=>?_,fun j v hv=>?_,fun v hv=>?_,?_,?_⟩
 ·have hlen:(splice cur.toList ((i+1)*4) ((zh acc).drop (i*4))).length=cap*4:=by rw[length_splice _ _ _ (by rw[hD,hsz'];omega),hsz']
  have hB:Blk w4 g 93 (splice cur.toList ((i+1)*4) ((zh acc).drop (i*4))).toArray:=h4;have hex:∀j,j<cap*4->∃u,w4.cell? ⟨g,j,none⟩=some u:=fun j hj=>by
   rw[hB.cell];exact⟨(splice cur.toList ((i+1)*4) ((zh acc).drop (i*4)))[j]'(by rw[hlen];exact hj),by rw[List.getElem?_toArray,List.getElem?_eq_getElem]⟩
  obtain⟨c0,h0⟩:=hex (i*4) (by omega);obtain⟨c1,h1⟩:=hex (i*4+1) (by omega);obtain⟨c2,h2⟩:=hex (i*4+2) (by omega);obtain⟨c3,h3⟩:=hex (i*4+3) (by omega);refine⟨⟨c0,c1,c2,c3,h0,h1,h2,h3⟩,fun j=>hB.frozen j,?_⟩;have hF:=(((hB.set (i:=i*4) (v:=.string x.name)).set (i:=i*4+1) (v:=.int .i64 x.a)).set (i:=i*4+2) (v:=.int .i64 x.b)).set (i:=i*4+3) (v:=.int .i64 x.c);refine⟨by rw[xq,KD],Or.inr ⟨g,cap,_,rfl,hBg,hF,hnc,hmx,by simp[hlen],?_⟩⟩;simp only[List.setIfInBounds_toArray];rw[zhc hi hsz' hnc (by simpa using htk)];have:(zh (xu acc x i)).length=(acc.length+1)*4:=by rw[xq,KD]
  rw[<-this,List.take_left]
 ·have hj:i*4+j<acc.length*4:=by have:=(List.getElem?_eq_some_iff.1 hv).1;rw[hD] at this;omega
  rw[(show Blk w3 g 93 cur from hg).cell,<-hv,List.getElem?_drop,<-Array.getElem?_toList,show cur.toList[i*4+j]?=(cur.toList.take ((acc.length+1)*4))[i*4+j]? by rw[List.getElem?_take,if_pos (by omega)],htk,List.getElem?_append_left (by rw[hL];omega)]
 ·have hm:=List.mem_of_mem_drop hv;unfold zh at hm;obtain⟨y,_,hy⟩:=List.mem_flatMap.1 hm;simp only[zG,List.mem_cons,List.not_mem_nil,or_false] at hy;rcases hy with rfl|rfl|rfl|rfl<;>rfl
 ·rw[hD];show _=min _ _*4;omega
 ·rw[hD,hsz'];omega
end
section
open Go.RowKit Sv
theorem ziB(a b c d e f:Int)(w:World) :
  zC 112 #[.agg #[.int .i64 a,.int .i64 b,.int .i64 c],.agg #[.int .i64 d,.int .i64 e,.int .i64 f]] w fun r w'=>r=.returned (.int .i64 (qT (tI a b c) (tI d e f) 3))/\zB w w':=by
 have kv:=(Blk.new w 91 #[.int .i64 a,.int .i64 b,.int .i64 c]).alloc (.cells #[.int .i64 d,.int .i64 e,.int .i64 f] 91);have kw:=Blk.new (w.alloc (.cells #[.int .i64 a,.int .i64 b,.int .i64 c] 91)) 91 #[.int .i64 d,.int .i64 e,.int .i64 f];rw[World.size_alloc] at kw;have hB0:zB w ((w.alloc (.cells #[.int .i64 a,.int .i64 b,.int .i64 c] 91)).alloc (.cells #[.int .i64 d,.int .i64 e,.int .i64 f] 91)):=((Below.refl _ w).alloc zN _).alloc (by simp only[World.size_alloc];omega) _;have HB0:=zH hB0;have HX:Hid (∀W,Below ((w.alloc (.cells #[.int .i64 a,.int .i64 b,.int .i64 c] 91)).alloc (.cells #[.int .i64 d,.int .i64 e,.int .i64 f] 91)).heap.size ((w.alloc (.cells #[.int .i64 a,.int .i64 b,.int .i64 c] 91)).alloc (.cells #[.int .i64 d,.int .i64 e,.int .i64 f] 91)) W->∀j,j<3->W.cell? ⟨w.heap.size,j,none⟩=some (.int .i64 (tI a b c j))/\W.cell? ⟨w.heap.size+1,j,none⟩=some (.int .i64 (tI d e f j))):=fun W hb j hj=>by
  rw[(kv.below hb kv.lt).cell j,(kw.below hb kw.lt).cell j]
  match j,hj with
  |0,_=>exact⟨rfl,rfl⟩
  |1,_=>exact⟨rfl,rfl⟩
  |2,_=>exact⟨rfl,rfl⟩
 clear kv kw hB0;go_enter Tryz.func112,Tryz.ntmps112;go_wp2_with fail;generalize (w.alloc (.cells #[.int .i64 a,.int .i64 b,.int .i64 c] 91)).alloc (.cells #[.int .i64 d,.int .i64 e,.int .i64 f] 91)=W0 at *;go_loopw [6] (fun iV wr=>∃k:Nat,k<=3/\iV=.int .i64 k/\qT (tI a b c) (tI d e f) 3=qT (tI a b c) (tI d e f) (3-k)/\zB W0 wr) (fun iV _=>3-(intOf iV).toNat)
 case atStart=>exact⟨0,by omega,rfl,rfl,Below.refl _ _⟩
 case round =>
  obtain⟨k,hk,rfl,heq,hbr⟩:=hrel;have HE:=zH heq;have HBR:=zH hbr;clear heq hbr
  by_cases hlt:k<3
  ·have hcells:=fun (n:Nat)=>HX.out (wr.drewN n) ⟨HBR.out.os,HBR.out.tape,HBR.out.output,HBR.out.size,HBR.out.block⟩ k hlt;obtain⟨c0,c1⟩:=HX.out wr HBR.out k hlt;have HS:Hid (qT (tI a b c) (tI d e f) (3-k)=if qC (tI a b c k) (tI d e f k)≠0 then qC (tI a b c k) (tI d e f k) else qT (tI a b c) (tI d e f) (3-(k+1))):=by
    show _=_
    match k,hlt with
    |0,_=>rfl
    |1,_=>rfl
    |2,_=>rfl
   have HCL:=zH hcells;clear hcells;generalize tI a b c k=X at *;generalize tI d e f k=Y at *;have HBN:Hid (∀n,zB W0 (wr.drewN n)):=fun n=>⟨HBR.out.os,HBR.out.tape,HBR.out.output,HBR.out.size,HBR.out.block⟩
   by_cases h1:X<Y
   ·have HC:Hid (qC X Y=-1):=by show _=_;unfold qC;rw[if_pos h1]
    go_wp2_with fail;go_quiet (fail);go_wp2;go_ret;exact⟨by rw[HE.out,HS.out,HC.out];rfl,HB0.out.trans ((HBN.out _).mono HB0.out.size)⟩
   ·by_cases h2:Y<X
    ·have HC:Hid (qC X Y=1):=by show _=_;unfold qC;rw[if_neg h1,if_pos h2]
     go_wp2_with fail;go_quiet (fail);have d0:=(HCL.out nq).1;have d1:=(HCL.out nq).2;have HB9:=zH (HBN.out nq);clear c0 c1 HBN HCL;generalize wr.drewN nq=W9 at *;go_wp2_with fail;go_quiet (fail);have HBN:Hid (∀n,zB W0 (W9.drewN n)):=fun n=>⟨HB9.out.os,HB9.out.tape,HB9.out.output,HB9.out.size,HB9.out.block⟩;go_wp2;go_ret;exact⟨by rw[HE.out,HS.out,HC.out];rfl,HB0.out.trans ((HBN.out _).mono HB0.out.size)⟩
    ·have HC:Hid (qC X Y=0):=by show _=_;unfold qC;rw[if_neg h1,if_neg h2]
     go_wp2_with fail;go_quiet (fail);have d0:=(HCL.out nq).1;have d1:=(HCL.out nq).2;have HB9:=zH (HBN.out nq);clear c0 c1 HBN HCL;generalize wr.drewN nq=W9 at *;go_wp2_with fail;go_quiet (fail);have HBN:Hid (∀n,zB W0 (W9.drewN n)):=fun n=>⟨HB9.out.os,HB9.out.tape,HB9.out.output,HB9.out.size,HB9.out.block⟩;go_wp2;go_roundw
     case rel=>exact⟨k+1,by omega,by go_num,by rw[HE.out,HS.out,HC.out,if_neg (by simp)],HBN.out _⟩
     case measure=>simp[intOf];omega
  ·obtain rfl:k=3:=by omega
   go_wp2;go_ret;exact⟨by rw[HE.out];rfl,zT HB0.out HBR.out⟩
end
section
open Go.RowKit Go.Deep Go.Sort Sv
theorem zg8:(Tryz.prog.info? 93).map (fun i=>(i.zero,i.size,i.bytes))=some (some (.agg #[.string ⟨#[]⟩,.int .i64 0,.int .i64 0,.int .i64 0]),4,40):=by kernel_rfl
theorem Ji:(Tryz.prog.info? 93).map (·.size)=some 4:=by kernel_rfl
theorem zik(ls:List Ln):∀(k:Nat) (acc:List It),k<ls.length->qc (ls.take (k+1)) acc=if (ls.getD k default).kind=1 then xu (qc (ls.take k) acc) (ls.getD k default).it (yi (qc (ls.take k) acc) (ls.getD k default).it (qc (ls.take k) acc).length) else qc (ls.take k) acc:=by
 induction ls with
 |nil=>intro k acc h;simp at h
 |cons y r ih =>
  intro k acc h;cases k with
  |zero =>show qc [y] acc=_;rw[List.take_zero];show qc [y] acc=if y.kind=1 then xu acc y.it (yi acc y.it acc.length) else acc;rw[qc];split<;>rfl
  |succ k =>
   have hk:k<r.length:=by simpa using h
   show qc (y :: r.take (k+1)) acc=_;rw[qc];simp only[List.take_succ_cons,List.getD_cons_succ]
   by_cases hy:y.kind=1
   ·rw[if_pos hy,ih k _ hk,qc,if_pos hy]
   ·rw[if_neg hy,ih k _ hk,qc,if_neg hy]
theorem zeg(ls:List Ln):∀acc:List It,(qc ls acc).length<=acc.length+ls.length:=by
 intro acc;rw[(Y2 ls acc).length_eq,List.length_append];unfold yt;have:=List.length_filter_le (fun x:Ln=>decide (x.kind=1)) ls;simp;omega
theorem zhM(w:World):∀(j:Nat) (u:Value),(zG ⟨⟨#[]⟩,0,0,0⟩)[j]?=some u->(w.alloc (.cells #[.string ⟨#[]⟩,.int .i64 0,.int .i64 0,.int .i64 0] 93)).cell? (Addr.add ⟨w.heap.size,0,none⟩ j)=some u:=by
 intro j u hu;have hB:=Blk.new w 93 #[.string ⟨#[]⟩,.int .i64 0,.int .i64 0,.int .i64 0];rw[yd,Nat.zero_add,hB.cell j,<-hu]
 match j with
 |0=>rfl
 |1=>rfl
 |2=>rfl
 |3=>rfl
 |j+4=>simp[zG]
theorem Kv(ls:List Ln)(v:Value)(w:World)(h:RLs w v ls)(hl:ls.length<=100000) :
  zC 46 #[v] w fun e w'=>∃v',e=.returned v'/\w'.ownsRow w.heap.size 93 4 v' (qc ls []).length (zh (qc ls []))/\zB w w':=by
 obtain⟨va,vc,rfl⟩:∃va vc,v=.slice va ls.length vc:=by obtain⟨vs,_,h2⟩:=h;obtain⟨a,c,e,_⟩:=h2.form;exact⟨a,c,e⟩
 obtain⟨i0,hin,hz0,hz1,hz2⟩:=info_parts zg8;have HI:=zH h;have HST:=zH (fun k hk=>zik ls k [] hk);have HLE:Hid (∀k,(qc (ls.take k) []).length<=100000):=fun k=>by have:=zeg (ls.take k) [];simp at this;omega
 have HS0:Hid (qc (ls.take 0) []=[]):=by show _=_;rfl
 have HEN:Hid (qc (ls.take ls.length) []=qc ls []):=by show _=_;rw[List.take_length]
 clear h;go_enter Tryz.func46,Tryz.ntmps46;go_wp2_with fail;go_loopw [3,9] (fun oV kV wr=>∃(k:Nat),k<=ls.length/\kV=.int .i64 k/\wr.ownsRow w.heap.size 93 4 oV (qc (ls.take k) []).length (zh (qc (ls.take k) []))/\zB w wr) (fun _ kV _=>ls.length-(intOf kV).toNat)
 case atStart=>exact⟨0,Nat.zero_le _,rfl,by rw[HS0.out];exact World.ownsRow_nil _ _ _ _,Below.refl _ _⟩
 case round =>
  obtain⟨k,hk,rfl,hrow,hbw⟩:=hrel;obtain⟨oa,oc,rfl,-⟩:=(zj hrow).form;have hale:=HLE.out k
  by_cases hlt:k<ls.length
  ·obtain⟨g,cap',ra,rc,e1,hg,hns,hrg,c0,c1,c2,c3,c4,c5,c6⟩:=(HI.out.below hbw zN).at k hlt;simp at e1;obtain⟨rfl,rfl⟩:=e1;have hii0:(0:Int)<=(k:Int):=by omega
   have hii1:(k:Int)<(ls.length:Int):=by omega
   have hst:=HST.out k hlt;generalize ls.getD k default=X at *;generalize qc (ls.take k) []=acc at *;obtain⟨R,hR⟩:∃R,qc (ls.take (k+1)) []=R:=⟨_,rfl⟩;rw[hR] at hst;have HR:=zH hR;have HSTK:=zH hst;have hA:zB wr (wr.alloc (.cells #[.int .i64 X.kind,.string X.name,.int .i64 X.a,.int .i64 X.b,.int .i64 X.c,.string X.other,.slice ra (tp X.rng).length rc] 101)):=zF.alloc zN _;have HKN:=zH (Blk.new wr 101 #[.int .i64 X.kind,.string X.name,.int .i64 X.a,.int .i64 X.b,.int .i64 X.c,.string X.other,.slice ra (tp X.rng).length rc]);have HR3:=zH (zm hrow hA);have HB3:Hid (zB w (wr.alloc (.cells #[.int .i64 X.kind,.string X.name,.int .i64 X.a,.int .i64 X.b,.int .i64 X.c,.string X.other,.slice ra (tp X.rng).length rc] 101))):=zT hbw hA;have hsz1:=hbw.size;clear hrow hbw hA hst hR hns hrg HST HEN HS0 HLE HI;generalize (tp X.rng).length=TL at *;go_upto_region 5 with fail;generalize hW3:wr.alloc (.cells #[.int .i64 X.kind,.string X.name,.int .i64 X.a,.int .i64 X.b,.int .i64 X.c,.string X.other,.slice ra TL rc] 101)=W3 at *;clear hW3 c0 c1 c2 c3 c4 c5 c6;have c0:_=some (Value.int .i64 X.kind):=HKN.out.cell 0;have c1:_=some (Value.string X.name):=HKN.out.cell 1;have c2:_=some (Value.int .i64 X.a):=HKN.out.cell 2;have c3:_=some (Value.int .i64 X.b):=HKN.out.cell 3;have c4:_=some (Value.int .i64 X.c):=HKN.out.cell 4
   by_cases hk1:X.kind=1
   ·have hRe:R=xu acc X.it (yi acc X.it acc.length):=by rw[HSTK.out,if_pos hk1]
    have HRE:=zH hRe;clear hRe HSTK;rw[hk1] at c0;rw[hk1];clear hk1;generalize wr.heap.size=bx at *;go_wp2_with fail;go_loopw [6] (fun iV wz=>∃i:Nat,i<=acc.length/\iV=.int .i64 i/\yi acc X.it acc.length=yi acc X.it i/\zB W3 wz) (fun iV _=>(intOf iV).toNat)
    case atStart=>exact⟨acc.length,Nat.le_refl _,rfl,rfl,Below.refl _ _⟩
    case round =>
     obtain⟨i,hi,rfl,hp,hbz⟩:=hrel;have HP:=zH hp;have HBZ:=zH hbz;have HR4:=zH (zm HR3.out hbz);have HK4:=zH (HKN.out.below hbz HKN.out.lt);have HB4:Hid (zB w wr):=zT HB3.out hbz;clear c0 c1 c2 c3 c4 hp hbz;have c1:_=some (Value.string X.name):=HK4.out.cell 1;have c2:_=some (Value.int .i64 X.a):=HK4.out.cell 2;have c3:_=some (Value.int .i64 X.b):=HK4.out.cell 3;have c4:_=some (Value.int .i64 X.c):=HK4.out.cell 4;obtain⟨D,hD⟩:∃D:Bool,D=decide (0<i/\zO X.it (acc.getD (i-1) default)<0):=⟨_,rfl⟩;have HD:=zH hD;clear hD;go_upto_region 7 with fail;go_cut [53] from 18 to 55 (fun c wx=>c=.bool D/\zB wr wx)
     case first =>
      by_cases hi0:0<i
      ·obtain⟨j,hj⟩:∃j,j+1=i:=⟨i-1,by omega⟩;have hD:=HD.out;rw[show i-1=j by omega] at hD;obtain⟨g2,cap2,e2,hg2,y0,y1,y2,y3⟩:=(show qP wr (.slice oa acc.length oc) acc from zj HR4.out).at j (by omega);simp at e2;obtain⟨rfl,rfl⟩:=e2;have hiI:(0:Int)<(i:Int):=by omega
       have hjw:IntKind.i64.wrap ((i:Int)-1)=(j:Int):=by rw[show (i:Int)-1=(j:Int) by omega,IntKind.wrap_i64];omega
       have hj0:(0:Int)<=(j:Int):=by omega
       have hj1:(j:Int)<(acc.length:Int):=by omega
       have hDD:D=decide (zO X.it (acc.getD j default)<0):=by rw[hD];simp[hi0]
       clear hD HD hj;generalize acc.getD j default=Y at *
       by_cases hnm:Y.name=X.name
       ·have e1:(Y.name.toList==X.name.toList)=true:=by rw[hnm];simp
        have e2:Op.bytesLess Y.name.toList X.name.toList=false:=by
         rw[X3,hnm];refine decide_eq_false ?_;have:=Qq X.name.data.toList X.name.data.toList;omega
        have hDC:D=decide (qT (tI Y.a Y.b Y.c) (tI X.a X.b X.c) 3<0):=by
         rw[hDD];unfold zO;rw[if_pos (show X.it.name.toList=Y.name.toList by rw[hnm];rfl)];rfl
        have HCM:Hid (∀d os,zC 112 #[.agg #[.int .i64 Y.a,.int .i64 Y.b,.int .i64 Y.c],.agg #[.int .i64 X.a,.int .i64 X.b,.int .i64 X.c]] (grow (redrawn wr d) os) fun e w''=>e=.returned (.int .i64 (qT (tI Y.a Y.b Y.c) (tI X.a X.b X.c) 3))/\∃p:Regrown,w''=grow (redrawn wr p.d) p.os):=fun d os=>Calls.regrown_of (ziB _ _ _ _ _ _ _);have HDC:=zH hDC;have kx1:=cell_regrown c1;have kx2:=cell_regrown c2;have kx3:=cell_regrown c3;have kx4:=cell_regrown c4;have ky0:=cell_regrown y0;have ky1:=cell_regrown y1;have ky2:=cell_regrown y2;have ky3:=cell_regrown y3;clear c1 c2 c3 c4 y0 y1 y2 y3 hDD hDC hnm;generalize qT (tI Y.a Y.b Y.c) (tI X.a X.b X.c) 3=CM at *;refine wp_region_quiet_below zgv (by kernel_rfl) ?_
        repeat(quiet_step (first|(go_at_call 112;exact HCM.out _ _)))
        refine wpQuiet_nil ?_;intro _ hw';obtain⟨⟨dq,osq⟩,hw''⟩:=hw';subst hw'';have hbq:=zH (below_regrown wr dq osq);clear kx1 kx2 kx3 kx4 ky0 ky1 ky2 ky3 HCM;generalize grow (redrawn wr dq) osq=wq at *;go_wp2;go_meet
        case rel=>exact⟨by rw[HDC.out],hbq.out⟩
       ·have e1:(Y.name.toList==X.name.toList)=false:=by rw[beq_eq_false_iff_ne];exact fun e=>hnm (xH e)
        have hDC:D=decide (Lib.compareBytes X.name.data.toList Y.name.data.toList<0):=by
         rw[hDD];unfold zO;rw[if_neg (show ¬X.it.name.toList=Y.name.toList from fun e=>hnm (xH e.symm))];rfl
        have ha:=Qq X.name.data.toList Y.name.data.toList
        by_cases hls:Lib.compareBytes Y.name.data.toList X.name.data.toList<0
        ·have e2:Op.bytesLess Y.name.toList X.name.toList=true:=by rw[X3];exact decide_eq_true hls
         have HDF:Hid (D=false):=by show D=false;rw[hDC];exact decide_eq_false (by omega)
         clear hDC ha hls hDD hnm;go_quiet (fail);go_wp2;go_meet
         case rel=>exact⟨by rw[HDF.out],Z8 zF _⟩
        ·have e2:Op.bytesLess Y.name.toList X.name.toList=false:=by rw[X3];exact decide_eq_false hls
         have hne:Lib.compareBytes Y.name.data.toList X.name.data.toList≠0:=fun e=>hnm (xH (by rw[ByteArray.toList_eq,ByteArray.toList_eq];exact Kc _ _ e));have HDF:Hid (D=true):=by show D=true;rw[hDC];exact decide_eq_true (by omega)
         clear hDC ha hls hne hDD hnm;go_quiet (fail);go_wp2;go_meet
         case rel=>exact⟨by rw[HDF.out],Z8 zF _⟩
      ·have HDF:Hid (D=false):=by show D=false;rw[HD.out];exact decide_eq_false (by omega)
       have hiI:¬(0:Int)<(i:Int):=by omega
       clear HD;go_quiet (fail);go_wp2;go_meet
       case rel=>exact⟨by rw[HDF.out],Z8 zF _⟩
     case rest =>
      obtain⟨rfl,hbc⟩:=hcut;have HR5:=zH (zm HR4.out hbc);have HK5:=zH (HK4.out.below hbc HK4.out.lt);have HB5:Hid (zB w wc):=zT HB4.out hbc;have HB6:Hid (zB W3 wc):=zT HBZ.out hbc;have hszc:=HB5.out.size;clear hbc HB4 HBZ HR4 HK4 c1 c2 c3 c4;cases D with
      |true =>
       have hd:=HD.out;simp only[true_eq_decide_iff] at hd;obtain⟨j,hj⟩:∃j,j+1=i:=⟨i-1,by omega⟩;have HP2:Hid (yi acc X.it acc.length=yi acc X.it j):=by
        show _=_;rw[HP.out,<-hj,yi,if_pos (by have:=hd.2;rwa [<-hj] at this)]
       have hjw:IntKind.i64.wrap ((i:Int)-1)=(j:Int):=by rw[show (i:Int)-1=(j:Int) by omega,IntKind.wrap_i64];omega
       have hji:j<i:=by omega
       clear hd HD HP hj;go_wp2;go_roundw
       case rel=>exact⟨j,by omega,by go_num,HP2.out,HB6.out⟩
       case measure=>simp[intOf];omega
      |false =>
       have HPI:Hid (yi acc X.it acc.length=i):=by
        have hd:=HD.out;show _=_;rw[HP.out];cases i with
        |zero=>rfl
        |succ j =>rw[yi,if_neg];intro hc;simp only[false_eq_decide_iff] at hd;exact hd ⟨by omega,hc⟩
       clear HD HP;go_wp2_with (at_builtin;refine wpList_append_own_at _ rfl _ _ 89 rfl w.heap.size 93 i0 (.agg #[.string ⟨#[]⟩,.int .i64 0,.int .i64 0,.int .i64 0]) 4 40 Tryz.underlying89 hin hz0 hz1 hz2 rfl (by decide) _ _ _ rfl (HR5.out.alloc _) ⟨wc.heap.size,0,none⟩ 1 1 (zG ⟨⟨#[]⟩,0,0,0⟩) rfl rfl ?c1 ?c2 ?c3 ?c4 ?c5 ?_)
       case c1=>exact zhM wc
       case c2=>intro u hu;simp only[zG,List.mem_cons,List.not_mem_nil,or_false] at hu;rcases hu with rfl|rfl|rfl|rfl<;>rfl
       case c3=>unfold maxLen;omega
       case c4=>omega
       case c5=>simp;omega
       intro v7 w7 hown7 hgrow7 _ hloc7;have hb7:zB w w7:=(HB5.out.alloc hszc _).grown hgrow7 (by simp;omega) (fun k hk=>(HR5.out.lt k hk).1);have HK7:Hid (Blk w7 bx 101 #[.int .i64 X.kind,.string X.name,.int .i64 X.a,.int .i64 X.b,.int .i64 X.c,.string X.other,.slice ra TL rc]):=(HK5.out.alloc _).kept hgrow7 (fun e=>qE HR5.out HK5.out (by decide) e.symm);obtain⟨g7,cap,CUR,CS,rfl,hBg,hnc,hHG,hHINS,hHCELL,hHONE,hHMN,hHFIT⟩:=zjd (x:=X.it) (i:=i) hi hown7;have hne:bx≠g7:=fun e=>by
        have h1:w7.heap[g7]?=_:=e▸HK7.out;rw[hHG] at h1;simp at h1
       obtain⟨I1,hI1⟩:∃I1:Nat,I1=i+1:=⟨_,rfl⟩;rw[<-hI1] at hHINS hHMN hHFIT;have hwr:IntKind.i64.wrap ((i:Int)+1)=(I1:Int):=by rw[hI1];rw[IntKind.wrap_i64];omega
       have hub:I1<=acc.length+1:=by omega
       have hubI:(I1:Int)<=(acc.length:Int)+1:=by omega
       have hI0:(0:Int)<=(I1:Int):=by omega
       have hi0I:(0:Int)<=(i:Int):=by omega
       have hiI:(i:Int)<=(acc.length:Int)+1:=by omega
       have hiI1:(i:Int)<(acc.length:Int)+1:=by omega
       have h04:0<4:=by decide
       have HG:=zH hHG;have HINS:=zH hHINS;have HCELL:=zH hHCELL;have HONE:=zH hHONE;have HMN:=zH hHMN;have HFIT:=zH hHFIT;have HRP:Hid (R=xu acc X.it i):=by show _=_;rw[HRE.out,HPI.out]
       have HL2:Hid ((xu acc X.it i).length=acc.length+1):=KD _ _ _;have hBd:Hid (zB w w7.drew):=hb7.drew;have HNE:=zH hne;clear hown7 hgrow7 hloc7 hb7 HRE HPI HR5 HK5 HB5 HB6 HR3 HKN HB3 hHG hHINS hHCELL hHONE hHMN hHFIT hne
       by_cases hend:i<acc.length
       ·have hc1:¬cap=I1:=by omega
        have hc2:¬cap=i:=by omega
        have hpos:Hid (∀(dp sp:Option Addr),dp=some ⟨g7,I1*4,none⟩->sp=some ⟨g7,i*4,none⟩->0<CS.length->dp=some ⟨g7,I1*4,none⟩/\∃ad:Addr,sp=some ad/\∀j v,CS[j]?=some v->w7.drew.cell? (ad.add j)=some v):=fun _ _ h1 h2 _=>⟨h1,⟨g7,i*4,none⟩,h2,fun j v hv=>by have h7:=HCELL.out j v hv;show w7.cell? (Addr.add ⟨g7,i*4,none⟩ j)=_;rw[<-h7,yd]⟩;clear hI1;go_wp2_with fail;go_region_held_law (fun _=>True) (exact trivial) (first|(refine Jb rfl (.tmp 63) (.tmp 66) 89 89 rfl 93 Tryz.underlying89 4 Ji (some ⟨g7,I1*4,none⟩) (some ⟨g7,i*4,none⟩) (acc.length+1-I1) (cap-I1) (acc.length+1-i) (cap-i) rfl rfl g7 (I1*4) CUR 93 HG.out CS HMN.out h04 (hpos.out _ _ rfl rfl) HFIT.out HONE.out w.heap.size w hBd.out hBg ?_;intro w8 u8 hg8 ho8 hb8));obtain⟨⟨d0,d1,d2,d3,q0,q1,q2,q3⟩,qf,qr⟩:=HINS.out w8 hg8.out;have f0:=qf (i*4);have f1:=qf (i*4+1);have f2:=qf (i*4+2);have f3:=qf (i*4+3);have HK8:Blk w8 bx 101 #[.int .i64 X.kind,.string X.name,.int .i64 X.a,.int .i64 X.b,.int .i64 X.c,.string X.other,.slice ra TL rc]:=(ho8.out bx HNE.out).trans HK7.out;have c1:_=some (Value.string X.name):=HK8.cell 1;have c2:_=some (Value.int .i64 X.a):=HK8.cell 2;have c3:_=some (Value.int .i64 X.b):=HK8.cell 3;have c4:_=some (Value.int .i64 X.c):=HK8.cell 4;have HQR:=zH qr;have HB9:=zH ((((hb8.setCell (p:=⟨g7,i*4,none⟩) hBg (.string X.name)).setCell (p:=⟨g7,i*4+1,none⟩) hBg (.int .i64 X.a)).setCell (p:=⟨g7,i*4+2,none⟩) hBg (.int .i64 X.b)).setCell (p:=⟨g7,i*4+3,none⟩) hBg (.int .i64 X.c));clear qf qr HK8 hg8 ho8 hb8 HINS HG HMN HFIT HONE HCELL hpos hBd HK7;go_wp2;go_roundw
        case rel=>exact⟨k+1,by omega,by go_num,by rw[HR.out,HRP.out,HL2.out];exact HQR.out,HB9.out⟩
        case measure=>simp[intOf];omega
       ·have hpos:Hid (∀(dp sp:Option Addr),0<CS.length->dp=some ⟨g7,I1*4,none⟩/\∃ad:Addr,sp=some ad/\∀j v,CS[j]?=some v->w7.drew.cell? (ad.add j)=some v):=fun _ _ h=>by have h7:=HMN.out;rw[h7] at h;exact absurd h (by show ¬0<min _ _*4;omega)
        have hc2:¬cap=i:=by omega
        by_cases hcc:cap=I1
        ·subst hcc;have HMN0:Hid (CS.length=Nat.min (acc.length+1-i) 0*4):=by show _=_;rw[HMN.out,show acc.length+1-cap=0 by omega]
         clear hI1;go_wp2_with fail;go_region_held_law (fun _=>True) (exact trivial) (first|(refine Jb rfl (.tmp 63) (.tmp 66) 89 89 rfl 93 Tryz.underlying89 4 Ji _ _ _ _ _ _ rfl rfl g7 (cap*4) CUR 93 HG.out CS HMN0.out h04 (hpos.out _ _) HFIT.out HONE.out w.heap.size w hBd.out hBg ?_;intro w8 u8 hg8 ho8 hb8));obtain⟨⟨d0,d1,d2,d3,q0,q1,q2,q3⟩,qf,qr⟩:=HINS.out w8 hg8.out;have f0:=qf (i*4);have f1:=qf (i*4+1);have f2:=qf (i*4+2);have f3:=qf (i*4+3);have HK8:Blk w8 bx 101 #[.int .i64 X.kind,.string X.name,.int .i64 X.a,.int .i64 X.b,.int .i64 X.c,.string X.other,.slice ra TL rc]:=(ho8.out bx HNE.out).trans HK7.out;have c1:_=some (Value.string X.name):=HK8.cell 1;have c2:_=some (Value.int .i64 X.a):=HK8.cell 2;have c3:_=some (Value.int .i64 X.b):=HK8.cell 3;have c4:_=some (Value.int .i64 X.c):=HK8.cell 4;have HQR:=zH qr;have HB9:=zH ((((hb8.setCell (p:=⟨g7,i*4,none⟩) hBg (.string X.name)).setCell (p:=⟨g7,i*4+1,none⟩) hBg (.int .i64 X.a)).setCell (p:=⟨g7,i*4+2,none⟩) hBg (.int .i64 X.b)).setCell (p:=⟨g7,i*4+3,none⟩) hBg (.int .i64 X.c));clear qf qr HK8 hg8 ho8 hb8 HINS HG HMN HFIT HONE HCELL hpos hBd HK7;go_wp2;go_roundw
         case rel=>exact⟨k+1,by omega,by go_num,by rw[HR.out,HRP.out,HL2.out];exact HQR.out,HB9.out⟩
         case measure=>simp[intOf];omega
        ·clear hI1;go_wp2_with fail;go_region_held_law (fun _=>True) (exact trivial) (first|(refine Jb rfl (.tmp 63) (.tmp 66) 89 89 rfl 93 Tryz.underlying89 4 Ji _ _ _ _ _ _ rfl rfl g7 (I1*4) CUR 93 HG.out CS HMN.out h04 (hpos.out _ _) HFIT.out HONE.out w.heap.size w hBd.out hBg ?_;intro w8 u8 hg8 ho8 hb8));obtain⟨⟨d0,d1,d2,d3,q0,q1,q2,q3⟩,qf,qr⟩:=HINS.out w8 hg8.out;have f0:=qf (i*4);have f1:=qf (i*4+1);have f2:=qf (i*4+2);have f3:=qf (i*4+3);have HK8:Blk w8 bx 101 #[.int .i64 X.kind,.string X.name,.int .i64 X.a,.int .i64 X.b,.int .i64 X.c,.string X.other,.slice ra TL rc]:=(ho8.out bx HNE.out).trans HK7.out;have c1:_=some (Value.string X.name):=HK8.cell 1;have c2:_=some (Value.int .i64 X.a):=HK8.cell 2;have c3:_=some (Value.int .i64 X.b):=HK8.cell 3;have c4:_=some (Value.int .i64 X.c):=HK8.cell 4;have HQR:=zH qr;have HB9:=zH ((((hb8.setCell (p:=⟨g7,i*4,none⟩) hBg (.string X.name)).setCell (p:=⟨g7,i*4+1,none⟩) hBg (.int .i64 X.a)).setCell (p:=⟨g7,i*4+2,none⟩) hBg (.int .i64 X.b)).setCell (p:=⟨g7,i*4+3,none⟩) hBg (.int .i64 X.c));clear qf qr HK8 hg8 ho8 hb8 HINS HG HMN HFIT HONE HCELL hpos hBd HK7;go_wp2;go_roundw
         case rel=>exact⟨k+1,by omega,by go_num,by rw[HR.out,HRP.out,HL2.out];exact HQR.out,HB9.out⟩
         case measure=>simp[intOf];omega
   ·have hRe:R=acc:=by rw[HSTK.out,if_neg hk1]
    have HR7:Hid (W3.ownsRow w.heap.size 93 4 (.slice oa acc.length oc) R.length (zh R)):=by
     show World.ownsRow _ _ _ _ _ _ _;rw[hRe];exact HR3.out
    clear HSTK hRe HR3;go_wp2;go_roundw
    case rel=>exact⟨k+1,by omega,by go_num,by rw[HR.out];exact HR7.out,HB3.out⟩
    case measure=>simp[intOf];omega
  ·have hni:¬(k:Int)<(ls.length:Int):=by omega
   obtain rfl:k=ls.length:=by omega
   have HROW:=zH hrow;have HBW:=zH hbw;clear hrow hbw HST HI;go_wp2;go_ret;exact⟨_,rfl,by rw[<-HEN.out];exact HROW.out,HBW.out⟩
end
end Go.Proofs.YtiihalknffbjpaaGreatDoor
