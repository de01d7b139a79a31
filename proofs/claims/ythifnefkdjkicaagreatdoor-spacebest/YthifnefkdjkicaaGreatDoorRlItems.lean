import Derived.Test.YthifnefkdjkicaaGreatDoorRlAmong
set_option maxHeartbeats 8000000
set_option maxRecDepth 100000
namespace Go.Proofs.YthifnefkdjkicaaGreatDoor
section
open Go.RowKit Go.Deep Sv
theorem zkb{B:Nat}{W w7:World}{cv cv' fv:Value}{K:List (List Int)}{F:List Int}{c:List Int}{a:Option Addr}{cap:Nat}{cs:List Value}
  (hfr:W.ownsRow B 3 1 fv F.length (zm F)) (hrow:W.ownsRow B 107 1 cv K.length cs) (hck:qW 0 W cs K) (hcn:ClN K cs fv.ownBlock) (hpl:PlC cs) (hpa:PlA a)
  (hc1:c.length<=cap) (hc2:cap<=9223372036854775807) (hi:qU 0 W a c) (hN:0<c.length->∀g,(Value.slice a c.length cap).ownBlock=some g->some g≠fv.ownBlock)
  (hown:w7.ownsRow B 107 1 cv' (K.length+1) (cs++[.slice a c.length cap])) (hg:(W.alloc (.cells #[.slice a c.length cap] 107)).grownBy w7 cv.ownBlock) :
  RS B w7 cv' fv (K++[c]) F:=by
 have j:=below_new W (.cells #[.slice a c.length cap] 107);have hk:Kp 0 (W.alloc (.cells #[.slice a c.length cap] 107)) w7:=Kp.grown (ownsRow_base (zI hrow j) (Nat.zero_le _)) hg (by decide);have o:=(Kp.new (B:=0) j).trans hk;have p:=xZ (zI hfr j) hg (ZP (zI hfr j) (zI hrow j) (by decide));exact⟨⟨_,by simpa using hown,(hck.kp o).snoc hc1 hc2 (hi.kp o),hcn.snoc hck.1 hN,hpl.snoc hpa _ _⟩,p⟩
theorem zmK{B:Nat}{W w7:World}{cv fv fv':Value}{K:List (List Int)}{F:List Int}{x:Int}(hr:RS B W cv fv K F)
  (hown:w7.ownsRow B 3 1 fv' (F.length+1) (zm F++[.int .i64 x])) (hg:(W.alloc (.cells #[x] 3)).grownBy w7 fv.ownBlock) (hloc:fv'.ownBlock=fv.ownBlock\/fv'.ownBlock=some (W.alloc (.cells #[x] 3)).heap.size) :
  RS B w7 cv fv' K (F++[x]):=by
 have p:=below_new W (.cells #[x] 3);obtain⟨cs,j,q,u,C⟩:=(hr.new p).crow;have o:=(hr.new p).frow;have y:=xZ j hg (ZP j o (by decide));refine⟨⟨cs,y,q.grownN hg u,?_,C⟩,by rw[List.length_append,Z1];exact hown⟩;rcases hloc with e|e
 ·rw[e];exact u
 ·rw[e];exact ClN.new q zN
structure RR(w W:World)(cv fv iv:Value)(P:List (Int × List Int))(its:List It):Prop where
 rs:RS w.heap.size W cv fv (P.map Prod.snd) (P.map Prod.fst)
 it:W.ownsRow w.heap.size 106 4 iv its.length (zl its)
 bel:zB w W
theorem RR.new{w W W':World}{cv fv iv:Value}{P:List (Int × List Int)}{its:List It}(h:RR w W cv fv iv P its)(hb:zB W W'):RR w W' cv fv iv P its :=
 ⟨h.rs.new hb,zI h.it hb,zT h.bel hb⟩
theorem RR.cform{w W:World}{cv fv iv:Value}{P:List (Int × List Int)}{its:List It}(h:RR w W cv fv iv P its):∃a c,cv=.slice a P.length c:=by
 obtain⟨cs,h1,_⟩:=h.rs.crow;obtain⟨a,c,e,_⟩:=(zD h1).form;exact⟨a,c,by simpa using e⟩
theorem RR.fform{w W:World}{cv fv iv:Value}{P:List (Int × List Int)}{its:List It}(h:RR w W cv fv iv P its):∃a c,fv=.slice a P.length c:=by
 obtain⟨a,c,e,_⟩:=(zD h.rs.frow).form;exact⟨a,c,by simpa using e⟩
theorem RR.appC{w W w7:World}{cv cv' fv iv:Value}{P:List (Int × List Int)}{its:List It}{c:List Int}{a:Option Addr}{cap:Nat}{cs:List Value}(h:RR w W cv fv iv P its)
  (hrow:W.ownsRow w.heap.size 107 1 cv P.length cs) (hck:qW 0 W cs (P.map Prod.snd)) (hcn:ClN (P.map Prod.snd) cs fv.ownBlock) (hpl:PlC cs) (hpa:PlA a)
  (hc1:c.length<=cap) (hc2:cap<=9223372036854775807) (hi:qU 0 W a c) (hN:0<c.length->∀g,(Value.slice a c.length cap).ownBlock=some g->some g≠fv.ownBlock)
  (hown:w7.ownsRow w.heap.size 107 1 cv' (P.length+1) (cs++[.slice a c.length cap])) (hg:(W.alloc (.cells #[.slice a c.length cap] 107)).grownBy w7 cv.ownBlock) :
  RS w.heap.size w7 cv' fv (P.map Prod.snd++[c]) (P.map Prod.fst)/\w7.ownsRow w.heap.size 106 4 iv its.length (zl its)/\zB w w7:=by
 have j:=below_new W (.cells #[.slice a c.length cap] 107);have hrow':W.ownsRow w.heap.size 107 1 cv (P.map Prod.snd).length cs:=by simpa using hrow
 refine⟨zkb (by simpa using h.rs.frow) hrow' hck hcn hpl hpa hc1 hc2 hi hN (by simpa using hown) hg,xZ (zI h.it j) hg (ZP (zI h.it j) (zI hrow j) (by decide)),?_⟩;exact(zL h.bel).grown hg (by simp;have:=h.bel.size;omega) (fun k hk=>(hrow.lt k hk).1)
theorem RR.appF{w W w7:World}{cv fv fv' iv:Value}{K:List (List Int)}{F:List Int}{P:List (Int × List Int)}{c:List Int}{its:List It}{x:Int}(hr:RS w.heap.size W cv fv K F)(hK:K=P.map Prod.snd++[c])(hF:F=P.map Prod.fst)
  (hit:W.ownsRow w.heap.size 106 4 iv its.length (zl its)) (hb:zB w W)
  (hown:w7.ownsRow w.heap.size 3 1 fv' (F.length+1) (zm F++[.int .i64 x])) (hg:(W.alloc (.cells #[x] 3)).grownBy w7 fv.ownBlock) (hloc:fv'.ownBlock=fv.ownBlock\/fv'.ownBlock=some (W.alloc (.cells #[x] 3)).heap.size) :
  RR w w7 cv fv' iv (P++[(x,c)]) its:=by
 have j:=below_new W (.cells #[x] 3);refine⟨?_,xZ (zI hit j) hg (ZP (zI hit j) (zI hr.frow j) (by decide)),(zL hb).grown hg (by simp;have:=hb.size;omega) (fun k hk=>(hr.frow.lt k hk).1)⟩;have:=zmK hr hown hg hloc;rw[hK,hF] at this;simpa using this
theorem zb4(W:World)(x y:Int):qU 0 (W.alloc (.cells #[x,y] 3)) (some W.heap.size) [x,y]:=fun i hi=>by
 have hB:=Blk.new W 3 #[x,y];refine⟨_,rfl,hB.lt,Or.inr ⟨_,_,hB⟩,?_⟩;rw[ZK,Nat.zero_add,hB.cell i]
 match i,hi with
 |0,_=>rfl
 |1,_=>rfl
end
section
open Sv
theorem zpP:Tryz.prog.follows .mixedOrders=true:=by kernel_rfl
theorem zdk:∀a b:List UInt8,Op.bytesLess a b=decide (Lib.compareBytes a b<0)
 |[],[]=>by rfl
 |[],_ :: _=>by rfl
 |_ :: _,[]=>by rfl
 |x :: a,y :: b=>by
  have ih:=zdk a b;unfold Op.bytesLess Lib.compareBytes
  by_cases h1:x<y
  ·simp[h1]
  ·by_cases h2:y<x
   ·have h3:x≠y:=fun e=>by subst e;exact h1 h2
    simp[h1,h2,h3]
   ·have h3:x=y:=Ky h1 h2;subst h3;simp[ih]
theorem zan(x y:ByteArray):Op.bytesLess x.toList y.toList=decide (Lib.compareBytes x.data.toList y.data.toList<0):=by
 rw[ByteArray.toList_eq,ByteArray.toList_eq];exact zdk _ _
end
section
open Go.RowKit Sv
theorem zk0{P:Program}(w:World)(dT sT ty elem:TypeId)(g o dLen dCap:Nat)(a:Addr)(sLen sCap k:Nat)(cur:Array Value)(t:TypeId)(cs:List Value)
  (hu:P.underlying dT=some (.slice elem)) (hs:(P.info? elem).map (·.size)=some k)
  (hg:w.heap[g]?=some (.cells cur t (0,0))) (hn:cs.length=Nat.min sLen dLen*k)
  (hsrc:∀j v,cs[j]?=some v->w.cell? (a.add j)=some v) (hfit:o+cs.length<=cur.size) (h1:∀v∈cs,v.oneCell'=true) :
  (Builtin.copy_ #[dT,sT] ty #[.slice (some ⟨g,o,none⟩) dLen dCap,.slice (some a) sLen sCap]).run P w =
   .ok (goInt (Nat.min sLen dLen)) (w.setRow g (cur.toList.take o++cs++cur.toList.drop (o+cs.length)).toArray):=by
 have hl:=run_loadCells_list (P:=P) w a cs hsrc;have p:=run_storeCells_at P g o t cs 0 cur w hg (by simpa using hfit) h1;cases hq:P.info? elem with
 |none=>simp[hq] at hs
 |some i =>
  have hi:i.size=k:=by simpa[hq] using hs
  simp[Builtin.copy_,run_underlying hu,Builtin.lenOf,Builtin.firstCells,sizeOf,typeInfo,hq,hi,<-hn,hl,p]
theorem zgM{P:Program}(w:World)(dT sT ty elem:TypeId)(d a:Option Addr)(dLen dCap sLen sCap k:Nat)(hu:P.underlying dT=some (.slice elem))(hs:(P.info? elem).map (·.size)=some k)(hn:Nat.min sLen dLen=0) :
  (Builtin.copy_ #[dT,sT] ty #[.slice d dLen dCap,.slice a sLen sCap]).run P w=.ok (goInt 0) w:=by
 have hl:∀a,(loadCells a 0).run P w=.ok #[] w:=fun a=>run_loadCells_list (P:=P) w a [] (fun j v h=>by simp at h);cases hq:P.info? elem with
 |none=>simp[hq] at hs
 |some i =>cases d<;>cases a<;>simp[Builtin.copy_,run_underlying hu,Builtin.lenOf,Builtin.firstCells,sizeOf,typeInfo,hq,hn,storeCells,hl]
theorem zat{P:Program}{ops:Array Oper}{o:Oper}{a:Act}{w:World}{K:Act->World->Prop}{Q:Exit->Act->World->Prop}{E:Prop}(hgd:o.guard=none)(d s:Operand)(dT sT:TypeId)
  (ho:o.op=.call { callee:=.builtin .copy,args:=#[d,s],argTypes:=#[dT,sT] }) (elem:TypeId) (hu:P.underlying dT=some (.slice elem)) (k:Nat) (hsz:(P.info? elem).map (·.size)=some k)
  (dp sp:Option Addr) (dLen dCap sLen sCap:Nat) (hd:a.eval d=.slice dp dLen dCap) (hs:a.eval s=.slice sp sLen sCap)
  (g off:Nat) (cur:List Value) (t:TypeId) (hg:w.heap[g]?=some (.cells cur.toArray t (0,0))) (cs:List Value) (hn:cs.length=Nat.min sLen dLen*k) (hk:0<k)
  (hpos:0<cs.length->dp=some ⟨g,off,none⟩/\∃ad,sp=some ad/\∀j v,cs[j]?=some v->w.cell? (ad.add j)=some v)
  (hfit:off+cs.length<=cur.length) (h1:∀v∈cs,v.oneCell'=true) (B:Nat) (w0:World) (hb:RowKit.Below B w0 w) (hBg:B<=g)
  (h:∀w' v,RowKit.Hid (w'.heap[g]?=some (.cells (splice cur off cs).toArray t (0,0)))->RowKit.Hid (∀k,k≠g->w'.heap[k]?=w.heap[k]?)->RowKit.Below B w0 w'->K (a.put o.dst v) w') :
  if Region.wanted o (yielded ops a.tmps)=true then Oper.wp P o a w K Q else E:=by
 have hw:Region.wanted o (yielded ops a.tmps)=true:=by simp[Region.wanted,hgd]
 rw[zA2 hw]
 by_cases h0:cs.length=0
 ·obtain rfl:cs=[]:=List.eq_nil_of_length_eq_zero h0;have hz:Nat.min sLen dLen=0:=by
   rcases Nat.mul_eq_zero.1 (show Nat.min sLen dLen*k=0 by simpa using hn.symm) with e|e
   ·exact e
   ·omega
  have p:=zgM (P:=P) w dT sT o.type elem dp sp dLen dCap sLen sCap k hu hsz hz;unfold Oper.wp;simp[execOp,ho,resolve,invoke,builtin,hd,hs,p,Result.andThen];exact h w _ (show _=_ by simpa[splice] using hg) (fun _ _=>rfl) hb
 ·obtain⟨rfl,ad,rfl,q⟩:=hpos (by omega);have p:=zk0 (P:=P) w dT sT o.type elem g off dLen dCap ad sLen sCap k cur.toArray t cs hu hsz hg hn q (by simpa using hfit) h1;unfold Oper.wp;simp[execOp,ho,resolve,invoke,builtin,hd,hs,p,Result.andThen];exact h _ _ (show _=_ by simpa[splice] using setRow_heap w g _ _ t _ hg) (fun k hk=>setRow_other w g k _ hk) (below_setRow hb hBg _)
theorem znF(l:List It)(i:Nat):zl (l.take i)=(zl l).take (i*4):=by
 rcases Nat.le_total i l.length with h|h
 ·have e:zl l=zl (l.take i)++zl (l.drop i):=by rw[<-Jk,List.take_append_drop]
  have hl:(zl (l.take i)).length=i*4:=by rw[xF,List.length_take];omega
  rw[e,<-hl,List.take_left]
 ·rw[List.take_of_length_le h,List.take_of_length_le (by rw[xF];omega)]
theorem zpR(l:List It)(i:Nat):zl (l.drop i)=(zl l).drop (i*4):=by
 rcases Nat.le_total i l.length with h|h
 ·have e:zl l=zl (l.take i)++zl (l.drop i):=by rw[<-Jk,List.take_append_drop]
  have hl:(zl (l.take i)).length=i*4:=by rw[xF,List.length_take];omega
  rw[e,<-hl,List.drop_left]
 ·rw[List.drop_of_length_le h,List.drop_of_length_le (by rw[xF];omega)];rfl
theorem zmP{L:List Value}{p:Nat}(h:p+4<=L.length)(a b c d:Value):(((L.set p a).set (p+1) b).set (p+2) c).set (p+3) d=L.take p++([a,b,c,d]++L.drop (p+4)):=by
 apply List.ext_getElem?;intro j;simp only[List.getElem?_set,List.getElem?_append,List.length_take,List.length_set,List.getElem?_take,List.length_cons,List.length_nil,List.getElem?_drop];rcases Nat.lt_trichotomy j p with q|q|q
 ·rw[zA1 (by omega),zA1 (by omega),zA1 (by omega),zA1 (by omega),zA2 (by omega),zA2 q]
 ·subst q;rw[zA1 (by omega),zA1 (by omega),zA1 (by omega),zA2 rfl,zA2 (by omega),zA1 (by omega),zA2 (by omega)];simp[show j-min j L.length=0 by omega]
 ·by_cases q1:j=p+1
  ·subst q1;rw[zA1 (by omega),zA1 (by omega),zA2 rfl,zA2 (by omega),zA1 (by omega),zA2 (by omega)];simp[show p+1-min p L.length=1 by omega]
  ·by_cases q2:j=p+2
   ·subst q2;rw[zA1 (by omega),zA2 rfl,zA2 (by omega),zA1 (by omega),zA2 (by omega)];simp[show p+2-min p L.length=2 by omega]
   ·by_cases q3:j=p+3
    ·subst q3;rw[zA2 rfl,zA2 (by omega),zA1 (by omega),zA2 (by omega)];simp[show p+3-min p L.length=3 by omega]
    ·rw[zA1 (by omega),zA1 (by omega),zA1 (by omega),zA1 (by omega),zA1 (by omega),zA1 (by omega)];congr 1;omega
theorem zgq{acc:List It}{x z:It}{i cap:Nat}{cur:List Value}(hi:i<=acc.length)(hsz:cur.length=cap*4)(hnc:acc.length+1<=cap)(htk:cur.take ((acc.length+1)*4)=zl acc++zX z) :
  ((((splice cur ((i+1)*4) ((zl acc).drop (i*4))).set (i*4) (.string x.name)).set (i*4+1) (.int .i64 x.a)).set (i*4+2) (.int .i64 x.b)).set (i*4+3) (.int .i64 x.c)=zl (xH acc x i)++cur.drop ((acc.length+1)*4):=by
 have hL:(zl acc).length=acc.length*4:=xF acc;have hD:((zl acc).drop (i*4)).length=(acc.length-i)*4:=by rw[List.length_drop,hL];omega
 have j:cur=zl acc++(zX z++cur.drop ((acc.length+1)*4)):=by
  have:=List.take_append_drop ((acc.length+1)*4) cur;rw[htk] at this;rw[<-List.append_assoc];exact this.symm
 have o:(splice cur ((i+1)*4) ((zl acc).drop (i*4))).length=cur.length:=length_splice _ _ _ (by rw[hD,hsz];omega);rw[zmP (by rw[o,hsz];omega)];have e1:(splice cur ((i+1)*4) ((zl acc).drop (i*4))).take (i*4)=zl (acc.take i):=by
  unfold splice;rw[List.take_append_of_le_length (by rw[List.length_take,hsz];omega),List.take_take,show min (i*4) ((i+1)*4)=i*4 by omega];rw[j,List.take_append_of_le_length (by rw[hL];omega),znF]
 have e2:(splice cur ((i+1)*4) ((zl acc).drop (i*4))).drop (i*4+4)=zl (acc.drop i)++cur.drop ((acc.length+1)*4):=by
  unfold splice;have hl:(cur.take ((i+1)*4)).length=i*4+4:=by rw[List.length_take,hsz];omega
  rw[<-hl,List.drop_left,zpR,hD];congr 2;omega
 rw[e1,e2];unfold xH;rw[Jk];show _=(_++zl (x :: acc.drop i))++_;rw[show zl (x :: acc.drop i)=zX x++zl (acc.drop i) from rfl];simp[zX]
theorem zgP{w3:World}{B i:Nat}{acc:List It}{x z:It}{v':Value}(hi:i<=acc.length)(hown:w3.ownsRow B 106 4 v' (acc.length+1) (zl acc++zX z)) :
  ∃(g cap:Nat) (cur CS:List Value),v'=.slice (some g) (acc.length+1) cap/\B<=g/\acc.length+1<=cap/\w3.heap[g]?=some (.cells cur.toArray 106 (0,0)) /\
   (∀w4:World,w4.heap[g]?=some (.cells (splice cur ((i+1)*4) CS).toArray 106 (0,0))->(∃c0 c1 c2 c3,w4.cell? ⟨g,i*4,none⟩=some c0/\w4.cell? ⟨g,i*4+1,none⟩=some c1/\w4.cell? ⟨g,i*4+2,none⟩=some c2/\w4.cell? ⟨g,i*4+3,none⟩=some c3)/\(∀j,w4.frozen? ⟨g,j,none⟩=false)/\((((w4.setCell ⟨g,i*4,none⟩ (.string x.name)).setCell ⟨g,i*4+1,none⟩ (.int .i64 x.a)).setCell ⟨g,i*4+2,none⟩ (.int .i64 x.b)).setCell ⟨g,i*4+3,none⟩ (.int .i64 x.c)).ownsRow B 106 4 (.slice (some g) (acc.length+1) cap) (acc.length+1) (zl (xH acc x i))) /\
   (∀j v,CS[j]?=some v->w3.cell? ⟨g,i*4+j,none⟩=some v)/\(∀v∈CS,v.oneCell'=true)/\CS.length=Nat.min (acc.length+1-i) (acc.length+1-(i+1))*4/\(i+1)*4+CS.length<=cur.length:=by
 rcases hown.2 with ⟨_,K⟩|⟨g,cap,cur,rfl,C,hg,q,M,R,J⟩
 ·exact absurd K (by simp)
 have hL:(zl acc).length=acc.length*4:=xF acc;have hD:((zl acc).drop (i*4)).length=(acc.length-i)*4:=by rw[List.length_drop,hL];omega
 have hsz':cur.toList.length=cap*4:=by simpa using R
 refine⟨g,cap,cur.toList,(zl acc).drop (i*4),rfl,C,q,by simpa using hg,fun w4 h4=>?_,fun j v hv=>?_,fun v hv=>?_,?_,?_⟩
 ·have o:(splice cur.toList ((i+1)*4) ((zl acc).drop (i*4))).length=cap*4:=by rw[length_splice _ _ _ (by rw[hD,hsz'];omega),hsz']
  have hB:Blk w4 g 106 (splice cur.toList ((i+1)*4) ((zl acc).drop (i*4))).toArray:=h4;have p:∀j,j<cap*4->∃u,w4.cell? ⟨g,j,none⟩=some u:=fun j hj=>by
   rw[hB.cell];exact⟨(splice cur.toList ((i+1)*4) ((zl acc).drop (i*4)))[j]'(by rw[o];exact hj),by rw[List.getElem?_toArray,List.getElem?_eq_getElem]⟩
  obtain⟨c0,h0⟩:=p (i*4) (by omega);obtain⟨c1,h1⟩:=p (i*4+1) (by omega);obtain⟨c2,h2⟩:=p (i*4+2) (by omega);obtain⟨c3,h3⟩:=p (i*4+3) (by omega);refine⟨⟨c0,c1,c2,c3,h0,h1,h2,h3⟩,fun j=>hB.frozen j,?_⟩;have hF:=(((hB.set (i:=i*4) (v:=.string x.name)).set (i:=i*4+1) (v:=.int .i64 x.a)).set (i:=i*4+2) (v:=.int .i64 x.b)).set (i:=i*4+3) (v:=.int .i64 x.c);refine⟨by rw[xF,zbG],Or.inr ⟨g,cap,_,rfl,C,hF,q,M,by simp[o],?_⟩⟩;simp only[List.setIfInBounds_toArray];rw[zgq hi hsz' q (by simpa using J)];have:(zl (xH acc x i)).length=(acc.length+1)*4:=by rw[xF,zbG]
  rw[<-this,List.take_left]
 ·have hj:i*4+j<acc.length*4:=by have:=(List.getElem?_eq_some_iff.1 hv).1;rw[hD] at this;omega
  rw[(show Blk w3 g 106 cur from hg).cell,<-hv,List.getElem?_drop,<-Array.getElem?_toList,show cur.toList[i*4+j]?=(cur.toList.take ((acc.length+1)*4))[i*4+j]? by rw[List.getElem?_take,zA2 (by omega)],J,List.getElem?_append_left (by rw[hL];omega)]
 ·have hm:=List.mem_of_mem_drop hv;unfold zl at hm;obtain⟨y,_,hy⟩:=List.mem_flatMap.1 hm;simp only[zX,List.mem_cons,List.not_mem_nil,or_false] at hy;rcases hy with rfl|rfl|rfl|rfl<;>rfl
 ·rw[hD];show _=min _ _*4;omega
 ·rw[hD,hsz'];omega
end
section
open Go.RowKit Sv
theorem zlZ(a b c d e f:Int)(w:World) :
  zC 44 #[.agg #[a,b,c],.agg #[d,e,f]] w fun r w'=>r=.returned (.int .i64 (q8 (tI a b c) (tI d e f) 3))/\zB w w':=by
 have kv:=(Blk.new w 81 #[a,b,c]).alloc (.cells #[d,e,f] 81);have kw:=Blk.new (w.alloc (.cells #[a,b,c] 81)) 81 #[d,e,f];rw[zA0] at kw;have J:zB w ((w.alloc (.cells #[a,b,c] 81)).alloc (.cells #[d,e,f] 81)):=((Below.refl _ w).alloc zN _).alloc (by simp only[zA0];omega) _;have C:=zH J;have HX:Hid (∀W,Below ((w.alloc (.cells #[a,b,c] 81)).alloc (.cells #[d,e,f] 81)).heap.size ((w.alloc (.cells #[a,b,c] 81)).alloc (.cells #[d,e,f] 81)) W->∀j,j<3->W.cell? ⟨w.heap.size,j,none⟩=some (.int .i64 (tI a b c j))/\W.cell? ⟨w.heap.size+1,j,none⟩=some (.int .i64 (tI d e f j))):=fun W hb j hj=>by
  rw[(kv.below hb kv.lt).cell j,(kw.below hb kw.lt).cell j]
  match j,hj with
  |0,_=>exact⟨rfl,rfl⟩
  |1,_=>exact⟨rfl,rfl⟩
  |2,_=>exact⟨rfl,rfl⟩
 clear kv kw J;go_enter Tryz.func44,Tryz.ntmps44;go_wp2_with fail;generalize (w.alloc (.cells #[a,b,c] 81)).alloc (.cells #[d,e,f] 81)=W0 at *;go_loopw [6] (fun iV wr=>∃k:Nat,k<=3/\iV=.int .i64 k/\q8 (tI a b c) (tI d e f) 3=q8 (tI a b c) (tI d e f) (3-k)/\zB W0 wr) (fun iV _=>3-(intOf iV).toNat)
 case atStart=>exact⟨0,by omega,rfl,rfl,Below.refl _ _⟩
 case round =>
  obtain⟨k,hk,rfl,M,K⟩:=hrel;have HE:=zH M;have o:=zH K;clear M K
  by_cases hlt:k<3
  ·have q:=fun (n:Nat)=>HX.out (wr.drewN n) ⟨o.out.os,o.out.tape,o.out.output,o.out.size,o.out.block⟩ k hlt;obtain⟨c0,c1⟩:=HX.out wr o.out k hlt;have HS:Hid (q8 (tI a b c) (tI d e f) (3-k)=if qP (tI a b c k) (tI d e f k)≠0 then qP (tI a b c k) (tI d e f k) else q8 (tI a b c) (tI d e f) (3-(k+1))):=by
    show _=_
    match k,hlt with
    |0,_=>rfl
    |1,_=>rfl
    |2,_=>rfl
   have y:=zH q;clear q;generalize tI a b c k=X at *;generalize tI d e f k=Y at *;have u:Hid (∀n,zB W0 (wr.drewN n)):=fun n=>⟨o.out.os,o.out.tape,o.out.output,o.out.size,o.out.block⟩
   by_cases h1:X<Y
   ·have HC:Hid (qP X Y=-1):=by show _=_;unfold qP;rw[zA2 h1]
    go_wp2_with fail;go_quiet (fail);go_wp2;go_ret;exact⟨by rw[HE.out,HS.out,HC.out];rfl,C.out.trans ((u.out _).mono C.out.size)⟩
   ·by_cases h2:Y<X
    ·have HC:Hid (qP X Y=1):=by show _=_;unfold qP;rw[zA1 h1,zA2 h2]
     go_wp2_with fail;go_quiet (fail);have d0:=(y.out nq).1;have d1:=(y.out nq).2;have p:=zH (u.out nq);clear c0 c1 u y;generalize wr.drewN nq=W9 at *;go_wp2_with fail;go_quiet (fail);have u:Hid (∀n,zB W0 (W9.drewN n)):=fun n=>⟨p.out.os,p.out.tape,p.out.output,p.out.size,p.out.block⟩;go_wp2;go_ret;exact⟨by rw[HE.out,HS.out,HC.out];rfl,C.out.trans ((u.out _).mono C.out.size)⟩
    ·have HC:Hid (qP X Y=0):=by show _=_;unfold qP;rw[zA1 h1,zA1 h2]
     go_wp2_with fail;go_quiet (fail);have d0:=(y.out nq).1;have d1:=(y.out nq).2;have p:=zH (u.out nq);clear c0 c1 u y;generalize wr.drewN nq=W9 at *;go_wp2_with fail;go_quiet (fail);have u:Hid (∀n,zB W0 (W9.drewN n)):=fun n=>⟨p.out.os,p.out.tape,p.out.output,p.out.size,p.out.block⟩;go_wp2;go_roundw
     case rel=>exact⟨k+1,by omega,by go_num,by rw[HE.out,HS.out,HC.out,zA1 (by simp)],u.out _⟩
     case measure=>simp[intOf];omega
  ·obtain rfl:k=3:=by omega
   go_wp2;go_ret;exact⟨by rw[HE.out];rfl,zT C.out o.out⟩
end
section
open Go.RowKit Go.Deep Go.Sort Sv
theorem zja:(Tryz.prog.info? 106).map (fun i=>(i.zero,i.size,i.bytes))=some (some (.agg #[.string ⟨#[]⟩,(0:Int),(0:Int),(0:Int)]),4,40):=by kernel_rfl
theorem zaF:(Tryz.prog.info? 106).map (·.size)=some 4:=by kernel_rfl
theorem zjp(ls:List Ln):∀(k:Nat) (acc:List It),k<ls.length->qC (ls.take (k+1)) acc=if (ls.getD k default).kind=1 then xH (qC (ls.take k) acc) (ls.getD k default).it (yv (qC (ls.take k) acc) (ls.getD k default).it (qC (ls.take k) acc).length) else qC (ls.take k) acc:=by
 induction ls with
 |nil=>intro k acc h;simp at h
 |cons y r ih =>
  intro k acc h;cases k with
  |zero =>show qC [y] acc=_;rw[List.take_zero];show qC [y] acc=if y.kind=1 then xH acc y.it (yv acc y.it acc.length) else acc;rw[qC];split<;>rfl
  |succ k =>
   have hk:k<r.length:=by simpa using h
   show qC (y :: r.take (k+1)) acc=_;rw[qC];simp only[List.take_succ_cons,List.getD_cons_succ]
   by_cases hy:y.kind=1
   ·rw[zA2 hy,ih k _ hk,qC,zA2 hy]
   ·rw[zA1 hy,ih k _ hk,qC,zA1 hy]
theorem zhg(ls:List Ln):∀j:List It,(qC ls j).length<=j.length+ls.length:=by
 intro j;rw[(Jn ls j).length_eq,List.length_append];unfold yD;have:=List.length_filter_le (fun x:Ln=>decide (x.kind=1)) ls;simp;omega
theorem zlz(w:World):∀(j:Nat) (u:Value),(zX ⟨⟨#[]⟩,0,0,0⟩)[j]?=some u->(w.alloc (.cells #[.string ⟨#[]⟩,(0:Int),(0:Int),(0:Int)] 106)).cell? (Addr.add w.heap.size j)=some u:=by
 intro j u hu;have hB:=Blk.new w 106 #[.string ⟨#[]⟩,(0:Int),(0:Int),(0:Int)];rw[ZK,Nat.zero_add,hB.cell j,<-hu]
 match j with
 |0=>rfl
 |1=>rfl
 |2=>rfl
 |3=>rfl
 |j+4=>simp[zX]
theorem zeB(ls:List Ln)(v:Value)(w:World)(h:RLs w v ls)(hl:ls.length<=100000) :
  zC 20 #[v] w fun e w'=>∃v',e=.returned v'/\w'.ownsRow w.heap.size 106 4 v' (qC ls []).length (zl (qC ls []))/\zB w w':=by
 obtain⟨va,vc,rfl⟩:∃va vc,v=.slice va ls.length vc:=by obtain⟨vs,_,h2⟩:=h;obtain⟨a,c,e,_⟩:=h2.form;exact⟨a,c,e⟩
 obtain⟨i0,bd,bk,bl,bm⟩:=info_parts zja;have HI:=zH h;have aH:=zH (fun k hk=>zjp ls k [] hk);have aS:Hid (∀k,(qC (ls.take k) []).length<=100000):=fun k=>by have:=zhg (ls.take k) [];simp at this;omega
 have aV:Hid (qC (ls.take 0) []=[]):=by show _=_;rfl
 have aR:Hid (qC (ls.take ls.length) []=qC ls []):=by show _=_;rw[List.take_length]
 clear h;go_enter Tryz.func20,Tryz.ntmps20;go_wp2_with fail;go_loopw [3,9] (fun oV kV wr=>∃(k:Nat),k<=ls.length/\kV=.int .i64 k/\wr.ownsRow w.heap.size 106 4 oV (qC (ls.take k) []).length (zl (qC (ls.take k) []))/\zB w wr) (fun _ kV _=>ls.length-(intOf kV).toNat)
 case atStart=>exact⟨0,Nat.zero_le _,rfl,by rw[aV.out];exact World.ownsRow_nil _ _ _ _,Below.refl _ _⟩
 case round =>
  obtain⟨k,hk,rfl,a1,ah⟩:=hrel;obtain⟨oa,oc,rfl,-⟩:=(zD a1).form;have b6:=aS.out k
  by_cases hlt:k<ls.length
  ·obtain⟨g,b3,ra,rc,e1,hg,bf,bg,c0,c1,c2,c3,c4,c5,c6⟩:=(HI.out.below ah zN).at k hlt;simp at e1;obtain⟨rfl,rfl⟩:=e1;have bb:(0:Int)<=(k:Int):=by omega
   have bc:(k:Int)<(ls.length:Int):=by omega
   have aK:=aH.out k hlt;generalize ls.getD k default=X at *;generalize qC (ls.take k) []=acc at *;obtain⟨R,hR⟩:∃R,qC (ls.take (k+1)) []=R:=⟨_,rfl⟩;rw[hR] at aK;have HR:=zH hR;have a2:=zH aK;have hA:zB wr (wr.alloc (.cells #[X.kind,X.name,X.a,X.b,X.c,X.other,.slice ra (tp X.rng).length rc] 84)):=zF.alloc zN _;have a3:=zH (Blk.new wr 84 #[X.kind,X.name,X.a,X.b,X.c,X.other,.slice ra (tp X.rng).length rc]);have au:=zH (zI a1 hA);have ay:Hid (zB w (wr.alloc (.cells #[X.kind,X.name,X.a,X.b,X.c,X.other,.slice ra (tp X.rng).length rc] 84))):=zT ah hA;have bh:=ah.size;clear a1 ah hA aK hR bf bg aH aR aV aS HI;generalize (tp X.rng).length=TL at *;go_upto_region 5 with fail;generalize b5:wr.alloc (.cells #[X.kind,X.name,X.a,X.b,X.c,X.other,.slice ra TL rc] 84)=W3 at *;clear b5 c0 c1 c2 c3 c4 c5 c6;have c0:_=some (Value.int .i64 X.kind):=a3.out.cell 0;have c1:_=some (Value.string X.name):=a3.out.cell 1;have c2:_=some (Value.int .i64 X.a):=a3.out.cell 2;have c3:_=some (Value.int .i64 X.b):=a3.out.cell 3;have c4:_=some (Value.int .i64 X.c):=a3.out.cell 4
   by_cases hk1:X.kind=1
   ·have ao:R=xH acc X.it (yv acc X.it acc.length):=by rw[a2.out,zA2 hk1]
    have aU:=zH ao;clear ao a2;rw[hk1] at c0;rw[hk1];clear hk1;generalize wr.heap.size=bx at *;go_wp2_with fail;go_loopw [6] (fun iV wz=>∃i:Nat,i<=acc.length/\iV=.int .i64 i/\yv acc X.it acc.length=yv acc X.it i/\zB W3 wz) (fun iV _=>(intOf iV).toNat)
    case atStart=>exact⟨acc.length,Nat.le_refl _,rfl,rfl,Below.refl _ _⟩
    case round =>
     obtain⟨i,hi,rfl,hp,aq⟩:=hrel;have HP:=zH hp;have aP:=zH aq;have aE:=zH (zI au.out aq);have aa:=zH (a3.out.below aq a3.out.lt);have aN:Hid (zB w wr):=zT ay.out aq;clear c0 c1 c2 c3 c4 hp aq;have c1:_=some (Value.string X.name):=aa.out.cell 1;have c2:_=some (Value.int .i64 X.a):=aa.out.cell 2;have c3:_=some (Value.int .i64 X.b):=aa.out.cell 3;have c4:_=some (Value.int .i64 X.c):=aa.out.cell 4;obtain⟨D,hD⟩:∃D:Bool,D=decide (0<i/\qb X.it (acc.getD (i-1) default)<0):=⟨_,rfl⟩;have HD:=zH hD;clear hD;go_upto_region 7 with fail;go_cut [53] from 18 to 55 (fun c wx=>c=.bool D/\zB wr wx)
     case first =>
      by_cases hi0:0<i
      ·obtain⟨j,hj⟩:∃j,j+1=i:=⟨i-1,by omega⟩;have hD:=HD.out;rw[show i-1=j by omega] at hD;obtain⟨g2,b4,e2,bA,y0,y1,y2,y3⟩:=(show yd wr (.slice oa acc.length oc) acc from zD aE.out).at j (by omega);simp at e2;obtain⟨rfl,rfl⟩:=e2;have aX:(0:Int)<(i:Int):=by omega
       have be:IntKind.i64.wrap ((i:Int)-1)=(j:Int):=by rw[show (i:Int)-1=(j:Int) by omega,IntKind.wrap_i64];omega
       have bB:(0:Int)<=(j:Int):=by omega
       have bC:(j:Int)<(acc.length:Int):=by omega
       have am:D=decide (qb X.it (acc.getD j default)<0):=by rw[hD];simp[hi0]
       clear hD HD hj;generalize acc.getD j default=Y at *
       by_cases hnm:Y.name=X.name
       ·have e1:(Y.name.toList==X.name.toList)=true:=by rw[hnm];simp
        have e2:Op.bytesLess Y.name.toList X.name.toList=false:=by
         rw[zan,hnm];refine decide_eq_false ?_;have:=YW X.name.data.toList X.name.data.toList;omega
        have ae:D=decide (q8 (tI Y.a Y.b Y.c) (tI X.a X.b X.c) 3<0):=by
         rw[am];unfold qb;rw[zA2 (show X.it.name.toList=Y.name.toList by rw[hnm];rfl)];rfl
        have aQ:Hid (∀d os,zC 44 #[.agg #[Y.a,Y.b,Y.c],.agg #[X.a,X.b,X.c]] (grow (redrawn wr d) os) fun e bv=>e=.returned (.int .i64 (q8 (tI Y.a Y.b Y.c) (tI X.a X.b X.c) 3))/\∃p:Regrown,bv=grow (redrawn wr p.d) p.os):=fun d os=>Calls.regrown_of (zlZ _ _ _ _ _ _ _);have b0:=zH ae;have bn:=cell_regrown c1;have bo:=cell_regrown c2;have bp:=cell_regrown c3;have bq:=cell_regrown c4;have br:=cell_regrown y0;have bs:=cell_regrown y1;have bt:=cell_regrown y2;have bu:=cell_regrown y3;clear c1 c2 c3 c4 y0 y1 y2 y3 am ae hnm;generalize q8 (tI Y.a Y.b Y.c) (tI X.a X.b X.c) 3=CM at *;refine wp_region_quiet_below zpP (by kernel_rfl) ?_
        repeat(quiet_step (first|(go_at_call 44;exact aQ.out _ _)))
        refine wpQuiet_nil ?_;intro _ bj;obtain⟨⟨dq,aY⟩,aM⟩:=bj;subst aM;have b7:=zH (below_regrown wr dq aY);clear bn bo bp bq br bs bt bu aQ;generalize grow (redrawn wr dq) aY=wq at *;go_wp2;go_meet
        case rel=>exact⟨by rw[b0.out],b7.out⟩
       ·have e1:(Y.name.toList==X.name.toList)=false:=by rw[beq_eq_false_iff_ne];exact fun e=>hnm (Zb e)
        have ae:D=decide (Lib.compareBytes X.name.data.toList Y.name.data.toList<0):=by
         rw[am];unfold qb;rw[zA1 (show ¬X.it.name.toList=Y.name.toList from fun e=>hnm (Zb e.symm))];rfl
        have ha:=YW X.name.data.toList Y.name.data.toList
        by_cases hls:Lib.compareBytes Y.name.data.toList X.name.data.toList<0
        ·have e2:Op.bytesLess Y.name.toList X.name.toList=true:=by rw[zan];exact decide_eq_true hls
         have aj:Hid (D=false):=by show D=false;rw[ae];exact decide_eq_false (by omega)
         clear ae ha hls am hnm;go_quiet (fail);go_wp2;go_meet
         case rel=>exact⟨by rw[aj.out],yV zF _⟩
        ·have e2:Op.bytesLess Y.name.toList X.name.toList=false:=by rw[zan];exact decide_eq_false hls
         have aw:Lib.compareBytes Y.name.data.toList X.name.data.toList≠0:=fun e=>hnm (Zb (by rw[ByteArray.toList_eq,ByteArray.toList_eq];exact zaC _ _ e));have aj:Hid (D=true):=by show D=true;rw[ae];exact decide_eq_true (by omega)
         clear ae ha hls aw am hnm;go_quiet (fail);go_wp2;go_meet
         case rel=>exact⟨by rw[aj.out],yV zF _⟩
      ·have aj:Hid (D=false):=by show D=false;rw[HD.out];exact decide_eq_false (by omega)
       have aX:¬(0:Int)<(i:Int):=by omega
       clear HD;go_quiet (fail);go_wp2;go_meet
       case rel=>exact⟨by rw[aj.out],yV zF _⟩
     case rest =>
      obtain⟨rfl,ap⟩:=hcut;have av:=zH (zI aE.out ap);have aA:=zH (aa.out.below ap aa.out.lt);have az:Hid (zB w wc):=zT aN.out ap;have aO:Hid (zB W3 wc):=zT aP.out ap;have aL:=az.out.size;clear ap aN aP aE aa c1 c2 c3 c4;cases D with
      |true =>
       have hd:=HD.out;simp only[true_eq_decide_iff] at hd;obtain⟨j,hj⟩:∃j,j+1=i:=⟨i-1,by omega⟩;have b1:Hid (yv acc X.it acc.length=yv acc X.it j):=by
        show _=_;rw[HP.out,<-hj,yv,zA2 (by have:=hd.2;rwa [<-hj] at this)]
       have be:IntKind.i64.wrap ((i:Int)-1)=(j:Int):=by rw[show (i:Int)-1=(j:Int) by omega,IntKind.wrap_i64];omega
       have bD:j<i:=by omega
       clear hd HD HP hj;go_wp2;go_roundw
       case rel=>exact⟨j,by omega,by go_num,b1.out,aO.out⟩
       case measure=>simp[intOf];omega
      |false =>
       have aT:Hid (yv acc X.it acc.length=i):=by
        have hd:=HD.out;show _=_;rw[HP.out];cases i with
        |zero=>rfl
        |succ j =>rw[yv,zA1];intro hc;simp only[false_eq_decide_iff] at hd;exact hd ⟨by omega,hc⟩
       clear HD HP;go_wp2_with (at_builtin;refine wpList_append_own_at _ rfl _ _ 57 rfl w.heap.size 106 i0 (.agg #[.string ⟨#[]⟩,(0:Int),(0:Int),(0:Int)]) 4 40 Tryz.underlying57 bd bk bl bm rfl (by decide) _ _ _ rfl (av.out.alloc _) wc.heap.size 1 1 (zX ⟨⟨#[]⟩,0,0,0⟩) rfl rfl ?c1 ?c2 ?c3 ?c4 ?c5 ?_)
       case c1=>exact zlz wc
       case c2=>intro u hu;simp only[zX,List.mem_cons,List.not_mem_nil,or_false] at hu;rcases hu with rfl|rfl|rfl|rfl<;>rfl
       case c3=>unfold maxLen;omega
       case c4=>omega
       case c5=>simp;omega
       intro v7 w7 a9 y _ ar;have aW:zB w w7:=(az.out.alloc aL _).grown y (by simp;omega) (fun k hk=>(av.out.lt k hk).1);have ab:Hid (Blk w7 bx 84 #[X.kind,X.name,X.a,X.b,X.c,X.other,.slice ra TL rc]):=(aA.out.alloc _).kept y (fun e=>Xo av.out aA.out (by decide) e.symm);obtain⟨g7,a4,ax,CS,rfl,q,bE,aJ,a0,V,a5,af,Z⟩:=zgP (x:=X.it) (i:=i) hi a9;have aw:bx≠g7:=fun e=>by
        have h1:w7.heap[g7]?=_:=e▸ab.out;rw[aJ] at h1;simp at h1
       obtain⟨I1,an⟩:∃I1:Nat,I1=i+1:=⟨_,rfl⟩;rw[<-an] at a0 af Z;have bH:IntKind.i64.wrap ((i:Int)+1)=(I1:Int):=by rw[an];rw[IntKind.wrap_i64];omega
       have bG:I1<=acc.length+1:=by omega
       have bi:(I1:Int)<=(acc.length:Int)+1:=by omega
       have bw:(0:Int)<=(I1:Int):=by omega
       have b9:(0:Int)<=(i:Int):=by omega
       have aX:(i:Int)<=(acc.length:Int)+1:=by omega
       have ba:(i:Int)<(acc.length:Int)+1:=by omega
       have aI:0<4:=by decide
       have HG:=zH aJ;have M:=zH a0;have J:=zH V;have U:=zH a5;have ac:=zH af;have K:=zH Z;have aG:Hid (R=xH acc X.it i):=by show _=_;rw[aU.out,aT.out]
       have aB:Hid ((xH acc X.it i).length=acc.length+1):=zbG _ _ _;have ag:Hid (zB w w7.drew):=aW.drew;have aD:=zH aw;clear a9 y ar aW aU aT av aA az aO au a3 ay aJ a0 V a5 af Z aw
       by_cases hend:i<acc.length
       ·have bz:¬a4=I1:=by omega
        have b8:¬a4=i:=by omega
        have C:Hid (∀(dp sp:Option Addr),dp=some ⟨g7,I1*4,none⟩->sp=some ⟨g7,i*4,none⟩->0<CS.length->dp=some ⟨g7,I1*4,none⟩/\∃ad:Addr,sp=some ad/\∀j v,CS[j]?=some v->w7.drew.cell? (ad.add j)=some v):=fun _ _ h1 h2 _=>⟨h1,⟨g7,i*4,none⟩,h2,fun j v hv=>by have h7:=J.out j v hv;show w7.cell? (Addr.add ⟨g7,i*4,none⟩ j)=_;rw[<-h7,ZK]⟩;clear an;go_wp2_with fail;go_region_held_law (fun _=>True) (exact trivial) (first|(refine zat rfl (.tmp 63) (.tmp 66) 57 57 rfl 106 Tryz.underlying57 4 zaF (some ⟨g7,I1*4,none⟩) (some ⟨g7,i*4,none⟩) (acc.length+1-I1) (a4-I1) (acc.length+1-i) (a4-i) rfl rfl g7 (I1*4) ax 106 HG.out CS ac.out aI (C.out _ _ rfl rfl) K.out U.out w.heap.size w ag.out q ?_;intro w8 u8 a7 a8 a6));obtain⟨⟨d0,d1,d2,d3,q0,q1,q2,q3⟩,qf,qr⟩:=M.out w8 a7.out;have f0:=qf (i*4);have f1:=qf (i*4+1);have f2:=qf (i*4+2);have f3:=qf (i*4+3);have o:Blk w8 bx 84 #[X.kind,X.name,X.a,X.b,X.c,X.other,.slice ra TL rc]:=(a8.out bx aD.out).trans ab.out;have c1:_=some (Value.string X.name):=o.cell 1;have c2:_=some (Value.int .i64 X.a):=o.cell 2;have c3:_=some (Value.int .i64 X.b):=o.cell 3;have c4:_=some (Value.int .i64 X.c):=o.cell 4;have ak:=zH qr;have ai:=zH ((((a6.setCell (p:=⟨g7,i*4,none⟩) q (.string X.name)).setCell (p:=⟨g7,i*4+1,none⟩) q (.int .i64 X.a)).setCell (p:=⟨g7,i*4+2,none⟩) q (.int .i64 X.b)).setCell (p:=⟨g7,i*4+3,none⟩) q (.int .i64 X.c));clear qf qr o a7 a8 a6 M HG ac K U J C ag ab;go_wp2;go_roundw
        case rel=>exact⟨k+1,by omega,by go_num,by rw[HR.out,aG.out,aB.out];exact ak.out,ai.out⟩
        case measure=>simp[intOf];omega
       ·have C:Hid (∀(dp sp:Option Addr),0<CS.length->dp=some ⟨g7,I1*4,none⟩/\∃ad:Addr,sp=some ad/\∀j v,CS[j]?=some v->w7.drew.cell? (ad.add j)=some v):=fun _ _ h=>by have h7:=ac.out;rw[h7] at h;exact absurd h (by show ¬0<min _ _*4;omega)
        have b8:¬a4=i:=by omega
        by_cases hcc:a4=I1
        ·subst hcc;have aC:Hid (CS.length=Nat.min (acc.length+1-i) 0*4):=by show _=_;rw[ac.out,show acc.length+1-a4=0 by omega]
         clear an;go_wp2_with fail;go_region_held_law (fun _=>True) (exact trivial) (first|(refine zat rfl (.tmp 63) (.tmp 66) 57 57 rfl 106 Tryz.underlying57 4 zaF _ _ _ _ _ _ rfl rfl g7 (a4*4) ax 106 HG.out CS aC.out aI (C.out _ _) K.out U.out w.heap.size w ag.out q ?_;intro w8 u8 a7 a8 a6));obtain⟨⟨d0,d1,d2,d3,q0,q1,q2,q3⟩,qf,qr⟩:=M.out w8 a7.out;have f0:=qf (i*4);have f1:=qf (i*4+1);have f2:=qf (i*4+2);have f3:=qf (i*4+3);have o:Blk w8 bx 84 #[X.kind,X.name,X.a,X.b,X.c,X.other,.slice ra TL rc]:=(a8.out bx aD.out).trans ab.out;have c1:_=some (Value.string X.name):=o.cell 1;have c2:_=some (Value.int .i64 X.a):=o.cell 2;have c3:_=some (Value.int .i64 X.b):=o.cell 3;have c4:_=some (Value.int .i64 X.c):=o.cell 4;have ak:=zH qr;have ai:=zH ((((a6.setCell (p:=⟨g7,i*4,none⟩) q (.string X.name)).setCell (p:=⟨g7,i*4+1,none⟩) q (.int .i64 X.a)).setCell (p:=⟨g7,i*4+2,none⟩) q (.int .i64 X.b)).setCell (p:=⟨g7,i*4+3,none⟩) q (.int .i64 X.c));clear qf qr o a7 a8 a6 M HG ac K U J C ag ab;go_wp2;go_roundw
         case rel=>exact⟨k+1,by omega,by go_num,by rw[HR.out,aG.out,aB.out];exact ak.out,ai.out⟩
         case measure=>simp[intOf];omega
        ·clear an;go_wp2_with fail;go_region_held_law (fun _=>True) (exact trivial) (first|(refine zat rfl (.tmp 63) (.tmp 66) 57 57 rfl 106 Tryz.underlying57 4 zaF _ _ _ _ _ _ rfl rfl g7 (I1*4) ax 106 HG.out CS ac.out aI (C.out _ _) K.out U.out w.heap.size w ag.out q ?_;intro w8 u8 a7 a8 a6));obtain⟨⟨d0,d1,d2,d3,q0,q1,q2,q3⟩,qf,qr⟩:=M.out w8 a7.out;have f0:=qf (i*4);have f1:=qf (i*4+1);have f2:=qf (i*4+2);have f3:=qf (i*4+3);have o:Blk w8 bx 84 #[X.kind,X.name,X.a,X.b,X.c,X.other,.slice ra TL rc]:=(a8.out bx aD.out).trans ab.out;have c1:_=some (Value.string X.name):=o.cell 1;have c2:_=some (Value.int .i64 X.a):=o.cell 2;have c3:_=some (Value.int .i64 X.b):=o.cell 3;have c4:_=some (Value.int .i64 X.c):=o.cell 4;have ak:=zH qr;have ai:=zH ((((a6.setCell (p:=⟨g7,i*4,none⟩) q (.string X.name)).setCell (p:=⟨g7,i*4+1,none⟩) q (.int .i64 X.a)).setCell (p:=⟨g7,i*4+2,none⟩) q (.int .i64 X.b)).setCell (p:=⟨g7,i*4+3,none⟩) q (.int .i64 X.c));clear qf qr o a7 a8 a6 M HG ac K U J C ag ab;go_wp2;go_roundw
         case rel=>exact⟨k+1,by omega,by go_num,by rw[HR.out,aG.out,aB.out];exact ak.out,ai.out⟩
         case measure=>simp[intOf];omega
   ·have ao:R=acc:=by rw[a2.out,zA1 hk1]
    have b2:Hid (W3.ownsRow w.heap.size 106 4 (.slice oa acc.length oc) R.length (zl R)):=by
     show World.ownsRow _ _ _ _ _ _ _;rw[ao];exact au.out
    clear a2 ao au;go_wp2;go_roundw
    case rel=>exact⟨k+1,by omega,by go_num,by rw[HR.out];exact b2.out,ay.out⟩
    case measure=>simp[intOf];omega
  ·have bF:¬(k:Int)<(ls.length:Int):=by omega
   obtain rfl:k=ls.length:=by omega
   have aF:=zH a1;have aZ:=zH ah;clear a1 ah aH HI;go_wp2;go_ret;exact⟨_,rfl,by rw[<-aR.out];exact aF.out,aZ.out⟩
end
end Go.Proofs.YthifnefkdjkicaaGreatDoor
