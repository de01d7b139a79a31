import Derived.Test.YtoffdbflfikcoaaGreatDooraz
open Go.RowKit
set_option maxHeartbeats 8000000
set_option maxRecDepth 100000
namespace Go.Proofs.YtoffdbflfikcoaaGreatDoor
section
open Go.Deep Sv
theorem zmK{B:Nat}{W w7:World}{cv cv' fv:Value}{K:List (List Int)}{F:List Int}{c:List Int}{a:Option Addr}{cap:Nat}{cs:List Value}
  (hfr:W.ownsRow B 3 1 fv F.length (icells F)) (hrow:W.ownsRow B 117 1 cv K.length cs) (hck:yh 0 W cs K) (hcn:ClN K cs fv.ownBlock) (hpl:PlC cs) (hpa:PlA a)
  (hc1:c.length<=cap) (hc2:cap<=9223372036854775807) (hi:q7 0 W a c) (hN:0<c.length->∀g,(Value.slice a c.length cap).ownBlock=some g->some g≠fv.ownBlock)
  (hown:w7.ownsRow B 117 1 cv' (K.length+1) (cs++[.slice a c.length cap])) (hg:(W.alloc (.cells #[.slice a c.length cap] 117)).grownBy w7 cv.ownBlock) :
  RS B w7 cv' fv (K++[c]) F:=by
 have j:=below_new W (.cells #[.slice a c.length cap] 117);have hk:Kp 0 (W.alloc (.cells #[.slice a c.length cap] 117)) w7:=Kp.grown (ownsRow_base (zA hrow j) (zf6 _)) hg (by decide);have o:=(Kp.new (B:=0) j).trans hk;have p:=Zm (zA hfr j) hg (ZW (zA hfr j) (zA hrow j) (by decide));exact⟨⟨_,by simpa using hown,(hck.kp o).snoc hc1 hc2 (hi.kp o),hcn.snoc hck.1 hN,hpl.snoc hpa _ _⟩,p⟩
theorem zlO{B:Nat}{W w7:World}{cv fv fv':Value}{K:List (List Int)}{F:List Int}{x:Int}(hr:RS B W cv fv K F)
  (hown:w7.ownsRow B 3 1 fv' (F.length+1) (icells F++[.int .i64 x])) (hg:(W.alloc (.cells #[x] 3)).grownBy w7 fv.ownBlock) (hloc:fv'.ownBlock=fv.ownBlock\/fv'.ownBlock=some (W.alloc (.cells #[x] 3)).heap.size) :
  RS B w7 cv fv' K (F++[x]):=by
 have p:=below_new W (.cells #[x] 3);obtain⟨cs,j,q,u,C⟩:=(hr.new p).crow;have o:=(hr.new p).frow;have y:=Zm j hg (ZW j o (by decide));refine⟨⟨cs,y,q.grownN hg u,?_,C⟩,by rw[zf4,Ze];exact hown⟩;rcases hloc with e|e
 ·rw[e];exact u
 ·rw[e];exact ClN.new q zN
structure RR(w W:World)(cv fv iv:Value)(P:List (Int × List Int))(its:List It):Prop where
 rs:RS w.heap.size W cv fv (P.map Prod.snd) (P.map Prod.fst)
 it:W.ownsRow w 116 4 iv its.length (zl its)
 bel:zB w W
theorem RR.new{w W W':World}{cv fv iv:Value}{P:List (Int × List Int)}{its:List It}(h:RR w W cv fv iv P its)(hb:zB W W'):RR w W' cv fv iv P its :=
 ⟨h.rs.new hb,zA h.it hb,zT h.bel hb⟩
theorem RR.cform{w W:World}{cv fv iv:Value}{P:List (Int × List Int)}{its:List It}(h:RR w W cv fv iv P its):∃a c,cv=.slice a P.length c:=by
 obtain⟨cs,h1,_⟩:=h.rs.crow;obtain⟨a,c,e,_⟩:=(zx h1).form;exact⟨a,c,by simpa using e⟩
theorem RR.fform{w W:World}{cv fv iv:Value}{P:List (Int × List Int)}{its:List It}(h:RR w W cv fv iv P its):∃a c,fv=.slice a P.length c:=by
 obtain⟨a,c,e,_⟩:=(zx h.rs.frow).form;exact⟨a,c,by simpa using e⟩
theorem RR.appC{w W w7:World}{cv cv' fv iv:Value}{P:List (Int × List Int)}{its:List It}{c:List Int}{a:Option Addr}{cap:Nat}{cs:List Value}(h:RR w W cv fv iv P its)
  (hrow:W.ownsRow w 117 1 cv P.length cs) (hck:yh 0 W cs (P.map Prod.snd)) (hcn:ClN (P.map Prod.snd) cs fv.ownBlock) (hpl:PlC cs) (hpa:PlA a)
  (hc1:c.length<=cap) (hc2:cap<=9223372036854775807) (hi:q7 0 W a c) (hN:0<c.length->∀g,(Value.slice a c.length cap).ownBlock=some g->some g≠fv.ownBlock)
  (hown:w7.ownsRow w 117 1 cv' (P.length+1) (cs++[.slice a c.length cap])) (hg:(W.alloc (.cells #[.slice a c.length cap] 117)).grownBy w7 cv.ownBlock) :
  RS w.heap.size w7 cv' fv (P.map Prod.snd++[c]) (P.map Prod.fst)/\w7.ownsRow w 116 4 iv its.length (zl its)/\zB w w7:=by
 have j:=below_new W (.cells #[.slice a c.length cap] 117);have hrow':W.ownsRow w 117 1 cv (P.map Prod.snd).length cs:=by simpa using hrow
 refine⟨zmK (by simpa using h.rs.frow) hrow' hck hcn hpl hpa hc1 hc2 hi hN (by simpa using hown) hg,Zm (zA h.it j) hg (ZW (zA h.it j) (zA hrow j) (by decide)),?_⟩;exact(zL h.bel).grown hg (by simp;have:=h.bel.size;omega) (fun k hk=>(hrow.lt k hk).1)
theorem RR.appF{w W w7:World}{cv fv fv' iv:Value}{K:List (List Int)}{F:List Int}{P:List (Int × List Int)}{c:List Int}{its:List It}{x:Int}(hr:RS w.heap.size W cv fv K F)(hK:K=P.map Prod.snd++[c])(hF:F=P.map Prod.fst)
  (hit:W.ownsRow w 116 4 iv its.length (zl its)) (hb:zB w W)
  (hown:w7.ownsRow w 3 1 fv' (F.length+1) (icells F++[.int .i64 x])) (hg:(W.alloc (.cells #[x] 3)).grownBy w7 fv.ownBlock) (hloc:fv'.ownBlock=fv.ownBlock\/fv'.ownBlock=some (W.alloc (.cells #[x] 3)).heap.size) :
  RR w w7 cv fv' iv (P++[(x,c)]) its:=by
 have j:=below_new W (.cells #[x] 3);refine⟨?_,Zm (zA hit j) hg (ZW (zA hit j) (zA hr.frow j) (by decide)),(zL hb).grown hg (by simp;have:=hb.size;omega) (fun k hk=>(hr.frow.lt k hk).1)⟩;have:=zlO hr hown hg hloc;rw[hK,hF] at this;simpa using this
theorem zet(W:World)(x y:Int):q7 0 (W.alloc (.cells #[x,y] 3)) (some W.heap.size) [x,y]:=fun i hi=>by
 have hB:=Blk.new W 3 #[x,y];refine⟨_,rfl,hB.lt,Or.inr ⟨_,_,hB⟩,?_⟩;rw[add_plain,zrI,hB.cell i]
 match i,hi with
 |0,_=>rfl
 |1,_=>rfl
end
section
open Sv
theorem zlP:Tryz.prog.follows .mixedOrders=true:=by kernel_rfl
theorem zge:∀a b:List UInt8,Op.bytesLess a b=decide (Lib.compareBytes a b<0)
 |[],[]=>by rfl
 |[],_ :: _=>by rfl
 |_ :: _,[]=>by rfl
 |x :: a,y :: b=>by
  have ih:=zge a b;unfold Op.bytesLess Lib.compareBytes
  by_cases h1:x<y
  ·simp[h1]
  ·by_cases h2:y<x
   ·have h3:x≠y:=fun e=>by subst e;exact h1 h2
    simp[h1,h2,h3]
   ·have h3:x=y:=KW h1 h2;subst h3;simp[ih]
theorem zbJ(x y:ByteArray):Op.bytesLess x.toList y.toList=decide (Lib.compareBytes x.data.toList y.data.toList<0):=by
 rw[ByteArray.toList_eq,ByteArray.toList_eq];exact zge _ _
end
section
open Sv
theorem zlT{P:Program}(w:World)(dT sT ty elem:TypeId)(g o dLen dCap:Nat)(a:Addr)(sLen sCap k:Nat)(cur:Array Value)(t:TypeId)(cs:List Value)
  (hu:P.underlying dT=some (.slice elem)) (hs:(P.info? elem).map (·.size)=some k)
  (hg:w.heap[g]?=some (.cells cur t (0,0))) (hn:cs.length=Nat.min sLen dLen*k)
  (hsrc:∀j v,cs[j]?=some v->w.cell? (a.add j)=some v) (hfit:o+cs.length<=cur.size) (h1:∀v∈cs,v.oneCell'=true) :
  (Builtin.copy_ #[dT,sT] ty #[.slice (some ⟨g,o,none⟩) dLen dCap,.slice (some a) sLen sCap]).run P w =
   .ok (goInt (Nat.min sLen dLen)) (w.setRow g (cur.toList.take o++cs++cur.toList.drop (o+cs.length)).toArray):=by
 have hl:=run_loadCells_list (P:=P) w a cs hsrc;have p:=run_storeCells_at P g o t cs 0 cur w hg (by simpa using hfit) h1;cases hq:P.info? elem with
 |none=>simp[hq] at hs
 |some i =>
  have hi:i.size=k:=by simpa[hq] using hs
  simp[Builtin.copy_,run_underlying hu,Builtin.lenOf,Builtin.firstCells,sizeOf,typeInfo,hq,hi,<-hn,hl,p]
theorem zpw{P:Program}(w:World)(dT sT ty elem:TypeId)(d a:Option Addr)(dLen dCap sLen sCap k:Nat)(hu:P.underlying dT=some (.slice elem))(hs:(P.info? elem).map (·.size)=some k)(hn:Nat.min sLen dLen=0) :
  (Builtin.copy_ #[dT,sT] ty #[.slice d dLen dCap,.slice a sLen sCap]).run P w=.ok (goInt 0) w:=by
 have hl:∀a,(loadCells a 0).run P w=.ok #[] w:=fun a=>run_loadCells_list (P:=P) w a [] (fun j v h=>by simp at h);cases hq:P.info? elem with
 |none=>simp[hq] at hs
 |some i =>cases d<;>cases a<;>simp[Builtin.copy_,run_underlying hu,Builtin.lenOf,Builtin.firstCells,sizeOf,typeInfo,hq,hn,storeCells,hl]
theorem zcm{P:Program}{ops:Array Oper}{o:Oper}{a:Act}{w:World}{K:Act->World->Prop}{Q:Exit->Act->World->Prop}{E:Prop}(hgd:o.guard=none)(d s:Operand)(dT sT:TypeId)
  (ho:o.op=.call { callee:=.builtin .copy,args:=#[d,s],argTypes:=#[dT,sT] }) (elem:TypeId) (hu:P.underlying dT=some (.slice elem)) (k:Nat) (hsz:(P.info? elem).map (·.size)=some k)
  (dp sp:Option Addr) (dLen dCap sLen sCap:Nat) (hd:a.eval d=.slice dp dLen dCap) (hs:a.eval s=.slice sp sLen sCap)
  (g off:Nat) (cur:List Value) (t:TypeId) (hg:w.heap[g]?=some (.cells cur.toArray t (0,0))) (cs:List Value) (hn:cs.length=Nat.min sLen dLen*k) (hk:0<k)
  (hpos:0<cs.length->dp=some ⟨g,off,none⟩/\∃ad,sp=some ad/\∀j v,cs[j]?=some v->w.cell? (ad.add j)=some v)
  (hfit:off+cs.length<=cur.length) (h1:∀v∈cs,v.oneCell'=true) (B:Nat) (w0:World) (hb:RowKit.Below B w0 w) (hBg:B<=g)
  (h:∀w' v,RowKit.Hid (w'.heap[g]?=some (.cells (splice cur off cs).toArray t (0,0)))->RowKit.Hid (∀k,k≠g->w'.heap[k]?=w.heap[k]?)->RowKit.Below B w0 w'->K (a.put o.dst v) w') :
  if Region.wanted o (yielded ops a.tmps)=true then Oper.wp P o a w K Q else E:=by
 have hw:Region.wanted o (yielded ops a.tmps)=true:=by simp[Region.wanted,hgd]
 rw[zc3 hw]
 by_cases h0:cs.length=0
 ·obtain rfl:cs=[]:=ztv h0;have hz:Nat.min sLen dLen=0:=by
   rcases Nat.mul_eq_zero.1 (show Nat.min sLen dLen*k=0 by simpa using hn.symm) with e|e
   ·exact e
   ·omega
  have p:=zpw (P:=P) w dT sT o.type elem dp sp dLen dCap sLen sCap k hu hsz hz;unfold Oper.wp;simp[execOp,ho,resolve,invoke,builtin,hd,hs,p,Result.andThen];exact h w _ (show _=_ by simpa[splice] using hg) (fun _ _=>rfl) hb
 ·obtain⟨rfl,ad,rfl,q⟩:=hpos (by omega);have p:=zlT (P:=P) w dT sT o.type elem g off dLen dCap ad sLen sCap k cur.toArray t cs hu hsz hg hn q (by simpa using hfit) h1;unfold Oper.wp;simp[execOp,ho,resolve,invoke,builtin,hd,hs,p,Result.andThen];exact h _ _ (show _=_ by simpa[splice] using setRow_heap w g _ _ t _ hg) (fun k hk=>setRow_other w g k _ hk) (below_setRow hb hBg _)
theorem zic(l:List It)(i:Nat):zl (l.take i)=(zl l).take (i*4):=by
 rcases Nat.le_total i l.length with h|h
 ·have e:zl l=zl (l.take i)++zl (l.drop i):=by rw[<-JM,zrN]
  have hl:(zl (l.take i)).length=i*4:=by rw[xQ,zrj];omega
  rw[e,<-hl,List.take_left]
 ·rw[ztx h,ztx (by rw[xQ];omega)]
theorem zo2(l:List It)(i:Nat):zl (l.drop i)=(zl l).drop (i*4):=by
 rcases Nat.le_total i l.length with h|h
 ·have e:zl l=zl (l.take i)++zl (l.drop i):=by rw[<-JM,zrN]
  have hl:(zl (l.take i)).length=i*4:=by rw[xQ,zrj];omega
  rw[e,<-hl,List.drop_left]
 ·rw[zty h,zty (by rw[xQ];omega)];rfl
theorem zhH{L:List Value}{p:Nat}(h:p+4<=L.length)(a b c d:Value):(((L.set p a).set (p+1) b).set (p+2) c).set (p+3) d=L.take p++([a,b,c,d]++L.drop (p+4)):=by
 apply zuw;intro j;simp only[ztI,List.getElem?_append,zrj,zr3,zrP,zrb,zrY,zth];rcases Nat.lt_trichotomy j p with q|q|q
 ·rw[zc2 (by omega),zc2 (by omega),zc2 (by omega),zc2 (by omega),zc3 (by omega),zc3 q]
 ·subst q;rw[zc2 (by omega),zc2 (by omega),zc2 (by omega),zc3 rfl,zc3 (by omega),zc2 (by omega),zc3 (by omega)];simp[show j-min j L.length=0 by omega]
 ·by_cases q1:j=p+1
  ·subst q1;rw[zc2 (by omega),zc2 (by omega),zc3 rfl,zc3 (by omega),zc2 (by omega),zc3 (by omega)];simp[show p+1-min p L.length=1 by omega]
  ·by_cases q2:j=p+2
   ·subst q2;rw[zc2 (by omega),zc3 rfl,zc3 (by omega),zc2 (by omega),zc3 (by omega)];simp[show p+2-min p L.length=2 by omega]
   ·by_cases q3:j=p+3
    ·subst q3;rw[zc3 rfl,zc3 (by omega),zc2 (by omega),zc3 (by omega)];simp[show p+3-min p L.length=3 by omega]
    ·rw[zc2 (by omega),zc2 (by omega),zc2 (by omega),zc2 (by omega),zc2 (by omega),zc2 (by omega)];congr 1;omega
theorem zhj{acc:List It}{x z:It}{i cap:Nat}{cur:List Value}(hi:i<=acc.length)(hsz:cur.length=cap*4)(hnc:acc.length+1<=cap)(htk:cur.take ((acc.length+1)*4)=zl acc++zQ z) :
  ((((splice cur ((i+1)*4) ((zl acc).drop (i*4))).set (i*4) (.string x.name)).set (i*4+1) (.int .i64 x.a)).set (i*4+2) (.int .i64 x.b)).set (i*4+3) (.int .i64 x.c)=zl (xU acc x i)++cur.drop ((acc.length+1)*4):=by
 have hL:(zl acc).length=acc.length*4:=xQ acc;have hD:((zl acc).drop (i*4)).length=(acc.length-i)*4:=by rw[zrK,hL];omega
 have j:cur=zl acc++(zQ z++cur.drop ((acc.length+1)*4)):=by
  have:=zrN ((acc.length+1)*4) cur;rw[htk] at this;rw[<-zrH];exact this.symm
 have o:(splice cur ((i+1)*4) ((zl acc).drop (i*4))).length=cur.length:=length_splice _ _ _ (by rw[hD,hsz];omega);rw[zhH (by rw[o,hsz];omega)];have e1:(splice cur ((i+1)*4) ((zl acc).drop (i*4))).take (i*4)=zl (acc.take i):=by
  unfold splice;rw[List.take_append_of_le_length (by rw[zrj,hsz];omega),List.take_take,show min (i*4) ((i+1)*4)=i*4 by omega];rw[j,List.take_append_of_le_length (by rw[hL];omega),zic]
 have e2:(splice cur ((i+1)*4) ((zl acc).drop (i*4))).drop (i*4+4)=zl (acc.drop i)++cur.drop ((acc.length+1)*4):=by
  unfold splice;have hl:(cur.take ((i+1)*4)).length=i*4+4:=by rw[zrj,hsz];omega
  rw[<-hl,List.drop_left,zo2,hD];congr 2;omega
 rw[e1,e2];unfold xU;rw[JM];show _=(_++zl (x :: acc.drop i))++_;rw[show zl (x :: acc.drop i)=zQ x++zl (acc.drop i) from rfl];simp[zQ]
theorem ziL{w3:World}{B i:Nat}{acc:List It}{x z:It}{v':Value}(hi:i<=acc.length)(hown:w3.ownsRow B 116 4 v' (acc.length+1) (zl acc++zQ z)) :
  ∃(g cap:Nat) (cur CS:List Value),v'=.slice (some g) (acc.length+1) cap/\B<=g/\acc.length+1<=cap/\w3.heap[g]?=some (.cells cur.toArray 116 (0,0)) /\
   (∀w4:World,w4.heap[g]?=some (.cells (splice cur ((i+1)*4) CS).toArray 116 (0,0))->(∃c0 c1 c2 c3,w4.cell? ⟨g,i*4,none⟩=some c0/\w4.cell? ⟨g,i*4+1,none⟩=some c1/\w4.cell? ⟨g,i*4+2,none⟩=some c2/\w4.cell? ⟨g,i*4+3,none⟩=some c3)/\(∀j,w4.frozen? ⟨g,j,none⟩=false)/\((((w4.setCell ⟨g,i*4,none⟩ (.string x.name)).setCell ⟨g,i*4+1,none⟩ (.int .i64 x.a)).setCell ⟨g,i*4+2,none⟩ (.int .i64 x.b)).setCell ⟨g,i*4+3,none⟩ (.int .i64 x.c)).ownsRow B 116 4 (.slice (some g) (acc.length+1) cap) (acc.length+1) (zl (xU acc x i))) /\
   (∀j v,CS[j]?=some v->w3.cell? ⟨g,i*4+j,none⟩=some v)/\(∀v∈CS,v.oneCell'=true)/\CS.length=Nat.min (acc.length+1-i) (acc.length+1-(i+1))*4/\(i+1)*4+CS.length<=cur.length:=by
 rcases hown.2 with ⟨_,K⟩|⟨g,cap,cur,rfl,C,hg,q,M,R,J⟩
 ·exact absurd K (by simp)
 have hL:(zl acc).length=acc.length*4:=xQ acc;have hD:((zl acc).drop (i*4)).length=(acc.length-i)*4:=by rw[zrK,hL];omega
 have hsz':cur.toList.length=cap*4:=by simpa using R
 refine⟨g,cap,cur.toList,(zl acc).drop (i*4),rfl,C,q,by simpa using hg,fun w4 h4=>?_,fun j v hv=>?_,fun v hv=>?_,?_,?_⟩
 ·have o:(splice cur.toList ((i+1)*4) ((zl acc).drop (i*4))).length=cap*4:=by rw[length_splice _ _ _ (by rw[hD,hsz'];omega),hsz']
  have hB:Blk w4 g 116 (splice cur.toList ((i+1)*4) ((zl acc).drop (i*4))).toArray:=h4;have p:∀j,j<cap*4->∃u,w4.cell? ⟨g,j,none⟩=some u:=fun j hj=>by
   rw[hB.cell];exact⟨(splice cur.toList ((i+1)*4) ((zl acc).drop (i*4)))[j]'(by rw[o];exact hj),by rw[zti,zc5]⟩
  obtain⟨c0,h0⟩:=p (i*4) (by omega);obtain⟨c1,h1⟩:=p (i*4+1) (by omega);obtain⟨c2,h2⟩:=p (i*4+2) (by omega);obtain⟨c3,h3⟩:=p (i*4+3) (by omega);refine⟨⟨c0,c1,c2,c3,h0,h1,h2,h3⟩,fun j=>hB.frozen j,?_⟩;have hF:=(((hB.set (i:=i*4) (v:=.string x.name)).set (i:=i*4+1) (v:=.int .i64 x.a)).set (i:=i*4+2) (v:=.int .i64 x.b)).set (i:=i*4+3) (v:=.int .i64 x.c);refine⟨by rw[xQ,zaY],Or.inr ⟨g,cap,_,rfl,C,hF,q,M,by simp[o],?_⟩⟩;simp only[zf3];rw[zhj hi hsz' q (by simpa using J)];have:(zl (xU acc x i)).length=(acc.length+1)*4:=by rw[xQ,zaY]
  rw[<-this,List.take_left]
 ·have hj:i*4+j<acc.length*4:=by have:=(zrJ.1 hv).1;rw[hD] at this;omega
  rw[(show Blk w3 g 116 cur from hg).cell,<-hv,zth,<-ztD,show cur.toList[i*4+j]?=(cur.toList.take ((acc.length+1)*4))[i*4+j]? by rw[zrP,zc3 (by omega)],J,zrk (by rw[hL];omega)]
 ·have hm:=zuU hv;unfold zl at hm;obtain⟨y,_,hy⟩:=ztR.1 hm;simp only[zQ,zrw,zuQ,zu8] at hy;rcases hy with rfl|rfl|rfl|rfl<;>rfl
 ·rw[hD];show _=min _ _*4;omega
 ·rw[hD,hsz'];omega
end
section
open Sv
theorem znO(a b c d e f:Int)(w:World) :
  zC 41 #[.agg #[a,b,c],.agg #[d,e,f]] w fun r w'=>r=.returned (.int .i64 (yd (tI a b c) (tI d e f) 3))/\zB w w':=by
 have kv:=(Blk.new w 91 #[a,b,c]).alloc (.cells #[d,e,f] 91);have kw:=Blk.new (w.alloc (.cells #[a,b,c] 91)) 91 #[d,e,f];rw[zc1] at kw;have J:zB w ((w.alloc (.cells #[a,b,c] 91)).alloc (.cells #[d,e,f] 91)):=((zf0 _ w).alloc zN _).alloc (by simp only[zc1];omega) _;have C:=zH J;have HX:Hid (∀W,Below ((w.alloc (.cells #[a,b,c] 91)).alloc (.cells #[d,e,f] 91)).heap.size ((w.alloc (.cells #[a,b,c] 91)).alloc (.cells #[d,e,f] 91)) W->∀j,j<3->W.cell? ⟨w.heap.size,j,none⟩=some (.int .i64 (tI a b c j))/\W.cell? ⟨w.heap.size+1,j,none⟩=some (.int .i64 (tI d e f j))):=fun W hb j hj=>by
  rw[(kv.below hb kv.lt).cell j,(kw.below hb kw.lt).cell j]
  match j,hj with
  |0,_=>exact⟨rfl,rfl⟩
  |1,_=>exact⟨rfl,rfl⟩
  |2,_=>exact⟨rfl,rfl⟩
 clear kv kw J;go_enter Tryz.func41,Tryz.ntmps41;go_wp2_with fail;generalize (w.alloc (.cells #[a,b,c] 91)).alloc (.cells #[d,e,f] 91)=W0 at *;go_loopw [6] (fun iV wr=>∃k:Nat,k<=3/\iV=.int .i64 k/\yd (tI a b c) (tI d e f) 3=yd (tI a b c) (tI d e f) (3-k)/\zB W0 wr) (fun iV _=>3-(intOf iV).toNat)
 case atStart=>exact⟨0,by omega,rfl,rfl,zf0 _ _⟩
 case round =>
  obtain⟨k,hk,rfl,M,K⟩:=hrel;have HE:=zH M;have o:=zH K;clear M K
  by_cases hlt:k<3
  ·have q:=fun (n:Nat)=>HX.out (wr.drewN n) ⟨o.out.os,o.out.tape,o.out.output,o.out.size,o.out.block⟩ k hlt;obtain⟨c0,c1⟩:=HX.out wr o.out k hlt;have HS:Hid (yd (tI a b c) (tI d e f) (3-k)=if qU (tI a b c k) (tI d e f k)≠0 then qU (tI a b c k) (tI d e f k) else yd (tI a b c) (tI d e f) (3-(k+1))):=by
    show _=_
    match k,hlt with
    |0,_=>rfl
    |1,_=>rfl
    |2,_=>rfl
   have y:=zH q;clear q;generalize tI a b c k=X at *;generalize tI d e f k=Y at *;have u:Hid (∀n,zB W0 (wr.drewN n)):=fun n=>⟨o.out.os,o.out.tape,o.out.output,o.out.size,o.out.block⟩
   by_cases h1:X<Y
   ·have HC:Hid (qU X Y=-1):=by show _=_;unfold qU;rw[zc3 h1]
    go_wp2_with fail;go_quiet (fail);go_wp2;go_ret;exact⟨by rw[HE.out,HS.out,HC.out];rfl,C.out.trans ((u.out _).mono C.out.size)⟩
   ·by_cases h2:Y<X
    ·have HC:Hid (qU X Y=1):=by show _=_;unfold qU;rw[zc2 h1,zc3 h2]
     go_wp2_with fail;go_quiet (fail);have d0:=(y.out nq).1;have d1:=(y.out nq).2;have p:=zH (u.out nq);clear c0 c1 u y;generalize wr.drewN nq=W9 at *;go_wp2_with fail;go_quiet (fail);have u:Hid (∀n,zB W0 (W9.drewN n)):=fun n=>⟨p.out.os,p.out.tape,p.out.output,p.out.size,p.out.block⟩;go_wp2;go_ret;exact⟨by rw[HE.out,HS.out,HC.out];rfl,C.out.trans ((u.out _).mono C.out.size)⟩
    ·have HC:Hid (qU X Y=0):=by show _=_;unfold qU;rw[zc2 h1,zc2 h2]
     go_wp2_with fail;go_quiet (fail);have d0:=(y.out nq).1;have d1:=(y.out nq).2;have p:=zH (u.out nq);clear c0 c1 u y;generalize wr.drewN nq=W9 at *;go_wp2_with fail;go_quiet (fail);have u:Hid (∀n,zB W0 (W9.drewN n)):=fun n=>⟨p.out.os,p.out.tape,p.out.output,p.out.size,p.out.block⟩;go_wp2;go_roundw
     case rel=>exact⟨k+1,by omega,by go_num,by rw[HE.out,HS.out,HC.out,zc2 (by simp)],u.out _⟩
     case measure=>simp[intOf];omega
  ·obtain rfl:k=3:=by omega
   go_wp2;go_ret;exact⟨by rw[HE.out];rfl,zT C.out o.out⟩
end
section
open Go.Deep Go.Sort Sv
theorem zn6:(Tryz.prog.info? 116).map (fun i=>(i.zero,i.size,i.bytes))=some (some (.agg #[.string ⟨#[]⟩,(0:Int),(0:Int),(0:Int)]),4,40):=by kernel_rfl
theorem zab:(Tryz.prog.info? 116).map (·.size)=some 4:=by kernel_rfl
theorem zqg(ls:List Ln):∀(k:Nat) (acc:List It),k<ls.length->qy (ls.take (k+1)) acc=if (ls.getD k default).kind=1 then xU (qy (ls.take k) acc) (ls.getD k default).it (yC (qy (ls.take k) acc) (ls.getD k default).it (qy (ls.take k) acc).length) else qy (ls.take k) acc:=by
 induction ls with
 |nil=>intro k acc h;simp at h
 |cons y r ih =>
  intro k acc h;cases k with
  |zero =>show qy [y] acc=_;rw[zvq];show qy [y] acc=if y.kind=1 then xU acc y.it (yC acc y.it acc.length) else acc;rw[qy];split<;>rfl
  |succ k =>
   have hk:k<r.length:=by simpa using h
   show qy (y :: r.take (k+1)) acc=_;rw[qy];simp only[List.take_succ_cons,List.getD_cons_succ]
   by_cases hy:y.kind=1
   ·rw[zc3 hy,ih k _ hk,qy,zc3 hy]
   ·rw[zc2 hy,ih k _ hk,qy,zc2 hy]
theorem zoQ(ls:List Ln):∀j:List It,(qy ls j).length<=j.length+ls.length:=by
 intro j;rw[(KB ls j).length_eq,zf4];unfold yL;have:=zsi (fun x:Ln=>decide (x.kind=1)) ls;simp;omega
theorem zkx(w:World):∀(j:Nat) (u:Value),(zQ ⟨⟨#[]⟩,0,0,0⟩)[j]?=some u->(w.alloc (.cells #[.string ⟨#[]⟩,(0:Int),(0:Int),(0:Int)] 116)).cell? (Addr.add w.heap.size j)=some u:=by
 intro j u hu;have hB:=Blk.new w 116 #[.string ⟨#[]⟩,(0:Int),(0:Int),(0:Int)];rw[add_plain,zrI,hB.cell j,<-hu]
 match j with
 |0=>rfl
 |1=>rfl
 |2=>rfl
 |3=>rfl
 |j+4=>simp[zQ]
theorem ze1(ls:List Ln)(v:Value)(w:World)(h:RLs w v ls)(hl:ls.length<=100000) :
  zC 18 #[v] w fun e w'=>∃v',e=.returned v'/\w'.ownsRow w 116 4 v' (qy ls []).length (zl (qy ls []))/\zB w w':=by
 obtain⟨va,vc,rfl⟩:∃va vc,v=.slice va ls.length vc:=by obtain⟨vs,_,h2⟩:=h;obtain⟨a,c,e,_⟩:=h2.form;exact⟨a,c,e⟩
 obtain⟨i0,be,bl,bm,bn⟩:=info_parts zn6;have HI:=zH h;have aI:=zH (fun k hk=>zqg ls k [] hk);have aT:Hid (∀k,(qy (ls.take k) []).length<=100000):=fun k=>by have:=zoQ (ls.take k) [];simp at this;omega
 have aW:Hid (qy (ls.take 0) []=[]):=by show _=_;rfl
 have aS:Hid (qy (ls.take ls.length) []=qy ls []):=by show _=_;rw[zrC]
 clear h;go_enter Tryz.func18,Tryz.ntmps18;go_wp2_with fail;go_loopw [3,9] (fun oV kV wr=>∃(k:Nat),k<=ls.length/\kV=.int .i64 k/\wr.ownsRow w 116 4 oV (qy (ls.take k) []).length (zl (qy (ls.take k) []))/\zB w wr) (fun _ kV _=>ls.length-(intOf kV).toNat)
 case atStart=>exact⟨0,zf6 _,rfl,by rw[aW.out];exact zrp _ _ _ _,zf0 _ _⟩
 case round =>
  obtain⟨k,hk,rfl,a1,ah⟩:=hrel;obtain⟨oa,oc,rfl,-⟩:=(zx a1).form;have b7:=aT.out k
  by_cases hlt:k<ls.length
  ·obtain⟨g,b4,ra,rc,e1,hg,bg,bh,c0,c1,c2,c3,c4,c5,c6⟩:=(HI.out.below ah zN).at k hlt;simp at e1;obtain⟨rfl,rfl⟩:=e1;have bc:(0:Int)<=(k:Int):=by omega
   have bd:(k:Int)<(ls.length:Int):=by omega
   have aL:=aI.out k hlt;generalize ls.getD k default=X at *;generalize qy (ls.take k) []=acc at *;obtain⟨R,hR⟩:∃R,qy (ls.take (k+1)) []=R:=⟨_,rfl⟩;rw[hR] at aL;have HR:=zH hR;have a2:=zH aL;have hA:zB wr (wr.alloc (.cells #[X.kind,X.name,X.a,X.b,X.c,X.other,.slice ra (tp X.rng).length rc] 94)):=zF.alloc zN _;have a3:=zH (Blk.new wr 94 #[X.kind,X.name,X.a,X.b,X.c,X.other,.slice ra (tp X.rng).length rc]);have av:=zH (zA a1 hA);have az:Hid (zB w (wr.alloc (.cells #[X.kind,X.name,X.a,X.b,X.c,X.other,.slice ra (tp X.rng).length rc] 94))):=zT ah hA;have bi:=ah.size;clear a1 ah hA aL hR bg bh aI aS aW aT HI;generalize (tp X.rng).length=TL at *;go_upto_region 5 with fail;generalize b6:wr.alloc (.cells #[X.kind,X.name,X.a,X.b,X.c,X.other,.slice ra TL rc] 94)=W3 at *;clear b6 c0 c1 c2 c3 c4 c5 c6;have c0:_=some (Value.int .i64 X.kind):=a3.out.cell 0;have c1:_=some (Value.string X.name):=a3.out.cell 1;have c2:_=some (Value.int .i64 X.a):=a3.out.cell 2;have c3:_=some (Value.int .i64 X.b):=a3.out.cell 3;have c4:_=some (Value.int .i64 X.c):=a3.out.cell 4
   by_cases hk1:X.kind=1
   ·have ao:R=xU acc X.it (yC acc X.it acc.length):=by rw[a2.out,zc3 hk1]
    have aV:=zH ao;clear ao a2;rw[hk1] at c0;rw[hk1];clear hk1;generalize wr.heap.size=bx at *;go_wp2_with fail;go_loopw [6] (fun iV wz=>∃i:Nat,i<=acc.length/\iV=.int .i64 i/\yC acc X.it acc.length=yC acc X.it i/\zB W3 wz) (fun iV _=>(intOf iV).toNat)
    case atStart=>exact⟨acc.length,zri _,rfl,rfl,zf0 _ _⟩
    case round =>
     obtain⟨i,hi,rfl,hp,ar⟩:=hrel;have HP:=zH hp;have aQ:=zH ar;have aF:=zH (zA av.out ar);have aa:=zH (a3.out.below ar a3.out.lt);have aO:Hid (zB w wr):=zT az.out ar;clear c0 c1 c2 c3 c4 hp ar;have c1:_=some (Value.string X.name):=aa.out.cell 1;have c2:_=some (Value.int .i64 X.a):=aa.out.cell 2;have c3:_=some (Value.int .i64 X.b):=aa.out.cell 3;have c4:_=some (Value.int .i64 X.c):=aa.out.cell 4;obtain⟨D,hD⟩:∃D:Bool,D=decide (0<i/\zY X.it (acc.getD (i-1) default)<0):=⟨_,rfl⟩;have HD:=zH hD;clear hD;go_upto_region 7 with fail;go_cut [53] from 18 to 55 (fun c wx=>c=.bool D/\zB wr wx)
     case first =>
      by_cases hi0:0<i
      ·obtain⟨j,hj⟩:∃j,j+1=i:=⟨i-1,by omega⟩;have hD:=HD.out;rw[show i-1=j by omega] at hD;obtain⟨g2,b5,e2,bB,y0,y1,y2,y3⟩:=(show yc wr (.slice oa acc.length oc) acc from zx aF.out).at j (by omega);simp at e2;obtain⟨rfl,rfl⟩:=e2;have aY:(0:Int)<(i:Int):=by omega
       have bf:IntKind.i64.wrap ((i:Int)-1)=(j:Int):=by rw[show (i:Int)-1=(j:Int) by omega,zrl];omega
       have bC:(0:Int)<=(j:Int):=by omega
       have bD:(j:Int)<(acc.length:Int):=by omega
       have am:D=decide (zY X.it (acc.getD j default)<0):=by rw[hD];simp[hi0]
       clear hD HD hj;generalize acc.getD j default=Y at *
       by_cases hnm:Y.name=X.name
       ·have e1:(Y.name.toList==X.name.toList)=true:=by rw[hnm];simp
        have e2:Op.bytesLess Y.name.toList X.name.toList=false:=by
         rw[zbJ,hnm];refine zf5 ?_;have:=YZ X.name.data.toList X.name.data.toList;omega
        have ae:D=decide (yd (tI Y.a Y.b Y.c) (tI X.a X.b X.c) 3<0):=by
         rw[am];unfold zY;rw[zc3 (show X.it.name.toList=Y.name.toList by rw[hnm];rfl)];rfl
        have aR:Hid (∀d os,zC 41 #[.agg #[Y.a,Y.b,Y.c],.agg #[X.a,X.b,X.c]] (grow (redrawn wr d) os) fun e bw=>e=.returned (.int .i64 (yd (tI Y.a Y.b Y.c) (tI X.a X.b X.c) 3))/\∃p:Regrown,bw=grow (redrawn wr p.d) p.os):=fun d os=>Calls.regrown_of (znO _ _ _ _ _ _ _);have b1:=zH ae;have bo:=cell_regrown c1;have bp:=cell_regrown c2;have bq:=cell_regrown c3;have br:=cell_regrown c4;have bs:=cell_regrown y0;have bt:=cell_regrown y1;have bu:=cell_regrown y2;have bv:=cell_regrown y3;clear c1 c2 c3 c4 y0 y1 y2 y3 am ae hnm;generalize yd (tI Y.a Y.b Y.c) (tI X.a X.b X.c) 3=CM at *;refine wp_region_quiet_below zlP (by kernel_rfl) ?_
        repeat(quiet_step (first|(go_at_call 41;exact aR.out _ _)))
        refine wpQuiet_nil ?_;intro _ bk;obtain⟨⟨dq,aZ⟩,aN⟩:=bk;subst aN;have b8:=zH (below_regrown wr dq aZ);clear bo bp bq br bs bt bu bv aR;generalize grow (redrawn wr dq) aZ=wq at *;go_wp2;go_meet
        case rel=>exact⟨by rw[b1.out],b8.out⟩
       ·have e1:(Y.name.toList==X.name.toList)=false:=by rw[zf2];exact fun e=>hnm (Zd e)
        have ae:D=decide (Lib.compareBytes X.name.data.toList Y.name.data.toList<0):=by
         rw[am];unfold zY;rw[zc2 (show ¬X.it.name.toList=Y.name.toList from fun e=>hnm (Zd e.symm))];rfl
        have ha:=YZ X.name.data.toList Y.name.data.toList
        by_cases hls:Lib.compareBytes Y.name.data.toList X.name.data.toList<0
        ·have e2:Op.bytesLess Y.name.toList X.name.toList=true:=by rw[zbJ];exact zq9 hls
         have aj:Hid (D=false):=by show D=false;rw[ae];exact zf5 (by omega)
         clear ae ha hls am hnm;go_quiet (fail);go_wp2;go_meet
         case rel=>exact⟨by rw[aj.out],xp zF _⟩
        ·have e2:Op.bytesLess Y.name.toList X.name.toList=false:=by rw[zbJ];exact zf5 hls
         have ax:Lib.compareBytes Y.name.data.toList X.name.data.toList≠0:=fun e=>hnm (Zd (by rw[ByteArray.toList_eq,ByteArray.toList_eq];exact zbi _ _ e));have aj:Hid (D=true):=by show D=true;rw[ae];exact zq9 (by omega)
         clear ae ha hls ax am hnm;go_quiet (fail);go_wp2;go_meet
         case rel=>exact⟨by rw[aj.out],xp zF _⟩
      ·have aj:Hid (D=false):=by show D=false;rw[HD.out];exact zf5 (by omega)
       have aY:¬(0:Int)<(i:Int):=by omega
       clear HD;go_quiet (fail);go_wp2;go_meet
       case rel=>exact⟨by rw[aj.out],xp zF _⟩
     case rest =>
      obtain⟨rfl,aq⟩:=hcut;have aw:=zH (zA aF.out aq);have aB:=zH (aa.out.below aq aa.out.lt);have aA:Hid (zB w wc):=zT aO.out aq;have aP:Hid (zB W3 wc):=zT aQ.out aq;have aM:=aA.out.size;clear aq aO aQ aF aa c1 c2 c3 c4;cases D with
      |true =>
       have hd:=HD.out;simp only[true_eq_decide_iff] at hd;obtain⟨j,hj⟩:∃j,j+1=i:=⟨i-1,by omega⟩;have b2:Hid (yC acc X.it acc.length=yC acc X.it j):=by
        show _=_;rw[HP.out,<-hj,yC,zc3 (by have:=hd.2;rwa [<-hj] at this)]
       have bf:IntKind.i64.wrap ((i:Int)-1)=(j:Int):=by rw[show (i:Int)-1=(j:Int) by omega,zrl];omega
       have bE:j<i:=by omega
       clear hd HD HP hj;go_wp2;go_roundw
       case rel=>exact⟨j,by omega,by go_num,b2.out,aP.out⟩
       case measure=>simp[intOf];omega
      |false =>
       have aU:Hid (yC acc X.it acc.length=i):=by
        have hd:=HD.out;show _=_;rw[HP.out];cases i with
        |zero=>rfl
        |succ j =>rw[yC,zc2];intro hc;simp only[false_eq_decide_iff] at hd;exact hd ⟨by omega,hc⟩
       clear HD HP;go_wp2_with (at_builtin;refine wpList_append_own_at _ rfl _ _ 62 rfl w.heap.size 116 i0 (.agg #[.string ⟨#[]⟩,(0:Int),(0:Int),(0:Int)]) 4 40 zus be bl bm bn rfl (by decide) _ _ _ rfl (aw.out.alloc _) wc.heap.size 1 1 (zQ ⟨⟨#[]⟩,0,0,0⟩) rfl rfl ?c1 ?c2 ?c3 ?c4 ?c5 ?_)
       case c1=>exact zkx wc
       case c2=>intro u hu;simp only[zQ,zrw,zuQ,zu8] at hu;rcases hu with rfl|rfl|rfl|rfl<;>rfl
       case c3=>unfold maxLen;omega
       case c4=>omega
       case c5=>simp;omega
       intro v7 w7 a9 y _ au;have aX:zB w w7:=(aA.out.alloc aM _).grown y (by simp;omega) (fun k hk=>(aw.out.lt k hk).1);have ab:Hid (Blk w7 bx 94 #[X.kind,X.name,X.a,X.b,X.c,X.other,.slice ra TL rc]):=(aB.out.alloc _).kept y (fun e=>Xx aw.out aB.out (by decide) e.symm);obtain⟨g7,a4,ay,CS,rfl,q,bF,aK,a0,V,a5,af,Z⟩:=ziL (x:=X.it) (i:=i) hi a9;have ax:bx≠g7:=fun e=>by
        have h1:w7.heap[g7]?=_:=e▸ab.out;rw[aK] at h1;simp at h1
       obtain⟨I1,an⟩:∃I1:Nat,I1=i+1:=⟨_,rfl⟩;rw[<-an] at a0 af Z;have bI:IntKind.i64.wrap ((i:Int)+1)=(I1:Int):=by rw[an];rw[zrl];omega
       have bH:I1<=acc.length+1:=by omega
       have bj:(I1:Int)<=(acc.length:Int)+1:=by omega
       have bz:(0:Int)<=(I1:Int):=by omega
       have ba:(0:Int)<=(i:Int):=by omega
       have aY:(i:Int)<=(acc.length:Int)+1:=by omega
       have bb:(i:Int)<(acc.length:Int)+1:=by omega
       have aJ:0<4:=by decide
       have HG:=zH aK;have M:=zH a0;have J:=zH V;have U:=zH a5;have ac:=zH af;have K:=zH Z;have aH:Hid (R=xU acc X.it i):=by show _=_;rw[aV.out,aU.out]
       have aC:Hid ((xU acc X.it i).length=acc.length+1):=zaY _ _ _;have ag:Hid (zB w w7.drew):=aX.drew;have aE:=zH ax;clear a9 y au aX aV aU aw aB aA aP av a3 az aK a0 V a5 af Z ax
       by_cases hend:i<acc.length
       ·have bA:¬a4=I1:=by omega
        have b9:¬a4=i:=by omega
        have C:Hid (∀(dp sp:Option Addr),dp=some ⟨g7,I1*4,none⟩->sp=some ⟨g7,i*4,none⟩->0<CS.length->dp=some ⟨g7,I1*4,none⟩/\∃ad:Addr,sp=some ad/\∀j v,CS[j]?=some v->w7.drew.cell? (ad.add j)=some v):=fun _ _ h1 h2 _=>⟨h1,⟨g7,i*4,none⟩,h2,fun j v hv=>by have h7:=J.out j v hv;show w7.cell? (Addr.add ⟨g7,i*4,none⟩ j)=_;rw[<-h7,add_plain]⟩;clear an;go_wp2_with fail;go_region_held_law (fun _=>True) (exact trivial) (first|(refine zcm rfl (.tmp 63) (.tmp 66) 62 62 rfl 116 zus 4 zab (some ⟨g7,I1*4,none⟩) (some ⟨g7,i*4,none⟩) (acc.length+1-I1) (a4-I1) (acc.length+1-i) (a4-i) rfl rfl g7 (I1*4) ay 116 HG.out CS ac.out aJ (C.out _ _ rfl rfl) K.out U.out w.heap.size w ag.out q ?_;intro w8 u8 a7 a8 a6));obtain⟨⟨d0,d1,d2,d3,q0,q1,q2,q3⟩,qf,qr⟩:=M.out w8 a7.out;have f0:=qf (i*4);have f1:=qf (i*4+1);have f2:=qf (i*4+2);have f3:=qf (i*4+3);have o:Blk w8 bx 94 #[X.kind,X.name,X.a,X.b,X.c,X.other,.slice ra TL rc]:=(a8.out bx aE.out).trans ab.out;have c1:_=some (Value.string X.name):=o.cell 1;have c2:_=some (Value.int .i64 X.a):=o.cell 2;have c3:_=some (Value.int .i64 X.b):=o.cell 3;have c4:_=some (Value.int .i64 X.c):=o.cell 4;have ak:=zH qr;have ai:=zH ((((a6.setCell (p:=⟨g7,i*4,none⟩) q (.string X.name)).setCell (p:=⟨g7,i*4+1,none⟩) q (.int .i64 X.a)).setCell (p:=⟨g7,i*4+2,none⟩) q (.int .i64 X.b)).setCell (p:=⟨g7,i*4+3,none⟩) q (.int .i64 X.c));clear qf qr o a7 a8 a6 M HG ac K U J C ag ab;go_wp2;go_roundw
        case rel=>exact⟨k+1,by omega,by go_num,by rw[HR.out,aH.out,aC.out];exact ak.out,ai.out⟩
        case measure=>simp[intOf];omega
       ·have C:Hid (∀(dp sp:Option Addr),0<CS.length->dp=some ⟨g7,I1*4,none⟩/\∃ad:Addr,sp=some ad/\∀j v,CS[j]?=some v->w7.drew.cell? (ad.add j)=some v):=fun _ _ h=>by have h7:=ac.out;rw[h7] at h;exact absurd h (by show ¬0<min _ _*4;omega)
        have b9:¬a4=i:=by omega
        by_cases hcc:a4=I1
        ·subst hcc;have aD:Hid (CS.length=Nat.min (acc.length+1-i) 0*4):=by show _=_;rw[ac.out,show acc.length+1-a4=0 by omega]
         clear an;go_wp2_with fail;go_region_held_law (fun _=>True) (exact trivial) (first|(refine zcm rfl (.tmp 63) (.tmp 66) 62 62 rfl 116 zus 4 zab _ _ _ _ _ _ rfl rfl g7 (a4*4) ay 116 HG.out CS aD.out aJ (C.out _ _) K.out U.out w.heap.size w ag.out q ?_;intro w8 u8 a7 a8 a6));obtain⟨⟨d0,d1,d2,d3,q0,q1,q2,q3⟩,qf,qr⟩:=M.out w8 a7.out;have f0:=qf (i*4);have f1:=qf (i*4+1);have f2:=qf (i*4+2);have f3:=qf (i*4+3);have o:Blk w8 bx 94 #[X.kind,X.name,X.a,X.b,X.c,X.other,.slice ra TL rc]:=(a8.out bx aE.out).trans ab.out;have c1:_=some (Value.string X.name):=o.cell 1;have c2:_=some (Value.int .i64 X.a):=o.cell 2;have c3:_=some (Value.int .i64 X.b):=o.cell 3;have c4:_=some (Value.int .i64 X.c):=o.cell 4;have ak:=zH qr;have ai:=zH ((((a6.setCell (p:=⟨g7,i*4,none⟩) q (.string X.name)).setCell (p:=⟨g7,i*4+1,none⟩) q (.int .i64 X.a)).setCell (p:=⟨g7,i*4+2,none⟩) q (.int .i64 X.b)).setCell (p:=⟨g7,i*4+3,none⟩) q (.int .i64 X.c));clear qf qr o a7 a8 a6 M HG ac K U J C ag ab;go_wp2;go_roundw
         case rel=>exact⟨k+1,by omega,by go_num,by rw[HR.out,aH.out,aC.out];exact ak.out,ai.out⟩
         case measure=>simp[intOf];omega
        ·clear an;go_wp2_with fail;go_region_held_law (fun _=>True) (exact trivial) (first|(refine zcm rfl (.tmp 63) (.tmp 66) 62 62 rfl 116 zus 4 zab _ _ _ _ _ _ rfl rfl g7 (I1*4) ay 116 HG.out CS ac.out aJ (C.out _ _) K.out U.out w.heap.size w ag.out q ?_;intro w8 u8 a7 a8 a6));obtain⟨⟨d0,d1,d2,d3,q0,q1,q2,q3⟩,qf,qr⟩:=M.out w8 a7.out;have f0:=qf (i*4);have f1:=qf (i*4+1);have f2:=qf (i*4+2);have f3:=qf (i*4+3);have o:Blk w8 bx 94 #[X.kind,X.name,X.a,X.b,X.c,X.other,.slice ra TL rc]:=(a8.out bx aE.out).trans ab.out;have c1:_=some (Value.string X.name):=o.cell 1;have c2:_=some (Value.int .i64 X.a):=o.cell 2;have c3:_=some (Value.int .i64 X.b):=o.cell 3;have c4:_=some (Value.int .i64 X.c):=o.cell 4;have ak:=zH qr;have ai:=zH ((((a6.setCell (p:=⟨g7,i*4,none⟩) q (.string X.name)).setCell (p:=⟨g7,i*4+1,none⟩) q (.int .i64 X.a)).setCell (p:=⟨g7,i*4+2,none⟩) q (.int .i64 X.b)).setCell (p:=⟨g7,i*4+3,none⟩) q (.int .i64 X.c));clear qf qr o a7 a8 a6 M HG ac K U J C ag ab;go_wp2;go_roundw
         case rel=>exact⟨k+1,by omega,by go_num,by rw[HR.out,aH.out,aC.out];exact ak.out,ai.out⟩
         case measure=>simp[intOf];omega
   ·have ao:R=acc:=by rw[a2.out,zc2 hk1]
    have b3:Hid (W3.ownsRow w 116 4 (.slice oa acc.length oc) R.length (zl R)):=by
     show World.ownsRow _ _ _ _ _ _ _;rw[ao];exact av.out
    clear a2 ao av;go_wp2;go_roundw
    case rel=>exact⟨k+1,by omega,by go_num,by rw[HR.out];exact b3.out,az.out⟩
    case measure=>simp[intOf];omega
  ·have bG:¬(k:Int)<(ls.length:Int):=by omega
   obtain rfl:k=ls.length:=by omega
   have aG:=zH a1;have b0:=zH ah;clear a1 ah aI HI;go_wp2;go_ret;exact⟨_,rfl,by rw[<-aS.out];exact aG.out,b0.out⟩
end
