/- The reference: versions against each other; a number of a text. -/
import Derived.Test.YtlamemjfaogjmaaGreatDoorRlCat
set_option maxHeartbeats 2000000
set_option maxRecDepth 100000
namespace Go.Proofs.YtlamemjfaogjmaaGreatDoor
section
open Go.RowKit Go.Shelf Go.Lib Sv
theorem zb9{its:List It}{x:It}{k:Nat}(hk:k<its.length)(hx:x=its.getD k default)(hno:∀j,j<k->x≠its.getD j default):zJ its x=(k:Int):=by
 have gd:∀j (hj:j<its.length),its.getD j default=its[j]:=fun j hj=>by rw[List.getD_eq_getElem?_getD,List.getElem?_eq_getElem hj];rfl
 have h:its.findIdx? (fun y=>decide (x=y))=some k:=by
  rw[List.findIdx?_eq_some_iff_getElem];refine⟨hk,by rw[<-gd k hk];simpa using hx,fun j hj=>?_⟩;have:=hno j hj;rw[gd j (by omega)] at this;simpa using this
 unfold zJ;rw[h]
theorem zcs{its:List It}{x:It}(hno:∀j,j<its.length->x≠its.getD j default):zJ its x=-1:=by
 have gd:∀j (hj:j<its.length),its.getD j default=its[j]:=fun j hj=>by rw[List.getD_eq_getElem?_getD,List.getElem?_eq_getElem hj];rfl
 have h:its.findIdx? (fun y=>decide (x=y))=none:=by
  rw[List.findIdx?_eq_none_iff];intro y hy;obtain⟨j,hj,rfl⟩:=List.getElem_of_mem hy;have:=hno j hj;rw[gd j hj] at this;simpa using this
 unfold zJ;rw[h]
theorem zie(a b c a' b' c':Int)(w:World):(Op.equalIn 9999 56 (.agg #[.int .i64 a,.int .i64 b,.int .i64 c]) (.agg #[.int .i64 a',.int .i64 b',.int .i64 c'])).run Tryz.prog w=.ok (a==a'&&(b==b'&&c==c')) w:=by
 have u3:=Tryz.underlying3;have a3:=Tryz.isAgg3;have z3:=Tryz.sizeOf3;rw[show (9999:Nat)=9998+1 from rfl,Op.equalIn];simp only[Sem.run_bind,run_underlying Tryz.underlying56,Result.andThen_ok];simp only[Std.Legacy.Range.forIn_eq_forIn_range',Std.Legacy.Range.size,Nat.sub_zero,Nat.add_sub_cancel,Nat.div_one,List.range'_succ,List.range'_zero,List.forIn_cons,List.forIn_nil]
 by_cases h1:a=a'
 ·by_cases h2:b=b'
  ·by_cases h3:c=c'
   ·subst h1 h2 h3;go_simp
   ·have e3:(c==c')=false:=by simpa using h3
    subst h1 h2;go_simp
  ·have e2:(b==b')=false:=by simpa using h2
   subst h1;go_simp
 ·have e1:(a==a')=false:=by simpa using h1
  go_simp
theorem zem(x y:It)(w:World):(Op.equalIn 10000 62 (.agg #[.string x.name,.int .i64 x.a,.int .i64 x.b,.int .i64 x.c]) (.agg #[.string y.name,.int .i64 y.a,.int .i64 y.b,.int .i64 y.c])).run Tryz.prog w=.ok (decide (x=y)) w:=by
 have u3:=Tryz.underlying3;have a3:=Tryz.isAgg3;have z3:=Tryz.sizeOf3;have u9:=Tryz.underlying9;have a9:=Tryz.isAgg9;have z9:=Tryz.sizeOf9;have av:=Tryz.isAgg56;have zv:=Tryz.sizeOf56;have hS:Tryz.prog.underlying 62=some (.struct (Tryz.prog.fieldsOf 62)):=by kernel_rfl
 have hp:Tryz.prog.stoodInHeld 62=false:=by kernel_rfl
 have he:decide (x=y)=(x.name.toList==y.name.toList&&(x.a==y.a&&(x.b==y.b&&x.c==y.c))):=by
  obtain⟨n,a,b,c⟩:=x;obtain⟨n',a',b',c'⟩:=y;rw[Bool.eq_iff_iff];simp only[decide_eq_true_eq,It.mk.injEq,Bool.and_eq_true,beq_iff_eq];constructor
  ·rintro⟨rfl,rfl,rfl,rfl⟩;exact⟨rfl,rfl,rfl,rfl⟩
  ·rintro⟨h,rfl,rfl,rfl⟩;exact⟨yE h,rfl,rfl,rfl⟩
 rw[he];have h3:=zie x.a x.b x.c y.a y.b y.c;generalize x.name=n at *;generalize y.name=n' at *;generalize x.a=a at *;generalize x.b=b at *;generalize x.c=c at *;generalize y.a=a' at *;generalize y.b=b' at *;generalize y.c=c' at *;generalize (a==a'&&(b==b'&&c==c'))=q at *;clear he;rw[show (10000:Nat)=9999+1 from rfl,run_equalIn_struct w 9999 62 _ _ hS hp];simp only[Program.fieldsOf,Tryz.underlying62];cases hn:(n.toList==n'.toList)<;>cases q<;>go_simp
theorem ZG(its:List It)(x:It)(v:Value)(w:World)(h:zS w v its)(hl:its.length<=100000) :
  zR 17 #[v,.agg #[.string x.name,.int .i64 x.a,.int .i64 x.b,.int .i64 x.c]] w (.int .i64 (zJ its x)):=by
 obtain⟨va,vc,rfl,-⟩:=h.form;have hb0:zB w (w.alloc (.cells #[.string x.name,.int .i64 x.a,.int .i64 x.b,.int .i64 x.c] 62)):=(Below.refl _ w).alloc zN _;have k0:=Blk.new w 62 #[.string x.name,.int .i64 x.a,.int .i64 x.b,.int .i64 x.c];have HI:=zH (show zS (w.alloc (.cells #[.string x.name,.int .i64 x.a,.int .i64 x.b,.int .i64 x.c] 62)) (.slice va its.length vc) its from h.below hb0 zN);have HB0:=zH hb0;have HK0:=zH k0;have HAT:=zH (fun k hk hx hno=>zb9 (its:=its) (x:=x) (k:=k) hk hx hno);have HNO:=zH (fun hno=>zcs (its:=its) (x:=x) hno);have HEQ:=zH (fun y w=>zem x y w);clear h hb0 k0;go_enter Tryz.func17,Tryz.ntmps17;go_upto_region 1 with fail;generalize w.alloc (.cells #[.string x.name,.int .i64 x.a,.int .i64 x.b,.int .i64 x.c] 62)=W0 at *;go_wp2_with fail;go_loopw [9] (fun kV wr=>∃k:Nat,k<=its.length/\kV=.int .i64 k/\(∀j,j<k->x≠its.getD j default)/\zB W0 wr) (fun kV _=>its.length-(intOf kV).toNat)
 case atStart=>exact⟨0,Nat.zero_le _,rfl,fun j h=>by omega,Below.refl _ _⟩
 case round =>
  obtain⟨k,hk,rfl,hno,hbr⟩:=hrel;have HB:Hid (zB w wr):=zT HB0.out hbr;have HNK:=zH hno;have HBR:=zH hbr
  by_cases hlt:k<its.length
  ·obtain⟨g,cap',e1,hg,c0,c1,c2,c3⟩:=(show zS wr (.slice va its.length vc) its from HI.out.below hbr zN).at k hlt;simp at e1;obtain⟨rfl,rfl⟩:=e1;have kx:=HK0.out.below hbr HK0.out.lt;have hii0:(0:Int)<=(k:Int):=by omega
   have hii1:(k:Int)<(its.length:Int):=by omega
   obtain⟨X,hX⟩:∃X,its.getD k default=X:=⟨_,rfl⟩;rw[hX] at c0 c1 c2 c3;have HX:=zH hX;have hA:zB wr (wr.alloc (.cells #[.string X.name,.int .i64 X.a,.int .i64 X.b,.int .i64 X.c] 62)):=zF.alloc zN _;have kn:=Blk.new wr 62 #[.string X.name,.int .i64 X.a,.int .i64 X.b,.int .i64 X.c];have kx2:=kx.below hA kx.lt;have HA:=zH hA;have HKX:=zH kx2;have HKN:=zH kn;clear hno hbr kx hA kn kx2 hX;go_upto_region 4 with fail;generalize wr.alloc (.cells #[.string X.name,.int .i64 X.a,.int .i64 X.b,.int .i64 X.c] 62)=W3 at *;clear c0 c1 c2 c3;have c0:=HKX.out.cell 0;have c1:=HKX.out.cell 1;have c2:=HKX.out.cell 2;have c3:=HKX.out.cell 3;have d0:=HKN.out.cell 0;have d1:=HKN.out.cell 1;have d2:=HKN.out.cell 2;have d3:=HKN.out.cell 3;have HW3:Hid (zB w W3):=zT HB.out HA.out;have HW4:Hid (zB W0 W3):=zT HBR.out HA.out
   by_cases hx:x=X
   ·have heq:∀w,(Op.equalIn 10000 62 (.agg #[.string x.name,.int .i64 x.a,.int .i64 x.b,.int .i64 x.c]) (.agg #[.string X.name,.int .i64 X.a,.int .i64 X.b,.int .i64 X.c])).run Tryz.prog w=.ok true w:=fun w=>by rw[HEQ.out X w,decide_eq_true hx]
    have HR:Hid (zJ its x=(k:Int)):=HAT.out k hlt (by rw[hx,HX.out]) HNK.out;clear hx HNK HNO HAT HEQ HX;go_wp2;go_ret;exact⟨by rw[HR.out];rfl,HW3.out⟩
   ·have heq:∀w,(Op.equalIn 10000 62 (.agg #[.string x.name,.int .i64 x.a,.int .i64 x.b,.int .i64 x.c]) (.agg #[.string X.name,.int .i64 X.a,.int .i64 X.b,.int .i64 X.c])).run Tryz.prog w=.ok false w:=fun w=>by rw[HEQ.out X w,decide_eq_false hx]
    have HN:Hid (∀j,j<k+1->x≠its.getD j default):=fun j hj=>by
     rcases Nat.lt_or_ge j k with h|h
     ·exact HNK.out j h
     ·obtain rfl:j=k:=by omega
      rw[HX.out];exact hx
    clear hx HNK HNO HAT HEQ HX;go_wp2;go_roundw
    case rel=>exact⟨k+1,by omega,by go_num,HN.out,HW4.out⟩
    case measure=>simp[intOf];omega
  ·have hni:¬(k:Int)<(its.length:Int):=by omega
   obtain rfl:k=its.length:=by omega
   have HR:Hid (zJ its x=-1):=HNO.out HNK.out;clear HNO HAT HEQ hno hbr;go_wp2;go_ret;exact⟨by rw[HR.out];rfl,HB.out⟩
end
section
open Go.RowKit Sv
theorem zf7{P:Program}(w:World)(dT sT ty elem:TypeId)(g o dLen dCap:Nat)(a:Addr)(sLen sCap k:Nat)(cur:Array Value)(t:TypeId)(cs:List Value)
  (hu:P.underlying dT=some (.slice elem)) (hs:(P.info? elem).map (·.size)=some k)
  (hg:w.heap[g]?=some (.cells cur t (0,0))) (hn:cs.length=Nat.min sLen dLen*k)
  (hsrc:∀j v,cs[j]?=some v->w.cell? (a.add j)=some v) (hfit:o+cs.length<=cur.size) (h1:∀v∈cs,v.oneCell'=true) :
  (Builtin.copy_ #[dT,sT] ty #[.slice (some ⟨g,o,none⟩) dLen dCap,.slice (some a) sLen sCap]).run P w =
   .ok (goInt (Nat.min sLen dLen)) (w.setRow g (cur.toList.take o++cs++cur.toList.drop (o+cs.length)).toArray):=by
 have hl:=run_loadCells_list (P:=P) w a cs hsrc;have hst:=run_storeCells_at P g o t cs 0 cur w hg (by simpa using hfit) h1;cases hq:P.info? elem with
 |none=>simp[hq] at hs
 |some i =>
  have hi:i.size=k:=by simpa[hq] using hs
  simp[Builtin.copy_,run_underlying hu,Builtin.lenOf,Builtin.firstCells,sizeOf,typeInfo,hq,hi,<-hn,hl,hst]
theorem zaI{P:Program}(w:World)(dT sT ty elem:TypeId)(d a:Option Addr)(dLen dCap sLen sCap k:Nat)(hu:P.underlying dT=some (.slice elem))(hs:(P.info? elem).map (·.size)=some k)(hn:Nat.min sLen dLen=0) :
  (Builtin.copy_ #[dT,sT] ty #[.slice d dLen dCap,.slice a sLen sCap]).run P w=.ok (goInt 0) w:=by
 have hl:∀a,(loadCells a 0).run P w=.ok #[] w:=fun a=>run_loadCells_list (P:=P) w a [] (fun j v h=>by simp at h);cases hq:P.info? elem with
 |none=>simp[hq] at hs
 |some i =>cases d<;>cases a<;>simp[Builtin.copy_,run_underlying hu,Builtin.lenOf,Builtin.firstCells,sizeOf,typeInfo,hq,hn,storeCells,hl]
theorem Xz{P:Program}{ops:Array Oper}{o:Oper}{a:Act}{w:World}{K:Act->World->Prop}{Q:Exit->Act->World->Prop}{E:Prop}(hgd:o.guard=none)(d s:Operand)(dT sT:TypeId)
  (ho:o.op=.call { callee:=.builtin .copy,args:=#[d,s],argTypes:=#[dT,sT] }) (elem:TypeId) (hu:P.underlying dT=some (.slice elem)) (k:Nat) (hsz:(P.info? elem).map (·.size)=some k)
  (dp sp:Option Addr) (dLen dCap sLen sCap:Nat) (hd:a.eval d=.slice dp dLen dCap) (hs:a.eval s=.slice sp sLen sCap)
  (g off:Nat) (cur:List Value) (t:TypeId) (hg:w.heap[g]?=some (.cells cur.toArray t (0,0))) (cs:List Value) (hn:cs.length=Nat.min sLen dLen*k) (hk:0<k)
  (hpos:0<cs.length->dp=some ⟨g,off,none⟩/\∃ad,sp=some ad/\∀j v,cs[j]?=some v->w.cell? (ad.add j)=some v)
  (hfit:off+cs.length<=cur.length) (h1:∀v∈cs,v.oneCell'=true) (B:Nat) (w0:World) (hb:RowKit.Below B w0 w) (hBg:B<=g)
  (h:∀w' v,RowKit.Hid (w'.heap[g]?=some (.cells (splice cur off cs).toArray t (0,0)))->RowKit.Hid (∀k,k≠g->w'.heap[k]?=w.heap[k]?)->RowKit.Below B w0 w'->K (a.put o.dst v) w') :
  if Region.wanted o (yielded ops a.tmps)=true then Oper.wp P o a w K Q else E:=by
 have hw:Region.wanted o (yielded ops a.tmps)=true:=by simp[Region.wanted,hgd]
 rw[if_pos hw]
 by_cases h0:cs.length=0
 ·obtain rfl:cs=[]:=List.eq_nil_of_length_eq_zero h0;have hz:Nat.min sLen dLen=0:=by
   rcases Nat.mul_eq_zero.1 (show Nat.min sLen dLen*k=0 by simpa using hn.symm) with e|e
   ·exact e
   ·omega
  have hrun:=zaI (P:=P) w dT sT o.type elem dp sp dLen dCap sLen sCap k hu hsz hz;unfold Oper.wp;simp[execOp,ho,resolve,invoke,builtin,hd,hs,hrun,Result.andThen];exact h w _ (show _=_ by simpa[splice] using hg) (fun _ _=>rfl) hb
 ·obtain⟨rfl,ad,rfl,hsrc⟩:=hpos (by omega);have hrun:=zf7 (P:=P) w dT sT o.type elem g off dLen dCap ad sLen sCap k cur.toArray t cs hu hsz hg hn hsrc (by simpa using hfit) h1;unfold Oper.wp;simp[execOp,ho,resolve,invoke,builtin,hd,hs,hrun,Result.andThen];exact h _ _ (show _=_ by simpa[splice] using setRow_heap w g _ _ t _ hg) (fun k hk=>setRow_other w g k _ hk) (below_setRow hb hBg _)
theorem zdX(l:List It)(i:Nat):zf (l.take i)=(zf l).take (i*4):=by
 rcases Nat.le_total i l.length with h|h
 ·have e:zf l=zf (l.take i)++zf (l.drop i):=by rw[<-Q9,List.take_append_drop]
  have hl:(zf (l.take i)).length=i*4:=by rw[yr,List.length_take];omega
  rw[e,<-hl,List.take_left]
 ·rw[List.take_of_length_le h,List.take_of_length_le (by rw[yr];omega)]
theorem zdG(l:List It)(i:Nat):zf (l.drop i)=(zf l).drop (i*4):=by
 rcases Nat.le_total i l.length with h|h
 ·have e:zf l=zf (l.take i)++zf (l.drop i):=by rw[<-Q9,List.take_append_drop]
  have hl:(zf (l.take i)).length=i*4:=by rw[yr,List.length_take];omega
  rw[e,<-hl,List.drop_left]
 ·rw[List.drop_of_length_le h,List.drop_of_length_le (by rw[yr];omega)];rfl
theorem zfk{L:List Value}{p:Nat}(h:p+4<=L.length)(a b c d:Value):(((L.set p a).set (p+1) b).set (p+2) c).set (p+3) d=L.take p++([a,b,c,d]++L.drop (p+4)):=by
 apply List.ext_getElem?;intro j;simp only[List.getElem?_set,List.getElem?_append,List.length_take,List.length_set,List.getElem?_take,List.length_cons,List.length_nil,List.getElem?_drop];rcases Nat.lt_trichotomy j p with q|q|q
 ·rw[if_neg (by omega),if_neg (by omega),if_neg (by omega),if_neg (by omega),if_pos (by omega),if_pos q]
 ·subst q;rw[if_neg (by omega),if_neg (by omega),if_neg (by omega),if_pos rfl,if_pos (by omega),if_neg (by omega),if_pos (by omega)];simp[show j-min j L.length=0 by omega]
 ·by_cases q1:j=p+1
  ·subst q1;rw[if_neg (by omega),if_neg (by omega),if_pos rfl,if_pos (by omega),if_neg (by omega),if_pos (by omega)];simp[show p+1-min p L.length=1 by omega]
  ·by_cases q2:j=p+2
   ·subst q2;rw[if_neg (by omega),if_pos rfl,if_pos (by omega),if_neg (by omega),if_pos (by omega)];simp[show p+2-min p L.length=2 by omega]
   ·by_cases q3:j=p+3
    ·subst q3;rw[if_pos rfl,if_pos (by omega),if_neg (by omega),if_pos (by omega)];simp[show p+3-min p L.length=3 by omega]
    ·rw[if_neg (by omega),if_neg (by omega),if_neg (by omega),if_neg (by omega),if_neg (by omega),if_neg (by omega)];congr 1;omega
theorem zhY{acc:List It}{x z:It}{i cap:Nat}{cur:List Value}(hi:i<=acc.length)(hsz:cur.length=cap*4)(hnc:acc.length+1<=cap)(htk:cur.take ((acc.length+1)*4)=zf acc++zr z) :
  ((((splice cur ((i+1)*4) ((zf acc).drop (i*4))).set (i*4) (.string x.name)).set (i*4+1) (.int .i64 x.a)).set (i*4+2) (.int .i64 x.b)).set (i*4+3) (.int .i64 x.c)=zf (yj acc x i)++cur.drop ((acc.length+1)*4):=by
 have hL:(zf acc).length=acc.length*4:=yr acc;have hD:((zf acc).drop (i*4)).length=(acc.length-i)*4:=by rw[List.length_drop,hL];omega
 have hcur:cur=zf acc++(zr z++cur.drop ((acc.length+1)*4)):=by
  have:=List.take_append_drop ((acc.length+1)*4) cur;rw[htk] at this;rw[<-List.append_assoc];exact this.symm
 have hlen:(splice cur ((i+1)*4) ((zf acc).drop (i*4))).length=cur.length:=length_splice _ _ _ (by rw[hD,hsz];omega);rw[zfk (by rw[hlen,hsz];omega)];have e1:(splice cur ((i+1)*4) ((zf acc).drop (i*4))).take (i*4)=zf (acc.take i):=by
  unfold splice;rw[List.take_append_of_le_length (by rw[List.length_take,hsz];omega),List.take_take,show min (i*4) ((i+1)*4)=i*4 by omega];rw[hcur,List.take_append_of_le_length (by rw[hL];omega),zdX]
 have e2:(splice cur ((i+1)*4) ((zf acc).drop (i*4))).drop (i*4+4)=zf (acc.drop i)++cur.drop ((acc.length+1)*4):=by
  unfold splice;have hl:(cur.take ((i+1)*4)).length=i*4+4:=by rw[List.length_take,hsz];omega
  rw[<-hl,List.drop_left,zdG,hD];congr 2;omega
 rw[e1,e2];unfold yj;rw[Q9];show _=(_++zf (x :: acc.drop i))++_;rw[show zf (x :: acc.drop i)=zr x++zf (acc.drop i) from rfl];simp[zr]
theorem zgw{w3:World}{B i:Nat}{acc:List It}{x z:It}{v':Value}(hi:i<=acc.length)(hown:w3.ownsRow B 62 4 v' (acc.length+1) (zf acc++zr z)) :
  ∃(g cap:Nat) (cur CS:List Value),v'=.slice (some ⟨g,0,none⟩) (acc.length+1) cap/\B<=g/\acc.length+1<=cap/\w3.heap[g]?=some (.cells cur.toArray 62 (0,0)) /\
   (∀w4:World,w4.heap[g]?=some (.cells (splice cur ((i+1)*4) CS).toArray 62 (0,0))->(∃c0 c1 c2 c3,w4.cell? ⟨g,i*4,none⟩=some c0/\w4.cell? ⟨g,i*4+1,none⟩=some c1/\w4.cell? ⟨g,i*4+2,none⟩=some c2/\w4.cell? ⟨g,i*4+3,none⟩=some c3)/\(∀j,w4.frozen? ⟨g,j,none⟩=false)/\((((w4.setCell ⟨g,i*4,none⟩ (.string x.name)).setCell ⟨g,i*4+1,none⟩ (.int .i64 x.a)).setCell ⟨g,i*4+2,none⟩ (.int .i64 x.b)).setCell ⟨g,i*4+3,none⟩ (.int .i64 x.c)).ownsRow B 62 4 (.slice (some ⟨g,0,none⟩) (acc.length+1) cap) (acc.length+1) (zf (yj acc x i))) /\
   (∀j v,CS[j]?=some v->w3.cell? ⟨g,i*4+j,none⟩=some v)/\(∀v∈CS,v.oneCell'=true)/\CS.length=Nat.min (acc.length+1-i) (acc.length+1-(i+1))*4/\(i+1)*4+CS.length<=cur.length:=by
 rcases hown.2 with ⟨_,h0'⟩|⟨g,cap,cur,rfl,hBg,hg,hnc,hmx,hsz,htk⟩
 ·exact absurd h0' (by simp)
 have hL:(zf acc).length=acc.length*4:=yr acc;have hD:((zf acc).drop (i*4)).length=(acc.length-i)*4:=by rw[List.length_drop,hL];omega
 have hsz':cur.toList.length=cap*4:=by simpa using hsz
 refine⟨g,cap,cur.toList,(zf acc).drop (i*4),rfl,hBg,hnc,by simpa using hg,fun w4 h4=>?_,fun j v hv=>?_,fun v hv=>?_,?_,?_⟩
 ·have hlen:(splice cur.toList ((i+1)*4) ((zf acc).drop (i*4))).length=cap*4:=by rw[length_splice _ _ _ (by rw[hD,hsz'];omega),hsz']
  have hB:Blk w4 g 62 (splice cur.toList ((i+1)*4) ((zf acc).drop (i*4))).toArray:=h4;have hex:∀j,j<cap*4->∃u,w4.cell? ⟨g,j,none⟩=some u:=fun j hj=>by
   rw[hB.cell];exact⟨(splice cur.toList ((i+1)*4) ((zf acc).drop (i*4)))[j]'(by rw[hlen];exact hj),by rw[List.getElem?_toArray,List.getElem?_eq_getElem]⟩
  obtain⟨c0,h0⟩:=hex (i*4) (by omega);obtain⟨c1,h1⟩:=hex (i*4+1) (by omega);obtain⟨c2,h2⟩:=hex (i*4+2) (by omega);obtain⟨c3,h3⟩:=hex (i*4+3) (by omega);refine⟨⟨c0,c1,c2,c3,h0,h1,h2,h3⟩,fun j=>hB.frozen j,?_⟩;have hF:=(((hB.set (i:=i*4) (v:=.string x.name)).set (i:=i*4+1) (v:=.int .i64 x.a)).set (i:=i*4+2) (v:=.int .i64 x.b)).set (i:=i*4+3) (v:=.int .i64 x.c);refine⟨by rw[yr,Yu],Or.inr ⟨g,cap,_,rfl,hBg,hF,hnc,hmx,by simp[hlen],?_⟩⟩;simp only[List.setIfInBounds_toArray];rw[zhY hi hsz' hnc (by simpa using htk)];have:(zf (yj acc x i)).length=(acc.length+1)*4:=by rw[yr,Yu]
  rw[<-this,List.take_left]
 ·have hj:i*4+j<acc.length*4:=by have:=(List.getElem?_eq_some_iff.1 hv).1;rw[hD] at this;omega
  rw[(show Blk w3 g 62 cur from hg).cell,<-hv,List.getElem?_drop,<-Array.getElem?_toList,show cur.toList[i*4+j]?=(cur.toList.take ((acc.length+1)*4))[i*4+j]? by rw[List.getElem?_take,if_pos (by omega)],htk,List.getElem?_append_left (by rw[hL];omega)]
 ·have hm:=List.mem_of_mem_drop hv;unfold zf at hm;obtain⟨y,_,hy⟩:=List.mem_flatMap.1 hm;simp only[zr,List.mem_cons,List.not_mem_nil,or_false] at hy;rcases hy with rfl|rfl|rfl|rfl<;>rfl
 ·rw[hD];show _=min _ _*4;omega
 ·rw[hD,hsz'];omega
end
section
open Go.RowKit Sv
theorem zfW(a b c d e f:Int)(w:World) :
  zC 38 #[.agg #[.int .i64 a,.int .i64 b,.int .i64 c],.agg #[.int .i64 d,.int .i64 e,.int .i64 f]] w fun r w'=>r=.returned (.int .i64 (qp (tI a b c) (tI d e f) 3))/\zB w w':=by
 have kv:=(Blk.new w 56 #[.int .i64 a,.int .i64 b,.int .i64 c]).alloc (.cells #[.int .i64 d,.int .i64 e,.int .i64 f] 56);have kw:=Blk.new (w.alloc (.cells #[.int .i64 a,.int .i64 b,.int .i64 c] 56)) 56 #[.int .i64 d,.int .i64 e,.int .i64 f];rw[World.size_alloc] at kw;have hB0:zB w ((w.alloc (.cells #[.int .i64 a,.int .i64 b,.int .i64 c] 56)).alloc (.cells #[.int .i64 d,.int .i64 e,.int .i64 f] 56)):=((Below.refl _ w).alloc zN _).alloc (by simp only[World.size_alloc];omega) _;have HB0:=zH hB0;have HX:Hid (∀W,Below ((w.alloc (.cells #[.int .i64 a,.int .i64 b,.int .i64 c] 56)).alloc (.cells #[.int .i64 d,.int .i64 e,.int .i64 f] 56)).heap.size ((w.alloc (.cells #[.int .i64 a,.int .i64 b,.int .i64 c] 56)).alloc (.cells #[.int .i64 d,.int .i64 e,.int .i64 f] 56)) W->∀j,j<3->W.cell? ⟨w.heap.size,j,none⟩=some (.int .i64 (tI a b c j))/\W.cell? ⟨w.heap.size+1,j,none⟩=some (.int .i64 (tI d e f j))):=fun W hb j hj=>by
  rw[(kv.below hb kv.lt).cell j,(kw.below hb kw.lt).cell j]
  match j,hj with
  |0,_=>exact⟨rfl,rfl⟩
  |1,_=>exact⟨rfl,rfl⟩
  |2,_=>exact⟨rfl,rfl⟩
 clear kv kw hB0;go_enter Tryz.func38,Tryz.ntmps38;go_wp2_with fail;generalize (w.alloc (.cells #[.int .i64 a,.int .i64 b,.int .i64 c] 56)).alloc (.cells #[.int .i64 d,.int .i64 e,.int .i64 f] 56)=W0 at *;go_loopw [6] (fun iV wr=>∃k:Nat,k<=3/\iV=.int .i64 k/\qp (tI a b c) (tI d e f) 3=qp (tI a b c) (tI d e f) (3-k)/\zB W0 wr) (fun iV _=>3-(intOf iV).toNat)
 case atStart=>exact⟨0,by omega,rfl,rfl,Below.refl _ _⟩
 case round =>
  obtain⟨k,hk,rfl,heq,hbr⟩:=hrel;have HE:=zH heq;have HBR:=zH hbr;clear heq hbr
  by_cases hlt:k<3
  ·have hcells:=fun (n:Nat)=>HX.out (wr.drewN n) ⟨HBR.out.os,HBR.out.tape,HBR.out.output,HBR.out.size,HBR.out.block⟩ k hlt;obtain⟨c0,c1⟩:=HX.out wr HBR.out k hlt;have HS:Hid (qp (tI a b c) (tI d e f) (3-k)=if qg (tI a b c k) (tI d e f k)≠0 then qg (tI a b c k) (tI d e f k) else qp (tI a b c) (tI d e f) (3-(k+1))):=by
    show _=_
    match k,hlt with
    |0,_=>rfl
    |1,_=>rfl
    |2,_=>rfl
   have HCL:=zH hcells;clear hcells;generalize tI a b c k=X at *;generalize tI d e f k=Y at *;have HBN:Hid (∀n,zB W0 (wr.drewN n)):=fun n=>⟨HBR.out.os,HBR.out.tape,HBR.out.output,HBR.out.size,HBR.out.block⟩
   by_cases h1:X<Y
   ·have HC:Hid (qg X Y=-1):=by show _=_;unfold qg;rw[if_pos h1]
    go_wp2_with fail;go_quiet (fail);go_wp2;go_ret;exact⟨by rw[HE.out,HS.out,HC.out];rfl,HB0.out.trans ((HBN.out _).mono HB0.out.size)⟩
   ·by_cases h2:Y<X
    ·have HC:Hid (qg X Y=1):=by show _=_;unfold qg;rw[if_neg h1,if_pos h2]
     go_wp2_with fail;go_quiet (fail);have d0:=(HCL.out nq).1;have d1:=(HCL.out nq).2;have HB9:=zH (HBN.out nq);clear c0 c1 HBN HCL;generalize wr.drewN nq=W9 at *;go_wp2_with fail;go_quiet (fail);have HBN:Hid (∀n,zB W0 (W9.drewN n)):=fun n=>⟨HB9.out.os,HB9.out.tape,HB9.out.output,HB9.out.size,HB9.out.block⟩;go_wp2;go_ret;exact⟨by rw[HE.out,HS.out,HC.out];rfl,HB0.out.trans ((HBN.out _).mono HB0.out.size)⟩
    ·have HC:Hid (qg X Y=0):=by show _=_;unfold qg;rw[if_neg h1,if_neg h2]
     go_wp2_with fail;go_quiet (fail);have d0:=(HCL.out nq).1;have d1:=(HCL.out nq).2;have HB9:=zH (HBN.out nq);clear c0 c1 HBN HCL;generalize wr.drewN nq=W9 at *;go_wp2_with fail;go_quiet (fail);have HBN:Hid (∀n,zB W0 (W9.drewN n)):=fun n=>⟨HB9.out.os,HB9.out.tape,HB9.out.output,HB9.out.size,HB9.out.block⟩;go_wp2;go_roundw
     case rel=>exact⟨k+1,by omega,by go_num,by rw[HE.out,HS.out,HC.out,if_neg (by simp)],HBN.out _⟩
     case measure=>simp[intOf];omega
  ·obtain rfl:k=3:=by omega
   go_wp2;go_ret;exact⟨by rw[HE.out];rfl,zT HB0.out HBR.out⟩
end
end Go.Proofs.YtlamemjfaogjmaaGreatDoor
